/-
  UtfDecodes: the code points of any bytes are the document's; the bytes stay.
-/
import Derived.Test.YtijjifdgmffenaaDoorUW
import Derived.Test.YtijjifdgmffenaaDoorUM
namespace Go.Proofs.YtijjifdgmffenaaDoor
namespace UtfDecodesProof
open Go.ChangeShapes Go.WideShapes Go.ChangeAt Go.WideMaps Go.WideElems Go.RowKit

set_option maxHeartbeats 2000000 in
theorem walk_out (L cap : Nat) (p : Option Addr) (w : World) (hL : LaidU w) (d1 : decide ((2000 : Int) < (L : Int)) = true) :
    Calls Tryd.prog 4 #[.slice p L cap] w fun e w' => e = .returned (.bool true) ∧ Below w.heap.size w w' := by
  have HK := hide (known_any w hL)
  clear hL
  go_enter Tryd.func4, Tryd.ntmps4
  go_wp2_with fail
  refine HK.out.mono ?_
  rintro r w0 ⟨rfl, b0⟩
  have HB0 := hide b0
  clear b0 HK
  go_wp2_with fail
  go_ret
  exact ⟨rfl, HB0.out⟩

set_option maxHeartbeats 8000000 in
set_option maxRecDepth 100000 in
theorem walk_in (L cap n : Nat) (p : Option Addr) (bs ts : List Nat) (w : World) (hp : Piece w p cap bs) (hl : bs.length = L) (hL2 : L ≤ 2000) (ht : utfF bs = ts) (hn : ts.length = n) (hnL : n ≤ L) (hL : LaidU w) :
    Calls Tryd.prog 4 #[.slice p L cap] w fun e w' => e = .returned (.bool true) ∧ Below w.heap.size w w' := by
  have HK := hide (known_any w hL)
  have HP := hide (And.intro hp (And.intro hl (And.intro hL2 (And.intro ht (And.intro hn hnL)))))
  have HL := hide hL
  have d1 : decide ((2000 : Int) < (L : Int)) = false := decide_eq_false (by omega)
  have HSZ : Hid (0 + L ≤ 140737488355328) := by show _ ≤ _; omega
  have HI9 : Hid (L ≤ 99000 ∧ n ≤ 99000) := ⟨by omega, by omega⟩
  clear hp hl hL2 hL ht hn hnL
  go_enter Tryd.func4, Tryd.ntmps4
  go_wp2_with fail
  refine HK.out.mono ?_
  rintro r w0 ⟨rfl, b0⟩
  have HB0 := hide b0
  have HP0 := hide (HP.out.1.kept b0)
  clear b0 HK
  go_upto_region 6 with (refine wpList_append_bytes rfl _ _ rfl w0.heap.size _ [] rfl 0 rfl (own_emptyb w0) p L cap bs HP.out.2.1 rfl (HP0.out.kept ((Below.refl _ _).alloc (Nat.le_refl _) _)).1 HP0.out.2.1 HSZ.out (by simp) ?_; intro v5 w5 ho5 hw5; have HO5 := hide ho5; have HB5 : Hid (Below w0.heap.size w0 w5) := ((Below.refl _ _).alloc (Nat.le_refl _) _).grown hw5 (by simp) (fun k hk => by cases hk; exact Nat.le_refl _); clear ho5 hw5)
  have hown := HO5.out
  rw [Nat.zero_add, List.nil_append] at hown
  obtain ⟨po, co, rfl, hq, _⟩ := own_piece_n hown HP.out.2.1 HP.out.1.2.2.1
  have HQ := hide hq
  have HBW : Hid (Below w.heap.size w w5) := HB0.out.trans (HB5.out.mono HB0.out.size)
  have HP5 := hide (HP0.out.kept HB5.out)
  have HD := decode_of L co po bs w5 (HL.out.kept HBW.out) hq HP.out.2.1 HI9.out.1 HP.out.2.2.2.1
  rw [HP.out.2.2.2.2.1] at HD
  have HDE := hide HD
  clear hown hq HD HO5 HB5 HB0 HP0 d1
  go_wp2_with fail
  refine HDE.out.mono ?_
  rintro r w6 ⟨p6, c6, rfl, r6, _, b6⟩
  have HR6 := hide r6
  have HB6 : Hid (Below w5.heap.size w5 w6) := b6
  have HA := rall_any L cap p bs w6 (HP5.out.kept b6) HP.out.2.1 HI9.out.1 HP.out.2.2.2.1
  rw [HP.out.2.2.2.2.1] at HA
  have HAL := hide HA
  clear r6 b6 HA HDE
  go_wp2_with fail
  refine HAL.out.mono ?_
  rintro r w7 ⟨p7, c7, rfl, r7, b7⟩
  have HB7 : Hid (Below w5.heap.size w5 w7) := HB6.out.trans (b7.mono HB6.out.size)
  have HSM := hide (rsame_any n c6 c7 p6 p7 (ints ts) w7 (HR6.out.kept b7) r7 (by rw [ints_length]; exact HP.out.2.2.2.2.1) HI9.out.2)
  clear r7 b7 HAL HR6 HB6
  go_wp2_with fail
  refine HSM.out.mono ?_
  rintro r w8 ⟨rfl, b8⟩
  have HB8 : Hid (Below w5.heap.size w5 w8) := HB7.out.trans (b8.mono HB7.out.size)
  have cv1 := conv_any (HQ.out.kept HB8.out).1 (c := co) L HP.out.2.1
  have cv2 := conv_any (HP5.out.kept HB8.out).1 (c := cap) L HP.out.2.1
  clear b8 HSM HB7
  go_wp2_with fail
  go_ret
  exact ⟨rfl, HBW.out.trans (HB8.out.mono HBW.out.size)⟩

theorem walk (p : Option Addr) (cap : Nat) (bs : List Nat) (w : World) (hp : Piece w p cap bs) (hL : LaidU w) :
    Calls Tryd.prog 4 #[.slice p bs.length cap] w fun e w' => e = .returned (.bool true) ∧ Below w.heap.size w w' := by
  by_cases h1 : (2000 : Int) < (bs.length : Int)
  · exact walk_out _ cap p w hL (decide_eq_true h1)
  · exact walk_in _ cap _ p bs (utfF bs) w hp rfl (by omega) rfl rfl (utfF_len bs).1 hL

set_option maxRecDepth 100000 in
theorem lifted (os : Os) (started : os.Started) (H : Type) (enc : TypeId × Value → H) :
    ReturnsInHanded {} Tryd.checked os 4 .any (fun w args => (Rows.utfDecodesSpec.pre enc Tryd.prog Tryd.f4 [] false w args ∧ laidMetH Tryd.prog laid1 w) ∧ sizedMet enc Tryd.prog Tryd.f4 (OpenSpec.ofChange Rows.utfDecodesSpec) false w args)
      (Rows.utfDecodesSpec.post enc Tryd.prog Tryd.f4 false true false false) := by
  refine returnsInHanded_of_change_and (C := Tryd.checked) (X := fun w _ => laidMetH Tryd.prog laid1 w) (fun _ _ _ hh h => h.of_heap hh) own started (by kernel_rfl) Tryd.func4
    (ChangeSpec.witness_shaped (enc := enc) (C := Tryd.checked) (os := os) (X := fun w _ => laidMetH Tryd.prog laid1 w) false (World.doorLaid Tryd.prog 400 os) #[.slice none 0 0] 8 rfl (World.shaped_of_RefB (by kernel_rfl) (by kernel_rfl)) (by kernel_rfl) (by kernel_rfl) (by kernel_rfl) (door_met os _)) ?_
  intro W base args ds gs before hval0 hW _ hsz hL _
  have hval : ∀ (j : Nat) t v, Tryd.f4.params[j]? = some t → args[j]? = some v → Value.okWide Tryd.prog W .any base t v := hval0
  have hW' := hW
  obtain ⟨p, q, hA0, hV, rfl, hfz, hnd⟩ := hW
  have hA : DataW.TrodAll enc Tryd.prog W 0 (fun _ => true) true Tryd.f4.params.toList args.toList ds p := hA0
  rw [Tryd.params4] at hA hval
  obtain ⟨v0, vs0, d0, ds0, p0, q0, hargs, rfl, rfl, h0, r0⟩ := trodAll_cons hA
  obtain ⟨rfl, rfl, rfl⟩ := trodAll_nil r0
  obtain rfl : args = #[v0] := by cases args; simp_all
  obtain ⟨rfl, rfl⟩ := trodVars_none hV
  obtain ⟨a0, len0, cap0, rfl⟩ := okWide_slice Tryd.underlying22 (hval 0 22 v0 rfl rfl)
  have k0 := h0
  have lt0 : ∀ x ∈ p0, x.block < W.heap.size := by obtain ⟨m, hm⟩ := k0; exact DataW.trod_lt m _ _ _ hm
  obtain ⟨fuel0, hf0⟩ := h0
  obtain ⟨a0', cap0', x0, hcs0, w0⟩ := piece_of hf0
  simp [Value.cells] at hcs0
  obtain ⟨rfl, rfl, rfl⟩ := hcs0
  clear hf0
  clear hA0 hval0
  refine (walk a0 cap0 x0 W w0 (of_laid hL)).mono fun e W' ⟨he, bel⟩ => ?_
  subst he
  exact ⟨_, rfl, _, _, _, [], _, [], hW', trodAll_mk1 (shut_bool Tryd.underlying4 _), (trodAll_cons_mk (Below.trod laidOut (by kernel_rfl) (of_decide_eq_true (by kernel_rfl)) k0 bel lt0) trodAll_mk0), rfl, bel.frame _, fun h => by cases h⟩

theorem row : Rows.UtfDecodesSaid :=
  OpenClaim.holds_of_wide 4 Tryd.f4 rfl rfl rfl rfl rfl rfl rfl ⟨rfl, rfl, rfl, rfl, rfl⟩ rfl rfl rfl rfl rfl (by kernel_rfl) Tryd.func4 (by kernel_rfl)
    (of_decide_eq_true (by kernel_rfl)) (by unfold Func.isWrapper; first | (rw [if_pos (by decide +kernel)]; kernel_rfl) | (rw [if_neg (by decide +kernel)]; exact ⟨rfl, rfl⟩))
    (fun os started H enc _ => lifted os started H enc)

theorem card : Rows.UtfDecodesCardSaid :=
  Claim7.holds_tied_plain_at .later [] [.data] true (true, Rows.utfDecodesCard.stood.harness.2) false
    row (fun _ h => by cases h) (by kernel_rfl) (fun _ h => by cases h) utfDecodes_row_tie rfl ⟨rfl, rfl⟩ (by kernel_rfl) rfl
    (fun f fn hf hfn => by
      obtain rfl : f = 4 := Option.some.inj ((show Tryd.prog.funcNamed "oriel/oriellaw10.UtfDecodes" = some 4 by kernel_rfl).symm.trans hf) |>.symm
      obtain rfl : fn = Tryd.f4 := (Option.some.inj (Tryd.func4.symm.trans hfn)).symm
      exact ⟨by kernel_rfl, fun j t ht => by
        rw [Tryd.params4] at ht
        have hm : t ∈ [22] := by simpa using Array.mem_of_getElem? ht
        have hall : ([22].all fun u => !Tryd.prog.wantsStandIn u) = true := by kernel_rfl
        exact (show Tryd.prog.wantsStandIn t = false by simpa using List.all_eq_true.1 hall t hm)⟩)
    (by kernel_rfl)


end UtfDecodesProof

/-- The code points of any bytes are the document's. -/
theorem utfDecodes_holds : Rows.UtfDecodesCardSaid := UtfDecodesProof.card
#print axioms utfDecodes_holds
end Go.Proofs.YtijjifdgmffenaaDoor
