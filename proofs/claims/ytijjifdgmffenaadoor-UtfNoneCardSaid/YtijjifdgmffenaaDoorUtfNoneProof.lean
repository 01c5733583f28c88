/-
  UtfNone: a decoder that is not there; one that New did not make.
-/
import Derived.Test.YtijjifdgmffenaaDoorUX
import Derived.Test.YtijjifdgmffenaaDoorUM
namespace Go.Proofs.YtijjifdgmffenaaDoor
namespace UtfNoneProof
open Go.ChangeShapes Go.WideShapes Go.ChangeAt Go.WideMaps Go.WideElems Go.RowKit

set_option maxHeartbeats 2000000 in
theorem walk_out (L cap : Nat) (p : Option Addr) (w : World) (hL : LaidU w) (d1 : decide ((500 : Int) < (L : Int)) = true) :
    Calls Tryd.prog 6 #[.slice p L cap] w fun e w' => e = .returned (.bool true) ∧ Below w.heap.size w w' := by
  have HK := hide (known_any w hL)
  clear hL
  go_enter Tryd.func6, Tryd.ntmps6
  go_wp2_with fail
  refine HK.out.mono ?_
  rintro r w0 ⟨rfl, b0⟩
  have HB0 := hide b0
  clear b0 HK
  go_wp2_with fail
  go_ret
  exact ⟨rfl, HB0.out⟩

set_option maxHeartbeats 8000000 in
set_option maxRecDepth 100000 in
theorem walk_in (L cap n m : Nat) (p : Option Addr) (bs us ts : List Nat) (d : Dc) (w : World) (hp : Piece w p cap bs) (hl : bs.length = L) (hL2 : L ≤ 500) (hu : utfF bs = us) (hun : us.length = m) (hm9 : m ≤ 99000) (ht : Dc.no.run bs = (d, ts)) (hn : ts.length = n) (hn9 : n ≤ 99000) (hL : LaidU w) :
    Calls Tryd.prog 6 #[.slice p L cap] w fun e w' => e = .returned (.bool true) ∧ Below w.heap.size w w' := by
  have HK := hide (known_any w hL)
  have HP := hide (And.intro hp (And.intro hl (And.intro hL2 (And.intro hu (And.intro hun (And.intro hm9 (And.intro ht (And.intro hn hn9))))))))
  have HL := hide hL
  have d1 : decide ((500 : Int) < (L : Int)) = false := decide_eq_false (by omega)
  have HL9 : Hid (L ≤ 99000) := by show _ ≤ _; omega
  clear hp hl hL2 hL hu hun hm9 ht hn hn9
  go_enter Tryd.func6, Tryd.ntmps6
  go_wp2_with fail
  refine HK.out.mono ?_
  rintro r w0 ⟨rfl, b0⟩
  have HB0 := hide b0
  have HP0 := hide (HP.out.1.kept b0)
  have HL0 := hide (HL.out.kept b0)
  have HA1 := hide (Arr.new w0 41 (dcC Dc.no))
  have HB1 : Hid (Below w0.heap.size w0 (w0.alloc (.cells (dcC Dc.no).toArray 41))) := (Below.refl _ _).alloc (Nat.le_refl _) _
  have HCN := hide (copy_nil (w0.alloc (.cells (dcC Dc.no).toArray 41)))
  clear b0 HK
  go_wp2_with fail
  refine HCN.out.mono ?_
  rintro r w2 ⟨rfl, a2, b2⟩
  have hC : (w0.alloc (.cells (dcC Dc.no).toArray 41)).heap.size = w0.heap.size + 1 := by simp
  rw [hC] at a2 b2
  rw [hC]
  have HB2 : Hid (Below w0.heap.size w0 w2) := HB1.out.trans (b2.mono (Nat.le_succ _))
  have HA2 : Hid (Arr w2 w0.heap.size 41 (dcC Dc.no)) := HA1.out.below (Nat.lt_succ_self _) b2
  obtain ⟨Z, hZ⟩ : ∃ Z, w0.heap.size = Z := ⟨_, rfl⟩
  rw [hZ] at a2
  have HZ := hide hZ
  have HZ0 : Hid (0 < Z) := by rw [← hZ]; exact HL0.out.size
  rw [hZ] at HA2 HB2
  rw [hZ]
  have HC2 := hide a2
  have HRD := hide (rdecode_fresh L cap p bs w2 (HP0.out.kept (by rw [hZ]; exact HB2.out)) HP.out.2.1 HL9.out HP.out.2.2.2.2.2.2.1)
  have hn := HP.out.2.2.2.2.2.2.2.1
  rw [hn] at HRD
  obtain ⟨hh, hhh⟩ : ∃ hh : Int, (d.h : Int) = hh := ⟨_, rfl⟩
  rw [hhh] at HRD
  have HH := hide hhh
  clear a2 b2 hC hZ hn HCN HB1 HA1 hhh d1
  go_wp2_with fail
  refine HRD.out.mono ?_
  rintro r w3 ⟨pw, cw, rfl, r3, f3, b3⟩
  have HWN := hide (And.intro r3 f3)
  have HFR := hide f3
  have HSZ3 : Hid (w2.heap.size ≤ w3.heap.size) := b3.size
  have HWS : Hid (Z + 1 < w2.heap.size) := HC2.out.lt
  have HB3 : Hid (Below Z w0 w3) := HB2.out.trans (b3.mono (Nat.le_of_lt (Nat.lt_trans (Nat.lt_succ_self _) HWS.out)))
  have HA3 := hide (And.intro (HA2.out.kept b3) (HC2.out.kept b3))
  have hP3 : Piece w3 p cap bs := HP0.out.kept (by rw [HZ.out]; exact HB3.out)
  have hL3 : LaidU w3 := HL0.out.kept (by rw [HZ.out]; exact HB3.out)
  have HPN := put_nil_of L cap p bs w3 hL3 hP3 HP.out.2.1 HL9.out HP.out.2.2.2.1
  rw [HP.out.2.2.2.2.1] at HPN
  have HPN1 := hide HPN
  clear r3 f3 b3 hP3 hL3 HPN HRD HA2 HC2 HB2
  go_wp2_with fail
  refine HPN1.out.mono ?_
  rintro r w4 ⟨p4, c4, rfl, r4, b4⟩
  have HR4 := hide r4
  have HB4 : Hid (Below w3.heap.size w3 w4) := b4
  have hB04 : Below Z w0 w4 := HB3.out.trans (b4.mono (Nat.le_of_lt HA3.out.1.lt))
  have HAL := rall_any L cap p bs w4 (HP0.out.kept (by rw [HZ.out]; exact hB04)) HP.out.2.1 HL9.out HP.out.2.2.2.1
  rw [HP.out.2.2.2.2.1] at HAL
  have HAL1 := hide HAL
  clear r4 b4 hB04 HAL HPN1
  go_wp2_with fail
  refine HAL1.out.mono ?_
  rintro r w5 ⟨p5, c5, rfl, r5, b5⟩
  have HB5 : Hid (Below w3.heap.size w3 w5) := HB4.out.trans (b5.mono HB4.out.size)
  have HSM := hide (rsame_any m c4 c5 p4 p5 (ints us) w5 (HR4.out.kept b5) r5 (by rw [ints_length]; exact HP.out.2.2.2.2.1) HP.out.2.2.2.2.2.1)
  clear r5 b5 HAL1 HR4 HB4
  go_wp2_with fail
  refine HSM.out.mono ?_
  rintro r w6 ⟨rfl, b6⟩
  have HB6 : Hid (Below w3.heap.size w3 w6) := HB5.out.trans (b6.mono HB5.out.size)
  have HHN := hide (held_nil w6)
  have HEN := hide (end_nil w6)
  have HA6 := hide (And.intro (HA3.out.1.kept HB6.out) (HA3.out.2.kept HB6.out))
  have HW6 := hide (HWN.out.1.kept HB6.out)
  have HB06 : Hid (Below Z w0 w6) := HB3.out.trans (HB6.out.mono (Nat.le_of_lt HA3.out.1.lt))
  have HS6 : Hid (w2.heap.size ≤ w6.heap.size) := Nat.le_trans HSZ3.out HB6.out.size
  clear b6 HSM HB5
  go_wp2_with fail
  refine HHN.out.mono ?_
  rintro r w6' ⟨rfl, rfl⟩
  go_wp2_with fail
  refine HEN.out.mono ?_
  rintro r v6 ⟨rfl, rfl⟩
  have hP6 : Piece v6 p cap bs := HP0.out.kept (by rw [HZ.out]; exact HB06.out)
  have hL6 : LaidU v6 := HL0.out.kept (by rw [HZ.out]; exact HB06.out)
  have HZP := put_of Dc.no Z L cap p bs v6 no_ok hL6 HA6.out.1 HZ0.out hP6 HP.out.2.1 HL9.out HP.out.2.2.2.2.2.2.1
  rw [HP.out.2.2.2.2.2.2.2.1] at HZP
  have HZP1 := hide HZP
  clear hP6 hL6 HZP HHN HEN HA3 HWN HB3 HSZ3 HB6
  go_wp2_with fail
  refine HZP1.out.mono ?_
  rintro r w7 ⟨p7, c7, rfl, r7, _, a7, k7⟩
  have HW7 : Hid (RPiece w7 pw cw (ints ts)) := HW6.out.kp HFR.out (Nat.lt_of_lt_of_le (Nat.lt_succ_self _) (Nat.le_of_lt HWS.out)) k7 (Nat.le_refl _)
  have HC7 : Hid (Arr w7 (Z + 1) 41 (dcC Dc.no)) := HA6.out.2.kp (by omega) k7 (Nat.le_refl _)
  have HZ7 := hide a7
  have HB7 : Hid (Below Z w0 w7) := HB06.out.trans (k7.toBelow (Nat.le_of_lt HA6.out.1.lt))
  have HS7 : Hid (w2.heap.size ≤ w7.heap.size) := Nat.le_trans HS6.out k7.size
  have HSM7 := hide (rsame_any n c7 cw p7 pw (ints ts) w7 r7 HW7.out (by rw [ints_length]; exact HP.out.2.2.2.2.2.2.2.1) HP.out.2.2.2.2.2.2.2.2)
  clear r7 a7 k7 HZP1 HA6 HW6 HB06 HS6
  go_wp2_with fail
  refine HSM7.out.mono ?_
  rintro r w8 ⟨rfl, b8⟩
  have HB8 : Hid (Below Z w0 w8) := HB7.out.trans (b8.mono (Nat.le_of_lt HZ7.out.lt))
  have HH8 := held_any _ Z w8 (HZ7.out.kept b8)
  rw [HH.out] at HH8
  have HH81 := hide HH8
  have HW8 := hide (HW7.out.kept b8)
  have HC8 := hide (HC7.out.kept b8)
  have HS8 : Hid (w2.heap.size ≤ w8.heap.size) := Nat.le_trans HS7.out b8.size
  clear b8 HH8 HSM7 HW7 HC7 HZ7 HB7 HS7
  go_wp2_with fail
  refine HH81.out.mono ?_
  rintro r v8 ⟨rfl, rfl⟩
  have hP8 : Piece v8 p cap bs := HP0.out.kept (by rw [HZ.out]; exact HB8.out)
  have hL8 : LaidU v8 := HL0.out.kept (by rw [HZ.out]; exact HB8.out)
  have HCP := put_of Dc.no (Z + 1) L cap p bs v8 no_ok hL8 HC8.out (Nat.succ_pos _) hP8 HP.out.2.1 HL9.out HP.out.2.2.2.2.2.2.1
  rw [HP.out.2.2.2.2.2.2.2.1] at HCP
  have HCP1 := hide HCP
  clear hP8 hL8 HCP HH81
  go_wp2_with fail
  refine HCP1.out.mono ?_
  rintro r w9 ⟨p9, c9, rfl, r9, _, a9, k9⟩
  have HW9 : Hid (RPiece w9 pw cw (ints ts)) := HW8.out.kp HFR.out HWS.out k9 (Nat.le_refl _)
  have HC9 := hide a9
  have HB9 : Hid (Below Z w0 w9) := HB8.out.trans ((k9.toBelow (Nat.le_of_lt HC8.out.lt)).mono (Nat.le_succ _))
  have HSM9 := hide (rsame_any n c9 cw p9 pw (ints ts) w9 r9 HW9.out (by rw [ints_length]; exact HP.out.2.2.2.2.2.2.2.1) HP.out.2.2.2.2.2.2.2.2)
  clear r9 a9 k9 HCP1 HC8 HW8 HB8 HS8 HW9
  go_wp2_with fail
  refine HSM9.out.mono ?_
  rintro r wa ⟨rfl, ba⟩
  have HBA : Hid (Below Z w0 wa) := HB9.out.trans (ba.mono (Nat.le_of_lt (Nat.lt_trans (Nat.lt_succ_self _) HC9.out.lt)))
  have HHA := held_any _ (Z + 1) wa (HC9.out.kept ba)
  rw [HH.out] at HHA
  have HHA1 := hide HHA
  clear ba HHA HSM9 HC9 HB9
  go_wp2_with fail
  refine HHA1.out.mono ?_
  rintro r wb ⟨rfl, rfl⟩
  clear HHA1
  go_wp2_with fail
  go_ret
  exact ⟨rfl, HB0.out.trans (HBA.out.mono (by rw [← HZ.out]; exact HB0.out.size))⟩

theorem walk (p : Option Addr) (cap : Nat) (bs : List Nat) (w : World) (hp : Piece w p cap bs) (hL : LaidU w) :
    Calls Tryd.prog 6 #[.slice p bs.length cap] w fun e w' => e = .returned (.bool true) ∧ Below w.heap.size w w' := by
  by_cases h1 : (500 : Int) < (bs.length : Int)
  · exact walk_out _ cap p w hL (decide_eq_true h1)
  · have h2 := (utfF_len bs).1
    have h3 := (Dc.run_len no_ok bs).1
    have e : Dc.no.one = 0 := rfl
    exact walk_in _ cap _ _ p bs (utfF bs) (Dc.no.run bs).2 (Dc.no.run bs).1 w hp rfl (by omega) rfl rfl (by omega) rfl rfl (by omega) hL

set_option maxRecDepth 100000 in
theorem lifted (os : Os) (started : os.Started) (H : Type) (enc : TypeId × Value → H) :
    ReturnsInHanded {} Tryd.checked os 6 .any (fun w args => (Rows.utfNoneSpec.pre enc Tryd.prog Tryd.f6 [] false w args ∧ laidMetH Tryd.prog laid1 w) ∧ sizedMet enc Tryd.prog Tryd.f6 (OpenSpec.ofChange Rows.utfNoneSpec) false w args)
      (Rows.utfNoneSpec.post enc Tryd.prog Tryd.f6 false true false false) := by
  refine returnsInHanded_of_change_and (C := Tryd.checked) (X := fun w _ => laidMetH Tryd.prog laid1 w) (fun _ _ _ hh h => h.of_heap hh) own started (by kernel_rfl) Tryd.func6
    (ChangeSpec.witness_shaped (enc := enc) (C := Tryd.checked) (os := os) (X := fun w _ => laidMetH Tryd.prog laid1 w) false (World.doorLaid Tryd.prog 400 os) #[.slice none 0 0] 8 rfl (World.shaped_of_RefB (by kernel_rfl) (by kernel_rfl)) (by kernel_rfl) (by kernel_rfl) (by kernel_rfl) (door_met os _)) ?_
  intro W base args ds gs before hval0 hW _ hsz hL _
  have hval : ∀ (j : Nat) t v, Tryd.f6.params[j]? = some t → args[j]? = some v → Value.okWide Tryd.prog W .any base t v := hval0
  have hW' := hW
  obtain ⟨p, q, hA0, hV, rfl, hfz, hnd⟩ := hW
  have hA : DataW.TrodAll enc Tryd.prog W 0 (fun _ => true) true Tryd.f6.params.toList args.toList ds p := hA0
  rw [Tryd.params6] at hA hval
  obtain ⟨v0, vs0, d0, ds0, p0, q0, hargs, rfl, rfl, h0, r0⟩ := trodAll_cons hA
  obtain ⟨rfl, rfl, rfl⟩ := trodAll_nil r0
  obtain rfl : args = #[v0] := by cases args; simp_all
  obtain ⟨rfl, rfl⟩ := trodVars_none hV
  obtain ⟨a0, len0, cap0, rfl⟩ := okWide_slice Tryd.underlying22 (hval 0 22 v0 rfl rfl)
  have k0 := h0
  have lt0 : ∀ x ∈ p0, x.block < W.heap.size := by obtain ⟨m, hm⟩ := k0; exact DataW.trod_lt m _ _ _ hm
  obtain ⟨fuel0, hf0⟩ := h0
  obtain ⟨a0', cap0', x0, hcs0, w0⟩ := piece_of hf0
  simp [Value.cells] at hcs0
  obtain ⟨rfl, rfl, rfl⟩ := hcs0
  clear hf0
  clear hA0 hval0
  refine (walk a0 cap0 x0 W w0 (of_laid hL)).mono fun e W' ⟨he, bel⟩ => ?_
  subst he
  exact ⟨_, rfl, _, _, _, [], _, [], hW', trodAll_mk1 (shut_bool Tryd.underlying4 _), (trodAll_cons_mk (Below.trod laidOut (by kernel_rfl) (of_decide_eq_true (by kernel_rfl)) k0 bel lt0) trodAll_mk0), rfl, bel.frame _, fun h => by cases h⟩

theorem row : Rows.UtfNoneSaid :=
  OpenClaim.holds_of_wide 6 Tryd.f6 rfl rfl rfl rfl rfl rfl rfl ⟨rfl, rfl, rfl, rfl, rfl⟩ rfl rfl rfl rfl rfl (by kernel_rfl) Tryd.func6 (by kernel_rfl)
    (of_decide_eq_true (by kernel_rfl)) (by unfold Func.isWrapper; first | (rw [if_pos (by decide +kernel)]; kernel_rfl) | (rw [if_neg (by decide +kernel)]; exact ⟨rfl, rfl⟩))
    (fun os started H enc _ => lifted os started H enc)

theorem card : Rows.UtfNoneCardSaid :=
  Claim7.holds_tied_plain_at .later [] [.data] true (true, Rows.utfNoneCard.stood.harness.2) false
    row (fun _ h => by cases h) (by kernel_rfl) (fun _ h => by cases h) utfNone_row_tie rfl ⟨rfl, rfl⟩ (by kernel_rfl) rfl
    (fun f fn hf hfn => by
      obtain rfl : f = 6 := Option.some.inj ((show Tryd.prog.funcNamed "oriel/oriellaw10.UtfNone" = some 6 by kernel_rfl).symm.trans hf) |>.symm
      obtain rfl : fn = Tryd.f6 := (Option.some.inj (Tryd.func6.symm.trans hfn)).symm
      exact ⟨by kernel_rfl, fun j t ht => by
        rw [Tryd.params6] at ht
        have hm : t ∈ [22] := by simpa using Array.mem_of_getElem? ht
        have hall : ([22].all fun u => !Tryd.prog.wantsStandIn u) = true := by kernel_rfl
        exact (show Tryd.prog.wantsStandIn t = false by simpa using List.all_eq_true.1 hall t hm)⟩)
    (by kernel_rfl)


end UtfNoneProof

/-- A decoder that is not there holds nothing; one that New did not make is as one that it made. -/
theorem utfNone_holds : Rows.UtfNoneCardSaid := UtfNoneProof.card
#print axioms utfNone_holds
end Go.Proofs.YtijjifdgmffenaaDoor
