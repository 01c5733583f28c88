/-
  UtfAgain: what bytes are told as, put into forms again, is told as the same.
-/
import Derived.Test.YtijjifdgmffenabDoorUP
import Derived.Test.YtijjifdgmffenabDoorUM
namespace Go.Proofs.YtijjifdgmffenabDoor
namespace UtfAgainProof
open Go.ChangeShapes Go.WideShapes Go.ChangeAt Go.WideMaps Go.WideElems Go.RowKit

set_option maxHeartbeats 2000000 in
theorem walk_out (L cap : Nat) (p : Option Addr) (w : World) (hL : LaidU w) (d1 : decide ((2000 : Int) < (L : Int)) = true) :
    Calls Tryd.prog 3 #[.slice p L cap] w fun e w' => e = .returned (.bool true) ∧ Below w.heap.size w w' := by
  have HK := hide (known_any w hL)
  clear hL
  go_enter Tryd.func3, Tryd.ntmps3
  go_wp2_with fail
  refine HK.out.mono ?_
  rintro r w0 ⟨rfl, b0⟩
  have HB0 := hide b0
  clear b0 HK
  go_wp2_with fail
  go_ret
  exact ⟨rfl, HB0.out⟩

theorem take_succ_nat (xs : List Nat) (i : Nat) (hi : i < xs.length) : xs.take (i + 1) = xs.take i ++ [xs.getD i 0] := by
  rw [List.take_add_one]
  simp [List.getD, hi]

set_option maxHeartbeats 8000000 in
set_option maxRecDepth 100000 in
theorem walk_in (L cap n : Nat) (p : Option Addr) (bs ts : List Nat) (w : World) (hp : Piece w p cap bs) (hl : bs.length = L) (hL2 : L ≤ 2000) (ht : utfF bs = ts) (hn : ts.length = n) (hpt : ∀ x ∈ ts, IsPt (x : Int)) (hnL : n ≤ L) (hn4 : L ≤ 4 * n) (hL : LaidU w) :
    Calls Tryd.prog 3 #[.slice p L cap] w fun e w' => e = .returned (.bool true) ∧ Below w.heap.size w w' := by
  have HK := hide (known_any w hL)
  have HP := hide (And.intro hp (And.intro hl (And.intro hL2 (And.intro ht (And.intro hn (And.intro hpt (And.intro hnL hn4)))))))
  have HL := hide hL
  have d1 : decide ((2000 : Int) < (L : Int)) = false := decide_eq_false (by omega)
  clear hp hl hL2 hL ht hn hpt hnL hn4
  go_enter Tryd.func3, Tryd.ntmps3
  go_wp2_with fail
  refine HK.out.mono ?_
  rintro r w0 ⟨rfl, b0⟩
  have HL0 := hide (HL.out.kept b0)
  have HB0 := hide b0
  have HDE := hide (decode_of L cap p bs w0 HL0.out (HP.out.1.kept b0) HP.out.2.1 (by have := HP.out.2.2.1; omega) HP.out.2.2.2.1)
  have hn := HP.out.2.2.2.2.1
  rw [hn] at HDE
  clear b0 HK hn
  go_wp2_with fail
  refine HDE.out.mono ?_
  rintro r w1 ⟨p1, c1, rfl, r1, _, b1⟩
  have HR1 := hide r1
  have HL1 := hide (HL0.out.kept b1)
  have HB1 : Hid (Below w.heap.size w w1) := HB0.out.trans (b1.mono HB0.out.size)
  have HS0 : Hid (w1.ownsRow w1.heap.size 5 1 (.slice none 0 0) (formsF (ts.take 0)).length (u8s (formsF (ts.take 0))) ∧ Below w1.heap.size w1 w1) := ⟨⟨rfl, Or.inl ⟨rfl, rfl⟩⟩, Below.refl _ _⟩
  clear r1 b1 HDE d1 HB0 HL0
  go_wp2_with fail
  go_loopg [4, 5] (n + 1) (fun f s4 s5 wx => ∃ i : Nat, s5 = .int .i64 (i : Int) ∧ i ≤ n ∧ n - i < f ∧ Hid (wx.ownsRow w1.heap.size 5 1 s4 (formsF (ts.take i)).length (u8s (formsF (ts.take i))) ∧ Below w1.heap.size w1 wx))
  case atStart => exact ⟨0, rfl, Nat.zero_le _, by omega, HS0.out⟩
  case round =>
    clear HS0
    obtain ⟨i, rfl, hiL, hif, HS⟩ := hrel
    by_cases hlt : i < n
    · obtain ⟨x, hx⟩ : ∃ x, x = ts.getD i 0 := ⟨_, rfl⟩
      have hil : i < ts.length := by rw [HP.out.2.2.2.2.1]; exact hlt
      have hmem : x ∈ ts := by rw [hx]; simp [List.getD, hil]
      have hlx : (ints ts).getD i 0 = (x : Int) := by rw [hx]; simp [ints, List.getD, hil]
      obtain ⟨g, o, rfl, hc⟩ := HR1.out.cell (by rw [ints_length]; omega)
      have ca := hc i (by rw [ints_length]; exact hil)
      rw [hlx] at ca
      have cx : wr.cell? ⟨g, o + i, none⟩ = some (.int .i32 (x : Int)) := (HS.out.2.cell (p := ⟨g, o + i, none⟩) (block_lt_of_cell ca)).trans ca
      have i1 : (i : Int) < (n : Int) := by omega
      have HPX : Hid (IsPt (x : Int)) := HP.out.2.2.2.2.2.1 x hmem
      have HSUC : Hid (formsF (ts.take (i + 1)) = formsF (ts.take i) ++ formF x) := by show _ = _; rw [take_succ_nat ts i hil, ← hx, formsF_append, formsF_one]
      have HLEN : Hid ((formsF (ts.take i)).length ≤ 8000) := by
        have h := formsF_length (ts.take i) (fun y hy => HP.out.2.2.2.2.2.1 y (List.mem_of_mem_take hy))
        rw [List.length_take] at h
        have h1 := HP.out.2.2.2.2.2.2.1
        have h2 := HP.out.2.2.1
        show _ ≤ _
        omega
      have HF := hide (form_any (x : Int) wr (HL1.out.kept HS.out.2))
      clear hx hil hmem hlx hc ca
      go_wp2_with fail
      refine HF.out.mono ?_
      rintro r wa ⟨pf, Lf, cf, rfl, l1, q1, b1⟩
      rw [ptF_id HPX.out] at l1 q1
      have hff := form_facts x HPX.out
      have HSZ : Hid ((formsF (ts.take i)).length + Lf ≤ 140737488355328) := by
        have h1 := HLEN.out
        have h2 := hff.2.2.1
        show _ ≤ _
        omega
      have HQ := hide (And.intro l1 q1)
      have HSA : Hid (wa.ownsRow w1.heap.size 5 1 u4 (formsF (ts.take i)).length (u8s (formsF (ts.take i))) ∧ Below w1.heap.size w1 wa) := ⟨own_below HS.out.1 b1, HS.out.2.trans (b1.mono HS.out.2.size)⟩
      have HWI : Hid (wrap64 ((i : Int) + 1) = ((i + 1 : Nat) : Int)) := by show _ = _; have h1 := HP.out.2.2.2.2.2.2.1; have h2 := HP.out.2.2.1; unfold wrap64; omega
      clear hff l1 q1 b1 HF cx HS
      go_wp2_with (refine wpList_append_bytes rfl _ _ rfl w1.heap.size _ (formsF (ts.take i)) rfl (formsF (ts.take i)).length rfl HSA.out.1 pf Lf cf (formF x) HQ.out.1 rfl HQ.out.2.1 HQ.out.2.2.1 HSZ.out HSA.out.2.size ?_; intro v5 w5 ho5 hw5; have HS5 : Hid (w5.ownsRow w1.heap.size 5 1 v5 (formsF (ts.take (i + 1))).length (u8s (formsF (ts.take (i + 1)))) ∧ Below w1.heap.size w1 w5) := (by rw [HSUC.out, List.length_append, HQ.out.1]; exact ⟨ho5, HSA.out.2.grown hw5 HSA.out.2.size fun k hk => own_ge HSA.out.1 k hk⟩); clear ho5 hw5)
      go_roundg (n - i)
      case measure => omega
      case rel => exact ⟨i + 1, by rw [HWI.out], by omega, by omega, HS5⟩
    · have ei : i = n := by omega
      subst ei
      have et : ts.take i = ts := List.take_of_length_le (by rw [HP.out.2.2.2.2.1]; exact Nat.le_refl _)
      rw [et] at HS
      have hpt := HP.out.2.2.2.2.2.1
      have hfl := formsF_length ts hpt
      obtain ⟨pb, cb, rfl, hQ, _⟩ := own_piece_n HS.out.1 rfl (forms_bytes ts hpt)
      obtain ⟨M, hM⟩ : ∃ M, M = (formsF ts).length := ⟨_, rfl⟩
      rw [← hM]
      have hn := HP.out.2.2.2.2.1
      have h4 := HP.out.2.2.2.2.2.2.2
      have h3 := HP.out.2.2.2.2.2.2.1
      have h2 := HP.out.2.2.1
      have HD := hide (decode_of M cb pb (formsF ts) wr (HL1.out.kept HS.out.2) hQ hM.symm (by omega) (forms_utf ts hpt))
      rw [hn] at HD
      have HR2 := hide (HR1.out.kept HS.out.2)
      have HBW := hide (HB1.out.trans (HS.out.2.mono HB1.out.size))
      have i9 : i ≤ 99000 := by omega
      have HI9 := hide i9
      have dg : decide ((L : Int) ≤ 4 * (i : Int)) = true := decide_eq_true (by omega)
      have hb : (i : Int) ≤ 2000 := by omega
      clear et hpt hfl hQ hM hn HS i9 h3 h2
      go_wp2_with fail
      refine HD.out.mono ?_
      rintro r wa ⟨pa, ca, rfl, ra, _, ba⟩
      have HBA : Hid (Below w.heap.size w wa) := HBW.out.trans (ba.mono HBW.out.size)
      have HSM := hide (same_any i ca c1 pa p1 (ints ts) wa ra (HR2.out.kept ba) (by rw [ints_length]; exact HP.out.2.2.2.2.1) HI9.out)
      clear ra ba HD HR2 HBW
      go_wp2_with fail
      refine HSM.out.mono ?_
      rintro r wb ⟨rfl, bb⟩
      have HBB : Hid (Below w.heap.size w wb) := HBA.out.trans (bb.mono HBA.out.size)
      clear bb HSM HBA
      go_wp2_with fail
      go_ret
      exact ⟨rfl, HBB.out⟩

theorem walk (p : Option Addr) (cap : Nat) (bs : List Nat) (w : World) (hp : Piece w p cap bs) (hL : LaidU w) :
    Calls Tryd.prog 3 #[.slice p bs.length cap] w fun e w' => e = .returned (.bool true) ∧ Below w.heap.size w w' := by
  by_cases h1 : (2000 : Int) < (bs.length : Int)
  · exact walk_out _ cap p w hL (decide_eq_true h1)
  · have h := utfF_len bs
    exact walk_in _ cap _ p bs (utfF bs) w hp rfl (by omega) rfl rfl (utfF_pt bs) h.1 h.2 hL

set_option maxRecDepth 100000 in
theorem lifted (os : Os) (started : os.Started) (H : Type) (enc : TypeId × Value → H) :
    ReturnsInHanded {} Tryd.checked os 3 .any (fun w args => (Rows.utfAgainSpec.pre enc Tryd.prog Tryd.f3 [] false w args ∧ laidMetH Tryd.prog laid1 w) ∧ sizedMet enc Tryd.prog Tryd.f3 (OpenSpec.ofChange Rows.utfAgainSpec) false w args)
      (Rows.utfAgainSpec.post enc Tryd.prog Tryd.f3 false true false false) := by
  refine returnsInHanded_of_change_and (C := Tryd.checked) (X := fun w _ => laidMetH Tryd.prog laid1 w) (fun _ _ _ hh h => h.of_heap hh) own started (by kernel_rfl) Tryd.func3
    (ChangeSpec.witness_shaped (enc := enc) (C := Tryd.checked) (os := os) (X := fun w _ => laidMetH Tryd.prog laid1 w) false (World.doorLaid Tryd.prog 400 os) #[.slice none 0 0] 8 rfl (World.shaped_of_RefB (by kernel_rfl) (by kernel_rfl)) (by kernel_rfl) (by kernel_rfl) (by kernel_rfl) (door_met os _)) ?_
  intro W base args ds gs before hval0 hW _ hsz hL _
  have hval : ∀ (j : Nat) t v, Tryd.f3.params[j]? = some t → args[j]? = some v → Value.okWide Tryd.prog W .any base t v := hval0
  have hW' := hW
  obtain ⟨p, q, hA0, hV, rfl, hfz, hnd⟩ := hW
  have hA : DataW.TrodAll enc Tryd.prog W 0 (fun _ => true) true Tryd.f3.params.toList args.toList ds p := hA0
  rw [Tryd.params3] at hA hval
  obtain ⟨v0, vs0, d0, ds0, p0, q0, hargs, rfl, rfl, h0, r0⟩ := trodAll_cons hA
  obtain ⟨rfl, rfl, rfl⟩ := trodAll_nil r0
  obtain rfl : args = #[v0] := by cases args; simp_all
  obtain ⟨rfl, rfl⟩ := trodVars_none hV
  obtain ⟨a0, len0, cap0, rfl⟩ := okWide_slice Tryd.underlying22 (hval 0 22 v0 rfl rfl)
  have k0 := h0
  have lt0 : ∀ x ∈ p0, x.block < W.heap.size := by obtain ⟨m, hm⟩ := k0; exact DataW.trod_lt m _ _ _ hm
  obtain ⟨fuel0, hf0⟩ := h0
  obtain ⟨a0', cap0', x0, hcs0, w0⟩ := piece_of hf0
  simp [Value.cells] at hcs0
  obtain ⟨rfl, rfl, rfl⟩ := hcs0
  clear hf0
  clear hA0 hval0
  refine (walk a0 cap0 x0 W w0 (of_laid hL)).mono fun e W' ⟨he, bel⟩ => ?_
  subst he
  exact ⟨_, rfl, _, _, _, [], _, [], hW', trodAll_mk1 (shut_bool Tryd.underlying4 _), (trodAll_cons_mk (Below.trod laidOut (by kernel_rfl) (of_decide_eq_true (by kernel_rfl)) k0 bel lt0) trodAll_mk0), rfl, bel.frame _, fun h => by cases h⟩

theorem row : Rows.UtfAgainSaid :=
  OpenClaim.holds_of_wide 3 Tryd.f3 rfl rfl rfl rfl rfl rfl rfl ⟨rfl, rfl, rfl, rfl, rfl⟩ rfl rfl rfl rfl rfl (by kernel_rfl) Tryd.func3 (by kernel_rfl)
    (of_decide_eq_true (by kernel_rfl)) (by unfold Func.isWrapper; first | (rw [if_pos (by decide +kernel)]; kernel_rfl) | (rw [if_neg (by decide +kernel)]; exact ⟨rfl, rfl⟩))
    (fun os started H enc _ => lifted os started H enc)

theorem card : Rows.UtfAgainCardSaid :=
  Claim7.holds_tied_plain_at .later [] [.data] true (true, Rows.utfAgainCard.stood.harness.2) false
    row (fun _ h => by cases h) (by kernel_rfl) (fun _ h => by cases h) utfAgain_row_tie rfl ⟨rfl, rfl⟩ (by kernel_rfl) rfl
    (fun f fn hf hfn => by
      obtain rfl : f = 3 := Option.some.inj ((show Tryd.prog.funcNamed "oriel/oriellaw10.UtfAgain" = some 3 by kernel_rfl).symm.trans hf) |>.symm
      obtain rfl : fn = Tryd.f3 := (Option.some.inj (Tryd.func3.symm.trans hfn)).symm
      exact ⟨by kernel_rfl, fun j t ht => by
        rw [Tryd.params3] at ht
        have hm : t ∈ [22] := by simpa using Array.mem_of_getElem? ht
        have hall : ([22].all fun u => !Tryd.prog.wantsStandIn u) = true := by kernel_rfl
        exact (show Tryd.prog.wantsStandIn t = false by simpa using List.all_eq_true.1 hall t hm)⟩)
    (by kernel_rfl)


end UtfAgainProof

/-- What bytes are told as, put into forms again, is told as the same. -/
theorem utfAgain_holds : Rows.UtfAgainCardSaid := UtfAgainProof.card
#print axioms utfAgain_holds
end Go.Proofs.YtijjifdgmffenabDoor
