/-
  Walks: the reference's any.
-/
import Derived.Test.YtijjifdgmffenaaDoorUQ
namespace Go.Proofs.YtijjifdgmffenaaDoor
open Go.RowKit

theorem wrap_gap : wrap32 57344 = 57344 := by unfold wrap32; omega
def muA (q : Int) : Nat := if q < 128 then 3 else if q < 2048 then 2 else if q < 65536 then 1 else 0

set_option maxHeartbeats 8000000 in
set_option maxRecDepth 100000 in
theorem rany_any (lo hi nn : Int) (n : Nat) (w : World) (h0 : 0 ≤ lo) (hh : hi ≤ 4194303) (hlh : lo ≤ hi) (h1 : 1 ≤ n) (h4 : n ≤ 4) (hnn : (n : Int) = nn) (h6 : 55296 ≤ lo ∧ lo ≤ 57343 → n = 4 → hi ≤ 65535) :
    Calls Tryd.prog 29 #[.int .i64 lo, .int .i64 hi, .int .i64 nn] w fun e w' => e = .returned (.bool (anyF lo hi n)) ∧ Below w.heap.size w w' := by
  obtain ⟨Z, hZ⟩ : ∃ Z, anyF lo hi n = Z := ⟨_, rfl⟩
  rw [hZ]
  have HNB := hide (And.intro h1 h4)
  have HNN := hide hnn
  have HI0 : Hid (anyF lo hi n = Z ∧ (55296 ≤ lo ∧ lo ≤ 57343 → n = 4 → hi ≤ 65535)) := ⟨hZ, h6⟩
  have hlo : lo ≤ 4194304 := by omega
  clear hZ h1 h4 hnn h6 hlh
  go_enter Tryd.func29, Tryd.ntmps29
  go_wp2_with fail
  go_loopg [0] 5 (fun f s0 wx => ∃ q : Int, s0 = .int .i64 q ∧ 0 ≤ q ∧ q ≤ 4194304 ∧ muA q < f ∧ Hid (anyF q hi n = Z ∧ (55296 ≤ q ∧ q ≤ 57343 → n = 4 → hi ≤ 65535)) ∧ Hid (Below w.heap.size w wx))
  case atStart => exact ⟨lo, rfl, h0, hlo, by unfold muA; (repeat' split) <;> omega, HI0.out, Below.refl _ _⟩
  case round =>
    clear HI0 h0 hlo
    obtain ⟨q, rfl, h0, hq4, hf, HS, HB⟩ := hrel
    have hw : wrap32 q = q := by unfold wrap32; omega
    have hw' : IntKind.i32.wrap q = q := wrap_i32 q h0 (by omega)
    by_cases hle : q ≤ hi
    · have da : decide (q ≤ hi) = true := decide_eq_true hle
      by_cases hg1 : q < 55296
      · skip
        have hng : q < 55296 ∨ 57343 < q := by omega
        have g0 : decide (q < 55296) = true := decide_eq_true (by omega)
        have g1 : decide (55296 ≤ q) = false := decide_eq_false (by omega)
        have HF := hide (rform_any q wr)
        have HNG := hide hng
        clear hng
        go_wp2_with fail
        refine HF.out.mono ?_
        rintro r wa ⟨pf, Lf, cf, rfl, l1, _, b1⟩
        have HL1 := hide l1
        have HB1 : Hid (Below w.heap.size w wa) := HB.out.trans (b1.mono HB.out.size)
        have HF2 := hide (rform_any q wa)
        clear b1 HF HB
        by_cases hLn : (Lf : Int) < nn
        · have dL : decide ((Lf : Int) < nn) = true := decide_eq_true hLn
          have HLN : Hid (Lf < n) := by have := HNN.out; show _ < _; omega
          by_cases ht : q ≤ 1114111
          · have dt : decide (q ≤ 1114111) = true := decide_eq_true ht
            have HT := hide ht
            have hfar : q < 65536 := any_far HNB.out.2 h0 HNG.out HL1.out HLN.out ht
            clear l1 HF2
            by_cases h128 : q < 128
            · have HNX := hide (any_next HNB.out.1 HNB.out.2 h0 hle HNG.out HL1.out HLN.out ht (Or.inl ⟨h128, rfl⟩))
              have e0 : decide (q < 128) = true := decide_eq_true (by omega)
              have hmu : 3 < gk ∧ 2 + 1 ≤ muA q := by unfold muA at hf ⊢; (repeat' split at hf) <;> (repeat' split) <;> omega
              go_wp2_with fail
              go_roundg (muA q)
              case measure => omega
              case rel => exact ⟨128, rfl, by decide, by decide, Nat.lt_of_lt_of_le (show muA 128 < 2 + 1 from by decide) hmu.2, ⟨HNX.out.trans HS.out.1, fun h => by omega⟩, HB1.out⟩
            by_cases h2048 : q < 2048
            · have HNX := hide (any_next HNB.out.1 HNB.out.2 h0 hle HNG.out HL1.out HLN.out ht (Or.inr (Or.inl ⟨by omega, h2048, rfl⟩)))
              have e0 : decide (q < 128) = false := decide_eq_false (by omega)
              have e1 : decide (q < 2048) = true := decide_eq_true (by omega)
              have hmu : 2 < gk ∧ 1 + 1 ≤ muA q := by unfold muA at hf ⊢; (repeat' split at hf) <;> (repeat' split) <;> omega
              go_wp2_with fail
              go_roundg (muA q)
              case measure => omega
              case rel => exact ⟨2048, rfl, by decide, by decide, Nat.lt_of_lt_of_le (show muA 2048 < 1 + 1 from by decide) hmu.2, ⟨HNX.out.trans HS.out.1, fun h => by omega⟩, HB1.out⟩
            have HNX := hide (any_next HNB.out.1 HNB.out.2 h0 hle HNG.out HL1.out HLN.out ht (Or.inr (Or.inr ⟨by omega, hfar, rfl⟩)))
            have e0 : decide (q < 128) = false := decide_eq_false (by omega)
            have e1 : decide (q < 2048) = false := decide_eq_false (by omega)
            have e2 : decide (q < 65536) = true := decide_eq_true (by omega)
            have hmu : 1 < gk ∧ 0 + 1 ≤ muA q := by unfold muA at hf ⊢; (repeat' split at hf) <;> (repeat' split) <;> omega
            go_wp2_with fail
            go_roundg (muA q)
            case measure => omega
            case rel => exact ⟨65536, rfl, by decide, by decide, Nat.lt_of_lt_of_le (show muA 65536 < 0 + 1 from by decide) hmu.2, ⟨HNX.out.trans HS.out.1, fun h => by omega⟩, HB1.out⟩
          · have dt : decide (q ≤ 1114111) = false := decide_eq_false ht
            have HX := hide (any_top (hi := hi) (n := n) ht)
            go_wp2_with fail
            go_ret
            exact ⟨by rw [← HS.out.1, HX.out]; try rfl, HB1.out⟩
        · have dL : decide ((Lf : Int) < nn) = false := decide_eq_false hLn
          have HLN : Hid (¬ Lf < n) := by have := HNN.out; show ¬ _ < _; omega
          by_cases ht : q ≤ 1114111
          · have dt : decide (q ≤ 1114111) = true := decide_eq_true ht
            have HX := hide (any_here HNB.out.1 HNB.out.2 h0 hle HNG.out HL1.out HLN.out ht)
            clear l1
            go_wp2_with fail
            refine HF2.out.mono ?_
            rintro r wb ⟨pg, Lg, cg, rfl, l2, _, b2⟩
            have hLg : Lg = Lf := l2.symm.trans HL1.out
            have HB2 : Hid (Below w.heap.size w wb) := HB1.out.trans (b2.mono HB1.out.size)
            subst hLg
            obtain ⟨zz, hzz⟩ : ∃ zz, ((Lg : Int) == nn) = zz := ⟨_, rfl⟩
            have HZZ := hide hzz
            clear l2 b2
            go_wp2_with fail
            go_ret
            exact ⟨by rw [← HS.out.1, HX.out, HNN.out, HZZ.out]; try rfl, HB2.out⟩
          · have dt : decide (q ≤ 1114111) = false := decide_eq_false ht
            have HX := hide (any_top (hi := hi) (n := n) ht)
            go_wp2_with fail
            go_ret
            exact ⟨by rw [← HS.out.1, HX.out]; try rfl, HB1.out⟩
      by_cases hg2 : 57343 < q
      · skip
        have hng : q < 55296 ∨ 57343 < q := by omega
        have g0 : decide (q < 55296) = false := decide_eq_false (by omega)
        have g1 : decide (57343 < q) = true := decide_eq_true (by omega)
        have g2 : decide (55296 ≤ q) = true := decide_eq_true (by omega)
        have g3 : decide (q ≤ 57343) = false := decide_eq_false (by omega)
        have HF := hide (rform_any q wr)
        have HNG := hide hng
        clear hng
        go_wp2_with fail
        refine HF.out.mono ?_
        rintro r wa ⟨pf, Lf, cf, rfl, l1, _, b1⟩
        have HL1 := hide l1
        have HB1 : Hid (Below w.heap.size w wa) := HB.out.trans (b1.mono HB.out.size)
        have HF2 := hide (rform_any q wa)
        clear b1 HF HB
        by_cases hLn : (Lf : Int) < nn
        · have dL : decide ((Lf : Int) < nn) = true := decide_eq_true hLn
          have HLN : Hid (Lf < n) := by have := HNN.out; show _ < _; omega
          by_cases ht : q ≤ 1114111
          · have dt : decide (q ≤ 1114111) = true := decide_eq_true ht
            have HT := hide ht
            have hfar : q < 65536 := any_far HNB.out.2 h0 HNG.out HL1.out HLN.out ht
            clear l1 HF2
            by_cases h128 : q < 128
            · have HNX := hide (any_next HNB.out.1 HNB.out.2 h0 hle HNG.out HL1.out HLN.out ht (Or.inl ⟨h128, rfl⟩))
              have e0 : decide (q < 128) = true := decide_eq_true (by omega)
              have hmu : 3 < gk ∧ 2 + 1 ≤ muA q := by unfold muA at hf ⊢; (repeat' split at hf) <;> (repeat' split) <;> omega
              go_wp2_with fail
              go_roundg (muA q)
              case measure => omega
              case rel => exact ⟨128, rfl, by decide, by decide, Nat.lt_of_lt_of_le (show muA 128 < 2 + 1 from by decide) hmu.2, ⟨HNX.out.trans HS.out.1, fun h => by omega⟩, HB1.out⟩
            by_cases h2048 : q < 2048
            · have HNX := hide (any_next HNB.out.1 HNB.out.2 h0 hle HNG.out HL1.out HLN.out ht (Or.inr (Or.inl ⟨by omega, h2048, rfl⟩)))
              have e0 : decide (q < 128) = false := decide_eq_false (by omega)
              have e1 : decide (q < 2048) = true := decide_eq_true (by omega)
              have hmu : 2 < gk ∧ 1 + 1 ≤ muA q := by unfold muA at hf ⊢; (repeat' split at hf) <;> (repeat' split) <;> omega
              go_wp2_with fail
              go_roundg (muA q)
              case measure => omega
              case rel => exact ⟨2048, rfl, by decide, by decide, Nat.lt_of_lt_of_le (show muA 2048 < 1 + 1 from by decide) hmu.2, ⟨HNX.out.trans HS.out.1, fun h => by omega⟩, HB1.out⟩
            have HNX := hide (any_next HNB.out.1 HNB.out.2 h0 hle HNG.out HL1.out HLN.out ht (Or.inr (Or.inr ⟨by omega, hfar, rfl⟩)))
            have e0 : decide (q < 128) = false := decide_eq_false (by omega)
            have e1 : decide (q < 2048) = false := decide_eq_false (by omega)
            have e2 : decide (q < 65536) = true := decide_eq_true (by omega)
            have hmu : 1 < gk ∧ 0 + 1 ≤ muA q := by unfold muA at hf ⊢; (repeat' split at hf) <;> (repeat' split) <;> omega
            go_wp2_with fail
            go_roundg (muA q)
            case measure => omega
            case rel => exact ⟨65536, rfl, by decide, by decide, Nat.lt_of_lt_of_le (show muA 65536 < 0 + 1 from by decide) hmu.2, ⟨HNX.out.trans HS.out.1, fun h => by omega⟩, HB1.out⟩
          · have dt : decide (q ≤ 1114111) = false := decide_eq_false ht
            have HX := hide (any_top (hi := hi) (n := n) ht)
            go_wp2_with fail
            go_ret
            exact ⟨by rw [← HS.out.1, HX.out]; try rfl, HB1.out⟩
        · have dL : decide ((Lf : Int) < nn) = false := decide_eq_false hLn
          have HLN : Hid (¬ Lf < n) := by have := HNN.out; show ¬ _ < _; omega
          by_cases ht : q ≤ 1114111
          · have dt : decide (q ≤ 1114111) = true := decide_eq_true ht
            have HX := hide (any_here HNB.out.1 HNB.out.2 h0 hle HNG.out HL1.out HLN.out ht)
            clear l1
            go_wp2_with fail
            refine HF2.out.mono ?_
            rintro r wb ⟨pg, Lg, cg, rfl, l2, _, b2⟩
            have hLg : Lg = Lf := l2.symm.trans HL1.out
            have HB2 : Hid (Below w.heap.size w wb) := HB1.out.trans (b2.mono HB1.out.size)
            subst hLg
            obtain ⟨zz, hzz⟩ : ∃ zz, ((Lg : Int) == nn) = zz := ⟨_, rfl⟩
            have HZZ := hide hzz
            clear l2 b2
            go_wp2_with fail
            go_ret
            exact ⟨by rw [← HS.out.1, HX.out, HNN.out, HZZ.out]; try rfl, HB2.out⟩
          · have dt : decide (q ≤ 1114111) = false := decide_eq_false ht
            have HX := hide (any_top (hi := hi) (n := n) ht)
            go_wp2_with fail
            go_ret
            exact ⟨by rw [← HS.out.1, HX.out]; try rfl, HB1.out⟩
      have hgg : 55296 ≤ q ∧ q ≤ 57343 := by omega
      have g0 : decide (q < 55296) = false := decide_eq_false (by omega)
      have g1 : decide (57343 < q) = false := decide_eq_false (by omega)
      have g2 : decide (55296 ≤ q) = true := decide_eq_true (by omega)
      have g3 : decide (q ≤ 57343) = true := decide_eq_true (by omega)
      have HX := hide (any_gap HNB.out.1 HNB.out.2 hle hgg (HS.out.2 hgg))
      have hw2 : wrap32 57344 = 57344 := wrap_gap
      by_cases h5 : 57344 ≤ hi
      · have d5 : decide (57344 ≤ hi) = true := decide_eq_true h5
        have HX2 : Hid (anyF q hi n = ((3 : Int) == nn)) := by show _ = _; rw [HX.out, d5, Bool.true_and, HNN.out]
        have HF := hide (rform_any 57344 wr)
        obtain ⟨zz, hzz⟩ : ∃ zz, ((3 : Int) == nn) = zz := ⟨_, rfl⟩
        have HZZ := hide hzz
        clear hgg
        go_wp2_with fail
        refine HF.out.mono ?_
        rintro r wb ⟨pg, Lg, cg, rfl, l2, _, b2⟩
        have hLg : Lg = 3 := l2.symm.trans (by decide)
        have HB2 : Hid (Below w.heap.size w wb) := HB.out.trans (b2.mono HB.out.size)
        subst hLg
        clear l2 b2 HF
        go_wp2_with fail
        go_ret
        exact ⟨by rw [← HS.out.1, HX2.out, HZZ.out]; try rfl, HB2.out⟩
      · have d5 : decide (57344 ≤ hi) = false := decide_eq_false h5
        have HX2 : Hid (anyF q hi n = false) := by show _ = _; rw [HX.out, d5, Bool.false_and]
        clear hgg
        go_wp2_with fail
        go_ret
        exact ⟨by rw [← HS.out.1, HX2.out]; try rfl, HB.out⟩
    · have da : decide (q ≤ hi) = false := decide_eq_false hle
      have HX := hide (any_over (n := n) hle)
      by_cases hg1 : q < 55296
      · skip
        have g0 : decide (q < 55296) = true := decide_eq_true (by omega)
        have g1 : decide (55296 ≤ q) = false := decide_eq_false (by omega)
        go_wp2_with fail
        go_ret
        exact ⟨by rw [← HS.out.1, HX.out]; try rfl, HB.out⟩
      by_cases hg2 : 57343 < q
      · skip
        have g0 : decide (q < 55296) = false := decide_eq_false (by omega)
        have g1 : decide (57343 < q) = true := decide_eq_true (by omega)
        have g2 : decide (55296 ≤ q) = true := decide_eq_true (by omega)
        have g3 : decide (q ≤ 57343) = false := decide_eq_false (by omega)
        go_wp2_with fail
        go_ret
        exact ⟨by rw [← HS.out.1, HX.out]; try rfl, HB.out⟩
      have g0 : decide (q < 55296) = false := decide_eq_false (by omega)
      have g1 : decide (57343 < q) = false := decide_eq_false (by omega)
      have g2 : decide (55296 ≤ q) = true := decide_eq_true (by omega)
      have g3 : decide (q ≤ 57343) = true := decide_eq_true (by omega)
      have d5 : decide (57344 ≤ hi) = false := decide_eq_false (by omega)
      go_wp2_with fail
      go_ret
      exact ⟨by rw [← HS.out.1, HX.out]; try rfl, HB.out⟩
end Go.Proofs.YtijjifdgmffenaaDoor
