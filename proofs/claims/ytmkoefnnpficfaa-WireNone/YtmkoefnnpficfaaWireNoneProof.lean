/-
  Proved here: a reader that is not there, or that Open did not make, is as one over no bytes (whatever the size and the bound).
-/
import Derived.Test.YtmkoefnnpficfaaRows
import Derived.Test.YtmkoefnnpficfaaWR
import Derived.ProofKit
import Derived.OpenShut
import Derived.ShutString
import Derived.ChangeOld
import Derived.Below
namespace Go.Proofs.Ytmkoefnnpficfaa
namespace WireNoneProof
open Go.ChangeShapes Go.WideShapes Go.ChangeAt Go.RowKit
set_option linter.unusedVariables false

set_option maxHeartbeats 1000000 in
set_option maxRecDepth 100000 in
theorem walk (a0 a1 : Int) (w : World) (w0 : (Lit.int .i64 a0).wf = true) (w1 : (Lit.int .i64 a1).wf = true) :
    Calls Try.prog 5 #[.int .i64 a0, .int .i64 a1] w fun e w' => e = .returned (.bool true) ∧ Below w.heap.size w w' := by
  clear w0 w1
  go_enter Try.func5, Try.ntmps5
  go_wp2_with fail
  have hrd := rd_new (w := w) (q := none) (xs := []) (cap := 0) (t := 46) (Nat.le_refl _) (Nat.zero_le _) (Nat.zero_le _) ⟨by simp, Or.inl rfl⟩ (fun a h => by cases h)
  have HB := hide ((Below.refl w.heap.size w).alloc (Nat.le_refl _) (Obj.cells #[.slice none 0 0, .int .i64 0] 46))
  have HRD := hide hrd
  clear hrd
  have hb : w.heap.size ≤ w.heap.size := Nat.le_refl _
  generalize hbr : w.heap.size = br at *
  generalize hw1 : w.alloc (Obj.cells #[.slice none 0 0, .int .i64 0] 46) = v1 at *
  refine (rnum_nil _).mono ?_
  rintro e w2 ⟨rfl, hw2⟩
  subst hw2
  go_wp2_with fail
  refine (rfix_nil _ _).mono ?_
  rintro e w2 ⟨rfl, hw2⟩
  subst hw2
  go_wp2_with fail
  refine (rtxt_nil _ _).mono ?_
  rintro e w2 ⟨rfl, hw2⟩
  subst hw2
  go_wp2_with fail
  refine (rest_nil _).mono ?_
  rintro e w2 ⟨rfl, hw2⟩
  subst hw2
  go_wp2_with fail
  refine (left_nil _).mono ?_
  rintro e w2 ⟨rfl, hw2⟩
  subst hw2
  go_wp2_with fail
  refine (end_nil _).mono ?_
  rintro e w2 ⟨rfl, hw2⟩
  subst hw2
  go_wp2_with fail
  refine (err_nil _).mono ?_
  rintro e w2 ⟨rfl, hw2⟩
  subst hw2
  clear hw1
  go_wp2_with fail
  obtain ⟨p0, c0, k0, k1, _⟩ := HRD.out
  have K0 := hide k0
  clear k0 k1
  refine (left_at br p0 _ c0 _ K0.out).mono ?_
  rintro e w3 ⟨rfl, hw3⟩
  subst hw3
  go_wp2_with fail
  refine (end_at br _ _ _ HRD.out).mono ?_
  rintro e w3 ⟨rfl, hw3⟩
  subst hw3
  rw [show endOf [] 0 = 0 from rfl]
  go_wp2_with fail
  refine (rest_ok br _ _ HRD.out).mono ?_
  rintro e w4 ⟨v4, rfl, hown4, hrd4, hg4⟩
  have HB4 := hide (HB.out.grown hg4 (by rw [← hbr]; exact HB.out.size) (by intro k hk; cases hk; exact Nat.le_refl _))
  obtain ⟨q4, c4, rfl, _⟩ := own_bytes (xs := []) hown4 (by simp)
  have HRD4 := hide hrd4
  clear hown4 hrd4 hg4 HRD HB K0
  go_wp2_with fail
  refine (rnum_ok br _ _ HRD4.out).mono ?_
  rintro e w5 ⟨m, bs', x, rfl, hrd5, hg5, ⟨_, rfl, rfl, rfl⟩ | ⟨hn, _⟩⟩
  case inr => cases hn
  have HB5 := hide (HB4.out.grown hg5 (by rw [← hbr]; exact HB4.out.size) (by intro k hk; cases hk; exact Nat.le_refl _))
  obtain ⟨p5, c5, _, k5, _⟩ := hrd5
  have K5 := hide k5
  clear k5 hg5 HRD4 HB4
  go_wp2_with fail
  refine (err_at br _ _ K5.out).mono ?_
  rintro e w6 ⟨rfl, hw6⟩
  subst hw6
  go_wp2_with fail
  refine (known_any _).mono ?_
  rintro e w7 ⟨rfl, hb7⟩
  have HB7 := hide (HB5.out.trans (hb7.mono (by rw [← hbr]; exact HB5.out.size)))
  clear hb7 HB5
  go_wp2
  go_ret
  exact ⟨rfl, by rw [hbr]; exact HB7.out⟩

theorem own : ownKnob Try.prog.godebug = none := by kernel_rfl
theorem laidOut : laidOutB Try.prog = true := by kernel_rfl
set_option maxRecDepth 100000 in
theorem lifted (os : Os) (started : os.Started) (H : Type) (enc : TypeId × Value → H) :
    ReturnsInHanded {} Try.checked os 5 .any (Rows.wireNoneSpec.pre6 enc Try.prog Try.f5 Rows.wireNoneRow.domain false) (Rows.wireNoneSpec.post enc Try.prog Try.f5 false true false false) := by
  refine returnsInHanded_of_change (C := Try.checked) own started (by kernel_rfl) Try.func5
    (ChangeSpec.witness6 (enc := enc) (C := Try.checked) false ⟨#[], #[.int .i64 0, .int .i64 0], []⟩ 8 (by kernel_rfl) (by kernel_rfl) (by kernel_rfl) (by kernel_rfl)) ?_
  intro W base args ds gs before hval0 hW hcnd _
  have hval : ∀ (j : Nat) t v, Try.f5.params[j]? = some t → args[j]? = some v → Value.okWide Try.prog W .any base t v := hval0
  have hW' := hW
  obtain ⟨p, q, hA0, hV, rfl, hfz, hnd⟩ := hW
  have hA : DataW.TrodAll enc Try.prog W 0 (fun _ => true) true Try.f5.params.toList args.toList ds p := hA0
  rw [Try.params5] at hA hval
  obtain ⟨v0, vs0, d0, ds0, p0, q0, hargs, rfl, rfl, h0, r0⟩ := trodAll_cons hA
  obtain ⟨v1, vs1, d1, ds1, p1, q1, rfl, rfl, rfl, h1, r1⟩ := trodAll_cons r0
  obtain ⟨rfl, rfl, rfl⟩ := trodAll_nil r1
  obtain rfl : args = #[v0, v1] := by cases args; simp_all
  obtain ⟨rfl, rfl⟩ := trodVars_none hV
  obtain ⟨a0, rfl, rfl, rfl, w0⟩ := open_int Try.underlying3 (hval 0 3 v0 rfl rfl) h0
  obtain ⟨a1, rfl, rfl, rfl, w1⟩ := open_int Try.underlying3 (hval 1 3 v1 rfl rfl) h1
  clear hA0 hval0
  refine (walk a0 a1 W w0 w1).mono fun e W' ⟨he, bel⟩ => ?_
  subst he
  exact ⟨_, rfl, _, _, _, [], _, [], hW', trodAll_mk1 (shut_bool Try.underlying4 _), (trodAll_cons_mk (shut_int Try.underlying3 w0) (trodAll_cons_mk (shut_int Try.underlying3 w1) trodAll_mk0)), rfl, bel.frame _, fun h => by cases h⟩

theorem over : Rows.wireNoneRow.holds Try.pinned (OpenSpec.ofChange Rows.wireNoneSpec) :=
  OpenClaim.holds_of_wide 5 Try.f5 rfl rfl rfl rfl rfl rfl rfl ⟨rfl, rfl, rfl, rfl, rfl⟩ rfl rfl rfl rfl rfl (by kernel_rfl) Try.func5 (by kernel_rfl)
    (of_decide_eq_true (by kernel_rfl)) (by unfold Func.isWrapper; first | (rw [if_pos (by decide +kernel)]; kernel_rfl) | (rw [if_neg (by decide +kernel)]; exact ⟨rfl, rfl⟩))
    (fun os started H enc _ => lifted os started H enc)

end WireNoneProof

/-- A reader that is not there, or that Open did not make, is as one over no bytes. -/
theorem wireNone_holds : Rows.WireNoneSaid := WireNoneProof.over

#print axioms wireNone_holds
end Go.Proofs.Ytmkoefnnpficfaa
