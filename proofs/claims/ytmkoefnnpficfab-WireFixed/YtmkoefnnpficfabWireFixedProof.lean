/-
  Proved here: a fixed number's form has just its size and is read as the number modulo 256 to the power of that size; with a size that is not 1 to 8 there is no form (whatever the number and the size).
-/
import Derived.Test.YtmkoefnnpficfabRows
import Derived.Test.YtmkoefnnpficfabWK
import Derived.ProofKit
import Derived.OpenShut
import Derived.ShutString
import Derived.ChangeOld
import Derived.Below
namespace Go.Proofs.Ytmkoefnnpficfab
namespace WireFixedProof
open Go.ChangeShapes Go.WideShapes Go.ChangeAt Go.RowKit
set_option linter.unusedVariables false

theorem foldl_fixF (s n : Nat) : ∀ a, (fixF s n).foldl (fun a c => a * 256 + c.toNat) a = a * 256 ^ s + n % 256 ^ s := by
  induction s with
  | zero => intro a; simp [fixF, Nat.mod_one]
  | succ s ih =>
    intro a
    rw [fixF, List.foldl_cons, ih, Nat.mod_pow_succ, Nat.pow_succ]
    simp only [Int.toNat_natCast]
    rw [Nat.add_mul, Nat.mul_assoc, Nat.mul_comm 256 (256 ^ s), Nat.mul_comm (n / 256 ^ s % 256)]
    omega

theorem valF_fixF (s n : Nat) : valF ((fixF s n).take s) = n % 256 ^ s := by
  rw [List.take_of_length_le (by rw [fixF_length]; exact Nat.le_refl _), valF, foldl_fixF]
  omega

theorem modeq {m n M : Nat} (h : m = n % M) : ((m : Int) == (n : Int) % (M : Int)) = true := by
  rw [beq_iff_eq, h]; omega

set_option maxHeartbeats 1000000 in
set_option maxRecDepth 100000 in
theorem walk_out (n : Nat) (s : Int) (h : ¬ (1 ≤ s ∧ s ≤ 8)) (w : World) :
    Calls Try.prog 4 #[.int .u64 n, .int .i64 s] w fun e w' => e = .returned (.bool true) ∧ Below w.heap.size w w' := by
  by_cases h1 : s < 1
  · go_enter Try.func4, Try.ntmps4
    go_wp2_with fail
    refine (fixed_out n s h _).mono ?_
    rintro e w1 ⟨rfl, hw1⟩
    subst hw1
    go_wp2_with fail
    refine (known_any _).mono ?_
    rintro e w2 ⟨rfl, hb⟩
    go_wp2
    go_ret
    exact ⟨rfl, hb⟩
  · have h1' : decide (s < 1) = false := by simpa using h1
    have h8 : 8 < s := by omega
    go_enter Try.func4, Try.ntmps4
    go_wp2_with fail
    refine (fixed_out n s h _).mono ?_
    rintro e w1 ⟨rfl, hw1⟩
    subst hw1
    go_wp2_with fail
    refine (known_any _).mono ?_
    rintro e w2 ⟨rfl, hb⟩
    go_wp2
    go_ret
    exact ⟨rfl, hb⟩

set_option maxHeartbeats 1000000 in
set_option maxRecDepth 100000 in
theorem walk_in (n : Nat) (hn : n < 18446744073709551616) (s : Nat) (h1 : 1 ≤ s) (h8 : s ≤ 8) (w : World) :
    Calls Try.prog 4 #[.int .u64 n, .int .i64 s] w fun e w' => e = .returned (.bool true) ∧ Below w.heap.size w w' := by
  have d1 : decide ((s : Int) < 1) = false := by simp; omega
  have d8 : decide ((8 : Int) < (s : Int)) = false := by simp; omega
  go_enter Try.func4, Try.ntmps4
  go_wp2_with fail
  refine (fixed_in n s hn h1 h8 _).mono ?_
  rintro e w1 ⟨v, rfl, hown, hb1⟩
  have hl := fixF_length s n
  rw [← hl] at hown
  obtain ⟨q, c, hv, _, _, hq, _⟩ := own_bytes (xs := fixF s n) (by rw [hl] at hown ⊢; exact hown) (fixF_bytes s n)
  rw [hl] at hv
  subst hv
  have hop := open_any q c (fixF s n) w1 (by rw [hl]; omega) hq
  rw [hl] at hop
  have HQ := hide hq
  have HB1 := hide hb1
  have HL := hide hl
  clear hown hq hb1 hl
  go_wp2_with fail
  refine hop.mono ?_
  rintro e w2 ⟨b, rfl, hbB, hrd, hb2⟩
  have HB2 := hide (HB1.out.trans (hb2.mono HB1.out.size))
  have HRD := hide hrd
  have hbB1 : w.heap.size ≤ b := by have := HB1.out.size; omega
  clear hop hb2 hrd hbB HQ HB1
  go_wp2_with fail
  refine (rfix_ok b _ s _ HRD.out).mono ?_
  rintro e w3 ⟨m, bs', x, rfl, hrd3, hg3, ⟨hno, _⟩ | ⟨_, hm, hbs, rfl⟩⟩
  · rw [HL.out] at hno; omega
  rw [Int.toNat_natCast, valF_fixF] at hm
  rw [Int.toNat_natCast, List.drop_of_length_le (by rw [HL.out]; exact Nat.le_refl _)] at hbs
  subst hbs
  have HB3 := hide (HB2.out.grown hg3 HB2.out.size (by intro k hk; cases hk; exact hbB1))
  have HRD3 := hide hrd3
  have HM := hide hm
  clear hg3 hrd3 HRD HB2 hm HL
  have fin : s = 8 ∨ s = 1 ∨ s = 2 ∨ s = 3 ∨ s = 4 ∨ s = 5 ∨ s = 6 ∨ s = 7 := by omega
  obtain ⟨p0, c0, k0, _⟩ := HRD3.out
  have K0 := hide k0
  clear k0
  rcases fin with rfl | rfl | rfl | rfl | rfl | rfl | rfl | rfl
  · have hm := HM.out
    simp only [Nat.reducePow] at hm
    have heq : ((m : Int) == (n : Int)) = true := by rw [beq_iff_eq]; omega
    clear HM hm
    go_wp2_with fail
    refine (left_at b p0 _ c0 _ K0.out).mono ?_
    rintro e w4 ⟨rfl, hw4⟩
    subst hw4
    go_wp2_with fail
    refine (known_any _).mono ?_
    rintro e w5 ⟨rfl, hb5⟩
    go_wp2
    go_ret
    exact ⟨rfl, HB3.out.trans (hb5.mono HB3.out.size)⟩
  all_goals
    have hm := HM.out
    simp only [Nat.reducePow] at hm
    have heq := modeq hm
    simp only [Int.cast_ofNat_Int] at heq
    clear HM hm
    go_wp2_with fail
    refine (left_at b p0 _ c0 _ K0.out).mono ?_
    rintro e w4 ⟨rfl, hw4⟩
    subst hw4
    go_wp2_with fail
    refine (known_any _).mono ?_
    rintro e w5 ⟨rfl, hb5⟩
    go_wp2
    go_ret
    exact ⟨rfl, HB3.out.trans (hb5.mono HB3.out.size)⟩

theorem wf_u64 {a : Int} (h : (Lit.int .u64 a).wf = true) : ∃ n : Nat, a = n ∧ n < 18446744073709551616 := by
  have := bounds_u64 h
  exact ⟨a.toNat, by omega, by omega⟩

theorem walk (a0 a1 : Int) (w : World) (w0 : (Lit.int .u64 a0).wf = true) (w1 : (Lit.int .i64 a1).wf = true) :
    Calls Try.prog 4 #[.int .u64 a0, .int .i64 a1] w fun e w' => e = .returned (.bool true) ∧ Below w.heap.size w w' := by
  obtain ⟨n, rfl, hn⟩ := wf_u64 w0
  by_cases h : 1 ≤ a1 ∧ a1 ≤ 8
  · obtain ⟨s, rfl⟩ := Int.eq_ofNat_of_zero_le (show 0 ≤ a1 by omega)
    exact walk_in n hn s (by omega) (by omega) w
  · exact walk_out n a1 h w

theorem own : ownKnob Try.prog.godebug = none := by kernel_rfl
theorem laidOut : laidOutB Try.prog = true := by kernel_rfl
set_option maxRecDepth 100000 in
theorem lifted (os : Os) (started : os.Started) (H : Type) (enc : TypeId × Value → H) :
    ReturnsInHanded {} Try.checked os 4 .any (Rows.wireFixedSpec.pre6 enc Try.prog Try.f4 Rows.wireFixedRow.domain false) (Rows.wireFixedSpec.post enc Try.prog Try.f4 false true false false) := by
  refine returnsInHanded_of_change (C := Try.checked) own started (by kernel_rfl) Try.func4
    (ChangeSpec.witness6 (enc := enc) (C := Try.checked) false ⟨#[], #[.int .u64 0, .int .i64 0], []⟩ 8 (by kernel_rfl) (by kernel_rfl) (by kernel_rfl) (by kernel_rfl)) ?_
  intro W base args ds gs before hval0 hW hcnd _
  have hval : ∀ (j : Nat) t v, Try.f4.params[j]? = some t → args[j]? = some v → Value.okWide Try.prog W .any base t v := hval0
  have hW' := hW
  obtain ⟨p, q, hA0, hV, rfl, hfz, hnd⟩ := hW
  have hA : DataW.TrodAll enc Try.prog W 0 (fun _ => true) true Try.f4.params.toList args.toList ds p := hA0
  rw [Try.params4] at hA hval
  obtain ⟨v0, vs0, d0, ds0, p0, q0, hargs, rfl, rfl, h0, r0⟩ := trodAll_cons hA
  obtain ⟨v1, vs1, d1, ds1, p1, q1, rfl, rfl, rfl, h1, r1⟩ := trodAll_cons r0
  obtain ⟨rfl, rfl, rfl⟩ := trodAll_nil r1
  obtain rfl : args = #[v0, v1] := by cases args; simp_all
  obtain ⟨rfl, rfl⟩ := trodVars_none hV
  obtain ⟨a0, rfl, rfl, rfl, w0⟩ := open_int Try.underlying22 (hval 0 22 v0 rfl rfl) h0
  obtain ⟨a1, rfl, rfl, rfl, w1⟩ := open_int Try.underlying3 (hval 1 3 v1 rfl rfl) h1
  clear hA0 hval0
  refine (walk a0 a1 W w0 w1).mono fun e W' ⟨he, bel⟩ => ?_
  subst he
  exact ⟨_, rfl, _, _, _, [], _, [], hW', trodAll_mk1 (shut_bool Try.underlying4 _), (trodAll_cons_mk (shut_int Try.underlying22 w0) (trodAll_cons_mk (shut_int Try.underlying3 w1) trodAll_mk0)), rfl, bel.frame _, fun h => by cases h⟩

theorem over : Rows.wireFixedRow.holds Try.pinned (OpenSpec.ofChange Rows.wireFixedSpec) :=
  OpenClaim.holds_of_wide 4 Try.f4 rfl rfl rfl rfl rfl rfl rfl ⟨rfl, rfl, rfl, rfl, rfl⟩ rfl rfl rfl rfl rfl (by kernel_rfl) Try.func4 (by kernel_rfl)
    (of_decide_eq_true (by kernel_rfl)) (by unfold Func.isWrapper; first | (rw [if_pos (by decide +kernel)]; kernel_rfl) | (rw [if_neg (by decide +kernel)]; exact ⟨rfl, rfl⟩))
    (fun os started H enc _ => lifted os started H enc)

end WireFixedProof

/-- A fixed number's form is read as the number modulo 256 to the power of its size, and has just that size. -/
theorem wireFixed_holds : Rows.WireFixedSaid := WireFixedProof.over

#print axioms wireFixed_holds
end Go.Proofs.Ytmkoefnnpficfab
