/-
  Proved here: of two numbers the greater one has the longer form, or one as long that is greater byte by byte; and forms are equal just where the numbers are (whatever the two numbers).
-/
import Derived.Test.YtmkoefnnpficfaaRows
import Derived.Test.YtmkoefnnpficfaaWO
import Derived.ProofKit
import Derived.OpenShut
import Derived.ShutString
import Derived.ChangeOld
import Derived.Below
import Derived.Deep.RegionWith
import Derived.Deep.DrawnRows
namespace Go.Proofs.Ytmkoefnnpficfaa
namespace WireOrderProof
open Go.ChangeShapes Go.WideShapes Go.ChangeAt Go.RowKit
set_option linter.unusedVariables false
attribute [local go_sem ↓] Go.wp_at_zero Go.wp_at_succ

theorem wf_u64 {a : Int} (h : (Lit.int .u64 a).wf = true) : ∃ n : Nat, a = n ∧ n < 18446744073709551616 := by
  have := bounds_u64 h
  exact ⟨a.toNat, by omega, by omega⟩

/-- a number's form, and 'string(..)' of it in whatever world has grown from there -/
theorem num_conv (n : Nat) (hn : n < 18446744073709551616) (w : World) :
    Calls Try.prog 10 #[.int .u64 n] w fun e w' => ∃ p c k, e = .returned (.slice p k c) ∧ Hid (k = (numF n).length) ∧ Below w.heap.size w w' ∧
      (∀ w2, Below w'.heap.size w' w2 → (convert 23 9 (.slice p k c)).run Try.prog w2 = .ok (.string (strOfNums (numF n))) w2) := by
  refine (num_any n hn w).mono ?_
  rintro e w' ⟨v, rfl, hown, hb⟩
  obtain ⟨q, c, rfl, _, _, hq, _⟩ := own_bytes hown (numF_bytes n)
  exact ⟨q, c, _, rfl, rfl, hb, fun w2 h2 => conv_any (bytes_kept hq (below_grown h2 none) (fun a _ => by simp)) _ c rfl⟩

/-- the ways that two numbers and their forms can stand to each other -/
theorem five (a b : Nat) (ha : a < 18446744073709551616) (hb : b < 18446744073709551616) :
    ((strOfNums (numF a)).size < (strOfNums (numF b)).size ∧ a < b ∧ ((strOfNums (numF a)).toList == (strOfNums (numF b)).toList) = false ∧ ((a : Int) == (b : Int)) = false) ∨
    (decide ((strOfNums (numF a)).size < (strOfNums (numF b)).size) = false ∧ (((strOfNums (numF a)).size : Int) == ((strOfNums (numF b)).size : Int)) = true ∧ Op.bytesLess (strOfNums (numF a)).toList (strOfNums (numF b)).toList = true ∧ a < b ∧ ((strOfNums (numF a)).toList == (strOfNums (numF b)).toList) = false ∧ ((a : Int) == (b : Int)) = false) ∨
    (decide ((strOfNums (numF a)).size < (strOfNums (numF b)).size) = false ∧ (((strOfNums (numF a)).size : Int) == ((strOfNums (numF b)).size : Int)) = true ∧ Op.bytesLess (strOfNums (numF a)).toList (strOfNums (numF b)).toList = false ∧ decide (a < b) = false ∧ ((strOfNums (numF a)).toList == (strOfNums (numF b)).toList) = ((a : Int) == (b : Int)) ∧ True) ∨
    (decide ((strOfNums (numF a)).size < (strOfNums (numF b)).size) = false ∧ (((strOfNums (numF a)).size : Int) == ((strOfNums (numF b)).size : Int)) = false ∧ decide (a < b) = false ∧ ((strOfNums (numF a)).toList == (strOfNums (numF b)).toList) = false ∧ ((a : Int) == (b : Int)) = false) := by
  have sz : ∀ n, (strOfNums (numF n)).size = (numF n).length := fun n => strOfNums_size _
  rw [sz, sz, less_strOf (numF_bytes a) (numF_bytes b)]
  have ne : a ≠ b → ((strOfNums (numF a)).toList == (strOfNums (numF b)).toList) = false := fun h => str_ne (numF_bytes a) (numF_bytes b) (fun e => h (numF_apart ha hb (k := (numF b).length) (by rw [List.take_length]; exact e.symm)))
  have nei : a ≠ b → ((a : Int) == (b : Int)) = false := fun h => by simp; omega
  rcases Nat.lt_trichotomy (numF a).length (numF b).length with h | h | h
  · have hab : a < b := by
      rcases Nat.lt_or_ge a b with h' | h'
      · exact h'
      · have := numF_mono h'; omega
    exact Or.inl ⟨h, hab, ne (by omega), nei (by omega)⟩
  · have hl := numF_lex a b ha hb h
    right
    by_cases hab : a < b
    · left
      exact ⟨by simp; omega, by simp [h], by rw [hl]; simpa using hab, hab, ne (by omega), nei (by omega)⟩
    · right; left
      refine ⟨by simp; omega, by simp [h], by rw [hl]; simpa using hab, by simpa using hab, ?_, trivial⟩
      by_cases e : a = b
      · subst e; simp
      · rw [ne e, nei e]
  · have hab : ¬ a < b := by
      intro h'
      have := numF_mono (Nat.le_of_lt h')
      omega
    have hne : a ≠ b := by intro e; subst e; omega
    right; right; right
    exact ⟨by simp; omega, by simp; omega, by simpa using hab, ne hne, nei hne⟩

set_option maxHeartbeats 1000000 in
set_option maxRecDepth 100000 in
theorem walk_nat (a b : Nat) (ha : a < 18446744073709551616) (hb : b < 18446744073709551616) (w : World) :
    Calls Try.prog 8 #[.int .u64 a, .int .u64 b] w fun e w' => e = .returned (.bool true) ∧ Below w.heap.size w w' := by
  go_enter Try.func8, Try.ntmps8
  go_wp2
  go_region_with (first
    | (go_at_call_of 10 (Value.int .u64 (a : Int)); refine (num_conv a ha _).mono ?_; rintro e w1 ⟨p1, c1, k1, rfl, hk1, hb1, hc1⟩; have hd1 := hc1 _ (Below.refl _ _))
    | (go_at_call_of 10 (Value.int .u64 (b : Int)); refine (num_conv b hb _).mono ?_; rintro e w2 ⟨p2, c2, k2, rfl, hk2, hb2, hc2⟩; have hd2 := hc2 _ (Below.refl _ _); have hd3 := hc1 _ hb2))
  all_goals
    have HB2 : Hid (Below w.heap.size w w2) := ((Below.refl w.heap.size w).drew.trans hb1).trans (hb2.mono hb1.size)
    have c5 := five a b ha hb
    clear hc1 hc2 hd1 hd2 hd3 hk1 hk2 hb1 hb2
    generalize strOfNums (numF a) = SA at *
    generalize strOfNums (numF b) = SB at *
    rcases c5 with ⟨f1, f2, f3, f4⟩ | ⟨f1, f2, f3, f4, f5, f6⟩ | ⟨f1, f2, f3, f4, f5, f6⟩ | ⟨f1, f2, f3, f4, f5⟩
    all_goals
      go_wp2_with fail
      refine (known_any _).mono ?_
      rintro e w3 ⟨rfl, hb3⟩
      go_wp2
      go_ret
      exact ⟨rfl, HB2.out.trans (hb3.mono HB2.out.size)⟩

theorem walk (a0 a1 : Int) (w : World) (w0 : (Lit.int .u64 a0).wf = true) (w1 : (Lit.int .u64 a1).wf = true) :
    Calls Try.prog 8 #[.int .u64 a0, .int .u64 a1] w fun e w' => e = .returned (.bool true) ∧ Below w.heap.size w w' := by
  obtain ⟨a, rfl, ha⟩ := wf_u64 w0
  obtain ⟨b, rfl, hb⟩ := wf_u64 w1
  exact walk_nat a b ha hb w

theorem own : ownKnob Try.prog.godebug = none := by kernel_rfl
theorem laidOut : laidOutB Try.prog = true := by kernel_rfl
set_option maxRecDepth 100000 in
theorem lifted (os : Os) (started : os.Started) (H : Type) (enc : TypeId × Value → H) :
    ReturnsInHanded {} Try.checked os 8 .any (Rows.wireOrderSpec.pre6 enc Try.prog Try.f8 Rows.wireOrderRow.domain false) (Rows.wireOrderSpec.post enc Try.prog Try.f8 false true false false) := by
  refine returnsInHanded_of_change (C := Try.checked) own started (by kernel_rfl) Try.func8
    (ChangeSpec.witness6 (enc := enc) (C := Try.checked) false ⟨#[], #[.int .u64 0, .int .u64 0], []⟩ 8 (by kernel_rfl) (by kernel_rfl) (by kernel_rfl) (by kernel_rfl)) ?_
  intro W base args ds gs before hval0 hW hcnd _
  have hval : ∀ (j : Nat) t v, Try.f8.params[j]? = some t → args[j]? = some v → Value.okWide Try.prog W .any base t v := hval0
  have hW' := hW
  obtain ⟨p, q, hA0, hV, rfl, hfz, hnd⟩ := hW
  have hA : DataW.TrodAll enc Try.prog W 0 (fun _ => true) true Try.f8.params.toList args.toList ds p := hA0
  rw [Try.params8] at hA hval
  obtain ⟨v0, vs0, d0, ds0, p0, q0, hargs, rfl, rfl, h0, r0⟩ := trodAll_cons hA
  obtain ⟨v1, vs1, d1, ds1, p1, q1, rfl, rfl, rfl, h1, r1⟩ := trodAll_cons r0
  obtain ⟨rfl, rfl, rfl⟩ := trodAll_nil r1
  obtain rfl : args = #[v0, v1] := by cases args; simp_all
  obtain ⟨rfl, rfl⟩ := trodVars_none hV
  obtain ⟨a0, rfl, rfl, rfl, w0⟩ := open_int Try.underlying22 (hval 0 22 v0 rfl rfl) h0
  obtain ⟨a1, rfl, rfl, rfl, w1⟩ := open_int Try.underlying22 (hval 1 22 v1 rfl rfl) h1
  clear hA0 hval0
  refine (walk a0 a1 W w0 w1).mono fun e W' ⟨he, bel⟩ => ?_
  subst he
  exact ⟨_, rfl, _, _, _, [], _, [], hW', trodAll_mk1 (shut_bool Try.underlying4 _), (trodAll_cons_mk (shut_int Try.underlying22 w0) (trodAll_cons_mk (shut_int Try.underlying22 w1) trodAll_mk0)), rfl, bel.frame _, fun h => by cases h⟩

theorem over : Rows.wireOrderRow.holds Try.pinned (OpenSpec.ofChange Rows.wireOrderSpec) :=
  OpenClaim.holds_of_wide 8 Try.f8 rfl rfl rfl rfl rfl rfl rfl ⟨rfl, rfl, rfl, rfl, rfl⟩ rfl rfl rfl rfl rfl (by kernel_rfl) Try.func8 (by kernel_rfl)
    (of_decide_eq_true (by kernel_rfl)) (by unfold Func.isWrapper; first | (rw [if_pos (by decide +kernel)]; kernel_rfl) | (rw [if_neg (by decide +kernel)]; exact ⟨rfl, rfl⟩))
    (fun os started H enc _ => lifted os started H enc)


end WireOrderProof

/-- Of two numbers the greater one has the longer form, or one as long that is greater byte by byte. -/
theorem wireOrder_holds : Rows.WireOrderSaid := WireOrderProof.over

#print axioms wireOrder_holds
end Go.Proofs.Ytmkoefnnpficfaa
