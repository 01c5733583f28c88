/-
  AesField: whatever the three bytes, their products do not hang on order or grouping and go through exclusive or, each byte but 0 has one other, and the known rows come out: the law returns true, and what is handed in stays. No condition.
-/
import Derived.Test.YtkafnkofanocpaaEO
namespace Go.Proofs.Ytkafnkofanocpaa
namespace AesFieldProof
open Go.ChangeShapes Go.WideShapes Go.ChangeAt Go.RowKit
set_option linter.unusedVariables false

set_option maxHeartbeats 4000000 in
set_option maxRecDepth 100000 in
theorem walk_zero (b c y z d u t : Nat) (w : World) (hb : b < 256) (hc : c < 256)
    (e1 : bits .xor .u8 (b : Int) (c : Int) = (d : Int)) (e2 : bits .xor .u8 0 (t : Int) = (u : Int))
    (h1 : ∀ v : World, Calls Try.prog 9 #[.int .u8 0, .int .u8 b] v fun e w' => e = .returned (.int .u8 0) ∧ w' = v)
    (h2 : ∀ v : World, Calls Try.prog 9 #[.int .u8 b, .int .u8 0] v fun e w' => e = .returned (.int .u8 0) ∧ w' = v)
    (h3 : ∀ v : World, Calls Try.prog 9 #[.int .u8 0, .int .u8 c] v fun e w' => e = .returned (.int .u8 ((y : Nat) : Int)) ∧ w' = v)
    (h4 : ∀ v : World, Calls Try.prog 9 #[.int .u8 b, .int .u8 c] v fun e w' => e = .returned (.int .u8 ((z : Nat) : Int)) ∧ w' = v)
    (h5 : ∀ v : World, Calls Try.prog 9 #[.int .u8 0, .int .u8 z] v fun e w' => e = .returned (.int .u8 ((y : Nat) : Int)) ∧ w' = v)
    (h6 : ∀ v : World, Calls Try.prog 9 #[.int .u8 0, .int .u8 d] v fun e w' => e = .returned (.int .u8 ((u : Nat) : Int)) ∧ w' = v)
    (h7 : ∀ v : World, Calls Try.prog 9 #[.int .u8 0, .int .u8 c] v fun e w' => e = .returned (.int .u8 ((t : Nat) : Int)) ∧ w' = v)
    (h8 : ∀ v : World, Calls Try.prog 9 #[.int .u8 0, .int .u8 1] v fun e w' => e = .returned (.int .u8 0) ∧ w' = v)
    (h9 : ∀ v : World, Calls Try.prog 9 #[.int .u8 0, .int .u8 2] v fun e w' => e = .returned (.int .u8 0) ∧ w' = v)
    (h10 : ∀ v : World, Calls Try.prog 11 #[.int .u8 0] v fun e w' => e = .returned (.int .u8 0) ∧ w' = v) :
    Calls Try.prog 7 #[.int .u8 0, .int .u8 b, .int .u8 c] w fun e w' => e = .returned (.bool true) ∧ Below w.heap.size w w' := by
  have H1 := hide h1
  have H2 := hide h2
  have H3 := hide h3
  have H4 := hide h4
  have H5 := hide h5
  have H6 := hide h6
  have H7 := hide h7
  have H8 := hide h8
  have H9 := hide h9
  have H10 := hide h10
  have e3 : bits .xor .u8 0 0 = 0 := by decide
  clear h1 h2 h3 h4 h5 h6 h7 h8 h9 h10
  go_enter Try.func7, Try.ntmps7
  go_wp2_with fail
  refine (H1.out _).mono ?_
  rintro e w1 ⟨rfl, hw⟩
  subst hw
  go_wp2_with fail
  refine (H2.out _).mono ?_
  rintro e w1 ⟨rfl, hw⟩
  subst hw
  go_wp2_with fail
  refine (H3.out _).mono ?_
  rintro e w1 ⟨rfl, hw⟩
  subst hw
  go_wp2_with fail
  refine (H4.out _).mono ?_
  rintro e w1 ⟨rfl, hw⟩
  subst hw
  go_wp2_with fail
  refine (H5.out _).mono ?_
  rintro e w1 ⟨rfl, hw⟩
  subst hw
  go_wp2_with fail
  refine (H6.out _).mono ?_
  rintro e w1 ⟨rfl, hw⟩
  subst hw
  go_wp2_with fail
  refine (H7.out _).mono ?_
  rintro e w1 ⟨rfl, hw⟩
  subst hw
  go_wp2_with fail
  refine (H8.out _).mono ?_
  rintro e w1 ⟨rfl, hw⟩
  subst hw
  go_wp2_with fail
  refine (H9.out _).mono ?_
  rintro e w1 ⟨rfl, hw⟩
  subst hw
  go_wp2_with fail
  refine (H10.out _).mono ?_
  rintro e w1 ⟨rfl, hw⟩
  subst hw
  go_wp2_with fail
  refine (known_any _).mono ?_
  rintro e w2 ⟨rfl, hb⟩
  go_wp2
  go_ret
  exact ⟨rfl, hb⟩

set_option maxHeartbeats 4000000 in
set_option maxRecDepth 100000 in
theorem walk_in (a b c x y z d u t q o : Nat) (r : Bool) (w : World) (ha : a < 256) (hb : b < 256) (hc : c < 256) (h0 : 0 < a)
    (e1 : bits .xor .u8 (b : Int) (c : Int) = (d : Int)) (e2 : bits .xor .u8 (x : Int) (t : Int) = (u : Int)) (e3 : bits .xor .u8 ((a : Int) * 2 % 256) ((a : Int) / 128 * 27) = (q : Int))
    (e4 : ((x : Int) == 1) = r) (e5 : ((b : Int) == (o : Int)) = r)
    (h1 : ∀ v : World, Calls Try.prog 9 #[.int .u8 a, .int .u8 b] v fun e w' => e = .returned (.int .u8 ((x : Nat) : Int)) ∧ w' = v)
    (h2 : ∀ v : World, Calls Try.prog 9 #[.int .u8 b, .int .u8 a] v fun e w' => e = .returned (.int .u8 ((x : Nat) : Int)) ∧ w' = v)
    (h3 : ∀ v : World, Calls Try.prog 9 #[.int .u8 x, .int .u8 c] v fun e w' => e = .returned (.int .u8 ((y : Nat) : Int)) ∧ w' = v)
    (h4 : ∀ v : World, Calls Try.prog 9 #[.int .u8 b, .int .u8 c] v fun e w' => e = .returned (.int .u8 ((z : Nat) : Int)) ∧ w' = v)
    (h5 : ∀ v : World, Calls Try.prog 9 #[.int .u8 a, .int .u8 z] v fun e w' => e = .returned (.int .u8 ((y : Nat) : Int)) ∧ w' = v)
    (h6 : ∀ v : World, Calls Try.prog 9 #[.int .u8 a, .int .u8 d] v fun e w' => e = .returned (.int .u8 ((u : Nat) : Int)) ∧ w' = v)
    (h7 : ∀ v : World, Calls Try.prog 9 #[.int .u8 a, .int .u8 c] v fun e w' => e = .returned (.int .u8 ((t : Nat) : Int)) ∧ w' = v)
    (h8 : ∀ v : World, Calls Try.prog 9 #[.int .u8 a, .int .u8 1] v fun e w' => e = .returned (.int .u8 ((a : Nat) : Int)) ∧ w' = v)
    (h9 : ∀ v : World, Calls Try.prog 9 #[.int .u8 a, .int .u8 2] v fun e w' => e = .returned (.int .u8 ((q : Nat) : Int)) ∧ w' = v)
    (h10 : ∀ v : World, Calls Try.prog 11 #[.int .u8 a] v fun e w' => e = .returned (.int .u8 ((o : Nat) : Int)) ∧ w' = v)
    (h11 : ∀ v : World, Calls Try.prog 9 #[.int .u8 a, .int .u8 o] v fun e w' => e = .returned (.int .u8 1) ∧ w' = v)
    (h12 : ∀ v : World, Calls Try.prog 11 #[.int .u8 o] v fun e w' => e = .returned (.int .u8 ((a : Nat) : Int)) ∧ w' = v) :
    Calls Try.prog 7 #[.int .u8 a, .int .u8 b, .int .u8 c] w fun e w' => e = .returned (.bool true) ∧ Below w.heap.size w w' := by
  have H1 := hide h1
  have H2 := hide h2
  have H3 := hide h3
  have H4 := hide h4
  have H5 := hide h5
  have H6 := hide h6
  have H7 := hide h7
  have H8 := hide h8
  have H9 := hide h9
  have H10 := hide h10
  have H11 := hide h11
  have H12 := hide h12
  have hrr : (r == r) = true := by simp
  have ha0 : ¬ (a : Int) = 0 := by omega
  clear h1 h2 h3 h4 h5 h6 h7 h8 h9 h10 h11 h12
  go_enter Try.func7, Try.ntmps7
  go_wp2_with fail
  refine (H1.out _).mono ?_
  rintro e w1 ⟨rfl, hw⟩
  subst hw
  go_wp2_with fail
  refine (H2.out _).mono ?_
  rintro e w1 ⟨rfl, hw⟩
  subst hw
  go_wp2_with fail
  refine (H3.out _).mono ?_
  rintro e w1 ⟨rfl, hw⟩
  subst hw
  go_wp2_with fail
  refine (H4.out _).mono ?_
  rintro e w1 ⟨rfl, hw⟩
  subst hw
  go_wp2_with fail
  refine (H5.out _).mono ?_
  rintro e w1 ⟨rfl, hw⟩
  subst hw
  go_wp2_with fail
  refine (H6.out _).mono ?_
  rintro e w1 ⟨rfl, hw⟩
  subst hw
  go_wp2_with fail
  refine (H7.out _).mono ?_
  rintro e w1 ⟨rfl, hw⟩
  subst hw
  go_wp2_with fail
  refine (H8.out _).mono ?_
  rintro e w1 ⟨rfl, hw⟩
  subst hw
  go_wp2_with fail
  refine (H9.out _).mono ?_
  rintro e w1 ⟨rfl, hw⟩
  subst hw
  go_wp2_with fail
  refine (H10.out _).mono ?_
  rintro e w1 ⟨rfl, hw⟩
  subst hw
  go_wp2_with fail
  refine (H11.out _).mono ?_
  rintro e w1 ⟨rfl, hw⟩
  subst hw
  go_wp2_with fail
  refine (H10.out _).mono ?_
  rintro e w1 ⟨rfl, hw⟩
  subst hw
  go_wp2_with fail
  refine (H10.out _).mono ?_
  rintro e w1 ⟨rfl, hw⟩
  subst hw
  go_wp2_with fail
  refine (H12.out _).mono ?_
  rintro e w1 ⟨rfl, hw⟩
  subst hw
  go_wp2_with fail
  refine (known_any _).mono ?_
  rintro e w2 ⟨rfl, hb⟩
  go_wp2
  go_ret
  exact ⟨rfl, hb⟩

theorem dbl_form {a : Nat} (ha : a < 256) : bits .xor .u8 ((a : Int) * 2 % 256) ((a : Int) / 128 * 27) = ((dblF a : Nat) : Int) := by
  by_cases h : a < 128
  · have e1 : (a : Int) * 2 % 256 = ((2 * a : Nat) : Int) := by omega
    have e2 : (a : Int) / 128 * 27 = ((0 : Nat) : Int) := by omega
    rw [e1, e2, u8_xor_nat _ _ (by omega) (by omega), Nat.xor_zero, dblF, if_pos h]
  · have e1 : (a : Int) * 2 % 256 = ((2 * a - 256 : Nat) : Int) := by omega
    have e2 : (a : Int) / 128 * 27 = ((27 : Nat) : Int) := by omega
    rw [e1, e2, u8_xor_nat _ _ (by omega) (by omega), dblF, if_neg h]

theorem walk (a0 a1 a2 : Int) (w : World) (w0 : (Lit.int .u8 a0).wf = true) (w1 : (Lit.int .u8 a1).wf = true) (w2 : (Lit.int .u8 a2).wf = true) :
    Calls Try.prog 7 #[.int .u8 a0, .int .u8 a1, .int .u8 a2] w fun e w' => e = .returned (.bool true) ∧ Below w.heap.size w w' := by
  obtain ⟨a, rfl, ha⟩ := wf_byte w0
  obtain ⟨b, rfl, hb⟩ := wf_byte w1
  obtain ⟨c, rfl, hc⟩ := wf_byte w2
  have T : ∀ {x y r : Nat}, x < 256 → y < 256 → tmF x y = r → ∀ v : World, Calls Try.prog 9 #[.int .u8 x, .int .u8 y] v fun e w' => e = .returned (.int .u8 ((r : Nat) : Int)) ∧ w' = v := fun hx hy h v => by rw [← h]; exact times_any _ _ hx hy v
  have O : ∀ {x r : Nat}, x < 256 → otF x = r → ∀ v : World, Calls Try.prog 11 #[.int .u8 x] v fun e w' => e = .returned (.int .u8 ((r : Nat) : Int)) ∧ w' = v := fun hx h v => by rw [← h]; exact other_any _ hx v
  have hd := xor_lt8 hb hc
  have hz := tmF_lt c hb
  by_cases h0 : a = 0
  · subst h0
    exact walk_zero b c (tmF 0 c) (tmF b c) (b ^^^ c) (tmF 0 (b ^^^ c)) (tmF 0 c) w hb hc (u8_xor_nat b c hb hc)
      (by rw [show (0 : Int) = ((0 : Nat) : Int) from rfl, u8_xor_nat _ _ (by omega) (tmF_lt c (by omega)), zero_tm, zero_tm]; rfl)
      (T (by omega) hb (zero_tm b)) (T hb (by omega) (tm_zero b)) (T (by omega) hc rfl) (T hb hc rfl) (T (by omega) hz (by rw [zero_tm, zero_tm])) (T (by omega) hd rfl) (T (by omega) hc rfl) (T (y := 1) (by omega) (by omega) (zero_tm 1)) (T (y := 2) (by omega) (by omega) (zero_tm 2)) (O (by omega) ot_zero)
  · have hx := tmF_lt b ha
    have ho := ot_lt ha
    refine walk_in a b c (tmF a b) (tmF (tmF a b) c) (tmF b c) (b ^^^ c) (tmF a (b ^^^ c)) (tmF a c) (dblF a) (otF a) (decide (b = otF a)) w ha hb hc (by omega) (u8_xor_nat b c hb hc)
      (by rw [u8_xor_nat _ _ hx (tmF_lt c ha), tm_xor_right]) (dbl_form ha) ?_ ?_
      (T ha hb rfl) (T hb ha (tm_comm hb ha)) (T hx hc rfl) (T hb hc rfl) (T ha hz (tm_assoc ha hb).symm) (T ha hd rfl) (T ha hc rfl) (T (y := 1) ha (by omega) (tm_one ha)) (T (y := 2) ha (by omega) (tm_two ha)) (O ha rfl) (T ha ho (tm_ot ha h0)) (O ho (ot_ot ha h0))
    · have h := ot_one ha hb h0
      by_cases hb' : b = otF a
      · rw [decide_eq_true hb', beq_iff_eq, h.2 hb']; rfl
      · rw [decide_eq_false hb', beq_eq_false_iff_ne]
        have : ¬ tmF a b = 1 := fun e => hb' (h.1 e)
        omega
    · by_cases hb' : b = otF a
      · rw [decide_eq_true hb', beq_iff_eq, ← hb']
      · rw [decide_eq_false hb', beq_eq_false_iff_ne]
        omega

theorem own : ownKnob Try.prog.godebug = none := by kernel_rfl
theorem laidOut : laidOutB Try.prog = true := by kernel_rfl
set_option maxRecDepth 100000 in
theorem lifted (os : Os) (started : os.Started) (H : Type) (enc : TypeId × Value → H) :
    ReturnsInHanded {} Try.checked os 7 .any (Rows.aesFieldSpec.pre6 enc Try.prog Try.f7 Rows.aesFieldRow.domain false) (Rows.aesFieldSpec.post enc Try.prog Try.f7 false true false false) := by
  refine returnsInHanded_of_change (C := Try.checked) own started (by kernel_rfl) Try.func7
    (ChangeSpec.witness6 (enc := enc) (C := Try.checked) false ⟨#[], #[.int .u8 0, .int .u8 0, .int .u8 0], []⟩ 8 (by kernel_rfl) (by kernel_rfl) (by kernel_rfl) (by kernel_rfl)) ?_
  intro W base args ds gs before hval0 hW hcnd _
  have hval : ∀ (j : Nat) t v, Try.f7.params[j]? = some t → args[j]? = some v → Value.okWide Try.prog W .any base t v := hval0
  have hW' := hW
  obtain ⟨p, q, hA0, hV, rfl, hfz, hnd⟩ := hW
  have hA : DataW.TrodAll enc Try.prog W 0 (fun _ => true) true Try.f7.params.toList args.toList ds p := hA0
  rw [Try.params7] at hA hval
  obtain ⟨v0, vs0, d0, ds0, p0, q0, hargs, rfl, rfl, h0, r0⟩ := trodAll_cons hA
  obtain ⟨v1, vs1, d1, ds1, p1, q1, rfl, rfl, rfl, h1, r1⟩ := trodAll_cons r0
  obtain ⟨v2, vs2, d2, ds2, p2, q2, rfl, rfl, rfl, h2, r2⟩ := trodAll_cons r1
  obtain ⟨rfl, rfl, rfl⟩ := trodAll_nil r2
  obtain rfl : args = #[v0, v1, v2] := by cases args; simp_all
  obtain ⟨rfl, rfl⟩ := trodVars_none hV
  obtain ⟨a0, rfl, rfl, rfl, w0⟩ := open_int Try.underlying5 (hval 0 5 v0 rfl rfl) h0
  obtain ⟨a1, rfl, rfl, rfl, w1⟩ := open_int Try.underlying5 (hval 1 5 v1 rfl rfl) h1
  obtain ⟨a2, rfl, rfl, rfl, w2⟩ := open_int Try.underlying5 (hval 2 5 v2 rfl rfl) h2
  clear hA0 hval0
  refine (walk a0 a1 a2 W w0 w1 w2).mono fun e W' ⟨he, bel⟩ => ?_
  subst he
  exact ⟨_, rfl, _, _, _, [], _, [], hW', trodAll_mk1 (shut_bool Try.underlying4 _), (trodAll_cons_mk (shut_int Try.underlying5 w0) (trodAll_cons_mk (shut_int Try.underlying5 w1) (trodAll_cons_mk (shut_int Try.underlying5 w2) trodAll_mk0))), rfl, bel.frame _, fun h => by cases h⟩

theorem over : Rows.aesFieldRow.holds Try.pinned (OpenSpec.ofChange Rows.aesFieldSpec) :=
  OpenClaim.holds_of_wide 7 Try.f7 rfl rfl rfl rfl rfl rfl rfl ⟨rfl, rfl, rfl, rfl, rfl⟩ rfl rfl rfl rfl rfl (by kernel_rfl) Try.func7 (by kernel_rfl)
    (of_decide_eq_true (by kernel_rfl)) (by unfold Func.isWrapper; first | (rw [if_pos (by decide +kernel)]; kernel_rfl) | (rw [if_neg (by decide +kernel)]; exact ⟨rfl, rfl⟩))
    (fun os started H enc _ => lifted os started H enc)

end AesFieldProof

/-- Bytes have a product: in any order and grouping, through exclusive or; each but 0 has one other. -/
theorem aesField_holds : Rows.AesFieldSaid := AesFieldProof.over

#print axioms aesField_holds
end Go.Proofs.Ytkafnkofanocpaa
