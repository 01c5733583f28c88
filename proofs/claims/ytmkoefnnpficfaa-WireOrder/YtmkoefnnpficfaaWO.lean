/-
  Plain facts: of two numbers the greater one has the longer form, or one as long that is greater byte by byte.
-/
import Derived.Test.YtmkoefnnpficfaaWN
namespace Go.Proofs.Ytmkoefnnpficfaa
open Go.RowKit

theorem numH_nil {f m : Nat} (hm : m < 128 ^ f) (h : numH f m = []) : m = 0 := by
  cases f with
  | zero => simp at hm; omega
  | succ f =>
    rw [numH] at h
    split at h
    · assumption
    · simp at h

theorem numH_mono (f : Nat) : ∀ m m', m ≤ m' → (numH f m).length ≤ (numH f m').length := by
  induction f with
  | zero => intro m m' _; simp [numH]
  | succ f ih =>
    intro m m' h
    rw [numH, numH]
    split
    · simp
    · rename_i h0
      rw [if_neg (by omega)]
      have := ih (m / 128) (m' / 128) (Nat.div_le_div_right h)
      simp; omega

/-- as many bytes: byte by byte it is as the numbers -/
def lexL : List Int → List Int → Bool
  | _, [] => false
  | [], _ :: _ => true
  | a :: x, b :: y => decide (a < b) || (decide (a = b) && lexL x y)

theorem lexL_snoc : ∀ (x y : List Int) (a b : Int), x.length = y.length → lexL (x ++ [a]) (y ++ [b]) = (lexL x y || (decide (x = y) && decide (a < b)))
  | [], [], a, b, _ => by simp [lexL]
  | [], _ :: _, _, _, h => by simp at h
  | _ :: _, [], _, _, h => by simp at h
  | c :: x, d :: y, a, b, h => by
    have ih := lexL_snoc x y a b (by simpa using h)
    simp only [List.cons_append, lexL, ih]
    by_cases h1 : c < d
    · simp [h1]
    · by_cases h2 : c = d
      · simp [h2]
      · simp [h1, h2]

theorem numH_lex (f : Nat) : ∀ m m', m < 128 ^ f → m' < 128 ^ f → (numH f m).length = (numH f m').length → (lexL (numH f m) (numH f m') = decide (m < m')) ∧ (numH f m = numH f m' ↔ m = m') := by
  induction f with
  | zero => intro m m' h h' _; simp at h h'; subst h; subst h'; simp [numH, lexL]
  | succ f ih =>
    intro m m' hm hm' hl
    by_cases h0 : m = 0
    · subst h0
      have e0 : numH (f + 1) 0 = [] := by simp [numH]
      rw [e0] at hl
      have : m' = 0 := numH_nil hm' (List.eq_nil_of_length_eq_zero (by simpa using hl.symm))
      subst this
      simp [e0, lexL]
    · by_cases h0' : m' = 0
      · subst h0'
        have e0 : numH (f + 1) 0 = [] := by simp [numH]
        rw [e0] at hl
        exact absurd (numH_nil hm (List.eq_nil_of_length_eq_zero (by simpa using hl))) h0
      · have h1 : m / 128 < 128 ^ f := by rw [Nat.div_lt_iff_lt_mul (by omega), ← Nat.pow_succ]; exact hm
        have h1' : m' / 128 < 128 ^ f := by rw [Nat.div_lt_iff_lt_mul (by omega), ← Nat.pow_succ]; exact hm'
        have e : numH (f + 1) m = numH f (m / 128) ++ [((m % 128 + 128 : Nat) : Int)] := by rw [numH, if_neg h0]
        have e' : numH (f + 1) m' = numH f (m' / 128) ++ [((m' % 128 + 128 : Nat) : Int)] := by rw [numH, if_neg h0']
        rw [e, e'] at hl ⊢
        have hl2 : (numH f (m / 128)).length = (numH f (m' / 128)).length := by simpa using hl
        obtain ⟨i1, i2⟩ := ih (m / 128) (m' / 128) h1 h1' hl2
        constructor
        · rw [lexL_snoc _ _ _ _ hl2, i1]
          by_cases hq : m / 128 = m' / 128
          · have hx := i2.2 hq
            rw [hx]
            have : decide (m / 128 < m' / 128) = false := by simp; omega
            rw [this]
            simp only [Bool.false_or, decide_true, Bool.true_and, decide_eq_decide]
            omega
          · have hx : ¬ numH f (m / 128) = numH f (m' / 128) := fun h => hq (i2.1 h)
            simp only [hx, decide_false, Bool.false_and, Bool.or_false, decide_eq_decide]
            omega
        · constructor
          · intro h
            have h3 := List.append_inj h hl2
            have := i2.1 h3.1
            simp at h3
            omega
          · intro h; rw [h]

theorem numF_lex (a b : Nat) (ha : a < 18446744073709551616) (hb : b < 18446744073709551616) (hl : (numF a).length = (numF b).length) : lexL (numF a) (numF b) = decide (a < b) := by
  have p10 : (128 : Nat) ^ 10 = 1180591620717411303424 := by decide
  have hl2 : (numH 10 (a / 128)).length = (numH 10 (b / 128)).length := by simpa [numF] using hl
  obtain ⟨i1, i2⟩ := numH_lex 10 (a / 128) (b / 128) (by omega) (by omega) hl2
  rw [numF, numF, lexL_snoc _ _ _ _ hl2, i1]
  by_cases hq : a / 128 = b / 128
  · rw [i2.2 hq]
    have : decide (a / 128 < b / 128) = false := by simp; omega
    rw [this]
    simp only [Bool.false_or, decide_true, Bool.true_and, decide_eq_decide]
    omega
  · have hx : ¬ numH 10 (a / 128) = numH 10 (b / 128) := fun h => hq (i2.1 h)
    simp only [hx, decide_false, Bool.false_and, Bool.or_false, decide_eq_decide]
    omega

theorem numF_mono {a b : Nat} (h : a ≤ b) : (numF a).length ≤ (numF b).length := by
  have := numH_mono 10 (a / 128) (b / 128) (Nat.div_le_div_right h)
  simpa [numF] using this

theorem less_str : ∀ (x y : List Int), (∀ c ∈ x, 0 ≤ c ∧ c < 256) → (∀ c ∈ y, 0 ≤ c ∧ c < 256) → Op.bytesLess (x.map fun n => UInt8.ofNat n.toNat) (y.map fun n => UInt8.ofNat n.toNat) = lexL x y
  | [], [], _, _ => by simp [Op.bytesLess, lexL]
  | _ :: _, [], _, _ => by simp [Op.bytesLess, lexL]
  | [], _ :: _, _, _ => by simp [Op.bytesLess, lexL]
  | a :: x, b :: y, hx, hy => by
    have ih := less_str x y (fun c hc => hx c (List.mem_cons_of_mem _ hc)) (fun c hc => hy c (List.mem_cons_of_mem _ hc))
    have ha := hx a (by simp)
    have hb := hy b (by simp)
    simp only [List.map_cons, Op.bytesLess, lexL, ih]
    have e1 : a.toNat % 256 = a.toNat := Nat.mod_eq_of_lt (by omega)
    have e2 : b.toNat % 256 = b.toNat := Nat.mod_eq_of_lt (by omega)
    have h1 : decide (UInt8.ofNat a.toNat < UInt8.ofNat b.toNat) = decide (a < b) := by
      rw [decide_eq_decide, UInt8.lt_iff_toNat_lt]
      simp [e1, e2]
      omega
    have h2 : (UInt8.ofNat a.toNat == UInt8.ofNat b.toNat) = decide (a = b) := by
      rw [Bool.eq_iff_iff]
      simp only [beq_iff_eq, decide_eq_true_eq]
      constructor
      · intro h
        have := congrArg UInt8.toNat h
        simp [e1, e2] at this
        omega
      · intro h; rw [h]
    rw [h1, h2]

theorem less_strOf {x y : List Int} (hx : ∀ c ∈ x, 0 ≤ c ∧ c < 256) (hy : ∀ c ∈ y, 0 ≤ c ∧ c < 256) : Op.bytesLess (strOfNums x).toList (strOfNums y).toList = lexL x y := by
  rw [ByteArray.toList_eq, ByteArray.toList_eq, strOfNums_data, strOfNums_data]
  exact less_str x y hx hy

end Go.Proofs.Ytmkoefnnpficfaa
