/-
  Plain facts: what was put as a number is read again, whatever stands behind it; what is read is its own form.
-/
import Derived.Test.YtmkoefnnpficfaaWK
namespace Go.Proofs.Ytmkoefnnpficfaa
open Go.RowKit

theorem numH_short (f : Nat) : ∀ m j, m < 128 ^ j → (numH f m).length ≤ j := by
  induction f with
  | zero => intro m j _; simp [numH]
  | succ f ih =>
    intro m j hm
    rw [numH]
    split
    · simp
    · rename_i h0
      cases j with
      | zero => simp at hm; omega
      | succ j =>
        have h1 : m / 128 < 128 ^ j := by rw [Nat.div_lt_iff_lt_mul (by omega), ← Nat.pow_succ]; exact hm
        have := ih (m / 128) j h1
        simp; omega

theorem numH_head (f : Nat) : ∀ m, m < 128 ^ f → m ≠ 0 → ∀ tail, ∃ c r, numH f m ++ tail = c :: r ∧ 128 < c := by
  induction f with
  | zero => intro m hm h0; simp at hm; omega
  | succ f ih =>
    intro m hm h0 tail
    rw [numH, if_neg h0]
    by_cases hq : m / 128 = 0
    · rw [hq]
      have e : numH f 0 = [] := by cases f <;> simp [numH]
      rw [e]
      refine ⟨((m % 128 + 128 : Nat) : Int), tail, by simp, ?_⟩
      omega
    · have h1 : m / 128 < 128 ^ f := by rw [Nat.div_lt_iff_lt_mul (by omega), ← Nat.pow_succ]; exact hm
      obtain ⟨c, r, e, hc⟩ := ih (m / 128) h1 hq ([((m % 128 + 128 : Nat) : Int)] ++ tail)
      exact ⟨c, r, by rw [List.append_assoc]; exact e, hc⟩

theorem rdN_numH (f : Nat) : ∀ m k tail, m < 128 ^ f → m ≤ 144115188075855871 → (numH f m).length ≤ k → rdN (numH f m ++ tail) k 0 = rdN tail (k - (numH f m).length) m := by
  induction f with
  | zero =>
    intro m k tail hm _ _
    have : m = 0 := by simp at hm; omega
    subst this
    simp [numH]
  | succ f ih =>
    intro m k tail hm hb hk
    by_cases h0 : m = 0
    · subst h0; simp [numH]
    · have hl : (numH (f + 1) m).length = (numH f (m / 128)).length + 1 := by rw [numH, if_neg h0]; simp
      have h1 : m / 128 < 128 ^ f := by rw [Nat.div_lt_iff_lt_mul (by omega), ← Nat.pow_succ]; exact hm
      rw [hl] at hk
      have e := ih (m / 128) k ([((m % 128 + 128 : Nat) : Int)] ++ tail) h1 (by omega) (by omega)
      rw [numH, if_neg h0, List.append_assoc, e]
      obtain ⟨j, hj⟩ : ∃ j, k - (numH f (m / 128)).length = j + 1 := ⟨k - (numH f (m / 128)).length - 1, by omega⟩
      rw [hj]
      show rdN (((m % 128 + 128 : Nat) : Int) :: tail) (j + 1) (m / 128) = _
      rw [rdN, if_neg (by omega), if_neg (by omega)]
      have e2 : m / 128 * 128 + (((m % 128 + 128 : Nat) : Int) % 128).toNat = m := by omega
      have e3 : k - (numH f (m / 128) ++ [((m % 128 + 128 : Nat) : Int)]).length = j := by simp; omega
      rw [e2, e3]

/-- what was put is read again, whatever stands behind it -/
theorem rdNum_numF (n : Nat) (hn : n < 18446744073709551616) (rest : List Int) : rdNum (numF n ++ rest) = some (n, rest) := by
  have hm : n / 128 ≤ 144115188075855871 := by omega
  have hm9 : n / 128 < 128 ^ 9 := by have : (128 : Nat) ^ 9 = 9223372036854775808 := by decide
                                     omega
  have hm10 : n / 128 < 128 ^ 10 := by have : (128 : Nat) ^ 10 = 1180591620717411303424 := by decide
                                       omega
  have hl := numH_short 10 (n / 128) 9 hm9
  have hd : ¬ ((numF n ++ rest).head? = some 128) := by
    by_cases h0 : n / 128 = 0
    · rw [numF, h0]
      have e : numH 10 0 = [] := by simp [numH]
      rw [e]
      simp; omega
    · obtain ⟨c, r, e, hc⟩ := numH_head 10 (n / 128) hm10 h0 ([((n % 128 : Nat) : Int)] ++ rest)
      rw [numF, List.append_assoc, e]
      simp; omega
  rw [rdNum, if_neg hd, numF, List.append_assoc, rdN_numH 10 (n / 128) 10 _ hm10 hm (by omega)]
  obtain ⟨j, hj⟩ : ∃ j, 10 - (numH 10 (n / 128)).length = j + 1 := ⟨9 - (numH 10 (n / 128)).length, by omega⟩
  rw [hj]
  show rdN (((n % 128 : Nat) : Int) :: rest) (j + 1) (n / 128) = _
  rw [rdN, if_neg (by omega), if_pos (by omega)]
  have e : n / 128 * 128 + (((n % 128 : Nat) : Int) % 128).toNat = n := by omega
  rw [e]

theorem numF_short (n : Nat) (hn : n < 18446744073709551616) : 1 ≤ (numF n).length ∧ (numF n).length ≤ 10 := by
  have hm9 : n / 128 < 128 ^ 9 := by have : (128 : Nat) ^ 9 = 9223372036854775808 := by decide
                                     omega
  have := numH_short 10 (n / 128) 9 hm9
  simp [numF]; omega

/-- no number's form is the beginning of another one's -/
theorem numF_apart {a b : Nat} (ha : a < 18446744073709551616) (hb : b < 18446744073709551616) {k : Nat} (h : (numF b).take k = numF a) : a = b := by
  have h1 := rdNum_numF a ha ((numF b).drop k)
  rw [← h, List.take_append_drop] at h1
  have h2 := rdNum_numF b hb []
  rw [List.append_nil, h1] at h2
  simp only [Option.some.injEq, Prod.mk.injEq] at h2
  exact h2.1

theorem str_inj {xs ys : List Int} (hx : ∀ x ∈ xs, 0 ≤ x ∧ x < 256) (hy : ∀ x ∈ ys, 0 ≤ x ∧ x < 256) (h : strOfNums xs = strOfNums ys) : xs = ys := by
  have h1 : (strOfNums xs).data.toList = (strOfNums ys).data.toList := by rw [h]
  rw [strOfNums_data, strOfNums_data] at h1
  have key : ∀ l : List Int, (∀ x ∈ l, 0 ≤ x ∧ x < 256) → (l.map fun n => UInt8.ofNat n.toNat).map (fun u => (u.toNat : Int)) = l := by
    intro l hl
    rw [List.map_map]
    conv => rhs; rw [← List.map_id l]
    apply List.map_congr_left
    intro x hx
    have := hl x hx
    simp only [Function.comp, id]
    have e : x.toNat % 256 = x.toNat := Nat.mod_eq_of_lt (by omega)
    simp [e]
    omega
  rw [← key xs hx, h1, key ys hy]

theorem str_ne {xs ys : List Int} (hx : ∀ x ∈ xs, 0 ≤ x ∧ x < 256) (hy : ∀ x ∈ ys, 0 ≤ x ∧ x < 256) (h : xs ≠ ys) : ((strOfNums xs).toList == (strOfNums ys).toList) = false := by
  rw [beq_eq_false_iff_ne, ByteArray.toList_eq, ByteArray.toList_eq]
  intro e
  apply h
  apply str_inj hx hy
  exact WideShapes.bytes_inj e

theorem str_same {xs ys : List Int} (h : xs = ys) : ((strOfNums xs).toList == (strOfNums ys).toList) = true := by
  rw [h]; simp

end Go.Proofs.Ytmkoefnnpficfaa
