/-
  Layer 1 for the layers above it, plain: the form of a number in groups of seven bits.
-/
import Derived.Test.YtecpnnnkkofejaaBB
namespace Go.Proofs.Ytecpnnnkkofejaa
open Go.RowKit
variable {A : Nat → Prop}

/-- the groups ahead of the last: each has 128 more -/
def numH : Nat → Nat → List Int
  | 0, _ => []
  | f + 1, n => if n = 0 then [] else numH f (n / 128) ++ [((n % 128 + 128 : Nat) : Int)]

/-- a number's form -/
def numF (n : Nat) : List Int := numH 10 (n / 128) ++ [((n % 128 : Nat) : Int)]

/-- what Num has put down, backwards, behind so many rounds -/
def numB : Nat → Nat → List Int
  | 0, n => [((n % 128 : Nat) : Int)]
  | k + 1, n => numB k n ++ [((n / 128 ^ (k + 1) % 128 + 128 : Nat) : Int)]

theorem numB_length (k n : Nat) : (numB k n).length = k + 1 := by induction k with
  | zero => rfl
  | succ k ih => simp [numB, ih]

theorem numH_of (k : Nat) : ∀ f m, k ≤ f → m < 128 ^ k → (k = 0 ∨ 128 ^ (k - 1) ≤ m) → numH f m = (List.range k).map fun i => ((m / 128 ^ (k - 1 - i) % 128 + 128 : Nat) : Int) := by
  induction k with
  | zero =>
    intro f m _ hm _
    have : m = 0 := by simpa using hm
    subst this
    cases f <;> simp [numH]
  | succ k ih =>
    intro f m hf hm hlo
    have hlo' : 128 ^ k ≤ m := by simpa using hlo
    have hpos : 0 < 128 ^ k := Nat.pow_pos (by omega)
    obtain ⟨f, rfl⟩ : ∃ g, f = g + 1 := ⟨f - 1, by omega⟩
    have hm0 : m ≠ 0 := by omega
    have h1 : m / 128 < 128 ^ k := by rw [Nat.div_lt_iff_lt_mul (by omega)]; rw [Nat.pow_succ] at hm; exact hm
    have h2 : k = 0 ∨ 128 ^ (k - 1) ≤ m / 128 := by
      cases k with
      | zero => exact Or.inl rfl
      | succ k => right; rw [Nat.le_div_iff_mul_le (by omega)]; simpa [Nat.pow_succ] using hlo'
    rw [numH, if_neg hm0, ih f (m / 128) (by omega) h1 h2, List.range_succ, List.map_append]
    congr 1
    · apply List.map_congr_left
      intro i hi
      have hi' : i < k := by simpa using hi
      have e : k + 1 - 1 - i = (k - 1 - i) + 1 := by omega
      rw [e, Nat.pow_succ, Nat.mul_comm, ← Nat.div_div_eq_div_mul]
    · simp

theorem numB_eq (k n : Nat) : numB k n = ((n % 128 : Nat) : Int) :: (List.range k).map fun i => ((n / 128 ^ (i + 1) % 128 + 128 : Nat) : Int) := by
  induction k with
  | zero => rfl
  | succ k ih => rw [numB, ih, List.range_succ]; simp

theorem range_rev_map {α : Type} (g : Nat → α) : ∀ k, ((List.range k).map g).reverse = (List.range k).map fun i => g (k - 1 - i) := by
  intro k
  apply List.ext_getElem
  · simp
  · intro i h1 h2
    simp [List.getElem_reverse]

/-- backwards it is the form, once nothing is left -/
theorem numB_reverse (k n : Nat) (hk : k ≤ 10) (h : n / 128 ^ (k + 1) = 0) (hlo : k = 0 ∨ 0 < n / 128 ^ k) : (numB k n).reverse = numF n := by
  have hp : 0 < 128 ^ k := Nat.pow_pos (by omega)
  have hm : n / 128 < 128 ^ k := by
    rw [Nat.div_lt_iff_lt_mul (by omega), ← Nat.pow_succ]
    exact Nat.lt_of_div_eq_zero (Nat.pow_pos (by omega)) h
  have hlo' : k = 0 ∨ 128 ^ (k - 1) ≤ n / 128 := by
    rcases hlo with h0 | h0
    · exact Or.inl h0
    · cases k with
      | zero => exact Or.inl rfl
      | succ k =>
        right
        rw [Nat.le_div_iff_mul_le (by omega)]
        have := Nat.div_pos_iff.1 h0
        simpa [Nat.pow_succ] using this.2
  rw [numB_eq, List.reverse_cons, range_rev_map, numF, numH_of k 10 (n / 128) hk hm hlo']
  congr 1
  apply List.map_congr_left
  intro i hi
  have hi' : i < k := by simpa using hi
  rw [Nat.pow_succ, Nat.mul_comm, ← Nat.div_div_eq_div_mul]

theorem numB_bytes (k n : Nat) : ∀ x ∈ numB k n, 0 ≤ x ∧ x < 256 := by
  rw [numB_eq]
  intro x hx
  rcases List.mem_cons.1 hx with h | h
  · subst h; omega
  · obtain ⟨i, _, rfl⟩ := List.mem_map.1 h
    have := Nat.mod_lt (n / 128 ^ (i + 1)) (show 128 > 0 by omega)
    omega

theorem numH_bytes (f : Nat) : ∀ m, ∀ x ∈ numH f m, 128 ≤ x ∧ x < 256 := by
  induction f with
  | zero => intro m x hx; simp [numH] at hx
  | succ f ih =>
    intro m x hx
    rw [numH] at hx
    split at hx
    · simp at hx
    · rcases List.mem_append.1 hx with h | h
      · exact ih _ x h
      · simp at h; subst h; omega

theorem numF_bytes (n : Nat) : ∀ x ∈ numF n, 0 ≤ x ∧ x < 256 := by
  intro x hx
  rcases List.mem_append.1 hx with h | h
  · have := numH_bytes 10 _ x h; omega
  · simp at h; subst h; omega

theorem numH_length (f : Nat) : ∀ m, (numH f m).length ≤ f := by
  induction f with
  | zero => intro m; simp [numH]
  | succ f ih => intro m; rw [numH]; split <;> simp; exact ih _

theorem numF_length (n : Nat) : 1 ≤ (numF n).length ∧ (numF n).length ≤ 11 := by
  have := numH_length 10 (n / 128)
  simp [numF]; omega

theorem getD_set (l : List Int) (i k : Nat) (x : Int) : (l.set i x).getD k 0 = if i = k ∧ k < l.length then x else l.getD k 0 := by
  simp only [List.getD, List.getElem?_set]
  by_cases h : i = k
  · subst h
    by_cases h2 : i < l.length
    · simp [h2]
    · simp [h2]
  · simp [h]

/-- reversing from the two ends inward -/
def RevTo (xs ys : List Int) (i : Nat) : Prop :=
  ys.length = xs.length ∧ 2 * i ≤ xs.length + 1 ∧ ∀ k, k < xs.length → ys.getD k 0 = if k < i ∨ xs.length - i ≤ k then xs.getD (xs.length - 1 - k) 0 else xs.getD k 0

theorem RevTo.start (xs : List Int) : RevTo xs xs 0 := ⟨rfl, by omega, fun k hk => by rw [if_neg (by omega)]⟩

theorem RevTo.step {xs ys : List Int} {i : Nat} (h : RevTo xs ys i) (hi : i < xs.length - 1 - i) :
    RevTo xs ((ys.set i (ys.getD (xs.length - 1 - i) 0)).set (xs.length - 1 - i) (ys.getD i 0)) (i + 1) := by
  obtain ⟨hl, h2, hk⟩ := h
  refine ⟨by simpa using hl, by omega, ?_⟩
  intro k hkl
  have ei := hk i (by omega)
  have ej := hk (xs.length - 1 - i) (by omega)
  rw [if_neg (by omega)] at ei ej
  by_cases h1 : k = xs.length - 1 - i
  · subst h1
    rw [if_pos (by omega), show xs.length - 1 - (xs.length - 1 - i) = i by omega, ← ei]
    rw [getD_set, if_pos ⟨rfl, by simp; omega⟩]
  · by_cases h0 : k = i
    · subst h0
      rw [if_pos (by omega), ← ej]
      rw [getD_set, if_neg (by omega), getD_set, if_pos ⟨rfl, by omega⟩]
    · have e : ((ys.set i (ys.getD (xs.length - 1 - i) 0)).set (xs.length - 1 - i) (ys.getD i 0)).getD k 0 = ys.getD k 0 := by
        rw [getD_set, if_neg (by omega), getD_set, if_neg (by omega)]
      rw [e, hk k hkl]
      by_cases hc : k < i ∨ xs.length - i ≤ k
      · rw [if_pos hc, if_pos (by omega)]
      · rw [if_neg hc, if_neg (by omega)]

theorem RevTo.done {xs ys : List Int} {i : Nat} (h : RevTo xs ys i) (hi : ¬ i < xs.length - 1 - i) : ys = xs.reverse := by
  obtain ⟨hl, h2, hk⟩ := h
  apply List.ext_getElem
  · simpa using hl
  · intro k h1 h2'
    have hkl : k < xs.length := by omega
    have e := hk k hkl
    have ey : ys.getD k 0 = ys[k] := by simp [List.getD, h1]
    rw [ey] at e
    rw [e, List.getElem_reverse]
    have er : xs.getD (xs.length - 1 - k) 0 = xs[xs.length - 1 - k] := by simp [List.getD, show xs.length - 1 - k < xs.length by omega]
    by_cases hc : k < i ∨ xs.length - i ≤ k
    · rw [if_pos hc, er]
    · rw [if_neg hc, ← er]
      have : k = xs.length - 1 - k := by omega
      rw [← this]

end Go.Proofs.Ytecpnnnkkofejaa
