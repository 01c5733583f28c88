/-
  Plain facts on marks: a key's block, turned by a byte; a mark is two digests. Texts held against each other byte by byte.
-/
import Derived.Test.YtfopjobcjafgaabDoorHG
import Derived.Laws.BitsAllLaws
namespace Go.Proofs.YtfopjobcjafgaabDoor
open Go.RowKit

/-- what two texts differ in, as far as that -/
def unlF (xs ys : List Nat) : Nat → Nat
  | 0 => 0
  | i + 1 => unlF xs ys i ||| (xs.getD i 0 ^^^ ys.getD i 0)

theorem xor_zero_iff (a b : Nat) : a ^^^ b = 0 ↔ a = b := by
  constructor
  · intro h
    have h2 : (a ^^^ b) ^^^ b = 0 ^^^ b := by rw [h]
    rw [Nat.xor_assoc, Nat.xor_self, Nat.xor_zero, Nat.zero_xor] at h2
    exact h2
  · intro h; rw [h, Nat.xor_self]

theorem or_zero_iff (a b : Nat) : a ||| b = 0 ↔ a = 0 ∧ b = 0 := by
  constructor
  · intro h
    have h1 : a ≤ a ||| b := Nat.left_le_or
    have h2 : b ≤ a ||| b := Nat.right_le_or
    omega
  · rintro ⟨rfl, rfl⟩; rfl

theorem unlF_zero (xs ys : List Nat) : ∀ i, unlF xs ys i = 0 ↔ ∀ j, j < i → xs.getD j 0 = ys.getD j 0 := by
  intro i
  induction i with
  | zero => exact ⟨fun _ j hj => absurd hj (Nat.not_lt_zero _), fun _ => rfl⟩
  | succ i ih =>
    rw [unlF, or_zero_iff, xor_zero_iff, ih]
    constructor
    · rintro ⟨h1, h2⟩ j hj
      by_cases e : j = i
      · rw [e]; exact h2
      · exact h1 j (by omega)
    · intro h
      exact ⟨fun j hj => h j (by omega), h i (by omega)⟩

theorem xor_lt8 {a b : Nat} (ha : a < 256) (hb : b < 256) : a ^^^ b < 256 := Nat.xor_lt_two_pow (n := 8) ha hb
theorem or_lt8 {a b : Nat} (ha : a < 256) (hb : b < 256) : a ||| b < 256 := Nat.or_lt_two_pow (n := 8) ha hb

theorem BytesN.getD {l : List Nat} (h : BytesN l) (i : Nat) : l.getD i 0 < 256 := by
  by_cases hi : i < l.length
  · have := h l[i] (List.getElem_mem hi)
    simpa [List.getD, hi] using this
  · simp [List.getD, List.getElem?_eq_none (show l.length ≤ i by omega)]

theorem unlF_lt {xs ys : List Nat} (hx : BytesN xs) (hy : BytesN ys) : ∀ i, unlF xs ys i < 256 := by
  intro i
  induction i with
  | zero => simp [unlF]
  | succ i ih => exact or_lt8 ih (xor_lt8 (hx.getD i) (hy.getD i))

theorem unlF_same (xs ys : List Nat) (h : xs.length = ys.length) : decide (unlF xs ys xs.length = 0) = decide (xs = ys) := by
  apply decide_eq_decide.2
  rw [unlF_zero]
  constructor
  · intro hj
    apply List.ext_getElem h
    intro i h1 h2
    have := hj i h1
    simpa [List.getD, h1, h2] using this
  · intro e j _; rw [e]

/-- a key's block -/
def kblockF (key : List Nat) : List Nat := let k := if 64 < key.length then sumF key else key
  k ++ List.replicate (64 - k.length) 0

theorem kblockF_long {key : List Nat} (h : 64 < key.length) : kblockF key = sumF key ++ List.replicate 32 0 := by
  simp [kblockF, h, sumF_length]
theorem kblockF_short {key : List Nat} (h : ¬ 64 < key.length) : kblockF key = key ++ List.replicate (64 - key.length) 0 := by
  simp [kblockF, h]
theorem kblockF_length (key : List Nat) : (kblockF key).length = 64 := by
  by_cases h : 64 < key.length
  · rw [kblockF_long h]; simp [sumF_length]
  · rw [kblockF_short h]; simp; omega
theorem zeros_bytes (n : Nat) : BytesN (List.replicate n 0) := fun x hx => by rw [List.eq_of_mem_replicate hx]; omega
theorem kblockF_bytes {key : List Nat} (hk : BytesN key) : BytesN (kblockF key) := by
  by_cases h : 64 < key.length
  · rw [kblockF_long h]; exact bytes_append (sumF_bytes _) (zeros_bytes _)
  · rw [kblockF_short h]; exact bytes_append hk (zeros_bytes _)

/-- each byte turned -/
def xorF (b : List Nat) (x : Nat) : List Nat := b.map (· ^^^ x)
theorem xorF_length (b : List Nat) (x : Nat) : (xorF b x).length = b.length := by simp [xorF]
theorem xorF_bytes {b : List Nat} {x : Nat} (h : BytesN b) (hx : x < 256) : BytesN (xorF b x) := fun y hy => by
  obtain ⟨z, hz, rfl⟩ := List.mem_map.1 hy
  exact xor_lt8 (h z hz) hx
theorem xorF_at (b : List Nat) (x i : Nat) (h : i < b.length) : (xorF b x).getD i 0 = b.getD i 0 ^^^ x := by
  simp [xorF, List.getD, h]

/-- a mark -/
def macF (key text : List Nat) : List Nat := sumF (xorF (kblockF key) 92 ++ sumF (xorF (kblockF key) 54 ++ text))
theorem macF_length (key text : List Nat) : (macF key text).length = 32 := sumF_length _
theorem macF_bytes (key text : List Nat) : BytesN (macF key text) := sumF_bytes _

/-- so many bytes turned, the rest as it was -/
def xorTo (b : List Nat) (x i : Nat) : List Nat := (xorF b x).take i ++ b.drop i
theorem xorTo_zero (b : List Nat) (x : Nat) : xorTo b x 0 = b := by simp [xorTo]
theorem xorTo_full (b : List Nat) (x : Nat) : xorTo b x b.length = xorF b x := by
  rw [xorTo, List.take_of_length_le (by simp [xorF]), List.drop_length, List.append_nil]
theorem xorTo_length (b : List Nat) (x i : Nat) (h : i ≤ b.length) : (xorTo b x i).length = b.length := by simp [xorTo, xorF]; omega
theorem xorTo_at (b : List Nat) (x i : Nat) (h : i < b.length) : (xorTo b x i).getD i 0 = b.getD i 0 := by
  simp [xorTo, xorF, List.getD, List.getElem?_append, h, Nat.min_eq_left (Nat.le_of_lt h)]
theorem xorTo_set (b : List Nat) (x i : Nat) (h : i < b.length) : (xorTo b x i).set i (b.getD i 0 ^^^ x) = xorTo b x (i + 1) := by
  apply List.ext_getElem
  · simp [xorTo, xorF]; omega
  · intro k h1 h2
    have hk : k < b.length := by simp [xorTo, xorF] at h2; omega
    simp only [xorTo, xorF, List.getElem_set, List.getElem_append, List.length_take, List.length_map]
    by_cases e : i = k
    · subst e
      simp [List.getD, h, show i < min (i + 1) b.length by omega]
    · by_cases hki : k < i
      · simp [e, show k < min i b.length by omega, show k < min (i + 1) b.length by omega]
      · simp [e, show ¬ k < min i b.length by omega, show ¬ k < min (i + 1) b.length by omega]
        congr 1
        omega

end Go.Proofs.YtfopjobcjafgaabDoor
