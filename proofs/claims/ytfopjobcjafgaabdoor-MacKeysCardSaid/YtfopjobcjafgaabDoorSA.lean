/-
  Plain facts on numbers, with nothing of the program in them: primes, roots found bit by bit, numbers as digits of 16 bits, their product and their order.
-/
import Derived.WalkKit
namespace Go.Proofs.YtfopjobcjafgaabDoor
open Go.RowKit

/- primes -/
def okTo (n : Nat) : Nat → Bool
  | 0 => true
  | d + 1 => okTo n d && (decide (d < 2) || n % d != 0)

def isPr (n : Nat) : Bool := okTo n n

def cntPr : Nat → Nat
  | 0 => 0
  | n + 1 => cntPr n + if 2 ≤ n ∧ isPr n = true then 1 else 0

def primeT : List Nat := [2, 3, 5, 7, 11, 13, 17, 19, 23, 29, 31, 37, 41, 43, 47, 53, 59, 61, 67, 71, 73, 79, 83, 89, 97, 101, 103, 107, 109, 113, 127, 131, 137, 139, 149, 151, 157, 163, 167, 173, 179, 181, 191, 193, 197, 199, 211, 223, 227, 229, 233, 239, 241, 251, 257, 263, 269, 271, 277, 281, 283, 293, 307, 311]

theorem prime_at : ∀ n, n < 312 → 2 ≤ n → isPr n = true → primeT.getD (cntPr n) 0 = n := by decide +kernel
theorem prime_is : ∀ k, k < 64 → isPr (primeT.getD k 0) = true ∧ cntPr (primeT.getD k 0) = k ∧ primeT.getD k 0 < 312 ∧ 2 ≤ primeT.getD k 0 := by decide +kernel

/- roots -/
def rootF (e n : Nat) : Nat → Nat → Nat
  | 0, r => r
  | b + 1, r => rootF e n b (if (r + 2 ^ b) ^ e ≤ n * 2 ^ (32 * e) then r + 2 ^ b else r)

def startT : List Nat := [0x6a09e667, 0xbb67ae85, 0x3c6ef372, 0xa54ff53a, 0x510e527f, 0x9b05688c, 0x1f83d9ab, 0x5be0cd19]
def turnT : List Nat := [
  0x428a2f98, 0x71374491, 0xb5c0fbcf, 0xe9b5dba5,
  0x3956c25b, 0x59f111f1, 0x923f82a4, 0xab1c5ed5,
  0xd807aa98, 0x12835b01, 0x243185be, 0x550c7dc3,
  0x72be5d74, 0x80deb1fe, 0x9bdc06a7, 0xc19bf174,
  0xe49b69c1, 0xefbe4786, 0x0fc19dc6, 0x240ca1cc,
  0x2de92c6f, 0x4a7484aa, 0x5cb0a9dc, 0x76f988da,
  0x983e5152, 0xa831c66d, 0xb00327c8, 0xbf597fc7,
  0xc6e00bf3, 0xd5a79147, 0x06ca6351, 0x14292967,
  0x27b70a85, 0x2e1b2138, 0x4d2c6dfc, 0x53380d13,
  0x650a7354, 0x766a0abb, 0x81c2c92e, 0x92722c85,
  0xa2bfe8a1, 0xa81a664b, 0xc24b8b70, 0xc76c51a3,
  0xd192e819, 0xd6990624, 0xf40e3585, 0x106aa070,
  0x19a4c116, 0x1e376c08, 0x2748774c, 0x34b0bcb5,
  0x391c0cb3, 0x4ed8aa4a, 0x5b9cca4f, 0x682e6ff3,
  0x748f82ee, 0x78a5636f, 0x84c87814, 0x8cc70208,
  0x90befffa, 0xa4506ceb, 0xbef9a3f7, 0xc67178f2]

theorem start_is : ∀ k, k < 8 → rootF 2 (primeT.getD k 0) 40 0 % 4294967296 = startT.getD k 0 := by decide +kernel
theorem turn_is : ∀ k, k < 64 → rootF 3 (primeT.getD k 0) 40 0 % 4294967296 = turnT.getD k 0 := by decide +kernel

/- numbers as digits of 16 bits -/
def val : List Nat → Nat
  | [] => 0
  | d :: l => d + 65536 * val l

theorem val_append (l k : List Nat) : val (l ++ k) = val l + 65536 ^ l.length * val k := by
  induction l with
  | nil => simp [val]
  | cons d l ih => simp only [List.cons_append, val, ih, List.length_cons, Nat.pow_succ, Nat.mul_add]; rw [Nat.mul_comm (65536 ^ l.length) 65536, Nat.mul_assoc]; omega

theorem val_set : ∀ (l : List Nat) (j x : Nat), j < l.length → val (l.set j x) + l.getD j 0 * 65536 ^ j = val l + x * 65536 ^ j := by
  intro l
  induction l with
  | nil => intro j x h; simp at h
  | cons d l ih =>
    intro j x h
    cases j with
    | zero => simp [val]; omega
    | succ j =>
      have := ih j x (by simpa using h)
      simp only [List.set_cons_succ, val, List.getD_cons_succ, Nat.pow_succ]
      rw [← Nat.mul_assoc, ← Nat.mul_assoc]
      generalize l.getD j 0 * 65536 ^ j = p at *
      generalize x * 65536 ^ j = q at *
      omega

theorem val_take_succ (l : List Nat) (k : Nat) (h : k < l.length) : val (l.take (k + 1)) = val (l.take k) + l.getD k 0 * 65536 ^ k := by
  rw [List.take_succ_eq_append_getElem h, val_append]
  simp [val, List.getD, h, Nat.min_eq_left (Nat.le_of_lt h), Nat.mul_comm]

theorem val_replicate (n : Nat) : val (List.replicate n 0) = 0 := by
  induction n with
  | zero => rfl
  | succ n ih => simp [List.replicate_succ, val, ih]

theorem val_lt : ∀ (l : List Nat), (∀ d ∈ l, d < 65536) → val l < 65536 ^ l.length := by
  intro l
  induction l with
  | nil => intro _; simp [val]
  | cons d l ih =>
    intro h
    have h1 := ih fun x hx => h x (List.mem_cons_of_mem _ hx)
    have h2 := h d (List.mem_cons_self ..)
    simp only [val, List.length_cons, Nat.pow_succ]
    omega

/-- one row of the product: what lies there behind so many digits, with what is carried -/
def Row (a b o0 : List Nat) (i k : Nat) (o : List Nat) (c : Nat) : Prop :=
  o.length = a.length + b.length + 1 ∧ (∀ d ∈ o, d < 65536) ∧ c < 65536 ∧ k ≤ b.length + 1 ∧ (k = b.length + 1 → c = 0) ∧
  val o + c * 65536 ^ (i + k) = val (a.take i) * val b + a.getD i 0 * val (b.take k) * 65536 ^ i ∧
  ∀ j, i + k ≤ j → o.getD j 0 = o0.getD j 0

/-- the product of so many digits -/
def Rows (a b : List Nat) (i : Nat) (o : List Nat) : Prop :=
  o.length = a.length + b.length + 1 ∧ (∀ d ∈ o, d < 65536) ∧ i ≤ a.length ∧ val o = val (a.take i) * val b ∧ ∀ j, i + b.length ≤ j → o.getD j 0 = 0

theorem Rows.start (a b : List Nat) : Rows a b 0 (List.replicate (a.length + b.length + 1) 0) := by
  refine ⟨by simp, ?_, by omega, by simp [val_replicate, val], ?_⟩
  · intro d hd; rw [List.eq_of_mem_replicate hd]; omega
  · intro j _; simp only [List.getD, List.getElem?_replicate]; split <;> rfl

theorem Rows.row {a b o : List Nat} {i : Nat} (h : Rows a b i o) : Row a b o i 0 o 0 :=
  ⟨h.1, h.2.1, by omega, by omega, fun e => rfl, by simp [val, h.2.2.2.1], fun j _ => rfl⟩

theorem dig_getD {l : List Nat} (h : ∀ d ∈ l, d < 65536) (j : Nat) : l.getD j 0 < 65536 := by
  by_cases hj : j < l.length
  · simp only [List.getD, List.getElem?_eq_getElem hj, Option.getD_some]; exact h _ (List.getElem_mem hj)
  · simp [List.getD, List.getElem?_eq_none (by omega : l.length ≤ j)]

theorem mul_dig {x y : Nat} (hx : x < 65536) (hy : y < 65536) : x * y ≤ 4294836225 :=
  Nat.mul_le_mul (show x ≤ 65535 by omega) (show y ≤ 65535 by omega)

theorem getD_setN (l : List Nat) (i k x : Nat) : (l.set i x).getD k 0 = if i = k ∧ k < l.length then x else l.getD k 0 := by
  simp only [List.getD, List.getElem?_set]
  by_cases h : i = k
  · subst h
    by_cases h2 : i < l.length
    · simp [h2]
    · simp [h2]
  · simp [h]

theorem dig_set {l : List Nat} (h : ∀ d ∈ l, d < 65536) (j x : Nat) (hx : x < 65536) : ∀ d ∈ l.set j x, d < 65536 := by
  intro d hd
  rcases List.mem_or_eq_of_mem_set hd with h1 | h1
  · exact h d h1
  · omega

/-- a digit within b -/
theorem Row.step {a b o0 o : List Nat} {i k c : Nat} (h : Row a b o0 i k o c) (ha : ∀ d ∈ a, d < 65536) (hb : ∀ d ∈ b, d < 65536) (hi : i < a.length) (hk : k < b.length) :
    Row a b o0 i (k + 1) (o.set (i + k) ((o.getD (i + k) 0 + c + a.getD i 0 * b.getD k 0) % 65536)) ((o.getD (i + k) 0 + c + a.getD i 0 * b.getD k 0) / 65536) := by
  obtain ⟨hl, hd, hc, hkb, hke, hv, hj⟩ := h
  have h1 := dig_getD hd (i + k)
  have h2 := mul_dig (dig_getD ha i) (dig_getD hb k)
  have hs := val_set o (i + k) ((o.getD (i + k) 0 + c + a.getD i 0 * b.getD k 0) % 65536) (by omega)
  refine ⟨by simpa using hl, dig_set hd _ _ (Nat.mod_lt _ (by omega)), by omega, by omega, fun e => by omega, ?_, ?_⟩
  · rw [val_take_succ b k hk, Nat.mul_add, Nat.add_mul, ← Nat.add_assoc (val (List.take i a) * val b), ← hv, show i + (k + 1) = (i + k) + 1 by omega, Nat.pow_succ]
    have e1 : a.getD i 0 * (b.getD k 0 * 65536 ^ k) * 65536 ^ i = (a.getD i 0 * b.getD k 0) * 65536 ^ (i + k) := by
      rw [Nat.pow_add, ← Nat.mul_assoc, Nat.mul_assoc, Nat.mul_comm (65536 ^ k)]
    rw [e1]
    generalize a.getD i 0 * b.getD k 0 = m at *
    generalize o.getD (i + k) 0 = d at *
    generalize 65536 ^ (i + k) = P at *
    have e2 : (d + c + m) * P = d * P + c * P + m * P := by rw [Nat.add_mul, Nat.add_mul]
    have e3 : (d + c + m) * P = ((d + c + m) / 65536) * (P * 65536) + ((d + c + m) % 65536) * P := by
      conv => lhs; rw [← Nat.div_add_mod (d + c + m) 65536]
      rw [Nat.add_mul, Nat.mul_comm P 65536, ← Nat.mul_assoc, Nat.mul_comm 65536 ((d + c + m) / 65536)]
    generalize (d + c + m) / 65536 * (P * 65536) = q1 at *
    generalize (d + c + m) % 65536 * P = q2 at *
    generalize d * P = q3 at *
    generalize c * P = q4 at *
    generalize m * P = q5 at *
    omega
  · intro j hj'
    rw [getD_setN, if_neg (by omega)]
    exact hj j (by omega)

/-- the carry behind b -/
theorem Row.last {a b o0 o : List Nat} {i k c : Nat} (h : Row a b o0 i k o c) (h0 : Rows a b i o0) (hi : i < a.length) (hk : ¬ k < b.length) (hc0 : 0 < c) :
    k = b.length ∧ Row a b o0 i (k + 1) (o.set (i + k) ((o.getD (i + k) 0 + c) % 65536)) ((o.getD (i + k) 0 + c) / 65536) := by
  obtain ⟨hl, hd, hc, hkb, hke, hv, hj⟩ := h
  have hkk : k = b.length := by
    by_cases e : k = b.length + 1
    · have := hke e; omega
    · omega
  have hz : o.getD (i + k) 0 = 0 := by rw [hj _ (Nat.le_refl _)]; exact h0.2.2.2.2 _ (by omega)
  have hs := val_set o (i + k) c (by omega)
  rw [hz] at hs ⊢
  refine ⟨hkk, ?_⟩
  have e1 : (0 + c) % 65536 = c := by omega
  have e2 : (0 + c) / 65536 = 0 := by omega
  rw [e1, e2]
  refine ⟨by simpa using hl, dig_set hd _ _ hc, by omega, by omega, fun _ => rfl, ?_, ?_⟩
  · rw [List.take_of_length_le (show b.length ≤ k + 1 by omega)]
    rw [List.take_of_length_le (show b.length ≤ k by omega)] at hv
    omega
  · intro j hj'
    rw [getD_setN, if_neg (by omega)]
    exact hj j (by omega)

/-- the row's end -/
theorem Row.done {a b o0 o : List Nat} {i k c : Nat} (h : Row a b o0 i k o c) (h0 : Rows a b i o0) (hi : i < a.length) (hk : ¬ k < b.length) (hc0 : ¬ 0 < c) : Rows a b (i + 1) o := by
  obtain ⟨hl, hd, hc, hkb, hke, hv, hj⟩ := h
  have : c = 0 := by omega
  subst this
  rw [List.take_of_length_le (show b.length ≤ k by omega)] at hv
  refine ⟨hl, hd, by omega, ?_, ?_⟩
  · rw [val_take_succ a i hi, Nat.add_mul]
    have : a.getD i 0 * val b * 65536 ^ i = a.getD i 0 * 65536 ^ i * val b := by rw [Nat.mul_assoc, Nat.mul_assoc, Nat.mul_comm (val b)]
    omega
  · intro j hj'
    rw [hj j (by omega)]
    exact h0.2.2.2.2 j (by omega)

theorem Rows.done {a b o : List Nat} {i : Nat} (h : Rows a b i o) (hi : ¬ i < a.length) : val o = val a * val b := by
  rw [h.2.2.2.1, List.take_of_length_le (by omega)]

/- which number is above -/
def digitsF (n : Nat) : List Nat := [n % 65536, n / 65536 % 65536, n / 65536 / 65536 % 65536, n / 65536 / 65536 / 65536 % 65536]
theorem val_digitsF (n : Nat) (h : n < 18446744073709551616) : val (digitsF n) = n := by simp [digitsF, val]; omega
theorem digitsF_lt (n : Nat) : ∀ d ∈ digitsF n, d < 65536 := by simp [digitsF]; omega

/-- from the top on, above i places, both are the same -/
def Top (a b : List Nat) (i : Nat) : Prop := ∀ j, i ≤ j → a.getD j 0 = b.getD j 0

theorem val_split (l : List Nat) (i : Nat) : val l = val (l.take i) + 65536 ^ i * val (l.drop i) := by
  by_cases h : i ≤ l.length
  · conv => lhs; rw [← List.take_append_drop i l, val_append]
    simp [Nat.min_eq_left h]
  · rw [List.take_of_length_le (by omega), List.drop_eq_nil_of_le (by omega)]; simp [val]

theorem val_same : ∀ (a b : List Nat), (∀ j, a.getD j 0 = b.getD j 0) → val a = val b := by
  intro a
  induction a with
  | nil =>
    intro b
    induction b with
    | nil => intro _; rfl
    | cons d b ih =>
      intro h
      have h0 := h 0
      have := ih fun j => by simpa using h (j + 1)
      simp at h0
      simp [val] at this ⊢
      omega
  | cons x a ih =>
    intro b h
    cases b with
    | nil =>
      have h0 := h 0
      have := ih [] fun j => by simpa using h (j + 1)
      simp at h0
      simp [val] at this ⊢
      omega
    | cons y b =>
      have h0 := h 0
      have := ih b fun j => by simpa using h (j + 1)
      simp at h0
      simp [val, this, h0]

theorem getD_drop (l : List Nat) (i j : Nat) : (l.drop i).getD j 0 = l.getD (i + j) 0 := by simp [List.getD]

theorem top_done {a b : List Nat} (h : Top a b 0) : val a = val b := val_same a b fun j => h j (Nat.zero_le _)

theorem val_take_le {l : List Nat} (h : ∀ d ∈ l, d < 65536) (i : Nat) : val (l.take i) < 65536 ^ i := by
  have h1 := val_lt (l.take i) fun d hd => h d (List.mem_of_mem_take hd)
  have h2 : (l.take i).length ≤ i := List.length_take_le ..
  exact Nat.lt_of_lt_of_le h1 (Nat.pow_le_pow_right (by omega) h2)

theorem val_drop (l : List Nat) (i : Nat) : val (l.drop i) = l.getD i 0 + 65536 * val (l.drop (i + 1)) := by
  by_cases h : i < l.length
  · rw [List.drop_eq_getElem_cons h]; simp [val, List.getD, h]
  · rw [List.drop_eq_nil_of_le (by omega), List.drop_eq_nil_of_le (by omega)]; simp [val, List.getD, List.getElem?_eq_none (by omega : l.length ≤ i)]

theorem top_less {a b : List Nat} {i : Nat} (h : Top a b (i + 1)) (ha : ∀ d ∈ a, d < 65536) (hlt : a.getD i 0 < b.getD i 0) : val a < val b := by
  have e : val (a.drop (i + 1)) = val (b.drop (i + 1)) := val_same _ _ fun j => by rw [getD_drop, getD_drop]; exact h _ (by omega)
  rw [val_split a i, val_split b i, val_drop a i, val_drop b i, e, Nat.mul_add, Nat.mul_add]
  have h1 := val_take_le ha i
  have h2 : 65536 ^ i * (a.getD i 0 + 1) ≤ 65536 ^ i * b.getD i 0 := Nat.mul_le_mul_left _ hlt
  rw [Nat.mul_add] at h2
  omega

theorem top_step {a b : List Nat} {i : Nat} (h : Top a b (i + 1)) (he : a.getD i 0 = b.getD i 0) : Top a b i := by
  intro j hj
  by_cases e : j = i
  · subst e; exact he
  · exact h j (by omega)

theorem top_start (a b : List Nat) (n : Nat) (ha : a.length ≤ n) (hb : b.length ≤ n) : Top a b n := by
  intro j hj
  simp [List.getD, List.getElem?_eq_none (by omega : a.length ≤ j), List.getElem?_eq_none (by omega : b.length ≤ j)]

end Go.Proofs.YtfopjobcjafgaabDoor
