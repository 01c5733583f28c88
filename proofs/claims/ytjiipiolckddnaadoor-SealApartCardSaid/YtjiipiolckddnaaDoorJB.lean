/-
  Several texts, joined: SA, SB, SK, SC, SD, SE, SF, SG.
-/
import Derived.WalkKit
import Derived.Test.YtjiipiolckddnaaDoorJA
import Derived.Test.YtjiipiolckddnaaDoorChecked
import Derived.WalkSpells
import Derived.WalkLawsBesides
import Derived.RegionTactic
import Derived.BigRegion
import Derived.Deep.LoopGhost
import Derived.Laws.AppendOwnNone
import Derived.OpenShut
import Derived.Deep.RegionHeld3
import Derived.Deep.RegionWith
import Derived.Deep.DeepCutAuto
import Derived.Deep.CutBlock
import Derived.Deep.CutRange
import Derived.Deep.DrawnRows
import Derived.Deep.MidRow
import Derived.Deep.WholeRow
import Derived.Deep.QuietTactic
import Derived.BigQuiet

/- Plain facts on numbers, with nothing of the program in them: primes, roots found bit by bit, numbers as digits of 16 bits, their product and their order. -/
namespace Go.Proofs.YtjiipiolckddnaaDoor
open Go.RowKit

/- primes -/
def okTo (n : Nat) : Nat → Bool
  | 0 => true
  | d + 1 => okTo n d && (decide (d < 2) || n % d != 0)

def isPr (n : Nat) : Bool := okTo n n

def cntPr : Nat → Nat
  | 0 => 0
  | n + 1 => cntPr n + if 2 ≤ n ∧ isPr n = true then 1 else 0

def primeT : List Nat := [2, 3, 5, 7, 11, 13, 17, 19, 23, 29, 31, 37, 41, 43, 47, 53, 59, 61, 67, 71, 73, 79, 83, 89, 97, 101, 103, 107, 109, 113, 127, 131, 137, 139, 149, 151, 157, 163, 167, 173, 179, 181, 191, 193, 197, 199, 211, 223, 227, 229, 233, 239, 241, 251, 257, 263, 269, 271, 277, 281, 283, 293, 307, 311]

theorem prime_at : ∀ n, n < 312 → 2 ≤ n → isPr n = true → primeT.getD (cntPr n) 0 = n := by decide +kernel
theorem prime_is : ∀ k, k < 64 → isPr (primeT.getD k 0) = true ∧ cntPr (primeT.getD k 0) = k ∧ primeT.getD k 0 < 312 ∧ 2 ≤ primeT.getD k 0 := by decide +kernel

/- roots -/
def rootF (e n : Nat) : Nat → Nat → Nat
  | 0, r => r
  | b + 1, r => rootF e n b (if (r + 2 ^ b) ^ e ≤ n * 2 ^ (32 * e) then r + 2 ^ b else r)

def startT : List Nat := [0x6a09e667, 0xbb67ae85, 0x3c6ef372, 0xa54ff53a, 0x510e527f, 0x9b05688c, 0x1f83d9ab, 0x5be0cd19]
def turnT : List Nat := [
  0x428a2f98, 0x71374491, 0xb5c0fbcf, 0xe9b5dba5,
  0x3956c25b, 0x59f111f1, 0x923f82a4, 0xab1c5ed5,
  0xd807aa98, 0x12835b01, 0x243185be, 0x550c7dc3,
  0x72be5d74, 0x80deb1fe, 0x9bdc06a7, 0xc19bf174,
  0xe49b69c1, 0xefbe4786, 0x0fc19dc6, 0x240ca1cc,
  0x2de92c6f, 0x4a7484aa, 0x5cb0a9dc, 0x76f988da,
  0x983e5152, 0xa831c66d, 0xb00327c8, 0xbf597fc7,
  0xc6e00bf3, 0xd5a79147, 0x06ca6351, 0x14292967,
  0x27b70a85, 0x2e1b2138, 0x4d2c6dfc, 0x53380d13,
  0x650a7354, 0x766a0abb, 0x81c2c92e, 0x92722c85,
  0xa2bfe8a1, 0xa81a664b, 0xc24b8b70, 0xc76c51a3,
  0xd192e819, 0xd6990624, 0xf40e3585, 0x106aa070,
  0x19a4c116, 0x1e376c08, 0x2748774c, 0x34b0bcb5,
  0x391c0cb3, 0x4ed8aa4a, 0x5b9cca4f, 0x682e6ff3,
  0x748f82ee, 0x78a5636f, 0x84c87814, 0x8cc70208,
  0x90befffa, 0xa4506ceb, 0xbef9a3f7, 0xc67178f2]

theorem start_is : ∀ k, k < 8 → rootF 2 (primeT.getD k 0) 40 0 % 4294967296 = startT.getD k 0 := by decide +kernel
theorem turn_is : ∀ k, k < 64 → rootF 3 (primeT.getD k 0) 40 0 % 4294967296 = turnT.getD k 0 := by decide +kernel

/- numbers as digits of 16 bits -/
def val : List Nat → Nat
  | [] => 0
  | d :: l => d + 65536 * val l

theorem val_append (l k : List Nat) : val (l ++ k) = val l + 65536 ^ l.length * val k := by
  induction l with
  | nil => simp [val]
  | cons d l ih => simp only [List.cons_append, val, ih, List.length_cons, Nat.pow_succ, Nat.mul_add]; rw [Nat.mul_comm (65536 ^ l.length) 65536, Nat.mul_assoc]; omega

theorem val_set : ∀ (l : List Nat) (j x : Nat), j < l.length → val (l.set j x) + l.getD j 0 * 65536 ^ j = val l + x * 65536 ^ j := by
  intro l
  induction l with
  | nil => intro j x h; simp at h
  | cons d l ih =>
    intro j x h
    cases j with
    | zero => simp [val]; omega
    | succ j =>
      have := ih j x (by simpa using h)
      simp only [List.set_cons_succ, val, List.getD_cons_succ, Nat.pow_succ]
      rw [← Nat.mul_assoc, ← Nat.mul_assoc]
      generalize l.getD j 0 * 65536 ^ j = p at *
      generalize x * 65536 ^ j = q at *
      omega

theorem val_take_succ (l : List Nat) (k : Nat) (h : k < l.length) : val (l.take (k + 1)) = val (l.take k) + l.getD k 0 * 65536 ^ k := by
  rw [List.take_succ_eq_append_getElem h, val_append]
  simp [val, List.getD, h, Nat.min_eq_left (Nat.le_of_lt h), Nat.mul_comm]

theorem val_replicate (n : Nat) : val (List.replicate n 0) = 0 := by
  induction n with
  | zero => rfl
  | succ n ih => simp [List.replicate_succ, val, ih]

theorem val_lt : ∀ (l : List Nat), (∀ d ∈ l, d < 65536) → val l < 65536 ^ l.length := by
  intro l
  induction l with
  | nil => intro _; simp [val]
  | cons d l ih =>
    intro h
    have h1 := ih fun x hx => h x (List.mem_cons_of_mem _ hx)
    have h2 := h d (List.mem_cons_self ..)
    simp only [val, List.length_cons, Nat.pow_succ]
    omega

/-- one row of the product: what lies there behind so many digits, with what is carried -/
def Row (a b o0 : List Nat) (i k : Nat) (o : List Nat) (c : Nat) : Prop :=
  o.length = a.length + b.length + 1 ∧ (∀ d ∈ o, d < 65536) ∧ c < 65536 ∧ k ≤ b.length + 1 ∧ (k = b.length + 1 → c = 0) ∧
  val o + c * 65536 ^ (i + k) = val (a.take i) * val b + a.getD i 0 * val (b.take k) * 65536 ^ i ∧
  ∀ j, i + k ≤ j → o.getD j 0 = o0.getD j 0

/-- the product of so many digits -/
def Rows (a b : List Nat) (i : Nat) (o : List Nat) : Prop :=
  o.length = a.length + b.length + 1 ∧ (∀ d ∈ o, d < 65536) ∧ i ≤ a.length ∧ val o = val (a.take i) * val b ∧ ∀ j, i + b.length ≤ j → o.getD j 0 = 0

theorem Rows.start (a b : List Nat) : Rows a b 0 (List.replicate (a.length + b.length + 1) 0) := by
  refine ⟨by simp, ?_, by omega, by simp [val_replicate, val], ?_⟩
  · intro d hd; rw [List.eq_of_mem_replicate hd]; omega
  · intro j _; simp only [List.getD, List.getElem?_replicate]; split <;> rfl

theorem Rows.row {a b o : List Nat} {i : Nat} (h : Rows a b i o) : Row a b o i 0 o 0 :=
  ⟨h.1, h.2.1, by omega, by omega, fun e => rfl, by simp [val, h.2.2.2.1], fun j _ => rfl⟩

theorem dig_getD {l : List Nat} (h : ∀ d ∈ l, d < 65536) (j : Nat) : l.getD j 0 < 65536 := by
  by_cases hj : j < l.length
  · simp only [List.getD, List.getElem?_eq_getElem hj, Option.getD_some]; exact h _ (List.getElem_mem hj)
  · simp [List.getD, List.getElem?_eq_none (by omega : l.length ≤ j)]

theorem mul_dig {x y : Nat} (hx : x < 65536) (hy : y < 65536) : x * y ≤ 4294836225 :=
  Nat.mul_le_mul (show x ≤ 65535 by omega) (show y ≤ 65535 by omega)

theorem getD_setN (l : List Nat) (i k x : Nat) : (l.set i x).getD k 0 = if i = k ∧ k < l.length then x else l.getD k 0 := by
  simp only [List.getD, List.getElem?_set]
  by_cases h : i = k
  · subst h
    by_cases h2 : i < l.length
    · simp [h2]
    · simp [h2]
  · simp [h]

theorem dig_set {l : List Nat} (h : ∀ d ∈ l, d < 65536) (j x : Nat) (hx : x < 65536) : ∀ d ∈ l.set j x, d < 65536 := by
  intro d hd
  rcases List.mem_or_eq_of_mem_set hd with h1 | h1
  · exact h d h1
  · omega

/-- a digit within b -/
theorem Row.step {a b o0 o : List Nat} {i k c : Nat} (h : Row a b o0 i k o c) (ha : ∀ d ∈ a, d < 65536) (hb : ∀ d ∈ b, d < 65536) (hi : i < a.length) (hk : k < b.length) :
    Row a b o0 i (k + 1) (o.set (i + k) ((o.getD (i + k) 0 + c + a.getD i 0 * b.getD k 0) % 65536)) ((o.getD (i + k) 0 + c + a.getD i 0 * b.getD k 0) / 65536) := by
  obtain ⟨hl, hd, hc, hkb, hke, hv, hj⟩ := h
  have h1 := dig_getD hd (i + k)
  have h2 := mul_dig (dig_getD ha i) (dig_getD hb k)
  have hs := val_set o (i + k) ((o.getD (i + k) 0 + c + a.getD i 0 * b.getD k 0) % 65536) (by omega)
  refine ⟨by simpa using hl, dig_set hd _ _ (Nat.mod_lt _ (by omega)), by omega, by omega, fun e => by omega, ?_, ?_⟩
  · rw [val_take_succ b k hk, Nat.mul_add, Nat.add_mul, ← Nat.add_assoc (val (List.take i a) * val b), ← hv, show i + (k + 1) = (i + k) + 1 by omega, Nat.pow_succ]
    have e1 : a.getD i 0 * (b.getD k 0 * 65536 ^ k) * 65536 ^ i = (a.getD i 0 * b.getD k 0) * 65536 ^ (i + k) := by
      rw [Nat.pow_add, ← Nat.mul_assoc, Nat.mul_assoc, Nat.mul_comm (65536 ^ k)]
    rw [e1]
    generalize a.getD i 0 * b.getD k 0 = m at *
    generalize o.getD (i + k) 0 = d at *
    generalize 65536 ^ (i + k) = P at *
    have e2 : (d + c + m) * P = d * P + c * P + m * P := by rw [Nat.add_mul, Nat.add_mul]
    have e3 : (d + c + m) * P = ((d + c + m) / 65536) * (P * 65536) + ((d + c + m) % 65536) * P := by
      conv => lhs; rw [← Nat.div_add_mod (d + c + m) 65536]
      rw [Nat.add_mul, Nat.mul_comm P 65536, ← Nat.mul_assoc, Nat.mul_comm 65536 ((d + c + m) / 65536)]
    generalize (d + c + m) / 65536 * (P * 65536) = q1 at *
    generalize (d + c + m) % 65536 * P = q2 at *
    generalize d * P = q3 at *
    generalize c * P = q4 at *
    generalize m * P = q5 at *
    omega
  · intro j hj'
    rw [getD_setN, if_neg (by omega)]
    exact hj j (by omega)

/-- the carry behind b -/
theorem Row.last {a b o0 o : List Nat} {i k c : Nat} (h : Row a b o0 i k o c) (h0 : Rows a b i o0) (hi : i < a.length) (hk : ¬ k < b.length) (hc0 : 0 < c) :
    k = b.length ∧ Row a b o0 i (k + 1) (o.set (i + k) ((o.getD (i + k) 0 + c) % 65536)) ((o.getD (i + k) 0 + c) / 65536) := by
  obtain ⟨hl, hd, hc, hkb, hke, hv, hj⟩ := h
  have hkk : k = b.length := by
    by_cases e : k = b.length + 1
    · have := hke e; omega
    · omega
  have hz : o.getD (i + k) 0 = 0 := by rw [hj _ (Nat.le_refl _)]; exact h0.2.2.2.2 _ (by omega)
  have hs := val_set o (i + k) c (by omega)
  rw [hz] at hs ⊢
  refine ⟨hkk, ?_⟩
  have e1 : (0 + c) % 65536 = c := by omega
  have e2 : (0 + c) / 65536 = 0 := by omega
  rw [e1, e2]
  refine ⟨by simpa using hl, dig_set hd _ _ hc, by omega, by omega, fun _ => rfl, ?_, ?_⟩
  · rw [List.take_of_length_le (show b.length ≤ k + 1 by omega)]
    rw [List.take_of_length_le (show b.length ≤ k by omega)] at hv
    omega
  · intro j hj'
    rw [getD_setN, if_neg (by omega)]
    exact hj j (by omega)

/-- the row's end -/
theorem Row.done {a b o0 o : List Nat} {i k c : Nat} (h : Row a b o0 i k o c) (h0 : Rows a b i o0) (hi : i < a.length) (hk : ¬ k < b.length) (hc0 : ¬ 0 < c) : Rows a b (i + 1) o := by
  obtain ⟨hl, hd, hc, hkb, hke, hv, hj⟩ := h
  have : c = 0 := by omega
  subst this
  rw [List.take_of_length_le (show b.length ≤ k by omega)] at hv
  refine ⟨hl, hd, by omega, ?_, ?_⟩
  · rw [val_take_succ a i hi, Nat.add_mul]
    have : a.getD i 0 * val b * 65536 ^ i = a.getD i 0 * 65536 ^ i * val b := by rw [Nat.mul_assoc, Nat.mul_assoc, Nat.mul_comm (val b)]
    omega
  · intro j hj'
    rw [hj j (by omega)]
    exact h0.2.2.2.2 j (by omega)

theorem Rows.done {a b o : List Nat} {i : Nat} (h : Rows a b i o) (hi : ¬ i < a.length) : val o = val a * val b := by
  rw [h.2.2.2.1, List.take_of_length_le (by omega)]

/- which number is above -/
def digitsF (n : Nat) : List Nat := [n % 65536, n / 65536 % 65536, n / 65536 / 65536 % 65536, n / 65536 / 65536 / 65536 % 65536]
theorem val_digitsF (n : Nat) (h : n < 18446744073709551616) : val (digitsF n) = n := by simp [digitsF, val]; omega
theorem digitsF_lt (n : Nat) : ∀ d ∈ digitsF n, d < 65536 := by simp [digitsF]; omega

/-- from the top on, above i places, both are the same -/
def Top (a b : List Nat) (i : Nat) : Prop := ∀ j, i ≤ j → a.getD j 0 = b.getD j 0

theorem val_split (l : List Nat) (i : Nat) : val l = val (l.take i) + 65536 ^ i * val (l.drop i) := by
  by_cases h : i ≤ l.length
  · conv => lhs; rw [← List.take_append_drop i l, val_append]
    simp [Nat.min_eq_left h]
  · rw [List.take_of_length_le (by omega), List.drop_eq_nil_of_le (by omega)]; simp [val]

theorem val_same : ∀ (a b : List Nat), (∀ j, a.getD j 0 = b.getD j 0) → val a = val b := by
  intro a
  induction a with
  | nil =>
    intro b
    induction b with
    | nil => intro _; rfl
    | cons d b ih =>
      intro h
      have h0 := h 0
      have := ih fun j => by simpa using h (j + 1)
      simp at h0
      simp [val] at this ⊢
      omega
  | cons x a ih =>
    intro b h
    cases b with
    | nil =>
      have h0 := h 0
      have := ih [] fun j => by simpa using h (j + 1)
      simp at h0
      simp [val] at this ⊢
      omega
    | cons y b =>
      have h0 := h 0
      have := ih b fun j => by simpa using h (j + 1)
      simp at h0
      simp [val, this, h0]

theorem getD_drop (l : List Nat) (i j : Nat) : (l.drop i).getD j 0 = l.getD (i + j) 0 := by simp [List.getD]

theorem top_done {a b : List Nat} (h : Top a b 0) : val a = val b := val_same a b fun j => h j (Nat.zero_le _)

theorem val_take_le {l : List Nat} (h : ∀ d ∈ l, d < 65536) (i : Nat) : val (l.take i) < 65536 ^ i := by
  have h1 := val_lt (l.take i) fun d hd => h d (List.mem_of_mem_take hd)
  have h2 : (l.take i).length ≤ i := List.length_take_le ..
  exact Nat.lt_of_lt_of_le h1 (Nat.pow_le_pow_right (by omega) h2)

theorem val_drop (l : List Nat) (i : Nat) : val (l.drop i) = l.getD i 0 + 65536 * val (l.drop (i + 1)) := by
  by_cases h : i < l.length
  · rw [List.drop_eq_getElem_cons h]; simp [val, List.getD, h]
  · rw [List.drop_eq_nil_of_le (by omega), List.drop_eq_nil_of_le (by omega)]; simp [val, List.getD, List.getElem?_eq_none (by omega : l.length ≤ i)]

theorem top_less {a b : List Nat} {i : Nat} (h : Top a b (i + 1)) (ha : ∀ d ∈ a, d < 65536) (hlt : a.getD i 0 < b.getD i 0) : val a < val b := by
  have e : val (a.drop (i + 1)) = val (b.drop (i + 1)) := val_same _ _ fun j => by rw [getD_drop, getD_drop]; exact h _ (by omega)
  rw [val_split a i, val_split b i, val_drop a i, val_drop b i, e, Nat.mul_add, Nat.mul_add]
  have h1 := val_take_le ha i
  have h2 : 65536 ^ i * (a.getD i 0 + 1) ≤ 65536 ^ i * b.getD i 0 := Nat.mul_le_mul_left _ hlt
  rw [Nat.mul_add] at h2
  omega

theorem top_step {a b : List Nat} {i : Nat} (h : Top a b (i + 1)) (he : a.getD i 0 = b.getD i 0) : Top a b i := by
  intro j hj
  by_cases e : j = i
  · subst e; exact he
  · exact h j (by omega)

theorem top_start (a b : List Nat) (n : Nat) (ha : a.length ≤ n) (hb : b.length ≤ n) : Top a b n := by
  intro j hj
  simp [List.getD, List.getElem?_eq_none (by omega : a.length ≤ j), List.getElem?_eq_none (by omega : b.length ≤ j)]

end Go.Proofs.YtjiipiolckddnaaDoor

/- Walks of the reference's numbers: digits, times, above, Prime, root, Start, Turn: what they tell, whatever world they are called in. -/
namespace Go.Proofs.YtjiipiolckddnaaDoor
open Go.RowKit

theorem infoU64 : (Tryd.prog.info? 22).map (fun i => (i.zero, i.size, i.bytes)) = some (some (.int .u64 0), 1, 8) := by kernel_rfl

/-- the digits l lie in a slice -/
def Dg (w : World) (v : Value) (l : List Nat) : Prop :=
  ∃ g cap, v = .slice (some ⟨g, 0, none⟩) l.length cap ∧ l.length ≤ cap ∧ cap ≤ maxLen ∧ ∀ i, i < l.length → w.cell? ⟨g, i, none⟩ = some (.int .u64 ((l.getD i 0 : Nat) : Int))

def u64s (l : List Nat) : List Value := l.map fun d => Value.int .u64 ((d : Nat) : Int)

theorem u64s_length (l : List Nat) : (u64s l).length = l.length := by simp [u64s]
theorem u64s_at {l : List Nat} {i : Nat} (h : i < l.length) : (u64s l)[i]? = some (.int .u64 ((l.getD i 0 : Nat) : Int)) := by simp [u64s, List.getD, h]
theorem u64s_set (l : List Nat) (i x : Nat) : (u64s l).set i (.int .u64 ((x : Nat) : Int)) = u64s (l.set i x) := by simp [u64s, List.map_set]

theorem Dg.of_own {w : World} {B : Nat} {v : Value} {l : List Nat} (h : w.ownsRow B 22 1 v l.length (u64s l)) (hn : 0 < l.length) : Dg w v l := by
  obtain ⟨g, cap, rfl, _, _, hc, hm⟩ := own_shape h hn
  exact ⟨g, cap, rfl, hc, hm, fun i hi => (h.cellAt i (by omega)).trans (u64s_at hi)⟩

theorem Dg.kept {w w' : World} {v : Value} {l : List Nat} (h : Dg w v l) (hb : Below w.heap.size w w') : Dg w' v l := by
  obtain ⟨g, cap, rfl, hc, hm, hcell⟩ := h
  exact ⟨g, cap, rfl, hc, hm, fun i hi => (hb.cell (block_lt_of_cell (hcell i hi))).trans (hcell i hi)⟩

def digs : Nat → Nat → List Nat
  | 0, _ => []
  | i + 1, n => digs i n ++ [n / 65536 ^ i % 65536]

theorem digs_length (i n : Nat) : (digs i n).length = i := by induction i with
  | zero => rfl
  | succ i ih => simp [digs, ih]

theorem digs_four (n : Nat) : digs 4 n = digitsF n := by
  simp [digs, digitsF, Nat.div_div_eq_div_mul]

set_option maxHeartbeats 1000000 in
set_option maxRecDepth 100000 in
theorem digits_any (n : Nat) (hn : n < 18446744073709551616) (w : World) :
    Calls Tryd.prog 86 #[.int .u64 n] w fun e w' => ∃ v, e = .returned v ∧ Dg w' v (digitsF n) ∧ Below w.heap.size w w' := by
  obtain ⟨i0, hi, hz0, hz1, hz2⟩ := info_parts infoU64
  go_enter Tryd.func86, Tryd.ntmps86
  go_wp2
  go_loopg [0, 3, 4] 5 (fun k s0 s3 s4 wr => ∃ (i : Nat) (v3 : Value), v3 = s3 ∧ s0 = .int .u64 ((n / 65536 ^ i : Nat) : Int) ∧ s4 = .int .i64 i ∧ i ≤ 4 ∧ 4 - i < k ∧
    wr.ownsRow w.heap.size 22 1 v3 i (u64s (digs i n)) ∧ Below w.heap.size w wr)
  case atStart => exact ⟨0, _, rfl, by simp, rfl, by omega, by omega, World.ownsRow_nil _ _ _ _, Below.refl _ _⟩
  case round =>
    obtain ⟨i, v3, rfl, rfl, rfl, hi4, hk, ho, hb⟩ := hrel
    have HO : Hid (wr.ownsRow w.heap.size 22 1 v3 i (u64s (digs i n))) := ho
    have hmd : n / 65536 ^ i < 18446744073709551616 := Nat.lt_of_le_of_lt (Nat.div_le_self _ _) hn
    have HS : Hid (n / 65536 ^ (i + 1) = n / 65536 ^ i / 65536) := by show _ = _; rw [Nat.pow_succ, Nat.div_div_eq_div_mul]
    clear ho
    by_cases hlt : i < 4
    · have HE : Hid (u64s (digs (i + 1) n) = u64s (digs i n) ++ [.int .u64 ((n / 65536 ^ i % 65536 : Nat) : Int)]) := by show _ = _; simp [u64s, digs]
      generalize hm : n / 65536 ^ i = m at *
      clear hm
      go_wp2_with (at_builtin; refine wpList_append_own _ rfl _ _ 123 rfl w.heap.size 22 i0 (.int .u64 0) 1 8 Tryd.underlying123 hi hz0 hz1 hz2 rfl (by decide) _ _ _ rfl (HO.out.alloc _) ⟨wr.heap.size, 0, none⟩ 1 1 [.int .u64 ((m : Int) % 65536)] rfl rfl ?c1 ?c2 ?c3 ?c4 ?c5 ?_)
      case c1 =>
        intro j u hj
        match j, hj with
        | 0, hj => simp at hj; subst hj; simp [Addr.add]
      case c2 => intro u hu; simp at hu; subst hu; rfl
      case c3 => unfold maxLen; omega
      case c4 => omega
      case c5 => have := hb.size; simp; omega
      intro v' w1 hown' hgrow _
      have hb1 : Below w.heap.size w w1 := (hb.alloc hb.size _).grown hgrow (by have := hb.size; simp; omega) (by intro k hk; exact (HO.out.lt k hk).1)
      clear hgrow HO
      go_wp2
      go_roundg (4 - i)
      case measure => omega
      case rel =>
        refine ⟨i + 1, v', rfl, by rw [HS.out]; go_num, by go_num, by omega, by omega, ?_, hb1⟩
        rw [HE.out]
        exact hown'
    · have e : i = 4 := by omega
      subst e
      go_wp2
      go_ret
      refine ⟨v3, rfl, ?_, hb⟩
      rw [← digs_four]
      exact Dg.of_own (by rw [digs_length]; exact HO.out) (by rw [digs_length]; omega)


theorem shr_dg {w : World} {v : Value} {l : List Nat} (h : Dg w v l) {i : Nat} (hi : i < l.length) : ∃ g cap, v = .slice (some ⟨g, 0, none⟩) l.length cap ∧ w.cell? ⟨g, i, none⟩ = some (.int .u64 ((l.getD i 0 : Nat) : Int)) := by
  obtain ⟨g, cap, rfl, _, _, hc⟩ := h
  exact ⟨g, cap, rfl, hc i hi⟩

set_option maxHeartbeats 2000000 in
set_option maxRecDepth 100000 in
theorem s_times_any (va vb : Value) (a b : List Nat) (w : World) (ha : Dg w va a) (hb : Dg w vb b) (da : ∀ d ∈ a, d < 65536) (db : ∀ d ∈ b, d < 65536) (la : a.length ≤ 20) (lb : b.length ≤ 20) :
    Calls Tryd.prog 87 #[va, vb] w fun e w' => ∃ v o, e = .returned v ∧ Dg w' v o ∧ (∀ d ∈ o, d < 65536) ∧ val o = val a * val b ∧ o.length = a.length + b.length + 1 ∧ Below w.heap.size w w' := by
  obtain ⟨i0, hi, hz0, hz1, hz2⟩ := info_parts infoU64
  have HA : Hid (Dg w va a) := ha
  have HB : Hid (Dg w vb b) := hb
  have DA : Hid (∀ d ∈ a, d < 65536) := da
  have DB : Hid (∀ d ∈ b, d < 65536) := db
  obtain ⟨ga, ca, rfl, hca, hcam, hcella⟩ := ha
  obtain ⟨gb, cb, rfl, hcb, hcbm, hcellb⟩ := hb
  have CA : Hid (∀ i, i < a.length → w.cell? ⟨ga, i, none⟩ = some (.int .u64 ((a.getD i 0 : Nat) : Int))) := hcella
  have CB : Hid (∀ i, i < b.length → w.cell? ⟨gb, i, none⟩ = some (.int .u64 ((b.getD i 0 : Nat) : Int))) := hcellb
  clear hcella hcellb da db
  generalize hna : a.length = na at *
  generalize hnb : b.length = nb at *
  have NA : Hid (a.length = na) := hna
  have NB : Hid (b.length = nb) := hnb
  clear hna hnb
  go_enter Tryd.func87, Tryd.ntmps87
  go_wp2_with (at_make; refine wpList_make_full _ rfl _ _ 123 rfl w.heap.size 22 i0 (.int .u64 0) 1 Tryd.underlying123 hi hz0 hz1 .i64 .i64 _ _ (na + nb + 1) rfl rfl (by simp) (by simp) ?m1 ?m2 ?m3 ?_)
  case m1 => rw [hz2]; omega
  case m2 => unfold maxLen; omega
  case m3 => exact Nat.le_refl _
  intro w2 hown hgrow
  have hown1 : w2.ownsRow w.heap.size 22 1 (.slice (some ⟨w.heap.size, 0, none⟩) (na + nb + 1) (na + nb + 1)) (na + nb + 1) (u64s (List.replicate (na + nb + 1) 0)) := by
    have e : (madeCells #[Value.int .u64 0] (na + nb + 1)).toList = u64s (List.replicate (na + nb + 1) 0) := by
      rw [toList_madeCells_one]; simp [u64s]
    rw [← e]
    exact hown
  have HO : Hid (w2.ownsRow w.heap.size 22 1 (.slice (some ⟨w.heap.size, 0, none⟩) (na + nb + 1) (na + nb + 1)) (na + nb + 1) (u64s (List.replicate (na + nb + 1) 0))) := hown1
  have hb0 : Below w.heap.size w w2 := grown_below hgrow (Nat.le_refl _) (by intro k hk; cases hk)
  have hga : ga < w.heap.size ∨ na = 0 := by
    by_cases h : 0 < na
    · exact Or.inl (block_lt_of_cell (CA.out 0 h))
    · exact Or.inr (by omega)
  clear hown hgrow hown1
  go_wp2
  go_loopg [6] (na + 1) (fun f s6 wr => ∃ (i : Nat) (o : List Nat), s6 = .int .i64 i ∧ i ≤ na ∧ na - i < f ∧ Rows a b i o ∧
    wr.ownsRow w.heap.size 22 1 (.slice (some ⟨w.heap.size, 0, none⟩) (na + nb + 1) (na + nb + 1)) (na + nb + 1) (u64s o) ∧ Below w.heap.size w wr)
  case atStart => exact ⟨0, List.replicate (na + nb + 1) 0, rfl, by omega, by omega, by have := Rows.start a b; rw [NA.out, NB.out] at this; exact this, HO.out, hb0⟩
  case round =>
    obtain ⟨i, o, rfl, hin, hf, hR, ho, hbr⟩ := hrel
    have HR : Hid (Rows a b i o) := hR
    have HOR : Hid (wr.ownsRow w.heap.size 22 1 (.slice (some ⟨w.heap.size, 0, none⟩) (na + nb + 1) (na + nb + 1)) (na + nb + 1) (u64s o)) := ho
    clear hR ho HO
    by_cases hlt : i < na
    · go_wp2
      go_loopg [7, 8] (nb + 2) (fun f s7 s8 wr2 => ∃ (k c : Nat) (o2 : List Nat), s7 = .int .u64 c ∧ s8 = .int .i64 k ∧ nb + 1 - k < f ∧ Row a b o i k o2 c ∧
        wr2.ownsRow w.heap.size 22 1 (.slice (some ⟨w.heap.size, 0, none⟩) (na + nb + 1) (na + nb + 1)) (na + nb + 1) (u64s o2) ∧ Below w.heap.size w wr2)
      case atStart => exact ⟨0, 0, o, rfl, rfl, by omega, HR.out.row, HOR.out, hbr⟩
      case round =>
        obtain ⟨k, c, o2, rfl, rfl, hfk, hW, ho2, hb2⟩ := hrel
        have HW : Hid (Row a b o i k o2 c) := hW
        have hcb2 : c < 65536 := hW.2.2.1
        have hkb : k ≤ nb + 1 := by have := hW.2.2.2.1; rw [NB.out] at this; exact this
        have OL : Hid (o2.length = na + nb + 1) := by have := hW.1; rw [NA.out, NB.out] at this; exact this
        have hz : o2.getD (i + k) 0 < 65536 := dig_getD hW.2.1 _
        have HO2 : Hid (wr.ownsRow w.heap.size 22 1 (.slice (some ⟨w.heap.size, 0, none⟩) (na + nb + 1) (na + nb + 1)) (na + nb + 1) (u64s o2)) := ho2
        clear hW ho2
        by_cases hk : k < nb
        · have ca := (hb2.cell (p := ⟨ga, i, none⟩) (block_lt_of_cell (CA.out i hlt))).trans (CA.out i hlt)
          have cb := (hb2.cell (p := ⟨gb, k, none⟩) (block_lt_of_cell (CB.out k hk))).trans (CB.out k hk)
          have co := (HO2.out.cellAt (i + k) (by omega)).trans (u64s_at (by rw [OL.out]; omega))
          have fo := HO2.out.frozenAt (i + k)
          have ho3 := HO2.out.stored (i + k) (.int .u64 (((o2.getD (i + k) 0 + c + a.getD i 0 * b.getD k 0) % 65536 : Nat) : Int))
          rw [u64s_set] at ho3
          have HS := HW.out.step DA.out DB.out (by rw [NA.out]; exact hlt) (by rw [NB.out]; exact hk)
          have HS' : Hid (Row a b o i (k + 1) (o2.set (i + k) ((o2.getD (i + k) 0 + c + a.getD i 0 * b.getD k 0) % 65536)) ((o2.getD (i + k) 0 + c + a.getD i 0 * b.getD k 0) / 65536)) := HS
          have H3 : Hid _ := ho3
          have hxy : ((a.getD i 0 : Nat) : Int) * ((b.getD k 0 : Nat) : Int) ≤ 4294836225 := by
            have := mul_dig (dig_getD DA.out i) (dig_getD DB.out k)
            have e : ((a.getD i 0 * b.getD k 0 : Nat) : Int) = ((a.getD i 0 : Nat) : Int) * ((b.getD k 0 : Nat) : Int) := by simp
            omega
          have hxy0 : 0 ≤ ((a.getD i 0 : Nat) : Int) * ((b.getD k 0 : Nat) : Int) := Int.mul_nonneg (by omega) (by omega)
          clear HS ho3 HW
          generalize hx : a.getD i 0 = x at *
          generalize hy : b.getD k 0 = y at *
          generalize hzz : o2.getD (i + k) 0 = z at *
          clear hx hy hzz
          have ik : ((i : Int) + (k : Int)).toNat = i + k := by omega
          go_wp2_with fail
          go_region
          all_goals
            go_wp2
            go_roundg (nb + 1 - k)
            case measure => omega
            case rel =>
              have e1 : ((z : Int) + c + x * y) % 65536 = (((z + c + x * y) % 65536 : Nat) : Int) := by simp
              have e2 : ((z : Int) + c + x * y) / 65536 = (((z + c + x * y) / 65536 : Nat) : Int) := by simp
              rw [e1, e2]
              exact ⟨k + 1, _, _, rfl, by go_num, by omega, HS'.out, H3.out.1, (hb2.grown (grown_drew H3.out.2) hb2.size (by intro q hq; cases hq; exact Nat.le_refl _))⟩
        · by_cases hc : 0 < c
          · have hl := HW.out.last HR.out (by rw [NA.out]; exact hlt) (by rw [NB.out]; exact hk) hc
            have hkk : k = nb := by have := hl.1; rw [NB.out] at this; exact this
            have co := (HO2.out.cellAt (i + k) (by omega)).trans (u64s_at (by rw [OL.out]; omega))
            have fo := HO2.out.frozenAt (i + k)
            have ho3 := HO2.out.stored (i + k) (.int .u64 (((o2.getD (i + k) 0 + c) % 65536 : Nat) : Int))
            rw [u64s_set] at ho3
            have HS' : Hid (Row a b o i (k + 1) (o2.set (i + k) ((o2.getD (i + k) 0 + c) % 65536)) ((o2.getD (i + k) 0 + c) / 65536)) := hl.2
            have H3 : Hid _ := ho3
            have HK : Hid (k = nb) := hkk
            clear hl ho3 HW hkk
            generalize hzz : o2.getD (i + k) 0 = z at *
            clear hzz
            have hk' : decide ((k : Int) < (nb : Int)) = false := by simp; omega
            have ik : ((i : Int) + (k : Int)).toNat = i + k := by omega
            have ikl : i + k < na + nb + 1 := by have := HK.out; omega
            go_wp2
            go_roundg (nb + 1 - k)
            case measure => have := HK.out; omega
            case rel =>
              have e1 : ((z : Int) + c) % 65536 = (((z + c) % 65536 : Nat) : Int) := by simp
              have e2 : ((z : Int) + c) / 65536 = (((z + c) / 65536 : Nat) : Int) := by simp
              rw [e1, e2]
              exact ⟨k + 1, _, _, rfl, by go_num, by have := HK.out; omega, HS'.out, H3.out.1, (hb2.grown H3.out.2 hb2.size (by intro q hq; cases hq; exact Nat.le_refl _))⟩
          · have hd := HW.out.done HR.out (by rw [NA.out]; exact hlt) (by rw [NB.out]; exact hk) hc
            have HD : Hid (Rows a b (i + 1) o2) := hd
            clear hd HW
            have hk' : decide ((k : Int) < (nb : Int)) = false := by simp; omega
            have hc' : decide ((0 : Int) < (c : Int)) = false := by simp; omega
            go_wp2
            go_roundg (na - i)
            case measure => omega
            case rel => exact ⟨i + 1, o2, by go_num, by omega, by omega, HD.out, HO2.out, hb2⟩
    · go_wp2
      go_ret
      have e := HR.out.done (by rw [NA.out]; exact hlt)
      have ol : o.length = na + nb + 1 := by have := HR.out.1; rw [NA.out, NB.out] at this; exact this
      exact ⟨_, o, rfl, Dg.of_own (by rw [ol]; exact HOR.out) (by omega), HR.out.2.1, e, ol, hbr⟩


set_option maxHeartbeats 1000000 in
set_option maxRecDepth 100000 in
theorem above_any (va vb : Value) (a b : List Nat) (w : World) (ha : Dg w va a) (hb : Dg w vb b) (da : ∀ d ∈ a, d < 65536) (db : ∀ d ∈ b, d < 65536) (la : a.length ≤ 40) (lb : b.length ≤ 40) :
    Calls Tryd.prog 88 #[va, vb] w fun e w' => e = .returned (.bool (decide (val b < val a))) ∧ w' = w := by
  have DA : Hid (∀ d ∈ a, d < 65536) := da
  have DB : Hid (∀ d ∈ b, d < 65536) := db
  obtain ⟨ga, ca, rfl, hca, hcam, hcella⟩ := ha
  obtain ⟨gb, cb, rfl, hcb, hcbm, hcellb⟩ := hb
  have CA : Hid (∀ i, i < a.length → w.cell? ⟨ga, i, none⟩ = some (.int .u64 ((a.getD i 0 : Nat) : Int))) := hcella
  have CB : Hid (∀ i, i < b.length → w.cell? ⟨gb, i, none⟩ = some (.int .u64 ((b.getD i 0 : Nat) : Int))) := hcellb
  have zA : Hid (∀ i, ¬ i < a.length → a.getD i 0 = 0) := fun i hi => by simp [List.getD, List.getElem?_eq_none (by omega : a.length ≤ i)]
  have zB : Hid (∀ i, ¬ i < b.length → b.getD i 0 = 0) := fun i hi => by simp [List.getD, List.getElem?_eq_none (by omega : b.length ≤ i)]
  have T0 : Hid (∀ n, a.length ≤ n → b.length ≤ n → Top a b n) := fun n h1 h2 => top_start a b n h1 h2
  clear hcella hcellb da db
  generalize hna : a.length = na at *
  generalize hnb : b.length = nb at *
  clear hna hnb
  go_enter Tryd.func88, Tryd.ntmps88
  go_wp2
  all_goals
    go_loopg [5] (na + nb + 1) (fun f s5 wr => ∃ (i : Nat), s5 = .int .i64 ((i : Int) - 1) ∧ i ≤ na + nb ∧ i < f ∧ Top a b i ∧ wr = w)
    case atStart =>
      first
      | exact ⟨na, rfl, by omega, by omega, T0.out na (by omega) (by omega), rfl⟩
      | exact ⟨nb, rfl, by omega, by omega, T0.out nb (by omega) (by omega), rfl⟩
    case round =>
      obtain ⟨i, rfl, him, hf, hT, rfl⟩ := hrel
      have HT : Hid (Top a b i) := hT
      clear hT T0
      by_cases h0 : 1 ≤ i
      · obtain ⟨j, rfl⟩ : ∃ j, i = j + 1 := ⟨i - 1, by omega⟩
        have ej : ((j + 1 : Nat) : Int) - 1 = (j : Int) := by omega
        rw [ej]
        have bx : a.getD j 0 < 65536 := dig_getD DA.out j
        have by' : b.getD j 0 < 65536 := dig_getD DB.out j
        have ca := CA.out j
        have cb := CB.out j
        have za := zA.out j
        have zb := zB.out j
        have FE : Hid (a.getD j 0 = b.getD j 0 → Top a b j) := fun h => top_step HT.out h
        have FL : Hid (a.getD j 0 < b.getD j 0 → val a < val b) := fun h => top_less HT.out DA.out h
        have FG : Hid (b.getD j 0 < a.getD j 0 → val b < val a) := fun h => top_less (fun k hk => (HT.out k hk).symm) DB.out h
        generalize a.getD j 0 = x at *
        generalize b.getD j 0 = y at *
        clear HT ej
        have fin : Hid (x ≠ y → decide (val b < val a) = decide (y < x)) := by
          intro hne
          by_cases h : x < y
          · have := FL.out h
            rw [decide_eq_false (by omega), decide_eq_false (by omega)]
          · have := FG.out (by omega)
            rw [decide_eq_true (by omega), decide_eq_true (by omega)]
        by_cases hja : j < na
        · have ca' := ca hja
          by_cases hjb : j < nb
          · have cb' := cb hjb
            clear ca cb za zb
            by_cases hne : x = y
            · subst hne
              go_wp2
              go_roundg (j + 1)
              case measure => omega
              case rel => exact ⟨j, rfl, by omega, by omega, FE.out (by trivial), rfl⟩
            · have hne' : ((x : Int) == (y : Int)) = false := by simp; omega
              go_wp2
              all_goals (go_ret; exact ⟨by rw [fin.out hne]; first | rfl | simp, rfl⟩)
          · have hy0 := zb hjb
            subst hy0
            clear ca cb za zb
            by_cases hne : x = 0
            · subst hne
              go_wp2
              go_roundg (j + 1)
              case measure => omega
              case rel => exact ⟨j, rfl, by omega, by omega, FE.out (by trivial), rfl⟩
            · have hne' : ((x : Int) == 0) = false := by simp; omega
              go_wp2
              all_goals (go_ret; exact ⟨by rw [fin.out hne]; first | rfl | simp, rfl⟩)
        · have hx0 := za hja
          subst hx0
          by_cases hjb : j < nb
          · have cb' := cb hjb
            clear ca cb za zb
            by_cases hne : y = 0
            · subst hne
              go_wp2
              go_roundg (j + 1)
              case measure => omega
              case rel => exact ⟨j, rfl, by omega, by omega, FE.out (by trivial), rfl⟩
            · have hne' : ((0 : Int) == (y : Int)) = false := by simp; omega
              go_wp2
              all_goals (go_ret; exact ⟨by rw [fin.out (fun e => hne e.symm)]; first | rfl | simp, rfl⟩)
          · have hy0 := zb hjb
            subst hy0
            clear ca cb za zb
            go_wp2
            go_roundg (j + 1)
            case measure => omega
            case rel => exact ⟨j, rfl, by omega, by omega, FE.out (by trivial), rfl⟩
      · go_wp2
        go_ret
        have : i = 0 := by omega
        subst this
        have := top_done HT.out
        exact ⟨by simp [this], rfl⟩

end Go.Proofs.YtjiipiolckddnaaDoor

/- Small laws for the walks: an operation of a drawn region that is taken first; make as one operation; how a row of cells lies. -/
namespace Go.Proofs.YtjiipiolckddnaaDoor
open Go.RowKit

end Go.Proofs.YtjiipiolckddnaaDoor

/- Walks of the reference's numbers: Prime, root, Start, Turn. -/
namespace Go.Proofs.YtjiipiolckddnaaDoor
open Go.RowKit

theorem cnt_succ (n : Nat) (h2 : 2 ≤ n) : cntPr (n + 1) = cntPr n + if isPr n = true then 1 else 0 := by
  rw [cntPr]
  by_cases h : isPr n = true <;> simp [h, h2]

theorem cnt_mono {a b : Nat} (h : a ≤ b) : cntPr a ≤ cntPr b := by
  induction b with
  | zero => have : a = 0 := by omega
            subst this; exact Nat.le_refl _
  | succ b ih =>
    by_cases e : a = b + 1
    · subst e; exact Nat.le_refl _
    · have := ih (by omega)
      rw [cntPr]; omega

set_option maxHeartbeats 1000000 in
set_option maxRecDepth 100000 in
theorem prime_any (k : Nat) (hk : k < 64) (w : World) :
    Calls Tryd.prog 74 #[.int .i64 k] w fun e w' => e = .returned (.int .u64 ((primeT.getD k 0 : Nat) : Int)) ∧ w' = w := by
  obtain ⟨hp1, hp2, hp3, hp4⟩ := prime_is k hk
  have HAT : Hid (∀ n, n < 312 → 2 ≤ n → isPr n = true → primeT.getD (cntPr n) 0 = n) := prime_at
  generalize hpk : primeT.getD k 0 = p at *
  have HPK : Hid (primeT.getD k 0 = p) := hpk
  clear hpk
  have HP1 : Hid (isPr p = true) := hp1
  have HP2 : Hid (cntPr p = k) := hp2
  clear hp1 hp2
  have c2 : cntPr 2 = 0 := by decide
  have HC2 : Hid (cntPr 2 = 0) := c2
  clear c2
  go_enter Tryd.func74, Tryd.ntmps74
  go_wp2
  go_loopg [0, 3, 4, 5] 312 (fun f s0 s3 _ _ wr => ∃ (j n : Nat), s0 = .int .i64 j ∧ s3 = .int .u64 n ∧ 2 ≤ n ∧ n ≤ p ∧ cntPr n + j = k ∧ p - n < f ∧ wr = w)
  case atStart => exact ⟨k, 2, rfl, rfl, by omega, by omega, by rw [HC2.out]; omega, by omega, rfl⟩
  case round =>
    obtain ⟨j, n, rfl, rfl, hn2, hnp, hcj, hf, rfl⟩ := hrel
    have HCJ : Hid (cntPr n + j = k) := hcj
    clear hcj
    go_wp2
    go_loopg [4, 5] 312 (fun f s4 s5 wr2 => ∃ (d : Nat), s5 = .int .u64 d ∧ s4 = .bool (okTo n d) ∧ 2 ≤ d ∧ d ≤ n ∧ n - d < f ∧ wr2 = wr)
    case atStart => exact ⟨2, rfl, by simp [okTo], by omega, by omega, by omega, rfl⟩
    case round =>
      obtain ⟨d, rfl, rfl, hd2, hdn, hfd, rfl⟩ := hrel
      have HOK : Hid (okTo n (d + 1) = (okTo n d && (n % d != 0))) := by
        show _ = _
        rw [okTo, decide_eq_false (by omega)]; simp
      by_cases hlt : d < n
      · have hd0 : ((d : Int) == 0) = false := by simp; omega
        generalize hb : okTo n d = bb at *
        by_cases hm : n % d = 0
        · have hm' : (n : Int) % (d : Int) = 0 := by omega
          go_wp2
          go_roundg (n - d)
          case measure => omega
          case rel => exact ⟨d + 1, by go_num, by rw [HOK.out]; simp [hm], by omega, by omega, by omega, rfl⟩
        · have hm' : ¬ (n : Int) % (d : Int) = 0 := by omega
          go_wp2
          go_roundg (n - d)
          case measure => omega
          case rel => exact ⟨d + 1, by go_num, by rw [HOK.out]; simp [hm], by omega, by omega, by omega, rfl⟩
      · have e : d = n := by omega
        subst e
        have HI : Hid (isPr d = okTo d d) := rfl
        by_cases hpr : okTo d d = true
        · rw [hpr]
          have HPR : Hid (isPr d = true) := hpr
          clear hpr
          by_cases hj : j = 0
          · subst hj
            go_wp2
            go_ret
            have h1 := HAT.out d (by omega) hn2 HPR.out
            have h2 : cntPr d = k := HCJ.out
            rw [h2, HPK.out] at h1
            exact ⟨by rw [h1]; rfl, rfl⟩
          · have hj' : ((j : Int) == 0) = false := by simp; omega
            have hne : d ≠ p := fun e => by have h1 := HP2.out; have h2 := HCJ.out; rw [e] at h2; omega
            have hj64 : j < 64 := by have h2 := HCJ.out; omega
            have hj1 : 1 ≤ j := by omega
            have hs := cnt_succ d hn2
            rw [if_pos HPR.out] at hs
            have HS : Hid (cntPr (d + 1) = cntPr d + 1) := hs
            clear hs
            go_wp2
            go_roundg (p - d)
            case measure => omega
            case rel => exact ⟨j - 1, d + 1, by first | go_num | (congr 1; omega), by go_num, by omega, by omega, by have h1 := HS.out; have h2 := HCJ.out; omega, by omega, rfl⟩
        · have hf' : okTo d d = false := by simpa using hpr
          rw [hf']
          have hne : d ≠ p := fun e => by have h1 := HP1.out; rw [← e] at h1; exact hpr h1
          have hs := cnt_succ d hn2
          rw [if_neg (show ¬ isPr d = true from hpr)] at hs
          have HS : Hid (cntPr (d + 1) = cntPr d + 0) := hs
          clear hs hpr hf'
          go_wp2
          go_roundg (p - d)
          case measure => omega
          case rel => exact ⟨j, d + 1, rfl, by go_num, by omega, by omega, by have h1 := HS.out; have h2 := HCJ.out; omega, by omega, rfl⟩


theorem digits_int (x : Int) (h0 : 0 ≤ x) (h1 : x < 18446744073709551616) (w : World) :
    Calls Tryd.prog 86 #[.int .u64 x] w fun e w' => ∃ v, e = .returned v ∧ Dg w' v (digitsF x.toNat) ∧ Below w.heap.size w w' := by
  obtain ⟨n, rfl⟩ := Int.eq_ofNat_of_zero_le h0
  exact digits_any n (by omega) w

theorem val_most (n s : Nat) (hn : n < 18446744073709551616) : val (List.replicate s 0 ++ digitsF n) = n * 65536 ^ s := by
  rw [val_append, val_replicate, val_digitsF n hn, List.length_replicate, Nat.zero_add, Nat.mul_comm]

theorem most_lt (n s : Nat) : ∀ d ∈ List.replicate s 0 ++ digitsF n, d < 65536 := by
  intro d hd
  rcases List.mem_append.1 hd with h | h
  · rw [List.eq_of_mem_replicate h]; omega
  · exact digitsF_lt n d h

theorem Dg.news {w : World} {g cap n : Nat} {l : List Nat} (h : Dg w (.slice (some ⟨g, 0, none⟩) n cap) l) : n = l.length ∧ ∀ j u, (u64s l)[j]? = some u → w.cell? ((⟨g, 0, none⟩ : Addr).add j) = some u := by
  obtain ⟨g', cap', he, _, _, hc⟩ := h
  cases he
  refine ⟨rfl, fun j u hj => ?_⟩
  have hjn : j < l.length := by
    have := (List.getElem?_eq_some_iff.1 hj).1
    simpa [u64s_length] using this
  have h1 := hc j hjn
  rw [u64s_at hjn] at hj
  cases hj
  rw [show (⟨g, 0, none⟩ : Addr).add j = ⟨g, j, none⟩ by unfold Addr.add; split <;> simp_all]
  exact h1

theorem one_u64s (l : List Nat) : ∀ u ∈ u64s l, u.oneCell' = true := by
  intro u hu
  obtain ⟨x, _, rfl⟩ := List.mem_map.1 hu
  rfl

theorem Dg.most {w : World} {B s n : Nat} {v : Value} (h : w.ownsRow B 22 1 v (s + 4) (u64s (List.replicate s 0) ++ u64s (digitsF n))) : Dg w v (List.replicate s 0 ++ digitsF n) := by
  have e1 : (List.replicate s 0 ++ digitsF n).length = s + 4 := by simp [digitsF]
  have e2 : u64s (List.replicate s 0 ++ digitsF n) = u64s (List.replicate s 0) ++ u64s (digitsF n) := by simp [u64s]
  exact Dg.of_own (B := B) (by rw [e1, e2]; exact h) (by rw [e1]; omega)

theorem made_u64 (n : Nat) : (madeCells (Value.cells (.int .u64 0)) (n * 1)).toList = u64s (List.replicate n 0) := by
  rw [Nat.mul_one]
  show (madeCells #[Value.int .u64 0] n).toList = _
  rw [toList_madeCells_one]; simp [u64s]

set_option maxHeartbeats 2000000 in
set_option maxRecDepth 100000 in
theorem root_two (n : Nat) (hn : n < 1000) (w : World) :
    Calls Tryd.prog 73 #[.int .u64 n, .bool false] w fun e w' => e = .returned (.int .u64 ((rootF 2 n 40 0 : Nat) : Int)) ∧ Below w.heap.size w w' := by
  obtain ⟨i0, hi, hz0, hz1, hz2⟩ := info_parts infoU64
  go_enter Tryd.func73, Tryd.ntmps73
  go_upto_region 4 with fail
  go_cut [6] (fun s6 wc => ∃ v, v = s6 ∧ Dg wc v (List.replicate 4 0 ++ digitsF n) ∧ Below w.heap.size w wc)
  case first =>
    refine wp_region_any (by kernel_rfl) ?_
    try (change wpAny _ _ _ _ _ _ _ (World.drew _))
    refine take_dst (i := 0) (d := 12) (v := ?_) rfl rfl (by kernel_rfl) (by kernel_rfl) (by kernel_rfl) (fun _ _ _ h => h) (by rfl) ?_ ?_
    rotate_left
    · intro wZ; go_simp; first | (with_reducible rfl) | (rw [if_pos (by omega)]; with_reducible rfl) | skip
    try simp only [Act.put, List.setIfInBounds_toArray, List.set_cons_zero, List.set_cons_succ]
    refine take_dst (i := 2) (d := 14) (v := ?_) rfl rfl (by kernel_rfl) (by kernel_rfl) (by kernel_rfl) (fun _ _ _ h => h) (by rfl) ?_ ?_
    rotate_left
    · intro wZ; go_simp; first | (with_reducible rfl) | (rw [if_pos (by omega)]; with_reducible rfl) | skip
    try simp only [Act.put, List.setIfInBounds_toArray, List.set_cons_zero, List.set_cons_succ]
    refine wpAny_ready (rs := [1, 3]) (by kernel_rfl) (by simp) ?_
    refine (AllReady.cons rfl (fun K hK => ?_) (AllReady.cons rfl (fun K hK => ?_) AllReady.nil))
    focus
      refine wp_make_full _ (d := 13) rfl (.tmp 12) (.tmp 12) 123 rfl w.heap.size 22 i0 (.int .u64 0) 1 Tryd.underlying123 hi hz0 hz1 .i64 .i64 4 4 4 rfl rfl rfl rfl (by rw [hz2]; omega) (by unfold maxLen; omega) (Nat.le_refl _) ?_; intro w1 hown hgrow; rw [made_u64] at hown; have HOW := hide hown; have HBW : Hid (Below w.heap.size w w1) := (Below.refl _ w).drew.grown hgrow (Nat.le_refl _) (by intro k hk; cases hk); clear hown hgrow
      first | (refine hK _ _ ?_; clear hK K) | (clear hK K) | skip
      try simp only [Act.put, List.setIfInBounds_toArray, List.set_cons_zero, List.set_cons_succ]
      refine wpAny_ready (rs := [3]) (by kernel_rfl) (by simp) ?_
      refine (AllReady.cons rfl (fun K hK => ?_) AllReady.nil)
      go_simp
      go_wp2_with ((go_at_call 86; refine (digits_any n (by omega) _).mono ?_; rintro e w2 ⟨v2, rfl, hd2, hb2⟩; have HDQ := hide hd2; have HOQ := hide (own_below HOW.out hb2); have HBQ : Hid (Below w.heap.size w w2) := HBW.out.trans (hb2.mono HBW.out.size); clear hd2 hb2))
      first | (refine hK _ _ ?_; clear hK K) | (clear hK K) | skip
      try simp only [Act.put, List.setIfInBounds_toArray, List.set_cons_zero, List.set_cons_succ]
      refine wpAny_ready (rs := [4]) (by kernel_rfl) (by simp) ?_
      refine (AllReady.cons rfl (fun K hK => ?_) AllReady.nil)
      obtain ⟨gq, cq, hvq, _, _⟩ := HDQ.out; subst hvq; refine wp_append_dst _ (d := 16) rfl (.tmp 13) (.tmp 15) 123 rfl w.heap.size 22 i0 (.int .u64 0) 1 8 Tryd.underlying123 hi hz0 hz1 hz2 rfl (by decide) _ 4 (u64s (List.replicate 4 0)) rfl HOQ.out ⟨gq, 0, none⟩ 4 cq (u64s (digitsF n)) rfl rfl (Dg.news HDQ.out).2 (one_u64s _) (by unfold maxLen; omega) (by omega) HBQ.out.size ?_; intro v6 w6 hown6 hgrow6; have HDG := hide (Dg.most hown6); have HB6 : Hid (Below w.heap.size w w6) := HBQ.out.grown hgrow6 HBQ.out.size (by intro k hk; exact (HOQ.out.lt k hk).1); clear hown6 hgrow6
      first | (refine hK _ _ ?_; clear hK K) | (clear hK K) | skip
      try simp only [Act.put, List.setIfInBounds_toArray, List.set_cons_zero, List.set_cons_succ]
      refine take_dst (i := 5) (d := 6) (v := ?_) rfl rfl (by kernel_rfl) (by kernel_rfl) (by kernel_rfl) (fun _ _ _ h => h) (by rfl) ?_ ?_
      rotate_left
      · intro wZ; go_simp; first | (with_reducible rfl) | (rw [if_pos (by omega)]; with_reducible rfl) | skip
      try simp only [Act.put, List.setIfInBounds_toArray, List.set_cons_zero, List.set_cons_succ]
      refine wpAny_done (by kernel_rfl) ?_ _
    rotate_left 1
    focus
      go_simp
      go_wp2_with ((go_at_call 86; refine (digits_any n (by omega) _).mono ?_; rintro e w2 ⟨v2, rfl, hd2, hb2⟩; have HD1 := hide hd2; have HBW : Hid (Below w.heap.size w w2) := (Below.refl _ w).drew.trans hb2; clear hd2 hb2))
      first | (refine hK _ _ ?_; clear hK K) | (clear hK K) | skip
      try simp only [Act.put, List.setIfInBounds_toArray, List.set_cons_zero, List.set_cons_succ]
      refine wpAny_ready (rs := [1]) (by kernel_rfl) (by simp) ?_
      refine (AllReady.cons rfl (fun K hK => ?_) AllReady.nil)
      refine wp_make_full _ (d := 13) rfl (.tmp 12) (.tmp 12) 123 rfl w.heap.size 22 i0 (.int .u64 0) 1 Tryd.underlying123 hi hz0 hz1 .i64 .i64 4 4 4 rfl rfl rfl rfl (by rw [hz2]; omega) (by unfold maxLen; omega) HBW.out.size ?_; intro w1 hown hgrow; rw [made_u64] at hown; have HOQ := hide hown; have HDQ := hide (HD1.out.kept (grown_below hgrow (Nat.le_refl _) (by intro k hk; cases hk))); have HBQ : Hid (Below w.heap.size w w1) := HBW.out.grown hgrow HBW.out.size (by intro k hk; cases hk); clear hown hgrow
      first | (refine hK _ _ ?_; clear hK K) | (clear hK K) | skip
      try simp only [Act.put, List.setIfInBounds_toArray, List.set_cons_zero, List.set_cons_succ]
      refine wpAny_ready (rs := [4]) (by kernel_rfl) (by simp) ?_
      refine (AllReady.cons rfl (fun K hK => ?_) AllReady.nil)
      obtain ⟨gq, cq, hvq, _, _⟩ := HDQ.out; subst hvq; refine wp_append_dst _ (d := 16) rfl (.tmp 13) (.tmp 15) 123 rfl w.heap.size 22 i0 (.int .u64 0) 1 8 Tryd.underlying123 hi hz0 hz1 hz2 rfl (by decide) _ 4 (u64s (List.replicate 4 0)) rfl HOQ.out ⟨gq, 0, none⟩ 4 cq (u64s (digitsF n)) rfl rfl (Dg.news HDQ.out).2 (one_u64s _) (by unfold maxLen; omega) (by omega) HBQ.out.size ?_; intro v6 w6 hown6 hgrow6; have HDG := hide (Dg.most hown6); have HB6 : Hid (Below w.heap.size w w6) := HBQ.out.grown hgrow6 HBQ.out.size (by intro k hk; exact (HOQ.out.lt k hk).1); clear hown6 hgrow6
      first | (refine hK _ _ ?_; clear hK K) | (clear hK K) | skip
      try simp only [Act.put, List.setIfInBounds_toArray, List.set_cons_zero, List.set_cons_succ]
      refine take_dst (i := 5) (d := 6) (v := ?_) rfl rfl (by kernel_rfl) (by kernel_rfl) (by kernel_rfl) (fun _ _ _ h => h) (by rfl) ?_ ?_
      rotate_left
      · intro wZ; go_simp; first | (with_reducible rfl) | (rw [if_pos (by omega)]; with_reducible rfl) | skip
      try simp only [Act.put, List.setIfInBounds_toArray, List.set_cons_zero, List.set_cons_succ]
      refine wpAny_done (by kernel_rfl) ?_ _
    all_goals
      go_wp2_with fail
      go_meet
      case rel => exact ⟨_, rfl, HDG.out, HB6.out⟩
  case rest =>
    obtain ⟨v6, rfl, hd6, hb6⟩ := hcut
    have HD : Hid (Dg wc v6 (List.replicate 4 0 ++ digitsF n)) := hd6
    clear hd6
    go_wp2
    go_loopg [7, 8] 41 (fun f s7 s8 wr => ∃ (b r : Nat), s7 = .int .u64 r ∧ s8 = .int .i64 ((b : Int) - 1) ∧ b ≤ 40 ∧ b < f ∧ r + 2 ^ b ≤ 1099511627776 ∧ rootF 2 n b r = rootF 2 n 40 0 ∧ Dg wr v6 (List.replicate 4 0 ++ digitsF n) ∧ Below w.heap.size w wr)
    case atStart => exact ⟨40, 0, rfl, rfl, by omega, by omega, by omega, rfl, HD.out, hb6⟩
    case round =>
      clear HD hb6
      obtain ⟨b, r, rfl, rfl, hb40, hf, hr, hroot, hd, hbr⟩ := hrel
      have HD : Hid (Dg wr v6 (List.replicate 4 0 ++ digitsF n)) := hd
      have HRT : Hid (rootF 2 n b r = rootF 2 n 40 0) := hroot
      clear hd hroot
      by_cases h0 : 1 ≤ b
      · obtain ⟨c, rfl⟩ : ∃ c, b = c + 1 := ⟨b - 1, by omega⟩
        have ec : ((c + 1 : Nat) : Int) - 1 = (c : Int) := by omega
        rw [ec]
        have hp1 : 1 ≤ 2 ^ c := Nat.pos_of_ne_zero (by simp)
        rw [Nat.pow_succ] at hr
        have hstep : rootF 2 n (c + 1) r = rootF 2 n c (if (r + 2 ^ c) ^ 2 ≤ n * 2 ^ (32 * 2) then r + 2 ^ c else r) := rfl
        have HST := hide hstep
        clear hstep
        have hpz : (2 : Int) ^ c = ((2 ^ c : Nat) : Int) := by simp
        generalize hP : 2 ^ c = P at *
        have HPE : Hid (2 ^ c = P) := hP
        clear hP
        have hPi : ((r : Int) + (P : Int)).toNat = r + P := by omega
        go_wp2_with fail
        refine (digits_int _ (by omega) (by omega) _).mono ?_
        rintro e w1 ⟨vx, rfl, hx, hb1⟩
        rw [hPi] at hx
        have HX1 := hide hx
        have HD1 := hide (HD.out.kept hb1)
        have HB1 : Hid (Below w.heap.size w w1) := hbr.trans (hb1.mono hbr.size)
        clear hx hb1 HD
        go_wp2_with fail
        refine (s_times_any vx vx _ _ _ HX1.out HX1.out (digitsF_lt _) (digitsF_lt _) (by simp [digitsF]) (by simp [digitsF])).mono ?_
        rintro e w2 ⟨vy, oy, rfl, hy, hyd, hyv, hyl, hb2⟩
        have HX2 := hide (HX1.out.kept hb2)
        have HD2 := hide (HD1.out.kept hb2)
        have HY2 := hide hy
        have HYD := hide hyd
        have HYL : Hid (oy.length = 9) := hyl
        have HYV : Hid (val oy = (r + P) * (r + P)) := by
          show _ = _
          rw [hyv, val_digitsF _ (by omega)]
        have HB2 : Hid (Below w.heap.size w w2) := HB1.out.trans (hb2.mono HB1.out.size)
        clear hy hyd hyv hyl hb2 HX1 HD1 HB1
        go_wp2_with fail
        have HYE := HY2
        have HDE := HD2
        have HYDE := HYD
        have HYLE := HYL
        have HBE := HB2
        have HYVE : Hid (val oy = (r + P) ^ 2) := by show _ = _; rw [HYV.out, Nat.pow_two]
        clear HY2 HD2 HYD HYL HB2 HYV
        refine (above_any vy v6 _ _ _ HYE.out HDE.out HYDE.out (most_lt n 4) (by rw [HYLE.out]; omega) (by simp [digitsF])).mono ?_
        rintro e w4 ⟨rfl, hw4⟩
        subst hw4
        have hval : (decide (val (List.replicate 4 0 ++ digitsF n) < val oy)) = !(decide ((r + P) ^ 2 ≤ n * 2 ^ (32 * 2))) := by
          rw [val_most n 4 (by omega), HYVE.out, ← decide_not]
          exact decide_eq_decide.2 (by rw [Nat.not_le])
        rw [hval]
        by_cases hle : (r + P) ^ 2 ≤ n * 2 ^ (32 * 2)
        · have hs := HST.out
          rw [if_pos hle, HRT.out] at hs
          have HS := hide hs.symm
          rw [decide_eq_true hle]
          clear hs hval hle
          go_wp2
          go_roundg (c + 1)
          case measure => omega
          case rel => exact ⟨c, r + P, by go_num, rfl, by omega, by omega, by rw [HPE.out]; omega, HS.out, HDE.out, HBE.out⟩
        · have hs := HST.out
          rw [if_neg hle, HRT.out] at hs
          have HS := hide hs.symm
          rw [decide_eq_false hle]
          clear hs hval hle
          go_wp2
          go_roundg (c + 1)
          case measure => omega
          case rel => exact ⟨c, r, rfl, rfl, by omega, by omega, by rw [HPE.out]; omega, HS.out, HDE.out, HBE.out⟩
      · have e : b = 0 := by omega
        subst e
        go_wp2
        go_ret
        have h1 := HRT.out
        exact ⟨by rw [← h1]; rfl, hbr⟩

set_option maxHeartbeats 2000000 in
set_option maxRecDepth 100000 in
theorem root_three (n : Nat) (hn : n < 1000) (w : World) :
    Calls Tryd.prog 73 #[.int .u64 n, .bool true] w fun e w' => e = .returned (.int .u64 ((rootF 3 n 40 0 : Nat) : Int)) ∧ Below w.heap.size w w' := by
  obtain ⟨i0, hi, hz0, hz1, hz2⟩ := info_parts infoU64
  go_enter Tryd.func73, Tryd.ntmps73
  go_upto_region 4 with fail
  go_cut [6] (fun s6 wc => ∃ v, v = s6 ∧ Dg wc v (List.replicate 6 0 ++ digitsF n) ∧ Below w.heap.size w wc)
  case first =>
    refine wp_region_any (by kernel_rfl) ?_
    try (change wpAny _ _ _ _ _ _ _ (World.drew _))
    refine take_dst (i := 0) (d := 12) (v := ?_) rfl rfl (by kernel_rfl) (by kernel_rfl) (by kernel_rfl) (fun _ _ _ h => h) (by rfl) ?_ ?_
    rotate_left
    · intro wZ; go_simp; first | (with_reducible rfl) | (rw [if_pos (by omega)]; with_reducible rfl) | skip
    try simp only [Act.put, List.setIfInBounds_toArray, List.set_cons_zero, List.set_cons_succ]
    refine take_dst (i := 2) (d := 14) (v := ?_) rfl rfl (by kernel_rfl) (by kernel_rfl) (by kernel_rfl) (fun _ _ _ h => h) (by rfl) ?_ ?_
    rotate_left
    · intro wZ; go_simp; first | (with_reducible rfl) | (rw [if_pos (by omega)]; with_reducible rfl) | skip
    try simp only [Act.put, List.setIfInBounds_toArray, List.set_cons_zero, List.set_cons_succ]
    refine wpAny_ready (rs := [1, 3]) (by kernel_rfl) (by simp) ?_
    refine (AllReady.cons rfl (fun K hK => ?_) (AllReady.cons rfl (fun K hK => ?_) AllReady.nil))
    focus
      refine wp_make_full _ (d := 13) rfl (.tmp 12) (.tmp 12) 123 rfl w.heap.size 22 i0 (.int .u64 0) 1 Tryd.underlying123 hi hz0 hz1 .i64 .i64 6 6 6 rfl rfl rfl rfl (by rw [hz2]; omega) (by unfold maxLen; omega) (Nat.le_refl _) ?_; intro w1 hown hgrow; rw [made_u64] at hown; have HOW := hide hown; have HBW : Hid (Below w.heap.size w w1) := (Below.refl _ w).drew.grown hgrow (Nat.le_refl _) (by intro k hk; cases hk); clear hown hgrow
      first | (refine hK _ _ ?_; clear hK K) | (clear hK K) | skip
      try simp only [Act.put, List.setIfInBounds_toArray, List.set_cons_zero, List.set_cons_succ]
      refine wpAny_ready (rs := [3]) (by kernel_rfl) (by simp) ?_
      refine (AllReady.cons rfl (fun K hK => ?_) AllReady.nil)
      go_simp
      go_wp2_with ((go_at_call 86; refine (digits_any n (by omega) _).mono ?_; rintro e w2 ⟨v2, rfl, hd2, hb2⟩; have HDQ := hide hd2; have HOQ := hide (own_below HOW.out hb2); have HBQ : Hid (Below w.heap.size w w2) := HBW.out.trans (hb2.mono HBW.out.size); clear hd2 hb2))
      first | (refine hK _ _ ?_; clear hK K) | (clear hK K) | skip
      try simp only [Act.put, List.setIfInBounds_toArray, List.set_cons_zero, List.set_cons_succ]
      refine wpAny_ready (rs := [4]) (by kernel_rfl) (by simp) ?_
      refine (AllReady.cons rfl (fun K hK => ?_) AllReady.nil)
      obtain ⟨gq, cq, hvq, _, _⟩ := HDQ.out; subst hvq; refine wp_append_dst _ (d := 16) rfl (.tmp 13) (.tmp 15) 123 rfl w.heap.size 22 i0 (.int .u64 0) 1 8 Tryd.underlying123 hi hz0 hz1 hz2 rfl (by decide) _ 6 (u64s (List.replicate 6 0)) rfl HOQ.out ⟨gq, 0, none⟩ 4 cq (u64s (digitsF n)) rfl rfl (Dg.news HDQ.out).2 (one_u64s _) (by unfold maxLen; omega) (by omega) HBQ.out.size ?_; intro v6 w6 hown6 hgrow6; have HDG := hide (Dg.most hown6); have HB6 : Hid (Below w.heap.size w w6) := HBQ.out.grown hgrow6 HBQ.out.size (by intro k hk; exact (HOQ.out.lt k hk).1); clear hown6 hgrow6
      first | (refine hK _ _ ?_; clear hK K) | (clear hK K) | skip
      try simp only [Act.put, List.setIfInBounds_toArray, List.set_cons_zero, List.set_cons_succ]
      refine take_dst (i := 5) (d := 6) (v := ?_) rfl rfl (by kernel_rfl) (by kernel_rfl) (by kernel_rfl) (fun _ _ _ h => h) (by rfl) ?_ ?_
      rotate_left
      · intro wZ; go_simp; first | (with_reducible rfl) | (rw [if_pos (by omega)]; with_reducible rfl) | skip
      try simp only [Act.put, List.setIfInBounds_toArray, List.set_cons_zero, List.set_cons_succ]
      refine wpAny_done (by kernel_rfl) ?_ _
    rotate_left 1
    focus
      go_simp
      go_wp2_with ((go_at_call 86; refine (digits_any n (by omega) _).mono ?_; rintro e w2 ⟨v2, rfl, hd2, hb2⟩; have HD1 := hide hd2; have HBW : Hid (Below w.heap.size w w2) := (Below.refl _ w).drew.trans hb2; clear hd2 hb2))
      first | (refine hK _ _ ?_; clear hK K) | (clear hK K) | skip
      try simp only [Act.put, List.setIfInBounds_toArray, List.set_cons_zero, List.set_cons_succ]
      refine wpAny_ready (rs := [1]) (by kernel_rfl) (by simp) ?_
      refine (AllReady.cons rfl (fun K hK => ?_) AllReady.nil)
      refine wp_make_full _ (d := 13) rfl (.tmp 12) (.tmp 12) 123 rfl w.heap.size 22 i0 (.int .u64 0) 1 Tryd.underlying123 hi hz0 hz1 .i64 .i64 6 6 6 rfl rfl rfl rfl (by rw [hz2]; omega) (by unfold maxLen; omega) HBW.out.size ?_; intro w1 hown hgrow; rw [made_u64] at hown; have HOQ := hide hown; have HDQ := hide (HD1.out.kept (grown_below hgrow (Nat.le_refl _) (by intro k hk; cases hk))); have HBQ : Hid (Below w.heap.size w w1) := HBW.out.grown hgrow HBW.out.size (by intro k hk; cases hk); clear hown hgrow
      first | (refine hK _ _ ?_; clear hK K) | (clear hK K) | skip
      try simp only [Act.put, List.setIfInBounds_toArray, List.set_cons_zero, List.set_cons_succ]
      refine wpAny_ready (rs := [4]) (by kernel_rfl) (by simp) ?_
      refine (AllReady.cons rfl (fun K hK => ?_) AllReady.nil)
      obtain ⟨gq, cq, hvq, _, _⟩ := HDQ.out; subst hvq; refine wp_append_dst _ (d := 16) rfl (.tmp 13) (.tmp 15) 123 rfl w.heap.size 22 i0 (.int .u64 0) 1 8 Tryd.underlying123 hi hz0 hz1 hz2 rfl (by decide) _ 6 (u64s (List.replicate 6 0)) rfl HOQ.out ⟨gq, 0, none⟩ 4 cq (u64s (digitsF n)) rfl rfl (Dg.news HDQ.out).2 (one_u64s _) (by unfold maxLen; omega) (by omega) HBQ.out.size ?_; intro v6 w6 hown6 hgrow6; have HDG := hide (Dg.most hown6); have HB6 : Hid (Below w.heap.size w w6) := HBQ.out.grown hgrow6 HBQ.out.size (by intro k hk; exact (HOQ.out.lt k hk).1); clear hown6 hgrow6
      first | (refine hK _ _ ?_; clear hK K) | (clear hK K) | skip
      try simp only [Act.put, List.setIfInBounds_toArray, List.set_cons_zero, List.set_cons_succ]
      refine take_dst (i := 5) (d := 6) (v := ?_) rfl rfl (by kernel_rfl) (by kernel_rfl) (by kernel_rfl) (fun _ _ _ h => h) (by rfl) ?_ ?_
      rotate_left
      · intro wZ; go_simp; first | (with_reducible rfl) | (rw [if_pos (by omega)]; with_reducible rfl) | skip
      try simp only [Act.put, List.setIfInBounds_toArray, List.set_cons_zero, List.set_cons_succ]
      refine wpAny_done (by kernel_rfl) ?_ _
    all_goals
      go_wp2_with fail
      go_meet
      case rel => exact ⟨_, rfl, HDG.out, HB6.out⟩
  case rest =>
    obtain ⟨v6, rfl, hd6, hb6⟩ := hcut
    have HD : Hid (Dg wc v6 (List.replicate 6 0 ++ digitsF n)) := hd6
    clear hd6
    go_wp2
    go_loopg [7, 8] 41 (fun f s7 s8 wr => ∃ (b r : Nat), s7 = .int .u64 r ∧ s8 = .int .i64 ((b : Int) - 1) ∧ b ≤ 40 ∧ b < f ∧ r + 2 ^ b ≤ 1099511627776 ∧ rootF 3 n b r = rootF 3 n 40 0 ∧ Dg wr v6 (List.replicate 6 0 ++ digitsF n) ∧ Below w.heap.size w wr)
    case atStart => exact ⟨40, 0, rfl, rfl, by omega, by omega, by omega, rfl, HD.out, hb6⟩
    case round =>
      clear HD hb6
      obtain ⟨b, r, rfl, rfl, hb40, hf, hr, hroot, hd, hbr⟩ := hrel
      have HD : Hid (Dg wr v6 (List.replicate 6 0 ++ digitsF n)) := hd
      have HRT : Hid (rootF 3 n b r = rootF 3 n 40 0) := hroot
      clear hd hroot
      by_cases h0 : 1 ≤ b
      · obtain ⟨c, rfl⟩ : ∃ c, b = c + 1 := ⟨b - 1, by omega⟩
        have ec : ((c + 1 : Nat) : Int) - 1 = (c : Int) := by omega
        rw [ec]
        have hp1 : 1 ≤ 2 ^ c := Nat.pos_of_ne_zero (by simp)
        rw [Nat.pow_succ] at hr
        have hstep : rootF 3 n (c + 1) r = rootF 3 n c (if (r + 2 ^ c) ^ 3 ≤ n * 2 ^ (32 * 3) then r + 2 ^ c else r) := rfl
        have HST := hide hstep
        clear hstep
        have hpz : (2 : Int) ^ c = ((2 ^ c : Nat) : Int) := by simp
        generalize hP : 2 ^ c = P at *
        have HPE : Hid (2 ^ c = P) := hP
        clear hP
        have hPi : ((r : Int) + (P : Int)).toNat = r + P := by omega
        go_wp2_with fail
        refine (digits_int _ (by omega) (by omega) _).mono ?_
        rintro e w1 ⟨vx, rfl, hx, hb1⟩
        rw [hPi] at hx
        have HX1 := hide hx
        have HD1 := hide (HD.out.kept hb1)
        have HB1 : Hid (Below w.heap.size w w1) := hbr.trans (hb1.mono hbr.size)
        clear hx hb1 HD
        go_wp2_with fail
        refine (s_times_any vx vx _ _ _ HX1.out HX1.out (digitsF_lt _) (digitsF_lt _) (by simp [digitsF]) (by simp [digitsF])).mono ?_
        rintro e w2 ⟨vy, oy, rfl, hy, hyd, hyv, hyl, hb2⟩
        have HX2 := hide (HX1.out.kept hb2)
        have HD2 := hide (HD1.out.kept hb2)
        have HY2 := hide hy
        have HYD := hide hyd
        have HYL : Hid (oy.length = 9) := hyl
        have HYV : Hid (val oy = (r + P) * (r + P)) := by
          show _ = _
          rw [hyv, val_digitsF _ (by omega)]
        have HB2 : Hid (Below w.heap.size w w2) := HB1.out.trans (hb2.mono HB1.out.size)
        clear hy hyd hyv hyl hb2 HX1 HD1 HB1
        go_wp2_with fail
        refine (s_times_any vy vx _ _ _ HY2.out HX2.out HYD.out (digitsF_lt _) (by rw [HYL.out]; omega) (by simp [digitsF])).mono ?_
        rintro e w3 ⟨vz, oz, rfl, hz, hzd, hzv, hzl, hb3⟩
        have HDE := hide (HD2.out.kept hb3)
        have HYE := hide hz
        have HYDE := hide hzd
        have HYLE : Hid (oz.length = 14) := by show _ = _; rw [hzl, HYL.out]; rfl
        have HYVE : Hid (val oz = (r + P) ^ 3) := by
          show _ = _
          rw [hzv, HYV.out, val_digitsF _ (by omega), Nat.pow_succ, Nat.pow_two]
        have HBE : Hid (Below w.heap.size w w3) := HB2.out.trans (hb3.mono HB2.out.size)
        clear hz hzd hzv hzl hb3 HX2 HD2 HY2 HYD HYL HYV HB2
        go_wp2_with fail
        refine (above_any vz v6 _ _ _ HYE.out HDE.out HYDE.out (most_lt n 6) (by rw [HYLE.out]; omega) (by simp [digitsF])).mono ?_
        rintro e w4 ⟨rfl, hw4⟩
        subst hw4
        have hval : (decide (val (List.replicate 6 0 ++ digitsF n) < val oz)) = !(decide ((r + P) ^ 3 ≤ n * 2 ^ (32 * 3))) := by
          rw [val_most n 6 (by omega), HYVE.out, ← decide_not]
          exact decide_eq_decide.2 (by rw [Nat.not_le])
        rw [hval]
        by_cases hle : (r + P) ^ 3 ≤ n * 2 ^ (32 * 3)
        · have hs := HST.out
          rw [if_pos hle, HRT.out] at hs
          have HS := hide hs.symm
          rw [decide_eq_true hle]
          clear hs hval hle
          go_wp2
          go_roundg (c + 1)
          case measure => omega
          case rel => exact ⟨c, r + P, by go_num, rfl, by omega, by omega, by rw [HPE.out]; omega, HS.out, HDE.out, HBE.out⟩
        · have hs := HST.out
          rw [if_neg hle, HRT.out] at hs
          have HS := hide hs.symm
          rw [decide_eq_false hle]
          clear hs hval hle
          go_wp2
          go_roundg (c + 1)
          case measure => omega
          case rel => exact ⟨c, r, rfl, rfl, by omega, by omega, by rw [HPE.out]; omega, HS.out, HDE.out, HBE.out⟩
      · have e : b = 0 := by omega
        subst e
        go_wp2
        go_ret
        have h1 := HRT.out
        exact ⟨by rw [← h1]; rfl, hbr⟩

end Go.Proofs.YtjiipiolckddnaaDoor

/- Walks: the words from which a digest begins and those of a block's turns: the reference's Start, Turn, Turns and the program's Start, Turn. -/
namespace Go.Proofs.YtjiipiolckddnaaDoor
open Go.RowKit

def u32s (l : List Nat) : List Value := l.map fun d => Value.int .u32 ((d : Nat) : Int)
theorem u32s_length (l : List Nat) : (u32s l).length = l.length := by simp [u32s]
theorem u32s_at {l : List Nat} {i : Nat} (h : i < l.length) : (u32s l)[i]? = some (.int .u32 ((l.getD i 0 : Nat) : Int)) := by simp [u32s, List.getD, h]
theorem u32s_set (l : List Nat) (i x : Nat) : (u32s l).set i (.int .u32 ((x : Nat) : Int)) = u32s (l.set i x) := by simp [u32s, List.map_set]

/-- the program's two tables, as its text lays them -/
def Laid (w : World) : Prop := w.rangeAt 0 0 (u32s startT) ∧ w.rangeAt 1 0 (u32s turnT)

theorem Laid.start {w : World} (h : Laid w) {k : Nat} (hk : k < 8) : w.cell? ⟨0, k, none⟩ = some (.int .u32 ((startT.getD k 0 : Nat) : Int)) := by
  have := h.1 k _ (u32s_at (l := startT) (by exact hk))
  simpa using this
theorem Laid.turn {w : World} (h : Laid w) {k : Nat} (hk : k < 64) : w.cell? ⟨1, k, none⟩ = some (.int .u32 ((turnT.getD k 0 : Nat) : Int)) := by
  have := h.2 k _ (u32s_at (l := turnT) (by exact hk))
  simpa using this
theorem Laid.size {w : World} (h : Laid w) : 2 ≤ w.heap.size := by
  have := block_lt_of_cell (h.turn (k := 0) (by omega))
  exact this
theorem range_kept {w w' : World} {b o : Nat} {cs : List Value} (h : w.rangeAt b o cs) (hb : Below w.heap.size w w') : w'.rangeAt b o cs := fun j v hv => by
  have := h j v hv
  exact (hb.cell (block_lt_of_cell this)).trans this
theorem Laid.kept {w w' : World} (h : Laid w) (hb : Below w.heap.size w w') : Laid w' := ⟨range_kept h.1 hb, range_kept h.2 hb⟩
theorem Laid.keptB {B : Nat} {w w' : World} (h : Laid w) (hB : 2 ≤ B) (hb : Below B w w') : Laid w' :=
  ⟨fun j v hv => (hb.cell (p := ⟨0, 0 + j, none⟩) (show 0 < B by omega)).trans (h.1 j v hv), fun j v hv => (hb.cell (p := ⟨1, 0 + j, none⟩) (show 1 < B by omega)).trans (h.2 j v hv)⟩

/-- the word of a table, noughts beside it -/
def wordAt (T : List Nat) (k : Int) : Nat := if 0 ≤ k ∧ k < T.length then T.getD k.toNat 0 else 0

theorem start_lt : ∀ k, k < 8 → startT.getD k 0 < 4294967296 := by decide +kernel
theorem turn_lt : ∀ k, k < 64 → turnT.getD k 0 < 4294967296 := by decide +kernel
theorem startT_length : startT.length = 8 := rfl
theorem turnT_length : turnT.length = 64 := rfl
theorem rootF_le (e n : Nat) : ∀ b r, rootF e n b r < r + 2 ^ b := by
  intro b
  induction b with
  | zero => intro r; simp [rootF]
  | succ b ih =>
    intro r
    rw [rootF, Nat.pow_succ]
    split
    · have := ih (r + 2 ^ b); omega
    · have := ih r; omega

set_option maxHeartbeats 1000000 in
theorem refStart_in (k : Nat) (hk : k < 8) (w : World) :
    Calls Tryd.prog 54 #[.int .i64 k] w fun e w' => e = .returned (.int .u32 ((startT.getD k 0 : Nat) : Int)) ∧ Below w.heap.size w w' := by
  have hp := prime_is k (by omega)
  have HS := hide (start_is k hk)
  have hlt := rootF_le 2 (primeT.getD k 0) 40 0
  have h64 : rootF 2 (primeT.getD k 0) 40 0 < 1099511627776 := by simpa using hlt
  have HP := hide (prime_any k (by omega) w)
  have HR := hide (root_two (primeT.getD k 0) (by omega) w)
  clear hp hlt
  generalize primeT.getD k 0 = p at *
  generalize rootF 2 p 40 0 = r at *
  go_enter Tryd.func54, Tryd.ntmps54
  go_wp2_with fail
  refine HP.out.mono ?_
  rintro e w1 ⟨rfl, hw⟩
  subst hw
  go_wp2_with fail
  refine HR.out.mono ?_
  rintro e w2 ⟨rfl, hb⟩
  go_wp2
  go_ret
  exact ⟨by rw [← HS.out]; first | rfl | simp, hb⟩

set_option maxHeartbeats 1000000 in
theorem refTurn_in (k : Nat) (hk : k < 64) (w : World) :
    Calls Tryd.prog 75 #[.int .i64 k] w fun e w' => e = .returned (.int .u32 ((turnT.getD k 0 : Nat) : Int)) ∧ Below w.heap.size w w' := by
  have hp := prime_is k (by omega)
  have HS := hide (turn_is k hk)
  have hlt := rootF_le 3 (primeT.getD k 0) 40 0
  have h64 : rootF 3 (primeT.getD k 0) 40 0 < 1099511627776 := by simpa using hlt
  have HP := hide (prime_any k (by omega) w)
  have HR := hide (root_three (primeT.getD k 0) (by omega) w)
  clear hp hlt
  generalize primeT.getD k 0 = p at *
  generalize rootF 3 p 40 0 = r at *
  go_enter Tryd.func75, Tryd.ntmps75
  go_wp2_with fail
  refine HP.out.mono ?_
  rintro e w1 ⟨rfl, hw⟩
  subst hw
  go_wp2_with fail
  refine HR.out.mono ?_
  rintro e w2 ⟨rfl, hb⟩
  go_wp2
  go_ret
  exact ⟨by rw [← HS.out]; first | rfl | simp, hb⟩

theorem wordAt_in {T : List Nat} {k : Nat} (h : k < T.length) : wordAt T (k : Int) = T.getD k 0 := by
  rw [wordAt, if_pos ⟨by omega, by omega⟩]; simp
theorem wordAt_out {T : List Nat} {k : Int} (h : ¬ (0 ≤ k ∧ k < T.length)) : wordAt T k = 0 := by rw [wordAt, if_neg h]

set_option maxHeartbeats 1000000 in
theorem refStart_any (k : Int) (w : World) :
    Calls Tryd.prog 54 #[.int .i64 k] w fun e w' => e = .returned (.int .u32 ((wordAt startT k : Nat) : Int)) ∧ Below w.heap.size w w' := by
  by_cases h0 : 0 ≤ k
  · by_cases h8 : k < 8
    · obtain ⟨n, rfl⟩ := Int.eq_ofNat_of_zero_le h0
      refine (refStart_in n (by omega) w).mono ?_
      rintro e w' ⟨rfl, hb⟩
      exact ⟨by rw [wordAt_in (by rw [startT_length]; omega)], hb⟩
    · have h7 : ¬ k ≤ 7 := by omega
      have HW := hide (wordAt_out (T := startT) (k := k) (by rw [startT_length]; omega))
      have hk0 : decide (k < 0) = false := by simp; omega
      go_enter Tryd.func54, Tryd.ntmps54
      go_wp2
      go_ret
      exact ⟨by rw [HW.out]; rfl, Below.refl _ _⟩
  · have HW := hide (wordAt_out (T := startT) (k := k) (by omega))
    have hk0 : k < 0 := by omega
    go_enter Tryd.func54, Tryd.ntmps54
    go_wp2
    go_ret
    exact ⟨by rw [HW.out]; rfl, Below.refl _ _⟩

set_option maxHeartbeats 1000000 in
theorem refTurn_any (k : Int) (w : World) :
    Calls Tryd.prog 75 #[.int .i64 k] w fun e w' => e = .returned (.int .u32 ((wordAt turnT k : Nat) : Int)) ∧ Below w.heap.size w w' := by
  by_cases h0 : 0 ≤ k
  · by_cases h8 : k < 64
    · obtain ⟨n, rfl⟩ := Int.eq_ofNat_of_zero_le h0
      refine (refTurn_in n (by omega) w).mono ?_
      rintro e w' ⟨rfl, hb⟩
      exact ⟨by rw [wordAt_in (by rw [turnT_length]; omega)], hb⟩
    · have h7 : ¬ k ≤ 63 := by omega
      have HW := hide (wordAt_out (T := turnT) (k := k) (by rw [turnT_length]; omega))
      have hk0 : decide (k < 0) = false := by simp; omega
      go_enter Tryd.func75, Tryd.ntmps75
      go_wp2
      go_ret
      exact ⟨by rw [HW.out]; rfl, Below.refl _ _⟩
  · have HW := hide (wordAt_out (T := turnT) (k := k) (by omega))
    have hk0 : k < 0 := by omega
    go_enter Tryd.func75, Tryd.ntmps75
    go_wp2
    go_ret
    exact ⟨by rw [HW.out]; rfl, Below.refl _ _⟩

end Go.Proofs.YtjiipiolckddnaaDoor

/- Walks: a word turned to the right, by the reference's turn and by the library's RotateLeft32; the program's two closures over it. -/
namespace Go.Proofs.YtjiipiolckddnaaDoor
open Go.RowKit

/-- a word turned to the right -/
def rot (x n : Nat) : Nat := x / 2 ^ n ||| x * 2 ^ (32 - n) % 4294967296

theorem rot_lt {x : Nat} (hx : x < 4294967296) (n : Nat) : rot x n < 4294967296 := by
  have h1 : x / 2 ^ n < 2 ^ 32 := Nat.lt_of_le_of_lt (Nat.div_le_self _ _) (by omega)
  have h2 : x * 2 ^ (32 - n) % 4294967296 < 2 ^ 32 := Nat.mod_lt _ (by omega)
  exact Nat.or_lt_two_pow h1 h2

/-- turned three times -/
def rot3 (x i j k : Nat) : Nat := (rot x i ^^^ rot x j) ^^^ rot x k
/-- turned twice, and moved -/
def rot2 (x i j k : Nat) : Nat := (rot x i ^^^ rot x j) ^^^ x / 2 ^ k

theorem xor_lt32 {x y : Nat} (hx : x < 4294967296) (hy : y < 4294967296) : x ^^^ y < 4294967296 := by
  have := Nat.xor_lt_two_pow (n := 32) (x := x) (y := y) (by omega) (by omega)
  omega
theorem and_lt32 {x y : Nat} (hx : x < 4294967296) : x &&& y < 4294967296 := Nat.lt_of_le_of_lt Nat.and_le_left hx
theorem rot3_lt {x : Nat} (hx : x < 4294967296) (i j k : Nat) : rot3 x i j k < 4294967296 := xor_lt32 (xor_lt32 (rot_lt hx _) (rot_lt hx _)) (rot_lt hx _)
theorem rot2_lt {x : Nat} (hx : x < 4294967296) (i j k : Nat) : rot2 x i j k < 4294967296 := xor_lt32 (xor_lt32 (rot_lt hx _) (rot_lt hx _)) (Nat.lt_of_le_of_lt (Nat.div_le_self _ _) hx)

theorem ret_u32 {a b : Int} (h : a = b) : Ending.returned (.int .u32 a) = .returned (.int .u32 b) := by rw [h]

theorem s_or_rot (x n : Nat) (hx : x < 4294967296) : bits .or .u32 ((x / 2 ^ n : Nat) : Int) ((x * 2 ^ (32 - n) % 4294967296 : Nat) : Int) = ((rot x n : Nat) : Int) := by
  rw [u32_or_nat _ _ (Nat.lt_of_le_of_lt (Nat.div_le_self _ _) hx) (Nat.mod_lt _ (by omega))]
  rfl

theorem or_rot' (x n : Nat) (hx : x < 4294967296) : bits .or .u32 ((x * 2 ^ (32 - n) % 4294967296 : Nat) : Int) ((x / 2 ^ n : Nat) : Int) = ((rot x n : Nat) : Int) := by
  rw [u32_or_nat _ _ (Nat.mod_lt _ (by omega)) (Nat.lt_of_le_of_lt (Nat.div_le_self _ _) hx), Nat.or_comm]
  rfl

theorem and_neg (n : Nat) (h1 : 1 ≤ n) (h2 : n ≤ 31) : bits .and .u64 (IntKind.u64.wrap (-(n : Int))) 31 = ((32 - n : Nat) : Int) := by
  have e : IntKind.u64.wrap (-(n : Int)) = ((18446744073709551616 - n : Nat) : Int) := by
    rw [IntKind.wrap_u64]; omega
  rw [e, show (31 : Int) = ((31 : Nat) : Int) from rfl, u64_and_nat _ _ (by omega) (by omega), nat_mask5]
  omega

set_option maxHeartbeats 1000000 in
theorem refturn_any (x n : Nat) (hx : x < 4294967296) (h1 : 1 ≤ n) (h2 : n ≤ 31) (w : World) :
    Calls Tryd.prog 76 #[.int .u32 x, .int .i64 n] w fun e w' => e = .returned (.int .u32 ((rot x n : Nat) : Int)) ∧ w' = w := by
  have HR := hide (s_or_rot x n hx)
  go_enter Tryd.func76, Tryd.ntmps76
  go_wp2
  go_ret
  refine ⟨ret_u32 ?_, rfl⟩
  rw [← HR.out]
  congr 1 <;> simp

set_option maxHeartbeats 1000000 in
theorem s_rotl_any (x n : Nat) (hx : x < 4294967296) (h1 : 1 ≤ n) (h2 : n ≤ 31) (w : World) :
    Calls Tryd.prog 83 #[.int .u32 x, .int .i64 (-(n : Int))] w fun e w' => e = .returned (.int .u32 ((rot x n : Nat) : Int)) ∧ w' = w := by
  have HR := hide (or_rot' x n hx)
  have hand := and_neg n h1 h2
  have e1 : 32 - (32 - n) = n := by omega
  go_enter Tryd.func83, Tryd.ntmps83
  go_wp2
  go_ret
  refine ⟨ret_u32 ?_, rfl⟩
  rw [← HR.out]
  congr 1 <;> simp [e1]

theorem wrap_neg (n : Nat) (h : n ≤ 31) : IntKind.i64.wrap (-(n : Int)) = -(n : Int) := by
  simp [IntKind.wrap, IntKind.bits, IntKind.signed]
  omega

theorem xor3 (a b c : Nat) (ha : a < 4294967296) (hb : b < 4294967296) (hc : c < 4294967296) : bits .xor .u32 (bits .xor .u32 (a : Int) (b : Int)) (c : Int) = (((a ^^^ b) ^^^ c : Nat) : Int) := by
  rw [u32_xor_nat a b ha hb, u32_xor_nat _ c (xor_lt32 ha hb) hc]

set_option maxHeartbeats 1000000 in
theorem s_turned_any (x i j k : Nat) (hx : x < 4294967296) (hi : 1 ≤ i ∧ i ≤ 31) (hj : 1 ≤ j ∧ j ≤ 31) (hk : 1 ≤ k ∧ k ≤ 31) (w : World) :
    Calls Tryd.prog 82 #[.int .u32 x, .int .i64 i, .int .i64 j, .int .i64 k] w fun e w' => e = .returned (.int .u32 ((rot3 x i j k : Nat) : Int)) ∧ w' = w := by
  have HX := hide (xor3 (rot x i) (rot x j) (rot x k) (rot_lt hx _) (rot_lt hx _) (rot_lt hx _))
  have C1 := hide (s_rotl_any x i hx hi.1 hi.2 w)
  have C2 := hide (s_rotl_any x j hx hj.1 hj.2 w)
  have C3 := hide (s_rotl_any x k hx hk.1 hk.2 w)
  obtain ⟨hi1, hi2⟩ := hi
  obtain ⟨hj1, hj2⟩ := hj
  obtain ⟨hk1, hk2⟩ := hk
  go_enter Tryd.func82, Tryd.ntmps82
  go_wp2_with fail
  refine C1.out.mono ?_
  rintro e w1 ⟨rfl, rfl⟩
  go_wp2_with fail
  refine C2.out.mono ?_
  rintro e w2 ⟨rfl, rfl⟩
  go_wp2_with fail
  refine C3.out.mono ?_
  rintro e w3 ⟨rfl, rfl⟩
  go_wp2
  go_ret
  exact ⟨ret_u32 HX.out, rfl⟩

set_option maxHeartbeats 1000000 in
theorem moved_any (x i j k : Nat) (hx : x < 4294967296) (hi : 1 ≤ i ∧ i ≤ 31) (hj : 1 ≤ j ∧ j ≤ 31) (hk : 1 ≤ k ∧ k ≤ 31) (w : World) :
    Calls Tryd.prog 90 #[.int .u32 x, .int .i64 i, .int .i64 j, .int .i64 k] w fun e w' => e = .returned (.int .u32 ((rot2 x i j k : Nat) : Int)) ∧ ∃ n, w' = w.drewN n := by
  obtain ⟨q, hq⟩ : ∃ q, q = x / 2 ^ k := ⟨_, rfl⟩
  have hqi : (x : Int) / 2 ^ k = (q : Int) := by rw [hq]; simp
  have HX : Hid (bits .xor .u32 (bits .xor .u32 ((rot x i : Nat) : Int) ((rot x j : Nat) : Int)) (q : Int) = ((rot2 x i j k : Nat) : Int)) := by
    show _ = _
    rw [xor3 (rot x i) (rot x j) q (rot_lt hx _) (rot_lt hx _) (by rw [hq]; exact Nat.lt_of_le_of_lt (Nat.div_le_self _ _) hx), rot2, hq]
  clear hq
  have hwi := wrap_neg i hi.2
  have hwj := wrap_neg j hj.2
  have C1 := hide (s_rotl_any x i hx hi.1 hi.2)
  have C2 := hide (s_rotl_any x j hx hj.1 hj.2)
  obtain ⟨hi1, hi2⟩ := hi
  obtain ⟨hj1, hj2⟩ := hj
  obtain ⟨hk1, hk2⟩ := hk
  go_enter Tryd.func90, Tryd.ntmps90
  go_wp2_with fail
  refine wp_region_any (by kernel_rfl) ?_
  try (change wpAny _ _ _ _ _ _ _ (World.drew _))
  refine take_dst (i := 0) (d := 9) (v := ?_) rfl rfl (by kernel_rfl) (by kernel_rfl) (by kernel_rfl) (fun _ _ _ h => h) (by rfl) ?_ ?_
  rotate_left
  · intro wZ; go_simp; first | (with_reducible rfl) | (rw [if_pos (by omega)]; with_reducible rfl) | skip
  try simp only [Act.put, List.setIfInBounds_toArray, List.set_cons_zero, List.set_cons_succ]
  refine take_dst (i := 1) (d := 10) (v := ?_) rfl rfl (by kernel_rfl) (by kernel_rfl) (by kernel_rfl) (fun _ _ _ h => h) (by rfl) ?_ ?_
  rotate_left
  · intro wZ; go_simp; first | (with_reducible rfl) | (rw [if_pos (by omega)]; with_reducible rfl) | skip
  try simp only [Act.put, List.setIfInBounds_toArray, List.set_cons_zero, List.set_cons_succ]
  refine take_dst (i := 2) (d := 11) (v := ?_) rfl rfl (by kernel_rfl) (by kernel_rfl) (by kernel_rfl) (fun _ _ _ h => h) (by rfl) ?_ ?_
  rotate_left
  · intro wZ; go_simp; first | (with_reducible rfl) | (rw [if_pos (by omega)]; with_reducible rfl) | skip
  try simp only [Act.put, List.setIfInBounds_toArray, List.set_cons_zero, List.set_cons_succ]
  refine take_dst (i := 4) (d := 13) (v := ?_) rfl rfl (by kernel_rfl) (by kernel_rfl) (by kernel_rfl) (fun _ _ _ h => h) (by rfl) ?_ ?_
  rotate_left
  · intro wZ; go_simp; first | (with_reducible rfl) | (rw [if_pos (by omega)]; with_reducible rfl) | skip
  try simp only [Act.put, List.setIfInBounds_toArray, List.set_cons_zero, List.set_cons_succ]
  refine take_dst (i := 5) (d := 14) (v := ?_) rfl rfl (by kernel_rfl) (by kernel_rfl) (by kernel_rfl) (fun _ _ _ h => h) (by rfl) ?_ ?_
  rotate_left
  · intro wZ; go_simp; first | (with_reducible rfl) | (rw [if_pos (by omega)]; with_reducible rfl) | skip
  try simp only [Act.put, List.setIfInBounds_toArray, List.set_cons_zero, List.set_cons_succ]
  refine take_dst (i := 6) (d := 15) (v := ?_) rfl rfl (by kernel_rfl) (by kernel_rfl) (by kernel_rfl) (fun _ _ _ h => h) (by rfl) ?_ ?_
  rotate_left
  · intro wZ; go_simp; first | (with_reducible rfl) | (rw [if_pos (by omega)]; with_reducible rfl) | skip
  try simp only [Act.put, List.setIfInBounds_toArray, List.set_cons_zero, List.set_cons_succ]
  refine take_dst (i := 9) (d := 18) (v := ?_) rfl rfl (by kernel_rfl) (by kernel_rfl) (by kernel_rfl) (fun _ _ _ h => h) (by rfl) ?_ ?_
  rotate_left
  · intro wZ; go_simp; first | (with_reducible rfl) | (rw [if_pos (by omega)]; with_reducible rfl) | skip
  try simp only [Act.put, List.setIfInBounds_toArray, List.set_cons_zero, List.set_cons_succ]
  refine take_dst (i := 10) (d := 19) (v := ?_) rfl rfl (by kernel_rfl) (by kernel_rfl) (by kernel_rfl) (fun _ _ _ h => h) (by rfl) ?_ ?_
  rotate_left
  · intro wZ; go_simp; first | (with_reducible rfl) | (rw [if_pos (by omega)]; with_reducible rfl) | skip
  try simp only [Act.put, List.setIfInBounds_toArray, List.set_cons_zero, List.set_cons_succ]
  refine take_dst (i := 11) (d := 20) (v := ?_) rfl rfl (by kernel_rfl) (by kernel_rfl) (by kernel_rfl) (fun _ _ _ h => h) (by rfl) ?_ ?_
  rotate_left
  · intro wZ; go_simp; first | (with_reducible rfl) | (rw [if_pos (by omega)]; with_reducible rfl) | skip
  try simp only [Act.put, List.setIfInBounds_toArray, List.set_cons_zero, List.set_cons_succ]
  refine wpAny_ready (rs := [3]) (by kernel_rfl) (by simp) ?_
  refine (AllReady.cons rfl (fun K hK => ?_) AllReady.nil)
  go_simp
  go_wp2_with ((go_at_call 83; refine (C1.out _).mono ?_; rintro e w1 ⟨rfl, hw⟩; subst hw))
  first | (refine hK _ _ ?_; clear hK K) | (clear hK K) | skip
  try simp only [Act.put, List.setIfInBounds_toArray, List.set_cons_zero, List.set_cons_succ]
  refine wpAny_ready (rs := [7]) (by kernel_rfl) (by simp) ?_
  refine (AllReady.cons rfl (fun K hK => ?_) AllReady.nil)
  go_simp
  go_wp2_with ((go_at_call 83; refine (C2.out _).mono ?_; rintro e w1 ⟨rfl, hw⟩; subst hw))
  first | (refine hK _ _ ?_; clear hK K) | (clear hK K) | skip
  try simp only [Act.put, List.setIfInBounds_toArray, List.set_cons_zero, List.set_cons_succ]
  refine take_dst (i := 8) (d := 17) (v := ?_) rfl rfl (by kernel_rfl) (by kernel_rfl) (by kernel_rfl) (fun _ _ _ h => h) (by rfl) ?_ ?_
  rotate_left
  · intro wZ; go_simp; first | (with_reducible rfl) | (rw [if_pos (by omega)]; with_reducible rfl) | skip
  try simp only [Act.put, List.setIfInBounds_toArray, List.set_cons_zero, List.set_cons_succ]
  refine take_dst (i := 12) (d := 21) (v := ?_) rfl rfl (by kernel_rfl) (by kernel_rfl) (by kernel_rfl) (fun _ _ _ h => h) (by rfl) ?_ ?_
  rotate_left
  · intro wZ; go_simp; first | (with_reducible rfl) | (rw [if_pos (by omega)]; with_reducible rfl) | skip
  try simp only [Act.put, List.setIfInBounds_toArray, List.set_cons_zero, List.set_cons_succ]
  refine take_dst (i := 13) (d := 8) (v := ?_) rfl rfl (by kernel_rfl) (by kernel_rfl) (by kernel_rfl) (fun _ _ _ h => h) (by rfl) ?_ ?_
  rotate_left
  · intro wZ; go_simp; first | (with_reducible rfl) | (rw [if_pos (by omega)]; with_reducible rfl) | skip
  try simp only [Act.put, List.setIfInBounds_toArray, List.set_cons_zero, List.set_cons_succ]
  refine wpAny_done (by kernel_rfl) ?_ _
  all_goals
    go_wp2
    go_ret
    exact ⟨ret_u32 HX.out, 1, rfl⟩

end Go.Proofs.YtjiipiolckddnaaDoor

/- How an array lies in memory; a walk: the reference's Turns, all words of a block's turns as an array. -/
namespace Go.Proofs.YtjiipiolckddnaaDoor
open Go.RowKit

theorem one_u32s (l : List Nat) : (u32s l).toArray.all (·.oneCell') = true := by
  apply all_oneCell_toArray
  intro v hv
  obtain ⟨x, _, rfl⟩ := List.mem_map.1 hv
  rfl

theorem info31 : (Tryd.prog.info? 98).map (·.size) = some 64 := by kernel_rfl
theorem info26 : (Tryd.prog.info? 96).map (·.size) = some 8 := by kernel_rfl

theorem zeros64 : u32s (part turnT 64 0) = u32s (List.replicate 64 0) := by simp [part]

set_option maxHeartbeats 2000000 in
set_option maxRecDepth 100000 in
theorem turns_any (w : World) :
    Calls Tryd.prog 55 #[] w fun e w' => e = .returned (.agg (u32s turnT).toArray) ∧ Below w.heap.size w w' := by
  go_enter Tryd.func55, Tryd.ntmps55
  go_wp2
  go_loopg [2] 65 (fun f s2 wr => ∃ (i : Nat), s2 = .int .i64 i ∧ i ≤ 64 ∧ 64 - i < f ∧ Arr wr w.heap.size 98 (u32s (List.replicate 64 0)) ∧ Arr wr (w.heap.size + 1) 98 (u32s (part turnT 64 i)) ∧ Below w.heap.size w wr)
  case atStart =>
    refine ⟨0, rfl, by omega, by omega, ?_, ?_, ?_⟩
    · exact heap_alloc2_old _ _ _
    · exact heap_alloc2_new _ _ _
    · exact ((Below.refl _ _).alloc (Nat.le_refl _) _).alloc (by simp) _
  case round =>
    obtain ⟨i, rfl, hi, hf, h0, h1, hb⟩ := hrel
    have H0 := hide h0
    have H1 := hide h1
    have HB := hide hb
    clear h0 h1 hb
    by_cases hlt : i < 64
    · go_wp2_with fail
      refine (refTurn_in i hlt _).mono ?_
      rintro e w1 ⟨rfl, hb1⟩
      have A0 := hide (H0.out.kept hb1)
      have h1 := H1.out.kept hb1
      have A1 := hide h1
      have B1 : Hid (Below w.heap.size w w1) := HB.out.trans (hb1.mono HB.out.size)
      have c1 : ∃ x, w1.cell? ⟨w.heap.size + 1, i, none⟩ = some (.int .u32 x) := ⟨_, (h1.cell i).trans (u32s_at (by rw [part_length _ _ _ turnT_length (by omega)]; omega))⟩
      obtain ⟨x, c1⟩ := c1
      have f1 := h1.frozen i
      clear h1 hb1
      go_wp2
      go_roundg (64 - i)
      case measure => omega
      case rel =>
        refine ⟨i + 1, by go_num, by omega, by omega, A0.out.other _ _ (by simp), ?_, B1.out.setCell (by simp) _⟩
        have := A1.out.set i (.int .u32 ((turnT.getD i 0 : Nat) : Int))
        rw [u32s_set, part_set _ _ _ turnT_length hlt] at this
        exact this
    · have e : i = 64 := by omega
      subst e
      have h0 := H0.out
      have h1 := H1.out
      rw [part_full _ _ turnT_length] at h1
      have K0 := hide h0
      have K1 := hide h1
      clear h0 h1 H0 H1
      go_wp2_with (first
        | (refine wpList_load_row rfl 98 _ rfl (w.heap.size + 1) rfl 98 _ (0, 0) _ K1.out Tryd.underlying98 rfl info31 ?_)
        | (refine wpList_store_row rfl 98 _ _ rfl w.heap.size _ rfl rfl 98 _ K0.out info31 rfl (one_u32s _) ?_))
      exact bodyPost_ret (v := .agg (u32s turnT).toArray) (results_cell_row Tryd.results55 _ _ w.heap.size 98 _ (0, 0) _ rfl (K0.out.row _) Tryd.underlying98 rfl info31) rfl ⟨rfl, below_setRow HB.out (Nat.le_refl _) K0.out.lt _⟩

end Go.Proofs.YtjiipiolckddnaaDoor

/- Plain facts, with nothing of the program in them: a block's spread, its turns, the block taken into eight words; bytes of a digest. -/
namespace Go.Proofs.YtjiipiolckddnaaDoor
open Go.RowKit

/-- four bytes as a word -/
def w4 (b : List Nat) (i : Nat) : Nat := b.getD (4 * i) 0 * 16777216 + b.getD (4 * i + 1) 0 * 65536 + b.getD (4 * i + 2) 0 * 256 + b.getD (4 * i + 3) 0

/-- the next word of a spread -/
def nextW (b l : List Nat) (i : Nat) : Nat :=
  if i < 16 then w4 b i else (l.getD (i - 16) 0 + rot2 (l.getD (i - 15) 0) 7 18 3 + l.getD (i - 7) 0 + rot2 (l.getD (i - 2) 0) 17 19 10) % 4294967296

def ws (b : List Nat) : Nat → List Nat
  | 0 => []
  | i + 1 => ws b i ++ [nextW b (ws b i) i]

/-- a block's spread -/
def spreadF (b : List Nat) : List Nat := ws b 64

theorem ws_length (b : List Nat) (i : Nat) : (ws b i).length = i := by induction i with
  | zero => rfl
  | succ i ih => simp [ws, ih]

theorem ws_take (b : List Nat) : ∀ n i, i ≤ n → (ws b n).take i = ws b i := by
  intro n
  induction n with
  | zero => intro i hi; have : i = 0 := by omega
            subst this; rfl
  | succ n ih =>
    intro i hi
    by_cases e : i = n + 1
    · subst e; rw [List.take_of_length_le (by rw [ws_length]; omega)]
    · rw [ws, List.take_append_of_le_length (by rw [ws_length]; omega), ih i (by omega)]

theorem getD_take (l : List Nat) (i j : Nat) (h : j < i) : (l.take i).getD j 0 = l.getD j 0 := by
  simp [List.getD, h]

theorem nextW_take (b l : List Nat) (i : Nat) : nextW b (l.take i) i = nextW b l i := by
  unfold nextW
  by_cases h : i < 16
  · rw [if_pos h, if_pos h]
  · rw [if_neg h, if_neg h, getD_take _ _ _ (by omega), getD_take _ _ _ (by omega), getD_take _ _ _ (by omega), getD_take _ _ _ (by omega)]

theorem spread_length (b : List Nat) : (spreadF b).length = 64 := ws_length b 64

theorem spread_at (b : List Nat) (i : Nat) (hi : i < 64) : (spreadF b).getD i 0 = nextW b (spreadF b) i := by
  have h1 : (spreadF b).getD i 0 = (ws b (i + 1)).getD i 0 := by
    rw [← ws_take b 64 (i + 1) (by omega), getD_take _ _ _ (by omega)]; rfl
  rw [h1, ws]
  have h2 : (ws b i ++ [nextW b (ws b i) i]).getD i 0 = nextW b (ws b i) i := by
    simp [List.getD, ws_length]
  rw [h2, ← ws_take b 64 i (by omega)]
  exact nextW_take b _ i

theorem byte_getD {b : List Nat} (h : ∀ x ∈ b, x < 256) (j : Nat) : b.getD j 0 < 256 := by
  by_cases hj : j < b.length
  · simp only [List.getD, List.getElem?_eq_getElem hj, Option.getD_some]; exact h _ (List.getElem_mem hj)
  · simp [List.getD, List.getElem?_eq_none (by omega : b.length ≤ j)]

theorem w4_lt {b : List Nat} (h : ∀ x ∈ b, x < 256) (i : Nat) : w4 b i < 4294967296 := by
  have h1 := byte_getD h (4 * i)
  have h2 := byte_getD h (4 * i + 1)
  have h3 := byte_getD h (4 * i + 2)
  have h4 := byte_getD h (4 * i + 3)
  unfold w4
  omega

theorem spread_lt {b : List Nat} (h : ∀ x ∈ b, x < 256) (i : Nat) : (spreadF b).getD i 0 < 4294967296 := by
  by_cases hi : i < 64
  · rw [spread_at b i hi, nextW]
    split
    · exact w4_lt h i
    · exact Nat.mod_lt _ (by omega)
  · have : (spreadF b).getD i 0 = 0 := by simp [List.getD, List.getElem?_eq_none (show (spreadF b).length ≤ i by rw [spread_length]; omega)]
    omega

/-- words -/
def Words (l : List Nat) : Prop := ∀ x ∈ l, x < 4294967296

theorem Words.getD {l : List Nat} (h : Words l) (j : Nat) : l.getD j 0 < 4294967296 := by
  by_cases hj : j < l.length
  · simp only [List.getD, List.getElem?_eq_getElem hj, Option.getD_some]; exact h _ (List.getElem_mem hj)
  · simp [List.getD, List.getElem?_eq_none (by omega : l.length ≤ j)]

def chF (e f g : Nat) : Nat := (e &&& f) ^^^ ((4294967295 ^^^ e) &&& g)
def majF (a b c : Nat) : Nat := ((a &&& b) ^^^ (a &&& c)) ^^^ (b &&& c)
def s_uF (e f g h k w : Nat) : Nat := (h + rot3 e 6 11 25 + chF e f g + k + w) % 4294967296
def vF (a b c : Nat) : Nat := (rot3 a 2 13 22 + majF a b c) % 4294967296

/-- a turn of eight words -/
def stepW (x : List Nat) (k w : Nat) : List Nat :=
  [(s_uF (x.getD 4 0) (x.getD 5 0) (x.getD 6 0) (x.getD 7 0) k w + vF (x.getD 0 0) (x.getD 1 0) (x.getD 2 0)) % 4294967296, x.getD 0 0, x.getD 1 0, x.getD 2 0,
   (x.getD 3 0 + s_uF (x.getD 4 0) (x.getD 5 0) (x.getD 6 0) (x.getD 7 0) k w) % 4294967296, x.getD 4 0, x.getD 5 0, x.getD 6 0]

/-- so many turns -/
def turnsF (h b : List Nat) : Nat → List Nat
  | 0 => h
  | i + 1 => stepW (turnsF h b i) (turnT.getD i 0) ((spreadF b).getD i 0)

/-- word by word, added -/
def addW (x h : List Nat) : List Nat := (List.range 8).map fun i => (x.getD i 0 + h.getD i 0) % 4294967296

/-- a block taken into eight words -/
def blockF (h b : List Nat) : List Nat := addW (turnsF h b 64) h

theorem stepW_length (x : List Nat) (k w : Nat) : (stepW x k w).length = 8 := rfl
theorem stepW_words {x : List Nat} (h : Words x) (k w : Nat) : Words (stepW x k w) := by
  intro y hy
  simp only [stepW, List.mem_cons, List.not_mem_nil, or_false] at hy
  rcases hy with e | e | e | e | e | e | e | e
  · subst e; exact Nat.mod_lt _ (by omega)
  · subst e; exact h.getD _
  · subst e; exact h.getD _
  · subst e; exact h.getD _
  · subst e; exact Nat.mod_lt _ (by omega)
  · subst e; exact h.getD _
  · subst e; exact h.getD _
  · subst e; exact h.getD _
theorem turnsF_length {h b : List Nat} (hl : h.length = 8) (i : Nat) : (turnsF h b i).length = 8 := by
  cases i with
  | zero => exact hl
  | succ i => rfl
theorem turnsF_words {h b : List Nat} (hw : Words h) (i : Nat) : Words (turnsF h b i) := by
  induction i with
  | zero => exact hw
  | succ i ih => exact stepW_words ih _ _
theorem blockF_length (h b : List Nat) : (blockF h b).length = 8 := by simp [blockF, addW]
theorem blockF_words (h b : List Nat) : Words (blockF h b) := by
  intro y hy
  simp only [blockF, addW, List.mem_map] at hy
  obtain ⟨i, _, rfl⟩ := hy
  exact Nat.mod_lt _ (by omega)

theorem eight {l : List Nat} (h : l.length = 8) : ∃ a b c d e f g h, l = [a, b, c, d, e, f, g, h] := by
  match l, h with
  | [a, b, c, d, e, f, g, h], _ => exact ⟨a, b, c, d, e, f, g, h, rfl⟩

theorem chF_lt {e f g : Nat} (he : e < 4294967296) : chF e f g < 4294967296 := xor_lt32 (and_lt32 he) (and_lt32 (xor_lt32 (by omega) he))
theorem majF_lt {a b c : Nat} (ha : a < 4294967296) (hb : b < 4294967296) : majF a b c < 4294967296 := xor_lt32 (xor_lt32 (and_lt32 ha) (and_lt32 ha)) (and_lt32 hb)

theorem ch_eq (e f g : Nat) (he : e < 4294967296) (hf : f < 4294967296) (hg : g < 4294967296) :
    bits .xor .u32 (bits .and .u32 (e : Int) (f : Int)) (bits .and .u32 (bits .xor .u32 IntKind.u32.max (e : Int)) (g : Int)) = ((chF e f g : Nat) : Int) := by
  rw [show IntKind.u32.max = ((4294967295 : Nat) : Int) from rfl, u32_and_nat e f he hf, u32_xor_nat 4294967295 e (by omega) he, u32_and_nat _ g (xor_lt32 (by omega) he) hg, u32_xor_nat _ _ (and_lt32 he) (and_lt32 (xor_lt32 (by omega) he))]
  rfl
theorem maj_eq (a b c : Nat) (ha : a < 4294967296) (hb : b < 4294967296) (hc : c < 4294967296) :
    bits .xor .u32 (bits .xor .u32 (bits .and .u32 (a : Int) (b : Int)) (bits .and .u32 (a : Int) (c : Int))) (bits .and .u32 (b : Int) (c : Int)) = ((majF a b c : Nat) : Int) := by
  rw [u32_and_nat a b ha hb, u32_and_nat a c ha hc, u32_and_nat b c hb hc, u32_xor_nat _ _ (and_lt32 ha) (and_lt32 ha), u32_xor_nat _ _ (xor_lt32 (and_lt32 ha) (and_lt32 ha)) (and_lt32 hb)]
  rfl
theorem u_eq (e f g h k w : Nat) :
    IntKind.u32.wrap (IntKind.u32.wrap (IntKind.u32.wrap (IntKind.u32.wrap ((h : Int) + ((rot3 e 6 11 25 : Nat) : Int)) + ((chF e f g : Nat) : Int)) + (k : Int)) + (w : Int)) = ((s_uF e f g h k w : Nat) : Int) := by
  simp only [IntKind.wrap_u32', s_uF]
  omega
theorem v_eq (a b c : Nat) : IntKind.u32.wrap (((rot3 a 2 13 22 : Nat) : Int) + ((majF a b c : Nat) : Int)) = ((vF a b c : Nat) : Int) := by
  simp only [IntKind.wrap_u32', vF]
  omega

/-- so many of the eight sums -/
def addTo (x h : List Nat) (i : Nat) : List Nat := (addW x h).take i ++ x.drop i
theorem addTo_zero (x h : List Nat) : addTo x h 0 = x := by simp [addTo]
theorem addTo_full (x h : List Nat) (hx : x.length = 8) : addTo x h 8 = addW x h := by
  rw [addTo, List.take_of_length_le (by simp [addW]), List.drop_eq_nil_of_le (by omega), List.append_nil]
theorem addTo_length (x h : List Nat) (hx : x.length = 8) (i : Nat) (hi : i ≤ 8) : (addTo x h i).length = 8 := by simp [addTo, addW, hx]; omega
theorem addTo_at (x h : List Nat) (i : Nat) (hi : i < 8) : (addTo x h i).getD i 0 = x.getD i 0 := by
  simp [addTo, addW, List.getD, List.getElem?_append, Nat.min_eq_left (Nat.le_of_lt hi)]
theorem addTo_set (x h : List Nat) (hx : x.length = 8) (i : Nat) (hi : i < 8) : (addTo x h i).set i ((x.getD i 0 + h.getD i 0) % 4294967296) = addTo x h (i + 1) := by
  apply List.ext_getElem
  · simp [addTo, addW, hx]; omega
  · intro k h1 h2
    simp only [addTo, addW, List.getElem_set, List.getElem_append, List.length_take, List.length_map, List.length_range]
    by_cases e : i = k
    · subst e
      simp [show i < min (i + 1) 8 by omega]
    · by_cases hk : k < i
      · simp [e, show k < min i 8 by omega, show k < min (i + 1) 8 by omega]
      · simp [e, show ¬ k < min i 8 by omega, show ¬ k < min (i + 1) 8 by omega]
        congr 1
        omega

end Go.Proofs.YtjiipiolckddnaaDoor
