/-
  Several texts, joined: SA, SB, SK, SC, SD, SE, SF, SG.
-/
import Derived.WalkKit
import Derived.Test.YtbmjlofehbbkbaaDoorJA
import Derived.Test.YtbmjlofehbbkbaaDoorChecked
import Derived.WalkSpells
import Derived.WalkLawsBesides
import Derived.RegionTactic
import Derived.BigRegion
import Derived.Deep.LoopGhost
import Derived.Laws.AppendOwnNone
import Derived.OpenShut
import Derived.Deep.RegionHeld3
import Derived.Deep.RegionWith
import Derived.Deep.DeepCutAuto
import Derived.Deep.CutBlock
import Derived.Deep.CutRange
import Derived.Deep.DrawnRows
import Derived.Deep.MidRow
import Derived.Deep.WholeRow
import Derived.Deep.QuietTactic
import Derived.BigQuiet

/- Plain facts on numbers, with nothing of the program in them: primes, roots found bit by bit, numbers as digits of 16 bits, their product and their order. -/
namespace Go.Proofs.YtbmjlofehbbkbaaDoor
open Go.RowKit

/- primes -/
def okTo (n : Nat) : Nat → Bool
  | 0 => true
  | d + 1 => okTo n d && (decide (d < 2) || n % d != 0)

def isPr (n : Nat) : Bool := okTo n n

def cntPr : Nat → Nat
  | 0 => 0
  | n + 1 => cntPr n + if 2 ≤ n ∧ isPr n = true then 1 else 0

def primeT : List Nat := [2, 3, 5, 7, 11, 13, 17, 19, 23, 29, 31, 37, 41, 43, 47, 53, 59, 61, 67, 71, 73, 79, 83, 89, 97, 101, 103, 107, 109, 113, 127, 131, 137, 139, 149, 151, 157, 163, 167, 173, 179, 181, 191, 193, 197, 199, 211, 223, 227, 229, 233, 239, 241, 251, 257, 263, 269, 271, 277, 281, 283, 293, 307, 311]

theorem prime_at : ∀ n, n < 312 → 2 ≤ n → isPr n = true → primeT.getD (cntPr n) 0 = n := by decide +kernel
theorem prime_is : ∀ k, k < 64 → isPr (primeT.getD k 0) = true ∧ cntPr (primeT.getD k 0) = k ∧ primeT.getD k 0 < 312 ∧ 2 ≤ primeT.getD k 0 := by decide +kernel

/- roots -/
def rootF (e n : Nat) : Nat → Nat → Nat
  | 0, r => r
  | b + 1, r => rootF e n b (if (r + 2 ^ b) ^ e ≤ n * 2 ^ (32 * e) then r + 2 ^ b else r)

def startT : List Nat := [0x6a09e667, 0xbb67ae85, 0x3c6ef372, 0xa54ff53a, 0x510e527f, 0x9b05688c, 0x1f83d9ab, 0x5be0cd19]
def turnT : List Nat := [
  0x428a2f98, 0x71374491, 0xb5c0fbcf, 0xe9b5dba5,
  0x3956c25b, 0x59f111f1, 0x923f82a4, 0xab1c5ed5,
  0xd807aa98, 0x12835b01, 0x243185be, 0x550c7dc3,
  0x72be5d74, 0x80deb1fe, 0x9bdc06a7, 0xc19bf174,
  0xe49b69c1, 0xefbe4786, 0x0fc19dc6, 0x240ca1cc,
  0x2de92c6f, 0x4a7484aa, 0x5cb0a9dc, 0x76f988da,
  0x983e5152, 0xa831c66d, 0xb00327c8, 0xbf597fc7,
  0xc6e00bf3, 0xd5a79147, 0x06ca6351, 0x14292967,
  0x27b70a85, 0x2e1b2138, 0x4d2c6dfc, 0x53380d13,
  0x650a7354, 0x766a0abb, 0x81c2c92e, 0x92722c85,
  0xa2bfe8a1, 0xa81a664b, 0xc24b8b70, 0xc76c51a3,
  0xd192e819, 0xd6990624, 0xf40e3585, 0x106aa070,
  0x19a4c116, 0x1e376c08, 0x2748774c, 0x34b0bcb5,
  0x391c0cb3, 0x4ed8aa4a, 0x5b9cca4f, 0x682e6ff3,
  0x748f82ee, 0x78a5636f, 0x84c87814, 0x8cc70208,
  0x90befffa, 0xa4506ceb, 0xbef9a3f7, 0xc67178f2]

theorem start_is : ∀ k, k < 8 → rootF 2 (primeT.getD k 0) 40 0 % 4294967296 = startT.getD k 0 := by decide +kernel
theorem turn_is : ∀ k, k < 64 → rootF 3 (primeT.getD k 0) 40 0 % 4294967296 = turnT.getD k 0 := by decide +kernel

/- numbers as digits of 16 bits -/
def val : List Nat → Nat
  | [] => 0
  | d :: l => d + 65536 * val l

theorem val_append (l k : List Nat) : val (l ++ k) = val l + 65536 ^ l.length * val k := by
  induction l with
  | nil => simp [val]
  | cons d l ih => simp only [List.cons_append, val, ih, List.length_cons, Nat.pow_succ, Nat.mul_add]; rw [Nat.mul_comm (65536 ^ l.length) 65536, Nat.mul_assoc]; omega

theorem val_set : ∀ (l : List Nat) (j x : Nat), j < l.length → val (l.set j x) + l.getD j 0 * 65536 ^ j = val l + x * 65536 ^ j := by
  intro l
  induction l with
  | nil => intro j x h; simp at h
  | cons d l ih =>
    intro j x h
    cases j with
    | zero => simp [val]; omega
    | succ j =>
      have := ih j x (by simpa using h)
      simp only [List.set_cons_succ, val, List.getD_cons_succ, Nat.pow_succ]
      rw [← Nat.mul_assoc, ← Nat.mul_assoc]
      generalize l.getD j 0 * 65536 ^ j = p at *
      generalize x * 65536 ^ j = q at *
      omega

theorem val_take_succ (l : List Nat) (k : Nat) (h : k < l.length) : val (l.take (k + 1)) = val (l.take k) + l.getD k 0 * 65536 ^ k := by
  rw [List.take_succ_eq_append_getElem h, val_append]
  simp [val, List.getD, h, Nat.min_eq_left (Nat.le_of_lt h), Nat.mul_comm]

theorem val_replicate (n : Nat) : val (List.replicate n 0) = 0 := by
  induction n with
  | zero => rfl
  | succ n ih => simp [List.replicate_succ, val, ih]

theorem val_lt : ∀ (l : List Nat), (∀ d ∈ l, d < 65536) → val l < 65536 ^ l.length := by
  intro l
  induction l with
  | nil => intro _; simp [val]
  | cons d l ih =>
    intro h
    have h1 := ih fun x hx => h x (List.mem_cons_of_mem _ hx)
    have h2 := h d (List.mem_cons_self ..)
    simp only [val, List.length_cons, Nat.pow_succ]
    omega

/-- one row of the product: what lies there behind so many digits, with what is carried -/
def Row (a b o0 : List Nat) (i k : Nat) (o : List Nat) (c : Nat) : Prop :=
  o.length = a.length + b.length + 1 ∧ (∀ d ∈ o, d < 65536) ∧ c < 65536 ∧ k ≤ b.length + 1 ∧ (k = b.length + 1 → c = 0) ∧
  val o + c * 65536 ^ (i + k) = val (a.take i) * val b + a.getD i 0 * val (b.take k) * 65536 ^ i ∧
  ∀ j, i + k ≤ j → o.getD j 0 = o0.getD j 0

/-- the product of so many digits -/
def Rows (a b : List Nat) (i : Nat) (o : List Nat) : Prop :=
  o.length = a.length + b.length + 1 ∧ (∀ d ∈ o, d < 65536) ∧ i ≤ a.length ∧ val o = val (a.take i) * val b ∧ ∀ j, i + b.length ≤ j → o.getD j 0 = 0

theorem Rows.start (a b : List Nat) : Rows a b 0 (List.replicate (a.length + b.length + 1) 0) := by
  refine ⟨by simp, ?_, by omega, by simp [val_replicate, val], ?_⟩
  · intro d hd; rw [List.eq_of_mem_replicate hd]; omega
  · intro j _; simp only [List.getD, List.getElem?_replicate]; split <;> rfl

theorem Rows.row {a b o : List Nat} {i : Nat} (h : Rows a b i o) : Row a b o i 0 o 0 :=
  ⟨h.1, h.2.1, by omega, by omega, fun e => rfl, by simp [val, h.2.2.2.1], fun j _ => rfl⟩

theorem dig_getD {l : List Nat} (h : ∀ d ∈ l, d < 65536) (j : Nat) : l.getD j 0 < 65536 := by
  by_cases hj : j < l.length
  · simp only [List.getD, List.getElem?_eq_getElem hj, Option.getD_some]; exact h _ (List.getElem_mem hj)
  · simp [List.getD, List.getElem?_eq_none (by omega : l.length ≤ j)]

theorem mul_dig {x y : Nat} (hx : x < 65536) (hy : y < 65536) : x * y ≤ 4294836225 :=
  Nat.mul_le_mul (show x ≤ 65535 by omega) (show y ≤ 65535 by omega)

theorem getD_setN (l : List Nat) (i k x : Nat) : (l.set i x).getD k 0 = if i = k ∧ k < l.length then x else l.getD k 0 := by
  simp only [List.getD, List.getElem?_set]
  by_cases h : i = k
  · subst h
    by_cases h2 : i < l.length
    · simp [h2]
    · simp [h2]
  · simp [h]

theorem dig_set {l : List Nat} (h : ∀ d ∈ l, d < 65536) (j x : Nat) (hx : x < 65536) : ∀ d ∈ l.set j x, d < 65536 := by
  intro d hd
  rcases List.mem_or_eq_of_mem_set hd with h1 | h1
  · exact h d h1
  · omega

/-- a digit within b -/
theorem Row.step {a b o0 o : List Nat} {i k c : Nat} (h : Row a b o0 i k o c) (ha : ∀ d ∈ a, d < 65536) (hb : ∀ d ∈ b, d < 65536) (hi : i < a.length) (hk : k < b.length) :
    Row a b o0 i (k + 1) (o.set (i + k) ((o.getD (i + k) 0 + c + a.getD i 0 * b.getD k 0) % 65536)) ((o.getD (i + k) 0 + c + a.getD i 0 * b.getD k 0) / 65536) := by
  obtain ⟨hl, hd, hc, hkb, hke, hv, hj⟩ := h
  have h1 := dig_getD hd (i + k)
  have h2 := mul_dig (dig_getD ha i) (dig_getD hb k)
  have hs := val_set o (i + k) ((o.getD (i + k) 0 + c + a.getD i 0 * b.getD k 0) % 65536) (by omega)
  refine ⟨by simpa using hl, dig_set hd _ _ (Nat.mod_lt _ (by omega)), by omega, by omega, fun e => by omega, ?_, ?_⟩
  · rw [val_take_succ b k hk, Nat.mul_add, Nat.add_mul, ← Nat.add_assoc (val (List.take i a) * val b), ← hv, show i + (k + 1) = (i + k) + 1 by omega, Nat.pow_succ]
    have e1 : a.getD i 0 * (b.getD k 0 * 65536 ^ k) * 65536 ^ i = (a.getD i 0 * b.getD k 0) * 65536 ^ (i + k) := by
      rw [Nat.pow_add, ← Nat.mul_assoc, Nat.mul_assoc, Nat.mul_comm (65536 ^ k)]
    rw [e1]
    generalize a.getD i 0 * b.getD k 0 = m at *
    generalize o.getD (i + k) 0 = d at *
    generalize 65536 ^ (i + k) = P at *
    have e2 : (d + c + m) * P = d * P + c * P + m * P := by rw [Nat.add_mul, Nat.add_mul]
    have e3 : (d + c + m) * P = ((d + c + m) / 65536) * (P * 65536) + ((d + c + m) % 65536) * P := by
      conv => lhs; rw [← Nat.div_add_mod (d + c + m) 65536]
      rw [Nat.add_mul, Nat.mul_comm P 65536, ← Nat.mul_assoc, Nat.mul_comm 65536 ((d + c + m) / 65536)]
    generalize (d + c + m) / 65536 * (P * 65536) = q1 at *
    generalize (d + c + m) % 65536 * P = q2 at *
    generalize d * P = q3 at *
    generalize c * P = q4 at *
    generalize m * P = q5 at *
    omega
  · intro j hj'
    rw [getD_setN, if_neg (by omega)]
    exact hj j (by omega)

/-- the carry behind b -/
theorem Row.last {a b o0 o : List Nat} {i k c : Nat} (h : Row a b o0 i k o c) (h0 : Rows a b i o0) (hi : i < a.length) (hk : ¬ k < b.length) (hc0 : 0 < c) :
    k = b.length ∧ Row a b o0 i (k + 1) (o.set (i + k) ((o.getD (i + k) 0 + c) % 65536)) ((o.getD (i + k) 0 + c) / 65536) := by
  obtain ⟨hl, hd, hc, hkb, hke, hv, hj⟩ := h
  have hkk : k = b.length := by
    by_cases e : k = b.length + 1
    · have := hke e; omega
    · omega
  have hz : o.getD (i + k) 0 = 0 := by rw [hj _ (Nat.le_refl _)]; exact h0.2.2.2.2 _ (by omega)
  have hs := val_set o (i + k) c (by omega)
  rw [hz] at hs ⊢
  refine ⟨hkk, ?_⟩
  have e1 : (0 + c) % 65536 = c := by omega
  have e2 : (0 + c) / 65536 = 0 := by omega
  rw [e1, e2]
  refine ⟨by simpa using hl, dig_set hd _ _ hc, by omega, by omega, fun _ => rfl, ?_, ?_⟩
  · rw [List.take_of_length_le (show b.length ≤ k + 1 by omega)]
    rw [List.take_of_length_le (show b.length ≤ k by omega)] at hv
    omega
  · intro j hj'
    rw [getD_setN, if_neg (by omega)]
    exact hj j (by omega)

/-- the row's end -/
theorem Row.done {a b o0 o : List Nat} {i k c : Nat} (h : Row a b o0 i k o c) (h0 : Rows a b i o0) (hi : i < a.length) (hk : ¬ k < b.length) (hc0 : ¬ 0 < c) : Rows a b (i + 1) o := by
  obtain ⟨hl, hd, hc, hkb, hke, hv, hj⟩ := h
  have : c = 0 := by omega
  subst this
  rw [List.take_of_length_le (show b.length ≤ k by omega)] at hv
  refine ⟨hl, hd, by omega, ?_, ?_⟩
  · rw [val_take_succ a i hi, Nat.add_mul]
    have : a.getD i 0 * val b * 65536 ^ i = a.getD i 0 * 65536 ^ i * val b := by rw [Nat.mul_assoc, Nat.mul_assoc, Nat.mul_comm (val b)]
    omega
  · intro j hj'
    rw [hj j (by omega)]
    exact h0.2.2.2.2 j (by omega)

theorem Rows.done {a b o : List Nat} {i : Nat} (h : Rows a b i o) (hi : ¬ i < a.length) : val o = val a * val b := by
  rw [h.2.2.2.1, List.take_of_length_le (by omega)]

/- which number is above -/
def digitsF (n : Nat) : List Nat := [n % 65536, n / 65536 % 65536, n / 65536 / 65536 % 65536, n / 65536 / 65536 / 65536 % 65536]
theorem val_digitsF (n : Nat) (h : n < 18446744073709551616) : val (digitsF n) = n := by simp [digitsF, val]; omega
theorem digitsF_lt (n : Nat) : ∀ d ∈ digitsF n, d < 65536 := by simp [digitsF]; omega

/-- from the top on, above i places, both are the same -/
def Top (a b : List Nat) (i : Nat) : Prop := ∀ j, i ≤ j → a.getD j 0 = b.getD j 0

theorem val_split (l : List Nat) (i : Nat) : val l = val (l.take i) + 65536 ^ i * val (l.drop i) := by
  by_cases h : i ≤ l.length
  · conv => lhs; rw [← List.take_append_drop i l, val_append]
    simp [Nat.min_eq_left h]
  · rw [List.take_of_length_le (by omega), List.drop_eq_nil_of_le (by omega)]; simp [val]

theorem val_same : ∀ (a b : List Nat), (∀ j, a.getD j 0 = b.getD j 0) → val a = val b := by
  intro a
  induction a with
  | nil =>
    intro b
    induction b with
    | nil => intro _; rfl
    | cons d b ih =>
      intro h
      have h0 := h 0
      have := ih fun j => by simpa using h (j + 1)
      simp at h0
      simp [val] at this ⊢
      omega
  | cons x a ih =>
    intro b h
    cases b with
    | nil =>
      have h0 := h 0
      have := ih [] fun j => by simpa using h (j + 1)
      simp at h0
      simp [val] at this ⊢
      omega
    | cons y b =>
      have h0 := h 0
      have := ih b fun j => by simpa using h (j + 1)
      simp at h0
      simp [val, this, h0]

theorem getD_drop (l : List Nat) (i j : Nat) : (l.drop i).getD j 0 = l.getD (i + j) 0 := by simp [List.getD]

theorem top_done {a b : List Nat} (h : Top a b 0) : val a = val b := val_same a b fun j => h j (Nat.zero_le _)

theorem val_take_le {l : List Nat} (h : ∀ d ∈ l, d < 65536) (i : Nat) : val (l.take i) < 65536 ^ i := by
  have h1 := val_lt (l.take i) fun d hd => h d (List.mem_of_mem_take hd)
  have h2 : (l.take i).length ≤ i := List.length_take_le ..
  exact Nat.lt_of_lt_of_le h1 (Nat.pow_le_pow_right (by omega) h2)

theorem val_drop (l : List Nat) (i : Nat) : val (l.drop i) = l.getD i 0 + 65536 * val (l.drop (i + 1)) := by
  by_cases h : i < l.length
  · rw [List.drop_eq_getElem_cons h]; simp [val, List.getD, h]
  · rw [List.drop_eq_nil_of_le (by omega), List.drop_eq_nil_of_le (by omega)]; simp [val, List.getD, List.getElem?_eq_none (by omega : l.length ≤ i)]

theorem top_less {a b : List Nat} {i : Nat} (h : Top a b (i + 1)) (ha : ∀ d ∈ a, d < 65536) (hlt : a.getD i 0 < b.getD i 0) : val a < val b := by
  have e : val (a.drop (i + 1)) = val (b.drop (i + 1)) := val_same _ _ fun j => by rw [getD_drop, getD_drop]; exact h _ (by omega)
  rw [val_split a i, val_split b i, val_drop a i, val_drop b i, e, Nat.mul_add, Nat.mul_add]
  have h1 := val_take_le ha i
  have h2 : 65536 ^ i * (a.getD i 0 + 1) ≤ 65536 ^ i * b.getD i 0 := Nat.mul_le_mul_left _ hlt
  rw [Nat.mul_add] at h2
  omega

theorem top_step {a b : List Nat} {i : Nat} (h : Top a b (i + 1)) (he : a.getD i 0 = b.getD i 0) : Top a b i := by
  intro j hj
  by_cases e : j = i
  · subst e; exact he
  · exact h j (by omega)

theorem top_start (a b : List Nat) (n : Nat) (ha : a.length ≤ n) (hb : b.length ≤ n) : Top a b n := by
  intro j hj
  simp [List.getD, List.getElem?_eq_none (by omega : a.length ≤ j), List.getElem?_eq_none (by omega : b.length ≤ j)]

end Go.Proofs.YtbmjlofehbbkbaaDoor

/- Walks of the reference's numbers: digits, times, above, Prime, root, Start, Turn: what they tell, whatever world they are called in. -/
namespace Go.Proofs.YtbmjlofehbbkbaaDoor
open Go.RowKit

theorem infoU64 : (Tryd.prog.info? 26).map (fun i => (i.zero, i.size, i.bytes)) = some (some (.int .u64 0), 1, 8) := by kernel_rfl

/-- the digits l lie in a slice -/
def Dg (w : World) (v : Value) (l : List Nat) : Prop :=
  ∃ g cap, v = .slice (some ⟨g, 0, none⟩) l.length cap ∧ l.length ≤ cap ∧ cap ≤ maxLen ∧ ∀ i, i < l.length → w.cell? ⟨g, i, none⟩ = some (.int .u64 ((l.getD i 0 : Nat) : Int))

def u64s (l : List Nat) : List Value := l.map fun d => Value.int .u64 ((d : Nat) : Int)

theorem u64s_length (l : List Nat) : (u64s l).length = l.length := by simp [u64s]
theorem u64s_at {l : List Nat} {i : Nat} (h : i < l.length) : (u64s l)[i]? = some (.int .u64 ((l.getD i 0 : Nat) : Int)) := by simp [u64s, List.getD, h]
theorem u64s_set (l : List Nat) (i x : Nat) : (u64s l).set i (.int .u64 ((x : Nat) : Int)) = u64s (l.set i x) := by simp [u64s, List.map_set]

theorem Dg.of_own {w : World} {B : Nat} {v : Value} {l : List Nat} (h : w.ownsRow B 26 1 v l.length (u64s l)) (hn : 0 < l.length) : Dg w v l := by
  obtain ⟨g, cap, rfl, _, _, hc, hm⟩ := own_shape h hn
  exact ⟨g, cap, rfl, hc, hm, fun i hi => (h.cellAt i (by omega)).trans (u64s_at hi)⟩

theorem Dg.kept {w w' : World} {v : Value} {l : List Nat} (h : Dg w v l) (hb : Below w.heap.size w w') : Dg w' v l := by
  obtain ⟨g, cap, rfl, hc, hm, hcell⟩ := h
  exact ⟨g, cap, rfl, hc, hm, fun i hi => (hb.cell (block_lt_of_cell (hcell i hi))).trans (hcell i hi)⟩

def digs : Nat → Nat → List Nat
  | 0, _ => []
  | i + 1, n => digs i n ++ [n / 65536 ^ i % 65536]

theorem digs_length (i n : Nat) : (digs i n).length = i := by induction i with
  | zero => rfl
  | succ i ih => simp [digs, ih]

theorem digs_four (n : Nat) : digs 4 n = digitsF n := by
  simp [digs, digitsF, Nat.div_div_eq_div_mul]



theorem shr_dg {w : World} {v : Value} {l : List Nat} (h : Dg w v l) {i : Nat} (hi : i < l.length) : ∃ g cap, v = .slice (some ⟨g, 0, none⟩) l.length cap ∧ w.cell? ⟨g, i, none⟩ = some (.int .u64 ((l.getD i 0 : Nat) : Int)) := by
  obtain ⟨g, cap, rfl, _, _, hc⟩ := h
  exact ⟨g, cap, rfl, hc i hi⟩




end Go.Proofs.YtbmjlofehbbkbaaDoor

/- Small laws for the walks: an operation of a drawn region that is taken first; make as one operation; how a row of cells lies. -/
namespace Go.Proofs.YtbmjlofehbbkbaaDoor
open Go.RowKit

end Go.Proofs.YtbmjlofehbbkbaaDoor

/- Walks of the reference's numbers: Prime, root, Start, Turn. -/
namespace Go.Proofs.YtbmjlofehbbkbaaDoor
open Go.RowKit

theorem cnt_succ (n : Nat) (h2 : 2 ≤ n) : cntPr (n + 1) = cntPr n + if isPr n = true then 1 else 0 := by
  rw [cntPr]
  by_cases h : isPr n = true <;> simp [h, h2]

theorem cnt_mono {a b : Nat} (h : a ≤ b) : cntPr a ≤ cntPr b := by
  induction b with
  | zero => have : a = 0 := by omega
            subst this; exact Nat.le_refl _
  | succ b ih =>
    by_cases e : a = b + 1
    · subst e; exact Nat.le_refl _
    · have := ih (by omega)
      rw [cntPr]; omega




theorem val_most (n s : Nat) (hn : n < 18446744073709551616) : val (List.replicate s 0 ++ digitsF n) = n * 65536 ^ s := by
  rw [val_append, val_replicate, val_digitsF n hn, List.length_replicate, Nat.zero_add, Nat.mul_comm]

theorem most_lt (n s : Nat) : ∀ d ∈ List.replicate s 0 ++ digitsF n, d < 65536 := by
  intro d hd
  rcases List.mem_append.1 hd with h | h
  · rw [List.eq_of_mem_replicate h]; omega
  · exact digitsF_lt n d h

theorem Dg.news {w : World} {g cap n : Nat} {l : List Nat} (h : Dg w (.slice (some ⟨g, 0, none⟩) n cap) l) : n = l.length ∧ ∀ j u, (u64s l)[j]? = some u → w.cell? ((⟨g, 0, none⟩ : Addr).add j) = some u := by
  obtain ⟨g', cap', he, _, _, hc⟩ := h
  cases he
  refine ⟨rfl, fun j u hj => ?_⟩
  have hjn : j < l.length := by
    have := (List.getElem?_eq_some_iff.1 hj).1
    simpa [u64s_length] using this
  have h1 := hc j hjn
  rw [u64s_at hjn] at hj
  cases hj
  rw [show (⟨g, 0, none⟩ : Addr).add j = ⟨g, j, none⟩ by unfold Addr.add; split <;> simp_all]
  exact h1

theorem one_u64s (l : List Nat) : ∀ u ∈ u64s l, u.oneCell' = true := by
  intro u hu
  obtain ⟨x, _, rfl⟩ := List.mem_map.1 hu
  rfl

theorem Dg.most {w : World} {B s n : Nat} {v : Value} (h : w.ownsRow B 26 1 v (s + 4) (u64s (List.replicate s 0) ++ u64s (digitsF n))) : Dg w v (List.replicate s 0 ++ digitsF n) := by
  have e1 : (List.replicate s 0 ++ digitsF n).length = s + 4 := by simp [digitsF]
  have e2 : u64s (List.replicate s 0 ++ digitsF n) = u64s (List.replicate s 0) ++ u64s (digitsF n) := by simp [u64s]
  exact Dg.of_own (B := B) (by rw [e1, e2]; exact h) (by rw [e1]; omega)

theorem made_u64 (n : Nat) : (madeCells (Value.cells (.int .u64 0)) (n * 1)).toList = u64s (List.replicate n 0) := by
  rw [Nat.mul_one]
  show (madeCells #[Value.int .u64 0] n).toList = _
  rw [toList_madeCells_one]; simp [u64s]



end Go.Proofs.YtbmjlofehbbkbaaDoor

/- Walks: the words from which a digest begins and those of a block's turns: the reference's Start, Turn, Turns and the program's Start, Turn. -/
namespace Go.Proofs.YtbmjlofehbbkbaaDoor
open Go.RowKit

def u32s (l : List Nat) : List Value := l.map fun d => Value.int .u32 ((d : Nat) : Int)
theorem u32s_length (l : List Nat) : (u32s l).length = l.length := by simp [u32s]
theorem u32s_at {l : List Nat} {i : Nat} (h : i < l.length) : (u32s l)[i]? = some (.int .u32 ((l.getD i 0 : Nat) : Int)) := by simp [u32s, List.getD, h]
theorem u32s_set (l : List Nat) (i x : Nat) : (u32s l).set i (.int .u32 ((x : Nat) : Int)) = u32s (l.set i x) := by simp [u32s, List.map_set]

/-- the program's two tables, as its text lays them -/
def Laid (w : World) : Prop := w.rangeAt 0 0 (u32s startT) ∧ w.rangeAt 1 0 (u32s turnT)

theorem Laid.start {w : World} (h : Laid w) {k : Nat} (hk : k < 8) : w.cell? ⟨0, k, none⟩ = some (.int .u32 ((startT.getD k 0 : Nat) : Int)) := by
  have := h.1 k _ (u32s_at (l := startT) (by exact hk))
  simpa using this
theorem Laid.turn {w : World} (h : Laid w) {k : Nat} (hk : k < 64) : w.cell? ⟨1, k, none⟩ = some (.int .u32 ((turnT.getD k 0 : Nat) : Int)) := by
  have := h.2 k _ (u32s_at (l := turnT) (by exact hk))
  simpa using this
theorem Laid.size {w : World} (h : Laid w) : 2 ≤ w.heap.size := by
  have := block_lt_of_cell (h.turn (k := 0) (by omega))
  exact this
theorem range_kept {w w' : World} {b o : Nat} {cs : List Value} (h : w.rangeAt b o cs) (hb : Below w.heap.size w w') : w'.rangeAt b o cs := fun j v hv => by
  have := h j v hv
  exact (hb.cell (block_lt_of_cell this)).trans this
theorem Laid.kept {w w' : World} (h : Laid w) (hb : Below w.heap.size w w') : Laid w' := ⟨range_kept h.1 hb, range_kept h.2 hb⟩
theorem Laid.keptB {B : Nat} {w w' : World} (h : Laid w) (hB : 2 ≤ B) (hb : Below B w w') : Laid w' :=
  ⟨fun j v hv => (hb.cell (p := ⟨0, 0 + j, none⟩) (show 0 < B by omega)).trans (h.1 j v hv), fun j v hv => (hb.cell (p := ⟨1, 0 + j, none⟩) (show 1 < B by omega)).trans (h.2 j v hv)⟩

/-- the word of a table, noughts beside it -/
def wordAt (T : List Nat) (k : Int) : Nat := if 0 ≤ k ∧ k < T.length then T.getD k.toNat 0 else 0

theorem start_lt : ∀ k, k < 8 → startT.getD k 0 < 4294967296 := by decide +kernel
theorem turn_lt : ∀ k, k < 64 → turnT.getD k 0 < 4294967296 := by decide +kernel
theorem startT_length : startT.length = 8 := rfl
theorem turnT_length : turnT.length = 64 := rfl
theorem rootF_le (e n : Nat) : ∀ b r, rootF e n b r < r + 2 ^ b := by
  intro b
  induction b with
  | zero => intro r; simp [rootF]
  | succ b ih =>
    intro r
    rw [rootF, Nat.pow_succ]
    split
    · have := ih (r + 2 ^ b); omega
    · have := ih r; omega



theorem wordAt_in {T : List Nat} {k : Nat} (h : k < T.length) : wordAt T (k : Int) = T.getD k 0 := by
  rw [wordAt, if_pos ⟨by omega, by omega⟩]; simp
theorem wordAt_out {T : List Nat} {k : Int} (h : ¬ (0 ≤ k ∧ k < T.length)) : wordAt T k = 0 := by rw [wordAt, if_neg h]



end Go.Proofs.YtbmjlofehbbkbaaDoor

/- Walks: a word turned to the right, by the reference's turn and by the library's RotateLeft32; the program's two closures over it. -/
namespace Go.Proofs.YtbmjlofehbbkbaaDoor
open Go.RowKit

/-- a word turned to the right -/
def rot (x n : Nat) : Nat := x / 2 ^ n ||| x * 2 ^ (32 - n) % 4294967296

theorem rot_lt {x : Nat} (hx : x < 4294967296) (n : Nat) : rot x n < 4294967296 := by
  have h1 : x / 2 ^ n < 2 ^ 32 := Nat.lt_of_le_of_lt (Nat.div_le_self _ _) (by omega)
  have h2 : x * 2 ^ (32 - n) % 4294967296 < 2 ^ 32 := Nat.mod_lt _ (by omega)
  exact Nat.or_lt_two_pow h1 h2

/-- turned three times -/
def rot3 (x i j k : Nat) : Nat := (rot x i ^^^ rot x j) ^^^ rot x k
/-- turned twice, and moved -/
def rot2 (x i j k : Nat) : Nat := (rot x i ^^^ rot x j) ^^^ x / 2 ^ k

theorem xor_lt32 {x y : Nat} (hx : x < 4294967296) (hy : y < 4294967296) : x ^^^ y < 4294967296 := by
  have := Nat.xor_lt_two_pow (n := 32) (x := x) (y := y) (by omega) (by omega)
  omega
theorem and_lt32 {x y : Nat} (hx : x < 4294967296) : x &&& y < 4294967296 := Nat.lt_of_le_of_lt Nat.and_le_left hx
theorem rot3_lt {x : Nat} (hx : x < 4294967296) (i j k : Nat) : rot3 x i j k < 4294967296 := xor_lt32 (xor_lt32 (rot_lt hx _) (rot_lt hx _)) (rot_lt hx _)
theorem rot2_lt {x : Nat} (hx : x < 4294967296) (i j k : Nat) : rot2 x i j k < 4294967296 := xor_lt32 (xor_lt32 (rot_lt hx _) (rot_lt hx _)) (Nat.lt_of_le_of_lt (Nat.div_le_self _ _) hx)

theorem ret_u32 {a b : Int} (h : a = b) : Ending.returned (.int .u32 a) = .returned (.int .u32 b) := by rw [h]

theorem s_or_rot (x n : Nat) (hx : x < 4294967296) : bits .or .u32 ((x / 2 ^ n : Nat) : Int) ((x * 2 ^ (32 - n) % 4294967296 : Nat) : Int) = ((rot x n : Nat) : Int) := by
  rw [u32_or_nat _ _ (Nat.lt_of_le_of_lt (Nat.div_le_self _ _) hx) (Nat.mod_lt _ (by omega))]
  rfl

theorem or_rot' (x n : Nat) (hx : x < 4294967296) : bits .or .u32 ((x * 2 ^ (32 - n) % 4294967296 : Nat) : Int) ((x / 2 ^ n : Nat) : Int) = ((rot x n : Nat) : Int) := by
  rw [u32_or_nat _ _ (Nat.mod_lt _ (by omega)) (Nat.lt_of_le_of_lt (Nat.div_le_self _ _) hx), Nat.or_comm]
  rfl

theorem and_neg (n : Nat) (h1 : 1 ≤ n) (h2 : n ≤ 31) : bits .and .u64 (IntKind.u64.wrap (-(n : Int))) 31 = ((32 - n : Nat) : Int) := by
  have e : IntKind.u64.wrap (-(n : Int)) = ((18446744073709551616 - n : Nat) : Int) := by
    rw [IntKind.wrap_u64]; omega
  rw [e, show (31 : Int) = ((31 : Nat) : Int) from rfl, u64_and_nat _ _ (by omega) (by omega), nat_mask5]
  omega


set_option maxHeartbeats 1000000 in
theorem s_rotl_any (x n : Nat) (hx : x < 4294967296) (h1 : 1 ≤ n) (h2 : n ≤ 31) (w : World) :
    Calls Tryd.prog 79 #[.int .u32 x, .int .i64 (-(n : Int))] w fun e w' => e = .returned (.int .u32 ((rot x n : Nat) : Int)) ∧ w' = w := by
  have HR := hide (or_rot' x n hx)
  have hand := and_neg n h1 h2
  have e1 : 32 - (32 - n) = n := by omega
  go_enter Tryd.func79, Tryd.ntmps79
  go_wp2
  go_ret
  refine ⟨ret_u32 ?_, rfl⟩
  rw [← HR.out]
  congr 1 <;> simp [e1]

theorem wrap_neg (n : Nat) (h : n ≤ 31) : IntKind.i64.wrap (-(n : Int)) = -(n : Int) := by
  simp [IntKind.wrap, IntKind.bits, IntKind.signed]
  omega

theorem xor3 (a b c : Nat) (ha : a < 4294967296) (hb : b < 4294967296) (hc : c < 4294967296) : bits .xor .u32 (bits .xor .u32 (a : Int) (b : Int)) (c : Int) = (((a ^^^ b) ^^^ c : Nat) : Int) := by
  rw [u32_xor_nat a b ha hb, u32_xor_nat _ c (xor_lt32 ha hb) hc]

set_option maxHeartbeats 1000000 in
theorem s_turned_any (x i j k : Nat) (hx : x < 4294967296) (hi : 1 ≤ i ∧ i ≤ 31) (hj : 1 ≤ j ∧ j ≤ 31) (hk : 1 ≤ k ∧ k ≤ 31) (w : World) :
    Calls Tryd.prog 78 #[.int .u32 x, .int .i64 i, .int .i64 j, .int .i64 k] w fun e w' => e = .returned (.int .u32 ((rot3 x i j k : Nat) : Int)) ∧ w' = w := by
  have HX := hide (xor3 (rot x i) (rot x j) (rot x k) (rot_lt hx _) (rot_lt hx _) (rot_lt hx _))
  have C1 := hide (s_rotl_any x i hx hi.1 hi.2 w)
  have C2 := hide (s_rotl_any x j hx hj.1 hj.2 w)
  have C3 := hide (s_rotl_any x k hx hk.1 hk.2 w)
  obtain ⟨hi1, hi2⟩ := hi
  obtain ⟨hj1, hj2⟩ := hj
  obtain ⟨hk1, hk2⟩ := hk
  go_enter Tryd.func78, Tryd.ntmps78
  go_wp2_with fail
  refine C1.out.mono ?_
  rintro e w1 ⟨rfl, rfl⟩
  go_wp2_with fail
  refine C2.out.mono ?_
  rintro e w2 ⟨rfl, rfl⟩
  go_wp2_with fail
  refine C3.out.mono ?_
  rintro e w3 ⟨rfl, rfl⟩
  go_wp2
  go_ret
  exact ⟨ret_u32 HX.out, rfl⟩

set_option maxHeartbeats 1000000 in
theorem moved_any (x i j k : Nat) (hx : x < 4294967296) (hi : 1 ≤ i ∧ i ≤ 31) (hj : 1 ≤ j ∧ j ≤ 31) (hk : 1 ≤ k ∧ k ≤ 31) (w : World) :
    Calls Tryd.prog 87 #[.int .u32 x, .int .i64 i, .int .i64 j, .int .i64 k] w fun e w' => e = .returned (.int .u32 ((rot2 x i j k : Nat) : Int)) ∧ ∃ n, w' = w.drewN n := by
  obtain ⟨q, hq⟩ : ∃ q, q = x / 2 ^ k := ⟨_, rfl⟩
  have hqi : (x : Int) / 2 ^ k = (q : Int) := by rw [hq]; simp
  have HX : Hid (bits .xor .u32 (bits .xor .u32 ((rot x i : Nat) : Int) ((rot x j : Nat) : Int)) (q : Int) = ((rot2 x i j k : Nat) : Int)) := by
    show _ = _
    rw [xor3 (rot x i) (rot x j) q (rot_lt hx _) (rot_lt hx _) (by rw [hq]; exact Nat.lt_of_le_of_lt (Nat.div_le_self _ _) hx), rot2, hq]
  clear hq
  have hwi := wrap_neg i hi.2
  have hwj := wrap_neg j hj.2
  have C1 := hide (s_rotl_any x i hx hi.1 hi.2)
  have C2 := hide (s_rotl_any x j hx hj.1 hj.2)
  obtain ⟨hi1, hi2⟩ := hi
  obtain ⟨hj1, hj2⟩ := hj
  obtain ⟨hk1, hk2⟩ := hk
  go_enter Tryd.func87, Tryd.ntmps87
  go_wp2_with fail
  refine wp_region_any (by kernel_rfl) ?_
  try (change wpAny _ _ _ _ _ _ _ (World.drew _))
  refine take_dst (i := 0) (d := 9) (v := ?_) rfl rfl (by kernel_rfl) (by kernel_rfl) (by kernel_rfl) (fun _ _ _ h => h) (by rfl) ?_ ?_
  rotate_left
  · intro wZ; go_simp; first | (with_reducible rfl) | (rw [if_pos (by omega)]; with_reducible rfl) | skip
  try simp only [Act.put, List.setIfInBounds_toArray, List.set_cons_zero, List.set_cons_succ]
  refine take_dst (i := 1) (d := 10) (v := ?_) rfl rfl (by kernel_rfl) (by kernel_rfl) (by kernel_rfl) (fun _ _ _ h => h) (by rfl) ?_ ?_
  rotate_left
  · intro wZ; go_simp; first | (with_reducible rfl) | (rw [if_pos (by omega)]; with_reducible rfl) | skip
  try simp only [Act.put, List.setIfInBounds_toArray, List.set_cons_zero, List.set_cons_succ]
  refine take_dst (i := 2) (d := 11) (v := ?_) rfl rfl (by kernel_rfl) (by kernel_rfl) (by kernel_rfl) (fun _ _ _ h => h) (by rfl) ?_ ?_
  rotate_left
  · intro wZ; go_simp; first | (with_reducible rfl) | (rw [if_pos (by omega)]; with_reducible rfl) | skip
  try simp only [Act.put, List.setIfInBounds_toArray, List.set_cons_zero, List.set_cons_succ]
  refine take_dst (i := 4) (d := 13) (v := ?_) rfl rfl (by kernel_rfl) (by kernel_rfl) (by kernel_rfl) (fun _ _ _ h => h) (by rfl) ?_ ?_
  rotate_left
  · intro wZ; go_simp; first | (with_reducible rfl) | (rw [if_pos (by omega)]; with_reducible rfl) | skip
  try simp only [Act.put, List.setIfInBounds_toArray, List.set_cons_zero, List.set_cons_succ]
  refine take_dst (i := 5) (d := 14) (v := ?_) rfl rfl (by kernel_rfl) (by kernel_rfl) (by kernel_rfl) (fun _ _ _ h => h) (by rfl) ?_ ?_
  rotate_left
  · intro wZ; go_simp; first | (with_reducible rfl) | (rw [if_pos (by omega)]; with_reducible rfl) | skip
  try simp only [Act.put, List.setIfInBounds_toArray, List.set_cons_zero, List.set_cons_succ]
  refine take_dst (i := 6) (d := 15) (v := ?_) rfl rfl (by kernel_rfl) (by kernel_rfl) (by kernel_rfl) (fun _ _ _ h => h) (by rfl) ?_ ?_
  rotate_left
  · intro wZ; go_simp; first | (with_reducible rfl) | (rw [if_pos (by omega)]; with_reducible rfl) | skip
  try simp only [Act.put, List.setIfInBounds_toArray, List.set_cons_zero, List.set_cons_succ]
  refine take_dst (i := 9) (d := 18) (v := ?_) rfl rfl (by kernel_rfl) (by kernel_rfl) (by kernel_rfl) (fun _ _ _ h => h) (by rfl) ?_ ?_
  rotate_left
  · intro wZ; go_simp; first | (with_reducible rfl) | (rw [if_pos (by omega)]; with_reducible rfl) | skip
  try simp only [Act.put, List.setIfInBounds_toArray, List.set_cons_zero, List.set_cons_succ]
  refine take_dst (i := 10) (d := 19) (v := ?_) rfl rfl (by kernel_rfl) (by kernel_rfl) (by kernel_rfl) (fun _ _ _ h => h) (by rfl) ?_ ?_
  rotate_left
  · intro wZ; go_simp; first | (with_reducible rfl) | (rw [if_pos (by omega)]; with_reducible rfl) | skip
  try simp only [Act.put, List.setIfInBounds_toArray, List.set_cons_zero, List.set_cons_succ]
  refine take_dst (i := 11) (d := 20) (v := ?_) rfl rfl (by kernel_rfl) (by kernel_rfl) (by kernel_rfl) (fun _ _ _ h => h) (by rfl) ?_ ?_
  rotate_left
  · intro wZ; go_simp; first | (with_reducible rfl) | (rw [if_pos (by omega)]; with_reducible rfl) | skip
  try simp only [Act.put, List.setIfInBounds_toArray, List.set_cons_zero, List.set_cons_succ]
  refine wpAny_ready (rs := [3]) (by kernel_rfl) (by simp) ?_
  refine (AllReady.cons rfl (fun K hK => ?_) AllReady.nil)
  go_simp
  go_wp2_with ((go_at_call 79; refine (C1.out _).mono ?_; rintro e w1 ⟨rfl, hw⟩; subst hw))
  first | (refine hK _ _ ?_; clear hK K) | (clear hK K) | skip
  try simp only [Act.put, List.setIfInBounds_toArray, List.set_cons_zero, List.set_cons_succ]
  refine wpAny_ready (rs := [7]) (by kernel_rfl) (by simp) ?_
  refine (AllReady.cons rfl (fun K hK => ?_) AllReady.nil)
  go_simp
  go_wp2_with ((go_at_call 79; refine (C2.out _).mono ?_; rintro e w1 ⟨rfl, hw⟩; subst hw))
  first | (refine hK _ _ ?_; clear hK K) | (clear hK K) | skip
  try simp only [Act.put, List.setIfInBounds_toArray, List.set_cons_zero, List.set_cons_succ]
  refine take_dst (i := 8) (d := 17) (v := ?_) rfl rfl (by kernel_rfl) (by kernel_rfl) (by kernel_rfl) (fun _ _ _ h => h) (by rfl) ?_ ?_
  rotate_left
  · intro wZ; go_simp; first | (with_reducible rfl) | (rw [if_pos (by omega)]; with_reducible rfl) | skip
  try simp only [Act.put, List.setIfInBounds_toArray, List.set_cons_zero, List.set_cons_succ]
  refine take_dst (i := 12) (d := 21) (v := ?_) rfl rfl (by kernel_rfl) (by kernel_rfl) (by kernel_rfl) (fun _ _ _ h => h) (by rfl) ?_ ?_
  rotate_left
  · intro wZ; go_simp; first | (with_reducible rfl) | (rw [if_pos (by omega)]; with_reducible rfl) | skip
  try simp only [Act.put, List.setIfInBounds_toArray, List.set_cons_zero, List.set_cons_succ]
  refine take_dst (i := 13) (d := 8) (v := ?_) rfl rfl (by kernel_rfl) (by kernel_rfl) (by kernel_rfl) (fun _ _ _ h => h) (by rfl) ?_ ?_
  rotate_left
  · intro wZ; go_simp; first | (with_reducible rfl) | (rw [if_pos (by omega)]; with_reducible rfl) | skip
  try simp only [Act.put, List.setIfInBounds_toArray, List.set_cons_zero, List.set_cons_succ]
  refine wpAny_done (by kernel_rfl) ?_ _
  all_goals
    go_wp2
    go_ret
    exact ⟨ret_u32 HX.out, 1, rfl⟩

end Go.Proofs.YtbmjlofehbbkbaaDoor

/- How an array lies in memory; a walk: the reference's Turns, all words of a block's turns as an array. -/
namespace Go.Proofs.YtbmjlofehbbkbaaDoor
open Go.RowKit

theorem one_u32s (l : List Nat) : (u32s l).toArray.all (·.oneCell') = true := by
  apply all_oneCell_toArray
  intro v hv
  obtain ⟨x, _, rfl⟩ := List.mem_map.1 hv
  rfl

theorem info31 : (Tryd.prog.info? 140).map (·.size) = some 64 := by kernel_rfl
theorem info26 : (Tryd.prog.info? 121).map (·.size) = some 8 := by kernel_rfl

theorem zeros64 : u32s (part turnT 64 0) = u32s (List.replicate 64 0) := by simp [part]


end Go.Proofs.YtbmjlofehbbkbaaDoor

/- Plain facts, with nothing of the program in them: a block's spread, its turns, the block taken into eight words; bytes of a digest. -/
namespace Go.Proofs.YtbmjlofehbbkbaaDoor
open Go.RowKit

/-- four bytes as a word -/
def w4 (b : List Nat) (i : Nat) : Nat := b.getD (4 * i) 0 * 16777216 + b.getD (4 * i + 1) 0 * 65536 + b.getD (4 * i + 2) 0 * 256 + b.getD (4 * i + 3) 0

/-- the next word of a spread -/
def nextW (b l : List Nat) (i : Nat) : Nat :=
  if i < 16 then w4 b i else (l.getD (i - 16) 0 + rot2 (l.getD (i - 15) 0) 7 18 3 + l.getD (i - 7) 0 + rot2 (l.getD (i - 2) 0) 17 19 10) % 4294967296

def ws (b : List Nat) : Nat → List Nat
  | 0 => []
  | i + 1 => ws b i ++ [nextW b (ws b i) i]

/-- a block's spread -/
def spreadF (b : List Nat) : List Nat := ws b 64

theorem ws_length (b : List Nat) (i : Nat) : (ws b i).length = i := by induction i with
  | zero => rfl
  | succ i ih => simp [ws, ih]

theorem ws_take (b : List Nat) : ∀ n i, i ≤ n → (ws b n).take i = ws b i := by
  intro n
  induction n with
  | zero => intro i hi; have : i = 0 := by omega
            subst this; rfl
  | succ n ih =>
    intro i hi
    by_cases e : i = n + 1
    · subst e; rw [List.take_of_length_le (by rw [ws_length]; omega)]
    · rw [ws, List.take_append_of_le_length (by rw [ws_length]; omega), ih i (by omega)]

theorem getD_take (l : List Nat) (i j : Nat) (h : j < i) : (l.take i).getD j 0 = l.getD j 0 := by
  simp [List.getD, h]

theorem nextW_take (b l : List Nat) (i : Nat) : nextW b (l.take i) i = nextW b l i := by
  unfold nextW
  by_cases h : i < 16
  · rw [if_pos h, if_pos h]
  · rw [if_neg h, if_neg h, getD_take _ _ _ (by omega), getD_take _ _ _ (by omega), getD_take _ _ _ (by omega), getD_take _ _ _ (by omega)]

theorem spread_length (b : List Nat) : (spreadF b).length = 64 := ws_length b 64

theorem spread_at (b : List Nat) (i : Nat) (hi : i < 64) : (spreadF b).getD i 0 = nextW b (spreadF b) i := by
  have h1 : (spreadF b).getD i 0 = (ws b (i + 1)).getD i 0 := by
    rw [← ws_take b 64 (i + 1) (by omega), getD_take _ _ _ (by omega)]; rfl
  rw [h1, ws]
  have h2 : (ws b i ++ [nextW b (ws b i) i]).getD i 0 = nextW b (ws b i) i := by
    simp [List.getD, ws_length]
  rw [h2, ← ws_take b 64 i (by omega)]
  exact nextW_take b _ i

theorem byte_getD {b : List Nat} (h : ∀ x ∈ b, x < 256) (j : Nat) : b.getD j 0 < 256 := by
  by_cases hj : j < b.length
  · simp only [List.getD, List.getElem?_eq_getElem hj, Option.getD_some]; exact h _ (List.getElem_mem hj)
  · simp [List.getD, List.getElem?_eq_none (by omega : b.length ≤ j)]

theorem w4_lt {b : List Nat} (h : ∀ x ∈ b, x < 256) (i : Nat) : w4 b i < 4294967296 := by
  have h1 := byte_getD h (4 * i)
  have h2 := byte_getD h (4 * i + 1)
  have h3 := byte_getD h (4 * i + 2)
  have h4 := byte_getD h (4 * i + 3)
  unfold w4
  omega

theorem spread_lt {b : List Nat} (h : ∀ x ∈ b, x < 256) (i : Nat) : (spreadF b).getD i 0 < 4294967296 := by
  by_cases hi : i < 64
  · rw [spread_at b i hi, nextW]
    split
    · exact w4_lt h i
    · exact Nat.mod_lt _ (by omega)
  · have : (spreadF b).getD i 0 = 0 := by simp [List.getD, List.getElem?_eq_none (show (spreadF b).length ≤ i by rw [spread_length]; omega)]
    omega

/-- words -/
def Words (l : List Nat) : Prop := ∀ x ∈ l, x < 4294967296

theorem Words.getD {l : List Nat} (h : Words l) (j : Nat) : l.getD j 0 < 4294967296 := by
  by_cases hj : j < l.length
  · simp only [List.getD, List.getElem?_eq_getElem hj, Option.getD_some]; exact h _ (List.getElem_mem hj)
  · simp [List.getD, List.getElem?_eq_none (by omega : l.length ≤ j)]

def chF (e f g : Nat) : Nat := (e &&& f) ^^^ ((4294967295 ^^^ e) &&& g)
def majF (a b c : Nat) : Nat := ((a &&& b) ^^^ (a &&& c)) ^^^ (b &&& c)
def s_uF (e f g h k w : Nat) : Nat := (h + rot3 e 6 11 25 + chF e f g + k + w) % 4294967296
def vF (a b c : Nat) : Nat := (rot3 a 2 13 22 + majF a b c) % 4294967296

/-- a turn of eight words -/
def stepW (x : List Nat) (k w : Nat) : List Nat :=
  [(s_uF (x.getD 4 0) (x.getD 5 0) (x.getD 6 0) (x.getD 7 0) k w + vF (x.getD 0 0) (x.getD 1 0) (x.getD 2 0)) % 4294967296, x.getD 0 0, x.getD 1 0, x.getD 2 0,
   (x.getD 3 0 + s_uF (x.getD 4 0) (x.getD 5 0) (x.getD 6 0) (x.getD 7 0) k w) % 4294967296, x.getD 4 0, x.getD 5 0, x.getD 6 0]

/-- so many turns -/
def turnsF (h b : List Nat) : Nat → List Nat
  | 0 => h
  | i + 1 => stepW (turnsF h b i) (turnT.getD i 0) ((spreadF b).getD i 0)

/-- word by word, added -/
def addW (x h : List Nat) : List Nat := (List.range 8).map fun i => (x.getD i 0 + h.getD i 0) % 4294967296

/-- a block taken into eight words -/
def blockF (h b : List Nat) : List Nat := addW (turnsF h b 64) h

theorem stepW_length (x : List Nat) (k w : Nat) : (stepW x k w).length = 8 := rfl
theorem stepW_words {x : List Nat} (h : Words x) (k w : Nat) : Words (stepW x k w) := by
  intro y hy
  simp only [stepW, List.mem_cons, List.not_mem_nil, or_false] at hy
  rcases hy with e | e | e | e | e | e | e | e
  · subst e; exact Nat.mod_lt _ (by omega)
  · subst e; exact h.getD _
  · subst e; exact h.getD _
  · subst e; exact h.getD _
  · subst e; exact Nat.mod_lt _ (by omega)
  · subst e; exact h.getD _
  · subst e; exact h.getD _
  · subst e; exact h.getD _
theorem turnsF_length {h b : List Nat} (hl : h.length = 8) (i : Nat) : (turnsF h b i).length = 8 := by
  cases i with
  | zero => exact hl
  | succ i => rfl
theorem turnsF_words {h b : List Nat} (hw : Words h) (i : Nat) : Words (turnsF h b i) := by
  induction i with
  | zero => exact hw
  | succ i ih => exact stepW_words ih _ _
theorem blockF_length (h b : List Nat) : (blockF h b).length = 8 := by simp [blockF, addW]
theorem blockF_words (h b : List Nat) : Words (blockF h b) := by
  intro y hy
  simp only [blockF, addW, List.mem_map] at hy
  obtain ⟨i, _, rfl⟩ := hy
  exact Nat.mod_lt _ (by omega)

theorem eight {l : List Nat} (h : l.length = 8) : ∃ a b c d e f g h, l = [a, b, c, d, e, f, g, h] := by
  match l, h with
  | [a, b, c, d, e, f, g, h], _ => exact ⟨a, b, c, d, e, f, g, h, rfl⟩

theorem chF_lt {e f g : Nat} (he : e < 4294967296) : chF e f g < 4294967296 := xor_lt32 (and_lt32 he) (and_lt32 (xor_lt32 (by omega) he))
theorem majF_lt {a b c : Nat} (ha : a < 4294967296) (hb : b < 4294967296) : majF a b c < 4294967296 := xor_lt32 (xor_lt32 (and_lt32 ha) (and_lt32 ha)) (and_lt32 hb)

theorem ch_eq (e f g : Nat) (he : e < 4294967296) (hf : f < 4294967296) (hg : g < 4294967296) :
    bits .xor .u32 (bits .and .u32 (e : Int) (f : Int)) (bits .and .u32 (bits .xor .u32 IntKind.u32.max (e : Int)) (g : Int)) = ((chF e f g : Nat) : Int) := by
  rw [show IntKind.u32.max = ((4294967295 : Nat) : Int) from rfl, u32_and_nat e f he hf, u32_xor_nat 4294967295 e (by omega) he, u32_and_nat _ g (xor_lt32 (by omega) he) hg, u32_xor_nat _ _ (and_lt32 he) (and_lt32 (xor_lt32 (by omega) he))]
  rfl
theorem maj_eq (a b c : Nat) (ha : a < 4294967296) (hb : b < 4294967296) (hc : c < 4294967296) :
    bits .xor .u32 (bits .xor .u32 (bits .and .u32 (a : Int) (b : Int)) (bits .and .u32 (a : Int) (c : Int))) (bits .and .u32 (b : Int) (c : Int)) = ((majF a b c : Nat) : Int) := by
  rw [u32_and_nat a b ha hb, u32_and_nat a c ha hc, u32_and_nat b c hb hc, u32_xor_nat _ _ (and_lt32 ha) (and_lt32 ha), u32_xor_nat _ _ (xor_lt32 (and_lt32 ha) (and_lt32 ha)) (and_lt32 hb)]
  rfl
theorem u_eq (e f g h k w : Nat) :
    IntKind.u32.wrap (IntKind.u32.wrap (IntKind.u32.wrap (IntKind.u32.wrap ((h : Int) + ((rot3 e 6 11 25 : Nat) : Int)) + ((chF e f g : Nat) : Int)) + (k : Int)) + (w : Int)) = ((s_uF e f g h k w : Nat) : Int) := by
  simp only [IntKind.wrap_u32', s_uF]
  omega
theorem v_eq (a b c : Nat) : IntKind.u32.wrap (((rot3 a 2 13 22 : Nat) : Int) + ((majF a b c : Nat) : Int)) = ((vF a b c : Nat) : Int) := by
  simp only [IntKind.wrap_u32', vF]
  omega

/-- so many of the eight sums -/
def addTo (x h : List Nat) (i : Nat) : List Nat := (addW x h).take i ++ x.drop i
theorem addTo_zero (x h : List Nat) : addTo x h 0 = x := by simp [addTo]
theorem addTo_full (x h : List Nat) (hx : x.length = 8) : addTo x h 8 = addW x h := by
  rw [addTo, List.take_of_length_le (by simp [addW]), List.drop_eq_nil_of_le (by omega), List.append_nil]
theorem addTo_length (x h : List Nat) (hx : x.length = 8) (i : Nat) (hi : i ≤ 8) : (addTo x h i).length = 8 := by simp [addTo, addW, hx]; omega
theorem addTo_at (x h : List Nat) (i : Nat) (hi : i < 8) : (addTo x h i).getD i 0 = x.getD i 0 := by
  simp [addTo, addW, List.getD, List.getElem?_append, Nat.min_eq_left (Nat.le_of_lt hi)]
theorem addTo_set (x h : List Nat) (hx : x.length = 8) (i : Nat) (hi : i < 8) : (addTo x h i).set i ((x.getD i 0 + h.getD i 0) % 4294967296) = addTo x h (i + 1) := by
  apply List.ext_getElem
  · simp [addTo, addW, hx]; omega
  · intro k h1 h2
    simp only [addTo, addW, List.getElem_set, List.getElem_append, List.length_take, List.length_map, List.length_range]
    by_cases e : i = k
    · subst e
      simp [show i < min (i + 1) 8 by omega]
    · by_cases hk : k < i
      · simp [e, show k < min i 8 by omega, show k < min (i + 1) 8 by omega]
      · simp [e, show ¬ k < min i 8 by omega, show ¬ k < min (i + 1) 8 by omega]
        congr 1
        omega

end Go.Proofs.YtbmjlofehbbkbaaDoor
