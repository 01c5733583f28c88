/-
  Plain facts on bytes, with nothing of the program in them: a product of bytes, a byte's other, a byte swapped.
-/
import Derived.WalkKit
namespace Go.Proofs.Ytflakgigekfgcaa
open Go.RowKit

/-- all numbers below n meet f -/
def allB : Nat → (Nat → Bool) → Bool
  | 0, _ => true
  | n + 1, f => f n && allB n f

theorem allB_at {f : Nat → Bool} : ∀ {n : Nat}, allB n f = true → ∀ i, i < n → f i = true := by
  intro n
  induction n with
  | zero => intro _ i hi; omega
  | succ n ih =>
    intro h i hi
    simp only [allB, Bool.and_eq_true] at h
    by_cases e : i = n
    · subst e; exact h.1
    · exact ih h.2 i (by omega)

theorem allB2 {f : Nat → Nat → Bool} {n m : Nat} (h : allB n (fun i => allB m (f i)) = true) (i j : Nat) (hi : i < n) (hj : j < m) : f i j = true := allB_at (allB_at h i hi) j hj

/-- a byte times x -/
def dblF (a : Nat) : Nat := if a < 128 then 2 * a else (2 * a - 256) ^^^ 27

/-- a product, so many bits -/
def tmG : Nat → Nat → Nat → Nat → Nat
  | 0, _, _, p => p
  | n + 1, a, b, p => tmG n (dblF a) (b / 2) (if b % 2 = 1 then p ^^^ a else p)

def tmF (a b : Nat) : Nat := tmG 8 a b 0

theorem tmG_zero (n a p : Nat) : tmG n a 0 p = p := by
  induction n generalizing a p with
  | zero => rfl
  | succ n ih => simp [tmG, ih]

theorem xor_lt8 {x y : Nat} (hx : x < 256) (hy : y < 256) : x ^^^ y < 256 := Nat.xor_lt_two_pow (n := 8) hx hy

theorem dblF_lt {a : Nat} (h : a < 256) : dblF a < 256 := by
  unfold dblF
  split
  · omega
  · exact xor_lt8 (by omega) (by omega)

theorem tmG_lt : ∀ (n a b p : Nat), a < 256 → p < 256 → tmG n a b p < 256 := by
  intro n
  induction n with
  | zero => intro a b p _ hp; exact hp
  | succ n ih =>
    intro a b p ha hp
    refine ih _ _ _ (dblF_lt ha) ?_
    split
    · exact xor_lt8 hp ha
    · exact hp

theorem tmF_lt {a : Nat} (b : Nat) (ha : a < 256) : tmF a b < 256 := tmG_lt 8 a b 0 ha (by omega)

/-- the bit that falls out -/
def outF (a : Nat) : Nat := if a / 128 = 0 then 0 else 283

theorem dbl_as {a : Nat} (ha : a < 256) : dblF a = a * 2 ^^^ outF a := by
  have h : allB 256 (fun i => dblF i == (i * 2 ^^^ outF i)) = true := by decide +kernel
  simpa using allB_at h a ha

theorem xor_div (a b n : Nat) : (a ^^^ b) / 2 ^ n = a / 2 ^ n ^^^ b / 2 ^ n := by
  rw [← Nat.shiftRight_eq_div_pow, ← Nat.shiftRight_eq_div_pow, ← Nat.shiftRight_eq_div_pow, Nat.shiftRight_xor_distrib]

theorem xor_mul2 (a b : Nat) : (a ^^^ b) * 2 = a * 2 ^^^ b * 2 := by
  have h : ∀ x : Nat, x * 2 = x <<< 1 := fun x => by rw [Nat.shiftLeft_eq]
  rw [h, h, h, Nat.shiftLeft_xor_distrib]

theorem out_xor {a b : Nat} (ha : a < 256) (hb : b < 256) : outF (a ^^^ b) = outF a ^^^ outF b := by
  have e : (a ^^^ b) / 128 = a / 128 ^^^ b / 128 := xor_div a b 7
  unfold outF
  rw [e]
  have h1 : a / 128 = 0 ∨ a / 128 = 1 := by omega
  have h2 : b / 128 = 0 ∨ b / 128 = 1 := by omega
  rcases h1 with h1 | h1 <;> rcases h2 with h2 | h2 <;> rw [h1, h2] <;> rfl

theorem xor_four (a b c d : Nat) : (a ^^^ b) ^^^ (c ^^^ d) = (a ^^^ c) ^^^ (b ^^^ d) := by
  rw [Nat.xor_assoc, Nat.xor_assoc, ← Nat.xor_assoc b c d, Nat.xor_comm b c, Nat.xor_assoc]

theorem dbl_xor {a b : Nat} (ha : a < 256) (hb : b < 256) : dblF (a ^^^ b) = dblF a ^^^ dblF b := by
  rw [dbl_as ha, dbl_as hb, dbl_as (xor_lt8 ha hb), xor_mul2, out_xor ha hb, xor_four]

theorem tmG_linear : ∀ (n a a' b p p' : Nat), a < 256 → a' < 256 → tmG n (a ^^^ a') b (p ^^^ p') = tmG n a b p ^^^ tmG n a' b p' := by
  intro n
  induction n with
  | zero => intros; rfl
  | succ n ih =>
    intro a a' b p p' ha ha'
    simp only [tmG]
    rw [dbl_xor ha ha']
    split
    · rw [xor_four]
      exact ih _ _ _ _ _ (dblF_lt ha) (dblF_lt ha')
    · exact ih _ _ _ _ _ (dblF_lt ha) (dblF_lt ha')

/-- a product goes through exclusive or -/
theorem tm_xor_left {a a' : Nat} (b : Nat) (ha : a < 256) (ha' : a' < 256) : tmF (a ^^^ a') b = tmF a b ^^^ tmF a' b := by
  have := tmG_linear 8 a a' b 0 0 ha ha'
  rw [Nat.xor_zero] at this
  exact this

theorem tmG_right : ∀ (n a b c p q : Nat), tmG n a (b ^^^ c) (p ^^^ q) = tmG n a b p ^^^ tmG n a c q := by
  intro n
  induction n with
  | zero => intros; rfl
  | succ n ih =>
    intro a b c p q
    simp only [tmG]
    have e1 : (b ^^^ c) / 2 = b / 2 ^^^ c / 2 := xor_div b c 1
    have e2 : (b ^^^ c) % 2 = (b % 2) ^^^ (c % 2) := Nat.xor_mod_two_pow (n := 1)
    rw [e1, e2]
    have h1 : b % 2 = 0 ∨ b % 2 = 1 := by omega
    have h2 : c % 2 = 0 ∨ c % 2 = 1 := by omega
    rcases h1 with h1 | h1 <;> rcases h2 with h2 | h2 <;> rw [h1, h2, ← ih] <;> congr 1
    · rw [if_pos (by decide), if_neg (by decide), if_pos rfl, Nat.xor_assoc]
    · rw [if_pos (by decide), if_pos rfl, if_neg (by decide), Nat.xor_assoc, Nat.xor_assoc, Nat.xor_comm q a]
    · rw [if_neg (by decide), if_pos rfl, if_pos rfl, xor_four, Nat.xor_self, Nat.xor_zero]

theorem tm_xor_right (a b c : Nat) : tmF a (b ^^^ c) = tmF a b ^^^ tmF a c := by
  have := tmG_right 8 a b c 0 0
  rw [Nat.xor_zero] at this
  exact this

/-- what goes through exclusive or is told by eight bytes -/
theorem ext8 (f g : Nat → Nat) (hf : ∀ b c, b < 256 → c < 256 → f (b ^^^ c) = f b ^^^ f c) (hg : ∀ b c, b < 256 → c < 256 → g (b ^^^ c) = g b ^^^ g c) (h0 : f 0 = g 0) (hk : ∀ k, k < 8 → f (2 ^ k) = g (2 ^ k)) : ∀ b, b < 256 → f b = g b := by
  have H : ∀ n, n ≤ 8 → ∀ b, b < 2 ^ n → f b = g b := by
    intro n
    induction n with
    | zero => intro _ b hb; have : b = 0 := by omega
              rw [this, h0]
    | succ n ih =>
      intro hn b hb
      by_cases h : b < 2 ^ n
      · exact ih (by omega) b h
      · have hs : allB 8 (fun n => allB (2 ^ n) fun c => 2 ^ n + c == (2 ^ n ^^^ c) && (decide (2 ^ n < 256) && decide (c < 256))) = true := by decide +kernel
        have hc : b - 2 ^ n < 2 ^ n := by rw [Nat.pow_succ] at hb; omega
        have h1 := allB_at (allB_at hs n (by omega)) (b - 2 ^ n) hc
        simp only [Bool.and_eq_true, beq_iff_eq, decide_eq_true_eq] at h1
        have e : b = 2 ^ n ^^^ (b - 2 ^ n) := by rw [← h1.1]; omega
        rw [e, hf _ _ h1.2.1 h1.2.2, hg _ _ h1.2.1 h1.2.2, hk n (by omega), ih (by omega) _ hc]
  exact H 8 (Nat.le_refl _)

theorem zero_tm (b : Nat) : tmF 0 b = 0 := by
  have h := tm_xor_left (a := 0) (a' := 0) b (by omega) (by omega)
  rw [Nat.xor_self] at h
  have := Nat.xor_self (tmF 0 b)
  rw [← h] at this
  exact this

theorem tm_comm {a b : Nat} (ha : a < 256) (hb : b < 256) : tmF a b = tmF b a := by
  refine ext8 (fun b => tmF a b) (fun b => tmF b a) (fun b c _ _ => tm_xor_right a b c) (fun b c h1 h2 => tm_xor_left a h1 h2) ?_ ?_ b hb
  · show tmF a 0 = tmF 0 a
    rw [zero_tm]; exact tmG_zero 8 a 0
  · intro k hk
    have h : allB 256 (fun i => allB 8 fun k => tmF i (2 ^ k) == tmF (2 ^ k) i) = true := by decide +kernel
    simpa using allB2 h a k ha hk

theorem tm_dbl {a b : Nat} (ha : a < 256) (hb : b < 256) : tmF a (dblF b) = dblF (tmF a b) := by
  refine ext8 (fun b => tmF a (dblF b)) (fun b => dblF (tmF a b)) (fun b c h1 h2 => ?_) (fun b c h1 h2 => ?_) ?_ ?_ b hb
  · show tmF a (dblF (b ^^^ c)) = _
    rw [dbl_xor h1 h2, tm_xor_right]
  · show dblF (tmF a (b ^^^ c)) = _
    rw [tm_xor_right, dbl_xor (tmF_lt b ha) (tmF_lt c ha)]
  · show tmF a (dblF 0) = dblF (tmF a 0)
    have : tmF a 0 = 0 := tmG_zero 8 a 0
    rw [this, show dblF 0 = 0 from rfl, this]
  · intro k hk
    have h : allB 256 (fun i => allB 8 fun k => tmF i (dblF (2 ^ k)) == dblF (tmF i (2 ^ k))) = true := by decide +kernel
    simpa using allB2 h a k ha hk

theorem tm_zero (a : Nat) : tmF a 0 = 0 := tmG_zero 8 a 0

theorem zero_dbl : dblF 0 = 0 := rfl

theorem tmG_acc (n a b p : Nat) (ha : a < 256) : tmG n a b p = p ^^^ tmG n a b 0 := by
  have h0 := tmG_linear n 0 a b p 0 (by omega) ha
  have hz : ∀ m b p, tmG m 0 b p = p := by
    intro m
    induction m with
    | zero => intros; rfl
    | succ m ih => intro b p; simp only [tmG, zero_dbl, ih]; split <;> simp
  rw [hz] at h0
  simpa using h0

/-- a product does not hang on grouping -/
theorem tmG_assoc : ∀ (n a b c : Nat), a < 256 → b < 256 → tmG n (tmF a b) c 0 = tmF a (tmG n b c 0) := by
  intro n
  induction n with
  | zero => intro a b c _ _; exact (tm_zero a).symm
  | succ n ih =>
    intro a b c ha hb
    simp only [tmG, Nat.zero_xor]
    have e1 := ih a (dblF b) (c / 2) ha (dblF_lt hb)
    rw [tm_dbl ha hb] at e1
    split
    · rw [tmG_acc n _ _ (tmF a b) (dblF_lt (tmF_lt b ha)), tmG_acc n _ _ b (dblF_lt hb), e1, tm_xor_right]
    · exact e1

theorem tm_assoc {a b c : Nat} (ha : a < 256) (hb : b < 256) : tmF (tmF a b) c = tmF a (tmF b c) := tmG_assoc 8 a b c ha hb

theorem tm_one {a : Nat} (ha : a < 256) : tmF a 1 = a := by
  have h : allB 256 (fun i => tmF i 1 == i) = true := by decide +kernel
  simpa using allB_at h a ha

theorem tm_two {a : Nat} (ha : a < 256) : tmF a 2 = dblF a := by
  have h : allB 256 (fun i => tmF i 2 == dblF i) = true := by decide +kernel
  simpa using allB_at h a ha

/-- a byte's other, looked for from b on -/
def otG (a : Nat) : Nat → Nat → Nat
  | 0, _ => 0
  | n + 1, b => if tmF a b = 1 then b else otG a n (b + 1)

def otF (a : Nat) : Nat := otG a 256 0

def otT : List Nat := [0, 1, 141, 246, 203, 82, 123, 209, 232, 79, 41, 192, 176, 225, 229, 199, 116, 180, 170, 75, 153, 43, 96, 95, 88, 63, 253, 204, 255, 64, 238, 178, 58, 110, 90, 241, 85, 77, 168, 201, 193, 10, 152, 21, 48, 68, 162, 194, 44, 69, 146, 108, 243, 57, 102, 66, 242, 53, 32, 111, 119, 187, 89, 25, 29, 254, 55, 103, 45, 49, 245, 105, 167, 100, 171, 19, 84, 37, 233, 9, 237, 92, 5, 202, 76, 36, 135, 191, 24, 62, 34, 240, 81, 236, 97, 23, 22, 94, 175, 211, 73, 166, 54, 67, 244, 71, 145, 223, 51, 147, 33, 59, 121, 183, 151, 133, 16, 181, 186, 60, 182, 112, 208, 6, 161, 250, 129, 130, 131, 126, 127, 128, 150, 115, 190, 86, 155, 158, 149, 217, 247, 2, 185, 164, 222, 106, 50, 109, 216, 138, 132, 114, 42, 20, 159, 136, 249, 220, 137, 154, 251, 124, 46, 195, 143, 184, 101, 72, 38, 200, 18, 74, 206, 231, 210, 98, 12, 224, 31, 239, 17, 117, 120, 113, 165, 142, 118, 61, 189, 188, 134, 87, 11, 40, 47, 163, 218, 212, 228, 15, 169, 39, 83, 4, 27, 252, 172, 230, 122, 7, 174, 99, 197, 219, 226, 234, 148, 139, 196, 213, 157, 248, 144, 107, 177, 13, 214, 235, 198, 14, 207, 173, 8, 78, 215, 227, 93, 80, 30, 179, 91, 35, 56, 52, 104, 70, 3, 140, 221, 156, 125, 160, 205, 26, 65, 28]

theorem otT_length : otT.length = 256 := by decide +kernel

theorem ot_is {a : Nat} (ha : a < 256) : otF a = otT.getD a 0 := by
  have h : allB 256 (fun i => otF i == otT.getD i 0) = true := by decide +kernel
  simpa using allB_at h a ha

theorem otT_lt : ∀ x ∈ otT, x < 256 := by decide +kernel

theorem getD_lt {l : List Nat} {n : Nat} (h : ∀ x ∈ l, x < n) (hn : 0 < n) (i : Nat) : l.getD i 0 < n := by
  by_cases hi : i < l.length
  · simp only [List.getD, List.getElem?_eq_getElem hi, Option.getD_some]; exact h _ (List.getElem_mem hi)
  · simpa [List.getD, List.getElem?_eq_none (by omega : l.length ≤ i)] using hn

theorem ot_lt {a : Nat} (ha : a < 256) : otF a < 256 := by rw [ot_is ha]; exact getD_lt otT_lt (by omega) a

theorem tm_ot {a : Nat} (ha : a < 256) (h0 : a ≠ 0) : tmF a (otF a) = 1 := by
  rw [ot_is ha]
  have h : allB 256 (fun i => i == 0 || tmF i (otT.getD i 0) == 1) = true := by decide +kernel
  simpa [h0] using allB_at h a ha

theorem ot_zero : otF 0 = 0 := by rw [ot_is (by omega)]; rfl
theorem ot_nz {a : Nat} (ha : a < 256) (h0 : a ≠ 0) : otF a ≠ 0 := by
  intro h
  have := tm_ot ha h0
  rw [h, tm_zero] at this
  cases this

/-- each byte but 0 has one other -/
theorem ot_one {a b : Nat} (ha : a < 256) (hb : b < 256) (h0 : a ≠ 0) : tmF a b = 1 ↔ b = otF a := by
  constructor
  · intro h
    have h1 : tmF (tmF (otF a) a) b = tmF (otF a) (tmF a b) := tm_assoc (ot_lt ha) ha
    rw [h, tm_comm (ot_lt ha) ha, tm_ot ha h0, tm_one (ot_lt ha), tm_comm (by omega) hb, tm_one hb] at h1
    exact h1
  · intro h; rw [h]; exact tm_ot ha h0

theorem ot_ot {a : Nat} (ha : a < 256) (h0 : a ≠ 0) : otF (otF a) = a := by
  have h := tm_ot ha h0
  rw [tm_comm ha (ot_lt ha)] at h
  exact ((ot_one (ot_lt ha) ha (ot_nz ha h0)).1 h).symm

/-- a byte turned to the left -/
def rotF (y n : Nat) : Nat := (y * 2 ^ n % 256) ||| (y / 2 ^ (8 - n))

theorem rotF_lt {y : Nat} (n : Nat) (hy : y < 256) : rotF y n < 256 := by
  have h1 : y * 2 ^ n % 256 < 2 ^ 8 := Nat.mod_lt _ (by omega)
  have h2 : y / 2 ^ (8 - n) < 2 ^ 8 := Nat.lt_of_le_of_lt (Nat.div_le_self _ _) hy
  exact Nat.or_lt_two_pow h1 h2

/-- spread: what a byte becomes whose other is y, so many turns -/
def spG (y : Nat) : Nat → Nat
  | 0 => y ^^^ 99
  | n + 1 => spG y n ^^^ rotF y (n + 1)

theorem spG_lt {y : Nat} (hy : y < 256) (n : Nat) : spG y n < 256 := by
  induction n with
  | zero => exact xor_lt8 hy (by omega)
  | succ n ih => exact xor_lt8 ih (rotF_lt _ hy)

def spF (y : Nat) : Nat := spG y 4
theorem spF_lt {y : Nat} (hy : y < 256) : spF y < 256 := spG_lt hy 4

/-- a byte swapped -/
def swF (a : Nat) : Nat := spF (otF a)
theorem swF_lt {a : Nat} (ha : a < 256) : swF a < 256 := spF_lt (ot_lt ha)

theorem sp_ref {y : Nat} (hy : y < 256) : ((((y ^^^ rotF y 1) ^^^ rotF y 2) ^^^ rotF y 3) ^^^ rotF y 4) ^^^ 99 = spF y := by
  have h : allB 256 (fun y => (((((y ^^^ rotF y 1) ^^^ rotF y 2) ^^^ rotF y 3) ^^^ rotF y 4) ^^^ 99) == spF y) = true := by decide +kernel
  simpa using allB_at h y hy

def swT : List Nat := [99, 124, 119, 123, 242, 107, 111, 197, 48, 1, 103, 43, 254, 215, 171, 118, 202, 130, 201, 125, 250, 89, 71, 240, 173, 212, 162, 175, 156, 164, 114, 192, 183, 253, 147, 38, 54, 63, 247, 204, 52, 165, 229, 241, 113, 216, 49, 21, 4, 199, 35, 195, 24, 150, 5, 154, 7, 18, 128, 226, 235, 39, 178, 117, 9, 131, 44, 26, 27, 110, 90, 160, 82, 59, 214, 179, 41, 227, 47, 132, 83, 209, 0, 237, 32, 252, 177, 91, 106, 203, 190, 57, 74, 76, 88, 207, 208, 239, 170, 251, 67, 77, 51, 133, 69, 249, 2, 127, 80, 60, 159, 168, 81, 163, 64, 143, 146, 157, 56, 245, 188, 182, 218, 33, 16, 255, 243, 210, 205, 12, 19, 236, 95, 151, 68, 23, 196, 167, 126, 61, 100, 93, 25, 115, 96, 129, 79, 220, 34, 42, 144, 136, 70, 238, 184, 20, 222, 94, 11, 219, 224, 50, 58, 10, 73, 6, 36, 92, 194, 211, 172, 98, 145, 149, 228, 121, 231, 200, 55, 109, 141, 213, 78, 169, 108, 86, 244, 234, 101, 122, 174, 8, 186, 120, 37, 46, 28, 166, 180, 198, 232, 221, 116, 31, 75, 189, 139, 138, 112, 62, 181, 102, 72, 3, 246, 14, 97, 53, 87, 185, 134, 193, 29, 158, 225, 248, 152, 17, 105, 217, 142, 148, 155, 30, 135, 233, 206, 85, 40, 223, 140, 161, 137, 13, 191, 230, 66, 104, 65, 153, 45, 15, 176, 84, 187, 22]
def bkT : List Nat := [82, 9, 106, 213, 48, 54, 165, 56, 191, 64, 163, 158, 129, 243, 215, 251, 124, 227, 57, 130, 155, 47, 255, 135, 52, 142, 67, 68, 196, 222, 233, 203, 84, 123, 148, 50, 166, 194, 35, 61, 238, 76, 149, 11, 66, 250, 195, 78, 8, 46, 161, 102, 40, 217, 36, 178, 118, 91, 162, 73, 109, 139, 209, 37, 114, 248, 246, 100, 134, 104, 152, 22, 212, 164, 92, 204, 93, 101, 182, 146, 108, 112, 72, 80, 253, 237, 185, 218, 94, 21, 70, 87, 167, 141, 157, 132, 144, 216, 171, 0, 140, 188, 211, 10, 247, 228, 88, 5, 184, 179, 69, 6, 208, 44, 30, 143, 202, 63, 15, 2, 193, 175, 189, 3, 1, 19, 138, 107, 58, 145, 17, 65, 79, 103, 220, 234, 151, 242, 207, 206, 240, 180, 230, 115, 150, 172, 116, 34, 231, 173, 53, 133, 226, 249, 55, 232, 28, 117, 223, 110, 71, 241, 26, 113, 29, 41, 197, 137, 111, 183, 98, 14, 170, 24, 190, 27, 252, 86, 62, 75, 198, 210, 121, 32, 154, 219, 192, 254, 120, 205, 90, 244, 31, 221, 168, 51, 136, 7, 199, 49, 177, 18, 16, 89, 39, 128, 236, 95, 96, 81, 127, 169, 25, 181, 74, 13, 45, 229, 122, 159, 147, 201, 156, 239, 160, 224, 59, 77, 174, 42, 245, 176, 200, 235, 187, 60, 131, 83, 153, 97, 23, 43, 4, 126, 186, 119, 214, 38, 225, 105, 20, 99, 85, 33, 12, 125]
def pwT : List Nat := [1, 3, 5, 15, 17, 51, 85, 255, 26, 46, 114, 150, 161, 248, 19, 53, 95, 225, 56, 72, 216, 115, 149, 164, 247, 2, 6, 10, 30, 34, 102, 170, 229, 52, 92, 228, 55, 89, 235, 38, 106, 190, 217, 112, 144, 171, 230, 49, 83, 245, 4, 12, 20, 60, 68, 204, 79, 209, 104, 184, 211, 110, 178, 205, 76, 212, 103, 169, 224, 59, 77, 215, 98, 166, 241, 8, 24, 40, 120, 136, 131, 158, 185, 208, 107, 189, 220, 127, 129, 152, 179, 206, 73, 219, 118, 154, 181, 196, 87, 249, 16, 48, 80, 240, 11, 29, 39, 105, 187, 214, 97, 163, 254, 25, 43, 125, 135, 146, 173, 236, 47, 113, 147, 174, 233, 32, 96, 160, 251, 22, 58, 78, 210, 109, 183, 194, 93, 231, 50, 86, 250, 21, 63, 65, 195, 94, 226, 61, 71, 201, 64, 192, 91, 237, 44, 116, 156, 191, 218, 117, 159, 186, 213, 100, 172, 239, 42, 126, 130, 157, 188, 223, 122, 142, 137, 128, 155, 182, 193, 88, 232, 35, 101, 175, 234, 37, 111, 177, 200, 67, 197, 84, 252, 31, 33, 99, 165, 244, 7, 9, 27, 45, 119, 153, 176, 203, 70, 202, 69, 207, 74, 222, 121, 139, 134, 145, 168, 227, 62, 66, 198, 81, 243, 14, 18, 54, 90, 238, 41, 123, 141, 140, 143, 138, 133, 148, 167, 242, 13, 23, 57, 75, 221, 124, 132, 151, 162, 253, 28, 36, 108, 180, 199, 82, 246]

theorem swT_length : swT.length = 256 := by decide +kernel
theorem bkT_length : bkT.length = 256 := by decide +kernel
theorem pwT_length : pwT.length = 255 := by decide +kernel
theorem swT_lt : ∀ x ∈ swT, x < 256 := by decide +kernel
theorem bkT_lt : ∀ x ∈ bkT, x < 256 := by decide +kernel
theorem pwT_lt : ∀ x ∈ pwT, x < 256 := by decide +kernel

theorem sw_is {a : Nat} (ha : a < 256) : swF a = swT.getD a 0 := by
  rw [swF, ot_is ha]
  have h : allB 256 (fun i => spF (otT.getD i 0) == swT.getD i 0) = true := by decide +kernel
  simpa using allB_at h a ha

theorem bk_sw {a : Nat} (ha : a < 256) : bkT.getD (swT.getD a 0) 0 = a := by
  have h : allB 256 (fun i => bkT.getD (swT.getD i 0) 0 == i) = true := by decide +kernel
  simpa using allB_at h a ha
theorem sw_bk {a : Nat} (ha : a < 256) : swT.getD (bkT.getD a 0) 0 = a := by
  have h : allB 256 (fun i => swT.getD (bkT.getD i 0) 0 == i) = true := by decide +kernel
  simpa using allB_at h a ha
theorem sw_ne {a : Nat} (ha : a < 256) : swT.getD a 0 ≠ a := by
  have h : allB 256 (fun i => swT.getD i 0 != i) = true := by decide +kernel
  simpa using allB_at h a ha

/-- the powers of 3 -/
theorem pw_zero : pwT.getD 0 0 = 1 := rfl
theorem pw_next {i : Nat} (h : i < 255) : tmF (pwT.getD i 0) 3 = pwT.getD ((i + 1) % 255) 0 := by
  have h1 : allB 255 (fun i => tmF (pwT.getD i 0) 3 == pwT.getD ((i + 1) % 255) 0) = true := by decide +kernel
  simpa using allB_at h1 i h

/-- all bytes swapped, so many written -/
def swL : Nat → List Nat
  | 0 => 99 :: List.replicate 255 0
  | i + 1 => (swL i).set (pwT.getD i 0) (spF (pwT.getD ((255 - i) % 255) 0))
theorem swL_length (i : Nat) : (swL i).length = 256 := by
  induction i with
  | zero => rw [swL, List.length_cons, List.length_replicate]
  | succ i ih => simp [swL, ih]
set_option maxRecDepth 100000 in
theorem swL_all : swL 255 = swT := by decide +kernel
theorem sp_zero : spF 0 = 99 := by decide +kernel

/-- what each byte was, so many written -/
def bkL (T : List Nat) : Nat → List Nat
  | 0 => List.replicate 256 0
  | i + 1 => (bkL T i).set (T.getD i 0) i
theorem bkL_length (T : List Nat) (i : Nat) : (bkL T i).length = 256 := by
  induction i with
  | zero => rw [bkL, List.length_replicate]
  | succ i ih => simp [bkL, ih]
set_option maxRecDepth 100000 in
theorem bkL_all : bkL swT 256 = bkT := by decide +kernel

end Go.Proofs.Ytflakgigekfgcaa
