/-
  Several texts, joined: EA, EB, EC, ED.
-/
import Derived.WalkKit
import Derived.Test.YtbmjlofehbbkbaaDoorJA

/- Plain facts on bytes, with nothing of the program in them: a product of bytes, a byte's other, a byte swapped. -/
namespace Go.Proofs.YtbmjlofehbbkbaaDoor
open Go.RowKit

/-- all numbers below n meet f -/
def allB : Nat → (Nat → Bool) → Bool
  | 0, _ => true
  | n + 1, f => f n && allB n f

theorem allB_at {f : Nat → Bool} : ∀ {n : Nat}, allB n f = true → ∀ i, i < n → f i = true := by
  intro n
  induction n with
  | zero => intro _ i hi; omega
  | succ n ih =>
    intro h i hi
    simp only [allB, Bool.and_eq_true] at h
    by_cases e : i = n
    · subst e; exact h.1
    · exact ih h.2 i (by omega)

theorem allB2 {f : Nat → Nat → Bool} {n m : Nat} (h : allB n (fun i => allB m (f i)) = true) (i j : Nat) (hi : i < n) (hj : j < m) : f i j = true := allB_at (allB_at h i hi) j hj

/-- a byte times x -/
def dblF (a : Nat) : Nat := if a < 128 then 2 * a else (2 * a - 256) ^^^ 27

/-- a product, so many bits -/
def tmG : Nat → Nat → Nat → Nat → Nat
  | 0, _, _, p => p
  | n + 1, a, b, p => tmG n (dblF a) (b / 2) (if b % 2 = 1 then p ^^^ a else p)

def tmF (a b : Nat) : Nat := tmG 8 a b 0

theorem tmG_zero (n a p : Nat) : tmG n a 0 p = p := by
  induction n generalizing a p with
  | zero => rfl
  | succ n ih => simp [tmG, ih]

theorem xor_lt8 {x y : Nat} (hx : x < 256) (hy : y < 256) : x ^^^ y < 256 := Nat.xor_lt_two_pow (n := 8) hx hy

theorem dblF_lt {a : Nat} (h : a < 256) : dblF a < 256 := by
  unfold dblF
  split
  · omega
  · exact xor_lt8 (by omega) (by omega)

theorem tmG_lt : ∀ (n a b p : Nat), a < 256 → p < 256 → tmG n a b p < 256 := by
  intro n
  induction n with
  | zero => intro a b p _ hp; exact hp
  | succ n ih =>
    intro a b p ha hp
    refine ih _ _ _ (dblF_lt ha) ?_
    split
    · exact xor_lt8 hp ha
    · exact hp

theorem tmF_lt {a : Nat} (b : Nat) (ha : a < 256) : tmF a b < 256 := tmG_lt 8 a b 0 ha (by omega)

/-- the bit that falls out -/
def outF (a : Nat) : Nat := if a / 128 = 0 then 0 else 283

theorem dbl_as {a : Nat} (ha : a < 256) : dblF a = a * 2 ^^^ outF a := by
  have h : allB 256 (fun i => dblF i == (i * 2 ^^^ outF i)) = true := by decide +kernel
  simpa using allB_at h a ha

theorem xor_div (a b n : Nat) : (a ^^^ b) / 2 ^ n = a / 2 ^ n ^^^ b / 2 ^ n := by
  rw [← Nat.shiftRight_eq_div_pow, ← Nat.shiftRight_eq_div_pow, ← Nat.shiftRight_eq_div_pow, Nat.shiftRight_xor_distrib]

theorem xor_mul2 (a b : Nat) : (a ^^^ b) * 2 = a * 2 ^^^ b * 2 := by
  have h : ∀ x : Nat, x * 2 = x <<< 1 := fun x => by rw [Nat.shiftLeft_eq]
  rw [h, h, h, Nat.shiftLeft_xor_distrib]

theorem out_xor {a b : Nat} (ha : a < 256) (hb : b < 256) : outF (a ^^^ b) = outF a ^^^ outF b := by
  have e : (a ^^^ b) / 128 = a / 128 ^^^ b / 128 := xor_div a b 7
  unfold outF
  rw [e]
  have h1 : a / 128 = 0 ∨ a / 128 = 1 := by omega
  have h2 : b / 128 = 0 ∨ b / 128 = 1 := by omega
  rcases h1 with h1 | h1 <;> rcases h2 with h2 | h2 <;> rw [h1, h2] <;> rfl

theorem xor_four (a b c d : Nat) : (a ^^^ b) ^^^ (c ^^^ d) = (a ^^^ c) ^^^ (b ^^^ d) := by
  rw [Nat.xor_assoc, Nat.xor_assoc, ← Nat.xor_assoc b c d, Nat.xor_comm b c, Nat.xor_assoc]

theorem dbl_xor {a b : Nat} (ha : a < 256) (hb : b < 256) : dblF (a ^^^ b) = dblF a ^^^ dblF b := by
  rw [dbl_as ha, dbl_as hb, dbl_as (xor_lt8 ha hb), xor_mul2, out_xor ha hb, xor_four]

theorem tmG_linear : ∀ (n a a' b p p' : Nat), a < 256 → a' < 256 → tmG n (a ^^^ a') b (p ^^^ p') = tmG n a b p ^^^ tmG n a' b p' := by
  intro n
  induction n with
  | zero => intros; rfl
  | succ n ih =>
    intro a a' b p p' ha ha'
    simp only [tmG]
    rw [dbl_xor ha ha']
    split
    · rw [xor_four]
      exact ih _ _ _ _ _ (dblF_lt ha) (dblF_lt ha')
    · exact ih _ _ _ _ _ (dblF_lt ha) (dblF_lt ha')

/-- a product goes through exclusive or -/
theorem tm_xor_left {a a' : Nat} (b : Nat) (ha : a < 256) (ha' : a' < 256) : tmF (a ^^^ a') b = tmF a b ^^^ tmF a' b := by
  have := tmG_linear 8 a a' b 0 0 ha ha'
  rw [Nat.xor_zero] at this
  exact this

theorem tmG_right : ∀ (n a b c p q : Nat), tmG n a (b ^^^ c) (p ^^^ q) = tmG n a b p ^^^ tmG n a c q := by
  intro n
  induction n with
  | zero => intros; rfl
  | succ n ih =>
    intro a b c p q
    simp only [tmG]
    have e1 : (b ^^^ c) / 2 = b / 2 ^^^ c / 2 := xor_div b c 1
    have e2 : (b ^^^ c) % 2 = (b % 2) ^^^ (c % 2) := Nat.xor_mod_two_pow (n := 1)
    rw [e1, e2]
    have h1 : b % 2 = 0 ∨ b % 2 = 1 := by omega
    have h2 : c % 2 = 0 ∨ c % 2 = 1 := by omega
    rcases h1 with h1 | h1 <;> rcases h2 with h2 | h2 <;> rw [h1, h2, ← ih] <;> congr 1
    · rw [if_pos (by decide), if_neg (by decide), if_pos rfl, Nat.xor_assoc]
    · rw [if_pos (by decide), if_pos rfl, if_neg (by decide), Nat.xor_assoc, Nat.xor_assoc, Nat.xor_comm q a]
    · rw [if_neg (by decide), if_pos rfl, if_pos rfl, xor_four, Nat.xor_self, Nat.xor_zero]

theorem tm_xor_right (a b c : Nat) : tmF a (b ^^^ c) = tmF a b ^^^ tmF a c := by
  have := tmG_right 8 a b c 0 0
  rw [Nat.xor_zero] at this
  exact this

/-- what goes through exclusive or is told by eight bytes -/
theorem ext8 (f g : Nat → Nat) (hf : ∀ b c, b < 256 → c < 256 → f (b ^^^ c) = f b ^^^ f c) (hg : ∀ b c, b < 256 → c < 256 → g (b ^^^ c) = g b ^^^ g c) (h0 : f 0 = g 0) (hk : ∀ k, k < 8 → f (2 ^ k) = g (2 ^ k)) : ∀ b, b < 256 → f b = g b := by
  have H : ∀ n, n ≤ 8 → ∀ b, b < 2 ^ n → f b = g b := by
    intro n
    induction n with
    | zero => intro _ b hb; have : b = 0 := by omega
              rw [this, h0]
    | succ n ih =>
      intro hn b hb
      by_cases h : b < 2 ^ n
      · exact ih (by omega) b h
      · have hs : allB 8 (fun n => allB (2 ^ n) fun c => 2 ^ n + c == (2 ^ n ^^^ c) && (decide (2 ^ n < 256) && decide (c < 256))) = true := by decide +kernel
        have hc : b - 2 ^ n < 2 ^ n := by rw [Nat.pow_succ] at hb; omega
        have h1 := allB_at (allB_at hs n (by omega)) (b - 2 ^ n) hc
        simp only [Bool.and_eq_true, beq_iff_eq, decide_eq_true_eq] at h1
        have e : b = 2 ^ n ^^^ (b - 2 ^ n) := by rw [← h1.1]; omega
        rw [e, hf _ _ h1.2.1 h1.2.2, hg _ _ h1.2.1 h1.2.2, hk n (by omega), ih (by omega) _ hc]
  exact H 8 (Nat.le_refl _)

theorem zero_tm (b : Nat) : tmF 0 b = 0 := by
  have h := tm_xor_left (a := 0) (a' := 0) b (by omega) (by omega)
  rw [Nat.xor_self] at h
  have := Nat.xor_self (tmF 0 b)
  rw [← h] at this
  exact this

theorem tm_comm {a b : Nat} (ha : a < 256) (hb : b < 256) : tmF a b = tmF b a := by
  refine ext8 (fun b => tmF a b) (fun b => tmF b a) (fun b c _ _ => tm_xor_right a b c) (fun b c h1 h2 => tm_xor_left a h1 h2) ?_ ?_ b hb
  · show tmF a 0 = tmF 0 a
    rw [zero_tm]; exact tmG_zero 8 a 0
  · intro k hk
    have h : allB 256 (fun i => allB 8 fun k => tmF i (2 ^ k) == tmF (2 ^ k) i) = true := by decide +kernel
    simpa using allB2 h a k ha hk

theorem tm_dbl {a b : Nat} (ha : a < 256) (hb : b < 256) : tmF a (dblF b) = dblF (tmF a b) := by
  refine ext8 (fun b => tmF a (dblF b)) (fun b => dblF (tmF a b)) (fun b c h1 h2 => ?_) (fun b c h1 h2 => ?_) ?_ ?_ b hb
  · show tmF a (dblF (b ^^^ c)) = _
    rw [dbl_xor h1 h2, tm_xor_right]
  · show dblF (tmF a (b ^^^ c)) = _
    rw [tm_xor_right, dbl_xor (tmF_lt b ha) (tmF_lt c ha)]
  · show tmF a (dblF 0) = dblF (tmF a 0)
    have : tmF a 0 = 0 := tmG_zero 8 a 0
    rw [this, show dblF 0 = 0 from rfl, this]
  · intro k hk
    have h : allB 256 (fun i => allB 8 fun k => tmF i (dblF (2 ^ k)) == dblF (tmF i (2 ^ k))) = true := by decide +kernel
    simpa using allB2 h a k ha hk

theorem tm_zero (a : Nat) : tmF a 0 = 0 := tmG_zero 8 a 0

theorem zero_dbl : dblF 0 = 0 := rfl

theorem tmG_acc (n a b p : Nat) (ha : a < 256) : tmG n a b p = p ^^^ tmG n a b 0 := by
  have h0 := tmG_linear n 0 a b p 0 (by omega) ha
  have hz : ∀ m b p, tmG m 0 b p = p := by
    intro m
    induction m with
    | zero => intros; rfl
    | succ m ih => intro b p; simp only [tmG, zero_dbl, ih]; split <;> simp
  rw [hz] at h0
  simpa using h0

/-- a product does not hang on grouping -/
theorem tmG_assoc : ∀ (n a b c : Nat), a < 256 → b < 256 → tmG n (tmF a b) c 0 = tmF a (tmG n b c 0) := by
  intro n
  induction n with
  | zero => intro a b c _ _; exact (tm_zero a).symm
  | succ n ih =>
    intro a b c ha hb
    simp only [tmG, Nat.zero_xor]
    have e1 := ih a (dblF b) (c / 2) ha (dblF_lt hb)
    rw [tm_dbl ha hb] at e1
    split
    · rw [tmG_acc n _ _ (tmF a b) (dblF_lt (tmF_lt b ha)), tmG_acc n _ _ b (dblF_lt hb), e1, tm_xor_right]
    · exact e1

theorem tm_assoc {a b c : Nat} (ha : a < 256) (hb : b < 256) : tmF (tmF a b) c = tmF a (tmF b c) := tmG_assoc 8 a b c ha hb

theorem tm_one {a : Nat} (ha : a < 256) : tmF a 1 = a := by
  have h : allB 256 (fun i => tmF i 1 == i) = true := by decide +kernel
  simpa using allB_at h a ha

theorem tm_two {a : Nat} (ha : a < 256) : tmF a 2 = dblF a := by
  have h : allB 256 (fun i => tmF i 2 == dblF i) = true := by decide +kernel
  simpa using allB_at h a ha

/-- a byte's other, looked for from b on -/
def otG (a : Nat) : Nat → Nat → Nat
  | 0, _ => 0
  | n + 1, b => if tmF a b = 1 then b else otG a n (b + 1)

def otF (a : Nat) : Nat := otG a 256 0

def otT : List Nat := [0, 1, 141, 246, 203, 82, 123, 209, 232, 79, 41, 192, 176, 225, 229, 199, 116, 180, 170, 75, 153, 43, 96, 95, 88, 63, 253, 204, 255, 64, 238, 178, 58, 110, 90, 241, 85, 77, 168, 201, 193, 10, 152, 21, 48, 68, 162, 194, 44, 69, 146, 108, 243, 57, 102, 66, 242, 53, 32, 111, 119, 187, 89, 25, 29, 254, 55, 103, 45, 49, 245, 105, 167, 100, 171, 19, 84, 37, 233, 9, 237, 92, 5, 202, 76, 36, 135, 191, 24, 62, 34, 240, 81, 236, 97, 23, 22, 94, 175, 211, 73, 166, 54, 67, 244, 71, 145, 223, 51, 147, 33, 59, 121, 183, 151, 133, 16, 181, 186, 60, 182, 112, 208, 6, 161, 250, 129, 130, 131, 126, 127, 128, 150, 115, 190, 86, 155, 158, 149, 217, 247, 2, 185, 164, 222, 106, 50, 109, 216, 138, 132, 114, 42, 20, 159, 136, 249, 220, 137, 154, 251, 124, 46, 195, 143, 184, 101, 72, 38, 200, 18, 74, 206, 231, 210, 98, 12, 224, 31, 239, 17, 117, 120, 113, 165, 142, 118, 61, 189, 188, 134, 87, 11, 40, 47, 163, 218, 212, 228, 15, 169, 39, 83, 4, 27, 252, 172, 230, 122, 7, 174, 99, 197, 219, 226, 234, 148, 139, 196, 213, 157, 248, 144, 107, 177, 13, 214, 235, 198, 14, 207, 173, 8, 78, 215, 227, 93, 80, 30, 179, 91, 35, 56, 52, 104, 70, 3, 140, 221, 156, 125, 160, 205, 26, 65, 28]

theorem otT_length : otT.length = 256 := by decide +kernel

theorem ot_is {a : Nat} (ha : a < 256) : otF a = otT.getD a 0 := by
  have h : allB 256 (fun i => otF i == otT.getD i 0) = true := by decide +kernel
  simpa using allB_at h a ha

theorem otT_lt : ∀ x ∈ otT, x < 256 := by decide +kernel

theorem getD_lt {l : List Nat} {n : Nat} (h : ∀ x ∈ l, x < n) (hn : 0 < n) (i : Nat) : l.getD i 0 < n := by
  by_cases hi : i < l.length
  · simp only [List.getD, List.getElem?_eq_getElem hi, Option.getD_some]; exact h _ (List.getElem_mem hi)
  · simpa [List.getD, List.getElem?_eq_none (by omega : l.length ≤ i)] using hn

theorem ot_lt {a : Nat} (ha : a < 256) : otF a < 256 := by rw [ot_is ha]; exact getD_lt otT_lt (by omega) a

theorem tm_ot {a : Nat} (ha : a < 256) (h0 : a ≠ 0) : tmF a (otF a) = 1 := by
  rw [ot_is ha]
  have h : allB 256 (fun i => i == 0 || tmF i (otT.getD i 0) == 1) = true := by decide +kernel
  simpa [h0] using allB_at h a ha

theorem ot_zero : otF 0 = 0 := by rw [ot_is (by omega)]; rfl
theorem ot_nz {a : Nat} (ha : a < 256) (h0 : a ≠ 0) : otF a ≠ 0 := by
  intro h
  have := tm_ot ha h0
  rw [h, tm_zero] at this
  cases this

/-- each byte but 0 has one other -/
theorem ot_one {a b : Nat} (ha : a < 256) (hb : b < 256) (h0 : a ≠ 0) : tmF a b = 1 ↔ b = otF a := by
  constructor
  · intro h
    have h1 : tmF (tmF (otF a) a) b = tmF (otF a) (tmF a b) := tm_assoc (ot_lt ha) ha
    rw [h, tm_comm (ot_lt ha) ha, tm_ot ha h0, tm_one (ot_lt ha), tm_comm (by omega) hb, tm_one hb] at h1
    exact h1
  · intro h; rw [h]; exact tm_ot ha h0

theorem ot_ot {a : Nat} (ha : a < 256) (h0 : a ≠ 0) : otF (otF a) = a := by
  have h := tm_ot ha h0
  rw [tm_comm ha (ot_lt ha)] at h
  exact ((ot_one (ot_lt ha) ha (ot_nz ha h0)).1 h).symm

/-- a byte turned to the left -/
def rotF (y n : Nat) : Nat := (y * 2 ^ n % 256) ||| (y / 2 ^ (8 - n))

theorem rotF_lt {y : Nat} (n : Nat) (hy : y < 256) : rotF y n < 256 := by
  have h1 : y * 2 ^ n % 256 < 2 ^ 8 := Nat.mod_lt _ (by omega)
  have h2 : y / 2 ^ (8 - n) < 2 ^ 8 := Nat.lt_of_le_of_lt (Nat.div_le_self _ _) hy
  exact Nat.or_lt_two_pow h1 h2

/-- spread: what a byte becomes whose other is y, so many turns -/
def spG (y : Nat) : Nat → Nat
  | 0 => y ^^^ 99
  | n + 1 => spG y n ^^^ rotF y (n + 1)

theorem spG_lt {y : Nat} (hy : y < 256) (n : Nat) : spG y n < 256 := by
  induction n with
  | zero => exact xor_lt8 hy (by omega)
  | succ n ih => exact xor_lt8 ih (rotF_lt _ hy)

def spF (y : Nat) : Nat := spG y 4
theorem spF_lt {y : Nat} (hy : y < 256) : spF y < 256 := spG_lt hy 4

/-- a byte swapped -/
def swF (a : Nat) : Nat := spF (otF a)
theorem swF_lt {a : Nat} (ha : a < 256) : swF a < 256 := spF_lt (ot_lt ha)

theorem sp_ref {y : Nat} (hy : y < 256) : ((((y ^^^ rotF y 1) ^^^ rotF y 2) ^^^ rotF y 3) ^^^ rotF y 4) ^^^ 99 = spF y := by
  have h : allB 256 (fun y => (((((y ^^^ rotF y 1) ^^^ rotF y 2) ^^^ rotF y 3) ^^^ rotF y 4) ^^^ 99) == spF y) = true := by decide +kernel
  simpa using allB_at h y hy

def swT : List Nat := [99, 124, 119, 123, 242, 107, 111, 197, 48, 1, 103, 43, 254, 215, 171, 118, 202, 130, 201, 125, 250, 89, 71, 240, 173, 212, 162, 175, 156, 164, 114, 192, 183, 253, 147, 38, 54, 63, 247, 204, 52, 165, 229, 241, 113, 216, 49, 21, 4, 199, 35, 195, 24, 150, 5, 154, 7, 18, 128, 226, 235, 39, 178, 117, 9, 131, 44, 26, 27, 110, 90, 160, 82, 59, 214, 179, 41, 227, 47, 132, 83, 209, 0, 237, 32, 252, 177, 91, 106, 203, 190, 57, 74, 76, 88, 207, 208, 239, 170, 251, 67, 77, 51, 133, 69, 249, 2, 127, 80, 60, 159, 168, 81, 163, 64, 143, 146, 157, 56, 245, 188, 182, 218, 33, 16, 255, 243, 210, 205, 12, 19, 236, 95, 151, 68, 23, 196, 167, 126, 61, 100, 93, 25, 115, 96, 129, 79, 220, 34, 42, 144, 136, 70, 238, 184, 20, 222, 94, 11, 219, 224, 50, 58, 10, 73, 6, 36, 92, 194, 211, 172, 98, 145, 149, 228, 121, 231, 200, 55, 109, 141, 213, 78, 169, 108, 86, 244, 234, 101, 122, 174, 8, 186, 120, 37, 46, 28, 166, 180, 198, 232, 221, 116, 31, 75, 189, 139, 138, 112, 62, 181, 102, 72, 3, 246, 14, 97, 53, 87, 185, 134, 193, 29, 158, 225, 248, 152, 17, 105, 217, 142, 148, 155, 30, 135, 233, 206, 85, 40, 223, 140, 161, 137, 13, 191, 230, 66, 104, 65, 153, 45, 15, 176, 84, 187, 22]
def bkT : List Nat := [82, 9, 106, 213, 48, 54, 165, 56, 191, 64, 163, 158, 129, 243, 215, 251, 124, 227, 57, 130, 155, 47, 255, 135, 52, 142, 67, 68, 196, 222, 233, 203, 84, 123, 148, 50, 166, 194, 35, 61, 238, 76, 149, 11, 66, 250, 195, 78, 8, 46, 161, 102, 40, 217, 36, 178, 118, 91, 162, 73, 109, 139, 209, 37, 114, 248, 246, 100, 134, 104, 152, 22, 212, 164, 92, 204, 93, 101, 182, 146, 108, 112, 72, 80, 253, 237, 185, 218, 94, 21, 70, 87, 167, 141, 157, 132, 144, 216, 171, 0, 140, 188, 211, 10, 247, 228, 88, 5, 184, 179, 69, 6, 208, 44, 30, 143, 202, 63, 15, 2, 193, 175, 189, 3, 1, 19, 138, 107, 58, 145, 17, 65, 79, 103, 220, 234, 151, 242, 207, 206, 240, 180, 230, 115, 150, 172, 116, 34, 231, 173, 53, 133, 226, 249, 55, 232, 28, 117, 223, 110, 71, 241, 26, 113, 29, 41, 197, 137, 111, 183, 98, 14, 170, 24, 190, 27, 252, 86, 62, 75, 198, 210, 121, 32, 154, 219, 192, 254, 120, 205, 90, 244, 31, 221, 168, 51, 136, 7, 199, 49, 177, 18, 16, 89, 39, 128, 236, 95, 96, 81, 127, 169, 25, 181, 74, 13, 45, 229, 122, 159, 147, 201, 156, 239, 160, 224, 59, 77, 174, 42, 245, 176, 200, 235, 187, 60, 131, 83, 153, 97, 23, 43, 4, 126, 186, 119, 214, 38, 225, 105, 20, 99, 85, 33, 12, 125]
def pwT : List Nat := [1, 3, 5, 15, 17, 51, 85, 255, 26, 46, 114, 150, 161, 248, 19, 53, 95, 225, 56, 72, 216, 115, 149, 164, 247, 2, 6, 10, 30, 34, 102, 170, 229, 52, 92, 228, 55, 89, 235, 38, 106, 190, 217, 112, 144, 171, 230, 49, 83, 245, 4, 12, 20, 60, 68, 204, 79, 209, 104, 184, 211, 110, 178, 205, 76, 212, 103, 169, 224, 59, 77, 215, 98, 166, 241, 8, 24, 40, 120, 136, 131, 158, 185, 208, 107, 189, 220, 127, 129, 152, 179, 206, 73, 219, 118, 154, 181, 196, 87, 249, 16, 48, 80, 240, 11, 29, 39, 105, 187, 214, 97, 163, 254, 25, 43, 125, 135, 146, 173, 236, 47, 113, 147, 174, 233, 32, 96, 160, 251, 22, 58, 78, 210, 109, 183, 194, 93, 231, 50, 86, 250, 21, 63, 65, 195, 94, 226, 61, 71, 201, 64, 192, 91, 237, 44, 116, 156, 191, 218, 117, 159, 186, 213, 100, 172, 239, 42, 126, 130, 157, 188, 223, 122, 142, 137, 128, 155, 182, 193, 88, 232, 35, 101, 175, 234, 37, 111, 177, 200, 67, 197, 84, 252, 31, 33, 99, 165, 244, 7, 9, 27, 45, 119, 153, 176, 203, 70, 202, 69, 207, 74, 222, 121, 139, 134, 145, 168, 227, 62, 66, 198, 81, 243, 14, 18, 54, 90, 238, 41, 123, 141, 140, 143, 138, 133, 148, 167, 242, 13, 23, 57, 75, 221, 124, 132, 151, 162, 253, 28, 36, 108, 180, 199, 82, 246]

theorem swT_length : swT.length = 256 := by decide +kernel
theorem bkT_length : bkT.length = 256 := by decide +kernel
theorem pwT_length : pwT.length = 255 := by decide +kernel
theorem swT_lt : ∀ x ∈ swT, x < 256 := by decide +kernel
theorem bkT_lt : ∀ x ∈ bkT, x < 256 := by decide +kernel
theorem pwT_lt : ∀ x ∈ pwT, x < 256 := by decide +kernel

theorem sw_is {a : Nat} (ha : a < 256) : swF a = swT.getD a 0 := by
  rw [swF, ot_is ha]
  have h : allB 256 (fun i => spF (otT.getD i 0) == swT.getD i 0) = true := by decide +kernel
  simpa using allB_at h a ha

theorem bk_sw {a : Nat} (ha : a < 256) : bkT.getD (swT.getD a 0) 0 = a := by
  have h : allB 256 (fun i => bkT.getD (swT.getD i 0) 0 == i) = true := by decide +kernel
  simpa using allB_at h a ha
theorem sw_bk {a : Nat} (ha : a < 256) : swT.getD (bkT.getD a 0) 0 = a := by
  have h : allB 256 (fun i => swT.getD (bkT.getD i 0) 0 == i) = true := by decide +kernel
  simpa using allB_at h a ha
theorem sw_ne {a : Nat} (ha : a < 256) : swT.getD a 0 ≠ a := by
  have h : allB 256 (fun i => swT.getD i 0 != i) = true := by decide +kernel
  simpa using allB_at h a ha

/-- the powers of 3 -/
theorem pw_zero : pwT.getD 0 0 = 1 := rfl
theorem pw_next {i : Nat} (h : i < 255) : tmF (pwT.getD i 0) 3 = pwT.getD ((i + 1) % 255) 0 := by
  have h1 : allB 255 (fun i => tmF (pwT.getD i 0) 3 == pwT.getD ((i + 1) % 255) 0) = true := by decide +kernel
  simpa using allB_at h1 i h

/-- all bytes swapped, so many written -/
def swL : Nat → List Nat
  | 0 => 99 :: List.replicate 255 0
  | i + 1 => (swL i).set (pwT.getD i 0) (spF (pwT.getD ((255 - i) % 255) 0))
theorem swL_length (i : Nat) : (swL i).length = 256 := by
  induction i with
  | zero => rw [swL, List.length_cons, List.length_replicate]
  | succ i ih => simp [swL, ih]
set_option maxRecDepth 100000 in
theorem swL_all : swL 255 = swT := by decide +kernel
theorem sp_zero : spF 0 = 99 := by decide +kernel

/-- what each byte was, so many written -/
def bkL (T : List Nat) : Nat → List Nat
  | 0 => List.replicate 256 0
  | i + 1 => (bkL T i).set (T.getD i 0) i
theorem bkL_length (T : List Nat) (i : Nat) : (bkL T i).length = 256 := by
  induction i with
  | zero => rw [bkL, List.length_replicate]
  | succ i ih => simp [bkL, ih]
set_option maxRecDepth 100000 in
theorem bkL_all : bkL swT 256 = bkT := by decide +kernel

end Go.Proofs.YtbmjlofehbbkbaaDoor

/- Small laws for the walks over blocks of 16 bytes. -/
namespace Go.Proofs.YtbmjlofehbbkbaaDoor
open Go.RowKit

theorem cells8 : Tryd.prog.cellsOf 5 = 1 := by kernel_rfl
theorem cells16 : Tryd.prog.cellsOf 22 = 16 := by kernel_rfl
theorem wf_u8 {x : Nat} (h : x < 256) : (Lit.int .u8 (Int.ofNat x)).wf = true := by
  have h1 : IntKind.u8.min = 0 := rfl
  have h2 : IntKind.u8.max = 255 := rfl
  have h3 : (Int.ofNat x) = (x : Int) := rfl
  rw [Lit.wf, h1, h2, h3, decide_eq_true (by omega), decide_eq_true (by omega)]
  rfl
theorem ofNat_inj (a b : List Nat) : a.map Int.ofNat = b.map Int.ofNat ↔ a = b := by
  constructor
  · intro h
    exact List.map_inj_right (fun x y hxy => by cases hxy; rfl) |>.1 h
  · intro h; rw [h]

/-- two blocks -/
theorem run_eq_block (a b : List Nat) (ha : a.length = 16) (hb : b.length = 16) (wa : ∀ x ∈ a, x < 256) (wb : ∀ x ∈ b, x < 256) (w : World) :
    (Op.equalIn 10000 22 (.agg (u8s a).toArray) (.agg (u8s b).toArray)).run Tryd.prog w = .ok (decide (a = b)) w := by
  have h := run_eq_ints Tryd.underlying22 Tryd.underlying5 cells8 cells16 (a.map Int.ofNat) (b.map Int.ofNat) (by simpa using ha) (by simpa using hb)
    (fun z hz => by obtain ⟨x, hx, rfl⟩ := List.mem_map.1 hz; exact wf_u8 (wa x hx)) (fun z hz => by obtain ⟨x, hx, rfl⟩ := List.mem_map.1 hz; exact wf_u8 (wb x hx)) w
  rw [List.map_map, List.map_map] at h
  rw [decide_eq_decide.2 (ofNat_inj a b).symm]
  exact h
theorem guard16 (x y : Operand) (u v : Array Value) (w : World) : (eqGuard .eql 22 x y (.agg u) (.agg v)).run Tryd.prog w = .ok () w := by kernel_rfl
theorem guard16n (x y : Operand) (u v : Array Value) (w : World) : (eqGuard .neq 22 x y (.agg u) (.agg v)).run Tryd.prog w = .ok () w := by kernel_rfl

theorem info16 : (Tryd.prog.info? 22).map (·.size) = some 16 := by kernel_rfl
theorem info256 : (Tryd.prog.info? 128).map (·.size) = some 256 := by kernel_rfl
theorem info176 : (Tryd.prog.info? 130).map (·.size) = some 176 := by kernel_rfl
theorem info4 : (Tryd.prog.info? 135).map (·.size) = some 4 := by kernel_rfl

end Go.Proofs.YtbmjlofehbbkbaaDoor

/- Walks: a byte doubled, the product of two bytes, a byte turned, spread, a byte's other, a byte swapped. -/
namespace Go.Proofs.YtbmjlofehbbkbaaDoor
open Go.RowKit

set_option maxRecDepth 100000 in
set_option maxHeartbeats 1000000 in
theorem doubled_any (a : Nat) (ha : a < 256) (w : World) :
    Calls Tryd.prog 86 #[.int .u8 a] w fun e w' => e = .returned (.int .u8 ((dblF a : Nat) : Int)) ∧ w' = w := by
  by_cases h : a < 128
  · have H1 : Hid (dblF a = 2 * a) := by show _ = _; rw [dblF, if_pos h]
    generalize dblF a = R at *
    go_enter Tryd.func86, Tryd.ntmps86
    go_wp2
    go_ret
    refine ⟨ret_u8 ?_, rfl⟩
    rw [H1.out]; omega
  · have H1 : Hid (bits .xor .u8 ((2 * a - 256 : Nat) : Int) 27 = ((dblF a : Nat) : Int)) := by
      show _ = _
      rw [show (27 : Int) = ((27 : Nat) : Int) from rfl, u8_xor_nat _ _ (by omega) (by omega), dblF, if_neg h]
    generalize dblF a = R at *
    go_enter Tryd.func86, Tryd.ntmps86
    go_wp2
    go_ret
    refine ⟨ret_u8 ?_, rfl⟩
    rw [← H1.out]
    congr 1
    omega

theorem and_one (b : Nat) (hb : b < 256) : bits .and .u8 (b : Int) 1 = ((b % 2 : Nat) : Int) := by
  rw [show (1 : Int) = ((1 : Nat) : Int) from rfl, u8_and_nat _ _ hb (by omega), Nat.and_one_is_mod]

/-- how the product stands -/
def TmR (R k a b p : Nat) : Prop := a < 256 ∧ p < 256 ∧ b < 2 ^ k ∧ k ≤ 8 ∧ tmG k a b p = R

theorem TmR.step {R k a b p : Nat} (h : TmR R k a b p) (h0 : 0 < b) : 1 ≤ k ∧ TmR R (k - 1) (dblF a) (b / 2) (if b % 2 = 1 then p ^^^ a else p) := by
  obtain ⟨ha, hp, hb, hk, hR⟩ := h
  cases k with
  | zero => simp at hb; omega
  | succ k =>
    refine ⟨by omega, dblF_lt ha, ?_, by simp; rw [Nat.pow_succ] at hb; omega, by omega, hR⟩
    split
    · exact xor_lt8 hp ha
    · exact hp
theorem TmR.done {R k a p : Nat} (h : TmR R k a 0 p) : p = R := by rw [← h.2.2.2.2, tmG_zero]
theorem TmR.start (a b : Nat) (ha : a < 256) (hb : b < 256) : TmR (tmF a b) 8 a b 0 := ⟨ha, by omega, by omega, by omega, rfl⟩
theorem TmR.lt {R k a b p : Nat} (h : TmR R k a b p) : b < 256 := Nat.lt_of_lt_of_le h.2.2.1 (Nat.pow_le_pow_right (by omega) h.2.2.2.1)

set_option maxHeartbeats 2000000 in
set_option maxRecDepth 100000 in
theorem times_of (R a b : Nat) (hR : TmR R 8 a b 0) (w : World) :
    Calls Tryd.prog 83 #[.int .u8 a, .int .u8 b] w fun e w' => e = .returned (.int .u8 (R : Int)) ∧ w' = w := by
  have HR := hide hR
  clear hR
  go_enter Tryd.func83, Tryd.ntmps83
  go_wp2
  go_loopg [0, 1, 5] 9 (fun f s0 s1 s5 wr => ∃ (k a b p : Nat), s0 = .int .u8 a ∧ s1 = .int .u8 b ∧ s5 = .int .u8 p ∧ k < f ∧ Hid (TmR R k a b p) ∧ wr = w)
  case atStart => exact ⟨8, a, b, 0, rfl, rfl, rfl, by omega, HR, rfl⟩
  case round =>
    obtain ⟨k, x, y, p, rfl, rfl, rfl, hf, HT, rfl⟩ := hrel
    have hx := HT.out.1
    have hp := HT.out.2.1
    have hy := HT.out.lt
    by_cases h0 : 0 < y
    · obtain ⟨hk1, HS'⟩ := HT.out.step h0
      have HS := hide HS'
      have hand := and_one y hy
      have HD := hide (doubled_any x hx wr)
      clear HS'
      generalize dblF x = x2 at *
      by_cases h1 : y % 2 = 1
      · have HX := hide (u8_xor_nat p x hp hx)
        rw [if_pos h1] at HS
        rw [h1] at hand
        go_wp2_with fail
        refine HD.out.mono ?_
        rintro e w1 ⟨rfl, rfl⟩
        go_wp2
        go_roundg k
        case measure => omega
        case rel => exact ⟨k - 1, x2, y / 2, p ^^^ x, rfl, by simp, by rw [HX.out], by omega, HS, rfl⟩
      · rw [if_neg h1] at HS
        have e0 : y % 2 = 0 := by omega
        rw [e0] at hand
        go_wp2_with fail
        refine HD.out.mono ?_
        rintro e w1 ⟨rfl, rfl⟩
        go_wp2
        go_roundg k
        case measure => omega
        case rel => exact ⟨k - 1, x2, y / 2, p, rfl, by simp, rfl, by omega, HS, rfl⟩
    · have e0 : y = 0 := by omega
      subst e0
      have e := HT.out.done
      subst e
      go_wp2
      go_ret
      exact ⟨rfl, rfl⟩

theorem times_any (a b : Nat) (ha : a < 256) (hb : b < 256) (w : World) :
    Calls Tryd.prog 83 #[.int .u8 a, .int .u8 b] w fun e w' => e = .returned (.int .u8 ((tmF a b : Nat) : Int)) ∧ w' = w :=
  times_of _ a b (TmR.start a b ha hb) w

/- a byte turned -/
theorem or_rot (y n : Nat) (hy : y < 256) : bits .or .u8 ((y * 2 ^ n % 256 : Nat) : Int) ((y / 2 ^ (8 - n) : Nat) : Int) = ((rotF y n : Nat) : Int) := by
  rw [u8_or_nat _ _ (Nat.mod_lt _ (by omega)) (Nat.lt_of_le_of_lt (Nat.div_le_self _ _) hy)]
  rfl

theorem and_seven (n : Nat) (h : n ≤ 4) : bits .and .u64 (n : Int) 7 = (n : Int) := by
  rw [show (7 : Int) = ((7 : Nat) : Int) from rfl, u64_and_nat _ _ (by omega) (by omega), show n &&& 7 = n % 8 from Nat.and_two_pow_sub_one_eq_mod n 3, Nat.mod_eq_of_lt (by omega)]

set_option maxRecDepth 100000 in
set_option maxHeartbeats 1000000 in
theorem rotl_any (y n : Nat) (hy : y < 256) (h1 : 1 ≤ n) (h2 : n ≤ 4) (w : World) :
    Calls Tryd.prog 88 #[.int .u8 y, .int .i64 n] w fun e w' => e = .returned (.int .u8 ((rotF y n : Nat) : Int)) ∧ w' = w := by
  have HR := hide (or_rot y n hy)
  have hand := and_seven n h2
  generalize rotF y n = R at *
  go_enter Tryd.func88, Tryd.ntmps88
  go_wp2
  go_ret
  refine ⟨ret_u8 ?_, rfl⟩
  rw [← HR.out]
  congr 1 <;> simp

/-- how spread stands -/
def SpR (R y t s : Nat) : Prop := 1 ≤ t ∧ t ≤ 5 ∧ s = spG y (t - 1) ∧ R = spG y 4 ∧ y < 256

set_option maxRecDepth 100000 in
set_option maxHeartbeats 1000000 in
theorem spread_of (R y s0 : Nat) (h : SpR R y 1 s0) (w : World) :
    Calls Tryd.prog 84 #[.int .u8 y] w fun e w' => e = .returned (.int .u8 ((R : Nat) : Int)) ∧ w' = w := by
  have HR := hide h
  have hy := h.2.2.2.2
  have hx0 : bits .xor .u8 (y : Int) 99 = (s0 : Int) := by
    rw [show (99 : Int) = ((99 : Nat) : Int) from rfl, u8_xor_nat _ _ hy (by omega), h.2.2.1]; rfl
  clear h
  go_enter Tryd.func84, Tryd.ntmps84
  go_wp2
  go_loopg [3, 4] 5 (fun f s3 s4 wr => ∃ (s t : Nat), s3 = .int .u8 s ∧ s4 = .int .i64 t ∧ 1 ≤ t ∧ t ≤ 5 ∧ 5 - t < f ∧ Hid (SpR R y t s) ∧ wr = w)
  case atStart => exact ⟨s0, 1, rfl, rfl, by omega, by omega, by omega, HR, rfl⟩
  case round =>
    obtain ⟨s, t, rfl, rfl, h1, h5, hf, HS, rfl⟩ := hrel
    by_cases ht : t ≤ 4
    · have HC := hide (rotl_any y t hy h1 ht wr)
      have HX : Hid (bits .xor .u8 (s : Int) ((rotF y t : Nat) : Int) = ((s ^^^ rotF y t : Nat) : Int)) := by
        show _ = _
        rw [u8_xor_nat _ _ (by rw [HS.out.2.2.1]; exact spG_lt hy _) (rotF_lt _ hy)]
      have HN : Hid (SpR R y (t + 1) (s ^^^ rotF y t)) := by
        obtain ⟨_, _, e1, e2, _⟩ := HS.out
        refine ⟨by omega, by omega, ?_, e2, hy⟩
        rw [e1, show t + 1 - 1 = (t - 1) + 1 by omega, spG, show t - 1 + 1 = t by omega]
      generalize rotF y t = r at *
      go_wp2_with fail
      refine HC.out.mono ?_
      rintro e w1 ⟨rfl, rfl⟩
      go_wp2
      go_roundg (5 - t)
      case measure => omega
      case rel => exact ⟨s ^^^ r, t + 1, by rw [HX.out], by go_num, by omega, by omega, by omega, HN, rfl⟩
    · have e5 : t = 5 := by omega
      subst e5
      have e : s = R := by rw [HS.out.2.2.1, HS.out.2.2.2.1]
      subst e
      go_wp2
      go_ret
      exact ⟨rfl, rfl⟩

theorem spread_any (y : Nat) (hy : y < 256) (w : World) :
    Calls Tryd.prog 84 #[.int .u8 y] w fun e w' => e = .returned (.int .u8 ((spF y : Nat) : Int)) ∧ w' = w :=
  spread_of (spF y) y (y ^^^ 99) ⟨by omega, by omega, rfl, rfl, hy⟩ w

/-- how the search stands -/
def OtR (R a b : Nat) : Prop := b ≤ 256 ∧ otG a (256 - b) b = R

theorem OtR.step {R a b : Nat} (h : OtR R a b) (hb : b < 256) (hne : tmF a b ≠ 1) : OtR R a (b + 1) := by
  obtain ⟨h1, h2⟩ := h
  refine ⟨by omega, ?_⟩
  rw [show 256 - b = (256 - (b + 1)) + 1 by omega, otG, if_neg hne] at h2
  exact h2
theorem OtR.hit {R a b : Nat} (h : OtR R a b) (hb : b < 256) (he : tmF a b = 1) : b = R := by
  obtain ⟨h1, h2⟩ := h
  rw [show 256 - b = (256 - (b + 1)) + 1 by omega, otG, if_pos he] at h2
  exact h2
theorem OtR.none {R a : Nat} (h : OtR R a 256) : R = 0 := by rw [← h.2]; rfl


end Go.Proofs.YtbmjlofehbbkbaaDoor

/- Walks: all bytes swapped, out of the powers of 3; and what each byte was. -/
namespace Go.Proofs.YtbmjlofehbbkbaaDoor
open Go.RowKit

theorem info8s : (Tryd.prog.info? 5).map (fun i => (i.zero, i.size, i.bytes)) = some (some (.int .u8 0), 1, 1) := by kernel_rfl
theorem info255 : (Tryd.prog.info? 143).map (·.size) = some 255 := by kernel_rfl

theorem run_index255 (T : List Nat) (i x : Nat) (w : World) (hi : i < 255) (hx : (u8s T)[i]? = some (.int .u8 ((x : Nat) : Int))) :
    (Instr.index 143 (Value.agg (u8s T).toArray) (Value.int IntKind.i64 (i : Int))).run Tryd.prog w = .ok (.int .u8 ((x : Nat) : Int)) w := by
  obtain ⟨i0, hi0, hz0, hz1, hz2⟩ := info_parts info8s
  unfold Instr.index
  simp [asIntOf, run_underlying Tryd.underlying143 w, hi, Go.sizeOf, typeInfo, hi0, hz1, Go.part, hx]

def z256 : List Nat := List.replicate 256 0
def z255 : List Nat := List.replicate 255 0
theorem zero256 (v : World) : (zeroValue 128).run Tryd.prog v = .ok (.agg (u8s z256).toArray) v := by kernel_rfl
theorem zero255 (v : World) : (zeroValue 143).run Tryd.prog v = .ok (.agg (u8s z255).toArray) v := by kernel_rfl

/-- what lies in memory while the powers are written -/
def SwA (w wr : World) (P : List Nat) : Prop :=
  Arr wr w.heap.size 128 (u8s z256) ∧ Arr wr (w.heap.size + 1) 143 (u8s P) ∧ Below w.heap.size w wr

theorem SwA.set {w wr : World} {P : List Nat} (r : SwA w wr P) (i x : Nat) : SwA w (wr.setCell ⟨w.heap.size + 1, i, none⟩ (.int .u8 ((x : Nat) : Int))) (P.set i x) := by
  obtain ⟨h0, h1, h2⟩ := r
  refine ⟨h0.other _ _ (show w.heap.size ≠ w.heap.size + 1 by omega), ?_, h2.setCell (show w.heap.size ≤ w.heap.size + 1 by omega) _⟩
  have := h1.set i (.int .u8 ((x : Nat) : Int))
  rw [u8s_set] at this
  exact this

/-- .. and while all bytes swapped are -/
def SwB (w wr : World) (g : Nat) (P A : List Nat) : Prop := SwA w wr P ∧ Arr wr g 128 (u8s A) ∧ w.heap.size + 1 < g

theorem SwB.set {w wr : World} {g : Nat} {P A : List Nat} (r : SwB w wr g P A) (i x : Nat) : SwB w (wr.setCell ⟨g, i, none⟩ (.int .u8 ((x : Nat) : Int))) g P (A.set i x) := by
  obtain ⟨⟨h0, h1, h2⟩, h3, h4⟩ := r
  refine ⟨⟨h0.other _ _ (show w.heap.size ≠ g by omega), h1.other _ _ (show w.heap.size + 1 ≠ g by omega), h2.setCell (show w.heap.size ≤ g by omega) _⟩, ?_, h4⟩
  have := h3.set i (.int .u8 ((x : Nat) : Int))
  rw [u8s_set] at this
  exact this

def c256 : Array Value := ((u8s z256).set 0 (Value.int .u8 99)).toArray

theorem wpList_build_to {P : Program} {ops : Array Oper} {rest : List Oper} {o : Oper} {a : Act} {w : World} {Q : Exit → Act → World → Prop} (hg : o.guard = none) (t : TypeId) (parts : Array (Nat × Operand)) (ho : o.op = .build t parts) (vs : List (Nat × Value)) (hv : (parts.map fun (i, x) => (i, a.eval x)).toList = vs) (C : Array Value) (hb : P.built t vs = some C)
    (h : wpList P ops Q rest (a.put o.dst (.agg C)) w) : wpList P ops Q (o :: rest) a w :=
  wpList_build hg t parts ho (by rw [hv, hb]; rfl) (by rw [hv, hb]; exact h)


set_option maxHeartbeats 8000000 in
set_option maxRecDepth 100000 in
theorem swaps_of (P F : List Nat) (L : Nat → List Nat) (w : World) (hLF : F = L 255) (hPL : P.length = 255) (hPB : ∀ i, P.getD i 0 < 256) (hP0 : P.getD 0 0 = 1) (hPN : ∀ i, i < 255 → tmF (P.getD i 0) 3 = P.getD ((i + 1) % 255) 0)
    (hL0 : L 0 = z256.set 0 99) (hLL : ∀ i, (L i).length = 256) (hLN : ∀ i, L (i + 1) = (L i).set (P.getD i 0) (spF (P.getD ((255 - i) % 255) 0))) :
    Calls Tryd.prog 70 #[] w fun e w' => e = .returned (.agg (u8s F).toArray) ∧ Below w.heap.size w w' := by
  have LF := hide hLF
  have PL := hide hPL
  have PB := hide hPB
  have P0 := hide hP0
  have PN := hide hPN
  have L0 := hide hL0
  have LL := hide hLL
  have LN := hide hLN
  clear hLF hPL hPB hP0 hPN hL0 hLL hLN
  have Z1 := zero256
  have Z2 := zero255
  go_enter Tryd.func70, Tryd.ntmps70
  go_wp2
  go_loopg [2, 7] 256 (fun f s2 s7 wr => ∃ (i p : Nat), s2 = .int .u8 p ∧ s7 = .int .i64 i ∧ i ≤ 255 ∧ 255 - i < f ∧ Hid (p = P.getD (i % 255) 0) ∧ Hid (SwA w wr (part P 255 i)))
  case atStart =>
    refine ⟨0, 1, rfl, rfl, by omega, by omega, P0.out.symm, ?_, ?_, ?_⟩
    · exact heap_alloc2_old _ _ _
    · exact heap_alloc2_new _ _ _
    · exact ((Below.refl _ _).alloc (Nat.le_refl _) _).alloc (by simp) _
  case round =>
    obtain ⟨i, p, rfl, rfl, hi, hf, HP, HR⟩ := hrel
    by_cases hlt : i < 255
    · have hp : Hid (p = P.getD i 0) := by show _ = _; rw [HP.out, Nat.mod_eq_of_lt hlt]
      have hpb : p < 256 := by rw [hp.out]; exact PB.out i
      have HN : Hid (tmF p 3 = P.getD ((i + 1) % 255) 0) := by show _ = _; rw [hp.out]; exact PN.out i hlt
      have HC := hide (fun v => times_any p 3 hpb (by omega) v)
      have cw := (HR.out.2.1.cell i).trans (u8s_at (by rw [part_length _ _ _ PL.out (by omega)]; omega))
      have fw := HR.out.2.1.frozen i
      generalize (part P 255 i).getD i 0 = old at *
      generalize tmF p 3 = q at *
      go_wp2_with fail
      refine (HC.out _).mono ?_
      rintro e w1 ⟨rfl, rfl⟩
      go_wp2
      go_roundg (255 - i)
      case measure => omega
      case rel =>
        refine ⟨i + 1, q, rfl, by go_num, by omega, by omega, HN, ?_⟩
        have := HR.out.set i p
        rw [hp.out, part_set _ _ _ PL.out hlt, ← hp.out] at this
        exact this
    · have e : i = 255 := by omega
      subst e
      rw [part_full _ _ PL.out] at HR
      clear HP
      have HS := hide (fun v => spread_any 0 (by omega) v)
      rw [sp_zero] at HS
      go_wp2_with fail
      refine (HS.out _).mono ?_
      rintro e w1 ⟨rfl, rfl⟩
      have A4 : ∀ v : World, (v.alloc (Obj.cells (u8s z256).toArray 128)).heap[v.heap.size]? = some (.cells (u8s z256).toArray 128 (0, 0)) := fun v => heap_alloc_new v _
      have A4 := hide A4
      have S1 : Hid ((u8s z256).toArray.size = c256.size) := by show _ = _; simp [u8s, z256, c256]
      have S2 : Hid ((Tryd.prog.info? 128).map (·.size) = some c256.size) := by show _ = _; rw [info256]; simp [u8s, z256, c256]
      have S3 : Hid ((Tryd.prog.info? 143).map (·.size) = some (u8s P).toArray.size) := by show _ = _; rw [info255]; simp [u8s, PL.out]
      have O1 : Hid (c256.all (·.oneCell') = true) := by show _ = _; rw [c256, show Value.int IntKind.u8 (99 : Int) = Value.int IntKind.u8 ((99 : Nat) : Int) from rfl, u8s_set]; exact one_u8s _
      have B0 : Hid (SwB w ((w1.alloc (Obj.cells (u8s z256).toArray 128)).setRow w1.heap.size c256) w1.heap.size P (L 0)) := by
        obtain ⟨h0, h1, h2⟩ := HR.out
        have l1 := h1.lt
        have hn := Arr.new w1 128 (u8s z256)
        refine ⟨⟨(h0.alloc _).rowOther _ _ (by omega), (h1.alloc _).rowOther _ _ (by omega), below_setRow (h2.alloc (by omega) _) (by omega) (by simp) _⟩, ?_, by omega⟩
        rw [L0.out, ← u8s_set]
        exact hn.row c256
      have l1 : w.heap.size + 1 < w1.heap.size := HR.out.2.1.lt
      clear HR
      go_wp2_with (first
        | (refine wpList_store_row rfl 128 _ _ rfl w1.heap.size c256 rfl rfl 128 _ (A4.out w1) S2.out S1.out O1.out ?_)
        | (refine wpList_load_row rfl 143 _ rfl (w.heap.size + 1) rfl 143 _ (0, 0) _ B0.out.1.2.1 Tryd.underlying143 rfl S3.out ?_))
      generalize w1.heap.size = g at *
      generalize (World.setRow _ g c256) = w2 at *
      go_loopg [19] 256 (fun f s19 wr => ∃ (i : Nat), s19 = .int .i64 i ∧ i ≤ 255 ∧ 255 - i < f ∧ Hid (SwB w wr g P (L i)))
      case atStart => exact ⟨0, rfl, by omega, by omega, B0⟩
      case round =>
        obtain ⟨i, rfl, hi, hf, HR⟩ := hrel
        by_cases hlt : i < 255
        · obtain ⟨r, hr⟩ : ∃ r, r = (255 - i) % 255 := ⟨_, rfl⟩
          obtain ⟨x, hx⟩ : ∃ x, x = P.getD i 0 := ⟨_, rfl⟩
          obtain ⟨y, hy⟩ : ∃ y, y = P.getD r 0 := ⟨_, rfl⟩
          have HX := hide hx
          have HY := hide hy
          have hr2 : r < 255 := by omega
          have hxb : x < 256 := by rw [hx]; exact PB.out i
          have hyb : y < 256 := by rw [hy]; exact PB.out r
          have hidx := run_index255 P i x wr hlt (by rw [u8s_at (by rw [PL.out]; exact hlt), ← hx])
          have ctm : Int.tmod (255 - (i : Int)) 255 = (r : Int) := by rw [Int.tmod_eq_emod_of_nonneg (by omega)]; omega
          have cem : (255 - (i : Int)) % 255 = (r : Int) := by omega
          have cr := (HR.out.1.2.1.cell r).trans (u8s_at (by rw [PL.out]; omega))
          rw [← hy] at cr
          have HC := hide (spread_any y hyb wr)
          have cw := (HR.out.2.1.cell x).trans (u8s_at (by rw [LL.out]; omega))
          have fw := HR.out.2.1.frozen x
          have HN : Hid (L (i + 1) = (L i).set x (spF y)) := by show _ = _; rw [LN.out, ← hx, ← hr, ← hy]
          clear hx hy
          generalize (L i).getD x 0 = old at *
          generalize spF y = z at *
          have hx256 : (x : Int) < 256 := by omega
          have hr255 : (r : Int) < 255 := by omega
          clear hr
          go_wp2_with fail
          refine (HC.out).mono ?_
          rintro e w3 ⟨rfl, rfl⟩
          go_wp2
          go_roundg (255 - i)
          case measure => omega
          case rel =>
            refine ⟨i + 1, by go_num, by omega, by omega, ?_⟩
            have := HR.out.set x z
            rw [← HN.out] at this
            exact this
        · have e : i = 255 := by omega
          subst e
          have K0 := hide HR.out.1.1
          have K1 := hide HR.out.2.1
          have KB := hide HR.out.1.2.2
          rw [← LF.out] at K1
          have FL : F.length = 256 := by rw [LF.out, LL.out]
          have T1 : Hid ((u8s z256).toArray.size = (u8s F).toArray.size) := by show _ = _; simp [u8s, z256, FL]
          have T2 : Hid ((Tryd.prog.info? 128).map (·.size) = some (u8s F).toArray.size) := by show _ = _; rw [info256]; simp [u8s, FL]
          have O2 := hide (one_u8s F)
          clear HR
          clear FL
          go_wp2_with (first
            | (refine wpList_load_row rfl 128 _ rfl g rfl 128 _ (0, 0) _ K1.out Tryd.underlying128 rfl T2.out ?_)
            | (refine wpList_store_row rfl 128 _ _ rfl w.heap.size _ rfl rfl 128 _ K0.out T2.out T1.out O2.out ?_))
          exact bodyPost_ret (v := .agg (u8s F).toArray) (results_cell_row Tryd.results70 _ _ w.heap.size 128 _ (0, 0) _ rfl (K0.out.row _) Tryd.underlying128 rfl T2.out) rfl ⟨rfl, below_setRow KB.out (Nat.le_refl _) K0.out.lt _⟩

theorem swaps_any (w : World) :
    Calls Tryd.prog 70 #[] w fun e w' => e = .returned (.agg (u8s swT).toArray) ∧ Below w.heap.size w w' := by
  exact swaps_of pwT swT swL w swL_all.symm pwT_length (fun i => getD_lt pwT_lt (by omega) i) pw_zero (fun i hi => pw_next hi) rfl swL_length (fun i => rfl)


end Go.Proofs.YtbmjlofehbbkbaaDoor
