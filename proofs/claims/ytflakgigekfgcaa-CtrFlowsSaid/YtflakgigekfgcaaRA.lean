/-
  The reference's products, others, bytes turned and swapped, and all bytes swapped.
-/
import Derived.Test.YtflakgigekfgcaaED
namespace Go.Proofs.Ytflakgigekfgcaa
open Go.RowKit

/-- the polynomials' product, so many bits -/
def rpF (a b : Nat) : Nat → Nat
  | 0 => 0
  | i + 1 => if b / 2 ^ i % 2 = 1 then rpF a b i ^^^ a * 2 ^ i else rpF a b i
/-- what is left of it, so many steps -/
def rqF (p : Nat) : Nat → Nat
  | 0 => p
  | k + 1 => if rqF p k / 2 ^ (14 - k) % 2 = 1 then rqF p k ^^^ 283 * 2 ^ (6 - k) else rqF p k

theorem bit_xor (x y n : Nat) : (x ^^^ y) / 2 ^ n % 2 = (x / 2 ^ n % 2) ^^^ (y / 2 ^ n % 2) := by
  rw [xor_div]
  exact Nat.xor_mod_two_pow (n := 1)

theorem rp_xor (a b c : Nat) : ∀ i, rpF a (b ^^^ c) i = rpF a b i ^^^ rpF a c i
  | 0 => (Nat.xor_self 0).symm
  | i + 1 => by
    simp only [rpF]
    rw [bit_xor, rp_xor a b c i]
    have h1 : b / 2 ^ i % 2 = 0 ∨ b / 2 ^ i % 2 = 1 := by omega
    have h2 : c / 2 ^ i % 2 = 0 ∨ c / 2 ^ i % 2 = 1 := by omega
    generalize a * 2 ^ i = x
    generalize rpF a b i = p
    generalize rpF a c i = q
    rcases h1 with h1 | h1 <;> rcases h2 with h2 | h2 <;> rw [h1, h2]
    · rfl
    · rw [if_pos (by decide), if_neg (by decide), if_pos rfl, Nat.xor_assoc]
    · rw [if_pos (by decide), if_pos rfl, if_neg (by decide), Nat.xor_assoc, Nat.xor_assoc, Nat.xor_comm q x]
    · rw [if_neg (by decide), if_pos rfl, if_pos rfl, xor_four, Nat.xor_self, Nat.xor_zero]

theorem rq_xor (p q : Nat) : ∀ k, rqF (p ^^^ q) k = rqF p k ^^^ rqF q k
  | 0 => rfl
  | k + 1 => by
    simp only [rqF]
    rw [rq_xor p q k, bit_xor]
    generalize 283 * 2 ^ (6 - k) = x
    generalize rqF p k = p'
    generalize rqF q k = q'
    have h1 : p' / 2 ^ (14 - k) % 2 = 0 ∨ p' / 2 ^ (14 - k) % 2 = 1 := by omega
    have h2 : q' / 2 ^ (14 - k) % 2 = 0 ∨ q' / 2 ^ (14 - k) % 2 = 1 := by omega
    rcases h1 with h1 | h1 <;> rcases h2 with h2 | h2 <;> rw [h1, h2]
    · rfl
    · rw [if_pos (by decide), if_neg (by decide), if_pos rfl, Nat.xor_assoc]
    · rw [if_pos (by decide), if_pos rfl, if_neg (by decide), Nat.xor_assoc, Nat.xor_assoc, Nat.xor_comm q' x]
    · rw [if_neg (by decide), if_pos rfl, if_pos rfl, xor_four, Nat.xor_self, Nat.xor_zero]

theorem rt_is {a b : Nat} (ha : a < 256) (hb : b < 256) : rqF (rpF a b 8) 7 % 256 = tmF a b := by
  refine ext8 (fun b => rqF (rpF a b 8) 7 % 256) (fun b => tmF a b) (fun b c _ _ => ?_) (fun b c _ _ => tm_xor_right a b c) ?_ ?_ b hb
  · show rqF (rpF a (b ^^^ c) 8) 7 % 256 = _
    rw [rp_xor, rq_xor]
    exact Nat.xor_mod_two_pow (n := 8)
  · show rqF (rpF a 0 8) 7 % 256 = tmF a 0
    rw [tm_zero]
    have h : ∀ i, rpF a 0 i = 0 := by
      intro i
      induction i with
      | zero => rfl
      | succ i ih => simp [rpF, ih]
    rw [h]
    decide +kernel
  · intro k hk
    have h : allB 256 (fun i => allB 8 fun k => rqF (rpF i (2 ^ k) 8) 7 % 256 == tmF i (2 ^ k)) = true := by decide +kernel
    simpa using allB2 h a k ha hk

theorem rp_lt {a : Nat} (b : Nat) (ha : a < 256) : ∀ i, i ≤ 8 → rpF a b i < 2 ^ 16 := by
  intro i
  induction i with
  | zero => intro _; show (0 : Nat) < _; omega
  | succ i ih =>
    intro hi
    have h1 := ih (by omega)
    have h2 : a * 2 ^ i < 2 ^ 16 := by
      have : 2 ^ i ≤ 2 ^ 7 := Nat.pow_le_pow_right (by omega) (by omega)
      exact Nat.lt_of_le_of_lt (Nat.mul_le_mul (show a ≤ 255 by omega) this) (by decide)
    simp only [rpF]
    split
    · exact Nat.xor_lt_two_pow h1 h2
    · exact h1
theorem rq_lt {p : Nat} (hp : p < 2 ^ 16) : ∀ k, rqF p k < 2 ^ 16 := by
  intro k
  induction k with
  | zero => exact hp
  | succ k ih =>
    simp only [rqF]
    split
    · refine Nat.xor_lt_two_pow ih ?_
      have : 2 ^ (6 - k) ≤ 2 ^ 6 := Nat.pow_le_pow_right (by omega) (by omega)
      exact Nat.lt_of_le_of_lt (Nat.mul_le_mul (Nat.le_refl 283) this) (by decide)
    · exact ih

end Go.Proofs.Ytflakgigekfgcaa
