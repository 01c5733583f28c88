/-
  Walks: a byte doubled, the product of two bytes, a byte turned, spread, a byte's other, a byte swapped.
-/
import Derived.Test.YtflakgigekfgcaaEB
namespace Go.Proofs.Ytflakgigekfgcaa
open Go.RowKit

set_option maxRecDepth 100000 in
set_option maxHeartbeats 1000000 in
theorem doubled_any (a : Nat) (ha : a < 256) (w : World) :
    Calls Try.prog 45 #[.int .u8 a] w fun e w' => e = .returned (.int .u8 ((dblF a : Nat) : Int)) ∧ w' = w := by
  by_cases h : a < 128
  · have H1 : Hid (dblF a = 2 * a) := by show _ = _; rw [dblF, if_pos h]
    generalize dblF a = R at *
    go_enter Try.func45, Try.ntmps45
    go_wp2
    go_ret
    refine ⟨ret_u8 ?_, rfl⟩
    rw [H1.out]; omega
  · have H1 : Hid (bits .xor .u8 ((2 * a - 256 : Nat) : Int) 27 = ((dblF a : Nat) : Int)) := by
      show _ = _
      rw [show (27 : Int) = ((27 : Nat) : Int) from rfl, u8_xor_nat _ _ (by omega) (by omega), dblF, if_neg h]
    generalize dblF a = R at *
    go_enter Try.func45, Try.ntmps45
    go_wp2
    go_ret
    refine ⟨ret_u8 ?_, rfl⟩
    rw [← H1.out]
    congr 1
    omega

theorem and_one (b : Nat) (hb : b < 256) : bits .and .u8 (b : Int) 1 = ((b % 2 : Nat) : Int) := by
  rw [show (1 : Int) = ((1 : Nat) : Int) from rfl, u8_and_nat _ _ hb (by omega), Nat.and_one_is_mod]

/-- how the product stands -/
def TmR (R k a b p : Nat) : Prop := a < 256 ∧ p < 256 ∧ b < 2 ^ k ∧ k ≤ 8 ∧ tmG k a b p = R

theorem TmR.step {R k a b p : Nat} (h : TmR R k a b p) (h0 : 0 < b) : 1 ≤ k ∧ TmR R (k - 1) (dblF a) (b / 2) (if b % 2 = 1 then p ^^^ a else p) := by
  obtain ⟨ha, hp, hb, hk, hR⟩ := h
  cases k with
  | zero => simp at hb; omega
  | succ k =>
    refine ⟨by omega, dblF_lt ha, ?_, by simp; rw [Nat.pow_succ] at hb; omega, by omega, hR⟩
    split
    · exact xor_lt8 hp ha
    · exact hp
theorem TmR.done {R k a p : Nat} (h : TmR R k a 0 p) : p = R := by rw [← h.2.2.2.2, tmG_zero]
theorem TmR.start (a b : Nat) (ha : a < 256) (hb : b < 256) : TmR (tmF a b) 8 a b 0 := ⟨ha, by omega, by omega, by omega, rfl⟩
theorem TmR.lt {R k a b p : Nat} (h : TmR R k a b p) : b < 256 := Nat.lt_of_lt_of_le h.2.2.1 (Nat.pow_le_pow_right (by omega) h.2.2.2.1)

set_option maxHeartbeats 2000000 in
set_option maxRecDepth 100000 in
theorem times_of (R a b : Nat) (hR : TmR R 8 a b 0) (w : World) :
    Calls Try.prog 42 #[.int .u8 a, .int .u8 b] w fun e w' => e = .returned (.int .u8 (R : Int)) ∧ w' = w := by
  have HR := hide hR
  clear hR
  go_enter Try.func42, Try.ntmps42
  go_wp2
  go_loopg [0, 1, 5] 9 (fun f s0 s1 s5 wr => ∃ (k a b p : Nat), s0 = .int .u8 a ∧ s1 = .int .u8 b ∧ s5 = .int .u8 p ∧ k < f ∧ Hid (TmR R k a b p) ∧ wr = w)
  case atStart => exact ⟨8, a, b, 0, rfl, rfl, rfl, by omega, HR, rfl⟩
  case round =>
    obtain ⟨k, x, y, p, rfl, rfl, rfl, hf, HT, rfl⟩ := hrel
    have hx := HT.out.1
    have hp := HT.out.2.1
    have hy := HT.out.lt
    by_cases h0 : 0 < y
    · obtain ⟨hk1, HS'⟩ := HT.out.step h0
      have HS := hide HS'
      have hand := and_one y hy
      have HD := hide (doubled_any x hx wr)
      clear HS'
      generalize dblF x = x2 at *
      by_cases h1 : y % 2 = 1
      · have HX := hide (u8_xor_nat p x hp hx)
        rw [if_pos h1] at HS
        rw [h1] at hand
        go_wp2_with fail
        refine HD.out.mono ?_
        rintro e w1 ⟨rfl, rfl⟩
        go_wp2
        go_roundg k
        case measure => omega
        case rel => exact ⟨k - 1, x2, y / 2, p ^^^ x, rfl, by simp, by rw [HX.out], by omega, HS, rfl⟩
      · rw [if_neg h1] at HS
        have e0 : y % 2 = 0 := by omega
        rw [e0] at hand
        go_wp2_with fail
        refine HD.out.mono ?_
        rintro e w1 ⟨rfl, rfl⟩
        go_wp2
        go_roundg k
        case measure => omega
        case rel => exact ⟨k - 1, x2, y / 2, p, rfl, by simp, rfl, by omega, HS, rfl⟩
    · have e0 : y = 0 := by omega
      subst e0
      have e := HT.out.done
      subst e
      go_wp2
      go_ret
      exact ⟨rfl, rfl⟩

theorem times_any (a b : Nat) (ha : a < 256) (hb : b < 256) (w : World) :
    Calls Try.prog 42 #[.int .u8 a, .int .u8 b] w fun e w' => e = .returned (.int .u8 ((tmF a b : Nat) : Int)) ∧ w' = w :=
  times_of _ a b (TmR.start a b ha hb) w

/- a byte turned -/
theorem or_rot (y n : Nat) (hy : y < 256) : bits .or .u8 ((y * 2 ^ n % 256 : Nat) : Int) ((y / 2 ^ (8 - n) : Nat) : Int) = ((rotF y n : Nat) : Int) := by
  rw [u8_or_nat _ _ (Nat.mod_lt _ (by omega)) (Nat.lt_of_le_of_lt (Nat.div_le_self _ _) hy)]
  rfl

theorem and_seven (n : Nat) (h : n ≤ 4) : bits .and .u64 (n : Int) 7 = (n : Int) := by
  rw [show (7 : Int) = ((7 : Nat) : Int) from rfl, u64_and_nat _ _ (by omega) (by omega), show n &&& 7 = n % 8 from Nat.and_two_pow_sub_one_eq_mod n 3, Nat.mod_eq_of_lt (by omega)]

set_option maxRecDepth 100000 in
set_option maxHeartbeats 1000000 in
theorem rotl_any (y n : Nat) (hy : y < 256) (h1 : 1 ≤ n) (h2 : n ≤ 4) (w : World) :
    Calls Try.prog 46 #[.int .u8 y, .int .i64 n] w fun e w' => e = .returned (.int .u8 ((rotF y n : Nat) : Int)) ∧ w' = w := by
  have HR := hide (or_rot y n hy)
  have hand := and_seven n h2
  generalize rotF y n = R at *
  go_enter Try.func46, Try.ntmps46
  go_wp2
  go_ret
  refine ⟨ret_u8 ?_, rfl⟩
  rw [← HR.out]
  congr 1 <;> simp

/-- how spread stands -/
def SpR (R y t s : Nat) : Prop := 1 ≤ t ∧ t ≤ 5 ∧ s = spG y (t - 1) ∧ R = spG y 4 ∧ y < 256

set_option maxRecDepth 100000 in
set_option maxHeartbeats 1000000 in
theorem spread_of (R y s0 : Nat) (h : SpR R y 1 s0) (w : World) :
    Calls Try.prog 43 #[.int .u8 y] w fun e w' => e = .returned (.int .u8 ((R : Nat) : Int)) ∧ w' = w := by
  have HR := hide h
  have hy := h.2.2.2.2
  have hx0 : bits .xor .u8 (y : Int) 99 = (s0 : Int) := by
    rw [show (99 : Int) = ((99 : Nat) : Int) from rfl, u8_xor_nat _ _ hy (by omega), h.2.2.1]; rfl
  clear h
  go_enter Try.func43, Try.ntmps43
  go_wp2
  go_loopg [3, 4] 5 (fun f s3 s4 wr => ∃ (s t : Nat), s3 = .int .u8 s ∧ s4 = .int .i64 t ∧ 1 ≤ t ∧ t ≤ 5 ∧ 5 - t < f ∧ Hid (SpR R y t s) ∧ wr = w)
  case atStart => exact ⟨s0, 1, rfl, rfl, by omega, by omega, by omega, HR, rfl⟩
  case round =>
    obtain ⟨s, t, rfl, rfl, h1, h5, hf, HS, rfl⟩ := hrel
    by_cases ht : t ≤ 4
    · have HC := hide (rotl_any y t hy h1 ht wr)
      have HX : Hid (bits .xor .u8 (s : Int) ((rotF y t : Nat) : Int) = ((s ^^^ rotF y t : Nat) : Int)) := by
        show _ = _
        rw [u8_xor_nat _ _ (by rw [HS.out.2.2.1]; exact spG_lt hy _) (rotF_lt _ hy)]
      have HN : Hid (SpR R y (t + 1) (s ^^^ rotF y t)) := by
        obtain ⟨_, _, e1, e2, _⟩ := HS.out
        refine ⟨by omega, by omega, ?_, e2, hy⟩
        rw [e1, show t + 1 - 1 = (t - 1) + 1 by omega, spG, show t - 1 + 1 = t by omega]
      generalize rotF y t = r at *
      go_wp2_with fail
      refine HC.out.mono ?_
      rintro e w1 ⟨rfl, rfl⟩
      go_wp2
      go_roundg (5 - t)
      case measure => omega
      case rel => exact ⟨s ^^^ r, t + 1, by rw [HX.out], by go_num, by omega, by omega, by omega, HN, rfl⟩
    · have e5 : t = 5 := by omega
      subst e5
      have e : s = R := by rw [HS.out.2.2.1, HS.out.2.2.2.1]
      subst e
      go_wp2
      go_ret
      exact ⟨rfl, rfl⟩

theorem spread_any (y : Nat) (hy : y < 256) (w : World) :
    Calls Try.prog 43 #[.int .u8 y] w fun e w' => e = .returned (.int .u8 ((spF y : Nat) : Int)) ∧ w' = w :=
  spread_of (spF y) y (y ^^^ 99) ⟨by omega, by omega, rfl, rfl, hy⟩ w

/-- how the search stands -/
def OtR (R a b : Nat) : Prop := b ≤ 256 ∧ otG a (256 - b) b = R

theorem OtR.step {R a b : Nat} (h : OtR R a b) (hb : b < 256) (hne : tmF a b ≠ 1) : OtR R a (b + 1) := by
  obtain ⟨h1, h2⟩ := h
  refine ⟨by omega, ?_⟩
  rw [show 256 - b = (256 - (b + 1)) + 1 by omega, otG, if_neg hne] at h2
  exact h2
theorem OtR.hit {R a b : Nat} (h : OtR R a b) (hb : b < 256) (he : tmF a b = 1) : b = R := by
  obtain ⟨h1, h2⟩ := h
  rw [show 256 - b = (256 - (b + 1)) + 1 by omega, otG, if_pos he] at h2
  exact h2
theorem OtR.none {R a : Nat} (h : OtR R a 256) : R = 0 := by rw [← h.2]; rfl


end Go.Proofs.Ytflakgigekfgcaa
