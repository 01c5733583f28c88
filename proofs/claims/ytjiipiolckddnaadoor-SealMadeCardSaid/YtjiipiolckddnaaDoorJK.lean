/-
  Several texts, joined: RA, RB, RE.
-/
import Derived.Test.YtjiipiolckddnaaDoorJI
import Derived.Test.YtjiipiolckddnaaDoorJJ

/- The reference's products, others, bytes turned and swapped, and all bytes swapped. -/
namespace Go.Proofs.YtjiipiolckddnaaDoor
open Go.RowKit

/-- the polynomials' product, so many bits -/
def rpF (a b : Nat) : Nat → Nat
  | 0 => 0
  | i + 1 => if b / 2 ^ i % 2 = 1 then rpF a b i ^^^ a * 2 ^ i else rpF a b i
/-- what is left of it, so many steps -/
def rqF (p : Nat) : Nat → Nat
  | 0 => p
  | k + 1 => if rqF p k / 2 ^ (14 - k) % 2 = 1 then rqF p k ^^^ 283 * 2 ^ (6 - k) else rqF p k

theorem bit_xor (x y n : Nat) : (x ^^^ y) / 2 ^ n % 2 = (x / 2 ^ n % 2) ^^^ (y / 2 ^ n % 2) := by
  rw [xor_div]
  exact Nat.xor_mod_two_pow (n := 1)

theorem rp_xor (a b c : Nat) : ∀ i, rpF a (b ^^^ c) i = rpF a b i ^^^ rpF a c i
  | 0 => (Nat.xor_self 0).symm
  | i + 1 => by
    simp only [rpF]
    rw [bit_xor, rp_xor a b c i]
    have h1 : b / 2 ^ i % 2 = 0 ∨ b / 2 ^ i % 2 = 1 := by omega
    have h2 : c / 2 ^ i % 2 = 0 ∨ c / 2 ^ i % 2 = 1 := by omega
    generalize a * 2 ^ i = x
    generalize rpF a b i = p
    generalize rpF a c i = q
    rcases h1 with h1 | h1 <;> rcases h2 with h2 | h2 <;> rw [h1, h2]
    · rfl
    · rw [if_pos (by decide), if_neg (by decide), if_pos rfl, Nat.xor_assoc]
    · rw [if_pos (by decide), if_pos rfl, if_neg (by decide), Nat.xor_assoc, Nat.xor_assoc, Nat.xor_comm q x]
    · rw [if_neg (by decide), if_pos rfl, if_pos rfl, xor_four, Nat.xor_self, Nat.xor_zero]

theorem rq_xor (p q : Nat) : ∀ k, rqF (p ^^^ q) k = rqF p k ^^^ rqF q k
  | 0 => rfl
  | k + 1 => by
    simp only [rqF]
    rw [rq_xor p q k, bit_xor]
    generalize 283 * 2 ^ (6 - k) = x
    generalize rqF p k = p'
    generalize rqF q k = q'
    have h1 : p' / 2 ^ (14 - k) % 2 = 0 ∨ p' / 2 ^ (14 - k) % 2 = 1 := by omega
    have h2 : q' / 2 ^ (14 - k) % 2 = 0 ∨ q' / 2 ^ (14 - k) % 2 = 1 := by omega
    rcases h1 with h1 | h1 <;> rcases h2 with h2 | h2 <;> rw [h1, h2]
    · rfl
    · rw [if_pos (by decide), if_neg (by decide), if_pos rfl, Nat.xor_assoc]
    · rw [if_pos (by decide), if_pos rfl, if_neg (by decide), Nat.xor_assoc, Nat.xor_assoc, Nat.xor_comm q' x]
    · rw [if_neg (by decide), if_pos rfl, if_pos rfl, xor_four, Nat.xor_self, Nat.xor_zero]

theorem rt_is {a b : Nat} (ha : a < 256) (hb : b < 256) : rqF (rpF a b 8) 7 % 256 = tmF a b := by
  refine ext8 (fun b => rqF (rpF a b 8) 7 % 256) (fun b => tmF a b) (fun b c _ _ => ?_) (fun b c _ _ => tm_xor_right a b c) ?_ ?_ b hb
  · show rqF (rpF a (b ^^^ c) 8) 7 % 256 = _
    rw [rp_xor, rq_xor]
    exact Nat.xor_mod_two_pow (n := 8)
  · show rqF (rpF a 0 8) 7 % 256 = tmF a 0
    rw [tm_zero]
    have h : ∀ i, rpF a 0 i = 0 := by
      intro i
      induction i with
      | zero => rfl
      | succ i ih => simp [rpF, ih]
    rw [h]
    decide +kernel
  · intro k hk
    have h : allB 256 (fun i => allB 8 fun k => rqF (rpF i (2 ^ k) 8) 7 % 256 == tmF i (2 ^ k)) = true := by decide +kernel
    simpa using allB2 h a k ha hk

theorem rp_lt {a : Nat} (b : Nat) (ha : a < 256) : ∀ i, i ≤ 8 → rpF a b i < 2 ^ 16 := by
  intro i
  induction i with
  | zero => intro _; show (0 : Nat) < _; omega
  | succ i ih =>
    intro hi
    have h1 := ih (by omega)
    have h2 : a * 2 ^ i < 2 ^ 16 := by
      have : 2 ^ i ≤ 2 ^ 7 := Nat.pow_le_pow_right (by omega) (by omega)
      exact Nat.lt_of_le_of_lt (Nat.mul_le_mul (show a ≤ 255 by omega) this) (by decide)
    simp only [rpF]
    split
    · exact Nat.xor_lt_two_pow h1 h2
    · exact h1
theorem rq_lt {p : Nat} (hp : p < 2 ^ 16) : ∀ k, rqF p k < 2 ^ 16 := by
  intro k
  induction k with
  | zero => exact hp
  | succ k ih =>
    simp only [rqF]
    split
    · refine Nat.xor_lt_two_pow ih ?_
      have : 2 ^ (6 - k) ≤ 2 ^ 6 := Nat.pow_le_pow_right (by omega) (by omega)
      exact Nat.lt_of_le_of_lt (Nat.mul_le_mul (Nat.le_refl 283) this) (by decide)
    · exact ih

end Go.Proofs.YtjiipiolckddnaaDoor

/- Walks: the reference's products, others, bytes turned and swapped, all bytes swapped. -/
namespace Go.Proofs.YtjiipiolckddnaaDoor
open Go.RowKit

theorem i64_xor_small (a b : Nat) (ha : a < 65536) (hb : b < 65536) : bits .xor .i64 (a : Int) (b : Int) = ((a ^^^ b : Nat) : Int) := by
  have hx : a ^^^ b < 2 ^ 16 := Nat.xor_lt_two_pow (by omega) (by omega)
  show IntKind.i64.wrap ((BitVec.ofInt 64 (a : Int) ^^^ BitVec.ofInt 64 (b : Int)).toNat : Int) = _
  rw [BitVec.toNat_xor, BitVec.ofInt_natCast, BitVec.ofInt_natCast, BitVec.toNat_ofNat, BitVec.toNat_ofNat, Nat.mod_eq_of_lt (by omega), Nat.mod_eq_of_lt (by omega)]
  simp [IntKind.wrap, IntKind.bits, IntKind.signed]
  omega

theorem wrap_pow (a i : Nat) (h : a * 2 ^ i < 65536) : wrap64 ((a : Int) * 2 ^ i) = ((a * 2 ^ i : Nat) : Int) := by
  have e : ((a : Int) * 2 ^ i) = ((a * 2 ^ i : Nat) : Int) := by simp
  rw [e]
  generalize a * 2 ^ i = x at *
  simp [wrap64]
  omega
theorem bit_at (b i : Nat) : ((b : Int) / 2 ^ i).tmod 2 = ((b / 2 ^ i % 2 : Nat) : Int) := by
  have e : ((b : Int) / 2 ^ i) = ((b / 2 ^ i : Nat) : Int) := by simp
  rw [e]
  generalize b / 2 ^ i = x
  rw [Int.tmod_eq_emod_of_nonneg (by omega)]
  omega
theorem bit_int (b i : Nat) : (((b : Int) / 2 ^ i).tmod 2 == 1) = true ↔ b / 2 ^ i % 2 = 1 := by
  rw [bit_at, beq_iff_eq]
  omega
theorem bit_int' (b i : Nat) : (((b : Int) / 2 ^ i).tmod 2 == 1) = false ↔ b / 2 ^ i % 2 = 0 := by
  rw [bit_at, beq_eq_false_iff_ne]
  omega

set_option maxHeartbeats 2000000 in
set_option maxRecDepth 100000 in
theorem rtimes_of (R a b : Nat) (PF QF : Nat → Nat) (ha : a < 256) (_hb : b < 256) (hP0 : PF 0 = 0) (hPN : ∀ i, i < 8 → PF (i + 1) = if b / 2 ^ i % 2 = 1 then PF i ^^^ a * 2 ^ i else PF i) (hPL : ∀ i, i ≤ 8 → PF i < 65536)
    (hQ0 : QF 0 = PF 8) (hQN : ∀ k, k < 7 → QF (k + 1) = if QF k / 2 ^ (14 - k) % 2 = 1 then QF k ^^^ 283 * 2 ^ (6 - k) else QF k) (hQL : ∀ k, QF k < 65536) (hR : R = QF 7 % 256) (w : World) :
    Calls Tryd.prog 49 #[.int .u8 a, .int .u8 b] w fun e w' => e = .returned (.int .u8 (R : Int)) ∧ w' = w := by
  have P0 := hide hP0
  have PN := hide hPN
  have PL := hide hPL
  have Q0 := hide hQ0
  have QN := hide hQN
  have QL := hide hQL
  have HR := hide hR
  clear hP0 hPN hPL hQ0 hQN hQL hR
  go_enter Tryd.func49, Tryd.ntmps49
  go_wp2
  go_loopg [5, 6] 9 (fun f s5 s6 wr => ∃ (i p : Nat), s5 = .int .i64 p ∧ s6 = .int .i64 i ∧ i ≤ 8 ∧ 8 - i < f ∧ Hid (p = PF i) ∧ wr = w)
  case atStart => exact ⟨0, 0, rfl, rfl, by omega, by omega, P0.out.symm, rfl⟩
  case round =>
    obtain ⟨i, p, rfl, rfl, hi, hf, HP, rfl⟩ := hrel
    by_cases hlt : i < 8
    · have hi8 : (i : Int) < 8 := by omega
      have HN := hide (PN.out i hlt)
      have HX : Hid (bits .xor .i64 (p : Int) (wrap64 ((a : Int) * 2 ^ i)) = ((p ^^^ a * 2 ^ i : Nat) : Int)) := by
        show _ = _
        have h2 : a * 2 ^ i < 65536 := by
          have : 2 ^ i ≤ 2 ^ 7 := Nat.pow_le_pow_right (by omega) (by omega)
          exact Nat.lt_of_le_of_lt (Nat.mul_le_mul (show a ≤ 255 by omega) this) (by decide)
        rw [wrap_pow a i h2, i64_xor_small _ _ (by rw [HP.out]; exact PL.out i hi) h2]
      rw [← HP.out] at HN
      go_wp2
      · rename_i h
        have h := (bit_int b i).1 h
        rw [if_pos h] at HN
        go_roundg (8 - i)
        case measure => omega
        case rel => exact ⟨i + 1, p ^^^ a * 2 ^ i, by rw [HX.out], by go_num, by omega, by omega, HN.out.symm, rfl⟩
      · rename_i h
        have h := (bit_int' b i).1 h
        rw [if_neg (by omega)] at HN
        go_roundg (8 - i)
        case measure => omega
        case rel => exact ⟨i + 1, p, rfl, by go_num, by omega, by omega, HN.out.symm, rfl⟩
    · have e : i = 8 := by omega
      subst e
      rw [← Q0.out] at HP
      go_wp2
      go_loopg [5, 7] 8 (fun f s5 s7 wr' => ∃ (i k p : Nat), s5 = .int .i64 p ∧ s7 = .int .i64 i ∧ i + k = 14 ∧ k ≤ 7 ∧ 7 - k < f ∧ Hid (p = QF k) ∧ wr' = wr)
      case atStart => exact ⟨14, 0, p, rfl, rfl, by omega, by omega, by omega, HP, rfl⟩
      case round =>
        clear HP
        obtain ⟨i, k, q, rfl, rfl, hik, hk, hf, HP, rfl⟩ := hrel
        by_cases hlt : k < 7
        · have hi8 : (8 : Int) ≤ (i : Int) := by omega
          have hi14 : (i : Int) ≤ 14 := by omega
          have HN := hide (QN.out k hlt)
          have hq : q < 65536 := by rw [HP.out]; exact QL.out k
          have e14 : 14 - k = i := by omega
          have e6 : 6 - k = i - 8 := by omega
          rw [← HP.out, e14, e6] at HN
          have HX : Hid (bits .xor .i64 (q : Int) (wrap64 (283 * 2 ^ (i - 8))) = ((q ^^^ 283 * 2 ^ (i - 8) : Nat) : Int)) := by
            show _ = _
            have h2 : 283 * 2 ^ (i - 8) < 65536 := by
              have : 2 ^ (i - 8) ≤ 2 ^ 6 := Nat.pow_le_pow_right (by omega) (by omega)
              exact Nat.lt_of_le_of_lt (Nat.mul_le_mul (Nat.le_refl 283) this) (by decide)
            have h3 := wrap_pow 283 (i - 8) h2
            rw [show ((283 : Nat) : Int) = 283 from rfl] at h3
            rw [h3, i64_xor_small _ _ hq h2]
          clear e14 e6
          go_wp2
          · rename_i h
            have h := (bit_int q i).1 h
            rw [if_pos h] at HN
            go_roundg (7 - k)
            case measure => omega
            case rel => exact ⟨i - 1, k + 1, q ^^^ 283 * 2 ^ (i - 8), by rw [HX.out], by go_num, by omega, by omega, by omega, HN.out.symm, rfl⟩
          · rename_i h
            have h := (bit_int' q i).1 h
            rw [if_neg (by omega)] at HN
            go_roundg (7 - k)
            case measure => omega
            case rel => exact ⟨i - 1, k + 1, q, rfl, by go_num, by omega, by omega, by omega, HN.out.symm, rfl⟩
        · have e : k = 7 := by omega
          subst e
          have e : i = 7 := by omega
          subst e
          have hq : q < 65536 := by rw [HP.out]; exact QL.out 7
          rw [← HP.out] at HR
          go_wp2
          go_ret
          refine ⟨ret_u8 ?_, rfl⟩
          rw [HR.out]
          omega

theorem rtimes_any (a b : Nat) (ha : a < 256) (hb : b < 256) (w : World) :
    Calls Tryd.prog 49 #[.int .u8 a, .int .u8 b] w fun e w' => e = .returned (.int .u8 ((tmF a b : Nat) : Int)) ∧ w' = w :=
  rtimes_of (tmF a b) a b (rpF a b) (rqF (rpF a b 8)) ha hb rfl (fun _ _ => rfl) (fun i hi => rp_lt b ha i hi) rfl (fun _ _ => rfl) (fun k => rq_lt (rp_lt b ha 8 (by omega)) k) (rt_is ha hb).symm w

set_option maxRecDepth 100000 in
set_option maxHeartbeats 1000000 in
theorem rother_of (R a : Nat) (ha : a < 256) (h : OtR R a 1) (w : World) :
    Calls Tryd.prog 70 #[.int .u8 a] w fun e w' => e = .returned (.int .u8 ((R : Nat) : Int)) ∧ w' = w := by
  have HR := hide h
  clear h
  go_enter Tryd.func70, Tryd.ntmps70
  go_wp2
  go_loopg [3] 257 (fun f s3 wr => ∃ (b : Nat), s3 = .int .i64 b ∧ b ≤ 256 ∧ 256 - b < f ∧ Hid (OtR R a b) ∧ wr = w)
  case atStart => exact ⟨1, rfl, by omega, by omega, HR, rfl⟩
  case round =>
    obtain ⟨b, rfl, hb, hf, HS, rfl⟩ := hrel
    by_cases hlt : b < 256
    · have HC := hide (rtimes_any a b ha hlt wr)
      have hl := tmF_lt b ha
      by_cases he : tmF a b = 1
      · have hb1 := HS.out.hit hlt he
        rw [he] at HC
        clear hl he
        subst hb1
        go_wp2_with fail
        refine HC.out.mono ?_
        rintro e w1 ⟨rfl, rfl⟩
        go_wp2
        go_ret
        exact ⟨rfl, rfl⟩
      · have HN := hide (HS.out.step hlt he)
        generalize tmF a b = x at *
        have hx : ¬ (x : Int) = 1 := by omega
        go_wp2_with fail
        refine HC.out.mono ?_
        rintro e w1 ⟨rfl, rfl⟩
        go_wp2
        go_roundg (256 - b)
        case measure => omega
        case rel => exact ⟨b + 1, by go_num, by omega, by omega, HN, rfl⟩
    · have e : b = 256 := by omega
      subst e
      have e0 := HS.out.none
      subst e0
      go_wp2
      go_ret
      exact ⟨rfl, rfl⟩

theorem rother_any (a : Nat) (ha : a < 256) (w : World) :
    Calls Tryd.prog 70 #[.int .u8 a] w fun e w' => e = .returned (.int .u8 ((otF a : Nat) : Int)) ∧ w' = w :=
  rother_of (otF a) a ha (OtR.step ⟨by omega, rfl⟩ (by omega) (by rw [tm_zero]; omega)) w

set_option maxRecDepth 100000 in
set_option maxHeartbeats 1000000 in
theorem rleft_any (y n : Nat) (hy : y < 256) (h1 : 1 ≤ n) (h2 : n ≤ 4) (w : World) :
    Calls Tryd.prog 71 #[.int .u8 y, .int .i64 n] w fun e w' => e = .returned (.int .u8 ((rotF y n : Nat) : Int)) ∧ w' = w := by
  have HR := hide (or_rot y n hy)
  generalize rotF y n = R at *
  go_enter Tryd.func71, Tryd.ntmps71
  go_wp2
  go_ret
  refine ⟨ret_u8 ?_, rfl⟩
  rw [← HR.out]
  congr 1 <;> simp

set_option maxRecDepth 100000 in
set_option maxHeartbeats 1000000 in
theorem rswap_of (a y r1 r2 r3 r4 x1 x2 x3 x4 R : Nat) (hO : ∀ w : World, Calls Tryd.prog 70 #[.int .u8 a] w fun e w' => e = .returned (.int .u8 ((y : Nat) : Int)) ∧ w' = w)
    (h1 : ∀ w : World, Calls Tryd.prog 71 #[.int .u8 y, .int .i64 1] w fun e w' => e = .returned (.int .u8 ((r1 : Nat) : Int)) ∧ w' = w)
    (h2 : ∀ w : World, Calls Tryd.prog 71 #[.int .u8 y, .int .i64 2] w fun e w' => e = .returned (.int .u8 ((r2 : Nat) : Int)) ∧ w' = w)
    (h3 : ∀ w : World, Calls Tryd.prog 71 #[.int .u8 y, .int .i64 3] w fun e w' => e = .returned (.int .u8 ((r3 : Nat) : Int)) ∧ w' = w)
    (h4 : ∀ w : World, Calls Tryd.prog 71 #[.int .u8 y, .int .i64 4] w fun e w' => e = .returned (.int .u8 ((r4 : Nat) : Int)) ∧ w' = w)
    (e1 : bits .xor .u8 (y : Int) (r1 : Int) = (x1 : Int)) (e2 : bits .xor .u8 (x1 : Int) (r2 : Int) = (x2 : Int)) (e3 : bits .xor .u8 (x2 : Int) (r3 : Int) = (x3 : Int)) (e4 : bits .xor .u8 (x3 : Int) (r4 : Int) = (x4 : Int)) (e5 : bits .xor .u8 (x4 : Int) 99 = (R : Int)) (w : World) :
    Calls Tryd.prog 48 #[.int .u8 a] w fun e w' => e = .returned (.int .u8 ((R : Nat) : Int)) ∧ w' = w := by
  have HO := hide hO
  have H1 := hide h1
  have H2 := hide h2
  have H3 := hide h3
  have H4 := hide h4
  clear hO h1 h2 h3 h4
  go_enter Tryd.func48, Tryd.ntmps48
  go_wp2_with fail
  refine (HO.out _).mono ?_
  rintro e w1 ⟨rfl, hw⟩
  subst hw
  go_wp2_with fail
  refine (H1.out _).mono ?_
  rintro e w1 ⟨rfl, hw⟩
  subst hw
  go_wp2_with fail
  refine (H2.out _).mono ?_
  rintro e w1 ⟨rfl, hw⟩
  subst hw
  go_wp2_with fail
  refine (H3.out _).mono ?_
  rintro e w1 ⟨rfl, hw⟩
  subst hw
  go_wp2_with fail
  refine (H4.out _).mono ?_
  rintro e w1 ⟨rfl, hw⟩
  subst hw
  go_wp2
  go_ret
  exact ⟨rfl, rfl⟩

theorem rswap_any (a : Nat) (ha : a < 256) (w : World) :
    Calls Tryd.prog 48 #[.int .u8 a] w fun e w' => e = .returned (.int .u8 ((swF a : Nat) : Int)) ∧ w' = w := by
  have hy := ot_lt ha
  have hs := sp_ref hy
  refine rswap_of a (otF a) (rotF (otF a) 1) (rotF (otF a) 2) (rotF (otF a) 3) (rotF (otF a) 4) (otF a ^^^ rotF (otF a) 1) ((otF a ^^^ rotF (otF a) 1) ^^^ rotF (otF a) 2) (((otF a ^^^ rotF (otF a) 1) ^^^ rotF (otF a) 2) ^^^ rotF (otF a) 3) ((((otF a ^^^ rotF (otF a) 1) ^^^ rotF (otF a) 2) ^^^ rotF (otF a) 3) ^^^ rotF (otF a) 4) (swF a)
    (rother_any a ha) (rleft_any _ 1 hy (by omega) (by omega)) (rleft_any _ 2 hy (by omega) (by omega)) (rleft_any _ 3 hy (by omega) (by omega)) (rleft_any _ 4 hy (by omega) (by omega)) ?_ ?_ ?_ ?_ ?_ w
  · exact u8_xor_nat _ _ hy (rotF_lt _ hy)
  · exact u8_xor_nat _ _ (xor_lt8 hy (rotF_lt _ hy)) (rotF_lt _ hy)
  · exact u8_xor_nat _ _ (xor_lt8 (xor_lt8 hy (rotF_lt _ hy)) (rotF_lt _ hy)) (rotF_lt _ hy)
  · exact u8_xor_nat _ _ (xor_lt8 (xor_lt8 (xor_lt8 hy (rotF_lt _ hy)) (rotF_lt _ hy)) (rotF_lt _ hy)) (rotF_lt _ hy)
  · rw [show (99 : Int) = ((99 : Nat) : Int) from rfl, u8_xor_nat _ _ (xor_lt8 (xor_lt8 (xor_lt8 (xor_lt8 hy (rotF_lt _ hy)) (rotF_lt _ hy)) (rotF_lt _ hy)) (rotF_lt _ hy)) (by omega), hs]
    rfl

/-- what lies in memory while all bytes swapped are written -/
def StT (w wr : World) (T : List Nat) : Prop :=
  Arr wr w.heap.size 66 (u8s z256) ∧ Arr wr (w.heap.size + 1) 66 (u8s T) ∧ Below w.heap.size w wr
theorem StT.set {w wr : World} {T : List Nat} (r : StT w wr T) (i x : Nat) : StT w (wr.setCell ⟨w.heap.size + 1, i, none⟩ (.int .u8 ((x : Nat) : Int))) (T.set i x) := by
  obtain ⟨h0, h1, h2⟩ := r
  refine ⟨h0.other _ _ (show w.heap.size ≠ w.heap.size + 1 by omega), ?_, h2.setCell (show w.heap.size ≤ w.heap.size + 1 by omega) _⟩
  have := h1.set i (.int .u8 ((x : Nat) : Int))
  rw [u8s_set] at this
  exact this
theorem part_zero256 (T : List Nat) : part T 256 0 = z256 := by rw [part, List.take_zero, List.nil_append, z256]

set_option maxHeartbeats 4000000 in
set_option maxRecDepth 100000 in
theorem rtable_of (T : List Nat) (w : World) (hTL : T.length = 256) (hT : ∀ i, i < 256 → T.getD i 0 = swF i) :
    Calls Tryd.prog 34 #[] w fun e w' => e = .returned (.agg (u8s T).toArray) ∧ Below w.heap.size w w' := by
  have TL := hide hTL
  have HT := hide hT
  have Z1 := zero256
  clear hTL hT
  go_enter Tryd.func34, Tryd.ntmps34
  go_wp2
  go_loopg [2] 257 (fun f s2 wr => ∃ (i : Nat), s2 = .int .i64 i ∧ i ≤ 256 ∧ 256 - i < f ∧ Hid (StT w wr (part T 256 i)))
  case atStart =>
    refine ⟨0, rfl, by omega, by omega, ?_⟩
    rw [part_zero256]
    exact ⟨heap_alloc2_old _ _ _, heap_alloc2_new _ _ _, ((Below.refl _ _).alloc (Nat.le_refl _) _).alloc (by simp) _⟩
  case round =>
    obtain ⟨i, rfl, hi, hf, HR⟩ := hrel
    by_cases hlt : i < 256
    · have HC := hide (rswap_any i hlt wr)
      have HN := hide (HT.out i hlt)
      have cw := (HR.out.2.1.cell i).trans (u8s_at (by rw [part_length _ _ _ TL.out (by omega)]; omega))
      have fw := HR.out.2.1.frozen i
      have hi256 : (i : Int) < 256 := by omega
      rw [← HN.out] at HC
      clear HN
      generalize (part T 256 i).getD i 0 = old at *
      generalize hz : T.getD i 0 = z at *
      have HZ := hide hz
      clear hz
      go_wp2_with fail
      refine HC.out.mono ?_
      rintro e w1 ⟨rfl, hw⟩
      subst hw
      go_wp2
      go_roundg (256 - i)
      case measure => omega
      case rel =>
        refine ⟨i + 1, by go_num, by omega, by omega, ?_⟩
        have := HR.out.set i z
        rw [← HZ.out, part_set _ _ _ TL.out hlt, HZ.out] at this
        exact this
    · have e : i = 256 := by omega
      subst e
      rw [part_full _ _ TL.out] at HR
      have K0 := hide HR.out.1
      have K1 := hide HR.out.2.1
      have KB := hide HR.out.2.2
      have T1 : Hid ((u8s z256).toArray.size = (u8s T).toArray.size) := by show _ = _; simp [u8s, z256, TL.out]
      have T2 : Hid ((Tryd.prog.info? 66).map (·.size) = some (u8s T).toArray.size) := by show _ = _; rw [info256]; simp [u8s, TL.out]
      have O2 := hide (one_u8s T)
      clear HR
      go_wp2_with (first
        | (refine wpList_load_row rfl 66 _ rfl (w.heap.size + 1) rfl 66 _ (0, 0) _ K1.out Tryd.underlying66 rfl T2.out ?_)
        | (refine wpList_store_row rfl 66 _ _ rfl w.heap.size _ rfl rfl 66 _ K0.out T2.out T1.out O2.out ?_))
      exact bodyPost_ret (v := .agg (u8s T).toArray) (results_cell_row Tryd.results34 _ _ w.heap.size 66 _ (0, 0) _ rfl (K0.out.row _) Tryd.underlying66 rfl T2.out) rfl ⟨rfl, below_setRow KB.out (Nat.le_refl _) K0.out.lt _⟩

theorem rtable_any (w : World) :
    Calls Tryd.prog 34 #[] w fun e w' => e = .returned (.agg (u8s swT).toArray) ∧ Below w.heap.size w w' :=
  rtable_of swT w swT_length (fun _ hi => (sw_is hi).symm)

end Go.Proofs.YtjiipiolckddnaaDoor

/- A walk: the reference's block hidden. -/
namespace Go.Proofs.YtjiipiolckddnaaDoor
open Go.RowKit

/-- what lies in memory while the reference hides a block -/
structure StY (w wr : World) (L s b : List Nat) : Prop where
  r : Arr wr w.heap.size 68 (u8s L)
  t : Arr wr (w.heap.size + 1) 66 (u8s s)
  b : Arr wr (w.heap.size + 1 + 1) 31 (u8s b)
  o : Arr wr (w.heap.size + 1 + 1 + 1) 31 (u8s z16)
  bl : Below w.heap.size w wr
theorem StY.set {w wr : World} {L s b : List Nat} (r : StY w wr L s b) (i x : Nat) : StY w (wr.setCell ⟨w.heap.size + 1 + 1, i, none⟩ (.int .u8 ((x : Nat) : Int))) L s (b.set i x) := by
  obtain ⟨h0, h1, h2, h3, h4⟩ := r
  refine ⟨h0.other _ _ (show w.heap.size ≠ w.heap.size + 1 + 1 by omega), h1.other _ _ (show w.heap.size + 1 ≠ w.heap.size + 1 + 1 by omega), ?_, h3.other _ _ (show w.heap.size + 1 + 1 + 1 ≠ w.heap.size + 1 + 1 by omega), h4.setCell (show w.heap.size ≤ w.heap.size + 1 + 1 by omega) _⟩
  have := h2.set i (.int .u8 ((x : Nat) : Int))
  rw [u8s_set] at this
  exact this
theorem StY.drew {w wr : World} {L s b : List Nat} (r : StY w wr L s b) : StY w wr.drew L s b := ⟨r.r, r.t, r.b, r.o, r.bl.drew⟩
theorem StY.atB {w wr : World} {L s b : List Nat} (r : StY w wr L s b) {i : Nat} (hi : i < b.length) : wr.cell? ⟨w.heap.size + 1 + 1, i, none⟩ = some (.int .u8 ((b.getD i 0 : Nat) : Int)) := (r.b.cell i).trans (u8s_at hi)
theorem StY.far {w wr : World} {L s b : List Nat} (r : StY w wr L s b) {g : Nat} (hg : w.heap.size + 1 + 1 + 1 < g) (i x : Nat) : StY w (wr.setCell ⟨g, i, none⟩ (.int .u8 ((x : Nat) : Int))) L s b :=
  ⟨r.r.other _ _ (show w.heap.size ≠ g by omega), r.t.other _ _ (show w.heap.size + 1 ≠ g by omega), r.b.other _ _ (show w.heap.size + 1 + 1 ≠ g by omega), r.o.other _ _ (show w.heap.size + 1 + 1 + 1 ≠ g by omega), r.bl.setCell (show w.heap.size ≤ g by omega) _⟩
theorem StY.more {w wr : World} {L s b : List Nat} (r : StY w wr L s b) (o : Obj) : StY w (wr.alloc o) L s b := ⟨r.r.alloc _, r.t.alloc _, r.b.alloc _, r.o.alloc _, r.bl.alloc r.bl.size _⟩
theorem StY.put {w wr : World} {L s b : List Nat} (r : StY w wr L s b) (c : List Nat) : StY w (wr.setRow (w.heap.size + 1 + 1) (u8s c).toArray) L s c :=
  ⟨r.r.rowOther _ _ (by omega), r.t.rowOther _ _ (by omega), r.b.row _, r.o.rowOther _ _ (by omega), below_setRow r.bl (by omega) r.b.lt _⟩

/-- what the walk wants to know of the rounds -/
structure Hds (f B X Y : Nat → List Nat) (s b L : List Nat) : Prop where
  hL : L = flF f 11
  fb : ∀ j, Blk (f j)
  bb : ∀ j, Blk (B j)
  xb : ∀ j, Blk (X j)
  yb : ∀ j, Blk (Y j)
  b0 : ∀ i, i < 16 → (B 0).getD i 0 = b.getD i 0 ^^^ (f 0).getD i 0
  x0 : ∀ r i, i < 16 → (X r).getD i 0 = s.getD ((B r).getD (4 * ((i / 4 + i % 4) % 4) + i % 4) 0) 0
  y0 : ∀ r c q, c < 4 → q < 4 → (Y r).getD (4 * c + q) 0 = ((tmF 2 ((X r).getD (4 * c + q) 0) ^^^ tmF 3 ((X r).getD (4 * c + (q + 1) % 4) 0)) ^^^ (X r).getD (4 * c + (q + 2) % 4) 0) ^^^ (X r).getD (4 * c + (q + 3) % 4) 0
  b1 : ∀ r, r + 1 < 10 → ∀ i, i < 16 → (B (r + 1)).getD i 0 = (Y r).getD i 0 ^^^ (f (r + 1)).getD i 0
  b2 : ∀ r, ¬ r + 1 < 10 → ∀ i, i < 16 → (B (r + 1)).getD i 0 = (X r).getD i 0 ^^^ (f (r + 1)).getD i 0

/-- where the bytes of a column stand, told by names of their own -/
structure Idx (c q c4 o0 k1 k2 k3 q1 q2 q3 o1 o2 o3 : Nat) : Prop where
  eqs : (4 : Int) * (c : Int) = (c4 : Int) ∧ (c4 : Int) + (q : Int) = (o0 : Int) ∧ (q : Int) + 1 = (k1 : Int) ∧ (q : Int) + 2 = (k2 : Int) ∧ (q : Int) + 3 = (k3 : Int) ∧ Int.tmod (k1 : Int) 4 = (q1 : Int) ∧ Int.tmod (k2 : Int) 4 = (q2 : Int) ∧ Int.tmod (k3 : Int) 4 = (q3 : Int)
  eqs2 : (k1 : Int) % 4 = (q1 : Int) ∧ (k2 : Int) % 4 = (q2 : Int) ∧ (k3 : Int) % 4 = (q3 : Int) ∧ (c4 : Int) + (q1 : Int) = (o1 : Int) ∧ (c4 : Int) + (q2 : Int) = (o2 : Int) ∧ (c4 : Int) + (q3 : Int) = (o3 : Int)
  wraps : IntKind.i64.wrap (c4 : Int) = (c4 : Int) ∧ IntKind.i64.wrap (o0 : Int) = (o0 : Int) ∧ IntKind.i64.wrap (k1 : Int) = (k1 : Int) ∧ IntKind.i64.wrap (k2 : Int) = (k2 : Int) ∧ IntKind.i64.wrap (k3 : Int) = (k3 : Int) ∧ IntKind.i64.wrap (q1 : Int) = (q1 : Int) ∧ IntKind.i64.wrap (q2 : Int) = (q2 : Int) ∧ IntKind.i64.wrap (q3 : Int) = (q3 : Int) ∧ IntKind.i64.wrap (o1 : Int) = (o1 : Int) ∧ IntKind.i64.wrap (o2 : Int) = (o2 : Int) ∧ IntKind.i64.wrap (o3 : Int) = (o3 : Int)
  lts : (o0 : Int) < 16 ∧ (o1 : Int) < 16 ∧ (o2 : Int) < 16 ∧ (o3 : Int) < 16
  ms : o0 < 16 ∧ o1 < 16 ∧ o2 < 16 ∧ o3 < 16
  h0 : o0 = 4 * c + q
  h1 : o1 = 4 * c + (q + 1) % 4
  h2 : o2 = 4 * c + (q + 2) % 4
  h3 : o3 = 4 * c + (q + 3) % 4
theorem wrap_small (a : Nat) (ha : a < 100) : IntKind.i64.wrap (a : Int) = (a : Int) := by simp [IntKind.wrap, IntKind.bits, IntKind.signed]; omega
theorem tmod_four (a : Nat) : Int.tmod (a : Int) 4 = ((a % 4 : Nat) : Int) := by rw [Int.tmod_eq_emod_of_nonneg (by omega)]; omega
theorem idx_is (c q : Nat) (hc : c < 4) (hq : q < 4) : ∃ c4 o0 k1 k2 k3 q1 q2 q3 o1 o2 o3, Idx c q c4 o0 k1 k2 k3 q1 q2 q3 o1 o2 o3 :=
  ⟨4 * c, 4 * c + q, q + 1, q + 2, q + 3, (q + 1) % 4, (q + 2) % 4, (q + 3) % 4, 4 * c + (q + 1) % 4, 4 * c + (q + 2) % 4, 4 * c + (q + 3) % 4,
    ⟨by omega, by omega, by omega, by omega, by omega, tmod_four _, tmod_four _, tmod_four _⟩, ⟨by omega, by omega, by omega, by omega, by omega, by omega⟩,
    ⟨wrap_small _ (by omega), wrap_small _ (by omega), wrap_small _ (by omega), wrap_small _ (by omega), wrap_small _ (by omega), wrap_small _ (by omega), wrap_small _ (by omega), wrap_small _ (by omega), wrap_small _ (by omega), wrap_small _ (by omega), wrap_small _ (by omega)⟩,
    ⟨by omega, by omega, by omega, by omega⟩, ⟨by omega, by omega, by omega, by omega⟩, rfl, rfl, rfl, rfl⟩

theorem flF_cell {f : Nat → List Nat} (hf : ∀ j, Blk (f j)) {v : World} {g : Nat} (h : Arr v g 68 (u8s (flF f 11))) {j i : Nat} (hj : j < 11) (hi : i < 16) : v.cell? ⟨g, j * 16 + i, none⟩ = some (.int .u8 (((f j).getD i 0 : Nat) : Int)) := by
  have h1 := flF_row (fun j => (hf j).len) j i hi 11 hj
  rw [h.cell, Nat.mul_comm j 16]
  simp only [u8s, List.getElem?_map, h1]
  have h2 : i < (f j).length := by rw [(hf j).len]; exact hi
  simp [List.getD, h2]

set_option maxHeartbeats 16000000 in
set_option maxRecDepth 100000 in
theorem rhide_of (f B X Y : Nat → List Nat) (s0 b L : List Nat) (w : World) (sl : s0.length = 256) (hs : ∀ i, s0.getD i 0 < 256) (hb : Blk b) (hH : Hds f B X Y s0 b L) :
    Calls Tryd.prog 50 #[.agg (u8s L).toArray, .agg (u8s s0).toArray, .agg (u8s b).toArray] w fun e w' => e = .returned (.agg (u8s (B 10)).toArray) ∧ Below w.heap.size w w' := by
  have SL := hide sl
  have HS := hide hs
  have HB := hide hb
  have HH := hide hH
  have ZZ : Hid (Blk z16) := ⟨rfl, fun i => getD_lt (by decide) (by omega) i⟩
  have HZ : Hid (StY w ((((w.alloc (Obj.cells (u8s L).toArray 68)).alloc (Obj.cells (u8s s0).toArray 66)).alloc (Obj.cells (u8s b).toArray 31)).alloc (Obj.cells (u8s z16).toArray 31)) L s0 b) :=
    ⟨(((Arr.new w _ (u8s L)).alloc _).alloc _).alloc _, ((Arr.newAt (w.alloc _) _ (u8s s0) _ (by simp)).alloc _).alloc _, (Arr.newAt ((w.alloc _).alloc _) _ (u8s b) _ (by simp)).alloc _, Arr.newAt (((w.alloc _).alloc _).alloc _) _ (u8s z16) _ (by simp), ((((Below.refl _ _).alloc (Nat.le_refl _) _).alloc (by simp) _).alloc (by simp; omega) _).alloc (by simp; omega) _⟩
  clear sl hs hb hH
  have TT := hide (HH.out.bb 0)
  have AA := HB
  have FF := hide (HH.out.fb 0)
  have HTT := hide HH.out.b0
  have RG : Hid (∀ i, i < 16 → ∀ v : World, Hid (Arr v w.heap.size 68 (u8s L)) → v.cell? ⟨w.heap.size, i, none⟩ = some (.int .u8 (((f 0).getD i 0 : Nat) : Int))) := fun i hi v h => by
    have := flF_cell HH.out.fb (by have := h.out; rwa [HH.out.hL] at this) (show (0 : Nat) < 11 by omega) hi
    rwa [Nat.zero_mul, Nat.zero_add] at this
  go_enter Tryd.func50, Tryd.ntmps50
  go_wp2
  go_loopg [7] 17 (fun f0 s wx => ∃ (i : Nat), s = .int .i64 i ∧ i ≤ 16 ∧ 16 - i < f0 ∧ Hid (StY w wx L s0 (over (B 0) (b) i)))
  case atStart =>
    refine ⟨0, rfl, by omega, by omega, ?_⟩
    rw [over_zero]
    exact HZ
  case round =>
    clear HZ
    obtain ⟨i, rfl, hi, hfi, HR⟩ := hrel
    by_cases hlt : i < 16
    · have hi16 : (i : Int) < 16 := by omega
      have e1 := over_at (B 0) (b) 16 i i TT.out.len AA.out.len hlt
      rw [if_neg (by omega)] at e1
      have ca := HR.out.atB (i := i) (by rw [over_length _ _ _ _ TT.out.len AA.out.len (by omega)]; omega)
      rw [e1] at ca
      have fa := HR.out.b.frozen i
      have RL := hide (RG.out i hlt)
      have ex := u8_xor_nat _ _ (AA.out.lt i) (FF.out.lt i)
      have HN := hide (HTT.out i hlt)
      have HO := hide (over_set (B 0) (b) 16 i TT.out.len AA.out.len hlt)
      rw [HN.out] at HO
      clear e1 HN
      generalize (b).getD i 0 = x at *
      generalize (f 0).getD i 0 = y at *
      generalize x ^^^ y = z at *
      go_wp2_with fail
      refine wp_region_held_drew (S := fun v => Hid (Arr v w.heap.size 68 (u8s L))) (by kernel_rfl) (hide HR.out.r) (fun hHeld => ?_)
      refine take_dstH (i := 0) (d := 20) (v := ?_) rfl rfl (by kernel_rfl) (by kernel_rfl) (by kernel_rfl) (fun _ _ _ h => h) (by rfl) hHeld ?_ ?_
      rotate_left
      · intro wZ hSw; clear hSw; go_simp; first | (with_reducible rfl) | (rw [if_pos (by omega)]; with_reducible rfl) | skip
      try simp only [Act.put, List.setIfInBounds_toArray, List.set_cons_zero, List.set_cons_succ]
      refine take_dstH (i := 1) (d := 21) (v := ?_) rfl rfl (by kernel_rfl) (by kernel_rfl) (by kernel_rfl) (fun _ _ _ h => h) (by rfl) hHeld ?_ ?_
      rotate_left
      · intro wZ hSw; clear hSw; go_simp; first | (with_reducible rfl) | (rw [if_pos (by omega)]; with_reducible rfl) | skip
      try simp only [Act.put, List.setIfInBounds_toArray, List.set_cons_zero, List.set_cons_succ]
      refine take_dstH (i := 2) (d := 22) (v := ?_) rfl rfl (by kernel_rfl) (by kernel_rfl) (by kernel_rfl) (fun _ _ _ h => h) (by rfl) hHeld ?_ ?_
      rotate_left
      · intro wZ hSw; clear hSw; go_simp; first | (with_reducible rfl) | (rw [if_pos (by omega)]; with_reducible rfl) | skip
      try simp only [Act.put, List.setIfInBounds_toArray, List.set_cons_zero, List.set_cons_succ]
      refine take_dstH (i := 4) (d := 24) (v := ?_) rfl rfl (by kernel_rfl) (by kernel_rfl) (by kernel_rfl) (fun _ _ _ h => h) (by rfl) hHeld ?_ ?_
      rotate_left
      · intro wZ hSw; clear hSw; go_simp; first | (with_reducible rfl) | (rw [if_pos (by omega)]; with_reducible rfl) | skip
      try simp only [Act.put, List.setIfInBounds_toArray, List.set_cons_zero, List.set_cons_succ]
      refine take_dstH (i := 5) (d := 25) (v := ?_) rfl rfl (by kernel_rfl) (by kernel_rfl) (by kernel_rfl) (fun _ _ _ h => h) (by rfl) hHeld ?_ ?_
      rotate_left
      · intro wZ hSw; clear hSw; go_simp; first | (with_reducible rfl) | (rw [if_pos (by omega)]; with_reducible rfl) | skip
      try simp only [Act.put, List.setIfInBounds_toArray, List.set_cons_zero, List.set_cons_succ]
      refine take_dstH (i := 6) (d := 26) (v := ?_) rfl rfl (by kernel_rfl) (by kernel_rfl) (by kernel_rfl) (fun _ _ _ h => h) (by rfl) hHeld ?_ ?_
      rotate_left
      · intro wZ hSw; clear hSw; go_simp; first | (with_reducible rfl) | (rw [if_pos (by omega)]; with_reducible rfl) | skip
      try simp only [Act.put, List.setIfInBounds_toArray, List.set_cons_zero, List.set_cons_succ]
      refine take_dstH (i := 7) (d := 27) (v := ?_) rfl rfl (by kernel_rfl) (by kernel_rfl) (by kernel_rfl) (fun _ _ _ h => h) (by rfl) hHeld ?_ ?_
      rotate_left
      · intro wZ hSw; have hfS := RL.out wZ hSw; clear hSw; go_simp; first | (with_reducible rfl) | (rw [if_pos (by omega)]; with_reducible rfl) | skip
      try simp only [Act.put, List.setIfInBounds_toArray, List.set_cons_zero, List.set_cons_succ]
      refine wpAnyH_ready (rs := [3]) (by kernel_rfl) (by simp) ?_
      refine (AllReadyH.cons rfl (fun K hK => ?_) AllReadyH.nil)
      go_simp
      refine hK.out _ _ ?_ (fun hHeld => ?_)
      · exact hHeld
      clear hK K
      try simp only [Act.put, List.setIfInBounds_toArray, List.set_cons_zero, List.set_cons_succ]
      refine take_dstH (i := 8) (d := 28) (v := ?_) rfl rfl (by kernel_rfl) (by kernel_rfl) (by kernel_rfl) (fun _ _ _ h => h) (by rfl) hHeld ?_ ?_
      rotate_left
      · intro wZ hSw; clear hSw; go_simp; first | (with_reducible rfl) | (rw [if_pos (by omega)]; with_reducible rfl) | skip
      try simp only [Act.put, List.setIfInBounds_toArray, List.set_cons_zero, List.set_cons_succ]
      refine take_dstH (i := 9) (d := 29) (v := ?_) rfl rfl (by kernel_rfl) (by kernel_rfl) (by kernel_rfl) (fun _ _ _ h => h) (by rfl) hHeld ?_ ?_
      rotate_left
      · intro wZ hSw; clear hSw; go_simp; first | (with_reducible rfl) | (rw [if_pos (by omega)]; with_reducible rfl) | skip
      try simp only [Act.put, List.setIfInBounds_toArray, List.set_cons_zero, List.set_cons_succ]
      refine wpAnyH_ready (rs := [10]) (by kernel_rfl) (by simp) ?_
      refine (AllReadyH.cons rfl (fun K hK => ?_) AllReadyH.nil)
      go_simp
      refine hK.out _ _ ?_ (fun hHeld => ?_)
      · exact hide (Arr.other (Hid.out hHeld) _ _ (show w.heap.size ≠ w.heap.size + 1 + 1 by omega))
      clear hK K
      try simp only [Act.put, List.setIfInBounds_toArray, List.set_cons_zero, List.set_cons_succ]
      refine wpAnyH_done (by kernel_rfl) ?_ _
      clear hHeld
      go_wp2
      go_roundg (16 - i)
      case measure => omega
      case rel =>
        refine ⟨i + 1, by go_num, by omega, by omega, ?_⟩
        have := (HR.out.set i z).drew
        rw [HO.out] at this
        exact this
    · have e : i = 16 := by omega
      subst e
      rw [over_full _ _ _ TT.out.len AA.out.len] at HR
      clear TT AA FF RG HTT
      go_wp2
      go_loopg [8] 12 (fun f0 s8 wx => ∃ (k n : Nat), s8 = .int .i64 n ∧ Hid (n = k + 1) ∧ n ≤ 11 ∧ 11 - n < f0 ∧ Hid (StY w wx L s0 (B k)))
      case atStart => exact ⟨0, 1, rfl, rfl, by omega, by omega, HR⟩
      case round =>
        clear HR
        obtain ⟨k, n, rfl, HK, hn, hfn, HR⟩ := hrel
        by_cases hn11 : n ≤ 10
        · have n11 : (n : Int) ≤ 10 := by omega
          have n11' : (n : Int) < 11 := by omega
          have HR2 : Hid ((StY w (wr.alloc (Obj.cells #[Value.int .u8 0, Value.int .u8 0, Value.int .u8 0, Value.int .u8 0, Value.int .u8 0, Value.int .u8 0, Value.int .u8 0, Value.int .u8 0, Value.int .u8 0, Value.int .u8 0, Value.int .u8 0, Value.int .u8 0, Value.int .u8 0, Value.int .u8 0, Value.int .u8 0, Value.int .u8 0] 31)) L s0 (B k) ∧ Arr (wr.alloc (Obj.cells #[Value.int .u8 0, Value.int .u8 0, Value.int .u8 0, Value.int .u8 0, Value.int .u8 0, Value.int .u8 0, Value.int .u8 0, Value.int .u8 0, Value.int .u8 0, Value.int .u8 0, Value.int .u8 0, Value.int .u8 0, Value.int .u8 0, Value.int .u8 0, Value.int .u8 0, Value.int .u8 0] 31)) wr.heap.size 31 (u8s z16)) ∧ w.heap.size + 1 + 1 + 1 < wr.heap.size) :=
            ⟨⟨HR.out.more _, Arr.new wr _ (u8s z16)⟩, HR.out.o.lt⟩
          have hg := HR2.out.2
          have HR1 := hide HR2.out.1
          clear HR HR2
          go_wp2
          generalize World.alloc wr _ = wq at *
          generalize wr.heap.size = g at *
          go_loopg [10] 17 (fun f0 s10 wx => ∃ (i : Nat), s10 = .int .i64 i ∧ i ≤ 16 ∧ 16 - i < f0 ∧ Hid (StY w wx L s0 (B k) ∧ Arr wx g 31 (u8s (part (X k) 16 i))))
          case atStart => exact ⟨0, rfl, by omega, by omega, by rw [part_zero16]; exact HR1⟩
          case round =>
            clear HR1
            obtain ⟨i, rfl, hi, hfi, HR⟩ := hrel
            have XB := hide (HH.out.xb k)
            have BB := hide (HH.out.bb k)
            by_cases hlt : i < 16
            · have hi16 : (i : Int) < 16 := by omega
              obtain ⟨q, hq⟩ : ∃ a, a = i % 4 := ⟨_, rfl⟩
              obtain ⟨c, hc⟩ : ∃ a, a = i / 4 := ⟨_, rfl⟩
              obtain ⟨cq, hcq⟩ : ∃ a, a = c + q := ⟨_, rfl⟩
              obtain ⟨d, hd⟩ : ∃ a, a = cq % 4 := ⟨_, rfl⟩
              obtain ⟨d4, hd4⟩ : ∃ a, a = 4 * d := ⟨_, rfl⟩
              obtain ⟨o, ho⟩ : ∃ a, a = d4 + q := ⟨_, rfl⟩
              have i1 : Int.tmod (i : Int) 4 = (q : Int) := by rw [Int.tmod_eq_emod_of_nonneg (by omega)]; omega
              have i1' : (i : Int) % 4 = (q : Int) := by omega
              have i2 : Int.tdiv (i : Int) 4 = (c : Int) := by rw [Int.tdiv_eq_ediv_of_nonneg (by omega)]; omega
              have i2' : (i : Int) / 4 = (c : Int) := by omega
              have i3 : (c : Int) + (q : Int) = (cq : Int) := by omega
              have i4 : Int.tmod (cq : Int) 4 = (d : Int) := by rw [Int.tmod_eq_emod_of_nonneg (by omega)]; omega
              have i4' : (cq : Int) % 4 = (d : Int) := by omega
              have i5 : (4 : Int) * (d : Int) = (d4 : Int) := by omega
              have i6 : (d4 : Int) + (q : Int) = (o : Int) := by omega
              have o16 : (o : Int) < 16 := by omega
              have bq : q < 4 := by omega
              have bc : c < 4 := by omega
              have bcq : cq < 8 := by omega
              have bd : d < 4 := by omega
              have bd4 : d4 < 16 := by omega
              have bo : o < 16 := by omega
              have HV := hide (HH.out.x0 k i hlt)
              rw [← hq, ← hc, ← hcq, ← hd, ← hd4, ← ho] at HV
              have c1 := HR.out.1.atB (i := o) (by rw [BB.out.len]; exact bo)
              have db := BB.out.lt o
              clear hq hc hcq hd hd4 ho
              generalize (B k).getD o 0 = y at *
              have y256 : (y : Int) < 256 := by omega
              have c2 := (HR.out.1.t.cell y).trans (u8s_at (by rw [SL.out]; exact db))
              have c3 := (HR.out.2.cell i).trans (u8s_at (by rw [part_length _ _ _ XB.out.len (by omega)]; exact hlt))
              have f3 := HR.out.2.frozen i
              have HO := hide (part_set (X k) 16 i XB.out.len hlt)
              rw [HV.out] at HO
              clear HV
              generalize s0.getD y 0 = z at *
              generalize (part (X k) 16 i).getD i 0 = old at *
              go_wp2
              go_roundg (16 - i)
              case measure => omega
              case rel =>
                refine ⟨i + 1, by go_num, by omega, by omega, ?_⟩
                have h := HR.out.2.set i (.int .u8 (z : Int))
                rw [u8s_set, HO.out] at h
                exact ⟨HR.out.1.far hg i z, h⟩
            · have e : i = 16 := by omega
              subst e
              rw [part_full _ _ XB.out.len] at HR
              have TT := hide (HH.out.bb (k + 1))
              have FF := hide (HH.out.fb n)
              have RG : Hid (∀ i, i < 16 → ∀ v : World, Hid (Arr v w.heap.size 68 (u8s L)) → v.cell? ⟨w.heap.size, n * 16 + i, none⟩ = some (.int .u8 (((f n).getD i 0 : Nat) : Int))) := fun i hi v h => flF_cell HH.out.fb (by have := h.out; rwa [HH.out.hL] at this) (by omega) hi
              have HR3 : Hid (StY w (wr.setRow (w.heap.size + 1 + 1) (u8s (X k)).toArray) L s0 (X k) ∧ Arr (wr.setRow (w.heap.size + 1 + 1) (u8s (X k)).toArray) g 31 (u8s (X k))) := ⟨HR.out.1.put (X k), HR.out.2.rowOther _ _ (by omega)⟩
              by_cases hn10 : n < 10
              · have n10 : (n : Int) < 10 := by omega
                go_upto_if 57 with (first
                  | (refine wpList_load_row rfl 31 _ rfl g rfl 31 _ (0, 0) _ HR.out.2 Tryd.underlying31 rfl (szb XB.out) ?_)
                  | (refine wpList_store_row rfl 31 _ _ rfl (w.heap.size + 1 + 1) _ rfl rfl 31 _ HR.out.1.b (szb XB.out) (szz BB.out XB.out) (one_u8s _) ?_))
                clear HR XB BB
                generalize World.setRow _ (w.heap.size + 1 + 1) (u8s (X k)).toArray = wp at *
                go_wp2
                go_loopg [13] 5 (fun f0 s13 wx => ∃ (c : Nat), s13 = .int .i64 c ∧ c ≤ 4 ∧ 4 - c < f0 ∧ Hid (StY w wx L s0 (over (Y k) (X k) (4 * c)) ∧ Arr wx g 31 (u8s (X k))))
                case atStart => exact ⟨0, rfl, by omega, by omega, by rw [Nat.mul_zero, over_zero]; exact ⟨HR3.out.1, HR3.out.2⟩⟩
                case round =>
                  clear HR3
                  obtain ⟨c, rfl, hc, hfc, HR⟩ := hrel
                  by_cases hc4 : c < 4
                  · have hc4' : (c : Int) < 4 := by omega
                    go_wp2
                    go_loopg [14] 5 (fun f0 s14 wx => ∃ (q : Nat), s14 = .int .i64 q ∧ q ≤ 4 ∧ 4 - q < f0 ∧ Hid (StY w wx L s0 (over (Y k) (X k) (4 * c + q)) ∧ Arr wx g 31 (u8s (X k))))
                    case atStart => exact ⟨0, rfl, by omega, by omega, HR⟩
                    case round =>
                      clear HR
                      obtain ⟨q, rfl, hq, hfq, HR⟩ := hrel
                      by_cases hq4 : q < 4
                      · have hq4' : (q : Int) < 4 := by omega
                        obtain ⟨c4, o0, k1, k2, k3, q1, q2, q3, o1, o2, o3, IX⟩ := idx_is c q hc4 hq4
                        have HIX := hide IX
                        obtain ⟨m0, m1, m2, m3⟩ := IX.ms
                        have ho0 := IX.h0
                        have ho1 := IX.h1
                        have ho2 := IX.h2
                        have ho3 := IX.h3
                        clear IX
                        have XB := hide (HH.out.xb k)
                        have YB := hide (HH.out.yb k)
                        have HV := hide (HH.out.y0 k c q hc4 hq4)
                        rw [← ho0, ← ho1, ← ho2, ← ho3] at HV
                        have HO := hide (over_set (Y k) (X k) 16 o0 YB.out.len XB.out.len m0)
                        rw [HV.out] at HO
                        rw [← ho0] at HR
                        have ca := HR.out.1.atB (i := o0) (by rw [over_length _ _ _ _ YB.out.len XB.out.len (Nat.le_of_lt m0)]; exact m0)
                        have fa := HR.out.1.b.frozen o0
                        generalize (over (Y k) (X k) o0).getD o0 0 = old at *
                        have LX : Hid (∀ o, o < 16 → ∀ v : World, Hid (Arr v g 31 (u8s (X k))) → v.cell? ⟨g, o, none⟩ = some (.int .u8 (((X k).getD o 0 : Nat) : Int))) := fun o ho v h => (h.out.cell o).trans (u8s_at (by rw [XB.out.len]; exact ho))
                        have L0 := hide (LX.out o0 m0)
                        have L1 := hide (LX.out o1 m1)
                        have L2 := hide (LX.out o2 m2)
                        have L3 := hide (LX.out o3 m3)
                        have d0 := XB.out.lt o0
                        have d1 := XB.out.lt o1
                        have d2 := XB.out.lt o2
                        have d3 := XB.out.lt o3
                        have ho0' := hide ho0
                        clear LX HV ho0 ho1 ho2 ho3
                        generalize (X k).getD o0 0 = x0 at *
                        generalize (X k).getD o1 0 = x1 at *
                        generalize (X k).getD o2 0 = x2 at *
                        generalize (X k).getD o3 0 = x3 at *
                        have T2 : Hid (∀ v, Calls Tryd.prog 49 #[.int .u8 2, .int .u8 x0] v fun e w' => e = .returned (.int .u8 ((tmF 2 x0 : Nat) : Int)) ∧ w' = v) := fun v => rtimes_any 2 x0 (by omega) d0 v
                        have T3 : Hid (∀ v, Calls Tryd.prog 49 #[.int .u8 3, .int .u8 x1] v fun e w' => e = .returned (.int .u8 ((tmF 3 x1 : Nat) : Int)) ∧ w' = v) := fun v => rtimes_any 3 x1 (by omega) d1 v
                        have l2 := tmF_lt x0 (show 2 < 256 by omega)
                        have l3 := tmF_lt x1 (show 3 < 256 by omega)
                        generalize tmF 2 x0 = t2 at *
                        generalize tmF 3 x1 = t3 at *
                        have e1 := u8_xor_nat t2 t3 l2 l3
                        have e2 := u8_xor_nat (t2 ^^^ t3) x2 (xor_lt8 l2 l3) d2
                        have e3 := u8_xor_nat ((t2 ^^^ t3) ^^^ x2) x3 (xor_lt8 (xor_lt8 l2 l3) d2) d3
                        generalize ((t2 ^^^ t3) ^^^ x2) ^^^ x3 = y3 at *
                        generalize (t2 ^^^ t3) ^^^ x2 = y2 at *
                        generalize t2 ^^^ t3 = y1 at *
                        obtain ⟨i1, i2, i3, i4, i5, i6, i7, i8⟩ := HIX.out.eqs
                        obtain ⟨j6, j7, j8, i9, i10, i11⟩ := HIX.out.eqs2
                        obtain ⟨w1, w2, w3, w4, w5, w6, w7, w8, w9, w10, w11⟩ := HIX.out.wraps
                        obtain ⟨n0, n1, n2, n3⟩ := HIX.out.lts
                        clear HIX
                        go_wp2_with fail
                        refine wp_region_held_drew (S := fun v => Hid (Arr v g 31 (u8s (X k)))) (by kernel_rfl) (hide HR.out.2) (fun hHeld => ?_)
                        refine take_dstH (i := 0) (d := 66) (v := ?_) rfl rfl (by kernel_rfl) (by kernel_rfl) (by kernel_rfl) (fun _ _ _ h => h) (by rfl) hHeld ?_ ?_
                        rotate_left
                        · intro wZ hSw; clear hSw; go_simp; first | (with_reducible rfl) | (rw [if_pos (by omega)]; with_reducible rfl) | skip
                        try simp only [Act.put, List.setIfInBounds_toArray, List.set_cons_zero, List.set_cons_succ]
                        refine take_dstH (i := 1) (d := 67) (v := ?_) rfl rfl (by kernel_rfl) (by kernel_rfl) (by kernel_rfl) (fun _ _ _ h => h) (by rfl) hHeld ?_ ?_
                        rotate_left
                        · intro wZ hSw; clear hSw; go_simp; first | (with_reducible rfl) | (rw [if_pos (by omega)]; with_reducible rfl) | skip
                        try simp only [Act.put, List.setIfInBounds_toArray, List.set_cons_zero, List.set_cons_succ]
                        refine take_dstH (i := 2) (d := 68) (v := ?_) rfl rfl (by kernel_rfl) (by kernel_rfl) (by kernel_rfl) (fun _ _ _ h => h) (by rfl) hHeld ?_ ?_
                        rotate_left
                        · intro wZ hSw; clear hSw; go_simp; first | (with_reducible rfl) | (rw [if_pos (by omega)]; with_reducible rfl) | skip
                        try simp only [Act.put, List.setIfInBounds_toArray, List.set_cons_zero, List.set_cons_succ]
                        refine take_dstH (i := 3) (d := 69) (v := ?_) rfl rfl (by kernel_rfl) (by kernel_rfl) (by kernel_rfl) (fun _ _ _ h => h) (by rfl) hHeld ?_ ?_
                        rotate_left
                        · intro wZ hSw; clear hSw; go_simp; first | (with_reducible rfl) | (rw [if_pos (by omega)]; with_reducible rfl) | skip
                        try simp only [Act.put, List.setIfInBounds_toArray, List.set_cons_zero, List.set_cons_succ]
                        refine take_dstH (i := 4) (d := 70) (v := ?_) rfl rfl (by kernel_rfl) (by kernel_rfl) (by kernel_rfl) (fun _ _ _ h => h) (by rfl) hHeld ?_ ?_
                        rotate_left
                        · intro wZ hSw; clear hSw; go_simp; first | (with_reducible rfl) | (rw [if_pos (by omega)]; with_reducible rfl) | skip
                        try simp only [Act.put, List.setIfInBounds_toArray, List.set_cons_zero, List.set_cons_succ]
                        refine take_dstH (i := 5) (d := 71) (v := ?_) rfl rfl (by kernel_rfl) (by kernel_rfl) (by kernel_rfl) (fun _ _ _ h => h) (by rfl) hHeld ?_ ?_
                        rotate_left
                        · intro wZ hSw; clear hSw; go_simp; first | (with_reducible rfl) | (rw [if_pos (by omega)]; with_reducible rfl) | skip
                        try simp only [Act.put, List.setIfInBounds_toArray, List.set_cons_zero, List.set_cons_succ]
                        refine take_dstH (i := 6) (d := 72) (v := ?_) rfl rfl (by kernel_rfl) (by kernel_rfl) (by kernel_rfl) (fun _ _ _ h => h) (by rfl) hHeld ?_ ?_
                        rotate_left
                        · intro wZ hSw; clear hSw; go_simp; first | (with_reducible rfl) | (rw [if_pos (by omega)]; with_reducible rfl) | skip
                        try simp only [Act.put, List.setIfInBounds_toArray, List.set_cons_zero, List.set_cons_succ]
                        refine take_dstH (i := 7) (d := 73) (v := ?_) rfl rfl (by kernel_rfl) (by kernel_rfl) (by kernel_rfl) (fun _ _ _ h => h) (by rfl) hHeld ?_ ?_
                        rotate_left
                        · intro wZ hSw; clear hSw; go_simp; first | (with_reducible rfl) | (rw [if_pos (by omega)]; with_reducible rfl) | skip
                        try simp only [Act.put, List.setIfInBounds_toArray, List.set_cons_zero, List.set_cons_succ]
                        refine take_dstH (i := 8) (d := 74) (v := ?_) rfl rfl (by kernel_rfl) (by kernel_rfl) (by kernel_rfl) (fun _ _ _ h => h) (by rfl) hHeld ?_ ?_
                        rotate_left
                        · intro wZ hSw; clear hSw; go_simp; first | (with_reducible rfl) | (rw [if_pos (by omega)]; with_reducible rfl) | skip
                        try simp only [Act.put, List.setIfInBounds_toArray, List.set_cons_zero, List.set_cons_succ]
                        refine take_dstH (i := 9) (d := 75) (v := ?_) rfl rfl (by kernel_rfl) (by kernel_rfl) (by kernel_rfl) (fun _ _ _ h => h) (by rfl) hHeld ?_ ?_
                        rotate_left
                        · intro wZ hSw; have hfS := L0.out wZ hSw; clear hSw; go_simp; first | (with_reducible rfl) | (rw [if_pos (by omega)]; with_reducible rfl) | skip
                        try simp only [Act.put, List.setIfInBounds_toArray, List.set_cons_zero, List.set_cons_succ]
                        refine take_dstH (i := 11) (d := 77) (v := ?_) rfl rfl (by kernel_rfl) (by kernel_rfl) (by kernel_rfl) (fun _ _ _ h => h) (by rfl) hHeld ?_ ?_
                        rotate_left
                        · intro wZ hSw; clear hSw; go_simp; first | (with_reducible rfl) | (rw [if_pos (by omega)]; with_reducible rfl) | skip
                        try simp only [Act.put, List.setIfInBounds_toArray, List.set_cons_zero, List.set_cons_succ]
                        refine take_dstH (i := 12) (d := 78) (v := ?_) rfl rfl (by kernel_rfl) (by kernel_rfl) (by kernel_rfl) (fun _ _ _ h => h) (by rfl) hHeld ?_ ?_
                        rotate_left
                        · intro wZ hSw; clear hSw; go_simp; first | (with_reducible rfl) | (rw [if_pos (by omega)]; with_reducible rfl) | skip
                        try simp only [Act.put, List.setIfInBounds_toArray, List.set_cons_zero, List.set_cons_succ]
                        refine take_dstH (i := 13) (d := 79) (v := ?_) rfl rfl (by kernel_rfl) (by kernel_rfl) (by kernel_rfl) (fun _ _ _ h => h) (by rfl) hHeld ?_ ?_
                        rotate_left
                        · intro wZ hSw; clear hSw; go_simp; first | (with_reducible rfl) | (rw [if_pos (by omega)]; with_reducible rfl) | skip
                        try simp only [Act.put, List.setIfInBounds_toArray, List.set_cons_zero, List.set_cons_succ]
                        refine take_dstH (i := 14) (d := 80) (v := ?_) rfl rfl (by kernel_rfl) (by kernel_rfl) (by kernel_rfl) (fun _ _ _ h => h) (by rfl) hHeld ?_ ?_
                        rotate_left
                        · intro wZ hSw; clear hSw; go_simp; first | (with_reducible rfl) | (rw [if_pos (by omega)]; with_reducible rfl) | skip
                        try simp only [Act.put, List.setIfInBounds_toArray, List.set_cons_zero, List.set_cons_succ]
                        refine take_dstH (i := 15) (d := 81) (v := ?_) rfl rfl (by kernel_rfl) (by kernel_rfl) (by kernel_rfl) (fun _ _ _ h => h) (by rfl) hHeld ?_ ?_
                        rotate_left
                        · intro wZ hSw; clear hSw; go_simp; first | (with_reducible rfl) | (rw [if_pos (by omega)]; with_reducible rfl) | skip
                        try simp only [Act.put, List.setIfInBounds_toArray, List.set_cons_zero, List.set_cons_succ]
                        refine take_dstH (i := 16) (d := 82) (v := ?_) rfl rfl (by kernel_rfl) (by kernel_rfl) (by kernel_rfl) (fun _ _ _ h => h) (by rfl) hHeld ?_ ?_
                        rotate_left
                        · intro wZ hSw; clear hSw; go_simp; first | (with_reducible rfl) | (rw [if_pos (by omega)]; with_reducible rfl) | skip
                        try simp only [Act.put, List.setIfInBounds_toArray, List.set_cons_zero, List.set_cons_succ]
                        refine take_dstH (i := 17) (d := 83) (v := ?_) rfl rfl (by kernel_rfl) (by kernel_rfl) (by kernel_rfl) (fun _ _ _ h => h) (by rfl) hHeld ?_ ?_
                        rotate_left
                        · intro wZ hSw; clear hSw; go_simp; first | (with_reducible rfl) | (rw [if_pos (by omega)]; with_reducible rfl) | skip
                        try simp only [Act.put, List.setIfInBounds_toArray, List.set_cons_zero, List.set_cons_succ]
                        refine take_dstH (i := 18) (d := 84) (v := ?_) rfl rfl (by kernel_rfl) (by kernel_rfl) (by kernel_rfl) (fun _ _ _ h => h) (by rfl) hHeld ?_ ?_
                        rotate_left
                        · intro wZ hSw; have hfS := L1.out wZ hSw; clear hSw; go_simp; first | (with_reducible rfl) | (rw [if_pos (by omega)]; with_reducible rfl) | skip
                        try simp only [Act.put, List.setIfInBounds_toArray, List.set_cons_zero, List.set_cons_succ]
                        refine take_dstH (i := 21) (d := 87) (v := ?_) rfl rfl (by kernel_rfl) (by kernel_rfl) (by kernel_rfl) (fun _ _ _ h => h) (by rfl) hHeld ?_ ?_
                        rotate_left
                        · intro wZ hSw; clear hSw; go_simp; first | (with_reducible rfl) | (rw [if_pos (by omega)]; with_reducible rfl) | skip
                        try simp only [Act.put, List.setIfInBounds_toArray, List.set_cons_zero, List.set_cons_succ]
                        refine take_dstH (i := 22) (d := 88) (v := ?_) rfl rfl (by kernel_rfl) (by kernel_rfl) (by kernel_rfl) (fun _ _ _ h => h) (by rfl) hHeld ?_ ?_
                        rotate_left
                        · intro wZ hSw; clear hSw; go_simp; first | (with_reducible rfl) | (rw [if_pos (by omega)]; with_reducible rfl) | skip
                        try simp only [Act.put, List.setIfInBounds_toArray, List.set_cons_zero, List.set_cons_succ]
                        refine take_dstH (i := 23) (d := 89) (v := ?_) rfl rfl (by kernel_rfl) (by kernel_rfl) (by kernel_rfl) (fun _ _ _ h => h) (by rfl) hHeld ?_ ?_
                        rotate_left
                        · intro wZ hSw; clear hSw; go_simp; first | (with_reducible rfl) | (rw [if_pos (by omega)]; with_reducible rfl) | skip
                        try simp only [Act.put, List.setIfInBounds_toArray, List.set_cons_zero, List.set_cons_succ]
                        refine take_dstH (i := 24) (d := 90) (v := ?_) rfl rfl (by kernel_rfl) (by kernel_rfl) (by kernel_rfl) (fun _ _ _ h => h) (by rfl) hHeld ?_ ?_
                        rotate_left
                        · intro wZ hSw; clear hSw; go_simp; first | (with_reducible rfl) | (rw [if_pos (by omega)]; with_reducible rfl) | skip
                        try simp only [Act.put, List.setIfInBounds_toArray, List.set_cons_zero, List.set_cons_succ]
                        refine take_dstH (i := 25) (d := 91) (v := ?_) rfl rfl (by kernel_rfl) (by kernel_rfl) (by kernel_rfl) (fun _ _ _ h => h) (by rfl) hHeld ?_ ?_
                        rotate_left
                        · intro wZ hSw; clear hSw; go_simp; first | (with_reducible rfl) | (rw [if_pos (by omega)]; with_reducible rfl) | skip
                        try simp only [Act.put, List.setIfInBounds_toArray, List.set_cons_zero, List.set_cons_succ]
                        refine take_dstH (i := 26) (d := 92) (v := ?_) rfl rfl (by kernel_rfl) (by kernel_rfl) (by kernel_rfl) (fun _ _ _ h => h) (by rfl) hHeld ?_ ?_
                        rotate_left
                        · intro wZ hSw; clear hSw; go_simp; first | (with_reducible rfl) | (rw [if_pos (by omega)]; with_reducible rfl) | skip
                        try simp only [Act.put, List.setIfInBounds_toArray, List.set_cons_zero, List.set_cons_succ]
                        refine take_dstH (i := 27) (d := 93) (v := ?_) rfl rfl (by kernel_rfl) (by kernel_rfl) (by kernel_rfl) (fun _ _ _ h => h) (by rfl) hHeld ?_ ?_
                        rotate_left
                        · intro wZ hSw; clear hSw; go_simp; first | (with_reducible rfl) | (rw [if_pos (by omega)]; with_reducible rfl) | skip
                        try simp only [Act.put, List.setIfInBounds_toArray, List.set_cons_zero, List.set_cons_succ]
                        refine take_dstH (i := 28) (d := 94) (v := ?_) rfl rfl (by kernel_rfl) (by kernel_rfl) (by kernel_rfl) (fun _ _ _ h => h) (by rfl) hHeld ?_ ?_
                        rotate_left
                        · intro wZ hSw; have hfS := L2.out wZ hSw; clear hSw; go_simp; first | (with_reducible rfl) | (rw [if_pos (by omega)]; with_reducible rfl) | skip
                        try simp only [Act.put, List.setIfInBounds_toArray, List.set_cons_zero, List.set_cons_succ]
                        refine take_dstH (i := 30) (d := 96) (v := ?_) rfl rfl (by kernel_rfl) (by kernel_rfl) (by kernel_rfl) (fun _ _ _ h => h) (by rfl) hHeld ?_ ?_
                        rotate_left
                        · intro wZ hSw; clear hSw; go_simp; first | (with_reducible rfl) | (rw [if_pos (by omega)]; with_reducible rfl) | skip
                        try simp only [Act.put, List.setIfInBounds_toArray, List.set_cons_zero, List.set_cons_succ]
                        refine take_dstH (i := 31) (d := 97) (v := ?_) rfl rfl (by kernel_rfl) (by kernel_rfl) (by kernel_rfl) (fun _ _ _ h => h) (by rfl) hHeld ?_ ?_
                        rotate_left
                        · intro wZ hSw; clear hSw; go_simp; first | (with_reducible rfl) | (rw [if_pos (by omega)]; with_reducible rfl) | skip
                        try simp only [Act.put, List.setIfInBounds_toArray, List.set_cons_zero, List.set_cons_succ]
                        refine take_dstH (i := 32) (d := 98) (v := ?_) rfl rfl (by kernel_rfl) (by kernel_rfl) (by kernel_rfl) (fun _ _ _ h => h) (by rfl) hHeld ?_ ?_
                        rotate_left
                        · intro wZ hSw; clear hSw; go_simp; first | (with_reducible rfl) | (rw [if_pos (by omega)]; with_reducible rfl) | skip
                        try simp only [Act.put, List.setIfInBounds_toArray, List.set_cons_zero, List.set_cons_succ]
                        refine take_dstH (i := 33) (d := 99) (v := ?_) rfl rfl (by kernel_rfl) (by kernel_rfl) (by kernel_rfl) (fun _ _ _ h => h) (by rfl) hHeld ?_ ?_
                        rotate_left
                        · intro wZ hSw; clear hSw; go_simp; first | (with_reducible rfl) | (rw [if_pos (by omega)]; with_reducible rfl) | skip
                        try simp only [Act.put, List.setIfInBounds_toArray, List.set_cons_zero, List.set_cons_succ]
                        refine take_dstH (i := 34) (d := 100) (v := ?_) rfl rfl (by kernel_rfl) (by kernel_rfl) (by kernel_rfl) (fun _ _ _ h => h) (by rfl) hHeld ?_ ?_
                        rotate_left
                        · intro wZ hSw; clear hSw; go_simp; first | (with_reducible rfl) | (rw [if_pos (by omega)]; with_reducible rfl) | skip
                        try simp only [Act.put, List.setIfInBounds_toArray, List.set_cons_zero, List.set_cons_succ]
                        refine take_dstH (i := 35) (d := 101) (v := ?_) rfl rfl (by kernel_rfl) (by kernel_rfl) (by kernel_rfl) (fun _ _ _ h => h) (by rfl) hHeld ?_ ?_
                        rotate_left
                        · intro wZ hSw; clear hSw; go_simp; first | (with_reducible rfl) | (rw [if_pos (by omega)]; with_reducible rfl) | skip
                        try simp only [Act.put, List.setIfInBounds_toArray, List.set_cons_zero, List.set_cons_succ]
                        refine take_dstH (i := 36) (d := 102) (v := ?_) rfl rfl (by kernel_rfl) (by kernel_rfl) (by kernel_rfl) (fun _ _ _ h => h) (by rfl) hHeld ?_ ?_
                        rotate_left
                        · intro wZ hSw; clear hSw; go_simp; first | (with_reducible rfl) | (rw [if_pos (by omega)]; with_reducible rfl) | skip
                        try simp only [Act.put, List.setIfInBounds_toArray, List.set_cons_zero, List.set_cons_succ]
                        refine take_dstH (i := 37) (d := 103) (v := ?_) rfl rfl (by kernel_rfl) (by kernel_rfl) (by kernel_rfl) (fun _ _ _ h => h) (by rfl) hHeld ?_ ?_
                        rotate_left
                        · intro wZ hSw; have hfS := L3.out wZ hSw; clear hSw; go_simp; first | (with_reducible rfl) | (rw [if_pos (by omega)]; with_reducible rfl) | skip
                        try simp only [Act.put, List.setIfInBounds_toArray, List.set_cons_zero, List.set_cons_succ]
                        refine wpAnyH_ready (rs := [10]) (by kernel_rfl) (by simp) ?_
                        refine (AllReadyH.cons rfl (fun K hK => ?_) AllReadyH.nil)
                        go_simp
                        refine (T2.out _).mono ?_; rintro e wa ⟨rfl, hwa⟩; subst hwa
                        go_wp2_with fail
                        refine hK.out _ _ ?_ (fun hHeld => ?_)
                        · exact hHeld
                        clear hK K
                        try simp only [Act.put, List.setIfInBounds_toArray, List.set_cons_zero, List.set_cons_succ]
                        refine wpAnyH_ready (rs := [19]) (by kernel_rfl) (by simp) ?_
                        refine (AllReadyH.cons rfl (fun K hK => ?_) AllReadyH.nil)
                        go_simp
                        refine (T3.out _).mono ?_; rintro e wa ⟨rfl, hwa⟩; subst hwa
                        go_wp2_with fail
                        refine hK.out _ _ ?_ (fun hHeld => ?_)
                        · exact hHeld
                        clear hK K
                        try simp only [Act.put, List.setIfInBounds_toArray, List.set_cons_zero, List.set_cons_succ]
                        refine take_dstH (i := 20) (d := 86) (v := ?_) rfl rfl (by kernel_rfl) (by kernel_rfl) (by kernel_rfl) (fun _ _ _ h => h) (by rfl) hHeld ?_ ?_
                        rotate_left
                        · intro wZ hSw; clear hSw; go_simp; first | (with_reducible rfl) | (rw [if_pos (by omega)]; with_reducible rfl) | skip
                        try simp only [Act.put, List.setIfInBounds_toArray, List.set_cons_zero, List.set_cons_succ]
                        refine take_dstH (i := 29) (d := 95) (v := ?_) rfl rfl (by kernel_rfl) (by kernel_rfl) (by kernel_rfl) (fun _ _ _ h => h) (by rfl) hHeld ?_ ?_
                        rotate_left
                        · intro wZ hSw; clear hSw; go_simp; first | (with_reducible rfl) | (rw [if_pos (by omega)]; with_reducible rfl) | skip
                        try simp only [Act.put, List.setIfInBounds_toArray, List.set_cons_zero, List.set_cons_succ]
                        refine take_dstH (i := 38) (d := 104) (v := ?_) rfl rfl (by kernel_rfl) (by kernel_rfl) (by kernel_rfl) (fun _ _ _ h => h) (by rfl) hHeld ?_ ?_
                        rotate_left
                        · intro wZ hSw; clear hSw; go_simp; first | (with_reducible rfl) | (rw [if_pos (by omega)]; with_reducible rfl) | skip
                        try simp only [Act.put, List.setIfInBounds_toArray, List.set_cons_zero, List.set_cons_succ]
                        refine take_dstH (i := 39) (d := 105) (v := ?_) rfl rfl (by kernel_rfl) (by kernel_rfl) (by kernel_rfl) (fun _ _ _ h => h) (by rfl) hHeld ?_ ?_
                        rotate_left
                        · intro wZ hSw; clear hSw; go_simp; first | (with_reducible rfl) | (rw [if_pos (by omega)]; with_reducible rfl) | skip
                        try simp only [Act.put, List.setIfInBounds_toArray, List.set_cons_zero, List.set_cons_succ]
                        refine wpAnyH_ready (rs := [40]) (by kernel_rfl) (by simp) ?_
                        refine (AllReadyH.cons rfl (fun K hK => ?_) AllReadyH.nil)
                        go_simp
                        refine hK.out _ _ ?_ (fun hHeld => ?_)
                        · exact hide (Arr.other (Hid.out hHeld) _ _ (show g ≠ w.heap.size + 1 + 1 by omega))
                        clear hK K
                        try simp only [Act.put, List.setIfInBounds_toArray, List.set_cons_zero, List.set_cons_succ]
                        refine wpAnyH_done (by kernel_rfl) ?_ _
                        all_goals
                          clear hHeld i1 i2 i3 i4 i5 i6 i7 i8 j6 j7 j8 i9 i10 i11 w1 w2 w3 w4 w5 w6 w7 w8 w9 w10 w11 n0 n1 n2 n3 e1 e2 e3
                          go_wp2
                          go_roundg (4 - q)
                          case measure => omega
                          case rel =>
                            refine ⟨q + 1, by go_num, by omega, by omega, ?_⟩
                            have h := (HR.out.1.set o0 y3).drew
                            rw [HO.out] at h
                            have e4 : 4 * c + (q + 1) = o0 + 1 := by rw [ho0'.out, Nat.add_assoc]
                            rw [e4]
                            exact ⟨h, Arr.other HR.out.2 _ _ (show g ≠ w.heap.size + 1 + 1 by omega)⟩
                      · have e : q = 4 := by omega
                        subst e
                        go_wp2
                        go_roundg (4 - c)
                        case measure => omega
                        case rel => exact ⟨c + 1, by go_num, by omega, by omega, HR⟩
                  · have e : c = 4 := by omega
                    subst e
                    have XB := hide (HH.out.xb k)
                    have YB := hide (HH.out.yb k)
                    rw [over_full _ _ _ YB.out.len XB.out.len] at HR
                    have HR3 := hide HR.out.1
                    have AA := YB
                    have HTT : Hid (∀ i, i < 16 → (B (k + 1)).getD i 0 = (Y k).getD i 0 ^^^ (f n).getD i 0) := by rw [HK.out]; exact HH.out.b1 k (by rw [← HK.out]; exact hn10)
                    clear HR XB YB
                    go_wp2
                    go_loopg [15] 17 (fun f0 s wx => ∃ (i : Nat), s = .int .i64 i ∧ i ≤ 16 ∧ 16 - i < f0 ∧ Hid (StY w wx L s0 (over (B (k + 1)) (Y k) i)))
                    case atStart =>
                      refine ⟨0, rfl, by omega, by omega, ?_⟩
                      rw [over_zero]
                      exact HR3
                    case round =>
                      clear HR3
                      obtain ⟨i, rfl, hi, hfi, HR⟩ := hrel
                      by_cases hlt : i < 16
                      · have hi16 : (i : Int) < 16 := by omega
                        have e1 := over_at (B (k + 1)) (Y k) 16 i i TT.out.len AA.out.len hlt
                        rw [if_neg (by omega)] at e1
                        have ca := HR.out.atB (i := i) (by rw [over_length _ _ _ _ TT.out.len AA.out.len (by omega)]; omega)
                        rw [e1] at ca
                        have fa := HR.out.b.frozen i
                        have RL := hide (RG.out i hlt)
                        have ex := u8_xor_nat _ _ (AA.out.lt i) (FF.out.lt i)
                        have HN := hide (HTT.out i hlt)
                        have HO := hide (over_set (B (k + 1)) (Y k) 16 i TT.out.len AA.out.len hlt)
                        rw [HN.out] at HO
                        clear e1 HN
                        generalize (Y k).getD i 0 = x at *
                        generalize (f n).getD i 0 = y at *
                        generalize x ^^^ y = z at *
                        go_wp2_with fail
                        refine wp_region_held_drew (S := fun v => Hid (Arr v w.heap.size 68 (u8s L))) (by kernel_rfl) (hide HR.out.r) (fun hHeld => ?_)
                        refine take_dstH (i := 0) (d := 110) (v := ?_) rfl rfl (by kernel_rfl) (by kernel_rfl) (by kernel_rfl) (fun _ _ _ h => h) (by rfl) hHeld ?_ ?_
                        rotate_left
                        · intro wZ hSw; clear hSw; go_simp; first | (with_reducible rfl) | (rw [if_pos (by omega)]; with_reducible rfl) | skip
                        try simp only [Act.put, List.setIfInBounds_toArray, List.set_cons_zero, List.set_cons_succ]
                        refine take_dstH (i := 1) (d := 111) (v := ?_) rfl rfl (by kernel_rfl) (by kernel_rfl) (by kernel_rfl) (fun _ _ _ h => h) (by rfl) hHeld ?_ ?_
                        rotate_left
                        · intro wZ hSw; clear hSw; go_simp; first | (with_reducible rfl) | (rw [if_pos (by omega)]; with_reducible rfl) | skip
                        try simp only [Act.put, List.setIfInBounds_toArray, List.set_cons_zero, List.set_cons_succ]
                        refine take_dstH (i := 2) (d := 112) (v := ?_) rfl rfl (by kernel_rfl) (by kernel_rfl) (by kernel_rfl) (fun _ _ _ h => h) (by rfl) hHeld ?_ ?_
                        rotate_left
                        · intro wZ hSw; clear hSw; go_simp; first | (with_reducible rfl) | (rw [if_pos (by omega)]; with_reducible rfl) | skip
                        try simp only [Act.put, List.setIfInBounds_toArray, List.set_cons_zero, List.set_cons_succ]
                        refine take_dstH (i := 4) (d := 114) (v := ?_) rfl rfl (by kernel_rfl) (by kernel_rfl) (by kernel_rfl) (fun _ _ _ h => h) (by rfl) hHeld ?_ ?_
                        rotate_left
                        · intro wZ hSw; clear hSw; go_simp; first | (with_reducible rfl) | (rw [if_pos (by omega)]; with_reducible rfl) | skip
                        try simp only [Act.put, List.setIfInBounds_toArray, List.set_cons_zero, List.set_cons_succ]
                        refine take_dstH (i := 5) (d := 115) (v := ?_) rfl rfl (by kernel_rfl) (by kernel_rfl) (by kernel_rfl) (fun _ _ _ h => h) (by rfl) hHeld ?_ ?_
                        rotate_left
                        · intro wZ hSw; clear hSw; go_simp; first | (with_reducible rfl) | (rw [if_pos (by omega)]; with_reducible rfl) | skip
                        try simp only [Act.put, List.setIfInBounds_toArray, List.set_cons_zero, List.set_cons_succ]
                        refine take_dstH (i := 6) (d := 116) (v := ?_) rfl rfl (by kernel_rfl) (by kernel_rfl) (by kernel_rfl) (fun _ _ _ h => h) (by rfl) hHeld ?_ ?_
                        rotate_left
                        · intro wZ hSw; clear hSw; go_simp; first | (with_reducible rfl) | (rw [if_pos (by omega)]; with_reducible rfl) | skip
                        try simp only [Act.put, List.setIfInBounds_toArray, List.set_cons_zero, List.set_cons_succ]
                        refine take_dstH (i := 7) (d := 117) (v := ?_) rfl rfl (by kernel_rfl) (by kernel_rfl) (by kernel_rfl) (fun _ _ _ h => h) (by rfl) hHeld ?_ ?_
                        rotate_left
                        · intro wZ hSw; clear hSw; go_simp; first | (with_reducible rfl) | (rw [if_pos (by omega)]; with_reducible rfl) | skip
                        try simp only [Act.put, List.setIfInBounds_toArray, List.set_cons_zero, List.set_cons_succ]
                        refine take_dstH (i := 8) (d := 118) (v := ?_) rfl rfl (by kernel_rfl) (by kernel_rfl) (by kernel_rfl) (fun _ _ _ h => h) (by rfl) hHeld ?_ ?_
                        rotate_left
                        · intro wZ hSw; have hfS := RL.out wZ hSw; clear hSw; go_simp; first | (with_reducible rfl) | (rw [if_pos (by omega)]; with_reducible rfl) | skip
                        try simp only [Act.put, List.setIfInBounds_toArray, List.set_cons_zero, List.set_cons_succ]
                        refine wpAnyH_ready (rs := [3]) (by kernel_rfl) (by simp) ?_
                        refine (AllReadyH.cons rfl (fun K hK => ?_) AllReadyH.nil)
                        go_simp
                        refine hK.out _ _ ?_ (fun hHeld => ?_)
                        · exact hHeld
                        clear hK K
                        try simp only [Act.put, List.setIfInBounds_toArray, List.set_cons_zero, List.set_cons_succ]
                        refine take_dstH (i := 9) (d := 119) (v := ?_) rfl rfl (by kernel_rfl) (by kernel_rfl) (by kernel_rfl) (fun _ _ _ h => h) (by rfl) hHeld ?_ ?_
                        rotate_left
                        · intro wZ hSw; clear hSw; go_simp; first | (with_reducible rfl) | (rw [if_pos (by omega)]; with_reducible rfl) | skip
                        try simp only [Act.put, List.setIfInBounds_toArray, List.set_cons_zero, List.set_cons_succ]
                        refine take_dstH (i := 10) (d := 120) (v := ?_) rfl rfl (by kernel_rfl) (by kernel_rfl) (by kernel_rfl) (fun _ _ _ h => h) (by rfl) hHeld ?_ ?_
                        rotate_left
                        · intro wZ hSw; clear hSw; go_simp; first | (with_reducible rfl) | (rw [if_pos (by omega)]; with_reducible rfl) | skip
                        try simp only [Act.put, List.setIfInBounds_toArray, List.set_cons_zero, List.set_cons_succ]
                        refine wpAnyH_ready (rs := [11]) (by kernel_rfl) (by simp) ?_
                        refine (AllReadyH.cons rfl (fun K hK => ?_) AllReadyH.nil)
                        go_simp
                        refine hK.out _ _ ?_ (fun hHeld => ?_)
                        · exact hide (Arr.other (Hid.out hHeld) _ _ (show w.heap.size ≠ w.heap.size + 1 + 1 by omega))
                        clear hK K
                        try simp only [Act.put, List.setIfInBounds_toArray, List.set_cons_zero, List.set_cons_succ]
                        refine wpAnyH_done (by kernel_rfl) ?_ _
                        clear hHeld
                        go_wp2
                        go_roundg (16 - i)
                        case measure => omega
                        case rel =>
                          refine ⟨i + 1, by go_num, by omega, by omega, ?_⟩
                          have := (HR.out.set i z).drew
                          rw [HO.out] at this
                          exact this
                      · have e : i = 16 := by omega
                        subst e
                        rw [over_full _ _ _ TT.out.len AA.out.len] at HR
                        clear TT AA FF RG HTT
                        go_wp2
                        go_roundg (11 - n)
                        case measure => omega
                        case rel => exact ⟨k + 1, n + 1, by go_num, (by show _ = _; rw [HK.out]), by omega, by omega, HR⟩
              · have n10 : ¬ (n : Int) < 10 := by omega
                have AA := XB
                have HTT : Hid (∀ i, i < 16 → (B (k + 1)).getD i 0 = (X k).getD i 0 ^^^ (f n).getD i 0) := by rw [HK.out]; exact HH.out.b2 k (by rw [← HK.out]; exact hn10)
                go_upto_if 57 with (first
                  | (refine wpList_load_row rfl 31 _ rfl g rfl 31 _ (0, 0) _ HR.out.2 Tryd.underlying31 rfl (szb XB.out) ?_)
                  | (refine wpList_store_row rfl 31 _ _ rfl (w.heap.size + 1 + 1) _ rfl rfl 31 _ HR.out.1.b (szb XB.out) (szz BB.out XB.out) (one_u8s _) ?_))
                clear HR XB BB
                generalize World.setRow _ (w.heap.size + 1 + 1) (u8s (X k)).toArray = wp at *
                replace HR3 := hide HR3.out.1
                go_wp2
                go_loopg [15] 17 (fun f0 s wx => ∃ (i : Nat), s = .int .i64 i ∧ i ≤ 16 ∧ 16 - i < f0 ∧ Hid (StY w wx L s0 (over (B (k + 1)) (X k) i)))
                case atStart =>
                  refine ⟨0, rfl, by omega, by omega, ?_⟩
                  rw [over_zero]
                  exact HR3
                case round =>
                  clear HR3
                  obtain ⟨i, rfl, hi, hfi, HR⟩ := hrel
                  by_cases hlt : i < 16
                  · have hi16 : (i : Int) < 16 := by omega
                    have e1 := over_at (B (k + 1)) (X k) 16 i i TT.out.len AA.out.len hlt
                    rw [if_neg (by omega)] at e1
                    have ca := HR.out.atB (i := i) (by rw [over_length _ _ _ _ TT.out.len AA.out.len (by omega)]; omega)
                    rw [e1] at ca
                    have fa := HR.out.b.frozen i
                    have RL := hide (RG.out i hlt)
                    have ex := u8_xor_nat _ _ (AA.out.lt i) (FF.out.lt i)
                    have HN := hide (HTT.out i hlt)
                    have HO := hide (over_set (B (k + 1)) (X k) 16 i TT.out.len AA.out.len hlt)
                    rw [HN.out] at HO
                    clear e1 HN
                    generalize (X k).getD i 0 = x at *
                    generalize (f n).getD i 0 = y at *
                    generalize x ^^^ y = z at *
                    go_wp2_with fail
                    refine wp_region_held_drew (S := fun v => Hid (Arr v w.heap.size 68 (u8s L))) (by kernel_rfl) (hide HR.out.r) (fun hHeld => ?_)
                    refine take_dstH (i := 0) (d := 110) (v := ?_) rfl rfl (by kernel_rfl) (by kernel_rfl) (by kernel_rfl) (fun _ _ _ h => h) (by rfl) hHeld ?_ ?_
                    rotate_left
                    · intro wZ hSw; clear hSw; go_simp; first | (with_reducible rfl) | (rw [if_pos (by omega)]; with_reducible rfl) | skip
                    try simp only [Act.put, List.setIfInBounds_toArray, List.set_cons_zero, List.set_cons_succ]
                    refine take_dstH (i := 1) (d := 111) (v := ?_) rfl rfl (by kernel_rfl) (by kernel_rfl) (by kernel_rfl) (fun _ _ _ h => h) (by rfl) hHeld ?_ ?_
                    rotate_left
                    · intro wZ hSw; clear hSw; go_simp; first | (with_reducible rfl) | (rw [if_pos (by omega)]; with_reducible rfl) | skip
                    try simp only [Act.put, List.setIfInBounds_toArray, List.set_cons_zero, List.set_cons_succ]
                    refine take_dstH (i := 2) (d := 112) (v := ?_) rfl rfl (by kernel_rfl) (by kernel_rfl) (by kernel_rfl) (fun _ _ _ h => h) (by rfl) hHeld ?_ ?_
                    rotate_left
                    · intro wZ hSw; clear hSw; go_simp; first | (with_reducible rfl) | (rw [if_pos (by omega)]; with_reducible rfl) | skip
                    try simp only [Act.put, List.setIfInBounds_toArray, List.set_cons_zero, List.set_cons_succ]
                    refine take_dstH (i := 4) (d := 114) (v := ?_) rfl rfl (by kernel_rfl) (by kernel_rfl) (by kernel_rfl) (fun _ _ _ h => h) (by rfl) hHeld ?_ ?_
                    rotate_left
                    · intro wZ hSw; clear hSw; go_simp; first | (with_reducible rfl) | (rw [if_pos (by omega)]; with_reducible rfl) | skip
                    try simp only [Act.put, List.setIfInBounds_toArray, List.set_cons_zero, List.set_cons_succ]
                    refine take_dstH (i := 5) (d := 115) (v := ?_) rfl rfl (by kernel_rfl) (by kernel_rfl) (by kernel_rfl) (fun _ _ _ h => h) (by rfl) hHeld ?_ ?_
                    rotate_left
                    · intro wZ hSw; clear hSw; go_simp; first | (with_reducible rfl) | (rw [if_pos (by omega)]; with_reducible rfl) | skip
                    try simp only [Act.put, List.setIfInBounds_toArray, List.set_cons_zero, List.set_cons_succ]
                    refine take_dstH (i := 6) (d := 116) (v := ?_) rfl rfl (by kernel_rfl) (by kernel_rfl) (by kernel_rfl) (fun _ _ _ h => h) (by rfl) hHeld ?_ ?_
                    rotate_left
                    · intro wZ hSw; clear hSw; go_simp; first | (with_reducible rfl) | (rw [if_pos (by omega)]; with_reducible rfl) | skip
                    try simp only [Act.put, List.setIfInBounds_toArray, List.set_cons_zero, List.set_cons_succ]
                    refine take_dstH (i := 7) (d := 117) (v := ?_) rfl rfl (by kernel_rfl) (by kernel_rfl) (by kernel_rfl) (fun _ _ _ h => h) (by rfl) hHeld ?_ ?_
                    rotate_left
                    · intro wZ hSw; clear hSw; go_simp; first | (with_reducible rfl) | (rw [if_pos (by omega)]; with_reducible rfl) | skip
                    try simp only [Act.put, List.setIfInBounds_toArray, List.set_cons_zero, List.set_cons_succ]
                    refine take_dstH (i := 8) (d := 118) (v := ?_) rfl rfl (by kernel_rfl) (by kernel_rfl) (by kernel_rfl) (fun _ _ _ h => h) (by rfl) hHeld ?_ ?_
                    rotate_left
                    · intro wZ hSw; have hfS := RL.out wZ hSw; clear hSw; go_simp; first | (with_reducible rfl) | (rw [if_pos (by omega)]; with_reducible rfl) | skip
                    try simp only [Act.put, List.setIfInBounds_toArray, List.set_cons_zero, List.set_cons_succ]
                    refine wpAnyH_ready (rs := [3]) (by kernel_rfl) (by simp) ?_
                    refine (AllReadyH.cons rfl (fun K hK => ?_) AllReadyH.nil)
                    go_simp
                    refine hK.out _ _ ?_ (fun hHeld => ?_)
                    · exact hHeld
                    clear hK K
                    try simp only [Act.put, List.setIfInBounds_toArray, List.set_cons_zero, List.set_cons_succ]
                    refine take_dstH (i := 9) (d := 119) (v := ?_) rfl rfl (by kernel_rfl) (by kernel_rfl) (by kernel_rfl) (fun _ _ _ h => h) (by rfl) hHeld ?_ ?_
                    rotate_left
                    · intro wZ hSw; clear hSw; go_simp; first | (with_reducible rfl) | (rw [if_pos (by omega)]; with_reducible rfl) | skip
                    try simp only [Act.put, List.setIfInBounds_toArray, List.set_cons_zero, List.set_cons_succ]
                    refine take_dstH (i := 10) (d := 120) (v := ?_) rfl rfl (by kernel_rfl) (by kernel_rfl) (by kernel_rfl) (fun _ _ _ h => h) (by rfl) hHeld ?_ ?_
                    rotate_left
                    · intro wZ hSw; clear hSw; go_simp; first | (with_reducible rfl) | (rw [if_pos (by omega)]; with_reducible rfl) | skip
                    try simp only [Act.put, List.setIfInBounds_toArray, List.set_cons_zero, List.set_cons_succ]
                    refine wpAnyH_ready (rs := [11]) (by kernel_rfl) (by simp) ?_
                    refine (AllReadyH.cons rfl (fun K hK => ?_) AllReadyH.nil)
                    go_simp
                    refine hK.out _ _ ?_ (fun hHeld => ?_)
                    · exact hide (Arr.other (Hid.out hHeld) _ _ (show w.heap.size ≠ w.heap.size + 1 + 1 by omega))
                    clear hK K
                    try simp only [Act.put, List.setIfInBounds_toArray, List.set_cons_zero, List.set_cons_succ]
                    refine wpAnyH_done (by kernel_rfl) ?_ _
                    clear hHeld
                    go_wp2
                    go_roundg (16 - i)
                    case measure => omega
                    case rel =>
                      refine ⟨i + 1, by go_num, by omega, by omega, ?_⟩
                      have := (HR.out.set i z).drew
                      rw [HO.out] at this
                      exact this
                  · have e : i = 16 := by omega
                    subst e
                    rw [over_full _ _ _ TT.out.len AA.out.len] at HR
                    clear TT AA FF RG HTT
                    go_wp2
                    go_roundg (11 - n)
                    case measure => omega
                    case rel => exact ⟨k + 1, n + 1, by go_num, (by show _ = _; rw [HK.out]), by omega, by omega, HR⟩
        · have e : n = 11 := by omega
          subst e
          have e : k = 10 := by have := HK.out; omega
          subst e
          have BT := hide (HH.out.bb 10)
          have K0 := hide HR.out.b
          have K2 := hide HR.out.o
          have KB := hide HR.out.bl
          clear HR
          go_wp2_with (first
            | (refine wpList_load_row rfl 31 _ rfl (w.heap.size + 1 + 1) rfl 31 _ (0, 0) _ K0.out Tryd.underlying31 rfl (szb BT.out) ?_)
            | (refine wpList_store_row rfl 31 _ _ rfl (w.heap.size + 1 + 1 + 1) _ rfl rfl 31 _ K2.out (szb BT.out) (szz ZZ.out BT.out) (one_u8s _) ?_))
          exact bodyPost_ret (v := .agg (u8s (B 10)).toArray) (results_cell_row Tryd.results50 _ _ (w.heap.size + 1 + 1 + 1) 31 _ (0, 0) _ rfl (K2.out.row _) Tryd.underlying31 rfl (szb BT.out)) rfl ⟨rfl, below_setRow KB.out (by omega) K2.out.lt _⟩

end Go.Proofs.YtjiipiolckddnaaDoor
