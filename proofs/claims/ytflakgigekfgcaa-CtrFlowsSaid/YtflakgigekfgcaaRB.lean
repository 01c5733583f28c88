/-
  Walks: the reference's products, others, bytes turned and swapped, all bytes swapped.
-/
import Derived.Test.YtflakgigekfgcaaRA
namespace Go.Proofs.Ytflakgigekfgcaa
open Go.RowKit

theorem i64_xor_small (a b : Nat) (ha : a < 65536) (hb : b < 65536) : bits .xor .i64 (a : Int) (b : Int) = ((a ^^^ b : Nat) : Int) := by
  have hx : a ^^^ b < 2 ^ 16 := Nat.xor_lt_two_pow (by omega) (by omega)
  show IntKind.i64.wrap ((BitVec.ofInt 64 (a : Int) ^^^ BitVec.ofInt 64 (b : Int)).toNat : Int) = _
  rw [BitVec.toNat_xor, BitVec.ofInt_natCast, BitVec.ofInt_natCast, BitVec.toNat_ofNat, BitVec.toNat_ofNat, Nat.mod_eq_of_lt (by omega), Nat.mod_eq_of_lt (by omega)]
  simp [IntKind.wrap, IntKind.bits, IntKind.signed]
  omega

theorem wrap_pow (a i : Nat) (h : a * 2 ^ i < 65536) : wrap64 ((a : Int) * 2 ^ i) = ((a * 2 ^ i : Nat) : Int) := by
  have e : ((a : Int) * 2 ^ i) = ((a * 2 ^ i : Nat) : Int) := by simp
  rw [e]
  generalize a * 2 ^ i = x at *
  simp [wrap64]
  omega
theorem bit_at (b i : Nat) : ((b : Int) / 2 ^ i).tmod 2 = ((b / 2 ^ i % 2 : Nat) : Int) := by
  have e : ((b : Int) / 2 ^ i) = ((b / 2 ^ i : Nat) : Int) := by simp
  rw [e]
  generalize b / 2 ^ i = x
  rw [Int.tmod_eq_emod_of_nonneg (by omega)]
  omega
theorem bit_int (b i : Nat) : (((b : Int) / 2 ^ i).tmod 2 == 1) = true ↔ b / 2 ^ i % 2 = 1 := by
  rw [bit_at, beq_iff_eq]
  omega
theorem bit_int' (b i : Nat) : (((b : Int) / 2 ^ i).tmod 2 == 1) = false ↔ b / 2 ^ i % 2 = 0 := by
  rw [bit_at, beq_eq_false_iff_ne]
  omega

set_option maxHeartbeats 2000000 in
set_option maxRecDepth 100000 in
theorem rtimes_of (R a b : Nat) (PF QF : Nat → Nat) (ha : a < 256) (_hb : b < 256) (hP0 : PF 0 = 0) (hPN : ∀ i, i < 8 → PF (i + 1) = if b / 2 ^ i % 2 = 1 then PF i ^^^ a * 2 ^ i else PF i) (hPL : ∀ i, i ≤ 8 → PF i < 65536)
    (hQ0 : QF 0 = PF 8) (hQN : ∀ k, k < 7 → QF (k + 1) = if QF k / 2 ^ (14 - k) % 2 = 1 then QF k ^^^ 283 * 2 ^ (6 - k) else QF k) (hQL : ∀ k, QF k < 65536) (hR : R = QF 7 % 256) (w : World) :
    Calls Try.prog 31 #[.int .u8 a, .int .u8 b] w fun e w' => e = .returned (.int .u8 (R : Int)) ∧ w' = w := by
  have P0 := hide hP0
  have PN := hide hPN
  have PL := hide hPL
  have Q0 := hide hQ0
  have QN := hide hQN
  have QL := hide hQL
  have HR := hide hR
  clear hP0 hPN hPL hQ0 hQN hQL hR
  go_enter Try.func31, Try.ntmps31
  go_wp2
  go_loopg [5, 6] 9 (fun f s5 s6 wr => ∃ (i p : Nat), s5 = .int .i64 p ∧ s6 = .int .i64 i ∧ i ≤ 8 ∧ 8 - i < f ∧ Hid (p = PF i) ∧ wr = w)
  case atStart => exact ⟨0, 0, rfl, rfl, by omega, by omega, P0.out.symm, rfl⟩
  case round =>
    obtain ⟨i, p, rfl, rfl, hi, hf, HP, rfl⟩ := hrel
    by_cases hlt : i < 8
    · have hi8 : (i : Int) < 8 := by omega
      have HN := hide (PN.out i hlt)
      have HX : Hid (bits .xor .i64 (p : Int) (wrap64 ((a : Int) * 2 ^ i)) = ((p ^^^ a * 2 ^ i : Nat) : Int)) := by
        show _ = _
        have h2 : a * 2 ^ i < 65536 := by
          have : 2 ^ i ≤ 2 ^ 7 := Nat.pow_le_pow_right (by omega) (by omega)
          exact Nat.lt_of_le_of_lt (Nat.mul_le_mul (show a ≤ 255 by omega) this) (by decide)
        rw [wrap_pow a i h2, i64_xor_small _ _ (by rw [HP.out]; exact PL.out i hi) h2]
      rw [← HP.out] at HN
      go_wp2
      · rename_i h
        have h := (bit_int b i).1 h
        rw [if_pos h] at HN
        go_roundg (8 - i)
        case measure => omega
        case rel => exact ⟨i + 1, p ^^^ a * 2 ^ i, by rw [HX.out], by go_num, by omega, by omega, HN.out.symm, rfl⟩
      · rename_i h
        have h := (bit_int' b i).1 h
        rw [if_neg (by omega)] at HN
        go_roundg (8 - i)
        case measure => omega
        case rel => exact ⟨i + 1, p, rfl, by go_num, by omega, by omega, HN.out.symm, rfl⟩
    · have e : i = 8 := by omega
      subst e
      rw [← Q0.out] at HP
      go_wp2
      go_loopg [5, 7] 8 (fun f s5 s7 wr' => ∃ (i k p : Nat), s5 = .int .i64 p ∧ s7 = .int .i64 i ∧ i + k = 14 ∧ k ≤ 7 ∧ 7 - k < f ∧ Hid (p = QF k) ∧ wr' = wr)
      case atStart => exact ⟨14, 0, p, rfl, rfl, by omega, by omega, by omega, HP, rfl⟩
      case round =>
        clear HP
        obtain ⟨i, k, q, rfl, rfl, hik, hk, hf, HP, rfl⟩ := hrel
        by_cases hlt : k < 7
        · have hi8 : (8 : Int) ≤ (i : Int) := by omega
          have hi14 : (i : Int) ≤ 14 := by omega
          have HN := hide (QN.out k hlt)
          have hq : q < 65536 := by rw [HP.out]; exact QL.out k
          have e14 : 14 - k = i := by omega
          have e6 : 6 - k = i - 8 := by omega
          rw [← HP.out, e14, e6] at HN
          have HX : Hid (bits .xor .i64 (q : Int) (wrap64 (283 * 2 ^ (i - 8))) = ((q ^^^ 283 * 2 ^ (i - 8) : Nat) : Int)) := by
            show _ = _
            have h2 : 283 * 2 ^ (i - 8) < 65536 := by
              have : 2 ^ (i - 8) ≤ 2 ^ 6 := Nat.pow_le_pow_right (by omega) (by omega)
              exact Nat.lt_of_le_of_lt (Nat.mul_le_mul (Nat.le_refl 283) this) (by decide)
            have h3 := wrap_pow 283 (i - 8) h2
            rw [show ((283 : Nat) : Int) = 283 from rfl] at h3
            rw [h3, i64_xor_small _ _ hq h2]
          clear e14 e6
          go_wp2
          · rename_i h
            have h := (bit_int q i).1 h
            rw [if_pos h] at HN
            go_roundg (7 - k)
            case measure => omega
            case rel => exact ⟨i - 1, k + 1, q ^^^ 283 * 2 ^ (i - 8), by rw [HX.out], by go_num, by omega, by omega, by omega, HN.out.symm, rfl⟩
          · rename_i h
            have h := (bit_int' q i).1 h
            rw [if_neg (by omega)] at HN
            go_roundg (7 - k)
            case measure => omega
            case rel => exact ⟨i - 1, k + 1, q, rfl, by go_num, by omega, by omega, by omega, HN.out.symm, rfl⟩
        · have e : k = 7 := by omega
          subst e
          have e : i = 7 := by omega
          subst e
          have hq : q < 65536 := by rw [HP.out]; exact QL.out 7
          rw [← HP.out] at HR
          go_wp2
          go_ret
          refine ⟨ret_u8 ?_, rfl⟩
          rw [HR.out]
          omega

theorem rtimes_any (a b : Nat) (ha : a < 256) (hb : b < 256) (w : World) :
    Calls Try.prog 31 #[.int .u8 a, .int .u8 b] w fun e w' => e = .returned (.int .u8 ((tmF a b : Nat) : Int)) ∧ w' = w :=
  rtimes_of (tmF a b) a b (rpF a b) (rqF (rpF a b 8)) ha hb rfl (fun _ _ => rfl) (fun i hi => rp_lt b ha i hi) rfl (fun _ _ => rfl) (fun k => rq_lt (rp_lt b ha 8 (by omega)) k) (rt_is ha hb).symm w

set_option maxRecDepth 100000 in
set_option maxHeartbeats 1000000 in
theorem rother_of (R a : Nat) (ha : a < 256) (h : OtR R a 1) (w : World) :
    Calls Try.prog 40 #[.int .u8 a] w fun e w' => e = .returned (.int .u8 ((R : Nat) : Int)) ∧ w' = w := by
  have HR := hide h
  clear h
  go_enter Try.func40, Try.ntmps40
  go_wp2
  go_loopg [3] 257 (fun f s3 wr => ∃ (b : Nat), s3 = .int .i64 b ∧ b ≤ 256 ∧ 256 - b < f ∧ Hid (OtR R a b) ∧ wr = w)
  case atStart => exact ⟨1, rfl, by omega, by omega, HR, rfl⟩
  case round =>
    obtain ⟨b, rfl, hb, hf, HS, rfl⟩ := hrel
    by_cases hlt : b < 256
    · have HC := hide (rtimes_any a b ha hlt wr)
      have hl := tmF_lt b ha
      by_cases he : tmF a b = 1
      · have hb1 := HS.out.hit hlt he
        rw [he] at HC
        clear hl he
        subst hb1
        go_wp2_with fail
        refine HC.out.mono ?_
        rintro e w1 ⟨rfl, rfl⟩
        go_wp2
        go_ret
        exact ⟨rfl, rfl⟩
      · have HN := hide (HS.out.step hlt he)
        generalize tmF a b = x at *
        have hx : ¬ (x : Int) = 1 := by omega
        go_wp2_with fail
        refine HC.out.mono ?_
        rintro e w1 ⟨rfl, rfl⟩
        go_wp2
        go_roundg (256 - b)
        case measure => omega
        case rel => exact ⟨b + 1, by go_num, by omega, by omega, HN, rfl⟩
    · have e : b = 256 := by omega
      subst e
      have e0 := HS.out.none
      subst e0
      go_wp2
      go_ret
      exact ⟨rfl, rfl⟩

theorem rother_any (a : Nat) (ha : a < 256) (w : World) :
    Calls Try.prog 40 #[.int .u8 a] w fun e w' => e = .returned (.int .u8 ((otF a : Nat) : Int)) ∧ w' = w :=
  rother_of (otF a) a ha (OtR.step ⟨by omega, rfl⟩ (by omega) (by rw [tm_zero]; omega)) w

set_option maxRecDepth 100000 in
set_option maxHeartbeats 1000000 in
theorem rleft_any (y n : Nat) (hy : y < 256) (h1 : 1 ≤ n) (h2 : n ≤ 4) (w : World) :
    Calls Try.prog 41 #[.int .u8 y, .int .i64 n] w fun e w' => e = .returned (.int .u8 ((rotF y n : Nat) : Int)) ∧ w' = w := by
  have HR := hide (or_rot y n hy)
  generalize rotF y n = R at *
  go_enter Try.func41, Try.ntmps41
  go_wp2
  go_ret
  refine ⟨ret_u8 ?_, rfl⟩
  rw [← HR.out]
  congr 1 <;> simp

set_option maxRecDepth 100000 in
set_option maxHeartbeats 1000000 in
theorem rswap_of (a y r1 r2 r3 r4 x1 x2 x3 x4 R : Nat) (hO : ∀ w : World, Calls Try.prog 40 #[.int .u8 a] w fun e w' => e = .returned (.int .u8 ((y : Nat) : Int)) ∧ w' = w)
    (h1 : ∀ w : World, Calls Try.prog 41 #[.int .u8 y, .int .i64 1] w fun e w' => e = .returned (.int .u8 ((r1 : Nat) : Int)) ∧ w' = w)
    (h2 : ∀ w : World, Calls Try.prog 41 #[.int .u8 y, .int .i64 2] w fun e w' => e = .returned (.int .u8 ((r2 : Nat) : Int)) ∧ w' = w)
    (h3 : ∀ w : World, Calls Try.prog 41 #[.int .u8 y, .int .i64 3] w fun e w' => e = .returned (.int .u8 ((r3 : Nat) : Int)) ∧ w' = w)
    (h4 : ∀ w : World, Calls Try.prog 41 #[.int .u8 y, .int .i64 4] w fun e w' => e = .returned (.int .u8 ((r4 : Nat) : Int)) ∧ w' = w)
    (e1 : bits .xor .u8 (y : Int) (r1 : Int) = (x1 : Int)) (e2 : bits .xor .u8 (x1 : Int) (r2 : Int) = (x2 : Int)) (e3 : bits .xor .u8 (x2 : Int) (r3 : Int) = (x3 : Int)) (e4 : bits .xor .u8 (x3 : Int) (r4 : Int) = (x4 : Int)) (e5 : bits .xor .u8 (x4 : Int) 99 = (R : Int)) (w : World) :
    Calls Try.prog 30 #[.int .u8 a] w fun e w' => e = .returned (.int .u8 ((R : Nat) : Int)) ∧ w' = w := by
  have HO := hide hO
  have H1 := hide h1
  have H2 := hide h2
  have H3 := hide h3
  have H4 := hide h4
  clear hO h1 h2 h3 h4
  go_enter Try.func30, Try.ntmps30
  go_wp2_with fail
  refine (HO.out _).mono ?_
  rintro e w1 ⟨rfl, hw⟩
  subst hw
  go_wp2_with fail
  refine (H1.out _).mono ?_
  rintro e w1 ⟨rfl, hw⟩
  subst hw
  go_wp2_with fail
  refine (H2.out _).mono ?_
  rintro e w1 ⟨rfl, hw⟩
  subst hw
  go_wp2_with fail
  refine (H3.out _).mono ?_
  rintro e w1 ⟨rfl, hw⟩
  subst hw
  go_wp2_with fail
  refine (H4.out _).mono ?_
  rintro e w1 ⟨rfl, hw⟩
  subst hw
  go_wp2
  go_ret
  exact ⟨rfl, rfl⟩

theorem rswap_any (a : Nat) (ha : a < 256) (w : World) :
    Calls Try.prog 30 #[.int .u8 a] w fun e w' => e = .returned (.int .u8 ((swF a : Nat) : Int)) ∧ w' = w := by
  have hy := ot_lt ha
  have hs := sp_ref hy
  refine rswap_of a (otF a) (rotF (otF a) 1) (rotF (otF a) 2) (rotF (otF a) 3) (rotF (otF a) 4) (otF a ^^^ rotF (otF a) 1) ((otF a ^^^ rotF (otF a) 1) ^^^ rotF (otF a) 2) (((otF a ^^^ rotF (otF a) 1) ^^^ rotF (otF a) 2) ^^^ rotF (otF a) 3) ((((otF a ^^^ rotF (otF a) 1) ^^^ rotF (otF a) 2) ^^^ rotF (otF a) 3) ^^^ rotF (otF a) 4) (swF a)
    (rother_any a ha) (rleft_any _ 1 hy (by omega) (by omega)) (rleft_any _ 2 hy (by omega) (by omega)) (rleft_any _ 3 hy (by omega) (by omega)) (rleft_any _ 4 hy (by omega) (by omega)) ?_ ?_ ?_ ?_ ?_ w
  · exact u8_xor_nat _ _ hy (rotF_lt _ hy)
  · exact u8_xor_nat _ _ (xor_lt8 hy (rotF_lt _ hy)) (rotF_lt _ hy)
  · exact u8_xor_nat _ _ (xor_lt8 (xor_lt8 hy (rotF_lt _ hy)) (rotF_lt _ hy)) (rotF_lt _ hy)
  · exact u8_xor_nat _ _ (xor_lt8 (xor_lt8 (xor_lt8 hy (rotF_lt _ hy)) (rotF_lt _ hy)) (rotF_lt _ hy)) (rotF_lt _ hy)
  · rw [show (99 : Int) = ((99 : Nat) : Int) from rfl, u8_xor_nat _ _ (xor_lt8 (xor_lt8 (xor_lt8 (xor_lt8 hy (rotF_lt _ hy)) (rotF_lt _ hy)) (rotF_lt _ hy)) (rotF_lt _ hy)) (by omega), hs]
    rfl

/-- what lies in memory while all bytes swapped are written -/
def StT (w wr : World) (T : List Nat) : Prop :=
  Arr wr w.heap.size 52 (u8s z256) ∧ Arr wr (w.heap.size + 1) 52 (u8s T) ∧ Below w.heap.size w wr
theorem StT.set {w wr : World} {T : List Nat} (r : StT w wr T) (i x : Nat) : StT w (wr.setCell ⟨w.heap.size + 1, i, none⟩ (.int .u8 ((x : Nat) : Int))) (T.set i x) := by
  obtain ⟨h0, h1, h2⟩ := r
  refine ⟨h0.other _ _ (show w.heap.size ≠ w.heap.size + 1 by omega), ?_, h2.setCell (show w.heap.size ≤ w.heap.size + 1 by omega) _⟩
  have := h1.set i (.int .u8 ((x : Nat) : Int))
  rw [u8s_set] at this
  exact this
theorem part_zero256 (T : List Nat) : part T 256 0 = z256 := by rw [part, List.take_zero, List.nil_append, z256]

set_option maxHeartbeats 4000000 in
set_option maxRecDepth 100000 in
theorem rtable_of (T : List Nat) (w : World) (hTL : T.length = 256) (hT : ∀ i, i < 256 → T.getD i 0 = swF i) :
    Calls Try.prog 21 #[] w fun e w' => e = .returned (.agg (u8s T).toArray) ∧ Below w.heap.size w w' := by
  have TL := hide hTL
  have HT := hide hT
  have Z1 := zero256
  clear hTL hT
  go_enter Try.func21, Try.ntmps21
  go_wp2
  go_loopg [2] 257 (fun f s2 wr => ∃ (i : Nat), s2 = .int .i64 i ∧ i ≤ 256 ∧ 256 - i < f ∧ Hid (StT w wr (part T 256 i)))
  case atStart =>
    refine ⟨0, rfl, by omega, by omega, ?_⟩
    rw [part_zero256]
    exact ⟨heap_alloc2_old _ _ _, heap_alloc2_new _ _ _, ((Below.refl _ _).alloc (Nat.le_refl _) _).alloc (by simp) _⟩
  case round =>
    obtain ⟨i, rfl, hi, hf, HR⟩ := hrel
    by_cases hlt : i < 256
    · have HC := hide (rswap_any i hlt wr)
      have HN := hide (HT.out i hlt)
      have cw := (HR.out.2.1.cell i).trans (u8s_at (by rw [part_length _ _ _ TL.out (by omega)]; omega))
      have fw := HR.out.2.1.frozen i
      have hi256 : (i : Int) < 256 := by omega
      rw [← HN.out] at HC
      clear HN
      generalize (part T 256 i).getD i 0 = old at *
      generalize hz : T.getD i 0 = z at *
      have HZ := hide hz
      clear hz
      go_wp2_with fail
      refine HC.out.mono ?_
      rintro e w1 ⟨rfl, hw⟩
      subst hw
      go_wp2
      go_roundg (256 - i)
      case measure => omega
      case rel =>
        refine ⟨i + 1, by go_num, by omega, by omega, ?_⟩
        have := HR.out.set i z
        rw [← HZ.out, part_set _ _ _ TL.out hlt, HZ.out] at this
        exact this
    · have e : i = 256 := by omega
      subst e
      rw [part_full _ _ TL.out] at HR
      have K0 := hide HR.out.1
      have K1 := hide HR.out.2.1
      have KB := hide HR.out.2.2
      have T1 : Hid ((u8s z256).toArray.size = (u8s T).toArray.size) := by show _ = _; simp [u8s, z256, TL.out]
      have T2 : Hid ((Try.prog.info? 52).map (·.size) = some (u8s T).toArray.size) := by show _ = _; rw [info256]; simp [u8s, TL.out]
      have O2 := hide (one_u8s T)
      clear HR
      go_wp2_with (first
        | (refine wpList_load_row rfl 52 _ rfl (w.heap.size + 1) rfl 52 _ (0, 0) _ K1.out Try.underlying52 rfl T2.out ?_)
        | (refine wpList_store_row rfl 52 _ _ rfl w.heap.size _ rfl rfl 52 _ K0.out T2.out T1.out O2.out ?_))
      exact bodyPost_ret (v := .agg (u8s T).toArray) (results_cell_row Try.results21 _ _ w.heap.size 52 _ (0, 0) _ rfl (K0.out.row _) Try.underlying52 rfl T2.out) rfl ⟨rfl, below_setRow KB.out (Nat.le_refl _) K0.out.lt _⟩

theorem rtable_any (w : World) :
    Calls Try.prog 21 #[] w fun e w' => e = .returned (.agg (u8s swT).toArray) ∧ Below w.heap.size w w' :=
  rtable_of swT w swT_length (fun _ hi => (sw_is hi).symm)

end Go.Proofs.Ytflakgigekfgcaa
