/-
  Layer 1 for the layers above it: numbers and texts read by a reader, what is left, what error; what was put is read again.
-/
import Derived.Test.YtecpnnnkkofejaaYB
namespace Go.Proofs.Ytecpnnnkkofejaa
open Go.RowKit
variable {A : Nat → Prop}

set_option maxHeartbeats 400000 in
theorem left_nil (w : World) :
    Calls Try.prog 31 #[.pointer none] w fun e w' => e = .returned (.int .i64 0) ∧ w' = w := by
  go_enter Try.func31, Try.ntmps31
  go_wp2
  go_ret
  exact ⟨rfl, rfl⟩

set_option maxHeartbeats 400000 in
theorem left_at (b : Nat) (p : Option Addr) (n c : Nat) (w : World) (hc : w.cell? ⟨b, 0, none⟩ = some (.slice p n c)) :
    Calls Try.prog 31 #[.pointer (some ⟨b, 0, none⟩)] w fun e w' => e = .returned (.int .i64 n) ∧ w' = w := by
  go_enter Try.func31, Try.ntmps31
  go_wp2
  go_ret
  exact ⟨rfl, rfl⟩

set_option maxHeartbeats 400000 in
theorem err_nil (w : World) :
    Calls Try.prog 30 #[.pointer none] w fun e w' => e = .returned (.int .i64 0) ∧ w' = w := by
  go_enter Try.func30, Try.ntmps30
  go_wp2
  go_ret
  exact ⟨rfl, rfl⟩

set_option maxHeartbeats 400000 in
theorem err_at (b : Nat) (x : Int) (w : World) (hc : w.cell? ⟨b, 1, none⟩ = some (.int .i64 x)) :
    Calls Try.prog 30 #[.pointer (some ⟨b, 0, none⟩)] w fun e w' => e = .returned (.int .i64 x) ∧ w' = w := by
  go_enter Try.func30, Try.ntmps30
  go_wp2
  go_ret
  exact ⟨rfl, rfl⟩


/-- reading a number, byte by byte: at most so many more, what has been read -/
def rdN : List Int → Nat → Nat → Option (Nat × List Int)
  | _, 0, _ => none
  | [], _ + 1, _ => none
  | c :: r, k + 1, n => if 144115188075855871 < n then none else if c < 128 then some (n * 128 + (c % 128).toNat, r) else rdN r k (n * 128 + (c % 128).toNat)

/-- reading a number -/
def rdNum (bs : List Int) : Option (Nat × List Int) := if bs.head? = some 128 then none else rdN bs 10 0

def NumPost (A : Nat → Prop) (bs : List Int) (x : Int) (b : Nat) (w : World) (e : Ending) (w' : World) : Prop :=
  (rdNum bs = none ∧ e = .returned (.tuple #[.int .u64 0, .int .i64 4]) ∧ w' = w) ∨
  ∃ m rest, rdNum bs = some (m, rest) ∧ m < 18446744073709551616 ∧ e = .returned (.tuple #[.int .u64 (m : Nat), .int .i64 0]) ∧ Rd A w' b rest x ∧ w.grownBy w' (some b)

theorem drop_cons {bs : List Int} {i : Nat} (h : i < bs.length) : bs.drop i = bs.getD i 0 :: bs.drop (i + 1) := by
  rw [List.drop_eq_getElem_cons h]; simp [List.getD, h]

theorem or_low (m : Nat) (c0 : Int) (hm : m ≤ 144115188075855871) (h0 : 0 ≤ c0) (h1 : c0 < 128) : bits .or .u64 ((m : Int) * 128) c0 = (m : Int) * 128 + c0 := by
  obtain ⟨c, rfl⟩ := Int.eq_ofNat_of_zero_le h0
  have hc : c < 128 := by omega
  have h := u64_or_nat (m * 128) c (by omega) (by omega)
  rw [nat_join 7 (m * 128) c (by omega) (by omega)] at h
  simpa using h

set_option maxHeartbeats 1000000 in
set_option maxRecDepth 100000 in
theorem number_any (b : Nat) (bs : List Int) (x : Int) (w : World) (hr : Rd A w b bs x) :
    Calls Try.prog 42 #[.pointer (some ⟨b, 0, none⟩), .int .i64 10] w fun e w' => NumPost A bs x b w e w' := by
  have HR : Hid (Rd A w b bs x) := hr
  have hlt := hr.lt
  obtain ⟨p, cap, h0, h1, f0, f1, hlc, hm, hs, hb, hne⟩ := hr
  unfold maxLen at hm
  clear hne h1 f1
  cases bs with
  | nil =>
    go_enter Try.func42, Try.ntmps42
    go_wp2
    go_loopg [6, 7, 8, 31] 1 (fun _ _ _ _ s31 wr => s31 = .int .i64 0 ∧ wr = w)
    case atStart => exact ⟨rfl, rfl⟩
    case round =>
      obtain ⟨rfl, rfl⟩ := hrel
      go_wp2
      go_ret2
      exact Or.inl ⟨rfl, rfl, rfl⟩
  | cons c r =>
    obtain ⟨hby, hb⟩ := hb
    rcases hb with hb | ⟨pb, po, rfl, hcell⟩
    · cases hb
    have hc0 := hcell 0 (by simp)
    simp only [Nat.add_zero] at hc0
    have HB : Hid (∀ y ∈ c :: r, 0 ≤ y ∧ y < 256) := hby
    have HC : Hid (∀ i, i < (c :: r).length → w.cell? ⟨pb, po + i, none⟩ = some (.int .u8 ((c :: r).getD i 0))) := hcell
    have hcc : (c :: r).getD 0 0 = c := rfl
    rw [hcc] at hc0
    clear hcell hby hcc
    generalize hbs : c :: r = bs at *
    have HBS : Hid (c :: r = bs) := hbs
    have hpos : 0 < bs.length := by rw [← hbs]; simp
    clear hbs
    generalize hn : bs.length = n at *
    have HN : Hid (bs.length = n) := hn
    clear hn
    by_cases h128 : c = 128
    · subst h128
      go_enter Try.func42, Try.ntmps42
      go_wp2
      go_ret2
      exact Or.inl ⟨by rw [← HBS.out]; rfl, rfl, rfl⟩
    · have hne : (c == 128) = false := by simpa using h128
      go_enter Try.func42, Try.ntmps42
      have HQ : Hid (rdNum bs = rdN bs 10 0) := by
        show rdNum bs = _
        rw [← HBS.out, rdNum, if_neg]
        simpa using h128
      go_wp2
      all_goals
        go_loopg [6, 7, 8, 31] 11 (fun k s6 _ _ s31 wr => ∃ (i m : Nat), s6 = .int .u64 m ∧ s31 = .int .i64 i ∧ i ≤ 10 ∧ i ≤ n ∧ 10 - i < k ∧ m < 18446744073709551616 ∧ rdN (bs.drop i) (10 - i) m = rdN bs 10 0 ∧ wr = w)
        case atStart => exact ⟨0, 0, rfl, rfl, by omega, by omega, by omega, by omega, rfl, rfl⟩
        case round =>
          obtain ⟨i, m, rfl, rfl, hi10, hin, hk, hm64, heq, rfl⟩ := hrel
          have HE : Hid (rdN (bs.drop i) (10 - i) m = rdN bs 10 0) := heq
          clear heq
          by_cases hlt2 : i < 10 ∧ i < n
          · obtain ⟨hi9, hin2⟩ := hlt2
            have hci := HC.out i hin2
            have hd := drop_cons (bs := bs) (i := i) (by rw [HN.out]; exact hin2)
            have hcb := HB.out (bs.getD i 0) (by simp [List.getD, show i < bs.length by rw [HN.out]; exact hin2])
            have HD : Hid (bs.drop i = bs.getD i 0 :: bs.drop (i + 1)) := hd
            clear hd
            generalize hy : bs.getD i 0 = y at *
            clear hy
            have hfr : ∀ w, (Instr.slice 23 (.slice (some ⟨pb, po, none⟩) n cap) (some (.int .i64 ((i : Int) + 1))) none none).run Try.prog w = .ok (.slice (cutP (some ⟨pb, po, none⟩) (i + 1) cap) (n - (i + 1)) (cap - (i + 1))) w := fun w => w_run_from w (some ⟨pb, po, none⟩) n cap (i + 1) (by omega)
            have hstep : rdN (bs.drop i) (10 - i) m = if 144115188075855871 < m then none else if y < 128 then some (m * 128 + (y % 128).toNat, bs.drop (i + 1)) else rdN (bs.drop (i + 1)) (10 - (i + 1)) (m * 128 + (y % 128).toNat) := by
              rw [HD.out, show 10 - i = (10 - (i + 1)) + 1 by omega, rdN]
            have HS : Hid (rdN bs 10 0 = if 144115188075855871 < m then none else if y < 128 then some (m * 128 + (y % 128).toNat, bs.drop (i + 1)) else rdN (bs.drop (i + 1)) (10 - (i + 1)) (m * 128 + (y % 128).toNat)) := HE.out.symm.trans hstep
            clear hstep HE
            by_cases hbig : 144115188075855871 < m
            · go_wp2
              go_ret2
              exact Or.inl ⟨by rw [HQ.out, HS.out, if_pos hbig], rfl, rfl⟩
            · have hor := or_low m (y % 128) (by omega) (by omega) (by omega)
              by_cases hy : y < 128
              · go_wp2
                go_ret2
                have hst := HR.out.stored (i + 1) (by rw [HN.out]; omega) (some ⟨pb, po, none⟩) cap (by rw [HN.out]; exact h0)
                rw [HN.out] at hst
                refine Or.inr ⟨m * 128 + (y % 128).toNat, bs.drop (i + 1), by rw [HQ.out, HS.out, if_neg hbig, if_pos hy], by omega, ?_, hst.1, hst.2⟩
                exact ret2_u64 (by omega)
              · go_wp2
                go_roundg (10 - i)
                case measure => omega
                case rel =>
                  refine ⟨i + 1, m * 128 + (y % 128).toNat, ?_, by go_num, by omega, by omega, by omega, by omega, ?_, rfl⟩
                  · exact int_u64 (by omega)
                  · rw [HS.out, if_neg hbig, if_neg (by omega)]
          · go_wp2
            go_ret2
            refine Or.inl ⟨?_, rfl, rfl⟩
            rw [HQ.out, ← HE.out]
            by_cases e : i = 10
            · subst e; cases bs.drop 10 <;> rfl
            · have : bs.drop i = [] := List.drop_eq_nil_of_le (by rw [HN.out]; omega)
              rw [this, show 10 - i = (10 - (i + 1)) + 1 by omega]; rfl

/-- reading a text of at most so many bytes: the error's number where there is none -/
def rdTxt (most : Nat) (bs : List Int) : Except Int (List Int × List Int) :=
  match rdNum bs with
  | none => .error 4
  | some (m, rest) => if most < m then .error 3 else if rest.length < m then .error 4 else .ok (rest.take m, rest.drop m)

def TxtPost (A : Nat → Prop) (most : Nat) (bs : List Int) (x : Int) (b : Nat) (w : World) (e : Ending) (w' : World) : Prop :=
  (∃ er bs', rdTxt most bs = .error er ∧ (er = 3 ∨ er = 4) ∧ e = .returned (.tuple #[.slice none 0 0, .int .i64 er]) ∧ Rd A w' b bs' x ∧ w.grownBy w' (some b)) ∨
  (∃ tx rest v, rdTxt most bs = .ok (tx, rest) ∧ e = .returned (.tuple #[v, .int .i64 0]) ∧ w'.ownsRow w.heap.size 5 1 v tx.length (tx.map (Value.int .u8)) ∧ Rd A w' b rest x ∧ w.grownBy w' (some b))


set_option maxHeartbeats 1000000 in
set_option maxRecDepth 100000 in
theorem rnum_nil (w : World) :
    Calls Try.prog 29 #[.pointer none] w fun e w' => e = .returned (.int .u64 0) ∧ w' = w := by
  go_enter Try.func29, Try.ntmps29
  go_wp2
  go_ret
  exact ⟨rfl, rfl⟩

set_option maxHeartbeats 1000000 in
set_option maxRecDepth 100000 in
theorem rnum_ok (b : Nat) (bs : List Int) (w : World) (hr : Rd A w b bs 0) :
    Calls Try.prog 29 #[.pointer (some ⟨b, 0, none⟩)] w fun e w' => ∃ (m : Nat) (bs' : List Int) (x : Int), e = .returned (.int .u64 m) ∧ Rd A w' b bs' x ∧ w.grownBy w' (some b) ∧
      ((rdNum bs = none ∧ m = 0 ∧ bs' = bs ∧ x = 4) ∨ (rdNum bs = some (m, bs') ∧ x = 0 ∧ m < 18446744073709551616)) := by
  have HR := hide hr
  obtain ⟨p, cap, h0, h1, f0, f1, hlc, hm, hs, hb, hne⟩ := hr
  clear hb hne
  go_enter Try.func29, Try.ntmps29
  go_wp2_with (go_at_call 41; go_in)
  refine (number_any b bs 0 _ HR.out).mono ?_
  rintro e w1 (⟨hn, rfl, hw1⟩ | ⟨m, rest, hn, hm2, rfl, hrd, hg⟩)
  · subst hw1
    have HN := hide hn
    have HP := hide h0
    clear hn
    go_wp2
    go_ret
    have hst := HR.out.reset (grown_refl _ _) HR.out 4 p cap HP.out
    exact ⟨0, bs, 4, rfl, hst.1, hst.2, Or.inl ⟨HN.out, rfl, rfl, rfl⟩⟩
  · have HN := hide hn
    have HRD := hide hrd
    have HG := hide hg
    clear hn hrd hg
    go_wp2
    go_ret
    exact ⟨m, rest, 0, rfl, HRD.out, HG.out, Or.inr ⟨HN.out, rfl, hm2⟩⟩

set_option maxHeartbeats 1000000 in
set_option maxRecDepth 100000 in
theorem rnum_err (b : Nat) (x : Int) (w : World) (h1 : w.cell? ⟨b, 1, none⟩ = some (.int .i64 x)) (hx : x ≠ 0) :
    Calls Try.prog 29 #[.pointer (some ⟨b, 0, none⟩)] w fun e w' => e = .returned (.int .u64 0) ∧ w' = w := by
  have hx' : (x != 0) = true := by simpa using hx
  clear hx
  go_enter Try.func29, Try.ntmps29
  go_wp2
  go_ret
  exact ⟨rfl, rfl⟩





def TextOut (A : Nat → Prop) (most : Int) (bs : List Int) (b : Nat) (w : World) (e : Ending) (w' : World) : Prop :=
  (∃ er, rdTxt most.toNat bs = .error er ∧ (er = 3 ∨ er = 4) ∧ e = .returned (.slice none 0 0) ∧ Rd A w' b bs er ∧ w.grownBy w' (some b)) ∨
  (∃ tx rest v, rdTxt most.toNat bs = .ok (tx, rest) ∧ e = .returned v ∧ w'.ownsRow w.heap.size 5 1 v tx.length (tx.map (Value.int .u8)) ∧ Rd A w' b rest 0 ∧ w.grownBy w' (some b))


theorem numH_short (f : Nat) : ∀ m j, m < 128 ^ j → (numH f m).length ≤ j := by
  induction f with
  | zero => intro m j _; simp [numH]
  | succ f ih =>
    intro m j hm
    rw [numH]
    split
    · simp
    · rename_i h0
      cases j with
      | zero => simp at hm; omega
      | succ j =>
        have h1 : m / 128 < 128 ^ j := by rw [Nat.div_lt_iff_lt_mul (by omega), ← Nat.pow_succ]; exact hm
        have := ih (m / 128) j h1
        simp; omega

theorem numH_head (f : Nat) : ∀ m, m < 128 ^ f → m ≠ 0 → ∀ tail, ∃ c r, numH f m ++ tail = c :: r ∧ 128 < c := by
  induction f with
  | zero => intro m hm h0; simp at hm; omega
  | succ f ih =>
    intro m hm h0 tail
    rw [numH, if_neg h0]
    by_cases hq : m / 128 = 0
    · rw [hq]
      have e : numH f 0 = [] := by cases f <;> simp [numH]
      rw [e]
      refine ⟨((m % 128 + 128 : Nat) : Int), tail, by simp, ?_⟩
      omega
    · have h1 : m / 128 < 128 ^ f := by rw [Nat.div_lt_iff_lt_mul (by omega), ← Nat.pow_succ]; exact hm
      obtain ⟨c, r, e, hc⟩ := ih (m / 128) h1 hq ([((m % 128 + 128 : Nat) : Int)] ++ tail)
      exact ⟨c, r, by rw [List.append_assoc]; exact e, hc⟩

theorem rdN_numH (f : Nat) : ∀ m k tail, m < 128 ^ f → m ≤ 144115188075855871 → (numH f m).length ≤ k → rdN (numH f m ++ tail) k 0 = rdN tail (k - (numH f m).length) m := by
  induction f with
  | zero =>
    intro m k tail hm _ _
    have : m = 0 := by simp at hm; omega
    subst this
    simp [numH]
  | succ f ih =>
    intro m k tail hm hb hk
    by_cases h0 : m = 0
    · subst h0; simp [numH]
    · have hl : (numH (f + 1) m).length = (numH f (m / 128)).length + 1 := by rw [numH, if_neg h0]; simp
      have h1 : m / 128 < 128 ^ f := by rw [Nat.div_lt_iff_lt_mul (by omega), ← Nat.pow_succ]; exact hm
      rw [hl] at hk
      have e := ih (m / 128) k ([((m % 128 + 128 : Nat) : Int)] ++ tail) h1 (by omega) (by omega)
      rw [numH, if_neg h0, List.append_assoc, e]
      obtain ⟨j, hj⟩ : ∃ j, k - (numH f (m / 128)).length = j + 1 := ⟨k - (numH f (m / 128)).length - 1, by omega⟩
      rw [hj]
      show rdN (((m % 128 + 128 : Nat) : Int) :: tail) (j + 1) (m / 128) = _
      rw [rdN, if_neg (by omega), if_neg (by omega)]
      have e2 : m / 128 * 128 + (((m % 128 + 128 : Nat) : Int) % 128).toNat = m := by omega
      have e3 : k - (numH f (m / 128) ++ [((m % 128 + 128 : Nat) : Int)]).length = j := by simp; omega
      rw [e2, e3]

/-- what was put is read again, whatever stands behind it -/
theorem rdNum_numF (n : Nat) (hn : n < 18446744073709551616) (rest : List Int) : rdNum (numF n ++ rest) = some (n, rest) := by
  have hm : n / 128 ≤ 144115188075855871 := by omega
  have hm9 : n / 128 < 128 ^ 9 := by have : (128 : Nat) ^ 9 = 9223372036854775808 := by decide
                                     omega
  have hm10 : n / 128 < 128 ^ 10 := by have : (128 : Nat) ^ 10 = 1180591620717411303424 := by decide
                                       omega
  have hl := numH_short 10 (n / 128) 9 hm9
  have hd : ¬ ((numF n ++ rest).head? = some 128) := by
    by_cases h0 : n / 128 = 0
    · rw [numF, h0]
      have e : numH 10 0 = [] := by simp [numH]
      rw [e]
      simp; omega
    · obtain ⟨c, r, e, hc⟩ := numH_head 10 (n / 128) hm10 h0 ([((n % 128 : Nat) : Int)] ++ rest)
      rw [numF, List.append_assoc, e]
      simp; omega
  rw [rdNum, if_neg hd, numF, List.append_assoc, rdN_numH 10 (n / 128) 10 _ hm10 hm (by omega)]
  obtain ⟨j, hj⟩ : ∃ j, 10 - (numH 10 (n / 128)).length = j + 1 := ⟨9 - (numH 10 (n / 128)).length, by omega⟩
  rw [hj]
  show rdN (((n % 128 : Nat) : Int) :: rest) (j + 1) (n / 128) = _
  rw [rdN, if_neg (by omega), if_pos (by omega)]
  have e : n / 128 * 128 + (((n % 128 : Nat) : Int) % 128).toNat = n := by omega
  rw [e]

theorem numF_short (n : Nat) (hn : n < 18446744073709551616) : 1 ≤ (numF n).length ∧ (numF n).length ≤ 10 := by
  have hm9 : n / 128 < 128 ^ 9 := by have : (128 : Nat) ^ 9 = 9223372036854775808 := by decide
                                     omega
  have := numH_short 10 (n / 128) 9 hm9
  simp [numF]; omega

/-- no number's form is the beginning of another one's -/
theorem numF_apart {a b : Nat} (ha : a < 18446744073709551616) (hb : b < 18446744073709551616) {k : Nat} (h : (numF b).take k = numF a) : a = b := by
  have h1 := rdNum_numF a ha ((numF b).drop k)
  rw [← h, List.take_append_drop] at h1
  have h2 := rdNum_numF b hb []
  rw [List.append_nil, h1] at h2
  simp only [Option.some.injEq, Prod.mk.injEq] at h2
  exact h2.1

set_option maxHeartbeats 1000000 in
set_option maxRecDepth 100000 in
theorem rest_nil (w : World) :
    Calls Try.prog 32 #[.pointer none] w fun e w' => e = .returned (.slice none 0 0) ∧ w' = w := by
  go_enter Try.func32, Try.ntmps32
  go_wp2
  go_ret
  exact ⟨rfl, rfl⟩

set_option maxHeartbeats 1000000 in
set_option maxRecDepth 100000 in
theorem rest_err (b : Nat) (bs : List Int) (x : Int) (w : World) (hr : Rd A w b bs x) (hx : x ≠ 0) :
    Calls Try.prog 32 #[.pointer (some ⟨b, 0, none⟩)] w fun e w' => e = .returned (.slice none 0 0) ∧ w' = w := by
  have hx' : (x != 0) = true := by simpa using hx
  clear hx
  obtain ⟨p, cap, h0, h1, f0, f1, hlc, hm, hs, hb, hne⟩ := hr
  clear hb hne
  go_enter Try.func32, Try.ntmps32
  go_wp2
  go_ret
  exact ⟨rfl, rfl⟩

set_option maxHeartbeats 1000000 in
set_option maxRecDepth 100000 in
theorem rest_ok (b : Nat) (bs : List Int) (w : World) (hr : Rd A w b bs 0) :
    Calls Try.prog 32 #[.pointer (some ⟨b, 0, none⟩)] w fun e w' => ∃ v, e = .returned v ∧ w'.ownsRow w.heap.size 5 1 v bs.length (bs.map (Value.int .u8)) ∧ Rd A w' b [] 0 ∧ w.grownBy w' (some b) := by
  have HR := hide hr
  obtain ⟨p, cap, h0, h1, f0, f1, hlc, hm, hs, hb, hne⟩ := hr
  clear hb hne
  have hc := cut_in b bs 0 bs.length w HR.out (Nat.le_refl _)
  rw [List.take_length, List.drop_length] at hc
  have HC := hide hc
  clear hc
  go_enter Try.func32, Try.ntmps32
  go_wp2_with (first | (go_at_call 31; go_in) | (go_at_call 43; go_in))
  refine (show Calls _ _ _ _ _ from HC.out).mono ?_
  rintro e w1 ⟨v, rfl, hown, hrd, hg⟩
  have HO := hide hown
  have HRD := hide hrd
  have HG := hide hg
  clear hown hrd hg
  go_wp2
  go_ret
  exact ⟨v, rfl, HO.out, HRD.out, HG.out⟩

def txtF (xs : List Int) : List Int := numF xs.length ++ xs

theorem txtF_bytes {xs : List Int} (h : ∀ x ∈ xs, 0 ≤ x ∧ x < 256) : ∀ x ∈ txtF xs, 0 ≤ x ∧ x < 256 := by
  intro x hx
  rcases List.mem_append.1 hx with h1 | h1
  · exact numF_bytes _ x h1
  · exact h x h1


theorem numH_fuel (f : Nat) : ∀ g m, f ≤ g → m < 128 ^ f → numH g m = numH f m := by
  induction f with
  | zero =>
    intro g m _ hm
    have : m = 0 := by simp at hm; omega
    subst this
    cases g <;> simp [numH]
  | succ f ih =>
    intro g m hg hm
    obtain ⟨g, rfl⟩ : ∃ h, g = h + 1 := ⟨g - 1, by omega⟩
    by_cases h0 : m = 0
    · subst h0; simp [numH]
    · have h1 : m / 128 < 128 ^ f := by rw [Nat.div_lt_iff_lt_mul (by omega), ← Nat.pow_succ]; exact hm
      rw [numH, if_neg h0, numH, if_neg h0, ih g (m / 128) (by omega) h1]

theorem rdN_form : ∀ (bs : List Int) (k n : Nat) (m : Nat) (rest : List Int), (∀ c ∈ bs, 0 ≤ c ∧ c < 256) → (n = 0 → ¬ bs.head? = some 128) → rdN bs k n = some (m, rest) → numF m ++ rest = numH 10 n ++ bs
  | [], k, n, m, rest, _, _, h => by cases k <;> simp [rdN] at h
  | _ :: _, 0, n, m, rest, _, _, h => by simp [rdN] at h
  | c :: r, k + 1, n, m, rest, hb, h0, h => by
    have hc := hb c (by simp)
    rw [rdN] at h
    by_cases hbig : 144115188075855871 < n
    · rw [if_pos hbig] at h; cases h
    · rw [if_neg hbig] at h
      by_cases hlt : c < 128
      · rw [if_pos hlt] at h
        simp only [Option.some.injEq, Prod.mk.injEq] at h
        obtain ⟨rfl, rfl⟩ := h
        have e1 : (n * 128 + (c % 128).toNat) / 128 = n := by omega
        have e2 : (((n * 128 + (c % 128).toNat) % 128 : Nat) : Int) = c := by omega
        rw [numF, e1, e2]; simp
      · rw [if_neg hlt] at h
        have hn' : ¬ (n * 128 + (c % 128).toNat = 0) := by
          intro e
          have : n = 0 := by omega
          apply h0 this
          simp; omega
        have ih := rdN_form r k (n * 128 + (c % 128).toNat) m rest (fun x hx => hb x (List.mem_cons_of_mem _ hx)) (fun e => absurd e hn') h
        have e1 : (n * 128 + (c % 128).toNat) / 128 = n := by omega
        have e2 : (((n * 128 + (c % 128).toNat) % 128 + 128 : Nat) : Int) = c := by omega
        have p9 : (128 : Nat) ^ 9 = 9223372036854775808 := by decide
        have e3 : numH 10 (n * 128 + (c % 128).toNat) = numH 10 n ++ [c] := by
          rw [show (10 : Nat) = 9 + 1 from rfl, numH, if_neg hn', e1, e2, numH_fuel 9 (9 + 1) n (by omega) (by omega)]
        rw [ih, e3]; simp

theorem rdNum_form {bs : List Int} {m : Nat} {rest : List Int} (hb : ∀ c ∈ bs, 0 ≤ c ∧ c < 256) (h : rdNum bs = some (m, rest)) : numF m ++ rest = bs := by
  rw [rdNum] at h
  by_cases h1 : bs.head? = some 128
  · rw [if_pos h1] at h; cases h
  · rw [if_neg h1] at h
    have := rdN_form bs 10 0 m rest hb (fun _ => h1) h
    rw [this]
    have e : numH 10 0 = [] := by simp [numH]
    rw [e]; rfl

theorem rdTxt_form {bs : List Int} {most : Nat} {tx rest : List Int} (hb : ∀ c ∈ bs, 0 ≤ c ∧ c < 256) (h : rdTxt most bs = .ok (tx, rest)) : txtF tx ++ rest = bs ∧ tx.length ≤ most := by
  rw [rdTxt] at h
  split at h
  · cases h
  · rename_i m r1 hm
    by_cases h1 : most < m
    · rw [if_pos h1] at h; cases h
    · rw [if_neg h1] at h
      by_cases h2 : r1.length < m
      · rw [if_pos h2] at h; cases h
      · rw [if_neg h2] at h
        simp only [Except.ok.injEq, Prod.mk.injEq] at h
        obtain ⟨rfl, rfl⟩ := h
        have e : (r1.take m).length = m := by simp; omega
        refine ⟨?_, by omega⟩
        rw [txtF, e, List.append_assoc, List.take_append_drop]
        exact rdNum_form hb hm

theorem rdNum_shorter {bs : List Int} {m : Nat} {rest : List Int} (hb : ∀ c ∈ bs, 0 ≤ c ∧ c < 256) (h : rdNum bs = some (m, rest)) : rest.length ≤ bs.length ∧ bs.take (bs.length - rest.length) = numF m := by
  have h1 := rdNum_form hb h
  rw [← h1]
  simp

theorem rdTxt_shorter {bs : List Int} {most : Nat} {tx rest : List Int} (hb : ∀ c ∈ bs, 0 ≤ c ∧ c < 256) (h : rdTxt most bs = .ok (tx, rest)) : rest.length ≤ bs.length ∧ bs.take (bs.length - rest.length) = txtF tx := by
  have h1 := (rdTxt_form hb h).1
  rw [← h1]
  simp

/-- Open, and that the copy lies in new memory -/
def Far (w : World) (b L : Nat) : Prop := ∀ p n c a, w.cell? ⟨b, 0, none⟩ = some (.slice p n c) → p = some a → L ≤ a.block

/-- another reader's work leaves a reader as it was -/
theorem Rd.other {w w' : World} {b b1 : Nat} {bs : List Int} {x : Int} (h : Rd A w b bs x) (hg : w.grownBy w' (some b1)) (hne : b1 ≠ b) (hf : Far w b (b1 + 1)) : Rd A w' b bs x := by
  have hlt := h.lt
  obtain ⟨p, cap, h0, h1, f0, f1, hl, hm, hs, hb, hn⟩ := h
  have hk : some b ≠ some b1 := fun e => hne (by simpa using e.symm)
  have hblk := hg.block b hlt hk
  refine ⟨p, cap, (World.cell?_of_block (w := w) hblk).trans h0, (World.cell?_of_block (w := w) hblk).trans h1, (World.frozen?_of_block (w := w) hblk).trans f0, (World.frozen?_of_block (w := w) hblk).trans f1, hl, hm, hs, bytes_kept hb hg ?_, hn⟩
  intro a ha e
  have := hf p _ _ a h0 ha
  simp at e
  omega

/-- whoever writes elsewhere leaves a reader as it was -/
theorem Rd.apart {w w' : World} {b b1 : Nat} {bs : List Int} {x : Int} (h : Rd A w b bs x) (hg : w.grownBy w' (some b1)) (hne : b1 ≠ b) (hA : ∀ k, A k → k ≠ b1) : Rd A w' b bs x := by
  have hlt := h.lt
  obtain ⟨p, cap, h0, h1, f0, f1, hl, hm, hs, hb, hn⟩ := h
  have hk : some b ≠ some b1 := fun e => hne (by simpa using e.symm)
  have hblk := hg.block b hlt hk
  refine ⟨p, cap, (World.cell?_of_block (w := w) hblk).trans h0, (World.cell?_of_block (w := w) hblk).trans h1, (World.frozen?_of_block (w := w) hblk).trans f0, (World.frozen?_of_block (w := w) hblk).trans f1, hl, hm, hs, bytes_kept hb hg ?_, hn⟩
  intro a ha e
  simp at e
  exact hA _ (hn a ha).1 e

def sNum (bs : List Int) (x : Int) : Nat × List Int × Int :=
  if x = 0 then match rdNum bs with
    | none => (0, bs, 4)
    | some (m, r) => (m, r, 0)
  else (0, bs, x)

def sTxt (most : Int) (bs : List Int) (x : Int) : List Int × List Int × Int :=
  if x = 0 then match rdTxt most.toNat bs with
    | .error e => ([], bs, e)
    | .ok (t, r) => (t, r, 0)
  else ([], bs, x)

def sRest (bs : List Int) (x : Int) : List Int × List Int × Int := if x = 0 then (bs, [], 0) else ([], bs, x)

theorem rnum_any (b : Nat) (bs : List Int) (x : Int) (w : World) (hr : Rd A w b bs x) :
    Calls Try.prog 29 #[.pointer (some ⟨b, 0, none⟩)] w fun e w' => e = .returned (.int .u64 ((sNum bs x).1 : Nat)) ∧ Rd A w' b (sNum bs x).2.1 (sNum bs x).2.2 ∧ w.grownBy w' (some b) := by
  by_cases hx : x = 0
  · subst hx
    refine (rnum_ok b bs w hr).mono ?_
    rintro e w' ⟨m, bs', x, rfl, hrd, hg, ⟨hn, rfl, rfl, rfl⟩ | ⟨hn, rfl, _⟩⟩
    · have e1 : sNum bs' 0 = (0, bs', 4) := by rw [sNum, if_pos rfl, hn]
      rw [e1]; exact ⟨rfl, hrd, hg⟩
    · have e1 : sNum bs 0 = (m, bs', 0) := by rw [sNum, if_pos rfl, hn]
      rw [e1]; exact ⟨rfl, hrd, hg⟩
  · have e1 : sNum bs x = (0, bs, x) := by rw [sNum, if_neg hx]
    rw [e1]
    obtain ⟨p, cap, _, h1, _⟩ := id hr
    refine (rnum_err b x w h1 hx).mono ?_
    rintro e w' ⟨rfl, rfl⟩
    exact ⟨rfl, hr, grown_refl _ _⟩



theorem rest_any (b : Nat) (bs : List Int) (x : Int) (w : World) (hr : Rd A w b bs x) :
    Calls Try.prog 32 #[.pointer (some ⟨b, 0, none⟩)] w fun e w' => ∃ v, e = .returned v ∧ w'.ownsRow w.heap.size 5 1 v (sRest bs x).1.length ((sRest bs x).1.map (Value.int .u8)) ∧ Rd A w' b (sRest bs x).2.1 (sRest bs x).2.2 ∧ w.grownBy w' (some b) := by
  by_cases hx : x = 0
  · subst hx
    have e1 : sRest bs 0 = (bs, [], 0) := by rw [sRest, if_pos rfl]
    rw [e1]
    exact rest_ok b bs w hr
  · have e1 : sRest bs x = ([], bs, x) := by rw [sRest, if_neg hx]
    rw [e1]
    refine (rest_err b bs x w hr hx).mono ?_
    rintro e w' ⟨rfl, rfl⟩
    exact ⟨_, rfl, World.ownsRow_nil _ _ _ _, hr, grown_refl _ _⟩

theorem err_rd (b : Nat) (bs : List Int) (x : Int) (w : World) (hr : Rd A w b bs x) :
    Calls Try.prog 30 #[.pointer (some ⟨b, 0, none⟩)] w fun e w' => e = .returned (.int .i64 x) ∧ w' = w := by
  obtain ⟨p, cap, _, h1, _⟩ := hr
  exact err_at b x w h1

theorem left_rd (b : Nat) (bs : List Int) (x : Int) (w : World) (hr : Rd A w b bs x) :
    Calls Try.prog 31 #[.pointer (some ⟨b, 0, none⟩)] w fun e w' => e = .returned (.int .i64 bs.length) ∧ w' = w := by
  obtain ⟨p, cap, h0, _⟩ := hr
  exact left_at b p _ cap w h0

theorem Rd.bytes {w : World} {b : Nat} {bs : List Int} {x : Int} (h : Rd A w b bs x) : ∀ c ∈ bs, 0 ≤ c ∧ c < 256 := by
  obtain ⟨p, cap, _, _, _, _, _, _, _, hb, _⟩ := h
  exact hb.1

theorem rdN_high : ∀ (bs : List Int) (k n : Nat), (∀ c ∈ bs, 128 ≤ c) → rdN bs k n = none
  | [], k, n, _ => by cases k <;> rfl
  | _ :: _, 0, n, _ => rfl
  | c :: r, k + 1, n, h => by
    have hc := h c (by simp)
    rw [rdN]
    by_cases hb : 144115188075855871 < n
    · rw [if_pos hb]
    · rw [if_neg hb, if_neg (by omega)]
      exact rdN_high r k _ (fun x hx => h x (List.mem_cons_of_mem _ hx))

/-- a number's form that is cut is none -/
theorem rdNum_cut (n c : Nat) (hc : c < (numF n).length) : rdNum ((numF n).take c) = none := by
  have e : (numF n).take c = (numH 10 (n / 128)).take c := by
    rw [numF, List.take_append_of_le_length]
    simp [numF] at hc; omega
  rw [e, rdNum]
  split
  · rfl
  · exact rdN_high _ _ _ (fun x hx => (numH_bytes 10 (n / 128) x (List.mem_of_mem_take hx)).1)

theorem sNum_form (n : Nat) (hn : n < 18446744073709551616) (r : List Int) : sNum (numF n ++ r) 0 = (n, r, 0) := by
  rw [sNum, if_pos rfl, rdNum_numF n hn]

theorem sFix_form (m : Nat) (hm : m < 18446744073709551616) (r : List Int) : sFix 8 (fixF 8 m ++ r) 0 = (m, r, 0) := by
  have hl := fixF_length 8 m
  rw [sFix, if_pos rfl, if_pos ⟨by decide, by decide, by rw [List.length_append, hl]; omega⟩]
  have e : (8 : Int).toNat = 8 := rfl
  rw [e, List.take_append_of_le_length (by omega), List.drop_append_of_le_length (by omega), List.drop_of_length_le (by omega)]
  have e2 : valF ((fixF 8 m).take 8) = m := by
    rw [List.take_of_length_le (by omega), valF]
    have key : ∀ (s n a : Nat), (fixF s n).foldl (fun a c => a * 256 + c.toNat) a = a * 256 ^ s + n % 256 ^ s := by
      intro s n
      induction s with
      | zero => intro a; simp [fixF, Nat.mod_one]
      | succ s ih =>
        intro a
        rw [fixF, List.foldl_cons, ih, Nat.mod_pow_succ, Nat.pow_succ]
        simp only [Int.toNat_natCast]
        rw [Nat.add_mul, Nat.mul_assoc, Nat.mul_comm 256 (256 ^ s), Nat.mul_comm (n / 256 ^ s % 256)]
        omega
    rw [key]
    have : (256 : Nat) ^ 8 = 18446744073709551616 := by decide
    omega
  rw [e2]; simp

theorem rdTxt_txtF (s r : List Int) (hs : s.length < 18446744073709551616) : rdTxt s.length (txtF s ++ r) = .ok (s, r) := by
  rw [txtF, List.append_assoc, rdTxt, rdNum_numF _ hs]
  simp

theorem sTxt_form (s r : List Int) (hs : s.length < 18446744073709551616) : sTxt (s.length : Int) (txtF s ++ r) 0 = (s, r, 0) := by
  rw [sTxt, if_pos rfl, Int.toNat_natCast, rdTxt_txtF s r hs]

end Go.Proofs.Ytecpnnnkkofejaa
