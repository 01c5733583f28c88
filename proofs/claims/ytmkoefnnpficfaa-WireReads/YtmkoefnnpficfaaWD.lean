/-
  Walks: a reader's step 'number': what it reads, and where it stands then, whatever the bytes.
-/
import Derived.Test.YtmkoefnnpficfaaWC
namespace Go.Proofs.Ytmkoefnnpficfaa
open Go.RowKit
variable {A : Nat → Prop}

/-- reading a number, byte by byte: at most so many more, what has been read -/
def rdN : List Int → Nat → Nat → Option (Nat × List Int)
  | _, 0, _ => none
  | [], _ + 1, _ => none
  | c :: r, k + 1, n => if 144115188075855871 < n then none else if c < 128 then some (n * 128 + (c % 128).toNat, r) else rdN r k (n * 128 + (c % 128).toNat)

/-- reading a number -/
def rdNum (bs : List Int) : Option (Nat × List Int) := if bs.head? = some 128 then none else rdN bs 10 0

def NumPost (A : Nat → Prop) (bs : List Int) (x : Int) (b : Nat) (w : World) (e : Ending) (w' : World) : Prop :=
  (rdNum bs = none ∧ e = .returned (.tuple #[.int .u64 0, .int .i64 4]) ∧ w' = w) ∨
  ∃ m rest, rdNum bs = some (m, rest) ∧ m < 18446744073709551616 ∧ e = .returned (.tuple #[.int .u64 (m : Nat), .int .i64 0]) ∧ Rd A w' b rest x ∧ w.grownBy w' (some b)

theorem drop_cons {bs : List Int} {i : Nat} (h : i < bs.length) : bs.drop i = bs.getD i 0 :: bs.drop (i + 1) := by
  rw [List.drop_eq_getElem_cons h]; simp [List.getD, h]

theorem ret2_u64 {a b : Int} {v : Value} (h : a = b) : Ending.returned (.tuple #[.int .u64 a, v]) = .returned (.tuple #[.int .u64 b, v]) := by rw [h]
theorem int_u64 {a b : Int} (h : a = b) : Value.int .u64 a = .int .u64 b := by rw [h]

theorem or_low (m : Nat) (c0 : Int) (hm : m ≤ 144115188075855871) (h0 : 0 ≤ c0) (h1 : c0 < 128) : bits .or .u64 ((m : Int) * 128) c0 = (m : Int) * 128 + c0 := by
  obtain ⟨c, rfl⟩ := Int.eq_ofNat_of_zero_le h0
  have hc : c < 128 := by omega
  have h := u64_or_nat (m * 128) c (by omega) (by omega)
  rw [nat_join 7 (m * 128) c (by omega) (by omega)] at h
  simpa using h

set_option maxHeartbeats 1000000 in
set_option maxRecDepth 100000 in
theorem number_any (b : Nat) (bs : List Int) (x : Int) (w : World) (hr : Rd A w b bs x) :
    Calls Try.prog 33 #[.pointer (some ⟨b, 0, none⟩), .int .i64 10] w fun e w' => NumPost A bs x b w e w' := by
  have HR : Hid (Rd A w b bs x) := hr
  have hlt := hr.lt
  obtain ⟨p, cap, h0, h1, f0, f1, hlc, hm, hs, hb, hne⟩ := hr
  unfold maxLen at hm
  clear hne h1 f1
  cases bs with
  | nil =>
    go_enter Try.func33, Try.ntmps33
    go_wp2
    go_loopg [6, 7, 8, 31] 1 (fun _ _ _ _ s31 wr => s31 = .int .i64 0 ∧ wr = w)
    case atStart => exact ⟨rfl, rfl⟩
    case round =>
      obtain ⟨rfl, rfl⟩ := hrel
      go_wp2
      go_ret2
      exact Or.inl ⟨rfl, rfl, rfl⟩
  | cons c r =>
    obtain ⟨hby, hb⟩ := hb
    rcases hb with hb | ⟨pb, po, rfl, hcell⟩
    · cases hb
    have hc0 := hcell 0 (by simp)
    simp only [Nat.add_zero] at hc0
    have HB : Hid (∀ y ∈ c :: r, 0 ≤ y ∧ y < 256) := hby
    have HC : Hid (∀ i, i < (c :: r).length → w.cell? ⟨pb, po + i, none⟩ = some (.int .u8 ((c :: r).getD i 0))) := hcell
    have hcc : (c :: r).getD 0 0 = c := rfl
    rw [hcc] at hc0
    clear hcell hby hcc
    generalize hbs : c :: r = bs at *
    have HBS : Hid (c :: r = bs) := hbs
    have hpos : 0 < bs.length := by rw [← hbs]; simp
    clear hbs
    generalize hn : bs.length = n at *
    have HN : Hid (bs.length = n) := hn
    clear hn
    by_cases h128 : c = 128
    · subst h128
      go_enter Try.func33, Try.ntmps33
      go_wp2
      go_ret2
      exact Or.inl ⟨by rw [← HBS.out]; rfl, rfl, rfl⟩
    · have hne : (c == 128) = false := by simpa using h128
      go_enter Try.func33, Try.ntmps33
      have HQ : Hid (rdNum bs = rdN bs 10 0) := by
        show rdNum bs = _
        rw [← HBS.out, rdNum, if_neg]
        simpa using h128
      go_wp2
      all_goals
        go_loopg [6, 7, 8, 31] 11 (fun k s6 _ _ s31 wr => ∃ (i m : Nat), s6 = .int .u64 m ∧ s31 = .int .i64 i ∧ i ≤ 10 ∧ i ≤ n ∧ 10 - i < k ∧ m < 18446744073709551616 ∧ rdN (bs.drop i) (10 - i) m = rdN bs 10 0 ∧ wr = w)
        case atStart => exact ⟨0, 0, rfl, rfl, by omega, by omega, by omega, by omega, rfl, rfl⟩
        case round =>
          obtain ⟨i, m, rfl, rfl, hi10, hin, hk, hm64, heq, rfl⟩ := hrel
          have HE : Hid (rdN (bs.drop i) (10 - i) m = rdN bs 10 0) := heq
          clear heq
          by_cases hlt2 : i < 10 ∧ i < n
          · obtain ⟨hi9, hin2⟩ := hlt2
            have hci := HC.out i hin2
            have hd := drop_cons (bs := bs) (i := i) (by rw [HN.out]; exact hin2)
            have hcb := HB.out (bs.getD i 0) (by simp [List.getD, show i < bs.length by rw [HN.out]; exact hin2])
            have HD : Hid (bs.drop i = bs.getD i 0 :: bs.drop (i + 1)) := hd
            clear hd
            generalize hy : bs.getD i 0 = y at *
            clear hy
            have hfr : ∀ w, (Instr.slice 23 (.slice (some ⟨pb, po, none⟩) n cap) (some (.int .i64 ((i : Int) + 1))) none none).run Try.prog w = .ok (.slice (cutP (some ⟨pb, po, none⟩) (i + 1) cap) (n - (i + 1)) (cap - (i + 1))) w := fun w => run_from w (some ⟨pb, po, none⟩) n cap (i + 1) (by omega)
            have hstep : rdN (bs.drop i) (10 - i) m = if 144115188075855871 < m then none else if y < 128 then some (m * 128 + (y % 128).toNat, bs.drop (i + 1)) else rdN (bs.drop (i + 1)) (10 - (i + 1)) (m * 128 + (y % 128).toNat) := by
              rw [HD.out, show 10 - i = (10 - (i + 1)) + 1 by omega, rdN]
            have HS : Hid (rdN bs 10 0 = if 144115188075855871 < m then none else if y < 128 then some (m * 128 + (y % 128).toNat, bs.drop (i + 1)) else rdN (bs.drop (i + 1)) (10 - (i + 1)) (m * 128 + (y % 128).toNat)) := HE.out.symm.trans hstep
            clear hstep HE
            by_cases hbig : 144115188075855871 < m
            · go_wp2
              go_ret2
              exact Or.inl ⟨by rw [HQ.out, HS.out, if_pos hbig], rfl, rfl⟩
            · have hor := or_low m (y % 128) (by omega) (by omega) (by omega)
              by_cases hy : y < 128
              · go_wp2
                go_ret2
                have hst := HR.out.stored (i + 1) (by rw [HN.out]; omega) (some ⟨pb, po, none⟩) cap (by rw [HN.out]; exact h0)
                rw [HN.out] at hst
                refine Or.inr ⟨m * 128 + (y % 128).toNat, bs.drop (i + 1), by rw [HQ.out, HS.out, if_neg hbig, if_pos hy], by omega, ?_, hst.1, hst.2⟩
                exact ret2_u64 (by omega)
              · go_wp2
                go_roundg (10 - i)
                case measure => omega
                case rel =>
                  refine ⟨i + 1, m * 128 + (y % 128).toNat, ?_, by go_num, by omega, by omega, by omega, by omega, ?_, rfl⟩
                  · exact int_u64 (by omega)
                  · rw [HS.out, if_neg hbig, if_neg (by omega)]
          · go_wp2
            go_ret2
            refine Or.inl ⟨?_, rfl, rfl⟩
            rw [HQ.out, ← HE.out]
            by_cases e : i = 10
            · subst e; cases bs.drop 10 <;> rfl
            · have : bs.drop i = [] := List.drop_eq_nil_of_le (by rw [HN.out]; omega)
              rw [this, show 10 - i = (10 - (i + 1)) + 1 by omega]; rfl

end Go.Proofs.Ytmkoefnnpficfaa
