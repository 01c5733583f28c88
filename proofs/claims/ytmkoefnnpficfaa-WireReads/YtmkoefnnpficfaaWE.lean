/-
  Walks: a reader's steps 'fixed' and 'text': what they read, and where the reader stands then.
-/
import Derived.Test.YtmkoefnnpficfaaWD
namespace Go.Proofs.Ytmkoefnnpficfaa
open Go.RowKit
variable {A : Nat → Prop}

theorem hide {p : Prop} (h : p) : Hid p := h

/-- the number that bytes are, the highest first -/
def valF (bs : List Int) : Nat := bs.foldl (fun a c => a * 256 + c.toNat) 0

theorem valF_snoc (bs : List Int) (c : Int) : valF (bs ++ [c]) = valF bs * 256 + c.toNat := by simp [valF]

theorem valF_take {bs : List Int} {i : Nat} (h : i < bs.length) : valF (bs.take (i + 1)) = valF (bs.take i) * 256 + (bs.getD i 0).toNat := by
  rw [List.take_succ_eq_append_getElem h, valF_snoc]
  simp [List.getD, h]

theorem valF_lt {bs : List Int} (hb : ∀ x ∈ bs, 0 ≤ x ∧ x < 256) : ∀ i, i ≤ bs.length → valF (bs.take i) < 256 ^ i := by
  intro i
  induction i with
  | zero => intro _; simp [valF]
  | succ i ih =>
    intro hi
    have h1 := ih (by omega)
    have h2 := hb (bs.getD i 0) (by simp [List.getD, show i < bs.length by omega])
    rw [valF_take (by omega), Nat.pow_succ]
    omega

theorem or_low8 (m : Nat) (c0 : Int) (hm : m < 72057594037927936) (h0 : 0 ≤ c0) (h1 : c0 < 256) : bits .or .u64 ((m : Int) * 256) c0 = (m : Int) * 256 + c0 := by
  obtain ⟨c, rfl⟩ := Int.eq_ofNat_of_zero_le h0
  have hc : c < 256 := by omega
  have h := u64_or_nat (m * 256) c (by omega) (by omega)
  rw [nat_join 8 (m * 256) c (by omega) (by omega)] at h
  simpa using h

def FixPost (A : Nat → Prop) (bs : List Int) (s : Int) (x : Int) (b : Nat) (w : World) (e : Ending) (w' : World) : Prop :=
  (¬ (1 ≤ s ∧ s ≤ 8 ∧ s ≤ bs.length) ∧ e = .returned (.tuple #[.int .u64 0, .int .i64 4]) ∧ w' = w) ∨
  (1 ≤ s ∧ s ≤ 8 ∧ s ≤ bs.length ∧ e = .returned (.tuple #[.int .u64 (valF (bs.take s.toNat) : Nat), .int .i64 0]) ∧ Rd A w' b (bs.drop s.toNat) x ∧ w.grownBy w' (some b))

set_option maxHeartbeats 1000000 in
set_option maxRecDepth 100000 in
theorem fixedR_any (b : Nat) (bs : List Int) (s : Int) (x : Int) (w : World) (hr : Rd A w b bs x) :
    Calls Try.prog 35 #[.pointer (some ⟨b, 0, none⟩), .int .i64 s] w fun e w' => FixPost A bs s x b w e w' := by
  have HR : Hid (Rd A w b bs x) := hr
  have hbig : bs.length ≤ 140737488355328 := by obtain ⟨p, cap, _, _, _, _, _, _, h, _⟩ := hr; exact h
  have hby : Hid (∀ y ∈ bs, 0 ≤ y ∧ y < 256) := by obtain ⟨p, cap, _, _, _, _, _, _, _, h, _⟩ := hr; exact h.1
  clear hr
  by_cases hs : 1 ≤ s ∧ s ≤ 8
  · have hok : decide (1 ≤ s ∧ s ≤ 8) = true := by simpa using hs
    obtain ⟨hs1, hs8⟩ := hs
    by_cases hlen : s ≤ bs.length
    · obtain ⟨l, rfl⟩ := Int.eq_ofNat_of_zero_le (show 0 ≤ s by omega)
      go_enter Try.func35, Try.ntmps35
      go_wp2_with fail
      refine (isFixed_any _ _).mono ?_
      rintro e w1 ⟨rfl, hw1⟩
      subst hw1
      rw [hok]
      clear hok
      go_wp2_with fail
      refine (cut_in b bs x l _ HR.out (by omega)).mono ?_
      rintro e w2 ⟨v, rfl, hown, hrd, hg⟩
      obtain ⟨g, cap, rfl, hBg, hgs, hnc, hcm⟩ := own_shape hown (by omega)
      have HO := hide hown
      have HRD := hide hrd
      have HG := hide hg
      clear hown hrd hg
      have htl : Hid ((bs.take l).length = l) := by show (bs.take l).length = l; simp; omega
      go_wp2
      go_loopg [8, 10, 22] 9 (fun k s8 _ s22 wr => ∃ (i : Nat), s8 = .int .u64 (valF ((bs.take l).take i) : Nat) ∧ s22 = .int .i64 i ∧ i ≤ l ∧ l - i < k ∧ wr = w2)
      case atStart => exact ⟨0, rfl, rfl, by omega, by omega, rfl⟩
      case round =>
        obtain ⟨i, rfl, rfl, hil, hk, rfl⟩ := hrel
        have hby2 : ∀ y ∈ bs.take l, 0 ≤ y ∧ y < 256 := fun y hy => hby.out y (List.mem_of_mem_take hy)
        by_cases hlt : i < l
        · have hci := (HO.out.cellAt i (by omega)).trans (map_at_u8 (by rw [htl.out]; exact hlt))
          have hv := valF_lt hby2 i (by rw [htl.out]; omega)
          have hp : (256 : Nat) ^ i ≤ 256 ^ 7 := Nat.pow_le_pow_right (by omega) (by omega)
          have hv7 : valF ((bs.take l).take i) < 72057594037927936 := Nat.lt_of_lt_of_le hv hp
          have HV : Hid (valF ((bs.take l).take (i + 1)) = valF ((bs.take l).take i) * 256 + ((bs.take l).getD i 0).toNat) := valF_take (by rw [htl.out]; exact hlt)
          have hyb := hby2 ((bs.take l).getD i 0) (by rw [List.getD_eq_getElem?_getD, List.getElem?_eq_getElem (by rw [htl.out]; exact hlt)]; exact List.getElem_mem _)
          clear hp hv hby2
          generalize hm : valF ((bs.take l).take i) = m at *
          generalize hy : (bs.take l).getD i 0 = y at *
          clear hm hy
          have hor := or_low8 m y hv7 hyb.1 hyb.2
          go_wp2
          go_roundg (l - i)
          case measure => omega
          case rel => exact ⟨i + 1, int_u64 (by rw [HV.out]; omega), by go_num, by omega, by omega, rfl⟩
        · have e : i = l := by omega
          subst e
          go_wp2
          go_ret2
          refine Or.inr ⟨hs1, hs8, hlen, ?_, HRD.out, HG.out⟩
          rw [Int.toNat_natCast]
          exact ret2_u64 (by rw [List.take_take, Nat.min_self])
    · go_enter Try.func35, Try.ntmps35
      go_wp2_with fail
      refine (isFixed_any _ _).mono ?_
      rintro e w1 ⟨rfl, hw1⟩
      subst hw1
      rw [hok]
      clear hok
      go_wp2_with fail
      refine (cut_out b bs x s _ HR.out (by omega)).mono ?_
      rintro e w2 ⟨rfl, hw2⟩
      subst hw2
      go_wp2
      go_loopg [8, 10, 22] 9 (fun _ s8 _ s22 wr => s8 = .int .u64 0 ∧ s22 = .int .i64 0 ∧ wr = w2)
      case atStart => exact ⟨rfl, rfl, rfl⟩
      case round =>
        obtain ⟨rfl, rfl, rfl⟩ := hrel
        go_wp2
        go_ret2
        exact Or.inl ⟨by omega, rfl, rfl⟩
  · have hok : decide (1 ≤ s ∧ s ≤ 8) = false := by simpa using hs
    go_enter Try.func35, Try.ntmps35
    go_wp2_with fail
    refine (isFixed_any _ _).mono ?_
    rintro e w1 ⟨rfl, hw1⟩
    subst hw1
    rw [hok]
    clear hok
    go_wp2
    go_ret2
    exact Or.inl ⟨by omega, rfl, rfl⟩

end Go.Proofs.Ytmkoefnnpficfaa
