/-
  A reader's calls as plain functions on what is left and the error: Num, Fixed, Text, Rest, whatever the reader's state; a form that is cut is ErrBytes.
-/
import Derived.Test.YtmkoefnnpficfaaWP
namespace Go.Proofs.Ytmkoefnnpficfaa
open Go.RowKit
variable {A : Nat → Prop}

def sNum (bs : List Int) (x : Int) : Nat × List Int × Int :=
  if x = 0 then match rdNum bs with
    | none => (0, bs, 4)
    | some (m, r) => (m, r, 0)
  else (0, bs, x)

def sFix (s : Int) (bs : List Int) (x : Int) : Nat × List Int × Int :=
  if x = 0 then if 1 ≤ s ∧ s ≤ 8 ∧ s ≤ bs.length then (valF (bs.take s.toNat), bs.drop s.toNat, 0) else (0, bs, 4)
  else (0, bs, x)

def sTxt (most : Int) (bs : List Int) (x : Int) : List Int × List Int × Int :=
  if x = 0 then match rdTxt most.toNat bs with
    | .error e => ([], bs, e)
    | .ok (t, r) => (t, r, 0)
  else ([], bs, x)

def sRest (bs : List Int) (x : Int) : List Int × List Int × Int := if x = 0 then (bs, [], 0) else ([], bs, x)

theorem rnum_any (b : Nat) (bs : List Int) (x : Int) (w : World) (hr : Rd A w b bs x) :
    Calls Try.prog 17 #[.pointer (some ⟨b, 0, none⟩)] w fun e w' => e = .returned (.int .u64 ((sNum bs x).1 : Nat)) ∧ Rd A w' b (sNum bs x).2.1 (sNum bs x).2.2 ∧ w.grownBy w' (some b) := by
  by_cases hx : x = 0
  · subst hx
    refine (rnum_ok b bs w hr).mono ?_
    rintro e w' ⟨m, bs', x, rfl, hrd, hg, ⟨hn, rfl, rfl, rfl⟩ | ⟨hn, rfl, _⟩⟩
    · have e1 : sNum bs' 0 = (0, bs', 4) := by rw [sNum, if_pos rfl, hn]
      rw [e1]; exact ⟨rfl, hrd, hg⟩
    · have e1 : sNum bs 0 = (m, bs', 0) := by rw [sNum, if_pos rfl, hn]
      rw [e1]; exact ⟨rfl, hrd, hg⟩
  · have e1 : sNum bs x = (0, bs, x) := by rw [sNum, if_neg hx]
    rw [e1]
    obtain ⟨p, cap, _, h1, _⟩ := id hr
    refine (rnum_err b x w h1 hx).mono ?_
    rintro e w' ⟨rfl, rfl⟩
    exact ⟨rfl, hr, grown_refl _ _⟩

theorem rfix_any (b : Nat) (s : Int) (bs : List Int) (x : Int) (w : World) (hr : Rd A w b bs x) :
    Calls Try.prog 19 #[.pointer (some ⟨b, 0, none⟩), .int .i64 s] w fun e w' => e = .returned (.int .u64 ((sFix s bs x).1 : Nat)) ∧ Rd A w' b (sFix s bs x).2.1 (sFix s bs x).2.2 ∧ w.grownBy w' (some b) := by
  by_cases hx : x = 0
  · subst hx
    refine (rfix_ok b bs s w hr).mono ?_
    rintro e w' ⟨m, bs', x, rfl, hrd, hg, ⟨hn, rfl, rfl, rfl⟩ | ⟨hn, rfl, rfl, rfl⟩⟩
    · have e1 : sFix s bs' 0 = (0, bs', 4) := by rw [sFix, if_pos rfl, if_neg hn]
      rw [e1]; exact ⟨rfl, hrd, hg⟩
    · have e1 : sFix s bs 0 = (valF (bs.take s.toNat), bs.drop s.toNat, 0) := by rw [sFix, if_pos rfl, if_pos hn]
      rw [e1]; exact ⟨rfl, hrd, hg⟩
  · have e1 : sFix s bs x = (0, bs, x) := by rw [sFix, if_neg hx]
    rw [e1]
    obtain ⟨p, cap, _, h1, _⟩ := id hr
    refine (rfix_err b s x w h1 hx).mono ?_
    rintro e w' ⟨rfl, rfl⟩
    exact ⟨rfl, hr, grown_refl _ _⟩

theorem rtxt_any (b : Nat) (most : Int) (hmost : most ≤ 9223372036854775807) (bs : List Int) (x : Int) (w : World) (hr : Rd A w b bs x) :
    Calls Try.prog 21 #[.pointer (some ⟨b, 0, none⟩), .int .i64 most] w fun e w' => ∃ v, e = .returned v ∧ w'.ownsRow w.heap.size 5 1 v (sTxt most bs x).1.length ((sTxt most bs x).1.map (Value.int .u8)) ∧ Rd A w' b (sTxt most bs x).2.1 (sTxt most bs x).2.2 ∧ w.grownBy w' (some b) := by
  by_cases hx : x = 0
  · subst hx
    refine (rtxt_ok b bs most hmost w hr).mono ?_
    rintro e w' (⟨er, hn, _, rfl, hrd, hg⟩ | ⟨tx, rest, v, hn, rfl, hown, hrd, hg⟩)
    · have e1 : sTxt most bs 0 = ([], bs, er) := by rw [sTxt, if_pos rfl, hn]
      rw [e1]; exact ⟨_, rfl, World.ownsRow_nil _ _ _ _, hrd, hg⟩
    · have e1 : sTxt most bs 0 = (tx, rest, 0) := by rw [sTxt, if_pos rfl, hn]
      rw [e1]; exact ⟨v, rfl, hown, hrd, hg⟩
  · have e1 : sTxt most bs x = ([], bs, x) := by rw [sTxt, if_neg hx]
    rw [e1]
    obtain ⟨p, cap, _, h1, _⟩ := id hr
    refine (rtxt_err b most x w h1 hx).mono ?_
    rintro e w' ⟨rfl, rfl⟩
    exact ⟨_, rfl, World.ownsRow_nil _ _ _ _, hr, grown_refl _ _⟩

theorem rest_any (b : Nat) (bs : List Int) (x : Int) (w : World) (hr : Rd A w b bs x) :
    Calls Try.prog 23 #[.pointer (some ⟨b, 0, none⟩)] w fun e w' => ∃ v, e = .returned v ∧ w'.ownsRow w.heap.size 5 1 v (sRest bs x).1.length ((sRest bs x).1.map (Value.int .u8)) ∧ Rd A w' b (sRest bs x).2.1 (sRest bs x).2.2 ∧ w.grownBy w' (some b) := by
  by_cases hx : x = 0
  · subst hx
    have e1 : sRest bs 0 = (bs, [], 0) := by rw [sRest, if_pos rfl]
    rw [e1]
    exact rest_ok b bs w hr
  · have e1 : sRest bs x = ([], bs, x) := by rw [sRest, if_neg hx]
    rw [e1]
    refine (rest_err b bs x w hr hx).mono ?_
    rintro e w' ⟨rfl, rfl⟩
    exact ⟨_, rfl, World.ownsRow_nil _ _ _ _, hr, grown_refl _ _⟩

theorem err_rd (b : Nat) (bs : List Int) (x : Int) (w : World) (hr : Rd A w b bs x) :
    Calls Try.prog 26 #[.pointer (some ⟨b, 0, none⟩)] w fun e w' => e = .returned (.int .i64 x) ∧ w' = w := by
  obtain ⟨p, cap, _, h1, _⟩ := hr
  exact err_at b x w h1

theorem left_rd (b : Nat) (bs : List Int) (x : Int) (w : World) (hr : Rd A w b bs x) :
    Calls Try.prog 25 #[.pointer (some ⟨b, 0, none⟩)] w fun e w' => e = .returned (.int .i64 bs.length) ∧ w' = w := by
  obtain ⟨p, cap, h0, _⟩ := hr
  exact left_at b p _ cap w h0

theorem Rd.bytes {w : World} {b : Nat} {bs : List Int} {x : Int} (h : Rd A w b bs x) : ∀ c ∈ bs, 0 ≤ c ∧ c < 256 := by
  obtain ⟨p, cap, _, _, _, _, _, _, _, hb, _⟩ := h
  exact hb.1

theorem rdN_high : ∀ (bs : List Int) (k n : Nat), (∀ c ∈ bs, 128 ≤ c) → rdN bs k n = none
  | [], k, n, _ => by cases k <;> rfl
  | _ :: _, 0, n, _ => rfl
  | c :: r, k + 1, n, h => by
    have hc := h c (by simp)
    rw [rdN]
    by_cases hb : 144115188075855871 < n
    · rw [if_pos hb]
    · rw [if_neg hb, if_neg (by omega)]
      exact rdN_high r k _ (fun x hx => h x (List.mem_cons_of_mem _ hx))

/-- a number's form that is cut is none -/
theorem rdNum_cut (n c : Nat) (hc : c < (numF n).length) : rdNum ((numF n).take c) = none := by
  have e : (numF n).take c = (numH 10 (n / 128)).take c := by
    rw [numF, List.take_append_of_le_length]
    simp [numF] at hc; omega
  rw [e, rdNum]
  split
  · rfl
  · exact rdN_high _ _ _ (fun x hx => (numH_bytes 10 (n / 128) x (List.mem_of_mem_take hx)).1)

theorem sNum_form (n : Nat) (hn : n < 18446744073709551616) (r : List Int) : sNum (numF n ++ r) 0 = (n, r, 0) := by
  rw [sNum, if_pos rfl, rdNum_numF n hn]

theorem sFix_form (m : Nat) (hm : m < 18446744073709551616) (r : List Int) : sFix 8 (fixF 8 m ++ r) 0 = (m, r, 0) := by
  have hl := fixF_length 8 m
  rw [sFix, if_pos rfl, if_pos ⟨by decide, by decide, by rw [List.length_append, hl]; omega⟩]
  have e : (8 : Int).toNat = 8 := rfl
  rw [e, List.take_append_of_le_length (by omega), List.drop_append_of_le_length (by omega), List.drop_of_length_le (by omega)]
  have e2 : valF ((fixF 8 m).take 8) = m := by
    rw [List.take_of_length_le (by omega), valF]
    have key : ∀ (s n a : Nat), (fixF s n).foldl (fun a c => a * 256 + c.toNat) a = a * 256 ^ s + n % 256 ^ s := by
      intro s n
      induction s with
      | zero => intro a; simp [fixF, Nat.mod_one]
      | succ s ih =>
        intro a
        rw [fixF, List.foldl_cons, ih, Nat.mod_pow_succ, Nat.pow_succ]
        simp only [Int.toNat_natCast]
        rw [Nat.add_mul, Nat.mul_assoc, Nat.mul_comm 256 (256 ^ s), Nat.mul_comm (n / 256 ^ s % 256)]
        omega
    rw [key]
    have : (256 : Nat) ^ 8 = 18446744073709551616 := by decide
    omega
  rw [e2]; simp

theorem rdTxt_txtF (s r : List Int) (hs : s.length < 18446744073709551616) : rdTxt s.length (txtF s ++ r) = .ok (s, r) := by
  rw [txtF, List.append_assoc, rdTxt, rdNum_numF _ hs]
  simp

theorem sTxt_form (s r : List Int) (hs : s.length < 18446744073709551616) : sTxt (s.length : Int) (txtF s ++ r) 0 = (s, r, 0) := by
  rw [sTxt, if_pos rfl, Int.toNat_natCast, rdTxt_txtF s r hs]

/-- four forms, one behind the other, cut anywhere: ErrBytes -/
theorem cut_err (n m : Nat) (s : List Int) (hn : n < 18446744073709551616) (hm : m < 18446744073709551616) (hs : s.length < 18446744073709551616) (c : Nat)
    (hc : c < (((numF n ++ fixF 8 m) ++ txtF s) ++ numF m).length) (b0 b1 b2 b3 b4 : List Int) (x1 x2 x3 x4 : Int)
    (h0 : b0 = ((((numF n ++ fixF 8 m) ++ txtF s) ++ numF m)).take c) (h1 : (sNum b0 0).2 = (b1, x1)) (h2 : (sFix 8 b1 x1).2 = (b2, x2)) (h3 : (sTxt (s.length : Int) b2 x2).2 = (b3, x3)) (h4 : (sNum b3 x3).2 = (b4, x4)) : x4 = 4 := by
  have e4 : ∀ b y, y ≠ 0 → (sNum b y).2 = (b, y) := fun b y hy => by rw [sNum, if_neg hy]
  have e3 : ∀ b y, y ≠ 0 → (sTxt (s.length : Int) b y).2 = (b, y) := fun b y hy => by rw [sTxt, if_neg hy]
  have e2 : ∀ b y, y ≠ 0 → (sFix 8 b y).2 = (b, y) := fun b y hy => by rw [sFix, if_neg hy]
  have l8 := fixF_length 8 m
  simp only [List.append_assoc] at h0 hc
  by_cases c1 : c < (numF n).length
  · have e : b0 = (numF n).take c := by rw [h0, List.take_append_of_le_length (by omega)]
    rw [e, sNum, if_pos rfl, rdNum_cut n c c1] at h1
    simp only [Prod.mk.injEq] at h1
    obtain ⟨rfl, rfl⟩ := h1
    rw [e2 _ _ (by decide)] at h2; cases h2
    rw [e3 _ _ (by decide)] at h3; cases h3
    rw [e4 _ _ (by decide)] at h4; cases h4
    rfl
  · obtain ⟨d, rfl⟩ : ∃ d, c = (numF n).length + d := ⟨c - (numF n).length, by omega⟩
    rw [List.take_length_add_append] at h0
    rw [h0, sNum_form n hn] at h1
    simp only [Prod.mk.injEq] at h1
    obtain ⟨rfl, rfl⟩ := h1
    by_cases c2 : d < 8
    · rw [sFix, if_pos rfl, if_neg (by rw [List.length_take]; omega)] at h2
      simp only [Prod.mk.injEq] at h2
      obtain ⟨rfl, rfl⟩ := h2
      rw [e3 _ _ (by decide)] at h3; cases h3
      rw [e4 _ _ (by decide)] at h4; cases h4
      rfl
    · obtain ⟨d2, rfl⟩ : ∃ d2, d = (fixF 8 m).length + d2 := ⟨d - 8, by omega⟩
      rw [List.take_length_add_append, sFix_form m hm] at h2
      simp only [Prod.mk.injEq] at h2
      obtain ⟨rfl, rfl⟩ := h2
      by_cases c3 : d2 < (txtF s).length
      · have e : (txtF s ++ numF m).take d2 = (txtF s).take d2 := by rw [List.take_append_of_le_length (by omega)]
        have key : rdTxt s.length ((txtF s).take d2) = .error 4 := by
          rw [rdTxt]
          by_cases c4 : d2 < (numF s.length).length
          · have : (txtF s).take d2 = (numF s.length).take d2 := by rw [txtF, List.take_append_of_le_length (by omega)]
            rw [this, rdNum_cut _ _ c4]
          · obtain ⟨d3, rfl⟩ : ∃ d3, d2 = (numF s.length).length + d3 := ⟨d2 - (numF s.length).length, by omega⟩
            rw [txtF, List.take_length_add_append, rdNum_numF _ hs]
            have : d3 < s.length := by simp [txtF] at c3; omega
            simp; omega
        rw [sTxt, if_pos rfl, Int.toNat_natCast, e, key] at h3
        simp only [Prod.mk.injEq] at h3
        obtain ⟨rfl, rfl⟩ := h3
        rw [e4 _ _ (by decide)] at h4; cases h4
        rfl
      · obtain ⟨d3, rfl⟩ : ∃ d3, d2 = (txtF s).length + d3 := ⟨d2 - (txtF s).length, by omega⟩
        rw [List.take_length_add_append, sTxt_form s _ hs] at h3
        simp only [Prod.mk.injEq] at h3
        obtain ⟨rfl, rfl⟩ := h3
        have c4 : d3 < (numF m).length := by simp at hc; omega
        rw [sNum, if_pos rfl, rdNum_cut m d3 c4] at h4
        simp only [Prod.mk.injEq] at h4
        exact h4.2.symm

end Go.Proofs.Ytmkoefnnpficfaa
