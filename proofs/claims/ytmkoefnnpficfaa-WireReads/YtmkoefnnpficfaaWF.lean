/-
  Walks: a reader's step 'text', and the reader's calls Num, Fixed and Text by way of pass.
-/
import Derived.Test.YtmkoefnnpficfaaWE
namespace Go.Proofs.Ytmkoefnnpficfaa
open Go.RowKit
variable {A : Nat → Prop}

/-- reading a text of at most so many bytes: the error's number where there is none -/
def rdTxt (most : Nat) (bs : List Int) : Except Int (List Int × List Int) :=
  match rdNum bs with
  | none => .error 4
  | some (m, rest) => if most < m then .error 3 else if rest.length < m then .error 4 else .ok (rest.take m, rest.drop m)

def TxtPost (A : Nat → Prop) (most : Nat) (bs : List Int) (x : Int) (b : Nat) (w : World) (e : Ending) (w' : World) : Prop :=
  (∃ er bs', rdTxt most bs = .error er ∧ (er = 3 ∨ er = 4) ∧ e = .returned (.tuple #[.slice none 0 0, .int .i64 er]) ∧ Rd A w' b bs' x ∧ w.grownBy w' (some b)) ∨
  (∃ tx rest v, rdTxt most bs = .ok (tx, rest) ∧ e = .returned (.tuple #[v, .int .i64 0]) ∧ w'.ownsRow w.heap.size 5 1 v tx.length (tx.map (Value.int .u8)) ∧ Rd A w' b rest x ∧ w.grownBy w' (some b))

theorem own_base {w : World} {B B' : Nat} {e : TypeId} {v : Value} {n : Nat} {xs : List Value} (h : w.ownsRow B e 1 v n xs) (hB : B' ≤ B) : w.ownsRow B' e 1 v n xs := by
  refine ⟨h.1, ?_⟩
  rcases h.2 with h0 | ⟨g, cap, cur, hv, hb, r⟩
  · exact Or.inl h0
  · exact Or.inr ⟨g, cap, cur, hv, Nat.le_trans hB hb, r⟩

set_option maxHeartbeats 1000000 in
set_option maxRecDepth 100000 in
theorem textR_any (b : Nat) (bs : List Int) (most : Nat) (hmost : most ≤ 9223372036854775807) (x : Int) (w : World) (hr : Rd A w b bs x) :
    Calls Try.prog 37 #[.pointer (some ⟨b, 0, none⟩), .int .i64 most] w fun e w' => TxtPost A most bs x b w e w' := by
  have HR := hide hr
  clear hr
  go_enter Try.func37, Try.ntmps37
  go_wp2_with fail
  refine (number_any b bs x _ HR.out).mono ?_
  rintro e w1 (⟨hn, rfl, hw1⟩ | ⟨m, rest, hn, hm, rfl, hrd, hg⟩)
  · subst hw1
    have HN := hide hn
    clear hn
    go_wp2
    go_ret2
    exact Or.inl ⟨4, bs, by rw [rdTxt, HN.out], Or.inr rfl, rfl, HR.out, grown_refl _ _⟩
  · have HN := hide hn
    have HRD := hide hrd
    have HG := hide hg
    clear hn hrd hg
    by_cases hlong : most < m
    · go_wp2
      go_ret2
      exact Or.inl ⟨3, rest, by rw [rdTxt, HN.out]; simp [hlong], Or.inl rfl, rfl, HRD.out, HG.out⟩
    · have hlong' : decide ((most : Int) < (m : Int)) = false := by simp; omega
      by_cases hlen : rest.length < m
      · go_wp2_with fail
        refine (cut_out b rest x _ _ HRD.out (by omega)).mono ?_
        rintro e w2 ⟨rfl, hw2⟩
        subst hw2
        go_wp2
        go_ret2
        exact Or.inl ⟨4, rest, by rw [rdTxt, HN.out]; simp [hlong, hlen], Or.inr rfl, rfl, HRD.out, HG.out⟩
      · go_wp2_with fail
        refine (cut_in b rest x m _ HRD.out (by omega)).mono ?_
        rintro e w2 ⟨v, rfl, hown, hrd2, hg2⟩
        have HO := hide hown
        have HRD2 := hide hrd2
        have HG2 := hide hg2
        clear hown hrd2 hg2
        go_wp2
        go_ret2
        refine Or.inr ⟨rest.take m, rest.drop m, v, by rw [rdTxt, HN.out]; simp [hlong, hlen], rfl, ?_, HRD2.out, grown_trans HG.out HG2.out⟩
        have e : (rest.take m).length = m := by simp; omega
        rw [e]
        exact own_base HO.out HG.out.size

/-- where a step failed all stands again, and the error is there -/
theorem Rd.reset {w w1 : World} {b : Nat} {bs bs1 : List Int} {x x1 : Int} (h : Rd A w b bs x) (hg : w.grownBy w1 (some b)) (h1 : Rd A w1 b bs1 x1) (y : Int) :
    ∀ p cap, w.cell? ⟨b, 0, none⟩ = some (.slice p bs.length cap) →
      Rd A ((w1.setCell ⟨b, 0, none⟩ (.slice p bs.length cap)).setCell ⟨b, 1, none⟩ (.int .i64 y)) b bs y ∧ w.grownBy ((w1.setCell ⟨b, 0, none⟩ (.slice p bs.length cap)).setCell ⟨b, 1, none⟩ (.int .i64 y)) (some b) := by
  intro p cap hp
  obtain ⟨p', cap', h0, _, _, _, hlc, hm, hs, hb, hne⟩ := h
  rw [h0] at hp
  cases hp
  obtain ⟨q, cq, c0, c1, f0, f1, _⟩ := h1
  have g1 : w1.grownBy (w1.setCell ⟨b, 0, none⟩ (.slice p bs.length cap)) (some b) := ⟨rfl, rfl, rfl, by simp, fun k _ hk => heap_setCell_other w1 ⟨b, 0, none⟩ k _ (fun e => hk (by simp [e]))⟩
  have g2 : (w1.setCell ⟨b, 0, none⟩ (.slice p bs.length cap)).grownBy ((w1.setCell ⟨b, 0, none⟩ (.slice p bs.length cap)).setCell ⟨b, 1, none⟩ (.int .i64 y)) (some b) :=
    ⟨rfl, rfl, rfl, by simp, fun k _ hk => heap_setCell_other _ ⟨b, 1, none⟩ k _ (fun e => hk (by simp [e]))⟩
  have g := grown_trans hg (grown_trans g1 g2)
  refine ⟨⟨p, cap, ?_, ?_, ?_, ?_, hlc, hm, hs, bytes_kept hb g (fun a ha e => (hne a ha).2 (by simpa using e)), hne⟩, g⟩
  · rw [World.cell?_setCell_other _ _ _ _ (by simp), World.cell?_setCell_same _ _ _ c0]
  · exact World.cell?_setCell_same _ _ _ (u := .int .i64 x1) (by rw [World.cell?_setCell_other _ _ _ _ (by simp)]; exact c1)
  · rw [World.frozen?_setCell, World.frozen?_setCell]; exact f0
  · rw [World.frozen?_setCell, World.frozen?_setCell]; exact f1

set_option maxHeartbeats 1000000 in
set_option maxRecDepth 100000 in
theorem rnum_nil (w : World) :
    Calls Try.prog 17 #[.pointer none] w fun e w' => e = .returned (.int .u64 0) ∧ w' = w := by
  go_enter Try.func17, Try.ntmps17
  go_wp2
  go_ret
  exact ⟨rfl, rfl⟩

set_option maxHeartbeats 1000000 in
set_option maxRecDepth 100000 in
theorem rnum_ok (b : Nat) (bs : List Int) (w : World) (hr : Rd A w b bs 0) :
    Calls Try.prog 17 #[.pointer (some ⟨b, 0, none⟩)] w fun e w' => ∃ (m : Nat) (bs' : List Int) (x : Int), e = .returned (.int .u64 m) ∧ Rd A w' b bs' x ∧ w.grownBy w' (some b) ∧
      ((rdNum bs = none ∧ m = 0 ∧ bs' = bs ∧ x = 4) ∨ (rdNum bs = some (m, bs') ∧ x = 0 ∧ m < 18446744073709551616)) := by
  have HR := hide hr
  obtain ⟨p, cap, h0, h1, f0, f1, hlc, hm, hs, hb, hne⟩ := hr
  clear hb hne
  go_enter Try.func17, Try.ntmps17
  go_wp2_with (go_at_call 32; go_in)
  refine (number_any b bs 0 _ HR.out).mono ?_
  rintro e w1 (⟨hn, rfl, hw1⟩ | ⟨m, rest, hn, hm2, rfl, hrd, hg⟩)
  · subst hw1
    have HN := hide hn
    have HP := hide h0
    clear hn
    go_wp2
    go_ret
    have hst := HR.out.reset (grown_refl _ _) HR.out 4 p cap HP.out
    exact ⟨0, bs, 4, rfl, hst.1, hst.2, Or.inl ⟨HN.out, rfl, rfl, rfl⟩⟩
  · have HN := hide hn
    have HRD := hide hrd
    have HG := hide hg
    clear hn hrd hg
    go_wp2
    go_ret
    exact ⟨m, rest, 0, rfl, HRD.out, HG.out, Or.inr ⟨HN.out, rfl, hm2⟩⟩

set_option maxHeartbeats 1000000 in
set_option maxRecDepth 100000 in
theorem rnum_err (b : Nat) (x : Int) (w : World) (h1 : w.cell? ⟨b, 1, none⟩ = some (.int .i64 x)) (hx : x ≠ 0) :
    Calls Try.prog 17 #[.pointer (some ⟨b, 0, none⟩)] w fun e w' => e = .returned (.int .u64 0) ∧ w' = w := by
  have hx' : (x != 0) = true := by simpa using hx
  clear hx
  go_enter Try.func17, Try.ntmps17
  go_wp2
  go_ret
  exact ⟨rfl, rfl⟩

set_option maxHeartbeats 1000000 in
set_option maxRecDepth 100000 in
theorem rfix_nil (s : Int) (w : World) :
    Calls Try.prog 19 #[.pointer none, .int .i64 s] w fun e w' => e = .returned (.int .u64 0) ∧ w' = w := by
  go_enter Try.func19, Try.ntmps19
  go_wp2
  go_ret
  exact ⟨rfl, rfl⟩

set_option maxHeartbeats 1000000 in
set_option maxRecDepth 100000 in
theorem rfix_err (b : Nat) (s : Int) (x : Int) (w : World) (h1 : w.cell? ⟨b, 1, none⟩ = some (.int .i64 x)) (hx : x ≠ 0) :
    Calls Try.prog 19 #[.pointer (some ⟨b, 0, none⟩), .int .i64 s] w fun e w' => e = .returned (.int .u64 0) ∧ w' = w := by
  have hx' : (x != 0) = true := by simpa using hx
  clear hx
  go_enter Try.func19, Try.ntmps19
  go_wp2
  go_ret
  exact ⟨rfl, rfl⟩

set_option maxHeartbeats 1000000 in
set_option maxRecDepth 100000 in
theorem rfix_ok (b : Nat) (bs : List Int) (s : Int) (w : World) (hr : Rd A w b bs 0) :
    Calls Try.prog 19 #[.pointer (some ⟨b, 0, none⟩), .int .i64 s] w fun e w' => ∃ (m : Nat) (bs' : List Int) (x : Int), e = .returned (.int .u64 m) ∧ Rd A w' b bs' x ∧ w.grownBy w' (some b) ∧
      ((¬ (1 ≤ s ∧ s ≤ 8 ∧ s ≤ bs.length) ∧ m = 0 ∧ bs' = bs ∧ x = 4) ∨ ((1 ≤ s ∧ s ≤ 8 ∧ s ≤ bs.length) ∧ m = valF (bs.take s.toNat) ∧ bs' = bs.drop s.toNat ∧ x = 0)) := by
  have HR := hide hr
  obtain ⟨p, cap, h0, h1, f0, f1, hlc, hm, hs, hb, hne⟩ := hr
  clear hb hne
  go_enter Try.func19, Try.ntmps19
  go_wp2_with (go_at_call 32; go_in)
  refine (fixedR_any b bs s 0 _ HR.out).mono ?_
  rintro e w1 (⟨hn, rfl, hw1⟩ | ⟨hs1, hs8, hsl, rfl, hrd, hg⟩)
  · subst hw1
    have HN := hide hn
    have HP := hide h0
    clear hn
    go_wp2
    go_ret
    have hst := HR.out.reset (grown_refl _ _) HR.out 4 p cap HP.out
    exact ⟨0, bs, 4, rfl, hst.1, hst.2, Or.inl ⟨HN.out, rfl, rfl, rfl⟩⟩
  · have HRD := hide hrd
    have HG := hide hg
    clear hrd hg
    go_wp2
    go_ret
    exact ⟨_, _, 0, rfl, HRD.out, HG.out, Or.inr ⟨⟨hs1, hs8, hsl⟩, rfl, rfl, rfl⟩⟩

set_option maxHeartbeats 1000000 in
set_option maxRecDepth 100000 in
theorem rtxt_nil (most : Int) (w : World) :
    Calls Try.prog 21 #[.pointer none, .int .i64 most] w fun e w' => e = .returned (.slice none 0 0) ∧ w' = w := by
  go_enter Try.func21, Try.ntmps21
  go_wp2
  all_goals
    go_ret
    exact ⟨rfl, rfl⟩

set_option maxHeartbeats 1000000 in
set_option maxRecDepth 100000 in
theorem rtxt_err (b : Nat) (most : Int) (x : Int) (w : World) (h1 : w.cell? ⟨b, 1, none⟩ = some (.int .i64 x)) (hx : x ≠ 0) :
    Calls Try.prog 21 #[.pointer (some ⟨b, 0, none⟩), .int .i64 most] w fun e w' => e = .returned (.slice none 0 0) ∧ w' = w := by
  have hx' : (x != 0) = true := by simpa using hx
  clear hx
  go_enter Try.func21, Try.ntmps21
  go_wp2
  all_goals
    go_ret
    exact ⟨rfl, rfl⟩

def TextOut (A : Nat → Prop) (most : Int) (bs : List Int) (b : Nat) (w : World) (e : Ending) (w' : World) : Prop :=
  (∃ er, rdTxt most.toNat bs = .error er ∧ (er = 3 ∨ er = 4) ∧ e = .returned (.slice none 0 0) ∧ Rd A w' b bs er ∧ w.grownBy w' (some b)) ∨
  (∃ tx rest v, rdTxt most.toNat bs = .ok (tx, rest) ∧ e = .returned v ∧ w'.ownsRow w.heap.size 5 1 v tx.length (tx.map (Value.int .u8)) ∧ Rd A w' b rest 0 ∧ w.grownBy w' (some b))

set_option maxHeartbeats 1000000 in
set_option maxRecDepth 100000 in
theorem rtxt_ok (b : Nat) (bs : List Int) (most : Int) (hmost : most ≤ 9223372036854775807) (w : World) (hr : Rd A w b bs 0) :
    Calls Try.prog 21 #[.pointer (some ⟨b, 0, none⟩), .int .i64 most] w fun e w' => TextOut A most bs b w e w' := by
  have HR := hide hr
  obtain ⟨p, cap, h0, h1, f0, f1, hlc, hm, hs, hb, hne⟩ := hr
  clear hb hne
  have hcell1 : ∀ w1 bs1, Rd A w1 b bs1 0 → ∃ q c, w1.cell? ⟨b, 0, none⟩ = some (.slice q bs1.length c) ∧ w1.frozen? ⟨b, 0, none⟩ = false ∧ w1.frozen? ⟨b, 1, none⟩ = false ∧ w1.cell? ⟨b, 1, none⟩ = some (.int .i64 0) :=
    fun w1 bs1 ⟨q, c, k0, k1, e0, e1, _⟩ => ⟨q, c, k0, e0, e1, k1⟩
  have HCELL := hide hcell1
  clear hcell1
  by_cases hneg : 0 ≤ most
  · obtain ⟨k, rfl⟩ := Int.eq_ofNat_of_zero_le hneg
    go_enter Try.func21, Try.ntmps21
    go_wp2_with (go_at_call 36; go_in)
    refine (textR_any b bs k (by omega) 0 _ HR.out).mono ?_
    rintro e w1 (⟨er, bs', hn, her, rfl, hrd, hg⟩ | ⟨tx, rest, v, hn, rfl, hown, hrd, hg⟩)
    · have HN := hide hn
      have HRD := hide hrd
      have HG := hide hg
      have HP := hide h0
      obtain ⟨q, cq, k0, e0, e1, k1⟩ := HCELL.out w1 bs' hrd
      have HER := hide her
      clear hn hrd hg her h0 h1
      have herr : (er != 0) = true := by rcases HER.out with h | h <;> rw [h] <;> rfl
      go_wp2
      go_ret
      have hst := HR.out.reset HG.out HRD.out er p cap HP.out
      exact Or.inl ⟨er, HN.out, HER.out, rfl, hst.1, hst.2⟩
    · have HN := hide hn
      have HRD := hide hrd
      have HG := hide hg
      have HO := hide hown
      clear hn hrd hg hown
      go_wp2
      go_ret
      exact Or.inr ⟨tx, rest, v, HN.out, rfl, HO.out, HRD.out, HG.out⟩
  · have hz : most.toNat = 0 := by omega
    have HZ := hide hz
    clear hz
    have ht := textR_any b bs 0 (by omega) 0 _ HR.out
    rw [show ((0 : Nat) : Int) = 0 from rfl] at ht
    have HT := hide ht
    clear ht
    go_enter Try.func21, Try.ntmps21
    go_wp2_with (go_at_call 36; go_in)
    refine (show Calls _ _ _ _ _ from HT.out).mono ?_
    rintro e w1 (⟨er, bs', hn, her, rfl, hrd, hg⟩ | ⟨tx, rest, v, hn, rfl, hown, hrd, hg⟩)
    · have HN := hide hn
      have HRD := hide hrd
      have HG := hide hg
      have HP := hide h0
      obtain ⟨q, cq, k0, e0, e1, k1⟩ := HCELL.out w1 bs' hrd
      have HER := hide her
      clear hn hrd hg her h0 h1
      have herr : (er != 0) = true := by rcases HER.out with h | h <;> rw [h] <;> rfl
      go_wp2
      go_ret
      have hst := HR.out.reset HG.out HRD.out er p cap HP.out
      exact Or.inl ⟨er, by rw [HZ.out]; exact HN.out, HER.out, rfl, hst.1, hst.2⟩
    · have HN := hide hn
      have HRD := hide hrd
      have HG := hide hg
      have HO := hide hown
      clear hn hrd hg hown
      go_wp2
      go_ret
      exact Or.inr ⟨tx, rest, v, by rw [HZ.out]; exact HN.out, rfl, HO.out, HRD.out, HG.out⟩

end Go.Proofs.Ytmkoefnnpficfaa
