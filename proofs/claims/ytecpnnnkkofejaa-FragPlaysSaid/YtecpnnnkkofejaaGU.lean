/-
  Rows of pieces that are read; what both Cuts tell.
-/
import Derived.Test.YtecpnnnkkofejaaGT
namespace Go.Proofs.Ytecpnnnkkofejaa
open Go.RowKit

/-- a row of pieces that is read -/
def RowR (w : World) (lp : Option Addr) (N : Nat) (X : Nat → Pc) : Prop := ∀ m, m < N → ∃ (g : Nat) (k : Pk), lp = some ⟨g, 0, none⟩ ∧ w.rangeAt g (m * 4) k.C ∧ k.x = X m ∧ BR w k.p k.x.b
/-- .. all of it from a block on -/
def RowB (w : World) (B : Nat) (lp : Option Addr) (N : Nat) (X : Nat → Pc) : Prop := ∀ m, m < N → ∃ (g : Nat) (k : Pk), lp = some ⟨g, 0, none⟩ ∧ B ≤ g ∧ w.rangeAt g (m * 4) k.C ∧ k.x = X m ∧ BR w k.p k.x.b ∧ ∀ a, k.p = some a → k.x.b ≠ [] → B ≤ a.block
theorem range_lt {w : World} {g m : Nat} {k : Pk} (h : w.rangeAt g (m * 4) k.C) : g < w.heap.size := block_lt_of_cell (h 0 _ rfl)
theorem range_grown {w w' : World} {g m : Nat} {k : Pk} {r : Option Nat} (h : w.rangeAt g (m * 4) k.C) (hg : w.grownBy w' r) (hr : r ≠ some g) : w'.rangeAt g (m * 4) k.C := fun j v hv => hg.cell (h j v hv) (fun e => hr e.symm)
theorem RowR.kept {w w' : World} {lp : Option Addr} {N : Nat} {X : Nat → Pc} (h : RowR w lp N X) (hb : Below w.heap.size w w') : RowR w' lp N X := fun m hm => by
  obtain ⟨g, k, h1, h2, h3, h4⟩ := h m hm
  exact ⟨g, k, h1, range_grown h2 (below_grown hb none) (by simp), h3, h4.kept hb⟩
theorem bi_off {w w' : World} {p : Option Addr} {bs : List Nat} {r : Option Nat} (h : BI w p bs) (hg : w.grownBy w' r) (hne : ∀ a, p = some a → bs ≠ [] → some a.block ≠ r) : BI w' p bs := by
  by_cases hn : bs = []
  · exact Or.inl hn
  rcases h with h0 | ⟨b, o, rfl, hc⟩
  · exact Or.inl h0
  · exact Or.inr ⟨b, o, rfl, fun i hi => hg.cell (hc i hi) (by have := hne _ rfl hn; simpa using this)⟩
theorem RowB.low {w w' : World} {B : Nat} {r : Option Nat} {lp : Option Addr} {N : Nat} {X : Nat → Pc} (h : RowB w B lp N X) (hg : w.grownBy w' r) (hX : ∀ k, r = some k → k < B) : RowR w' lp N X := fun m hm => by
  obtain ⟨g, k, h1, h0, h2, h3, h4, h5⟩ := h m hm
  exact ⟨g, k, h1, range_grown h2 hg (fun e => by have := hX _ e; omega), h3, bi_off h4.1 hg (fun a ha hn e => by have := h5 a ha hn; have := hX _ e.symm; omega), h4.2⟩
theorem RowB.row {w : World} {B : Nat} {lp : Option Addr} {N : Nat} {X : Nat → Pc} (h : RowB w B lp N X) : RowR w lp N X := fun m hm => by
  obtain ⟨g, k, h1, h0, h2, h3, h4, h5⟩ := h m hm
  exact ⟨g, k, h1, h2, h3, h4⟩

theorem Pc.same_self (x : Pc) : x.same x = true := Pc.same_is.2 rfl
/-- what the program's Cut tells, whatever it is given -/
theorem pcut_any (i n : Nat) (s : Int) (t : List Nat) (p : Option Addr) (c : Nat) (hn : t.length = n) :
    ∃ (N : Nat) (E : Int), (∀ (v : World) (q : Option Addr) (d : Nat), Piece v q d t → Calls Try.prog 16 #[.int .u64 (i : Int), .slice q n d, .int .i64 s] v fun e w' => ∃ lp ld, e = .returned (.tuple #[.slice lp N ld, .int .i64 E]) ∧ RowB w' v.heap.size lp N (cutX i t s.toNat) ∧ Below v.heap.size v w') ∧
      (∀ v : World, Piece v p c t → Calls Try.prog 17 #[.int .u64 (i : Int), .slice p n c, .int .i64 s] v fun e w' => ∃ lp ld, e = .returned (.tuple #[.slice lp N ld, .int .i64 E]) ∧ RowR w' lp N (cutX i t s.toNat) ∧ Below v.heap.size v w') ∧ N ≤ 256 := by
  have none0 : ∀ (w : World) (B : Nat) (X : Nat → Pc), RowB w B none 0 X := fun w B X m hm => by omega
  by_cases hs : s < 1 ∨ 1100 < s
  · refine ⟨0, 2, fun v q d hq => ?_, fun v hp => ?_, by omega⟩
    · refine (pcut_arg i n s q d v hs).mono ?_
      rintro e w' ⟨rfl, rfl⟩
      exact ⟨none, 0, rfl, none0 _ _ _, Below.refl _ _⟩
    · refine (rcut_arg i n s p c v hs).mono ?_
      rintro e w' ⟨rfl, rfl⟩
      exact ⟨none, 0, rfl, (none0 _ 0 _).row, Below.refl _ _⟩
  obtain ⟨s, rfl⟩ : ∃ m : Nat, s = (m : Int) := ⟨s.toNat, by omega⟩
  have s1 : 1 ≤ s := by omega
  have s2 : s ≤ 1100 := by omega
  rw [Int.toNat_natCast]
  by_cases hq : 65536 < n ∨ 256 < (n + s - 1) / s
  · refine ⟨0, 3, fun v q d _ => ?_, fun v hp => ?_, by omega⟩
    · refine (pcut_long i n s q d v s1 s2 hq).mono ?_
      rintro e w' ⟨rfl, rfl⟩
      exact ⟨none, 0, rfl, none0 _ _ _, Below.refl _ _⟩
    · refine (rcut_long i n s p c v s1 s2 hq).mono ?_
      rintro e w' ⟨rfl, rfl⟩
      exact ⟨none, 0, rfl, (none0 _ 0 _).row, Below.refl _ _⟩
  · have hN1 : cutN n s ≤ 256 := by
      rw [cutN]
      split <;> omega
    refine ⟨cutN n s, 0, fun v q d hq' => ?_, fun v hp => ?_, hN1⟩
    · refine (pcut_ok i n s _ t q d v hq' hn s1 s2 (by omega) (by omega) rfl).mono ?_
      rintro e w' ⟨g, ks, rfl, hgl, hA, hkl, hcut, hb⟩
      refine ⟨_, _, rfl, fun m hm => ?_, hb⟩
      obtain ⟨k, h1, h2, h3, h4⟩ := hcut m hm
      exact ⟨g, k, rfl, hgl, pk_at hA h1, h2, h4.1, fun a ha hn => (h4.2 a ha hn).1⟩
    · refine (rcut_ok i n s _ t p c v hp hn s1 s2 (by omega) (by omega) rfl).mono ?_
      rintro e w' ⟨u, rfl, ho, hb⟩
      obtain ⟨lp, ld, rfl⟩ := own_slice ho
      refine ⟨lp, ld, rfl, fun m hm => ?_, hb⟩
      have hpos : 0 < cutN n s := by omega
      rcases ho.2 with ⟨h0, h1⟩ | ⟨g, cap, cur, h0, _⟩
      · omega
      · cases h0
        have hjs : m * s ≤ n := by
          have := (cut_more n s m (by omega)).2 hm
          rcases this with h | h
          · subst h; simp
          · omega
        refine ⟨g, ⟨cutX i t s m, cutP p (m * s) c, c - m * s⟩, rfl, fun j v hv => ?_, rfl, (((hp.kept hb).from (m * s) (by omega)).take s).br⟩
        have hj4 : j < 4 := by
          have := (List.getElem?_eq_some_iff.1 hv).1
          simpa [Pk.C] using this
        rw [show m * 4 + j = 4 * m + j by omega, ho.cellAt _ (by omega), pkC_get _ m j hj4, cutK, List.getElem?_map, List.getElem?_range hm]
        exact hv

end Go.Proofs.Ytecpnnnkkofejaa
