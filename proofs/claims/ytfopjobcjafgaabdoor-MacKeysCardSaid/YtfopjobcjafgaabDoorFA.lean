/-
  Arguments opened: bytes; pieces of bytes; pairs of a number and bytes.
-/
import Derived.Test.YtfopjobcjafgaabDoorHD
import Derived.Test.YtfopjobcjafgaabDoorSL
import Derived.Deep.Slices
import Derived.Deep.SlicePairs
import Derived.SizedLaws
namespace Go.Proofs.YtfopjobcjafgaabDoor
open Go.ChangeShapes Go.WideShapes Go.ChangeAt Go.WideMaps Go.WideElems Go.RowKit

/-- a slice of bytes that is read -/
theorem piece_of {H : Type} {enc : TypeId × Value → H} {w : World} {fuel : Nat} {cs : List Value} {x : DataW H × List MemPlace}
    (h : DataW.trod enc Tryd.prog w 0 (fun _ => true) true fuel 22 cs = some x) : ∃ (p : Option Addr) (c : Nat) (xs : List Nat), cs = [.slice p xs.length c] ∧ Piece w p c xs := by
  rcases open_ints Tryd.underlying22 Tryd.underlying5 (by kernel_rfl) h with ⟨hcs, _⟩ | ⟨x, l, c, zs, hcs, _, hl, hm, hz, _, hcell, hwz⟩
  · exact ⟨none, 0, [], hcs, Or.inl rfl, fun _ => rfl, (fun x hx => by cases hx), Nat.le_refl _, Nat.zero_le _⟩
  · have hz' : zs.length = c := by simpa using hz
    have hb : ∀ z ∈ zs, 0 ≤ z ∧ z < 256 := fun z hz => by
      have h := hwz z hz
      have m1 : IntKind.u8.min = 0 := rfl
      have m2 : IntKind.u8.max = 255 := rfl
      simp only [Lit.wf, m1, m2, Bool.and_eq_true, decide_eq_true_eq] at h
      omega
    have hlen : ((zs.take l).map Int.toNat).length = l := by simp; omega
    refine ⟨some x, c, (zs.take l).map Int.toNat, by rw [hlen]; exact hcs, ?_, fun h => (by cases h), ?_, by rw [hlen]; exact hl, hm⟩
    · by_cases h0 : l = 0
      · left; simp [h0]
      · right
        obtain ⟨b, off, spot⟩ := x
        have hc := hcell 0 (by omega)
        have hspot : spot = none := by simpa [Addr.add] using World.cell?_spot hc
        subst hspot
        refine ⟨b, off, rfl, fun i hi => ?_⟩
        have hi' : i < l := by rw [hlen] at hi; exact hi
        have hiz : i < zs.length := by omega
        have := hcell i hiz
        rw [Addr.add_mid] at this
        rw [this]
        have hb' := hb zs[i] (List.getElem_mem hiz)
        congr 2
        simp [List.getD, hi', hiz]
        omega
    · intro y hy
      obtain ⟨z, hz, rfl⟩ := List.mem_map.1 hy
      have := hb z (List.mem_of_mem_take hz)
      omega

/-- .. and how much it holds -/
theorem piece_sized {H : Type} {enc : TypeId × Value → H} {w : World} {fuel : Nat} {cs : List Value} {x : DataW H × List MemPlace}
    (h : DataW.trod enc Tryd.prog w 0 (fun _ => true) true fuel 22 cs = some x) : ∃ (p : Option Addr) (c : Nat) (xs : List Nat), cs = [.slice p xs.length c] ∧ Piece w p c xs ∧ (c = 0 ∨ ∃ el sp, x.1 = .slice el sp ∧ el.length + sp.length = c) := by
  obtain ⟨p, c, xs, hcs, hp⟩ := piece_of h
  refine ⟨p, c, xs, hcs, hp, ?_⟩
  rcases open_ints Tryd.underlying22 Tryd.underlying5 (by kernel_rfl) h with ⟨hcs', _⟩ | ⟨y, l, c', zs, hcs', _, hl, _, hz, hx, _, _⟩
  · left
    rw [hcs] at hcs'
    simp at hcs'
    exact hcs'.2.2
  · right
    rw [hcs] at hcs'
    simp at hcs'
    have hz' : zs.length = c' := by simpa using hz
    refine ⟨_, _, by rw [hx], ?_⟩
    simp [lits, hz', hcs'.2.2]
    omega

/-- a slice of slices of bytes that is read -/
def Pieces (w : World) (sp : Option Addr) (k : Nat) (P : Nat → Option Addr) (C : Nat → Nat) (B : Nat → List Nat) : Prop :=
  (k = 0 ∨ ∃ q o, sp = some ⟨q, o, none⟩ ∧ ∀ i, i < k → w.cell? ⟨q, o + i, none⟩ = some (.slice (P i) (B i).length (C i))) ∧ (∀ i, i < k → Piece w (P i) (C i) (B i)) ∧ k ≤ maxLen

theorem pieces_of {H : Type} {enc : TypeId × Value → H} {w : World} {fuel : Nat} {cs : List Value} {x : DataW H × List MemPlace}
    (h : DataW.trod enc Tryd.prog w 0 (fun _ => true) true fuel 23 cs = some x) : ∃ (sp : Option Addr) (k cc : Nat) (P : Nat → Option Addr) (C : Nat → Nat) (B : Nat → List Nat), cs = [.slice sp k cc] ∧ Pieces w sp k P C B := by
  rcases Go.Deep.open_slice1 Tryd.underlying23 (by kernel_rfl) h with ⟨hcs, _⟩ | ⟨a, len, cap, m, n, V, D, Pl, hcs, _, hl, hm, hmm, _, hx⟩
  · exact ⟨none, 0, 0, fun _ => none, fun _ => 0, fun _ => [], hcs, Or.inl rfl, fun i hi => absurd hi (Nat.not_lt_zero _), Nat.zero_le _⟩
  · have hm' : m = cap := by simpa using hmm
    obtain ⟨f, hf⟩ := Go.Deep.choose_lt (α := Option Addr × Nat × List Nat) (n := len) (p := fun i q => V i = .slice q.1 q.2.2.length q.2.1 ∧ Piece w q.1 q.2.1 q.2.2) (fun i hi => by
      obtain ⟨p, c, xs, h1, h2⟩ := piece_of (hx i (by omega)).2
      exact ⟨(p, c, xs), by simpa using h1, h2⟩)
    refine ⟨some a, len, cap, fun i => (f i).1, fun i => (f i).2.1, fun i => (f i).2.2, hcs, ?_, fun i hi => (hf i hi).2, by omega⟩
    by_cases h0 : len = 0
    · exact Or.inl h0
    · right
      obtain ⟨b, off, spot⟩ := a
      have hc := (hx 0 (by omega)).1
      have hspot : spot = none := by simpa [Addr.add] using World.cell?_spot hc
      subst hspot
      refine ⟨b, off, rfl, fun i hi => ?_⟩
      have := (hx i (by omega)).1
      rw [Addr.add_mid] at this
      rw [this, (hf i hi).1]

end Go.Proofs.YtfopjobcjafgaabDoor
