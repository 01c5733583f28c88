/-
  Arguments opened: a slice of pairs of a number and bytes.
-/
import Derived.Test.YtfopjobcjafgaaaDoorFA
namespace Go.Proofs.YtfopjobcjafgaaaDoor
open Go.ChangeShapes Go.WideShapes Go.ChangeAt Go.WideMaps Go.WideElems Go.RowKit

def Ops (w : World) (sp : Option Addr) (k : Nat) (K : Nat → Int) (P : Nat → Option Addr) (C : Nat → Nat) (B : Nat → List Nat) : Prop :=
  (k = 0 ∨ ∃ q o, sp = some ⟨q, o, none⟩ ∧ ∀ i, i < k → w.cell? ⟨q, o + i * 2, none⟩ = some (.int .i64 (K i)) ∧ w.cell? ⟨q, o + i * 2 + 1, none⟩ = some (.slice (P i) (B i).length (C i))) ∧ (∀ i, i < k → Piece w (P i) (C i) (B i)) ∧ k ≤ maxLen

theorem ops_of {H : Type} {enc : TypeId × Value → H} {w : World} {fuel : Nat} {cs : List Value} {x : DataW H × List MemPlace}
    (h : DataW.trod enc Tryd.prog w 0 (fun _ => true) true fuel 39 cs = some x) : ∃ (sp : Option Addr) (k cc : Nat) (K : Nat → Int) (P : Nat → Option Addr) (C : Nat → Nat) (B : Nat → List Nat), cs = [.slice sp k cc] ∧ Ops w sp k K P C B := by
  rcases Go.Deep.open_slice_pairs Tryd.underlying39 Tryd.underlying43 (by kernel_rfl) rfl rfl (by kernel_rfl) (by kernel_rfl) h with ⟨hcs, _⟩ | ⟨a, len, cap, m, n, V0, V1, D0, D1, P0, P1, hcs, _, hl, hm, hmm, _, hx⟩
  · exact ⟨none, 0, 0, fun _ => 0, fun _ => none, fun _ => 0, fun _ => [], hcs, Or.inl rfl, fun i hi => absurd hi (Nat.not_lt_zero _), Nat.zero_le _⟩
  · have hm' : m = cap := by simpa using hmm
    obtain ⟨f, hf⟩ := Go.Deep.choose_lt (α := Int × Option Addr × Nat × List Nat) (n := len) (p := fun i q => V0 i = .int .i64 q.1 ∧ V1 i = .slice q.2.1 q.2.2.2.length q.2.2.1 ∧ Piece w q.2.1 q.2.2.1 q.2.2.2) (fun i hi => by
      obtain ⟨p, c, xs, h1, h2⟩ := piece_of (hx i (by omega)).2.2.2
      obtain ⟨z, hz, _, _⟩ := DataW.trod_int Tryd.underlying3 (hx i (by omega)).2.2.1
      exact ⟨(z, p, c, xs), by simpa using hz, by simpa using h1, h2⟩)
    refine ⟨some a, len, cap, fun i => (f i).1, fun i => (f i).2.1, fun i => (f i).2.2.1, fun i => (f i).2.2.2, hcs, ?_, fun i hi => (hf i hi).2.2, by omega⟩
    by_cases h0 : len = 0
    · exact Or.inl h0
    · right
      obtain ⟨b, off, spot⟩ := a
      have hc := (hx 0 (by omega)).1
      have hspot : spot = none := by simpa [Addr.add] using World.cell?_spot hc
      subst hspot
      refine ⟨b, off, rfl, fun i hi => ?_⟩
      have := hx i (by omega)
      rw [Addr.add_mid, Addr.add_mid] at this
      exact ⟨by rw [this.1, (hf i hi).1], by rw [Nat.add_assoc, this.2.1, (hf i hi).2.1]⟩

end Go.Proofs.YtfopjobcjafgaaaDoor
