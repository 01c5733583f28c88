/-
  What is held: the last bytes; calls that are handed in; what lies in memory between the rounds of UtfPlays.
-/
import Derived.Test.YtijjifdgmffenaaDoorUX
import Derived.Deep.SlicePairs
namespace Go.Proofs.YtijjifdgmffenaaDoor
open Go.ChangeShapes Go.WideShapes Go.ChangeAt Go.WideMaps Go.WideElems Go.RowKit

theorem ok_no {d : Dc} (h : d.ok) (h0 : d.h = 0) : d = Dc.no := by
  rcases h with rfl | ⟨h1, _⟩
  · rfl
  · omega
theorem run_snoc (t : List Nat) (b : Nat) : Dc.no.run (t ++ [b]) = (((Dc.no.run t).1.step b).1, (Dc.no.run t).2 ++ ((Dc.no.run t).1.step b).2) := by
  rw [Dc.run_append]
  simp [Dc.run]
theorem run_one (b : Nat) : Dc.no.run [b] = Dc.no.step b := by
  simp [Dc.run]
theorem snoc_ind {Q : List Nat → Prop} (h0 : Q []) (h1 : ∀ t b, Q t → Q (t ++ [b])) (t : List Nat) : Q t := by
  have h : ∀ s : List Nat, Q s.reverse := by
    intro s
    induction s with
    | nil => exact h0
    | cons x s ih => rw [List.reverse_cons]; exact h1 _ _ ih
  have := h t.reverse
  rwa [List.reverse_reverse] at this
theorem held_le (t : List Nat) : (Dc.no.run t).1.h ≤ t.length := by
  refine snoc_ind (Q := fun t => (Dc.no.run t).1.h ≤ t.length) (Nat.le_refl _) (fun t b ih => ?_) t
  · show (Dc.no.run (t ++ [b])).1.h ≤ _
    rw [run_snoc, List.length_append]
    show ((Dc.no.run t).1.step b).1.h ≤ t.length + 1
    generalize (Dc.no.run t).1 = d at *
    unfold Dc.step
    split
    · split
      · exact Nat.zero_le _
      · show (d.next b).h ≤ _
        unfold Dc.next
        split
        · have := (begunF_size b).1; omega
        · show d.h + 1 ≤ _; omega
    · split
      · exact Nat.zero_le _
      · have := (step0_len b).1
        show (step0 b).1.h ≤ _
        omega
/-- the last bytes, so many as are held, come to what is held -/
theorem tail_run (t : List Nat) : Dc.no.run (t.drop (t.length - (Dc.no.run t).1.h)) = ((Dc.no.run t).1, []) := by
  refine snoc_ind (Q := fun t => Dc.no.run (t.drop (t.length - (Dc.no.run t).1.h)) = ((Dc.no.run t).1, [])) rfl (fun t b ih => ?_) t
  · have hle := held_le t
    have hok := Dc.run_ok no_ok t
    rw [run_snoc]
    show Dc.no.run ((t ++ [b]).drop ((t ++ [b]).length - ((Dc.no.run t).1.step b).1.h)) = (((Dc.no.run t).1.step b).1, [])
    have hlen : (t ++ [b]).length = t.length + 1 := by simp
    have hall : ∀ s : Dc, s.h = 0 → Dc.no.run ((t ++ [b]).drop ((t ++ [b]).length - s.h)) = (Dc.no, []) := fun s hs => by
      rw [hs, Nat.sub_zero, List.drop_length]; rfl
    have hone : ∀ s : Dc, s.h = 1 → Dc.no.run ((t ++ [b]).drop ((t ++ [b]).length - s.h)) = Dc.no.step b := fun s hs => by
      rw [hs, hlen, Nat.add_sub_cancel, List.drop_left, run_one]
    generalize hd : (Dc.no.run t).1 = d at *
    by_cases hm : d.may b = true
    · by_cases hl : (d.next b).l = 0
      · have e : d.step b = (Dc.no, [(d.next b).v]) := by unfold Dc.step; rw [if_pos hm, if_pos hl]
        rw [e]
        exact hall Dc.no rfl
      · have e : d.step b = (d.next b, []) := by unfold Dc.step; rw [if_pos hm, if_neg hl]
        rw [e]
        by_cases h0 : d.h = 0
        · have hn := ok_no hok h0
          subst hn
          have h1 : (Dc.no.next b).h = 1 := (begunF_size b).1
          rw [hone _ h1]
          exact e
        · have h1 : (d.next b).h = d.h + 1 := by unfold Dc.next; rw [if_neg h0]
          have e2 : (t ++ [b]).drop ((t ++ [b]).length - (d.next b).h) = t.drop (t.length - d.h) ++ [b] := by
            rw [h1, hlen, show t.length + 1 - (d.h + 1) = t.length - d.h from by omega, List.drop_append_of_le_length (by omega)]
          rw [e2, Dc.run_append, ih]
          simp [Dc.run, e]
    · by_cases h0 : d.h = 0
      · have e : d.step b = (Dc.no, [65533]) := by unfold Dc.step; rw [if_neg hm, if_pos h0]
        rw [e]
        exact hall Dc.no rfl
      · have e : d.step b = ((step0 b).1, 65533 :: (step0 b).2) := by unfold Dc.step; rw [if_neg hm, if_neg h0]
        rw [e]
        have hc := (step0_len b).1
        have hs := no_step b
        by_cases hz : (step0 b).1.h = 0
        · have hn := ok_no (step0_ok b) hz
          show Dc.no.run ((t ++ [b]).drop ((t ++ [b]).length - (step0 b).1.h)) = ((step0 b).1, [])
          rw [hall _ hz, hn]
        · have h1 : (step0 b).1.h = 1 := by omega
          have h2 : (step0 b).2 = [] := List.eq_nil_of_length_eq_zero (by omega)
          show Dc.no.run ((t ++ [b]).drop ((t ++ [b]).length - (step0 b).1.h)) = ((step0 b).1, [])
          rw [hone _ h1, hs, ← h2]

def Ops (w : World) (sp : Option Addr) (k : Nat) (K : Nat → Int) (P : Nat → Option Addr) (C : Nat → Nat) (B : Nat → List Nat) : Prop :=
  (k = 0 ∨ ∃ q o, sp = some ⟨q, o, none⟩ ∧ ∀ i, i < k → w.cell? ⟨q, o + i * 2, none⟩ = some (.int .i64 (K i)) ∧ w.cell? ⟨q, o + i * 2 + 1, none⟩ = some (.slice (P i) (B i).length (C i))) ∧ (∀ i, i < k → Piece w (P i) (C i) (B i)) ∧ k ≤ maxLen

theorem uops_of {H : Type} {enc : TypeId × Value → H} {w : World} {fuel : Nat} {cs : List Value} {x : DataW H × List MemPlace}
    (h : DataW.trod enc Tryd.prog w 0 (fun _ => true) true fuel 30 cs = some x) : ∃ (sp : Option Addr) (k cc : Nat) (K : Nat → Int) (P : Nat → Option Addr) (C : Nat → Nat) (B : Nat → List Nat), cs = [.slice sp k cc] ∧ Ops w sp k K P C B := by
  rcases Go.Deep.open_slice_pairs Tryd.underlying30 Tryd.underlying34 (by kernel_rfl) rfl rfl (by kernel_rfl) (by kernel_rfl) h with ⟨hcs, _⟩ | ⟨a, len, cap, m, n, V0, V1, D0, D1, P0, P1, hcs, _, hl, hm, hmm, _, hx⟩
  · exact ⟨none, 0, 0, fun _ => 0, fun _ => none, fun _ => 0, fun _ => [], hcs, Or.inl rfl, fun i hi => absurd hi (Nat.not_lt_zero _), Nat.zero_le _⟩
  · have hm' : m = cap := by simpa using hmm
    obtain ⟨f, hf⟩ := Go.Deep.choose_lt (α := Int × Option Addr × Nat × List Nat) (n := len) (p := fun i q => V0 i = .int .i64 q.1 ∧ V1 i = .slice q.2.1 q.2.2.2.length q.2.2.1 ∧ Piece w q.2.1 q.2.2.1 q.2.2.2) (fun i hi => by
      obtain ⟨p, c, xs, h1, h2⟩ := piece_of (hx i (by omega)).2.2.2
      obtain ⟨z, hz, _, _⟩ := DataW.trod_int Tryd.underlying3 (hx i (by omega)).2.2.1
      exact ⟨(z, p, c, xs), by simpa using hz, by simpa using h1, h2⟩)
    refine ⟨some a, len, cap, fun i => (f i).1, fun i => (f i).2.1, fun i => (f i).2.2.1, fun i => (f i).2.2.2, hcs, ?_, fun i hi => (hf i hi).2.2, by omega⟩
    by_cases h0 : len = 0
    · exact Or.inl h0
    · right
      obtain ⟨b, off, spot⟩ := a
      have hc := (hx 0 (by omega)).1
      have hspot : spot = none := by simpa [Addr.add] using World.cell?_spot hc
      subst hspot
      refine ⟨b, off, rfl, fun i hi => ?_⟩
      have := hx i (by omega)
      rw [Addr.add_mid, Addr.add_mid] at this
      exact ⟨by rw [this.1, (hf i hi).1], by rw [Nat.add_assoc, this.2.1, (hf i hi).2.1]⟩

/-- what lies in memory between the rounds -/
structure PyS (w0 wx : World) (Z : Nat) (D : Dc) (H : List Nat) (v4 : Value) : Prop where
  a : Arr wx Z 41 (dcC D)
  o : wx.ownsRow w0.heap.size 5 1 v4 H.length (u8s H)
  lo : Below w0.heap.size w0 wx
  r : Dc.no.run H = (D, [])
  h : H.length = D.h
  z : w0.heap.size ≤ Z
  b : BytesN H
theorem PyS.ok {w0 wx : World} {Z : Nat} {D : Dc} {H : List Nat} {v4 : Value} (h : PyS w0 wx Z D H v4) : D.ok := by
  have := Dc.run_ok no_ok H
  rw [h.r] at this
  exact this
theorem PyS.kept {w0 wx wy : World} {Z : Nat} {D : Dc} {H : List Nat} {v4 : Value} (h : PyS w0 wx Z D H v4) (hb : Below wx.heap.size wx wy) : PyS w0 wy Z D H v4 :=
  ⟨h.a.kept hb, own_below h.o hb, h.lo.trans (hb.mono h.lo.size), h.r, h.h, h.z, h.b⟩
end Go.Proofs.YtijjifdgmffenaaDoor
