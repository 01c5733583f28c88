/-
  The document's answer: Put, whatever the joiner and the piece.
-/
import Derived.Test.YtecpnnnkkofejaaGF
namespace Go.Proofs.Ytecpnnnkkofejaa
open Go.RowKit

theorem rput_any (w : World) (B g c N : Nat) (s : Js) (x : Pc) (p : Option Addr) (h : RP w B g s) (ht : Piece w p c x.b) (ha : Apt p x.b g) (hf : s.fits N) (hN : N ≤ 1000) (hB : B ≤ w.heap.size) :
    Calls Try.prog 21 #[.pointer (some ⟨g, 0, none⟩), pcV x p c] w fun e w' => ∃ q, (∃ d, e = .returned (.tuple #[.slice q (s.tell x).1.length d, .bool (s.tell x).2.1, .int .i64 (s.tell x).2.2])) ∧ BR w' q (s.tell x).1 ∧ RP w' B g (s.next x) ∧ Grow w w' (SP w B g) := by
  have hgw : g < w.heap.size := by obtain ⟨q, d, ks, h1, _⟩ := h; exact h1.j.lt
  by_cases hx : x.e = 0
  · by_cases hl : s.met = true ∧ x.i < s.i
    · obtain ⟨e1, e2⟩ := tell_low hx hl
      rw [e1, e2]
      refine (rput_no w B g c s x 0 p h ht hx (Or.inr hl)).mono ?_
      rintro e w' ⟨rfl, hj, hg⟩
      exact ⟨none, ⟨0, rfl⟩, br_none _, hj, hg⟩
    · refine rput_more w B g c s _ _ (s.next x) x p (s.tell x).1 (s.tell x).2.1 (s.tell x).2.2 h ht hx hl hgw ha rfl rfl N hf hN hB ?_ ?_ ?_ ?_
      · intro hs
        obtain ⟨e1, e2⟩ := tell_stop hx hl hs
        rw [e1, e2]
        exact ⟨rfl, rfl, rfl, rfl⟩
      · intro hs hz
        obtain ⟨e1, e2⟩ := tell_much hx hl hs hz
        rw [e1, e2]
        exact ⟨rfl, rfl, rfl, rfl⟩
      · intro hs hz hq
        obtain ⟨e1, e2⟩ := tell_some hx hl hs hz hq
        rw [e1, e2]
        exact ⟨rfl, rfl, rfl, rfl⟩
      · intro hs hz hq
        obtain ⟨e1, e2⟩ := tell_all hx hl hs hz hq
        rw [e1, e2]
        exact ⟨rfl, rfl, rfl, rfl⟩
  · obtain ⟨e1, e2⟩ := tell_err (s := s) hx
    rw [e1, e2]
    refine (rput_no w B g c s x x.e p h ht rfl (Or.inl hx)).mono ?_
    rintro e w' ⟨rfl, hj, hg⟩
    exact ⟨none, ⟨0, rfl⟩, br_none _, hj, hg⟩

end Go.Proofs.Ytecpnnnkkofejaa
