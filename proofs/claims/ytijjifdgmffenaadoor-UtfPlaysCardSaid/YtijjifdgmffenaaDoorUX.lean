/-
  A decoder that is put to while other things lie by.
-/
import Derived.Test.YtijjifdgmffenaaDoorUW
namespace Go.Proofs.YtijjifdgmffenaaDoor
open Go.RowKit

theorem put_nil_of (L cap : Nat) (p : Option Addr) (bs : List Nat) (w : World) (hL : LaidU w) (hp : Piece w p cap bs) (hl : bs.length = L) (hL2 : L ≤ 99000) {ts : List Nat} (hr : utfF bs = ts) :
    Calls Tryd.prog 17 #[.pointer none, .slice p L cap] w fun e w' => ∃ p' c', e = .returned (.slice p' ts.length c') ∧ RPiece w' p' c' (ints ts) ∧ Below w.heap.size w w' := by
  refine (put_nil L cap p bs w hL hp hl hL2).mono ?_
  rintro e w' ⟨v', rfl, ho, hb⟩
  rw [hr] at ho
  obtain ⟨p', c', rfl, h1, _⟩ := own_rpiece (l := ints ts) (by rw [ints_length]; exact ho)
  exact ⟨p', c', by rw [← ints_length], h1, hb⟩
theorem rdecode_fresh (L cap : Nat) (p : Option Addr) (t : List Nat) (w : World) (hp : Piece w p cap t) (hl : t.length = L) (h9 : L ≤ 99000) {d : Dc} {ts : List Nat} (hr : Dc.no.run t = (d, ts)) :
    Calls Tryd.prog 16 #[.slice p L cap] w fun e w' => ∃ p' c', e = .returned (.tuple #[.slice p' ts.length c', .int .i64 (d.h : Int)]) ∧ RPiece w' p' c' (ints ts) ∧ (∀ a, p' = some a → w.heap.size ≤ a.block) ∧ Below w.heap.size w w' := by
  refine (rdecode_any L cap p t w hp hl h9).mono ?_
  rintro e w' ⟨v, rfl, ho, hb⟩
  rw [hr] at ho ⊢
  obtain ⟨p', c', rfl, h1, h2⟩ := own_rpiece (l := ints ts) (by rw [ints_length]; exact ho)
  exact ⟨p', c', by rw [← ints_length], h1, h2, hb⟩
theorem RPiece.kp {w w' : World} {p : Option Addr} {c H Z B : Nat} {xs : List Int} (h : RPiece w p c xs) (hf : ∀ a, p = some a → H ≤ a.block) (hZ : Z < H) (hk : Kp B Z w w') (hB : w.heap.size ≤ B) : RPiece w' p c xs := by
  refine ⟨?_, h.2⟩
  rcases h.1 with h0 | ⟨q, o, rfl, hc⟩
  · exact Or.inl h0
  · refine Or.inr ⟨q, o, rfl, fun i hi => ?_⟩
    have h1 := hc i hi
    have h3 : H ≤ q := hf _ rfl
    have h2 := hk.block q (Nat.lt_of_lt_of_le (block_lt_of_cell h1) hB) (by omega)
    unfold World.cell? at h1 ⊢
    rw [h2]
    exact h1
theorem Arr.kp {w w' : World} {g Z B : Nat} {t : TypeId} {vs : List Value} (h : Arr w g t vs) (hne : g ≠ Z) (hk : Kp B Z w w') (hB : w.heap.size ≤ B) : Arr w' g t vs :=
  (hk.block g (Nat.lt_of_lt_of_le h.lt hB) hne).trans h
end Go.Proofs.YtijjifdgmffenaaDoor
