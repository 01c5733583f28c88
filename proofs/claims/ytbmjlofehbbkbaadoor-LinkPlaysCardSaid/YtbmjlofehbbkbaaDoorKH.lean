/-
  Several texts, joined: IU.
-/
import Derived.Test.YtbmjlofehbbkbaaDoorKE

/- Slices of things that are done, and of packets that go, handed in. -/
namespace Go.Proofs.YtbmjlofehbbkbaaDoor
open Go.ChangeShapes Go.WideShapes Go.ChangeAt Go.WideMaps Go.WideElems Go.RowKit

theorem mapM_at {α β : Type} (f : α → Option β) : ∀ (l : List α) (r : List β), l.mapM f = some r → r.length = l.length ∧ ∀ (j : Nat) (v : β), r[j]? = some v → ∃ x : α, l[j]? = some x ∧ f x = some v
  | [], r, h => by simp at h; subst h; simp
  | x :: l, r, h => by
    rw [List.mapM_cons] at h
    simp only [bind, Option.bind_eq_some_iff, pure, Option.some.injEq] at h
    obtain ⟨y, hy, r', hr, rfl⟩ := h
    obtain ⟨h1, h2⟩ := mapM_at f l r' hr
    refine ⟨by simp [h1], fun j v hv => ?_⟩
    cases j with
    | zero => simp at hv; subst hv; exact ⟨x, rfl, hy⟩
    | succ j => simpa using h2 j v (by simpa using hv)
theorem cells_any {w : World} {a : Addr} {n : Nat} {cs : List Value} (h : w.cells? 0 a n = some cs) : ∀ j v, cs[j]? = some v → w.cell? (a.add j) = some v := by
  unfold World.cells? at h
  rw [if_pos (Nat.zero_le _)] at h
  intro j v hv
  obtain ⟨x, hx, hf⟩ := (mapM_at _ _ _ h).2 j v hv
  have hj : j < n := by have := (List.getElem?_eq_some_iff.1 hx).1; simpa using this
  rw [List.getElem?_range hj] at hx
  cases hx
  exact hf

/-- things of so many cells, in a row -/
def RowIn {α : Type} (C : α → List Value) (s : Nat) (w : World) (p : Option Addr) (xs : List α) : Prop := xs = [] ∨ ∃ g o, p = some ⟨g, o, none⟩ ∧ ∀ (m : Nat) (k : α), xs[m]? = some k → w.rangeAt g (o + m * s) (C k)
theorem rows_of {α : Type} [Inhabited α] {C : α → List Value} {s : Nat} {IN : World → α → Prop} {H : Type} {enc : TypeId × Value → H} {P : Program} {w : World} {fuel : Nat} {t e : TypeId} {cs : List Value} {x : DataW H × List MemPlace} (ht : P.underlying t = some (.slice e)) (hs : P.cellsOf e = s) (hC : ∀ k, 0 < (C k).length)
    (ho : ∀ (n : Nat) (c : List Value) (y : DataW H × List MemPlace), DataW.trod enc P w 0 (fun _ => true) true n e c = some y → ∃ k : α, c = C k ∧ IN w k)
    (h : DataW.trod enc P w 0 (fun _ => true) true fuel t cs = some x) : ∃ (p : Option Addr) (c : Nat) (xs : List α), cs = [.slice p xs.length c] ∧ RowIn C s w p xs ∧ ∀ k ∈ xs, IN w k := by
  rcases Go.Deep.open_slice ht h with ⟨hcs, _⟩ | ⟨a, len, cap, m, n, D, Pl, hcs, _, hl, hm, hmm, _, hx⟩
  · exact ⟨none, 0, [], hcs, Or.inl rfl, fun k hk => by cases hk⟩
  · have hm' : m = cap := by simpa using hmm
    obtain ⟨f, hf⟩ := Go.Deep.choose_lt (α := α) (n := len) (p := fun i (k : α) => (∀ j v, (C k)[j]? = some v → w.cell? ((a.add (i * s)).add j) = some v) ∧ IN w k) (fun i hi => by
      obtain ⟨cs', h1, h2⟩ := hx i (by omega)
      rw [hs] at h1
      obtain ⟨k, hk, hin⟩ := ho _ _ _ h2
      refine ⟨k, fun j v hv => ?_, hin⟩
      rw [← hk] at hv
      exact cells_any h1 j v hv)
    refine ⟨some a, cap, (List.range len).map f, by simpa using hcs, ?_, fun k hk => ?_⟩
    · by_cases h0 : len = 0
      · left; subst h0; rfl
      · right
        obtain ⟨b, off, spot⟩ := a
        obtain ⟨v0, hv0⟩ : ∃ v0, (C (f 0))[0]? = some v0 := ⟨_, List.getElem?_eq_getElem (hC _)⟩
        have hc := (hf 0 (by omega)).1 0 _ hv0
        have hspot : spot = none := by simpa [Addr.add] using World.cell?_spot hc
        subst hspot
        refine ⟨b, off, rfl, fun i k hk => ?_⟩
        have hi : i < len := by
          have := (List.getElem?_eq_some_iff.1 hk).1
          simpa using this
        rw [List.getElem?_map, List.getElem?_range hi] at hk
        simp only [Option.map_some, Option.some.injEq] at hk
        subst hk
        intro j v hv
        have := (hf i hi).1 j v hv
        rw [Addr.add_mid, Addr.add_mid] at this
        exact this
    · obtain ⟨i, hi, rfl⟩ := List.mem_map.1 hk
      exact (hf i (by simpa using hi)).2
theorem RowIn.at {α : Type} {C : α → List Value} {s : Nat} {W w : World} {p : Option Addr} {xs : List α} (h : RowIn C s W p xs) (hb : Below W.heap.size W w) {j : Nat} (hj : j < xs.length) : ∃ (g o : Nat) (k : α), p = some ⟨g, o, none⟩ ∧ xs[j]? = some k ∧ w.rangeAt g (o + j * s) (C k) := by
  rcases h with h0 | ⟨g, o, hp, hc⟩
  · subst h0; simp at hj
  · refine ⟨g, o, xs[j], hp, List.getElem?_eq_getElem hj, fun i v hv => ?_⟩
    have h1 := hc j xs[j] (List.getElem?_eq_getElem hj) i v hv
    exact (hb.cell (p := ⟨g, o + j * s + i, none⟩) (block_lt_of_cell h1)).trans h1

instance : Inhabited Ob := ⟨⟨0, 0, 0, 0, false, 0, [], none, 0⟩⟩
theorem lops_of {H : Type} {enc : TypeId × Value → H} {w : World} {fuel : Nat} {cs : List Value} {x : DataW H × List MemPlace} (h : DataW.trod enc Tryd.prog w 0 (fun _ => true) true fuel 27 cs = some x) :
    ∃ (p : Option Addr) (c : Nat) (xs : List Ob), cs = [.slice p xs.length c] ∧ RowIn Ob.C 7 w p xs ∧ ∀ k ∈ xs, ObIn w k :=
  rows_of (IN := ObIn) Tryd.underlying27 cellsOp (fun _ => by simp) (fun _ _ _ h => ob_cells h) h


end Go.Proofs.YtbmjlofehbbkbaaDoor
