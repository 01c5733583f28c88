/-
  A law for the walk: 'append(x, y...)' where x is a row of the call's own and y any slice of bytes; how an argument of bytes lies; an owned row kept.
-/
import Derived.Test.YtmkoefnnpficfaaWN
import Derived.Laws.AppendOwnNone
import Derived.OpenShut
import Derived.Deep.RegionHeld3
namespace Go.Proofs.Ytmkoefnnpficfaa
open Go.RowKit

theorem wpList_append_bytes {w : World} {ops : Array Oper} {rest : List Oper} {o : Oper} {a : Act} {Q : Exit → Act → World → Prop} (hgd : o.guard = none) (s x : Operand)
    (ho : o.op = .call { callee := .builtin .append, args := #[s, x], argTypes := #[23, 23] })
    (B : Nat) (v : Value) (xs : List Int) (hs : a.eval s = v) (n : Nat) (hn : xs.length = n) (hown : w.ownsRow B 5 1 v n (xs.map (Value.int .u8)))
    (p : Option Addr) (m c : Nat) (ys : List Int) (hm : ys.length = m) (hx : a.eval x = .slice p m c) (hb : BytesIn w p ys) (hp : p = none → c = 0) (hsum : n + m ≤ 1000000) (hB : B ≤ w.heap.size)
    (h : ∀ v' w' zs k, Hid (zs = xs ++ ys) → Hid (zs.length = k) → w'.ownsRow B 5 1 v' k (zs.map (Value.int .u8)) → w.grownBy w' v.ownBlock → Hid (v = .slice none 0 0 ∨ v' ≠ .slice none 0 0) → wpList Try.prog ops Q rest (a.put o.dst v') w') :
    wpList Try.prog ops Q (o :: rest) a w := by
  obtain ⟨i0, hi, hz0, hz1, hz2⟩ := info_parts info5
  subst hm hn
  cases p with
  | none =>
    have e0 := hp rfl
    subst e0
    rcases hb.2 with h0 | ⟨b, off, h0, _⟩
    · subst h0
      refine wpList_append_own_none hgd s x 23 ho B 5 i0 1 Try.underlying23 hi v _ _ hs hown hx ?_
      refine h v w xs _ (hide (by simp)) (hide rfl) hown (grown_refl _ _) ?_
      by_cases hv : v = .slice none 0 0
      · exact Or.inl hv
      · exact Or.inr hv
    · cases h0
  | some ad =>
    refine wpList_append_own w hgd s x 23 ho B 5 i0 (.int .u8 0) 1 1 Try.underlying23 hi hz0 hz1 hz2 rfl (by decide) v _ _ hs hown ad ys.length c (ys.map (Value.int .u8)) hx (by simp) ?_ ?_ ?_ (by omega) hB ?_
    · intro j u hj
      have hjn : j < ys.length := by
        have := (List.getElem?_eq_some_iff.1 hj).1
        simpa using this
      rcases hb.2 with h0 | ⟨b, off, h0, hcell⟩
      · subst h0; simp at hjn
      · cases h0
        rw [addr_add, hcell j hjn]
        rw [map_at_u8 hjn] at hj
        exact hj
    · intro u hu
      obtain ⟨y, _, rfl⟩ := List.mem_map.1 hu
      rfl
    · unfold maxLen; omega
    · intro v' w' h1 h2 h3
      refine h v' w' (xs ++ ys) _ (hide rfl) (hide (List.length_append)) (by rw [List.map_append]; exact h1) h2 ?_
      by_cases hv : v = .slice none 0 0
      · exact Or.inl hv
      · exact Or.inr fun e => hv (h3.1 e).1

/-- an operation of a region that draws its order is taken first: its slot told as a number -/
theorem take_dst {P : Program} {md : Region.Mode} {ops : Array Oper} {Q : Exit → Act → World → Prop} {i : Nat} {oi : Oper} {v : Value} {fuel : Nat} {listed : Array Bool} {a : Act} {w : World} {d : Nat} (hi : ops[i]? = some oi) (hd : oi.dst = some d)
    (hs : Region.noSelect ops = true) (hf : Region.free md ops listed i = true) (hr : (Region.ready md ops listed).contains i = true)
    (hQ : ∀ c a w, Q (.panic c) (a.put oi.dst v) w → Q (.panic c) a w) (hw : Region.wanted oi (yielded ops a.tmps) = true) (hy : ∀ w, (execOp a.eval oi).run P w = .ok (.value v) w)
    (h : wpAny P md ops Q fuel (listed.setIfInBounds i true) (a.put (some d) v) w) : wpAny P md ops Q (fuel + 1) listed a w :=
  wpAny_take hi hs hf hr hQ (Or.inl ⟨hw, hy⟩) (by rw [hd]; exact h)

/-- .. one that its guard does not want -/
theorem skip_dst {P : Program} {md : Region.Mode} {ops : Array Oper} {Q : Exit → Act → World → Prop} {i : Nat} {oi : Oper} {fuel : Nat} {listed : Array Bool} {a : Act} {w : World} {d : Nat} (hi : ops[i]? = some oi) (hd : oi.dst = some d)
    (hs : Region.noSelect ops = true) (hf : Region.free md ops listed i = true) (hr : (Region.ready md ops listed).contains i = true)
    (hQ : ∀ c a w, Q (.panic c) (a.put oi.dst undef) w → Q (.panic c) a w) (hw : Region.wanted oi (yielded ops a.tmps) = false)
    (h : wpAny P md ops Q fuel (listed.setIfInBounds i true) (a.put (some d) undef) w) : wpAny P md ops Q (fuel + 1) listed a w :=
  wpAny_take hi hs hf hr hQ (Or.inr ⟨hw, rfl⟩) (by rw [hd]; exact h)

/-- the same under a condition on the world that is held throughout -/
theorem take_dstH {P : Program} {md : Region.Mode} {ops : Array Oper} {Q : Exit → Act → World → Prop} {S : World → Prop} {i : Nat} {oi : Oper} {v : Value} {fuel : Nat} {listed : Array Bool} {a : Act} {w : World} {d : Nat} (hi : ops[i]? = some oi) (hd : oi.dst = some d)
    (hs : Region.noSelect ops = true) (hf : Region.free md ops listed i = true) (hr : (Region.ready md ops listed).contains i = true)
    (hQ : ∀ c a w, Q (.panic c) (a.put oi.dst v) w → Q (.panic c) a w) (hw : Region.wanted oi (yielded ops a.tmps) = true) (hS : S w) (hy : ∀ w, S w → (execOp a.eval oi).run P w = .ok (.value v) w)
    (h : wpAnyH P md ops Q S fuel (listed.setIfInBounds i true) (a.put (some d) v) w) : wpAnyH P md ops Q S (fuel + 1) listed a w :=
  wpAnyH_take hi hs hf hr hQ (Or.inl ⟨hw, hy⟩) hS (by rw [hd]; exact h)

theorem skip_dstH {P : Program} {md : Region.Mode} {ops : Array Oper} {Q : Exit → Act → World → Prop} {S : World → Prop} {i : Nat} {oi : Oper} {fuel : Nat} {listed : Array Bool} {a : Act} {w : World} {d : Nat} (hi : ops[i]? = some oi) (hd : oi.dst = some d)
    (hs : Region.noSelect ops = true) (hf : Region.free md ops listed i = true) (hr : (Region.ready md ops listed).contains i = true)
    (hQ : ∀ c a w, Q (.panic c) (a.put oi.dst undef) w → Q (.panic c) a w) (hw : Region.wanted oi (yielded ops a.tmps) = false) (hS : S w)
    (h : wpAnyH P md ops Q S fuel (listed.setIfInBounds i true) (a.put (some d) undef) w) : wpAnyH P md ops Q S (fuel + 1) listed a w :=
  wpAnyH_take hi hs hf hr hQ (Or.inr ⟨hw, rfl⟩) hS (by rw [hd]; exact h)

/-- an argument of bytes, as it came in -/
def Arg (w : World) (p : Option Addr) (cap : Nat) (xs : List Int) : Prop :=
  BytesIn w p xs ∧ xs.length ≤ cap ∧ cap ≤ maxLen ∧ (p = none → cap = 0)

theorem bytes_of_row {w : World} {x : Addr} {len cap : Nat} {zs : List Int} (hl : len ≤ cap) (hm : cap ≤ maxLen) (hz : zs.length = cap) (hcell : ∀ i, i < zs.length → w.cell? (x.add i) = some (.int .u8 (zs.getD i 0))) (hwz : ∀ n ∈ zs, (Lit.int .u8 n).wf = true) :
    ∃ xs : List Int, xs.length = len ∧ Arg w (some x) cap xs := by
  refine ⟨zs.take len, by simp; omega, ⟨fun y hy => ?_, ?_⟩, by simp; omega, hm, fun h => by cases h⟩
  · have := bounds_u8 (hwz y (List.mem_of_mem_take hy))
    omega
  · by_cases h0 : len = 0
    · left; simp [h0]
    · right
      obtain ⟨b, off, spot⟩ := x
      have hc := hcell 0 (by omega)
      have hspot : spot = none := by simpa [Addr.add] using World.cell?_spot hc
      subst hspot
      refine ⟨b, off, rfl, fun i hi => ?_⟩
      have hi' : i < len := by simp at hi; omega
      have := hcell i (by omega)
      rw [addr_add] at this
      rw [this]
      simp [List.getD, hi']

theorem bytes_lt {w : World} {p : Option Addr} {xs : List Int} (h : BytesIn w p xs) : xs = [] ∨ ∃ b o, p = some ⟨b, o, none⟩ ∧ b < w.heap.size := by
  rcases h.2 with h0 | ⟨b, o, rfl, hc⟩
  · exact Or.inl h0
  · cases xs with
    | nil => exact Or.inl rfl
    | cons c r => exact Or.inr ⟨b, o, rfl, block_lt_of_cell (hc 0 (by simp))⟩

/-- bytes below a number stay where nothing below it was written -/
theorem bytes_below {B : Nat} {w w' : World} {p : Option Addr} {xs : List Int} (h : BytesIn w p xs) (hb : Below B w w') (hp : ∀ a, p = some a → a.block < B) : BytesIn w' p xs := by
  refine ⟨h.1, ?_⟩
  rcases h.2 with h0 | ⟨b, o, rfl, hc⟩
  · exact Or.inl h0
  · exact Or.inr ⟨b, o, rfl, fun i hi => (hb.cell (p := ⟨b, o + i, none⟩) (by have := hp _ rfl; exact this)).trans (hc i hi)⟩

end Go.Proofs.Ytmkoefnnpficfaa
