/-
  Pieces that are handed in; a joiner of the one side while the other one's is put to.
-/
import Derived.Test.YtecpnnnkkofejaaGV
namespace Go.Proofs.Ytecpnnnkkofejaa
open Go.RowKit Go.Maps

theorem open_cells4 {H : Type} {enc : TypeId × Value → H} {P : Program} {w : World} {base : Nat} {spare : Nat → Bool} {held : Bool} {t : TypeId} {f0 f1 f2 f3 : Field} {fuel : Nat} {c0 c1 c2 c3 : Value} {x : DataW H × List MemPlace} (hs : P.underlying t = some (.struct #[f0, f1, f2, f3])) (hone : Go.Deep.oneCellFields P #[f0, f1, f2, f3] = true)
    (h : DataW.trod enc P w base spare held fuel t [c0, c1, c2, c3] = some x) : ∃ (y0 y1 y2 y3 : DataW H × List MemPlace) (n : Nat),
      DataW.trod enc P w base spare held n f0.type [c0] = some y0 ∧ DataW.trod enc P w base spare held n f1.type [c1] = some y1 ∧ DataW.trod enc P w base spare held n f2.type [c2] = some y2 ∧ DataW.trod enc P w base spare held n f3.type [c3] = some y3 := by
  obtain ⟨y0, y1, y2, y3, n, hx, _, h0, h1, h2, h3⟩ := Go.Joins.trod_struct4 hs h
  obtain ⟨o0, k0⟩ := Go.Deep.hone_of hone 0 f0 rfl
  obtain ⟨o1, k1⟩ := Go.Deep.hone_of hone 1 f1 rfl
  obtain ⟨o2, k2⟩ := Go.Deep.hone_of hone 2 f2 rfl
  obtain ⟨o3, k3⟩ := Go.Deep.hone_of hone 3 f3 rfl
  exact ⟨y0, y1, y2, y3, n, by simpa [o0, k0] using h0, by simpa [o1, k1] using h1, by simpa [o2, k2] using h2, by simpa [o3, k3] using h3⟩
theorem cells4 {w : World} {a : Addr} {cs : List Value} (h : w.cells? 0 a 4 = some cs) : ∃ c0 c1 c2 c3, cs = [c0, c1, c2, c3] ∧ w.cell? (a.add 0) = some c0 ∧ w.cell? (a.add 1) = some c1 ∧ w.cell? (a.add 2) = some c2 ∧ w.cell? (a.add 3) = some c3 := by
  unfold World.cells? at h
  rw [if_pos (Nat.zero_le _), show List.range 4 = [0, 1, 2, 3] from rfl] at h
  simp only [List.mapM_cons, List.mapM_nil, Option.bind_eq_bind, Option.bind_eq_some_iff, Option.pure_def, Option.some.injEq] at h
  obtain ⟨c0, h0, l0, ⟨c1, h1, l1, ⟨c2, h2, l2, ⟨c3, h3, l3, h4, h5⟩, h6⟩, h7⟩, h8⟩ := h
  subst h4 h5 h6 h7 h8
  exact ⟨c0, c1, c2, c3, rfl, h0, h1, h2, h3⟩
theorem pk_cells {H : Type} {enc : TypeId × Value → H} {w : World} {n : Nat} {c0 c1 c2 c3 : Value} {x : DataW H × List MemPlace} (h : DataW.trod enc Try.prog w 0 (fun _ => true) true n 25 [c0, c1, c2, c3] = some x) : ∃ k : Pk, [c0, c1, c2, c3] = k.C ∧ PcIn w k.x k.p k.c := by
  obtain ⟨y0, y1, y2, y3, m, h0, h1, h2, h3⟩ := open_cells4 Try.underlying25 (by kernel_rfl) h
  obtain ⟨a, e0, _, hw⟩ := DataW.trod_int Try.underlying22 h0
  obtain ⟨b, e1, _, hw1⟩ := DataW.trod_int Try.underlying3 h1
  obtain ⟨l, e2, _⟩ := DataW.trod_bool Try.underlying4 h2
  obtain ⟨q, c, xs, e3, hp⟩ := piece_of h3
  obtain ⟨i, rfl, hi⟩ := wf_u64 hw
  simp at e0 e1 e2 e3
  subst e0 e1 e2 e3
  exact ⟨⟨⟨i, b, l, xs⟩, q, c⟩, rfl, hi, hw1, hp⟩

/-- pieces that are handed in -/
def PcsIn (w : World) (p : Option Addr) (xs : List Pk) : Prop := (xs = [] ∨ ∃ g o, p = some ⟨g, o, none⟩ ∧ ∀ (m : Nat) (k : Pk), xs[m]? = some k → w.rangeAt g (o + m * 4) k.C) ∧ ∀ k ∈ xs, PcIn w k.x k.p k.c
instance : Inhabited Pk := ⟨⟨Pc.none, none, 0⟩⟩
theorem pcs_of {H : Type} {enc : TypeId × Value → H} {w : World} {fuel : Nat} {cs : List Value} {x : DataW H × List MemPlace}
    (h : DataW.trod enc Try.prog w 0 (fun _ => true) true fuel 36 cs = some x) : ∃ (p : Option Addr) (c : Nat) (xs : List Pk), cs = [.slice p xs.length c] ∧ PcsIn w p xs := by
  rcases Go.Deep.open_slice Try.underlying36 h with ⟨hcs, _⟩ | ⟨a, len, cap, m, n, D, Pl, hcs, _, hl, hm, hmm, _, hx⟩
  · exact ⟨none, 0, [], hcs, Or.inl rfl, fun k hk => by cases hk⟩
  · have hm' : m = cap := by simpa using hmm
    obtain ⟨f, hf⟩ := Go.Deep.choose_lt (α := Pk) (n := len) (p := fun i k => (∀ j v, k.C[j]? = some v → w.cell? ((a.add (i * 4)).add j) = some v) ∧ PcIn w k.x k.p k.c) (fun i hi => by
      obtain ⟨cs', h1, h2⟩ := hx i (by omega)
      rw [cellsPc] at h1
      obtain ⟨c0, c1, c2, c3, rfl, e0, e1, e2, e3⟩ := cells4 h1
      obtain ⟨k, hk, hin⟩ := pk_cells h2
      refine ⟨k, fun j v hv => ?_, hin⟩
      rw [← hk] at hv
      match j, hv with
      | 0, hv => cases hv; exact e0
      | 1, hv => cases hv; exact e1
      | 2, hv => cases hv; exact e2
      | 3, hv => cases hv; exact e3
      | j + 4, hv => simp at hv)
    refine ⟨some a, cap, (List.range len).map f, by simpa using hcs, ?_, fun k hk => ?_⟩
    · by_cases h0 : len = 0
      · left; subst h0; rfl
      · right
        obtain ⟨b, off, spot⟩ := a
        have hc := (hf 0 (by omega)).1 0 _ rfl
        have hspot : spot = none := by simpa [Addr.add] using World.cell?_spot hc
        subst hspot
        refine ⟨b, off, rfl, fun i k hk => ?_⟩
        have hi : i < len := by
          have := (List.getElem?_eq_some_iff.1 hk).1
          simpa using this
        rw [List.getElem?_map, List.getElem?_range hi] at hk
        simp only [Option.map_some, Option.some.injEq] at hk
        subst hk
        intro j v hv
        have := (hf i hi).1 j v hv
        rw [Addr.add_mid, Addr.add_mid] at this
        exact this
    · obtain ⟨i, hi, rfl⟩ := List.mem_map.1 hk
      exact (hf i (by simpa using hi)).2

/-- a joiner of the program's, while what the reference's Put may change is changed -/
theorem ep_grow {w w' : World} {B g : Nat} {k : Pk} {vs : List Value} (h : EP w k) (hg : Grow w w' (SP w B g)) (hA : Arr w g 45 vs) : EP w' k := by
  have hS : ∀ j cs fr, w.heap[j]? = some (.cells cs 5 fr) → ¬ SP w B g j := fun j cs fr hj hs => by
    rcases hs with rfl | ⟨_, cs', fr', h2⟩
    · unfold Arr at hA
      rw [hj] at hA
      simp at hA
    · rw [hj] at h2
      simp at h2
  have hb : ∀ a, k.p = some a → k.x.b ≠ [] → w'.heap[a.block]? = w.heap[a.block]? := fun a ha hn => by
    obtain ⟨_, cs, fr, h2⟩ := h.1.2 a ha hn
    refine hg.block a.block ?_ (hS _ _ _ h2)
    by_cases hlt : a.block < w.heap.size
    · exact hlt
    · rw [Array.getElem?_eq_none (by omega)] at h2; cases h2
  refine ⟨⟨⟨?_, h.1.1.2⟩, fun a ha hn => ?_⟩, h.2⟩
  · by_cases hn : k.x.b = []
    · exact Or.inl hn
    rcases h.1.1.1 with h0 | ⟨gg, o, hp, hc⟩
    · exact Or.inl h0
    · refine Or.inr ⟨gg, o, hp, fun i hi => ?_⟩
      have hb' : w'.heap[gg]? = w.heap[gg]? := hb _ hp hn
      exact (World.cell?_of_block (w := w) (a := ⟨gg, o + i, none⟩) hb').trans (hc i hi)
  · obtain ⟨h1, cs, fr, h2⟩ := h.1.2 a ha hn
    exact ⟨h1, cs, fr, by rw [hb a ha hn]; exact h2⟩
theorem pp_grow {w w' : World} {B g gj : Nat} {s : Js} {vs : List Value} (h : PP w gj s) (hg : Grow w w' (SP w B g)) (hA : Arr w g 45 vs) : PP w' gj s := by
  obtain ⟨⟨q, ks, hj, hm⟩, hz⟩ := h
  have hS : ¬ SP w B g gj := fun hs => by
    rcases hs with rfl | ⟨_, cs', fr', h2⟩
    · exact arr_ne hj.j hA (by decide) rfl
    · have := hj.j
      unfold Arr at this
      rw [this] at h2
      simp at h2
  refine ⟨⟨q, ks, ⟨(hg.block gj hj.j.lt hS).trans hj.j, hj.d, ?_, fun k hk => ep_grow (hj.e k hk) hg hA⟩, hm⟩, hz⟩
  cases q with
  | none => exact hj.m
  | some b =>
    obtain ⟨es, clock, hb, r⟩ := hj.m
    have hlt : b < w.heap.size := by
      by_cases hlt : b < w.heap.size
      · exact hlt
      · rw [Array.getElem?_eq_none (by omega)] at hb; cases hb
    refine ⟨es, clock, (hg.block b hlt (fun hs => ?_)).trans hb, r⟩
    rcases hs with rfl | ⟨_, cs', fr', h2⟩
    · unfold Arr at hA
      rw [hb] at hA
      cases hA
    · rw [hb] at h2
      cases h2

theorem ob_off {w w' : World} {B : Nat} {p : Option Addr} {b : List Nat} {r : Option Nat} (h : OB w B p b) (hg : w.grownBy w' r) (hr : ∀ a, p = some a → b ≠ [] → some a.block ≠ r) : OB w' B p b := by
  refine ⟨⟨bi_off h.1.1 hg hr, h.1.2⟩, fun a ha hn => ?_⟩
  obtain ⟨h1, cs, fr, h2⟩ := h.2 a ha hn
  have hlt : a.block < w.heap.size := by
    by_cases hlt : a.block < w.heap.size
    · exact hlt
    · rw [Array.getElem?_eq_none (by omega)] at h2; cases h2
  exact ⟨h1, cs, fr, by rw [hg.block _ hlt (hr a ha hn)]; exact h2⟩
theorem ob_lt {w : World} {B : Nat} {p : Option Addr} {b : List Nat} (h : OB w B p b) (a : Addr) (ha : p = some a) (hn : b ≠ []) : a.block < w.heap.size := by
  obtain ⟨_, cs, fr, h2⟩ := h.2 a ha hn
  by_cases hlt : a.block < w.heap.size
  · exact hlt
  · rw [Array.getElem?_eq_none (by omega)] at h2; cases h2
/-- what each piece that is held lies apart from -/
def Av (X : Option Nat) (k : Pk) : Prop := ∀ a, k.p = some a → k.x.b ≠ [] → some a.block ≠ X
/-- a joiner of the program's whose pieces lie apart from a block -/
def PPa (w : World) (g : Nat) (s : Js) (X : Option Nat) : Prop := (∃ q ks, PJ w g s.i s.done (s.must : Int) q ks ∧ ks.map Pk.x = s.l ∧ ∀ k ∈ ks, Av X k) ∧ (s.met = false → s = Js.none)
theorem PPa.pp {w : World} {g : Nat} {s : Js} {X : Option Nat} (h : PPa w g s X) : PP w g s := by
  obtain ⟨⟨q, ks, h1, h2, _⟩, h3⟩ := h
  exact ⟨⟨q, ks, h1, h2⟩, h3⟩
theorem PPa.kept {w w' : World} {g : Nat} {s : Js} {X : Option Nat} (h : PPa w g s X) (hb : Below w.heap.size w w') : PPa w' g s X := by
  obtain ⟨⟨q, ks, h1, h2, h3⟩, h4⟩ := h
  exact ⟨⟨q, ks, h1.kept hb, h2, h3⟩, h4⟩
theorem ppa_new {w : World} {g : Nat} {s : Js} {X : Option Nat} (h : PP w g s) (hX : ∀ k, X = some k → w.heap.size ≤ k) : PPa w g s X := by
  obtain ⟨⟨q, ks, h1, h2⟩, h3⟩ := h
  exact ⟨⟨q, ks, h1, h2, fun k hk a ha hn e => by have := ob_lt (h1.e k hk).1 a ha hn; have := hX _ e.symm; omega⟩, h3⟩
/-- .. that block is written: bytes -/
theorem PPa.write {w w' : World} {g : Nat} {s : Js} {X : Option Nat} (h : PPa w g s X) (hg : w.grownBy w' X) (hX : ∀ k, X = some k → ∃ cs fr, w.heap[k]? = some (.cells cs 5 fr)) : PP w' g s := by
  obtain ⟨⟨q, ks, h1, h2, h3⟩, h4⟩ := h
  refine ⟨⟨q, ks, ⟨h1.j.keptR hg (fun e => ?_), h1.d, h1.m.kept hg (fun b hb e => ?_), fun k hk => ⟨ob_off (h1.e k hk).1 hg (h3 k hk), (h1.e k hk).2⟩⟩, h2⟩, h4⟩
  · obtain ⟨cs, fr, hc⟩ := hX _ e
    have := h1.j
    unfold Arr at this
    rw [this] at hc
    simp at hc
  · subst hb
    obtain ⟨cs, fr, hc⟩ := hX _ e.symm
    obtain ⟨es, clock, hb, _⟩ := h1.m
    rw [hb] at hc
    cases hc
/-- the reference's joiner, alike -/
def RPa (w : World) (B g : Nat) (s : Js) (X : Option Nat) : Prop := ∃ q d ks, RJ w B g s.met s.done s.i (s.must : Int) q d ks ∧ ks.map Pk.x = s.l ∧ ∀ k ∈ ks, Av X k
theorem RPa.kept {w w' : World} {B g : Nat} {s : Js} {X : Option Nat} (h : RPa w B g s X) (hb : Below w.heap.size w w') : RPa w' B g s X := by
  obtain ⟨q, d, ks, h1, h2, h3⟩ := h
  exact ⟨q, d, ks, h1.kept hb, h2, h3⟩
theorem RPa.rp {w : World} {B g : Nat} {s : Js} {X : Option Nat} (h : RPa w B g s X) : RP w B g s := by
  obtain ⟨q, d, ks, h1, h2, _⟩ := h
  exact ⟨q, d, ks, h1, h2⟩
theorem rpa_new {w : World} {B g : Nat} {s : Js} {X : Option Nat} (h : RP w B g s) (hX : ∀ k, X = some k → w.heap.size ≤ k) : RPa w B g s X := by
  obtain ⟨q, d, ks, h1, h2⟩ := h
  exact ⟨q, d, ks, h1, h2, fun k hk a ha hn e => by have := ob_lt (h1.e k hk).1 a ha hn; have := hX _ e.symm; omega⟩
theorem rj_row_ne {w : World} {B k : Nat} {v : Value} {n : Nat} {xs : List Value} {cs : Array Value} {t : TypeId} {fr : Nat × Nat} (h : w.ownsRow B 25 4 v n xs) (hk : w.heap[k]? = some (.cells cs t fr)) (ht : t ≠ 25) : v.ownBlock ≠ some k := by
  intro e
  rcases h.2 with ⟨rfl, _⟩ | ⟨g, cap, cur, rfl, hb, hg, _⟩
  · simp [Value.ownBlock] at e
  · simp [Value.ownBlock] at e
    subst e
    rw [hg] at hk
    simp at hk
    exact ht hk.2.1.symm
/-- .. that block is written: bytes -/
theorem RPa.write {w w' : World} {B g : Nat} {s : Js} {X : Option Nat} (h : RPa w B g s X) (hg : w.grownBy w' X) (hX : ∀ k, X = some k → ∃ cs fr, w.heap[k]? = some (.cells cs 5 fr)) : RP w' B g s := by
  obtain ⟨q, d, ks, h1, h2, h3⟩ := h
  refine ⟨q, d, ks, ⟨h1.j.keptR hg (fun e => ?_), h1.o.kept hg ?_, fun k hk => ⟨ob_off (h1.e k hk).1 hg (h3 k hk), (h1.e k hk).2⟩⟩, h2⟩
  · obtain ⟨cs, fr, hc⟩ := hX _ e
    have := h1.j
    unfold Arr at this
    rw [this] at hc
    simp at hc
  · cases X with
    | none =>
      by_cases hv : (Value.slice q ks.length d).ownBlock = none
      · exact Or.inl hv
      · exact Or.inr hv
    | some k =>
      obtain ⟨cs, fr, hc⟩ := hX k rfl
      exact Or.inr (rj_row_ne h1.o hc (by decide))
/-- the program's joiner is put to -/
theorem RPa.put {w w' : World} {B g gj : Nat} {s : Js} {X : Option Nat} {vs : List Value} (h : RPa w B g s X) (hg : w.grownBy w' (some gj)) (hA : Arr w gj 55 vs) : RPa w' B g s X := by
  obtain ⟨q, d, ks, h1, h2, h3⟩ := h
  have hne : gj ≠ g := arr_ne hA h1.j (by decide)
  exact ⟨q, d, ks, ⟨h1.j.keptR hg (by simpa using hne), h1.o.kept hg (Or.inr (rj_row_ne h1.o hA (by decide))), fun k hk => ⟨(h1.e k hk).1.keptR hg hA (by decide), (h1.e k hk).2⟩⟩, h2, h3⟩
theorem RP.put {w w' : World} {B g gj : Nat} {s : Js} {vs : List Value} (h : RP w B g s) (hg : w.grownBy w' (some gj)) (hA : Arr w gj 55 vs) : RP w' B g s := by
  obtain ⟨q, d, ks, h1, h2⟩ := h
  have hne : gj ≠ g := arr_ne hA h1.j (by decide)
  exact ⟨q, d, ks, ⟨h1.j.keptR hg (by simpa using hne), h1.o.kept hg (Or.inr (rj_row_ne h1.o hA (by decide))), fun k hk => ⟨(h1.e k hk).1.keptR hg hA (by decide), (h1.e k hk).2⟩⟩, h2⟩
/-- another joiner of the program's is put to -/
theorem PP.beside {w w' : World} {g gj : Nat} {s : Js} {vs : List Value} (h : PP w g s) (hg : w.grownBy w' (some gj)) (hA : Arr w gj 55 vs) (hne : gj ≠ g) : PP w' g s := by
  obtain ⟨⟨q, ks, h1, h2⟩, h3⟩ := h
  exact ⟨⟨q, ks, h1.row hA (by decide) hne hg, h2⟩, h3⟩

end Go.Proofs.Ytecpnnnkkofejaa
