/-
  A piece that is handed in, opened; a piece in a cell of its own.
-/
import Derived.Test.YtecpnnnkkofejaaGU
import Derived.Test.YtecpnnnkkofejaaBN
namespace Go.Proofs.Ytecpnnnkkofejaa
open Go.RowKit

theorem cellsPc : Try.prog.cellsOf 25 = 4 := by kernel_rfl
/-- the bounds of what is handed in -/
def PcIn (W : World) (x : Pc) (q : Option Addr) (c : Nat) : Prop := x.i < 18446744073709551616 ∧ (Lit.int .i64 x.a).wf = true ∧ Piece W q c x.b
theorem open_pc {H : Type} {enc : TypeId × Value → H} {W : World} {r : Reach} {b0 : Nat} {v : Value} {d : DataW H} {p : List MemPlace}
    (hv : Value.okWide Try.prog W r b0 25 v) (h : DataW.Trod enc Try.prog W 0 (fun _ => true) true 25 v d p) : ∃ (x : Pc) (q : Option Addr) (c : Nat), v = pcV x q c ∧ PcIn W x q c := by
  obtain ⟨v0, v1, v2, v3, y0, y1, y2, y3, n, rfl, _, _, h0, h1, h2, h3⟩ := Go.Joins.open_agg4 Try.underlying25 (by kernel_rfl) cellsPc hv h
  obtain ⟨a, e0, _, hw⟩ := DataW.trod_int Try.underlying22 h0
  obtain ⟨b, e1, _, hw1⟩ := DataW.trod_int Try.underlying3 h1
  obtain ⟨l, e2, _⟩ := DataW.trod_bool Try.underlying4 h2
  obtain ⟨q, c, xs, e3, hp⟩ := piece_of h3
  obtain ⟨m, rfl, hm⟩ := wf_u64 hw
  simp at e0 e1 e2 e3
  subst e0 e1 e2 e3
  exact ⟨⟨m, b, l, xs⟩, q, c, rfl, hm, hw1, hp⟩

theorem okWide_lt {P : Program} {w : World} {base : Nat} {t e : TypeId} {a : Addr} {len cap : Nat} (ht : P.underlying t = some (.slice e)) (h : Value.okWide P w .any base t (.slice (some a) len cap)) : a.block < w.heap.size := by
  simp only [Value.okWide, ht, Cell.okWide, Cell.ok, World.has] at h
  obtain ⟨_, _, _, _, row, cells, hs, _⟩ := h
  rcases Nat.lt_or_ge a.block w.heap.size with h' | h'
  · exact h'
  · exfalso
    simp [World.shape?, Array.getElem?_eq_none h'] at hs

/-- bytes lie apart from a piece -/
theorem bi_apt {w : World} {p q : Option Addr} {b : List Nat} {g c : Nat} {x : Pc} (h : BI w p b) (hA : Arr w g 25 (pcC x q c)) : Apt p b g := by
  intro a ha hn e
  rcases h with h0 | ⟨g', o, hp, hc⟩
  · exact hn h0
  · rw [ha] at hp
    cases hp
    have hl : 0 < b.length := List.length_pos_iff.2 hn
    have h1 := hc 0 hl
    simp only at e
    subst e
    rw [hA.cell] at h1
    match hk : o + 0, h1 with
    | 0, h1 => simp at h1
    | 1, h1 => simp at h1
    | 2, h1 => simp at h1
    | 3, h1 => simp at h1
    | k + 4, h1 => simp at h1
theorem BR.setPc {w : World} {p q : Option Addr} {b : List Nat} {g c : Nat} {x : Pc} (h : BR w p b) (hA : Arr w g 25 (pcC x q c)) (us : Array Value) : BR (w.setRow g us) p b := ⟨bi_grown h.1 (grown_setRow _ _ _) (bi_apt h.1 hA), h.2⟩
/-- a piece in a new cell -/
theorem put_cell (w : World) (M : Pc) (q : Option Addr) (d : Nat) : Arr ((w.alloc (Obj.cells #[.int .u64 0, .int .i64 0, .bool false, .slice none 0 0] 25)).setRow w.heap.size (pcC M q d).toArray) w.heap.size 25 (pcC M q d) ∧ Below w.heap.size w ((w.alloc (Obj.cells #[.int .u64 0, .int .i64 0, .bool false, .slice none 0 0] 25)).setRow w.heap.size (pcC M q d).toArray) := by
  have h1 : Arr (w.alloc (Obj.cells #[.int .u64 0, .int .i64 0, .bool false, .slice none 0 0] 25)) w.heap.size 25 (pcC Pc.none none 0) := Arr.new w _ _
  exact ⟨h1.row _, below_setRow ((Below.refl _ _).alloc (Nat.le_refl _) _) (Nat.le_refl _) h1.lt _⟩
theorem zero_cell (w : World) : (w.alloc (Obj.cells #[.int .u64 0, .int .i64 0, .bool false, .slice none 0 0] 25)).heap[w.heap.size]? = some (.cells #[.int .u64 0, .int .i64 0, .bool false, .slice none 0 0] 25 (0, 0)) := heap_alloc_new w _

end Go.Proofs.Ytecpnnnkkofejaa
