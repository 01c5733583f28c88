/-
  Several texts, joined: IR.
-/
import Derived.Test.YtbmjlofehbbkbaaDoorJP
import Derived.Lib.SmallJoins

/- Things that are done, and packets that go, handed in. -/
namespace Go.Proofs.YtbmjlofehbbkbaaDoor
open Go.ChangeShapes Go.WideShapes Go.ChangeAt Go.WideMaps Go.WideElems Go.RowKit

section
variable {H : Type} {enc : TypeId × Value → H} {P : Program} {w : World} {base : Nat} {spare : Nat → Bool} {held : Bool}
theorem trod_five {t : TypeId} {f0 f1 f2 f3 f4 : Field} {fuel : Nat} {cs : List Value} {x : DataW H × List MemPlace} (ht : P.underlying t = some (.struct #[f0, f1, f2, f3, f4])) (h : DataW.trod enc P w base spare held fuel t cs = some x) :
    ∃ y0 y1 y2 y3 y4 n, cs.length = P.cellsOf t ∧ DataW.trod enc P w base spare held n f0.type ((cs.drop f0.offset).take (P.cellsOf f0.type)) = some y0 ∧ DataW.trod enc P w base spare held n f1.type ((cs.drop f1.offset).take (P.cellsOf f1.type)) = some y1 ∧ DataW.trod enc P w base spare held n f2.type ((cs.drop f2.offset).take (P.cellsOf f2.type)) = some y2 ∧
      DataW.trod enc P w base spare held n f3.type ((cs.drop f3.offset).take (P.cellsOf f3.type)) = some y3 ∧ DataW.trod enc P w base spare held n f4.type ((cs.drop f4.offset).take (P.cellsOf f4.type)) = some y4 := by
  obtain ⟨xs, n, _, rfl, hl, hlen, hf⟩ := DataW.trod_struct ht h
  match xs, hlen with
  | [y0, y1, y2, y3, y4], _ => exact ⟨y0, y1, y2, y3, y4, n, hl, by simpa using hf 0 f0 rfl, by simpa using hf 1 f1 rfl, by simpa using hf 2 f2 rfl, by simpa using hf 3 f3 rfl, by simpa using hf 4 f4 rfl⟩
theorem trod_six {t : TypeId} {f0 f1 f2 f3 f4 f5 : Field} {fuel : Nat} {cs : List Value} {x : DataW H × List MemPlace} (ht : P.underlying t = some (.struct #[f0, f1, f2, f3, f4, f5])) (h : DataW.trod enc P w base spare held fuel t cs = some x) :
    ∃ y0 y1 y2 y3 y4 y5 n, cs.length = P.cellsOf t ∧ DataW.trod enc P w base spare held n f0.type ((cs.drop f0.offset).take (P.cellsOf f0.type)) = some y0 ∧ DataW.trod enc P w base spare held n f1.type ((cs.drop f1.offset).take (P.cellsOf f1.type)) = some y1 ∧ DataW.trod enc P w base spare held n f2.type ((cs.drop f2.offset).take (P.cellsOf f2.type)) = some y2 ∧
      DataW.trod enc P w base spare held n f3.type ((cs.drop f3.offset).take (P.cellsOf f3.type)) = some y3 ∧ DataW.trod enc P w base spare held n f4.type ((cs.drop f4.offset).take (P.cellsOf f4.type)) = some y4 ∧ DataW.trod enc P w base spare held n f5.type ((cs.drop f5.offset).take (P.cellsOf f5.type)) = some y5 := by
  obtain ⟨xs, n, _, rfl, hl, hlen, hf⟩ := DataW.trod_struct ht h
  match xs, hlen with
  | [y0, y1, y2, y3, y4, y5], _ => exact ⟨y0, y1, y2, y3, y4, y5, n, hl, by simpa using hf 0 f0 rfl, by simpa using hf 1 f1 rfl, by simpa using hf 2 f2 rfl, by simpa using hf 3 f3 rfl, by simpa using hf 4 f4 rfl, by simpa using hf 5 f5 rfl⟩
end

/-- something that is done with a link, and where its bytes lie -/
structure Ob where
  k : Int
  a : Int
  now : Int
  frm : Int
  d : Bool
  n : Nat
  b : List Nat
  p : Option Addr
  c : Nat
abbrev Ob.C (o : Ob) : List Value := [.int .i64 o.k, .int .i64 o.a, .int .i64 o.now, .int .i64 o.frm, .bool o.d, .int .u64 (o.n : Int), .slice o.p o.b.length o.c]
structure ObIn (w : World) (o : Ob) : Prop where
  k : (Lit.int .i64 o.k).wf = true
  a : (Lit.int .i64 o.a).wf = true
  now : (Lit.int .i64 o.now).wf = true
  frm : (Lit.int .i64 o.frm).wf = true
  n : o.n < 18446744073709551616
  p : Piece w o.p o.c o.b
theorem ObIn.kept {w w' : World} {o : Ob} (h : ObIn w o) (hb : Below w.heap.size w w') : ObIn w' o := ⟨h.k, h.a, h.now, h.frm, h.n, h.p.kept hb⟩

theorem cellsI64 : Tryd.prog.cellsOf 3 = 1 := by kernel_rfl
theorem cellsBs : Tryd.prog.cellsOf 42 = 1 := by kernel_rfl
theorem cellsOp : Tryd.prog.cellsOf 44 = 7 := by kernel_rfl
theorem infoOp : (Tryd.prog.info? 44).map (·.size) = some 7 := by kernel_rfl

set_option maxRecDepth 100000 in
theorem ob_cells {H : Type} {enc : TypeId × Value → H} {w : World} {n : Nat} {cs : List Value} {x : DataW H × List MemPlace} (h : DataW.trod enc Tryd.prog w 0 (fun _ => true) true n 44 cs = some x) : ∃ o : Ob, cs = o.C ∧ ObIn w o := by
  obtain ⟨z0, z1, z2, z3, z4, z5, m, hl, h0, h1, h2, h3, h4, h5⟩ := trod_six Tryd.underlying44 h
  rw [cellsOp] at hl
  match cs, hl with
  | [c0, c1, c2, c3, c4, c5, c6], _ =>
    simp only [cellsI64, cellsNonce, cellsBs, List.drop_succ_cons, List.drop_zero, List.take_succ_cons, List.take_zero] at h0 h1 h2 h3 h4 h5
    obtain ⟨k, e0, _, w0⟩ := DataW.trod_int Tryd.underlying3 h0
    obtain ⟨a, e1, _, w1⟩ := DataW.trod_int Tryd.underlying3 h1
    obtain ⟨now, e2, _, w2⟩ := DataW.trod_int Tryd.underlying3 h2
    obtain ⟨frm, e3, _, w3⟩ := DataW.trod_int Tryd.underlying3 h3
    obtain ⟨y0, y1, n', hx, hl', q0, q1⟩ := trod_struct2 Tryd.underlying41 h4
    simp only [cellsBool, cellsU64, List.drop_zero, List.drop_succ_cons, List.take_succ_cons, List.take_zero] at q0 q1
    obtain ⟨d, e4, _⟩ := DataW.trod_bool Tryd.underlying4 q0
    obtain ⟨z, e5, _, w5⟩ := DataW.trod_int Tryd.underlying26 q1
    obtain ⟨i, rfl, hi⟩ := wf_u64 w5
    obtain ⟨p, c, b, e6, hp⟩ := piece_of h5
    simp only [List.cons.injEq, and_true] at e0 e1 e2 e3 e4 e5 e6
    subst e0 e1 e2 e3 e4 e5 e6
    exact ⟨⟨k, a, now, frm, d, i, b, p, c⟩, rfl, w0, w1, w2, w3, hi, hp⟩

set_option maxRecDepth 100000 in
/-- one that is handed in -/
theorem open_op {H : Type} {enc : TypeId × Value → H} {W : World} {r : Reach} {b0 : Nat} {v : Value} {d : DataW H} {p : List MemPlace}
    (hv : Value.okWide Tryd.prog W r b0 44 v) (h : DataW.Trod enc Tryd.prog W 0 (fun _ => true) true 44 v d p) : ∃ o : Ob, v = .agg o.C.toArray ∧ ObIn W o := by
  obtain ⟨c0, rfl⟩ := agg_struct Tryd.underlying44 hv
  obtain ⟨fuel, hf⟩ := h
  obtain ⟨o, e, ho⟩ := ob_cells hf
  refine ⟨o, ?_, ho⟩
  have e2 : c0.toList = o.C := by simpa [Value.cells] using e
  rw [← e2]

end Go.Proofs.YtbmjlofehbbkbaaDoor
