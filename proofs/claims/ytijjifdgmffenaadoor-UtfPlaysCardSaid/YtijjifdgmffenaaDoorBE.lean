/-
  Small laws for the walks, of no layer: rows read and stored, structs and arrays held against each other, as one operation; a struct in a cell of its own that is told; min and max.
-/
import Derived.Test.YtijjifdgmffenaaDoorBA
import Derived.Laws.CopyRow
import Derived.Laws.ResultCell
import Derived.Laws.StructEq
import Derived.ChangeSame
namespace Go.Proofs.YtijjifdgmffenaaDoor
open Go.RowKit

/-- a row read out of the middle of a block -/
theorem exec_load_mid {P : Program} {oi : Oper} {a : Act} {w : World} (ty : TypeId) (x : Operand) (ho : oi.op = .load ty x)
    (b o : Nat) (hx : a.eval x = .pointer (some ⟨b, o, none⟩)) (cs : List Value) (d : TypeDesc) (hc : w.rangeAt b o cs)
    (hu : P.underlying ty = some d) (hd : d.isRow = true) (hi : (P.info? ty).map (·.size) = some cs.length) : (execOp a.eval oi).run P w = .ok (.value (.agg cs.toArray)) w := by
  unfold execOp
  simp only [ho, hx, Instr.loadAt, Instr.sureAddr, Sem.run_bind, Sem.run_pure, Result.andThen_ok, run_loadVar_mid w b o ty cs d hc hu hd hi]
theorem exec_load_all {P : Program} {oi : Oper} {a : Act} {w : World} (ty : TypeId) (x : Operand) (ho : oi.op = .load ty x)
    (b : Nat) (hx : a.eval x = .pointer (some ⟨b, 0, none⟩)) (t : TypeId) (vs : List Value) (d : TypeDesc) (hc : Arr w b t vs)
    (hu : P.underlying ty = some d) (hd : d.isRow = true) (hi : (P.info? ty).map (·.size) = some vs.length) : (execOp a.eval oi).run P w = .ok (.value (.agg vs.toArray)) w :=
  exec_load_mid ty x ho b 0 hx vs d hc.range hu hd hi

/-- a whole array stored into the middle of a block -/
theorem wp_store_at {P : Program} {o : Oper} {a : Act} {w : World} {K : Act → World → Prop} {Q : Exit → Act → World → Prop} (hdd : o.dst = none) (ty : TypeId) (x y : Operand) (ho : o.op = .store ty x y)
    (g off : Nat) (cells : Array Value) (hx : a.eval x = .pointer (some ⟨g, off, none⟩)) (hy : a.eval y = .agg cells)
    (t : TypeId) (cur : List Value) (hg : Arr w g t cur) (hi : (P.info? ty).map (·.size) = some cells.size)
    (hfit : off + cells.size ≤ cur.length) (h1 : cells.all (·.oneCell') = true)
    (h : K a (w.setRow g (cur.take off ++ cells.toList ++ cur.drop (off + cells.size)).toArray)) : o.wp P a w K Q := by
  have hst := run_storeCells_at (P := P) g off t cells.toList 0 cur.toArray w hg (by simpa using hfit) (fun v hv => (Array.all_eq_true_iff_forall_mem.1 h1) v (by simpa using hv))
  have hrun : (storeVar ty ⟨g, off, none⟩ (.agg cells)).run P w = .ok () (w.setRow g (cur.take off ++ cells.toList ++ cur.drop (off + cells.size)).toArray) := by
    cases hq : P.info? ty with
    | none => simp [hq] at hi
    | some i =>
      have hs : cells.size = i.size := by simp [hq] at hi; omega
      simp [storeVar, sizeOf, typeInfo, hq, Value.cells, hs] at hst ⊢
      exact hst
  unfold Oper.wp execOp
  simp only [ho, hx, hy, Instr.storeAt, Instr.sureAddr, Sem.run_bind, Sem.run_pure, Result.andThen_ok, hrun]
  show K (a.put o.dst undef) _
  rw [hdd]
  exact h

/-- two arrays held against each other: what the operation yields -/
theorem exec_eql_agg {P : Program} {o : Oper} {a : Act} {w : World} (t tt : TypeId) (x y : Operand) (ho : o.op = .binOp .eql t x y tt) (xs ys : Array Value) (hx : a.eval x = .agg xs) (hy : a.eval y = .agg ys) (r : Bool)
    (hgd : (eqGuard .eql t x y (.agg xs) (.agg ys)).run P w = .ok () w) (he : (Op.equalIn 10000 t (.agg xs) (.agg ys)).run P w = .ok r w) : (execOp a.eval o).run P w = .ok (.value (.bool r)) w := by
  unfold execOp
  simp only [ho, hx, hy, Sem.run_bind, hgd, run_eql_struct, he, Result.andThen_ok, Sem.run_pure]

theorem exec_neq_agg {P : Program} {o : Oper} {a : Act} {w : World} (t tt : TypeId) (x y : Operand) (ho : o.op = .binOp .neq t x y tt) (xs ys : Array Value) (hx : a.eval x = .agg xs) (hy : a.eval y = .agg ys) (r : Bool)
    (hgd : (eqGuard .neq t x y (.agg xs) (.agg ys)).run P w = .ok () w) (he : (Op.equalIn 10000 t (.agg xs) (.agg ys)).run P w = .ok r w) : (execOp a.eval o).run P w = .ok (.value (.bool (!r))) w := by
  unfold execOp
  simp only [ho, hx, hy, Sem.run_bind, hgd, run_neq_struct, he, Result.andThen_ok, Sem.run_pure]

/-- an operation that its guard wants, by what it yields -/
theorem wpList_exec {P : Program} {ops : Array Oper} {rest : List Oper} {o : Oper} {a : Act} {w : World} {Q : Exit → Act → World → Prop} (hw : Region.wanted o (yielded ops a.tmps) = true) (v : Value) (he : (execOp a.eval o).run P w = .ok (.value v) w)
    (h : wpList P ops Q rest (a.put o.dst v) w) : wpList P ops Q (o :: rest) a w :=
  wpList_step fun K hK => by
    simp only [hw, if_true]
    unfold Oper.wp
    rw [he]
    exact hK _ _ h

theorem exec_min {P : Program} {o : Oper} {a : Act} {w : World} (x y : Operand) (ts : Array TypeId) (ho : o.op = .call { callee := .builtin .min, args := #[x, y], argTypes := ts }) (k : IntKind) (p q m : Int) (hx : a.eval x = .int k p) (hy : a.eval y = .int k q) (hm : (if q < p then q else p) = m) :
    (execOp a.eval o).run P w = .ok (.value (.int k m)) w := by
  subst hm
  simp [execOp, ho, resolve, invoke, builtin, hx, hy, run_min_int2, Result.andThen]

theorem exec_max {P : Program} {o : Oper} {a : Act} {w : World} (x y : Operand) (ts : Array TypeId) (ho : o.op = .call { callee := .builtin .max, args := #[x, y], argTypes := ts }) (k : IntKind) (p q m : Int) (hx : a.eval x = .int k p) (hy : a.eval y = .int k q) (hm : (if q > p then q else p) = m) :
    (execOp a.eval o).run P w = .ok (.value (.int k m)) w := by
  subst hm
  simp [execOp, ho, resolve, invoke, builtin, hx, hy, run_max_int2, Result.andThen]

/-- a struct in a cell of its own and a number are what is told -/
theorem results_ct {fn : Func} {p u : Tmp} {ty : TypeId} {d : TypeDesc} (h : fn.results = #[.cell p ty, .tmp u]) (tmps : Array Value) (w : World) (g : Nat) (cs : List Value) (hp : tmps.getD p undef = .pointer (some ⟨g, 0, none⟩)) (hg : Arr w g ty cs)
    (hu : Tryd.prog.underlying ty = some d) (hd : d.isRow = true) (hi : (Tryd.prog.info? ty).map (·.size) = some cs.toArray.size) :
    (results fn tmps).run Tryd.prog w = .ok (.tuple #[.agg cs.toArray, tmps.getD u undef]) w := by
  rw [results_cell_tmp h tmps Tryd.prog w, hp]
  simp only [asAddr, Sem.run_pure, Result.andThen_ok]
  rw [run_loadVar_row w g ty ty cs.toArray (0, 0) d hg hu (by cases d <;> first | rfl | (simp [TypeDesc.isRow] at hd)) hi]
  rfl
/-- .. and two more -/
theorem results_ctt {fn : Func} {p u v : Tmp} {ty : TypeId} {d : TypeDesc} (h : fn.results = #[.cell p ty, .tmp u, .tmp v]) (tmps : Array Value) (w : World) (g : Nat) (cs : List Value) (hp : tmps.getD p undef = .pointer (some ⟨g, 0, none⟩)) (hg : Arr w g ty cs)
    (hu : Tryd.prog.underlying ty = some d) (hd : d.isRow = true) (hi : (Tryd.prog.info? ty).map (·.size) = some cs.toArray.size) :
    (results fn tmps).run Tryd.prog w = .ok (.tuple #[.agg cs.toArray, tmps.getD u undef, tmps.getD v undef]) w := by
  have hp' : tmps[p]?.getD undef = .pointer (some ⟨g, 0, none⟩) := by simpa using hp
  simp [results, h, hp', asAddr, run_loadVar_row w g ty ty cs.toArray (0, 0) d hg hu (by cases d <;> first | rfl | (simp [TypeDesc.isRow] at hd)) hi]

theorem agg_struct {P : Program} {W : World} {r : Reach} {b0 : Nat} {t : TypeId} {fs : Array Field} {v : Value} (ht : P.underlying t = some (.struct fs)) (h : Value.okWide P W r b0 t v) : ∃ cs, v = .agg cs := by
  cases v <;> first | exact ⟨_, rfl⟩ | (exfalso; simp [Value.okWide, ht] at h)

theorem ret_i64 {a b : Int} (h : a = b) : Ending.returned (.int .i64 a) = .returned (.int .i64 b) := by rw [h]

/-- two boxes of the call's own -/
theorem boxes (w : World) (A B : List Value) (ta tb : TypeId) : Arr ((w.alloc (Obj.cells A.toArray ta)).alloc (Obj.cells B.toArray tb)) w.heap.size ta A ∧ Arr ((w.alloc (Obj.cells A.toArray ta)).alloc (Obj.cells B.toArray tb)) (w.heap.size + 1) tb B ∧ Below w.heap.size w ((w.alloc (Obj.cells A.toArray ta)).alloc (Obj.cells B.toArray tb)) :=
  ⟨(Arr.new w ta A).alloc _, Arr.newAt (w.alloc _) tb B _ (by simp), ((Below.refl _ _).alloc (Nat.le_refl _) _).alloc (by simp) _⟩

theorem arr_ne {w : World} {g h : Nat} {t u : TypeId} {cs ds : List Value} (h1 : Arr w g t cs) (h2 : Arr w h u ds) (ht : t ≠ u) : g ≠ h := fun e => by
  subst e
  unfold Arr at h1 h2
  rw [h1] at h2
  simp at h2
  exact ht h2.2

end Go.Proofs.YtijjifdgmffenaaDoor
