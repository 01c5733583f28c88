/-
  Blocks that are handed in, opened; arrays held against each other as one operation; arrays of arrays.
-/
import Derived.Test.YtflakgigekfgcaaRows
import Derived.Test.YtflakgigekfgcaaEJ
import Derived.ProofKit
import Derived.OpenShut
import Derived.ShutString
import Derived.ChangeOld
import Derived.Below
namespace Go.Proofs.Ytflakgigekfgcaa
open Go.ChangeShapes Go.WideShapes Go.ChangeAt Go.WideMaps Go.WideElems Go.RowKit

/-- an array of integers that is handed in, opened -/
theorem open_ints_arr {H : Type} {enc : TypeId × Value → H} {P : Program} {w : World} {base : Nat} {sp : Nat → Bool} {held : Bool} {t e : TypeId} {n : Nat} {k : IntKind} {v : Value} {d : DataW H} {p : List MemPlace}
    (ht : P.underlying t = some (.array n e)) (he : P.underlying e = some (.int k)) (hce : P.cellsOf e = 1) (hct : P.cellsOf t = n) (h : DataW.Trod enc P w base sp held t v d p) :
    ∃ zs : List Int, v.cells.toList = zs.map (Value.int k) ∧ zs.length = n ∧ (∀ z ∈ zs, (Lit.int k z).wf = true) ∧ ∀ x ∈ p, False := by
  obtain ⟨fuel, hf⟩ := h
  obtain ⟨xs, m, rfl, hx, hcl, hxl, hel⟩ := DataW.trod_array ht hf
  rw [hct] at hcl
  rw [hce] at hel
  have each : ∀ i, i < n → ∃ z, v.cells.toList[i]? = some (Value.int k z) ∧ (Lit.int k z).wf = true ∧ ∃ y, xs[i]? = some y ∧ y.2 = [] := fun i hi => by
    have h1 := hel i hi
    have hxi : i < xs.length := by omega
    rw [List.getElem?_eq_getElem hxi] at h1
    obtain ⟨z, hz, hy, hwf⟩ := DataW.trod_int he h1
    refine ⟨z, ?_, hwf, xs[i], List.getElem?_eq_getElem hxi, by rw [hy]⟩
    have hci : i < v.cells.toList.length := by omega
    rw [Nat.mul_one, List.drop_eq_getElem_cons hci] at hz
    simp at hz
    rw [List.getElem?_eq_getElem hci]
    simp [hz]
  let f : Nat → Int := fun i => match v.cells.toList[i]? with | some (Value.int _ z) => z | _ => 0
  refine ⟨(List.range n).map f, ?_, by simp, ?_, ?_⟩
  · apply List.ext_getElem?
    intro i
    by_cases hi : i < n
    · obtain ⟨z, hz, _⟩ := each i hi
      have hz' : v.cells[i]? = some (Value.int k z) := by simpa using hz
      rw [hz]
      simp [hi, f, hz']
    · rw [List.getElem?_eq_none (by omega), List.getElem?_eq_none (by simp; omega)]
  · intro z hz
    obtain ⟨i, hi, rfl⟩ := List.mem_map.1 hz
    obtain ⟨z', hz', hwf, _⟩ := each i (by simpa using hi)
    simp only [f, hz']
    exact hwf
  · intro x hxp
    have hp := congrArg Prod.snd hx
    simp only at hp
    rw [hp] at hxp
    obtain ⟨y, hy, hxy⟩ := List.mem_flatMap.1 hxp
    obtain ⟨i, hi, rfl⟩ := List.mem_iff_getElem.1 hy
    obtain ⟨_, _, _, y', hy', he'⟩ := each i (by omega)
    rw [List.getElem?_eq_getElem hi] at hy'
    cases hy'
    rw [he'] at hxy
    cases hxy

theorem agg_arr {P : Program} {W : World} {r : Reach} {b0 : Nat} {t e : TypeId} {n : Nat} {v : Value} (ht : P.underlying t = some (.array n e)) (h : Value.okWide P W r b0 t v) : ∃ cs, v = .agg cs := by
  cases v <;> first | exact ⟨_, rfl⟩ | (exfalso; simp [Value.okWide, ht] at h)


/-- a block that is handed in -/
theorem open_blk {H : Type} {enc : TypeId × Value → H} {W : World} {r : Reach} {b0 base : Nat} {sp : Nat → Bool} {held : Bool} {v : Value} {d : DataW H} {p : List MemPlace}
    (hv : Value.okWide Try.prog W r b0 22 v) (h : DataW.Trod enc Try.prog W base sp held 22 v d p) : ∃ x : List Nat, v = .agg (u8s x).toArray ∧ Blk x ∧ ∀ y ∈ p, False := by
  obtain ⟨c0, rfl⟩ := agg_arr Try.underlying22 hv
  obtain ⟨z0, hz0, zl0, zw0, zp0⟩ := open_ints_arr Try.underlying22 Try.underlying5 cells8 cells16 h
  have bd0 : ∀ z ∈ z0, 0 ≤ z ∧ z < 256 := fun z hz => by
    have h := zw0 z hz
    have m1 : IntKind.u8.min = 0 := rfl
    have m2 : IntKind.u8.max = 255 := rfl
    simp only [Lit.wf, m1, m2, Bool.and_eq_true, decide_eq_true_eq] at h
    omega
  refine ⟨z0.map Int.toNat, ?_, ⟨by simpa using zl0, fun i => getD_lt (fun x hx => ?_) (by omega) i⟩, zp0⟩
  · congr 1
    apply Array.toList_inj.1
    have : c0.toList = z0.map (Value.int .u8) := hz0
    rw [this]
    simp only [u8s, List.map_map]
    apply List.map_congr_left
    intro z hz
    have := bd0 z hz
    simp only [Function.comp]
    rw [Int.toNat_of_nonneg this.1]
  · obtain ⟨z, hz, rfl⟩ := List.mem_map.1 hx
    have := bd0 z hz
    omega

theorem wf_byte {a : Int} (h : (Lit.int .u8 a).wf = true) : ∃ n : Nat, a = n ∧ n < 256 := by
  have m1 : IntKind.u8.min = 0 := rfl
  have m2 : IntKind.u8.max = 255 := rfl
  simp only [Lit.wf, m1, m2, Bool.and_eq_true, decide_eq_true_eq] at h
  exact ⟨a.toNat, by omega, by omega⟩

/-- two arrays held against each other: what the operation yields -/
theorem exec_eql_agg {P : Program} {o : Oper} {a : Act} {w : World} (t tt : TypeId) (x y : Operand) (ho : o.op = .binOp .eql t x y tt) (xs ys : Array Value) (hx : a.eval x = .agg xs) (hy : a.eval y = .agg ys) (r : Bool)
    (hgd : (eqGuard .eql t x y (.agg xs) (.agg ys)).run P w = .ok () w) (he : (Op.equalIn 10000 t (.agg xs) (.agg ys)).run P w = .ok r w) : (execOp a.eval o).run P w = .ok (.value (.bool r)) w := by
  unfold execOp
  simp only [ho, hx, hy, Sem.run_bind, hgd, run_eql_struct, he, Result.andThen_ok, Sem.run_pure]

theorem exec_neq_agg {P : Program} {o : Oper} {a : Act} {w : World} (t tt : TypeId) (x y : Operand) (ho : o.op = .binOp .neq t x y tt) (xs ys : Array Value) (hx : a.eval x = .agg xs) (hy : a.eval y = .agg ys) (r : Bool)
    (hgd : (eqGuard .neq t x y (.agg xs) (.agg ys)).run P w = .ok () w) (he : (Op.equalIn 10000 t (.agg xs) (.agg ys)).run P w = .ok r w) : (execOp a.eval o).run P w = .ok (.value (.bool (!r))) w := by
  unfold execOp
  simp only [ho, hx, hy, Sem.run_bind, hgd, run_neq_struct, he, Result.andThen_ok, Sem.run_pure]

/-- an operation that its guard wants, by what it yields -/
theorem wpList_exec {P : Program} {ops : Array Oper} {rest : List Oper} {o : Oper} {a : Act} {w : World} {Q : Exit → Act → World → Prop} (hw : Region.wanted o (yielded ops a.tmps) = true) (v : Value) (he : (execOp a.eval o).run P w = .ok (.value v) w)
    (h : wpList P ops Q rest (a.put o.dst v) w) : wpList P ops Q (o :: rest) a w :=
  wpList_step fun K hK => by
    simp only [hw, if_true]
    unfold Oper.wp
    rw [he]
    exact hK _ _ h

/-- two blocks -/
theorem eq_blk {a b : List Nat} (ha : Blk a) (hb : Blk b) (w : World) : (Op.equalIn 10000 22 (.agg (u8s a).toArray) (.agg (u8s b).toArray)).run Try.prog w = .ok (decide (a = b)) w :=
  run_eq_block a b ha.len hb.len ha.mem hb.mem w

theorem flat_chunks {α : Type} (m : Nat) : ∀ (n : Nat) (l : List α), l.length = n * m → ((List.range n).map fun i => (l.drop (i * m)).take m).flatten = l := by
  intro n
  induction n with
  | zero => intro l hl; simp at hl; simp [hl]
  | succ n ih =>
    intro l hl
    rw [List.range_succ_eq_map, List.map_cons, List.map_map, List.flatten_cons]
    have e : ((fun i => (l.drop (i * m)).take m) ∘ Nat.succ) = fun i => ((l.drop m).drop (i * m)).take m := by
      funext i
      simp only [Function.comp, List.drop_drop]
      congr 2
      rw [Nat.succ_mul]; omega
    rw [e, ih (l.drop m) (by rw [List.length_drop, hl, Nat.succ_mul]; omega)]
    simp

/-- arrays of arrays of integers, as lists of literals -/
theorem lits_of_rows {P : Program} {t e i : TypeId} {n m : Nat} {k : IntKind} (ht : P.underlying t = some (.array n e)) (he : P.underlying e = some (.array m i)) (hi : P.underlying i = some (.int k)) (hci : P.cellsOf i = 1) (hce : P.cellsOf e = m) (hct : P.cellsOf t = n * m)
    (zs : List Int) (hl : zs.length = n * m) (hw : ∀ z ∈ zs, (Lit.int k z).wf = true) : P.keyLits 3 t (zs.map (Value.int k)) = some (zs.map (Lit.int k)) := by
  have h1 : (List.range n).mapM (fun j => P.keyLits 2 e (((zs.map (Value.int k)).drop (j * m)).take m)) = some ((List.range n).map fun j => ((zs.map (Lit.int k)).drop (j * m)).take m) := by
    refine mapM_some _ _ _ fun j hj => ?_
    have hjn : j < n := by simpa using hj
    have e1 : ((zs.map (Value.int k)).drop (j * m)).take m = ((zs.drop (j * m)).take m).map (Value.int k) := by rw [List.map_take, List.map_drop]
    have e2 : ((zs.map (Lit.int k)).drop (j * m)).take m = ((zs.drop (j * m)).take m).map (Lit.int k) := by rw [List.map_take, List.map_drop]
    rw [e1, e2]
    have hlen : ((zs.drop (j * m)).take m).length = m := by
      rw [List.length_take, List.length_drop, hl]
      have : j * m + m ≤ n * m := by rw [← Nat.succ_mul]; exact Nat.mul_le_mul_right m hjn
      omega
    exact lits_of_ints he hi hci hce _ hlen fun z hz => hw z (List.mem_of_mem_drop (List.mem_of_mem_take hz))
  have h2 : (P.keyLits 3 t (zs.map (Value.int k))) = ((List.range n).mapM fun j => P.keyLits 2 e (((zs.map (Value.int k)).drop (j * P.cellsOf e)).take (P.cellsOf e))).map List.flatten := by
    conv => lhs; unfold Program.keyLits
    simp only [ht]
    rw [if_pos (by rw [List.length_map, hl, hct])]
  rw [h2, hce, h1, Option.map_some, flat_chunks m n _ (by rw [List.length_map, hl])]

/-- two arrays of arrays of integers held against each other -/
theorem run_eq_rows {P : Program} {t e i : TypeId} {n m : Nat} {k : IntKind} (ht : P.underlying t = some (.array n e)) (he : P.underlying e = some (.array m i)) (hi : P.underlying i = some (.int k)) (hci : P.cellsOf i = 1) (hce : P.cellsOf e = m) (hct : P.cellsOf t = n * m)
    (a : List Int) (ha : a.length = n * m) (wa : ∀ z ∈ a, (Lit.int k z).wf = true) (w : World) : (Op.equalIn 10000 t (.agg (a.map (Value.int k)).toArray) (.agg (a.map (Value.int k)).toArray)).run P w = .ok true w := by
  have hk : P.keyTypeAt 3 t = true := by
    unfold Program.keyTypeAt
    simp only [ht]
    unfold Program.keyTypeAt
    simp only [he]
    unfold Program.keyTypeAt
    simp only [hi]
  have hlits : P.keyLits 3 t (Value.agg (a.map (Value.int k)).toArray).cells.toList = some (a.map (Lit.int k)) := by simpa [Value.cells] using lits_of_rows ht he hi hci hce hct a ha wa
  obtain ⟨r, hr, hiff⟩ := run_equalIn_deep 9997 3 t hk w 3 3 (.agg (a.map (Value.int k)).toArray) (.agg (a.map (Value.int k)).toArray) (a.map (Lit.int k)) (a.map (Lit.int k))
    (by simp [Value.formed, ht, hct, ha]) (by simp [Value.formed, ht, hct, ha]) hlits hlits
  rw [hr]
  congr 1
  exact hiff.2 rfl

end Go.Proofs.Ytflakgigekfgcaa
