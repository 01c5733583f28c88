/-
  Several texts, joined: BA, BE, BO, BB, BT, BC, BD.
-/
import Derived.Test.YtbmjlofehbbkbaaDoorChecked
import Derived.WalkKit
import Derived.WalkSpells
import Derived.WalkLawsBesides
import Derived.RegionTactic
import Derived.BigRegion
import Derived.Deep.LoopGhost
import Derived.OpenShut
import Derived.Deep.RegionHeld3
import Derived.Deep.RegionWith
import Derived.Deep.DeepCutAuto
import Derived.Deep.CutBlock
import Derived.Deep.CutRange
import Derived.Deep.DrawnRows
import Derived.Deep.MidRow
import Derived.Deep.WholeRow
import Derived.Deep.QuietTactic
import Derived.BigQuiet
import Derived.DeepKeys
import Derived.Laws.CopyRow
import Derived.Laws.ResultCell
import Derived.Laws.StructEq
import Derived.ChangeSame
import Derived.Laws.AppendOwnNone
import Derived.ProofKit
import Derived.ShutString
import Derived.ChangeOld
import Derived.Below
import Derived.SizedLaws
import Derived.Lib.SlBytesConst
import Derived.Deep.Slices
import Derived.Deep.SlicePairs
import Derived.RangeFuncNested
import Derived.RangeFuncBound
import Derived.RangeFuncCalls
import Derived.RangeFuncLeaves
import Derived.Shelf.Abstract
import Derived.OwnWalkIn
import Derived.TacticsInMore
import Derived.LoopNIn
import Derived.LoopIn

/- Small laws for the walks: an operation of a drawn region that is taken first; how an array lies in memory; arrays of bytes held against each other. -/
namespace Go.Proofs.YtbmjlofehbbkbaaDoor
open Go.RowKit

theorem hide {p : Prop} (h : p) : Hid p := h

/-- an operation of a region that draws its order is taken first: its slot told as a number -/
theorem take_dst {P : Program} {md : Region.Mode} {ops : Array Oper} {Q : Exit → Act → World → Prop} {i : Nat} {oi : Oper} {v : Value} {fuel : Nat} {listed : Array Bool} {a : Act} {w : World} {d : Nat} (hi : ops[i]? = some oi) (hd : oi.dst = some d)
    (hs : Region.noSelect ops = true) (hf : Region.free md ops listed i = true) (hr : (Region.ready md ops listed).contains i = true)
    (hQ : ∀ c a w, Q (.panic c) (a.put oi.dst v) w → Q (.panic c) a w) (hw : Region.wanted oi (yielded ops a.tmps) = true) (hy : ∀ w, (execOp a.eval oi).run P w = .ok (.value v) w)
    (h : wpAny P md ops Q fuel (listed.setIfInBounds i true) (a.put (some d) v) w) : wpAny P md ops Q (fuel + 1) listed a w :=
  wpAny_take hi hs hf hr hQ (Or.inl ⟨hw, hy⟩) (by rw [hd]; exact h)

/-- .. one that its guard does not want -/
theorem skip_dst {P : Program} {md : Region.Mode} {ops : Array Oper} {Q : Exit → Act → World → Prop} {i : Nat} {oi : Oper} {fuel : Nat} {listed : Array Bool} {a : Act} {w : World} {d : Nat} (hi : ops[i]? = some oi) (hd : oi.dst = some d)
    (hs : Region.noSelect ops = true) (hf : Region.free md ops listed i = true) (hr : (Region.ready md ops listed).contains i = true)
    (hQ : ∀ c a w, Q (.panic c) (a.put oi.dst undef) w → Q (.panic c) a w) (hw : Region.wanted oi (yielded ops a.tmps) = false)
    (h : wpAny P md ops Q fuel (listed.setIfInBounds i true) (a.put (some d) undef) w) : wpAny P md ops Q (fuel + 1) listed a w :=
  wpAny_take hi hs hf hr hQ (Or.inr ⟨hw, rfl⟩) (by rw [hd]; exact h)

/-- the same under a condition on the world that is held throughout -/
theorem take_dstH {P : Program} {md : Region.Mode} {ops : Array Oper} {Q : Exit → Act → World → Prop} {S : World → Prop} {i : Nat} {oi : Oper} {v : Value} {fuel : Nat} {listed : Array Bool} {a : Act} {w : World} {d : Nat} (hi : ops[i]? = some oi) (hd : oi.dst = some d)
    (hs : Region.noSelect ops = true) (hf : Region.free md ops listed i = true) (hr : (Region.ready md ops listed).contains i = true)
    (hQ : ∀ c a w, Q (.panic c) (a.put oi.dst v) w → Q (.panic c) a w) (hw : Region.wanted oi (yielded ops a.tmps) = true) (hS : S w) (hy : ∀ w, S w → (execOp a.eval oi).run P w = .ok (.value v) w)
    (h : wpAnyH P md ops Q S fuel (listed.setIfInBounds i true) (a.put (some d) v) w) : wpAnyH P md ops Q S (fuel + 1) listed a w :=
  wpAnyH_take hi hs hf hr hQ (Or.inl ⟨hw, hy⟩) hS (by rw [hd]; exact h)

theorem skip_dstH {P : Program} {md : Region.Mode} {ops : Array Oper} {Q : Exit → Act → World → Prop} {S : World → Prop} {i : Nat} {oi : Oper} {fuel : Nat} {listed : Array Bool} {a : Act} {w : World} {d : Nat} (hi : ops[i]? = some oi) (hd : oi.dst = some d)
    (hs : Region.noSelect ops = true) (hf : Region.free md ops listed i = true) (hr : (Region.ready md ops listed).contains i = true)
    (hQ : ∀ c a w, Q (.panic c) (a.put oi.dst undef) w → Q (.panic c) a w) (hw : Region.wanted oi (yielded ops a.tmps) = false) (hS : S w)
    (h : wpAnyH P md ops Q S fuel (listed.setIfInBounds i true) (a.put (some d) undef) w) : wpAnyH P md ops Q S (fuel + 1) listed a w :=
  wpAnyH_take hi hs hf hr hQ (Or.inr ⟨hw, rfl⟩) hS (by rw [hd]; exact h)


/-- a whole array read, as one operation -/
theorem wp_load_dst {P : Program} {o : Oper} {a : Act} {w : World} {K : Act → World → Prop} {Q : Exit → Act → World → Prop} {d : Nat} (hdd : o.dst = some d) (ty : TypeId) (x : Operand) (ho : o.op = .load ty x)
    (g : Nat) (hx : a.eval x = .pointer (some ⟨g, 0, none⟩)) (t : TypeId) (cs : Array Value) (fr : Nat × Nat) (e : TypeDesc) (hg : w.heap[g]? = some (.cells cs t fr))
    (hu : P.underlying ty = some e) (hd : (match e with | .struct _ | .array _ _ => true | _ => false) = true) (hi : (P.info? ty).map (·.size) = some cs.size)
    (h : K (a.put (some d) (.agg cs)) w) : o.wp P a w K Q := wp_load_row ty x ho g hx t cs fr e hg hu hd hi (by rw [hdd]; exact h)

/-- a whole array stored, as one operation -/
theorem wp_store_dst {P : Program} {o : Oper} {a : Act} {w : World} {K : Act → World → Prop} {Q : Exit → Act → World → Prop} (hdd : o.dst = none) (ty : TypeId) (x y : Operand) (ho : o.op = .store ty x y)
    (g : Nat) (cells : Array Value) (hx : a.eval x = .pointer (some ⟨g, 0, none⟩)) (hy : a.eval y = .agg cells)
    (t : TypeId) (old : Array Value) (hg : w.heap[g]? = some (.cells old t (0, 0))) (hi : (P.info? ty).map (·.size) = some cells.size)
    (hold : old.size = cells.size) (h1 : cells.all (·.oneCell') = true)
    (h : K a (w.setRow g cells)) : o.wp P a w K Q := wp_store_row ty x y ho g cells hx hy t old hg hi hold h1 (by rw [hdd]; exact h)

/-- an array, or a struct, is a block of its own -/
def Arr (w : World) (g : Nat) (t : TypeId) (vs : List Value) : Prop := w.heap[g]? = some (.cells vs.toArray t (0, 0))

theorem Arr.lt {w : World} {g : Nat} {t : TypeId} {vs : List Value} (h : Arr w g t vs) : g < w.heap.size := by
  by_cases hlt : g < w.heap.size
  · exact hlt
  · unfold Arr at h; rw [Array.getElem?_eq_none (by omega)] at h; cases h
theorem Arr.cell {w : World} {g : Nat} {t : TypeId} {vs : List Value} (h : Arr w g t vs) (j : Nat) : w.cell? ⟨g, j, none⟩ = vs[j]? := by
  rw [cell_of_row w g j _ t _ h]; simp
theorem Arr.frozen {w : World} {g : Nat} {t : TypeId} {vs : List Value} (h : Arr w g t vs) (j : Nat) : w.frozen? ⟨g, j, none⟩ = false := frozen_of_row w g j _ t h
theorem Arr.set {w : World} {g : Nat} {t : TypeId} {vs : List Value} (h : Arr w g t vs) (i : Nat) (v : Value) : Arr (w.setCell ⟨g, i, none⟩ v) g t (vs.set i v) := by
  have := heap_setCell_same w g i _ t v h
  unfold Arr
  rw [this]
  simp
theorem Arr.other {w : World} {g : Nat} {t : TypeId} {vs : List Value} (h : Arr w g t vs) (a : Addr) (v : Value) (hne : g ≠ a.block) : Arr (w.setCell a v) g t vs :=
  (heap_setCell_other w a g v hne).trans h
theorem Arr.row {w : World} {g : Nat} {t : TypeId} {vs : List Value} (h : Arr w g t vs) (us : Array Value) : Arr (w.setRow g us) g t us.toList := by
  unfold Arr; rw [setRow_heap w g _ us t _ h]
theorem Arr.rowOther {w : World} {g : Nat} {t : TypeId} {vs : List Value} (h : Arr w g t vs) (k : Nat) (us : Array Value) (hne : g ≠ k) : Arr (w.setRow k us) g t vs := by
  unfold Arr; rw [setRow_other w k g us hne]; exact h
theorem Arr.alloc {w : World} {g : Nat} {t : TypeId} {vs : List Value} (h : Arr w g t vs) (o : Obj) : Arr (w.alloc o) g t vs :=
  (show (w.alloc o).heap[g]? = w.heap[g]? from by show (w.heap.push o)[g]? = _; rw [Array.getElem?_push, if_neg (Nat.ne_of_lt h.lt)]).trans h
theorem Arr.new (w : World) (t : TypeId) (vs : List Value) : Arr (w.alloc (.cells vs.toArray t)) w.heap.size t vs := heap_alloc_new w _
theorem Arr.newAt (w : World) (t : TypeId) (vs : List Value) (n : Nat) (h : w.heap.size = n) : Arr (w.alloc (.cells vs.toArray t)) n t vs := by rw [← h]; exact heap_alloc_new w _
theorem Arr.below {B : Nat} {w w' : World} {g : Nat} {t : TypeId} {vs : List Value} (h : Arr w g t vs) (hB : g < B) (hb : Below B w w') : Arr w' g t vs := (hb.block g hB).trans h
theorem Arr.kept {w w' : World} {g : Nat} {t : TypeId} {vs : List Value} (h : Arr w g t vs) (hb : Below w.heap.size w w') : Arr w' g t vs := h.below h.lt hb
theorem Arr.range {w : World} {g : Nat} {t : TypeId} {vs : List Value} (h : Arr w g t vs) : w.rangeAt g 0 vs := fun j v hv => by rw [Nat.zero_add, h.cell]; exact hv

theorem below_setRow {B : Nat} {w w' : World} (h : Below B w w') {g : Nat} (hg : B ≤ g) (hlt : g < w'.heap.size) (us : Array Value) : Below B w (w'.setRow g us) := by
  have hg' : w'.grownBy (w'.setRow g us) (some g) := ⟨rfl, rfl, rfl, by simp, fun k _ hk => setRow_other w' g k us (fun e => hk (by rw [e]))⟩
  exact h.grown hg' (by omega) (by intro k hk; cases hk; exact hg)

/-- so many of the table's words, noughts behind them -/
def part (T : List Nat) (n i : Nat) : List Nat := T.take i ++ List.replicate (n - i) 0

theorem part_length (T : List Nat) (n i : Nat) (h : T.length = n) (hi : i ≤ n) : (part T n i).length = n := by simp [part, h]; omega
theorem part_set (T : List Nat) (n i : Nat) (h : T.length = n) (hi : i < n) : (part T n i).set i (T.getD i 0) = part T n (i + 1) := by
  apply List.ext_getElem
  · simp [part, h]; omega
  · intro k h1 h2
    simp only [part, List.getElem_set, List.getElem_append, List.length_take, h]
    by_cases e : i = k
    · subst e
      simp [h, hi, List.getD, show i < min (i + 1) n by omega]
    · by_cases hk : k < i
      · simp [e, show k < min i n by omega, show k < min (i + 1) n by omega]
      · simp [e, show ¬ k < min i n by omega, show ¬ k < min (i + 1) n by omega]
theorem part_full (T : List Nat) (n : Nat) (h : T.length = n) : part T n n = T := by simp [part, ← h]

def u8s (l : List Nat) : List Value := l.map fun d => Value.int .u8 ((d : Nat) : Int)
theorem u8s_length (l : List Nat) : (u8s l).length = l.length := by simp [u8s]
theorem u8s_at {l : List Nat} {i : Nat} (h : i < l.length) : (u8s l)[i]? = some (.int .u8 ((l.getD i 0 : Nat) : Int)) := by simp [u8s, List.getD, h]
theorem u8s_set (l : List Nat) (i x : Nat) : (u8s l).set i (.int .u8 ((x : Nat) : Int)) = u8s (l.set i x) := by simp [u8s, List.map_set]

theorem one_u8s (l : List Nat) : (u8s l).toArray.all (·.oneCell') = true := by
  apply all_oneCell_toArray
  intro v hv
  obtain ⟨x, _, rfl⟩ := List.mem_map.1 hv
  rfl

theorem part_get' (T : List Nat) (n i j : Nat) (h : T.length = n) (hj : j < i) (hi : i ≤ n) : (part T n i).getD j 0 = T.getD j 0 := by
  simp [part, List.getD, List.getElem?_append, h, show j < min i n by omega, show j < n by omega]

/-- so many of one list, the other one's behind them -/
def over (T b : List Nat) (i : Nat) : List Nat := T.take i ++ b.drop i
theorem over_length (T b : List Nat) (n i : Nat) (h : T.length = n) (hb : b.length = n) (hi : i ≤ n) : (over T b i).length = n := by simp [over, h, hb]; omega
theorem over_zero (T b : List Nat) : over T b 0 = b := by simp [over]
theorem over_full (T b : List Nat) (n : Nat) (h : T.length = n) (hb : b.length = n) : over T b n = T := by simp [over, ← h]; omega
theorem over_at (T b : List Nat) (n i j : Nat) (h : T.length = n) (hb : b.length = n) (hj : j < n) : (over T b i).getD j 0 = if j < i then T.getD j 0 else b.getD j 0 := by
  simp only [over, List.getD, List.getElem?_append, List.length_take, h, List.getElem?_take, List.getElem?_drop]
  by_cases hji : j < i
  · rw [if_pos (by omega), if_pos hji, if_pos hji]
  · rw [if_neg (by omega), if_neg hji]
    congr 2
    by_cases hin : i ≤ n
    · omega
    · omega
theorem over_set (T b : List Nat) (n i : Nat) (h : T.length = n) (hb : b.length = n) (hi : i < n) : (over T b i).set i (T.getD i 0) = over T b (i + 1) := by
  apply List.ext_getElem
  · simp [over, h, hb]; omega
  · intro k h1 h2
    have hk : k < n := by simp [over, h, hb] at h2; omega
    have e1 := over_at T b n i k h hb hk
    have e2 := over_at T b n (i + 1) k h hb hk
    have g : ∀ (l : List Nat) (hl : k < l.length), l[k] = l.getD k 0 := fun l hl => by simp [List.getD, hl]
    rw [List.getElem_set]
    by_cases e : i = k
    · subst e
      rw [if_pos rfl, g _ h2, e2, if_pos (by omega)]
    · rw [if_neg e, g _ (by simpa using h1), g _ h2, e1, e2]
      by_cases hki : k < i
      · rw [if_pos hki, if_pos (by omega)]
      · rw [if_neg hki, if_neg (by omega)]

theorem ret_u8 {a b : Int} (h : a = b) : Ending.returned (.int .u8 a) = .returned (.int .u8 b) := by rw [h]

theorem mapM_some {α β : Type} (F : α → Option β) (G : α → β) : ∀ (l : List α), (∀ i ∈ l, F i = some (G i)) → l.mapM F = some (l.map G) := by
  intro l
  induction l with
  | nil => intro _; rfl
  | cons x l ih =>
    intro h
    rw [List.mapM_cons, h x (List.mem_cons_self ..), ih fun i hi => h i (List.mem_cons_of_mem _ hi)]
    rfl

theorem flat_range {α : Type} (l : List α) (d : α) : ((List.range l.length).map fun i => [l.getD i d]).flatten = l := by
  induction l with
  | nil => rfl
  | cons x l ih =>
    rw [List.length_cons, List.range_succ_eq_map, List.map_cons, List.map_map, List.flatten_cons]
    show [x] ++ _ = _
    rw [show ((fun i => [(x :: l).getD i d]) ∘ Nat.succ) = fun i => [l.getD i d] from by funext i; simp, ih]
    rfl

theorem lits_of_ints {P : Program} {t e : TypeId} {n : Nat} {k : IntKind} (ht : P.underlying t = some (.array n e)) (he : P.underlying e = some (.int k)) (hce : P.cellsOf e = 1) (hct : P.cellsOf t = n) (zs : List Int) (hl : zs.length = n) (hw : ∀ z ∈ zs, (Lit.int k z).wf = true) :
    P.keyLits 2 t (zs.map (Value.int k)) = some (zs.map (Lit.int k)) := by
  have h1 : (List.range n).mapM (fun i => P.keyLits 1 e (((zs.map (Value.int k)).drop (i * 1)).take 1)) = some ((List.range n).map fun i => [(zs.map (Lit.int k)).getD i (.int k 0)]) := by
    refine mapM_some _ _ _ fun i hi => ?_
    have hin : i < zs.length := by rw [hl]; simpa using hi
    have e1 : ((zs.map (Value.int k)).drop (i * 1)).take 1 = [Value.int k zs[i]] := by
      rw [Nat.mul_one, List.drop_eq_getElem_cons (by simpa using hin)]
      simp
    rw [e1]
    have e2 : (zs.map (Lit.int k)).getD i (.int k 0) = Lit.int k zs[i] := by simp [List.getD, hin]
    rw [e2]
    simp [Program.keyLits, he, hw _ (List.getElem_mem hin)]
  have h2 : (P.keyLits 2 t (zs.map (Value.int k))) = ((List.range n).mapM fun i => P.keyLits 1 e (((zs.map (Value.int k)).drop (i * P.cellsOf e)).take (P.cellsOf e))).map List.flatten := by
    conv => lhs; unfold Program.keyLits
    simp only [ht]
    rw [if_pos (by rw [List.length_map, hl, hct])]
  rw [h2, hce, h1]
  have := flat_range (zs.map (Lit.int k)) (.int k 0)
  rw [List.length_map, hl] at this
  rw [Option.map_some, this]

/-- two arrays of integers held against each other -/
theorem run_eq_ints {P : Program} {t e : TypeId} {n : Nat} {k : IntKind} (ht : P.underlying t = some (.array n e)) (he : P.underlying e = some (.int k)) (hce : P.cellsOf e = 1) (hct : P.cellsOf t = n) (a b : List Int) (ha : a.length = n) (hb : b.length = n)
    (wa : ∀ z ∈ a, (Lit.int k z).wf = true) (wb : ∀ z ∈ b, (Lit.int k z).wf = true) (w : World) :
    (Op.equalIn 10000 t (.agg (a.map (Value.int k)).toArray) (.agg (b.map (Value.int k)).toArray)).run P w = .ok (decide (a = b)) w := by
  have hk : P.keyTypeAt 2 t = true := by
    unfold Program.keyTypeAt
    simp only [ht]
    unfold Program.keyTypeAt
    simp only [he]
  obtain ⟨r, hr, hiff⟩ := run_equalIn_deep 9998 2 t hk w 2 2 (.agg (a.map (Value.int k)).toArray) (.agg (b.map (Value.int k)).toArray) (a.map (Lit.int k)) (b.map (Lit.int k))
    (by simp [Value.formed, ht, hct, ha]) (by simp [Value.formed, ht, hct, hb]) (by simpa [Value.cells] using lits_of_ints ht he hce hct a ha wa) (by simpa [Value.cells] using lits_of_ints ht he hce hct b hb wb)
  rw [hr]
  congr 1
  have hinj : a.map (Lit.int k) = b.map (Lit.int k) ↔ a = b := by
    constructor
    · intro h
      exact List.map_inj_right (fun x y hxy => by cases hxy; rfl) |>.1 h
    · intro h; rw [h]
  by_cases hab : a = b
  · rw [decide_eq_true hab, hiff, hinj]; exact hab
  · rw [decide_eq_false hab]
    cases r with
    | false => rfl
    | true => exact absurd (hinj.1 (hiff.1 rfl)) hab

end Go.Proofs.YtbmjlofehbbkbaaDoor

/- Small laws for the walks, of no layer: rows read and stored, structs and arrays held against each other, as one operation; a struct in a cell of its own that is told; min and max. -/
namespace Go.Proofs.YtbmjlofehbbkbaaDoor
open Go.RowKit

/-- a row read out of the middle of a block -/
theorem exec_load_mid {P : Program} {oi : Oper} {a : Act} {w : World} (ty : TypeId) (x : Operand) (ho : oi.op = .load ty x)
    (b o : Nat) (hx : a.eval x = .pointer (some ⟨b, o, none⟩)) (cs : List Value) (d : TypeDesc) (hc : w.rangeAt b o cs)
    (hu : P.underlying ty = some d) (hd : d.isRow = true) (hi : (P.info? ty).map (·.size) = some cs.length) : (execOp a.eval oi).run P w = .ok (.value (.agg cs.toArray)) w := by
  unfold execOp
  simp only [ho, hx, Instr.loadAt, Instr.sureAddr, Sem.run_bind, Sem.run_pure, Result.andThen_ok, run_loadVar_mid w b o ty cs d hc hu hd hi]
theorem exec_load_all {P : Program} {oi : Oper} {a : Act} {w : World} (ty : TypeId) (x : Operand) (ho : oi.op = .load ty x)
    (b : Nat) (hx : a.eval x = .pointer (some ⟨b, 0, none⟩)) (t : TypeId) (vs : List Value) (d : TypeDesc) (hc : Arr w b t vs)
    (hu : P.underlying ty = some d) (hd : d.isRow = true) (hi : (P.info? ty).map (·.size) = some vs.length) : (execOp a.eval oi).run P w = .ok (.value (.agg vs.toArray)) w :=
  exec_load_mid ty x ho b 0 hx vs d hc.range hu hd hi

/-- a whole array stored into the middle of a block -/
theorem wp_store_at {P : Program} {o : Oper} {a : Act} {w : World} {K : Act → World → Prop} {Q : Exit → Act → World → Prop} (hdd : o.dst = none) (ty : TypeId) (x y : Operand) (ho : o.op = .store ty x y)
    (g off : Nat) (cells : Array Value) (hx : a.eval x = .pointer (some ⟨g, off, none⟩)) (hy : a.eval y = .agg cells)
    (t : TypeId) (cur : List Value) (hg : Arr w g t cur) (hi : (P.info? ty).map (·.size) = some cells.size)
    (hfit : off + cells.size ≤ cur.length) (h1 : cells.all (·.oneCell') = true)
    (h : K a (w.setRow g (cur.take off ++ cells.toList ++ cur.drop (off + cells.size)).toArray)) : o.wp P a w K Q := by
  have hst := run_storeCells_at (P := P) g off t cells.toList 0 cur.toArray w hg (by simpa using hfit) (fun v hv => (Array.all_eq_true_iff_forall_mem.1 h1) v (by simpa using hv))
  have hrun : (storeVar ty ⟨g, off, none⟩ (.agg cells)).run P w = .ok () (w.setRow g (cur.take off ++ cells.toList ++ cur.drop (off + cells.size)).toArray) := by
    cases hq : P.info? ty with
    | none => simp [hq] at hi
    | some i =>
      have hs : cells.size = i.size := by simp [hq] at hi; omega
      simp [storeVar, sizeOf, typeInfo, hq, Value.cells, hs] at hst ⊢
      exact hst
  unfold Oper.wp execOp
  simp only [ho, hx, hy, Instr.storeAt, Instr.sureAddr, Sem.run_bind, Sem.run_pure, Result.andThen_ok, hrun]
  show K (a.put o.dst undef) _
  rw [hdd]
  exact h

/-- two arrays held against each other: what the operation yields -/
theorem exec_eql_agg {P : Program} {o : Oper} {a : Act} {w : World} (t tt : TypeId) (x y : Operand) (ho : o.op = .binOp .eql t x y tt) (xs ys : Array Value) (hx : a.eval x = .agg xs) (hy : a.eval y = .agg ys) (r : Bool)
    (hgd : (eqGuard .eql t x y (.agg xs) (.agg ys)).run P w = .ok () w) (he : (Op.equalIn 10000 t (.agg xs) (.agg ys)).run P w = .ok r w) : (execOp a.eval o).run P w = .ok (.value (.bool r)) w := by
  unfold execOp
  simp only [ho, hx, hy, Sem.run_bind, hgd, run_eql_struct, he, Result.andThen_ok, Sem.run_pure]

theorem exec_neq_agg {P : Program} {o : Oper} {a : Act} {w : World} (t tt : TypeId) (x y : Operand) (ho : o.op = .binOp .neq t x y tt) (xs ys : Array Value) (hx : a.eval x = .agg xs) (hy : a.eval y = .agg ys) (r : Bool)
    (hgd : (eqGuard .neq t x y (.agg xs) (.agg ys)).run P w = .ok () w) (he : (Op.equalIn 10000 t (.agg xs) (.agg ys)).run P w = .ok r w) : (execOp a.eval o).run P w = .ok (.value (.bool (!r))) w := by
  unfold execOp
  simp only [ho, hx, hy, Sem.run_bind, hgd, run_neq_struct, he, Result.andThen_ok, Sem.run_pure]

/-- an operation that its guard wants, by what it yields -/
theorem wpList_exec {P : Program} {ops : Array Oper} {rest : List Oper} {o : Oper} {a : Act} {w : World} {Q : Exit → Act → World → Prop} (hw : Region.wanted o (yielded ops a.tmps) = true) (v : Value) (he : (execOp a.eval o).run P w = .ok (.value v) w)
    (h : wpList P ops Q rest (a.put o.dst v) w) : wpList P ops Q (o :: rest) a w :=
  wpList_step fun K hK => by
    simp only [hw, if_true]
    unfold Oper.wp
    rw [he]
    exact hK _ _ h

theorem exec_min {P : Program} {o : Oper} {a : Act} {w : World} (x y : Operand) (ts : Array TypeId) (ho : o.op = .call { callee := .builtin .min, args := #[x, y], argTypes := ts }) (k : IntKind) (p q m : Int) (hx : a.eval x = .int k p) (hy : a.eval y = .int k q) (hm : (if q < p then q else p) = m) :
    (execOp a.eval o).run P w = .ok (.value (.int k m)) w := by
  subst hm
  simp [execOp, ho, resolve, invoke, builtin, hx, hy, run_min_int2, Result.andThen]

theorem exec_max {P : Program} {o : Oper} {a : Act} {w : World} (x y : Operand) (ts : Array TypeId) (ho : o.op = .call { callee := .builtin .max, args := #[x, y], argTypes := ts }) (k : IntKind) (p q m : Int) (hx : a.eval x = .int k p) (hy : a.eval y = .int k q) (hm : (if q > p then q else p) = m) :
    (execOp a.eval o).run P w = .ok (.value (.int k m)) w := by
  subst hm
  simp [execOp, ho, resolve, invoke, builtin, hx, hy, run_max_int2, Result.andThen]

/-- a struct in a cell of its own and a number are what is told -/
theorem results_ct {fn : Func} {p u : Tmp} {ty : TypeId} {d : TypeDesc} (h : fn.results = #[.cell p ty, .tmp u]) (tmps : Array Value) (w : World) (g : Nat) (cs : List Value) (hp : tmps.getD p undef = .pointer (some ⟨g, 0, none⟩)) (hg : Arr w g ty cs)
    (hu : Tryd.prog.underlying ty = some d) (hd : d.isRow = true) (hi : (Tryd.prog.info? ty).map (·.size) = some cs.toArray.size) :
    (results fn tmps).run Tryd.prog w = .ok (.tuple #[.agg cs.toArray, tmps.getD u undef]) w := by
  rw [results_cell_tmp h tmps Tryd.prog w, hp]
  simp only [asAddr, Sem.run_pure, Result.andThen_ok]
  rw [run_loadVar_row w g ty ty cs.toArray (0, 0) d hg hu (by cases d <;> first | rfl | (simp [TypeDesc.isRow] at hd)) hi]
  rfl
/-- .. and two more -/
theorem results_ctt {fn : Func} {p u v : Tmp} {ty : TypeId} {d : TypeDesc} (h : fn.results = #[.cell p ty, .tmp u, .tmp v]) (tmps : Array Value) (w : World) (g : Nat) (cs : List Value) (hp : tmps.getD p undef = .pointer (some ⟨g, 0, none⟩)) (hg : Arr w g ty cs)
    (hu : Tryd.prog.underlying ty = some d) (hd : d.isRow = true) (hi : (Tryd.prog.info? ty).map (·.size) = some cs.toArray.size) :
    (results fn tmps).run Tryd.prog w = .ok (.tuple #[.agg cs.toArray, tmps.getD u undef, tmps.getD v undef]) w := by
  have hp' : tmps[p]?.getD undef = .pointer (some ⟨g, 0, none⟩) := by simpa using hp
  simp [results, h, hp', asAddr, run_loadVar_row w g ty ty cs.toArray (0, 0) d hg hu (by cases d <;> first | rfl | (simp [TypeDesc.isRow] at hd)) hi]

theorem agg_struct {P : Program} {W : World} {r : Reach} {b0 : Nat} {t : TypeId} {fs : Array Field} {v : Value} (ht : P.underlying t = some (.struct fs)) (h : Value.okWide P W r b0 t v) : ∃ cs, v = .agg cs := by
  cases v <;> first | exact ⟨_, rfl⟩ | (exfalso; simp [Value.okWide, ht] at h)

theorem ret_i64 {a b : Int} (h : a = b) : Ending.returned (.int .i64 a) = .returned (.int .i64 b) := by rw [h]

/-- two boxes of the call's own -/
theorem boxes (w : World) (A B : List Value) (ta tb : TypeId) : Arr ((w.alloc (Obj.cells A.toArray ta)).alloc (Obj.cells B.toArray tb)) w.heap.size ta A ∧ Arr ((w.alloc (Obj.cells A.toArray ta)).alloc (Obj.cells B.toArray tb)) (w.heap.size + 1) tb B ∧ Below w.heap.size w ((w.alloc (Obj.cells A.toArray ta)).alloc (Obj.cells B.toArray tb)) :=
  ⟨(Arr.new w ta A).alloc _, Arr.newAt (w.alloc _) tb B _ (by simp), ((Below.refl _ _).alloc (Nat.le_refl _) _).alloc (by simp) _⟩

theorem arr_ne {w : World} {g h : Nat} {t u : TypeId} {cs ds : List Value} (h1 : Arr w g t cs) (h2 : Arr w h u ds) (ht : t ≠ u) : g ≠ h := fun e => by
  subst e
  unfold Arr at h1 h2
  rw [h1] at h2
  simp at h2
  exact ht h2.2

end Go.Proofs.YtbmjlofehbbkbaaDoor

/- Rows of the call's own, of whatever element: how they lie, what leaves them as they lay, make and append as one operation. -/
namespace Go.Proofs.YtbmjlofehbbkbaaDoor
open Go.ChangeShapes Go.WideShapes Go.ChangeAt Go.WideMaps Go.WideElems Go.RowKit

theorem grown_below {B : Nat} {a b : World} {r : Option Nat} (h : a.grownBy b r) (hB : B ≤ a.heap.size) (hr : ∀ k, r = some k → B ≤ k) : Below B a b :=
  (Below.refl B a).grown h hB hr

theorem grown_trans {a b c : World} {r : Option Nat} (h : a.grownBy b r) (k : b.grownBy c r) : a.grownBy c r :=
  ⟨k.os.trans h.os, k.tape.trans h.tape, k.output.trans h.output, Nat.le_trans h.size k.size, fun i hi hr => (k.block i (Nat.lt_of_lt_of_le hi h.size) hr).trans (h.block i hi hr)⟩

theorem grown_drew {a b : World} {r : Option Nat} (h : a.grownBy b r) : a.grownBy b.drew r := ⟨h.os, h.tape, h.output, h.size, h.block⟩

theorem own_shape {w : World} {B : Nat} {e : TypeId} {v : Value} {n : Nat} {xs : List Value} (h : w.ownsRow B e 1 v n xs) (hn : 0 < n) :
    ∃ g cap, v = .slice (some ⟨g, 0, none⟩) n cap ∧ B ≤ g ∧ g < w.heap.size ∧ n ≤ cap ∧ cap ≤ maxLen := by
  rcases h.2 with ⟨_, h0⟩ | ⟨g, cap, cur, rfl, hB, hg, hnc, hcm, _⟩
  · omega
  · refine ⟨g, cap, rfl, hB, ?_, hnc, hcm⟩
    by_cases hlt : g < w.heap.size
    · exact hlt
    · rw [Array.getElem?_eq_none (by omega)] at hg; cases hg

theorem grown_refl (a : World) (r : Option Nat) : a.grownBy a r := ⟨rfl, rfl, rfl, Nat.le_refl _, fun _ _ _ => rfl⟩

/-- 'make([]T, n)' as one operation -/
theorem wp_make_full {P : Program} (w : World) {o : Oper} {a : Act} {K : Act → World → Prop} {Q : Exit → Act → World → Prop}
    {d : Nat} (hd : o.dst = some d) (l c : Operand) (t : TypeId) (hop : o.op = Op.makeSlice t l c)
    (base : Nat) (e : TypeId) (i : TypeInfo) (z : Value) (size : Nat) (h1 : P.underlying t = some (.slice e)) (h2 : P.info? e = some i) (h3 : i.zero = some z) (h4 : i.size = size)
    (kl kc : IntKind) (L C : Int) (n : Nat) (hl : a.eval l = .int kl L) (hc : a.eval c = .int kc C) (hL : L = (n : Int)) (hC : C = (n : Int)) (b2 : i.bytes * n ≤ 281474976710656) (b3 : n ≤ maxLen) (b4 : base ≤ w.heap.size)
    (hK : ∀ w', w'.ownsRow base e size (.slice (some ⟨w.heap.size, 0, none⟩) n n) n (madeCells z.cells (n * size)).toList → w.grownBy w' none → K (a.put (some d) (.slice (some ⟨w.heap.size, 0, none⟩) n n)) w') :
    o.wp P a w K Q := by
  rw [← hd] at hK
  obtain ⟨w', hrun, r1, r2⟩ := run_make_full (P := P) w base t e i z size h1 h2 h3 h4 kl kc n b2 b3 b4
  subst hL
  subst hC
  unfold Oper.wp
  simp [execOp, hop, hl, hc, hrun, Result.andThen]
  exact hK w' r1 r2

/-- 'append' as one operation -/
theorem wp_append_dst {P : Program} (w : World) {o : Oper} {a : Act} {K : Act → World → Prop} {Q : Exit → Act → World → Prop} {d : Nat} (hd : o.dst = some d) (s x : Operand) (t : TypeId)
    (ho : o.op = .call { callee := .builtin .append, args := #[s, x], argTypes := #[t, t] })
    (base : Nat) (e : TypeId) (i : TypeInfo) (z : Value) (size bytes : Nat) (ht : P.underlying t = some (.slice e)) (hi : P.info? e = some i) (hz : i.zero = some z)
    (hsize : i.size = size) (hby : i.bytes = bytes) (hzs : z.cells.size = size) (hsz : 0 < size)
    (v : Value) (n : Nat) (xs : List Value) (hs : a.eval s = v) (hown : w.ownsRow base e size v n xs)
    (ad : Addr) (m c : Nat) (news : List Value) (hx : a.eval x = .slice (some ad) m c) (hl : news.length = m * size) (hnews : ∀ j u, news[j]? = some u → w.cell? (ad.add j) = some u) (h1 : ∀ u ∈ news, u.oneCell' = true)
    (h63 : n + m ≤ maxLen) (hbytes : (n + m) * bytes ≤ 140737488355328) (hbase : base ≤ w.heap.size)
    (h : ∀ v' w', w'.ownsRow base e size v' (n + m) (xs ++ news) → w.grownBy w' v.ownBlock → K (a.put (some d) v') w') : o.wp P a w K Q :=
  wp_append_own w s x t ho base e i z size bytes ht hi hz hsize hby hzs hsz v n xs hs hown ad m c news hx hl hnews h1 h63 hbytes hbase fun v' w' h1 h2 _ => by rw [hd]; exact h v' w' h1 h2

theorem below_grown {w w' : World} (h : Below w.heap.size w w') (r : Option Nat) : w.grownBy w' r := ⟨h.os, h.tape, h.output, h.size, fun k hk _ => h.block k hk⟩

theorem own_below {B : Nat} {e : TypeId} {k : Nat} {v : Value} {n : Nat} {xs : List Value} {w w' : World} (h : w.ownsRow B e k v n xs) (hb : Below w.heap.size w w') : w'.ownsRow B e k v n xs :=
  h.kept (below_grown hb none) (by by_cases hv : v.ownBlock = none; exact Or.inl hv; exact Or.inr hv)

theorem own_base {w : World} {B B' : Nat} {e : TypeId} {v : Value} {n : Nat} {xs : List Value} (h : w.ownsRow B e 1 v n xs) (hB : B' ≤ B) : w.ownsRow B' e 1 v n xs := by
  refine ⟨h.1, ?_⟩
  rcases h.2 with h0 | ⟨g, cap, cur, e1, e2, e3⟩
  · exact .inl h0
  · exact .inr ⟨g, cap, cur, e1, Nat.le_trans hB e2, e3⟩


end Go.Proofs.YtbmjlofehbbkbaaDoor

/- Bytes: bytes that lie in memory, rows of the call's own, append, parts of a slice, strings; arguments opened. -/
namespace Go.Proofs.YtbmjlofehbbkbaaDoor
open Go.ChangeShapes Go.WideShapes Go.ChangeAt Go.WideMaps Go.WideElems Go.RowKit

/-- the bytes b lie from there on -/
def Bts (w : World) (g o : Nat) (b : List Nat) : Prop := ∀ i, i < b.length → w.cell? ⟨g, o + i, none⟩ = some (.int .u8 ((b.getD i 0 : Nat) : Int))

theorem Bts.kept {w w' : World} {g o : Nat} {b : List Nat} (h : Bts w g o b) (hb : Below w.heap.size w w') : Bts w' g o b :=
  fun i hi => (hb.cell (block_lt_of_cell (h i hi))).trans (h i hi)

theorem Bts.keptB {B : Nat} {w w' : World} {g o : Nat} {b : List Nat} (h : Bts w g o b) (hB : g < B) (hb : Below B w w') : Bts w' g o b :=
  fun i hi => (hb.cell (p := ⟨g, o + i, none⟩) hB).trans (h i hi)

def BytesN (l : List Nat) : Prop := ∀ x ∈ l, x < 256

/-- bytes that are handed in: none, or an address -/
def BI (w : World) (p : Option Addr) (bs : List Nat) : Prop := bs = [] ∨ ∃ g o, p = some ⟨g, o, none⟩ ∧ Bts w g o bs

theorem BI.kept {w w' : World} {p : Option Addr} {bs : List Nat} (h : BI w p bs) (hb : Below w.heap.size w w') : BI w' p bs := by
  rcases h with h | ⟨g, o, rfl, h⟩
  · exact Or.inl h
  · exact Or.inr ⟨g, o, rfl, h.kept hb⟩

theorem infoU8 : (Tryd.prog.info? 5).map (fun i => (i.zero, i.size, i.bytes)) = some (some (.int .u8 0), 1, 1) := by kernel_rfl

theorem one_mem (l : List Nat) : ∀ u ∈ u8s l, u.oneCell' = true := by
  intro u hu
  obtain ⟨x, _, rfl⟩ := List.mem_map.1 hu
  rfl

/-- 'append(x, y...)' as one operation: x a row of the call's own, y any bytes -/
theorem wp_append_bytes_dst {w : World} {o : Oper} {a : Act} {K : Act → World → Prop} {Q : Exit → Act → World → Prop} {dd : Nat} (hdd : o.dst = some dd) (s x : Operand)
    (ho : o.op = .call { callee := .builtin .append, args := #[s, x], argTypes := #[42, 42] })
    (B : Nat) (v : Value) (xs : List Nat) (hs : a.eval s = v) (n : Nat) (hn : xs.length = n) (hown : w.ownsRow B 5 1 v n (u8s xs))
    (p : Option Addr) (m c : Nat) (ys : List Nat) (hm : ys.length = m) (hx : a.eval x = .slice p m c) (hb : BI w p ys) (hp : p = none → c = 0) (hsum : n + m ≤ 140737488355328) (hB : B ≤ w.heap.size)
    (h : ∀ v' w', w'.ownsRow B 5 1 v' (n + m) (u8s (xs ++ ys)) → w.grownBy w' v.ownBlock → K (a.put (some dd) v') w') : o.wp Tryd.prog a w K Q := by
  obtain ⟨i0, hi, hz0, hz1, hz2⟩ := info_parts infoU8
  subst hm hn
  cases p with
  | none =>
    have e0 := hp rfl
    subst e0
    rcases hb with h0 | ⟨b, off, h0, _⟩
    · subst h0
      have hrun := run_append_owned_none (P := Tryd.prog) (w := w) B 42 o.type 5 i0 1 Tryd.underlying42 hi v _ _ hown
      have hx' : a.eval x = .slice none 0 0 := hx
      unfold Oper.wp
      simp [execOp, ho, resolve, invoke, builtin, hs, hx', hrun, Result.andThen]
      show K (a.put o.dst v) w
      rw [hdd]
      exact h v w (by simpa using hown) (grown_refl _ _)
    · cases h0
  | some ad =>
    refine wp_append_dst w hdd s x 42 ho B 5 i0 (.int .u8 0) 1 1 Tryd.underlying42 hi hz0 hz1 hz2 rfl (by decide) v _ _ hs hown ad ys.length c (u8s ys) hx (by simp [u8s]) ?_ (one_mem _) ?_ (by omega) hB ?_
    · intro j u hj
      have hjn : j < ys.length := by
        have := (List.getElem?_eq_some_iff.1 hj).1
        simpa [u8s] using this
      rcases hb with h0 | ⟨b, off, h0, hcell⟩
      · subst h0; simp at hjn
      · cases h0
        rw [Addr.add_mid, hcell j hjn]
        rw [u8s_at hjn] at hj
        exact hj
    · unfold maxLen; omega
    · intro v' w' h1 h2
      exact h v' w' (by rw [show u8s (xs ++ ys) = u8s xs ++ u8s ys by simp [u8s]]; exact h1) h2

/-- bytes as a string -/
def strF (xs : List Nat) : ByteArray := strOfNums (xs.map Int.ofNat)

theorem conv_any {w : World} {p : Option Addr} {xs : List Nat} {c : Nat} (h : BI w p xs) (n : Nat) (hn : xs.length = n) :
    (convert 42 9 (.slice p n c)).run Tryd.prog w = .ok (.string (strF xs)) w := by
  subst hn
  rcases h with rfl | ⟨b, o, rfl, hc⟩
  · cases p with
    | none => exact run_convert_bytes_nil w 42 5 Tryd.underlying42 Tryd.underlying5 0 c _ Tryd.underlying9
    | some a =>
      rw [run_convert_bytes_string w 42 9 5 _ _ c Tryd.underlying42 Tryd.underlying5 Tryd.underlying9]
      have hl : (loadCells a ([] : List Int).length).run Tryd.prog w = .ok (([] : List Int).map (Value.int .u8)).toArray w := by
        simp [loadCells, loadCellsFrom]
      exact run_bytesToString w a _ c [] hl
  · have hl : (xs.map Int.ofNat).length = xs.length := by simp
    refine run_convert_bytes_arg w 42 5 Tryd.underlying42 Tryd.underlying5 b o _ c (xs.map Int.ofNat) hl (fun i hi => ?_) _ Tryd.underlying9
    have hi' : i < xs.length := hi
    rw [hc i hi']
    congr 2
    simp [List.getD, hi']

theorem strF_inj {xs ys : List Nat} (hx : BytesN xs) (hy : BytesN ys) (h : strF xs = strF ys) : xs = ys := by
  have h1 : (strF xs).data.toList = (strF ys).data.toList := by rw [h]
  have e : ∀ l : List Nat, (strF l).data.toList = l.map fun n => UInt8.ofNat n := fun l => by
    rw [strF, strOfNums_data, List.map_map]; rfl
  rw [e, e] at h1
  have back : ∀ l : List Nat, BytesN l → (l.map fun n => UInt8.ofNat n).map UInt8.toNat = l := fun l hl => by
    rw [List.map_map]
    conv => rhs; rw [← List.map_id l]
    apply List.map_congr_left
    intro n hn
    have := hl n hn
    simp only [Function.comp, id]
    rw [UInt8.toNat_ofNat']
    omega
  rw [← back xs hx, ← back ys hy, h1]

theorem ba_beq (a b : ByteArray) : (a == b) = decide (a = b) := by
  obtain ⟨x⟩ := a
  obtain ⟨y⟩ := b
  show (x == y) = decide _
  by_cases h : x = y
  · subst h; simp
  · simp [h]

theorem strF_eq {xs ys : List Nat} (hx : BytesN xs) (hy : BytesN ys) : (strF xs == strF ys) = decide (xs = ys) := by
  rw [ba_beq]
  exact decide_eq_decide.2 ⟨fun e => strF_inj hx hy e, fun e => by rw [e]⟩

/-- 'append(x, y...)': x a row of the call's own, y any bytes -/
theorem wpList_append_bytes {w : World} {ops : Array Oper} {rest : List Oper} {o : Oper} {a : Act} {Q : Exit → Act → World → Prop} (hgd : o.guard = none) (s x : Operand)
    (ho : o.op = .call { callee := .builtin .append, args := #[s, x], argTypes := #[42, 42] })
    (B : Nat) (v : Value) (xs : List Nat) (hs : a.eval s = v) (n : Nat) (hn : xs.length = n) (hown : w.ownsRow B 5 1 v n (u8s xs))
    (p : Option Addr) (m c : Nat) (ys : List Nat) (hm : ys.length = m) (hx : a.eval x = .slice p m c) (hb : BI w p ys) (hp : p = none → c = 0) (hsum : n + m ≤ 140737488355328) (hB : B ≤ w.heap.size)
    (h : ∀ v' w', w'.ownsRow B 5 1 v' (n + m) (u8s (xs ++ ys)) → w.grownBy w' v.ownBlock → wpList Tryd.prog ops Q rest (a.put o.dst v') w') :
    wpList Tryd.prog ops Q (o :: rest) a w := by
  obtain ⟨i0, hi, hz0, hz1, hz2⟩ := info_parts infoU8
  subst hm hn
  cases p with
  | none =>
    have e0 := hp rfl
    subst e0
    rcases hb with h0 | ⟨b, off, h0, _⟩
    · subst h0
      refine wpList_append_own_none hgd s x 42 ho B 5 i0 1 Tryd.underlying42 hi v _ _ hs hown hx ?_
      exact h v w (by simpa using hown) (grown_refl _ _)
    · cases h0
  | some ad =>
    refine wpList_append_own w hgd s x 42 ho B 5 i0 (.int .u8 0) 1 1 Tryd.underlying42 hi hz0 hz1 hz2 rfl (by decide) v _ _ hs hown ad ys.length c (u8s ys) hx (by simp [u8s]) ?_ (one_mem _) ?_ (by omega) hB ?_
    · intro j u hj
      have hjn : j < ys.length := by
        have := (List.getElem?_eq_some_iff.1 hj).1
        simpa [u8s] using this
      rcases hb with h0 | ⟨b, off, h0, hcell⟩
      · subst h0; simp at hjn
      · cases h0
        rw [Addr.add_mid, hcell j hjn]
        rw [u8s_at hjn] at hj
        exact hj
    · unfold maxLen; omega
    · intro v' w' h1 h2 _
      exact h v' w' (by rw [show u8s (xs ++ ys) = u8s xs ++ u8s ys by simp [u8s]]; exact h1) h2

theorem u8s_append (a b : List Nat) : u8s (a ++ b) = u8s a ++ u8s b := by simp [u8s]

/-- a piece that is handed in -/
def Piece (w : World) (p : Option Addr) (c : Nat) (b : List Nat) : Prop :=
  BI w p b ∧ (p = none → c = 0) ∧ BytesN b ∧ b.length ≤ c ∧ c ≤ maxLen

/-- a row of the call's own is bytes that may be handed on -/
theorem own_piece {w : World} {B : Nat} {v : Value} {l : List Nat} (h : w.ownsRow B 5 1 v l.length (u8s l)) (hb : BytesN l) :
    ∃ p c, v = .slice p l.length c ∧ Piece w p c l ∧ ∀ a, p = some a → B ≤ a.block ∧ a.block < w.heap.size := by
  by_cases hn : 0 < l.length
  · obtain ⟨g, cap, rfl, hB, hg, hc, hm⟩ := own_shape h hn
    exact ⟨_, cap, rfl, ⟨Or.inr ⟨g, 0, rfl, fun i hi => by rw [Nat.zero_add]; exact (h.cellAt i (by omega)).trans (u8s_at hi)⟩, (fun e => by cases e), hb, hc, hm⟩, fun a ha => by cases ha; exact ⟨hB, hg⟩⟩
  · have h0 : l = [] := List.eq_nil_of_length_eq_zero (by omega)
    subst h0
    rcases h.2 with ⟨rfl, _⟩ | ⟨g, cap, cur, rfl, hB, hg, hnc, hcm, _⟩
    · exact ⟨none, 0, rfl, ⟨Or.inl rfl, (fun _ => rfl), hb, Nat.le_refl _, Nat.zero_le _⟩, fun a ha => by cases ha⟩
    · refine ⟨_, cap, rfl, ⟨Or.inl rfl, (fun e => by cases e), hb, Nat.zero_le _, hcm⟩, fun a ha => ?_⟩
      cases ha
      refine ⟨hB, ?_⟩
      by_cases hlt : g < w.heap.size
      · exact hlt
      · rw [Array.getElem?_eq_none (by omega)] at hg; cases hg

theorem own_piece_n {w : World} {B : Nat} {v : Value} {l : List Nat} {n : Nat} (h : w.ownsRow B 5 1 v n (u8s l)) (hl : l.length = n) (hb : BytesN l) :
    ∃ p c, v = .slice p n c ∧ Piece w p c l ∧ ∀ a, p = some a → B ≤ a.block ∧ a.block < w.heap.size := by
  subst hl
  exact own_piece h hb

theorem bytes_append {a b : List Nat} (ha : BytesN a) (hb : BytesN b) : BytesN (a ++ b) := fun x hx => by
  rcases List.mem_append.1 hx with h | h
  · exact ha x h
  · exact hb x h

theorem Piece.kept {w w' : World} {p : Option Addr} {c : Nat} {b : List Nat} (h : Piece w p c b) (hb : Below w.heap.size w w') : Piece w' p c b := ⟨h.1.kept hb, h.2⟩

theorem size5 (w : World) : (Go.sizeOf 5).run Tryd.prog w = .ok 1 w := by
  obtain ⟨i0, hi, hz0, hz1, hz2⟩ := info_parts infoU8
  simp [Go.sizeOf, typeInfo, hi, hz1]

/-- 'b[m:]' -/
def cutP (p : Option Addr) (l cap : Nat) : Option Addr := if cap = l then p else p.map (·.add l)

theorem bi_from {w : World} {p : Option Addr} {bs : List Nat} (h : BI w p bs) (l cap : Nat) (hc : bs.length ≤ cap) : BI w (cutP p l cap) (bs.drop l) := by
  by_cases hl : bs.length ≤ l
  · exact Or.inl (List.drop_eq_nil_of_le hl)
  · rcases h with h0 | ⟨b, o, rfl, hcl⟩
    · subst h0; simp at hl
    · refine Or.inr ⟨b, o + l, ?_, fun i hi => ?_⟩
      · simp [cutP, show cap ≠ l by omega, Addr.add_mid]
      · have hi' : l + i < bs.length := by simp at hi; omega
        have := hcl (l + i) hi'
        rw [Nat.add_assoc, this]
        simp [List.getD]

theorem cutP_block {p : Option Addr} {l cap : Nat} {a : Addr} (h : cutP p l cap = some a) : ∃ a0, p = some a0 ∧ a.block = a0.block := by
  cases p with
  | none => simp [cutP] at h
  | some a0 =>
    refine ⟨a0, rfl, ?_⟩
    unfold cutP at h
    split at h
    · cases h; rfl
    · simp at h; subst h; unfold Addr.add; split <;> rfl

theorem bi_grown {w w' : World} {p : Option Addr} {bs : List Nat} {g : Nat} (h : BI w p bs) (hg : w.grownBy w' (some g)) (hne : ∀ a, p = some a → bs ≠ [] → a.block ≠ g) : BI w' p bs := by
  by_cases hn : bs = []
  · exact Or.inl hn
  rcases h with h0 | ⟨b, o, rfl, hc⟩
  · exact Or.inl h0
  · exact Or.inr ⟨b, o, rfl, fun i hi => hg.cell (hc i hi) (by have := hne _ rfl hn; simpa using this)⟩

theorem run_to (w : World) (p : Option Addr) (n cap h : Nat) (hh : h ≤ cap) :
    (Instr.slice 42 (.slice p n cap) none (some (.int .i64 (h : Int))) none).run Tryd.prog w = .ok (.slice p h cap) w := by
  have ht' : Tryd.prog.underlying 42 = some (.slice (Tryd.prog.elem 42)) := by simp [Program.elem, Tryd.underlying42]
  have he : Tryd.prog.elem 42 = 5 := by simp [Program.elem, Tryd.underlying42]
  rw [run_slice_h w 42 _ _ _ ht' .i64 _ (by omega) (by omega), he, size5]
  have h0 : (fun x : Addr => x.add 0) = id := by funext x; simp [Addr.add]
  simp [Result.andThen, sliced, h0]

theorem run_mid (w : World) (p : Option Addr) (n cap l h : Nat) (hl : l ≤ h) (hh : h ≤ cap) :
    (Instr.slice 42 (.slice p n cap) (some (.int .i64 (l : Int))) (some (.int .i64 (h : Int))) none).run Tryd.prog w = .ok (.slice (cutP p l cap) (h - l) (cap - l)) w := by
  have ht' : Tryd.prog.underlying 42 = some (.slice (Tryd.prog.elem 42)) := by simp [Program.elem, Tryd.underlying42]
  have he : Tryd.prog.elem 42 = 5 := by simp [Program.elem, Tryd.underlying42]
  rw [run_slice_lh w 42 _ _ _ ht' .i64 .i64 _ _ (by omega) (by omega) (by omega), he, size5]
  simp [Result.andThen, sliced, cutP]

theorem Piece.take {w : World} {p : Option Addr} {c : Nat} {xs : List Nat} (h : Piece w p c xs) (a : Nat) : Piece w p c (xs.take a) := by
  refine ⟨?_, h.2.1, fun x hx => h.2.2.1 x (List.mem_of_mem_take hx), Nat.le_trans (by simp; omega) h.2.2.2.1, h.2.2.2.2⟩
  rcases h.1 with h0 | ⟨g, o, hp, hc⟩
  · left; simp [h0]
  · exact Or.inr ⟨g, o, hp, fun i hi => by
      have hi' : i < a ∧ i < xs.length := by rw [List.length_take] at hi; omega
      rw [hc i hi'.2]
      simp [List.getD, hi'.1]⟩

theorem Piece.from {w : World} {p : Option Addr} {c : Nat} {xs : List Nat} (h : Piece w p c xs) (l : Nat) (_hl : l ≤ xs.length) : Piece w (cutP p l c) (c - l) (xs.drop l) := by
  refine ⟨bi_from h.1 l c h.2.2.2.1, fun e => ?_, fun x hx => h.2.2.1 x (List.mem_of_mem_drop hx), by have := h.2.2.2.1; simp; omega, by have := h.2.2.2.2; omega⟩
  cases p with
  | none => have := h.2.1 rfl; omega
  | some a => unfold cutP at e; split at e <;> simp at e

/-- an array is no row of bytes -/
theorem own_ne_arr {w : World} {B X : Nat} {v : Value} {n : Nat} {xs vs : List Value} {t : TypeId} (h : w.ownsRow B 5 1 v n xs) (hA : Arr w X t vs) (ht : t ≠ 5) : v.ownBlock ≠ some X := by
  intro e
  rcases h.2 with ⟨rfl, _⟩ | ⟨g, cap, cur, rfl, hb, hg, _⟩
  · simp [Value.ownBlock] at e
  · simp [Value.ownBlock] at e
    subst e
    unfold Arr at hA
    rw [hA] at hg
    simp at hg
    exact ht hg.2

theorem Arr.keptR {w w' : World} {g : Nat} {t : TypeId} {vs : List Value} {r : Option Nat} (h : Arr w g t vs) (hg : w.grownBy w' r) (hne : r ≠ some g) : Arr w' g t vs := (hg.block g h.lt (fun e => hne e.symm)).trans h

theorem made_u8 (n : Nat) : (madeCells #[Value.int .u8 0] n).toList = u8s (List.replicate n 0) := by
  rw [toList_madeCells_one]; simp [u8s]

/-- a slice of bytes that is read -/
theorem piece_of {H : Type} {enc : TypeId × Value → H} {w : World} {fuel : Nat} {cs : List Value} {x : DataW H × List MemPlace}
    (h : DataW.trod enc Tryd.prog w 0 (fun _ => true) true fuel 42 cs = some x) : ∃ (p : Option Addr) (c : Nat) (xs : List Nat), cs = [.slice p xs.length c] ∧ Piece w p c xs := by
  rcases open_ints Tryd.underlying42 Tryd.underlying5 (by kernel_rfl) h with ⟨hcs, _⟩ | ⟨x, l, c, zs, hcs, _, hl, hm, hz, _, hcell, hwz⟩
  · exact ⟨none, 0, [], hcs, Or.inl rfl, fun _ => rfl, (fun x hx => by cases hx), Nat.le_refl _, Nat.zero_le _⟩
  · have hz' : zs.length = c := by simpa using hz
    have hb : ∀ z ∈ zs, 0 ≤ z ∧ z < 256 := fun z hz => by
      have h := hwz z hz
      have m1 : IntKind.u8.min = 0 := rfl
      have m2 : IntKind.u8.max = 255 := rfl
      simp only [Lit.wf, m1, m2, Bool.and_eq_true, decide_eq_true_eq] at h
      omega
    have hlen : ((zs.take l).map Int.toNat).length = l := by simp; omega
    refine ⟨some x, c, (zs.take l).map Int.toNat, by rw [hlen]; exact hcs, ?_, fun h => (by cases h), ?_, by rw [hlen]; exact hl, hm⟩
    · by_cases h0 : l = 0
      · left; simp [h0]
      · right
        obtain ⟨b, off, spot⟩ := x
        have hc := hcell 0 (by omega)
        have hspot : spot = none := by simpa [Addr.add] using World.cell?_spot hc
        subst hspot
        refine ⟨b, off, rfl, fun i hi => ?_⟩
        have hi' : i < l := by rw [hlen] at hi; exact hi
        have hiz : i < zs.length := by omega
        have := hcell i hiz
        rw [Addr.add_mid] at this
        rw [this]
        have hb' := hb zs[i] (List.getElem_mem hiz)
        congr 2
        simp [List.getD, hi', hiz]
        omega
    · intro y hy
      obtain ⟨z, hz, rfl⟩ := List.mem_map.1 hy
      have := hb z (List.mem_of_mem_take hz)
      omega

/-- .. and how much it holds -/
theorem piece_sized {H : Type} {enc : TypeId × Value → H} {w : World} {fuel : Nat} {cs : List Value} {x : DataW H × List MemPlace}
    (h : DataW.trod enc Tryd.prog w 0 (fun _ => true) true fuel 42 cs = some x) : ∃ (p : Option Addr) (c : Nat) (xs : List Nat), cs = [.slice p xs.length c] ∧ Piece w p c xs ∧ (c = 0 ∨ ∃ el sp, x.1 = .slice el sp ∧ el.length + sp.length = c) := by
  obtain ⟨p, c, xs, hcs, hp⟩ := piece_of h
  refine ⟨p, c, xs, hcs, hp, ?_⟩
  rcases open_ints Tryd.underlying42 Tryd.underlying5 (by kernel_rfl) h with ⟨hcs', _⟩ | ⟨y, l, c', zs, hcs', _, hl, _, hz, hx, _, _⟩
  · left
    rw [hcs] at hcs'
    simp at hcs'
    exact hcs'.2.2
  · right
    rw [hcs] at hcs'
    simp at hcs'
    have hz' : zs.length = c' := by simpa using hz
    refine ⟨_, _, by rw [hx], ?_⟩
    simp [lits, hz', hcs'.2.2]
    omega

/-- a slice of slices of bytes that is read -/
def Pieces (w : World) (sp : Option Addr) (k : Nat) (P : Nat → Option Addr) (C : Nat → Nat) (B : Nat → List Nat) : Prop :=
  (k = 0 ∨ ∃ q o, sp = some ⟨q, o, none⟩ ∧ ∀ i, i < k → w.cell? ⟨q, o + i, none⟩ = some (.slice (P i) (B i).length (C i))) ∧ (∀ i, i < k → Piece w (P i) (C i) (B i)) ∧ k ≤ maxLen

theorem pieces_of {H : Type} {enc : TypeId × Value → H} {w : World} {fuel : Nat} {cs : List Value} {x : DataW H × List MemPlace}
    (h : DataW.trod enc Tryd.prog w 0 (fun _ => true) true fuel 39 cs = some x) : ∃ (sp : Option Addr) (k cc : Nat) (P : Nat → Option Addr) (C : Nat → Nat) (B : Nat → List Nat), cs = [.slice sp k cc] ∧ Pieces w sp k P C B := by
  rcases Go.Deep.open_slice1 Tryd.underlying39 (by kernel_rfl) h with ⟨hcs, _⟩ | ⟨a, len, cap, m, n, V, D, Pl, hcs, _, hl, hm, hmm, _, hx⟩
  · exact ⟨none, 0, 0, fun _ => none, fun _ => 0, fun _ => [], hcs, Or.inl rfl, fun i hi => absurd hi (Nat.not_lt_zero _), Nat.zero_le _⟩
  · have hm' : m = cap := by simpa using hmm
    obtain ⟨f, hf⟩ := Go.Deep.choose_lt (α := Option Addr × Nat × List Nat) (n := len) (p := fun i q => V i = .slice q.1 q.2.2.length q.2.1 ∧ Piece w q.1 q.2.1 q.2.2) (fun i hi => by
      obtain ⟨p, c, xs, h1, h2⟩ := piece_of (hx i (by omega)).2
      exact ⟨(p, c, xs), by simpa using h1, h2⟩)
    refine ⟨some a, len, cap, fun i => (f i).1, fun i => (f i).2.1, fun i => (f i).2.2, hcs, ?_, fun i hi => (hf i hi).2, by omega⟩
    by_cases h0 : len = 0
    · exact Or.inl h0
    · right
      obtain ⟨b, off, spot⟩ := a
      have hc := (hx 0 (by omega)).1
      have hspot : spot = none := by simpa [Addr.add] using World.cell?_spot hc
      subst hspot
      refine ⟨b, off, rfl, fun i hi => ?_⟩
      have := (hx i (by omega)).1
      rw [Addr.add_mid] at this
      rw [this, (hf i hi).1]

theorem wf_u64 {a : Int} (h : (Lit.int .u64 a).wf = true) : ∃ n : Nat, a = n ∧ n < 18446744073709551616 := by
  have := bounds_u64 h
  exact ⟨a.toNat, by omega, by omega⟩

set_option maxHeartbeats 1000000 in
/-- '[]byte{}' -/
theorem wp_build_empty {w : World} {o : Oper} {a : Act} {K : Act → World → Prop} {Q : Exit → Act → World → Prop} {dd : Nat} (hdd : o.dst = some dd) (ho : o.op = .buildSlice 42 0 #[])
    (h : ∀ w' v', w'.ownsRow w.heap.size 5 1 v' 0 (u8s []) → Below w.heap.size w w' → K (a.put (some dd) v') w') : o.wp Tryd.prog a w K Q := by
  have h' := h (w.alloc (.cells #[] 5)) (.slice (some ⟨w.heap.size, 0, none⟩) 0 0) (World.ownsRow_made w #[] 0 (Nat.le_refl _) (Nat.zero_le _) rfl) ((Below.refl _ _).alloc (Nat.le_refl _) _)
  clear h
  unfold Oper.wp execOp
  rw [ho]
  go_simp
  exact h'

end Go.Proofs.YtbmjlofehbbkbaaDoor

/- Laws: a region that draws its order under a condition that is held until its late operations, which come behind all that hang on the condition. -/
namespace Go.Proofs.YtbmjlofehbbkbaaDoor
open Go.RowKit

section
variable {P : Program} {ops : Array Oper} {Q : Exit → Act → World → Prop} {md : Region.Mode} {S : World → Prop} {late : List Nat}

/-- whatever order is picked from here on, and S holds behind every operation but the late ones -/
def wpAnyT (P : Program) (md : Region.Mode) (ops : Array Oper) (Q : Exit → Act → World → Prop) (S : World → Prop) (late : List Nat) : Nat → Array Bool → Act → World → Prop
  | 0, listed, a, w => Region.ready md ops listed = [] ∧ Q .normal a w
  | fuel + 1, listed, a, w =>
    (Region.ready md ops listed = [] → Q .normal a w) ∧
    ∀ i ∈ Region.ready md ops listed, wpOp P ops Q i (fun a' w' => (i ∉ late → S w') ∧ wpAnyT P md ops Q S late fuel (listed.setIfInBounds i true) a' w') a w

theorem wpAny_of_T : ∀ (fuel : Nat) (listed : Array Bool) (a : Act) (w : World), wpAnyT P md ops Q S late fuel listed a w → wpAny P md ops Q fuel listed a w
  | 0, _, _, _, h => h
  | fuel + 1, _, _, _, h => ⟨h.1, fun i hi => wpOp_mono (fun a' w' h' => wpAny_of_T fuel _ a' w' h'.2) (h.2 i hi)⟩

/-- each late operation waits for i -/
def waits (md : Region.Mode) (ops : Array Oper) (late : List Nat) (i : Nat) : Bool := late.all fun t => t != i && match ops[t]? with | some o => o.after.any (fun e => Region.binds md e && e.on == i) | none => true

theorem waits_at {i t : Nat} {listed : Array Bool} (h : waits md ops late i = true) (ht : t ∈ late) (hi : listed.getD i true = false) : t ∉ Region.ready md ops listed := by
  intro hr
  have h1 := List.all_eq_true.1 h t ht
  obtain ⟨_, o, ho, hall⟩ := mem_ready.1 hr
  rw [ho] at h1
  simp only [Bool.and_eq_true, Array.any_eq_true] at h1
  obtain ⟨_, j, hj, hb⟩ := h1
  simp only [beq_iff_eq] at hb
  have h2 := hall _ (Array.getElem_mem hj) hb.1
  rw [hb.2] at h2
  rcases Nat.lt_or_ge i listed.size with h' | h'
  · simp [h'] at hi h2; rw [hi] at h2; cases h2
  · simp [Array.getElem?_eq_none h'] at h2

theorem wpAnyT_first {i : Nat} {oi : Oper} {v : Value} (hi : ops[i]? = some oi) (hsel : ∀ (j : Nat) (o : Oper) cs b, ops[j]? = some o → o.op ≠ .select cs b)
    (hQ : ∀ c a w, Q (.panic c) (a.put oi.dst v) w → Q (.panic c) a w) (hwt : waits md ops late i = true) :
    ∀ (fuel : Nat) (listed : Array Bool) (a : Act) (w : World),
      (∀ j oj, ops[j]? = some oj → j ≠ i → listed.getD j true = false → (∀ e ∈ oj.after, Region.binds md e = true → e.on ≠ i) → oi.apart ops oj = true) →
      i ∈ Region.ready md ops listed → YieldsIf P ops S oi v a → S w →
      wpAnyT P md ops Q S late fuel (listed.setIfInBounds i true) (a.put oi.dst v) w → wpAnyT P md ops Q S late (fuel + 1) listed a w := by
  intro fuel
  induction fuel with
  | zero =>
    intro listed a w _ hr hy hS H
    refine ⟨fun h => (by rw [h] at hr; cases hr), fun j hj => ?_⟩
    by_cases hji : j = i
    · subst hji; exact hy.wpOp hi hS ⟨fun _ => hS, H⟩
    · have := ready_mono hj hji
      rw [H.1] at this
      cases this
  | succ fuel ih =>
    intro listed a w hfree hr hy hS H
    refine ⟨fun h => (by rw [h] at hr; cases hr), fun j hj => ?_⟩
    by_cases hji : j = i
    · subst hji; exact hy.wpOp hi hS ⟨fun _ => hS, H⟩
    · have hjl : j ∉ late := fun hm => waits_at hwt hm (mem_ready.1 hr).1 hj
      have h1 := H.2 j (ready_mono hj hji)
      obtain ⟨hjun, oj, hoj, hall⟩ := mem_ready.1 hj
      have hnot : ∀ e ∈ oj.after, Region.binds md e = true → e.on ≠ i := fun e he hb heq => by
        have h1 := hall e he hb
        have h0 := (mem_ready.1 hr).1
        rw [heq] at h1
        rcases Nat.lt_or_ge i listed.size with h' | h'
        · simp [h'] at h0 h1; rw [h0] at h1; cases h1
        · simp [Array.getElem?_eq_none h'] at h1
      have h2 := wpOp_putIf hoj (hfree j oj hoj hji hjun hnot) (fun cs b => hsel i oi cs b hi) (fun cs b => hsel j oj cs b hoj) hQ hy h1
      have hfree' : ∀ k ok, ops[k]? = some ok → k ≠ i → (listed.setIfInBounds j true).getD k true = false →
          (∀ e ∈ ok.after, Region.binds md e = true → e.on ≠ i) → oi.apart ops ok = true := fun k ok hk hki hun hno => by
        refine hfree k ok hk hki ?_ hno
        by_cases hjk : j = k
        · subst hjk; exact hjun
        · rw [getD_set_ne true hjk] at hun; exact hun
      refine wpOp_mono (fun a' w' h3 => ⟨fun _ => h3.2.1 hjl, ih (listed.setIfInBounds j true) a' w' hfree' (ready_mono hr (Ne.symm hji)) h3.1 (h3.2.1 hjl) ?_⟩) h2
      rw [Array.setIfInBounds_comm _ _ hji]
      exact h3.2.2

/-- an operation is taken first: its slot told as a number -/
theorem take_dstT {i : Nat} {oi : Oper} {v : Value} {fuel : Nat} {listed : Array Bool} {a : Act} {w : World} {d : Nat} (hi : ops[i]? = some oi) (hd : oi.dst = some d)
    (hs : Region.noSelect ops = true) (hf : Region.free md ops listed i = true) (hr : (Region.ready md ops listed).contains i = true) (hwt : waits md ops late i = true)
    (hQ : ∀ c a w, Q (.panic c) (a.put oi.dst v) w → Q (.panic c) a w) (hw : Region.wanted oi (yielded ops a.tmps) = true) (hS : S w) (hy : ∀ w, S w → (execOp a.eval oi).run P w = .ok (.value v) w)
    (h : wpAnyT P md ops Q S late fuel (listed.setIfInBounds i true) (a.put (some d) v) w) : wpAnyT P md ops Q S late (fuel + 1) listed a w :=
  wpAnyT_first hi (Region.noSelect_spec hs) hQ hwt fuel listed a w (Region.free_spec hi hf) (by simpa using hr) (.inl ⟨hw, hy⟩) hS (by rw [hd]; exact h)

theorem skip_dstT {i : Nat} {oi : Oper} {fuel : Nat} {listed : Array Bool} {a : Act} {w : World} {d : Nat} (hi : ops[i]? = some oi) (hd : oi.dst = some d)
    (hs : Region.noSelect ops = true) (hf : Region.free md ops listed i = true) (hr : (Region.ready md ops listed).contains i = true) (hwt : waits md ops late i = true)
    (hQ : ∀ c a w, Q (.panic c) (a.put oi.dst undef) w → Q (.panic c) a w) (hw : Region.wanted oi (yielded ops a.tmps) = false) (hS : S w)
    (h : wpAnyT P md ops Q S late fuel (listed.setIfInBounds i true) (a.put (some d) undef) w) : wpAnyT P md ops Q S late (fuel + 1) listed a w :=
  wpAnyT_first hi (Region.noSelect_spec hs) hQ hwt fuel listed a w (Region.free_spec hi hf) (by simpa using hr) (.inr ⟨hw, rfl⟩) hS (by rw [hd]; exact h)

def AllReadyT (P : Program) (md : Region.Mode) (ops : Array Oper) (Q : Exit → Act → World → Prop) (S : World → Prop) (late : List Nat) (fuel : Nat) (listed : Array Bool) (a : Act) (w : World) (rs : List Nat) : Prop :=
  ∀ i ∈ rs, wpOp P ops Q i (fun a' w' => (i ∉ late → S w') ∧ wpAnyT P md ops Q S late fuel (listed.setIfInBounds i true) a' w') a w

theorem AllReadyT.nil {fuel : Nat} {listed : Array Bool} {a : Act} {w : World} : AllReadyT P md ops Q S late fuel listed a w [] := fun _ h => by cases h

/-- .. an operation that is not late -/
theorem AllReadyT.cons {fuel : Nat} {listed : Array Bool} {a : Act} {w : World} {i : Nat} {o : Oper} {rs : List Nat} (ho : ops[i]? = some o)
    (h : ∀ K' : Act → World → Prop, Shut (∀ a w, S w → (S w → wpAnyT P md ops Q S late fuel (listed.setIfInBounds i true) a w) → K' a w) → if Region.wanted o (yielded ops a.tmps) = true then Oper.wp P o a w K' Q else K' (a.put o.dst undef) w)
    (hs : AllReadyT P md ops Q S late fuel listed a w rs) : AllReadyT P md ops Q S late fuel listed a w (i :: rs) := fun j hj => by
  rcases List.mem_cons.1 hj with rfl | hj
  · exact wpOp_step ho (fun K' hK => h K' (fun a w hS hW => hK a w ⟨fun _ => hS, hW hS⟩))
  · exact hs j hj

/-- .. a late one -/
theorem AllReadyT.last {fuel : Nat} {listed : Array Bool} {a : Act} {w : World} {i : Nat} {o : Oper} {rs : List Nat} (ho : ops[i]? = some o) (hl : i ∈ late)
    (h : ∀ K' : Act → World → Prop, Shut (∀ a w, wpAnyT P md ops Q S late fuel (listed.setIfInBounds i true) a w → K' a w) → if Region.wanted o (yielded ops a.tmps) = true then Oper.wp P o a w K' Q else K' (a.put o.dst undef) w)
    (hs : AllReadyT P md ops Q S late fuel listed a w rs) : AllReadyT P md ops Q S late fuel listed a w (i :: rs) := fun j hj => by
  rcases List.mem_cons.1 hj with rfl | hj
  · exact wpOp_step ho (fun K' hK => h K' (fun a w hW => hK a w ⟨fun hn => (hn hl).elim, hW⟩))
  · exact hs j hj

theorem wpAnyT_ready {rs : List Nat} {fuel : Nat} {listed : Array Bool} {a : Act} {w : World} (hr : Region.ready md ops listed = rs) (hne : rs ≠ [])
    (h : AllReadyT P md ops Q S late fuel listed a w rs) : wpAnyT P md ops Q S late (fuel + 1) listed a w := ⟨fun h0 => absurd (hr ▸ h0) hne, hr ▸ h⟩

theorem wpAnyT_done {listed : Array Bool} {a : Act} {w : World} (hr : Region.ready md ops listed = []) (h : Q .normal a w) :
    ∀ fuel, wpAnyT P md ops Q S late fuel listed a w
  | 0 => ⟨hr, h⟩
  | _ + 1 => ⟨fun _ => h, by rw [hr]; simp⟩

theorem wp_region_late {id : Nat} {a : Act} {w : World} (late : List Nat) (hm : P.follows .mixedOrders = true) (hS : S w.drew)
    (h : S w.drew → wpAnyT P .any ops Q S late ops.size (Array.replicate ops.size false) a w.drew) : (Code.region id ops true).wp P Q a w :=
  wp_region_any hm (wpAny_of_T _ _ _ _ (h hS))

end

end Go.Proofs.YtbmjlofehbbkbaaDoor

/- Laws: the body of a range over a function, walked region by region by the plain laws. -/
namespace Go.Proofs.YtbmjlofehbbkbaaDoor
open Go.RowKit

/-- no operation of a region is a defer statement -/
def calm (ops : Array Oper) : Bool := ops.all fun o => match o.op with | .defer _ => false | _ => true

theorem calm_at {ops : Array Oper} (h : calm ops = true) {i : Nat} {o : Oper} (hi : ops[i]? = some o) : ∀ c, o.op ≠ .defer c := by
  intro c hc
  have h2 := Array.all_eq_true.1 h i (Array.getElem?_eq_some_iff.1 hi).1
  rw [(Array.getElem?_eq_some_iff.1 hi).2, hc] at h2
  cases h2

variable {n l : Nat} {P : Program}

theorem rows_in {row : String} {args : Array Value} {w : World} {R : Value → World → Prop} (h : Rows P row args w R) : RowsIn (Fence.wide.inRound l) n P row args w R := fun c cs _ =>
  let ⟨v, w', r, s⟩ := h c cs
  ⟨v, w', r, stepsIn_wide.2 s⟩

/-- an operation that is no defer statement, in a round as everywhere -/
theorem oper_in {o : Oper} {a : Act} {w : World} {K : Act → World → Prop} {Q : Exit → Act → World → Prop} (hnd : ∀ c, o.op ≠ .defer c) (h : o.wp P a w K Q) : o.wpIn (Fence.wide.inRound l) n P a w K Q := by
  unfold Oper.wpIn
  refine ⟨fun _ _ => trivial, ?_⟩
  rw [Fence.inRound_round, Oper.semAt_some l _ _ hnd]
  unfold Oper.wp at h
  generalize (execOp a.eval o).run P w = r at *
  cases r with
  | ok x w' =>
    cases x with
    | enter f args => exact ⟨(by intro e; cases e), callsIn_wide.2 h⟩
    | row row args => exact ⟨(by intro e; cases e), rows_in h⟩
    | round => exact h.elim
    | _ => exact h
  | halt x w' => cases x <;> exact h

theorem opsIn_of {ops : Array Oper} {Q : Exit → Act → World → Prop} (hc : calm ops = true) (hl : ¬ LetsOut Q) : ∀ (js : List Nat) (a : Act) (w : World), wpOps P ops Q js a w → wpOpsIn (Fence.wide.inRound l) n P ops Q js a w
  | [], _, _, h => h
  | i :: rest, a, w, h => by
    simp only [wpOps] at h
    simp only [wpOpsIn]
    cases ho : ops[i]? with
    | none =>
      simp only [ho] at h
      exact opsIn_of hc hl rest a w h
    | some o =>
      simp only [ho] at h
      split at h
      · rename_i hw
        simp only [hw, if_true]
        rcases h with h | h
        · exact Oper.wpIn_mono (fun a w => opsIn_of hc hl rest a w) (oper_in (calm_at hc ho) h)
        · exact (hl h.2).elim
      · rename_i hw
        simp only [hw]
        exact ⟨fun _ _ => trivial, opsIn_of hc hl rest _ w h⟩

/-- a region in the text's order -/
theorem region_seq {id : Nat} {ops : Array Oper} {Q : Exit → Act → World → Prop} {a : Act} {w : World} (hc : calm ops = true) (hl : ¬ LetsOut Q)
    (h : wpList P ops Q ops.toList a w) : (Code.region id ops false).wpIn (Fence.wide.inRound l) n P Q a w := by
  refine wpIn_region (opsIn_of hc hl _ _ _ ?_)
  rw [← wpOps_eq_wpList ops.toList 0 (fun j => by simp)] at h
  simpa [List.range_eq_range'] using h

/-- a region that draws its order -/
theorem region_any {id : Nat} {ops : Array Oper} {Q : Exit → Act → World → Prop} {a : Act} {w : World} (hm : P.follows .mixedOrders = true) (hc : calm ops = true) (hl : ¬ LetsOut Q)
    (h : wpAny P .any ops Q ops.size (Array.replicate ops.size false) a w.drew) : (Code.region id ops true).wpIn (Fence.wide.inRound l) n P Q a w := by
  refine wpIn_region_draw fun t => opsIn_of hc hl _ _ _ ?_
  simp only [Region.schedule, hm, Bool.true_or, if_true]
  exact wpAny_sound ops.size t _ a _ h

/-- .. under a condition that is held throughout -/
theorem region_held {id : Nat} {ops : Array Oper} {Q : Exit → Act → World → Prop} {S : World → Prop} {a : Act} {w : World} (hm : P.follows .mixedOrders = true) (hc : calm ops = true) (hl : ¬ LetsOut Q)
    (h : wpAnyH P .any ops Q S ops.size (Array.replicate ops.size false) a { w with drawn := w.drawn + 1 }) : (Code.region id ops true).wpIn (Fence.wide.inRound l) n P Q a w :=
  region_any hm hc hl (wpAny_of_held _ _ _ _ h)

theorem region_held_drew {id : Nat} {ops : Array Oper} {Q : Exit → Act → World → Prop} {S : World → Prop} {a : Act} {w : World} (hm : P.follows .mixedOrders = true) (hc : calm ops = true) (hl : ¬ LetsOut Q) (hS : S w.drew)
    (h : S w.drew → wpAnyH P .any ops Q S ops.size (Array.replicate ops.size false) a w.drew) : (Code.region id ops true).wpIn (Fence.wide.inRound l) n P Q a w :=
  region_held hm hc hl (h hS)

theorem lets_then {K : Act → World → Prop} {Q : Exit → Act → World → Prop} (h : ¬ LetsOut Q) : ¬ LetsOut (Exit.then K Q) := h
theorem lets_own {α : Type} {B : Nat} {Kp : World → World → Prop} {I : List α → World → Prop} {Ix : Code → List α → World → Prop} {xs : List α} {W : World} : ¬ LetsOut (ownPostG B Kp I Ix xs W) := fun ⟨_, _, h⟩ => h

theorem below_keeps {B : Nat} {W W' : World} (h : Below W.heap.size W W') : KeepsFrom B W W' := ⟨h.size, fun k _ _ hk _ => (h.block k (Array.getElem?_eq_some_iff.1 hk).1).trans hk⟩


end Go.Proofs.YtbmjlofehbbkbaaDoor

/- Laws: late regions within a round of a range over a function. -/
namespace Go.Proofs.YtbmjlofehbbkbaaDoor
open Go.RowKit

section
variable {P : Program} {ops : Array Oper} {Q : Exit → Act → World → Prop} {md : Region.Mode} {S : World → Prop} {late : List Nat}

theorem region_late {n l : Nat} {id : Nat} {a : Act} {w : World} (late : List Nat) (hm : P.follows .mixedOrders = true) (hc : calm ops = true) (hl : ¬ LetsOut Q) (hS : S w.drew)
    (h : S w.drew → wpAnyT P .any ops Q S late ops.size (Array.replicate ops.size false) a w.drew) : (Code.region id ops true).wpIn (Fence.wide.inRound l) n P Q a w :=
  region_any hm hc hl (wpAny_of_T _ _ _ _ (h hS))
end

/-- a region in the text's order, in a round -/
theorem region_list {n l : Nat} {P : Program} {id : Nat} {js : List Oper} {Q : Exit → Act → World → Prop} {a : Act} {w : World} (hc : calm js.toArray = true) (hl : ¬ LetsOut Q)
    (h : wpList P js.toArray Q js a w) : (Code.region id js.toArray false).wpIn (Fence.wide.inRound l) n P Q a w := region_seq hc hl h

end Go.Proofs.YtbmjlofehbbkbaaDoor
