/-
  Small laws for the walks: an operation of a drawn region that is taken first; how an array lies in memory; arrays of bytes held against each other.
-/
import Derived.Test.YtijjifdgmffenaaDoorChecked
import Derived.WalkKit
import Derived.WalkSpells
import Derived.WalkLawsBesides
import Derived.RegionTactic
import Derived.BigRegion
import Derived.Deep.LoopGhost
import Derived.OpenShut
import Derived.Deep.RegionHeld3
import Derived.Deep.RegionWith
import Derived.Deep.DeepCutAuto
import Derived.Deep.CutBlock
import Derived.Deep.CutRange
import Derived.Deep.DrawnRows
import Derived.Deep.MidRow
import Derived.Deep.WholeRow
import Derived.Deep.QuietTactic
import Derived.BigQuiet
import Derived.DeepKeys
namespace Go.Proofs.YtijjifdgmffenaaDoor
open Go.RowKit

theorem hide {p : Prop} (h : p) : Hid p := h

/-- an operation of a region that draws its order is taken first: its slot told as a number -/
theorem take_dst {P : Program} {md : Region.Mode} {ops : Array Oper} {Q : Exit → Act → World → Prop} {i : Nat} {oi : Oper} {v : Value} {fuel : Nat} {listed : Array Bool} {a : Act} {w : World} {d : Nat} (hi : ops[i]? = some oi) (hd : oi.dst = some d)
    (hs : Region.noSelect ops = true) (hf : Region.free md ops listed i = true) (hr : (Region.ready md ops listed).contains i = true)
    (hQ : ∀ c a w, Q (.panic c) (a.put oi.dst v) w → Q (.panic c) a w) (hw : Region.wanted oi (yielded ops a.tmps) = true) (hy : ∀ w, (execOp a.eval oi).run P w = .ok (.value v) w)
    (h : wpAny P md ops Q fuel (listed.setIfInBounds i true) (a.put (some d) v) w) : wpAny P md ops Q (fuel + 1) listed a w :=
  wpAny_take hi hs hf hr hQ (Or.inl ⟨hw, hy⟩) (by rw [hd]; exact h)

/-- .. one that its guard does not want -/
theorem skip_dst {P : Program} {md : Region.Mode} {ops : Array Oper} {Q : Exit → Act → World → Prop} {i : Nat} {oi : Oper} {fuel : Nat} {listed : Array Bool} {a : Act} {w : World} {d : Nat} (hi : ops[i]? = some oi) (hd : oi.dst = some d)
    (hs : Region.noSelect ops = true) (hf : Region.free md ops listed i = true) (hr : (Region.ready md ops listed).contains i = true)
    (hQ : ∀ c a w, Q (.panic c) (a.put oi.dst undef) w → Q (.panic c) a w) (hw : Region.wanted oi (yielded ops a.tmps) = false)
    (h : wpAny P md ops Q fuel (listed.setIfInBounds i true) (a.put (some d) undef) w) : wpAny P md ops Q (fuel + 1) listed a w :=
  wpAny_take hi hs hf hr hQ (Or.inr ⟨hw, rfl⟩) (by rw [hd]; exact h)

/-- the same under a condition on the world that is held throughout -/
theorem take_dstH {P : Program} {md : Region.Mode} {ops : Array Oper} {Q : Exit → Act → World → Prop} {S : World → Prop} {i : Nat} {oi : Oper} {v : Value} {fuel : Nat} {listed : Array Bool} {a : Act} {w : World} {d : Nat} (hi : ops[i]? = some oi) (hd : oi.dst = some d)
    (hs : Region.noSelect ops = true) (hf : Region.free md ops listed i = true) (hr : (Region.ready md ops listed).contains i = true)
    (hQ : ∀ c a w, Q (.panic c) (a.put oi.dst v) w → Q (.panic c) a w) (hw : Region.wanted oi (yielded ops a.tmps) = true) (hS : S w) (hy : ∀ w, S w → (execOp a.eval oi).run P w = .ok (.value v) w)
    (h : wpAnyH P md ops Q S fuel (listed.setIfInBounds i true) (a.put (some d) v) w) : wpAnyH P md ops Q S (fuel + 1) listed a w :=
  wpAnyH_take hi hs hf hr hQ (Or.inl ⟨hw, hy⟩) hS (by rw [hd]; exact h)

theorem skip_dstH {P : Program} {md : Region.Mode} {ops : Array Oper} {Q : Exit → Act → World → Prop} {S : World → Prop} {i : Nat} {oi : Oper} {fuel : Nat} {listed : Array Bool} {a : Act} {w : World} {d : Nat} (hi : ops[i]? = some oi) (hd : oi.dst = some d)
    (hs : Region.noSelect ops = true) (hf : Region.free md ops listed i = true) (hr : (Region.ready md ops listed).contains i = true)
    (hQ : ∀ c a w, Q (.panic c) (a.put oi.dst undef) w → Q (.panic c) a w) (hw : Region.wanted oi (yielded ops a.tmps) = false) (hS : S w)
    (h : wpAnyH P md ops Q S fuel (listed.setIfInBounds i true) (a.put (some d) undef) w) : wpAnyH P md ops Q S (fuel + 1) listed a w :=
  wpAnyH_take hi hs hf hr hQ (Or.inr ⟨hw, rfl⟩) hS (by rw [hd]; exact h)


/-- a whole array read, as one operation -/
theorem wp_load_dst {P : Program} {o : Oper} {a : Act} {w : World} {K : Act → World → Prop} {Q : Exit → Act → World → Prop} {d : Nat} (hdd : o.dst = some d) (ty : TypeId) (x : Operand) (ho : o.op = .load ty x)
    (g : Nat) (hx : a.eval x = .pointer (some ⟨g, 0, none⟩)) (t : TypeId) (cs : Array Value) (fr : Nat × Nat) (e : TypeDesc) (hg : w.heap[g]? = some (.cells cs t fr))
    (hu : P.underlying ty = some e) (hd : (match e with | .struct _ | .array _ _ => true | _ => false) = true) (hi : (P.info? ty).map (·.size) = some cs.size)
    (h : K (a.put (some d) (.agg cs)) w) : o.wp P a w K Q := wp_load_row ty x ho g hx t cs fr e hg hu hd hi (by rw [hdd]; exact h)

/-- a whole array stored, as one operation -/
theorem wp_store_dst {P : Program} {o : Oper} {a : Act} {w : World} {K : Act → World → Prop} {Q : Exit → Act → World → Prop} (hdd : o.dst = none) (ty : TypeId) (x y : Operand) (ho : o.op = .store ty x y)
    (g : Nat) (cells : Array Value) (hx : a.eval x = .pointer (some ⟨g, 0, none⟩)) (hy : a.eval y = .agg cells)
    (t : TypeId) (old : Array Value) (hg : w.heap[g]? = some (.cells old t (0, 0))) (hi : (P.info? ty).map (·.size) = some cells.size)
    (hold : old.size = cells.size) (h1 : cells.all (·.oneCell') = true)
    (h : K a (w.setRow g cells)) : o.wp P a w K Q := wp_store_row ty x y ho g cells hx hy t old hg hi hold h1 (by rw [hdd]; exact h)

/-- an array, or a struct, is a block of its own -/
def Arr (w : World) (g : Nat) (t : TypeId) (vs : List Value) : Prop := w.heap[g]? = some (.cells vs.toArray t (0, 0))

theorem Arr.lt {w : World} {g : Nat} {t : TypeId} {vs : List Value} (h : Arr w g t vs) : g < w.heap.size := by
  by_cases hlt : g < w.heap.size
  · exact hlt
  · unfold Arr at h; rw [Array.getElem?_eq_none (by omega)] at h; cases h
theorem Arr.cell {w : World} {g : Nat} {t : TypeId} {vs : List Value} (h : Arr w g t vs) (j : Nat) : w.cell? ⟨g, j, none⟩ = vs[j]? := by
  rw [cell_of_row w g j _ t _ h]; simp
theorem Arr.frozen {w : World} {g : Nat} {t : TypeId} {vs : List Value} (h : Arr w g t vs) (j : Nat) : w.frozen? ⟨g, j, none⟩ = false := frozen_of_row w g j _ t h
theorem Arr.set {w : World} {g : Nat} {t : TypeId} {vs : List Value} (h : Arr w g t vs) (i : Nat) (v : Value) : Arr (w.setCell ⟨g, i, none⟩ v) g t (vs.set i v) := by
  have := heap_setCell_same w g i _ t v h
  unfold Arr
  rw [this]
  simp
theorem Arr.other {w : World} {g : Nat} {t : TypeId} {vs : List Value} (h : Arr w g t vs) (a : Addr) (v : Value) (hne : g ≠ a.block) : Arr (w.setCell a v) g t vs :=
  (heap_setCell_other w a g v hne).trans h
theorem Arr.row {w : World} {g : Nat} {t : TypeId} {vs : List Value} (h : Arr w g t vs) (us : Array Value) : Arr (w.setRow g us) g t us.toList := by
  unfold Arr; rw [setRow_heap w g _ us t _ h]
theorem Arr.rowOther {w : World} {g : Nat} {t : TypeId} {vs : List Value} (h : Arr w g t vs) (k : Nat) (us : Array Value) (hne : g ≠ k) : Arr (w.setRow k us) g t vs := by
  unfold Arr; rw [setRow_other w k g us hne]; exact h
theorem Arr.alloc {w : World} {g : Nat} {t : TypeId} {vs : List Value} (h : Arr w g t vs) (o : Obj) : Arr (w.alloc o) g t vs :=
  (show (w.alloc o).heap[g]? = w.heap[g]? from by show (w.heap.push o)[g]? = _; rw [Array.getElem?_push, if_neg (Nat.ne_of_lt h.lt)]).trans h
theorem Arr.new (w : World) (t : TypeId) (vs : List Value) : Arr (w.alloc (.cells vs.toArray t)) w.heap.size t vs := heap_alloc_new w _
theorem Arr.newAt (w : World) (t : TypeId) (vs : List Value) (n : Nat) (h : w.heap.size = n) : Arr (w.alloc (.cells vs.toArray t)) n t vs := by rw [← h]; exact heap_alloc_new w _
theorem Arr.below {B : Nat} {w w' : World} {g : Nat} {t : TypeId} {vs : List Value} (h : Arr w g t vs) (hB : g < B) (hb : Below B w w') : Arr w' g t vs := (hb.block g hB).trans h
theorem Arr.kept {w w' : World} {g : Nat} {t : TypeId} {vs : List Value} (h : Arr w g t vs) (hb : Below w.heap.size w w') : Arr w' g t vs := h.below h.lt hb
theorem Arr.range {w : World} {g : Nat} {t : TypeId} {vs : List Value} (h : Arr w g t vs) : w.rangeAt g 0 vs := fun j v hv => by rw [Nat.zero_add, h.cell]; exact hv

theorem below_setRow {B : Nat} {w w' : World} (h : Below B w w') {g : Nat} (hg : B ≤ g) (hlt : g < w'.heap.size) (us : Array Value) : Below B w (w'.setRow g us) := by
  have hg' : w'.grownBy (w'.setRow g us) (some g) := ⟨rfl, rfl, rfl, by simp, fun k _ hk => setRow_other w' g k us (fun e => hk (by rw [e]))⟩
  exact h.grown hg' (by omega) (by intro k hk; cases hk; exact hg)

/-- so many of the table's words, noughts behind them -/
def part (T : List Nat) (n i : Nat) : List Nat := T.take i ++ List.replicate (n - i) 0

theorem part_length (T : List Nat) (n i : Nat) (h : T.length = n) (hi : i ≤ n) : (part T n i).length = n := by simp [part, h]; omega
theorem part_set (T : List Nat) (n i : Nat) (h : T.length = n) (hi : i < n) : (part T n i).set i (T.getD i 0) = part T n (i + 1) := by
  apply List.ext_getElem
  · simp [part, h]; omega
  · intro k h1 h2
    simp only [part, List.getElem_set, List.getElem_append, List.length_take, h]
    by_cases e : i = k
    · subst e
      simp [h, hi, List.getD, show i < min (i + 1) n by omega]
    · by_cases hk : k < i
      · simp [e, show k < min i n by omega, show k < min (i + 1) n by omega]
      · simp [e, show ¬ k < min i n by omega, show ¬ k < min (i + 1) n by omega]
theorem part_full (T : List Nat) (n : Nat) (h : T.length = n) : part T n n = T := by simp [part, ← h]

def u8s (l : List Nat) : List Value := l.map fun d => Value.int .u8 ((d : Nat) : Int)
theorem u8s_length (l : List Nat) : (u8s l).length = l.length := by simp [u8s]
theorem u8s_at {l : List Nat} {i : Nat} (h : i < l.length) : (u8s l)[i]? = some (.int .u8 ((l.getD i 0 : Nat) : Int)) := by simp [u8s, List.getD, h]
theorem u8s_set (l : List Nat) (i x : Nat) : (u8s l).set i (.int .u8 ((x : Nat) : Int)) = u8s (l.set i x) := by simp [u8s, List.map_set]

theorem one_u8s (l : List Nat) : (u8s l).toArray.all (·.oneCell') = true := by
  apply all_oneCell_toArray
  intro v hv
  obtain ⟨x, _, rfl⟩ := List.mem_map.1 hv
  rfl

theorem part_get' (T : List Nat) (n i j : Nat) (h : T.length = n) (hj : j < i) (hi : i ≤ n) : (part T n i).getD j 0 = T.getD j 0 := by
  simp [part, List.getD, List.getElem?_append, h, show j < min i n by omega, show j < n by omega]

/-- so many of one list, the other one's behind them -/
def over (T b : List Nat) (i : Nat) : List Nat := T.take i ++ b.drop i
theorem over_length (T b : List Nat) (n i : Nat) (h : T.length = n) (hb : b.length = n) (hi : i ≤ n) : (over T b i).length = n := by simp [over, h, hb]; omega
theorem over_zero (T b : List Nat) : over T b 0 = b := by simp [over]
theorem over_full (T b : List Nat) (n : Nat) (h : T.length = n) (hb : b.length = n) : over T b n = T := by simp [over, ← h]; omega
theorem over_at (T b : List Nat) (n i j : Nat) (h : T.length = n) (hb : b.length = n) (hj : j < n) : (over T b i).getD j 0 = if j < i then T.getD j 0 else b.getD j 0 := by
  simp only [over, List.getD, List.getElem?_append, List.length_take, h, List.getElem?_take, List.getElem?_drop]
  by_cases hji : j < i
  · rw [if_pos (by omega), if_pos hji, if_pos hji]
  · rw [if_neg (by omega), if_neg hji]
    congr 2
    by_cases hin : i ≤ n
    · omega
    · omega
theorem over_set (T b : List Nat) (n i : Nat) (h : T.length = n) (hb : b.length = n) (hi : i < n) : (over T b i).set i (T.getD i 0) = over T b (i + 1) := by
  apply List.ext_getElem
  · simp [over, h, hb]; omega
  · intro k h1 h2
    have hk : k < n := by simp [over, h, hb] at h2; omega
    have e1 := over_at T b n i k h hb hk
    have e2 := over_at T b n (i + 1) k h hb hk
    have g : ∀ (l : List Nat) (hl : k < l.length), l[k] = l.getD k 0 := fun l hl => by simp [List.getD, hl]
    rw [List.getElem_set]
    by_cases e : i = k
    · subst e
      rw [if_pos rfl, g _ h2, e2, if_pos (by omega)]
    · rw [if_neg e, g _ (by simpa using h1), g _ h2, e1, e2]
      by_cases hki : k < i
      · rw [if_pos hki, if_pos (by omega)]
      · rw [if_neg hki, if_neg (by omega)]

theorem ret_u8 {a b : Int} (h : a = b) : Ending.returned (.int .u8 a) = .returned (.int .u8 b) := by rw [h]

theorem mapM_some {α β : Type} (F : α → Option β) (G : α → β) : ∀ (l : List α), (∀ i ∈ l, F i = some (G i)) → l.mapM F = some (l.map G) := by
  intro l
  induction l with
  | nil => intro _; rfl
  | cons x l ih =>
    intro h
    rw [List.mapM_cons, h x (List.mem_cons_self ..), ih fun i hi => h i (List.mem_cons_of_mem _ hi)]
    rfl

theorem flat_range {α : Type} (l : List α) (d : α) : ((List.range l.length).map fun i => [l.getD i d]).flatten = l := by
  induction l with
  | nil => rfl
  | cons x l ih =>
    rw [List.length_cons, List.range_succ_eq_map, List.map_cons, List.map_map, List.flatten_cons]
    show [x] ++ _ = _
    rw [show ((fun i => [(x :: l).getD i d]) ∘ Nat.succ) = fun i => [l.getD i d] from by funext i; simp, ih]
    rfl

theorem lits_of_ints {P : Program} {t e : TypeId} {n : Nat} {k : IntKind} (ht : P.underlying t = some (.array n e)) (he : P.underlying e = some (.int k)) (hce : P.cellsOf e = 1) (hct : P.cellsOf t = n) (zs : List Int) (hl : zs.length = n) (hw : ∀ z ∈ zs, (Lit.int k z).wf = true) :
    P.keyLits 2 t (zs.map (Value.int k)) = some (zs.map (Lit.int k)) := by
  have h1 : (List.range n).mapM (fun i => P.keyLits 1 e (((zs.map (Value.int k)).drop (i * 1)).take 1)) = some ((List.range n).map fun i => [(zs.map (Lit.int k)).getD i (.int k 0)]) := by
    refine mapM_some _ _ _ fun i hi => ?_
    have hin : i < zs.length := by rw [hl]; simpa using hi
    have e1 : ((zs.map (Value.int k)).drop (i * 1)).take 1 = [Value.int k zs[i]] := by
      rw [Nat.mul_one, List.drop_eq_getElem_cons (by simpa using hin)]
      simp
    rw [e1]
    have e2 : (zs.map (Lit.int k)).getD i (.int k 0) = Lit.int k zs[i] := by simp [List.getD, hin]
    rw [e2]
    simp [Program.keyLits, he, hw _ (List.getElem_mem hin)]
  have h2 : (P.keyLits 2 t (zs.map (Value.int k))) = ((List.range n).mapM fun i => P.keyLits 1 e (((zs.map (Value.int k)).drop (i * P.cellsOf e)).take (P.cellsOf e))).map List.flatten := by
    conv => lhs; unfold Program.keyLits
    simp only [ht]
    rw [if_pos (by rw [List.length_map, hl, hct])]
  rw [h2, hce, h1]
  have := flat_range (zs.map (Lit.int k)) (.int k 0)
  rw [List.length_map, hl] at this
  rw [Option.map_some, this]

/-- two arrays of integers held against each other -/
theorem run_eq_ints {P : Program} {t e : TypeId} {n : Nat} {k : IntKind} (ht : P.underlying t = some (.array n e)) (he : P.underlying e = some (.int k)) (hce : P.cellsOf e = 1) (hct : P.cellsOf t = n) (a b : List Int) (ha : a.length = n) (hb : b.length = n)
    (wa : ∀ z ∈ a, (Lit.int k z).wf = true) (wb : ∀ z ∈ b, (Lit.int k z).wf = true) (w : World) :
    (Op.equalIn 10000 t (.agg (a.map (Value.int k)).toArray) (.agg (b.map (Value.int k)).toArray)).run P w = .ok (decide (a = b)) w := by
  have hk : P.keyTypeAt 2 t = true := by
    unfold Program.keyTypeAt
    simp only [ht]
    unfold Program.keyTypeAt
    simp only [he]
  obtain ⟨r, hr, hiff⟩ := run_equalIn_deep 9998 2 t hk w 2 2 (.agg (a.map (Value.int k)).toArray) (.agg (b.map (Value.int k)).toArray) (a.map (Lit.int k)) (b.map (Lit.int k))
    (by simp [Value.formed, ht, hct, ha]) (by simp [Value.formed, ht, hct, hb]) (by simpa [Value.cells] using lits_of_ints ht he hce hct a ha wa) (by simpa [Value.cells] using lits_of_ints ht he hce hct b hb wb)
  rw [hr]
  congr 1
  have hinj : a.map (Lit.int k) = b.map (Lit.int k) ↔ a = b := by
    constructor
    · intro h
      exact List.map_inj_right (fun x y hxy => by cases hxy; rfl) |>.1 h
    · intro h; rw [h]
  by_cases hab : a = b
  · rw [decide_eq_true hab, hiff, hinj]; exact hab
  · rw [decide_eq_false hab]
    cases r with
    | false => rfl
    | true => exact absurd (hinj.1 (hiff.1 rfl)) hab

end Go.Proofs.YtijjifdgmffenaaDoor
