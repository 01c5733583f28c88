/-
  How an array lies in memory; a walk: the reference's Turns, all words of a block's turns as an array.
-/
import Derived.Test.YtfopjobcjafgaabDoorSE
namespace Go.Proofs.YtfopjobcjafgaabDoor
open Go.RowKit

/-- an array, or a struct, is a block of its own -/
def Arr (w : World) (g : Nat) (t : TypeId) (vs : List Value) : Prop := w.heap[g]? = some (.cells vs.toArray t (0, 0))

theorem Arr.lt {w : World} {g : Nat} {t : TypeId} {vs : List Value} (h : Arr w g t vs) : g < w.heap.size := by
  by_cases hlt : g < w.heap.size
  · exact hlt
  · unfold Arr at h; rw [Array.getElem?_eq_none (by omega)] at h; cases h
theorem Arr.cell {w : World} {g : Nat} {t : TypeId} {vs : List Value} (h : Arr w g t vs) (j : Nat) : w.cell? ⟨g, j, none⟩ = vs[j]? := by
  rw [cell_of_row w g j _ t _ h]; simp
theorem Arr.frozen {w : World} {g : Nat} {t : TypeId} {vs : List Value} (h : Arr w g t vs) (j : Nat) : w.frozen? ⟨g, j, none⟩ = false := frozen_of_row w g j _ t h
theorem Arr.set {w : World} {g : Nat} {t : TypeId} {vs : List Value} (h : Arr w g t vs) (i : Nat) (v : Value) : Arr (w.setCell ⟨g, i, none⟩ v) g t (vs.set i v) := by
  have := heap_setCell_same w g i _ t v h
  unfold Arr
  rw [this]
  simp
theorem Arr.other {w : World} {g : Nat} {t : TypeId} {vs : List Value} (h : Arr w g t vs) (a : Addr) (v : Value) (hne : g ≠ a.block) : Arr (w.setCell a v) g t vs :=
  (heap_setCell_other w a g v hne).trans h
theorem Arr.row {w : World} {g : Nat} {t : TypeId} {vs : List Value} (h : Arr w g t vs) (us : Array Value) : Arr (w.setRow g us) g t us.toList := by
  unfold Arr; rw [setRow_heap w g _ us t _ h]
theorem Arr.rowOther {w : World} {g : Nat} {t : TypeId} {vs : List Value} (h : Arr w g t vs) (k : Nat) (us : Array Value) (hne : g ≠ k) : Arr (w.setRow k us) g t vs := by
  unfold Arr; rw [setRow_other w k g us hne]; exact h
theorem Arr.alloc {w : World} {g : Nat} {t : TypeId} {vs : List Value} (h : Arr w g t vs) (o : Obj) : Arr (w.alloc o) g t vs :=
  (show (w.alloc o).heap[g]? = w.heap[g]? from by show (w.heap.push o)[g]? = _; rw [Array.getElem?_push, if_neg (Nat.ne_of_lt h.lt)]).trans h
theorem Arr.new (w : World) (t : TypeId) (vs : List Value) : Arr (w.alloc (.cells vs.toArray t)) w.heap.size t vs := heap_alloc_new w _
theorem Arr.newAt (w : World) (t : TypeId) (vs : List Value) (n : Nat) (h : w.heap.size = n) : Arr (w.alloc (.cells vs.toArray t)) n t vs := by rw [← h]; exact heap_alloc_new w _
theorem Arr.below {B : Nat} {w w' : World} {g : Nat} {t : TypeId} {vs : List Value} (h : Arr w g t vs) (hB : g < B) (hb : Below B w w') : Arr w' g t vs := (hb.block g hB).trans h
theorem Arr.kept {w w' : World} {g : Nat} {t : TypeId} {vs : List Value} (h : Arr w g t vs) (hb : Below w.heap.size w w') : Arr w' g t vs := h.below h.lt hb
theorem Arr.range {w : World} {g : Nat} {t : TypeId} {vs : List Value} (h : Arr w g t vs) : w.rangeAt g 0 vs := fun j v hv => by rw [Nat.zero_add, h.cell]; exact hv

theorem below_setRow {B : Nat} {w w' : World} (h : Below B w w') {g : Nat} (hg : B ≤ g) (hlt : g < w'.heap.size) (us : Array Value) : Below B w (w'.setRow g us) := by
  have hg' : w'.grownBy (w'.setRow g us) (some g) := ⟨rfl, rfl, rfl, by simp, fun k _ hk => setRow_other w' g k us (fun e => hk (by rw [e]))⟩
  exact h.grown hg' (by omega) (by intro k hk; cases hk; exact hg)

theorem one_u32s (l : List Nat) : (u32s l).toArray.all (·.oneCell') = true := by
  apply all_oneCell_toArray
  intro v hv
  obtain ⟨x, _, rfl⟩ := List.mem_map.1 hv
  rfl

theorem info31 : (Tryd.prog.info? 58).map (·.size) = some 64 := by kernel_rfl
theorem info26 : (Tryd.prog.info? 51).map (·.size) = some 8 := by kernel_rfl

/-- so many of the table's words, noughts behind them -/
def part (T : List Nat) (n i : Nat) : List Nat := T.take i ++ List.replicate (n - i) 0

theorem part_length (T : List Nat) (n i : Nat) (h : T.length = n) (hi : i ≤ n) : (part T n i).length = n := by simp [part, h]; omega
theorem part_set (T : List Nat) (n i : Nat) (h : T.length = n) (hi : i < n) : (part T n i).set i (T.getD i 0) = part T n (i + 1) := by
  apply List.ext_getElem
  · simp [part, h]; omega
  · intro k h1 h2
    simp only [part, List.getElem_set, List.getElem_append, List.length_take, h]
    by_cases e : i = k
    · subst e
      simp [h, hi, List.getD, show i < min (i + 1) n by omega]
    · by_cases hk : k < i
      · simp [e, show k < min i n by omega, show k < min (i + 1) n by omega]
      · simp [e, show ¬ k < min i n by omega, show ¬ k < min (i + 1) n by omega]
theorem part_full (T : List Nat) (n : Nat) (h : T.length = n) : part T n n = T := by simp [part, ← h]

theorem zeros64 : u32s (part turnT 64 0) = u32s (List.replicate 64 0) := by simp [part]

set_option maxHeartbeats 2000000 in
set_option maxRecDepth 100000 in
theorem turns_any (w : World) :
    Calls Tryd.prog 28 #[] w fun e w' => e = .returned (.agg (u32s turnT).toArray) ∧ Below w.heap.size w w' := by
  go_enter Tryd.func28, Tryd.ntmps28
  go_wp2
  go_loopg [2] 65 (fun f s2 wr => ∃ (i : Nat), s2 = .int .i64 i ∧ i ≤ 64 ∧ 64 - i < f ∧ Arr wr w.heap.size 58 (u32s (List.replicate 64 0)) ∧ Arr wr (w.heap.size + 1) 58 (u32s (part turnT 64 i)) ∧ Below w.heap.size w wr)
  case atStart =>
    refine ⟨0, rfl, by omega, by omega, ?_, ?_, ?_⟩
    · exact heap_alloc2_old _ _ _
    · exact heap_alloc2_new _ _ _
    · exact ((Below.refl _ _).alloc (Nat.le_refl _) _).alloc (by simp) _
  case round =>
    obtain ⟨i, rfl, hi, hf, h0, h1, hb⟩ := hrel
    have H0 := hide h0
    have H1 := hide h1
    have HB := hide hb
    clear h0 h1 hb
    by_cases hlt : i < 64
    · go_wp2_with fail
      refine (refTurn_in i hlt _).mono ?_
      rintro e w1 ⟨rfl, hb1⟩
      have A0 := hide (H0.out.kept hb1)
      have h1 := H1.out.kept hb1
      have A1 := hide h1
      have B1 : Hid (Below w.heap.size w w1) := HB.out.trans (hb1.mono HB.out.size)
      have c1 : ∃ x, w1.cell? ⟨w.heap.size + 1, i, none⟩ = some (.int .u32 x) := ⟨_, (h1.cell i).trans (u32s_at (by rw [part_length _ _ _ turnT_length (by omega)]; omega))⟩
      obtain ⟨x, c1⟩ := c1
      have f1 := h1.frozen i
      clear h1 hb1
      go_wp2
      go_roundg (64 - i)
      case measure => omega
      case rel =>
        refine ⟨i + 1, by go_num, by omega, by omega, A0.out.other _ _ (by simp), ?_, B1.out.setCell (by simp) _⟩
        have := A1.out.set i (.int .u32 ((turnT.getD i 0 : Nat) : Int))
        rw [u32s_set, part_set _ _ _ turnT_length hlt] at this
        exact this
    · have e : i = 64 := by omega
      subst e
      have h0 := H0.out
      have h1 := H1.out
      rw [part_full _ _ turnT_length] at h1
      have K0 := hide h0
      have K1 := hide h1
      clear h0 h1 H0 H1
      go_wp2_with (first
        | (refine wpList_load_row rfl 58 _ rfl (w.heap.size + 1) rfl 58 _ (0, 0) _ K1.out Tryd.underlying58 rfl info31 ?_)
        | (refine wpList_store_row rfl 58 _ _ rfl w.heap.size _ rfl rfl 58 _ K0.out info31 rfl (one_u32s _) ?_))
      exact bodyPost_ret (v := .agg (u32s turnT).toArray) (results_cell_row Tryd.results28 _ _ w.heap.size 58 _ (0, 0) _ rfl (K0.out.row _) Tryd.underlying58 rfl info31) rfl ⟨rfl, below_setRow HB.out (Nat.le_refl _) K0.out.lt _⟩

end Go.Proofs.YtfopjobcjafgaabDoor
