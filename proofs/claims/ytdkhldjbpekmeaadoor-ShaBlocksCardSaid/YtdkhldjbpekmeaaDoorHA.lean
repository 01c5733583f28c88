/-
  Walks: a hash: New, made, Copy, Len.
-/
import Derived.Test.YtdkhldjbpekmeaaDoorSM
import Derived.Test.YtdkhldjbpekmeaaDoorSQ
import Derived.Test.YtdkhldjbpekmeaaDoorSR
namespace Go.Proofs.YtdkhldjbpekmeaaDoor
open Go.RowKit

/-- the cells of a hash -/
def hCells (ws rest : List Nat) (n : Nat) : List Value := u32s ws ++ u8s rest ++ [.int .i64 (n : Int)]

theorem built49 : Tryd.prog.built 49 [(0, .agg (u32s startT).toArray)] = some (hCells startT (List.replicate 64 0) 0).toArray := by kernel_rfl
theorem info49 : (Tryd.prog.info? 49).map (·.size) = some 73 := by kernel_rfl
theorem hCells_length (ws rest : List Nat) (n : Nat) (h1 : ws.length = 8) (h2 : rest.length = 64) : (hCells ws rest n).length = 73 := by simp [hCells, u32s, u8s, h1, h2]
theorem one_hCells (ws rest : List Nat) (n : Nat) : (hCells ws rest n).toArray.all (·.oneCell') = true := by
  apply all_oneCell_toArray
  intro v hv
  simp only [hCells, List.mem_append] at hv
  rcases hv with (hv | hv) | hv
  · obtain ⟨x, _, rfl⟩ := List.mem_map.1 hv; rfl
  · obtain ⟨x, _, rfl⟩ := List.mem_map.1 hv; rfl
  · simp at hv; subst hv; rfl

set_option maxHeartbeats 1000000 in
set_option maxRecDepth 100000 in
theorem new_any (w : World) (hL : Laid w) :
    Calls Tryd.prog 19 #[] w fun e w' => e = .returned (.pointer (some ⟨w.heap.size, 0, none⟩)) ∧ w' = w.alloc (.cells (hCells startT (List.replicate 64 0) 0).toArray 49) := by
  have HL := hide hL
  have HB := hide built49
  clear hL
  generalize (hCells startT (List.replicate 64 0) 0).toArray = C at *
  go_enter Tryd.func19, Tryd.ntmps19
  go_upto_region 1 with fail
  refine wp_region_list ?_
  refine wpList_load_mid rfl 26 _ rfl 0 0 rfl (u32s startT) _ HL.out.1 Tryd.underlying26 rfl info26 ?_
  have hf : Tryd.prog.built 49 ((#[(0, Operand.tmp 1)] : Array (Nat × Operand)).map fun (i, x) => (i, (({ tmps := #[Value.pointer none, undef, undef, undef], defers := [] } : Act).put (some 1) (Value.agg (u32s startT).toArray)).eval x)).toList = some C := by
    simpa [Act.put, Act.eval] using HB.out
  refine wpList_build rfl 49 #[(0, .tmp 1)] rfl (by rw [show Tryd.prog.built 49 _ = some C from hf]; rfl) ?_
  rw [show Tryd.prog.built 49 _ = some C from hf]
  go_wp2
  go_ret
  exact ⟨rfl, rfl⟩

/-- the words are not all 0 -/
def nz (ws : List Nat) : Prop := ws ≠ List.replicate 8 0

theorem hash_range {w : World} {g : Nat} {ws rest : List Nat} {n : Nat} (hA : Arr w g 49 (hCells ws rest n)) : w.rangeAt g 0 (u32s ws) := fun j v hv => by
  have := hA.cell j
  rw [Nat.zero_add, this, hCells, List.append_assoc, List.getElem?_append_left (List.getElem?_eq_some_iff.1 hv).1]
  exact hv

set_option maxHeartbeats 1000000 in
set_option maxRecDepth 100000 in
theorem made_any (g : Nat) (ws rest : List Nat) (n : Nat) (w : World) (hl : ws.length = 8) (hw : Words ws) (hz : nz ws) (hA : Arr w g 49 (hCells ws rest n)) :
    Calls Tryd.prog 31 #[.pointer (some ⟨g, 0, none⟩)] w fun e w' => e = .returned (.bool true) ∧ w' = w := by
  have hr := hash_range hA
  have heq := run_eq_words ws (List.replicate 8 0) hl (by simp) hw (by intro x hx; rw [List.eq_of_mem_replicate hx]; omega)
  rw [decide_eq_false hz] at heq
  obtain ⟨xa, xb, xc, xd, xe, xf, xg, xh, rfl⟩ := eight hl
  have c0 : w.cell? ⟨g, 0, none⟩ = some (.int .u32 (xa : Int)) := hr 0 _ rfl
  have c1 : w.cell? ⟨g, 1, none⟩ = some (.int .u32 (xb : Int)) := hr 1 _ rfl
  have c2 : w.cell? ⟨g, 2, none⟩ = some (.int .u32 (xc : Int)) := hr 2 _ rfl
  have c3 : w.cell? ⟨g, 3, none⟩ = some (.int .u32 (xd : Int)) := hr 3 _ rfl
  have c4 : w.cell? ⟨g, 4, none⟩ = some (.int .u32 (xe : Int)) := hr 4 _ rfl
  have c5 : w.cell? ⟨g, 5, none⟩ = some (.int .u32 (xf : Int)) := hr 5 _ rfl
  have c6 : w.cell? ⟨g, 6, none⟩ = some (.int .u32 (xg : Int)) := hr 6 _ rfl
  have c7 : w.cell? ⟨g, 7, none⟩ = some (.int .u32 (xh : Int)) := hr 7 _ rfl
  have heq' : ∀ v : World, (Op.equalIn 10000 26 (.agg #[.int .u32 (xa : Int), .int .u32 (xb : Int), .int .u32 (xc : Int), .int .u32 (xd : Int), .int .u32 (xe : Int), .int .u32 (xf : Int), .int .u32 (xg : Int), .int .u32 (xh : Int)]) (.agg #[.int .u32 0, .int .u32 0, .int .u32 0, .int .u32 0, .int .u32 0, .int .u32 0, .int .u32 0, .int .u32 0])).run Tryd.prog v = .ok false v := heq
  clear hA hr hz hl hw heq
  go_enter Tryd.func31, Tryd.ntmps31
  go_wp2
  go_ret
  exact ⟨rfl, rfl⟩

theorem zero49 : ∀ w : World, (zeroValue 49).run Tryd.prog w = .ok (.agg (hCells (List.replicate 8 0) (List.replicate 64 0) 0).toArray) w := (zero_of_info (n := 73) (by kernel_rfl)).1

set_option maxHeartbeats 1000000 in
set_option maxRecDepth 100000 in
theorem copy_any (g : Nat) (ws rest : List Nat) (n : Nat) (w : World) (hl : ws.length = 8) (hrl : rest.length = 64) (hw : Words ws) (hz : nz ws) (hA : Arr w g 49 (hCells ws rest n)) :
    Calls Tryd.prog 22 #[.pointer (some ⟨g, 0, none⟩)] w fun e w' => e = .returned (.pointer (some ⟨w.heap.size, 0, none⟩)) ∧ Arr w' w.heap.size 49 (hCells ws rest n) ∧ Below w.heap.size w w' := by
  have HM := hide (made_any g ws rest n w hl hw hz hA)
  have HA := hide hA
  have HI : Hid ((Tryd.prog.info? 49).map (·.size) = some (hCells ws rest n).toArray.size) := by show _ = _; rw [info49]; simp [hCells, u32s, u8s, hl, hrl]
  have HO : Hid ((hCells (List.replicate 8 0) (List.replicate 64 0) 0).toArray.size = (hCells ws rest n).toArray.size) := by show _ = _; simp [hCells, u32s, u8s, hl, hrl]
  clear hA
  go_enter Tryd.func22, Tryd.ntmps22
  go_wp2_with fail
  refine HM.out.mono ?_
  rintro e w1 ⟨rfl, hw1⟩
  subst hw1
  have hzv := zero49
  generalize hC0 : (hCells (List.replicate 8 0) (List.replicate 64 0) 0).toArray = C0 at *
  have HC0 := hide hC0
  clear hC0
  go_wp2_with (first
    | (refine wpList_load_row rfl 49 _ rfl g rfl 49 _ (0, 0) _ HA.out Tryd.underlying49 rfl HI.out ?_)
    | (refine wpList_store_row rfl 49 _ _ rfl w1.heap.size _ rfl rfl 49 _ (heap_alloc_new w1 _) HI.out HO.out (one_hCells _ _ _) ?_))
  go_ret
  refine ⟨rfl, ?_, ?_⟩
  · exact (Arr.new w1 49 C0.toList).row _
  · exact below_setRow ((Below.refl _ _).alloc (Nat.le_refl _) _) (Nat.le_refl _) (by simp) _

end Go.Proofs.YtdkhldjbpekmeaaDoor
