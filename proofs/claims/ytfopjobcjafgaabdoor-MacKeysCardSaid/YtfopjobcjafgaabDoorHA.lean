/-
  Walks: a hash: New, made, Copy, Len; what a hash is, of whatever make.
-/
import Derived.Test.YtfopjobcjafgaabDoorSM
import Derived.Test.YtfopjobcjafgaabDoorSQ
import Derived.Test.YtfopjobcjafgaabDoorSR
import Derived.Test.YtfopjobcjafgaabDoorHM
namespace Go.Proofs.YtfopjobcjafgaabDoor
open Go.RowKit

/-- the cells of a hash -/
def hCells (ws rest : List Nat) (n : Nat) : List Value := u32s ws ++ u8s rest ++ [.int .i64 (n : Int)]

theorem built49 : Tryd.prog.built 53 [(0, .agg (u32s startT).toArray)] = some (hCells startT (List.replicate 64 0) 0).toArray := by kernel_rfl
theorem info49 : (Tryd.prog.info? 53).map (·.size) = some 73 := by kernel_rfl
theorem hCells_length (ws rest : List Nat) (n : Nat) (h1 : ws.length = 8) (h2 : rest.length = 64) : (hCells ws rest n).length = 73 := by simp [hCells, u32s, u8s, h1, h2]
theorem one_hCells (ws rest : List Nat) (n : Nat) : (hCells ws rest n).toArray.all (·.oneCell') = true := by
  apply all_oneCell_toArray
  intro v hv
  simp only [hCells, List.mem_append] at hv
  rcases hv with (hv | hv) | hv
  · obtain ⟨x, _, rfl⟩ := List.mem_map.1 hv; rfl
  · obtain ⟨x, _, rfl⟩ := List.mem_map.1 hv; rfl
  · simp at hv; subst hv; rfl

set_option maxHeartbeats 1000000 in
set_option maxRecDepth 100000 in
theorem new_any (w : World) (hL : Laid w) :
    Calls Tryd.prog 22 #[] w fun e w' => e = .returned (.pointer (some ⟨w.heap.size, 0, none⟩)) ∧ w' = w.alloc (.cells (hCells startT (List.replicate 64 0) 0).toArray 53) := by
  have HL := hide hL
  have HB := hide built49
  clear hL
  generalize (hCells startT (List.replicate 64 0) 0).toArray = C at *
  go_enter Tryd.func22, Tryd.ntmps22
  go_upto_region 1 with fail
  refine wp_region_list ?_
  refine wpList_load_mid rfl 51 _ rfl 0 0 rfl (u32s startT) _ HL.out.1 Tryd.underlying51 rfl info26 ?_
  have hf : Tryd.prog.built 53 ((#[(0, Operand.tmp 1)] : Array (Nat × Operand)).map fun (i, x) => (i, (({ tmps := #[Value.pointer none, undef, undef, undef], defers := [] } : Act).put (some 1) (Value.agg (u32s startT).toArray)).eval x)).toList = some C := by
    simpa [Act.put, Act.eval] using HB.out
  refine wpList_build rfl 53 #[(0, .tmp 1)] rfl (by rw [show Tryd.prog.built 53 _ = some C from hf]; rfl) ?_
  rw [show Tryd.prog.built 53 _ = some C from hf]
  go_wp2
  go_ret
  exact ⟨rfl, rfl⟩

theorem hash_range {w : World} {g : Nat} {ws rest : List Nat} {n : Nat} (hA : Arr w g 53 (hCells ws rest n)) : w.rangeAt g 0 (u32s ws) := fun j v hv => by
  have := hA.cell j
  rw [Nat.zero_add, this, hCells, List.append_assoc, List.getElem?_append_left (List.getElem?_eq_some_iff.1 hv).1]
  exact hv

theorem hash_rest {w : World} {g : Nat} {ws rest : List Nat} {n : Nat} (h8 : ws.length = 8) (hA : Arr w g 53 (hCells ws rest n)) : w.rangeAt g 8 (u8s rest) := fun j v hv => by
  have := hA.cell (8 + j)
  have hj := (List.getElem?_eq_some_iff.1 hv).1
  rw [this, hCells, List.append_assoc, List.getElem?_append_right (by simp [u32s, h8]), List.getElem?_append_left (by simp [u32s, h8]; simpa using hj)]
  simpa [u32s, h8] using hv

theorem hash_size {w : World} {g : Nat} {ws rest : List Nat} {n : Nat} (h8 : ws.length = 8) (h64 : rest.length = 64) (hA : Arr w g 53 (hCells ws rest n)) : w.cell? ⟨g, 72, none⟩ = some (.int .i64 (n : Int)) := by
  rw [hA.cell 72, hCells, List.getElem?_append_right (by simp [u32s, u8s, h8, h64])]
  simp [u32s, u8s, h8, h64]

/-- a whole array read: what the operation yields -/
theorem exec_load_row {P : Program} {o : Oper} {a : Act} {w : World} (ty : TypeId) (x : Operand) (ho : o.op = .load ty x)
    (g : Nat) (hx : a.eval x = .pointer (some ⟨g, 0, none⟩)) (t : TypeId) (cs : Array Value) (fr : Nat × Nat) (e : TypeDesc) (hg : w.heap[g]? = some (.cells cs t fr))
    (hu : P.underlying ty = some e) (hd : (match e with | .struct _ | .array _ _ => true | _ => false) = true) (hi : (P.info? ty).map (·.size) = some cs.size) :
    (execOp a.eval o).run P w = .ok (.value (.agg cs)) w := by
  unfold execOp
  simp only [ho, hx, Instr.loadAt, Instr.sureAddr, Sem.run_bind, Sem.run_pure, Result.andThen_ok, run_loadVar_row w g t ty cs fr e hg hu hd hi]

/-- .. out of the middle of a block -/
theorem exec_load_mid {P : Program} {op : Oper} {a : Act} {w : World} (ty : TypeId) (x : Operand) (ho : op.op = .load ty x)
    (b o : Nat) (hx : a.eval x = .pointer (some ⟨b, o, none⟩)) (cs : List Value) (d : TypeDesc) (hc : w.rangeAt b o cs)
    (hu : P.underlying ty = some d) (hd : d.isRow = true) (hi : (P.info? ty).map (·.size) = some cs.length) :
    (execOp a.eval op).run P w = .ok (.value (.agg cs.toArray)) w := by
  unfold execOp
  simp only [ho, hx, Instr.loadAt, Instr.sureAddr, Sem.run_bind, Sem.run_pure, Result.andThen_ok, run_loadVar_mid w b o ty cs d hc hu hd hi]

/-- two arrays held against each other: what the operation yields -/
theorem exec_eql_agg {P : Program} {o : Oper} {a : Act} {w : World} (t tt : TypeId) (x y : Operand) (ho : o.op = .binOp .eql t x y tt) (xs ys : Array Value) (hx : a.eval x = .agg xs) (hy : a.eval y = .agg ys) (r : Bool)
    (hgd : (eqGuard .eql t x y (.agg xs) (.agg ys)).run P w = .ok () w) (he : (Op.equalIn 10000 t (.agg xs) (.agg ys)).run P w = .ok r w) : (execOp a.eval o).run P w = .ok (.value (.bool r)) w := by
  unfold execOp
  simp only [ho, hx, hy, Sem.run_bind, hgd, run_eql_struct, he, Result.andThen_ok, Sem.run_pure]

theorem guard26 (x y : Operand) (u v : Array Value) (w : World) : (eqGuard .eql 51 x y (.agg u) (.agg v)).run Tryd.prog w = .ok () w := by kernel_rfl

/-- a hash that has bytes is one of New's -/
theorem made_size (g : Nat) (ws rest : List Nat) (n : Nat) (w : World) (h8 : ws.length = 8) (h64 : rest.length = 64) (hn : 0 < n) (hA : Arr w g 53 (hCells ws rest n)) :
    Calls Tryd.prog 23 #[.pointer (some ⟨g, 0, none⟩)] w fun e w' => e = .returned (.bool true) ∧ w' = w.drew := by
  have KS : Hid (∀ v : World, Hid (Below w.heap.size w v) → v.cell? ⟨g, 72, none⟩ = some (.int .i64 (n : Int))) := fun v hv => hash_size h8 h64 (hA.kept hv.out)
  have hnd : decide (0 < n) = true := decide_eq_true hn
  clear hA h8 h64
  go_enter Tryd.func23, Tryd.ntmps23
  go_upto_region 1 with fail
  refine wp_region_held_drew (S := fun v => Hid (Below w.heap.size w v)) (by kernel_rfl) (hide (Below.refl w.heap.size w).drew) (fun hHeld => ?_)
  refine take_dstH (i := 0) (d := 3) (v := ?_) rfl rfl (by kernel_rfl) (by kernel_rfl) (by kernel_rfl) (fun _ _ _ h => h) (by rfl) hHeld ?_ ?_
  rotate_left
  · intro wZ hSw; clear hSw; go_simp; first | (with_reducible rfl) | (rw [if_pos (by omega)]; with_reducible rfl) | skip
  try simp only [Act.put, List.setIfInBounds_toArray, List.set_cons_zero, List.set_cons_succ]
  refine take_dstH (i := 1) (d := 4) (v := ?_) rfl rfl (by kernel_rfl) (by kernel_rfl) (by kernel_rfl) (fun _ _ _ h => h) (by rfl) hHeld ?_ ?_
  rotate_left
  · intro wZ hSw; clear hSw; go_simp; first | (with_reducible rfl) | (rw [if_pos (by omega)]; with_reducible rfl) | skip
  try simp only [Act.put, List.setIfInBounds_toArray, List.set_cons_zero, List.set_cons_succ]
  refine take_dstH (i := 2) (d := 5) (v := ?_) rfl rfl (by kernel_rfl) (by kernel_rfl) (by kernel_rfl) (fun _ _ _ h => h) (by rfl) hHeld ?_ ?_
  rotate_left
  · intro wZ hSw; clear hSw; go_simp; first | (with_reducible rfl) | (rw [if_pos (by omega)]; with_reducible rfl) | skip
  try simp only [Act.put, List.setIfInBounds_toArray, List.set_cons_zero, List.set_cons_succ]
  refine take_dstH (i := 3) (d := 6) (v := ?_) rfl rfl (by kernel_rfl) (by kernel_rfl) (by kernel_rfl) (fun _ _ _ h => h) (by rfl) hHeld ?_ ?_
  rotate_left
  · intro wZ hSw; clear hSw; go_simp; first | (with_reducible rfl) | (rw [if_pos (by omega)]; with_reducible rfl) | skip
  try simp only [Act.put, List.setIfInBounds_toArray, List.set_cons_zero, List.set_cons_succ]
  refine take_dstH (i := 4) (d := 7) (v := ?_) rfl rfl (by kernel_rfl) (by kernel_rfl) (by kernel_rfl) (fun _ _ _ h => h) (by rfl) hHeld ?_ ?_
  rotate_left
  · intro wZ hSw; clear hSw; go_simp; first | (with_reducible rfl) | (rw [if_pos (by omega)]; with_reducible rfl) | skip
  try simp only [Act.put, List.setIfInBounds_toArray, List.set_cons_zero, List.set_cons_succ]
  refine take_dstH (i := 5) (d := 8) (v := ?_) rfl rfl (by kernel_rfl) (by kernel_rfl) (by kernel_rfl) (fun _ _ _ h => h) (by rfl) hHeld ?_ ?_
  rotate_left
  · intro wZ hSw; clear hSw; go_simp; first | (with_reducible rfl) | (rw [if_pos (by omega)]; with_reducible rfl) | skip
  try simp only [Act.put, List.setIfInBounds_toArray, List.set_cons_zero, List.set_cons_succ]
  refine take_dstH (i := 6) (d := 9) (v := ?_) rfl rfl (by kernel_rfl) (by kernel_rfl) (by kernel_rfl) (fun _ _ _ h => h) (by rfl) hHeld ?_ ?_
  rotate_left
  · intro wZ hSw; have hfS := KS.out wZ hSw; clear hSw; go_simp; first | (with_reducible rfl) | (rw [if_pos (by omega)]; with_reducible rfl) | skip
  try simp only [Act.put, List.setIfInBounds_toArray, List.set_cons_zero, List.set_cons_succ]
  refine take_dstH (i := 7) (d := 10) (v := ?_) rfl rfl (by kernel_rfl) (by kernel_rfl) (by kernel_rfl) (fun _ _ _ h => h) (by rfl) hHeld ?_ ?_
  rotate_left
  · intro wZ hSw; clear hSw; go_simp; first | (with_reducible rfl) | (rw [if_pos (by omega)]; with_reducible rfl) | skip
  try simp only [Act.put, List.setIfInBounds_toArray, List.set_cons_zero, List.set_cons_succ]
  refine take_dstH (i := 8) (d := 11) (v := ?_) rfl rfl (by kernel_rfl) (by kernel_rfl) (by kernel_rfl) (fun _ _ _ h => h) (by rfl) hHeld ?_ ?_
  rotate_left
  · intro wZ hSw; clear hSw; go_simp; first | (with_reducible rfl) | (rw [if_pos (by omega)]; with_reducible rfl) | skip
  try simp only [Act.put, List.setIfInBounds_toArray, List.set_cons_zero, List.set_cons_succ]
  refine skip_dstH (i := 9) (d := 12) rfl rfl (by kernel_rfl) (by kernel_rfl) (by kernel_rfl) (fun _ _ _ h => h) (by rfl) hHeld ?_
  try simp only [Act.put, List.setIfInBounds_toArray, List.set_cons_zero, List.set_cons_succ]
  refine skip_dstH (i := 10) (d := 13) rfl rfl (by kernel_rfl) (by kernel_rfl) (by kernel_rfl) (fun _ _ _ h => h) (by rfl) hHeld ?_
  try simp only [Act.put, List.setIfInBounds_toArray, List.set_cons_zero, List.set_cons_succ]
  refine skip_dstH (i := 11) (d := 14) rfl rfl (by kernel_rfl) (by kernel_rfl) (by kernel_rfl) (fun _ _ _ h => h) (by rfl) hHeld ?_
  try simp only [Act.put, List.setIfInBounds_toArray, List.set_cons_zero, List.set_cons_succ]
  refine skip_dstH (i := 12) (d := 15) rfl rfl (by kernel_rfl) (by kernel_rfl) (by kernel_rfl) (fun _ _ _ h => h) (by rfl) hHeld ?_
  try simp only [Act.put, List.setIfInBounds_toArray, List.set_cons_zero, List.set_cons_succ]
  refine skip_dstH (i := 13) (d := 16) rfl rfl (by kernel_rfl) (by kernel_rfl) (by kernel_rfl) (fun _ _ _ h => h) (by rfl) hHeld ?_
  try simp only [Act.put, List.setIfInBounds_toArray, List.set_cons_zero, List.set_cons_succ]
  refine skip_dstH (i := 14) (d := 17) rfl rfl (by kernel_rfl) (by kernel_rfl) (by kernel_rfl) (fun _ _ _ h => h) (by rfl) hHeld ?_
  try simp only [Act.put, List.setIfInBounds_toArray, List.set_cons_zero, List.set_cons_succ]
  refine take_dstH (i := 15) (d := 18) (v := ?_) rfl rfl (by kernel_rfl) (by kernel_rfl) (by kernel_rfl) (fun _ _ _ h => h) (by rfl) hHeld ?_ ?_
  rotate_left
  · intro wZ hSw; clear hSw; go_simp; first | (with_reducible rfl) | (rw [if_pos (by omega)]; with_reducible rfl) | skip
  try simp only [Act.put, List.setIfInBounds_toArray, List.set_cons_zero, List.set_cons_succ]
  refine take_dstH (i := 16) (d := 19) (v := ?_) rfl rfl (by kernel_rfl) (by kernel_rfl) (by kernel_rfl) (fun _ _ _ h => h) (by rfl) hHeld ?_ ?_
  rotate_left
  · intro wZ hSw; clear hSw; go_simp; first | (with_reducible rfl) | (rw [if_pos (by omega)]; with_reducible rfl) | skip
  try simp only [Act.put, List.setIfInBounds_toArray, List.set_cons_zero, List.set_cons_succ]
  refine take_dstH (i := 17) (d := 2) (v := ?_) rfl rfl (by kernel_rfl) (by kernel_rfl) (by kernel_rfl) (fun _ _ _ h => h) (by rfl) hHeld ?_ ?_
  rotate_left
  · intro wZ hSw; clear hSw; go_simp; first | (with_reducible rfl) | (rw [if_pos (by omega)]; with_reducible rfl) | skip
  try simp only [Act.put, List.setIfInBounds_toArray, List.set_cons_zero, List.set_cons_succ]
  refine wpAnyH_done (by kernel_rfl) ?_ _
  go_wp2
  go_ret
  exact ⟨rfl, rfl⟩

/-- one that has none is told by its words -/
theorem made_words (g : Nat) (ws rest : List Nat) (b : Bool) (w : World) (h8 : ws.length = 8) (hw : Words ws) (h64 : rest.length = 64) (hb : decide (ws = startT) = b) (hA : Arr w g 53 (hCells ws rest 0)) (hL : Laid w) :
    Calls Tryd.prog 23 #[.pointer (some ⟨g, 0, none⟩)] w fun e w' => e = .returned (.bool b) ∧ w' = w.drew := by
  have KS : Hid (∀ v : World, Hid (Below w.heap.size w v) → v.cell? ⟨g, 72, none⟩ = some (.int .i64 0)) := fun v hv => hash_size (n := 0) h8 h64 (hA.kept hv.out)
  have KR : Hid (∀ v : World, Hid (Below w.heap.size w v) → v.rangeAt g 0 (u32s ws)) := fun v hv => hash_range (hA.kept hv.out)
  have KG : Hid (∀ v : World, Hid (Below w.heap.size w v) → v.rangeAt 0 0 (u32s startT)) := fun v hv => (hL.kept hv.out).1
  have heq := run_eq_words ws startT h8 rfl hw startT_words
  rw [hb] at heq
  have HEQ := hide heq
  have I26 : Hid ((Tryd.prog.info? 51).map (·.size) = some (u32s ws).length) := by show _ = _; rw [info26]; simp [u32s, h8]
  have J26 : Hid ((Tryd.prog.info? 51).map (·.size) = some (u32s startT).length) := by show _ = _; rw [info26]; simp [u32s, startT_length]
  clear hA h8 h64 hw hb hL heq
  generalize u32s startT = ss at *
  go_enter Tryd.func23, Tryd.ntmps23
  go_upto_region 1 with fail
  refine wp_region_held_drew (S := fun v => Hid (Below w.heap.size w v)) (by kernel_rfl) (hide (Below.refl w.heap.size w).drew) (fun hHeld => ?_)
  refine take_dstH (i := 0) (d := 3) (v := ?_) rfl rfl (by kernel_rfl) (by kernel_rfl) (by kernel_rfl) (fun _ _ _ h => h) (by rfl) hHeld ?_ ?_
  rotate_left
  · intro wZ hSw; clear hSw; go_simp; first | (with_reducible rfl) | (rw [if_pos (by omega)]; with_reducible rfl) | skip
  try simp only [Act.put, List.setIfInBounds_toArray, List.set_cons_zero, List.set_cons_succ]
  refine take_dstH (i := 1) (d := 4) (v := ?_) rfl rfl (by kernel_rfl) (by kernel_rfl) (by kernel_rfl) (fun _ _ _ h => h) (by rfl) hHeld ?_ ?_
  rotate_left
  · intro wZ hSw; clear hSw; go_simp; first | (with_reducible rfl) | (rw [if_pos (by omega)]; with_reducible rfl) | skip
  try simp only [Act.put, List.setIfInBounds_toArray, List.set_cons_zero, List.set_cons_succ]
  refine take_dstH (i := 2) (d := 5) (v := ?_) rfl rfl (by kernel_rfl) (by kernel_rfl) (by kernel_rfl) (fun _ _ _ h => h) (by rfl) hHeld ?_ ?_
  rotate_left
  · intro wZ hSw; clear hSw; go_simp; first | (with_reducible rfl) | (rw [if_pos (by omega)]; with_reducible rfl) | skip
  try simp only [Act.put, List.setIfInBounds_toArray, List.set_cons_zero, List.set_cons_succ]
  refine take_dstH (i := 3) (d := 6) (v := ?_) rfl rfl (by kernel_rfl) (by kernel_rfl) (by kernel_rfl) (fun _ _ _ h => h) (by rfl) hHeld ?_ ?_
  rotate_left
  · intro wZ hSw; clear hSw; go_simp; first | (with_reducible rfl) | (rw [if_pos (by omega)]; with_reducible rfl) | skip
  try simp only [Act.put, List.setIfInBounds_toArray, List.set_cons_zero, List.set_cons_succ]
  refine take_dstH (i := 4) (d := 7) (v := ?_) rfl rfl (by kernel_rfl) (by kernel_rfl) (by kernel_rfl) (fun _ _ _ h => h) (by rfl) hHeld ?_ ?_
  rotate_left
  · intro wZ hSw; clear hSw; go_simp; first | (with_reducible rfl) | (rw [if_pos (by omega)]; with_reducible rfl) | skip
  try simp only [Act.put, List.setIfInBounds_toArray, List.set_cons_zero, List.set_cons_succ]
  refine take_dstH (i := 5) (d := 8) (v := ?_) rfl rfl (by kernel_rfl) (by kernel_rfl) (by kernel_rfl) (fun _ _ _ h => h) (by rfl) hHeld ?_ ?_
  rotate_left
  · intro wZ hSw; clear hSw; go_simp; first | (with_reducible rfl) | (rw [if_pos (by omega)]; with_reducible rfl) | skip
  try simp only [Act.put, List.setIfInBounds_toArray, List.set_cons_zero, List.set_cons_succ]
  refine take_dstH (i := 6) (d := 9) (v := ?_) rfl rfl (by kernel_rfl) (by kernel_rfl) (by kernel_rfl) (fun _ _ _ h => h) (by rfl) hHeld ?_ ?_
  rotate_left
  · intro wZ hSw; have hfS := KS.out wZ hSw; clear hSw; go_simp; first | (with_reducible rfl) | (rw [if_pos (by omega)]; with_reducible rfl) | skip
  try simp only [Act.put, List.setIfInBounds_toArray, List.set_cons_zero, List.set_cons_succ]
  refine take_dstH (i := 7) (d := 10) (v := ?_) rfl rfl (by kernel_rfl) (by kernel_rfl) (by kernel_rfl) (fun _ _ _ h => h) (by rfl) hHeld ?_ ?_
  rotate_left
  · intro wZ hSw; clear hSw; go_simp; first | (with_reducible rfl) | (rw [if_pos (by omega)]; with_reducible rfl) | skip
  try simp only [Act.put, List.setIfInBounds_toArray, List.set_cons_zero, List.set_cons_succ]
  refine take_dstH (i := 8) (d := 11) (v := ?_) rfl rfl (by kernel_rfl) (by kernel_rfl) (by kernel_rfl) (fun _ _ _ h => h) (by rfl) hHeld ?_ ?_
  rotate_left
  · intro wZ hSw; clear hSw; go_simp; first | (with_reducible rfl) | (rw [if_pos (by omega)]; with_reducible rfl) | skip
  try simp only [Act.put, List.setIfInBounds_toArray, List.set_cons_zero, List.set_cons_succ]
  refine take_dstH (i := 9) (d := 12) (v := ?_) rfl rfl (by kernel_rfl) (by kernel_rfl) (by kernel_rfl) (fun _ _ _ h => h) (by rfl) hHeld ?_ ?_
  rotate_left
  · intro wZ hSw; clear hSw; go_simp; first | (with_reducible rfl) | (rw [if_pos (by omega)]; with_reducible rfl) | skip
  try simp only [Act.put, List.setIfInBounds_toArray, List.set_cons_zero, List.set_cons_succ]
  refine take_dstH (i := 10) (d := 13) (v := ?_) rfl rfl (by kernel_rfl) (by kernel_rfl) (by kernel_rfl) (fun _ _ _ h => h) (by rfl) hHeld ?_ ?_
  rotate_left
  · intro wZ hSw; clear hSw; go_simp; first | (with_reducible rfl) | (rw [if_pos (by omega)]; with_reducible rfl) | skip
  try simp only [Act.put, List.setIfInBounds_toArray, List.set_cons_zero, List.set_cons_succ]
  refine take_dstH (i := 11) (d := 14) (v := ?_) rfl rfl (by kernel_rfl) (by kernel_rfl) (by kernel_rfl) (fun _ _ _ h => h) (by rfl) hHeld ?_ ?_
  rotate_left
  · intro wZ hSw; clear hSw; go_simp; first | (with_reducible rfl) | (rw [if_pos (by omega)]; with_reducible rfl) | skip
  try simp only [Act.put, List.setIfInBounds_toArray, List.set_cons_zero, List.set_cons_succ]
  refine take_dstH (i := 12) (d := 15) (v := ?_) rfl rfl (by kernel_rfl) (by kernel_rfl) (by kernel_rfl) (fun _ _ _ h => h) (by rfl) hHeld ?_ ?_
  rotate_left
  · intro wZ hSw; refine exec_load_mid 51 (.tmp 14) ?_ g 0 ?_ (u32s ws) _ (KR.out wZ hSw) Tryd.underlying51 rfl I26.out <;> rfl
  try simp only [Act.put, List.setIfInBounds_toArray, List.set_cons_zero, List.set_cons_succ]
  refine take_dstH (i := 13) (d := 16) (v := ?_) rfl rfl (by kernel_rfl) (by kernel_rfl) (by kernel_rfl) (fun _ _ _ h => h) (by rfl) hHeld ?_ ?_
  rotate_left
  · intro wZ hSw; refine exec_load_mid 51 (.global 0) ?_ 0 0 ?_ ss _ (KG.out wZ hSw) Tryd.underlying51 rfl J26.out <;> rfl
  try simp only [Act.put, List.setIfInBounds_toArray, List.set_cons_zero, List.set_cons_succ]
  refine take_dstH (i := 14) (d := 17) (v := ?_) rfl rfl (by kernel_rfl) (by kernel_rfl) (by kernel_rfl) (fun _ _ _ h => h) (by rfl) hHeld ?_ ?_
  rotate_left
  · intro wZ hSw; refine exec_eql_agg 51 51 (.tmp 15) (.tmp 16) ?_ (u32s ws).toArray ss.toArray ?_ ?_ b (guard26 _ _ _ _ _) (HEQ.out wZ) <;> rfl
  try simp only [Act.put, List.setIfInBounds_toArray, List.set_cons_zero, List.set_cons_succ]
  refine take_dstH (i := 15) (d := 18) (v := ?_) rfl rfl (by kernel_rfl) (by kernel_rfl) (by kernel_rfl) (fun _ _ _ h => h) (by rfl) hHeld ?_ ?_
  rotate_left
  · intro wZ hSw; clear hSw; go_simp; first | (with_reducible rfl) | (rw [if_pos (by omega)]; with_reducible rfl) | skip
  try simp only [Act.put, List.setIfInBounds_toArray, List.set_cons_zero, List.set_cons_succ]
  refine take_dstH (i := 16) (d := 19) (v := ?_) rfl rfl (by kernel_rfl) (by kernel_rfl) (by kernel_rfl) (fun _ _ _ h => h) (by rfl) hHeld ?_ ?_
  rotate_left
  · intro wZ hSw; clear hSw; go_simp; first | (with_reducible rfl) | (rw [if_pos (by omega)]; with_reducible rfl) | skip
  try simp only [Act.put, List.setIfInBounds_toArray, List.set_cons_zero, List.set_cons_succ]
  refine take_dstH (i := 17) (d := 2) (v := ?_) rfl rfl (by kernel_rfl) (by kernel_rfl) (by kernel_rfl) (fun _ _ _ h => h) (by rfl) hHeld ?_ ?_
  rotate_left
  · intro wZ hSw; clear hSw; go_simp; first | (with_reducible rfl) | (rw [if_pos (by omega)]; with_reducible rfl) | skip
  try simp only [Act.put, List.setIfInBounds_toArray, List.set_cons_zero, List.set_cons_succ]
  refine wpAnyH_done (by kernel_rfl) ?_ _
  go_wp2
  go_ret
  exact ⟨rfl, rfl⟩

/-- one that is not there is none -/
theorem made_nil (w : World) :
    Calls Tryd.prog 23 #[.pointer none] w fun e w' => e = .returned (.bool false) ∧ w' = w.drew := by
  go_enter Tryd.func23, Tryd.ntmps23
  go_upto_region 1 with fail
  refine wp_region_held_drew (S := fun v => Hid (Below w.heap.size w v)) (by kernel_rfl) (hide (Below.refl w.heap.size w).drew) (fun hHeld => ?_)
  refine take_dstH (i := 0) (d := 3) (v := ?_) rfl rfl (by kernel_rfl) (by kernel_rfl) (by kernel_rfl) (fun _ _ _ h => h) (by rfl) hHeld ?_ ?_
  rotate_left
  · intro wZ hSw; clear hSw; go_simp; first | (with_reducible rfl) | (rw [if_pos (by omega)]; with_reducible rfl) | skip
  try simp only [Act.put, List.setIfInBounds_toArray, List.set_cons_zero, List.set_cons_succ]
  refine take_dstH (i := 1) (d := 4) (v := ?_) rfl rfl (by kernel_rfl) (by kernel_rfl) (by kernel_rfl) (fun _ _ _ h => h) (by rfl) hHeld ?_ ?_
  rotate_left
  · intro wZ hSw; clear hSw; go_simp; first | (with_reducible rfl) | (rw [if_pos (by omega)]; with_reducible rfl) | skip
  try simp only [Act.put, List.setIfInBounds_toArray, List.set_cons_zero, List.set_cons_succ]
  refine take_dstH (i := 2) (d := 5) (v := ?_) rfl rfl (by kernel_rfl) (by kernel_rfl) (by kernel_rfl) (fun _ _ _ h => h) (by rfl) hHeld ?_ ?_
  rotate_left
  · intro wZ hSw; clear hSw; go_simp; first | (with_reducible rfl) | (rw [if_pos (by omega)]; with_reducible rfl) | skip
  try simp only [Act.put, List.setIfInBounds_toArray, List.set_cons_zero, List.set_cons_succ]
  refine skip_dstH (i := 3) (d := 6) rfl rfl (by kernel_rfl) (by kernel_rfl) (by kernel_rfl) (fun _ _ _ h => h) (by rfl) hHeld ?_
  try simp only [Act.put, List.setIfInBounds_toArray, List.set_cons_zero, List.set_cons_succ]
  refine skip_dstH (i := 4) (d := 7) rfl rfl (by kernel_rfl) (by kernel_rfl) (by kernel_rfl) (fun _ _ _ h => h) (by rfl) hHeld ?_
  try simp only [Act.put, List.setIfInBounds_toArray, List.set_cons_zero, List.set_cons_succ]
  refine skip_dstH (i := 5) (d := 8) rfl rfl (by kernel_rfl) (by kernel_rfl) (by kernel_rfl) (fun _ _ _ h => h) (by rfl) hHeld ?_
  try simp only [Act.put, List.setIfInBounds_toArray, List.set_cons_zero, List.set_cons_succ]
  refine skip_dstH (i := 6) (d := 9) rfl rfl (by kernel_rfl) (by kernel_rfl) (by kernel_rfl) (fun _ _ _ h => h) (by rfl) hHeld ?_
  try simp only [Act.put, List.setIfInBounds_toArray, List.set_cons_zero, List.set_cons_succ]
  refine skip_dstH (i := 7) (d := 10) rfl rfl (by kernel_rfl) (by kernel_rfl) (by kernel_rfl) (fun _ _ _ h => h) (by rfl) hHeld ?_
  try simp only [Act.put, List.setIfInBounds_toArray, List.set_cons_zero, List.set_cons_succ]
  refine skip_dstH (i := 8) (d := 11) rfl rfl (by kernel_rfl) (by kernel_rfl) (by kernel_rfl) (fun _ _ _ h => h) (by rfl) hHeld ?_
  try simp only [Act.put, List.setIfInBounds_toArray, List.set_cons_zero, List.set_cons_succ]
  refine skip_dstH (i := 9) (d := 12) rfl rfl (by kernel_rfl) (by kernel_rfl) (by kernel_rfl) (fun _ _ _ h => h) (by rfl) hHeld ?_
  try simp only [Act.put, List.setIfInBounds_toArray, List.set_cons_zero, List.set_cons_succ]
  refine skip_dstH (i := 10) (d := 13) rfl rfl (by kernel_rfl) (by kernel_rfl) (by kernel_rfl) (fun _ _ _ h => h) (by rfl) hHeld ?_
  try simp only [Act.put, List.setIfInBounds_toArray, List.set_cons_zero, List.set_cons_succ]
  refine skip_dstH (i := 11) (d := 14) rfl rfl (by kernel_rfl) (by kernel_rfl) (by kernel_rfl) (fun _ _ _ h => h) (by rfl) hHeld ?_
  try simp only [Act.put, List.setIfInBounds_toArray, List.set_cons_zero, List.set_cons_succ]
  refine skip_dstH (i := 12) (d := 15) rfl rfl (by kernel_rfl) (by kernel_rfl) (by kernel_rfl) (fun _ _ _ h => h) (by rfl) hHeld ?_
  try simp only [Act.put, List.setIfInBounds_toArray, List.set_cons_zero, List.set_cons_succ]
  refine skip_dstH (i := 13) (d := 16) rfl rfl (by kernel_rfl) (by kernel_rfl) (by kernel_rfl) (fun _ _ _ h => h) (by rfl) hHeld ?_
  try simp only [Act.put, List.setIfInBounds_toArray, List.set_cons_zero, List.set_cons_succ]
  refine skip_dstH (i := 14) (d := 17) rfl rfl (by kernel_rfl) (by kernel_rfl) (by kernel_rfl) (fun _ _ _ h => h) (by rfl) hHeld ?_
  try simp only [Act.put, List.setIfInBounds_toArray, List.set_cons_zero, List.set_cons_succ]
  refine skip_dstH (i := 15) (d := 18) rfl rfl (by kernel_rfl) (by kernel_rfl) (by kernel_rfl) (fun _ _ _ h => h) (by rfl) hHeld ?_
  try simp only [Act.put, List.setIfInBounds_toArray, List.set_cons_zero, List.set_cons_succ]
  refine take_dstH (i := 16) (d := 19) (v := ?_) rfl rfl (by kernel_rfl) (by kernel_rfl) (by kernel_rfl) (fun _ _ _ h => h) (by rfl) hHeld ?_ ?_
  rotate_left
  · intro wZ hSw; clear hSw; go_simp; first | (with_reducible rfl) | (rw [if_pos (by omega)]; with_reducible rfl) | skip
  try simp only [Act.put, List.setIfInBounds_toArray, List.set_cons_zero, List.set_cons_succ]
  refine take_dstH (i := 17) (d := 2) (v := ?_) rfl rfl (by kernel_rfl) (by kernel_rfl) (by kernel_rfl) (fun _ _ _ h => h) (by rfl) hHeld ?_ ?_
  rotate_left
  · intro wZ hSw; clear hSw; go_simp; first | (with_reducible rfl) | (rw [if_pos (by omega)]; with_reducible rfl) | skip
  try simp only [Act.put, List.setIfInBounds_toArray, List.set_cons_zero, List.set_cons_succ]
  refine wpAnyH_done (by kernel_rfl) ?_ _
  go_wp2
  go_ret
  exact ⟨rfl, rfl⟩

/-- a hash that has these bytes, as New and Write make it -/
def MadeH (w : World) (g : Nat) (l : List Nat) : Prop := ∃ ws rest, Arr w g 53 (hCells ws rest l.length) ∧ RepH l ws rest

theorem RepH.h8 {l ws rest : List Nat} (h : RepH l ws rest) : ws.length = 8 := by rw [h.1]; exact hashTo_length _ _
theorem RepH.words {l ws rest : List Nat} (h : RepH l ws rest) : Words ws := by rw [h.1]; exact hashTo_words _ _

theorem made_any (g : Nat) (ws rest l : List Nat) (w : World) (hA : Arr w g 53 (hCells ws rest l.length)) (hR : RepH l ws rest) (hL : Laid w) :
    Calls Tryd.prog 23 #[.pointer (some ⟨g, 0, none⟩)] w fun e w' => e = .returned (.bool true) ∧ w' = w.drew := by
  by_cases hn : 0 < l.length
  · exact made_size g ws rest l.length w hR.h8 hR.2.1 hn hA
  · have h0 : l = [] := List.eq_nil_of_length_eq_zero (by omega)
    subst h0
    exact made_words g ws rest true w hR.h8 hR.words hR.2.1 (decide_eq_true hR.1) hA hL

/-- the zero value -/
def zeroH : List Value := hCells (List.replicate 8 0) (List.replicate 64 0) 0

theorem zero49 : ∀ w : World, (zeroValue 53).run Tryd.prog w = .ok (.agg zeroH.toArray) w := (zero_of_info (n := 73) (by kernel_rfl)).1
theorem made_zero (g : Nat) (w : World) (hA : Arr w g 53 zeroH) (hL : Laid w) :
    Calls Tryd.prog 23 #[.pointer (some ⟨g, 0, none⟩)] w fun e w' => e = .returned (.bool false) ∧ w' = w.drew :=
  made_words g (List.replicate 8 0) (List.replicate 64 0) false w (by simp) (by intro x hx; rw [List.eq_of_mem_replicate hx]; omega) (by simp) (by decide) hA hL

/-- a hash, of whatever make: one that has these bytes; or one that is not there, or is the zero value: as one without bytes -/
def IsH (w : World) (v : Value) (l : List Nat) : Prop :=
  (∃ g, v = .pointer (some ⟨g, 0, none⟩) ∧ MadeH w g l) ∨ l = [] ∧ (v = .pointer none ∨ ∃ g, v = .pointer (some ⟨g, 0, none⟩) ∧ Arr w g 53 zeroH)

theorem MadeH.kept {w w' : World} {g : Nat} {l : List Nat} (h : MadeH w g l) (hb : Below w.heap.size w w') : MadeH w' g l := by
  obtain ⟨ws, rest, hA, hR⟩ := h
  exact ⟨ws, rest, hA.kept hb, hR⟩
theorem MadeH.lt {w : World} {g : Nat} {l : List Nat} (h : MadeH w g l) : g < w.heap.size := by
  obtain ⟨ws, rest, hA, _⟩ := h
  exact hA.lt
theorem IsH.kept {w w' : World} {v : Value} {l : List Nat} (h : IsH w v l) (hb : Below w.heap.size w w') : IsH w' v l := by
  rcases h with ⟨g, hv, h⟩ | ⟨hl, h⟩
  · exact Or.inl ⟨g, hv, h.kept hb⟩
  · rcases h with h | ⟨g, hv, h⟩
    · exact Or.inr ⟨hl, Or.inl h⟩
    · exact Or.inr ⟨hl, Or.inr ⟨g, hv, h.kept hb⟩⟩

set_option maxHeartbeats 1000000 in
set_option maxRecDepth 100000 in
theorem copy_made (g : Nat) (l : List Nat) (w : World) (hM : MadeH w g l) (hL : Laid w) :
    Calls Tryd.prog 25 #[.pointer (some ⟨g, 0, none⟩)] w fun e w' => e = .returned (.pointer (some ⟨w.heap.size, 0, none⟩)) ∧ MadeH w' w.heap.size l ∧ Below w.heap.size w w' := by
  obtain ⟨ws, rest, hA, hR⟩ := hM
  have HM := hide (made_any g ws rest l w hA hR hL)
  have HA := hide hA
  have HR := hide hR
  have hl := hR.h8
  have hrl := hR.2.1
  have HI : Hid ((Tryd.prog.info? 53).map (·.size) = some (hCells ws rest l.length).toArray.size) := by show _ = _; rw [info49]; simp [hCells, u32s, u8s, hl, hrl]
  have HO : Hid (zeroH.toArray.size = (hCells ws rest l.length).toArray.size) := by show _ = _; simp [zeroH, hCells, u32s, u8s, hl, hrl]
  clear hA hR hL hl hrl
  go_enter Tryd.func25, Tryd.ntmps25
  go_wp2_with fail
  refine HM.out.mono ?_
  rintro e w1 ⟨rfl, hw1⟩
  have HA1 := hide (show Arr w1 g 53 (hCells ws rest l.length) from by rw [hw1]; exact HA.out)
  have hs1 : Hid (w1.heap.size = w.heap.size) := by show _ = _; rw [hw1]; rfl
  have B1 := hide (show Below w.heap.size w w1 from by rw [hw1]; exact (Below.refl _ _).drew)
  clear hw1 HM HA
  have hzv := zero49
  generalize hC0 : zeroH.toArray = C0 at *
  have HC0 := hide hC0
  clear hC0
  go_wp2_with (first
    | (refine wpList_load_row rfl 53 _ rfl g rfl 53 _ (0, 0) _ HA1.out Tryd.underlying53 rfl HI.out ?_)
    | (refine wpList_store_row rfl 53 _ _ rfl w1.heap.size _ rfl rfl 53 _ (heap_alloc_new w1 _) HI.out HO.out (one_hCells _ _ _) ?_))
  go_ret
  refine ⟨by rw [hs1.out]; rfl, ?_, ?_⟩
  · rw [← hs1.out]
    exact ⟨ws, rest, (Arr.new w1 53 C0.toList).row _, HR.out⟩
  · exact below_setRow (B1.out.alloc B1.out.size _) (by rw [hs1.out]; exact Nat.le_refl _) (by simp) _

theorem made_new {w : World} : MadeH (w.alloc (.cells (hCells startT (List.replicate 64 0) 0).toArray 53)) w.heap.size [] :=
  ⟨startT, List.replicate 64 0, Arr.new w _ _, RepH.none⟩

set_option maxHeartbeats 1000000 in
set_option maxRecDepth 100000 in
theorem copy_new (v : Value) (w : World) (HM : Hid (Calls Tryd.prog 23 #[v] w fun e w' => e = .returned (.bool false) ∧ w' = w.drew)) (hL : Laid w) :
    Calls Tryd.prog 25 #[v] w fun e w' => e = .returned (.pointer (some ⟨w.heap.size, 0, none⟩)) ∧ MadeH w' w.heap.size [] ∧ Below w.heap.size w w' := by
  have HL := hide hL
  clear hL
  go_enter Tryd.func25, Tryd.ntmps25
  go_wp2_with fail
  refine HM.out.mono ?_
  rintro e w1 ⟨rfl, hw1⟩
  have hs1 : Hid (w1.heap.size = w.heap.size) := by show _ = _; rw [hw1]; rfl
  have B1 := hide (show Below w.heap.size w w1 from by rw [hw1]; exact (Below.refl _ _).drew)
  have HL1 := hide (HL.out.kept B1.out)
  clear hw1 HM
  go_wp2_with fail
  refine (new_any w1 HL1.out).mono ?_
  rintro e w2 ⟨rfl, hw2⟩
  have M2 := hide (show MadeH w2 w1.heap.size [] from by rw [hw2]; exact made_new)
  have B2 := hide (show Below w.heap.size w w2 from by rw [hw2]; exact B1.out.alloc B1.out.size _)
  clear hw2
  go_wp2
  go_ret
  rw [hs1.out] at M2
  exact ⟨by rw [hs1.out]; rfl, M2.out, B2.out⟩

theorem copy_is (v : Value) (l : List Nat) (w : World) (hI : IsH w v l) (hL : Laid w) :
    Calls Tryd.prog 25 #[v] w fun e w' => e = .returned (.pointer (some ⟨w.heap.size, 0, none⟩)) ∧ MadeH w' w.heap.size l ∧ Below w.heap.size w w' := by
  rcases hI with ⟨g, rfl, hM⟩ | ⟨rfl, rfl | ⟨g, rfl, hA⟩⟩
  · exact copy_made g l w hM hL
  · exact copy_new _ w (hide (made_nil w)) hL
  · exact copy_new _ w (hide (made_zero g w hA hL)) hL

end Go.Proofs.YtfopjobcjafgaabDoor
