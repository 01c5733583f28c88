/-
  A walk: the law ShaBlocks: both sides take any block into any words alike.
-/
import Derived.Test.YtfopjobcjafgaaaDoorHE
namespace Go.Proofs.YtfopjobcjafgaaaDoor
open Go.RowKit

theorem run_all64 (w : World) (g : Nat) : (Instr.sliceAt 27 (.pointer (some ⟨g, 0, none⟩)) none none none).run Tryd.prog w = .ok (.slice (some ⟨g, 0, none⟩) 64 64) w := by
  have hl : Tryd.prog.arrayLen 27 = 64 := by simp [Program.arrayLen, Tryd.underlying27]
  have he : Tryd.prog.elem 27 = 5 := by simp [Program.elem, Tryd.underlying27]
  have ht : Tryd.prog.underlying 27 = some (.array (Tryd.prog.arrayLen 27) (Tryd.prog.elem 27)) := by rw [hl, he]; exact Tryd.underlying27
  rw [run_sliceAt_array_all w 27 ⟨g, 0, none⟩ ht, he, size5, hl]
  simp [Result.andThen, slicedAt, Addr.add_mid]

set_option maxHeartbeats 4000000 in
set_option maxRecDepth 100000 in
theorem blocks_walk (h b : List Nat) (W : World) (hl : h.length = 8) (hw : Words h) (bl : b.length = 64) (hb : BytesN b) (hL : Laid W) :
    Calls Tryd.prog 4 #[.agg (u32s h).toArray, .agg (u8s b).toArray] W fun e W' => e = .returned (.bool true) ∧ Below W.heap.size W W' := by
  have hL2 := hL.size
  have HL := hide hL
  have HB := hide (fun (v : World) (hv : Laid v) => block_any h b v hl hw bl hb hv)
  have HR := hide (fun (v : World) (g : Nat) (hv : Bts v g 0 b) => refblock_any h b g 0 64 v hl hw bl hb (Nat.le_refl _) hv)
  have heq := run_eq_words (blockF h b) (blockF h b) (blockF_length _ _) (blockF_length _ _) (blockF_words _ _) (blockF_words _ _)
  rw [decide_eq_true rfl] at heq
  have HEQ := hide heq
  clear heq
  have I26 : Hid ((Tryd.prog.info? 26).map (·.size) = some (u32s h).toArray.size) := by show _ = _; rw [info26]; simp [u32s, hl]
  have I27 : Hid ((Tryd.prog.info? 27).map (·.size) = some (u8s b).toArray.size) := by show _ = _; rw [info27]; simp [u8s, bl]
  have BL := hide bl
  clear hL hl hw bl hb
  generalize blockF h b = res at *
  go_enter Tryd.func4, Tryd.ntmps4
  go_upto_region 1 with fail
  have A0 : Hid (Arr ((W.alloc (Obj.cells (u32s h).toArray 26)).alloc (Obj.cells (u8s b).toArray 27)) W.heap.size 26 (u32s h)) := (Arr.new W _ _).alloc _
  have A1 : Hid (Arr ((W.alloc (Obj.cells (u32s h).toArray 26)).alloc (Obj.cells (u8s b).toArray 27)) (W.heap.size + 1) 27 (u8s b)) := Arr.newAt (W.alloc _) _ _ _ (by simp)
  have B0 : Hid (Below W.heap.size W ((W.alloc (Obj.cells (u32s h).toArray 26)).alloc (Obj.cells (u8s b).toArray 27))) := ((Below.refl _ _).alloc (Nat.le_refl _) _).alloc (by simp) _
  generalize ((W.alloc (Obj.cells (u32s h).toArray 26)).alloc (Obj.cells (u8s b).toArray 27)) = w1 at *
  have hsl := fun v => run_all64 v (W.heap.size + 1)
  have KA : Hid (∀ v : World, Hid (Below w1.heap.size w1 v) → Arr v W.heap.size 26 (u32s h)) := fun v hv => A0.out.kept hv.out
  have KB : Hid (∀ v : World, Hid (Below w1.heap.size w1 v) → Arr v (W.heap.size + 1) 27 (u8s b)) := fun v hv => A1.out.kept hv.out
  have KT : Hid (∀ v : World, Hid (Below w1.heap.size w1 v) → Bts v (W.heap.size + 1) 0 b) := fun v hv i hi => by rw [Nat.zero_add]; exact ((KB.out v hv).cell i).trans (u8s_at hi)
  have KL : Hid (∀ v : World, Hid (Below w1.heap.size w1 v) → Laid v) := fun v hv => (HL.out.keptB (B := W.heap.size) hL2 B0.out).kept hv.out
  refine wp_region_held_drew (S := fun w' => Hid (Below w1.heap.size w1 w')) (by kernel_rfl) (hide (Below.refl w1.heap.size w1).drew) (fun hHeld => ?_)
  refine take_dstH (i := 0) (d := 5) (v := ?_) rfl rfl (by kernel_rfl) (by kernel_rfl) (by kernel_rfl) (fun _ _ _ h => h) (by rfl) hHeld ?_ ?_
  rotate_left
  · intro wZ hSw; refine exec_load_row 26 (.tmp 2) ?_ W.heap.size ?_ 26 _ (0, 0) _ (KA.out wZ hSw) Tryd.underlying26 rfl I26.out <;> rfl
  try simp only [Act.put, List.setIfInBounds_toArray, List.set_cons_zero, List.set_cons_succ]
  refine take_dstH (i := 1) (d := 6) (v := ?_) rfl rfl (by kernel_rfl) (by kernel_rfl) (by kernel_rfl) (fun _ _ _ h => h) (by rfl) hHeld ?_ ?_
  rotate_left
  · intro wZ hSw; refine exec_load_row 27 (.tmp 3) ?_ (W.heap.size + 1) ?_ 27 _ (0, 0) _ (KB.out wZ hSw) Tryd.underlying27 rfl I27.out <;> rfl
  try simp only [Act.put, List.setIfInBounds_toArray, List.set_cons_zero, List.set_cons_succ]
  refine take_dstH (i := 3) (d := 8) (v := ?_) rfl rfl (by kernel_rfl) (by kernel_rfl) (by kernel_rfl) (fun _ _ _ h => h) (by rfl) hHeld ?_ ?_
  rotate_left
  · intro wZ hSw; refine exec_load_row 26 (.tmp 2) ?_ W.heap.size ?_ 26 _ (0, 0) _ (KA.out wZ hSw) Tryd.underlying26 rfl I26.out <;> rfl
  try simp only [Act.put, List.setIfInBounds_toArray, List.set_cons_zero, List.set_cons_succ]
  refine take_dstH (i := 4) (d := 9) (v := ?_) rfl rfl (by kernel_rfl) (by kernel_rfl) (by kernel_rfl) (fun _ _ _ h => h) (by rfl) hHeld ?_ ?_
  rotate_left
  · intro wZ hSw; clear hSw; go_simp; first | (with_reducible rfl) | (rw [if_pos (by omega)]; with_reducible rfl) | skip
  try simp only [Act.put, List.setIfInBounds_toArray, List.set_cons_zero, List.set_cons_succ]
  refine wpAnyH_ready (rs := [2]) (by kernel_rfl) (by simp) ?_
  refine (AllReadyH.cons rfl (fun K hK => ?_) AllReadyH.nil)
  go_simp
  refine (HB.out _ (KL.out _ hHeld)).mono ?_; rintro e wa ⟨rfl, hba⟩; have HBa : Hid (Below w1.heap.size w1 wa) := (Hid.out hHeld).trans (hba.mono (Hid.out hHeld).size); clear hba
  go_wp2_with fail
  refine hK.out _ _ ?_ (fun hHeld => ?_)
  · exact HBa
  clear hK K
  try simp only [Act.put, List.setIfInBounds_toArray, List.set_cons_zero, List.set_cons_succ]
  refine wpAnyH_ready (rs := [5]) (by kernel_rfl) (by simp) ?_
  refine (AllReadyH.cons rfl (fun K hK => ?_) AllReadyH.nil)
  go_simp
  refine (turns_any _).mono ?_; rintro e wa ⟨rfl, hba⟩; have HBb : Hid (Below w1.heap.size w1 wa) := (Hid.out hHeld).trans (hba.mono (Hid.out hHeld).size); clear hba
  go_wp2_with fail
  refine hK.out _ _ ?_ (fun hHeld => ?_)
  · exact HBb
  clear hK K
  try simp only [Act.put, List.setIfInBounds_toArray, List.set_cons_zero, List.set_cons_succ]
  refine wpAnyH_ready (rs := [6]) (by kernel_rfl) (by simp) ?_
  refine (AllReadyH.cons rfl (fun K hK => ?_) AllReadyH.nil)
  go_simp
  refine (HR.out _ (W.heap.size + 1) (KT.out _ hHeld)).mono ?_; rintro e wa ⟨rfl, hba⟩; have HBc : Hid (Below w1.heap.size w1 wa) := (Hid.out hHeld).trans (hba.mono (Hid.out hHeld).size); clear hba
  go_wp2_with fail
  refine hK.out _ _ ?_ (fun hHeld => ?_)
  · exact HBc
  clear hK K
  try simp only [Act.put, List.setIfInBounds_toArray, List.set_cons_zero, List.set_cons_succ]
  refine take_dstH (i := 7) (d := 12) (v := ?_) rfl rfl (by kernel_rfl) (by kernel_rfl) (by kernel_rfl) (fun _ _ _ h => h) (by rfl) hHeld ?_ ?_
  rotate_left
  · intro wZ hSw; refine exec_eql_agg 26 26 (.tmp 7) (.tmp 11) ?_ (u32s res).toArray (u32s res).toArray ?_ ?_ true (guard26 _ _ _ _ _) (HEQ.out wZ) <;> rfl
  try simp only [Act.put, List.setIfInBounds_toArray, List.set_cons_zero, List.set_cons_succ]
  refine take_dstH (i := 8) (d := 13) (v := ?_) rfl rfl (by kernel_rfl) (by kernel_rfl) (by kernel_rfl) (fun _ _ _ h => h) (by rfl) hHeld ?_ ?_
  rotate_left
  · intro wZ hSw; clear hSw; go_simp; first | (with_reducible rfl) | (rw [if_pos (by omega)]; with_reducible rfl) | skip
  try simp only [Act.put, List.setIfInBounds_toArray, List.set_cons_zero, List.set_cons_succ]
  refine wpAnyH_ready (rs := [9]) (by kernel_rfl) (by simp) ?_
  refine (AllReadyH.cons rfl (fun K hK => ?_) AllReadyH.nil)
  go_simp
  refine (known_any _ (KL.out _ hHeld)).mono ?_; rintro e wa ⟨rfl, hba⟩; have HBd : Hid (Below w1.heap.size w1 wa) := (Hid.out hHeld).trans (hba.mono (Hid.out hHeld).size); clear hba
  go_wp2_with fail
  refine hK.out _ _ ?_ (fun hHeld => ?_)
  · exact HBd
  clear hK K
  try simp only [Act.put, List.setIfInBounds_toArray, List.set_cons_zero, List.set_cons_succ]
  refine take_dstH (i := 10) (d := 15) (v := ?_) rfl rfl (by kernel_rfl) (by kernel_rfl) (by kernel_rfl) (fun _ _ _ h => h) (by rfl) hHeld ?_ ?_
  rotate_left
  · intro wZ hSw; clear hSw; go_simp; first | (with_reducible rfl) | (rw [if_pos (by omega)]; with_reducible rfl) | skip
  try simp only [Act.put, List.setIfInBounds_toArray, List.set_cons_zero, List.set_cons_succ]
  refine take_dstH (i := 11) (d := 4) (v := ?_) rfl rfl (by kernel_rfl) (by kernel_rfl) (by kernel_rfl) (fun _ _ _ h => h) (by rfl) hHeld ?_ ?_
  rotate_left
  · intro wZ hSw; clear hSw; go_simp; first | (with_reducible rfl) | (rw [if_pos (by omega)]; with_reducible rfl) | skip
  try simp only [Act.put, List.setIfInBounds_toArray, List.set_cons_zero, List.set_cons_succ]
  refine wpAnyH_done (by kernel_rfl) ?_ _
  all_goals
    go_wp2
    go_ret
    exact ⟨rfl, B0.out.trans (HBd.out.mono B0.out.size)⟩

end Go.Proofs.YtfopjobcjafgaaaDoor
