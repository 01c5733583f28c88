/-
  Walks: a key's rounds by all bytes swapped; a block hidden.
-/
import Derived.Test.YtkafnkofanocpaaEH
namespace Go.Proofs.Ytkafnkofanocpaa
open Go.RowKit

theorem sw_lt (i : Nat) : swT.getD i 0 < 256 := getD_lt swT_lt (by omega) i
theorem rdF_length {s key : List Nat} (h : key.length = 16) : ∀ j, (rdF s key j).length = 16
  | 0 => h
  | _ + 1 => nxL_length _ _ _
theorem range16_at (g : Nat → Nat) (i : Nat) : ((List.range 16).map g).getD i 0 = if i < 16 then g i else 0 := by
  by_cases h : i < 16
  · simp [List.getD, h]
  · simp [List.getD, h]
theorem rdF_lt {s key : List Nat} (hs : ∀ i, s.getD i 0 < 256) (hk : ∀ i, key.getD i 0 < 256) : ∀ j i, (rdF s key j).getD i 0 < 256
  | 0, i => hk i
  | j + 1, i => by
    show (nxL s (rdF s key j) (rcF j)).getD i 0 < 256
    rw [nxL, range16_at]
    split
    · exact nC_lt (colF_lt hs (rcF_lt j)) (rdF_lt hs hk j) _ _
    · omega

set_option maxHeartbeats 8000000 in
set_option maxRecDepth 100000 in
theorem Rounds_of (key L : List Nat) (w : World) (kl : key.length = 16) (hk : ∀ i, key.getD i 0 < 256) (hL : L = flF (rdF swT key) 11) :
    Calls Try.prog 16 #[.agg (u8s key).toArray] w fun e w' => e = .returned (.agg (u8s L).toArray) ∧ Below w.heap.size w w' := by
  have lL : L.length = 176 := by rw [hL, flF_length (rdF_length kl)]
  have HRD := hide (fun v => rounds_of key swT L (rdF swT key) v kl swT_length sw_lt rfl (fun _ => rfl) (rdF_length kl) (rdF_lt sw_lt hk) hL)
  have HSW := hide swaps_any
  have IK : Hid ((Try.prog.info? 26).map (·.size) = some (u8s key).length) := by show _ = _; rw [info16, u8s_length, kl]
  have T1 : Hid ((Try.prog.info? 27).map (·.size) = some (u8s L).toArray.size) := by show _ = _; rw [info176]; simp [u8s, lL]
  have T2 : Hid ((u8s z176).toArray.size = (u8s L).toArray.size) := by show _ = _; simp [u8s, lL, z176]
  have O2 := hide (one_u8s L)
  have Z1 := zero176
  have A0 : Hid (Arr ((w.alloc (Obj.cells (u8s key).toArray 26)).alloc (Obj.cells (u8s z176).toArray 27)) w.heap.size 26 (u8s key)) := (Arr.new w _ (u8s key)).alloc _
  have A1 : Hid (Arr ((w.alloc (Obj.cells (u8s key).toArray 26)).alloc (Obj.cells (u8s z176).toArray 27)) (w.heap.size + 1) 27 (u8s z176)) := Arr.newAt (w.alloc _) _ (u8s z176) _ (by simp)
  have AB : Hid (Below w.heap.size w ((w.alloc (Obj.cells (u8s key).toArray 26)).alloc (Obj.cells (u8s z176).toArray 27))) := ((Below.refl _ _).alloc (Nat.le_refl _) _).alloc (by simp) _
  clear kl hk hL lL
  generalize hW1 : (w.alloc (Obj.cells (u8s key).toArray 26)).alloc (Obj.cells (u8s z176).toArray 27) = w1 at *
  generalize swT = SW at *
  go_enter Try.func16, Try.ntmps16
  go_wp2_with fail
  try rw [hW1]
  clear hW1
  refine wp_region_held_drew (S := fun w' => Hid (Arr w' w.heap.size 26 (u8s key))) (by kernel_rfl) (A0) (fun hHeld => ?_)
  refine take_dstH (i := 0) (d := 3) (v := ?_) rfl rfl (by kernel_rfl) (by kernel_rfl) (by kernel_rfl) (fun _ _ _ h => h) (by rfl) hHeld ?_ ?_
  rotate_left
  · intro wZ hSw; refine exec_load_all 26 (.tmp 1) ?_ w.heap.size ?_ 26 (u8s key) _ hSw.out Try.underlying26 rfl IK.out <;> rfl
  try simp only [Act.put, List.setIfInBounds_toArray, List.set_cons_zero, List.set_cons_succ]
  refine wpAnyH_ready (rs := [1]) (by kernel_rfl) (by simp) ?_
  refine (AllReadyH.cons rfl (fun K hK => ?_) AllReadyH.nil)
  go_simp
  refine (HSW.out _).mono ?_; rintro e wa ⟨rfl, hba⟩; have HBa := hide hba; clear hba
  go_wp2_with fail
  refine hK.out _ _ ?_ (fun hHeld => ?_)
  · exact (fun h : Hid _ => hide (h.out.kept HBa.out)) hHeld
  clear hK K
  try simp only [Act.put, List.setIfInBounds_toArray, List.set_cons_zero, List.set_cons_succ]
  refine wpAnyH_ready (rs := [2]) (by kernel_rfl) (by simp) ?_
  refine (AllReadyH.cons rfl (fun K hK => ?_) AllReadyH.nil)
  go_simp
  refine (HRD.out _).mono ?_; rintro e wb ⟨rfl, hbb⟩; have HBb := hide hbb; clear hbb
  go_wp2_with fail
  refine hK.out _ _ ?_ (fun hHeld => ?_)
  · exact (fun h : Hid _ => hide (h.out.kept HBb.out)) hHeld
  clear hK K
  try simp only [Act.put, List.setIfInBounds_toArray, List.set_cons_zero, List.set_cons_succ]
  refine wpAnyH_ready (rs := [3]) (by kernel_rfl) (by simp) ?_
  refine (AllReadyH.cons rfl (fun K hK => ?_) AllReadyH.nil)
  have HF := hide ((Arr.kept (w := World.drew w1) A1.out HBa.out).kept HBb.out); have HG := hide ((AB.out.drew.trans (HBa.out.mono AB.out.drew.size)).trans (HBb.out.mono (AB.out.drew.trans (HBa.out.mono AB.out.drew.size)).size)); refine wp_store_dst rfl 27 (.tmp 2) (.tmp 5) rfl (w.heap.size + 1) _ rfl rfl 27 _ HF.out T1.out T2.out O2.out ?_
  refine hK.out _ _ ?_ (fun hHeld => ?_)
  · exact (fun h : Hid _ => hide (h.out.rowOther _ _ (by omega))) hHeld
  clear hK K
  try simp only [Act.put, List.setIfInBounds_toArray, List.set_cons_zero, List.set_cons_succ]
  refine wpAnyH_done (by kernel_rfl) ?_ _
  go_wp2
  exact bodyPost_ret (v := .agg (u8s L).toArray) (results_cell_row Try.results16 _ _ (w.heap.size + 1) 27 _ (0, 0) _ rfl (HF.out.row _) Try.underlying27 rfl T1.out) rfl ⟨rfl, below_setRow HG.out (by omega) HF.out.lt _⟩

end Go.Proofs.Ytkafnkofanocpaa
