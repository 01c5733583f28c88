/-
  Several texts, joined: IX, IY, IZ.
-/
import Derived.Test.YtbmjlofehbbkbaaDoorKI
import Derived.Test.YtbmjlofehbbkbaaDoorKH

/- The law's own functions of LinkPlays: stands, hear. -/
namespace Go.Proofs.YtbmjlofehbbkbaaDoor
open Go.RowKit

/-- a link and the document's -/
structure SdS (w wx : World) (g k : Nat) (L : Lk) (s t : Int) : Prop where
  l : LkAt wx g L
  r : RL wx k L s t
  b : Below w.heap.size w wx
theorem SdS.kept {w wx w' : World} {g k : Nat} {L : Lk} {s t : Int} (h : SdS w wx g k L s t) (hb : Below wx.heap.size wx w') : SdS w w' g k L s t := ⟨h.l.kept hb, h.r.kept hb, h.b.trans (hb.mono h.b.size)⟩

set_option maxHeartbeats 8000000 in
set_option maxRecDepth 100000 in
theorem stands_ok (g k : Nat) (L : Lk) (s t : Int) (w : World) (hL : LkAt w g L) (hR : RL w k L s t) : Calls Tryd.prog 13 #[.pointer (some ⟨g, 0, none⟩), .pointer (some ⟨k, 0, none⟩)] w fun e w' => e = .returned (.bool true) ∧ Below w.heap.size w w' := by
  have H0 : Hid (SdS w w g k L s t) := ⟨hL, hR, Below.refl _ _⟩
  have HE : Hid (∀ v : World, (Op.equalIn 10000 36 (.agg (meC L.m).toArray) (.agg (meC L.m).toArray)).run Tryd.prog v = .ok true v) := fun v => by
    have h := run_eq_me L.m L.m v
    simpa using h
  clear hL hR
  go_enter Tryd.func13, Tryd.ntmps13
  go_wp2_with fail
  refine (newest_at _ g L H0.out.l).mono ?_
  rintro r w1 ⟨rfl, hb⟩
  have H1 := hide (H0.out.kept hb)
  clear hb H0
  go_upto_region 2 with fail
  have c1 : Hid (∀ v, Hid (SdS w v g k L s t) → v.cell? ⟨k, 1, none⟩ = some (.int .u64 (L.next : Int))) := fun v hv => hv.out.r.a.cell 1
  have c2 : Hid (∀ v, Hid (SdS w v g k L s t) → v.cell? ⟨k, 2, none⟩ = some (.int .i64 L.addr)) := fun v hv => hv.out.r.a.cell 2
  have c3 : Hid (∀ v, Hid (SdS w v g k L s t) → v.cell? ⟨k, 3, none⟩ = some (.bool L.heard)) := fun v hv => hv.out.r.a.cell 3
  have c4 : Hid (∀ v, Hid (SdS w v g k L s t) → v.cell? ⟨k, 4, none⟩ = some (.int .u64 (L.newest : Int))) := fun v hv => hv.out.r.a.cell 4
  refine wp_region_held_drew (S := fun v => Hid (SdS w v g k L s t)) (by kernel_rfl) (hide (H1.out.kept (Below.refl _ _).drew)) (fun hHeld => ?_)
  refine take_dstH (i := 0) (d := 12) (v := ?_) rfl rfl (by kernel_rfl) (by kernel_rfl) (by kernel_rfl) (fun _ _ _ h => h) (by rfl) hHeld ?_ ?_
  rotate_left
  · intro wZ hSw; clear hSw; go_simp; first | (with_reducible rfl) | (rw [if_pos (by omega)]; with_reducible rfl) | skip
  try simp only [Act.put, List.setIfInBounds_toArray, List.set_cons_zero, List.set_cons_succ]
  refine take_dstH (i := 2) (d := 14) (v := ?_) rfl rfl (by kernel_rfl) (by kernel_rfl) (by kernel_rfl) (fun _ _ _ h => h) (by rfl) hHeld ?_ ?_
  rotate_left
  · intro wZ hSw; clear hSw; go_simp; first | (with_reducible rfl) | (rw [if_pos (by omega)]; with_reducible rfl) | skip
  try simp only [Act.put, List.setIfInBounds_toArray, List.set_cons_zero, List.set_cons_succ]
  refine take_dstH (i := 3) (d := 15) (v := ?_) rfl rfl (by kernel_rfl) (by kernel_rfl) (by kernel_rfl) (fun _ _ _ h => h) (by rfl) hHeld ?_ ?_
  rotate_left
  · intro wZ hSw; clear hSw; go_simp; first | (with_reducible rfl) | (rw [if_pos (by omega)]; with_reducible rfl) | skip
  try simp only [Act.put, List.setIfInBounds_toArray, List.set_cons_zero, List.set_cons_succ]
  refine take_dstH (i := 4) (d := 16) (v := ?_) rfl rfl (by kernel_rfl) (by kernel_rfl) (by kernel_rfl) (fun _ _ _ h => h) (by rfl) hHeld ?_ ?_
  rotate_left
  · intro wZ hSw; clear hSw; go_simp; first | (with_reducible rfl) | (rw [if_pos (by omega)]; with_reducible rfl) | skip
  try simp only [Act.put, List.setIfInBounds_toArray, List.set_cons_zero, List.set_cons_succ]
  refine take_dstH (i := 5) (d := 17) (v := ?_) rfl rfl (by kernel_rfl) (by kernel_rfl) (by kernel_rfl) (fun _ _ _ h => h) (by rfl) hHeld ?_ ?_
  rotate_left
  · intro wZ hSw; have hfS := c2.out wZ hSw; clear hSw; go_simp; first | (with_reducible rfl) | (rw [if_pos (by omega)]; with_reducible rfl) | skip
  try simp only [Act.put, List.setIfInBounds_toArray, List.set_cons_zero, List.set_cons_succ]
  refine wpAnyH_ready (rs := [1]) (by kernel_rfl) (by simp) ?_
  refine (AllReadyH.cons rfl (fun K hK => ?_) AllReadyH.nil)
  go_simp
  refine Calls.mono (addr_at _ g L hHeld.out.l) ?_; rintro e wa ⟨rfl, rfl⟩
  go_wp2_with fail
  refine hK.out _ _ ?_ (fun hHeld => ?_)
  · exact hHeld
  clear hK K
  try simp only [Act.put, List.setIfInBounds_toArray, List.set_cons_zero, List.set_cons_succ]
  refine take_dstH (i := 6) (d := 18) (v := ?_) rfl rfl (by kernel_rfl) (by kernel_rfl) (by kernel_rfl) (fun _ _ _ h => h) (by rfl) hHeld ?_ ?_
  rotate_left
  · intro wZ hSw; clear hSw; go_simp; first | (with_reducible rfl) | (rw [if_pos (by omega)]; with_reducible rfl) | skip
  try simp only [Act.put, List.setIfInBounds_toArray, List.set_cons_zero, List.set_cons_succ]
  refine take_dstH (i := 7) (d := 19) (v := ?_) rfl rfl (by kernel_rfl) (by kernel_rfl) (by kernel_rfl) (fun _ _ _ h => h) (by rfl) hHeld ?_ ?_
  rotate_left
  · intro wZ hSw; clear hSw; go_simp; first | (with_reducible rfl) | (rw [if_pos (by omega)]; with_reducible rfl) | skip
  try simp only [Act.put, List.setIfInBounds_toArray, List.set_cons_zero, List.set_cons_succ]
  refine take_dstH (i := 8) (d := 20) (v := ?_) rfl rfl (by kernel_rfl) (by kernel_rfl) (by kernel_rfl) (fun _ _ _ h => h) (by rfl) hHeld ?_ ?_
  rotate_left
  · intro wZ hSw; clear hSw; go_simp; first | (with_reducible rfl) | (rw [if_pos (by omega)]; with_reducible rfl) | skip
  try simp only [Act.put, List.setIfInBounds_toArray, List.set_cons_zero, List.set_cons_succ]
  refine take_dstH (i := 10) (d := 22) (v := ?_) rfl rfl (by kernel_rfl) (by kernel_rfl) (by kernel_rfl) (fun _ _ _ h => h) (by rfl) hHeld ?_ ?_
  rotate_left
  · intro wZ hSw; clear hSw; go_simp; first | (with_reducible rfl) | (rw [if_pos (by omega)]; with_reducible rfl) | skip
  try simp only [Act.put, List.setIfInBounds_toArray, List.set_cons_zero, List.set_cons_succ]
  refine take_dstH (i := 11) (d := 23) (v := ?_) rfl rfl (by kernel_rfl) (by kernel_rfl) (by kernel_rfl) (fun _ _ _ h => h) (by rfl) hHeld ?_ ?_
  rotate_left
  · intro wZ hSw; clear hSw; go_simp; first | (with_reducible rfl) | (rw [if_pos (by omega)]; with_reducible rfl) | skip
  try simp only [Act.put, List.setIfInBounds_toArray, List.set_cons_zero, List.set_cons_succ]
  refine take_dstH (i := 12) (d := 24) (v := ?_) rfl rfl (by kernel_rfl) (by kernel_rfl) (by kernel_rfl) (fun _ _ _ h => h) (by rfl) hHeld ?_ ?_
  rotate_left
  · intro wZ hSw; clear hSw; go_simp; first | (with_reducible rfl) | (rw [if_pos (by omega)]; with_reducible rfl) | skip
  try simp only [Act.put, List.setIfInBounds_toArray, List.set_cons_zero, List.set_cons_succ]
  refine take_dstH (i := 13) (d := 25) (v := ?_) rfl rfl (by kernel_rfl) (by kernel_rfl) (by kernel_rfl) (fun _ _ _ h => h) (by rfl) hHeld ?_ ?_
  rotate_left
  · intro wZ hSw; have hfS := c1.out wZ hSw; clear hSw; go_simp; first | (with_reducible rfl) | (rw [if_pos (by omega)]; with_reducible rfl) | skip
  try simp only [Act.put, List.setIfInBounds_toArray, List.set_cons_zero, List.set_cons_succ]
  refine wpAnyH_ready (rs := [9]) (by kernel_rfl) (by simp) ?_
  refine (AllReadyH.cons rfl (fun K hK => ?_) AllReadyH.nil)
  go_simp
  refine Calls.mono (next_at _ g L hHeld.out.l) ?_; rintro e wa ⟨rfl, rfl⟩
  go_wp2_with fail
  refine hK.out _ _ ?_ (fun hHeld => ?_)
  · exact hHeld
  clear hK K
  try simp only [Act.put, List.setIfInBounds_toArray, List.set_cons_zero, List.set_cons_succ]
  refine take_dstH (i := 14) (d := 26) (v := ?_) rfl rfl (by kernel_rfl) (by kernel_rfl) (by kernel_rfl) (fun _ _ _ h => h) (by rfl) hHeld ?_ ?_
  rotate_left
  · intro wZ hSw; clear hSw; go_simp; first | (with_reducible rfl) | (rw [if_pos (by omega)]; with_reducible rfl) | skip
  try simp only [Act.put, List.setIfInBounds_toArray, List.set_cons_zero, List.set_cons_succ]
  refine take_dstH (i := 15) (d := 27) (v := ?_) rfl rfl (by kernel_rfl) (by kernel_rfl) (by kernel_rfl) (fun _ _ _ h => h) (by rfl) hHeld ?_ ?_
  rotate_left
  · intro wZ hSw; clear hSw; go_simp; first | (with_reducible rfl) | (rw [if_pos (by omega)]; with_reducible rfl) | skip
  try simp only [Act.put, List.setIfInBounds_toArray, List.set_cons_zero, List.set_cons_succ]
  refine take_dstH (i := 16) (d := 28) (v := ?_) rfl rfl (by kernel_rfl) (by kernel_rfl) (by kernel_rfl) (fun _ _ _ h => h) (by rfl) hHeld ?_ ?_
  rotate_left
  · intro wZ hSw; clear hSw; go_simp; first | (with_reducible rfl) | (rw [if_pos (by omega)]; with_reducible rfl) | skip
  try simp only [Act.put, List.setIfInBounds_toArray, List.set_cons_zero, List.set_cons_succ]
  refine take_dstH (i := 17) (d := 29) (v := ?_) rfl rfl (by kernel_rfl) (by kernel_rfl) (by kernel_rfl) (fun _ _ _ h => h) (by rfl) hHeld ?_ ?_
  rotate_left
  · intro wZ hSw; clear hSw; go_simp; first | (with_reducible rfl) | (rw [if_pos (by omega)]; with_reducible rfl) | skip
  try simp only [Act.put, List.setIfInBounds_toArray, List.set_cons_zero, List.set_cons_succ]
  refine take_dstH (i := 18) (d := 30) (v := ?_) rfl rfl (by kernel_rfl) (by kernel_rfl) (by kernel_rfl) (fun _ _ _ h => h) (by rfl) hHeld ?_ ?_
  rotate_left
  · intro wZ hSw; clear hSw; go_simp; first | (with_reducible rfl) | (rw [if_pos (by omega)]; with_reducible rfl) | skip
  try simp only [Act.put, List.setIfInBounds_toArray, List.set_cons_zero, List.set_cons_succ]
  refine take_dstH (i := 19) (d := 31) (v := ?_) rfl rfl (by kernel_rfl) (by kernel_rfl) (by kernel_rfl) (fun _ _ _ h => h) (by rfl) hHeld ?_ ?_
  rotate_left
  · intro wZ hSw; clear hSw; go_simp; first | (with_reducible rfl) | (rw [if_pos (by omega)]; with_reducible rfl) | skip
  try simp only [Act.put, List.setIfInBounds_toArray, List.set_cons_zero, List.set_cons_succ]
  refine take_dstH (i := 20) (d := 32) (v := ?_) rfl rfl (by kernel_rfl) (by kernel_rfl) (by kernel_rfl) (fun _ _ _ h => h) (by rfl) hHeld ?_ ?_
  rotate_left
  · intro wZ hSw; clear hSw; go_simp; first | (with_reducible rfl) | (rw [if_pos (by omega)]; with_reducible rfl) | skip
  try simp only [Act.put, List.setIfInBounds_toArray, List.set_cons_zero, List.set_cons_succ]
  refine take_dstH (i := 21) (d := 33) (v := ?_) rfl rfl (by kernel_rfl) (by kernel_rfl) (by kernel_rfl) (fun _ _ _ h => h) (by rfl) hHeld ?_ ?_
  rotate_left
  · intro wZ hSw; have hfS := c4.out wZ hSw; clear hSw; go_simp; first | (with_reducible rfl) | (rw [if_pos (by omega)]; with_reducible rfl) | skip
  try simp only [Act.put, List.setIfInBounds_toArray, List.set_cons_zero, List.set_cons_succ]
  refine take_dstH (i := 22) (d := 34) (v := ?_) rfl rfl (by kernel_rfl) (by kernel_rfl) (by kernel_rfl) (fun _ _ _ h => h) (by rfl) hHeld ?_ ?_
  rotate_left
  · intro wZ hSw; clear hSw; go_simp; first | (with_reducible rfl) | (rw [if_pos (by omega)]; with_reducible rfl) | skip
  try simp only [Act.put, List.setIfInBounds_toArray, List.set_cons_zero, List.set_cons_succ]
  refine take_dstH (i := 23) (d := 35) (v := ?_) rfl rfl (by kernel_rfl) (by kernel_rfl) (by kernel_rfl) (fun _ _ _ h => h) (by rfl) hHeld ?_ ?_
  rotate_left
  · intro wZ hSw; clear hSw; go_simp; first | (with_reducible rfl) | (rw [if_pos (by omega)]; with_reducible rfl) | skip
  try simp only [Act.put, List.setIfInBounds_toArray, List.set_cons_zero, List.set_cons_succ]
  refine take_dstH (i := 24) (d := 36) (v := ?_) rfl rfl (by kernel_rfl) (by kernel_rfl) (by kernel_rfl) (fun _ _ _ h => h) (by rfl) hHeld ?_ ?_
  rotate_left
  · intro wZ hSw; clear hSw; go_simp; first | (with_reducible rfl) | (rw [if_pos (by omega)]; with_reducible rfl) | skip
  try simp only [Act.put, List.setIfInBounds_toArray, List.set_cons_zero, List.set_cons_succ]
  refine take_dstH (i := 25) (d := 37) (v := ?_) rfl rfl (by kernel_rfl) (by kernel_rfl) (by kernel_rfl) (fun _ _ _ h => h) (by rfl) hHeld ?_ ?_
  rotate_left
  · intro wZ hSw; clear hSw; go_simp; first | (with_reducible rfl) | (rw [if_pos (by omega)]; with_reducible rfl) | skip
  try simp only [Act.put, List.setIfInBounds_toArray, List.set_cons_zero, List.set_cons_succ]
  refine take_dstH (i := 26) (d := 38) (v := ?_) rfl rfl (by kernel_rfl) (by kernel_rfl) (by kernel_rfl) (fun _ _ _ h => h) (by rfl) hHeld ?_ ?_
  rotate_left
  · intro wZ hSw; clear hSw; go_simp; first | (with_reducible rfl) | (rw [if_pos (by omega)]; with_reducible rfl) | skip
  try simp only [Act.put, List.setIfInBounds_toArray, List.set_cons_zero, List.set_cons_succ]
  refine take_dstH (i := 27) (d := 39) (v := ?_) rfl rfl (by kernel_rfl) (by kernel_rfl) (by kernel_rfl) (fun _ _ _ h => h) (by rfl) hHeld ?_ ?_
  rotate_left
  · intro wZ hSw; clear hSw; go_simp; first | (with_reducible rfl) | (rw [if_pos (by omega)]; with_reducible rfl) | skip
  try simp only [Act.put, List.setIfInBounds_toArray, List.set_cons_zero, List.set_cons_succ]
  refine take_dstH (i := 28) (d := 40) (v := ?_) rfl rfl (by kernel_rfl) (by kernel_rfl) (by kernel_rfl) (fun _ _ _ h => h) (by rfl) hHeld ?_ ?_
  rotate_left
  · intro wZ hSw; clear hSw; go_simp; first | (with_reducible rfl) | (rw [if_pos (by omega)]; with_reducible rfl) | skip
  try simp only [Act.put, List.setIfInBounds_toArray, List.set_cons_zero, List.set_cons_succ]
  refine take_dstH (i := 29) (d := 41) (v := ?_) rfl rfl (by kernel_rfl) (by kernel_rfl) (by kernel_rfl) (fun _ _ _ h => h) (by rfl) hHeld ?_ ?_
  rotate_left
  · intro wZ hSw; have hfS := c3.out wZ hSw; clear hSw; go_simp; first | (with_reducible rfl) | (rw [if_pos (by omega)]; with_reducible rfl) | skip
  try simp only [Act.put, List.setIfInBounds_toArray, List.set_cons_zero, List.set_cons_succ]
  refine take_dstH (i := 30) (d := 42) (v := ?_) rfl rfl (by kernel_rfl) (by kernel_rfl) (by kernel_rfl) (fun _ _ _ h => h) (by rfl) hHeld ?_ ?_
  rotate_left
  · intro wZ hSw; clear hSw; go_simp; first | (with_reducible rfl) | (rw [if_pos (by omega)]; with_reducible rfl) | skip
  try simp only [Act.put, List.setIfInBounds_toArray, List.set_cons_zero, List.set_cons_succ]
  refine take_dstH (i := 31) (d := 43) (v := ?_) rfl rfl (by kernel_rfl) (by kernel_rfl) (by kernel_rfl) (fun _ _ _ h => h) (by rfl) hHeld ?_ ?_
  rotate_left
  · intro wZ hSw; clear hSw; go_simp; first | (with_reducible rfl) | (rw [if_pos (by omega)]; with_reducible rfl) | skip
  try simp only [Act.put, List.setIfInBounds_toArray, List.set_cons_zero, List.set_cons_succ]
  refine take_dstH (i := 32) (d := 44) (v := ?_) rfl rfl (by kernel_rfl) (by kernel_rfl) (by kernel_rfl) (fun _ _ _ h => h) (by rfl) hHeld ?_ ?_
  rotate_left
  · intro wZ hSw; clear hSw; go_simp; first | (with_reducible rfl) | (rw [if_pos (by omega)]; with_reducible rfl) | skip
  try simp only [Act.put, List.setIfInBounds_toArray, List.set_cons_zero, List.set_cons_succ]
  refine take_dstH (i := 33) (d := 45) (v := ?_) rfl rfl (by kernel_rfl) (by kernel_rfl) (by kernel_rfl) (fun _ _ _ h => h) (by rfl) hHeld ?_ ?_
  rotate_left
  · intro wZ hSw; clear hSw; go_simp; first | (with_reducible rfl) | (rw [if_pos (by omega)]; with_reducible rfl) | skip
  try simp only [Act.put, List.setIfInBounds_toArray, List.set_cons_zero, List.set_cons_succ]
  refine take_dstH (i := 35) (d := 47) (v := ?_) rfl rfl (by kernel_rfl) (by kernel_rfl) (by kernel_rfl) (fun _ _ _ h => h) (by rfl) hHeld ?_ ?_
  rotate_left
  · intro wZ hSw; clear hSw; go_simp; first | (with_reducible rfl) | (rw [if_pos (by omega)]; with_reducible rfl) | skip
  try simp only [Act.put, List.setIfInBounds_toArray, List.set_cons_zero, List.set_cons_succ]
  refine take_dstH (i := 36) (d := 48) (v := ?_) rfl rfl (by kernel_rfl) (by kernel_rfl) (by kernel_rfl) (fun _ _ _ h => h) (by rfl) hHeld ?_ ?_
  rotate_left
  · intro wZ hSw; clear hSw; go_simp; first | (with_reducible rfl) | (rw [if_pos (by omega)]; with_reducible rfl) | skip
  try simp only [Act.put, List.setIfInBounds_toArray, List.set_cons_zero, List.set_cons_succ]
  refine take_dstH (i := 37) (d := 49) (v := ?_) rfl rfl (by kernel_rfl) (by kernel_rfl) (by kernel_rfl) (fun _ _ _ h => h) (by rfl) hHeld ?_ ?_
  rotate_left
  · intro wZ hSw; clear hSw; go_simp; first | (with_reducible rfl) | (rw [if_pos (by omega)]; with_reducible rfl) | skip
  try simp only [Act.put, List.setIfInBounds_toArray, List.set_cons_zero, List.set_cons_succ]
  refine take_dstH (i := 38) (d := 50) (v := ?_) rfl rfl (by kernel_rfl) (by kernel_rfl) (by kernel_rfl) (fun _ _ _ h => h) (by rfl) hHeld ?_ ?_
  rotate_left
  · intro wZ hSw; refine exec_load_mid 36 (.tmp 49) ?_ k 5 ?_ (meC L.m) _ (rl_met (Hid.out hSw).r.a) Tryd.underlying36 rfl infoM <;> rfl
  try simp only [Act.put, List.setIfInBounds_toArray, List.set_cons_zero, List.set_cons_succ]
  refine wpAnyH_ready (rs := [34]) (by kernel_rfl) (by simp) ?_
  refine (AllReadyH.cons rfl (fun K hK => ?_) AllReadyH.nil)
  go_simp
  refine Calls.mono (meter_at _ g L hHeld.out.l) ?_; rintro e wa ⟨rfl, hba⟩; have HK := hide (hHeld.out.kept hba); clear hba
  go_wp2_with fail
  refine hK.out _ _ ?_ (fun hHeld => ?_)
  · exact HK
  clear hK K
  try simp only [Act.put, List.setIfInBounds_toArray, List.set_cons_zero, List.set_cons_succ]
  refine take_dstH (i := 39) (d := 51) (v := ?_) rfl rfl (by kernel_rfl) (by kernel_rfl) (by kernel_rfl) (fun _ _ _ h => h) (by rfl) hHeld ?_ ?_
  rotate_left
  · intro wZ hSw; refine exec_eql_agg 36 36 (.tmp 46) (.tmp 50) ?_ (meC L.m).toArray (meC L.m).toArray ?_ ?_ true (guardM _ _ _ _ _) (HE.out wZ) <;> rfl
  try simp only [Act.put, List.setIfInBounds_toArray, List.set_cons_zero, List.set_cons_succ]
  refine take_dstH (i := 40) (d := 52) (v := ?_) rfl rfl (by kernel_rfl) (by kernel_rfl) (by kernel_rfl) (fun _ _ _ h => h) (by rfl) hHeld ?_ ?_
  rotate_left
  · intro wZ hSw; clear hSw; go_simp; first | (with_reducible rfl) | (rw [if_pos (by omega)]; with_reducible rfl) | skip
  try simp only [Act.put, List.setIfInBounds_toArray, List.set_cons_zero, List.set_cons_succ]
  refine take_dstH (i := 41) (d := 4) (v := ?_) rfl rfl (by kernel_rfl) (by kernel_rfl) (by kernel_rfl) (fun _ _ _ h => h) (by rfl) hHeld ?_ ?_
  rotate_left
  · intro wZ hSw; clear hSw; go_simp; first | (with_reducible rfl) | (rw [if_pos (by omega)]; with_reducible rfl) | skip
  try simp only [Act.put, List.setIfInBounds_toArray, List.set_cons_zero, List.set_cons_succ]
  refine wpAnyH_done (by kernel_rfl) ?_ _
  all_goals
    go_wp2_with fail
    go_ret
    exact ⟨rfl, hHeld.out.b⟩

end Go.Proofs.YtbmjlofehbbkbaaDoor

/- The law's hear of LinkPlays. -/
namespace Go.Proofs.YtbmjlofehbbkbaaDoor
open Go.RowKit

/-- what the law's hear leaves -/
structure LhP (w w' : World) (g k : Nat) (LT : Lk) : Prop where
  l : LkAt w' g LT
  r : ∃ s' t', RL w' k LT s' t'
  b : ∃ v, w.grownBy v (some g) ∧ v.grownBy w' (some k)

set_option maxHeartbeats 8000000 in
set_option maxRecDepth 100000 in
theorem lhear_of (g k : Nat) (L LT : Lk) (s t : Int) (code mark : List Nat) (o : Ob) (p : Option Addr) (c n NT NA : Nat) (B TX AL : List Nat) (fr md : Bool) (mn : Nat) (E F : Int) (w : World)
    (hL : LkAt w g L) (hR : RL w k L s t) (hP : Piece w p c B) (hn : B.length = n) (hn2 : n ≤ 1300) (hpg : ∀ a, p = some a → B ≠ [] → a.block ≠ g) (hpk : ∀ a, p = some a → B ≠ [] → a.block ≠ k) (hgk : g ≠ k) (hk : IsKey code mark) (hg2 : 2 ≤ g) (hLa : Laid w) (hTX : TX.length = NT) (hAL : AL.length = NA) (hTB : BytesN TX) (hAB : BytesN AL)
    (hA : ∀ (v : World) (q : Option Addr) (cq : Nat), LkAt v g L → Piece v q cq B → Laid v → Calls Tryd.prog 14 #[.pointer (some ⟨g, 0, none⟩), .int .i64 o.now, .int .i64 o.frm, .slice q n cq] v fun e w' => ∃ u, e = .returned (.tuple #[u, .bool fr, .int .i64 E]) ∧ w'.ownsRow v.heap.size 5 1 u NT (u8s TX) ∧ LkAt w' g LT ∧ v.grownBy w' (some g))
    (hO : ∀ v : World, Piece v p c B → Laid v → Calls Tryd.prog 9 #[keyV code mark, .slice p n c] v fun e w' => ∃ u, e = .returned (.tuple #[noV md mn, u, .int .i64 F]) ∧ w'.ownsRow v.heap.size 5 1 u NA (u8s AL) ∧ Below v.heap.size v w')
    (hC : ∀ (v : World) (q : Option Addr) (cq : Nat), RL v k L s t → Piece v q cq AL → (∀ a, q = some a → a.block ≠ k) → Calls Tryd.prog 31 #[.pointer (some ⟨k, 0, none⟩), .int .i64 o.now, .int .i64 o.frm, noV md mn, .slice q NA cq, .int .i64 F] v fun e w' => ∃ q3 c3, e = .returned (.tuple #[.slice q3 NT c3, .bool fr, .int .i64 E]) ∧ BI w' q3 TX ∧ (∃ s' t', RL w' k LT s' t') ∧ v.grownBy w' (some k)) :
    Calls Tryd.prog 11 #[.pointer (some ⟨g, 0, none⟩), .pointer (some ⟨k, 0, none⟩), keyV code mark, .agg o.C.toArray, .slice p n c] w fun e w' => e = .returned (.bool true) ∧ LhP w w' g k LT := by
  have A1 := hide (boxes w (kCells code mark) o.C 25 44)
  have HL := hide hL
  have HR := hide hR
  have HP := hide hP
  have HN := hide hn
  have HN2 := hide hn2
  have HPG := hide hpg
  have HPK := hide hpk
  have HGK := hide hgk
  have HG2 := hide hg2
  have HLA := hide hLa
  have HTX := hide hTX
  have HAL := hide hAL
  have HTB := hide hTB
  have HAB := hide hAB
  have HA := hide hA
  have HO := hide hO
  have HC := hide hC
  have IK : Hid ((Tryd.prog.info? 25).map (·.size) = some (kCells code mark).length) := by show _ = _; rw [hk.info]; simp
  clear hk
  clear hL hR hP hn hn2 hpg hpk hgk hg2 hLa hTX hAL hTB hAB hA hO hC
  go_enter Tryd.func11, Tryd.ntmps11
  go_upto_region 1 with fail
  simp only [Ob.C] at A1
  generalize (w.alloc (Obj.cells (kCells code mark).toArray 25)).alloc (Obj.cells #[Value.int .i64 o.k, Value.int .i64 o.a, Value.int .i64 o.now, Value.int .i64 o.frm, Value.bool o.d, Value.int .u64 (o.n : Int), Value.slice o.p o.b.length o.c] 44) = w1 at *
  have HP1 := hide (HP.out.kept A1.out.2.2)
  go_upto_region 2 with (at_builtin; refine wpList_append_bytes rfl (.tmp 21) (.tmp 22) rfl w1.heap.size _ [] rfl 0 rfl (World.ownsRow_made w1 #[] 0 (Nat.le_refl _) (Nat.zero_le _) rfl) p n c B HN.out rfl (HP1.out.1.kept ((Below.refl _ _).alloc (Nat.le_refl _) _)) HP1.out.2.1 (by have := HN2.out; omega) (by simp) ?_; intro v2 w2 hown hgrow; have B2 : Hid (Below w1.heap.size w1 w2) := ((Below.refl _ w1).alloc (Nat.le_refl _) _).trans (grown_below hgrow (by simp) (by intro k hk; have h : some w1.heap.size = some k := hk; cases h; exact Nat.le_refl _)); have O2 : Hid (w2.ownsRow w1.heap.size 5 1 v2 n (u8s B)) := (show World.ownsRow _ _ _ _ _ _ _ by simpa using hown); clear hown hgrow)
  obtain ⟨p2, c2, rfl, hp2, _⟩ := own_piece_n O2.out HN.out HP.out.2.2.1
  have P2 := hide hp2
  clear hp2
  have A2 : Hid (Arr w2 w.heap.size 25 (kCells code mark) ∧ Arr w2 (w.heap.size + 1) 44 o.C ∧ Below w.heap.size w w2) := ⟨A1.out.1.kept B2.out, A1.out.2.1.kept B2.out, A1.out.2.2.trans (B2.out.mono A1.out.2.2.size)⟩
  clear A1 B2 HP1
  have o2 : w2.cell? ⟨w.heap.size + 1, 2, none⟩ = some (.int .i64 o.now) := A2.out.2.1.cell 2
  have o3 : w2.cell? ⟨w.heap.size + 1, 3, none⟩ = some (.int .i64 o.frm) := A2.out.2.1.cell 3
  go_wp2_with fail
  clear o2 o3
  refine (HA.out w2 p2 c2 (HL.out.kept A2.out.2.2) P2.out (HLA.out.kept A2.out.2.2)).mono ?_
  rintro r w3 ⟨u3, rfl, ho3, hl3, hg3⟩
  obtain ⟨p3, c3, rfl, _, _⟩ := own_piece_n ho3 HTX.out HTB.out
  have G3 := hide (grown_trans (below_grown A2.out.2.2 _) hg3)
  have O3 := hide ho3
  have L3 := hide hl3
  have O2b := hide (O2.out.kept hg3 (.inr (own_ne_arr O2.out (HL.out.kept A2.out.2.2).a (by decide))))
  have A3 : Hid (Arr w3 w.heap.size 25 (kCells code mark) ∧ Arr w3 (w.heap.size + 1) 44 o.C) := ⟨A2.out.1.grown hg3 (arr_ne A2.out.1 (HL.out.kept A2.out.2.2).a (by decide)), A2.out.2.1.grown hg3 (arr_ne A2.out.2.1 (HL.out.kept A2.out.2.2).a (by decide))⟩
  have R3 := hide ((HR.out.kept A2.out.2.2).grown hg3 (fun e => HGK.out e.symm))
  have LA3 := hide ((HLA.out.kept A2.out.2.2).grown hg3 HG2.out)
  have P3 : Hid (Piece w3 p c B) := ⟨bi_grown (HP.out.kept A2.out.2.2).1 hg3 HPG.out, HP.out.2⟩
  clear ho3 hl3 hg3 HA O2 P2 A2 HL HR HLA HP HG2
  go_wp2_with (refine wpList_exec (by rfl) _ (exec_load_all 25 (.tmp 7) rfl w.heap.size rfl 25 (kCells code mark) _ A3.out.1 Tryd.underlying25 rfl IK.out) ?_)
  refine (HO.out w3 P3.out LA3.out).mono ?_
  rintro r w4 ⟨u4, rfl, ho4, hb4⟩
  obtain ⟨p4, c4, rfl, hp4, hlo4⟩ := own_piece_n ho4 HAL.out HAB.out
  have P4 := hide hp4
  have R4 := hide (R3.out.kept hb4)
  have L4 := hide (L3.out.kept hb4)
  have PB4 := hide (P3.out.kept hb4)
  have O2c := hide (own_below O2b.out hb4)
  have O3c := hide (own_below O3.out hb4)
  have Op4 := hide (A3.out.2.kept hb4)
  have G4 := hide (grown_trans G3.out (below_grown hb4 _))
  have NK4 : Hid (∀ a, p4 = some a → a.block ≠ k) := fun a ha e => by
    have h1 := (hlo4 a ha).1
    have h2 := R3.out.a.lt
    omega
  clear ho4 hp4 hlo4 hb4 HO R3 L3 P3 O2b O3 A3 G3 LA3
  have NW := hide (Arr.new w4 41 [Value.bool false, Value.int .u64 0])
  have NB : Hid (Below w4.heap.size w4 (w4.alloc (Obj.cells #[Value.bool false, Value.int .u64 0] 41))) := (Below.refl _ _).alloc (Nat.le_refl _) _
  go_upto_region 4 with (refine wpList_store_row rfl 41 _ _ rfl w4.heap.size (noC md mn).toArray rfl rfl 41 #[Value.bool false, Value.int .u64 0] NW.out infoN rfl (one_noC _ _) ?_)
  have NR := hide (NW.out.row (noC md mn).toArray)
  have B5 := hide (below_setRow NB.out (Nat.le_refl _) NW.out.lt (noC md mn).toArray)
  clear NW NB
  generalize (w4.alloc (Obj.cells #[Value.bool false, Value.int .u64 0] 41)).setRow w4.heap.size (noC md mn).toArray = w5 at *
  have R5 := hide (R4.out.kept B5.out)
  have L5 := hide (L4.out.kept B5.out)
  have PB5 := hide (PB4.out.kept B5.out)
  have P5 := hide (P4.out.kept B5.out)
  have O2d := hide (own_below O2c.out B5.out)
  have O3d := hide (own_below O3c.out B5.out)
  have G5 := hide (grown_trans G4.out (below_grown B5.out _))
  have o2 : w5.cell? ⟨w.heap.size + 1, 2, none⟩ = some (.int .i64 o.now) := (Op4.out.kept B5.out).cell 2
  have o3 : w5.cell? ⟨w.heap.size + 1, 3, none⟩ = some (.int .i64 o.frm) := (Op4.out.kept B5.out).cell 3
  clear R4 L4 PB4 P4 O2c O3c G4 Op4 B5
  go_wp2_with (refine wpList_exec (by rfl) _ (exec_load_all 41 (.tmp 15) rfl w4.heap.size rfl 41 (noC md mn) _ NR.out Tryd.underlying41 rfl infoN) ?_)
  clear o2 o3 NR
  refine (HC.out w5 p4 c4 R5.out P5.out NK4.out).mono ?_
  rintro r w6 ⟨q6, c6, rfl, hq6, hr6, hg6⟩
  have O2e := hide (O2d.out.kept hg6 (.inr (own_ne_any O2d.out R5.out.a (by decide))))
  have O3e := hide (O3d.out.kept hg6 (.inr (own_ne_any O3d.out R5.out.a (by decide))))
  obtain ⟨_, _, e2, hp2, _⟩ := own_piece_n O2e.out HN.out PB5.out.2.2.1
  cases e2
  obtain ⟨_, _, e3, hp3, _⟩ := own_piece_n O3e.out HTX.out HTB.out
  cases e3
  have HFIN : Hid (LhP w w6 g k LT) := ⟨L5.out.grown hg6 HGK.out, hr6, _, G5.out, hg6⟩
  have hcv1 := conv_any hp2.1 (c := c2) n HN.out
  have hcv2 := conv_any (bi_grown PB5.out.1 hg6 HPK.out) (c := c) n HN.out
  have hcv3 := conv_any hp3.1 (c := c3) NT HTX.out
  have hcv4 := conv_any hq6 (c := c6) NT HTX.out
  clear hp2 hp3 hq6 hr6 hg6 O2e O3e O2d O3d R5 L5 PB5 P5 G5 HC HPG HPK NK4
  generalize strF B = SB at *
  generalize strF TX = SX at *
  go_wp2_with fail
  go_ret
  exact ⟨rfl, HFIN.out⟩

end Go.Proofs.YtbmjlofehbbkbaaDoor

/- The law's hear of LinkPlays, of whatever comes. -/
namespace Go.Proofs.YtbmjlofehbbkbaaDoor
open Go.RowKit

theorem cutP_ne {p : Option Addr} {i c k : Nat} (h : ∀ a, p = some a → a.block ≠ k) : ∀ a, cutP p i c = some a → a.block ≠ k := by
  intro a ha
  obtain ⟨b, hb, e⟩ := cutP_block ha
  rw [e]
  exact h b hb

theorem open_shape (L : Lk) (p : Option Addr) (c n : Nat) (B : List Nat) (hk : IsKey L.code L.mark) (hn : B.length = n) (hB : BytesN B) : ∃ (md : Bool) (mn NA : Nat) (AL : List Nat), AL.length = NA ∧ BytesN AL ∧ (∀ v : World, Piece v p c B → Laid v → Calls Tryd.prog 9 #[keyV L.code L.mark, .slice p n c] v fun e w' => ∃ u, e = .returned (.tuple #[noV md mn, u, .int .i64 (opE L.mark B)]) ∧ w'.ownsRow v.heap.size 5 1 u NA (u8s AL) ∧ Below v.heap.size v w') ∧
    (opE L.mark B = 0 → md = wD (rd8 B) ∧ mn = wN (rd8 B) ∧ AL = opT L.code B) := by
  by_cases h0 : opE L.mark B = 0
  · have h24 : 24 ≤ B.length := by unfold opE at h0; split at h0 <;> omega
    refine ⟨wD (rd8 B), wN (rd8 B), n - 24, opT L.code B, by rw [opT_length h24, hn], opT_bytes hk.c hB, fun v hv hl => ?_, fun _ => ⟨rfl, rfl, rfl⟩⟩
    have h := open_any' L.code L.mark p c n B v hk hv hn hl
    rw [h0] at h ⊢
    simp only [if_true] at h
    exact h.mono fun e w' ⟨⟨u, h1, h2⟩, h3⟩ => ⟨u, h1, h2, h3⟩
  · refine ⟨false, 0, 0, [], rfl, (fun y hy => by cases hy), fun v hv hl => ?_, fun e => absurd e h0⟩
    have h := open_any' L.code L.mark p c n B v hk hv hn hl
    simp only [if_neg h0] at h
    exact h.mono fun e w' ⟨h1, h3⟩ => ⟨.slice none 0 0, h1, World.ownsRow_nil _ _ _ _, h3⟩

theorem lhear_any (g k : Nat) (L : Lk) (s t : Int) (o : Ob) (p : Option Addr) (c n : Nat) (B : List Nat) (w : World) (hL : LkAt w g L) (hR : RL w k L s t) (hP : Piece w p c B) (hn : B.length = n) (hn2 : n ≤ 1300) (hpg : ∀ a, p = some a → B ≠ [] → a.block ≠ g) (hpk : ∀ a, p = some a → B ≠ [] → a.block ≠ k) (hgk : g ≠ k) (hg2 : 2 ≤ g) (hLa : Laid w) :
    Calls Tryd.prog 11 #[.pointer (some ⟨g, 0, none⟩), .pointer (some ⟨k, 0, none⟩), keyV L.code L.mark, .agg o.C.toArray, .slice p n c] w fun e w' => e = .returned (.bool true) ∧ ∃ LT, LhP w w' g k LT ∧ LT.code = L.code ∧ LT.mark = L.mark ∧ LT.down = L.down := by
  have hk := hL.ok.key
  have hB := hP.2.2.1
  obtain ⟨md, mn, NA, AL, hal, hab, hO, hop⟩ := open_shape L p c n B hk hn hB
  by_cases hia : IsTime o.now ∧ IsAddr o.frm
  · obtain ⟨ht, ha⟩ := hia
    by_cases hE : heE L B = 0
    · have h0 : opE L.mark B = 0 := by
        by_cases h0 : opE L.mark B = 0
        · exact h0
        · unfold heE at hE; rw [if_neg h0] at hE; exact hE
      obtain ⟨rfl, rfl, rfl⟩ := hop h0
      have heq : rhE L (wD (rd8 B)) (opT L.code B) = 0 := by rw [← hE]; unfold rhE heE; rw [if_pos h0]
      have h4 : 4 ≤ (opT L.code B).length := by
        unfold rhE partsE at heq
        split at heq
        · omega
        · split at heq <;> omega
      have hN : NA ≤ 90000 := by
        have : B.length ≤ 1224 := by unfold opE at h0; split at h0 <;> omega
        have h24 : 24 ≤ B.length := by unfold opE at h0; split at h0 <;> omega
        rw [← hal, opT_length h24]; omega
      rw [h0] at hO
      refine (lhear_of g k L (L.heard' B o.now o.frm) s t L.code L.mark o p c n ((opT L.code B).drop 4).length NA B ((opT L.code B).drop 4) (opT L.code B) (L.fresh (wN (rd8 B))) (wD (rd8 B)) (wN (rd8 B)) 0 0 w hL hR hP hn hn2 hpg hpk hgk hk hg2 hLa rfl hal (fun y hy => hab y (List.mem_of_mem_drop hy)) hab ?_ hO ?_).mono ?_
      · intro v q cq hv hq hl
        have h := hear_any' g L q cq n B o.now o.frm v hv ht ha hq hn hl
        simp only [if_pos hE] at h
        exact h
      · intro v q cq hv hq hqk
        have h := rhear_of k L (L.heard' B o.now o.frm) s t _ _ 0 (wD (rd8 B)) (wN (rd8 B)) q cq NA (opT L.code B) o.now o.frm v hv ht ha hq hal hN rfl rfl rfl (wN_lt _) heq
        refine h.mono ?_
        rintro e w' ⟨_, h2⟩
        obtain ⟨h3, h5, h6⟩ := h2 rfl
        exact ⟨cutP q 4 cq, cq - 4, by rw [h3, List.length_drop, hal], bi_grown (hq.from 4 h4).1 h6 (fun a ha _ => cutP_ne hqk a ha), h5, h6⟩
      · rintro e w' ⟨rfl, h⟩
        refine ⟨rfl, _, h, ?_⟩
        unfold Lk.heard' Lk.took
        split <;> exact ⟨rfl, rfl, rfl⟩
    · refine (lhear_of g k L L s t L.code L.mark o p c n 0 NA B [] AL false md mn (heE L B) (opE L.mark B) w hL hR hP hn hn2 hpg hpk hgk hk hg2 hLa rfl hal (fun y hy => by cases hy) hab ?_ hO ?_).mono ?_
      · intro v q cq hv hq hl
        have h := hear_any' g L q cq n B o.now o.frm v hv ht ha hq hn hl
        simp only [if_neg hE] at h
        exact h.mono fun e w' ⟨h1, h3⟩ => ⟨.slice none 0 0, h1, World.ownsRow_nil _ _ _ _, hv.kept h3, below_grown h3 _⟩
      · intro v q cq hv hq hqk
        by_cases h0 : opE L.mark B = 0
        · obtain ⟨rfl, rfl, rfl⟩ := hop h0
          have heq : rhE L (wD (rd8 B)) (opT L.code B) = heE L B := by unfold rhE heE; rw [if_pos h0]
          have hN : NA ≤ 90000 := by
            have : B.length ≤ 1224 := by unfold opE at h0; split at h0 <;> omega
            have h24 : 24 ≤ B.length := by unfold opE at h0; split at h0 <;> omega
            rw [← hal, opT_length h24]; omega
          have h := rhear_of k L (L.heard' B o.now o.frm) s t _ _ (heE L B) (wD (rd8 B)) (wN (rd8 B)) q cq NA (opT L.code B) o.now o.frm v hv ht ha hq hal hN rfl rfl rfl (wN_lt _) heq
          rw [h0]
          refine h.mono ?_
          rintro e w' ⟨h2, _⟩
          obtain ⟨h3, h5⟩ := h2 hE
          exact ⟨none, 0, h3, Or.inl rfl, ⟨s, t, hv.kept h5⟩, below_grown h5 _⟩
        · have e0 : heE L B = opE L.mark B := by unfold heE; rw [if_neg h0]
          rw [e0]
          exact (rhear_err k md mn q NA cq (opE L.mark B) o.now o.frm v ht ha h0).mono fun e w' ⟨h3, h5⟩ => ⟨none, 0, h3, Or.inl rfl, ⟨s, t, hv.kept h5⟩, below_grown h5 _⟩
      · rintro e w' ⟨rfl, h⟩
        exact ⟨rfl, _, h, rfl, rfl, rfl⟩
  · refine (lhear_of g k L L s t L.code L.mark o p c n 0 NA B [] AL false md mn 2 (opE L.mark B) w hL hR hP hn hn2 hpg hpk hgk hk hg2 hLa rfl hal (fun y hy => by cases hy) hab ?_ hO ?_).mono ?_
    · intro v q cq hv hq hl
      exact (hear_arg' g L q o.now o.frm n cq v hv hia).mono fun e w' ⟨h1, h3⟩ => by subst h3; exact ⟨.slice none 0 0, h1, World.ownsRow_nil _ _ _ _, hv, below_grown (Below.refl _ _) _⟩
    · intro v q cq hv hq hqk
      exact (rhear_arg k md mn q NA cq (opE L.mark B) o.now o.frm v hia).mono fun e w' ⟨h3, h5⟩ => ⟨none, 0, h3, Or.inl rfl, ⟨s, t, hv.kept h5⟩, below_grown h5 _⟩
    · rintro e w' ⟨rfl, h⟩
      exact ⟨rfl, _, h, rfl, rfl, rfl⟩

end Go.Proofs.YtbmjlofehbbkbaaDoor
