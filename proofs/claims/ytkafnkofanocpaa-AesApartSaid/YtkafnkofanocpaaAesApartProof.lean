/-
  AesApart: whatever the key and the two blocks, they are hidden as the same block just where they are the same, and shown likewise, and the known rows come out: the law returns true, and what is handed in stays. No condition.
-/
import Derived.Test.YtkafnkofanocpaaEO
import Derived.Test.YtkafnkofanocpaaEP
namespace Go.Proofs.Ytkafnkofanocpaa
namespace AesApartProof
open Go.ChangeShapes Go.WideShapes Go.ChangeAt Go.RowKit
set_option linter.unusedVariables false

set_option maxHeartbeats 8000000 in
set_option maxRecDepth 100000 in
theorem walk_in (key a b CA CB SA SB : List Nat) (r : Bool) (w : World) (hk : Blk key) (ha : Blk a) (hb : Blk b) (hr : r = decide (a = b))
    (e1 : ∀ v : World, (Op.equalIn 10000 26 (.agg (u8s CA).toArray) (.agg (u8s CB).toArray)).run Try.prog v = .ok r v)
    (e2 : ∀ v : World, (Op.equalIn 10000 26 (.agg (u8s SA).toArray) (.agg (u8s SB).toArray)).run Try.prog v = .ok r v)
    (h1 : ∀ v : World, Calls Try.prog 19 #[.agg (u8s key).toArray, .agg (u8s a).toArray] v fun e w' => e = .returned (.agg (u8s CA).toArray) ∧ Below v.heap.size v w')
    (h2 : ∀ v : World, Calls Try.prog 19 #[.agg (u8s key).toArray, .agg (u8s b).toArray] v fun e w' => e = .returned (.agg (u8s CB).toArray) ∧ Below v.heap.size v w')
    (h3 : ∀ v : World, Calls Try.prog 21 #[.agg (u8s key).toArray, .agg (u8s a).toArray] v fun e w' => e = .returned (.agg (u8s SA).toArray) ∧ Below v.heap.size v w')
    (h4 : ∀ v : World, Calls Try.prog 21 #[.agg (u8s key).toArray, .agg (u8s b).toArray] v fun e w' => e = .returned (.agg (u8s SB).toArray) ∧ Below v.heap.size v w') :
    Calls Try.prog 8 #[.agg (u8s key).toArray, .agg (u8s a).toArray, .agg (u8s b).toArray] w fun e w' => e = .returned (.bool true) ∧ Below w.heap.size w w' := by
  have H1 := hide h1
  have H2 := hide h2
  have H3 := hide h3
  have H4 := hide h4
  have E1 := hide e1
  have E2 := hide e2
  have E0 : Hid (∀ v : World, (Op.equalIn 10000 26 (.agg (u8s a).toArray) (.agg (u8s b).toArray)).run Try.prog v = .ok r v) := fun v => by
    rw [hr]; exact eq_blk ha hb v
  have Ikey := hide (szl hk)
  have Ia := hide (szl ha)
  have Ib := hide (szl hb)
  have hrr : (r == r) = true := by simp
  have Lkey : Hid (∀ v : World, Hid (Below (((w.alloc (Obj.cells (u8s key).toArray 26)).alloc (Obj.cells (u8s a).toArray 26)).alloc (Obj.cells (u8s b).toArray 26)).heap.size (((w.alloc (Obj.cells (u8s key).toArray 26)).alloc (Obj.cells (u8s a).toArray 26)).alloc (Obj.cells (u8s b).toArray 26)) v) → Arr v w.heap.size 26 (u8s key)) := fun v h => (((Arr.new w _ (u8s key)).alloc _).alloc _).kept h.out
  have La : Hid (∀ v : World, Hid (Below (((w.alloc (Obj.cells (u8s key).toArray 26)).alloc (Obj.cells (u8s a).toArray 26)).alloc (Obj.cells (u8s b).toArray 26)).heap.size (((w.alloc (Obj.cells (u8s key).toArray 26)).alloc (Obj.cells (u8s a).toArray 26)).alloc (Obj.cells (u8s b).toArray 26)) v) → Arr v (w.heap.size + 1) 26 (u8s a)) := fun v h => ((Arr.newAt (w.alloc _) _ (u8s a) _ (by simp)).alloc _).kept h.out
  have Lb : Hid (∀ v : World, Hid (Below (((w.alloc (Obj.cells (u8s key).toArray 26)).alloc (Obj.cells (u8s a).toArray 26)).alloc (Obj.cells (u8s b).toArray 26)).heap.size (((w.alloc (Obj.cells (u8s key).toArray 26)).alloc (Obj.cells (u8s a).toArray 26)).alloc (Obj.cells (u8s b).toArray 26)) v) → Arr v (w.heap.size + 1 + 1) 26 (u8s b)) := fun v h => (Arr.newAt ((w.alloc _).alloc _) _ (u8s b) _ (by simp)).kept h.out
  have AB : Hid (Below w.heap.size w (((w.alloc (Obj.cells (u8s key).toArray 26)).alloc (Obj.cells (u8s a).toArray 26)).alloc (Obj.cells (u8s b).toArray 26))) := (((Below.refl _ _).alloc (Nat.le_refl _) _).alloc (by simp) _).alloc (by simp; omega) _
  clear hk ha hb hr h1 h2 h3 h4 e1 e2
  generalize hW1 : ((w.alloc (Obj.cells (u8s key).toArray 26)).alloc (Obj.cells (u8s a).toArray 26)).alloc (Obj.cells (u8s b).toArray 26) = w1 at *
  go_enter Try.func8, Try.ntmps8
  go_upto_region 1 with fail
  try rw [hW1]
  clear hW1
  refine wp_region_held_drew (S := fun v => Hid (Below w1.heap.size w1 v)) (by kernel_rfl) (hide (Below.refl w1.heap.size w1).drew) (fun hHeld => ?_)
  refine take_dstH (i := 0) (d := 7) (v := ?_) rfl rfl (by kernel_rfl) (by kernel_rfl) (by kernel_rfl) (fun _ _ _ h => h) (by rfl) hHeld ?_ ?_
  rotate_left
  · intro wZ hSw; refine exec_load_all 26 (.tmp 3) ?_ w.heap.size ?_ 26 (u8s key) _ (Lkey.out wZ hSw) Try.underlying26 rfl Ikey.out <;> rfl
  try simp only [Act.put, List.setIfInBounds_toArray, List.set_cons_zero, List.set_cons_succ]
  refine take_dstH (i := 1) (d := 8) (v := ?_) rfl rfl (by kernel_rfl) (by kernel_rfl) (by kernel_rfl) (fun _ _ _ h => h) (by rfl) hHeld ?_ ?_
  rotate_left
  · intro wZ hSw; refine exec_load_all 26 (.tmp 4) ?_ (w.heap.size + 1) ?_ 26 (u8s a) _ (La.out wZ hSw) Try.underlying26 rfl Ia.out <;> rfl
  try simp only [Act.put, List.setIfInBounds_toArray, List.set_cons_zero, List.set_cons_succ]
  refine take_dstH (i := 3) (d := 10) (v := ?_) rfl rfl (by kernel_rfl) (by kernel_rfl) (by kernel_rfl) (fun _ _ _ h => h) (by rfl) hHeld ?_ ?_
  rotate_left
  · intro wZ hSw; refine exec_load_all 26 (.tmp 3) ?_ w.heap.size ?_ 26 (u8s key) _ (Lkey.out wZ hSw) Try.underlying26 rfl Ikey.out <;> rfl
  try simp only [Act.put, List.setIfInBounds_toArray, List.set_cons_zero, List.set_cons_succ]
  refine take_dstH (i := 4) (d := 11) (v := ?_) rfl rfl (by kernel_rfl) (by kernel_rfl) (by kernel_rfl) (fun _ _ _ h => h) (by rfl) hHeld ?_ ?_
  rotate_left
  · intro wZ hSw; refine exec_load_all 26 (.tmp 5) ?_ (w.heap.size + 1 + 1) ?_ 26 (u8s b) _ (Lb.out wZ hSw) Try.underlying26 rfl Ib.out <;> rfl
  try simp only [Act.put, List.setIfInBounds_toArray, List.set_cons_zero, List.set_cons_succ]
  refine take_dstH (i := 7) (d := 14) (v := ?_) rfl rfl (by kernel_rfl) (by kernel_rfl) (by kernel_rfl) (fun _ _ _ h => h) (by rfl) hHeld ?_ ?_
  rotate_left
  · intro wZ hSw; refine exec_load_all 26 (.tmp 4) ?_ (w.heap.size + 1) ?_ 26 (u8s a) _ (La.out wZ hSw) Try.underlying26 rfl Ia.out <;> rfl
  try simp only [Act.put, List.setIfInBounds_toArray, List.set_cons_zero, List.set_cons_succ]
  refine take_dstH (i := 8) (d := 15) (v := ?_) rfl rfl (by kernel_rfl) (by kernel_rfl) (by kernel_rfl) (fun _ _ _ h => h) (by rfl) hHeld ?_ ?_
  rotate_left
  · intro wZ hSw; refine exec_load_all 26 (.tmp 5) ?_ (w.heap.size + 1 + 1) ?_ 26 (u8s b) _ (Lb.out wZ hSw) Try.underlying26 rfl Ib.out <;> rfl
  try simp only [Act.put, List.setIfInBounds_toArray, List.set_cons_zero, List.set_cons_succ]
  refine take_dstH (i := 9) (d := 16) (v := ?_) rfl rfl (by kernel_rfl) (by kernel_rfl) (by kernel_rfl) (fun _ _ _ h => h) (by rfl) hHeld ?_ ?_
  rotate_left
  · intro wZ hSw; refine exec_eql_agg 26 26 (.tmp 14) (.tmp 15) ?_ (u8s a).toArray (u8s b).toArray ?_ ?_ r (guard16 _ _ _ _ _) (E0.out wZ) <;> rfl
  try simp only [Act.put, List.setIfInBounds_toArray, List.set_cons_zero, List.set_cons_succ]
  refine wpAnyH_ready (rs := [2]) (by kernel_rfl) (by simp) ?_
  refine (AllReadyH.cons rfl (fun K hK => ?_) AllReadyH.nil)
  go_simp
  refine (H1.out _).mono ?_; rintro e waa ⟨rfl, hba⟩; have HBa : Hid (Below w1.heap.size w1 waa) := (Hid.out hHeld).trans (hba.mono (Hid.out hHeld).size); clear hba
  go_wp2_with fail
  refine hK.out _ _ ?_ (fun hHeld => ?_)
  · exact HBa
  clear hK K
  try simp only [Act.put, List.setIfInBounds_toArray, List.set_cons_zero, List.set_cons_succ]
  refine wpAnyH_ready (rs := [5]) (by kernel_rfl) (by simp) ?_
  refine (AllReadyH.cons rfl (fun K hK => ?_) AllReadyH.nil)
  go_simp
  refine (H2.out _).mono ?_; rintro e wab ⟨rfl, hba⟩; have HBb : Hid (Below w1.heap.size w1 wab) := (Hid.out hHeld).trans (hba.mono (Hid.out hHeld).size); clear hba
  go_wp2_with fail
  refine hK.out _ _ ?_ (fun hHeld => ?_)
  · exact HBb
  clear hK K
  try simp only [Act.put, List.setIfInBounds_toArray, List.set_cons_zero, List.set_cons_succ]
  refine take_dstH (i := 6) (d := 13) (v := ?_) rfl rfl (by kernel_rfl) (by kernel_rfl) (by kernel_rfl) (fun _ _ _ h => h) (by rfl) hHeld ?_ ?_
  rotate_left
  · intro wZ hSw; refine exec_eql_agg 26 26 (.tmp 9) (.tmp 12) ?_ (u8s CA).toArray (u8s CB).toArray ?_ ?_ r (guard16 _ _ _ _ _) (E1.out wZ) <;> rfl
  try simp only [Act.put, List.setIfInBounds_toArray, List.set_cons_zero, List.set_cons_succ]
  refine take_dstH (i := 10) (d := 17) (v := ?_) rfl rfl (by kernel_rfl) (by kernel_rfl) (by kernel_rfl) (fun _ _ _ h => h) (by rfl) hHeld ?_ ?_
  rotate_left
  · intro wZ hSw; clear hSw; go_simp; first | (with_reducible rfl) | (rw [if_pos (by omega)]; with_reducible rfl) | skip
  try simp only [Act.put, List.setIfInBounds_toArray, List.set_cons_zero, List.set_cons_succ]
  refine take_dstH (i := 11) (d := 18) (v := ?_) rfl rfl (by kernel_rfl) (by kernel_rfl) (by kernel_rfl) (fun _ _ _ h => h) (by rfl) hHeld ?_ ?_
  rotate_left
  · intro wZ hSw; clear hSw; go_simp; first | (with_reducible rfl) | (rw [if_pos (by omega)]; with_reducible rfl) | skip
  try simp only [Act.put, List.setIfInBounds_toArray, List.set_cons_zero, List.set_cons_succ]
  refine take_dstH (i := 12) (d := 19) (v := ?_) rfl rfl (by kernel_rfl) (by kernel_rfl) (by kernel_rfl) (fun _ _ _ h => h) (by rfl) hHeld ?_ ?_
  rotate_left
  · intro wZ hSw; refine exec_load_all 26 (.tmp 3) ?_ w.heap.size ?_ 26 (u8s key) _ (Lkey.out wZ hSw) Try.underlying26 rfl Ikey.out <;> rfl
  try simp only [Act.put, List.setIfInBounds_toArray, List.set_cons_zero, List.set_cons_succ]
  refine take_dstH (i := 13) (d := 20) (v := ?_) rfl rfl (by kernel_rfl) (by kernel_rfl) (by kernel_rfl) (fun _ _ _ h => h) (by rfl) hHeld ?_ ?_
  rotate_left
  · intro wZ hSw; refine exec_load_all 26 (.tmp 4) ?_ (w.heap.size + 1) ?_ 26 (u8s a) _ (La.out wZ hSw) Try.underlying26 rfl Ia.out <;> rfl
  try simp only [Act.put, List.setIfInBounds_toArray, List.set_cons_zero, List.set_cons_succ]
  refine take_dstH (i := 15) (d := 22) (v := ?_) rfl rfl (by kernel_rfl) (by kernel_rfl) (by kernel_rfl) (fun _ _ _ h => h) (by rfl) hHeld ?_ ?_
  rotate_left
  · intro wZ hSw; refine exec_load_all 26 (.tmp 3) ?_ w.heap.size ?_ 26 (u8s key) _ (Lkey.out wZ hSw) Try.underlying26 rfl Ikey.out <;> rfl
  try simp only [Act.put, List.setIfInBounds_toArray, List.set_cons_zero, List.set_cons_succ]
  refine take_dstH (i := 16) (d := 23) (v := ?_) rfl rfl (by kernel_rfl) (by kernel_rfl) (by kernel_rfl) (fun _ _ _ h => h) (by rfl) hHeld ?_ ?_
  rotate_left
  · intro wZ hSw; refine exec_load_all 26 (.tmp 5) ?_ (w.heap.size + 1 + 1) ?_ 26 (u8s b) _ (Lb.out wZ hSw) Try.underlying26 rfl Ib.out <;> rfl
  try simp only [Act.put, List.setIfInBounds_toArray, List.set_cons_zero, List.set_cons_succ]
  refine take_dstH (i := 19) (d := 26) (v := ?_) rfl rfl (by kernel_rfl) (by kernel_rfl) (by kernel_rfl) (fun _ _ _ h => h) (by rfl) hHeld ?_ ?_
  rotate_left
  · intro wZ hSw; refine exec_load_all 26 (.tmp 4) ?_ (w.heap.size + 1) ?_ 26 (u8s a) _ (La.out wZ hSw) Try.underlying26 rfl Ia.out <;> rfl
  try simp only [Act.put, List.setIfInBounds_toArray, List.set_cons_zero, List.set_cons_succ]
  refine take_dstH (i := 20) (d := 27) (v := ?_) rfl rfl (by kernel_rfl) (by kernel_rfl) (by kernel_rfl) (fun _ _ _ h => h) (by rfl) hHeld ?_ ?_
  rotate_left
  · intro wZ hSw; refine exec_load_all 26 (.tmp 5) ?_ (w.heap.size + 1 + 1) ?_ 26 (u8s b) _ (Lb.out wZ hSw) Try.underlying26 rfl Ib.out <;> rfl
  try simp only [Act.put, List.setIfInBounds_toArray, List.set_cons_zero, List.set_cons_succ]
  refine take_dstH (i := 21) (d := 28) (v := ?_) rfl rfl (by kernel_rfl) (by kernel_rfl) (by kernel_rfl) (fun _ _ _ h => h) (by rfl) hHeld ?_ ?_
  rotate_left
  · intro wZ hSw; refine exec_eql_agg 26 26 (.tmp 26) (.tmp 27) ?_ (u8s a).toArray (u8s b).toArray ?_ ?_ r (guard16 _ _ _ _ _) (E0.out wZ) <;> rfl
  try simp only [Act.put, List.setIfInBounds_toArray, List.set_cons_zero, List.set_cons_succ]
  refine wpAnyH_ready (rs := [14]) (by kernel_rfl) (by simp) ?_
  refine (AllReadyH.cons rfl (fun K hK => ?_) AllReadyH.nil)
  go_simp
  refine (H3.out _).mono ?_; rintro e wac ⟨rfl, hba⟩; have HBc : Hid (Below w1.heap.size w1 wac) := (Hid.out hHeld).trans (hba.mono (Hid.out hHeld).size); clear hba
  go_wp2_with fail
  refine hK.out _ _ ?_ (fun hHeld => ?_)
  · exact HBc
  clear hK K
  try simp only [Act.put, List.setIfInBounds_toArray, List.set_cons_zero, List.set_cons_succ]
  refine wpAnyH_ready (rs := [17]) (by kernel_rfl) (by simp) ?_
  refine (AllReadyH.cons rfl (fun K hK => ?_) AllReadyH.nil)
  go_simp
  refine (H4.out _).mono ?_; rintro e wad ⟨rfl, hba⟩; have HBd : Hid (Below w1.heap.size w1 wad) := (Hid.out hHeld).trans (hba.mono (Hid.out hHeld).size); clear hba
  go_wp2_with fail
  refine hK.out _ _ ?_ (fun hHeld => ?_)
  · exact HBd
  clear hK K
  try simp only [Act.put, List.setIfInBounds_toArray, List.set_cons_zero, List.set_cons_succ]
  refine take_dstH (i := 18) (d := 25) (v := ?_) rfl rfl (by kernel_rfl) (by kernel_rfl) (by kernel_rfl) (fun _ _ _ h => h) (by rfl) hHeld ?_ ?_
  rotate_left
  · intro wZ hSw; refine exec_eql_agg 26 26 (.tmp 21) (.tmp 24) ?_ (u8s SA).toArray (u8s SB).toArray ?_ ?_ r (guard16 _ _ _ _ _) (E2.out wZ) <;> rfl
  try simp only [Act.put, List.setIfInBounds_toArray, List.set_cons_zero, List.set_cons_succ]
  refine take_dstH (i := 22) (d := 29) (v := ?_) rfl rfl (by kernel_rfl) (by kernel_rfl) (by kernel_rfl) (fun _ _ _ h => h) (by rfl) hHeld ?_ ?_
  rotate_left
  · intro wZ hSw; clear hSw; go_simp; first | (with_reducible rfl) | (rw [if_pos (by omega)]; with_reducible rfl) | skip
  try simp only [Act.put, List.setIfInBounds_toArray, List.set_cons_zero, List.set_cons_succ]
  refine take_dstH (i := 23) (d := 30) (v := ?_) rfl rfl (by kernel_rfl) (by kernel_rfl) (by kernel_rfl) (fun _ _ _ h => h) (by rfl) hHeld ?_ ?_
  rotate_left
  · intro wZ hSw; clear hSw; go_simp; first | (with_reducible rfl) | (rw [if_pos (by omega)]; with_reducible rfl) | skip
  try simp only [Act.put, List.setIfInBounds_toArray, List.set_cons_zero, List.set_cons_succ]
  refine take_dstH (i := 24) (d := 31) (v := ?_) rfl rfl (by kernel_rfl) (by kernel_rfl) (by kernel_rfl) (fun _ _ _ h => h) (by rfl) hHeld ?_ ?_
  rotate_left
  · intro wZ hSw; clear hSw; go_simp; first | (with_reducible rfl) | (rw [if_pos (by omega)]; with_reducible rfl) | skip
  try simp only [Act.put, List.setIfInBounds_toArray, List.set_cons_zero, List.set_cons_succ]
  refine wpAnyH_ready (rs := [25]) (by kernel_rfl) (by simp) ?_
  refine (AllReadyH.cons rfl (fun K hK => ?_) AllReadyH.nil)
  go_simp
  refine (known_any _).mono ?_; rintro e wae ⟨rfl, hba⟩; have HBe : Hid (Below w1.heap.size w1 wae) := (Hid.out hHeld).trans (hba.mono (Hid.out hHeld).size); clear hba
  go_wp2_with fail
  refine hK.out _ _ ?_ (fun hHeld => ?_)
  · exact HBe
  clear hK K
  try simp only [Act.put, List.setIfInBounds_toArray, List.set_cons_zero, List.set_cons_succ]
  refine take_dstH (i := 26) (d := 33) (v := ?_) rfl rfl (by kernel_rfl) (by kernel_rfl) (by kernel_rfl) (fun _ _ _ h => h) (by rfl) hHeld ?_ ?_
  rotate_left
  · intro wZ hSw; clear hSw; go_simp; first | (with_reducible rfl) | (rw [if_pos (by omega)]; with_reducible rfl) | skip
  try simp only [Act.put, List.setIfInBounds_toArray, List.set_cons_zero, List.set_cons_succ]
  refine take_dstH (i := 27) (d := 6) (v := ?_) rfl rfl (by kernel_rfl) (by kernel_rfl) (by kernel_rfl) (fun _ _ _ h => h) (by rfl) hHeld ?_ ?_
  rotate_left
  · intro wZ hSw; clear hSw; go_simp; first | (with_reducible rfl) | (rw [if_pos (by omega)]; with_reducible rfl) | skip
  try simp only [Act.put, List.setIfInBounds_toArray, List.set_cons_zero, List.set_cons_succ]
  refine wpAnyH_done (by kernel_rfl) ?_ _
  all_goals
    go_wp2
    go_ret
    exact ⟨rfl, AB.out.trans (HBe.out.mono AB.out.size)⟩

theorem walk (key a b : List Nat) (w : World) (hk : Blk key) (ha : Blk a) (hb : Blk b) :
    Calls Try.prog 8 #[.agg (u8s key).toArray, .agg (u8s a).toArray, .agg (u8s b).toArray] w fun e w' => e = .returned (.bool true) ∧ Below w.heap.size w w' := by
  have hf := rd_blk sw_lt hk
  have hA := hdF_blk hf ha 10
  have hB := hdF_blk hf hb 10
  have sA := (shF_blk (f := rdF swT key) ha 10).add (hf 0)
  have sB := (shF_blk (f := rdF swT key) hb 10).add (hf 0)
  have i1 : (hdF (rdF swT key) a 10 = hdF (rdF swT key) b 10) ↔ a = b := ⟨fun h => by rw [← show_hide hf ha, h, show_hide hf hb], fun h => by rw [h]⟩
  have i2 : (addL (shF (rdF swT key) a 10) (rdF swT key 0) = addL (shF (rdF swT key) b 10) (rdF swT key 0)) ↔ a = b := ⟨fun h => by rw [← hide_show hf ha, h, hide_show hf hb], fun h => by rw [h]⟩
  exact walk_in key a b _ _ _ _ (decide (a = b)) w hk ha hb rfl (fun v => by rw [eq_blk hA hB v, decide_eq_decide.2 i1]) (fun v => by rw [eq_blk sA sB v, decide_eq_decide.2 i2])
    (fun v => Hide_of key a _ v hk ha rfl) (fun v => Hide_of key b _ v hk hb rfl) (fun v => Show_of key a _ v hk ha rfl) (fun v => Show_of key b _ v hk hb rfl)

theorem own : ownKnob Try.prog.godebug = none := by kernel_rfl
theorem laidOut : laidOutB Try.prog = true := by kernel_rfl
set_option maxRecDepth 100000 in
theorem lifted (os : Os) (started : os.Started) (H : Type) (enc : TypeId × Value → H) :
    ReturnsInHanded {} Try.checked os 8 .any (Rows.aesApartSpec.pre6 enc Try.prog Try.f8 Rows.aesApartRow.domain false) (Rows.aesApartSpec.post enc Try.prog Try.f8 false true false false) := by
  refine returnsInHanded_of_change (C := Try.checked) own started (by kernel_rfl) Try.func8
    (ChangeSpec.witness6 (enc := enc) (C := Try.checked) false ⟨#[], #[.agg (u8s z16).toArray, .agg (u8s z16).toArray, .agg (u8s z16).toArray], []⟩ 8 (by kernel_rfl) (by kernel_rfl) (by kernel_rfl) (by kernel_rfl)) ?_
  intro W base args ds gs before hval0 hW hcnd _
  have hval : ∀ (j : Nat) t v, Try.f8.params[j]? = some t → args[j]? = some v → Value.okWide Try.prog W .any base t v := hval0
  have hW' := hW
  obtain ⟨p, q, hA0, hV, rfl, hfz, hnd⟩ := hW
  have hA : DataW.TrodAll enc Try.prog W 0 (fun _ => true) true Try.f8.params.toList args.toList ds p := hA0
  rw [Try.params8] at hA hval
  obtain ⟨v0, vs0, d0, ds0, p0, q0, hargs, rfl, rfl, h0, r0⟩ := trodAll_cons hA
  obtain ⟨v1, vs1, d1, ds1, p1, q1, rfl, rfl, rfl, h1, r1⟩ := trodAll_cons r0
  obtain ⟨v2, vs2, d2, ds2, p2, q2, rfl, rfl, rfl, h2, r2⟩ := trodAll_cons r1
  obtain ⟨rfl, rfl, rfl⟩ := trodAll_nil r2
  obtain rfl : args = #[v0, v1, v2] := by cases args; simp_all
  obtain ⟨rfl, rfl⟩ := trodVars_none hV
  have k0 := h0
  obtain ⟨x0, rfl, w0, z0⟩ := open_blk (hval 0 26 v0 rfl rfl) h0
  have k1 := h1
  obtain ⟨x1, rfl, w1, z1⟩ := open_blk (hval 1 26 v1 rfl rfl) h1
  have k2 := h2
  obtain ⟨x2, rfl, w2, z2⟩ := open_blk (hval 2 26 v2 rfl rfl) h2
  clear hA0 hval0
  refine (walk x0 x1 x2 W w0 w1 w2).mono fun e W' ⟨he, bel⟩ => ?_
  subst he
  exact ⟨_, rfl, _, _, _, [], _, [], hW', trodAll_mk1 (shut_bool Try.underlying4 _), (trodAll_cons_mk (Below.trod laidOut (by kernel_rfl) (of_decide_eq_true (by kernel_rfl)) k0 bel (fun x hx => (z0 x hx).elim)) (trodAll_cons_mk (Below.trod laidOut (by kernel_rfl) (of_decide_eq_true (by kernel_rfl)) k1 bel (fun x hx => (z1 x hx).elim)) (trodAll_cons_mk (Below.trod laidOut (by kernel_rfl) (of_decide_eq_true (by kernel_rfl)) k2 bel (fun x hx => (z2 x hx).elim)) trodAll_mk0))), rfl, bel.frame _, fun h => by cases h⟩

theorem over : Rows.aesApartRow.holds Try.pinned (OpenSpec.ofChange Rows.aesApartSpec) :=
  OpenClaim.holds_of_wide 8 Try.f8 rfl rfl rfl rfl rfl rfl rfl ⟨rfl, rfl, rfl, rfl, rfl⟩ rfl rfl rfl rfl rfl (by kernel_rfl) Try.func8 (by kernel_rfl)
    (of_decide_eq_true (by kernel_rfl)) (by unfold Func.isWrapper; first | (rw [if_pos (by decide +kernel)]; kernel_rfl) | (rw [if_neg (by decide +kernel)]; exact ⟨rfl, rfl⟩))
    (fun os started H enc _ => lifted os started H enc)

end AesApartProof

/-- Unlike blocks are hidden as unlike ones, under one key. -/
theorem aesApart_holds : Rows.AesApartSaid := AesApartProof.over

#print axioms aesApart_holds
end Go.Proofs.Ytkafnkofanocpaa
