/-
  Walks: the reference's block by its number; the law's blocks.
-/
import Derived.Test.YtflakgigekfgcaaCG
import Derived.Test.YtflakgigekfgcaaCH
import Derived.Test.YtflakgigekfgcaaCI
namespace Go.Proofs.Ytflakgigekfgcaa
open Go.RowKit Go.Shelf

set_option maxHeartbeats 8000000 in
set_option maxRecDepth 100000 in
theorem rBlock_of (key L SW C : List Nat) (nn i : Nat) (w : World) (hk : Blk key) (hC : Blk C) (_hLl : L.length = 176) (hSW : SW.length = 256)
    (h1 : ∀ v, Calls Try.prog 21 #[] v fun e w' => e = .returned (.agg (u8s SW).toArray) ∧ Below v.heap.size v w')
    (h2 : ∀ v, Calls Try.prog 22 #[.agg (u8s key).toArray, .agg (u8s SW).toArray] v fun e w' => e = .returned (.agg (u8s L).toArray) ∧ Below v.heap.size v w')
    (h3 : ∀ v, Calls Try.prog 23 #[.agg (u8s L).toArray, .agg (u8s SW).toArray, .int .u64 (nn : Int), .int .i64 (i : Int)] v fun e w' => e = .returned (.agg (u8s C).toArray) ∧ Below v.heap.size v w') :
    Calls Try.prog 26 #[.agg (u8s key).toArray, .int .u64 (nn : Int), .int .i64 (i : Int)] w fun e w' => e = .returned (.agg (u8s C).toArray) ∧ Below w.heap.size w w' := by
  have H1 := hide h1
  have H2 := hide h2
  have H3 := hide h3
  have Ikey := hide (szl hk)
  have IC := hide (szb hC)
  have OC := hide (old16 hC.len)
  have ISW : Hid ((Try.prog.info? 52).map (·.size) = some (u8s SW).length) := by show _ = _; rw [info256]; simp [u8s, hSW]
  have IS : Hid ((Try.prog.info? 52).map (·.size) = some (u8s SW).toArray.size) := by show _ = _; rw [info256]; simp [u8s, hSW]
  have IS2 : Hid ((u8s z256).toArray.size = (u8s SW).toArray.size) := by show _ = _; simp [u8s, hSW, z256]
  have OS := hide (one_u8s SW)
  have Z1 := zero256
  have HZ : Hid (Arr ((w.alloc (Obj.cells (u8s key).toArray 22)).alloc (Obj.cells (u8s z16).toArray 22)) w.heap.size 22 (u8s key) ∧ Arr ((w.alloc (Obj.cells (u8s key).toArray 22)).alloc (Obj.cells (u8s z16).toArray 22)) (w.heap.size + 1) 22 (u8s z16) ∧ Below w.heap.size w ((w.alloc (Obj.cells (u8s key).toArray 22)).alloc (Obj.cells (u8s z16).toArray 22))) :=
    ⟨(Arr.new w _ (u8s key)).alloc _, Arr.newAt (w.alloc _) _ (u8s z16) _ (by simp), ((Below.refl _ _).alloc (Nat.le_refl _) _).alloc (by simp) _⟩
  clear hk hC hSW h1 h2 h3
  go_enter Try.func26, Try.ntmps26
  go_wp2_with fail
  refine (H1.out _).mono ?_
  rintro e wt ⟨rfl, hbt⟩
  have HT : Hid (Arr wt w.heap.size 22 (u8s key) ∧ Arr wt (w.heap.size + 1) 22 (u8s z16) ∧ Below w.heap.size w wt) := ⟨HZ.out.1.kept hbt, HZ.out.2.1.kept hbt, HZ.out.2.2.trans (hbt.mono HZ.out.2.2.size)⟩
  clear hbt HZ
  go_upto_region 2 with
    (refine wpList_store_row rfl 52 _ _ rfl wt.heap.size (u8s SW).toArray rfl rfl 52 _ (Arr.new wt _ (u8s z256)) IS.out IS2.out OS.out ?_)
  have hlt1 : w.heap.size + 1 < wt.heap.size := HT.out.2.1.lt
  have HU : Hid ((Arr ((wt.alloc (Obj.cells (u8s z256).toArray 52)).setRow wt.heap.size (u8s SW).toArray) w.heap.size 22 (u8s key) ∧ Arr ((wt.alloc (Obj.cells (u8s z256).toArray 52)).setRow wt.heap.size (u8s SW).toArray) (w.heap.size + 1) 22 (u8s z16)) ∧ Arr ((wt.alloc (Obj.cells (u8s z256).toArray 52)).setRow wt.heap.size (u8s SW).toArray) wt.heap.size 52 (u8s SW) ∧ Below w.heap.size w ((wt.alloc (Obj.cells (u8s z256).toArray 52)).setRow wt.heap.size (u8s SW).toArray)) :=
    ⟨⟨(HT.out.1.alloc _).rowOther _ _ (by omega), (HT.out.2.1.alloc _).rowOther _ _ (by omega)⟩, (Arr.new wt _ (u8s z256)).row _, below_setRow (HT.out.2.2.alloc HT.out.2.2.size _) HT.out.2.2.size (by simp) _⟩
  clear HT hlt1
  generalize (wt.alloc (Obj.cells (u8s z256).toArray 52)).setRow wt.heap.size (u8s SW).toArray = w2 at *
  generalize wt.heap.size = g at *
  have Lkey : Hid (∀ v : World, Hid (Below w2.heap.size w2 v) → Arr v w.heap.size 22 (u8s key)) := fun v h => HU.out.1.1.kept h.out
  have Lres : Hid (∀ v : World, Hid (Below w2.heap.size w2 v) → Arr v (w.heap.size + 1) 22 (u8s z16)) := fun v h => HU.out.1.2.kept h.out
  have LSW : Hid (∀ v : World, Hid (Below w2.heap.size w2 v) → Arr v g 52 (u8s SW)) := fun v h => HU.out.2.1.kept h.out
  have AB := hide HU.out.2.2
  clear HU
  refine wp_region_late (S := fun v => Hid (Below w2.heap.size w2 v)) [7] (by kernel_rfl) (hide (Below.refl w2.heap.size w2).drew) (fun hHeld => ?_)
  refine take_dstT (i := 0) (d := 9) (v := ?_) rfl rfl (by kernel_rfl) (by kernel_rfl) (by kernel_rfl) (by kernel_rfl) (fun _ _ _ h => h) (by rfl) hHeld ?_ ?_
  rotate_left
  · intro wZ hSw; refine exec_load_all 22 (.tmp 3) ?_ w.heap.size ?_ 22 (u8s key) _ (Lkey.out wZ hSw) Try.underlying22 rfl Ikey.out <;> rfl
  try simp only [Act.put, List.setIfInBounds_toArray, List.set_cons_zero, List.set_cons_succ]
  refine take_dstT (i := 1) (d := 10) (v := ?_) rfl rfl (by kernel_rfl) (by kernel_rfl) (by kernel_rfl) (by kernel_rfl) (fun _ _ _ h => h) (by rfl) hHeld ?_ ?_
  rotate_left
  · intro wZ hSw; refine exec_load_all 52 (.tmp 7) ?_ g ?_ 52 (u8s SW) _ (LSW.out wZ hSw) Try.underlying52 rfl ISW.out <;> rfl
  try simp only [Act.put, List.setIfInBounds_toArray, List.set_cons_zero, List.set_cons_succ]
  refine take_dstT (i := 3) (d := 12) (v := ?_) rfl rfl (by kernel_rfl) (by kernel_rfl) (by kernel_rfl) (by kernel_rfl) (fun _ _ _ h => h) (by rfl) hHeld ?_ ?_
  rotate_left
  · intro wZ hSw; refine exec_load_all 52 (.tmp 7) ?_ g ?_ 52 (u8s SW) _ (LSW.out wZ hSw) Try.underlying52 rfl ISW.out <;> rfl
  try simp only [Act.put, List.setIfInBounds_toArray, List.set_cons_zero, List.set_cons_succ]
  refine take_dstT (i := 4) (d := 13) (v := ?_) rfl rfl (by kernel_rfl) (by kernel_rfl) (by kernel_rfl) (by kernel_rfl) (fun _ _ _ h => h) (by rfl) hHeld ?_ ?_
  rotate_left
  · intro wZ hSw; clear hSw; go_simp; first | (with_reducible rfl) | (rw [if_pos (by omega)]; with_reducible rfl) | skip
  try simp only [Act.put, List.setIfInBounds_toArray, List.set_cons_zero, List.set_cons_succ]
  refine take_dstT (i := 5) (d := 14) (v := ?_) rfl rfl (by kernel_rfl) (by kernel_rfl) (by kernel_rfl) (by kernel_rfl) (fun _ _ _ h => h) (by rfl) hHeld ?_ ?_
  rotate_left
  · intro wZ hSw; clear hSw; go_simp; first | (with_reducible rfl) | (rw [if_pos (by omega)]; with_reducible rfl) | skip
  try simp only [Act.put, List.setIfInBounds_toArray, List.set_cons_zero, List.set_cons_succ]
  refine wpAnyT_ready (rs := [2]) (by kernel_rfl) (by simp) ?_
  refine (AllReadyT.cons rfl (fun K hK => ?_) AllReadyT.nil)
  go_simp
  refine (H2.out _).mono ?_; rintro e wab ⟨rfl, hba⟩; have HBb : Hid (Below w2.heap.size w2 wab) := (Hid.out hHeld).trans (hba.mono (Hid.out hHeld).size); clear hba
  go_wp2_with fail
  refine hK.out _ _ ?_ (fun hHeld => ?_)
  · exact HBb
  clear hK K
  try simp only [Act.put, List.setIfInBounds_toArray, List.set_cons_zero, List.set_cons_succ]
  refine wpAnyT_ready (rs := [6]) (by kernel_rfl) (by simp) ?_
  refine (AllReadyT.cons rfl (fun K hK => ?_) AllReadyT.nil)
  go_simp
  refine (H3.out _).mono ?_; rintro e wac ⟨rfl, hba⟩; have HBc : Hid (Below w2.heap.size w2 wac) := (Hid.out hHeld).trans (hba.mono (Hid.out hHeld).size); clear hba
  go_wp2_with fail
  refine hK.out _ _ ?_ (fun hHeld => ?_)
  · exact HBc
  clear hK K
  try simp only [Act.put, List.setIfInBounds_toArray, List.set_cons_zero, List.set_cons_succ]
  refine wpAnyT_ready (rs := [7]) (by kernel_rfl) (by simp) ?_
  refine (AllReadyT.last rfl (by decide) (fun K hK => ?_) AllReadyT.nil)
  refine wp_store_dst rfl 22 (.tmp 6) (.tmp 15) rfl (w.heap.size + 1) _ rfl rfl 22 _ (Lres.out _ hHeld) IC.out OC.out (one_u8s _) ?_
  refine hK.out _ _ ?_
  clear hK K
  try simp only [Act.put, List.setIfInBounds_toArray, List.set_cons_zero, List.set_cons_succ]
  refine wpAnyT_done (by kernel_rfl) ?_ _
  have AR := hide (Lres.out _ HBc)
  have AZ := hide (AB.out.trans (HBc.out.mono AB.out.size))
  go_wp2
  exact bodyPost_ret (v := .agg (u8s C).toArray) (results_cell_row Try.results26 _ _ (w.heap.size + 1) 22 _ (0, 0) _ rfl (AR.out.row _) Try.underlying22 rfl IC.out) rfl ⟨rfl, below_setRow AZ.out (by omega) AR.out.lt _⟩

theorem rBlock_any (key : List Nat) (nn i : Nat) (w : World) (hk : Blk key) (hi : i < 9223372036854775808) :
    Calls Try.prog 26 #[.agg (u8s key).toArray, .int .u64 (nn : Int), .int .i64 (i : Int)] w fun e w' => e = .returned (.agg (u8s (hbF key nn i)).toArray) ∧ Below w.heap.size w w' :=
  rBlock_of key _ swT _ nn i w hk (hbF_blk hk nn i) (flF_length (rdF_length hk.len) 11) swT_length rtable_any (fun v => rrounds_any key v hk) (fun v => rblock_any key nn i v hk hi)

end Go.Proofs.Ytflakgigekfgcaa
