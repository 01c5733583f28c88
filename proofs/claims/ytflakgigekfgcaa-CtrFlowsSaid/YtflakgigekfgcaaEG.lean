/-
  A walk: the round behind a round.
-/
import Derived.Test.YtflakgigekfgcaaEF
namespace Go.Proofs.Ytflakgigekfgcaa
open Go.RowKit

/-- what the first column has added, of the last one of a round -/
def colF (s b : List Nat) (p : Nat) : List Nat := [s.getD (b.getD 13 0) 0 ^^^ p, s.getD (b.getD 14 0) 0, s.getD (b.getD 15 0) 0, s.getD (b.getD 12 0) 0]
/-- a column's byte behind so many bytes -/
def nC (c b : List Nat) : Nat → Nat → Nat
  | 0, j => c.getD j 0
  | i + 1, j => if i % 4 = j then nC c b i j ^^^ b.getD i 0 else nC c b i j
def nK (c b : List Nat) (i : Nat) : List Nat := [nC c b i 0, nC c b i 1, nC c b i 2, nC c b i 3]
/-- the round behind b -/
def nxL (s b : List Nat) (p : Nat) : List Nat := (List.range 16).map fun i => nC (colF s b p) b (i + 1) (i % 4)

theorem nxL_length (s b : List Nat) (p : Nat) : (nxL s b p).length = 16 := by simp [nxL]
theorem nxL_at (s b : List Nat) (p i : Nat) (hi : i < 16) : (nxL s b p).getD i 0 = nC (colF s b p) b (i + 1) (i % 4) := by simp [nxL, List.getD, hi]
theorem nK_length (c b : List Nat) (i : Nat) : (nK c b i).length = 4 := rfl
theorem nK_at (c b : List Nat) (i j : Nat) (hj : j < 4) : (nK c b i).getD j 0 = nC c b i j := by
  rcases (show j = 0 ∨ j = 1 ∨ j = 2 ∨ j = 3 by omega) with rfl | rfl | rfl | rfl <;> rfl
theorem nK_next (c b : List Nat) (i : Nat) : (nK c b i).set (i % 4) (nC c b (i + 1) (i % 4)) = nK c b (i + 1) := by
  have h : i % 4 < 4 := Nat.mod_lt _ (by omega)
  generalize hq : i % 4 = q at h
  rcases (show q = 0 ∨ q = 1 ∨ q = 2 ∨ q = 3 by omega) with rfl | rfl | rfl | rfl <;> simp [nK, nC, hq]
theorem nC_lt {c b : List Nat} (hc : ∀ i, c.getD i 0 < 256) (hb : ∀ i, b.getD i 0 < 256) : ∀ i j, nC c b i j < 256 := by
  intro i
  induction i with
  | zero => intro j; exact hc j
  | succ i ih =>
    intro j
    unfold nC
    split
    · exact xor_lt8 (ih j) (hb i)
    · exact ih j
theorem colF_lt {s b : List Nat} {p : Nat} (hs : ∀ i, s.getD i 0 < 256) (hp : p < 256) (i : Nat) : (colF s b p).getD i 0 < 256 := by
  have h1 := xor_lt8 (hs (b.getD 13 0)) hp
  unfold colF
  match i with
  | 0 => exact h1
  | 1 => exact hs _
  | 2 => exact hs _
  | 3 => exact hs _
  | i + 4 => simp

/-- what lies in memory while the round behind is made -/
def StN (w wr : World) (b s c : List Nat) : Prop :=
  Arr wr w.heap.size 22 (u8s b) ∧ Arr wr (w.heap.size + 1) 52 (u8s s) ∧ Arr wr (w.heap.size + 1 + 1) 22 (u8s z16) ∧ Arr wr (w.heap.size + 1 + 1 + 1) 62 (u8s c) ∧ Below w.heap.size w wr
theorem StN.setB {w wr : World} {b s c : List Nat} (r : StN w wr b s c) (i x : Nat) : StN w (wr.setCell ⟨w.heap.size, i, none⟩ (.int .u8 ((x : Nat) : Int))) (b.set i x) s c := by
  obtain ⟨h0, h1, h2, h3, h4⟩ := r
  refine ⟨?_, h1.other _ _ (show w.heap.size + 1 ≠ w.heap.size by omega), h2.other _ _ (show w.heap.size + 1 + 1 ≠ w.heap.size by omega), h3.other _ _ (show w.heap.size + 1 + 1 + 1 ≠ w.heap.size by omega), h4.setCell (show w.heap.size ≤ w.heap.size by omega) _⟩
  have := h0.set i (.int .u8 ((x : Nat) : Int))
  rw [u8s_set] at this
  exact this
theorem StN.setC {w wr : World} {b s c : List Nat} (r : StN w wr b s c) (i x : Nat) : StN w (wr.setCell ⟨w.heap.size + 1 + 1 + 1, i, none⟩ (.int .u8 ((x : Nat) : Int))) b s (c.set i x) := by
  obtain ⟨h0, h1, h2, h3, h4⟩ := r
  refine ⟨h0.other _ _ (show w.heap.size ≠ w.heap.size + 1 + 1 + 1 by omega), h1.other _ _ (show w.heap.size + 1 ≠ w.heap.size + 1 + 1 + 1 by omega), h2.other _ _ (show w.heap.size + 1 + 1 ≠ w.heap.size + 1 + 1 + 1 by omega), ?_, h4.setCell (show w.heap.size ≤ w.heap.size + 1 + 1 + 1 by omega) _⟩
  have := h3.set i (.int .u8 ((x : Nat) : Int))
  rw [u8s_set] at this
  exact this
theorem StN.drew {w wr : World} {b s c : List Nat} (r : StN w wr b s c) : StN w wr.drew b s c := ⟨r.1, r.2.1, r.2.2.1, r.2.2.2.1, r.2.2.2.2.drew⟩

set_option maxHeartbeats 8000000 in
set_option maxRecDepth 100000 in
theorem next_of (b s T : List Nat) (p : Nat) (w : World) (bl : b.length = 16) (sl : s.length = 256) (hb : ∀ i, b.getD i 0 < 256) (hs : ∀ i, s.getD i 0 < 256) (hp : p < 256) (hT : T = nxL s b p) :
    Calls Try.prog 44 #[.agg (u8s b).toArray, .agg (u8s s).toArray, .int .u8 ((p : Nat) : Int)] w fun e w' => e = .returned (.agg (u8s T).toArray) ∧ Below w.heap.size w w' := by
  have BL := hide bl
  have SL := hide sl
  have HB := hide hb
  have HS := hide hs
  have TL : Hid (T.length = 16) := by show _ = _; rw [hT, nxL_length]
  have HT : Hid (∀ i, i < 16 → T.getD i 0 = nC (colF s b p) b (i + 1) (i % 4)) := fun i hi => by rw [hT, nxL_at _ _ _ _ hi]
  obtain ⟨c, hc⟩ : ∃ c, c = colF s b p := ⟨_, rfl⟩
  have HC := hide hc
  have CB : Hid (∀ i, c.getD i 0 < 256) := fun i => by rw [hc]; exact colF_lt hs hp i
  rw [← hc] at HT
  have L13 : Hid (∀ v : World, Hid (Arr v w.heap.size 22 (u8s b) ∧ Arr v (w.heap.size + 1) 52 (u8s s)) → v.cell? ⟨w.heap.size, 13, none⟩ = some (.int .u8 ((b.getD 13 0 : Nat) : Int))) := fun v hv => (hv.out.1.cell 13).trans (u8s_at (by omega))
  have L14 : Hid (∀ v : World, Hid (Arr v w.heap.size 22 (u8s b) ∧ Arr v (w.heap.size + 1) 52 (u8s s)) → v.cell? ⟨w.heap.size, 14, none⟩ = some (.int .u8 ((b.getD 14 0 : Nat) : Int))) := fun v hv => (hv.out.1.cell 14).trans (u8s_at (by omega))
  have L15 : Hid (∀ v : World, Hid (Arr v w.heap.size 22 (u8s b) ∧ Arr v (w.heap.size + 1) 52 (u8s s)) → v.cell? ⟨w.heap.size, 15, none⟩ = some (.int .u8 ((b.getD 15 0 : Nat) : Int))) := fun v hv => (hv.out.1.cell 15).trans (u8s_at (by omega))
  have L12 : Hid (∀ v : World, Hid (Arr v w.heap.size 22 (u8s b) ∧ Arr v (w.heap.size + 1) 52 (u8s s)) → v.cell? ⟨w.heap.size, 12, none⟩ = some (.int .u8 ((b.getD 12 0 : Nat) : Int))) := fun v hv => (hv.out.1.cell 12).trans (u8s_at (by omega))
  have M : ∀ x, x < 256 → ∀ v : World, Hid (Arr v w.heap.size 22 (u8s b) ∧ Arr v (w.heap.size + 1) 52 (u8s s)) → v.cell? ⟨w.heap.size + 1, x, none⟩ = some (.int .u8 ((s.getD x 0 : Nat) : Int)) := fun x hx v hv => (hv.out.2.cell x).trans (u8s_at (by omega))
  have M13 := hide (M _ (hb 13))
  have M14 := hide (M _ (hb 14))
  have M15 := hide (M _ (hb 15))
  have M12 := hide (M _ (hb 12))
  have HX := hide (u8_xor_nat (s.getD (b.getD 13 0) 0) p (hs _) hp)
  have CC : Hid ([Value.int .u8 ((s.getD (b.getD 13 0) 0 ^^^ p : Nat) : Int), .int .u8 ((s.getD (b.getD 14 0) 0 : Nat) : Int), .int .u8 ((s.getD (b.getD 15 0) 0 : Nat) : Int), .int .u8 ((s.getD (b.getD 12 0) 0 : Nat) : Int)] = u8s c) := by show _ = _; rw [hc]; rfl
  have y13 : ((b.getD 13 0 : Nat) : Int) < 256 := by have := hb 13; omega
  have y14 : ((b.getD 14 0 : Nat) : Int) < 256 := by have := hb 14; omega
  have y15 : ((b.getD 15 0 : Nat) : Int) < 256 := by have := hb 15; omega
  have y12 : ((b.getD 12 0 : Nat) : Int) < 256 := by have := hb 12; omega
  clear M hb hs bl sl hT hc
  generalize s.getD (b.getD 13 0) 0 = x13 at *
  generalize s.getD (b.getD 14 0) 0 = x14 at *
  generalize s.getD (b.getD 15 0) 0 = x15 at *
  generalize s.getD (b.getD 12 0) 0 = x12 at *
  generalize b.getD 13 0 = z13 at *
  generalize b.getD 14 0 = z14 at *
  generalize b.getD 15 0 = z15 at *
  generalize b.getD 12 0 = z12 at *
  have H3 := hide (St3.start w 52 b s)
  go_enter Try.func44, Try.ntmps44
  go_wp2_with fail
  refine wp_region_held_drew (S := fun w' => Hid (Arr w' w.heap.size 22 (u8s b) ∧ Arr w' (w.heap.size + 1) 52 (u8s s))) (by kernel_rfl) (hide ⟨H3.out.1, H3.out.2.1⟩) (fun hHeld => ?_)
  refine take_dstH (i := 0) (d := 9) (v := ?_) rfl rfl (by kernel_rfl) (by kernel_rfl) (by kernel_rfl) (fun _ _ _ h => h) (by rfl) hHeld ?_ ?_
  rotate_left
  · intro wZ hSw; clear hSw; go_simp; first | (with_reducible rfl) | (rw [if_pos (by omega)]; with_reducible rfl) | skip
  try simp only [Act.put, List.setIfInBounds_toArray, List.set_cons_zero, List.set_cons_succ]
  refine take_dstH (i := 1) (d := 10) (v := ?_) rfl rfl (by kernel_rfl) (by kernel_rfl) (by kernel_rfl) (fun _ _ _ h => h) (by rfl) hHeld ?_ ?_
  rotate_left
  · intro wZ hSw; have hfS := L13.out wZ hSw; clear hSw; go_simp; first | (with_reducible rfl) | (rw [if_pos (by omega)]; with_reducible rfl) | skip
  try simp only [Act.put, List.setIfInBounds_toArray, List.set_cons_zero, List.set_cons_succ]
  refine take_dstH (i := 2) (d := 11) (v := ?_) rfl rfl (by kernel_rfl) (by kernel_rfl) (by kernel_rfl) (fun _ _ _ h => h) (by rfl) hHeld ?_ ?_
  rotate_left
  · intro wZ hSw; clear hSw; go_simp; first | (with_reducible rfl) | (rw [if_pos (by omega)]; with_reducible rfl) | skip
  try simp only [Act.put, List.setIfInBounds_toArray, List.set_cons_zero, List.set_cons_succ]
  refine take_dstH (i := 3) (d := 12) (v := ?_) rfl rfl (by kernel_rfl) (by kernel_rfl) (by kernel_rfl) (fun _ _ _ h => h) (by rfl) hHeld ?_ ?_
  rotate_left
  · intro wZ hSw; have hfS := M13.out wZ hSw; clear hSw; go_simp; first | (with_reducible rfl) | (rw [if_pos (by omega)]; with_reducible rfl) | skip
  try simp only [Act.put, List.setIfInBounds_toArray, List.set_cons_zero, List.set_cons_succ]
  refine take_dstH (i := 4) (d := 13) (v := ?_) rfl rfl (by kernel_rfl) (by kernel_rfl) (by kernel_rfl) (fun _ _ _ h => h) (by rfl) hHeld ?_ ?_
  rotate_left
  · intro wZ hSw; clear hSw; go_simp; first | (with_reducible rfl) | (rw [if_pos (by omega)]; with_reducible rfl) | skip
  try simp only [Act.put, List.setIfInBounds_toArray, List.set_cons_zero, List.set_cons_succ]
  refine take_dstH (i := 5) (d := 14) (v := ?_) rfl rfl (by kernel_rfl) (by kernel_rfl) (by kernel_rfl) (fun _ _ _ h => h) (by rfl) hHeld ?_ ?_
  rotate_left
  · intro wZ hSw; clear hSw; go_simp; first | (with_reducible rfl) | (rw [if_pos (by omega)]; with_reducible rfl) | skip
  try simp only [Act.put, List.setIfInBounds_toArray, List.set_cons_zero, List.set_cons_succ]
  refine take_dstH (i := 6) (d := 15) (v := ?_) rfl rfl (by kernel_rfl) (by kernel_rfl) (by kernel_rfl) (fun _ _ _ h => h) (by rfl) hHeld ?_ ?_
  rotate_left
  · intro wZ hSw; clear hSw; go_simp; first | (with_reducible rfl) | (rw [if_pos (by omega)]; with_reducible rfl) | skip
  try simp only [Act.put, List.setIfInBounds_toArray, List.set_cons_zero, List.set_cons_succ]
  refine take_dstH (i := 7) (d := 16) (v := ?_) rfl rfl (by kernel_rfl) (by kernel_rfl) (by kernel_rfl) (fun _ _ _ h => h) (by rfl) hHeld ?_ ?_
  rotate_left
  · intro wZ hSw; have hfS := L14.out wZ hSw; clear hSw; go_simp; first | (with_reducible rfl) | (rw [if_pos (by omega)]; with_reducible rfl) | skip
  try simp only [Act.put, List.setIfInBounds_toArray, List.set_cons_zero, List.set_cons_succ]
  refine take_dstH (i := 8) (d := 17) (v := ?_) rfl rfl (by kernel_rfl) (by kernel_rfl) (by kernel_rfl) (fun _ _ _ h => h) (by rfl) hHeld ?_ ?_
  rotate_left
  · intro wZ hSw; clear hSw; go_simp; first | (with_reducible rfl) | (rw [if_pos (by omega)]; with_reducible rfl) | skip
  try simp only [Act.put, List.setIfInBounds_toArray, List.set_cons_zero, List.set_cons_succ]
  refine take_dstH (i := 9) (d := 18) (v := ?_) rfl rfl (by kernel_rfl) (by kernel_rfl) (by kernel_rfl) (fun _ _ _ h => h) (by rfl) hHeld ?_ ?_
  rotate_left
  · intro wZ hSw; have hfS := M14.out wZ hSw; clear hSw; go_simp; first | (with_reducible rfl) | (rw [if_pos (by omega)]; with_reducible rfl) | skip
  try simp only [Act.put, List.setIfInBounds_toArray, List.set_cons_zero, List.set_cons_succ]
  refine take_dstH (i := 10) (d := 19) (v := ?_) rfl rfl (by kernel_rfl) (by kernel_rfl) (by kernel_rfl) (fun _ _ _ h => h) (by rfl) hHeld ?_ ?_
  rotate_left
  · intro wZ hSw; clear hSw; go_simp; first | (with_reducible rfl) | (rw [if_pos (by omega)]; with_reducible rfl) | skip
  try simp only [Act.put, List.setIfInBounds_toArray, List.set_cons_zero, List.set_cons_succ]
  refine take_dstH (i := 11) (d := 20) (v := ?_) rfl rfl (by kernel_rfl) (by kernel_rfl) (by kernel_rfl) (fun _ _ _ h => h) (by rfl) hHeld ?_ ?_
  rotate_left
  · intro wZ hSw; have hfS := L15.out wZ hSw; clear hSw; go_simp; first | (with_reducible rfl) | (rw [if_pos (by omega)]; with_reducible rfl) | skip
  try simp only [Act.put, List.setIfInBounds_toArray, List.set_cons_zero, List.set_cons_succ]
  refine take_dstH (i := 12) (d := 21) (v := ?_) rfl rfl (by kernel_rfl) (by kernel_rfl) (by kernel_rfl) (fun _ _ _ h => h) (by rfl) hHeld ?_ ?_
  rotate_left
  · intro wZ hSw; clear hSw; go_simp; first | (with_reducible rfl) | (rw [if_pos (by omega)]; with_reducible rfl) | skip
  try simp only [Act.put, List.setIfInBounds_toArray, List.set_cons_zero, List.set_cons_succ]
  refine take_dstH (i := 13) (d := 22) (v := ?_) rfl rfl (by kernel_rfl) (by kernel_rfl) (by kernel_rfl) (fun _ _ _ h => h) (by rfl) hHeld ?_ ?_
  rotate_left
  · intro wZ hSw; have hfS := M15.out wZ hSw; clear hSw; go_simp; first | (with_reducible rfl) | (rw [if_pos (by omega)]; with_reducible rfl) | skip
  try simp only [Act.put, List.setIfInBounds_toArray, List.set_cons_zero, List.set_cons_succ]
  refine take_dstH (i := 14) (d := 23) (v := ?_) rfl rfl (by kernel_rfl) (by kernel_rfl) (by kernel_rfl) (fun _ _ _ h => h) (by rfl) hHeld ?_ ?_
  rotate_left
  · intro wZ hSw; clear hSw; go_simp; first | (with_reducible rfl) | (rw [if_pos (by omega)]; with_reducible rfl) | skip
  try simp only [Act.put, List.setIfInBounds_toArray, List.set_cons_zero, List.set_cons_succ]
  refine take_dstH (i := 15) (d := 24) (v := ?_) rfl rfl (by kernel_rfl) (by kernel_rfl) (by kernel_rfl) (fun _ _ _ h => h) (by rfl) hHeld ?_ ?_
  rotate_left
  · intro wZ hSw; have hfS := L12.out wZ hSw; clear hSw; go_simp; first | (with_reducible rfl) | (rw [if_pos (by omega)]; with_reducible rfl) | skip
  try simp only [Act.put, List.setIfInBounds_toArray, List.set_cons_zero, List.set_cons_succ]
  refine take_dstH (i := 16) (d := 25) (v := ?_) rfl rfl (by kernel_rfl) (by kernel_rfl) (by kernel_rfl) (fun _ _ _ h => h) (by rfl) hHeld ?_ ?_
  rotate_left
  · intro wZ hSw; clear hSw; go_simp; first | (with_reducible rfl) | (rw [if_pos (by omega)]; with_reducible rfl) | skip
  try simp only [Act.put, List.setIfInBounds_toArray, List.set_cons_zero, List.set_cons_succ]
  refine take_dstH (i := 17) (d := 26) (v := ?_) rfl rfl (by kernel_rfl) (by kernel_rfl) (by kernel_rfl) (fun _ _ _ h => h) (by rfl) hHeld ?_ ?_
  rotate_left
  · intro wZ hSw; have hfS := M12.out wZ hSw; clear hSw; go_simp; first | (with_reducible rfl) | (rw [if_pos (by omega)]; with_reducible rfl) | skip
  try simp only [Act.put, List.setIfInBounds_toArray, List.set_cons_zero, List.set_cons_succ]
  refine take_dstH (i := 18) (d := 27) (v := ?_) rfl rfl (by kernel_rfl) (by kernel_rfl) (by kernel_rfl) (fun _ _ _ h => h) (by rfl) hHeld ?_ ?_
  rotate_left
  · intro wZ hSw; clear hSw; go_simp; first | (with_reducible rfl) | (rw [if_pos (by omega)]; with_reducible rfl) | skip
  try simp only [Act.put, List.setIfInBounds_toArray, List.set_cons_zero, List.set_cons_succ]
  refine wpAnyH_ready (rs := [19]) (by kernel_rfl) (by simp) ?_
  refine (AllReadyH.cons rfl (fun K hK => ?_) AllReadyH.nil)
  go_simp
  refine hK.out _ _ ?_ (fun hHeld => ?_)
  · exact (fun h : Hid _ => hide ⟨h.out.1.alloc _, h.out.2.alloc _⟩) hHeld
  clear hK K
  try simp only [Act.put, List.setIfInBounds_toArray, List.set_cons_zero, List.set_cons_succ]
  refine wpAnyH_ready (rs := [20]) (by kernel_rfl) (by simp) ?_
  refine (AllReadyH.cons rfl (fun K hK => ?_) AllReadyH.nil)
  refine wp_store_dst rfl 62 (.tmp 7) (.tmp 27) rfl (w.heap.size + 1 + 1 + 1) _ rfl rfl 62 _ (Arr.newAt (((w.alloc _).alloc _).alloc _) 62 [.int .u8 0, .int .u8 0, .int .u8 0, .int .u8 0] (w.heap.size + 1 + 1 + 1) (by simp)) (by rw [info4]; rfl) rfl (by simp [Value.oneCell']) ?_
  refine hK.out _ _ ?_ (fun hHeld => ?_)
  · exact (fun h : Hid _ => hide ⟨h.out.1.rowOther _ _ (by omega), h.out.2.rowOther _ _ (by omega)⟩) hHeld
  clear hK K
  try simp only [Act.put, List.setIfInBounds_toArray, List.set_cons_zero, List.set_cons_succ]
  refine wpAnyH_done (by kernel_rfl) ?_ _
  rw [HX.out, CC.out]
  clear hHeld L13 L14 L15 L12 M13 M14 M15 M12 HX CC y13 y14 y15 y12
  go_wp2
  go_loopg [28] 17 (fun f s28 wr => ∃ (i : Nat), s28 = .int .i64 i ∧ i ≤ 16 ∧ 16 - i < f ∧ Hid (StN w wr (over T b i) s (nK c b i)))
  case atStart =>
    refine ⟨0, rfl, by omega, by omega, ?_⟩
    rw [over_zero]
    have hc0 : nK c b 0 = c := by rw [HC.out]; rfl
    rw [hc0]
    exact ⟨(H3.out.1.alloc _).rowOther _ _ (by omega), (H3.out.2.1.alloc _).rowOther _ _ (by omega), (H3.out.2.2.1.alloc _).rowOther _ _ (by omega), (Arr.newAt _ _ [.int .u8 0, .int .u8 0, .int .u8 0, .int .u8 0] _ (by simp)).row _, below_setRow (g := w.heap.size + 1 + 1 + 1) ((H3.out.2.2.2.alloc (by simp; omega) _).drew) (by omega) (by simp) _⟩
  case round =>
    clear H3
    obtain ⟨i, rfl, hi, hf, HR⟩ := hrel
    by_cases hlt : i < 16
    · obtain ⟨q, hq⟩ : ∃ q, q = i % 4 := ⟨_, rfl⟩
      have q1 : Int.tmod (i : Int) 4 = (q : Int) := by rw [Int.tmod_eq_emod_of_nonneg (by omega)]; omega
      have q2 : (i : Int) % 4 = (q : Int) := by omega
      have hq3 : (q : Int) < 4 := by omega
      have hi16 : (i : Int) < 16 := by omega
      have e1 := over_at T b 16 i i TL.out BL.out hlt
      rw [if_neg (by omega)] at e1
      have HCB : Hid (∀ v : World, Hid (Arr v w.heap.size 22 (u8s (over T b i))) → v.cell? ⟨w.heap.size, i, none⟩ = some (.int .u8 ((b.getD i 0 : Nat) : Int))) := fun v hv => by rw [← e1]; exact (hv.out.cell i).trans (u8s_at (by rw [over_length _ _ _ _ TL.out BL.out (by omega)]; omega))
      have cm := (HR.out.2.2.2.1.cell q).trans (u8s_at (by rw [nK_length]; omega))
      rw [nK_at _ _ _ _ (by omega)] at cm
      have fm := HR.out.2.2.2.1.frozen q
      have HX := hide (u8_xor_nat (nC c b i q) (b.getD i 0) (nC_lt CB.out HB.out i q) (HB.out i))
      have HN : Hid (nC c b i q ^^^ b.getD i 0 = T.getD i 0) := by show _ = _; rw [HT.out i hlt, ← hq]; show _ = (if i % 4 = q then nC c b i q ^^^ b.getD i 0 else nC c b i q); rw [if_pos hq.symm]
      have HK : Hid ((nK c b i).set q (T.getD i 0) = nK c b (i + 1)) := by show _ = _; rw [HT.out i hlt, hq, nK_next]
      have HO := hide (over_set T b 16 i TL.out BL.out hlt)
      have OL := hide (over_length T b 16 i TL.out BL.out (by omega))
      clear hq e1
      generalize nC c b i q = x at *
      generalize b.getD i 0 = y at *
      generalize hz : T.getD i 0 = z at *
      clear hz
      go_wp2_with fail
      refine wp_region_held_drew (S := fun w' => Hid (Arr w' w.heap.size 22 (u8s (over T b i)))) (by kernel_rfl) (hide HR.out.1) (fun hHeld => ?_)
      refine take_dstH (i := 0) (d := 31) (v := ?_) rfl rfl (by kernel_rfl) (by kernel_rfl) (by kernel_rfl) (fun _ _ _ h => h) (by rfl) hHeld ?_ ?_
      rotate_left
      · intro wZ hSw; clear hSw; go_simp; first | (with_reducible rfl) | (rw [if_pos (by omega)]; with_reducible rfl) | skip
      try simp only [Act.put, List.setIfInBounds_toArray, List.set_cons_zero, List.set_cons_succ]
      refine take_dstH (i := 1) (d := 32) (v := ?_) rfl rfl (by kernel_rfl) (by kernel_rfl) (by kernel_rfl) (fun _ _ _ h => h) (by rfl) hHeld ?_ ?_
      rotate_left
      · intro wZ hSw; clear hSw; go_simp; first | (with_reducible rfl) | (rw [if_pos (by omega)]; with_reducible rfl) | skip
      try simp only [Act.put, List.setIfInBounds_toArray, List.set_cons_zero, List.set_cons_succ]
      refine take_dstH (i := 2) (d := 33) (v := ?_) rfl rfl (by kernel_rfl) (by kernel_rfl) (by kernel_rfl) (fun _ _ _ h => h) (by rfl) hHeld ?_ ?_
      rotate_left
      · intro wZ hSw; clear hSw; go_simp; first | (with_reducible rfl) | (rw [if_pos (by omega)]; with_reducible rfl) | skip
      try simp only [Act.put, List.setIfInBounds_toArray, List.set_cons_zero, List.set_cons_succ]
      refine take_dstH (i := 4) (d := 35) (v := ?_) rfl rfl (by kernel_rfl) (by kernel_rfl) (by kernel_rfl) (fun _ _ _ h => h) (by rfl) hHeld ?_ ?_
      rotate_left
      · intro wZ hSw; clear hSw; go_simp; first | (with_reducible rfl) | (rw [if_pos (by omega)]; with_reducible rfl) | skip
      try simp only [Act.put, List.setIfInBounds_toArray, List.set_cons_zero, List.set_cons_succ]
      refine take_dstH (i := 5) (d := 36) (v := ?_) rfl rfl (by kernel_rfl) (by kernel_rfl) (by kernel_rfl) (fun _ _ _ h => h) (by rfl) hHeld ?_ ?_
      rotate_left
      · intro wZ hSw; clear hSw; go_simp; first | (with_reducible rfl) | (rw [if_pos (by omega)]; with_reducible rfl) | skip
      try simp only [Act.put, List.setIfInBounds_toArray, List.set_cons_zero, List.set_cons_succ]
      refine take_dstH (i := 6) (d := 37) (v := ?_) rfl rfl (by kernel_rfl) (by kernel_rfl) (by kernel_rfl) (fun _ _ _ h => h) (by rfl) hHeld ?_ ?_
      rotate_left
      · intro wZ hSw; have hfS := HCB.out wZ hSw; clear hSw; go_simp; first | (with_reducible rfl) | (rw [if_pos (by omega)]; with_reducible rfl) | skip
      try simp only [Act.put, List.setIfInBounds_toArray, List.set_cons_zero, List.set_cons_succ]
      refine wpAnyH_ready (rs := [3]) (by kernel_rfl) (by simp) ?_
      refine (AllReadyH.cons rfl (fun K hK => ?_) AllReadyH.nil)
      go_simp
      refine hK.out _ _ ?_ (fun hHeld => ?_)
      · exact hHeld
      clear hK K
      try simp only [Act.put, List.setIfInBounds_toArray, List.set_cons_zero, List.set_cons_succ]
      refine take_dstH (i := 7) (d := 38) (v := ?_) rfl rfl (by kernel_rfl) (by kernel_rfl) (by kernel_rfl) (fun _ _ _ h => h) (by rfl) hHeld ?_ ?_
      rotate_left
      · intro wZ hSw; clear hSw; go_simp; first | (with_reducible rfl) | (rw [if_pos (by omega)]; with_reducible rfl) | skip
      try simp only [Act.put, List.setIfInBounds_toArray, List.set_cons_zero, List.set_cons_succ]
      refine take_dstH (i := 8) (d := 39) (v := ?_) rfl rfl (by kernel_rfl) (by kernel_rfl) (by kernel_rfl) (fun _ _ _ h => h) (by rfl) hHeld ?_ ?_
      rotate_left
      · intro wZ hSw; clear hSw; go_simp; first | (with_reducible rfl) | (rw [if_pos (by omega)]; with_reducible rfl) | skip
      try simp only [Act.put, List.setIfInBounds_toArray, List.set_cons_zero, List.set_cons_succ]
      refine wpAnyH_ready (rs := [9]) (by kernel_rfl) (by simp) ?_
      refine (AllReadyH.cons rfl (fun K hK => ?_) AllReadyH.nil)
      go_simp
      refine hK.out _ _ ?_ (fun hHeld => ?_)
      · exact hide (HR.out.drew.setC q _).1
      clear hK K
      try simp only [Act.put, List.setIfInBounds_toArray, List.set_cons_zero, List.set_cons_succ]
      refine wpAnyH_done (by kernel_rfl) ?_ _
      rw [HX.out, HN.out]
      clear hHeld HCB cm fm HX HN
      have HR2 := hide (HR.out.setC q z).drew
      rw [HK.out] at HR2
      clear HR
      generalize World.drew (World.setCell wr ⟨w.heap.size + 1 + 1 + 1, q, none⟩ (.int .u8 (z : Int))) = wr2 at *
      have c2 : wr2.cell? ⟨w.heap.size + 1 + 1 + 1, q, none⟩ = some (.int .u8 (z : Int)) := by
        rw [HR2.out.2.2.2.1.cell q, ← HK.out, ← u8s_set]
        simp [u8s, nK_length, show q < 4 by omega]
      have c3 := (HR2.out.1.cell i).trans (u8s_at (by rw [OL.out]; omega))
      have f3 := HR2.out.1.frozen i
      generalize (over T b i).getD i 0 = old at *
      go_wp2
      go_roundg (16 - i)
      case measure => omega
      case rel =>
        refine ⟨i + 1, by go_num, by omega, by omega, ?_⟩
        have := HR2.out.setB i z
        rw [HO.out] at this
        exact this
    · have e : i = 16 := by omega
      subst e
      rw [over_full _ _ _ TL.out BL.out] at HR
      have K0 := hide HR.out.1
      have K2 := hide HR.out.2.2.1
      have KB := hide HR.out.2.2.2.2
      have T1 := hide (sz16 TL.out)
      have T2 := hide (old16 TL.out)
      have O2 := hide (one_u8s T)
      clear HR
      go_wp2_with (first
        | (refine wpList_load_row rfl 22 _ rfl w.heap.size rfl 22 _ (0, 0) _ K0.out Try.underlying22 rfl T1.out ?_)
        | (refine wpList_store_row rfl 22 _ _ rfl (w.heap.size + 1 + 1) _ rfl rfl 22 _ K2.out T1.out T2.out O2.out ?_))
      exact bodyPost_ret (v := .agg (u8s T).toArray) (results_cell_row Try.results44 _ _ (w.heap.size + 1 + 1) 22 _ (0, 0) _ rfl (K2.out.row _) Try.underlying22 rfl T1.out) rfl ⟨rfl, below_setRow KB.out (by omega) K2.out.lt _⟩

end Go.Proofs.Ytflakgigekfgcaa
