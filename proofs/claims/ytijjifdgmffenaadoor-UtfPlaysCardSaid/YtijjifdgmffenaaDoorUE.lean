/-
  Walks: does what is held begin a form?
-/
import Derived.Test.YtijjifdgmffenaaDoorUD
namespace Go.Proofs.YtijjifdgmffenaaDoor
open Go.RowKit

theorem wrap_i64_nat (n : Nat) (h : n < 9223372036854775808) : IntKind.i64.wrap (n : Int) = (n : Int) := by rw [IntKind.wrap_i64]; omega
theorem shl_one0 (u : World) : (Op.shift BinOp.shl .i32 1 .i64 0).run Tryd.prog u = .ok (.int .i32 1) u := by kernel_rfl
theorem shl_one1 (u : World) : (Op.shift BinOp.shl .i32 1 .i64 6).run Tryd.prog u = .ok (.int .i32 64) u := by kernel_rfl
theorem shl_one2 (u : World) : (Op.shift BinOp.shl .i32 1 .i64 12).run Tryd.prog u = .ok (.int .i32 4096) u := by kernel_rfl
theorem shl_one3 (u : World) : (Op.shift BinOp.shl .i32 1 .i64 18).run Tryd.prog u = .ok (.int .i32 262144) u := by kernel_rfl

set_option maxHeartbeats 4000000 in
set_option maxRecDepth 100000 in
theorem begins_walk0 (h v S FR TO : Nat) (G1 G2 : Int) (b1 b2 b3 b4 : Bool) (w : World) (hG1 : w.cell? ⟨0, S - 1, none⟩ = some (.int .i32 G1)) (hG2 : w.cell? ⟨0, S, none⟩ = some (.int .i32 G2)) (hS5 : S < 5) (hS0 : 1 ≤ S) (hSh : S = h + 0) (hFR : FR = v * 1) (hTO : TO = FR + 0) (hTl : TO < 2147483648)
    (d1 : decide (G1 < (TO : Int)) = b1) (d2 : decide ((FR : Int) ≤ G2) = b2) (d3 : decide ((FR : Int) < 55296) = b3) (d4 : decide (57343 < (TO : Int)) = b4) :
    Calls Tryd.prog 33 #[.agg #[.int .i64 (h : Int), .int .i64 0, .int .i32 (v : Int)]] w fun e w' => e = .returned (.bool (b1 && b2 && (b3 || b4))) ∧ Below w.heap.size w w' := by
  have A1 := hide (Arr.new w 41 [.int .i64 (h : Int), .int .i64 0, .int .i32 (v : Int)])
  have B1 : Hid (Below w.heap.size w (w.alloc (Obj.cells #[.int .i64 (h : Int), .int .i64 0, .int .i32 (v : Int)] 41))) := (Below.refl _ _).alloc (Nat.le_refl _) _
  have e0 : IntKind.i64.wrap (h : Int) = (S : Int) := by rw [IntKind.wrap_i64]; omega
  have e1 : IntKind.i32.wrap (v : Int) = (FR : Int) := by rw [wrap_i32 _ (by omega) (by omega)]; omega
  have e4 : wrap32 (v : Int) = (FR : Int) := by unfold wrap32; omega
  have e5 : IntKind.i64.wrap 0 = 0 := rfl
  have e6 := shl_one0
  have e2 : bits .or .i32 (FR : Int) 0 = (TO : Int) := by
    have h1 := i32_or FR 0 (by omega) (by omega)
    rw [show (0 : Int) = ((0 : Nat) : Int) from rfl, h1, Nat.or_zero, hTO]
    rfl
  have i0 : (1 : Int) ≤ (S : Int) := by omega
  have i1 : (S : Int) - 1 < 5 := by omega
  have i3 : (0 : Int) ≤ (S : Int) - 1 := by omega
  have i2 : (S : Int) < 5 := by omega
  have HC := hide (And.intro hG1 hG2)
  clear hG1 hG2 hS5 hS0 hSh hFR hTO hTl
  go_enter Tryd.func33, Tryd.ntmps33
  go_upto_region 1 with fail
  generalize w.alloc (Obj.cells #[Value.int .i64 (h : Int), Value.int .i64 0, Value.int .i32 (v : Int)] 41) = w1 at *
  have k0 : Hid (∀ u, Hid (u = w1.drew) → u.cell? ⟨w.heap.size, 0, none⟩ = some (.int .i64 (h : Int))) := fun u hu => by rw [hu.out]; exact (A1.out.kept (Below.refl _ _).drew).cell 0
  have k1 : Hid (∀ u, Hid (u = w1.drew) → u.cell? ⟨w.heap.size, 1, none⟩ = some (.int .i64 0)) := fun u hu => by rw [hu.out]; exact (A1.out.kept (Below.refl _ _).drew).cell 1
  refine wp_region_held_drew (S := fun u => Hid (u = w1.drew)) (by kernel_rfl) (hide rfl) (fun hHeld => ?_)
  refine take_dstH (i := 0) (d := 7) (v := ?_) rfl rfl (by kernel_rfl) (by kernel_rfl) (by kernel_rfl) (fun _ _ _ h => h) (by rfl) hHeld ?_ ?_
  rotate_left
  · intro wZ hSw; clear hSw; go_simp; first | (with_reducible rfl) | (rw [if_pos (by omega)]; with_reducible rfl) | skip
  try simp only [Act.put, List.setIfInBounds_toArray, List.set_cons_zero, List.set_cons_succ]
  refine take_dstH (i := 1) (d := 8) (v := ?_) rfl rfl (by kernel_rfl) (by kernel_rfl) (by kernel_rfl) (fun _ _ _ h => h) (by rfl) hHeld ?_ ?_
  rotate_left
  · intro wZ hSw; have hfS := k0.out wZ hSw; clear hSw; go_simp; first | (with_reducible rfl) | (rw [if_pos (by omega)]; with_reducible rfl) | skip
  try simp only [Act.put, List.setIfInBounds_toArray, List.set_cons_zero, List.set_cons_succ]
  refine take_dstH (i := 2) (d := 9) (v := ?_) rfl rfl (by kernel_rfl) (by kernel_rfl) (by kernel_rfl) (fun _ _ _ h => h) (by rfl) hHeld ?_ ?_
  rotate_left
  · intro wZ hSw; clear hSw; go_simp; first | (with_reducible rfl) | (rw [if_pos (by omega)]; with_reducible rfl) | skip
  try simp only [Act.put, List.setIfInBounds_toArray, List.set_cons_zero, List.set_cons_succ]
  refine take_dstH (i := 3) (d := 10) (v := ?_) rfl rfl (by kernel_rfl) (by kernel_rfl) (by kernel_rfl) (fun _ _ _ h => h) (by rfl) hHeld ?_ ?_
  rotate_left
  · intro wZ hSw; have hfS := k1.out wZ hSw; clear hSw; go_simp; first | (with_reducible rfl) | (rw [if_pos (by omega)]; with_reducible rfl) | skip
  try simp only [Act.put, List.setIfInBounds_toArray, List.set_cons_zero, List.set_cons_succ]
  refine take_dstH (i := 4) (d := 11) (v := ?_) rfl rfl (by kernel_rfl) (by kernel_rfl) (by kernel_rfl) (fun _ _ _ h => h) (by rfl) hHeld ?_ ?_
  rotate_left
  · intro wZ hSw; clear hSw; go_simp; first | (with_reducible rfl) | (rw [if_pos (by omega)]; with_reducible rfl) | skip
  try simp only [Act.put, List.setIfInBounds_toArray, List.set_cons_zero, List.set_cons_succ]
  refine take_dstH (i := 5) (d := 12) (v := ?_) rfl rfl (by kernel_rfl) (by kernel_rfl) (by kernel_rfl) (fun _ _ _ h => h) (by rfl) hHeld ?_ ?_
  rotate_left
  · intro wZ hSw; clear hSw; go_simp; first | (with_reducible rfl) | (rw [if_pos (by omega)]; with_reducible rfl) | skip
  try simp only [Act.put, List.setIfInBounds_toArray, List.set_cons_zero, List.set_cons_succ]
  refine take_dstH (i := 6) (d := 13) (v := ?_) rfl rfl (by kernel_rfl) (by kernel_rfl) (by kernel_rfl) (fun _ _ _ h => h) (by rfl) hHeld ?_ ?_
  rotate_left
  · intro wZ hSw; have hfS := k1.out wZ hSw; clear hSw; go_simp; first | (with_reducible rfl) | (rw [if_pos (by omega)]; with_reducible rfl) | skip
  try simp only [Act.put, List.setIfInBounds_toArray, List.set_cons_zero, List.set_cons_succ]
  refine take_dstH (i := 7) (d := 14) (v := ?_) rfl rfl (by kernel_rfl) (by kernel_rfl) (by kernel_rfl) (fun _ _ _ h => h) (by rfl) hHeld ?_ ?_
  rotate_left
  · intro wZ hSw; clear hSw; go_simp; first | (with_reducible rfl) | (rw [if_pos (by omega)]; with_reducible rfl) | skip
  try simp only [Act.put, List.setIfInBounds_toArray, List.set_cons_zero, List.set_cons_succ]
  refine take_dstH (i := 8) (d := 3) (v := ?_) rfl rfl (by kernel_rfl) (by kernel_rfl) (by kernel_rfl) (fun _ _ _ h => h) (by rfl) hHeld ?_ ?_
  rotate_left
  · intro wZ hSw; clear hSw; go_simp; first | (with_reducible rfl) | (rw [if_pos (by omega)]; with_reducible rfl) | skip
  try simp only [Act.put, List.setIfInBounds_toArray, List.set_cons_zero, List.set_cons_succ]
  refine take_dstH (i := 9) (d := 4) (v := ?_) rfl rfl (by kernel_rfl) (by kernel_rfl) (by kernel_rfl) (fun _ _ _ h => h) (by rfl) hHeld ?_ ?_
  rotate_left
  · intro wZ hSw; clear hSw; go_simp; first | (with_reducible rfl) | (rw [if_pos (by omega)]; with_reducible rfl) | skip
  try simp only [Act.put, List.setIfInBounds_toArray, List.set_cons_zero, List.set_cons_succ]
  refine wpAnyH_done (by kernel_rfl) ?_ _
  all_goals
    have k2 : w1.drew.cell? ⟨w.heap.size, 2, none⟩ = some (.int .i32 (v : Int)) := (A1.out.kept (Below.refl _ _).drew).cell 2
    have g1 : w1.drew.cell? ⟨0, S - 1, none⟩ = some (.int .i32 G1) := (B1.out.drew.cell (p := ⟨0, S - 1, none⟩) (block_lt_of_cell HC.out.1)).trans HC.out.1
    have g2 : w1.drew.cell? ⟨0, S, none⟩ = some (.int .i32 G2) := (B1.out.drew.cell (p := ⟨0, S, none⟩) (block_lt_of_cell HC.out.2)).trans HC.out.2
    have HB := hide B1.out.drew
    clear A1 B1 k0 k1 HC hHeld e5
    generalize w1.drew = w2 at *
    cases b1
    · clear d2 d3 d4 g2
      go_wp2
      go_ret
      exact ⟨rfl, HB.out⟩
    · cases b2
      · clear d3 d4
        go_wp2
        go_ret
        exact ⟨rfl, HB.out⟩
      · cases b3
        · cases b4
          · go_wp2
            go_ret
            exact ⟨rfl, HB.out⟩
          · go_wp2
            go_ret
            exact ⟨rfl, HB.out⟩
        · clear d4
          go_wp2
          go_ret
          exact ⟨rfl, HB.out⟩

set_option maxHeartbeats 4000000 in
set_option maxRecDepth 100000 in
theorem begins_walk1 (h v S FR TO : Nat) (G1 G2 : Int) (b1 b2 b3 b4 : Bool) (w : World) (hG1 : w.cell? ⟨0, S - 1, none⟩ = some (.int .i32 G1)) (hG2 : w.cell? ⟨0, S, none⟩ = some (.int .i32 G2)) (hS5 : S < 5) (hS0 : 1 ≤ S) (hSh : S = h + 1) (hFR : FR = v * 64) (hTO : TO = FR + 63) (hTl : TO < 2147483648)
    (d1 : decide (G1 < (TO : Int)) = b1) (d2 : decide ((FR : Int) ≤ G2) = b2) (d3 : decide ((FR : Int) < 55296) = b3) (d4 : decide (57343 < (TO : Int)) = b4) :
    Calls Tryd.prog 33 #[.agg #[.int .i64 (h : Int), .int .i64 1, .int .i32 (v : Int)]] w fun e w' => e = .returned (.bool (b1 && b2 && (b3 || b4))) ∧ Below w.heap.size w w' := by
  have A1 := hide (Arr.new w 41 [.int .i64 (h : Int), .int .i64 1, .int .i32 (v : Int)])
  have B1 : Hid (Below w.heap.size w (w.alloc (Obj.cells #[.int .i64 (h : Int), .int .i64 1, .int .i32 (v : Int)] 41))) := (Below.refl _ _).alloc (Nat.le_refl _) _
  have e0 : IntKind.i64.wrap ((h : Int) + 1) = (S : Int) := by rw [IntKind.wrap_i64]; omega
  have e1 : IntKind.i32.wrap ((v : Int) * 64) = (FR : Int) := by rw [wrap_i32 _ (by omega) (by omega)]; omega
  have e4 : wrap32 ((v : Int) * 64) = (FR : Int) := by unfold wrap32; omega
  have e5 : IntKind.i64.wrap 6 = 6 := rfl
  have e6 := shl_one1
  have e2 : bits .or .i32 (FR : Int) 63 = (TO : Int) := by
    have h1 := i32_or FR 63 (by omega) (by omega)
    rw [show (63 : Int) = ((63 : Nat) : Int) from rfl, h1, nat_join 6 FR 63 (by rw [hFR]; exact Nat.mul_mod_left _ _) (by decide), hTO]
  have i0 : (1 : Int) ≤ (S : Int) := by omega
  have i1 : (S : Int) - 1 < 5 := by omega
  have i3 : (0 : Int) ≤ (S : Int) - 1 := by omega
  have i2 : (S : Int) < 5 := by omega
  have HC := hide (And.intro hG1 hG2)
  clear hG1 hG2 hS5 hS0 hSh hFR hTO hTl
  go_enter Tryd.func33, Tryd.ntmps33
  go_upto_region 1 with fail
  generalize w.alloc (Obj.cells #[Value.int .i64 (h : Int), Value.int .i64 1, Value.int .i32 (v : Int)] 41) = w1 at *
  have k0 : Hid (∀ u, Hid (u = w1.drew) → u.cell? ⟨w.heap.size, 0, none⟩ = some (.int .i64 (h : Int))) := fun u hu => by rw [hu.out]; exact (A1.out.kept (Below.refl _ _).drew).cell 0
  have k1 : Hid (∀ u, Hid (u = w1.drew) → u.cell? ⟨w.heap.size, 1, none⟩ = some (.int .i64 1)) := fun u hu => by rw [hu.out]; exact (A1.out.kept (Below.refl _ _).drew).cell 1
  refine wp_region_held_drew (S := fun u => Hid (u = w1.drew)) (by kernel_rfl) (hide rfl) (fun hHeld => ?_)
  refine take_dstH (i := 0) (d := 7) (v := ?_) rfl rfl (by kernel_rfl) (by kernel_rfl) (by kernel_rfl) (fun _ _ _ h => h) (by rfl) hHeld ?_ ?_
  rotate_left
  · intro wZ hSw; clear hSw; go_simp; first | (with_reducible rfl) | (rw [if_pos (by omega)]; with_reducible rfl) | skip
  try simp only [Act.put, List.setIfInBounds_toArray, List.set_cons_zero, List.set_cons_succ]
  refine take_dstH (i := 1) (d := 8) (v := ?_) rfl rfl (by kernel_rfl) (by kernel_rfl) (by kernel_rfl) (fun _ _ _ h => h) (by rfl) hHeld ?_ ?_
  rotate_left
  · intro wZ hSw; have hfS := k0.out wZ hSw; clear hSw; go_simp; first | (with_reducible rfl) | (rw [if_pos (by omega)]; with_reducible rfl) | skip
  try simp only [Act.put, List.setIfInBounds_toArray, List.set_cons_zero, List.set_cons_succ]
  refine take_dstH (i := 2) (d := 9) (v := ?_) rfl rfl (by kernel_rfl) (by kernel_rfl) (by kernel_rfl) (fun _ _ _ h => h) (by rfl) hHeld ?_ ?_
  rotate_left
  · intro wZ hSw; clear hSw; go_simp; first | (with_reducible rfl) | (rw [if_pos (by omega)]; with_reducible rfl) | skip
  try simp only [Act.put, List.setIfInBounds_toArray, List.set_cons_zero, List.set_cons_succ]
  refine take_dstH (i := 3) (d := 10) (v := ?_) rfl rfl (by kernel_rfl) (by kernel_rfl) (by kernel_rfl) (fun _ _ _ h => h) (by rfl) hHeld ?_ ?_
  rotate_left
  · intro wZ hSw; have hfS := k1.out wZ hSw; clear hSw; go_simp; first | (with_reducible rfl) | (rw [if_pos (by omega)]; with_reducible rfl) | skip
  try simp only [Act.put, List.setIfInBounds_toArray, List.set_cons_zero, List.set_cons_succ]
  refine take_dstH (i := 4) (d := 11) (v := ?_) rfl rfl (by kernel_rfl) (by kernel_rfl) (by kernel_rfl) (fun _ _ _ h => h) (by rfl) hHeld ?_ ?_
  rotate_left
  · intro wZ hSw; clear hSw; go_simp; first | (with_reducible rfl) | (rw [if_pos (by omega)]; with_reducible rfl) | skip
  try simp only [Act.put, List.setIfInBounds_toArray, List.set_cons_zero, List.set_cons_succ]
  refine take_dstH (i := 5) (d := 12) (v := ?_) rfl rfl (by kernel_rfl) (by kernel_rfl) (by kernel_rfl) (fun _ _ _ h => h) (by rfl) hHeld ?_ ?_
  rotate_left
  · intro wZ hSw; clear hSw; go_simp; first | (with_reducible rfl) | (rw [if_pos (by omega)]; with_reducible rfl) | skip
  try simp only [Act.put, List.setIfInBounds_toArray, List.set_cons_zero, List.set_cons_succ]
  refine take_dstH (i := 6) (d := 13) (v := ?_) rfl rfl (by kernel_rfl) (by kernel_rfl) (by kernel_rfl) (fun _ _ _ h => h) (by rfl) hHeld ?_ ?_
  rotate_left
  · intro wZ hSw; have hfS := k1.out wZ hSw; clear hSw; go_simp; first | (with_reducible rfl) | (rw [if_pos (by omega)]; with_reducible rfl) | skip
  try simp only [Act.put, List.setIfInBounds_toArray, List.set_cons_zero, List.set_cons_succ]
  refine take_dstH (i := 7) (d := 14) (v := ?_) rfl rfl (by kernel_rfl) (by kernel_rfl) (by kernel_rfl) (fun _ _ _ h => h) (by rfl) hHeld ?_ ?_
  rotate_left
  · intro wZ hSw; clear hSw; go_simp; first | (with_reducible rfl) | (rw [if_pos (by omega)]; with_reducible rfl) | skip
  try simp only [Act.put, List.setIfInBounds_toArray, List.set_cons_zero, List.set_cons_succ]
  refine take_dstH (i := 8) (d := 3) (v := ?_) rfl rfl (by kernel_rfl) (by kernel_rfl) (by kernel_rfl) (fun _ _ _ h => h) (by rfl) hHeld ?_ ?_
  rotate_left
  · intro wZ hSw; clear hSw; go_simp; first | (with_reducible rfl) | (rw [if_pos (by omega)]; with_reducible rfl) | skip
  try simp only [Act.put, List.setIfInBounds_toArray, List.set_cons_zero, List.set_cons_succ]
  refine take_dstH (i := 9) (d := 4) (v := ?_) rfl rfl (by kernel_rfl) (by kernel_rfl) (by kernel_rfl) (fun _ _ _ h => h) (by rfl) hHeld ?_ ?_
  rotate_left
  · intro wZ hSw; clear hSw; go_simp; first | (with_reducible rfl) | (rw [if_pos (by omega)]; with_reducible rfl) | skip
  try simp only [Act.put, List.setIfInBounds_toArray, List.set_cons_zero, List.set_cons_succ]
  refine wpAnyH_done (by kernel_rfl) ?_ _
  all_goals
    have k2 : w1.drew.cell? ⟨w.heap.size, 2, none⟩ = some (.int .i32 (v : Int)) := (A1.out.kept (Below.refl _ _).drew).cell 2
    have g1 : w1.drew.cell? ⟨0, S - 1, none⟩ = some (.int .i32 G1) := (B1.out.drew.cell (p := ⟨0, S - 1, none⟩) (block_lt_of_cell HC.out.1)).trans HC.out.1
    have g2 : w1.drew.cell? ⟨0, S, none⟩ = some (.int .i32 G2) := (B1.out.drew.cell (p := ⟨0, S, none⟩) (block_lt_of_cell HC.out.2)).trans HC.out.2
    have HB := hide B1.out.drew
    clear A1 B1 k0 k1 HC hHeld e5
    generalize w1.drew = w2 at *
    cases b1
    · clear d2 d3 d4 g2
      go_wp2
      go_ret
      exact ⟨rfl, HB.out⟩
    · cases b2
      · clear d3 d4
        go_wp2
        go_ret
        exact ⟨rfl, HB.out⟩
      · cases b3
        · cases b4
          · go_wp2
            go_ret
            exact ⟨rfl, HB.out⟩
          · go_wp2
            go_ret
            exact ⟨rfl, HB.out⟩
        · clear d4
          go_wp2
          go_ret
          exact ⟨rfl, HB.out⟩

set_option maxHeartbeats 4000000 in
set_option maxRecDepth 100000 in
theorem begins_walk2 (h v S FR TO : Nat) (G1 G2 : Int) (b1 b2 b3 b4 : Bool) (w : World) (hG1 : w.cell? ⟨0, S - 1, none⟩ = some (.int .i32 G1)) (hG2 : w.cell? ⟨0, S, none⟩ = some (.int .i32 G2)) (hS5 : S < 5) (hS0 : 1 ≤ S) (hSh : S = h + 2) (hFR : FR = v * 4096) (hTO : TO = FR + 4095) (hTl : TO < 2147483648)
    (d1 : decide (G1 < (TO : Int)) = b1) (d2 : decide ((FR : Int) ≤ G2) = b2) (d3 : decide ((FR : Int) < 55296) = b3) (d4 : decide (57343 < (TO : Int)) = b4) :
    Calls Tryd.prog 33 #[.agg #[.int .i64 (h : Int), .int .i64 2, .int .i32 (v : Int)]] w fun e w' => e = .returned (.bool (b1 && b2 && (b3 || b4))) ∧ Below w.heap.size w w' := by
  have A1 := hide (Arr.new w 41 [.int .i64 (h : Int), .int .i64 2, .int .i32 (v : Int)])
  have B1 : Hid (Below w.heap.size w (w.alloc (Obj.cells #[.int .i64 (h : Int), .int .i64 2, .int .i32 (v : Int)] 41))) := (Below.refl _ _).alloc (Nat.le_refl _) _
  have e0 : IntKind.i64.wrap ((h : Int) + 2) = (S : Int) := by rw [IntKind.wrap_i64]; omega
  have e1 : IntKind.i32.wrap ((v : Int) * 4096) = (FR : Int) := by rw [wrap_i32 _ (by omega) (by omega)]; omega
  have e4 : wrap32 ((v : Int) * 4096) = (FR : Int) := by unfold wrap32; omega
  have e5 : IntKind.i64.wrap 12 = 12 := rfl
  have e6 := shl_one2
  have e2 : bits .or .i32 (FR : Int) 4095 = (TO : Int) := by
    have h1 := i32_or FR 4095 (by omega) (by omega)
    rw [show (4095 : Int) = ((4095 : Nat) : Int) from rfl, h1, nat_join 12 FR 4095 (by rw [hFR]; exact Nat.mul_mod_left _ _) (by decide), hTO]
  have i0 : (1 : Int) ≤ (S : Int) := by omega
  have i1 : (S : Int) - 1 < 5 := by omega
  have i3 : (0 : Int) ≤ (S : Int) - 1 := by omega
  have i2 : (S : Int) < 5 := by omega
  have HC := hide (And.intro hG1 hG2)
  clear hG1 hG2 hS5 hS0 hSh hFR hTO hTl
  go_enter Tryd.func33, Tryd.ntmps33
  go_upto_region 1 with fail
  generalize w.alloc (Obj.cells #[Value.int .i64 (h : Int), Value.int .i64 2, Value.int .i32 (v : Int)] 41) = w1 at *
  have k0 : Hid (∀ u, Hid (u = w1.drew) → u.cell? ⟨w.heap.size, 0, none⟩ = some (.int .i64 (h : Int))) := fun u hu => by rw [hu.out]; exact (A1.out.kept (Below.refl _ _).drew).cell 0
  have k1 : Hid (∀ u, Hid (u = w1.drew) → u.cell? ⟨w.heap.size, 1, none⟩ = some (.int .i64 2)) := fun u hu => by rw [hu.out]; exact (A1.out.kept (Below.refl _ _).drew).cell 1
  refine wp_region_held_drew (S := fun u => Hid (u = w1.drew)) (by kernel_rfl) (hide rfl) (fun hHeld => ?_)
  refine take_dstH (i := 0) (d := 7) (v := ?_) rfl rfl (by kernel_rfl) (by kernel_rfl) (by kernel_rfl) (fun _ _ _ h => h) (by rfl) hHeld ?_ ?_
  rotate_left
  · intro wZ hSw; clear hSw; go_simp; first | (with_reducible rfl) | (rw [if_pos (by omega)]; with_reducible rfl) | skip
  try simp only [Act.put, List.setIfInBounds_toArray, List.set_cons_zero, List.set_cons_succ]
  refine take_dstH (i := 1) (d := 8) (v := ?_) rfl rfl (by kernel_rfl) (by kernel_rfl) (by kernel_rfl) (fun _ _ _ h => h) (by rfl) hHeld ?_ ?_
  rotate_left
  · intro wZ hSw; have hfS := k0.out wZ hSw; clear hSw; go_simp; first | (with_reducible rfl) | (rw [if_pos (by omega)]; with_reducible rfl) | skip
  try simp only [Act.put, List.setIfInBounds_toArray, List.set_cons_zero, List.set_cons_succ]
  refine take_dstH (i := 2) (d := 9) (v := ?_) rfl rfl (by kernel_rfl) (by kernel_rfl) (by kernel_rfl) (fun _ _ _ h => h) (by rfl) hHeld ?_ ?_
  rotate_left
  · intro wZ hSw; clear hSw; go_simp; first | (with_reducible rfl) | (rw [if_pos (by omega)]; with_reducible rfl) | skip
  try simp only [Act.put, List.setIfInBounds_toArray, List.set_cons_zero, List.set_cons_succ]
  refine take_dstH (i := 3) (d := 10) (v := ?_) rfl rfl (by kernel_rfl) (by kernel_rfl) (by kernel_rfl) (fun _ _ _ h => h) (by rfl) hHeld ?_ ?_
  rotate_left
  · intro wZ hSw; have hfS := k1.out wZ hSw; clear hSw; go_simp; first | (with_reducible rfl) | (rw [if_pos (by omega)]; with_reducible rfl) | skip
  try simp only [Act.put, List.setIfInBounds_toArray, List.set_cons_zero, List.set_cons_succ]
  refine take_dstH (i := 4) (d := 11) (v := ?_) rfl rfl (by kernel_rfl) (by kernel_rfl) (by kernel_rfl) (fun _ _ _ h => h) (by rfl) hHeld ?_ ?_
  rotate_left
  · intro wZ hSw; clear hSw; go_simp; first | (with_reducible rfl) | (rw [if_pos (by omega)]; with_reducible rfl) | skip
  try simp only [Act.put, List.setIfInBounds_toArray, List.set_cons_zero, List.set_cons_succ]
  refine take_dstH (i := 5) (d := 12) (v := ?_) rfl rfl (by kernel_rfl) (by kernel_rfl) (by kernel_rfl) (fun _ _ _ h => h) (by rfl) hHeld ?_ ?_
  rotate_left
  · intro wZ hSw; clear hSw; go_simp; first | (with_reducible rfl) | (rw [if_pos (by omega)]; with_reducible rfl) | skip
  try simp only [Act.put, List.setIfInBounds_toArray, List.set_cons_zero, List.set_cons_succ]
  refine take_dstH (i := 6) (d := 13) (v := ?_) rfl rfl (by kernel_rfl) (by kernel_rfl) (by kernel_rfl) (fun _ _ _ h => h) (by rfl) hHeld ?_ ?_
  rotate_left
  · intro wZ hSw; have hfS := k1.out wZ hSw; clear hSw; go_simp; first | (with_reducible rfl) | (rw [if_pos (by omega)]; with_reducible rfl) | skip
  try simp only [Act.put, List.setIfInBounds_toArray, List.set_cons_zero, List.set_cons_succ]
  refine take_dstH (i := 7) (d := 14) (v := ?_) rfl rfl (by kernel_rfl) (by kernel_rfl) (by kernel_rfl) (fun _ _ _ h => h) (by rfl) hHeld ?_ ?_
  rotate_left
  · intro wZ hSw; clear hSw; go_simp; first | (with_reducible rfl) | (rw [if_pos (by omega)]; with_reducible rfl) | skip
  try simp only [Act.put, List.setIfInBounds_toArray, List.set_cons_zero, List.set_cons_succ]
  refine take_dstH (i := 8) (d := 3) (v := ?_) rfl rfl (by kernel_rfl) (by kernel_rfl) (by kernel_rfl) (fun _ _ _ h => h) (by rfl) hHeld ?_ ?_
  rotate_left
  · intro wZ hSw; clear hSw; go_simp; first | (with_reducible rfl) | (rw [if_pos (by omega)]; with_reducible rfl) | skip
  try simp only [Act.put, List.setIfInBounds_toArray, List.set_cons_zero, List.set_cons_succ]
  refine take_dstH (i := 9) (d := 4) (v := ?_) rfl rfl (by kernel_rfl) (by kernel_rfl) (by kernel_rfl) (fun _ _ _ h => h) (by rfl) hHeld ?_ ?_
  rotate_left
  · intro wZ hSw; clear hSw; go_simp; first | (with_reducible rfl) | (rw [if_pos (by omega)]; with_reducible rfl) | skip
  try simp only [Act.put, List.setIfInBounds_toArray, List.set_cons_zero, List.set_cons_succ]
  refine wpAnyH_done (by kernel_rfl) ?_ _
  all_goals
    have k2 : w1.drew.cell? ⟨w.heap.size, 2, none⟩ = some (.int .i32 (v : Int)) := (A1.out.kept (Below.refl _ _).drew).cell 2
    have g1 : w1.drew.cell? ⟨0, S - 1, none⟩ = some (.int .i32 G1) := (B1.out.drew.cell (p := ⟨0, S - 1, none⟩) (block_lt_of_cell HC.out.1)).trans HC.out.1
    have g2 : w1.drew.cell? ⟨0, S, none⟩ = some (.int .i32 G2) := (B1.out.drew.cell (p := ⟨0, S, none⟩) (block_lt_of_cell HC.out.2)).trans HC.out.2
    have HB := hide B1.out.drew
    clear A1 B1 k0 k1 HC hHeld e5
    generalize w1.drew = w2 at *
    cases b1
    · clear d2 d3 d4 g2
      go_wp2
      go_ret
      exact ⟨rfl, HB.out⟩
    · cases b2
      · clear d3 d4
        go_wp2
        go_ret
        exact ⟨rfl, HB.out⟩
      · cases b3
        · cases b4
          · go_wp2
            go_ret
            exact ⟨rfl, HB.out⟩
          · go_wp2
            go_ret
            exact ⟨rfl, HB.out⟩
        · clear d4
          go_wp2
          go_ret
          exact ⟨rfl, HB.out⟩

set_option maxHeartbeats 4000000 in
set_option maxRecDepth 100000 in
theorem begins_walk3 (h v S FR TO : Nat) (G1 G2 : Int) (b1 b2 b3 b4 : Bool) (w : World) (hG1 : w.cell? ⟨0, S - 1, none⟩ = some (.int .i32 G1)) (hG2 : w.cell? ⟨0, S, none⟩ = some (.int .i32 G2)) (hS5 : S < 5) (hS0 : 1 ≤ S) (hSh : S = h + 3) (hFR : FR = v * 262144) (hTO : TO = FR + 262143) (hTl : TO < 2147483648)
    (d1 : decide (G1 < (TO : Int)) = b1) (d2 : decide ((FR : Int) ≤ G2) = b2) (d3 : decide ((FR : Int) < 55296) = b3) (d4 : decide (57343 < (TO : Int)) = b4) :
    Calls Tryd.prog 33 #[.agg #[.int .i64 (h : Int), .int .i64 3, .int .i32 (v : Int)]] w fun e w' => e = .returned (.bool (b1 && b2 && (b3 || b4))) ∧ Below w.heap.size w w' := by
  have A1 := hide (Arr.new w 41 [.int .i64 (h : Int), .int .i64 3, .int .i32 (v : Int)])
  have B1 : Hid (Below w.heap.size w (w.alloc (Obj.cells #[.int .i64 (h : Int), .int .i64 3, .int .i32 (v : Int)] 41))) := (Below.refl _ _).alloc (Nat.le_refl _) _
  have e0 : IntKind.i64.wrap ((h : Int) + 3) = (S : Int) := by rw [IntKind.wrap_i64]; omega
  have e1 : IntKind.i32.wrap ((v : Int) * 262144) = (FR : Int) := by rw [wrap_i32 _ (by omega) (by omega)]; omega
  have e4 : wrap32 ((v : Int) * 262144) = (FR : Int) := by unfold wrap32; omega
  have e5 : IntKind.i64.wrap 18 = 18 := rfl
  have e6 := shl_one3
  have e2 : bits .or .i32 (FR : Int) 262143 = (TO : Int) := by
    have h1 := i32_or FR 262143 (by omega) (by omega)
    rw [show (262143 : Int) = ((262143 : Nat) : Int) from rfl, h1, nat_join 18 FR 262143 (by rw [hFR]; exact Nat.mul_mod_left _ _) (by decide), hTO]
  have i0 : (1 : Int) ≤ (S : Int) := by omega
  have i1 : (S : Int) - 1 < 5 := by omega
  have i3 : (0 : Int) ≤ (S : Int) - 1 := by omega
  have i2 : (S : Int) < 5 := by omega
  have HC := hide (And.intro hG1 hG2)
  clear hG1 hG2 hS5 hS0 hSh hFR hTO hTl
  go_enter Tryd.func33, Tryd.ntmps33
  go_upto_region 1 with fail
  generalize w.alloc (Obj.cells #[Value.int .i64 (h : Int), Value.int .i64 3, Value.int .i32 (v : Int)] 41) = w1 at *
  have k0 : Hid (∀ u, Hid (u = w1.drew) → u.cell? ⟨w.heap.size, 0, none⟩ = some (.int .i64 (h : Int))) := fun u hu => by rw [hu.out]; exact (A1.out.kept (Below.refl _ _).drew).cell 0
  have k1 : Hid (∀ u, Hid (u = w1.drew) → u.cell? ⟨w.heap.size, 1, none⟩ = some (.int .i64 3)) := fun u hu => by rw [hu.out]; exact (A1.out.kept (Below.refl _ _).drew).cell 1
  refine wp_region_held_drew (S := fun u => Hid (u = w1.drew)) (by kernel_rfl) (hide rfl) (fun hHeld => ?_)
  refine take_dstH (i := 0) (d := 7) (v := ?_) rfl rfl (by kernel_rfl) (by kernel_rfl) (by kernel_rfl) (fun _ _ _ h => h) (by rfl) hHeld ?_ ?_
  rotate_left
  · intro wZ hSw; clear hSw; go_simp; first | (with_reducible rfl) | (rw [if_pos (by omega)]; with_reducible rfl) | skip
  try simp only [Act.put, List.setIfInBounds_toArray, List.set_cons_zero, List.set_cons_succ]
  refine take_dstH (i := 1) (d := 8) (v := ?_) rfl rfl (by kernel_rfl) (by kernel_rfl) (by kernel_rfl) (fun _ _ _ h => h) (by rfl) hHeld ?_ ?_
  rotate_left
  · intro wZ hSw; have hfS := k0.out wZ hSw; clear hSw; go_simp; first | (with_reducible rfl) | (rw [if_pos (by omega)]; with_reducible rfl) | skip
  try simp only [Act.put, List.setIfInBounds_toArray, List.set_cons_zero, List.set_cons_succ]
  refine take_dstH (i := 2) (d := 9) (v := ?_) rfl rfl (by kernel_rfl) (by kernel_rfl) (by kernel_rfl) (fun _ _ _ h => h) (by rfl) hHeld ?_ ?_
  rotate_left
  · intro wZ hSw; clear hSw; go_simp; first | (with_reducible rfl) | (rw [if_pos (by omega)]; with_reducible rfl) | skip
  try simp only [Act.put, List.setIfInBounds_toArray, List.set_cons_zero, List.set_cons_succ]
  refine take_dstH (i := 3) (d := 10) (v := ?_) rfl rfl (by kernel_rfl) (by kernel_rfl) (by kernel_rfl) (fun _ _ _ h => h) (by rfl) hHeld ?_ ?_
  rotate_left
  · intro wZ hSw; have hfS := k1.out wZ hSw; clear hSw; go_simp; first | (with_reducible rfl) | (rw [if_pos (by omega)]; with_reducible rfl) | skip
  try simp only [Act.put, List.setIfInBounds_toArray, List.set_cons_zero, List.set_cons_succ]
  refine take_dstH (i := 4) (d := 11) (v := ?_) rfl rfl (by kernel_rfl) (by kernel_rfl) (by kernel_rfl) (fun _ _ _ h => h) (by rfl) hHeld ?_ ?_
  rotate_left
  · intro wZ hSw; clear hSw; go_simp; first | (with_reducible rfl) | (rw [if_pos (by omega)]; with_reducible rfl) | skip
  try simp only [Act.put, List.setIfInBounds_toArray, List.set_cons_zero, List.set_cons_succ]
  refine take_dstH (i := 5) (d := 12) (v := ?_) rfl rfl (by kernel_rfl) (by kernel_rfl) (by kernel_rfl) (fun _ _ _ h => h) (by rfl) hHeld ?_ ?_
  rotate_left
  · intro wZ hSw; clear hSw; go_simp; first | (with_reducible rfl) | (rw [if_pos (by omega)]; with_reducible rfl) | skip
  try simp only [Act.put, List.setIfInBounds_toArray, List.set_cons_zero, List.set_cons_succ]
  refine take_dstH (i := 6) (d := 13) (v := ?_) rfl rfl (by kernel_rfl) (by kernel_rfl) (by kernel_rfl) (fun _ _ _ h => h) (by rfl) hHeld ?_ ?_
  rotate_left
  · intro wZ hSw; have hfS := k1.out wZ hSw; clear hSw; go_simp; first | (with_reducible rfl) | (rw [if_pos (by omega)]; with_reducible rfl) | skip
  try simp only [Act.put, List.setIfInBounds_toArray, List.set_cons_zero, List.set_cons_succ]
  refine take_dstH (i := 7) (d := 14) (v := ?_) rfl rfl (by kernel_rfl) (by kernel_rfl) (by kernel_rfl) (fun _ _ _ h => h) (by rfl) hHeld ?_ ?_
  rotate_left
  · intro wZ hSw; clear hSw; go_simp; first | (with_reducible rfl) | (rw [if_pos (by omega)]; with_reducible rfl) | skip
  try simp only [Act.put, List.setIfInBounds_toArray, List.set_cons_zero, List.set_cons_succ]
  refine take_dstH (i := 8) (d := 3) (v := ?_) rfl rfl (by kernel_rfl) (by kernel_rfl) (by kernel_rfl) (fun _ _ _ h => h) (by rfl) hHeld ?_ ?_
  rotate_left
  · intro wZ hSw; clear hSw; go_simp; first | (with_reducible rfl) | (rw [if_pos (by omega)]; with_reducible rfl) | skip
  try simp only [Act.put, List.setIfInBounds_toArray, List.set_cons_zero, List.set_cons_succ]
  refine take_dstH (i := 9) (d := 4) (v := ?_) rfl rfl (by kernel_rfl) (by kernel_rfl) (by kernel_rfl) (fun _ _ _ h => h) (by rfl) hHeld ?_ ?_
  rotate_left
  · intro wZ hSw; clear hSw; go_simp; first | (with_reducible rfl) | (rw [if_pos (by omega)]; with_reducible rfl) | skip
  try simp only [Act.put, List.setIfInBounds_toArray, List.set_cons_zero, List.set_cons_succ]
  refine wpAnyH_done (by kernel_rfl) ?_ _
  all_goals
    have k2 : w1.drew.cell? ⟨w.heap.size, 2, none⟩ = some (.int .i32 (v : Int)) := (A1.out.kept (Below.refl _ _).drew).cell 2
    have g1 : w1.drew.cell? ⟨0, S - 1, none⟩ = some (.int .i32 G1) := (B1.out.drew.cell (p := ⟨0, S - 1, none⟩) (block_lt_of_cell HC.out.1)).trans HC.out.1
    have g2 : w1.drew.cell? ⟨0, S, none⟩ = some (.int .i32 G2) := (B1.out.drew.cell (p := ⟨0, S, none⟩) (block_lt_of_cell HC.out.2)).trans HC.out.2
    have HB := hide B1.out.drew
    clear A1 B1 k0 k1 HC hHeld e5
    generalize w1.drew = w2 at *
    cases b1
    · clear d2 d3 d4 g2
      go_wp2
      go_ret
      exact ⟨rfl, HB.out⟩
    · cases b2
      · clear d3 d4
        go_wp2
        go_ret
        exact ⟨rfl, HB.out⟩
      · cases b3
        · cases b4
          · go_wp2
            go_ret
            exact ⟨rfl, HB.out⟩
          · go_wp2
            go_ret
            exact ⟨rfl, HB.out⟩
        · clear d4
          go_wp2
          go_ret
          exact ⟨rfl, HB.out⟩

theorem topF_small (S : Nat) (h : S < 5) (h1 : 1 ≤ S) : grT.getD S 0 = ((topF S : Nat) : Int) ∧ (S = 1 ∧ grT.getD (S - 1) 0 = -1 ∨ S ≠ 1 ∧ grT.getD (S - 1) 0 = ((topF (S - 1) : Nat) : Int)) := by
  match S, h, h1 with
  | 1, _, _ => exact ⟨rfl, Or.inl ⟨rfl, rfl⟩⟩
  | 2, _, _ => exact ⟨rfl, Or.inr ⟨by decide, rfl⟩⟩
  | 3, _, _ => exact ⟨rfl, Or.inr ⟨by decide, rfl⟩⟩
  | 4, _, _ => exact ⟨rfl, Or.inr ⟨by decide, rfl⟩⟩
/-- whatever is held -/
theorem begins_any (d : Dc) (w : World) (hL : LaidU w) (h1 : 1 ≤ d.h) (h4 : d.h + d.l ≤ 4) (hv : d.v * openF d.l + openF d.l ≤ 4194304) : Calls Tryd.prog 33 #[dcV d] w fun e w' => e = .returned (.bool d.begins) ∧ Below w.heap.size w w' := by
  obtain ⟨h, l, v⟩ := d
  simp only at h1 h4 hv
  obtain ⟨t2, t1⟩ := topF_small (h + l) (by omega) (by omega)
  have hbe : (Dc.mk h l v).begins = (decide (grT.getD (h + l - 1) 0 < ((v * openF l + (openF l - 1) : Nat) : Int)) && decide (((v * openF l : Nat) : Int) ≤ grT.getD (h + l) 0) && (decide (((v * openF l : Nat) : Int) < 55296) || decide (57343 < ((v * openF l + (openF l - 1) : Nat) : Int)))) := by
    unfold Dc.begins
    simp only
    rw [t2]
    rw [← Bool.decide_or, ← Bool.decide_and, ← Bool.decide_and]
    apply decide_eq_decide.2
    rcases t1 with ⟨e, t1⟩ | ⟨e, t1⟩
    · rw [t1]; omega
    · rw [t1]; omega
  rw [hbe]
  have hG1 := hL.at (k := h + l - 1) (by omega)
  have hG2 := hL.at (k := h + l) (by omega)
  clear hbe t1 t2 hL
  match l, h4, hv, hG1, hG2 with
  | 0, h4, hv, hG1, hG2 =>
    have hv1 : v * 1 + 1 ≤ 4194304 := hv
    exact begins_walk0 h v (h + 0) (v * 1) (v * 1 + 0) _ _ _ _ _ _ w hG1 hG2 (by omega) (by omega) rfl rfl rfl (by omega) rfl rfl rfl rfl
  | 1, h4, hv, hG1, hG2 =>
    have hv1 : v * 64 + 64 ≤ 4194304 := hv
    exact begins_walk1 h v (h + 1) (v * 64) (v * 64 + 63) _ _ _ _ _ _ w hG1 hG2 (by omega) (by omega) rfl rfl rfl (by omega) rfl rfl rfl rfl
  | 2, h4, hv, hG1, hG2 =>
    have hv1 : v * 4096 + 4096 ≤ 4194304 := hv
    exact begins_walk2 h v (h + 2) (v * 4096) (v * 4096 + 4095) _ _ _ _ _ _ w hG1 hG2 (by omega) (by omega) rfl rfl rfl (by omega) rfl rfl rfl rfl
  | 3, h4, hv, hG1, hG2 =>
    have hv1 : v * 262144 + 262144 ≤ 4194304 := hv
    exact begins_walk3 h v (h + 3) (v * 262144) (v * 262144 + 262143) _ _ _ _ _ _ w hG1 hG2 (by omega) (by omega) rfl rfl rfl (by omega) rfl rfl rfl rfl
  | l + 4, h4, hv, hG1, hG2 => exact absurd h4 (by omega)

end Go.Proofs.YtijjifdgmffenaaDoor
