/-
  A walk: Same: whether two texts have the same bytes, as many.
-/
import Derived.Test.YtfopjobcjafgaabDoorMA
namespace Go.Proofs.YtfopjobcjafgaabDoor
open Go.RowKit

set_option maxHeartbeats 4000000 in
set_option maxRecDepth 100000 in
theorem same_any (p q : Option Addr) (c d : Nat) (xs ys : List Nat) (w : World) (h1 : Piece w p c xs) (h2 : Piece w q d ys) :
    Calls Tryd.prog 10 #[.slice p xs.length c, .slice q ys.length d] w fun e w' => e = .returned (.bool (decide (xs = ys))) ∧ Below w.heap.size w w' := by
  by_cases hl : xs.length = ys.length
  · have HD := hide (unlF_same xs ys hl)
    have hxc := h1.2.2.2.1
    have hcm := h1.2.2.2.2
    unfold maxLen at hcm
    have HU : Hid (∀ i, unlF xs ys (i + 1) = unlF xs ys i ||| (xs.getD i 0 ^^^ ys.getD i 0)) := fun i => rfl
    have HU0 : Hid (unlF xs ys 0 = 0) := rfl
    have HUL := hide (unlF_lt h1.2.2.1 h2.2.2.1)
    have HXB := hide h1.2.2.1
    have HYB := hide h2.2.2.1
    have H1 := hide h1.1
    have H2 := hide h2.1
    rw [← hl]
    generalize hn : xs.length = n at *
    have HN := hide hn
    have HM := hide hl
    clear hn hl h1 h2
    generalize decide (xs = ys) = r at *
    generalize unlF xs ys = U at *
    go_enter Tryd.func10, Tryd.ntmps10
    go_wp2
    go_loopg [14, 5] (n + 1) (fun f s14 s5 wr => ∃ (i : Nat), s14 = .int .i64 i ∧ s5 = .int .u8 ((U i : Nat) : Int) ∧ i ≤ n ∧ n - i < f ∧ Below w.heap.size w wr)
    case atStart => exact ⟨0, rfl, by rw [HU0.out]; rfl, by omega, by omega, Below.refl _ _⟩
    case round =>
      obtain ⟨i, rfl, rfl, hi, hf, hB⟩ := hrel
      have HB := hide hB
      clear hB
      by_cases hin : i < n
      · have hin' : (i : Int) < (n : Int) := by omega
        rcases H1.out with h0 | ⟨g, o, rfl, hc1⟩
        · have h := HN.out; rw [h0] at h; simp at h; omega
        rcases H2.out with h0 | ⟨g2, o2, rfl, hc2⟩
        · have h := HM.out; rw [h0] at h; simp at h; omega
        have x1 := hc1 i (by rw [HN.out]; exact hin)
        have y1 := hc2 i (by rw [← HM.out]; exact hin)
        have KX : Hid (∀ v : World, Hid (Below w.heap.size w v) → v.cell? ⟨g, o + i, none⟩ = some (.int .u8 ((xs.getD i 0 : Nat) : Int))) := fun v hv => (hv.out.cell (block_lt_of_cell x1)).trans x1
        have KY : Hid (∀ v : World, Hid (Below w.heap.size w v) → v.cell? ⟨g2, o2 + i, none⟩ = some (.int .u8 ((ys.getD i 0 : Nat) : Int))) := fun v hv => (hv.out.cell (block_lt_of_cell y1)).trans y1
        have bx := u8_xor_nat (xs.getD i 0) (ys.getD i 0) (HXB.out.getD i) (HYB.out.getD i)
        have bo := u8_or_nat (U i) (xs.getD i 0 ^^^ ys.getD i 0) (HUL.out i) (xor_lt8 (HXB.out.getD i) (HYB.out.getD i))
        rw [← HU.out] at bo
        have hu1 := HUL.out (i + 1)
        have hui := HUL.out i
        clear x1 y1 hc1 hc2
        generalize xs.getD i 0 = x at *
        generalize ys.getD i 0 = y at *
        generalize x ^^^ y = xy at *
        generalize hu2 : U (i + 1) = u2 at *
        have HU2 := hide hu2
        clear hu2
        generalize U i = u at *
        go_upto_region 7 with fail
        refine wp_region_held_drew (S := fun v => Hid (Below w.heap.size w v)) (by kernel_rfl) (hide HB.out.drew) (fun hHeld => ?_)
        refine take_dstH (i := 0) (d := 17) (v := ?_) rfl rfl (by kernel_rfl) (by kernel_rfl) (by kernel_rfl) (fun _ _ _ h => h) (by rfl) hHeld ?_ ?_
        rotate_left
        · intro wZ hSw; clear hSw; go_simp; first | (with_reducible rfl) | (rw [if_pos (by omega)]; with_reducible rfl) | skip
        try simp only [Act.put, List.setIfInBounds_toArray, List.set_cons_zero, List.set_cons_succ]
        refine take_dstH (i := 1) (d := 18) (v := ?_) rfl rfl (by kernel_rfl) (by kernel_rfl) (by kernel_rfl) (fun _ _ _ h => h) (by rfl) hHeld ?_ ?_
        rotate_left
        · intro wZ hSw; clear hSw; go_simp; first | (with_reducible rfl) | (rw [if_pos (by omega)]; with_reducible rfl) | skip
        try simp only [Act.put, List.setIfInBounds_toArray, List.set_cons_zero, List.set_cons_succ]
        refine take_dstH (i := 2) (d := 19) (v := ?_) rfl rfl (by kernel_rfl) (by kernel_rfl) (by kernel_rfl) (fun _ _ _ h => h) (by rfl) hHeld ?_ ?_
        rotate_left
        · intro wZ hSw; clear hSw; go_simp; first | (with_reducible rfl) | (rw [if_pos (by omega)]; with_reducible rfl) | skip
        try simp only [Act.put, List.setIfInBounds_toArray, List.set_cons_zero, List.set_cons_succ]
        refine take_dstH (i := 3) (d := 20) (v := ?_) rfl rfl (by kernel_rfl) (by kernel_rfl) (by kernel_rfl) (fun _ _ _ h => h) (by rfl) hHeld ?_ ?_
        rotate_left
        · intro wZ hSw; clear hSw; go_simp; first | (with_reducible rfl) | (rw [if_pos (by omega)]; with_reducible rfl) | skip
        try simp only [Act.put, List.setIfInBounds_toArray, List.set_cons_zero, List.set_cons_succ]
        refine take_dstH (i := 4) (d := 21) (v := ?_) rfl rfl (by kernel_rfl) (by kernel_rfl) (by kernel_rfl) (fun _ _ _ h => h) (by rfl) hHeld ?_ ?_
        rotate_left
        · intro wZ hSw; have hfS := KX.out wZ hSw; clear hSw; go_simp; first | (with_reducible rfl) | (rw [if_pos (by omega)]; with_reducible rfl) | skip
        try simp only [Act.put, List.setIfInBounds_toArray, List.set_cons_zero, List.set_cons_succ]
        refine take_dstH (i := 5) (d := 22) (v := ?_) rfl rfl (by kernel_rfl) (by kernel_rfl) (by kernel_rfl) (fun _ _ _ h => h) (by rfl) hHeld ?_ ?_
        rotate_left
        · intro wZ hSw; clear hSw; go_simp; first | (with_reducible rfl) | (rw [if_pos (by omega)]; with_reducible rfl) | skip
        try simp only [Act.put, List.setIfInBounds_toArray, List.set_cons_zero, List.set_cons_succ]
        refine take_dstH (i := 6) (d := 23) (v := ?_) rfl rfl (by kernel_rfl) (by kernel_rfl) (by kernel_rfl) (fun _ _ _ h => h) (by rfl) hHeld ?_ ?_
        rotate_left
        · intro wZ hSw; clear hSw; go_simp; first | (with_reducible rfl) | (rw [if_pos (by omega)]; with_reducible rfl) | skip
        try simp only [Act.put, List.setIfInBounds_toArray, List.set_cons_zero, List.set_cons_succ]
        refine take_dstH (i := 7) (d := 24) (v := ?_) rfl rfl (by kernel_rfl) (by kernel_rfl) (by kernel_rfl) (fun _ _ _ h => h) (by rfl) hHeld ?_ ?_
        rotate_left
        · intro wZ hSw; clear hSw; go_simp; first | (with_reducible rfl) | (rw [if_pos (by omega)]; with_reducible rfl) | skip
        try simp only [Act.put, List.setIfInBounds_toArray, List.set_cons_zero, List.set_cons_succ]
        refine take_dstH (i := 8) (d := 25) (v := ?_) rfl rfl (by kernel_rfl) (by kernel_rfl) (by kernel_rfl) (fun _ _ _ h => h) (by rfl) hHeld ?_ ?_
        rotate_left
        · intro wZ hSw; have hfS := KY.out wZ hSw; clear hSw; go_simp; first | (with_reducible rfl) | (rw [if_pos (by omega)]; with_reducible rfl) | skip
        try simp only [Act.put, List.setIfInBounds_toArray, List.set_cons_zero, List.set_cons_succ]
        refine take_dstH (i := 9) (d := 26) (v := ?_) rfl rfl (by kernel_rfl) (by kernel_rfl) (by kernel_rfl) (fun _ _ _ h => h) (by rfl) hHeld ?_ ?_
        rotate_left
        · intro wZ hSw; clear hSw; go_simp; first | (with_reducible rfl) | (rw [if_pos (by omega)]; with_reducible rfl) | skip
        try simp only [Act.put, List.setIfInBounds_toArray, List.set_cons_zero, List.set_cons_succ]
        refine take_dstH (i := 10) (d := 27) (v := ?_) rfl rfl (by kernel_rfl) (by kernel_rfl) (by kernel_rfl) (fun _ _ _ h => h) (by rfl) hHeld ?_ ?_
        rotate_left
        · intro wZ hSw; clear hSw; go_simp; first | (with_reducible rfl) | (rw [if_pos (by omega)]; with_reducible rfl) | skip
        try simp only [Act.put, List.setIfInBounds_toArray, List.set_cons_zero, List.set_cons_succ]
        refine take_dstH (i := 11) (d := 5) (v := ?_) rfl rfl (by kernel_rfl) (by kernel_rfl) (by kernel_rfl) (fun _ _ _ h => h) (by rfl) hHeld ?_ ?_
        rotate_left
        · intro wZ hSw; clear hSw; go_simp; first | (with_reducible rfl) | (rw [if_pos (by omega)]; with_reducible rfl) | skip
        try simp only [Act.put, List.setIfInBounds_toArray, List.set_cons_zero, List.set_cons_succ]
        refine wpAnyH_done (by kernel_rfl) ?_ _
        go_wp2
        go_roundg (n - i)
        case measure => omega
        case rel => exact ⟨i + 1, by go_num, by rw [HU2.out], by omega, by omega, HB.out.drew⟩
      · have e : i = n := by omega
        subst e
        have hin' : ¬ (i : Int) < (i : Int) := by omega
        go_wp2
        go_ret
        refine ⟨?_, HB.out⟩
        have hz : (((U i : Nat) : Int) == 0) = decide (U i = 0) := by
          by_cases h : U i = 0
          · simp [h]
          · simp [h]
        rw [← HD.out, ← hz]
        rfl
  · have hne : ¬ (xs.length : Int) = (ys.length : Int) := by omega
    have HR : Hid (decide (xs = ys) = false) := decide_eq_false (fun e => hl (by rw [e]))
    have hl' : (xs.length == ys.length) = false := by simpa using hl
    clear h1 h2
    generalize decide (xs = ys) = r at *
    generalize xs.length = n at *
    generalize ys.length = m at *
    go_enter Tryd.func10, Tryd.ntmps10
    go_wp2
    go_ret
    exact ⟨by rw [HR.out]; rfl, Below.refl _ _⟩

end Go.Proofs.YtfopjobcjafgaabDoor
