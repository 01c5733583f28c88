/-
  Walks: numbers held against each other; the reference's code points and forms.
-/
import Derived.Test.YtijjifdgmffenaaDoorUI
namespace Go.Proofs.YtijjifdgmffenaaDoor
open Go.RowKit

set_option maxHeartbeats 4000000 in
set_option maxRecDepth 100000 in
theorem same_any (L c c' : Nat) (p q : Option Addr) (xs : List Int) (w : World) (hp : RPiece w p c xs) (hq : RPiece w q c' xs) (hl : xs.length = L) (h9 : L ≤ 99000) :
    Calls Tryd.prog 21 #[.slice p L c, .slice q L c'] w fun e w' => e = .returned (.bool true) ∧ Below w.heap.size w w' := by
  have HP := hide (And.intro hp (And.intro hq (And.intro hl h9)))
  clear hp hq hl h9
  go_enter Tryd.func21, Tryd.ntmps21
  go_wp2
  go_loopg [5] (L + 1) (fun f s5 wx => ∃ i : Nat, s5 = .int .i64 (i : Int) ∧ i ≤ L ∧ L - i < f ∧ Hid (Below w.heap.size w wx))
  case atStart => exact ⟨0, rfl, Nat.zero_le _, by omega, Below.refl _ _⟩
  case round =>
    obtain ⟨i, rfl, hiL, hif, HB⟩ := hrel
    by_cases hlt : i < L
    · have hxl : 0 < xs.length := by rw [HP.out.2.2.1]; omega
      obtain ⟨g, o, rfl, hc⟩ := HP.out.1.cell hxl
      obtain ⟨g2, o2, rfl, hc2⟩ := HP.out.2.1.cell hxl
      obtain ⟨x, hx⟩ : ∃ x, x = xs.getD i 0 := ⟨_, rfl⟩
      have hil : i < xs.length := by rw [HP.out.2.2.1]; exact hlt
      have ca := hc i hil
      have cb := hc2 i hil
      rw [← hx] at ca cb
      have kx : Hid (∀ u, Hid (u = wr.drew) → u.cell? ⟨g, o + i, none⟩ = some (.int .i32 x)) := fun u hu => by rw [hu.out]; exact (HB.out.cell (p := ⟨g, o + i, none⟩) (block_lt_of_cell ca)).trans ca
      have ky : Hid (∀ u, Hid (u = wr.drew) → u.cell? ⟨g2, o2 + i, none⟩ = some (.int .i32 x)) := fun u hu => by rw [hu.out]; exact (HB.out.cell (p := ⟨g2, o2 + i, none⟩) (block_lt_of_cell cb)).trans cb
      have i1 : (i : Int) < (L : Int) := by omega
      have HB2 : Hid (Below w.heap.size w wr.drew) := HB.out.drew
      clear hx hil ca cb hc hc2 hxl HB
      go_upto_region 6 with fail
      refine wp_region_held_drew (S := fun u => Hid (u = wr.drew)) (by kernel_rfl) (hide rfl) (fun hHeld => ?_)
      refine take_dstH (i := 0) (d := 17) (v := ?_) rfl rfl (by kernel_rfl) (by kernel_rfl) (by kernel_rfl) (fun _ _ _ h => h) (by rfl) hHeld ?_ ?_
      rotate_left
      · intro wZ hSw; clear hSw; go_simp; first | (with_reducible rfl) | (rw [if_pos (by omega)]; with_reducible rfl) | skip
      try simp only [Act.put, List.setIfInBounds_toArray, List.set_cons_zero, List.set_cons_succ]
      refine take_dstH (i := 1) (d := 18) (v := ?_) rfl rfl (by kernel_rfl) (by kernel_rfl) (by kernel_rfl) (fun _ _ _ h => h) (by rfl) hHeld ?_ ?_
      rotate_left
      · intro wZ hSw; clear hSw; go_simp; first | (with_reducible rfl) | (rw [if_pos (by omega)]; with_reducible rfl) | skip
      try simp only [Act.put, List.setIfInBounds_toArray, List.set_cons_zero, List.set_cons_succ]
      refine take_dstH (i := 2) (d := 19) (v := ?_) rfl rfl (by kernel_rfl) (by kernel_rfl) (by kernel_rfl) (fun _ _ _ h => h) (by rfl) hHeld ?_ ?_
      rotate_left
      · intro wZ hSw; clear hSw; go_simp; first | (with_reducible rfl) | (rw [if_pos (by omega)]; with_reducible rfl) | skip
      try simp only [Act.put, List.setIfInBounds_toArray, List.set_cons_zero, List.set_cons_succ]
      refine take_dstH (i := 3) (d := 20) (v := ?_) rfl rfl (by kernel_rfl) (by kernel_rfl) (by kernel_rfl) (fun _ _ _ h => h) (by rfl) hHeld ?_ ?_
      rotate_left
      · intro wZ hSw; have hfS := kx.out wZ hSw; clear hSw; go_simp; first | (with_reducible rfl) | (rw [if_pos (by omega)]; with_reducible rfl) | skip
      try simp only [Act.put, List.setIfInBounds_toArray, List.set_cons_zero, List.set_cons_succ]
      refine take_dstH (i := 4) (d := 21) (v := ?_) rfl rfl (by kernel_rfl) (by kernel_rfl) (by kernel_rfl) (fun _ _ _ h => h) (by rfl) hHeld ?_ ?_
      rotate_left
      · intro wZ hSw; clear hSw; go_simp; first | (with_reducible rfl) | (rw [if_pos (by omega)]; with_reducible rfl) | skip
      try simp only [Act.put, List.setIfInBounds_toArray, List.set_cons_zero, List.set_cons_succ]
      refine take_dstH (i := 5) (d := 22) (v := ?_) rfl rfl (by kernel_rfl) (by kernel_rfl) (by kernel_rfl) (fun _ _ _ h => h) (by rfl) hHeld ?_ ?_
      rotate_left
      · intro wZ hSw; clear hSw; go_simp; first | (with_reducible rfl) | (rw [if_pos (by omega)]; with_reducible rfl) | skip
      try simp only [Act.put, List.setIfInBounds_toArray, List.set_cons_zero, List.set_cons_succ]
      refine take_dstH (i := 6) (d := 23) (v := ?_) rfl rfl (by kernel_rfl) (by kernel_rfl) (by kernel_rfl) (fun _ _ _ h => h) (by rfl) hHeld ?_ ?_
      rotate_left
      · intro wZ hSw; clear hSw; go_simp; first | (with_reducible rfl) | (rw [if_pos (by omega)]; with_reducible rfl) | skip
      try simp only [Act.put, List.setIfInBounds_toArray, List.set_cons_zero, List.set_cons_succ]
      refine take_dstH (i := 7) (d := 24) (v := ?_) rfl rfl (by kernel_rfl) (by kernel_rfl) (by kernel_rfl) (fun _ _ _ h => h) (by rfl) hHeld ?_ ?_
      rotate_left
      · intro wZ hSw; have hfS := ky.out wZ hSw; clear hSw; go_simp; first | (with_reducible rfl) | (rw [if_pos (by omega)]; with_reducible rfl) | skip
      try simp only [Act.put, List.setIfInBounds_toArray, List.set_cons_zero, List.set_cons_succ]
      refine take_dstH (i := 8) (d := 25) (v := ?_) rfl rfl (by kernel_rfl) (by kernel_rfl) (by kernel_rfl) (fun _ _ _ h => h) (by rfl) hHeld ?_ ?_
      rotate_left
      · intro wZ hSw; clear hSw; go_simp; first | (with_reducible rfl) | (rw [if_pos (by omega)]; with_reducible rfl) | skip
      try simp only [Act.put, List.setIfInBounds_toArray, List.set_cons_zero, List.set_cons_succ]
      refine wpAnyH_done (by kernel_rfl) ?_ _
      all_goals
        go_wp2_with fail
        have h3 := HP.out.2.2.2
        go_roundg (L - i)
        case measure => omega
        case rel => exact ⟨i + 1, by rw [show wrap64 ((i : Int) + 1) = ((i + 1 : Nat) : Int) from by unfold wrap64; omega], by omega, by omega, HB2⟩
    · have ei : i = L := by omega
      subst ei
      go_wp2_with fail
      go_ret
      exact ⟨rfl, HB.out⟩

set_option maxHeartbeats 4000000 in
set_option maxRecDepth 100000 in
theorem rsame_any (L c c' : Nat) (p q : Option Addr) (xs : List Int) (w : World) (hp : RPiece w p c xs) (hq : RPiece w q c' xs) (hl : xs.length = L) (h9 : L ≤ 99000) :
    Calls Tryd.prog 12 #[.slice p L c, .slice q L c'] w fun e w' => e = .returned (.bool true) ∧ Below w.heap.size w w' := by
  have HP := hide (And.intro hp (And.intro hq (And.intro hl h9)))
  clear hp hq hl h9
  go_enter Tryd.func12, Tryd.ntmps12
  go_wp2
  go_loopg [5] (L + 1) (fun f s5 wx => ∃ i : Nat, s5 = .int .i64 (i : Int) ∧ i ≤ L ∧ L - i < f ∧ Hid (Below w.heap.size w wx))
  case atStart => exact ⟨0, rfl, Nat.zero_le _, by omega, Below.refl _ _⟩
  case round =>
    obtain ⟨i, rfl, hiL, hif, HB⟩ := hrel
    by_cases hlt : i < L
    · have hxl : 0 < xs.length := by rw [HP.out.2.2.1]; omega
      obtain ⟨g, o, rfl, hc⟩ := HP.out.1.cell hxl
      obtain ⟨g2, o2, rfl, hc2⟩ := HP.out.2.1.cell hxl
      obtain ⟨x, hx⟩ : ∃ x, x = xs.getD i 0 := ⟨_, rfl⟩
      have hil : i < xs.length := by rw [HP.out.2.2.1]; exact hlt
      have ca := hc i hil
      have cb := hc2 i hil
      rw [← hx] at ca cb
      have kx : Hid (∀ u, Hid (u = wr.drew) → u.cell? ⟨g, o + i, none⟩ = some (.int .i32 x)) := fun u hu => by rw [hu.out]; exact (HB.out.cell (p := ⟨g, o + i, none⟩) (block_lt_of_cell ca)).trans ca
      have ky : Hid (∀ u, Hid (u = wr.drew) → u.cell? ⟨g2, o2 + i, none⟩ = some (.int .i32 x)) := fun u hu => by rw [hu.out]; exact (HB.out.cell (p := ⟨g2, o2 + i, none⟩) (block_lt_of_cell cb)).trans cb
      have i1 : (i : Int) < (L : Int) := by omega
      have HB2 : Hid (Below w.heap.size w wr.drew) := HB.out.drew
      clear hx hil ca cb hc hc2 hxl HB
      go_upto_region 6 with fail
      refine wp_region_held_drew (S := fun u => Hid (u = wr.drew)) (by kernel_rfl) (hide rfl) (fun hHeld => ?_)
      refine take_dstH (i := 0) (d := 17) (v := ?_) rfl rfl (by kernel_rfl) (by kernel_rfl) (by kernel_rfl) (fun _ _ _ h => h) (by rfl) hHeld ?_ ?_
      rotate_left
      · intro wZ hSw; clear hSw; go_simp; first | (with_reducible rfl) | (rw [if_pos (by omega)]; with_reducible rfl) | skip
      try simp only [Act.put, List.setIfInBounds_toArray, List.set_cons_zero, List.set_cons_succ]
      refine take_dstH (i := 1) (d := 18) (v := ?_) rfl rfl (by kernel_rfl) (by kernel_rfl) (by kernel_rfl) (fun _ _ _ h => h) (by rfl) hHeld ?_ ?_
      rotate_left
      · intro wZ hSw; clear hSw; go_simp; first | (with_reducible rfl) | (rw [if_pos (by omega)]; with_reducible rfl) | skip
      try simp only [Act.put, List.setIfInBounds_toArray, List.set_cons_zero, List.set_cons_succ]
      refine take_dstH (i := 2) (d := 19) (v := ?_) rfl rfl (by kernel_rfl) (by kernel_rfl) (by kernel_rfl) (fun _ _ _ h => h) (by rfl) hHeld ?_ ?_
      rotate_left
      · intro wZ hSw; clear hSw; go_simp; first | (with_reducible rfl) | (rw [if_pos (by omega)]; with_reducible rfl) | skip
      try simp only [Act.put, List.setIfInBounds_toArray, List.set_cons_zero, List.set_cons_succ]
      refine take_dstH (i := 3) (d := 20) (v := ?_) rfl rfl (by kernel_rfl) (by kernel_rfl) (by kernel_rfl) (fun _ _ _ h => h) (by rfl) hHeld ?_ ?_
      rotate_left
      · intro wZ hSw; have hfS := kx.out wZ hSw; clear hSw; go_simp; first | (with_reducible rfl) | (rw [if_pos (by omega)]; with_reducible rfl) | skip
      try simp only [Act.put, List.setIfInBounds_toArray, List.set_cons_zero, List.set_cons_succ]
      refine take_dstH (i := 4) (d := 21) (v := ?_) rfl rfl (by kernel_rfl) (by kernel_rfl) (by kernel_rfl) (fun _ _ _ h => h) (by rfl) hHeld ?_ ?_
      rotate_left
      · intro wZ hSw; clear hSw; go_simp; first | (with_reducible rfl) | (rw [if_pos (by omega)]; with_reducible rfl) | skip
      try simp only [Act.put, List.setIfInBounds_toArray, List.set_cons_zero, List.set_cons_succ]
      refine take_dstH (i := 5) (d := 22) (v := ?_) rfl rfl (by kernel_rfl) (by kernel_rfl) (by kernel_rfl) (fun _ _ _ h => h) (by rfl) hHeld ?_ ?_
      rotate_left
      · intro wZ hSw; clear hSw; go_simp; first | (with_reducible rfl) | (rw [if_pos (by omega)]; with_reducible rfl) | skip
      try simp only [Act.put, List.setIfInBounds_toArray, List.set_cons_zero, List.set_cons_succ]
      refine take_dstH (i := 6) (d := 23) (v := ?_) rfl rfl (by kernel_rfl) (by kernel_rfl) (by kernel_rfl) (fun _ _ _ h => h) (by rfl) hHeld ?_ ?_
      rotate_left
      · intro wZ hSw; clear hSw; go_simp; first | (with_reducible rfl) | (rw [if_pos (by omega)]; with_reducible rfl) | skip
      try simp only [Act.put, List.setIfInBounds_toArray, List.set_cons_zero, List.set_cons_succ]
      refine take_dstH (i := 7) (d := 24) (v := ?_) rfl rfl (by kernel_rfl) (by kernel_rfl) (by kernel_rfl) (fun _ _ _ h => h) (by rfl) hHeld ?_ ?_
      rotate_left
      · intro wZ hSw; have hfS := ky.out wZ hSw; clear hSw; go_simp; first | (with_reducible rfl) | (rw [if_pos (by omega)]; with_reducible rfl) | skip
      try simp only [Act.put, List.setIfInBounds_toArray, List.set_cons_zero, List.set_cons_succ]
      refine take_dstH (i := 8) (d := 25) (v := ?_) rfl rfl (by kernel_rfl) (by kernel_rfl) (by kernel_rfl) (fun _ _ _ h => h) (by rfl) hHeld ?_ ?_
      rotate_left
      · intro wZ hSw; clear hSw; go_simp; first | (with_reducible rfl) | (rw [if_pos (by omega)]; with_reducible rfl) | skip
      try simp only [Act.put, List.setIfInBounds_toArray, List.set_cons_zero, List.set_cons_succ]
      refine wpAnyH_done (by kernel_rfl) ?_ _
      all_goals
        go_wp2_with fail
        have h3 := HP.out.2.2.2
        go_roundg (L - i)
        case measure => omega
        case rel => exact ⟨i + 1, by rw [show wrap64 ((i : Int) + 1) = ((i + 1 : Nat) : Int) from by unfold wrap64; omega], by omega, by omega, HB2⟩
    · have ei : i = L := by omega
      subst ei
      go_wp2_with fail
      go_ret
      exact ⟨rfl, HB.out⟩

end Go.Proofs.YtijjifdgmffenaaDoor
