/-
  Several texts, joined: SH, SN.
-/
import Derived.Test.YtjiipiolckddnaaDoorJA
import Derived.Test.YtjiipiolckddnaaDoorJB
import Derived.Test.YtjiipiolckddnaaDoorJC

/- A walk: the reference's Block: the eight words behind a block is taken into h. -/
namespace Go.Proofs.YtjiipiolckddnaaDoor
open Go.RowKit

theorem info22 : (Tryd.prog.info? 95).map (·.size) = some 1 := by kernel_rfl

theorem below_set {B : Nat} {w w' : World} (h : Below B w w') (Y j : Nat) (hY : B ≤ Y) (v : Value) : Below B w (w'.setCell ⟨Y, j, none⟩ v) := h.setCell hY v

/-- what lies in memory while the reference takes a block -/
def RB (w wr : World) (g o : Nat) (h b wl : List Nat) : Prop :=
  Arr wr w.heap.size 96 (u32s h) ∧ Arr wr (w.heap.size + 1) 98 (u32s turnT) ∧ Arr wr (w.heap.size + 1 + 1) 96 (u32s (List.replicate 8 0)) ∧
  Arr wr (w.heap.size + 1 + 1 + 1) 98 (u32s wl) ∧ Bts wr g o b ∧ Below w.heap.size w wr

theorem RB.set {w wr : World} {g o : Nat} {h b wl : List Nat} (r : RB w wr g o h b wl) (hg : g < w.heap.size) (i x : Nat) :
    RB w (wr.setCell ⟨w.heap.size + 1 + 1 + 1, i, none⟩ (.int .u32 ((x : Nat) : Int))) g o h b (wl.set i x) := by
  obtain ⟨h0, h1, h2, h3, h4, h5⟩ := r
  refine ⟨h0.other _ _ (show w.heap.size ≠ w.heap.size + 1 + 1 + 1 by omega), h1.other _ _ (show w.heap.size + 1 ≠ w.heap.size + 1 + 1 + 1 by omega), h2.other _ _ (show w.heap.size + 1 + 1 ≠ w.heap.size + 1 + 1 + 1 by omega), ?_, ?_, h5.setCell (show w.heap.size ≤ w.heap.size + 1 + 1 + 1 by omega) _⟩
  · have := h3.set i (.int .u32 ((x : Nat) : Int))
    rw [u32s_set] at this
    exact this
  · intro j hj
    rw [World.cell?_setCell_other _ _ _ _ (fun e => by have := congrArg Addr.block e; simp at this; omega)]
    exact h4 j hj

theorem RB.drew {w wr : World} {g o : Nat} {h b wl : List Nat} (r : RB w wr g o h b wl) : RB w wr.drew g o h b wl := by
  obtain ⟨h0, h1, h2, h3, h4, h5⟩ := r
  exact ⟨h0, h1, h2, h3, h4, h5.drew⟩

theorem RB.later {w wr wx : World} {g o X : Nat} {h b wl : List Nat} (r : RB w wr g o h b wl) (hg : g < w.heap.size) (hX : w.heap.size + 1 + 1 + 1 < X) (hb : Below X wr wx) : RB w wx g o h b wl := by
  obtain ⟨h0, h1, h2, h3, h4, h5⟩ := r
  exact ⟨h0.below (by omega) hb, h1.below (by omega) hb, h2.below (by omega) hb, h3.below hX hb, h4.keptB (by omega) hb, h5.trans (hb.mono (by omega))⟩

theorem part_get (T : List Nat) (n i j : Nat) (h : T.length = n) (hj : j < i) (hi : i ≤ n) : (part T n i).getD j 0 = T.getD j 0 := by
  simp [part, List.getD, List.getElem?_append, h, show j < min i n by omega, show j < n by omega]

set_option maxHeartbeats 16000000 in
set_option maxRecDepth 100000 in
theorem refblock_any (hs b : List Nat) (g o c : Nat) (w : World) (hl : hs.length = 8) (hw : Words hs) (bl : b.length = 64) (hb : ∀ x ∈ b, x < 256) (_hc : 64 ≤ c) (hB : Bts w g o b) :
    Calls Tryd.prog 56 #[.agg (u32s hs).toArray, .slice (some ⟨g, o, none⟩) 64 c, .agg (u32s turnT).toArray] w fun e w' => e = .returned (.agg (u32s (blockF hs b)).toArray) ∧ Below w.heap.size w w' := by
  have hg : g < w.heap.size := block_lt_of_cell (hB 0 (by omega))
  have HBT := hide hB
  have BL := hide bl
  have HL := hide hl
  have HBY := hide hb
  have hTL := spread_length b
  have hTLT := fun i => spread_lt hb i
  have hTAT := fun i hi => spread_at b i hi
  have HSP : Hid (∀ i, turnsF hs b (i + 1) = stepW (turnsF hs b i) (turnT.getD i 0) ((spreadF b).getD i 0)) := fun i => rfl
  generalize spreadF b = T at *
  have TL := hide hTL
  have TLT := hide hTLT
  have TAT := hide hTAT
  clear hB bl hl hb hTL hTLT hTAT
  go_enter Tryd.func56, Tryd.ntmps56
  go_wp2
  go_loopg [8] 65 (fun f s8 wr => ∃ (i : Nat), s8 = .int .i64 i ∧ i ≤ 64 ∧ 64 - i < f ∧ RB w wr g o hs b (part (T) 64 i))
  case atStart =>
    refine ⟨0, rfl, by omega, by omega, ?_⟩
    refine ⟨?_, ?_, ?_, ?_, ?_, ?_⟩
    · exact (((Arr.new w 96 (u32s hs)).alloc _).alloc _).alloc _
    · exact (((Arr.newAt (w.alloc _) 98 (u32s turnT) _ (by simp))).alloc _).alloc _
    · exact ((Arr.newAt ((w.alloc _).alloc _) 96 (u32s (List.replicate 8 0)) _ (by simp))).alloc _
    · exact Arr.newAt (((w.alloc _).alloc _).alloc _) 98 (u32s (List.replicate 64 0)) _ (by simp)
    · exact HBT.out.kept ((((((Below.refl _ _).alloc (Nat.le_refl _) _).alloc (by simp) _).alloc (by simp; omega) _).alloc (by simp; omega) _))
    · exact ((((((Below.refl _ _).alloc (Nat.le_refl _) _).alloc (by simp) _).alloc (by simp; omega) _).alloc (by simp; omega) _))
  case round =>
    obtain ⟨i, rfl, hi, hf, hR⟩ := hrel
    have HR := hide hR
    by_cases hlt : i < 64
    · by_cases h16 : i < 16
      · have hB := hR.2.2.2.2.1
        obtain ⟨r0, h0⟩ : ∃ r, r = 4 * i := ⟨_, rfl⟩
        obtain ⟨r1, h1⟩ : ∃ r, r = 4 * i + 1 := ⟨_, rfl⟩
        obtain ⟨r2, h2⟩ : ∃ r, r = 4 * i + 2 := ⟨_, rfl⟩
        obtain ⟨r3, h3⟩ : ∃ r, r = 4 * i + 3 := ⟨_, rfl⟩
        have HW4 : Hid (T.getD i 0 = b.getD r0 0 * 16777216 + b.getD r1 0 * 65536 + b.getD r2 0 * 256 + b.getD r3 0) := by
          show _ = _
          rw [TAT.out i hlt, nextW, if_pos h16, w4, h0, h1, h2, h3]
        have c0 := hB r0 (by rw [BL.out]; omega)
        have c1 := hB r1 (by rw [BL.out]; omega)
        have c2 := hB r2 (by rw [BL.out]; omega)
        have c3 := hB r3 (by rw [BL.out]; omega)
        have b0 := byte_getD HBY.out r0
        have b1 := byte_getD HBY.out r1
        have b2 := byte_getD HBY.out r2
        have b3 := byte_getD HBY.out r3
        have q0 : IntKind.i64.wrap (4 * (i : Int)) = (r0 : Int) := by simp [IntKind.wrap, IntKind.bits, IntKind.signed]; omega
        have q1 : IntKind.i64.wrap ((r0 : Int) + 1) = (r1 : Int) := by simp [IntKind.wrap, IntKind.bits, IntKind.signed]; omega
        have q2 : IntKind.i64.wrap ((r0 : Int) + 2) = (r2 : Int) := by simp [IntKind.wrap, IntKind.bits, IntKind.signed]; omega
        have q3 : IntKind.i64.wrap ((r0 : Int) + 3) = (r3 : Int) := by simp [IntKind.wrap, IntKind.bits, IntKind.signed]; omega
        have p0 : (r0 : Int) < 64 := by omega
        have p1 : (r1 : Int) < 64 := by omega
        have p2 : (r2 : Int) < 64 := by omega
        have p3 : (r3 : Int) < 64 := by omega
        have cw := (hR.2.2.2.1.cell i).trans (u32s_at (by rw [part_length _ _ _ TL.out (by omega)]; omega))
        have fw := hR.2.2.2.1.frozen i
        have hne : w.heap.size + 1 + 1 + 1 ≠ g := by omega
        clear hB hR h0 h1 h2 h3
        have HC0 : Hid (∀ v : World, Hid (Bts v g o b) → v.cell? ⟨g, o + r0, none⟩ = some (.int .u8 ((b.getD r0 0 : Nat) : Int))) := fun v hv => hv.out r0 (by rw [BL.out]; omega)
        generalize b.getD r0 0 = y0 at *
        clear c0
        have HC1 : Hid (∀ v : World, Hid (Bts v g o b) → v.cell? ⟨g, o + r1, none⟩ = some (.int .u8 ((b.getD r1 0 : Nat) : Int))) := fun v hv => hv.out r1 (by rw [BL.out]; omega)
        generalize b.getD r1 0 = y1 at *
        clear c1
        have HC2 : Hid (∀ v : World, Hid (Bts v g o b) → v.cell? ⟨g, o + r2, none⟩ = some (.int .u8 ((b.getD r2 0 : Nat) : Int))) := fun v hv => hv.out r2 (by rw [BL.out]; omega)
        generalize b.getD r2 0 = y2 at *
        clear c2
        have HC3 : Hid (∀ v : World, Hid (Bts v g o b) → v.cell? ⟨g, o + r3, none⟩ = some (.int .u8 ((b.getD r3 0 : Nat) : Int))) := fun v hv => hv.out r3 (by rw [BL.out]; omega)
        generalize b.getD r3 0 = y3 at *
        clear c3
        generalize (part T 64 i).getD i 0 = old at *
        go_wp2_with fail
        refine wp_region_held_drew (S := fun w' => Hid (Bts w' g o b)) (by kernel_rfl) (hide HR.out.2.2.2.2.1) (fun hHeld => ?_)
        refine take_dstH (i := 0) (d := 27) (v := ?_) rfl rfl (by kernel_rfl) (by kernel_rfl) (by kernel_rfl) (fun _ _ _ h => h) (by rfl) hHeld ?_ ?_
        rotate_left
        · intro wZ hSw; clear hSw; go_simp; first | (with_reducible rfl) | (rw [if_pos (by omega)]; with_reducible rfl) | skip
        try simp only [Act.put, List.setIfInBounds_toArray, List.set_cons_zero, List.set_cons_succ]
        refine take_dstH (i := 1) (d := 28) (v := ?_) rfl rfl (by kernel_rfl) (by kernel_rfl) (by kernel_rfl) (fun _ _ _ h => h) (by rfl) hHeld ?_ ?_
        rotate_left
        · intro wZ hSw; clear hSw; go_simp; first | (with_reducible rfl) | (rw [if_pos (by omega)]; with_reducible rfl) | skip
        try simp only [Act.put, List.setIfInBounds_toArray, List.set_cons_zero, List.set_cons_succ]
        refine take_dstH (i := 2) (d := 29) (v := ?_) rfl rfl (by kernel_rfl) (by kernel_rfl) (by kernel_rfl) (fun _ _ _ h => h) (by rfl) hHeld ?_ ?_
        rotate_left
        · intro wZ hSw; clear hSw; go_simp; first | (with_reducible rfl) | (rw [if_pos (by omega)]; with_reducible rfl) | skip
        try simp only [Act.put, List.setIfInBounds_toArray, List.set_cons_zero, List.set_cons_succ]
        refine take_dstH (i := 3) (d := 30) (v := ?_) rfl rfl (by kernel_rfl) (by kernel_rfl) (by kernel_rfl) (fun _ _ _ h => h) (by rfl) hHeld ?_ ?_
        rotate_left
        · intro wZ hSw; clear hSw; go_simp; first | (with_reducible rfl) | (rw [if_pos (by omega)]; with_reducible rfl) | skip
        try simp only [Act.put, List.setIfInBounds_toArray, List.set_cons_zero, List.set_cons_succ]
        refine take_dstH (i := 4) (d := 31) (v := ?_) rfl rfl (by kernel_rfl) (by kernel_rfl) (by kernel_rfl) (fun _ _ _ h => h) (by rfl) hHeld ?_ ?_
        rotate_left
        · intro wZ hSw; clear hSw; go_simp; first | (with_reducible rfl) | (rw [if_pos (by omega)]; with_reducible rfl) | skip
        try simp only [Act.put, List.setIfInBounds_toArray, List.set_cons_zero, List.set_cons_succ]
        refine take_dstH (i := 5) (d := 32) (v := ?_) rfl rfl (by kernel_rfl) (by kernel_rfl) (by kernel_rfl) (fun _ _ _ h => h) (by rfl) hHeld ?_ ?_
        rotate_left
        · intro wZ hSw; have hfS := HC0.out wZ hSw; clear hSw; go_simp; first | (with_reducible rfl) | (rw [if_pos (by omega)]; with_reducible rfl) | skip
        try simp only [Act.put, List.setIfInBounds_toArray, List.set_cons_zero, List.set_cons_succ]
        refine take_dstH (i := 6) (d := 33) (v := ?_) rfl rfl (by kernel_rfl) (by kernel_rfl) (by kernel_rfl) (fun _ _ _ h => h) (by rfl) hHeld ?_ ?_
        rotate_left
        · intro wZ hSw; clear hSw; go_simp; first | (with_reducible rfl) | (rw [if_pos (by omega)]; with_reducible rfl) | skip
        try simp only [Act.put, List.setIfInBounds_toArray, List.set_cons_zero, List.set_cons_succ]
        refine take_dstH (i := 7) (d := 34) (v := ?_) rfl rfl (by kernel_rfl) (by kernel_rfl) (by kernel_rfl) (fun _ _ _ h => h) (by rfl) hHeld ?_ ?_
        rotate_left
        · intro wZ hSw; clear hSw; go_simp; first | (with_reducible rfl) | (rw [if_pos (by omega)]; with_reducible rfl) | skip
        try simp only [Act.put, List.setIfInBounds_toArray, List.set_cons_zero, List.set_cons_succ]
        refine take_dstH (i := 8) (d := 35) (v := ?_) rfl rfl (by kernel_rfl) (by kernel_rfl) (by kernel_rfl) (fun _ _ _ h => h) (by rfl) hHeld ?_ ?_
        rotate_left
        · intro wZ hSw; clear hSw; go_simp; first | (with_reducible rfl) | (rw [if_pos (by omega)]; with_reducible rfl) | skip
        try simp only [Act.put, List.setIfInBounds_toArray, List.set_cons_zero, List.set_cons_succ]
        refine take_dstH (i := 9) (d := 36) (v := ?_) rfl rfl (by kernel_rfl) (by kernel_rfl) (by kernel_rfl) (fun _ _ _ h => h) (by rfl) hHeld ?_ ?_
        rotate_left
        · intro wZ hSw; clear hSw; go_simp; first | (with_reducible rfl) | (rw [if_pos (by omega)]; with_reducible rfl) | skip
        try simp only [Act.put, List.setIfInBounds_toArray, List.set_cons_zero, List.set_cons_succ]
        refine take_dstH (i := 10) (d := 37) (v := ?_) rfl rfl (by kernel_rfl) (by kernel_rfl) (by kernel_rfl) (fun _ _ _ h => h) (by rfl) hHeld ?_ ?_
        rotate_left
        · intro wZ hSw; clear hSw; go_simp; first | (with_reducible rfl) | (rw [if_pos (by omega)]; with_reducible rfl) | skip
        try simp only [Act.put, List.setIfInBounds_toArray, List.set_cons_zero, List.set_cons_succ]
        refine take_dstH (i := 11) (d := 38) (v := ?_) rfl rfl (by kernel_rfl) (by kernel_rfl) (by kernel_rfl) (fun _ _ _ h => h) (by rfl) hHeld ?_ ?_
        rotate_left
        · intro wZ hSw; clear hSw; go_simp; first | (with_reducible rfl) | (rw [if_pos (by omega)]; with_reducible rfl) | skip
        try simp only [Act.put, List.setIfInBounds_toArray, List.set_cons_zero, List.set_cons_succ]
        refine take_dstH (i := 12) (d := 39) (v := ?_) rfl rfl (by kernel_rfl) (by kernel_rfl) (by kernel_rfl) (fun _ _ _ h => h) (by rfl) hHeld ?_ ?_
        rotate_left
        · intro wZ hSw; clear hSw; go_simp; first | (with_reducible rfl) | (rw [if_pos (by omega)]; with_reducible rfl) | skip
        try simp only [Act.put, List.setIfInBounds_toArray, List.set_cons_zero, List.set_cons_succ]
        refine take_dstH (i := 13) (d := 40) (v := ?_) rfl rfl (by kernel_rfl) (by kernel_rfl) (by kernel_rfl) (fun _ _ _ h => h) (by rfl) hHeld ?_ ?_
        rotate_left
        · intro wZ hSw; have hfS := HC1.out wZ hSw; clear hSw; go_simp; first | (with_reducible rfl) | (rw [if_pos (by omega)]; with_reducible rfl) | skip
        try simp only [Act.put, List.setIfInBounds_toArray, List.set_cons_zero, List.set_cons_succ]
        refine take_dstH (i := 14) (d := 41) (v := ?_) rfl rfl (by kernel_rfl) (by kernel_rfl) (by kernel_rfl) (fun _ _ _ h => h) (by rfl) hHeld ?_ ?_
        rotate_left
        · intro wZ hSw; clear hSw; go_simp; first | (with_reducible rfl) | (rw [if_pos (by omega)]; with_reducible rfl) | skip
        try simp only [Act.put, List.setIfInBounds_toArray, List.set_cons_zero, List.set_cons_succ]
        refine take_dstH (i := 15) (d := 42) (v := ?_) rfl rfl (by kernel_rfl) (by kernel_rfl) (by kernel_rfl) (fun _ _ _ h => h) (by rfl) hHeld ?_ ?_
        rotate_left
        · intro wZ hSw; clear hSw; go_simp; first | (with_reducible rfl) | (rw [if_pos (by omega)]; with_reducible rfl) | skip
        try simp only [Act.put, List.setIfInBounds_toArray, List.set_cons_zero, List.set_cons_succ]
        refine take_dstH (i := 16) (d := 43) (v := ?_) rfl rfl (by kernel_rfl) (by kernel_rfl) (by kernel_rfl) (fun _ _ _ h => h) (by rfl) hHeld ?_ ?_
        rotate_left
        · intro wZ hSw; clear hSw; go_simp; first | (with_reducible rfl) | (rw [if_pos (by omega)]; with_reducible rfl) | skip
        try simp only [Act.put, List.setIfInBounds_toArray, List.set_cons_zero, List.set_cons_succ]
        refine take_dstH (i := 17) (d := 44) (v := ?_) rfl rfl (by kernel_rfl) (by kernel_rfl) (by kernel_rfl) (fun _ _ _ h => h) (by rfl) hHeld ?_ ?_
        rotate_left
        · intro wZ hSw; clear hSw; go_simp; first | (with_reducible rfl) | (rw [if_pos (by omega)]; with_reducible rfl) | skip
        try simp only [Act.put, List.setIfInBounds_toArray, List.set_cons_zero, List.set_cons_succ]
        refine take_dstH (i := 18) (d := 45) (v := ?_) rfl rfl (by kernel_rfl) (by kernel_rfl) (by kernel_rfl) (fun _ _ _ h => h) (by rfl) hHeld ?_ ?_
        rotate_left
        · intro wZ hSw; clear hSw; go_simp; first | (with_reducible rfl) | (rw [if_pos (by omega)]; with_reducible rfl) | skip
        try simp only [Act.put, List.setIfInBounds_toArray, List.set_cons_zero, List.set_cons_succ]
        refine take_dstH (i := 19) (d := 46) (v := ?_) rfl rfl (by kernel_rfl) (by kernel_rfl) (by kernel_rfl) (fun _ _ _ h => h) (by rfl) hHeld ?_ ?_
        rotate_left
        · intro wZ hSw; clear hSw; go_simp; first | (with_reducible rfl) | (rw [if_pos (by omega)]; with_reducible rfl) | skip
        try simp only [Act.put, List.setIfInBounds_toArray, List.set_cons_zero, List.set_cons_succ]
        refine take_dstH (i := 20) (d := 47) (v := ?_) rfl rfl (by kernel_rfl) (by kernel_rfl) (by kernel_rfl) (fun _ _ _ h => h) (by rfl) hHeld ?_ ?_
        rotate_left
        · intro wZ hSw; clear hSw; go_simp; first | (with_reducible rfl) | (rw [if_pos (by omega)]; with_reducible rfl) | skip
        try simp only [Act.put, List.setIfInBounds_toArray, List.set_cons_zero, List.set_cons_succ]
        refine take_dstH (i := 21) (d := 48) (v := ?_) rfl rfl (by kernel_rfl) (by kernel_rfl) (by kernel_rfl) (fun _ _ _ h => h) (by rfl) hHeld ?_ ?_
        rotate_left
        · intro wZ hSw; clear hSw; go_simp; first | (with_reducible rfl) | (rw [if_pos (by omega)]; with_reducible rfl) | skip
        try simp only [Act.put, List.setIfInBounds_toArray, List.set_cons_zero, List.set_cons_succ]
        refine take_dstH (i := 22) (d := 49) (v := ?_) rfl rfl (by kernel_rfl) (by kernel_rfl) (by kernel_rfl) (fun _ _ _ h => h) (by rfl) hHeld ?_ ?_
        rotate_left
        · intro wZ hSw; have hfS := HC2.out wZ hSw; clear hSw; go_simp; first | (with_reducible rfl) | (rw [if_pos (by omega)]; with_reducible rfl) | skip
        try simp only [Act.put, List.setIfInBounds_toArray, List.set_cons_zero, List.set_cons_succ]
        refine take_dstH (i := 23) (d := 50) (v := ?_) rfl rfl (by kernel_rfl) (by kernel_rfl) (by kernel_rfl) (fun _ _ _ h => h) (by rfl) hHeld ?_ ?_
        rotate_left
        · intro wZ hSw; clear hSw; go_simp; first | (with_reducible rfl) | (rw [if_pos (by omega)]; with_reducible rfl) | skip
        try simp only [Act.put, List.setIfInBounds_toArray, List.set_cons_zero, List.set_cons_succ]
        refine take_dstH (i := 24) (d := 51) (v := ?_) rfl rfl (by kernel_rfl) (by kernel_rfl) (by kernel_rfl) (fun _ _ _ h => h) (by rfl) hHeld ?_ ?_
        rotate_left
        · intro wZ hSw; clear hSw; go_simp; first | (with_reducible rfl) | (rw [if_pos (by omega)]; with_reducible rfl) | skip
        try simp only [Act.put, List.setIfInBounds_toArray, List.set_cons_zero, List.set_cons_succ]
        refine take_dstH (i := 25) (d := 52) (v := ?_) rfl rfl (by kernel_rfl) (by kernel_rfl) (by kernel_rfl) (fun _ _ _ h => h) (by rfl) hHeld ?_ ?_
        rotate_left
        · intro wZ hSw; clear hSw; go_simp; first | (with_reducible rfl) | (rw [if_pos (by omega)]; with_reducible rfl) | skip
        try simp only [Act.put, List.setIfInBounds_toArray, List.set_cons_zero, List.set_cons_succ]
        refine take_dstH (i := 26) (d := 53) (v := ?_) rfl rfl (by kernel_rfl) (by kernel_rfl) (by kernel_rfl) (fun _ _ _ h => h) (by rfl) hHeld ?_ ?_
        rotate_left
        · intro wZ hSw; clear hSw; go_simp; first | (with_reducible rfl) | (rw [if_pos (by omega)]; with_reducible rfl) | skip
        try simp only [Act.put, List.setIfInBounds_toArray, List.set_cons_zero, List.set_cons_succ]
        refine take_dstH (i := 27) (d := 54) (v := ?_) rfl rfl (by kernel_rfl) (by kernel_rfl) (by kernel_rfl) (fun _ _ _ h => h) (by rfl) hHeld ?_ ?_
        rotate_left
        · intro wZ hSw; clear hSw; go_simp; first | (with_reducible rfl) | (rw [if_pos (by omega)]; with_reducible rfl) | skip
        try simp only [Act.put, List.setIfInBounds_toArray, List.set_cons_zero, List.set_cons_succ]
        refine take_dstH (i := 28) (d := 55) (v := ?_) rfl rfl (by kernel_rfl) (by kernel_rfl) (by kernel_rfl) (fun _ _ _ h => h) (by rfl) hHeld ?_ ?_
        rotate_left
        · intro wZ hSw; clear hSw; go_simp; first | (with_reducible rfl) | (rw [if_pos (by omega)]; with_reducible rfl) | skip
        try simp only [Act.put, List.setIfInBounds_toArray, List.set_cons_zero, List.set_cons_succ]
        refine take_dstH (i := 29) (d := 56) (v := ?_) rfl rfl (by kernel_rfl) (by kernel_rfl) (by kernel_rfl) (fun _ _ _ h => h) (by rfl) hHeld ?_ ?_
        rotate_left
        · intro wZ hSw; clear hSw; go_simp; first | (with_reducible rfl) | (rw [if_pos (by omega)]; with_reducible rfl) | skip
        try simp only [Act.put, List.setIfInBounds_toArray, List.set_cons_zero, List.set_cons_succ]
        refine take_dstH (i := 30) (d := 57) (v := ?_) rfl rfl (by kernel_rfl) (by kernel_rfl) (by kernel_rfl) (fun _ _ _ h => h) (by rfl) hHeld ?_ ?_
        rotate_left
        · intro wZ hSw; clear hSw; go_simp; first | (with_reducible rfl) | (rw [if_pos (by omega)]; with_reducible rfl) | skip
        try simp only [Act.put, List.setIfInBounds_toArray, List.set_cons_zero, List.set_cons_succ]
        refine take_dstH (i := 31) (d := 58) (v := ?_) rfl rfl (by kernel_rfl) (by kernel_rfl) (by kernel_rfl) (fun _ _ _ h => h) (by rfl) hHeld ?_ ?_
        rotate_left
        · intro wZ hSw; have hfS := HC3.out wZ hSw; clear hSw; go_simp; first | (with_reducible rfl) | (rw [if_pos (by omega)]; with_reducible rfl) | skip
        try simp only [Act.put, List.setIfInBounds_toArray, List.set_cons_zero, List.set_cons_succ]
        refine take_dstH (i := 32) (d := 59) (v := ?_) rfl rfl (by kernel_rfl) (by kernel_rfl) (by kernel_rfl) (fun _ _ _ h => h) (by rfl) hHeld ?_ ?_
        rotate_left
        · intro wZ hSw; clear hSw; go_simp; first | (with_reducible rfl) | (rw [if_pos (by omega)]; with_reducible rfl) | skip
        try simp only [Act.put, List.setIfInBounds_toArray, List.set_cons_zero, List.set_cons_succ]
        refine take_dstH (i := 33) (d := 60) (v := ?_) rfl rfl (by kernel_rfl) (by kernel_rfl) (by kernel_rfl) (fun _ _ _ h => h) (by rfl) hHeld ?_ ?_
        rotate_left
        · intro wZ hSw; clear hSw; go_simp; first | (with_reducible rfl) | (rw [if_pos (by omega)]; with_reducible rfl) | skip
        try simp only [Act.put, List.setIfInBounds_toArray, List.set_cons_zero, List.set_cons_succ]
        refine take_dstH (i := 34) (d := 61) (v := ?_) rfl rfl (by kernel_rfl) (by kernel_rfl) (by kernel_rfl) (fun _ _ _ h => h) (by rfl) hHeld ?_ ?_
        rotate_left
        · intro wZ hSw; clear hSw; go_simp; first | (with_reducible rfl) | (rw [if_pos (by omega)]; with_reducible rfl) | skip
        try simp only [Act.put, List.setIfInBounds_toArray, List.set_cons_zero, List.set_cons_succ]
        refine wpAnyH_ready (rs := [35]) (by kernel_rfl) (by simp) ?_
        refine (AllReadyH.cons rfl (fun K hK => ?_) AllReadyH.nil)
        go_simp
        refine hK.out _ _ ?_ (fun hHeld => ?_)
        · exact hide (RB.set HR.out.drew hg i _).2.2.2.2.1
        clear hK K
        try simp only [Act.put, List.setIfInBounds_toArray, List.set_cons_zero, List.set_cons_succ]
        refine wpAnyH_done (by kernel_rfl) ?_ _
        have EW : IntKind.u32.wrap (IntKind.u32.wrap (IntKind.u32.wrap (IntKind.u32.wrap (IntKind.u32.wrap (y0 : Int) * 16777216) + IntKind.u32.wrap (IntKind.u32.wrap (y1 : Int) * 65536)) + IntKind.u32.wrap (IntKind.u32.wrap (y2 : Int) * 256)) + IntKind.u32.wrap (y3 : Int)) = ((T.getD i 0 : Nat) : Int) := by
          have := HW4.out
          simp only [IntKind.wrap_u32']
          omega
        rw [EW]
        clear EW hHeld
        go_wp2
        go_roundg (64 - i)
        case measure => omega
        case rel =>
          refine ⟨i + 1, by go_num, by omega, by omega, ?_⟩
          have := (RB.set HR.out hg i (T.getD i 0)).drew
          rw [part_set _ _ _ TL.out hlt] at this
          exact this
      · obtain ⟨r16, h16'⟩ : ∃ r, r = i - 16 := ⟨_, rfl⟩
        obtain ⟨r15, h15⟩ : ∃ r, r = i - 15 := ⟨_, rfl⟩
        obtain ⟨r7, h7⟩ : ∃ r, r = i - 7 := ⟨_, rfl⟩
        obtain ⟨r2, h2⟩ : ∃ r, r = i - 2 := ⟨_, rfl⟩
        have HNX : Hid (T.getD i 0 = (T.getD r16 0 + rot2 (T.getD r15 0) 7 18 3 + T.getD r7 0 + rot2 (T.getD r2 0) 17 19 10) % 4294967296) := by
          show _ = _
          rw [TAT.out i hlt, nextW, if_neg h16, h16', h15, h7, h2]
        have cl : ∀ j, j < i → wr.cell? ⟨w.heap.size + 1 + 1 + 1, j, none⟩ = some (.int .u32 ((T.getD j 0 : Nat) : Int)) := fun j hj => by
          have := (hR.2.2.2.1.cell j).trans (u32s_at (by rw [part_length _ _ _ TL.out (by omega)]; omega))
          rw [part_get _ _ _ _ TL.out hj (by omega)] at this
          exact this
        have c15 := cl r15 (by omega)
        have c2 := cl r2 (by omega)
        have c16 := cl r16 (by omega)
        have c7 := cl r7 (by omega)
        have cw := (hR.2.2.2.1.cell i).trans (u32s_at (by rw [part_length _ _ _ TL.out (by omega)]; omega))
        have fw := hR.2.2.2.1.frozen i
        have l15 := TLT.out r15
        have l2 := TLT.out r2
        have l16 := TLT.out r16
        have l7 := TLT.out r7
        have e16 : (i : Int) - 16 = (r16 : Int) := by omega
        have e15 : (i : Int) - 15 = (r15 : Int) := by omega
        have e7 : (i : Int) - 7 = (r7 : Int) := by omega
        have e2 : (i : Int) - 2 = (r2 : Int) := by omega
        have q16 : IntKind.i64.wrap (r16 : Int) = (r16 : Int) := by simp [IntKind.wrap, IntKind.bits, IntKind.signed]; omega
        have q7 : IntKind.i64.wrap (r7 : Int) = (r7 : Int) := by simp [IntKind.wrap, IntKind.bits, IntKind.signed]; omega
        have p15 : (r15 : Int) < 64 := by omega
        have p2 : (r2 : Int) < 64 := by omega
        have p16 : (r16 : Int) < 64 := by omega
        have p7 : (r7 : Int) < 64 := by omega
        have pi64 : (i : Int) < 64 := by omega
        have n16 : r16 ≠ i := by omega
        have n7 : r7 ≠ i := by omega
        clear cl hR h16' h15 h7 h2
        generalize T.getD r15 0 = y15 at *
        generalize T.getD r2 0 = y2 at *
        generalize T.getD r16 0 = y16 at *
        generalize T.getD r7 0 = y7 at *
        generalize (part T 64 i).getD i 0 = old at *
        have C1 : Hid (∀ w : World, Calls Tryd.prog 76 #[.int .u32 y15, .int .i64 7] w fun e w' => e = .returned (.int .u32 ((rot y15 7 : Nat) : Int)) ∧ w' = w) := fun w => refturn_any y15 7 l15 (by omega) (by omega) w
        have C2 : Hid (∀ w : World, Calls Tryd.prog 76 #[.int .u32 y15, .int .i64 18] w fun e w' => e = .returned (.int .u32 ((rot y15 18 : Nat) : Int)) ∧ w' = w) := fun w => refturn_any y15 18 l15 (by omega) (by omega) w
        have C3 : Hid (∀ w : World, Calls Tryd.prog 76 #[.int .u32 y2, .int .i64 17] w fun e w' => e = .returned (.int .u32 ((rot y2 17 : Nat) : Int)) ∧ w' = w) := fun w => refturn_any y2 17 l2 (by omega) (by omega) w
        have C4 : Hid (∀ w : World, Calls Tryd.prog 76 #[.int .u32 y2, .int .i64 19] w fun e w' => e = .returned (.int .u32 ((rot y2 19 : Nat) : Int)) ∧ w' = w) := fun w => refturn_any y2 19 l2 (by omega) (by omega) w
        have x1 : bits .xor .u32 (bits .xor .u32 ((rot y15 7 : Nat) : Int) ((rot y15 18 : Nat) : Int)) ((y15 : Int) / 8) = ((rot2 y15 7 18 3 : Nat) : Int) := by
          rw [show (y15 : Int) / 8 = ((y15 / 2 ^ 3 : Nat) : Int) by simp, xor3 _ _ _ (rot_lt l15 _) (rot_lt l15 _) (by omega), rot2]
        have x2 : bits .xor .u32 (bits .xor .u32 ((rot y2 17 : Nat) : Int) ((rot y2 19 : Nat) : Int)) ((y2 : Int) / 1024) = ((rot2 y2 17 19 10 : Nat) : Int) := by
          rw [show (y2 : Int) / 1024 = ((y2 / 2 ^ 10 : Nat) : Int) by simp, xor3 _ _ _ (rot_lt l2 _) (rot_lt l2 _) (by omega), rot2]
        have ls := rot2_lt l15 7 18 3
        have lt := rot2_lt l2 17 19 10
        generalize rot2 y15 7 18 3 = sv at *
        generalize rot2 y2 17 19 10 = tv at *
        go_wp2_with fail
        refine (C1.out _).mono ?_
        rintro e w1 ⟨rfl, hw1⟩
        subst hw1
        go_wp2_with fail
        refine (C2.out _).mono ?_
        rintro e w1 ⟨rfl, hw1⟩
        subst hw1
        go_wp2_with fail
        refine (C3.out _).mono ?_
        rintro e w1 ⟨rfl, hw1⟩
        subst hw1
        go_wp2_with fail
        refine (C4.out _).mono ?_
        rintro e w1 ⟨rfl, hw1⟩
        subst hw1
        go_wp2_with fail
        refine wp_region_held_drew (S := fun w' => Hid (w'.cell? ⟨w.heap.size + 1 + 1 + 1, r16, none⟩ = some (.int .u32 (y16 : Int)) ∧ w'.cell? ⟨w.heap.size + 1 + 1 + 1, r7, none⟩ = some (.int .u32 (y7 : Int)))) (by kernel_rfl) (hide ⟨c16, c7⟩) (fun hHeld => ?_)
        refine take_dstH (i := 0) (d := 86) (v := ?_) rfl rfl (by kernel_rfl) (by kernel_rfl) (by kernel_rfl) (fun _ _ _ h => h) (by rfl) hHeld ?_ ?_
        rotate_left
        · intro wZ hSw; clear hSw; go_simp; first | (with_reducible rfl) | (rw [if_pos (by omega)]; with_reducible rfl) | skip
        try simp only [Act.put, List.setIfInBounds_toArray, List.set_cons_zero, List.set_cons_succ]
        refine take_dstH (i := 1) (d := 87) (v := ?_) rfl rfl (by kernel_rfl) (by kernel_rfl) (by kernel_rfl) (fun _ _ _ h => h) (by rfl) hHeld ?_ ?_
        rotate_left
        · intro wZ hSw; clear hSw; go_simp; first | (with_reducible rfl) | (rw [if_pos (by omega)]; with_reducible rfl) | skip
        try simp only [Act.put, List.setIfInBounds_toArray, List.set_cons_zero, List.set_cons_succ]
        refine take_dstH (i := 2) (d := 88) (v := ?_) rfl rfl (by kernel_rfl) (by kernel_rfl) (by kernel_rfl) (fun _ _ _ h => h) (by rfl) hHeld ?_ ?_
        rotate_left
        · intro wZ hSw; clear hSw; go_simp; first | (with_reducible rfl) | (rw [if_pos (by omega)]; with_reducible rfl) | skip
        try simp only [Act.put, List.setIfInBounds_toArray, List.set_cons_zero, List.set_cons_succ]
        refine take_dstH (i := 3) (d := 89) (v := ?_) rfl rfl (by kernel_rfl) (by kernel_rfl) (by kernel_rfl) (fun _ _ _ h => h) (by rfl) hHeld ?_ ?_
        rotate_left
        · intro wZ hSw; clear hSw; go_simp; first | (with_reducible rfl) | (rw [if_pos (by omega)]; with_reducible rfl) | skip
        try simp only [Act.put, List.setIfInBounds_toArray, List.set_cons_zero, List.set_cons_succ]
        refine take_dstH (i := 4) (d := 90) (v := ?_) rfl rfl (by kernel_rfl) (by kernel_rfl) (by kernel_rfl) (fun _ _ _ h => h) (by rfl) hHeld ?_ ?_
        rotate_left
        · intro wZ hSw; have hfS := (fun v hv => (Hid.out hv).1) wZ hSw; clear hSw; go_simp; first | (with_reducible rfl) | (rw [if_pos (by omega)]; with_reducible rfl) | skip
        try simp only [Act.put, List.setIfInBounds_toArray, List.set_cons_zero, List.set_cons_succ]
        refine take_dstH (i := 5) (d := 91) (v := ?_) rfl rfl (by kernel_rfl) (by kernel_rfl) (by kernel_rfl) (fun _ _ _ h => h) (by rfl) hHeld ?_ ?_
        rotate_left
        · intro wZ hSw; clear hSw; go_simp; first | (with_reducible rfl) | (rw [if_pos (by omega)]; with_reducible rfl) | skip
        try simp only [Act.put, List.setIfInBounds_toArray, List.set_cons_zero, List.set_cons_succ]
        refine take_dstH (i := 6) (d := 92) (v := ?_) rfl rfl (by kernel_rfl) (by kernel_rfl) (by kernel_rfl) (fun _ _ _ h => h) (by rfl) hHeld ?_ ?_
        rotate_left
        · intro wZ hSw; clear hSw; go_simp; first | (with_reducible rfl) | (rw [if_pos (by omega)]; with_reducible rfl) | skip
        try simp only [Act.put, List.setIfInBounds_toArray, List.set_cons_zero, List.set_cons_succ]
        refine take_dstH (i := 7) (d := 93) (v := ?_) rfl rfl (by kernel_rfl) (by kernel_rfl) (by kernel_rfl) (fun _ _ _ h => h) (by rfl) hHeld ?_ ?_
        rotate_left
        · intro wZ hSw; clear hSw; go_simp; first | (with_reducible rfl) | (rw [if_pos (by omega)]; with_reducible rfl) | skip
        try simp only [Act.put, List.setIfInBounds_toArray, List.set_cons_zero, List.set_cons_succ]
        refine take_dstH (i := 8) (d := 94) (v := ?_) rfl rfl (by kernel_rfl) (by kernel_rfl) (by kernel_rfl) (fun _ _ _ h => h) (by rfl) hHeld ?_ ?_
        rotate_left
        · intro wZ hSw; clear hSw; go_simp; first | (with_reducible rfl) | (rw [if_pos (by omega)]; with_reducible rfl) | skip
        try simp only [Act.put, List.setIfInBounds_toArray, List.set_cons_zero, List.set_cons_succ]
        refine take_dstH (i := 9) (d := 95) (v := ?_) rfl rfl (by kernel_rfl) (by kernel_rfl) (by kernel_rfl) (fun _ _ _ h => h) (by rfl) hHeld ?_ ?_
        rotate_left
        · intro wZ hSw; clear hSw; go_simp; first | (with_reducible rfl) | (rw [if_pos (by omega)]; with_reducible rfl) | skip
        try simp only [Act.put, List.setIfInBounds_toArray, List.set_cons_zero, List.set_cons_succ]
        refine take_dstH (i := 10) (d := 96) (v := ?_) rfl rfl (by kernel_rfl) (by kernel_rfl) (by kernel_rfl) (fun _ _ _ h => h) (by rfl) hHeld ?_ ?_
        rotate_left
        · intro wZ hSw; have hfS := (fun v hv => (Hid.out hv).2) wZ hSw; clear hSw; go_simp; first | (with_reducible rfl) | (rw [if_pos (by omega)]; with_reducible rfl) | skip
        try simp only [Act.put, List.setIfInBounds_toArray, List.set_cons_zero, List.set_cons_succ]
        refine take_dstH (i := 11) (d := 97) (v := ?_) rfl rfl (by kernel_rfl) (by kernel_rfl) (by kernel_rfl) (fun _ _ _ h => h) (by rfl) hHeld ?_ ?_
        rotate_left
        · intro wZ hSw; clear hSw; go_simp; first | (with_reducible rfl) | (rw [if_pos (by omega)]; with_reducible rfl) | skip
        try simp only [Act.put, List.setIfInBounds_toArray, List.set_cons_zero, List.set_cons_succ]
        refine take_dstH (i := 12) (d := 98) (v := ?_) rfl rfl (by kernel_rfl) (by kernel_rfl) (by kernel_rfl) (fun _ _ _ h => h) (by rfl) hHeld ?_ ?_
        rotate_left
        · intro wZ hSw; clear hSw; go_simp; first | (with_reducible rfl) | (rw [if_pos (by omega)]; with_reducible rfl) | skip
        try simp only [Act.put, List.setIfInBounds_toArray, List.set_cons_zero, List.set_cons_succ]
        refine take_dstH (i := 13) (d := 99) (v := ?_) rfl rfl (by kernel_rfl) (by kernel_rfl) (by kernel_rfl) (fun _ _ _ h => h) (by rfl) hHeld ?_ ?_
        rotate_left
        · intro wZ hSw; clear hSw; go_simp; first | (with_reducible rfl) | (rw [if_pos (by omega)]; with_reducible rfl) | skip
        try simp only [Act.put, List.setIfInBounds_toArray, List.set_cons_zero, List.set_cons_succ]
        refine take_dstH (i := 14) (d := 100) (v := ?_) rfl rfl (by kernel_rfl) (by kernel_rfl) (by kernel_rfl) (fun _ _ _ h => h) (by rfl) hHeld ?_ ?_
        rotate_left
        · intro wZ hSw; clear hSw; go_simp; first | (with_reducible rfl) | (rw [if_pos (by omega)]; with_reducible rfl) | skip
        try simp only [Act.put, List.setIfInBounds_toArray, List.set_cons_zero, List.set_cons_succ]
        refine wpAnyH_ready (rs := [15]) (by kernel_rfl) (by simp) ?_
        refine (AllReadyH.cons rfl (fun K hK => ?_) AllReadyH.nil)
        go_simp
        refine hK.out _ _ ?_ (fun hHeld => ?_)
        · exact hide ⟨(World.cell?_setCell_other _ _ _ _ (fun e => n16 (congrArg Addr.off e).symm)).trans c16, (World.cell?_setCell_other _ _ _ _ (fun e => n7 (congrArg Addr.off e).symm)).trans c7⟩
        clear hK K
        try simp only [Act.put, List.setIfInBounds_toArray, List.set_cons_zero, List.set_cons_succ]
        refine wpAnyH_done (by kernel_rfl) ?_ _
        have EW : IntKind.u32.wrap (IntKind.u32.wrap (IntKind.u32.wrap ((y16 : Int) + (sv : Int)) + (y7 : Int)) + (tv : Int)) = ((T.getD i 0 : Nat) : Int) := by
          have := HNX.out
          simp only [IntKind.wrap_u32']
          omega
        rw [EW]
        clear EW hHeld
        go_wp2
        go_roundg (64 - i)
        case measure => omega
        case rel =>
          refine ⟨i + 1, by go_num, by omega, by omega, ?_⟩
          have := (RB.set HR.out hg i (T.getD i 0)).drew
          rw [part_set _ _ _ TL.out hlt] at this
          exact this
    · have e : i = 64 := by omega
      subst e
      rw [part_full _ _ TL.out] at hR
      have HR2 := hide hR
      have HA0 := hide hR.1
      have IH : (Tryd.prog.info? 96).map (·.size) = some (u32s hs).toArray.size := by rw [info26]; simp [u32s, HL.out]
      have ZH : (#[Value.int .u32 0, Value.int .u32 0, Value.int .u32 0, Value.int .u32 0, Value.int .u32 0, Value.int .u32 0, Value.int .u32 0, Value.int .u32 0] : Array Value).size = (u32s hs).toArray.size := by simp [u32s, HL.out]
      have HIH := hide IH
      have HZH := hide ZH
      clear hR HR IH ZH
      generalize hX : wr.heap.size = X at *
      go_wp2_with (first
        | (refine wpList_load_row rfl 96 _ rfl w.heap.size rfl 96 _ (0, 0) _ HA0.out Tryd.underlying96 rfl HIH.out ?_)
        | (refine wpList_store_row rfl 96 _ _ rfl X _ rfl rfl 96 _ (by rw [← hX]; exact heap_alloc_new wr _) HIH.out HZH.out (one_u32s _) ?_))
      have HXG : Hid (w.heap.size + 1 + 1 + 1 < X) := by show _ < _; rw [← hX]; exact HR2.out.2.2.2.1.lt
      go_loopg [14] 65 (fun f s14 wx => ∃ (i : Nat), s14 = .int .i64 i ∧ i ≤ 64 ∧ 64 - i < f ∧ RB w wx g o hs b T ∧ Arr wx X 96 (u32s (turnsF hs b i)))
      case atStart =>
        refine ⟨0, rfl, by omega, by omega, ?_, ?_⟩
        · refine HR2.out.later hg (X := X) HXG.out (below_setRow ((Below.refl X wr).alloc (by omega) _) (Nat.le_refl _) (by simp; omega) _)
        · exact (Arr.newAt wr 96 _ X hX).row _
      case round =>
        clear HR2 HA0 hX
        obtain ⟨i, rfl, hi, hf, hR, hx⟩ := hrel
        have HR := hide hR
        have HX := hide hx
        by_cases hlt : i < 64
        · have hsx := HSP.out i
          have hxl := turnsF_length (b := b) HL.out i
          have hxw := turnsF_words (b := b) hw i
          generalize turnsF hs b i = x at *
          obtain ⟨xa, xb, xc, xd, xe, xf, xg, xh, rfl⟩ := eight hxl
          have c0 : wr.cell? ⟨X, 0, none⟩ = some (.int .u32 (xa : Int)) := hx.cell 0
          have c1 : wr.cell? ⟨X, 1, none⟩ = some (.int .u32 (xb : Int)) := hx.cell 1
          have c2 : wr.cell? ⟨X, 2, none⟩ = some (.int .u32 (xc : Int)) := hx.cell 2
          have c3 : wr.cell? ⟨X, 3, none⟩ = some (.int .u32 (xd : Int)) := hx.cell 3
          have c4 : wr.cell? ⟨X, 4, none⟩ = some (.int .u32 (xe : Int)) := hx.cell 4
          have c5 : wr.cell? ⟨X, 5, none⟩ = some (.int .u32 (xf : Int)) := hx.cell 5
          have c6 : wr.cell? ⟨X, 6, none⟩ = some (.int .u32 (xg : Int)) := hx.cell 6
          have c7 : wr.cell? ⟨X, 7, none⟩ = some (.int .u32 (xh : Int)) := hx.cell 7
          have ck := (hR.2.1.cell i).trans (u32s_at (l := turnT) (by rw [turnT_length]; exact hlt))
          have cw := (hR.2.2.2.1.cell i).trans (u32s_at (l := T) (by rw [TL.out]; exact hlt))
          have la : xa < 4294967296 := hxw xa (by simp)
          have lb : xb < 4294967296 := hxw xb (by simp)
          have lc : xc < 4294967296 := hxw xc (by simp)
          have ld : xd < 4294967296 := hxw xd (by simp)
          have le : xe < 4294967296 := hxw xe (by simp)
          have lf : xf < 4294967296 := hxw xf (by simp)
          have lg : xg < 4294967296 := hxw xg (by simp)
          have lh : xh < 4294967296 := hxw xh (by simp)
          have lk := turn_lt i hlt
          have lw := TLT.out i
          have HSX : Hid (turnsF hs b (i + 1) = stepW [xa, xb, xc, xd, xe, xf, xg, xh] (turnT.getD i 0) (T.getD i 0)) := hsx
          generalize turnT.getD i 0 = kv at *
          generalize T.getD i 0 = wv at *
          have C1 : Hid (∀ w : World, Calls Tryd.prog 76 #[.int .u32 xe, .int .i64 6] w fun e w' => e = .returned (.int .u32 ((rot xe 6 : Nat) : Int)) ∧ w' = w) := fun w => refturn_any xe 6 le (by omega) (by omega) w
          have C2 : Hid (∀ w : World, Calls Tryd.prog 76 #[.int .u32 xe, .int .i64 11] w fun e w' => e = .returned (.int .u32 ((rot xe 11 : Nat) : Int)) ∧ w' = w) := fun w => refturn_any xe 11 le (by omega) (by omega) w
          have C3 : Hid (∀ w : World, Calls Tryd.prog 76 #[.int .u32 xe, .int .i64 25] w fun e w' => e = .returned (.int .u32 ((rot xe 25 : Nat) : Int)) ∧ w' = w) := fun w => refturn_any xe 25 le (by omega) (by omega) w
          have C4 : Hid (∀ w : World, Calls Tryd.prog 76 #[.int .u32 xa, .int .i64 2] w fun e w' => e = .returned (.int .u32 ((rot xa 2 : Nat) : Int)) ∧ w' = w) := fun w => refturn_any xa 2 la (by omega) (by omega) w
          have C5 : Hid (∀ w : World, Calls Tryd.prog 76 #[.int .u32 xa, .int .i64 13] w fun e w' => e = .returned (.int .u32 ((rot xa 13 : Nat) : Int)) ∧ w' = w) := fun w => refturn_any xa 13 la (by omega) (by omega) w
          have C6 : Hid (∀ w : World, Calls Tryd.prog 76 #[.int .u32 xa, .int .i64 22] w fun e w' => e = .returned (.int .u32 ((rot xa 22 : Nat) : Int)) ∧ w' = w) := fun w => refturn_any xa 22 la (by omega) (by omega) w
          have s1 : bits .xor .u32 (bits .xor .u32 ((rot xe 6 : Nat) : Int) ((rot xe 11 : Nat) : Int)) ((rot xe 25 : Nat) : Int) = ((rot3 xe 6 11 25 : Nat) : Int) := xor3 _ _ _ (rot_lt le _) (rot_lt le _) (rot_lt le _)
          have s0 : bits .xor .u32 (bits .xor .u32 ((rot xa 2 : Nat) : Int) ((rot xa 13 : Nat) : Int)) ((rot xa 22 : Nat) : Int) = ((rot3 xa 2 13 22 : Nat) : Int) := xor3 _ _ _ (rot_lt la _) (rot_lt la _) (rot_lt la _)
          have hi64 : (i : Int) < 64 := by omega
          clear hsx hxl hxw hR hx
          go_upto_region 18 with fail
          go_cut [17] (fun s17 wc => s17 = .int .u32 ((s_uF xe xf xg xh kv wv : Nat) : Int) ∧ wc = wr.drew)
          case first =>
            refine wp_region_held_drew (S := fun w' => Hid (w' = wr.drew)) (by kernel_rfl) (hide rfl) (fun hHeld => ?_)
            refine take_dstH (i := 0) (d := 110) (v := ?_) rfl rfl (by kernel_rfl) (by kernel_rfl) (by kernel_rfl) (fun _ _ _ h => h) (by rfl) hHeld ?_ ?_
            rotate_left
            · intro wZ hSw; clear hSw; go_simp; first | (with_reducible rfl) | (rw [if_pos (by omega)]; with_reducible rfl) | skip
            try simp only [Act.put, List.setIfInBounds_toArray, List.set_cons_zero, List.set_cons_succ]
            refine take_dstH (i := 1) (d := 111) (v := ?_) rfl rfl (by kernel_rfl) (by kernel_rfl) (by kernel_rfl) (fun _ _ _ h => h) (by rfl) hHeld ?_ ?_
            rotate_left
            · intro wZ hSw; have hfS := (fun (v : World) (hv : Hid (v = wr.drew)) => show v.cell? ⟨X, 7, none⟩ = some (.int .u32 (xh : Int)) from by rw [hv.out]; exact c7) wZ hSw; clear hSw; go_simp; first | (with_reducible rfl) | (rw [if_pos (by omega)]; with_reducible rfl) | skip
            try simp only [Act.put, List.setIfInBounds_toArray, List.set_cons_zero, List.set_cons_succ]
            refine take_dstH (i := 2) (d := 112) (v := ?_) rfl rfl (by kernel_rfl) (by kernel_rfl) (by kernel_rfl) (fun _ _ _ h => h) (by rfl) hHeld ?_ ?_
            rotate_left
            · intro wZ hSw; clear hSw; go_simp; first | (with_reducible rfl) | (rw [if_pos (by omega)]; with_reducible rfl) | skip
            try simp only [Act.put, List.setIfInBounds_toArray, List.set_cons_zero, List.set_cons_succ]
            refine take_dstH (i := 4) (d := 114) (v := ?_) rfl rfl (by kernel_rfl) (by kernel_rfl) (by kernel_rfl) (fun _ _ _ h => h) (by rfl) hHeld ?_ ?_
            rotate_left
            · intro wZ hSw; clear hSw; go_simp; first | (with_reducible rfl) | (rw [if_pos (by omega)]; with_reducible rfl) | skip
            try simp only [Act.put, List.setIfInBounds_toArray, List.set_cons_zero, List.set_cons_succ]
            refine take_dstH (i := 7) (d := 117) (v := ?_) rfl rfl (by kernel_rfl) (by kernel_rfl) (by kernel_rfl) (fun _ _ _ h => h) (by rfl) hHeld ?_ ?_
            rotate_left
            · intro wZ hSw; clear hSw; go_simp; first | (with_reducible rfl) | (rw [if_pos (by omega)]; with_reducible rfl) | skip
            try simp only [Act.put, List.setIfInBounds_toArray, List.set_cons_zero, List.set_cons_succ]
            refine take_dstH (i := 11) (d := 121) (v := ?_) rfl rfl (by kernel_rfl) (by kernel_rfl) (by kernel_rfl) (fun _ _ _ h => h) (by rfl) hHeld ?_ ?_
            rotate_left
            · intro wZ hSw; clear hSw; go_simp; first | (with_reducible rfl) | (rw [if_pos (by omega)]; with_reducible rfl) | skip
            try simp only [Act.put, List.setIfInBounds_toArray, List.set_cons_zero, List.set_cons_succ]
            refine take_dstH (i := 12) (d := 122) (v := ?_) rfl rfl (by kernel_rfl) (by kernel_rfl) (by kernel_rfl) (fun _ _ _ h => h) (by rfl) hHeld ?_ ?_
            rotate_left
            · intro wZ hSw; clear hSw; go_simp; first | (with_reducible rfl) | (rw [if_pos (by omega)]; with_reducible rfl) | skip
            try simp only [Act.put, List.setIfInBounds_toArray, List.set_cons_zero, List.set_cons_succ]
            refine take_dstH (i := 13) (d := 123) (v := ?_) rfl rfl (by kernel_rfl) (by kernel_rfl) (by kernel_rfl) (fun _ _ _ h => h) (by rfl) hHeld ?_ ?_
            rotate_left
            · intro wZ hSw; have hfS := (fun (v : World) (hv : Hid (v = wr.drew)) => show v.cell? ⟨X, 5, none⟩ = some (.int .u32 (xf : Int)) from by rw [hv.out]; exact c5) wZ hSw; clear hSw; go_simp; first | (with_reducible rfl) | (rw [if_pos (by omega)]; with_reducible rfl) | skip
            try simp only [Act.put, List.setIfInBounds_toArray, List.set_cons_zero, List.set_cons_succ]
            refine take_dstH (i := 14) (d := 124) (v := ?_) rfl rfl (by kernel_rfl) (by kernel_rfl) (by kernel_rfl) (fun _ _ _ h => h) (by rfl) hHeld ?_ ?_
            rotate_left
            · intro wZ hSw; clear hSw; go_simp; first | (with_reducible rfl) | (rw [if_pos (by omega)]; with_reducible rfl) | skip
            try simp only [Act.put, List.setIfInBounds_toArray, List.set_cons_zero, List.set_cons_succ]
            refine take_dstH (i := 15) (d := 125) (v := ?_) rfl rfl (by kernel_rfl) (by kernel_rfl) (by kernel_rfl) (fun _ _ _ h => h) (by rfl) hHeld ?_ ?_
            rotate_left
            · intro wZ hSw; clear hSw; go_simp; first | (with_reducible rfl) | (rw [if_pos (by omega)]; with_reducible rfl) | skip
            try simp only [Act.put, List.setIfInBounds_toArray, List.set_cons_zero, List.set_cons_succ]
            refine take_dstH (i := 16) (d := 126) (v := ?_) rfl rfl (by kernel_rfl) (by kernel_rfl) (by kernel_rfl) (fun _ _ _ h => h) (by rfl) hHeld ?_ ?_
            rotate_left
            · intro wZ hSw; clear hSw; go_simp; first | (with_reducible rfl) | (rw [if_pos (by omega)]; with_reducible rfl) | skip
            try simp only [Act.put, List.setIfInBounds_toArray, List.set_cons_zero, List.set_cons_succ]
            refine take_dstH (i := 17) (d := 127) (v := ?_) rfl rfl (by kernel_rfl) (by kernel_rfl) (by kernel_rfl) (fun _ _ _ h => h) (by rfl) hHeld ?_ ?_
            rotate_left
            · intro wZ hSw; clear hSw; go_simp; first | (with_reducible rfl) | (rw [if_pos (by omega)]; with_reducible rfl) | skip
            try simp only [Act.put, List.setIfInBounds_toArray, List.set_cons_zero, List.set_cons_succ]
            refine take_dstH (i := 18) (d := 128) (v := ?_) rfl rfl (by kernel_rfl) (by kernel_rfl) (by kernel_rfl) (fun _ _ _ h => h) (by rfl) hHeld ?_ ?_
            rotate_left
            · intro wZ hSw; have hfS := (fun (v : World) (hv : Hid (v = wr.drew)) => show v.cell? ⟨X, 6, none⟩ = some (.int .u32 (xg : Int)) from by rw [hv.out]; exact c6) wZ hSw; clear hSw; go_simp; first | (with_reducible rfl) | (rw [if_pos (by omega)]; with_reducible rfl) | skip
            try simp only [Act.put, List.setIfInBounds_toArray, List.set_cons_zero, List.set_cons_succ]
            refine take_dstH (i := 19) (d := 129) (v := ?_) rfl rfl (by kernel_rfl) (by kernel_rfl) (by kernel_rfl) (fun _ _ _ h => h) (by rfl) hHeld ?_ ?_
            rotate_left
            · intro wZ hSw; clear hSw; go_simp; first | (with_reducible rfl) | (rw [if_pos (by omega)]; with_reducible rfl) | skip
            try simp only [Act.put, List.setIfInBounds_toArray, List.set_cons_zero, List.set_cons_succ]
            refine take_dstH (i := 20) (d := 130) (v := ?_) rfl rfl (by kernel_rfl) (by kernel_rfl) (by kernel_rfl) (fun _ _ _ h => h) (by rfl) hHeld ?_ ?_
            rotate_left
            · intro wZ hSw; clear hSw; go_simp; first | (with_reducible rfl) | (rw [if_pos (by omega)]; with_reducible rfl) | skip
            try simp only [Act.put, List.setIfInBounds_toArray, List.set_cons_zero, List.set_cons_succ]
            refine take_dstH (i := 22) (d := 132) (v := ?_) rfl rfl (by kernel_rfl) (by kernel_rfl) (by kernel_rfl) (fun _ _ _ h => h) (by rfl) hHeld ?_ ?_
            rotate_left
            · intro wZ hSw; clear hSw; go_simp; first | (with_reducible rfl) | (rw [if_pos (by omega)]; with_reducible rfl) | skip
            try simp only [Act.put, List.setIfInBounds_toArray, List.set_cons_zero, List.set_cons_succ]
            refine take_dstH (i := 23) (d := 133) (v := ?_) rfl rfl (by kernel_rfl) (by kernel_rfl) (by kernel_rfl) (fun _ _ _ h => h) (by rfl) hHeld ?_ ?_
            rotate_left
            · intro wZ hSw; clear hSw; go_simp; first | (with_reducible rfl) | (rw [if_pos (by omega)]; with_reducible rfl) | skip
            try simp only [Act.put, List.setIfInBounds_toArray, List.set_cons_zero, List.set_cons_succ]
            refine take_dstH (i := 24) (d := 134) (v := ?_) rfl rfl (by kernel_rfl) (by kernel_rfl) (by kernel_rfl) (fun _ _ _ h => h) (by rfl) hHeld ?_ ?_
            rotate_left
            · intro wZ hSw; have hfS := (fun (v : World) (hv : Hid (v = wr.drew)) => show v.cell? ⟨w.heap.size + 1, i, none⟩ = some (.int .u32 (kv : Int)) from by rw [hv.out]; exact ck) wZ hSw; clear hSw; go_simp; first | (with_reducible rfl) | (rw [if_pos (by omega)]; with_reducible rfl) | skip
            try simp only [Act.put, List.setIfInBounds_toArray, List.set_cons_zero, List.set_cons_succ]
            refine take_dstH (i := 26) (d := 136) (v := ?_) rfl rfl (by kernel_rfl) (by kernel_rfl) (by kernel_rfl) (fun _ _ _ h => h) (by rfl) hHeld ?_ ?_
            rotate_left
            · intro wZ hSw; clear hSw; go_simp; first | (with_reducible rfl) | (rw [if_pos (by omega)]; with_reducible rfl) | skip
            try simp only [Act.put, List.setIfInBounds_toArray, List.set_cons_zero, List.set_cons_succ]
            refine take_dstH (i := 27) (d := 137) (v := ?_) rfl rfl (by kernel_rfl) (by kernel_rfl) (by kernel_rfl) (fun _ _ _ h => h) (by rfl) hHeld ?_ ?_
            rotate_left
            · intro wZ hSw; clear hSw; go_simp; first | (with_reducible rfl) | (rw [if_pos (by omega)]; with_reducible rfl) | skip
            try simp only [Act.put, List.setIfInBounds_toArray, List.set_cons_zero, List.set_cons_succ]
            refine take_dstH (i := 28) (d := 138) (v := ?_) rfl rfl (by kernel_rfl) (by kernel_rfl) (by kernel_rfl) (fun _ _ _ h => h) (by rfl) hHeld ?_ ?_
            rotate_left
            · intro wZ hSw; have hfS := (fun (v : World) (hv : Hid (v = wr.drew)) => show v.cell? ⟨w.heap.size + 1 + 1 + 1, i, none⟩ = some (.int .u32 (wv : Int)) from by rw [hv.out]; exact cw) wZ hSw; clear hSw; go_simp; first | (with_reducible rfl) | (rw [if_pos (by omega)]; with_reducible rfl) | skip
            try simp only [Act.put, List.setIfInBounds_toArray, List.set_cons_zero, List.set_cons_succ]
            refine wpAnyH_ready (rs := [3]) (by kernel_rfl) (by simp) ?_
            refine (AllReadyH.cons rfl (fun K hK => ?_) AllReadyH.nil)
            go_simp
            refine (C1.out _).mono ?_; rintro e w1 ⟨rfl, hw1⟩; subst hw1
            go_wp2_with fail
            refine hK.out _ _ ?_ (fun hHeld => ?_)
            · exact hide rfl
            clear hK K
            try simp only [Act.put, List.setIfInBounds_toArray, List.set_cons_zero, List.set_cons_succ]
            refine wpAnyH_ready (rs := [5]) (by kernel_rfl) (by simp) ?_
            refine (AllReadyH.cons rfl (fun K hK => ?_) AllReadyH.nil)
            go_simp
            refine (C2.out _).mono ?_; rintro e w1 ⟨rfl, hw1⟩; subst hw1
            go_wp2_with fail
            refine hK.out _ _ ?_ (fun hHeld => ?_)
            · exact hide rfl
            clear hK K
            try simp only [Act.put, List.setIfInBounds_toArray, List.set_cons_zero, List.set_cons_succ]
            refine take_dstH (i := 6) (d := 116) (v := ?_) rfl rfl (by kernel_rfl) (by kernel_rfl) (by kernel_rfl) (fun _ _ _ h => h) (by rfl) hHeld ?_ ?_
            rotate_left
            · intro wZ hSw; clear hSw; go_simp; first | (with_reducible rfl) | (rw [if_pos (by omega)]; with_reducible rfl) | skip
            try simp only [Act.put, List.setIfInBounds_toArray, List.set_cons_zero, List.set_cons_succ]
            refine wpAnyH_ready (rs := [8]) (by kernel_rfl) (by simp) ?_
            refine (AllReadyH.cons rfl (fun K hK => ?_) AllReadyH.nil)
            go_simp
            refine (C3.out _).mono ?_; rintro e w1 ⟨rfl, hw1⟩; subst hw1
            go_wp2_with fail
            refine hK.out _ _ ?_ (fun hHeld => ?_)
            · exact hide rfl
            clear hK K
            try simp only [Act.put, List.setIfInBounds_toArray, List.set_cons_zero, List.set_cons_succ]
            refine take_dstH (i := 9) (d := 119) (v := ?_) rfl rfl (by kernel_rfl) (by kernel_rfl) (by kernel_rfl) (fun _ _ _ h => h) (by rfl) hHeld ?_ ?_
            rotate_left
            · intro wZ hSw; clear hSw; go_simp; first | (with_reducible rfl) | (rw [if_pos (by omega)]; with_reducible rfl) | skip
            try simp only [Act.put, List.setIfInBounds_toArray, List.set_cons_zero, List.set_cons_succ]
            refine take_dstH (i := 10) (d := 120) (v := ?_) rfl rfl (by kernel_rfl) (by kernel_rfl) (by kernel_rfl) (fun _ _ _ h => h) (by rfl) hHeld ?_ ?_
            rotate_left
            · intro wZ hSw; clear hSw; go_simp; first | (with_reducible rfl) | (rw [if_pos (by omega)]; with_reducible rfl) | skip
            try simp only [Act.put, List.setIfInBounds_toArray, List.set_cons_zero, List.set_cons_succ]
            refine take_dstH (i := 21) (d := 131) (v := ?_) rfl rfl (by kernel_rfl) (by kernel_rfl) (by kernel_rfl) (fun _ _ _ h => h) (by rfl) hHeld ?_ ?_
            rotate_left
            · intro wZ hSw; clear hSw; go_simp; first | (with_reducible rfl) | (rw [if_pos (by omega)]; with_reducible rfl) | skip
            try simp only [Act.put, List.setIfInBounds_toArray, List.set_cons_zero, List.set_cons_succ]
            refine take_dstH (i := 25) (d := 135) (v := ?_) rfl rfl (by kernel_rfl) (by kernel_rfl) (by kernel_rfl) (fun _ _ _ h => h) (by rfl) hHeld ?_ ?_
            rotate_left
            · intro wZ hSw; clear hSw; go_simp; first | (with_reducible rfl) | (rw [if_pos (by omega)]; with_reducible rfl) | skip
            try simp only [Act.put, List.setIfInBounds_toArray, List.set_cons_zero, List.set_cons_succ]
            refine take_dstH (i := 29) (d := 139) (v := ?_) rfl rfl (by kernel_rfl) (by kernel_rfl) (by kernel_rfl) (fun _ _ _ h => h) (by rfl) hHeld ?_ ?_
            rotate_left
            · intro wZ hSw; clear hSw; go_simp; first | (with_reducible rfl) | (rw [if_pos (by omega)]; with_reducible rfl) | skip
            try simp only [Act.put, List.setIfInBounds_toArray, List.set_cons_zero, List.set_cons_succ]
            refine take_dstH (i := 30) (d := 17) (v := ?_) rfl rfl (by kernel_rfl) (by kernel_rfl) (by kernel_rfl) (fun _ _ _ h => h) (by rfl) hHeld ?_ ?_
            rotate_left
            · intro wZ hSw; clear hSw; go_simp; first | (with_reducible rfl) | (rw [if_pos (by omega)]; with_reducible rfl) | skip
            try simp only [Act.put, List.setIfInBounds_toArray, List.set_cons_zero, List.set_cons_succ]
            refine wpAnyH_done (by kernel_rfl) ?_ _
            rw [ch_eq xe xf xg le lf lg, u_eq xe xf xg xh kv wv]
            go_wp2_with fail
            go_meet
            case rel => exact ⟨rfl, rfl⟩
          obtain ⟨rfl, rfl⟩ := hcut
          have lu : s_uF xe xf xg xh kv wv < 4294967296 := Nat.mod_lt _ (by omega)
          have HST : Hid (stepW [xa, xb, xc, xd, xe, xf, xg, xh] kv wv = [(s_uF xe xf xg xh kv wv + vF xa xb xc) % 4294967296, xa, xb, xc, (xd + s_uF xe xf xg xh kv wv) % 4294967296, xe, xf, xg]) := rfl
          clear s1 C1 C2 C3
          generalize s_uF xe xf xg xh kv wv = uu at *
          go_upto_region 19 with fail
          go_cut [18] (fun s18 wc => s18 = .int .u32 ((vF xa xb xc : Nat) : Int) ∧ wc = wr.drew.drew)
          case first =>
            refine wp_region_held_drew (S := fun w' => Hid (w' = wr.drew.drew)) (by kernel_rfl) (hide rfl) (fun hHeld => ?_)
            refine take_dstH (i := 0) (d := 140) (v := ?_) rfl rfl (by kernel_rfl) (by kernel_rfl) (by kernel_rfl) (fun _ _ _ h => h) (by rfl) hHeld ?_ ?_
            rotate_left
            · intro wZ hSw; clear hSw; go_simp; first | (with_reducible rfl) | (rw [if_pos (by omega)]; with_reducible rfl) | skip
            try simp only [Act.put, List.setIfInBounds_toArray, List.set_cons_zero, List.set_cons_succ]
            refine take_dstH (i := 2) (d := 142) (v := ?_) rfl rfl (by kernel_rfl) (by kernel_rfl) (by kernel_rfl) (fun _ _ _ h => h) (by rfl) hHeld ?_ ?_
            rotate_left
            · intro wZ hSw; clear hSw; go_simp; first | (with_reducible rfl) | (rw [if_pos (by omega)]; with_reducible rfl) | skip
            try simp only [Act.put, List.setIfInBounds_toArray, List.set_cons_zero, List.set_cons_succ]
            refine take_dstH (i := 5) (d := 145) (v := ?_) rfl rfl (by kernel_rfl) (by kernel_rfl) (by kernel_rfl) (fun _ _ _ h => h) (by rfl) hHeld ?_ ?_
            rotate_left
            · intro wZ hSw; clear hSw; go_simp; first | (with_reducible rfl) | (rw [if_pos (by omega)]; with_reducible rfl) | skip
            try simp only [Act.put, List.setIfInBounds_toArray, List.set_cons_zero, List.set_cons_succ]
            refine take_dstH (i := 8) (d := 148) (v := ?_) rfl rfl (by kernel_rfl) (by kernel_rfl) (by kernel_rfl) (fun _ _ _ h => h) (by rfl) hHeld ?_ ?_
            rotate_left
            · intro wZ hSw; clear hSw; go_simp; first | (with_reducible rfl) | (rw [if_pos (by omega)]; with_reducible rfl) | skip
            try simp only [Act.put, List.setIfInBounds_toArray, List.set_cons_zero, List.set_cons_succ]
            refine take_dstH (i := 9) (d := 149) (v := ?_) rfl rfl (by kernel_rfl) (by kernel_rfl) (by kernel_rfl) (fun _ _ _ h => h) (by rfl) hHeld ?_ ?_
            rotate_left
            · intro wZ hSw; clear hSw; go_simp; first | (with_reducible rfl) | (rw [if_pos (by omega)]; with_reducible rfl) | skip
            try simp only [Act.put, List.setIfInBounds_toArray, List.set_cons_zero, List.set_cons_succ]
            refine take_dstH (i := 10) (d := 150) (v := ?_) rfl rfl (by kernel_rfl) (by kernel_rfl) (by kernel_rfl) (fun _ _ _ h => h) (by rfl) hHeld ?_ ?_
            rotate_left
            · intro wZ hSw; have hfS := (fun (v : World) (hv : Hid (v = wr.drew.drew)) => show v.cell? ⟨X, 1, none⟩ = some (.int .u32 (xb : Int)) from by rw [hv.out]; exact c1) wZ hSw; clear hSw; go_simp; first | (with_reducible rfl) | (rw [if_pos (by omega)]; with_reducible rfl) | skip
            try simp only [Act.put, List.setIfInBounds_toArray, List.set_cons_zero, List.set_cons_succ]
            refine take_dstH (i := 11) (d := 151) (v := ?_) rfl rfl (by kernel_rfl) (by kernel_rfl) (by kernel_rfl) (fun _ _ _ h => h) (by rfl) hHeld ?_ ?_
            rotate_left
            · intro wZ hSw; clear hSw; go_simp; first | (with_reducible rfl) | (rw [if_pos (by omega)]; with_reducible rfl) | skip
            try simp only [Act.put, List.setIfInBounds_toArray, List.set_cons_zero, List.set_cons_succ]
            refine take_dstH (i := 12) (d := 152) (v := ?_) rfl rfl (by kernel_rfl) (by kernel_rfl) (by kernel_rfl) (fun _ _ _ h => h) (by rfl) hHeld ?_ ?_
            rotate_left
            · intro wZ hSw; clear hSw; go_simp; first | (with_reducible rfl) | (rw [if_pos (by omega)]; with_reducible rfl) | skip
            try simp only [Act.put, List.setIfInBounds_toArray, List.set_cons_zero, List.set_cons_succ]
            refine take_dstH (i := 13) (d := 153) (v := ?_) rfl rfl (by kernel_rfl) (by kernel_rfl) (by kernel_rfl) (fun _ _ _ h => h) (by rfl) hHeld ?_ ?_
            rotate_left
            · intro wZ hSw; clear hSw; go_simp; first | (with_reducible rfl) | (rw [if_pos (by omega)]; with_reducible rfl) | skip
            try simp only [Act.put, List.setIfInBounds_toArray, List.set_cons_zero, List.set_cons_succ]
            refine take_dstH (i := 14) (d := 154) (v := ?_) rfl rfl (by kernel_rfl) (by kernel_rfl) (by kernel_rfl) (fun _ _ _ h => h) (by rfl) hHeld ?_ ?_
            rotate_left
            · intro wZ hSw; have hfS := (fun (v : World) (hv : Hid (v = wr.drew.drew)) => show v.cell? ⟨X, 2, none⟩ = some (.int .u32 (xc : Int)) from by rw [hv.out]; exact c2) wZ hSw; clear hSw; go_simp; first | (with_reducible rfl) | (rw [if_pos (by omega)]; with_reducible rfl) | skip
            try simp only [Act.put, List.setIfInBounds_toArray, List.set_cons_zero, List.set_cons_succ]
            refine take_dstH (i := 15) (d := 155) (v := ?_) rfl rfl (by kernel_rfl) (by kernel_rfl) (by kernel_rfl) (fun _ _ _ h => h) (by rfl) hHeld ?_ ?_
            rotate_left
            · intro wZ hSw; clear hSw; go_simp; first | (with_reducible rfl) | (rw [if_pos (by omega)]; with_reducible rfl) | skip
            try simp only [Act.put, List.setIfInBounds_toArray, List.set_cons_zero, List.set_cons_succ]
            refine take_dstH (i := 16) (d := 156) (v := ?_) rfl rfl (by kernel_rfl) (by kernel_rfl) (by kernel_rfl) (fun _ _ _ h => h) (by rfl) hHeld ?_ ?_
            rotate_left
            · intro wZ hSw; clear hSw; go_simp; first | (with_reducible rfl) | (rw [if_pos (by omega)]; with_reducible rfl) | skip
            try simp only [Act.put, List.setIfInBounds_toArray, List.set_cons_zero, List.set_cons_succ]
            refine take_dstH (i := 17) (d := 157) (v := ?_) rfl rfl (by kernel_rfl) (by kernel_rfl) (by kernel_rfl) (fun _ _ _ h => h) (by rfl) hHeld ?_ ?_
            rotate_left
            · intro wZ hSw; clear hSw; go_simp; first | (with_reducible rfl) | (rw [if_pos (by omega)]; with_reducible rfl) | skip
            try simp only [Act.put, List.setIfInBounds_toArray, List.set_cons_zero, List.set_cons_succ]
            refine take_dstH (i := 18) (d := 158) (v := ?_) rfl rfl (by kernel_rfl) (by kernel_rfl) (by kernel_rfl) (fun _ _ _ h => h) (by rfl) hHeld ?_ ?_
            rotate_left
            · intro wZ hSw; have hfS := (fun (v : World) (hv : Hid (v = wr.drew.drew)) => show v.cell? ⟨X, 1, none⟩ = some (.int .u32 (xb : Int)) from by rw [hv.out]; exact c1) wZ hSw; clear hSw; go_simp; first | (with_reducible rfl) | (rw [if_pos (by omega)]; with_reducible rfl) | skip
            try simp only [Act.put, List.setIfInBounds_toArray, List.set_cons_zero, List.set_cons_succ]
            refine take_dstH (i := 19) (d := 159) (v := ?_) rfl rfl (by kernel_rfl) (by kernel_rfl) (by kernel_rfl) (fun _ _ _ h => h) (by rfl) hHeld ?_ ?_
            rotate_left
            · intro wZ hSw; clear hSw; go_simp; first | (with_reducible rfl) | (rw [if_pos (by omega)]; with_reducible rfl) | skip
            try simp only [Act.put, List.setIfInBounds_toArray, List.set_cons_zero, List.set_cons_succ]
            refine take_dstH (i := 20) (d := 160) (v := ?_) rfl rfl (by kernel_rfl) (by kernel_rfl) (by kernel_rfl) (fun _ _ _ h => h) (by rfl) hHeld ?_ ?_
            rotate_left
            · intro wZ hSw; have hfS := (fun (v : World) (hv : Hid (v = wr.drew.drew)) => show v.cell? ⟨X, 2, none⟩ = some (.int .u32 (xc : Int)) from by rw [hv.out]; exact c2) wZ hSw; clear hSw; go_simp; first | (with_reducible rfl) | (rw [if_pos (by omega)]; with_reducible rfl) | skip
            try simp only [Act.put, List.setIfInBounds_toArray, List.set_cons_zero, List.set_cons_succ]
            refine take_dstH (i := 21) (d := 161) (v := ?_) rfl rfl (by kernel_rfl) (by kernel_rfl) (by kernel_rfl) (fun _ _ _ h => h) (by rfl) hHeld ?_ ?_
            rotate_left
            · intro wZ hSw; clear hSw; go_simp; first | (with_reducible rfl) | (rw [if_pos (by omega)]; with_reducible rfl) | skip
            try simp only [Act.put, List.setIfInBounds_toArray, List.set_cons_zero, List.set_cons_succ]
            refine take_dstH (i := 22) (d := 162) (v := ?_) rfl rfl (by kernel_rfl) (by kernel_rfl) (by kernel_rfl) (fun _ _ _ h => h) (by rfl) hHeld ?_ ?_
            rotate_left
            · intro wZ hSw; clear hSw; go_simp; first | (with_reducible rfl) | (rw [if_pos (by omega)]; with_reducible rfl) | skip
            try simp only [Act.put, List.setIfInBounds_toArray, List.set_cons_zero, List.set_cons_succ]
            refine wpAnyH_ready (rs := [1]) (by kernel_rfl) (by simp) ?_
            refine (AllReadyH.cons rfl (fun K hK => ?_) AllReadyH.nil)
            go_simp
            refine (C4.out _).mono ?_; rintro e w1 ⟨rfl, hw1⟩; subst hw1
            go_wp2_with fail
            refine hK.out _ _ ?_ (fun hHeld => ?_)
            · exact hide rfl
            clear hK K
            try simp only [Act.put, List.setIfInBounds_toArray, List.set_cons_zero, List.set_cons_succ]
            refine wpAnyH_ready (rs := [3]) (by kernel_rfl) (by simp) ?_
            refine (AllReadyH.cons rfl (fun K hK => ?_) AllReadyH.nil)
            go_simp
            refine (C5.out _).mono ?_; rintro e w1 ⟨rfl, hw1⟩; subst hw1
            go_wp2_with fail
            refine hK.out _ _ ?_ (fun hHeld => ?_)
            · exact hide rfl
            clear hK K
            try simp only [Act.put, List.setIfInBounds_toArray, List.set_cons_zero, List.set_cons_succ]
            refine take_dstH (i := 4) (d := 144) (v := ?_) rfl rfl (by kernel_rfl) (by kernel_rfl) (by kernel_rfl) (fun _ _ _ h => h) (by rfl) hHeld ?_ ?_
            rotate_left
            · intro wZ hSw; clear hSw; go_simp; first | (with_reducible rfl) | (rw [if_pos (by omega)]; with_reducible rfl) | skip
            try simp only [Act.put, List.setIfInBounds_toArray, List.set_cons_zero, List.set_cons_succ]
            refine wpAnyH_ready (rs := [6]) (by kernel_rfl) (by simp) ?_
            refine (AllReadyH.cons rfl (fun K hK => ?_) AllReadyH.nil)
            go_simp
            refine (C6.out _).mono ?_; rintro e w1 ⟨rfl, hw1⟩; subst hw1
            go_wp2_with fail
            refine hK.out _ _ ?_ (fun hHeld => ?_)
            · exact hide rfl
            clear hK K
            try simp only [Act.put, List.setIfInBounds_toArray, List.set_cons_zero, List.set_cons_succ]
            refine take_dstH (i := 7) (d := 147) (v := ?_) rfl rfl (by kernel_rfl) (by kernel_rfl) (by kernel_rfl) (fun _ _ _ h => h) (by rfl) hHeld ?_ ?_
            rotate_left
            · intro wZ hSw; clear hSw; go_simp; first | (with_reducible rfl) | (rw [if_pos (by omega)]; with_reducible rfl) | skip
            try simp only [Act.put, List.setIfInBounds_toArray, List.set_cons_zero, List.set_cons_succ]
            refine take_dstH (i := 23) (d := 163) (v := ?_) rfl rfl (by kernel_rfl) (by kernel_rfl) (by kernel_rfl) (fun _ _ _ h => h) (by rfl) hHeld ?_ ?_
            rotate_left
            · intro wZ hSw; clear hSw; go_simp; first | (with_reducible rfl) | (rw [if_pos (by omega)]; with_reducible rfl) | skip
            try simp only [Act.put, List.setIfInBounds_toArray, List.set_cons_zero, List.set_cons_succ]
            refine take_dstH (i := 24) (d := 18) (v := ?_) rfl rfl (by kernel_rfl) (by kernel_rfl) (by kernel_rfl) (fun _ _ _ h => h) (by rfl) hHeld ?_ ?_
            rotate_left
            · intro wZ hSw; clear hSw; go_simp; first | (with_reducible rfl) | (rw [if_pos (by omega)]; with_reducible rfl) | skip
            try simp only [Act.put, List.setIfInBounds_toArray, List.set_cons_zero, List.set_cons_succ]
            refine wpAnyH_done (by kernel_rfl) ?_ _
            rw [maj_eq xa xb xc la lb lc, v_eq xa xb xc]
            go_wp2_with fail
            go_meet
            case rel => exact ⟨rfl, rfl⟩
          obtain ⟨rfl, rfl⟩ := hcut
          have lv : vF xa xb xc < 4294967296 := Nat.mod_lt _ (by omega)
          clear s0 C4 C5 C6
          generalize vF xa xb xc = vv at *
          have HXX := HX
          have HRR := HR
          have HLT : Hid (X < wr.heap.size) := HX.out.lt
          clear c0 c1 c2 c3 c4 c5 c6 c7 ck cw
          go_upto_region 20 with fail
          go_cut [19] (fun s19 wc => ∃ Y, s19 = .pointer (some ⟨Y, 0, none⟩) ∧ X < Y ∧ Arr wc Y 96 (u32s [xa, xb, xc, xd, xe, xf, xg, xh]) ∧ Arr wc X 96 (u32s [xa, xb, xc, xd, xe, xf, xg, xh]) ∧ RB w wc g o hs b T)
          case first =>
            go_wp2_with (first
              | (refine wpList_load_row rfl 96 _ rfl X rfl 96 _ (0, 0) _ HX.out Tryd.underlying96 rfl info26 ?_)
              | (refine wpList_store_row rfl 96 _ _ rfl wr.heap.size _ rfl rfl 96 _ (heap_alloc_new wr _) info26 rfl (one_u32s _) ?_))
            go_meet
            case rel =>
              refine ⟨wr.heap.size, rfl, HLT.out, ?_, ?_, ?_⟩
              · exact (Arr.new wr 96 _).row _
              · exact (HX.out.alloc _).rowOther _ _ (Nat.ne_of_lt HLT.out)
              · refine HR.out.later hg (X := X) HXG.out ?_
                exact below_setRow ((((Below.refl X wr).drew).drew).alloc (Nat.le_of_lt HLT.out) _) (Nat.le_of_lt HLT.out) (by simp) _
          case rest =>
            clear HXX HRR HX HR HLT
            obtain ⟨Y, rfl, hXY, hY, hX, hR⟩ := hcut
            have HR := hide hR
            have HX := hide hX
            have HY := hide hY
            have c0 : wc.cell? ⟨X, 0, none⟩ = some (.int .u32 (xa : Int)) := hX.cell 0
            have c1 : wc.cell? ⟨X, 1, none⟩ = some (.int .u32 (xb : Int)) := hX.cell 1
            have c2 : wc.cell? ⟨X, 2, none⟩ = some (.int .u32 (xc : Int)) := hX.cell 2
            have c3 : wc.cell? ⟨X, 3, none⟩ = some (.int .u32 (xd : Int)) := hX.cell 3
            have c4 : wc.cell? ⟨X, 4, none⟩ = some (.int .u32 (xe : Int)) := hX.cell 4
            have c5 : wc.cell? ⟨X, 5, none⟩ = some (.int .u32 (xf : Int)) := hX.cell 5
            have c6 : wc.cell? ⟨X, 6, none⟩ = some (.int .u32 (xg : Int)) := hX.cell 6
            have d0 : wc.cell? ⟨Y, 0, none⟩ = some (.int .u32 (xa : Int)) := hY.cell 0
            have d1 : wc.cell? ⟨Y, 1, none⟩ = some (.int .u32 (xb : Int)) := hY.cell 1
            have d2 : wc.cell? ⟨Y, 2, none⟩ = some (.int .u32 (xc : Int)) := hY.cell 2
            have d3 : wc.cell? ⟨Y, 3, none⟩ = some (.int .u32 (xd : Int)) := hY.cell 3
            have d4 : wc.cell? ⟨Y, 4, none⟩ = some (.int .u32 (xe : Int)) := hY.cell 4
            have d5 : wc.cell? ⟨Y, 5, none⟩ = some (.int .u32 (xf : Int)) := hY.cell 5
            have d6 : wc.cell? ⟨Y, 6, none⟩ = some (.int .u32 (xg : Int)) := hY.cell 6
            have d7 : wc.cell? ⟨Y, 7, none⟩ = some (.int .u32 (xh : Int)) := hY.cell 7
            have f0 := hY.frozen 0
            have f1 := hY.frozen 1
            have f2 := hY.frozen 2
            have f3 := hY.frozen 3
            have f4 := hY.frozen 4
            have f5 := hY.frozen 5
            have f6 := hY.frozen 6
            have f7 := hY.frozen 7
            have hne : ¬ Y = X := by omega
            have hne' : ¬ X = Y := by omega
            clear hR hX hY
            go_upto_region 29 with fail
            have HYS := hide ((((((((HY.out.set 7 (.int .u32 (xg : Int))).set 6 (.int .u32 (xf : Int))).set 5 (.int .u32 (xe : Int))).set 4 (.int .u32 (((xd : Int) + (uu : Int)) % 4294967296))).set 3 (.int .u32 (xc : Int))).set 2 (.int .u32 (xb : Int))).set 1 (.int .u32 (xa : Int))).set 0 (.int .u32 (((uu : Int) + (vv : Int)) % 4294967296)))
            have HXS := hide ((((((((HX.out.other ⟨Y, 7, none⟩ (.int .u32 (xg : Int)) hne').other ⟨Y, 6, none⟩ (.int .u32 (xf : Int)) hne').other ⟨Y, 5, none⟩ (.int .u32 (xe : Int)) hne').other ⟨Y, 4, none⟩ (.int .u32 (((xd : Int) + (uu : Int)) % 4294967296)) hne').other ⟨Y, 3, none⟩ (.int .u32 (xc : Int)) hne').other ⟨Y, 2, none⟩ (.int .u32 (xb : Int)) hne').other ⟨Y, 1, none⟩ (.int .u32 (xa : Int)) hne').other ⟨Y, 0, none⟩ (.int .u32 (((uu : Int) + (vv : Int)) % 4294967296)) hne')
            have hXYle : X ≤ Y := by omega
            have HBS := hide (below_set (below_set (below_set (below_set (below_set (below_set (below_set (below_set (Below.refl X wc) Y 7 hXYle (.int .u32 (xg : Int))) Y 6 hXYle (.int .u32 (xf : Int))) Y 5 hXYle (.int .u32 (xe : Int))) Y 4 hXYle (.int .u32 (((xd : Int) + (uu : Int)) % 4294967296))) Y 3 hXYle (.int .u32 (xc : Int))) Y 2 hXYle (.int .u32 (xb : Int))) Y 1 hXYle (.int .u32 (xa : Int))) Y 0 hXYle (.int .u32 (((uu : Int) + (vv : Int)) % 4294967296)))
            clear c0 c1 c2 c3 c4 c5 c6 d0 d1 d2 d3 d4 d5 d6 d7 f0 f1 f2 f3 f4 f5 f6 f7
            generalize ((((((((wc.setCell ⟨Y, 7, none⟩ (.int .u32 (xg : Int))).setCell ⟨Y, 6, none⟩ (.int .u32 (xf : Int))).setCell ⟨Y, 5, none⟩ (.int .u32 (xe : Int))).setCell ⟨Y, 4, none⟩ (.int .u32 (((xd : Int) + (uu : Int)) % 4294967296))).setCell ⟨Y, 3, none⟩ (.int .u32 (xc : Int))).setCell ⟨Y, 2, none⟩ (.int .u32 (xb : Int))).setCell ⟨Y, 1, none⟩ (.int .u32 (xa : Int))).setCell ⟨Y, 0, none⟩ (.int .u32 (((uu : Int) + (vv : Int)) % 4294967296))) = wy at *
            have hnl : (turnsF hs b (i + 1)).length = 8 := turnsF_length HL.out _
            have HN : Hid (Arr wy Y 96 (u32s (turnsF hs b (i + 1)))) := by
              show Arr _ _ _ _
              rw [HSX.out, HST.out]
              have := HYS.out
              simpa [u32s] using this
            have HI8 : Hid ((Tryd.prog.info? 96).map (·.size) = some (u32s (turnsF hs b (i + 1))).toArray.size) := by show _ = _; rw [info26]; simp [u32s, hnl]
            have HO8 : Hid ((u32s [xa, xb, xc, xd, xe, xf, xg, xh]).toArray.size = (u32s (turnsF hs b (i + 1))).toArray.size) := by show _ = _; simp [u32s, hnl]
            clear HYS hnl HSX HST
            generalize hnx : turnsF hs b (i + 1) = nx at *
            have HNX := hide hnx
            clear hnx
            go_wp2_with (first
              | (refine wpList_load_row rfl 96 _ rfl Y rfl 96 _ (0, 0) _ HN.out Tryd.underlying96 rfl HI8.out ?_)
              | (refine wpList_store_row rfl 96 _ _ rfl X _ rfl rfl 96 _ HXS.out HI8.out HO8.out (one_u32s _) ?_))
            go_roundg (64 - i)
            case measure => omega
            case rel =>
              refine ⟨i + 1, by go_num, by omega, by omega, ?_, ?_⟩
              · exact HR.out.later hg (X := X) HXG.out (below_setRow HBS.out (Nat.le_refl _) HXS.out.lt _)
              · rw [HNX.out]
                exact HXS.out.row _
        · have e : i = 64 := by omega
          subst e
          have hxl := turnsF_length (b := b) HL.out 64
          have hxw := turnsF_words (b := b) hw 64
          have HBF : Hid (blockF hs b = addW (turnsF hs b 64) hs) := rfl
          generalize turnsF hs b 64 = xx at *
          have XL := hide hxl
          have XW := hide hxw
          clear hxl hxw hR hx
          go_wp2
          go_loopg [20] 9 (fun f s20 wx => ∃ (i : Nat), s20 = .int .i64 i ∧ i ≤ 8 ∧ 8 - i < f ∧ RB w wx g o hs b T ∧ Arr wx X 96 (u32s (addTo xx hs i)))
          case atStart => exact ⟨0, rfl, by omega, by omega, HR.out, by rw [addTo_zero]; exact HX.out⟩
          case round =>
            clear HR HX
            obtain ⟨i, rfl, hi, hf, hR, hx⟩ := hrel
            have HR := hide hR
            have HX := hide hx
            by_cases hlt : i < 8
            · have cx := (hx.cell i).trans (u32s_at (by rw [addTo_length _ _ XL.out _ (by omega)]; exact hlt))
              rw [addTo_at _ _ _ hlt] at cx
              have fx := hx.frozen i
              have ch := (hR.1.cell i).trans (u32s_at (l := hs) (by rw [HL.out]; exact hlt))
              have lx := XW.out.getD i
              have lh := Words.getD hw i
              have HSET := hide (addTo_set xx hs XL.out i hlt)
              have hi8 : (i : Int) < 8 := by omega
              clear hR hx
              generalize xx.getD i 0 = xi at *
              generalize hs.getD i 0 = hi' at *
              go_wp2_with fail
              refine wp_region_any (by kernel_rfl) ?_
              try (change wpAny _ _ _ _ _ _ _ (World.drew _))
              refine take_dst (i := 0) (d := 197) (v := ?_) rfl rfl (by kernel_rfl) (by kernel_rfl) (by kernel_rfl) (fun _ _ _ h => h) (by rfl) ?_ ?_
              rotate_left
              · intro wZ; go_simp; first | (with_reducible rfl) | (rw [if_pos (by omega)]; with_reducible rfl) | skip
              try simp only [Act.put, List.setIfInBounds_toArray, List.set_cons_zero, List.set_cons_succ]
              refine take_dst (i := 1) (d := 198) (v := ?_) rfl rfl (by kernel_rfl) (by kernel_rfl) (by kernel_rfl) (fun _ _ _ h => h) (by rfl) ?_ ?_
              rotate_left
              · intro wZ; go_simp; first | (with_reducible rfl) | (rw [if_pos (by omega)]; with_reducible rfl) | skip
              try simp only [Act.put, List.setIfInBounds_toArray, List.set_cons_zero, List.set_cons_succ]
              refine take_dst (i := 2) (d := 199) (v := ?_) rfl rfl (by kernel_rfl) (by kernel_rfl) (by kernel_rfl) (fun _ _ _ h => h) (by rfl) ?_ ?_
              rotate_left
              · intro wZ; go_simp; first | (with_reducible rfl) | (rw [if_pos (by omega)]; with_reducible rfl) | skip
              try simp only [Act.put, List.setIfInBounds_toArray, List.set_cons_zero, List.set_cons_succ]
              refine take_dst (i := 4) (d := 201) (v := ?_) rfl rfl (by kernel_rfl) (by kernel_rfl) (by kernel_rfl) (fun _ _ _ h => h) (by rfl) ?_ ?_
              rotate_left
              · intro wZ; go_simp; first | (with_reducible rfl) | (rw [if_pos (by omega)]; with_reducible rfl) | skip
              try simp only [Act.put, List.setIfInBounds_toArray, List.set_cons_zero, List.set_cons_succ]
              refine take_dst (i := 5) (d := 202) (v := ?_) rfl rfl (by kernel_rfl) (by kernel_rfl) (by kernel_rfl) (fun _ _ _ h => h) (by rfl) ?_ ?_
              rotate_left
              · intro wZ; go_simp; first | (with_reducible rfl) | (rw [if_pos (by omega)]; with_reducible rfl) | skip
              try simp only [Act.put, List.setIfInBounds_toArray, List.set_cons_zero, List.set_cons_succ]
              refine wpAny_ready (rs := [3, 6]) (by kernel_rfl) (by simp) ?_
              refine (AllReady.cons rfl (fun K hK => ?_) (AllReady.cons rfl (fun K hK => ?_) AllReady.nil))
              focus
                go_simp
                first | (refine hK _ _ ?_; clear hK K) | (clear hK K) | skip
                try simp only [Act.put, List.setIfInBounds_toArray, List.set_cons_zero, List.set_cons_succ]
                refine wpAny_ready (rs := [6]) (by kernel_rfl) (by simp) ?_
                refine (AllReady.cons rfl (fun K hK => ?_) AllReady.nil)
                go_simp
                first | (refine hK _ _ ?_; clear hK K) | (clear hK K) | skip
                try simp only [Act.put, List.setIfInBounds_toArray, List.set_cons_zero, List.set_cons_succ]
                refine take_dst (i := 7) (d := 204) (v := ?_) rfl rfl (by kernel_rfl) (by kernel_rfl) (by kernel_rfl) (fun _ _ _ h => h) (by rfl) ?_ ?_
                rotate_left
                · intro wZ; go_simp; first | (with_reducible rfl) | (rw [if_pos (by omega)]; with_reducible rfl) | skip
                try simp only [Act.put, List.setIfInBounds_toArray, List.set_cons_zero, List.set_cons_succ]
                refine take_dst (i := 8) (d := 205) (v := ?_) rfl rfl (by kernel_rfl) (by kernel_rfl) (by kernel_rfl) (fun _ _ _ h => h) (by rfl) ?_ ?_
                rotate_left
                · intro wZ; go_simp; first | (with_reducible rfl) | (rw [if_pos (by omega)]; with_reducible rfl) | skip
                try simp only [Act.put, List.setIfInBounds_toArray, List.set_cons_zero, List.set_cons_succ]
                refine wpAny_ready (rs := [9]) (by kernel_rfl) (by simp) ?_
                refine (AllReady.cons rfl (fun K hK => ?_) AllReady.nil)
                go_simp
                first | (refine hK _ _ ?_; clear hK K) | (clear hK K) | skip
                try simp only [Act.put, List.setIfInBounds_toArray, List.set_cons_zero, List.set_cons_succ]
                refine wpAny_done (by kernel_rfl) ?_ _
              rotate_left 1
              focus
                go_simp
                first | (refine hK _ _ ?_; clear hK K) | (clear hK K) | skip
                try simp only [Act.put, List.setIfInBounds_toArray, List.set_cons_zero, List.set_cons_succ]
                refine wpAny_ready (rs := [3]) (by kernel_rfl) (by simp) ?_
                refine (AllReady.cons rfl (fun K hK => ?_) AllReady.nil)
                go_simp
                first | (refine hK _ _ ?_; clear hK K) | (clear hK K) | skip
                try simp only [Act.put, List.setIfInBounds_toArray, List.set_cons_zero, List.set_cons_succ]
                refine take_dst (i := 7) (d := 204) (v := ?_) rfl rfl (by kernel_rfl) (by kernel_rfl) (by kernel_rfl) (fun _ _ _ h => h) (by rfl) ?_ ?_
                rotate_left
                · intro wZ; go_simp; first | (with_reducible rfl) | (rw [if_pos (by omega)]; with_reducible rfl) | skip
                try simp only [Act.put, List.setIfInBounds_toArray, List.set_cons_zero, List.set_cons_succ]
                refine take_dst (i := 8) (d := 205) (v := ?_) rfl rfl (by kernel_rfl) (by kernel_rfl) (by kernel_rfl) (fun _ _ _ h => h) (by rfl) ?_ ?_
                rotate_left
                · intro wZ; go_simp; first | (with_reducible rfl) | (rw [if_pos (by omega)]; with_reducible rfl) | skip
                try simp only [Act.put, List.setIfInBounds_toArray, List.set_cons_zero, List.set_cons_succ]
                refine wpAny_ready (rs := [9]) (by kernel_rfl) (by simp) ?_
                refine (AllReady.cons rfl (fun K hK => ?_) AllReady.nil)
                go_simp
                first | (refine hK _ _ ?_; clear hK K) | (clear hK K) | skip
                try simp only [Act.put, List.setIfInBounds_toArray, List.set_cons_zero, List.set_cons_succ]
                refine wpAny_done (by kernel_rfl) ?_ _
              all_goals
                rw [show IntKind.u32.wrap ((xi : Int) + (hi' : Int)) = (((xi + hi') % 4294967296 : Nat) : Int) by rw [IntKind.wrap_u32']; omega]
                go_wp2
                go_roundg (8 - i)
                case measure => omega
                case rel =>
                  refine ⟨i + 1, by go_num, by omega, by omega, ?_, ?_⟩
                  · exact HR.out.later hg (X := X) HXG.out (below_set (Below.refl X wr) X i (Nat.le_refl _) _).drew
                  · have := HX.out.set i (.int .u32 (((xi + hi') % 4294967296 : Nat) : Int))
                    rw [u32s_set, HSET.out] at this
                    exact this
            · have e : i = 8 := by omega
              subst e
              rw [addTo_full _ _ XL.out, ← HBF.out] at hx
              have HX2 := hide hx
              have HR6 := hide hR.2.2.1
              have bl := blockF_length hs b
              have HI8 : Hid ((Tryd.prog.info? 96).map (·.size) = some (u32s (blockF hs b)).toArray.size) := by show _ = _; rw [info26]; simp [u32s, bl]
              have HO8 : Hid ((u32s (List.replicate 8 0)).toArray.size = (u32s (blockF hs b)).toArray.size) := by show _ = _; simp [u32s, bl]
              clear hR hx HX bl HBF
              generalize hre : blockF hs b = res at *
              have HRE := hide hre
              clear hre
              go_wp2_with (first
                | (refine wpList_load_row rfl 96 _ rfl X rfl 96 _ (0, 0) _ HX2.out Tryd.underlying96 rfl HI8.out ?_)
                | (refine wpList_store_row rfl 96 _ _ rfl (w.heap.size + 1 + 1) _ rfl rfl 96 _ HR6.out HI8.out HO8.out (one_u32s _) ?_))
              exact bodyPost_ret (v := .agg (u32s res).toArray) (results_cell_row Tryd.results56 _ _ (w.heap.size + 1 + 1) 96 _ (0, 0) _ rfl (HR6.out.row _) Tryd.underlying96 rfl HI8.out) rfl ⟨by rw [HRE.out], below_setRow HR.out.2.2.2.2.2 (by omega) HR6.out.lt _⟩

end Go.Proofs.YtjiipiolckddnaaDoor

/- Plain facts on the digest: bytes with what stands behind them, blocks taken one after the other, the words' bytes; bytes that are handed in, and appended to a row of the call's own. -/
namespace Go.Proofs.YtjiipiolckddnaaDoor
open Go.RowKit

/-- a number of bits, in eight bytes, the highest first -/
def be8 (n : Nat) : Nat → List Nat
  | 0 => []
  | i + 1 => be8 n i ++ [n / 2 ^ (8 * (7 - i)) % 256]

theorem be8_length (n i : Nat) : (be8 n i).length = i := by induction i with
  | zero => rfl
  | succ i ih => simp [be8, ih]

/-- the noughts that are wanted -/
def padZ (n : Nat) : Nat := (119 - n % 64) % 64

/-- bytes, and what stands behind them -/
def padF (bs : List Nat) : List Nat := bs ++ [128] ++ List.replicate (padZ bs.length) 0 ++ be8 (bs.length * 8) 8

theorem padF_length (bs : List Nat) : (padF bs).length = bs.length + 1 + padZ bs.length + 8 := by simp [padF, be8_length]; omega
theorem padF_whole (bs : List Nat) : (padF bs).length % 64 = 0 := by rw [padF_length, padZ]; omega

theorem be8_bytes (n i : Nat) : BytesN (be8 n i) := by
  induction i with
  | zero => intro x hx; simp [be8] at hx
  | succ i ih =>
    intro x hx
    rcases List.mem_append.1 hx with h | h
    · exact ih x h
    · simp at h; subst h; exact Nat.mod_lt _ (by omega)

theorem padF_bytes {bs : List Nat} (h : BytesN bs) : BytesN (padF bs) := by
  intro x hx
  simp only [padF, List.mem_append] at hx
  rcases hx with ((hx | hx) | hx) | hx
  · exact h x hx
  · simp at hx; omega
  · rw [List.eq_of_mem_replicate hx]; omega
  · exact be8_bytes _ _ x hx

/-- so many blocks, one after the other, into the words from which a digest begins -/
def hashTo (l : List Nat) : Nat → List Nat
  | 0 => startT
  | j + 1 => blockF (hashTo l j) ((l.drop (64 * j)).take 64)

theorem startT_words : Words startT := by
  intro x hx
  simp only [startT, List.mem_cons, List.not_mem_nil, or_false] at hx
  omega
theorem hashTo_length (l : List Nat) (j : Nat) : (hashTo l j).length = 8 := by
  cases j with
  | zero => rfl
  | succ j => exact blockF_length _ _
theorem hashTo_words (l : List Nat) (j : Nat) : Words (hashTo l j) := by
  cases j with
  | zero => exact startT_words
  | succ j => exact blockF_words _ _

/-- the words' bytes, the highest first -/
def digestF (h : List Nat) : List Nat := (List.range 32).map fun i => h.getD (i / 4) 0 / 2 ^ (24 - 8 * (i % 4)) % 256
theorem digestF_length (h : List Nat) : (digestF h).length = 32 := by simp [digestF]
theorem digestF_at (h : List Nat) (i : Nat) (hi : i < 32) : (digestF h).getD i 0 = h.getD (i / 4) 0 / 2 ^ (24 - 8 * (i % 4)) % 256 := by
  simp [digestF, List.getD, hi]

/-- the digest of bytes -/
def sumF (bs : List Nat) : List Nat := digestF (hashTo (padF bs) ((padF bs).length / 64))

end Go.Proofs.YtjiipiolckddnaaDoor
