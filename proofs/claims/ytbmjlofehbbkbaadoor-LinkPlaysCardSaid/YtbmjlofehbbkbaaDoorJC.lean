/-
  Several texts, joined: SI, SJ, SM.
-/
import Derived.Test.YtbmjlofehbbkbaaDoorJA
import Derived.Test.YtbmjlofehbbkbaaDoorJB

/- A walk: the program's spread: the 64 words of a block. -/
namespace Go.Proofs.YtbmjlofehbbkbaaDoor
open Go.RowKit

/-- what lies in memory while a block is spread -/
def SPB (w wr : World) (b wl : List Nat) : Prop :=
  Arr wr w.heap.size 105 (u8s b) ∧ Arr wr (w.heap.size + 1) 140 (u32s (List.replicate 64 0)) ∧ Arr wr (w.heap.size + 1 + 1) 140 (u32s wl) ∧ Below w.heap.size w wr

theorem SPB.set {w wr : World} {b wl : List Nat} (r : SPB w wr b wl) (i x : Nat) : SPB w (wr.setCell ⟨w.heap.size + 1 + 1, i, none⟩ (.int .u32 ((x : Nat) : Int))) b (wl.set i x) := by
  obtain ⟨h0, h1, h3, h5⟩ := r
  refine ⟨h0.other _ _ (show w.heap.size ≠ w.heap.size + 1 + 1 by omega), h1.other _ _ (show w.heap.size + 1 ≠ w.heap.size + 1 + 1 by omega), ?_, h5.setCell (show w.heap.size ≤ w.heap.size + 1 + 1 by omega) _⟩
  have := h3.set i (.int .u32 ((x : Nat) : Int))
  rw [u32s_set] at this
  exact this
theorem SPB.drew {w wr : World} {b wl : List Nat} (r : SPB w wr b wl) : SPB w wr.drew b wl := ⟨r.1, r.2.1, r.2.2.1, r.2.2.2.drew⟩

theorem SPB.drewN {w wr : World} {b wl : List Nat} (r : SPB w wr b wl) (n : Nat) : SPB w (wr.drewN n) b wl := ⟨r.1, r.2.1, r.2.2.1, below_drewN r.2.2.2 n⟩

theorem or4 (y0 y1 y2 y3 : Nat) (h0 : y0 < 256) (h1 : y1 < 256) (h2 : y2 < 256) (h3 : y3 < 256) :
    bits .or .u32 (bits .or .u32 (bits .or .u32 (IntKind.u32.wrap (IntKind.u32.wrap (y0 : Int) * 16777216)) (IntKind.u32.wrap (IntKind.u32.wrap (y1 : Int) * 65536))) (IntKind.u32.wrap (IntKind.u32.wrap (y2 : Int) * 256))) (IntKind.u32.wrap (y3 : Int)) = ((y0 * 16777216 + y1 * 65536 + y2 * 256 + y3 : Nat) : Int) := by
  have e0 : IntKind.u32.wrap (IntKind.u32.wrap (y0 : Int) * 16777216) = ((y0 * 16777216 : Nat) : Int) := by simp only [IntKind.wrap_u32']; omega
  have e1 : IntKind.u32.wrap (IntKind.u32.wrap (y1 : Int) * 65536) = ((y1 * 65536 : Nat) : Int) := by simp only [IntKind.wrap_u32']; omega
  have e2 : IntKind.u32.wrap (IntKind.u32.wrap (y2 : Int) * 256) = ((y2 * 256 : Nat) : Int) := by simp only [IntKind.wrap_u32']; omega
  have e3 : IntKind.u32.wrap (y3 : Int) = ((y3 : Nat) : Int) := by simp only [IntKind.wrap_u32']; omega
  rw [e0, e1, e2, e3, u32_or_nat _ _ (by omega) (by omega), nat_join 24 (y0 * 16777216) (y1 * 65536) (by omega) (by omega), u32_or_nat _ _ (by omega) (by omega), nat_join 16 (y0 * 16777216 + y1 * 65536) (y2 * 256) (by omega) (by omega),
    u32_or_nat _ _ (by omega) (by omega), nat_join 8 (y0 * 16777216 + y1 * 65536 + y2 * 256) y3 (by omega) (by omega)]

set_option maxHeartbeats 8000000 in
set_option maxRecDepth 100000 in
theorem s_spread_of (b T : List Nat) (w : World) (bl : b.length = 64) (hb : ∀ x ∈ b, x < 256) (hTL : T.length = 64) (hTLT : ∀ i, T.getD i 0 < 4294967296) (hTAT : ∀ i, i < 64 → T.getD i 0 = nextW b T i) :
    Calls Tryd.prog 81 #[.agg (u8s b).toArray] w fun e w' => e = .returned (.agg (u32s T).toArray) ∧ Below w.heap.size w w' := by
  have BL := hide bl
  have HBY := hide hb
  have TL := hide hTL
  have TLT := hide hTLT
  have TAT := hide hTAT
  clear bl hb hTL hTLT hTAT
  go_enter Tryd.func81, Tryd.ntmps81
  go_wp2
  go_loopg [7] 17 (fun f s7 wr => ∃ (i : Nat), s7 = .int .i64 i ∧ i ≤ 16 ∧ 16 - i < f ∧ SPB w wr b (part T 64 i))
  case atStart =>
    refine ⟨0, rfl, by omega, by omega, ?_, ?_, ?_, ?_⟩
    · exact ((Arr.new w 105 (u8s b)).alloc _).alloc _
    · exact ((Arr.newAt (w.alloc _) 140 (u32s (List.replicate 64 0)) _ (by simp))).alloc _
    · exact (Arr.newAt ((w.alloc _).alloc _) 140 (u32s (List.replicate 64 0)) _ (by simp))
    · exact (((((Below.refl _ _).alloc (Nat.le_refl _) _).alloc (by simp) _).alloc (by simp; omega) _))
  case round =>
    obtain ⟨i, rfl, hi, hf, hR⟩ := hrel
    have HR := hide hR
    by_cases hlt : i < 16
    · obtain ⟨r0, h0⟩ : ∃ r, r = 4 * i := ⟨_, rfl⟩
      obtain ⟨r1, h1⟩ : ∃ r, r = 4 * i + 1 := ⟨_, rfl⟩
      obtain ⟨r2, h2⟩ : ∃ r, r = 4 * i + 2 := ⟨_, rfl⟩
      obtain ⟨r3, h3⟩ : ∃ r, r = 4 * i + 3 := ⟨_, rfl⟩
      have HW4 : Hid (T.getD i 0 = b.getD r0 0 * 16777216 + b.getD r1 0 * 65536 + b.getD r2 0 * 256 + b.getD r3 0) := by
        show _ = _
        rw [TAT.out i (by omega), nextW, if_pos hlt, w4, h0, h1, h2, h3]
      have HC0 : Hid (∀ v : World, Hid (Arr v w.heap.size 105 (u8s b)) → v.cell? ⟨w.heap.size, r0, none⟩ = some (.int .u8 ((b.getD r0 0 : Nat) : Int))) := fun v hv => (hv.out.cell r0).trans (u8s_at (by rw [BL.out]; omega))
      have HC1 : Hid (∀ v : World, Hid (Arr v w.heap.size 105 (u8s b)) → v.cell? ⟨w.heap.size, r1, none⟩ = some (.int .u8 ((b.getD r1 0 : Nat) : Int))) := fun v hv => (hv.out.cell r1).trans (u8s_at (by rw [BL.out]; omega))
      have HC2 : Hid (∀ v : World, Hid (Arr v w.heap.size 105 (u8s b)) → v.cell? ⟨w.heap.size, r2, none⟩ = some (.int .u8 ((b.getD r2 0 : Nat) : Int))) := fun v hv => (hv.out.cell r2).trans (u8s_at (by rw [BL.out]; omega))
      have HC3 : Hid (∀ v : World, Hid (Arr v w.heap.size 105 (u8s b)) → v.cell? ⟨w.heap.size, r3, none⟩ = some (.int .u8 ((b.getD r3 0 : Nat) : Int))) := fun v hv => (hv.out.cell r3).trans (u8s_at (by rw [BL.out]; omega))
      have b0 := byte_getD HBY.out r0
      have b1 := byte_getD HBY.out r1
      have b2 := byte_getD HBY.out r2
      have b3 := byte_getD HBY.out r3
      have q0 : IntKind.i64.wrap (4 * (i : Int)) = (r0 : Int) := by simp [IntKind.wrap, IntKind.bits, IntKind.signed]; omega
      have q1 : IntKind.i64.wrap ((r0 : Int) + 1) = (r1 : Int) := by simp [IntKind.wrap, IntKind.bits, IntKind.signed]; omega
      have q2 : IntKind.i64.wrap ((r0 : Int) + 2) = (r2 : Int) := by simp [IntKind.wrap, IntKind.bits, IntKind.signed]; omega
      have q3 : IntKind.i64.wrap ((r0 : Int) + 3) = (r3 : Int) := by simp [IntKind.wrap, IntKind.bits, IntKind.signed]; omega
      have p0 : (r0 : Int) < 64 := by omega
      have p1 : (r1 : Int) < 64 := by omega
      have p2 : (r2 : Int) < 64 := by omega
      have p3 : (r3 : Int) < 64 := by omega
      have pi64 : (i : Int) < 64 := by omega
      have cw := (hR.2.2.1.cell i).trans (u32s_at (by rw [part_length _ _ _ TL.out (by omega)]; omega))
      have fw := hR.2.2.1.frozen i
      clear hR h0 h1 h2 h3
      generalize b.getD r0 0 = y0 at *
      generalize b.getD r1 0 = y1 at *
      generalize b.getD r2 0 = y2 at *
      generalize b.getD r3 0 = y3 at *
      generalize (part T 64 i).getD i 0 = old at *
      go_wp2_with fail
      refine wp_region_held_drew (S := fun w' => Hid (Arr w' w.heap.size 105 (u8s b))) (by kernel_rfl) (hide HR.out.1) (fun hHeld => ?_)
      refine take_dstH (i := 0) (d := 10) (v := ?_) rfl rfl (by kernel_rfl) (by kernel_rfl) (by kernel_rfl) (fun _ _ _ h => h) (by rfl) hHeld ?_ ?_
      rotate_left
      · intro wZ hSw; clear hSw; go_simp; first | (with_reducible rfl) | (rw [if_pos (by omega)]; with_reducible rfl) | skip
      try simp only [Act.put, List.setIfInBounds_toArray, List.set_cons_zero, List.set_cons_succ]
      refine take_dstH (i := 1) (d := 11) (v := ?_) rfl rfl (by kernel_rfl) (by kernel_rfl) (by kernel_rfl) (fun _ _ _ h => h) (by rfl) hHeld ?_ ?_
      rotate_left
      · intro wZ hSw; clear hSw; go_simp; first | (with_reducible rfl) | (rw [if_pos (by omega)]; with_reducible rfl) | skip
      try simp only [Act.put, List.setIfInBounds_toArray, List.set_cons_zero, List.set_cons_succ]
      refine take_dstH (i := 2) (d := 12) (v := ?_) rfl rfl (by kernel_rfl) (by kernel_rfl) (by kernel_rfl) (fun _ _ _ h => h) (by rfl) hHeld ?_ ?_
      rotate_left
      · intro wZ hSw; clear hSw; go_simp; first | (with_reducible rfl) | (rw [if_pos (by omega)]; with_reducible rfl) | skip
      try simp only [Act.put, List.setIfInBounds_toArray, List.set_cons_zero, List.set_cons_succ]
      refine take_dstH (i := 3) (d := 13) (v := ?_) rfl rfl (by kernel_rfl) (by kernel_rfl) (by kernel_rfl) (fun _ _ _ h => h) (by rfl) hHeld ?_ ?_
      rotate_left
      · intro wZ hSw; clear hSw; go_simp; first | (with_reducible rfl) | (rw [if_pos (by omega)]; with_reducible rfl) | skip
      try simp only [Act.put, List.setIfInBounds_toArray, List.set_cons_zero, List.set_cons_succ]
      refine take_dstH (i := 4) (d := 14) (v := ?_) rfl rfl (by kernel_rfl) (by kernel_rfl) (by kernel_rfl) (fun _ _ _ h => h) (by rfl) hHeld ?_ ?_
      rotate_left
      · intro wZ hSw; have hfS := HC0.out wZ hSw; clear hSw; go_simp; first | (with_reducible rfl) | (rw [if_pos (by omega)]; with_reducible rfl) | skip
      try simp only [Act.put, List.setIfInBounds_toArray, List.set_cons_zero, List.set_cons_succ]
      refine take_dstH (i := 5) (d := 15) (v := ?_) rfl rfl (by kernel_rfl) (by kernel_rfl) (by kernel_rfl) (fun _ _ _ h => h) (by rfl) hHeld ?_ ?_
      rotate_left
      · intro wZ hSw; clear hSw; go_simp; first | (with_reducible rfl) | (rw [if_pos (by omega)]; with_reducible rfl) | skip
      try simp only [Act.put, List.setIfInBounds_toArray, List.set_cons_zero, List.set_cons_succ]
      refine take_dstH (i := 6) (d := 16) (v := ?_) rfl rfl (by kernel_rfl) (by kernel_rfl) (by kernel_rfl) (fun _ _ _ h => h) (by rfl) hHeld ?_ ?_
      rotate_left
      · intro wZ hSw; clear hSw; go_simp; first | (with_reducible rfl) | (rw [if_pos (by omega)]; with_reducible rfl) | skip
      try simp only [Act.put, List.setIfInBounds_toArray, List.set_cons_zero, List.set_cons_succ]
      refine take_dstH (i := 7) (d := 17) (v := ?_) rfl rfl (by kernel_rfl) (by kernel_rfl) (by kernel_rfl) (fun _ _ _ h => h) (by rfl) hHeld ?_ ?_
      rotate_left
      · intro wZ hSw; clear hSw; go_simp; first | (with_reducible rfl) | (rw [if_pos (by omega)]; with_reducible rfl) | skip
      try simp only [Act.put, List.setIfInBounds_toArray, List.set_cons_zero, List.set_cons_succ]
      refine take_dstH (i := 8) (d := 18) (v := ?_) rfl rfl (by kernel_rfl) (by kernel_rfl) (by kernel_rfl) (fun _ _ _ h => h) (by rfl) hHeld ?_ ?_
      rotate_left
      · intro wZ hSw; clear hSw; go_simp; first | (with_reducible rfl) | (rw [if_pos (by omega)]; with_reducible rfl) | skip
      try simp only [Act.put, List.setIfInBounds_toArray, List.set_cons_zero, List.set_cons_succ]
      refine take_dstH (i := 9) (d := 19) (v := ?_) rfl rfl (by kernel_rfl) (by kernel_rfl) (by kernel_rfl) (fun _ _ _ h => h) (by rfl) hHeld ?_ ?_
      rotate_left
      · intro wZ hSw; clear hSw; go_simp; first | (with_reducible rfl) | (rw [if_pos (by omega)]; with_reducible rfl) | skip
      try simp only [Act.put, List.setIfInBounds_toArray, List.set_cons_zero, List.set_cons_succ]
      refine take_dstH (i := 10) (d := 20) (v := ?_) rfl rfl (by kernel_rfl) (by kernel_rfl) (by kernel_rfl) (fun _ _ _ h => h) (by rfl) hHeld ?_ ?_
      rotate_left
      · intro wZ hSw; clear hSw; go_simp; first | (with_reducible rfl) | (rw [if_pos (by omega)]; with_reducible rfl) | skip
      try simp only [Act.put, List.setIfInBounds_toArray, List.set_cons_zero, List.set_cons_succ]
      refine take_dstH (i := 11) (d := 21) (v := ?_) rfl rfl (by kernel_rfl) (by kernel_rfl) (by kernel_rfl) (fun _ _ _ h => h) (by rfl) hHeld ?_ ?_
      rotate_left
      · intro wZ hSw; have hfS := HC1.out wZ hSw; clear hSw; go_simp; first | (with_reducible rfl) | (rw [if_pos (by omega)]; with_reducible rfl) | skip
      try simp only [Act.put, List.setIfInBounds_toArray, List.set_cons_zero, List.set_cons_succ]
      refine take_dstH (i := 12) (d := 22) (v := ?_) rfl rfl (by kernel_rfl) (by kernel_rfl) (by kernel_rfl) (fun _ _ _ h => h) (by rfl) hHeld ?_ ?_
      rotate_left
      · intro wZ hSw; clear hSw; go_simp; first | (with_reducible rfl) | (rw [if_pos (by omega)]; with_reducible rfl) | skip
      try simp only [Act.put, List.setIfInBounds_toArray, List.set_cons_zero, List.set_cons_succ]
      refine take_dstH (i := 13) (d := 23) (v := ?_) rfl rfl (by kernel_rfl) (by kernel_rfl) (by kernel_rfl) (fun _ _ _ h => h) (by rfl) hHeld ?_ ?_
      rotate_left
      · intro wZ hSw; clear hSw; go_simp; first | (with_reducible rfl) | (rw [if_pos (by omega)]; with_reducible rfl) | skip
      try simp only [Act.put, List.setIfInBounds_toArray, List.set_cons_zero, List.set_cons_succ]
      refine take_dstH (i := 14) (d := 24) (v := ?_) rfl rfl (by kernel_rfl) (by kernel_rfl) (by kernel_rfl) (fun _ _ _ h => h) (by rfl) hHeld ?_ ?_
      rotate_left
      · intro wZ hSw; clear hSw; go_simp; first | (with_reducible rfl) | (rw [if_pos (by omega)]; with_reducible rfl) | skip
      try simp only [Act.put, List.setIfInBounds_toArray, List.set_cons_zero, List.set_cons_succ]
      refine take_dstH (i := 15) (d := 25) (v := ?_) rfl rfl (by kernel_rfl) (by kernel_rfl) (by kernel_rfl) (fun _ _ _ h => h) (by rfl) hHeld ?_ ?_
      rotate_left
      · intro wZ hSw; clear hSw; go_simp; first | (with_reducible rfl) | (rw [if_pos (by omega)]; with_reducible rfl) | skip
      try simp only [Act.put, List.setIfInBounds_toArray, List.set_cons_zero, List.set_cons_succ]
      refine take_dstH (i := 16) (d := 26) (v := ?_) rfl rfl (by kernel_rfl) (by kernel_rfl) (by kernel_rfl) (fun _ _ _ h => h) (by rfl) hHeld ?_ ?_
      rotate_left
      · intro wZ hSw; clear hSw; go_simp; first | (with_reducible rfl) | (rw [if_pos (by omega)]; with_reducible rfl) | skip
      try simp only [Act.put, List.setIfInBounds_toArray, List.set_cons_zero, List.set_cons_succ]
      refine take_dstH (i := 17) (d := 27) (v := ?_) rfl rfl (by kernel_rfl) (by kernel_rfl) (by kernel_rfl) (fun _ _ _ h => h) (by rfl) hHeld ?_ ?_
      rotate_left
      · intro wZ hSw; clear hSw; go_simp; first | (with_reducible rfl) | (rw [if_pos (by omega)]; with_reducible rfl) | skip
      try simp only [Act.put, List.setIfInBounds_toArray, List.set_cons_zero, List.set_cons_succ]
      refine take_dstH (i := 18) (d := 28) (v := ?_) rfl rfl (by kernel_rfl) (by kernel_rfl) (by kernel_rfl) (fun _ _ _ h => h) (by rfl) hHeld ?_ ?_
      rotate_left
      · intro wZ hSw; clear hSw; go_simp; first | (with_reducible rfl) | (rw [if_pos (by omega)]; with_reducible rfl) | skip
      try simp only [Act.put, List.setIfInBounds_toArray, List.set_cons_zero, List.set_cons_succ]
      refine take_dstH (i := 19) (d := 29) (v := ?_) rfl rfl (by kernel_rfl) (by kernel_rfl) (by kernel_rfl) (fun _ _ _ h => h) (by rfl) hHeld ?_ ?_
      rotate_left
      · intro wZ hSw; have hfS := HC2.out wZ hSw; clear hSw; go_simp; first | (with_reducible rfl) | (rw [if_pos (by omega)]; with_reducible rfl) | skip
      try simp only [Act.put, List.setIfInBounds_toArray, List.set_cons_zero, List.set_cons_succ]
      refine take_dstH (i := 20) (d := 30) (v := ?_) rfl rfl (by kernel_rfl) (by kernel_rfl) (by kernel_rfl) (fun _ _ _ h => h) (by rfl) hHeld ?_ ?_
      rotate_left
      · intro wZ hSw; clear hSw; go_simp; first | (with_reducible rfl) | (rw [if_pos (by omega)]; with_reducible rfl) | skip
      try simp only [Act.put, List.setIfInBounds_toArray, List.set_cons_zero, List.set_cons_succ]
      refine take_dstH (i := 21) (d := 31) (v := ?_) rfl rfl (by kernel_rfl) (by kernel_rfl) (by kernel_rfl) (fun _ _ _ h => h) (by rfl) hHeld ?_ ?_
      rotate_left
      · intro wZ hSw; clear hSw; go_simp; first | (with_reducible rfl) | (rw [if_pos (by omega)]; with_reducible rfl) | skip
      try simp only [Act.put, List.setIfInBounds_toArray, List.set_cons_zero, List.set_cons_succ]
      refine take_dstH (i := 22) (d := 32) (v := ?_) rfl rfl (by kernel_rfl) (by kernel_rfl) (by kernel_rfl) (fun _ _ _ h => h) (by rfl) hHeld ?_ ?_
      rotate_left
      · intro wZ hSw; clear hSw; go_simp; first | (with_reducible rfl) | (rw [if_pos (by omega)]; with_reducible rfl) | skip
      try simp only [Act.put, List.setIfInBounds_toArray, List.set_cons_zero, List.set_cons_succ]
      refine take_dstH (i := 23) (d := 33) (v := ?_) rfl rfl (by kernel_rfl) (by kernel_rfl) (by kernel_rfl) (fun _ _ _ h => h) (by rfl) hHeld ?_ ?_
      rotate_left
      · intro wZ hSw; clear hSw; go_simp; first | (with_reducible rfl) | (rw [if_pos (by omega)]; with_reducible rfl) | skip
      try simp only [Act.put, List.setIfInBounds_toArray, List.set_cons_zero, List.set_cons_succ]
      refine take_dstH (i := 24) (d := 34) (v := ?_) rfl rfl (by kernel_rfl) (by kernel_rfl) (by kernel_rfl) (fun _ _ _ h => h) (by rfl) hHeld ?_ ?_
      rotate_left
      · intro wZ hSw; clear hSw; go_simp; first | (with_reducible rfl) | (rw [if_pos (by omega)]; with_reducible rfl) | skip
      try simp only [Act.put, List.setIfInBounds_toArray, List.set_cons_zero, List.set_cons_succ]
      refine take_dstH (i := 25) (d := 35) (v := ?_) rfl rfl (by kernel_rfl) (by kernel_rfl) (by kernel_rfl) (fun _ _ _ h => h) (by rfl) hHeld ?_ ?_
      rotate_left
      · intro wZ hSw; clear hSw; go_simp; first | (with_reducible rfl) | (rw [if_pos (by omega)]; with_reducible rfl) | skip
      try simp only [Act.put, List.setIfInBounds_toArray, List.set_cons_zero, List.set_cons_succ]
      refine take_dstH (i := 26) (d := 36) (v := ?_) rfl rfl (by kernel_rfl) (by kernel_rfl) (by kernel_rfl) (fun _ _ _ h => h) (by rfl) hHeld ?_ ?_
      rotate_left
      · intro wZ hSw; clear hSw; go_simp; first | (with_reducible rfl) | (rw [if_pos (by omega)]; with_reducible rfl) | skip
      try simp only [Act.put, List.setIfInBounds_toArray, List.set_cons_zero, List.set_cons_succ]
      refine take_dstH (i := 27) (d := 37) (v := ?_) rfl rfl (by kernel_rfl) (by kernel_rfl) (by kernel_rfl) (fun _ _ _ h => h) (by rfl) hHeld ?_ ?_
      rotate_left
      · intro wZ hSw; have hfS := HC3.out wZ hSw; clear hSw; go_simp; first | (with_reducible rfl) | (rw [if_pos (by omega)]; with_reducible rfl) | skip
      try simp only [Act.put, List.setIfInBounds_toArray, List.set_cons_zero, List.set_cons_succ]
      refine take_dstH (i := 28) (d := 38) (v := ?_) rfl rfl (by kernel_rfl) (by kernel_rfl) (by kernel_rfl) (fun _ _ _ h => h) (by rfl) hHeld ?_ ?_
      rotate_left
      · intro wZ hSw; clear hSw; go_simp; first | (with_reducible rfl) | (rw [if_pos (by omega)]; with_reducible rfl) | skip
      try simp only [Act.put, List.setIfInBounds_toArray, List.set_cons_zero, List.set_cons_succ]
      refine take_dstH (i := 29) (d := 39) (v := ?_) rfl rfl (by kernel_rfl) (by kernel_rfl) (by kernel_rfl) (fun _ _ _ h => h) (by rfl) hHeld ?_ ?_
      rotate_left
      · intro wZ hSw; clear hSw; go_simp; first | (with_reducible rfl) | (rw [if_pos (by omega)]; with_reducible rfl) | skip
      try simp only [Act.put, List.setIfInBounds_toArray, List.set_cons_zero, List.set_cons_succ]
      refine take_dstH (i := 30) (d := 40) (v := ?_) rfl rfl (by kernel_rfl) (by kernel_rfl) (by kernel_rfl) (fun _ _ _ h => h) (by rfl) hHeld ?_ ?_
      rotate_left
      · intro wZ hSw; clear hSw; go_simp; first | (with_reducible rfl) | (rw [if_pos (by omega)]; with_reducible rfl) | skip
      try simp only [Act.put, List.setIfInBounds_toArray, List.set_cons_zero, List.set_cons_succ]
      refine wpAnyH_ready (rs := [31]) (by kernel_rfl) (by simp) ?_
      refine (AllReadyH.cons rfl (fun K hK => ?_) AllReadyH.nil)
      go_simp
      refine hK.out _ _ ?_ (fun hHeld => ?_)
      · exact hide (SPB.set HR.out.drew i _).1
      clear hK K
      try simp only [Act.put, List.setIfInBounds_toArray, List.set_cons_zero, List.set_cons_succ]
      refine wpAnyH_done (by kernel_rfl) ?_ _
      rw [or4 y0 y1 y2 y3 b0 b1 b2 b3, ← HW4.out]
      clear hHeld
      go_wp2
      go_roundg (16 - i)
      case measure => omega
      case rel =>
        refine ⟨i + 1, by go_num, by omega, by omega, ?_⟩
        have := (SPB.set HR.out i (T.getD i 0)).drew
        rw [part_set _ _ _ TL.out (by omega)] at this
        exact this
    · have e : i = 16 := by omega
      subst e
      clear hR
      go_wp2
      go_loopg [6] 49 (fun f s6 wr => ∃ (i : Nat), s6 = .int .i64 i ∧ 16 ≤ i ∧ i ≤ 64 ∧ 64 - i < f ∧ SPB w wr b (part T 64 i))
      case atStart => exact ⟨16, rfl, by omega, by omega, by omega, HR.out⟩
      case round =>
        clear HR
        obtain ⟨i, rfl, hi16, hi, hf, hR⟩ := hrel
        have HR := hide hR
        by_cases hlt2 : i < 64
        · obtain ⟨r16, h16'⟩ : ∃ r, r = i - 16 := ⟨_, rfl⟩
          obtain ⟨r15, h15⟩ : ∃ r, r = i - 15 := ⟨_, rfl⟩
          obtain ⟨r7, h7⟩ : ∃ r, r = i - 7 := ⟨_, rfl⟩
          obtain ⟨r2, h2⟩ : ∃ r, r = i - 2 := ⟨_, rfl⟩
          have HNX : Hid (T.getD i 0 = (T.getD r16 0 + rot2 (T.getD r15 0) 7 18 3 + T.getD r7 0 + rot2 (T.getD r2 0) 17 19 10) % 4294967296) := by
            show _ = _
            rw [TAT.out i hlt2, nextW, if_neg (by omega), h16', h15, h7, h2]
          have cl : ∀ j, j < i → wr.cell? ⟨w.heap.size + 1 + 1, j, none⟩ = some (.int .u32 ((T.getD j 0 : Nat) : Int)) := fun j hj => by
            have := (hR.2.2.1.cell j).trans (u32s_at (by rw [part_length _ _ _ TL.out (by omega)]; omega))
            rw [part_get' _ _ _ _ TL.out hj (by omega)] at this
            exact this
          have CL : Hid (∀ j, j < i → wr.cell? ⟨w.heap.size + 1 + 1, j, none⟩ = some (.int .u32 ((T.getD j 0 : Nat) : Int))) := cl
          have CS : Hid (∀ (v : World), Hid (∀ j, j < i → v.cell? ⟨w.heap.size + 1 + 1, j, none⟩ = some (.int .u32 ((T.getD j 0 : Nat) : Int))) → v.cell? ⟨w.heap.size + 1 + 1, r16, none⟩ = some (.int .u32 ((T.getD r16 0 : Nat) : Int)) ∧ v.cell? ⟨w.heap.size + 1 + 1, r15, none⟩ = some (.int .u32 ((T.getD r15 0 : Nat) : Int)) ∧ v.cell? ⟨w.heap.size + 1 + 1, r7, none⟩ = some (.int .u32 ((T.getD r7 0 : Nat) : Int)) ∧ v.cell? ⟨w.heap.size + 1 + 1, r2, none⟩ = some (.int .u32 ((T.getD r2 0 : Nat) : Int))) :=
            fun v hv => ⟨hv.out r16 (by omega), hv.out r15 (by omega), hv.out r7 (by omega), hv.out r2 (by omega)⟩
          have cw := (hR.2.2.1.cell i).trans (u32s_at (by rw [part_length _ _ _ TL.out (by omega)]; omega))
          have fw := hR.2.2.1.frozen i
          have l15 := TLT.out r15
          have l2 := TLT.out r2
          have l16 := TLT.out r16
          have l7 := TLT.out r7
          have q16 : IntKind.i64.wrap ((i : Int) - 16) = (r16 : Int) := by simp [IntKind.wrap, IntKind.bits, IntKind.signed]; omega
          have q15 : IntKind.i64.wrap ((i : Int) - 15) = (r15 : Int) := by simp [IntKind.wrap, IntKind.bits, IntKind.signed]; omega
          have q7 : IntKind.i64.wrap ((i : Int) - 7) = (r7 : Int) := by simp [IntKind.wrap, IntKind.bits, IntKind.signed]; omega
          have q2 : IntKind.i64.wrap ((i : Int) - 2) = (r2 : Int) := by simp [IntKind.wrap, IntKind.bits, IntKind.signed]; omega
          have p15 : (r15 : Int) < 64 := by omega
          have p2 : (r2 : Int) < 64 := by omega
          have p16 : (r16 : Int) < 64 := by omega
          have p7 : (r7 : Int) < 64 := by omega
          have pi64 : (i : Int) < 64 := by omega
          clear cl hR h16' h15 h7 h2
          generalize hy15 : T.getD r15 0 = y15 at *
          generalize hy2 : T.getD r2 0 = y2 at *
          generalize hy16 : T.getD r16 0 = y16 at *
          generalize hy7 : T.getD r7 0 = y7 at *
          generalize (part T 64 i).getD i 0 = old at *
          clear hy15 hy2 hy16 hy7
          have C1 : Hid (∀ w : World, Calls Tryd.prog 87 #[.int .u32 y15, .int .i64 7, .int .i64 18, .int .i64 3] w fun e w' => e = .returned (.int .u32 ((rot2 y15 7 18 3 : Nat) : Int)) ∧ ∃ n, w' = w.drewN n) := fun w => moved_any y15 7 18 3 l15 (by omega) (by omega) (by omega) w
          have C2 : Hid (∀ w : World, Calls Tryd.prog 87 #[.int .u32 y2, .int .i64 17, .int .i64 19, .int .i64 10] w fun e w' => e = .returned (.int .u32 ((rot2 y2 17 19 10 : Nat) : Int)) ∧ ∃ n, w' = w.drewN n) := fun w => moved_any y2 17 19 10 l2 (by omega) (by omega) (by omega) w
          have ls := rot2_lt l15 7 18 3
          have lt := rot2_lt l2 17 19 10
          generalize rot2 y15 7 18 3 = sv at *
          generalize rot2 y2 17 19 10 = tv at *
          go_wp2_with fail
          refine wp_region_held_drew (S := fun w' => Hid (∀ j, j < i → w'.cell? ⟨w.heap.size + 1 + 1, j, none⟩ = some (.int .u32 ((T.getD j 0 : Nat) : Int)))) (by kernel_rfl) (CL) (fun hHeld => ?_)
          refine take_dstH (i := 0) (d := 46) (v := ?_) rfl rfl (by kernel_rfl) (by kernel_rfl) (by kernel_rfl) (fun _ _ _ h => h) (by rfl) hHeld ?_ ?_
          rotate_left
          · intro wZ hSw; clear hSw; go_simp; first | (with_reducible rfl) | (rw [if_pos (by omega)]; with_reducible rfl) | skip
          try simp only [Act.put, List.setIfInBounds_toArray, List.set_cons_zero, List.set_cons_succ]
          refine take_dstH (i := 1) (d := 47) (v := ?_) rfl rfl (by kernel_rfl) (by kernel_rfl) (by kernel_rfl) (fun _ _ _ h => h) (by rfl) hHeld ?_ ?_
          rotate_left
          · intro wZ hSw; clear hSw; go_simp; first | (with_reducible rfl) | (rw [if_pos (by omega)]; with_reducible rfl) | skip
          try simp only [Act.put, List.setIfInBounds_toArray, List.set_cons_zero, List.set_cons_succ]
          refine take_dstH (i := 2) (d := 48) (v := ?_) rfl rfl (by kernel_rfl) (by kernel_rfl) (by kernel_rfl) (fun _ _ _ h => h) (by rfl) hHeld ?_ ?_
          rotate_left
          · intro wZ hSw; clear hSw; go_simp; first | (with_reducible rfl) | (rw [if_pos (by omega)]; with_reducible rfl) | skip
          try simp only [Act.put, List.setIfInBounds_toArray, List.set_cons_zero, List.set_cons_succ]
          refine take_dstH (i := 3) (d := 49) (v := ?_) rfl rfl (by kernel_rfl) (by kernel_rfl) (by kernel_rfl) (fun _ _ _ h => h) (by rfl) hHeld ?_ ?_
          rotate_left
          · intro wZ hSw; clear hSw; go_simp; first | (with_reducible rfl) | (rw [if_pos (by omega)]; with_reducible rfl) | skip
          try simp only [Act.put, List.setIfInBounds_toArray, List.set_cons_zero, List.set_cons_succ]
          refine take_dstH (i := 4) (d := 50) (v := ?_) rfl rfl (by kernel_rfl) (by kernel_rfl) (by kernel_rfl) (fun _ _ _ h => h) (by rfl) hHeld ?_ ?_
          rotate_left
          · intro wZ hSw; have hfS := (fun v hv => (CS.out v hv).1) wZ hSw; clear hSw; go_simp; first | (with_reducible rfl) | (rw [if_pos (by omega)]; with_reducible rfl) | skip
          try simp only [Act.put, List.setIfInBounds_toArray, List.set_cons_zero, List.set_cons_succ]
          refine take_dstH (i := 5) (d := 51) (v := ?_) rfl rfl (by kernel_rfl) (by kernel_rfl) (by kernel_rfl) (fun _ _ _ h => h) (by rfl) hHeld ?_ ?_
          rotate_left
          · intro wZ hSw; clear hSw; go_simp; first | (with_reducible rfl) | (rw [if_pos (by omega)]; with_reducible rfl) | skip
          try simp only [Act.put, List.setIfInBounds_toArray, List.set_cons_zero, List.set_cons_succ]
          refine take_dstH (i := 6) (d := 52) (v := ?_) rfl rfl (by kernel_rfl) (by kernel_rfl) (by kernel_rfl) (fun _ _ _ h => h) (by rfl) hHeld ?_ ?_
          rotate_left
          · intro wZ hSw; clear hSw; go_simp; first | (with_reducible rfl) | (rw [if_pos (by omega)]; with_reducible rfl) | skip
          try simp only [Act.put, List.setIfInBounds_toArray, List.set_cons_zero, List.set_cons_succ]
          refine take_dstH (i := 7) (d := 53) (v := ?_) rfl rfl (by kernel_rfl) (by kernel_rfl) (by kernel_rfl) (fun _ _ _ h => h) (by rfl) hHeld ?_ ?_
          rotate_left
          · intro wZ hSw; clear hSw; go_simp; first | (with_reducible rfl) | (rw [if_pos (by omega)]; with_reducible rfl) | skip
          try simp only [Act.put, List.setIfInBounds_toArray, List.set_cons_zero, List.set_cons_succ]
          refine take_dstH (i := 8) (d := 54) (v := ?_) rfl rfl (by kernel_rfl) (by kernel_rfl) (by kernel_rfl) (fun _ _ _ h => h) (by rfl) hHeld ?_ ?_
          rotate_left
          · intro wZ hSw; clear hSw; go_simp; first | (with_reducible rfl) | (rw [if_pos (by omega)]; with_reducible rfl) | skip
          try simp only [Act.put, List.setIfInBounds_toArray, List.set_cons_zero, List.set_cons_succ]
          refine take_dstH (i := 9) (d := 55) (v := ?_) rfl rfl (by kernel_rfl) (by kernel_rfl) (by kernel_rfl) (fun _ _ _ h => h) (by rfl) hHeld ?_ ?_
          rotate_left
          · intro wZ hSw; have hfS := (fun v hv => (CS.out v hv).2.1) wZ hSw; clear hSw; go_simp; first | (with_reducible rfl) | (rw [if_pos (by omega)]; with_reducible rfl) | skip
          try simp only [Act.put, List.setIfInBounds_toArray, List.set_cons_zero, List.set_cons_succ]
          refine take_dstH (i := 12) (d := 58) (v := ?_) rfl rfl (by kernel_rfl) (by kernel_rfl) (by kernel_rfl) (fun _ _ _ h => h) (by rfl) hHeld ?_ ?_
          rotate_left
          · intro wZ hSw; clear hSw; go_simp; first | (with_reducible rfl) | (rw [if_pos (by omega)]; with_reducible rfl) | skip
          try simp only [Act.put, List.setIfInBounds_toArray, List.set_cons_zero, List.set_cons_succ]
          refine take_dstH (i := 13) (d := 59) (v := ?_) rfl rfl (by kernel_rfl) (by kernel_rfl) (by kernel_rfl) (fun _ _ _ h => h) (by rfl) hHeld ?_ ?_
          rotate_left
          · intro wZ hSw; clear hSw; go_simp; first | (with_reducible rfl) | (rw [if_pos (by omega)]; with_reducible rfl) | skip
          try simp only [Act.put, List.setIfInBounds_toArray, List.set_cons_zero, List.set_cons_succ]
          refine take_dstH (i := 14) (d := 60) (v := ?_) rfl rfl (by kernel_rfl) (by kernel_rfl) (by kernel_rfl) (fun _ _ _ h => h) (by rfl) hHeld ?_ ?_
          rotate_left
          · intro wZ hSw; clear hSw; go_simp; first | (with_reducible rfl) | (rw [if_pos (by omega)]; with_reducible rfl) | skip
          try simp only [Act.put, List.setIfInBounds_toArray, List.set_cons_zero, List.set_cons_succ]
          refine take_dstH (i := 15) (d := 61) (v := ?_) rfl rfl (by kernel_rfl) (by kernel_rfl) (by kernel_rfl) (fun _ _ _ h => h) (by rfl) hHeld ?_ ?_
          rotate_left
          · intro wZ hSw; have hfS := (fun v hv => (CS.out v hv).2.2.1) wZ hSw; clear hSw; go_simp; first | (with_reducible rfl) | (rw [if_pos (by omega)]; with_reducible rfl) | skip
          try simp only [Act.put, List.setIfInBounds_toArray, List.set_cons_zero, List.set_cons_succ]
          refine take_dstH (i := 17) (d := 63) (v := ?_) rfl rfl (by kernel_rfl) (by kernel_rfl) (by kernel_rfl) (fun _ _ _ h => h) (by rfl) hHeld ?_ ?_
          rotate_left
          · intro wZ hSw; clear hSw; go_simp; first | (with_reducible rfl) | (rw [if_pos (by omega)]; with_reducible rfl) | skip
          try simp only [Act.put, List.setIfInBounds_toArray, List.set_cons_zero, List.set_cons_succ]
          refine take_dstH (i := 18) (d := 64) (v := ?_) rfl rfl (by kernel_rfl) (by kernel_rfl) (by kernel_rfl) (fun _ _ _ h => h) (by rfl) hHeld ?_ ?_
          rotate_left
          · intro wZ hSw; clear hSw; go_simp; first | (with_reducible rfl) | (rw [if_pos (by omega)]; with_reducible rfl) | skip
          try simp only [Act.put, List.setIfInBounds_toArray, List.set_cons_zero, List.set_cons_succ]
          refine take_dstH (i := 19) (d := 65) (v := ?_) rfl rfl (by kernel_rfl) (by kernel_rfl) (by kernel_rfl) (fun _ _ _ h => h) (by rfl) hHeld ?_ ?_
          rotate_left
          · intro wZ hSw; clear hSw; go_simp; first | (with_reducible rfl) | (rw [if_pos (by omega)]; with_reducible rfl) | skip
          try simp only [Act.put, List.setIfInBounds_toArray, List.set_cons_zero, List.set_cons_succ]
          refine take_dstH (i := 20) (d := 66) (v := ?_) rfl rfl (by kernel_rfl) (by kernel_rfl) (by kernel_rfl) (fun _ _ _ h => h) (by rfl) hHeld ?_ ?_
          rotate_left
          · intro wZ hSw; clear hSw; go_simp; first | (with_reducible rfl) | (rw [if_pos (by omega)]; with_reducible rfl) | skip
          try simp only [Act.put, List.setIfInBounds_toArray, List.set_cons_zero, List.set_cons_succ]
          refine take_dstH (i := 21) (d := 67) (v := ?_) rfl rfl (by kernel_rfl) (by kernel_rfl) (by kernel_rfl) (fun _ _ _ h => h) (by rfl) hHeld ?_ ?_
          rotate_left
          · intro wZ hSw; have hfS := (fun v hv => (CS.out v hv).2.2.2) wZ hSw; clear hSw; go_simp; first | (with_reducible rfl) | (rw [if_pos (by omega)]; with_reducible rfl) | skip
          try simp only [Act.put, List.setIfInBounds_toArray, List.set_cons_zero, List.set_cons_succ]
          refine wpAnyH_ready (rs := [10]) (by kernel_rfl) (by simp) ?_
          refine (AllReadyH.cons rfl (fun K hK => ?_) AllReadyH.nil)
          go_simp
          refine (C1.out _).mono ?_; rintro e w1 ⟨rfl, n1, hw1⟩; subst hw1
          go_wp2_with fail
          refine hK.out _ _ ?_ (fun hHeld => ?_)
          · exact hHeld
          clear hK K
          try simp only [Act.put, List.setIfInBounds_toArray, List.set_cons_zero, List.set_cons_succ]
          refine take_dstH (i := 11) (d := 57) (v := ?_) rfl rfl (by kernel_rfl) (by kernel_rfl) (by kernel_rfl) (fun _ _ _ h => h) (by rfl) hHeld ?_ ?_
          rotate_left
          · intro wZ hSw; clear hSw; go_simp; first | (with_reducible rfl) | (rw [if_pos (by omega)]; with_reducible rfl) | skip
          try simp only [Act.put, List.setIfInBounds_toArray, List.set_cons_zero, List.set_cons_succ]
          refine take_dstH (i := 16) (d := 62) (v := ?_) rfl rfl (by kernel_rfl) (by kernel_rfl) (by kernel_rfl) (fun _ _ _ h => h) (by rfl) hHeld ?_ ?_
          rotate_left
          · intro wZ hSw; clear hSw; go_simp; first | (with_reducible rfl) | (rw [if_pos (by omega)]; with_reducible rfl) | skip
          try simp only [Act.put, List.setIfInBounds_toArray, List.set_cons_zero, List.set_cons_succ]
          refine wpAnyH_ready (rs := [22]) (by kernel_rfl) (by simp) ?_
          refine (AllReadyH.cons rfl (fun K hK => ?_) AllReadyH.nil)
          go_simp
          refine (C2.out _).mono ?_; rintro e w1 ⟨rfl, n2, hw1⟩; subst hw1
          go_wp2_with fail
          refine hK.out _ _ ?_ (fun hHeld => ?_)
          · exact hHeld
          clear hK K
          try simp only [Act.put, List.setIfInBounds_toArray, List.set_cons_zero, List.set_cons_succ]
          refine take_dstH (i := 23) (d := 69) (v := ?_) rfl rfl (by kernel_rfl) (by kernel_rfl) (by kernel_rfl) (fun _ _ _ h => h) (by rfl) hHeld ?_ ?_
          rotate_left
          · intro wZ hSw; clear hSw; go_simp; first | (with_reducible rfl) | (rw [if_pos (by omega)]; with_reducible rfl) | skip
          try simp only [Act.put, List.setIfInBounds_toArray, List.set_cons_zero, List.set_cons_succ]
          refine take_dstH (i := 24) (d := 70) (v := ?_) rfl rfl (by kernel_rfl) (by kernel_rfl) (by kernel_rfl) (fun _ _ _ h => h) (by rfl) hHeld ?_ ?_
          rotate_left
          · intro wZ hSw; clear hSw; go_simp; first | (with_reducible rfl) | (rw [if_pos (by omega)]; with_reducible rfl) | skip
          try simp only [Act.put, List.setIfInBounds_toArray, List.set_cons_zero, List.set_cons_succ]
          refine wpAnyH_ready (rs := [25]) (by kernel_rfl) (by simp) ?_
          refine (AllReadyH.cons rfl (fun K hK => ?_) AllReadyH.nil)
          go_simp
          refine hK.out _ _ ?_ (fun hHeld => ?_)
          · exact hide (fun j hj => (World.cell?_setCell_other _ _ _ _ (fun e => by have := congrArg Addr.off e; simp at this; omega)).trans (CL.out j hj))
          clear hK K
          try simp only [Act.put, List.setIfInBounds_toArray, List.set_cons_zero, List.set_cons_succ]
          refine wpAnyH_done (by kernel_rfl) ?_ _
          rw [show IntKind.u32.wrap (IntKind.u32.wrap (IntKind.u32.wrap ((y16 : Int) + (sv : Int)) + (y7 : Int)) + (tv : Int)) = ((T.getD i 0 : Nat) : Int) by rw [HNX.out]; simp only [IntKind.wrap_u32']; omega]
          clear hHeld
          go_wp2
          go_roundg (64 - i)
          case measure => omega
          case rel =>
            refine ⟨i + 1, by go_num, by omega, by omega, by omega, ?_⟩
            have := (SPB.set (HR.out.drewN (1 + n1 + n2)) i (T.getD i 0))
            rw [part_set _ _ _ TL.out hlt2] at this
            exact this
        · have e : i = 64 := by omega
          subst e
          rw [part_full _ _ TL.out] at hR
          have K2 := hide hR.2.2.1
          have K1 := hide hR.2.1
          have HB := hide hR.2.2.2
          have HI : Hid ((Tryd.prog.info? 140).map (·.size) = some (u32s T).toArray.size) := by show _ = _; rw [info31]; simp [u32s, TL.out]
          have HO : Hid ((u32s (List.replicate 64 0)).toArray.size = (u32s T).toArray.size) := by show _ = _; simp [u32s, TL.out]
          clear hR HR
          go_wp2_with (first
            | (refine wpList_load_row rfl 140 _ rfl (w.heap.size + 1 + 1) rfl 140 _ (0, 0) _ K2.out Tryd.underlying140 rfl HI.out ?_)
            | (refine wpList_store_row rfl 140 _ _ rfl (w.heap.size + 1) _ rfl rfl 140 _ K1.out HI.out HO.out (one_u32s _) ?_))
          exact bodyPost_ret (v := .agg (u32s T).toArray) (results_cell_row Tryd.results81 _ _ (w.heap.size + 1) 140 _ (0, 0) _ rfl (K1.out.row _) Tryd.underlying140 rfl HI.out) rfl ⟨rfl, below_setRow HB.out (by omega) K1.out.lt _⟩

theorem s_spread_any (b : List Nat) (w : World) (bl : b.length = 64) (hb : ∀ x ∈ b, x < 256) :
    Calls Tryd.prog 81 #[.agg (u8s b).toArray] w fun e w' => e = .returned (.agg (u32s (spreadF b)).toArray) ∧ Below w.heap.size w w' :=
  s_spread_of b (spreadF b) w bl hb (spread_length b) (fun i => spread_lt hb i) (fun i hi => spread_at b i hi)

end Go.Proofs.YtbmjlofehbbkbaaDoor

/- A walk: the program's closure that turns the eight words once. -/
namespace Go.Proofs.YtbmjlofehbbkbaaDoor
open Go.RowKit

theorem u_eq1 (e f g h k : Nat) :
    IntKind.u32.wrap (IntKind.u32.wrap (IntKind.u32.wrap ((h : Int) + ((rot3 e 6 11 25 : Nat) : Int)) + ((chF e f g : Nat) : Int)) + (k : Int)) = ((s_uF e f g h k 0 : Nat) : Int) := by
  simp only [IntKind.wrap_u32', s_uF]
  omega

theorem s_grown_set (w : World) (X j : Nat) (v : Value) : w.grownBy (w.setCell ⟨X, j, none⟩ v) (some X) :=
  ⟨rfl, rfl, rfl, by simp, fun k _ hk => heap_setCell_other w ⟨X, j, none⟩ k _ (fun e => hk (by simp [e]))⟩
theorem grown_set2 {w w' : World} {X : Nat} (h : w.grownBy w' (some X)) (j : Nat) (v : Value) : w.grownBy (w'.setCell ⟨X, j, none⟩ v) (some X) := grown_trans h (s_grown_set w' X j v)
theorem arr_drew {w : World} {g : Nat} {t : TypeId} {vs : List Value} (h : Arr w g t vs) : Arr w.drew g t vs := h

theorem uF_join (e f g h k w : Nat) : s_uF e f g h ((k + w) % 4294967296) 0 = s_uF e f g h k w := by unfold s_uF; omega
theorem stepW_join (x : List Nat) (k w : Nat) : stepW x ((k + w) % 4294967296) 0 = stepW x k w := by unfold stepW; rw [uF_join]

set_option maxHeartbeats 8000000 in
set_option maxRecDepth 100000 in
theorem take_any (x : List Nat) (kw X F : Nat) (w : World) (hl : x.length = 8) (hw : Words x) (_hk : kw < 4294967296) (hX : Arr w X 121 (u32s x)) (hF : w.cell? ⟨F, 0, none⟩ = some (.func (.func 78) #[] #[])) :
    Calls Tryd.prog 80 #[.int .u32 kw, .pointer (some ⟨X, 0, none⟩), .pointer (some ⟨F, 0, none⟩)] w fun e w' => e = .returned (.tuple #[]) ∧ Arr w' X 121 (u32s (stepW x kw 0)) ∧ w.grownBy w' (some X) := by
  obtain ⟨xa, xb, xc, xd, xe, xf, xg, xh, rfl⟩ := eight hl
  have c0 : w.cell? ⟨X, 0, none⟩ = some (.int .u32 (xa : Int)) := hX.cell 0
  have c1 : w.cell? ⟨X, 1, none⟩ = some (.int .u32 (xb : Int)) := hX.cell 1
  have c2 : w.cell? ⟨X, 2, none⟩ = some (.int .u32 (xc : Int)) := hX.cell 2
  have c3 : w.cell? ⟨X, 3, none⟩ = some (.int .u32 (xd : Int)) := hX.cell 3
  have c4 : w.cell? ⟨X, 4, none⟩ = some (.int .u32 (xe : Int)) := hX.cell 4
  have c5 : w.cell? ⟨X, 5, none⟩ = some (.int .u32 (xf : Int)) := hX.cell 5
  have c6 : w.cell? ⟨X, 6, none⟩ = some (.int .u32 (xg : Int)) := hX.cell 6
  have c7 : w.cell? ⟨X, 7, none⟩ = some (.int .u32 (xh : Int)) := hX.cell 7
  have la : xa < 4294967296 := hw xa (by simp)
  have lb : xb < 4294967296 := hw xb (by simp)
  have lc : xc < 4294967296 := hw xc (by simp)
  have ld : xd < 4294967296 := hw xd (by simp)
  have le : xe < 4294967296 := hw xe (by simp)
  have lf : xf < 4294967296 := hw xf (by simp)
  have lg : xg < 4294967296 := hw xg (by simp)
  have lh : xh < 4294967296 := hw xh (by simp)
  have f0 := hX.frozen 0
  have f1 := hX.frozen 1
  have f2 := hX.frozen 2
  have f3 := hX.frozen 3
  have f4 := hX.frozen 4
  have f5 := hX.frozen 5
  have f6 := hX.frozen 6
  have f7 := hX.frozen 7
  have HX := hide hX
  have C1 : Hid (∀ w : World, Calls Tryd.prog 78 #[.int .u32 xe, .int .i64 6, .int .i64 11, .int .i64 25] w fun e w' => e = .returned (.int .u32 ((rot3 xe 6 11 25 : Nat) : Int)) ∧ w' = w) := fun w => s_turned_any xe 6 11 25 le (by omega) (by omega) (by omega) w
  have C2 : Hid (∀ w : World, Calls Tryd.prog 78 #[.int .u32 xa, .int .i64 2, .int .i64 13, .int .i64 22] w fun e w' => e = .returned (.int .u32 ((rot3 xa 2 13 22 : Nat) : Int)) ∧ w' = w) := fun w => s_turned_any xa 2 13 22 la (by omega) (by omega) (by omega) w
  clear hX hl hw
  have hch := ch_eq xe xf xg le lf lg
  have hmj := maj_eq xa xb xc la lb lc
  have l1 : rot3 xe 6 11 25 < 4294967296 := rot3_lt le _ _ _
  have l2 : rot3 xa 2 13 22 < 4294967296 := rot3_lt la _ _ _
  have l3 : chF xe xf xg < 4294967296 := chF_lt le
  have l4 : majF xa xb xc < 4294967296 := majF_lt la lb
  have HST : Hid (stepW [xa, xb, xc, xd, xe, xf, xg, xh] kw 0 = [(s_uF xe xf xg xh kw 0 + vF xa xb xc) % 4294967296, xa, xb, xc, (xd + s_uF xe xf xg xh kw 0) % 4294967296, xe, xf, xg]) := rfl
  go_enter Tryd.func80, Tryd.ntmps80
  go_upto_region 0 with fail
  go_cut [4, 5, 6, 7] (fun s4 s5 s6 s7 wc => s4 = .int .u32 (xa : Int) ∧ s5 = .int .u32 (xb : Int) ∧ s6 = .int .u32 (xc : Int) ∧ s7 = .int .u32 (xd : Int) ∧ wc = w.drew)
  case first =>
    refine wp_region_held_drew (S := fun w' => Hid (w' = w.drew)) (by kernel_rfl) (hide rfl) (fun hHeld => ?_)
    refine take_dstH (i := 0) (d := 13) (v := ?_) rfl rfl (by kernel_rfl) (by kernel_rfl) (by kernel_rfl) (fun _ _ _ h => h) (by rfl) hHeld ?_ ?_
    rotate_left
    · intro wZ hSw; clear hSw; go_simp; first | (with_reducible rfl) | (rw [if_pos (by omega)]; with_reducible rfl) | skip
    try simp only [Act.put, List.setIfInBounds_toArray, List.set_cons_zero, List.set_cons_succ]
    refine take_dstH (i := 1) (d := 14) (v := ?_) rfl rfl (by kernel_rfl) (by kernel_rfl) (by kernel_rfl) (fun _ _ _ h => h) (by rfl) hHeld ?_ ?_
    rotate_left
    · intro wZ hSw; have hfS := (fun (v : World) (hv : Hid (v = w.drew)) => show v.cell? ⟨X, 0, none⟩ = some (.int .u32 (xa : Int)) from by rw [hv.out]; exact c0) wZ hSw; clear hSw; go_simp; first | (with_reducible rfl) | (rw [if_pos (by omega)]; with_reducible rfl) | skip
    try simp only [Act.put, List.setIfInBounds_toArray, List.set_cons_zero, List.set_cons_succ]
    refine take_dstH (i := 2) (d := 15) (v := ?_) rfl rfl (by kernel_rfl) (by kernel_rfl) (by kernel_rfl) (fun _ _ _ h => h) (by rfl) hHeld ?_ ?_
    rotate_left
    · intro wZ hSw; clear hSw; go_simp; first | (with_reducible rfl) | (rw [if_pos (by omega)]; with_reducible rfl) | skip
    try simp only [Act.put, List.setIfInBounds_toArray, List.set_cons_zero, List.set_cons_succ]
    refine take_dstH (i := 3) (d := 16) (v := ?_) rfl rfl (by kernel_rfl) (by kernel_rfl) (by kernel_rfl) (fun _ _ _ h => h) (by rfl) hHeld ?_ ?_
    rotate_left
    · intro wZ hSw; have hfS := (fun (v : World) (hv : Hid (v = w.drew)) => show v.cell? ⟨X, 1, none⟩ = some (.int .u32 (xb : Int)) from by rw [hv.out]; exact c1) wZ hSw; clear hSw; go_simp; first | (with_reducible rfl) | (rw [if_pos (by omega)]; with_reducible rfl) | skip
    try simp only [Act.put, List.setIfInBounds_toArray, List.set_cons_zero, List.set_cons_succ]
    refine take_dstH (i := 4) (d := 17) (v := ?_) rfl rfl (by kernel_rfl) (by kernel_rfl) (by kernel_rfl) (fun _ _ _ h => h) (by rfl) hHeld ?_ ?_
    rotate_left
    · intro wZ hSw; clear hSw; go_simp; first | (with_reducible rfl) | (rw [if_pos (by omega)]; with_reducible rfl) | skip
    try simp only [Act.put, List.setIfInBounds_toArray, List.set_cons_zero, List.set_cons_succ]
    refine take_dstH (i := 5) (d := 18) (v := ?_) rfl rfl (by kernel_rfl) (by kernel_rfl) (by kernel_rfl) (fun _ _ _ h => h) (by rfl) hHeld ?_ ?_
    rotate_left
    · intro wZ hSw; have hfS := (fun (v : World) (hv : Hid (v = w.drew)) => show v.cell? ⟨X, 2, none⟩ = some (.int .u32 (xc : Int)) from by rw [hv.out]; exact c2) wZ hSw; clear hSw; go_simp; first | (with_reducible rfl) | (rw [if_pos (by omega)]; with_reducible rfl) | skip
    try simp only [Act.put, List.setIfInBounds_toArray, List.set_cons_zero, List.set_cons_succ]
    refine take_dstH (i := 6) (d := 19) (v := ?_) rfl rfl (by kernel_rfl) (by kernel_rfl) (by kernel_rfl) (fun _ _ _ h => h) (by rfl) hHeld ?_ ?_
    rotate_left
    · intro wZ hSw; clear hSw; go_simp; first | (with_reducible rfl) | (rw [if_pos (by omega)]; with_reducible rfl) | skip
    try simp only [Act.put, List.setIfInBounds_toArray, List.set_cons_zero, List.set_cons_succ]
    refine take_dstH (i := 7) (d := 20) (v := ?_) rfl rfl (by kernel_rfl) (by kernel_rfl) (by kernel_rfl) (fun _ _ _ h => h) (by rfl) hHeld ?_ ?_
    rotate_left
    · intro wZ hSw; have hfS := (fun (v : World) (hv : Hid (v = w.drew)) => show v.cell? ⟨X, 3, none⟩ = some (.int .u32 (xd : Int)) from by rw [hv.out]; exact c3) wZ hSw; clear hSw; go_simp; first | (with_reducible rfl) | (rw [if_pos (by omega)]; with_reducible rfl) | skip
    try simp only [Act.put, List.setIfInBounds_toArray, List.set_cons_zero, List.set_cons_succ]
    refine take_dstH (i := 8) (d := 4) (v := ?_) rfl rfl (by kernel_rfl) (by kernel_rfl) (by kernel_rfl) (fun _ _ _ h => h) (by rfl) hHeld ?_ ?_
    rotate_left
    · intro wZ hSw; clear hSw; go_simp; first | (with_reducible rfl) | (rw [if_pos (by omega)]; with_reducible rfl) | skip
    try simp only [Act.put, List.setIfInBounds_toArray, List.set_cons_zero, List.set_cons_succ]
    refine take_dstH (i := 9) (d := 5) (v := ?_) rfl rfl (by kernel_rfl) (by kernel_rfl) (by kernel_rfl) (fun _ _ _ h => h) (by rfl) hHeld ?_ ?_
    rotate_left
    · intro wZ hSw; clear hSw; go_simp; first | (with_reducible rfl) | (rw [if_pos (by omega)]; with_reducible rfl) | skip
    try simp only [Act.put, List.setIfInBounds_toArray, List.set_cons_zero, List.set_cons_succ]
    refine take_dstH (i := 10) (d := 6) (v := ?_) rfl rfl (by kernel_rfl) (by kernel_rfl) (by kernel_rfl) (fun _ _ _ h => h) (by rfl) hHeld ?_ ?_
    rotate_left
    · intro wZ hSw; clear hSw; go_simp; first | (with_reducible rfl) | (rw [if_pos (by omega)]; with_reducible rfl) | skip
    try simp only [Act.put, List.setIfInBounds_toArray, List.set_cons_zero, List.set_cons_succ]
    refine take_dstH (i := 11) (d := 7) (v := ?_) rfl rfl (by kernel_rfl) (by kernel_rfl) (by kernel_rfl) (fun _ _ _ h => h) (by rfl) hHeld ?_ ?_
    rotate_left
    · intro wZ hSw; clear hSw; go_simp; first | (with_reducible rfl) | (rw [if_pos (by omega)]; with_reducible rfl) | skip
    try simp only [Act.put, List.setIfInBounds_toArray, List.set_cons_zero, List.set_cons_succ]
    refine wpAnyH_done (by kernel_rfl) ?_ _
    go_wp2_with fail
    go_meet
    case rel => exact ⟨rfl, rfl, rfl, rfl, rfl⟩
  obtain ⟨rfl, rfl, rfl, rfl, rfl⟩ := hcut
  go_upto_region 1 with fail
  go_cut [8, 9, 10] (fun s8 s9 s10 wc => s8 = .int .u32 (xe : Int) ∧ s9 = .int .u32 (xf : Int) ∧ s10 = .int .u32 (xg : Int) ∧ wc = w.drew.drew)
  case first =>
    refine wp_region_held_drew (S := fun w' => Hid (w' = w.drew.drew)) (by kernel_rfl) (hide rfl) (fun hHeld => ?_)
    refine take_dstH (i := 0) (d := 21) (v := ?_) rfl rfl (by kernel_rfl) (by kernel_rfl) (by kernel_rfl) (fun _ _ _ h => h) (by rfl) hHeld ?_ ?_
    rotate_left
    · intro wZ hSw; clear hSw; go_simp; first | (with_reducible rfl) | (rw [if_pos (by omega)]; with_reducible rfl) | skip
    try simp only [Act.put, List.setIfInBounds_toArray, List.set_cons_zero, List.set_cons_succ]
    refine take_dstH (i := 1) (d := 22) (v := ?_) rfl rfl (by kernel_rfl) (by kernel_rfl) (by kernel_rfl) (fun _ _ _ h => h) (by rfl) hHeld ?_ ?_
    rotate_left
    · intro wZ hSw; have hfS := (fun (v : World) (hv : Hid (v = w.drew.drew)) => show v.cell? ⟨X, 4, none⟩ = some (.int .u32 (xe : Int)) from by rw [hv.out]; exact c4) wZ hSw; clear hSw; go_simp; first | (with_reducible rfl) | (rw [if_pos (by omega)]; with_reducible rfl) | skip
    try simp only [Act.put, List.setIfInBounds_toArray, List.set_cons_zero, List.set_cons_succ]
    refine take_dstH (i := 2) (d := 23) (v := ?_) rfl rfl (by kernel_rfl) (by kernel_rfl) (by kernel_rfl) (fun _ _ _ h => h) (by rfl) hHeld ?_ ?_
    rotate_left
    · intro wZ hSw; clear hSw; go_simp; first | (with_reducible rfl) | (rw [if_pos (by omega)]; with_reducible rfl) | skip
    try simp only [Act.put, List.setIfInBounds_toArray, List.set_cons_zero, List.set_cons_succ]
    refine take_dstH (i := 3) (d := 24) (v := ?_) rfl rfl (by kernel_rfl) (by kernel_rfl) (by kernel_rfl) (fun _ _ _ h => h) (by rfl) hHeld ?_ ?_
    rotate_left
    · intro wZ hSw; have hfS := (fun (v : World) (hv : Hid (v = w.drew.drew)) => show v.cell? ⟨X, 5, none⟩ = some (.int .u32 (xf : Int)) from by rw [hv.out]; exact c5) wZ hSw; clear hSw; go_simp; first | (with_reducible rfl) | (rw [if_pos (by omega)]; with_reducible rfl) | skip
    try simp only [Act.put, List.setIfInBounds_toArray, List.set_cons_zero, List.set_cons_succ]
    refine take_dstH (i := 4) (d := 25) (v := ?_) rfl rfl (by kernel_rfl) (by kernel_rfl) (by kernel_rfl) (fun _ _ _ h => h) (by rfl) hHeld ?_ ?_
    rotate_left
    · intro wZ hSw; clear hSw; go_simp; first | (with_reducible rfl) | (rw [if_pos (by omega)]; with_reducible rfl) | skip
    try simp only [Act.put, List.setIfInBounds_toArray, List.set_cons_zero, List.set_cons_succ]
    refine take_dstH (i := 5) (d := 26) (v := ?_) rfl rfl (by kernel_rfl) (by kernel_rfl) (by kernel_rfl) (fun _ _ _ h => h) (by rfl) hHeld ?_ ?_
    rotate_left
    · intro wZ hSw; have hfS := (fun (v : World) (hv : Hid (v = w.drew.drew)) => show v.cell? ⟨X, 6, none⟩ = some (.int .u32 (xg : Int)) from by rw [hv.out]; exact c6) wZ hSw; clear hSw; go_simp; first | (with_reducible rfl) | (rw [if_pos (by omega)]; with_reducible rfl) | skip
    try simp only [Act.put, List.setIfInBounds_toArray, List.set_cons_zero, List.set_cons_succ]
    refine take_dstH (i := 6) (d := 8) (v := ?_) rfl rfl (by kernel_rfl) (by kernel_rfl) (by kernel_rfl) (fun _ _ _ h => h) (by rfl) hHeld ?_ ?_
    rotate_left
    · intro wZ hSw; clear hSw; go_simp; first | (with_reducible rfl) | (rw [if_pos (by omega)]; with_reducible rfl) | skip
    try simp only [Act.put, List.setIfInBounds_toArray, List.set_cons_zero, List.set_cons_succ]
    refine take_dstH (i := 7) (d := 9) (v := ?_) rfl rfl (by kernel_rfl) (by kernel_rfl) (by kernel_rfl) (fun _ _ _ h => h) (by rfl) hHeld ?_ ?_
    rotate_left
    · intro wZ hSw; clear hSw; go_simp; first | (with_reducible rfl) | (rw [if_pos (by omega)]; with_reducible rfl) | skip
    try simp only [Act.put, List.setIfInBounds_toArray, List.set_cons_zero, List.set_cons_succ]
    refine take_dstH (i := 8) (d := 10) (v := ?_) rfl rfl (by kernel_rfl) (by kernel_rfl) (by kernel_rfl) (fun _ _ _ h => h) (by rfl) hHeld ?_ ?_
    rotate_left
    · intro wZ hSw; clear hSw; go_simp; first | (with_reducible rfl) | (rw [if_pos (by omega)]; with_reducible rfl) | skip
    try simp only [Act.put, List.setIfInBounds_toArray, List.set_cons_zero, List.set_cons_succ]
    refine wpAnyH_done (by kernel_rfl) ?_ _
    go_wp2_with fail
    go_meet
    case rel => exact ⟨rfl, rfl, rfl, rfl⟩
  obtain ⟨rfl, rfl, rfl, rfl⟩ := hcut
  go_upto_region 2 with fail
  go_cut [11] (fun s11 wc => s11 = .int .u32 ((s_uF xe xf xg xh kw 0 : Nat) : Int) ∧ wc = w.drew.drew.drew)
  case first =>
    refine wp_region_held_drew (S := fun w' => Hid (w' = w.drew.drew.drew)) (by kernel_rfl) (hide rfl) (fun hHeld => ?_)
    refine take_dstH (i := 0) (d := 27) (v := ?_) rfl rfl (by kernel_rfl) (by kernel_rfl) (by kernel_rfl) (fun _ _ _ h => h) (by rfl) hHeld ?_ ?_
    rotate_left
    · intro wZ hSw; clear hSw; go_simp; first | (with_reducible rfl) | (rw [if_pos (by omega)]; with_reducible rfl) | skip
    try simp only [Act.put, List.setIfInBounds_toArray, List.set_cons_zero, List.set_cons_succ]
    refine take_dstH (i := 1) (d := 28) (v := ?_) rfl rfl (by kernel_rfl) (by kernel_rfl) (by kernel_rfl) (fun _ _ _ h => h) (by rfl) hHeld ?_ ?_
    rotate_left
    · intro wZ hSw; have hfS := (fun (v : World) (hv : Hid (v = w.drew.drew.drew)) => show v.cell? ⟨X, 7, none⟩ = some (.int .u32 (xh : Int)) from by rw [hv.out]; exact c7) wZ hSw; clear hSw; go_simp; first | (with_reducible rfl) | (rw [if_pos (by omega)]; with_reducible rfl) | skip
    try simp only [Act.put, List.setIfInBounds_toArray, List.set_cons_zero, List.set_cons_succ]
    refine take_dstH (i := 2) (d := 29) (v := ?_) rfl rfl (by kernel_rfl) (by kernel_rfl) (by kernel_rfl) (fun _ _ _ h => h) (by rfl) hHeld ?_ ?_
    rotate_left
    · intro wZ hSw; have hfS := (fun (v : World) (hv : Hid (v = w.drew.drew.drew)) => show v.cell? ⟨F, 0, none⟩ = some (.func (.func 78) #[] #[]) from by rw [hv.out]; exact hF) wZ hSw; clear hSw; go_simp; first | (with_reducible rfl) | (rw [if_pos (by omega)]; with_reducible rfl) | skip
    try simp only [Act.put, List.setIfInBounds_toArray, List.set_cons_zero, List.set_cons_succ]
    refine take_dstH (i := 3) (d := 30) (v := ?_) rfl rfl (by kernel_rfl) (by kernel_rfl) (by kernel_rfl) (fun _ _ _ h => h) (by rfl) hHeld ?_ ?_
    rotate_left
    · intro wZ hSw; clear hSw; go_simp; first | (with_reducible rfl) | (rw [if_pos (by omega)]; with_reducible rfl) | skip
    try simp only [Act.put, List.setIfInBounds_toArray, List.set_cons_zero, List.set_cons_succ]
    refine take_dstH (i := 6) (d := 33) (v := ?_) rfl rfl (by kernel_rfl) (by kernel_rfl) (by kernel_rfl) (fun _ _ _ h => h) (by rfl) hHeld ?_ ?_
    rotate_left
    · intro wZ hSw; clear hSw; go_simp; first | (with_reducible rfl) | (rw [if_pos (by omega)]; with_reducible rfl) | skip
    try simp only [Act.put, List.setIfInBounds_toArray, List.set_cons_zero, List.set_cons_succ]
    refine take_dstH (i := 7) (d := 34) (v := ?_) rfl rfl (by kernel_rfl) (by kernel_rfl) (by kernel_rfl) (fun _ _ _ h => h) (by rfl) hHeld ?_ ?_
    rotate_left
    · intro wZ hSw; clear hSw; go_simp; first | (with_reducible rfl) | (rw [if_pos (by omega)]; with_reducible rfl) | skip
    try simp only [Act.put, List.setIfInBounds_toArray, List.set_cons_zero, List.set_cons_succ]
    refine take_dstH (i := 8) (d := 35) (v := ?_) rfl rfl (by kernel_rfl) (by kernel_rfl) (by kernel_rfl) (fun _ _ _ h => h) (by rfl) hHeld ?_ ?_
    rotate_left
    · intro wZ hSw; clear hSw; go_simp; first | (with_reducible rfl) | (rw [if_pos (by omega)]; with_reducible rfl) | skip
    try simp only [Act.put, List.setIfInBounds_toArray, List.set_cons_zero, List.set_cons_succ]
    refine take_dstH (i := 9) (d := 36) (v := ?_) rfl rfl (by kernel_rfl) (by kernel_rfl) (by kernel_rfl) (fun _ _ _ h => h) (by rfl) hHeld ?_ ?_
    rotate_left
    · intro wZ hSw; clear hSw; go_simp; first | (with_reducible rfl) | (rw [if_pos (by omega)]; with_reducible rfl) | skip
    try simp only [Act.put, List.setIfInBounds_toArray, List.set_cons_zero, List.set_cons_succ]
    refine take_dstH (i := 10) (d := 37) (v := ?_) rfl rfl (by kernel_rfl) (by kernel_rfl) (by kernel_rfl) (fun _ _ _ h => h) (by rfl) hHeld ?_ ?_
    rotate_left
    · intro wZ hSw; clear hSw; go_simp; first | (with_reducible rfl) | (rw [if_pos (by omega)]; with_reducible rfl) | skip
    try simp only [Act.put, List.setIfInBounds_toArray, List.set_cons_zero, List.set_cons_succ]
    refine take_dstH (i := 11) (d := 38) (v := ?_) rfl rfl (by kernel_rfl) (by kernel_rfl) (by kernel_rfl) (fun _ _ _ h => h) (by rfl) hHeld ?_ ?_
    rotate_left
    · intro wZ hSw; clear hSw; go_simp; first | (with_reducible rfl) | (rw [if_pos (by omega)]; with_reducible rfl) | skip
    try simp only [Act.put, List.setIfInBounds_toArray, List.set_cons_zero, List.set_cons_succ]
    refine take_dstH (i := 12) (d := 39) (v := ?_) rfl rfl (by kernel_rfl) (by kernel_rfl) (by kernel_rfl) (fun _ _ _ h => h) (by rfl) hHeld ?_ ?_
    rotate_left
    · intro wZ hSw; clear hSw; go_simp; first | (with_reducible rfl) | (rw [if_pos (by omega)]; with_reducible rfl) | skip
    try simp only [Act.put, List.setIfInBounds_toArray, List.set_cons_zero, List.set_cons_succ]
    refine take_dstH (i := 13) (d := 40) (v := ?_) rfl rfl (by kernel_rfl) (by kernel_rfl) (by kernel_rfl) (fun _ _ _ h => h) (by rfl) hHeld ?_ ?_
    rotate_left
    · intro wZ hSw; clear hSw; go_simp; first | (with_reducible rfl) | (rw [if_pos (by omega)]; with_reducible rfl) | skip
    try simp only [Act.put, List.setIfInBounds_toArray, List.set_cons_zero, List.set_cons_succ]
    refine take_dstH (i := 15) (d := 42) (v := ?_) rfl rfl (by kernel_rfl) (by kernel_rfl) (by kernel_rfl) (fun _ _ _ h => h) (by rfl) hHeld ?_ ?_
    rotate_left
    · intro wZ hSw; clear hSw; go_simp; first | (with_reducible rfl) | (rw [if_pos (by omega)]; with_reducible rfl) | skip
    try simp only [Act.put, List.setIfInBounds_toArray, List.set_cons_zero, List.set_cons_succ]
    refine wpAnyH_ready (rs := [4]) (by kernel_rfl) (by simp) ?_
    refine (AllReadyH.cons rfl (fun K hK => ?_) AllReadyH.nil)
    go_simp
    refine (C1.out _).mono ?_; rintro e w1 ⟨rfl, hw1⟩; subst hw1
    go_wp2_with fail
    refine hK.out _ _ ?_ (fun hHeld => ?_)
    · exact hide rfl
    clear hK K
    try simp only [Act.put, List.setIfInBounds_toArray, List.set_cons_zero, List.set_cons_succ]
    refine take_dstH (i := 5) (d := 32) (v := ?_) rfl rfl (by kernel_rfl) (by kernel_rfl) (by kernel_rfl) (fun _ _ _ h => h) (by rfl) hHeld ?_ ?_
    rotate_left
    · intro wZ hSw; clear hSw; go_simp; first | (with_reducible rfl) | (rw [if_pos (by omega)]; with_reducible rfl) | skip
    try simp only [Act.put, List.setIfInBounds_toArray, List.set_cons_zero, List.set_cons_succ]
    refine take_dstH (i := 14) (d := 41) (v := ?_) rfl rfl (by kernel_rfl) (by kernel_rfl) (by kernel_rfl) (fun _ _ _ h => h) (by rfl) hHeld ?_ ?_
    rotate_left
    · intro wZ hSw; clear hSw; go_simp; first | (with_reducible rfl) | (rw [if_pos (by omega)]; with_reducible rfl) | skip
    try simp only [Act.put, List.setIfInBounds_toArray, List.set_cons_zero, List.set_cons_succ]
    refine take_dstH (i := 16) (d := 43) (v := ?_) rfl rfl (by kernel_rfl) (by kernel_rfl) (by kernel_rfl) (fun _ _ _ h => h) (by rfl) hHeld ?_ ?_
    rotate_left
    · intro wZ hSw; clear hSw; go_simp; first | (with_reducible rfl) | (rw [if_pos (by omega)]; with_reducible rfl) | skip
    try simp only [Act.put, List.setIfInBounds_toArray, List.set_cons_zero, List.set_cons_succ]
    refine take_dstH (i := 17) (d := 11) (v := ?_) rfl rfl (by kernel_rfl) (by kernel_rfl) (by kernel_rfl) (fun _ _ _ h => h) (by rfl) hHeld ?_ ?_
    rotate_left
    · intro wZ hSw; clear hSw; go_simp; first | (with_reducible rfl) | (rw [if_pos (by omega)]; with_reducible rfl) | skip
    try simp only [Act.put, List.setIfInBounds_toArray, List.set_cons_zero, List.set_cons_succ]
    refine wpAnyH_done (by kernel_rfl) ?_ _
    rw [u_eq1 xe xf xg xh kw]
    go_wp2_with fail
    go_meet
    case rel => exact ⟨rfl, rfl⟩
  obtain ⟨rfl, rfl⟩ := hcut
  have lu : s_uF xe xf xg xh kw 0 < 4294967296 := Nat.mod_lt _ (by omega)
  generalize s_uF xe xf xg xh kw 0 = uu at *
  go_wp2_with fail
  refine (C2.out _).mono ?_
  rintro e w1 ⟨rfl, hw1⟩
  subst hw1
  go_wp2
  go_end0
  refine ⟨rfl, ?_, ?_⟩
  · have h := ((((((((HX.out.set 0 (.int .u32 (((uu : Int) + (((rot3 xa 2 13 22 : Nat) : Int) + ((majF xa xb xc : Nat) : Int))) % 4294967296))).set 1 (.int .u32 (xa : Int))).set 2 (.int .u32 (xb : Int))).set 3 (.int .u32 (xc : Int))).set 4 (.int .u32 (((xd : Int) + (uu : Int)) % 4294967296))).set 5 (.int .u32 (xe : Int))).set 6 (.int .u32 (xf : Int))).set 7 (.int .u32 (xg : Int)))
    have e : (uu + vF xa xb xc) % 4294967296 = (uu + (rot3 xa 2 13 22 + majF xa xb xc)) % 4294967296 := by unfold vF; omega
    rw [HST.out, e]
    have e2 : u32s [(uu + (rot3 xa 2 13 22 + majF xa xb xc)) % 4294967296, xa, xb, xc, (xd + uu) % 4294967296, xe, xf, xg] = ((((((((u32s [xa, xb, xc, xd, xe, xf, xg, xh]).set 0 (.int .u32 (((uu : Int) + (((rot3 xa 2 13 22 : Nat) : Int) + ((majF xa xb xc : Nat) : Int))) % 4294967296))).set 1 (.int .u32 (xa : Int))).set 2 (.int .u32 (xb : Int))).set 3 (.int .u32 (xc : Int))).set 4 (.int .u32 (((xd : Int) + (uu : Int)) % 4294967296))).set 5 (.int .u32 (xe : Int))).set 6 (.int .u32 (xf : Int))).set 7 (.int .u32 (xg : Int)) := by
      simp [u32s]
    rw [e2]
    exact arr_drew (arr_drew (arr_drew h))
  · exact grown_drew (grown_drew (grown_drew (grown_set2 (grown_set2 (grown_set2 (grown_set2 (grown_set2 (grown_set2 (grown_set2 (s_grown_set w X 0 _) 1 _) 2 _) 3 _) 4 _) 5 _) 6 _) 7 _)))

end Go.Proofs.YtbmjlofehbbkbaaDoor

/- A walk: the program's Block: the eight words behind a block is taken into h. -/
namespace Go.Proofs.YtbmjlofehbbkbaaDoor
open Go.RowKit

/-- what lies in memory while the program takes a block -/
def BK (w wr : World) (F : Nat) (h b x : List Nat) : Prop :=
  Arr wr w.heap.size 121 (u32s h) ∧ Arr wr (w.heap.size + 1) 105 (u8s b) ∧ Arr wr (w.heap.size + 1 + 1) 121 (u32s (List.replicate 8 0)) ∧
  Arr wr (w.heap.size + 1 + 1 + 1) 121 (u32s x) ∧ wr.cell? ⟨F, 0, none⟩ = some (.func (.func 78) #[] #[]) ∧ w.heap.size + 1 + 1 + 1 < F ∧ Below w.heap.size w wr

theorem Arr.grown {w w' : World} {g X : Nat} {t : TypeId} {vs : List Value} (h : Arr w g t vs) (hg : w.grownBy w' (some X)) (hne : g ≠ X) : Arr w' g t vs := (hg.block g h.lt (fun e => hne (by cases e; rfl))).trans h

theorem BK.take {w wr w' : World} {F : Nat} {h b x y : List Nat} (r : BK w wr F h b x) (hg : wr.grownBy w' (some (w.heap.size + 1 + 1 + 1))) (ha : Arr w' (w.heap.size + 1 + 1 + 1) 121 (u32s y)) : BK w w' F h b y := by
  obtain ⟨h0, h1, h2, h3, h4, h6, h5⟩ := r
  refine ⟨h0.grown hg (by omega), h1.grown hg (by omega), h2.grown hg (by omega), ha, hg.cell h4 (by simp; omega), h6, h5.grown hg (Nat.le_trans (by omega) (Nat.le_of_lt h3.lt)) (by intro k hk; cases hk; omega)⟩

theorem BK.kept {w wr w' : World} {F : Nat} {h b x : List Nat} (r : BK w wr F h b x) (hb : Below wr.heap.size wr w') : BK w w' F h b x := by
  obtain ⟨h0, h1, h2, h3, h4, h6, h5⟩ := r
  exact ⟨h0.kept hb, h1.kept hb, h2.kept hb, h3.kept hb, (hb.cell (block_lt_of_cell h4)).trans h4, h6, h5.trans (hb.mono h5.size)⟩

theorem info27 : (Tryd.prog.info? 105).map (·.size) = some 64 := by kernel_rfl

theorem info22s : (Tryd.prog.info? 120).map (fun i => (i.zero, i.size, i.bytes)) = some (some (.int .u32 0), 1, 4) := by kernel_rfl

theorem run_index31 (T : List Nat) (i x : Nat) (w : World) (hi : i < 64) (hx : (u32s T)[i]? = some (.int .u32 ((x : Nat) : Int))) :
    (Instr.index 140 (Value.agg (u32s T).toArray) (Value.int IntKind.i64 (i : Int))).run Tryd.prog w = .ok (.int .u32 ((x : Nat) : Int)) w := by
  obtain ⟨i0, hi0, hz0, hz1, hz2⟩ := info_parts info22s
  unfold Instr.index
  simp [asIntOf, run_underlying Tryd.underlying140 w, hi, Go.sizeOf, typeInfo, hi0, hz1, Go.part, hx]

abbrev Z8 : Obj := Obj.cells #[Value.int .u32 0, Value.int .u32 0, Value.int .u32 0, Value.int .u32 0, Value.int .u32 0, Value.int .u32 0, Value.int .u32 0, Value.int .u32 0] 121

set_option maxHeartbeats 8000000 in
set_option maxRecDepth 100000 in
theorem s_block_of (hs b T : List Nat) (tf : Nat → List Nat) (w : World) (hl : hs.length = 8) (hw : Words hs) (bl : b.length = 64) (hL : Laid w) (hTL : T.length = 64) (hTLT : ∀ i, T.getD i 0 < 4294967296)
    (hSP : ∀ w : World, Calls Tryd.prog 81 #[.agg (u8s b).toArray] w fun e w' => e = .returned (.agg (u32s T).toArray) ∧ Below w.heap.size w w')
    (ht0 : tf 0 = hs) (htl : ∀ i, (tf i).length = 8) (htw : ∀ i, Words (tf i)) (hTU : ∀ i, tf (i + 1) = stepW (tf i) (turnT.getD i 0) (T.getD i 0)) :
    Calls Tryd.prog 66 #[.agg (u32s hs).toArray, .agg (u8s b).toArray] w fun e w' => e = .returned (.agg (u32s (addW (tf 64) hs)).toArray) ∧ Below w.heap.size w w' := by
  have HL := hide hl
  have BL := hide bl
  have LD := hide hL
  have TL := hide hTL
  have TLT := hide hTLT
  have SP := hide hSP
  have TU := hide hTU
  have TFL := hide htl
  have TFW := hide htw
  have HT0 := hide ht0
  have IH : Hid ((Tryd.prog.info? 121).map (·.size) = some (u32s hs).toArray.size) := by show _ = _; rw [info26]; simp [u32s, hl]
  have ZH : Hid ((#[Value.int .u32 0, Value.int .u32 0, Value.int .u32 0, Value.int .u32 0, Value.int .u32 0, Value.int .u32 0, Value.int .u32 0, Value.int .u32 0] : Array Value).size = (u32s hs).toArray.size) := by show _ = _; simp [u32s, hl]
  have IB : Hid ((Tryd.prog.info? 105).map (·.size) = some (u8s b).toArray.size) := by show _ = _; rw [info27]; simp [u8s, bl]
  clear hl bl hL hTL hTLT hSP hTU htl htw ht0
  go_enter Tryd.func66, Tryd.ntmps66
  go_upto_region 1 with fail
  have A0 : Hid (Arr (((w.alloc (Obj.cells (u32s hs).toArray 121)).alloc (Obj.cells (u8s b).toArray 105)).alloc Z8) w.heap.size 121 (u32s hs)) := ((Arr.new w 121 (u32s hs)).alloc _).alloc _
  have A1 : Hid (Arr (((w.alloc (Obj.cells (u32s hs).toArray 121)).alloc (Obj.cells (u8s b).toArray 105)).alloc Z8) (w.heap.size + 1) 105 (u8s b)) := (Arr.newAt (w.alloc _) 105 (u8s b) _ (by simp)).alloc _
  have A2 : Hid (Arr (((w.alloc (Obj.cells (u32s hs).toArray 121)).alloc (Obj.cells (u8s b).toArray 105)).alloc Z8) (w.heap.size + 1 + 1) 121 (u32s (List.replicate 8 0))) := Arr.newAt ((w.alloc _).alloc _) 121 (u32s (List.replicate 8 0)) _ (by simp)
  have B3 : Hid (Below w.heap.size w (((w.alloc (Obj.cells (u32s hs).toArray 121)).alloc (Obj.cells (u8s b).toArray 105)).alloc Z8)) := (((Below.refl _ _).alloc (Nat.le_refl _) _).alloc (by simp) _).alloc (by simp; omega) _
  have hsz : (((w.alloc (Obj.cells (u32s hs).toArray 121)).alloc (Obj.cells (u8s b).toArray 105)).alloc Z8).heap.size = w.heap.size + 1 + 1 + 1 := by simp
  generalize (((w.alloc (Obj.cells (u32s hs).toArray 121)).alloc (Obj.cells (u8s b).toArray 105)).alloc Z8) = w3 at *
  go_upto_region 2 with (first
    | (refine wpList_load_row rfl 121 _ rfl w.heap.size rfl 121 _ (0, 0) _ A0.out Tryd.underlying121 rfl IH.out ?_)
    | (refine wpList_store_row rfl 121 _ _ rfl (w.heap.size + 1 + 1 + 1) _ rfl rfl 121 _ (by rw [← hsz]; exact heap_alloc_new w3 _) IH.out ZH.out (one_u32s _) ?_))
  have D0 : Hid (Arr ((w3.alloc Z8).setRow (w.heap.size + 1 + 1 + 1) (u32s hs).toArray) w.heap.size 121 (u32s hs)) := (A0.out.alloc _).rowOther _ _ (by omega)
  have D1 : Hid (Arr ((w3.alloc Z8).setRow (w.heap.size + 1 + 1 + 1) (u32s hs).toArray) (w.heap.size + 1) 105 (u8s b)) := (A1.out.alloc _).rowOther _ _ (by omega)
  have D2 : Hid (Arr ((w3.alloc Z8).setRow (w.heap.size + 1 + 1 + 1) (u32s hs).toArray) (w.heap.size + 1 + 1) 121 (u32s (List.replicate 8 0))) := (A2.out.alloc _).rowOther _ _ (by omega)
  have D3 : Hid (Arr ((w3.alloc Z8).setRow (w.heap.size + 1 + 1 + 1) (u32s hs).toArray) (w.heap.size + 1 + 1 + 1) 121 (u32s hs)) := (Arr.newAt w3 121 (u32s (List.replicate 8 0)) _ hsz).row _
  have B4 : Hid (Below w.heap.size w ((w3.alloc Z8).setRow (w.heap.size + 1 + 1 + 1) (u32s hs).toArray)) := below_setRow (B3.out.alloc (by omega) _) (by omega) (by simp; omega) _
  have hsz4 : ((w3.alloc Z8).setRow (w.heap.size + 1 + 1 + 1) (u32s hs).toArray).heap.size = w.heap.size + 1 + 1 + 1 + 1 := by simp [hsz]
  clear A0 A1 A2 B3
  generalize ((w3.alloc Z8).setRow (w.heap.size + 1 + 1 + 1) (u32s hs).toArray) = w4 at *
  clear hsz
  have HSZ := hide hsz4
  clear hsz4
  have hst : (store ⟨w4.heap.size, 0, none⟩ (Value.func (Fn.func 78) #[] #[])).run Tryd.prog (w4.alloc (Obj.cells #[Value.nilFunc] 138)) = .ok () ((w4.alloc (Obj.cells #[Value.nilFunc] 138)).setCell ⟨w4.heap.size, 0, none⟩ (Value.func (Fn.func 78) #[] #[])) := by
    have F4 := Arr.new w4 138 [Value.nilFunc]
    rw [run_store _ _ _ _ _ rfl, F4.cell 0, F4.frozen 0]
    rfl
  go_upto_region 4 with fail
  have HB5 : Hid (BK w (w4.alloc (Obj.cells #[Value.func (Fn.func 78) #[] #[]] 138)) w4.heap.size hs b hs) := by
    have hz := HSZ.out
    exact ⟨D0.out.alloc _, D1.out.alloc _, D2.out.alloc _, D3.out.alloc _, by simp, by omega, B4.out.alloc (by omega) _⟩
  clear hst D0 D1 D2 D3 B4 HSZ
  generalize w4.alloc (Obj.cells #[Value.func (Fn.func 78) #[] #[]] 138) = w5 at *
  generalize w4.heap.size = F at *
  go_wp2_with (refine wpList_load_row rfl 105 _ rfl (w.heap.size + 1) rfl 105 _ (0, 0) _ HB5.out.2.1 Tryd.underlying105 rfl IB.out ?_)
  refine (SP.out _).mono ?_
  rintro e w6 ⟨rfl, hb6⟩
  have HB6 := hide (HB5.out.kept hb6)
  clear hb6 HB5 SP IB
  go_wp2
  go_loopg [15] 65 (fun f s15 wr => ∃ (i : Nat), s15 = .int .i64 i ∧ i ≤ 64 ∧ 64 - i < f ∧ BK w wr F hs b (tf i))
  case atStart => exact ⟨0, rfl, by omega, by omega, by rw [HT0.out]; exact HB6.out⟩
  case round =>
    clear HB6
    obtain ⟨i, rfl, hi, hf, hR⟩ := hrel
    have HR := hide hR
    by_cases hlt : i < 64
    · have hsx := TU.out i
      have hxl := TFL.out i
      have hxw := TFW.out i
      generalize tf i = x at *
      have XL := hide hxl
      have XW := hide hxw
      have ck := (LD.out.keptB LD.out.size hR.2.2.2.2.2.2).turn hlt
      have lk := turn_lt i hlt
      have lw := TLT.out i
      have hidx := run_index31 T i (T.getD i 0) wr hlt (u32s_at (by rw [TL.out]; exact hlt))
      have hi64 : (i : Int) < 64 := by omega
      obtain ⟨kw, hkw⟩ : ∃ kw, kw = (turnT.getD i 0 + T.getD i 0) % 4294967296 := ⟨_, rfl⟩
      have hsx2 : tf (i + 1) = stepW x kw 0 := by rw [hsx, hkw, stepW_join]
      have HSX := hide hsx2
      have lkw : kw < 4294967296 := by rw [hkw]; exact Nat.mod_lt _ (by omega)
      clear hsx hsx2 hxl hxw hR
      generalize turnT.getD i 0 = kv at *
      generalize T.getD i 0 = wv at *
      have ekw : ((kv : Int) + (wv : Int)) % 4294967296 = (kw : Int) := by omega
      clear hkw
      go_wp2_with fail
      refine (take_any x kw (w.heap.size + 1 + 1 + 1) F wr XL.out XW.out lkw HR.out.2.2.2.1 HR.out.2.2.2.2.1).mono ?_
      rintro e w7 ⟨rfl, ha7, hg7⟩
      have HB7 := hide (HR.out.take hg7 ha7)
      clear ha7 hg7 HR
      go_wp2
      go_roundg (64 - i)
      case measure => omega
      case rel => exact ⟨i + 1, by go_num, by omega, by omega, by rw [HSX.out]; exact HB7.out⟩
    · have e : i = 64 := by omega
      subst e
      have hxl := TFL.out 64
      have hxw := TFW.out 64
      generalize hxx : tf 64 = xx at *
      have HXX := hide hxx
      clear hxx
      have XL := hide hxl
      have XW := hide hxw
      clear hxl hxw hR
      go_wp2
      go_loopg [27] 9 (fun f s27 wx => ∃ (i : Nat), s27 = .int .i64 i ∧ i ≤ 8 ∧ 8 - i < f ∧ BK w wx F hs b (addTo xx hs i))
      case atStart => exact ⟨0, rfl, by omega, by omega, by rw [addTo_zero]; exact HR.out⟩
      case round =>
        clear HR
        obtain ⟨i, rfl, hi, hf, hR⟩ := hrel
        have HR := hide hR
        by_cases hlt : i < 8
        · have hx := hR.2.2.2.1
          have cx := (hx.cell i).trans (u32s_at (by rw [addTo_length _ _ XL.out _ (by omega)]; exact hlt))
          rw [addTo_at _ _ _ hlt] at cx
          have fx := hx.frozen i
          have ch := (hR.1.cell i).trans (u32s_at (l := hs) (by rw [HL.out]; exact hlt))
          have lx := XW.out.getD i
          have lh := Words.getD hw i
          have HSET := hide (addTo_set xx hs XL.out i hlt)
          have hi8 : (i : Int) < 8 := by omega
          clear hR hx
          generalize xx.getD i 0 = xi at *
          generalize hs.getD i 0 = hi' at *
          go_wp2_with fail
          refine wp_region_any (by kernel_rfl) ?_
          try (change wpAny _ _ _ _ _ _ _ (World.drew _))
          refine take_dst (i := 0) (d := 30) (v := ?_) rfl rfl (by kernel_rfl) (by kernel_rfl) (by kernel_rfl) (fun _ _ _ h => h) (by rfl) ?_ ?_
          rotate_left
          · intro wZ; go_simp; first | (with_reducible rfl) | (rw [if_pos (by omega)]; with_reducible rfl) | skip
          try simp only [Act.put, List.setIfInBounds_toArray, List.set_cons_zero, List.set_cons_succ]
          refine take_dst (i := 1) (d := 31) (v := ?_) rfl rfl (by kernel_rfl) (by kernel_rfl) (by kernel_rfl) (fun _ _ _ h => h) (by rfl) ?_ ?_
          rotate_left
          · intro wZ; go_simp; first | (with_reducible rfl) | (rw [if_pos (by omega)]; with_reducible rfl) | skip
          try simp only [Act.put, List.setIfInBounds_toArray, List.set_cons_zero, List.set_cons_succ]
          refine take_dst (i := 3) (d := 33) (v := ?_) rfl rfl (by kernel_rfl) (by kernel_rfl) (by kernel_rfl) (fun _ _ _ h => h) (by rfl) ?_ ?_
          rotate_left
          · intro wZ; go_simp; first | (with_reducible rfl) | (rw [if_pos (by omega)]; with_reducible rfl) | skip
          try simp only [Act.put, List.setIfInBounds_toArray, List.set_cons_zero, List.set_cons_succ]
          refine take_dst (i := 4) (d := 34) (v := ?_) rfl rfl (by kernel_rfl) (by kernel_rfl) (by kernel_rfl) (fun _ _ _ h => h) (by rfl) ?_ ?_
          rotate_left
          · intro wZ; go_simp; first | (with_reducible rfl) | (rw [if_pos (by omega)]; with_reducible rfl) | skip
          try simp only [Act.put, List.setIfInBounds_toArray, List.set_cons_zero, List.set_cons_succ]
          refine wpAny_ready (rs := [2, 5]) (by kernel_rfl) (by simp) ?_
          refine (AllReady.cons rfl (fun K hK => ?_) (AllReady.cons rfl (fun K hK => ?_) AllReady.nil))
          focus
            go_simp
            first | (refine hK _ _ ?_; clear hK K) | (clear hK K) | skip
            try simp only [Act.put, List.setIfInBounds_toArray, List.set_cons_zero, List.set_cons_succ]
            refine wpAny_ready (rs := [5]) (by kernel_rfl) (by simp) ?_
            refine (AllReady.cons rfl (fun K hK => ?_) AllReady.nil)
            go_simp
            first | (refine hK _ _ ?_; clear hK K) | (clear hK K) | skip
            try simp only [Act.put, List.setIfInBounds_toArray, List.set_cons_zero, List.set_cons_succ]
            refine take_dst (i := 6) (d := 36) (v := ?_) rfl rfl (by kernel_rfl) (by kernel_rfl) (by kernel_rfl) (fun _ _ _ h => h) (by rfl) ?_ ?_
            rotate_left
            · intro wZ; go_simp; first | (with_reducible rfl) | (rw [if_pos (by omega)]; with_reducible rfl) | skip
            try simp only [Act.put, List.setIfInBounds_toArray, List.set_cons_zero, List.set_cons_succ]
            refine take_dst (i := 7) (d := 37) (v := ?_) rfl rfl (by kernel_rfl) (by kernel_rfl) (by kernel_rfl) (fun _ _ _ h => h) (by rfl) ?_ ?_
            rotate_left
            · intro wZ; go_simp; first | (with_reducible rfl) | (rw [if_pos (by omega)]; with_reducible rfl) | skip
            try simp only [Act.put, List.setIfInBounds_toArray, List.set_cons_zero, List.set_cons_succ]
            refine wpAny_ready (rs := [8]) (by kernel_rfl) (by simp) ?_
            refine (AllReady.cons rfl (fun K hK => ?_) AllReady.nil)
            go_simp
            first | (refine hK _ _ ?_; clear hK K) | (clear hK K) | skip
            try simp only [Act.put, List.setIfInBounds_toArray, List.set_cons_zero, List.set_cons_succ]
            refine wpAny_done (by kernel_rfl) ?_ _
          rotate_left 1
          focus
            go_simp
            first | (refine hK _ _ ?_; clear hK K) | (clear hK K) | skip
            try simp only [Act.put, List.setIfInBounds_toArray, List.set_cons_zero, List.set_cons_succ]
            refine wpAny_ready (rs := [2]) (by kernel_rfl) (by simp) ?_
            refine (AllReady.cons rfl (fun K hK => ?_) AllReady.nil)
            go_simp
            first | (refine hK _ _ ?_; clear hK K) | (clear hK K) | skip
            try simp only [Act.put, List.setIfInBounds_toArray, List.set_cons_zero, List.set_cons_succ]
            refine take_dst (i := 6) (d := 36) (v := ?_) rfl rfl (by kernel_rfl) (by kernel_rfl) (by kernel_rfl) (fun _ _ _ h => h) (by rfl) ?_ ?_
            rotate_left
            · intro wZ; go_simp; first | (with_reducible rfl) | (rw [if_pos (by omega)]; with_reducible rfl) | skip
            try simp only [Act.put, List.setIfInBounds_toArray, List.set_cons_zero, List.set_cons_succ]
            refine take_dst (i := 7) (d := 37) (v := ?_) rfl rfl (by kernel_rfl) (by kernel_rfl) (by kernel_rfl) (fun _ _ _ h => h) (by rfl) ?_ ?_
            rotate_left
            · intro wZ; go_simp; first | (with_reducible rfl) | (rw [if_pos (by omega)]; with_reducible rfl) | skip
            try simp only [Act.put, List.setIfInBounds_toArray, List.set_cons_zero, List.set_cons_succ]
            refine wpAny_ready (rs := [8]) (by kernel_rfl) (by simp) ?_
            refine (AllReady.cons rfl (fun K hK => ?_) AllReady.nil)
            go_simp
            first | (refine hK _ _ ?_; clear hK K) | (clear hK K) | skip
            try simp only [Act.put, List.setIfInBounds_toArray, List.set_cons_zero, List.set_cons_succ]
            refine wpAny_done (by kernel_rfl) ?_ _
          all_goals
            rw [show IntKind.u32.wrap ((xi : Int) + (hi' : Int)) = (((xi + hi') % 4294967296 : Nat) : Int) by rw [IntKind.wrap_u32']; omega]
            go_wp2
            go_roundg (8 - i)
            case measure => omega
            case rel =>
              refine ⟨i + 1, by go_num, by omega, by omega, ?_⟩
              have h2 := HR.out.2.2.2.1.set i (.int .u32 (((xi + hi') % 4294967296 : Nat) : Int))
              rw [u32s_set, HSET.out] at h2
              exact HR.out.take (grown_drew (s_grown_set wr _ i _)) (arr_drew h2)
        · have e : i = 8 := by omega
          subst e
          rw [addTo_full _ _ XL.out] at hR
          have HX2 := hide hR.2.2.2.1
          have HR6 := hide hR.2.2.1
          have HBL := hide hR.2.2.2.2.2.2
          have bl : (addW xx hs).length = 8 := by simp [addW]
          have HI8 : Hid ((Tryd.prog.info? 121).map (·.size) = some (u32s (addW xx hs)).toArray.size) := by show _ = _; rw [info26]; simp [u32s, bl]
          have HO8 : Hid ((u32s (List.replicate 8 0)).toArray.size = (u32s (addW xx hs)).toArray.size) := by show _ = _; simp [u32s, bl]
          clear hR HR bl
          go_wp2_with (first
            | (refine wpList_load_row rfl 121 _ rfl (w.heap.size + 1 + 1 + 1) rfl 121 _ (0, 0) _ HX2.out Tryd.underlying121 rfl HI8.out ?_)
            | (refine wpList_store_row rfl 121 _ _ rfl (w.heap.size + 1 + 1) _ rfl rfl 121 _ HR6.out HI8.out HO8.out (one_u32s _) ?_))
          exact bodyPost_ret (v := .agg (u32s (addW xx hs)).toArray) (results_cell_row Tryd.results66 _ _ (w.heap.size + 1 + 1) 121 _ (0, 0) _ rfl (HR6.out.row _) Tryd.underlying121 rfl HI8.out) rfl ⟨by rw [HXX.out], below_setRow HBL.out (by omega) HR6.out.lt _⟩

theorem s_block_any (hs b : List Nat) (w : World) (hl : hs.length = 8) (hw : Words hs) (bl : b.length = 64) (hb : ∀ x ∈ b, x < 256) (hL : Laid w) :
    Calls Tryd.prog 66 #[.agg (u32s hs).toArray, .agg (u8s b).toArray] w fun e w' => e = .returned (.agg (u32s (blockF hs b)).toArray) ∧ Below w.heap.size w w' :=
  s_block_of hs b (spreadF b) (turnsF hs b) w hl hw bl hL (spread_length b) (fun i => spread_lt hb i) (fun w => s_spread_any b w bl hb) rfl (fun i => turnsF_length hl i) (fun i => turnsF_words hw i) (fun _ => rfl)

end Go.Proofs.YtbmjlofehbbkbaaDoor
