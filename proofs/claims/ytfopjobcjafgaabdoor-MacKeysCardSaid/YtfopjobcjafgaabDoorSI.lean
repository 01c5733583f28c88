/-
  A walk: the program's spread: the 64 words of a block.
-/
import Derived.Test.YtfopjobcjafgaabDoorSF
import Derived.Test.YtfopjobcjafgaabDoorSG
namespace Go.Proofs.YtfopjobcjafgaabDoor
open Go.RowKit

def u8s (l : List Nat) : List Value := l.map fun d => Value.int .u8 ((d : Nat) : Int)
theorem u8s_length (l : List Nat) : (u8s l).length = l.length := by simp [u8s]
theorem u8s_at {l : List Nat} {i : Nat} (h : i < l.length) : (u8s l)[i]? = some (.int .u8 ((l.getD i 0 : Nat) : Int)) := by simp [u8s, List.getD, h]
theorem u8s_set (l : List Nat) (i x : Nat) : (u8s l).set i (.int .u8 ((x : Nat) : Int)) = u8s (l.set i x) := by simp [u8s, List.map_set]

/-- what lies in memory while a block is spread -/
def SPB (w wr : World) (b wl : List Nat) : Prop :=
  Arr wr w.heap.size 39 (u8s b) ∧ Arr wr (w.heap.size + 1) 58 (u32s (List.replicate 64 0)) ∧ Arr wr (w.heap.size + 1 + 1) 58 (u32s wl) ∧ Below w.heap.size w wr

theorem SPB.set {w wr : World} {b wl : List Nat} (r : SPB w wr b wl) (i x : Nat) : SPB w (wr.setCell ⟨w.heap.size + 1 + 1, i, none⟩ (.int .u32 ((x : Nat) : Int))) b (wl.set i x) := by
  obtain ⟨h0, h1, h3, h5⟩ := r
  refine ⟨h0.other _ _ (show w.heap.size ≠ w.heap.size + 1 + 1 by omega), h1.other _ _ (show w.heap.size + 1 ≠ w.heap.size + 1 + 1 by omega), ?_, h5.setCell (show w.heap.size ≤ w.heap.size + 1 + 1 by omega) _⟩
  have := h3.set i (.int .u32 ((x : Nat) : Int))
  rw [u32s_set] at this
  exact this
theorem SPB.drew {w wr : World} {b wl : List Nat} (r : SPB w wr b wl) : SPB w wr.drew b wl := ⟨r.1, r.2.1, r.2.2.1, r.2.2.2.drew⟩

theorem SPB.drewN {w wr : World} {b wl : List Nat} (r : SPB w wr b wl) (n : Nat) : SPB w (wr.drewN n) b wl := ⟨r.1, r.2.1, r.2.2.1, below_drewN r.2.2.2 n⟩

theorem part_get' (T : List Nat) (n i j : Nat) (h : T.length = n) (hj : j < i) (hi : i ≤ n) : (part T n i).getD j 0 = T.getD j 0 := by
  simp [part, List.getD, List.getElem?_append, h, show j < min i n by omega, show j < n by omega]

theorem or4 (y0 y1 y2 y3 : Nat) (h0 : y0 < 256) (h1 : y1 < 256) (h2 : y2 < 256) (h3 : y3 < 256) :
    bits .or .u32 (bits .or .u32 (bits .or .u32 (IntKind.u32.wrap (IntKind.u32.wrap (y0 : Int) * 16777216)) (IntKind.u32.wrap (IntKind.u32.wrap (y1 : Int) * 65536))) (IntKind.u32.wrap (IntKind.u32.wrap (y2 : Int) * 256))) (IntKind.u32.wrap (y3 : Int)) = ((y0 * 16777216 + y1 * 65536 + y2 * 256 + y3 : Nat) : Int) := by
  have e0 : IntKind.u32.wrap (IntKind.u32.wrap (y0 : Int) * 16777216) = ((y0 * 16777216 : Nat) : Int) := by simp only [IntKind.wrap_u32']; omega
  have e1 : IntKind.u32.wrap (IntKind.u32.wrap (y1 : Int) * 65536) = ((y1 * 65536 : Nat) : Int) := by simp only [IntKind.wrap_u32']; omega
  have e2 : IntKind.u32.wrap (IntKind.u32.wrap (y2 : Int) * 256) = ((y2 * 256 : Nat) : Int) := by simp only [IntKind.wrap_u32']; omega
  have e3 : IntKind.u32.wrap (y3 : Int) = ((y3 : Nat) : Int) := by simp only [IntKind.wrap_u32']; omega
  rw [e0, e1, e2, e3, u32_or_nat _ _ (by omega) (by omega), nat_join 24 (y0 * 16777216) (y1 * 65536) (by omega) (by omega), u32_or_nat _ _ (by omega) (by omega), nat_join 16 (y0 * 16777216 + y1 * 65536) (y2 * 256) (by omega) (by omega),
    u32_or_nat _ _ (by omega) (by omega), nat_join 8 (y0 * 16777216 + y1 * 65536 + y2 * 256) y3 (by omega) (by omega)]

set_option maxHeartbeats 8000000 in
set_option maxRecDepth 100000 in
theorem spread_of (b T : List Nat) (w : World) (bl : b.length = 64) (hb : ∀ x ∈ b, x < 256) (hTL : T.length = 64) (hTLT : ∀ i, T.getD i 0 < 4294967296) (hTAT : ∀ i, i < 64 → T.getD i 0 = nextW b T i) :
    Calls Tryd.prog 34 #[.agg (u8s b).toArray] w fun e w' => e = .returned (.agg (u32s T).toArray) ∧ Below w.heap.size w w' := by
  have BL := hide bl
  have HBY := hide hb
  have TL := hide hTL
  have TLT := hide hTLT
  have TAT := hide hTAT
  clear bl hb hTL hTLT hTAT
  go_enter Tryd.func34, Tryd.ntmps34
  go_wp2
  go_loopg [7] 17 (fun f s7 wr => ∃ (i : Nat), s7 = .int .i64 i ∧ i ≤ 16 ∧ 16 - i < f ∧ SPB w wr b (part T 64 i))
  case atStart =>
    refine ⟨0, rfl, by omega, by omega, ?_, ?_, ?_, ?_⟩
    · exact ((Arr.new w 39 (u8s b)).alloc _).alloc _
    · exact ((Arr.newAt (w.alloc _) 58 (u32s (List.replicate 64 0)) _ (by simp))).alloc _
    · exact (Arr.newAt ((w.alloc _).alloc _) 58 (u32s (List.replicate 64 0)) _ (by simp))
    · exact (((((Below.refl _ _).alloc (Nat.le_refl _) _).alloc (by simp) _).alloc (by simp; omega) _))
  case round =>
    obtain ⟨i, rfl, hi, hf, hR⟩ := hrel
    have HR := hide hR
    by_cases hlt : i < 16
    · obtain ⟨r0, h0⟩ : ∃ r, r = 4 * i := ⟨_, rfl⟩
      obtain ⟨r1, h1⟩ : ∃ r, r = 4 * i + 1 := ⟨_, rfl⟩
      obtain ⟨r2, h2⟩ : ∃ r, r = 4 * i + 2 := ⟨_, rfl⟩
      obtain ⟨r3, h3⟩ : ∃ r, r = 4 * i + 3 := ⟨_, rfl⟩
      have HW4 : Hid (T.getD i 0 = b.getD r0 0 * 16777216 + b.getD r1 0 * 65536 + b.getD r2 0 * 256 + b.getD r3 0) := by
        show _ = _
        rw [TAT.out i (by omega), nextW, if_pos hlt, w4, h0, h1, h2, h3]
      have HC0 : Hid (∀ v : World, Hid (Arr v w.heap.size 39 (u8s b)) → v.cell? ⟨w.heap.size, r0, none⟩ = some (.int .u8 ((b.getD r0 0 : Nat) : Int))) := fun v hv => (hv.out.cell r0).trans (u8s_at (by rw [BL.out]; omega))
      have HC1 : Hid (∀ v : World, Hid (Arr v w.heap.size 39 (u8s b)) → v.cell? ⟨w.heap.size, r1, none⟩ = some (.int .u8 ((b.getD r1 0 : Nat) : Int))) := fun v hv => (hv.out.cell r1).trans (u8s_at (by rw [BL.out]; omega))
      have HC2 : Hid (∀ v : World, Hid (Arr v w.heap.size 39 (u8s b)) → v.cell? ⟨w.heap.size, r2, none⟩ = some (.int .u8 ((b.getD r2 0 : Nat) : Int))) := fun v hv => (hv.out.cell r2).trans (u8s_at (by rw [BL.out]; omega))
      have HC3 : Hid (∀ v : World, Hid (Arr v w.heap.size 39 (u8s b)) → v.cell? ⟨w.heap.size, r3, none⟩ = some (.int .u8 ((b.getD r3 0 : Nat) : Int))) := fun v hv => (hv.out.cell r3).trans (u8s_at (by rw [BL.out]; omega))
      have b0 := byte_getD HBY.out r0
      have b1 := byte_getD HBY.out r1
      have b2 := byte_getD HBY.out r2
      have b3 := byte_getD HBY.out r3
      have q0 : IntKind.i64.wrap (4 * (i : Int)) = (r0 : Int) := by simp [IntKind.wrap, IntKind.bits, IntKind.signed]; omega
      have q1 : IntKind.i64.wrap ((r0 : Int) + 1) = (r1 : Int) := by simp [IntKind.wrap, IntKind.bits, IntKind.signed]; omega
      have q2 : IntKind.i64.wrap ((r0 : Int) + 2) = (r2 : Int) := by simp [IntKind.wrap, IntKind.bits, IntKind.signed]; omega
      have q3 : IntKind.i64.wrap ((r0 : Int) + 3) = (r3 : Int) := by simp [IntKind.wrap, IntKind.bits, IntKind.signed]; omega
      have p0 : (r0 : Int) < 64 := by omega
      have p1 : (r1 : Int) < 64 := by omega
      have p2 : (r2 : Int) < 64 := by omega
      have p3 : (r3 : Int) < 64 := by omega
      have pi64 : (i : Int) < 64 := by omega
      have cw := (hR.2.2.1.cell i).trans (u32s_at (by rw [part_length _ _ _ TL.out (by omega)]; omega))
      have fw := hR.2.2.1.frozen i
      clear hR h0 h1 h2 h3
      generalize b.getD r0 0 = y0 at *
      generalize b.getD r1 0 = y1 at *
      generalize b.getD r2 0 = y2 at *
      generalize b.getD r3 0 = y3 at *
      generalize (part T 64 i).getD i 0 = old at *
      go_wp2_with fail
      refine wp_region_held_drew (S := fun w' => Hid (Arr w' w.heap.size 39 (u8s b))) (by kernel_rfl) (hide HR.out.1) (fun hHeld => ?_)
      refine take_dstH (i := 0) (d := 10) (v := ?_) rfl rfl (by kernel_rfl) (by kernel_rfl) (by kernel_rfl) (fun _ _ _ h => h) (by rfl) hHeld ?_ ?_
      rotate_left
      · intro wZ hSw; clear hSw; go_simp; first | (with_reducible rfl) | (rw [if_pos (by omega)]; with_reducible rfl) | skip
      try simp only [Act.put, List.setIfInBounds_toArray, List.set_cons_zero, List.set_cons_succ]
      refine take_dstH (i := 1) (d := 11) (v := ?_) rfl rfl (by kernel_rfl) (by kernel_rfl) (by kernel_rfl) (fun _ _ _ h => h) (by rfl) hHeld ?_ ?_
      rotate_left
      · intro wZ hSw; clear hSw; go_simp; first | (with_reducible rfl) | (rw [if_pos (by omega)]; with_reducible rfl) | skip
      try simp only [Act.put, List.setIfInBounds_toArray, List.set_cons_zero, List.set_cons_succ]
      refine take_dstH (i := 2) (d := 12) (v := ?_) rfl rfl (by kernel_rfl) (by kernel_rfl) (by kernel_rfl) (fun _ _ _ h => h) (by rfl) hHeld ?_ ?_
      rotate_left
      · intro wZ hSw; clear hSw; go_simp; first | (with_reducible rfl) | (rw [if_pos (by omega)]; with_reducible rfl) | skip
      try simp only [Act.put, List.setIfInBounds_toArray, List.set_cons_zero, List.set_cons_succ]
      refine take_dstH (i := 3) (d := 13) (v := ?_) rfl rfl (by kernel_rfl) (by kernel_rfl) (by kernel_rfl) (fun _ _ _ h => h) (by rfl) hHeld ?_ ?_
      rotate_left
      · intro wZ hSw; clear hSw; go_simp; first | (with_reducible rfl) | (rw [if_pos (by omega)]; with_reducible rfl) | skip
      try simp only [Act.put, List.setIfInBounds_toArray, List.set_cons_zero, List.set_cons_succ]
      refine take_dstH (i := 4) (d := 14) (v := ?_) rfl rfl (by kernel_rfl) (by kernel_rfl) (by kernel_rfl) (fun _ _ _ h => h) (by rfl) hHeld ?_ ?_
      rotate_left
      · intro wZ hSw; have hfS := HC0.out wZ hSw; clear hSw; go_simp; first | (with_reducible rfl) | (rw [if_pos (by omega)]; with_reducible rfl) | skip
      try simp only [Act.put, List.setIfInBounds_toArray, List.set_cons_zero, List.set_cons_succ]
      refine take_dstH (i := 5) (d := 15) (v := ?_) rfl rfl (by kernel_rfl) (by kernel_rfl) (by kernel_rfl) (fun _ _ _ h => h) (by rfl) hHeld ?_ ?_
      rotate_left
      · intro wZ hSw; clear hSw; go_simp; first | (with_reducible rfl) | (rw [if_pos (by omega)]; with_reducible rfl) | skip
      try simp only [Act.put, List.setIfInBounds_toArray, List.set_cons_zero, List.set_cons_succ]
      refine take_dstH (i := 6) (d := 16) (v := ?_) rfl rfl (by kernel_rfl) (by kernel_rfl) (by kernel_rfl) (fun _ _ _ h => h) (by rfl) hHeld ?_ ?_
      rotate_left
      · intro wZ hSw; clear hSw; go_simp; first | (with_reducible rfl) | (rw [if_pos (by omega)]; with_reducible rfl) | skip
      try simp only [Act.put, List.setIfInBounds_toArray, List.set_cons_zero, List.set_cons_succ]
      refine take_dstH (i := 7) (d := 17) (v := ?_) rfl rfl (by kernel_rfl) (by kernel_rfl) (by kernel_rfl) (fun _ _ _ h => h) (by rfl) hHeld ?_ ?_
      rotate_left
      · intro wZ hSw; clear hSw; go_simp; first | (with_reducible rfl) | (rw [if_pos (by omega)]; with_reducible rfl) | skip
      try simp only [Act.put, List.setIfInBounds_toArray, List.set_cons_zero, List.set_cons_succ]
      refine take_dstH (i := 8) (d := 18) (v := ?_) rfl rfl (by kernel_rfl) (by kernel_rfl) (by kernel_rfl) (fun _ _ _ h => h) (by rfl) hHeld ?_ ?_
      rotate_left
      · intro wZ hSw; clear hSw; go_simp; first | (with_reducible rfl) | (rw [if_pos (by omega)]; with_reducible rfl) | skip
      try simp only [Act.put, List.setIfInBounds_toArray, List.set_cons_zero, List.set_cons_succ]
      refine take_dstH (i := 9) (d := 19) (v := ?_) rfl rfl (by kernel_rfl) (by kernel_rfl) (by kernel_rfl) (fun _ _ _ h => h) (by rfl) hHeld ?_ ?_
      rotate_left
      · intro wZ hSw; clear hSw; go_simp; first | (with_reducible rfl) | (rw [if_pos (by omega)]; with_reducible rfl) | skip
      try simp only [Act.put, List.setIfInBounds_toArray, List.set_cons_zero, List.set_cons_succ]
      refine take_dstH (i := 10) (d := 20) (v := ?_) rfl rfl (by kernel_rfl) (by kernel_rfl) (by kernel_rfl) (fun _ _ _ h => h) (by rfl) hHeld ?_ ?_
      rotate_left
      · intro wZ hSw; clear hSw; go_simp; first | (with_reducible rfl) | (rw [if_pos (by omega)]; with_reducible rfl) | skip
      try simp only [Act.put, List.setIfInBounds_toArray, List.set_cons_zero, List.set_cons_succ]
      refine take_dstH (i := 11) (d := 21) (v := ?_) rfl rfl (by kernel_rfl) (by kernel_rfl) (by kernel_rfl) (fun _ _ _ h => h) (by rfl) hHeld ?_ ?_
      rotate_left
      · intro wZ hSw; have hfS := HC1.out wZ hSw; clear hSw; go_simp; first | (with_reducible rfl) | (rw [if_pos (by omega)]; with_reducible rfl) | skip
      try simp only [Act.put, List.setIfInBounds_toArray, List.set_cons_zero, List.set_cons_succ]
      refine take_dstH (i := 12) (d := 22) (v := ?_) rfl rfl (by kernel_rfl) (by kernel_rfl) (by kernel_rfl) (fun _ _ _ h => h) (by rfl) hHeld ?_ ?_
      rotate_left
      · intro wZ hSw; clear hSw; go_simp; first | (with_reducible rfl) | (rw [if_pos (by omega)]; with_reducible rfl) | skip
      try simp only [Act.put, List.setIfInBounds_toArray, List.set_cons_zero, List.set_cons_succ]
      refine take_dstH (i := 13) (d := 23) (v := ?_) rfl rfl (by kernel_rfl) (by kernel_rfl) (by kernel_rfl) (fun _ _ _ h => h) (by rfl) hHeld ?_ ?_
      rotate_left
      · intro wZ hSw; clear hSw; go_simp; first | (with_reducible rfl) | (rw [if_pos (by omega)]; with_reducible rfl) | skip
      try simp only [Act.put, List.setIfInBounds_toArray, List.set_cons_zero, List.set_cons_succ]
      refine take_dstH (i := 14) (d := 24) (v := ?_) rfl rfl (by kernel_rfl) (by kernel_rfl) (by kernel_rfl) (fun _ _ _ h => h) (by rfl) hHeld ?_ ?_
      rotate_left
      · intro wZ hSw; clear hSw; go_simp; first | (with_reducible rfl) | (rw [if_pos (by omega)]; with_reducible rfl) | skip
      try simp only [Act.put, List.setIfInBounds_toArray, List.set_cons_zero, List.set_cons_succ]
      refine take_dstH (i := 15) (d := 25) (v := ?_) rfl rfl (by kernel_rfl) (by kernel_rfl) (by kernel_rfl) (fun _ _ _ h => h) (by rfl) hHeld ?_ ?_
      rotate_left
      · intro wZ hSw; clear hSw; go_simp; first | (with_reducible rfl) | (rw [if_pos (by omega)]; with_reducible rfl) | skip
      try simp only [Act.put, List.setIfInBounds_toArray, List.set_cons_zero, List.set_cons_succ]
      refine take_dstH (i := 16) (d := 26) (v := ?_) rfl rfl (by kernel_rfl) (by kernel_rfl) (by kernel_rfl) (fun _ _ _ h => h) (by rfl) hHeld ?_ ?_
      rotate_left
      · intro wZ hSw; clear hSw; go_simp; first | (with_reducible rfl) | (rw [if_pos (by omega)]; with_reducible rfl) | skip
      try simp only [Act.put, List.setIfInBounds_toArray, List.set_cons_zero, List.set_cons_succ]
      refine take_dstH (i := 17) (d := 27) (v := ?_) rfl rfl (by kernel_rfl) (by kernel_rfl) (by kernel_rfl) (fun _ _ _ h => h) (by rfl) hHeld ?_ ?_
      rotate_left
      · intro wZ hSw; clear hSw; go_simp; first | (with_reducible rfl) | (rw [if_pos (by omega)]; with_reducible rfl) | skip
      try simp only [Act.put, List.setIfInBounds_toArray, List.set_cons_zero, List.set_cons_succ]
      refine take_dstH (i := 18) (d := 28) (v := ?_) rfl rfl (by kernel_rfl) (by kernel_rfl) (by kernel_rfl) (fun _ _ _ h => h) (by rfl) hHeld ?_ ?_
      rotate_left
      · intro wZ hSw; clear hSw; go_simp; first | (with_reducible rfl) | (rw [if_pos (by omega)]; with_reducible rfl) | skip
      try simp only [Act.put, List.setIfInBounds_toArray, List.set_cons_zero, List.set_cons_succ]
      refine take_dstH (i := 19) (d := 29) (v := ?_) rfl rfl (by kernel_rfl) (by kernel_rfl) (by kernel_rfl) (fun _ _ _ h => h) (by rfl) hHeld ?_ ?_
      rotate_left
      · intro wZ hSw; have hfS := HC2.out wZ hSw; clear hSw; go_simp; first | (with_reducible rfl) | (rw [if_pos (by omega)]; with_reducible rfl) | skip
      try simp only [Act.put, List.setIfInBounds_toArray, List.set_cons_zero, List.set_cons_succ]
      refine take_dstH (i := 20) (d := 30) (v := ?_) rfl rfl (by kernel_rfl) (by kernel_rfl) (by kernel_rfl) (fun _ _ _ h => h) (by rfl) hHeld ?_ ?_
      rotate_left
      · intro wZ hSw; clear hSw; go_simp; first | (with_reducible rfl) | (rw [if_pos (by omega)]; with_reducible rfl) | skip
      try simp only [Act.put, List.setIfInBounds_toArray, List.set_cons_zero, List.set_cons_succ]
      refine take_dstH (i := 21) (d := 31) (v := ?_) rfl rfl (by kernel_rfl) (by kernel_rfl) (by kernel_rfl) (fun _ _ _ h => h) (by rfl) hHeld ?_ ?_
      rotate_left
      · intro wZ hSw; clear hSw; go_simp; first | (with_reducible rfl) | (rw [if_pos (by omega)]; with_reducible rfl) | skip
      try simp only [Act.put, List.setIfInBounds_toArray, List.set_cons_zero, List.set_cons_succ]
      refine take_dstH (i := 22) (d := 32) (v := ?_) rfl rfl (by kernel_rfl) (by kernel_rfl) (by kernel_rfl) (fun _ _ _ h => h) (by rfl) hHeld ?_ ?_
      rotate_left
      · intro wZ hSw; clear hSw; go_simp; first | (with_reducible rfl) | (rw [if_pos (by omega)]; with_reducible rfl) | skip
      try simp only [Act.put, List.setIfInBounds_toArray, List.set_cons_zero, List.set_cons_succ]
      refine take_dstH (i := 23) (d := 33) (v := ?_) rfl rfl (by kernel_rfl) (by kernel_rfl) (by kernel_rfl) (fun _ _ _ h => h) (by rfl) hHeld ?_ ?_
      rotate_left
      · intro wZ hSw; clear hSw; go_simp; first | (with_reducible rfl) | (rw [if_pos (by omega)]; with_reducible rfl) | skip
      try simp only [Act.put, List.setIfInBounds_toArray, List.set_cons_zero, List.set_cons_succ]
      refine take_dstH (i := 24) (d := 34) (v := ?_) rfl rfl (by kernel_rfl) (by kernel_rfl) (by kernel_rfl) (fun _ _ _ h => h) (by rfl) hHeld ?_ ?_
      rotate_left
      · intro wZ hSw; clear hSw; go_simp; first | (with_reducible rfl) | (rw [if_pos (by omega)]; with_reducible rfl) | skip
      try simp only [Act.put, List.setIfInBounds_toArray, List.set_cons_zero, List.set_cons_succ]
      refine take_dstH (i := 25) (d := 35) (v := ?_) rfl rfl (by kernel_rfl) (by kernel_rfl) (by kernel_rfl) (fun _ _ _ h => h) (by rfl) hHeld ?_ ?_
      rotate_left
      · intro wZ hSw; clear hSw; go_simp; first | (with_reducible rfl) | (rw [if_pos (by omega)]; with_reducible rfl) | skip
      try simp only [Act.put, List.setIfInBounds_toArray, List.set_cons_zero, List.set_cons_succ]
      refine take_dstH (i := 26) (d := 36) (v := ?_) rfl rfl (by kernel_rfl) (by kernel_rfl) (by kernel_rfl) (fun _ _ _ h => h) (by rfl) hHeld ?_ ?_
      rotate_left
      · intro wZ hSw; clear hSw; go_simp; first | (with_reducible rfl) | (rw [if_pos (by omega)]; with_reducible rfl) | skip
      try simp only [Act.put, List.setIfInBounds_toArray, List.set_cons_zero, List.set_cons_succ]
      refine take_dstH (i := 27) (d := 37) (v := ?_) rfl rfl (by kernel_rfl) (by kernel_rfl) (by kernel_rfl) (fun _ _ _ h => h) (by rfl) hHeld ?_ ?_
      rotate_left
      · intro wZ hSw; have hfS := HC3.out wZ hSw; clear hSw; go_simp; first | (with_reducible rfl) | (rw [if_pos (by omega)]; with_reducible rfl) | skip
      try simp only [Act.put, List.setIfInBounds_toArray, List.set_cons_zero, List.set_cons_succ]
      refine take_dstH (i := 28) (d := 38) (v := ?_) rfl rfl (by kernel_rfl) (by kernel_rfl) (by kernel_rfl) (fun _ _ _ h => h) (by rfl) hHeld ?_ ?_
      rotate_left
      · intro wZ hSw; clear hSw; go_simp; first | (with_reducible rfl) | (rw [if_pos (by omega)]; with_reducible rfl) | skip
      try simp only [Act.put, List.setIfInBounds_toArray, List.set_cons_zero, List.set_cons_succ]
      refine take_dstH (i := 29) (d := 39) (v := ?_) rfl rfl (by kernel_rfl) (by kernel_rfl) (by kernel_rfl) (fun _ _ _ h => h) (by rfl) hHeld ?_ ?_
      rotate_left
      · intro wZ hSw; clear hSw; go_simp; first | (with_reducible rfl) | (rw [if_pos (by omega)]; with_reducible rfl) | skip
      try simp only [Act.put, List.setIfInBounds_toArray, List.set_cons_zero, List.set_cons_succ]
      refine take_dstH (i := 30) (d := 40) (v := ?_) rfl rfl (by kernel_rfl) (by kernel_rfl) (by kernel_rfl) (fun _ _ _ h => h) (by rfl) hHeld ?_ ?_
      rotate_left
      · intro wZ hSw; clear hSw; go_simp; first | (with_reducible rfl) | (rw [if_pos (by omega)]; with_reducible rfl) | skip
      try simp only [Act.put, List.setIfInBounds_toArray, List.set_cons_zero, List.set_cons_succ]
      refine wpAnyH_ready (rs := [31]) (by kernel_rfl) (by simp) ?_
      refine (AllReadyH.cons rfl (fun K hK => ?_) AllReadyH.nil)
      go_simp
      refine hK.out _ _ ?_ (fun hHeld => ?_)
      · exact hide (SPB.set HR.out.drew i _).1
      clear hK K
      try simp only [Act.put, List.setIfInBounds_toArray, List.set_cons_zero, List.set_cons_succ]
      refine wpAnyH_done (by kernel_rfl) ?_ _
      rw [or4 y0 y1 y2 y3 b0 b1 b2 b3, ← HW4.out]
      clear hHeld
      go_wp2
      go_roundg (16 - i)
      case measure => omega
      case rel =>
        refine ⟨i + 1, by go_num, by omega, by omega, ?_⟩
        have := (SPB.set HR.out i (T.getD i 0)).drew
        rw [part_set _ _ _ TL.out (by omega)] at this
        exact this
    · have e : i = 16 := by omega
      subst e
      clear hR
      go_wp2
      go_loopg [6] 49 (fun f s6 wr => ∃ (i : Nat), s6 = .int .i64 i ∧ 16 ≤ i ∧ i ≤ 64 ∧ 64 - i < f ∧ SPB w wr b (part T 64 i))
      case atStart => exact ⟨16, rfl, by omega, by omega, by omega, HR.out⟩
      case round =>
        clear HR
        obtain ⟨i, rfl, hi16, hi, hf, hR⟩ := hrel
        have HR := hide hR
        by_cases hlt2 : i < 64
        · obtain ⟨r16, h16'⟩ : ∃ r, r = i - 16 := ⟨_, rfl⟩
          obtain ⟨r15, h15⟩ : ∃ r, r = i - 15 := ⟨_, rfl⟩
          obtain ⟨r7, h7⟩ : ∃ r, r = i - 7 := ⟨_, rfl⟩
          obtain ⟨r2, h2⟩ : ∃ r, r = i - 2 := ⟨_, rfl⟩
          have HNX : Hid (T.getD i 0 = (T.getD r16 0 + rot2 (T.getD r15 0) 7 18 3 + T.getD r7 0 + rot2 (T.getD r2 0) 17 19 10) % 4294967296) := by
            show _ = _
            rw [TAT.out i hlt2, nextW, if_neg (by omega), h16', h15, h7, h2]
          have cl : ∀ j, j < i → wr.cell? ⟨w.heap.size + 1 + 1, j, none⟩ = some (.int .u32 ((T.getD j 0 : Nat) : Int)) := fun j hj => by
            have := (hR.2.2.1.cell j).trans (u32s_at (by rw [part_length _ _ _ TL.out (by omega)]; omega))
            rw [part_get' _ _ _ _ TL.out hj (by omega)] at this
            exact this
          have CL : Hid (∀ j, j < i → wr.cell? ⟨w.heap.size + 1 + 1, j, none⟩ = some (.int .u32 ((T.getD j 0 : Nat) : Int))) := cl
          have CS : Hid (∀ (v : World), Hid (∀ j, j < i → v.cell? ⟨w.heap.size + 1 + 1, j, none⟩ = some (.int .u32 ((T.getD j 0 : Nat) : Int))) → v.cell? ⟨w.heap.size + 1 + 1, r16, none⟩ = some (.int .u32 ((T.getD r16 0 : Nat) : Int)) ∧ v.cell? ⟨w.heap.size + 1 + 1, r15, none⟩ = some (.int .u32 ((T.getD r15 0 : Nat) : Int)) ∧ v.cell? ⟨w.heap.size + 1 + 1, r7, none⟩ = some (.int .u32 ((T.getD r7 0 : Nat) : Int)) ∧ v.cell? ⟨w.heap.size + 1 + 1, r2, none⟩ = some (.int .u32 ((T.getD r2 0 : Nat) : Int))) :=
            fun v hv => ⟨hv.out r16 (by omega), hv.out r15 (by omega), hv.out r7 (by omega), hv.out r2 (by omega)⟩
          have cw := (hR.2.2.1.cell i).trans (u32s_at (by rw [part_length _ _ _ TL.out (by omega)]; omega))
          have fw := hR.2.2.1.frozen i
          have l15 := TLT.out r15
          have l2 := TLT.out r2
          have l16 := TLT.out r16
          have l7 := TLT.out r7
          have q16 : IntKind.i64.wrap ((i : Int) - 16) = (r16 : Int) := by simp [IntKind.wrap, IntKind.bits, IntKind.signed]; omega
          have q15 : IntKind.i64.wrap ((i : Int) - 15) = (r15 : Int) := by simp [IntKind.wrap, IntKind.bits, IntKind.signed]; omega
          have q7 : IntKind.i64.wrap ((i : Int) - 7) = (r7 : Int) := by simp [IntKind.wrap, IntKind.bits, IntKind.signed]; omega
          have q2 : IntKind.i64.wrap ((i : Int) - 2) = (r2 : Int) := by simp [IntKind.wrap, IntKind.bits, IntKind.signed]; omega
          have p15 : (r15 : Int) < 64 := by omega
          have p2 : (r2 : Int) < 64 := by omega
          have p16 : (r16 : Int) < 64 := by omega
          have p7 : (r7 : Int) < 64 := by omega
          have pi64 : (i : Int) < 64 := by omega
          clear cl hR h16' h15 h7 h2
          generalize hy15 : T.getD r15 0 = y15 at *
          generalize hy2 : T.getD r2 0 = y2 at *
          generalize hy16 : T.getD r16 0 = y16 at *
          generalize hy7 : T.getD r7 0 = y7 at *
          generalize (part T 64 i).getD i 0 = old at *
          clear hy15 hy2 hy16 hy7
          have C1 : Hid (∀ w : World, Calls Tryd.prog 39 #[.int .u32 y15, .int .i64 7, .int .i64 18, .int .i64 3] w fun e w' => e = .returned (.int .u32 ((rot2 y15 7 18 3 : Nat) : Int)) ∧ ∃ n, w' = w.drewN n) := fun w => moved_any y15 7 18 3 l15 (by omega) (by omega) (by omega) w
          have C2 : Hid (∀ w : World, Calls Tryd.prog 39 #[.int .u32 y2, .int .i64 17, .int .i64 19, .int .i64 10] w fun e w' => e = .returned (.int .u32 ((rot2 y2 17 19 10 : Nat) : Int)) ∧ ∃ n, w' = w.drewN n) := fun w => moved_any y2 17 19 10 l2 (by omega) (by omega) (by omega) w
          have ls := rot2_lt l15 7 18 3
          have lt := rot2_lt l2 17 19 10
          generalize rot2 y15 7 18 3 = sv at *
          generalize rot2 y2 17 19 10 = tv at *
          go_wp2_with fail
          refine wp_region_held_drew (S := fun w' => Hid (∀ j, j < i → w'.cell? ⟨w.heap.size + 1 + 1, j, none⟩ = some (.int .u32 ((T.getD j 0 : Nat) : Int)))) (by kernel_rfl) (CL) (fun hHeld => ?_)
          refine take_dstH (i := 0) (d := 46) (v := ?_) rfl rfl (by kernel_rfl) (by kernel_rfl) (by kernel_rfl) (fun _ _ _ h => h) (by rfl) hHeld ?_ ?_
          rotate_left
          · intro wZ hSw; clear hSw; go_simp; first | (with_reducible rfl) | (rw [if_pos (by omega)]; with_reducible rfl) | skip
          try simp only [Act.put, List.setIfInBounds_toArray, List.set_cons_zero, List.set_cons_succ]
          refine take_dstH (i := 1) (d := 47) (v := ?_) rfl rfl (by kernel_rfl) (by kernel_rfl) (by kernel_rfl) (fun _ _ _ h => h) (by rfl) hHeld ?_ ?_
          rotate_left
          · intro wZ hSw; clear hSw; go_simp; first | (with_reducible rfl) | (rw [if_pos (by omega)]; with_reducible rfl) | skip
          try simp only [Act.put, List.setIfInBounds_toArray, List.set_cons_zero, List.set_cons_succ]
          refine take_dstH (i := 2) (d := 48) (v := ?_) rfl rfl (by kernel_rfl) (by kernel_rfl) (by kernel_rfl) (fun _ _ _ h => h) (by rfl) hHeld ?_ ?_
          rotate_left
          · intro wZ hSw; clear hSw; go_simp; first | (with_reducible rfl) | (rw [if_pos (by omega)]; with_reducible rfl) | skip
          try simp only [Act.put, List.setIfInBounds_toArray, List.set_cons_zero, List.set_cons_succ]
          refine take_dstH (i := 3) (d := 49) (v := ?_) rfl rfl (by kernel_rfl) (by kernel_rfl) (by kernel_rfl) (fun _ _ _ h => h) (by rfl) hHeld ?_ ?_
          rotate_left
          · intro wZ hSw; clear hSw; go_simp; first | (with_reducible rfl) | (rw [if_pos (by omega)]; with_reducible rfl) | skip
          try simp only [Act.put, List.setIfInBounds_toArray, List.set_cons_zero, List.set_cons_succ]
          refine take_dstH (i := 4) (d := 50) (v := ?_) rfl rfl (by kernel_rfl) (by kernel_rfl) (by kernel_rfl) (fun _ _ _ h => h) (by rfl) hHeld ?_ ?_
          rotate_left
          · intro wZ hSw; have hfS := (fun v hv => (CS.out v hv).1) wZ hSw; clear hSw; go_simp; first | (with_reducible rfl) | (rw [if_pos (by omega)]; with_reducible rfl) | skip
          try simp only [Act.put, List.setIfInBounds_toArray, List.set_cons_zero, List.set_cons_succ]
          refine take_dstH (i := 5) (d := 51) (v := ?_) rfl rfl (by kernel_rfl) (by kernel_rfl) (by kernel_rfl) (fun _ _ _ h => h) (by rfl) hHeld ?_ ?_
          rotate_left
          · intro wZ hSw; clear hSw; go_simp; first | (with_reducible rfl) | (rw [if_pos (by omega)]; with_reducible rfl) | skip
          try simp only [Act.put, List.setIfInBounds_toArray, List.set_cons_zero, List.set_cons_succ]
          refine take_dstH (i := 6) (d := 52) (v := ?_) rfl rfl (by kernel_rfl) (by kernel_rfl) (by kernel_rfl) (fun _ _ _ h => h) (by rfl) hHeld ?_ ?_
          rotate_left
          · intro wZ hSw; clear hSw; go_simp; first | (with_reducible rfl) | (rw [if_pos (by omega)]; with_reducible rfl) | skip
          try simp only [Act.put, List.setIfInBounds_toArray, List.set_cons_zero, List.set_cons_succ]
          refine take_dstH (i := 7) (d := 53) (v := ?_) rfl rfl (by kernel_rfl) (by kernel_rfl) (by kernel_rfl) (fun _ _ _ h => h) (by rfl) hHeld ?_ ?_
          rotate_left
          · intro wZ hSw; clear hSw; go_simp; first | (with_reducible rfl) | (rw [if_pos (by omega)]; with_reducible rfl) | skip
          try simp only [Act.put, List.setIfInBounds_toArray, List.set_cons_zero, List.set_cons_succ]
          refine take_dstH (i := 8) (d := 54) (v := ?_) rfl rfl (by kernel_rfl) (by kernel_rfl) (by kernel_rfl) (fun _ _ _ h => h) (by rfl) hHeld ?_ ?_
          rotate_left
          · intro wZ hSw; clear hSw; go_simp; first | (with_reducible rfl) | (rw [if_pos (by omega)]; with_reducible rfl) | skip
          try simp only [Act.put, List.setIfInBounds_toArray, List.set_cons_zero, List.set_cons_succ]
          refine take_dstH (i := 9) (d := 55) (v := ?_) rfl rfl (by kernel_rfl) (by kernel_rfl) (by kernel_rfl) (fun _ _ _ h => h) (by rfl) hHeld ?_ ?_
          rotate_left
          · intro wZ hSw; have hfS := (fun v hv => (CS.out v hv).2.1) wZ hSw; clear hSw; go_simp; first | (with_reducible rfl) | (rw [if_pos (by omega)]; with_reducible rfl) | skip
          try simp only [Act.put, List.setIfInBounds_toArray, List.set_cons_zero, List.set_cons_succ]
          refine take_dstH (i := 12) (d := 58) (v := ?_) rfl rfl (by kernel_rfl) (by kernel_rfl) (by kernel_rfl) (fun _ _ _ h => h) (by rfl) hHeld ?_ ?_
          rotate_left
          · intro wZ hSw; clear hSw; go_simp; first | (with_reducible rfl) | (rw [if_pos (by omega)]; with_reducible rfl) | skip
          try simp only [Act.put, List.setIfInBounds_toArray, List.set_cons_zero, List.set_cons_succ]
          refine take_dstH (i := 13) (d := 59) (v := ?_) rfl rfl (by kernel_rfl) (by kernel_rfl) (by kernel_rfl) (fun _ _ _ h => h) (by rfl) hHeld ?_ ?_
          rotate_left
          · intro wZ hSw; clear hSw; go_simp; first | (with_reducible rfl) | (rw [if_pos (by omega)]; with_reducible rfl) | skip
          try simp only [Act.put, List.setIfInBounds_toArray, List.set_cons_zero, List.set_cons_succ]
          refine take_dstH (i := 14) (d := 60) (v := ?_) rfl rfl (by kernel_rfl) (by kernel_rfl) (by kernel_rfl) (fun _ _ _ h => h) (by rfl) hHeld ?_ ?_
          rotate_left
          · intro wZ hSw; clear hSw; go_simp; first | (with_reducible rfl) | (rw [if_pos (by omega)]; with_reducible rfl) | skip
          try simp only [Act.put, List.setIfInBounds_toArray, List.set_cons_zero, List.set_cons_succ]
          refine take_dstH (i := 15) (d := 61) (v := ?_) rfl rfl (by kernel_rfl) (by kernel_rfl) (by kernel_rfl) (fun _ _ _ h => h) (by rfl) hHeld ?_ ?_
          rotate_left
          · intro wZ hSw; have hfS := (fun v hv => (CS.out v hv).2.2.1) wZ hSw; clear hSw; go_simp; first | (with_reducible rfl) | (rw [if_pos (by omega)]; with_reducible rfl) | skip
          try simp only [Act.put, List.setIfInBounds_toArray, List.set_cons_zero, List.set_cons_succ]
          refine take_dstH (i := 17) (d := 63) (v := ?_) rfl rfl (by kernel_rfl) (by kernel_rfl) (by kernel_rfl) (fun _ _ _ h => h) (by rfl) hHeld ?_ ?_
          rotate_left
          · intro wZ hSw; clear hSw; go_simp; first | (with_reducible rfl) | (rw [if_pos (by omega)]; with_reducible rfl) | skip
          try simp only [Act.put, List.setIfInBounds_toArray, List.set_cons_zero, List.set_cons_succ]
          refine take_dstH (i := 18) (d := 64) (v := ?_) rfl rfl (by kernel_rfl) (by kernel_rfl) (by kernel_rfl) (fun _ _ _ h => h) (by rfl) hHeld ?_ ?_
          rotate_left
          · intro wZ hSw; clear hSw; go_simp; first | (with_reducible rfl) | (rw [if_pos (by omega)]; with_reducible rfl) | skip
          try simp only [Act.put, List.setIfInBounds_toArray, List.set_cons_zero, List.set_cons_succ]
          refine take_dstH (i := 19) (d := 65) (v := ?_) rfl rfl (by kernel_rfl) (by kernel_rfl) (by kernel_rfl) (fun _ _ _ h => h) (by rfl) hHeld ?_ ?_
          rotate_left
          · intro wZ hSw; clear hSw; go_simp; first | (with_reducible rfl) | (rw [if_pos (by omega)]; with_reducible rfl) | skip
          try simp only [Act.put, List.setIfInBounds_toArray, List.set_cons_zero, List.set_cons_succ]
          refine take_dstH (i := 20) (d := 66) (v := ?_) rfl rfl (by kernel_rfl) (by kernel_rfl) (by kernel_rfl) (fun _ _ _ h => h) (by rfl) hHeld ?_ ?_
          rotate_left
          · intro wZ hSw; clear hSw; go_simp; first | (with_reducible rfl) | (rw [if_pos (by omega)]; with_reducible rfl) | skip
          try simp only [Act.put, List.setIfInBounds_toArray, List.set_cons_zero, List.set_cons_succ]
          refine take_dstH (i := 21) (d := 67) (v := ?_) rfl rfl (by kernel_rfl) (by kernel_rfl) (by kernel_rfl) (fun _ _ _ h => h) (by rfl) hHeld ?_ ?_
          rotate_left
          · intro wZ hSw; have hfS := (fun v hv => (CS.out v hv).2.2.2) wZ hSw; clear hSw; go_simp; first | (with_reducible rfl) | (rw [if_pos (by omega)]; with_reducible rfl) | skip
          try simp only [Act.put, List.setIfInBounds_toArray, List.set_cons_zero, List.set_cons_succ]
          refine wpAnyH_ready (rs := [10]) (by kernel_rfl) (by simp) ?_
          refine (AllReadyH.cons rfl (fun K hK => ?_) AllReadyH.nil)
          go_simp
          refine (C1.out _).mono ?_; rintro e w1 ⟨rfl, n1, hw1⟩; subst hw1
          go_wp2_with fail
          refine hK.out _ _ ?_ (fun hHeld => ?_)
          · exact hHeld
          clear hK K
          try simp only [Act.put, List.setIfInBounds_toArray, List.set_cons_zero, List.set_cons_succ]
          refine take_dstH (i := 11) (d := 57) (v := ?_) rfl rfl (by kernel_rfl) (by kernel_rfl) (by kernel_rfl) (fun _ _ _ h => h) (by rfl) hHeld ?_ ?_
          rotate_left
          · intro wZ hSw; clear hSw; go_simp; first | (with_reducible rfl) | (rw [if_pos (by omega)]; with_reducible rfl) | skip
          try simp only [Act.put, List.setIfInBounds_toArray, List.set_cons_zero, List.set_cons_succ]
          refine take_dstH (i := 16) (d := 62) (v := ?_) rfl rfl (by kernel_rfl) (by kernel_rfl) (by kernel_rfl) (fun _ _ _ h => h) (by rfl) hHeld ?_ ?_
          rotate_left
          · intro wZ hSw; clear hSw; go_simp; first | (with_reducible rfl) | (rw [if_pos (by omega)]; with_reducible rfl) | skip
          try simp only [Act.put, List.setIfInBounds_toArray, List.set_cons_zero, List.set_cons_succ]
          refine wpAnyH_ready (rs := [22]) (by kernel_rfl) (by simp) ?_
          refine (AllReadyH.cons rfl (fun K hK => ?_) AllReadyH.nil)
          go_simp
          refine (C2.out _).mono ?_; rintro e w1 ⟨rfl, n2, hw1⟩; subst hw1
          go_wp2_with fail
          refine hK.out _ _ ?_ (fun hHeld => ?_)
          · exact hHeld
          clear hK K
          try simp only [Act.put, List.setIfInBounds_toArray, List.set_cons_zero, List.set_cons_succ]
          refine take_dstH (i := 23) (d := 69) (v := ?_) rfl rfl (by kernel_rfl) (by kernel_rfl) (by kernel_rfl) (fun _ _ _ h => h) (by rfl) hHeld ?_ ?_
          rotate_left
          · intro wZ hSw; clear hSw; go_simp; first | (with_reducible rfl) | (rw [if_pos (by omega)]; with_reducible rfl) | skip
          try simp only [Act.put, List.setIfInBounds_toArray, List.set_cons_zero, List.set_cons_succ]
          refine take_dstH (i := 24) (d := 70) (v := ?_) rfl rfl (by kernel_rfl) (by kernel_rfl) (by kernel_rfl) (fun _ _ _ h => h) (by rfl) hHeld ?_ ?_
          rotate_left
          · intro wZ hSw; clear hSw; go_simp; first | (with_reducible rfl) | (rw [if_pos (by omega)]; with_reducible rfl) | skip
          try simp only [Act.put, List.setIfInBounds_toArray, List.set_cons_zero, List.set_cons_succ]
          refine wpAnyH_ready (rs := [25]) (by kernel_rfl) (by simp) ?_
          refine (AllReadyH.cons rfl (fun K hK => ?_) AllReadyH.nil)
          go_simp
          refine hK.out _ _ ?_ (fun hHeld => ?_)
          · exact hide (fun j hj => (World.cell?_setCell_other _ _ _ _ (fun e => by have := congrArg Addr.off e; simp at this; omega)).trans (CL.out j hj))
          clear hK K
          try simp only [Act.put, List.setIfInBounds_toArray, List.set_cons_zero, List.set_cons_succ]
          refine wpAnyH_done (by kernel_rfl) ?_ _
          rw [show IntKind.u32.wrap (IntKind.u32.wrap (IntKind.u32.wrap ((y16 : Int) + (sv : Int)) + (y7 : Int)) + (tv : Int)) = ((T.getD i 0 : Nat) : Int) by rw [HNX.out]; simp only [IntKind.wrap_u32']; omega]
          clear hHeld
          go_wp2
          go_roundg (64 - i)
          case measure => omega
          case rel =>
            refine ⟨i + 1, by go_num, by omega, by omega, by omega, ?_⟩
            have := (SPB.set (HR.out.drewN (1 + n1 + n2)) i (T.getD i 0))
            rw [part_set _ _ _ TL.out hlt2] at this
            exact this
        · have e : i = 64 := by omega
          subst e
          rw [part_full _ _ TL.out] at hR
          have K2 := hide hR.2.2.1
          have K1 := hide hR.2.1
          have HB := hide hR.2.2.2
          have HI : Hid ((Tryd.prog.info? 58).map (·.size) = some (u32s T).toArray.size) := by show _ = _; rw [info31]; simp [u32s, TL.out]
          have HO : Hid ((u32s (List.replicate 64 0)).toArray.size = (u32s T).toArray.size) := by show _ = _; simp [u32s, TL.out]
          clear hR HR
          go_wp2_with (first
            | (refine wpList_load_row rfl 58 _ rfl (w.heap.size + 1 + 1) rfl 58 _ (0, 0) _ K2.out Tryd.underlying58 rfl HI.out ?_)
            | (refine wpList_store_row rfl 58 _ _ rfl (w.heap.size + 1) _ rfl rfl 58 _ K1.out HI.out HO.out (one_u32s _) ?_))
          exact bodyPost_ret (v := .agg (u32s T).toArray) (results_cell_row Tryd.results34 _ _ (w.heap.size + 1) 58 _ (0, 0) _ rfl (K1.out.row _) Tryd.underlying58 rfl HI.out) rfl ⟨rfl, below_setRow HB.out (by omega) K1.out.lt _⟩

theorem spread_any (b : List Nat) (w : World) (bl : b.length = 64) (hb : ∀ x ∈ b, x < 256) :
    Calls Tryd.prog 34 #[.agg (u8s b).toArray] w fun e w' => e = .returned (.agg (u32s (spreadF b)).toArray) ∧ Below w.heap.size w w' :=
  spread_of b (spreadF b) w bl hb (spread_length b) (fun i => spread_lt hb i) (fun i hi => spread_at b i hi)

end Go.Proofs.YtfopjobcjafgaabDoor
