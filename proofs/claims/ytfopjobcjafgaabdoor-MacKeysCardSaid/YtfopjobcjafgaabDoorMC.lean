/-
  Walks: begun: a hash that has a key's block, each byte turned.
-/
import Derived.Test.YtfopjobcjafgaabDoorMA
import Derived.Test.YtfopjobcjafgaabDoorHP
namespace Go.Proofs.YtfopjobcjafgaabDoor
open Go.RowKit

theorem info64 : (Tryd.prog.info? 39).map (·.size) = some 64 := by kernel_rfl

theorem run_all64 (w : World) (g : Nat) : (Instr.sliceAt 39 (.pointer (some ⟨g, 0, none⟩)) none none none).run Tryd.prog w = .ok (.slice (some ⟨g, 0, none⟩) 64 64) w := by
  have hl : Tryd.prog.arrayLen 39 = 64 := by simp [Program.arrayLen, Tryd.underlying39]
  have he : Tryd.prog.elem 39 = 5 := by simp [Program.elem, Tryd.underlying39]
  have ht : Tryd.prog.underlying 39 = some (.array (Tryd.prog.arrayLen 39) (Tryd.prog.elem 39)) := by rw [hl, he]; exact Tryd.underlying39
  rw [run_sliceAt_array_all w 39 ⟨g, 0, none⟩ ht, he, size5, hl]
  simp [Result.andThen, slicedAt, Addr.add_mid]

theorem run_all32 (w : World) (g : Nat) : (Instr.sliceAt 25 (.pointer (some ⟨g, 0, none⟩)) none none none).run Tryd.prog w = .ok (.slice (some ⟨g, 0, none⟩) 32 32) w := by
  have hl : Tryd.prog.arrayLen 25 = 32 := by simp [Program.arrayLen, Tryd.underlying25]
  have he : Tryd.prog.elem 25 = 5 := by simp [Program.elem, Tryd.underlying25]
  have ht : Tryd.prog.underlying 25 = some (.array (Tryd.prog.arrayLen 25) (Tryd.prog.elem 25)) := by rw [hl, he]; exact Tryd.underlying25
  rw [run_sliceAt_array_all w 25 ⟨g, 0, none⟩ ht, he, size5, hl]
  simp [Result.andThen, slicedAt, Addr.add_mid]

/-- an array of bytes, as bytes that are handed on -/
theorem bi_arr {w : World} {g : Nat} {t : TypeId} {l : List Nat} (h : Arr w g t (u8s l)) : BI w (some ⟨g, 0, none⟩) l :=
  Or.inr ⟨g, 0, rfl, fun i hi => by rw [Nat.zero_add]; exact (h.cell i).trans (u8s_at hi)⟩
theorem piece_arr {w : World} {g : Nat} {t : TypeId} {l : List Nat} {n : Nat} (h : Arr w g t (u8s l)) (hl : l.length = n) (hb : BytesN l) (hn : n ≤ 1000) : Piece w (some ⟨g, 0, none⟩) n l :=
  ⟨bi_arr h, (fun e => by cases e), hb, by omega, by unfold maxLen; omega⟩

set_option maxHeartbeats 4000000 in
set_option maxRecDepth 100000 in
theorem begun_any (b : List Nat) (x : Nat) (w : World) (hl : b.length = 64) (hb : BytesN b) (hx : x < 256) (hL : Laid w) :
    Calls Tryd.prog 15 #[.agg (u8s b).toArray, .int .u8 (x : Int)] w fun e w' => ∃ g, e = .returned (.pointer (some ⟨g, 0, none⟩)) ∧ w.heap.size ≤ g ∧ MadeH w' g (xorF b x) ∧ Below w.heap.size w w' := by
  have hL2 := hL.size
  have HL := hide hL
  have HB := hide hb
  have HXL : Hid (∀ i, i ≤ 64 → (xorTo b x i).length = 64) := fun i hi => by show _ = _; rw [xorTo_length _ _ _ (by omega), hl]
  have HXA : Hid (∀ i, i < 64 → (xorTo b x i).getD i 0 = b.getD i 0) := fun i hi => xorTo_at _ _ _ (by omega)
  have HXS : Hid (∀ i, i < 64 → (xorTo b x i).set i (b.getD i 0 ^^^ x) = xorTo b x (i + 1)) := fun i hi => xorTo_set _ _ _ (by omega)
  have HX0 := hide (xorTo_zero b x)
  have HXF := hide (xorTo_full b x)
  rw [hl] at HXF
  have HXB := hide (xorF_bytes hb hx)
  have HFL := hide (xorF_length b x)
  rw [hl] at HFL
  have HBL := hide hl
  clear hL hb hl
  generalize hxt : xorTo b x = XT at *
  generalize hxf : xorF b x = XF at *
  clear hxt hxf
  go_enter Tryd.func15, Tryd.ntmps15
  go_upto_region 1 with fail
  have A1 := hide (Arr.new w 39 (u8s b))
  have B1 : Hid (Below w.heap.size w (w.alloc (Obj.cells (u8s b).toArray 39))) := (Below.refl _ _).alloc (Nat.le_refl _) _
  generalize w.alloc (Obj.cells (u8s b).toArray 39) = w1 at *
  go_wp2
  go_loopg [7] 65 (fun f s7 wr => ∃ (i : Nat), s7 = .int .i64 i ∧ i ≤ 64 ∧ 64 - i < f ∧ Arr wr w.heap.size 39 (u8s (XT i)) ∧ Below w.heap.size w wr)
  case atStart => exact ⟨0, rfl, by omega, by omega, by rw [HX0.out]; exact A1.out, B1.out⟩
  case round =>
    clear A1 B1
    obtain ⟨i, rfl, hi, hf, hA, hB⟩ := hrel
    have HA := hide hA
    have HBW := hide hB
    clear hA hB
    by_cases hlt : i < 64
    · have hlt' : (i : Int) < 64 := by omega
      have c1 := (HA.out.cell i).trans (u8s_at (by rw [HXL.out i (by omega)]; exact hlt))
      rw [HXA.out i hlt] at c1
      have f1 := HA.out.frozen i
      have bx := u8_xor_nat (b.getD i 0) x (HB.out.getD i) hx
      have HST := hide (HA.out.set i (.int .u8 ((b.getD i 0 ^^^ x : Nat) : Int)))
      rw [u8s_set, HXS.out i hlt] at HST
      have hy := HB.out.getD i
      have hyx := xor_lt8 hy hx
      generalize b.getD i 0 = y at *
      generalize y ^^^ x = yx at *
      clear HA
      go_wp2
      go_roundg (64 - i)
      case measure => omega
      case rel => exact ⟨i + 1, by go_num, by omega, by omega, HST.out, HBW.out.setCell (Nat.le_refl _) _⟩
    · have e : i = 64 := by omega
      subst e
      have hA := HA.out
      rw [HXF.out] at hA
      have HA2 := hide hA
      clear hA HA
      have hsl := fun v => run_all64 v w.heap.size
      go_wp2_with fail
      refine (new_any wr (HL.out.keptB (B := w.heap.size) hL2 HBW.out)).mono ?_
      rintro e w2 ⟨rfl, hw2⟩
      have M2 := hide (show MadeH w2 wr.heap.size [] from by rw [hw2]; exact made_new)
      have A2 := hide (show Arr w2 w.heap.size 39 (u8s XF) from by rw [hw2]; exact HA2.out.alloc _)
      have B2 := hide (show Below w.heap.size w w2 from by rw [hw2]; exact HBW.out.alloc HBW.out.size _)
      have hgw : Hid (w.heap.size < wr.heap.size) := HA2.out.lt
      clear hw2 HA2 HBW
      generalize wr.heap.size = g at *
      have P2 := hide (piece_arr A2.out HFL.out HXB.out (by omega))
      have HW := hide (write_any g [] (some ⟨w.heap.size, 0, none⟩) 64 XF w2 M2.out P2.out.1 P2.out.2.1 (fun a ha _ => by cases ha; exact Nat.ne_of_lt hgw.out) P2.out.2.2.1 P2.out.2.2.2.1 P2.out.2.2.2.2 (by rw [HFL.out]; simp) (HL.out.keptB (B := w.heap.size) hL2 B2.out) (by have := hgw.out; omega))
      rw [HFL.out, List.nil_append] at HW
      go_wp2_with fail
      refine HW.out.mono ?_
      rintro e w3 ⟨rfl, hM3, hg3⟩
      have M3 := hide hM3
      have B3 : Hid (Below w.heap.size w w3) := B2.out.grown hg3 B2.out.size (by intro k hk; cases hk; exact Nat.le_of_lt hgw.out)
      clear hM3 hg3 HW M2 A2 B2 P2
      go_wp2
      go_ret
      exact ⟨g, rfl, Nat.le_of_lt hgw.out, M3.out, B3.out⟩

end Go.Proofs.YtfopjobcjafgaabDoor
