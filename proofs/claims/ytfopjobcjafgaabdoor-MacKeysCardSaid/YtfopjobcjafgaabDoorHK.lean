/-
  Small laws: blocks that are laid one after the other; parts of a digest, as a string.
-/
import Derived.Test.YtfopjobcjafgaabDoorHD
import Derived.Lib.SlBytesConst
namespace Go.Proofs.YtfopjobcjafgaabDoor
open Go.RowKit

theorem heap_keep (w : World) (o : Obj) (g : Nat) (h : g < w.heap.size) : (w.alloc o).heap[g]? = w.heap[g]? := by
  show (w.heap.push o)[g]? = _
  rw [Array.getElem?_push, if_neg (Nat.ne_of_lt h)]
theorem heap_at (w : World) (o : Obj) (n : Nat) (h : w.heap.size = n) : (w.alloc o).heap[n]? = some o := by
  rw [← h]
  show (w.heap.push o)[w.heap.size]? = _
  simp

theorem alloc3 (v : World) (A B C : Obj) : (((v.alloc A).alloc B).alloc C).heap[v.heap.size]? = some A ∧ (((v.alloc A).alloc B).alloc C).heap[v.heap.size + 1]? = some B ∧ (((v.alloc A).alloc B).alloc C).heap[v.heap.size + 1 + 1]? = some C := by
  refine ⟨?_, ?_, ?_⟩
  · rw [heap_keep _ _ _ (by simp; omega), heap_keep _ _ _ (by simp), heap_at _ _ _ rfl]
  · rw [heap_keep _ _ _ (by simp), heap_at _ _ _ (by simp)]
  · rw [heap_at _ _ _ (by simp)]

theorem str_of (w : World) (g o : Nat) (D : List Nat) (n c : Nat) (hA : Arr w g 25 (u8s D)) (hn : o + n ≤ D.length) :
    (convert 22 9 (.slice (some ⟨g, o, none⟩) n c)).run Tryd.prog w = .ok (.string (strOfNums (((D.drop o).take n).map Int.ofNat))) w := by
  refine run_convert_bytes_arg w 22 5 Tryd.underlying22 Tryd.underlying5 g o n c (((D.drop o).take n).map Int.ofNat) (by simp; omega) (fun i hi => ?_) _ Tryd.underlying9
  have hi' : i < n := hi
  have := (hA.cell (o + i)).trans (u8s_at (by omega))
  rw [this]
  congr 2
  simp [List.getD, hi', show o + i < D.length by omega]

theorem run_d4 (w : World) (g : Nat) : (Instr.sliceAt 25 (.pointer (some ⟨g, 0, none⟩)) none (some (.int .i64 4)) none).run Tryd.prog w = .ok (.slice (some ⟨g, 0, none⟩) 4 32) w := by
  have hl : Tryd.prog.arrayLen 25 = 32 := by simp [Program.arrayLen, Tryd.underlying25]
  have he : Tryd.prog.elem 25 = 5 := by simp [Program.elem, Tryd.underlying25]
  have ht : Tryd.prog.underlying 25 = some (.array (Tryd.prog.arrayLen 25) (Tryd.prog.elem 25)) := by rw [hl, he]; exact Tryd.underlying25
  rw [run_sliceAt_array_h w 25 ⟨g, 0, none⟩ ht .i64 _ (by omega) (by rw [hl]; omega), he, size5, hl]
  simp [Result.andThen, slicedAt, Addr.add_mid]

theorem run_d28 (w : World) (g : Nat) : (Instr.sliceAt 25 (.pointer (some ⟨g, 0, none⟩)) (some (.int .i64 28)) none none).run Tryd.prog w = .ok (.slice (some ⟨g, 28, none⟩) 4 4) w := by
  have hl : Tryd.prog.arrayLen 25 = 32 := by simp [Program.arrayLen, Tryd.underlying25]
  have he : Tryd.prog.elem 25 = 5 := by simp [Program.elem, Tryd.underlying25]
  have ht : Tryd.prog.underlying 25 = some (.array (Tryd.prog.arrayLen 25) (Tryd.prog.elem 25)) := by rw [hl, he]; exact Tryd.underlying25
  rw [run_sliceAt_array_l w 25 ⟨g, 0, none⟩ ht .i64 _ (by omega) (by rw [hl]; omega), he, size5, hl]
  simp [Result.andThen, slicedAt, Addr.add_mid]

end Go.Proofs.YtfopjobcjafgaabDoor
