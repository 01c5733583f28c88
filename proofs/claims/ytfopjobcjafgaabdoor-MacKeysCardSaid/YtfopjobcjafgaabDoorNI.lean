/-
  A law: a key is the same as itself.
-/
import Derived.Test.YtfopjobcjafgaabDoorNH
namespace Go.Proofs.YtfopjobcjafgaabDoor
open Go.RowKit

theorem cells16 : Tryd.prog.cellsOf 30 = 16 := by kernel_rfl
theorem cellsK : Tryd.prog.cellsOf 32 = 48 := by kernel_rfl

theorem u8s_ints (a : List Nat) : u8s a = (a.map Int.ofNat).map (Value.int .u8) := by
  rw [u8s, List.map_map]; rfl

theorem key_lits (a b : List Nat) (ha : a.length = 16) (hb : b.length = 32) (ba : BytesN a) (bb : BytesN b) : ∃ L, Tryd.prog.keyLits 3 32 (kCells a b) = some L := by
  have h0 := lits_of_ints Tryd.underlying30 Tryd.underlying5 cells8 cells16 (a.map Int.ofNat) (by simpa using ha) (fun z hz => by obtain ⟨x, hx, rfl⟩ := List.mem_map.1 hz; exact wf_u8 (ba x hx))
  have h1 := lits_of_ints Tryd.underlying25 Tryd.underlying5 cells8 cells32 (b.map Int.ofNat) (by simpa using hb) (fun z hz => by obtain ⟨x, hx, rfl⟩ := List.mem_map.1 hz; exact wf_u8 (bb x hx))
  rw [← u8s_ints] at h0 h1
  have e0 : ((kCells a b).drop 0).take 16 = u8s a := by rw [List.drop_zero, kCells, List.take_left' (by simp [u8s, ha])]
  have e1 : ((kCells a b).drop 16).take 32 = u8s b := by rw [kCells, List.drop_left' (by simp [u8s, ha]), List.take_of_length_le (by simp [u8s, hb])]
  have hl : (kCells a b).length = Tryd.prog.cellsOf 32 := by rw [cellsK]; simp [kCells, u8s, ha, hb]
  refine ⟨[(a.map Int.ofNat).map (Lit.int .u8), (b.map Int.ofNat).map (Lit.int .u8)].flatten, ?_⟩
  conv => lhs; unfold Program.keyLits
  simp only [Tryd.underlying32]
  rw [if_pos ⟨hl, by decide +kernel⟩]
  simp only [List.mapM_cons, List.mapM_nil, cells16, cells32, e0, e1, h0, h1]
  rfl

theorem eq_key (a b : List Nat) (ha : a.length = 16) (hb : b.length = 32) (ba : BytesN a) (bb : BytesN b) (w : World) :
    (Op.equalIn 10000 32 (.agg (kCells a b).toArray) (.agg (kCells a b).toArray)).run Tryd.prog w = .ok true w := by
  have hk : Tryd.prog.keyTypeAt 3 32 = true := by kernel_rfl
  obtain ⟨L, hL⟩ := key_lits a b ha hb ba bb
  obtain ⟨r, hr, hiff⟩ := run_equalIn_deep 9997 3 32 hk w 3 3 (.agg (kCells a b).toArray) (.agg (kCells a b).toArray) L L
    (by simp [Value.formed, Tryd.underlying32, cellsK, kCells, u8s, ha, hb]) (by simp [Value.formed, Tryd.underlying32, cellsK, kCells, u8s, ha, hb]) (by simpa [Value.cells] using hL) (by simpa [Value.cells] using hL)
  rw [hr, hiff.2 rfl]

theorem guardK (x y : Operand) (u v : Array Value) (w : World) : (eqGuard .eql 32 x y (.agg u) (.agg v)).run Tryd.prog w = .ok () w := by kernel_rfl

end Go.Proofs.YtfopjobcjafgaabDoor
