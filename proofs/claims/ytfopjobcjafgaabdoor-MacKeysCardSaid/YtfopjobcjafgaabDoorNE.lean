/-
  A key of a member: what lies in memory; a walk: the program's Derive.
-/
import Derived.Test.YtfopjobcjafgaabDoorND
import Derived.Laws.ResultCell
namespace Go.Proofs.YtfopjobcjafgaabDoor
open Go.RowKit

/-- the cells of a key -/
def kCells (code mark : List Nat) : List Value := u8s code ++ u8s mark
def zeroK : List Value := kCells (List.replicate 16 0) (List.replicate 32 0)

theorem infoK : (Tryd.prog.info? 32).map (·.size) = some 48 := by kernel_rfl
theorem builtK0 : Tryd.prog.built 32 [] = some zeroK.toArray := by kernel_rfl
theorem builtK1 (f : Nat → Nat) : Tryd.prog.built 32 [(1, .agg (u8s ((List.range 32).map f)).toArray)] = some (kCells (List.replicate 16 0) ((List.range 32).map f)).toArray := by kernel_rfl
theorem as_range (D : List Nat) (h : D.length = 32) : D = (List.range 32).map fun i => D.getD i 0 := by
  apply List.ext_getElem
  · simp [h]
  · intro i h1 h2
    simp [List.getD, h1]
theorem builtK (D : List Nat) (h : D.length = 32) : Tryd.prog.built 32 [(1, .agg (u8s D).toArray)] = some (kCells (List.replicate 16 0) D).toArray := by
  rw [as_range D h]
  exact builtK1 _
theorem zeroK_lit : zeroK.toArray = #[Value.int .u8 0, Value.int .u8 0, Value.int .u8 0, Value.int .u8 0, Value.int .u8 0, Value.int .u8 0, Value.int .u8 0, Value.int .u8 0, Value.int .u8 0, Value.int .u8 0, Value.int .u8 0, Value.int .u8 0, Value.int .u8 0, Value.int .u8 0, Value.int .u8 0, Value.int .u8 0, Value.int .u8 0, Value.int .u8 0, Value.int .u8 0, Value.int .u8 0, Value.int .u8 0, Value.int .u8 0, Value.int .u8 0, Value.int .u8 0, Value.int .u8 0, Value.int .u8 0, Value.int .u8 0, Value.int .u8 0, Value.int .u8 0, Value.int .u8 0, Value.int .u8 0, Value.int .u8 0, Value.int .u8 0, Value.int .u8 0, Value.int .u8 0, Value.int .u8 0, Value.int .u8 0, Value.int .u8 0, Value.int .u8 0, Value.int .u8 0, Value.int .u8 0, Value.int .u8 0, Value.int .u8 0, Value.int .u8 0, Value.int .u8 0, Value.int .u8 0, Value.int .u8 0, Value.int .u8 0] := rfl
theorem kCells_length {a b : List Nat} (h1 : a.length = 16) (h2 : b.length = 32) : (kCells a b).toArray.size = 48 := by simp [kCells, u8s, h1, h2]
theorem one_kCells (a b : List Nat) : (kCells a b).toArray.all (·.oneCell') = true := by
  apply all_oneCell_toArray
  intro v hv
  simp only [kCells, List.mem_append] at hv
  rcases hv with hv | hv
  · exact one_u8s _ v hv
  · exact one_u8s _ v hv

/-- a struct that is built of parts -/
theorem wpList_build_of {P : Program} {ops : Array Oper} {rest : List Oper} {o : Oper} {a : Act} {w : World} {Q : Exit → Act → World → Prop} (hg : o.guard = none) (t : TypeId) (parts : Array (Nat × Operand)) (ho : o.op = .build t parts) (L : List (Nat × Value)) (hL : (parts.map fun (i, x) => (i, a.eval x)).toList = L) (C : Array Value) (hb : P.built t L = some C)
    (h : wpList P ops Q rest (a.put o.dst (.agg C)) w) : wpList P ops Q (o :: rest) a w :=
  wpList_build hg t parts ho (by rw [hL, hb]; rfl) (by rw [hL, hb]; exact h)

theorem run_all16 (w : World) (g : Nat) : (Instr.sliceAt 30 (.pointer (some ⟨g, 0, none⟩)) none none none).run Tryd.prog w = .ok (.slice (some ⟨g, 0, none⟩) 16 16) w := by
  have hl : Tryd.prog.arrayLen 30 = 16 := by simp [Program.arrayLen, Tryd.underlying30]
  have he : Tryd.prog.elem 30 = 5 := by simp [Program.elem, Tryd.underlying30]
  have ht : Tryd.prog.underlying 30 = some (.array (Tryd.prog.arrayLen 30) (Tryd.prog.elem 30)) := by rw [hl, he]; exact Tryd.underlying30
  rw [run_sliceAt_array_all w 30 ⟨g, 0, none⟩ ht, he, size5, hl]
  simp [Result.andThen, slicedAt, Addr.add_mid]

/-- a key in a cell of its own, and a number, are what is told -/
theorem results_key {fn : Func} {p u : Tmp} (h : fn.results = #[.cell p 32, .tmp u]) (tmps : Array Value) (w : World) (g : Nat) (cs : List Value) (hp : tmps.getD p undef = .pointer (some ⟨g, 0, none⟩)) (hg : Arr w g 32 cs) (hl : cs.length = 48) :
    (results fn tmps).run Tryd.prog w = .ok (.tuple #[.agg cs.toArray, tmps.getD u undef]) w := by
  rw [results_cell_tmp h tmps Tryd.prog w, hp]
  simp only [asAddr, Sem.run_pure, Result.andThen_ok]
  rw [run_loadVar_row w g 32 32 cs.toArray (0, 0) _ hg Tryd.underlying32 rfl (by rw [infoK]; simp [hl])]
  rfl

/-- the mark of a word and two numbers' forms -/
theorem of_word (v : World) (p : Option Addr) (c : Nat) (key t : List Nat) (ht : t.length = 4) (hb : BytesN t) (p1 p2 : Option Addr) (c1 c2 : Nat) (x1 x2 D : List Nat) (l1 l2 : Nat) (e1 : x1.length = l1) (e2 : x2.length = l2) (hP : Piece v p c key) (hk : key.length ≤ 1000) (h1 : Piece v p1 c1 x1) (h2 : Piece v p2 c2 x2) (hs1 : l1 ≤ 100) (hs2 : l2 ≤ 100) (hL : Laid v) (hv : 2 ≤ v.heap.size) (hD : macF key (t ++ x1 ++ x2) = D) :
    Calls Tryd.prog 8 #[.slice p key.length c, .slice (some ⟨v.heap.size + 1, 0, none⟩) 3 3] ((v.alloc (Obj.cells (u8s t).toArray 5 (4, 5))).alloc (Obj.cells #[.slice (some ⟨v.heap.size, 0, none⟩) 4 4, .slice p1 l1 c1, .slice p2 l2 c2] 22))
      fun e w' => e = .returned (.agg (u8s D).toArray) ∧ Below v.heap.size v w' := by
  subst e1 e2
  have hbl : Below v.heap.size v ((v.alloc (Obj.cells (u8s t).toArray 5 (4, 5))).alloc (Obj.cells #[.slice (some ⟨v.heap.size, 0, none⟩) 4 4, .slice p1 x1.length c1, .slice p2 x2.length c2] 22)) := ((Below.refl _ _).alloc (Nat.le_refl _) _).alloc (by simp) _
  have h01 := heap_keep (v.alloc (Obj.cells (u8s t).toArray 5 (4, 5))) (Obj.cells #[.slice (some ⟨v.heap.size, 0, none⟩) 4 4, .slice p1 x1.length c1, .slice p2 x2.length c2] 22) v.heap.size (by simp)
  rw [heap_at v _ _ rfl] at h01
  have h02 := heap_at (v.alloc (Obj.cells (u8s t).toArray 5 (4, 5))) (Obj.cells #[.slice (some ⟨v.heap.size, 0, none⟩) 4 4, .slice p1 x1.length c1, .slice p2 x2.length c2] 22) (v.heap.size + 1) (by simp)
  have h := of_three p c key (v.heap.size + 1) 3 (some ⟨v.heap.size, 0, none⟩) p1 p2 4 c1 c2 t x1 x2 D _ (hP.kept hbl) (by omega) (piece_obj h01 ht hb (by omega)) (h1.kept hbl) (h2.kept hbl) (by omega)
    (by rw [ht]; exact cell_of_row _ _ 0 _ _ _ h02) (cell_of_row _ _ 1 _ _ _ h02) (cell_of_row _ _ 2 _ _ _ h02) (hL.keptB (B := v.heap.size) hv hbl) hD
  exact h.mono fun e w' h => ⟨h.1, hbl.trans (h.2.mono hbl.size)⟩

end Go.Proofs.YtfopjobcjafgaabDoor
