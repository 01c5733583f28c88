/-
  Small laws: a slice that is built, as one operation.
-/
import Derived.Test.YtfopjobcjafgaabDoorMZ
namespace Go.Proofs.YtfopjobcjafgaabDoor
open Go.RowKit

set_option maxHeartbeats 1000000 in
/-- '[]byte{}' -/
theorem wp_build_empty {w : World} {o : Oper} {a : Act} {K : Act → World → Prop} {Q : Exit → Act → World → Prop} {dd : Nat} (hdd : o.dst = some dd) (ho : o.op = .buildSlice 22 0 #[])
    (h : ∀ w' v', w'.ownsRow w.heap.size 5 1 v' 0 (u8s []) → Below w.heap.size w w' → K (a.put (some dd) v') w') : o.wp Tryd.prog a w K Q := by
  have h' := h (w.alloc (.cells #[] 5)) (.slice (some ⟨w.heap.size, 0, none⟩) 0 0) (World.ownsRow_made w #[] 0 (Nat.le_refl _) (Nat.zero_le _) rfl) ((Below.refl _ _).alloc (Nat.le_refl _) _)
  clear h
  unfold Oper.wp execOp
  rw [ho]
  go_simp
  exact h'

set_option maxHeartbeats 1000000 in
/-- '[][]byte{x}' -/
theorem wp_build_one {w : World} {o : Oper} {a : Act} {K : Act → World → Prop} {Q : Exit → Act → World → Prop} {dd : Nat} (hdd : o.dst = some dd) (x : Operand) (ho : o.op = .buildSlice 23 1 #[(0, x)]) (q : Option Addr) (n d : Nat) (hx : a.eval x = .slice q n d)
    (h : ∀ w' b, Arr w' b 22 [.slice q n d] → w.heap.size ≤ b → Below w.heap.size w w' → K (a.put (some dd) (.slice (some ⟨b, 0, none⟩) 1 1)) w') : o.wp Tryd.prog a w K Q := by
  have h' := h (w.alloc (.cells #[.slice q n d] 22)) w.heap.size (Arr.new w _ [.slice q n d]) (Nat.le_refl _) ((Below.refl _ _).alloc (Nat.le_refl _) _)
  clear h
  unfold Oper.wp execOp
  rw [ho]
  simp only [List.map_toArray, List.map_cons, List.map_nil, hx]
  go_simp
  exact h'

set_option maxHeartbeats 1000000 in
/-- '[][]byte{x, y}' -/
theorem wp_build_two {w : World} {o : Oper} {a : Act} {K : Act → World → Prop} {Q : Exit → Act → World → Prop} {dd : Nat} (hdd : o.dst = some dd) (x y : Operand) (ho : o.op = .buildSlice 23 2 #[(0, x), (1, y)]) (q : Option Addr) (n d : Nat) (hx : a.eval x = .slice q n d) (q2 : Option Addr) (n2 d2 : Nat) (hy : a.eval y = .slice q2 n2 d2)
    (h : ∀ w' b, Arr w' b 22 [.slice q n d, .slice q2 n2 d2] → w.heap.size ≤ b → Below w.heap.size w w' → K (a.put (some dd) (.slice (some ⟨b, 0, none⟩) 2 2)) w') : o.wp Tryd.prog a w K Q := by
  have h' := h (w.alloc (.cells #[.slice q n d, .slice q2 n2 d2] 22)) w.heap.size (Arr.new w _ [.slice q n d, .slice q2 n2 d2]) (Nat.le_refl _) ((Below.refl _ _).alloc (Nat.le_refl _) _)
  clear h
  unfold Oper.wp execOp
  rw [ho]
  simp only [List.map_toArray, List.map_cons, List.map_nil, hx, hy]
  go_simp
  exact h'

end Go.Proofs.YtfopjobcjafgaabDoor
