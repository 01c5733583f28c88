/-
  Small facts on digests: how many bytes, which, and that one is the same as itself.
-/
import Derived.Test.YtfopjobcjafgaaaDoorHK
import Derived.Test.YtfopjobcjafgaaaDoorHL
namespace Go.Proofs.YtfopjobcjafgaaaDoor
open Go.RowKit

theorem sumF_length (l : List Nat) : (sumF l).length = 32 := digestF_length _
theorem digestF_bytes (h : List Nat) : BytesN (digestF h) := by
  intro x hx
  simp only [digestF, List.mem_map] at hx
  obtain ⟨i, _, rfl⟩ := hx
  exact Nat.mod_lt _ (by omega)
theorem sumF_bytes (l : List Nat) : BytesN (sumF l) := digestF_bytes _

theorem guard35 (x y : Operand) (u v : Array Value) (w : World) : (eqGuard .eql 35 x y (.agg u) (.agg v)).run Tryd.prog w = .ok () w := by kernel_rfl

/-- a digest is the same as itself -/
theorem eq_self (D : List Nat) (h : D.length = 32) (hb : BytesN D) (w : World) : (Op.equalIn 10000 35 (.agg (u8s D).toArray) (.agg (u8s D).toArray)).run Tryd.prog w = .ok true w := by
  have := run_eq_digest D D h h hb hb w
  rwa [decide_eq_true rfl] at this

theorem len_nil (w : World) : Calls Tryd.prog 23 #[.pointer none] w fun e w' => e = .returned (.int .i64 0) ∧ w' = w := len_is _ [] w (Or.inr ⟨rfl, Or.inl rfl⟩)

theorem MadeH.grown {w w' : World} {g X : Nat} {l : List Nat} (h : MadeH w g l) (hg : w.grownBy w' (some X)) (hne : g ≠ X) : MadeH w' g l := by
  obtain ⟨ws, rest, hA, hR⟩ := h
  exact ⟨ws, rest, hA.grown' hg hne, hR⟩

/-- the zero value, built -/
theorem wpList_build_zero {P : Program} {ops : Array Oper} {rest : List Oper} {o : Oper} {a : Act} {w : World} {Q : Exit → Act → World → Prop} (hg : o.guard = none) (t : TypeId) (ho : o.op = .build t #[]) (C : Array Value) (hb : P.built t [] = some C)
    (h : wpList P ops Q rest (a.put o.dst (.agg C)) w) : wpList P ops Q (o :: rest) a w :=
  wpList_build hg t #[] ho (by simp [hb]) (by simpa [hb] using h)

theorem builtZ : Tryd.prog.built 49 [] = some zeroH.toArray := by kernel_rfl

theorem Piece.kept {w w' : World} {p : Option Addr} {c : Nat} {b : List Nat} (h : Piece w p c b) (hb : Below w.heap.size w w') : Piece w' p c b := ⟨h.1.kept hb, h.2⟩

end Go.Proofs.YtfopjobcjafgaaaDoor
