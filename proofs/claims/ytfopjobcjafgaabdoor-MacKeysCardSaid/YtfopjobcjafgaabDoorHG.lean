/-
  Small facts on digests: how many bytes, which, and that one is the same as itself.
-/
import Derived.Test.YtfopjobcjafgaabDoorHK
namespace Go.Proofs.YtfopjobcjafgaabDoor
open Go.RowKit

theorem sumF_length (l : List Nat) : (sumF l).length = 32 := digestF_length _
theorem digestF_bytes (h : List Nat) : BytesN (digestF h) := by
  intro x hx
  simp only [digestF, List.mem_map] at hx
  obtain ⟨i, _, rfl⟩ := hx
  exact Nat.mod_lt _ (by omega)
theorem sumF_bytes (l : List Nat) : BytesN (sumF l) := digestF_bytes _

theorem guard35 (x y : Operand) (u v : Array Value) (w : World) : (eqGuard .eql 25 x y (.agg u) (.agg v)).run Tryd.prog w = .ok () w := by kernel_rfl

/-- a digest is the same as itself -/
theorem eq_self (D : List Nat) (h : D.length = 32) (hb : BytesN D) (w : World) : (Op.equalIn 10000 25 (.agg (u8s D).toArray) (.agg (u8s D).toArray)).run Tryd.prog w = .ok true w := by
  have := run_eq_digest D D h h hb hb w
  rwa [decide_eq_true rfl] at this

theorem MadeH.grown {w w' : World} {g X : Nat} {l : List Nat} (h : MadeH w g l) (hg : w.grownBy w' (some X)) (hne : g ≠ X) : MadeH w' g l := by
  obtain ⟨ws, rest, hA, hR⟩ := h
  exact ⟨ws, rest, hA.grown' hg hne, hR⟩

/-- the zero value, built -/
theorem wpList_build_zero {P : Program} {ops : Array Oper} {rest : List Oper} {o : Oper} {a : Act} {w : World} {Q : Exit → Act → World → Prop} (hg : o.guard = none) (t : TypeId) (ho : o.op = .build t #[]) (C : Array Value) (hb : P.built t [] = some C)
    (h : wpList P ops Q rest (a.put o.dst (.agg C)) w) : wpList P ops Q (o :: rest) a w :=
  wpList_build hg t #[] ho (by simp [hb]) (by simpa [hb] using h)

theorem builtZ : Tryd.prog.built 53 [] = some zeroH.toArray := by kernel_rfl

theorem Piece.kept {w w' : World} {p : Option Addr} {c : Nat} {b : List Nat} (h : Piece w p c b) (hb : Below w.heap.size w w') : Piece w' p c b := ⟨h.1.kept hb, h.2⟩

/-- two arrays held against each other, as one operation -/
theorem wpList_eql_agg {P : Program} {ops : Array Oper} {rest : List Oper} {o : Oper} {a : Act} {w : World} {Q : Exit → Act → World → Prop} (hg : o.guard = none) (t tt : TypeId) (x y : Operand) (ho : o.op = .binOp .eql t x y tt) (xs ys : Array Value) (hx : a.eval x = .agg xs) (hy : a.eval y = .agg ys) (r : Bool)
    (hgd : (eqGuard .eql t x y (.agg xs) (.agg ys)).run P w = .ok () w) (he : (Op.equalIn 10000 t (.agg xs) (.agg ys)).run P w = .ok r w)
    (h : wpList P ops Q rest (a.put o.dst (.bool r)) w) : wpList P ops Q (o :: rest) a w :=
  wpList_plain hg fun K hK => by
    unfold Oper.wp
    rw [exec_eql_agg t tt x y ho xs ys hx hy r hgd he]
    exact hK _ _ h

theorem exec_neq_agg {P : Program} {o : Oper} {a : Act} {w : World} (t tt : TypeId) (x y : Operand) (ho : o.op = .binOp .neq t x y tt) (xs ys : Array Value) (hx : a.eval x = .agg xs) (hy : a.eval y = .agg ys) (r : Bool)
    (hgd : (eqGuard .neq t x y (.agg xs) (.agg ys)).run P w = .ok () w) (he : (Op.equalIn 10000 t (.agg xs) (.agg ys)).run P w = .ok r w) : (execOp a.eval o).run P w = .ok (.value (.bool (!r))) w := by
  unfold execOp
  simp only [ho, hx, hy, Sem.run_bind, hgd, run_neq_struct, he, Result.andThen_ok, Sem.run_pure]

theorem wpList_neq_agg {P : Program} {ops : Array Oper} {rest : List Oper} {o : Oper} {a : Act} {w : World} {Q : Exit → Act → World → Prop} (hg : o.guard = none) (t tt : TypeId) (x y : Operand) (ho : o.op = .binOp .neq t x y tt) (xs ys : Array Value) (hx : a.eval x = .agg xs) (hy : a.eval y = .agg ys) (r : Bool)
    (hgd : (eqGuard .neq t x y (.agg xs) (.agg ys)).run P w = .ok () w) (he : (Op.equalIn 10000 t (.agg xs) (.agg ys)).run P w = .ok r w)
    (h : wpList P ops Q rest (a.put o.dst (.bool (!r))) w) : wpList P ops Q (o :: rest) a w :=
  wpList_plain hg fun K hK => by
    unfold Oper.wp
    rw [exec_neq_agg t tt x y ho xs ys hx hy r hgd he]
    exact hK _ _ h

theorem guard35n (x y : Operand) (u v : Array Value) (w : World) : (eqGuard .neq 25 x y (.agg u) (.agg v)).run Tryd.prog w = .ok () w := by kernel_rfl

/-- a row of the call's own is bytes that may be handed on -/
theorem own_piece {w : World} {B : Nat} {v : Value} {l : List Nat} (h : w.ownsRow B 5 1 v l.length (u8s l)) (hb : BytesN l) :
    ∃ p c, v = .slice p l.length c ∧ Piece w p c l ∧ ∀ a, p = some a → B ≤ a.block ∧ a.block < w.heap.size := by
  by_cases hn : 0 < l.length
  · obtain ⟨g, cap, rfl, hB, hg, hc, hm⟩ := own_shape h hn
    exact ⟨_, cap, rfl, ⟨Or.inr ⟨g, 0, rfl, fun i hi => by rw [Nat.zero_add]; exact (h.cellAt i (by omega)).trans (u8s_at hi)⟩, (fun e => by cases e), hb, hc, hm⟩, fun a ha => by cases ha; exact ⟨hB, hg⟩⟩
  · have h0 : l = [] := List.eq_nil_of_length_eq_zero (by omega)
    subst h0
    rcases h.2 with ⟨rfl, _⟩ | ⟨g, cap, cur, rfl, hB, hg, hnc, hcm, _⟩
    · exact ⟨none, 0, rfl, ⟨Or.inl rfl, (fun _ => rfl), hb, Nat.le_refl _, Nat.zero_le _⟩, fun a ha => by cases ha⟩
    · refine ⟨_, cap, rfl, ⟨Or.inl rfl, (fun e => by cases e), hb, Nat.zero_le _, hcm⟩, fun a ha => ?_⟩
      cases ha
      refine ⟨hB, ?_⟩
      by_cases hlt : g < w.heap.size
      · exact hlt
      · rw [Array.getElem?_eq_none (by omega)] at hg; cases hg

theorem bytes_append {a b : List Nat} (ha : BytesN a) (hb : BytesN b) : BytesN (a ++ b) := fun x hx => by
  rcases List.mem_append.1 hx with h | h
  · exact ha x h
  · exact hb x h

theorem joinF_bytes {B : Nat → List Nat} {k : Nat} (h : ∀ i, i < k → BytesN (B i)) : ∀ i, i ≤ k → BytesN (joinF B i) := by
  intro i
  induction i with
  | zero => intro _ x hx; cases hx
  | succ i ih => intro hi; exact bytes_append (ih (by omega)) (h i (by omega))

end Go.Proofs.YtfopjobcjafgaabDoor
