/-
  Meters that are handed in, opened.
-/
import Derived.Test.YthnbbflpnklbjaaRows
import Derived.Test.YthnbbflpnklbjaaTG
import Derived.Test.YthnbbflpnklbjaaTF
import Derived.Lib.SmallJoins
namespace Go.Proofs.Ythnbbflpnklbjaa
open Go.ChangeShapes Go.WideShapes Go.ChangeAt Go.WideMaps Go.WideElems Go.RowKit

theorem cellsM : Try.prog.cellsOf 23 = 3 := by kernel_rfl

/-- a meter that is handed in -/
theorem open_meter {H : Type} {enc : TypeId × Value → H} {W : World} {r : Reach} {b0 base : Nat} {sp : Nat → Bool} {held : Bool} {v : Value} {d : DataW H} {p : List MemPlace}
    (hv : Value.okWide Try.prog W r b0 23 v) (h : DataW.Trod enc Try.prog W base sp held 23 v d p) : ∃ m : Me, v = meV m ∧ ∀ y ∈ p, False := by
  obtain ⟨v0, v1, v2, y0, y1, y2, n, rfl, _, rfl, h0, h1, h2⟩ := Go.Joins.open_agg3 Try.underlying23 (by kernel_rfl) cellsM hv h
  obtain ⟨a, e0, q0, _⟩ := DataW.trod_int Try.underlying3 h0
  obtain ⟨b, e1, q1, _⟩ := DataW.trod_int Try.underlying3 h1
  obtain ⟨c, e2, q2, _⟩ := DataW.trod_int Try.underlying3 h2
  simp at e0 e1 e2
  subst e0 e1 e2
  refine ⟨⟨a, b, c⟩, rfl, fun y hy => ?_⟩
  rw [q0, q1, q2] at hy
  simp at hy

end Go.Proofs.Ythnbbflpnklbjaa
