/-
  What the row's condition on the listed table gives the walks.
-/
import Derived.Test.YtijjifdgmffenaaDoorUC
import Derived.Test.YtijjifdgmffenaaDoorRows
import Derived.Test.YtijjifdgmffenaaDoorCards
import Derived.Test.YtijjifdgmffenaaDoorTie
import Derived.ProofKit
import Derived.LaidMore
import Derived.OpenShut
import Derived.Stop.Joined
import Derived.Lib.LaidTab
import Derived.Below
import Derived.ChangeOld
namespace Go.Proofs.YtijjifdgmffenaaDoor
open Go.ChangeShapes Go.WideShapes Go.ChangeAt Go.WideMaps Go.WideElems Go.RowKit

abbrev laid1 : List (String × DataW Unit) := [("oriel/utf.greatest", Rows.laid_oriel_utf_greatest)]

theorem own : ownKnob Tryd.prog.godebug = none := by kernel_rfl
theorem laidOut : laidOutB Tryd.prog = true := by kernel_rfl
theorem gGreat : Tryd.prog.globalNamed "oriel/utf.greatest" = some 0 := by kernel_rfl
theorem tGreat : (Tryd.prog.globals[0]?).map (·.type) = some 44 := by kernel_rfl
theorem cRune : Tryd.prog.cellsOf 21 = 1 := by kernel_rfl
theorem cGreat : Tryd.prog.cellsOf 44 = 5 := by kernel_rfl

theorem of_laid {W : World} (h : laidMetH Tryd.prog laid1 W) : LaidU W := by
  rw [MakeChecks.laidMetH_plain _ _ _ (by kernel_rfl)] at h
  have h1 : Lib.TabIs Tryd.prog W "oriel/utf.greatest" .i32 grT :=
    Lib.tabIs_of_head (rest := []) gGreat tGreat Tryd.underlying44 Tryd.underlying21 cRune cGreat h
  intro j v hv
  have hj : j < 5 := by have := (List.getElem?_eq_some_iff.1 hv).1; rw [i32s_length] at this; exact this
  rw [i32s_at (l := grT) hj] at hv
  cases hv
  have := h1.cell gGreat j hj
  rw [Nat.zero_add, this]

theorem door_met (os : Os) (args : Array Value) : laidMetH Tryd.prog laid1 ((World.doorLaid Tryd.prog 400 os).forCall (fun _ _ => 0) ⟨#[], args, []⟩).memory :=
  laidMetH_of_parts3 (fuel := 8) (laidMet_of_run' 8 (by kernel_rfl) (by kernel_rfl)) (by kernel_rfl) (by kernel_rfl)

end Go.Proofs.YtijjifdgmffenaaDoor
