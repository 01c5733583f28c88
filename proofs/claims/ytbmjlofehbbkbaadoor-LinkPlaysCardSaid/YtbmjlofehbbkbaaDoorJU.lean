/-
  Several texts, joined: SL.
-/
import Derived.Test.YtbmjlofehbbkbaaDoorJC
import Derived.Test.YtbmjlofehbbkbaaDoorRows
import Derived.Test.YtbmjlofehbbkbaaDoorCards
import Derived.Test.YtbmjlofehbbkbaaDoorTie
import Derived.ProofKit
import Derived.LaidMore
import Derived.OpenShut
import Derived.Stop.Joined
import Derived.Lib.LaidTab
import Derived.Below
import Derived.ChangeOld

/- What the row's condition on the two listed tables gives the walks; the frame of the row of ShaWords, out of a walk of the law. -/
namespace Go.Proofs.YtbmjlofehbbkbaaDoor
open Go.ChangeShapes Go.WideShapes Go.ChangeAt Go.WideMaps Go.WideElems Go.RowKit

abbrev laid2 : List (String × DataW Unit) := [("oriel/sha.starts", Rows.laid_oriel_sha_starts), ("oriel/sha.turns", Rows.laid_oriel_sha_turns)]

theorem own : ownKnob Tryd.prog.godebug = none := by kernel_rfl
theorem laidOut : laidOutB Tryd.prog = true := by kernel_rfl
theorem gStarts : Tryd.prog.globalNamed "oriel/sha.starts" = some 0 := by kernel_rfl
theorem gTurns : Tryd.prog.globalNamed "oriel/sha.turns" = some 1 := by kernel_rfl
theorem tStarts : (Tryd.prog.globals[0]?).map (·.type) = some 121 := by kernel_rfl
theorem tTurns : (Tryd.prog.globals[1]?).map (·.type) = some 140 := by kernel_rfl
theorem c22 : Tryd.prog.cellsOf 120 = 1 := by kernel_rfl
theorem c26 : Tryd.prog.cellsOf 121 = 8 := by kernel_rfl
theorem c31 : Tryd.prog.cellsOf 140 = 64 := by kernel_rfl

theorem laid_perm {P : Program} {a b : String × DataW Unit} {W : World} (h : laidMet P [a, b] W) : laidMet P [b] W := by
  obtain ⟨ps, ⟨g, t, cs, fuel, p, q, hg, ht, hv, hd, hrest, hps⟩, hnd, hrows⟩ := h
  subst hps
  refine ⟨q, hrest, (List.nodup_append.1 hnd).2.1, fun x y h => hrows x y (List.mem_append_right _ h)⟩

theorem of_laid {W : World} (h : laidMetH Tryd.prog laid2 W) : Laid W := by
  rw [MakeChecks.laidMetH_plain _ _ _ (by kernel_rfl)] at h
  have h1 : Lib.TabIs Tryd.prog W "oriel/sha.starts" .u32 (startT.map Int.ofNat) :=
    Lib.tabIs_of_head (rest := [("oriel/sha.turns", Rows.laid_oriel_sha_turns)]) gStarts tStarts Tryd.underlying121 Tryd.underlying120 c22 c26 h
  have h2 : Lib.TabIs Tryd.prog W "oriel/sha.turns" .u32 (turnT.map Int.ofNat) :=
    Lib.tabIs_of_head (rest := []) gTurns tTurns Tryd.underlying140 Tryd.underlying120 c22 c31 (laid_perm h)
  refine ⟨?_, ?_⟩
  · intro j v hv
    have hj : j < 8 := by have := (List.getElem?_eq_some_iff.1 hv).1; rw [u32s_length] at this; exact this
    rw [u32s_at (l := startT) hj] at hv
    cases hv
    have := h1.cell gStarts j (by rw [List.length_map]; exact hj)
    rw [Nat.zero_add, this]
    congr 3
    simp [List.getD, show j < startT.length from hj]
  · intro j v hv
    have hj : j < 64 := by have := (List.getElem?_eq_some_iff.1 hv).1; rw [u32s_length] at this; exact this
    rw [u32s_at (l := turnT) hj] at hv
    cases hv
    have := h2.cell gTurns j (by rw [List.length_map]; exact hj)
    rw [Nat.zero_add, this]
    congr 3
    simp [List.getD, show j < turnT.length from hj]

theorem door_met (os : Os) (args : Array Value) : laidMetH Tryd.prog laid2 ((World.doorLaid Tryd.prog 400 os).forCall (fun _ _ => 0) ⟨#[], args, []⟩).memory :=
  laidMetH_of_parts3 (fuel := 8) (laidMet_of_run' 8 (by kernel_rfl) (by kernel_rfl)) (by kernel_rfl) (by kernel_rfl)

end Go.Proofs.YtbmjlofehbbkbaaDoor
