/-
  DERIVED. GIVEN WITH THE SEED: THE CARDS: each row of YtanjbblkijhibaaDoorRows.lean that lists a variable, with what it lists TIED to the program's text (the seventh form; the later family's looks); each row that meets fmt, with fmt's text TOLD by the authors' own Lean function (tested against real Go, not proved from fmt's source: count such statements apart). THE CARD IS WHAT COUNTS. Prove the row's statement (the work); the ties are given (YtanjbblkijhibaaDoorTie.lean); close each card by the builder's one call (the guide's Derived/Test/ToyasCard.lean, 'card_holds'). Laid BY PROGRAM, IN A SANDBOX (cutbox-door.mjs). By AI agents, Wed Nov 11 2026. No macro, syntax, notation, axiom, sorry.
-/
import Derived.Test.YtanjbblkijhibaaDoorRows
import GoSem.ClaimSeven
namespace Go.Proofs.YtanjbblkijhibaaDoor
namespace Rows

/-- THE TIED CARD OF 'oriellaw09.LinkPlays'. -/
def linkPlaysCard : Claim7 := { stood := { row := linkPlaysRow, standIns := [], harness := (true, "b1d9945fc8d7e112e30f0bb1746f7324d6926a966186a7b61bd0163dc5509a8b"), looks := false }, kinds := [], alts := [], laidByText := true, laidKinds := [.data, .data], laidTests := true, laidLooks := .later }
def LinkPlaysCardSaid : Prop := Claim7.holds Tryd.pinned (.plain (OpenSpec.ofChange linkPlaysSpec)) linkPlaysCard

/-- THE TIED CARD OF 'oriellaw09.LinkNone'. -/
def linkNoneCard : Claim7 := { stood := { row := linkNoneRow, standIns := [], harness := (true, "b1d9945fc8d7e112e30f0bb1746f7324d6926a966186a7b61bd0163dc5509a8b"), looks := false }, kinds := [], alts := [], laidByText := true, laidKinds := [.data, .data], laidTests := true, laidLooks := .later }
def LinkNoneCardSaid : Prop := Claim7.holds Tryd.pinned (.plain (OpenSpec.ofChange linkNoneSpec)) linkNoneCard

/-- THE TIED CARD OF 'oriellaw09.LinkThrough'. -/
def linkThroughCard : Claim7 := { stood := { row := linkThroughRow, standIns := [], harness := (true, "b1d9945fc8d7e112e30f0bb1746f7324d6926a966186a7b61bd0163dc5509a8b"), looks := false }, kinds := [], alts := [], laidByText := true, laidKinds := [.data, .data], laidTests := true, laidLooks := .later }
def LinkThroughCardSaid : Prop := Claim7.holds Tryd.pinned (.plain (OpenSpec.ofChange linkThroughSpec)) linkThroughCard

/-- THE TIED CARD OF 'oriellaw09.LinkSpent'. -/
def linkSpentCard : Claim7 := { stood := { row := linkSpentRow, standIns := [], harness := (true, "b1d9945fc8d7e112e30f0bb1746f7324d6926a966186a7b61bd0163dc5509a8b"), looks := false }, kinds := [], alts := [], laidByText := true, laidKinds := [.data, .data], laidTests := true, laidLooks := .later }
def LinkSpentCardSaid : Prop := Claim7.holds Tryd.pinned (.plain (OpenSpec.ofChange linkSpentSpec)) linkSpentCard

/-- THE TIED CARD OF 'oriellaw09.LinkCounts'. -/
def linkCountsCard : Claim7 := { stood := { row := linkCountsRow, standIns := [], harness := (true, "b1d9945fc8d7e112e30f0bb1746f7324d6926a966186a7b61bd0163dc5509a8b"), looks := false }, kinds := [], alts := [], laidByText := true, laidKinds := [.data, .data], laidTests := true, laidLooks := .later }
def LinkCountsCardSaid : Prop := Claim7.holds Tryd.pinned (.plain (OpenSpec.ofChange linkCountsSpec)) linkCountsCard

/-- THE SECOND FORM's CARD OF 'oriellaw09.LinkPlays'. -/
def linkPlaysUptoCard : Claim7 := { stood := { row := linkPlaysUptoRow, standIns := [], harness := (true, "b1d9945fc8d7e112e30f0bb1746f7324d6926a966186a7b61bd0163dc5509a8b"), looks := false }, kinds := [], alts := [], laidByText := true, laidKinds := [.data, .data], laidTests := true, laidLooks := .later }
def LinkPlaysUptoCardSaid : Prop := Claim7.holds Tryd.pinned (.plain (OpenSpec.upto linkPlaysSpec)) linkPlaysUptoCard

/-- THE SECOND FORM's CARD OF 'oriellaw09.LinkNone'. -/
def linkNoneUptoCard : Claim7 := { stood := { row := linkNoneUptoRow, standIns := [], harness := (true, "b1d9945fc8d7e112e30f0bb1746f7324d6926a966186a7b61bd0163dc5509a8b"), looks := false }, kinds := [], alts := [], laidByText := true, laidKinds := [.data, .data], laidTests := true, laidLooks := .later }
def LinkNoneUptoCardSaid : Prop := Claim7.holds Tryd.pinned (.plain (OpenSpec.upto linkNoneSpec)) linkNoneUptoCard

/-- THE SECOND FORM's CARD OF 'oriellaw09.LinkThrough'. -/
def linkThroughUptoCard : Claim7 := { stood := { row := linkThroughUptoRow, standIns := [], harness := (true, "b1d9945fc8d7e112e30f0bb1746f7324d6926a966186a7b61bd0163dc5509a8b"), looks := false }, kinds := [], alts := [], laidByText := true, laidKinds := [.data, .data], laidTests := true, laidLooks := .later }
def LinkThroughUptoCardSaid : Prop := Claim7.holds Tryd.pinned (.plain (OpenSpec.upto linkThroughSpec)) linkThroughUptoCard

/-- THE SECOND FORM's CARD OF 'oriellaw09.LinkSpent'. -/
def linkSpentUptoCard : Claim7 := { stood := { row := linkSpentUptoRow, standIns := [], harness := (true, "b1d9945fc8d7e112e30f0bb1746f7324d6926a966186a7b61bd0163dc5509a8b"), looks := false }, kinds := [], alts := [], laidByText := true, laidKinds := [.data, .data], laidTests := true, laidLooks := .later }
def LinkSpentUptoCardSaid : Prop := Claim7.holds Tryd.pinned (.plain (OpenSpec.upto linkSpentSpec)) linkSpentUptoCard

/-- THE SECOND FORM's CARD OF 'oriellaw09.LinkCounts'. -/
def linkCountsUptoCard : Claim7 := { stood := { row := linkCountsUptoRow, standIns := [], harness := (true, "b1d9945fc8d7e112e30f0bb1746f7324d6926a966186a7b61bd0163dc5509a8b"), looks := false }, kinds := [], alts := [], laidByText := true, laidKinds := [.data, .data], laidTests := true, laidLooks := .later }
def LinkCountsUptoCardSaid : Prop := Claim7.holds Tryd.pinned (.plain (OpenSpec.upto linkCountsSpec)) linkCountsUptoCard
end Rows
end Go.Proofs.YtanjbblkijhibaaDoor
