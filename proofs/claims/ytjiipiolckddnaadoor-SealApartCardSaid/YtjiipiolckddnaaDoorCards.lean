/-
  DERIVED. GIVEN WITH THE SEED: THE CARDS: each row of YtjiipiolckddnaaDoorRows.lean that lists a variable, with what it lists TIED to the program's text (the seventh form; the later family's looks); each row that meets fmt, with fmt's text TOLD by the authors' own Lean function (tested against real Go, not proved from fmt's source: count such statements apart). THE CARD IS WHAT COUNTS. Prove the row's statement (the work); the ties are given (YtjiipiolckddnaaDoorTie.lean); close each card by the builder's one call (the guide's Derived/Test/ToyasCard.lean, 'card_holds'). Laid BY PROGRAM, IN A SANDBOX (cutbox-door.mjs). By AI agents, Wed Nov 11 2026. No macro, syntax, notation, axiom, sorry.
-/
import Derived.Test.YtjiipiolckddnaaDoorRows
import GoSem.ClaimSeven
namespace Go.Proofs.YtjiipiolckddnaaDoor
namespace Rows

/-- THE TIED CARD OF 'oriellaw06.SealWords'. -/
def sealWordsCard : Claim7 := { stood := { row := sealWordsRow, standIns := [], harness := (true, "c3452bfd7414859d46eb4109c20f94a9f35dd3e0488836d85a7e6045a9409748"), looks := false }, kinds := [], alts := [], laidByText := true, laidKinds := [.data, .data], laidTests := true, laidLooks := .later }
def SealWordsCardSaid : Prop := Claim7.holds Tryd.pinned (.plain (OpenSpec.ofChange sealWordsSpec)) sealWordsCard

/-- THE TIED CARD OF 'oriellaw06.SealSeals'. -/
def sealSealsCard : Claim7 := { stood := { row := sealSealsRow, standIns := [], harness := (true, "c3452bfd7414859d46eb4109c20f94a9f35dd3e0488836d85a7e6045a9409748"), looks := false }, kinds := [], alts := [], laidByText := true, laidKinds := [.data, .data], laidTests := true, laidLooks := .later }
def SealSealsCardSaid : Prop := Claim7.holds Tryd.pinned (.plain (OpenSpec.ofChange sealSealsSpec)) sealSealsCard

/-- THE TIED CARD OF 'oriellaw06.SealOpens'. -/
def sealOpensCard : Claim7 := { stood := { row := sealOpensRow, standIns := [], harness := (true, "c3452bfd7414859d46eb4109c20f94a9f35dd3e0488836d85a7e6045a9409748"), looks := false }, kinds := [], alts := [], laidByText := true, laidKinds := [.data, .data], laidTests := true, laidLooks := .later }
def SealOpensCardSaid : Prop := Claim7.holds Tryd.pinned (.plain (OpenSpec.ofChange sealOpensSpec)) sealOpensCard

/-- THE TIED CARD OF 'oriellaw06.SealMade'. -/
def sealMadeCard : Claim7 := { stood := { row := sealMadeRow, standIns := [], harness := (true, "c3452bfd7414859d46eb4109c20f94a9f35dd3e0488836d85a7e6045a9409748"), looks := false }, kinds := [], alts := [], laidByText := true, laidKinds := [.data, .data], laidTests := true, laidLooks := .later }
def SealMadeCardSaid : Prop := Claim7.holds Tryd.pinned (.plain (OpenSpec.ofChange sealMadeSpec)) sealMadeCard

/-- THE TIED CARD OF 'oriellaw06.SealBack'. -/
def sealBackCard : Claim7 := { stood := { row := sealBackRow, standIns := [], harness := (true, "c3452bfd7414859d46eb4109c20f94a9f35dd3e0488836d85a7e6045a9409748"), looks := false }, kinds := [], alts := [], laidByText := true, laidKinds := [.data, .data], laidTests := true, laidLooks := .later }
def SealBackCardSaid : Prop := Claim7.holds Tryd.pinned (.plain (OpenSpec.ofChange sealBackSpec)) sealBackCard

/-- THE TIED CARD OF 'oriellaw06.SealApart'. -/
def sealApartCard : Claim7 := { stood := { row := sealApartRow, standIns := [], harness := (true, "c3452bfd7414859d46eb4109c20f94a9f35dd3e0488836d85a7e6045a9409748"), looks := false }, kinds := [], alts := [], laidByText := true, laidKinds := [.data, .data], laidTests := true, laidLooks := .later }
def SealApartCardSaid : Prop := Claim7.holds Tryd.pinned (.plain (OpenSpec.ofChange sealApartSpec)) sealApartCard

/-- THE SECOND FORM's CARD OF 'oriellaw06.SealWords'. -/
def sealWordsUptoCard : Claim7 := { stood := { row := sealWordsUptoRow, standIns := [], harness := (true, "c3452bfd7414859d46eb4109c20f94a9f35dd3e0488836d85a7e6045a9409748"), looks := false }, kinds := [], alts := [], laidByText := true, laidKinds := [.data, .data], laidTests := true, laidLooks := .later }
def SealWordsUptoCardSaid : Prop := Claim7.holds Tryd.pinned (.plain (OpenSpec.upto sealWordsSpec)) sealWordsUptoCard

/-- THE SECOND FORM's CARD OF 'oriellaw06.SealSeals'. -/
def sealSealsUptoCard : Claim7 := { stood := { row := sealSealsUptoRow, standIns := [], harness := (true, "c3452bfd7414859d46eb4109c20f94a9f35dd3e0488836d85a7e6045a9409748"), looks := false }, kinds := [], alts := [], laidByText := true, laidKinds := [.data, .data], laidTests := true, laidLooks := .later }
def SealSealsUptoCardSaid : Prop := Claim7.holds Tryd.pinned (.plain (OpenSpec.upto sealSealsSpec)) sealSealsUptoCard

/-- THE SECOND FORM's CARD OF 'oriellaw06.SealOpens'. -/
def sealOpensUptoCard : Claim7 := { stood := { row := sealOpensUptoRow, standIns := [], harness := (true, "c3452bfd7414859d46eb4109c20f94a9f35dd3e0488836d85a7e6045a9409748"), looks := false }, kinds := [], alts := [], laidByText := true, laidKinds := [.data, .data], laidTests := true, laidLooks := .later }
def SealOpensUptoCardSaid : Prop := Claim7.holds Tryd.pinned (.plain (OpenSpec.upto sealOpensSpec)) sealOpensUptoCard

/-- THE SECOND FORM's CARD OF 'oriellaw06.SealMade'. -/
def sealMadeUptoCard : Claim7 := { stood := { row := sealMadeUptoRow, standIns := [], harness := (true, "c3452bfd7414859d46eb4109c20f94a9f35dd3e0488836d85a7e6045a9409748"), looks := false }, kinds := [], alts := [], laidByText := true, laidKinds := [.data, .data], laidTests := true, laidLooks := .later }
def SealMadeUptoCardSaid : Prop := Claim7.holds Tryd.pinned (.plain (OpenSpec.upto sealMadeSpec)) sealMadeUptoCard

/-- THE SECOND FORM's CARD OF 'oriellaw06.SealBack'. -/
def sealBackUptoCard : Claim7 := { stood := { row := sealBackUptoRow, standIns := [], harness := (true, "c3452bfd7414859d46eb4109c20f94a9f35dd3e0488836d85a7e6045a9409748"), looks := false }, kinds := [], alts := [], laidByText := true, laidKinds := [.data, .data], laidTests := true, laidLooks := .later }
def SealBackUptoCardSaid : Prop := Claim7.holds Tryd.pinned (.plain (OpenSpec.upto sealBackSpec)) sealBackUptoCard

/-- THE SECOND FORM's CARD OF 'oriellaw06.SealApart'. -/
def sealApartUptoCard : Claim7 := { stood := { row := sealApartUptoRow, standIns := [], harness := (true, "c3452bfd7414859d46eb4109c20f94a9f35dd3e0488836d85a7e6045a9409748"), looks := false }, kinds := [], alts := [], laidByText := true, laidKinds := [.data, .data], laidTests := true, laidLooks := .later }
def SealApartUptoCardSaid : Prop := Claim7.holds Tryd.pinned (.plain (OpenSpec.upto sealApartSpec)) sealApartUptoCard
end Rows
end Go.Proofs.YtjiipiolckddnaaDoor
