/-
  DERIVED. GIVEN WITH THE SEED: THE CARDS: each row of YtijjifdgmffenaaDoorRows.lean that lists a variable, with what it lists TIED to the program's text (the seventh form; the later family's looks); each row that meets fmt, with fmt's text TOLD by the authors' own Lean function (tested against real Go, not proved from fmt's source: count such statements apart). THE CARD IS WHAT COUNTS. Prove the row's statement (the work); the ties are given (YtijjifdgmffenaaDoorTie.lean); close each card by the builder's one call (the guide's Derived/Test/ToyasCard.lean, 'card_holds'). Laid BY PROGRAM, IN A SANDBOX (cutbox-door.mjs). By AI agents, Wed Nov 11 2026. No macro, syntax, notation, axiom, sorry.
-/
import Derived.Test.YtijjifdgmffenaaDoorRows
import GoSem.ClaimSeven
namespace Go.Proofs.YtijjifdgmffenaaDoor
namespace Rows

/-- THE TIED CARD OF 'oriellaw10.UtfForms'. -/
def utfFormsCard : Claim7 := { stood := { row := utfFormsRow, standIns := [], harness := (true, "108a4241cf9c8b4826c3678c800f3f7cfbda33d3e14e33cb8c38fbe19651759a"), looks := false }, kinds := [], alts := [], laidByText := true, laidKinds := [.data], laidTests := true, laidLooks := .later }
def UtfFormsCardSaid : Prop := Claim7.holds Tryd.pinned (.plain (OpenSpec.ofChange utfFormsSpec)) utfFormsCard

/-- THE TIED CARD OF 'oriellaw10.UtfDecodes'. -/
def utfDecodesCard : Claim7 := { stood := { row := utfDecodesRow, standIns := [], harness := (true, "108a4241cf9c8b4826c3678c800f3f7cfbda33d3e14e33cb8c38fbe19651759a"), looks := false }, kinds := [], alts := [], laidByText := true, laidKinds := [.data], laidTests := true, laidLooks := .later }
def UtfDecodesCardSaid : Prop := Claim7.holds Tryd.pinned (.plain (OpenSpec.ofChange utfDecodesSpec)) utfDecodesCard

/-- THE TIED CARD OF 'oriellaw10.UtfPlays'. -/
def utfPlaysCard : Claim7 := { stood := { row := utfPlaysRow, standIns := [], harness := (true, "108a4241cf9c8b4826c3678c800f3f7cfbda33d3e14e33cb8c38fbe19651759a"), looks := false }, kinds := [], alts := [], laidByText := true, laidKinds := [.data], laidTests := true, laidLooks := .later }
def UtfPlaysCardSaid : Prop := Claim7.holds Tryd.pinned (.plain (OpenSpec.ofChange utfPlaysSpec)) utfPlaysCard

/-- THE TIED CARD OF 'oriellaw10.UtfNone'. -/
def utfNoneCard : Claim7 := { stood := { row := utfNoneRow, standIns := [], harness := (true, "108a4241cf9c8b4826c3678c800f3f7cfbda33d3e14e33cb8c38fbe19651759a"), looks := false }, kinds := [], alts := [], laidByText := true, laidKinds := [.data], laidTests := true, laidLooks := .later }
def UtfNoneCardSaid : Prop := Claim7.holds Tryd.pinned (.plain (OpenSpec.ofChange utfNoneSpec)) utfNoneCard

/-- THE TIED CARD OF 'oriellaw10.UtfPieces'. -/
def utfPiecesCard : Claim7 := { stood := { row := utfPiecesRow, standIns := [], harness := (true, "108a4241cf9c8b4826c3678c800f3f7cfbda33d3e14e33cb8c38fbe19651759a"), looks := false }, kinds := [], alts := [], laidByText := true, laidKinds := [.data], laidTests := true, laidLooks := .later }
def UtfPiecesCardSaid : Prop := Claim7.holds Tryd.pinned (.plain (OpenSpec.ofChange utfPiecesSpec)) utfPiecesCard

/-- THE TIED CARD OF 'oriellaw10.UtfBack'. -/
def utfBackCard : Claim7 := { stood := { row := utfBackRow, standIns := [], harness := (true, "108a4241cf9c8b4826c3678c800f3f7cfbda33d3e14e33cb8c38fbe19651759a"), looks := false }, kinds := [], alts := [], laidByText := true, laidKinds := [.data], laidTests := true, laidLooks := .later }
def UtfBackCardSaid : Prop := Claim7.holds Tryd.pinned (.plain (OpenSpec.ofChange utfBackSpec)) utfBackCard

/-- THE SECOND FORM's CARD OF 'oriellaw10.UtfForms'. -/
def utfFormsUptoCard : Claim7 := { stood := { row := utfFormsUptoRow, standIns := [], harness := (true, "108a4241cf9c8b4826c3678c800f3f7cfbda33d3e14e33cb8c38fbe19651759a"), looks := false }, kinds := [], alts := [], laidByText := true, laidKinds := [.data], laidTests := true, laidLooks := .later }
def UtfFormsUptoCardSaid : Prop := Claim7.holds Tryd.pinned (.plain (OpenSpec.upto utfFormsSpec)) utfFormsUptoCard

/-- THE SECOND FORM's CARD OF 'oriellaw10.UtfDecodes'. -/
def utfDecodesUptoCard : Claim7 := { stood := { row := utfDecodesUptoRow, standIns := [], harness := (true, "108a4241cf9c8b4826c3678c800f3f7cfbda33d3e14e33cb8c38fbe19651759a"), looks := false }, kinds := [], alts := [], laidByText := true, laidKinds := [.data], laidTests := true, laidLooks := .later }
def UtfDecodesUptoCardSaid : Prop := Claim7.holds Tryd.pinned (.plain (OpenSpec.upto utfDecodesSpec)) utfDecodesUptoCard

/-- THE SECOND FORM's CARD OF 'oriellaw10.UtfPlays'. -/
def utfPlaysUptoCard : Claim7 := { stood := { row := utfPlaysUptoRow, standIns := [], harness := (true, "108a4241cf9c8b4826c3678c800f3f7cfbda33d3e14e33cb8c38fbe19651759a"), looks := false }, kinds := [], alts := [], laidByText := true, laidKinds := [.data], laidTests := true, laidLooks := .later }
def UtfPlaysUptoCardSaid : Prop := Claim7.holds Tryd.pinned (.plain (OpenSpec.upto utfPlaysSpec)) utfPlaysUptoCard

/-- THE SECOND FORM's CARD OF 'oriellaw10.UtfNone'. -/
def utfNoneUptoCard : Claim7 := { stood := { row := utfNoneUptoRow, standIns := [], harness := (true, "108a4241cf9c8b4826c3678c800f3f7cfbda33d3e14e33cb8c38fbe19651759a"), looks := false }, kinds := [], alts := [], laidByText := true, laidKinds := [.data], laidTests := true, laidLooks := .later }
def UtfNoneUptoCardSaid : Prop := Claim7.holds Tryd.pinned (.plain (OpenSpec.upto utfNoneSpec)) utfNoneUptoCard

/-- THE SECOND FORM's CARD OF 'oriellaw10.UtfPieces'. -/
def utfPiecesUptoCard : Claim7 := { stood := { row := utfPiecesUptoRow, standIns := [], harness := (true, "108a4241cf9c8b4826c3678c800f3f7cfbda33d3e14e33cb8c38fbe19651759a"), looks := false }, kinds := [], alts := [], laidByText := true, laidKinds := [.data], laidTests := true, laidLooks := .later }
def UtfPiecesUptoCardSaid : Prop := Claim7.holds Tryd.pinned (.plain (OpenSpec.upto utfPiecesSpec)) utfPiecesUptoCard

/-- THE SECOND FORM's CARD OF 'oriellaw10.UtfBack'. -/
def utfBackUptoCard : Claim7 := { stood := { row := utfBackUptoRow, standIns := [], harness := (true, "108a4241cf9c8b4826c3678c800f3f7cfbda33d3e14e33cb8c38fbe19651759a"), looks := false }, kinds := [], alts := [], laidByText := true, laidKinds := [.data], laidTests := true, laidLooks := .later }
def UtfBackUptoCardSaid : Prop := Claim7.holds Tryd.pinned (.plain (OpenSpec.upto utfBackSpec)) utfBackUptoCard
end Rows
end Go.Proofs.YtijjifdgmffenaaDoor
