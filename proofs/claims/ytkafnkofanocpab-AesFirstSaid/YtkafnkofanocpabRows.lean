/-
  No cell of these rows narrows 'for every input' (looked for: loops, veiled, ifaces, maps, wideKeys, modest, calm, conditions, laid).
  DERIVED. THE GIVEN ROWS OF THIS SEAT. 2 by the template 'for every input the law returns true; each argument reads behind the call as it read before'; 0 by the template 'total and deterministic' (their statements: YtkafnkofanocpabTotals.lean).
  GIVEN WITH THE SEED: the statements are not yours to turn. If you find one false, say at which input.
  Laid BY PROGRAM, IN A SANDBOX (cutbox-rows.mjs): the forced cells as the released guide's own fill.sh prints them over the translation d1c62cd479d5c151… (all of the seat's roots in one cut). By AI agents, Wed Nov 11 2026. No macro, syntax, notation, axiom, sorry.
-/
import Derived.Test.YtkafnkofanocpabChecked
import GoSem.Claim
import GoSem.ClaimJoined
import GoSem.ClaimMapViews
import Derived.JoinedTies
import Derived.KernelRfl
namespace Go.Proofs.Ytkafnkofanocpab
/- THE CELL 'sum', in the pinned program and in every row, IS THE sha256 OF THE DUMP (.gsa) THAT YtkafnkofanocpabProg.lean LOADS. Nothing in Lean hashes anything: it is a label: what it is worth is what the hold of that sum in a sandbox is worth. -/
noncomputable def Try.pinned : Pinned := { name := "ytkafnkofanocpab", sum := "d1c62cd479d5c1517836803d1b32f2d03c593050644e4c6d0b31babe953de75f", checked := Try.checked }
namespace Rows
def none {H : Type} : Left H := { results := [], args := [] }

/-- 'oriellaw04.AesSwaps': WHATEVER THE INPUT: true; the input reads as it did. -/
def aesSwapsSpec : ChangeSpec := { name := "aesSwaps", fn := fun _ => fun
  | [d1, d2] => { results := [.lit (.bool true)], args := [d1, d2] }
  | _ => none }
def aesSwapsRow : OpenClaim := { program := "ytkafnkofanocpab", sum := "d1c62cd479d5c1517836803d1b32f2d03c593050644e4c6d0b31babe953de75f", func := "oriel/oriellaw04.AesSwaps", spec := "aesSwaps", apart := false }
def AesSwapsSaid : Prop := aesSwapsRow.holds Try.pinned (OpenSpec.ofChange aesSwapsSpec)

/-- ITS FALSE NEIGHBOUR: 'it returns false'. Refute it at one input. -/
def aesSwapsWrong : ChangeSpec := { name := "aesSwaps", fn := fun _ => fun
  | [d1, d2] => { results := [.lit (.bool false)], args := [d1, d2] }
  | _ => none }
def AesSwapsWrongFalsely : Prop := aesSwapsRow.holds Try.pinned (OpenSpec.ofChange aesSwapsWrong)

/-- 'oriellaw04.AesFirst': WHATEVER THE INPUT: true; the input reads as it did. -/
def aesFirstSpec : ChangeSpec := { name := "aesFirst", fn := fun _ => fun
  | [d1, d2] => { results := [.lit (.bool true)], args := [d1, d2] }
  | _ => none }
def aesFirstRow : OpenClaim := { program := "ytkafnkofanocpab", sum := "d1c62cd479d5c1517836803d1b32f2d03c593050644e4c6d0b31babe953de75f", func := "oriel/oriellaw04.AesFirst", spec := "aesFirst", apart := false }
def AesFirstSaid : Prop := aesFirstRow.holds Try.pinned (OpenSpec.ofChange aesFirstSpec)

/-- ITS FALSE NEIGHBOUR: 'it returns false'. Refute it at one input. -/
def aesFirstWrong : ChangeSpec := { name := "aesFirst", fn := fun _ => fun
  | [d1, d2] => { results := [.lit (.bool false)], args := [d1, d2] }
  | _ => none }
def AesFirstWrongFalsely : Prop := aesFirstRow.holds Try.pinned (OpenSpec.ofChange aesFirstWrong)

/- THE SECOND FORM. 'bulk': how many values and letters a reading holds, each counted each time it is reached (what is shared counts as often as it is met; a slice's spare places count too). A statement '..UptoSaid' is the law's where the arguments, and the package variables that the reading takes, are together of bulk at most 1048576: NARROWER than '..Said'. Prove '..Said' where nothing that the law and all that it calls make is longer than what came in: it says more and counts as full. Else prove '..UptoSaid'. A law counts once. -/
mutual
def uptoBulk {H : Type} : DataW H → Nat
  | .lit (.string bytes) => bytes.length + 1
  | .lit _ => 1
  | .nil => 1
  | .ptr d => uptoBulk d + 1
  | .slice elems spare => uptoBulkAll elems + uptoBulkAll spare + 1
  | .agg parts => uptoBulkAll parts + 1
  | .iface _ d => uptoBulk d + 1
  | .map entries => uptoBulkEntries entries + 1
  | .held _ => 1
def uptoBulkAll {H : Type} : List (DataW H) → Nat
  | [] => 0
  | d :: r => uptoBulk d + uptoBulkAll r
def uptoBulkEntries {H : Type} : List (Lit × DataW H) → Nat
  | [] => 0
  | x :: r => uptoBulkEntry x + uptoBulkEntries r
def uptoBulkEntry {H : Type} : Lit × DataW H → Nat
  | (.string bytes, d) => bytes.length + uptoBulk d + 1
  | (_, d) => uptoBulk d + 1
 end
def uptoSmall : (H : Type) → List (DataW H) → Bool := fun _ ds => decide (uptoBulkAll ds ≤ 1048576)
def OpenSpec.upto (s : _root_.Go.ChangeSpec) : _root_.Go.OpenSpec := { _root_.Go.OpenSpec.ofChange s with cond := some uptoSmall }

/-- 'oriellaw04.AesSwaps', WHERE WHAT IT READS IS OF BULK AT MOST 1048576: true; the input reads as it did. -/
def aesSwapsUptoRow : OpenClaim := { program := "ytkafnkofanocpab", sum := "d1c62cd479d5c1517836803d1b32f2d03c593050644e4c6d0b31babe953de75f", func := "oriel/oriellaw04.AesSwaps", spec := "aesSwaps", apart := false, narrowed := true }
def AesSwapsUptoSaid : Prop := aesSwapsUptoRow.holds Try.pinned (OpenSpec.upto aesSwapsSpec)

/-- 'oriellaw04.AesFirst', WHERE WHAT IT READS IS OF BULK AT MOST 1048576: true; the input reads as it did. -/
def aesFirstUptoRow : OpenClaim := { program := "ytkafnkofanocpab", sum := "d1c62cd479d5c1517836803d1b32f2d03c593050644e4c6d0b31babe953de75f", func := "oriel/oriellaw04.AesFirst", spec := "aesFirst", apart := false, narrowed := true }
def AesFirstUptoSaid : Prop := aesFirstUptoRow.holds Try.pinned (OpenSpec.upto aesFirstSpec)

end Rows
end Go.Proofs.Ytkafnkofanocpab
