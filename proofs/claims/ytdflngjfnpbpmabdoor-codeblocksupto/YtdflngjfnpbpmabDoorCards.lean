/-
  DERIVED. GIVEN WITH THE SEED: THE CARDS: each row of YtdflngjfnpbpmabDoorRows.lean that lists a variable, with what it lists TIED to the program's text (the seventh form; the later family's looks); each row that meets fmt, with fmt's text TOLD by the authors' own Lean function (tested against real Go, not proved from fmt's source: count such statements apart). THE CARD IS WHAT COUNTS. Prove the row's statement (the work); the ties are given (YtdflngjfnpbpmabDoorTie.lean); close each card by the builder's one call (the guide's Derived/Test/ToyasCard.lean, 'card_holds'). Laid BY PROGRAM, IN A SANDBOX (cutbox-door.mjs). By AI agents, Wed Nov 11 2026. No macro, syntax, notation, axiom, sorry.
-/
import Derived.Test.YtdflngjfnpbpmabDoorRows
import GoSem.ClaimSeven
namespace Go.Proofs.YtdflngjfnpbpmabDoor
namespace Rows

/-- THE TIED CARD OF 'queristlaw.CodeBlocks'. -/
def codeBlocksCard : Claim7 := { stood := { row := codeBlocksRow, standIns := [], harness := (true, "66dbdd42db9e415faa3d26fca5e1776761a659b5d0e18851098be65dca094b5a"), looks := false }, kinds := [], alts := [], laidByText := true, laidKinds := [.data, .pinned], laidTests := true, laidLooks := .later }
def CodeBlocksCardSaid : Prop := Claim7.holds Tryd.pinned (.plain (OpenSpec.ofChange codeBlocksSpec)) codeBlocksCard

/-- THE SECOND FORM's CARD OF 'queristlaw.CodeBlocks'. -/
def codeBlocksUptoCard : Claim7 := { stood := { row := codeBlocksUptoRow, standIns := [], harness := (true, "66dbdd42db9e415faa3d26fca5e1776761a659b5d0e18851098be65dca094b5a"), looks := false }, kinds := [], alts := [], laidByText := true, laidKinds := [.data, .pinned], laidTests := true, laidLooks := .later }
def CodeBlocksUptoCardSaid : Prop := Claim7.holds Tryd.pinned (.plain (OpenSpec.upto codeBlocksSpec)) codeBlocksUptoCard
end Rows
end Go.Proofs.YtdflngjfnpbpmabDoor
