/-
  DERIVED. GIVEN WITH THE SEED: THE CARDS: each row of YtdiophafmokfiaaGreatDoorRows.lean that lists a variable, with what it lists TIED to the program's text (the seventh form; the later family's looks); each row that meets fmt, with fmt's text TOLD by the authors' own Lean function (tested against real Go, not proved from fmt's source: count such statements apart). THE CARD IS WHAT COUNTS. Prove the row's statement (the work); the ties are given (YtdiophafmokfiaaGreatDoorTie.lean); close each card by the builder's one call (the guide's Derived/Test/ToyasCard.lean, 'card_holds'). Laid BY PROGRAM, IN A SANDBOX (cutbox-door.mjs). By AI agents, Wed Nov 11 2026. No macro, syntax, notation, axiom, sorry.
-/
import Derived.Test.YtdiophafmokfiaaGreatDoorRows
import GoSem.ClaimSeven
namespace Go.Proofs.YtdiophafmokfiaaGreatDoor
namespace Rows

/-- THE TIED CARD OF 'queristlaw.ReadPrograms'. -/
def readProgramsCard : Claim7 := { stood := { row := readProgramsRow, standIns := [], harness := (true, "29ecb8f9da84b4da6ae5a354697d643880ee6ee273c731ac1c93c3e51c12aee7"), looks := true }, kinds := [], alts := [], laidByText := true, laidKinds := [.data, .data, .data, .data, .sentinel, .sentinel, .pinned], laidTests := true, laidLooks := .later }
def ReadProgramsCardSaid : Prop := Claim7.holds Tryz.pinned (.plain (OpenSpec.ofChange readProgramsSpec)) readProgramsCard

/-- THE TIED CARD OF 'queristlaw.ReadQueries'. -/
def readQueriesCard : Claim7 := { stood := { row := readQueriesRow, standIns := [], harness := (true, "29ecb8f9da84b4da6ae5a354697d643880ee6ee273c731ac1c93c3e51c12aee7"), looks := true }, kinds := [], alts := [], laidByText := true, laidKinds := [.data, .data, .data, .data, .sentinel, .sentinel, .pinned], laidTests := true, laidLooks := .later }
def ReadQueriesCardSaid : Prop := Claim7.holds Tryz.pinned (.plain (OpenSpec.ofChange readQueriesSpec)) readQueriesCard

/-- THE SECOND FORM's CARD OF 'queristlaw.ReadPrograms'. -/
def readProgramsUptoCard : Claim7 := { stood := { row := readProgramsUptoRow, standIns := [], harness := (true, "29ecb8f9da84b4da6ae5a354697d643880ee6ee273c731ac1c93c3e51c12aee7"), looks := true }, kinds := [], alts := [], laidByText := true, laidKinds := [.data, .data, .data, .data, .sentinel, .sentinel, .pinned], laidTests := true, laidLooks := .later }
def ReadProgramsUptoCardSaid : Prop := Claim7.holds Tryz.pinned (.plain (OpenSpec.upto readProgramsSpec)) readProgramsUptoCard

/-- THE SECOND FORM's CARD OF 'queristlaw.ReadQueries'. -/
def readQueriesUptoCard : Claim7 := { stood := { row := readQueriesUptoRow, standIns := [], harness := (true, "29ecb8f9da84b4da6ae5a354697d643880ee6ee273c731ac1c93c3e51c12aee7"), looks := true }, kinds := [], alts := [], laidByText := true, laidKinds := [.data, .data, .data, .data, .sentinel, .sentinel, .pinned], laidTests := true, laidLooks := .later }
def ReadQueriesUptoCardSaid : Prop := Claim7.holds Tryz.pinned (.plain (OpenSpec.upto readQueriesSpec)) readQueriesUptoCard
end Rows
end Go.Proofs.YtdiophafmokfiaaGreatDoor
