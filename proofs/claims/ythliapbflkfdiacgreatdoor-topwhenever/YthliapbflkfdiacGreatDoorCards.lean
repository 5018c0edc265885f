/-
  DERIVED. GIVEN WITH THE SEED: THE CARDS: each row of YthliapbflkfdiacGreatDoorRows.lean that lists a variable, with what it lists TIED to the program's text (the seventh form; the later family's looks); each row that meets fmt, with fmt's text TOLD by the authors' own Lean function (tested against real Go, not proved from fmt's source: count such statements apart). THE CARD IS WHAT COUNTS. Prove the row's statement (the work); the ties are given (YthliapbflkfdiacGreatDoorTie.lean); close each card by the builder's one call (the guide's Derived/Test/ToyasCard.lean, 'card_holds'). Laid BY PROGRAM, IN A SANDBOX (cutbox-door.mjs). By AI agents, Wed Nov 11 2026. No macro, syntax, notation, axiom, sorry.
-/
import Derived.Test.YthliapbflkfdiacGreatDoorRows
import GoSem.ClaimSeven
namespace Go.Proofs.YthliapbflkfdiacGreatDoor
namespace Rows

/-- THE TIED CARD OF 'queristlaw.RunAll'. -/
def runAllCard : Claim7 := { stood := { row := runAllRow, standIns := [], harness := (true, "36752eb23006ca7f2224be6c4625119212bbc0f46dea5bb86e17ff54176f7b7d"), looks := true }, kinds := [], alts := [], laidByText := true, laidKinds := [.data, .pinned], laidTests := true, laidLooks := .later }
def RunAllCardSaid : Prop := Claim7.holds Tryz.pinned (.plain (OpenSpec.ofChange runAllSpec)) runAllCard

/-- THE TIED CARD OF 'queristlaw.EngineLines'. -/
def engineLinesCard : Claim7 := { stood := { row := engineLinesRow, standIns := [], harness := (true, "36752eb23006ca7f2224be6c4625119212bbc0f46dea5bb86e17ff54176f7b7d"), looks := true }, kinds := [], alts := [], laidByText := true, laidKinds := [.data, .data, .data, .data, .sentinel, .sentinel, .data, .pinned], laidTests := true, laidLooks := .later }
def EngineLinesCardSaid : Prop := Claim7.holds Tryz.pinned (.plain (OpenSpec.ofChange engineLinesSpec)) engineLinesCard

/-- THE TIED CARD OF 'queristtop.TopWhenever'. -/
def topWheneverCard : Claim7 := { stood := { row := topWheneverRow, standIns := [], harness := (true, "36752eb23006ca7f2224be6c4625119212bbc0f46dea5bb86e17ff54176f7b7d"), looks := true }, kinds := [], alts := [], laidByText := true, laidKinds := [.data, .data, .data, .data, .sentinel, .sentinel, .data, .pinned], laidTests := true, laidLooks := .later }
def TopWheneverCardSaid : Prop := Claim7.holds Tryz.pinned (.plain (OpenSpec.ofChange topWheneverSpec)) topWheneverCard

/-- THE TIED CARD OF 'queristtop.TopTerms'. -/
def topTermsCard : Claim7 := { stood := { row := topTermsRow, standIns := [], harness := (true, "36752eb23006ca7f2224be6c4625119212bbc0f46dea5bb86e17ff54176f7b7d"), looks := true }, kinds := [], alts := [], laidByText := true, laidKinds := [.data, .data, .data, .data, .sentinel, .sentinel, .data, .pinned], laidTests := true, laidLooks := .later }
def TopTermsCardSaid : Prop := Claim7.holds Tryz.pinned (.plain (OpenSpec.ofChange topTermsSpec)) topTermsCard

/-- THE TIED CARD OF 'queristtop.TopMore'. -/
def topMoreCard : Claim7 := { stood := { row := topMoreRow, standIns := [], harness := (true, "36752eb23006ca7f2224be6c4625119212bbc0f46dea5bb86e17ff54176f7b7d"), looks := true }, kinds := [], alts := [], laidByText := true, laidKinds := [.data, .data, .data, .data, .sentinel, .sentinel, .data, .pinned], laidTests := true, laidLooks := .later }
def TopMoreCardSaid : Prop := Claim7.holds Tryz.pinned (.plain (OpenSpec.ofChange topMoreSpec)) topMoreCard

/-- THE TIED CARD OF 'queristtop.TopEnds'. -/
def topEndsCard : Claim7 := { stood := { row := topEndsRow, standIns := [], harness := (true, "36752eb23006ca7f2224be6c4625119212bbc0f46dea5bb86e17ff54176f7b7d"), looks := true }, kinds := [], alts := [], laidByText := true, laidKinds := [.data, .data, .data, .data, .sentinel, .sentinel, .data, .pinned], laidTests := true, laidLooks := .later }
def TopEndsCardSaid : Prop := Claim7.holds Tryz.pinned (.plain (OpenSpec.ofChange topEndsSpec)) topEndsCard

/-- THE TIED CARD OF 'queristtop.TopGround'. -/
def topGroundCard : Claim7 := { stood := { row := topGroundRow, standIns := [], harness := (true, "36752eb23006ca7f2224be6c4625119212bbc0f46dea5bb86e17ff54176f7b7d"), looks := true }, kinds := [], alts := [], laidByText := true, laidKinds := [.data, .data, .data, .data, .sentinel, .sentinel, .data, .pinned], laidTests := true, laidLooks := .later }
def TopGroundCardSaid : Prop := Claim7.holds Tryz.pinned (.plain (OpenSpec.ofChange topGroundSpec)) topGroundCard

/-- THE TIED CARD OF 'queristtop.TopRefused'. -/
def topRefusedCard : Claim7 := { stood := { row := topRefusedRow, standIns := [], harness := (true, "36752eb23006ca7f2224be6c4625119212bbc0f46dea5bb86e17ff54176f7b7d"), looks := true }, kinds := [], alts := [], laidByText := true, laidKinds := [.data, .data, .data, .data, .sentinel, .sentinel, .data, .pinned], laidTests := true, laidLooks := .later }
def TopRefusedCardSaid : Prop := Claim7.holds Tryz.pinned (.plain (OpenSpec.ofChange topRefusedSpec)) topRefusedCard

/-- THE TIED CARD OF 'queristlaw.EngineAsks'. -/
def engineAsksCard : Claim7 := { stood := { row := engineAsksRow, standIns := [], harness := (true, "36752eb23006ca7f2224be6c4625119212bbc0f46dea5bb86e17ff54176f7b7d"), looks := true }, kinds := [], alts := [], laidByText := true, laidKinds := [.data, .data, .data, .data, .sentinel, .sentinel, .data, .pinned], laidTests := true, laidLooks := .later }
def EngineAsksCardSaid : Prop := Claim7.holds Tryz.pinned (.plain (OpenSpec.ofChange engineAsksSpec)) engineAsksCard

/-- THE SECOND FORM's CARD OF 'queristlaw.RunAll'. -/
def runAllUptoCard : Claim7 := { stood := { row := runAllUptoRow, standIns := [], harness := (true, "36752eb23006ca7f2224be6c4625119212bbc0f46dea5bb86e17ff54176f7b7d"), looks := true }, kinds := [], alts := [], laidByText := true, laidKinds := [.data, .pinned], laidTests := true, laidLooks := .later }
def RunAllUptoCardSaid : Prop := Claim7.holds Tryz.pinned (.plain (OpenSpec.upto runAllSpec)) runAllUptoCard

/-- THE SECOND FORM's CARD OF 'queristlaw.EngineLines'. -/
def engineLinesUptoCard : Claim7 := { stood := { row := engineLinesUptoRow, standIns := [], harness := (true, "36752eb23006ca7f2224be6c4625119212bbc0f46dea5bb86e17ff54176f7b7d"), looks := true }, kinds := [], alts := [], laidByText := true, laidKinds := [.data, .data, .data, .data, .sentinel, .sentinel, .data, .pinned], laidTests := true, laidLooks := .later }
def EngineLinesUptoCardSaid : Prop := Claim7.holds Tryz.pinned (.plain (OpenSpec.upto engineLinesSpec)) engineLinesUptoCard

/-- THE SECOND FORM's CARD OF 'queristtop.TopWhenever'. -/
def topWheneverUptoCard : Claim7 := { stood := { row := topWheneverUptoRow, standIns := [], harness := (true, "36752eb23006ca7f2224be6c4625119212bbc0f46dea5bb86e17ff54176f7b7d"), looks := true }, kinds := [], alts := [], laidByText := true, laidKinds := [.data, .data, .data, .data, .sentinel, .sentinel, .data, .pinned], laidTests := true, laidLooks := .later }
def TopWheneverUptoCardSaid : Prop := Claim7.holds Tryz.pinned (.plain (OpenSpec.upto topWheneverSpec)) topWheneverUptoCard

/-- THE SECOND FORM's CARD OF 'queristtop.TopTerms'. -/
def topTermsUptoCard : Claim7 := { stood := { row := topTermsUptoRow, standIns := [], harness := (true, "36752eb23006ca7f2224be6c4625119212bbc0f46dea5bb86e17ff54176f7b7d"), looks := true }, kinds := [], alts := [], laidByText := true, laidKinds := [.data, .data, .data, .data, .sentinel, .sentinel, .data, .pinned], laidTests := true, laidLooks := .later }
def TopTermsUptoCardSaid : Prop := Claim7.holds Tryz.pinned (.plain (OpenSpec.upto topTermsSpec)) topTermsUptoCard

/-- THE SECOND FORM's CARD OF 'queristtop.TopMore'. -/
def topMoreUptoCard : Claim7 := { stood := { row := topMoreUptoRow, standIns := [], harness := (true, "36752eb23006ca7f2224be6c4625119212bbc0f46dea5bb86e17ff54176f7b7d"), looks := true }, kinds := [], alts := [], laidByText := true, laidKinds := [.data, .data, .data, .data, .sentinel, .sentinel, .data, .pinned], laidTests := true, laidLooks := .later }
def TopMoreUptoCardSaid : Prop := Claim7.holds Tryz.pinned (.plain (OpenSpec.upto topMoreSpec)) topMoreUptoCard

/-- THE SECOND FORM's CARD OF 'queristtop.TopEnds'. -/
def topEndsUptoCard : Claim7 := { stood := { row := topEndsUptoRow, standIns := [], harness := (true, "36752eb23006ca7f2224be6c4625119212bbc0f46dea5bb86e17ff54176f7b7d"), looks := true }, kinds := [], alts := [], laidByText := true, laidKinds := [.data, .data, .data, .data, .sentinel, .sentinel, .data, .pinned], laidTests := true, laidLooks := .later }
def TopEndsUptoCardSaid : Prop := Claim7.holds Tryz.pinned (.plain (OpenSpec.upto topEndsSpec)) topEndsUptoCard

/-- THE SECOND FORM's CARD OF 'queristtop.TopGround'. -/
def topGroundUptoCard : Claim7 := { stood := { row := topGroundUptoRow, standIns := [], harness := (true, "36752eb23006ca7f2224be6c4625119212bbc0f46dea5bb86e17ff54176f7b7d"), looks := true }, kinds := [], alts := [], laidByText := true, laidKinds := [.data, .data, .data, .data, .sentinel, .sentinel, .data, .pinned], laidTests := true, laidLooks := .later }
def TopGroundUptoCardSaid : Prop := Claim7.holds Tryz.pinned (.plain (OpenSpec.upto topGroundSpec)) topGroundUptoCard

/-- THE SECOND FORM's CARD OF 'queristtop.TopRefused'. -/
def topRefusedUptoCard : Claim7 := { stood := { row := topRefusedUptoRow, standIns := [], harness := (true, "36752eb23006ca7f2224be6c4625119212bbc0f46dea5bb86e17ff54176f7b7d"), looks := true }, kinds := [], alts := [], laidByText := true, laidKinds := [.data, .data, .data, .data, .sentinel, .sentinel, .data, .pinned], laidTests := true, laidLooks := .later }
def TopRefusedUptoCardSaid : Prop := Claim7.holds Tryz.pinned (.plain (OpenSpec.upto topRefusedSpec)) topRefusedUptoCard

/-- THE SECOND FORM's CARD OF 'queristlaw.EngineAsks'. -/
def engineAsksUptoCard : Claim7 := { stood := { row := engineAsksUptoRow, standIns := [], harness := (true, "36752eb23006ca7f2224be6c4625119212bbc0f46dea5bb86e17ff54176f7b7d"), looks := true }, kinds := [], alts := [], laidByText := true, laidKinds := [.data, .data, .data, .data, .sentinel, .sentinel, .data, .pinned], laidTests := true, laidLooks := .later }
def EngineAsksUptoCardSaid : Prop := Claim7.holds Tryz.pinned (.plain (OpenSpec.upto engineAsksSpec)) engineAsksUptoCard
end Rows
end Go.Proofs.YthliapbflkfdiacGreatDoor
