/-
  NARROWER THAN 'FOR EVERY INPUT', by the rows' own cells (each row's printed sentence says how): TermTurns: loops · TermTidy: loops · SolveEnds: loops · SolveMore: loops · SolveGrows: loops.
  DERIVED. THE GIVEN ROWS OF THIS SEAT. 6 by the template 'for every input the law returns true; each argument reads behind the call as it read before'; 0 by the template 'total and deterministic' (their statements: YtjicoifjgokoiaaTotals.lean).
  GIVEN WITH THE SEED: the statements are not yours to turn. If you find one false, say at which input.
  Laid BY PROGRAM, IN A SANDBOX (cutbox-rows.mjs): the forced cells as the released guide's own fill.sh prints them over the translation 67be60829b3f4403… (all of the seat's roots in one cut). By AI agents, Wed Nov 11 2026. No macro, syntax, notation, axiom, sorry.
-/
import Derived.Test.YtjicoifjgokoiaaChecked
import GoSem.Claim
import GoSem.ClaimJoined
import GoSem.ClaimMapViews
import Derived.JoinedTies
import Derived.KernelRfl
namespace Go.Proofs.Ytjicoifjgokoiaa
/- THE CELL 'sum', in the pinned program and in every row, IS THE sha256 OF THE DUMP (.gsa) THAT YtjicoifjgokoiaaProg.lean LOADS. Nothing in Lean hashes anything: it is a label: what it is worth is what the hold of that sum in a sandbox is worth. -/
noncomputable def Try.pinned : Pinned := { name := "ytjicoifjgokoiaa", sum := "67be60829b3f440309171332f41812a3ea5de10181275db7a7967cd816b1f81c", checked := Try.checked }
namespace Rows
def none {H : Type} : Left H := { results := [], args := [] }

/-- 'queristlaw.TermTurns': WHATEVER THE INPUT: true; the input reads as it did. -/
def termTurnsSpec : ChangeSpec := { name := "termTurns", fn := fun _ => fun
  | [d1, d2, d3, d4] => { results := [.lit (.bool true)], args := [d1, d2, d3, d4] }
  | _ => none }
def termTurnsRow : OpenClaim := { program := "ytjicoifjgokoiaa", sum := "67be60829b3f440309171332f41812a3ea5de10181275db7a7967cd816b1f81c", func := "querist/queristlaw.TermTurns", spec := "termTurns", unfollowed := true, recurses := true, loops := true, apart := false }
def TermTurnsSaid : Prop := termTurnsRow.holds Try.pinned (OpenSpec.ofChange termTurnsSpec)

/-- ITS FALSE NEIGHBOUR: 'it returns false'. Refute it at one input. -/
def termTurnsWrong : ChangeSpec := { name := "termTurns", fn := fun _ => fun
  | [d1, d2, d3, d4] => { results := [.lit (.bool false)], args := [d1, d2, d3, d4] }
  | _ => none }
def TermTurnsWrongFalsely : Prop := termTurnsRow.holds Try.pinned (OpenSpec.ofChange termTurnsWrong)

/-- 'queristkeep.TermTidy': WHATEVER THE INPUT: true; the input reads as it did. -/
def termTidySpec : ChangeSpec := { name := "termTidy", fn := fun _ => fun
  | [d1, d2] => { results := [.lit (.bool true)], args := [d1, d2] }
  | _ => none }
def termTidyRow : OpenClaim := { program := "ytjicoifjgokoiaa", sum := "67be60829b3f440309171332f41812a3ea5de10181275db7a7967cd816b1f81c", func := "querist/queristkeep.TermTidy", spec := "termTidy", unfollowed := true, recurses := true, loops := true, apart := false }
def TermTidySaid : Prop := termTidyRow.holds Try.pinned (OpenSpec.ofChange termTidySpec)

/-- ITS FALSE NEIGHBOUR: 'it returns false'. Refute it at one input. -/
def termTidyWrong : ChangeSpec := { name := "termTidy", fn := fun _ => fun
  | [d1, d2] => { results := [.lit (.bool false)], args := [d1, d2] }
  | _ => none }
def TermTidyWrongFalsely : Prop := termTidyRow.holds Try.pinned (OpenSpec.ofChange termTidyWrong)

/-- 'queristkeep.SolveEnds': WHATEVER THE INPUT: true; the input reads as it did. -/
def solveEndsSpec : ChangeSpec := { name := "solveEnds", fn := fun _ => fun
  | [d1, d2, d3, d4] => { results := [.lit (.bool true)], args := [d1, d2, d3, d4] }
  | _ => none }
def solveEndsRow : OpenClaim := { program := "ytjicoifjgokoiaa", sum := "67be60829b3f440309171332f41812a3ea5de10181275db7a7967cd816b1f81c", func := "querist/queristkeep.SolveEnds", spec := "solveEnds", unfollowed := true, recurses := true, loops := true, apart := false }
def SolveEndsSaid : Prop := solveEndsRow.holds Try.pinned (OpenSpec.ofChange solveEndsSpec)

/-- ITS FALSE NEIGHBOUR: 'it returns false'. Refute it at one input. -/
def solveEndsWrong : ChangeSpec := { name := "solveEnds", fn := fun _ => fun
  | [d1, d2, d3, d4] => { results := [.lit (.bool false)], args := [d1, d2, d3, d4] }
  | _ => none }
def SolveEndsWrongFalsely : Prop := solveEndsRow.holds Try.pinned (OpenSpec.ofChange solveEndsWrong)

/-- 'queristkeep.SolveMore': WHATEVER THE INPUT: true; the input reads as it did. -/
def solveMoreSpec : ChangeSpec := { name := "solveMore", fn := fun _ => fun
  | [d1, d2, d3, d4, d5] => { results := [.lit (.bool true)], args := [d1, d2, d3, d4, d5] }
  | _ => none }
def solveMoreRow : OpenClaim := { program := "ytjicoifjgokoiaa", sum := "67be60829b3f440309171332f41812a3ea5de10181275db7a7967cd816b1f81c", func := "querist/queristkeep.SolveMore", spec := "solveMore", unfollowed := true, recurses := true, loops := true, apart := false }
def SolveMoreSaid : Prop := solveMoreRow.holds Try.pinned (OpenSpec.ofChange solveMoreSpec)

/-- ITS FALSE NEIGHBOUR: 'it returns false'. Refute it at one input. -/
def solveMoreWrong : ChangeSpec := { name := "solveMore", fn := fun _ => fun
  | [d1, d2, d3, d4, d5] => { results := [.lit (.bool false)], args := [d1, d2, d3, d4, d5] }
  | _ => none }
def SolveMoreWrongFalsely : Prop := solveMoreRow.holds Try.pinned (OpenSpec.ofChange solveMoreWrong)

/-- 'queristkeep.SolveGrows': WHATEVER THE INPUT: true; the input reads as it did. -/
def solveGrowsSpec : ChangeSpec := { name := "solveGrows", fn := fun _ => fun
  | [d1, d2, d3, d4, d5] => { results := [.lit (.bool true)], args := [d1, d2, d3, d4, d5] }
  | _ => none }
def solveGrowsRow : OpenClaim := { program := "ytjicoifjgokoiaa", sum := "67be60829b3f440309171332f41812a3ea5de10181275db7a7967cd816b1f81c", func := "querist/queristkeep.SolveGrows", spec := "solveGrows", unfollowed := true, recurses := true, loops := true, apart := false }
def SolveGrowsSaid : Prop := solveGrowsRow.holds Try.pinned (OpenSpec.ofChange solveGrowsSpec)

/-- ITS FALSE NEIGHBOUR: 'it returns false'. Refute it at one input. -/
def solveGrowsWrong : ChangeSpec := { name := "solveGrows", fn := fun _ => fun
  | [d1, d2, d3, d4, d5] => { results := [.lit (.bool false)], args := [d1, d2, d3, d4, d5] }
  | _ => none }
def SolveGrowsWrongFalsely : Prop := solveGrowsRow.holds Try.pinned (OpenSpec.ofChange solveGrowsWrong)

/-- 'queristlaw.HeapLoads': WHATEVER THE INPUT: true; the input reads as it did. -/
def heapLoadsSpec : ChangeSpec := { name := "heapLoads", fn := fun _ => fun
  | [d1, d2] => { results := [.lit (.bool true)], args := [d1, d2] }
  | _ => none }
def heapLoadsRow : OpenClaim := { program := "ytjicoifjgokoiaa", sum := "67be60829b3f440309171332f41812a3ea5de10181275db7a7967cd816b1f81c", func := "querist/queristlaw.HeapLoads", spec := "heapLoads", recurses := true, apart := false }
def HeapLoadsSaid : Prop := heapLoadsRow.holds Try.pinned (OpenSpec.ofChange heapLoadsSpec)

/-- ITS FALSE NEIGHBOUR: 'it returns false'. Refute it at one input. -/
def heapLoadsWrong : ChangeSpec := { name := "heapLoads", fn := fun _ => fun
  | [d1, d2] => { results := [.lit (.bool false)], args := [d1, d2] }
  | _ => none }
def HeapLoadsWrongFalsely : Prop := heapLoadsRow.holds Try.pinned (OpenSpec.ofChange heapLoadsWrong)

/- THE SECOND FORM. 'bulk': how many values and letters a reading holds, each counted each time it is reached (what is shared counts as often as it is met; a slice's spare places count too). A statement '..UptoSaid' is the law's where the arguments, and the package variables that the reading takes, are together of bulk at most 1048576: NARROWER than '..Said'. Prove '..Said' where nothing that the law and all that it calls make is longer than what came in: it says more and counts as full. Else prove '..UptoSaid'. A law counts once. -/
mutual
def uptoBulk {H : Type} : DataW H → Nat
  | .lit (.string bytes) => bytes.length + 1
  | .lit _ => 1
  | .nil => 1
  | .ptr d => uptoBulk d + 1
  | .slice elems spare => uptoBulkAll elems + uptoBulkAll spare + 1
  | .agg parts => uptoBulkAll parts + 1
  | .iface _ d => uptoBulk d + 1
  | .map entries => uptoBulkEntries entries + 1
  | .held _ => 1
def uptoBulkAll {H : Type} : List (DataW H) → Nat
  | [] => 0
  | d :: r => uptoBulk d + uptoBulkAll r
def uptoBulkEntries {H : Type} : List (Lit × DataW H) → Nat
  | [] => 0
  | x :: r => uptoBulkEntry x + uptoBulkEntries r
def uptoBulkEntry {H : Type} : Lit × DataW H → Nat
  | (.string bytes, d) => bytes.length + uptoBulk d + 1
  | (_, d) => uptoBulk d + 1
 end
def uptoSmall : (H : Type) → List (DataW H) → Bool := fun _ ds => decide (uptoBulkAll ds ≤ 1048576)
def OpenSpec.upto (s : _root_.Go.ChangeSpec) : _root_.Go.OpenSpec := { _root_.Go.OpenSpec.ofChange s with cond := some uptoSmall }

/-- 'queristlaw.TermTurns', WHERE WHAT IT READS IS OF BULK AT MOST 1048576: true; the input reads as it did. -/
def termTurnsUptoRow : OpenClaim := { program := "ytjicoifjgokoiaa", sum := "67be60829b3f440309171332f41812a3ea5de10181275db7a7967cd816b1f81c", func := "querist/queristlaw.TermTurns", spec := "termTurns", unfollowed := true, recurses := true, loops := true, apart := false, narrowed := true }
def TermTurnsUptoSaid : Prop := termTurnsUptoRow.holds Try.pinned (OpenSpec.upto termTurnsSpec)

/-- 'queristkeep.TermTidy', WHERE WHAT IT READS IS OF BULK AT MOST 1048576: true; the input reads as it did. -/
def termTidyUptoRow : OpenClaim := { program := "ytjicoifjgokoiaa", sum := "67be60829b3f440309171332f41812a3ea5de10181275db7a7967cd816b1f81c", func := "querist/queristkeep.TermTidy", spec := "termTidy", unfollowed := true, recurses := true, loops := true, apart := false, narrowed := true }
def TermTidyUptoSaid : Prop := termTidyUptoRow.holds Try.pinned (OpenSpec.upto termTidySpec)

/-- 'queristkeep.SolveEnds', WHERE WHAT IT READS IS OF BULK AT MOST 1048576: true; the input reads as it did. -/
def solveEndsUptoRow : OpenClaim := { program := "ytjicoifjgokoiaa", sum := "67be60829b3f440309171332f41812a3ea5de10181275db7a7967cd816b1f81c", func := "querist/queristkeep.SolveEnds", spec := "solveEnds", unfollowed := true, recurses := true, loops := true, apart := false, narrowed := true }
def SolveEndsUptoSaid : Prop := solveEndsUptoRow.holds Try.pinned (OpenSpec.upto solveEndsSpec)

/-- 'queristkeep.SolveMore', WHERE WHAT IT READS IS OF BULK AT MOST 1048576: true; the input reads as it did. -/
def solveMoreUptoRow : OpenClaim := { program := "ytjicoifjgokoiaa", sum := "67be60829b3f440309171332f41812a3ea5de10181275db7a7967cd816b1f81c", func := "querist/queristkeep.SolveMore", spec := "solveMore", unfollowed := true, recurses := true, loops := true, apart := false, narrowed := true }
def SolveMoreUptoSaid : Prop := solveMoreUptoRow.holds Try.pinned (OpenSpec.upto solveMoreSpec)

/-- 'queristkeep.SolveGrows', WHERE WHAT IT READS IS OF BULK AT MOST 1048576: true; the input reads as it did. -/
def solveGrowsUptoRow : OpenClaim := { program := "ytjicoifjgokoiaa", sum := "67be60829b3f440309171332f41812a3ea5de10181275db7a7967cd816b1f81c", func := "querist/queristkeep.SolveGrows", spec := "solveGrows", unfollowed := true, recurses := true, loops := true, apart := false, narrowed := true }
def SolveGrowsUptoSaid : Prop := solveGrowsUptoRow.holds Try.pinned (OpenSpec.upto solveGrowsSpec)

/-- 'queristlaw.HeapLoads', WHERE WHAT IT READS IS OF BULK AT MOST 1048576: true; the input reads as it did. -/
def heapLoadsUptoRow : OpenClaim := { program := "ytjicoifjgokoiaa", sum := "67be60829b3f440309171332f41812a3ea5de10181275db7a7967cd816b1f81c", func := "querist/queristlaw.HeapLoads", spec := "heapLoads", recurses := true, apart := false, narrowed := true }
def HeapLoadsUptoSaid : Prop := heapLoadsUptoRow.holds Try.pinned (OpenSpec.upto heapLoadsSpec)

end Rows
end Go.Proofs.Ytjicoifjgokoiaa
