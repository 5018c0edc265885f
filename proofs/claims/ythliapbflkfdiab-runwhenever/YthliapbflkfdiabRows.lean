/-
  NARROWER THAN 'FOR EVERY INPUT', by the rows' own cells (each row's printed sentence says how): CodeTerms: loops · RunWhenever: loops.
  DERIVED. THE GIVEN ROWS OF THIS SEAT. 10 by the template 'for every input the law returns true; each argument reads behind the call as it read before'; 0 by the template 'total and deterministic' (their statements: YthliapbflkfdiabTotals.lean).
  GIVEN WITH THE SEED: the statements are not yours to turn. If you find one false, say at which input.
  Laid BY PROGRAM, IN A SANDBOX (cutbox-rows.mjs): the forced cells as the released guide's own fill.sh prints them over the translation 11bbeaa7e3f90f47… (all of the seat's roots in one cut). By AI agents, Wed Nov 11 2026. No macro, syntax, notation, axiom, sorry.
-/
import Derived.Test.YthliapbflkfdiabChecked
import GoSem.Claim
import GoSem.ClaimJoined
import GoSem.ClaimMapViews
import Derived.JoinedTies
import Derived.KernelRfl
namespace Go.Proofs.Ythliapbflkfdiab
/- THE CELL 'sum', in the pinned program and in every row, IS THE sha256 OF THE DUMP (.gsa) THAT YthliapbflkfdiabProg.lean LOADS. Nothing in Lean hashes anything: it is a label: what it is worth is what the hold of that sum in a sandbox is worth. -/
noncomputable def Try.pinned : Pinned := { name := "ythliapbflkfdiab", sum := "11bbeaa7e3f90f47ff86ef0d6d117e420464e5e112b0c42f9cdb4c7ba7150c7b", checked := Try.checked }
namespace Rows
def none {H : Type} : Left H := { results := [], args := [] }

/-- 'queristlaw.HeapUnifies': WHATEVER THE INPUT: true; the input reads as it did. -/
def heapUnifiesSpec : ChangeSpec := { name := "heapUnifies", fn := fun _ => fun
  | [d1, d2, d3] => { results := [.lit (.bool true)], args := [d1, d2, d3] }
  | _ => none }
def heapUnifiesRow : OpenClaim := { program := "ythliapbflkfdiab", sum := "11bbeaa7e3f90f47ff86ef0d6d117e420464e5e112b0c42f9cdb4c7ba7150c7b", func := "querist/queristlaw.HeapUnifies", spec := "heapUnifies", unfollowed := true, recurses := true, apart := false }
def HeapUnifiesSaid : Prop := heapUnifiesRow.holds Try.pinned (OpenSpec.ofChange heapUnifiesSpec)

/-- ITS FALSE NEIGHBOUR: 'it returns false'. Refute it at one input. -/
def heapUnifiesWrong : ChangeSpec := { name := "heapUnifies", fn := fun _ => fun
  | [d1, d2, d3] => { results := [.lit (.bool false)], args := [d1, d2, d3] }
  | _ => none }
def HeapUnifiesWrongFalsely : Prop := heapUnifiesRow.holds Try.pinned (OpenSpec.ofChange heapUnifiesWrong)

/-- 'queristlaw.HeapBacks': WHATEVER THE INPUT: true; the input reads as it did. -/
def heapBacksSpec : ChangeSpec := { name := "heapBacks", fn := fun _ => fun
  | [d1, d2] => { results := [.lit (.bool true)], args := [d1, d2] }
  | _ => none }
def heapBacksRow : OpenClaim := { program := "ythliapbflkfdiab", sum := "11bbeaa7e3f90f47ff86ef0d6d117e420464e5e112b0c42f9cdb4c7ba7150c7b", func := "querist/queristlaw.HeapBacks", spec := "heapBacks", recurses := true, apart := false }
def HeapBacksSaid : Prop := heapBacksRow.holds Try.pinned (OpenSpec.ofChange heapBacksSpec)

/-- ITS FALSE NEIGHBOUR: 'it returns false'. Refute it at one input. -/
def heapBacksWrong : ChangeSpec := { name := "heapBacks", fn := fun _ => fun
  | [d1, d2] => { results := [.lit (.bool false)], args := [d1, d2] }
  | _ => none }
def HeapBacksWrongFalsely : Prop := heapBacksRow.holds Try.pinned (OpenSpec.ofChange heapBacksWrong)

/-- 'queristlaw.HeapTerms': WHATEVER THE INPUT: true; the input reads as it did. -/
def heapTermsSpec : ChangeSpec := { name := "heapTerms", fn := fun _ => fun
  | [d1, d2, d3] => { results := [.lit (.bool true)], args := [d1, d2, d3] }
  | _ => none }
def heapTermsRow : OpenClaim := { program := "ythliapbflkfdiab", sum := "11bbeaa7e3f90f47ff86ef0d6d117e420464e5e112b0c42f9cdb4c7ba7150c7b", func := "querist/queristlaw.HeapTerms", spec := "heapTerms", recurses := true, apart := false }
def HeapTermsSaid : Prop := heapTermsRow.holds Try.pinned (OpenSpec.ofChange heapTermsSpec)

/-- ITS FALSE NEIGHBOUR: 'it returns false'. Refute it at one input. -/
def heapTermsWrong : ChangeSpec := { name := "heapTerms", fn := fun _ => fun
  | [d1, d2, d3] => { results := [.lit (.bool false)], args := [d1, d2, d3] }
  | _ => none }
def HeapTermsWrongFalsely : Prop := heapTermsRow.holds Try.pinned (OpenSpec.ofChange heapTermsWrong)

/-- 'queristlaw.HeapCollects': WHATEVER THE INPUT: true; the input reads as it did. -/
def heapCollectsSpec : ChangeSpec := { name := "heapCollects", fn := fun _ => fun
  | [d1, d2, d3, d4] => { results := [.lit (.bool true)], args := [d1, d2, d3, d4] }
  | _ => none }
def heapCollectsRow : OpenClaim := { program := "ythliapbflkfdiab", sum := "11bbeaa7e3f90f47ff86ef0d6d117e420464e5e112b0c42f9cdb4c7ba7150c7b", func := "querist/queristlaw.HeapCollects", spec := "heapCollects", unfollowed := true, recurses := true, apart := false }
def HeapCollectsSaid : Prop := heapCollectsRow.holds Try.pinned (OpenSpec.ofChange heapCollectsSpec)

/-- ITS FALSE NEIGHBOUR: 'it returns false'. Refute it at one input. -/
def heapCollectsWrong : ChangeSpec := { name := "heapCollects", fn := fun _ => fun
  | [d1, d2, d3, d4] => { results := [.lit (.bool false)], args := [d1, d2, d3, d4] }
  | _ => none }
def HeapCollectsWrongFalsely : Prop := heapCollectsRow.holds Try.pinned (OpenSpec.ofChange heapCollectsWrong)

/-- 'queristkeep.HeapOne': WHATEVER THE INPUT: true; the input reads as it did. -/
def heapOneSpec : ChangeSpec := { name := "heapOne", fn := fun _ => fun
  | [d1, d2, d3] => { results := [.lit (.bool true)], args := [d1, d2, d3] }
  | _ => none }
def heapOneRow : OpenClaim := { program := "ythliapbflkfdiab", sum := "11bbeaa7e3f90f47ff86ef0d6d117e420464e5e112b0c42f9cdb4c7ba7150c7b", func := "querist/queristkeep.HeapOne", spec := "heapOne", recurses := true, apart := false }
def HeapOneSaid : Prop := heapOneRow.holds Try.pinned (OpenSpec.ofChange heapOneSpec)

/-- ITS FALSE NEIGHBOUR: 'it returns false'. Refute it at one input. -/
def heapOneWrong : ChangeSpec := { name := "heapOne", fn := fun _ => fun
  | [d1, d2, d3] => { results := [.lit (.bool false)], args := [d1, d2, d3] }
  | _ => none }
def HeapOneWrongFalsely : Prop := heapOneRow.holds Try.pinned (OpenSpec.ofChange heapOneWrong)

/-- 'queristkeep.HeapAgain': WHATEVER THE INPUT: true; the input reads as it did. -/
def heapAgainSpec : ChangeSpec := { name := "heapAgain", fn := fun _ => fun
  | [d1, d2, d3] => { results := [.lit (.bool true)], args := [d1, d2, d3] }
  | _ => none }
def heapAgainRow : OpenClaim := { program := "ythliapbflkfdiab", sum := "11bbeaa7e3f90f47ff86ef0d6d117e420464e5e112b0c42f9cdb4c7ba7150c7b", func := "querist/queristkeep.HeapAgain", spec := "heapAgain", recurses := true, apart := false }
def HeapAgainSaid : Prop := heapAgainRow.holds Try.pinned (OpenSpec.ofChange heapAgainSpec)

/-- ITS FALSE NEIGHBOUR: 'it returns false'. Refute it at one input. -/
def heapAgainWrong : ChangeSpec := { name := "heapAgain", fn := fun _ => fun
  | [d1, d2, d3] => { results := [.lit (.bool false)], args := [d1, d2, d3] }
  | _ => none }
def HeapAgainWrongFalsely : Prop := heapAgainRow.holds Try.pinned (OpenSpec.ofChange heapAgainWrong)

/-- 'queristkeep.HeapKeeps': WHATEVER THE INPUT: true; the input reads as it did. -/
def heapKeepsSpec : ChangeSpec := { name := "heapKeeps", fn := fun _ => fun
  | [d1, d2, d3] => { results := [.lit (.bool true)], args := [d1, d2, d3] }
  | _ => none }
def heapKeepsRow : OpenClaim := { program := "ythliapbflkfdiab", sum := "11bbeaa7e3f90f47ff86ef0d6d117e420464e5e112b0c42f9cdb4c7ba7150c7b", func := "querist/queristkeep.HeapKeeps", spec := "heapKeeps", unfollowed := true, recurses := true, apart := false }
def HeapKeepsSaid : Prop := heapKeepsRow.holds Try.pinned (OpenSpec.ofChange heapKeepsSpec)

/-- ITS FALSE NEIGHBOUR: 'it returns false'. Refute it at one input. -/
def heapKeepsWrong : ChangeSpec := { name := "heapKeeps", fn := fun _ => fun
  | [d1, d2, d3] => { results := [.lit (.bool false)], args := [d1, d2, d3] }
  | _ => none }
def HeapKeepsWrongFalsely : Prop := heapKeepsRow.holds Try.pinned (OpenSpec.ofChange heapKeepsWrong)

/-- 'queristkeep.HeapSmall': WHATEVER THE INPUT: true; the input reads as it did. -/
def heapSmallSpec : ChangeSpec := { name := "heapSmall", fn := fun _ => fun
  | [d1, d2, d3] => { results := [.lit (.bool true)], args := [d1, d2, d3] }
  | _ => none }
def heapSmallRow : OpenClaim := { program := "ythliapbflkfdiab", sum := "11bbeaa7e3f90f47ff86ef0d6d117e420464e5e112b0c42f9cdb4c7ba7150c7b", func := "querist/queristkeep.HeapSmall", spec := "heapSmall", unfollowed := true, recurses := true, apart := false }
def HeapSmallSaid : Prop := heapSmallRow.holds Try.pinned (OpenSpec.ofChange heapSmallSpec)

/-- ITS FALSE NEIGHBOUR: 'it returns false'. Refute it at one input. -/
def heapSmallWrong : ChangeSpec := { name := "heapSmall", fn := fun _ => fun
  | [d1, d2, d3] => { results := [.lit (.bool false)], args := [d1, d2, d3] }
  | _ => none }
def HeapSmallWrongFalsely : Prop := heapSmallRow.holds Try.pinned (OpenSpec.ofChange heapSmallWrong)

/-- 'queristkeep.CodeTerms': WHATEVER THE INPUT: true; the input reads as it did. -/
def codeTermsSpec : ChangeSpec := { name := "codeTerms", fn := fun _ => fun
  | [d1, d2] => { results := [.lit (.bool true)], args := [d1, d2] }
  | _ => none }
def codeTermsRow : OpenClaim := { program := "ythliapbflkfdiab", sum := "11bbeaa7e3f90f47ff86ef0d6d117e420464e5e112b0c42f9cdb4c7ba7150c7b", func := "querist/queristkeep.CodeTerms", spec := "codeTerms", unfollowed := true, recurses := true, loops := true, apart := false }
def CodeTermsSaid : Prop := codeTermsRow.holds Try.pinned (OpenSpec.ofChange codeTermsSpec)

/-- ITS FALSE NEIGHBOUR: 'it returns false'. Refute it at one input. -/
def codeTermsWrong : ChangeSpec := { name := "codeTerms", fn := fun _ => fun
  | [d1, d2] => { results := [.lit (.bool false)], args := [d1, d2] }
  | _ => none }
def CodeTermsWrongFalsely : Prop := codeTermsRow.holds Try.pinned (OpenSpec.ofChange codeTermsWrong)

/-- 'queristkeep.RunWhenever': WHATEVER THE INPUT: true; the input reads as it did. -/
def runWheneverSpec : ChangeSpec := { name := "runWhenever", fn := fun _ => fun
  | [d1, d2, d3, d4, d5, d6] => { results := [.lit (.bool true)], args := [d1, d2, d3, d4, d5, d6] }
  | _ => none }
def runWheneverRow : OpenClaim := { program := "ythliapbflkfdiab", sum := "11bbeaa7e3f90f47ff86ef0d6d117e420464e5e112b0c42f9cdb4c7ba7150c7b", func := "querist/queristkeep.RunWhenever", spec := "runWhenever", unfollowed := true, recurses := true, loops := true, apart := false }
def RunWheneverSaid : Prop := runWheneverRow.holds Try.pinned (OpenSpec.ofChange runWheneverSpec)

/-- ITS FALSE NEIGHBOUR: 'it returns false'. Refute it at one input. -/
def runWheneverWrong : ChangeSpec := { name := "runWhenever", fn := fun _ => fun
  | [d1, d2, d3, d4, d5, d6] => { results := [.lit (.bool false)], args := [d1, d2, d3, d4, d5, d6] }
  | _ => none }
def RunWheneverWrongFalsely : Prop := runWheneverRow.holds Try.pinned (OpenSpec.ofChange runWheneverWrong)

/- THE SECOND FORM. 'bulk': how many values and letters a reading holds, each counted each time it is reached (what is shared counts as often as it is met; a slice's spare places count too). A statement '..UptoSaid' is the law's where the arguments, and the package variables that the reading takes, are together of bulk at most 1048576: NARROWER than '..Said'. Prove '..Said' where nothing that the law and all that it calls make is longer than what came in: it says more and counts as full. Else prove '..UptoSaid'. A law counts once. -/
mutual
def uptoBulk {H : Type} : DataW H → Nat
  | .lit (.string bytes) => bytes.length + 1
  | .lit _ => 1
  | .nil => 1
  | .ptr d => uptoBulk d + 1
  | .slice elems spare => uptoBulkAll elems + uptoBulkAll spare + 1
  | .agg parts => uptoBulkAll parts + 1
  | .iface _ d => uptoBulk d + 1
  | .map entries => uptoBulkEntries entries + 1
  | .held _ => 1
def uptoBulkAll {H : Type} : List (DataW H) → Nat
  | [] => 0
  | d :: r => uptoBulk d + uptoBulkAll r
def uptoBulkEntries {H : Type} : List (Lit × DataW H) → Nat
  | [] => 0
  | x :: r => uptoBulkEntry x + uptoBulkEntries r
def uptoBulkEntry {H : Type} : Lit × DataW H → Nat
  | (.string bytes, d) => bytes.length + uptoBulk d + 1
  | (_, d) => uptoBulk d + 1
 end
def uptoSmall : (H : Type) → List (DataW H) → Bool := fun _ ds => decide (uptoBulkAll ds ≤ 1048576)
def OpenSpec.upto (s : _root_.Go.ChangeSpec) : _root_.Go.OpenSpec := { _root_.Go.OpenSpec.ofChange s with cond := some uptoSmall }

/-- 'queristlaw.HeapUnifies', WHERE WHAT IT READS IS OF BULK AT MOST 1048576: true; the input reads as it did. -/
def heapUnifiesUptoRow : OpenClaim := { program := "ythliapbflkfdiab", sum := "11bbeaa7e3f90f47ff86ef0d6d117e420464e5e112b0c42f9cdb4c7ba7150c7b", func := "querist/queristlaw.HeapUnifies", spec := "heapUnifies", unfollowed := true, recurses := true, apart := false, narrowed := true }
def HeapUnifiesUptoSaid : Prop := heapUnifiesUptoRow.holds Try.pinned (OpenSpec.upto heapUnifiesSpec)

/-- 'queristlaw.HeapBacks', WHERE WHAT IT READS IS OF BULK AT MOST 1048576: true; the input reads as it did. -/
def heapBacksUptoRow : OpenClaim := { program := "ythliapbflkfdiab", sum := "11bbeaa7e3f90f47ff86ef0d6d117e420464e5e112b0c42f9cdb4c7ba7150c7b", func := "querist/queristlaw.HeapBacks", spec := "heapBacks", recurses := true, apart := false, narrowed := true }
def HeapBacksUptoSaid : Prop := heapBacksUptoRow.holds Try.pinned (OpenSpec.upto heapBacksSpec)

/-- 'queristlaw.HeapTerms', WHERE WHAT IT READS IS OF BULK AT MOST 1048576: true; the input reads as it did. -/
def heapTermsUptoRow : OpenClaim := { program := "ythliapbflkfdiab", sum := "11bbeaa7e3f90f47ff86ef0d6d117e420464e5e112b0c42f9cdb4c7ba7150c7b", func := "querist/queristlaw.HeapTerms", spec := "heapTerms", recurses := true, apart := false, narrowed := true }
def HeapTermsUptoSaid : Prop := heapTermsUptoRow.holds Try.pinned (OpenSpec.upto heapTermsSpec)

/-- 'queristlaw.HeapCollects', WHERE WHAT IT READS IS OF BULK AT MOST 1048576: true; the input reads as it did. -/
def heapCollectsUptoRow : OpenClaim := { program := "ythliapbflkfdiab", sum := "11bbeaa7e3f90f47ff86ef0d6d117e420464e5e112b0c42f9cdb4c7ba7150c7b", func := "querist/queristlaw.HeapCollects", spec := "heapCollects", unfollowed := true, recurses := true, apart := false, narrowed := true }
def HeapCollectsUptoSaid : Prop := heapCollectsUptoRow.holds Try.pinned (OpenSpec.upto heapCollectsSpec)

/-- 'queristkeep.HeapOne', WHERE WHAT IT READS IS OF BULK AT MOST 1048576: true; the input reads as it did. -/
def heapOneUptoRow : OpenClaim := { program := "ythliapbflkfdiab", sum := "11bbeaa7e3f90f47ff86ef0d6d117e420464e5e112b0c42f9cdb4c7ba7150c7b", func := "querist/queristkeep.HeapOne", spec := "heapOne", recurses := true, apart := false, narrowed := true }
def HeapOneUptoSaid : Prop := heapOneUptoRow.holds Try.pinned (OpenSpec.upto heapOneSpec)

/-- 'queristkeep.HeapAgain', WHERE WHAT IT READS IS OF BULK AT MOST 1048576: true; the input reads as it did. -/
def heapAgainUptoRow : OpenClaim := { program := "ythliapbflkfdiab", sum := "11bbeaa7e3f90f47ff86ef0d6d117e420464e5e112b0c42f9cdb4c7ba7150c7b", func := "querist/queristkeep.HeapAgain", spec := "heapAgain", recurses := true, apart := false, narrowed := true }
def HeapAgainUptoSaid : Prop := heapAgainUptoRow.holds Try.pinned (OpenSpec.upto heapAgainSpec)

/-- 'queristkeep.HeapKeeps', WHERE WHAT IT READS IS OF BULK AT MOST 1048576: true; the input reads as it did. -/
def heapKeepsUptoRow : OpenClaim := { program := "ythliapbflkfdiab", sum := "11bbeaa7e3f90f47ff86ef0d6d117e420464e5e112b0c42f9cdb4c7ba7150c7b", func := "querist/queristkeep.HeapKeeps", spec := "heapKeeps", unfollowed := true, recurses := true, apart := false, narrowed := true }
def HeapKeepsUptoSaid : Prop := heapKeepsUptoRow.holds Try.pinned (OpenSpec.upto heapKeepsSpec)

/-- 'queristkeep.HeapSmall', WHERE WHAT IT READS IS OF BULK AT MOST 1048576: true; the input reads as it did. -/
def heapSmallUptoRow : OpenClaim := { program := "ythliapbflkfdiab", sum := "11bbeaa7e3f90f47ff86ef0d6d117e420464e5e112b0c42f9cdb4c7ba7150c7b", func := "querist/queristkeep.HeapSmall", spec := "heapSmall", unfollowed := true, recurses := true, apart := false, narrowed := true }
def HeapSmallUptoSaid : Prop := heapSmallUptoRow.holds Try.pinned (OpenSpec.upto heapSmallSpec)

/-- 'queristkeep.CodeTerms', WHERE WHAT IT READS IS OF BULK AT MOST 1048576: true; the input reads as it did. -/
def codeTermsUptoRow : OpenClaim := { program := "ythliapbflkfdiab", sum := "11bbeaa7e3f90f47ff86ef0d6d117e420464e5e112b0c42f9cdb4c7ba7150c7b", func := "querist/queristkeep.CodeTerms", spec := "codeTerms", unfollowed := true, recurses := true, loops := true, apart := false, narrowed := true }
def CodeTermsUptoSaid : Prop := codeTermsUptoRow.holds Try.pinned (OpenSpec.upto codeTermsSpec)

/-- 'queristkeep.RunWhenever', WHERE WHAT IT READS IS OF BULK AT MOST 1048576: true; the input reads as it did. -/
def runWheneverUptoRow : OpenClaim := { program := "ythliapbflkfdiab", sum := "11bbeaa7e3f90f47ff86ef0d6d117e420464e5e112b0c42f9cdb4c7ba7150c7b", func := "querist/queristkeep.RunWhenever", spec := "runWhenever", unfollowed := true, recurses := true, loops := true, apart := false, narrowed := true }
def RunWheneverUptoSaid : Prop := runWheneverUptoRow.holds Try.pinned (OpenSpec.upto runWheneverSpec)

end Rows
end Go.Proofs.Ythliapbflkfdiab
