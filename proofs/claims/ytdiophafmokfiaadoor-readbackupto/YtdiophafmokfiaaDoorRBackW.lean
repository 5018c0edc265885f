/-
  A world for the witness of ReadBack's row: the variables hold what is listed.
-/
import Derived.Test.YtdiophafmokfiaaDoorRBack
namespace Go.Proofs.YtdiophafmokfiaaDoor
open Go.RowKit Go.ChangeShapes Go.WideShapes Go.ChangeAt
set_option maxRecDepth 100000

def withCells2 (cs : Array Value) : Obj → Obj
  | .cells _ t frozen => .cells cs t frozen
  | o => o
def cellOfLit : DataW Unit → Value
  | .lit (.int k z) => .int k z
  | _ => .pointer none
def tabOf : DataW Unit → Array Value
  | .agg ds => (ds.map cellOfLit).toArray
  | _ => #[]
def synT : ByteArray := ⟨#[105, 110, 118, 97, 108, 105, 100, 32, 115, 121, 110, 116, 97, 120]⟩
def rngT : ByteArray := ⟨#[118, 97, 108, 117, 101, 32, 111, 117, 116, 32, 111, 102, 32, 114, 97, 110, 103, 101]⟩
noncomputable def lowH : Nat := (World.holding Tryd.prog default ⟨#[], #[], []⟩).heap.size
noncomputable def laidHeap (h : Array Obj) : Array Obj :=
  (((((((h.modify 0 (withCells2 (Go.Pinned.utf8FirstZ.map fun (x : Nat) => Value.int .u8 (x : Int)).toArray)).modify 1 (withCells2 (([128, 191, 160, 191, 128, 159, 144, 191, 128, 143] ++ List.replicate 22 (0 : Int)).map fun x => Value.int .u8 x).toArray)).modify 3 (withCells2 (tabOf Rows.laid_internal_strconv_uint64pow10))).modify 4
    (withCells2 #[.iface 206 (.pointer (some ⟨lowH, 0, none⟩))])).modify 5 (withCells2 #[.iface 206 (.pointer (some ⟨lowH + 1, 0, none⟩))])).modify 6 (withCells2 (tabOf Rows.laid_math_bits_deBruijn32tab))).modify 7 (withCells2 (tabOf Rows.laid_math_bits_deBruijn64tab)))
/-- A world for the witness: the variables hold what is listed. -/
noncomputable def laidSix (os : Os) : World :=
  { World.holding Tryd.prog os ⟨#[.cells #[.string synT] 208, .cells #[.string rngT] 208], #[], []⟩ with heap := laidHeap (World.holding Tryd.prog os ⟨#[.cells #[.string synT] 208, .cells #[.string rngT] 208], #[], []⟩).heap }
theorem six_met (os : Os) : laidMet Tryd.prog Rows.readBackUptoRow.laid ((laidSix os).forCall (fun _ _ => 0) ⟨#[], #[.slice none 0 0], []⟩).memory :=
  laidMet_of_run' 8 (by kernel_rfl) (by kernel_rfl)
end Go.Proofs.YtdiophafmokfiaaDoor
