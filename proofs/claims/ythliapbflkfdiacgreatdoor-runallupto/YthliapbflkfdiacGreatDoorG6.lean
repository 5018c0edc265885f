/- Steps of the proof. -/
import Derived.Test.YthliapbflkfdiacGreatDoorG5
namespace Go.Proofs.YthliapbflkfdiacGreatDoor
open Go.RowKit
set_option linter.unusedVariables false
set_option linter.unusedSimpArgs false
set_option maxRecDepth 100000
set_option maxHeartbeats 1000000
section
variable {M:List Nat} {w0:World} {H:List (Nat×Obj)} {F:List (World→Prop)} {b mb clk ub:Nat} {es:Array MapEntry} {TR:Value} {rest:List Value} {O:List (Nat×Obj)} {G:List GB}
end
end Go.Proofs.YthliapbflkfdiacGreatDoor
