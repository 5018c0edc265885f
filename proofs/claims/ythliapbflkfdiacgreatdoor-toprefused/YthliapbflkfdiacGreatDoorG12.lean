/-
  The built-in predicates eq, less and add, walked.
-/
import Derived.Test.YthliapbflkfdiacGreatDoorG11
namespace Go.Proofs.YthliapbflkfdiacGreatDoor
open Go.RowKit
set_option linter.unusedVariables false
set_option linter.unusedSimpArgs false
set_option maxRecDepth 100000
set_option maxHeartbeats 1000000

/-- A unification of two terms of the search's own keeps the state. -/
theorem equal_inv {s : SS} {a t : Tm} (hI : InvC s) (hsl : s.B.length + 10100 * (mu s + 1) ≤ 1000000000) (ha : tgd a) (ht : tgd t) : InvC (s.setB (uniM 401 a t s.B 0).B) := by
  have hup := suni_up 401 a t s.B 0 ha.small ht.small hI.bok hI.sm (by omega)
  have hw := uni_w 401 a t s.B 0 ha.small ht.small hI.bok hI.sm (by omega)
  have hgb := uni_Q tgd_down 401 a t s.B 0 hI.gb ha ht
  obtain ⟨N, hN⟩ := hup.ext
  have hlen := hup.len
  have hle : s.B.length ≤ (uniM 401 a t s.B 0).B.length := by rw [hN]; simp
  exact ⟨hup.bok, hgb, hI.ch.mono hle, hI.fr, by show (uniM 401 a t s.B 0).B.length + 10100 * mu s ≤ _; omega⟩
section
variable {M : List Nat} {w0 : World} {H : List (Nat × Obj)} {F0 F : List (World → Prop)} {b : Nat} {P : List LC} {pA : Option Addr} {pc vars : Nat} {d : SD}
end
end Go.Proofs.YthliapbflkfdiacGreatDoor
