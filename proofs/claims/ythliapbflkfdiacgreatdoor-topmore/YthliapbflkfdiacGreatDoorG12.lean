/- Steps of the proof. -/
import Derived.Test.YthliapbflkfdiacGreatDoorG11
namespace Go.Proofs.YthliapbflkfdiacGreatDoor
open Go.RowKit
set_option linter.unusedVariables false
set_option linter.unusedSimpArgs false
set_option maxRecDepth 100000
set_option maxHeartbeats 1000000
theorem Qd0 {s : SS} {a t : Tm} (hI : QeZ s) (hsl : s.B.length + 10100 * (mu s + 1) ≤ 1000000000) (ha : tgd a) (ht : tgd t) : QeZ (s.setB (Qb4 401 a t s.B 0).B) := by
 have hup := QfR 401 a t s.B 0 ha.small ht.small hI.bok hI.sm Ya
 have hw := QtP 401 a t s.B 0 ha.small ht.small hI.bok hI.sm Ya
 have hgb := QpG Qb6 401 a t s.B 0 hI.gb ha ht
 obtain ⟨N, hN⟩ := hup.ext
 have hlen := hup.len
 have hle : s.B.length ≤ (Qb4 401 a t s.B 0).B.length := by rw [hN]; simp
 exact ⟨hup.bok, hgb, hI.ch.mono hle, hI.fr, by show (Qb4 401 a t s.B 0).B.length + 10100 * mu s ≤ _; omega⟩
section
variable {M : List Nat} {w0 : World} {H : List (Nat × Obj)} {F0 F : List (World → Prop)} {b : Nat} {P : List LC} {pA : Option Addr} {pc vars : Nat}
end
end Go.Proofs.YthliapbflkfdiacGreatDoor
