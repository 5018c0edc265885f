/- Steps of the proof. -/
import Derived.Test.YthliapbflkfdiacGreatDoorG8
namespace Go.Proofs.YthliapbflkfdiacGreatDoor
open Go.RowKit
set_option linter.unusedVariables false
set_option linter.unusedSimpArgs false
set_option maxRecDepth 100000
set_option maxHeartbeats 1000000
theorem QcO {s:SS} {a t:Tm} (hI:Qd4 s) (hsl:s.B.length+10100*(mu s+1)≤1000000000) (ha:tgd a) (ht:tgd t):Qd4 (s.setB (Qbs 401 a t s.B 0).B):=by
 have hup:=Qdj 401 a t s.B 0 ha.small ht.small hI.bok hI.sm Ya;have hw:=QsD 401 a t s.B 0 ha.small ht.small hI.bok hI.sm Ya;have hgb:=QsE Qac 401 a t s.B 0 hI.gb ha ht;obtain ⟨N,hN⟩:=hup.ext;have hlen:=hup.len
 have hle:s.B.length≤(Qbs 401 a t s.B 0).B.length:=by rw [hN];simp
 exact ⟨hup.bok,hgb,hI.ch.mono hle,hI.fr,by show (Qbs 401 a t s.B 0).B.length+10100*mu s≤_;omega⟩
section
variable {M:List Nat} {w0:World} {H:List (Nat×Obj)} {F0 F:List (World→Prop)} {b:Nat} {P:List LC} {pA:Option Addr} {pc vars:Nat}
theorem Qo7 {t:Tm} (h:tgd t) (hk:t.k=2): -1099511627776≤t.n∧t.n≤1099511627776:=by
 have h1:=h.1;simp only [Ts.good,Bool.and_eq_true] at h1;have h2:=h1.1.1;unfold Qai at h2;rw [hk] at h2;simp at h2;omega
end
end Go.Proofs.YthliapbflkfdiacGreatDoor
