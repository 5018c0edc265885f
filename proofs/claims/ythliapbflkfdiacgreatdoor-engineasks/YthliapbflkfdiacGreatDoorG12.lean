/- Steps of the proof. -/
import Derived.Test.YthliapbflkfdiacGreatDoorG11
set_option linter.unusedVariables false
set_option linter.unusedSimpArgs false
set_option maxRecDepth 100000
set_option maxHeartbeats 1000000
namespace Go.Proofs.YthliapbflkfdiacGreatDoor
open Go.Proofs.Tryz
open Go.RowKit
theorem TN{s:SS}{a t:Tm}(hI:DC s)(pW:s.B.length+10100*(mu s+1)<=1000000000)(ha:AL a)(ht:AL t):DC (s.setB (BI 401 a t s.B 0).B):=by
 have sC:=PJ 401 a t s.B 0 ha.small ht.small hI.bok hI.sm Ya;have hw:=Qx8 401 a t s.B 0 ha.small ht.small hI.bok hI.sm Ya;have sG:=Z1 GJ 401 a t s.B 0 hI.gb ha ht;obtain⟨N,hN⟩:=sC.ext;have oG:=sC.len
 have oW:s.B.length<=(BI 401 a t s.B 0).B.length:=by rw[hN];simp
 exact⟨sC.bok,sG,hI.ch.mono oW,hI.fr,by show(BI 401 a t s.B 0).B.length+10100*mu s<=_;omega⟩
section
variable{M:T6}{w0:TG}{H:T0}{F0 F:T3}{b:Nat}{P:List LC}{pA:T4}{pc vars:Nat}
theorem QtJ{t:Tm}(h:AL t)(hk:t.k=2): -1099511627776<=t.n/\t.n<=1099511627776:=by
 have h1:=h.1;simp only[Ts.good,XI]at h1;have h2:=h1.1.1;unfold CL at h2;rw[hk]at h2;simp at h2;omega
end
end Go.Proofs.YthliapbflkfdiacGreatDoor
