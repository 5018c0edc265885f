/-
  Package heap, walked: address, bound, args, Good, Look. They only read.
-/
import Derived.Test.YthliapbflkfdiacGreatDoorZ0
import Derived.Test.YthliapbflkfdiacGreatDoorG18
namespace Go.Proofs.YthliapbflkfdiacGreatDoor
open Go.RowKit
set_option linter.unusedVariables false
set_option linter.unusedSimpArgs false
set_option maxRecDepth 100000
set_option maxHeartbeats 1000000
theorem Qhm {L:List HC} {a:Int} (h0:0≤a) (h1:a<L.length):∃c,hat L a=some c∧L[a.toNat]?=some c:=by
 refine ⟨L[a.toNat]'Ya,?_,?_⟩
 ·unfold hat;rw [if_pos h0];exact List.getElem?_eq_getElem _
 ·exact List.getElem?_eq_getElem _
theorem QoH {L:List HC} {a:Int} (h:¬(0≤a∧a<L.length)):hat L a=none:=by
 unfold hat;split
 ·exact List.getElem?_eq_none Ya
 ·rfl
theorem QcV {L:List HC} {a:Int} {c:HC} (h:hat L a=some c):0≤a∧a<L.length∧L[a.toNat]?=some c:=by
 unfold hat at h;split at h
 ·rename_i h0;refine ⟨h0,?_,h⟩;rcases Nat.lt_or_ge a.toNat L.length with hl|hl
  ·omega
  ·rw [List.getElem?_eq_none hl] at h;cases h
 ·cases h
theorem Qcq {L:List HC} {a:Int}:Ql L a=true↔∃c,hat L a=some c:=by
 unfold Ql;simp only [Bool.and_eq_true,decide_eq_true_eq];constructor
 ·rintro ⟨h0,h1⟩;obtain ⟨c,h,_⟩:=Qhm h0 h1;exact ⟨c,h⟩
 ·rintro ⟨c,h⟩;have:=QcV h;exact ⟨this.1,this.2.1⟩
theorem Qbk (n c:Nat) (A B:Option Addr) (m d:Nat) (a:Int) (w:World):
  Calls Tryz.prog 142 #[QkP A n c B m d,.int .i64 a] w fun e w'=>e= .returned (.bool (decide (0≤a)&&decide (a<n)))∧Below w.heap.size w w':=by
 have hS:=St.start w;refine Qf Tryz.func142 rfl Tryz.ntmps142 rfl ?_;by_cases h0:0≤a
 ·by_cases h1:a<n
  ·rw [decide_eq_true h0,decide_eq_true h1];refine Zf ?_;clear hS;intro b1 wx1 hS;refine Z4 ?_;refine Z6 ?_;refine ZI ?_;refine Zau ?_;refine ZgO ?_;refine ZJ ?_;refine Z3 ?_;refine Zgs ?_;exact ⟨rfl,hS.ext.below⟩
  ·rw [decide_eq_true h0,decide_eq_false h1];refine Zf ?_;clear hS;intro b1 wx1 hS;refine Z4 ?_;refine Z6 ?_;refine ZI ?_;refine Zau ?_;refine ZgO ?_;refine ZJ ?_;refine Z3 ?_;refine Zgs ?_;exact ⟨rfl,hS.ext.below⟩
 ·rw [decide_eq_false h0];refine Zf ?_;clear hS;intro b1 wx1 hS;refine Z4 ?_;refine Z6 ?_;refine Zaj ?_;refine ZaO ?_;refine Z3 ?_;refine Zgs ?_;exact ⟨rfl,hS.ext.below⟩
theorem QoY (x:HC) (w:World):Calls Tryz.prog 192 #[.agg (hcs x).toArray] w fun e w'=>e= .returned (.int .i64 (QM x))∧Below w.heap.size w w':=by
 have hS:=St.start w;refine Qh Tryz.func192 rfl Tryz.ntmps192 rfl ?_;by_cases h:x.k=3
 ·rw [show QM x=x.n by unfold QM;rw [if_pos h]];refine Zf ?_;clear hS;intro b1 wx1 hS;refine Zbr ?_;refine Zbh ?_;refine Zf8 ?_;refine Zd ?_;refine Qd Tryz.func192 rfl Yb ?_;exact ⟨rfl,hS.ext.below⟩
 ·rw [show QM x=0 by unfold QM;rw [if_neg h]];refine Zf ?_;clear hS;intro b1 wx1 hS;refine Zbr ?_;refine ZaW ?_;refine Zk ?_;refine Qd Tryz.func192 rfl Yb ?_;exact ⟨rfl,hS.ext.below⟩
theorem Qmm (x:HC) (all follow:Nat) (w:World):Calls Tryz.prog 186 #[.agg (hcs x).toArray,.int .i64 (all:Nat),.int .i64 (follow:Nat)] w fun e w'=>e= .returned (.bool (Qaa all x follow))∧Below w.heap.size w w':=by
 have hS:=St.start w;refine Qz Tryz.func186 rfl Tryz.ntmps186 rfl ?_;by_cases h0:x.k=0
 ·have e0:Qaa all x follow=(decide (0≤x.n)&&(decide (x.n<all)&&decide (x.s=eS))):=by unfold Qaa;rw [if_pos h0]
  rw [e0];by_cases h1:0≤x.n
  ·rw [decide_eq_true h1];by_cases h2:x.n<all
   ·rw [decide_eq_true h2];by_cases h3:x.s=eS
    ·rw [decide_eq_true h3];refine Zf ?_;clear hS;intro b1 wx1 hS;refine ZdR ?_;refine Zds ?_;refine ZD ?_;refine ZJ ?_;refine Zdn ?_;refine Zaf ?_;refine Zc7 ?_;exact ⟨rfl,hS.ext.below⟩
    ·rw [decide_eq_false h3];have h3':x.s≠eS:=h3;refine Zf ?_;clear hS;intro b1 wx1 hS;refine ZdR ?_;refine Zds ?_;refine ZD ?_;refine ZJ ?_;refine Zdn ?_;refine Zaf ?_;refine Zc7 ?_;exact ⟨rfl,hS.ext.below⟩
   ·rw [decide_eq_false h2];refine Zf ?_;clear hS;intro b1 wx1 hS;refine ZdR ?_;refine Zds ?_;refine ZD ?_;refine ZJ ?_;refine Zr ?_;refine Zeo ?_;exact ⟨rfl,hS.ext.below⟩
  ·rw [decide_eq_false h1];refine Zf ?_;clear hS;intro b1 wx1 hS;refine ZdR ?_;refine ZgQ ?_;refine Zaj ?_;refine Zr ?_;refine Zeo ?_;exact ⟨rfl,hS.ext.below⟩
 by_cases h1:x.k=1
 ·have e0:Qaa all x follow=(decide (x.n=0)&& !decide (x.s=eS)):=by unfold Qaa;rw [if_neg h0,if_pos h1]
  rw [e0];by_cases h2:x.n=0
  ·rw [decide_eq_true h2];by_cases h3:x.s=eS
   ·rw [decide_eq_true h3];refine Zf ?_;clear hS;intro b1 wx1 hS;refine Ze9 ?_;refine ZcD ?_;refine Zq ?_;refine ZD ?_;refine Zc5 ?_;refine Zbe ?_;refine Zc7 ?_;exact ⟨rfl,hS.ext.below⟩
   ·rw [decide_eq_false h3];have h3':x.s≠eS:=h3;refine Zf ?_;clear hS;intro b1 wx1 hS;refine Ze9 ?_;refine ZcD ?_;refine Zq ?_;refine ZD ?_;refine Zc5 ?_;refine Zbe ?_;refine Zc7 ?_;exact ⟨rfl,hS.ext.below⟩
  ·rw [decide_eq_false h2];refine Zf ?_;clear hS;intro b1 wx1 hS;refine Ze9 ?_;refine ZcD ?_;refine Zq ?_;refine Zeo ?_;exact ⟨rfl,hS.ext.below⟩
 by_cases h2:x.k=2
 ·have e0:Qaa all x follow=decide (x.s=eS):=by unfold Qaa;rw [if_neg h0,if_neg h1,if_pos h2]
  rw [e0];by_cases h3:x.s=eS
  ·rw [decide_eq_true h3];refine Zf ?_;clear hS;intro b1 wx1 hS;refine ZdW ?_;refine Zc1 ?_;refine Zg ?_;refine Z7 ?_;refine Zaf ?_;refine Zd ?_;refine Zfm ?_;exact ⟨rfl,hS.ext.below⟩
  ·rw [decide_eq_false h3];have h3':x.s≠eS:=h3;refine Zf ?_;clear hS;intro b1 wx1 hS;refine ZdW ?_;refine Zc1 ?_;refine Zg ?_;refine Z7 ?_;refine Zaf ?_;refine Zd ?_;refine Zfm ?_;exact ⟨rfl,hS.ext.below⟩
 by_cases h3:x.k=3
 ·have e0:Qaa all x follow=(decide (1≤x.n)&&(decide (x.n≤4)&&(decide (x.n≤follow)&& !decide (x.s=eS)))):=by unfold Qaa;rw [if_neg h0,if_neg h1,if_neg h2,if_pos h3]
  rw [e0];by_cases h4:1≤x.n
  ·rw [decide_eq_true h4];by_cases h5:x.n≤4
   ·rw [decide_eq_true h5];by_cases h6:x.n≤follow
    ·rw [decide_eq_true h6];by_cases h7:x.s=eS
     ·rw [decide_eq_true h7];refine Zf ?_;clear hS;intro b1 wx1 hS;refine Zep ?_;refine Zds ?_;refine Zbd ?_;refine Zcc ?_;refine ZbL ?_;refine ZD ?_;refine Zbd ?_;refine Zdn ?_;refine Zbe ?_;refine Zc7 ?_;exact ⟨rfl,hS.ext.below⟩
     ·rw [decide_eq_false h7];have h7':x.s≠eS:=h7;refine Zf ?_;clear hS;intro b1 wx1 hS;refine Zep ?_;refine Zds ?_;refine Zbd ?_;refine Zcc ?_;refine ZbL ?_;refine ZD ?_;refine Zbd ?_;refine Zdn ?_;refine Zbe ?_;refine Zc7 ?_;exact ⟨rfl,hS.ext.below⟩
    ·rw [decide_eq_false h6];refine Zf ?_;clear hS;intro b1 wx1 hS;refine Zep ?_;refine Zds ?_;refine Zbd ?_;refine Zcc ?_;refine ZbL ?_;refine ZD ?_;refine Zbd ?_;refine Zr ?_;refine Zeo ?_;exact ⟨rfl,hS.ext.below⟩
   ·rw [decide_eq_false h5];refine Zf ?_;clear hS;intro b1 wx1 hS;refine Zep ?_;refine Zds ?_;refine Zbd ?_;refine Zr ?_;refine Zaj ?_;refine Zr ?_;refine Zeo ?_;exact ⟨rfl,hS.ext.below⟩
  ·rw [decide_eq_false h4];refine Zf ?_;clear hS;intro b1 wx1 hS;refine Zep ?_;refine ZgQ ?_;refine ZbP ?_;refine Zr ?_;refine Zaj ?_;refine Zr ?_;refine Zeo ?_;exact ⟨rfl,hS.ext.below⟩
 have e0:Qaa all x follow=false:=by unfold Qaa;rw [if_neg h0,if_neg h1,if_neg h2,if_neg h3]
 rw [e0];refine Zf ?_;clear hS;intro b1 wx1 hS;refine Zep ?_;refine ZaJ ?_;refine Zbx ?_;refine Zk ?_;refine Zfm ?_;exact ⟨rfl,hS.ext.below⟩
theorem Qe9 {all:Nat}:∀{D:List HC} {x:HC} {R:List HC},Qaa all x R.length=false→QR all (D++x::R)=false
 |[],x,R,h=>by simp [QR,h]
 |y::D,x,R,h=>by simp [QR,Qe9 (D:=D) h]
theorem QfO (L:List HC) (A:Option Addr) (c:Nat) (w:World) (hL:QD 3 (Qab L) A L.length c w):
  Calls Tryz.prog 140 #[.slice A L.length c] w fun e w'=>e= .returned (.bool (Q9 L))∧Below w.heap.size w w':=by
 have hS:=(St.start w).flat (M:=[]) hL;refine Qh Tryz.func140 rfl Tryz.ntmps140 rfl ?_;by_cases hl:65536<L.length
 ·rw [show Q9 L=false by unfold Q9;rw [decide_eq_false Ya];rfl];refine ZaL ?_;refine ZaE ?_;refine Zad ?_;refine Zgt ?_;exact ⟨rfl,hS.ext.below⟩
 rw [show Q9 L=QR L.length L by unfold Q9;rw [decide_eq_true Ya];rfl];refine ZaL ?_;refine ZaE ?_;refine Zn ?_;refine Zu ?_;refine ZQ ?_;refine Qn 10 (11::12::13::14::4::3::15::16::17::18::19::20::21::22::23::24::2::25::[]) (fun (R:List HC) v w'=>∃D,L=D++R∧v= .int .i64 (D.length:Nat)∧QR L.length L=QR L.length R∧St [] w [] [QD 3 (Qab L) A L.length c] w') (fun R=>R.length) (L) ?_ Yb ?_
 ·exact ⟨[],rfl,rfl,rfl,hS⟩
 clear hS;rintro R _ w2 jv ⟨D,hD,rfl,hg,hS⟩ ih
 have hlen:L.length=D.length+R.length:=by rw [hD];simp
 cases R with
 |nil=>
  simp only [List.length_nil] at hlen;refine Zcd ?_;refine Zgt ?_;rw [hg];exact ⟨rfl,hS.ext.below⟩
 |cons x R=>
  simp only [List.length_cons] at hlen;obtain ⟨b,o,rfl⟩:=hL.some_ Ya
  have hx:L[D.length]?=some x:=by rw [hD];simp
  have hcc:∀{H'} w',St [] w H' [QD 3 (Qab L) (some ⟨b,o,none⟩) L.length c] w'→_:=fun w' hS=>(hS.fact (.head _)).cell hx;have hf:((L.length:Int)-(D.length:Nat)-1)=((R.length:Nat):Int):=by omega
  refine ZbK ?_;refine Zag ?_;refine ZcL ?_;clear hS;intro b1 wx1 hS;refine Zbz ?_;clear hS;intro wx2 hS;refine ZaV ?_;refine Zgf ?_;refine ZcM ?_;refine ZcM ?_;refine Ze ?_;refine Zbl ?_;refine Zbl ?_;rw [hf];refine Zz ?_;refine Calls.mono (Qmm x L.length R.length _) ?_;rintro _ w3 ⟨rfl,hb3⟩;refine Za ?_;replace hS:=hS.grow hb3
  cases hgc:Qaa L.length x R.length with
  |false=>
   refine Zee ?_;refine Zgt ?_;rw [hg];refine ⟨?_,hS.ext.below⟩;simp [QR,hgc]
  |true=>
   refine Zef ?_;refine ih (R) _ _ _ ?_ ?_ Yb Yc
   ·simp
   ·refine ⟨D++[x],by rw [hD];simp,by simp,?_,hS.drop⟩;rw [hg];simp [QR,hgc]
theorem Qnt {L:List HC} {a:Int} (h:hat L a=none):∀f,QaX L f a= -1
 |0=>rfl
 |f+1=>by simp only [QaX,h]
end Go.Proofs.YthliapbflkfdiacGreatDoor
