/- Steps of the proof. -/
import Derived.Test.YthliapbflkfdiacGreatDoorG22
namespace Go.Proofs.YthliapbflkfdiacGreatDoor
open Go.RowKit
set_option linter.unusedVariables false
set_option linter.unusedSimpArgs false
set_option maxRecDepth 100000
set_option maxHeartbeats 1000000
theorem Qgh {L:List HC} {a:Int} (h0:0≤a) (h1:a<L.length):∃c,hat L a=some c∧L[a.toNat]?=some c:=by
 refine ⟨L[a.toNat]'Ya,?_,?_⟩
 ·unfold hat;rw [if_pos h0];exact List.getElem?_eq_getElem _
 ·exact List.getElem?_eq_getElem _
theorem Qnh {L:List HC} {a:Int} (h:¬(0≤a∧a<L.length)):hat L a=none:=by
 unfold hat;split
 ·exact List.getElem?_eq_none Ya
 ·rfl
theorem Qcz {L:List HC} {a:Int} {c:HC} (h:hat L a=some c):0≤a∧a<L.length∧L[a.toNat]?=some c:=by
 unfold hat at h;split at h
 ·rename_i h0;refine ⟨h0,?_,h⟩;rcases Nat.lt_or_ge a.toNat L.length with hl|hl
  ·omega
  ·rw [List.getElem?_eq_none hl] at h;cases h
 ·cases h
theorem Qb1 {L:List HC} {a:Int}:Ql L a=true↔∃c,hat L a=some c:=by
 unfold Ql;simp only [Bool.and_eq_true,decide_eq_true_eq];constructor
 ·rintro ⟨h0,h1⟩;obtain ⟨c,h,_⟩:=Qgh h0 h1;exact ⟨c,h⟩
 ·rintro ⟨c,h⟩;have:=Qcz h;exact ⟨this.1,this.2.1⟩
theorem Qa8 (n c:Nat) (A B:Option Addr) (m d:Nat) (a:Int) (w:World):
  Calls Tryz.prog 142 #[Qjm A n c B m d,.int .i64 a] w fun e w'=>e= .returned (.bool (decide (0≤a)&&decide (a<n)))∧Below w.heap.size w w':=by
 have hS:=St.start w;refine Qo Tryz.func142 rfl Tryz.ntmps142 rfl ?_;by_cases h0:0≤a
 ·by_cases h1:a<n
  ·rw [decide_eq_true h0,decide_eq_true h1];refine Zg ?_;clear hS;intro b1 wx1 hS;refine Zau ?_;refine ZaM ?_;refine Z9 ?_;refine Zbg ?_;refine Zaj ?_;refine ZbJ ?_;refine ZH ?_;refine Za3 ?_;refine ZfK ?_;exact ⟨rfl,hS.ext.below⟩
  ·rw [decide_eq_true h0,decide_eq_false h1];refine Zg ?_;clear hS;intro b1 wx1 hS;refine Zau ?_;refine ZaM ?_;refine Z9 ?_;refine Zbg ?_;refine Zaj ?_;refine ZbJ ?_;refine ZH ?_;refine Za3 ?_;refine ZfK ?_;exact ⟨rfl,hS.ext.below⟩
 ·rw [decide_eq_false h0];refine Zg ?_;clear hS;intro b1 wx1 hS;refine Zau ?_;refine ZaM ?_;refine ZbK ?_;refine Za3 ?_;refine ZfK ?_;exact ⟨rfl,hS.ext.below⟩
theorem Qnx (x:HC) (w:World):Calls Tryz.prog 192 #[.agg (hcs x).toArray] w fun e w'=>e= .returned (.int .i64 (QI x))∧Below w.heap.size w w':=by
 have hS:=St.start w;refine Qu Tryz.func192 rfl Tryz.ntmps192 rfl ?_;by_cases h:x.k=3
 ·rw [show QI x=x.n by unfold QI;rw [if_pos h]];refine Zg ?_;clear hS;intro b1 wx1 hS;refine Zb6 ?_;refine Zk ?_;refine ZF ?_;refine ZeI ?_;refine Zd ?_;refine Qg Tryz.func192 rfl Yb ?_;exact ⟨rfl,hS.ext.below⟩
 ·rw [show QI x=0 by unfold QI;rw [if_neg h]];refine Zg ?_;clear hS;intro b1 wx1 hS;refine Zb6 ?_;refine Zak ?_;refine Zl ?_;refine Qg Tryz.func192 rfl Yb ?_;exact ⟨rfl,hS.ext.below⟩
theorem QkP (x:HC) (all follow:Nat) (w:World):Calls Tryz.prog 186 #[.agg (hcs x).toArray,.int .i64 (all:Nat),.int .i64 (follow:Nat)] w fun e w'=>e= .returned (.bool (Qaa all x follow))∧Below w.heap.size w w':=by
 have hS:=St.start w;refine QE Tryz.func186 rfl Tryz.ntmps186 rfl ?_;by_cases h0:x.k=0
 ·have e0:Qaa all x follow=(decide (0≤x.n)&&(decide (x.n<all)&&decide (x.s=eS))):=by unfold Qaa;rw [if_pos h0]
  rw [e0];by_cases h1:0≤x.n
  ·rw [decide_eq_true h1];by_cases h2:x.n<all
   ·rw [decide_eq_true h2];by_cases h3:x.s=eS
    ·rw [decide_eq_true h3];refine Zg ?_;clear hS;intro b1 wx1 hS;refine Zb6 ?_;refine Zbf ?_;refine ZcY ?_;refine ZA ?_;refine ZH ?_;refine ZcK ?_;refine Zaj ?_;refine Z4 ?_;refine ZcH ?_;exact ⟨rfl,hS.ext.below⟩
    ·rw [decide_eq_false h3];have h3':x.s≠eS:=h3;refine Zg ?_;clear hS;intro b1 wx1 hS;refine Zb6 ?_;refine Zbf ?_;refine ZcY ?_;refine ZA ?_;refine ZH ?_;refine ZcK ?_;refine Zaj ?_;refine Z4 ?_;refine ZcH ?_;exact ⟨rfl,hS.ext.below⟩
   ·rw [decide_eq_false h2];refine Zg ?_;clear hS;intro b1 wx1 hS;refine Zb6 ?_;refine Zbf ?_;refine ZcY ?_;refine ZA ?_;refine ZH ?_;refine Zr ?_;refine ZdX ?_;exact ⟨rfl,hS.ext.below⟩
  ·rw [decide_eq_false h1];refine Zg ?_;clear hS;intro b1 wx1 hS;refine Zb6 ?_;refine Zbf ?_;refine Zgi ?_;refine Zbh ?_;refine Zr ?_;refine ZdX ?_;exact ⟨rfl,hS.ext.below⟩
 by_cases h1:x.k=1
 ·have e0:Qaa all x follow=(decide (x.n=0)&& !decide (x.s=eS)):=by unfold Qaa;rw [if_neg h0,if_pos h1]
  rw [e0];by_cases h2:x.n=0
  ·rw [decide_eq_true h2];by_cases h3:x.s=eS
   ·rw [decide_eq_true h3];refine Zg ?_;clear hS;intro b1 wx1 hS;refine Zfv ?_;refine Zdx ?_;refine Zk ?_;refine ZA ?_;refine Za4 ?_;refine Zaj ?_;refine Zbb ?_;refine ZcH ?_;exact ⟨rfl,hS.ext.below⟩
   ·rw [decide_eq_false h3];have h3':x.s≠eS:=h3;refine Zg ?_;clear hS;intro b1 wx1 hS;refine Zfv ?_;refine Zdx ?_;refine Zk ?_;refine ZA ?_;refine Za4 ?_;refine Zaj ?_;refine Zbb ?_;refine ZcH ?_;exact ⟨rfl,hS.ext.below⟩
  ·rw [decide_eq_false h2];refine Zg ?_;clear hS;intro b1 wx1 hS;refine Zfv ?_;refine Zdx ?_;refine Zk ?_;refine ZdX ?_;exact ⟨rfl,hS.ext.below⟩
 by_cases h2:x.k=2
 ·have e0:Qaa all x follow=decide (x.s=eS):=by unfold Qaa;rw [if_neg h0,if_neg h1,if_pos h2]
  rw [e0];by_cases h3:x.s=eS
  ·rw [decide_eq_true h3];refine Zg ?_;clear hS;intro b1 wx1 hS;refine Zgm ?_;refine Zdv ?_;refine Zf ?_;refine Zam ?_;refine Zm ?_;refine Z4 ?_;refine Zd ?_;refine ZeW ?_;exact ⟨rfl,hS.ext.below⟩
  ·rw [decide_eq_false h3];have h3':x.s≠eS:=h3;refine Zg ?_;clear hS;intro b1 wx1 hS;refine Zgm ?_;refine Zdv ?_;refine Zf ?_;refine Zam ?_;refine Zm ?_;refine Z4 ?_;refine Zd ?_;refine ZeW ?_;exact ⟨rfl,hS.ext.below⟩
 by_cases h3:x.k=3
 ·have e0:Qaa all x follow=(decide (1≤x.n)&&(decide (x.n≤4)&&(decide (x.n≤follow)&& !decide (x.s=eS)))):=by unfold Qaa;rw [if_neg h0,if_neg h1,if_neg h2,if_pos h3]
  rw [e0];by_cases h4:1≤x.n
  ·rw [decide_eq_true h4];by_cases h5:x.n≤4
   ·rw [decide_eq_true h5];by_cases h6:x.n≤follow
    ·rw [decide_eq_true h6];by_cases h7:x.s=eS
     ·rw [decide_eq_true h7];refine Zg ?_;clear hS;intro b1 wx1 hS;refine ZdY ?_;refine ZcY ?_;refine ZcA ?_;refine Zr ?_;refine Zdy ?_;refine ZA ?_;refine ZcA ?_;refine ZcK ?_;refine Zaj ?_;refine Zbb ?_;refine ZcH ?_;exact ⟨rfl,hS.ext.below⟩
     ·rw [decide_eq_false h7];have h7':x.s≠eS:=h7;refine Zg ?_;clear hS;intro b1 wx1 hS;refine ZdY ?_;refine ZcY ?_;refine ZcA ?_;refine Zr ?_;refine Zdy ?_;refine ZA ?_;refine ZcA ?_;refine ZcK ?_;refine Zaj ?_;refine Zbb ?_;refine ZcH ?_;exact ⟨rfl,hS.ext.below⟩
    ·rw [decide_eq_false h6];refine Zg ?_;clear hS;intro b1 wx1 hS;refine ZdY ?_;refine ZcY ?_;refine ZcA ?_;refine Zr ?_;refine Zdy ?_;refine ZA ?_;refine ZcA ?_;refine Zr ?_;refine ZdX ?_;exact ⟨rfl,hS.ext.below⟩
   ·rw [decide_eq_false h5];refine Zg ?_;clear hS;intro b1 wx1 hS;refine ZdY ?_;refine ZcY ?_;refine ZcA ?_;refine Zr ?_;refine Zbh ?_;refine Zr ?_;refine ZdX ?_;exact ⟨rfl,hS.ext.below⟩
  ·rw [decide_eq_false h4];refine Zg ?_;clear hS;intro b1 wx1 hS;refine ZdY ?_;refine Zgi ?_;refine Zb5 ?_;refine Zr ?_;refine Zbh ?_;refine Zr ?_;refine ZdX ?_;exact ⟨rfl,hS.ext.below⟩
 have e0:Qaa all x follow=false:=by unfold Qaa;rw [if_neg h0,if_neg h1,if_neg h2,if_neg h3]
 rw [e0];refine Zg ?_;clear hS;intro b1 wx1 hS;refine ZdY ?_;refine Zk ?_;refine Zck ?_;refine Zl ?_;refine ZeW ?_;exact ⟨rfl,hS.ext.below⟩
theorem Qel {all:Nat}:∀{D:List HC} {x:HC} {R:List HC},Qaa all x R.length=false→QN all (D++x::R)=false
 |[],x,R,h=>by simp [QN,h]
 |y::D,x,R,h=>by simp [QN,Qel (D:=D) h]
theorem QeV (L:List HC) (A:Option Addr) (c:Nat) (w:World) (hL:Qz 3 (Qab L) A L.length c w):
  Calls Tryz.prog 140 #[.slice A L.length c] w fun e w'=>e= .returned (.bool (Q9 L))∧Below w.heap.size w w':=by
 have hS:=(St.start w).flat (M:=[]) hL;refine Qu Tryz.func140 rfl Tryz.ntmps140 rfl ?_;by_cases hl:65536<L.length
 ·rw [show Q9 L=false by unfold Q9;rw [decide_eq_false Ya];rfl];refine Zx ?_;refine ZbD ?_;refine Z0 ?_;refine ZfL ?_;exact ⟨rfl,hS.ext.below⟩
 rw [show Q9 L=QN L.length L by unfold Q9;rw [decide_eq_true Ya];rfl];refine Zx ?_;refine ZbD ?_;refine ZZ ?_;refine ZN ?_;refine Qr 10 (11::12::13::14::4::3::15::16::17::18::19::20::21::22::23::24::2::25::[]) (fun (R:List HC) v w'=>∃D,L=D++R∧v= .int .i64 (D.length:Nat)∧QN L.length L=QN L.length R∧St [] w [] [Qz 3 (Qab L) A L.length c] w') (fun R=>R.length) (L) ?_ Yb ?_
 ·exact ⟨[],rfl,rfl,rfl,hS⟩
 clear hS;rintro R _ w2 jv ⟨D,hD,rfl,hg,hS⟩ ih
 have hlen:L.length=D.length+R.length:=by rw [hD];simp
 cases R with
 |nil=>
  simp only [List.length_nil] at hlen;refine ZcT ?_;refine ZfL ?_;rw [hg];exact ⟨rfl,hS.ext.below⟩
 |cons x R=>
  simp only [List.length_cons] at hlen;obtain ⟨b,o,rfl⟩:=hL.some_ Ya
  have hx:L[D.length]?=some x:=by rw [hD];simp
  have hcc:∀{H'} w',St [] w H' [Qz 3 (Qab L) (some ⟨b,o,none⟩) L.length c] w'→_:=fun w' hS=>(hS.fact (.head _)).cell hx;have hf:((L.length:Int)-(D.length:Nat)-1)=((R.length:Nat):Int):=by omega
  refine Zb7 ?_;refine Z6 ?_;refine Zcn ?_;clear hS;intro b1 wx1 hS;refine ZcZ ?_;clear hS;intro wx2 hS;refine ZcM ?_;refine ZfB ?_;refine ZbQ ?_;refine ZbQ ?_;refine Zgg ?_;refine Zbr ?_;rw [hf];refine Zab ?_;refine Calls.mono (QkP x L.length R.length _) ?_;rintro _ w3 ⟨rfl,hb3⟩;refine Za ?_;replace hS:=hS.grow hb3
  cases hgc:Qaa L.length x R.length with
  |false=>
   refine ZdP ?_;refine ZfL ?_;rw [hg];refine ⟨?_,hS.ext.below⟩;simp [QN,hgc]
  |true=>
   refine ZP ?_;refine ZbA ?_;refine ih (R) _ _ _ ?_ ?_ Yb Yc
   ·simp
   ·refine ⟨D++[x],by rw [hD];simp,by simp,?_,hS.drop⟩;rw [hg];simp [QN,hgc]
theorem Ql3 {L:List HC} {a:Int} (h:hat L a=none):∀f,QaM L f a= -1
 |0=>rfl
 |f+1=>by simp only [QaM,h]
end Go.Proofs.YthliapbflkfdiacGreatDoor
