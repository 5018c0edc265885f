/- Steps of the proof. -/
import Derived.Test.YthliapbflkfdiacGreatDoorG31
set_option linter.unusedVariables false
set_option linter.unusedSimpArgs false
set_option maxRecDepth 100000
set_option maxHeartbeats 1000000
namespace Go.Proofs.YthliapbflkfdiacGreatDoor
open Go.Proofs.Tryz
open Go.RowKit
theorem QiO{L:List HC}{a:Int}(h0:0<=a)(h1:a<L.length):∃c,AD L a=some c/\L[a.toNat]?=some c:=by
 refine⟨L[a.toNat]'Ya,?_,?_⟩
 .unfold AD;rw[XB h0];exact VN _
 .exact VN _
theorem Qrt{L:List HC}{a:Int}(h:¬(0<=a/\a<L.length)):AD L a=none:=by
 unfold AD;split
 .exact XX Ya
 .rfl
theorem O0{L:List HC}{a:Int}{c:HC}(h:AD L a=some c):0<=a/\a<L.length/\L[a.toNat]?=some c:=by
 unfold AD at h;split at h
 .rename_i h0;refine⟨h0,?_,h⟩;rcases XY a.toNat L.length with hl|hl
  .omega
  .rw[XX hl]at h;cases h
 .cases h
theorem Z4{L:List HC}{a:Int}:Qo L a=true↔∃c,AD L a=some c:=by
 unfold Qo;simp only[XI,XO];constructor
 .rintro⟨h0,h1⟩;obtain⟨c,h,_⟩:=QiO h0 h1;exact⟨c,h⟩
 .rintro⟨c,h⟩;have:=O0 h;exact Yeq
theorem QbQ(n c:Nat)(A B:T4)(m d:Nat)(a:Int)(w:TG):
  Calls prog 142 #[OT A n c B m d,.int .i64 a] w fun e w'=>e= .returned (.bool (decide (0<=a)&&decide (a<n)))/\Below w.heap.size w w':=by
 have hS:=St.start w;refine Qh func142 rfl ntmps142 rfl ?_;by_cases h0:0<=a
 .by_cases h1:a<n
  .rw[X1 h0,X1 h1];exact Ycz
  .rw[X1 h0,X4 h1];exact Ycz
 .rw[X4 h0];apply Zq.w.1;clear hS;intro b1 oQ hS;apply Zq.b4.r.bB.U.a9.jG.1;exact Yn
theorem QrL(x:HC)(w:TG):Calls prog 192 #[.agg (AP x).toArray] w fun e w'=>e= .returned (.int .i64 (QU x))/\Below w.heap.size w w':=by
 have hS:=St.start w;refine Qg func192 rfl ntmps192 rfl ?_;by_cases h:x.k=3
 .rw[show QU x=x.n by unfold QU;rw[XB h]];apply Zq.w.1;clear hS;intro b1 oQ hS;apply Zq.g4.l.dG.aE.c.1;exact YeA
 .rw[show QU x=0 by unfold QU;rw[XA h]];apply Zq.w.1;clear hS;intro b1 oQ hS;apply Zq.g4.bY.e.1;exact YeA
theorem Qoy(x:HC)(all follow:Nat)(w:TG):Calls prog 186 #[.agg (AP x).toArray,.int .i64 (all:Nat),.int .i64 (follow:Nat)] w fun e w'=>e= .returned (.bool (BM all x follow))/\Below w.heap.size w w':=by
 have hS:=St.start w;refine QQ func186 rfl ntmps186 rfl ?_;by_cases h0:x.k=0
 .have e0:BM all x follow=(decide (0<=x.n)&&(decide (x.n<all)&&decide (x.s=eS))):=by unfold BM;rw[XB h0]
  rw[e0];by_cases h1:0<=x.n
  .rw[X1 h1];by_cases h2:x.n<all
   .rw[X1 h2];by_cases h3:x.s=eS
    .rw[X1 h3];exact Ycf
    .rw[X4 h3];have Ph:x.s≠eS:=h3;exact Ycf
   .rw[X4 h2];apply Zq.w.1;clear hS;intro b1 oQ hS;apply Zq.b9.dE.aE.r.t.L.fE.P.I.q.bX.a9.d7.1;exact Yn
  .rw[X4 h1];apply Zq.w.1;clear hS;intro b1 oQ hS;apply Zq.b9.dE.aE.r.bB.q.bX.a9.d7.1;exact Yn
 by_cases h1:x.k=1
 .have e0:BM all x follow=(decide (x.n=0)&& !decide (x.s=eS)):=by unfold BM;rw[XA h0,XB h1]
  rw[e0];by_cases h2:x.n=0
  .rw[X1 h2];by_cases h3:x.s=eS
   .rw[X1 h3];exact Ycm
   .rw[X4 h3];have Ph:x.s≠eS:=h3;exact Ycm
  .rw[X4 h2];apply Zq.w.1;clear hS;intro b1 oQ hS;apply Zq.b9.dR.dE.aE.l.bX.a9.d7.1;exact Yn
 by_cases h2:x.k=2
 .have e0:BM all x follow=decide (x.s=eS):=by unfold BM;rw[XA h0,XA h1,XB h2]
  rw[e0];by_cases h3:x.s=eS
  .rw[X1 h3];exact YcN
  .rw[X4 h3];have Ph:x.s≠eS:=h3;exact YcN
 by_cases h3:x.k=3
 .have e0:BM all x follow=(decide (1<=x.n)&&(decide (x.n<=4)&&(decide (x.n<=follow)&& !decide (x.s=eS)))):=by unfold BM;rw[XA h0,XA h1,XA h2,XB h3]
  rw[e0];by_cases h4:1<=x.n
  .rw[X1 h4];by_cases h5:x.n<=4
   .rw[X1 h5];by_cases h6:x.n<=follow
    .rw[X1 h6];by_cases h7:x.s=eS
     .rw[X1 h7];exact YbZ
     .rw[X4 h7];have h7':x.s≠eS:=h7;exact YbZ
    .rw[X4 h6];apply Zq.w.1;clear hS;intro b1 oQ hS;apply Zq.b9.cU.dR.dE.aE.r.t.L.aK.cP.q.t.L.fE.P.cP.q.bX.a9.d7.1;exact Yn
   .rw[X4 h5];apply Zq.w.1;clear hS;intro b1 oQ hS;apply Zq.b9.cU.dR.dE.aE.r.t.L.aK.cP.q.bB.q.bX.a9.d7.1;exact Yn
  .rw[X4 h4];apply Zq.w.1;clear hS;intro b1 oQ hS;apply Zq.b9.cU.dR.dE.aE.r.bX.q.bB.q.bX.a9.d7.1;exact Yn
 have e0:BM all x follow=false:=by unfold BM;rw[XA h0,XA h1,XA h2,XA h3]
 rw[e0];apply Zq.w.1;clear hS;intro b1 oQ hS;apply Zq.b9.cU.cU.aW.aX.e.d7.1;exact Yn
theorem Qgi{all:Nat}:∀{D:List HC} {x:HC} {R:List HC},BM all x R.length=false->Q2 all (D++x::R)=false
 |[],x,R,h=>by simp[Q2,h]
 |y::D,x,R,h=>by simp[Q2,Qgi (D:=D) h]
theorem QgW(L:List HC)(A:T4)(c:Nat)(w:TG)(hL:QG 3 (AE L) A L.length c w):
  Calls prog 140 #[.slice A L.length c] w fun e w'=>e= .returned (.bool (D7 L))/\Below w.heap.size w w':=by
 have hS:=(St.start w).flat (M:=[]) hL;refine Qg func140 rfl ntmps140 rfl ?_;by_cases hl:65536<L.length
 .rw[show D7 L=false by unfold D7;rw[X4 Ya];rfl];apply Zq.bV.bP.cI.kO.1;exact Yn
 rw[show D7 L=Q2 L.length L by unfold D7;rw[X1 Ya];rfl];apply Zq.bV.bP.D.m.aQ.1;refine Qp 10 (11::12::13::14::4::3::15::16::17::18::19::20::21::22::23::24::2::25::[]) (fun(R:List HC) v w'=>∃D,L=D++R/\v= .int .i64 (D.length:Nat)/\Q2 L.length L=Q2 L.length R/\St [] w [] [QG 3 (AE L) A L.length c] w') (fun R=>R.length) (L) ?_ Yb ?_
 .exact⟨[],rfl,rfl,rfl,hS⟩
 clear hS;rintro R _ _ _ ⟨D,hD,rfl,hg,hS⟩ ih
 have oG:L.length=D.length+R.length:=by rw[hD];simp
 cases R with
 |nil=>
  simp only[XP]at oG;apply Zq.W.e.kO.1;rw[hg];exact Yn
 |cons x R=>
  simp only[XJ]at oG;obtain⟨b,o,rfl⟩:=hL.some_ Ya
  have hx:L[D.length]?=some x:=by rw[hD];simp
  have oS:∀{H'} w',St [] w H' [QG 3 (AE L) (some ⟨b,o,none⟩) L.length c] w'->_:=fun w' hS=>(hS.fact (.head _)).cell hx;have hf:((L.length:Int)-(D.length:Nat)-1)=((R.length:Nat):Int):=by omega
  apply Zq.a8.h.bR.eT.cK.1;clear hS;intro _ _ hS;apply Zq.d1.d.1;clear hS;intro _ hS;apply Zq.cT.eT.g.aC.g.aC.g.b3.b3.1;rw[hf];apply Zq.bA.1;refine XE (Qoy x L.length R.length _) ?_;rintro _ _ ⟨rfl,oZ⟩;apply Zq.a.1;replace hS:=hS.grow oZ
  cases sH:BM L.length x R.length with
  |false=>
   apply Zq.X.cI.kO.1;rw[hg];refine⟨?_,hS.ext.below⟩;simp[Q2,sH]
  |true=>
   apply Zq.bF.aZ.1;refine ih (R) _ _ _ ?_ ?_ Yb Yc
   .simp
   .refine⟨D++[x],by rw[hD];simp,by simp,?_,hS.drop⟩;rw[hg];simp[Q2,sH]
theorem QpY{L:List HC}{a:Int}(h:AD L a=none):∀f,FG L f a= -1
 |0=>rfl
 |f+1=>by simp only[FG,h]
end Go.Proofs.YthliapbflkfdiacGreatDoor
