/- Steps of the proof. -/
import Derived.Test.YthliapbflkfdiacGreatDoorG37
set_option linter.unusedVariables false
set_option linter.unusedSimpArgs false
set_option maxRecDepth 100000
set_option maxHeartbeats 1000000
namespace Go.Proofs.YthliapbflkfdiacGreatDoor
open Go.Proofs.Tryz
open Go.RowKit
abbrev cvv(c:HC):TH:= .agg #[.int .i64 c.k,.int .i64 c.n,.string c.s]
section
variable{M:T6}{w0:TG}{H:T0}{F:T3}
theorem QpB(i:Int)(w:TG)(hS:St M w0 H F w):
  Calls prog 137 #[.int .i64 i] w fun e w'=>e= .returned (cvv ⟨0,i,eS⟩)/\St M w0 H F w':=by
 refine Qg func137 rfl ntmps137 rfl ?_;apply Zq.p.cK.1;clear hS;intro _ _ hS;apply Zq.b.h.i3.d.1;clear hS;intro _ hS;apply Zq.b.1;refine PO (sz:=3) hS func137 rfl rfl rfl rfl Ym Yh ?_;exact SH
theorem Qk1(k n:Int)(s:TJ)(A:T4)(l c:Nat)(w:TG)(hS:St M w0 H F w):
  Calls prog 138 #[.agg #[.int .i64 k,.int .i64 n,.string s,.slice A l c]] w fun e w'=>e= .returned (cvv (MF k n s))/\St M w0 H F w':=by
 refine Qg func138 rfl ntmps138 rfl ?_;by_cases h0:k=0
 .subst h0;apply Zq.w.1;clear hS;intro b1 oQ hS;apply Zq.cK.1;clear hS;intro b2 pP hS;apply Zq.a2.bZ.dJ.dE.aE.F.1;refine XE (QpB n _ hS) ?_;rintro _ _ ⟨rfl,oD⟩;apply Zq.a.1;replace hS:=oD;clear oD;apply Zq.d.1;exact YbT
 by_cases h2:k=2
 .subst h2;apply Zq.w.1;clear hS;intro b1 oQ hS;apply Zq.cK.1;clear hS;intro b2 pP hS;apply Zq.a2.bZ.dJ.dR.dE.aE.i3.d.1;exact YbT
 have e:MF k n s=⟨1,0,s⟩:=by unfold MF;rw[XA h0,XA h2]
 rw[e];apply Zq.w.1;clear hS;intro b1 oQ hS;apply Zq.cK.1;clear hS;intro b2 pP hS;apply Zq.a2.bZ.dJ.cU.aW.aX.p.a6.i3.d.1;exact YbT
theorem Qgt(n:Nat)(hn:n<=1000)(w:TG)(hS:St M w0 H F w):
  Calls prog 87 #[.int .i64 (n:Nat)] w fun e w'=>∃(A:T4) (c:Nat) (O:T0),e= .returned (.slice A (EX n).length c)/\Rw 104 3 (.slice A (EX n).length c) (EX n).length (AE (EX n)) O/\St M w0 (O++H) F w':=by
 rw[IZ];refine Qg func87 rfl ntmps87 rfl ?_;apply Zq.e.h.1;refine QiJ (k:=n) (sz:=3) (bts:=32) hS rfl rfl rfl rfl Ya Ya rfl ?_;clear hS;intro b _ cs pJ hS;apply Zq.M.aQ.1;refine Qp 9 (10::11::4::12::13::14::15::16::17::[]) (fun(m:Nat) v w'=>∃(i:Nat) (sp:T5),i+m=n/\v= .int .i64 (i:Nat)/\sp.length=m*3/\St M w0 ((b,.cells (AE (GD i 0)++sp).toArray 104)::H) F w') (fun m=>m) (n) ?_ Yb ?_
 .exact⟨0,cs,by omega,rfl,pJ,hS⟩
 clear hS;rintro m _ _ _ ⟨i,sp,_,rfl,wQ,hS⟩ ih
 cases m with
 |zero=>
  obtain rfl:i=n:=by omega
  obtain rfl:sp=[]:=VL Ya;apply Zq.W.aB.1;refine Qd func87 rfl Yb ?_;by_cases h0:i=0
  .subst h0;exact⟨_,_,[],rfl,Rw.zero_,hS.drop⟩
  .refine⟨_,_,[(b,Obj.cells (AE (GD i 0)++([]:T5)).toArray 104)],rfl,Rw.own_ (xs:=AE (GD i 0)) (sp:=[]) ?_ ?_ (XF _) Ya,hS⟩
   .rw[GQ,ZT]
   .rw[VF,GQ,ZT]
 |succ m=>
  obtain⟨a0,a1,a2,sp,rfl⟩:∃a0 a1 a2 r,sp=a0::a1::a2::r:=by
   match sp,wQ with
   |a0::a1::a2::r,_=>exact⟨a0,a1,a2,r,rfl⟩
   |[],h=>simp at h
   |[_],h=>simp at h;omega
   |[_,_],h=>simp at h;omega
  apply Zq.a8.aB.u.aO.F.1;refine XE (QpB ((i:Nat):Int) _ hS) ?_;rintro _ _ ⟨rfl,oD⟩;apply Zq.a.1;replace hS:=oD;clear oD;apply Zq.bR.1;have oG:=GQ (GD i 0);have Dg:=ZT i 0;refine Qfy hS rfl Yi rfl rfl .head (QiH (AE (GD i 0)) [a0,a1,a2] (AP ⟨0,((i:Nat):Int),eS⟩) sp _ Ya rfl) .head ?_;clear hS;intro _ hS;apply Zq.b.aZ.1;refine ih (m) _ _ _ ?_ ?_ Yb Yc
  .omega
  .refine⟨i+1,sp,by omega,by simp,by simp only[XJ]at wQ;omega,?_⟩;rw[QkV,NS,XQ];have e1:AE (GD i 0)++AE [⟨0,((i:Nat):Int),eS⟩]++sp=AE (GD i 0)++(AP ⟨0,((i:Nat):Int),eS⟩++sp):=by simp[AE,AP]
   rw[e1];exact hS
end
theorem Qyl{α:Type}(P Q:List α)(z c:α):(P++z::Q).set P.length c=P++c::Q:=by
 induction P with
 |nil=>rfl
 |cons p P ih=>simp only[VI,XJ,List.set_cons_succ,ih]
def CZ(cs:List HC)(s:TJ)(l:Nat)(D:Ts)(m:Nat):List HC:=cs++(⟨3,(l:Nat),s⟩::((BE D (cs.length+1+l)).1++(List.replicate m zC++(BE D (cs.length+1+l)).2)))
theorem Qmr(cs:List HC)(s:TJ)(l:Nat)(D:Ts)(m:Nat):(CZ cs s l D m).length=cs.length+1+D.length+m+(BE D (cs.length+1+l)).2.length:=by
 simp only[CZ,XG,XJ,List.length_replicate,PQ];omega
theorem Qq9(cs:List HC)(s:TJ)(l:Nat)(D:Ts)(m:Nat)(c:HC):(CZ cs s l D (m+1)).set (cs.length+1+D.length) c=cs++(⟨3,(l:Nat),s⟩::((BE D (cs.length+1+l)).1++(c::(List.replicate m zC++(BE D (cs.length+1+l)).2)))):=by
 have h:=Qyl (cs++(⟨3,(l:Nat),s⟩::(BE D (cs.length+1+l)).1)) (List.replicate m zC++(BE D (cs.length+1+l)).2) zC c
 have hl:(cs++(⟨3,(l:Nat),s⟩::(BE D (cs.length+1+l)).1)).length=cs.length+1+D.length:=by simp only[XG,XJ,PQ];omega
 rw[hl]at h
 have e1:CZ cs s l D (m+1)=(cs++(⟨3,(l:Nat),s⟩::(BE D (cs.length+1+l)).1))++zC::(List.replicate m zC++(BE D (cs.length+1+l)).2):=by
  simp only[CZ,List.replicate_succ,VB,VI]
 rw[e1,h];simp only[VB,VI]
theorem QwJ(cs:List HC)(s1:TJ)(l:Nat)(D:Ts)(m:Nat){k:Int}(n:Int)(s:TJ)(ar:Ts)(hk:k≠3):(CZ cs s1 l D (m+1)).set (cs.length+1+D.length) (MF k n s)=CZ cs s1 l (D.app (.cons k n s ar .nil)) m:=by
 rw[Qq9];unfold CZ;rw[Qrk,M1 _ _ _ _ _ hk];simp[BE]
theorem QuE(cs:List HC)(s1:TJ)(l:Nat)(D:Ts)(m:Nat)(n:Int)(s:TJ)(ar:Ts)(hl:l=D.length+(m+1)):(CZ cs s1 l D (m+1)).set (cs.length+1+D.length) ⟨0,((CZ cs s1 l D (m+1)).length:Nat),eS⟩++BV 3 n s ar (CZ cs s1 l D (m+1)).length=CZ cs s1 l (D.app (.cons 3 n s ar .nil)) m:=by
 have hp:(CZ cs s1 l D (m+1)).length=cs.length+1+l+(BE D (cs.length+1+l)).2.length:=by rw[Qmr];omega
 rw[Qq9,hp];unfold CZ BV;rw[Qrk,SD,XB rfl];simp[BE]
theorem QsC(cs:List HC)(s:TJ)(l:Nat):CZ cs s l .nil l=(cs++[⟨3,(l:Nat),s⟩])++List.replicate l zC:=by simp[CZ,BE]
theorem QwK(cs:List HC)(n:Int)(s:TJ)(T:Ts):CZ cs s T.length T 0=cs++BV 3 n s T cs.length:=by
 unfold CZ BV I0;rw[XB rfl];simp
def Qhg(T:TA):Prop:=∀(M:T6) (w0:TG) (H:T0) (F:T3) (vars k n:Int) (s:TJ) (A:T4) (c:Nat) (cs:List HC) (v:TH) (O:T0) (w:TG),
 AB F (AV A c T)->(Ts.cons k n s T.ts .nil).good vars=true->cs.length+2*T.ts.nodes+2<=1000000->Rw 104 3 v cs.length (AE cs) O->St M w0 (O++H) F w->
  Calls prog 88 #[v,.agg #[.int .i64 k,.int .i64 n,.string s,.slice A T.len c]] w fun e w'=>∃(A':T4) (c':Nat) (O':T0),e= .returned (.slice A' (cs++BV k n s T.ts cs.length).length c')/\
   Rw 104 3 (.slice A' (cs++BV k n s T.ts cs.length).length c') (cs++BV k n s T.ts cs.length).length (AE (cs++BV k n s T.ts cs.length)) O'/\St M w0 (O'++H) F w'
theorem QqJ(T:TA)(ihT:∀U:TA,U.ts.nodes<T.ts.nodes->Qhg U):Qhg T:=by
 intro M w0 H F vars k n s A c cs _ O w hA hg _ oE hS;obtain⟨_,_,rfl,uU⟩:=oE.form;have Be:=Ts.length_le T.ts;rw[TA.len_ts]at Be;refine Qh func88 rfl ntmps88 rfl ?_;by_cases hk:k=3
 .subst hk
  have zU:1<=T.len:=by
   rcases US (P9 hg).1 with h|h|h|h
   .omega
   .omega
   .omega
   .rw[<-TA.len_ts];omega
  apply Zq.w.1;clear hS;intro b1 oQ hS;apply Zq.g4.Q.D.h.cS.aC.a6.1;refine Qa (QD (cells:=[_,_,_]) (.cons Yb (.cons Yb (.cons Yb .nil))) rfl) rfl ?_;apply Zq.gN.1;clear hS;intro b2 pP hS;refine UH (L:=[⟨3,(T.len:Nat),s⟩]) hS Yb Yi rfl rfl rfl (QG.own (sp:=[]) (hS.own (_,_) (.head _)) rfl (XF _)) oE (XK [_,_] O _) Yg rfl ?_;clear hS;intro v7 O7 w7 pD hS;change Rw _ _ _ (cs.length+1) _ _ at pD;obtain⟨B7,d7,rfl,_⟩:=pD.form;replace hS:=(hS.perm (XK O7 [_,_] _)).drop;apply Zq.b4.aC.b4.cS.aC.1;obtain⟨_,z,i2,i3,i4,i5,i6⟩:=K6 (P:=prog) (el:=104) (sz:=3) (bts:=32) rfl
  have zK:z.cells= #[.int .i64 0,.int .i64 0,.string eS]:=by
   have:PC prog 104=some (.agg #[.int .i64 0,.int .i64 0,.string eS]):=by kernel_rfl
   unfold PC at this;rw[i2]at this;simp only[VU]at this;rw[i3]at this;rw[V9 this];rfl
  refine QwQ (k:=T.len) (zs:=AE (List.replicate T.len zC)) (ki:= .i64) hS Yb Yi rfl rfl i2 i3 i4 Ya (by rw[zK];exact Qqo _) (fun u hu=>VK.1 (QiN _) u hu) (by rw[i5];exact pD) Ya zU (XK [_] O7 _) (by rw[i6];omega) Ya rfl ?_;rw[i5];clear hS;intro _ O8 _ pC hS;obtain⟨B8,d8,rfl,_⟩:=pC.form;replace hS:=hS.perm (XK O8 [_] _);clear i2 i3 i4 i5 i6 zK
  have e8:(CZ cs s T.len .nil T.len).length=cs.length+1+T.len:=by rw[Qmr];simp[Ts.length,BE]
  have oO:Rw 104 3 (.slice B8 (CZ cs s T.len .nil T.len).length d8) (CZ cs s T.len .nil T.len).length (AE (CZ cs s T.len .nil T.len)) O8:=by
   rw[e8,QsC,NS,NS];exact pC
  apply Zq.c.b0.cS.aQ.1;refine Qx 35 0 (36::37::38::39::7::6::40::41::42::43::44::45::46::47::48::49::50::51::52::53::54::55::56::57::58::59::60::61::[]) (fun(R:TA) y u w'=>∃(D:TA) (Au:T4) (cu:Nat) (Ou:T0),T=D.app R/\y= .int .i64 (D.len:Nat)/\u= .slice Au (CZ cs s T.len D.ts R.len).length cu/\Rw 104 3 (.slice Au (CZ cs s T.len D.ts R.len).length cu) (CZ cs s T.len D.ts R.len).length (AE (CZ cs s T.len D.ts R.len)) Ou/\St M w0 ((b1,.cells [.int .i64 3,.int .i64 n,.string s,.slice A T.len c].toArray 63)::(Ou++H)) F w') (fun R=>R.len) (T) ?_ Yb Yb ?_
  .exact⟨.nil,B8,d8,O8,rfl,rfl,by rw[show TA.nil.ts=Ts.nil from rfl,e8],oO,hS⟩
  clear hS pD pC oO e8;rintro R _ _ _ _ ⟨D,Au,cu,Ou,hD,rfl,rfl,oE,hS⟩ ih;have oG:T.len=D.len+R.len:=by rw[hD,TA.len_app]
  have wX:=Qmr cs s T.len D.ts R.len;rw[TA.len_ts]at wX;have hTn:T.ts.nodes=D.ts.nodes+R.ts.nodes:=by rw[hD,TA.app_ts,Ts.nodes_app]
  have oW:=QuZ D.ts (cs.length+1+T.len)
  cases R with
  |nil=>
   have hTD:T=D:=by rw[hD,TA.app_nil]
   subst hTD;apply Zq.W.aB.1;refine Qd func88 rfl Yb ?_
   have em:CZ cs s T.len T.ts TA.nil.len=cs++BV 3 n s T.ts cs.length:=by rw[<-TA.len_ts];exact QwK cs n s T.ts
   rw[em]at oE;rw[em];exact⟨Au,cu,Ou,rfl,oE,hS.drop⟩
  |cons k1 n1 s1 Aa ca a1 r=>
   have wV:(TA.cons k1 n1 s1 Aa ca a1 r).len=r.len+1:=rfl;have yX:=TA.len_ts D;have Jy:=Ts.length_le r.ts;rw[TA.len_ts]at Jy;have zR:(TA.cons k1 n1 s1 Aa ca a1 r).ts.nodes=a1.ts.nodes+r.ts.nodes+1:=rfl
   have Gy:(Ts.cons k1 n1 s1 a1.ts .nil).good vars=true:=by
    have:=(P9 hg).2.1;rw[hD,TA.app_ts,Ts.good_ap]at this;simp only[XI]at this;obtain⟨x1,x2,_⟩:=P9 this.2;simp only[Ts.good,XI,VX];exact⟨x1,x2⟩
   have Cq:AB F (AV A c (D.app (.cons k1 n1 s1 Aa ca a1 r))):=by rw[<-hD];exact hA
   obtain⟨bk,ok,rfl⟩:=(hS.und Cq).some_ YI;have oS:∀{H'} w',St M w0 H' F w'->_:=fun w' hS=>(hS.und Cq).cells;have rQ:AB F (AV Aa ca a1):=fun w hw=>(Cq w hw).sub;obtain⟨g,sp,rfl,rfl,pQ,_,_⟩:=oE.some_ Ya
   have Dn:∀(X:List HC) (yI:T5),X.length=(CZ cs s T.len D.ts (TA.cons k1 n1 s1 Aa ca a1 r).len).length->yI=sp->Rw 104 3 (.slice (some ⟨g,0,none⟩) X.length cu) X.length (AE X) [(g,.cells (AE X++yI).toArray 104)]:=by
    rintro X _ hX rfl;refine Rw.own_ (GQ X) ?_ Ya Ya;rw[<-pQ];simp only[XG,GQ,hX]
   have qT:=fun c=>Qu8 (CZ cs s T.len D.ts (TA.cons k1 n1 s1 Aa ca a1 r).len) sp (((cs.length+1:Nat):Int)+((D.len:Nat):Int)).toNat c Ya
   have tW:(((cs.length+1:Nat):Int)+((D.len:Nat):Int)).toNat=cs.length+1+D.ts.length:=by rw[TA.len_ts];omega
   by_cases wB:k1=3
   .subst wB;apply Zq.a8.h.cF.dI.R.1;clear hS;intro b3 pM hS;apply Zq.d1.d.1;clear hS;intro sR hS;apply Zq.a2.bD.b6.Q.D.i.a1.g.aC.F.1;refine XE (QpB ((CZ cs s T.len D.ts (TA.cons 3 n1 s1 Aa ca a1 r).len).length:Nat) _ hS) ?_;rintro _ w4 ⟨rfl,oD⟩;apply Zq.a.1;replace hS:=oD;clear oD;apply Zq.bR.mZ.1;clear hS;intro w5 hS;apply Zq.b.u.dI.1;have hX:((CZ cs s T.len D.ts (TA.cons 3 n1 s1 Aa ca a1 r).len).set (((cs.length+1:Nat):Int)+((D.len:Nat):Int)).toNat ⟨0,((CZ cs s T.len D.ts (TA.cons 3 n1 s1 Aa ca a1 r).len).length:Nat),eS⟩).length=(CZ cs s T.len D.ts (TA.cons 3 n1 s1 Aa ca a1 r).len).length:=by rw[WL]
    have Je:=QuE cs s T.len D.ts r.len n1 s1 a1.ts (by rw[TA.len_ts];omega);rw[<-tW,<-wV]at Je;have Aj:=Dn _ sp hX rfl;have hcall:=ihT a1 Ya M w0 ((b3,.cells [.int .i64 3,.int .i64 n1,.string s1,.slice Aa a1.len ca].toArray 63)::(b1,.cells [.int .i64 3,.int .i64 n,.string s,.slice (some ⟨bk,ok,none⟩) T.len c].toArray 63)::H) F vars 3 n1 s1 Aa ca _ _ _ _ rQ Gy (by rw[hX];omega) Aj (hS.perm (XK [_,_] [_] _));rw[hX,Je]at hcall;apply Zq.f.1;refine XE (hcall) ?_;rintro _ _ ⟨A6,c6,O6,rfl,rL,oD⟩;apply Zq.a.1;replace hS:=oD;clear oD;replace hS:=(hS.perm (XK O6 [_,_] _)).drop;apply Zq.dN.1;refine ih (r) _ _ _ _ ?_ ?_ Yb Yb Yc
    .omega
    .exact⟨D.app (.cons 3 n1 s1 Aa ca a1 .nil),A6,c6,O6,by rw[hD,TA.app_assoc];rfl,by rw[TA.len_app];rfl,by rw[TA.app_ts];rfl,by rw[TA.app_ts];exact rL,hS⟩
   .apply Zq.a8.h.cF.dI.R.1;clear hS;intro b3 pM hS;apply Zq.d1.d.1;clear hS;intro sR hS;apply Zq.a2.bD.b6.Q.v.i.a1.dI.F.1;refine XE (Qk1 k1 n1 s1 Aa a1.len ca _ hS) ?_;rintro _ w4 ⟨rfl,oD⟩;apply Zq.a.1;replace hS:=oD;clear oD;apply Zq.bR.mZ.1;clear hS;intro w5 hS;apply Zq.b.d5.h4.1;have hX:((CZ cs s T.len D.ts (TA.cons k1 n1 s1 Aa ca a1 r).len).set (((cs.length+1:Nat):Int)+((D.len:Nat):Int)).toNat (MF k1 n1 s1)).length=(CZ cs s T.len D.ts (TA.cons k1 n1 s1 Aa ca a1 r).len).length:=by rw[WL]
    have tZ:=QwJ cs s T.len D.ts r.len n1 s1 a1.ts wB;rw[<-tW]at tZ;have Aj:=Dn _ sp hX rfl;rw[show(TA.cons k1 n1 s1 Aa ca a1 r).len=r.len+1 from rfl,tZ]at Aj hS hX;refine ih (r) _ _ _ _ ?_ ?_ Yb Yb Yc
    .omega
    .refine⟨D.app (.cons k1 n1 s1 Aa ca a1 .nil),some ⟨g,0,none⟩,cu,_,by rw[hD,TA.app_assoc];rfl,by rw[TA.len_app];rfl,?_,by rw[TA.app_ts];exact Aj,hS.drop⟩;rw[TA.app_ts];show _=Value.slice _ (CZ cs s T.len (D.ts.app (.cons k1 n1 s1 a1.ts .nil)) r.len).length _;rw[hX];rfl
 .apply Zq.w.1;clear hS;intro b1 oQ hS;apply Zq.gB.b6.Q.v.h.dI.F.1;refine XE (Qk1 k n s A T.len c _ hS) ?_;rintro _ _ ⟨rfl,oD⟩;apply Zq.a.1;replace hS:=oD;clear oD;apply Zq.gN.1;clear hS;intro b2 pP hS
  have e:BV k n s T.ts cs.length=[MF k n s]:=by unfold BV;rw[XA hk]
  refine UH (L:=[MF k n s]) hS Yb Yi rfl rfl rfl (QG.own (sp:=[]) (hS.own (_,_) (.head _)) rfl (XF _)) oE (XK [_,_] O _) Yg rfl ?_;clear hS;intro v7 O7 w7 pD hS;obtain⟨B7,d7,rfl,_⟩:=pD.form;replace hS:=hS.perm (XK O7 [_,_] _);apply Zq.c.1;refine Qd func88 rfl Yb ?_;rw[e];refine⟨B7,d7,O7,by simp,?_,hS.drop.drop⟩;rw[XG,NS];exact pD
theorem QkZ(T:TA):Qhg T:=by
 have key:∀m,∀U:TA,U.ts.nodes<=m->Qhg U:=by
  intro m
  induction m with
  |zero=>exact fun U hU=>QqJ U fun V hV=>by omega
  |succ m ih=>exact fun U hU=>QqJ U fun V hV=>ih V Ya
 exact key _ T (XF _)
theorem Qzj{α:Type}(L O O2 H:List α):(L++(O++(O2++H))).Perm (O2++(L++(O++H))):=
 (WT L (XK O O2 H)).trans (XK L O2 _)
section
variable{M:T6}{w0:TG}{H:T0}{F:T3}
theorem Qh3(T:TA)(vars:Int)(A:T4)(c:Nat)(cs:List HC)(v:TH)(O:T0)(w:TG)(hA:AB F (AV A c T))(hg:T.ts.goals vars=true)(hb:cs.length+2*T.ts.nodes+2<=1000000)(oE:Rw 104 3 v cs.length (AE cs) O)(hS:St M w0 (O++H) F w):
  Calls prog 89 #[v,.slice A T.len c] w fun e w'=>∃(A' B':T4) (c' d':Nat) (O' O2:T0),e= .returned (.tuple #[.slice A' (cs++(AQ T.ts cs.length).1).length c',.slice B' (AQ T.ts cs.length).2.length d'])/\
   Rw 104 3 (.slice A' (cs++(AQ T.ts cs.length).1).length c') (cs++(AQ T.ts cs.length).1).length (AE (cs++(AQ T.ts cs.length).1)) O'/\Rw 3 1 (.slice B' (AQ T.ts cs.length).2.length d') (AQ T.ts cs.length).2.length (Qr (AQ T.ts cs.length).2) O2/\St M w0 (O'++(O2++H)) F w':=by
 obtain⟨A1,c1,rfl,uU⟩:=oE.form;have Be:=Ts.length_le T.ts;rw[TA.len_ts]at Be;refine Qh func89 rfl ntmps89 rfl ?_;apply Zq.aY.bV.aQ.1;refine QhJ 11 0 6 (12::13::14::8::15::16::17::18::19::20::21::22::23::[]) (fun(R:TA) y u z w'=>∃(D:TA) (Au Bu:T4) (cu du:Nat) (Ou Og:T0),T=D.app R/\y= .int .i64 (D.len:Nat)/\u= .slice Au (cs++(AQ D.ts cs.length).1).length cu/\z= .slice Bu (AQ D.ts cs.length).2.length du/\Rw 104 3 (.slice Au (cs++(AQ D.ts cs.length).1).length cu) (cs++(AQ D.ts cs.length).1).length (AE (cs++(AQ D.ts cs.length).1)) Ou/\Rw 3 1 (.slice Bu (AQ D.ts cs.length).2.length du) (AQ D.ts cs.length).2.length (Qr (AQ D.ts cs.length).2) Og/\St M w0 (Ou++(Og++H)) F w') (fun R=>R.len) (T) ?_ Yb Yb Yb ?_
 .exact⟨.nil,A1,none,c1,0,O,[],rfl,rfl,by simp[TA.ts,AQ],rfl,by simpa[TA.ts,AQ]using oE,Rw.zero_,hS⟩
 clear hS oE;rintro R _ _ _ _ _ ⟨D,Au,Bu,cu,du,Ou,Og,hD,rfl,rfl,rfl,oE,Jf,hS⟩ ih;have oG:T.len=D.len+R.len:=by rw[hD,TA.len_app]
 have hTn:T.ts.nodes=D.ts.nodes+R.ts.nodes:=by rw[hD,TA.app_ts,Ts.nodes_app]
 have oW:=Qmz D.ts cs.length;have sT:=Qmy D.ts cs.length;have yX:=TA.len_ts D;have Fy:(cs++(AQ D.ts cs.length).1).length=cs.length+(AQ D.ts cs.length).1.length:=XG
 cases R with
 |nil=>
  have hTD:T=D:=by rw[hD,TA.app_nil]
  subst hTD;apply Zq.W.i.K.1;refine LP func89 rfl Yb Yb ?_;exact⟨Au,Bu,cu,du,Ou,Og,rfl,oE,Jf,hS⟩
 |cons k1 n1 s1 Aa ca a1 r=>
  have wV:(TA.cons k1 n1 s1 Aa ca a1 r).len=r.len+1:=rfl;have zR:(TA.cons k1 n1 s1 Aa ca a1 r).ts.nodes=a1.ts.nodes+r.ts.nodes+1:=rfl
  have Gy:(Ts.cons k1 n1 s1 a1.ts .nil).good vars=true:=by
   have:=hg;rw[hD,TA.app_ts,Ts.goals_app]at this;simp only[TA.ts,Ts.goals,gB,XI]at this;exact this.2.1.1.2
  have Cq:AB F (AV A c (D.app (.cons k1 n1 s1 Aa ca a1 r))):=by rw[<-hD];exact hA
  obtain⟨_,ok,rfl⟩:=(hS.und Cq).some_ YI;have oS:∀{H'} w',St M w0 H' F w'->_:=fun w' hS=>(hS.und Cq).cells;have rQ:AB F (AV Aa ca a1):=fun w hw=>(Cq w hw).sub;apply Zq.cB.cF.dI.R.1;clear hS;intro _ _ hS;apply Zq.d.1;clear hS;intro _ hS;apply Zq.cZ.aC.bH.1;clear hS;intro _ _ hS;refine QiK (L:=[(((cs++(AQ D.ts cs.length).1).length:Nat):Int)]) hS Yb Yi rfl rfl rfl (QG.own (sp:=[]) (hS.own (_,_) (.head _)) rfl (XF _)) Jf (Qzj [_,_] Ou Og _) Yg rfl ?_;clear hS;intro _ O7 _ pD hS;obtain⟨B7,d7,rfl,_⟩:=pD.form;replace hS:=(hS.perm (Qzj [_,_] Ou O7 _).symm).drop;apply Zq.c.u.dI.f.1;refine XE (QkZ a1 M w0 _ F vars k1 n1 s1 Aa ca _ _ _ _ rQ Gy Ya oE (hS.perm (XK [_] Ou _))) ?_;rintro _ _ ⟨A6,c6,O6,rfl,rL,oD⟩;apply Zq.a.1;replace hS:=oD;clear oD;replace hS:=(hS.perm (XK O6 [_] _)).drop
  have e1:cs++(AQ (D.ts.app (.cons k1 n1 s1 a1.ts .nil)) cs.length).1=cs++(AQ D.ts cs.length).1++BV k1 n1 s1 a1.ts (cs++(AQ D.ts cs.length).1).length:=by
   rw[Qrj,XG];simp[AQ]
  have e2:(AQ (D.ts.app (.cons k1 n1 s1 a1.ts .nil)) cs.length).2=(AQ D.ts cs.length).2++[(((cs++(AQ D.ts cs.length).1).length:Nat):Int)]:=by
   rw[Qrj,XG];simp[AQ]
  apply Zq.dN.1;refine ih (r) _ _ _ _ _ ?_ ?_ Yb Yb Yb Yc
  .omega
  .refine⟨D.app (.cons k1 n1 s1 Aa ca a1 .nil),A6,B7,c6,d7,O6,O7,by rw[hD,TA.app_assoc];rfl,by rw[TA.len_app];rfl,?_,?_,?_,?_,hS⟩
   .rw[TA.app_ts];show _=Value.slice _ (cs++(AQ (D.ts.app (.cons k1 n1 s1 a1.ts .nil)) cs.length).1).length _;rw[e1]
   .rw[TA.app_ts];show _=Value.slice _ (AQ (D.ts.app (.cons k1 n1 s1 a1.ts .nil)) cs.length).2.length _;rw[e2];simp
   .rw[TA.app_ts];show Rw _ _ (Value.slice _ (cs++(AQ (D.ts.app (.cons k1 n1 s1 a1.ts .nil)) cs.length).1).length _) (cs++(AQ (D.ts.app (.cons k1 n1 s1 a1.ts .nil)) cs.length).1).length (AE (cs++(AQ (D.ts.app (.cons k1 n1 s1 a1.ts .nil)) cs.length).1)) _;rw[e1];exact rL
   .rw[TA.app_ts];show Rw _ _ (Value.slice _ (AQ (D.ts.app (.cons k1 n1 s1 a1.ts .nil)) cs.length).2.length _) (AQ (D.ts.app (.cons k1 n1 s1 a1.ts .nil)) cs.length).2.length (Qr (AQ (D.ts.app (.cons k1 n1 s1 a1.ts .nil)) cs.length).2) _;rw[e2,XG];have:Qr ((AQ D.ts cs.length).2++[(((cs++(AQ D.ts cs.length).1).length:Nat):Int)])=Qr (AQ D.ts cs.length).2++Qr [(((cs++(AQ D.ts cs.length).1).length:Nat):Int)]:=by simp[Qr]
    rw[this];exact pD
abbrev bv(A:T4)(n c:Nat)(vars hd:Int)(B:T4)(m d:Nat):TH:= .agg #[.slice A n c,.int .i64 vars,.int .i64 hd,.slice B m d]
theorem Qs0(k n vars:Int)(s:TJ)(hd bd:TA)(A1 A2:T4)(c1 c2:Nat)(w:TG)(h1:AB F (AV A1 c1 hd))(h2:AB F (AV A2 c2 bd))(h1n:hd.len<=9223372036854775807)(Su:hd.ts.wide)(h2n:bd.len<=9223372036854775807)(h2w:bd.ts.wide)
  (hc:cB ⟨k,n,s,hd.ts,bd.ts,vars⟩=true) (hS:St M w0 H F w):
  Calls prog 51 #[.agg #[.int .i64 k,.int .i64 n,.string s,.slice A1 hd.len c1,.slice A2 bd.len c2,.int .i64 vars]] w fun e w'=>∃(A' B':T4) (c' d':Nat) (O O2:T0),e= .returned (.tuple #[bv A' (QB ⟨k,n,s,hd.ts,bd.ts,vars⟩).length c' vars vars B' (EE ⟨k,n,s,hd.ts,bd.ts,vars⟩).length d',.int .i64 0])/\
   Rw 104 3 (.slice A' (QB ⟨k,n,s,hd.ts,bd.ts,vars⟩).length c') (QB ⟨k,n,s,hd.ts,bd.ts,vars⟩).length (AE (QB ⟨k,n,s,hd.ts,bd.ts,vars⟩)) O/\Rw 3 1 (.slice B' (EE ⟨k,n,s,hd.ts,bd.ts,vars⟩).length d') (EE ⟨k,n,s,hd.ts,bd.ts,vars⟩).length (Qr (EE ⟨k,n,s,hd.ts,bd.ts,vars⟩)) O2/\St M w0 (O++(O2++H)) F w':=by
 have sH:=fun w (hS:Sl w (fun _=>True) (.slice A1 hd.len c1) hd.ts/\Sl w (fun _=>True) (.slice A2 bd.len c2) bd.ts)=>Qfh ⟨k,n,s,hd.ts,bd.ts,vars⟩ (.slice A1 hd.len c1) (.slice A2 bd.len c2) w hS.1 hS.2 (by rw[TA.len_ts];exact h1n) Su (by rw[TA.len_ts];exact h2n) h2w;rw[hc]at sH;obtain⟨g0,g1,g2,g3,g4⟩:=PN hc;dsimp only at g0 g1 g2 g3 g4;have g5:=Qrw g4;have g6:=Ts.goals_nodes _ _ g3
 have g7:(Ts.cons k n s hd.ts .nil).good vars=true:=by
  simp only[gB,XI]at g4;exact g4.1.2
 obtain⟨v,rfl⟩:∃v:Nat,vars=(v:Nat):=⟨vars.toNat,by omega⟩
 have e1:QB ⟨k,n,s,hd.ts,bd.ts,((v:Nat):Int)⟩=(EX v++BV k n s hd.ts (EX v).length)++(AQ bd.ts (EX v++BV k n s hd.ts (EX v).length).length).1:=by
  simp only[QB,X0,IZ,XG,VB]
 have e2:EE ⟨k,n,s,hd.ts,bd.ts,((v:Nat):Int)⟩=(AQ bd.ts (EX v++BV k n s hd.ts (EX v).length).length).2:=by
  simp only[EE,X0,IZ,XG]
 rw[e1,e2];have oW:=QpS k n s hd.ts (EX v).length;have Dg:=IZ v;have sD:(EX v++BV k n s hd.ts (EX v).length).length=v+(BV k n s hd.ts (EX v).length).length:=by rw[XG,Dg]
 refine Qg func51 rfl ntmps51 rfl ?_;apply Zq.w.1;clear hS;intro _ _ hS;apply Zq.R.1;clear hS;intro _ _ hS;apply Zq.c.b0.1
 first
  |refine Qa (Qb (k:=6) hS rfl rfl rfl Ym Yh) rfl ?_
  |refine Qa (Qb (k:=6) hS rfl rfl rfl Ym Ye) rfl ?_
  |refine Qa (QgG rfl rfl rfl Yu Yu Yu Yu Yu Yu) rfl ?_
 apply Zq.F.1;refine XE (sH _ ⟨(hS.und h1).sl,(hS.und h2).sl⟩) ?_;rintro _ _ ⟨rfl,pH⟩;apply Zq.a.1;replace hS:=hS.grow pH;apply Zq.bF.p.cQ.b6.F.1;refine XE (Qgt v Ya _ hS) ?_;rintro _ _ ⟨_,_,O3,rfl,qX,oD⟩;apply Zq.a.1;replace hS:=oD;clear oD;replace hS:=hS.perm (XK O3 [_,_] _);apply Zq.b4.aC.b4.aI.dI.f.1;refine XE (QkZ hd M w0 _ F ((v:Nat):Int) k n s A1 c1 _ _ _ _ h1 g7 Ya qX (hS.perm (XK [_,_] O3 _))) ?_;rintro _ _ ⟨_,_,O4,rfl,rB,oD⟩;apply Zq.a.1;replace hS:=oD;clear oD;replace hS:=hS.perm (XK O4 [_,_] _);apply Zq.b4.d4.b6.f.1;refine XE (Qh3 bd ((v:Nat):Int) A2 c2 _ _ O4 _ h2 g3 Ya rB (hS.perm (XK [_,_] O4 _))) ?_;rintro _ _ ⟨A5,B5,c5,d5,O5,O6,rfl,qM,rL,oD⟩;apply Zq.a.1;replace hS:=oD;clear oD;replace hS:=hS.perm ((WT O5 (XK O6 [_,_] H)).trans (XK O5 [_,_] _));apply Zq.b2.h.cQ.b6.aO.n3.d.1;clear hS;intro _ hS;apply Zq.c.1;refine Qd8 (sz:=4) hS func51 rfl rfl Yb rfl rfl Ym Yh ?_;refine⟨A5,B5,c5,d5,O5,O6,?_,qM,rL,hS.drop.drop⟩;rw[Dg]
theorem Qzh{vars:Int}{T:Ts}(h:qB vars T=true):0<=vars/\vars<=8/\T.length<=5/\T.goals vars=true:=by
 simp only[qB,XI,XO]at h;exact⟨h.1.1.1,h.1.1.2,h.1.2,h.2⟩
theorem Quc(vars:Int)(T:TA)(A1:T4)(c1:Nat)(w:TG)(h1:AB F (AV A1 c1 T))(h1n:T.len<=9223372036854775807)(Su:T.ts.wide)(hc:qB vars T.ts=true)(hS:St M w0 H F w):
  Calls prog 52 #[.slice A1 T.len c1,.int .i64 vars] w fun e w'=>∃(A' B':T4) (c' d':Nat) (O O2:T0),e= .returned (.tuple #[bv A' (DE vars T.ts).length c' vars (-1) B' (GS vars T.ts).length d',.int .i64 0])/\
   Rw 104 3 (.slice A' (DE vars T.ts).length c') (DE vars T.ts).length (AE (DE vars T.ts)) O/\Rw 3 1 (.slice B' (GS vars T.ts).length d') (GS vars T.ts).length (Qr (GS vars T.ts)) O2/\St M w0 (O++(O2++H)) F w':=by
 have sH:=fun w hS=>UN vars T.ts (.slice A1 T.len c1) w hS (by rw[TA.len_ts];exact h1n) Su;rw[hc]at sH;obtain⟨_,_,_,g3⟩:=Qzh hc;have g6:=Ts.goals_nodes _ _ g3
 obtain⟨v,rfl⟩:∃v:Nat,vars=(v:Nat):=⟨vars.toNat,by omega⟩
 have Dg:=IZ v;have e1:DE ((v:Nat):Int) T.ts=EX v++(AQ T.ts (EX v).length).1:=by simp only[DE,X0,IZ]
 have e2:GS ((v:Nat):Int) T.ts=(AQ T.ts (EX v).length).2:=by simp only[GS,X0,IZ]
 rw[e1,e2];refine Qh func52 rfl ntmps52 rfl ?_;apply Zq.p.R.1;clear hS;intro _ _ hS;apply Zq.M.g.f.1;refine XE (sH _ (hS.und h1).sl) ?_;rintro _ _ ⟨rfl,pH⟩;apply Zq.a.1;replace hS:=hS.grow pH;apply Zq.bF.Z.1;refine XE (Qgt v Ya _ hS) ?_;rintro _ _ ⟨_,_,O3,rfl,qX,oD⟩;apply Zq.a.1;replace hS:=oD;clear oD;replace hS:=hS.perm (XK O3 [_] _);apply Zq.g.f.1;refine XE (Qh3 T ((v:Nat):Int) A1 c1 _ _ O3 _ h1 g3 Ya qX (hS.perm (XK [_] O3 _))) ?_;rintro _ _ ⟨A5,B5,c5,d5,O5,O6,rfl,qM,rL,oD⟩;apply Zq.a.1;replace hS:=oD;clear oD;replace hS:=hS.perm ((WT O5 (XK O6 [_] H)).trans (XK O5 [_] _));apply Zq.b2.i.g.n3.d.1;clear hS;intro _ hS;apply Zq.c.1;refine Qd8 (sz:=4) hS func52 rfl rfl Yb rfl rfl Ym Yh ?_;exact⟨A5,B5,c5,d5,O5,O6,rfl,qM,rL,hS.drop⟩
end
structure LB where
 cl:Cl
 A:T4
 c:Nat
 B:T4
 d:Nat
abbrev PY(b:LB):T5:=[.slice b.A (QB b.cl).length b.c,.int .i64 b.cl.vars,.int .i64 b.cl.vars,.slice b.B (EE b.cl).length b.d]
def G0:List LB->T5
 |[]=>[]
 |b::r=>PY b++G0 r
theorem Qmx(a b:List LB):G0 (a++b)=G0 a++G0 b:=by
 induction a with
 |nil=>rfl
 |cons c r ih=>simp[G0,ih]
theorem Qj0(a:List LB):(G0 a).length=a.length*4:=by
 induction a with
 |nil=>rfl
 |cons c r ih=>simp[G0,ih];omega
def QzG(b:LB)(w:TG):Prop:=QG 3 (AE (QB b.cl)) b.A (QB b.cl).length b.c w/\QG 1 (Qr (EE b.cl)) b.B (EE b.cl).length b.d w
def KK(L:List LB)(A:T4)(c:Nat)(w:TG):Prop:=QG 4 (G0 L) A L.length c w/\∀x∈L,QzG x w
theorem KK.cells{D R:List LB}{x:LB}{b o c:Nat}{w:TG}(h:KK (D++x::R) (some ⟨b,o,none⟩) c w):w.cell? ⟨b,o+D.length*4,none⟩=some (.slice x.A (QB x.cl).length x.c)/\w.cell? ⟨b,o+D.length*4+1,none⟩=some (.int .i64 x.cl.vars)/\w.cell? ⟨b,o+D.length*4+2,none⟩=some (.int .i64 x.cl.vars)/\w.cell? ⟨b,o+D.length*4+3,none⟩=some (.slice x.B (EE x.cl).length x.d):=by
 have key:∀j v,(PY x)[j]?=some v->(G0 (D++x::R))[D.length*4+j]?=some v:=by
  intro j v hj;rw[Qmx,UC (by rw[Qj0];omega),Qj0,show D.length*4+j-D.length*4=j by omega];show(PY x++G0 R)[j]?=some v
  have tX:j<(PY x).length:=by
   rcases XY j (PY x).length with h|h
   .exact h
   .rw[XX h]at hj;cases hj
  rw[VO tX];exact hj
 have g:=fun j v hj=>h.1.get (key j v hj);exact⟨g 0 _ rfl,g 1 _ rfl,g 2 _ rfl,g 3 _ rfl⟩
theorem KK.some_{L:List LB}{A:T4}{c:Nat}{w:TG}(h:KK L A c w)(hl:0<L.length):∃b o,A=some ⟨b,o,none⟩:=h.1.some_ hl
theorem KK.drop{L:List LB}{b o c:Nat}{w:TG}(h:KK L (some ⟨b,o,none⟩) c w)(k:Nat)(hk:k<=L.length):KK (L.drop k) (some ⟨b,o+k*4,none⟩) (c-k) w:=by
 obtain⟨⟨h1,h2,h3⟩,h4⟩:=h
 have e:G0 (L.drop k)=(G0 L).drop (k*4):=by
  conv=>rhs;rw[<-VR k L]
  rw[Qmx,Xbm (by rw[Qj0,VV];omega)]
 refine⟨⟨by rw[Qj0],by rw[V0];omega,fun hl=> ?_⟩,fun x hx=>h4 x (JJ hx)⟩;rw[V0]at hl;obtain⟨_,_,e1,hs⟩:=h3 Ya;simp only[XU,Xay,VX]at e1;obtain⟨rfl,rfl⟩:=e1;refine⟨b,o+k*4,rfl,fun j u hj=> ?_⟩;rw[e,UW]at hj;have:=hs _ _ hj
 rwa [show o+(k*4+j)=o+k*4+j by omega]at this
structure LX where
 at_:Nat
 cls:List LB
 A:T4
 c:Nat
 cells:Nat
 bound:Nat
def LX.xc(x:LX):XC:=⟨x.at_,x.cls.map LB.cl,x.cells,x.bound⟩
abbrev xcs(x:LX):T5:=[.int .i64 (x.at_:Nat),.slice x.A x.cls.length x.c,.int .i64 (x.cells:Nat),.int .i64 (x.bound:Nat)]
def BZ:List LX->T5
 |[]=>[]
 |b::r=>xcs b++BZ r
theorem Qpc(a b:List LX):BZ (a++b)=BZ a++BZ b:=by
 induction a with
 |nil=>rfl
 |cons c r ih=>simp[BZ,ih]
theorem NT(a:List LX):(BZ a).length=a.length*4:=by
 induction a with
 |nil=>rfl
 |cons c r ih=>simp[BZ,ih];omega
abbrev Qza(l:XL):T5:=[.int .i64 l.g,.int .i64 (l.o:Nat),.int .i64 l.nx]
def BP:List XL->T5
 |[]=>[]
 |b::r=>Qza b++BP r
theorem Qx7(a b:List XL):BP (a++b)=BP a++BP b:=by
 induction a with
 |nil=>rfl
 |cons c r ih=>simp[BP,ih]
theorem QiZ(a:List XL):(BP a).length=a.length*3:=by
 induction a with
 |nil=>rfl
 |cons c r ih=>simp[BP,ih];omega
theorem UL:∀(L:List XL) (i:Nat) (l:XL),L[i]?=some l->(BP L)[i*3]?=some (.int .i64 l.g)/\(BP L)[i*3+1]?=some (.int .i64 (l.o:Nat))/\(BP L)[i*3+2]?=some (.int .i64 l.nx)
 |[],i,l,h=>by simp at h
 |x::r,0,l,h=>by
  simp at h;subst h;exact⟨rfl,rfl,rfl⟩
 |x::r,i+1,l,h=>by
  have:=UL r i l YY;rw[show(i+1)*3=i*3+3 by omega];exact BS
theorem Ql4:∀(L:List LX) (i:Nat) (l:LX),L[i]?=some l->(BZ L)[i*4]?=some (.int .i64 (l.at_:Nat))/\(BZ L)[i*4+1]?=some (.slice l.A l.cls.length l.c)/\(BZ L)[i*4+2]?=some (.int .i64 (l.cells:Nat))/\(BZ L)[i*4+3]?=some (.int .i64 (l.bound:Nat))
 |[],i,l,h=>by simp at h
 |x::r,0,l,h=>by
  simp at h;subst h;exact⟨rfl,rfl,rfl,rfl⟩
 |x::r,i+1,l,h=>by
  have:=Ql4 r i l YY;rw[show(i+1)*4=i*4+4 by omega];exact BS
theorem Row.cell{el sz len:Nat}{A:T4}{c:Nat}{xs:T5}{O H:T0}{M:T6}{w0 w:TG}{F:T3}{b o:Nat}{v:TH}{j:Nat}(h:Row el sz (.slice A len c) len xs O)(hS:St M w0 H F w)(hm:∀p∈O,p∈H)(e:A=some ⟨b,o,none⟩)(hj:xs[j]?=some v):w.cell? ⟨b,o+j,none⟩=some v:=by
 cases h with
 |nil_=>simp at hj
 |own_ hx hc oW tJ=>
  cases e
  have:=hS.own _ (hm _ (VJ.2 rfl));rw[Qs this,XQ,VO]
  .exact hj
  .rcases XY j xs.length with h|h
   .exact h
   .rw[XX h]at hj;cases hj
structure XD where
 hA:T4
 hc:Nat
 hB:T4
 hd:Nat
 LA:T4
 lc:Nat
 O1:T0
 cs:List LX
 CA:T4
 cc:Nat
 O2:T0
 evs:List LE
 EA:T4
 ec:Nat
 O3:T0
structure LR(P:List LB)(pA:T4)(pc:Nat)(x:XS)(d:XD)(F:T3):Prop where
 hh:AB F (FR x.h d.hA d.hc d.hB d.hd)
 row1:Row 101 3 (.slice d.LA x.ln.length d.lc) x.ln.length (BP x.ln) d.O1
 hc:d.cs.map LX.xc=x.ch
 rc:∀c∈d.cs,AB F (KK c.cls c.A c.c)
 row2:Row 151 4 (.slice d.CA d.cs.length d.cc) d.cs.length (BZ d.cs.reverse) d.O2
 he:d.evs.map (fun e=>e.T.ts)=x.ev
 re:∀e∈d.evs,AB F (AV e.A e.c e.T)
 row3:Row 34 2 (.slice d.EA d.evs.length d.ec) d.evs.length (MD d.evs) d.O3
 rp:AB F (KK P pA pc)
theorem LR.mono{P:List LB}{pA:T4}{pc:Nat}{x:XS}{d:XD}{F F':T3}(h:LR P pA pc x d F)(hs:∀φ∈F,φ∈F'):LR P pA pc x d F':=
 ⟨h.hh.mono hs,h.row1,h.hc,fun c hc=>(h.rc c hc).mono hs,h.row2,h.he,fun e he=>(h.re e he).mono hs,h.row3,h.rp.mono hs⟩
abbrev LS(P:List LB)(pA:T4)(pc vars fuel every:Nat)(x:XS)(d:XD):T5:=
 [.slice d.hA x.h.cs.length d.hc,.slice d.hB x.h.tr.length d.hd,.slice pA P.length pc,.int .i64 (vars:Nat),.int .i64 (fuel:Nat),.int .i64 (x.goals:Nat),.int .i64 (every:Nat),.slice d.LA x.ln.length d.lc,.int .i64 x.first,.slice d.CA d.cs.length d.cc,.slice d.EA d.evs.length d.ec]
abbrev CO(P:List LB)(pA:T4)(pc vars fuel every:Nat)(x:XS)(d:XD):Obj:= .cells (LS P pA pc vars fuel every x d).toArray 61
def BT(M:T6)(w0:TG)(H:T0)(F0:T3)(b:Nat)(P:List LB)(pA:T4)(pc vars fuel every:Nat)(x:XS)(w:TG):Prop:=
 ∃(d:XD) (F:T3),(∀φ∈F0,φ∈F)/\LR P pA pc x d F/\St M w0 ((b,CO P pA pc vars fuel every x d)::(d.O1++(d.O2++(d.O3++H)))) F w
end Go.Proofs.YthliapbflkfdiacGreatDoor
