/- Steps of the proof. -/
import Derived.Test.YthliapbflkfdiacGreatDoorG40
set_option linter.unusedVariables false
set_option linter.unusedSimpArgs false
set_option maxRecDepth 100000
set_option maxHeartbeats 1000000
namespace Go.Proofs.YthliapbflkfdiacGreatDoor
open Go.Proofs.Tryz
open Go.RowKit
section
variable{M:T6}{w0:TG}{H:T0}{F0:T3}{b:Nat}{P:List LB}{pA:T4}{pc vars fuel every:Nat}
theorem Qoe(x:XS)(l:XL)(z:HC)(w:TG)(pN:GO x)(hz:AD x.h.cs l.g=some z)(qI:l.o<=x.ch.length)(oG:x.h.cs.length<=65536)(Wq:z.s.toList=[108,101,115,115]\/z.s.toList=[97,100,100]->MM x.h (l.g+1)/\MM x.h (l.g+1+1))(hs:BT M w0 H F0 b P pA pc vars fuel every x w):
  Calls prog 58 #[ES b,.agg (Qza l).toArray] w fun e w'=>e= .returned (.int .i64 (OV l x).1)/\BT M w0 H F0 b P pA pc vars fuel every (OV l x).2 w':=by
 obtain⟨d,F,oU,oK,hS⟩:=hs;obtain⟨hA,hc,hB,hd,LA,lc,O1,cs,CA,cc,O2,evs,EA,ec,O3⟩:=d
 have Uo:DX x.h l.g=z:=by unfold DX;rw[hz];rfl
 have wM:OV l x=if z.s.toList=[33]then(0,⟨x.h,x.goals,x.ln,x.first,x.ch.drop (x.ch.length-l.o),x.ev⟩)
  else if z.s.toList=[116,114,117,101]then(0,x)else if z.s.toList=[101,113]then OD (l.g+1) (l.g+1+1) x
  else if z.s.toList=[108,101,115,115]then SK (l.g+1) x else if z.s.toList=[97,100,100]then R6 (l.g+1) x else MZ x:=by
  unfold OV;rw[Uo]
 obtain⟨_,_,z2⟩:=AZ.1 hz;obtain⟨Mj,Ml,rfl⟩:∃b o,hA=some ⟨b,o,none⟩:=(hS.und oK.hh).1.some_ (by show 0<x.h.cs.length;omega);have oL:∀{H'} w',St M w0 H' F w'->_:=fun w' hS=>((hS.und oK.hh).1).cell z2
 have xE:∀w',St M w0 ((b,CO P pA pc vars fuel every x ⟨some ⟨Mj,Ml,none⟩,hc,hB,hd,LA,lc,O1,cs,CA,cc,O2,evs,EA,ec,O3⟩)::(O1++(O2++(O3++H)))) F w'->BT M w0 H F0 b P pA pc vars fuel every x w':=fun w' h=>⟨_,F,oU,oK,h⟩
 have Il:cs.length=x.ch.length:=by
  have:cs.map LX.xc=x.ch:=oK.hc;rw[<-this];simp
 have Nc:=pN.cn;refine Qh func58 rfl ntmps58 rfl ?_;by_cases h1:z.s.toList=[33]
 .rw [XB h1] at wM;rw [wM];have e1:=(I4 [33]).1 h1;have oT:Row 151 4 (.slice CA cs.length cc) cs.length (BZ cs.reverse) O2:=oK.row2;have pQ:=oT.cap;have hcut:=oT.cut (m:=l.o) Ya;dsimp only [CO,LS] at hS;apply Zq.w.1;clear hS;intro b1 oQ hS;apply Zq.c.bD.gV.C.c.E.E.fX.1;replace hS:=hS.drew;apply Zq.cA.bC.cL.bC.cL.d0.b5.cL.aD.dJ.fF.dQ.E.fX.1;replace hS:=hS.drew;apply Zq.a5.aU.gO.cL.cM.cL.1;refine Qe rfl (fun _ hS=>QZ (sz:=4) rfl rfl rfl rfl Ya Ya) rfl ?_;apply Zq.eF.gO.aD.J.1;clear hS;intro _ hS;apply Zq.b.e.gY.1;refine ⟨rfl,⟨some ⟨Mj,Ml,none⟩,hc,hB,hd,LA,lc,O1,cs.drop (cs.length-l.o),CA,cc,O2,evs,EA,ec,O3⟩,F,oU,?_,?_⟩
  .have e2:(cs.drop (cs.length-l.o)).length=l.o:=by simp;omega
   refine⟨oK.hh,oK.row1,?_,fun c hc=>oK.rc c (JJ hc),?_,oK.he,oK.re,oK.row3,oK.rp⟩
   .show(cs.drop (cs.length-l.o)).map LX.xc=x.ch.drop (x.ch.length-l.o);rw[<-show cs.map LX.xc=x.ch from oK.hc,List.map_drop];simp
   .show Row _ _ (.slice CA (cs.drop (cs.length-l.o)).length cc) (cs.drop (cs.length-l.o)).length _ _;rw[e2]
    have e3:(BZ cs.reverse).take (l.o*4)=BZ (cs.drop (cs.length-l.o)).reverse:=by
     have e4:cs.reverse=(cs.drop (cs.length-l.o)).reverse++(cs.take (cs.length-l.o)).reverse:=by rw[<-WB,VR]
     rw[e4,Qpc,Xbw (by rw[NT];simp;omega),U0 (by rw[NT];simp;omega)]
    rw[<-e3];exact hcut
  .have e2:(cs.drop (cs.length-l.o)).length=l.o:=by simp;omega
   dsimp only[CO,LS]at hS⊢;rw[e2];exact hS.drop
 rw[XA h1]at wM;have e1:z.s≠⟨#[33]⟩:=fun h=>h1 ((I4 [33]).2 h);by_cases h2:z.s.toList=[116,114,117,101]
 .rw[XB h2]at wM;rw[wM];have e2:=(I4 [116,114,117,101]).1 h2;apply Zq.w.1;clear hS;intro b1 oQ hS;apply Zq.c.bD.gV.C.c.E.E.fX.1;replace hS:=hS.drew;apply Zq.cA.bC.cL.bC.cL.d0.b5.cL.aD.dJ.cC.fF.dQ.e.gY.1;exact⟨rfl,xE _ hS.drop⟩
 rw[XA h2]at wM;have e2:z.s≠⟨#[116,114,117,101]⟩:=fun h=>h2 ((I4 [116,114,117,101]).2 h);by_cases h3:z.s.toList=[101,113]
 .rw[XB h3]at wM;rw[wM];have e3:=(I4 [101,113]).1 h3;apply Zq.w.1;clear hS;intro b1 oQ hS;apply Zq.c.bD.gV.C.c.E.E.fX.1;replace hS:=hS.drew;apply Zq.cA.bC.cL.bC.cL.d0.b5.cL.aD.dJ.cC.cC.fF.dQ.i.a1.bA.1;refine XE (Qlz x (l.g+1) (l.g+1+1) _ pN (xE _ hS.drop)) ?_;exact Ybu
 rw[XA h3]at wM;have e3:z.s≠⟨#[101,113]⟩:=fun h=>h3 ((I4 [101,113]).2 h);by_cases h4:z.s.toList=[108,101,115,115]
 .rw[XB h4]at wM;rw[wM];have e4:=(I4 [108,101,115,115]).1 h4;obtain⟨l1,l2⟩:=Wq (.inl h4);apply Zq.w.1;clear hS;intro b1 oQ hS;apply Zq.c.bD.gV.C.c.E.E.fX.1;replace hS:=hS.drew;apply Zq.cA.bC.cL.bC.cL.d0.b5.cL.aD.dJ.cC.cC.cC.fF.dQ.i.f.1;refine XE (QuD x (l.g+1) _ pN Ya l1 l2 oG (xE _ hS.drop)) ?_;exact Ybu
 rw[XA h4]at wM;have e4:z.s≠⟨#[108,101,115,115]⟩:=fun h=>h4 ((I4 [108,101,115,115]).2 h);by_cases h5:z.s.toList=[97,100,100]
 .rw[XB h5]at wM;rw[wM];have e5:=(I4 [97,100,100]).1 h5;obtain⟨l1,l2⟩:=Wq (.inr h5);apply Zq.w.1;clear hS;intro b1 oQ hS;apply Zq.c.bD.gV.C.c.E.E.fX.1;replace hS:=hS.drew;apply Zq.cA.bC.cL.bC.cL.d0.b5.cL.aD.dJ.cC.cC.cC.cC.fF.dQ.i.f.1;refine XE (QwN x (l.g+1) _ pN Ya l1 l2 oG (xE _ hS.drop)) ?_;exact Ybu
 rw[XA h5]at wM;have e5:z.s≠⟨#[97,100,100]⟩:=fun h=>h5 ((I4 [97,100,100]).2 h);rw[wM];apply Zq.w.1;clear hS;intro b1 oQ hS;apply Zq.c.bD.gV.C.c.E.E.fX.1;replace hS:=hS.drew;apply Zq.cA.bC.cL.bC.cL.d0.b5.cL.aD.dJ.cC.cC.cC.cC.cC.aW.aX.Z.1;refine XE (Qfx x _ pN (xE _ hS.drop)) ?_;exact Ybu
end
section
variable{M:T6}{w0:TG}{H:T0}{F:T3}
theorem QkI(z:HC)(w:TG)(h0:0<=z.n)(h1:z.n<=1000000)(hS:St M w0 H F w):
  Calls prog 57 #[.agg (AP z).toArray] w fun e w'=>e= .returned (.bool (Q1 z.s.toList z.n.toNat))/\St M w0 H F w':=by
 obtain⟨_,_,zs⟩:=z;dsimp only at h0 h1;obtain⟨k,rfl⟩:=Int.eq_ofNat_of_zero_le h0;refine Qg func57 rfl ntmps57 rfl ?_;apply Zq.w.1;clear hS;intro _ _ hS;apply Zq.c.E.1;refine QH (St _ _ _ _) 8 ((0,true)::(1,true)::(2,true)::(3,true)::(4,false)::(5,true)::(6,false)::(7,true)::[]) Yc Yc (hS.drew) ?_;replace hS:=hS.drew;apply Zq.b5.aN.cM.aN.aR.m2.1;clear hS;intro g _ cs AP hS;apply Zq.fK.nZ.aR.F.1;refine XE (Qgm 0 0 zs (some ⟨g,0,none⟩) k k _) ?_;rintro _ _ ⟨rfl,oZ⟩;apply Zq.a.1;replace hS:=hS.grow oZ;apply Zq.fK.bK.dK.1;refine Qd func57 rfl Yb ?_;exact⟨rfl,hS.drop.drop⟩
end
section
variable{M:T6}{w0:TG}{H:T0}{F0:T3}{b:Nat}{P:List LB}{pA:T4}{pc vars fuel every:Nat}
theorem QsR(z:HC)(P:List LB):(P.map LB.cl).filter (fun c=>decide (MO c=z))=(P.filter (II z)).map LB.cl:=by
 rw[Xbb];rfl
theorem QuF(x:XS)(a:Nat)(z:HC)(w:TG)(pN:GO x)(ha:a<x.ln.length)(hz:AD x.h.cs (AH x.ln a).g=some z)(oG:x.h.cs.length<=65536)(Ic:x.h.tr.length<=1000000)(hP:∀p∈P,p.ok/\R9 p.cl)(hl:P.length<=24)(hs:BT M w0 H F0 b P pA pc vars fuel every x w):
  Calls prog 59 #[ES b,.int .i64 (a:Nat)] w fun e w'=>e= .returned (.int .i64 (PE (P.map LB.cl) a x).1)/\BT M w0 H F0 b P pA pc vars fuel every (PE (P.map LB.cl) a x).2 w':=by
 obtain⟨d,F,oU,oK,hS⟩:=hs;obtain⟨hA,hc,hB,hd,LA,lc,O1,cs,_,_,_,_,_,_,_⟩:=d
 have Uo:DX x.h (AH x.ln a).g=z:=by unfold DX;rw[hz];rfl
 have Ff:PE (P.map LB.cl) a x=match(P.filter (II z)).map LB.cl with
   |[]=>(5,x)
   |c::more=>LH (GT x.ch) a x.h.cs.length x.h.tr.length (c::more) x:=by
  unfold PE;rw[Uo,QsR];cases P.filter (II z)<;>rfl
 obtain⟨_,_,z2⟩:=AZ.1 hz;obtain⟨Mj,Ml,rfl⟩:∃b o,hA=some ⟨b,o,none⟩:=(hS.und oK.hh).1.some_ (by show 0<x.h.cs.length;omega);have oL:∀{H'} w',St M w0 H' F w'->_:=fun w' hS=>((hS.und oK.hh).1).cell z2;obtain⟨l0,_,_⟩:=UL x.ln a _ (RR ha);have qD:Row 101 3 (.slice LA x.ln.length lc) x.ln.length (BP x.ln) O1:=oK.row1;obtain⟨gl,sp,rfl,rfl,_⟩:=qD.some_ Ya;have rD:∀{M2 H' F'} w',St M2 w0 H' F' w'->(gl,Obj.cells (BP x.ln++sp).toArray 101)∈H'->_:=fun{M2 H' F'} w' (hS:St M2 w0 H' F' w') hm=>Row.cell (w:=w') qD hS Yv rfl l0;have Be:=pN.ln;refine Qh func59 rfl ntmps59 rfl ?_;apply Zq.e.E.jZ.1;replace hS:=hS.drew;apply Zq.a5.cA.bC.hB.aU.g5.hB.a5.d0.bC.hB.d0.1
 first
  |refine Qe rfl (fun _ hS=>Qb (k:=3) hS rfl rfl rfl Ym Yh) rfl ?_
  |refine Qe rfl (fun _ hS=>Qb (k:=3) hS rfl rfl rfl Ym Ye) rfl ?_
  |refine Qe rfl (fun _ hS=>NI rfl rfl rfl YX YX YX) rfl ?_
 apply Zq.aD.f.1;refine XE (Qmq (F0:=F) x z _ (fun p hp=>(hP p hp).1) hl ⟨_,F,fun _ h=>h,oK,hS⟩) ?_;rintro _ _ ⟨A3,c3,_,rfl,vI,Ha,hq⟩;apply Zq.a.1;clear hS;obtain⟨d4,F4,Cu,Uq,hS⟩:=hq;have uH:=J3 (II z) P;have rQ:∀p∈P.filter (II z),R9 p.cl:=fun p hp=>(hP p (JK.1 hp).1).2;rw[Ff];generalize P.filter (II z)=L at*
 cases L with
 |nil=>
  apply Zq.M.aC.l.cI.1;refine Qd func59 rfl Yb ?_;exact⟨rfl,d4,F4,fun φ h=>Cu φ (vI φ (oU φ h)),Uq,hS⟩
 |cons y R=>
  apply Zq.M.aC.bY.E.1;obtain⟨_,_,_,_,_,_,_,_,_,_,_,_,_,_,_⟩:=d4;apply Zq.jZ.1;replace hS:=hS.drew;apply Zq.dS.a5.cA.bC.hB.eH.cA.cM.hB.eH.1;refine Qe rfl (fun _ hS=>QD (cells:=[_,_,_,_]) (.cons Yb (.cons Yb (.cons Yb (.cons Yb .nil)))) rfl) rfl ?_;apply Zq.aD.f.1;refine XE (Qie _ (Qlx _) x a x.h.cs.length x.h.tr.length (y::R) A3 c3 _ rfl pN ha rQ Ya Ya Ya Ha ⟨_,F4,Cu,Uq,hS⟩) ?_;rintro _ _ ⟨rfl,hq⟩;apply Zq.aJ.1;refine Qd func59 rfl Yb ?_;exact⟨rfl,hq.weaken fun φ h=>vI φ (oU φ h)⟩
end
theorem Qjh(h:HH)(a most:Int):(D4 h a most).1.ar.nodes<=65536/\(D4 h a most).2.1<=65536:=by
 unfold D4
 have hm:OW most<=65536:=by unfold OW;omega
 split
 .exact YcU
 .split
  .exact YcU
  .split
   .exact YcU
   .rename_i t l ht;have:=Qfp _ _ _ _ ht;dsimp only at this⊢;omega
theorem Qi7(h:HH):∀(m v:Nat) (l:Int) (T:Ts) (l':Int),FK h m v l=some (T,l')->T.nodes<=m*65537/\T.length=m
 |0,v,l,T,l',e=>by
  simp only[FK,XU,J7]at e;rw[<-e.1];simp[Ts.nodes,Ts.length]
 |m+1,v,l,T,l',e=>by
  unfold FK at e;split at e
  .cases e
  .cases h2:FK h m (v+1) (l-((D4 h (v:Nat) l).2.1:Nat))with
   |none=>rw[h2]at e;cases e
   |some p=>
    obtain⟨U,l2⟩:=p;rw[h2]at e;simp only[XU,J7]at e;have i:=Qi7 h m (v+1) _ U l2 h2;have j:=Qjh h (v:Nat) l;rw[<-e.1];exact S5
section
variable{M:T6}{w0:TG}{H:T0}{F0:T3}{b:Nat}{P:List LB}{pA:T4}{pc vars fuel every:Nat}
theorem QpL(x:XS)(w:TG)(pN:GO x)(hv8:vars<=8)(pX:x.ev.length<12)(hs:BT M w0 H F0 b P pA pc vars fuel every x w):
  Calls prog 55 #[ES b] w fun e w'=>e= .returned (.int .i64 (N7 vars x).1)/\BT M w0 H F0 b P pA pc vars fuel every (N7 vars x).2 w':=by
 obtain⟨d,F,oU,oK,hS⟩:=hs;obtain⟨hA,hc,hB,hd,LA,lc,O1,cs,CA,cc,O2,evs,EA,ec,O3⟩:=d;refine Qg func55 rfl ntmps55 rfl ?_;apply Zq.e.aT.cS.m2.1;clear hS;intro g _ zs wO hS;apply Zq.c.bV.aQ.1;refine Qx 16 4 (17::18::5::20::21::22::23::24::25::26::19::27::28::29::6::7::8::30::31::2::32::33::34::35::36::37::38::39::[]) (fun(m:Nat) v u w'=>∃(D':TA) (rs:T5) (li:Int) (F':T3),D'.len+m=vars/\rs.length=m*4/\v= .int .i64 (D'.len:Nat)/\u= .int .i64 li/\200-65536*(D'.len:Int)<=li/\li<=200/\FK x.h vars 0 200=(FK x.h m D'.len li).map (fun p=>(D'.ts.app p.1,p.2))/\(∀φ∈F,φ∈F')/\AB F' (IQ D')/\St M w0 ((g,.cells (EU D'++rs).toArray 63)::(b,CO P pA pc vars fuel every x ⟨hA,hc,hB,hd,LA,lc,O1,cs,CA,cc,O2,evs,EA,ec,O3⟩)::(O1++(O2++(O3++H)))) F' w') (fun m=>m) (vars) ?_ Yb Yb ?_
 .exact⟨.nil,zs,200,F,by simp[TA.len],wO,rfl,rfl,by simp[TA.len],by omega,(by show FK x.h vars 0 200=(FK x.h vars 0 200).map _;cases FK x.h vars 0 200<;>rfl),fun _ h=>h,fun _ _=>trivial,hS⟩
 clear hS;rintro m _ _ _ _ ⟨D',rs,li,F',_,Mg,rfl,rfl,_,_,Bv,vS,Uh,hS⟩ ih;have hD4:=QqG D';have wW:=oK.mono vS
 cases m with
 |zero=>
  obtain rfl:rs=[]:=VL (by simpa using Mg)
  have Hu:FK x.h vars 0 200=some (D'.ts,li):=by
   rw[Bv];show some (D'.ts.app .nil,li)=_;rw[Ts.app_nil]
  have Rb:=(Qi7 _ _ _ _ _ _ Hu).1;have yX:D'.len=vars:=by omega
  have aDm:∀w',St M w0 ((g,.cells (EU D'++[]).toArray 63)::(b,CO P pA pc vars fuel every x ⟨hA,hc,hB,hd,LA,lc,O1,cs,CA,cc,O2,evs,EA,ec,O3⟩)::(O1++(O2++(O3++H)))) F' w'->AV (some ⟨g,0,none⟩) vars D' w':=fun w' hS=>by
   refine⟨by omega,fun _=>⟨g,0,rfl,Qpr (hS.und Uh) fun j x hj=> ?_⟩⟩;rw[Qs (hS.own (g,_) (.head _)),XQ,VF];exact hj
  have qX:Row 34 2 (.slice EA evs.length ec) evs.length (MD evs) O3:=wW.row3
  have Pm:evs.length=x.ev.length:=by
   have:evs.map (fun e=>e.T.ts)=x.ev:=oK.he;rw[<-this];simp
  apply Zq.W.E.1;replace hS:=hS.swap;refine QH (St _ w0 [_] []) 12 ((0,true)::(1,true)::(2,true)::(3,true)::(4,true)::(5,true)::(6,false)::(7,true)::(8,false)::(9,false)::(10,true)::(11,true)::[]) Yc Yc (hS.drew.bare1) ?_;replace hS:=hS.drew;apply Zq.a5.aU.kT.aN.a5.aR.1;have aDn:=Qwm D'.ts (.slice (some ⟨g,0,none⟩) vars vars) _ (by have:=(aDm _ hS.swap).sl;rw[yX]at this;exact this) Ya;apply Zq.F.1;refine XE aDn ?_;rintro _ w7 ⟨_,rfl,pW,rA⟩;apply Zq.a.1;obtain⟨A7,c7,L7,rfl,Ft,oD⟩:=hS.located rA pW;replace hS:=oD;clear oD;apply Zq.fR.1;refine Qe rfl (fun _ hS=>QD (cells:=[_,_]) (.cons Yb (.cons Yb .nil)) rfl) rfl ?_;apply Zq.aR.h0.1;clear hS;intro b1 oQ hS;apply Zq.fR.aR.1;refine EQ (sz:=2) (bts:=32) hS Yb rfl rfl rfl rfl (qX) rfl rfl (.cons _ (Qmm [_,_] _ _ _ _)) Ya Ya rfl ?_;clear hS;intro _ O8 w9 pC hS;obtain⟨A8,c8,rfl⟩:=pC.form;replace hS:=hS.perm (Qmm [_,_] _ _ _ _).symm
  have Hz:N7 vars x=if x.ev.length+1=12 then(6,x.tell D'.ts)else MZ (x.tell D'.ts):=by
   unfold N7;rw[Hu]
  have rN:∀w',St M w0 ((b,CO P pA pc vars fuel every (x.tell D'.ts) ⟨hA,hc,hB,hd,LA,lc,O1,cs,CA,cc,O2,evs++[⟨A7,c7,L7⟩],A8,c8,O8⟩)::(g,.cells (EU D'++[]).toArray 63)::(O1++(O2++(O8++H)))) (AV A7 c7 L7::F') w'->BT M w0 H F0 b P pA pc vars fuel every (x.tell D'.ts) w':=fun w' hS=>by
   refine⟨⟨hA,hc,hB,hd,LA,lc,O1,cs,CA,cc,O2,evs++[⟨A7,c7,L7⟩],A8,c8,O8⟩,_,fun φ h=> .tail _ (vS φ (oU φ h)),?_,hS.swap.drop⟩;have ho:=wW.mono (F':=AV A7 c7 L7::F') fun φ h=> .tail _ h;refine⟨ho.hh,ho.row1,ho.hc,ho.rc,ho.row2,?_,?_,?_,ho.rp⟩
   .show(evs++[LE.mk A7 c7 L7]).map _=_;rw[VD,show evs.map (fun e=>e.T.ts)=x.ev from ho.he];simp[Ft,XS.tell]
   .intro e he;rcases VG.1 he with he|he
    .exact ho.re e he
    .obtain rfl:e=⟨A7,c7,L7⟩:=by simpa using he
     exact AB.head
   .show Row _ _ (.slice A8 (evs++[LE.mk A7 c7 L7]).length c8) (evs++[LE.mk A7 c7 L7]).length (MD (evs++[LE.mk A7 c7 L7])) _;rw[QyO,XG];exact pC
  have pH:GO (x.tell D'.ts):=⟨pN.ln,pN.cn,pN.ch⟩
  have Jh:(evs++[LE.mk A7 c7 L7]).length=evs.length+1:=by simp
  by_cases uB:x.ev.length+1=12
  .rw[XB uB]at Hz;rw[Hz];apply Zq.fR.eF.kT.aD.J.1;clear hS;intro pP hS;apply Zq.b.aH.kF.y.aC.l.cI.j0.1;exact⟨rfl,rN _ (by dsimp only[CO,LS];rw[Jh];exact hS)⟩
  .rw[XA uB]at Hz;rw[Hz];apply Zq.fR.eF.kT.aD.J.1;clear hS;intro pP hS;apply Zq.b.aH.kF.y.aC.bY.Z.1;refine XE (Qfx _ _ pH (rN _ (by dsimp only[CO,LS];rw[Jh];exact hS))) ?_;rintro _ w9 ⟨rfl,hq⟩;apply Zq.aJ.j0.1;exact SA
 |succ m=>
  obtain⟨r0,r1,r2,r3,rs,rfl⟩:∃r0 r1 r2 r3 Mh,rs=[r0,r1,r2,r3]++Mh:=by
   match rs,Mg with
   |r0::r1::r2::r3::Mh,_=>exact⟨r0,r1,r2,r3,Mh,rfl⟩
   |[],h=>simp at h
   |[_],h=>simp at h;omega
   |[_,_],h=>simp at h;omega
   |[_,_,_],h=>simp at h;omega
  have vC:FK x.h (m+1) D'.len li=if(D4 x.h (D'.len:Nat) li).2.2≠0 then none else match FK x.h m (D'.len+1) (li-((D4 x.h (D'.len:Nat) li).2.1:Nat))with
   |none=>none
   |some (T,l'')=>some (.cons (D4 x.h (D'.len:Nat) li).1.k (D4 x.h (D'.len:Nat) li).1.n (D4 x.h (D'.len:Nat) li).1.s (D4 x.h (D'.len:Nat) li).1.ar T,l''):=rfl
  have My:=(Qjh x.h (D'.len:Nat) li).2;apply Zq.a8.aB.bN.b1.aO.bA.1;refine XE (QtK x.h (D'.len:Nat) li hA hB hc hd _ wW.hh hS) ?_;rintro _ w7 ⟨u2,F2,rfl,pT,pF,Fb,oD⟩;apply Zq.a.1;replace hS:=oD;clear oD;by_cases he:(D4 x.h (D'.len:Nat) li).2.2=0
  .rw [XA (fun h => h he)] at vC;apply Zq.dV.R.1;clear hS;intro b1 oQ hS;apply Zq.d.1;clear hS;intro pP hS;apply Zq.K.cW.D.i.cE.cF.nH.1;clear hS;intro _ hS;apply Zq.b.cY.b3.dN.1;refine ih (m) _ _ _ _ ?_ ?_ Yb Yb Yc
   .omega
   .refine⟨D'.app (.cons u2.k u2.n u2.s u2.A u2.c u2.ar .nil),rs,li-((D4 x.h (D'.len:Nat) li).2.1:Nat),F2,by rw[TA.len_app];simp only[TA.len];omega,by simp at Mg;omega,by rw[TA.len_app];rfl,rfl,by rw[TA.len_app];simp only[TA.len];omega,by omega,?_,fun φ h=>pF φ (vS φ h),?_,?_⟩
    .rw[Bv,vC,TA.app_ts,TA.len_app];show Option.map _ (match FK x.h m (D'.len+1) _ with|none=>none|some (T,l'')=>_)=Option.map _ (FK x.h m (D'.len+1) _)
     cases FK x.h m (D'.len+1) (li-((D4 x.h (D'.len:Nat) li).2.1:Nat))with
     |none=>rfl
     |some q=>
      obtain⟨T,l2⟩:=q;show some (D'.ts.app _,l2)=some ((D'.ts.app (.cons u2.k u2.n u2.s u2.ar.ts .nil)).app T,l2);rw[Ts.app_assoc,<-pT];rfl
    .exact fun w hw=>IQ.app (U:= .cons u2.k u2.n u2.s u2.A u2.c u2.ar .nil) ⟨Fb w hw,trivial⟩ ((Uh.mono pF) w hw)
    .rw[Qiz,VB];exact hS.drop
  .rw[XB he]at vC;rw[vC]at Bv
   have e:N7 vars x=(4,x):=by unfold N7;rw[Bv];rfl
   rw[e];apply Zq.dV.R.1;clear hS;intro b1 oQ hS;apply Zq.d.1;clear hS;intro pP hS;apply Zq.K.cW.cI.j0.1;exact⟨rfl,_,F2,fun φ h=>pF φ (vS φ (oU φ h)),wW.mono pF,hS.drop.drop⟩
end
theorem QqO{S:T8}{i:Nat}(h:S[i]?=some false):(S.set i true).count false+1=S.count false:=by
 induction S generalizing i with
 |nil=>simp at h
 |cons a r ih=>
  cases i with
  |zero=>simp at h;subst h;simp
  |succ i=>
   have:=ih (i:=i) YY;simp only[List.set_cons_succ,List.count_cons];omega
abbrev MQ(V:T6):T5:=Qr (V.map fun(i:Nat)=>(i:Int))
def ST(L:List XL):Prop:=∀l∈L,l.nx= -1\/(0<=l.nx/\l.nx<L.length)
section
variable{M:T6}{w0:TG}{H T:T0}{F:T3}{b:Nat}{cz:T5}{ct:TypeId}
theorem QlA(L:List XL)(i:Int)(S:T8)(V:T6)(f:Nat)(sb zb mb lb:Nat)(VA:T4)(vc:Nat)(Ol:T0)(gl:Nat)(sp Ur Ut:T5)(Mp:Nat)(w:TG)(hL:ST L)(Ge:S.length=L.length)(hl:L.length<=1000000)(AP:Ur.length=7)(sT:(gl,Obj.cells (BP L++sp).toArray 101)∈T)(Ji:0<L.length)
  (hi:i= -1\/(0<=i/\i<L.length)) (hf:S.count false<f) (hV:V.length+S.count false<=L.length) (oE:Row 3 1 (.slice VA V.length vc) V.length (MQ V) Ol)
  (hS:St M w0 ((sb,.cells #[.slice (some ⟨zb,0,none⟩) L.length L.length] 202)::(zb,.cells (CP S).toArray 4)::(mb,.cells #[ES b] 50)::(lb,.cells #[.slice VA V.length vc] 54)::(b,.cells (Ur++ .slice (some ⟨gl,0,none⟩) L.length Mp::Ut).toArray 61)::(Ol++T)) F w):
  Calls prog 147 #[.int .i64 i,.pointer (some ⟨sb,0,none⟩),.pointer (some ⟨mb,0,none⟩),.pointer (some ⟨lb,0,none⟩)] w fun e w'=>e= .returned (.tuple #[])/\∃(VA':T4) (vc':Nat) (Ol':T0),(EH L f i (S,V)).1.length=L.length/\(EH L f i (S,V)).2.length+(EH L f i (S,V)).1.count false<=L.length/\Row 3 1 (.slice VA' (EH L f i (S,V)).2.length vc') (EH L f i (S,V)).2.length (MQ (EH L f i (S,V)).2) Ol'/\
   St M w0 ((sb,.cells #[.slice (some ⟨zb,0,none⟩) L.length L.length] 202)::(zb,.cells (CP (EH L f i (S,V)).1).toArray 4)::(mb,.cells #[ES b] 50)::(lb,.cells #[.slice VA' (EH L f i (S,V)).2.length vc'] 54)::(b,.cells (Ur++ .slice (some ⟨gl,0,none⟩) L.length Mp::Ut).toArray 61)::(Ol'++T)) F w':=by
 obtain⟨c0,c1,c2,c3,c4,c5,c6,rfl⟩:∃c0 c1 c2 c3 c4 c5 c6,Ur=[c0,c1,c2,c3,c4,c5,c6]:=by
  match Ur,AP with
  |[c0,c1,c2,c3,c4,c5,c6],_=>exact⟨c0,c1,c2,c3,c4,c5,c6,rfl⟩
 refine TM func147 rfl ntmps147 rfl ?_;apply Zq.c7.1;refine Qp 0 (5::6::7::8::9::10::11::12::13::22::23::24::25::26::27::28::14::15::16::17::18::19::20::21::[]) (fun(y:T8×T6) v w'=>∃(j:Int) (f':Nat) (VA:T4) (vc:Nat) (Ol:T0),v= .int .i64 j/\y.1.length=L.length/\(j= -1\/(0<=j/\j<L.length))/\y.1.count false<f'/\y.2.length+y.1.count false<=L.length/\EH L f i (S,V)=EH L f' j y/\Row 3 1 (.slice VA y.2.length vc) y.2.length (MQ y.2) Ol/\St M w0 ((sb,.cells #[.slice (some ⟨zb,0,none⟩) L.length L.length] 202)::(zb,.cells (CP y.1).toArray 4)::(mb,.cells #[ES b] 50)::(lb,.cells #[.slice VA y.2.length vc] 54)::(b,.cells ([c0,c1,c2,c3,c4,c5,c6]++ .slice (some ⟨gl,0,none⟩) L.length Mp::Ut).toArray 61)::(Ol++T)) F w') (fun y=>y.1.count false) ((S,V)) ?_ Yb ?_
 .exact⟨i,f,VA,vc,Ol,rfl,Ge,hi,hf,hV,rfl,oE,hS⟩
 clear hS oE hV hf hi Ge;rintro⟨S1,V1⟩ _ _ _ ⟨j,f',Wr,Ws,Uu,rfl,Ge,hi,hf,hV,rM,oE,hS⟩ ih;dsimp only at Ge hf hV oE hS
 obtain⟨f',rfl⟩:∃k,f'=k+1:=⟨f'-1,by omega⟩
 have vT:EH L (f'+1) j (S1,V1)=if j= -1 then(S1,V1)else if S1[j.toNat]?=some true then(S1,V1)else EH L f' (AH L j.toNat).nx (S1.set j.toNat true,V1++[j.toNat]):=rfl
 by_cases hj:j= -1
 .rw[rM,vT,XB hj];apply Zq.cW.bB.U.q.bE.1;exact Ydg
 .have hj0:0<=j/\j<L.length:=hi.resolve_left hj
  obtain⟨v,hv⟩:∃v,S1[j.toNat]?=some v:=⟨S1[j.toNat]'Ya,VN _⟩
  have hsv:∀{M2 H' F'} w',St M2 w0 H' F' w'->(zb,Obj.cells (CP S1).toArray 4)∈H'->w'.cell? ⟨zb,0+j.toNat*1,none⟩=some (.bool v):=fun{M2 H' F'} w' (hS:St M2 w0 H' F' w') hm=>by
   rw[Qs (hS.own _ hm)];simp[CP,hv]
  cases v with
  |true=>
   rw[rM,vT,XA hj,XB hv];apply Zq.cW.t.lA.P.T.j.lA.bW.q.bE.1;exact Ydg
  |false=>
   have qT:=QhT S1 j.toNat true Ya;have aDo:=QqO hv;obtain⟨_,_,l2⟩:=UL L j.toNat _ (RR (L:=L) (a:=j.toNat) Ya)
   have rD:∀{M2 H' F'} w',St M2 w0 H' F' w'->(gl,Obj.cells (BP L++sp).toArray 101)∈H'->w'.cell? ⟨gl,0+j.toNat*3+2,none⟩=some (.int .i64 (AH L j.toNat).nx):=fun{M2 H' F'} w' (hS:St M2 w0 H' F' w') hm=>by
    rw[Qs (hS.own _ hm),XQ,VO]
    .exact l2
    .rw[QiZ];omega
   apply Zq.cW.t.fY.P.T.j.fY.bW.H.eR.p.fY.g.T.gM.1;clear hS;intro _ hS;apply Zq.b.d8.fY.g.bH.1;clear hS;intro _ _ hS;refine EQ (sz:=1) (bts:=8) hS Yb rfl rfl rfl rfl (oE) rfl rfl (.cons _ (XK [_,_,_,_,_] Uu T)) Ya Ya rfl ?_;clear hS;intro _ O8 _ pC hS;obtain⟨A8,c8,rfl⟩:=pC.form;replace hS:=hS.perm (XK O8 [_,_,_,_,_] T);apply Zq.J.1;clear hS;intro _ hS;apply Zq.b.aX.d8.fY.O.hE.fY.g.bR.Y.fY.c.1;have Cg:=hL _ (XaX (RR (L:=L) (a:=j.toNat) Ya));refine ih ((S1.set j.toNat true,V1++[j.toNat])) _ _ _ ?_ ?_ Yb Yc
   .show(S1.set j.toNat true).count false<S1.count false;omega
   .refine⟨_,f',A8,c8,O8,rfl,by simpa using Ge,Cg,by show(S1.set j.toNat true).count false<f';omega,by show(V1++[j.toNat]).length+(S1.set j.toNat true).count false<=_;simp only[XG,XJ,XP];omega,?_,?_,?_⟩
    .rw[rM,vT,XA hj,XA (by rw[hv];simp)]
    .have:MQ (V1++[j.toNat])=MQ V1++[.int .i64 j]:=by simp[MQ,Qr,XaN hj0.1]
     show Row _ 1 (.slice A8 (V1++[j.toNat]).length c8) (V1++[j.toNat]).length (MQ (V1++[j.toNat])) O8;rw[this,XG];exact pC
    .show St M w0 (_::_::_::(lb,.cells #[.slice A8 (V1++[j.toNat]).length c8] _)::_) F _;rw[XG];exact hS
end
theorem St.freezeRow{M:T6}{w0 w:TG}{H O:T0}{F:T3}{el sz len c:Nat}{A:T4}{xs:T5}(hr:Row el sz (.slice A len c) len xs O)(hS:St M w0 (O++H) F w):
  ∃F',(∀φ∈F,φ∈F')/\AB F' (QG sz xs A len c)/\St M w0 H F' w:=by
 obtain⟨F',h1,h2,h3⟩:=St.freezeL hS;refine⟨F',h1,fun w' Cn=>⟨hr.len_,hr.cap,fun hl=> ?_⟩,h3⟩;obtain⟨g,sp,rfl,rfl,_⟩:=hr.some_ hl;refine⟨g,0,rfl,fun j u hu=> ?_⟩
 have tX:j<xs.length:=by
  rcases XY j xs.length with hh|hh
  .exact hh
  .rw[XX hh]at hu;cases hu
 exact YbR
section
variable{M:T6}{w0:TG}{H:T0}{F0:T3}{b:Nat}{P:List LB}{pA:T4}{pc vars fuel every:Nat}
theorem QuC(x:XS)(w:TG)(pN:GO x)(hL:ST x.ln)(Ji:0<x.ln.length)(hf:x.first= -1\/(0<=x.first/\x.first<x.ln.length))(hs:BT M w0 H F0 b P pA pc vars fuel every x w):
  Calls prog 94 #[ES b] w fun e w'=>∃(A:T4) (c:Nat) (F1:T3),e= .returned (.slice A (ET x).length c)/\(∀φ∈F0,φ∈F1)/\AB F1 (QG 1 (MQ (ET x)) A (ET x).length c)/\BT M w0 H F1 b P pA pc vars fuel every x w':=by
 obtain⟨d,F,oU,oK,hS⟩:=hs;obtain⟨hA,hc,hB,hd,LA,lc,O1,cs,CA,cc,O2,evs,EA,ec,O3⟩:=d;have qD:Row 101 3 (.slice LA x.ln.length lc) x.ln.length (BP x.ln) O1:=oK.row1;obtain⟨gl,sp,rfl,rfl,_⟩:=qD.some_ Ji;have Be:=pN.ln;have Nc:=pN.cn;have AP:cs.map LX.xc=x.ch:=oK.hc
 have Il:cs.length=x.ch.length:=by rw[<-AP];simp
 have oT:Row 151 4 (.slice CA cs.length cc) cs.length (BZ cs.reverse) O2:=oK.row2;have tT:(List.replicate x.ln.length false).count false<x.ln.length+1:=by simp
 refine Qg func94 rfl ntmps94 rfl ?_;apply Zq.w.1;clear hS;intro b1 _ hS;apply Zq.c.p.hT.1;clear hS;intro b2 _ hS;apply Zq.cT.y.O.hE.y.aC.1;refine SF (k:=x.ln.length) (bts:=1) (z:= .bool false) hS Yb Yb rfl rfl rfl rfl Ya Ya rfl ?_;clear hS;intro zb _ hS;apply Zq.hT.1;clear hS;intro b3 _ hS;apply Zq.J.1;clear hS;intro _ hS;apply Zq.cT.1;refine Qa (Qh6 QmX (QxQ Yb Yb Yb)) rfl ?_;apply Zq.b4.y.O.fU.y.1;rw[show List.replicate x.ln.length (Value.bool false)=CP (List.replicate x.ln.length false) by simp[CP]]at hS;replace hS:=hS.perm (.cons _ (.cons _ (.swap _ _ _)));apply Zq.bM.1;refine XE (QlA (T:=([(gl,.cells (BP x.ln++sp).toArray 101)]++(O2++(O3++H)))) x.ln x.first (List.replicate x.ln.length false) [] (x.ln.length+1) b3 zb b1 b2 none 0 [] gl sp [.slice hA x.h.cs.length hc,.slice hB x.h.tr.length hd,.slice pA P.length pc,.int .i64 (vars:Nat),.int .i64 (fuel:Nat),.int .i64 (x.goals:Nat),.int .i64 (every:Nat)] [.int .i64 x.first,.slice CA cs.length cc,.slice EA evs.length ec] lc _ hL Yd Ya rfl Yd Ji hf tT Yd Row.nil_ hS) ?_;rintro _ _ ⟨rfl,Wr,Ws,Uu,yD,Cj,oE,oD⟩;apply Zq.a.1;replace hS:=oD;clear oD
 have Fo:ET x=(MG x.ln (cs.reverse.map LX.xc) (EH x.ln (x.ln.length+1) x.first (List.replicate x.ln.length false,[]))).2:=by
  unfold ET;rw[<-AP,U9]
 generalize Kk:EH x.ln (x.ln.length+1) x.first (List.replicate x.ln.length false,[])=p0 at*;apply Zq.a2.p.y.O.fO.y.aQ.1;refine Qp 26 (27::28::29::7::30::31::32::33::34::[]) (fun(R:List LX) v w'=>∃(D:List LX) (p:T8×T6) (VA:T4) (vc:Nat) (Ol:T0),cs.reverse=D++R/\v= .int .i64 (D.length:Nat)/\p.1.length=x.ln.length/\p.2.length+p.1.count false<=x.ln.length/\MG x.ln (cs.reverse.map LX.xc) p0=MG x.ln (R.map LX.xc) p/\Row 3 1 (.slice VA p.2.length vc) p.2.length (MQ p.2) Ol/\St M w0 ((b3,.cells #[.slice (some ⟨zb,0,none⟩) x.ln.length x.ln.length] 202)::(zb,.cells (CP p.1).toArray 4)::(b1,.cells #[ES b] 50)::(b2,.cells #[.slice VA p.2.length vc] 54)::(b,.cells (([.slice hA x.h.cs.length hc,.slice hB x.h.tr.length hd,.slice pA P.length pc,.int .i64 (vars:Nat),.int .i64 (fuel:Nat),.int .i64 (x.goals:Nat),.int .i64 (every:Nat)]:T5)++(Value.slice (some ⟨gl,0,none⟩) x.ln.length lc::([.int .i64 x.first,.slice CA cs.length cc,.slice EA evs.length ec]:T5))).toArray 61)::(Ol++([(gl,.cells (BP x.ln++sp).toArray 101)]++(O2++(O3++H))))) F w') (fun R=>R.length) (cs.reverse) ?_ Yb ?_
 .exact⟨[],p0,Wr,Ws,Uu,rfl,rfl,yD,Cj,rfl,oE,hS⟩
 clear hS oE yD Cj;rintro R _ _ _ ⟨D,p,VA2,vc2,Ol2,rG,rfl,yD,Cj,rM,oE,hS⟩ ih
 have oG:cs.length=D.length+R.length:=by
  have:=XM List.length rG;simpa using this
 cases R with
 |nil=>
  simp only[XP]at oG
  have e:ET x=p.2:=by rw[Fo,rM];rfl
  rw[e];apply Zq.W.p.y.c.1;refine Qd func94 rfl Yb ?_;obtain⟨F',h1,h2,h3⟩:=St.freezeRow (H:=(b,CO P pA pc vars fuel every x ⟨hA,hc,hB,hd,some ⟨gl,0,none⟩,lc,[(gl,.cells (BP x.ln++sp).toArray 101)],cs,CA,cc,O2,evs,EA,ec,O3⟩)::([(gl,.cells (BP x.ln++sp).toArray 101)]++(O2++(O3++H)))) oE (hS.drop.drop.drop.drop.perm VP.symm);exact⟨VA2,vc2,F',rfl,fun φ h=>h1 φ (oU φ h),h2,_,F',fun _ h=>h,oK.mono h1,h3⟩
 |cons c R=>
  simp only[XJ]at oG;have rH:c∈cs:=JD.1 Y8;have Ru:c.at_<x.ln.length:=(pN.ch c.xc (by rw[<-AP];exact X3.2 ⟨c,rH,rfl⟩)).1;obtain⟨k0,k1,k2,k3⟩:=Ql4 cs.reverse D.length c Y8;obtain⟨gc,yI,rfl,rfl,_⟩:=oT.some_ Ya;have pJ:∀{M2 H' F'} w',St M2 w0 H' F' w'->(gc,Obj.cells (BZ cs.reverse++yI).toArray 151)∈H'->_:=fun{M2 H' F'} w' (hS:St M2 w0 H' F' w') hm=>And.intro (Row.cell (w:=w') oT hS Yv rfl k0) (And.intro (Row.cell (w:=w') oT hS Yv rfl k1) (And.intro (Row.cell (w:=w') oT hS Yv rfl k2) (Row.cell (w:=w') oT hS Yv rfl k3)))
  have aDp:p.1.count false<x.ln.length+1:=by have:=XaV (a:=false) (l:=p.1);omega
  apply Zq.cB.cF.hQ.R.1;clear hS;intro _ _ hS;apply Zq.d.1;clear hS;intro _ hS;apply Zq.b.u.aI.hI.bM.1;refine XE (QlA (T:=([(gl,.cells (BP x.ln++sp).toArray 101)]++([(gc,.cells (BZ cs.reverse++yI).toArray 151)]++(O3++H)))) x.ln (c.at_:Nat) p.1 p.2 (x.ln.length+1) b3 zb b1 b2 VA2 vc2 Ol2 gl sp [.slice hA x.h.cs.length hc,.slice hB x.h.tr.length hd,.slice pA P.length pc,.int .i64 (vars:Nat),.int .i64 (fuel:Nat),.int .i64 (x.goals:Nat),.int .i64 (every:Nat)] [.int .i64 x.first,.slice (some ⟨gc,0,none⟩) cs.length cc,.slice EA evs.length ec] lc _ hL yD Ya rfl Yd Ji (.inr ⟨by omega,by omega⟩) aDp Cj oE hS.drop) ?_;rintro _ _ ⟨rfl,VA3,vc3,Ol3,Fq,Hf,qX,oD⟩;apply Zq.a.1;replace hS:=oD;clear oD;apply Zq.b.aZ.1;refine ih (R) _ _ _ ?_ ?_ Yb Yc
  .simp
  .exact⟨D++[c],EH x.ln (x.ln.length+1) (c.at_:Nat) p,VA3,vc3,Ol3,by rw[rG];simp,by simp,Fq,Hf,rM,qX,hS⟩
end
end Go.Proofs.YthliapbflkfdiacGreatDoor
