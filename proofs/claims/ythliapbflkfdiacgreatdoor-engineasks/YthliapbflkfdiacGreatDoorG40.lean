/- Steps of the proof. -/
import Derived.Test.YthliapbflkfdiacGreatDoorG39
set_option linter.unusedVariables false
set_option linter.unusedSimpArgs false
set_option maxRecDepth 100000
set_option maxHeartbeats 1000000
namespace Go.Proofs.YthliapbflkfdiacGreatDoor
open Go.Proofs.Tryz
open Go.RowKit
def R9(c:Cl):Prop:=0<=c.vars/\c.vars<=1000000/\(EE c).length<=1000/\∀g∈EE c,0<=g/\g<=1000000
structure GO(x:XS):Prop where
 ln:x.ln.length<=1000000
 cn:x.ch.length<=1000000
 ch:∀c∈x.ch,c.at_<x.ln.length/\c.cells<=1000000/\c.bound<=1000000/\c.cls.length<=5000/\∀d∈c.cls,R9 d
theorem Qrd(h:HH)(K:List HC):(BN h K).2.1<=1000000:=by
 unfold BN
 repeat' split
 all_goals (simp<;>omega)
def QAg(M:T6)(w0:TG)(H:T0)(b:Nat)(P:List LB)(pA:T4)(pc vars fuel every n:Nat):Prop:=
 ∀(F0:T3) (x:XS) (w:TG),x.ch.length=n->GO x->BT M w0 H F0 b P pA pc vars fuel every x w->
  Calls prog 93 #[ES b] w fun e w'=>e= .returned (.int .i64 (GT x.ch x).1)/\BT M w0 H F0 b P pA pc vars fuel every (GT x.ch x).2 w'
theorem RR{L:List XL}{a:Nat}(h:a<L.length):L[a]?=some (AH L a):=by
 unfold AH;rw[VN h,Xbv,VN h];rfl
theorem PU{α:Type}(q:α)(L O1 O2 O3 H:List α):(L++q::(O1++(O2++(O3++H)))).Perm (q::(O1++(O2++(O3++(L++H))))):=
 VP.trans (.cons _ ((XK L O1 _).trans (.append_left O1 ((XK L O2 _).trans (.append_left O2 (XK L O3 H))))))
theorem Qyv{α:Type}(p4 p3 p2 p1 q:α)(T:List α):(p4::p3::p2::p1::q::T).Perm (p3::p2::q::p4::p1::T):=
 (List.Perm.swap p3 p4 _).trans (.cons _ ((List.Perm.swap p2 p4 _).trans (.cons _ (VP (l₁:=[p4,p1]) (l₂:=T) (a:=q)))))
section
variable{n:Nat}{e:AW}
theorem Qzs{a b c o p:Operand}{x y z u v:TH}(h:ev n e a=x)(h2:ev n e b=y)(h3:ev n e c=z)(h4:ev n e o=u)(h5:ev n e p=v): #[a,b,c,o,p].map (ev n e)= #[x,y,z,u,v]:=by simp[h,h2,h3,h4,h5]
end
section
variable{M:T6}{w0:TG}{H:T0}{F0:T3}{b:Nat}{P:List LB}{pA:T4}{pc vars fuel every:Nat}
theorem Qie(n:Nat)(aDf:QAg M w0 H b P pA pc vars fuel every n)(x:XS)(a cells bound:Nat)(X:List LB)(A:T4)(c:Nat)(w:TG)(hn:x.ch.length=n)(pN:GO x)(ha:a<x.ln.length)(hX:∀p∈X,R9 p.cl)(Fy:X.length<=5000)(Wp:cells<=1000000)(Vz:bound<=1000000)(hXf:AB F0 (KK X A c))(hs:BT M w0 H F0 b P pA pc vars fuel every x w):
  Calls prog 100 #[ES b,.agg #[.int .i64 (a:Nat),.slice A X.length c,.int .i64 (cells:Nat),.int .i64 (bound:Nat)]] w fun e w'=>e= .returned (.int .i64 (LH (GT x.ch) a cells bound (X.map LB.cl) x).1)/\BT M w0 H F0 b P pA pc vars fuel every (LH (GT x.ch) a cells bound (X.map LB.cl) x).2 w':=by
 obtain⟨d,F,oU,oK,hS⟩:=hs;obtain⟨hA,hc,hB,hd,_,lc,_,cs,CA,cc,O2,evs,EA,ec,O3⟩:=d;have hXF:=hXf.mono oU;obtain⟨l0,l1,l2⟩:=UL x.ln a _ (RR ha);have qD:=oK.row1;obtain⟨gl,sp,rfl,rfl,_⟩:=qD.some_ Ya;have rD:∀{M2 H' F'} w',St M2 w0 H' F' w'->(gl,Obj.cells (BP x.ln++sp).toArray 101)∈H'->_:=fun{M2 H' F'} w' (hS:St M2 w0 H' F' w') hm=>And.intro (Row.cell (w:=w') qD hS Yv rfl l0) (And.intro (Row.cell (w:=w') qD hS Yv rfl l1) (Row.cell (w:=w') qD hS Yv rfl l2));refine Qh func100 rfl ntmps100 rfl ?_;apply Zq.w.1;clear hS;intro b1 _ hS;apply Zq.c.E.1;refine QH (St _ _ _ _) 9 ((0,true)::(1,true)::(2,true)::(3,true)::(4,true)::(5,true)::(6,true)::(7,true)::(8,false)::[]) Yc Yc (hS.drew) ?_;replace hS:=hS.drew;apply Zq.aU.g5.j4.bC.j4.d0.1
 first
  |refine Qe rfl (fun _ hS=>Qb (k:=3) hS rfl rfl rfl Ym Yh) rfl ?_
  |refine Qe rfl (fun _ hS=>Qb (k:=3) hS rfl rfl rfl Ym Ye) rfl ?_
  |refine Qe rfl (fun _ hS=>NI rfl rfl rfl Yt Yt Yt) rfl ?_
 apply Zq.aR.cK.1;clear hS;intro b2 _ hS;apply Zq.fK.aD.d.1;clear hS;intro _ hS;apply Zq.a2.p.L.f6.aQ.1;refine Qp 24 (25::26::27::28::7::6::30::31::32::33::34::35::36::29::37::38::39::8::9::10::41::42::43::44::45::46::47::48::40::49::50::51::11::12::52::53::4::54::55::56::57::58::59::60::61::62::63::64::65::66::67::68::69::70::71::72::73::74::75::76::77::78::79::80::81::82::83::84::85::86::87::88::89::90::91::92::93::94::95::[]) (fun(R:List LB) v w'=>∃(D:List LB) (F':T3),X=D++R/\v= .int .i64 (D.length:Nat)/\(∀φ∈F,φ∈F')/\LH (GT x.ch) a cells bound (X.map LB.cl) x=LH (GT x.ch) a cells bound (R.map LB.cl) x/\St M w0 ((b2,.cells (Qza (AH x.ln a)).toArray 101)::(b1,.cells #[.int .i64 (a:Nat),.slice A X.length c,.int .i64 (cells:Nat),.int .i64 (bound:Nat)] 151)::(b,CO P pA pc vars fuel every x ⟨hA,hc,hB,hd,some ⟨gl,0,none⟩,lc,[(gl,.cells (BP x.ln++sp).toArray 101)],cs,CA,cc,O2,evs,EA,ec,O3⟩)::([(gl,.cells (BP x.ln++sp).toArray 101)]++(O2++(O3++H)))) F' w') (fun R=>R.length) (X) ?_ Yb ?_
 .exact⟨[],F,rfl,rfl,fun _ h=>h,rfl,hS⟩
 clear hS;rintro R _ _ _ ⟨D,F',rG,rfl,uE,Hv,hS⟩ ih
 have oG:X.length=D.length+R.length:=by rw[rG];simp
 have wW:=oK.mono uE;have Mo:=hXF.mono uE
 cases R with
 |nil=>
  simp only[XP]at oG;rw[Hv];apply Zq.W.Z.1;refine XE (aDf F0 x _ hn pN ⟨_,F',fun φ h=>uE φ (oU φ h),wW,hS.drop.drop⟩) ?_;rintro _ w9 ⟨rfl,hq⟩;apply Zq.aJ.iZ.1;exact SA
 |cons y R=>
  simp only[XJ]at oG;have hyg:R9 y.cl:=hX y Y8;obtain⟨_,_,_,g3⟩:=hyg;have hXD:AB F' (KK (D++y::R) A c):=rG ▸ Mo;obtain⟨bX,oX,rfl⟩:=(hS.und hXD).some_ Yg;obtain⟨_,_,_,_⟩:=(hS.und hXD).cells;have uH:AB F' (QzG y):=hXD.imp fun w h=>h.2 y Yd;have Wq:=Qrd x.h (QB y.cl)
  have hstep:LH (GT x.ch) a cells bound (List.map LB.cl (y::R)) x=if(IL x.h y.cl (AH x.ln a).g).2.2≠0 then(4,x)else if(IL x.h y.cl (AH x.ln a).g).2.1=false then LH (GT x.ch) a cells bound (R.map LB.cl) x else(0,x.took a y.cl (R.map LB.cl) cells bound):=rfl
  apply Zq.a8.h.cF.1
  first
   |refine Qa (Qb (k:=4) hS rfl rfl rfl Ym Yh) rfl ?_
   |refine Qa (Qb (k:=4) hS rfl rfl rfl Ym Ye) rfl ?_
   |refine Qa (Q7 rfl rfl rfl Yt Yt Yt Yt) rfl ?_
  apply Zq.R.1;clear hS;intro b3 _ hS;apply Zq.d1.d.1;clear hS;intro _ hS;apply Zq.a2.1;refine Qd9 8 9 (30::31::32::33::34::35::36::29::37::38::39::10::[]) (fun u z w'=>∃(b4:Nat) (A':T4) (c':Nat) (B':T4) (d':Nat) (F2:T3),u= .pointer (some ⟨b4,0,none⟩)/\z= .int .i64 ((BN x.h (QB y.cl)).2.1:Nat)/\(∀φ∈F',φ∈F2)/\AB F2 (FR (BN x.h (QB y.cl)).1 A' c' B' d')/\St M w0 ((b4,.cells [.slice A' (BN x.h (QB y.cl)).1.cs.length c',.slice B' (BN x.h (QB y.cl)).1.tr.length d'].toArray 56)::(b3,.cells (PY y).toArray 94)::(b2,.cells (Qza (AH x.ln a)).toArray 101)::(b1,.cells #[.int .i64 (a:Nat),.slice (some ⟨bX,oX,none⟩) X.length c,.int .i64 (cells:Nat),.int .i64 (bound:Nat)] 151)::(b,CO P pA pc vars fuel every x ⟨hA,hc,hB,hd,some ⟨gl,0,none⟩,lc,[(gl,.cells (BP x.ln++sp).toArray 101)],cs,CA,cc,O2,evs,EA,ec,O3⟩)::([(gl,.cells (BP x.ln++sp).toArray 101)]++(O2++(O3++H)))) F2 w') ?_ ?_
  .intro oF;refine K1 (St _ _ _ _) 15 (.read 0 (.read 1 (.read 2 (.read 3 (.read 4 (.read 5 (.pick 6 (.read 7 (.read 8 (.read 9 (.read 10 (.pick 11 (.pick 12 (.read 13 (.read 14 .tail)) .none) .none))))) (.pick 11 (.pick 6 (.read 7 (.read 8 (.read 9 (.read 10 (.pick 12 (.read 13 (.read 14 .tail)) .none))))) .none) .none)))))))) Yc Yc hS.drew ?_;replace hS:=hS.drew;apply Zq.a7.kL.fB.1
   first
    |refine Qj rfl (fun _ hS=>Qb (k:=2) hS rfl rfl rfl Ym Yh) rfl ?_
    |refine Qj rfl (fun _ hS=>Qb (k:=2) hS rfl rfl rfl Ym Ye) rfl ?_
    |refine Qj rfl (fun _ hS=>M3 rfl rfl rfl Yt Yt) rfl ?_
   apply Zq.fB.1
   first
    |refine Qj rfl (fun _ hS=>Qf hS rfl rfl Ym Yh) rfl ?_
    |refine Qj rfl (fun _ hS=>Qm rfl rfl (by first|assumption|exact(rD _ hS Yh).1|exact(rD _ hS Yh).2.1|exact(rD _ hS Yh).2.2|exact hS.cell0 Ye|exact Qt hS|exact Qu hS)) rfl ?_
   refine QA rfl ?_ ?_
   .apply Zq.f.kW.1;rintro _ w6 ⟨A',c',B',d',F9,rfl,rI,yJ,oD⟩;apply Zq.a.1;replace hS:=oD;clear oD;apply Zq.eK.a7.dO.dO.dO.a0.dH.1;clear hS;intro b4 _ hS;apply Zq.eK.a0.d.1;exact YdL
   apply Zq.a0.dH.1;clear hS;intro _ _ hS;apply Zq.eK.jF.kW.1;rintro _ w6 ⟨A',c',B',d',F9,rfl,rI,yJ,oD⟩;apply Zq.a.1;replace hS:=oD;clear oD;apply Zq.eK.a7.dO.dO.dO.a0.d.1;exact YdL
  clear hS;rintro _ _ _ _ ⟨b4,A',c',B',d',F2,rfl,rfl,pF,yJ,hS⟩;apply Zq.p.nB.g.Y.f6.C.aI.f6.bA.1;refine XE (Qnk (BN x.h (QB y.cl)).1 (((BN x.h (QB y.cl)).2.1:Nat)+y.cl.vars) (AH x.ln a).g A' B' c' d' _ yJ hS) ?_;rintro _ _ ⟨A5,c5,B5,d5,F5,rfl,Ak,hH5,oD⟩;apply Zq.a.1;replace hS:=oD;clear oD;rw[show CX (BN x.h (QB y.cl)).1 (((BN x.h (QB y.cl)).2.1:Nat)+y.cl.vars) (AH x.ln a).g=IL x.h y.cl (AH x.ln a).g from rfl]at*;have Nw:∀φ∈F0,φ∈F5:=fun φ h=>Ak φ (pF φ (uE φ (oU φ h)));have xX:=(wW.mono pF).mono Ak;by_cases he:(IL x.h y.cl (AH x.ln a).g).2.2=0
  .rw [XA (fun h => h he)] at hstep;by_cases hk:(IL x.h y.cl (AH x.ln a).g).2.1=false
   .rw[XB hk]at hstep;apply Zq.dV.d.1;clear hS;intro Um hS;apply Zq.K.cW.D.m.X.b.1;rw[hk];apply Zq.cD.d5.h4.1;refine ih (R) _ _ _ ?_ ?_ Yb Yc
    .simp
    .exact⟨D++[y],F5,by rw[rG];simp,by simp,fun φ h=>Ak φ (pF φ (uE φ h)),Hv.trans hstep,hS.drop.drop⟩
   .rw[XA hk]at hstep;have yC:(IL x.h y.cl (AH x.ln a).g).2.1=true:=by simpa using hk
    have Il:x.ch.length=cs.length:=by
     have:cs.map LX.xc=x.ch:=oK.hc;rw[<-this];simp
    have pY:x.took a y.cl (R.map LB.cl) cells bound=⟨(IL x.h y.cl (AH x.ln a).g).1,x.goals,(BU (BN x.h (QB y.cl)).2.1 cs.length (EE y.cl) (AH x.ln a).nx x.ln).1,(BU (BN x.h (QB y.cl)).2.1 cs.length (EE y.cl) (AH x.ln a).nx x.ln).2,match R.map LB.cl with|[]=>x.ch|_::_=>⟨a,R.map LB.cl,cells,bound⟩::x.ch,x.ev⟩:=by
     unfold XS.took;rw[Il];cases R<;>rfl
    rw[Hv,hstep,pY];apply Zq.dV.d.1;clear hS;intro Um hS;apply Zq.K.cW.D.m.X.b.1;rw[yC];apply Zq.bS.aW.h.nB.bL.d.1;clear hS;intro _ hS;apply Zq.a2.1;have aDh:=xX.setH hH5;have aDi:=fun(H':T0) w hS=>QjU (H:=H') (vars:=vars) (fuel:=fuel) (every:=every) (b:=b) (M:=M) (w0:=w0) (x.setH (IL x.h y.cl (AH x.ln a).g).1) (EE y.cl) y.B y.d (BN x.h (QB y.cl)).2.1 cs.length (AH x.ln a).nx _ _ _ _ _ _ _ cs CA cc O2 evs EA ec O3 w Ya (fun g hg=>by have:=g3 g hg;omega) (by have:=pN.ln;show x.ln.length+_<=_;omega) ((uH.imp fun w h=>h.2).mono fun φ h=>Ak φ (pF φ h)) aDh hS;replace hS:=hS.perm (Qyv _ _ _ _ _ _);refine PX 72 (60::61::62::63::64::65::66::67::68::69::70::71::73::74::[]) (fun u w'=>∃(Hw:T4) (Hx:Nat) (O9:T0),u= .int .i64 (BU (BN x.h (QB y.cl)).2.1 cs.length (EE y.cl) (AH x.ln a).nx x.ln).2/\LR P pA pc ⟨(IL x.h y.cl (AH x.ln a).g).1,x.goals,(BU (BN x.h (QB y.cl)).2.1 cs.length (EE y.cl) (AH x.ln a).nx x.ln).1,(BU (BN x.h (QB y.cl)).2.1 cs.length (EE y.cl) (AH x.ln a).nx x.ln).2,x.ch,x.ev⟩ ⟨A5,c5,B5,d5,Hw,Hx,O9,cs,CA,cc,O2,evs,EA,ec,O3⟩ F5/\St M w0 ((b,CO P pA pc vars fuel every ⟨(IL x.h y.cl (AH x.ln a).g).1,x.goals,(BU (BN x.h (QB y.cl)).2.1 cs.length (EE y.cl) (AH x.ln a).nx x.ln).1,(BU (BN x.h (QB y.cl)).2.1 cs.length (EE y.cl) (AH x.ln a).nx x.ln).2,x.ch,x.ev⟩ ⟨A5,c5,B5,d5,Hw,Hx,O9,cs,CA,cc,O2,evs,EA,ec,O3⟩)::(b1,.cells #[.int .i64 (a:Nat),.slice (some ⟨bX,oX,none⟩) X.length c,.int .i64 (cells:Nat),.int .i64 (bound:Nat)] 151)::(O9++(O2++(O3++H)))) F5 w') ?_ ?_
    .intro oF;refine K1 (fun w=>∃lv:TH,St M w0 [(b3,.cells (PY y).toArray 94),(b2,.cells (Qza (AH x.ln a)).toArray 101),(b,.cells [.slice A5 (IL x.h y.cl (AH x.ln a).g).1.cs.length c5,.slice B5 (IL x.h y.cl (AH x.ln a).g).1.tr.length d5,.slice pA P.length pc,.int .i64 (vars:Nat),.int .i64 (fuel:Nat),.int .i64 (x.goals:Nat),.int .i64 (every:Nat),lv,.int .i64 x.first,.slice CA cs.length cc,.slice EA evs.length ec].toArray 61)] [] w) 15 (.read 0 (.read 1 (.read 2 (.read 3 (.read 4 (.read 5 (.read 6 (.read 7 (.read 8 (.read 9 (.read 10 (.read 11 (.pick 12 (.read 13 (.read 14 .tail)) .none))))))))))))) Yc Yc ⟨_,hS.drew.bare3⟩ ?_;replace hS:=hS.drew;apply Zq.eJ.eJ.hJ.kC.eJ.eJ.iP.1;refine Qj rfl (fun _ ⟨_,hS⟩=>Qi (off:=9) rfl rfl) rfl ?_;apply Zq.kC.1;refine Qj rfl (fun _ ⟨_,hS⟩=>Qc8 rfl rfl rfl) rfl ?_;refine Qj rfl (fun _ ⟨_,hS⟩=>Qi (off:=2) rfl rfl) rfl ?_;apply Zq.kC.a0.g7.1;refine XE (aDi _ _ (hS.perm ((Qyv _ _ _ _ _ _).symm.trans (PU (b,_) [(b4,_),(b3,_),(b2,_),(b1,_)] [_] O2 O3 H)))) ?_;rintro _ _ ⟨rfl,Hw,Hx,O9,qE,oD⟩;apply Zq.a.1;replace hS:=oD;clear oD;refine M4 (by first|exact⟨_,hS.bare3⟩|exact⟨_,hS.drop.bare3⟩|exact⟨_,(hS.perm ((PU (b,_) [(b4,_),(b3,_),(b2,_),(b1,_)] _ O2 O3 H).symm.trans (Qyv _ _ _ _ _ _))).bare3⟩) ?_;apply Zq.iP.1;refine Qj rfl (fun _ ⟨_,hS⟩=>Qi (off:=8) rfl rfl) rfl ?_;apply Zq.eB.J.1;clear hS;intro _ hS;apply Zq.b.1;exact oF _ _ _ ⟨Hw,Hx,O9,rfl,⟨qE.hh,qE.row1,qE.hc,qE.rc,qE.row2,qE.he,qE.re,qE.row3,qE.rp⟩,(hS.perm (PU (b,_) [(b4,_),(b3,_),(b2,_),(b1,_)] _ O2 O3 H).symm).drop.drop.drop.swap⟩ rfl Yc
    clear hS;rintro _ _ w9 ⟨Hw,Hx,O9,rfl,qE,hS⟩;have Hn:X.length<=c:=(hS.und (Mo.mono fun φ h=>Ak φ (pF φ h))).1.2.1;have e1:(((D.length:Nat):Int)+1).toNat=D.length+1:=by omega
    cases R with
    |nil=>
     simp only[XP]at oG;apply Zq.p.L.f6.a1.nK.L.J.1;clear hS;intro aDj hS;apply Zq.a2.p.L.f6.bP.D.e.iZ.1;exact⟨rfl,⟨A5,c5,B5,d5,Hw,Hx,O9,cs,CA,cc,O2,evs,EA,ec,O3⟩,F5,Nw,qE,hS.swap.drop⟩
    |cons r R=>
     simp only[XJ]at oG;have Nc:=pN.cn;have oT:Row 151 4 (.slice CA cs.length cc) cs.length (BZ cs.reverse) O2:=qE.row2;apply Zq.p.L.f6.a1.nK.L.J.1;clear hS;intro aDj hS;apply Zq.a2.p.L.f6.bP.b.1;rw[e1,show X.length-(D.length+1)=(r::R).length by simp;omega]at hS;replace hS:St M w0 ((b,_)::(b1,.cells (xcs ⟨a,r::R,some ⟨bX,oX+(D.length+1)*4,none⟩,c-(D.length+1),cells,bound⟩).toArray 151)::_) F5 _:=hS;apply Zq.cD.n4.1;replace hS:=hS.drew;apply Zq.a5.aU.gO.j4.1
     first
      |refine Qe rfl (fun _ hS=>Qb (k:=4) hS rfl rfl rfl Ym Yh) rfl ?_
      |refine Qe rfl (fun _ hS=>Qb (k:=4) hS rfl rfl rfl Ym Ye) rfl ?_
      |refine Qe rfl (fun _ hS=>Q7 rfl rfl rfl Yt Yt Yt Yt) rfl ?_
     apply Zq.aR.dZ.1;clear hS;intro _ _ hS;apply Zq.hC.aR.1;refine EQ (sz:=4) (bts:=48) hS Yb rfl rfl rfl rfl (oT) rfl rfl (.cons _ (QgK [_,_] _ _ _)) Ya Ya rfl ?_;clear hS;intro _ O8 w9 pC hS;obtain⟨A8,c8,rfl⟩:=pC.form;replace hS:=hS.perm (QgK [_,_] _ _ _).symm;apply Zq.hC.eF.gO.aD.J.1;clear hS;intro _ hS;apply Zq.b.e.iZ.1;refine⟨rfl,⟨A5,c5,B5,d5,Hw,Hx,O9,⟨a,r::R,some ⟨bX,oX+(D.length+1)*4,none⟩,c-(D.length+1),cells,bound⟩::cs,A8,c8,O8,evs,EA,ec,O3⟩,F5,Nw,⟨qE.hh,qE.row1,?_,?_,?_,qE.he,qE.re,qE.row3,qE.rp⟩,hS.swap.drop⟩
     .show _::cs.map LX.xc=_::x.ch;rw[show cs.map LX.xc=x.ch from oK.hc];rfl
     .intro q hq;rcases XV.1 hq with rfl|hq
      .have:=(Mo.mono fun φ h=>Ak φ (pF φ h)).imp fun w h=>h.drop (D.length+1) Y8;rw[show X.drop (D.length+1)=r::R by rw[rG,W6];simp]at this;exact BS
      .exact qE.rc q hq
     .show Row _ 4 (.slice A8 (cs.length+1) c8) (cs.length+1) (BZ (LX.mk _ _ _ _ _ _::cs).reverse) O8;rw[List.reverse_cons,Qpc];exact pC
  .rw[XB he]at hstep;rw[Hv,hstep];apply Zq.dV.d.1;clear hS;intro Um hS;apply Zq.K.cW.cI.iZ.1;exact⟨rfl,_,F5,Nw,xX,hS.drop.drop.drop.drop⟩
end
section
variable{M:T6}{w0:TG}{H:T0}{b:Nat}{P:List LB}{pA:T4}{pc vars fuel every:Nat}
theorem Qlx:∀n,QAg M w0 H b P pA pc vars fuel every n:=by
 intro n
 induction n with
 |zero=>
  intro F0 x w hn pN hs;obtain⟨d,F,oU,oK,hS⟩:=hs;obtain⟨hA,hc,hB,hd,LA,lc,O1,cs,CA,cc,O2,evs,EA,ec,O3⟩:=d;have rM:x.ch=[]:=VL hn;have AP:cs.map LX.xc=x.ch:=oK.hc
  obtain rfl:cs=[]:=by rw[rM]at AP;simpa using AP
  have e:GT x.ch x=(2,x):=by rw[rM];rfl
  rw[e];dsimp only[CO,LS,List.length_nil]at hS;apply Zq.mS.e.aT.fO.y.bQ.M.I.cI.1;refine Qd func93 rfl Yb ?_;exact⟨rfl,_,F,oU,oK,hS⟩
 |succ n ihn=>
  intro F0 x w hn pN hs;obtain⟨d,F,oU,oK,hS⟩:=hs;obtain⟨hA,hc,hB,hd,LA,lc,O1,cs,CA,cc,O2,evs,EA,ec,O3⟩:=d;have AP:cs.map LX.xc=x.ch:=oK.hc
  cases cs with
  |nil=>rw[<-AP]at hn;simp at hn
  |cons c cs=>
  have rM:x.ch=c.xc::cs.map LX.xc:=AP.symm;have Nc:=pN.cn
  have hn':cs.length=n:=by rw[rM]at hn;simpa using hn
  have oT:Row 151 4 (.slice CA (c::cs).length cc) (c::cs).length (BZ (c::cs).reverse) O2:=oK.row2;obtain⟨a1,a2,a3,a4,a5⟩:=pN.ch c.xc (by rw[rM];simp);obtain⟨k0,k1,k2,k3⟩:=Ql4 (c::cs).reverse cs.length c Yd;obtain⟨gc,sp,rfl,rfl,_⟩:=oT.some_ Yd
  have e:GT x.ch x=LH (GT (cs.map LX.xc)) c.at_ c.cells c.bound (c.cls.map LB.cl) (x.back c.xc (cs.map LX.xc)):=by rw[rM];rfl
  rw[e];have pJ:∀{M2 H' F'} w',St M2 w0 H' F' w'->(gc,Obj.cells (BZ (c::cs).reverse++sp).toArray 151)∈H'->_:=fun{M2 H' F'} w' (hS:St M2 w0 H' F' w') hm=>And.intro (Row.cell (w:=w') oT hS Yv rfl k0) (And.intro (Row.cell (w:=w') oT hS Yv rfl k1) (And.intro (Row.cell (w:=w') oT hS Yv rfl k2) (Row.cell (w:=w') oT hS Yv rfl k3)))
  have oG:x.ch.length=cs.length+1:=by rw[rM];simp
  simp only[XJ]at oT;dsimp only[CO,LS,List.length_cons]at hS;have oS:=oT.cap;have Un:(((cs.length+1:Nat):Int)-1)=((cs.length:Nat):Int):=by omega
  apply Zq.mS.e.aT.fO.y.bQ.M.I.b.1;rw[Un];apply Zq.bS.aW.aT.fO.hI.g.cF.hQ.R.1;clear hS;intro b1 _ hS;apply Zq.d.1;clear hS;intro _ hS;apply Zq.cZ.O.fO.hI.g.h2.O.fO.J.1;clear hS;intro _ hS;apply Zq.b.h.hQ.1;have hcut:=oT.cut (m:=cs.length) Ya
  have pY:(BZ (c::cs).reverse).take (cs.length*4)=BZ cs.reverse:=by
   rw[List.reverse_cons,Qpc,Xbw (by rw[NT];simp),U0 (by rw[NT];simp)]
  rw[pY]at hcut
  have Co:LR P pA pc ⟨x.h,x.goals,x.ln,x.first,cs.map LX.xc,x.ev⟩ ⟨hA,hc,hB,hd,LA,lc,O1,cs,some ⟨gc,0,none⟩,cc,[(gc,.cells (BZ (c::cs).reverse++sp).toArray 151)],evs,EA,ec,O3⟩ F:=⟨oK.hh,oK.row1,rfl,fun q hq=>oK.rc q (.tail _ hq),hcut,oK.he,oK.re,oK.row3,oK.rp⟩
  have Ge:=hS.perm (PU (b,_) [(b1,_)] O1 [(gc,_)] O3 H);apply Zq.f.1;refine XE (Qn9 (H:=(b1,_)::H) (F0:=F) ⟨x.h,x.goals,x.ln,x.first,cs.map LX.xc,x.ev⟩ c _ ⟨_,F,fun _ h=>h,Co,Ge⟩) ?_;rintro _ _ ⟨rfl,d5,F5,Ak,xX,oD⟩;apply Zq.a.1;replace hS:=oD;clear oD;replace hS:=hS.perm (PU (b,_) [(b1,_)] d5.O1 d5.O2 d5.O3 H).symm;clear Ge;apply Zq.b.h.hQ.1
  have aDk:GO (x.back c.xc (cs.map LX.xc)):=⟨pN.ln,by show(cs.map LX.xc).length<=_;simp;omega,fun q hq=>pN.ch q (by rw[rM];exact .tail _ hq)⟩
  have vM:AB F (KK c.cls c.A c.c):=oK.rc c (.head _);apply Zq.f.1;refine XE (Qie n ihn (x.back c.xc (cs.map LX.xc)) c.at_ c.cells c.bound c.cls c.A c.c _ (by show(cs.map LX.xc).length=n;simp;omega) aDk a1 (fun p hp=>a5 p.cl (X3.2 ⟨p,hp,rfl⟩)) (by have:(c.cls.map LB.cl).length<=5000:=a4;simpa using this) a2 a3 vM ⟨d5,F5,Ak,xX,hS.drop⟩) ?_;rintro _ _ ⟨rfl,hq⟩;apply Zq.aJ.1;refine Qd func93 rfl Yb ?_;exact⟨rfl,hq.weaken oU⟩
end
section
variable{M:T6}{w0:TG}{H:T0}{F0:T3}{b:Nat}{P:List LB}{pA:T4}{pc vars fuel every:Nat}
abbrev LU(h:HH)(a:Int):TH:=if(BC h a).k≠2\/(BC h (a+1)).k≠2 then .tuple #[.int .i64 0,.int .i64 0,.bool false]else .tuple #[.int .i64 (BC h a).n,.int .i64 (BC h (a+1)).n,.bool true]
theorem Qoa(x:XS)(a:Int)(w:TG)(ha:0<=a/\a<=1099511627776)(hl:∃z,AD x.h.cs (Qw x.h.cs a)=some z)(tH:∃z,AD x.h.cs (Qw x.h.cs (a+1))=some z)(oG:x.h.cs.length<=65536)(hs:BT M w0 H F0 b P pA pc vars fuel every x w):
  Calls prog 154 #[ES b,.int .i64 a] w fun e w'=>e= .returned (LU x.h a)/\BT M w0 H F0 b P pA pc vars fuel every x w':=by
 obtain⟨d,F,oU,oK,hS⟩:=hs;obtain⟨hA,hc,hB,hd,LA,lc,O1,cs,CA,cc,O2,evs,EA,ec,O3⟩:=d;refine Qh func154 rfl ntmps154 rfl ?_;apply Zq.p.a3.i.f.1;refine XE (Qob x a _ hl oG ⟨_,F,oU,oK,hS⟩) ?_;rintro _ _ ⟨rfl,uW⟩;apply Zq.a.1;clear hS oK oU;obtain⟨d,F,oU,oK,hS⟩:=uW;obtain⟨hA,hc,hB,hd,LA,lc,O1,cs,CA,cc,O2,evs,EA,ec,O3⟩:=d;apply Zq.aO.C.f.1;refine XE (Qob x (a+1) _ tH oG ⟨_,F,oU,oK,hS⟩) ?_;rintro _ _ ⟨rfl,uW⟩;apply Zq.a.1;clear hS oK oU;obtain⟨d,F,oU,oK,hS⟩:=uW;obtain⟨hA,hc,hB,hd,LA,lc,O1,cs,CA,cc,O2,evs,EA,ec,O3⟩:=d;generalize sY:BC x.h a=z1;generalize vX:BC x.h (a+1)=z2;obtain⟨k1,n1,s1⟩:=z1;obtain⟨k2,n2,_⟩:=z2;by_cases h1:k1=2
 .by_cases h2:k2=2
  .have e:LU x.h a= .tuple #[.int .i64 n1,.int .i64 n2,.bool true]:=by unfold LU;rw[sY,vX];simp[h1,h2]
   rw[e];apply Zq.cK.1;clear hS;intro b1 oQ hS;apply Zq.cK.1;clear hS;intro b2 pP hS;apply Zq.d.1;clear hS;intro pM hS;apply Zq.d.1;clear hS;intro sR hS;apply Zq.a2.bZ.Q.t.aI.aK.Q.N.E.kD.1;replace hS:=hS.drew;apply Zq.cM.aN.cM.aN.bK.bK.bK.dK.jT.1;exact Ydf
  .have e:LU x.h a= .tuple #[.int .i64 0,.int .i64 0,.bool false]:=by unfold LU;rw[sY,vX];simp[h2]
   rw[e];apply Zq.cK.1;clear hS;intro b1 oQ hS;apply Zq.cK.1;clear hS;intro b2 pP hS;apply Zq.d.1;clear hS;intro pM hS;apply Zq.d.1;clear hS;intro sR hS;apply Zq.a2.bZ.Q.t.aI.aK.Q.H.p.a3.jT.1;exact Ydf
 .have e:LU x.h a= .tuple #[.int .i64 0,.int .i64 0,.bool false]:=by unfold LU;rw[sY,vX];simp[h1]
  rw[e];apply Zq.cK.1;clear hS;intro b1 oQ hS;apply Zq.cK.1;clear hS;intro b2 pP hS;apply Zq.d.1;clear hS;intro pM hS;apply Zq.d.1;clear hS;intro sR hS;apply Zq.a2.bZ.Q.bX.H.p.a3.jT.1;exact Ydf
end
theorem GO.setH{x:XS}(h:GO x)(k:HH):GO (x.setH k):=⟨h.ln,h.cn,h.ch⟩
section
variable{M:T6}{w0:TG}{H:T0}{F0:T3}{b:Nat}{P:List LB}{pA:T4}{pc vars fuel every:Nat}
theorem Qfx(x:XS)(w:TG)(pN:GO x)(hs:BT M w0 H F0 b P pA pc vars fuel every x w):
  Calls prog 93 #[ES b] w fun e w'=>e= .returned (.int .i64 (MZ x).1)/\BT M w0 H F0 b P pA pc vars fuel every (MZ x).2 w':=
 Qlx _ F0 x w rfl pN hs
theorem Qlz(x:XS)(i j:Int)(w:TG)(pN:GO x)(hs:BT M w0 H F0 b P pA pc vars fuel every x w):
  Calls prog 96 #[ES b,.int .i64 i,.int .i64 j] w fun e w'=>e= .returned (.int .i64 (OD i j x).1)/\BT M w0 H F0 b P pA pc vars fuel every (OD i j x).2 w':=by
 obtain⟨d,F,oU,oK,hS⟩:=hs;obtain⟨hA,hc,hB,hd,_,_,_,cs,_,_,_,_,_,_,_⟩:=d;refine QQ func96 rfl ntmps96 rfl ?_;apply Zq.e.i.g.bA.1;refine XE (QsA x i j _ ⟨_,F,oU,oK,hS⟩) ?_;rintro _ _ ⟨rfl,hq⟩;apply Zq.a.1;clear hS oK oU;have pH:=pN.setH (CX x.h i j).1
 have he:OD i j x=if(CX x.h i j).2.2≠0 then(4,x.setH (CX x.h i j).1)else if(CX x.h i j).2.1=false then MZ (x.setH (CX x.h i j).1)else(0,x.setH (CX x.h i j).1):=rfl
 rw[he];obtain⟨d2,F2,pF,qP,hS⟩:=hq;by_cases h0:(CX x.h i j).2.2=0
 .rw[X4 (fun h=>h h0),XA (fun h=>h h0)]
  cases hk:(CX x.h i j).2.1 with
  |false=>
   rw[XB rfl];apply Zq.b2.m.D.m.X.v.Z.1;refine XE (Qfx _ _ pH ⟨d2,F2,pF,qP,hS⟩) ?_;rintro _ _ ⟨rfl,hq⟩;apply Zq.aJ.kS.1;exact SA
  |true=>
   rw[XA Yf];apply Zq.b2.m.D.m.bF.e.kS.1;exact SG
 .rw[X1 h0,XB h0];apply Zq.b2.m.cI.kS.1;exact SG
def MM(h:HH)(a:Int):Prop:=∃z,AD h.cs (Qw h.cs a)=some z/\-1099511627776<=z.n/\z.n<=1099511627776
theorem MM.n{h:HH}{a:Int}(l:MM h a): -1099511627776<=(BC h a).n/\(BC h a).n<=1099511627776:=by
 obtain⟨_,h1,h2,h3⟩:=l;unfold BC;rw[h1];exact⟨h2,h3⟩
theorem QuD(x:XS)(a:Int)(w:TG)(pN:GO x)(ha:0<=a/\a<=1099511627776)(hl:MM x.h a)(tH:MM x.h (a+1))(oG:x.h.cs.length<=65536)(hs:BT M w0 H F0 b P pA pc vars fuel every x w):
  Calls prog 97 #[ES b,.int .i64 a] w fun e w'=>e= .returned (.int .i64 (SK a x).1)/\BT M w0 H F0 b P pA pc vars fuel every (SK a x).2 w':=by
 obtain⟨d,F,oU,oK,hS⟩:=hs;obtain⟨hA,hc,hB,hd,_,_,_,cs,_,_,_,_,_,_,_⟩:=d;have hn:=hl.n;have yD:=tH.n
 have hu:SK a x=if(BC x.h a).k≠2\/(BC x.h (a+1)).k≠2 then(5,x)else if(BC x.h (a+1)).n<=(BC x.h a).n then MZ x else(0,x):=rfl
 rw[hu];refine Qh func97 rfl ntmps97 rfl ?_;apply Zq.e.i.f.nD.1;rintro _ _ ⟨rfl,hq⟩;apply Zq.a.1;clear hS oK oU;obtain⟨d2,F2,pF,qP,hS⟩:=hq;by_cases hk:(BC x.h a).k≠2\/(BC x.h (a+1)).k≠2
 .rw[XB hk,show LU x.h a= .tuple #[.int .i64 0,.int .i64 0,.bool false]from XB hk];apply Zq.dV.a3.m.X.cI.j3.1;exact SG
 .rw[XA hk,show LU x.h a= .tuple #[.int .i64 (BC x.h a).n,.int .i64 (BC x.h (a+1)).n,.bool true]from XA hk];by_cases pU:(BC x.h (a+1)).n<=(BC x.h a).n
  .rw[XB pU];apply Zq.dV.a3.m.bF.aA.r.v.Z.1;refine XE (Qfx _ _ pN ⟨d2,F2,pF,qP,hS⟩) ?_;rintro _ _ ⟨rfl,hq⟩;apply Zq.aJ.j3.1;exact SA
  .rw[XA pU];apply Zq.dV.a3.m.bF.aA.r.D.e.j3.1;exact SG
end
section
variable{M:T6}{w0:TG}{H:T0}{F0:T3}{b:Nat}{P:List LB}{pA:T4}{pc vars fuel every:Nat}
theorem QwN(x:XS)(a:Int)(w:TG)(pN:GO x)(ha:0<=a/\a<=1099511627776)(hl:MM x.h a)(tH:MM x.h (a+1))(oG:x.h.cs.length<=65536)(hs:BT M w0 H F0 b P pA pc vars fuel every x w):
  Calls prog 98 #[ES b,.int .i64 a] w fun e w'=>e= .returned (.int .i64 (R6 a x).1)/\BT M w0 H F0 b P pA pc vars fuel every (R6 a x).2 w':=by
 obtain⟨d,F,oU,oK,hS⟩:=hs;obtain⟨hA,hc,hB,hd,_,_,_,cs,_,_,_,_,_,_,_⟩:=d;have hn:=hl.n;have yD:=tH.n
 have hu:R6 a x=if(BC x.h a).k≠2\/(BC x.h (a+1)).k≠2 then(5,x)
  else if(BC x.h a).n+(BC x.h (a+1)).n< -1099511627776\/1099511627776<(BC x.h a).n+(BC x.h (a+1)).n then(5,x)
  else OD (a+2) (BN x.h [⟨2,(BC x.h a).n+(BC x.h (a+1)).n,eS⟩]).2.1 (x.setH (BN x.h [⟨2,(BC x.h a).n+(BC x.h (a+1)).n,eS⟩]).1):=rfl
 rw[hu];refine Qh func98 rfl ntmps98 rfl ?_;apply Zq.e.i.f.nD.1;rintro _ _ ⟨rfl,hq⟩;apply Zq.a.1;clear hS oK oU;obtain⟨d2,F2,pF,qP,hS⟩:=hq;generalize hna:(BC x.h a).n=na at*;generalize Iu:(BC x.h (a+1)).n=nb at*;by_cases hk:(BC x.h a).k≠2\/(BC x.h (a+1)).k≠2
 .rw[XB hk,show LU x.h a= .tuple #[.int .i64 0,.int .i64 0,.bool false]from XB hk];apply Zq.dV.a3.i.C.M.X.aS.q.aS.H.e.iK.1;exact SG
 .rw [XA hk, show LU x.h a = .tuple #[.int .i64 na, .int .i64 nb, .bool true] by unfold LU; rw [XA hk, hna, Iu]];by_cases pU:na+nb< -1099511627776
  .rw[XB (.inl pU)];apply Zq.dV.a3.i.C.M.X.n.I.q.aS.H.e.iK.1;exact SG
  .by_cases hgt:1099511627776<na+nb
   .rw[XB (.inr hgt)];apply Zq.dV.a3.i.C.M.X.n.I.dM.S.H.e.iK.1;exact SG
   .rw[XA Ya];apply Zq.dV.a3.i.C.M.X.n.I.dM.S.N.i.C.aO.i3.gN.1;clear hS;intro b1 _ hS;replace hS:=St.freeze hS
    have hK:AB ((fun w=>w.heap[b1]?=some (.cells [.int .i64 2,.int .i64 (na+nb),.string eS].toArray 104))::F2) (QG 3 (AE [⟨2,na+nb,eS⟩]) (some ⟨b1,0,none⟩) 1 1):=by
     intro w' hw;refine⟨rfl,XF _,fun _=>⟨b1,0,rfl,fun j v hj=> ?_⟩⟩;rw[Qs (hw _ (.head _)),XQ];exact hj
    apply Zq.f.1;refine XE (Qoc (F0:=_::F2) x [⟨2,na+nb,eS⟩] (some ⟨b1,0,none⟩) 1 _ hK ⟨d2,_,fun _ h=>h,qP.mono (fun φ h=> .tail _ h),hS⟩) ?_;rintro _ _ ⟨rfl,hq⟩;apply Zq.a.1;clear hS;replace hq:=hq.weaken (F0:=F0) fun φ h=> .tail _ (pF φ h);obtain⟨d3,F3,vI,Hy,hS⟩:=hq;have oZ:=pN.setH (BN x.h [⟨2,na+nb,eS⟩]).1;apply Zq.bA.1;refine XE (Qlz (x.setH (BN x.h [⟨2,na+nb,eS⟩]).1) (a+2) ((BN x.h [⟨2,na+nb,eS⟩]).2.1:Nat) _ oZ ⟨d3,F3,vI,Hy,hS⟩) ?_;rintro _ _ ⟨rfl,hq⟩;apply Zq.aJ.iK.1;exact SA
end
end Go.Proofs.YthliapbflkfdiacGreatDoor
