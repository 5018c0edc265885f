/- Steps of the proof. -/
import Derived.Test.YthliapbflkfdiacGreatDoorG41
set_option linter.unusedVariables false
set_option linter.unusedSimpArgs false
set_option maxRecDepth 100000
set_option maxHeartbeats 1000000
namespace Go.Proofs.YthliapbflkfdiacGreatDoor
open Go.Proofs.Tryz
open Go.RowKit
section
variable{P:Program}{n:Nat}{e:AW}{w:TG}{ty:TypeId}{pos:String}{after:TE}{dst:TD}{x y:Operand}{t t2:TypeId}
theorem QqQ{a c:Nat}(hx:ev n e x= .int .i64 (a:Nat))(hy:ev n e y= .int .i64 (c:Nat))(h0:0<c)(ha:a<=9223372036854775807)(hc:c<=9223372036854775807):
  (execOp (ev n e) ⟨dst,.binOp .rem t x y t2,ty,pos,after,none⟩).run P w= .ok (.value (.int .i64 ((a%c:Nat):Int))) w:=by
 have h1:¬((c:Nat):Int)=0:=by omega
 have h2:Op.intDiv .rem .i64 ((a:Nat):Int) ((c:Nat):Int)=pure (.int .i64 ((a:Int).tmod (c:Int))):=by unfold Op.intDiv;rw[XA h1]
 have h3:(execOp (ev n e) ⟨dst,.binOp .rem t x y t2,ty,pos,after,none⟩).run P w=((Op.intDiv .rem .i64 ((a:Nat):Int) ((c:Nat):Int)).bind fun r=>pure (.value r)).run P w:=by simp only[execOp,hx,hy];rfl
 rw[h3,h2,J2 Ya,<-Int.natCast_emod];rfl
end
structure Qv5(x:XS):Prop where
 bd:GO x
 len:x.h.cs.length<=65536
 tr:x.h.tr.length<=1000000
 f0:0<=x.first
 f1:x.first<x.ln.length
 o:(AH x.ln x.first.toNat).o<=x.ch.length
 goal:∃z,AD x.h.cs (AH x.ln x.first.toNat).g=some z/\0<=z.n/\z.n<=1000000/\(Q1 z.s.toList z.n.toNat=true->z.s.toList=[108,101,115,115]\/z.s.toList=[97,100,100]->MM x.h ((AH x.ln x.first.toNat).g+1)/\MM x.h ((AH x.ln x.first.toNat).g+1+1))
section
variable{M:T6}{w0:TG}{H:T0}{F0:T3}{b:Nat}{P:List LB}{pA:T4}{pc vars fuel every:Nat}
theorem QuB(x:XS)(w:TG)(hP:∀p∈P,p.ok/\R9 p.cl)(xV:P.length<=24)(hv8:vars<=8)(pN:GO x)(pX:x.ev.length<12)(uQ:fuel<=1000000)(qW:x.goals<=fuel)(Uv:every<=9223372036854775807)
  (uG:x.first≠-1->x.goals≠fuel->0<every->x.goals%every=0->∀w,BT M w0 H F0 b P pA pc vars fuel every x w->Calls prog 56 #[ES b] w fun e w'=>e= .returned (.tuple #[])/\BT M w0 H F0 b P pA pc vars fuel every (Qki vars x) w')
  (ht:x.first≠-1->x.goals≠fuel->Qv5 (QT vars every x)/\(QT vars every x).goals=x.goals) (hs:BT M w0 H F0 b P pA pc vars fuel every x w):
  Calls prog 31 #[ES b] w fun e w'=>e= .returned (.int .i64 (Qby (P.map LB.cl) vars fuel every x).1)/\BT M w0 H F0 b P pA pc vars fuel every (Qby (P.map LB.cl) vars fuel every x).2 w':=by
 obtain⟨d,F,oU,oK,hS⟩:=hs;obtain⟨hA,hc,hB,hd,_,_,_,cs,_,_,_,_,_,_,_⟩:=d;refine Qg func31 rfl ntmps31 rfl ?_;by_cases hf:x.first= -1
 .have e:Qby (P.map LB.cl) vars fuel every x=N7 vars x:=by unfold Qby;rw[XB hf]
  rw[e];apply Zq.e.aH.fU.y.l.v.Z.1;refine XE (QpL x _ pN hv8 pX ⟨_,F,oU,oK,hS⟩) ?_;rintro _ _ ⟨rfl,hq⟩;apply Zq.aJ.iN.1;exact SA
 by_cases hg:x.goals=fuel
 .have e:Qby (P.map LB.cl) vars fuel every x=(3,x):=by unfold Qby;rw[XA hf,XB hg]
  rw[e];apply Zq.e.aH.fU.y.bY.E.E.fV.1;replace hS:=hS.drew;apply Zq.aU.kI.aN.aU.kM.aN.f4.aD.cI.iN.1;exact⟨rfl,_,F,oU,oK,hS⟩
 apply Zq.e.aH.fU.y.bY.E.E.fV.1;replace hS:=hS.drew;apply Zq.aU.kI.aN.aU.kM.aN.f4.aD.D.E.E.1;refine Qp4 (21::22::23::24::25::26::27::28::29::30::31::32::33::34::35::36::37::38::39::[]) (fun w'=>BT M w0 H F0 b P pA pc vars fuel every (QT vars every x) w') ?_ ?_
 .intro hk;by_cases he:0<every
  .by_cases hr:x.goals%every=0
   .have hm:QT vars every x=Qki vars x:=by unfold QT;rw[XB ⟨he,hr⟩]
    rw[hm]at hk;apply Zq.iM.1;replace hS:=hS.drew;apply Zq.aU.kE.aN.jQ.a5.f8.f7.mG.jC.f8.f7.mR.jC.nG.g8.fQ.aD.v.u.F.1;refine XE (uG hf hg he hr _ ⟨_,F,oU,oK,hS⟩) ?_;rintro _ w5 ⟨rfl,hq⟩;apply Zq.a.b.1;exact hk _ _ hq Yc
   .have hm:QT vars every x=x:=by unfold QT;rw[XA (fun h=>hr h.2)]
    rw[hm]at hk;apply Zq.iM.1;replace hS:=hS.drew;apply Zq.aU.kE.aN.jQ.a5.f8.f7.mG.jC.f8.f7.mR.jC.nG.g8.fQ.aD.D.1;exact hk _ _ ⟨_,F,oU,oK,hS⟩ Yc
  .have hm:QT vars every x=x:=by unfold QT;rw[XA (fun h=>he h.1)]
   rw[hm]at hk;apply Zq.iM.1;replace hS:=hS.drew;apply Zq.aU.kE.aN.jQ.a5.bJ.bJ.bJ.bJ.bJ.bJ.bJ.bJ.bJ.bJ.fQ.aD.D.1;exact hk _ _ ⟨_,F,oU,oK,hS⟩ Yc
 clear hS oK oU;rintro _ w5 hq;obtain⟨ht1,_⟩:=ht hf hg
 have e0:Qby (P.map LB.cl) vars fuel every x=(fun t:XS=>if Q1 (DX t.h (AH t.ln t.first.toNat).g).s.toList (DX t.h (AH t.ln t.first.toNat).g).n.toNat=true then OV (AH t.ln t.first.toNat) ⟨t.h,t.goals+1,t.ln,(AH t.ln t.first.toNat).nx,t.ch,t.ev⟩else PE (P.map LB.cl) t.first.toNat ⟨t.h,t.goals+1,t.ln,(AH t.ln t.first.toNat).nx,t.ch,t.ev⟩) (QT vars every x):=by
  unfold Qby;rw[XA hf,XA hg]
 rw[e0];clear e0;generalize QT vars every x=t at*;obtain⟨th,tg,tl,_,tc,te⟩:=t;obtain⟨Wt,Uw,ttr,tf0,_,to_,z,hz,vB,sY,tR⟩:=ht1;dsimp only at*;obtain⟨k,rfl⟩:=Int.eq_ofNat_of_zero_le tf0;rw[X0]at*
 have Uo:DX th (AH tl k).g=z:=by unfold DX;rw[hz];rfl
 rw[Uo];obtain⟨d2,F2,pF,qP,hS⟩:=hq;obtain⟨Fm,sX,vL,Za,LA2,lc2,O12,Ut,CA2,cc2,O22,aDq,EA2,ec2,O32⟩:=d2;obtain⟨_,_,z2⟩:=AZ.1 hz;obtain⟨Mj,Ml,rfl⟩:∃b o,Fm=some ⟨b,o,none⟩:=(hS.und qP.hh).1.some_ (by show 0<th.cs.length;omega);have oL:∀{H'} w',St M w0 H' F2 w'->_:=fun w' hS=>((hS.und qP.hh).1).cell z2;obtain⟨l0,l1,l2⟩:=UL tl k _ (RR Ya);have qD:Row 101 3 (.slice LA2 tl.length lc2) tl.length (BP tl) O12:=qP.row1;obtain⟨gl,sp,rfl,rfl,_⟩:=qD.some_ Ya;have rD:∀{M2 H' F'} w',St M2 w0 H' F' w'->(gl,Obj.cells (BP tl++sp).toArray 101)∈H'->_:=fun{M2 H' F'} w' (hS:St M2 w0 H' F' w') hm=>And.intro (Row.cell (w:=w') qD hS Yv rfl l0) (And.intro (Row.cell (w:=w') qD hS Yv rfl l1) (Row.cell (w:=w') qD hS Yv rfl l2));have tln:=Wt.ln;dsimp only at tln;dsimp only[CO,LS]at hS;apply Zq.aT.cQ.iA.C.O.cQ.J.1;clear hS;intro _ hS;apply Zq.dT.fU.iA.c.aT.hE.iA.g.bR.lU.cK.1;clear hS;intro _ _ hS;apply Zq.d.1;clear hS;intro _ hS;apply Zq.b.h.Y.iA.O.fU.J.1;clear hS;intro _ hS;apply Zq.a2.E.fV.1;replace hS:=hS.drew;apply Zq.cA.bC.mD.bC.mD.d0.1
 first
  |refine Qe rfl (fun _ hS=>Qb (k:=3) hS rfl rfl rfl Ym Yh) rfl ?_
  |refine Qe rfl (fun _ hS=>Qb (k:=3) hS rfl rfl rfl Ym Ye) rfl ?_
  |refine Qe rfl (fun _ hS=>NI rfl rfl rfl YO YO YO) rfl ?_
 apply Zq.aD.F.1;refine XE (QkI z _ vB sY hS) ?_;rintro _ _ ⟨rfl,oD⟩;apply Zq.a.1;replace hS:=oD;clear oD
 have xE:LR P pA pc ⟨th,tg+1,tl,(AH tl k).nx,tc,te⟩ ⟨some ⟨Mj,Ml,none⟩,sX,vL,Za,some ⟨gl,0,none⟩,lc2,[(gl,.cells (BP tl++sp).toArray 101)],Ut,CA2,cc2,O22,aDq,EA2,ec2,O32⟩ F2:=⟨qP.hh,qP.row1,qP.hc,qP.rc,qP.row2,qP.he,qP.re,qP.row3,qP.rp⟩
 have hbu:GO ⟨th,tg+1,tl,(AH tl k).nx,tc,te⟩:=⟨Wt.ln,Wt.cn,Wt.ch⟩
 cases hb:Q1 z.s.toList z.n.toNat with
 |true=>
  rw[XB rfl];apply Zq.v.h.lU.f.1;refine XE (Qoe ⟨th,tg+1,tl,(AH tl k).nx,tc,te⟩ (AH tl k) z _ hbu hz to_ Uw (tR hb) ⟨_,F2,pF,xE,hS.drop⟩) ?_;exact YdZ
 |false=>
  rw[XA Yf];apply Zq.D.i.f.1;refine XE (QuF ⟨th,tg+1,tl,(AH tl k).nx,tc,te⟩ k z _ hbu (by show k<tl.length;omega) hz Uw ttr hP xV ⟨_,F2,pF,xE,hS.drop⟩) ?_;exact YdZ
end
theorem St.freezeRw{M:T6}{w0 w:TG}{H O:T0}{F:T3}{el sz len cap:Nat}{A:T4}{xs:T5}(hr:Rw el sz (.slice A len cap) len xs O)(hS:St M w0 (O++H) F w):
  ∃F',(∀φ∈F,φ∈F')/\AB F' (QG sz xs A len cap)/\St M w0 H F' w:=
 ⟨_,fun φ h=> .tail _ h,AB.head,St.freezeR hr hS⟩
abbrev ncs(B:TH)(vars fuel every:Nat):T5:=[.slice none 0 0,.slice none 0 0,B,.int .i64 (vars:Nat),.int .i64 (fuel:Nat),.int .i64 0,.int .i64 (every:Nat),.slice none 0 0,.int .i64 0,.slice none 0 0,.slice none 0 0]
section
variable{M:T6}{w0:TG}{H:T0}{F:T3}
theorem QkH(X:List LC)(xA:T4)(xc:Nat)(q:TA)(qA:T4)(qc:Nat)(vars fuel every:Nat)(w:TG)(hX:AB F (E6 X xA xc))(hq:AB F (AV qA qc q))(Fy:X.length<=24)(Fp:(GS (vars:Nat) q.ts).length<=1000/\∀g∈GS (vars:Nat) q.ts,0<=g/\g<=1000000)(Ux:q.len<=9223372036854775807)(Mq:q.ts.wide)(hXw:∀c∈X,c.hd.ar.len<=9223372036854775807/\c.hd.ar.ts.wide/\c.bd.len<=9223372036854775807/\c.bd.ts.wide)(Ad:∀c∈X,cB c.cl=true)(vD:qB vars q.ts=true)(hS:St M w0 H F w):
  Calls prog 30 #[.slice xA X.length xc,.slice qA q.len qc,.int .i64 (vars:Nat),.int .i64 (fuel:Nat),.int .i64 (every:Nat)] w fun e w'=>∃(b:Nat) (P:List LB) (pA:T4) (pc:Nat) (F1:T3),e= .returned (.pointer (some ⟨b,0,none⟩))/\P.map LB.cl=X.map LC.cl/\(∀φ∈F,φ∈F1)/\BT M w0 H F1 b P pA pc vars fuel every (M5 q.ts vars) w':=by
 refine Qet func30 rfl ntmps30 rfl ?_;apply Zq.e.i.g.1;refine Qa (QD (cells:=[_,_,_,_,_,_,_,_,_,_,_]) (.cons Yb (.cons Yb (.cons Yb .nil))) rfl) rfl ?_;apply Zq.d3.1;clear hS;intro b1 _ hS;apply Zq.M.aQ.1;refine Qp 26 (27::28::29::13::31::32::30::33::34::14::15::35::36::37::38::39::40::41::42::43::44::45::[]) (fun(R:List LC) v w'=>∃(D:List LC) (P:List LB) (pA:T4) (pc:Nat) (O:T0) (F':T3),X=D++R/\v= .int .i64 (D.length:Nat)/\P.map LB.cl=D.map LC.cl/\(∀φ∈F,φ∈F')/\(∀y∈P,AB F' (QzG y))/\Row 94 4 (.slice pA P.length pc) P.length (G0 P) O/\St M w0 ((b1,.cells (ncs (.slice pA P.length pc) vars fuel every).toArray 61)::(O++H)) F' w') (fun R=>R.length) (X) ?_ Yb ?_
 .exact⟨[],[],none,0,[],F,rfl,rfl,rfl,fun _ h=>h,(fun _ h=>by cases h),Row.nil_,hS⟩
 clear hS;rintro R _ _ _ ⟨D,P,pA,pc,O,F',rG,rfl,Wu,oU,hPR,oE,hS⟩ ih
 have oG:X.length=D.length+R.length:=by rw[rG];simp
 have xV:P.length=D.length:=by have:=XM List.length Wu;simpa using this
 have qV:=hX.mono oU
 cases R with
 |nil=>
  simp only[XP]at oG
  have eX:X=D:=by rw[rG];simp
  apply Zq.W.i.1;rw[<-eX]at Wu;obtain⟨_,h1,h2,h3⟩:=St.freezeLB (H:=(b1,.cells (ncs (.slice pA P.length pc) vars fuel every).toArray 61)::H) oE hPR (hS.perm VP.symm);replace hS:=h3;apply Zq.f.1;refine XE (Quc (vars:Nat) q qA qc _ ((hq.mono oU).mono h1) Ux Mq vD hS) ?_;rintro _ w5 ⟨A5,B5,c5,d5,O5,O6,rfl,hr5,Ny,oD⟩;apply Zq.a.1;replace hS:=oD;clear oD;obtain⟨F6,k1,k2,k3⟩:=St.freezeRw hr5 hS;obtain⟨F7,j1,j2,j3⟩:=St.freezeRw Ny k3;replace hS:=j3;clear j3 k3 h3;apply Zq.e1.R.1;clear hS;intro b2 pP hS;apply Zq.d.1;clear hS;intro pM hS;apply Zq.b4.aI.y.1
  have Wn:LR P pA pc ⟨⟨[],[]⟩,0,[],0,[],[]⟩ ⟨none,0,none,0,none,0,[],[],none,0,[],[],none,0,[]⟩ F7:=⟨fun _ _=>⟨QG.nil_ _ _ _,QG.nil_ _ _ _⟩,Row.nil_,rfl,(fun _ h=>by cases h),Row.nil_,rfl,(fun _ h=>by cases h),Row.nil_,h2.mono fun φ h=>j1 φ (k1 φ h)⟩
  apply Zq.f.1;refine XE (Qoc (F0:=F7) (H:=(b2,_)::H) ⟨⟨[],[]⟩,0,[],0,[],[]⟩ (DE (vars:Nat) q.ts) A5 c5 _ (k2.mono j1) ⟨_,F7,fun _ h=>h,Wn,hS.swap⟩) ?_;rintro _ _ ⟨rfl,hq6⟩;apply Zq.a.1;clear hS Wn;obtain⟨d6,F8,zH,aDt,hS⟩:=hq6;obtain⟨hA,hc,hB,hd,_,_,O1,cs,CA,cc,O2,evs,EA,ec,O3⟩:=d6;replace hS:=hS.perm (PU (b1,_) [(b2,_)] O1 O2 O3 H).symm;have Wq:=Qrd ⟨[],[]⟩ (DE (vars:Nat) q.ts);apply Zq.c.i.cS.g.g7.1;refine XE (QjU (H:=(b2,_)::H) (XS.setH ⟨⟨[],[]⟩,0,[],0,[],[]⟩ (BN ⟨[],[]⟩ (DE (vars:Nat) q.ts)).1) (GS (vars:Nat) q.ts) B5 d5 (BN ⟨[],[]⟩ (DE (vars:Nat) q.ts)).2.1 0 (-1) _ _ _ _ _ _ _ cs CA cc O2 evs EA ec O3 _ Ya (fun g hg=>by have:=Fp.2 g hg;omega) (by have:=Fp.1;show 0+_<=_;omega) (j2.mono zH) aDt (hS.perm (PU (b1,_) [(b2,_)] O1 O2 O3 H))) ?_;rintro _ _ ⟨rfl,Hw,Hx,O9,qE,oD⟩;apply Zq.a.1;replace hS:=oD;clear oD;apply Zq.O.fU.J.1;clear hS;intro sR hS;apply Zq.b.aB.1;refine Qd func30 rfl Yb ?_;exact⟨b1,P,pA,pc,F8,rfl,Wu,fun φ h=>zH φ (j1 φ (k1 φ (h1 φ (oU φ h)))),⟨hA,hc,hB,hd,Hw,Hx,O9,cs,CA,cc,O2,evs,EA,ec,O3⟩,F8,fun _ h=>h,⟨qE.hh,qE.row1,qE.hc,qE.rc,qE.row2,qE.he,qE.re,qE.row3,qE.rp⟩,(hS.perm (PU (b1,_) [(b2,_)] O9 O2 O3 H).symm).drop⟩
 |cons c R=>
  simp only[XJ]at oG;rw[rG]at qV;obtain⟨_,_,rfl⟩:=(hS.und qV).some_ Yg;obtain⟨_,_,_,_,_,_⟩:=(hS.und qV).cells;apply Zq.cB.f9.fD.eV.1;clear hS;intro b2 pP hS;apply Zq.d.1;clear hS;intro pM hS;apply Zq.cT.fD.1;have uH:AB F' (QzF c):=qV.imp fun w h=>h.2.2 c Yd;obtain⟨w1,w2_,w3_,w4_⟩:=hXw c Y8;apply Zq.F.1;refine XE (Qs0 c.hd.k c.hd.n c.vars c.hd.s c.hd.ar c.bd c.hd.A c.bA c.hd.c c.bc _ (uH.imp fun w h=>h.1) (uH.imp fun w h=>h.2) w1 w2_ w3_ w4_ (Ad c Y8) hS) ?_;rintro _ w5 ⟨A5,B5,c5,d5,O5,O6,rfl,hr5,Ny,oD⟩;apply Zq.a.1;replace hS:=oD;clear oD;obtain⟨F6,k1,k2,k3⟩:=St.freezeRw hr5 hS;obtain⟨F7,j1,j2,j3⟩:=St.freezeRw Ny k3;replace hS:=j3.perm (.swap _ _ _);clear j3 k3;apply Zq.e1.R.1;clear hS;intro _ sR hS;apply Zq.d.1;clear hS;intro _ hS;apply Zq.c.n4.1;replace hS:=hS.drew;apply Zq.a5.aU.b5.aN.iU.aR.dZ.1;clear hS;intro _ _ hS;apply Zq.hC.aR.1;refine EQ (sz:=4) (bts:=64) hS Yb rfl rfl rfl rfl (oE) rfl rfl (.cons _ (XK [_,_,_] O H)) Ya Ya rfl ?_;clear hS;intro _ O8 _ pC hS;obtain⟨A8,c8,rfl⟩:=pC.form;replace hS:=hS.perm (XK O8 [_,_,_] H);apply Zq.hC.eF.b5.aD.J.1;clear hS;intro _ hS;apply Zq.b.aZ.1;refine ih (R) _ _ _ ?_ ?_ Yb Yc
  .simp
  .refine⟨D++[c],P++[⟨c.cl,A5,c5,B5,d5⟩],A8,c8,O8,F7,by rw[rG];simp,by simp,by simp[Wu],fun φ h=>j1 φ (k1 φ (oU φ h)),?_,?_,?_⟩
   .intro y hy;rcases VG.1 hy with hy|hy
    .exact(hPR y hy).mono fun φ h=>j1 φ (k1 φ h)
    .obtain rfl:y=⟨c.cl,A5,c5,B5,d5⟩:=by simpa using hy
     exact fun w hw=>⟨(k2.mono j1) w hw,j2 w hw⟩
   .rw[Qmx,XG];exact pC
   .rw[XG];exact hS.drop.swap.drop
end
section
variable{M:T6}{w0:TG}{H:T0}{F:T3}
theorem QtZ(p:List Cl)(vars fuel every n:Nat)(s:XS):Qwy p vars fuel every (n+1) s=if(Qby p vars fuel every s).1=0 then Qwy p vars fuel every n (Qby p vars fuel every s).2 else FD (Qby p vars fuel every s).2.ev++[((Qby p vars fuel every s).1,.nil)]:=rfl
theorem QiG(Iv:Nat->XS->Prop)(X:List LC)(xA:T4)(xc:Nat)(q:TA)(qA:T4)(qc:Nat)(vars fuel every:Int)(w:TG)(hX:AB F (E6 X xA xc))(hq:AB F (AV qA qc q))
  (Aq:∀w',St M w0 H F w'->Calls prog 28 #[.slice xA X.length xc] w' fun e qQ=>e= .returned (.bool (pB (X.map LC.cl)))/\Below w'.heap.size w' qQ)
  (Fp:∀w',St M w0 H F w'->Calls prog 29 #[.slice qA q.len qc,.int .i64 vars] w' fun e qQ=>e= .returned (.bool (qB vars q.ts))/\Below w'.heap.size w' qQ)
  (vJ:pB (X.map LC.cl)=true->qB vars q.ts=true->0<=fuel->fuel<=150->0<=every->∀w',St M w0 H F w'->Calls prog 30 #[.slice xA X.length xc,.slice qA q.len qc,.int .i64 (vars.toNat:Nat),.int .i64 (fuel.toNat:Nat),.int .i64 (every.toNat:Nat)] w' fun e qQ=>∃(b:Nat) (P:List LB) (pA:T4) (pc:Nat) (F1:T3),e= .returned (.pointer (some ⟨b,0,none⟩))/\P.map LB.cl=X.map LC.cl/\(∀φ∈F,φ∈F1)/\BT M w0 H F1 b P pA pc vars.toNat fuel.toNat every.toNat (M5 q.ts vars) qQ)
  (h0:pB (X.map LC.cl)=true->qB vars q.ts=true->0<=fuel->fuel<=150->0<=every->Iv 4000 (M5 q.ts vars))
  (oM:∀(b:Nat) (P:List LB) (pA:T4) (pc:Nat) (F1:T3),P.map LB.cl=X.map LC.cl->∀n s,Iv n s->∀w',BT M w0 H F1 b P pA pc vars.toNat fuel.toNat every.toNat s w'->Calls prog 31 #[ES b] w' fun e qQ=>e= .returned (.int .i64 (Qby (X.map LC.cl) vars.toNat fuel.toNat every.toNat s).1)/\BT M w0 H F1 b P pA pc vars.toNat fuel.toNat every.toNat (Qby (X.map LC.cl) vars.toNat fuel.toNat every.toNat s).2 qQ)
  (Cg:∀n s,Iv n s->∃n',n=n'+1/\(Qby (X.map LC.cl) vars.toNat fuel.toNat every.toNat s).2.ev.length<=12/\((Qby (X.map LC.cl) vars.toNat fuel.toNat every.toNat s).1=0->Iv n' (Qby (X.map LC.cl) vars.toNat fuel.toNat every.toNat s).2))
  (hS:St M w0 H F w):
  Calls prog 12 #[.slice xA X.length xc,.slice qA q.len qc,.int .i64 vars,.int .i64 fuel,.int .i64 every] w fun e w'=>∃(A:T4) (c:Nat) (L:List KE) (F':T3),e= .returned (.tuple #[.slice A L.length c,.int .i64 (Qpa (X.map LC.cl) q.ts vars fuel every).2])/\L.map KE.ev=(Qpa (X.map LC.cl) q.ts vars fuel every).1/\(∀φ∈F,φ∈F')/\AB F' (K8 L A c)/\St M w0 H F' w':=by
 have oV:∀w:TG,K8 [] none 0 w:=fun w=>⟨XF _,fun h=>by simp at h,fun x hx=>by cases hx⟩
 have pO:Qpa (X.map LC.cl) q.ts vars fuel every=if pB (X.map LC.cl)=false\/qB vars q.ts=false then([],1)else if fuel<0\/150<fuel\/every<0 then([],2)else(Qwy (X.map LC.cl) vars.toNat fuel.toNat every.toNat 4000 (M5 q.ts vars),0):=rfl
 refine Qet func12 rfl ntmps12 rfl ?_;apply Zq.aY.m.F.1;refine XE (Aq _ hS) ?_;rintro _ _ ⟨rfl,oZ⟩;apply Zq.a.1;replace hS:=hS.grow oZ
 cases Ad:pB (X.map LC.cl)with
 |false=>
  rw[XB (.inl Ad)]at pO;rw[pO];apply Zq.X.bB.H.aY.g2.1;exact YL
 |true=>
 apply Zq.X.n.t.f.1;refine XE (Fp _ hS) ?_;rintro _ _ ⟨rfl,sJ⟩;apply Zq.a.1;replace hS:=hS.grow sJ
 cases vD:qB vars q.ts with
 |false=>
  rw[XB (.inr vD)]at pO;rw[pO];apply Zq.bW.H.aY.g2.1;exact YL
 |true=>
 rw[XA (by rw[Ad,vD];simp)]at pO;by_cases Wf:fuel<0
 .rw[XB (.inl Wf)]at pO;rw[pO];apply Zq.bW.N.m.I.aS.q.aS.H.aY.g2.1;exact YL
 by_cases hf2:150<fuel
 .rw[XB (.inr (.inl hf2))]at pO;rw[pO];apply Zq.bW.N.m.I.n.S.q.aS.H.aY.g2.1;exact YL
 by_cases hf3:every<0
 .rw[XB (.inr (.inr hf3))]at pO;rw[pO];apply Zq.bW.N.m.I.n.S.dM.I.H.aY.g2.1;exact YL
 rw[XA Ya]at pO;have wG:=vD;simp only[qB,XI,XO]at wG
 obtain⟨vars,rfl⟩:∃v:Nat,vars=v:=⟨vars.toNat,by omega⟩
 obtain⟨fuel,rfl⟩:∃f:Nat,fuel=f:=⟨fuel.toNat,by omega⟩
 obtain⟨every,rfl⟩:∃f:Nat,every=f:=⟨every.toNat,by omega⟩
 have hI:=h0 Ad vD Ya Ya Ya;replace vJ:=vJ Ad vD Ya Ya Ya;simp only[X0]at pO vJ oM Cg;rw[pO];generalize hR0:Qwy (X.map LC.cl) vars fuel every 4000 (M5 q.ts vars)=R0;apply Zq.bW.N.m.I.n.S.dM.I.N.i.aO.g.g7.1;refine XE (vJ _ hS) ?_;rintro _ _ ⟨b,P,pA,pc,F1,rfl,Wv,Nt,hs⟩;apply Zq.a.1;clear hS;apply Zq.c.e.b8.1;refine Qp 13 (39::40::41::42::[]) (fun(x:Nat×XS×Int) v w'=>v= .int .i64 x.2.2/\BT M w0 H F1 b P pA pc vars fuel every x.2.1 w'/\(x.2.2=0->Iv x.1 x.2.1/\R0=Qwy (X.map LC.cl) vars fuel every x.1 x.2.1)/\(x.2.2≠0->R0=FD x.2.1.ev++[(x.2.2,.nil)]/\x.2.1.ev.length<=12)) (fun x=>if x.2.2=0 then x.1+1 else 0) ((4000,M5 q.ts vars,0)) ?_ Yb ?_
 .exact⟨rfl,hs,fun _=>⟨hI,hR0.symm⟩,fun h=>absurd rfl h⟩
 clear hs;rintro⟨n,s,k⟩ _ _ _ ⟨rfl,hs,h1,h2⟩ ih;dsimp only at hs h1 h2;by_cases hk:k=0
 .subst hk;obtain⟨hI,tL⟩:=h1 rfl;obtain⟨n,rfl,pX,qW⟩:=Cg n s hI;rw[QtZ]at tL;apply Zq.m.l.c3.u.F.1;refine XE (oM b P pA pc F1 Wv _ s hI _ hs) ?_;rintro _ _ ⟨rfl,uW⟩;apply Zq.aJ.aX.1;refine ih ((n,(Qby (X.map LC.cl) vars fuel every s).2,(Qby (X.map LC.cl) vars fuel every s).1)) _ _ _ ?_ ?_ Yb Yc
  .dsimp only;rw[XB rfl];split<;>omega
  .refine⟨rfl,uW,fun h=>⟨qW h,?_⟩,fun h=>⟨?_,pX⟩⟩
   .rw[tL,XB h]
   .rw[tL,XA h]
 .obtain⟨h3,pX⟩:=h2 hk;obtain⟨d,F2,oU,oK,hS⟩:=hs;obtain⟨hA,hc,hB,hd,_,_,O1,cs,_,_,O2,evs,EA,ec,O3⟩:=d;have qX:Row 34 2 (.slice EA evs.length ec) evs.length (MD evs) O3:=oK.row3
  have oW:evs.length=s.ev.length:=by
   have:evs.map (fun e=>e.T.ts)=s.ev:=oK.he;rw[<-this];simp
  have hre:∀e∈evs,AB F2 (AV e.A e.c e.T):=oK.re;apply Zq.m.l.bE.aT.kF.y.g.nA.h0.1;clear hS;intro _ _ hS;refine EQ (sz:=2) (bts:=32) hS Yb rfl rfl rfl rfl (qX) rfl rfl (.cons _ (Qmm [_] _ _ _ _)) Ya Ya rfl ?_;clear hS;intro _ _ _ pC hS;obtain⟨A8,c8,rfl⟩:=pC.form;apply Zq.K.g2.1
  have xL:MD evs++[.int .i64 k,.slice none 0 0]=KM (evs.map (fun(e:LE)=>(⟨1,e.A,e.c,e.T⟩:KE))++[(⟨k,none,0,.nil⟩:KE)]):=by rw[QyI,Qzn];rfl
  have rD:(evs.map (fun(e:LE)=>(⟨1,e.A,e.c,e.T⟩:KE))++[(⟨k,none,0,.nil⟩:KE)]).length=evs.length+1:=by simp
  obtain⟨F3,g1,g2,g3⟩:=St.freezeK (L:=List.map (fun(e:LE)=>(⟨1,e.A,e.c,e.T⟩:KE)) evs++[(⟨k,none,0,.nil⟩:KE)]) (A:=A8) (c:=c8) (by rw[rD,<-xL];exact pC) (fun x hx=>by
   rcases VG.1 hx with hx|hx
   .obtain⟨e,he,rfl⟩:=X3.1 hx;exact hre e he
   .obtain rfl:x=⟨k,none,0,.nil⟩:=by simpa using hx
    exact fun w _=>⟨XF _,fun h=>by simp[TA.len]at h⟩) hS
  refine⟨A8,c8,_,F3,by rw[rD],?_,fun φ h=>g1 φ (oU φ (Nt φ h)),g2,St.dropL (L:=O2) (St.dropL (L:=O1) g3.drop)⟩;rw[h3,<-show evs.map (fun e=>e.T.ts)=s.ev from oK.he];simp[FD,KE.ev,TA.ts]
end
theorem Qlu{α:Type}(L O1 O2 O3 H:List α):(L++(O1++(O2++(O3++H)))).Perm (O1++(O2++(O3++(L++H)))):=
 (XK L O1 _).trans (.append_left O1 ((XK L O2 _).trans (.append_left O2 (XK L O3 H))))
theorem Qsh(x:XL)(r:List XL)(i:Nat)(g:Int):MN (x::r) (i+1) g=x::MN r i g:=rfl
theorem Qtj:∀(L:List XL) (i:Nat) (g:Int),i<L.length->BP (MN L i g)=(BP L).set (i*3) (.int .i64 g)
 |[],i,g,h=>by simp at h
 |x::r,0,g,h=>rfl
 |x::r,i+1,g,h=>by
  rw[Qsh];simp only[BP];rw[Qtj r i g YY,show(i+1)*3=i*3+3 by omega];rfl
theorem Qx6(L:List XL)(sp:T5)(i:Nat)(g:Int)(h:i<L.length):FH (BP L++sp) (i*3) (.int .i64 g) (BP (MN L i g)++sp):=by
 have:=RK (l:=BP L++sp) (v:= .int .i64 g) (i:=i*3) (by rw[XG,QiZ];omega)
 rwa [XaT _ _ (by rw[QiZ];omega),<-Qtj L i g h]at this
def LX.cells'(c:LX)(t:Nat):LX:=⟨c.at_,c.cls,c.A,c.c,t,c.bound⟩
def LX.bound'(c:LX)(t:Nat):LX:=⟨c.at_,c.cls,c.A,c.c,c.cells,t⟩
theorem Qqq:∀(L:List LX) (i:Nat) (t:Nat),i<L.length->BZ (L.modify i fun c=>c.cells' t)=(BZ L).set (i*4+2) (.int .i64 (t:Nat))
 |[],i,g,h=>by simp at h
 |x::r,0,g,h=>rfl
 |x::r,i+1,g,h=>by
  rw[List.modify_succ_cons];simp only[BZ];rw[Qqq r i g YY,show(i+1)*4+2=i*4+2+4 by omega];rfl
theorem Qqp:∀(L:List LX) (i:Nat) (t:Nat),i<L.length->BZ (L.modify i fun c=>c.bound' t)=(BZ L).set (i*4+3) (.int .i64 (t:Nat))
 |[],i,g,h=>by simp at h
 |x::r,0,g,h=>rfl
 |x::r,i+1,g,h=>by
  rw[List.modify_succ_cons];simp only[BZ];rw[Qqp r i g YY,show(i+1)*4+3=i*4+3+4 by omega];rfl
theorem Qwe(L:List LX)(sp:T5)(i:Nat)(t:Nat)(h:i<L.length):FH (BZ L++sp) (i*4+2) (.int .i64 (t:Nat)) (BZ (L.modify i fun c=>c.cells' t)++sp):=by
 have:=RK (l:=BZ L++sp) (v:= .int .i64 (t:Nat)) (i:=i*4+2) (by rw[XG,NT];omega)
 rwa [XaT _ _ (by rw[NT];omega),<-Qqq L i t h]at this
theorem Qwd(L:List LX)(sp:T5)(i:Nat)(t:Nat)(h:i<L.length):FH (BZ L++sp) (i*4+3) (.int .i64 (t:Nat)) (BZ (L.modify i fun c=>c.bound' t)++sp):=by
 have:=RK (l:=BZ L++sp) (v:= .int .i64 (t:Nat)) (i:=i*4+3) (by rw[XG,NT];omega)
 rwa [XaT _ _ (by rw[NT];omega),<-Qqp L i t h]at this
end Go.Proofs.YthliapbflkfdiacGreatDoor
