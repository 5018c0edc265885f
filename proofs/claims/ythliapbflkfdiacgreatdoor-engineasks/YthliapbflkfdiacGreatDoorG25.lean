/- Steps of the proof. -/
import Derived.Test.YthliapbflkfdiacGreatDoorG24
set_option linter.unusedVariables false
set_option linter.unusedSimpArgs false
set_option maxRecDepth 100000
set_option maxHeartbeats 1000000
namespace Go.Proofs.YthliapbflkfdiacGreatDoor
open Go.Proofs.Tryz
open Go.RowKit
section
variable{M:T6}{w0:TG}{H:T0}{F:T3}{X:List LC}{pA:T4}{pc q C D f:Nat}
def QzN(pr:List Tg->AC->AO->Int×AO)(r:List Tg)(e:AC)(p:AO)(x y z:Tm):Int×AO:=
 if(Qc e x).k≠2\/(Qc e y).k≠2\/1099511627776<(Qc e x).n+(Qc e y).n\/(Qc e x).n+(Qc e y).n< -1099511627776 then(-1,DH 5 p)else HV pr r e p z ⟨2,(Qc e x).n+(Qc e y).n,⟨#[]⟩,.nil⟩
theorem Qyh{n:Int}(h0: -1099511627776<=n)(h1:n<=1099511627776):AL ⟨2,n,⟨#[]⟩,.nil⟩:=by
 exact Yq
theorem Qsd(qS:PD X pA pc q C D f)(g:GN)(r:List GN)(E:List EN)(pb:Nat)(p:AO)(w:TG)(hX:AB F (E6 X pA pc))(hr:AB F (IP (g::r)))(hg:∀x∈g::r,AL x.t.tm)(hE:DU F E)(hf:p.fuel<=f)(hB:EO C D p)(h4:g.t.s.toList=[97,100,100])(oG:g.t.ar.len=3)(hP:CW M w0 H F pb pA X.length pc q p w):
  Calls prog 104 #[.pointer (some ⟨pb,0,none⟩),IV (g::r),DQ E] w fun e w'=>∃F':T3,e= .returned (.int .i64 (QzN (Qn (X.map LC.cl) q f) (BG r) (QK E) p (g.t.ar.ts.at_ 0) (g.t.ar.ts.at_ 1) (g.t.ar.ts.at_ 2)).1)/\(∀φ∈F,φ∈F')/\CW M w0 H F' pb pA X.length pc q (QzN (Qn (X.map LC.cl) q f) (BG r) (QK E) p (g.t.ar.ts.at_ 0) (g.t.ar.ts.at_ 1) (g.t.ar.ts.at_ 2)).2 w':=by
 have qN:∀{F':T3} {H':T0} (hF:∀φ∈F,φ∈F') (w':TG),St M w0 H' F' w'->_:=fun hF w' hS=>(hS.und (hr.mono hF)).cells;have sB:∀φ∈F,φ∈F:=fun _ h=>h;have e4:=(I4 [97,100,100]).1 h4
 have e1:g.t.s≠⟨#[33]⟩:=by rw[e4];decide
 have e2:g.t.s≠⟨#[116,114,117,101]⟩:=by rw[e4];decide
 have e5:g.t.s≠⟨#[101,113]⟩:=by rw[e4];decide
 have e7:g.t.s≠⟨#[108,101,115,115]⟩:=by rw[e4];decide
 have e3:g.t.s≠⟨#[102,97,105,108]⟩:=by rw[e4];decide
 have uC:AB F (BW g.t):=hr.imp fun w h=>h.2.1;have wC:AB F (IP r):=hr.imp fun w h=>h.2.2;have Sh:∀x∈r,AL x.t.tm:=fun x hx=>hg x (.tail _ hx);have tE:=GJ _ (hg g (.head _));obtain⟨x,y,z,hT⟩:=Qwn (T:=g.t.ar) oG;obtain⟨⟨_,_,_,_,_,_⟩,_,_⟩:=g;dsimp only at*;subst hT;have uD:=uC;unfold BW at uD;dsimp only at uD;obtain⟨K,oA,oc,O,hK,tF,oE,hS⟩:=hP;obtain⟨b6,_,rfl⟩:=(hS.und uD).some_ R3;have Mv:∀{H'} w',St M w0 H' F w'->_:=fun w' hS=>AV.cells (D:= .nil) (hS.und uD);have Cw:∀{H'} w',St M w0 H' F w'->_:=fun w' hS=>AV.cells (D:= .cons x.k x.n x.s x.A x.c x.ar .nil) (hS.und uD);have Vj:AB F (BW x):=uD.imp fun w h=>AV.sub (D:= .nil) h;have Vi:AB F (BW y):=uD.imp fun w h=>AV.sub (D:= .cons x.k x.n x.s x.A x.c x.ar .nil) h;have tx:AL x.tm:=tE x.tm (.inl rfl);have We:AL y.tm:=tE y.tm (.inr (.inl rfl));have Bx:∀{H'} w',St M w0 H' F w'->_:=fun w' hS=>AV.cells (D:= .cons x.k x.n x.s x.A x.c x.ar (.cons y.k y.n y.s y.A y.c y.ar .nil)) (hS.und uD);have hrz:AB F (BW z):=uD.imp fun w h=>AV.sub (D:= .cons x.k x.n x.s x.A x.c x.ar (.cons y.k y.n y.s y.A y.c y.ar .nil)) h;have tz:AL z.tm:=tE z.tm (.inr (.inr (.inl rfl)));have sK:(TA.cons x.k x.n x.s x.A x.c x.ar (TA.cons y.k y.n y.s y.A y.c y.ar (TA.cons z.k z.n z.s z.A z.c z.ar TA.nil))).len=3:=rfl
 have pV:QzN (Qn (X.map LC.cl) q f) (BG r) (QK E) p ((TA.cons x.k x.n x.s x.A x.c x.ar (TA.cons y.k y.n y.s y.A y.c y.ar (TA.cons z.k z.n z.s z.A z.c z.ar TA.nil))).ts.at_ 0) ((TA.cons x.k x.n x.s x.A x.c x.ar (TA.cons y.k y.n y.s y.A y.c y.ar (TA.cons z.k z.n z.s z.A z.c z.ar TA.nil))).ts.at_ 1) ((TA.cons x.k x.n x.s x.A x.c x.ar (TA.cons y.k y.n y.s y.A y.c y.ar (TA.cons z.k z.n z.s z.A z.c z.ar TA.nil))).ts.at_ 2)=if(Qc (QK E) x.tm).k≠2\/(Qc (QK E) y.tm).k≠2\/1099511627776<(Qc (QK E) x.tm).n+(Qc (QK E) y.tm).n\/(Qc (QK E) x.tm).n+(Qc (QK E) y.tm).n< -1099511627776 then(-1,DH 5 p)else HV (Qn (X.map LC.cl) q f) (BG r) (QK E) p z.tm ⟨2,(Qc (QK E) x.tm).n+(Qc (QK E) y.tm).n,⟨#[]⟩,.nil⟩:=rfl
 rw[pV];clear pV;have ho:=hB.o;apply Zq.gE.e.bU.Y.b7.dJ.cC.cC.cC.aW.aX.bN.bI.b7.c.bU.Y.b7.dD.v.E.1;refine Qd9 9 10 (65::66::67::68::69::70::71::72::73::74::[]) (fun y_ z_ w'=>∃(b5 b6:Nat) (u v:LT),y_= .pointer (some ⟨b5,0,none⟩)/\z_= .pointer (some ⟨b6,0,none⟩)/\u.tm=Qc (QK E) x.tm/\v.tm=Qc (QK E) y.tm/\St M w0 ((b5,.cells (AN u).toArray 63)::(b6,.cells (AN v).toArray 63)::(pb,.cells (DN pA X.length pc q p oA K.length oc).toArray 109)::(O++H)) F w') ?_ ?_
 .intro oF;apply Zq.n5.1;replace hS:=hS.drew;apply Zq.a7.a7.fH.gD.a7.a7.fH.gD.1;refine QA rfl ?_ ?_
  .apply Zq.f.e0.1;rintro _ w5 ⟨u,rfl,oR,pT,zW,oD⟩;apply Zq.a.1;replace hS:=oD;clear oD;apply Zq.aG.1;refine QA rfl ?_ ?_
   .apply Zq.f.c6.1;rintro _ w6 ⟨v,rfl,oJ,pG,qZ,oD⟩;apply Zq.a.1;replace hS:=oD;clear oD;apply Zq.aG.1;refine QA rfl ?_ ?_
    .apply Zq.R.1;clear hS;intro _ _ hS;apply Zq.aG.aM.1;clear hS;intro _ _ hS;apply Zq.a4.1;clear hS;intro _ hS;apply Zq.d.1;clear hS;intro _ hS;apply Zq.b.1
     first|exact oF _ _ _ _ ⟨_,_,u,v,rfl,rfl,oR,oJ,hS⟩ Yb Yb Yc|exact oF _ _ _ _ ⟨_,_,u,v,rfl,rfl,oR,oJ,hS.perm (List.Perm.swap _ _ _)⟩ Yb Yb Yc
    apply Zq.aM.1;clear hS;intro _ _ hS;apply Zq.aG.aM.1;clear hS;intro _ _ hS;apply Zq.a4.1;clear hS;intro _ hS;apply Zq.d.1;clear hS;intro _ hS;apply Zq.b.1
    first|exact oF _ _ _ _ ⟨_,_,u,v,rfl,rfl,oR,oJ,hS⟩ Yb Yb Yc|exact oF _ _ _ _ ⟨_,_,u,v,rfl,rfl,oR,oJ,hS.perm (List.Perm.swap _ _ _)⟩ Yb Yb Yc
   refine QA rfl ?_ ?_
   .apply Zq.R.1;clear hS;intro b5 _ hS;apply Zq.aG.1;refine QA rfl ?_ ?_
    .apply Zq.f.c6.1;rintro _ w6 ⟨v,rfl,oJ,pG,qZ,oD⟩;apply Zq.a.1;replace hS:=oD;clear oD;apply Zq.aG.aM.1;clear hS;intro b6 _ hS;apply Zq.a4.1;clear hS;intro _ hS;apply Zq.d.1;clear hS;intro _ hS;apply Zq.b.1
     first|exact oF _ _ _ _ ⟨_,_,u,v,rfl,rfl,oR,oJ,hS⟩ Yb Yb Yc|exact oF _ _ _ _ ⟨_,_,u,v,rfl,rfl,oR,oJ,hS.perm (List.Perm.swap _ _ _)⟩ Yb Yb Yc
    apply Zq.aM.1;clear hS;intro _ _ hS;apply Zq.cV.c6.1;rintro _ w6 ⟨v,rfl,oJ,pG,qZ,oD⟩;apply Zq.a.1;replace hS:=oD;clear oD;apply Zq.a4.1;clear hS;intro _ hS;apply Zq.d.1;clear hS;intro _ hS;apply Zq.b.1
    first|exact oF _ _ _ _ ⟨_,_,u,v,rfl,rfl,oR,oJ,hS⟩ Yb Yb Yc|exact oF _ _ _ _ ⟨_,_,u,v,rfl,rfl,oR,oJ,hS.perm (List.Perm.swap _ _ _)⟩ Yb Yb Yc
   apply Zq.aM.1;clear hS;intro _ _ hS;apply Zq.aG.1;refine QA rfl ?_ ?_
   .apply Zq.f.c6.1;rintro _ w6 ⟨v,rfl,oJ,pG,qZ,oD⟩;apply Zq.a.1;replace hS:=oD;clear oD;apply Zq.aG.aM.1;clear hS;intro _ _ hS;apply Zq.a4.1;clear hS;intro _ hS;apply Zq.d.1;clear hS;intro _ hS;apply Zq.b.1
    first|exact oF _ _ _ _ ⟨_,_,u,v,rfl,rfl,oR,oJ,hS⟩ Yb Yb Yc|exact oF _ _ _ _ ⟨_,_,u,v,rfl,rfl,oR,oJ,hS.perm (List.Perm.swap _ _ _)⟩ Yb Yb Yc
   apply Zq.aM.1;clear hS;intro _ _ hS;apply Zq.cV.c6.1;rintro _ w6 ⟨v,rfl,oJ,pG,qZ,oD⟩;apply Zq.a.1;replace hS:=oD;clear oD;apply Zq.a4.1;clear hS;intro _ hS;apply Zq.d.1;clear hS;intro _ hS;apply Zq.b.1
   first|exact oF _ _ _ _ ⟨_,_,u,v,rfl,rfl,oR,oJ,hS⟩ Yb Yb Yc|exact oF _ _ _ _ ⟨_,_,u,v,rfl,rfl,oR,oJ,hS.perm (List.Perm.swap _ _ _)⟩ Yb Yb Yc
  refine QA rfl ?_ ?_
  .apply Zq.R.1;clear hS;intro _ _ hS;apply Zq.aG.1;refine QA rfl ?_ ?_
   .apply Zq.f.e0.1;rintro _ w5 ⟨u,rfl,oR,pT,zW,oD⟩;apply Zq.a.1;replace hS:=oD;clear oD;apply Zq.aG.1;refine QA rfl ?_ ?_
    .apply Zq.f.c6.1;rintro _ w6 ⟨v,rfl,oJ,pG,qZ,oD⟩;apply Zq.a.1;replace hS:=oD;clear oD;apply Zq.aG.aM.1;clear hS;intro _ _ hS;apply Zq.a4.1;clear hS;intro _ hS;apply Zq.d.1;clear hS;intro _ hS;apply Zq.b.1
     first|exact oF _ _ _ _ ⟨_,_,u,v,rfl,rfl,oR,oJ,hS⟩ Yb Yb Yc|exact oF _ _ _ _ ⟨_,_,u,v,rfl,rfl,oR,oJ,hS.perm (List.Perm.swap _ _ _)⟩ Yb Yb Yc
    apply Zq.aM.1;clear hS;intro _ _ hS;apply Zq.cV.c6.1;rintro _ w6 ⟨v,rfl,oJ,pG,qZ,oD⟩;apply Zq.a.1;replace hS:=oD;clear oD;apply Zq.a4.1;clear hS;intro _ hS;apply Zq.d.1;clear hS;intro _ hS;apply Zq.b.1
    first|exact oF _ _ _ _ ⟨_,_,u,v,rfl,rfl,oR,oJ,hS⟩ Yb Yb Yc|exact oF _ _ _ _ ⟨_,_,u,v,rfl,rfl,oR,oJ,hS.perm (List.Perm.swap _ _ _)⟩ Yb Yb Yc
   apply Zq.aM.1;clear hS;intro _ _ hS;apply Zq.cV.e0.1;rintro _ w5 ⟨u,rfl,oR,pT,zW,oD⟩;apply Zq.a.1;replace hS:=oD;clear oD;apply Zq.cV.c6.1;rintro _ w6 ⟨v,rfl,oJ,pG,qZ,oD⟩;apply Zq.a.1;replace hS:=oD;clear oD;apply Zq.a4.1;clear hS;intro _ hS;apply Zq.d.1;clear hS;intro _ hS;apply Zq.b.1
   first|exact oF _ _ _ _ ⟨_,_,u,v,rfl,rfl,oR,oJ,hS⟩ Yb Yb Yc|exact oF _ _ _ _ ⟨_,_,u,v,rfl,rfl,oR,oJ,hS.perm (List.Perm.swap _ _ _)⟩ Yb Yb Yc
  apply Zq.aM.1;clear hS;intro _ _ hS;apply Zq.aG.1;refine QA rfl ?_ ?_
  .apply Zq.f.e0.1;rintro _ w5 ⟨u,rfl,oR,pT,zW,oD⟩;apply Zq.a.1;replace hS:=oD;clear oD;apply Zq.aG.1;refine QA rfl ?_ ?_
   .apply Zq.f.c6.1;rintro _ w6 ⟨v,rfl,oJ,pG,qZ,oD⟩;apply Zq.a.1;replace hS:=oD;clear oD;apply Zq.aG.aM.1;clear hS;intro _ _ hS;apply Zq.a4.1;clear hS;intro _ hS;apply Zq.d.1;clear hS;intro _ hS;apply Zq.b.1
    first|exact oF _ _ _ _ ⟨_,_,u,v,rfl,rfl,oR,oJ,hS⟩ Yb Yb Yc|exact oF _ _ _ _ ⟨_,_,u,v,rfl,rfl,oR,oJ,hS.perm (List.Perm.swap _ _ _)⟩ Yb Yb Yc
   apply Zq.aM.1;clear hS;intro _ _ hS;apply Zq.cV.c6.1;rintro _ w6 ⟨v,rfl,oJ,pG,qZ,oD⟩;apply Zq.a.1;replace hS:=oD;clear oD;apply Zq.a4.1;clear hS;intro _ hS;apply Zq.d.1;clear hS;intro _ hS;apply Zq.b.1
   first|exact oF _ _ _ _ ⟨_,_,u,v,rfl,rfl,oR,oJ,hS⟩ Yb Yb Yc|exact oF _ _ _ _ ⟨_,_,u,v,rfl,rfl,oR,oJ,hS.perm (List.Perm.swap _ _ _)⟩ Yb Yb Yc
  apply Zq.aM.1;clear hS;intro _ _ hS;apply Zq.cV.e0.1;rintro _ w5 ⟨u,rfl,oR,pT,zW,oD⟩;apply Zq.a.1;replace hS:=oD;clear oD;apply Zq.cV.c6.1;rintro _ w6 ⟨v,rfl,oJ,pG,qZ,oD⟩;apply Zq.a.1;replace hS:=oD;clear oD;apply Zq.a4.1;clear hS;intro _ hS;apply Zq.d.1;clear hS;intro _ hS;apply Zq.b.1
  first|exact oF _ _ _ _ ⟨_,_,u,v,rfl,rfl,oR,oJ,hS⟩ Yb Yb Yc|exact oF _ _ _ _ ⟨_,_,u,v,rfl,rfl,oR,oJ,hS.perm (List.Perm.swap _ _ _)⟩ Yb Yb Yc
 clear hS;rintro _ _ _ _ ⟨b5,b6,u,v,rfl,rfl,oR,oJ,hS⟩
 have tu:AL u.tm:=by rw[oR];exact LN hE.gd tx
 have Ld:AL v.tm:=by rw[oJ];exact LN hE.gd We
 rw[<-oR,<-oJ]
 have Vh:∀w',St M w0 ((b5,.cells (AN u).toArray 63)::(b6,.cells (AN v).toArray 63)::(pb,.cells (DN pA X.length pc q p oA K.length oc).toArray 109)::(O++H)) F w'->CW M w0 H F pb pA X.length pc q p w':=fun w' hS=>⟨K,oA,oc,O,hK,tF,oE,hS.drop.drop⟩
 by_cases ku:u.k=2
 case neg=>
  rw[XB (.inl (by exact ku))];apply Zq.dW.cX.Q.bX.q.c8.U.aL.aL.aL.aL.aL.aL.aL.U.H.aF.gZ.1;exact SY
 by_cases kv:v.k=2
 case neg=>
  rw[XB (.inr (.inl (by exact kv)))];apply Zq.dW.cX.Q.t.cO.cX.j.Q.q.c8.U.aL.aL.aL.aL.aL.aL.aL.U.H.aF.gZ.1;exact SY
 have nu: -1099511627776<=u.n/\u.n<=1099511627776:=QtJ tu ku;have nv: -1099511627776<=v.n/\v.n<=1099511627776:=QtJ Ld kv;by_cases h8:1099511627776<u.n+v.n
 .rw[XB (.inr (.inr (.inl (by exact h8))))];apply Zq.dW.cX.Q.t.cO.cX.j.Q.dM.c9.cO.Y.j.cX.j.V.P.cJ.cX.j.cJ.cX.j.C.j.S.j.c8.bG.bG.H.aF.gZ.1;exact SY
 by_cases h9:u.n+v.n< -1099511627776
 .rw[XB (.inr (.inr (.inr (by exact h9))))];apply Zq.dW.cX.Q.t.cO.cX.j.Q.dM.c9.cO.Y.j.cX.j.V.P.cJ.cX.j.cJ.cX.j.C.j.S.P.cJ.cX.j.cJ.cX.j.C.j.I.bG.bG.H.aF.gZ.1;exact SY
 rw[XA (show¬(u.tm.k≠2\/v.tm.k≠2\/1099511627776<u.tm.n+v.tm.n\/u.tm.n+v.tm.n< -1099511627776)from(by omega:¬(u.k≠2\/v.k≠2\/1099511627776<u.n+v.n\/u.n+v.n< -1099511627776)))];have tn:AL ⟨2,u.n+v.n,⟨#[]⟩,.nil⟩:=Qyh Ya Ya;have tZ:∀{H'} w',St M w0 H' F w'->_:=fun w' hS=>Qyy E z ⟨2,u.n+v.n,⟨#[]⟩,none,0,.nil⟩ w' hE hrz (fun w _=>⟨XF _,fun h=>by simp[TA.len]at h⟩) tz tn hS
 have pV:HV (Qn (X.map LC.cl) q f) (BG r) (QK E) p z.tm ⟨2,u.tm.n+v.tm.n,⟨#[]⟩,.nil⟩=if 400<(BA z.tm (LT.tm ⟨2,u.n+v.n,⟨#[]⟩,none,0,.nil⟩) (QK E)).w then(-1,DH 4 p)else if(BA z.tm (LT.tm ⟨2,u.n+v.n,⟨#[]⟩,none,0,.nil⟩) (QK E)).ok=true then Qn (X.map LC.cl) q f (BG r) (BA z.tm (LT.tm ⟨2,u.n+v.n,⟨#[]⟩,none,0,.nil⟩) (QK E)).s p else(-1,p):=rfl
 rw[pV];clear pV;generalize BA z.tm (LT.tm ⟨2,u.n+v.n,⟨#[]⟩,none,0,.nil⟩) (QK E)=uu at*;apply Zq.dW.cX.Q.t.cO.cX.j.Q.dM.c9.cO.Y.j.cX.j.V.P.cJ.cX.j.cJ.cX.j.C.j.S.P.cJ.cX.j.cJ.cX.j.C.j.I.bG.bG.N.bU.Y.cX.V.D.fV.1;replace hS:=hS.drew;apply Zq.a5.hO.1
 first
  |refine Qe rfl (fun _ hS=>Qb (k:=4) hS rfl rfl rfl Ym Yh) rfl ?_
  |refine Qe rfl (fun _ hS=>Qb (k:=4) hS rfl rfl rfl Ym Ye) rfl ?_
  |refine Qe rfl (fun _ hS=>Q7 rfl rfl rfl Yy Yy Yy Yy) rfl ?_
 apply Zq.cM.n8.cM.n8.iY.nZ.aD.1;refine RD (cells:=[_,_,_,_,_,_,_,_]) hS (.cons Yb (.cons Yb .nil)) rfl rfl ?_;clear hS;intro b19 _ hS;apply Zq.c.E.1;refine QhI 11 12 13 (138::139::140::141::142::143::144::145::137::146::147::148::[]) (fun v_ y_ z_ w'=>∃(E':List EN) (ok:Bool) (k:Int) (F':T3),v_=DQ E'/\y_= .bool ok/\z_= .int .i64 k/\(∀φ∈F,φ∈F')/\(400<uu.w->k<0)/\(uu.w<=400->0<=k/\ok=uu.ok/\(uu.ok=true->QK E'=uu.s/\DU F' E'))/\St M w0 ((b19,.cells [.int .i64 z.k,.int .i64 z.n,.string z.s,.slice z.A z.ar.len z.c,.int .i64 2,.int .i64 (u.n+v.n),.string ⟨#[]⟩,.slice none 0 0].toArray 63)::(b5,.cells (AN u).toArray 63)::(b6,.cells (AN v).toArray 63)::(pb,.cells (DN pA X.length pc q p oA K.length oc).toArray 109)::(O++H)) F' w') ?_ ?_
 .intro oF;apply Zq.lQ.1;replace hS:=hS.drew;apply Zq.a7.a7.fH.l6.a7.fH.l6.a0.bA.1;exact Ya4
 clear hS;rintro _ _ _ _ w9 ⟨E',ok,k,F',rfl,rfl,rfl,hF,c1,c2,hS⟩;by_cases hw:400<uu.w
 .have hk:=c1 hw;rw[XB hw];apply Zq.m.I.v.aF.1;refine XE (OQ pb pA X.length pc q p 4 _ (by have:=hB.o;omega) ⟨K,oA,oc,O,hK,fun x hx=>(tF x hx).mono hF,oE,hS.drop.drop.drop⟩) ?_;exact YdX
 obtain⟨hk,rfl,oK⟩:=c2 Ya;rw[XA hw]
 cases ho:uu.ok with
 |false=>
  rw[XA Yf];rw[ho]at*;apply Zq.m.c1.m.X.cI.dP.1;exact⟨F',rfl,hF,K,oA,oc,O,hK,fun x hx=>(tF x hx).mono hF,oE,hS.drop.drop.drop⟩
 |true=>
  rw[XB rfl];obtain⟨Ct,Fu⟩:=oK ho;have hc:=fun w' hP=>qS M w0 H F' r E' pb p w' (hX.mono hF) (wC.mono hF) Sh Fu hf hB hP;rw[Ct]at hc;rw[ho]at*;apply Zq.m.c1.m.bF.i.O.cQ.gH.g.bA.1;refine XE (hc _ ⟨K,oA,oc,O,hK,fun x hx=>(tF x hx).mono hF,oE,hS.drop.drop.drop⟩) ?_;exact Ych
end
section
variable{M:T6}{w0:TG}{H:T0}{F:T3}{X:List LC}{pA:T4}{pc q C D f:Nat}
theorem Qsc(qS:PD X pA pc q C D f)(g:GN)(r:List GN)(E:List EN)(pb:Nat)(p:AO)(w:TG)(hX:AB F (E6 X pA pc))(hr:AB F (IP (g::r)))(hg:∀x∈g::r,AL x.t.tm)(hE:DU F E)(hf:p.fuel<=f)(hB:EO C D p)(sS:Q1 g.t.s.toList g.t.ar.len=true)(hP:CW M w0 H F pb pA X.length pc q p w):
  Calls prog 104 #[.pointer (some ⟨pb,0,none⟩),IV (g::r),DQ E] w fun e w'=>∃F':T3,e= .returned (.int .i64 (LQ (Qn (X.map LC.cl) q f) (g.t.tm,g.o) (BG r) (QK E) p).1)/\(∀φ∈F,φ∈F')/\CW M w0 H F' pb pA X.length pc q (LQ (Qn (X.map LC.cl) q f) (g.t.tm,g.o) (BG r) (QK E) p).2 w':=by
 have hs:g.t.tm.s=g.t.s:=rfl;have Fk:g.t.tm.ar=g.t.ar.ts:=rfl;unfold Q1 at sS;unfold LQ;dsimp only;rw[hs,Fk];by_cases h1:g.t.s.toList=[33]
 .rw[XB h1];refine XE (Qsb qS g r E pb p w hX hr hg hE hf hB h1 hP) ?_;rintro e w' ⟨F',rfl,hF,qL⟩;refine⟨F',?_,hF,?_⟩
  .split<;>rfl
  .split
   .exact qL
   .exact qL
 rw[XA h1]at sS⊢;by_cases h2:g.t.s.toList=[116,114,117,101]
 .rw[XB h2];exact Qpn qS g r E pb p w hX hr hg hE hf hB h2 hP
 rw[XA h2]at sS⊢;by_cases h3:g.t.s.toList=[102,97,105,108]
 .rw[XB h3];refine XE (Qpq g r E pb p w hr h3 hP) ?_;exact YbA
 rw[XA h3]at sS⊢;by_cases h4:g.t.s.toList=[101,113]
 .rw[XB h4]at sS⊢;exact QtQ qS g r E pb p w hX hr hg hE hf hB h4 (by simpa using sS) hP
 rw[XA h4]at sS⊢;by_cases h5:g.t.s.toList=[108,101,115,115]
 .rw[XB h5]at sS
  have h6:¬g.t.s.toList=[97,100,100]:=by rw[h5];decide
  have pV:=Qpo qS g r E pb p w hX hr hg hE hf hB h5 (by simpa using sS) hP;unfold QwV at pV;simp only[h6,false_and,or_false,XB h5];exact pV
 rw[XA h5]at sS;by_cases h6:g.t.s.toList=[97,100,100]
 .rw[XB h6]at sS;have pV:=Qsd qS g r E pb p w hX hr hg hE hf hB h6 (by simpa using sS) hP;unfold QzN at pV;simp only[XA h5];simp only[h6,WG];exact pV
 .rw[XA h6]at sS;cases sS
end
section
variable{M:T6}{w0:TG}{H:T0}{F:T3}{X:List LC}{pA:T4}{pc q C D f:Nat}
theorem QnR(E:List EN)(pb:Nat)(p:AO)(w:TG)(hq:q<=8)(hE:DU F E)(hB:EO C D p)(hP:CW M w0 H F pb pA X.length pc q p w):
  Calls prog 62 #[.pointer (some ⟨pb,0,none⟩),IV [],DQ E] w fun e w'=>∃F':T3,e= .returned (.int .i64 (KR q (QK E) p).1)/\(∀φ∈F,φ∈F')/\CW M w0 H F' pb pA X.length pc q (KR q (QK E) p).2 w':=by
 have ho:=hB.o;have hc:=fun w' hP=>Qwp (M:=M) (w0:=w0) (H:=H) (F:=F) E pb pA X.length pc q p w' hq Ya hE hP;obtain⟨K,oA,oc,O,hK,tF,oE,hS⟩:=hP;apply Zq.hW.bV.e3.v.i.f.gQ.1;exact YdE
theorem QnQ(g:GN)(r:List GN)(E:List EN)(pb:Nat)(p:AO)(w:TG)(hB:EO C D p)(h0:p.fuel=0)(hP:CW M w0 H F pb pA X.length pc q p w):
  Calls prog 62 #[.pointer (some ⟨pb,0,none⟩),IV (g::r),DQ E] w fun e w'=>e= .returned (.int .i64 (-1))/\CW M w0 H F pb pA X.length pc q (DH 3 p) w':=by
 have ho:=hB.o;have h0':((p.fuel:Nat):Int)=0:=by omega
 have hc:=fun w' hP=>OQ (M:=M) (w0:=w0) (H:=H) (F:=F) pb pA X.length pc q p 3 w' Ya hP;obtain⟨K,oA,oc,O,hK,tF,oE,hS⟩:=hP;apply Zq.hW.bV.e3.D.dF.l.v.aF.gQ.1;exact YdA
theorem QpD(qS:PD X pA pc q C D f)(g:GN)(r:List GN)(E:List EN)(pb:Nat)(p:AO)(w:TG)(hX:AB F (E6 X pA pc))(hr:AB F (IP (g::r)))(hg:∀x∈g::r,AL x.t.tm)(hE:DU F E)(h0:p.fuel≠0)(h1:p.fuel<=1000)(hf:p.fuel<=f+1)(hB:EO C D p)(sS:Q1 g.t.s.toList g.t.ar.len=true)(hP:CW M w0 H F pb pA X.length pc q p w):
  Calls prog 62 #[.pointer (some ⟨pb,0,none⟩),IV (g::r),DQ E] w fun e w'=>∃F':T3,e= .returned (.int .i64 (LQ (Qn (X.map LC.cl) q f) (g.t.tm,g.o) (BG r) (QK E) ⟨p.fuel-1,p.vars,p.calls,p.out,p.ended⟩).1)/\(∀φ∈F,φ∈F')/\CW M w0 H F' pb pA X.length pc q (LQ (Qn (X.map LC.cl) q f) (g.t.tm,g.o) (BG r) (QK E) ⟨p.fuel-1,p.vars,p.calls,p.out,p.ended⟩).2 w':=by
 have h0':((p.fuel:Nat):Int)≠0:=by omega
 have Nj:EO C D ⟨p.fuel-1,p.vars,p.calls,p.out,p.ended⟩:=⟨by have:=hB.v;show p.vars+8*(p.fuel-1+12)<=C+8*p.out.length;omega,by have:=hB.c;show p.calls+(p.fuel-1)<=D;omega,hB.o,hB.e⟩
 have hc:=fun w' hP=>Qsc (M:=M) (w0:=w0) (H:=H) (F:=F) qS g r E pb ⟨p.fuel-1,p.vars,p.calls,p.out,p.ended⟩ w' hX hr hg hE (by show p.fuel-1<=f;omega) Nj sS hP;have qN:∀{H'} w',St M w0 H' F w'->_:=fun w' hS=>(hS.und hr).cells;have uQ:((p.fuel:Nat):Int)-1=((p.fuel-1:Nat):Int):=by omega
 obtain⟨K,oA,oc,O,hK,tF,oE,hS⟩:=hP;apply Zq.hW.bV.e3.D.aH.Y.eG.bY.aT.Y.eG.b3.dL.1;clear hS;intro _ hS;apply Zq.b.bU.jX.F.j2.1;rintro _ _ ⟨rfl,sJ⟩;apply Zq.a.1;replace hS:=hS.grow sJ;apply Zq.b.1;rw[sS];apply Zq.cD.i.g.1;rw[uQ]at hS;apply Zq.bA.gQ.1;exact YdE
end
end Go.Proofs.YthliapbflkfdiacGreatDoor
