/- Steps of the proof. -/
import Derived.Test.YthliapbflkfdiacGreatDoorG23
set_option linter.unusedVariables false
set_option linter.unusedSimpArgs false
set_option maxRecDepth 100000
set_option maxHeartbeats 1000000
namespace Go.Proofs.YthliapbflkfdiacGreatDoor
open Go.Proofs.Tryz
open Go.RowKit
section
variable{M:T6}{w0:TG}{H:T0}{F:T3}{X:List LC}{pA:T4}{pc q C D f:Nat}
def QwV(pr:List Tg->AC->AO->Int×AO)(r:List Tg)(e:AC)(p:AO)(x y:Tm):Int×AO:=
 if(Qc e x).k≠2\/(Qc e y).k≠2 then(-1,DH 5 p)else if(Qc e x).n<(Qc e y).n then pr r e p else(-1,p)
theorem Qpo(qS:PD X pA pc q C D f)(g:GN)(r:List GN)(E:List EN)(pb:Nat)(p:AO)(w:TG)(hX:AB F (E6 X pA pc))(hr:AB F (IP (g::r)))(hg:∀x∈g::r,AL x.t.tm)(hE:DU F E)(hf:p.fuel<=f)(hB:EO C D p)(h4:g.t.s.toList=[108,101,115,115])(oG:g.t.ar.len=2)(hP:CW M w0 H F pb pA X.length pc q p w):
  Calls prog 104 #[.pointer (some ⟨pb,0,none⟩),IV (g::r),DQ E] w fun e w'=>∃F':T3,e= .returned (.int .i64 (QwV (Qn (X.map LC.cl) q f) (BG r) (QK E) p (g.t.ar.ts.at_ 0) (g.t.ar.ts.at_ 1)).1)/\(∀φ∈F,φ∈F')/\CW M w0 H F' pb pA X.length pc q (QwV (Qn (X.map LC.cl) q f) (BG r) (QK E) p (g.t.ar.ts.at_ 0) (g.t.ar.ts.at_ 1)).2 w':=by
 have qN:∀{F':T3} {H':T0} (hF:∀φ∈F,φ∈F') (w':TG),St M w0 H' F' w'->_:=fun hF w' hS=>(hS.und (hr.mono hF)).cells;have sB:∀φ∈F,φ∈F:=fun _ h=>h;have e4:=(I4 [108,101,115,115]).1 h4
 have e1:g.t.s≠⟨#[33]⟩:=by rw[e4];decide
 have e2:g.t.s≠⟨#[116,114,117,101]⟩:=by rw[e4];decide
 have e5:g.t.s≠⟨#[101,113]⟩:=by rw[e4];decide
 have e6:g.t.s≠⟨#[97,100,100]⟩:=by rw[e4];decide
 have e3:g.t.s≠⟨#[102,97,105,108]⟩:=by rw[e4];decide
 have uC:AB F (BW g.t):=hr.imp fun w h=>h.2.1;have wC:AB F (IP r):=hr.imp fun w h=>h.2.2;have Sh:∀x∈r,AL x.t.tm:=fun x hx=>hg x (.tail _ hx);have tE:=GJ _ (hg g (.head _));obtain⟨x,y,hT⟩:=Qxq (T:=g.t.ar) oG;obtain⟨⟨_,_,_,_,_,_⟩,_,_⟩:=g;dsimp only at*;subst hT;have uD:=uC;unfold BW at uD;dsimp only at uD;obtain⟨K,oA,oc,O,hK,tF,oE,hS⟩:=hP;obtain⟨b6,_,rfl⟩:=(hS.und uD).some_ R3;have Mv:∀{H'} w',St M w0 H' F w'->_:=fun w' hS=>AV.cells (D:= .nil) (hS.und uD);have Cw:∀{H'} w',St M w0 H' F w'->_:=fun w' hS=>AV.cells (D:= .cons x.k x.n x.s x.A x.c x.ar .nil) (hS.und uD);have Vj:AB F (BW x):=uD.imp fun w h=>AV.sub (D:= .nil) h;have Vi:AB F (BW y):=uD.imp fun w h=>AV.sub (D:= .cons x.k x.n x.s x.A x.c x.ar .nil) h;have tx:AL x.tm:=tE x.tm (.inl rfl);have We:AL y.tm:=tE y.tm (.inr (.inl rfl));have sK:(TA.cons x.k x.n x.s x.A x.c x.ar (TA.cons y.k y.n y.s y.A y.c y.ar TA.nil)).len=2:=rfl
 have pV:QwV (Qn (X.map LC.cl) q f) (BG r) (QK E) p ((TA.cons x.k x.n x.s x.A x.c x.ar (TA.cons y.k y.n y.s y.A y.c y.ar TA.nil)).ts.at_ 0) ((TA.cons x.k x.n x.s x.A x.c x.ar (TA.cons y.k y.n y.s y.A y.c y.ar TA.nil)).ts.at_ 1)=if(Qc (QK E) x.tm).k≠2\/(Qc (QK E) y.tm).k≠2 then(-1,DH 5 p)else if(Qc (QK E) x.tm).n<(Qc (QK E) y.tm).n then Qn (X.map LC.cl) q f (BG r) (QK E) p else(-1,p):=rfl
 rw[pV];clear pV;have hc:=fun w' hP=>qS M w0 H F r E pb p w' hX wC Sh hE hf hB hP;have ho:=hB.o;apply Zq.gE.e.bU.Y.b7.dJ.cC.cC.cC.aW.aX.bN.bI.b7.c.bU.Y.b7.dD.v.E.1;refine Qd9 9 10 (65::66::67::68::69::70::71::72::73::74::[]) (fun y_ z_ w'=>∃(b5 b6:Nat) (u v:LT),y_= .pointer (some ⟨b5,0,none⟩)/\z_= .pointer (some ⟨b6,0,none⟩)/\u.tm=Qc (QK E) x.tm/\v.tm=Qc (QK E) y.tm/\St M w0 ((b5,.cells (AN u).toArray 63)::(b6,.cells (AN v).toArray 63)::(pb,.cells (DN pA X.length pc q p oA K.length oc).toArray 109)::(O++H)) F w') ?_ ?_
 .intro oF;apply Zq.n5.1;replace hS:=hS.drew;apply Zq.a7.a7.fH.gD.a7.a7.fH.gD.1;refine QA rfl ?_ ?_
  .apply Zq.f.e0.1;rintro _ w5 ⟨u,rfl,oR,pT,zW,oD⟩;apply Zq.a.1;replace hS:=oD;clear oD;apply Zq.aG.1;refine QA rfl ?_ ?_
   .apply Zq.f.c6.1;rintro _ w6 ⟨v,rfl,oJ,pG,qZ,oD⟩;apply Zq.a.1;replace hS:=oD;clear oD;apply Zq.aG.1;refine QA rfl ?_ ?_
    .apply Zq.R.1;clear hS;intro _ _ hS;apply Zq.aG.aM.1;clear hS;intro _ _ hS;apply Zq.a4.1;clear hS;intro _ hS;apply Zq.d.1;clear hS;intro _ hS;apply Zq.b.1
     first|exact oF _ _ _ _ ⟨_,_,u,v,rfl,rfl,oR,oJ,hS⟩ Yb Yb Yc|exact oF _ _ _ _ ⟨_,_,u,v,rfl,rfl,oR,oJ,hS.perm (List.Perm.swap _ _ _)⟩ Yb Yb Yc
    apply Zq.aM.1;clear hS;intro _ _ hS;apply Zq.aG.aM.1;clear hS;intro _ _ hS;apply Zq.a4.1;clear hS;intro _ hS;apply Zq.d.1;clear hS;intro _ hS;apply Zq.b.1
    first|exact oF _ _ _ _ ⟨_,_,u,v,rfl,rfl,oR,oJ,hS⟩ Yb Yb Yc|exact oF _ _ _ _ ⟨_,_,u,v,rfl,rfl,oR,oJ,hS.perm (List.Perm.swap _ _ _)⟩ Yb Yb Yc
   refine QA rfl ?_ ?_
   .apply Zq.R.1;clear hS;intro b5 _ hS;apply Zq.aG.1;refine QA rfl ?_ ?_
    .apply Zq.f.c6.1;rintro _ w6 ⟨v,rfl,oJ,pG,qZ,oD⟩;apply Zq.a.1;replace hS:=oD;clear oD;apply Zq.aG.aM.1;clear hS;intro b6 _ hS;apply Zq.a4.1;clear hS;intro _ hS;apply Zq.d.1;clear hS;intro _ hS;apply Zq.b.1
     first|exact oF _ _ _ _ ⟨_,_,u,v,rfl,rfl,oR,oJ,hS⟩ Yb Yb Yc|exact oF _ _ _ _ ⟨_,_,u,v,rfl,rfl,oR,oJ,hS.perm (List.Perm.swap _ _ _)⟩ Yb Yb Yc
    apply Zq.aM.1;clear hS;intro _ _ hS;apply Zq.cV.c6.1;rintro _ w6 ⟨v,rfl,oJ,pG,qZ,oD⟩;apply Zq.a.1;replace hS:=oD;clear oD;apply Zq.a4.1;clear hS;intro _ hS;apply Zq.d.1;clear hS;intro _ hS;apply Zq.b.1
    first|exact oF _ _ _ _ ⟨_,_,u,v,rfl,rfl,oR,oJ,hS⟩ Yb Yb Yc|exact oF _ _ _ _ ⟨_,_,u,v,rfl,rfl,oR,oJ,hS.perm (List.Perm.swap _ _ _)⟩ Yb Yb Yc
   apply Zq.aM.1;clear hS;intro _ _ hS;apply Zq.aG.1;refine QA rfl ?_ ?_
   .apply Zq.f.c6.1;rintro _ w6 ⟨v,rfl,oJ,pG,qZ,oD⟩;apply Zq.a.1;replace hS:=oD;clear oD;apply Zq.aG.aM.1;clear hS;intro _ _ hS;apply Zq.a4.1;clear hS;intro _ hS;apply Zq.d.1;clear hS;intro _ hS;apply Zq.b.1
    first|exact oF _ _ _ _ ⟨_,_,u,v,rfl,rfl,oR,oJ,hS⟩ Yb Yb Yc|exact oF _ _ _ _ ⟨_,_,u,v,rfl,rfl,oR,oJ,hS.perm (List.Perm.swap _ _ _)⟩ Yb Yb Yc
   apply Zq.aM.1;clear hS;intro _ _ hS;apply Zq.cV.c6.1;rintro _ w6 ⟨v,rfl,oJ,pG,qZ,oD⟩;apply Zq.a.1;replace hS:=oD;clear oD;apply Zq.a4.1;clear hS;intro _ hS;apply Zq.d.1;clear hS;intro _ hS;apply Zq.b.1
   first|exact oF _ _ _ _ ⟨_,_,u,v,rfl,rfl,oR,oJ,hS⟩ Yb Yb Yc|exact oF _ _ _ _ ⟨_,_,u,v,rfl,rfl,oR,oJ,hS.perm (List.Perm.swap _ _ _)⟩ Yb Yb Yc
  refine QA rfl ?_ ?_
  .apply Zq.R.1;clear hS;intro _ _ hS;apply Zq.aG.1;refine QA rfl ?_ ?_
   .apply Zq.f.e0.1;rintro _ w5 ⟨u,rfl,oR,pT,zW,oD⟩;apply Zq.a.1;replace hS:=oD;clear oD;apply Zq.aG.1;refine QA rfl ?_ ?_
    .apply Zq.f.c6.1;rintro _ w6 ⟨v,rfl,oJ,pG,qZ,oD⟩;apply Zq.a.1;replace hS:=oD;clear oD;apply Zq.aG.aM.1;clear hS;intro _ _ hS;apply Zq.a4.1;clear hS;intro _ hS;apply Zq.d.1;clear hS;intro _ hS;apply Zq.b.1
     first|exact oF _ _ _ _ ⟨_,_,u,v,rfl,rfl,oR,oJ,hS⟩ Yb Yb Yc|exact oF _ _ _ _ ⟨_,_,u,v,rfl,rfl,oR,oJ,hS.perm (List.Perm.swap _ _ _)⟩ Yb Yb Yc
    apply Zq.aM.1;clear hS;intro _ _ hS;apply Zq.cV.c6.1;rintro _ w6 ⟨v,rfl,oJ,pG,qZ,oD⟩;apply Zq.a.1;replace hS:=oD;clear oD;apply Zq.a4.1;clear hS;intro _ hS;apply Zq.d.1;clear hS;intro _ hS;apply Zq.b.1
    first|exact oF _ _ _ _ ⟨_,_,u,v,rfl,rfl,oR,oJ,hS⟩ Yb Yb Yc|exact oF _ _ _ _ ⟨_,_,u,v,rfl,rfl,oR,oJ,hS.perm (List.Perm.swap _ _ _)⟩ Yb Yb Yc
   apply Zq.aM.1;clear hS;intro _ _ hS;apply Zq.cV.e0.1;rintro _ w5 ⟨u,rfl,oR,pT,zW,oD⟩;apply Zq.a.1;replace hS:=oD;clear oD;apply Zq.cV.c6.1;rintro _ w6 ⟨v,rfl,oJ,pG,qZ,oD⟩;apply Zq.a.1;replace hS:=oD;clear oD;apply Zq.a4.1;clear hS;intro _ hS;apply Zq.d.1;clear hS;intro _ hS;apply Zq.b.1
   first|exact oF _ _ _ _ ⟨_,_,u,v,rfl,rfl,oR,oJ,hS⟩ Yb Yb Yc|exact oF _ _ _ _ ⟨_,_,u,v,rfl,rfl,oR,oJ,hS.perm (List.Perm.swap _ _ _)⟩ Yb Yb Yc
  apply Zq.aM.1;clear hS;intro _ _ hS;apply Zq.aG.1;refine QA rfl ?_ ?_
  .apply Zq.f.e0.1;rintro _ w5 ⟨u,rfl,oR,pT,zW,oD⟩;apply Zq.a.1;replace hS:=oD;clear oD;apply Zq.aG.1;refine QA rfl ?_ ?_
   .apply Zq.f.c6.1;rintro _ w6 ⟨v,rfl,oJ,pG,qZ,oD⟩;apply Zq.a.1;replace hS:=oD;clear oD;apply Zq.aG.aM.1;clear hS;intro _ _ hS;apply Zq.a4.1;clear hS;intro _ hS;apply Zq.d.1;clear hS;intro _ hS;apply Zq.b.1
    first|exact oF _ _ _ _ ⟨_,_,u,v,rfl,rfl,oR,oJ,hS⟩ Yb Yb Yc|exact oF _ _ _ _ ⟨_,_,u,v,rfl,rfl,oR,oJ,hS.perm (List.Perm.swap _ _ _)⟩ Yb Yb Yc
   apply Zq.aM.1;clear hS;intro _ _ hS;apply Zq.cV.c6.1;rintro _ w6 ⟨v,rfl,oJ,pG,qZ,oD⟩;apply Zq.a.1;replace hS:=oD;clear oD;apply Zq.a4.1;clear hS;intro _ hS;apply Zq.d.1;clear hS;intro _ hS;apply Zq.b.1
   first|exact oF _ _ _ _ ⟨_,_,u,v,rfl,rfl,oR,oJ,hS⟩ Yb Yb Yc|exact oF _ _ _ _ ⟨_,_,u,v,rfl,rfl,oR,oJ,hS.perm (List.Perm.swap _ _ _)⟩ Yb Yb Yc
  apply Zq.aM.1;clear hS;intro _ _ hS;apply Zq.cV.e0.1;rintro _ w5 ⟨u,rfl,oR,pT,zW,oD⟩;apply Zq.a.1;replace hS:=oD;clear oD;apply Zq.cV.c6.1;rintro _ w6 ⟨v,rfl,oJ,pG,qZ,oD⟩;apply Zq.a.1;replace hS:=oD;clear oD;apply Zq.a4.1;clear hS;intro _ hS;apply Zq.d.1;clear hS;intro _ hS;apply Zq.b.1
  first|exact oF _ _ _ _ ⟨_,_,u,v,rfl,rfl,oR,oJ,hS⟩ Yb Yb Yc|exact oF _ _ _ _ ⟨_,_,u,v,rfl,rfl,oR,oJ,hS.perm (List.Perm.swap _ _ _)⟩ Yb Yb Yc
 clear hS;rintro _ _ _ _ ⟨b5,b6,u,v,rfl,rfl,oR,oJ,hS⟩;rw[<-oR,<-oJ]
 have Vh:∀w',St M w0 ((b5,.cells (AN u).toArray 63)::(b6,.cells (AN v).toArray 63)::(pb,.cells (DN pA X.length pc q p oA K.length oc).toArray 109)::(O++H)) F w'->CW M w0 H F pb pA X.length pc q p w':=fun w' hS=>⟨K,oA,oc,O,hK,tF,oE,hS.drop.drop⟩
 by_cases ku:u.k=2
 .by_cases kv:v.k=2
  .rw[XA (by show¬(u.k≠2\/v.k≠2);omega)];by_cases pU:u.n<v.n
   .rw[XB (by exact pU)];apply Zq.dW.b7.Q.t.cO.b7.j.Q.dM.c9.cO.Y.j.b7.j.V.j.c8.U.aL.aL.aL.U.bG.N.bU.Y.b7.V.v.b0.L.b7.L.b7.I.v.i.O.cQ.b7.g.bA.1;refine XE (hc _ (Vh _ hS)) ?_;rintro _ w8 ⟨F2,rfl,pF,qL⟩;apply Zq.aJ.dP.1;exact⟨F2,rfl,pF,qL⟩
   .rw[XA (by exact pU)];apply Zq.dW.b7.Q.t.cO.b7.j.Q.dM.c9.cO.Y.j.b7.j.V.j.c8.U.aL.aL.aL.U.bG.N.bU.Y.b7.V.v.b0.L.b7.L.b7.c1.e.dP.1;exact⟨F,rfl,sB,Vh _ hS⟩
  .rw[XB (.inr (by exact kv))];apply Zq.dW.b7.Q.t.cO.b7.j.Q.q.c8.U.aL.aL.aL.aL.aL.aL.aL.U.H.aF.gZ.1;exact SY
 .rw[XB (.inl (by exact ku))];apply Zq.dW.b7.Q.bX.q.c8.U.aL.aL.aL.aL.aL.aL.aL.U.H.aF.gZ.1;exact SY
end
end Go.Proofs.YthliapbflkfdiacGreatDoor
