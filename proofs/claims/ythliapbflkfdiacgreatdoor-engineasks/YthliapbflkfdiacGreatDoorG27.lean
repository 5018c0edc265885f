/- Steps of the proof. -/
import Derived.Test.YthliapbflkfdiacGreatDoorG26
set_option linter.unusedVariables false
set_option linter.unusedSimpArgs false
set_option maxRecDepth 100000
set_option maxHeartbeats 1000000
namespace Go.Proofs.YthliapbflkfdiacGreatDoor
open Go.Proofs.Tryz
open Go.RowKit
theorem Ql9{pr:List Tg->AC->AO->Int×AO}(qS:∀g e p,(pr g e p).2.fuel<=p.fuel){g:Tg}{r:List Tg}{e:AC}{call:Nat}:∀(cls:List Cl) (p:AO),(EF pr g r e call cls p).2.fuel<=p.fuel
 |[],p=>XF _
 |c::cs,p=>by
  have h1:=qS (CF c.bd p.vars call r) (BA (c.head.shift p.vars) g.1 e).s ⟨p.fuel,p.vars+c.vars.toNat,p.calls,p.out,p.ended⟩;rw[EF];split
  .exact XF _
  split
  .split
   .exact h1
   .split
    .exact h1
    split
    .exact h1
    .exact X9 (Ql9 qS cs _) h1
  .exact Ql9 qS cs _
theorem Qq3{pr:List Tg->AC->AO->Int×AO}(qS:∀g e p,(pr g e p).2.fuel<=p.fuel){r:List Tg}{e:AC}{p:AO}{x y:Tm}:(HV pr r e p x y).2.fuel<=p.fuel:=by
 unfold HV;split
 .exact XF _
 split
 .exact qS _ _ _
 .exact XF _
theorem Qpp{pr:List Tg->AC->AO->Int×AO}(qS:∀g e p,(pr g e p).2.fuel<=p.fuel){g:Tg}{r:List Tg}{e:AC}{p:AO}:(LQ pr g r e p).2.fuel<=p.fuel:=by
 unfold LQ;split
 .split
  .exact qS _ _ _
  .exact qS _ _ _
 split
 .exact qS _ _ _
 split
 .exact XF _
 split
 .exact Qq3 qS
 split
 .exact XF _
 split
 .split
  .exact qS _ _ _
  .exact XF _
 .exact Qq3 qS
theorem Qnu{q:Nat}{e:AC}{p:AO}:(KR q e p).2.fuel<=p.fuel:=by
 unfold KR
 cases LG IY e q 0 200 with
 |none=>exact XF _
 |some x=>
  dsimp only;split<;>exact XF _
theorem Qlp{P:List Cl}{q:Nat}:∀(f:Nat) (g:List Tg) (e:AC) (p:AO),(Qn P q f g e p).2.fuel<=p.fuel
 |0,[],e,p=>Qnu
 |f+1,[],e,p=>Qnu
 |0,_::_,e,p=>XF _
 |f+1,g::r,e,p=>by
  have ih:=Qlp (P:=P) (q:=q) f;rw[Qn];split
  .exact XF _
  split
  .exact X9 (Qpp fun g e p=>ih g e p) (Nat.sub_le _ _)
  .cases P.filter (FC g.1)with
   |nil=>exact Nat.sub_le _ _
   |cons c cs=>exact X9 (Ql9 (fun g e p=>ih g e p) _ _) (Nat.sub_le _ _)
section
variable{M:T6}{w0:TG}{H:T0}{F:T3}{X:List LC}{pA:T4}{pc q C D f:Nat}
theorem Qsw(qS:PD X pA pc q C D f)(g:GN)(r:List GN)(E:List EN)(pb:Nat)(p:AO)(w:TG)(hX:AB F (E6 X pA pc))(Fy:X.length<=24)(Hn:∀x∈X,cB x.cl=true)(hC:C<=30000)(hD:D<=30000)(hr:AB F (IP (g::r)))(hg:∀x∈g::r,AL x.t.tm)(hE:DU F E)(h0:p.fuel≠0)(h1:p.fuel<=1000)(hf:p.fuel<=f+1)(hB:EO C D p)(sS:Q1 g.t.s.toList g.t.ar.len=false)(hn:0<(X.filter (E0 g.t)).length)(hP:CW M w0 H F pb pA X.length pc q p w):
  Calls prog 62 #[.pointer (some ⟨pb,0,none⟩),IV (g::r),DQ E] w fun e w'=>∃F':T3,e= .returned (.int .i64 (EF (Qn (X.map LC.cl) q f) (g.t.tm,g.o) (BG r) (QK E) (p.calls+1) ((X.filter (E0 g.t)).map LC.cl) ⟨p.fuel-1,p.vars,p.calls+1,p.out,p.ended⟩).1)/\(∀φ∈F,φ∈F')/\CW M w0 H F' pb pA X.length pc q (EF (Qn (X.map LC.cl) q f) (g.t.tm,g.o) (BG r) (QK E) (p.calls+1) ((X.filter (E0 g.t)).map LC.cl) ⟨p.fuel-1,p.vars,p.calls+1,p.out,p.ended⟩).2 w':=by
 have h0':((p.fuel:Nat):Int)≠0:=by omega
 have ho:=hB.o;have hBc:=hB.c;have hBv:=hB.v;have qN:∀{H'} w',St M w0 H' F w'->_:=fun w' hS=>(hS.und hr).cells;have uQ:((p.fuel:Nat):Int)-1=((p.fuel-1:Nat):Int):=by omega
 have Ns:AB F (BW g.t):=hr.imp fun w h=>h.2.1;have wC:AB F (IP r):=hr.imp fun w h=>h.2.2;have Ba:AL g.t.tm:=hg g (.head _);obtain⟨K,oA,oc,O,hK,tF,oE,hS⟩:=hP;apply Zq.hW.bV.e3.D.aH.Y.eG.bY.aT.Y.eG.b3.dL.1;clear hS;intro _ hS;apply Zq.b.bU.jX.F.j2.1;rintro _ _ ⟨rfl,sJ⟩;apply Zq.a.1;replace hS:=hS.grow sJ;apply Zq.b.1;rw[sS];apply Zq.bS.aW.e.bU.eG.aQ.1;rw[uQ]at hS;refine Qx 53 7 (54::55::56::9::57::58::59::60::61::62::63::64::65::66::67::68::69::70::71::72::73::74::75::76::77::78::79::80::81::82::83::[]) (fun(R:List LC) v u w'=>∃(Dd:List LC) (O2:T0),X=Dd++R/\v= .int .i64 (Dd.length:Nat)/\Row 65 6 u (Dd.filter (E0 g.t)).length (MT (Dd.filter (E0 g.t))) O2/\St M w0 ((pb,.cells (DN pA X.length pc q ⟨p.fuel-1,p.vars,p.calls,p.out,p.ended⟩ oA K.length oc).toArray 109)::(O2++(O++H))) F w') (fun R=>R.length) (X) ?_ Yb Yb ?_
 .exact⟨[],[],rfl,rfl,Row.nil_,hS⟩
 clear hS;rintro R _ _ _ _ ⟨Dd,O2,rG,rfl,oT,hS⟩ ih
 have oG:X.length=Dd.length+R.length:=by rw[rG];simp
 obtain⟨_,_,rfl⟩:=oT.form
 cases R with
 |cons x R=>
  simp only[XJ]at oG;have qV:=hX;rw[rG]at qV;obtain⟨b6,o6,rfl⟩:=(hS.und qV).some_ Yg;obtain⟨q0,q1,q2,q3,q4,q5⟩:=(hS.und qV).cells;have So:=J3 (E0 g.t) Dd;by_cases hs:x.hd.s=g.t.s
  .by_cases sD:x.hd.ar.len=g.t.ar.len
   .have pZ:(Dd++[x]).filter (E0 g.t)=Dd.filter (E0 g.t)++[x]:=by rw[WV];simp[E0,hs,sD]
    apply Zq.cB.f9.g1.eV.1;clear hS;intro b1 pP hS;apply Zq.d.1;clear hS;intro pM hS;apply Zq.a2.hU.1;replace hS:=hS.drew;apply Zq.bC.b5.eZ.cA.b5.eZ.hY.a5.gG.gJ.gS.gR.f8.f7.gG.gJ.gS.gR.g8.fQ.aD.v.u.g1.h9.1;clear hS;intro b2 sR hS;refine EQ (sz:=6) (bts:=88) hS Yb rfl rfl rfl rfl (oT) rfl rfl (.cons _ (XK [_,_] _ _)) Ya Ya rfl ?_;clear hS;intro _ O' w6 pR hS;replace hS:=hS.perm (XK O' [_,_] _);apply Zq.dN.1;refine ih (R) _ _ _ _ ?_ ?_ Yb Yb Yc
    .simp
    .exact⟨Dd++[x],O',by rw[rG];simp,by simp,by rw[pZ,QwX,XG];exact pR,hS.drop⟩
   .have aBf:((x.hd.ar.len:Nat):Int)≠((g.t.ar.len:Nat):Int):=by omega
    have pZ:(Dd++[x]).filter (E0 g.t)=Dd.filter (E0 g.t):=by rw[WV];simp[E0,sD]
    apply Zq.cB.f9.g1.eV.1;clear hS;intro b1 pP hS;apply Zq.d.1;clear hS;intro pM hS;apply Zq.a2.hU.1;replace hS:=hS.drew;apply Zq.bC.b5.eZ.cA.b5.eZ.hY.a5.gG.gJ.gS.gR.f8.f7.gG.gJ.gS.gR.g8.fQ.aD.D.aZ.1;refine ih (R) _ _ _ _ ?_ ?_ Yb Yb Yc
    .simp
    .exact YcS
  .have pZ:(Dd++[x]).filter (E0 g.t)=Dd.filter (E0 g.t):=by rw[WV];simp[E0,hs]
   apply Zq.cB.f9.g1.eV.1;clear hS;intro b1 pP hS;apply Zq.d.1;clear hS;intro pM hS;apply Zq.a2.hU.1;replace hS:=hS.drew;apply Zq.bC.b5.eZ.cA.b5.eZ.hY.a5.bJ.bJ.bJ.bJ.bJ.bJ.bJ.bJ.bJ.bJ.bJ.fQ.aD.D.aZ.1;refine ih (R) _ _ _ _ ?_ ?_ Yb Yb Yc
   .simp
   .exact YcS
 | nil =>
  have e:X=Dd:=by rw[rG];simp
  rw[<-e]at oT;clear ih;simp only[XP]at oG;have Ej:=oT.cap;have wX:=J3 (E0 g.t) X;have tC:∀x∈X.filter (E0 g.t),x∈X:=fun x hx=>(JK.1 hx).1;rw[<-e];generalize X.filter (E0 g.t)=mine at*;obtain⟨F1,Nt,hmr,hS⟩:=St.freezeC (H:=(pb,.cells (DN pA X.length pc q ⟨p.fuel-1,p.vars,p.calls,p.out,p.ended⟩ oA K.length oc).toArray 109)::(O++H)) oT (fun x hx=>hX.imp fun w h=>h.2.2 x (tC x hx)) (hS.perm (XK [_] _ _));have oY:∀{F':T3} {H':T0} (hF:∀φ∈F,φ∈F') (w':TG),St M w0 H' F' w'->_:=fun hF w' hS=>(hS.und (hr.mono hF)).cells;have Ru:((p.calls:Nat):Int)+1=((p.calls+1:Nat):Int):=by omega
  simp only[DN]at hS;apply Zq.W.m.aC.bY.aT.j8.eG.C.O.j8.J.1;clear hS;intro pP hS;apply Zq.dT.j8.eG.M.aQ.1;rw[Ru]at hS⊢
  have Hm:CW M w0 H F1 pb pA X.length pc q ⟨p.fuel-1,p.vars,p.calls+1,p.out,p.ended⟩ pP:=⟨K,oA,oc,O,hK,fun x hx=>(tF x hx).mono Nt,oE,hS⟩
  clear hS oT oE hK tF rG oG e
  have aBg:GV C D ⟨p.fuel-1,p.vars,p.calls+1,p.out,p.ended⟩:=⟨by show p.vars<=_;omega,by show p.calls+1+(p.fuel-1)<=D;omega,by show p.out.length<=13;omega,fun _=>⟨by show p.vars+8*(p.fuel-1+13)<=C+8*p.out.length;omega,by show p.out.length<12;omega⟩⟩
  have Ln:∀c∈X.map LC.cl,c.vars.toNat<=8:=fun c hc=>by
   exact Ydr
  have hef:(⟨p.fuel-1,p.vars,p.calls+1,p.out,p.ended⟩:AO).ended=false:=hB.e
  have hff:(⟨p.fuel-1,p.vars,p.calls+1,p.out,p.ended⟩:AO).fuel<=f:=by show p.fuel-1<=f;omega
  generalize(⟨p.fuel-1,p.vars,p.calls+1,p.out,p.ended⟩:AO)=p1 at*;generalize pJ:p.calls+1=call at*;refine Qp 102 (103::104::105::12::106::107::108::109::13::111::112::113::114::115::116::117::118::119::120::110::121::122::123::14::15::16::124::125::126::127::6::128::129::130::131::132::133::134::135::136::137::138::139::140::141::142::17::143::144::145::146::18::147::148::151::152::153::154::155::156::157::158::159::160::161::149::150::162::163::164::165::19::166::167::168::169::170::171::172::173::174::175::176::[]) (fun(R:List LC) v w'=>∃(Dd:List LC) (p':AO) (F':T3),mine=Dd++R/\v= .int .i64 (Dd.length:Nat)/\p'.ended=false/\p'.fuel<=f/\GV C D p'/\EF (Qn (X.map LC.cl) q f) (g.t.tm,g.o) (BG r) (QK E) call (mine.map LC.cl) p1=EF (Qn (X.map LC.cl) q f) (g.t.tm,g.o) (BG r) (QK E) call (R.map LC.cl) p'/\(∀φ∈F1,φ∈F')/\CW M w0 H F' pb pA X.length pc q p' w') (fun R=>R.length) (mine) ?_ Yb ?_
  .exact⟨[],p1,F1,rfl,rfl,hef,hff,aBg,rfl,fun _ h=>h,Hm⟩
  clear Hm;rintro R _ w6 _ ⟨Dd,p',F',rG,rfl,vK,uH,pN,rV,uE,K',Fw,Fx,O',Cd,xT,pR,hS⟩ ih;rw[rV]
  have oG:mine.length=Dd.length+R.length:=by rw[rG];simp
  have oU:∀φ∈F,φ∈F':=fun φ h=>uE φ (Nt φ h);simp only[DN]at hS
  cases R with
  |nil=>
   simp only[XP]at oG;apply Zq.W.e.e9.1;exact⟨F',rfl,oU,K',Fw,Fx,O',Cd,xT,pR,hS⟩
  |cons x R=>
   simp only[XJ]at oG;have Ek:=hmr.mono uE;rw[rG]at Ek;have hxX:x∈X:=tC x Y8;have hxB:=Hn x hxX;obtain⟨v0,v1,v2,v3,v4⟩:=UT hxB;have Js:0<=x.vars:=v0;have oJ:x.vars<=8:=v1
   have aFk:x.hd.ar.ts.nodes+1<=24:=by simp only[gB,XI,XO]at v4;exact v4.2
   have aFl:x.bd.ts.nodes<=120:=by have h1:=goals_nodes _ v3;have h2:x.bd.ts.length<=5:=v2;have h3:x.bd.ts.nodes<=24*x.bd.ts.length:=h1;omega
   have hbv:=pN.v;have Vz:=pN.o;have hbn:=pN.n vK;have tcl:AL (x.cl.head.shift p'.vars):=QrF hxB Ya;have hxh:AB F' (BW x.hd):=Ek.imp fun w h=>(h.2.2 x Yd).1;have hxb:AB F' (AV x.bA x.bc x.bd):=Ek.imp fun w h=>(h.2.2 x Yd).2;obtain⟨b6,o6,rfl⟩:=(hS.und Ek).some_ Yg;obtain⟨q0,q1,q2,q3,q4,q5⟩:=(hS.und Ek).cells
   have htm:EF (Qn (X.map LC.cl) q f) (g.t.tm,g.o) (BG r) (QK E) call ((x::R).map LC.cl) p'=if 400<(BA (x.cl.head.shift p'.vars) g.t.tm (QK E)).w then(-1,DH 4 p')
    else if(BA (x.cl.head.shift p'.vars) g.t.tm (QK E)).ok=true then
     if(Qn (X.map LC.cl) q f (CF x.bd.ts p'.vars call (BG r)) (BA (x.cl.head.shift p'.vars) g.t.tm (QK E)).s ⟨p'.fuel,p'.vars+x.vars.toNat,p'.calls,p'.out,p'.ended⟩).2.ended=true then(-1,(Qn (X.map LC.cl) q f (CF x.bd.ts p'.vars call (BG r)) (BA (x.cl.head.shift p'.vars) g.t.tm (QK E)).s ⟨p'.fuel,p'.vars+x.vars.toNat,p'.calls,p'.out,p'.ended⟩).2)
     else if(Qn (X.map LC.cl) q f (CF x.bd.ts p'.vars call (BG r)) (BA (x.cl.head.shift p'.vars) g.t.tm (QK E)).s ⟨p'.fuel,p'.vars+x.vars.toNat,p'.calls,p'.out,p'.ended⟩).1=(call:Nat)then(-1,(Qn (X.map LC.cl) q f (CF x.bd.ts p'.vars call (BG r)) (BA (x.cl.head.shift p'.vars) g.t.tm (QK E)).s ⟨p'.fuel,p'.vars+x.vars.toNat,p'.calls,p'.out,p'.ended⟩).2)
     else if 0<=(Qn (X.map LC.cl) q f (CF x.bd.ts p'.vars call (BG r)) (BA (x.cl.head.shift p'.vars) g.t.tm (QK E)).s ⟨p'.fuel,p'.vars+x.vars.toNat,p'.calls,p'.out,p'.ended⟩).1 then Qn (X.map LC.cl) q f (CF x.bd.ts p'.vars call (BG r)) (BA (x.cl.head.shift p'.vars) g.t.tm (QK E)).s ⟨p'.fuel,p'.vars+x.vars.toNat,p'.calls,p'.out,p'.ended⟩
     else EF (Qn (X.map LC.cl) q f) (g.t.tm,g.o) (BG r) (QK E) call (R.map LC.cl) (Qn (X.map LC.cl) q f (CF x.bd.ts p'.vars call (BG r)) (BA (x.cl.head.shift p'.vars) g.t.tm (QK E)).s ⟨p'.fuel,p'.vars+x.vars.toNat,p'.calls,p'.out,p'.ended⟩).2
    else EF (Qn (X.map LC.cl) q f) (g.t.tm,g.o) (BG r) (QK E) call (R.map LC.cl) p':=rfl
   rw[htm]at rV⊢
   have tZ:∀{H'} (w':TG) (u:LT) (F2:T3),(∀φ∈F',φ∈F2)->AB F2 (BW u)->u.tm=x.cl.head.shift p'.vars->St M w0 H' F2 w'->Calls prog 105 #[DQ E,tv u,tv g.t] w' fun e w2=>∃(E':List EN) (ok:Bool) (k:Int) (F3:T3),e= .returned (.tuple #[DQ E',.bool ok,.int .i64 k])/\(∀φ∈F2,φ∈F3)/\(400<(BA (x.cl.head.shift p'.vars) g.t.tm (QK E)).w->k<0)/\((BA (x.cl.head.shift p'.vars) g.t.tm (QK E)).w<=400->0<=k/\ok=(BA (x.cl.head.shift p'.vars) g.t.tm (QK E)).ok/\((BA (x.cl.head.shift p'.vars) g.t.tm (QK E)).ok=true->QK E'=(BA (x.cl.head.shift p'.vars) g.t.tm (QK E)).s/\DU F3 E'))/\St M w0 H' F3 w2:=fun w' u F2 pF hu e hS=>by
    have:=Qyy E u g.t w' ⟨hE.rd.mono fun φ h=>pF φ (oU φ h),hE.ok,hE.gd⟩ hu (Ns.mono fun φ h=>pF φ (oU φ h)) (by rw[e];exact tcl) Ba hS;rw[e]at this;exact BS
   generalize BA (x.cl.head.shift p'.vars) g.t.tm (QK E)=U at*;apply Zq.cB.f9.1
   first
    |refine Qa (Qb (k:=6) hS rfl rfl rfl Ym Yh) rfl ?_
    |refine Qa (Qb (k:=6) hS rfl rfl rfl Ym Ye) rfl ?_
    |refine Qa (QgG rfl rfl rfl Yo Yo Yo Yo Yo Yo) rfl ?_
   apply Zq.eV.1;clear hS;intro b1 pM hS;apply Zq.d.1;clear hS;intro sR hS;apply Zq.dT.bI.1
   first
    |refine Qa (Qf hS rfl rfl Ym Yh) rfl ?_
    |refine Qa (Qm rfl rfl (by first|assumption|exact(oY oU _ hS).1|exact(oY oU _ hS).2.1|exact(oY oU _ hS).2.2.1|exact(oY oU _ hS).2.2.2.1|exact(oY oU _ hS).2.2.2.2.1|exact(oY oU _ hS).2.2.2.2.2|exact(oY oU _ hS.unlearn).1|exact(oY oU _ hS.unlearn).2.1|exact(oY oU _ hS.unlearn).2.2.1|exact(oY oU _ hS.unlearn).2.2.2.1|exact(oY oU _ hS.unlearn).2.2.2.2.1|exact(oY oU _ hS.unlearn).2.2.2.2.2|exact hS.cell0 Ye|exact Qt hS|exact Qu hS)) rfl ?_
   apply Zq.c.E.1;refine QhI 14 15 16 (111::112::113::114::115::116::117::118::119::120::110::121::122::123::[]) (fun v y z w'=>∃(E':List EN) (ok:Bool) (k:Int) (F2:T3),v=DQ E'/\y= .bool ok/\z= .int .i64 k/\(∀φ∈F',φ∈F2)/\(400<U.w->k<0)/\(U.w<=400->0<=k/\ok=U.ok/\(U.ok=true->QK E'=U.s/\DU F2 E'))/\St M w0 ((b1,.cells (lcs x).toArray 65)::(pb,.cells (DN pA X.length pc q p' Fw K'.length Fx).toArray 109)::(O'++H)) F2 w') ?_ ?_
   .intro oF;refine K1 (St _ _ _ _) 17 (.read 0 (.read 1 (.read 2 (.read 3 (.read 5 (.read 6 (.read 7 (.read 8 (.pick 4 (.pick 9 (.read 10 (.read 11 (.read 12 (.read 13 (.read 14 (.read 15 (.read 16 .tail))))))) .none) .none))))))))) Yc Yc hS.drew ?_;replace hS:=hS.drew;apply Zq.a7.fB.mJ.a7.a7.kL.fB.mJ.jF.1;refine XE (Qh4 x.hd p'.vars _ hxh (by show x.hd.ar.ts.nodes<_;omega) hS) ?_;rintro _ _ ⟨u8,rfl,hu8,oD⟩;apply Zq.a.1;replace hS:=oD;clear oD;apply Zq.lG.a0.bA.1;refine XE (tZ _ u8 _ (fun φ h=> .tail _ h) AB.head hu8 hS) ?_;rintro _ w9 ⟨E9,Si,k9,F9,rfl,rI,Sj,Sk,oD⟩;apply Zq.a.1;replace hS:=oD;clear oD;apply Zq.lG.a7.dO.dO.dO.dX.dX.dX.eB.b.1;exact oF _ _ _ _ _ ⟨E9,Si,k9,F9,rfl,rfl,rfl,fun φ h=>rI φ (.tail _ h),Sj,Sk,hS⟩ Yb Yb Yb Yc
   clear hS;rintro _ _ _ _ w9 ⟨E',ok,k,F2,rfl,rfl,rfl,pF,c1,c2,hS⟩;by_cases hw:400<U.w
   .have hk:=c1 hw;rw[XB hw];apply Zq.m.I.v.aF.1;refine XE (OQ pb pA X.length pc q p' 4 _ Ya ⟨K',Fw,Fx,O',Cd,fun x hx=>(xT x hx).mono pF,pR,hS.drop⟩) ?_;rintro _ w10 ⟨rfl,qL⟩;apply Zq.aJ.e9.1;exact⟨F2,rfl,fun φ h=>pF φ (oU φ h),qL⟩
   rw[XA hw]at rV⊢;obtain⟨hk,rfl,oK⟩:=c2 Ya
   cases hoo:U.ok with
   |false=>
    rw[hoo]at rV oK;rw[XA Yf]at rV⊢;apply Zq.m.c1.m.X.v.d5.h4.1;refine(ih R _ _ _ ?_ ?_ Yb Yc).mono ?_
    .simp
    .exact⟨Dd++[x],p',F2,by rw[rG];simp,by simp,vK,uH,pN,rV,fun φ h=>pF φ (uE φ h),K',Fw,Fx,O',Cd,fun x hx=>(xT x hx).mono pF,pR,hS.drop⟩
    .rw[rV];exact fun e w h=>h
   |true=>
    rw[hoo]at rV oK;rw[XB rfl]at rV⊢;obtain⟨Ct,Fu⟩:=oK rfl;have rT:∀φ∈F,φ∈F2:=fun φ h=>pF φ (oU φ h);have aBh:=wC.mono rT;have aBi:=hxb.mono pF;have aBj:x.bd.ts.length<=5:=v2
    have aBk:x.bd.len<=5:=by have:=TA.len_ts x.bd;omega
    simp only[DN]at hS;apply Zq.m.c1.m.bF.E.fV.1;replace hS:=hS.drew;apply Zq.aU.eA.m9.kI.m9.iY.eF.eA.aD.J.1;clear hS;intro _ hS;apply Zq.dT.cQ.f5.c.b0.d4.f5.bQ.c.c7.1;have hvv:((p'.vars:Nat):Int)+x.vars=((p'.vars+x.vars.toNat:Nat):Int):=by omega
    rw[hvv]at hS;refine Qx 18 17 (147::148::151::152::153::154::155::156::157::158::159::160::161::149::150::[]) (fun(j:Nat) v u w'=>∃(D2 R2:TA) (gs:List GN) (F3:T3),x.bd=D2.app R2/\D2.len=j/\v= .int .i64 ((j:Nat)-1)/\u=IV gs/\BG gs=CF R2.ts p'.vars call (BG r)/\(∀φ∈F2,φ∈F3)/\AB F3 (IP gs)/\St M w0 ((b1,.cells (lcs x).toArray 65)::(pb,.cells (DN pA X.length pc q ⟨p'.fuel,p'.vars+x.vars.toNat,p'.calls,p'.out,p'.ended⟩ Fw K'.length Fx).toArray 109)::(O'++H)) F3 w') (fun j=>j) (x.bd.len) ?_ Yb Yb ?_
    .exact⟨x.bd,.nil,r,F2,by rw[TA.app_nil],rfl,rfl,rfl,rfl,fun _ h=>h,aBh,hS⟩
    clear hS;rintro j _ _ w10 _ ⟨D2,R2,gs,F3,yY,Sp,rfl,rfl,yG,vI,El,hS⟩ uV;have sK:x.bd.len=D2.len+R2.len:=by rw[yY,TA.len_app]
    cases j with
    |succ j=>
     obtain⟨D',k1,n1,s1,A1,Fz,a1,rfl,hD'⟩:=TA.snoc D2 j Sp
     have yZ:x.bd=D'.app (.cons k1 n1 s1 A1 Fz a1 R2):=by rw[yY,TA.app_assoc];rfl
     have Ga:=aBi.mono vI;rw[yZ]at Ga
     have pS:a1.ts.nodes<x.bd.ts.nodes:=by rw[yZ,TA.app_ts,Ts.nodes_app];simp only[TA.ts,Ts.nodes];omega
     have rQ:AB F3 (BW ⟨k1,n1,s1,A1,Fz,a1⟩):=Ga.imp fun w h=>h.sub;obtain⟨_,o7,Sq⟩:=(hS.und Ga).some_ YI;rw[Sq]at Ga;obtain⟨z0,z1,z2,z3⟩:=(hS.und Ga).cells;rw[show o7+D'.len*4=o7+(((j+1:Nat):Int)-1).toNat*4 by omega]at z0 z1 z2 z3;simp only[lcs,Sq]at hS;apply Zq.m.r.v.eR.d8.d4.f5.g.cF.1
     first
      |refine Qa (Qb (k:=4) hS rfl rfl rfl Ym Yh) rfl ?_
      |refine Qa (Qb (k:=4) hS rfl rfl rfl Ym Ye) rfl ?_
      |refine Qa (Q7 rfl rfl rfl YB YB YB YB) rfl ?_
     apply Zq.g.f.1;refine XE (Qh4 ⟨k1,n1,s1,A1,Fz,a1⟩ p'.vars _ rQ (by show a1.ts.nodes<_;omega) hS) ?_;rintro _ _ ⟨u,rfl,hu,oD⟩;apply Zq.a.1;replace hS:=oD;clear oD;apply Zq.aO.hG.d3.1;clear hS;intro b2 _ hS;apply Zq.bO.u.b3.c.1;replace hS:=hS.freeze;refine uV j _ _ _ _ ?_ ?_ Yb Yb Yc
     .omega
     .rw[<-Sq]at hS;refine⟨D',.cons k1 n1 s1 A1 Fz a1 R2,⟨u,call,_⟩::gs,_,yZ,hD',?_,rfl,?_,fun φ h=> .tail _ (.tail _ (vI φ h)),?_,hS⟩
      .exact LI
      .show(u.tm,call)::BG gs=_;rw[hu,yG];rfl
      .exact fun w hw=>⟨hw _ (.head _),hw _ (.tail _ (.head _)),El w fun φ hφ=>hw φ (.tail _ (.tail _ hφ))⟩
    |zero=>
     have vW:D2= .nil:=by cases D2 with
      |nil=>rfl
      |cons _ _ _ _ _ _ _=>simp[TA.len]at Sp
     subst vW
     have hRx:R2=x.bd:=by rw[yY];rfl
     subst hRx;clear uV;have hcall:=qS M w0 H F3 gs E' pb ⟨p'.fuel,p'.vars+x.vars.toNat,p'.calls,p'.out,p'.ended⟩;have aBo:=hX.mono (fun φ h=>vI φ (rT φ h))
     have Lo:∀y∈gs,AL y.t.tm:=by
      have:=ZI (v:=x.cl.vars) (m:=p'.vars) (o:=call) (rest:=BG r) v1 Ya Ya (fun y hy=>by
       obtain⟨z,hz,rfl⟩:=X3.1 hy
       exact hg z (.tail _ hz)) x.bd.ts v3
      exact YcE
     have Sr:EO C D ⟨p'.fuel,p'.vars+x.vars.toNat,p'.calls,p'.out,p'.ended⟩:=⟨by show p'.vars+x.vars.toNat+8*(p'.fuel+12)<=C+8*p'.out.length;omega,pN.c,hbn.2,vK⟩
     have hEO:DU F3 E':=⟨Fu.rd.mono vI,Fu.ok,Fu.gd⟩
     have xU:=Qmj (q:=q) (C:=C) (D:=D) Ln f (BG gs) (QK E') _ Sr;have Lp:=Qlp (P:=X.map LC.cl) (q:=q) f (BG gs) (QK E') ⟨p'.fuel,p'.vars+x.vars.toNat,p'.calls,p'.out,p'.ended⟩;rw[yG,Ct]at hcall xU Lp;generalize Qn (X.map LC.cl) q f (CF x.bd.ts p'.vars call (BG r)) U.s ⟨p'.fuel,p'.vars+x.vars.toNat,p'.calls,p'.out,p'.ended⟩=Q at*;obtain⟨kq,pq⟩:=Q;dsimp only at hcall xU Lp rV⊢;apply Zq.m.r.bE.i.g.bA.1;refine XE (hcall _ aBo El Lo hEO uH Sr ⟨K',Fw,Fx,O',Cd,fun x hx=>(xT x hx).mono (fun φ h=>vI φ (pF φ h)),pR,hS.drop⟩) ?_;rintro _ _ ⟨F4,rfl,Cu,hP4⟩;apply Zq.a.1;clear hS;have Bn:∀φ∈F,φ∈F4:=fun φ h=>Cu φ (vI φ (rT φ h));obtain⟨K4,Bo,Bp,O4,Lq,zB,rB,hS⟩:=hP4
     cases he4:pq.ended with
     |true=>
      rw[XB he4]at rV;rw[XB rfl];simp only[DN,he4]at hS;apply Zq.c.aH.cQ.f5.cI.e9.1;exact YbI
     |false=>
      have aBq:¬pq.ended=true:=by rw[he4];decide
      rw[XA aBq]at rV;rw[XA Yf];by_cases hkc:kq=(call:Nat)
      .rw[XB hkc]at rV⊢;simp only[DN,he4]at hS;apply Zq.c.aH.cQ.f5.D.aA.l.cI.e9.1;exact YbI
      rw[XA hkc]at rV⊢;by_cases rU:0<=kq
      .rw[XB rU]at rV⊢;simp only[DN,he4]at hS;apply Zq.c.aH.cQ.f5.D.aA.bY.h.r.v.aB.e9.1;exact YbI
      .rw[XA rU]at rV⊢;simp only[DN,he4]at hS;apply Zq.c.aH.cQ.f5.D.aA.bY.h.r.D.aZ.1;refine(ih R _ _ _ ?_ ?_ Yb Yc).mono ?_
       .simp
       .exact⟨Dd++[x],pq,F4,by rw[rG];simp,by simp,he4,X9 Lp uH,xU,rV,fun φ h=>Cu φ (vI φ (pF φ (uE φ h))),K4,Bo,Bp,O4,Lq,zB,rB,by simp only[DN,he4];exact hS⟩
       .rw[rV];exact fun e w h=>h
theorem Qlo(Fy:X.length<=24)(Hn:∀x∈X,cB x.cl=true)(hC:C<=30000)(hD:D<=30000)(hq:q<=8):∀f,f<=1000->PD X pA pc q C D f
 |0,_=>by
  intro M w0 H F gs E pb p w hX hr hg hE hf hB hP
  cases gs with
  |nil=>exact(QnR E pb p w hq hE hB hP)
  |cons g r=>
   refine(QnQ g r E pb p w hB Ya hP).mono ?_;exact YbA
 | f + 1, Wf => by
  have qS:=Qlo Fy Hn hC hD hq f Ya;intro M w0 H F gs E pb p w hX hr hg hE hf hB hP
  cases gs with
  |nil=>exact(QnR E pb p w hq hE hB hP)
  |cons g r=>
   have hpm:Qn (X.map LC.cl) q (f+1) (BG (g::r)) (QK E) p=if p.fuel=0 then(-1,DH 3 p)
     else if Q1 g.t.s.toList g.t.ar.len=true then LQ (Qn (X.map LC.cl) q f) (g.t.tm,g.o) (BG r) (QK E) ⟨p.fuel-1,p.vars,p.calls,p.out,p.ended⟩
     else match(X.filter (E0 g.t)).map LC.cl with
      |[]=>(-1,DH 5 ⟨p.fuel-1,p.vars,p.calls,p.out,p.ended⟩)
      |c::cs=>EF (Qn (X.map LC.cl) q f) (g.t.tm,g.o) (BG r) (QK E) (p.calls+1) (c::cs) ⟨p.fuel-1,p.vars,p.calls+1,p.out,p.ended⟩:=by
    rw[QyM,<-TA.len_ts];show Qn (X.map LC.cl) q (f+1) ((g.t.tm,g.o)::BG r) (QK E) p=_;rw[Qn];congr 1
   rw[hpm];by_cases h0:p.fuel=0
   .rw[XB h0];refine(QnQ g r E pb p w hB h0 hP).mono ?_;exact YbA
   rw[XA h0]
   cases sS:Q1 g.t.s.toList g.t.ar.len with
   |true=>
    rw[XB rfl];exact QpD qS g r E pb p w hX hr hg hE h0 Ya hf hB sS hP
   |false=>
    rw[XA Yf]
    cases Ss:X.filter (E0 g.t)with
    |nil=>
     refine(Qsx g r E pb p w hX Fy hr h0 Ya hB sS Ss hP).mono ?_;exact YbA
    |cons y z=>
     have:=Qsw qS g r E pb p w hX Fy Hn hC hD hr hg hE h0 Ya hf hB sS (by rw[Ss];simp) hP;rw[Ss]at this;exact BS
end
def Ts.wide:Ts->Prop
 | .nil=>True
 | .cons _ _ _ ar r=>ar.length<=9223372036854775807/\ar.wide/\r.wide
theorem Ts.wide_app(D R:Ts):(D.app R).wide↔D.wide/\R.wide:=by
 induction D with
 |nil=>simp[Ts.app,Ts.wide]
 |cons k n s ar r _ ih=>simp only[Ts.app,Ts.wide,ih];constructor<;>(rintro⟨h1,h2⟩;simp_all)
theorem Ts.wide_of(T:Ts):T.nodes<=9223372036854775807->T.wide:=by
 induction T with
 |nil=>intro _;trivial
 |cons k n s ar r rO qO=>
  intro h;simp only[Ts.nodes]at h;have:=ar.length_le;exact⟨by omega,rO Ya,qO Ya⟩
def Qv9(L:List Cl):Prop:=∀c∈L,c.hd.length<=9223372036854775807/\c.hd.wide/\c.bd.length<=9223372036854775807/\c.bd.wide
def QfH (T : Ts) : Prop := ∀ (k n : Int) (s : TJ) (v : TH) (L lb vb B : Nat) (w : TG), Sl w (fun k => k < B) v T -> B <= lb -> VS lb vb L w -> L <= 24 -> T.length <= 9223372036854775807 -> T.wide ->
    Calls prog 132 #[.agg #[.int .i64 k,.int .i64 n,.string s,v],.pointer (some ⟨lb,0,none⟩),.pointer (some ⟨vb,0,none⟩)] w fun e w'=>
     e= .returned (.bool (decide (T.nodes+1<=L)))/\(T.nodes+1<=L->VS lb vb (L-(T.nodes+1)) w')/\AM (fun k=>k=lb) w w'
def QvZ(w:TG)(T:Ts)(L lb vb:Nat)(g:Nat)(sx:TH)(wr:TG):Prop:=∃D R:Ts,T=D.app R/\g=R.length/\sx= .int .i64 D.length/\D.nodes+1<=L/\VS lb vb (L-(D.nodes+1)) wr/\AM (fun k=>k=lb) w wr
theorem Qtn(m:Nat)(ih:∀T:Ts,T.nodes<m->QfH T)(T:Ts)(hm:T.nodes<=m):QfH T:=by
 intro k n s _ L lb vb B w hv Xv vC hL _ Gb;obtain⟨A,c,rfl,hs⟩:=hv.form;have oW:=T.length_le;have hW:Below w.heap.size w (w.alloc (.cells #[.int .i64 k,.int .i64 n,.string s,.slice A T.length c] 63)):=(XR _ _).alloc (XF _) _;have yP:=vC.far hW;have qG:=hs.below hW;have bA:=QR.new w 63 #[.int .i64 k,.int .i64 n,.string s,.slice A T.length c];have l0:=yP.left.cell 0;have lf:=yP.left.frozen 0;simp at l0;have pU:=vC.left.lt;by_cases Xw:L=0
 .exact YbU
 have yB:0<L:=by omega
 obtain⟨p0,p1,p2,p3,_⟩:=bA.four;have oN:w.heap.size≠lb:=by omega
 go_enter func132,ntmps132;go_wp2_with fail
 have uO:VS lb vb (L-1) ((w.setCell ⟨lb,0,none⟩ (.int .i64 ((L:Int)-1))).alloc (.cells #[.int .i64 k,.int .i64 n,.string s,.slice A T.length c] 63)):=by
  refine⟨?_,?_,vC.ne⟩
  .exact Ybo
  .exact YdO
 have uN:AM (fun k=>k=lb) w ((w.setCell ⟨lb,0,none⟩ (.int .i64 ((L:Int)-1))).alloc (.cells #[.int .i64 k,.int .i64 n,.string s,.slice A T.length c] 63)):=
  ((AM.refl (fun k=>k=lb) w).setCell (p:=⟨lb,0,none⟩) (fun _=>rfl) _).alloc _
 have hcall:∀(args:T9) (x:TG),(callFunc 132 args).run prog x= .ok (.enter 132 args) x:=fun args x=>by simp[go_sem]
 generalize((w.setCell ⟨lb,0,none⟩ (.int .i64 ((L:Int)-1))).alloc (.cells #[.int .i64 k,.int .i64 n,.string s,.slice A T.length c] 63))=W at*
 have h0:QvZ w T L lb vb T.length (.int .i64 0) W:=⟨.nil,T,rfl,rfl,rfl,yB,uO,uN⟩
 clear uO uN yP bA p0 p1 p2 p3 oN l0 lf qG hW;go_loopg [14] T.length (QvZ w T L lb vb)
 case atStart=>exact h0
 case round=>
  clear h0;obtain⟨D,R,hT,hg,rfl,hD,Pc,hc⟩:=hrel;have HT:=XH hT;have HG:=XH hg;clear hT hg;have qK:Sl wr (fun k=>k<B) (.slice A T.length c) T:=hs.chg hc fun k hk=>by omega
  cases R with
  |nil=>
   have eD:D=T:=by rw[HT.out,Ts.app_nil]
   exact YcP
  |cons k1 n1 s1 ar r=>
   have e1:D.length<T.length:=by rw[HT.out,Ts.length_app];simp[Ts.length]
   have pS:T.nodes=D.nodes+(1+ar.nodes+r.nodes):=by rw[HT.out,Ts.nodes_app];exact KD
   have uF:ar.length<=9223372036854775807/\ar.wide/\r.wide:=by rw[HT.out,Ts.wide_app]at Gb;exact Gb.2
   rw[HT.out]at qK;rw[show(D.app (.cons k1 n1 s1 ar r)).length=T.length by rw[<-HT.out]]at qK;obtain⟨_,_,rfl,rE⟩:=Sl.at_ qK YS;obtain⟨_,_,_,_,⟨_,_,oJ⟩,_⟩:=Q6.1 rE;obtain⟨A1,d1,rfl,oJ⟩:=oJ.form;clear rE qK;have hX:Below wr.heap.size wr (wr.alloc (.cells #[.int .i64 k1,.int .i64 n1,.string s1,.slice A1 ar.length d1] 63)):=(XR _ _).alloc (XF _) _;have Pd:=Pc.far hX;have f0:=Pd.fn.cell 0;simp at f0;go_wp2_with fail;have e2:ar.nodes<m:=by omega
   refine(ih ar e2 k1 n1 s1 _ (L-(D.nodes+1)) lb vb B _ (oJ.below hX) Xv Pd Ya uF.1 uF.2.1).mono ?_;rintro _ w2 ⟨rfl,oK,sX⟩;have Cf:AM (fun k=>k=lb) w w2:=(hc.trans (AM.of_fresh (S:=fun k=>k=lb) hX) fun _ _ h=>h).trans sX fun _ _ h=>h;by_cases hx:ar.nodes+1<=L-(D.nodes+1)
   .have oK:=oK hx;rw[X1 hx]
    have Cg:Hid (VS lb vb (L-((D.app (.cons k1 n1 s1 ar .nil)).nodes+1)) w2):=XH (by
     rw[Ts.nodes_app];simp only[Ts.nodes];rw[show L-(D.nodes+(ar.nodes+0+1)+1)=L-(D.nodes+1)-(ar.nodes+1) by omega]
     exact oK)
    clear oK;go_wp2_with fail;go_roundg r.length
    case measure=>rw[HG.out];simp[Ts.length]
    case rel=>
     refine⟨D.app (.cons k1 n1 s1 ar .nil),r,?_,rfl,?_,?_,Cg.out,Cf⟩
     .exact LD
     .exact KS
     .rw[Ts.nodes_app];exact KD
   .exact YbG
theorem Qpe(T:Ts):QfH T:=by
 have:∀m,∀T:Ts,T.nodes<m->QfH T:=by
  intro m
  induction m with
  |zero=>intro T h;omega
  |succ m ih=>intro T h;exact Qtn m ih T Ya
 exact Yec
theorem Qve(k n:Int)(s:TJ)(T:Ts)(v:TH)(w:TG)(hv:Sl w (fun _=>True) v T)(hn:T.length<=9223372036854775807)(Gb:T.wide):
  Calls prog 85 #[.agg #[.int .i64 k,.int .i64 n,.string s,v],.int .i64 24] w fun e w'=>e= .returned (.bool (decide (T.nodes+1<=24)))/\Below w.heap.size w w':=by
 obtain⟨A,c,rfl,hs⟩:=hv.form;have hs:=hs.imp (q:=fun k=>k<w.heap.size) fun k _ h=>h;have hW:Below w.heap.size w (((w.alloc (.cells #[.int .i64 k,.int .i64 n,.string s,.slice A T.length c] 63)).alloc (.cells #[.int .i64 24] 3)).alloc (.cells #[.func (.func 132) #[] #[.pointer (some ⟨w.heap.size+1,0,none⟩),.pointer (some ⟨w.heap.size+1+1,0,none⟩)]] 130)):=(((XR _ _).alloc (XF _) _).alloc Yd _).alloc Yg _
 have oM:(store ⟨w.heap.size+1+1,0,none⟩ (.func (.func 132) #[] #[.pointer (some ⟨w.heap.size+1,0,none⟩),.pointer (some ⟨w.heap.size+1+1,0,none⟩)])).run prog (((w.alloc (.cells #[.int .i64 k,.int .i64 n,.string s,.slice A T.length c] 63)).alloc (.cells #[.int .i64 24] 3)).alloc (.cells #[.nilFunc] 130))=
   .ok () (((w.alloc (.cells #[.int .i64 k,.int .i64 n,.string s,.slice A T.length c] 63)).alloc (.cells #[.int .i64 24] 3)).alloc (.cells #[.func (.func 132) #[] #[.pointer (some ⟨w.heap.size+1,0,none⟩),.pointer (some ⟨w.heap.size+1+1,0,none⟩)]] 130)):=by
  have hb:=QR.new ((w.alloc (.cells #[.int .i64 k,.int .i64 n,.string s,.slice A T.length c] 63)).alloc (.cells #[.int .i64 24] 3)) 130 #[.nilFunc];have e:=Qf7 ((w.alloc (.cells #[.int .i64 k,.int .i64 n,.string s,.slice A T.length c] 63)).alloc (.cells #[.int .i64 24] 3)) .nilFunc (.func (.func 132) #[] #[.pointer (some ⟨w.heap.size+1,0,none⟩),.pointer (some ⟨w.heap.size+1+1,0,none⟩)]) 130;have h:=QdK (P:=prog) (f:= .func 132) (x:= #[]) (y:= #[.pointer (some ⟨w.heap.size+1,0,none⟩),.pointer (some ⟨w.heap.size+1+1,0,none⟩)]) (hb.cell 0) (hb.frozen 0);rw[e]at h;simpa using h
 have vC:VS (w.heap.size+1) (w.heap.size+1+1) 24 (((w.alloc (.cells #[.int .i64 k,.int .i64 n,.string s,.slice A T.length c] 63)).alloc (.cells #[.int .i64 24] 3)).alloc (.cells #[.func (.func 132) #[] #[.pointer (some ⟨w.heap.size+1,0,none⟩),.pointer (some ⟨w.heap.size+1+1,0,none⟩)]] 130)):=by
  refine⟨?_,?_,by omega⟩
  .have:=(QR.new (w.alloc (.cells #[.int .i64 k,.int .i64 n,.string s,.slice A T.length c] 63)) 3 #[.int .i64 24]).alloc (.cells #[.func (.func 132) #[] #[.pointer (some ⟨w.heap.size+1,0,none⟩),.pointer (some ⟨w.heap.size+1+1,0,none⟩)]] 130);simpa using this
  .have:=QR.new ((w.alloc (.cells #[.int .i64 k,.int .i64 n,.string s,.slice A T.length c] 63)).alloc (.cells #[.int .i64 24] 3)) 130 #[.func (.func 132) #[] #[.pointer (some ⟨w.heap.size+1,0,none⟩),.pointer (some ⟨w.heap.size+1+1,0,none⟩)]];simpa using this
 have hcall:∀(args:T9) (x:TG),(callFunc 132 args).run prog x= .ok (.enter 132 args) x:=fun args x=>by simp[go_sem]
 go_enter func85,ntmps85;go_wp2_with fail;refine(Qpe T k n s _ 24 (w.heap.size+1) (w.heap.size+1+1) w.heap.size _ (hs.below hW) Ya vC (XF _) hn Gb).mono ?_;exact Ya6
theorem QgV(vars k n:Int)(s:TJ)(T:Ts)(v:TH)(w:TG)(hv:Sl w (fun _=>True) v T)(hn:T.length<=9223372036854775807)(Gb:T.wide):
  Calls prog 50 #[.agg #[.int .i64 k,.int .i64 n,.string s,v],.int .i64 vars] w fun e w'=>e= .returned (.bool (gB vars k n s T))/\Below w.heap.size w w':=by
 obtain⟨A,c,rfl,hs⟩:=hv.form;generalize hr:gB vars k n s T=rb;have R:=XH hr;clear hr;go_enter func50,ntmps50;go_wp2_with fail;have rS:Below w.heap.size w (w.alloc (.cells #[.int .i64 k,.int .i64 n,.string s,.slice A T.length c] 63)):=(XR _ _).alloc (XF _) _;have bA:=QR.new w 63 #[.int .i64 k,.int .i64 n,.string s,.slice A T.length c];generalize(w.alloc (.cells #[.int .i64 k,.int .i64 n,.string s,.slice A T.length c] 63))=W0 at*;have xK:=hs.below rS;refine(QmM k n s _ W0).mono ?_;rintro e _ ⟨rfl,qJ⟩;have uP:=rS.trans (qJ.mono rS.size);have tG:=bA.below qJ;have qG:=xK.below qJ
 cases hg:G6 k with
 |false=>
  exact Ydm
 |true=>
  have Kb:=XH hg;clear hg;obtain⟨p0,p1,p2,p3,_⟩:=tG.four;go_wp2_with fail;refine(Qve k n s T _ _ qG hn Gb).mono ?_;rintro e _ ⟨rfl,pH⟩;have yK:=uP.trans (pH.mono uP.size);have wR:=tG.below pH;have rN:=qG.below pH;clear p0 p1 p2 p3;generalize hf:decide (T.nodes+1<=24)=fb;have HF:=XH hf;clear hf;obtain⟨p0,p1,p2,p3,_⟩:=wR.four
  cases fb with
  |false=>
   exact YcV
  |true=>
   go_wp2_with fail;refine(Qif k n vars s T _ _ rN (by have:=WM HF.out;omega)).mono ?_;exact Ybj
theorem UN(vars:Int)(T:Ts)(v:TH)(w:TG)(hv:Sl w (fun _=>True) v T)(hn:T.length<=9223372036854775807)(Gb:T.wide):
  Calls prog 29 #[v,.int .i64 vars] w fun e w'=>e= .returned (.bool (qB vars T))/\Below w.heap.size w w':=by
 obtain⟨A,c,rfl,hs⟩:=hv.form;have oW:=T.length_le;generalize hr:qB vars T=rb;have R:=XH hr;clear hr;by_cases h1:vars<0
 .exact Yz
 by_cases h2:8<vars
 .exact Yz
 by_cases h3:5<T.length
 .exact Yz
 have hq:Hid (rb=T.goals vars):=XH YP;have Vq:T.length<=5:=by omega
 have h0:QrY w T vars T.length (.int .i64 0) w:=⟨.nil,T,rfl,rfl,rfl,rfl,XR _ _⟩
 go_enter func29,ntmps29;go_wp2_with fail;go_loopg [20] T.length (QrY w T vars)
 case atStart=>exact h0
 case round=>
  clear h0;obtain⟨D,R',hT,hg,rfl,hD,hb⟩:=hrel;have HT:=XH hT;have HG:=XH hg;have HD:=XH hD;clear hT hg hD;have qK:=hs.below hb
  cases R' with
  |nil=>
   have eD:D=T:=by rw[HT.out,Ts.app_nil]
   exact ZN
  |cons k1 n1 s1 ar r=>
   have e1:D.length<T.length:=by rw[HT.out,Ts.length_app];simp[Ts.length]
   have uF:ar.length<=9223372036854775807/\ar.wide/\r.wide:=by have:=Gb;rw[HT.out,Ts.wide_app]at this;exact this.2
   rw[HT.out]at qK;rw[show(D.app (.cons k1 n1 s1 ar r)).length=T.length by rw[<-HT.out]]at qK;obtain⟨_,_,rfl,rE⟩:=Sl.at_ qK YS;obtain⟨_,_,_,_,⟨_,_,oJ⟩,_⟩:=Q6.1 rE;obtain⟨A1,d1,rfl,oJ⟩:=oJ.form;clear rE qK;have hX:Below wr.heap.size wr (wr.alloc (.cells #[.int .i64 k1,.int .i64 n1,.string s1,.slice A1 ar.length d1] 63)):=(XR _ _).alloc (XF _) _;have qV:=hb.trans (hX.mono hb.size);go_wp2_with fail;refine(QgV vars k1 n1 s1 ar _ _ (oJ.below hX) uF.1 uF.2.1).mono ?_;rintro e _ ⟨rfl,pH⟩;have oZ:=qV.trans (pH.mono qV.size);generalize sG:gB vars k1 n1 s1 ar=gb;have sU:=XH sG;clear sG
   cases gb with
   |false=>
    exact Yca
   |true=>
    go_wp2_with fail;go_roundg r.length
    case measure=>rw[HG.out];simp[Ts.length]
    case rel=>
     refine⟨D.app (.cons k1 n1 s1 ar .nil),r,?_,rfl,?_,?_,oZ⟩
     .exact LD
     .exact KS
     .exact Yej
theorem Qfh(c:Cl)(u v:TH)(w:TG)(hu:Sl w (fun _=>True) u c.hd)(hv:Sl w (fun _=>True) v c.bd)(h1:c.hd.length<=9223372036854775807)(Su:c.hd.wide)(h2:c.bd.length<=9223372036854775807)(h2w:c.bd.wide):
  Calls prog 49 #[.agg #[.int .i64 c.k,.int .i64 c.n,.string c.s,u,v,.int .i64 c.vars]] w fun e w'=>e= .returned (.bool (cB c))/\Below w.heap.size w w':=by
 obtain⟨A,d,rfl,hu⟩:=hu.form;obtain⟨A',d',rfl,hv⟩:=hv.form;generalize hr:cB c=rb;have R:=XH hr;clear hr;go_enter func49,ntmps49;go_wp2_with fail;have rS:Below w.heap.size w (w.alloc (.cells #[.int .i64 c.k,.int .i64 c.n,.string c.s,.slice A c.hd.length d,.slice A' c.bd.length d',.int .i64 c.vars] 65)):=(XR _ _).alloc (XF _) _;have bA:=QR.new w 65 #[.int .i64 c.k,.int .i64 c.n,.string c.s,.slice A c.hd.length d,.slice A' c.bd.length d',.int .i64 c.vars];generalize(w.alloc (.cells #[.int .i64 c.k,.int .i64 c.n,.string c.s,.slice A c.hd.length d,.slice A' c.bd.length d',.int .i64 c.vars] 65))=W0 at*;have Pe:=hu.below rS;refine(UN c.vars c.bd _ W0 (hv.below rS) h2 h2w).mono ?_;rintro e _ ⟨rfl,qJ⟩;have uP:=rS.trans (qJ.mono rS.size);have tG:=bA.below qJ;have oR:=Pe.below qJ;generalize hq:qB c.vars c.bd=qb;have HQ:=XH hq;clear hq
 cases qb with
 |false=>
  exact YbQ
 |true=>
  have p0:=tG.cell 0;have p1:=tG.cell 1;have p2:=tG.cell 2;have p3:=tG.cell 3;have p5:=tG.cell 5;simp at p0 p1 p2 p3 p5;go_wp2_with fail;refine(QgV c.vars c.k c.n c.s c.hd _ _ oR h1 Su).mono ?_;rintro e _ ⟨rfl,pH⟩;have yK:=uP.trans (pH.mono uP.size);have wR:=tG.below pH;clear p0 p1 p2 p3 p5;generalize hg:gB c.vars c.k c.n c.s c.hd=gb;have sU:=XH hg;clear hg
  cases gb with
  |false=>
   exact YbM
  |true=>
   exact Yag
theorem QbK(L:List Cl)(v:TH)(w:TG)(hv:EM w (fun _=>True) v L)(hn:L.length<=9223372036854775807)(Gb:Qv9 L):
  Calls prog 28 #[v] w fun e w'=>e= .returned (.bool (pB L))/\Below w.heap.size w w':=by
 obtain⟨A,d,rfl,hs⟩:=hv.form;generalize hr:pB L=rb;have R:=XH hr;clear hr;by_cases h3:24<L.length
 .exact Ybx
 have hq:Hid (rb=L.all cB):=XH (by rw[<-R.out,pB,X1 Ya,JH])
 have h0:QrZ w L L.length (.int .i64 0) w:=⟨[],L,rfl,rfl,rfl,rfl,XR _ _⟩
 go_enter func28,ntmps28;go_wp2_with fail;go_loopg [10] L.length (QrZ w L)
 case atStart=>exact h0
 case round=>
  clear h0;obtain⟨D,R',hT,hg,rfl,hD,hb⟩:=hrel;have HT:=XH hT;have HG:=XH hg;have HD:=XH hD;clear hT hg hD;have qK:=hs.below hb
  cases R' with
  |nil=>
   have eD:D=L:=by rw[HT.out,VF]
   exact ZN
  |cons c r=>
   have e1:D.length<L.length:=by rw[HT.out,XG];simp
   have Wg:=Gb c (by rw[HT.out];simp);rw[HT.out]at qK;rw[show(D++c::r).length=L.length by rw[<-HT.out]]at qK;obtain⟨_,_,rfl,_,_,_,_,⟨_,_,oJ⟩,⟨_,_,pG⟩,_,_⟩:=EM.at_ qK Yd;obtain⟨A1,d1,rfl,oJ⟩:=oJ.form;obtain⟨A2,d2,rfl,pG⟩:=pG.form;clear qK;have hX:Below wr.heap.size wr (wr.alloc (.cells #[.int .i64 c.k,.int .i64 c.n,.string c.s,.slice A1 c.hd.length d1,.slice A2 c.bd.length d2,.int .i64 c.vars] 65)):=(XR _ _).alloc (XF _) _;have qV:=hb.trans (hX.mono hb.size);go_wp2_with fail;refine(Qfh c _ _ _ (oJ.below hX) (pG.below hX) Wg.1 Wg.2.1 Wg.2.2.1 Wg.2.2.2).mono ?_;rintro e _ ⟨rfl,pH⟩;have oZ:=qV.trans (pH.mono qV.size);generalize sG:cB c=gb;have sU:=XH sG;clear sG
   cases gb with
   |false=>
    exact Ycq
   |true=>
    go_wp2_with fail;go_roundg r.length
    case measure=>rw[HG.out];simp
    case rel=>
     refine⟨D++[c],r,?_,rfl,?_,?_,oZ⟩
     .rw[HT.out,VB];rfl
     .rw[XG];rfl
     .rw[JQ,HD.out,Xae,sU.out];rfl
end Go.Proofs.YthliapbflkfdiacGreatDoor
