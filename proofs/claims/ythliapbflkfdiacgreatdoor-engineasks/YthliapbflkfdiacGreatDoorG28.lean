/- Steps of the proof. -/
import Derived.Test.YthliapbflkfdiacGreatDoorG27
set_option linter.unusedVariables false
set_option linter.unusedSimpArgs false
set_option maxRecDepth 100000
set_option maxHeartbeats 1000000
namespace Go.Proofs.YthliapbflkfdiacGreatDoor
open Go.Proofs.Tryz
open Go.RowKit
theorem ND.segC{w:TG}{b:Nat}:∀{L:List LC} {o:Nat},ND w b L o->(∀x∈L,QzF x w)->KO w (fun _=>True) (L.map LC.cl) b o
 |[],_,_,_=>trivial
 |c::r,o,⟨h0,h1,h2,h3,h4,h5,h6⟩,hr=>⟨trivial,h0,h1,h2,⟨_,h3,(hr c (.head _)).1.sl⟩,⟨_,h4,(hr c (.head _)).2.sl⟩,h5,h6.segC fun x hx=>hr x (.tail _ hx)⟩
theorem E6.slC{L:List LC}{A:T4}{c:Nat}{w:TG}(h:E6 L A c w):EM w (fun _=>True) (.slice A L.length c) (L.map LC.cl):=by
 refine⟨A,c,by simp,by simpa using h.1,fun hl=> ?_⟩;obtain⟨b,o,e,hs⟩:=h.2.1 U5;exact⟨b,o,e,hs.segC h.2.2⟩
section
variable{M:T6}{w0:TG}{H:T0}{F:T3}
end
def OE.ke(x:OE):KE:=⟨x.k,x.A,x.c,x.T⟩
theorem QxB:∀L:List OE,HW L=KM (L.map OE.ke)
 |[]=>rfl
 |x::r=>by simp only[HW,VE,KM,QxB r];rfl
theorem Qf6{v:Int}(hv:v<=8):∀T:Ts,T.good v=true->T.shift 0=T
 | .nil,_=>rfl
 | .cons k n s ar r,h=>by
  simp only[Ts.good,XI]at h;rw[Ts.shift_cons,Qf6 hv ar h.1.2,Qf6 hv r h.2]
  have:FN k n 0=n:=by
   unfold FN;split
   .rename_i hk;have hn:=h.1.1;unfold CL at hn;rw[XB hk]at hn;simp only[XI,XO]at hn;rw[N6 hn.1.1.1 Ya,N6 (n:=0) Ya Ya];omega
   .rfl
  rw[this]
theorem Qsf{v:Int}(hv:v<=8){k n:Int}{s:TJ}{T:Ts}(h:(Ts.cons k n s T .nil).good v=true):Tm.shift ⟨k,n,s,T⟩ 0=⟨k,n,s,T⟩:=by
 have:=Qf6 hv _ h;rw[Ts.shift_cons]at this;injection this with h1 h2 h3 h4;unfold Tm.shift;dsimp only;rw[h2,h4]
section
variable{M:T6}{w0:TG}{H:T0}{F:T3}
theorem Qr9(X:List LC)(pA:T4)(pc:Nat)(T:TA)(qA:T4)(qc:Nat)(vars fuel:Int)(w:TG)(hX:AB F (E6 X pA pc))(hT:AB F (AV qA qc T))(hn:KF (X.map LC.cl)<=1048576)(Cj:T.ts.nodes<=1048576)(hS:St M w0 H F w):
  Calls prog 34 #[.slice pA X.length pc,.slice qA T.len qc,.int .i64 vars,.int .i64 fuel] w fun e w'=>∃(A:T4) (c:Nat) (L:List KE) (F':T3),e= .returned (.tuple #[.slice A L.length c,.int .i64 (Qjj (X.map LC.cl) T.ts vars fuel).2])/\L.map KE.ev=(Qjj (X.map LC.cl) T.ts vars fuel).1/\(∀φ∈F,φ∈F')/\AB F' (K8 L A c)/\St M w0 H F' w':=by
 have oV:∀w:TG,K8 [] none 0 w:=fun w=>⟨XF _,fun h=>by simp at h,fun x hx=>by cases hx⟩
 have Aq:=fun(w':TG) (hS:St M w0 H F w')=>QmE (X.map LC.cl) (.slice pA X.length pc) w' (hS.und hX).slC hn;have Fp:=fun(w':TG) (hS:St M w0 H F w')=>Qgh vars T.ts (.slice qA T.len qc) w' (hS.und hT).sl Cj;unfold Qjj;refine TM func34 rfl ntmps34 rfl ?_;apply Zq.aY.m.F.1;refine XE (Aq _ hS) ?_;rintro _ _ ⟨rfl,oZ⟩;apply Zq.a.1;replace hS:=hS.grow oZ
 cases Ad:pB (X.map LC.cl)with
 |false=>
  rw[XB (.inl rfl)];apply Zq.X.bB.H.aY.gX.1;exact YL
 |true=>
 apply Zq.X.n.t.f.1;refine XE (Fp _ hS) ?_;rintro _ _ ⟨rfl,sJ⟩;apply Zq.a.1;replace hS:=hS.grow sJ
 cases vD:qB vars T.ts with
 |false=>
  rw[XB (.inr rfl)];apply Zq.bW.H.aY.gX.1;exact YL
 |true=>
 rw[XA Yd];by_cases Wf:fuel<0
 .rw[XB (.inl Wf)];apply Zq.bW.N.m.I.aS.H.aY.gX.1;exact YL
 by_cases hf2:150<fuel
 .rw[XB (.inr hf2)];apply Zq.bW.N.m.I.n.S.H.aY.gX.1;exact YL
 rw[XA (by rintro(h|h)<;>contradiction)]
 obtain⟨fuel,rfl⟩:∃f:Nat,fuel=f:=⟨fuel.toNat,by omega⟩
 have wG:=vD;simp only[qB,XI,XO]at wG
 obtain⟨vars,rfl⟩:∃v:Nat,vars=v:=⟨vars.toNat,by omega⟩
 simp only[X0];have Ho:=Ad;unfold pB at Ho;simp only[XI,XO,VK,VQ]at Ho;have Hn:∀x∈X,cB x.cl=true:=fun x hx=>Ho.2 _ (X3.2 ⟨x,hx,rfl⟩);have hnq:=goals_nodes _ wG.2
 have zU:T.len<=5:=by have:=TA.len_ts T;have:=wG.1.2;omega
 apply Zq.bW.N.m.I.n.S.N.i.aO.1;refine Qa (QD (cells:=[_,_,_,_,_,_,_]) (.cons Yb (.cons Yb (.cons Yb (.cons Yb .nil)))) rfl) rfl ?_;apply Zq.d3.1;clear hS;intro b1 _ hS;apply Zq.c.bV.bQ.c.c7.1;refine Qx 12 11 (37::38::41::42::43::44::45::46::47::39::40::[]) (fun(j:Nat) v u w'=>∃(D2 R2:TA) (gs:List GN) (F3:T3),T=D2.app R2/\D2.len=j/\v= .int .i64 ((j:Nat)-1)/\u=IV gs/\BG gs=CF R2.ts 0 0 []/\(∀φ∈F,φ∈F3)/\AB F3 (IP gs)/\St M w0 ((b1,.cells (DN pA X.length pc vars ⟨fuel,vars,0,[],false⟩ none 0 0).toArray 109)::H) F3 w') (fun j=>j) (T.len) ?_ Yb Yb ?_
 .exact⟨T,.nil,[],F,by rw[TA.app_nil],rfl,rfl,rfl,rfl,fun _ h=>h,fun _ _=>trivial,hS⟩
 clear hS;rintro j _ _ _ _ ⟨D2,R2,gs,F3,yY,Sp,rfl,rfl,yG,vI,El,hS⟩ uV;have sK:T.len=D2.len+R2.len:=by rw[yY,TA.len_app]
 cases j with
 |succ j=>
  obtain⟨D',k1,n1,s1,A1,Fz,a1,rfl,hD'⟩:=TA.snoc D2 j Sp
  have yZ:T=D'.app (.cons k1 n1 s1 A1 Fz a1 R2):=by rw[yY,TA.app_assoc];rfl
  have Ga:=hT.mono vI;rw[yZ]at Ga
  have pS:(TA.cons k1 n1 s1 A1 Fz a1 .nil).ts.goals ((vars:Nat):Int)=true:=by
   have:=wG.2;rw[yZ,TA.app_ts]at this
   have key:∀(a b:Ts),(a.app b).goals ((vars:Nat):Int)=true->b.goals ((vars:Nat):Int)=true:=by
    intro a b
    induction a with
    |nil=>exact id
    |cons k n s x r _ ih=>intro h;simp only[Ts.app,Ts.goals,XI]at h;exact ih h.2
   have:=key _ _ this;simp only[TA.ts,Ts.goals,XI]at this⊢;exact⟨this.1,trivial⟩
  have vB:(Tm.shift ⟨k1,n1,s1,a1.ts⟩ 0)=⟨k1,n1,s1,a1.ts⟩:=by
   simp only[TA.ts,Ts.goals,XI]at pS;have hg:=pS.1;simp only[gB,XI]at hg;exact Qsf (v:=((vars:Nat):Int)) Ya hg.1.2
  have rQ:AB F3 (BW ⟨k1,n1,s1,A1,Fz,a1⟩):=Ga.imp fun w h=>h.sub;obtain⟨_,o7,Sq⟩:=(hS.und Ga).some_ YI;subst Sq;obtain⟨z0,z1,z2,z3⟩:=(hS.und Ga).cells;rw[show o7+D'.len*4=o7+(((j+1:Nat):Int)-1).toNat*4 by omega]at z0 z1 z2 z3;apply Zq.m.r.v.eR.cY.cF.cE.g.hG.d3.1;clear hS;intro _ _ hS;apply Zq.bO.u.b3.c.1;replace hS:=hS.freeze;refine uV j _ _ _ _ ?_ ?_ Yb Yb Yc
  .omega
  .refine⟨D',.cons k1 n1 s1 A1 Fz a1 R2,⟨⟨k1,n1,s1,A1,Fz,a1⟩,0,_⟩::gs,_,yZ,hD',?_,rfl,?_,fun φ h=> .tail _ (vI φ h),?_,hS⟩
   .exact LI
   .show(Tm.mk k1 n1 s1 a1.ts,0)::BG gs=(Tm.shift ⟨k1,n1,s1,a1.ts⟩ 0,0)::CF R2.ts 0 0 [];rw[vB,yG]
   .exact fun w hw=>⟨hw _ (.head _),(rQ.tail) w hw,El w fun φ hφ=>hw φ (.tail _ hφ)⟩
 |zero=>
  have vW:D2= .nil:=by cases D2 with
   |nil=>rfl
   |cons _ _ _ _ _ _ _=>simp[TA.len]at Sp
  subst vW
  have hRx:R2=T:=by rw[yY];rfl
  subst hRx;clear uV;have qS:=Qlo (X:=X) (pA:=pA) (pc:=pc) (q:=vars) (C:=vars+8*(fuel+12)) (D:=fuel) Ho.1 Hn Ya Ya Ya fuel Ya;have hcall:=qS M w0 H F3 gs [] b1 ⟨fuel,vars,0,[],false⟩
  have Lo:∀y∈gs,AL y.t.tm:=by
   have:=ZI (v:=((vars:Nat):Int)) (m:=0) (o:=0) (rest:=[]) Ya Ya Ya (fun y hy=>(by cases hy)) R2.ts wG.2;exact YcE
  have Ln:∀c∈X.map LC.cl,c.vars.toNat<=8:=fun c hc=>by
   exact Ydr
  have Sr:EO (vars+8*(fuel+12)) fuel ⟨fuel,vars,0,[],false⟩:=⟨by show vars+8*(fuel+12)<=vars+8*(fuel+12)+8*0;omega,by show 0+fuel<=fuel;omega,by show 0<12;omega,rfl⟩
  have xU:=Qmj (q:=vars) (C:=vars+8*(fuel+12)) (D:=fuel) Ln fuel (BG gs) (QK []) _ Sr;rw[yG]at hcall xU;have aBu:∀(pq:AO) (F':T3) (w':TG),CW M w0 H F' b1 pA X.length pc vars pq w'->pq.out.length<=100->Calls prog 63 #[.pointer (some ⟨b1,0,none⟩),.int .i64 2] w' fun e w2=>e= .returned (.int .i64 (-1))/\CW M w0 H F' b1 pA X.length pc vars (DH 2 pq) w2:=fun pq F' w' hP ho=>OQ b1 pA X.length pc vars pq 2 w' ho hP;rw[show QK []=([]:AC)from rfl]at hcall xU;generalize Qn (X.map LC.cl) vars fuel (CF R2.ts 0 0 []) [] ⟨fuel,vars,0,[],false⟩=Q at*;obtain⟨_,pq⟩:=Q;dsimp only at hcall xU⊢
  have rP:∀(pr:AO) (F':T3) (w':TG) (K4:List OE) (Bo:T4) (Bp:Nat) (O4:T0),(∀φ∈F,φ∈F')->K4.map OE.ev=pr.out->(∀x∈K4,AB F' (AV x.A x.c x.T))->Rw 34 2 (.slice Bo K4.length Bp) K4.length (HW K4) O4->St M w0 ((b1,.cells (DN pA X.length pc vars pr Bo K4.length Bp).toArray 109)::(O4++H)) F' w'->
    ∃(A:T4) (c:Nat) (L:List KE) (F':T3),Value.slice Bo K4.length Bp= .slice A L.length c/\L.map KE.ev=pr.out/\(∀φ∈F,φ∈F')/\AB F' (K8 L A c)/\St M w0 H F' w':=by
   intro pr F' w' K4 Bo Bp O4 uE e1 e2 e3 h;have h2:=St.freezeR e3 h.drop;refine⟨Bo,Bp,K4.map OE.ke,_,by rw[VQ],by rw[VY];exact e1,fun φ h=> .tail _ (uE φ h),fun w2 hw=> ?_,h2⟩;have uH:=hw _ (.head _);refine⟨by rw[VQ];exact uH.2.1,fun hl=> ?_,fun x hx=> ?_⟩
   .rw[VQ]at hl;obtain⟨b,o,e,hs⟩:=uH.2.2 hl;exact⟨b,o,e,QpV fun j u hu=>hs j u (by rw[QxB];exact hu)⟩
   .obtain⟨y,hy,rfl⟩:=X3.1 hx;exact e2 y hy w2 fun φ hφ=>hw φ (.tail _ hφ)
  apply Zq.m.r.bE.i.bA.1;refine XE (hcall _ (hX.mono vI) El Lo ⟨fun w _=>trivial,trivial,fun x hx=>NH⟩ (by show fuel<=fuel;omega) Sr ⟨[],none,0,[],rfl,fun x hx=>NH,Rw.zero_,hS⟩) ?_;rintro _ _ ⟨F4,rfl,Cu,hP4⟩;apply Zq.a.1;clear hS;have Bn:∀φ∈F,φ∈F4:=fun φ h=>Cu φ (vI φ h);have Vz:=xU.o;obtain⟨K4,Bo,Bp,O4,Lq,zB,rB,hS⟩:=hP4
  cases he4:pq.ended with
  |true=>
   rw[XB rfl];simp only[DN,he4]at hS;apply Zq.b.aH.cQ.y.bF.aT.d4.y.K.gX.1;obtain⟨A,c,L,F',g1,g2,g3,g4,g5⟩:=rP pq F4 _ K4 Bo Bp O4 Bn Lq zB rB (by simp only[DN,he4];exact hS);exact Yex
  |false=>
   rw[XA Yf];simp only[DN,he4]at hS;apply Zq.b.aH.cQ.y.X.v.u.f.1;refine XE (aBu pq F4 _ ⟨K4,Bo,Bp,O4,Lq,zB,rB,by simp only[DN,he4];exact hS⟩ Ya) ?_;rintro _ _ ⟨rfl,hP5⟩;apply Zq.a.1;clear hS;obtain⟨K5,oA5,oc5,O5,Sv,aBv,qM,hS⟩:=hP5;apply Zq.dT.d4.y.K.gX.1;obtain⟨A,c,L,F',g1,g2,g3,g4,g5⟩:=rP (DH 2 pq) F4 _ K5 oA5 oc5 O5 Bn Sv aBv qM hS;exact Yex
end
section
variable{P:List Cl}{q:Nat}
theorem Rl.next{ρ:Int->Int->Prop}{h:Nat->Nat}{s:SS}{g:Gl}{rest:List Gl}{g':Tg}{r':List Tg}{e:AC}{p:AO}(hR:Rl ρ h q s (g'::r') e p)(hg:s.goals=g::rest)(hf:s.fuel≠0){B' e':AC}{C:List Ch}
  (bm:Bm D3 BX (CN ρ) B' e') (fb:FB s.fresh B') (fe:FB p.vars e') (hC:∀a∈r',h a.2<=C.length) (hI:Inv ⟨B',s.fresh,s.fuel-1,rest,C,s.ev⟩):
  Rl ρ h q ⟨B',s.fresh,s.fuel-1,rest,C,s.ev⟩ r' e' ⟨p.fuel-1,p.vars,p.calls,p.out,p.ended⟩:=by
 have sT:=hR.gl;rw[hg]at sT
 cases sT with
 |cons h1 h2=>
  exact⟨by simp only;rw[hR.fuel],hR.out,hR.ev,hR.ne,bm,fb,fe,hR.rho,hR.le,hR.qv,h2,(VT.1 hR.srt).2,fun a ha b hb=>hR.mono a (XZ _ ha) b (XZ _ hb),fun a ha=>⟨hC a ha,(hR.ht a (XZ _ ha)).2⟩,hI⟩
theorem Rs.step{K K':List Ev->Prop}{B0:AC}{He:Nat}{C:List Ch}{p p1 p':AO}(h:Rs P q K B0 He C p1 p')(hv:p.vars<=p1.vars)(hc:p.calls<=p1.calls)(hf:p1.fuel<=p.fuel){B1:AC}(hB:∃N,B0=N++B1)(hk:∀L,K L->K' L):Rs P q K' B1 He C p p':=by
 obtain⟨_,_,_,a4,a5⟩:=h;refine⟨by omega,by omega,by omega,fun hh=>hk _ (a4 hh),fun hh=> ?_⟩;obtain⟨t,b1,b2,b3,b4,b5,⟨X,b6⟩,b7,b8,b9⟩:=a5 hh;obtain⟨N,hN⟩:=hB;exact⟨t,b1,b2,b3,b4,b5,⟨X++N,by rw[b6,hN,VB]⟩,b7,b8,fun L hL=>hk _ (b9 L hL)⟩
theorem Rs.back{s t:SS}{p p1:AO}{B1:AC}(oM:BD P q s=Q9 t)(hI:DC t)(hf:t.fuel=p1.fuel)(ho:p1.out=FD t.ev)(pX:t.ev.length<12)(hB:∃X,t.B=X++B1)(Cz:p1.vars<=t.fresh)(oN:p1.ended=false)(hv:p.vars<=p1.vars)(hc:p.calls<=p1.calls)(uQ:p1.fuel<=p.fuel){He:Nat}(h0:He<=t.fresh):Rs P q (HZ P q s) B1 He t.ch p p1:=
 ⟨hv,hc,uQ,fun hh=>(by rw[oN]at hh;cases hh),fun _=>⟨t,hI,rfl,hf,ho,pX,hB,h0,Cz,fun L hL=>QhF oM hL⟩⟩
theorem Rs.stop{s s':SS}{p p1:AO}{B1:AC}{C:List Ch}{He:Nat}{k:Int}(oM:BD P q s=(k,s'))(hk:k≠0)(ho:p1.out=FD s'.ev)(hv:p.vars<=p1.vars)(hc:p.calls<=p1.calls)(uQ:p1.fuel<=p.fuel):Rs P q (HZ P q s) B1 He C p (DH k p1):=
 ⟨hv,hc,uQ,fun _=>by show HZ P q s (p1.out++[(k,.nil)]);rw[ho];exact QgX oM hk,fun hh=>OI⟩
theorem Que (hp : pB P = true) (hq : q <= 8) : ∀ f, QzC P q f := by
 have sV:P.length<=24/\∀x∈P,cB x=true:=by
  exact R1
 intro f
 induction f with
 |zero=>
  intro ρ h s g e p hR uH
  cases g with
  |nil=>
   exact Yc8
  |cons g' r'=>
   have sT:=hR.gl
   cases hs:s.goals with
   |nil=>rw[hs]at sT;cases sT
   |cons g rest=>
    have h0:s.fuel=0:=by rw[hR.fuel];omega
    have oM:BD P q s=(3,s):=by unfold BD;rw[hs];simp only;rw[XB h0]
    exact Ydl
 | succ f ih =>
  intro ρ h s g e p hR uH
  cases g with
  |nil=>
   exact Yc8
  | cons g' r' =>
   have sT:=hR.gl
   cases hs:s.goals with
   |nil=>rw[hs]at sT;cases sT
   |cons g rest=>
    rw[hs]at sT;obtain⟨Gy,vQ⟩:CN ρ g.1 g'.1/\g.2=h g'.2:=by cases sT with|cons h1 _=>exact h1
    have aBw:Al (UM ρ h) rest r':=by cases sT with|cons _ h2=>exact h2
    by_cases h0:s.fuel=0
    .have oM:BD P q s=(3,s):=by unfold BD;rw[hs];simp only;rw[XB h0]
     have e1:Qn P q (f+1) (g'::r') e p=(-1,DH 3 p):=by rw[Qn,XB (by rw[<-hR.fuel];exact h0)]
     rw[e1];exact Ydl
    have Kk:p.fuel≠0:=by rw[<-hR.fuel];exact h0
    obtain⟨ts,tl,tr⟩:=Gy.top;obtain⟨i1,i2,i3,i4,i5,i6,i7⟩:=UQ hR.inv hs h0;have Lr:=(UE (vars:=q) hR.inv hR.ev hp).1.go;have oW:=hR.le;have hht:=hR.ht g' (X8 ..);have Bq:∀a∈r',a.2<=g'.2:=(VT.1 hR.srt).1;have Cp:∀a∈r',h a.2<=h g'.2:=fun a ha=>hR.mono a (XZ _ ha) g' (X8 ..) (Bq a ha);by_cases hb:Q1 g.1.s.toList g.1.ar.length=true
    .have wP:Q1 g'.1.s.toList g'.1.ar.length=true:=by rw[<-ts,<-tl];exact hb
     have oM:BD P q s=I5 g ⟨s.B,s.fresh,s.fuel-1,rest,s.ch,s.ev⟩:=by
      unfold BD;rw[hs];simp only;rw[XA h0,XB hb]
     have e1:Qn P q (f+1) (g'::r') e p=LQ (Qn P q f) g' r' e ⟨p.fuel-1,p.vars,p.calls,p.out,p.ended⟩:=by rw[Qn,XA Kk,XB wP]
     rw[e1]
     have hon:∀{s1:SS} {e':AC},Rl ρ h q s1 r' e' ⟨p.fuel-1,p.vars,p.calls,p.out,p.ended⟩->BD P q s=(0,s1)->(∃N,s1.B=N++s.B)->s1.fresh=s.fresh->s1.ch=s.ch->
       Rs P q (HZ P q s) s.B s.fresh (HY h s.ch (Qn P q f r' e' ⟨p.fuel-1,p.vars,p.calls,p.out,p.ended⟩).1) p (Qn P q f r' e' ⟨p.fuel-1,p.vars,p.calls,p.out,p.ended⟩).2/\((Qn P q f r' e' ⟨p.fuel-1,p.vars,p.calls,p.out,p.ended⟩).2.ended=false->(Qn P q f r' e' ⟨p.fuel-1,p.vars,p.calls,p.out,p.ended⟩).1= -1\/∃a∈g'::r',(Qn P q f r' e' ⟨p.fuel-1,p.vars,p.calls,p.out,p.ended⟩).1=(a.2:Nat)):=by
      intro s1 e' zR qG hN Cz rM;obtain⟨c1,c2⟩:=ih ρ h s1 r' e' _ zR YM;rw[Cz,rM]at c1;refine⟨c1.step (p:=p) (XF _) (XF _) YM hN (fun L hL=>Qka qG hL),fun hh=> ?_⟩;rcases c2 hh with c|⟨a,ha,c⟩
      .exact .inl c
      .exact .inr ⟨a,XZ _ ha,c⟩
     have Em:BD P q s=(0,⟨s.B,s.fresh,s.fuel-1,rest,s.ch,s.ev⟩)->Rl ρ h q ⟨s.B,s.fresh,s.fuel-1,rest,s.ch,s.ev⟩ r' e ⟨p.fuel-1,p.vars,p.calls,p.out,p.ended⟩:=fun qG=>by
      have hI:=Lr (by rw[qG]);rw[qG]at hI;exact hR.next hs h0 hR.bm hR.fb hR.fe (fun a ha=>X9 (Cp a ha) hht.1) hI.1
     have rC:BD P q s=Q9 ⟨s.B,s.fresh,s.fuel-1,rest,s.ch,s.ev⟩->Rs P q (HZ P q s) s.B s.fresh (HY h s.ch (-1)) p ⟨p.fuel-1,p.vars,p.calls,p.out,p.ended⟩:=fun qG=>
      Rs.back (p:=p) (p1:=⟨p.fuel-1,p.vars,p.calls,p.out,p.ended⟩) (t:=⟨s.B,s.fresh,s.fuel-1,rest,s.ch,s.ev⟩) qG i1 (by simp only;rw[hR.fuel]) hR.out hR.ev ⟨[],rfl⟩ oW hR.ne (XF _) (XF _) YM (XF _)
     have En:∀(a b a' b':Tm),AL a->AL b->CN ρ a a'->CN ρ b b'->BD P q s=GE a b ⟨s.B,s.fresh,s.fuel-1,rest,s.ch,s.ev⟩->
       Rs P q (HZ P q s) s.B s.fresh (HY h s.ch (HV (Qn P q f) r' e ⟨p.fuel-1,p.vars,p.calls,p.out,p.ended⟩ a' b').1) p (HV (Qn P q f) r' e ⟨p.fuel-1,p.vars,p.calls,p.out,p.ended⟩ a' b').2/\((HV (Qn P q f) r' e ⟨p.fuel-1,p.vars,p.calls,p.out,p.ended⟩ a' b').2.ended=false->(HV (Qn P q f) r' e ⟨p.fuel-1,p.vars,p.calls,p.out,p.ended⟩ a' b').1= -1\/∃x∈g'::r',(HV (Qn P q f) r' e ⟨p.fuel-1,p.vars,p.calls,p.out,p.ended⟩ a' b').1=(x.2:Nat)):=by
      intro a b a' b' ta tb ra rb qG;obtain⟨u1,u2,u3,u4,u5⟩:=Qqy hR.bm hR.fb hR.fe hR.rho ra rb;have sC:=(PJ 401 a b s.B 0 ta.small tb.small hR.inv.c.bok hR.inv.c.sm Ya).ext;have hei:=TN i1 i2 ta tb;unfold GE at qG;simp only at qG;unfold HV;by_cases hw:400<(BA a' b' e).w
      .rw[XB hw];rw[XB UA]at qG;exact⟨Rs.stop qG Yf hR.out (XF _) (XF _) YM,fun hh=>OI⟩
      rw[XA hw];rw[XA UA]at qG;by_cases oK:(BA a' b' e).ok=true
      .rw[XB oK];rw[XB YaA]at qG;have hI:=Lr (by rw[qG]);rw[qG]at hI;exact hon (hR.next hs h0 u3 u4 u5 (fun a ha=>X9 (Cp a ha) hht.1) hI.1) qG sC rfl rfl
      .rw[XA oK];rw[XA YaA]at qG;exact⟨Rs.back (p:=p) (p1:=⟨p.fuel-1,p.vars,p.calls,p.out,p.ended⟩) qG hei (by show s.fuel-1=p.fuel-1;rw[hR.fuel]) hR.out hR.ev sC oW hR.ne (XF _) (XF _) YM (XF _),fun _=> .inl rfl⟩
     have hd:=GJ _ i6;unfold LQ;unfold I5 at oM;rw[<-ts];unfold Q1 at hb;by_cases k1:g.1.s.toList=[33]
     .rw [XB k1] at oM ⊢;have hI:=Lr (by rw [oM]);rw [oM] at hI
      have pJ:(s.ch.drop (s.ch.length-g.2)).length=h g'.2:=by rw[V0,vQ];omega
      obtain⟨c1,c2⟩:=ih ρ h _ r' e _ (hR.next (C:=s.ch.drop (s.ch.length-g.2)) hs h0 hR.bm hR.fb hR.fe (fun a ha=>by rw[pJ];exact Cp a ha) hI.1) YM;simp only at c1;generalize Qn P q f r' e ⟨p.fuel-1,p.vars,p.calls,p.out,p.ended⟩=res at c1 c2⊢;have c3:=c1.step (p:=p) (XF _) (XF _) YM ⟨[],rfl⟩ (fun L hL=>Qka oM hL)
      cases vK:res.2.ended with
      |true=>
       split
       .exact⟨⟨c3.vm,c3.cm,c3.fm,c3.en,fun hh=>Yal⟩,fun hh=>Yal⟩
       .exact⟨⟨c3.vm,c3.cm,c3.fm,c3.en,fun hh=>(by have hh:res.2.ended=false:=hh;rw[vK]at hh;cases hh)⟩,fun hh=>(by have hh:res.2.ended=false:=hh;rw[vK]at hh;cases hh)⟩
      |false=>
       have Kh:∀k:Nat,k<=h g'.2->(s.ch.drop (s.ch.length-g.2)).drop ((s.ch.drop (s.ch.length-g.2)).length-k)=s.ch.drop (s.ch.length-k):=fun k hk=>by
        rw[pJ,Xba,vQ];exact LI
       have Ae:s.ch.drop (s.ch.length-g.2)=HY h s.ch ((g'.2:Nat):Int):=by
        unfold HY;rw[XA Ya,vQ];rfl
       rcases c2 vK with c|⟨a,ha,c⟩
       .rw[XA (by rw[c];omega)];refine⟨?_,fun _=> .inr ⟨g',X8 ..,rfl⟩⟩
        have:HY h (s.ch.drop (s.ch.length-g.2)) res.1=HY h s.ch ((g'.2:Nat):Int):=by
         rw[<-Ae,c];unfold HY;rw[XB Yf]
        rw[this]at c3;exact c3
       .have sD:=Bq a ha
        have Gv:HY h (s.ch.drop (s.ch.length-g.2)) res.1=HY h s.ch res.1:=by
         rw[c];unfold HY;rw[XA Ya,XA Ya];exact Kh _ (by rw[X0];exact Cp a ha)
        by_cases pU:a.2<g'.2
        .rw[XB ⟨by omega,by omega⟩];refine⟨?_,fun _=> .inr ⟨a,XZ _ ha,c⟩⟩;rw[Gv]at c3;exact c3
        .have wZ:a.2=g'.2:=by omega
         rw[XA (by rw[c];omega)];refine⟨?_,fun _=> .inr ⟨g',X8 ..,rfl⟩⟩;rw[Gv,c,wZ]at c3;exact c3
     rw[XA k1]at oM hb⊢;by_cases k2:g.1.s.toList=[116,114,117,101]
     .rw[XB k2]at oM⊢;exact Yey
     rw[XA k2]at oM hb⊢;by_cases k3:g.1.s.toList=[102,97,105,108]
     .rw[XB k3];rw[XA S4,XA S4,XA S4]at oM;exact⟨rC oM,fun _=> .inl rfl⟩
     rw[XA k3]at hb⊢;by_cases k4:g.1.s.toList=[101,113]
     .rw[XB k4]at oM hb⊢;have hl:g.1.ar.length=2:=by simpa using hb
      exact En _ _ _ _ (hd _ (Ts.at_mem Ya)) (hd _ (Ts.at_mem Ya)) (tr.at_ Ya) (tr.at_ Ya) oM
     rw[XA k4]at oM hb⊢
     have qY:2<=g.1.ar.length:=by
      split at hb
      .have:g.1.ar.length=2:=by simpa using hb
       omega
      split at hb
      .have:g.1.ar.length=3:=by simpa using hb
       omega
      .cases hb
     have la:=Qok hR.bm (tr.at_ (i:=0) Ya);have lb:=Qok hR.bm (tr.at_ (i:=1) Ya);by_cases k5:g.1.s.toList=[108,101,115,115]
     .rw[XB k5]at oM;unfold M7 at oM;simp only at oM;by_cases Mw:(Qc s.B (g.1.ar.at_ 0)).k≠2\/(Qc s.B (g.1.ar.at_ 1)).k≠2
      .rw[XB Mw]at oM;rw[XB Yaz];exact Ybt
      .rw[XA Mw]at oM
       have hna:¬g.1.s.toList=[97,100,100]:=by rw[k5];decide
       rw[XA (by rintro(hk|hk|hk);(rcases la with la|la<;>omega);(rcases lb with lb|lb<;>omega);exact hna hk.1),XB k5]
       have ea:(Qc s.B (g.1.ar.at_ 0)).n=(Qc e (g'.1.ar.at_ 0)).n:=by rcases la with la|la<;>omega
       have eb:(Qc s.B (g.1.ar.at_ 1)).n=(Qc e (g'.1.ar.at_ 1)).n:=by rcases lb with lb|lb<;>omega
       by_cases pU:(Qc e (g'.1.ar.at_ 0)).n<(Qc e (g'.1.ar.at_ 1)).n
       .rw[XB pU];rw[XA Ya]at oM;exact Yey
       .rw[XA pU];rw[XB Ya]at oM;exact⟨rC oM,fun _=> .inl rfl⟩
     .rw[XA k5]at oM hb
      have k6:g.1.s.toList=[97,100,100]:=by
       by_cases k6:g.1.s.toList=[97,100,100]
       .exact k6
       .rw[XA k6]at hb;cases hb
      rw[XB k6]at oM hb;have hl3:g.1.ar.length=3:=by simpa using hb
      unfold MY at oM;simp only at oM;by_cases Mw:(Qc s.B (g.1.ar.at_ 0)).k≠2\/(Qc s.B (g.1.ar.at_ 1)).k≠2
      .rw[XB Mw]at oM;rw[XB Yaz];exact Ybt
      rw[XA Mw]at oM
      have ea:(Qc s.B (g.1.ar.at_ 0)).n=(Qc e (g'.1.ar.at_ 0)).n:=by rcases la with la|la<;>omega
      have eb:(Qc s.B (g.1.ar.at_ 1)).n=(Qc e (g'.1.ar.at_ 1)).n:=by rcases lb with lb|lb<;>omega
      rw[ea,eb]at oM;by_cases Ns:(Qc e (g'.1.ar.at_ 0)).n+(Qc e (g'.1.ar.at_ 1)).n< -1099511627776\/1099511627776<(Qc e (g'.1.ar.at_ 0)).n+(Qc e (g'.1.ar.at_ 1)).n
      .rw[XB Ns]at oM;rw[XB (.inr (.inr ⟨k6,Ns.symm⟩))];exact Ybt
      .rw[XA Ns]at oM;rw[XA (by rintro(hk|hk|hk);(rcases la with la|la<;>omega);(rcases lb with lb|lb<;>omega);exact Ns hk.2.symm),XA k5];refine En _ _ _ _ (hd _ (Ts.at_mem Ya)) ?_ (tr.at_ Ya) (.node (show(2:Int)≠0 by decide) .nil .nil) oM;exact Yq
    .have wP:¬Q1 g'.1.s.toList g'.1.ar.length=true:=by rw[<-ts,<-tl];exact hb
     have pZ:FC g'.1=FC g.1:=by funext c;unfold FC;rw[ts,tl]
     cases hfl2:P.filter (FC g.1)with
     |nil=>
      have oM:BD P q s=(5,⟨s.B,s.fresh,s.fuel-1,rest,s.ch,s.ev⟩):=by
       unfold BD;rw[hs];simp only;rw[XA h0,XA hb,hfl2]
      have e1:Qn P q (f+1) (g'::r') e p=(-1,DH 5 ⟨p.fuel-1,p.vars,p.calls,p.out,p.ended⟩):=by rw[Qn,XA Kk,XA wP,pZ,hfl2]
      rw[e1];exact Ybt
     |cons c cs=>
      have oM:BD P q s=Q9 ⟨s.B,s.fresh,s.fuel-1,rest,⟨g,rest,c::cs,s.B.length⟩::s.ch,s.ev⟩:=by
       unfold BD;rw[hs];simp only;rw[XA h0,XA hb,hfl2]
      have e1:Qn P q (f+1) (g'::r') e p=EF (Qn P q f) g' r' e (p.calls+1) (c::cs) ⟨p.fuel-1,p.vars,p.calls+1,p.out,p.ended⟩:=by rw[Qn,XA Kk,XA wP,pZ,hfl2]
      rw[e1];have Ix:∀x∈c::cs,x∈P:=fun x hx=>(JK.1 (show x∈P.filter (FC g.1) by rw[hfl2];exact hx)).1
      have Sw:(c::cs).length<=24:=by
       have:=J3 (FC g.1) P;rw[hfl2]at this;omega
      have Eo:=(QgH hR.inv hs h0 (fun x hx=>sV.2 x (Ix x hx)) Sw).1
      obtain⟨c1,c2⟩:=Qye ih (C:=s.ch) (call:=p.calls+1) hR.bm Gy aBw (VT.1 hR.srt).2 (fun a ha b hb=>hR.mono a (XZ _ ha) b (XZ _ hb))
       (fun a ha=>⟨X9 (Cp a ha) hht.1,by have:=(hR.ht a (XZ _ ha)).2;omega⟩) hR.qv (c::cs) _ ⟨p.fuel-1,p.vars,p.calls+1,p.out,p.ended⟩ Eo rfl ⟨[],rfl⟩ (by simp only;rw[hR.fuel]) hR.out hR.ev hR.ne oW hR.fb hR.fe hR.rho (XF _) YM (fun x hx=>sV.2 x (Ix x hx))
      refine⟨c1.step (p:=p) (XF _) YM YM ⟨[],rfl⟩ (fun L hL=>QhF oM hL),fun hh=> ?_⟩;rcases c2 hh with c|⟨a,ha,c⟩
      .exact .inl c
      .exact .inr ⟨a,XZ _ ha,c⟩
end
theorem Qxu{P:List Cl}{q:Nat}(hp:pB P=true):∀(n:Nat) (s:SS),Inv s->s.ev.length<12->mu s<n->GL P q n s≠[]
 |0,s,_,_,h=>by omega
 |n+1,s,hI,pX,hm=>by
  obtain⟨h1,h2⟩:=UE (vars:=q) hI pX hp;simp only[GL];by_cases h0:(BD P q s).1=0
  .rw[XB h0];exact Qxu hp n _ (h1.go h0).1 (h2 h0) (by have:=(h1.go h0).2;omega)
  .rw[XA h0];simp
theorem QqP{P:List Cl}{q:Nat}:∀(n m:Nat) (s:SS),GL P q n s≠[]->GL P q m s≠[]->GL P q n s=GL P q m s
 |0,_,_,h,_=>absurd rfl h
 |_,0,_,_,h=>absurd rfl h
 |n+1,m+1,s,hn,hm=>by
  simp only[GL]at hn hm⊢;by_cases h0:(BD P q s).1=0
  .rw[XB h0]at hn hm⊢;rw[XB h0];exact QqP n m _ hn hm
  .rw[XA h0,XA h0]
theorem Bm.start(V:Int):Bm D3 BX (CN (KZ (fun _ _=>False) 0 0 V)) [] []:=by
 have hl:∀t:Tm,Qc [] t=t:=fun t=>rfl;refine⟨trivial,trivial,fun _=>trivial,fun _=>trivial,fun{x y} hr=> ?_,?_⟩
 .show KY _ (AX x) (AX y);by_cases hk:x.k=0
  .rcases hr.cases with⟨a,b,_⟩|h
   .unfold AX;rw[XB a,XB b];trivial
   .exact absurd hk h.1
  .exact hr.node_vw hk
 .intro x y _ _ u _ v _ hr uI e1 e2 e3 e4
  have key:∀{x y:Tm} {u v:Int},CN (KZ (fun _ _=>False) 0 0 V) x y->CT [] x= .var u->CT [] y= .var v->u=v:=by
   intro x y u v hr e1 e3;obtain⟨a1,a2⟩:=IU.1 e1;obtain⟨b1,b2⟩:=IU.1 e3;rw[hl]at a1 a2;rw[hl]at b1 b2;rcases hr.cases with⟨_,_,hv,_⟩|h
   .rcases hv with hv|⟨i,_,_,h1,h2⟩
    .exact hv.elim
    .omega
   .exact absurd a1 h.1
  have k1:=key hr e1 e3;have k2:=key uI e2 e4;omega
theorem QtP(P:List Cl)(q:Ts)(vars fuel:Int):Qjj P q vars fuel=CK P q vars fuel:=by
 unfold Qjj CK;by_cases h1:pB P=false\/qB vars q=false
 .rw[XB h1,XB h1]
 rw[XA h1,XA h1];by_cases h2:fuel<0\/150<fuel
 .rw[XB h2,XB h2]
 rw[XA h2,XA h2];have hp:pB P=true:=by cases hh:pB P with|true=>rfl|false=>exact absurd (.inl hh) h1
 have hq:qB vars q=true:=by cases hh:qB vars q with|true=>rfl|false=>exact absurd (.inr hh) h1
 have xC:=hq;simp only[qB,XI,XO]at xC;obtain⟨⟨⟨_,v1⟩,_⟩,v3⟩:=xC
 obtain⟨v,rfl⟩:∃v:Nat,vars=(v:Nat):=⟨vars.toNat,by omega⟩
 obtain⟨f,rfl⟩:∃f:Nat,fuel=(f:Nat):=⟨fuel.toNat,by omega⟩
 simp only[X0];have Wh:v<=8:=by omega
 obtain⟨hI,_⟩:=QgB hq (show f<=150 by omega);have oN:=Qxu (q:=v) hp 4000 (FU q v f) hI (by simp[FU]) Ya
 have Iy:∀L,HZ P v (FU q v f) L->L=GL P v 4000 (FU q v f):=fun L ⟨n,e1,e2⟩=>by
  rw[<-e1];exact QqP n 4000 _ (by rw[e1];exact e2) oN
 have tC:∀a∈CF q 0 0 [],a.2=0:=fun a ha=>by
  rcases PM q ha with e|e
  .exact e
  .cases e
 have sT:Al (UM (KZ (fun _ _=>False) 0 0 (v:Nat)) (fun _=>0)) (ID q 0 0 []) (CF q 0 0 []):=QmT Ya Ya Ya Ya v1 rfl .nil q v3
 have wV:Rl (KZ (fun _ _=>False) 0 0 (v:Nat)) (fun _=>0) v (FU q v f) (CF q 0 0 []) [] ⟨f,v,0,[],false⟩:=by
  refine⟨rfl,rfl,by simp[FU],rfl,Bm.start _,fun x hx=>NH,fun x hx=>NH,?_,XF _,fun x hx=> .inr ⟨x,by omega,by omega,by omega,by omega⟩,sT,QmS .nil (fun a ha=>(by cases ha)) q,fun _ _ _ _ _=>XF _,fun a ha=>⟨J8 _,by rw[tC a ha];exact XF _⟩,hI⟩;rintro u w (hh|⟨i,_,_,rfl,rfl⟩)
  .exact hh.elim
  .show i+0<((v:Nat):Int)/\i+0<((v:Nat):Int);omega
 obtain⟨Nq,hm⟩:=Que hp Wh f _ _ _ _ _ _ wV (XF _);generalize Qn P v f (CF q 0 0 []) [] ⟨f,v,0,[],false⟩=r at Nq hm⊢
 cases vK:r.2.ended with
 |true=>
  rw[XB rfl,Iy _ (Nq.en vK)]
 |false=>
  rw[XA Yf];obtain⟨t,_,b2,_,b4,_,_,_,_,b9⟩:=Nq.go vK
  have rM:t.ch=[]:=by
   rw[b2];unfold HY;split
   .rfl
   .simp[FU]
  have ha:Q9 t=(2,t):=by
   unfold Q9 D5;rw[rM]
  have hr:NQ P v t (FD t.ev++[(2,.nil)]):= .inr ⟨by rw[ha];show(2:Int)≠0;decide,by rw[ha]⟩;rw[b4,Iy _ (b9 _ hr)]
end Go.Proofs.YthliapbflkfdiacGreatDoor
namespace Go.Proofs.YthliapbflkfdiacGreatDoor.R
open Go.RowKit
end Go.Proofs.YthliapbflkfdiacGreatDoor.R
namespace Go.Proofs.YthliapbflkfdiacGreatDoor
open Go.Proofs.Tryz
open Go.RowKit
theorem QyX(p:List Cl)(q:Ts)(vars fuel:Int):(CK p q vars fuel).1.length<=1000/\∀x∈(CK p q vars fuel).1,x.2.nodes<=1073741824:=by
 by_cases h:(CK p q vars fuel).2=0
 .obtain⟨l,k,h1⟩:=QhW h;rw[h1.eq];have h6:=h1.six.2;refine⟨by simp[FD];omega,fun x hx=> ?_⟩;rcases VG.1 hx with hx|hx
  .obtain⟨T,hT,rfl⟩:=X3.1 hx;have:=(h1.ans T hT).2.1;show T.nodes<=_;omega
  .rw[VJ.1 hx];simp[Ts.nodes]
 .rw[Qqh h];exact YcT
theorem RK{l:T5}{v:TH}:∀{i:Nat},i<l.length->FH l i v (l.set i v):=by
 induction l with
 |nil=>intro i h;simp at h
 |cons u l ih=>
  intro i h
  cases i with
  |zero=>exact .z
  |succ i=>exact .s (ih YY)
theorem Qjl(c:HC)(r:List HC)(i:Nat)(x:Int):DD (c::r) (i+1) x=c::DD r i x:=by simp[DD]
theorem Qjk(c:HC)(r:List HC)(x:Int):DD (c::r) 0 x=⟨c.k,x,c.s⟩::r:=by simp[DD]
theorem QqN(i:Nat)(x:Int):DD [] i x=[]:=by simp[DD]
theorem NR(L:List HC)(i:Nat)(x:Int):(DD L i x).length=L.length:=by simp[DD]
theorem Qrr:∀(L:List HC) (i:Nat) (x:Int),(AE L).set (i*3+1) (.int .i64 x)=AE (DD L i x)
 |[],i,x=>by simp[QqN,AE]
 |c::r,0,x=>by rw[Qjk];rfl
 |c::r,i+1,x=>by
  rw[Qjl,show(i+1)*3+1=(i*3+1)+3 by omega];show _::_::_::(AE r).set (i*3+1) _=_;rw[Qrr r i x];rfl
theorem QmI(L:List HC)(sp:T5)(i:Nat)(x:Int)(hi:i<L.length):FH (AE L++sp) (i*3+1) (.int .i64 x) (AE (DD L i x)++sp):=by
 have hl:=GQ L;have:=RK (l:=AE L++sp) (v:= .int .i64 x) (i:=i*3+1) Yg
 rwa [XaT _ _ Ya,Qrr]at this
theorem Qwu(P:List HC)(x:HC)(R:List HC)(v:Int):DD (P++x::R) P.length v=P++⟨x.k,v,x.s⟩::R:=by
 induction P with
 |nil=>exact Qjk _ _ _
 |cons p P ih=>rw[VI,XJ,Qjl,ih];rfl
theorem QiD(L:List HC)(i j:Nat)(x:Int):(DD L i x)[j]?=if i=j then(L[j]?).map (fun c=>⟨c.k,x,c.s⟩)else L[j]?:=by
 simp only[DD,List.getElem?_modify];by_cases h:i=j
 .simp[h]
 .simp[h]
theorem AZ{L:List HC}{a:Int}{c:HC}:AD L a=some c↔0<=a/\a<L.length/\L[a.toNat]?=some c:=by
 unfold AD;constructor
 .intro h;split at h
  .rename_i h0;refine⟨h0,?_,h⟩;rcases XY a.toNat L.length with hl|hl
   .omega
   .rw[XX hl]at h;cases h
  .cases h
 .rintro⟨h0,h1,h2⟩;rw[XB h0];exact h2
theorem QxI{L:List HC}{a:Int}(h0:0<=a)(h1:a<L.length):∃c,AD L a=some c:=⟨L[a.toNat]'Ya,AZ.2 ⟨h0,h1,VN _⟩⟩
theorem Qox{n:Nat}:∀{L:List HC} {i:Nat} {c:HC},Q2 n L=true->L[i]?=some c->BM n c (L.length-i-1)=true
 |[],i,c,_,h=>by simp at h
 |x::r,0,c,hg,h=>by
  obtain rfl:x=c:=by simpa using h
  simp only[Q2,XI]at hg;simpa using hg.1
 |x::r,i+1,c,hg,h=>by
  simp only[Q2,XI]at hg;have:=Qox (i:=i) (c:=c) hg.2 YY;rw[XJ,show r.length+1-(i+1)-1=r.length-i-1 by omega];exact BS
theorem Q4{n f:Nat}{c:HC}(h:BM n c f=true):(c.k=0/\0<=c.n/\c.n<n/\c.s=eS)\/(c.k=1/\c.n=0/\c.s≠eS)\/(c.k=2/\c.s=eS)\/(c.k=3/\1<=c.n/\c.n<=4/\c.n<=f/\c.s≠eS):=by
 unfold BM at h;split at h
 .simp only[XI,XO]at h;exact .inl ⟨‹_›,h.1,h.2.1,h.2.2⟩
 .split at h
  .simp only[XI,XO,XaU,WI]at h;exact .inr (.inl ⟨‹_›,h.1,h.2⟩)
  .split at h
   .simp only[XO]at h;exact .inr (.inr (.inl ⟨‹_›,h⟩))
   .split at h
    .simp only[XI,XO,XaU,WI]at h;exact .inr (.inr (.inr ⟨‹_›,h.1,h.2.1,h.2.2.1,h.2.2.2⟩))
    .cases h
theorem H9{n:Nat}{L:List HC}{a:Int}{c:HC}(hg:Q2 n L=true)(h:AD L a=some c):BM n c (L.length-a.toNat-1)=true:=Qox hg (AZ.1 h).2.2
theorem Qj6{n:Nat}{L:List HC}{a:Int}(hg:Q2 n L=true):EG L a<=4/\(EG L a=0\/(0<=a/\a+EG L a<L.length)):=by
 unfold EG
 cases h:AD L a with
 |none=>exact⟨by simp,.inl rfl⟩
 |some c=>
  obtain⟨h0,h1,_⟩:=AZ.1 h;have hc:=Q4 (H9 hg h);simp only[QU];split
  .rcases hc with hc|hc|hc|hc
   .omega
   .omega
   .omega
   .refine⟨by omega,.inr ⟨h0,?_⟩⟩;omega
  .exact⟨by simp,.inl rfl⟩
theorem QiP{n:Nat}{L:List HC}{a:Int}{c:HC}(hg:Q2 n L=true)(h:AD L a=some c)(hk:c.k=0):0<=c.n/\c.n<n:=by
 rcases Q4 (H9 hg h)with hc|hc|hc|hc<;>omega
theorem QgD{n:Nat}{x:Int}(h0:0<=x)(h1:x<n):∀{L:List HC} {i:Nat},Q2 n L=true->(∀c,L[i]?=some c->c.k=0)->Q2 n (DD L i x)=true
 |[],i,hg,_=>by rw[QqN];rfl
 |y::r,0,hg,hk=>by
  rw[Qjk];simp only[Q2,XI]at hg⊢;refine⟨?_,hg.2⟩;have rU:=hk y Yd;have:=hg.1;unfold BM at this⊢;simp only[rU,X5]at this⊢;simp only[XI,XO]at this⊢;exact⟨h0,h1,this.2.2⟩
 |y::r,i+1,hg,hk=>by
  rw[Qjl];simp only[Q2,XI]at hg⊢;rw[NR];exact⟨hg.1,QgD h0 h1 hg.2 fun c hc=>hk c (by simpa using hc)⟩
theorem U3{L:List HC}:∀(f:Nat) (a:Int),FG L f a= -1\/∃c,AD L (FG L f a)=some c/\(c.k=0->c.n=FG L f a)
 |0,a=> .inl rfl
 |f+1,a=>by
  cases h:AD L a with
  |none=>left;simp only[FG,h]
  |some c=>
   by_cases hb:c.k=0/\c.n≠a
   .simp only[FG,h,XB hb];exact U3 f c.n
   .right;simp only[FG,h,XA hb];exact⟨c,rfl,fun hk=>Xaz fun hn=>hb ⟨hk,hn⟩⟩
theorem TO{L:List HC}{a:Int}(h:¬Qw L a<0):∃c,AD L (Qw L a)=some c/\(c.k=0->c.n=Qw L a):=by
 rcases U3 (L:=L) L.length a with h1|h1
 .exact absurd (show Qw L a<0 by unfold Qw;rw[h1];decide) h
 .exact h1
structure GU(n:Nat)(u:HU):Prop where
 len:u.cs.length=n
 good:Q2 n u.cs=true
 wk:u.lg=false->u.w<=400
 trl:u.tr.length<=65536+u.w
theorem GU.step{n:Nat}{u:HU}(h:GU n u):GU n u.step:=by
 refine⟨h.len,h.good,fun hl=> ?_,?_⟩
 .simp only[HU.step,XaB,WI]at hl⊢;omega
 .have:=h.trl;simp only[HU.step];omega
theorem GU.look{n:Nat}{u:HU}(h:GU n u)(a:Int):GU n (u.look a).2:=by
 unfold HU.look;split
 .exact h
 .rename_i hl;exact⟨h.len,h.good,fun _=>h.wk U5,h.trl⟩
theorem LW(u:HU)(a:Int):(u.look a).2.w=u.w/\(u.look a).2.cs=u.cs/\(u.look a).2.tr=u.tr:=by
 unfold HU.look;split<;>exact⟨rfl,rfl,rfl⟩
theorem NW{u:HU}{a:Int}(h:(u.look a).2.lg=false):u.lg=false/\(u.look a).1=Qw u.cs a/\¬Qw u.cs a<0:=by
 unfold HU.look at h⊢;split at h
 .rename_i hl;rw[hl]at h;cases h
 .rename_i hl;rw[XA hl];exact⟨by simpa using hl,rfl,by simpa using h⟩
theorem GU.bind{n:Nat}{u:HU}(h:GU n u){a x:Int}{c:HC}(ha:AD u.cs a=some c)(hk:c.k=0)(h0:0<=x)(h1:x<n)(ht:u.tr.length<65536+u.w):GU n (u.bind a x):=by
 refine⟨by simp only[HU.bind];rw[NR];exact h.len,?_,h.wk,by simp only[HU.bind,XG,XJ,XP];omega⟩;refine QgD h0 h1 h.good fun c' zQ=> ?_;rw[(AZ.1 ha).2.2]at zQ;obtain rfl:=V9 zQ;exact hk
structure OU(n f:Nat)(u v:HU):Prop where
 cs:v.cs=u.cs
 tr:v.tr=u.tr
 lt:u.w<v.w
 le:v.w<=max (u.w+1) (401+4*f)
 wk:v.lg=false->v.w<=400
 lg:u.lg=true->v.lg=true
theorem QxT{n f:Nat}{g:Int->HU->Bool×HU}{cs:List HC}(hg:∀x u,u.cs=cs->(u.lg=false->u.w<=400)->OU n f u (g x u).2):
  ∀(m:Nat) (x:Int) (u:HU),u.cs=cs->(u.lg=false->u.w<=400)->(HI g m x u).2.cs=u.cs/\(HI g m x u).2.tr=u.tr/\u.w<=(HI g m x u).2.w/\(HI g m x u).2.w<=max (u.w+m) (401+4*f+m)/\((HI g m x u).2.lg=false->(HI g m x u).2.w<=400)/\(u.lg=true->(HI g m x u).2.lg=true)
 |0,x,u,AP,hu=>⟨rfl,rfl,XF _,by simp only[HI];omega,hu,fun h=>h⟩
 |m+1,x,u,AP,hu=>by
  have h1:=hg x u AP hu;simp only[HI];split
  .exact⟨h1.cs,h1.tr,JM h1.lt,by have:=h1.le;omega,h1.wk,h1.lg⟩
  .obtain⟨a1,a2,a3,_,a5,a6⟩:=QxT hg m (x+1) (g x u).2 (h1.cs.trans AP) h1.wk;refine⟨a1.trans h1.cs,a2.trans h1.tr,X9 (JM h1.lt) a3,?_,a5,fun h=>a6 (h1.lg h)⟩;have:=h1.le;omega
theorem Qn1{n:Nat}(a:Int):∀(f:Nat) (b:Int) (u:HU),Q2 n u.cs=true->(u.lg=false->u.w<=400)->OU n f u (B4 a f b u).2
 |f,b,u,rK,hu=>by
  have hs:OU n f u (u.step.look b).2:=by
   have hw:=LW u.step b;refine⟨hw.2.1,hw.2.2,?_,?_,fun h=> ?_,fun h=> ?_⟩
   .rw[hw.1];exact WN _
   .rw[hw.1];show u.w+1<=_;omega
   .rw[hw.1];have:=(NW h).1;simp only[HU.step,XaB,WI]at this;show u.w+1<=400;omega
   .cases hq:(u.step.look b).2.lg with
    |true=>rfl
    |false=>
     have:=(NW hq).1;simp only[HU.step,XaB]at this;rw[h]at this;cases this.1
  cases f with
  |zero=>exact hs
  |succ f=>
   simp only[B4];split
   .exact hs
   .split
    .exact hs
    .rename_i hl _;have Ky:(u.step.look b).2.lg=false:=by simpa using hl
     have Kj:(u.step.look b).2.cs=u.cs:=(LW u.step b).2.1;have hA:=(Qj6 (a:=(u.step.look b).1) rK).1;obtain⟨a1,a2,a3,a4,a5,a6⟩:=QxT (n:=n) (f:=f) (g:=B4 a f) (cs:=u.cs) (fun x v hv hw=>Qn1 a f x v (by rw[hv];exact rK) hw) (EG u.cs (u.step.look b).1) ((u.step.look b).1+1) (u.step.look b).2 Kj hs.wk;refine⟨a1.trans hs.cs,a2.trans hs.tr,W3 hs.lt a3,?_,a5,fun h=>a6 (hs.lg h)⟩;have sL:=hs.wk Ky;omega
structure UU(n:Nat)(u:HU)(r:Bool×HU):Prop where
 gu:GU n r.2
 lt:u.w<r.2.w
 le:r.2.w<=3000
 ok:r.1=true->r.2.lg=false
 ext:u.tr.length+r.2.w<=r.2.tr.length+r.2.w/\r.2.tr.length<=u.tr.length+(r.2.w-u.w)
theorem QxN{n:Nat}{u:HU}(h:GU n u)(hl:u.lg=false){a b:Int}{c:HC}(ha:AD u.cs a=some c)(hk:c.k=0)(h0:0<=b)(h1:b<n):UU n u (KN a b u):=by
 have ho:=Qn1 (n:=n) a 401 b u h.good h.wk;have hw:=h.wk hl;have oW:=ho.le;have pU:=ho.lt;have ht:=h.trl
 have Nu:GU n (B4 a 401 b u).2:=⟨by rw[ho.cs];exact h.len,by rw[ho.cs];exact h.good,ho.wk,by rw[ho.tr];omega⟩
 unfold KN;split
 .exact⟨Nu,pU,(by show(B4 a 401 b u).2.w<=3000;omega),fun h=>Y7,(by dsimp only;rw[ho.tr];constructor<;>omega)⟩
 .rename_i hn
  have sA:(B4 a 401 b u).2.lg=false:=by
   cases hq:(B4 a 401 b u).2.lg with
   |false=>rfl
   |true=>exact absurd (.inr hq) hn
  refine⟨Nu.bind (by rw[ho.cs];exact ha) hk h0 h1 (by rw[ho.tr];omega),pU,by show(B4 a 401 b u).2.w<=3000;omega,fun _=>sA,?_⟩;show u.tr.length+(B4 a 401 b u).2.w<=((B4 a 401 b u).2.tr++[a]).length+(B4 a 401 b u).2.w/\((B4 a 401 b u).2.tr++[a]).length<=u.tr.length+((B4 a 401 b u).2.w-u.w);rw[ho.tr];exact OB
theorem QxV{n:Nat}{g:Int->Int->HU->Bool×HU}(hg:∀x y u,GU n u->u.lg=false->UU n u (g x y u)):
  ∀(m:Nat) (x y:Int) (u:HU),GU n u->u.lg=false->GU n (FY g m x y u).2/\u.w<=(FY g m x y u).2.w/\(FY g m x y u).2.w<=3000/\((FY g m x y u).1=true->(FY g m x y u).2.lg=false)/\u.tr.length<=(FY g m x y u).2.tr.length/\(FY g m x y u).2.tr.length<=u.tr.length+((FY g m x y u).2.w-u.w)
 |0,x,y,u,h,hl=>⟨h,XF _,by have:=h.wk hl;simp only[FY];omega,fun _=>hl,XF _,by simp only[FY];omega⟩
 |m+1,x,y,u,h,hl=>by
  have h1:=hg x y u h hl;have hx:=h1.ext;simp only[FY];split
  .rename_i oK;obtain⟨a1,a2,a3,a4,a5,a6⟩:=QxV hg m (x+1) (y+1) (g x y u).2 h1.gu (h1.ok oK);have:=h1.lt;exact Yea
  .exact⟨h1.gu,JM h1.lt,h1.le,h1.ok,by omega,by omega⟩
theorem Qnl{n : Nat} : ∀ (f : Nat) (a b : Int) (u : HU), GU n u -> u.lg = false -> UU n u (CE f a b u)
 | f, a, b, u, h, hl => by
  have hw0:=h.wk hl;have uF:=LW u.step a;have Af:=LW (u.step.look a).2 b;have vQ:GU n ((u.step.look a).2.look b).2:=(h.step.look a).look b
  have Ag:((u.step.look a).2.look b).2.w=u.w+1:=by rw[Af.1,uF.1];rfl
  have wH:((u.step.look a).2.look b).2.cs=u.cs:=by rw[Af.2.1,uF.2.1];rfl
  have wI:((u.step.look a).2.look b).2.tr=u.tr:=by rw[Af.2.2,uF.2.2];rfl
  have rC:UU n u (false,((u.step.look a).2.look b).2):=⟨vQ,(by show u.w<((u.step.look a).2.look b).2.w;rw[Ag];omega),(by show((u.step.look a).2.look b).2.w<=3000;rw[Ag];omega),fun h=>Y7,(by dsimp only;rw[wI,Ag];constructor<;>omega)⟩
  cases f with
  |zero=>exact rC
  |succ f=>
   simp only[CE];split
   .exact rC
   rename_i qY;have Bs:((u.step.look a).2.look b).2.lg=false:=by simpa using qY
   obtain⟨Hp,qJ,pH⟩:=NW Bs;obtain⟨_,Nv,Fs⟩:=NW Hp;rw[uF.2.1]at qJ pH;obtain⟨x,hx,Iz⟩:=TO Fs;obtain⟨y,hy,Db⟩:=TO pH;rw[<-Nv]at hx Iz;rw[<-qJ]at hy Db;replace hx:AD u.cs (u.step.look a).1=some x:=hx;replace hy:AD u.cs ((u.step.look a).2.look b).1=some y:=hy;obtain⟨x0,x1,_⟩:=AZ.1 hx;obtain⟨y0,y1,_⟩:=AZ.1 hy;rw[h.len]at x1 y1
   have hkx:GH u.cs (u.step.look a).1=x.k:=by unfold GH;rw[hx]
   have hky:GH u.cs ((u.step.look a).2.look b).1=y.k:=by unfold GH;rw[hy]
   rw[hkx,hky]
   have hstep:∀{r:Bool×HU},UU n ((u.step.look a).2.look b).2 r->UU n u r:=fun{r} hr=>by
    have h1:=hr.lt;have h2:=hr.ext;rw[Ag]at h1 h2;rw[wI]at h2;exact⟨hr.gu,by omega,hr.le,hr.ok,by omega,by omega⟩
   split
   .rename_i rU;split
    .rename_i wB;split
     .exact⟨vQ,by show u.w<((u.step.look a).2.look b).2.w;rw[Ag];omega,by show((u.step.look a).2.look b).2.w<=3000;rw[Ag];omega,fun _=>Bs,by dsimp only;rw[wI,Ag];constructor<;>omega⟩
     .have ht:=h.trl
      have pN:GU n (((u.step.look a).2.look b).2.bind (max (u.step.look a).1 ((u.step.look a).2.look b).1) (min (u.step.look a).1 ((u.step.look a).2.look b).1)):=by
       rcases WS (u.step.look a).1 ((u.step.look a).2.look b).1 with oW|oW
       .rw[XaQ oW,Xbh oW];exact vQ.bind (by rw[wH];exact hy) wB x0 x1 (by rw[wI,Ag];omega)
       .rw[XaR oW,Xbi oW];exact vQ.bind (by rw[wH];exact hx) rU y0 y1 (by rw[wI,Ag];omega)
      refine⟨pN,by show u.w<((u.step.look a).2.look b).2.w;rw[Ag];omega,by show((u.step.look a).2.look b).2.w<=3000;rw[Ag];omega,fun _=>Bs,?_⟩;simp only[HU.bind,XG,XJ,XP];rw[wI,Ag];constructor<;>omega
    .exact hstep (QxN vQ Bs (by rw[wH];exact hx) rU y0 y1)
   .split
    .rename_i wB;exact hstep (QxN vQ Bs (by rw[wH];exact hy) wB x0 x1)
    .unfold MJ;split
     .obtain⟨a1,a2,a3,a4,a5,a6⟩:=QxV (fun x y v hv Fo=>Qnl f x y v hv Fo) (EG ((u.step.look a).2.look b).2.cs (u.step.look a).1) ((u.step.look a).1+1) (((u.step.look a).2.look b).1+1) _ vQ Bs;rw[Ag]at a2 a6;rw[wI]at a5 a6;exact Yea
     .exact rC
inductive FL(L:List HC):Nat->Int->Int->Prop
 |here {a:Int} {c:HC}:AD L a=some c->¬(c.k=0/\c.n≠a)->FL L 0 a a
 |there {n:Nat} {a x:Int} {c:HC}:AD L a=some c->c.k=0->c.n≠a->FL L n c.n x->FL L (n+1) a x
def End(L:List HC)(a x:Int):Prop:=∃n,FL L n a x
theorem FL.det{L:List HC}{n m:Nat}{a x y:Int}(h:FL L n a x):FL L m a y->n=m/\x=y:=by
 induction h generalizing m with
 |here h0 h1=>
  intro g
  cases g with
  |here g0 g1=>exact⟨rfl,rfl⟩
  |there g0 g1 g2 _=>rw[h0]at g0;cases g0;exact absurd ⟨g1,g2⟩ h1
 |there h0 h1 h2 _ ih=>
  intro g
  cases g with
  |here g0 g1=>rw[h0]at g0;cases g0;exact absurd ⟨h1,h2⟩ g1
  |there g0 g1 g2 g3=>
   rw[h0]at g0;cases g0;obtain⟨_,e2⟩:=ih g3;exact⟨by omega,e2⟩
theorem End.det{L:List HC}{a x y:Int}(h:End L a x)(g:End L a y):x=y:=by
 obtain⟨_,h⟩:=h;obtain⟨_,g⟩:=g;exact(h.det g).2
theorem FL.last{L:List HC}{n:Nat}{a x:Int}(h:FL L n a x):∃c,AD L x=some c/\¬(c.k=0/\c.n≠x):=by
 induction h with
 |here h0 h1=>exact⟨_,h0,h1⟩
 |there _ _ _ _ ih=>exact ih
theorem End.last{L:List HC}{a x:Int}(h:End L a x):∃c,AD L x=some c/\¬(c.k=0/\c.n≠x):=by
 obtain⟨_,h⟩:=h;exact h.last
theorem End.self{L:List HC}{a x:Int}(h:End L a x):End L x x:=by
 obtain⟨c,h0,h1⟩:=h.last;exact⟨0,.here h0 h1⟩
theorem End.first{L:List HC}{a x:Int}(h:End L a x):∃c,AD L a=some c:=by
 obtain⟨_,h⟩:=h
 cases h with
 |here h0 _=>exact⟨_,h0⟩
 |there h0 _ _ _=>exact⟨_,h0⟩
theorem QjS:∀(n:Nat) (l:T6),l.Nodup->(∀y∈l,y<n)->l.length<=n
 |0,l,_,h=>by
  cases l with
  |nil=>simp
  |cons y l=>exact absurd (h y Yd) Ya
 |n+1,l,hn,h=>by
  by_cases hm:n∈l
  .have h1:=QjS n (l.erase n) (hn.erase n) fun y hy=>by
    have h2:=(hn.mem_erase_iff).1 hy;have h3:=h y h2.2;have h4:=h2.1;omega
   rw[List.length_erase_of_mem hm]at h1;omega
  .have:=QjS n l hn fun y hy=>by
    have h3:=h y hy;have h4:y≠n:=fun e=>hm (e ▸ hy);omega
   omega
theorem FL.list{L:List HC}{n:Nat}{a x:Int}(h:FL L n a x):∃l:T6,l.length=n+1/\l.Nodup/\(∀y∈l,y<L.length)/\∀y∈l,∃j,j<=n/\FL L j (y:Int) x:=by
 induction h with
 | @here a c h0 h1=>
  obtain⟨g0,g1,_⟩:=AZ.1 h0;refine⟨[a.toNat],rfl,by simp,fun y hy=> ?_,fun y hy=>⟨0,XF _,?_⟩⟩
  .simp at hy;omega
  .simp at hy;rw[show((y:Nat):Int)=a by omega];exact .here h0 h1
 | @there n a x c h0 h1 h2 h3 ih=>
  obtain⟨g0,g1,_⟩:=AZ.1 h0;obtain⟨l,l1,l2,l3,l4⟩:=ih;have ha:((a.toNat:Nat):Int)=a:=by omega
  refine⟨a.toNat::l,by simp[l1],Xa9.2 ⟨fun hm=> ?_,l2⟩,fun y hy=> ?_,fun y hy=> ?_⟩
  .obtain⟨j,hj,he⟩:=l4 _ hm;rw[ha]at he;have:=(he.det (.there h0 h1 h2 h3)).1;omega
  .rcases XV.1 hy with rfl|hy
   .omega
   .exact l3 y hy
  .rcases XV.1 hy with rfl|hy
   .rw[ha];exact⟨n+1,XF _,.there h0 h1 h2 h3⟩
   .obtain⟨j,hj,he⟩:=l4 y hy;exact⟨j,by omega,he⟩
theorem FL.lt{L:List HC}{n:Nat}{a x:Int}(h:FL L n a x):n<L.length:=by
 obtain⟨l,_,l2,l3,_⟩:=h.list;have:=QjS L.length l l2 l3;omega
theorem Qu7{L:List HC}{n:Nat}{a x:Int}(h:FL L n a x):∀f,n<f->FG L f a=x:=by
 induction h with
 |here h0 h1=>
  intro f hf
  obtain⟨f,rfl⟩:∃g,f=g+1:=⟨f-1,by omega⟩
  simp only[FG,h0,XA h1]
 |there h0 h1 h2 _ ih=>
  intro f hf
  obtain⟨f,rfl⟩:∃g,f=g+1:=⟨f-1,by omega⟩
  simp only[FG,h0,XB (And.intro h1 h2)];exact ih f Ya
theorem Qg1{L:List HC}:∀(f:Nat) (a:Int),¬FG L f a<0->∃n,FL L n a (FG L f a)
 |0,a,h=>absurd (show FG L 0 a<0 by simp[FG]) h
 |f+1,a,h=>by
  cases hc:AD L a with
  |none=>simp only[FG,hc]at h;exact absurd Yf h
  |some c=>
   by_cases hb:c.k=0/\c.n≠a
   .simp only[FG,hc,XB hb]at h⊢;obtain⟨n,hn⟩:=Qg1 f c.n h;exact⟨n+1,.there hc hb.1 hb.2 hn⟩
   .simp only[FG,hc,XA hb];exact⟨0,.here hc hb⟩
theorem End.look{L:List HC}{a x:Int}(h:End L a x):Qw L a=x:=by
 obtain⟨_,h⟩:=h;exact Qu7 h _ h.lt
theorem QmN{L:List HC}{a:Int}(h:¬Qw L a<0):End L a (Qw L a):=Qg1 _ _ h
theorem End.nonneg{L:List HC}{a x:Int}(h:End L a x):0<=x:=by
 obtain⟨c,h0,_⟩:=h.last;exact(AZ.1 h0).1
theorem QhE{L:List HC}{a:Int}(h:¬∃x,End L a x):Qw L a= -1:=by
 rcases U3 (L:=L) L.length a with h1|⟨c,h1,_⟩
 .exact h1
 .refine absurd ⟨Qw L a,QmN ?_⟩ h;have:=(AZ.1 h1).1;unfold Qw;omega
theorem OC{L:List HC}{r:Int}{c:HC}(hr:AD L r=some c)(y a:Int):AD (DD L r.toNat y) a=if a=r then some ⟨c.k,y,c.s⟩else AD L a:=by
 obtain⟨r0,r1,r2⟩:=AZ.1 hr;unfold AD;by_cases ha:0<=a
 .rw[XB ha,XB ha,QiD];by_cases he:a=r
  .rw[XB he,XB (by rw[he]),he,r2];rfl
  .rw[XA he,XA Ya]
 .rw[XA ha,XA ha,XA Ya]
structure Up(L L':List HC):Prop where
 ends:∀a x,End L a x->∃y,End L' a y/\End L' x y
 cell:∀a c,AD L a=some c->c.k≠0->AD L' a=some c
theorem Qxb{L:List HC}{r y:Int}{c:HC}(hr:AD L r=some c)(hk:c.k=0)(hn:c.n=r)(hy:End L y y)(oN:y≠r):
  (∀a x,End L a x->x≠r->End (DD L r.toNat y) a x)/\(∀a,End L a r->End (DD L r.toNat y) a y):=by
 have hyy:End (DD L r.toNat y) y y:=by
  obtain⟨d,d0,d1⟩:=hy.last;exact⟨0,.here (by rw[OC hr,XA oN];exact d0) d1⟩
 have key:∀n a x,FL L n a x->End (DD L r.toNat y) a (if x=r then y else x):=by
  intro n a x h
  induction h with
  | @here a d h0 h1=>
   by_cases ha:a=r
   .rw[XB ha];obtain⟨m,hm⟩:=hyy;exact⟨m+1,.there (c:=⟨c.k,y,c.s⟩) (by rw[OC hr,XB ha]) hk (by rw[ha];exact oN) hm⟩
   .rw[XA ha];exact⟨0,.here (by rw[OC hr,XA ha];exact h0) h1⟩
  | @there n a x d h0 h1 h2 _ ih=>
   have ha:a≠r:=fun e=>by
    rw[e,hr]at h0;cases h0;rw[e]at h2;exact h2 hn
   obtain⟨m,hm⟩:=ih;exact⟨m+1,.there (by rw[OC hr,XA ha];exact h0) h1 h2 hm⟩
 refine⟨fun a x ⟨n,h⟩ hx=> ?_,fun a ⟨n,h⟩=> ?_⟩
 .have:=key n a x h;rwa [XA hx]at this
 .have:=key n a r h;rwa [XB rfl]at this
def Bis(L:List HC)(R:Int->Int->Prop):Prop:=∀a b,R a b->a=b\/∃x y,End L a x/\End L b y/\(x=y\/∃c,AD L x=some c/\AD L y=some c/\c.k≠0/\∀i:Int,0<=i->i<QU c->R (x+1+i) (y+1+i))
def Sm(L:List HC)(a b:Int):Prop:=∃R,Bis L R/\R a b
end Go.Proofs.YthliapbflkfdiacGreatDoor
