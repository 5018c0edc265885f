/- Steps of the proof. -/
import Derived.Test.YthliapbflkfdiacGreatDoorG22
set_option linter.unusedVariables false
set_option linter.unusedSimpArgs false
set_option maxRecDepth 100000
set_option maxHeartbeats 1000000
namespace Go.Proofs.YthliapbflkfdiacGreatDoor
open Go.Proofs.Tryz
open Go.RowKit
structure OE where
 k:Int
 A:T4
 c:Nat
 T:TA
def OE.ev(x:OE):Ev:=(x.k,x.T.ts)
abbrev QAh(x:OE):T5:=[.int .i64 x.k,.slice x.A x.T.len x.c]
def HW:List OE->T5
 |[]=>[]
 |x::r=>QAh x++HW r
theorem QyA:∀L,(HW L).length=L.length*2
 |[]=>rfl
 |x::r=>by simp only[HW,XG,QyA r,XJ];show 2+_=_;omega
theorem QpI:∀L K,HW (L++K)=HW L++HW K
 |[],K=>rfl
 |x::r,K=>by simp only[HW,VI,QpI r K,VB]
theorem Qup:∀L,(HW L).all (·.oneCell')=true
 |[]=>rfl
 |x::r=>by simp only[HW,JQ,Qup r,WA];rfl
abbrev DN(pA:T4)(np pc q:Nat)(p:AO)(oA:T4)(no oc:Nat):T5:=[.slice pA np pc,.int .i64 (q:Nat),.int .i64 (p.fuel:Nat),.int .i64 (p.vars:Nat),.slice oA no oc,.bool p.ended,.int .i64 (p.calls:Nat)]
def CW(M:T6)(w0:TG)(H:T0)(F:T3)(pb:Nat)(pA:T4)(np pc q:Nat)(p:AO)(w:TG):Prop:=
 ∃(K:List OE) (oA:T4) (oc:Nat) (O:T0),K.map OE.ev=p.out/\(∀x∈K,AB F (AV x.A x.c x.T))/\Rw 34 2 (.slice oA K.length oc) K.length (HW K) O/\
  St M w0 ((pb,.cells (DN pA np pc q p oA K.length oc).toArray 109)::(O++H)) F w
theorem Qra{P:Program}{n:Nat}{e:AW}{w:TG}{Q:Exit->Act->TG->Prop}{oI:TB}{rest:TC}{ty:TypeId}{pos:String}{after:TE}{d:Nat}{M:T6}{w0:TG}{F:T3}{H H':T0}{x y:Operand}{v:TH}{t tx:TypeId}{el len c:Nat}{A:T4}{u:OE}{xs:T5}{O:T0}(hS:St M w0 H F w)(hx:ev n e x=v)(hy:ev n e y= .slice A 1 c)
  (hT:QE P t=some el) (sO:QE P tx=some el) (hi:LV P el=some (2,32)) (hL:QG 2 (HW [u]) A 1 c w) (oE:Rw el 2 v len xs O)
  (hP:H.Perm (O++H')) (qU:len+1<=1099511627776) (hd:Nat.blt d n=true)
  (h:∀v' O' w',Rw el 2 v' (len+1) (xs++HW [u]) O'->St M w0 (O'++H') F w'->AU P Q oI rest n ((d,v')::e) w'):
  AU P Q oI (⟨some d,.call ⟨.builtin .append, #[x,y], #[t,tx]⟩,ty,pos,after,none⟩::rest) n e w:=by
 obtain⟨_,_,h2,h3,h4,h5,h6⟩:=K6 hi;refine RI (k:=1) (ys:=HW [u]) hS hx hy hT sO h2 h3 h4 (by rw[h5];rfl) (by rw[h5];exact hL.src sO (Qup _)) TP hP RC Ya hd ?_;rw[h5];exact h
section
variable{M:T6}{w0:TG}{H:T0}{F:T3}
theorem OQ(pb:Nat)(pA:T4)(np pc q:Nat)(p:AO)(k:Int)(w:TG)(ho:p.out.length<=100)(hP:CW M w0 H F pb pA np pc q p w):
  Calls prog 63 #[.pointer (some ⟨pb,0,none⟩),.int .i64 k] w fun e w'=>e= .returned (.int .i64 (-1))/\CW M w0 H F pb pA np pc q (DH k p) w':=by
 obtain⟨K,oA,oc,O,hK,tF,oE,hS⟩:=hP
 have Ll:K.length<=100:=by have:=XM List.length hK;exact ZX
 refine Qh func63 rfl ntmps63 rfl ?_;apply Zq.e.i.O.d4.y.g.nA.h0.1;clear hS;intro _ _ hS;refine Qra (u:=⟨k,none,0,.nil⟩) hS Yb Yi rfl rfl rfl (QG.own (sp:=[]) (hS.own (_,_) (.head _)) rfl (XF _)) oE (XK [_,_] O _) Ya rfl ?_;clear hS;intro _ O7 _ pD hS;obtain⟨B7,d7,rfl,_⟩:=pD.form;replace hS:=(hS.perm (XK O7 [_,_] _)).drop;apply Zq.O.d4.J.1;clear hS;intro _ hS;apply Zq.dT.cQ.J.1;clear hS;intro _ hS;apply Zq.b.e.1;refine Qd func63 rfl Yb ?_;refine⟨rfl,K++[⟨k,none,0,.nil⟩],B7,d7,O7,?_,?_,?_,?_⟩
 .rw[VD,hK];rfl
 .intro x hx;rcases VG.1 hx with hx|hx
  .exact tF x hx
  .rw[VJ.1 hx];exact fun w _=>⟨XF _,fun h=>absurd h R3⟩
 .rw[XG,QpI];exact pD
 .rw[XG];exact hS
end
abbrev ZO(l:Int):Obj:= .cells [.int .i64 l].toArray 3
def IC(B:AC)(f:Nat)(t:Tm)(l:Nat):Option (Tm×Nat):=CJ BX B f t l
def IG(B:AC)(f:Nat)(T:List Tm)(l:Nat):Option (Ts×Nat):=CD (CJ BX B f) T l
theorem Qkp(B:AC)(f:Nat)(t:Tm):IC B f t 0=none:=by
 cases f<;>rfl
theorem QvN(B:AC)(f:Nat)(t:Tm)(l:Nat):IC B (f+1) t (l+1)=if(Qc B t).k=0 then some (⟨0,(Qc B t).n,⟨#[]⟩,.nil⟩,l)else match IG B f (Qc B t).ar.tms l with
  |none=>none
  |some (T,l')=>some (⟨(Qc B t).k,(Qc B t).n,(Qc B t).s,T⟩,l'):=by
 have e:IC B (f+1) t (l+1)=CJ BX B (f+1) t (l+1):=rfl;rw[e];simp only[CJ];rw[XA (Nat.succ_ne_zero l),show BX.view B t=AX (Qc B t)from rfl,Nat.add_sub_cancel];unfold AX;by_cases hk:(Qc B t).k=0
 .rw[XB hk,XB hk]
 .rw[XA hk,XA hk]
  cases hq:IG B f (Qc B t).ar.tms l with
  |none=>
   have xC:CD (CJ BX B f) (Qc B t).ar.tms l=none:=hq;show(match CD (CJ BX B f) (Qc B t).ar.tms l with|none=>none|some (T,l')=>some (_,l'))=_;rw[xC]
  |some q=>
   have xC:CD (CJ BX B f) (Qc B t).ar.tms l=some q:=hq;show(match CD (CJ BX B f) (Qc B t).ar.tms l with|none=>none|some (T,l')=>some ((⟨(Qc B t).k,(Qc B t).n,(Qc B t).s,T⟩:Tm),l'))=_;rw[xC]
theorem QjX(B:AC)(f:Nat)(x:Tm):∀(T:List Tm) (l:Nat),IG B f (T++[x]) l=match IG B f T l with
  |none=>none
  |some (U,n)=>match IC B f x n with
   |none=>none
   |some (t,n')=>some (U.app (.cons t.k t.n t.s t.ar .nil),n')
 |[],l=>by
  show CD (CJ BX B f) [x] l=match IC B f x l with
   |none=>none
   |some (t,n')=>some (Ts.nil.app (.cons t.k t.n t.s t.ar .nil),n')
  simp only[CD]
  show(match IC B f x l with
   |none=>none
   |some (t,l')=>some (Ts.cons t.k t.n t.s t.ar .nil,l'))=_
  cases IC B f x l with
  |none=>rfl
  |some p=>obtain⟨a,b⟩:=p;rfl
 |y::T,l=>by
  have ih:=QjX B f x T
  have e:∀(L:List Tm) (l:Nat),IG B f (y::L) l=match IC B f y l with
   |none=>none
   |some (t,l')=>match IG B f L l' with
    |none=>none
    |some (U,l'')=>some (.cons t.k t.n t.s t.ar U,l''):=fun L l=>rfl
  rw[VI,e,e]
  cases IC B f y l with
  |none=>rfl
  |some p=>
   obtain⟨a,b⟩:=p;dsimp only;rw[ih]
   cases IG B f T b with
   |none=>rfl
   |some q=>
    obtain⟨U,n⟩:=q;dsimp only
    cases IC B f x n with
    |none=>rfl
    |some r=>obtain⟨c,d⟩:=r;rfl
def WOk(o:Option (Tm×Nat))(u:LT)(l l':Int):Prop:=(match o with|some (T,n)=>u.tm=T/\l'=(n:Int)|none=>l'<0)/\l-1-5*(max l 0-max l' 0)<=l'/\max l' 0<=max l 0
def MOk(o:Option (Ts×Nat))(T:Ts)(l':Int):Prop:=match o with|some (U,n)=>T=U/\l'=(n:Int)|none=>l'<0
def Qy1(f:Nat):Prop:=∀(M:T6) (w0:TG) (H:T0) (F:T3) (E:List EN) (t:LT) (lb:Nat) (l:Int) (w:TG),DU F E->AB F (BW t)->AL t.tm->l<=200->-100000<=l->l<=f->St M w0 ((lb,ZO l)::H) F w->
 Calls prog 158 #[DQ E,tv t,.pointer (some ⟨lb,0,none⟩)] w fun e w'=>∃(u:LT) (l':Int) (F':T3),e= .returned (tv u)/\(∀φ∈F,φ∈F')/\AB F' (BW u)/\WOk (IC (QK E) (f+1) t.tm l.toNat) u l l'/\St M w0 ((lb,ZO l')::H) F' w'
theorem Qqr(f:Nat)(ihf:∀g,f=g+1->Qy1 g):Qy1 f:=by
 intro M w0 H F E t lb l w hE ht gt _ _ _ hS;refine QQ func158 rfl ntmps158 rfl ?_;by_cases h0:l<=0
 .have e0:l.toNat=0:=by omega
  rw[e0,Qkp];apply Zq.w.1;clear hS;intro b1 oQ hS;apply Zq.R.1;clear hS;intro b2 pP hS;apply Zq.b.aH.y.b3.O.J.1;clear hS;intro pM hS;apply Zq.dT.y.I.dG.d2.d.1;clear hS;intro sR hS;apply Zq.b.mK.1;exact⟨⟨0,0,⟨#[]⟩,none,0,.nil⟩,l-1,F,rfl,fun _ h=>h,fun w _=>⟨XF _,fun h=>absurd h R3⟩,⟨by show l-1<0;omega,by omega,by omega⟩,hS.drop.drop⟩
 obtain⟨m,rfl⟩:∃m:Nat,l=(m:Int)+1:=⟨(l-1).toNat,by omega⟩
 obtain⟨f,rfl⟩:∃g,f=g+1:=⟨f-1,by omega⟩
 have ihf:=ihf f rfl;have e1:((m:Int)+1).toNat=m+1:=by omega
 rw[e1,QvN];apply Zq.w.1;clear hS;intro b1 oQ hS;apply Zq.R.1;clear hS;intro b2 pP hS;apply Zq.b.aH.y.b3.O.J.1;clear hS;intro pM hS;apply Zq.dT.y.c1.h.cE.f.1;refine XE (UI E t _ hE.rd ht hE.ok hS) ?_;rintro _ _ ⟨zz,rfl,sY,vX,_,oD⟩;apply Zq.a.1;replace hS:=oD;clear oD;rw[<-sY]
 have tz:AL zz.tm:=by rw[sY];exact LN hE.gd gt
 have tR:zz.ar.len<=4:=by
  have:=tz.1;simp only[Ts.good,XI]at this;have hn:=this.1.1;have hl:zz.tm.ar.length=zz.ar.len:=TA.len_ts _;rw[hl]at hn;unfold CL at hn;split at hn
  .exact Ydn
  split at hn
  .exact Ydn
  split at hn
  .exact Ydn
  split at hn
  .exact Ydn
  .cases hn
 have yW:=RO (T:=zz.ar) (GJ _ tz);apply Zq.d.1;clear hS;intro sR hS;apply Zq.cT.cS.c.p.bI.J.1;clear hS;intro _ hS;apply Zq.b.m.aQ.1;refine Qp 28 (29::30::31::9::32::33::34::35::36::37::38::39::40::41::[]) (fun(R:TA) v w'=>∃(D Td:TA) (Au:T4) (cu:Nat) (Ou:T0) (lc:Int) (F':T3),zz.ar=D.app R/\v= .int .i64 (D.len:Nat)/\(∀φ∈F,φ∈F')/\AB F' (IQ Td)/\Td.len=D.len/\MOk (IG (QK E) (f+1) D.ts.tms m) Td.ts lc/\(m:Int)-D.len-5*((m:Int)-max lc 0)<=lc/\max lc 0<=m/\Rw 63 4 (.slice Au Td.len cu) Td.len (EU Td) Ou/\St M w0 ((b2,.cells [.int .i64 0,.int .i64 0,.string ⟨#[]⟩,.slice none 0 0].toArray 63)::(b1,.cells [.int .i64 zz.k,.int .i64 zz.n,.string zz.s,.slice Au Td.len cu].toArray 63)::(lb,ZO lc)::(Ou++H)) F' w') (fun R=>R.len) (zz.ar) ?_ Yb ?_
 .refine⟨.nil,.nil,none,0,[],m,F,rfl,rfl,fun _ h=>h,fun _ _=>trivial,rfl,⟨rfl,rfl⟩,by simp only[TA.len];omega,by omega,Rw.zero_,?_⟩;rw[show((m:Int)+1)-1=m by omega]at hS;exact hS
 clear hS;rintro R _ _ _ ⟨D,Td,Au,cu,Ou,lc,F',hD,rfl,hF,Bi,zU,hM,_,_,oE,hS⟩ ih;have oG:zz.ar.len=D.len+R.len:=by rw[hD,TA.len_app]
 cases R with
 |nil=>
  have e0:zz.ar=D:=by rw[hD,TA.app_nil]
  have Vn:TA.nil.len=0:=rfl;replace hS:=hS.perm (XK [_,_,_] Ou _);obtain⟨F9,rI,hA9,oD⟩:=St.freezeT oE Bi hS;clear hS;have hS:=oD;clear oD;apply Zq.W.p.cE.d.1;clear hS;intro zO hS;apply Zq.b.mK.1;refine⟨⟨zz.k,zz.n,zz.s,Au,cu,Td⟩,lc,F9,rfl,fun φ h=>rI φ (hF φ h),hA9,⟨?_,by omega,by omega⟩,hS.drop.drop⟩;rw[<-e0]at hM;by_cases hk:zz.k=0
  .rw[XB (show zz.tm.k=0 from hk)];obtain⟨x1,x2⟩:=Qmb tz hk;have vB:zz.ar.ts= .nil:=x2;rw[vB]at hM;obtain⟨y1,y2⟩:Td.ts= .nil/\lc=(m:Int):=hM;refine⟨?_,y2⟩;show(⟨zz.k,zz.n,zz.s,Td.ts⟩:Tm)=⟨0,zz.n,⟨#[]⟩,.nil⟩;rw[y1,hk,show zz.s=⟨#[]⟩from x1]
  .rw[XA (show¬zz.tm.k=0 from hk)];show(match(match IG (QK E) (f+1) zz.ar.ts.tms m with|none=>none|some (T,l')=>some ((⟨zz.k,zz.n,zz.s,T⟩:Tm),l'))with|some (T,n)=>(⟨zz.k,zz.n,zz.s,Td.ts⟩:Tm)=T/\lc=(n:Int)|none=>lc<0)
   cases hq:IG (QK E) (f+1) zz.ar.ts.tms m with
   |none=>rw[hq]at hM;exact hM
   |some q=>
    obtain⟨U,n⟩:=q;rw[hq]at hM;obtain⟨y1,y2⟩:Td.ts=U/\lc=(n:Int):=hM;exact⟨by rw[y1],y2⟩
 |cons k1 n1 s1 A1 c1 a1 r=>
  have wV:(TA.cons k1 n1 s1 A1 c1 a1 r).len=r.len+1:=rfl
  have Cq:AB F' (AV zz.A zz.c (D.app (.cons k1 n1 s1 A1 c1 a1 r))):=by rw[<-hD];exact AB.mono vX hF
  obtain⟨_,ok,zZ⟩:=(hS.und Cq).some_ YI;rw[zZ]at Cq⊢;have oS:∀{H'} w',St M w0 H' F' w'->_:=fun w' hS=>(hS.und Cq).cells;have rQ:AB F' (BW ⟨k1,n1,s1,A1,c1,a1⟩):=fun w hw=>(Cq w hw).sub
  have hEF:DU F' E:=⟨hE.rd.mono hF,hE.ok,hE.gd⟩
  have gx:AL (LT.tm ⟨k1,n1,s1,A1,c1,a1⟩):=yW ⟨k1,n1,s1,A1,c1,a1⟩ (by rw[hD,TA.lts_app];simp[TA.lts]);apply Zq.cB.cF.dI.R.1;clear hS;intro b3 zO hS;apply Zq.d.1;clear hS;intro _ hS;apply Zq.b.1;replace hS:=hS.perm (List.Perm.cons _ (List.Perm.swap _ _ _));refine PX 39 (32::33::34::35::36::37::38::40::[]) (fun y w'=>∃(u2:LT) (l2:Int) (F2:T3) (A9:T4) (c9:Nat) (O9:T0),(∀φ∈F',φ∈F2)/\AB F2 (BW u2)/\WOk (IC (QK E) (f+1) (LT.tm ⟨k1,n1,s1,A1,c1,a1⟩) lc.toNat) u2 lc l2/\Rw 63 4 (.slice A9 (Td.len+1) c9) (Td.len+1) (EU Td++AN u2) O9/\St M w0 ((b3,.cells [.int .i64 k1,.int .i64 n1,.string s1,.slice A1 a1.len c1].toArray 63)::(b1,.cells [.int .i64 zz.k,.int .i64 zz.n,.string zz.s,.slice A9 (Td.len+1) c9].toArray 63)::(b2,.cells [.int .i64 0,.int .i64 0,.string ⟨#[]⟩,.slice none 0 0].toArray 63)::(lb,ZO l2)::(O9++H)) F2 w') ?_ ?_
  .intro oF;refine K1 (fun w=>∃O:T0,St M w0 ((b3,.cells [.int .i64 k1,.int .i64 n1,.string s1,.slice A1 a1.len c1].toArray 63)::(b1,.cells [.int .i64 zz.k,.int .i64 zz.n,.string zz.s,.slice Au Td.len cu].toArray 63)::O) F' w) 9 (.read 0 (.read 1 (.read 2 (.read 3 (.read 4 (.pick 5 (.pick 6 (.pick 7 (.read 8 .tail) .none) .none) .none)))))) Yc Yc ⟨_,hS.drew⟩ ?_;replace hS:=hS.drew;apply Zq.hJ.1
   first
    |refine Qj rfl (fun _ ⟨_,hS⟩=>Qf hS rfl rfl Ym Yh) rfl ?_
    |refine Qj rfl (fun _ ⟨_,hS⟩=>Qm rfl rfl (by first|assumption|exact(oS _ hS).1|exact(oS _ hS).2.1|exact(oS _ hS).2.2.1|exact(oS _ hS).2.2.2|exact hS.cell0 Ye|exact Qt hS|exact Qu hS)) rfl ?_
   apply Zq.eJ.1
   first
    |refine Qj rfl (fun _ ⟨_,hS⟩=>Qb (k:=4) hS rfl rfl rfl Ym Yh) rfl ?_
    |refine Qj rfl (fun _ ⟨_,hS⟩=>Qb (k:=4) hS rfl rfl rfl Ym Ye) rfl ?_
    |refine Qj rfl (fun _ ⟨_,hS⟩=>Q7 rfl rfl rfl Yu Yu Yu Yu) rfl ?_
   apply Zq.eJ.a0.bA.1;refine XE (ihf M w0 _ F' E ⟨k1,n1,s1,A1,c1,a1⟩ lb lc _ hEF rQ gx Ya Ya Ya (hS.perm (XK [_,_,_] [_] _))) ?_;rintro _ _ ⟨u2,l2,F2,rfl,pF,pT,yK,oD⟩;apply Zq.a.1;clear hS;have hS:=oD.perm (XK [_] [_,_,_] _);clear oD;apply Zq.kP.a0.dZ.1;clear hS;intro _ _ hS;apply Zq.kP.a0.1;refine Qmt (u:=u2) hS Yb Yi rfl rfl rfl (QG.own (sp:=[]) (hS.own (_,_) (.head _)) rfl (XF _)) oE (XK [_,_,_,_,_] Ou _) Ya rfl ?_;clear hS;intro _ O9 _ oO hS;obtain⟨A9,c9,rfl,_⟩:=oO.form;replace hS:=hS.perm (XK O9 [_,_,_,_,_] _);apply Zq.kP.hJ.eB.J.1;clear hS;intro _ hS;apply Zq.b.1;exact oF _ _ _ ⟨u2,l2,F2,A9,c9,O9,pF,pT,yK,oO,hS.drop⟩ Yb Yc
  clear hS;rintro _ _ _ ⟨u2,l2,F2,A9,c9,O9,pF,pT,yK,oO,hS⟩
  have e1:(Td.app (.cons u2.k u2.n u2.s u2.A u2.c u2.ar .nil)).len=Td.len+1:=by rw[TA.len_app];rfl
  obtain⟨Cr,_,_⟩:=yK;apply Zq.aZ.1;rw[<-zZ];refine ih (r) _ _ _ ?_ ?_ Yb Yc
  .omega
  .refine⟨D.app (.cons k1 n1 s1 A1 c1 a1 .nil),Td.app (.cons u2.k u2.n u2.s u2.A u2.c u2.ar .nil),A9,c9,O9,l2,F2,by rw[hD,TA.app_assoc];rfl,by rw[TA.len_app];rfl,fun φ h=>pF φ (hF φ h),?_,?_,?_,?_,by omega,?_,?_⟩
   .exact fun w hw=>IQ.app (U:= .cons u2.k u2.n u2.s u2.A u2.c u2.ar .nil) ⟨pT w hw,trivial⟩ ((Bi.mono pF) w hw)
   .rw[e1,TA.len_app,zU];rfl
   .have es:(D.app (.cons k1 n1 s1 A1 c1 a1 .nil)).ts.tms=D.ts.tms++[LT.tm ⟨k1,n1,s1,A1,c1,a1⟩]:=by rw[<-TA.lts_tm,<-TA.lts_tm,TA.lts_app,VD];rfl
    rw[es,QjX];unfold MOk at hM⊢
    cases hq:IG (QK E) (f+1) D.ts.tms m with
    |none=>
     rw[hq]at hM;exact Ydo
    |some x=>
     obtain⟨U,n⟩:=x;rw[hq]at hM;obtain⟨y1,y2⟩:Td.ts=U/\lc=(n:Int):=hM;rw[show lc.toNat=n by omega]at Cr;dsimp only
     cases Bz:IC (QK E) (f+1) (LT.tm ⟨k1,n1,s1,A1,c1,a1⟩) n with
     |none=>rw[Bz]at Cr;exact Cr
     |some x2=>
      obtain⟨T2,n2⟩:=x2;rw[Bz]at Cr;obtain⟨z1,z2⟩:u2.tm=T2/\l2=(n2:Int):=Cr;exact Yem
   .rw[TA.len_app];show(m:Int)-((D.len+1:Nat):Int)-5*((m:Int)-max l2 0)<=l2;omega
   .rw[e1,Qiz];exact oO
   .rw[e1];exact(hS.perm (List.Perm.cons _ (List.Perm.swap _ _ _))).drop
theorem QkR:∀f,Qy1 f
 |0=>Qqr 0 fun g h=>by omega
 |f+1=>Qqr (f+1) fun g h=>by
                      have:f=g:=by omega
                      subst this;exact QkR f
def L8:Nat->Nat->List Tm
 |0,_=>[]
 |m+1,v=>⟨0,(v:Nat),⟨#[]⟩,.nil⟩::L8 m (v+1)
theorem QqX:∀m v,L8 (m+1) v=L8 m v++[⟨0,((v+m:Nat):Int),⟨#[]⟩,.nil⟩]
 |0,v=>by simp[L8]
 |m+1,v=>by
  rw[L8,QqX m (v+1),L8,show v+1+m=v+(m+1) by omega];rfl
theorem Qng(B:AC):∀(m v l:Nat),LG IY B m v l=IG B 201 (L8 m v) l
 |0,v,l=>rfl
 |m+1,v,l=>by
  have e:IG B 201 (L8 (m+1) v) l=match IC B 201 ⟨0,(v:Nat),⟨#[]⟩,.nil⟩ l with
   |none=>none
   |some (t,l')=>match IG B 201 (L8 m (v+1)) l' with
    |none=>none
    |some (U,l'')=>some (.cons t.k t.n t.s t.ar U,l''):=rfl
  have e2:LG IY B (m+1) v l=match IC B 201 ⟨0,(v:Nat),⟨#[]⟩,.nil⟩ l with
   |none=>none
   |some (t,l')=>match LG IY B m (v+1) l' with
    |none=>none
    |some (U,l'')=>some (.cons t.k t.n t.s t.ar U,l''):=rfl
  rw[e,e2]
  cases IC B 201 ⟨0,(v:Nat),⟨#[]⟩,.nil⟩ l with
  |none=>rfl
  |some x=>
   obtain⟨a,b⟩:=x;dsimp only;rw[Qng B m (v+1) b]
theorem QhA{X:Type}{g:X->Nat->Option (Tm×Nat)}(hg:∀x l p,g x l=some p->p.1.ar.nodes+1+p.2<=l):∀(L:List X) (l:Nat) (p:Ts×Nat),CD g L l=some p->p.1.nodes+p.2<=l
 |[],l,p,h=>by simp only[CD,XU]at h;subst h;simp[Ts.nodes]
 |x::r,l,p,h=>by
  simp only[CD]at h
  cases h1:g x l with
  |none=>rw[h1]at h;cases h
  |some q=>
   obtain⟨a,b⟩:=q;rw[h1]at h;dsimp only at h
   cases h2:CD g r b with
   |none=>rw[h2]at h;cases h
   |some q2=>
    obtain⟨_,c⟩:=q2;rw[h2]at h;dsimp only at h;cases h
    have i1:=hg x l _ h1;have i2:=QhA hg r b _ h2;dsimp only at i1 i2;exact KD
theorem QlZ{A:Sy}{σ:A.S}:∀(f:Nat) (x:A.X) (l:Nat) (p:Tm×Nat),CJ A σ f x l=some p->p.1.ar.nodes+1+p.2<=l
 |0,x,l,p,h=>by cases h
 | f + 1, x, l, p, h => by
  simp only[CJ]at h;split at h
  .cases h
  .cases hv:A.view σ x with
   |var u=>rw[hv]at h;cases h;exact KD
   |node k n s ar=>
    rw[hv]at h;dsimp only at h
    cases h2:CD (CJ A σ f) ar (l-1)with
    |none=>rw[h2]at h;cases h
    |some q=>
     obtain⟨_,c⟩:=q;rw[h2]at h;dsimp only at h;cases h
     have:=QhA (fun x l p hh=>QlZ f x l p hh) ar (l-1) _ h2;dsimp only at this⊢;omega
theorem QsF{B:AC}{f:Nat}{L:List Tm}{l:Nat}{p:Ts×Nat}(h:IG B f L l=some p):p.1.nodes+p.2<=l:=QhA (fun x l p hh=>QlZ (A:=BX) f x l p hh) L l p h
section
variable{M:T6}{w0:TG}{H:T0}{F:T3}
theorem Qwp(E:List EN)(pb:Nat)(pA:T4)(np pc q:Nat)(p:AO)(w:TG)(hq:q<=8)(ho:p.out.length<=12)(hE:DU F E)(hP:CW M w0 H F pb pA np pc q p w):
  Calls prog 102 #[.pointer (some ⟨pb,0,none⟩),DQ E] w fun e w'=>∃F':T3,e= .returned (.int .i64 (KR q (QK E) p).1)/\(∀φ∈F,φ∈F')/\CW M w0 H F' pb pA np pc q (KR q (QK E) p).2 w':=by
 obtain⟨K,oA,oc,O,hK,tF,oE,hS⟩:=hP
 have Ll:K.length<=12:=by have:=XM List.length hK;exact ZX
 unfold KR;rw[Qng];refine Qh func102 rfl ntmps102 rfl ?_;apply Zq.e.p.hT.1;clear hS;intro b1 _ hS;apply Zq.J.1;clear hS;intro _ hS;apply Zq.b.e.aH.aE.g3.1;refine Qx 12 6 (13::14::7::15::16::17::18::19::20::21::22::[]) (fun(k:Nat) v y w'=>∃(i:Nat) (Td:TA) (Au:Option Addr) (cu:Nat) (Ou:List (Nat×Obj)) (lc:Int) (F':List (World->Prop)),i+k=q/\v= .int .i64 (i:Nat)/\y= .slice Au Td.len cu/\Td.len=i/\(∀φ∈F,φ∈F')/\AB F' (IQ Td)/\MOk (IG (QK E) 201 (L8 i 0) 200) Td.ts lc/\(200:Int)-i-5*(200-max lc 0)<=lc/\max lc 0<=200/\Rw 63 4 (.slice Au Td.len cu) Td.len (EU Td) Ou/\St M w0 ((b1,ZO lc)::(pb,.cells (DN pA np pc q p oA K.length oc).toArray 109)::(Ou++(O++H))) F' w') (fun k=>k) (q) ?_ Yb Yb ?_
 .exact⟨0,.nil,none,0,[],200,F,by omega,rfl,rfl,rfl,fun _ h=>h,fun _ _=>trivial,⟨rfl,rfl⟩,by omega,by omega,Rw.zero_,hS⟩
 clear hS;rintro k _ _ _ _ ⟨i,Td,Au,cu,Ou,lc,F',_,rfl,rfl,zU,hF,Bi,hM,_,_,uC,hS⟩ ih
 have hEF:DU F' E:=⟨hE.rd.mono hF,hE.ok,hE.gd⟩
 cases k with
 |succ k=>
  apply Zq.a8.aB.u.aO.gT.bA.1;refine XE (QkR 200 M w0 _ F' E ⟨0,(i:Nat),⟨#[]⟩,none,0,.nil⟩ b1 lc _ hEF (fun w _=>⟨XF _,fun h=>absurd h R3⟩) (Qyf Ya) Ya Ya Ya hS) ?_;rintro _ _ ⟨u2,l2,F2,rfl,pF,pT,⟨Cr,_,_⟩,oD⟩;apply Zq.a.1;replace hS:=oD;clear oD;apply Zq.dZ.1;clear hS;intro b2 pM hS;refine Qmt (u:=u2) hS Yb Yi rfl rfl rfl (QG.own (sp:=[]) (hS.own (_,_) (.head _)) rfl (XF _)) uC (XK [_,_,_] Ou _) Ya rfl ?_;clear hS;intro v9 O9 Lk oO hS;obtain⟨A9,c9,rfl,_⟩:=oO.form;replace hS:=(hS.perm (XK O9 [_,_,_] _)).drop
  have e1:(Td.app (.cons u2.k u2.n u2.s u2.A u2.c u2.ar .nil)).len=Td.len+1:=by rw[TA.len_app];rfl
  apply Zq.dN.1;refine ih (k) _ _ _ _ ?_ ?_ Yb Yb Yc
  .omega
  .refine⟨i+1,Td.app (.cons u2.k u2.n u2.s u2.A u2.c u2.ar .nil),A9,c9,O9,l2,F2,by omega,by simp,by rw[e1],by rw[e1,zU],fun φ h=>pF φ (hF φ h),?_,?_,by omega,by omega,?_,hS⟩
   .exact fun w hw=>IQ.app (U:= .cons u2.k u2.n u2.s u2.A u2.c u2.ar .nil) ⟨pT w hw,trivial⟩ ((Bi.mono pF) w hw)
   .rw[QqX,QjX,XQ];unfold MOk at hM⊢
    cases rE:IG (QK E) 201 (L8 i 0) 200 with
    |none=>
     rw[rE]at hM;exact Ydo
    |some x=>
     obtain⟨U,n⟩:=x;rw[rE]at hM;obtain⟨y1,y2⟩:Td.ts=U/\lc=(n:Int):=hM;rw[show lc.toNat=n by omega]at Cr;dsimp only;have Hl:(match IC (QK E) 201 ⟨0,(i:Nat),⟨#[]⟩,.nil⟩ n with|some (T,n)=>u2.tm=T/\l2=(n:Int)|none=>l2<0):=Cr
     cases Bz:IC (QK E) 201 ⟨0,(i:Nat),⟨#[]⟩,.nil⟩ n with
     |none=>rw[Bz]at Hl;exact Hl
     |some x2=>
      obtain⟨T2,n2⟩:=x2;rw[Bz]at Hl;obtain⟨z1,z2⟩:u2.tm=T2/\l2=(n2:Int):=Hl;exact Yem
   .rw[e1,Qiz];exact oO
 |zero=>
 obtain rfl:i=q:=by omega
 clear ih
 cases rE:IG (QK E) 201 (L8 i 0) 200 with
 |none=>
  rw[rE]at hM;have Il:lc<0:=hM;apply Zq.W.b0.y.I.v.h.1;replace hS:=St.dropN (hS.drop.perm (XK [_] Ou _));apply Zq.f.1;refine XE (OQ pb pA np pc i p 4 _ Ya ⟨K,oA,oc,O,hK,fun x hx=>(tF x hx).mono hF,oE,hS⟩) ?_;rintro _ _ ⟨rfl,qL⟩;apply Zq.aJ.kB.1;exact YcB
 |some x=>
  obtain⟨U,n⟩:=x;rw[rE]at hM;obtain⟨y1,y2⟩:Td.ts=U/\lc=(n:Int):=hM;have Rb:=QsF rE;dsimp only at Rb⊢;replace hS:=hS.perm (XK [_,_] Ou _);obtain⟨F9,rI,hA9,oD⟩:=St.freezeT uC Bi hS;clear hS;have hS:=oD;clear oD;have Lm:∀φ∈F,φ∈F9:=fun φ h=>rI φ (hF φ h);apply Zq.W.b0.y.c1.E.1;replace hS:=hS.drop;refine PX 36 (27::28::29::30::31::32::33::34::35::37::38::[]) (fun y w'=>∃(A7:T4) (c7:Nat) (L7:TA) (F7:T3) (A9:T4) (c9:Nat) (O9:T0),(∀φ∈F9,φ∈F7)/\AB F7 (AV A7 c7 L7)/\L7.ts=Td.ts.tidy/\Rw 34 2 (.slice A9 (K.length+1) c9) (K.length+1) (HW K++HW [⟨1,A7,c7,L7⟩]) O9/\St M w0 ((pb,.cells (DN pA np pc i p A9 (K.length+1) c9).toArray 109)::(O9++H)) F7 w') ?_ ?_
  .intro oF;refine K1 (fun w=>∃Oh:T0,St M w0 ((pb,.cells (DN pA np pc i p oA K.length oc).toArray 109)::Oh) F9 w) 12 (.read 0 (.read 1 (.read 2 (.read 3 (.read 4 (.read 5 (.pick 6 (.read 7 (.pick 8 (.pick 9 (.read 10 (.read 11 .tail)) .none) .none)) .none))))))) Yc Yc ⟨_,hS.drew⟩ ?_;replace hS:=hS.drew;apply Zq.eJ.eJ.iP.mX.1
   first
    |refine Qj rfl (fun _ ⟨_,hS⟩=>Qf hS rfl rfl Ym Yh) rfl ?_
    |refine Qj rfl (fun _ ⟨_,hS⟩=>Qm rfl rfl (by first|assumption|exact hS.cell0 Ye|exact Qt hS|exact Qu hS)) rfl ?_
   apply Zq.eJ.a0.F.1;refine XE (Qr6 Td.ts (.slice Au Td.len cu) _ (hS.und hA9).sl (by rw[y1];omega)) ?_;rintro _ _ ⟨_,rfl,aBc,Sg⟩;apply Zq.a.1;obtain⟨A7,c7,L7,rfl,Ft,oD⟩:=hS.located Sg aBc;clear hS
   obtain⟨F7,Cy,hA7,hS⟩:∃F7:T3,(∀φ∈F9,φ∈F7)/\AB F7 (AV A7 c7 L7)/\St _ _ _ F7 _:=⟨_,fun φ h=> .tail _ h,AB.head,oD⟩
   clear oD;apply Zq.jH.1;refine Qj rfl (fun _ ⟨_,hS⟩=>QD (cells:=[_,_]) (.cons Yb (.cons Yb .nil)) rfl) rfl ?_;apply Zq.a0.h0.1;clear hS;intro b2 pM hS;apply Zq.jH.a0.1;refine Qra (u:=⟨1,A7,c7,L7⟩) hS Yb Yi rfl rfl rfl (QG.own (sp:=[]) (hS.own (_,_) (.head _)) rfl (XF _)) oE (XK [_,_] O _) Ya rfl ?_;clear hS;intro v9 O9 Lk oO hS;obtain⟨A9,c9,rfl,_⟩:=oO.form;replace hS:=hS.perm (XK O9 [_,_] _);apply Zq.jH.iP.mX.eB.J.1;clear hS;intro _ hS;apply Zq.b.1;exact oF _ _ _ ⟨A7,c7,L7,F7,A9,c9,O9,Cy,hA7,Ft,oO,hS.drop⟩ Yb Yc
  clear hS;rintro _ _ _ ⟨A7,c7,L7,F7,A9,c9,O9,Cy,hA7,Ft,oO,hS⟩
  have Iw:∀w',St M w0 ((pb,.cells (DN pA np pc i p A9 (K.length+1) c9).toArray 109)::(O9++H)) F7 w'->CW M w0 H F7 pb pA np pc i ⟨p.fuel,p.vars,p.calls,p.out++[(1,U.tidy)],p.ended⟩ w':=fun w' hS=>by
   refine⟨K++[⟨1,A7,c7,L7⟩],A9,c9,O9,?_,?_,?_,?_⟩
   .rw[VD,hK];show p.out++[((1:Int),L7.ts)]=_;rw[Ft,y1]
   .intro x hx;rcases VG.1 hx with hx|hx
    .exact((tF x hx).mono Lm).mono Cy
    .rw[VJ.1 hx];exact hA7
   .rw[XG,QpI];exact oO
   .rw[XG];exact hS
  have oG:(p.out++[((1:Int),U.tidy)]).length=K.length+1:=by rw[<-hK];simp
  rw[oG];by_cases uB:K.length+1=12
  .rw[XB uB];apply Zq.aH.d4.y.aC.l.v.aF.1;refine XE (OQ pb pA np pc i _ 6 _ (by rw[oG];omega) (Iw _ hS)) ?_;rintro _ _ ⟨rfl,qL⟩;apply Zq.aJ.kB.1;exact⟨F7,rfl,fun φ h=>Cy φ (Lm φ h),qL⟩
  .rw[XA uB];apply Zq.aH.d4.y.aC.bY.e.kB.1;exact⟨F7,rfl,fun φ h=>Cy φ (Lm φ h),Iw _ hS⟩
end
structure EO(C D:Nat)(p:AO):Prop where
 v:p.vars+8*(p.fuel+12)<=C+8*p.out.length
 c:p.calls+p.fuel<=D
 o:p.out.length<12
 e:p.ended=false
structure GV(C D:Nat)(p:AO):Prop where
 v:p.vars<=C+104
 c:p.calls+p.fuel<=D
 o:p.out.length<=13
 n:p.ended=false->p.vars+8*(p.fuel+13)<=C+8*p.out.length/\p.out.length<12
theorem GV.i{C D:Nat}{p:AO}(h:GV C D p)(he:p.ended=false):EO C D p:=⟨by have:=(h.n he).1;omega,h.c,(h.n he).2,he⟩
theorem EO.stop{C D:Nat}{p:AO}(h:EO C D p)(k:Int):GV C D (DH k p):=⟨by have:=h.v;have:=h.o;show p.vars<=_;omega,h.c,by have:=h.o;simp only[DH,XG,XJ,XP];omega,fun hh=>by cases hh⟩
theorem EO.stop'{C D:Nat}{p:AO}(hv:p.vars<=C+104)(hc:p.calls+p.fuel<=D)(ho:p.out.length<=12)(k:Int):GV C D (DH k p):=⟨hv,hc,by simp only[DH,XG,XJ,XP];omega,fun hh=>by cases hh⟩
theorem QtL{C D q:Nat}{e:AC}{p:AO}(h:EO C D p):GV C D (KR q e p).2:=by
 obtain⟨hv,hc,ho,he⟩:=h;unfold KR
 cases LG IY e q 0 200 with
 |none=>exact EO.stop ⟨hv,hc,ho,he⟩ 4
 |some x=>
  obtain⟨T,l⟩:=x;dsimp only;split
  .exact EO.stop' (p:=⟨p.fuel,p.vars,p.calls,p.out++[(1,T.tidy)],p.ended⟩) (by show p.vars<=_;omega) hc Yg 6
  .rename_i uB;simp only[XG,XJ,XP]at uB;exact⟨by show p.vars<=_;omega,hc,by simp;omega,fun _=>⟨by show p.vars+8*(p.fuel+13)<=C+8*(p.out++_).length;simp;omega,by show(p.out++_).length<12;simp;omega⟩⟩
theorem QtB{C D:Nat}{pr:List Tg->AC->AO->Int×AO}(qS:∀g e p,EO C D p->GV C D (pr g e p).2){g:Tg}{r:List Tg}{e:AC}{call:Nat}:∀(cls:List Cl) (p:AO),(∀c∈cls,c.vars.toNat<=8)->GV C D p->p.ended=false->GV C D (EF pr g r e call cls p).2
 |[],p,_,h,_=>h
 |c::cs,p,hc,h,he=>by
  have hi:=h.i he;have hn:=h.n he;have h8:=hc c (X8 ..)
  have Hm:EO C D ⟨p.fuel,p.vars+c.vars.toNat,p.calls,p.out,p.ended⟩:=⟨by show p.vars+c.vars.toNat+8*(p.fuel+12)<=C+8*p.out.length;omega,h.c,hn.2,he⟩
  have h1:=qS (CF c.bd p.vars call r) (BA (c.head.shift p.vars) g.1 e).s _ Hm;rw[EF];split
  .exact hi.stop 4
  split
  .split
   .exact h1
   .rename_i vK;split
    .exact h1
    split
    .exact h1
    .exact QtB qS cs _ (fun x hx=>hc x (XZ _ hx)) h1 (by simpa using vK)
  .exact QtB qS cs _ (fun x hx=>hc x (XZ _ hx)) h he
theorem QxA{C D:Nat}{pr:List Tg->AC->AO->Int×AO}(qS:∀g e p,EO C D p->GV C D (pr g e p).2){r:List Tg}{e:AC}{p:AO}{x y:Tm}(h:GV C D p)(he:p.ended=false):GV C D (HV pr r e p x y).2:=by
 unfold HV;split
 .exact(h.i he).stop 4
 split
 .exact ZW
 .exact h
theorem QtR{C D:Nat}{pr:List Tg->AC->AO->Int×AO}(qS:∀g e p,EO C D p->GV C D (pr g e p).2){g:Tg}{r:List Tg}{e:AC}{p:AO}(h:GV C D p)(he:p.ended=false):GV C D (LQ pr g r e p).2:=by
 unfold LQ;split
 .split
  .exact ZW
  .exact ZW
 split
 .exact ZW
 split
 .exact h
 split
 .exact QxA qS h he
 split
 .exact(h.i he).stop 5
 split
 .split
  .exact ZW
  .exact h
 .exact QxA qS h he
theorem Qmj{P:List Cl}{q C D:Nat}(hP:∀c∈P,c.vars.toNat<=8):∀(f:Nat) (g:List Tg) (e:AC) (p:AO),EO C D p->GV C D (Qn P q f g e p).2
 |0,[],e,p,h=>QtL h
 |f+1,[],e,p,h=>QtL h
 |0,_::_,e,p,h=>h.stop 3
 | f + 1, g :: r, e, p, h => by
  have ih:=Qmj (q:=q) (C:=C) (D:=D) hP f;rw[Qn];split
  .exact h.stop 3
  .rename_i h0;have hv:=h.v;have hc:=h.c;have ho:=h.o
   have h1:GV C D ⟨p.fuel-1,p.vars,p.calls,p.out,p.ended⟩:=⟨by show p.vars<=_;omega,by show p.calls+(p.fuel-1)<=D;omega,by show p.out.length<=13;omega,fun _=>⟨by show p.vars+8*(p.fuel-1+13)<=C+8*p.out.length;omega,ho⟩⟩
   split
   .exact QtR (fun g e p hh=>ih g e p hh) h1 h.e
   .cases hf:P.filter (FC g.1)with
    |nil=>exact(h1.i h.e).stop 5
    |cons c cs=>
     have h2:GV C D ⟨p.fuel-1,p.vars,p.calls+1,p.out,p.ended⟩:=⟨by show p.vars<=_;omega,by show p.calls+1+(p.fuel-1)<=D;omega,by show p.out.length<=13;omega,fun _=>⟨by show p.vars+8*(p.fuel-1+13)<=C+8*p.out.length;omega,ho⟩⟩
     exact QtB (fun g e p hh=>ih g e p hh) (c::cs) _ (fun x hx=>hP x (JK.1 (show x∈P.filter (FC g.1) by rw[hf];exact hx)).1) h2 h.e
abbrev IP:List GN->TG->Prop:=PRd 112
def PD(X:List LC)(pA:T4)(pc q C D f:Nat):Prop:=
 ∀(M:T6) (w0:TG) (H:T0) (F:T3) (gs:List GN) (E:List EN) (pb:Nat) (p:AO) (w:TG),AB F (E6 X pA pc)->AB F (IP gs)->(∀g∈gs,AL g.t.tm)->DU F E->p.fuel<=f->EO C D p->CW M w0 H F pb pA X.length pc q p w->
  Calls prog 62 #[.pointer (some ⟨pb,0,none⟩),IV gs,DQ E] w fun e w'=>∃F':T3,e= .returned (.int .i64 (Qn (X.map LC.cl) q f (BG gs) (QK E) p).1)/\(∀φ∈F,φ∈F')/\CW M w0 H F' pb pA X.length pc q (Qn (X.map LC.cl) q f (BG gs) (QK E) p).2 w'
section
variable{M:T6}{w0:TG}{H:T0}{F:T3}{X:List LC}{pA:T4}{pc q C D f:Nat}
theorem Qpn(qS:PD X pA pc q C D f)(g:GN)(r:List GN)(E:List EN)(pb:Nat)(p:AO)(w:TG)(hX:AB F (E6 X pA pc))(hr:AB F (IP (g::r)))(hg:∀x∈g::r,AL x.t.tm)(hE:DU F E)(hf:p.fuel<=f)(hB:EO C D p)(h2:g.t.s.toList=[116,114,117,101])(hP:CW M w0 H F pb pA X.length pc q p w):
  Calls prog 104 #[.pointer (some ⟨pb,0,none⟩),IV (g::r),DQ E] w fun e w'=>∃F':T3,e= .returned (.int .i64 (Qn (X.map LC.cl) q f (BG r) (QK E) p).1)/\(∀φ∈F,φ∈F')/\CW M w0 H F' pb pA X.length pc q (Qn (X.map LC.cl) q f (BG r) (QK E) p).2 w':=by
 have hc:=fun w' hP=>qS M w0 H F r E pb p w' hX (hr.imp fun w h=>h.2.2) (fun x hx=>hg x (.tail _ hx)) hE hf hB hP;have qN:∀{H'} w',St M w0 H' F w'->_:=fun w' hS=>(hS.und hr).cells;have e2:=(I4 [116,114,117,101]).1 h2
 have e1:g.t.s≠⟨#[33]⟩:=by rw[e2];decide
 obtain⟨K,oA,oc,O,hK,tF,oE,hS⟩:=hP;apply Zq.gE.e.bU.Y.eG.dJ.cC.fF.dQ.i.O.cQ.eG.g.bA.gQ.1;rintro _ _ ⟨F',rfl,hF,qL⟩;apply Zq.aJ.dP.1;exact YcB
theorem Qpq(g:GN)(r:List GN)(E:List EN)(pb:Nat)(p:AO)(w:TG)(hr:AB F (IP (g::r)))(h3:g.t.s.toList=[102,97,105,108])(hP:CW M w0 H F pb pA X.length pc q p w):
  Calls prog 104 #[.pointer (some ⟨pb,0,none⟩),IV (g::r),DQ E] w fun e w'=>e= .returned (.int .i64 (-1))/\CW M w0 H F pb pA X.length pc q p w':=by
 have qN:∀{H'} w',St M w0 H' F w'->_:=fun w' hS=>(hS.und hr).cells;have e3:=(I4 [102,97,105,108]).1 h3
 have e1:g.t.s≠⟨#[33]⟩:=by rw[e3];decide
 have e2:g.t.s≠⟨#[116,114,117,101]⟩:=by rw[e3];decide
 obtain⟨K,oA,oc,O,hK,tF,oE,hS⟩:=hP;apply Zq.gE.e.bU.Y.eG.dJ.cC.cC.fF.dQ.e.dP.1;exact⟨rfl,K,oA,oc,O,hK,tF,oE,hS⟩
theorem Qsb(qS:PD X pA pc q C D f)(g:GN)(r:List GN)(E:List EN)(pb:Nat)(p:AO)(w:TG)(hX:AB F (E6 X pA pc))(hr:AB F (IP (g::r)))(hg:∀x∈g::r,AL x.t.tm)(hE:DU F E)(hf:p.fuel<=f)(hB:EO C D p)(h1:g.t.s.toList=[33])(hP:CW M w0 H F pb pA X.length pc q p w):
  Calls prog 104 #[.pointer (some ⟨pb,0,none⟩),IV (g::r),DQ E] w fun e w'=>∃F':T3,e= .returned (.int .i64 (if 0<=(Qn (X.map LC.cl) q f (BG r) (QK E) p).1/\(Qn (X.map LC.cl) q f (BG r) (QK E) p).1<(g.o:Nat)then(Qn (X.map LC.cl) q f (BG r) (QK E) p).1 else(g.o:Nat)))/\(∀φ∈F,φ∈F')/\CW M w0 H F' pb pA X.length pc q (Qn (X.map LC.cl) q f (BG r) (QK E) p).2 w':=by
 have hc:=fun w' hP=>qS M w0 H F r E pb p w' hX (hr.imp fun w h=>h.2.2) (fun x hx=>hg x (.tail _ hx)) hE hf hB hP;have qN:∀{F':T3} {H':T0} (hF:∀φ∈F,φ∈F') (w':TG),St M w0 H' F' w'->_:=fun hF w' hS=>(hS.und (hr.mono hF)).cells;have sB:∀φ∈F,φ∈F:=fun _ h=>h;have e1:=(I4 [33]).1 h1;generalize Qn (X.map LC.cl) q f (BG r) (QK E) p=pr at*;obtain⟨k,_⟩:=pr;dsimp only at*;obtain⟨K,oA,oc,O,hK,tF,oE,hS⟩:=hP;apply Zq.gE.e.bU.Y.b7.dJ.fF.dQ.i.O.cQ.b7.g.bA.gQ.1;rintro _ _ ⟨F',rfl,hF,qL⟩;apply Zq.a.1;clear oE hK tF;clear hS;obtain⟨K',Fw,Fx,O',Cd,xT,pR,hS⟩:=qL;by_cases hk:0<=k
 .by_cases Ay:k<(g.o:Nat)
  .rw[XB ⟨hk,Ay⟩];apply Zq.M.r.n.t.c9.d4.j.gH.j.I.H.aB.dP.1;exact YcC
  .rw[XA (fun h=>Ay h.2)];apply Zq.M.r.n.t.c9.d4.j.gH.j.I.N.aT.d4.gH.c.dP.1;exact YcC
 .rw[XA (fun h=>hk h.1)];apply Zq.M.r.c8.N.aT.d4.gH.c.dP.1;exact YcC
end
section
variable{M:T6}{w0:TG}{H:T0}{F:T3}{X:List LC}{pA:T4}{pc q C D f:Nat}
theorem Qyy(E:List EN)(a b:LT)(w:TG)(hE:DU F E)(ha:AB F (BW a))(hb:AB F (BW b))(ga:AL a.tm)(gb:AL b.tm)(hS:St M w0 H F w):
  Calls prog 105 #[DQ E,tv a,tv b] w fun e w'=>∃(E':List EN) (ok:Bool) (k:Int) (F':T3),e= .returned (.tuple #[DQ E',.bool ok,.int .i64 k])/\(∀φ∈F,φ∈F')/\(400<(BA a.tm b.tm (QK E)).w->k<0)/\((BA a.tm b.tm (QK E)).w<=400->0<=k/\ok=(BA a.tm b.tm (QK E)).ok/\((BA a.tm b.tm (QK E)).ok=true->QK E'=(BA a.tm b.tm (QK E)).s/\DU F' E'))/\St M w0 H F' w':=by
 refine XE (Qyz E a b w hE ha hb ga gb hS) ?_;show∀e w',Qx3 M w0 H F (BA a.tm b.tm (QK E)) e w'->_;generalize BA a.tm b.tm (QK E)=u;rintro e w' ⟨E',F',k,hF,oD,c1,c2,c3⟩;by_cases hw:400<u.w
 .obtain⟨hk,rfl⟩:=c1 hw;exact⟨E',false,k,F',rfl,hF,fun _=>hk,fun h=>absurd h Ya,oD⟩
 .obtain⟨hk,rfl⟩:=c2 Ya;exact⟨E',_,k,F',rfl,hF,fun h=>absurd h hw,fun h=>⟨by omega,rfl,fun ho=>c3 h ho⟩,oD⟩
theorem QtQ(qS:PD X pA pc q C D f)(g:GN)(r:List GN)(E:List EN)(pb:Nat)(p:AO)(w:TG)(hX:AB F (E6 X pA pc))(hr:AB F (IP (g::r)))(hg:∀x∈g::r,AL x.t.tm)(hE:DU F E)(hf:p.fuel<=f)(hB:EO C D p)(h4:g.t.s.toList=[101,113])(oG:g.t.ar.len=2)(hP:CW M w0 H F pb pA X.length pc q p w):
  Calls prog 104 #[.pointer (some ⟨pb,0,none⟩),IV (g::r),DQ E] w fun e w'=>∃F':T3,e= .returned (.int .i64 (HV (Qn (X.map LC.cl) q f) (BG r) (QK E) p (g.t.ar.ts.at_ 0) (g.t.ar.ts.at_ 1)).1)/\(∀φ∈F,φ∈F')/\CW M w0 H F' pb pA X.length pc q (HV (Qn (X.map LC.cl) q f) (BG r) (QK E) p (g.t.ar.ts.at_ 0) (g.t.ar.ts.at_ 1)).2 w':=by
 have qN:∀{F':T3} {H':T0} (hF:∀φ∈F,φ∈F') (w':TG),St M w0 H' F' w'->_:=fun hF w' hS=>(hS.und (hr.mono hF)).cells;have sB:∀φ∈F,φ∈F:=fun _ h=>h;have e4:=(I4 [101,113]).1 h4
 have e1:g.t.s≠⟨#[33]⟩:=by rw[e4];decide
 have e2:g.t.s≠⟨#[116,114,117,101]⟩:=by rw[e4];decide
 have e3:g.t.s≠⟨#[102,97,105,108]⟩:=by rw[e4];decide
 have uC:AB F (BW g.t):=hr.imp fun w h=>h.2.1;have wC:AB F (IP r):=hr.imp fun w h=>h.2.2;have Sh:∀x∈r,AL x.t.tm:=fun x hx=>hg x (.tail _ hx);have tE:=GJ _ (hg g (.head _));obtain⟨x,y,hT⟩:=Qxq (T:=g.t.ar) oG;obtain⟨⟨_,_,_,_,_,_⟩,_,_⟩:=g;dsimp only at*;subst hT;have uD:=uC;unfold BW at uD;dsimp only at uD;obtain⟨K,oA,oc,O,hK,tF,oE,hS⟩:=hP;obtain⟨_,_,rfl⟩:=(hS.und uD).some_ R3;have Mv:∀{H'} w',St M w0 H' F w'->_:=fun w' hS=>AV.cells (D:= .nil) (hS.und uD);have Cw:∀{H'} w',St M w0 H' F w'->_:=fun w' hS=>AV.cells (D:= .cons x.k x.n x.s x.A x.c x.ar .nil) (hS.und uD);have Vj:AB F (BW x):=uD.imp fun w h=>AV.sub (D:= .nil) h;have Vi:AB F (BW y):=uD.imp fun w h=>AV.sub (D:= .cons x.k x.n x.s x.A x.c x.ar .nil) h;have tx:AL x.tm:=tE x.tm (.inl rfl);have We:AL y.tm:=tE y.tm (.inr (.inl rfl));have sK:(TA.cons x.k x.n x.s x.A x.c x.ar (TA.cons y.k y.n y.s y.A y.c y.ar TA.nil)).len=2:=rfl
 have pV:HV (Qn (X.map LC.cl) q f) (BG r) (QK E) p ((TA.cons x.k x.n x.s x.A x.c x.ar (TA.cons y.k y.n y.s y.A y.c y.ar TA.nil)).ts.at_ 0) ((TA.cons x.k x.n x.s x.A x.c x.ar (TA.cons y.k y.n y.s y.A y.c y.ar TA.nil)).ts.at_ 1)=if 400<(BA x.tm y.tm (QK E)).w then(-1,DH 4 p)else if(BA x.tm y.tm (QK E)).ok=true then Qn (X.map LC.cl) q f (BG r) (BA x.tm y.tm (QK E)).s p else(-1,p):=rfl
 have tZ:∀{H'} w',St M w0 H' F w'->_:=fun w' hS=>Qyy E x y w' hE Vj Vi tx We hS;rw[pV];clear pV;generalize BA x.tm y.tm (QK E)=u at*;apply Zq.gE.e.bU.Y.b7.dJ.cC.cC.cC.aW.aX.bN.bI.b7.c.bU.Y.b7.dD.D.E.1;refine QhI 11 12 13 (138::139::140::141::142::143::144::145::137::146::147::148::[]) (fun v y z w'=>∃(E':List EN) (ok:Bool) (k:Int) (F':T3),v=DQ E'/\y= .bool ok/\z= .int .i64 k/\(∀φ∈F,φ∈F')/\(400<u.w->k<0)/\(u.w<=400->0<=k/\ok=u.ok/\(u.ok=true->QK E'=u.s/\DU F' E'))/\St M w0 ((pb,.cells (DN pA X.length pc q p oA K.length oc).toArray 109)::(O++H)) F' w') ?_ ?_
 .intro oF;apply Zq.lQ.1;replace hS:=hS.drew;apply Zq.a7.a7.fH.gD.a7.fH.gD.a0.bA.1;exact Ya4
 clear hS;rintro _ _ _ _ w9 ⟨E',ok,k,F',rfl,rfl,rfl,hF,c1,c2,hS⟩;by_cases hw:400<u.w
 .have hk:=c1 hw;rw[XB hw];apply Zq.m.I.v.aF.1;refine XE (OQ pb pA X.length pc q p 4 _ (by have:=hB.o;omega) ⟨K,oA,oc,O,hK,fun x hx=>(tF x hx).mono hF,oE,hS⟩) ?_;exact YdX
 obtain⟨hk,rfl,oK⟩:=c2 Ya;rw[XA hw]
 cases ho:u.ok with
 |false=>
  rw[XA Yf];rw[ho]at*;apply Zq.m.c1.m.X.cI.dP.1;exact⟨F',rfl,hF,K,oA,oc,O,hK,fun x hx=>(tF x hx).mono hF,oE,hS⟩
 |true=>
  rw[XB rfl];obtain⟨Ct,Fu⟩:=oK ho;have hc:=fun w' hP=>qS M w0 H F' r E' pb p w' (hX.mono hF) (wC.mono hF) Sh Fu hf hB hP;rw[Ct]at hc;rw[ho]at*;apply Zq.m.c1.m.bF.i.O.cQ.gH.g.bA.1;refine XE (hc _ ⟨K,oA,oc,O,hK,fun x hx=>(tF x hx).mono hF,oE,hS⟩) ?_;exact Ych
end
end Go.Proofs.YthliapbflkfdiacGreatDoor
