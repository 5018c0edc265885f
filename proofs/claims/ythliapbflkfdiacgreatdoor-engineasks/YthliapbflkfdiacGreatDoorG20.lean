/- Steps of the proof. -/
import Derived.Test.YthliapbflkfdiacGreatDoorG19
set_option linter.unusedVariables false
set_option linter.unusedSimpArgs false
set_option maxRecDepth 100000
set_option maxHeartbeats 1000000
namespace Go.Proofs.YthliapbflkfdiacGreatDoor
open Go.Proofs.Tryz
open Go.RowKit
abbrev tyE:TypeId:=221
section
variable{M:T6}{w0:TG}{H:T0}{F:T3}
theorem UI(E:List EN)(t:LT)(w:TG)(hE:AB F (NG tyE E))(ht:AB F (BW t))(hB:BO (QK E))(hS:St M w0 H F w):
  Calls prog 160 #[DQ E,tv t] w fun e w'=>∃u:LT,e= .returned (tv u)/\u.tm=Qc (QK E) t.tm/\AB F (BW u)/\(u=t\/∃x∈E,u=x.t)/\St M w0 H F w':=by
 refine Qh func160 rfl ntmps160 rfl ?_;apply Zq.w.1;clear hS;intro b1 _ hS;apply Zq.R.1;clear hS;intro b2 _ hS;apply Zq.b.m.c.c7.1;refine Qp 5 (7::8::9::10::11::12::13::14::15::16::17::18::19::20::21::22::23::24::25::26::27::28::29::[]) (fun(m:Nat) v w'=>∃(c:LT) (D R:List EN) (p:Nat),E=D++R/\v=DQ R/\LM (QK E) p c.tm/\Qc (QK E) c.tm=Qc (QK E) t.tm/\AB F (BW c)/\(c=t\/∃x∈E,c=x.t)/\(∀x∈D,x.v≠c.n)/\m=p*(E.length+1)+R.length/\St M w0 ((b2,.cells [.int .i64 0,.int .i64 0,.string ⟨#[]⟩,.slice none 0 0].toArray 63)::(b1,.cells (AN c).toArray 63)::H) F w') (fun m=>m) ((QK E).length*(E.length+1)+E.length) ?_ Yb ?_
 .exact⟨t,[],E,(QK E).length,rfl,rfl,LM.start _ _,rfl,ht,.inl rfl,fun x hx=>NH,rfl,hS⟩
 clear hS;rintro m _ _ _ ⟨c,D,R,p,hD,rfl,pJ,xL,hc,rH,sE,hm,hS⟩ ih
 cases R with
 |nil=>
  have e0:E=D:=by grind
  have pV:c.tm=Qc (QK E) t.tm:=by
   grind[LT.tm,P6,QrB]
  apply Zq.m.gI.bX.q.bE.p.cE.d.1;exact YcL
 |cons x R=>
  have Fu:AB F (NG tyE (x::R)):=fun w hw=>by
   have:=hE w hw;grind[NG.skip]
  have oS:∀{H'} w',St M w0 H' F w'->_:=fun w' hS=>(hS.und Fu).cells;by_cases hk:c.k=0
  .by_cases hv:x.v=c.n
   .have Df:BR c.tm.n (QK E)=some x.t.tm:=by rw[hD];exact QrA hv sE
    obtain⟨p',hp',aAh⟩:=pJ.step hB hk Df;have aAi:Qc (QK E) x.t.tm=Qc (QK E) t.tm:=by rw[<-xL,QfA hB hk Df]
    have Hc:AB F (BW x.t):=fun w hw=>(Fu w hw).2.1;apply Zq.m.gI.t.cO.jE.j.l.H.eM.E.kD.1;replace hS:=hS.drew;apply Zq.cA.jA.cM.jA.f4.aD.v.u.O.L.nT.g.d.1;clear hS;intro pM hS;apply Zq.bO.1
    have pU:p'*(E.length+1)+E.length<p*(E.length+1)+(x::R).length:=by
     have h1:(p'+1)*(E.length+1)<=p*(E.length+1):=V7 _ hp';grind
    refine ih (p'*(E.length+1)+E.length) _ _ _ ?_ ?_ Yb Yc
    .omega
    .exact⟨x.t,[],E,p',rfl,rfl,aAh,aAi,Hc,.inr ⟨x,by grind,rfl⟩,fun y hy=>(by cases hy),rfl,hS⟩
   .apply Zq.m.gI.t.cO.jE.j.l.H.eM.E.kD.1;replace hS:=hS.drew;apply Zq.cA.jA.cM.jA.f4.aD.gA.u.O.cQ.jE.bO.1;refine ih (p*(E.length+1)+R.length) _ _ _ ?_ ?_ Yb Yc
    .grind
    .refine⟨c,D++[x],R,p,by grind,rfl,pJ,xL,hc,rH,fun y hy=> ?_,rfl,hS⟩;grind
  .have pV:c.tm=Qc (QK E) t.tm:=by grind[LT.tm,LL]
   apply Zq.m.gI.t.cO.jE.j.l.q.bE.p.nT.d.1;exact YcL
end
inductive Vw(X:Type) where
 |var (v:Int)
 |node (k n:Int) (s:TJ) (ar:List X)
def Vw.sub{X:Type}(a:Vw X)(v:Int)(t:Vw X):Vw X:=match a with
 | .var u=>if u=v then t else .var u
 | .node k n s ar=> .node k n s ar
inductive Al{X Y:Type}(R:X->Y->Prop):List X->List Y->Prop
 |nil:Al R [] []
 |cons {x:X} {y:Y} {l:List X} {m:List Y}:R x y->Al R l m->Al R (x::l) (y::m)
theorem Al.len{X Y:Type}{R:X->Y->Prop}{l:List X}{m:List Y}(h:Al R l m):l.length=m.length:=by
 induction h with
 |nil=>rfl
 |cons _ _ ih=>simp[ih]
theorem Al.imp{X Y:Type}{R Q:X->Y->Prop}(hi:∀x y,R x y->Q x y){l:List X}{m:List Y}(h:Al R l m):Al Q l m:=by
 induction h with
 |nil=>exact .nil
 |cons h _ ih=>exact .cons (hi _ _ h) ih
theorem Al.app{X Y:Type}{R:X->Y->Prop}{l l':List X}{m m':List Y}(h:Al R l m)(h':Al R l' m'):Al R (l++l') (m++m'):=by
 induction h with
 |nil=>exact h'
 |cons h _ ih=>exact .cons h ih
structure Sy where
 X:Type
 S:Type
 ok:S->Prop
 dom:S->X->Prop
 view:S->X->Vw X
 bind:S->Int->X->S
 join:S->X->X->S
structure Sy.Law(A:Sy):Prop where
 bind_ok:∀{σ x v t k n s ar},A.ok σ->A.dom σ x->A.dom σ t->A.view σ x= .var v->A.view σ t= .node k n s ar->A.ok (A.bind σ v t)
 bind_dom:∀{σ v t y},A.dom σ y->A.dom (A.bind σ v t) y
 bind_view:∀{σ x v t k n s ar y},A.ok σ->A.dom σ x->A.dom σ t->A.view σ x= .var v->A.view σ t= .node k n s ar->A.dom σ y->A.view (A.bind σ v t) y=(A.view σ y).sub v (A.view σ t)
 join_ok:∀{σ a b u v},A.ok σ->A.dom σ a->A.dom σ b->A.view σ a= .var u->A.view σ b= .var v->u≠v->A.ok (A.join σ a b)
 join_dom:∀{σ a b y},A.dom σ y->A.dom (A.join σ a b) y
 join_view:∀{σ a b u v},A.ok σ->A.dom σ a->A.dom σ b->A.view σ a= .var u->A.view σ b= .var v->u≠v->
  (∀y,A.dom σ y->A.view (A.join σ a b) y=(A.view σ y).sub u (.var v))\/(∀y,A.dom σ y->A.view (A.join σ a b) y=(A.view σ y).sub v (.var u))
section
variable{A:Sy}
def DA{X:Type}(g:X->Nat->Bool×Nat):List X->Nat->Bool×Nat
 |[],w=>(false,w)
 |x::r,w=>if(g x w).1=true then(true,(g x w).2)else DA g r (g x w).2
def CB(A:Sy)(σ:A.S)(v:Int):Nat->A.X->Nat->Bool×Nat
 |0,_,w=>(false,w+1)
 |f+1,x,w=>if 400<w+1 then(false,w+1)else match A.view σ x with
  | .var u=>(decide (u=v),w+1)
  | .node _ _ _ ar=>DA (CB A σ v f) ar (w+1)
structure Ug(S:Type) where
 ok:Bool
 s:S
 w:Nat
def E7{X S:Type}(g:X->X->S->Nat->Ug S):List X->List X->S->Nat->Ug S
 |x::r,y::r',σ,w=>if(g x y σ w).ok=true then E7 g r r' (g x y σ w).s (g x y σ w).w else g x y σ w
 |_,_,σ,w=>⟨true,σ,w⟩
def GI(A:Sy)(v:Int)(t:A.X)(σ:A.S)(w:Nat):Ug A.S:=
 if(CB A σ v 401 t w).1=true\/400<(CB A σ v 401 t w).2 then⟨false,σ,(CB A σ v 401 t w).2⟩else⟨true,A.bind σ v t,(CB A σ v 401 t w).2⟩
def AY(A:Sy):Nat->A.X->A.X->A.S->Nat->Ug A.S
 |0,_,_,σ,w=>⟨false,σ,w+1⟩
 |f+1,a,b,σ,w=>if 400<w+1 then⟨false,σ,w+1⟩else match A.view σ a,A.view σ b with
  | .var u,.var v=>⟨true,if u=v then σ else A.join σ a b,w+1⟩
  | .var u,.node _ _ _ _=>GI A u b σ (w+1)
  | .node _ _ _ _,.var v=>GI A v a σ (w+1)
  | .node k n s ar,.node k' n' s' qF=>if k=k'/\n=n'/\s=s'/\ar.length=qF.length then E7 (AY A f) ar qF σ (w+1)else⟨false,σ,w+1⟩
def CD{X:Type}(g:X->Nat->Option (Tm×Nat)):List X->Nat->Option (Ts×Nat)
 |[],l=>some (.nil,l)
 |x::r,l=>match g x l with
  |none=>none
  |some (t,l')=>match CD g r l' with
   |none=>none
   |some (T,l'')=>some (.cons t.k t.n t.s t.ar T,l'')
def CJ(A:Sy)(σ:A.S):Nat->A.X->Nat->Option (Tm×Nat)
 |0,_,_=>none
 |f+1,x,l=>if l=0 then none else match A.view σ x with
  | .var u=>some (⟨0,u,⟨#[]⟩,.nil⟩,l-1)
  | .node k n s ar=>match CD (CJ A σ f) ar (l-1)with
   |none=>none
   |some (T,l')=>some (⟨k,n,s,T⟩,l')
end
section
variable{A B:Sy}{R:A.X->B.X->Prop}{σ:A.S}{τ:B.S}
def KY{X Y:Type}(R:X->Y->Prop):Vw X->Vw Y->Prop
 | .var _,.var _=>True
 | .node k n s ar,.node k' n' s' qF=>k=k'/\n=n'/\s=s'/\Al R ar qF
 |_,_=>False
theorem KY.imp{X Y:Type}{R Q:X->Y->Prop}(hi:∀x y,R x y->Q x y):∀{a:Vw X} {b:Vw Y},KY R a b->KY Q a b
 | .var _,.var _,_=>trivial
 | .node _ _ _ _,.node _ _ _ _,h=>⟨h.1,h.2.1,h.2.2.1,h.2.2.2.imp hi⟩
structure Bm(A B:Sy)(R:A.X->B.X->Prop)(σ:A.S)(τ:B.S):Prop where
 oka:A.ok σ
 okb:B.ok τ
 da:∀{x y},R x y->A.dom σ x
 db:∀{x y},R x y->B.dom τ y
 vw:∀{x y},R x y->KY R (A.view σ x) (B.view τ y)
 vr:∀{x y x' y' u u' v v'},R x y->R x' y'->A.view σ x= .var u->A.view σ x'= .var u'->B.view τ y= .var v->B.view τ y'= .var v'->(u=u'↔v=v')
theorem Bm.cases(h:Bm A B R σ τ){x:A.X}{y:B.X}(hr:R x y):(∃u v,A.view σ x= .var u/\B.view τ y= .var v)\/∃k n s ar qF,A.view σ x= .node k n s ar/\B.view τ y= .node k n s qF/\Al R ar qF:=by
 have:=h.vw hr
 cases hx:A.view σ x with
 |var u=>
  cases hy:B.view τ y with
  |var v=>grind
  |node k n s ar=>rw[hx,hy]at this;exact this.elim
 |node k n s ar=>
  cases hy:B.view τ y with
  |var v=>rw[hx,hy]at this;exact this.elim
  |node k' n' s' qF=>
   rw[hx,hy]at this;obtain⟨rfl,rfl,rfl,h4⟩:=this;grind
theorem Bm.bind(hA:A.Law)(hB:B.Law)(h:Bm A B R σ τ){x t:A.X}{y t':B.X}{v v':Int}{k n:Int}{s:TJ}{ar:List A.X}{qF:List B.X}(hx:R x y)(ht:R t t')(hv:A.view σ x= .var v)(rW:B.view τ y= .var v')(wU:A.view σ t= .node k n s ar)(yV:B.view τ t'= .node k n s qF)(sD:Al R ar qF):
  Bm A B R (A.bind σ v t) (B.bind τ v' t'):=by
 have ea:=fun{z:A.X} (hz:A.dom σ z)=>hA.bind_view (y:=z) h.oka (h.da hx) (h.da ht) hv wU hz;have eb:=fun{z:B.X} (hz:B.dom τ z)=>hB.bind_view (y:=z) h.okb (h.db hx) (h.db ht) rW yV hz;refine⟨hA.bind_ok h.oka (h.da hx) (h.da ht) hv wU,hB.bind_ok h.okb (h.db hx) (h.db ht) rW yV,fun hr=>hA.bind_dom (h.da hr),fun hr=>hB.bind_dom (h.db hr),fun{p q} hr=> ?_,?_⟩
 .rw[ea (h.da hr),eb (h.db hr)];rcases h.cases hr with⟨u,u',e,e'⟩|⟨k2,n2,s2,r2,Rn,e,e',ha⟩
  .have:=h.vr hr hx e hv e' rW;rw[e,e'];simp only[Vw.sub];by_cases he:u=v
   .rw[XB he,XB (this.1 he),wU,yV];exact⟨rfl,rfl,rfl,sD⟩
   .rw[XA he,XA fun e2=>he (this.2 e2)];trivial
  .rw[e,e'];exact⟨rfl,rfl,rfl,ha⟩
 .intro p q _ _ u u' w _ hr uI e1 e2 e3 e4;rw[ea (h.da hr)]at e1;rw[ea (h.da uI)]at e2;rw[eb (h.db hr)]at e3;rw[eb (h.db uI)]at e4;rcases h.cases hr with⟨c,c',f1,f2⟩|⟨k2,n2,s2,r2,Rn,f1,f2,_⟩
  .rcases h.cases uI with⟨d,d',g1,g2⟩|⟨k2,n2,s2,r2,Rn,g1,g2,_⟩
   .rw[f1]at e1;rw[g1]at e2;rw[f2]at e3;rw[g2]at e4;simp only[Vw.sub]at e1 e2 e3 e4;split at e1
    .grind
    split at e2
    .grind
    split at e3
    .grind
    split at e4
    .grind
    cases e1;cases e2;cases e3;cases e4
    exact h.vr hr uI f1 g1 f2 g2
   grind[Vw.sub]
  grind[Vw.sub]
theorem Bm.join(hA:A.Law)(hB:B.Law)(h:Bm A B R σ τ){a b:A.X}{a' b':B.X}{u v u' v':Int}(ha:R a a')(hb:R b b')(hu:A.view σ a= .var u)(hv:A.view σ b= .var v)(zT:B.view τ a'= .var u')(rW:B.view τ b'= .var v')(oN:u≠v):
  Bm A B R (A.join σ a b) (B.join τ a' b'):=by
 have Ro:u'≠v':=fun e=>oN ((h.vr ha hb hu hv zT rW).2 e);have ja:=hA.join_view h.oka (h.da ha) (h.da hb) hu hv oN;have jb:=hB.join_view h.okb (h.db ha) (h.db hb) zT rW Ro
 have key : ∀ (p q : Int) (p' q' : Int), ((p = u /\ q = v) \/ (p = v /\ q = u)) -> ((p' = u' /\ q' = v') \/ (p' = v' /\ q' = u')) -> (∀ y, A.dom σ y -> A.view (A.join σ a b) y = (A.view σ y).sub p (.var q)) -> (∀ y, B.dom τ y -> B.view (B.join τ a' b') y = (B.view τ y).sub p' (.var q')) -> Bm A B R (A.join σ a b) (B.join τ a' b') := by
  intro p q p' q' hp hp' ea eb;refine⟨hA.join_ok h.oka (h.da ha) (h.da hb) hu hv oN,hB.join_ok h.okb (h.db ha) (h.db hb) zT rW Ro,fun hr=>hA.join_dom (h.da hr),fun hr=>hB.join_dom (h.db hr),fun{c d} hr=> ?_,?_⟩
  .rw[ea _ (h.da hr),eb _ (h.db hr)];rcases h.cases hr with⟨w,w',e,e'⟩|⟨k2,n2,s2,r2,Rn,e,e',sD⟩
   .rw[e,e'];simp only[Vw.sub];split<;>split<;>trivial
   .rw[e,e'];exact⟨rfl,rfl,rfl,sD⟩
  .intro x y x' y' c c' d d' hr uI e1 e2 e3 e4;rw[ea _ (h.da hr)]at e1;rw[ea _ (h.da uI)]at e2;rw[eb _ (h.db hr)]at e3;rw[eb _ (h.db uI)]at e4;rcases h.cases hr with⟨x1,y1,f1,f2⟩|⟨k2,n2,s2,r2,Rn,f1,f2,_⟩
   .rcases h.cases uI with⟨x2,y2,g1,g2⟩|⟨k2,n2,s2,r2,Rn,g1,g2,_⟩
    .have i1:=h.vr hr uI f1 g1 f2 g2;have i2:=h.vr hr ha f1 hu f2 zT;have i3:=h.vr hr hb f1 hv f2 rW;have i4:=h.vr uI ha g1 hu g2 zT;have i5:=h.vr uI hb g1 hv g2 rW;grind[Vw.sub]
    grind[Vw.sub]
   grind[Vw.sub]
 rcases ja with ja|ja<;>rcases jb with jb|jb
 .exact key u v u' v' (.inl ⟨rfl,rfl⟩) (.inl ⟨rfl,rfl⟩) ja jb
 .exact key u v v' u' (.inl ⟨rfl,rfl⟩) (.inr ⟨rfl,rfl⟩) ja jb
 .exact key v u u' v' (.inr ⟨rfl,rfl⟩) (.inl ⟨rfl,rfl⟩) ja jb
 .exact key v u v' u' (.inr ⟨rfl,rfl⟩) (.inr ⟨rfl,rfl⟩) ja jb
theorem QyV{X Y:Type}{R:X->Y->Prop}{g:X->Nat->Bool×Nat}{g':Y->Nat->Bool×Nat}(hg:∀x y w,R x y->g x w=g' y w){l:List X}{m:List Y}(h:Al R l m):∀w,DA g l w=DA g' m w:=by
 induction h with
 |nil=>intro w;rfl
 |cons h _ ih=>grind[DA]
theorem Quq(h:Bm A B R σ τ){x0:A.X}{y0:B.X}{v v':Int}(h0:R x0 y0)(hv:A.view σ x0= .var v)(rW:B.view τ y0= .var v'):∀(f:Nat) (x:A.X) (y:B.X) (w:Nat),R x y->CB A σ v f x w=CB B τ v' f y w
 |0,x,y,w,hr=>rfl
 |f+1,x,y,w,hr=>by
  simp only[CB];split
  .rfl
  .rcases h.cases hr with⟨u,u',e,e'⟩|⟨k,n,s,ar,qF,e,e',ha⟩
   .rw[e,e'];grind[Bm.vr]
   .rw[e,e'];exact QyV (fun x y w hr=>Quq h h0 hv rW f x y w hr) ha _
def UgR(A B:Sy)(R:A.X->B.X->Prop)(r:Ug A.S)(r':Ug B.S):Prop:=r.ok=r'.ok/\r.w=r'.w/\Bm A B R r.s r'.s
theorem QyW{g:A.X->A.X->A.S->Nat->Ug A.S}{g':B.X->B.X->B.S->Nat->Ug B.S}(hg:∀a b a' b' σ τ w,Bm A B R σ τ->R a a'->R b b'->UgR A B R (g a b σ w) (g' a' b' τ w)){l l2:List A.X}{m m2:List B.X}(h:Al R l m)(h2:Al R l2 m2):
  ∀(σ:A.S) (τ:B.S) (w:Nat),Bm A B R σ τ->UgR A B R (E7 g l l2 σ w) (E7 g' m m2 τ w):=by
 induction h generalizing l2 m2 with
 |nil=>intro σ τ w hb;cases h2<;>exact⟨rfl,rfl,hb⟩
 |cons h _ ih=>
  intro σ τ w hb
  cases h2 with
  |nil=>exact⟨rfl,rfl,hb⟩
  |cons h2 h3=>
   simp only[E7];obtain⟨e1,e2,e3⟩:=hg _ _ _ _ σ τ w hb h h2;grind
theorem QvH(hA:A.Law)(hB:B.Law)(h:Bm A B R σ τ){x t:A.X}{y t':B.X}{v v':Int}{k n:Int}{s:TJ}{ar:List A.X}{qF:List B.X}(hx:R x y)(ht:R t t')(hv:A.view σ x= .var v)(rW:B.view τ y= .var v')(wU:A.view σ t= .node k n s ar)(yV:B.view τ t'= .node k n s qF)(sD:Al R ar qF)(w:Nat):
  UgR A B R (GI A v t σ w) (GI B v' t' τ w):=by
 unfold GI;rw[Quq h hx hv rW 401 t t' w ht];split
 .exact⟨rfl,rfl,h⟩
 .exact⟨rfl,rfl,h.bind hA hB hx ht hv rW wU yV sD⟩
theorem Qpi(hA:A.Law)(hB:B.Law):∀(f:Nat) (a b:A.X) (a' b':B.X) (σ:A.S) (τ:B.S) (w:Nat),Bm A B R σ τ->R a a'->R b b'->UgR A B R (AY A f a b σ w) (AY B f a' b' τ w)
 |0,a,b,a',b',σ,τ,w,h,_,_=>⟨rfl,rfl,h⟩
 | f + 1, a, b, a', b', σ, τ, w, h, ha, hb => by
  simp only[AY];split
  .exact⟨rfl,rfl,h⟩
  .rcases h.cases ha with⟨u,u',e1,e2⟩|⟨k,n,s,ar,qF,e1,e2,sD⟩
   .rcases h.cases hb with⟨v,v',e3,e4⟩|⟨k,n,s,ar,qF,e3,e4,sD⟩
    .rw[e1,e2,e3,e4];have:=h.vr ha hb e1 e3 e2 e4;by_cases hh:u=v
     .refine⟨rfl,rfl,?_⟩;grind
     .refine⟨rfl,rfl,?_⟩;grind[Bm.join]
    grind[QvH]
   .rcases h.cases hb with⟨v,v',e3,e4⟩|⟨k2,n2,s2,ar2,aJb,e3,e4,Rp⟩
    .grind[QvH]
    .rw[e1,e2,e3,e4];show UgR A B R (if _ then _ else _) (if _ then _ else _);rw[<-sD.len,<-Rp.len];split
     .exact QyW (fun a b a' b' σ τ w hb ha wP=>Qpi hA hB f a b a' b' σ τ w hb ha wP) sD Rp _ _ _ h
     .exact⟨rfl,rfl,h⟩
inductive DB(ρ:Int->Int->Prop):Ts->Ts->Prop
 |nil:DB ρ .nil .nil
 |var {n n':Int} {s:TJ} {r r':Ts}:ρ n n'->DB ρ r r'->DB ρ (.cons 0 n s .nil r) (.cons 0 n' s .nil r')
 |node {k n:Int} {s:TJ} {ar qF r r':Ts}:k≠0->DB ρ ar qF->DB ρ r r'->DB ρ (.cons k n s ar r) (.cons k n s qF r')
def S3{P Q:Type}(R:P->Q->Prop):Option P->Option Q->Prop
 |none,none=>True
 |some p,some q=>R p q
 |_,_=>False
def TmR(ρ:Int->Int->Prop)(p q:Tm×Nat):Prop:=p.2=q.2/\DB ρ (.cons p.1.k p.1.n p.1.s p.1.ar .nil) (.cons q.1.k q.1.n q.1.s q.1.ar .nil)
theorem DB.put{ρ:Int->Int->Prop}{k n k' n':Int}{s s':TJ}{a a' r r':Ts}(h:DB ρ (.cons k n s a .nil) (.cons k' n' s' a' .nil))(hr:DB ρ r r'):DB ρ (.cons k n s a r) (.cons k' n' s' a' r'):=by
 cases h with
 |var h _=>exact .var h hr
 |node h1 h2 _=>exact .node h1 h2 hr
theorem QyE{X Y:Type}{R:X->Y->Prop}{ρ:Int->Int->Prop}{g:X->Nat->Option (Tm×Nat)}{g':Y->Nat->Option (Tm×Nat)}(hg:∀x y l,R x y->S3 (TmR ρ) (g x l) (g' y l)){l:List X}{m:List Y}(h:Al R l m):∀w,S3 (fun p q:Ts×Nat=>p.2=q.2/\DB ρ p.1 q.1) (CD g l w) (CD g' m w):=by
 induction h with
 |nil=>intro w;exact⟨rfl,.nil⟩
 | @cons x y l m h _ ih=>
  intro w;simp only[CD];have h1:=hg x y w h
  cases e1:g x w with
  |none=>
   cases e2:g' y w with
   |none=>trivial
   |some q=>rw[e1,e2]at h1;exact h1.elim
  |some p=>
   cases e2:g' y w with
   |none=>rw[e1,e2]at h1;exact h1.elim
   |some q=>
    rw[e1,e2]at h1;obtain⟨_,p2⟩:=p;obtain⟨_,q2⟩:=q;obtain⟨rfl,h3⟩:p2=q2/\_:=h1;have h4:=ih p2;dsimp only
    cases e3:CD g l p2 with
    |none=>
     cases e4:CD g' m p2 with
     |none=>trivial
     |some q=>rw[e3,e4]at h4;exact h4.elim
    |some p'=>
     cases e4:CD g' m p2 with
     |none=>rw[e3,e4]at h4;exact h4.elim
     |some q'=>
      exact YcM
def Bm.rho(A B:Sy)(R:A.X->B.X->Prop)(σ:A.S)(τ:B.S)(u v:Int):Prop:=∃x y,R x y/\A.view σ x= .var u/\B.view τ y= .var v
theorem Bm.inj(h:Bm A B R σ τ){u v u' v':Int}(h1:Bm.rho A B R σ τ u v)(h2:Bm.rho A B R σ τ u' v'):u=u'↔v=v':=by
 obtain⟨x,y,a,b,c⟩:=h1;obtain⟨_,_,a',b',c'⟩:=h2;grind[vr]
theorem Qqg(h:Bm A B R σ τ)(hz:∀{x k n s ar},A.view σ x= .node k n s ar->A.dom σ x->k≠0):∀(f:Nat) (x:A.X) (y:B.X) (l:Nat),R x y->S3 (TmR (Bm.rho A B R σ τ)) (CJ A σ f x l) (CJ B τ f y l)
 |0,x,y,l,hr=>trivial
 | f + 1, x, y, l, hr => by
  simp only[CJ];split
  .trivial
  .rcases h.cases hr with⟨u,u',e,e'⟩|⟨k,n,s,ar,qF,e,e',ha⟩
   .rw[e,e'];exact⟨rfl,.var ⟨x,y,hr,e,e'⟩ .nil⟩
   .rw[e,e'];have h4:=QyE (fun x y l hr=>Qqg h hz f x y l hr) ha (l-1);dsimp only
    cases e3:CD (CJ A σ f) ar (l-1)with
    |none=>
     cases e4:CD (CJ B τ f) qF (l-1)with
     |none=>trivial
     |some q=>rw[e3,e4]at h4;exact h4.elim
    |some p'=>
     cases e4:CD (CJ B τ f) qF (l-1)with
     |none=>rw[e3,e4]at h4;exact h4.elim
     |some q'=>
      rw[e3,e4]at h4;exact⟨h4.1,.node (hz e (h.da hr)) h4.2 .nil⟩
end
section
variable{A:Sy}{σ:A.S}{v:Int}
theorem QxU{X:Type}{g:X->Nat->Bool×Nat}(hg:∀x w,w<=(g x w).2):∀(l:List X) (w:Nat),w<=(DA g l w).2
 |[],w=>XF _
 |x::r,w=>by
  simp only[DA];split
  .grind
  .exact X9 (hg x w) (QxU hg r _)
theorem Qn2(f:Nat)(x:A.X)(w:Nat):CB A σ v (f+1) x w=if 400<w+1 then(false,w+1)else match A.view σ x with
  | .var u=>(decide (u=v),w+1)
  | .node _ _ _ ar=>DA (CB A σ v f) ar (w+1):=rfl
theorem ZM:∀(f:Nat) (x:A.X) (w:Nat),w+1<=(CB A σ v f x w).2
 |0,x,w=>XF _
 |f+1,x,w=>by
  simp only[CB];split
  .omega
  .cases A.view σ x with
   |var u=>grind
   |node k n s ar=>exact QxU (fun x w=>WH (ZM f x w)) ar (w+1)
theorem QiI(f:Nat)(x:A.X){w:Nat}(h:400<=w):CB A σ v f x w=(false,w+1):=by
 cases f with
 |zero=>rfl
 |succ f=>grind[CB]
theorem QhV{X:Type}{g g':X->Nat->Bool×Nat}{k:Nat}(hw:∀x w,w<=(g x w).2)(hg:∀x w,k<=w->g x w=g' x w):∀(l:List X) (w:Nat),k<=w->DA g l w=DA g' l w
 |[],w,_=>rfl
 |x::r,w,h=>by
  simp only[DA];rw[<-hg x w h];split
  .rfl
  .exact QhV hw hg r _ (X9 h (hw x w))
theorem Qn4:∀(f g:Nat) (x:A.X) (w:Nat),400<=w+f->400<=w+g->CB A σ v f x w=CB A σ v g x w
 |f,g,x,w,hf,hg=>by
  by_cases h:400<=w
  .grind[QiI]
  .match f,g,hf,hg with
   |0,_,hf,_=>omega
   |_+1,0,_,hg=>omega
   |f+1,g+1,hf,hg=>
    simp only[CB];rw[XA Ya,XA Ya]
    cases A.view σ x with
    |var u=>rfl
    |node k n s ar=>exact QhV (k:=w+1) (fun x w=>WH (ZM f x w)) (fun x w' h=>Qn4 f g x w' Ya Ya) ar (w+1) (XF _)
def FM(A:Sy)(σ:A.S)(v:Int)(l:List A.X)(w:Nat):Bool×Nat:=DA (CB A σ v 401) l w
theorem QrP{X:Type}{g:X->Nat->Bool×Nat}:∀(l m:List X) (w:Nat),DA g (l++m) w=if(DA g l w).1=true then DA g l w else DA g m (DA g l w).2
 |[],m,w=>by simp[DA]
 |x::r,m,w=>by
  by_cases h:(g x w).1=true
  .grind[DA]
  .have e1:∀S,DA g (x::S) w=DA g S (g x w).2:=fun S=>by grind[DA]
   rw[VI,e1,e1];exact QrP r m _
theorem QjE(x:A.X)(w:Nat):FM A σ v [x] w=CB A σ v 401 x w:=by
 grind[FM,DA]
theorem Qlg:∀(l:List A.X) {w:Nat},400<=w->(FM A σ v l w).1=false/\w<=(FM A σ v l w).2
 |[],w,h=>⟨rfl,XF _⟩
 |x::r,w,h=>by
  unfold FM;simp only[DA];rw[QiI 401 x h];simp only[X6,XT];have:=Qlg r (w:=w+1) Ya;exact Ydz
theorem Qsn(x:A.X)(r:List A.X){w:Nat}(h:400<=w):(FM A σ v (x::r) w).1=false/\400<(FM A σ v (x::r) w).2:=by
 unfold FM;simp only[DA];rw[QiI 401 x h];simp only[X6,XT];have:=Qlg (A:=A) (σ:=σ) (v:=v) r (w:=w+1) Ya;exact Ydz
theorem QnJ{x:A.X}{u:Int}(r:List A.X){w:Nat}(h:w<400)(hx:A.view σ x= .var u):FM A σ v (x::r) w=if u=v then(true,w+1)else FM A σ v r (w+1):=by
 grind[DA,Qn2,FM]
theorem Qsm{x:A.X}{k n:Int}{s:TJ}{ar:List A.X}(r:List A.X){w:Nat}(h:w<400)(hx:A.view σ x= .node k n s ar):FM A σ v (x::r) w=FM A σ v (ar++r) (w+1):=by
 have e:CB A σ v 401 x w=FM A σ v ar (w+1):=by
  rw[show CB A σ v 401 x w=CB A σ v (400+1) x w from rfl,Qn2,XA Ya,hx];exact QhV (k:=1) (fun x w=>WH (ZM 400 x w)) (fun x w' h=>Qn4 400 401 x w' Ya Ya) ar (w+1) Ya
 have e2:FM A σ v (x::r) w=if(CB A σ v 401 x w).1=true then(true,(CB A σ v 401 x w).2)else FM A σ v r (CB A σ v 401 x w).2:=rfl
 grind[FM,QrP]
end
section
variable{A:Sy}
theorem QxO{v:Int}{t:A.X}{σ:A.S}{w:Nat}:w+1<=(GI A v t σ w).w:=by
 grind[GI,ZM]
theorem QxX{X S:Type}{g:X->X->S->Nat->Ug S}(hg:∀a b σ w,w<=(g a b σ w).w):∀(l m:List X) (σ:S) (w:Nat),w<=(E7 g l m σ w).w
 |[],m,σ,w=>by cases m<;>exact XF _
 |_::_,[],σ,w=>XF _
 |x::l,y::m,σ,w=>by
  simp only[E7];split
  .exact X9 (hg x y σ w) (QxX hg l m _ _)
  grind
theorem Qzk{S:Type}{c:Prop}[Decidable c]{x y:Ug S}{n:Nat}(hx:n<=x.w)(hy:n<=y.w):n<=(if c then x else y).w:=by
 grind
theorem Qts:∀(f:Nat) (a b:A.X) (σ:A.S) (w:Nat),w+1<=(AY A f a b σ w).w
 |0,a,b,σ,w=>XF _
 |f+1,a,b,σ,w=>by
  simp only[AY];split
  .grind
  .cases A.view σ a with
   |var u=>
    grind[QxO]
   |node k n s ar=>
    cases A.view σ b with
    |var u'=>grind[QxO]
    |node k' n' s' qF=>exact Qzk (QxX (fun a b σ w=>WH (Qts f a b σ w)) _ _ _ _) (XF _)
theorem Qgv(f:Nat)(a b:A.X)(σ:A.S)(w:Nat):AY A (f+1) a b σ w=if 400<w+1 then⟨false,σ,w+1⟩else match A.view σ a,A.view σ b with
  | .var u,.var v=>⟨true,if u=v then σ else A.join σ a b,w+1⟩
  | .var u,.node _ _ _ _=>GI A u b σ (w+1)
  | .node _ _ _ _,.var v=>GI A v a σ (w+1)
  | .node k n s ar,.node k' n' s' qF=>if k=k'/\n=n'/\s=s'/\ar.length=qF.length then E7 (AY A f) ar qF σ (w+1)else⟨false,σ,w+1⟩:=rfl
theorem Ql6(f:Nat)(a b:A.X)(σ:A.S){w:Nat}(h:400<=w):AY A f a b σ w=⟨false,σ,w+1⟩:=by
 cases f with
 |zero=>rfl
 |succ f=>grind[AY]
theorem QhX{X S:Type}{g g':X->X->S->Nat->Ug S}{k:Nat}(hw:∀a b σ w,w<=(g a b σ w).w)(hg:∀a b σ w,k<=w->g a b σ w=g' a b σ w):∀(l m:List X) (σ:S) (w:Nat),k<=w->E7 g l m σ w=E7 g' l m σ w
 |[],m,σ,w,_=>by cases m<;>rfl
 |_::_,[],σ,w,_=>rfl
 |x::l,y::m,σ,w,h=>by
  simp only[E7];rw[<-hg x y σ w h];split
  .exact QhX hw hg l m _ _ (X9 h (hw x y σ w))
  .rfl
theorem Qnm:∀(f g:Nat) (a b:A.X) (σ:A.S) (w:Nat),400<=w+f->400<=w+g->AY A f a b σ w=AY A g a b σ w
 | f, g, a, b, σ, w, hf, hg => by
  by_cases h:400<=w
  .grind[Ql6]
  .match f,g,hf,hg with
   |0,_,hf,_=>omega
   |_+1,0,_,hg=>omega
   |f+1,g+1,hf,hg=>
    simp only[AY];rw[XA Ya,XA Ya]
    cases A.view σ a with
    |var u=>grind
    |node k n s ar=>
     cases A.view σ b with
     |var u'=>rfl
     |node k' n' s' qF=>
      show ite _ _ _=ite _ _ _;rw[QhX (k:=w+1) (fun a b σ w=>WH (Qts f a b σ w)) (fun a b σ w' h=>Qnm f g a b σ w' Ya Ya) ar qF σ (w+1) (XF _)]
def DI(A:Sy):List (A.X×A.X)->A.S->Nat->Ug A.S
 |[],σ,w=>⟨true,σ,w⟩
 |p::r,σ,w=>if(AY A 401 p.1 p.2 σ w).ok=true then DI A r (AY A 401 p.1 p.2 σ w).s (AY A 401 p.1 p.2 σ w).w else AY A 401 p.1 p.2 σ w
theorem QrQ:∀(l m:List A.X) (σ:A.S) (w:Nat),E7 (AY A 401) l m σ w=DI A (l.zip m) σ w
 |[],m,σ,w=>by cases m<;>rfl
 |_::_,[],σ,w=>rfl
 |x::l,y::m,σ,w=>by
  simp only[E7,Xbf,DI];rw[QrQ l m]
theorem QqT:∀(L M:List (A.X×A.X)) (σ:A.S) (w:Nat),DI A (L++M) σ w=if(DI A L σ w).ok=true then DI A M (DI A L σ w).s (DI A L σ w).w else DI A L σ w
 |[],M,σ,w=>by simp[DI]
 |p::L,M,σ,w=>by
  by_cases h:(AY A 401 p.1 p.2 σ w).ok=true
  .have e1:∀S,DI A (p::S) σ w=DI A S (AY A 401 p.1 p.2 σ w).s (AY A 401 p.1 p.2 σ w).w:=fun S=>by grind[DI]
   rw[VI,e1,e1];exact QqT L M _ _
  grind[DI]
theorem Qwz(a b:A.X)(σ:A.S)(w:Nat):DI A [(a,b)] σ w=AY A 401 a b σ w:=by
 simp only[DI];split
 .rename_i h;rw[<-h]
 .rfl
theorem Qt1(p:A.X×A.X)(r:List (A.X×A.X))(σ:A.S){w:Nat}(h:400<=w):DI A (p::r) σ w=⟨false,σ,w+1⟩:=by
 grind[DI,Ql6]
theorem Qt0{a b:A.X}{u u':Int}(r:List (A.X×A.X)){σ:A.S}{w:Nat}(h:w<400)(ha:A.view σ a= .var u)(hb:A.view σ b= .var u'):DI A ((a,b)::r) σ w=DI A r (if u=u' then σ else A.join σ a b) (w+1):=by
 grind[Qgv,DI]
theorem QqS{a b:A.X}(r:List (A.X×A.X)){σ:A.S}{w:Nat}{u:Int}{t:A.X}(e:AY A 401 a b σ w=GI A u t σ (w+1)):DI A ((a,b)::r) σ w=if(FM A σ u [t] (w+1)).1=true\/400<(FM A σ u [t] (w+1)).2 then⟨false,σ,(FM A σ u [t] (w+1)).2⟩else DI A r (A.bind σ u t) (FM A σ u [t] (w+1)).2:=by
 grind[DI,GI,QjE]
theorem Qzd{a b:A.X}{u:Int}{k n:Int}{s:TJ}{ar:List A.X}{σ:A.S}{w:Nat}(h:w<400)(ha:A.view σ a= .var u)(hb:A.view σ b= .node k n s ar):AY A 401 a b σ w=GI A u b σ (w+1):=by
 grind[Qgv]
theorem Qze{a b:A.X}{u:Int}{k n:Int}{s:TJ}{ar:List A.X}{σ:A.S}{w:Nat}(h:w<400)(ha:A.view σ a= .node k n s ar)(hb:A.view σ b= .var u):AY A 401 a b σ w=GI A u a σ (w+1):=by
 grind[Qgv]
theorem Qt2{a b:A.X}{k n k' n':Int}{s s':TJ}{ar qF:List A.X}(r:List (A.X×A.X)){σ:A.S}{w:Nat}(h:w<400)(ha:A.view σ a= .node k n s ar)(hb:A.view σ b= .node k' n' s' qF):DI A ((a,b)::r) σ w=if k=k'/\n=n'/\s=s'/\ar.length=qF.length then DI A (ar.zip qF++r) σ (w+1)else⟨false,σ,w+1⟩:=by
 have e:AY A 401 a b σ w=if k=k'/\n=n'/\s=s'/\ar.length=qF.length then DI A (ar.zip qF) σ (w+1)else⟨false,σ,w+1⟩:=by
  rw[show AY A 401 a b σ w=AY A (400+1) a b σ w from rfl,Qgv,XA Ya,ha,hb];show ite _ _ _=ite _ _ _;rw[QhX (k:=1) (fun a b σ w=>WH (Qts 400 a b σ w)) (fun a b σ w' h=>Qnm 400 401 a b σ w' Ya Ya) ar qF σ (w+1) Ya,QrQ]
 grind[DI,QqT]
end
def Ts.tms:Ts->List Tm
 | .nil=>[]
 | .cons k n s a r=>⟨k,n,s,a⟩::r.tms
theorem Ts.tms_len(T:Ts):T.tms.length=T.length:=by
 induction T with
 |nil=>rfl
 |cons k n s a r _ ih=>grind[tms,length]
def AX(t:Tm):Vw Tm:=if t.k=0 then .var t.n else .node t.k t.n t.s t.ar.tms
def CT(B:AC)(t:Tm):Vw Tm:=AX (Qc B t)
def MB(j:AC->Tm->Tm->AC):Sy where
 X:=Tm
 S:=AC
 ok:=BO
 dom:=fun _ _=>True
 view:=CT
 bind:=fun B v t=>(v,Qc B t)::B
 join:=j
theorem IU{B:AC}{t:Tm}{v:Int}:CT B t= .var v↔(Qc B t).k=0/\(Qc B t).n=v:=by
 grind[CT,AX]
theorem RH{B:AC}{t:Tm}{k n:Int}{s:TJ}{ar:List Tm}(h:CT B t= .node k n s ar):(Qc B t).k=k/\k≠0/\(Qc B t).n=n/\(Qc B t).s=s/\(Qc B t).ar.tms=ar:=by
 unfold CT AX at h;grind
theorem QuT{B:AC}{v:Int}{t:Tm}(hB:BO ((v,t)::B))(x:Tm):Qc ((v,t)::B) x=if(Qc B x).k=0/\(Qc B x).n=v then t else Qc B x:=by
 obtain⟨hv,ht,sN⟩:=hB
 have hBo:BO ((v,t)::B):=⟨hv,ht,sN⟩
 have htt:Qc ((v,t)::B) t=t:=by
  grind[P6,BR,LL]
 have key : ∀ (p : Nat) (x : Tm), LM B p x -> Qc ((v, t) :: B) x = if(Qc B x).k = 0 /\ (Qc B x).n = v then t else Qc B x := by
  intro p
  induction p using Nat.strongRecOn with
  | _ p ih =>
   intro x hx;by_cases hk:x.k=0
   .cases hg:BR x.n B with
    |none=>
     grind[P6,QfA,BR]
    |some u=>
     grind[LM.step,BR,QfA]
   grind[LL]
 exact key _ x (LM.start B x)
theorem Qhp{B:AC}{v:Int}{t:Tm}(hB:BO ((v,t)::B))(x:Tm):CT ((v,t)::B) x=(CT B x).sub v (AX t):=by
 grind[QuT,CT,Vw.sub,AX]
def Qv6(j:AC->Tm->Tm->AC):Prop:=∀B a b u v,BO B->CT B a= .var u->CT B b= .var v->u≠v->∃p q t,j B a b=(p,t)::B/\t.k=0/\t.n=q/\((p=u/\q=v)\/(p=v/\q=u))
theorem S6{B:AC}(hB:BO B){x:Tm}{v:Int}(h:CT B x= .var v):BR v B=none:=by
 grind[IU,LY]
theorem Qmc{j:AC->Tm->Tm->AC}(hj:Qv6 j):(MB j).Law where
 bind_ok:=by
  intro B x v t k n s ar hB _ _ hx ht;obtain⟨h1,h2,_⟩:=RH ht;exact⟨S6 hB hx,fun e=>absurd e (by grind),hB⟩
 bind_dom:=fun _=>trivial
 bind_view:=by
  intro B x v t k n s ar y hB _ _ hx ht _;obtain⟨h1,h2,_⟩:=RH ht
  have hb:BO ((v,Qc B t)::B):=⟨S6 hB hx,fun e=>absurd e (by grind),hB⟩
  exact Qhp hb y
 join_ok:=by
  intro B a b u v hB _ _ ha hb oN;obtain⟨p,q,t,e,hk,hn,Hd⟩:=hj B a b u v hB ha hb oN;show BO (j B a b);rw[e];have fu:=S6 hB ha;have fv:=S6 hB hb;rcases Hd with⟨rfl,rfl⟩|⟨rfl,rfl⟩
  .exact⟨fu,fun _=>⟨by grind,by grind⟩,hB⟩
  .exact⟨fv,fun _=>⟨by grind,by grind⟩,hB⟩
 join_dom:=fun _=>trivial
 join_view:=by
  intro B a b u v hB _ _ ha hb oN;obtain⟨p,q,t,e,hk,hn,Hd⟩:=hj B a b u v hB ha hb oN;have fu:=S6 hB ha;have fv:=S6 hB hb
  have et:AX t= .var q:=by grind[AX]
  rcases Hd with⟨rfl,rfl⟩|⟨rfl,rfl⟩
  .refine .inl fun y _=> ?_;show CT (j B a b) y=_
   have pH:BO ((p,t)::B):=⟨fu,fun _=>⟨by grind,by grind⟩,hB⟩
   exact Yeg
  .refine .inr fun y _=> ?_;show CT (j B a b) y=_
   have pH:BO ((p,t)::B):=⟨fv,fun _=>⟨by grind,by grind⟩,hB⟩
   exact Yeg
def ZQ(B:AC)(a b:Tm):AC:=((Qc B a).n,Qc B b)::B
def IY(B:AC)(a b:Tm):AC:=(max (Qc B a).n (Qc B b).n,⟨0,min (Qc B a).n (Qc B b).n,⟨#[]⟩,.nil⟩)::B
theorem Qro:Qv6 ZQ:=fun B a b u v hB ha hb oN=>by
 grind[ZQ,IU]
theorem Qw2:Qv6 IY:=fun B a b u v hB ha hb oN=>by
 grind[IY,IU]
abbrev D3:Sy:=MB ZQ
abbrev BX:Sy:=MB IY
theorem QvO{g:Tm->Nat->Bool×Nat}:∀(T:Ts) (w:Nat),ON g T w=DA g T.tms w
 | .nil,w=>rfl
 | .cons k n s a r,w=>by simp only[ON,Ts.tms,DA];rw[QvO r]
theorem QxE(B:AC)(v:Int):∀(f:Nat) (t:Tm) (w:Nat),I8 B v f t w=CB D3 B v f t w
 |0,t,w=>rfl
 |f+1,t,w=>by
  simp only[I8,CB];split
  .rfl
  .rw[show D3.view B t=AX (Qc B t)from rfl];unfold AX;by_cases hk:(Qc B t).k=0
   .grind
   .rw[XA hk,XA hk,QvO]
    have:I8 B v f=CB D3 B v f:=by funext t w;exact QxE B v f t w
    rw[this];rfl
theorem Qq6{j:AC->Tm->Tm->AC}{B:AC}(hB:BO B)(v:Int)(f:Nat)(t:Tm)(w:Nat):CB (MB j) B v f (Qc B t) w=CB (MB j) B v f t w:=by
 cases f with
 |zero=>rfl
 |succ f=>
  simp only[CB];rw[show(MB j).view B (Qc B t)=(MB j).view B t by show AX (Qc B (Qc B t))=_;rw[QuS hB];rfl]
def Us.ug(u:Us):Ug AC:=⟨u.ok,u.B,u.w⟩
theorem QvS{g:Tm->Tm->AC->Nat->Us}{g':Tm->Tm->AC->Nat->Ug AC}(P:AC->Prop)(hP:∀a b B w,P B->P (g a b B w).B)(hg:∀a b B w,P B->(g a b B w).ug=g' a b B w):∀(T U:Ts) (B:AC) (w:Nat),P B->(I2 g T U B w).ug=E7 g' T.tms U.tms B w
 | .nil,U,B,w,_=>by cases U<;>rfl
 | .cons k n s a r,.nil,B,w,_=>rfl
 | .cons k n s a r,.cons k' n' s' a' r',B,w,h=>by
  simp only[I2,Ts.tms,E7];rw[<-hg _ _ _ _ h];by_cases oK:(g ⟨k,n,s,a⟩ ⟨k',n',s',a'⟩ B w).ok=true
  .rw[XB oK,XB (show(g ⟨k,n,s,a⟩ ⟨k',n',s',a'⟩ B w).ug.ok=true from oK)];exact QvS P hP hg r r' _ _ (hP _ _ _ _ h)
  grind[Us.ug]
theorem QvJ{B:AC}(hB:BO B){v:Int}{t:Tm}(hv:BR v B=none)(ht:t.k≠0)(w:Nat):BO (MK v t B w).B:=by
 unfold MK;split
 .exact hB
 .exact⟨hv,fun e=>absurd e ht,hB⟩
theorem QrR{g:Tm->Tm->AC->Nat->Us}(hg:∀a b B w,BO B->BO (g a b B w).B):∀(T U:Ts) (B:AC) (w:Nat),BO B->BO (I2 g T U B w).B
 | .nil,U,B,w,h=>by cases U<;>exact h
 | .cons _ _ _ _ _,.nil,B,w,h=>h
 | .cons k n s a r,.cons k' n' s' a' r',B,w,h=>by
  simp only[I2];split
  .exact QrR hg r r' _ _ (hg _ _ _ _ h)
  grind
theorem Qtu:∀(f:Nat) (a b:Tm) (B:AC) (w:Nat),BO B->BO (BI f a b B w).B
 |0,a,b,B,w,h=>h
 | f + 1, a, b, B, w, h => by
  simp only[BI];split
  .exact h
  split
  .grind[BO,QvJ,LY]
  .rename_i ha;split
   .grind[QvJ,LY]
   .split
    .exact QrR (fun a b B w h=>Qtu f a b B w h) _ _ _ _ h
    .exact h
theorem Qtt:∀(f:Nat) (a b:Tm) (B:AC) (w:Nat),BO B->(BI f a b B w).ug=AY D3 f a b B w
 |0,a,b,B,w,h=>rfl
 | f + 1, a, b, B, w, h => by
  simp only[BI,AY];by_cases hw:400<w+1
  .rw[XB hw,XB hw];rfl
  rw[XA hw,XA hw];have va:D3.view B a=AX (Qc B a):=rfl;have vb:D3.view B b=AX (Qc B b):=rfl;rw[va,vb]
  have Dt:∀(v:Int) (t:Tm),(MK v (Qc B t) B (w+1)).ug=GI D3 v t B (w+1):=fun v t=>by
   unfold MK GI;rw[QxE,Qq6 (j:=ZQ) h];split<;>rfl
  by_cases ha:(Qc B a).k=0
  .rw[XB ha,show AX (Qc B a)= .var (Qc B a).n by grind[AX]];by_cases hb:(Qc B b).k=0
   .rw[XB hb,show AX (Qc B b)= .var (Qc B b).n by grind[AX]];rfl
   grind[AX]
  .rw[XA ha,show AX (Qc B a)= .node (Qc B a).k (Qc B a).n (Qc B a).s (Qc B a).ar.tms by grind[AX]];by_cases hb:(Qc B b).k=0
   .grind[AX]
   .rw[XA hb,show AX (Qc B b)= .node (Qc B b).k (Qc B b).n (Qc B b).s (Qc B b).ar.tms by grind[AX]]
    show(if _ then _ else _:Us).ug=if _ then _ else _
    have hc:QrS (Qc B a) (Qc B b)=true↔(Qc B a).k=(Qc B b).k/\(Qc B a).n=(Qc B b).n/\(Qc B a).s=(Qc B b).s/\(Qc B a).ar.tms.length=(Qc B b).ar.tms.length:=by
     grind[QrS,Ts.tms_len]
    by_cases sD:QrS (Qc B a) (Qc B b)=true
    .rw[XB sD];refine Eq.trans ?_ (XB (hc.1 sD)).symm;exact QvS BO (fun a b B w h=>Qtu f a b B w h) (fun a b B w h=>Qtt f a b B w h) _ _ _ _ h
    .rw[XA sD];exact(XA fun e=>sD (hc.2 e)).symm
def GK(l:List (Tm×Tm))(B:AC)(w:Nat):Ug AC:=DI BX l B w
def EI(B:AC)(v:Int)(l:List Tm)(w:Nat):Bool×Nat:=FM BX B v l w
theorem RF{t:Tm}(h:t.k=0):AX t= .var t.n:=by grind[AX]
theorem SO{t:Tm}(h:t.k≠0):AX t= .node t.k t.n t.s t.ar.tms:=by grind[AX]
theorem QwA(a b:Tm)(B:AC)(w:Nat):GK [(a,b)] B w=AY BX 401 a b B w:=Qwz (A:=BX) a b B w
theorem Qt4(p:Tm×Tm)(r:List (Tm×Tm))(B:AC){w:Nat}(h:400<=w):GK (p::r) B w=⟨false,B,w+1⟩:=Qt1 (A:=BX) p r B h
theorem Qt3{a b:Tm}(r:List (Tm×Tm)){B:AC}{w:Nat}(h:w<400)(ka:(Qc B a).k=0)(kb:(Qc B b).k=0)(e:(Qc B a).n=(Qc B b).n):GK ((a,b)::r) B w=GK r B (w+1):=by
 have:=Qt0 (A:=BX) (a:=a) (b:=b) r (σ:=B) h (RF ka) (RF kb);exact this.trans (XM (fun x=>DI BX r x (w+1)) (XB e))
theorem Qt5{a b:Tm}(r:List (Tm×Tm)){B:AC}{w:Nat}(h:w<400)(ka:(Qc B a).k=0)(kb:(Qc B b).k=0)(e:(Qc B a).n≠(Qc B b).n):GK ((a,b)::r) B w=GK r ((max (Qc B a).n (Qc B b).n,⟨0,min (Qc B a).n (Qc B b).n,⟨#[]⟩,.nil⟩)::B) (w+1):=by
 have:=Qt0 (A:=BX) (a:=a) (b:=b) r (σ:=B) h (RF ka) (RF kb);exact this.trans (XM (fun x=>DI BX r x (w+1)) (XA e))
theorem Qle{B:AC}(hB:BO B)(v:Int)(t:Tm)(w:Nat):EI B v [Qc B t] w=EI B v [t] w:=by
 exact(QjE (A:=BX) (σ:=B) (v:=v) (Qc B t) w).trans ((Qq6 (j:=IY) hB v 401 t w).trans (QjE (A:=BX) (σ:=B) (v:=v) t w).symm)
theorem Qyn{a b:Tm}(r:List (Tm×Tm)){B:AC}{w:Nat}(hB:BO B)(h:w<400)(ka:(Qc B a).k=0)(kb:(Qc B b).k≠0):GK ((a,b)::r) B w=
  if(EI B (Qc B a).n [Qc B b] (w+1)).1=true\/400<(EI B (Qc B a).n [Qc B b] (w+1)).2 then⟨false,B,(EI B (Qc B a).n [Qc B b] (w+1)).2⟩else GK r (((Qc B a).n,Qc B b)::B) (EI B (Qc B a).n [Qc B b] (w+1)).2:=by
 rw[Qle hB];exact QqS (A:=BX) (a:=a) (b:=b) r (Qzd (A:=BX) h (RF ka) (SO kb))
theorem Qyo{a b:Tm}(r:List (Tm×Tm)){B:AC}{w:Nat}(hB:BO B)(h:w<400)(ka:(Qc B a).k≠0)(kb:(Qc B b).k=0):GK ((a,b)::r) B w=
  if(EI B (Qc B b).n [Qc B a] (w+1)).1=true\/400<(EI B (Qc B b).n [Qc B a] (w+1)).2 then⟨false,B,(EI B (Qc B b).n [Qc B a] (w+1)).2⟩else GK r (((Qc B b).n,Qc B a)::B) (EI B (Qc B b).n [Qc B a] (w+1)).2:=by
 rw[Qle hB];exact QqS (A:=BX) (a:=a) (b:=b) r (Qze (A:=BX) h (SO ka) (RF kb))
theorem Qyq{a b:Tm}(r:List (Tm×Tm)){B:AC}{w:Nat}(h:w<400)(ka:(Qc B a).k≠0)(kb:(Qc B b).k≠0)(he:(Qc B a).k=(Qc B b).k/\(Qc B a).n=(Qc B b).n/\(Qc B a).s=(Qc B b).s/\(Qc B a).ar.length=(Qc B b).ar.length):
  GK ((a,b)::r) B w=GK ((Qc B a).ar.tms.zip (Qc B b).ar.tms++r) B (w+1):=by
 have:=Qt2 (A:=BX) (a:=a) (b:=b) r (σ:=B) h (SO ka) (SO kb);exact this.trans (XB ⟨he.1,he.2.1,he.2.2.1,(Ts.tms_len _).trans (he.2.2.2.trans (Ts.tms_len _).symm)⟩)
theorem Qyp{a b:Tm}(r:List (Tm×Tm)){B:AC}{w:Nat}(h:w<400)(ka:(Qc B a).k≠0)(kb:(Qc B b).k≠0)(he:¬((Qc B a).k=(Qc B b).k/\(Qc B a).n=(Qc B b).n/\(Qc B a).s=(Qc B b).s/\(Qc B a).ar.length=(Qc B b).ar.length)):
  GK ((a,b)::r) B w=⟨false,B,w+1⟩:=by
 have:=Qt2 (A:=BX) (a:=a) (b:=b) r (σ:=B) h (SO ka) (SO kb);exact this.trans (XA fun hh=>he ⟨hh.1,hh.2.1,hh.2.2.1,(Ts.tms_len _).symm.trans (hh.2.2.2.trans (Ts.tms_len _))⟩)
theorem Qlf(B:AC)(v:Int)(x:Tm)(r:List Tm){w:Nat}(h:400<=w):(EI B v (x::r) w).1=false/\400<(EI B v (x::r) w).2:=Qsn (A:=BX) x r h
theorem QnI{B:AC}{v:Int}{x:Tm}(r:List Tm){w:Nat}(h:w<400)(hk:(Qc B x).k=0)(hn:(Qc B x).n=v):EI B v (x::r) w=(true,w+1):=
 (QnJ (A:=BX) r h (RF hk)).trans (XB hn)
theorem Qld{B:AC}{v:Int}{x:Tm}(r:List Tm){w:Nat}(h:w<400)(hk:(Qc B x).k=0)(hn:(Qc B x).n≠v):EI B v (x::r) w=EI B v r (w+1):=
 (QnJ (A:=BX) r h (RF hk)).trans (XA hn)
theorem Qlc{B:AC}{v:Int}{x:Tm}(r:List Tm){w:Nat}(h:w<400)(hk:(Qc B x).k≠0):EI B v (x::r) w=EI B v ((Qc B x).ar.tms++r) (w+1):=
 Qsm (A:=BX) r h (SO hk)
def E3(m:Int)(t:Tm):Prop:=(t.k=0->t.n<m)/\t.ar.vars (· <m)
def FB(m:Int)(B:AC):Prop:=∀x∈B,x.1<m/\E3 m x.2
theorem Ts.vars_mono{P Q:Int->Prop}(h:∀n,P n->Q n)(T:Ts):T.vars P->T.vars Q:=by
 induction T with
 |nil=>exact id
 |cons k n s ar r rO qO=>exact fun⟨a,b,c⟩=>⟨fun e=>h _ (a e),rO b,qO c⟩
theorem E3.mono{m m':Int}(h:m<=m'){t:Tm}(ht:E3 m t):E3 m' t:=⟨fun e=>Xbg (ht.1 e) h,Ts.vars_mono (fun _ hn=>Xbg hn h) _ ht.2⟩
theorem FB.mono{m m':Int}(h:m<=m'){B:AC}(hB:FB m B):FB m' B:=fun x hx=>⟨Xbg (hB x hx).1 h,(hB x hx).2.mono h⟩
theorem NF{m:Int}{B:AC}(hB:FB m B){t:Tm}(ht:E3 m t):E3 m (Qc B t):=by
 rcases Qmu (B:=B) t with e|⟨x,hx,e⟩
 .rw[e];exact ht
 .rw[e];exact(hB x hx).2
theorem QtE{m:Int}{T:Ts}(h:T.vars (· <m)):∀x∈T.tms,E3 m x:=by
 induction T with
 |nil=>intro x hx;cases hx
 |cons k n s ar r _ ih=>
  intro x hx;rcases XV.1 hx with rfl|hx
  .exact⟨h.1,h.2.1⟩
  .exact ih h.2.2 x hx
theorem FB.get{m:Int}{B:AC}(hB:FB m B){n:Int}(hn:m<=n):BR n B=none:=by
 induction B with
 |nil=>rfl
 |cons x r ih=>
  simp only[BR];rw[XA (by have:=(hB x (X8 ..)).1;omega)];exact ih fun y hy=>hB y (XZ _ hy)
theorem FB.cons{m:Int}{B:AC}(hB:FB m B){v:Int}{t:Tm}(hv:v<m)(ht:E3 m t):FB m ((v,t)::B):=fun x hx=>by
 rcases XV.1 hx with rfl|hx
 .exact⟨hv,ht⟩
 .exact hB x hx
def Qv7(j:AC->Tm->Tm->AC):Prop:=∀m B a b,FB m B->E3 m a->E3 m b->(Qc B a).k=0->(Qc B b).k=0->FB m (j B a b)
theorem Qrp:Qv7 ZQ:=fun m B a b hB ha hb ka kb=>hB.cons ((NF hB ha).1 ka) (NF hB hb)
theorem Qw3:Qv7 IY:=fun m B a b hB ha hb ka kb=>by
 have h1:=(NF hB ha).1 ka;have h2:=(NF hB hb).1 kb;exact hB.cons Ya ⟨fun _=>by show min _ _<m;omega,trivial⟩
theorem QxP{j:AC->Tm->Tm->AC}{m:Int}{B:AC}(hB:FB m B){v:Int}{t:Tm}(hv:v<m)(ht:E3 m t)(w:Nat):FB m (GI (MB j) v t B w).s:=by
 unfold GI;split
 .exact hB
 .exact hB.cons hv (NF hB ht)
theorem QxY{m:Int}{g:Tm->Tm->AC->Nat->Ug AC}(hg:∀a b B w,FB m B->E3 m a->E3 m b->FB m (g a b B w).s):∀(l l':List Tm) (B:AC) (w:Nat),FB m B->(∀x∈l,E3 m x)->(∀x∈l',E3 m x)->FB m (E7 g l l' B w).s
 |[],l',B,w,h,_,_=>by cases l'<;>exact h
 |_::_,[],B,w,h,_,_=>h
 |x::l,y::l',B,w,h,hl,Ky=>by
  simp only[E7];have h1:=hg x y B w h (hl x (X8 ..)) (Ky y (X8 ..));split
  .exact QxY hg l l' _ _ h1 (fun z hz=>hl z (XZ _ hz)) (fun z hz=>Ky z (XZ _ hz))
  .exact h1
theorem Qzl{m:Int}{c:Prop}[Decidable c]{x y:Ug AC}(hx:FB m x.s)(hy:FB m y.s):FB m (if c then x else y).s:=by
 split
 .exact hx
 .exact hy
theorem Qqx{j:AC->Tm->Tm->AC}(hj:Qv7 j){m:Int}:∀(f:Nat) (a b:Tm) (B:AC) (w:Nat),FB m B->E3 m a->E3 m b->FB m (AY (MB j) f a b B w).s
 |0,a,b,B,w,h,_,_=>h
 | f + 1, a, b, B, w, h, ha, hb => by
  simp only[AY];split
  .exact h
  .have la:=NF h ha;have lb:=NF h hb;have va:(MB j).view B a=AX (Qc B a):=rfl;have vb:(MB j).view B b=AX (Qc B b):=rfl;rw[va,vb];by_cases ka:(Qc B a).k=0
   .rw[show AX (Qc B a)= .var (Qc B a).n by unfold AX;rw[XB ka]];by_cases kb:(Qc B b).k=0
    .rw[show AX (Qc B b)= .var (Qc B b).n by unfold AX;rw[XB kb]];show FB m (if(Qc B a).n=(Qc B b).n then B else j B a b);split
     .exact h
     .exact hj m B a b h ha hb ka kb
    .rw[show AX (Qc B b)= .node (Qc B b).k (Qc B b).n (Qc B b).s (Qc B b).ar.tms by unfold AX;rw[XA kb]];exact QxP h (la.1 ka) hb _
   .rw[show AX (Qc B a)= .node (Qc B a).k (Qc B a).n (Qc B a).s (Qc B a).ar.tms by unfold AX;rw[XA ka]];by_cases kb:(Qc B b).k=0
    .rw[show AX (Qc B b)= .var (Qc B b).n by unfold AX;rw[XB kb]];exact QxP h (lb.1 kb) ha _
    .rw[show AX (Qc B b)= .node (Qc B b).k (Qc B b).n (Qc B b).s (Qc B b).ar.tms by unfold AX;rw[XA kb]];exact Qzl (QxY (fun a b B w h ha hb=>Qqx hj f a b B w h ha hb) _ _ _ _ h (QtE la.2) (QtE lb.2)) h
def CN(ρ:Int->Int->Prop)(t t':Tm):Prop:=DB ρ (.cons t.k t.n t.s t.ar .nil) (.cons t'.k t'.n t'.s t'.ar .nil)
theorem DB.mono{ρ ρ':Int->Int->Prop}(h:∀u v,ρ u v->ρ' u v){T U:Ts}(hr:DB ρ T U):DB ρ' T U:=by
 induction hr with
 |nil=>exact .nil
 |var h1 _ ih=>exact .var (h _ _ h1) ih
 |node h1 _ _ ih1 uV=>exact .node h1 ih1 uV
theorem DB.al{ρ:Int->Int->Prop}{T U:Ts}(h:DB ρ T U):Al (CN ρ) T.tms U.tms:=by
 induction h with
 |nil=>exact .nil
 |var h1 h2 ih=>exact .cons (.var h1 .nil) ih
 |node h1 h2 h3 _ ih=>exact .cons (.node h1 h2 .nil) ih
theorem DB.len{ρ:Int->Int->Prop}{T U:Ts}(h:DB ρ T U):T.length=U.length:=by
 induction h with
 |nil=>rfl
 |var _ _ ih=>simp only[Ts.length,ih]
 |node _ _ _ _ ih=>simp only[Ts.length,ih]
theorem CN.cases{ρ:Int->Int->Prop}{t t':Tm}(h:CN ρ t t'):(t.k=0/\t'.k=0/\ρ t.n t'.n/\t.s=t'.s/\t.ar= .nil/\t'.ar= .nil)\/(t.k≠0/\t.k=t'.k/\t.n=t'.n/\t.s=t'.s/\DB ρ t.ar t'.ar):=by
 obtain⟨k,n,s,a⟩:=t;obtain⟨_,_,_,_⟩:=t';unfold CN at h;dsimp only at h⊢
 cases h with
 |var h1 _=>exact .inl ⟨rfl,rfl,h1,rfl,rfl,rfl⟩
 |node h1 h2 _=>exact .inr ⟨h1,rfl,rfl,rfl,h2⟩
theorem CN.node_vw{ρ:Int->Int->Prop}{t t':Tm}(hk:t.k≠0)(h:CN ρ t t'):KY (CN ρ) (AX t) (AX t'):=by
 rcases h.cases with h|⟨h1,h2,h3,h4,h5⟩
 .exact absurd h.1 hk
 .unfold AX;rw[XA h1,XA (by rw[<-h2];exact h1)];exact⟨h2,h3,h4,h5.al⟩
def KZ(ρ:Int->Int->Prop)(m m' V:Int)(u v:Int):Prop:=ρ u v\/∃i,0<=i/\i<V/\u=i+m/\v=i+m'
theorem Bm.more{ρ:Int->Int->Prop}{B e:AC}{m m' V:Int}(h:Bm D3 BX (CN ρ) B e)(hB:FB m B)(he:FB m' e)(hρ:∀u v,ρ u v->u<m/\v<m'):Bm D3 BX (CN (KZ ρ m m' V)) B e:=by
 have rQ:∀x y,CN ρ x y->CN (KZ ρ m m' V) x y:=fun x y hr=>DB.mono (fun u v h=> .inl h) hr
 have Vy:∀{x y:Tm},CN (KZ ρ m m' V) x y->x.k=0->(CN ρ x y)\/∃i,0<=i/\i<V/\CT B x= .var (i+m)/\CT e y= .var (i+m'):=by
  intro x y hr hk;rcases hr.cases with⟨k0,k1,hv,hs,ha,Fv⟩|⟨hn,_⟩
  .rcases hv with hv|⟨i,i0,i1,e1,e2⟩
   .left;obtain⟨k,_,s,a⟩:=x;obtain⟨_,_,_,_⟩:=y;dsimp only at*;subst k0 k1 hs ha Fv;exact .var hv .nil
   .refine .inr ⟨i,i0,i1,?_,?_⟩
    .refine IU.2 ?_;rw[P6 (hB.get Ya)];exact⟨k0,e1⟩
    .refine IU.2 ?_;rw[P6 (he.get Ya)];exact⟨k1,e2⟩
  .exact absurd hk hn
 have Rq:∀{x y:Tm} {u v:Int},CN ρ x y->CT B x= .var u->CT e y= .var v->u<m/\v<m':=by
  intro x y u v hr hu hv;obtain⟨a1,a2⟩:=IU.1 hu;obtain⟨b1,b2⟩:=IU.1 hv;rcases hr.cases with⟨k0,k1,hv,hs,ha,Fv⟩|⟨hn,Ay,_⟩
  .obtain⟨c1,c2⟩:=hρ _ _ hv
   have lx:E3 m x:=⟨fun _=>c1,by rw[ha];trivial⟩
   have ly:E3 m' y:=⟨fun _=>c2,by rw[Fv];trivial⟩
   rw[<-a2,<-b2];exact⟨(NF hB lx).1 a1,(NF he ly).1 b1⟩
  .rw[LL hn]at a1;exact absurd a1 hn
 have Kz:∀{x:Tm} {u:Int},CT B x= .var u->x.k=0:=by
  intro x u hu;obtain⟨a1,a2⟩:=IU.1 hu;by_cases hk:x.k=0
  .exact hk
  .rw[LL hk]at a1;exact a1
 refine⟨h.oka,h.okb,fun _=>trivial,fun _=>trivial,fun{x y} hr=> ?_,?_⟩
 .by_cases hk:x.k=0
  .rcases Vy hr hk with ho|⟨i,i0,i1,e1,e2⟩
   .exact KY.imp rQ (h.vw ho)
   .show KY _ (CT B x) (CT e y);rw[e1,e2];trivial
  .have yC:y.k≠0:=by
    rcases hr.cases with h|h
    .exact absurd h.1 hk
    .rw[<-h.2.1];exact hk
   show KY _ (AX (Qc B x)) (AX (Qc e y));rw[LL hk,LL yC];exact hr.node_vw hk
 .intro x y _ _ u u' v v' hr uI e1 e2 e3 e4;rcases Vy hr (Kz e1)with ho|⟨i,i0,i1,f1,f2⟩
  .rcases Vy uI (Kz e2)with Gp|⟨i',i0',i1',f1',f2'⟩
   .exact h.vr ho Gp e1 e2 e3 e4
   .have g1:=Rq ho e1 e3
    have g2:u'=i'+m:=by have:=f1'.symm.trans e2;cases this;rfl
    have g3:v'=i'+m':=by have:=f2'.symm.trans e4;cases this;rfl
    omega
  .have g2:u=i+m:=by have:=f1.symm.trans e1;cases this;rfl
   have g3:v=i+m':=by have:=f2.symm.trans e3;cases this;rfl
   rcases Vy uI (Kz e2)with Gp|⟨i',i0',i1',f1',f2'⟩
   .have g1:=Rq Gp e2 e4;omega
   .have g4:u'=i'+m:=by have:=f1'.symm.trans e2;cases this;rfl
    have g5:v'=i'+m':=by have:=f2'.symm.trans e4;cases this;rfl
    omega
theorem QnB{ρ:Int->Int->Prop}{m m' V:Int}(h0:0<=m)(h1:m<=40000)(h2:0<=m')(h3:m'<=40000)(hV:V<=8)(T:Ts):T.good V=true->DB (KZ ρ m m' V) (T.shift m) (T.shift m'):=by
 induction T with
 |nil=>intro _;exact .nil
 |cons k n s ar r rO qO=>
  intro hg;simp only[Ts.good,XI]at hg;rw[Ts.shift_cons,Ts.shift_cons];by_cases hk:k=0
  .subst hk;have hn:=hg.1.1;unfold CL at hn;rw[XB rfl]at hn;simp only[XI,XO]at hn;obtain rfl:=Ts.nil_of_length hn.2
   have e1:FN 0 n m=n+m:=by unfold FN;rw[XB rfl,N6 Ya Ya,N6 h0 Ya]
   have e2:FN 0 n m'=n+m':=by unfold FN;rw[XB rfl,N6 Ya Ya,N6 h2 Ya]
   rw[e1,e2];exact .var (.inr ⟨n,hn.1.1.1,hn.1.1.2,rfl,rfl⟩) (qO hg.2)
  .have e1:FN k n m=n:=by unfold FN;rw[XA hk]
   have e2:FN k n m'=n:=by unfold FN;rw[XA hk]
   rw[e1,e2];exact .node hk (rO hg.1.2) (qO hg.2)
theorem QqC{ρ:Int->Int->Prop}(hi:∀u v u' v',ρ u v->ρ u' v'->(u=u'↔v=v')){T U:Ts}(h:DB ρ T U):∀ks yH:T7,Al ρ ks yH->(T.tidyFrom ks).1=(U.tidyFrom yH).1/\Al ρ (T.tidyFrom ks).2 (U.tidyFrom yH).2:=by
 have tI:∀{n n':Int},ρ n n'->∀{ks yH:T7},Al ρ ks yH->pos n ks=pos n' yH:=by
  intro n n' hn ks yH hk
  induction hk with
  |nil=>rfl
  | @cons x y l m Gj _ ih=>
   simp only[pos];by_cases e:n=x
   .rw[XB e,XB ((hi _ _ _ _ hn Gj).1 e)]
   .rw[XA e,XA fun e2=>e ((hi _ _ _ _ hn Gj).2 e2),ih]
 induction h with
 |nil=>intro ks yH hk;exact⟨rfl,hk⟩
 | @var n n' s r r' hn _ ih=>
  intro ks yH hk;rw[Ts.tidyFrom_cons,Ts.tidyFrom_cons]
  have e1:tV 0 n ks=tV 0 n' yH:=by
   unfold tV KG;rw[XB rfl,XB rfl,tI hn hk,hk.len]
  have e2:Al ρ (tS 0 n ks) (tS 0 n' yH):=by
   unfold tS H8;rw[XB rfl,XB rfl,tI hn hk];split
   .exact hk
   .exact hk.app (.cons hn .nil)
  obtain⟨i1,i2⟩:=ih _ _ (show Al ρ (Ts.nil.tidyFrom (tS 0 n ks)).2 (Ts.nil.tidyFrom (tS 0 n' yH)).2 from e2);refine⟨?_,i2⟩;rw[e1,i1];rfl
 | @node k n s ar qF r r' rU _ _ rO qO=>
  intro ks yH hk;rw[Ts.tidyFrom_cons,Ts.tidyFrom_cons]
  have e1:tV k n ks=n:=by unfold tV;rw[XA rU]
  have e1':tV k n yH=n:=by unfold tV;rw[XA rU]
  have e2:tS k n ks=ks:=by unfold tS;rw[XA rU]
  have e2':tS k n yH=yH:=by unfold tS;rw[XA rU]
  rw[e1,e1',e2,e2'];obtain⟨i1,i2⟩:=rO _ _ hk;obtain⟨j1,j2⟩:=qO _ _ i2;exact⟨by rw[i1,j1],j2⟩
structure AO where
 fuel:Nat
 vars:Nat
 calls:Nat
 out:List Ev
 ended:Bool
abbrev Tg:=Tm×Nat
def DH(k:Int)(p:AO):AO:=⟨p.fuel,p.vars,p.calls,p.out++[(k,.nil)],true⟩
def LG(j:AC->Tm->Tm->AC)(e:AC):Nat->Nat->Nat->Option (Ts×Nat)
 |0,_,l=>some (.nil,l)
 |m+1,v,l=>match CJ (MB j) e 201 ⟨0,v,⟨#[]⟩,.nil⟩ l with
  |none=>none
  |some (t,l')=>match LG j e m (v+1) l' with
   |none=>none
   |some (T,l'')=>some (.cons t.k t.n t.s t.ar T,l'')
def KR(q:Nat)(e:AC)(p:AO):Int×AO:=match LG IY e q 0 200 with
 |none=>(-1,DH 4 p)
 |some (T,_)=>if(p.out++[((1:Int),T.tidy)]).length=12 then(-1,DH 6 ⟨p.fuel,p.vars,p.calls,p.out++[(1,T.tidy)],p.ended⟩)else(-1,⟨p.fuel,p.vars,p.calls,p.out++[(1,T.tidy)],p.ended⟩)
def BA(a b:Tm)(e:AC):Ug AC:=AY BX 401 a b e 0
def CF:Ts->Int->Nat->List Tg->List Tg
 | .nil,_,_,rest=>rest
 | .cons k n s a r,m,c,rest=>(Tm.shift ⟨k,n,s,a⟩ m,c)::CF r m c rest
def EF(pr:List Tg->AC->AO->Int×AO)(g:Tg)(r:List Tg)(e:AC)(call:Nat):List Cl->AO->Int×AO
 |[],p=>(-1,p)
 |c::cs,p=>
  if 400<(BA (c.head.shift p.vars) g.1 e).w then(-1,DH 4 p)
  else if(BA (c.head.shift p.vars) g.1 e).ok=true then
   if(pr (CF c.bd p.vars call r) (BA (c.head.shift p.vars) g.1 e).s ⟨p.fuel,p.vars+c.vars.toNat,p.calls,p.out,p.ended⟩).2.ended=true then(-1,(pr (CF c.bd p.vars call r) (BA (c.head.shift p.vars) g.1 e).s ⟨p.fuel,p.vars+c.vars.toNat,p.calls,p.out,p.ended⟩).2)
   else if(pr (CF c.bd p.vars call r) (BA (c.head.shift p.vars) g.1 e).s ⟨p.fuel,p.vars+c.vars.toNat,p.calls,p.out,p.ended⟩).1=(call:Nat)then(-1,(pr (CF c.bd p.vars call r) (BA (c.head.shift p.vars) g.1 e).s ⟨p.fuel,p.vars+c.vars.toNat,p.calls,p.out,p.ended⟩).2)
   else if 0<=(pr (CF c.bd p.vars call r) (BA (c.head.shift p.vars) g.1 e).s ⟨p.fuel,p.vars+c.vars.toNat,p.calls,p.out,p.ended⟩).1 then pr (CF c.bd p.vars call r) (BA (c.head.shift p.vars) g.1 e).s ⟨p.fuel,p.vars+c.vars.toNat,p.calls,p.out,p.ended⟩
   else EF pr g r e call cs (pr (CF c.bd p.vars call r) (BA (c.head.shift p.vars) g.1 e).s ⟨p.fuel,p.vars+c.vars.toNat,p.calls,p.out,p.ended⟩).2
  else EF pr g r e call cs p
def HV(pr:List Tg->AC->AO->Int×AO)(r:List Tg)(e:AC)(p:AO)(x y:Tm):Int×AO:=
 if 400<(BA x y e).w then(-1,DH 4 p)else if(BA x y e).ok=true then pr r (BA x y e).s p else(-1,p)
def LQ(pr:List Tg->AC->AO->Int×AO)(g:Tg)(r:List Tg)(e:AC)(p:AO):Int×AO:=
 if g.1.s.toList=[33]then if 0<=(pr r e p).1/\(pr r e p).1<(g.2:Nat)then pr r e p else((g.2:Nat),(pr r e p).2)
 else if g.1.s.toList=[116,114,117,101]then pr r e p
 else if g.1.s.toList=[102,97,105,108]then(-1,p)
 else if g.1.s.toList=[101,113]then HV pr r e p (g.1.ar.at_ 0) (g.1.ar.at_ 1)
 else if(Qc e (g.1.ar.at_ 0)).k≠2\/(Qc e (g.1.ar.at_ 1)).k≠2\/(g.1.s.toList=[97,100,100]/\(1099511627776<(Qc e (g.1.ar.at_ 0)).n+(Qc e (g.1.ar.at_ 1)).n\/(Qc e (g.1.ar.at_ 0)).n+(Qc e (g.1.ar.at_ 1)).n< -1099511627776))then(-1,DH 5 p)
 else if g.1.s.toList=[108,101,115,115]then if(Qc e (g.1.ar.at_ 0)).n<(Qc e (g.1.ar.at_ 1)).n then pr r e p else(-1,p)
 else HV pr r e p (g.1.ar.at_ 2) ⟨2,(Qc e (g.1.ar.at_ 0)).n+(Qc e (g.1.ar.at_ 1)).n,⟨#[]⟩,.nil⟩
def Qn(P:List Cl)(q:Nat):Nat->List Tg->AC->AO->Int×AO
 |_,[],e,p=>KR q e p
 |0,_::_,_,p=>(-1,DH 3 p)
 |f+1,g::r,e,p=>if p.fuel=0 then(-1,DH 3 p)
  else if Q1 g.1.s.toList g.1.ar.length=true then LQ (Qn P q f) g r e ⟨p.fuel-1,p.vars,p.calls,p.out,p.ended⟩
  else match P.filter (FC g.1)with
   |[]=>(-1,DH 5 ⟨p.fuel-1,p.vars,p.calls,p.out,p.ended⟩)
   |c::cs=>EF (Qn P q f) g r e (p.calls+1) (c::cs) ⟨p.fuel-1,p.vars,p.calls+1,p.out,p.ended⟩
def Qjj(P:List Cl)(q:Ts)(vars fuel:Int):List Ev×Int:=
 if pB P=false\/qB vars q=false then([],1)
 else if fuel<0\/150<fuel then([],2)
 else(if(Qn P vars.toNat fuel.toNat (CF q 0 0 []) [] ⟨fuel.toNat,vars.toNat,0,[],false⟩).2.ended=true then(Qn P vars.toNat fuel.toNat (CF q 0 0 []) [] ⟨fuel.toNat,vars.toNat,0,[],false⟩).2.out
  else(Qn P vars.toNat fuel.toNat (CF q 0 0 []) [] ⟨fuel.toNat,vars.toNat,0,[],false⟩).2.out++[(2,.nil)],0)
section
variable{P:List Cl}{q:Nat}
def HZ(P:List Cl)(q:Nat)(s:SS)(L:List Ev):Prop:=∃n,GL P q n s=L/\L≠[]
def NQ(P:List Cl)(q:Nat)(s:SS)(L:List Ev):Prop:=((Q9 s).1=0/\HZ P q (Q9 s).2 L)\/((Q9 s).1≠0/\L=FD (Q9 s).2.ev++[((Q9 s).1,.nil)])
theorem Qka{s s':SS}{L:List Ev}(h:BD P q s=(0,s'))(hg:HZ P q s' L):HZ P q s L:=by
 obtain⟨n,h1,h2⟩:=hg;refine⟨n+1,?_,h2⟩;simp only[GL,h,X5];exact h1
theorem QgX{s s':SS}{k:Int}(h:BD P q s=(k,s'))(hk:k≠0):HZ P q s (FD s'.ev++[(k,.nil)]):=by
 refine⟨1,?_,by simp⟩;simp only[GL,h];rw[XA hk]
theorem QhF{s t:SS}{L:List Ev}(h:BD P q s=Q9 t)(hr:NQ P q t L):HZ P q s L:=by
 rcases hr with⟨h0,hg⟩|⟨h0,rfl⟩
 .exact Qka (s':=(Q9 t).2) (by rw[h,<-h0]) hg
 .exact QgX (s':=(Q9 t).2) (k:=(Q9 t).1) h h0
theorem Qlj:∀(n m:Nat) (s:SS),CH s.ch<n->CH s.ch<m->D5 n s=D5 m s
 |0,_,_,h,_=>by omega
 |_,0,_,_,h=>by omega
 |n+1,m+1,s,hn,hm=>by
  conv=>lhs;unfold D5
  conv=>rhs;unfold D5
  cases h1:s.ch with
  |nil=>rfl
  |cons c cs=>
   simp only
   cases h2:c.cls with
   |nil=>rfl
   |cons cl more=>
    simp only
    have hc:CH s.ch=more.length+1+CH cs:=by rw[h1];simp only[CH,h2,XJ]
    split
    .rfl
    split
    .rfl
    .exact Qlj n m _ (by simp only[PL];omega) (by simp only[PL];omega)
theorem Ql7(X B:AC):CG (X++B) B.length=B:=by
 unfold CG;rw[show(X++B).length-B.length=X.length by simp];simp
theorem Qsp{t:SS}{g:Gl}{rest:List Gl}{c:Cl}{more:List Cl}{C:List Ch}{X B:AC}(hc:t.ch=⟨g,rest,c::more,B.length⟩::C)(hB:t.B=X++B){L:List Ev}:
  NQ P q t L↔(if 400<(BI 401 (c.head.shift t.fresh) g.1 B 0).w then L=FD t.ev++[(4,.nil)]
   else if(BI 401 (c.head.shift t.fresh) g.1 B 0).ok=true then HZ P q ⟨(BI 401 (c.head.shift t.fresh) g.1 B 0).B,t.fresh+c.vars.toNat,t.fuel,ID c.bd t.fresh C.length rest,C5 ⟨g,rest,[],B.length⟩ more C,t.ev⟩ L
   else NQ P q ⟨(BI 401 (c.head.shift t.fresh) g.1 B 0).B,t.fresh+c.vars.toNat,t.fuel,t.goals,C5 ⟨g,rest,[],B.length⟩ more C,t.ev⟩ L):=by
 have hp:C5 ⟨g,rest,c::more,B.length⟩ more C=C5 ⟨g,rest,[],B.length⟩ more C:=by cases more<;>rfl
 have ha:Q9 t=D5 (CH t.ch+1) t:=rfl;have hr:=Qek (n:=CH t.ch) (s:=t) hc (rfl:(⟨g,rest,c::more,B.length⟩:Ch).cls=c::more);rw[hB,Ql7,hp]at hr;unfold NQ;rw[ha,hr];dsimp only;split
 .simp
 split
 .simp
 .have hf:D5 (CH t.ch) ⟨(BI 401 (c.head.shift t.fresh) g.1 B 0).B,t.fresh+c.vars.toNat,t.fuel,t.goals,C5 ⟨g,rest,[],B.length⟩ more C,t.ev⟩=Q9 ⟨(BI 401 (c.head.shift t.fresh) g.1 B 0).B,t.fresh+c.vars.toNat,t.fuel,t.goals,C5 ⟨g,rest,[],B.length⟩ more C,t.ev⟩:=by
   refine Qlj _ _ _ ?_ YM;simp only[PL];rw[hc];simp only[CH,XJ];omega
  rw[hf]
theorem DB.low{ρ:Int->Int->Prop}{m m':Int}(hρ:∀u v,ρ u v->u<m/\v<m'){T U:Ts}(h:DB ρ T U):T.vars (· <m)/\U.vars (· <m'):=by
 induction h with
 |nil=>exact⟨trivial,trivial⟩
 |var h1 _ ih=>exact⟨⟨fun _=>(hρ _ _ h1).1,trivial,ih.1⟩,⟨fun _=>(hρ _ _ h1).2,trivial,ih.2⟩⟩
 |node h1 _ _ i1 i2=>exact⟨⟨fun e=>absurd e h1,i1.1,i2.1⟩,⟨fun e=>absurd e h1,i1.2,i2.2⟩⟩
theorem CN.low{ρ:Int->Int->Prop}{m m':Int}(hρ:∀u v,ρ u v->u<m/\v<m'){t t':Tm}(h:CN ρ t t'):E3 m t/\E3 m' t':=by
 obtain⟨⟨a,b,_⟩,c,d,_⟩:=DB.low hρ h;exact⟨⟨a,b⟩,⟨c,d⟩⟩
theorem Qqy{ρ:Int->Int->Prop}{B e:AC}{m m':Int}(h:Bm D3 BX (CN ρ) B e)(hB:FB m B)(he:FB m' e)(hρ:∀u v,ρ u v->u<m/\v<m'){a b a' b':Tm}(ha:CN ρ a a')(hb:CN ρ b b'):
  (BI 401 a b B 0).ok=(BA a' b' e).ok/\(BI 401 a b B 0).w=(BA a' b' e).w/\Bm D3 BX (CN ρ) (BI 401 a b B 0).B (BA a' b' e).s/\FB m (BI 401 a b B 0).B/\FB m' (BA a' b' e).s:=by
 have hu:=Qtt 401 a b B 0 h.oka;obtain⟨h1,h2,h3⟩:=Qpi (Qmc Qro) (Qmc Qw2) 401 a b a' b' B e 0 h ha hb;have la:=ha.low hρ;have lb:=hb.low hρ;have f1:=Qqx Qrp 401 a b B 0 hB la.1 lb.1;have f2:=Qqx Qw3 401 a' b' e 0 he la.2 lb.2;rw[<-hu]at h1 h2 h3 f1;exact⟨h1,h2,h3,f1,f2⟩
end
def HY(h:Nat->Nat)(C:List Ch)(c:Int):List Ch:=if c<0 then C else C.drop (C.length-h c.toNat)
structure Rs(P:List Cl)(q:Nat)(K:List Ev->Prop)(B0:AC)(He:Nat)(C:List Ch)(p p':AO):Prop where
 vm:p.vars<=p'.vars
 cm:p.calls<=p'.calls
 fm:p'.fuel<=p.fuel
 en:p'.ended=true->K p'.out
 go:p'.ended=false->∃t:SS,DC t/\t.ch=C/\t.fuel=p'.fuel/\p'.out=FD t.ev/\t.ev.length<12/\(∃X,t.B=X++B0)/\He<=t.fresh/\p'.vars<=t.fresh/\∀L,NQ P q t L->K L
def UM(ρ:Int->Int->Prop)(h:Nat->Nat)(x:Gl)(y:Tg):Prop:=CN ρ x.1 y.1/\x.2=h y.2
structure Rl(ρ:Int->Int->Prop)(h:Nat->Nat)(q:Nat)(s:SS)(g:List Tg)(e:AC)(p:AO):Prop where
 fuel:s.fuel=p.fuel
 out:p.out=FD s.ev
 ev:s.ev.length<12
 ne:p.ended=false
 bm:Bm D3 BX (CN ρ) s.B e
 fb:FB s.fresh s.B
 fe:FB p.vars e
 rho:∀u v,ρ u v->u<s.fresh/\v<p.vars
 le:p.vars<=s.fresh
 qv:∀v:Nat,v<q->ρ v v
 gl:Al (UM ρ h) s.goals g
 srt:g.Pairwise fun a b=>b.2<=a.2
 mono:∀a∈g,∀b∈g,a.2<=b.2->h a.2<=h b.2
 ht:∀a∈g,h a.2<=s.ch.length/\a.2<=p.calls
 inv:Inv s
def QzC(P:List Cl)(q f:Nat):Prop:=∀ρ h s g e p,Rl ρ h q s g e p->p.fuel<=f->
 Rs P q (HZ P q s) s.B s.fresh (HY h s.ch (Qn P q f g e p).1) p (Qn P q f g e p).2/\((Qn P q f g e p).2.ended=false->(Qn P q f g e p).1= -1\/∃a∈g,(Qn P q f g e p).1=(a.2:Nat))
theorem Al.impM{X Y:Type}{R Q:X->Y->Prop}{l:List X}{m:List Y}(h:Al R l m):(∀x y,y∈m->R x y->Q x y)->Al Q l m:=by
 induction h with
 |nil=>intro _;exact .nil
 |cons h _ ih=>intro hi;exact .cons (hi _ _ (X8 ..) h) (ih fun x y hy hr=>hi x y (XZ _ hy) hr)
theorem PM{m:Int}{c:Nat}{r:List Tg}:∀(T:Ts) {a:Tg},a∈CF T m c r->a.2=c\/a∈r
 | .nil,a,h=> .inr h
 | .cons k n s ar t,a,h=>by
  rcases XV.1 h with rfl|h
  .exact NA
  .exact PM t h
theorem QmS{m:Int}{c:Nat}{r:List Tg}(hr:r.Pairwise fun a b=>b.2<=a.2)(hc:∀a∈r,a.2<=c):∀T:Ts,(CF T m c r).Pairwise fun a b=>b.2<=a.2
 | .nil=>hr
 | .cons k n s ar t=>by
  refine VT.2 ⟨fun a ha=> ?_,QmS hr hc t⟩;rcases PM t ha with e|e
  .exact Nat.le_of_eq e
  .exact hc a e
theorem QmT{ρ:Int->Int->Prop}{h:Nat->Nat}{m m' V:Int}{o c:Nat}{rest:List Gl}{r:List Tg}(h0:0<=m)(h1:m<=40000)(h2:0<=m')(h3:m'<=40000)(hV:V<=8)(ho:o=h c)(hr:Al (UM (KZ ρ m m' V) h) rest r):∀T:Ts,T.goals V=true->Al (UM (KZ ρ m m' V) h) (ID T m o rest) (CF T m' c r)
 | .nil,_=>hr
 | .cons k n s ar t,hg=>by
  simp only[Ts.goals,gB,XI]at hg;exact .cons ⟨QnB h0 h1 h2 h3 hV (.cons k n s ar .nil) hg.1.1.2,ho⟩ (QmT h0 h1 h2 h3 hV ho hr t hg.2)
theorem Qq2(c:Ch)(more:List Cl)(C:List Ch){k:Nat}(hk:k<=C.length):(C5 c more C).drop ((C5 c more C).length-k)=C.drop (C.length-k):=by
 cases more with
 |nil=>rfl
 |cons x r=>
  show(_::C).drop (C.length+1-k)=_;rw[show C.length+1-k=(C.length-k)+1 by omega];rfl
theorem QyN(l:List Ts)(k:Int)(p:AO)(h:p.out=FD l):(DH k p).out=FD l++[(k,.nil)]:=by simp only[DH,h]
section
variable{P:List Cl}{q:Nat}
theorem Qye{f:Nat}(ih:QzC P q f){ρ:Int->Int->Prop}{h:Nat->Nat}{B e:AC}{C:List Ch}{g:Gl}{g':Tg}{rest:List Gl}{r':List Tg}{call:Nat}
  (bm:Bm D3 BX (CN ρ) B e) (Ba:CN ρ g.1 g'.1) (gl:Al (UM ρ h) rest r') (srt:r'.Pairwise fun a b=>b.2<=a.2) (mono:∀a∈r',∀b∈r',a.2<=b.2->h a.2<=h b.2) (ht:∀a∈r',h a.2<=C.length/\a.2<call) (qv:∀v:Nat,v<q->ρ v v):
  ∀(cls:List Cl) (t:SS) (p:AO),DC t->t.ch=C5 ⟨g,rest,[],B.length⟩ cls C->(∃X,t.B=X++B)->t.fuel=p.fuel->p.out=FD t.ev->t.ev.length<12->p.ended=false->p.vars<=t.fresh->FB t.fresh B->FB p.vars e->(∀u v,ρ u v->u<t.fresh/\v<p.vars)->call<=p.calls->p.fuel<=f->(∀c∈cls,cB c=true)->
   Rs P q (NQ P q t) B t.fresh (HY h C (EF (Qn P q f) g' r' e call cls p).1) p (EF (Qn P q f) g' r' e call cls p).2/\((EF (Qn P q f) g' r' e call cls p).2.ended=false->(EF (Qn P q f) g' r' e call cls p).1= -1\/∃a∈r',(EF (Qn P q f) g' r' e call cls p).1=(a.2:Nat)):=by
 intro cls
 induction cls with
 |nil=>
  intro t p hI rM hX uQ ho pX oN oW Di Rr hρ Ru uH _;refine⟨⟨XF _,XF _,XF _,fun hh=> ?_,fun _=>⟨t,hI,rM,uQ,ho,pX,hX,XF _,oW,fun L hL=>hL⟩⟩,fun _=> .inl rfl⟩;have:p.ended=true:=hh;rw[oN]at this;cases this
 |cons c more ihc=>
  intro t p hI rM hX uQ ho pX oN oW Di Rr hρ Ru uH Cw;obtain⟨X,hX⟩:=hX;have vH:t.ch=⟨g,rest,c::more,B.length⟩::C:=rM;obtain⟨_,v1,_,v3,v4⟩:=UT (Cw c (X8 ..))
  have Cz:t.fresh<=40000:=by have:=hI.fr;omega
  have hpi:=Qml hI vH (rfl:(⟨g,rest,c::more,B.length⟩:Ch).cls=c::more) t.goals;rw[hX,Ql7]at hpi
  have hp:C5 ⟨g,rest,c::more,B.length⟩ more C=C5 ⟨g,rest,[],B.length⟩ more C:=by cases more<;>rfl
  rw[hp]at hpi;have bm':=bm.more (V:=c.vars) Di Rr hρ
  have zV:CN (KZ ρ t.fresh p.vars c.vars) (c.head.shift t.fresh) (c.head.shift p.vars):=by
   refine QnB Ya Ya Ya Ya v1 (.cons c.k c.n c.s c.hd .nil) ?_;simp only[gB,XI]at v4;exact v4.1.2
  have hρ':∀u v,KZ ρ t.fresh p.vars c.vars u v->u<((t.fresh+c.vars.toNat:Nat):Int)/\v<((p.vars+c.vars.toNat:Nat):Int):=by
   rintro u v (h1|⟨_,_,_,rfl,rfl⟩)
   .have:=hρ u v h1;omega
   .omega
  have aAm:CN (KZ ρ t.fresh p.vars c.vars) g.1 g'.1:=DB.mono (fun _ _ h=> .inl h) Ba;obtain⟨u1,u2,u3,u4,u5⟩:=Qqy bm' (Di.mono (m':=((t.fresh+c.vars.toNat:Nat):Int)) Ya) (Rr.mono (m':=((p.vars+c.vars.toNat:Nat):Int)) Ya) hρ' zV aAm;have vM:=fun L=>Qsp (P:=P) (q:=q) (L:=L) vH hX
  obtain⟨N,hN⟩:∃N,(BI 401 (c.head.shift t.fresh) g.1 B 0).B=N++B:=by
   have Rv:=hI.ch;rw[vH]at Rv;have sG:=hI.gb;rw[hX]at sG;have Ov:I9 B:=fun x hx=>(sG x (VG.2 (.inr hx))).small;have Vz:BO B:=bm.oka;exact(PJ 401 (c.head.shift t.fresh) g.1 B 0 (QrF (Cw c (X8 ..)) Cz).small (Rv.2.2.1 g (X8 ..)).small Vz Ov Ya).ext
  by_cases hw:400<(BA (c.head.shift p.vars) g'.1 e).w
  .have e1:EF (Qn P q f) g' r' e call (c::more) p=(-1,DH 4 p):=by rw[EF,XB hw]
   rw[e1];refine⟨⟨XF _,XF _,XF _,fun _=> ?_,fun hh=>OI⟩,fun _=> .inl rfl⟩;rw[vM,XB UA];exact QyN _ _ _ ho
  by_cases oK:(BA (c.head.shift p.vars) g'.1 e).ok=true
  .have hR:∀L,HZ P q ⟨(BI 401 (c.head.shift t.fresh) g.1 B 0).B,t.fresh+c.vars.toNat,t.fuel,ID c.bd t.fresh C.length rest,C5 ⟨g,rest,[],B.length⟩ more C,t.ev⟩ L->NQ P q t L:=fun L hL=>by
    rw[vM,XA UA,XB YaA];exact hL
   have aAn:Inv ⟨(BI 401 (c.head.shift t.fresh) g.1 B 0).B,t.fresh+c.vars.toNat,t.fuel,ID c.bd t.fresh C.length rest,C5 ⟨g,rest,[],B.length⟩ more C,t.ev⟩:=by
    have ha:Q9 t=(0,⟨(BI 401 (c.head.shift t.fresh) g.1 B 0).B,t.fresh+c.vars.toNat,t.fuel,ID c.bd t.fresh C.length rest,C5 ⟨g,rest,[],B.length⟩ more C,t.ev⟩):=by
     have hr:=Qek (n:=CH t.ch) (s:=t) vH (rfl:(⟨g,rest,c::more,B.length⟩:Ch).cls=c::more);rw[hX,Ql7,hp,XA UA,XB YaA]at hr;exact hr
    have:=(NP hI).1;rw[ha]at this;exact(this rfl).1
   have tM:=Qui ⟨g,rest,[],B.length⟩ more C
   have wV:Rl (KZ ρ t.fresh p.vars c.vars) (fun x=>if x=call then C.length else h x) q ⟨(BI 401 (c.head.shift t.fresh) g.1 B 0).B,t.fresh+c.vars.toNat,t.fuel,ID c.bd t.fresh C.length rest,C5 ⟨g,rest,[],B.length⟩ more C,t.ev⟩ (CF c.bd p.vars call r') (BA (c.head.shift p.vars) g'.1 e).s ⟨p.fuel,p.vars+c.vars.toNat,p.calls,p.out,p.ended⟩:=by
    refine⟨uQ,ho,pX,oN,u3,u4,u5,hρ',by simp only;omega,fun v hv=> .inl (qv v hv),?_,QmS srt (fun a ha=>JM (ht a ha).2) _,?_,?_,aAn⟩
    .refine QmT Ya Ya Ya Ya v1 Yd (gl.impM fun x y hy hr=>⟨DB.mono (fun _ _ h=> .inl h) hr.1,?_⟩) c.bd v3;have:=(ht y hy).2
     show x.2=if y.2=call then C.length else h y.2
     rw[XA Ya];exact hr.2
    .intro a ha b hb hab
     try dsimp only
     rcases PM _ ha with e1|e1
     .rcases PM _ hb with e2|e2
      .rw[XB e1,XB e2];exact XF _
      .have:=(ht b e2).2;omega
     .have h1:=ht a e1;rw[XA Ya];rcases PM _ hb with e2|e2
      .rw[XB e2];exact h1.1
      .have h2:=ht b e2;rw[XA Ya];exact mono a e1 b e2 hab
    .intro a ha
     try dsimp only
     rcases PM _ ha with e1|e1
     .rw[XB e1];exact⟨tM,by omega⟩
     .have h1:=ht a e1;rw[XA Ya];exact⟨by omega,by omega⟩
   obtain⟨Nq,tC⟩:=ih _ _ _ _ _ _ wV uH
   have e1:EF (Qn P q f) g' r' e call (c::more) p=if(Qn P q f (CF c.bd p.vars call r') (BA (c.head.shift p.vars) g'.1 e).s ⟨p.fuel,p.vars+c.vars.toNat,p.calls,p.out,p.ended⟩).2.ended=true then(-1,(Qn P q f (CF c.bd p.vars call r') (BA (c.head.shift p.vars) g'.1 e).s ⟨p.fuel,p.vars+c.vars.toNat,p.calls,p.out,p.ended⟩).2)
    else if(Qn P q f (CF c.bd p.vars call r') (BA (c.head.shift p.vars) g'.1 e).s ⟨p.fuel,p.vars+c.vars.toNat,p.calls,p.out,p.ended⟩).1=(call:Nat)then(-1,(Qn P q f (CF c.bd p.vars call r') (BA (c.head.shift p.vars) g'.1 e).s ⟨p.fuel,p.vars+c.vars.toNat,p.calls,p.out,p.ended⟩).2)
    else if 0<=(Qn P q f (CF c.bd p.vars call r') (BA (c.head.shift p.vars) g'.1 e).s ⟨p.fuel,p.vars+c.vars.toNat,p.calls,p.out,p.ended⟩).1 then Qn P q f (CF c.bd p.vars call r') (BA (c.head.shift p.vars) g'.1 e).s ⟨p.fuel,p.vars+c.vars.toNat,p.calls,p.out,p.ended⟩
    else EF (Qn P q f) g' r' e call more (Qn P q f (CF c.bd p.vars call r') (BA (c.head.shift p.vars) g'.1 e).s ⟨p.fuel,p.vars+c.vars.toNat,p.calls,p.out,p.ended⟩).2:=by
    rw[EF,XA hw,XB oK]
   rw[e1];generalize Qn P q f (CF c.bd p.vars call r') (BA (c.head.shift p.vars) g'.1 e).s ⟨p.fuel,p.vars+c.vars.toNat,p.calls,p.out,p.ended⟩=res at Nq tC⊢;obtain⟨a1,a2,a3,a4,a5⟩:=Nq;dsimp only at a1 a2 a3 a5
   cases vK:res.2.ended with
   |true=>
    rw[XB rfl];exact⟨⟨by dsimp only;omega,a2,a3,fun _=>hR _ (a4 vK),fun hh=>Yal⟩,fun _=> .inl rfl⟩
   |false=>
    rw[XA Yf];obtain⟨t2,b1,b2,b3,b4,b5,⟨X2,b6⟩,_,b8,b9⟩:=a5 vK
    have La:∃Y,t2.B=Y++B:=⟨X2++N,by rw[b6,hN,VB]⟩
    have tC:=tC vK;by_cases hcut:res.1=(call:Nat)
    .rw[XB hcut];refine⟨⟨by dsimp only;omega,a2,a3,fun hh=>Yal,fun _=>⟨t2,b1,?_,b3,b4,b5,La,by omega,b8,fun L hL=>hR _ (b9 L hL)⟩⟩,fun _=> .inl rfl⟩;rw[b2,hcut];unfold HY;rw[XA Ya,XB (show((-1:Int),res.2).1<0 by show(-1:Int)<0;decide)];simp only[X0,X5];rw[Qq2 _ _ _ (XF _)];simp
    .rw[XA hcut];rcases tC with Fq|⟨a,ha,Hf⟩
     .rw[XA (by rw[Fq];decide)]
      have hC1:t2.ch=C5 ⟨g,rest,[],B.length⟩ more C:=by rw[b2,Fq];unfold HY;rw[XB Yf]
      obtain⟨Lb,Ed⟩:=ihc t2 res.2 b1 hC1 La b3 b4 b5 vK b8 (Di.mono Ya) (Rr.mono Ya) (fun u v h=>by have:=hρ u v h;omega) Ya Ya (fun c hc=>Cw c (XZ _ hc));obtain⟨d1,d2,d3,d4,d5⟩:=Lb;refine⟨⟨by omega,by omega,by omega,fun hh=>hR _ (b9 _ (d4 hh)),fun hh=> ?_⟩,Ed⟩;obtain⟨t3,f1,f2,f3,f4,f5,f6,f7,f8,f9⟩:=d5 hh;exact⟨t3,f1,f2,f3,f4,f5,f6,by omega,f8,fun L hL=>hR _ (b9 _ (f9 L hL))⟩
     .have tI:0<=res.1:=by omega
      rw[XB tI];rcases PM _ ha with e2|e2
      .rw[e2]at Hf;exact absurd Hf hcut
      .have h1:=ht a e2;refine⟨⟨by omega,a2,a3,fun hh=>Yal,fun _=>⟨t2,b1,?_,b3,b4,b5,La,by omega,b8,fun L hL=>hR _ (b9 L hL)⟩⟩,fun _=> .inr ⟨a,e2,Hf⟩⟩;rw[b2,Hf];unfold HY;rw[XA Ya,XA Ya];simp only[X0];rw[XA Ya,Qq2 _ _ _ h1.1]
  .have e1:EF (Qn P q f) g' r' e call (c::more) p=EF (Qn P q f) g' r' e call more p:=by rw[EF,XA hw,XA oK]
   rw[e1]
   have hR:∀L,NQ P q ⟨(BI 401 (c.head.shift t.fresh) g.1 B 0).B,t.fresh+c.vars.toNat,t.fuel,t.goals,C5 ⟨g,rest,[],B.length⟩ more C,t.ev⟩ L->NQ P q t L:=fun L hL=>by
    rw[vM,XA UA,XA YaA];exact hL
   obtain⟨Lb,Ed⟩:=ihc _ p hpi rfl ⟨N,hN⟩ uQ ho pX oN YM (Di.mono YM) Rr (fun u v h=>by have:=hρ u v h;simp only;omega) Ru uH (fun c hc=>Cw c (XZ _ hc));obtain⟨d1,d2,d3,d4,d5⟩:=Lb;refine⟨⟨d1,d2,d3,fun hh=>hR _ (d4 hh),fun hh=> ?_⟩,Ed⟩;obtain⟨t3,f1,f2,f3,f4,f5,f6,f7,f8,f9⟩:=d5 hh;exact⟨t3,f1,f2,f3,f4,f5,f6,by simp only at f7;omega,f8,fun L hL=>hR _ (f9 L hL)⟩
end
end Go.Proofs.YthliapbflkfdiacGreatDoor
