/- Steps of the proof. -/
import Derived.Test.YthliapbflkfdiacGreatDoorG29
set_option linter.unusedVariables false
set_option linter.unusedSimpArgs false
set_option maxRecDepth 100000
set_option maxHeartbeats 1000000
namespace Go.Proofs.YthliapbflkfdiacGreatDoor
open Go.Proofs.Tryz
open Go.RowKit
def H6(L:List HC)(base:Nat)(q:Nat)(X:List HC):Prop:=∀i c,X[i]?=some c->AD L ((base+(q+i):Nat):Int)=some (BH base c)
theorem H6.app{L:List HC}{base q:Nat}{X Y:List HC}(h:H6 L base q (X++Y)):H6 L base q X/\H6 L base (q+X.length) Y:=by
 refine⟨fun i c hi=>h i c ?_,fun i c hi=> ?_⟩
 .rw[VO]
  .exact hi
  .rcases XY i X.length with hl|hl
   .exact hl
   .rw[XX hl]at hi;cases hi
 .have:=h (X.length+i) c (by rw[UC Ya];simpa using hi);rw[show q+X.length+i=q+(X.length+i) by omega];exact BS
theorem H6.head{L:List HC}{base q:Nat}{c:HC}{X:List HC}(h:H6 L base q (c::X)):AD L ((base+q:Nat):Int)=some (BH base c)/\H6 L base (q+1) X:=by
 refine⟨h 0 c rfl,fun i d hi=> ?_⟩;rw[show q+1+i=q+(i+1) by omega];exact h (i+1) d (by simpa using hi)
def up(base:Nat)(n:Int):Int:=n+base
theorem Qfw{T:Ts}(h:T.length=0):T= .nil:=Ts.nil_of_length h
theorem QgP(h:HH)(B:List HC):H6 (h.cs++B.map (BH h.cs.length)) h.cs.length 0 B:=by
 intro i c hi;refine AZ.2 ⟨by omega,?_,?_⟩
 .have:i<B.length:=by
   rcases XY i B.length with hl|hl
   .exact hl
   .rw[XX hl]at hi;cases hi
  simp;omega
 .rw[show((h.cs.length+(0+i):Nat):Int).toNat=h.cs.length+i by omega,UC Ya];simp[hi]
theorem QsN{n m f:Nat}{c:HC}(hn:n<=m)(h:BM n c f=true):BM m c f=true:=by
 rcases Q4 h with⟨k,a,b,s⟩|⟨k,a,s⟩|⟨k,s⟩|⟨k,a,b,d,s⟩
 .unfold BM;rw[XB k];simp[a,s];omega
 .unfold BM;rw[XA Ya,XB k];simp[a,s]
 .unfold BM;rw[XA Ya,XA Ya,XB k];simp[s]
 .unfold BM;rw[XA Ya,XA Ya,XA Ya,XB k];simp[a,b,d,s]
theorem QlK{n m:Nat}(hn:n<=m):∀{L:List HC},Q2 n L=true->Q2 m L=true
 |[],_=>rfl
 |c::r,h=>by
  simp only[Q2,XI]at h⊢;exact⟨QsN hn h.1,QlK hn h.2⟩
theorem Qp1{n m f base:Nat}{c:HC}(hn:base+n<=m)(h:BM n c f=true):BM m (BH base c) f=true:=by
 unfold BH;split
 .rename_i h0;rcases Q4 h with⟨k,a,b,s⟩|⟨k,a,s⟩|⟨k,s⟩|⟨k,a,b,d,s⟩
  .unfold BM;dsimp only;rw[XB h0];simp[s];omega
  .omega
  .omega
  .omega
 .rename_i h0;rcases Q4 h with⟨k,a,b,s⟩|⟨k,a,s⟩|⟨k,s⟩|⟨k,a,b,d,s⟩
  .omega
  .unfold BM;rw[XA Ya,XB k];simp[a,s]
  .unfold BM;rw[XA Ya,XA Ya,XB k];simp[s]
  .unfold BM;rw[XA Ya,XA Ya,XA Ya,XB k];simp[a,b,d,s]
theorem Qj7{n m base:Nat}(hn:base+n<=m):∀{L:List HC},Q2 n L=true->Q2 m (L.map (BH base))=true
 |[],_=>rfl
 |c::r,h=>by
  simp only[Q2,XI,VE,VQ]at h⊢;exact⟨Qp1 hn h.1,Qj7 hn h.2⟩
theorem QhC{h:HH}{K:List HC}(hg:QS h=true)(hk:D7 K=true)(hl:h.cs.length+K.length<=65536):QS ⟨h.cs++K.map (BH h.cs.length),h.tr⟩=true:=by
 simp only[QS,D7,KC,XI,XO,XG,VQ]at hg hk⊢;obtain⟨⟨h1,h2⟩,h3,h4⟩:=hg;refine⟨⟨hl,PZ (Qj7 Ya hk.2) (QlK Ya h2)⟩,h3,?_⟩;rw[VK]at h4⊢;intro a ha;have:=h4 a ha;unfold GG at this⊢
 cases hq:AD h.cs a with
 |none=>rw[hq]at this;cases this
 |some x=>
  rw[hq]at this;obtain⟨q0,_,q2⟩:=AZ.1 hq;have:AD (h.cs++K.map (BH h.cs.length)) a=some x:=AZ.2 ⟨q0,by simp;omega,by rw[VO Ya];exact q2⟩;rw[this];assumption
theorem QpO{h:HH}{K:List HC}(hg:QS h=true)(hk:D7 K=true)(hl:h.cs.length+K.length<=65536):BN h K=(⟨h.cs++K.map (BH h.cs.length),h.tr⟩,h.cs.length,0):=by
 unfold BN;rw[hg,hk,XA Yf,XA Ya]
theorem Qj4{L X:List HC}{a:Int}{c:HC}(h:AD L a=some c):AD (L++X) a=some c:=by
 obtain⟨h0,h1,h2⟩:=AZ.1 h;exact AZ.2 ⟨h0,by simp;omega,by rw[VO Ya];exact h2⟩
theorem Qvh{L X:List HC}{n:Nat}{a x:Int}(h:FL L n a x):FL (L++X) n a x:=by
 induction h with
 |here h0 h1=>exact .here (Qj4 h0) h1
 |there h0 h1 h2 _ ih=>exact .there (Qj4 h0) h1 h2 ih
theorem Qvj{L X:List HC}{a x:Int}(h:End L a x):End (L++X) a x:=by
 obtain⟨n,h⟩:=h;exact⟨n,Qvh h⟩
theorem QrU{L X:List HC}{a:Int}(h:Qo L a=true):Qo (L++X) a=true:=by
 obtain⟨c,hc⟩:=SZ.1 h;exact SZ.2 ⟨c,Qj4 hc⟩
theorem Qot{h:HH}(ho:BB h){a:Int}(ha:Qo h.cs a=true)(X:List HC)(T:T7):BJ ⟨h.cs++X,T⟩ a=BJ h a:=by
 obtain⟨x,c,h1,h2,_,h4⟩:=ho.view ha;rw[h4,KV (h:=⟨h.cs++X,T⟩) (Qvj h1) (Qj4 h2)]
def IA(L:List HC)(base:Nat)(V:Int):Ts->Int->Prop
 | .nil,_=>True
 | .cons k n s ar r,a=>(∃x c,End L a x/\AD L x=some c/\((k=0/\0<=n/\n<V/\s=eS/\ar= .nil/\c.k=0/\x=n+base)\/(k≠0/\c.k=k/\GA c=n/\c.s=s/\(QU c).toNat=ar.length/\IA L base V ar (x+1))))/\IA L base V r (a+1)
theorem M9{L:List HC}{a:Int}{c:HC}(h:AD L a=some c)(hc:¬(c.k=0/\c.n≠a)):End L a a:=⟨0,.here h hc⟩
theorem Qvi{L:List HC}{a:Int}{c d:HC}(h:AD L a=some c)(hk:c.k=0)(hn:c.n≠a)(h2:AD L c.n=some d)(hd:¬(d.k=0/\d.n≠c.n)):End L a c.n:=⟨1,.there h hk hn (.here h2 hd)⟩
theorem QyH{L:List HC}{base:Nat}{vars:Int}(hv:∀v:Int,0<=v->v<vars->AD L (v+base)=some ⟨0,v+base,eS⟩)(T:Ts):∀(a p:Nat),T.good vars=true->vars<=a->vars<=p->a+T.length<=p->H6 L base a (BE T p).1->H6 L base p (BE T p).2->
  IA L base vars T ((base+a:Nat):Int)/\(∀i,i<(BE T p).1.length->∃x,End L ((base+(a+i):Nat):Int) x)/\(∀i,i<(BE T p).2.length->∃x,End L ((base+(p+i):Nat):Int) x):=by
 induction T with
 |nil=>intro a p _ _ _ _ _ _;exact⟨trivial,fun i hi=>absurd hi (by simp[BE]),fun i hi=>absurd hi (by simp[BE])⟩
 |cons k n s ar r rO qO=>
  intro a p hg _ Cc Az qG rN;obtain⟨hn,ha,hr⟩:=P9 hg;simp only[Ts.length]at Az
  have step:∀(X:List HC) (c:HC) (x:Int),End L ((base+a:Nat):Int) x->(∀i,i<X.length->∃x,End L ((base+(a+1+i):Nat):Int) x)->∀i,i<(c::X).length->∃x,End L ((base+(a+i):Nat):Int) x:=by
   intro X c x h0 h1 i hi
   cases i with
   |zero=>exact⟨x,h0⟩
   |succ i=>
    obtain⟨y,hy⟩:=h1 i (by simpa using hi);rw[show a+(i+1)=a+1+i by omega];exact⟨y,hy⟩
  rcases US hn with⟨rfl,h0,h1,h2,h3⟩|⟨rfl,h0,h1,h2⟩|⟨rfl,h0,h1⟩|⟨rfl,h0,h1,h2,h3⟩
  .rw[M1 _ _ _ _ _ Yf]at qG rN⊢;obtain⟨q1,q2⟩:=qG.head;obtain rfl:=Qfw h3;subst h2;have e1:AD L ((base+a:Nat):Int)=some ⟨0,n+base,eS⟩:=q1;have e2:End L ((base+a:Nat):Int) (n+base):=Qvi (c:=⟨0,n+base,eS⟩) e1 rfl (by show n+(base:Int)≠_;omega) (hv n h0 h1) Yd;obtain⟨i1,i2,i3⟩:=qO (a+1) p hr Ya Cc Ya q2 rN;rw[show((base+(a+1):Nat):Int)=((base+a:Nat):Int)+1 by omega]at i1;exact⟨⟨⟨n+base,_,e2,hv n h0 h1,.inl ⟨rfl,h0,h1,rfl,rfl,rfl,rfl⟩⟩,i1⟩,step _ _ _ e2 i2,i3⟩
  .rw[M1 _ _ _ _ _ Yf]at qG rN⊢;obtain⟨q1,q2⟩:=qG.head;obtain rfl:=Qfw h2;subst h0;have e1:AD L ((base+a:Nat):Int)=some ⟨1,0,s⟩:=q1;exact YaY
  .rw[M1 _ _ _ _ _ Yf]at qG rN⊢;obtain⟨q1,q2⟩:=qG.head;obtain rfl:=Qfw h1;subst h0;have e1:AD L ((base+a:Nat):Int)=some ⟨2,n,eS⟩:=q1;exact YaY
  .rw[SD]at qG rN⊢;obtain⟨q1,q2⟩:=qG.head;obtain⟨q3,q4⟩:=H6.app (X:=I0 s ar p) rN;obtain⟨q5,q6⟩:=H6.head (c:=⟨3,(ar.length:Nat),s⟩) q3;obtain⟨q7,q8⟩:=q6.app;rw[PQ]at q8;subst h0;have e1:AD L ((base+a:Nat):Int)=some ⟨0,((p:Nat):Int)+base,eS⟩:=q1
   have e5:AD L (((p:Nat):Int)+base)=some ⟨3,(ar.length:Nat),s⟩:=by
    rw[show((p:Nat):Int)+base=((base+p:Nat):Int) by omega];exact q5
   have e2:End L ((base+a:Nat):Int) (((p:Nat):Int)+base):=Qvi (c:=⟨0,((p:Nat):Int)+base,eS⟩) e1 rfl (by show((p:Nat):Int)+(base:Int)≠_;omega) e5 Yd;obtain⟨a1,a2,a3⟩:=rO (p+1) (p+1+ar.length) ha Ya Ya Ya q7 q8;obtain⟨i1,i2,i3⟩:=qO (a+1) (p+(I0 s ar p).length) hr Ya Ya Ya q2 q4;rw[show((base+(a+1):Nat):Int)=((base+a:Nat):Int)+1 by omega]at i1;rw[show((base+(p+1):Nat):Int)=((p:Nat):Int)+base+1 by omega]at a1;refine⟨⟨⟨_,_,e2,e5,.inr ⟨by decide,rfl,rfl,rfl,by simp[QU],a1⟩⟩,i1⟩,step _ _ _ e2 i2,fun i hi=> ?_⟩;rw[PQ]at a2;have Ja:=TW s ar p;rw[XG]at hi;by_cases c0:i=0
   .subst c0;have q5':AD L ((base+p:Nat):Int)=some ⟨3,(ar.length:Nat),s⟩:=q5;exact⟨_,M9 q5' Yd⟩
   by_cases c1:i-1<ar.length
   .exact YcG
   by_cases c2:i<(I0 s ar p).length
   .exact Yb7
   .obtain⟨x,hx⟩:=i3 (i-(I0 s ar p).length) Ya;rw[show p+i=p+(I0 s ar p).length+(i-(I0 s ar p).length) by omega];exact⟨x,hx⟩
theorem Qrl{L:List HC}{base:Nat}{vars:Int}(hv:∀v:Int,0<=v->v<vars->AD L (v+base)=some ⟨0,v+base,eS⟩){k n:Int}{s:TJ}{ar:Ts}{p:Nat}(h:gB vars k n s ar=true)(Cc:vars<=p)(hs:H6 L base p (BV k n s ar p)):
  IA L base vars (.cons k n s ar .nil) ((base+p:Nat):Int)/\(∀i,i<(BV k n s ar p).length->∃x,End L ((base+(p+i):Nat):Int) x)/\∃c,AD L ((base+p:Nat):Int)=some c/\(c.k=1\/c.k=3):=by
 simp only[gB,G6,XI,Xal,XO]at h;obtain⟨hn,ha,_⟩:=P9 h.1.2;rcases US hn with⟨rfl,_⟩|⟨rfl,h0,h1,h2⟩|⟨rfl,_⟩|⟨rfl,h0,h1,h2,h3⟩
 .rcases h.1.1 with h|h<;>omega
 .obtain rfl:=Qfw h2;subst h0;unfold BV at hs⊢;rw[XA Yf]at hs⊢;have e1:AD L ((base+p:Nat):Int)=some ⟨1,0,s⟩:=hs.head.1;have e2:=M9 e1 Yd;refine⟨⟨⟨_,_,e2,e1,.inr ⟨by decide,rfl,rfl,rfl,rfl,trivial⟩⟩,trivial⟩,fun i hi=> ?_,_,e1,.inl rfl⟩;obtain rfl:i=0:=by simpa using hi
  exact⟨_,e2⟩
 .rcases h.1.1 with h|h<;>omega
 .subst h0;unfold BV at hs⊢;rw[XB rfl]at hs⊢;obtain⟨q5,q6⟩:=H6.head (c:=⟨3,(ar.length:Nat),s⟩) hs;obtain⟨q7,q8⟩:=q6.app;rw[PQ]at q8;have e1:AD L ((base+p:Nat):Int)=some ⟨3,(ar.length:Nat),s⟩:=q5;have e2:=M9 e1 Yd;obtain⟨a1,a2,a3⟩:=QyH hv ar (p+1) (p+1+ar.length) ha Ya Ya Ya q7 q8;rw[show((base+(p+1):Nat):Int)=((base+p:Nat):Int)+1 by omega]at a1;refine⟨⟨⟨_,_,e2,e1,.inr ⟨by decide,rfl,rfl,rfl,by simp[QU],a1⟩⟩,trivial⟩,fun i hi=> ?_,_,e1,.inr rfl⟩;rw[PQ]at a2;have Ja:=TW s ar p;by_cases c0:i=0
  .subst c0;exact⟨_,e2⟩
  by_cases c1:i-1<ar.length
  .exact YcG
  .exact Yb7
def ZY(L:List HC)(base:Nat)(V:Int):Ts->T7->Prop
 | .nil,l=>l=[]
 | .cons k n s ar r,l=>∃x q,l=x::q/\IA L base V (.cons k n s ar .nil) (base+x)/\(∃c,AD L (base+x)=some c/\(c.k=1\/c.k=3))/\ZY L base V r q
theorem Qrh{L:List HC}{base:Nat}{vars:Int}(hv:∀v:Int,0<=v->v<vars->AD L (v+base)=some ⟨0,v+base,eS⟩)(T:Ts):∀p:Nat,T.goals vars=true->vars<=p->H6 L base p (AQ T p).1->ZY L base vars T (AQ T p).2/\(∀i,i<(AQ T p).1.length->∃x,End L ((base+(p+i):Nat):Int) x):=by
 induction T with
 |nil=>intro p _ _ _;exact⟨rfl,fun i hi=>absurd hi (by simp[AQ])⟩
 |cons k n s ar r _ ih=>
  intro p hg Cc hs;simp only[Ts.goals,XI]at hg;simp only[AQ]at hs⊢;obtain⟨h1,h2⟩:=hs.app;obtain⟨a1,a2,a3⟩:=Qrl hv hg.1 Cc h1;obtain⟨b1,b2⟩:=ih _ hg.2 Ya h2;refine⟨⟨_,_,rfl,by rw[show(base:Int)+(p:Nat)=((base+p:Nat):Int) by omega];exact a1,by rw[show(base:Int)+(p:Nat)=((base+p:Nat):Int) by omega];exact a3,b1⟩,fun i hi=> ?_⟩;rw[XG]at hi;by_cases c:i<(BV k n s ar p).length
  .exact a2 i c
  .obtain⟨x,hx⟩:=b2 (i-(BV k n s ar p).length) Ya;rw[show p+i=p+(BV k n s ar p).length+(i-(BV k n s ar p).length) by omega];exact⟨x,hx⟩
theorem Qqs{L:List HC}{base V:Nat}(hs:H6 L base 0 (EX V)):∀v:Int,0<=v->v<V->AD L (v+base)=some ⟨0,v+base,eS⟩:=by
 intro v _ _;have:=hs v.toNat _ (Qto Ya);rw[show((base+(0+v.toNat):Nat):Int)=v+base by omega]at this;rw[this];unfold BH;rw[XB rfl];dsimp only;rw[show((v.toNat:Nat):Int)=v by omega]
structure R7(h:HH)(B:List HC)(h':HH):Prop where
 eq:h'=⟨h.cs++B.map (BH h.cs.length),h.tr⟩
 gd:Q2 h'.cs.length h'.cs=true
 ends:∀i,i<B.length->∃x,End h'.cs ((h.cs.length+i:Nat):Int) x
theorem Qp0{L X:List HC}{a:Int}(h:GG L a=true):GG (L++X) a=true:=by
 unfold GG at h⊢
 cases hc:AD L a with
 |none=>rw[hc]at h;cases h
 |some c=>rw[hc]at h;rw[Qj4 hc];exact h
theorem R7.ok{h h':HH}{B:List HC}(hb:R7 h B h')(ho:BB h):BB h':=by
 obtain⟨rfl,gd,ends⟩:=hb;refine⟨gd,fun a ha=> ?_,fun a ha=>Qp0 (ho.tr a ha)⟩;obtain⟨a0,a1⟩:=Qq.1 ha;by_cases hl:a<h.cs.length
 .obtain⟨x,hx⟩:=ho.ends a (Qq.2 ⟨a0,hl⟩);exact⟨x,Qvj hx⟩
 .obtain⟨x,hx⟩:=ends (a.toNat-h.cs.length) (by simp at a1;omega);rw[show((h.cs.length+(a.toNat-h.cs.length):Nat):Int)=a by omega]at hx;exact⟨x,hx⟩
theorem QsZ{h:HH}{c:Cl}(hg:QS h=true)(hc:cB c=true)(hl:h.cs.length+300<=65536):
  BN h (QB c)=(⟨h.cs++(QB c).map (BH h.cs.length),h.tr⟩,h.cs.length,0)/\QS ⟨h.cs++(QB c).map (BH h.cs.length),h.tr⟩=true/\R7 h (QB c) ⟨h.cs++(QB c).map (BH h.cs.length),h.tr⟩/\
  IA (h.cs++(QB c).map (BH h.cs.length)) h.cs.length c.vars (.cons c.k c.n c.s c.hd .nil) (h.cs.length+c.vars)/\ZY (h.cs++(QB c).map (BH h.cs.length)) h.cs.length c.vars c.bd (EE c):=by
 obtain⟨_,h1,h2,h3,h4⟩:=PN hc;have rA:=ZU hc;have hX:=QhC hg (Qkl hc) Ya;have hs:=QgP h (QB c)
 have he:(QB c).length=c.vars.toNat+((BV c.k c.n c.s c.hd c.vars.toNat).length+(AQ c.bd (c.vars.toNat+(BV c.k c.n c.s c.hd c.vars.toNat).length)).1.length):=by
  simp only[QB,XG,IZ]
 obtain⟨s1,s2⟩:=H6.app (X:=EX c.vars.toNat) hs;obtain⟨s3,s4⟩:=s2.app;rw[IZ,XQ]at s3 s4;have Js:=Qqs s1;have hv:∀v:Int,0<=v->v<c.vars->AD (h.cs++(QB c).map (BH h.cs.length)) (v+h.cs.length)=some ⟨0,v+h.cs.length,eS⟩:=fun v v0 v1=>Js v v0 Ya;obtain⟨t1,t2,_⟩:=Qrl hv h4 (p:=c.vars.toNat) Ya s3;obtain⟨u1,u2⟩:=Qrh hv c.bd _ h3 Ya s4;refine⟨QpO hg (Qkl hc) Ya,hX,⟨rfl,?_,fun i hi=> ?_⟩,?_,u1⟩
 .exact Yc3
 .rw[he]at hi;by_cases c0:i<c.vars.toNat
  .have:=hv i Ya Ya;rw[show(i:Int)+h.cs.length=((h.cs.length+i:Nat):Int) by omega]at this;exact⟨_,M9 this Yd⟩
  by_cases c1:i-c.vars.toNat<(BV c.k c.n c.s c.hd c.vars.toNat).length
  .obtain⟨x,hx⟩:=t2 _ c1;rw[show c.vars.toNat+(i-c.vars.toNat)=i by omega]at hx;exact⟨x,hx⟩
  .obtain⟨x,hx⟩:=u2 (i-c.vars.toNat-(BV c.k c.n c.s c.hd c.vars.toNat).length) Ya;rw[show c.vars.toNat+(BV c.k c.n c.s c.hd c.vars.toNat).length+(i-c.vars.toNat-(BV c.k c.n c.s c.hd c.vars.toNat).length)=i by omega]at hx;exact⟨x,hx⟩
 .rw[show(h.cs.length:Int)+c.vars=((h.cs.length+c.vars.toNat:Nat):Int) by omega];exact t1
theorem Qub{q:Ts}{v:Nat}(hq:qB (v:Nat) q=true):
  BN ⟨[],[]⟩ (DE (v:Nat) q)=(⟨(DE (v:Nat) q).map (BH 0),[]⟩,0,0)/\QS ⟨(DE (v:Nat) q).map (BH 0),[]⟩=true/\BB ⟨(DE (v:Nat) q).map (BH 0),[]⟩/\((DE (v:Nat) q).map (BH 0)).length<=300/\
  (∀x:Int,0<=x->x<v->AD ((DE (v:Nat) q).map (BH 0)) x=some ⟨0,x,eS⟩)/\ZY ((DE (v:Nat) q).map (BH 0)) 0 (v:Nat) q (GS (v:Nat) q):=by
 simp only[qB,XI,XO]at hq;obtain⟨⟨⟨_,_⟩,_⟩,v3⟩:=hq;have hn:=Ts.goals_nodes _ _ v3;have rD:=Qmz q v;have he:(DE (v:Nat) q).length=v+(AQ q v).1.length:=by simp[DE,IZ]
 have hs:=QgP ⟨[],[]⟩ (DE (v:Nat) q);simp only[XP,WX]at hs;have uW:=hs;unfold DE at uW;rw[X0]at uW;obtain⟨s1,s2⟩:=H6.app (X:=EX v) uW;rw[IZ,XQ]at s2;have hv:=Qqs s1;obtain⟨u1,u2⟩:=Qrh hv q v v3 Ya s2
 have rK:D7 (DE (v:Nat) q)=true:=by
  unfold D7;simp only[XI,XO];refine⟨by omega,?_⟩;have:Q2 (DE (v:Nat) q).length (EX v++(AQ q v).1)=true:=PZ (Qoo (vars:=v) Ya q v v3 Ya) (Qho _ _ Ya);unfold DE at this⊢;rw[X0]at this⊢;exact BS
 have hg0:QS ⟨[],[]⟩=true:=by decide
 have hX:=QhC hg0 rK Yg;have oW:=QpO hg0 rK Yg;simp only[XP,WX]at hX oW;refine⟨oW,hX,⟨?_,fun a ha=> ?_,fun a ha=>(by cases ha)⟩,by simp;omega,fun x x0 x1=> ?_,by unfold GS;rw[X0];unfold DE;rw[X0];exact u1⟩
 .exact Yc3
 .obtain⟨a0,a1⟩:=Qq.1 ha;simp only[VQ]at a1;rw[he]at a1;by_cases c0:a<v
  .have:=hv a a0 c0;rw[show a+((0:Nat):Int)=a by omega]at this;unfold DE;rw[X0];exact⟨_,M9 this Yd⟩
  .obtain⟨x,hx⟩:=u2 (a.toNat-v) Ya;rw[show((0+(v+(a.toNat-v)):Nat):Int)=a by omega]at hx;unfold DE;rw[X0];exact⟨x,hx⟩
 .have:=hv x x0 x1;rw[show x+((0:Nat):Int)=x by omega]at this;unfold DE;rw[X0];exact BS
def G4(L:List HC)(base:Nat)(V m:Int)(t:Tm)(a:Int):Prop:=∃u:Tm,IA L base V (.cons u.k u.n u.s u.ar .nil) a/\t=u.shift m
theorem IA.al{L:List HC}{base:Nat}{V m:Int}:∀(T:Ts) (a:Int),IA L base V T a->Al (G4 L base V m) (T.shift m).tms (CI a T.length)
 | .nil,a,_=> .nil
 | .cons k n s ar r,a,h=>by
  rw[Ts.shift_cons];exact .cons ⟨⟨k,n,s,ar⟩,⟨h.1,trivial⟩,rfl⟩ (IA.al r (a+1) h.2)
theorem IA.addr{L:List HC}{base:Nat}{V:Int}{k n:Int}{s:TJ}{ar r:Ts}{a:Int}(h:IA L base V (.cons k n s ar r) a):Qo L a=true:=by
 obtain⟨⟨x,c,h1,_⟩,_⟩:=h;obtain⟨d,hd⟩:=h1.first;exact SZ.2 ⟨d,hd⟩
theorem Qhs{n m:Int}(h0:0<=n)(h1:n<=40000)(h2:0<=m)(h3:m<=40000):FN 0 n m=n+m:=by
 unfold FN;rw[XB rfl,N6 h0 Ya,N6 h2 Ya]
theorem G4.look{L:List HC}{T:T7}{base:Nat}{V m:Int}{B:AC}(hV:V<=8)(m0:0<=m)(m1:m<=40000)(hB:FB m B){t:Tm}{a:Int}(h:G4 L base V m t a):
  (∃i,0<=i/\i<V/\CT B t= .var (i+m)/\BJ ⟨L,T⟩ a= .var (i+base))\/∃k n s ar qF,CT B t= .node k n s ar/\BJ ⟨L,T⟩ a= .node k n s qF/\Al (G4 L base V m) ar qF:=by
 obtain⟨⟨k,n,s,ar⟩,hl,rfl⟩:=h;dsimp only at hl;obtain⟨⟨x,c,h1,h2,h3⟩,_⟩:=hl;rcases h3 with⟨rfl,n0,n1,rfl,rfl,hk,hx⟩|⟨hk,e1,e2,e3,e4,h5⟩
 .refine .inl ⟨n,n0,n1,?_,?_⟩
  .refine IU.2 ?_;have e:(Tm.shift ⟨0,n,eS,.nil⟩ m).n=n+m:=Qhs (n:=n) n0 Ya m0 m1;rw[P6 (hB.get (by rw[e];omega))];exact⟨rfl,e⟩
  .rw[KV (h:=⟨L,T⟩) h1 h2,XB hk,hx]
 .refine .inr ⟨k,n,s,(ar.shift m).tms,CI (x+1) ar.length,?_,?_,IA.al _ _ h5⟩
  .show AX (Qc B _)=_;rw[LL (by exact hk)];unfold AX;rw[XA (by exact hk)];show Vw.node k (FN k n m) s _=_
   have:FN k n m=n:=by unfold FN;rw[XA hk]
   rw[this];rfl
  .skip
   rw[KV (h:=⟨L,T⟩) h1 h2,XA (by rw[e1];exact hk),e1,e2,e3,e4]
theorem Bm.ext{R N:Tm->Int->Prop}{B:AC}{h h':HH}{m base:Int}(hb:Bm D3 D6 R B h)(ho:BB h')(hold:∀a,Qo h.cs a=true->Qo h'.cs a=true/\BJ h' a=BJ h a)
  (vJ:∀t a,N t a->Qo h'.cs a=true/\((∃i,0<=i/\CT B t= .var (i+m)/\BJ h' a= .var (i+base))\/∃k n s ar qF,CT B t= .node k n s ar/\BJ h' a= .node k n s qF/\Al N ar qF))
  (Bq:∀t a u,R t a->CT B t= .var u->u<m) (Tc:∀t a v,R t a->BJ h a= .var v->v<base):Bm D3 D6 (fun t a=>R t a\/N t a) B h':=by
 refine⟨hb.oka,ho,fun _=>trivial,?_,?_,?_⟩
 .rintro t a (hr|hn)
  .exact(hold a (hb.db hr)).1
  .exact(vJ t a hn).1
 .rintro t a (hr|hn)
  .show KY _ (CT B t) (BJ h' a);rw[(hold a (hb.db hr)).2];exact KY.imp (fun _ _ h=> .inl h) (hb.vw hr)
  .show KY _ (CT B t) (BJ h' a);rcases(vJ t a hn).2 with⟨i,_,e1,e2⟩|⟨k,n,s,ar,qF,e1,e2,sD⟩
   .rw[e1,e2];trivial
   .rw[e1,e2];exact⟨rfl,rfl,rfl,sD.imp fun _ _ h=> .inr h⟩
 .intro t a _ _ u _ v _ h1 h2 e1 e2 e3 e4
  have nw:∀{t a u v},N t a->CT B t= .var u->BJ h' a= .var v->∃i,0<=i/\u=i+m/\v=i+base:=by
   intro t a u v hn f1 f2;rcases(vJ t a hn).2 with⟨i,i0,g1,g2⟩|⟨k,n,s,ar,qF,g1,g2,_⟩
   .rw[g1]at f1;rw[g2]at f2;cases f1;cases f2;exact⟨i,i0,rfl,rfl⟩
   .rw[g1]at f1;cases f1
  have od:∀{t a u v},R t a->CT B t= .var u->BJ h' a= .var v->u<m/\v<base/\BJ h a= .var v:=by
   intro t a u v hr f1 f2;rw[(hold a (hb.db hr)).2]at f2;exact⟨Bq t a u hr f1,Tc t a v hr f2,f2⟩
  rcases h1 with h1|h1
  .obtain⟨_,_,x3⟩:=od h1 e1 e3;rcases h2 with h2|h2
   .obtain⟨y1,y2,y3⟩:=od h2 e2 e4;exact hb.vr h1 h2 e1 e2 x3 y3
   .obtain⟨i,i0,rfl,rfl⟩:=nw h2 e2 e4;omega
  .obtain⟨i,i0,rfl,rfl⟩:=nw h1 e1 e3;rcases h2 with h2|h2
   .obtain⟨y1,y2,y3⟩:=od h2 e2 e4;omega
   .obtain⟨_,_,rfl,rfl⟩:=nw h2 e2 e4;omega
theorem Qos{h:HH}(ho:BB h){a v:Int}(ha:Qo h.cs a=true)(hv:BJ h a= .var v):v<h.cs.length:=by
 obtain⟨_,c,hc,_⟩:=ho.var ha hv;exact(AZ.1 hc).2.1
theorem Qnq{m:Int}{B:AC}(hB:FB m B){t:Tm}(ht:E3 m t){u:Int}(h:CT B t= .var u):u<m:=by
 obtain⟨a1,a2⟩:=IU.1 h;rw[<-a2];exact(NF hB ht).1 a1
structure EK(q fresh:Nat)(B:AC)(h:HH)(R:Tm->Int->Prop):Prop where
 bm:Bm D3 D6 R B h
 fb:FB fresh B
 low:∀t a,R t a->E3 fresh t
 qv:∀v:Nat,v<q->R ⟨0,(v:Nat),⟨#[]⟩,.nil⟩ (v:Nat)
theorem EK.mono{q f f':Nat}(hf:f<=f'){B:AC}{h:HH}{R:Tm->Int->Prop}(H:EK q f B h R):EK q f' B h R:=⟨H.bm,H.fb.mono Ya,fun t a hr=>(H.low t a hr).mono Ya,H.qv⟩
theorem IA.good{L:List HC}{base:Nat}{V:Int}:∀(T:Ts) (a:Int),IA L base V T a->T.vars (fun n=>0<=n/\n<V)
 | .nil,_,_=>trivial
 | .cons k n s ar r,a,h=>by
  obtain⟨⟨x,c,h1,h2,h3⟩,h4⟩:=h;refine⟨fun hk=> ?_,?_,IA.good r _ h4⟩
  .rcases h3 with⟨_,n0,n1,_⟩|⟨yC,_⟩
   .exact⟨n0,n1⟩
   .exact absurd hk yC
  .rcases h3 with⟨_,_,_,_,rfl,_⟩|⟨_,_,_,_,_,h5⟩
   .trivial
   .exact IA.good ar _ h5
theorem Qsg{m V:Int}(m0:0<=m)(m1:m<=40000)(hV:V<=8)(T:Ts):T.vars (fun n=>0<=n/\n<V)->(T.shift m).vars (· <m+V):=by
 induction T with
 |nil=>intro _;trivial
 |cons k n s ar r rO qO=>
  rintro⟨h1,h2,h3⟩;rw[Ts.shift_cons];refine⟨fun hk=> ?_,rO h2,qO h3⟩;subst hk;obtain⟨n0,n1⟩:=h1 rfl;rw[Qhs n0 Ya m0 m1];omega
theorem G4.low{L:List HC}{base:Nat}{V m:Int}(hV:V<=8)(m0:0<=m)(m1:m<=40000){t:Tm}{a:Int}(h:G4 L base V m t a):E3 (m+V) t:=by
 obtain⟨⟨k,_,s,ar⟩,hl,rfl⟩:=h;have h1:=IA.good _ _ hl;have h2:=Qsg m0 m1 hV _ h1;rw[Ts.shift_cons]at h2;exact⟨h2.1,h2.2.1⟩
theorem EK.load{q fresh:Nat}{B:AC}{h h':HH}{R:Tm->Int->Prop}{K:List HC}{V:Nat}(H:EK q fresh B h R)(hb:R7 h K h')(hV:V<=8)(hf:fresh<=40000):
  EK q (fresh+V) B h' (fun t a=>R t a\/G4 h'.cs h.cs.length V fresh t a):=by
 have ho:BB h:=H.bm.okb;have Gp:=hb.ok ho;refine⟨Bm.ext (m:=fresh) (base:=h.cs.length) H.bm Gp (fun a ha=> ?_) (fun t a hn=>⟨?_,?_⟩) (fun t a u hr hu=>Qnq H.fb (H.low t a hr) hu) (fun t a v hr hv=>Qos ho (H.bm.db hr) hv),H.fb.mono Ya,fun t a hr=> ?_,fun v hv=> .inl (H.qv v hv)⟩
 .exact Yez
 .obtain⟨u,hl,_⟩:=hn;exact hl.addr
 .rcases G4.look (T:=h'.tr) Ya Ya Ya H.fb hn with⟨i,i0,i1,e1,e2⟩|hh
  .exact .inl ⟨i,i0,e1,e2⟩
  .exact .inr hh
 .rcases hr with hr|hn
  .exact(H.low t a hr).mono Ya
  .have:=hn.low Ya Ya Ya;exact this.mono Ya
theorem EK.num{q fresh:Nat}{B:AC}{h h':HH}{R:Tm->Int->Prop}{n:Int}(H:EK q fresh B h R)(hb:R7 h [⟨2,n,eS⟩] h'):
  EK q fresh B h' (fun t a=>R t a\/(t=⟨2,n,⟨#[]⟩,.nil⟩/\a=h.cs.length)):=by
 have ho:BB h:=H.bm.okb;have Gp:=hb.ok ho
 have hc:AD h'.cs (h.cs.length:Nat)=some ⟨2,n,eS⟩:=by
  have:=QgP h [⟨2,n,eS⟩] 0 _ rfl;rw[hb.eq];exact BS
 refine⟨Bm.ext (m:=fresh) (base:=h.cs.length) H.bm Gp (fun a ha=> ?_) (fun t a hn=> ?_) (fun t a u hr hu=>Qnq H.fb (H.low t a hr) hu) (fun t a v hr hv=>Qos ho (H.bm.db hr) hv),H.fb,fun t a hr=> ?_,fun v hv=> .inl (H.qv v hv)⟩
 .exact Yez
 .obtain⟨rfl,rfl⟩:=hn;refine⟨SZ.2 ⟨_,hc⟩,.inr ⟨2,n,eS,[],[],?_,?_,.nil⟩⟩
  .show AX (Qc B _)=_;rw[LL (by show(2:Int)≠0;decide)];rfl
  .rw[KV (M9 hc Yd) hc,XA (by show¬(2:Int)=0;decide)];rfl
 .rcases hr with hr|⟨rfl,_⟩
  .exact H.low t a hr
  .exact⟨fun e=>absurd e (by show¬(2:Int)=0;decide),trivial⟩
theorem EK.uni{q fresh:Nat}{B:AC}{h:HH}{R:Tm->Int->Prop}(H:EK q fresh B h R){t t':Tm}{a a':Int}(ha:R t a)(Fv:R t' a'):
  (BI 401 t t' B 0).ok=(AY D6 401 a a' h 0).ok/\(BI 401 t t' B 0).w=(AY D6 401 a a' h 0).w/\EK q fresh (BI 401 t t' B 0).B (AY D6 401 a a' h 0).s R:=by
 have hu:=Qtt 401 t t' B 0 H.bm.oka;obtain⟨h1,h2,h3⟩:=Qpi (Qmc Qro) Qwr 401 t t' a a' B h 0 H.bm ha Fv;have f1:=Qqx Qrp 401 t t' B 0 H.fb (H.low t a ha) (H.low t' a' Fv);rw[<-hu]at h1 h2 h3 f1;exact⟨h1,h2,h3,f1,H.low,H.qv⟩
structure Bk(h:HH)(n top:Nat)(g:HH):Prop where
 hn:n<=h.tr.length
 ht:top<=h.cs.length
 eq:g=⟨(D8 h.cs (h.tr.drop n)).take top,h.tr.take n⟩
 ok:BB g
theorem BB.pos{h:HH}(ho:BB h){a:Int}(ha:a∈h.tr):∃c,AD h.cs a=some c/\c.k=0:=by
 have:=ho.tr a ha;unfold GG at this
 cases hc:AD h.cs a with
 |none=>rw[hc]at this;cases this
 |some c=>rw[hc]at this;exact⟨c,rfl,by simpa using this⟩
theorem BB.nn{h:HH}(ho:BB h):∀a∈h.tr,0<=a:=fun a ha=>by
 obtain⟨c,hc,_⟩:=ho.pos ha;exact(AZ.1 hc).1
theorem Qef(T:T7)(L:List HC):(D8 L T).length=L.length:=by
 induction T generalizing L with
 |nil=>rfl
 |cons a r ih=>simp only[D8];rw[ih,NR]
theorem Bk.len{h g:HH}{n top:Nat}(b:Bk h n top g):g.cs.length=top/\g.tr.length=n:=by
 rw[b.eq];have:=b.ht;have:=b.hn;constructor
 .show((D8 _ _).take top).length=top;rw[VV,Qef];omega
 .show(h.tr.take n).length=n;rw[VV];omega
theorem Bk.self{h:HH}(ho:BB h):Bk h h.tr.length h.cs.length h:=by
 refine⟨XF _,XF _,?_,ho⟩;rw[Xbj,Z6];show h=⟨(D8 h.cs []).take _,_⟩;rw[show D8 h.cs []=h.cs from rfl,Z6]
theorem R5{h:HH}(vO:∀a∈h.tr,0<=a)(n i:Nat):(D8 h.cs (h.tr.drop n))[i]?=if(i:Int)∈h.tr.drop n then(h.cs[i]?).map (fun c=>⟨c.k,i,c.s⟩)else h.cs[i]?:=
 Qja _ _ (fun r hr=>vO r (JJ hr)) i
theorem Bk.trans{h g k:HH}{n top n' Lt:Nat}(vO:∀a∈h.tr,0<=a)(b:Bk h n top g)(c:Bk g n' Lt k):Bk h n' Lt k:=by
 obtain⟨_,_⟩:=b.len;have cn:=c.hn;have ct:=c.ht;have bn:=b.hn;have bt:=b.ht;refine⟨by omega,by omega,?_,c.ok⟩;have aCc:∀a∈g.tr,0<=a:=fun a ha=>vO a (by rw[b.eq]at ha;exact List.mem_of_mem_take ha);rw[c.eq]
 have e2:g.tr.take n'=h.tr.take n':=by rw[b.eq];show(h.tr.take n).take n'=_;rw[XaH,JL Ya]
 rw[e2];congr 1;refine J1 fun i=> ?_;rw[JB,JB];by_cases hi:i<Lt
 .rw[XB hi,XB hi,R5 aCc,R5 vO]
  have e3:g.cs[i]?=if(i:Int)∈h.tr.drop n then(h.cs[i]?).map (fun c=>⟨c.k,i,c.s⟩)else h.cs[i]?:=by
   rw[<-R5 vO,b.eq];show((D8 _ _).take top)[i]?=_;rw[JB,XB Ya]
  have e4:h.tr.drop n'=g.tr.drop n'++h.tr.drop n:=by
   have:g.tr=h.tr.take n:=by rw[b.eq]
   rw[this]
   conv=>lhs;rw[<-VR n h.tr]
   rw[List.drop_append_of_le_length (by rw[VV];omega)]
  rw[e3,e4];simp only[VG];by_cases m1:(i:Int)∈g.tr.drop n'
  .rw[XB m1,XB (show(i:Int)∈g.tr.drop n'\/(i:Int)∈h.tr.drop n from .inl m1)];by_cases m2:(i:Int)∈h.tr.drop n
   .rw[XB m2,WR];rfl
   .rw[XA m2]
  .rw[XA m1];by_cases m2:(i:Int)∈h.tr.drop n
   .rw[XB m2,XB (show(i:Int)∈g.tr.drop n'\/(i:Int)∈h.tr.drop n from .inr m2)]
   .rw[XA m2,XA (show¬((i:Int)∈g.tr.drop n'\/(i:Int)∈h.tr.drop n)from fun h=>h.elim m1 m2)]
 .rw[XA hi,XA hi]
def Dr(h:HH)(a:Int):Prop:=∃c,AD h.cs a=some c/\(c.k=1\/c.k=3)
theorem Dr.up{h g:HH}{n top:Nat}(ho:BB h)(b:Bk h n top g){a:Int}(hd:Dr g a):Dr h a:=by
 obtain⟨c,hc,hk⟩:=hd;obtain⟨a0,_,a2⟩:=AZ.1 hc;obtain⟨_,_⟩:=b.len;have ht:=b.ht
 have e3:g.cs[a.toNat]?=if((a.toNat:Nat):Int)∈h.tr.drop n then(h.cs[a.toNat]?).map (fun c=>⟨c.k,a.toNat,c.s⟩)else h.cs[a.toNat]?:=by
  rw[<-R5 ho.nn,b.eq];show((D8 _ _).take top)[a.toNat]?=_;rw[JB,XB Ya]
 rw[show((a.toNat:Nat):Int)=a by omega]at e3;by_cases hm:a∈h.tr.drop n
 .rw[XB hm,a2]at e3;obtain⟨d,hd,_⟩:=ho.pos (JJ hm);rw[(AZ.1 hd).2.2]at e3;simp only[X7,XU]at e3;rw[e3]at hk;dsimp only at hk;omega
 .rw[XA hm,a2]at e3;exact⟨c,AZ.2 ⟨a0,by omega,e3.symm⟩,hk⟩
theorem Bk.load{h h':HH}{K:List HC}(ho:BB h)(hb:R7 h K h'):Bk h' h.tr.length h.cs.length h:=by
 rw[hb.eq];refine⟨XF _,by simp,?_,ho⟩;dsimp only;rw[Xbj,Z6];show h=⟨(h.cs++_).take _,_⟩;rw[Xbk]
theorem Bk.uni{h:HH}(ho:BB h){N:T7}{L:List HC}(hN:Bd N h.cs L):Bk ⟨L,h.tr++N⟩ h.tr.length h.cs.length h:=by
 have hl:L.length=h.cs.length:=by
  have:=hN.undo;rw[<-this,Qef]
 refine⟨by simp,by show _<=L.length;omega,?_,ho⟩;dsimp only;rw[Xbe,Xbk,hN.undo,Z6]
def GR(R:Tm->Int->Prop)(h:HH)(t:Tm)(a:Int):Prop:=R t a/\Dr h a/\t.k≠0
theorem G4.kind{L:List HC}{base:Nat}{V m:Int}{t:Tm}{a:Int}(h:G4 L base V m t a)(hd:∃c,AD L a=some c/\(c.k=1\/c.k=3)):t.k≠0:=by
 obtain⟨⟨k,_,s,ar⟩,hl,rfl⟩:=h;dsimp only at hl;obtain⟨⟨x,c,h1,h2,h3⟩,_⟩:=hl;obtain⟨d,d1,_⟩:=hd;have e:=h1.det (M9 d1 (by rintro⟨h,_⟩;omega));subst e;rw[h2]at d1;cases d1;show k≠0;rcases h3 with⟨_,_,_,_,_,hk,_⟩|⟨hk,_⟩
 .omega
 .exact hk
def DF(R:Tm->Int->Prop)(L:List XL):Int->List Gl->Prop
 |i,[]=>i= -1
 |i,g::r=>∃(k:Nat) (l:XL),i=(k:Int)/\L[k]?=some l/\R g.1 l.g/\l.o=g.2/\l.nx<(k:Int)/\DF R L l.nx r
theorem DF.mono{R R':Tm->Int->Prop}(h:∀t a,R t a->R' t a){L:List XL}:∀{i:Int} {G:List Gl},DF R L i G->DF R' L i G
 |_,[],hc=>hc
 |_,g::r,⟨k,l,h1,h2,h3,h4,h5,h6⟩=>⟨k,l,h1,h2,h _ _ h3,h4,h5,DF.mono h h6⟩
theorem QyK{α:Type}{L:List α}{k:Nat}{l:α}(X:List α)(h:L[k]?=some l):(L++X)[k]?=some l:=by
 rw[VO]
 .exact h
 .rcases XY k L.length with g|g
  .exact g
  .rw[XX g]at h;cases h
theorem DF.app{R:Tm->Int->Prop}{L:List XL}(X:List XL):∀{i:Int} {G:List Gl},DF R L i G->DF R (L++X) i G
 |_,[],hc=>hc
 |_,g::r,⟨k,l,h1,h2,h3,h4,h5,h6⟩=>⟨k,l,h1,QyK X h2,h3,h4,h5,DF.app X h6⟩
theorem UD{L:List XL}{k:Nat}{l:XL}(h:L[k]?=some l):AH L k=l:=by unfold AH;rw[Xbv,h];rfl
def CQ(q f:Nat)(L:List XL):AC->HH->List Ch->List XC->Prop
 |_,_,[],[]=>True
 |B,h,c::cs,d::ds=>∃(R:Tm->Int->Prop) (g:HH),Bk h d.bound d.cells g/\QS g=true/\EK q f (CG B c.bound) g R/\DF (GR R g) L (d.at_:Nat) (c.g::c.next)/\d.cls=c.cls/\c.bound<=B.length/\CQ q f L (CG B c.bound) g cs ds
 |_,_,_,_=>False
theorem CQ.len{q f:Nat}{L:List XL}:∀{B:AC} {h:HH} {cs:List Ch} {ds:List XC},CQ q f L B h cs ds->cs.length=ds.length
 |_,_,[],[],_=>rfl
 |_,_,c::cs,d::ds,⟨R,g,_,_,_,_,_,_,h⟩=>by simp[CQ.len h]
theorem CQ.mono{q f f':Nat}(hf:f<=f'){L:List XL}:∀{B:AC} {h:HH} {cs:List Ch} {ds:List XC},CQ q f L B h cs ds->CQ q f' L B h cs ds
 |_,_,[],[],_=>trivial
 |_,_,c::cs,d::ds,⟨R,g,h1,h0,h2,h3,h4,h5,h6⟩=>⟨R,g,h1,h0,h2.mono hf,h3,h4,h5,h6.mono hf⟩
theorem CQ.links{q f:Nat}{L:List XL}(X:List XL):∀{B:AC} {h:HH} {cs:List Ch} {ds:List XC},CQ q f L B h cs ds->CQ q f (L++X) B h cs ds
 |_,_,[],[],_=>trivial
 |_,_,c::cs,d::ds,⟨R,g,h1,h0,h2,h3,h4,h5,h6⟩=>⟨R,g,h1,h0,h2,h3.app X,h4,h5,h6.links X⟩
theorem Qgw(X B:AC){n:Nat}(h:n<=B.length):CG (X++B) n=CG B n:=by
 unfold CG;rw[show(X++B).length-n=X.length+(B.length-n) by simp;omega,W6];rw[List.drop_of_length_le Ya,WX];exact LI
theorem CQ.up{q f:Nat}{L:List XL}{B X:AC}{h h':HH}{n top:Nat}(vO:∀a∈h'.tr,0<=a)(b:Bk h' n top h):∀{cs:List Ch} {ds:List XC},CQ q f L B h cs ds->CQ q f L (X++B) h' cs ds
 |[],[],_=>trivial
 |c::cs,d::ds,⟨R,g,h1,h0,h2,h3,h4,h5,h6⟩=>by
  refine⟨R,g,b.trans vO h1,h0,?_,h3,h4,by simp;omega,?_⟩
  .rw[Qgw X B h5];exact h2
  .rw[Qgw X B h5];exact h6
structure PG(q F:Nat)(s:SS)(x:XS):Prop where
 ev:x.ev=s.ev
 fuel:x.goals+s.fuel=F
 f150:F<=150
 q8:q<=8
 ch:CQ q s.fresh x.ln s.B x.h s.ch x.ch
 inv:DC s
 gd:QS x.h=true
 ho:BB x.h
 csz:∀d∈x.ch,d.cells<=300*x.goals/\d.bound+400<=400*x.goals
 lsz:x.ln.length+5*mu s<=30000
 lnx:∀(i:Nat) (l:XL),x.ln[i]?=some l->-1<=l.nx/\l.nx<(i:Int)
structure FV(q F:Nat)(s:SS)(x:XS):Prop where
 i:PG q F s x
 cur:∃R,EK q s.fresh s.B x.h R/\DF (GR R x.h) x.ln x.first s.goals
 gs:Inv s
 cs:x.h.cs.length<=300*(x.goals+1)
 ts:x.h.tr.length<=400*x.goals
theorem Qnj{q f:Nat}{B:AC}{h:HH}{R:Tm->Int->Prop}(H:EK q f B h R)(hg:QS h=true)(ht:h.tr.length+400<=65536){t t':Tm}{a a':Int}(ha:R t a)(Fv:R t' a'):
  (400<(BI 401 t t' B 0).w->CX h a a'=(h,false,3))/\((BI 401 t t' B 0).w<=400->(BI 401 t t' B 0).ok=false->CX h a a'=(h,false,0))/\
  ((BI 401 t t' B 0).w<=400->(BI 401 t t' B 0).ok=true->∃h',CX h a a'=(h',true,0)/\EK q f (BI 401 t t' B 0).B h' R/\QS h'=true/\h'.cs.length=h.cs.length/\h'.tr.length<=h.tr.length+400/\Bk h' h.tr.length h.cs.length h):=by
 have da:Qo h.cs a=true:=H.bm.db ha;have da':Qo h.cs a'=true:=H.bm.db Fv;obtain⟨e1,e2,e3⟩:=H.uni ha Fv;have e1:_=(IH 401 a a' h 0).ok:=e1;have e2:_=(IH 401 a a' h 0).w:=e2;have e3:EK q f (BI 401 t t' B 0).B (IH 401 a a' h 0).s R:=e3;obtain⟨g1,g2,g3⟩:=Qtr 401 a a' h 0 H.bm.okb da da';have hG:=Qw5 hg;have Bt:=Qnl 401 a a' _ hG rfl;have Hq:=Qtq 401 a a' _ hG rfl;rw[show B2 h 0=⟨h.cs,h.tr,0,false⟩from rfl]at g1
 have vT:∀r,CE 401 a a' ⟨h.cs,h.tr,0,false⟩=r->CX h a a'=if r.2.lg=true\/r.1=true/\65536<r.2.tr.length then(h,false,3)else if r.1=false then(h,false,0)else(⟨r.2.cs,r.2.tr⟩,true,0):=by
  intro r hr;unfold CX;rw[hr,XA YT,XA (by rw[da,da'];decide)]
 have vT:=vT _ g1;rw[g1]at Bt Hq;have Bb:=Bt.ext.2;have oW:=Bt.gu.wk;rw[vT];rw[<-e1]at g1 Bt Hq Bb oW⊢;rw[<-e2]at g1 Bt Hq Bb oW⊢;clear vT;generalize BI 401 t t' B 0=r at*;generalize IH 401 a a' h 0=u at*;have sA:∀k:Nat,(B2 u.s k).lg=decide (400<k):=fun k=>rfl;refine⟨fun hw=> ?_,fun hw ho=> ?_,fun hw ho=> ?_⟩
 .rw[XB (.inl (by rw[sA];simpa using hw))]
 .rw[XA (by rw[sA,ho];simp;omega),XB ho]
 .have aFp:u.s.tr.length<=h.tr.length+(r.w-0):=Bb
  rw[XA (by
   rw[sA];rintro(h1|⟨_,h1⟩)
   .simp at h1;omega
   .have h1:65536<u.s.tr.length:=h1;omega),XA (by rw[ho];show¬(true=false);decide)]
  obtain⟨N,t1,t2⟩:=Hq;have t1:u.s.tr=h.tr++N:=t1;have t2:Bd N h.cs u.s.cs:=t2
  have Nu:QS u.s=true:=by
   have:=g2;unfold QS D7 KC at hg⊢;simp only[XI,XO,VK]at hg⊢;exact⟨⟨by rw[g3];exact hg.1.1,g2.gl⟩,by omega,g2.tr⟩
  refine⟨u.s,rfl,e3,Nu,g3,by omega,?_⟩;have:=Bk.uni H.bm.okb t2;rw[<-t1]at this;exact BS
theorem QkW{n:Nat}:∀(T:T7) (L:List HC),L.length=n->Q2 n L=true->(∀a∈T,∃c,AD L a=some c/\c.k=0)->Q2 n (D8 L T)=true
 |[],L,_,h,_=>h
 |a::r,L,hl,h,ht=>by
  obtain⟨c,hc,hk⟩:=ht a (X8 ..);obtain⟨a0,_,a2⟩:=AZ.1 hc;refine QkW r (DD L a.toNat a) (by rw[NR];exact hl) (QgD a0 Ya h fun c' zQ=> ?_) fun b hb=> ?_
  .rw[a2]at zQ;cases zQ;exact hk
  .obtain⟨d,hd,Ep⟩:=ht b (XZ _ hb);rw[OC hc];by_cases e:b=a
   .rw[XB e];exact⟨_,rfl,hk⟩
   .rw[XA e];exact⟨d,hd,Ep⟩
theorem Qtz{h:HH}(hg:QS h=true)(ho:BB h)(n:Nat):QS ⟨D8 h.cs (h.tr.drop n),h.tr.take n⟩=true:=by
 have vO:=ho.nn;unfold QS D7 KC at hg⊢;simp only[XI,XO,VK,Qef]at hg⊢;refine⟨⟨hg.1.1,QkW _ _ rfl ho.gl fun a ha=>ho.pos (JJ ha)⟩,by rw[VV];omega,fun a ha=> ?_⟩;have ha:=List.mem_of_mem_take ha;obtain⟨c,hc,hk⟩:=ho.pos ha;obtain⟨a0,_,a2⟩:=AZ.1 hc;have:=R5 vO n a.toNat;unfold GG
 have e:AD (D8 h.cs (h.tr.drop n)) a=(D8 h.cs (h.tr.drop n))[a.toNat]?:=by unfold AD;rw[XB a0]
 rw[e,this,a2];by_cases hm:((a.toNat:Nat):Int)∈h.tr.drop n
 .rw[XB hm];simpa using hk
 .rw[XA hm];simpa using hk
theorem Qzo{h g:HH}{n top:Nat}(hg:QS h=true)(ho:BB h)(b:Bk h n top g)(Ba:QS g=true):(IJ (GF h (n:Nat)).1 (top:Nat)).1=g:=by
 have hn:=b.hn;have ht:=b.ht
 have e1:GF h (n:Nat)=(⟨D8 h.cs (h.tr.drop n),h.tr.take n⟩,0):=by
  unfold GF;rw[XA YT,XA Ya,X0]
 rw[e1];unfold IJ;have e2:(⟨(D8 h.cs (h.tr.drop n)).take top,h.tr.take n⟩:HH)=g:=b.eq.symm;dsimp only;rw[Qtz hg ho n,XA Yf,XA (by rw[Qef];omega),X0,e2,Ba,XA Yf]
theorem Qqc{L:List HC}{base:Nat}{V m:Int}{R:Tm->Int->Prop}(hN:∀t a,G4 L base V m t a->(∃c,AD L a=some c/\(c.k=1\/c.k=3))->R t a){o:Nat}:∀(T:Ts) (P:T7) (nx:Int) (K:List XL) (rest:List Gl),ZY L base V T P->DF R K nx rest->-1<=nx->nx<K.length->
  DF R (BU base o P nx K).1 (BU base o P nx K).2 (ID T m o rest)/\(∃X,(BU base o P nx K).1=K++X/\X.length=T.length)/\-1<=(BU base o P nx K).2/\(BU base o P nx K).2<(BU base o P nx K).1.length
 | .nil,P,nx,K,rest,hP,hc,h0,h1=>by
  obtain rfl:=hP;exact⟨hc,⟨[],by simp[BU],rfl⟩,h0,h1⟩
 | .cons k n s ar r,P,nx,K,rest,hP,hc,h0,h1=>by
  obtain⟨x,p,rfl,hx,hd,hr⟩:=hP;obtain⟨i1,⟨X,i2,i3⟩,_,i5⟩:=Qqc hN (o:=o) r p nx K rest hr hc h0 h1;simp only[BU,ID];refine⟨⟨_,⟨base+x,o,(BU base o p nx K).2⟩,rfl,by simp,hN _ _ ⟨⟨k,n,s,ar⟩,hx,rfl⟩ hd,rfl,i5,DF.app _ i1⟩,⟨X++[⟨base+x,o,(BU base o p nx K).2⟩],by rw[i2,VB],by simp[i3,Ts.length]⟩,by omega,by simp only[XG,XJ,XP];omega⟩
theorem QvA{base o:Nat}:∀(P:T7) (nx:Int) (K:List XL), -1<=nx->nx<K.length->(∀(i:Nat) (l:XL),K[i]?=some l->-1<=l.nx/\l.nx<(i:Int))->(∀(i:Nat) (l:XL),(BU base o P nx K).1[i]?=some l->-1<=l.nx/\l.nx<(i:Int))/\-1<=(BU base o P nx K).2/\(BU base o P nx K).2<(BU base o P nx K).1.length
 |[],nx,K,h0,h1,hK=>⟨hK,h0,h1⟩
 |x::P,nx,K,h0,h1,hK=>by
  obtain⟨i1,i2,i3⟩:=QvA (base:=base) (o:=o) P nx K h0 h1 hK;simp only[BU];refine⟨fun i l hl=> ?_,by omega,by simp only[XG,XJ,XP];omega⟩;rw[List.getElem?_append]at hl;split at hl
  .exact i1 i l hl
  .rename_i hh;rw[List.getElem?_singleton]at hl;split at hl
   .cases hl;dsimp only;omega
   .cases hl
def MR(q F:Nat)(p:Int×SS)(r:Int×XS):Prop:=p.1=r.1/\r.2.ev=p.2.ev/\(p.1=0->FV q F p.2 r.2)
theorem DF.first{R:Tm->Int->Prop}{L:List XL}{k:Nat}{g:Gl}{r:List Gl}(h:DF R L (k:Nat) (g::r)):∃l,L[k]?=some l/\AH L k=l/\R g.1 l.g/\l.o=g.2/\l.nx<(k:Int)/\DF R L l.nx r:=by
 obtain⟨j,l,_,h1,h2,h3,h4,h5⟩:=h;obtain rfl:k=j:=by omega
 exact⟨l,h1,UD h1,h2,h3,h4,h5⟩
theorem Qqd{q F:Nat}{ds:List XC}{cs:List Ch}(hk:∀n s x,s.ch=cs->x.ch=ds->PG q F s x->CH cs<n->MR q F (D5 n s) (GT ds x)){a cells bound bd:Nat}{cg:Gl}{next:List Gl}:
  ∀(cls:List Cl) (n:Nat) (s:SS) (x:XS),s.ch=C5 ⟨cg,next,[],bd⟩ cls cs->x.ch=ds->DC s->x.ev=s.ev->x.goals+s.fuel=F->F<=150->q<=8->QS x.h=true->(∀d∈x.ch,d.cells<=300*x.goals/\d.bound+400<=400*x.goals)->x.ln.length+5*mu s<=30000->
   (∀(i:Nat) (l:XL),x.ln[i]?=some l->-1<=l.nx/\l.nx<(i:Int))->bd<=s.B.length->CQ q s.fresh x.ln (CG s.B bd) x.h cs ds->(∃R,EK q s.fresh (CG s.B bd) x.h R/\DF (GR R x.h) x.ln (a:Nat) (cg::next))->cells=x.h.cs.length->bound=x.h.tr.length->cells<=300*x.goals->bound+400<=400*x.goals->CH s.ch<n->
   MR q F (D5 n s) (LH (GT ds) a cells bound cls x)
 |[],n,s,x,rM,hxc,hI,pX,uQ,hF,hq,rK,hcsz,Lu,hlnx,pN,Dn,⟨R,hG,hC⟩,ec,eb,uU,qJ,hn=>by
  have rM:s.ch=cs:=rM;refine hk n s x rM hxc ⟨pX,uQ,hF,hq,?_,hI,rK,hG.bm.okb,hcsz,Lu,hlnx⟩ (by rw[<-rM];exact hn);rw[rM,hxc];have e:s.B=s.B.take (s.B.length-bd)++CG s.B bd:=(VR _ _).symm;rw[e];exact CQ.up hG.bm.okb.nn (Bk.self hG.bm.okb) Dn
 | b :: more, n, s, x, rM, hxc, hI, pX, uQ, hF, hq, rK, hcsz, Lu, hlnx, pN, Dn, ⟨R, hG, hC⟩, ec, eb, uU, qJ, hn => by
  obtain⟨n,rfl⟩:∃m,n=m+1:=⟨n-1,by omega⟩
  have vH:s.ch=⟨cg,next,b::more,bd⟩::cs:=rM
  have hp:C5 ⟨cg,next,b::more,bd⟩ more cs=C5 ⟨cg,next,[],bd⟩ more cs:=by cases more<;>rfl
  have vM:=Qek (n:=n) (s:=s) vH (rfl:(⟨cg,next,b::more,bd⟩:Ch).cls=b::more);have zX:=Qmh (n+1) s hI;have Er:=hI.ch;rw[vH]at Er;obtain⟨a1,a2,a3,a4,a5,a6⟩:=Er;have hb:cB b=true:=a5 b (X8 ..);obtain⟨v0,v1,b5,_,_⟩:=PN hb;have Cz:=hI.fr;have hho:=hG.bm.okb;have aFq:x.goals<=150:=by omega
  obtain⟨l1,l2,l3,l4,l5⟩:=QsZ rK hb Ya;obtain⟨lk,k1,k2,⟨k3,k3d,k3k⟩,k4,k5,k6⟩:=hC.first;have hV:((b.vars.toNat:Nat):Int)=b.vars:=by omega
  have hG1:=hG.load (V:=b.vars.toNat) l3 Ya Ya;dsimp only at hG1;rw[hV]at hG1;have rA:=ZU hb;have aCe:=Qnj hG1 l2 (by dsimp only;omega) (t:=b.head.shift s.fresh) (t':=cg.1) (a:=x.h.cs.length+b.vars) (a':=lk.g) (.inr ⟨b.head,l4,rfl⟩) (.inl k3)
  have zV:IL x.h b (AH x.ln a).g=CX ⟨x.h.cs++(QB b).map (BH x.h.cs.length),x.h.tr⟩ (x.h.cs.length+b.vars) lk.g:=by unfold IL;rw[l1,k2]
  have Te:=PJ 401 (b.head.shift s.fresh) cg.1 (CG s.B bd) 0 (QrF hb (m:=s.fresh) Ya).small (a3 cg (X8 ..)).small (hI.bok.drop _) (QtA (Q:=fun t=>t.ar.nodes<=24) hI.sm _) Ya;obtain⟨N,hN⟩:=Te.ext;have Sf:(CG s.B bd).length=bd:=Qqz _ pN;have Es:=Qml hI vH (rfl:(⟨cg,next,b::more,bd⟩:Ch).cls=b::more)
  have Pw:mu s=25*s.fuel+(more.length+1+CH cs):=by unfold mu;rw[vH];simp only[CH,XJ]
  rw[hp]at vM;rw[hp]at Es;rw[vM]at zX⊢;simp only[LH];rw[zV];dsimp only at Te hN Es zX⊢;generalize BI 401 (b.head.shift s.fresh) cg.1 (CG s.B bd) 0=r at*;obtain⟨u1,u2,u3⟩:=aCe;by_cases hw:400<r.w
  .rw[XB hw,u1 hw,XB (by show(3:Int)≠0;decide)];exact⟨rfl,pX,fun h=>by cases h⟩
  rw[XA hw]at zX⊢
  cases oK:r.ok with
  |false=>
   rw[XA Yf,u2 Ya oK,XA Yaf,XB rfl]
   have Jb:CG r.B bd=CG s.B bd:=by rw[hN];have:=Qgw N (CG s.B bd) (n:=bd) Ya;rw[this];unfold CG;rw[show(s.B.drop (s.B.length-bd)).length-bd=0 by simp;omega];simp
   refine Qqd hk more n ⟨r.B,s.fresh+b.vars.toNat,s.fuel,s.goals,C5 ⟨cg,next,[],bd⟩ more cs,s.ev⟩ x rfl hxc (Es _) pX uQ hF hq rK hcsz ?_ hlnx ?_ ?_ ?_ ec eb uU qJ ?_
   .have:mu ⟨r.B,s.fresh+b.vars.toNat,s.fuel,s.goals,C5 ⟨cg,next,[],bd⟩ more cs,s.ev⟩=25*s.fuel+(more.length+CH cs):=by unfold mu;simp only[PL]
    omega
   .dsimp only;rw[hN];simp;omega
   .dsimp only;rw[Jb];exact Dn.mono Ya
   .dsimp only;rw[Jb];exact⟨R,hG.mono Ya,hC⟩
   .simp only[PL];rw[vH]at hn;simp only[CH,XJ]at hn;omega
  |true=>
   rw[oK]at zX;rw[XB rfl]at zX⊢;obtain⟨h2,m1,m2,m3,m4,m5,m6⟩:=u3 Ya oK;obtain⟨Et,aCf⟩:=zX.1 rfl;rw[m1,XA Yaf,XA (by show¬(true=false);decide)]
   have Jb:CG r.B bd=CG s.B bd:=by rw[hN];have:=Qgw N (CG s.B bd) (n:=bd) Ya;rw[this];unfold CG;rw[show(s.B.drop (s.B.length-bd)).length-bd=0 by simp;omega];simp
   have Tf:x.took a b more cells bound=⟨h2,x.goals,(BU x.h.cs.length x.ch.length (EE b) lk.nx x.ln).1,(BU x.h.cs.length x.ch.length (EE b) lk.nx x.ln).2,match more with|[]=>x.ch|_::_=>⟨a,more,cells,bound⟩::x.ch,x.ev⟩:=by
    unfold XS.took;rw[zV,m1,l1,k2];cases more<;>rfl
   rw[Tf];have Bh:Bk h2 x.h.tr.length x.h.cs.length x.h:=Bk.trans m2.bm.okb.nn m6 (Bk.load hho l3);have oG:=Dn.len;obtain⟨nx0,nx1⟩:=hlnx a lk k1
   have sD:a<x.ln.length:=by
    rcases XY a x.ln.length with h|h
    .exact h
    .rw[XX h]at k1;cases k1
   have Ii:x.ch.length=cs.length:=by rw[hxc];exact oG.symm
   obtain⟨c1,⟨X,c2,c3⟩,c4,c5⟩:=Qqc (R:=GR (fun t a=>R t a\/G4 (x.h.cs++(QB b).map (BH x.h.cs.length)) x.h.cs.length b.vars s.fresh t a) h2) (fun t a h hd=>⟨.inr h,Dr.up m2.bm.okb m6 hd,h.kind hd⟩) (o:=x.ch.length) b.bd (EE b) lk.nx x.ln next l5 (k6.mono fun t a h=>⟨.inl h.1,Dr.up m2.bm.okb Bh h.2.1,h.2.2⟩) nx0 Ya;have Th:=(QvA (base:=x.h.cs.length) (o:=x.ch.length) (EE b) lk.nx x.ln nx0 Ya hlnx).1
   have wX:h2.cs.length<=300*(x.goals+1):=by
    rw[m4];simp only[XG,VQ];omega
   have hmt:h2.tr.length<=400*x.goals:=by
    have:h2.tr.length<=x.h.tr.length+400:=m5;omega
   refine⟨rfl,pX,fun _=>⟨⟨pX,uQ,hF,hq,?_,Et.c,m3,m2.bm.okb,?_,?_,Th⟩,⟨_,m2,?_⟩,Et,wX,hmt⟩⟩
   .dsimp only;rw[c2]
    cases more with
    |nil=>
     show CQ q _ _ r.B h2 cs x.ch;rw[hxc,hN];exact CQ.up m2.bm.okb.nn Bh ((Dn.mono Ya).links X)
    |cons y z=>
     show CQ q _ _ r.B h2 (⟨cg,next,y::z,bd⟩::cs) (⟨a,y::z,cells,bound⟩::x.ch);refine⟨R,x.h,by rw[ec,eb];exact Bh,rK,?_,hC.app X,rfl,?_,?_⟩
     .dsimp only;rw[Jb];exact hG.mono Ya
     .dsimp only;rw[hN];simp;omega
     .dsimp only;rw[Jb,hxc];exact(Dn.mono Ya).links X
   .dsimp only
    cases more with
    |nil=>exact hcsz
    |cons y z=>
     intro d hd;rcases XV.1 hd with rfl|hd
     .exact⟨uU,qJ⟩
     .exact hcsz d hd
   .dsimp only at aCf⊢;rw[c2,XG,c3];omega
   .dsimp only;rw[<-Ii];exact c1
theorem Qpy{q F:Nat}:∀(ds:List XC) (cs:List Ch) (n:Nat) (s:SS) (x:XS),s.ch=cs->x.ch=ds->PG q F s x->CH cs<n->MR q F (D5 n s) (GT ds x)
 |[],cs,n,s,x,hs,hx,hI,hn=>by
  have h1:=hI.ch;rw[hs,hx]at h1
  cases cs with
  |cons c cs=>exact h1.elim
  |nil=>
   obtain⟨n,rfl⟩:∃m,n=m+1:=⟨n-1,by omega⟩
   simp only[D5,hs,GT];exact⟨rfl,hI.ev,fun h=>by cases h⟩
 |d::ds,cs,n,s,x,hs,hx,hI,hn=>by
  have h1:=hI.ch;rw[hs,hx]at h1
  cases cs with
  |nil=>exact h1.elim
  |cons c cs=>
   obtain⟨R,g,b1,b2,b3,b4,b5,b6,b7⟩:=h1;have Er:=hI.inv.ch;rw[hs]at Er;have oN:=Er.2.2.2.1;obtain⟨e1,e2⟩:=b1.len;have Wk:=hI.csz d (by rw[hx];exact X8 ..);simp only[GT];rw[b5]
   have Ti:x.back d ds=⟨g,x.goals,x.ln,x.first,ds,x.ev⟩:=by unfold XS.back;rw[Qzo hI.gd hI.ho b1 b2]
   rw[Ti];refine Qqd (cs:=cs) (fun n s x h1 h2 h3 h4=>Qpy ds cs n s x h1 h2 h3 h4) (bd:=c.bound) (cg:=c.g) (next:=c.next) c.cls n s ⟨g,x.goals,x.ln,x.first,ds,x.ev⟩ ?_ rfl hI.inv hI.ev hI.fuel hI.f150 hI.q8 b2 (fun y hy=>hI.csz y (by rw[hx];exact XZ _ hy)) hI.lsz hI.lnx b6 b7 ⟨R,b3,b4⟩ e1.symm e2.symm Wk.1 Wk.2 (by rw[hs];exact hn);rw[hs]
   cases oS:c.cls with
   |nil=>exact absurd oS oN
   |cons y z=>obtain⟨cg,_,_,_⟩:=c;dsimp only at oS⊢;rw[oS];rfl
theorem Qhb{q F:Nat}{s:SS}{x:XS}(hI:PG q F s x):MR q F (Q9 s) (MZ x):=Qpy x.ch s.ch (CH s.ch+1) s x rfl rfl hI (WN _)
section
variable{h:HH}{R:T7}{M:T8}
theorem Cx.inj(C:Cx h R M){a b:Int}(ha:Rc h.cs R a)(hb:Rc h.cs R b)(e:AK M a=AK M b):a=b:=by
 obtain⟨_,_,am⟩:=C.rc ha;obtain⟨_,_,bm⟩:=C.rc hb;have:=Qxw am bm (by simp only[AK]at e;omega);omega
theorem Cx.ends(C:Cx h R M){n:Nat}{a x:Int}(he:FL h.cs n a x):Rc h.cs R a->FL (DK M h.cs) n (AK M a) (AK M x)/\Rc h.cs R x:=by
 induction he with
 | @here a c h0 h1=>
  intro ha;refine⟨.here (C.cell ha h0) ?_,ha⟩;rintro⟨k,n⟩;rw[S7]at k;have hn:c.n=a:=Xaz fun e=>h1 ⟨k,e⟩;unfold EY at n;rw[XB k,hn]at n;exact n rfl
 | @there n a x c h0 h1 h2 h3 ih=>
  intro ha;have hr:=Rc.ref ha h0 h1;obtain⟨i1,i2⟩:=ih hr;refine⟨.there (C.cell ha h0) (by rw[S7];exact h1) ?_ ?_,i2⟩
  .unfold EY;rw[XB h1];exact fun e=>h2 (C.inj hr ha e)
  .unfold EY;rw[XB h1];exact i1
end
def IE(M:T8)(h:HH):HH:=⟨DK M h.cs,EJ M h.tr⟩
section
variable{h:HH}{Q:T7}{M:T8}
theorem QiM(C:Cx h Q M)(ho:BB h):BB (IE M h):=by
 have hg:=C.kept_good;refine⟨?_,fun a ha=> ?_,?_⟩
 .simp only[QS,D7,XI]at hg;exact hg.1.2
 .obtain⟨a0,a1⟩:=Qq.1 ha;obtain⟨d,hd⟩:=QxI (L:=DK M h.cs) a0 a1;obtain⟨i,c,hr,hc,_,_⟩:=C.back (AZ.1 hd).2.2;obtain⟨x,n,hx⟩:=ho.ends (i:Int) (SZ.2 ⟨c,hc⟩);obtain⟨h1,_⟩:=C.ends hx hr;refine⟨AK M x,n,?_⟩;rw[show AK M (i:Int)=a by simp only[AK,X0];omega]at h1;exact h1
 .simp only[QS,KC,XI,VK]at hg;exact hg.2.2
theorem Qi6(C:Cx h Q M)(ho:BB h){a:Int}(ha:Rc h.cs Q a):∃x c,Rc h.cs Q x/\AD h.cs x=some c/\(BJ h a=if c.k=0 then .var x else .node c.k (GA c) c.s (CI (x+1) (QU c).toNat))/\(BJ (IE M h) (AK M a)=if c.k=0 then .var (AK M x)else .node c.k (GA c) c.s (CI (AK M x+1) (QU c).toNat)):=by
 obtain⟨x,c,⟨n,h1⟩,h2,_,h4⟩:=ho.view (ha.addr C.gl);obtain⟨e1,e2⟩:=C.ends h1 ha;refine⟨x,c,e2,h2,h4,?_⟩;rw[KV (h:=IE M h) ⟨n,e1⟩ (C.cell e2 h2)];rw[S7,Qua,Qsq];by_cases hk:c.k=0
 .rw[XB hk,XB hk]
 .rw[XA hk,XA hk]
  have:GA (EY M c)=GA c:=by unfold EY;rw[XA hk]
  rw[this]
theorem QxZ{X:Type}{R R':X->Int->Prop}:∀{m:Nat} {l:List X} {p p':Int},Al R l (CI p m)->(∀i:Int,0<=i->i<m->∀t,R t (p+i)->R' t (p'+i))->Al R' l (CI p' m)
 |0,l,p,p',h,_=>by
  cases h;exact .nil
 |m+1,l,p,p',h,hi=>by
  cases h with
  |cons h1 h2=>
   refine .cons ?_ (QxZ h2 fun i i0 i1 t ht=> ?_)
   .have:=hi 0 Ya Ya _ (by rw[show p+0=p by omega];exact h1)
    rwa [show p'+0=p' by omega]at this
   .have:=hi (i+1) Ya Ya t (by rw[show p+(i+1)=p+1+i by omega];exact ht)
    rwa [show p'+(i+1)=p'+1+i by omega]at this
def QyT(M:T8)(Q:T7)(L:List HC)(R:Tm->Int->Prop)(t:Tm)(b:Int):Prop:=∃a,R t a/\Rc L Q a/\b=AK M a
theorem EK.coll(C:Cx h Q M){q f:Nat}{B:AC}{R:Tm->Int->Prop}(H:EK q f B h R)(hq:∀v:Nat,v<q->Rc h.cs Q (v:Nat)/\rk M v=v):EK q f B (IE M h) (QyT M Q h.cs R):=by
 have ho:BB h:=H.bm.okb;refine⟨⟨H.bm.oka,QiM C ho,fun _=>trivial,?_,?_,?_⟩,H.fb,fun t b ⟨a,hr,_⟩=>H.low t a hr,fun v hv=>⟨v,H.qv v hv,(hq v hv).1,?_⟩⟩
 .rintro t b ⟨a,hr,hc,rfl⟩;have:=C.lt hc;exact Qq.2 ⟨by simp only[AK];omega,by show AK M a<((DK M h.cs).length:Int);simp only[AK];omega⟩
 .rintro t b ⟨a,hr,hc,rfl⟩;obtain⟨x,c,e1,e2,e3,e4⟩:=Qi6 C ho hc;have hv:KY R (CT B t) (BJ h a):=H.bm.vw hr;show KY _ (CT B t) (BJ (IE M h) (AK M a));rw[e3]at hv;rw[e4];by_cases hk:c.k=0
  .rw[XB hk]at hv⊢
   cases ht:CT B t with
   |var u=>trivial
   |node k n s ar=>rw[ht]at hv;exact hv.elim
  .rw[XA hk]at hv⊢
   cases ht:CT B t with
   |var u=>rw[ht]at hv;exact hv.elim
   |node k n s ar=>
    rw[ht]at hv;obtain⟨p1,p2,p3,p4⟩:=hv;refine⟨p1,p2,p3,QxZ p4 fun i i0 i1 t' Lx=>⟨x+1+i,Lx,Rc.arg (c:=c) e1 e2 i0 Ya,(C.arg (c:=c) e1 e2 i0 Ya).symm⟩⟩
 .rintro t b t' b' u u' v v' ⟨a,hr,hc,rfl⟩ ⟨a',uI,zQ,rfl⟩ e1 e2 e3 e4;obtain⟨x,c,x1,x2,x3,x4⟩:=Qi6 C ho hc;obtain⟨y,d,y1,y2,y3,y4⟩:=Qi6 C ho zQ;have e3:BJ (IE M h) (AK M a)= .var v:=e3;have e4:BJ (IE M h) (AK M a')= .var v':=e4;rw[x4]at e3;rw[y4]at e4;split at e3
  .rename_i kx;split at e4
   .rename_i ky;cases e3;cases e4
    rw[XB kx]at x3;rw[XB ky]at y3;have h1:(u=u'↔x=y):=H.bm.vr hr uI e1 e2 x3 y3;rw[h1];constructor
    .rintro rfl;rfl
    .intro e;exact C.inj x1 y1 e
   .cases e4
  .cases e3
 .show((v:Nat):Int)=((rk M ((v:Nat):Int).toNat:Nat):Int);rw[X0,(hq v hv).2]
theorem Dr.coll(C:Cx h Q M){a:Int}(ha:Rc h.cs Q a)(hd:Dr h a):Dr (IE M h) (AK M a):=by
 obtain⟨c,hc,hk⟩:=hd;exact⟨_,C.cell ha hc,by rw[S7];exact hk⟩
theorem GR.coll(C:Cx h Q M){R:Tm->Int->Prop}{t:Tm}{a:Int}(ha:Rc h.cs Q a)(hg:GR R h t a):GR (QyT M Q h.cs R) (IE M h) t (AK M a):=⟨⟨a,hg.1,ha,rfl⟩,hg.2.1.coll C ha,hg.2.2⟩
end
theorem NK{α:Type}(f:α->Bool):∀T:List α,kept T (T.map f)=T.filter f
 |[]=>rfl
 |x::r=>by
  simp only[VE,kept,List.filter_cons,NK f r]
theorem Qe4{α:Type}(f:α->Bool)(T:List α)(n:Nat):rk (T.map f) n=((T.take n).filter f).length:=by
 unfold rk;rw[<-List.map_take,List.count_eq_length_filter,Xbb,VQ];congr 2;funext x;simp[Function.comp]
theorem Qmg{M:T8}{top n:Nat}(h:n<=top):rk (M.take top) n=rk M n:=by
 unfold rk;rw[XaH,JL h]
theorem QsW(M:T8)(T:T7)(n:Nat):(EJ M T).take (rk (T.map (Qy M)) n)=EJ M (T.take n):=by
 unfold EJ;rw[<-List.map_take,NK,NK,Qe4];congr 1;have e:T.filter (Qy M)=(T.take n).filter (Qy M)++(T.drop n).filter (Qy M):=by rw[<-WV,VR]
 rw[e,Xbk]
theorem QsX(M:T8)(T:T7)(n:Nat):(EJ M T).drop (rk (T.map (Qy M)) n)=EJ M (T.drop n):=by
 unfold EJ;rw[<-List.map_drop,NK,NK,Qe4];congr 1;have e:T.filter (Qy M)=(T.take n).filter (Qy M)++(T.drop n).filter (Qy M):=by rw[<-WV,VR]
 rw[e,Xbe]
def Z9(M:T8)(top:Nat):T7:=((List.range top).filter fun i=>decide (M[i]?=some true)).map fun i=>((i:Nat):Int)
theorem Qga{M:T8}{top:Nat}{a:Int}:a∈Z9 M top↔0<=a/\a<top/\M[a.toNat]?=some true:=by
 unfold Z9;simp only[X3,JK,XaW,XO];constructor
 .rintro⟨_,⟨h1,h2⟩,rfl⟩;exact⟨by omega,by omega,by rw[X0];exact h2⟩
 .rintro⟨_,h1,h2⟩;exact⟨a.toNat,⟨by omega,h2⟩,by omega⟩
section
variable{h g:HH}{Q:T7}{M:T8}{n top:Nat}
theorem Bk.cell(ho:BB h)(b:Bk h n top g){a:Int}{c:HC}(hc:AD g.cs a=some c):a<top/\((a∈h.tr.drop n/\∃d,AD h.cs a=some d/\d.k=0/\c=⟨d.k,a,d.s⟩)\/(a∉h.tr.drop n/\AD h.cs a=some c)):=by
 obtain⟨a0,_,a2⟩:=AZ.1 hc;obtain⟨_,_⟩:=b.len;have ht:=b.ht
 have e3:g.cs[a.toNat]?=if((a.toNat:Nat):Int)∈h.tr.drop n then(h.cs[a.toNat]?).map (fun c=>⟨c.k,a.toNat,c.s⟩)else h.cs[a.toNat]?:=by
  rw[<-R5 ho.nn,b.eq];show((D8 _ _).take top)[a.toNat]?=_;rw[JB,XB Ya]
 rw[show((a.toNat:Nat):Int)=a by omega]at e3;refine⟨by omega,?_⟩;by_cases hm:a∈h.tr.drop n
 .rw[XB hm,a2]at e3;obtain⟨d,hd,Ep⟩:=ho.pos (JJ hm);rw[(AZ.1 hd).2.2]at e3;simp only[X7,XU]at e3;exact .inl ⟨hm,d,hd,Ep,e3⟩
 .rw[XA hm,a2]at e3;exact .inr ⟨hm,AZ.2 ⟨a0,by omega,e3.symm⟩⟩
theorem QxK(C:Cx h Q M)(ho:BB h)(b:Bk h n top g)(hg:QS g=true):Cx g (Z9 M top) (M.take top):=by
 obtain⟨_,_⟩:=b.len;have ht:=b.ht;have wX:=C.mks.1
 have key:∀{a:Int},Rc g.cs (Z9 M top) a->M[a.toNat]?=some true:=by
  intro a ha
  induction ha with
  |root h1 h2=>exact(Qga.1 h1).2.2
  | @ref a c h1 hc hk ih=>
   have a0:=(AZ.1 hc).1;rcases(b.cell ho hc).2 with⟨_,d,_,_,rfl⟩|⟨_,hh⟩
   .exact ih
   .have hr:Rc h.cs Q a:=by
     have:=(C.mark ih).2
     rwa [show((a.toNat:Nat):Int)=a by omega]at this
    exact(C.rc (Rc.ref hr hh hk)).2.2
  | @arg a c i h1 hc i0 i1 ih=>
   have a0:=(AZ.1 hc).1;rcases(b.cell ho hc).2 with⟨_,d,_,Ep,rfl⟩|⟨_,hh⟩
   .unfold QU at i1;rw[XA (by dsimp only;omega)]at i1;omega
   .have hr:Rc h.cs Q a:=by
     have:=(C.mark ih).2
     rwa [show((a.toNat:Nat):Int)=a by omega]at this
    exact(C.rc (Rc.arg hr hh i0 i1)).2.2
 refine⟨hg,by rw[VV];omega,fun i hi=> ?_⟩;rw[JB,XB Ya];constructor
 .intro hm;exact .root (Qga.2 ⟨by omega,by omega,by rw[X0];exact hm⟩) (Qq.2 ⟨by omega,by omega⟩)
 .intro hr;have:=key hr
  rwa [X0]at this
theorem QiF{a:Int}(h:a<top):AK (M.take top) a=AK M a:=by
 simp only[AK];rw[Qmg Ya]
theorem Qvm{T:T7}(hT:∀a∈T,0<=a/\a<top):EJ (M.take top) T=EJ M T:=by
 unfold EJ;rw[NK,NK]
 have e:T.filter (Qy (M.take top))=T.filter (Qy M):=Xbl fun a ha=>by
  have:=hT a ha;unfold Qy;rw[JB,XB Ya]
 rw[e];refine List.map_congr_left fun a ha=> ?_;have:=hT a (JK.1 ha).1;exact QiF this.2
theorem Bk.coll(C:Cx h Q M)(ho:BB h)(b:Bk h n top g)(hg:QS g=true):Bk (IE M h) (rk (h.tr.map (Qy M)) n) (rk M top) (IE (M.take top) g):=by
 have S:=QxK C ho b hg;obtain⟨_,_⟩:=b.len;have hn:=b.hn;have ht:=b.ht;have wX:=C.mks.1;have hco:=QiM C ho;have qW:=b.ok
 have hgt:∀a∈g.tr,0<=a/\a<top:=fun a ha=>by
  obtain⟨c,hc,_⟩:=qW.pos ha;have:=AZ.1 hc;omega
 have Hr:g.tr=h.tr.take n:=by rw[b.eq]
 have pY:EJ (M.take top) g.tr=(EJ M h.tr).take (rk (h.tr.map (Qy M)) n):=by rw[Qvm hgt,QsW,Hr]
 have oG:(DK (M.take top) g.cs).length=rk M top:=by
  rw[S.len,VV,JL Ya,Qmg (XF _)]
 have Tj:rk M top<=(DK M h.cs).length:=by rw[C.len];exact Qt7 M Ya
 refine⟨?_,Tj,?_,QiM S qW⟩
 .show _<=(EJ M h.tr).length;unfold EJ;rw[VQ,NK,Qe4];exact((List.take_sublist n h.tr).filter _).length_le
 .show(⟨DK (M.take top) g.cs,EJ (M.take top) g.tr⟩:HH)=_;rw[pY];congr 1;refine J1 fun j=> ?_;rw[JB];by_cases hj:j<rk M top
  .rw[XB hj,R5 hco.nn];have hd:(IE M h).tr.drop (rk (h.tr.map (Qy M)) n)=EJ M (h.tr.drop n):=QsX M h.tr n;rw[hd]
   obtain⟨d,Nl⟩:∃d,(DK (M.take top) g.cs)[j]?=some d:=⟨_,VN Ya⟩
   obtain⟨i,c,hr,hc,rfl,hi⟩:=S.back Nl;obtain⟨r0,r1,r2⟩:=S.rc hr;rw[X0,JB,XB Ya]at r2;rw[Qmg Ya]at hi
   have tC:(j:Int)∈EJ M (h.tr.drop n)↔(i:Int)∈h.tr.drop n:=by
    unfold EJ;rw[NK];simp only[X3,JK];constructor
    .rintro⟨a,⟨ha,hma⟩,e⟩;obtain⟨_,zQ,_⟩:=ho.pos (JJ ha);have a0:=(AZ.1 zQ).1;have:=Qxw (MH.1 hma) r2 (by simp only[AK]at e;omega);rw[show(i:Int)=a by omega];exact ha
    .intro ha;exact⟨i,⟨ha,MH.2 (by rw[X0];exact r2)⟩,by simp only[AK,X0];omega⟩
   have oL:∀d,AD h.cs (i:Int)=some d->(DK M h.cs)[j]?=some (EY M d):=by
    intro d hd;unfold DK;rw[VW,<-hi,QmB r2 (by have:=(AZ.1 hd).2.2;rwa [X0]at this)];rfl
   rw[Nl];rcases(b.cell ho hc).2 with⟨hm,d,hd,Ep,rfl⟩|⟨hm,hh⟩
   .rw[XB (tC.2 hm),show(IE M h).cs[j]?=_ from oL d hd];simp only[X7,XU];unfold EY;rw[XB (by exact Ep),XB Ep];simp only[HC.mk.injEq,WG,VX];rw[QiF Ya];simp only[AK,X0];omega
   .rw[XA (fun e=>hm (tC.1 e)),show(IE M h).cs[j]?=_ from oL c hh];congr 1;unfold EY;by_cases hk:c.k=0
    .rw[XB hk,XB hk];have:=QiP S.gl hc hk;rw[QiF Ya]
    .rw[XA hk,XA hk]
  .rw[XA hj,XX Ya]
end
structure SJ(q F:Nat)(s:SS)(x:XS)(R:Tm->Int->Prop):Prop where
 i:PG q F s x
 g:EK q s.fresh s.B x.h R
 c:DF (GR R x.h) x.ln x.first s.goals
 cs:x.h.cs.length<=300*(x.goals+1)
 ts:x.h.tr.length+400<=400*x.goals
theorem PG.setB{q F:Nat}{s:SS}{x:XS}(h:PG q F s x){N:AC}(hi:DC (s.setB (N++s.B))):PG q F (s.setB (N++s.B)) x:=
 ⟨h.ev,h.fuel,h.f150,h.q8,CQ.up h.ho.nn (Bk.self h.ho) h.ch,hi,h.gd,h.ho,h.csz,h.lsz,h.lnx⟩
theorem QoJ{q F:Nat}{s:SS}{x:XS}{R:Tm->Int->Prop}(M:SJ q F s x R){t t':Tm}{a a':Int}(ht:R t a)(Lx:R t' a')(pW:s.B.length+10100*(mu s+1)<=1000000000)(gt:AL t)(gt':AL t')(qW:(GE t t' s).1=0->Inv (GE t t' s).2):
  MR q F (GE t t' s) (OD a a' x):=by
 have hi:=TN M.i.inv pW gt gt';have sC:=PJ 401 t t' s.B 0 gt.small gt'.small M.i.inv.bok M.i.inv.sm Ya;obtain⟨N,hN⟩:=sC.ext;have uQ:=M.i.fuel;have Tk:=M.i.f150;have vT:=Qnj M.g M.i.gd (by have:=M.ts;omega) ht Lx;unfold GE at qW⊢;unfold OD;simp only at qW⊢;generalize BI 401 t t' s.B 0=r at*;obtain⟨u1,u2,u3⟩:=vT;by_cases hw:400<r.w
 .rw[XB hw,u1 hw,XB (by show(3:Int)≠0;decide)];exact Ycc
 rw[XA hw]at qW⊢
 cases oK:r.ok with
 |false=>
  rw[XA Yf,u2 Ya oK,XA Yaf,XB rfl];rw[hN]at hi⊢;exact Qhb (M.i.setB hi)
 |true=>
  rw[oK]at qW;rw[XB rfl]at qW⊢;obtain⟨h2,m1,m2,m3,m4,_,m6⟩:=u3 Ya oK;rw[m1,XA Yaf,XA (by show¬(true=false);decide)];refine⟨rfl,M.i.ev,fun _=>⟨⟨M.i.ev,M.i.fuel,M.i.f150,M.i.q8,?_,hi,m3,m2.bm.okb,M.i.csz,M.i.lsz,M.i.lnx⟩,⟨R,m2,M.c.mono fun t a h=>⟨h.1,Dr.up m2.bm.okb m6 h.2.1,h.2.2⟩⟩,qW rfl,?_,?_⟩⟩
  .show CQ q s.fresh x.ln r.B h2 s.ch x.ch;rw[hN];exact CQ.up m2.bm.okb.nn m6 M.i.ch
  .show h2.cs.length<=300*(x.goals+1);rw[m4];exact M.cs
  .show h2.tr.length<=400*x.goals;have:=M.ts;omega
theorem Qfc{q f:Nat}{B:AC}{h:HH}{R:Tm->Int->Prop}(H:EK q f B h R){t:Tm}{a:Int}(ht:R t a):(BC h a).k=(Qc B t).k/\((Qc B t).k=2->(BC h a).n=(Qc B t).n):=by
 have da:Qo h.cs a=true:=H.bm.db ht;have ho:BB h:=H.bm.okb;obtain⟨y,c,h1,h2,h3,h4⟩:=ho.view da
 have hc:BC h a=c:=by unfold BC;rw[h1.look,h2];rfl
 rw[hc];rcases H.bm.cases ht with⟨u,v,e1,e2⟩|⟨k,n,s,ar,qF,e1,e2,_⟩
 .have e2:BJ h a= .var v:=e2;have e1:CT B t= .var u:=e1;have hk:=(IU.1 e1).1;rw[h4]at e2;split at e2
  .rename_i h0;rw[hk];exact⟨h0,fun h=>absurd h Yf⟩
  .cases e2
 .have e2:BJ h a= .node k n s qF:=e2;obtain⟨a1,a2,a3,_⟩:=RH (B:=B) e1;rw[h4]at e2;split at e2
  .cases e2
  .cases e2
   refine⟨a1.symm,fun hk=> ?_⟩;rw[a3];unfold GA;rw[XA Ya]
theorem Qxp{R:Tm->Int->Prop}:∀{T:Ts} {x:Int} {m:Nat},Al R T.tms (CI x m)->∀{i:Nat},i<T.length->R (T.at_ i) (x+(i:Nat))
 | .nil,x,m,_,i,hi=>by simp[Ts.length]at hi
 | .cons k n s ar r,x,0,h,i,hi=>by cases h
 | .cons k n s ar r,x,m+1,h,i,hi=>by
  cases h with
  |cons h1 h2=>
   cases i with
   |zero=>rw[show x+((0:Nat):Int)=x by omega];exact h1
   |succ i=>
    have:=Qxp h2 (i:=i) (by simpa[Ts.length]using hi);rw[show x+((i+1:Nat):Int)=x+1+(i:Nat) by omega];exact BS
theorem QgZ{q f:Nat}{B:AC}{h:HH}{R:Tm->Int->Prop}(H:EK q f B h R){t:Tm}{a:Int}(ht:GR R h t a):
  (DX h a).s=t.s/\(DX h a).n.toNat=t.ar.length/\(DX h a).k=t.k/\((DX h a).k=1\/(DX h a).k=3)/\0<=(DX h a).n/\((DX h a).k=1->t.ar.length=0)/\(∀{i:Nat},i<t.ar.length->R (t.ar.at_ i) (a+1+(i:Nat)))/\AD h.cs a=some (DX h a):=by
 obtain⟨hr,⟨c,hc,hk⟩,oN⟩:=ht;have ho:BB h:=H.bm.okb
 have sH:DX h a=c:=by unfold DX;rw[hc];rfl
 rw[sH];have hv:BJ h a= .node c.k (GA c) c.s (CI (a+1) (QU c).toNat):=by rw[KV (M9 hc (by rintro⟨h,_⟩;omega)) hc,XA Ya]
 have hg:=Q4 (H9 ho.gl hc);rcases H.bm.cases hr with⟨u,v,e1,e2⟩|⟨k,n,s,ar,qF,e1,e2,sD⟩
 .have e2:BJ h a= .var v:=e2;rw[hv]at e2;cases e2
 .have e2:BJ h a= .node k n s qF:=e2;rw[hv]at e2;have e1:AX (Qc B t)= .node k n s ar:=e1;rw[LL oN]at e1;unfold AX at e1;rw[XA oN]at e1;injection e1 with p1 p2 p3 p4;injection e2 with q1 q2 q3 q4;rw[<-p4,<-q4]at sD;have sD: @Al Tm Int R t.ar.tms (CI (a+1) (QU c).toNat):=sD;have hl:t.ar.tms.length=(CI (a+1) (QU c).toNat).length:=sD.len;rw[Ts.tms_len,Qph]at hl;refine⟨q3.trans p3.symm,?_,q1.trans p1.symm,hk,?_,fun h1=> ?_,fun{i} hi=>Qxp sD hi,hc⟩
  .rw[hl];unfold QU;split
   .rfl
   .omega
  .omega
  .rw[hl];unfold QU;rw[XA Ya];rfl
theorem QwU{q F:Nat}{s:SS}{x:XS}{R:Tm->Int->Prop}(M:SJ q F s x R){T:Ts}{a:Int}(h0:R (T.at_ 0) a)(h1:R (T.at_ 1) (a+1))(qW:(M7 T s).1=0->Inv (M7 T s).2):MR q F (M7 T s) (SK a x):=by
 obtain⟨a1,a2⟩:=Qfc M.g h0;obtain⟨b1,b2⟩:=Qfc M.g h1;unfold M7 at qW⊢;unfold SK;simp only at qW⊢;rw[a1,b1];by_cases hk:(Qc s.B (T.at_ 0)).k≠2\/(Qc s.B (T.at_ 1)).k≠2
 .rw[XB hk,XB hk];exact Ycc
 rw[XA hk]at qW⊢;rw[XA hk,a2 Ya,b2 Ya];by_cases hl:(Qc s.B (T.at_ 1)).n<=(Qc s.B (T.at_ 0)).n
 .rw[XB hl,XB hl];exact Qhb M.i
 .rw[XA hl]at qW⊢;rw[XA hl];exact⟨rfl,M.i.ev,fun _=>⟨M.i,⟨R,M.g,M.c⟩,qW rfl,M.cs,X9 (WF _ 400) M.ts⟩⟩
theorem QyB{h:HH}(hg:QS h=true)(n:Int)(hl:h.cs.length+1<=65536):BN h [⟨2,n,eS⟩]=(⟨h.cs++[⟨2,n,eS⟩].map (BH h.cs.length),h.tr⟩,h.cs.length,0)/\QS ⟨h.cs++[⟨2,n,eS⟩].map (BH h.cs.length),h.tr⟩=true/\R7 h [⟨2,n,eS⟩] ⟨h.cs++[⟨2,n,eS⟩].map (BH h.cs.length),h.tr⟩:=by
 have hk:D7 [⟨2,n,eS⟩]=true:=by
  unfold D7;simp only[XI,XO,Q2];exact⟨by show 1<=65536;omega,Qoz,trivial⟩
 have hX:=QhC hg hk U5;refine⟨QpO hg hk U5,hX,rfl,?_,fun i hi=> ?_⟩
 .exact Yc3
 .obtain rfl:i=0:=by simpa using hi
  have:=QgP h [⟨2,n,eS⟩] 0 _ rfl;exact⟨_,M9 (c:=⟨2,n,eS⟩) this (by rintro⟨h,_⟩;exact absurd h (by show¬(2:Int)=0;decide))⟩
theorem QyY{q F:Nat}{s:SS}{x:XS}{R:Tm->Int->Prop}(M:SJ q F s x R)(AP:x.h.cs.length+1<=300*(x.goals+1)){T:Ts}{a:Int}(h0:R (T.at_ 0) a)(h1:R (T.at_ 1) (a+1))(h2:R (T.at_ 2) (a+2))(pW:s.B.length+10100*(mu s+1)<=1000000000)(g2:AL (T.at_ 2))(qW:(MY T s).1=0->Inv (MY T s).2):
  MR q F (MY T s) (R6 a x):=by
 obtain⟨a1,a2⟩:=Qfc M.g h0;obtain⟨b1,b2⟩:=Qfc M.g h1;unfold MY at qW⊢;unfold R6;simp only at qW⊢;rw[a1,b1];by_cases hk:(Qc s.B (T.at_ 0)).k≠2\/(Qc s.B (T.at_ 1)).k≠2
 .rw[XB hk,XB hk];exact Ycc
 rw[XA hk]at qW⊢;rw[XA hk,a2 Ya,b2 Ya];by_cases hl:(Qc s.B (T.at_ 0)).n+(Qc s.B (T.at_ 1)).n< -1099511627776\/1099511627776<(Qc s.B (T.at_ 0)).n+(Qc s.B (T.at_ 1)).n
 .rw[XB hl,XB hl];exact Ycc
 rw[XA hl]at qW⊢;rw[XA hl];generalize(Qc s.B (T.at_ 0)).n+(Qc s.B (T.at_ 1)).n=n at*;have uQ:=M.i.fuel;have Tk:=M.i.f150;obtain⟨l1,l2,l3⟩:=QyB M.i.gd n Ya;rw[l1];have hG:=M.g.num l3
 have gn:AL ⟨2,n,⟨#[]⟩,.nil⟩:=by
  exact Yq
 have Bh:=Bk.load M.i.ho l3
 have M':SJ q F s (x.setH ⟨x.h.cs++[⟨2,n,eS⟩].map (BH x.h.cs.length),x.h.tr⟩) (fun t a=>R t a\/(t=⟨2,n,⟨#[]⟩,.nil⟩/\a=x.h.cs.length)):=by
  refine⟨⟨M.i.ev,M.i.fuel,M.i.f150,M.i.q8,?_,M.i.inv,l2,hG.bm.okb,M.i.csz,M.i.lsz,M.i.lnx⟩,hG,M.c.mono fun t a h=>⟨.inl h.1,Dr.up hG.bm.okb Bh h.2.1,h.2.2⟩,?_,M.ts⟩
  .have:=CQ.up (X:=[]) (h':=⟨x.h.cs++[⟨2,n,eS⟩].map (BH x.h.cs.length),x.h.tr⟩) (show∀a∈x.h.tr,0<=a from M.i.ho.nn) Bh M.i.ch
   rwa [WX]at this
  .show(x.h.cs++_).length<=300*(x.goals+1);simp;omega
 exact QoJ M' (.inl h2) (.inr ⟨rfl,rfl⟩) pW g2 gn qW
theorem Qvt{q F:Nat}{s:SS}{x:XS}{R:Tm->Int->Prop}(M:SJ q F s x R)(AP:x.h.cs.length+1<=300*(x.goals+1)){g:Gl}{l:XL}(hg:GR R x.h g.1 l.g)(qI:l.o=g.2)(rK:AL g.1)(hb:Q1 g.1.s.toList g.1.ar.length=true)(pW:s.B.length+10100*(mu s+1)<=1000000000)(qW:(I5 g s).1=0->Inv (I5 g s).2):
  MR q F (I5 g s) (OV l x):=by
 obtain⟨c1,c2,_,_,_,c6,c7,_⟩:=QgZ M.g hg;have hd:=GJ _ rK;have aCh:=M.i.ch.len;unfold I5 at qW⊢;unfold OV;rw[c1];unfold Q1 at hb;have Cm:=hb;by_cases h1:g.1.s.toList=[33]
 .rw [XB h1] at qW ⊢;rw [XB h1];have Et:=qW rfl;refine ⟨rfl,M.i.ev,fun _=>⟨⟨M.i.ev,M.i.fuel,M.i.f150,M.i.q8,?_,Et.c,M.i.gd,M.i.ho,fun d hd=>M.i.csz d (JJ hd),?_,M.i.lnx⟩,⟨R,M.g,M.c⟩,Et,M.cs,X9 (WF _ 400) M.ts⟩⟩
  .show CQ q s.fresh x.ln s.B x.h (s.ch.drop (s.ch.length-g.2)) (x.ch.drop (x.ch.length-l.o));rw[qI,<-aCh]
   have key:∀(k:Nat) (cs:List Ch) (ds:List XC) (B:AC) (h:HH),BB h->CQ q s.fresh x.ln B h cs ds->CQ q s.fresh x.ln B h (cs.drop k) (ds.drop k):=by
    intro k
    induction k with
    |zero=>intro cs ds B h _ hc;simpa using hc
    |succ k ih=>
     intro cs ds B h ho hc
     cases cs with
     |nil=>
      cases ds with
      |nil=>exact hc
      |cons _ _=>exact hc.elim
     |cons c cs=>
      cases ds with
      |nil=>exact hc.elim
      |cons d ds=>
       obtain⟨_,_,b1,_,b3,_,_,_,b7⟩:=hc;have:=ih cs ds _ _ b3.bm.okb b7;simp only[UG];have e:B=B.take (B.length-c.bound)++CG B c.bound:=(VR _ _).symm;rw[e];exact CQ.up ho.nn b1 this
   exact key _ _ _ _ _ M.i.ho M.i.ch
  .show x.ln.length+5*mu ⟨s.B,s.fresh,s.fuel,s.goals,s.ch.drop (s.ch.length-g.2),s.ev⟩<=30000;have h1:=QiS s.ch (s.ch.length-g.2);have h2:=M.i.lsz;unfold mu at*;exact DM
 rw[XA h1]at qW⊢;rw[XA h1];by_cases h2:g.1.s.toList=[116,114,117,101]
 .rw[XB h2]at qW⊢;rw[XB h2];exact⟨rfl,M.i.ev,fun _=>⟨M.i,⟨R,M.g,M.c⟩,qW rfl,M.cs,X9 (WF _ 400) M.ts⟩⟩
 rw[XA h2]at qW⊢;rw[XA h2];have Ly:∀{i:Nat},i<g.1.ar.length->R (g.1.ar.at_ i) (l.g+1+(i:Nat)):=fun hi=>c7 hi;by_cases h3:g.1.s.toList=[101,113]
 .rw[XB h3]at qW⊢;rw[XB h3];rw[h3]at Cm;have hl:g.1.ar.length=2:=by simpa using Cm
  have r0:=Ly (i:=0) Ya;have r1:=Ly (i:=1) Ya;rw[show l.g+1+((0:Nat):Int)=l.g+1 by omega]at r0;rw[show l.g+1+((1:Nat):Int)=l.g+1+1 by omega]at r1;exact QoJ M r0 r1 pW (hd _ (Ts.at_mem Ya)) (hd _ (Ts.at_mem Ya)) qW
 rw[XA h3]at qW⊢;rw[XA h3];by_cases h4:g.1.s.toList=[108,101,115,115]
 .rw[XB h4]at qW⊢;rw[XB h4];rw[h4]at Cm;have hl:g.1.ar.length=2:=by simpa using Cm
  have r0:=Ly (i:=0) Ya;have r1:=Ly (i:=1) Ya;rw[show l.g+1+((0:Nat):Int)=l.g+1 by omega]at r0;rw[show l.g+1+((1:Nat):Int)=l.g+1+1 by omega]at r1;exact QwU M r0 r1 qW
 rw[XA h4]at qW⊢;rw[XA h4];by_cases h5:g.1.s.toList=[97,100,100]
 .rw[XB h5]at qW⊢;rw[XB h5];rw[h5]at Cm;have hl:g.1.ar.length=3:=by simpa using Cm
  have r0:=Ly (i:=0) Ya;have r1:=Ly (i:=1) Ya;have r2:=Ly (i:=2) Ya;rw[show l.g+1+((0:Nat):Int)=l.g+1 by omega]at r0;rw[show l.g+1+((1:Nat):Int)=l.g+1+1 by omega]at r1;rw[show l.g+1+((2:Nat):Int)=l.g+1+2 by omega]at r2;exact QyY M AP r0 r1 r2 pW (hd _ (Ts.at_mem Ya)) qW
 rw[XA h5]at qW⊢;rw[XA h5];exact Qhb M.i
end Go.Proofs.YthliapbflkfdiacGreatDoor
