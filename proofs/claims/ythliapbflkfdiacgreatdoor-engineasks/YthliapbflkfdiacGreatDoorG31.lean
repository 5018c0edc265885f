/- Steps of the proof. -/
import Derived.Test.YthliapbflkfdiacGreatDoorG30
set_option linter.unusedVariables false
set_option linter.unusedSimpArgs false
set_option maxRecDepth 100000
set_option maxHeartbeats 1000000
namespace Go.Proofs.YthliapbflkfdiacGreatDoor
open Go.Proofs.Tryz
open Go.RowKit
theorem QuJ{X:Type}{g:X->Nat->Option (Tm×Nat)}(hg:∀x m p,g x m=some p->p.2<=m):∀(l:List X) (m:Nat) (p:Ts×Nat),CD g l m=some p->p.2<=m
 |[],m,p,h=>by simp only[CD,XU]at h;subst h;exact XF _
 |x::r,m,p,h=>by
  simp only[CD]at h
  cases h1:g x m with
  |none=>rw[h1]at h;cases h
  |some q=>
   rw[h1]at h;obtain⟨t,l'⟩:=q;dsimp only at h;have e1:=hg x m _ h1
   cases h2:CD g r l' with
   |none=>rw[h2]at h;cases h
   |some z=>
    rw[h2]at h;have e2:=QuJ hg r l' z h2;obtain⟨_,_⟩:=z;simp only[XU]at h;subst h;dsimp only at*;omega
theorem QuK{X:Type}{g g':X->Nat->Option (Tm×Nat)}{n:Nat}(oW:∀x m p,g x m=some p->p.2<=m)(hg:∀x m,m<=n->g x m=g' x m):∀(l:List X) (m:Nat),m<=n->CD g l m=CD g' l m
 |[],m,_=>rfl
 |x::r,m,hm=>by
  simp only[CD];rw[<-hg x m hm]
  cases h1:g x m with
  |none=>rfl
  |some q=>
   have e1:=oW x m _ h1;obtain⟨t,l'⟩:=q;dsimp only at e1⊢;rw[QuK oW hg r l' Ya]
theorem QvL{A:Sy}{σ:A.S}:∀(f:Nat) (x:A.X) (l:Nat) (p:Tm×Nat),CJ A σ f x l=some p->p.2<l
 |0,x,l,p,h=>by cases h
 |f+1,x,l,p,h=>by
  by_cases hl:l=0
  .subst hl;rw[QoX]at h;cases h
  cases hv:A.view σ x with
  |var u=>rw[QiW hl hv]at h;cases h;show l-1<l;omega
  |node k n s ar=>
   rw[Qg9 hl hv]at h
   cases h2:CD (CJ A σ f) ar (l-1)with
   |none=>rw[h2]at h;cases h
   |some z=>
    rw[h2]at h;have:=QuJ (fun x m p hp=>JM (QvL f x m p hp)) ar (l-1) z h2;simp only[X7,XU]at h;subst h;show z.2<l;omega
theorem QrO{A:Sy}{σ:A.S}:∀(f g:Nat) (x:A.X) (l:Nat),l<=f->l<=g->CJ A σ f x l=CJ A σ g x l
 |f,g,x,l,hf,hg=>by
  by_cases hl:l=0
  .subst hl;cases f<;>cases g<;>simp[CJ]
  obtain⟨f,rfl⟩:∃f',f=f'+1:=⟨f-1,by omega⟩
  obtain⟨g,rfl⟩:∃g',g=g'+1:=⟨g-1,by omega⟩
  cases hv:A.view σ x with
  |var u=>rw[QiW hl hv,QiW hl hv]
  |node k n s ar=>
   rw[Qg9 hl hv,Qg9 hl hv,QuK (n:=l-1) (fun x m p hp=>JM (QvL f x m p hp)) (fun y m hm=>QrO f g y m Ya Ya) ar (l-1) (XF _)]
 termination_by f=>f
theorem Qwo{h:HH}(hg:QS h=true)(ho:BB h){a:Int}(ha:Qo h.cs a=true){l:Nat}(hl:l<=200):D4 h a (l:Nat)=match MX h 201 a l with
  |none=>(PF,0,3)
  |some p=>(p.1,l-p.2,0):=by
 unfold D4;rw[XA YT,XA (by rw[ha];decide)]
 have e:OW (l:Nat)=l:=by unfold OW;omega
 rw[e,Qxr ho l a l ha,show MX h l a l=MX h 201 a l from QrO (A:=D6) l 201 a l (XF _) Ya];cases MX h 201 a l<;>rfl
theorem QkT{q f:Nat}{B:AC}{h:HH}{R:Tm->Int->Prop}(H:EK q f B h R)(hB:∀x∈B,AL x.2)(hg:QS h=true)(hq:q<=8):∀(m v l:Nat),v+m<=q->l<=200->
  S3 (fun(p:Ts×Nat) (r:Ts×Int)=>(p.2:Int)=r.2/\DB (Bm.rho D3 D6 R B h) p.1 r.1) (EC B m v l) (FK h m v (l:Nat))
 |0,v,l,_,_=>⟨rfl,.nil⟩
 | m + 1, v, l, hv, hl => by
  have hr:=H.qv v Ya;have da:Qo h.cs (v:Nat)=true:=H.bm.db hr;simp only[EC,FK];rw[QvM hB 201 _ l (Qyf Ya),Qwo hg H.bm.okb da hl];have h1:S3 (TmR (Bm.rho D3 D6 R B h)) (CJ D3 B 201 ⟨0,(v:Nat),⟨#[]⟩,.nil⟩ l) (MX h 201 (v:Nat) l):=Qqg H.bm (fun{x k n s ar} hx _=>(RH (B:=B) hx).2.1) 201 ⟨0,(v:Nat),⟨#[]⟩,.nil⟩ ((v:Nat):Int) l hr
  cases e1:CJ D3 B 201 ⟨0,(v:Nat),⟨#[]⟩,.nil⟩ l with
  |none=>
   cases e2:MX h 201 (v:Nat) l with
   |none=>dsimp only;rw[XB (by show(3:Int)≠0;decide)];trivial
   |some p=>rw[e1,e2]at h1;exact h1.elim
  |some p=>
   cases e2:MX h 201 (v:Nat) l with
   |none=>rw[e1,e2]at h1;exact h1.elim
   |some r=>
    rw[e1,e2]at h1;have pU:=QvL (A:=D6) 201 ((v:Nat):Int) l r e2;obtain⟨_,p2⟩:=p;obtain⟨r1,r2⟩:=r;obtain⟨rfl,h3⟩:p2=r2/\_:=h1;dsimp only at pU⊢;have h4:=QkT H hB hg hq m (v+1) p2 Ya Ya;rw[XA Yaf,show((l:Nat):Int)-((l-p2:Nat):Int)=(p2:Nat) by omega]
    cases e3:EC B m (v+1) p2 with
    |none=>
     cases e4:FK h m (v+1) (p2:Nat)with
     |none=>trivial
     |some q=>rw[e3,e4]at h4;exact h4.elim
    |some p'=>
     cases e4:FK h m (v+1) (p2:Nat)with
     |none=>rw[e3,e4]at h4;exact h4.elim
     |some q'=>
      exact YcM
theorem Qs8{q F:Nat}{s:SS}{x:XS}(H:FV q F s x):MR q F (MW q s) (N7 q x):=by
 obtain⟨R,hG,_⟩:=H.cur;have hv:=QkT hG H.i.inv.gb H.i.gd H.i.q8 q 0 200 Ya Ya;unfold MW N7;rw[show((200:Nat):Int)=200 from rfl]at hv
 cases e1:EC s.B q 0 200 with
 |none=>
  cases e2:FK x.h q 0 200 with
  |some y=>rw[e1,e2]at hv;exact hv.elim
  |none=>exact⟨rfl,H.i.ev,fun h=>by cases h⟩
 |some y=>
  cases e2:FK x.h q 0 200 with
  |none=>rw[e1,e2]at hv;exact hv.elim
  |some z=>
   obtain⟨T,l⟩:=y;obtain⟨U,_⟩:=z;rw[e1,e2]at hv;have ht:U.tidy=T.tidy:=(QqC (fun u v u' v' a b=>hG.bm.inj a b) hv.2 [] [] .nil).1.symm;dsimp only
   have pX:(x.tell U).ev=s.ev++[T.tidy]:=by show x.ev++[U.tidy]=_;rw[ht,H.i.ev]
   have oG:x.ev.length+1=(s.ev++[T.tidy]).length:=by rw[H.i.ev];simp
   rw[oG];by_cases uB:(s.ev++[T.tidy]).length=12
   .rw[XB uB,XB uB];exact⟨rfl,pX,fun h=>by cases h⟩
   .rw[XA uB,XA uB];exact Qhb ⟨pX,H.i.fuel,H.i.f150,H.i.q8,H.i.ch,⟨H.i.inv.bok,H.i.inv.gb,H.i.inv.ch,H.i.inv.fr,H.i.inv.bl⟩,H.i.gd,H.i.ho,H.i.csz,H.i.lsz,H.i.lnx⟩
theorem QyL{q f:Nat}{B:AC}{h:HH}{R:Tm->Int->Prop}(H:EK q f B h R){t:Tm}{a:Int}(ht:GR R h t a)(P:List Cl)(hP:∀c∈P,cB c=true):P.filter (fun c=>decide (MO c=DX h a))=P.filter (FC t):=by
 obtain⟨c1,c2,_,c4,_,c6,_,c8⟩:=QgZ H ht;have sH:=Q4 (H9 H.bm.okb.gl c8);refine Xbl fun c hc=> ?_;obtain⟨_,_,_,_,h4⟩:=PN (hP c hc);simp only[gB,G6,XI,Xal,XO]at h4;obtain⟨hn,_,_⟩:=P9 h4.1.2;unfold FC;rw[<-c1,<-c2];generalize DX h a=g at*;obtain⟨gk,gn,gs⟩:=g;dsimp only at*
 have key:MO c=⟨gk,gn,gs⟩↔c.s=gs/\c.hd.length=gn.toNat:=by
  unfold MO MF;rcases US hn with⟨k0,_⟩|⟨k0,h0,h1,h2⟩|⟨k0,_⟩|⟨k0,h0,h1,h2,h3⟩
  .rcases h4.1.1 with h|h<;>omega
  .rw[XA Ya,XA Ya,XA Ya];simp only[HC.mk.injEq];constructor
   .exact Yen
   .rintro⟨e1,e2⟩;rcases c4 with e|e
    .exact⟨e.symm,by omega,e1⟩
    .omega
  .rcases h4.1.1 with h|h<;>omega
  .rw[XB k0];simp only[HC.mk.injEq];constructor
   .exact Yen
   .rintro⟨e1,e2⟩;rcases c4 with e|e
    .have:=c6 e;omega
    .exact⟨e.symm,by omega,e1⟩
 by_cases hh:MO c=⟨gk,gn,gs⟩
 .obtain⟨e1,e2⟩:=key.1 hh;rw[X1 hh,X1 e1,X1 e2];rfl
 .rw[X4 hh];by_cases e1:c.s=gs
  .rw[X1 e1,X4 fun e2=>hh (key.2 ⟨e1,e2⟩)];rfl
  .rw[X4 e1];rfl
theorem Qxe{q F:Nat}{P:List Cl}{s:SS}{x:XS}{R:Tm->Int->Prop}{g:Gl}{a:Nat}(M:SJ q F s x R)(AP:x.h.cs.length<=300*x.goals)(hP:∀c∈P,cB c=true)(hC:DF (GR R x.h) x.ln (a:Nat) (g::s.goals))
  (Eo:∀c cs,P.filter (FC g.1)=c::cs->DC ⟨s.B,s.fresh,s.fuel,s.goals,⟨g,s.goals,c::cs,s.B.length⟩::s.ch,s.ev⟩/\x.ln.length+5*mu ⟨s.B,s.fresh,s.fuel,s.goals,⟨g,s.goals,c::cs,s.B.length⟩::s.ch,s.ev⟩<=30000):
  MR q F (match P.filter (FC g.1)with
   |[]=>(5,s)
   |c::cs=>Q9 ⟨s.B,s.fresh,s.fuel,s.goals,⟨g,s.goals,c::cs,s.B.length⟩::s.ch,s.ev⟩) (PE P a x):=by
 obtain⟨l,k1,k2,k3,_,k5,_⟩:=hC.first;unfold PE;rw[k2,QyL M.g k3 P hP]
 cases hf:P.filter (FC g.1)with
 |nil=>exact⟨rfl,M.i.ev,fun h=>by cases h⟩
 |cons c cs=>
  obtain⟨p1,p2⟩:=Eo c cs hf;dsimp only
  have Jb:CG s.B s.B.length=s.B:=by unfold CG;rw[Nat.sub_self];rfl
  refine Qqd (cs:=s.ch) (fun n s x h1 h2 h3 h4=>Qpy _ _ n s x h1 h2 h3 h4) (bd:=s.B.length) (cg:=g) (next:=s.goals) (c::cs) _ _ x rfl rfl p1 M.i.ev M.i.fuel M.i.f150 M.i.q8 M.i.gd M.i.csz p2 M.i.lnx (XF _) ?_ ?_ rfl rfl AP M.ts (WN _)
  .dsimp only;rw[Jb];exact M.i.ch
  .dsimp only;rw[Jb];exact⟨R,M.g,hC⟩
structure Sn(L:List XL)(e:Int)(p:T8×T6):Prop where
 len:p.1.length=L.length
 mem:∀k:Nat,p.1[k]?=some true↔k∈p.2
 lt:∀k∈p.2,k<L.length
 clo:∀k∈p.2,(AH L k).nx= -1\/(AH L k).nx.toNat∈p.2\/(AH L k).nx=e
theorem Sn.any{L:List XL}{p:T8×T6}(h:Sn L (-1) p)(e:Int):Sn L e p:=⟨h.len,h.mem,h.lt,fun k hk=>by
 rcases h.clo k hk with h|h|h
 .exact .inl h
 .exact .inr (.inl h)
 .exact .inl h⟩
theorem QmO{L:List XL}(hL:∀(i:Nat) (l:XL),L[i]?=some l->-1<=l.nx/\l.nx<(i:Int)):∀(f:Nat) (i:Int) (p:T8×T6), -1<=i->i<L.length->i<(f:Int)->Sn L i p->
  Sn L (-1) (EH L f i p)/\(∀k∈p.2,k∈(EH L f i p).2)/\(i= -1\/i.toNat∈(EH L f i p).2)
 |0,i,p,h0,h1,hf,hs=>by
  obtain rfl:i= -1:=by omega
  exact⟨hs,fun k hk=>hk,.inl rfl⟩
 | f + 1, i, p, h0, h1, hf, hs => by
  simp only[EH];by_cases hi:i= -1
  .rw[XB hi];subst hi;exact⟨hs,fun k hk=>hk,.inl rfl⟩
  rw[XA hi];by_cases hse:p.1[i.toNat]?=some true
  .rw[XB hse];have hm:=(hs.mem _).1 hse;refine⟨⟨hs.len,hs.mem,hs.lt,fun k hk=> ?_⟩,fun k hk=>hk,.inr hm⟩;rcases hs.clo k hk with h|h|h
   .exact .inl h
   .exact .inr (.inl h)
   .exact .inr (.inl (by rw[h];exact hm))
  rw[XA hse];have Lz:i.toNat<L.length:=by omega
  obtain⟨n0,n1⟩:=hL i.toNat _ (VN Lz);have xL:AH L i.toNat=L[i.toNat]:=UD (VN Lz)
  have uW:Sn L (AH L i.toNat).nx (p.1.set i.toNat true,p.2++[i.toNat]):=by
   refine⟨by simp[hs.len],fun k=> ?_,fun k hk=> ?_,fun k hk=> ?_⟩
   .rw[JI];by_cases e:i.toNat=k
    .subst e;rw[XB rfl,XB (by rw[hs.len];exact Lz)];simp
    .rw[XA e,hs.mem];simp only[VG,VJ];constructor
     .exact .inl
     .rintro(h|h)
      .exact h
      .exact absurd h.symm e
   .rcases VG.1 hk with hk|hk
    .exact hs.lt k hk
    .rw[VJ.1 hk];exact Lz
   .rcases VG.1 hk with hk|hk
    .rcases hs.clo k hk with h|h|h
     .exact .inl h
     .exact .inr (.inl (JO _ h))
     .exact .inr (.inl (by rw[h];exact WW _ (VJ.2 rfl)))
    .rw[VJ.1 hk];exact .inr (.inr rfl)
  obtain⟨a1,a2,_⟩:=QmO hL f (AH L i.toNat).nx _ (by rw[xL];exact n0) (by rw[xL];omega) (by rw[xL];omega) uW;exact⟨a1,fun k hk=>a2 k (JO _ hk),.inr (a2 _ (WW _ (VJ.2 rfl)))⟩
theorem QoP{L:List XL}(hL:∀(i:Nat) (l:XL),L[i]?=some l->-1<=l.nx/\l.nx<(i:Int)):∀(C:List XC) (p:T8×T6),(∀c∈C,c.at_<L.length)->Sn L (-1) p->
  Sn L (-1) (MG L C p)/\(∀k∈p.2,k∈(MG L C p).2)/\∀c∈C,c.at_∈(MG L C p).2
 |[],p,_,hs=>⟨hs,fun k hk=>hk,fun c hc=>by cases hc⟩
 |c::r,p,hC,hs=>by
  have hc:=hC c (X8 ..);obtain⟨a1,a2,a3⟩:=QmO hL (L.length+1) (c.at_:Nat) p Ya Ya Ya (hs.any _);obtain⟨b1,b2,b3⟩:=QoP hL r _ (fun c hc=>hC c (XZ _ hc)) a1;refine⟨b1,fun k hk=>b2 k (a2 k hk),fun d hd=> ?_⟩;rcases XV.1 hd with rfl|hd
  .rcases a3 with h|h
   .omega
   .rw[X0]at h;exact b2 _ h
  .exact b3 d hd
theorem Qjm(f:Nat->Int):∀(I:T6) (L:List XL) (k:Nat),(H4 I (I.map f) L)[k]?=if k∈I then(L[k]?).map (fun l=>⟨f k,l.o,l.nx⟩)else L[k]?
 |[],L,k=>by simp[H4]
 |i::r,L,k=>by
  simp only[VE,H4];rw[Qjm f r (MN L i (f i)) k]
  have e:(MN L i (f i))[k]?=if i=k then(L[k]?).map (fun l=>⟨f i,l.o,l.nx⟩)else L[k]?:=by
   unfold MN;rw[List.getElem?_modify];split<;>simp
  rw[e];by_cases hk:k∈r
  .rw[XB hk,XB (XZ _ hk)];by_cases he:i=k
   .subst he;rw[XB rfl,WR];rfl
   .rw[XA he]
  .rw[XA hk];by_cases he:i=k
   .subst he;rw[XB rfl,XB (X8 ..)]
   .rw[XA he,XA (by rintro h;rcases XV.1 h with h|h;exact he h.symm;exact hk h)]
theorem Qjn(f g:XC->Int):∀C:List XC,Qww C (C.map f) (C.map g)=C.map fun c=>⟨c.at_,c.cls,(f c).toNat,(g c).toNat⟩
 |[]=>rfl
 |c::r=>by simp only[VE,Qww,Qjn f g r]
theorem Sn.start(L:List XL)(e:Int):Sn L e (List.replicate L.length false,[]):=by
 refine⟨by simp,fun k=> ?_,fun k hk=>(by cases hk),fun k hk=>(by cases hk)⟩;constructor
 .intro h;rw[Xbc]at h;split at h<;>cases h
 .intro h;cases h
structure QzP(L:List XL)(I:T6):Prop where
 lt:∀k∈I,k<L.length
 clo:∀k∈I,(AH L k).nx= -1\/(AH L k).nx.toNat∈I
theorem QuW{x:XS}(hL:∀(i:Nat) (l:XL),x.ln[i]?=some l->-1<=l.nx/\l.nx<(i:Int))(h0: -1<=x.first)(h1:x.first<x.ln.length)(hC:∀c∈x.ch,c.at_<x.ln.length):
  QzP x.ln (ET x)/\(x.first= -1\/x.first.toNat∈ET x)/\∀c∈x.ch,c.at_∈ET x:=by
 obtain⟨a1,_,a3⟩:=QmO hL (x.ln.length+1) x.first (List.replicate x.ln.length false,[]) h0 h1 Ya (Sn.start _ _);obtain⟨b1,b2,b3⟩:=QoP hL x.ch.reverse _ (fun c hc=>hC c (JD.1 hc)) a1;refine⟨⟨b1.lt,fun k hk=> ?_⟩,a3.imp id fun h=>b2 _ h,fun c hc=>b3 c (JD.2 hc)⟩;rcases b1.clo k hk with h|h|h
 .exact .inl h
 .exact .inr h
 .exact .inl h
theorem DF.coll{R R':Tm->Int->Prop}{L:List XL}{I:T6}{f:Nat->Int}(hI:QzP L I)(hR:∀k∈I,∀t,R t (AH L k).g->R' t (f k)):∀{i:Int} {G:List Gl},DF R L i G->(i= -1\/i.toNat∈I)->DF R' (H4 I (I.map f) L) i G
 |_,[],hc,_=>hc
 |_,g::r,⟨k,l,h1,h2,h3,h4,h5,h6⟩,hi=>by
  have hk:k∈I:=by
   rcases hi with h|h
   .omega
   .rw[h1,X0]at h;exact h
  have hl:=UD h2;refine⟨k,⟨f k,l.o,l.nx⟩,h1,by rw[Qjm,XB hk,h2];rfl,hR k hk _ (by rw[hl];exact h3),h4,h5,DF.coll hI hR h6 ?_⟩;have:=hI.clo k hk
  rwa [hl]at this
theorem DF.all{R:Tm->Int->Prop}{L:List XL}{I:T6}(hI:QzP L I):∀{i:Int} {G:List Gl},DF R L i G->-1<=i/\i<L.length
 |_,[],hc=>by
  have hc:_=(-1:Int):=hc;subst hc;omega
 |_,g::r,⟨k,l,h1,h2,_⟩=>by
  subst h1
  have:k<L.length:=by
   rcases XY k L.length with h|h
   .exact h
   .rw[XX h]at h2;cases h2
  omega
theorem DF.bd{R:Tm->Int->Prop}{L:List XL}{i:Int}{G:List Gl}(h:DF R L i G): -1<=i/\i<L.length:=h.all (I:=[]) ⟨fun k hk=>(by cases hk),fun k hk=>(by cases hk)⟩
theorem CQ.at_lt{q f:Nat}{L:List XL}:∀{B:AC} {h:HH} {cs:List Ch} {ds:List XC},CQ q f L B h cs ds->∀d∈ds,d.at_<L.length
 |_,_,[],[],_,d,hd=>by cases hd
 |_,_,c::cs,e::ds,⟨R,g,_,_,_,h4,_,_,h6⟩,d,hd=>by
  rcases XV.1 hd with rfl|hd
  .have:=h4.bd;omega
  .exact h6.at_lt d hd
theorem Qt8(M:T8)(n:Nat):rk M n<=n:=by
 unfold rk;exact X9 XaV (by rw[VV];omega)
theorem QqU{M:T8}{q:Nat}:(∀v,v<q->M[v]?=some true)->∀v,v<=q->rk M v=v:=by
 intro h v
 induction v with
 |zero=>intro _;exact Qpx M
 |succ v ih=>
  intro hv;rw[QjG (h v Ya),ih Ya];rfl
section
variable{h:HH}{Q:T7}{M:T8}
theorem CQ.coll{q f:Nat}{L:List XL}{I:T6}{rb:Nat->Nat}(hI:QzP L I)(hq:∀v,v<q->M[v]?=some true):∀{B:AC} {h:HH} {Q:T7} {cs:List Ch} {ds:List XC} {M':T8},Cx h Q M'->BB h->(∀a:Int,0<=a->a<h.cs.length->(M'[a.toNat]?=M[a.toNat]?)/\AK M' a=AK M a)->(∀n,n<=h.cs.length->rk M' n=rk M n)->(∀n,n<=h.tr.length->rk (h.tr.map (Qy M')) n=rb n)->
  (∀k∈I,∀a,a=(AH L k).g->Qo h.cs a=true->M[a.toNat]?=some true)->(∀d∈ds,d.at_∈I)->CQ q f L B h cs ds->
  CQ q f (H4 I (I.map fun k=>AK M (AH L k).g) L) B (IE M' h) cs (ds.map fun d=>⟨d.at_,d.cls,rk M d.cells,rb d.bound⟩)
 |_,_,_,[],[],_,_,_,_,_,_,_,_,_=>trivial
 |B,h,Q,c::cs,d::ds,M',C,ho,hM,Fg,hM5,hg,AD,⟨R,g,b1,b2,b3,b4,b5,b6,b7⟩=>by
  have S:=QxK C ho b1 b2;have bc:=Bk.coll C ho b1 b2;obtain⟨_,_⟩:=b1.len;have ht:=b1.ht;have hn:=b1.hn
  have hM3:∀a:Int,0<=a->a<g.cs.length->((M'.take d.cells)[a.toNat]?=M[a.toNat]?)/\AK (M'.take d.cells) a=AK M a:=fun a a0 a1=>by
   obtain⟨e1,e2⟩:=hM a a0 Ya;rw[JB,XB Ya,QiF Ya];exact⟨e1,e2⟩
  have hM4:∀n,n<=g.cs.length->rk (M'.take d.cells) n=rk M n:=fun n hn=>by rw[Qmg Ya];exact Fg n Ya
  have root:∀a:Int,Qo g.cs a=true->M[a.toNat]?=some true->Rc g.cs (Z9 M' d.cells) a:=fun a ha hm=>by
   obtain⟨a0,a1⟩:=Qq.1 ha;exact .root (Qga.2 ⟨a0,by omega,by rw[(hM a a0 Ya).1];exact hm⟩) ha
  have hg3:=b3.coll S (fun v hv=>by
   have da:Qo g.cs ((v:Nat):Int)=true:=b3.bm.db (b3.qv v hv);obtain⟨a0,a1⟩:=Qq.1 da;refine⟨root _ da (by rw[X0];exact hq v hv),?_⟩;rw[hM4 v Ya]
   exact QqU hq v Ya)
  have Hr:g.tr=h.tr.take d.bound:=by rw[b1.eq]
  have hM6:∀n,n<=g.tr.length->rk (g.tr.map (Qy (M'.take d.cells))) n=rb n:=fun n hn'=>by
   rw[<-hM5 n Ya,Qe4,Qe4];have e2:g.tr.take n=h.tr.take n:=by rw[Hr,XaH,JL Ya]
   rw[e2];congr 1;refine Xbl fun a ha=> ?_;obtain⟨x,hx,_⟩:=b3.bm.okb.pos (a:=a) (by rw[Hr];exact(List.take_sublist_take_left Ya).subset ha);obtain⟨a0,a1,_⟩:=AZ.1 hx;unfold Qy;rw[JB,XB Ya]
  simp only[VE];refine⟨_,IE (M'.take d.cells) g,by rw[<-Fg d.cells Ya,<-hM5 d.bound hn];exact bc,S.kept_good,hg3,?_,b5,b6,?_⟩
  .refine DF.coll hI (fun k hk t ht=> ?_) b4 (.inr (by rw[X0];exact AD d (X8 ..)));have da:Qo g.cs (AH L k).g=true:=b3.bm.db ht.1;obtain⟨a0,a1⟩:=Qq.1 da;have hm:=hg k hk _ rfl (Qq.2 ⟨a0,by omega⟩);have:=GR.coll S (root _ da hm) ht
   rwa [(hM3 _ a0 a1).2]at this
  .have ih:=CQ.coll hI hq (M':=M'.take d.cells) S b3.bm.okb hM3 hM4 hM6 (fun k hk a e ha=>hg k hk a e (by
    obtain⟨a0,a1⟩:=Qq.1 ha
    exact Qq.2 ⟨a0,by omega⟩)) (fun d hd=>AD d (XZ _ hd)) b7
   exact ih
end
theorem Qg4{L:List XL}{P:Int->Prop}{Qk:Nat->Prop}(hP:∀i:Int,i≠-1->P i->Qk i.toNat/\P (AH L i.toNat).nx):∀(f:Nat) (i:Int) (p:T8×T6),P i->(∀k∈p.2,Qk k)->∀k∈(EH L f i p).2,Qk k
 |0,i,p,_,hq=>hq
 |f+1,i,p,hi,hq=>by
  simp only[EH];by_cases h1:i= -1
  .rw[XB h1];exact hq
  rw[XA h1];by_cases h2:p.1[i.toNat]?=some true
  .rw[XB h2];exact hq
  rw[XA h2];obtain⟨a1,a2⟩:=hP i h1 hi;refine Qg4 hP f _ _ a2 fun k hk=> ?_;rcases VG.1 hk with hk|hk
  .exact hq k hk
  .rw[VJ.1 hk];exact a1
theorem QhS{L:List XL}{P:Int->Prop}{Qk:Nat->Prop}(hP:∀i:Int,i≠-1->P i->Qk i.toNat/\P (AH L i.toNat).nx):∀(C:List XC) (p:T8×T6),(∀c∈C,P (c.at_:Nat))->(∀k∈p.2,Qk k)->∀k∈(MG L C p).2,Qk k
 |[],p,_,hq=>hq
 |c::r,p,hC,hq=>QhS hP r _ (fun c hc=>hC c (XZ _ hc)) (Qg4 hP _ _ p (hC c (X8 ..)) hq)
def Pl(L:List XL)(cs:List HC)(i:Int):Prop:=∃(R:Tm->Int->Prop) (G:List Gl),DF R L i G/\∀t a,R t a->Qo cs a=true
theorem Pl.next{L:List XL}{cs:List HC}(i:Int)(hi:i≠-1)(h:Pl L cs i):Qo cs (AH L i.toNat).g=true/\Pl L cs (AH L i.toNat).nx:=by
 obtain⟨R,G,hc,hR⟩:=h
 cases G with
 |nil=>exact absurd hc hi
 |cons g r=>
  obtain⟨k,l,rfl,h2,h3,_,h5,h6⟩:=hc;rw[X0,UD h2];exact⟨hR _ _ h3,R,r,h6,hR⟩
theorem CQ.pl{q f:Nat}{L:List XL}:∀{B:AC} {h:HH} {cs:List Ch} {ds:List XC},CQ q f L B h cs ds->∀d∈ds,Pl L h.cs (d.at_:Nat)
 |_,_,[],[],_,d,hd=>by cases hd
 |_,h,c::cs,e::ds,⟨R,g,b1,_,b3,b4,_,_,b7⟩,d,hd=>by
  have hl:=b1.len.1;have ht:=b1.ht
  have up:∀a,Qo g.cs a=true->Qo h.cs a=true:=fun a ha=>by
   obtain⟨a0,_⟩:=Qq.1 ha;exact Qq.2 ⟨a0,by omega⟩
  rcases XV.1 hd with rfl|hd
  .exact⟨_,_,b4,fun t a ht=>up a (b3.bm.db ht.1)⟩
  .obtain⟨R',G,h1,h2⟩:=b7.pl d hd;exact⟨R',G,h1,fun t a ht=>up a (h2 t a ht)⟩
theorem QnC:∀(I:T6) (V:T7) (L:List XL),(H4 I V L).length=L.length
 |[],V,L=>by cases V<;>rfl
 |i::r,[],L=>rfl
 |i::r,v::V,L=>by simp only[H4];rw[QnC r V];simp[MN]
theorem QrC{q F:Nat}{s:SS}{x:XS}(H:FV q F s x):FV q F s (Qki q x)/\(Qki q x).first=x.first/\(Qki q x).goals=x.goals:=by
 obtain⟨R,hG,hC⟩:=H.cur;have hb:=hC.bd;obtain⟨hI,hf,pJ⟩:=QuW H.i.lnx hb.1 hb.2 H.i.ch.at_lt;have rK:=H.i.gd;have ho:=H.i.ho
 have Ew:∀k∈ET x,Qo x.h.cs (AH x.ln k).g=true:=
  QhS (P:=Pl x.ln x.h.cs) (fun i hi hp=>hp.next i hi) _ _ (fun c hc=>H.i.ch.pl c (JD.1 hc)) (Qg4 (P:=Pl x.ln x.h.cs) (fun i hi hp=>hp.next i hi) _ _ _ ⟨_,_,hC,fun t a ht=>hG.bm.db ht.1⟩ fun k hk=>by cases hk)
 have vR:∀r∈CR q x,Qo x.h.cs r=true:=by
  intro r hr;unfold CR at hr;rcases VG.1 hr with hr|hr
  .exact Ydd
  .exact Yeo
 have C:Cx x.h (CR q x) (QW x.h.cs (CR q x)):=⟨rK,QjV _ _⟩
 have vM:∀r∈CR q x,Rc x.h.cs (CR q x) r:=fun r hr=> .root hr (vR r hr);have hmv:∀v:Nat,v<q->((v:Nat):Int)∈CR q x:=fun v hv=>JO _ (X3.2 ⟨v,XaW.2 hv,rfl⟩);have wX:∀k∈ET x,(AH x.ln k).g∈CR q x:=fun k hk=>WW _ (X3.2 ⟨k,hk,rfl⟩)
 have uG:Qcb x.h (CR q x) (x.ch.reverse.map fun c=>((c.cells:Nat):Int)) (x.ch.reverse.map fun c=>((c.bound:Nat):Int))=(IE (QW x.h.cs (CR q x)) x.h,(CR q x).map (AK (QW x.h.cs (CR q x))),(x.ch.reverse.map fun c=>((c.cells:Nat):Int)).map (AK (QW x.h.cs (CR q x))),(x.ch.reverse.map fun c=>((c.bound:Nat):Int)).map (AK (x.h.tr.map (Qy (QW x.h.cs (CR q x))))),0):=by
  unfold Qcb;rw[XA (by rw[rK];decide),XA (by rw[VK.2 vR];decide)];rfl
 have Tl:∀v,v<q->(QW x.h.cs (CR q x))[v]?=some true:=fun v hv=>by
  have:=(C.rc (vM _ (hmv v hv))).2.2
  rwa [X0]at this
 have hX:Qki q x=⟨IE (QW x.h.cs (CR q x)) x.h,x.goals,H4 (ET x) ((ET x).map fun k=>AK (QW x.h.cs (CR q x)) (AH x.ln k).g) x.ln,x.first,x.ch.map fun d=>⟨d.at_,d.cls,rk (QW x.h.cs (CR q x)) d.cells,rk (x.h.tr.map (Qy (QW x.h.cs (CR q x)))) d.bound⟩,x.ev⟩:=by
  unfold Qki;rw[uG];dsimp only
  have e1:((CR q x).map (AK (QW x.h.cs (CR q x)))).drop q=(ET x).map fun k=>AK (QW x.h.cs (CR q x)) (AH x.ln k).g:=by
   generalize QW x.h.cs (CR q x)=M;unfold CR;rw[VD,VY,VY];rw[Xbm Yd];rfl
  rw[e1,VY,VY,Qjn,<-U9,WU];rfl
 rw[hX];generalize hM:QW x.h.cs (CR q x)=M at*;refine⟨⟨⟨H.i.ev,H.i.fuel,H.i.f150,H.i.q8,?_,H.i.inv,C.kept_good,QiM C ho,?_,?_,?_⟩,⟨QyT M (CR q x) x.h.cs R,?_,?_⟩,H.gs,?_,?_⟩,rfl,rfl⟩
 .exact CQ.coll hI Tl C ho (fun a _ _=>⟨rfl,rfl⟩) (fun n _=>rfl) (fun n _=>rfl) (fun k hk a e _=>by rw[e];exact(C.rc (vM _ (wX k hk))).2.2) pJ H.i.ch
 .intro d hd;obtain⟨c,hc,rfl⟩:=X3.1 hd;obtain⟨c1,c2⟩:=H.i.csz c hc;have r1:=Qt8 M c.cells;have r2:=Qt8 (x.h.tr.map (Qy M)) c.bound;dsimp only;omega
 .dsimp only;rw[QnC];exact H.i.lsz
 .intro i l hl;dsimp only at hl;rw[Qjm]at hl;split at hl
  .cases hq:x.ln[i]? with
   |none=>rw[hq]at hl;cases hl
   |some l'=>
    rw[hq]at hl;simp only[X7,XU]at hl;subst hl;exact H.i.lnx i l' hq
  .exact H.i.lnx i l hl
 .exact hG.coll C fun v hv=>⟨vM _ (hmv v hv),QqU Tl v Ya⟩
 .exact DF.coll hI (fun k hk t ht=>GR.coll C (vM _ (wX k hk)) ht) hC hf
 .have h1:=H.cs
  have h2:(DK M x.h.cs).length<=x.h.cs.length:=by
   rw[C.len,C.mks.1];exact Qt8 M _
  show(DK M x.h.cs).length<=_;dsimp only;omega
 .have h1:=H.ts
  have h2:(EJ M x.h.tr).length<=x.h.tr.length:=by
   unfold EJ;rw[VQ,NK];exact J3 _ _
  show(EJ M x.h.tr).length<=_;dsimp only;omega
theorem QqK{P:List Cl}{q F every:Nat}(hp:pB P=true){s:SS}{x:XS}(H:FV q F s x)(pX:s.ev.length<12):MR q F (BD P q s) (Qby P q F every x):=by
 have sV:P.length<=24/\∀x∈P,cB x=true:=by
  exact R1
 obtain⟨oM,_⟩:=UE (vars:=q) H.gs pX hp;have uQ:=H.i.fuel
 cases hg:s.goals with
 |nil=>
  have Ma:x.first= -1:=by
   obtain⟨R,_,hC⟩:=H.cur;rw[hg]at hC;exact hC
  unfold BD Qby;rw[hg,XB Ma];exact Qs8 H
 |cons g rest=>
  have oN:x.first≠-1:=by
   obtain⟨R,_,hC⟩:=H.cur;rw[hg]at hC;obtain⟨k,l,_,_⟩:=hC;omega
  by_cases Wl:s.fuel=0
  .unfold BD Qby;rw[hg,XA oN,XB (show x.goals=F by omega)];dsimp only;rw[XB Wl];exact⟨rfl,H.i.ev,fun h=>by cases h⟩
  have Mb:FV q F s (QT q every x)/\(QT q every x).first=x.first/\(QT q every x).goals=x.goals:=by
   unfold QT;split
   .exact QrC H
   .exact⟨H,rfl,rfl⟩
  obtain⟨H',Ss,qW⟩:=Mb
  have hstep:Qby P q F every x=if Q1 (DX (QT q every x).h (AH (QT q every x).ln (QT q every x).first.toNat).g).s.toList (DX (QT q every x).h (AH (QT q every x).ln (QT q every x).first.toNat).g).n.toNat=true
    then OV (AH (QT q every x).ln (QT q every x).first.toNat) ⟨(QT q every x).h,(QT q every x).goals+1,(QT q every x).ln,(AH (QT q every x).ln (QT q every x).first.toNat).nx,(QT q every x).ch,(QT q every x).ev⟩
    else PE P (QT q every x).first.toNat ⟨(QT q every x).h,(QT q every x).goals+1,(QT q every x).ln,(AH (QT q every x).ln (QT q every x).first.toNat).nx,(QT q every x).ch,(QT q every x).ev⟩:=by
   unfold Qby;rw[XA oN,XA (show¬x.goals=F by omega)]
  rw[hstep];have aKt:(QT q every x).goals+s.fuel=F:=H'.i.fuel;clear hstep Ss qW oN;generalize QT q every x=y at*;obtain⟨R,hG,hC⟩:=H'.cur;rw[hg]at hC;obtain⟨k,l,hk,h2,h3,h4,h5,h6⟩:=hC
  have hCk:DF (GR R y.h) y.ln (k:Nat) (g::rest):=⟨k,l,rfl,h2,h3,h4,h5,h6⟩
  have xL:=UD h2;rw[hk,X0,xL];obtain⟨c1,c2,_,_,_,c6,_,_⟩:=QgZ hG h3;rw[c1,c2];obtain⟨p1,p2,_,_,_,p6,_⟩:=UQ H.gs hg Wl;have Lu:=H'.i.lsz;have AP:=H'.cs;have Fk:=H'.ts
  have M:SJ q F ⟨s.B,s.fresh,s.fuel-1,rest,s.ch,s.ev⟩ ⟨y.h,y.goals+1,y.ln,l.nx,y.ch,y.ev⟩ R:=by
   refine⟨⟨H'.i.ev,by show y.goals+1+(s.fuel-1)=F;omega,H'.i.f150,H'.i.q8,H'.i.ch,p1,H'.i.gd,H'.i.ho,fun d hd=> ?_,by dsimp only;omega,H'.i.lnx⟩,hG,h6,by dsimp only;omega,by dsimp only;omega⟩;have:=H'.i.csz d hd;dsimp only;omega
  have hS:BD P q s=if Q1 g.1.s.toList g.1.ar.length=true then I5 g ⟨s.B,s.fresh,s.fuel-1,rest,s.ch,s.ev⟩else match P.filter (FC g.1)with
    |[]=>(5,⟨s.B,s.fresh,s.fuel-1,rest,s.ch,s.ev⟩)
    |c::cs=>Q9 ⟨s.B,s.fresh,s.fuel-1,rest,⟨g,rest,c::cs,s.B.length⟩::s.ch,s.ev⟩:=by
   unfold BD;rw[hg];dsimp only;rw[XA Wl];by_cases hb:Q1 g.1.s.toList g.1.ar.length=true
   .rw[XB hb,XB hb]
   .rw[XA hb,XA hb];cases P.filter (FC g.1)<;>rfl
  rw[hS]at oM⊢;by_cases hb:Q1 g.1.s.toList g.1.ar.length=true
  .rw[XB hb]at oM⊢;rw[XB hb];exact Qvt M (by dsimp only;omega) h3 h4 p6 hb p2 fun h=>(oM.go h).1
  .rw[XA hb,XA hb];refine Qxe (s:=⟨s.B,s.fresh,s.fuel-1,rest,s.ch,s.ev⟩) M (by dsimp only;omega) sV.2 hCk fun c cs oS=> ?_;have tC:∀x∈c::cs,x∈P:=fun x hx=>(JK.1 (show x∈P.filter (FC g.1) by rw[oS];exact hx)).1
   obtain⟨i1,_⟩:=QgH H.gs hg Wl (fun x hx=>sV.2 x (tC x hx)) (by
    have:=J3 (FC g.1) P
    rw[oS]at this;omega)
   exact⟨i1,by dsimp only;omega⟩
theorem QtW{P:List Cl}{q F every:Nat}(hp:pB P=true):∀(n:Nat) (s:SS) (x:XS),FV q F s x->s.ev.length<12->Qwy P q F every n x=GL P q n s
 |0,s,x,_,_=>rfl
 |n+1,s,x,H,pX=>by
  obtain⟨h1,h2,h3⟩:=QqK (every:=every) hp H pX;have oK:=(UE (vars:=q) H.gs pX hp).2;simp only[Qwy,GL];rw[<-h1];by_cases h0:(BD P q s).1=0
  .rw[XB h0,XB h0];exact QtW hp n _ _ (h3 h0) (oK h0)
  .rw[XA h0,XA h0,h2]
noncomputable def Qpa (P:List Cl) (q:Ts) (vars fuel every:Int):List Ev×Int:=
 if pB P=false\/qB vars q=false then([],1)
 else if fuel<0\/150<fuel\/every<0 then([],2)
 else(Qwy P vars.toNat fuel.toNat every.toNat 4000 (M5 q vars),0)
theorem Qnv{q:Ts}{v F:Nat}(hq:qB (v:Nat) q=true)(hF:F<=150):FV v F (FU q v F) (M5 q (v:Nat)):=by
 have xC:=hq;simp only[qB,XI,XO]at xC;obtain⟨⟨⟨_,v1⟩,_⟩,_⟩:=xC;obtain⟨l1,l2,l3,_,l5,l6⟩:=Qub hq;obtain⟨hI,_⟩:=QgB hq hF
 have hX:M5 q (v:Nat)=⟨⟨(DE (v:Nat) q).map (BH 0),[]⟩,0,(BU 0 0 (GS (v:Nat) q) (-1) []).1,(BU 0 0 (GS (v:Nat) q) (-1) []).2,[],[]⟩:=by
  unfold M5;rw[l1]
 rw[hX];generalize(DE (v:Nat) q).map (BH 0)=L at*;have Mx:∀t:Tm,G4 L 0 (v:Nat) 0 t=G4 L 0 (v:Nat) 0 t:=fun t=>rfl
 have hB:Bm D3 D6 (fun t a=>False\/G4 L 0 (v:Nat) 0 t a) [] ⟨L,[]⟩:=by
  refine Bm.ext (R:=fun _ _=>False) (h:=⟨[],[]⟩) (m:=0) (base:=0) ⟨trivial,⟨rfl,fun a ha=> ?_,fun a ha=>by cases ha⟩,fun h=>h.elim,fun h=>h.elim,fun h=>h.elim,fun h=>h.elim⟩ l3 (fun a ha=> ?_) (fun t a hn=> ?_) (fun t a u hr=>hr.elim) (fun t a u hr=>hr.elim)
  .exact Yep
  .exact Yep
  .refine⟨?_,?_⟩
   .obtain⟨u,hl,_⟩:=hn;exact hl.addr
   .rcases G4.look (T:=[]) (B:=[]) v1 (Int.le_refl 0) Ya (fun x hx=>by cases hx) hn with⟨i,i0,i1,e1,e2⟩|hh
    .exact .inl ⟨i,i0,e1,e2⟩
    .exact .inr hh
 have Bq:∀t a,(False\/G4 L 0 (v:Nat) 0 t a)->E3 (v:Nat) t:=fun t a hr=>by
  rcases hr with hr|hr
  .exact hr.elim
  .have:=hr.low v1 (Int.le_refl 0) Ya
   rwa [Int.zero_add]at this
 have hqv:∀x:Nat,x<v->G4 L 0 (v:Nat) 0 ⟨0,(x:Nat),⟨#[]⟩,.nil⟩ (x:Nat):=fun x hx=>by
  have hc:=l5 (x:Nat) Ya Ya;refine⟨⟨0,(x:Nat),⟨#[]⟩,.nil⟩,⟨⟨(x:Nat),_,M9 hc Yd,hc,.inl ⟨rfl,by show(0:Int)<=(x:Nat);omega,by show((x:Nat):Int)<(v:Nat);omega,rfl,rfl,rfl,by show((x:Nat):Int)=(x:Nat)+((0:Nat):Int);omega⟩⟩,trivial⟩,?_⟩;unfold Tm.shift;rw[Qhs (n:=((x:Nat):Int)) (m:=0) Ya Ya Ya Ya,Int.add_zero];rfl
 obtain⟨c1,⟨X,c2,c3⟩,_,_⟩:=Qqc (R:=GR (fun t a=>False\/G4 L 0 (v:Nat) 0 t a) ⟨L,[]⟩) (base:=0) (fun t a h hd=>⟨.inr h,hd,h.kind hd⟩) (o:=0) q (GS (v:Nat) q) (-1) [] [] l6 rfl Ya Yd;have Cg:=(QvA (base:=0) (o:=0) (GS (v:Nat) q) (-1) [] Ya Yd (fun i l hl=>by simp at hl)).1;refine⟨⟨rfl,by show 0+F=F;omega,hF,by omega,trivial,hI.c,l2,l3,fun d hd=>(by cases hd),?_,Cg⟩,⟨_,⟨hB,fun x hx=>NH,Bq,fun x hx=> .inr (hqv x hx)⟩,c1⟩,hI,by dsimp only;omega,by dsimp only;simp⟩;dsimp only;rw[c2,WX,c3];omega
theorem QmZ(P:List Cl)(q:Ts)(vars fuel every:Int)(he:0<=every):Qpa P q vars fuel every=CK P q vars fuel:=by
 unfold Qpa CK;by_cases h1:pB P=false\/qB vars q=false
 .rw[XB h1,XB h1]
 rw[XA h1,XA h1];by_cases h2:fuel<0\/150<fuel
 .rw[XB h2,XB Ya]
 rw[XA h2,XA Ya];have hp:pB P=true:=by cases hh:pB P with|true=>rfl|false=>exact absurd (.inl hh) h1
 have hq:qB vars q=true:=by cases hh:qB vars q with|true=>rfl|false=>exact absurd (.inr hh) h1
 have xC:=hq;simp only[qB,XI,XO]at xC;obtain⟨⟨⟨_,_⟩,_⟩,_⟩:=xC
 obtain⟨v,rfl⟩:∃v:Nat,vars=(v:Nat):=⟨vars.toNat,by omega⟩
 obtain⟨f,rfl⟩:∃f:Nat,fuel=(f:Nat):=⟨fuel.toNat,by omega⟩
 simp only[X0];rw[QtW hp 4000 _ _ (Qnv hq Ya) (by simp[FU])]
theorem QiX(P:List Cl)(q:Ts)(vars fuel every:Int)(he:every<0):Qpa P q vars fuel every=if pB P=false\/qB vars q=false then([],1)else([],2):=by
 unfold Qpa;split
 .rfl
 .rw[XB Ya]
section
variable{P:Program}{n:Nat}{e:AW}{w:TG}{ty:TypeId}{pos:String}{after:TE}{dst:TD}{x y:Operand}{t t2:TypeId}
theorem Qjr{vs:T5}{v:TH}{o t:Nat}(hA:KJ P t=some false)(h:vs[o]?=some v)(w:TG):(part t vs.toArray o).run P w= .ok v w:=by
 simp only[part,bind];rw[XN,SM hA];simp[Sem.run,h,pure]
theorem QjC(a b:HC)(w:TG):(Op.equalIn 10000 104 (.agg (AP a).toArray) (.agg (AP b).toArray)).run prog w= .ok (decide (a=b)) w:=by
 rw [run_equalIn_agg w 9999 _ _ _ Yc Yc];have hf:(prog.fieldsOf 104).toList=[⟨ "Kind",3,0,false, "", "",0⟩,⟨ "N",3,1,false, "", "",8⟩,⟨ "S",9,2,false, "", "",16⟩]:=by kernel_rfl
 have p0:=fun(c:HC) w=>Qjr (P:=prog) (vs:=AP c) (v:= .int .i64 c.k) (o:=0) (t:=3) rfl rfl w;have p1:=fun(c:HC) w=>Qjr (P:=prog) (vs:=AP c) (v:= .int .i64 c.n) (o:=1) (t:=3) rfl rfl w;have p2:=fun(c:HC) w=>Qjr (P:=prog) (vs:=AP c) (v:= .string c.s) (o:=2) (t:=9) rfl rfl w;have q0:∀(a b:Int) w,(Op.equalIn 9999 3 (.int .i64 a) (.int .i64 b)).run prog w= .ok (a==b) w:=fun a b w=>run_equalIn_int w 9998 _ _ .i64 _ _ Yc;have q2:∀(a b:TJ) w,(Op.equalIn 9999 9 (.string a) (.string b)).run prog w= .ok (a.toList==b.toList) w:=fun a b w=>run_equalIn_string w 9998 _ _ _ Yc;rw[hf];obtain⟨ak,an,az⟩:=a;obtain⟨bk,bn,bz⟩:=b;simp only[Op.eqFields,Sem.run_bind,p0,p1,p2,q0,q2,XW,Sem.run_ite,Sem.run_pure,HC.mk.injEq];by_cases h0:ak=bk
 .by_cases h1:an=bn
  .by_cases h2:az=bz
   .simp[h0,h1,h2,Sem.run]
   .have Ke:¬az.toList=bz.toList:=fun e=>h2 (TZ.1 e);simp[h0,h1,h2,Ke,Sem.run]
  .simp[h0,h1,Sem.run]
 .simp[h0,Sem.run]
theorem QnF{a b:HC}(hx:ev n e x= .agg (AP a).toArray)(hy:ev n e y= .agg (AP b).toArray):
  (execOp (ev n e) ⟨dst,.binOp .neq 104 x y 104,ty,pos,after,none⟩).run prog w= .ok (.value (.bool (!decide (a=b)))) w:=by
 simp only[execOp,hx,hy,bind,pure];rw[XN,XN,run_eqGuard_agg w _ _ _ _ _ _ Yc];simp only[XW];rw[run_neq_struct,QjC];rfl
end
end Go.Proofs.YthliapbflkfdiacGreatDoor
