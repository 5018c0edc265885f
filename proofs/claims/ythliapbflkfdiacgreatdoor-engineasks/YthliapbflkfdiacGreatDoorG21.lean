/- Steps of the proof. -/
import Derived.Test.YthliapbflkfdiacGreatDoorG20
set_option linter.unusedVariables false
set_option linter.unusedSimpArgs false
set_option maxRecDepth 100000
set_option maxHeartbeats 1000000
namespace Go.Proofs.YthliapbflkfdiacGreatDoor
open Go.Proofs.Tryz
open Go.RowKit
theorem CN.top{ρ:Int->Int->Prop}{t t':Tm}(h:CN ρ t t'):t.s=t'.s/\t.ar.length=t'.ar.length/\DB ρ t.ar t'.ar:=by
 rcases h.cases with⟨_,_,_,h1,h2,h3⟩|⟨_,_,_,h1,h2⟩
 .exact⟨h1,by rw[h2,h3],by rw[h2,h3];exact .nil⟩
 .exact⟨h1,h2.len,h2⟩
theorem DB.at_{ρ:Int->Int->Prop}{T U:Ts}(h:DB ρ T U):∀{i:Nat},i<T.length->CN ρ (T.at_ i) (U.at_ i):=by
 induction h with
 |nil=>intro i hi;simp[Ts.length]at hi
 |var h1 _ ih=>
  intro i hi
  cases i with
  |zero=>exact .var h1 .nil
  |succ i=>exact ih (by simpa[Ts.length]using hi)
 |node h1 h2 _ _ ih=>
  intro i hi
  cases i with
  |zero=>exact .node h1 h2 .nil
  |succ i=>exact ih (by simpa[Ts.length]using hi)
theorem Qok{ρ:Int->Int->Prop}{B e:AC}(h:Bm D3 BX (CN ρ) B e){t t':Tm}(ht:CN ρ t t'):((Qc B t).k=0/\(Qc e t').k=0)\/((Qc B t).k≠0/\(Qc B t).k=(Qc e t').k/\(Qc B t).n=(Qc e t').n):=by
 rcases h.cases ht with⟨u,v,e1,e2⟩|⟨k,n,s,ar,qF,e1,e2,_⟩
 .exact .inl ⟨(IU.1 e1).1,(IU.1 e2).1⟩
 .obtain⟨a1,a2,a3,_⟩:=RH (B:=B) e1;obtain⟨b1,_,b3,_⟩:=RH (B:=e) e2;exact .inr ⟨by rw[a1];exact a2,by rw[a1,b1],by rw[a3,b3]⟩
theorem QuH{g:Tm->Nat->Option (Tm×Nat)}:∀(T:Ts) (l:Nat),FW g T l=CD g T.tms l
 | .nil,l=>rfl
 | .cons k n s a r,l=>by
  simp only[FW,Ts.tms,CD]
  cases g ⟨k,n,s,a⟩ l with
  |none=>rfl
  |some p=>
   obtain⟨t,l'⟩:=p;dsimp only;rw[QuH r]
   all_goals (cases CD g r.tms l'<;>rfl)
theorem QlC{g g':Tm->Nat->Option (Tm×Nat)}:∀(l:List Tm),(∀x∈l,∀m,g x m=g' x m)->∀m,CD g l m=CD g' l m
 |[],_,m=>rfl
 |x::r,h,m=>by
  simp only[CD];rw[h x (X8 ..) m]
  cases g' x m with
  |none=>rfl
  |some p=>
   obtain⟨t,_⟩:=p;dsimp only;rw[QlC r (fun y hy=>h y (XZ _ hy))]
theorem QtF{x:Tm}:∀{T:Ts},x∈T.tms->T.Mem x
 | .nil,h=>by cases h
 | .cons k n s a r,h=>by
  rcases XV.1 h with rfl|h
  .exact NA
  .exact .inr (QtF h)
theorem Qmb{t:Tm}(h:AL t)(hk:t.k=0):t.s=⟨#[]⟩/\t.ar= .nil:=by
 have:=h.1;simp only[Ts.good,XI]at this;have hn:=this.1.1;unfold CL at hn;rw[XB hk]at hn;simp only[XI,XO]at hn;exact⟨TZ.1 (hn.1.2.trans (NX []).symm),Ts.nil_of_length hn.2⟩
theorem QvM{B:AC}(hB:∀x∈B,AL x.2):∀(f:Nat) (t:Tm) (l:Nat),AL t->GP B f t l=CJ D3 B f t l
 |0,t,l,_=>rfl
 |f+1,t,l,ht=>by
  have hl:=LN hB ht;simp only[GP,CJ];split
  .rfl
  .rw[show D3.view B t=AX (Qc B t)from rfl];unfold AX;by_cases hk:(Qc B t).k=0
   .rw[XB hk];obtain⟨h1,h2⟩:=Qmb hl hk;rw[h2,h1,hk];rfl
   .rw[XA hk,QuH];have:=QlC (g:=GP B f) (g':=CJ D3 B f) (Qc B t).ar.tms (fun x hx m=>QvM hB f x m (GJ _ hl x (QtF hx))) (l-1);rw[this];rfl
theorem Qyf{v:Nat}(hv:v<1000):AL ⟨0,(v:Nat),⟨#[]⟩,.nil⟩:=by
 apply Zq.e6.1;exact YbY
theorem Qnf{ρ:Int->Int->Prop}{B e:AC}(h:Bm D3 BX (CN ρ) B e)(hB:∀x∈B,AL x.2):∀(m v l:Nat),v+m<=1000->(∀x:Nat,x<v+m->ρ x x)->S3 (fun p q:Ts×Nat=>p.2=q.2/\DB (Bm.rho D3 BX (CN ρ) B e) p.1 q.1) (EC B m v l) (LG IY e m v l)
 |0,v,l,_,_=>⟨rfl,.nil⟩
 | m + 1, v, l, hv, hq => by
  simp only[EC,LG];rw[QvM hB 201 _ l (Qyf Ya)];have h1:=Qqg h (fun{x k n s ar} hx _=>(RH (B:=B) hx).2.1) 201 ⟨0,(v:Nat),⟨#[]⟩,.nil⟩ ⟨0,(v:Nat),⟨#[]⟩,.nil⟩ l (.var (hq v Ya) .nil)
  cases e1:CJ D3 B 201 ⟨0,(v:Nat),⟨#[]⟩,.nil⟩ l with
  |none=>
   cases e2:CJ BX e 201 ⟨0,(v:Nat),⟨#[]⟩,.nil⟩ l with
   |none=>trivial
   |some p=>rw[e1,e2]at h1;exact h1.elim
  |some p=>
   cases e2:CJ BX e 201 ⟨0,(v:Nat),⟨#[]⟩,.nil⟩ l with
   |none=>rw[e1,e2]at h1;exact h1.elim
   |some r=>
    rw[e1,e2]at h1;obtain⟨_,p2⟩:=p;obtain⟨r1,r2⟩:=r;obtain⟨rfl,h3⟩:p2=r2/\_:=h1;have h4:=Qnf h hB m (v+1) p2 Ya (fun x hx=>hq x Ya);dsimp only
    cases e3:EC B m (v+1) p2 with
    |none=>
     cases e4:LG IY e m (v+1) p2 with
     |none=>trivial
     |some q=>rw[e3,e4]at h4;exact h4.elim
    |some p'=>
     cases e4:LG IY e m (v+1) p2 with
     |none=>rw[e3,e4]at h4;exact h4.elim
     |some q'=>
      exact YcM
section
variable{P:List Cl}{q:Nat}
theorem Qvf(l:List Ts)(T:Ts):FD (l++[T])=FD l++[(1,T)]:=by simp[FD]
theorem QqF{ρ:Int->Int->Prop}{h:Nat->Nat}{s:SS}{e:AC}{p:AO}(hq:q<=8)(hR:Rl ρ h q s [] e p):
  Rs P q (HZ P q s) s.B s.fresh (HY h s.ch (KR q e p).1) p (KR q e p).2/\((KR q e p).2.ended=false->(KR q e p).1= -1):=by
 have hg:s.goals=[]:=by have:=hR.gl;cases hs:s.goals with|nil=>rfl|cons a b=>rw[hs]at this;cases this
 have oM:BD P q s=MW q s:=by unfold BD;rw[hg]
 have hv:=Qnf hR.bm hR.inv.c.gb q 0 200 Ya (fun x hx=>hR.qv x Ya);have xP:=hR.out;unfold KR
 cases e1:EC s.B q 0 200 with
 |none=>
  cases e2:LG IY e q 0 200 with
  |some x=>rw[e1,e2]at hv;exact hv.elim
  |none=>
   refine⟨⟨XF _,XF _,XF _,fun _=> ?_,fun hh=>OI⟩,fun hh=>OI⟩
   have:BD P q s=(4,s):=by rw[oM];unfold MW;rw[e1]
   show HZ P q s (p.out++[(4,.nil)]);rw[xP];exact QgX this Yf
 |some x=>
  cases e2:LG IY e q 0 200 with
  |none=>rw[e1,e2]at hv;exact hv.elim
  |some y=>
   obtain⟨T,l⟩:=x;obtain⟨U,_⟩:=y;rw[e1,e2]at hv;have ht:U.tidy=T.tidy:=(QqC (fun u v u' v' a b=>hR.bm.inj a b) hv.2 [] [] .nil).1.symm;dsimp only;rw[ht]
   have oG:(p.out++[((1:Int),T.tidy)]).length=(s.ev++[T.tidy]).length:=by rw[xP];simp[FD]
   by_cases uB:(s.ev++[T.tidy]).length=12
   .rw[XB (by rw[oG];exact uB)];refine⟨⟨XF _,XF _,XF _,fun _=> ?_,fun hh=>OI⟩,fun hh=>OI⟩
    have:BD P q s=(6,⟨s.B,s.fresh,s.fuel,s.goals,s.ch,s.ev++[T.tidy]⟩):=by
     rw[oM];unfold MW;rw[e1];simp only;rw[XB uB]
    have vQ:=QgX this Yf;show HZ P q s ((p.out++[(1,T.tidy)])++[(6,.nil)]);rw[xP,<-Qvf];exact vQ
   .rw[XA (by rw[oG];exact uB)];have pX:=hR.ev;refine⟨⟨XF _,XF _,XF _,fun hh=> ?_,fun _=>⟨⟨s.B,s.fresh,s.fuel,s.goals,s.ch,s.ev++[T.tidy]⟩,?_,rfl,hR.fuel,?_,?_,⟨[],rfl⟩,XF _,hR.le,fun L hL=>QhF ?_ hL⟩⟩,fun _=>rfl⟩
    .have:p.ended=true:=hh;rw[hR.ne]at this;cases this
    .exact⟨hR.inv.c.bok,hR.inv.c.gb,hR.inv.c.ch,hR.inv.c.fr,hR.inv.c.bl⟩
    .show p.out++[(1,T.tidy)]=_;rw[xP,Qvf]
    .simp only[XG,XJ,XP]at uB⊢;omega
    .rw[oM];unfold MW;rw[e1];simp only;rw[XA uB]
end
structure HC where
 k:Int
 n:Int
 s:TJ
deriving DecidableEq
abbrev eS:TJ:=⟨#[]⟩
structure HH where
 cs:List HC
 tr:T7
def BM(all:Nat)(c:HC)(follow:Nat):Bool:=
 if c.k=0 then decide (0<=c.n)&&(decide (c.n<all)&&decide (c.s=eS))
 else if c.k=1 then decide (c.n=0)&& !decide (c.s=eS)
 else if c.k=2 then decide (c.s=eS)
 else if c.k=3 then decide (1<=c.n)&&(decide (c.n<=4)&&(decide (c.n<=follow)&& !decide (c.s=eS)))
 else false
def Q2(all:Nat):List HC->Bool
 |[]=>true
 |c::r=>BM all c r.length&&Q2 all r
def D7(L:List HC):Bool:=decide (L.length<=65536)&&Q2 L.length L
def AD(L:List HC)(a:Int):Option HC:=if 0<=a then L[a.toNat]? else none
def Qo(L:List HC)(a:Int):Bool:=decide (0<=a)&&decide (a<L.length)
def GG(L:List HC)(a:Int):Bool:=match AD L a with|some c=>decide (c.k=0)|none=>false
def KC(L:List HC)(T:T7):Bool:=decide (T.length<=65536)&&T.all (GG L)
def QS(h:HH):Bool:=D7 h.cs&&KC h.cs h.tr
def BH(base:Nat)(c:HC):HC:=if c.k=0 then⟨c.k,c.n+base,c.s⟩else c
def BN(h:HH)(B:List HC):HH×Nat×Int:=
 if(QS h&&D7 B)=false then(h,0,1)
 else if 65536<h.cs.length+B.length then(h,0,3)
 else(⟨h.cs++B.map (BH h.cs.length),h.tr⟩,h.cs.length,0)
def FG(L:List HC):Nat->Int->Int
 |0,_=> -1
 |f+1,a=>match AD L a with
  |none=> -1
  |some c=>if c.k=0/\c.n≠a then FG L f c.n else a
def Qw(L:List HC)(a:Int):Int:=FG L L.length a
def DD(L:List HC)(i:Nat)(x:Int):List HC:=L.modify i fun c=>⟨c.k,x,c.s⟩
def D8(L:List HC):T7->List HC
 |[]=>L
 |a::r=>D8 (DD L a.toNat a) r
def GF(h:HH)(n:Int):HH×Int:=
 if QS h=false then(h,1)
 else if n<0\/(h.tr.length:Int)<n then(h,2)
 else(⟨D8 h.cs (h.tr.drop n.toNat),h.tr.take n.toNat⟩,0)
def IJ(h:HH)(n:Int):HH×Int:=
 if QS h=false then(h,1)
 else if n<0\/(h.cs.length:Int)<n then(h,2)
 else if QS ⟨h.cs.take n.toNat,h.tr⟩=false then(h,1)
 else(⟨h.cs.take n.toNat,h.tr⟩,0)
structure HU where
 cs:List HC
 tr:T7
 w:Nat
 lg:Bool
def HU.step(u:HU):HU:=⟨u.cs,u.tr,u.w+1,u.lg||decide (400<u.w+1)⟩
def HU.look(u:HU)(a:Int):Int×HU:=
 if u.lg=true then(-1,u)else(Qw u.cs a,⟨u.cs,u.tr,u.w,decide (Qw u.cs a<0)⟩)
def HU.bind(u:HU)(a x:Int):HU:=⟨DD u.cs a.toNat x,u.tr++[a],u.w,u.lg⟩
def GH(L:List HC)(a:Int):Int:=match AD L a with|some c=>c.k|none=> -1
def QU(c:HC):Int:=if c.k=3 then c.n else 0
def EG(L:List HC)(a:Int):Nat:=match AD L a with|some c=>(QU c).toNat|none=>0
def HI(g:Int->HU->Bool×HU):Nat->Int->HU->Bool×HU
 |0,_,u=>(false,u)
 |m+1,x,u=>if(g x u).1=true then g x u else HI g m (x+1) (g x u).2
def B4(a:Int):Nat->Int->HU->Bool×HU
 |0,b,u=>(false,(u.step.look b).2)
 |f+1,b,u=>
  if(u.step.look b).2.lg=true then(false,(u.step.look b).2)
  else if a=(u.step.look b).1 then(true,(u.step.look b).2)
  else HI (B4 a f) (EG u.cs (u.step.look b).1) ((u.step.look b).1+1) (u.step.look b).2
def KN(a b:Int)(u:HU):Bool×HU:=
 if(B4 a 401 b u).1=true\/(B4 a 401 b u).2.lg=true then(false,(B4 a 401 b u).2)else(true,(B4 a 401 b u).2.bind a b)
def FY(g:Int->Int->HU->Bool×HU):Nat->Int->Int->HU->Bool×HU
 |0,_,_,u=>(true,u)
 |m+1,x,y,u=>if(g x y u).1=true then FY g m (x+1) (y+1) (g x y u).2 else g x y u
def MJ(g:Int->Int->HU->Bool×HU)(a b:Int)(u:HU):Bool×HU:=
 if AD u.cs a=AD u.cs b then FY g (EG u.cs a) (a+1) (b+1) u else(false,u)
def CE : Nat -> Int -> Int -> HU -> Bool × HU
 |0,a,b,u=>(false,((u.step.look a).2.look b).2)
 |f+1,a,b,u=>
  if((u.step.look a).2.look b).2.lg=true then(false,((u.step.look a).2.look b).2)
  else if GH u.cs (u.step.look a).1=0 then
   if GH u.cs ((u.step.look a).2.look b).1=0 then
    if(u.step.look a).1=((u.step.look a).2.look b).1 then(true,((u.step.look a).2.look b).2)
    else(true,((u.step.look a).2.look b).2.bind (max (u.step.look a).1 ((u.step.look a).2.look b).1) (min (u.step.look a).1 ((u.step.look a).2.look b).1))
   else KN (u.step.look a).1 ((u.step.look a).2.look b).1 ((u.step.look a).2.look b).2
  else if GH u.cs ((u.step.look a).2.look b).1=0 then KN ((u.step.look a).2.look b).1 (u.step.look a).1 ((u.step.look a).2.look b).2
  else MJ (CE f) (u.step.look a).1 ((u.step.look a).2.look b).1 ((u.step.look a).2.look b).2
def CX(h:HH)(a b:Int):HH×Bool×Int:=
 if QS h=false then(h,false,1)
 else if(Qo h.cs a&&Qo h.cs b)=false then(h,false,4)
 else if(CE 401 a b ⟨h.cs,h.tr,0,false⟩).2.lg=true\/(CE 401 a b ⟨h.cs,h.tr,0,false⟩).1=true/\65536<(CE 401 a b ⟨h.cs,h.tr,0,false⟩).2.tr.length then(h,false,3)
 else if(CE 401 a b ⟨h.cs,h.tr,0,false⟩).1=false then(h,false,0)
 else(⟨(CE 401 a b ⟨h.cs,h.tr,0,false⟩).2.cs,(CE 401 a b ⟨h.cs,h.tr,0,false⟩).2.tr⟩,true,0)
def AP(c:HC):T5:=[.int .i64 c.k,.int .i64 c.n,.string c.s]
def AE:List HC->T5
 |[]=>[]
 |c::r=> .int .i64 c.k:: .int .i64 c.n:: .string c.s::AE r
def Qr(l:T7):T5:=l.map (Value.int .i64)
def CP(l:T8):T5:=l.map Value.bool
theorem GQ:∀L:List HC,(AE L).length=L.length*3
 |[]=>rfl
 |c::r=>by simp only[AE,XJ,GQ r];omega
theorem NS:∀L R:List HC,AE (L++R)=AE L++AE R
 |[],R=>rfl
 |c::r,R=>by simp only[AE,VI,NS r R]
theorem QiN:∀L:List HC,(AE L).all (·.oneCell')=true
 |[]=>rfl
 |c::r=>by simp only[AE,Xae,QiN r];rfl
theorem Qj2(l:T7):(Qr l).length=l.length*1:=by simp[Qr]
theorem QlU(l:T8):(CP l).length=l.length*1:=by simp[CP]
theorem Qoq(l:T7):(Qr l).all (·.oneCell')=true:=by simp[Qr,Value.oneCell']
theorem Qrs:∀(L:List HC) (i:Nat) (x:HC),L[i]?=some x->(AE L)[i*3]?=some (.int .i64 x.k)/\(AE L)[i*3+1]?=some (.int .i64 x.n)/\(AE L)[i*3+2]?=some (.string x.s)
 |[],i,x,h=>by simp at h
 |c::r,0,x,h=>by
  obtain rfl:c=x:=by simpa using h
  exact⟨rfl,rfl,rfl⟩
 |c::r,i+1,x,h=>by
  have h':r[i]?=some x:=by simpa using h
  obtain⟨h0,h1,h2⟩:=Qrs r i x h';rw[show(i+1)*3=i*3+3 by omega];exact⟨by simpa[AE]using h0,by simpa[AE]using h1,by simpa[AE]using h2⟩
def QG(sz:Nat)(xs:T5)(A:T4)(len cap:Nat)(w:TG):Prop:=
 xs.length=len*sz/\len<=cap/\(0<len->∃b o,A=some ⟨b,o,none⟩/\∀j v,xs[j]?=some v->w.cell? ⟨b,o+j,none⟩=some v)
section
variable{sz len cap:Nat}{xs:T5}{A:T4}{w w':TG}
theorem Qvr{a:Addr}{v:TH}(hc:w.cell? a=some v):a.block<w.heap.size:=by
 rcases XY a.block w.heap.size with hl|hg
 .exact hl
 .simp[World.cell?,W4 hg]at hc
theorem Qs1{b o:Nat}{v:TH}(hc:w.cell? ⟨b,o,none⟩=some v)(h:w'.heap[b]?=w.heap[b]?):w'.cell? ⟨b,o,none⟩=some v:=by
 unfold World.cell? at hc⊢;rw[h];exact hc
theorem QG.ext(h:QG sz xs A len cap w)(hx:BK [] w w'):QG sz xs A len cap w':=
 ⟨h.1,h.2.1,fun hl=>by
  obtain⟨b,o,e,hc⟩:=h.2.2 hl
  exact⟨b,o,e,fun j v hj=>Qs1 (hc j v hj) (hx.block b (Qvr (hc j v hj)) Yd)⟩⟩
theorem QG.nil_(A:T4)(c:Nat)(w:TG):QG sz [] A 0 c w:=⟨by simp,J8 _,fun h=>absurd h (S2 _)⟩
theorem QG.some_(h:QG sz xs A len cap w)(hl:0<len):∃b o,A=some ⟨b,o,none⟩:=by
 obtain⟨b,o,e,_⟩:=h.2.2 hl;exact⟨b,o,e⟩
theorem QG.get {b o : Nat} (h : QG sz xs (some ⟨b, o, none⟩) len cap w) {j : Nat} {v : TH} (hj : xs[j]? = some v) : w.cell? ⟨b, o + j, none⟩ = some v := by
 by_cases hl:0<len
 .obtain⟨_,_,e,hc⟩:=h.2.2 hl;simp only[XU,Xay]at e;rw[e.1,e.2.1];exact hc j v hj
 .have:xs=[]:=VL (by
                            rw[h.1];have:len=0:=by omega
                            rw[this];simp)
  subst this;simp at hj
theorem QG.own{b el:Nat}{sp:T5}(ho:w.heap[b]?=some (.cells (xs++sp).toArray el))(hx:xs.length=len*sz)(hc:len<=cap):QG sz xs (some ⟨b,0,none⟩) len cap w:=
 ⟨hx,hc,fun _=>⟨b,0,rfl,fun j v hj=>by
  rw[Qs ho,XQ,VO]
  .exact hj
  .rcases XY j xs.length with h|h
   .exact h
   .rw[XX h]at hj;cases hj⟩⟩
theorem QG.take(h:QG sz xs A len cap w){m c':Nat}(hm:m<=len)(hc:m<=c'):QG sz (xs.take (m*sz)) A m c' w:=by
 refine⟨by rw[VV,h.1];exact JL (V7 _ hm),hc,fun hl=> ?_⟩;obtain⟨b,o,e,hg⟩:=h.2.2 Ya;refine⟨b,o,e,fun j v hj=>hg j v ?_⟩;rw[JB]at hj;split at hj
 .exact hj
 .cases hj
end
section
variable{L:List HC}{cap:Nat}{A:T4}{b o:Nat}{w w':TG}
theorem QG.cell(h:QG 3 (AE L) (some ⟨b,o,none⟩) L.length cap w){i:Nat}{x:HC}(hi:L[i]?=some x):
  w.cell? ⟨b,o+i*3,none⟩=some (.int .i64 x.k)/\w.cell? ⟨b,o+i*3+1,none⟩=some (.int .i64 x.n)/\w.cell? ⟨b,o+i*3+2,none⟩=some (.string x.s):=by
 obtain⟨h0,h1,h2⟩:=Qrs L i x hi;refine⟨h.get h0,?_,?_⟩
 .rw[WE];exact h.get h1
 .rw[WE];exact h.get h2
end
theorem QG.int{l:T7}{cap b o:Nat}{w:TG}(h:QG 1 (Qr l) (some ⟨b,o,none⟩) l.length cap w){i:Nat}{x:Int}(hi:l[i]?=some x):w.cell? ⟨b,o+i*1,none⟩=some (.int .i64 x):=by
 rw[JN];exact h.get (by simp[Qr,hi])
theorem QG.bool{l:T8}{cap b o:Nat}{w:TG}(h:QG 1 (CP l) (some ⟨b,o,none⟩) l.length cap w){i:Nat}{x:Bool}(hi:l[i]?=some x):w.cell? ⟨b,o+i*1,none⟩=some (.bool x):=by
 rw[JN];exact h.get (by simp[CP,hi])
theorem St.flat{M:T6}{w0 w:TG}{H:T0}{F:T3}{sz len cap:Nat}{xs:T5}{A:T4}(h:St [] w0 H F w)(hf:QG sz xs A len cap w0):St [] w0 H (QG sz xs A len cap::F) w:=h.base fun w' hx=>hf.ext hx
abbrev OT(A:T4)(n c:Nat)(B:T4)(m d:Nat):TH:= .agg #[.slice A n c,.slice B m d]
def FR(h:HH)(A:T4)(c:Nat)(B:T4)(d:Nat)(w:TG):Prop:=QG 3 (AE h.cs) A h.cs.length c w/\QG 1 (Qr h.tr) B h.tr.length d w
abbrev hv(h:HH)(A:T4)(c:Nat)(B:T4)(d:Nat):TH:=OT A h.cs.length c B h.tr.length d
theorem FR.ext{h:HH}{A B:T4}{c d:Nat}{w w':TG}(H:FR h A c B d w)(hx:BK [] w w'):FR h A c B d w':=⟨H.1.ext hx,H.2.ext hx⟩
inductive Rw(el sz:Nat):TH->Nat->T5->T0->Prop
 |zero_ {A:T4}:Rw el sz (.slice A 0 0) 0 [] []
 |own_ {b len cap:Nat} {xs sp:T5} (hx:xs.length=len*sz) (hc:(xs++sp).length=cap*sz) (oW:len<=cap) (tJ:0<cap):Rw el sz (.slice (some ⟨b,0,none⟩) len cap) len xs [(b,.cells (xs++sp).toArray el)]
theorem Rw.len_{el sz len:Nat}{v:TH}{xs:T5}{O:T0}(h:Rw el sz v len xs O):xs.length=len*sz:=by
 cases h with
 |zero_=>simp
 |own_ hx _ _ _=>exact hx
theorem Rw.form{el sz len:Nat}{v:TH}{xs:T5}{O:T0}(h:Rw el sz v len xs O):∃A c,v= .slice A len c/\len<=c:=by
 cases h with
 |zero_=>exact⟨_,_,rfl,XF _⟩
 |own_ _ _ oW _=>exact⟨_,_,rfl,oW⟩
theorem Rw.some_{el sz len cap l2:Nat}{A:T4}{xs:T5}{O:T0}(h:Rw el sz (.slice A l2 cap) len xs O)(hl:0<len):∃g sp,A=some ⟨g,0,none⟩/\O=[(g,.cells (xs++sp).toArray el)]/\(xs++sp).length=cap*sz/\len<=cap/\l2=len:=by
 cases h with
 |zero_=>omega
 |own_ hx hc oW tJ=>exact⟨_,_,rfl,rfl,hc,oW,rfl⟩
theorem Rw.flat{el sz len cap:Nat}{A:T4}{xs:T5}{O H:T0}{M:T6}{w0 w:TG}{F:T3}(h:Rw el sz (.slice A len cap) len xs O)(hS:St M w0 (O++H) F w):QG sz xs A len cap w:=by
 cases h with
 |zero_=>exact QG.nil_ _ _ _
 |own_ hx hc oW tJ=>exact QG.own (hS.own (_,_) (.head _)) hx oW
theorem QG.src{P:Program}{sz len cap:Nat}{xs:T5}{A:T4}{w:TG}{t el:TypeId}(h:QG sz xs A len cap w)(hT:QE P t=some el)(h1:xs.all (·.oneCell')=true):Src P sz t (.slice A len cap) len xs w:=by
 by_cases hl:0<len
 .obtain⟨b,o,rfl,hs⟩:=h.2.2 hl;exact ZP w (D9 hT) ⟨b,o,none⟩ _ _ _ h.1 (fun j u hj=>by rw[G7];exact hs j u hj) (fun u hu=>VK.1 h1 u hu)
 .have yL:len=0:=by omega
  subst yL;obtain rfl:xs=[]:=VL (by rw[h.1];simp)
  cases A with
  |none=>exact Src.ofNil w (D9 hT) _
  |some a=>exact ZP w (D9 hT) a _ _ _ Yd (fun j u hj=>by simp at hj) (fun u hu=>by cases hu)
section
variable{P:Program}{n:Nat}{e:AW}{w:TG}{Q:Exit->Act->TG->Prop}{oI:TB}{rest:TC}{ty:TypeId}{pos:String}{after:TE}{d:Nat}
variable{M:T6}{w0:TG}{H H':T0}{F:T3}{b:Nat}{x y:Operand}{v:TH}{t tx:TypeId}{dst:TD}
theorem Qmf{A:T4}{l c el:Nat}{t2:TypeId}(hx:ev n e x= .slice A l c)(hy:ev n e y= .slice none 0 0)(hT:QE P t=some el):
  (execOp (ev n e) ⟨dst,.binOp .eql t x y t2,ty,pos,after,none⟩).run P w= .ok (.value (.bool A.isNone)) w:=by
 have h:=Lib.run_eql_slice_nil w t el A l c 0 0 (D9 hT);simp only[execOp,hx,hy,bind,pure];rw[XN,XN];rw[show(eqGuard .eql t x y (.slice A l c) (.slice none 0 0)).run P w= .ok () w from by cases A<;>simp[eqGuard,Sem.run,pure]];simp only[XW];rw[h];rfl
theorem QfR{A:T4}{len cap el sz:Nat}{i:Int}{j:Int}{z:Operand}(hx:ev n e x= .slice A len cap)(hy:ev n e y= .int .i64 i)(hz:ev n e z= .int .i64 j)(hT:QE P t=some el)(hs:EW P el=some sz)(hi:i=(len:Nat))(hj:j=(len:Nat))(hl:len<=cap):
  (execOp (ev n e) ⟨dst,.slice t x none (some y) (some z),ty,pos,after,none⟩).run P w= .ok (.value (.slice A len len)) w:=by
 subst hi hj;have h2:=VC (D9 hT) w;have h3:=KH (w:=w) hs;simp only[execOp,Instr.sliceAt,Instr.slice,hx,hy,hz,X7,J5,bind,pure,Sem.bind];rw[XN,XN,h2];simp only[XW];rw[XN,h2];simp only[XW,Instr.sliceBounds,Xa8,X5,bind,pure,Sem.bind];rw[XN,XN,R4 rfl Ya Ya];simp only[XW];rw[XN,R4 rfl Ya Ya];simp only[XW];rw[show∀(l:Nat),Sem.run P (Sem.pure (0,l,l)) w= .ok (0,l,l) w from fun _=>rfl];simp only[XW];rw[XN,h3];simp[Sem.run,Addr.add]
theorem QkJ{el sz bts k:Nat}{A:T4}{ki:IntKind}(hS:St M w0 H F w)(hx:ev n e x= .slice A 0 0)(hy:ev n e y= .int .i64 (k:Nat))(hT:QE P t=some el)(sO:P.underlying tx=some (.int ki))(hi:LV P el=some (sz,bts))(Dc:0<sz)(hk:0<k)
  (pZ:2*k*bts<=281474976710656) (qU:k<=4611686018427387904) (hd:Nat.blt d n=true)
  (h:∀(b cap:Nat) (zs:T5) w',k<=cap->zs.length=cap*sz->St M w0 ((b,.cells zs.toArray el)::H) F w'->AU P Q oI rest n ((d,.slice (some ⟨b,0,none⟩) k cap)::e) w'):
  AU P Q oI (⟨some d,.call ⟨.builtin .append, #[x,y], #[t,tx]⟩,ty,pos,after,none⟩::rest) n e w:=by
 obtain⟨i,z,h2,h3,h4,rfl,rfl⟩:=K6 hi;have hn:=Xap (show 0<0+k by omega)
 have rJ:0+k<=grownCap w (0+k) 0 el:=by unfold grownCap Question.cut;exact WF _ _
 have xM:¬(281474976710656<Builtin.nextslicecap k 0*i.bytes):=by
  have:=X9 (V7 i.bytes hn) (by rw[XQ];exact pZ);rw[XQ]at this;omega
 have Wa:¬((281474976710656:Int)<(k:Int)*(i.bytes:Int)):=by
  have:k*i.bytes<=2*k*i.bytes:=V7 _ Ya;have h5:((k*i.bytes:Nat):Int)<=281474976710656:=by omega
  rw[XaM]at h5;omega
 have hw:IntKind.i64.wrap (k:Int)=k:=N8 Ya Ya;have Gm:¬(9223372036854775807<(k:Int)):=by omega
 have rU:¬k=0:=by omega
 have hr:∃zs:T5,zs.length=grownCap w (0+k) 0 el*i.size/\(Builtin.append_ #[t,tx] ty #[.slice A 0 0,.int .i64 (k:Nat)]).run P w= .ok (.slice (some ⟨w.heap.size,0,none⟩) k (grownCap w (0+k) 0 el)) (w.drew.alloc (.cells zs.toArray el)):=by
  have hf:∀w,(Builtin.firstCells i.size 0 (.slice A 0 0)).run P w= .ok #[] w:=fun w=>by cases A<;>simp[Builtin.firstCells,Sem.run,pure,loadCells,loadCellsFrom]
  have vB:¬((k:Int)<0):=by omega
  have sY:¬(k<=0):=by omega
  rw[XQ]at rJ⊢;have Wb:∀w,(asInt (.int .i64 (k:Nat))).run P w= .ok (k:Int) w:=fun w=>rfl;have qG:¬i.size=0:=by omega
  refine⟨(Builtin.zeroCells z.cells k++Builtin.zeroCells z.cells (grownCap w k 0 el-k)).toList,?_,?_⟩
  .simp only[ZD,Array.size_append,Builtin.zeroCells,Array.size_map,Array.size_range,h4];rw[<-VM];exact LI
  .simp[Builtin.append_,VC (D9 hT),VC sO,sizeOf,typeInfo,zeroValue,h2,h3,hw,Wb,vB,Wa,sY,Gm,xM,Question.forced,hf,newRow,grownCap,rU,qG];rw[XA (by intro h0;rcases Nat.mul_eq_zero.1 h0 with h|h<;>omega)];congr 3;apply Array.ext';simp
 obtain⟨zs,wO,hr⟩:=hr;refine Qa (v:= .slice (some ⟨w.heap.size,0,none⟩) k (grownCap w (0+k) 0 el)) (w':=w.drew.alloc (.cells zs.toArray el)) ?_ hd (h _ _ zs _ Ya wO (hS.drew.alloc _));exact YaM
theorem RI{el len k:Nat}{q:TH}{ys xs:T5}{O:T0}{i:TypeInfo}{z:TH}(hS:St M w0 H F w)(hx:ev n e x=v)(hy:ev n e y=q)
  (hT:QE P t=some el) (sO:QE P tx=some el) (hi:P.info? el=some i) (hz:i.zero=some z) (wO:z.cells.size=i.size) (sP:ys.length=k*i.size) (tK:Src P i.size tx q k ys w) (oE:Rw el i.size v len xs O) (hP:H.Perm (O++H')) (pZ:2*(len+k)*i.bytes<=281474976710656) (qU:len+k<=4611686018427387904) (hd:Nat.blt d n=true)
  (h:∀v' O' w',Rw el i.size v' (len+k) (xs++ys) O'->St M w0 (O'++H') F w'->AU P Q oI rest n ((d,v')::e) w'):
  AU P Q oI (⟨some d,.call ⟨.builtin .append, #[x,y], #[t,tx]⟩,ty,pos,after,none⟩::rest) n e w:=by
 have hS:=hS.perm hP;have oG:=oE.len_
 have Jl:∀r w2,(Builtin.append_ #[t,tx] ty #[v,q]).run P w= .ok r w2->(execOp (ev n e) ⟨some d,.call ⟨.builtin .append, #[x,y], #[t,tx]⟩,ty,pos,after,none⟩).run P w= .ok (.value r) w2:=by
  exact YdT
 have grow:∀(A:T4) (cap:Nat),v= .slice A len cap->cap<len+k->(Builtin.firstCells i.size len (.slice A len cap)).run P w.drew= .ok xs.toArray w.drew->AU P Q oI (⟨some d,.call ⟨.builtin .append, #[x,y], #[t,tx]⟩,ty,pos,after,none⟩::rest) n e w:=by
  intro A cap hv pQ hold;have hn:=Xap pQ;have hr:=XaF (P:=P) w t tx ty el i z (D9 hT) hi hz A len cap xs hold (q) k ys tK pQ Ya (X9 (V7 _ hn) pZ);rw[<-hv]at hr;apply Zq.fI.1
  have rJ:len+k<=grownCap w (len+k) cap el:=by unfold grownCap Question.cut;exact WF _ _
  generalize grownCap w (len+k) cap el=nc at rJ;have zK:(Builtin.zeroCells z.cells (nc-(len+k)))=(Builtin.zeroCells z.cells (nc-(len+k))).toList.toArray:=by simp
  have tR:(Builtin.zeroCells z.cells (nc-(len+k))).toList.length=(nc-(len+k))*i.size:=by simp[Builtin.zeroCells,wO]
  generalize(Builtin.zeroCells z.cells (nc-(len+k))).toList=zl at zK tR;rw[zK]
  have uJ:=(hS.drew.alloc (.cells ((xs++ys)++zl).toArray el))
  rw[show(xs++ys).toArray++zl.toArray=((xs++ys)++zl).toArray by simp];refine h _ [(w.heap.size,.cells ((xs++ys)++zl).toArray el)] _ (Rw.own_ ?_ ?_ rJ Ya) ?_
  .rw[XG,oG,sP,VM]
  .exact YcK
  .exact Yb3
 cases oE with
 |zero_=>
  rename_i A0;by_cases rU:k=0
  .subst rU;have Db:ys=[]:=VL (by simpa using sP);subst Db
   have hr:(Builtin.append_ #[t,tx] ty #[.slice A0 0 0,q]).run P w= .ok (.slice A0 0 0) w:=by
    have hu:=VC (D9 hT) w;have pT:=VC (D9 sO) w;have qG:=tK.len;have rN:=tK.cells;have xK:(Builtin.lenOf (.slice A0 0 0)).run P w= .ok 0 w:=rfl;cases A0<;>simp[Builtin.append_,hu,pT,sizeOf,typeInfo,hi,xK,qG,rN,storeCells]
   refine Qa (Jl _ _ hr) hd (h _ [] _ Rw.zero_ hS)
  .exact grow A0 0 rfl Ya (by cases A0<;>simp[Builtin.firstCells,Sem.run,pure,loadCells,loadCellsFrom])
 |own_ rR sX oW tJ=>
  rename_i bl cap sp;have rA:w.heap[bl]?=some (.cells (xs++sp).toArray el):=hS.own (bl,_) Yd;by_cases qR:len+k<=cap
  .have oS:(xs++sp).length=cap*i.size:=sX
   have uK:len*i.size+ys.length<=(xs++sp).length:=by rw[oS,sP,<-VM];exact V7 _ qR
   have hr:=XaG (P:=P) w t tx ty el i (D9 hT) hi bl 0 len cap (q) k ys tK qR
    (fun j hj=>by rw[Qs rA,XQ];simp only[Xaq];exact⟨_,VN Ya⟩) (fun j hj=>by simp[World.frozen?,rA])
   obtain⟨qG,rN⟩:=ZL ys (0+len*i.size) (xs++sp) w rA Ya;apply Zq.fI.1
   have hu:I7 ([(bl,Obj.cells (xs++sp).toArray el)]++H') bl (.cells (xs++sp).toArray el) (.cells ((xs++sp).take (0+len*i.size)++ys++(xs++sp).drop (0+len*i.size+ys.length)).toArray el)
     ((bl,.cells ((xs++sp).take (0+len*i.size)++ys++(xs++sp).drop (0+len*i.size+ys.length)).toArray el)::H'):= .head
   have h3:=hS.turn hu rN qG
   have e1:(xs++sp).take (0+len*i.size)=xs:=by rw[XQ,<-rR];simp
   have e2:(xs++sp).drop (0+len*i.size+ys.length)=sp.drop ys.length:=by
    rw[XQ,<-rR];simp[W6]
   rw[e1,e2]at h3;refine h _ _ _ (Rw.own_ (b:=bl) (sp:=sp.drop ys.length) ?_ ?_ qR tJ) h3
   .rw[XG,rR,sP,VM]
   .exact Ycs
  .refine grow _ cap rfl Ya ?_;have:=W7 (P:=P) w.drew i.size len ⟨bl,0,none⟩ len cap xs rR (fun j u hj=> ?_)
   .exact BS
   .have tX:j<xs.length:=by
     rcases XY j xs.length with hl|hl
     .exact hl
     .rw[XX hl]at hj;cases hj
    exact YcF
theorem Qfb{el sz:Nat}(hS:St M w0 H F w)(hT:QE P t=some el)(hs:EW P el=some sz)(hd:Nat.blt d n=true)
  (hk:∀b w',St M w0 ((b,.cells [].toArray el)::H) F w'->AU P Q oI rest n ((d,.slice (some ⟨b,0,none⟩) 0 0)::e) w'):
  AU P Q oI (⟨some d,.buildSlice t 0 #[],ty,pos,after,none⟩::rest) n e w:=by
 refine Qa (v:= .slice (some ⟨w.heap.size,0,none⟩) 0 0) (w':=w.alloc (.cells [].toArray el)) ?_ hd (hk _ _ (hS.alloc _));have h1:=VC (D9 hT) w;have h2:=KH (w:=w) hs;simp only[execOp,Instr.buildSlice,bind,pure,Array.map_empty];rw[XN,XN,h1];simp only[XW];rw[XN,h2];have Wc:∀g:Nat->TH,Array.map g (Array.range 0)= #[]:=fun g=>by simp
 simp only[XW,Nat.zero_mul,XA (show¬(0:Nat)>2^24 by omega),X5,Wc];rfl
theorem Qej{el:TypeId}{A:T4}{l c:Nat}{ts:Array TypeId}(hx:ev n e x= .slice A l c)(ht:ts[0]?=some t)(hT:QE P t=some el):
  (execOp (ev n e) ⟨dst,.call ⟨.builtin .cap, #[x],ts⟩,ty,pos,after,none⟩).run P w= .ok (.value (.int .i64 c)) w:=by
 have h1:=VC (D9 hT) w;simp only[execOp,resolve,VZ,VE,JA,hx,bind,pure,Sem.bind,invoke,builtin,Builtin.cap_,ht,W5,Xa1]
 first
  |rfl
  |(rw[XN,XN,h1];rfl)
end
theorem Qd8{P:Program}{n:Nat}{e:AW}{w:TG}{M:T6}{w0:TG}{H:T0}{F:T3}{b:Nat}{t:TypeId}{f:FuncId}{R:Ending->TG->Prop}{k:List Item}{fn:Func}{a u sz:Nat}{o:Nat}{cs vs:T5}{ct:TypeId}{v2:TH}(hS:St M w0 H F w)(hf:P.funcs[f]?=some fn)(hr:fn.results= #[.cell a t,.tmp u])(hv:ev n e (.tmp a)= .pointer (some ⟨b,o,none⟩))
  (h2:ev n e (.tmp u)=v2) (hA:KJ P t=some true) (hs:EW P t=some sz) (hb:At H b (.cells cs.toArray ct)) (hc:HK cs o sz vs) (hR:R (.returned (.tuple #[.agg vs.toArray,v2])) w):AG P f R (.code .ret::k) (AF n e) w:=by
 unfold AG;intro fr _ wP hk;refine⟨.returned (.tuple #[.agg vs.toArray,v2]),w,{ fr.at (AF n e) (.code .ret::k)with mode:= .returning },hR,W2 step_ret,wP,rfl,rfl,hk,fn,?_,?_⟩
 .exact Yb1
 .show(results fn (DG n e)).run P w=_;have h1:=SM (w:=w) hA;have h4:=KH (w:=w) hs
  have h5:=Xai (P:=P) (w:=w) ⟨b,o,none⟩ vs (fun j v hj=>by
   rw[G7,Qs (hS.at_ hb)]
   have Ca:j<sz:=by
    rcases XY j sz with h|h
    .exact h
    .rw[XX YaD]at hj;cases hj
   rw[hc.get j Ca];exact hj)
  rw[hc.length]at h5
  have rW:(DG n e).getD a undef= .pointer (some ⟨b,o,none⟩):=by rw[I3];exact hv
  have zT:(DG n e).getD u undef=v2:=by rw[I3];exact h2
  simp only[ZA]at rW zT;simp only[results,hr];simp[rW,zT,asAddr,loadVar,h1,h4,h5]
theorem QsP{P:Program}{n:Nat}{e:AW}{w:TG}{M:T6}{w0:TG}{H:T0}{F:T3}{b:Nat}{t:TypeId}{f:FuncId}{R:Ending->TG->Prop}{k:List Item}{fn:Func}{a u x y z sz:Nat}{o:Nat}{cs vs:T5}{ct:TypeId}{v2 v3 v4 v5:TH}(hS:St M w0 H F w)(hf:P.funcs[f]?=some fn)(hr:fn.results= #[.cell a t,.tmp u,.tmp x,.tmp y,.tmp z])(hv:ev n e (.tmp a)= .pointer (some ⟨b,o,none⟩))
  (h2:ev n e (.tmp u)=v2) (h3:ev n e (.tmp x)=v3) (hy4:ev n e (.tmp y)=v4) (hz5:ev n e (.tmp z)=v5) (hA:KJ P t=some true) (hs:EW P t=some sz) (hb:At H b (.cells cs.toArray ct)) (hc:HK cs o sz vs) (hR:R (.returned (.tuple #[.agg vs.toArray,v2,v3,v4,v5])) w):AG P f R (.code .ret::k) (AF n e) w:=by
 unfold AG;intro fr _ wP hk;refine⟨.returned (.tuple #[.agg vs.toArray,v2,v3,v4,v5]),w,{ fr.at (AF n e) (.code .ret::k)with mode:= .returning },hR,W2 step_ret,wP,rfl,rfl,hk,fn,?_,?_⟩
 .exact Yb1
 .show(results fn (DG n e)).run P w=_;have h1:=SM (w:=w) hA;have h4:=KH (w:=w) hs
  have h5:=Xai (P:=P) (w:=w) ⟨b,o,none⟩ vs (fun j v hj=>by
   rw[G7,Qs (hS.at_ hb)]
   have Ca:j<sz:=by
    rcases XY j sz with h|h
    .exact h
    .rw[XX YaD]at hj;cases hj
   rw[hc.get j Ca];exact hj)
  rw[hc.length]at h5
  have rW:(DG n e).getD a undef= .pointer (some ⟨b,o,none⟩):=by rw[I3];exact hv
  have zT:(DG n e).getD u undef=v2:=by rw[I3];exact h2
  have wN:(DG n e).getD x undef=v3:=by rw[I3];exact h3
  have Lc:(DG n e).getD y undef=v4:=by rw[I3];exact hy4
  have Wd:(DG n e).getD z undef=v5:=by rw[I3];exact hz5
  simp only[ZA]at rW zT wN Lc Wd;simp only[results,hr];simp[rW,zT,wN,Lc,Wd,asAddr,loadVar,h1,h4,h5]
theorem St.freezeR{M:T6}{w0 w:TG}{H O:T0}{F:T3}{el sz len cap:Nat}{A:T4}{xs:T5}(hr:Rw el sz (.slice A len cap) len xs O)(hS:St M w0 (O++H) F w):St M w0 H (QG sz xs A len cap::F) w:=by
 cases hr with
 |zero_=>exact hS.learn fun w' _=>QG.nil_ _ _ _
 |own_ hx hc oW tJ=>
  rename_i b sp;have oD:St M w0 ((b,Obj.cells (xs++sp).toArray el)::H) F w:=hS;have ho:=oD.own (b,_) (.head _);refine oD.drop.learn fun w' hw=>QG.own (sp:=sp) (el:=el) ?_ hx oW;rw[hw.block b (IW ho) fun hm=> ?_]
  .exact ho
  .obtain⟨p,hp,e⟩:=X3.1 hm;exact(VT.1 oD.apart).1 p hp e.symm
section
variable{M:T6}{w0:TG}{H:T0}{F:T3}
theorem AV.all{A:T4}{c:Nat}{T:TA}{w:TG}(h:AV A c T w):IQ T w:=by
 by_cases hl:0<T.len
 .obtain⟨b,_,_,hs⟩:=h.2 hl;exact hs.cells.1
 .cases T with
  |nil=>trivial
  |cons=>simp[TA.len]at hl
theorem St.freezeT{w:TG}{O:T0}{el c:Nat}{A:T4}{D:TA}(hr:Rw el 4 (.slice A D.len c) D.len (EU D) O)(hA:AB F (IQ D))(hS:St M w0 (O++H) F w):
  ∃F',(∀φ∈F,φ∈F')/\AB F' (AV A c D)/\St M w0 H F' w:=by
 have uJ:=St.freezeR hr hS;refine⟨_,fun φ h=> .tail _ h,fun w' hw=> ?_,uJ⟩;have hf:=hw _ (.head _);have ha:=hA w' fun φ hφ=>hw φ (.tail _ hφ);refine⟨hf.2.1,fun hl=> ?_⟩;obtain⟨b,o,e,hc⟩:=hf.2.2 hl;exact⟨b,o,e,Qpr ha fun j u hj=>hc j u hj⟩
end
end Go.Proofs.YthliapbflkfdiacGreatDoor
