/- Steps of the proof. -/
import Derived.Test.YthliapbflkfdiacGreatDoorG28
set_option linter.unusedVariables false
set_option linter.unusedSimpArgs false
set_option maxRecDepth 100000
set_option maxHeartbeats 1000000
namespace Go.Proofs.YthliapbflkfdiacGreatDoor
open Go.Proofs.Tryz
open Go.RowKit
theorem QwR{u:HU}{a b:Int}(h:((u.step.look a).2.look b).2.lg=false):
  u.step.lg=false/\(u.step.look a).1=Qw u.cs a/\((u.step.look a).2.look b).1=Qw u.cs b/\End u.cs a (Qw u.cs a)/\End u.cs b (Qw u.cs b)/\((u.step.look a).2.look b).2.cs=u.cs/\((u.step.look a).2.look b).2.tr=u.tr/\((u.step.look a).2.look b).2.w=u.w+1:=by
 have uF:=LW u.step a;have Af:=LW (u.step.look a).2 b;obtain⟨Hp,qJ,pH⟩:=NW h;obtain⟨Ja,Nv,Fs⟩:=NW Hp;rw[uF.2.1]at qJ pH;exact⟨Ja,Nv,qJ,QmN Fs,QmN pH,by rw[Af.2.1,uF.2.1];rfl,by rw[Af.2.2,uF.2.2];rfl,by rw[Af.1,uF.1];rfl⟩
structure One(a b:Int)(u:HU)(v:HU):Prop where
 up:Up u.cs v.cs
 sm:∀L,Up v.cs L->Sm L a b
def CI(x:Int):Nat->T7
 |0=>[]
 |m+1=>x::CI (x+1) m
theorem Qph(x:Int)(m:Nat):(CI x m).length=m:=by
 induction m generalizing x with
 |zero=>rfl
 |succ m ih=>simp[CI,ih]
def Bd(N:T7)(L L':List HC):Prop:=(∀r∈N,0<=r)/\∀i:Nat,((i:Int)∈N->∃c n,L[i]?=some c/\c.k=0/\c.n=(i:Int)/\L'[i]?=some ⟨c.k,n,c.s⟩)/\((i:Int)∉N->L'[i]?=L[i]?)
theorem Bd.refl(L:List HC):Bd [] L L:=⟨fun r h=>by simp at h,fun i=>⟨fun h=>by simp at h,fun _=>rfl⟩⟩
theorem Bd.trans{N N':T7}{L L' L'':List HC}(h:Bd N L L')(g:Bd N' L' L''):Bd (N++N') L L'':=by
 refine⟨fun r hr=>(VG.1 hr).elim (h.1 r) (g.1 r),fun i=>⟨fun hi=> ?_,fun hi=> ?_⟩⟩
 .by_cases h1:(i:Int)∈N
  .obtain⟨c,n,c1,c2,c3,c4⟩:=(h.2 i).1 h1;by_cases h2:(i:Int)∈N'
   .obtain⟨d,m,d1,d2,d3,d4⟩:=(g.2 i).1 h2;rw[c4]at d1;cases d1;exact⟨c,m,c1,c2,c3,d4⟩
   .rw[<-(g.2 i).2 h2]at c4;exact⟨c,n,c1,c2,c3,c4⟩
  .have h2:(i:Int)∈N':=by rcases VG.1 hi with h|h;exact absurd h h1;exact h
   obtain⟨d,m,d1,d2,d3,d4⟩:=(g.2 i).1 h2;rw[(h.2 i).2 h1]at d1;exact⟨d,m,d1,d2,d3,d4⟩
 .rw[(g.2 i).2 (fun h'=>hi (WW _ h')),(h.2 i).2 (fun h'=>hi (JO _ h'))]
theorem Bd.one{L:List HC}{r y:Int}{c:HC}(hr:AD L r=some c)(hk:c.k=0)(hn:c.n=r):Bd [r] L (DD L r.toNat y):=by
 obtain⟨r0,r1,r2⟩:=AZ.1 hr;refine⟨fun s hs=>by simp at hs;omega,fun i=>⟨fun hi=> ?_,fun hi=> ?_⟩⟩
 .simp at hi;have e:r.toNat=i:=by omega
  rw[e]at r2⊢;exact⟨c,y,r2,hk,by omega,by rw[QiD,XB rfl,r2];rfl⟩
 .simp at hi;rw[QiD,XA Ya]
theorem Qja:∀(N:T7) (L:List HC),(∀r∈N,0<=r)->∀i:Nat,(D8 L N)[i]?=if(i:Int)∈N then(L[i]?).map (fun c=>⟨c.k,i,c.s⟩)else L[i]?
 |[],L,_,i=>by simp[D8]
 | r :: N, L, h, i => by
  have r0:=h r Yd;unfold D8;rw[Qja N _ (fun s hs=>h s (.tail _ hs)) i,QiD];by_cases e:r.toNat=i
  .have e2:(i:Int)=r:=by omega
   have hm:(i:Int)∈r::N:=by rw[e2];exact .head _
   rw[XB e,XB hm];by_cases h2:(i:Int)∈N
   .rw[XB h2,WR];rfl
   .rw[XA h2,e2]
  .rw[XA e]
   have:(i:Int)∈r::N↔(i:Int)∈N:=by
    simp only[XV];constructor
    .rintro(h|h)
     .omega
     .exact h
    .exact .inr
   simp only[this]
theorem Bd.undo{N:T7}{L L':List HC}(h:Bd N L L'):D8 L' N=L:=by
 refine J1 fun i=> ?_;rw[Qja N L' h.1 i];by_cases hi:(i:Int)∈N
 .rw[XB hi];obtain⟨c,_,c1,c2,c3,c4⟩:=(h.2 i).1 hi;rw[c4,c1,X7,<-c3]
 .rw[XA hi];exact(h.2 i).2 hi
def G9(u v:HU):Prop:=∃N,v.tr=u.tr++N/\Bd N u.cs v.cs
theorem G9.same{u v:HU}(h1:v.cs=u.cs)(h2:v.tr=u.tr):G9 u v:=⟨[],by simp[h2],by rw[h1];exact Bd.refl _⟩
theorem G9.trans{u v w:HU}(h:G9 u v)(g:G9 v w):G9 u w:=by
 obtain⟨N,h1,h2⟩:=h;obtain⟨N',g1,g2⟩:=g;exact⟨N++N',by rw[g1,h1,VB],h2.trans g2⟩
theorem G9.bind{u v:HU}{r y:Int}{c:HC}(hr:AD u.cs r=some c)(hk:c.k=0)(hn:c.n=r)(h1:v.cs=DD u.cs r.toNat y)(h2:v.tr=u.tr++[r]):G9 u v:=⟨[r],h2,by rw[h1];exact Bd.one hr hk hn⟩
theorem QvR{n:Nat}{g:Int->Int->HU->Bool×HU}(hu:∀x y u,GU n u->u.lg=false->UU n u (g x y u))(hg:∀x y u,GU n u->u.lg=false->G9 u (g x y u).2):
  ∀(m:Nat) (x y:Int) (u:HU),GU n u->u.lg=false->G9 u (FY g m x y u).2
 |0,x,y,u,h,hl=>G9.same rfl rfl
 |m+1,x,y,u,h,hl=>by
  have h1:=hu x y u h hl;simp only[FY];split
  .rename_i oK;exact(hg x y u h hl).trans (QvR hu hg m (x+1) (y+1) _ h1.gu (h1.ok oK))
  .exact hg x y u h hl
theorem QvG{n:Nat}{u:HU}(h:GU n u){p q:Int}{x:HC}(hx:AD u.cs p=some x)(Cv:x.k=0)(Iz:x.n=p):G9 u (KN p q u).2:=by
 have ho:=Qn1 (n:=n) p 401 q u h.good h.wk;unfold KN;split
 .exact G9.same ho.cs ho.tr
 .exact G9.bind hx Cv Iz (by simp only[HU.bind];rw[ho.cs]) (by simp only[HU.bind];rw[ho.tr])
theorem Qtq{n:Nat}:∀(f:Nat) (a b:Int) (u:HU),GU n u->u.lg=false->G9 u (CE f a b u).2
 | f, a, b, u, h, hl => by
  have vQ:GU n ((u.step.look a).2.look b).2:=(h.step.look a).look b;have uF:=LW u.step a;have Af:=LW (u.step.look a).2 b
  have wH:((u.step.look a).2.look b).2.cs=u.cs:=by rw[Af.2.1,uF.2.1];rfl
  have wI:((u.step.look a).2.look b).2.tr=u.tr:=by rw[Af.2.2,uF.2.2];rfl
  have rC:G9 u ((u.step.look a).2.look b).2:=G9.same wH wI
  cases f with
  |zero=>exact rC
  |succ f=>
  simp only[CE];by_cases qY:((u.step.look a).2.look b).2.lg=true
  .rw[XB qY];exact rC
  have hl3:((u.step.look a).2.look b).2.lg=false:=by simpa using qY
  rw[XA qY];obtain⟨_,ha,hb,ea,eb,AP,Ic,_⟩:=QwR hl3;rw[ha,hb];obtain⟨x,hx,Iz⟩:=ea.last;obtain⟨y,hy,Db⟩:=eb.last;generalize Qw u.cs a=p at*;generalize Qw u.cs b=q at*;generalize((u.step.look a).2.look b).2=v at*;rw[show GH u.cs p=x.k by unfold GH;rw[hx],show GH u.cs q=y.k by unfold GH;rw[hy]];by_cases Cv:x.k=0
  .have Wi:x.n=p:=Xaz fun e=>Iz ⟨Cv,e⟩;rw[XB Cv];by_cases vE:y.k=0
   .have Sz:y.n=q:=Xaz fun e=>Db ⟨vE,e⟩;rw[XB vE];by_cases Hd:p=q
    .rw[XB Hd];exact rC
    .rw[XA Hd];rcases WS p q with oW|oW
     .rw[XaQ oW,Xbh oW];exact G9.bind hy vE Sz (by simp only[HU.bind];rw[AP]) (by simp only[HU.bind];rw[Ic])
     .rw[XaR oW,Xbi oW];exact G9.bind hx Cv Wi (by simp only[HU.bind];rw[AP]) (by simp only[HU.bind];rw[Ic])
   .rw[XA vE];exact rC.trans (QvG vQ (by rw[AP];exact hx) Cv Wi)
  .rw[XA Cv];by_cases vE:y.k=0
   .have Sz:y.n=q:=Xaz fun e=>Db ⟨vE,e⟩;rw[XB vE];exact rC.trans (QvG vQ (by rw[AP];exact hy) vE Sz)
   .rw[XA vE];unfold MJ;split
    .exact rC.trans (QvR (n:=n) (fun x y u=>Qnl f x y u) (fun x y u h hl=>Qtq f x y u h hl) _ _ _ v vQ hl3)
    .exact rC
theorem Qw5{h:HH}(hg:QS h=true):GU h.cs.length ⟨h.cs,h.tr,0,false⟩:=by
 unfold QS D7 KC at hg;simp only[XI,XO]at hg;exact⟨rfl,hg.1.2,fun _=>by show(0:Nat)<=400;omega,by show h.tr.length<=65536+0;omega⟩
def H5(g:Int->Nat->Option (Tm×Nat)):Nat->Int->Nat->Option (Ts×Nat)
 |0,_,l=>some (.nil,l)
 |m+1,a,l=>(g a l).bind fun p=>(H5 g m (a+1) p.2).map fun q=>(.cons p.1.k p.1.n p.1.s p.1.ar q.1,q.2)
def ER(L:List HC):Nat->Int->Nat->Option (Tm×Nat)
 |0,_,_=>none
 |f+1,a,l=>if l=0 then none else match AD L (Qw L a)with
  |none=>none
  |some c=>if c.k=0 then some (⟨0,Qw L a,eS,.nil⟩,l-1)
   else if c.k=1 then some (⟨1,0,c.s,.nil⟩,l-1)
   else if c.k=2 then some (⟨2,c.n,eS,.nil⟩,l-1)
   else(H5 (ER L f) (QU c).toNat (Qw L a+1) (l-1)).map fun p=>(⟨3,0,c.s,p.1⟩,p.2)
def PF:Tm:=⟨0,0,eS,.nil⟩
def OW(most:Int):Nat:=(min most 65536).toNat
def D4(h:HH)(a most:Int):Tm×Nat×Int:=
 if QS h=false then(PF,0,1)
 else if Qo h.cs a=false then(PF,0,4)
 else match ER h.cs (OW most) a (OW most)with
  |none=>(PF,0,3)
  |some (t,l)=>(t,OW most-l,0)
theorem Qma{L:List HC}{f:Nat}{a:Int}{l:Nat}{c:HC}(hl:l≠0)(hc:AD L (Qw L a)=some c):ER L (f+1) a l=if c.k=0 then some (⟨0,Qw L a,eS,.nil⟩,l-1)
   else if c.k=1 then some (⟨1,0,c.s,.nil⟩,l-1)
   else if c.k=2 then some (⟨2,c.n,eS,.nil⟩,l-1)
   else(H5 (ER L f) (QU c).toNat (Qw L a+1) (l-1)).map fun p=>(⟨3,0,c.s,p.1⟩,p.2):=by
 simp only[ER];rw[XA hl,hc]
theorem QtG{L:List HC}{f:Nat}{a:Int}{l:Nat}(hc:Qw L a<0):ER L f a l=none:=by
 cases f with
 |zero=>rfl
 |succ f=>
  simp only[ER];split
  .rfl
  .rw[show AD L (Qw L a)=none by unfold AD;rw[XA Ya]]
theorem QjY{g:Int->Nat->Option (Tm×Nat)}(hg:∀a l p,g a l=some p->p.1.ar.nodes+1+p.2=l):∀(m:Nat) (a:Int) (l:Nat) (p:Ts×Nat),H5 g m a l=some p->p.1.nodes+p.2=l/\p.1.length=m
 |0,a,l,p,h=>by simp only[H5,XU]at h;subst h;simp[Ts.nodes,Ts.length]
 |m+1,a,l,p,h=>by
  simp only[H5]at h
  cases h1:g a l with
  |none=>rw[h1]at h;simp at h
  |some q=>
   rw[h1,VU]at h
   cases h2:H5 g m (a+1) q.2 with
   |none=>rw[h2]at h;simp at h
   |some r=>
    rw[h2,X7,XU]at h;subst h;have e1:=hg a l q h1;obtain⟨_,_⟩:=QjY hg m (a+1) q.2 r h2;exact S5
theorem Qfp{L:List HC}:∀(f:Nat) (a:Int) (l:Nat) (p:Tm×Nat),ER L f a l=some p->p.1.ar.nodes+1+p.2=l
 |0,a,l,p,h=>by cases h
 |f+1,a,l,p,h=>by
  by_cases hl:l=0
  .simp only[ER]at h;rw[XB hl]at h;cases h
  cases hc:AD L (Qw L a)with
  |none=>simp only[ER]at h;rw[XA hl,hc]at h;cases h
  |some c=>
   rw[Qma hl hc]at h;split at h
   .cases h;exact KD
   split at h
   .cases h;exact KD
   split at h
   .cases h;exact KD
   cases h2:H5 (ER L f) (QU c).toNat (Qw L a+1) (l-1)with
   |none=>rw[h2]at h;cases h
   |some r=>
    rw[h2,X7,XU]at h;subst h;have:=(QjY (fun a l p=>Qfp f a l p) _ _ _ _ h2).1;show r.1.nodes+1+r.2=l;omega
inductive Rc(L:List HC)(R:T7):Int->Prop
 |root {a:Int}:a∈R->Qo L a=true->Rc L R a
 |ref {a:Int} {c:HC}:Rc L R a->AD L a=some c->c.k=0->Rc L R c.n
 |arg {a:Int} {c:HC} {i:Int}:Rc L R a->AD L a=some c->0<=i->i<QU c->Rc L R (a+1+i)
theorem Qq{L:List HC}{a:Int}:Qo L a=true↔0<=a/\a<L.length:=by unfold Qo;simp
theorem Qrv{n:Nat}:∀{L:List HC},(∀i c,L[i]?=some c->BM n c (L.length-i-1)=true)->Q2 n L=true
 |[],_=>rfl
 |x::r,h=>by
  simp only[Q2,XI];refine⟨by have:=h 0 x rfl;simpa using this,Qrv fun i c hc=> ?_⟩;have:=h (i+1) c (by simpa using hc);rw[XJ,show r.length+1-(i+1)-1=r.length-i-1 by omega]at this;exact BS
theorem QfD{n f:Nat}{c:HC}(h:BM n c f=true):0<=QU c/\QU c<=f/\QU c<=4:=by
 have:=Q4 h;unfold QU;split<;>omega
theorem Rc.addr{L:List HC}{R:T7}(hg:Q2 L.length L=true){a:Int}(h:Rc L R a):Qo L a=true:=by
 induction h with
 |root _ h=>exact h
 |ref h hc hk ih=>
  have:=QiP hg hc hk;rw[Qq];exact BS
 |arg h hc i0 i1 ih=>
  have h1:=AZ.1 hc;have h2:=QfD (H9 hg hc);rw[Qq];omega
def Qo2(L:List HC)(R:T7)(M:T8):Prop:=M.length=L.length/\∀i:Nat,i<L.length->(M[i]?=some true↔Rc L R (i:Int))
noncomputable def QW (L:List HC) (R:T7):T8:=(List.range L.length).map fun i=> @decide (Rc L R ((i:Nat):Int)) (Classical.propDecidable _)
theorem QjV(L:List HC)(R:T7):Qo2 L R (QW L R):=by
 refine⟨by simp[QW],fun i hi=> ?_⟩;unfold QW;rw[VW,Xbd hi];simp
theorem Qo2.eq{L:List HC}{R:T7}{M:T8}(h:Qo2 L R M):M=QW L R:=by
 have g:=QjV L R;refine J1 fun i=> ?_;by_cases hi:i<L.length
 .have h1:=h.2 i hi;have h2:=g.2 i hi;have e1:M[i]?=some (M[i]'(by rw[h.1];exact hi)):=VN _;have e2:(QW L R)[i]?=some ((QW L R)[i]'(by rw[g.1];exact hi)):=VN _;rw[e1]at h1;rw[e2]at h2;rw[e1,e2];congr 1;have h3:=h1.trans h2.symm;simp only[XU]at h3;cases hx:M[i]'(by rw[h.1];exact hi)<;>cases hy:(QW L R)[i]'(by rw[g.1];exact hi)<;>simp_all
 .rw[XX (by rw[h.1];omega),XX (by rw[g.1];omega)]
def rk(M:T8)(n:Nat):Nat:=(M.take n).count true
abbrev AK(M:T8)(a:Int):Int:=((rk M a.toNat:Nat):Int)
theorem Qpx(M:T8):rk M 0=0:=by simp[rk]
theorem QjG{M:T8}{n:Nat}{b:Bool}(h:M[n]?=some b):rk M (n+1)=rk M n+(if b=true then 1 else 0):=by
 unfold rk;rw[List.take_add_one,h,List.count_append];cases b<;>simp
theorem Qt9{M:T8}{n:Nat}(h:M.length<=n):rk M n=rk M M.length:=by unfold rk;rw[U0 h,U0 (XF _)]
theorem Qyr(M:T8)(n:Nat):rk M n<=rk M (n+1):=by
 by_cases h:n<M.length
 .rw[QjG (VN h)];omega
 .rw[Qt9 (n:=n) Ya,Qt9 (n:=n+1) Ya];exact XF _
theorem Qt7(M:T8){n m:Nat}(h:n<=m):rk M n<=rk M m:=by
 induction h with
 |refl=>exact XF _
 |step _ ih=>exact X9 ih (Qyr M _)
theorem Qys{M:T8}{n m:Nat}(hn:M[n]?=some true)(h:n<m):rk M n<rk M m:=by
 have h1:=QjG hn;have h2:=Qt7 M (show n+1<=m from h);simp at h1;omega
theorem Qxw{M:T8}{n m:Nat}(hn:M[n]?=some true)(hm:M[m]?=some true)(h:rk M n=rk M m):n=m:=by
 rcases Nat.lt_trichotomy n m with h1|h1|h1
 .have:=Qys hn h1;omega
 .exact h1
 .have:=Qys hm h1;omega
def kept{α:Type}:List α->T8->List α
 |x::r,b::m=>if b=true then x::kept r m else kept r m
 |_,_=>[]
theorem QmB{α:Type}:∀{L:List α} {M:T8} {i:Nat} {x:α},M[i]?=some true->L[i]?=some x->(kept L M)[rk M i]?=some x
 |[],M,i,x,_,h=>by simp at h
 |y::r,[],i,x,h,_=>by simp at h
 |y::r,b::m,0,x,h,g=>by
  simp at h g;subst h g;simp[kept,rk]
 |y::r,b::m,i+1,x,h,g=>by
  have ih:=QmB (L:=r) (M:=m) (i:=i) (x:=x) YY (by simpa using g)
  have e:rk (b::m) (i+1)=rk m i+(if b=true then 1 else 0):=by unfold rk;rw[JC];cases b<;>simp
  rw[e];cases b
  .simpa[kept]using ih
  .simpa[kept]using ih
theorem Qrm{α:Type}:∀{L:List α} {M:T8},M.length=L.length->(kept L M).length=rk M M.length
 |[],[],_=>rfl
 |[],_::_,h=>by simp at h
 |_::_,[],h=>by simp at h
 |y::r,b::m,h=>by
  have ih:=Qrm (L:=r) (M:=m) YY
  have e:rk (b::m) (m.length+1)=rk m m.length+(if b=true then 1 else 0):=by unfold rk;rw[JC];cases b<;>simp
  rw[XJ,e];cases b
  .simpa[kept]using ih
  .simpa[kept]using ih
theorem QmA{α:Type}:∀{L:List α} {M:T8} {j:Nat} {x:α},(kept L M)[j]?=some x->∃i,M[i]?=some true/\L[i]?=some x/\rk M i=j
 |[],M,j,x,h=>by simp[kept]at h
 |_::_,[],j,x,h=>by simp[kept]at h
 |y::r,b::m,j,x,h=>by
  have e:∀i,rk (b::m) (i+1)=rk m i+(if b=true then 1 else 0):=fun i=>by unfold rk;rw[JC];cases b<;>simp
  cases b
  .obtain⟨i,h1,h2,h3⟩:=QmA (L:=r) (M:=m) (j:=j) (x:=x) (by simpa[kept]using h);exact⟨i+1,by simpa using h1,by simpa using h2,by rw[e];simpa using h3⟩
  .cases j with
   |zero=>exact⟨0,rfl,by simpa[kept]using h,Qpx _⟩
   |succ j=>
    obtain⟨i,h1,h2,h3⟩:=QmA (L:=r) (M:=m) (j:=j) (x:=x) (by simpa[kept]using h);exact⟨i+1,by simpa using h1,by simpa using h2,by rw[e];simp;omega⟩
def EY(M:T8)(c:HC):HC:=if c.k=0 then⟨c.k,AK M c.n,c.s⟩else c
def Qy(M:T8)(a:Int):Bool:=decide (M[a.toNat]?=some true)
def DK(M:T8)(L:List HC):List HC:=(kept L M).map (EY M)
def EJ(M:T8)(T:T7):T7:=(kept T (T.map (Qy M))).map (AK M)
noncomputable def Qcb (h:HH) (R T K:T7):HH×T7×T7×T7×Int:=
 if QS h=false then(h,[],[],[],1)
 else if R.all (Qo h.cs)=false then(h,[],[],[],4)
 else(⟨DK (QW h.cs R) h.cs,EJ (QW h.cs R) h.tr⟩,R.map (AK (QW h.cs R)),T.map (AK (QW h.cs R)),K.map (AK (h.tr.map (Qy (QW h.cs R)))),0)
structure Cx(h:HH)(R:T7)(M:T8):Prop where
 good:QS h=true
 mks:Qo2 h.cs R M
section
variable{h:HH}{R:T7}{M:T8}
theorem Cx.gl(C:Cx h R M):Q2 h.cs.length h.cs=true:=by
 have:=C.good;unfold QS D7 at this;simp only[XI]at this;exact this.1.2
theorem Cx.rc(C:Cx h R M){a:Int}(ha:Rc h.cs R a):0<=a/\a<h.cs.length/\M[a.toNat]?=some true:=by
 have h1:=Qq.1 (ha.addr C.gl);refine⟨h1.1,h1.2,(C.mks.2 a.toNat Ya).2 ?_⟩;rw[show((a.toNat:Nat):Int)=a by omega];exact ha
theorem Cx.mark(C:Cx h R M){i:Nat}(hi:M[i]?=some true):i<h.cs.length/\Rc h.cs R (i:Int):=by
 have hl:i<h.cs.length:=by
  rw[<-C.mks.1];rcases XY i M.length with g|g
  .exact g
  .rw[XX g]at hi;cases hi
 exact⟨hl,(C.mks.2 i hl).1 hi⟩
theorem Cx.len(C:Cx h R M):(DK M h.cs).length=rk M M.length:=by unfold DK;rw[VQ,Qrm C.mks.1]
theorem Cx.cell(C:Cx h R M){a:Int}{c:HC}(ha:Rc h.cs R a)(hc:AD h.cs a=some c):AD (DK M h.cs) (AK M a)=some (EY M c):=by
 obtain⟨_,_,am⟩:=C.rc ha;unfold AD;rw[XB (by simp only[AK];omega),show(AK M a).toNat=rk M a.toNat from rfl];unfold DK;rw[VW,QmB am (AZ.1 hc).2.2];rfl
theorem Cx.lt(C:Cx h R M){a:Int}(ha:Rc h.cs R a):rk M a.toNat<(DK M h.cs).length:=by
 obtain⟨_,_,am⟩:=C.rc ha;rw[C.len];exact Qys am (by rw[C.mks.1];omega)
theorem Cx.back(C:Cx h R M){j:Nat}{d:HC}(hj:(DK M h.cs)[j]?=some d):∃(i:Nat) (c:HC),Rc h.cs R (i:Int)/\AD h.cs (i:Int)=some c/\d=EY M c/\rk M i=j:=by
 unfold DK at hj;rw[VW]at hj
 cases hk:(kept h.cs M)[j]? with
 |none=>rw[hk]at hj;cases hj
 |some c=>
  rw[hk,X7,XU]at hj;obtain⟨i,h1,h2,h3⟩:=QmA hk;obtain⟨_,hr⟩:=C.mark h1;exact⟨i,c,hr,by unfold AD;rw[XB Ya];exact h2,hj.symm,h3⟩
theorem Cx.args(C:Cx h R M){a:Int}{c:HC}(ha:Rc h.cs R a)(hc:AD h.cs a=some c):∀i:Nat,(i:Int)<QU c+1->rk M (a.toNat+i)=rk M a.toNat+i
 |0,_=>rfl
 |i+1,hi=>by
  have ih:=C.args ha hc i Ya
  have am:M[a.toNat+i]?=some true:=by
   cases i with
   |zero=>exact(C.rc ha).2.2
   |succ i=>
    have h1:=C.rc (Rc.arg (i:=(i:Int)) ha hc Ya Ya);rw[show(a+1+(i:Int)).toNat=a.toNat+(i+1) by have:=(C.rc ha).1;omega]at h1;exact h1.2.2
  rw[show a.toNat+(i+1)=(a.toNat+i)+1 by omega,QjG am,ih];simp;omega
theorem Cx.arg(C:Cx h R M){a:Int}{c:HC}(ha:Rc h.cs R a)(hc:AD h.cs a=some c){i:Int}(i0:0<=i)(i1:i<QU c):AK M (a+1+i)=AK M a+1+i:=by
 have:=C.args ha hc (i.toNat+1) Ya;have a0:=(C.rc ha).1;show((rk M (a+1+i).toNat:Nat):Int)=((rk M a.toNat:Nat):Int)+1+i;rw[show(a+1+i).toNat=a.toNat+(i.toNat+1) by omega,this];omega
theorem Qsq(M:T8)(c:HC):QU (EY M c)=QU c:=by
 unfold EY QU;by_cases h:c.k=0
 .rw[XB h];simp[h]
 .rw[XA h]
theorem S7(M:T8)(c:HC):(EY M c).k=c.k:=by
 unfold EY;split<;>rfl
theorem Qua(M:T8)(c:HC):(EY M c).s=c.s:=by
 unfold EY;split<;>rfl
theorem QtD{h:HH}(hg:QS h=true){a:Int}(ha:a∈h.tr):∃c,AD h.cs a=some c/\c.k=0:=by
 unfold QS KC at hg;simp only[XI,VK]at hg;have:=hg.2.2 a ha;unfold GG at this;split at this
 .rename_i c hc;exact⟨c,hc,by simpa using this⟩
 .cases this
theorem MH{M:T8}{a:Int}:Qy M a=true↔M[a.toNat]?=some true:=by unfold Qy;simp
theorem Qw0{α:Type}{f:α->Bool}{T:List α}{x:α}:x∈kept T (T.map f)↔x∈T/\f x=true:=by
 induction T with
 |nil=>simp[kept]
 |cons y T ih=>
  simp only[VE,kept];cases hf:f y
  .simp only[X6,XT,ih,XV];constructor
   .rintro⟨h1,h2⟩;exact⟨.inr h1,h2⟩
   .rintro⟨rfl|h1,h2⟩
    .rw[hf]at h2;cases h2
    .exact⟨h1,h2⟩
  .simp only[X5,XV,ih];constructor
   .rintro(rfl|⟨h1,h2⟩)
    .exact⟨.inl rfl,hf⟩
    .exact⟨.inr h1,h2⟩
   .rintro⟨rfl|h1,h2⟩
    .exact NA
    .exact .inr ⟨h1,h2⟩
theorem Cx.kept_good(C:Cx h R M):QS ⟨DK M h.cs,EJ M h.tr⟩=true:=by
 have hg:=C.good;have sT:=C.gl
 have oG:(DK M h.cs).length<=h.cs.length:=by
  rw[C.len];unfold rk;rw[<-C.mks.1];exact X9 XaV Yd
 have hs:h.cs.length<=65536/\h.tr.length<=65536:=by
  exact YcW
 have Nk:∀{α:Type} (T:List α) (m:T8),(kept T m).length<=T.length:=by
  intro α T
  induction T with
  |nil=>intro m;simp[kept]
  |cons y T ih=>
   intro m
   cases m with
   |nil=>simp[kept]
   |cons b m=>
    simp only[kept];have:=ih m;split<;>simp<;>omega
 unfold QS D7 KC;simp only[XI,XO,VK];refine⟨⟨by omega,Qrv fun j d hd=> ?_⟩,?_,fun x hx=> ?_⟩
 .obtain⟨i,c,hr,hc,rfl,_⟩:=C.back hd;have sH:=H9 sT hc;have hq:=Q4 sH;have pU:=C.lt hr;rw[show((i:Nat):Int).toNat=i by omega]at pU;unfold BM;rw[S7,Qua];rcases hq with⟨k,n0,n1,s0⟩|⟨k,n0,s0⟩|⟨k,s0⟩|⟨k,n0,n1,n2,s0⟩
  .have Wj:=C.lt (Rc.ref hr hc k);rw[XB k];unfold EY;rw[XB k];simp only[XI,XO];exact⟨by simp only[AK];omega,by simp only[AK];omega,s0⟩
  .rw[XA Ya,XB k];unfold EY;rw[XA Ya];simp[n0,s0]
  .rw[XA Ya,XA Ya,XB k];simp[s0]
  .have hA:QU c=c.n:=by unfold QU;rw[XB k]
   have h1:=C.lt (Rc.arg (i:=c.n-1) hr hc Ya Ya);have h2:=C.args hr hc c.n.toNat Ya;rw[show((i:Int)+1+(c.n-1)).toNat=((i:Nat):Int).toNat+c.n.toNat by omega,h2]at h1;rw[XA Ya,XA Ya,XA Ya,XB k];unfold EY;rw[XA Ya];simp only[XI,XO,XaU,WI];rw[show((i:Nat):Int).toNat=i by omega]at h1;exact⟨n0,n1,by omega,s0⟩
 .unfold EJ;rw[VQ];have:=Nk h.tr (h.tr.map (Qy M));omega
 .unfold EJ at hx;obtain⟨a,ha,rfl⟩:=X3.1 hx;obtain⟨h1,h2⟩:=Qw0.1 ha;obtain⟨c,c1,c2⟩:=QtD hg h1;have hm:=C.mark (MH.1 h2);rw[show((a.toNat:Nat):Int)=a by have:=(AZ.1 c1).1;omega]at hm;unfold GG;rw[C.cell hm.2 c1];dsimp only;rw[S7,c2];rfl
end
def GA(c:HC):Int:=if c.k=3 then 0 else c.n
def BJ(h:HH)(a:Int):Vw Int:=match AD h.cs (Qw h.cs a)with
 |none=> .var (-1)
 |some c=>if c.k=0 then .var (Qw h.cs a)else .node c.k (GA c) c.s (CI (Qw h.cs a+1) (QU c).toNat)
section
variable{σ:HH}
structure BB(h:HH):Prop where
 gl:Q2 h.cs.length h.cs=true
 ends:∀a,Qo h.cs a=true->∃x,End h.cs a x
 tr:∀a∈h.tr,GG h.cs a=true
def GW(h:HH)(r y:Int):HH:=⟨DD h.cs r.toNat y,h.tr++[r]⟩
def D6:Sy where
 X:=Int
 S:=HH
 ok:=BB
 dom:=fun h a=>Qo h.cs a=true
 view:=BJ
 bind:=fun h v t=>GW h v (Qw h.cs t)
 join:=fun h a b=>GW h (max (Qw h.cs a) (Qw h.cs b)) (min (Qw h.cs a) (Qw h.cs b))
theorem QiL(h:HH)(r y:Int):(GW h r y).cs.length=h.cs.length:=NR _ _ _
theorem Qkr{h:HH}{r y a:Int}:Qo (GW h r y).cs a=Qo h.cs a:=by unfold Qo;rw[QiL]
theorem KV{h:HH}{a x:Int}{c:HC}(he:End h.cs a x)(hc:AD h.cs x=some c):BJ h a=if c.k=0 then .var x else .node c.k (GA c) c.s (CI (x+1) (QU c).toNat):=by
 unfold BJ;rw[he.look,hc]
theorem BB.view(h:BB σ){a:Int}(ha:Qo σ.cs a=true):∃x c,End σ.cs a x/\AD σ.cs x=some c/\(c.k=0->c.n=x)/\BJ σ a=if c.k=0 then .var x else .node c.k (GA c) c.s (CI (x+1) (QU c).toNat):=by
 obtain⟨x,hx⟩:=h.ends a ha;obtain⟨c,c1,c2⟩:=hx.last;refine⟨x,c,hx,c1,fun hk=> ?_,KV hx c1⟩;by_cases e:c.n=x
 .exact e
 .exact absurd ⟨hk,e⟩ c2
theorem BB.var(h:BB σ){a v:Int}(ha:Qo σ.cs a=true)(hv:BJ σ a= .var v):End σ.cs a v/\∃c,AD σ.cs v=some c/\c.k=0/\c.n=v:=by
 obtain⟨x,c,h1,h2,h3,h4⟩:=h.view ha;rw[h4]at hv;split at hv
 .rename_i hk;cases hv;exact⟨h1,c,h2,hk,h3 hk⟩
 .cases hv
theorem BB.node(h:BB σ){a k n:Int}{s:TJ}{ar:T7}(ha:Qo σ.cs a=true)(hv:BJ σ a= .node k n s ar):∃x c,End σ.cs a x/\AD σ.cs x=some c/\c.k≠0/\k=c.k/\n=GA c/\s=c.s/\ar=CI (x+1) (QU c).toNat:=by
 obtain⟨x,c,h1,h2,h3,h4⟩:=h.view ha;rw[h4]at hv;split at hv
 .cases hv
 .rename_i hk;cases hv;exact⟨x,c,h1,h2,hk,rfl,rfl,rfl,rfl⟩
theorem SZ{L:List HC}{a:Int}:Qo L a=true↔∃c,AD L a=some c:=by
 rw[Qq];constructor
 .rintro⟨h0,h1⟩;exact QxI h0 h1
 .rintro⟨c,hc⟩;exact⟨(AZ.1 hc).1,(AZ.1 hc).2.1⟩
theorem QpZ{L:List HC}{r y a:Int}{c:HC}(hr:AD L r=some c)(hk:c.k=0)(h:GG L a=true):GG (DD L r.toNat y) a=true:=by
 unfold GG at h⊢;rw[OC hr];by_cases e:a=r
 .rw[XB e];simpa using hk
 .rw[XA e];exact h
theorem BB.set(h:BB σ){r y:Int}{c:HC}(hr:AD σ.cs r=some c)(hk:c.k=0)(hn:c.n=r)(hy:End σ.cs y y)(oN:y≠r):
  BB (GW σ r y)/\∀a,Qo σ.cs a=true->BJ (GW σ r y) a=(BJ σ a).sub r (BJ σ y):=by
 obtain⟨e1,e2⟩:=Qxb hr hk hn hy oN;obtain⟨d,hd,_⟩:=hy.last;have Na:=AZ.1 hd;refine⟨⟨?_,fun a ha=> ?_,fun a ha=> ?_⟩,fun a ha=> ?_⟩
 .rw[QiL];refine QgD Na.1 Na.2.1 h.gl fun c' zQ=> ?_;rw[(AZ.1 hr).2.2]at zQ;cases zQ;exact hk
 .rw[Qkr]at ha;obtain⟨x,hx⟩:=h.ends a ha;by_cases Hc:x=r
  .subst Hc;exact⟨y,e2 a hx⟩
  .exact⟨x,e1 a x hx Hc⟩
 .rcases VG.1 ha with ha|ha
  .exact QpZ hr hk (h.tr a ha)
  .rw[VJ.1 ha];unfold GG;rw[show AD (GW σ r y).cs r=some ⟨c.k,y,c.s⟩ by show AD (DD σ.cs r.toNat y) r=_;rw[OC hr,XB rfl]];simpa using hk
 .obtain⟨x,c',h1,h2,_,h4⟩:=h.view ha;by_cases Hc:x=r
  .subst Hc;rw[h2]at hr;cases hr;rw[h4,XB hk];simp only[Vw.sub,X5];rw[KV (e2 a h1) (c:=d) (by show AD (DD σ.cs _ y) y=_;rw[OC h2,XA oN];exact hd),KV hy hd]
  .rw[h4,KV (e1 a x h1 Hc) (c:=c') (by show AD (DD σ.cs _ y) x=_;rw[OC hr,XA Hc];exact h2)];split
   .simp only[Vw.sub];rw[XA Hc]
   .rfl
theorem QmJ{x t v k n:Int}{s:TJ}{ar:T7}(hσ:BB σ)(hx:Qo σ.cs x=true)(ht:Qo σ.cs t=true)(hv:BJ σ x= .var v)(wU:BJ σ t= .node k n s ar):BB (GW σ v (Qw σ.cs t))/\∀y,Qo σ.cs y=true->BJ (GW σ v (Qw σ.cs t)) y=(BJ σ y).sub v (BJ σ t):=by
 obtain⟨_,c,c1,c2,c3⟩:=hσ.var hx hv;obtain⟨_,d,d1,d2,d3,_⟩:=hσ.node ht wU
 have:=hσ.set c1 c2 c3 d1.self fun e=>by subst e;rw[c1]at d2;cases d2;exact d3 c2
 rw[d1.look];refine⟨this.1,fun y hy=> ?_⟩;rw[this.2 y hy,KV d1 d2,KV d1.self d2]
theorem QmG{a b u v:Int}(hσ:BB σ)(ha:Qo σ.cs a=true)(hb:Qo σ.cs b=true)(hu:BJ σ a= .var u)(hv:BJ σ b= .var v)(oN:u≠v):
  BB (GW σ (max (Qw σ.cs a) (Qw σ.cs b)) (min (Qw σ.cs a) (Qw σ.cs b)))/\
  ((∀y,Qo σ.cs y=true->BJ (GW σ (max (Qw σ.cs a) (Qw σ.cs b)) (min (Qw σ.cs a) (Qw σ.cs b))) y=(BJ σ y).sub u (.var v))\/(∀y,Qo σ.cs y=true->BJ (GW σ (max (Qw σ.cs a) (Qw σ.cs b)) (min (Qw σ.cs a) (Qw σ.cs b))) y=(BJ σ y).sub v (.var u))):=by
 obtain⟨u1,c,c1,c2,c3⟩:=hσ.var ha hu;obtain⟨v1,d,d1,d2,d3⟩:=hσ.var hb hv;have hvu:BJ σ u= .var u:=by rw[KV u1.self c1,XB c2]
 have hvv:BJ σ v= .var v:=by rw[KV v1.self d1,XB d2]
 rw[u1.look,v1.look];rcases Int.lt_or_lt_of_ne oN with hl|hl
 .rw[show max u v=v by omega,show min u v=u by omega];have:=hσ.set d1 d2 d3 u1.self oN;exact⟨this.1,.inr fun y hy=>by rw[this.2 y hy,hvu]⟩
 .rw[show max u v=u by omega,show min u v=v by omega];have:=hσ.set c1 c2 c3 v1.self (JS oN);exact⟨this.1,.inl fun y hy=>by rw[this.2 y hy,hvv]⟩
end
theorem Qwr:D6.Law where
 bind_ok:=fun hσ hx ht hv wU=>(QmJ hσ hx ht hv wU).1
 bind_dom:=fun hy=>Qkr.trans hy
 bind_view:=fun hσ hx ht hv wU hy=>(QmJ hσ hx ht hv wU).2 _ hy
 join_ok:=fun hσ ha hb hu hv oN=>(QmG hσ ha hb hu hv oN).1
 join_dom:=fun hy=>Qkr.trans hy
 join_view:=fun hσ ha hb hu hv oN=>(QmG hσ ha hb hu hv oN).2
theorem QiV{L:List HC}(hg:Q2 L.length L=true){x:Int}{c:HC}(hc:AD L x=some c):(∀i:Int,0<=i->i<QU c->Qo L (x+1+i)=true)/\0<=QU c:=by
 have h1:=AZ.1 hc;have h2:=QfD (H9 hg hc);exact⟨fun i i0 i1=>by rw[Qq];omega,h2.1⟩
def B2(h:HH)(w:Nat):HU:=⟨h.cs,h.tr,w,decide (400<w)⟩
theorem Qiy(h:HH)(w:Nat):(B2 h w).step=B2 h (w+1):=by
 unfold B2 HU.step;simp only[HU.mk.injEq,WG];by_cases h1:400<w
 .simp[h1,show 400<w+1 by omega]
 .simp[h1]
theorem SW{h:HH}(ho:BB h){a:Int}(ha:Qo h.cs a=true)(w:Nat):(B2 h w).look a=(if 400<w then -1 else Qw h.cs a,B2 h w):=by
 obtain⟨x,hx⟩:=ho.ends a ha;have h0:=hx.nonneg;unfold HU.look B2;by_cases hw:400<w
 .simp[hw]
 .simp only[XO,hw,XT,hx.look];simp[show¬x<0 by omega]
section
variable{A:Sy}
theorem Quu{σ:A.S}{v:Int}{f:Nat}{x:A.X}{w:Nat}(h:400<w+1):CB A σ v (f+1) x w=(false,w+1):=by simp only[CB];rw[XB h]
theorem QwI{σ:A.S}{v u:Int}{f:Nat}{x:A.X}{w:Nat}(h:¬400<w+1)(e:A.view σ x= .var u):CB A σ v (f+1) x w=(decide (u=v),w+1):=by simp only[CB];rw[XA h,e]
theorem Quv{σ:A.S}{v k n:Int}{s:TJ}{ar:List A.X}{f:Nat}{x:A.X}{w:Nat}(h:¬400<w+1)(e:A.view σ x= .node k n s ar):CB A σ v (f+1) x w=DA (CB A σ v f) ar (w+1):=by simp only[CB];rw[XA h,e]
theorem Qut{σ:A.S}{v:Int}(f:Nat){x y:A.X}(w:Nat)(e:A.view σ x=A.view σ y):CB A σ v f x w=CB A σ v f y w:=by
 cases f with
 |zero=>rfl
 |succ f=>simp only[CB];rw[e]
theorem Qtx{σ:A.S}{f:Nat}{a b:A.X}{w:Nat}(h:400<w+1):AY A (f+1) a b σ w=⟨false,σ,w+1⟩:=by simp only[AY];rw[XB h]
theorem Qtw{σ:A.S}{f:Nat}{a b:A.X}{w:Nat}{u:Int}(h:¬400<w+1)(e1:A.view σ a= .var u)(e2:A.view σ b= .var u):AY A (f+1) a b σ w=⟨true,σ,w+1⟩:=by simp only[AY];rw[XA h,e1,e2];dsimp only;rw[XB rfl]
theorem Qty{σ:A.S}{f:Nat}{a b:A.X}{w:Nat}{u v:Int}(h:¬400<w+1)(e1:A.view σ a= .var u)(e2:A.view σ b= .var v)(oN:u≠v):AY A (f+1) a b σ w=⟨true,A.join σ a b,w+1⟩:=by simp only[AY];rw[XA h,e1,e2];dsimp only;rw[XA oN]
theorem Qx9{σ:A.S}{f:Nat}{a b:A.X}{w:Nat}{u k n:Int}{s:TJ}{ar:List A.X}(h:¬400<w+1)(e1:A.view σ a= .var u)(e2:A.view σ b= .node k n s ar):AY A (f+1) a b σ w=GI A u b σ (w+1):=by simp only[AY];rw[XA h,e1,e2]
theorem Qya{σ:A.S}{f:Nat}{a b:A.X}{w:Nat}{v k n:Int}{s:TJ}{ar:List A.X}(h:¬400<w+1)(e1:A.view σ a= .node k n s ar)(e2:A.view σ b= .var v):AY A (f+1) a b σ w=GI A v a σ (w+1):=by simp only[AY];rw[XA h,e1,e2]
theorem Qyc{σ:A.S}{f:Nat}{a b:A.X}{w:Nat}{k n k' n':Int}{s s':TJ}{ar qF:List A.X}(h:¬400<w+1)(e1:A.view σ a= .node k n s ar)(e2:A.view σ b= .node k' n' s' qF)(he:k=k'/\n=n'/\s=s'/\ar.length=qF.length):AY A (f+1) a b σ w=E7 (AY A f) ar qF σ (w+1):=by simp only[AY];rw[XA h,e1,e2];dsimp only;rw[XB he]
theorem Qyb{σ:A.S}{f:Nat}{a b:A.X}{w:Nat}{k n k' n':Int}{s s':TJ}{ar qF:List A.X}(h:¬400<w+1)(e1:A.view σ a= .node k n s ar)(e2:A.view σ b= .node k' n' s' qF)(he:¬(k=k'/\n=n'/\s=s'/\ar.length=qF.length)):AY A (f+1) a b σ w=⟨false,σ,w+1⟩:=by simp only[AY];rw[XA h,e1,e2];dsimp only;rw[XA he]
theorem QoX{σ:A.S}{f:Nat}{x:A.X}:CJ A σ (f+1) x 0=none:=by simp[CJ]
theorem QiW{σ:A.S}{f:Nat}{x:A.X}{l:Nat}{u:Int}(h:l≠0)(e:A.view σ x= .var u):CJ A σ (f+1) x l=some (⟨0,u,⟨#[]⟩,.nil⟩,l-1):=by simp only[CJ];rw[XA h,e]
theorem Qg9{σ:A.S}{f:Nat}{x:A.X}{l:Nat}{k n:Int}{s:TJ}{ar:List A.X}(h:l≠0)(e:A.view σ x= .node k n s ar):CJ A σ (f+1) x l=(CD (CJ A σ f) ar (l-1)).map fun p=>(⟨k,n,s,p.1⟩,p.2):=by
 simp only[CJ];rw[XA h,e];dsimp only;cases CD (CJ A σ f) ar (l-1)<;>rfl
end
def KW(σ:HH)(v:Int)(f:Nat)(x:Int)(w:Nat):Bool×Nat:=CB D6 σ v f x w
def PW(v t:Int)(σ:HH)(w:Nat):Ug HH:=GI D6 v t σ w
def IH(f:Nat)(a b:Int)(σ:HH)(w:Nat):Ug HH:=AY D6 f a b σ w
def MX(σ:HH)(f:Nat)(x:Int)(l:Nat):Option (Tm×Nat):=CJ D6 σ f x l
theorem QrK(v t:Int)(σ:HH)(w:Nat):PW v t σ w=if(KW σ v 401 t w).1=true\/400<(KW σ v 401 t w).2 then⟨false,σ,(KW σ v 401 t w).2⟩else⟨true,GW σ v (Qw σ.cs t),(KW σ v 401 t w).2⟩:=rfl
theorem QvP{h:HH}{g:Int->HU->Bool×HU}{g':Int->Nat->Bool×Nat}(hg:∀x w,Qo h.cs x=true->g x (B2 h w)=((g' x w).1,B2 h (g' x w).2)):∀(m:Nat) (x:Int) (w:Nat),(∀i:Int,0<=i->i<m->Qo h.cs (x+i)=true)->HI g m x (B2 h w)=((DA g' (CI x m) w).1,B2 h (DA g' (CI x m) w).2)
 |0,x,w,_=>rfl
 |m+1,x,w,hd=>by
  have h0:=hd 0 Ya Ya;rw[show x+0=x by omega]at h0;simp only[HI,CI,DA];rw[hg x w h0];dsimp only;by_cases hc:(g' x w).1=true
  .rw[XB hc,XB hc,hc]
  .rw[XA hc,XA hc]
   exact QvP hg m (x+1) _ fun i i0 i1=>by rw[show x+1+i=x+(i+1) by omega];exact hd _ Ya Ya
theorem Qus{h:HH}(ho:BB h){v:Int}{c:HC}(hv:AD h.cs v=some c)(hk:c.k=0):∀(f:Nat) (b:Int) (w:Nat),Qo h.cs b=true->B4 v f b (B2 h w)=((KW h v f b w).1,B2 h (KW h v f b w).2)
 |0,b,w,hb=>by
  simp only[B4];rw[Qiy,SW ho hb];rfl
 | f + 1, b, w, hb => by
  obtain⟨x,d,h1,h2,_,h4⟩:=ho.view hb;simp only[B4];rw[Qiy,SW ho hb];dsimp only;by_cases hw:400<w+1
  .rw[XB (show(B2 h (w+1)).lg=true by simp[B2,hw]),show KW h v (f+1) b w=(false,w+1)from Quu (A:=D6) hw]
  .rw[XA (show¬(B2 h (w+1)).lg=true by simp[B2];omega),XA hw,h1.look]
   have ha:EG (B2 h w).cs x=(QU d).toNat:=by show EG h.cs x=_;unfold EG;rw[h2]
   by_cases Ep:d.k=0
   .rw[show KW h v (f+1) b w=(decide (x=v),w+1)from QwI (A:=D6) hw (h4.trans (XB Ep))];by_cases e:v=x
    .rw[XB e];simp[e]
    .rw[XA e,ha,show(QU d).toNat=0 by unfold QU;rw[XA Ya];rfl];simp only[HI];rw[X4 (fun e2:x=v=>e e2.symm)]
   .have e:v≠x:=fun e=>by subst e;rw[hv]at h2;cases h2;exact Ep hk
    rw[show KW h v (f+1) b w=DA (KW h v f) (CI (x+1) (QU d).toNat) (w+1)from Quv (A:=D6) hw (h4.trans (XA Ep)),XA e,ha];obtain⟨g1,_⟩:=QiV ho.gl h2;exact QvP (fun x w hx=>Qus ho hv hk f x w hx) _ _ _ fun i i0 i1=>g1 i i0 Ya
theorem Qur{h:HH}(ho:BB h){v b:Int}(hb:Qo h.cs b=true)(f w:Nat):KW h v f (Qw h.cs b) w=KW h v f b w:=by
 obtain⟨x,d,h1,h2,_,h4⟩:=ho.view hb;refine Qut (A:=D6) f w ?_;show BJ h (Qw h.cs b)=BJ h b;rw[h1.look];exact(KV h1.self h2).trans h4.symm
theorem QvI{h:HH}(ho:BB h){v t:Int}{c:HC}(hv:AD h.cs v=some c)(hk:c.k=0)(ht:Qo h.cs t=true)(w:Nat):
  KN v (Qw h.cs t) (B2 h w)=((PW v t h w).ok,B2 (PW v t h w).s (PW v t h w).w):=by
 obtain⟨y,hy⟩:=ho.ends t ht
 have hya:Qo h.cs (Qw h.cs t)=true:=by rw[hy.look];obtain⟨d,hd,_⟩:=hy.last;exact SZ.2 ⟨d,hd⟩
 rw[QrK];unfold KN;rw[Qus ho hv hk 401 _ w hya,Qur ho ht];dsimp only;by_cases hc:(KW h v 401 t w).1=true\/400<(KW h v 401 t w).2
 .rw[XB hc,XB (by simpa[B2]using hc)]
 .rw[XA hc,XA (by simpa[B2]using hc)];rfl
theorem QvT{g:Int->Int->HU->Bool×HU}{g':Int->Int->HH->Nat->Ug HH}(n:Nat)(hg:∀x y σ w,BB σ->σ.cs.length=n->Qo σ.cs x=true->Qo σ.cs y=true->g x y (B2 σ w)=((g' x y σ w).ok,B2 (g' x y σ w).s (g' x y σ w).w)/\BB (g' x y σ w).s/\(g' x y σ w).s.cs.length=n):
  ∀(m:Nat) (x y:Int) (σ:HH) (w:Nat),BB σ->σ.cs.length=n->(∀i:Int,0<=i->i<m->0<=x+i/\x+i<n/\0<=y+i/\y+i<n)->FY g m x y (B2 σ w)=((E7 g' (CI x m) (CI y m) σ w).ok,B2 (E7 g' (CI x m) (CI y m) σ w).s (E7 g' (CI x m) (CI y m) σ w).w)/\BB (E7 g' (CI x m) (CI y m) σ w).s/\(E7 g' (CI x m) (CI y m) σ w).s.cs.length=n
 |0,x,y,σ,w,ho,hn,_=>⟨rfl,ho,hn⟩
 |m+1,x,y,σ,w,ho,hn,hd=>by
  obtain⟨_,_,_,_⟩:=hd 0 Ya Ya;obtain⟨e1,e2,e3⟩:=hg x y σ w ho hn (by rw[Qq];omega) (by rw[Qq];omega);simp only[FY,CI,E7];rw[e1];dsimp only;split
  .exact QvT n hg m (x+1) (y+1) _ _ e2 e3 fun i i0 i1=>by
    have:=hd (i+1) Ya Ya;omega
  .exact⟨rfl,e2,e3⟩
theorem QvK{h:HH}(ho:BB h){v t a:Int}(ha:Qo h.cs a=true)(hv:BJ h a= .var v)(ht:Qo h.cs t=true){k n:Int}{s:TJ}{ar:T7}(wU:BJ h t= .node k n s ar)(w:Nat):BB (PW v t h w).s/\(PW v t h w).s.cs.length=h.cs.length:=by
 rw[QrK];split
 .exact⟨ho,rfl⟩
 .exact⟨(QmJ ho ha ht hv wU).1,QiL _ _ _⟩
theorem Qtr:∀(f:Nat) (a b:Int) (σ:HH) (w:Nat),BB σ->Qo σ.cs a=true->Qo σ.cs b=true->
  CE f a b (B2 σ w)=((IH f a b σ w).ok,B2 (IH f a b σ w).s (IH f a b σ w).w)/\BB (IH f a b σ w).s/\(IH f a b σ w).s.cs.length=σ.cs.length
 |0,a,b,σ,w,ho,ha,hb=>by
  refine⟨?_,ho,rfl⟩;simp only[CE];rw[Qiy,SW ho ha,SW ho hb];rfl
 | f + 1, a, b, σ, w, ho, ha, hb => by
  obtain⟨x,c,h1,h2,h3,h4⟩:=ho.view ha;obtain⟨y,d,g1,g2,g3,g4⟩:=ho.view hb
  have vT:CE (f+1) a b (B2 σ w)=if 400<w+1 then(false,B2 σ (w+1))else if c.k=0 then if d.k=0 then if x=y then(true,B2 σ (w+1))else(true,(B2 σ (w+1)).bind (max x y) (min x y))else KN x y (B2 σ (w+1))else if d.k=0 then KN y x (B2 σ (w+1))else MJ (CE f) x y (B2 σ (w+1)):=by
   have kx:GH (B2 σ w).cs x=c.k:=by show GH σ.cs x=_;unfold GH;rw[h2]
   have ky:GH (B2 σ w).cs y=d.k:=by show GH σ.cs y=_;unfold GH;rw[g2]
   simp only[CE];rw[Qiy,SW ho ha];dsimp only;rw[SW ho hb];dsimp only;by_cases hw:400<w+1
   .rw[XB (show(B2 σ (w+1)).lg=true by simp[B2,hw]),XB hw]
   .rw[XA (show¬(B2 σ (w+1)).lg=true by simp[B2];omega),XA hw,XA hw,XA hw,h1.look,g1.look,kx,ky]
  rw[vT];by_cases hw:400<w+1
  .rw[XB hw,show IH (f+1) a b σ w=⟨false,σ,w+1⟩from Qtx (A:=D6) hw];exact⟨rfl,ho,rfl⟩
  rw[XA hw];by_cases hc:c.k=0
  .have va:BJ σ a= .var x:=h4.trans (XB hc);rw[XB hc];by_cases hd:d.k=0
   .have vb:BJ σ b= .var y:=g4.trans (XB hd);rw[XB hd];by_cases e:x=y
    .subst e;rw[XB rfl,show IH (f+1) a b σ w=⟨true,σ,w+1⟩from Qtw (A:=D6) hw va vb];exact⟨rfl,ho,rfl⟩
    .rw[XA e,show IH (f+1) a b σ w=⟨true,GW σ (max (Qw σ.cs a) (Qw σ.cs b)) (min (Qw σ.cs a) (Qw σ.cs b)),w+1⟩from Qty (A:=D6) hw va vb e];have:=(QmG ho ha hb va vb e).1;rw[h1.look,g1.look]at this⊢;exact⟨rfl,this,QiL _ _ _⟩
   .have vb:=g4.trans (XA hd);rw[XA hd,show IH (f+1) a b σ w=PW x b σ (w+1)from Qx9 (A:=D6) hw va vb];refine⟨?_,QvK ho ha va hb vb _⟩;have:=QvI (c:=c) ho h2 hc hb (w+1);rw[g1.look]at this;exact BS
  .have va:=h4.trans (XA hc);rw[XA hc];by_cases hd:d.k=0
   .have vb:BJ σ b= .var y:=g4.trans (XB hd);rw[XB hd,show IH (f+1) a b σ w=PW y a σ (w+1)from Qya (A:=D6) hw va vb];refine⟨?_,QvK ho hb vb ha va _⟩;have:=QvI (c:=d) ho g2 hd ha (w+1);rw[h1.look]at this;exact BS
   .have vb:=g4.trans (XA hd);rw[XA hd];obtain⟨a1,_⟩:=QiV ho.gl h2;obtain⟨b1,b2⟩:=QiV ho.gl g2;have sH:=Q4 (H9 ho.gl h2);have rK:=Q4 (H9 ho.gl g2)
    have Ta:(c.k=d.k/\GA c=GA d/\c.s=d.s/\(CI (x+1) (QU c).toNat).length=(CI (y+1) (QU d).toNat).length)↔c=d:=by
     rw[Qph,Qph];clear va vb h4 g4 h1 g1 h2 g2 h3 g3 a1 b1 vT;obtain⟨_,_,cs⟩:=c;obtain⟨_,_,_⟩:=d;simp only[HC.mk.injEq,GA,QU]at*;constructor
     .rintro⟨e1,_,e3,e4⟩;subst e1;refine⟨rfl,?_,e3⟩;split at e4<;>simp_all<;>omega
     .rintro⟨rfl,rfl,rfl⟩;exact⟨rfl,rfl,rfl,rfl⟩
    unfold MJ;by_cases xY:c=d
    .have he:AD (B2 σ (w+1)).cs x=AD (B2 σ (w+1)).cs y:=by show AD σ.cs x=AD σ.cs y;rw[h2,g2,xY]
     rw[XB he,show IH (f+1) a b σ w=E7 (IH f) (CI (x+1) (QU c).toNat) (CI (y+1) (QU d).toNat) σ (w+1)from Qyc (A:=D6) hw va vb (Ta.2 xY)]
     have Tb:EG (B2 σ (w+1)).cs x=(QU c).toNat:=by show EG σ.cs x=_;unfold EG;rw[h2]
     rw[Tb,<-xY];rw[<-xY]at b1 b2
     exact QvT σ.cs.length (fun p q τ w' hτ hn hp hq=>by
      obtain⟨i1,i2,i3⟩:=Qtr f p q τ w' hτ hp hq
      exact⟨i1,i2,i3.trans hn⟩) _ _ _ _ _ ho rfl fun i i0 i1=>by
       have p1:=Qq.1 (a1 i i0 Ya);have p2:=Qq.1 (b1 i i0 Ya);omega
    .have he:¬AD (B2 σ (w+1)).cs x=AD (B2 σ (w+1)).cs y:=by
      show¬AD σ.cs x=AD σ.cs y;rw[h2,g2];exact fun e=>xY (V9 e)
     rw[XA he,show IH (f+1) a b σ w=⟨false,σ,w+1⟩from Qyb (A:=D6) hw va vb fun h=>xY (Ta.1 h)];exact⟨rfl,ho,rfl⟩
theorem Qrf{h:HH}{g g':Int->Nat->Option (Tm×Nat)}(hg:∀x l,Qo h.cs x=true->g x l=g' x l):∀(m:Nat) (x:Int) (l:Nat),(∀i:Int,0<=i->i<m->Qo h.cs (x+i)=true)->H5 g m x l=CD g' (CI x m) l
 |0,x,l,_=>rfl
 |m+1,x,l,hd=>by
  have h0:=hd 0 Ya Ya;rw[show x+0=x by omega]at h0;simp only[H5,CI,CD];rw[hg x l h0]
  cases g' x l with
  |none=>rfl
  |some p=>
   obtain⟨t,l'⟩:=p;simp only[VU];rw[Qrf hg m (x+1) l' fun i i0 i1=>by rw[show x+1+i=x+(i+1) by omega];exact hd _ Ya Ya];cases CD g' (CI (x+1) m) l'<;>rfl
theorem Qxr{h:HH}(ho:BB h):∀(f:Nat) (a:Int) (l:Nat),Qo h.cs a=true->ER h.cs f a l=MX h f a l
 |0,a,l,_=>rfl
 |f+1,a,l,ha=>by
  by_cases hl:l=0
  .subst hl;rw[show MX h (f+1) a 0=none from QoX (A:=D6)];simp[ER]
  obtain⟨x,c,h1,h2,_,h4⟩:=ho.view ha;rw[Qma hl (by rw[h1.look];exact h2),h1.look];have sH:=Q4 (H9 ho.gl h2);by_cases hk:c.k=0
  .rw[XB hk];exact(QiW (A:=D6) hl (h4.trans (XB hk))).symm
  have hv:=h4.trans (XA hk);rw[XA hk,show MX h (f+1) a l=(CD (MX h f) (CI (x+1) (QU c).toNat) (l-1)).map fun p=>(⟨c.k,GA c,c.s,p.1⟩,p.2)from Qg9 (A:=D6) hl hv];by_cases k1:c.k=1
  .rw[XB k1]
   have e1:QU c=0:=by unfold QU;rw[XA Ya]
   have e2:GA c=0:=by unfold GA;rw[XA Ya];omega
   simp only[e1,e2,k1,Int.toNat_zero,CI,CD,X7]
  by_cases k2:c.k=2
  .rw[XA k1,XB k2]
   have e1:QU c=0:=by unfold QU;rw[XA Ya]
   have e2:GA c=c.n:=by unfold GA;rw[XA Ya]
   have e3:c.s=eS:=by
    rcases sH with h|h|h|h
    .omega
    .omega
    .exact h.2
    .omega
   simp only[e1,e2,k2,e3,Int.toNat_zero,CI,CD,X7]
  rw[XA k1,XA k2];have k3:c.k=3:=by omega
  have e2:GA c=0:=by unfold GA;rw[XB k3]
  obtain⟨g1,_⟩:=QiV ho.gl h2;rw[Qrf (fun y l hy=>Qxr ho f y l hy) _ _ _ fun i i0 i1=>g1 i i0 Ya,e2,k3]
def MF(k n:Int)(s:TJ):HC:=if k=0 then⟨0,n,eS⟩else if k=2 then⟨2,n,eS⟩else⟨1,0,s⟩
def BE:Ts->Nat->List HC×List HC
 | .nil,_=>([],[])
 | .cons k n s ar r,p=>
  if k = 3 then
   (⟨0,(p:Nat),eS⟩::(BE r (p+(((BE ar (p+1+ar.length)).1++(BE ar (p+1+ar.length)).2).length+1))).1,
     (⟨3,(ar.length:Nat),s⟩::((BE ar (p+1+ar.length)).1++(BE ar (p+1+ar.length)).2))++(BE r (p+(((BE ar (p+1+ar.length)).1++(BE ar (p+1+ar.length)).2).length+1))).2)
  else(MF k n s::(BE r p).1,(BE r p).2)
def I0(s:TJ)(ar:Ts)(p:Nat):List HC:=⟨3,(ar.length:Nat),s⟩::((BE ar (p+1+ar.length)).1++(BE ar (p+1+ar.length)).2)
def BV(k n:Int)(s:TJ)(ar:Ts)(p:Nat):List HC:=if k=3 then I0 s ar p else[MF k n s]
def AQ:Ts->Nat->List HC×T7
 | .nil,_=>([],[])
 | .cons k n s ar r,p=>(BV k n s ar p++(AQ r (p+(BV k n s ar p).length)).1,(p:Nat)::(AQ r (p+(BV k n s ar p).length)).2)
def GD:Nat->Nat->List HC
 |0,_=>[]
 |m+1,i=>⟨0,(i:Nat),eS⟩::GD m (i+1)
def EX(n:Nat):List HC:=GD n 0
theorem ZT:∀m i,(GD m i).length=m
 |0,_=>rfl
 |m+1,i=>by simp[GD,ZT m (i+1)]
theorem IZ(n:Nat):(EX n).length=n:=ZT n 0
theorem Qnh:∀m i j,j<m->(GD m i)[j]?=some ⟨0,((i+j:Nat):Int),eS⟩
 |0,_,_,h=>by omega
 |m+1,i,0,h=>by simp[GD]
 |m+1,i,j+1,h=>by
  have:=Qnh m (i+1) j Ya;rw[show i+(j+1)=i+1+j by omega];simpa[GD]using this
theorem Qto{n j:Nat}(h:j<n):(EX n)[j]?=some ⟨0,(j:Nat),eS⟩:=by
 have:=Qnh n 0 j h
 rwa [XQ]at this
theorem QkV:∀m i,GD (m+1) i=GD m i++[⟨0,((i+m:Nat):Int),eS⟩]
 |0,i=>by simp[GD]
 |m+1,i=>by
  rw[GD,QkV m (i+1),GD];rw[show i+1+m=i+(m+1) by omega];rfl
theorem SD(n:Int)(s:TJ)(ar r:Ts)(p:Nat):BE (.cons 3 n s ar r) p=(⟨0,(p:Nat),eS⟩::(BE r (p+(I0 s ar p).length)).1,I0 s ar p++(BE r (p+(I0 s ar p).length)).2):=by
 rw[BE,XB rfl];rfl
theorem M1{k:Int}(n:Int)(s:TJ)(ar r:Ts)(p:Nat)(h:k≠3):BE (.cons k n s ar r) p=(MF k n s::(BE r p).1,(BE r p).2):=by
 rw[BE,XA h]
theorem PQ(T:Ts):∀p,(BE T p).1.length=T.length:=by
 induction T with
 |nil=>intro p;rfl
 |cons k n s ar r _ ih=>
  intro p;by_cases h:k=3
  .subst h;rw[SD];simp[Ts.length,ih]
  .rw[M1 _ _ _ _ _ h];simp[Ts.length,ih]
theorem TW(s:TJ)(ar:Ts)(p:Nat):(I0 s ar p).length=1+ar.length+(BE ar (p+1+ar.length)).2.length:=by
 simp only[I0,XJ,XG,PQ];omega
theorem Qrk(D R:Ts):∀p,BE (D.app R) p=((BE D p).1++(BE R (p+(BE D p).2.length)).1,(BE D p).2++(BE R (p+(BE D p).2.length)).2):=by
 induction D with
 |nil=>intro p;simp[Ts.app,BE]
 |cons k n s ar r _ ih=>
  intro p;by_cases h:k=3
  .subst h;rw[Ts.app,SD,SD,ih];simp only[XG,VI,VB,WE]
  .rw[Ts.app,M1 _ _ _ _ _ h,M1 _ _ _ _ _ h,ih];simp only[VI]
theorem QuZ(T:Ts):∀p,(BE T p).2.length+T.length<=2*T.nodes:=by
 induction T with
 |nil=>intro p;simp[BE,Ts.length,Ts.nodes]
 |cons k n s ar r rO qO=>
  intro p;by_cases h:k=3
  .subst h;rw[SD];have h1:=rO (p+1+ar.length);have h2:=qO (p+(I0 s ar p).length);have h3:=TW s ar p;simp only[XG,Ts.length,Ts.nodes];omega
  .rw[M1 _ _ _ _ _ h];have h2:=qO p;simp only[Ts.length,Ts.nodes];omega
theorem QpS(k n:Int)(s:TJ)(ar:Ts)(p:Nat):(BV k n s ar p).length<=1+2*ar.nodes:=by
 unfold BV;split
 .have:=QuZ ar (p+1+ar.length);rw[TW];omega
 .simp
theorem Qrj(D R:Ts):∀p,AQ (D.app R) p=((AQ D p).1++(AQ R (p+(AQ D p).1.length)).1,(AQ D p).2++(AQ R (p+(AQ D p).1.length)).2):=by
 induction D with
 |nil=>intro p;simp[Ts.app,AQ]
 |cons k n s ar r _ ih=>
  intro p;simp only[Ts.app,AQ,ih,XG,VI,VB,WE]
theorem Qmz(T:Ts):∀p,(AQ T p).1.length<=2*T.nodes:=by
 induction T with
 |nil=>intro p;simp[AQ]
 |cons k n s ar r rO qO=>
  intro p;have h1:=QpS k n s ar p;have h2:=qO (p+(BV k n s ar p).length);simp only[AQ,XG,Ts.nodes];omega
theorem Qmy(T:Ts):∀p,(AQ T p).2.length=T.length:=by
 induction T with
 |nil=>intro p;rfl
 |cons k n s ar r rO qO=>intro p;simp only[AQ,XJ,qO,Ts.length]
def QB(c:Cl):List HC:=EX c.vars.toNat++(BV c.k c.n c.s c.hd c.vars.toNat++(AQ c.bd (c.vars.toNat+(BV c.k c.n c.s c.hd c.vars.toNat).length)).1)
def EE(c:Cl):T7:=(AQ c.bd (c.vars.toNat+(BV c.k c.n c.s c.hd c.vars.toNat).length)).2
def DE(vars:Int)(T:Ts):List HC:=EX vars.toNat++(AQ T vars.toNat).1
def GS(vars:Int)(T:Ts):T7:=(AQ T vars.toNat).2
theorem Ts.goals_nodes(vars:Int):∀T:Ts,T.goals vars=true->T.nodes<=24*T.length
 | .nil,_=>by simp[Ts.nodes]
 | .cons k n s ar r,h=>by
  simp only[Ts.goals,XI,gB,XO]at h;have:=Ts.goals_nodes vars r h.2;exact S5
structure XL where
 g:Int
 o:Nat
 nx:Int
structure XC where
 at_:Nat
 cls:List Cl
 cells:Nat
 bound:Nat
structure XS where
 h:HH
 goals:Nat
 ln:List XL
 first:Int
 ch:List XC
 ev:List Ts
def AH(L:List XL)(i:Nat):XL:=L.getD i ⟨0,0, -1⟩
def BU(start:Nat)(o:Nat):T7->Int->List XL->List XL×Int
 |[],nx,L=>(L,nx)
 |g::r,nx,L=>((BU start o r nx L).1++[⟨start+g,o,(BU start o r nx L).2⟩],((BU start o r nx L).1.length:Nat))
def IL(h:HH)(b:Cl)(g:Int):HH×Bool×Int:=CX (BN h (QB b)).1 ((BN h (QB b)).2.1+b.vars) g
def XS.took(s:XS)(a:Nat)(b:Cl)(more:List Cl)(cells bound:Nat):XS:=
 ⟨(IL s.h b (AH s.ln a).g).1,s.goals,(BU (BN s.h (QB b)).2.1 s.ch.length (EE b) (AH s.ln a).nx s.ln).1,(BU (BN s.h (QB b)).2.1 s.ch.length (EE b) (AH s.ln a).nx s.ln).2,
   match more with|[]=>s.ch|_::_=>⟨a,more,cells,bound⟩::s.ch,s.ev⟩
def LH(k:XS->Int×XS)(a cells bound:Nat):List Cl->XS->Int×XS
 |[],s=>k s
 |b::more,s=>
  if(IL s.h b (AH s.ln a).g).2.2≠0 then(4,s)
  else if(IL s.h b (AH s.ln a).g).2.1=false then LH k a cells bound more s
  else(0,s.took a b more cells bound)
def XS.back(s:XS)(c:XC)(cs:List XC):XS:=⟨(IJ (GF s.h (c.bound:Nat)).1 (c.cells:Nat)).1,s.goals,s.ln,s.first,cs,s.ev⟩
def GT:List XC->XS->Int×XS
 |[],s=>(2,s)
 |c::cs,s=>LH (GT cs) c.at_ c.cells c.bound c.cls (s.back c cs)
def MZ(s:XS):Int×XS:=GT s.ch s
def XS.setH(s:XS)(h:HH):XS:=⟨h,s.goals,s.ln,s.first,s.ch,s.ev⟩
def OD(a b:Int)(s:XS):Int×XS:=
 if(CX s.h a b).2.2≠0 then(4,s.setH (CX s.h a b).1)
 else if(CX s.h a b).2.1=false then MZ (s.setH (CX s.h a b).1)
 else(0,s.setH (CX s.h a b).1)
def BC(h:HH)(a:Int):HC:=(AD h.cs (Qw h.cs a)).getD ⟨0,0,eS⟩
def SK(a:Int)(s:XS):Int×XS:=
 if(BC s.h a).k≠2\/(BC s.h (a+1)).k≠2 then(5,s)else if(BC s.h (a+1)).n<=(BC s.h a).n then MZ s else(0,s)
def R6(a:Int)(s:XS):Int×XS:=
 if(BC s.h a).k≠2\/(BC s.h (a+1)).k≠2 then(5,s)
 else if(BC s.h a).n+(BC s.h (a+1)).n< -1099511627776\/1099511627776<(BC s.h a).n+(BC s.h (a+1)).n then(5,s)
 else OD (a+2) (BN s.h [⟨2,(BC s.h a).n+(BC s.h (a+1)).n,eS⟩]).2.1 (s.setH (BN s.h [⟨2,(BC s.h a).n+(BC s.h (a+1)).n,eS⟩]).1)
def DX(h:HH)(g:Int):HC:=(AD h.cs g).getD ⟨0,0,eS⟩
def OV(l:XL)(s:XS):Int×XS:=
 if(DX s.h l.g).s.toList=[33]then(0,⟨s.h,s.goals,s.ln,s.first,s.ch.drop (s.ch.length-l.o),s.ev⟩)
 else if(DX s.h l.g).s.toList=[116,114,117,101]then(0,s)
 else if(DX s.h l.g).s.toList=[101,113]then OD (l.g+1) (l.g+1+1) s
 else if(DX s.h l.g).s.toList=[108,101,115,115]then SK (l.g+1) s
 else if(DX s.h l.g).s.toList=[97,100,100]then R6 (l.g+1) s
 else MZ s
def FK(h:HH):Nat->Nat->Int->Option (Ts×Int)
 |0,_,l=>some (.nil,l)
 |m+1,v,l=>if(D4 h (v:Nat) l).2.2≠0 then none else match FK h m (v+1) (l-((D4 h (v:Nat) l).2.1:Nat))with
  |none=>none
  |some (T,l'')=>some (.cons (D4 h (v:Nat) l).1.k (D4 h (v:Nat) l).1.n (D4 h (v:Nat) l).1.s (D4 h (v:Nat) l).1.ar T,l'')
def XS.tell(s:XS)(T:Ts):XS:=⟨s.h,s.goals,s.ln,s.first,s.ch,s.ev++[T.tidy]⟩
def N7(vars:Nat)(s:XS):Int×XS:=match FK s.h vars 0 200 with
 |none=>(4,s)
 |some (T,_)=>if s.ev.length+1=12 then(6,s.tell T)else MZ (s.tell T)
def MO(c:Cl):HC:=if c.k=3 then⟨3,(c.hd.length:Nat),c.s⟩else MF c.k c.n c.s
def PE(p:List Cl)(a:Nat)(s:XS):Int×XS:=match p.filter (fun c=>decide (MO c=DX s.h (AH s.ln a).g))with
 |[]=>(5,s)
 |b::more=>LH (GT s.ch) a s.h.cs.length s.h.tr.length (b::more) s
def EH(L:List XL):Nat->Int->T8×T6->T8×T6
 |0,_,p=>p
 |f+1,i,p=>if i= -1 then p else if p.1[i.toNat]?=some true then p else EH L f (AH L i.toNat).nx (p.1.set i.toNat true,p.2++[i.toNat])
def MG(L:List XL):List XC->T8×T6->T8×T6
 |[],p=>p
 |c::r,p=>MG L r (EH L (L.length+1) (c.at_:Nat) p)
def ET(s:XS):T6:=(MG s.ln s.ch.reverse (EH s.ln (s.ln.length+1) s.first (List.replicate s.ln.length false,[]))).2
def MN(L:List XL)(i:Nat)(g:Int):List XL:=L.modify i fun l=>⟨g,l.o,l.nx⟩
def H4:T6->T7->List XL->List XL
 |i::r,g::q,L=>H4 r q (MN L i g)
 |_,_,L=>L
def Qww:List XC->T7->T7->List XC
 |c::r,t::T,k::K=>⟨c.at_,c.cls,t.toNat,k.toNat⟩::Qww r T K
 |L,_,_=>L
def CR(vars:Nat)(s:XS):T7:=((List.range vars).map fun v=>((v:Nat):Int))++(ET s).map fun i=>(AH s.ln i).g
noncomputable def Qki (vars:Nat) (s:XS):XS:=
 let r:=Qcb s.h (CR vars s) (s.ch.reverse.map fun c=>((c.cells:Nat):Int)) (s.ch.reverse.map fun c=>((c.bound:Nat):Int))
 ⟨r.1,s.goals,H4 (ET s) (r.2.1.drop vars) s.ln,s.first,(Qww s.ch.reverse r.2.2.1 r.2.2.2.1).reverse,s.ev⟩
noncomputable def QT (vars every:Nat) (s:XS):XS:=if 0<every/\s.goals%every=0 then Qki vars s else s
noncomputable def Qby (p:List Cl) (vars fuel every:Nat) (s:XS):Int×XS:=
 if s.first= -1 then N7 vars s
 else if s.goals=fuel then(3,s)
 else
  let t:=QT vars every s
  let u:XS:=⟨t.h,t.goals+1,t.ln,(AH t.ln t.first.toNat).nx,t.ch,t.ev⟩
  if Q1 (DX u.h (AH u.ln t.first.toNat).g).s.toList (DX u.h (AH u.ln t.first.toNat).g).n.toNat=true then OV (AH u.ln t.first.toNat) u else PE p t.first.toNat u
noncomputable def Qwy (p:List Cl) (vars fuel every:Nat):Nat->XS->List Ev
 |0,_=>[]
 |n+1,s=>if(Qby p vars fuel every s).1=0 then Qwy p vars fuel every n (Qby p vars fuel every s).2 else FD (Qby p vars fuel every s).2.ev++[((Qby p vars fuel every s).1,.nil)]
def M5(q:Ts)(vars:Int):XS:=
 ⟨(BN ⟨[],[]⟩ (DE vars q)).1,0,(BU (BN ⟨[],[]⟩ (DE vars q)).2.1 0 (GS vars q) (-1) []).1,(BU (BN ⟨[],[]⟩ (DE vars q)).2.1 0 (GS vars q) (-1) []).2,[],[]⟩
theorem QsO{n f f':Nat}{c:HC}(hf:f<=f')(h:BM n c f=true):BM n c f'=true:=by
 rcases Q4 h with⟨k,a,b,s⟩|⟨k,a,s⟩|⟨k,s⟩|⟨k,a,b,d,s⟩
 .unfold BM;rw[XB k];simp[a,b,s]
 .unfold BM;rw[XA Ya,XB k];simp[a,s]
 .unfold BM;rw[XA Ya,XA Ya,XB k];simp[s]
 .unfold BM;rw[XA Ya,XA Ya,XA Ya,XB k];simp only[XI,XO,XaU,WI];exact⟨a,b,by omega,s⟩
theorem PZ{n:Nat}{Y:List HC}(hY:Q2 n Y=true):∀{X:List HC},Q2 n X=true->Q2 n (X++Y)=true
 |[],_=>hY
 |c::r,h=>by
  simp only[Q2,XI,VI]at h⊢;exact⟨QsO Yd h.1,PZ hY h.2⟩
theorem Qn8{s:TJ}(h:DR s=true):s≠eS:=by
 intro e;subst e;exact absurd h Yf
theorem QqI{s:TJ}(h:s.toList=[]):s=eS:=by
 apply TZ.1;rw[h];kernel_rfl
theorem US{vars k n:Int}{s:TJ}{l:Nat}(h:CL vars k n s l=true):(k=0/\0<=n/\n<vars/\s=eS/\l=0)\/(k=1/\n=0/\s≠eS/\l=0)\/(k=2/\s=eS/\l=0)\/(k=3/\n=0/\s≠eS/\1<=l/\l<=4):=by
 unfold CL at h;split at h
 .simp only[XI,XO]at h;exact .inl ⟨‹_›,h.1.1.1,h.1.1.2,QqI h.1.2,h.2⟩
 split at h
 .simp only[XI,XO]at h;exact .inr (.inl ⟨‹_›,h.1.1,Qn8 h.1.2,h.2⟩)
 split at h
 .simp only[XI,XO]at h;exact .inr (.inr (.inl ⟨‹_›,QqI h.1.2,h.2⟩))
 split at h
 .simp only[XI,XO]at h;exact .inr (.inr (.inr ⟨‹_›,h.1.1.1.1,Qn8 h.1.1.1.2,h.1.2,h.2⟩))
 .cases h
theorem P9{vars k n:Int}{s:TJ}{ar r:Ts}(h:(Ts.cons k n s ar r).good vars=true):CL vars k n s ar.length=true/\ar.good vars=true/\r.good vars=true:=by
 simp only[Ts.good,XI]at h;exact⟨h.1.1,h.1.2,h.2⟩
theorem Ts.good_ap(v:Int)(D R:Ts):(D.app R).good v=(D.good v&&R.good v):=by
 induction D with
 |nil=>rfl
 |cons k n b ar r _ ih=>simp only[Ts.app,Ts.good,ih,JE]
theorem Qj8{n f:Nat}{i:Int}(h0:0<=i)(h:i<n):BM n ⟨0,i,eS⟩ f=true:=by unfold BM;simp[h,h0]
theorem QlM{n f:Nat}{s:TJ}(h:s≠eS):BM n ⟨1,0,s⟩ f=true:=by unfold BM;simp[h]
theorem Qoz{n f:Nat}{i:Int}:BM n ⟨2,i,eS⟩ f=true:=by unfold BM;simp
theorem Qj9{n f l:Nat}{s:TJ}(h:s≠eS)(h1:1<=l)(h2:l<=4)(h3:l<=f):BM n ⟨3,(l:Nat),s⟩ f=true:=by
 unfold BM;simp[h];omega
theorem Qu0{vars:Int}{all:Nat}(hv:vars<=all)(T:Ts):∀p,T.good vars=true->p+(BE T p).2.length<=all->Q2 all (BE T p).1=true/\Q2 all (BE T p).2=true:=by
 induction T with
 |nil=>intro p _ _;exact FI
 |cons k n s ar r rO qO=>
  intro p hg hp;obtain⟨hn,ha,hr⟩:=P9 hg;rcases US hn with⟨rfl,h0,h1,h2,h3⟩|⟨rfl,h0,h1,h2⟩|⟨rfl,h0,h1⟩|⟨rfl,h0,h1,h2,h3⟩
  .rw[M1 _ _ _ _ _ Yf]at hp⊢;obtain⟨i1,i2⟩:=qO p hr hp;refine⟨?_,i2⟩;simp only[Q2,XI];exact⟨Qj8 h0 Ya,i1⟩
  .rw[M1 _ _ _ _ _ Yf]at hp⊢;obtain⟨i1,i2⟩:=qO p hr hp;refine⟨?_,i2⟩;simp only[Q2,XI];exact⟨QlM h1,i1⟩
  .rw[M1 _ _ _ _ _ Yf]at hp⊢;obtain⟨i1,i2⟩:=qO p hr hp;refine⟨?_,i2⟩;simp only[Q2,XI];exact⟨Qoz,i1⟩
  .rw[SD]at hp⊢;have Ja:=TW s ar p;simp only[XG]at hp;obtain⟨a1,a2⟩:=rO (p+1+ar.length) ha Ya;obtain⟨i1,i2⟩:=qO (p+(I0 s ar p).length) hr Ya;refine⟨?_,PZ i2 ?_⟩
   .simp only[Q2,XI];exact⟨Qj8 Ya Ya,i1⟩
   .exact Ycr
theorem Qop{vars k n:Int}{s:TJ}{ar:Ts}{all p:Nat}(hv:vars<=all)(h:gB vars k n s ar=true)(hp:p+(BV k n s ar p).length<=all):Q2 all (BV k n s ar p)=true:=by
 simp only[gB,G6,XI,Xal,XO]at h;obtain⟨hn,ha,_⟩:=P9 h.1.2;rcases US hn with⟨rfl,_⟩|⟨rfl,h0,h1,h2⟩|⟨rfl,_⟩|⟨rfl,h0,h1,h2,h3⟩
 .rcases h.1.1 with h|h<;>omega
 .unfold BV;rw[XA Yf];simp only[Q2,XI,VX];exact QlM h1
 .rcases h.1.1 with h|h<;>omega
 .unfold BV at hp⊢;rw[XB rfl]at hp⊢;have Ja:=TW s ar p;obtain⟨a1,a2⟩:=Qu0 hv ar (p+1+ar.length) ha Ya;exact Ycr
theorem Qoo{vars:Int}{all:Nat}(hv:vars<=all)(T:Ts):∀p,T.goals vars=true->p+(AQ T p).1.length<=all->Q2 all (AQ T p).1=true:=by
 induction T with
 |nil=>intro p _ _;rfl
 |cons k n s ar r _ qO=>
  intro p hg hp;simp only[Ts.goals,XI]at hg;simp only[AQ,XG]at hp⊢;exact PZ (qO _ hg.2 Ya) (Qop hv hg.1 Ya)
theorem Qho{all:Nat}:∀m i,i+m<=all->Q2 all (GD m i)=true
 |0,i,_=>rfl
 |m+1,i,h=>by
  simp only[GD,Q2,XI];exact⟨Qj8 Ya Ya,Qho m (i+1) Ya⟩
theorem PN{c:Cl}(h:cB c=true):0<=c.vars/\c.vars<=8/\c.bd.length<=5/\c.bd.goals c.vars=true/\gB c.vars c.k c.n c.s c.hd=true:=by
 exact Yco
theorem Qrw{vars k n:Int}{s:TJ}{ar:Ts}(h:gB vars k n s ar=true):ar.nodes+1<=24:=by
 simp only[gB,XI,XO]at h;exact h.2
theorem ZU{c:Cl}(h:cB c=true):(QB c).length<=300:=by
 obtain⟨_,h1,h2,h3,h4⟩:=PN h;have h5:=Qrw h4;have h6:=Ts.goals_nodes _ _ h3;have h7:=QpS c.k c.n c.s c.hd c.vars.toNat;have h8:=Qmz c.bd (c.vars.toNat+(BV c.k c.n c.s c.hd c.vars.toNat).length);simp only[QB,XG,IZ];omega
theorem Qkl{c:Cl}(h:cB c=true):D7 (QB c)=true:=by
 obtain⟨_,h1,h2,h3,h4⟩:=PN h;have hl:=ZU h;unfold D7;simp only[XI,XO];refine⟨by omega,?_⟩
 have he:(QB c).length=c.vars.toNat+((BV c.k c.n c.s c.hd c.vars.toNat).length+(AQ c.bd (c.vars.toNat+(BV c.k c.n c.s c.hd c.vars.toNat).length)).1.length):=by
  simp only[QB,XG,IZ]
 unfold QB;refine PZ (PZ (Qoo (vars:=c.vars) Z2 _ _ h3 Z2) (Qop (vars:=c.vars) Z2 h4 Z2)) (Qho _ _ Z2)
end Go.Proofs.YthliapbflkfdiacGreatDoor
