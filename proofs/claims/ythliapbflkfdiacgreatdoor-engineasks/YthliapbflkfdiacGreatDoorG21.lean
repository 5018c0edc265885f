/- PSim4, HModel, HMem, HRow, CTerm: texts that follow one another, laid into one file. -/
import Derived.Test.YthliapbflkfdiacGreatDoorZ0
import Derived.Test.YthliapbflkfdiacGreatDoorG20
import Derived.Test.YthliapbflkfdiacGreatDoorG1
import Derived.Test.YthliapbflkfdiacGreatDoorG7
import Derived.Test.YthliapbflkfdiacGreatDoorG14
import Derived.Lib.SliceRun
namespace Go.Proofs.YthliapbflkfdiacGreatDoor
open Go.RowKit
set_option linter.unusedVariables false
set_option linter.unusedSimpArgs false
theorem QeA.top {ρ:Int→Int→Prop} {t t':Tm} (h:QeA ρ t t'):t.s=t'.s∧t.ar.length=t'.ar.length∧TsR ρ t.ar t'.ar:=by
 rcases h.cases with ⟨_,_,_,h1,h2,h3⟩|⟨_,_,_,h1,h2⟩
 ·exact ⟨h1,by rw [h2,h3],by rw [h2,h3];exact .nil⟩
 ·exact ⟨h1,h2.len,h2⟩
theorem TsR.at_ {ρ:Int→Int→Prop} {T U:Ts} (h:TsR ρ T U):∀{i:Nat},i<T.length→QeA ρ (T.at_ i) (U.at_ i):=by
 induction h with
 |nil=>intro i hi;simp [Ts.length] at hi
 |var h1 _ ih=>
  intro i hi
  cases i with
  |zero=>exact .var h1 .nil
  |succ i=>exact ih (by simpa [Ts.length] using hi)
 |node h1 h2 _ _ ih=>
  intro i hi
  cases i with
  |zero=>exact .node h1 h2 .nil
  |succ i=>exact ih (by simpa [Ts.length] using hi)
theorem Qok {ρ:Int→Int→Prop} {B e:Bnd} (h:Bm Qgp Qdl (QeA ρ) B e) {t t':Tm} (ht:QeA ρ t t'):((Qc B t).k=0∧(Qc e t').k=0)∨((Qc B t).k≠0∧(Qc B t).k=(Qc e t').k∧(Qc B t).n=(Qc e t').n):=by
 rcases h.cases ht with ⟨u,v,e1,e2⟩|⟨k,n,s,ar,ar',e1,e2,_⟩
 ·exact .inl ⟨(Qao.1 e1).1,(Qao.1 e2).1⟩
 ·obtain ⟨a1,a2,a3,_⟩:=Qcj (B:=B) e1
  obtain ⟨b1,b2,b3,_⟩:=Qcj (B:=e) e2
  exact .inr ⟨by rw [a1];exact a2,by rw [a1,b1],by rw [a3,b3]⟩
theorem QuH {g:Tm→Nat→Option (Tm×Nat)}:∀(T:Ts) (l:Nat),Qku g T l=QdB g T.tms l
 | .nil,l=>rfl
 | .cons k n s a r,l=>by
  simp only [Qku,Ts.tms,QdB]
  cases g ⟨k,n,s,a⟩ l with
  |none=>rfl
  |some p=>
   obtain ⟨t,l'⟩:=p
   dsimp only
   rw [QuH r]
   all_goals (cases QdB g r.tms l'<;>rfl)
theorem QlC {g g':Tm→Nat→Option (Tm×Nat)}:∀(l:List Tm),(∀x∈l,∀m,g x m=g' x m)→∀m,QdB g l m=QdB g' l m
 |[],_,m=>rfl
 |x::r,h,m=>by
  simp only [QdB]
  rw [h x (List.mem_cons_self ..) m]
  cases g' x m with
  |none=>rfl
  |some p=>
   obtain ⟨t,l'⟩:=p
   dsimp only
   rw [QlC r (fun y hy=>h y (List.mem_cons_of_mem _ hy))]
theorem QtF {x:Tm}:∀{T:Ts},x∈T.tms→T.Mem x
 | .nil,h=>by cases h
 | .cons k n s a r,h=>by
  rcases List.mem_cons.1 h with rfl|h
  ·exact .inl rfl
  ·exact .inr (QtF h)
theorem Qmb {t:Tm} (h:tgd t) (hk:t.k=0):t.s=⟨#[]⟩∧t.ar= .nil:=by
 have:=h.1
 simp only [Ts.good,Bool.and_eq_true] at this
 have hn:=this.1.1
 unfold QaH at hn
 rw [if_pos hk] at hn
 simp only [Bool.and_eq_true,decide_eq_true_eq] at hn
 exact ⟨QkY.1 (hn.1.2.trans (Qap []).symm),Ts.nil_of_length hn.2⟩
theorem QvM {B:Bnd} (hB:∀x∈B,tgd x.2):∀(f:Nat) (t:Tm) (l:Nat),tgd t→QlY B f t l=QdT Qgp B f t l
 |0,t,l,_=>rfl
 |f+1,t,l,ht=>by
  have hl:=Qd3 hB ht
  simp only [QlY,QdT]
  split
  ·rfl
  ·rw [show Qgp.view B t=tvw (Qc B t) from rfl]
   unfold tvw
   by_cases hk:(Qc B t).k=0
   ·rw [if_pos hk]
    obtain ⟨h1,h2⟩:=Qmb hl hk
    rw [h2,h1,hk];rfl
   ·rw [if_neg hk,QuH]
    have:=QlC (g:=QlY B f) (g':=QdT Qgp B f) (Qc B t).ar.tms (fun x hx m=>QvM hB f x m (Qax _ hl x (QtF hx))) (l-1)
    rw [this];rfl
theorem Qyf {v:Nat} (hv:v<1000):tgd ⟨0,(v:Nat),⟨#[]⟩,.nil⟩:=by
 refine ⟨?_,by simp [Ts.nodes]⟩
 simp only [Ts.good,Bool.and_eq_true,and_true]
 unfold QaH
 rw [if_pos rfl]
 simp only [Bool.and_eq_true,decide_eq_true_eq]
 exact ⟨⟨⟨by omega,by omega⟩,Qap []⟩,rfl⟩
theorem Qnf {ρ:Int→Int→Prop} {B e:Bnd} (h:Bm Qgp Qdl (QeA ρ) B e) (hB:∀x∈B,tgd x.2):∀(m v l:Nat),v+m≤1000→(∀x:Nat,x<v+m→ρ x x)→Qy9 (fun p q:Ts×Nat=>p.2=q.2∧TsR (Bm.rho Qgp Qdl (QeA ρ) B e) p.1 q.1) (Qb2 B m v l) (Qhm QfL e m v l)
 |0,v,l,_,_=>⟨rfl,.nil⟩
 | m + 1, v, l, hv, hq => by
  simp only [Qb2,Qhm]
  rw [QvM hB 201 _ l (Qyf Ya)]
  have h1:=Qqg h (fun {x k n s ar} hx _=>(Qcj (B:=B) hx).2.1) 201 ⟨0,(v:Nat),⟨#[]⟩,.nil⟩ ⟨0,(v:Nat),⟨#[]⟩,.nil⟩ l (.var (hq v Ya) .nil)
  cases e1:QdT Qgp B 201 ⟨0,(v:Nat),⟨#[]⟩,.nil⟩ l with
  |none=>
   cases e2:QdT Qdl e 201 ⟨0,(v:Nat),⟨#[]⟩,.nil⟩ l with
   |none=>trivial
   |some p=>rw [e1,e2] at h1;exact h1.elim
  |some p=>
   cases e2:QdT Qdl e 201 ⟨0,(v:Nat),⟨#[]⟩,.nil⟩ l with
   |none=>rw [e1,e2] at h1;exact h1.elim
   |some r=>
    rw [e1,e2] at h1
    obtain ⟨p1,p2⟩:=p
    obtain ⟨r1,r2⟩:=r
    obtain ⟨rfl,h3⟩:p2=r2∧_:=h1
    have h4:=Qnf h hB m (v+1) p2 Ya (fun x hx=>hq x Ya)
    dsimp only
    cases e3:Qb2 B m (v+1) p2 with
    |none=>
     cases e4:Qhm QfL e m (v+1) p2 with
     |none=>trivial
     |some q=>rw [e3,e4] at h4;exact h4.elim
    |some p'=>
     cases e4:Qhm QfL e m (v+1) p2 with
     |none=>rw [e3,e4] at h4;exact h4.elim
     |some q'=>
      rw [e3,e4] at h4
      exact ⟨h4.1,h3.put h4.2⟩
section
variable {P:List Cl} {q:Nat}
theorem Qvf (l:List Ts) (T:Ts):Qdc (l++[T])=Qdc l++[(1,T)]:=by simp [Qdc]
theorem QqF {ρ:Int→Int→Prop} {h:Nat→Nat} {s:SS} {e:Bnd} {p:Qa0} (hq:q≤8) (hR:Rl ρ h q s [] e p):
  Rs P q (Qch P q s) s.B s.fresh (Qm9 h s.ch (Qf3 q e p).1) p (Qf3 q e p).2∧((Qf3 q e p).2.ended=false→(Qf3 q e p).1= -1):=by
 have hg:s.goals=[]:=by have:=hR.gl;cases hs:s.goals with|nil=>rfl|cons a b=>rw [hs] at this;cases this
 have hst:Qag P q s=Qdu q s:=by unfold Qag;rw [hg]
 have hv:=Qnf hR.bm hR.inv.c.gb q 0 200 Ya (fun x hx=>hR.qv x Ya)
 have hout:=hR.out
 unfold Qf3
 cases e1:Qb2 s.B q 0 200 with
 |none=>
  cases e2:Qhm QfL e q 0 200 with
  |some x=>rw [e1,e2] at hv;exact hv.elim
  |none=>
   refine ⟨⟨Nat.le_refl _,Nat.le_refl _,Nat.le_refl _,fun _=> ?_,fun hh=>(by cases hh)⟩,fun hh=>(by cases hh)⟩
   have:Qag P q s=(4,s):=by rw [hst];unfold Qdu;rw [e1]
   show Qch P q s (p.out++[(4,.nil)])
   rw [hout];exact QgX this Yf
 |some x=>
  cases e2:Qhm QfL e q 0 200 with
  |none=>rw [e1,e2] at hv;exact hv.elim
  |some y=>
   obtain ⟨T,l⟩:=x
   obtain ⟨U,l'⟩:=y
   rw [e1,e2] at hv
   have ht:U.tidy=T.tidy:=(QqC (fun u v u' v' a b=>hR.bm.inj a b) hv.2 [] [] .nil).1.symm
   dsimp only
   rw [ht]
   have hlen:(p.out++[((1:Int),T.tidy)]).length=(s.ev++[T.tidy]).length:=by rw [hout];simp [Qdc]
   by_cases h12:(s.ev++[T.tidy]).length=12
   ·rw [if_pos (by rw [hlen];exact h12)]
    refine ⟨⟨Nat.le_refl _,Nat.le_refl _,Nat.le_refl _,fun _=> ?_,fun hh=>(by cases hh)⟩,fun hh=>(by cases hh)⟩
    have:Qag P q s=(6,⟨s.B,s.fresh,s.fuel,s.goals,s.ch,s.ev++[T.tidy]⟩):=by
     rw [hst];unfold Qdu;rw [e1];simp only;rw [if_pos h12]
    have hg2:=QgX this Yf
    show Qch P q s ((p.out++[(1,T.tidy)])++[(6,.nil)])
    rw [hout,←Qvf];exact hg2
   ·rw [if_neg (by rw [hlen];exact h12)]
    have hev:=hR.ev
    refine ⟨⟨Nat.le_refl _,Nat.le_refl _,Nat.le_refl _,fun hh=> ?_,fun _=>⟨⟨s.B,s.fresh,s.fuel,s.goals,s.ch,s.ev++[T.tidy]⟩,?_,rfl,hR.fuel,?_,?_,⟨[],rfl⟩,Nat.le_refl _,hR.le,fun L hL=>QhF ?_ hL⟩⟩,fun _=>rfl⟩
    ·have:p.ended=true:=hh
     rw [hR.ne] at this;cases this
    ·exact ⟨hR.inv.c.bok,hR.inv.c.gb,hR.inv.c.ch,hR.inv.c.fr,hR.inv.c.bl⟩
    ·show p.out++[(1,T.tidy)]=_
     rw [hout,Qvf]
    ·simp only [List.length_append,List.length_cons,List.length_nil] at h12⊢;omega
    ·rw [hst];unfold Qdu;rw [e1];simp only;rw [if_neg h12]
end
structure HC where
 k:Int
 n:Int
 s:ByteArray
deriving DecidableEq
abbrev eS:ByteArray:=⟨#[]⟩
structure HH where
 cs:List HC
 tr:List Int
def Qau (all:Nat) (c:HC) (follow:Nat):Bool:=
 if c.k=0 then decide (0≤c.n)&&(decide (c.n<all)&&decide (c.s=eS))
 else if c.k=1 then decide (c.n=0)&& !decide (c.s=eS)
 else if c.k=2 then decide (c.s=eS)
 else if c.k=3 then decide (1≤c.n)&&(decide (c.n≤4)&&(decide (c.n≤follow)&& !decide (c.s=eS)))
 else false
def Q2 (all:Nat):List HC→Bool
 |[]=>true
 |c::r=>Qau all c r.length&&Q2 all r
def Qat (L:List HC):Bool:=decide (L.length≤65536)&&Q2 L.length L
def hat (L:List HC) (a:Int):Option HC:=if 0≤a then L[a.toNat]? else none
def Qo (L:List HC) (a:Int):Bool:=decide (0≤a)&&decide (a<L.length)
def QaW (L:List HC) (a:Int):Bool:=match hat L a with|some c=>decide (c.k=0)|none=>false
def QcM (L:List HC) (T:List Int):Bool:=decide (T.length≤65536)&&T.all (QaW L)
def QS (h:HH):Bool:=Qat h.cs&&QcM h.cs h.tr
def Qaj (base:Nat) (c:HC):HC:=if c.k=0 then ⟨c.k,c.n+base,c.s⟩ else c
def Qas (h:HH) (B:List HC):HH×Nat×Int:=
 if (QS h&&Qat B)=false then (h,0,1)
 else if 65536<h.cs.length+B.length then (h,0,3)
 else (⟨h.cs++B.map (Qaj h.cs.length),h.tr⟩,h.cs.length,0)
def Qbi (L:List HC):Nat→Int→Int
 |0,_=> -1
 |f+1,a=>match hat L a with
  |none=> -1
  |some c=>if c.k=0∧c.n≠a then Qbi L f c.n else a
def Qw (L:List HC) (a:Int):Int:=Qbi L L.length a
def QfJ (L:List HC) (i:Nat) (x:Int):List HC:=L.modify i fun c=>⟨c.k,x,c.s⟩
def Qb3 (L:List HC):List Int→List HC
 |[]=>L
 |a::r=>Qb3 (QfJ L a.toNat a) r
def QdJ (h:HH) (n:Int):HH×Int:=
 if QS h=false then (h,1)
 else if n<0∨(h.tr.length:Int)<n then (h,2)
 else (⟨Qb3 h.cs (h.tr.drop n.toNat),h.tr.take n.toNat⟩,0)
def QoM (h:HH) (n:Int):HH×Int:=
 if QS h=false then (h,1)
 else if n<0∨(h.cs.length:Int)<n then (h,2)
 else if QS ⟨h.cs.take n.toNat,h.tr⟩=false then (h,1)
 else (⟨h.cs.take n.toNat,h.tr⟩,0)
structure HU where
 cs:List HC
 tr:List Int
 w:Nat
 lg:Bool
def HU.step (u:HU):HU:=⟨u.cs,u.tr,u.w+1,u.lg||decide (400<u.w+1)⟩
def HU.look (u:HU) (a:Int):Int×HU:=
 if u.lg=true then (-1,u) else (Qw u.cs a,⟨u.cs,u.tr,u.w,decide (Qw u.cs a<0)⟩)
def HU.bind (u:HU) (a x:Int):HU:=⟨QfJ u.cs a.toNat x,u.tr++[a],u.w,u.lg⟩
def QbE (L:List HC) (a:Int):Int:=match hat L a with|some c=>c.k|none=> -1
def QU (c:HC):Int:=if c.k=3 then c.n else 0
def QaZ (L:List HC) (a:Int):Nat:=match hat L a with|some c=>(QU c).toNat|none=>0
def QmY (g:Int→HU→Bool×HU):Nat→Int→HU→Bool×HU
 |0,_,u=>(false,u)
 |m+1,x,u=>if (g x u).1=true then g x u else QmY g m (x+1) (g x u).2
def Qdw (a:Int):Nat→Int→HU→Bool×HU
 |0,b,u=>(false,(u.step.look b).2)
 |f+1,b,u=>
  if (u.step.look b).2.lg=true then (false,(u.step.look b).2)
  else if a=(u.step.look b).1 then (true,(u.step.look b).2)
  else QmY (Qdw a f) (QaZ u.cs (u.step.look b).1) ((u.step.look b).1+1) (u.step.look b).2
def Qqf (a b:Int) (u:HU):Bool×HU:=
 if (Qdw a 401 b u).1=true∨(Qdw a 401 b u).2.lg=true then (false,(Qdw a 401 b u).2) else (true,(Qdw a 401 b u).2.bind a b)
def Qkv (g:Int→Int→HU→Bool×HU):Nat→Int→Int→HU→Bool×HU
 |0,_,_,u=>(true,u)
 |m+1,x,y,u=>if (g x y u).1=true then Qkv g m (x+1) (y+1) (g x y u).2 else g x y u
def QeE (g:Int→Int→HU→Bool×HU) (a b:Int) (u:HU):Bool×HU:=
 if hat u.cs a=hat u.cs b then Qkv g (QaZ u.cs a) (a+1) (b+1) u else (false,u)
def Qdz : Nat → Int → Int → HU → Bool × HU
 |0,a,b,u=>(false,((u.step.look a).2.look b).2)
 |f+1,a,b,u=>
  if ((u.step.look a).2.look b).2.lg=true then (false,((u.step.look a).2.look b).2)
  else if QbE u.cs (u.step.look a).1=0 then
   if QbE u.cs ((u.step.look a).2.look b).1=0 then
    if (u.step.look a).1=((u.step.look a).2.look b).1 then (true,((u.step.look a).2.look b).2)
    else (true,((u.step.look a).2.look b).2.bind (max (u.step.look a).1 ((u.step.look a).2.look b).1) (min (u.step.look a).1 ((u.step.look a).2.look b).1))
   else Qqf (u.step.look a).1 ((u.step.look a).2.look b).1 ((u.step.look a).2.look b).2
  else if QbE u.cs ((u.step.look a).2.look b).1=0 then Qqf ((u.step.look a).2.look b).1 (u.step.look a).1 ((u.step.look a).2.look b).2
  else QeE (Qdz f) (u.step.look a).1 ((u.step.look a).2.look b).1 ((u.step.look a).2.look b).2
def Qaf (h:HH) (a b:Int):HH×Bool×Int:=
 if QS h=false then (h,false,1)
 else if (Qo h.cs a&&Qo h.cs b)=false then (h,false,4)
 else if (Qdz 401 a b ⟨h.cs,h.tr,0,false⟩).2.lg=true∨(Qdz 401 a b ⟨h.cs,h.tr,0,false⟩).1=true∧65536<(Qdz 401 a b ⟨h.cs,h.tr,0,false⟩).2.tr.length then (h,false,3)
 else if (Qdz 401 a b ⟨h.cs,h.tr,0,false⟩).1=false then (h,false,0)
 else (⟨(Qdz 401 a b ⟨h.cs,h.tr,0,false⟩).2.cs,(Qdz 401 a b ⟨h.cs,h.tr,0,false⟩).2.tr⟩,true,0)
def hcs (c:HC):List Value:=[.int .i64 c.k,.int .i64 c.n,.string c.s]
def Qav:List HC→List Value
 |[]=>[]
 |c::r=> .int .i64 c.k:: .int .i64 c.n:: .string c.s::Qav r
def Qr (l:List Int):List Value:=l.map (Value.int .i64)
def Qad (l:List Bool):List Value:=l.map Value.bool
theorem Qaz:∀L:List HC,(Qav L).length=L.length*3
 |[]=>rfl
 |c::r=>by simp only [Qav,List.length_cons,Qaz r];omega
theorem Qcv:∀L R:List HC,Qav (L++R)=Qav L++Qav R
 |[],R=>rfl
 |c::r,R=>by simp only [Qav,List.cons_append,Qcv r R]
theorem QiN:∀L:List HC,(Qav L).all (·.oneCell')=true
 |[]=>rfl
 |c::r=>by simp only [Qav,List.all_cons,QiN r];rfl
theorem Qj2 (l:List Int):(Qr l).length=l.length*1:=by simp [Qr]
theorem QlU (l:List Bool):(Qad l).length=l.length*1:=by simp [Qad]
theorem Qoq (l:List Int):(Qr l).all (·.oneCell')=true:=by simp [Qr,Value.oneCell']
theorem Qrs:∀(L:List HC) (i:Nat) (x:HC),L[i]?=some x→(Qav L)[i*3]?=some (.int .i64 x.k)∧(Qav L)[i*3+1]?=some (.int .i64 x.n)∧(Qav L)[i*3+2]?=some (.string x.s)
 |[],i,x,h=>by simp at h
 |c::r,0,x,h=>by
  obtain rfl:c=x:=by simpa using h
  exact ⟨rfl,rfl,rfl⟩
 |c::r,i+1,x,h=>by
  have h':r[i]?=some x:=by simpa using h
  obtain ⟨h0,h1,h2⟩:=Qrs r i x h'
  rw [show (i+1)*3=i*3+3 by omega]
  exact ⟨by simpa [Qav] using h0,by simpa [Qav] using h1,by simpa [Qav] using h2⟩
def QG (sz:Nat) (xs:List Value) (A:Option Addr) (len cap:Nat) (w:World):Prop:=
 xs.length=len*sz∧len≤cap∧(0<len→∃b o,A=some ⟨b,o,none⟩∧∀j v,xs[j]?=some v→w.cell? ⟨b,o+j,none⟩=some v)
section
variable {sz len cap:Nat} {xs:List Value} {A:Option Addr} {w w':World}
theorem Qvr {a:Addr} {v:Value} (hc:w.cell? a=some v):a.block<w.heap.size:=by
 rcases Nat.lt_or_ge a.block w.heap.size with hl|hg
 ·exact hl
 ·simp [World.cell?,Array.getElem?_eq_none hg] at hc
theorem Qs1 {b o:Nat} {v:Value} (hc:w.cell? ⟨b,o,none⟩=some v) (h:w'.heap[b]?=w.heap[b]?):w'.cell? ⟨b,o,none⟩=some v:=by
 unfold World.cell? at hc⊢
 rw [h];exact hc
theorem QG.ext (h:QG sz xs A len cap w) (hx:Ext [] w w'):QG sz xs A len cap w':=
 ⟨h.1,h.2.1,fun hl=>by
  obtain ⟨b,o,e,hc⟩:=h.2.2 hl
  exact ⟨b,o,e,fun j v hj=>Qs1 (hc j v hj) (hx.block b (Qvr (hc j v hj)) Yd)⟩⟩
theorem QG.nil_ (A:Option Addr) (c:Nat) (w:World):QG sz [] A 0 c w:=⟨by simp,Nat.zero_le _,fun h=>absurd h (Nat.lt_irrefl _)⟩
theorem QG.some_ (h:QG sz xs A len cap w) (hl:0<len):∃b o,A=some ⟨b,o,none⟩:=by
 obtain ⟨b,o,e,_⟩:=h.2.2 hl
 exact ⟨b,o,e⟩
theorem QG.get {b o : Nat} (h : QG sz xs (some ⟨b, o, none⟩) len cap w) {j : Nat} {v : Value} (hj : xs[j]? = some v) : w.cell? ⟨b, o + j, none⟩ = some v := by
 by_cases hl:0<len
 ·obtain ⟨b',o',e,hc⟩:=h.2.2 hl
  simp only [Option.some.injEq,Addr.mk.injEq] at e
  rw [e.1,e.2.1];exact hc j v hj
 ·have:xs=[]:=List.eq_nil_of_length_eq_zero (by
                            rw [h.1];have:len=0:=by omega
                            rw [this];simp)
  subst this;simp at hj
theorem QG.own {b el:Nat} {sp:List Value} (ho:w.heap[b]?=some (.cells (xs++sp).toArray el)) (hx:xs.length=len*sz) (hc:len≤cap):QG sz xs (some ⟨b,0,none⟩) len cap w:=
 ⟨hx,hc,fun _=>⟨b,0,rfl,fun j v hj=>by
  rw [Qs ho,Nat.zero_add,List.getElem?_append_left]
  ·exact hj
  ·rcases Nat.lt_or_ge j xs.length with h|h
   ·exact h
   ·rw [List.getElem?_eq_none h] at hj;cases hj⟩⟩
theorem QG.take (h:QG sz xs A len cap w) {m c':Nat} (hm:m≤len) (hc:m≤c'):QG sz (xs.take (m*sz)) A m c' w:=by
 refine ⟨by rw [List.length_take,h.1];exact Nat.min_eq_left (Nat.mul_le_mul_right _ hm),hc,fun hl=> ?_⟩
 obtain ⟨b,o,e,hg⟩:=h.2.2 Ya
 refine ⟨b,o,e,fun j v hj=>hg j v ?_⟩
 rw [List.getElem?_take] at hj
 split at hj
 ·exact hj
 ·cases hj
end
section
variable {L:List HC} {cap:Nat} {A:Option Addr} {b o:Nat} {w w':World}
theorem QG.cell (h:QG 3 (Qav L) (some ⟨b,o,none⟩) L.length cap w) {i:Nat} {x:HC} (hi:L[i]?=some x):
  w.cell? ⟨b,o+i*3,none⟩=some (.int .i64 x.k)∧w.cell? ⟨b,o+i*3+1,none⟩=some (.int .i64 x.n)∧w.cell? ⟨b,o+i*3+2,none⟩=some (.string x.s):=by
 obtain ⟨h0,h1,h2⟩:=Qrs L i x hi
 refine ⟨h.get h0,?_,?_⟩
 ·rw [Nat.add_assoc];exact h.get h1
 ·rw [Nat.add_assoc];exact h.get h2
end
theorem QG.int {l:List Int} {cap b o:Nat} {w:World} (h:QG 1 (Qr l) (some ⟨b,o,none⟩) l.length cap w) {i:Nat} {x:Int} (hi:l[i]?=some x):w.cell? ⟨b,o+i*1,none⟩=some (.int .i64 x):=by
 rw [Nat.mul_one];exact h.get (by simp [Qr,hi])
theorem QG.bool {l:List Bool} {cap b o:Nat} {w:World} (h:QG 1 (Qad l) (some ⟨b,o,none⟩) l.length cap w) {i:Nat} {x:Bool} (hi:l[i]?=some x):w.cell? ⟨b,o+i*1,none⟩=some (.bool x):=by
 rw [Nat.mul_one];exact h.get (by simp [Qad,hi])
theorem St.flat {M:List Nat} {w0 w:World} {H:List (Nat×Obj)} {F:List (World→Prop)} {sz len cap:Nat} {xs:List Value} {A:Option Addr} (h:St [] w0 H F w) (hf:QG sz xs A len cap w0):St [] w0 H (QG sz xs A len cap::F) w:=h.base fun w' hx=>hf.ext hx
abbrev QmH (A:Option Addr) (n c:Nat) (B:Option Addr) (m d:Nat):Value:= .agg #[.slice A n c,.slice B m d]
def HFl (h:HH) (A:Option Addr) (c:Nat) (B:Option Addr) (d:Nat) (w:World):Prop:=QG 3 (Qav h.cs) A h.cs.length c w∧QG 1 (Qr h.tr) B h.tr.length d w
abbrev hv (h:HH) (A:Option Addr) (c:Nat) (B:Option Addr) (d:Nat):Value:=QmH A h.cs.length c B h.tr.length d
theorem HFl.ext {h:HH} {A B:Option Addr} {c d:Nat} {w w':World} (H:HFl h A c B d w) (hx:Ext [] w w'):HFl h A c B d w':=⟨H.1.ext hx,H.2.ext hx⟩
inductive Rw (el sz:Nat):Value→Nat→List Value→List (Nat×Obj)→Prop
 |zero_ {A:Option Addr}:Rw el sz (.slice A 0 0) 0 [] []
 |own_ {b len cap:Nat} {xs sp:List Value} (hx:xs.length=len*sz) (hc:(xs++sp).length=cap*sz) (hle:len≤cap) (hcp:0<cap):Rw el sz (.slice (some ⟨b,0,none⟩) len cap) len xs [(b,.cells (xs++sp).toArray el)]
theorem Rw.len_ {el sz len:Nat} {v:Value} {xs:List Value} {O:List (Nat×Obj)} (h:Rw el sz v len xs O):xs.length=len*sz:=by
 cases h with
 |zero_=>simp
 |own_ hx _ _ _=>exact hx
theorem Rw.form {el sz len:Nat} {v:Value} {xs:List Value} {O:List (Nat×Obj)} (h:Rw el sz v len xs O):∃A c,v= .slice A len c∧len≤c:=by
 cases h with
 |zero_=>exact ⟨_,_,rfl,Nat.le_refl _⟩
 |own_ _ _ hle _=>exact ⟨_,_,rfl,hle⟩
theorem Rw.some_ {el sz len cap l2:Nat} {A:Option Addr} {xs:List Value} {O:List (Nat×Obj)} (h:Rw el sz (.slice A l2 cap) len xs O) (hl:0<len):∃g sp,A=some ⟨g,0,none⟩∧O=[(g,.cells (xs++sp).toArray el)]∧(xs++sp).length=cap*sz∧len≤cap∧l2=len:=by
 cases h with
 |zero_=>omega
 |own_ hx hc hle hcp=>exact ⟨_,_,rfl,rfl,hc,hle,rfl⟩
theorem Rw.flat {el sz len cap:Nat} {A:Option Addr} {xs:List Value} {O H:List (Nat×Obj)} {M:List Nat} {w0 w:World} {F:List (World→Prop)} (h:Rw el sz (.slice A len cap) len xs O) (hS:St M w0 (O++H) F w):QG sz xs A len cap w:=by
 cases h with
 |zero_=>exact QG.nil_ _ _ _
 |own_ hx hc hle hcp=>exact QG.own (hS.own (_,_) (.head _)) hx hle
theorem QG.src {P:Program} {sz len cap:Nat} {xs:List Value} {A:Option Addr} {w:World} {t el:TypeId} (h:QG sz xs A len cap w) (hT:QE P t=some el) (h1:xs.all (·.oneCell')=true):Src P sz t (.slice A len cap) len xs w:=by
 by_cases hl:0<len
 ·obtain ⟨b,o,rfl,hs⟩:=h.2.2 hl
  exact Src.ofSlice w (QaR hT) ⟨b,o,none⟩ _ _ _ h.1 (fun j u hj=>by rw [Qan];exact hs j u hj) (fun u hu=>List.all_eq_true.1 h1 u hu)
 ·have hl0:len=0:=by omega
  subst hl0
  obtain rfl:xs=[]:=List.eq_nil_of_length_eq_zero (by rw [h.1];simp)
  cases A with
  |none=>exact Src.ofNil w (QaR hT) _
  |some a=>exact Src.ofSlice w (QaR hT) a _ _ _ Yd (fun j u hj=>by simp at hj) (fun u hu=>by cases hu)
section
variable {P:Program} {n:Nat} {e:Env} {w:World} {Q:Exit→Act→World→Prop} {ops:Array Oper} {rest:List Oper} {ty:TypeId} {pos:String} {after:Array Edge} {d:Nat}
variable {M:List Nat} {w0:World} {H H':List (Nat×Obj)} {F:List (World→Prop)} {b:Nat} {x y:Operand} {v:Value} {t tx:TypeId} {dst:Option Nat}
theorem Qmf {A:Option Addr} {l c el:Nat} {t2:TypeId} (hx:ev n e x= .slice A l c) (hy:ev n e y= .slice none 0 0) (hT:QE P t=some el):
  (execOp (ev n e) ⟨dst,.binOp .eql t x y t2,ty,pos,after,none⟩).run P w= .ok (.value (.bool A.isNone)) w:=by
 have h:=Lib.run_eql_slice_nil w t el A l c 0 0 (QaR hT)
 simp only [execOp,hx,hy,bind,pure]
 rw [Sem.run_bind',Sem.run_bind']
 rw [show (eqGuard .eql t x y (.slice A l c) (.slice none 0 0)).run P w= .ok () w from by cases A<;>simp [eqGuard,Sem.run,pure]]
 simp only [Result.andThen_ok]
 rw [h];rfl
theorem QfR {A:Option Addr} {len cap el sz:Nat} {i:Int} {j:Int} {z:Operand} (hx:ev n e x= .slice A len cap) (hy:ev n e y= .int .i64 i) (hz:ev n e z= .int .i64 j) (hT:QE P t=some el) (hs:Qa8 P el=some sz) (hi:i=(len:Nat)) (hj:j=(len:Nat)) (hl:len≤cap):
  (execOp (ev n e) ⟨dst,.slice t x none (some y) (some z),ty,pos,after,none⟩).run P w= .ok (.value (.slice A len len)) w:=by
 subst hi hj
 have h2:=run_underlying (QaR hT) w
 have h3:=QaB (w:=w) hs
 simp only [execOp,Instr.sliceAt,Instr.slice,hx,hy,hz,Option.map_some,Option.map_none,bind,pure,Sem.bind]
 rw [Sem.run_bind',Sem.run_bind',h2]
 simp only [Result.andThen_ok]
 rw [Sem.run_bind',h2]
 simp only [Result.andThen_ok,Instr.sliceBounds,Option.isSome_some,if_true,bind,pure,Sem.bind]
 rw [Sem.run_bind',Sem.run_bind',QcB rfl Ya Ya]
 simp only [Result.andThen_ok]
 rw [Sem.run_bind',QcB rfl Ya Ya]
 simp only [Result.andThen_ok]
 rw [show∀(l:Nat),Sem.run P (Sem.pure (0,l,l)) w= .ok (0,l,l) w from fun _=>rfl]
 simp only [Result.andThen_ok]
 rw [Sem.run_bind',h3]
 simp [Sem.run,Addr.add]
theorem QkJ {el sz bts k:Nat} {A:Option Addr} {ki:IntKind} (hS:St M w0 H F w) (hx:ev n e x= .slice A 0 0) (hy:ev n e y= .int .i64 (k:Nat)) (hT:QE P t=some el) (hTx:P.underlying tx=some (.int ki)) (hi:Qte P el=some (sz,bts)) (hsz:0<sz) (hk:0<k)
  (hfit:2*k*bts≤281474976710656) (hbig:k≤4611686018427387904) (hd:Nat.blt d n=true)
  (h:∀(b cap:Nat) (zs:List Value) w',k≤cap→zs.length=cap*sz→St M w0 ((b,.cells zs.toArray el)::H) F w'→Lst P Q ops rest n ((d,.slice (some ⟨b,0,none⟩) k cap)::e) w'):
  Lst P Q ops (⟨some d,.call ⟨.builtin .append, #[x,y], #[t,tx]⟩,ty,pos,after,none⟩::rest) n e w:=by
 obtain ⟨i,z,h2,h3,h4,rfl,rfl⟩:=Qa2 hi
 have hn:=Go.Room.nextslicecap_le' (show 0<0+k by omega)
 have hcapn:0+k≤grownCap w (0+k) 0 el:=by unfold grownCap Question.cut;exact Nat.le_add_right _ _
 have h48:¬(281474976710656<Builtin.nextslicecap k 0*i.bytes):=by
  have:=Nat.le_trans (Nat.mul_le_mul_right i.bytes hn) (by rw [Nat.zero_add];exact hfit)
  rw [Nat.zero_add] at this;omega
 have h49:¬((281474976710656:Int)<(k:Int)*(i.bytes:Int)):=by
  have:k*i.bytes≤2*k*i.bytes:=Nat.mul_le_mul_right _ Ya
  have h5:((k*i.bytes:Nat):Int)≤281474976710656:=by omega
  rw [Int.natCast_mul] at h5;omega
 have hw:IntKind.i64.wrap (k:Int)=k:=QdH Ya Ya
 have h63:¬(9223372036854775807<(k:Int)):=by omega
 have hk0:¬k=0:=by omega
 have hr:∃zs:List Value,zs.length=grownCap w (0+k) 0 el*i.size∧(Builtin.append_ #[t,tx] ty #[.slice A 0 0,.int .i64 (k:Nat)]).run P w= .ok (.slice (some ⟨w.heap.size,0,none⟩) k (grownCap w (0+k) 0 el)) (w.drew.alloc (.cells zs.toArray el)):=by
  have hf:∀w,(Builtin.firstCells i.size 0 (.slice A 0 0)).run P w= .ok #[] w:=fun w=>by cases A<;>simp [Builtin.firstCells,Sem.run,pure,loadCells,loadCellsFrom]
  have hz0:¬((k:Int)<0):=by omega
  have hz1:¬(k≤0):=by omega
  rw [Nat.zero_add] at hcapn⊢
  have hai:∀w,(asInt (.int .i64 (k:Nat))).run P w= .ok (k:Int) w:=fun w=>rfl
  have hs1:¬i.size=0:=by omega
  refine ⟨(Builtin.zeroCells z.cells k++Builtin.zeroCells z.cells (grownCap w k 0 el-k)).toList,?_,?_⟩
  ·simp only [Array.length_toList,Array.size_append,Builtin.zeroCells,Array.size_map,Array.size_range,h4]
   rw [←Nat.add_mul];congr 1;omega
  ·simp [Builtin.append_,run_underlying (QaR hT),run_underlying hTx,sizeOf,typeInfo,zeroValue,h2,h3,hw,hai,hz0,h49,hz1,h63,h48,Question.forced,hf,newRow,grownCap,hk0,hs1]
   rw [if_neg (by intro h0;rcases Nat.mul_eq_zero.1 h0 with h|h<;>omega)]
   congr 3
   apply Array.ext'
   simp
 obtain ⟨zs,hzs,hr⟩:=hr
 refine Qa (v:= .slice (some ⟨w.heap.size,0,none⟩) k (grownCap w (0+k) 0 el)) (w':=w.drew.alloc (.cells zs.toArray el)) ?_ hd (h _ _ zs _ Ya hzs (hS.drew.alloc _))
 simp only [execOp,resolve,List.map_toArray,List.map_cons,List.map_nil,hx,hy,bind,pure,Sem.bind,invoke,builtin]
 rw [Sem.run_bind',hr]
 rfl
theorem Qbr {el len k:Nat} {q:Value} {ys xs:List Value} {O:List (Nat×Obj)} {i:TypeInfo} {z:Value} (hS:St M w0 H F w) (hx:ev n e x=v) (hy:ev n e y=q)
  (hT:QE P t=some el) (hTx:QE P tx=some el) (hi:P.info? el=some i) (hz:i.zero=some z) (hzs:z.cells.size=i.size) (hys:ys.length=k*i.size) (hsrc:Src P i.size tx q k ys w) (hrow:Rw el i.size v len xs O) (hP:H.Perm (O++H')) (hfit:2*(len+k)*i.bytes≤281474976710656) (hbig:len+k≤4611686018427387904) (hd:Nat.blt d n=true)
  (h:∀v' O' w',Rw el i.size v' (len+k) (xs++ys) O'→St M w0 (O'++H') F w'→Lst P Q ops rest n ((d,v')::e) w'):
  Lst P Q ops (⟨some d,.call ⟨.builtin .append, #[x,y], #[t,tx]⟩,ty,pos,after,none⟩::rest) n e w:=by
 have hS:=hS.perm hP
 have hlen:=hrow.len_
 have hop:∀r w2,(Builtin.append_ #[t,tx] ty #[v,q]).run P w= .ok r w2→(execOp (ev n e) ⟨some d,.call ⟨.builtin .append, #[x,y], #[t,tx]⟩,ty,pos,after,none⟩).run P w= .ok (.value r) w2:=by
  intro r w2 hr
  simp only [execOp,resolve,List.map_toArray,List.map_cons,List.map_nil,hx,hy,bind,pure,Sem.bind,invoke,builtin]
  rw [Sem.run_bind',hr]
  rfl
 have grow:∀(A:Option Addr) (cap:Nat),v= .slice A len cap→cap<len+k→(Builtin.firstCells i.size len (.slice A len cap)).run P w.drew= .ok xs.toArray w.drew→Lst P Q ops (⟨some d,.call ⟨.builtin .append, #[x,y], #[t,tx]⟩,ty,pos,after,none⟩::rest) n e w:=by
  intro A cap hv hcap hold
  have hn:=Go.Room.nextslicecap_le' hcap
  have hr:=run_append_grow_src (P:=P) w t tx ty el i z (QaR hT) hi hz A len cap xs hold (q) k ys hsrc hcap Ya (Nat.le_trans (Nat.mul_le_mul_right _ hn) hfit)
  rw [←hv] at hr
  refine Zc6 ?_
  have hcapn:len+k≤grownCap w (len+k) cap el:=by unfold grownCap Question.cut;exact Nat.le_add_right _ _
  generalize grownCap w (len+k) cap el=nc at hcapn
  have hzc:(Builtin.zeroCells z.cells (nc-(len+k)))=(Builtin.zeroCells z.cells (nc-(len+k))).toList.toArray:=by simp
  have hzl:(Builtin.zeroCells z.cells (nc-(len+k))).toList.length=(nc-(len+k))*i.size:=by simp [Builtin.zeroCells,hzs]
  generalize (Builtin.zeroCells z.cells (nc-(len+k))).toList=zl at hzc hzl
  rw [hzc]
  have hS2:=(hS.drew.alloc (.cells ((xs++ys)++zl).toArray el))
  rw [show (xs++ys).toArray++zl.toArray=((xs++ys)++zl).toArray by simp]
  refine h _ [(w.heap.size,.cells ((xs++ys)++zl).toArray el)] _ (Rw.own_ ?_ ?_ hcapn Ya) ?_
  ·rw [List.length_append,hlen,hys,Nat.add_mul]
  ·rw [List.length_append,List.length_append,hlen,hys,hzl,←Nat.add_mul,←Nat.add_mul];congr 1;omega
  ·have h5:St M w0 ((w.heap.size,.cells ((xs++ys)++zl).toArray el)::(O++H')) F _:=hS2
   exact St.dropL (L:=O) h5.sink
 cases hrow with
 |zero_=>
  rename_i A0
  by_cases hk0:k=0
  ·subst hk0
   have hye:ys=[]:=List.eq_nil_of_length_eq_zero (by simpa using hys)
   subst hye
   have hr:(Builtin.append_ #[t,tx] ty #[.slice A0 0 0,q]).run P w= .ok (.slice A0 0 0) w:=by
    have hu:=run_underlying (QaR hT) w
    have hu2:=run_underlying (QaR hTx) w
    have hs1:=hsrc.len
    have hs2:=hsrc.cells
    have hs0:(Builtin.lenOf (.slice A0 0 0)).run P w= .ok 0 w:=rfl
    cases A0<;>simp [Builtin.append_,hu,hu2,sizeOf,typeInfo,hi,hs0,hs1,hs2,storeCells]
   refine Qa (hop _ _ hr) hd (h _ [] _ Rw.zero_ hS)
  ·exact grow A0 0 rfl Ya (by cases A0<;>simp [Builtin.firstCells,Sem.run,pure,loadCells,loadCellsFrom])
 |own_ hx2 hc2 hle hcp=>
  rename_i bl cap sp
  have hbl:w.heap[bl]?=some (.cells (xs++sp).toArray el):=hS.own (bl,_) Yd
  by_cases hroom:len+k≤cap
  ·have hcc:(xs++sp).length=cap*i.size:=hc2
   have hfitc:len*i.size+ys.length≤(xs++sp).length:=by rw [hcc,hys,←Nat.add_mul];exact Nat.mul_le_mul_right _ hroom
   have hr:=run_append_room_src (P:=P) w t tx ty el i (QaR hT) hi bl 0 len cap (q) k ys hsrc hroom
    (fun j hj=>by rw [Qs hbl,Nat.zero_add];simp only [Option.isSome_iff_exists];exact ⟨_,List.getElem?_eq_getElem Ya⟩) (fun j hj=>by simp [World.frozen?,hbl])
   obtain ⟨hs1,hs2⟩:=QcA ys (0+len*i.size) (xs++sp) w hbl Ya
   refine Zc6 ?_
   have hu:Upd ([(bl,Obj.cells (xs++sp).toArray el)]++H') bl (.cells (xs++sp).toArray el) (.cells ((xs++sp).take (0+len*i.size)++ys++(xs++sp).drop (0+len*i.size+ys.length)).toArray el)
     ((bl,.cells ((xs++sp).take (0+len*i.size)++ys++(xs++sp).drop (0+len*i.size+ys.length)).toArray el)::H'):= .head
   have h3:=hS.turn hu hs2 hs1
   have e1:(xs++sp).take (0+len*i.size)=xs:=by rw [Nat.zero_add,←hx2];simp
   have e2:(xs++sp).drop (0+len*i.size+ys.length)=sp.drop ys.length:=by
    rw [Nat.zero_add,←hx2];simp [List.drop_append]
   rw [e1,e2] at h3
   refine h _ _ _ (Rw.own_ (b:=bl) (sp:=sp.drop ys.length) ?_ ?_ hroom hcp) h3
   ·rw [List.length_append,hx2,hys,Nat.add_mul]
   ·simp only [List.length_append,List.length_drop] at hcc hfitc⊢
    omega
  ·refine grow _ cap rfl Ya ?_
   have:=run_firstCells_some (P:=P) w.drew i.size len ⟨bl,0,none⟩ len cap xs hx2 (fun j u hj=> ?_)
   ·exact this
   ·have hjl:j<xs.length:=by
     rcases Nat.lt_or_ge j xs.length with hl|hl
     ·exact hl
     ·rw [List.getElem?_eq_none hl] at hj;cases hj
    rw [Qan,Qs (w:=w.drew) hbl,Nat.zero_add,List.getElem?_append_left hjl];exact hj
theorem Qfb {el sz:Nat} (hS:St M w0 H F w) (hT:QE P t=some el) (hs:Qa8 P el=some sz) (hd:Nat.blt d n=true)
  (hk:∀b w',St M w0 ((b,.cells [].toArray el)::H) F w'→Lst P Q ops rest n ((d,.slice (some ⟨b,0,none⟩) 0 0)::e) w'):
  Lst P Q ops (⟨some d,.buildSlice t 0 #[],ty,pos,after,none⟩::rest) n e w:=by
 refine Qa (v:= .slice (some ⟨w.heap.size,0,none⟩) 0 0) (w':=w.alloc (.cells [].toArray el)) ?_ hd (hk _ _ (hS.alloc _))
 have h1:=run_underlying (QaR hT) w
 have h2:=QaB (w:=w) hs
 simp only [execOp,Instr.buildSlice,bind,pure,Array.map_empty]
 rw [Sem.run_bind',Sem.run_bind',h1]
 simp only [Result.andThen_ok]
 rw [Sem.run_bind',h2]
 have hr0:∀g:Nat→Value,Array.map g (Array.range 0)= #[]:=fun g=>by simp
 simp only [Result.andThen_ok,Nat.zero_mul,if_neg (show¬(0:Nat)>2^24 by omega),if_true,hr0]
 rfl
theorem Qej {el:TypeId} {A:Option Addr} {l c:Nat} {ts:Array TypeId} (hx:ev n e x= .slice A l c) (ht:ts[0]?=some t) (hT:QE P t=some el):
  (execOp (ev n e) ⟨dst,.call ⟨.builtin .cap, #[x],ts⟩,ty,pos,after,none⟩).run P w= .ok (.value (.int .i64 c)) w:=by
 have h1:=run_underlying (QaR hT) w
 simp only [execOp,resolve,List.map_toArray,List.map_cons,List.map_nil,hx,bind,pure,Sem.bind,invoke,builtin,Builtin.cap_,ht,List.getElem?_toArray,List.getElem?_cons_zero]
 first
  |rfl
  |(rw [Sem.run_bind',Sem.run_bind',h1];rfl)
end
theorem Qd8 {P:Program} {n:Nat} {e:Env} {w:World} {M:List Nat} {w0:World} {H:List (Nat×Obj)} {F:List (World→Prop)} {b:Nat} {t:TypeId} {f:FuncId} {R:Ending→World→Prop} {k:List Item} {fn:Func} {a u sz:Nat} {o:Nat} {cs vs:List Value} {ct:TypeId} {v2:Value} (hS:St M w0 H F w) (hf:P.funcs[f]?=some fn) (hr:fn.results= #[.cell a t,.tmp u]) (hv:ev n e (.tmp a)= .pointer (some ⟨b,o,none⟩))
  (h2:ev n e (.tmp u)=v2) (hA:Qgn P t=some true) (hs:Qa8 P t=some sz) (hb:At H b (.cells cs.toArray ct)) (hc:Cut cs o sz vs) (hR:R (.returned (.tuple #[.agg vs.toArray,v2])) w):QaE P f R (.code .ret::k) (act n e) w:=by
 unfold QaE
 intro fr cs' hb' hk
 refine ⟨.returned (.tuple #[.agg vs.toArray,v2]),w,{ fr.at (act n e) (.code .ret::k) with mode:= .returning },hR,Steps.one step_ret,hb',rfl,rfl,hk,fn,?_,?_⟩
 ·show P.funcs[fr.fn]?=some fn
  rw [hb'];exact hf
 ·show (results fn (arr n e)).run P w=_
  have h1:=Qdm (w:=w) hA
  have h4:=QaB (w:=w) hs
  have h5:=run_loadCells_list (P:=P) (w:=w) ⟨b,o,none⟩ vs (fun j v hj=>by
   rw [Qan,Qs (hS.at_ hb)]
   have hjk:j<sz:=by
    rcases Nat.lt_or_ge j sz with h|h
    ·exact h
    ·rw [List.getElem?_eq_none (by rw [hc.length];exact h)] at hj;cases hj
   rw [hc.get j hjk];exact hj)
  rw [hc.length] at h5
  have hv':(arr n e).getD a undef= .pointer (some ⟨b,o,none⟩):=by rw [Qa1];exact hv
  have hu':(arr n e).getD u undef=v2:=by rw [Qa1];exact h2
  simp only [Array.getD_eq_getD_getElem?] at hv' hu'
  simp only [results,hr]
  simp [hv',hu',asAddr,loadVar,h1,h4,h5]
theorem QsP {P:Program} {n:Nat} {e:Env} {w:World} {M:List Nat} {w0:World} {H:List (Nat×Obj)} {F:List (World→Prop)} {b:Nat} {t:TypeId} {f:FuncId} {R:Ending→World→Prop} {k:List Item} {fn:Func} {a u x y z sz:Nat} {o:Nat} {cs vs:List Value} {ct:TypeId} {v2 v3 v4 v5:Value} (hS:St M w0 H F w) (hf:P.funcs[f]?=some fn) (hr:fn.results= #[.cell a t,.tmp u,.tmp x,.tmp y,.tmp z]) (hv:ev n e (.tmp a)= .pointer (some ⟨b,o,none⟩))
  (h2:ev n e (.tmp u)=v2) (h3:ev n e (.tmp x)=v3) (hy4:ev n e (.tmp y)=v4) (hz5:ev n e (.tmp z)=v5) (hA:Qgn P t=some true) (hs:Qa8 P t=some sz) (hb:At H b (.cells cs.toArray ct)) (hc:Cut cs o sz vs) (hR:R (.returned (.tuple #[.agg vs.toArray,v2,v3,v4,v5])) w):QaE P f R (.code .ret::k) (act n e) w:=by
 unfold QaE
 intro fr cs' hb' hk
 refine ⟨.returned (.tuple #[.agg vs.toArray,v2,v3,v4,v5]),w,{ fr.at (act n e) (.code .ret::k) with mode:= .returning },hR,Steps.one step_ret,hb',rfl,rfl,hk,fn,?_,?_⟩
 ·show P.funcs[fr.fn]?=some fn
  rw [hb'];exact hf
 ·show (results fn (arr n e)).run P w=_
  have h1:=Qdm (w:=w) hA
  have h4:=QaB (w:=w) hs
  have h5:=run_loadCells_list (P:=P) (w:=w) ⟨b,o,none⟩ vs (fun j v hj=>by
   rw [Qan,Qs (hS.at_ hb)]
   have hjk:j<sz:=by
    rcases Nat.lt_or_ge j sz with h|h
    ·exact h
    ·rw [List.getElem?_eq_none (by rw [hc.length];exact h)] at hj;cases hj
   rw [hc.get j hjk];exact hj)
  rw [hc.length] at h5
  have hv':(arr n e).getD a undef= .pointer (some ⟨b,o,none⟩):=by rw [Qa1];exact hv
  have hu':(arr n e).getD u undef=v2:=by rw [Qa1];exact h2
  have hx':(arr n e).getD x undef=v3:=by rw [Qa1];exact h3
  have hy':(arr n e).getD y undef=v4:=by rw [Qa1];exact hy4
  have hz':(arr n e).getD z undef=v5:=by rw [Qa1];exact hz5
  simp only [Array.getD_eq_getD_getElem?] at hv' hu' hx' hy' hz'
  simp only [results,hr]
  simp [hv',hu',hx',hy',hz',asAddr,loadVar,h1,h4,h5]
theorem St.freezeR {M:List Nat} {w0 w:World} {H O:List (Nat×Obj)} {F:List (World→Prop)} {el sz len cap:Nat} {A:Option Addr} {xs:List Value} (hr:Rw el sz (.slice A len cap) len xs O) (hS:St M w0 (O++H) F w):St M w0 H (QG sz xs A len cap::F) w:=by
 cases hr with
 |zero_=>exact hS.learn fun w' _=>QG.nil_ _ _ _
 |own_ hx hc hle hcp=>
  rename_i b sp
  have hS':St M w0 ((b,Obj.cells (xs++sp).toArray el)::H) F w:=hS
  have ho:=hS'.own (b,_) (.head _)
  refine hS'.drop.learn fun w' hw=>QG.own (sp:=sp) (el:=el) ?_ hx hle
  rw [hw.block b (Qc0 ho) fun hm=> ?_]
  ·exact ho
  ·obtain ⟨p,hp,e⟩:=List.mem_map.1 hm
   exact (List.pairwise_cons.1 hS'.apart).1 p hp e.symm
section
variable {M:List Nat} {w0:World} {H:List (Nat×Obj)} {F:List (World→Prop)}
theorem ArA.all {A:Option Addr} {c:Nat} {T:TA} {w:World} (h:ArA A c T w):Qo6 T w:=by
 by_cases hl:0<T.len
 ·obtain ⟨b,o,e,hs⟩:=h.2 hl
  exact hs.cells.1
 ·cases T with
  |nil=>trivial
  |cons=>simp [TA.len] at hl
theorem St.freezeT {w:World} {O:List (Nat×Obj)} {el c:Nat} {A:Option Addr} {D:TA} (hr:Rw el 4 (.slice A D.len c) D.len (Qh2 D) O) (hA:Und F (Qo6 D)) (hS:St M w0 (O++H) F w):
  ∃F',(∀φ∈F,φ∈F')∧Und F' (ArA A c D)∧St M w0 H F' w:=by
 have hS2:=St.freezeR hr hS
 refine ⟨_,fun φ h=> .tail _ h,fun w' hw=> ?_,hS2⟩
 have hf:=hw _ (.head _)
 have ha:=hA w' fun φ hφ=>hw φ (.tail _ hφ)
 refine ⟨hf.2.1,fun hl=> ?_⟩
 obtain ⟨b,o,e,hc⟩:=hf.2.2 hl
 exact ⟨b,o,e,Qpr ha fun j u hj=>hc j u hj⟩
end
end Go.Proofs.YthliapbflkfdiacGreatDoor
