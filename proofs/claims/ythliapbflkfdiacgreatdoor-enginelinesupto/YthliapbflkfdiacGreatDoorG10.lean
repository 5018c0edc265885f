/- SWalk4, SWalk5, TidyBy, Tidy, SInv, SMem3: texts that follow one another, laid into one file. -/
import Derived.Test.YthliapbflkfdiacGreatDoorZ0
import Derived.Test.YthliapbflkfdiacGreatDoorG9
import Derived.Test.YthliapbflkfdiacGreatDoorG7
import Derived.Test.YthliapbflkfdiacGreatDoorG3
import Derived.Test.YthliapbflkfdiacGreatDoorG8
namespace Go.Proofs.YthliapbflkfdiacGreatDoor
open Go.RowKit
set_option linter.unusedVariables false
set_option linter.unusedSimpArgs false
set_option maxRecDepth 100000
set_option maxHeartbeats 1000000
section
variable {M:List Nat} {w0:World} {H:List (Nat×Obj)} {F:List (World→Prop)}
end
theorem QhQ (g:Tm→Nat→Option (Tm×Nat)) (k n:Int) (s:ByteArray) (a r:Ts) (l:Nat):Qin g (.cons k n s a r) l=(g ⟨k,n,s,a⟩ l).bind fun p=>(Qin g r p.2).map fun q=>(.cons p.1.k p.1.n p.1.s p.1.ar q.1,q.2):=by
 simp only [Qin]
 cases g ⟨k,n,s,a⟩ l with
 |none=>rfl
 |some p=>
  simp only [Option.bind_some]
  cases Qin g r p.2<;>rfl
theorem Qih (B:Bnd) (f:Nat) (t:Tm) (l:Nat):QjF B (f+1) t l=if l=0 then none else (Qin (QjF B f) (Qh B t).ar (l-1)).map fun p=>(⟨(Qh B t).k,(Qh B t).n,(Qh B t).s,p.1⟩,p.2):=by
 simp only [QjF]
 split
 ·rfl
 ·cases Qin (QjF B f) (Qh B t).ar (l-1)<;>rfl
theorem Qjh {g:Tm→Nat→Option (Tm×Nat)} (hg:∀t l p,g t l=some p→p.1.ar.nodes+1+p.2=l):∀(T:Ts) (l:Nat) (p:Ts×Nat),Qin g T l=some p→p.1.nodes+p.2=l∧p.1.length=T.length
 | .nil,l,p,h=>by
  simp only [Qin,Option.some.injEq] at h
  subst h
  exact ⟨by simp [Ts.nodes],rfl⟩
 | .cons k n s a r,l,p,h=>by
  rw [QhQ] at h
  cases h1:g ⟨k,n,s,a⟩ l with
  |none=>rw [h1] at h;cases h
  |some q=>
   rw [h1,Option.bind_some] at h
   cases h2:Qin g r q.2 with
   |none=>rw [h2] at h;cases h
   |some x=>
    rw [h2,Option.map_some,Option.some.injEq] at h
    subst h
    have:=hg _ _ _ h1
    obtain ⟨i1,i2⟩:=Qjh hg r q.2 x h2
    simp only [Ts.nodes,Ts.length]
    omega
theorem Qme {B:Bnd}:∀(f:Nat) (t:Tm) (l:Nat) (p:Tm×Nat),QjF B f t l=some p→p.1.ar.nodes+1+p.2=l
 |0,t,l,p,h=>by cases h
 |f+1,t,l,p,h=>by
  rw [Qih] at h
  by_cases h0:l=0
  ·rw [if_pos h0] at h;cases h
  ·rw [if_neg h0] at h
   cases h1:Qin (QjF B f) (Qh B t).ar (l-1) with
   |none=>rw [h1] at h;cases h
   |some q=>
    rw [h1,Option.map_some,Option.some.injEq] at h
    subst h
    have:=(Qjh (fun t l p h=>Qme f t l p h) _ _ _ h1).1
    show q.1.nodes+1+q.2=l
    omega
section
variable {M:List Nat} {w0:World} {H:List (Nat×Obj)} {F:List (World→Prop)}
end
def Ts.vars (P:Int→Prop):Ts→Prop
 | .nil=>True
 | .cons k n _ ar r=>(k=0→P n)∧ar.vars P∧r.vars P
theorem QtH {n:Int}:∀{ks:List Int} {j:Nat},pos n ks=some j→j<ks.length
 |[],_,h=>by cases h
 |k::r,j,h=>by
  rw [pos] at h
  by_cases e:n=k
  ·rw [if_pos e] at h;cases h;simp
  ·rw [if_neg e] at h
   cases hp:pos n r with
   |none=>rw [hp] at h;cases h
   |some i=>
    rw [hp] at h
    cases h
    have:=QtH hp
    simp;omega
def Ts.Mem (x:Tm):Ts→Prop
 | .nil=>False
 | .cons k n s a r=>x=⟨k,n,s,a⟩∨r.Mem x
def QvP (Q:Tm→Prop):Prop:=∀t:Tm,Q t→∀x,t.ar.Mem x→Q x
theorem Qjk {Q:Tm→Prop} {B:Bnd} (hB:∀x∈B,Q x.2) {t:Tm} (ht:Q t):Q (Qh B t):=by
 rcases Qj3 (B:=B) t with h|⟨x,hx,h⟩
 ·rw [h];exact ht
 ·rw [h];exact hB x hx
theorem Qvk {Q:Tm→Prop} {B:Bnd} {v:Int} {t:Tm} {w:Nat} (hB:∀x∈B,Q x.2) (ht:Q t):∀x∈(QpO v t B w).B,Q x.2:=by
 unfold QpO
 split
 ·exact hB
 ·intro x hx
  rcases List.mem_cons.1 hx with rfl|hx
  ·exact ht
  ·exact hB x hx
theorem Qvr {Q:Tm→Prop} {g:Tm→Tm→Bnd→Nat→Us} (hg:∀a b B w,(∀x∈B,Q x.2)→Q a→Q b→∀x∈(g a b B w).B,Q x.2):∀(T U:Ts) (B:Bnd) (w:Nat),(∀x,T.Mem x→Q x)→(∀x,U.Mem x→Q x)→(∀x∈B,Q x.2)→∀x∈(Qmq g T U B w).B,Q x.2
 | .nil,U,B,w,_,_,hB=>hB
 | .cons k n s a r,.nil,B,w,_,_,hB=>hB
 | .cons k n s a r,.cons k' n' s' a' r',B,w,hT,hU,hB=>by
  have h1:=hg ⟨k,n,s,a⟩ ⟨k',n',s',a'⟩ B w hB (hT _ (.inl rfl)) (hU _ (.inl rfl))
  simp only [Qmq]
  split
  ·exact Qvr hg r r' _ _ (fun x hx=>hT x (.inr hx)) (fun x hx=>hU x (.inr hx)) h1
  ·exact h1
theorem Qp4 {Q:Tm→Prop} (hQ:QvP Q):∀(f:Nat) (a b:Tm) (B:Bnd) (w:Nat),(∀x∈B,Q x.2)→Q a→Q b→∀x∈(Qc1 f a b B w).B,Q x.2
 |0,a,b,B,w,hB,ha,hb=>hB
 | f + 1, a, b, B, w, hB, ha, hb => by
  have ea:=Qjk hB ha
  have eb:=Qjk hB hb
  simp only [Qc1]
  split
  ·exact hB
  split
  ·split
   ·by_cases e:(Qh B a).n=(Qh B b).n
    ·rw [if_pos e];exact hB
    ·rw [if_neg e]
     intro x hx
     rcases List.mem_cons.1 hx with rfl|hx
     ·exact eb
     ·exact hB x hx
   ·exact Qvk hB eb
  split
  ·exact Qvk hB ea
  split
  ·exact Qvr (fun a b B w=>Qp4 hQ f a b B w) _ _ _ _ (hQ _ ea) (hQ _ eb) hB
  ·exact hB
theorem Qvo {g:Tm→Tm→Bnd→Nat→Us}:∀(T U:Ts) (B:Bnd) (w:Nat),(∀a b:Tm,a.ar.nodes<T.nodes→b.ar.nodes<U.nodes→∀B w,Bok B→SmB B→w≤400→UP B w (g a b B w)∧(g a b B w).w≤10025)→Bok B→SmB B→w≤400→(Qmq g T U B w).w≤10025
 | .nil,U,B,w,h,hB,hS,hw=>by simp [Qmq];omega
 | .cons k n s a r,.nil,B,w,h,hB,hS,hw=>by simp [Qmq];omega
 | .cons k n s a r,.cons k' n' s' a' r',B,w,h,hB,hS,hw=>by
  obtain ⟨h1,h2⟩:=h ⟨k,n,s,a⟩ ⟨k',n',s',a'⟩ Yi Yi B w hB hS hw
  simp only [Qmq]
  split
  ·rename_i hok
   exact Qvo r r' _ _ (fun a b ha hb=>h a b Yi Yi) h1.bok h1.sm (h1.ok hok)
  ·exact h2
theorem Qud:∀(f:Nat) (a b:Tm) (B:Bnd) (w:Nat),a.ar.nodes≤24→b.ar.nodes≤24→Bok B→SmB B→w≤400→(Qc1 f a b B w).w≤10025
 |0,a,b,B,w,ha,hb,hB,hS,hw=>by simp only [Qc1];omega
 |f+1,a,b,B,w,ha,hb,hB,hS,hw=>by
  have ea:=QcR hS ha
  have eb:=QcR hS hb
  have hasg:∀(v:Int) (t:Tm),t.ar.nodes≤24→(QpO v t B (w+1)).w≤max (w+2) 10025:=fun v t ht=>by
   have h1:=QtJ hS v 401 t ht (w+1)
   unfold QpO
   split
   ·simp only;omega
   ·simp only;omega
  simp only [Qc1]
  split
  ·simp only;omega
  split
  ·split
   ·simp only;omega
   ·have:=hasg (Qh B a).n (Qh B b) eb;omega
  split
  ·have:=hasg (Qh B b).n (Qh B a) ea;omega
  split
  ·exact Qvo _ _ _ _ (fun x y hx hy B w hB hS hw=>⟨QfN f x y B w Ya Ya hB hS hw,Qud f x y B w Ya Ya hB hS hw⟩) hB hS Ya
  ·simp only;omega
def tgd (t:Tm):Prop:=(Ts.cons t.k t.n t.s t.ar .nil).good 549755813888=true∧t.ar.nodes+1≤24
theorem Ts.mem_nodes {x:Tm}:∀{T:Ts},T.Mem x→x.ar.nodes+1≤T.nodes
 | .cons k n s a r,h=>by
  simp only [Ts.nodes]
  rcases h with rfl|h
  ·simp only;omega
  ·have:=Ts.mem_nodes h;omega
theorem Ts.mem_good {v:Int} {x:Tm}:∀{T:Ts},T.Mem x→T.good v=true→(Ts.cons x.k x.n x.s x.ar .nil).good v=true
 | .cons k n s a r,h,hg=>by
  simp only [Ts.good,Bool.and_eq_true] at hg⊢
  rcases h with rfl|h
  ·exact ⟨hg.1,trivial⟩
  ·have:=Ts.mem_good h hg.2
   simp only [Ts.good,Bool.and_eq_true] at this
   exact this
theorem Qb8:QvP tgd:=fun t h x hx=>by
 obtain ⟨h1,h2⟩:=h
 have h3:=Ts.mem_nodes hx
 refine ⟨?_,by omega⟩
 simp only [Ts.good,Bool.and_eq_true] at h1
 exact Ts.mem_good hx h1.1.2
theorem tgd.small {t:Tm} (h:tgd t):t.ar.nodes≤24:=by have:=h.2;omega
def Qb0:List Gl→Nat→Prop
 |[],_=>True
 |g::r,n=>g.2≤n∧Qb0 r g.2
theorem Qb0.mono:∀{l:List Gl} {n m:Nat},Qb0 l n→n≤m→Qb0 l m
 |[],_,_,_,_=>trivial
 |g::r,n,m,h,hm=>⟨Nat.le_trans h.1 hm,h.2⟩
def QeR:List Ch→Nat→Prop
 |[],_=>True
 |c::cs,n=>c.bound≤n∧Qb0 (c.g::c.next) cs.length∧(∀g∈c.g::c.next,tgd g.1)∧c.cls≠[]∧(∀cl∈c.cls,cB cl=true)∧QeR cs c.bound
theorem QeR.mono:∀{l:List Ch} {n m:Nat},QeR l n→n≤m→QeR l m
 |[],_,_,_,_=>trivial
 |c::cs,n,m,h,hm=>⟨Nat.le_trans h.1 hm,h.2⟩
theorem QeR.drop:∀{l:List Ch} {n:Nat},QeR l n→∀k,QeR (l.drop k) n
 |[],_,_,_=>by simp [QeR]
 |c::cs,n,h,0=>h
 |c::cs,n,h,k+1=>by
  have:=QeR.drop h.2.2.2.2.2 k
  exact this.mono h.1
theorem QgY:∀(l:List Ch) (k:Nat),Qew (l.drop k)≤Qew l
 |[],k=>by simp
 |c::cs,0=>Nat.le_refl _
 |c::cs,k+1=>by have:=QgY cs k;simp only [List.drop_succ_cons,Qew];omega
theorem QeR.len:∀{l:List Ch} {n:Nat},QeR l n→l.length≤Qew l
 |[],_,_=>Nat.le_refl _
 |c::cs,n,h=>by
  have h1:=QeR.len h.2.2.2.2.2
  have h2:0<c.cls.length:=List.length_pos_iff.2 h.2.2.2.1
  simp only [List.length_cons,Qew];omega
def mu (s:SS):Nat:=25*s.fuel+Qew s.ch
structure QeY (s:SS):Prop where
 bok:Bok s.B
 gb:∀x∈s.B,tgd x.2
 ch:QeR s.ch s.B.length
 fr:s.fresh+8*mu s≤40000
 bl:s.B.length+10100*mu s≤1000000000
structure Inv (s:SS):Prop where
 c:QeY s
 gg:∀g∈s.goals,tgd g.1
 og:Qb0 s.goals s.ch.length
theorem QeY.sm {s:SS} (h:QeY s):SmB s.B:=fun x hx=>(h.gb x hx).small
theorem Qn0 {n:Int} (h0:0≤n) (h1:n<1099511627776):low n=n:=by unfold low;omega
theorem Qpa {v k n m:Int} {s:ByteArray} {l:Nat} (h:Qa6 v k n s l=true) (hv:v≤8) (h0:0≤m) (h1:m≤40000):Qa6 549755813888 k (Qe5 k n m) s l=true:=by
 unfold Qa6 at h⊢
 unfold Qe5
 by_cases e:k=0
 ·rw [if_pos e] at h⊢
  rw [if_pos e]
  simp only [Bool.and_eq_true,decide_eq_true_eq] at h⊢
  rw [Qn0 (n:=n) Ya Ya,Qn0 (n:=m) Ya Ya]
  exact ⟨⟨⟨by omega,by omega⟩,h.1.2⟩,h.2⟩
 ·rw [if_neg e] at h⊢
  rw [if_neg e]
  exact h
theorem Ts.shift_nil (m:Int):Ts.nil.shift m= .nil:=rfl
theorem Ts.shift_len (m:Int) (T:Ts):(T.shift m).length=T.length:=by
 induction T with
 |nil=>rfl
 |cons k n s a r _ ih=>rw [Ts.shift_cons];simp only [Ts.length,ih]
theorem Ts.shift_nodes (m:Int) (T:Ts):(T.shift m).nodes=T.nodes:=by
 induction T with
 |nil=>rfl
 |cons k n s a r iha ihr=>rw [Ts.shift_cons];simp only [Ts.nodes,iha,ihr]
theorem Ts.shift_good {v m:Int} (hv:v≤8) (h0:0≤m) (h1:m≤40000) (T:Ts):T.good v=true→(T.shift m).good 549755813888=true:=by
 induction T with
 |nil=>intro _;rfl
 |cons k n s a r iha ihr=>
  intro h
  rw [Ts.shift_cons]
  simp only [Ts.good,Bool.and_eq_true] at h⊢
  exact ⟨⟨by rw [Ts.shift_len];exact Qpa h.1.1 hv h0 h1,iha h.1.2⟩,ihr h.2⟩
theorem QkV {v k n m:Int} {s:ByteArray} {T:Ts} (h:gB v k n s T=true) (hv:v≤8) (h0:0≤m) (h1:m≤40000):tgd (Tm.shift ⟨k,n,s,T⟩ m):=by
 simp only [gB,Bool.and_eq_true,decide_eq_true_eq] at h
 refine ⟨?_,by show (T.shift m).nodes+1≤24;rw [Ts.shift_nodes];exact h.2⟩
 have:=Ts.shift_good hv h0 h1 (.cons k n s T .nil) h.1.2
 rwa [Ts.shift_cons,Ts.shift_nil] at this
theorem Qni {v m:Int} {o:Nat} {rest:List Gl} (hv:v≤8) (h0:0≤m) (h1:m≤40000) (hr:∀g∈rest,tgd g.1):∀T:Ts,T.goals v=true→∀g∈Qkv T m o rest,tgd g.1
 | .nil,_=>hr
 | .cons k n s a r,h=>by
  simp only [Ts.goals,Bool.and_eq_true] at h
  intro g hg
  rcases List.mem_cons.1 hg with rfl|hg
  ·exact QkV h.1 hv h0 h1
  ·exact Qni hv h0 h1 hr r h.2 g hg
theorem Qgc {m:Int} {o:Nat} {rest:List Gl} (hr:Qb0 rest o):∀T:Ts,Qb0 (Qkv T m o rest) o
 | .nil=>hr
 | .cons k n s a r=>⟨Nat.le_refl _,Qgc hr r⟩
theorem Qkt {c:Cl} (h:cB c=true):0≤c.vars∧c.vars≤8∧c.bd.length≤5∧c.bd.goals c.vars=true∧gB c.vars c.k c.n c.s c.hd=true:=by
 simp only [cB,qB,Bool.and_eq_true,decide_eq_true_eq] at h
 exact ⟨h.1.1.1.1.1,h.1.1.1.1.2,h.1.1.1.2,h.1.1.2,h.1.2⟩
theorem QnC (B:Bnd) {n:Nat} (h:n≤B.length):(QaB B n).length=n:=by unfold QaB;simp;omega
theorem QtS {cl:Cl} (h:cB cl=true) {m:Nat} (hm:m≤40000):tgd (cl.head.shift m):=by
 obtain ⟨h0,h1,_,_,h2⟩:=Qkt h
 exact QkV h2 h1 Ya Ya
theorem Qp9 {Q:Tm→Prop} {B:Bnd} (h:∀x∈B,Q x.2) (n:Nat):∀x∈QaB B n,Q x.2:=fun x hx=>h x (List.mem_of_mem_drop hx)
theorem Quu (c:Ch) (more:List Cl) (cs:List Ch):cs.length≤(QkG c more cs).length:=by
 cases more with
 |nil=>exact Nat.le_refl _
 |cons x r=>simp [QkG]
theorem QhK (c:Ch) (more:List Cl) (cs:List Ch):Qew (QkG c more cs)=more.length+Qew cs:=by
 cases more with
 |nil=>simp [QkG]
 |cons x r=>simp [QkG,Qew]
theorem QmQ {s:SS} {c:Ch} {cs:List Ch} {cl:Cl} {more:List Cl} (hI:QeY s) (h1:s.ch=c::cs) (h2:c.cls=cl::more) (g':List Gl):
  QeY ⟨(Qc1 401 (cl.head.shift s.fresh) c.g.1 (QaB s.B c.bound) 0).B,s.fresh+cl.vars.toNat,s.fuel,g',QkG c more cs,s.ev⟩:=by
 have hch:=hI.ch
 rw [h1] at hch
 obtain ⟨a1,a2,a3,a4,a5,a6⟩:=hch
 have hfr:=hI.fr
 have hbl:=hI.bl
 have hmu:mu s=25*s.fuel+(more.length+1+Qew cs):=by unfold mu;rw [h1];simp only [Qew,h2,List.length_cons]
 have hcl:cB cl=true:=a5 cl (by rw [h2];exact .head _)
 obtain ⟨v0,v1,_,_,_⟩:=Qkt hcl
 have hmu':mu ⟨(Qc1 401 (cl.head.shift s.fresh) c.g.1 (QaB s.B c.bound) 0).B,s.fresh+cl.vars.toNat,s.fuel,g',QkG c more cs,s.ev⟩=25*s.fuel+(more.length+Qew cs):=by unfold mu;simp only [QhK]
 have t1:=QtS hcl (m:=s.fresh) Ya
 have t2:=a3 c.g (.head _)
 have hu:=QnC s.B a1
 have bu:Bok (QaB s.B c.bound):=hI.bok.drop _
 have su:SmB (QaB s.B c.bound):=Qp9 (Q:=fun t=>t.ar.nodes≤24) hI.sm _
 have hup:=QfN 401 (cl.head.shift s.fresh) c.g.1 (QaB s.B c.bound) 0 t1.small t2.small bu su Ya
 have hw:=Qud 401 (cl.head.shift s.fresh) c.g.1 (QaB s.B c.bound) 0 t1.small t2.small bu su Ya
 have hgb:=Qp4 Qb8 401 (cl.head.shift s.fresh) c.g.1 (QaB s.B c.bound) 0 (Qp9 hI.gb _) t1 t2
 obtain ⟨N,hN⟩:=hup.ext
 have hlen:=hup.len
 have hle:c.bound≤(Qc1 401 (cl.head.shift s.fresh) c.g.1 (QaB s.B c.bound) 0).B.length:=by rw [hN];simp;omega
 refine ⟨hup.bok,hgb,?_,by rw [hmu'];simp only;omega,by rw [hmu'];simp only;omega⟩
 show QeR (QkG c more cs) _
 cases more with
 |nil=>exact a6.mono hle
 |cons x r=>exact ⟨hle,a2,a3,by simp,fun y hy=>a5 y (by rw [h2];exact .tail _ hy),a6⟩
theorem QjU:∀(n:Nat) (s:SS),QeY s→((QaU n s).1=0→Inv (QaU n s).2∧mu (QaU n s).2<mu s)∧(QaU n s).2.ev=s.ev∧((QaU n s).1=0∨(QaU n s).1=2∨(QaU n s).1=4)∧(QaU n s).2.fuel=s.fuel
 |0,s,hI=>⟨fun h=>(by cases h),rfl,.inr (.inl rfl),rfl⟩
 | n + 1, s, hI => by
  unfold QaU
  cases h1:s.ch with
  |nil=>exact ⟨fun h=>(by cases h),rfl,.inr (.inl rfl),rfl⟩
  |cons c cs=>
   simp only
   cases h2:c.cls with
   |nil=>exact ⟨fun h=>(by cases h),rfl,.inr (.inl rfl),rfl⟩
   |cons cl more=>
    simp only
    have hmu:mu s=25*s.fuel+(more.length+1+Qew cs):=by unfold mu;rw [h1];simp only [Qew,h2,List.length_cons]
    split
    ·exact ⟨fun h=>(by cases h),rfl,.inr (.inr rfl),rfl⟩
    split
    ·refine ⟨fun _=>⟨⟨QmQ hI h1 h2 _,?_,?_⟩,?_⟩,rfl,.inl rfl,rfl⟩
     ·have hch:=hI.ch
      rw [h1] at hch
      obtain ⟨a1,a2,a3,a4,a5,a6⟩:=hch
      obtain ⟨v0,v1,_,v3,_⟩:=Qkt (a5 cl (by rw [h2];exact .head _))
      have:=hI.fr
      exact Qni v1 Ya Ya (fun g hg=>a3 g (.tail _ hg)) _ v3
     ·have hch:=hI.ch
      rw [h1] at hch
      obtain ⟨a1,a2,a3,a4,a5,a6⟩:=hch
      exact (Qgc (a2.2.mono a2.1) _).mono (Quu c more cs)
     ·rw [hmu];unfold mu;simp only [QhK];omega
    ·obtain ⟨i1,i2,i3,i4⟩:=QjU n _ (QmQ hI h1 h2 s.goals)
     refine ⟨fun h=>⟨(i1 h).1,Nat.lt_trans (i1 h).2 ?_⟩,i2,i3,i4⟩
     rw [hmu];unfold mu;simp only [QhK];omega
theorem QhE {n:Nat} {s:SS} {c:Ch} {cs:List Ch} {cl:Cl} {more:List Cl} (h1:s.ch=c::cs) (h2:c.cls=cl::more):QaU (n+1) s=
  if 400<(Qc1 401 (cl.head.shift s.fresh) c.g.1 (QaB s.B c.bound) 0).w then (4,⟨(Qc1 401 (cl.head.shift s.fresh) c.g.1 (QaB s.B c.bound) 0).B,s.fresh+cl.vars.toNat,s.fuel,s.goals,QkG c more cs,s.ev⟩)
  else if (Qc1 401 (cl.head.shift s.fresh) c.g.1 (QaB s.B c.bound) 0).ok=true then (0,⟨(Qc1 401 (cl.head.shift s.fresh) c.g.1 (QaB s.B c.bound) 0).B,s.fresh+cl.vars.toNat,s.fuel,Qkv cl.bd s.fresh cs.length c.next,QkG c more cs,s.ev⟩)
  else QaU n ⟨(Qc1 401 (cl.head.shift s.fresh) c.g.1 (QaB s.B c.bound) 0).B,s.fresh+cl.vars.toNat,s.fuel,s.goals,QkG c more cs,s.ev⟩:=by
 conv=>lhs;unfold QaU
 rw [h1]
 simp only
 rw [h2]
structure LE where
 A:Option Addr
 c:Nat
 T:TA
abbrev Qv5 (k:Int) (e:LE):List Value:=[.int .i64 k,.slice e.A e.T.len e.c]
def evL:List LE→List Value
 |[]=>[]
 |e::r=>Qv5 1 e++evL r
theorem QuM (a b:List LE):evL (a++b)=evL a++evL b:=by
 induction a with
 |nil=>rfl
 |cons c r ih=>simp [evL,ih]
end Go.Proofs.YthliapbflkfdiacGreatDoor
