/- Steps of the proof. -/
import Derived.Test.YthliapbflkfdiacGreatDoorG4
namespace Go.Proofs.YthliapbflkfdiacGreatDoor
set_option linter.unusedVariables false
def Ts.Mem (x:Tm):Ts→Prop
 | .nil=>False
 | .cons k n s a r=>x=⟨k,n,s,a⟩∨r.Mem x
def Qug (Q:Tm→Prop):Prop:=∀t:Tm,Q t→∀x,t.ar.Mem x→Q x
theorem Qc7 {Q:Tm→Prop} {B:Bnd} (hB:∀x∈B,Q x.2) {t:Tm} (ht:Q t):Q (Qc B t):=by
 rcases Qi9 (B:=B) t with h|⟨x,hx,h⟩
 ·rw [h];exact ht
 ·rw [h];exact hB x hx
theorem QtL {Q:Tm→Prop} {B:Bnd} {v:Int} {t:Tm} {w:Nat} (hB:∀x∈B,Q x.2) (ht:Q t):∀x∈(QoK v t B w).B,Q x.2:=by
 unfold QoK;split
 ·exact hB
 ·intro x hx;rcases List.mem_cons.1 hx with rfl|hx
  ·exact ht
  ·exact hB x hx
theorem QtQ {Q:Tm→Prop} {g:Tm→Tm→Bnd→Nat→Us} (hg:∀a b B w,(∀x∈B,Q x.2)→Q a→Q b→∀x∈(g a b B w).B,Q x.2):∀(T U:Ts) (B:Bnd) (w:Nat),(∀x,T.Mem x→Q x)→(∀x,U.Mem x→Q x)→(∀x∈B,Q x.2)→∀x∈(Qln g T U B w).B,Q x.2
 | .nil,U,B,w,_,_,hB=>hB
 | .cons k n s a r,.nil,B,w,_,_,hB=>hB
 | .cons k n s a r,.cons k' n' s' a' r',B,w,hT,hU,hB=>by
  have h1:=hg ⟨k,n,s,a⟩ ⟨k',n',s',a'⟩ B w hB (hT _ (.inl rfl)) (hU _ (.inl rfl));simp only [Qln];split
  ·exact QtQ hg r r' _ _ (fun x hx=>hT x (.inr hx)) (fun x hx=>hU x (.inr hx)) h1
  ·exact h1
theorem QsE {Q:Tm→Prop} (hQ:Qug Q):∀(f:Nat) (a b:Tm) (B:Bnd) (w:Nat),(∀x∈B,Q x.2)→Q a→Q b→∀x∈(Qbs f a b B w).B,Q x.2
 |0,a,b,B,w,hB,ha,hb=>hB
 | f + 1, a, b, B, w, hB, ha, hb => by
  have ea:=Qc7 hB ha;have eb:=Qc7 hB hb;simp only [Qbs];split
  ·exact hB
  split
  ·split
   ·by_cases e:(Qc B a).n=(Qc B b).n
    ·rw [if_pos e];exact hB
    ·rw [if_neg e];intro x hx;rcases List.mem_cons.1 hx with rfl|hx
     ·exact eb
     ·exact hB x hx
   ·exact QtL hB eb
  split
  ·exact QtL hB ea
  split
  ·exact QtQ (fun a b B w=>QsE hQ f a b B w) _ _ _ _ (hQ _ ea) (hQ _ eb) hB
  ·exact hB
theorem QtP {g:Tm→Tm→Bnd→Nat→Us}:∀(T U:Ts) (B:Bnd) (w:Nat),(∀a b:Tm,a.ar.nodes<T.nodes→b.ar.nodes<U.nodes→∀B w,Bok B→SmB B→w≤400→UP B w (g a b B w)∧(g a b B w).w≤10025)→Bok B→SmB B→w≤400→(Qln g T U B w).w≤10025
 | .nil,U,B,w,h,hB,hS,hw=>by simp [Qln];omega
 | .cons k n s a r,.nil,B,w,h,hB,hS,hw=>by simp [Qln];omega
 | .cons k n s a r,.cons k' n' s' a' r',B,w,h,hB,hS,hw=>by
  obtain ⟨h1,h2⟩:=h ⟨k,n,s,a⟩ ⟨k',n',s',a'⟩ Yj Yj B w hB hS hw;simp only [Qln];split
  ·rename_i hok;exact QtP r r' _ _ (fun a b ha hb=>h a b Yj Yj) h1.bok h1.sm (h1.ok hok)
  ·exact h2
theorem QsD:∀(f:Nat) (a b:Tm) (B:Bnd) (w:Nat),a.ar.nodes≤24→b.ar.nodes≤24→Bok B→SmB B→w≤400→(Qbs f a b B w).w≤10025
 |0,a,b,B,w,ha,hb,hB,hS,hw=>by simp only [Qbs];omega
 |f+1,a,b,B,w,ha,hb,hB,hS,hw=>by
  have ea:=QcH hS ha;have eb:=QcH hS hb
  have hasg:∀(v:Int) (t:Tm),t.ar.nodes≤24→(QoK v t B (w+1)).w≤max (w+2) 10025:=fun v t ht=>by
   have h1:=Qsa hS v 401 t ht (w+1);unfold QoK;split
   ·simp only;omega
   ·simp only;omega
  simp only [Qbs];split
  ·simp only;omega
  split
  ·split
   ·simp only;omega
   ·have:=hasg (Qc B a).n (Qc B b) eb;omega
  split
  ·have:=hasg (Qc B b).n (Qc B a) ea;omega
  split
  ·exact QtP _ _ _ _ (fun x y hx hy B w hB hS hw=>⟨Qdj f x y B w Ya Ya hB hS hw,QsD f x y B w Ya Ya hB hS hw⟩) hB hS Ya
  ·simp only;omega
def tgd (t:Tm):Prop:=(Ts.cons t.k t.n t.s t.ar .nil).good 549755813888=true∧t.ar.nodes+1≤24
theorem Ts.mem_nodes {x:Tm}:∀{T:Ts},T.Mem x→x.ar.nodes+1≤T.nodes
 | .cons k n s a r,h=>by
  simp only [Ts.nodes];rcases h with rfl|h
  ·simp only;omega
  ·have:=Ts.mem_nodes h;omega
theorem Ts.mem_good {v:Int} {x:Tm}:∀{T:Ts},T.Mem x→T.good v=true→(Ts.cons x.k x.n x.s x.ar .nil).good v=true
 | .cons k n s a r,h,hg=>by
  simp only [Ts.good,Bool.and_eq_true] at hg⊢;rcases h with rfl|h
  ·exact ⟨hg.1,trivial⟩
  ·have:=Ts.mem_good h hg.2;simp only [Ts.good,Bool.and_eq_true] at this;exact this
theorem Qac:Qug tgd:=fun t h x hx=>by
 obtain ⟨h1,h2⟩:=h;have h3:=Ts.mem_nodes hx;refine ⟨?_,by omega⟩;simp only [Ts.good,Bool.and_eq_true] at h1;exact Ts.mem_good hx h1.1.2
theorem tgd.small {t:Tm} (h:tgd t):t.ar.nodes≤24:=by have:=h.2;omega
def QbO:List Gl→Nat→Prop
 |[],_=>True
 |g::r,n=>g.2≤n∧QbO r g.2
theorem QbO.mono:∀{l:List Gl} {n m:Nat},QbO l n→n≤m→QbO l m
 |[],_,_,_,_=>trivial
 |g::r,n,m,h,hm=>⟨Nat.le_trans h.1 hm,h.2⟩
def Qeo:List Ch→Nat→Prop
 |[],_=>True
 |c::cs,n=>c.bound≤n∧QbO (c.g::c.next) cs.length∧(∀g∈c.g::c.next,tgd g.1)∧c.cls≠[]∧(∀cl∈c.cls,cB cl=true)∧Qeo cs c.bound
theorem Qeo.mono:∀{l:List Ch} {n m:Nat},Qeo l n→n≤m→Qeo l m
 |[],_,_,_,_=>trivial
 |c::cs,n,m,h,hm=>⟨Nat.le_trans h.1 hm,h.2⟩
theorem Qeo.drop:∀{l:List Ch} {n:Nat},Qeo l n→∀k,Qeo (l.drop k) n
 |[],_,_,_=>by simp [Qeo]
 |c::cs,n,h,0=>h
 |c::cs,n,h,k+1=>by
  have:=Qeo.drop h.2.2.2.2.2 k;exact this.mono h.1
theorem Qgk:∀(l:List Ch) (k:Nat),QcD (l.drop k)≤QcD l
 |[],k=>by simp
 |c::cs,0=>Nat.le_refl _
 |c::cs,k+1=>by have:=Qgk cs k;simp only [List.drop_succ_cons,QcD];omega
theorem Qeo.len:∀{l:List Ch} {n:Nat},Qeo l n→l.length≤QcD l
 |[],_,_=>Nat.le_refl _
 |c::cs,n,h=>by
  have h1:=Qeo.len h.2.2.2.2.2;have h2:0<c.cls.length:=List.length_pos_iff.2 h.2.2.2.1;simp only [List.length_cons,QcD];omega
def mu (s:SS):Nat:=25*s.fuel+QcD s.ch
structure Qd4 (s:SS):Prop where
 bok:Bok s.B
 gb:∀x∈s.B,tgd x.2
 ch:Qeo s.ch s.B.length
 fr:s.fresh+8*mu s≤40000
 bl:s.B.length+10100*mu s≤1000000000
structure Inv (s:SS):Prop where
 c:Qd4 s
 gg:∀g∈s.goals,tgd g.1
 og:QbO s.goals s.ch.length
theorem Qd4.sm {s:SS} (h:Qd4 s):SmB s.B:=fun x hx=>(h.gb x hx).small
theorem Qd9 {n:Int} (h0:0≤n) (h1:n<1099511627776):low n=n:=by unfold low;omega
theorem Qoc {v k n m:Int} {s:ByteArray} {l:Nat} (h:Qai v k n s l=true) (hv:v≤8) (h0:0≤m) (h1:m≤40000):Qai 549755813888 k (QaN k n m) s l=true:=by
 unfold Qai at h⊢;unfold QaN;by_cases e:k=0
 ·rw [if_pos e] at h⊢;rw [if_pos e];simp only [Bool.and_eq_true,decide_eq_true_eq] at h⊢;rw [Qd9 (n:=n) Ya Ya,Qd9 (n:=m) Ya Ya];exact ⟨⟨⟨by omega,by omega⟩,h.1.2⟩,h.2⟩
 ·rw [if_neg e] at h⊢;rw [if_neg e];exact h
theorem Ts.shift_nil (m:Int):Ts.nil.shift m= .nil:=rfl
theorem Ts.shift_len (m:Int) (T:Ts):(T.shift m).length=T.length:=by
 induction T with
 |nil=>rfl
 |cons k n s a r _ ih=>rw [Ts.shift_cons];simp only [Ts.length,ih]
theorem Ts.shift_nodes (m:Int) (T:Ts):(T.shift m).nodes=T.nodes:=by
 induction T with
 |nil=>rfl
 |cons k n s a r iha ihr=>rw [Ts.shift_cons];simp only [Ts.nodes,iha,ihr]
theorem Ts.shift_good {v m:Int} (hv:v≤8) (h0:0≤m) (h1:m≤40000) (T:Ts):T.good v=true→(T.shift m).good 549755813888=true:=by
 induction T with
 |nil=>intro _;rfl
 |cons k n s a r iha ihr=>
  intro h;rw [Ts.shift_cons];simp only [Ts.good,Bool.and_eq_true] at h⊢;exact ⟨⟨by rw [Ts.shift_len];exact Qoc h.1.1 hv h0 h1,iha h.1.2⟩,ihr h.2⟩
theorem Qj1 {v k n m:Int} {s:ByteArray} {T:Ts} (h:gB v k n s T=true) (hv:v≤8) (h0:0≤m) (h1:m≤40000):tgd (Tm.shift ⟨k,n,s,T⟩ m):=by
 simp only [gB,Bool.and_eq_true,decide_eq_true_eq] at h;refine ⟨?_,by show (T.shift m).nodes+1≤24;rw [Ts.shift_nodes];exact h.2⟩;have:=Ts.shift_good hv h0 h1 (.cons k n s T .nil) h.1.2
 rwa [Ts.shift_cons,Ts.shift_nil] at this
theorem Qhu {v m:Int} {o:Nat} {rest:List Gl} (hv:v≤8) (h0:0≤m) (h1:m≤40000) (hr:∀g∈rest,tgd g.1):∀T:Ts,T.goals v=true→∀g∈QdD T m o rest,tgd g.1
 | .nil,_=>hr
 | .cons k n s a r,h=>by
  simp only [Ts.goals,Bool.and_eq_true] at h;intro g hg;rcases List.mem_cons.1 hg with rfl|hg
  ·exact Qj1 h.1 hv h0 h1
  ·exact Qhu hv h0 h1 hr r h.2 g hg
theorem QfD {m:Int} {o:Nat} {rest:List Gl} (hr:QbO rest o):∀T:Ts,QbO (QdD T m o rest) o
 | .nil=>hr
 | .cons k n s a r=>⟨Nat.le_refl _,QfD hr r⟩
theorem Qc1 {c:Cl} (h:cB c=true):0≤c.vars∧c.vars≤8∧c.bd.length≤5∧c.bd.goals c.vars=true∧gB c.vars c.k c.n c.s c.hd=true:=by
 simp only [cB,qB,Bool.and_eq_true,decide_eq_true_eq] at h;exact ⟨h.1.1.1.1.1,h.1.1.1.1.2,h.1.1.1.2,h.1.1.2,h.1.2⟩
theorem goals_nodes {v:Int}:∀T:Ts,T.goals v=true→T.nodes≤24*T.length
 | .nil,_=>Nat.le_refl _
 | .cons k n s a r,h=>by
  simp only [Ts.goals,Bool.and_eq_true] at h;have h1:=goals_nodes r h.2;have h2:=h.1;simp only [gB,Bool.and_eq_true,decide_eq_true_eq] at h2;simp only [Ts.nodes,Ts.length];omega
theorem Qmy (B:Bnd) {n:Nat} (h:n≤B.length):(Qaz B n).length=n:=by unfold Qaz;simp;omega
theorem Qns {cl:Cl} (h:cB cl=true) {m:Nat} (hm:m≤40000):tgd (cl.head.shift m):=by
 obtain ⟨h0,h1,_,_,h2⟩:=Qc1 h;exact Qj1 h2 h1 Ya Ya
theorem QoZ {Q:Tm→Prop} {B:Bnd} (h:∀x∈B,Q x.2) (n:Nat):∀x∈Qaz B n,Q x.2:=fun x hx=>h x (List.mem_of_mem_drop hx)
theorem QpC (c:Ch) (more:List Cl) (cs:List Ch):cs.length≤(QdL c more cs).length:=by
 cases more with
 |nil=>exact Nat.le_refl _
 |cons x r=>simp [QdL]
theorem Qds (c:Ch) (more:List Cl) (cs:List Ch):QcD (QdL c more cs)=more.length+QcD cs:=by
 cases more with
 |nil=>simp [QdL]
 |cons x r=>simp [QdL,QcD]
theorem Qi1 {s:SS} {c:Ch} {cs:List Ch} {cl:Cl} {more:List Cl} (hI:Qd4 s) (h1:s.ch=c::cs) (h2:c.cls=cl::more) (g':List Gl):
  Qd4 ⟨(Qbs 401 (cl.head.shift s.fresh) c.g.1 (Qaz s.B c.bound) 0).B,s.fresh+cl.vars.toNat,s.fuel,g',QdL c more cs,s.ev⟩:=by
 have hch:=hI.ch;rw [h1] at hch;obtain ⟨a1,a2,a3,a4,a5,a6⟩:=hch;have hfr:=hI.fr;have hbl:=hI.bl
 have hmu:mu s=25*s.fuel+(more.length+1+QcD cs):=by unfold mu;rw [h1];simp only [QcD,h2,List.length_cons]
 have hcl:cB cl=true:=a5 cl (by rw [h2];exact .head _);obtain ⟨v0,v1,_,_,_⟩:=Qc1 hcl
 have hmu':mu ⟨(Qbs 401 (cl.head.shift s.fresh) c.g.1 (Qaz s.B c.bound) 0).B,s.fresh+cl.vars.toNat,s.fuel,g',QdL c more cs,s.ev⟩=25*s.fuel+(more.length+QcD cs):=by unfold mu;simp only [Qds]
 have t1:=Qns hcl (m:=s.fresh) Ya;have t2:=a3 c.g (.head _);have hu:=Qmy s.B a1;have bu:Bok (Qaz s.B c.bound):=hI.bok.drop _;have su:SmB (Qaz s.B c.bound):=QoZ (Q:=fun t=>t.ar.nodes≤24) hI.sm _;have hup:=Qdj 401 (cl.head.shift s.fresh) c.g.1 (Qaz s.B c.bound) 0 t1.small t2.small bu su Ya;have hw:=QsD 401 (cl.head.shift s.fresh) c.g.1 (Qaz s.B c.bound) 0 t1.small t2.small bu su Ya;have hgb:=QsE Qac 401 (cl.head.shift s.fresh) c.g.1 (Qaz s.B c.bound) 0 (QoZ hI.gb _) t1 t2;obtain ⟨N,hN⟩:=hup.ext;have hlen:=hup.len
 have hle:c.bound≤(Qbs 401 (cl.head.shift s.fresh) c.g.1 (Qaz s.B c.bound) 0).B.length:=by rw [hN];simp;omega
 refine ⟨hup.bok,hgb,?_,by rw [hmu'];simp only;omega,by rw [hmu'];simp only;omega⟩;show Qeo (QdL c more cs) _
 cases more with
 |nil=>exact a6.mono hle
 |cons x r=>exact ⟨hle,a2,a3,by simp,fun y hy=>a5 y (by rw [h2];exact .tail _ hy),a6⟩
theorem QiZ:∀(n:Nat) (s:SS),Qd4 s→((QaH n s).1=0→Inv (QaH n s).2∧mu (QaH n s).2<mu s)∧(QaH n s).2.ev=s.ev∧((QaH n s).1=0∨(QaH n s).1=2∨(QaH n s).1=4)∧(QaH n s).2.fuel=s.fuel
 |0,s,hI=>⟨fun h=>Y6,rfl,.inr (.inl rfl),rfl⟩
 | n + 1, s, hI => by
  unfold QaH
  cases h1:s.ch with
  |nil=>exact ⟨fun h=>Y6,rfl,.inr (.inl rfl),rfl⟩
  |cons c cs=>
   simp only
   cases h2:c.cls with
   |nil=>exact ⟨fun h=>Y6,rfl,.inr (.inl rfl),rfl⟩
   |cons cl more=>
    simp only
    have hmu:mu s=25*s.fuel+(more.length+1+QcD cs):=by unfold mu;rw [h1];simp only [QcD,h2,List.length_cons]
    split
    ·exact ⟨fun h=>Y6,rfl,.inr (.inr rfl),rfl⟩
    split
    ·refine ⟨fun _=>⟨⟨Qi1 hI h1 h2 _,?_,?_⟩,?_⟩,rfl,.inl rfl,rfl⟩
     ·have hch:=hI.ch;rw [h1] at hch;obtain ⟨a1,a2,a3,a4,a5,a6⟩:=hch;obtain ⟨v0,v1,_,v3,_⟩:=Qc1 (a5 cl (by rw [h2];exact .head _));have:=hI.fr;exact Qhu v1 Ya Ya (fun g hg=>a3 g (.tail _ hg)) _ v3
     ·have hch:=hI.ch;rw [h1] at hch;obtain ⟨a1,a2,a3,a4,a5,a6⟩:=hch;exact (QfD (a2.2.mono a2.1) _).mono (QpC c more cs)
     ·rw [hmu];unfold mu;simp only [Qds];omega
    ·obtain ⟨i1,i2,i3,i4⟩:=QiZ n _ (Qi1 hI h1 h2 s.goals);refine ⟨fun h=>⟨(i1 h).1,Nat.lt_trans (i1 h).2 ?_⟩,i2,i3,i4⟩;rw [hmu];unfold mu;simp only [Qds];omega
theorem Qei {n:Nat} {s:SS} {c:Ch} {cs:List Ch} {cl:Cl} {more:List Cl} (h1:s.ch=c::cs) (h2:c.cls=cl::more):QaH (n+1) s=
  if 400<(Qbs 401 (cl.head.shift s.fresh) c.g.1 (Qaz s.B c.bound) 0).w then (4,⟨(Qbs 401 (cl.head.shift s.fresh) c.g.1 (Qaz s.B c.bound) 0).B,s.fresh+cl.vars.toNat,s.fuel,s.goals,QdL c more cs,s.ev⟩)
  else if (Qbs 401 (cl.head.shift s.fresh) c.g.1 (Qaz s.B c.bound) 0).ok=true then (0,⟨(Qbs 401 (cl.head.shift s.fresh) c.g.1 (Qaz s.B c.bound) 0).B,s.fresh+cl.vars.toNat,s.fuel,QdD cl.bd s.fresh cs.length c.next,QdL c more cs,s.ev⟩)
  else QaH n ⟨(Qbs 401 (cl.head.shift s.fresh) c.g.1 (Qaz s.B c.bound) 0).B,s.fresh+cl.vars.toNat,s.fuel,s.goals,QdL c more cs,s.ev⟩:=by
 conv=>lhs;unfold QaH
 rw [h1];simp only;rw [h2]
open Go.RowKit
set_option linter.unusedSimpArgs false
def QfX (m:Int) (t:Tm):Prop:=(t.k=0→t.n<m)∧t.ar.vars (· <m)
def FB (m:Int) (B:Bnd):Prop:=∀x∈B,x.1<m∧QfX m x.2
theorem Ts.vars_mono {P Q:Int→Prop} (h:∀n,P n→Q n) (T:Ts):T.vars P→T.vars Q:=by
 induction T with
 |nil=>exact id
 |cons k n s ar r iha ihr=>exact fun ⟨a,b,c⟩=>⟨fun e=>h _ (a e),iha b,ihr c⟩
theorem QfX.mono {m m':Int} (h:m≤m') {t:Tm} (ht:QfX m t):QfX m' t:=⟨fun e=>Int.lt_of_lt_of_le (ht.1 e) h,Ts.vars_mono (fun _ hn=>Int.lt_of_lt_of_le hn h) _ ht.2⟩
theorem FB.mono {m m':Int} (h:m≤m') {B:Bnd} (hB:FB m B):FB m' B:=fun x hx=>⟨Int.lt_of_lt_of_le (hB x hx).1 h,(hB x hx).2.mono h⟩
theorem QbB {m:Int} {B:Bnd} (hB:FB m B) {t:Tm} (ht:QfX m t):QfX m (Qc B t):=by
 rcases Qi9 (B:=B) t with e|⟨x,hx,e⟩
 ·rw [e];exact ht
 ·rw [e];exact (hB x hx).2
theorem Qo2 {m:Int} {T:Ts} (h:T.vars (· <m)):∀x∈T.tms,QfX m x:=by
 induction T with
 |nil=>intro x hx;cases hx
 |cons k n s ar r _ ih=>
  intro x hx;rcases List.mem_cons.1 hx with rfl|hx
  ·exact ⟨h.1,h.2.1⟩
  ·exact ih h.2.2 x hx
theorem FB.get {m:Int} {B:Bnd} (hB:FB m B) {n:Int} (hn:m≤n):QbQ n B=none:=by
 induction B with
 |nil=>rfl
 |cons x r ih=>
  simp only [QbQ];rw [if_neg (by have:=(hB x (List.mem_cons_self ..)).1;omega)];exact ih fun y hy=>hB y (List.mem_cons_of_mem _ hy)
theorem FB.cons {m:Int} {B:Bnd} (hB:FB m B) {v:Int} {t:Tm} (hv:v<m) (ht:QfX m t):FB m ((v,t)::B):=fun x hx=>by
 rcases List.mem_cons.1 hx with rfl|hx
 ·exact ⟨hv,ht⟩
 ·exact hB x hx
def QqX (j:Bnd→Tm→Tm→Bnd):Prop:=∀m B a b,FB m B→QfX m a→QfX m b→(Qc B a).k=0→(Qc B b).k=0→FB m (j B a b)
theorem Qne:QqX Qqa:=fun m B a b hB ha hb ka kb=>hB.cons ((QbB hB ha).1 ka) (QbB hB hb)
theorem QrI:QqX Qd3:=fun m B a b hB ha hb ka kb=>by
 have h1:=(QbB hB ha).1 ka;have h2:=(QbB hB hb).1 kb;exact hB.cons Ya ⟨fun _=>by show min _ _<m;omega,trivial⟩
theorem Qsk {j:Bnd→Tm→Tm→Bnd} {m:Int} {B:Bnd} (hB:FB m B) {v:Int} {t:Tm} (hv:v<m) (ht:QfX m t) (w:Nat):FB m (QiF (QoI j) v t B w).s:=by
 unfold QiF;split
 ·exact hB
 ·exact hB.cons hv (QbB hB ht)
theorem Qst {m:Int} {g:Tm→Tm→Bnd→Nat→Ug Bnd} (hg:∀a b B w,FB m B→QfX m a→QfX m b→FB m (g a b B w).s):∀(l l':List Tm) (B:Bnd) (w:Nat),FB m B→(∀x∈l,QfX m x)→(∀x∈l',QfX m x)→FB m (QfZ g l l' B w).s
 |[],l',B,w,h,_,_=>by cases l'<;>exact h
 |_::_,[],B,w,h,_,_=>h
 |x::l,y::l',B,w,h,hl,hl'=>by
  simp only [QfZ];have h1:=hg x y B w h (hl x (List.mem_cons_self ..)) (hl' y (List.mem_cons_self ..));split
  ·exact Qst hg l l' _ _ h1 (fun z hz=>hl z (List.mem_cons_of_mem _ hz)) (fun z hz=>hl' z (List.mem_cons_of_mem _ hz))
  ·exact h1
theorem QtG {m:Int} {c:Prop} [Decidable c] {x y:Ug Bnd} (hx:FB m x.s) (hy:FB m y.s):FB m (if c then x else y).s:=by
 split
 ·exact hx
 ·exact hy
theorem Qmw {j:Bnd→Tm→Tm→Bnd} (hj:QqX j) {m:Int}:∀(f:Nat) (a b:Tm) (B:Bnd) (w:Nat),FB m B→QfX m a→QfX m b→FB m (Qa3 (QoI j) f a b B w).s
 |0,a,b,B,w,h,_,_=>h
 | f + 1, a, b, B, w, h, ha, hb => by
  simp only [Qa3];split
  ·exact h
  ·have la:=QbB h ha;have lb:=QbB h hb;have va:(QoI j).view B a=tvw (Qc B a):=rfl;have vb:(QoI j).view B b=tvw (Qc B b):=rfl;rw [va,vb];by_cases ka:(Qc B a).k=0
   ·rw [show tvw (Qc B a)= .var (Qc B a).n by unfold tvw;rw [if_pos ka]];by_cases kb:(Qc B b).k=0
    ·rw [show tvw (Qc B b)= .var (Qc B b).n by unfold tvw;rw [if_pos kb]];show FB m (if (Qc B a).n=(Qc B b).n then B else j B a b);split
     ·exact h
     ·exact hj m B a b h ha hb ka kb
    ·rw [show tvw (Qc B b)= .node (Qc B b).k (Qc B b).n (Qc B b).s (Qc B b).ar.tms by unfold tvw;rw [if_neg kb]];exact Qsk h (la.1 ka) hb _
   ·rw [show tvw (Qc B a)= .node (Qc B a).k (Qc B a).n (Qc B a).s (Qc B a).ar.tms by unfold tvw;rw [if_neg ka]];by_cases kb:(Qc B b).k=0
    ·rw [show tvw (Qc B b)= .var (Qc B b).n by unfold tvw;rw [if_pos kb]];exact Qsk h (lb.1 kb) ha _
    ·rw [show tvw (Qc B b)= .node (Qc B b).k (Qc B b).n (Qc B b).s (Qc B b).ar.tms by unfold tvw;rw [if_neg kb]];exact QtG (Qst (fun a b B w h ha hb=>Qmw hj f a b B w h ha hb) _ _ _ _ h (Qo2 la.2) (Qo2 lb.2)) h
def Qc2 (ρ:Int→Int→Prop) (t t':Tm):Prop:=TsR ρ (.cons t.k t.n t.s t.ar .nil) (.cons t'.k t'.n t'.s t'.ar .nil)
theorem TsR.mono {ρ ρ':Int→Int→Prop} (h:∀u v,ρ u v→ρ' u v) {T U:Ts} (hr:TsR ρ T U):TsR ρ' T U:=by
 induction hr with
 |nil=>exact .nil
 |var h1 _ ih=>exact .var (h _ _ h1) ih
 |node h1 _ _ ih1 ih2=>exact .node h1 ih1 ih2
theorem TsR.al {ρ:Int→Int→Prop} {T U:Ts} (h:TsR ρ T U):Al (Qc2 ρ) T.tms U.tms:=by
 induction h with
 |nil=>exact .nil
 |var h1 h2 ih=>exact .cons (.var h1 .nil) ih
 |node h1 h2 h3 _ ih=>exact .cons (.node h1 h2 .nil) ih
theorem TsR.len {ρ:Int→Int→Prop} {T U:Ts} (h:TsR ρ T U):T.length=U.length:=by
 induction h with
 |nil=>rfl
 |var _ _ ih=>simp only [Ts.length,ih]
 |node _ _ _ _ ih=>simp only [Ts.length,ih]
theorem Qc2.cases {ρ:Int→Int→Prop} {t t':Tm} (h:Qc2 ρ t t'):(t.k=0∧t'.k=0∧ρ t.n t'.n∧t.s=t'.s∧t.ar= .nil∧t'.ar= .nil)∨(t.k≠0∧t.k=t'.k∧t.n=t'.n∧t.s=t'.s∧TsR ρ t.ar t'.ar):=by
 obtain ⟨k,n,s,a⟩:=t;obtain ⟨k',n',s',a'⟩:=t';unfold Qc2 at h;dsimp only at h⊢
 cases h with
 |var h1 _=>exact .inl ⟨rfl,rfl,h1,rfl,rfl,rfl⟩
 |node h1 h2 _=>exact .inr ⟨h1,rfl,rfl,rfl,h2⟩
theorem Qc2.node_vw {ρ:Int→Int→Prop} {t t':Tm} (hk:t.k≠0) (h:Qc2 ρ t t'):VwR (Qc2 ρ) (tvw t) (tvw t'):=by
 rcases h.cases with h|⟨h1,h2,h3,h4,h5⟩
 ·exact absurd h.1 hk
 ·unfold tvw;rw [if_neg h1,if_neg (by rw [←h2];exact h1)];exact ⟨h2,h3,h4,h5.al⟩
def QnI (ρ:Int→Int→Prop) (m m' V:Int) (u v:Int):Prop:=ρ u v∨∃i,0≤i∧i<V∧u=i+m∧v=i+m'
theorem Bm.more {ρ:Int→Int→Prop} {B e:Bnd} {m m' V:Int} (h:Bm Qet Qb4 (Qc2 ρ) B e) (hB:FB m B) (he:FB m' e) (hρ:∀u v,ρ u v→u<m∧v<m'):Bm Qet Qb4 (Qc2 (QnI ρ m m' V)) B e:=by
 have hsub:∀x y,Qc2 ρ x y→Qc2 (QnI ρ m m' V) x y:=fun x y hr=>TsR.mono (fun u v h=> .inl h) hr
 have old:∀{x y:Tm},Qc2 (QnI ρ m m' V) x y→x.k=0→(Qc2 ρ x y)∨∃i,0≤i∧i<V∧QaL B x= .var (i+m)∧QaL e y= .var (i+m'):=by
  intro x y hr hk;rcases hr.cases with ⟨k0,k1,hv,hs,ha,ha'⟩|⟨hn,_⟩
  ·rcases hv with hv|⟨i,i0,i1,e1,e2⟩
   ·left;obtain ⟨k,n,s,a⟩:=x;obtain ⟨k',n',s',a'⟩:=y;dsimp only at*;subst k0 k1 hs ha ha';exact .var hv .nil
   ·refine .inr ⟨i,i0,i1,?_,?_⟩
    ·refine Q6.2 ?_;rw [QbF (hB.get Ya)];exact ⟨k0,e1⟩
    ·refine Q6.2 ?_;rw [QbF (he.get Ya)];exact ⟨k1,e2⟩
  ·exact absurd hk hn
 have low1:∀{x y:Tm} {u v:Int},Qc2 ρ x y→QaL B x= .var u→QaL e y= .var v→u<m∧v<m':=by
  intro x y u v hr hu hv;obtain ⟨a1,a2⟩:=Q6.1 hu;obtain ⟨b1,b2⟩:=Q6.1 hv;rcases hr.cases with ⟨k0,k1,hv,hs,ha,ha'⟩|⟨hn,hk2,_⟩
  ·obtain ⟨c1,c2⟩:=hρ _ _ hv
   have lx:QfX m x:=⟨fun _=>c1,by rw [ha];trivial⟩
   have ly:QfX m' y:=⟨fun _=>c2,by rw [ha'];trivial⟩
   rw [←a2,←b2];exact ⟨(QbB hB lx).1 a1,(QbB he ly).1 b1⟩
  ·rw [Q1 hn] at a1;exact absurd a1 hn
 have kvar:∀{x:Tm} {u:Int},QaL B x= .var u→x.k=0:=by
  intro x u hu;obtain ⟨a1,a2⟩:=Q6.1 hu;by_cases hk:x.k=0
  ·exact hk
  ·rw [Q1 hk] at a1;exact a1
 refine ⟨h.oka,h.okb,fun _=>trivial,fun _=>trivial,fun {x y} hr=> ?_,?_⟩
 ·by_cases hk:x.k=0
  ·rcases old hr hk with ho|⟨i,i0,i1,e1,e2⟩
   ·exact VwR.imp hsub (h.vw ho)
   ·show VwR _ (QaL B x) (QaL e y);rw [e1,e2];trivial
  ·have hk':y.k≠0:=by
    rcases hr.cases with h|h
    ·exact absurd h.1 hk
    ·rw [←h.2.1];exact hk
   show VwR _ (tvw (Qc B x)) (tvw (Qc e y));rw [Q1 hk,Q1 hk'];exact hr.node_vw hk
 ·intro x y x' y' u u' v v' hr hr' e1 e2 e3 e4;rcases old hr (kvar e1) with ho|⟨i,i0,i1,f1,f2⟩
  ·rcases old hr' (kvar e2) with ho'|⟨i',i0',i1',f1',f2'⟩
   ·exact h.vr ho ho' e1 e2 e3 e4
   ·have g1:=low1 ho e1 e3
    have g2:u'=i'+m:=by have:=f1'.symm.trans e2;cases this;rfl
    have g3:v'=i'+m':=by have:=f2'.symm.trans e4;cases this;rfl
    omega
  ·have g2:u=i+m:=by have:=f1.symm.trans e1;cases this;rfl
   have g3:v=i+m':=by have:=f2.symm.trans e3;cases this;rfl
   rcases old hr' (kvar e2) with ho'|⟨i',i0',i1',f1',f2'⟩
   ·have g1:=low1 ho' e2 e4;omega
   ·have g4:u'=i'+m:=by have:=f1'.symm.trans e2;cases this;rfl
    have g5:v'=i'+m':=by have:=f2'.symm.trans e4;cases this;rfl
    omega
theorem Qj8 {ρ:Int→Int→Prop} {m m' V:Int} (h0:0≤m) (h1:m≤40000) (h2:0≤m') (h3:m'≤40000) (hV:V≤8) (T:Ts):T.good V=true→TsR (QnI ρ m m' V) (T.shift m) (T.shift m'):=by
 induction T with
 |nil=>intro _;exact .nil
 |cons k n s ar r iha ihr=>
  intro hg;simp only [Ts.good,Bool.and_eq_true] at hg;rw [Ts.shift_cons,Ts.shift_cons];by_cases hk:k=0
  ·subst hk;have hn:=hg.1.1;unfold Qai at hn;rw [if_pos rfl] at hn;simp only [Bool.and_eq_true,decide_eq_true_eq] at hn;obtain rfl:=Ts.nil_of_length hn.2
   have e1:QaN 0 n m=n+m:=by unfold QaN;rw [if_pos rfl,Qd9 Ya Ya,Qd9 h0 Ya]
   have e2:QaN 0 n m'=n+m':=by unfold QaN;rw [if_pos rfl,Qd9 Ya Ya,Qd9 h2 Ya]
   rw [e1,e2];exact .var (.inr ⟨n,hn.1.1.1,hn.1.1.2,rfl,rfl⟩) (ihr hg.2)
  ·have e1:QaN k n m=n:=by unfold QaN;rw [if_neg hk]
   have e2:QaN k n m'=n:=by unfold QaN;rw [if_neg hk]
   rw [e1,e2];exact .node hk (iha hg.1.2) (ihr hg.2)
theorem QmA {ρ:Int→Int→Prop} (hi:∀u v u' v',ρ u v→ρ u' v'→(u=u'↔v=v')) {T U:Ts} (h:TsR ρ T U):∀ks ks':List Int,Al ρ ks ks'→(T.tidyFrom ks).1=(U.tidyFrom ks').1∧Al ρ (T.tidyFrom ks).2 (U.tidyFrom ks').2:=by
 have hpos:∀{n n':Int},ρ n n'→∀{ks ks':List Int},Al ρ ks ks'→pos n ks=pos n' ks':=by
  intro n n' hn ks ks' hk
  induction hk with
  |nil=>rfl
  | @cons x y l m hxy _ ih=>
   simp only [pos];by_cases e:n=x
   ·rw [if_pos e,if_pos ((hi _ _ _ _ hn hxy).1 e)]
   ·rw [if_neg e,if_neg fun e2=>e ((hi _ _ _ _ hn hxy).2 e2),ih]
 induction h with
 |nil=>intro ks ks' hk;exact ⟨rfl,hk⟩
 | @var n n' s r r' hn _ ih=>
  intro ks ks' hk;rw [Ts.tidyFrom_cons,Ts.tidyFrom_cons]
  have e1:tV 0 n ks=tV 0 n' ks':=by
   unfold tV Qll;rw [if_pos rfl,if_pos rfl,hpos hn hk,hk.len]
  have e2:Al ρ (tS 0 n ks) (tS 0 n' ks'):=by
   unfold tS QjG;rw [if_pos rfl,if_pos rfl,hpos hn hk];split
   ·exact hk
   ·exact hk.app (.cons hn .nil)
  obtain ⟨i1,i2⟩:=ih _ _ (show Al ρ (Ts.nil.tidyFrom (tS 0 n ks)).2 (Ts.nil.tidyFrom (tS 0 n' ks')).2 from e2);refine ⟨?_,i2⟩;rw [e1,i1];rfl
 | @node k n s ar ar' r r' hk0 _ _ iha ihr=>
  intro ks ks' hk;rw [Ts.tidyFrom_cons,Ts.tidyFrom_cons]
  have e1:tV k n ks=n:=by unfold tV;rw [if_neg hk0]
  have e1':tV k n ks'=n:=by unfold tV;rw [if_neg hk0]
  have e2:tS k n ks=ks:=by unfold tS;rw [if_neg hk0]
  have e2':tS k n ks'=ks':=by unfold tS;rw [if_neg hk0]
  rw [e1,e1',e2,e2'];obtain ⟨i1,i2⟩:=iha _ _ hk;obtain ⟨j1,j2⟩:=ihr _ _ i2;exact ⟨by rw [i1,j1],j2⟩
structure Qax where
 fuel:Nat
 vars:Nat
 calls:Nat
 out:List Ev
 ended:Bool
abbrev Tg:=Tm×Nat
def Qea (k:Int) (p:Qax):Qax:=⟨p.fuel,p.vars,p.calls,p.out++[(k,.nil)],true⟩
def Qfb (j:Bnd→Tm→Tm→Bnd) (e:Bnd):Nat→Nat→Nat→Option (Ts×Nat)
 |0,_,l=>some (.nil,l)
 |m+1,v,l=>match QcE (QoI j) e 201 ⟨0,v,⟨#[]⟩,.nil⟩ l with
  |none=>none
  |some (t,l')=>match Qfb j e m (v+1) l' with
   |none=>none
   |some (T,l'')=>some (.cons t.k t.n t.s t.ar T,l'')
def Qec (q:Nat) (e:Bnd) (p:Qax):Int×Qax:=match Qfb Qd3 e q 0 200 with
 |none=>(-1,Qea 4 p)
 |some (T,_)=>if (p.out++[((1:Int),T.tidy)]).length=12 then (-1,Qea 6 ⟨p.fuel,p.vars,p.calls,p.out++[(1,T.tidy)],p.ended⟩) else (-1,⟨p.fuel,p.vars,p.calls,p.out++[(1,T.tidy)],p.ended⟩)
def Qba (a b:Tm) (e:Bnd):Ug Bnd:=Qa3 Qb4 401 a b e 0
def Qau:Ts→Int→Nat→List Tg→List Tg
 | .nil,_,_,rest=>rest
 | .cons k n s a r,m,c,rest=>(Tm.shift ⟨k,n,s,a⟩ m,c)::Qau r m c rest
def QeB (pr:List Tg→Bnd→Qax→Int×Qax) (g:Tg) (r:List Tg) (e:Bnd) (call:Nat):List Cl→Qax→Int×Qax
 |[],p=>(-1,p)
 |c::cs,p=>
  if 400<(Qba (c.head.shift p.vars) g.1 e).w then (-1,Qea 4 p)
  else if (Qba (c.head.shift p.vars) g.1 e).ok=true then
   if (pr (Qau c.bd p.vars call r) (Qba (c.head.shift p.vars) g.1 e).s ⟨p.fuel,p.vars+c.vars.toNat,p.calls,p.out,p.ended⟩).2.ended=true then (-1,(pr (Qau c.bd p.vars call r) (Qba (c.head.shift p.vars) g.1 e).s ⟨p.fuel,p.vars+c.vars.toNat,p.calls,p.out,p.ended⟩).2)
   else if (pr (Qau c.bd p.vars call r) (Qba (c.head.shift p.vars) g.1 e).s ⟨p.fuel,p.vars+c.vars.toNat,p.calls,p.out,p.ended⟩).1=(call:Nat) then (-1,(pr (Qau c.bd p.vars call r) (Qba (c.head.shift p.vars) g.1 e).s ⟨p.fuel,p.vars+c.vars.toNat,p.calls,p.out,p.ended⟩).2)
   else if 0≤(pr (Qau c.bd p.vars call r) (Qba (c.head.shift p.vars) g.1 e).s ⟨p.fuel,p.vars+c.vars.toNat,p.calls,p.out,p.ended⟩).1 then pr (Qau c.bd p.vars call r) (Qba (c.head.shift p.vars) g.1 e).s ⟨p.fuel,p.vars+c.vars.toNat,p.calls,p.out,p.ended⟩
   else QeB pr g r e call cs (pr (Qau c.bd p.vars call r) (Qba (c.head.shift p.vars) g.1 e).s ⟨p.fuel,p.vars+c.vars.toNat,p.calls,p.out,p.ended⟩).2
  else QeB pr g r e call cs p
def QjF (pr:List Tg→Bnd→Qax→Int×Qax) (r:List Tg) (e:Bnd) (p:Qax) (x y:Tm):Int×Qax:=
 if 400<(Qba x y e).w then (-1,Qea 4 p) else if (Qba x y e).ok=true then pr r (Qba x y e).s p else (-1,p)
def Qbu (pr:List Tg→Bnd→Qax→Int×Qax) (g:Tg) (r:List Tg) (e:Bnd) (p:Qax):Int×Qax:=
 if g.1.s.toList=[33] then if 0≤(pr r e p).1∧(pr r e p).1<(g.2:Nat) then pr r e p else ((g.2:Nat),(pr r e p).2)
 else if g.1.s.toList=[116,114,117,101] then pr r e p
 else if g.1.s.toList=[102,97,105,108] then (-1,p)
 else if g.1.s.toList=[101,113] then QjF pr r e p (g.1.ar.at_ 0) (g.1.ar.at_ 1)
 else if (Qc e (g.1.ar.at_ 0)).k≠2∨(Qc e (g.1.ar.at_ 1)).k≠2∨(g.1.s.toList=[97,100,100]∧(1099511627776<(Qc e (g.1.ar.at_ 0)).n+(Qc e (g.1.ar.at_ 1)).n∨(Qc e (g.1.ar.at_ 0)).n+(Qc e (g.1.ar.at_ 1)).n< -1099511627776)) then (-1,Qea 5 p)
 else if g.1.s.toList=[108,101,115,115] then if (Qc e (g.1.ar.at_ 0)).n<(Qc e (g.1.ar.at_ 1)).n then pr r e p else (-1,p)
 else QjF pr r e p (g.1.ar.at_ 2) ⟨2,(Qc e (g.1.ar.at_ 0)).n+(Qc e (g.1.ar.at_ 1)).n,⟨#[]⟩,.nil⟩
def Qj (P:List Cl) (q:Nat):Nat→List Tg→Bnd→Qax→Int×Qax
 |_,[],e,p=>Qec q e p
 |0,_::_,_,p=>(-1,Qea 3 p)
 |f+1,g::r,e,p=>if p.fuel=0 then (-1,Qea 3 p)
  else if QM g.1.s.toList g.1.ar.length=true then Qbu (Qj P q f) g r e ⟨p.fuel-1,p.vars,p.calls,p.out,p.ended⟩
  else match P.filter (QbX g.1) with
   |[]=>(-1,Qea 5 ⟨p.fuel-1,p.vars,p.calls,p.out,p.ended⟩)
   |c::cs=>QeB (Qj P q f) g r e (p.calls+1) (c::cs) ⟨p.fuel-1,p.vars,p.calls+1,p.out,p.ended⟩
def QgB (P:List Cl) (q:Ts) (vars fuel:Int):List Ev×Int:=
 if pB P=false∨qB vars q=false then ([],1)
 else if fuel<0∨150<fuel then ([],2)
 else (if (Qj P vars.toNat fuel.toNat (Qau q 0 0 []) [] ⟨fuel.toNat,vars.toNat,0,[],false⟩).2.ended=true then (Qj P vars.toNat fuel.toNat (Qau q 0 0 []) [] ⟨fuel.toNat,vars.toNat,0,[],false⟩).2.out
  else (Qj P vars.toNat fuel.toNat (Qau q 0 0 []) [] ⟨fuel.toNat,vars.toNat,0,[],false⟩).2.out++[(2,.nil)],0)
set_option maxRecDepth 100000
set_option maxHeartbeats 1000000
section
variable {M:List Nat} {w0:World} {H:List (Nat×Obj)} {F:List (World→Prop)} {b mb clk:Nat} {es:Array MapEntry} {TR:Value} {rest:List Value} {O:List (Nat×Obj)} {G:List GB}
end
section
variable {M:List Nat} {w0:World} {H:List (Nat×Obj)} {F:List (World→Prop)} {b mb clk ub:Nat} {es:Array MapEntry} {TR:Value} {rest:List Value} {O:List (Nat×Obj)} {G:List GB}
end
end Go.Proofs.YthliapbflkfdiacGreatDoor
