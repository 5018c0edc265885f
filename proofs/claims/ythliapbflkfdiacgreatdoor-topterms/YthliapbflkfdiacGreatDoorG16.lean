/- CPure, CPure2, TSim, PSim1, PModel, PSim2, PSim3, PSim4, XRel1: texts that follow one another, laid into one file. -/
import Derived.Test.YthliapbflkfdiacGreatDoorZ0
import Derived.Test.YthliapbflkfdiacGreatDoorG15
import Derived.Test.YthliapbflkfdiacGreatDoorG10
import Derived.Test.YthliapbflkfdiacGreatDoorG14
import Derived.Test.YthliapbflkfdiacGreatDoorG8
import Derived.Test.YthliapbflkfdiacGreatDoorG7
import Derived.Test.YthliapbflkfdiacGreatDoorG13
namespace Go.Proofs.YthliapbflkfdiacGreatDoor
open Go.RowKit
set_option linter.unusedVariables false
set_option linter.unusedSimpArgs false
theorem QpR {n f f':Nat} {c:HC} (hf:f≤f') (h:Qaa n c f=true):Qaa n c f'=true:=by
 rcases QS h with ⟨k,a,b,s⟩|⟨k,a,s⟩|⟨k,s⟩|⟨k,a,b,d,s⟩
 ·unfold Qaa;rw [if_pos k];simp [a,b,s]
 ·unfold Qaa;rw [if_neg Ya,if_pos k];simp [a,s]
 ·unfold Qaa;rw [if_neg Ya,if_neg Ya,if_pos k];simp [s]
 ·unfold Qaa;rw [if_neg Ya,if_neg Ya,if_neg Ya,if_pos k];simp only [Bool.and_eq_true,decide_eq_true_eq,Bool.not_eq_true',decide_eq_false_iff_not];exact ⟨a,b,by omega,s⟩
theorem Qbz {n:Nat} {Y:List HC} (hY:QR n Y=true):∀{X:List HC},QR n X=true→QR n (X++Y)=true
 |[],_=>hY
 |c::r,h=>by
  simp only [QR,Bool.and_eq_true,List.cons_append] at h⊢;exact ⟨QpR Yd h.1,Qbz hY h.2⟩
theorem QlY {s:ByteArray} (h:QeE s=true):s≠eS:=by
 intro e;subst e;exact absurd h Yf
theorem Qob {s:ByteArray} (h:s.toList=[]):s=eS:=by
 apply Qjr.1;rw [h];kernel_rfl
theorem Qen {vars k n:Int} {s:ByteArray} {l:Nat} (h:Qa1 vars k n s l=true):(k=0∧0≤n∧n<vars∧s=eS∧l=0)∨(k=1∧n=0∧s≠eS∧l=0)∨(k=2∧s=eS∧l=0)∨(k=3∧n=0∧s≠eS∧1≤l∧l≤4):=by
 unfold Qa1 at h;split at h
 ·simp only [Bool.and_eq_true,decide_eq_true_eq] at h;exact .inl ⟨‹_›,h.1.1.1,h.1.1.2,Qob h.1.2,h.2⟩
 split at h
 ·simp only [Bool.and_eq_true,decide_eq_true_eq] at h;exact .inr (.inl ⟨‹_›,h.1.1,QlY h.1.2,h.2⟩)
 split at h
 ·simp only [Bool.and_eq_true,decide_eq_true_eq] at h;exact .inr (.inr (.inl ⟨‹_›,Qob h.1.2,h.2⟩))
 split at h
 ·simp only [Bool.and_eq_true,decide_eq_true_eq] at h;exact .inr (.inr (.inr ⟨‹_›,h.1.1.1.1,QlY h.1.1.1.2,h.1.2,h.2⟩))
 ·cases h
theorem QbY {vars k n:Int} {s:ByteArray} {ar r:Ts} (h:(Ts.cons k n s ar r).good vars=true):Qa1 vars k n s ar.length=true∧ar.good vars=true∧r.good vars=true:=by
 simp only [Ts.good,Bool.and_eq_true] at h;exact ⟨h.1.1,h.1.2,h.2⟩
theorem Ts.good_ap (v:Int) (D R:Ts):(D.app R).good v=(D.good v&&R.good v):=by
 induction D with
 |nil=>rfl
 |cons k n b ar r _ ih=>simp only [Ts.app,Ts.good,ih,Bool.and_assoc]
theorem Qix {n f:Nat} {i:Int} (h0:0≤i) (h:i<n):Qaa n ⟨0,i,eS⟩ f=true:=by unfold Qaa;simp [h,h0]
theorem Qj0 {n f:Nat} {s:ByteArray} (h:s≠eS):Qaa n ⟨1,0,s⟩ f=true:=by unfold Qaa;simp [h]
theorem Qmn {n f:Nat} {i:Int}:Qaa n ⟨2,i,eS⟩ f=true:=by unfold Qaa;simp
theorem Qiy {n f l:Nat} {s:ByteArray} (h:s≠eS) (h1:1≤l) (h2:l≤4) (h3:l≤f):Qaa n ⟨3,(l:Nat),s⟩ f=true:=by
 unfold Qaa;simp [h];omega
theorem QrM {vars:Int} {all:Nat} (hv:vars≤all) (T:Ts):∀p,T.good vars=true→p+(QbH T p).2.length≤all→QR all (QbH T p).1=true∧QR all (QbH T p).2=true:=by
 induction T with
 |nil=>intro p _ _;exact ⟨rfl,rfl⟩
 |cons k n s ar r iha ihr=>
  intro p hg hp;obtain ⟨hn,ha,hr⟩:=QbY hg;rcases Qen hn with ⟨rfl,h0,h1,h2,h3⟩|⟨rfl,h0,h1,h2⟩|⟨rfl,h0,h1⟩|⟨rfl,h0,h1,h2,h3⟩
  ·rw [Qby _ _ _ _ _ Yf] at hp⊢;obtain ⟨i1,i2⟩:=ihr p hr hp;refine ⟨?_,i2⟩;simp only [QR,Bool.and_eq_true];exact ⟨Qix h0 Ya,i1⟩
  ·rw [Qby _ _ _ _ _ Yf] at hp⊢;obtain ⟨i1,i2⟩:=ihr p hr hp;refine ⟨?_,i2⟩;simp only [QR,Bool.and_eq_true];exact ⟨Qj0 h1,i1⟩
  ·rw [Qby _ _ _ _ _ Yf] at hp⊢;obtain ⟨i1,i2⟩:=ihr p hr hp;refine ⟨?_,i2⟩;simp only [QR,Bool.and_eq_true];exact ⟨Qmn,i1⟩
  ·rw [Qcx] at hp⊢;have hls:=Qes s ar p;simp only [List.length_append] at hp;obtain ⟨a1,a2⟩:=iha (p+1+ar.length) ha Ya;obtain ⟨i1,i2⟩:=ihr (p+(Qmc s ar p).length) hr Ya;refine ⟨?_,Qbz i2 ?_⟩
   ·simp only [QR,Bool.and_eq_true];exact ⟨Qix Ya Ya,i1⟩
   ·unfold Qmc;simp only [QR,Bool.and_eq_true];exact ⟨Qiy h1 h2 h3 (by rw [List.length_append,Qcf];omega),Qbz a2 a1⟩
theorem Qme {vars k n:Int} {s:ByteArray} {ar:Ts} {all p:Nat} (hv:vars≤all) (h:gB vars k n s ar=true) (hp:p+(Qcb k n s ar p).length≤all):QR all (Qcb k n s ar p)=true:=by
 simp only [gB,QiA,Bool.and_eq_true,Bool.or_eq_true,decide_eq_true_eq] at h;obtain ⟨hn,ha,_⟩:=QbY h.1.2;rcases Qen hn with ⟨rfl,_⟩|⟨rfl,h0,h1,h2⟩|⟨rfl,_⟩|⟨rfl,h0,h1,h2,h3⟩
 ·rcases h.1.1 with h|h<;>omega
 ·unfold Qcb;rw [if_neg Yf];simp only [QR,Bool.and_eq_true,and_true];exact Qj0 h1
 ·rcases h.1.1 with h|h<;>omega
 ·unfold Qcb at hp⊢;rw [if_pos rfl] at hp⊢;have hls:=Qes s ar p;obtain ⟨a1,a2⟩:=QrM hv ar (p+1+ar.length) ha Ya;unfold Qmc;simp only [QR,Bool.and_eq_true];exact ⟨Qiy h1 h2 h3 (by rw [List.length_append,Qcf];omega),Qbz a2 a1⟩
theorem Qmd {vars:Int} {all:Nat} (hv:vars≤all) (T:Ts):∀p,T.goals vars=true→p+(QaJ T p).1.length≤all→QR all (QaJ T p).1=true:=by
 induction T with
 |nil=>intro p _ _;rfl
 |cons k n s ar r _ ihr=>
  intro p hg hp;simp only [Ts.goals,Bool.and_eq_true] at hg;simp only [QaJ,List.length_append] at hp⊢;exact Qbz (ihr _ hg.2 Ya) (Qme hv hg.1 Ya)
theorem Qgc {all:Nat}:∀m i,i+m≤all→QR all (QcR m i)=true
 |0,i,_=>rfl
 |m+1,i,h=>by
  simp only [QcR,QR,Bool.and_eq_true];exact ⟨Qix Ya Ya,Qgc m (i+1) Ya⟩
theorem QgY {c:Cl} (h:cB c=true):0≤c.vars∧c.vars≤8∧c.bd.length≤5∧c.bd.goals c.vars=true∧gB c.vars c.k c.n c.s c.hd=true:=by
 simp only [cB,qB,Bool.and_eq_true,decide_eq_true_eq] at h;exact ⟨h.1.1.1.1.1,h.1.1.1.1.2,h.1.1.1.2,h.1.1.2,h.1.2⟩
theorem QoL {vars k n:Int} {s:ByteArray} {ar:Ts} (h:gB vars k n s ar=true):ar.nodes+1≤24:=by
 simp only [gB,Bool.and_eq_true,decide_eq_true_eq] at h;exact h.2
theorem Qda {c:Cl} (h:cB c=true):(Qx c).length≤300:=by
 obtain ⟨h0,h1,h2,h3,h4⟩:=QgY h;have h5:=QoL h4;have h6:=Ts.goals_nodes _ _ h3;have h7:=Qnq c.k c.n c.s c.hd c.vars.toNat;have h8:=QkI c.bd (c.vars.toNat+(Qcb c.k c.n c.s c.hd c.vars.toNat).length);simp only [Qx,List.length_append,Qag];omega
theorem QiM {c:Cl} (h:cB c=true):Q9 (Qx c)=true:=by
 obtain ⟨h0,h1,h2,h3,h4⟩:=QgY h;have hl:=Qda h;unfold Q9;simp only [Bool.and_eq_true,decide_eq_true_eq];refine ⟨by omega,?_⟩
 have he:(Qx c).length=c.vars.toNat+((Qcb c.k c.n c.s c.hd c.vars.toNat).length+(QaJ c.bd (c.vars.toNat+(Qcb c.k c.n c.s c.hd c.vars.toNat).length)).1.length):=by
  simp only [Qx,List.length_append,Qag]
 unfold Qx;refine Qbz (Qbz (Qmd (vars:=c.vars) (by unfold Qx at he;omega) _ _ h3 (by unfold Qx at he;omega)) (Qme (vars:=c.vars) (by unfold Qx at he;omega) h4 (by unfold Qx at he;omega))) (Qgc _ _ (by unfold Qx at he;omega))
def Qlh (L:List HC) (base:Nat) (q:Nat) (X:List HC):Prop:=∀i c,X[i]?=some c→hat L ((base+(q+i):Nat):Int)=some (Q5 base c)
theorem Qlh.app {L:List HC} {base q:Nat} {X Y:List HC} (h:Qlh L base q (X++Y)):Qlh L base q X∧Qlh L base (q+X.length) Y:=by
 refine ⟨fun i c hi=>h i c ?_,fun i c hi=> ?_⟩
 ·rw [List.getElem?_append_left]
  ·exact hi
  ·rcases Nat.lt_or_ge i X.length with hl|hl
   ·exact hl
   ·rw [List.getElem?_eq_none hl] at hi;cases hi
 ·have:=h (X.length+i) c (by rw [List.getElem?_append_right Ya];simpa using hi);rw [show q+X.length+i=q+(X.length+i) by omega];exact this
theorem Qlh.head {L:List HC} {base q:Nat} {c:HC} {X:List HC} (h:Qlh L base q (c::X)):hat L ((base+q:Nat):Int)=some (Q5 base c)∧Qlh L base (q+1) X:=by
 refine ⟨h 0 c rfl,fun i d hi=> ?_⟩;rw [show q+1+i=q+(i+1) by omega];exact h (i+1) d (by simpa using hi)
def up (base:Nat) (n:Int):Int:=n+base
theorem Qeo {T:Ts} (h:T.length=0):T= .nil:=Ts.nil_of_length h
theorem QfH (h:HH) (B:List HC):Qlh (h.cs++B.map (Q5 h.cs.length)) h.cs.length 0 B:=by
 intro i c hi;refine Qbi.2 ⟨by omega,?_,?_⟩
 ·have:i<B.length:=by
   rcases Nat.lt_or_ge i B.length with hl|hl
   ·exact hl
   ·rw [List.getElem?_eq_none hl] at hi;cases hi
  simp;omega
 ·rw [show ((h.cs.length+(0+i):Nat):Int).toNat=h.cs.length+i by omega,List.getElem?_append_right Ya];simp [hi]
theorem QpQ {n m f:Nat} {c:HC} (hn:n≤m) (h:Qaa n c f=true):Qaa m c f=true:=by
 rcases QS h with ⟨k,a,b,s⟩|⟨k,a,s⟩|⟨k,s⟩|⟨k,a,b,d,s⟩
 ·unfold Qaa;rw [if_pos k];simp [a,s];omega
 ·unfold Qaa;rw [if_neg Ya,if_pos k];simp [a,s]
 ·unfold Qaa;rw [if_neg Ya,if_neg Ya,if_pos k];simp [s]
 ·unfold Qaa;rw [if_neg Ya,if_neg Ya,if_neg Ya,if_pos k];simp [a,b,d,s]
theorem QjY {n m:Nat} (hn:n≤m):∀{L:List HC},QR n L=true→QR m L=true
 |[],_=>rfl
 |c::r,h=>by
  simp only [QR,Bool.and_eq_true] at h⊢;exact ⟨QpQ hn h.1,QjY hn h.2⟩
theorem Qnw {n m f base:Nat} {c:HC} (hn:base+n≤m) (h:Qaa n c f=true):Qaa m (Q5 base c) f=true:=by
 unfold Q5;split
 ·rename_i h0;rcases QS h with ⟨k,a,b,s⟩|⟨k,a,s⟩|⟨k,s⟩|⟨k,a,b,d,s⟩
  ·unfold Qaa;dsimp only;rw [if_pos h0];simp [s];omega
  ·omega
  ·omega
  ·omega
 ·rename_i h0;rcases QS h with ⟨k,a,b,s⟩|⟨k,a,s⟩|⟨k,s⟩|⟨k,a,b,d,s⟩
  ·omega
  ·unfold Qaa;rw [if_neg Ya,if_pos k];simp [a,s]
  ·unfold Qaa;rw [if_neg Ya,if_neg Ya,if_pos k];simp [s]
  ·unfold Qaa;rw [if_neg Ya,if_neg Ya,if_neg Ya,if_pos k];simp [a,b,d,s]
theorem Qiw {n m base:Nat} (hn:base+n≤m):∀{L:List HC},QR n L=true→QR m (L.map (Q5 base))=true
 |[],_=>rfl
 |c::r,h=>by
  simp only [QR,Bool.and_eq_true,List.map_cons,List.length_map] at h⊢;exact ⟨Qnw hn h.1,Qiw hn h.2⟩
theorem Qgt {h:HH} {K:List HC} (hg:QJ h=true) (hk:Q9 K=true) (hl:h.cs.length+K.length≤65536):QJ ⟨h.cs++K.map (Q5 h.cs.length),h.tr⟩=true:=by
 simp only [QJ,Q9,QbZ,Bool.and_eq_true,decide_eq_true_eq,List.length_append,List.length_map] at hg hk⊢;obtain ⟨⟨h1,h2⟩,h3,h4⟩:=hg;refine ⟨⟨hl,Qbz (Qiw Ya hk.2) (QjY Ya h2)⟩,h3,?_⟩;rw [List.all_eq_true] at h4⊢;intro a ha;have:=h4 a ha;unfold QaD at this⊢
 cases hq:hat h.cs a with
 |none=>rw [hq] at this;cases this
 |some x=>
  rw [hq] at this;obtain ⟨q0,q1,q2⟩:=Qbi.1 hq;have:hat (h.cs++K.map (Q5 h.cs.length)) a=some x:=Qbi.2 ⟨q0,by simp;omega,by rw [List.getElem?_append_left Ya];exact q2⟩;rw [this];assumption
theorem Qno {h:HH} {K:List HC} (hg:QJ h=true) (hk:Q9 K=true) (hl:h.cs.length+K.length≤65536):Q8 h K=(⟨h.cs++K.map (Q5 h.cs.length),h.tr⟩,h.cs.length,0):=by
 unfold Q8;rw [hg,hk,if_neg Yf,if_neg Ya]
def Ts.tms:Ts→List Tm
 | .nil=>[]
 | .cons k n s a r=>⟨k,n,s,a⟩::r.tms
theorem Ts.tms_len (T:Ts):T.tms.length=T.length:=by
 induction T with
 |nil=>rfl
 |cons k n s a r _ ih=>simp only [Ts.tms,List.length_cons,ih,Ts.length]
def tvw (t:Tm):Vw Tm:=if t.k=0 then .var t.n else .node t.k t.n t.s t.ar.tms
def QbD (B:Bnd) (t:Tm):Vw Tm:=tvw (Qg B t)
def QsU (j:Bnd→Tm→Tm→Bnd):Sy where
 X:=Tm
 S:=Bnd
 ok:=Bok
 dom:=fun _ _=>True
 view:=QbD
 bind:=fun B v t=>(v,Qg B t)::B
 join:=j
theorem QcZ {B:Bnd} {t:Tm} {v:Int}:QbD B t= .var v↔(Qg B t).k=0∧(Qg B t).n=v:=by
 unfold QbD tvw;split
 ·rename_i h;simp [h]
 ·rename_i h;simp [h]
theorem Qeh {B:Bnd} {t:Tm} {k n:Int} {s:ByteArray} {ar:List Tm} (h:QbD B t= .node k n s ar):(Qg B t).k=k∧k≠0∧(Qg B t).n=n∧(Qg B t).s=s∧(Qg B t).ar.tms=ar:=by
 unfold QbD tvw at h;split at h
 ·cases h
 ·rename_i h0;cases h;exact ⟨rfl,h0,rfl,rfl,rfl⟩
theorem QrF {B:Bnd} {v:Int} {t:Tm} (hB:Bok ((v,t)::B)) (x:Tm):Qg ((v,t)::B) x=if (Qg B x).k=0∧(Qg B x).n=v then t else Qg B x:=by
 obtain ⟨hv,ht,hB'⟩:=hB
 have hBo:Bok ((v,t)::B):=⟨hv,ht,hB'⟩
 have htt:Qg ((v,t)::B) t=t:=by
  by_cases hk:t.k=0
  ·refine Qd3 ?_;obtain ⟨h1,h2⟩:=ht hk;simp only [Qci];rw [if_neg h1];exact h2
  ·exact Qbh hk
 have key : ∀ (p : Nat) (x : Tm), QgF B p x → Qg ((v, t) :: B) x = if (Qg B x).k = 0 ∧ (Qg B x).n = v then t else Qg B x := by
  intro p
  induction p using Nat.strongRecOn with
  | _ p ih =>
   intro x hx;by_cases hk:x.k=0
   ·cases hg:Qci x.n B with
    |none=>
     rw [Qd3 hg];by_cases hn:x.n=v
     ·rw [if_pos ⟨hk,hn⟩,Qgr hBo hk (u:=t) (by simp only [Qci];rw [if_pos hn]),htt]
     ·rw [if_neg fun h=>hn h.2,Qd3];simp only [Qci];rw [if_neg hn];exact hg
    |some u=>
     obtain ⟨q,hq,hu⟩:=hx.step hB' hk hg
     have hn:x.n≠v:=fun e=>by rw [e] at hg;rw [show Qci v B=none from hv] at hg;cases hg
     rw [Qgr hB' hk hg,Qgr hBo hk (u:=u) (by simp only [Qci];rw [if_neg hn];exact hg)];exact ih q hq u hu
   ·rw [Qbh hk,Qbh hk,if_neg fun h=>hk h.1]
 exact key _ x (QgF.start B x)
theorem Qge {B:Bnd} {v:Int} {t:Tm} (hB:Bok ((v,t)::B)) (x:Tm):QbD ((v,t)::B) x=(QbD B x).sub v (tvw t):=by
 have:=QrF hB x;unfold QbD;rw [this];by_cases h:(Qg B x).k=0
 ·by_cases h2:(Qg B x).n=v
  ·rw [if_pos ⟨h,h2⟩];unfold Vw.sub;rw [show tvw (Qg B x)= .var (Qg B x).n by unfold tvw;rw [if_pos h]];simp [h2]
  ·rw [if_neg fun e=>h2 e.2];rw [show tvw (Qg B x)= .var (Qg B x).n by unfold tvw;rw [if_pos h]];unfold Vw.sub;simp [h2]
 ·rw [if_neg fun e=>h e.1];rw [show tvw (Qg B x)= .node (Qg B x).k (Qg B x).n (Qg B x).s (Qg B x).ar.tms by unfold tvw;rw [if_neg h]];rfl
def QuM (j:Bnd→Tm→Tm→Bnd):Prop:=∀B a b u v,Bok B→QbD B a= .var u→QbD B b= .var v→u≠v→∃p q t,j B a b=(p,t)::B∧t.k=0∧t.n=q∧((p=u∧q=v)∨(p=v∧q=u))
theorem Qgx {B:Bnd} (hB:Bok B) {x:Tm} {v:Int} (h:QbD B x= .var v):Qci v B=none:=by
 obtain ⟨h1,h2⟩:=QcZ.1 h;rw [←h2];exact QbP hB x h1
theorem Qtb {j:Bnd→Tm→Tm→Bnd} (hj:QuM j):(QsU j).Law where
 bind_ok:=by
  intro B x v t k n s ar hB _ _ hx ht;obtain ⟨h1,h2,_⟩:=Qeh ht;exact ⟨Qgx hB hx,fun e=>absurd e (by show (Qg B t).k≠0;rw [h1];exact h2),hB⟩
 bind_dom:=fun _=>trivial
 bind_view:=by
  intro B x v t k n s ar y hB _ _ hx ht _;obtain ⟨h1,h2,_⟩:=Qeh ht
  have hb:Bok ((v,Qg B t)::B):=⟨Qgx hB hx,fun e=>absurd e (by show (Qg B t).k≠0;rw [h1];exact h2),hB⟩
  exact Qge hb y
 join_ok:=by
  intro B a b u v hB _ _ ha hb hne;obtain ⟨p,q,t,e,hk,hn,hpq⟩:=hj B a b u v hB ha hb hne;show Bok (j B a b);rw [e];have fu:=Qgx hB ha;have fv:=Qgx hB hb;rcases hpq with ⟨rfl,rfl⟩|⟨rfl,rfl⟩
  ·exact ⟨fu,fun _=>⟨by rw [hn];exact fun e=>hne e.symm,by rw [hn];exact fv⟩,hB⟩
  ·exact ⟨fv,fun _=>⟨by rw [hn];exact hne,by rw [hn];exact fu⟩,hB⟩
 join_dom:=fun _=>trivial
 join_view:=by
  intro B a b u v hB _ _ ha hb hne;obtain ⟨p,q,t,e,hk,hn,hpq⟩:=hj B a b u v hB ha hb hne;have fu:=Qgx hB ha;have fv:=Qgx hB hb
  have et:tvw t= .var q:=by unfold tvw;rw [if_pos hk,hn]
  rcases hpq with ⟨rfl,rfl⟩|⟨rfl,rfl⟩
  ·refine .inl fun y _=> ?_;show QbD (j B a b) y=_
   have hb2:Bok ((p,t)::B):=⟨fu,fun _=>⟨by rw [hn];exact fun e=>hne e.symm,by rw [hn];exact fv⟩,hB⟩
   rw [e];have:=Qge hb2 y;rw [et] at this;exact this
  ·refine .inr fun y _=> ?_;show QbD (j B a b) y=_
   have hb2:Bok ((p,t)::B):=⟨fv,fun _=>⟨by rw [hn];exact hne,by rw [hn];exact fu⟩,hB⟩
   rw [e];have:=Qge hb2 y;rw [et] at this;exact this
def QrQ (B:Bnd) (a b:Tm):Bnd:=((Qg B a).n,Qg B b)::B
theorem QtN:QuM QrQ:=fun B a b u v hB ha hb hne=>by
 obtain ⟨a1,a2⟩:=QcZ.1 ha;obtain ⟨b1,b2⟩:=QcZ.1 hb;exact ⟨u,v,Qg B b,by unfold QrQ;rw [a2],b1,b2,.inl ⟨rfl,rfl⟩⟩
abbrev Qld:Sy:=QsU QrQ
theorem QsD {g:Tm→Nat→Bool×Nat}:∀(T:Ts) (w:Nat),Qp9 g T w=Qqi g T.tms w
 | .nil,w=>rfl
 | .cons k n s a r,w=>by simp only [Qp9,Ts.tms,Qqi];rw [QsD r]
theorem Quq (B:Bnd) (v:Int):∀(f:Nat) (t:Tm) (w:Nat),Qem B v f t w=Qg2 Qld B v f t w
 |0,t,w=>rfl
 |f+1,t,w=>by
  simp only [Qem,Qg2];split
  ·rfl
  ·rw [show Qld.view B t=tvw (Qg B t) from rfl];unfold tvw;by_cases hk:(Qg B t).k=0
   ·rw [if_pos hk,if_pos hk]
   ·rw [if_neg hk,if_neg hk,QsD]
    have:Qem B v f=Qg2 Qld B v f:=by funext t w;exact Quq B v f t w
    rw [this];rfl
theorem Qts {j:Bnd→Tm→Tm→Bnd} {B:Bnd} (hB:Bok B) (v:Int) (f:Nat) (t:Tm) (w:Nat):Qg2 (QsU j) B v f (Qg B t) w=Qg2 (QsU j) B v f t w:=by
 cases f with
 |zero=>rfl
 |succ f=>
  simp only [Qg2];rw [show (QsU j).view B (Qg B t)=(QsU j).view B t by show tvw (Qg B (Qg B t))=_;rw [QrE hB];rfl]
def Us.ug (u:Us):Ug Bnd:=⟨u.ok,u.B,u.w⟩
theorem QsH {g:Tm→Tm→Bnd→Nat→Us} {g':Tm→Tm→Bnd→Nat→Ug Bnd} (P:Bnd→Prop) (hP:∀a b B w,P B→P (g a b B w).B) (hg:∀a b B w,P B→(g a b B w).ug=g' a b B w):∀(T U:Ts) (B:Bnd) (w:Nat),P B→(QiV g T U B w).ug=QmK g' T.tms U.tms B w
 | .nil,U,B,w,_=>by cases U<;>rfl
 | .cons k n s a r,.nil,B,w,_=>rfl
 | .cons k n s a r,.cons k' n' s' a' r',B,w,h=>by
  simp only [QiV,Ts.tms,QmK];rw [←hg _ _ _ _ h];by_cases hok:(g ⟨k,n,s,a⟩ ⟨k',n',s',a'⟩ B w).ok=true
  ·rw [if_pos hok,if_pos (show (g ⟨k,n,s,a⟩ ⟨k',n',s',a'⟩ B w).ug.ok=true from hok)];exact QsH P hP hg r r' _ _ (hP _ _ _ _ h)
  ·rw [if_neg hok,if_neg (show¬(g ⟨k,n,s,a⟩ ⟨k',n',s',a'⟩ B w).ug.ok=true from hok)]
theorem Qsx {B:Bnd} (hB:Bok B) {v:Int} {t:Tm} (hv:Qci v B=none) (ht:t.k≠0) (w:Nat):Bok (QnL v t B w).B:=by
 unfold QnL;split
 ·exact hB
 ·exact ⟨hv,fun e=>absurd e ht,hB⟩
theorem Qo2 {g:Tm→Tm→Bnd→Nat→Us} (hg:∀a b B w,Bok B→Bok (g a b B w).B):∀(T U:Ts) (B:Bnd) (w:Nat),Bok B→Bok (QiV g T U B w).B
 | .nil,U,B,w,h=>by cases U<;>exact h
 | .cons _ _ _ _ _,.nil,B,w,h=>h
 | .cons k n s a r,.cons k' n' s' a' r',B,w,h=>by
  simp only [QiV];split
  ·exact Qo2 hg r r' _ _ (hg _ _ _ _ h)
  ·exact hg _ _ _ _ h
theorem Qqu:∀(f:Nat) (a b:Tm) (B:Bnd) (w:Nat),Bok B→Bok (Qa8 f a b B w).B
 |0,a,b,B,w,h=>h
 | f + 1, a, b, B, w, h => by
  simp only [Qa8];split
  ·exact h
  split
  ·rename_i ha;split
   ·rename_i hb;show Bok (if _ then _ else _);split
    ·exact h
    ·rename_i hne;exact ⟨QbP h a ha,fun _=>⟨fun e=>hne e.symm,QbP h b hb⟩,h⟩
   ·rename_i hb;exact Qsx h (QbP h a ha) hb _
  ·rename_i ha;split
   ·rename_i hb;exact Qsx h (QbP h b hb) ha _
   ·split
    ·exact Qo2 (fun a b B w h=>Qqu f a b B w h) _ _ _ _ h
    ·exact h
theorem Qug:∀(f:Nat) (a b:Tm) (B:Bnd) (w:Nat),Bok B→(Qa8 f a b B w).ug=Qgd Qld f a b B w
 |0,a,b,B,w,h=>rfl
 | f + 1, a, b, B, w, h => by
  simp only [Qa8,Qgd];by_cases hw:400<w+1
  ·rw [if_pos hw,if_pos hw];rfl
  rw [if_neg hw,if_neg hw];have va:Qld.view B a=tvw (Qg B a):=rfl;have vb:Qld.view B b=tvw (Qg B b):=rfl;rw [va,vb]
  have hasg:∀(v:Int) (t:Tm),(QnL v (Qg B t) B (w+1)).ug=Qqh Qld v t B (w+1):=fun v t=>by
   unfold QnL Qqh;rw [Quq,Qts (j:=QrQ) h];split<;>rfl
  by_cases ha:(Qg B a).k=0
  ·rw [if_pos ha,show tvw (Qg B a)= .var (Qg B a).n by unfold tvw;rw [if_pos ha]];by_cases hb:(Qg B b).k=0
   ·rw [if_pos hb,show tvw (Qg B b)= .var (Qg B b).n by unfold tvw;rw [if_pos hb]];rfl
   ·rw [if_neg hb,show tvw (Qg B b)= .node (Qg B b).k (Qg B b).n (Qg B b).s (Qg B b).ar.tms by unfold tvw;rw [if_neg hb]];exact hasg _ _
  ·rw [if_neg ha,show tvw (Qg B a)= .node (Qg B a).k (Qg B a).n (Qg B a).s (Qg B a).ar.tms by unfold tvw;rw [if_neg ha]];by_cases hb:(Qg B b).k=0
   ·rw [if_pos hb,show tvw (Qg B b)= .var (Qg B b).n by unfold tvw;rw [if_pos hb]];exact hasg _ _
   ·rw [if_neg hb,show tvw (Qg B b)= .node (Qg B b).k (Qg B b).n (Qg B b).s (Qg B b).ar.tms by unfold tvw;rw [if_neg hb]]
    show (if _ then _ else _:Us).ug=if _ then _ else _
    have hc:QiQ (Qg B a) (Qg B b)=true↔(Qg B a).k=(Qg B b).k∧(Qg B a).n=(Qg B b).n∧(Qg B a).s=(Qg B b).s∧(Qg B a).ar.tms.length=(Qg B b).ar.tms.length:=by
     simp only [QiQ,Bool.and_eq_true,decide_eq_true_eq,Ts.tms_len,and_assoc]
    by_cases hal:QiQ (Qg B a) (Qg B b)=true
    ·rw [if_pos hal];refine Eq.trans ?_ (if_pos (hc.1 hal)).symm;exact QsH Bok (fun a b B w h=>Qqu f a b B w h) (fun a b B w h=>Qug f a b B w h) _ _ _ _ h
    ·rw [if_neg hal];exact (if_neg fun e=>hal (hc.2 e)).symm
def Qja (m:Int) (t:Tm):Prop:=(t.k=0→t.n<m)∧t.ar.vars (· <m)
def FB (m:Int) (B:Bnd):Prop:=∀x∈B,x.1<m∧Qja m x.2
theorem Ts.vars_mono {P Q:Int→Prop} (h:∀n,P n→Q n) (T:Ts):T.vars P→T.vars Q:=by
 induction T with
 |nil=>exact id
 |cons k n s ar r iha ihr=>exact fun ⟨a,b,c⟩=>⟨fun e=>h _ (a e),iha b,ihr c⟩
theorem Qja.mono {m m':Int} (h:m≤m') {t:Tm} (ht:Qja m t):Qja m' t:=⟨fun e=>Int.lt_of_lt_of_le (ht.1 e) h,Ts.vars_mono (fun _ hn=>Int.lt_of_lt_of_le hn h) _ ht.2⟩
theorem FB.mono {m m':Int} (h:m≤m') {B:Bnd} (hB:FB m B):FB m' B:=fun x hx=>⟨Int.lt_of_lt_of_le (hB x hx).1 h,(hB x hx).2.mono h⟩
theorem Qer {m:Int} {B:Bnd} (hB:FB m B) {t:Tm} (ht:Qja m t):Qja m (Qg B t):=by
 rcases QkC (B:=B) t with e|⟨x,hx,e⟩
 ·rw [e];exact ht
 ·rw [e];exact (hB x hx).2
theorem QqC {m:Int} {T:Ts} (h:T.vars (· <m)):∀x∈T.tms,Qja m x:=by
 induction T with
 |nil=>intro x hx;cases hx
 |cons k n s ar r _ ih=>
  intro x hx;rcases List.mem_cons.1 hx with rfl|hx
  ·exact ⟨h.1,h.2.1⟩
  ·exact ih h.2.2 x hx
theorem FB.get {m:Int} {B:Bnd} (hB:FB m B) {n:Int} (hn:m≤n):Qci n B=none:=by
 induction B with
 |nil=>rfl
 |cons x r ih=>
  simp only [Qci];rw [if_neg (by have:=(hB x (List.mem_cons_self ..)).1;omega)];exact ih fun y hy=>hB y (List.mem_cons_of_mem _ hy)
theorem FB.cons {m:Int} {B:Bnd} (hB:FB m B) {v:Int} {t:Tm} (hv:v<m) (ht:Qja m t):FB m ((v,t)::B):=fun x hx=>by
 rcases List.mem_cons.1 hx with rfl|hx
 ·exact ⟨hv,ht⟩
 ·exact hB x hx
def QuN (j:Bnd→Tm→Tm→Bnd):Prop:=∀m B a b,FB m B→Qja m a→Qja m b→(Qg B a).k=0→(Qg B b).k=0→FB m (j B a b)
theorem QtO:QuN QrQ:=fun m B a b hB ha hb ka kb=>hB.cons ((Qer hB ha).1 ka) (Qer hB hb)
theorem QuB {j:Bnd→Tm→Tm→Bnd} {m:Int} {B:Bnd} (hB:FB m B) {v:Int} {t:Tm} (hv:v<m) (ht:Qja m t) (w:Nat):FB m (Qqh (QsU j) v t B w).s:=by
 unfold Qqh;split
 ·exact hB
 ·exact hB.cons hv (Qer hB ht)
theorem QuI {m:Int} {g:Tm→Tm→Bnd→Nat→Ug Bnd} (hg:∀a b B w,FB m B→Qja m a→Qja m b→FB m (g a b B w).s):∀(l l':List Tm) (B:Bnd) (w:Nat),FB m B→(∀x∈l,Qja m x)→(∀x∈l',Qja m x)→FB m (QmK g l l' B w).s
 |[],l',B,w,h,_,_=>by cases l'<;>exact h
 |_::_,[],B,w,h,_,_=>h
 |x::l,y::l',B,w,h,hl,hl'=>by
  simp only [QmK];have h1:=hg x y B w h (hl x (List.mem_cons_self ..)) (hl' y (List.mem_cons_self ..));split
  ·exact QuI hg l l' _ _ h1 (fun z hz=>hl z (List.mem_cons_of_mem _ hz)) (fun z hz=>hl' z (List.mem_cons_of_mem _ hz))
  ·exact h1
theorem QvO {m:Int} {c:Prop} [Decidable c] {x y:Ug Bnd} (hx:FB m x.s) (hy:FB m y.s):FB m (if c then x else y).s:=by
 split
 ·exact hx
 ·exact hy
theorem Quf {j:Bnd→Tm→Tm→Bnd} (hj:QuN j) {m:Int}:∀(f:Nat) (a b:Tm) (B:Bnd) (w:Nat),FB m B→Qja m a→Qja m b→FB m (Qgd (QsU j) f a b B w).s
 |0,a,b,B,w,h,_,_=>h
 | f + 1, a, b, B, w, h, ha, hb => by
  simp only [Qgd];split
  ·exact h
  ·have la:=Qer h ha;have lb:=Qer h hb;have va:(QsU j).view B a=tvw (Qg B a):=rfl;have vb:(QsU j).view B b=tvw (Qg B b):=rfl;rw [va,vb];by_cases ka:(Qg B a).k=0
   ·rw [show tvw (Qg B a)= .var (Qg B a).n by unfold tvw;rw [if_pos ka]];by_cases kb:(Qg B b).k=0
    ·rw [show tvw (Qg B b)= .var (Qg B b).n by unfold tvw;rw [if_pos kb]];show FB m (if (Qg B a).n=(Qg B b).n then B else j B a b);split
     ·exact h
     ·exact hj m B a b h ha hb ka kb
    ·rw [show tvw (Qg B b)= .node (Qg B b).k (Qg B b).n (Qg B b).s (Qg B b).ar.tms by unfold tvw;rw [if_neg kb]];exact QuB h (la.1 ka) hb _
   ·rw [show tvw (Qg B a)= .node (Qg B a).k (Qg B a).n (Qg B a).s (Qg B a).ar.tms by unfold tvw;rw [if_neg ka]];by_cases kb:(Qg B b).k=0
    ·rw [show tvw (Qg B b)= .var (Qg B b).n by unfold tvw;rw [if_pos kb]];exact QuB h (lb.1 kb) ha _
    ·rw [show tvw (Qg B b)= .node (Qg B b).k (Qg B b).n (Qg B b).s (Qg B b).ar.tms by unfold tvw;rw [if_neg kb]];exact QvO (QuI (fun a b B w h ha hb=>Quf hj f a b B w h ha hb) _ _ _ _ h (QqC la.2) (QqC lb.2)) h
theorem Qs6 {ρ:Int→Int→Prop} (hi:∀u v u' v',ρ u v→ρ u' v'→(u=u'↔v=v')) {T U:Ts} (h:TsR ρ T U):∀ks ks':List Int,Al ρ ks ks'→(T.tidyFrom ks).1=(U.tidyFrom ks').1∧Al ρ (T.tidyFrom ks).2 (U.tidyFrom ks').2:=by
 have hpos:∀{n n':Int},ρ n n'→∀{ks ks':List Int},Al ρ ks ks'→pos n ks=pos n' ks':=by
  intro n n' hn ks ks' hk
  induction hk with
  |nil=>rfl
  | @cons x y l m hxy _ ih=>
   simp only [pos];by_cases e:n=x
   ·rw [if_pos e,if_pos ((hi _ _ _ _ hn hxy).1 e)]
   ·rw [if_neg e,if_neg fun e2=>e ((hi _ _ _ _ hn hxy).2 e2),ih]
 induction h with
 |nil=>intro ks ks' hk;exact ⟨rfl,hk⟩
 | @var n n' s r r' hn _ ih=>
  intro ks ks' hk;rw [Ts.tidyFrom_cons,Ts.tidyFrom_cons]
  have e1:tV 0 n ks=tV 0 n' ks':=by
   unfold tV Qrk;rw [if_pos rfl,if_pos rfl,hpos hn hk,hk.len]
  have e2:Al ρ (tS 0 n ks) (tS 0 n' ks'):=by
   unfold tS Qrl;rw [if_pos rfl,if_pos rfl,hpos hn hk];split
   ·exact hk
   ·exact hk.app (.cons hn .nil)
  obtain ⟨i1,i2⟩:=ih _ _ (show Al ρ (Ts.nil.tidyFrom (tS 0 n ks)).2 (Ts.nil.tidyFrom (tS 0 n' ks')).2 from e2);refine ⟨?_,i2⟩;rw [e1,i1];rfl
 | @node k n s ar ar' r r' hk0 _ _ iha ihr=>
  intro ks ks' hk;rw [Ts.tidyFrom_cons,Ts.tidyFrom_cons]
  have e1:tV k n ks=n:=by unfold tV;rw [if_neg hk0]
  have e1':tV k n ks'=n:=by unfold tV;rw [if_neg hk0]
  have e2:tS k n ks=ks:=by unfold tS;rw [if_neg hk0]
  have e2':tS k n ks'=ks':=by unfold tS;rw [if_neg hk0]
  rw [e1,e1',e2,e2'];obtain ⟨i1,i2⟩:=iha _ _ hk;obtain ⟨j1,j2⟩:=ihr _ _ i2;exact ⟨by rw [i1,j1],j2⟩
section
variable {P:List Cl} {q:Nat}
end
section
variable {P:List Cl} {q:Nat}
end
theorem Qrv {g:Tm→Nat→Option (Tm×Nat)}:∀(T:Ts) (l:Nat),Qf9 g T l=QeF g T.tms l
 | .nil,l=>rfl
 | .cons k n s a r,l=>by
  simp only [Qf9,Ts.tms,QeF]
  cases g ⟨k,n,s,a⟩ l with
  |none=>rfl
  |some p=>
   obtain ⟨t,l'⟩:=p;dsimp only;rw [Qrv r]
   all_goals (cases QeF g r.tms l'<;>rfl)
theorem QjS {g g':Tm→Nat→Option (Tm×Nat)}:∀(l:List Tm),(∀x∈l,∀m,g x m=g' x m)→∀m,QeF g l m=QeF g' l m
 |[],_,m=>rfl
 |x::r,h,m=>by
  simp only [QeF];rw [h x (List.mem_cons_self ..) m]
  cases g' x m with
  |none=>rfl
  |some p=>
   obtain ⟨t,l'⟩:=p;dsimp only;rw [QjS r (fun y hy=>h y (List.mem_cons_of_mem _ hy))]
theorem QqD {x:Tm}:∀{T:Ts},x∈T.tms→T.Mem x
 | .nil,h=>by cases h
 | .cons k n s a r,h=>by
  rcases List.mem_cons.1 h with rfl|h
  ·exact .inl rfl
  ·exact .inr (QqD h)
theorem QuY {t:Tm} (h:tgd t) (hk:t.k=0):t.s=⟨#[]⟩∧t.ar= .nil:=by
 have:=h.1;simp only [Ts.good,Bool.and_eq_true] at this;have hn:=this.1.1;unfold Qa1 at hn;rw [if_pos hk] at hn;simp only [Bool.and_eq_true,decide_eq_true_eq] at hn;exact ⟨Qjr.1 (hn.1.2.trans (Qal []).symm),Ts.nil_of_length hn.2⟩
theorem QuE {B:Bnd} (hB:∀x∈B,tgd x.2):∀(f:Nat) (t:Tm) (l:Nat),tgd t→Qfg B f t l=QgZ Qld B f t l
 |0,t,l,_=>rfl
 |f+1,t,l,ht=>by
  have hl:=QgU hB ht;simp only [Qfg,QgZ];split
  ·rfl
  ·rw [show Qld.view B t=tvw (Qg B t) from rfl];unfold tvw;by_cases hk:(Qg B t).k=0
   ·rw [if_pos hk];obtain ⟨h1,h2⟩:=QuY hl hk;rw [h2,h1,hk];rfl
   ·rw [if_neg hk,Qrv];have:=QjS (g:=Qfg B f) (g':=QgZ Qld B f) (Qg B t).ar.tms (fun x hx m=>QuE hB f x m (QbN _ hl x (QqD hx))) (l-1);rw [this];rfl
theorem Qwj {v:Nat} (hv:v<1000):tgd ⟨0,(v:Nat),⟨#[]⟩,.nil⟩:=by
 refine ⟨?_,by simp [Ts.nodes]⟩;simp only [Ts.good,Bool.and_eq_true,and_true];unfold Qa1;rw [if_pos rfl];simp only [Bool.and_eq_true,decide_eq_true_eq];exact ⟨⟨⟨by omega,by omega⟩,Qal []⟩,rfl⟩
section
variable {P:List Cl} {q:Nat}
end
theorem Qis {L X:List HC} {a:Int} {c:HC} (h:hat L a=some c):hat (L++X) a=some c:=by
 obtain ⟨h0,h1,h2⟩:=Qbi.1 h;exact Qbi.2 ⟨h0,by simp;omega,by rw [List.getElem?_append_left Ya];exact h2⟩
theorem Qr2 {L X:List HC} {n:Nat} {a x:Int} (h:QcB L n a x):QcB (L++X) n a x:=by
 induction h with
 |here h0 h1=>exact .here (Qis h0) h1
 |there h0 h1 h2 _ ih=>exact .there (Qis h0) h1 h2 ih
theorem Qr4 {L X:List HC} {a x:Int} (h:End L a x):End (L++X) a x:=by
 obtain ⟨n,h⟩:=h;exact ⟨n,Qr2 h⟩
theorem Qo3 {L X:List HC} {a:Int} (h:Ql L a=true):Ql (L++X) a=true:=by
 obtain ⟨c,hc⟩:=QeA.1 h;exact QeA.2 ⟨c,Qis hc⟩
theorem Qmi {h:HH} (ho:HOk h) {a:Int} (ha:Ql h.cs a=true) (X:List HC) (T:List Int):Q7 ⟨h.cs++X,T⟩ a=Q7 h a:=by
 obtain ⟨x,c,h1,h2,h3,h4⟩:=ho.view ha;rw [h4,Qao (h:=⟨h.cs++X,T⟩) (Qr4 h1) (Qis h2)]
def Qli (L:List HC) (base:Nat) (V:Int):Ts→Int→Prop
 | .nil,_=>True
 | .cons k n s ar r,a=>(∃x c,End L a x∧hat L x=some c∧((k=0∧0≤n∧n<V∧s=eS∧ar= .nil∧c.k=0∧x=n+base)∨(k≠0∧c.k=k∧ctl c=n∧c.s=s∧(QM c).toNat=ar.length∧Qli L base V ar (x+1))))∧Qli L base V r (a+1)
theorem Qbf {L:List HC} {a:Int} {c:HC} (h:hat L a=some c) (hc:¬(c.k=0∧c.n≠a)):End L a a:=⟨0,.here h hc⟩
theorem Qr3 {L:List HC} {a:Int} {c d:HC} (h:hat L a=some c) (hk:c.k=0) (hn:c.n≠a) (h2:hat L c.n=some d) (hd:¬(d.k=0∧d.n≠c.n)):End L a c.n:=⟨1,.there h hk hn (.here h2 hd)⟩
theorem Qvh {L:List HC} {base:Nat} {vars:Int} (hv:∀v:Int,0≤v→v<vars→hat L (v+base)=some ⟨0,v+base,eS⟩) (T:Ts):∀(a p:Nat),T.good vars=true→vars≤a→vars≤p→a+T.length≤p→Qlh L base a (QbH T p).1→Qlh L base p (QbH T p).2→
  Qli L base vars T ((base+a:Nat):Int)∧(∀i,i<(QbH T p).1.length→∃x,End L ((base+(a+i):Nat):Int) x)∧(∀i,i<(QbH T p).2.length→∃x,End L ((base+(p+i):Nat):Int) x):=by
 induction T with
 |nil=>intro a p _ _ _ _ _ _;exact ⟨trivial,fun i hi=>absurd hi (by simp [QbH]),fun i hi=>absurd hi (by simp [QbH])⟩
 |cons k n s ar r iha ihr=>
  intro a p hg hav hpv hap hs1 hs2;obtain ⟨hn,ha,hr⟩:=QbY hg;simp only [Ts.length] at hap
  have step:∀(X:List HC) (c:HC) (x:Int),End L ((base+a:Nat):Int) x→(∀i,i<X.length→∃x,End L ((base+(a+1+i):Nat):Int) x)→∀i,i<(c::X).length→∃x,End L ((base+(a+i):Nat):Int) x:=by
   intro X c x h0 h1 i hi
   cases i with
   |zero=>exact ⟨x,h0⟩
   |succ i=>
    obtain ⟨y,hy⟩:=h1 i (by simpa using hi);rw [show a+(i+1)=a+1+i by omega];exact ⟨y,hy⟩
  rcases Qen hn with ⟨rfl,h0,h1,h2,h3⟩|⟨rfl,h0,h1,h2⟩|⟨rfl,h0,h1⟩|⟨rfl,h0,h1,h2,h3⟩
  ·rw [Qby _ _ _ _ _ Yf] at hs1 hs2⊢;obtain ⟨q1,q2⟩:=hs1.head;obtain rfl:=Qeo h3;subst h2;have e1:hat L ((base+a:Nat):Int)=some ⟨0,n+base,eS⟩:=q1;have e2:End L ((base+a:Nat):Int) (n+base):=Qr3 (c:=⟨0,n+base,eS⟩) e1 rfl (by show n+(base:Int)≠_;omega) (hv n h0 h1) Yd;obtain ⟨i1,i2,i3⟩:=ihr (a+1) p hr Ya hpv Ya q2 hs2;rw [show ((base+(a+1):Nat):Int)=((base+a:Nat):Int)+1 by omega] at i1;exact ⟨⟨⟨n+base,_,e2,hv n h0 h1,.inl ⟨rfl,h0,h1,rfl,rfl,rfl,rfl⟩⟩,i1⟩,step _ _ _ e2 i2,i3⟩
  ·rw [Qby _ _ _ _ _ Yf] at hs1 hs2⊢;obtain ⟨q1,q2⟩:=hs1.head;obtain rfl:=Qeo h2;subst h0;have e1:hat L ((base+a:Nat):Int)=some ⟨1,0,s⟩:=q1;have e2:=Qbf e1 Yd;obtain ⟨i1,i2,i3⟩:=ihr (a+1) p hr Ya hpv Ya q2 hs2;rw [show ((base+(a+1):Nat):Int)=((base+a:Nat):Int)+1 by omega] at i1;exact ⟨⟨⟨_,_,e2,e1,.inr ⟨by decide,rfl,rfl,rfl,rfl,trivial⟩⟩,i1⟩,step _ _ _ e2 i2,i3⟩
  ·rw [Qby _ _ _ _ _ Yf] at hs1 hs2⊢;obtain ⟨q1,q2⟩:=hs1.head;obtain rfl:=Qeo h1;subst h0;have e1:hat L ((base+a:Nat):Int)=some ⟨2,n,eS⟩:=q1;have e2:=Qbf e1 Yd;obtain ⟨i1,i2,i3⟩:=ihr (a+1) p hr Ya hpv Ya q2 hs2;rw [show ((base+(a+1):Nat):Int)=((base+a:Nat):Int)+1 by omega] at i1;exact ⟨⟨⟨_,_,e2,e1,.inr ⟨by decide,rfl,rfl,rfl,rfl,trivial⟩⟩,i1⟩,step _ _ _ e2 i2,i3⟩
  ·rw [Qcx] at hs1 hs2⊢;obtain ⟨q1,q2⟩:=hs1.head;obtain ⟨q3,q4⟩:=Qlh.app (X:=Qmc s ar p) hs2;obtain ⟨q5,q6⟩:=Qlh.head (c:=⟨3,(ar.length:Nat),s⟩) q3;obtain ⟨q7,q8⟩:=q6.app;rw [Qcf] at q8;subst h0;have e1:hat L ((base+a:Nat):Int)=some ⟨0,((p:Nat):Int)+base,eS⟩:=q1
   have e5:hat L (((p:Nat):Int)+base)=some ⟨3,(ar.length:Nat),s⟩:=by
    rw [show ((p:Nat):Int)+base=((base+p:Nat):Int) by omega];exact q5
   have e2:End L ((base+a:Nat):Int) (((p:Nat):Int)+base):=Qr3 (c:=⟨0,((p:Nat):Int)+base,eS⟩) e1 rfl (by show ((p:Nat):Int)+(base:Int)≠_;omega) e5 Yd;obtain ⟨a1,a2,a3⟩:=iha (p+1) (p+1+ar.length) ha Ya Ya Ya q7 q8;obtain ⟨i1,i2,i3⟩:=ihr (a+1) (p+(Qmc s ar p).length) hr Ya Ya Ya q2 q4;rw [show ((base+(a+1):Nat):Int)=((base+a:Nat):Int)+1 by omega] at i1;rw [show ((base+(p+1):Nat):Int)=((p:Nat):Int)+base+1 by omega] at a1;refine ⟨⟨⟨_,_,e2,e5,.inr ⟨by decide,rfl,rfl,rfl,by simp [QM],a1⟩⟩,i1⟩,step _ _ _ e2 i2,fun i hi=> ?_⟩;rw [Qcf] at a2;have hls:=Qes s ar p;rw [List.length_append] at hi;by_cases c0:i=0
   ·subst c0;have q5':hat L ((base+p:Nat):Int)=some ⟨3,(ar.length:Nat),s⟩:=q5;exact ⟨_,Qbf q5' Yd⟩
   by_cases c1:i-1<ar.length
   ·obtain ⟨x,hx⟩:=a2 (i-1) c1;rw [show p+i=p+1+(i-1) by omega];exact ⟨x,hx⟩
   by_cases c2:i<(Qmc s ar p).length
   ·obtain ⟨x,hx⟩:=a3 (i-1-ar.length) Ya;rw [show p+i=p+1+ar.length+(i-1-ar.length) by omega];exact ⟨x,hx⟩
   ·obtain ⟨x,hx⟩:=i3 (i-(Qmc s ar p).length) Ya;rw [show p+i=p+(Qmc s ar p).length+(i-(Qmc s ar p).length) by omega];exact ⟨x,hx⟩
theorem QoC {L:List HC} {base:Nat} {vars:Int} (hv:∀v:Int,0≤v→v<vars→hat L (v+base)=some ⟨0,v+base,eS⟩) {k n:Int} {s:ByteArray} {ar:Ts} {p:Nat} (h:gB vars k n s ar=true) (hpv:vars≤p) (hs:Qlh L base p (Qcb k n s ar p)):
  Qli L base vars (.cons k n s ar .nil) ((base+p:Nat):Int)∧(∀i,i<(Qcb k n s ar p).length→∃x,End L ((base+(p+i):Nat):Int) x)∧∃c,hat L ((base+p:Nat):Int)=some c∧(c.k=1∨c.k=3):=by
 simp only [gB,QiA,Bool.and_eq_true,Bool.or_eq_true,decide_eq_true_eq] at h;obtain ⟨hn,ha,_⟩:=QbY h.1.2;rcases Qen hn with ⟨rfl,_⟩|⟨rfl,h0,h1,h2⟩|⟨rfl,_⟩|⟨rfl,h0,h1,h2,h3⟩
 ·rcases h.1.1 with h|h<;>omega
 ·obtain rfl:=Qeo h2;subst h0;unfold Qcb at hs⊢;rw [if_neg Yf] at hs⊢;have e1:hat L ((base+p:Nat):Int)=some ⟨1,0,s⟩:=hs.head.1;have e2:=Qbf e1 Yd;refine ⟨⟨⟨_,_,e2,e1,.inr ⟨by decide,rfl,rfl,rfl,rfl,trivial⟩⟩,trivial⟩,fun i hi=> ?_,_,e1,.inl rfl⟩;obtain rfl:i=0:=by simpa using hi
  exact ⟨_,e2⟩
 ·rcases h.1.1 with h|h<;>omega
 ·subst h0;unfold Qcb at hs⊢;rw [if_pos rfl] at hs⊢;obtain ⟨q5,q6⟩:=Qlh.head (c:=⟨3,(ar.length:Nat),s⟩) hs;obtain ⟨q7,q8⟩:=q6.app;rw [Qcf] at q8;have e1:hat L ((base+p:Nat):Int)=some ⟨3,(ar.length:Nat),s⟩:=q5;have e2:=Qbf e1 Yd;obtain ⟨a1,a2,a3⟩:=Qvh hv ar (p+1) (p+1+ar.length) ha Ya Ya Ya q7 q8;rw [show ((base+(p+1):Nat):Int)=((base+p:Nat):Int)+1 by omega] at a1;refine ⟨⟨⟨_,_,e2,e1,.inr ⟨by decide,rfl,rfl,rfl,by simp [QM],a1⟩⟩,trivial⟩,fun i hi=> ?_,_,e1,.inr rfl⟩;rw [Qcf] at a2;have hls:=Qes s ar p;by_cases c0:i=0
  ·subst c0;exact ⟨_,e2⟩
  by_cases c1:i-1<ar.length
  ·obtain ⟨x,hx⟩:=a2 (i-1) c1;rw [show p+i=p+1+(i-1) by omega];exact ⟨x,hx⟩
  ·obtain ⟨x,hx⟩:=a3 (i-1-ar.length) Ya;rw [show p+i=p+1+ar.length+(i-1-ar.length) by omega];exact ⟨x,hx⟩
def Qv5 (L:List HC) (base:Nat) (V:Int):Ts→List Int→Prop
 | .nil,l=>l=[]
 | .cons k n s ar r,l=>∃x q,l=x::q∧Qli L base V (.cons k n s ar .nil) (base+x)∧(∃c,hat L (base+x)=some c∧(c.k=1∨c.k=3))∧Qv5 L base V r q
theorem Qoy {L:List HC} {base:Nat} {vars:Int} (hv:∀v:Int,0≤v→v<vars→hat L (v+base)=some ⟨0,v+base,eS⟩) (T:Ts):∀p:Nat,T.goals vars=true→vars≤p→Qlh L base p (QaJ T p).1→Qv5 L base vars T (QaJ T p).2∧(∀i,i<(QaJ T p).1.length→∃x,End L ((base+(p+i):Nat):Int) x):=by
 induction T with
 |nil=>intro p _ _ _;exact ⟨rfl,fun i hi=>absurd hi (by simp [QaJ])⟩
 |cons k n s ar r _ ih=>
  intro p hg hpv hs;simp only [Ts.goals,Bool.and_eq_true] at hg;simp only [QaJ] at hs⊢;obtain ⟨h1,h2⟩:=hs.app;obtain ⟨a1,a2,a3⟩:=QoC hv hg.1 hpv h1;obtain ⟨b1,b2⟩:=ih _ hg.2 Ya h2;refine ⟨⟨_,_,rfl,by rw [show (base:Int)+(p:Nat)=((base+p:Nat):Int) by omega];exact a1,by rw [show (base:Int)+(p:Nat)=((base+p:Nat):Int) by omega];exact a3,b1⟩,fun i hi=> ?_⟩;rw [List.length_append] at hi;by_cases c:i<(Qcb k n s ar p).length
  ·exact a2 i c
  ·obtain ⟨x,hx⟩:=b2 (i-(Qcb k n s ar p).length) Ya;rw [show p+i=p+(Qcb k n s ar p).length+(i-(Qcb k n s ar p).length) by omega];exact ⟨x,hx⟩
theorem QnY {L:List HC} {base V:Nat} (hs:Qlh L base 0 (Qb3 V)):∀v:Int,0≤v→v<V→hat L (v+base)=some ⟨0,v+base,eS⟩:=by
 intro v v0 v1;have:=hs v.toNat _ (Qqq Ya);rw [show ((base+(0+v.toNat):Nat):Int)=v+base by omega] at this;rw [this];unfold Q5;rw [if_pos rfl];dsimp only;rw [show ((v.toNat:Nat):Int)=v by omega]
structure Blk (h:HH) (B:List HC) (h':HH):Prop where
 eq:h'=⟨h.cs++B.map (Q5 h.cs.length),h.tr⟩
 gd:QR h'.cs.length h'.cs=true
 ends:∀i,i<B.length→∃x,End h'.cs ((h.cs.length+i:Nat):Int) x
theorem Qnv {L X:List HC} {a:Int} (h:QaD L a=true):QaD (L++X) a=true:=by
 unfold QaD at h⊢
 cases hc:hat L a with
 |none=>rw [hc] at h;cases h
 |some c=>rw [hc] at h;rw [Qis hc];exact h
theorem Blk.ok {h h':HH} {B:List HC} (hb:Blk h B h') (ho:HOk h):HOk h':=by
 obtain ⟨rfl,gd,ends⟩:=hb;refine ⟨gd,fun a ha=> ?_,fun a ha=>Qnv (ho.tr a ha)⟩;obtain ⟨a0,a1⟩:=Qm.1 ha;by_cases hl:a<h.cs.length
 ·obtain ⟨x,hx⟩:=ho.ends a (Qm.2 ⟨a0,hl⟩);exact ⟨x,Qr4 hx⟩
 ·obtain ⟨x,hx⟩:=ends (a.toNat-h.cs.length) (by simp at a1;omega);rw [show ((h.cs.length+(a.toNat-h.cs.length):Nat):Int)=a by omega] at hx;exact ⟨x,hx⟩
theorem Qp2 {h:HH} {c:Cl} (hg:QJ h=true) (hc:cB c=true) (hl:h.cs.length+300≤65536):
  Q8 h (Qx c)=(⟨h.cs++(Qx c).map (Q5 h.cs.length),h.tr⟩,h.cs.length,0)∧QJ ⟨h.cs++(Qx c).map (Q5 h.cs.length),h.tr⟩=true∧Blk h (Qx c) ⟨h.cs++(Qx c).map (Q5 h.cs.length),h.tr⟩∧
  Qli (h.cs++(Qx c).map (Q5 h.cs.length)) h.cs.length c.vars (.cons c.k c.n c.s c.hd .nil) (h.cs.length+c.vars)∧Qv5 (h.cs++(Qx c).map (Q5 h.cs.length)) h.cs.length c.vars c.bd (Qax c):=by
 obtain ⟨h0,h1,h2,h3,h4⟩:=QgY hc;have hbl:=Qda hc;have hX:=Qgt hg (QiM hc) Ya;have hs:=QfH h (Qx c)
 have he:(Qx c).length=c.vars.toNat+((Qcb c.k c.n c.s c.hd c.vars.toNat).length+(QaJ c.bd (c.vars.toNat+(Qcb c.k c.n c.s c.hd c.vars.toNat).length)).1.length):=by
  simp only [Qx,List.length_append,Qag]
 obtain ⟨s1,s2⟩:=Qlh.app (X:=Qb3 c.vars.toNat) hs;obtain ⟨s3,s4⟩:=s2.app;rw [Qag,Nat.zero_add] at s3 s4;have hv0:=QnY s1;have hv:∀v:Int,0≤v→v<c.vars→hat (h.cs++(Qx c).map (Q5 h.cs.length)) (v+h.cs.length)=some ⟨0,v+h.cs.length,eS⟩:=fun v v0 v1=>hv0 v v0 Ya;obtain ⟨t1,t2,_⟩:=QoC hv h4 (p:=c.vars.toNat) Ya s3;obtain ⟨u1,u2⟩:=Qoy hv c.bd _ h3 Ya s4;refine ⟨Qno hg (QiM hc) Ya,hX,⟨rfl,?_,fun i hi=> ?_⟩,?_,u1⟩
 ·simp only [QJ,Q9,Bool.and_eq_true] at hX;exact hX.1.2
 ·rw [he] at hi;by_cases c0:i<c.vars.toNat
  ·have:=hv i Ya Ya;rw [show (i:Int)+h.cs.length=((h.cs.length+i:Nat):Int) by omega] at this;exact ⟨_,Qbf this Yd⟩
  by_cases c1:i-c.vars.toNat<(Qcb c.k c.n c.s c.hd c.vars.toNat).length
  ·obtain ⟨x,hx⟩:=t2 _ c1;rw [show c.vars.toNat+(i-c.vars.toNat)=i by omega] at hx;exact ⟨x,hx⟩
  ·obtain ⟨x,hx⟩:=u2 (i-c.vars.toNat-(Qcb c.k c.n c.s c.hd c.vars.toNat).length) Ya;rw [show c.vars.toNat+(Qcb c.k c.n c.s c.hd c.vars.toNat).length+(i-c.vars.toNat-(Qcb c.k c.n c.s c.hd c.vars.toNat).length)=i by omega] at hx;exact ⟨x,hx⟩
 ·rw [show (h.cs.length:Int)+c.vars=((h.cs.length+c.vars.toNat:Nat):Int) by omega];exact t1
theorem Qq1 {q:Ts} {v:Nat} (hq:qB (v:Nat) q=true):
  Q8 ⟨[],[]⟩ (Qai (v:Nat) q)=(⟨(Qai (v:Nat) q).map (Q5 0),[]⟩,0,0)∧QJ ⟨(Qai (v:Nat) q).map (Q5 0),[]⟩=true∧HOk ⟨(Qai (v:Nat) q).map (Q5 0),[]⟩∧((Qai (v:Nat) q).map (Q5 0)).length≤300∧
  (∀x:Int,0≤x→x<v→hat ((Qai (v:Nat) q).map (Q5 0)) x=some ⟨0,x,eS⟩)∧Qv5 ((Qai (v:Nat) q).map (Q5 0)) 0 (v:Nat) q (Qbp (v:Nat) q):=by
 simp only [qB,Bool.and_eq_true,decide_eq_true_eq] at hq;obtain ⟨⟨⟨v0,v1⟩,v2⟩,v3⟩:=hq;have hn:=Ts.goals_nodes _ _ v3;have hll:=QkI q v;have he:(Qai (v:Nat) q).length=v+(QaJ q v).1.length:=by simp [Qai,Qag]
 have hs:=QfH ⟨[],[]⟩ (Qai (v:Nat) q);simp only [List.length_nil,List.nil_append] at hs;have hs':=hs;unfold Qai at hs';rw [Int.toNat_natCast] at hs';obtain ⟨s1,s2⟩:=Qlh.app (X:=Qb3 v) hs';rw [Qag,Nat.zero_add] at s2;have hv:=QnY s1;obtain ⟨u1,u2⟩:=Qoy hv q v v3 Ya s2
 have hgd:Q9 (Qai (v:Nat) q)=true:=by
  unfold Q9;simp only [Bool.and_eq_true,decide_eq_true_eq];refine ⟨by omega,?_⟩;have:QR (Qai (v:Nat) q).length (Qb3 v++(QaJ q v).1)=true:=Qbz (Qmd (vars:=v) Ya q v v3 Ya) (Qgc _ _ Ya);unfold Qai at this⊢;rw [Int.toNat_natCast] at this⊢;exact this
 have hg0:QJ ⟨[],[]⟩=true:=by decide
 have hX:=Qgt hg0 hgd Yh;have hle:=Qno hg0 hgd Yh;simp only [List.length_nil,List.nil_append] at hX hle;refine ⟨hle,hX,⟨?_,fun a ha=> ?_,fun a ha=>(by cases ha)⟩,by simp;omega,fun x x0 x1=> ?_,by unfold Qbp;rw [Int.toNat_natCast];unfold Qai;rw [Int.toNat_natCast];exact u1⟩
 ·simp only [QJ,Q9,Bool.and_eq_true] at hX;exact hX.1.2
 ·obtain ⟨a0,a1⟩:=Qm.1 ha;simp only [List.length_map] at a1;rw [he] at a1;by_cases c0:a<v
  ·have:=hv a a0 c0;rw [show a+((0:Nat):Int)=a by omega] at this;unfold Qai;rw [Int.toNat_natCast];exact ⟨_,Qbf this Yd⟩
  ·obtain ⟨x,hx⟩:=u2 (a.toNat-v) Ya;rw [show ((0+(v+(a.toNat-v)):Nat):Int)=a by omega] at hx;unfold Qai;rw [Int.toNat_natCast];exact ⟨x,hx⟩
 ·have:=hv x x0 x1;rw [show x+((0:Nat):Int)=x by omega] at this;unfold Qai;rw [Int.toNat_natCast];exact this
end Go.Proofs.YthliapbflkfdiacGreatDoor
