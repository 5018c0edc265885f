/- Steps of the proof. -/
import Derived.Test.YthliapbflkfdiacGreatDoorG9
namespace Go.Proofs.YthliapbflkfdiacGreatDoor
open Go.RowKit
set_option linter.unusedVariables false
set_option linter.unusedSimpArgs false
set_option maxRecDepth 100000
set_option maxHeartbeats 1000000
theorem QR {s:ByteArray} (l:Str):s.toList=l↔s=⟨l.toArray⟩:=by
 constructor
 ·intro h;exact QgA.1 (h.trans (Q7 l).symm)
 ·intro h;rw [h,Q7]
theorem Qr1 {T:TA} (h:T.len=2):∃x y:LT,T= .cons x.k x.n x.s x.A x.c x.ar (.cons y.k y.n y.s y.A y.c y.ar .nil):=by
 match T,h with
 | .cons k n s A c a (.cons k' n' s' A' c' a' .nil),_=>exact ⟨⟨k,n,s,A,c,a⟩,⟨k',n',s',A',c',a'⟩,rfl⟩
 | .nil,h=>simp [TA.len] at h
 | .cons _ _ _ _ _ _ .nil,h=>simp [TA.len] at h
 | .cons _ _ _ _ _ _ (.cons _ _ _ _ _ _ (.cons _ _ _ _ _ _ _)),h=>simp [TA.len] at h
theorem Qq7 {T:TA} (h:T.len=3):∃x y z:LT,T= .cons x.k x.n x.s x.A x.c x.ar (.cons y.k y.n y.s y.A y.c y.ar (.cons z.k z.n z.s z.A z.c z.ar .nil)):=by
 match T,h with
 | .cons k n s A c a (.cons k' n' s' A' c' a' (.cons k2 n2 s2 A2 c2 a2 .nil)),_=>exact ⟨⟨k,n,s,A,c,a⟩,⟨k',n',s',A',c',a'⟩,⟨k2,n2,s2,A2,c2,a2⟩,rfl⟩
 | .nil,h=>simp [TA.len] at h
 | .cons _ _ _ _ _ _ .nil,h=>simp [TA.len] at h
 | .cons _ _ _ _ _ _ (.cons _ _ _ _ _ _ .nil),h=>simp [TA.len] at h
 | .cons _ _ _ _ _ _ (.cons _ _ _ _ _ _ (.cons _ _ _ _ _ _ (.cons _ _ _ _ _ _ _))),h=>simp [TA.len] at h
theorem Qtg {s:SS} (hI:Qd4 s) (n:Nat):Qd4 ⟨s.B,s.fresh,s.fuel,s.goals,s.ch.drop (s.ch.length-n),s.ev⟩:=by
 have hc:=Qgk s.ch (s.ch.length-n);have h1:=hI.fr;have h2:=hI.bl;unfold mu at h1 h2;exact ⟨hI.bok,hI.gb,hI.ch.drop _,by unfold mu;simp only;omega,by unfold mu;simp only;omega⟩
section
variable {M:List Nat} {w0:World} {H:List (Nat×Obj)} {F0 F:List (World→Prop)} {b:Nat} {P:List LC} {pA:Option Addr} {pc vars:Nat}
end
theorem QbD {s:SS} (h:Qd4 s):((QV s).1=0→Inv (QV s).2∧mu (QV s).2<mu s)∧(QV s).2.ev=s.ev∧((QV s).1=0∨(QV s).1=2∨(QV s).1=4):=by
 obtain ⟨h1,h2,h3,_⟩:=QiZ (QcD s.ch+1) s h;exact ⟨h1,h2,h3⟩
structure QnJ (s:SS) (r:Int×SS):Prop where
 go:r.1=0→Inv r.2∧mu r.2<mu s
 kind:0≤r.1∧r.1≤6∧r.1≠1
theorem Qb0 {s:SS} {g:Gl} {rest:List Gl} (hI:Inv s) (hg:s.goals=g::rest) (hf:s.fuel≠0):Qd4 ⟨s.B,s.fresh,s.fuel-1,rest,s.ch,s.ev⟩∧s.B.length+10100*(mu ⟨s.B,s.fresh,s.fuel-1,rest,s.ch,s.ev⟩+1)≤1000000000∧(∀g∈rest,tgd g.1)∧QbO rest g.2∧g.2≤s.ch.length∧tgd g.1∧mu ⟨s.B,s.fresh,s.fuel-1,rest,s.ch,s.ev⟩+25=mu s:=by
 have h1:=hI.c.fr;have h2:=hI.c.bl;have h3:=hI.gg;have h4:=hI.og;rw [hg] at h3 h4
 have hm:mu ⟨s.B,s.fresh,s.fuel-1,rest,s.ch,s.ev⟩+25=mu s:=by unfold mu;simp only;omega
 exact ⟨⟨hI.c.bok,hI.c.gb,hI.c.ch,by simp only;omega,by simp only;omega⟩,by omega,fun x hx=>h3 x (.tail _ hx),h4.2,h4.1,h3 g (.head _),hm⟩
theorem QcQ {s s0:SS} (h:Qd4 s) (hm:mu s≤mu s0):QnJ s0 (QV s):=by
 obtain ⟨h1,h2,h3⟩:=QbD h;exact ⟨fun e=>⟨(h1 e).1,Nat.lt_of_lt_of_le (h1 e).2 hm⟩,by rcases h3 with h|h|h<;>rw [h]<;>decide⟩
theorem Qiy {s s0:SS} {a t:Tm} (hI:Qd4 s) (hsl:s.B.length+10100*(mu s+1)≤1000000000) (ha:tgd a) (ht:tgd t) (hgg:∀g∈s.goals,tgd g.1) (hog:QbO s.goals s.ch.length) (hm:mu s<mu s0):QnJ s0 (Qbm a t s):=by
 have hi:=QcO hI hsl ha ht;unfold Qbm;simp only;split
 ·exact ⟨fun h=>Y6,by refine ⟨?_,?_,?_⟩<;>simp only<;>decide⟩
 split
 ·exact ⟨fun _=>⟨⟨hi,hgg,hog⟩,hm⟩,by refine ⟨?_,?_,?_⟩<;>simp only<;>decide⟩
 ·exact QcQ hi (Nat.le_of_lt hm)
theorem Ts.at_mem:∀{T:Ts} {i:Nat},i<T.length→T.Mem (T.at_ i)
 | .nil,_,h=>by simp [Ts.length] at h
 | .cons k n s a r,0,_=> .inl rfl
 | .cons k n s a r,i+1,h=> .inr (Ts.at_mem (T:=r) (i:=i) (by simp only [Ts.length] at h;omega))
theorem QoC {s s0:SS} {g:Gl} (hI:Qd4 s) (hsl:s.B.length+10100*(mu s+1)≤1000000000) (hg:tgd g.1) (hgo:g.2≤s.ch.length) (hgg:∀g∈s.goals,tgd g.1) (hog:QbO s.goals g.2) (hb:QM g.1.s.toList g.1.ar.length=true) (hm:mu s<mu s0):QnJ s0 (Qcq g s):=by
 have hog2:=hog.mono hgo;have hd:=Qac _ hg;unfold Qcq;unfold QM at hb;split
 ·refine ⟨fun _=>⟨⟨Qtg hI g.2,hgg,?_⟩,?_⟩,by refine ⟨?_,?_,?_⟩<;>simp only<;>decide⟩
  ·show QbO s.goals (s.ch.drop (s.ch.length-g.2)).length;exact hog.mono Yh
  ·have:=Qgk s.ch (s.ch.length-g.2);unfold mu at*;simp only;omega
 rename_i h1;rw [if_neg h1] at hb;split
 ·exact ⟨fun _=>⟨⟨hI,hgg,hog2⟩,hm⟩,by refine ⟨?_,?_,?_⟩<;>simp only<;>decide⟩
 rename_i h2;rw [if_neg h2] at hb;split
 ·rename_i h3;rw [if_neg (by rw [h3];decide),if_pos h3] at hb;have hl:g.1.ar.length=2:=by simpa using hb
  exact Qiy hI hsl (hd _ (Ts.at_mem Ya)) (hd _ (Ts.at_mem Ya)) hgg hog2 hm
 rename_i h3;split
 ·unfold QhM;simp only;split
  ·exact ⟨fun h=>Y6,by refine ⟨?_,?_,?_⟩<;>simp only<;>decide⟩
  split
  ·exact QcQ hI (Nat.le_of_lt hm)
  ·exact ⟨fun _=>⟨⟨hI,hgg,hog2⟩,hm⟩,by refine ⟨?_,?_,?_⟩<;>simp only<;>decide⟩
 rename_i h4;split
 ·rename_i h5;rw [if_neg (by rw [h5];decide),if_neg (by rw [h5];decide),if_neg (by rw [h5];decide),if_pos h5] at hb;have hl:g.1.ar.length=3:=by simpa using hb
  unfold QqZ;simp only;split
  ·exact ⟨fun h=>Y6,by refine ⟨?_,?_,?_⟩<;>simp only<;>decide⟩
  split
  ·exact ⟨fun h=>Y6,by refine ⟨?_,?_,?_⟩<;>simp only<;>decide⟩
  ·rename_i hk hr;refine Qiy hI hsl (hd _ (Ts.at_mem Ya)) ?_ hgg hog2 hm;refine ⟨?_,by simp [Ts.nodes]⟩;simp only [Ts.good,Bool.and_eq_true,and_true];unfold Qai;rw [if_neg Yg,if_neg Yg,if_pos rfl];simp only [Bool.and_eq_true,decide_eq_true_eq];exact ⟨⟨⟨by omega,by omega⟩,Q7 []⟩,rfl⟩
 ·exact QcQ hI (Nat.le_of_lt hm)
theorem QeK {s:SS} {g:Gl} {rest:List Gl} {c:Cl} {cs:List Cl} (hI:Inv s) (hg:s.goals=g::rest) (hf:s.fuel≠0) (hc:∀x∈c::cs,cB x=true) (hl:(c::cs).length≤24):
  Qd4 ⟨s.B,s.fresh,s.fuel-1,rest,⟨g,rest,c::cs,s.B.length⟩::s.ch,s.ev⟩∧mu ⟨s.B,s.fresh,s.fuel-1,rest,⟨g,rest,c::cs,s.B.length⟩::s.ch,s.ev⟩<mu s:=by
 obtain ⟨h1,h2,h3,h4,h5,h6,h7⟩:=Qb0 hI hg hf
 have hm:mu ⟨s.B,s.fresh,s.fuel-1,rest,⟨g,rest,c::cs,s.B.length⟩::s.ch,s.ev⟩<mu s:=by
  unfold mu at*;simp only [QcD] at*;omega
 have a1:=hI.c.fr;have a2:=hI.c.bl;refine ⟨⟨hI.c.bok,hI.c.gb,?_,by simp only;omega,by simp only;omega⟩,hm⟩
 exact ⟨Nat.le_refl _,⟨h5,h4⟩,fun x hx=>by
  rcases List.mem_cons.1 hx with rfl|hx
  ·exact h6
  ·exact h3 x hx,by simp,hc,hI.c.ch⟩
theorem Qfe {p:List Cl} {vars:Nat} {s:SS} (hI:Inv s) (hev:s.ev.length<12) (hp:pB p=true):QnJ s (Q4 p vars s)∧((Q4 p vars s).1=0→(Q4 p vars s).2.ev.length<12):=by
 have hp2:p.length≤24∧∀x∈p,cB x=true:=by
  unfold pB at hp;simp only [Bool.and_eq_true,decide_eq_true_eq,List.all_eq_true] at hp;exact hp
 have hag:∀s':SS,Qd4 s'→s'.ev.length<12→((QV s').1=0→(QV s').2.ev.length<12):=fun s' h1 h2 _=>by rw [(QbD h1).2.1];exact h2
 have heq:∀(s':SS) (a t:Tm),Qd4 s'→s'.B.length+10100*(mu s'+1)≤1000000000→tgd a→tgd t→s'.ev.length<12→((Qbm a t s').1=0→(Qbm a t s').2.ev.length<12):=fun s' a t h1 h2 h3 h4 h5=>by
  have hi:=QcO h1 h2 h3 h4;unfold Qbm;simp only;split
  ·intro h;cases h
  split
  ·intro _;exact h5
  ·exact hag _ hi h5
 unfold Q4
 cases hg:s.goals with
 |nil=>
  simp only;unfold QcC
  cases hv:QbL s.B vars 0 200 with
  |none=>exact ⟨⟨fun h=>Y6,by refine ⟨?_,?_,?_⟩<;>simp only<;>decide⟩,fun h=>by cases h⟩
  |some x=>
   simp only
   have hi:Qd4 ⟨s.B,s.fresh,s.fuel,s.goals,s.ch,s.ev++[x.1.tidy]⟩:=⟨hI.c.bok,hI.c.gb,hI.c.ch,hI.c.fr,hI.c.bl⟩
   split
   ·exact ⟨⟨fun h=>Y6,by refine ⟨?_,?_,?_⟩<;>simp only<;>decide⟩,fun h=>by cases h⟩
   ·rename_i h12;refine ⟨QcQ hi (Nat.le_refl _),hag _ hi ?_⟩;simp at h12⊢;omega
 |cons g rest=>
  simp only;split
  ·exact ⟨⟨fun h=>Y6,by refine ⟨?_,?_,?_⟩<;>simp only<;>decide⟩,fun h=>by cases h⟩
  rename_i hf;obtain ⟨h1,h2,h3,h4,h5,h6,h7⟩:=Qb0 hI hg hf;split
  ·rename_i hb;refine ⟨QoC h1 h2 h6 h5 h3 h4 hb Ya,?_⟩;have hd:=Qac _ h6;unfold QM at hb;unfold Qcq;split
   ·intro _;exact hev
   rename_i k1;rw [if_neg k1] at hb;split
   ·intro _;exact hev
   rename_i k2;rw [if_neg k2] at hb;split
   ·rename_i k3;rw [if_neg Yat,if_pos k3] at hb;have hl:g.1.ar.length=2:=by simpa using hb
    exact heq _ _ _ h1 h2 (hd _ (Ts.at_mem Ya)) (hd _ (Ts.at_mem Ya)) hev
   split
   ·unfold QhM;simp only;split
    ·intro h;cases h
    split
    ·exact hag _ h1 hev
    ·intro _;exact hev
   split
   ·rename_i k5;rw [if_neg Yac,if_neg Yac,if_neg Yac,if_pos k5] at hb;have hl:g.1.ar.length=3:=by simpa using hb
    unfold QqZ;simp only;split
    ·intro h;cases h
    split
    ·intro h;cases h
    ·refine heq _ _ _ h1 h2 (hd _ (Ts.at_mem Ya)) ?_ hev;refine ⟨?_,by simp [Ts.nodes]⟩;simp only [Ts.good,Bool.and_eq_true,and_true];unfold Qai;rw [if_neg Yg,if_neg Yg,if_pos rfl];simp only [Bool.and_eq_true,decide_eq_true_eq];exact ⟨⟨⟨by omega,by omega⟩,Q7 []⟩,rfl⟩
   ·exact hag _ h1 hev
  ·cases hm:p.filter (QbX g.1) with
   |nil=>exact ⟨⟨fun h=>Y6,by refine ⟨?_,?_,?_⟩<;>simp only<;>decide⟩,fun h=>by cases h⟩
   |cons c cs=>
    simp only;have hsub:∀x∈c::cs,cB x=true:=fun x hx=>hp2.2 x Yal
    have hlen:(c::cs).length≤24:=by rw [←hm];exact Nat.le_trans (List.length_filter_le _ _) hp2.1
    obtain ⟨i1,i2⟩:=QeK hI hg hf hsub hlen;exact ⟨QcQ i1 (Nat.le_of_lt i2),hag _ i1 hev⟩
theorem Qnm {s:SS} {a t:Tm} (hI:Qd4 s) (hsl:s.B.length+10100*(mu s+1)≤1000000000) (ha:tgd a) (ht:tgd t):(Qbm a t s).2.ev=s.ev:=by
 have hi:=QcO hI hsl ha ht;unfold Qbm;simp only;split
 ·rfl
 split
 ·rfl
 ·exact (QbD hi).2.1
theorem QrU {s:SS} {g:Gl} (hI:Qd4 s) (hsl:s.B.length+10100*(mu s+1)≤1000000000) (hg:tgd g.1) (hb:QM g.1.s.toList g.1.ar.length=true):(Qcq g s).2.ev=s.ev:=by
 have hd:=Qac _ hg;unfold QM at hb;unfold Qcq;split
 ·rfl
 rename_i k1;rw [if_neg k1] at hb;split
 ·rfl
 rename_i k2;rw [if_neg k2] at hb;split
 ·rename_i k3;rw [if_neg Yat,if_pos k3] at hb;have hl:g.1.ar.length=2:=by simpa using hb
  exact Qnm hI hsl (hd _ (Ts.at_mem Ya)) (hd _ (Ts.at_mem Ya))
 split
 ·unfold QhM;simp only;split
  ·rfl
  split
  ·exact (QbD hI).2.1
  ·rfl
 split
 ·rename_i k5;rw [if_neg Yac,if_neg Yac,if_neg Yac,if_pos k5] at hb;have hl:g.1.ar.length=3:=by simpa using hb
  unfold QqZ;simp only;split
  ·rfl
  split
  ·rfl
  ·refine Qnm hI hsl (hd _ (Ts.at_mem Ya)) ?_;refine ⟨?_,by simp [Ts.nodes]⟩;simp only [Ts.good,Bool.and_eq_true,and_true];unfold Qai;rw [if_neg Yg,if_neg Yg,if_pos rfl];simp only [Bool.and_eq_true,decide_eq_true_eq];exact ⟨⟨⟨by omega,by omega⟩,Q7 []⟩,rfl⟩
 ·exact (QbD hI).2.1
theorem Qf5 (p:List Cl) (vars:Nat) (s:SS) (hI:Inv s) (hp:pB p=true):(Q4 p vars s).2.ev=s.ev∨∃T l,QbL s.B vars 0 200=some (T,l)∧(Q4 p vars s).2.ev=s.ev++[T.tidy]∧((Q4 p vars s).1=6↔s.ev.length+1=12):=by
 have hp2:p.length≤24∧∀x∈p,cB x=true:=by
  unfold pB at hp;simp only [Bool.and_eq_true,decide_eq_true_eq,List.all_eq_true] at hp;exact hp
 unfold Q4
 cases hg:s.goals with
 |nil=>
  simp only;unfold QcC
  cases hv:QbL s.B vars 0 200 with
  |none=>exact .inl rfl
  |some x=>
   right;refine ⟨x.1,x.2,rfl,?_⟩;simp only
   have hi:Qd4 ⟨s.B,s.fresh,s.fuel,s.goals,s.ch,s.ev++[x.1.tidy]⟩:=⟨hI.c.bok,hI.c.gb,hI.c.ch,hI.c.fr,hI.c.bl⟩
   obtain ⟨a1,a2,a3⟩:=QbD hi;split
   ·rename_i h12;refine ⟨rfl,fun _=>by simpa using h12,fun _=>rfl⟩
   ·rename_i h12;refine ⟨a2,fun h=> ?_,fun h=>absurd YY h12⟩;rcases a3 with e|e|e<;>rw [e] at h<;>cases h
 |cons g rest=>
  simp only;split
  ·exact .inl rfl
  rename_i hf;obtain ⟨h1,h2,h3,h4,h5,h6,h7⟩:=Qb0 hI hg hf;split
  ·rename_i hb;exact .inl (QrU h1 h2 h6 hb)
  ·cases hm:p.filter (QbX g.1) with
   |nil=>exact .inl rfl
   |cons c cs=>
    simp only;have hsub:∀x∈c::cs,cB x=true:=fun x hx=>hp2.2 x Yal
    have hlen:(c::cs).length≤24:=by rw [←hm];exact Nat.le_trans (List.length_filter_le _ _) hp2.1
    obtain ⟨i1,i2⟩:=QeK hI hg hf hsub hlen;exact .inl (QbD i1).2.1
theorem Qpb (p:List Cl) (vars:Nat) (s:SS) (hI:Inv s) (hev:s.ev.length<12) (hp:pB p=true):(Q4 p vars s).2.ev.length≤12:=by
 rcases Qf5 p vars s hI hp with h|⟨T,l,_,h,_⟩
 ·rw [h];omega
 ·rw [h];simp;omega
theorem QeE {q:Ts} {vars fuel:Nat} (hq:qB vars q=true) (hf:fuel≤150):Inv (QaT q vars fuel)∧mu (QaT q vars fuel)≤3750:=by
 simp only [qB,Bool.and_eq_true,decide_eq_true_eq] at hq;have hv:(vars:Int)≤8:=hq.1.1.2;refine ⟨⟨⟨trivial,fun x hx=>(by cases hx),trivial,by unfold mu QaT;simp only [QcD];omega,by unfold mu QaT;simp only [QcD,List.length_nil];omega⟩,?_,?_⟩,by unfold mu QaT;simp only [QcD];omega⟩
 ·exact Qhu hv Ya Ya (fun g hg=>(by cases hg)) q hq.2
 ·exact QfD (rest:=[]) trivial q
section
variable {P:List Cl} {q:Nat}
def Qbq (P:List Cl) (q:Nat) (s:SS) (L:List Ev):Prop:=∃n,QiW P q n s=L∧L≠[]
def QhP (P:List Cl) (q:Nat) (s:SS) (L:List Ev):Prop:=((QV s).1=0∧Qbq P q (QV s).2 L)∨((QV s).1≠0∧L=Qce (QV s).2.ev++[((QV s).1,.nil)])
theorem Qho {s s':SS} {L:List Ev} (h:Q4 P q s=(0,s')) (hg:Qbq P q s' L):Qbq P q s L:=by
 obtain ⟨n,h1,h2⟩:=hg;refine ⟨n+1,?_,h2⟩;simp only [QiW,h,if_true];exact h1
theorem QeW {s s':SS} {k:Int} (h:Q4 P q s=(k,s')) (hk:k≠0):Qbq P q s (Qce s'.ev++[(k,.nil)]):=by
 refine ⟨1,?_,by simp⟩;simp only [QiW,h];rw [if_neg hk]
theorem Qfs {s t:SS} {L:List Ev} (h:Q4 P q s=QV t) (hr:QhP P q t L):Qbq P q s L:=by
 rcases hr with ⟨h0,hg⟩|⟨h0,rfl⟩
 ·exact Qho (s':=(QV t).2) (by rw [h,←h0]) hg
 ·exact QeW (s':=(QV t).2) (k:=(QV t).1) h h0
theorem Qif:∀(n m:Nat) (s:SS),QcD s.ch<n→QcD s.ch<m→QaH n s=QaH m s
 |0,_,_,h,_=>by omega
 |_,0,_,_,h=>by omega
 |n+1,m+1,s,hn,hm=>by
  conv=>lhs;unfold QaH
  conv=>rhs;unfold QaH
  cases h1:s.ch with
  |nil=>rfl
  |cons c cs=>
   simp only
   cases h2:c.cls with
   |nil=>rfl
   |cons cl more=>
    simp only
    have hc:QcD s.ch=more.length+1+QcD cs:=by rw [h1];simp only [QcD,h2,List.length_cons]
    split
    ·rfl
    split
    ·rfl
    ·exact Qif n m _ (by simp only [Qds];omega) (by simp only [Qds];omega)
theorem QiP (X B:Bnd):Qaz (X++B) B.length=B:=by
 unfold Qaz;rw [show (X++B).length-B.length=X.length by simp];simp
theorem Qn3 {t:SS} {g:Gl} {rest:List Gl} {c:Cl} {more:List Cl} {C:List Ch} {X B:Bnd} (hc:t.ch=⟨g,rest,c::more,B.length⟩::C) (hB:t.B=X++B) {L:List Ev}:
  QhP P q t L↔(if 400<(Qbs 401 (c.head.shift t.fresh) g.1 B 0).w then L=Qce t.ev++[(4,.nil)]
   else if (Qbs 401 (c.head.shift t.fresh) g.1 B 0).ok=true then Qbq P q ⟨(Qbs 401 (c.head.shift t.fresh) g.1 B 0).B,t.fresh+c.vars.toNat,t.fuel,QdD c.bd t.fresh C.length rest,QdL ⟨g,rest,[],B.length⟩ more C,t.ev⟩ L
   else QhP P q ⟨(Qbs 401 (c.head.shift t.fresh) g.1 B 0).B,t.fresh+c.vars.toNat,t.fuel,t.goals,QdL ⟨g,rest,[],B.length⟩ more C,t.ev⟩ L):=by
 have hp:QdL ⟨g,rest,c::more,B.length⟩ more C=QdL ⟨g,rest,[],B.length⟩ more C:=by cases more<;>rfl
 have ha:QV t=QaH (QcD t.ch+1) t:=rfl;have hr:=Qei (n:=QcD t.ch) (s:=t) hc (rfl:(⟨g,rest,c::more,B.length⟩:Ch).cls=c::more);rw [hB,QiP,hp] at hr;unfold QhP;rw [ha,hr];dsimp only;split
 ·simp
 split
 ·simp
 ·have hf:QaH (QcD t.ch) ⟨(Qbs 401 (c.head.shift t.fresh) g.1 B 0).B,t.fresh+c.vars.toNat,t.fuel,t.goals,QdL ⟨g,rest,[],B.length⟩ more C,t.ev⟩=QV ⟨(Qbs 401 (c.head.shift t.fresh) g.1 B 0).B,t.fresh+c.vars.toNat,t.fuel,t.goals,QdL ⟨g,rest,[],B.length⟩ more C,t.ev⟩:=by
   refine Qif _ _ _ ?_ YT;simp only [Qds];rw [hc];simp only [QcD,List.length_cons];omega
  rw [hf]
theorem TsR.low {ρ:Int→Int→Prop} {m m':Int} (hρ:∀u v,ρ u v→u<m∧v<m') {T U:Ts} (h:TsR ρ T U):T.vars (· <m)∧U.vars (· <m'):=by
 induction h with
 |nil=>exact ⟨trivial,trivial⟩
 |var h1 _ ih=>exact ⟨⟨fun _=>(hρ _ _ h1).1,trivial,ih.1⟩,⟨fun _=>(hρ _ _ h1).2,trivial,ih.2⟩⟩
 |node h1 _ _ i1 i2=>exact ⟨⟨fun e=>absurd e h1,i1.1,i2.1⟩,⟨fun e=>absurd e h1,i1.2,i2.2⟩⟩
theorem Qc2.low {ρ:Int→Int→Prop} {m m':Int} (hρ:∀u v,ρ u v→u<m∧v<m') {t t':Tm} (h:Qc2 ρ t t'):QfX m t∧QfX m' t':=by
 obtain ⟨⟨a,b,_⟩,c,d,_⟩:=TsR.low hρ h;exact ⟨⟨a,b⟩,⟨c,d⟩⟩
theorem Qmx {ρ:Int→Int→Prop} {B e:Bnd} {m m':Int} (h:Bm Qet Qb4 (Qc2 ρ) B e) (hB:FB m B) (he:FB m' e) (hρ:∀u v,ρ u v→u<m∧v<m') {a b a' b':Tm} (ha:Qc2 ρ a a') (hb:Qc2 ρ b b'):
  (Qbs 401 a b B 0).ok=(Qba a' b' e).ok∧(Qbs 401 a b B 0).w=(Qba a' b' e).w∧Bm Qet Qb4 (Qc2 ρ) (Qbs 401 a b B 0).B (Qba a' b' e).s∧FB m (Qbs 401 a b B 0).B∧FB m' (Qba a' b' e).s:=by
 have hu:=QoT 401 a b B 0 h.oka;obtain ⟨h1,h2,h3⟩:=Qls (QiT Qnd) (QiT QrH) 401 a b a' b' B e 0 h ha hb;have la:=ha.low hρ;have lb:=hb.low hρ;have f1:=Qmw Qne 401 a b B 0 hB la.1 lb.1;have f2:=Qmw QrI 401 a' b' e 0 he la.2 lb.2;rw [←hu] at h1 h2 h3 f1;exact ⟨h1,h2,h3,f1,f2⟩
end
def QjK (h:Nat→Nat) (C:List Ch) (c:Int):List Ch:=if c<0 then C else C.drop (C.length-h c.toNat)
structure Rs (P:List Cl) (q:Nat) (K:List Ev→Prop) (B0:Bnd) (fr0:Nat) (C:List Ch) (p p':Qax):Prop where
 vm:p.vars≤p'.vars
 cm:p.calls≤p'.calls
 fm:p'.fuel≤p.fuel
 en:p'.ended=true→K p'.out
 go:p'.ended=false→∃t:SS,Qd4 t∧t.ch=C∧t.fuel=p'.fuel∧p'.out=Qce t.ev∧t.ev.length<12∧(∃X,t.B=X++B0)∧fr0≤t.fresh∧p'.vars≤t.fresh∧∀L,QhP P q t L→K L
def GlR (ρ:Int→Int→Prop) (h:Nat→Nat) (x:Gl) (y:Tg):Prop:=Qc2 ρ x.1 y.1∧x.2=h y.2
structure Rl (ρ:Int→Int→Prop) (h:Nat→Nat) (q:Nat) (s:SS) (g:List Tg) (e:Bnd) (p:Qax):Prop where
 fuel:s.fuel=p.fuel
 out:p.out=Qce s.ev
 ev:s.ev.length<12
 ne:p.ended=false
 bm:Bm Qet Qb4 (Qc2 ρ) s.B e
 fb:FB s.fresh s.B
 fe:FB p.vars e
 rho:∀u v,ρ u v→u<s.fresh∧v<p.vars
 le:p.vars≤s.fresh
 qv:∀v:Nat,v<q→ρ v v
 gl:Al (GlR ρ h) s.goals g
 srt:g.Pairwise fun a b=>b.2≤a.2
 mono:∀a∈g,∀b∈g,a.2≤b.2→h a.2≤h b.2
 ht:∀a∈g,h a.2≤s.ch.length∧a.2≤p.calls
 inv:Inv s
def QtU (P:List Cl) (q f:Nat):Prop:=∀ρ h s g e p,Rl ρ h q s g e p→p.fuel≤f→
 Rs P q (Qbq P q s) s.B s.fresh (QjK h s.ch (Qj P q f g e p).1) p (Qj P q f g e p).2∧((Qj P q f g e p).2.ended=false→(Qj P q f g e p).1= -1∨∃a∈g,(Qj P q f g e p).1=(a.2:Nat))
theorem Al.impM {X Y:Type} {R Q:X→Y→Prop} {l:List X} {m:List Y} (h:Al R l m):(∀x y,y∈m→R x y→Q x y)→Al Q l m:=by
 induction h with
 |nil=>intro _;exact .nil
 |cons h _ ih=>intro hi;exact .cons (hi _ _ (List.mem_cons_self ..) h) (ih fun x y hy hr=>hi x y (List.mem_cons_of_mem _ hy) hr)
theorem Qcr {m:Int} {c:Nat} {r:List Tg}:∀(T:Ts) {a:Tg},a∈Qau T m c r→a.2=c∨a∈r
 | .nil,a,h=> .inr h
 | .cons k n s ar t,a,h=>by
  rcases List.mem_cons.1 h with rfl|h
  ·exact .inl rfl
  ·exact Qcr t h
theorem Qjv {m:Int} {c:Nat} {r:List Tg} (hr:r.Pairwise fun a b=>b.2≤a.2) (hc:∀a∈r,a.2≤c):∀T:Ts,(Qau T m c r).Pairwise fun a b=>b.2≤a.2
 | .nil=>hr
 | .cons k n s ar t=>by
  refine List.pairwise_cons.2 ⟨fun a ha=> ?_,Qjv hr hc t⟩;rcases Qcr t ha with e|e
  ·exact Nat.le_of_eq e
  ·exact hc a e
theorem Qjw {ρ:Int→Int→Prop} {h:Nat→Nat} {m m' V:Int} {o c:Nat} {rest:List Gl} {r:List Tg} (h0:0≤m) (h1:m≤40000) (h2:0≤m') (h3:m'≤40000) (hV:V≤8) (ho:o=h c) (hr:Al (GlR (QnI ρ m m' V) h) rest r):∀T:Ts,T.goals V=true→Al (GlR (QnI ρ m m' V) h) (QdD T m o rest) (Qau T m' c r)
 | .nil,_=>hr
 | .cons k n s ar t,hg=>by
  simp only [Ts.goals,gB,Bool.and_eq_true] at hg;exact .cons ⟨Qj8 h0 h1 h2 h3 hV (.cons k n s ar .nil) hg.1.1.2,ho⟩ (Qjw h0 h1 h2 h3 hV ho hr t hg.2)
theorem QmT (c:Ch) (more:List Cl) (C:List Ch) {k:Nat} (hk:k≤C.length):(QdL c more C).drop ((QdL c more C).length-k)=C.drop (C.length-k):=by
 cases more with
 |nil=>rfl
 |cons x r=>
  show (_::C).drop (C.length+1-k)=_;rw [show C.length+1-k=(C.length-k)+1 by omega];rfl
theorem Qte (l:List Ts) (k:Int) (p:Qax) (h:p.out=Qce l):(Qea k p).out=Qce l++[(k,.nil)]:=by simp only [Qea,h]
section
variable {P:List Cl} {q:Nat}
theorem QsJ {f:Nat} (ih:QtU P q f) {ρ:Int→Int→Prop} {h:Nat→Nat} {B e:Bnd} {C:List Ch} {g:Gl} {g':Tg} {rest:List Gl} {r':List Tg} {call:Nat}
  (bm:Bm Qet Qb4 (Qc2 ρ) B e) (hgg:Qc2 ρ g.1 g'.1) (gl:Al (GlR ρ h) rest r') (srt:r'.Pairwise fun a b=>b.2≤a.2) (mono:∀a∈r',∀b∈r',a.2≤b.2→h a.2≤h b.2) (ht:∀a∈r',h a.2≤C.length∧a.2<call) (qv:∀v:Nat,v<q→ρ v v):
  ∀(cls:List Cl) (t:SS) (p:Qax),Qd4 t→t.ch=QdL ⟨g,rest,[],B.length⟩ cls C→(∃X,t.B=X++B)→t.fuel=p.fuel→p.out=Qce t.ev→t.ev.length<12→p.ended=false→p.vars≤t.fresh→FB t.fresh B→FB p.vars e→(∀u v,ρ u v→u<t.fresh∧v<p.vars)→call≤p.calls→p.fuel≤f→(∀c∈cls,cB c=true)→
   Rs P q (QhP P q t) B t.fresh (QjK h C (QeB (Qj P q f) g' r' e call cls p).1) p (QeB (Qj P q f) g' r' e call cls p).2∧((QeB (Qj P q f) g' r' e call cls p).2.ended=false→(QeB (Qj P q f) g' r' e call cls p).1= -1∨∃a∈r',(QeB (Qj P q f) g' r' e call cls p).1=(a.2:Nat)):=by
 intro cls
 induction cls with
 |nil=>
  intro t p hI hch hX hfu ho hev hne hle hfb hfe hρ hca hfl _;refine ⟨⟨Nat.le_refl _,Nat.le_refl _,Nat.le_refl _,fun hh=> ?_,fun _=>⟨t,hI,hch,hfu,ho,hev,hX,Nat.le_refl _,hle,fun L hL=>hL⟩⟩,fun _=> .inl rfl⟩;have:p.ended=true:=hh;rw [hne] at this;cases this
 |cons c more ihc=>
  intro t p hI hch hX hfu ho hev hne hle hfb hfe hρ hca hfl hcB;obtain ⟨X,hX⟩:=hX;have hch':t.ch=⟨g,rest,c::more,B.length⟩::C:=hch;obtain ⟨v0,v1,v2,v3,v4⟩:=Qc1 (hcB c (List.mem_cons_self ..))
  have hfr:t.fresh≤40000:=by have:=hI.fr;omega
  have hpi:=Qi1 hI hch' (rfl:(⟨g,rest,c::more,B.length⟩:Ch).cls=c::more) t.goals;rw [hX,QiP] at hpi
  have hp:QdL ⟨g,rest,c::more,B.length⟩ more C=QdL ⟨g,rest,[],B.length⟩ more C:=by cases more<;>rfl
  rw [hp] at hpi;have bm':=bm.more (V:=c.vars) hfb hfe hρ
  have hhead:Qc2 (QnI ρ t.fresh p.vars c.vars) (c.head.shift t.fresh) (c.head.shift p.vars):=by
   refine Qj8 Ya Ya Ya Ya v1 (.cons c.k c.n c.s c.hd .nil) ?_;simp only [gB,Bool.and_eq_true] at v4;exact v4.1.2
  have hρ':∀u v,QnI ρ t.fresh p.vars c.vars u v→u<((t.fresh+c.vars.toNat:Nat):Int)∧v<((p.vars+c.vars.toNat:Nat):Int):=by
   rintro u v (h1|⟨i,i0,i1,rfl,rfl⟩)
   ·have:=hρ u v h1;omega
   ·omega
  have hgg':Qc2 (QnI ρ t.fresh p.vars c.vars) g.1 g'.1:=TsR.mono (fun _ _ h=> .inl h) hgg;obtain ⟨u1,u2,u3,u4,u5⟩:=Qmx bm' (hfb.mono (m':=((t.fresh+c.vars.toNat:Nat):Int)) Ya) (hfe.mono (m':=((p.vars+c.vars.toNat:Nat):Int)) Ya) hρ' hhead hgg';have hrc:=fun L=>Qn3 (P:=P) (q:=q) (L:=L) hch' hX
  obtain ⟨N,hN⟩:∃N,(Qbs 401 (c.head.shift t.fresh) g.1 B 0).B=N++B:=by
   have hch2:=hI.ch;rw [hch'] at hch2;have hgb:=hI.gb;rw [hX] at hgb;have hsm:SmB B:=fun x hx=>(hgb x (List.mem_append.2 (.inr hx))).small;have hbo:Bok B:=bm.oka;exact (Qdj 401 (c.head.shift t.fresh) g.1 B 0 (Qns (hcB c (List.mem_cons_self ..)) hfr).small (hch2.2.2.1 g (List.mem_cons_self ..)).small hbo hsm Ya).ext
  by_cases hw:400<(Qba (c.head.shift p.vars) g'.1 e).w
  ·have e1:QeB (Qj P q f) g' r' e call (c::more) p=(-1,Qea 4 p):=by rw [QeB,if_pos hw]
   rw [e1];refine ⟨⟨Nat.le_refl _,Nat.le_refl _,Nat.le_refl _,fun _=> ?_,fun hh=>Yad⟩,fun _=> .inl rfl⟩;rw [hrc,if_pos Yaq];exact Qte _ _ _ ho
  by_cases hok:(Qba (c.head.shift p.vars) g'.1 e).ok=true
  ·have hR:∀L,Qbq P q ⟨(Qbs 401 (c.head.shift t.fresh) g.1 B 0).B,t.fresh+c.vars.toNat,t.fuel,QdD c.bd t.fresh C.length rest,QdL ⟨g,rest,[],B.length⟩ more C,t.ev⟩ L→QhP P q t L:=fun L hL=>by
    rw [hrc,if_neg Yaq,if_pos Yax];exact hL
   have hinv:Inv ⟨(Qbs 401 (c.head.shift t.fresh) g.1 B 0).B,t.fresh+c.vars.toNat,t.fuel,QdD c.bd t.fresh C.length rest,QdL ⟨g,rest,[],B.length⟩ more C,t.ev⟩:=by
    have ha:QV t=(0,⟨(Qbs 401 (c.head.shift t.fresh) g.1 B 0).B,t.fresh+c.vars.toNat,t.fuel,QdD c.bd t.fresh C.length rest,QdL ⟨g,rest,[],B.length⟩ more C,t.ev⟩):=by
     have hr:=Qei (n:=QcD t.ch) (s:=t) hch' (rfl:(⟨g,rest,c::more,B.length⟩:Ch).cls=c::more);rw [hX,QiP,hp,if_neg Yaq,if_pos Yax] at hr;exact hr
    have:=(QbD hI).1;rw [ha] at this;exact (this rfl).1
   have hpl:=QpC ⟨g,rest,[],B.length⟩ more C
   have hRl:Rl (QnI ρ t.fresh p.vars c.vars) (fun x=>if x=call then C.length else h x) q ⟨(Qbs 401 (c.head.shift t.fresh) g.1 B 0).B,t.fresh+c.vars.toNat,t.fuel,QdD c.bd t.fresh C.length rest,QdL ⟨g,rest,[],B.length⟩ more C,t.ev⟩ (Qau c.bd p.vars call r') (Qba (c.head.shift p.vars) g'.1 e).s ⟨p.fuel,p.vars+c.vars.toNat,p.calls,p.out,p.ended⟩:=by
    refine ⟨hfu,ho,hev,hne,u3,u4,u5,hρ',by simp only;omega,fun v hv=> .inl (qv v hv),?_,Qjv srt (fun a ha=>Nat.le_of_lt (ht a ha).2) _,?_,?_,hinv⟩
    ·refine Qjw Ya Ya Ya Ya v1 Yd (gl.impM fun x y hy hr=>⟨TsR.mono (fun _ _ h=> .inl h) hr.1,?_⟩) c.bd v3;have:=(ht y hy).2
     show x.2=if y.2=call then C.length else h y.2
     rw [if_neg Ya];exact hr.2
    ·intro a ha b hb hab
     try dsimp only
     rcases Qcr _ ha with e1|e1
     ·rcases Qcr _ hb with e2|e2
      ·rw [if_pos e1,if_pos e2];exact Nat.le_refl _
      ·have:=(ht b e2).2;omega
     ·have h1:=ht a e1;rw [if_neg Ya];rcases Qcr _ hb with e2|e2
      ·rw [if_pos e2];exact h1.1
      ·have h2:=ht b e2;rw [if_neg Ya];exact mono a e1 b e2 hab
    ·intro a ha
     try dsimp only
     rcases Qcr _ ha with e1|e1
     ·rw [if_pos e1];exact ⟨hpl,by omega⟩
     ·have h1:=ht a e1;rw [if_neg Ya];exact ⟨by omega,by omega⟩
   obtain ⟨hRs,hmem⟩:=ih _ _ _ _ _ _ hRl hfl
   have e1:QeB (Qj P q f) g' r' e call (c::more) p=if (Qj P q f (Qau c.bd p.vars call r') (Qba (c.head.shift p.vars) g'.1 e).s ⟨p.fuel,p.vars+c.vars.toNat,p.calls,p.out,p.ended⟩).2.ended=true then (-1,(Qj P q f (Qau c.bd p.vars call r') (Qba (c.head.shift p.vars) g'.1 e).s ⟨p.fuel,p.vars+c.vars.toNat,p.calls,p.out,p.ended⟩).2)
    else if (Qj P q f (Qau c.bd p.vars call r') (Qba (c.head.shift p.vars) g'.1 e).s ⟨p.fuel,p.vars+c.vars.toNat,p.calls,p.out,p.ended⟩).1=(call:Nat) then (-1,(Qj P q f (Qau c.bd p.vars call r') (Qba (c.head.shift p.vars) g'.1 e).s ⟨p.fuel,p.vars+c.vars.toNat,p.calls,p.out,p.ended⟩).2)
    else if 0≤(Qj P q f (Qau c.bd p.vars call r') (Qba (c.head.shift p.vars) g'.1 e).s ⟨p.fuel,p.vars+c.vars.toNat,p.calls,p.out,p.ended⟩).1 then Qj P q f (Qau c.bd p.vars call r') (Qba (c.head.shift p.vars) g'.1 e).s ⟨p.fuel,p.vars+c.vars.toNat,p.calls,p.out,p.ended⟩
    else QeB (Qj P q f) g' r' e call more (Qj P q f (Qau c.bd p.vars call r') (Qba (c.head.shift p.vars) g'.1 e).s ⟨p.fuel,p.vars+c.vars.toNat,p.calls,p.out,p.ended⟩).2:=by
    rw [QeB,if_neg hw,if_pos hok]
   rw [e1];generalize Qj P q f (Qau c.bd p.vars call r') (Qba (c.head.shift p.vars) g'.1 e).s ⟨p.fuel,p.vars+c.vars.toNat,p.calls,p.out,p.ended⟩=res at hRs hmem⊢;obtain ⟨a1,a2,a3,a4,a5⟩:=hRs;dsimp only at a1 a2 a3 a5
   cases hen:res.2.ended with
   |true=>
    rw [if_pos rfl];exact ⟨⟨by dsimp only;omega,a2,a3,fun _=>hR _ (a4 hen),fun hh=>Yaj⟩,fun _=> .inl rfl⟩
   |false=>
    rw [if_neg Yg];obtain ⟨t2,b1,b2,b3,b4,b5,⟨X2,b6⟩,b7,b8,b9⟩:=a5 hen
    have hsuf:∃Y,t2.B=Y++B:=⟨X2++N,by rw [b6,hN,List.append_assoc]⟩
    have hmem:=hmem hen;by_cases hcut:res.1=(call:Nat)
    ·rw [if_pos hcut];refine ⟨⟨by dsimp only;omega,a2,a3,fun hh=>Yaj,fun _=>⟨t2,b1,?_,b3,b4,b5,hsuf,by omega,b8,fun L hL=>hR _ (b9 L hL)⟩⟩,fun _=> .inl rfl⟩;rw [b2,hcut];unfold QjK;rw [if_neg Ya,if_pos (show ((-1:Int),res.2).1<0 by show (-1:Int)<0;decide)];simp only [Int.toNat_natCast,if_true];rw [QmT _ _ _ (Nat.le_refl _)];simp
    ·rw [if_neg hcut];rcases hmem with hm1|⟨a,ha,hm2⟩
     ·rw [if_neg (by rw [hm1];decide)]
      have hC1:t2.ch=QdL ⟨g,rest,[],B.length⟩ more C:=by rw [b2,hm1];unfold QjK;rw [if_pos Yg]
      obtain ⟨hRs2,hmem2⟩:=ihc t2 res.2 b1 hC1 hsuf b3 b4 b5 hen b8 (hfb.mono Ya) (hfe.mono Ya) (fun u v h=>by have:=hρ u v h;omega) Ya Ya (fun c hc=>hcB c (List.mem_cons_of_mem _ hc));obtain ⟨d1,d2,d3,d4,d5⟩:=hRs2;refine ⟨⟨by omega,by omega,by omega,fun hh=>hR _ (b9 _ (d4 hh)),fun hh=> ?_⟩,hmem2⟩;obtain ⟨t3,f1,f2,f3,f4,f5,f6,f7,f8,f9⟩:=d5 hh;exact ⟨t3,f1,f2,f3,f4,f5,f6,by omega,f8,fun L hL=>hR _ (b9 _ (f9 L hL))⟩
     ·have hpos:0≤res.1:=by omega
      rw [if_pos hpos];rcases Qcr _ ha with e2|e2
      ·rw [e2] at hm2;exact absurd hm2 hcut
      ·have h1:=ht a e2;refine ⟨⟨by omega,a2,a3,fun hh=>Yaj,fun _=>⟨t2,b1,?_,b3,b4,b5,hsuf,by omega,b8,fun L hL=>hR _ (b9 L hL)⟩⟩,fun _=> .inr ⟨a,e2,hm2⟩⟩;rw [b2,hm2];unfold QjK;rw [if_neg Ya,if_neg Ya];simp only [Int.toNat_natCast];rw [if_neg Ya,QmT _ _ _ h1.1]
  ·have e1:QeB (Qj P q f) g' r' e call (c::more) p=QeB (Qj P q f) g' r' e call more p:=by rw [QeB,if_neg hw,if_neg hok]
   rw [e1]
   have hR:∀L,QhP P q ⟨(Qbs 401 (c.head.shift t.fresh) g.1 B 0).B,t.fresh+c.vars.toNat,t.fuel,t.goals,QdL ⟨g,rest,[],B.length⟩ more C,t.ev⟩ L→QhP P q t L:=fun L hL=>by
    rw [hrc,if_neg Yaq,if_neg Yax];exact hL
   obtain ⟨hRs2,hmem2⟩:=ihc _ p hpi rfl ⟨N,hN⟩ hfu ho hev hne YT (hfb.mono YT) hfe (fun u v h=>by have:=hρ u v h;simp only;omega) hca hfl (fun c hc=>hcB c (List.mem_cons_of_mem _ hc));obtain ⟨d1,d2,d3,d4,d5⟩:=hRs2;refine ⟨⟨d1,d2,d3,fun hh=>hR _ (d4 hh),fun hh=> ?_⟩,hmem2⟩;obtain ⟨t3,f1,f2,f3,f4,f5,f6,f7,f8,f9⟩:=d5 hh;exact ⟨t3,f1,f2,f3,f4,f5,f6,by simp only at f7;omega,f8,fun L hL=>hR _ (f9 L hL)⟩
end
theorem Qc2.top {ρ:Int→Int→Prop} {t t':Tm} (h:Qc2 ρ t t'):t.s=t'.s∧t.ar.length=t'.ar.length∧TsR ρ t.ar t'.ar:=by
 rcases h.cases with ⟨_,_,_,h1,h2,h3⟩|⟨_,_,_,h1,h2⟩
 ·exact ⟨h1,by rw [h2,h3],by rw [h2,h3];exact .nil⟩
 ·exact ⟨h1,h2.len,h2⟩
theorem TsR.at_ {ρ:Int→Int→Prop} {T U:Ts} (h:TsR ρ T U):∀{i:Nat},i<T.length→Qc2 ρ (T.at_ i) (U.at_ i):=by
 induction h with
 |nil=>intro i hi;simp [Ts.length] at hi
 |var h1 _ ih=>
  intro i hi
  cases i with
  |zero=>exact .var h1 .nil
  |succ i=>exact ih (by simpa [Ts.length] using hi)
 |node h1 h2 _ _ ih=>
  intro i hi
  cases i with
  |zero=>exact .node h1 h2 .nil
  |succ i=>exact ih (by simpa [Ts.length] using hi)
theorem QkB {ρ:Int→Int→Prop} {B e:Bnd} (h:Bm Qet Qb4 (Qc2 ρ) B e) {t t':Tm} (ht:Qc2 ρ t t'):((Qc B t).k=0∧(Qc e t').k=0)∨((Qc B t).k≠0∧(Qc B t).k=(Qc e t').k∧(Qc B t).n=(Qc e t').n):=by
 rcases h.cases ht with ⟨u,v,e1,e2⟩|⟨k,n,s,ar,ar',e1,e2,_⟩
 ·exact .inl ⟨(Q6.1 e1).1,(Q6.1 e2).1⟩
 ·obtain ⟨a1,a2,a3,_⟩:=Qbt (B:=B) e1;obtain ⟨b1,b2,b3,_⟩:=Qbt (B:=e) e2;exact .inr ⟨by rw [a1];exact a2,by rw [a1,b1],by rw [a3,b3]⟩
theorem QpV {g:Tm→Nat→Option (Tm×Nat)}:∀(T:Ts) (l:Nat),QjH g T l=Qcm g T.tms l
 | .nil,l=>rfl
 | .cons k n s a r,l=>by
  simp only [QjH,Ts.tms,Qcm]
  cases g ⟨k,n,s,a⟩ l with
  |none=>rfl
  |some p=>
   obtain ⟨t,l'⟩:=p;dsimp only;rw [QpV r]
   all_goals (cases Qcm g r.tms l'<;>rfl)
theorem Qip {g g':Tm→Nat→Option (Tm×Nat)}:∀(l:List Tm),(∀x∈l,∀m,g x m=g' x m)→∀m,Qcm g l m=Qcm g' l m
 |[],_,m=>rfl
 |x::r,h,m=>by
  simp only [Qcm];rw [h x (List.mem_cons_self ..) m]
  cases g' x m with
  |none=>rfl
  |some p=>
   obtain ⟨t,l'⟩:=p;dsimp only;rw [Qip r (fun y hy=>h y (List.mem_cons_of_mem _ hy))]
theorem Qo3 {x:Tm}:∀{T:Ts},x∈T.tms→T.Mem x
 | .nil,h=>by cases h
 | .cons k n s a r,h=>by
  rcases List.mem_cons.1 h with rfl|h
  ·exact .inl rfl
  ·exact .inr (Qo3 h)
theorem QiS {t:Tm} (h:tgd t) (hk:t.k=0):t.s=⟨#[]⟩∧t.ar= .nil:=by
 have:=h.1;simp only [Ts.good,Bool.and_eq_true] at this;have hn:=this.1.1;unfold Qai at hn;rw [if_pos hk] at hn;simp only [Bool.and_eq_true,decide_eq_true_eq] at hn;exact ⟨QgA.1 (hn.1.2.trans (Q7 []).symm),Ts.nil_of_length hn.2⟩
theorem QqE {B:Bnd} (hB:∀x∈B,tgd x.2):∀(f:Nat) (t:Tm) (l:Nat),tgd t→Qlb B f t l=QcE Qet B f t l
 |0,t,l,_=>rfl
 |f+1,t,l,ht=>by
  have hl:=Qc7 hB ht;simp only [Qlb,QcE];split
  ·rfl
  ·rw [show Qet.view B t=tvw (Qc B t) from rfl];unfold tvw;by_cases hk:(Qc B t).k=0
   ·rw [if_pos hk];obtain ⟨h1,h2⟩:=QiS hl hk;rw [h2,h1,hk];rfl
   ·rw [if_neg hk,QpV];have:=Qip (g:=Qlb B f) (g':=QcE Qet B f) (Qc B t).ar.tms (fun x hx m=>QqE hB f x m (Qac _ hl x (Qo3 hx))) (l-1);rw [this];rfl
theorem QsK {v:Nat} (hv:v<1000):tgd ⟨0,(v:Nat),⟨#[]⟩,.nil⟩:=by
 refine ⟨?_,by simp [Ts.nodes]⟩;simp only [Ts.good,Bool.and_eq_true,and_true];unfold Qai;rw [if_pos rfl];simp only [Bool.and_eq_true,decide_eq_true_eq];exact ⟨⟨⟨by omega,by omega⟩,Q7 []⟩,rfl⟩
theorem QjQ {ρ:Int→Int→Prop} {B e:Bnd} (h:Bm Qet Qb4 (Qc2 ρ) B e) (hB:∀x∈B,tgd x.2):∀(m v l:Nat),v+m≤1000→(∀x:Nat,x<v+m→ρ x x)→Qtx (fun p q:Ts×Nat=>p.2=q.2∧TsR (Bm.rho Qet Qb4 (Qc2 ρ) B e) p.1 q.1) (QbL B m v l) (Qfb Qd3 e m v l)
 |0,v,l,_,_=>⟨rfl,.nil⟩
 | m + 1, v, l, hv, hq => by
  simp only [QbL,Qfb];rw [QqE hB 201 _ l (QsK Ya)];have h1:=Qmi h (fun {x k n s ar} hx _=>(Qbt (B:=B) hx).2.1) 201 ⟨0,(v:Nat),⟨#[]⟩,.nil⟩ ⟨0,(v:Nat),⟨#[]⟩,.nil⟩ l (.var (hq v Ya) .nil)
  cases e1:QcE Qet B 201 ⟨0,(v:Nat),⟨#[]⟩,.nil⟩ l with
  |none=>
   cases e2:QcE Qb4 e 201 ⟨0,(v:Nat),⟨#[]⟩,.nil⟩ l with
   |none=>trivial
   |some p=>rw [e1,e2] at h1;exact h1.elim
  |some p=>
   cases e2:QcE Qb4 e 201 ⟨0,(v:Nat),⟨#[]⟩,.nil⟩ l with
   |none=>rw [e1,e2] at h1;exact h1.elim
   |some r=>
    rw [e1,e2] at h1;obtain ⟨p1,p2⟩:=p;obtain ⟨r1,r2⟩:=r;obtain ⟨rfl,h3⟩:p2=r2∧_:=h1;have h4:=QjQ h hB m (v+1) p2 Ya (fun x hx=>hq x Ya);dsimp only
    cases e3:QbL B m (v+1) p2 with
    |none=>
     cases e4:Qfb Qd3 e m (v+1) p2 with
     |none=>trivial
     |some q=>rw [e3,e4] at h4;exact h4.elim
    |some p'=>
     cases e4:Qfb Qd3 e m (v+1) p2 with
     |none=>rw [e3,e4] at h4;exact h4.elim
     |some q'=>
      rw [e3,e4] at h4;exact ⟨h4.1,h3.put h4.2⟩
section
variable {P:List Cl} {q:Nat}
theorem Qqj (l:List Ts) (T:Ts):Qce (l++[T])=Qce l++[(1,T)]:=by simp [Qce]
theorem QmC {ρ:Int→Int→Prop} {h:Nat→Nat} {s:SS} {e:Bnd} {p:Qax} (hq:q≤8) (hR:Rl ρ h q s [] e p):
  Rs P q (Qbq P q s) s.B s.fresh (QjK h s.ch (Qec q e p).1) p (Qec q e p).2∧((Qec q e p).2.ended=false→(Qec q e p).1= -1):=by
 have hg:s.goals=[]:=by have:=hR.gl;cases hs:s.goals with|nil=>rfl|cons a b=>rw [hs] at this;cases this
 have hst:Q4 P q s=QcC q s:=by unfold Q4;rw [hg]
 have hv:=QjQ hR.bm hR.inv.c.gb q 0 200 Ya (fun x hx=>hR.qv x Ya);have hout:=hR.out;unfold Qec
 cases e1:QbL s.B q 0 200 with
 |none=>
  cases e2:Qfb Qd3 e q 0 200 with
  |some x=>rw [e1,e2] at hv;exact hv.elim
  |none=>
   refine ⟨⟨Nat.le_refl _,Nat.le_refl _,Nat.le_refl _,fun _=> ?_,fun hh=>Yad⟩,fun hh=>Yad⟩
   have:Q4 P q s=(4,s):=by rw [hst];unfold QcC;rw [e1]
   show Qbq P q s (p.out++[(4,.nil)]);rw [hout];exact QeW this Yg
 |some x=>
  cases e2:Qfb Qd3 e q 0 200 with
  |none=>rw [e1,e2] at hv;exact hv.elim
  |some y=>
   obtain ⟨T,l⟩:=x;obtain ⟨U,l'⟩:=y;rw [e1,e2] at hv;have ht:U.tidy=T.tidy:=(QmA (fun u v u' v' a b=>hR.bm.inj a b) hv.2 [] [] .nil).1.symm;dsimp only;rw [ht]
   have hlen:(p.out++[((1:Int),T.tidy)]).length=(s.ev++[T.tidy]).length:=by rw [hout];simp [Qce]
   by_cases h12:(s.ev++[T.tidy]).length=12
   ·rw [if_pos (by rw [hlen];exact h12)];refine ⟨⟨Nat.le_refl _,Nat.le_refl _,Nat.le_refl _,fun _=> ?_,fun hh=>Yad⟩,fun hh=>Yad⟩
    have:Q4 P q s=(6,⟨s.B,s.fresh,s.fuel,s.goals,s.ch,s.ev++[T.tidy]⟩):=by
     rw [hst];unfold QcC;rw [e1];simp only;rw [if_pos h12]
    have hg2:=QeW this Yg;show Qbq P q s ((p.out++[(1,T.tidy)])++[(6,.nil)]);rw [hout,←Qqj];exact hg2
   ·rw [if_neg (by rw [hlen];exact h12)];have hev:=hR.ev;refine ⟨⟨Nat.le_refl _,Nat.le_refl _,Nat.le_refl _,fun hh=> ?_,fun _=>⟨⟨s.B,s.fresh,s.fuel,s.goals,s.ch,s.ev++[T.tidy]⟩,?_,rfl,hR.fuel,?_,?_,⟨[],rfl⟩,Nat.le_refl _,hR.le,fun L hL=>Qfs ?_ hL⟩⟩,fun _=>rfl⟩
    ·have:p.ended=true:=hh;rw [hR.ne] at this;cases this
    ·exact ⟨hR.inv.c.bok,hR.inv.c.gb,hR.inv.c.ch,hR.inv.c.fr,hR.inv.c.bl⟩
    ·show p.out++[(1,T.tidy)]=_;rw [hout,Qqj]
    ·simp only [List.length_append,List.length_cons,List.length_nil] at h12⊢;omega
    ·rw [hst];unfold QcC;rw [e1];simp only;rw [if_neg h12]
end
structure HC where
 k:Int
 n:Int
 s:ByteArray
deriving DecidableEq
abbrev eS:ByteArray:=⟨#[]⟩
structure HH where
 cs:List HC
 tr:List Int
def Qaa (all:Nat) (c:HC) (follow:Nat):Bool:=
 if c.k=0 then decide (0≤c.n)&&(decide (c.n<all)&&decide (c.s=eS))
 else if c.k=1 then decide (c.n=0)&& !decide (c.s=eS)
 else if c.k=2 then decide (c.s=eS)
 else if c.k=3 then decide (1≤c.n)&&(decide (c.n≤4)&&(decide (c.n≤follow)&& !decide (c.s=eS)))
 else false
def QN (all:Nat):List HC→Bool
 |[]=>true
 |c::r=>Qaa all c r.length&&QN all r
def Q9 (L:List HC):Bool:=decide (L.length≤65536)&&QN L.length L
def hat (L:List HC) (a:Int):Option HC:=if 0≤a then L[a.toNat]? else none
def Ql (L:List HC) (a:Int):Bool:=decide (0≤a)&&decide (a<L.length)
def Qat (L:List HC) (a:Int):Bool:=match hat L a with|some c=>decide (c.k=0)|none=>false
def QbJ (L:List HC) (T:List Int):Bool:=decide (T.length≤65536)&&T.all (Qat L)
def QG (h:HH):Bool:=Q9 h.cs&&QbJ h.cs h.tr
def Q0 (base:Nat) (c:HC):HC:=if c.k=0 then ⟨c.k,c.n+base,c.s⟩ else c
def Q8 (h:HH) (B:List HC):HH×Nat×Int:=
 if (QG h&&Q9 B)=false then (h,0,1)
 else if 65536<h.cs.length+B.length then (h,0,3)
 else (⟨h.cs++B.map (Q0 h.cs.length),h.tr⟩,h.cs.length,0)
def QaM (L:List HC):Nat→Int→Int
 |0,_=> -1
 |f+1,a=>match hat L a with
  |none=> -1
  |some c=>if c.k=0∧c.n≠a then QaM L f c.n else a
def Qp (L:List HC) (a:Int):Int:=QaM L L.length a
def Qd1 (L:List HC) (i:Nat) (x:Int):List HC:=L.modify i fun c=>⟨c.k,x,c.s⟩
def Qbf (L:List HC):List Int→List HC
 |[]=>L
 |a::r=>Qbf (Qd1 L a.toNat a) r
def Qcv (h:HH) (n:Int):HH×Int:=
 if QG h=false then (h,1)
 else if n<0∨(h.tr.length:Int)<n then (h,2)
 else (⟨Qbf h.cs (h.tr.drop n.toNat),h.tr.take n.toNat⟩,0)
def QkZ (h:HH) (n:Int):HH×Int:=
 if QG h=false then (h,1)
 else if n<0∨(h.cs.length:Int)<n then (h,2)
 else if QG ⟨h.cs.take n.toNat,h.tr⟩=false then (h,1)
 else (⟨h.cs.take n.toNat,h.tr⟩,0)
structure HU where
 cs:List HC
 tr:List Int
 w:Nat
 lg:Bool
def HU.step (u:HU):HU:=⟨u.cs,u.tr,u.w+1,u.lg||decide (400<u.w+1)⟩
def HU.look (u:HU) (a:Int):Int×HU:=
 if u.lg=true then (-1,u) else (Qp u.cs a,⟨u.cs,u.tr,u.w,decide (Qp u.cs a<0)⟩)
def HU.bind (u:HU) (a x:Int):HU:=⟨Qd1 u.cs a.toNat x,u.tr++[a],u.w,u.lg⟩
def QaY (L:List HC) (a:Int):Int:=match hat L a with|some c=>c.k|none=> -1
def QI (c:HC):Int:=if c.k=3 then c.n else 0
def Qaw (L:List HC) (a:Int):Nat:=match hat L a with|some c=>(QI c).toNat|none=>0
def Qjz (g:Int→HU→Bool×HU):Nat→Int→HU→Bool×HU
 |0,_,u=>(false,u)
 |m+1,x,u=>if (g x u).1=true then g x u else Qjz g m (x+1) (g x u).2
def Qch (a:Int):Nat→Int→HU→Bool×HU
 |0,b,u=>(false,(u.step.look b).2)
 |f+1,b,u=>
  if (u.step.look b).2.lg=true then (false,(u.step.look b).2)
  else if a=(u.step.look b).1 then (true,(u.step.look b).2)
  else Qjz (Qch a f) (Qaw u.cs (u.step.look b).1) ((u.step.look b).1+1) (u.step.look b).2
def Qmh (a b:Int) (u:HU):Bool×HU:=
 if (Qch a 401 b u).1=true∨(Qch a 401 b u).2.lg=true then (false,(Qch a 401 b u).2) else (true,(Qch a 401 b u).2.bind a b)
def QhC (g:Int→Int→HU→Bool×HU):Nat→Int→Int→HU→Bool×HU
 |0,_,_,u=>(true,u)
 |m+1,x,y,u=>if (g x y u).1=true then QhC g m (x+1) (y+1) (g x y u).2 else g x y u
def Qc4 (g:Int→Int→HU→Bool×HU) (a b:Int) (u:HU):Bool×HU:=
 if hat u.cs a=hat u.cs b then QhC g (Qaw u.cs a) (a+1) (b+1) u else (false,u)
def Qck : Nat → Int → Int → HU → Bool × HU
 |0,a,b,u=>(false,((u.step.look a).2.look b).2)
 |f+1,a,b,u=>
  if ((u.step.look a).2.look b).2.lg=true then (false,((u.step.look a).2.look b).2)
  else if QaY u.cs (u.step.look a).1=0 then
   if QaY u.cs ((u.step.look a).2.look b).1=0 then
    if (u.step.look a).1=((u.step.look a).2.look b).1 then (true,((u.step.look a).2.look b).2)
    else (true,((u.step.look a).2.look b).2.bind (max (u.step.look a).1 ((u.step.look a).2.look b).1) (min (u.step.look a).1 ((u.step.look a).2.look b).1))
   else Qmh (u.step.look a).1 ((u.step.look a).2.look b).1 ((u.step.look a).2.look b).2
  else if QaY u.cs ((u.step.look a).2.look b).1=0 then Qmh ((u.step.look a).2.look b).1 (u.step.look a).1 ((u.step.look a).2.look b).2
  else Qc4 (Qck f) (u.step.look a).1 ((u.step.look a).2.look b).1 ((u.step.look a).2.look b).2
def QX (h:HH) (a b:Int):HH×Bool×Int:=
 if QG h=false then (h,false,1)
 else if (Ql h.cs a&&Ql h.cs b)=false then (h,false,4)
 else if (Qck 401 a b ⟨h.cs,h.tr,0,false⟩).2.lg=true∨(Qck 401 a b ⟨h.cs,h.tr,0,false⟩).1=true∧65536<(Qck 401 a b ⟨h.cs,h.tr,0,false⟩).2.tr.length then (h,false,3)
 else if (Qck 401 a b ⟨h.cs,h.tr,0,false⟩).1=false then (h,false,0)
 else (⟨(Qck 401 a b ⟨h.cs,h.tr,0,false⟩).2.cs,(Qck 401 a b ⟨h.cs,h.tr,0,false⟩).2.tr⟩,true,0)
def hcs (c:HC):List Value:=[.int .i64 c.k,.int .i64 c.n,.string c.s]
def Qab:List HC→List Value
 |[]=>[]
 |c::r=> .int .i64 c.k:: .int .i64 c.n:: .string c.s::Qab r
def Qn (l:List Int):List Value:=l.map (Value.int .i64)
def QU (l:List Bool):List Value:=l.map Value.bool
theorem Qad:∀L:List HC,(Qab L).length=L.length*3
 |[]=>rfl
 |c::r=>by simp only [Qab,List.length_cons,Qad r];omega
theorem QbC:∀L R:List HC,Qab (L++R)=Qab L++Qab R
 |[],R=>rfl
 |c::r,R=>by simp only [Qab,List.cons_append,QbC r R]
theorem Qgg:∀L:List HC,(Qab L).all (·.oneCell')=true
 |[]=>rfl
 |c::r=>by simp only [Qab,List.all_cons,Qgg r];rfl
theorem Qhh (l:List Int):(Qn l).length=l.length*1:=by simp [Qn]
theorem QiD (l:List Bool):(QU l).length=l.length*1:=by simp [QU]
theorem QkI (l:List Int):(Qn l).all (·.oneCell')=true:=by simp [Qn,Value.oneCell']
theorem Qng:∀(L:List HC) (i:Nat) (x:HC),L[i]?=some x→(Qab L)[i*3]?=some (.int .i64 x.k)∧(Qab L)[i*3+1]?=some (.int .i64 x.n)∧(Qab L)[i*3+2]?=some (.string x.s)
 |[],i,x,h=>by simp at h
 |c::r,0,x,h=>by
  obtain rfl:c=x:=by simpa using h
  exact ⟨rfl,rfl,rfl⟩
 |c::r,i+1,x,h=>by
  have h':r[i]?=some x:=by simpa using h
  obtain ⟨h0,h1,h2⟩:=Qng r i x h';rw [show (i+1)*3=i*3+3 by omega];exact ⟨by simpa [Qab] using h0,by simpa [Qab] using h1,by simpa [Qab] using h2⟩
def Qz (sz:Nat) (xs:List Value) (A:Option Addr) (len cap:Nat) (w:World):Prop:=
 xs.length=len*sz∧len≤cap∧(0<len→∃b o,A=some ⟨b,o,none⟩∧∀j v,xs[j]?=some v→w.cell? ⟨b,o+j,none⟩=some v)
section
variable {sz len cap:Nat} {xs:List Value} {A:Option Addr} {w w':World}
theorem Qtj {a:Addr} {v:Value} (hc:w.cell? a=some v):a.block<w.heap.size:=by
 rcases Nat.lt_or_ge a.block w.heap.size with hl|hg
 ·exact hl
 ·simp [World.cell?,Array.getElem?_eq_none hg] at hc
theorem QoA {b o:Nat} {v:Value} (hc:w.cell? ⟨b,o,none⟩=some v) (h:w'.heap[b]?=w.heap[b]?):w'.cell? ⟨b,o,none⟩=some v:=by
 unfold World.cell? at hc⊢;rw [h];exact hc
theorem Qz.ext (h:Qz sz xs A len cap w) (hx:Ext [] w w'):Qz sz xs A len cap w':=
 ⟨h.1,h.2.1,fun hl=>by
  obtain ⟨b,o,e,hc⟩:=h.2.2 hl
  exact ⟨b,o,e,fun j v hj=>QoA (hc j v hj) (hx.block b (Qtj (hc j v hj)) Yd)⟩⟩
theorem Qz.nil_ (A:Option Addr) (c:Nat) (w:World):Qz sz [] A 0 c w:=⟨by simp,Nat.zero_le _,fun h=>absurd h (Nat.lt_irrefl _)⟩
theorem Qz.some_ (h:Qz sz xs A len cap w) (hl:0<len):∃b o,A=some ⟨b,o,none⟩:=by
 obtain ⟨b,o,e,_⟩:=h.2.2 hl;exact ⟨b,o,e⟩
theorem Qz.get {b o : Nat} (h : Qz sz xs (some ⟨b, o, none⟩) len cap w) {j : Nat} {v : Value} (hj : xs[j]? = some v) : w.cell? ⟨b, o + j, none⟩ = some v := by
 by_cases hl:0<len
 ·obtain ⟨b',o',e,hc⟩:=h.2.2 hl;simp only [Option.some.injEq,Addr.mk.injEq] at e;rw [e.1,e.2.1];exact hc j v hj
 ·have:xs=[]:=List.eq_nil_of_length_eq_zero (by
                            rw [h.1];have:len=0:=by omega
                            rw [this];simp)
  subst this;simp at hj
theorem Qz.own {b el:Nat} {sp:List Value} (ho:w.heap[b]?=some (.cells (xs++sp).toArray el)) (hx:xs.length=len*sz) (hc:len≤cap):Qz sz xs (some ⟨b,0,none⟩) len cap w:=
 ⟨hx,hc,fun _=>⟨b,0,rfl,fun j v hj=>by
  rw [Qv ho,Nat.zero_add,List.getElem?_append_left]
  ·exact hj
  ·rcases Nat.lt_or_ge j xs.length with h|h
   ·exact h
   ·rw [List.getElem?_eq_none h] at hj;cases hj⟩⟩
theorem Qz.take (h:Qz sz xs A len cap w) {m c':Nat} (hm:m≤len) (hc:m≤c'):Qz sz (xs.take (m*sz)) A m c' w:=by
 refine ⟨by rw [List.length_take,h.1];exact Nat.min_eq_left (Nat.mul_le_mul_right _ hm),hc,fun hl=> ?_⟩;obtain ⟨b,o,e,hg⟩:=h.2.2 Ya;refine ⟨b,o,e,fun j v hj=>hg j v ?_⟩;rw [List.getElem?_take] at hj;split at hj
 ·exact hj
 ·cases hj
end
section
variable {L:List HC} {cap:Nat} {A:Option Addr} {b o:Nat} {w w':World}
theorem Qz.cell (h:Qz 3 (Qab L) (some ⟨b,o,none⟩) L.length cap w) {i:Nat} {x:HC} (hi:L[i]?=some x):
  w.cell? ⟨b,o+i*3,none⟩=some (.int .i64 x.k)∧w.cell? ⟨b,o+i*3+1,none⟩=some (.int .i64 x.n)∧w.cell? ⟨b,o+i*3+2,none⟩=some (.string x.s):=by
 obtain ⟨h0,h1,h2⟩:=Qng L i x hi;refine ⟨h.get h0,?_,?_⟩
 ·rw [Nat.add_assoc];exact h.get h1
 ·rw [Nat.add_assoc];exact h.get h2
end
theorem Qz.int {l:List Int} {cap b o:Nat} {w:World} (h:Qz 1 (Qn l) (some ⟨b,o,none⟩) l.length cap w) {i:Nat} {x:Int} (hi:l[i]?=some x):w.cell? ⟨b,o+i*1,none⟩=some (.int .i64 x):=by
 rw [Nat.mul_one];exact h.get (by simp [Qn,hi])
theorem Qz.bool {l:List Bool} {cap b o:Nat} {w:World} (h:Qz 1 (QU l) (some ⟨b,o,none⟩) l.length cap w) {i:Nat} {x:Bool} (hi:l[i]?=some x):w.cell? ⟨b,o+i*1,none⟩=some (.bool x):=by
 rw [Nat.mul_one];exact h.get (by simp [QU,hi])
theorem St.flat {M:List Nat} {w0 w:World} {H:List (Nat×Obj)} {F:List (World→Prop)} {sz len cap:Nat} {xs:List Value} {A:Option Addr} (h:St [] w0 H F w) (hf:Qz sz xs A len cap w0):St [] w0 H (Qz sz xs A len cap::F) w:=h.base fun w' hx=>hf.ext hx
abbrev Qjm (A:Option Addr) (n c:Nat) (B:Option Addr) (m d:Nat):Value:= .agg #[.slice A n c,.slice B m d]
def HFl (h:HH) (A:Option Addr) (c:Nat) (B:Option Addr) (d:Nat) (w:World):Prop:=Qz 3 (Qab h.cs) A h.cs.length c w∧Qz 1 (Qn h.tr) B h.tr.length d w
abbrev hv (h:HH) (A:Option Addr) (c:Nat) (B:Option Addr) (d:Nat):Value:=Qjm A h.cs.length c B h.tr.length d
theorem HFl.ext {h:HH} {A B:Option Addr} {c d:Nat} {w w':World} (H:HFl h A c B d w) (hx:Ext [] w w'):HFl h A c B d w':=⟨H.1.ext hx,H.2.ext hx⟩
section
variable {P:Program} {Q:Exit→Act→World→Prop} {ops:Array Oper} {rest:List Oper} {n d:Nat} {e:Env} {w:World} {ty:TypeId} {pos:String} {after:Array Edge}
theorem QiK {j:Nat} (h:yd ops n e j=some undef):yielded ops (arr n e) j=none:=by
 unfold yd at h;unfold yielded
 cases ho:ops[j]? with
 |none=>rfl
 |some o=>
  rw [ho] at h;simp only [Option.bind_some] at h⊢
  cases hd:o.dst with
  |none=>rfl
  |some t=>
   rw [hd] at h;simp only [Option.bind_some] at h⊢;by_cases ht:t<n
   ·have h':Nat.blt t n=true:=by simpa [Nat.blt_eq] using ht
    rw [h',cond_true] at h;have hl:(arr n e)[t]?=some (lk e t):=by simp [arr,ht]
    rw [hl,Option.some.inj h];rfl
   ·have h':Nat.blt t n=false:=Qqu ht;rw [h',cond_false] at h;cases h
theorem QpY {op:Op} {j:Nat} {g:Bool} (hy:yd ops n e j=some undef) (hd:Nat.blt d n=true)
  (h:Lst P Q ops rest n ((d,undef)::e) w):Lst P Q ops (⟨some d,op,ty,pos,after,some (j,g)⟩::rest) n e w:=by
 unfold Lst at h⊢;unfold wpList;rw [if_neg (by simp [Region.wanted,act,QiK hy]),QdF hd];exact h
end
end Go.Proofs.YthliapbflkfdiacGreatDoor
