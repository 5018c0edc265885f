/- Steps of the proof. -/
import Derived.Test.YthliapbflkfdiacGreatDoorG20
namespace Go.Proofs.YthliapbflkfdiacGreatDoor
open Go.RowKit
set_option linter.unusedVariables false
set_option linter.unusedSimpArgs false
theorem Qon {n f f':Nat} {c:HC} (hf:f≤f') (h:Qaa n c f=true):Qaa n c f'=true:=by
 rcases QO h with ⟨k,a,b,s⟩|⟨k,a,s⟩|⟨k,s⟩|⟨k,a,b,d,s⟩
 ·unfold Qaa;rw [if_pos k];simp [a,b,s]
 ·unfold Qaa;rw [if_neg Ya,if_pos k];simp [a,s]
 ·unfold Qaa;rw [if_neg Ya,if_neg Ya,if_pos k];simp [s]
 ·unfold Qaa;rw [if_neg Ya,if_neg Ya,if_neg Ya,if_pos k];simp only [Bool.and_eq_true,decide_eq_true_eq,Bool.not_eq_true',decide_eq_false_iff_not];exact ⟨a,b,by omega,s⟩
theorem Qbk {n:Nat} {Y:List HC} (hY:QN n Y=true):∀{X:List HC},QN n X=true→QN n (X++Y)=true
 |[],_=>hY
 |c::r,h=>by
  simp only [QN,Bool.and_eq_true,List.cons_append] at h⊢;exact ⟨Qon Yd h.1,Qbk hY h.2⟩
theorem Qkq {s:ByteArray} (h:Qa5 s=true):s≠eS:=by
 intro e;subst e;exact absurd h Yg
theorem QmF {s:ByteArray} (h:s.toList=[]):s=eS:=by
 apply QgA.1;rw [h];kernel_rfl
theorem QdN {vars k n:Int} {s:ByteArray} {l:Nat} (h:Qai vars k n s l=true):(k=0∧0≤n∧n<vars∧s=eS∧l=0)∨(k=1∧n=0∧s≠eS∧l=0)∨(k=2∧s=eS∧l=0)∨(k=3∧n=0∧s≠eS∧1≤l∧l≤4):=by
 unfold Qai at h;split at h
 ·simp only [Bool.and_eq_true,decide_eq_true_eq] at h;exact .inl ⟨‹_›,h.1.1.1,h.1.1.2,QmF h.1.2,h.2⟩
 split at h
 ·simp only [Bool.and_eq_true,decide_eq_true_eq] at h;exact .inr (.inl ⟨‹_›,h.1.1,Qkq h.1.2,h.2⟩)
 split at h
 ·simp only [Bool.and_eq_true,decide_eq_true_eq] at h;exact .inr (.inr (.inl ⟨‹_›,QmF h.1.2,h.2⟩))
 split at h
 ·simp only [Bool.and_eq_true,decide_eq_true_eq] at h;exact .inr (.inr (.inr ⟨‹_›,h.1.1.1.1,Qkq h.1.1.1.2,h.1.2,h.2⟩))
 ·cases h
theorem QbI {vars k n:Int} {s:ByteArray} {ar r:Ts} (h:(Ts.cons k n s ar r).good vars=true):Qai vars k n s ar.length=true∧ar.good vars=true∧r.good vars=true:=by
 simp only [Ts.good,Bool.and_eq_true] at h;exact ⟨h.1.1,h.1.2,h.2⟩
theorem Ts.good_ap (v:Int) (D R:Ts):(D.app R).good v=(D.good v&&R.good v):=by
 induction D with
 |nil=>rfl
 |cons k n b ar r _ ih=>simp only [Ts.app,Ts.good,ih,Bool.and_assoc]
theorem Qhm {n f:Nat} {i:Int} (h0:0≤i) (h:i<n):Qaa n ⟨0,i,eS⟩ f=true:=by unfold Qaa;simp [h,h0]
theorem Qiw {n f:Nat} {s:ByteArray} (h:s≠eS):Qaa n ⟨1,0,s⟩ f=true:=by unfold Qaa;simp [h]
theorem QkQ {n f:Nat} {i:Int}:Qaa n ⟨2,i,eS⟩ f=true:=by unfold Qaa;simp
theorem Qhn {n f l:Nat} {s:ByteArray} (h:s≠eS) (h1:1≤l) (h2:l≤4) (h3:l≤f):Qaa n ⟨3,(l:Nat),s⟩ f=true:=by
 unfold Qaa;simp [h];omega
theorem Qp9 {vars:Int} {all:Nat} (hv:vars≤all) (T:Ts):∀p,T.good vars=true→p+(Qbp T p).2.length≤all→QN all (Qbp T p).1=true∧QN all (Qbp T p).2=true:=by
 induction T with
 |nil=>intro p _ _;exact ⟨rfl,rfl⟩
 |cons k n s ar r iha ihr=>
  intro p hg hp;obtain ⟨hn,ha,hr⟩:=QbI hg;rcases QdN hn with ⟨rfl,h0,h1,h2,h3⟩|⟨rfl,h0,h1,h2⟩|⟨rfl,h0,h1⟩|⟨rfl,h0,h1,h2,h3⟩
  ·rw [Qbj _ _ _ _ _ Yg] at hp⊢;obtain ⟨i1,i2⟩:=ihr p hr hp;refine ⟨?_,i2⟩;simp only [QN,Bool.and_eq_true];exact ⟨Qhm h0 Ya,i1⟩
  ·rw [Qbj _ _ _ _ _ Yg] at hp⊢;obtain ⟨i1,i2⟩:=ihr p hr hp;refine ⟨?_,i2⟩;simp only [QN,Bool.and_eq_true];exact ⟨Qiw h1,i1⟩
  ·rw [Qbj _ _ _ _ _ Yg] at hp⊢;obtain ⟨i1,i2⟩:=ihr p hr hp;refine ⟨?_,i2⟩;simp only [QN,Bool.and_eq_true];exact ⟨QkQ,i1⟩
  ·rw [Qcc] at hp⊢;have hls:=QdT s ar p;simp only [List.length_append] at hp;obtain ⟨a1,a2⟩:=iha (p+1+ar.length) ha Ya;obtain ⟨i1,i2⟩:=ihr (p+(QkE s ar p).length) hr Ya;refine ⟨?_,Qbk i2 ?_⟩
   ·simp only [QN,Bool.and_eq_true];exact ⟨Qhm Ya Ya,i1⟩
   ·unfold QkE;simp only [QN,Bool.and_eq_true];exact ⟨Qhn h1 h2 h3 (by rw [List.length_append,QbV];omega),Qbk a2 a1⟩
theorem QkG {vars k n:Int} {s:ByteArray} {ar:Ts} {all p:Nat} (hv:vars≤all) (h:gB vars k n s ar=true) (hp:p+(QbR k n s ar p).length≤all):QN all (QbR k n s ar p)=true:=by
 simp only [gB,Qfx,Bool.and_eq_true,Bool.or_eq_true,decide_eq_true_eq] at h;obtain ⟨hn,ha,_⟩:=QbI h.1.2;rcases QdN hn with ⟨rfl,_⟩|⟨rfl,h0,h1,h2⟩|⟨rfl,_⟩|⟨rfl,h0,h1,h2,h3⟩
 ·rcases h.1.1 with h|h<;>omega
 ·unfold QbR;rw [if_neg Yg];simp only [QN,Bool.and_eq_true,and_true];exact Qiw h1
 ·rcases h.1.1 with h|h<;>omega
 ·unfold QbR at hp⊢;rw [if_pos rfl] at hp⊢;have hls:=QdT s ar p;obtain ⟨a1,a2⟩:=Qp9 hv ar (p+1+ar.length) ha Ya;unfold QkE;simp only [QN,Bool.and_eq_true];exact ⟨Qhn h1 h2 h3 (by rw [List.length_append,QbV];omega),Qbk a2 a1⟩
theorem QkF {vars:Int} {all:Nat} (hv:vars≤all) (T:Ts):∀p,T.goals vars=true→p+(QaC T p).1.length≤all→QN all (QaC T p).1=true:=by
 induction T with
 |nil=>intro p _ _;rfl
 |cons k n s ar r _ ihr=>
  intro p hg hp;simp only [Ts.goals,Bool.and_eq_true] at hg;simp only [QaC,List.length_append] at hp⊢;exact Qbk (ihr _ hg.2 Ya) (QkG hv hg.1 Ya)
theorem Qfc {all:Nat}:∀m i,i+m≤all→QN all (Qcu m i)=true
 |0,i,_=>rfl
 |m+1,i,h=>by
  simp only [Qcu,QN,Bool.and_eq_true];exact ⟨Qhm Ya Ya,Qfc m (i+1) Ya⟩
theorem QfV {c:Cl} (h:cB c=true):0≤c.vars∧c.vars≤8∧c.bd.length≤5∧c.bd.goals c.vars=true∧gB c.vars c.k c.n c.s c.hd=true:=by
 simp only [cB,qB,Bool.and_eq_true,decide_eq_true_eq] at h;exact ⟨h.1.1.1.1.1,h.1.1.1.1.2,h.1.1.1.2,h.1.1.2,h.1.2⟩
theorem Qnl {vars k n:Int} {s:ByteArray} {ar:Ts} (h:gB vars k n s ar=true):ar.nodes+1≤24:=by
 simp only [gB,Bool.and_eq_true,decide_eq_true_eq] at h;exact h.2
theorem QcP {c:Cl} (h:cB c=true):(Qt c).length≤300:=by
 obtain ⟨h0,h1,h2,h3,h4⟩:=QfV h;have h5:=Qnl h4;have h6:=Ts.goals_nodes _ _ h3;have h7:=QlY c.k c.n c.s c.hd c.vars.toNat;have h8:=Qje c.bd (c.vars.toNat+(QbR c.k c.n c.s c.hd c.vars.toNat).length);simp only [Qt,List.length_append,Qae];omega
theorem Qhv {c:Cl} (h:cB c=true):Q9 (Qt c)=true:=by
 obtain ⟨h0,h1,h2,h3,h4⟩:=QfV h;have hl:=QcP h;unfold Q9;simp only [Bool.and_eq_true,decide_eq_true_eq];refine ⟨by omega,?_⟩
 have he:(Qt c).length=c.vars.toNat+((QbR c.k c.n c.s c.hd c.vars.toNat).length+(QaC c.bd (c.vars.toNat+(QbR c.k c.n c.s c.hd c.vars.toNat).length)).1.length):=by
  simp only [Qt,List.length_append,Qae]
 unfold Qt;refine Qbk (Qbk (QkF (vars:=c.vars) Yao _ _ h3 Yao) (QkG (vars:=c.vars) Yao h4 Yao)) (Qfc _ _ Yao)
def QjM (L:List HC) (base:Nat) (q:Nat) (X:List HC):Prop:=∀i c,X[i]?=some c→hat L ((base+(q+i):Nat):Int)=some (Q0 base c)
theorem QjM.app {L:List HC} {base q:Nat} {X Y:List HC} (h:QjM L base q (X++Y)):QjM L base q X∧QjM L base (q+X.length) Y:=by
 refine ⟨fun i c hi=>h i c ?_,fun i c hi=> ?_⟩
 ·rw [List.getElem?_append_left]
  ·exact hi
  ·rcases Nat.lt_or_ge i X.length with hl|hl
   ·exact hl
   ·rw [List.getElem?_eq_none hl] at hi;cases hi
 ·have:=h (X.length+i) c (by rw [List.getElem?_append_right Ya];simpa using hi);rw [show q+X.length+i=q+(X.length+i) by omega];exact this
theorem QjM.head {L:List HC} {base q:Nat} {c:HC} {X:List HC} (h:QjM L base q (c::X)):hat L ((base+q:Nat):Int)=some (Q0 base c)∧QjM L base (q+1) X:=by
 refine ⟨h 0 c rfl,fun i d hi=> ?_⟩;rw [show q+1+i=q+(i+1) by omega];exact h (i+1) d (by simpa using hi)
def up (base:Nat) (n:Int):Int:=n+base
theorem QdO {T:Ts} (h:T.length=0):T= .nil:=Ts.nil_of_length h
theorem QeQ (h:HH) (B:List HC):QjM (h.cs++B.map (Q0 h.cs.length)) h.cs.length 0 B:=by
 intro i c hi;refine Qa7.2 ⟨by omega,?_,?_⟩
 ·have:i<B.length:=by
   rcases Nat.lt_or_ge i B.length with hl|hl
   ·exact hl
   ·rw [List.getElem?_eq_none hl] at hi;cases hi
  simp;omega
 ·rw [show ((h.cs.length+(0+i):Nat):Int).toNat=h.cs.length+i by omega,List.getElem?_append_right Ya];simp [hi]
theorem Qom {n m f:Nat} {c:HC} (hn:n≤m) (h:Qaa n c f=true):Qaa m c f=true:=by
 rcases QO h with ⟨k,a,b,s⟩|⟨k,a,s⟩|⟨k,s⟩|⟨k,a,b,d,s⟩
 ·unfold Qaa;rw [if_pos k];simp [a,s];omega
 ·unfold Qaa;rw [if_neg Ya,if_pos k];simp [a,s]
 ·unfold Qaa;rw [if_neg Ya,if_neg Ya,if_pos k];simp [s]
 ·unfold Qaa;rw [if_neg Ya,if_neg Ya,if_neg Ya,if_pos k];simp [a,b,d,s]
theorem Qiu {n m:Nat} (hn:n≤m):∀{L:List HC},QN n L=true→QN m L=true
 |[],_=>rfl
 |c::r,h=>by
  simp only [QN,Bool.and_eq_true] at h⊢;exact ⟨Qom hn h.1,Qiu hn h.2⟩
theorem Ql6 {n m f base:Nat} {c:HC} (hn:base+n≤m) (h:Qaa n c f=true):Qaa m (Q0 base c) f=true:=by
 unfold Q0;split
 ·rename_i h0;rcases QO h with ⟨k,a,b,s⟩|⟨k,a,s⟩|⟨k,s⟩|⟨k,a,b,d,s⟩
  ·unfold Qaa;dsimp only;rw [if_pos h0];simp [s];omega
  ·omega
  ·omega
  ·omega
 ·rename_i h0;rcases QO h with ⟨k,a,b,s⟩|⟨k,a,s⟩|⟨k,s⟩|⟨k,a,b,d,s⟩
  ·omega
  ·unfold Qaa;rw [if_neg Ya,if_pos k];simp [a,s]
  ·unfold Qaa;rw [if_neg Ya,if_neg Ya,if_pos k];simp [s]
  ·unfold Qaa;rw [if_neg Ya,if_neg Ya,if_neg Ya,if_pos k];simp [a,b,d,s]
theorem Qhl {n m base:Nat} (hn:base+n≤m):∀{L:List HC},QN n L=true→QN m (L.map (Q0 base))=true
 |[],_=>rfl
 |c::r,h=>by
  simp only [QN,Bool.and_eq_true,List.map_cons,List.length_map] at h⊢;exact ⟨Ql6 hn h.1,Qhl hn h.2⟩
theorem Qfp {h:HH} {K:List HC} (hg:QG h=true) (hk:Q9 K=true) (hl:h.cs.length+K.length≤65536):QG ⟨h.cs++K.map (Q0 h.cs.length),h.tr⟩=true:=by
 simp only [QG,Q9,QbJ,Bool.and_eq_true,decide_eq_true_eq,List.length_append,List.length_map] at hg hk⊢;obtain ⟨⟨h1,h2⟩,h3,h4⟩:=hg;refine ⟨⟨hl,Qbk (Qhl Ya hk.2) (Qiu Ya h2)⟩,h3,?_⟩;rw [List.all_eq_true] at h4⊢;intro a ha;have:=h4 a ha;unfold Qat at this⊢
 cases hq:hat h.cs a with
 |none=>rw [hq] at this;cases this
 |some x=>
  rw [hq] at this;obtain ⟨q0,q1,q2⟩:=Qa7.1 hq;have:hat (h.cs++K.map (Q0 h.cs.length)) a=some x:=Qa7.2 ⟨q0,by simp;omega,by rw [List.getElem?_append_left Ya];exact q2⟩;rw [this];assumption
theorem QlW {h:HH} {K:List HC} (hg:QG h=true) (hk:Q9 K=true) (hl:h.cs.length+K.length≤65536):Q8 h K=(⟨h.cs++K.map (Q0 h.cs.length),h.tr⟩,h.cs.length,0):=by
 unfold Q8;rw [hg,hk,if_neg Yg,if_neg Ya]
theorem Qhj {L X:List HC} {a:Int} {c:HC} (h:hat L a=some c):hat (L++X) a=some c:=by
 obtain ⟨h0,h1,h2⟩:=Qa7.1 h;exact Qa7.2 ⟨h0,by simp;omega,by rw [List.getElem?_append_left Ya];exact h2⟩
theorem Qqk {L X:List HC} {n:Nat} {a x:Int} (h:Qcg L n a x):Qcg (L++X) n a x:=by
 induction h with
 |here h0 h1=>exact .here (Qhj h0) h1
 |there h0 h1 h2 _ ih=>exact .there (Qhj h0) h1 h2 ih
theorem Qqm {L X:List HC} {a x:Int} (h:End L a x):End (L++X) a x:=by
 obtain ⟨n,h⟩:=h;exact ⟨n,Qqk h⟩
theorem QnG {L X:List HC} {a:Int} (h:Ql L a=true):Ql (L++X) a=true:=by
 obtain ⟨c,hc⟩:=QdY.1 h;exact QdY.2 ⟨c,Qhj hc⟩
theorem QkK {h:HH} (ho:HOk h) {a:Int} (ha:Ql h.cs a=true) (X:List HC) (T:List Int):Q2 ⟨h.cs++X,T⟩ a=Q2 h a:=by
 obtain ⟨x,c,h1,h2,h3,h4⟩:=ho.view ha;rw [h4,Qaj (h:=⟨h.cs++X,T⟩) (Qqm h1) (Qhj h2)]
def QjN (L:List HC) (base:Nat) (V:Int):Ts→Int→Prop
 | .nil,_=>True
 | .cons k n s ar r,a=>(∃x c,End L a x∧hat L x=some c∧((k=0∧0≤n∧n<V∧s=eS∧ar= .nil∧c.k=0∧x=n+base)∨(k≠0∧c.k=k∧ctl c=n∧c.s=s∧(QI c).toNat=ar.length∧QjN L base V ar (x+1))))∧QjN L base V r (a+1)
theorem Qa2 {L:List HC} {a:Int} {c:HC} (h:hat L a=some c) (hc:¬(c.k=0∧c.n≠a)):End L a a:=⟨0,.here h hc⟩
theorem Qql {L:List HC} {a:Int} {c d:HC} (h:hat L a=some c) (hk:c.k=0) (hn:c.n≠a) (h2:hat L c.n=some d) (hd:¬(d.k=0∧d.n≠c.n)):End L a c.n:=⟨1,.there h hk hn (.here h2 hd)⟩
theorem Qs8 {L:List HC} {base:Nat} {vars:Int} (hv:∀v:Int,0≤v→v<vars→hat L (v+base)=some ⟨0,v+base,eS⟩) (T:Ts):∀(a p:Nat),T.good vars=true→vars≤a→vars≤p→a+T.length≤p→QjM L base a (Qbp T p).1→QjM L base p (Qbp T p).2→
  QjN L base vars T ((base+a:Nat):Int)∧(∀i,i<(Qbp T p).1.length→∃x,End L ((base+(a+i):Nat):Int) x)∧(∀i,i<(Qbp T p).2.length→∃x,End L ((base+(p+i):Nat):Int) x):=by
 induction T with
 |nil=>intro a p _ _ _ _ _ _;exact ⟨trivial,fun i hi=>absurd hi (by simp [Qbp]),fun i hi=>absurd hi (by simp [Qbp])⟩
 |cons k n s ar r iha ihr=>
  intro a p hg hav hpv hap hs1 hs2;obtain ⟨hn,ha,hr⟩:=QbI hg;simp only [Ts.length] at hap
  have step:∀(X:List HC) (c:HC) (x:Int),End L ((base+a:Nat):Int) x→(∀i,i<X.length→∃x,End L ((base+(a+1+i):Nat):Int) x)→∀i,i<(c::X).length→∃x,End L ((base+(a+i):Nat):Int) x:=by
   intro X c x h0 h1 i hi
   cases i with
   |zero=>exact ⟨x,h0⟩
   |succ i=>
    obtain ⟨y,hy⟩:=h1 i (by simpa using hi);rw [show a+(i+1)=a+1+i by omega];exact ⟨y,hy⟩
  rcases QdN hn with ⟨rfl,h0,h1,h2,h3⟩|⟨rfl,h0,h1,h2⟩|⟨rfl,h0,h1⟩|⟨rfl,h0,h1,h2,h3⟩
  ·rw [Qbj _ _ _ _ _ Yg] at hs1 hs2⊢;obtain ⟨q1,q2⟩:=hs1.head;obtain rfl:=QdO h3;subst h2;have e1:hat L ((base+a:Nat):Int)=some ⟨0,n+base,eS⟩:=q1;have e2:End L ((base+a:Nat):Int) (n+base):=Qql (c:=⟨0,n+base,eS⟩) e1 rfl (by show n+(base:Int)≠_;omega) (hv n h0 h1) Yd;obtain ⟨i1,i2,i3⟩:=ihr (a+1) p hr Ya hpv Ya q2 hs2;rw [show ((base+(a+1):Nat):Int)=((base+a:Nat):Int)+1 by omega] at i1;exact ⟨⟨⟨n+base,_,e2,hv n h0 h1,.inl ⟨rfl,h0,h1,rfl,rfl,rfl,rfl⟩⟩,i1⟩,step _ _ _ e2 i2,i3⟩
  ·rw [Qbj _ _ _ _ _ Yg] at hs1 hs2⊢;obtain ⟨q1,q2⟩:=hs1.head;obtain rfl:=QdO h2;subst h0;have e1:hat L ((base+a:Nat):Int)=some ⟨1,0,s⟩:=q1;have e2:=Qa2 e1 Yd;obtain ⟨i1,i2,i3⟩:=ihr (a+1) p hr Ya hpv Ya q2 hs2;rw [show ((base+(a+1):Nat):Int)=((base+a:Nat):Int)+1 by omega] at i1;exact ⟨⟨⟨_,_,e2,e1,.inr ⟨by decide,rfl,rfl,rfl,rfl,trivial⟩⟩,i1⟩,step _ _ _ e2 i2,i3⟩
  ·rw [Qbj _ _ _ _ _ Yg] at hs1 hs2⊢;obtain ⟨q1,q2⟩:=hs1.head;obtain rfl:=QdO h1;subst h0;have e1:hat L ((base+a:Nat):Int)=some ⟨2,n,eS⟩:=q1;have e2:=Qa2 e1 Yd;obtain ⟨i1,i2,i3⟩:=ihr (a+1) p hr Ya hpv Ya q2 hs2;rw [show ((base+(a+1):Nat):Int)=((base+a:Nat):Int)+1 by omega] at i1;exact ⟨⟨⟨_,_,e2,e1,.inr ⟨by decide,rfl,rfl,rfl,rfl,trivial⟩⟩,i1⟩,step _ _ _ e2 i2,i3⟩
  ·rw [Qcc] at hs1 hs2⊢;obtain ⟨q1,q2⟩:=hs1.head;obtain ⟨q3,q4⟩:=QjM.app (X:=QkE s ar p) hs2;obtain ⟨q5,q6⟩:=QjM.head (c:=⟨3,(ar.length:Nat),s⟩) q3;obtain ⟨q7,q8⟩:=q6.app;rw [QbV] at q8;subst h0;have e1:hat L ((base+a:Nat):Int)=some ⟨0,((p:Nat):Int)+base,eS⟩:=q1
   have e5:hat L (((p:Nat):Int)+base)=some ⟨3,(ar.length:Nat),s⟩:=by
    rw [show ((p:Nat):Int)+base=((base+p:Nat):Int) by omega];exact q5
   have e2:End L ((base+a:Nat):Int) (((p:Nat):Int)+base):=Qql (c:=⟨0,((p:Nat):Int)+base,eS⟩) e1 rfl (by show ((p:Nat):Int)+(base:Int)≠_;omega) e5 Yd;obtain ⟨a1,a2,a3⟩:=iha (p+1) (p+1+ar.length) ha Ya Ya Ya q7 q8;obtain ⟨i1,i2,i3⟩:=ihr (a+1) (p+(QkE s ar p).length) hr Ya Ya Ya q2 q4;rw [show ((base+(a+1):Nat):Int)=((base+a:Nat):Int)+1 by omega] at i1;rw [show ((base+(p+1):Nat):Int)=((p:Nat):Int)+base+1 by omega] at a1;refine ⟨⟨⟨_,_,e2,e5,.inr ⟨by decide,rfl,rfl,rfl,by simp [QI],a1⟩⟩,i1⟩,step _ _ _ e2 i2,fun i hi=> ?_⟩;rw [QbV] at a2;have hls:=QdT s ar p;rw [List.length_append] at hi;by_cases c0:i=0
   ·subst c0;have q5':hat L ((base+p:Nat):Int)=some ⟨3,(ar.length:Nat),s⟩:=q5;exact ⟨_,Qa2 q5' Yd⟩
   by_cases c1:i-1<ar.length
   ·obtain ⟨x,hx⟩:=a2 (i-1) c1;rw [show p+i=p+1+(i-1) by omega];exact ⟨x,hx⟩
   by_cases c2:i<(QkE s ar p).length
   ·obtain ⟨x,hx⟩:=a3 (i-1-ar.length) Ya;rw [show p+i=p+1+ar.length+(i-1-ar.length) by omega];exact ⟨x,hx⟩
   ·obtain ⟨x,hx⟩:=i3 (i-(QkE s ar p).length) Ya;rw [show p+i=p+(QkE s ar p).length+(i-(QkE s ar p).length) by omega];exact ⟨x,hx⟩
theorem Qnb {L:List HC} {base:Nat} {vars:Int} (hv:∀v:Int,0≤v→v<vars→hat L (v+base)=some ⟨0,v+base,eS⟩) {k n:Int} {s:ByteArray} {ar:Ts} {p:Nat} (h:gB vars k n s ar=true) (hpv:vars≤p) (hs:QjM L base p (QbR k n s ar p)):
  QjN L base vars (.cons k n s ar .nil) ((base+p:Nat):Int)∧(∀i,i<(QbR k n s ar p).length→∃x,End L ((base+(p+i):Nat):Int) x)∧∃c,hat L ((base+p:Nat):Int)=some c∧(c.k=1∨c.k=3):=by
 simp only [gB,Qfx,Bool.and_eq_true,Bool.or_eq_true,decide_eq_true_eq] at h;obtain ⟨hn,ha,_⟩:=QbI h.1.2;rcases QdN hn with ⟨rfl,_⟩|⟨rfl,h0,h1,h2⟩|⟨rfl,_⟩|⟨rfl,h0,h1,h2,h3⟩
 ·rcases h.1.1 with h|h<;>omega
 ·obtain rfl:=QdO h2;subst h0;unfold QbR at hs⊢;rw [if_neg Yg] at hs⊢;have e1:hat L ((base+p:Nat):Int)=some ⟨1,0,s⟩:=hs.head.1;have e2:=Qa2 e1 Yd;refine ⟨⟨⟨_,_,e2,e1,.inr ⟨by decide,rfl,rfl,rfl,rfl,trivial⟩⟩,trivial⟩,fun i hi=> ?_,_,e1,.inl rfl⟩;obtain rfl:i=0:=by simpa using hi
  exact ⟨_,e2⟩
 ·rcases h.1.1 with h|h<;>omega
 ·subst h0;unfold QbR at hs⊢;rw [if_pos rfl] at hs⊢;obtain ⟨q5,q6⟩:=QjM.head (c:=⟨3,(ar.length:Nat),s⟩) hs;obtain ⟨q7,q8⟩:=q6.app;rw [QbV] at q8;have e1:hat L ((base+p:Nat):Int)=some ⟨3,(ar.length:Nat),s⟩:=q5;have e2:=Qa2 e1 Yd;obtain ⟨a1,a2,a3⟩:=Qs8 hv ar (p+1) (p+1+ar.length) ha Ya Ya Ya q7 q8;rw [show ((base+(p+1):Nat):Int)=((base+p:Nat):Int)+1 by omega] at a1;refine ⟨⟨⟨_,_,e2,e1,.inr ⟨by decide,rfl,rfl,rfl,by simp [QI],a1⟩⟩,trivial⟩,fun i hi=> ?_,_,e1,.inr rfl⟩;rw [QbV] at a2;have hls:=QdT s ar p;by_cases c0:i=0
  ·subst c0;exact ⟨_,e2⟩
  by_cases c1:i-1<ar.length
  ·obtain ⟨x,hx⟩:=a2 (i-1) c1;rw [show p+i=p+1+(i-1) by omega];exact ⟨x,hx⟩
  ·obtain ⟨x,hx⟩:=a3 (i-1-ar.length) Ya;rw [show p+i=p+1+ar.length+(i-1-ar.length) by omega];exact ⟨x,hx⟩
def QtV (L:List HC) (base:Nat) (V:Int):Ts→List Int→Prop
 | .nil,l=>l=[]
 | .cons k n s ar r,l=>∃x q,l=x::q∧QjN L base V (.cons k n s ar .nil) (base+x)∧(∃c,hat L (base+x)=some c∧(c.k=1∨c.k=3))∧QtV L base V r q
theorem Qm7 {L:List HC} {base:Nat} {vars:Int} (hv:∀v:Int,0≤v→v<vars→hat L (v+base)=some ⟨0,v+base,eS⟩) (T:Ts):∀p:Nat,T.goals vars=true→vars≤p→QjM L base p (QaC T p).1→QtV L base vars T (QaC T p).2∧(∀i,i<(QaC T p).1.length→∃x,End L ((base+(p+i):Nat):Int) x):=by
 induction T with
 |nil=>intro p _ _ _;exact ⟨rfl,fun i hi=>absurd hi (by simp [QaC])⟩
 |cons k n s ar r _ ih=>
  intro p hg hpv hs;simp only [Ts.goals,Bool.and_eq_true] at hg;simp only [QaC] at hs⊢;obtain ⟨h1,h2⟩:=hs.app;obtain ⟨a1,a2,a3⟩:=Qnb hv hg.1 hpv h1;obtain ⟨b1,b2⟩:=ih _ hg.2 Ya h2;refine ⟨⟨_,_,rfl,by rw [show (base:Int)+(p:Nat)=((base+p:Nat):Int) by omega];exact a1,by rw [show (base:Int)+(p:Nat)=((base+p:Nat):Int) by omega];exact a3,b1⟩,fun i hi=> ?_⟩;rw [List.length_append] at hi;by_cases c:i<(QbR k n s ar p).length
  ·exact a2 i c
  ·obtain ⟨x,hx⟩:=b2 (i-(QbR k n s ar p).length) Ya;rw [show p+i=p+(QbR k n s ar p).length+(i-(QbR k n s ar p).length) by omega];exact ⟨x,hx⟩
theorem Qmt {L:List HC} {base V:Nat} (hs:QjM L base 0 (QbM V)):∀v:Int,0≤v→v<V→hat L (v+base)=some ⟨0,v+base,eS⟩:=by
 intro v v0 v1;have:=hs v.toNat _ (QoP Ya);rw [show ((base+(0+v.toNat):Nat):Int)=v+base by omega] at this;rw [this];unfold Q0;rw [if_pos rfl];dsimp only;rw [show ((v.toNat:Nat):Int)=v by omega]
structure Blk (h:HH) (B:List HC) (h':HH):Prop where
 eq:h'=⟨h.cs++B.map (Q0 h.cs.length),h.tr⟩
 gd:QN h'.cs.length h'.cs=true
 ends:∀i,i<B.length→∃x,End h'.cs ((h.cs.length+i:Nat):Int) x
theorem Ql5 {L X:List HC} {a:Int} (h:Qat L a=true):Qat (L++X) a=true:=by
 unfold Qat at h⊢
 cases hc:hat L a with
 |none=>rw [hc] at h;cases h
 |some c=>rw [hc] at h;rw [Qhj hc];exact h
theorem Blk.ok {h h':HH} {B:List HC} (hb:Blk h B h') (ho:HOk h):HOk h':=by
 obtain ⟨rfl,gd,ends⟩:=hb;refine ⟨gd,fun a ha=> ?_,fun a ha=>Ql5 (ho.tr a ha)⟩;obtain ⟨a0,a1⟩:=Qm.1 ha;by_cases hl:a<h.cs.length
 ·obtain ⟨x,hx⟩:=ho.ends a (Qm.2 ⟨a0,hl⟩);exact ⟨x,Qqm hx⟩
 ·obtain ⟨x,hx⟩:=ends (a.toNat-h.cs.length) (by simp at a1;omega);rw [show ((h.cs.length+(a.toNat-h.cs.length):Nat):Int)=a by omega] at hx;exact ⟨x,hx⟩
theorem Qox {h:HH} {c:Cl} (hg:QG h=true) (hc:cB c=true) (hl:h.cs.length+300≤65536):
  Q8 h (Qt c)=(⟨h.cs++(Qt c).map (Q0 h.cs.length),h.tr⟩,h.cs.length,0)∧QG ⟨h.cs++(Qt c).map (Q0 h.cs.length),h.tr⟩=true∧Blk h (Qt c) ⟨h.cs++(Qt c).map (Q0 h.cs.length),h.tr⟩∧
  QjN (h.cs++(Qt c).map (Q0 h.cs.length)) h.cs.length c.vars (.cons c.k c.n c.s c.hd .nil) (h.cs.length+c.vars)∧QtV (h.cs++(Qt c).map (Q0 h.cs.length)) h.cs.length c.vars c.bd (Qar c):=by
 obtain ⟨h0,h1,h2,h3,h4⟩:=QfV hc;have hbl:=QcP hc;have hX:=Qfp hg (Qhv hc) Ya;have hs:=QeQ h (Qt c)
 have he:(Qt c).length=c.vars.toNat+((QbR c.k c.n c.s c.hd c.vars.toNat).length+(QaC c.bd (c.vars.toNat+(QbR c.k c.n c.s c.hd c.vars.toNat).length)).1.length):=by
  simp only [Qt,List.length_append,Qae]
 obtain ⟨s1,s2⟩:=QjM.app (X:=QbM c.vars.toNat) hs;obtain ⟨s3,s4⟩:=s2.app;rw [Qae,Nat.zero_add] at s3 s4;have hv0:=Qmt s1;have hv:∀v:Int,0≤v→v<c.vars→hat (h.cs++(Qt c).map (Q0 h.cs.length)) (v+h.cs.length)=some ⟨0,v+h.cs.length,eS⟩:=fun v v0 v1=>hv0 v v0 Ya;obtain ⟨t1,t2,_⟩:=Qnb hv h4 (p:=c.vars.toNat) Ya s3;obtain ⟨u1,u2⟩:=Qm7 hv c.bd _ h3 Ya s4;refine ⟨QlW hg (Qhv hc) Ya,hX,⟨rfl,?_,fun i hi=> ?_⟩,?_,u1⟩
 ·simp only [QG,Q9,Bool.and_eq_true] at hX;exact hX.1.2
 ·rw [he] at hi;by_cases c0:i<c.vars.toNat
  ·have:=hv i Ya Ya;rw [show (i:Int)+h.cs.length=((h.cs.length+i:Nat):Int) by omega] at this;exact ⟨_,Qa2 this Yd⟩
  by_cases c1:i-c.vars.toNat<(QbR c.k c.n c.s c.hd c.vars.toNat).length
  ·obtain ⟨x,hx⟩:=t2 _ c1;rw [show c.vars.toNat+(i-c.vars.toNat)=i by omega] at hx;exact ⟨x,hx⟩
  ·obtain ⟨x,hx⟩:=u2 (i-c.vars.toNat-(QbR c.k c.n c.s c.hd c.vars.toNat).length) Ya;rw [show c.vars.toNat+(QbR c.k c.n c.s c.hd c.vars.toNat).length+(i-c.vars.toNat-(QbR c.k c.n c.s c.hd c.vars.toNat).length)=i by omega] at hx;exact ⟨x,hx⟩
 ·rw [show (h.cs.length:Int)+c.vars=((h.cs.length+c.vars.toNat:Nat):Int) by omega];exact t1
theorem Qpz {q:Ts} {v:Nat} (hq:qB (v:Nat) q=true):
  Q8 ⟨[],[]⟩ (Qaf (v:Nat) q)=(⟨(Qaf (v:Nat) q).map (Q0 0),[]⟩,0,0)∧QG ⟨(Qaf (v:Nat) q).map (Q0 0),[]⟩=true∧HOk ⟨(Qaf (v:Nat) q).map (Q0 0),[]⟩∧((Qaf (v:Nat) q).map (Q0 0)).length≤300∧
  (∀x:Int,0≤x→x<v→hat ((Qaf (v:Nat) q).map (Q0 0)) x=some ⟨0,x,eS⟩)∧QtV ((Qaf (v:Nat) q).map (Q0 0)) 0 (v:Nat) q (Qa9 (v:Nat) q):=by
 simp only [qB,Bool.and_eq_true,decide_eq_true_eq] at hq;obtain ⟨⟨⟨v0,v1⟩,v2⟩,v3⟩:=hq;have hn:=Ts.goals_nodes _ _ v3;have hll:=Qje q v;have he:(Qaf (v:Nat) q).length=v+(QaC q v).1.length:=by simp [Qaf,Qae]
 have hs:=QeQ ⟨[],[]⟩ (Qaf (v:Nat) q);simp only [List.length_nil,List.nil_append] at hs;have hs':=hs;unfold Qaf at hs';rw [Int.toNat_natCast] at hs';obtain ⟨s1,s2⟩:=QjM.app (X:=QbM v) hs';rw [Qae,Nat.zero_add] at s2;have hv:=Qmt s1;obtain ⟨u1,u2⟩:=Qm7 hv q v v3 Ya s2
 have hgd:Q9 (Qaf (v:Nat) q)=true:=by
  unfold Q9;simp only [Bool.and_eq_true,decide_eq_true_eq];refine ⟨by omega,?_⟩;have:QN (Qaf (v:Nat) q).length (QbM v++(QaC q v).1)=true:=Qbk (QkF (vars:=v) Ya q v v3 Ya) (Qfc _ _ Ya);unfold Qaf at this⊢;rw [Int.toNat_natCast] at this⊢;exact this
 have hg0:QG ⟨[],[]⟩=true:=by decide
 have hX:=Qfp hg0 hgd Yh;have hle:=QlW hg0 hgd Yh;simp only [List.length_nil,List.nil_append] at hX hle;refine ⟨hle,hX,⟨?_,fun a ha=> ?_,fun a ha=>(by cases ha)⟩,by simp;omega,fun x x0 x1=> ?_,by unfold Qa9;rw [Int.toNat_natCast];unfold Qaf;rw [Int.toNat_natCast];exact u1⟩
 ·simp only [QG,Q9,Bool.and_eq_true] at hX;exact hX.1.2
 ·obtain ⟨a0,a1⟩:=Qm.1 ha;simp only [List.length_map] at a1;rw [he] at a1;by_cases c0:a<v
  ·have:=hv a a0 c0;rw [show a+((0:Nat):Int)=a by omega] at this;unfold Qaf;rw [Int.toNat_natCast];exact ⟨_,Qa2 this Yd⟩
  ·obtain ⟨x,hx⟩:=u2 (a.toNat-v) Ya;rw [show ((0+(v+(a.toNat-v)):Nat):Int)=a by omega] at hx;unfold Qaf;rw [Int.toNat_natCast];exact ⟨x,hx⟩
 ·have:=hv x x0 x1;rw [show x+((0:Nat):Int)=x by omega] at this;unfold Qaf;rw [Int.toNat_natCast];exact this
def QjE (L:List HC) (base:Nat) (V m:Int) (t:Tm) (a:Int):Prop:=∃u:Tm,QjN L base V (.cons u.k u.n u.s u.ar .nil) a∧t=u.shift m
theorem QjN.al {L:List HC} {base:Nat} {V m:Int}:∀(T:Ts) (a:Int),QjN L base V T a→Al (QjE L base V m) (T.shift m).tms (ups a T.length)
 | .nil,a,_=> .nil
 | .cons k n s ar r,a,h=>by
  rw [Ts.shift_cons];exact .cons ⟨⟨k,n,s,ar⟩,⟨h.1,trivial⟩,rfl⟩ (QjN.al r (a+1) h.2)
theorem QjN.addr {L:List HC} {base:Nat} {V:Int} {k n:Int} {s:ByteArray} {ar r:Ts} {a:Int} (h:QjN L base V (.cons k n s ar r) a):Ql L a=true:=by
 obtain ⟨⟨x,c,h1,_⟩,_⟩:=h;obtain ⟨d,hd⟩:=h1.first;exact QdY.2 ⟨d,hd⟩
theorem Qff {n m:Int} (h0:0≤n) (h1:n≤40000) (h2:0≤m) (h3:m≤40000):QaN 0 n m=n+m:=by
 unfold QaN;rw [if_pos rfl,Qd9 h0 Ya,Qd9 h2 Ya]
theorem QjE.look {L:List HC} {T:List Int} {base:Nat} {V m:Int} {B:Bnd} (hV:V≤8) (m0:0≤m) (m1:m≤40000) (hB:FB m B) {t:Tm} {a:Int} (h:QjE L base V m t a):
  (∃i,0≤i∧i<V∧QaL B t= .var (i+m)∧Q2 ⟨L,T⟩ a= .var (i+base))∨∃k n s ar ar',QaL B t= .node k n s ar∧Q2 ⟨L,T⟩ a= .node k n s ar'∧Al (QjE L base V m) ar ar':=by
 obtain ⟨⟨k,n,s,ar⟩,hl,rfl⟩:=h;dsimp only at hl;obtain ⟨⟨x,c,h1,h2,h3⟩,_⟩:=hl;rcases h3 with ⟨rfl,n0,n1,rfl,rfl,hk,hx⟩|⟨hk,e1,e2,e3,e4,h5⟩
 ·refine .inl ⟨n,n0,n1,?_,?_⟩
  ·refine Q6.2 ?_;have e:(Tm.shift ⟨0,n,eS,.nil⟩ m).n=n+m:=Qff (n:=n) n0 Ya m0 m1;rw [QbF (hB.get (by rw [e];omega))];exact ⟨rfl,e⟩
  ·rw [Qaj (h:=⟨L,T⟩) h1 h2,if_pos hk,hx]
 ·refine .inr ⟨k,n,s,(ar.shift m).tms,ups (x+1) ar.length,?_,?_,QjN.al _ _ h5⟩
  ·show tvw (Qc B _)=_;rw [Q1 (by exact hk)];unfold tvw;rw [if_neg (by exact hk)];show Vw.node k (QaN k n m) s _=_
   have:QaN k n m=n:=by unfold QaN;rw [if_neg hk]
   rw [this];rfl
  ·skip
   rw [Qaj (h:=⟨L,T⟩) h1 h2,if_neg (by rw [e1];exact hk),e1,e2,e3,e4]
theorem Bm.ext {R N:Tm→Int→Prop} {B:Bnd} {h h':HH} {m base:Int} (hb:Bm Qet Qeu R B h) (ho:HOk h') (hold:∀a,Ql h.cs a=true→Ql h'.cs a=true∧Q2 h' a=Q2 h a)
  (hnew:∀t a,N t a→Ql h'.cs a=true∧((∃i,0≤i∧QaL B t= .var (i+m)∧Q2 h' a= .var (i+base))∨∃k n s ar ar',QaL B t= .node k n s ar∧Q2 h' a= .node k n s ar'∧Al N ar ar'))
  (hlow:∀t a u,R t a→QaL B t= .var u→u<m) (hlow':∀t a v,R t a→Q2 h a= .var v→v<base):Bm Qet Qeu (fun t a=>R t a∨N t a) B h':=by
 refine ⟨hb.oka,ho,fun _=>trivial,?_,?_,?_⟩
 ·rintro t a (hr|hn)
  ·exact (hold a (hb.db hr)).1
  ·exact (hnew t a hn).1
 ·rintro t a (hr|hn)
  ·show VwR _ (QaL B t) (Q2 h' a);rw [(hold a (hb.db hr)).2];exact VwR.imp (fun _ _ h=> .inl h) (hb.vw hr)
  ·show VwR _ (QaL B t) (Q2 h' a);rcases (hnew t a hn).2 with ⟨i,_,e1,e2⟩|⟨k,n,s,ar,ar',e1,e2,hal⟩
   ·rw [e1,e2];trivial
   ·rw [e1,e2];exact ⟨rfl,rfl,rfl,hal.imp fun _ _ h=> .inr h⟩
 ·intro t a t' a' u u' v v' h1 h2 e1 e2 e3 e4
  have nw:∀{t a u v},N t a→QaL B t= .var u→Q2 h' a= .var v→∃i,0≤i∧u=i+m∧v=i+base:=by
   intro t a u v hn f1 f2;rcases (hnew t a hn).2 with ⟨i,i0,g1,g2⟩|⟨k,n,s,ar,ar',g1,g2,_⟩
   ·rw [g1] at f1;rw [g2] at f2;cases f1;cases f2;exact ⟨i,i0,rfl,rfl⟩
   ·rw [g1] at f1;cases f1
  have od:∀{t a u v},R t a→QaL B t= .var u→Q2 h' a= .var v→u<m∧v<base∧Q2 h a= .var v:=by
   intro t a u v hr f1 f2;rw [(hold a (hb.db hr)).2] at f2;exact ⟨hlow t a u hr f1,hlow' t a v hr f2,f2⟩
  rcases h1 with h1|h1
  ·obtain ⟨x1,x2,x3⟩:=od h1 e1 e3;rcases h2 with h2|h2
   ·obtain ⟨y1,y2,y3⟩:=od h2 e2 e4;exact hb.vr h1 h2 e1 e2 x3 y3
   ·obtain ⟨i,i0,rfl,rfl⟩:=nw h2 e2 e4;omega
  ·obtain ⟨i,i0,rfl,rfl⟩:=nw h1 e1 e3;rcases h2 with h2|h2
   ·obtain ⟨y1,y2,y3⟩:=od h2 e2 e4;omega
   ·obtain ⟨j,j0,rfl,rfl⟩:=nw h2 e2 e4;omega
theorem QkJ {h:HH} (ho:HOk h) {a v:Int} (ha:Ql h.cs a=true) (hv:Q2 h a= .var v):v<h.cs.length:=by
 obtain ⟨_,c,hc,_⟩:=ho.var ha hv;exact (Qa7.1 hc).2.1
theorem Qj0 {m:Int} {B:Bnd} (hB:FB m B) {t:Tm} (ht:QfX m t) {u:Int} (h:QaL B t= .var u):u<m:=by
 obtain ⟨a1,a2⟩:=Q6.1 h;rw [←a2];exact (QbB hB ht).1 a1
structure QfG (q fresh:Nat) (B:Bnd) (h:HH) (R:Tm→Int→Prop):Prop where
 bm:Bm Qet Qeu R B h
 fb:FB fresh B
 low:∀t a,R t a→QfX fresh t
 qv:∀v:Nat,v<q→R ⟨0,(v:Nat),⟨#[]⟩,.nil⟩ (v:Nat)
theorem QfG.mono {q f f':Nat} (hf:f≤f') {B:Bnd} {h:HH} {R:Tm→Int→Prop} (H:QfG q f B h R):QfG q f' B h R:=⟨H.bm,H.fb.mono Ya,fun t a hr=>(H.low t a hr).mono Ya,H.qv⟩
theorem QjN.good {L:List HC} {base:Nat} {V:Int}:∀(T:Ts) (a:Int),QjN L base V T a→T.vars (fun n=>0≤n∧n<V)
 | .nil,_,_=>trivial
 | .cons k n s ar r,a,h=>by
  obtain ⟨⟨x,c,h1,h2,h3⟩,h4⟩:=h;refine ⟨fun hk=> ?_,?_,QjN.good r _ h4⟩
  ·rcases h3 with ⟨_,n0,n1,_⟩|⟨hk',_⟩
   ·exact ⟨n0,n1⟩
   ·exact absurd hk hk'
  ·rcases h3 with ⟨_,_,_,_,rfl,_⟩|⟨_,_,_,_,_,h5⟩
   ·trivial
   ·exact QjN.good ar _ h5
theorem QnU {m V:Int} (m0:0≤m) (m1:m≤40000) (hV:V≤8) (T:Ts):T.vars (fun n=>0≤n∧n<V)→(T.shift m).vars (· <m+V):=by
 induction T with
 |nil=>intro _;trivial
 |cons k n s ar r iha ihr=>
  rintro ⟨h1,h2,h3⟩;rw [Ts.shift_cons];refine ⟨fun hk=> ?_,iha h2,ihr h3⟩;subst hk;obtain ⟨n0,n1⟩:=h1 rfl;rw [Qff n0 Ya m0 m1];omega
theorem QjE.low {L:List HC} {base:Nat} {V m:Int} (hV:V≤8) (m0:0≤m) (m1:m≤40000) {t:Tm} {a:Int} (h:QjE L base V m t a):QfX (m+V) t:=by
 obtain ⟨⟨k,n,s,ar⟩,hl,rfl⟩:=h;have h1:=QjN.good _ _ hl;have h2:=QnU m0 m1 hV _ h1;rw [Ts.shift_cons] at h2;exact ⟨h2.1,h2.2.1⟩
theorem QfG.load {q fresh:Nat} {B:Bnd} {h h':HH} {R:Tm→Int→Prop} {K:List HC} {V:Nat} (H:QfG q fresh B h R) (hb:Blk h K h') (hV:V≤8) (hf:fresh≤40000):
  QfG q (fresh+V) B h' (fun t a=>R t a∨QjE h'.cs h.cs.length V fresh t a):=by
 have ho:HOk h:=H.bm.okb;have ho':=hb.ok ho;refine ⟨Bm.ext (m:=fresh) (base:=h.cs.length) H.bm ho' (fun a ha=> ?_) (fun t a hn=>⟨?_,?_⟩) (fun t a u hr hu=>Qj0 H.fb (H.low t a hr) hu) (fun t a v hr hv=>QkJ ho (H.bm.db hr) hv),H.fb.mono Ya,fun t a hr=> ?_,fun v hv=> .inl (H.qv v hv)⟩
 ·rw [hb.eq];exact ⟨QnG ha,QkK ho ha _ _⟩
 ·obtain ⟨u,hl,_⟩:=hn;exact hl.addr
 ·rcases QjE.look (T:=h'.tr) Ya Ya Ya H.fb hn with ⟨i,i0,i1,e1,e2⟩|hh
  ·exact .inl ⟨i,i0,e1,e2⟩
  ·exact .inr hh
 ·rcases hr with hr|hn
  ·exact (H.low t a hr).mono Ya
  ·have:=hn.low Ya Ya Ya;exact this.mono Ya
theorem QfG.num {q fresh:Nat} {B:Bnd} {h h':HH} {R:Tm→Int→Prop} {n:Int} (H:QfG q fresh B h R) (hb:Blk h [⟨2,n,eS⟩] h'):
  QfG q fresh B h' (fun t a=>R t a∨(t=⟨2,n,⟨#[]⟩,.nil⟩∧a=h.cs.length)):=by
 have ho:HOk h:=H.bm.okb;have ho':=hb.ok ho
 have hc:hat h'.cs (h.cs.length:Nat)=some ⟨2,n,eS⟩:=by
  have:=QeQ h [⟨2,n,eS⟩] 0 _ rfl;rw [hb.eq];exact this
 refine ⟨Bm.ext (m:=fresh) (base:=h.cs.length) H.bm ho' (fun a ha=> ?_) (fun t a hn=> ?_) (fun t a u hr hu=>Qj0 H.fb (H.low t a hr) hu) (fun t a v hr hv=>QkJ ho (H.bm.db hr) hv),H.fb,fun t a hr=> ?_,fun v hv=> .inl (H.qv v hv)⟩
 ·rw [hb.eq];exact ⟨QnG ha,QkK ho ha _ _⟩
 ·obtain ⟨rfl,rfl⟩:=hn;refine ⟨QdY.2 ⟨_,hc⟩,.inr ⟨2,n,eS,[],[],?_,?_,.nil⟩⟩
  ·show tvw (Qc B _)=_;rw [Q1 (by show (2:Int)≠0;decide)];rfl
  ·rw [Qaj (Qa2 hc Yd) hc,if_neg (by show¬(2:Int)=0;decide)];rfl
 ·rcases hr with hr|⟨rfl,_⟩
  ·exact H.low t a hr
  ·exact ⟨fun e=>absurd e (by show¬(2:Int)=0;decide),trivial⟩
theorem QfG.uni {q fresh:Nat} {B:Bnd} {h:HH} {R:Tm→Int→Prop} (H:QfG q fresh B h R) {t t':Tm} {a a':Int} (ha:R t a) (ha':R t' a'):
  (Qbs 401 t t' B 0).ok=(Qa3 Qeu 401 a a' h 0).ok∧(Qbs 401 t t' B 0).w=(Qa3 Qeu 401 a a' h 0).w∧QfG q fresh (Qbs 401 t t' B 0).B (Qa3 Qeu 401 a a' h 0).s R:=by
 have hu:=QoT 401 t t' B 0 H.bm.oka;obtain ⟨h1,h2,h3⟩:=Qls (QiT Qnd) Qra 401 t t' a a' B h 0 H.bm ha ha';have f1:=Qmw Qne 401 t t' B 0 H.fb (H.low t a ha) (H.low t' a' ha');rw [←hu] at h1 h2 h3 f1;exact ⟨h1,h2,h3,f1,H.low,H.qv⟩
structure Bk (h:HH) (n top:Nat) (g:HH):Prop where
 hn:n≤h.tr.length
 ht:top≤h.cs.length
 eq:g=⟨(Qbf h.cs (h.tr.drop n)).take top,h.tr.take n⟩
 ok:HOk g
theorem HOk.pos {h:HH} (ho:HOk h) {a:Int} (ha:a∈h.tr):∃c,hat h.cs a=some c∧c.k=0:=by
 have:=ho.tr a ha;unfold Qat at this
 cases hc:hat h.cs a with
 |none=>rw [hc] at this;cases this
 |some c=>rw [hc] at this;exact ⟨c,rfl,by simpa using this⟩
theorem HOk.nn {h:HH} (ho:HOk h):∀a∈h.tr,0≤a:=fun a ha=>by
 obtain ⟨c,hc,_⟩:=ho.pos ha;exact (Qa7.1 hc).1
theorem QcR (T:List Int) (L:List HC):(Qbf L T).length=L.length:=by
 induction T generalizing L with
 |nil=>rfl
 |cons a r ih=>simp only [Qbf];rw [ih,Qby]
theorem Bk.len {h g:HH} {n top:Nat} (b:Bk h n top g):g.cs.length=top∧g.tr.length=n:=by
 rw [b.eq];have:=b.ht;have:=b.hn;constructor
 ·show ((Qbf _ _).take top).length=top;rw [List.length_take,QcR];omega
 ·show (h.tr.take n).length=n;rw [List.length_take];omega
theorem Bk.self {h:HH} (ho:HOk h):Bk h h.tr.length h.cs.length h:=by
 refine ⟨Nat.le_refl _,Nat.le_refl _,?_,ho⟩;rw [List.drop_length,List.take_length];show h=⟨(Qbf h.cs []).take _,_⟩;rw [show Qbf h.cs []=h.cs from rfl,List.take_length]
theorem QcS {h:HH} (hnn:∀a∈h.tr,0≤a) (n i:Nat):(Qbf h.cs (h.tr.drop n))[i]?=if (i:Int)∈h.tr.drop n then (h.cs[i]?).map (fun c=>⟨c.k,i,c.s⟩) else h.cs[i]?:=
 Qgv _ _ (fun r hr=>hnn r (List.mem_of_mem_drop hr)) i
theorem Bk.trans {h g k:HH} {n top n' top':Nat} (hnn:∀a∈h.tr,0≤a) (b:Bk h n top g) (c:Bk g n' top' k):Bk h n' top' k:=by
 obtain ⟨l1,l2⟩:=b.len;have cn:=c.hn;have ct:=c.ht;have bn:=b.hn;have bt:=b.ht;refine ⟨by omega,by omega,?_,c.ok⟩;have hgnn:∀a∈g.tr,0≤a:=fun a ha=>hnn a (by rw [b.eq] at ha;exact List.mem_of_mem_take ha);rw [c.eq]
 have e2:g.tr.take n'=h.tr.take n':=by rw [b.eq];show (h.tr.take n).take n'=_;rw [List.take_take,Nat.min_eq_left Ya]
 rw [e2];congr 1;refine List.ext_getElem? fun i=> ?_;rw [List.getElem?_take,List.getElem?_take];by_cases hi:i<top'
 ·rw [if_pos hi,if_pos hi,QcS hgnn,QcS hnn]
  have e3:g.cs[i]?=if (i:Int)∈h.tr.drop n then (h.cs[i]?).map (fun c=>⟨c.k,i,c.s⟩) else h.cs[i]?:=by
   rw [←QcS hnn,b.eq];show ((Qbf _ _).take top)[i]?=_;rw [List.getElem?_take,if_pos Ya]
  have e4:h.tr.drop n'=g.tr.drop n'++h.tr.drop n:=by
   have:g.tr=h.tr.take n:=by rw [b.eq]
   rw [this]
   conv=>lhs;rw [←List.take_append_drop n h.tr]
   rw [List.drop_append_of_le_length (by rw [List.length_take];omega)]
  rw [e3,e4];simp only [List.mem_append];by_cases m1:(i:Int)∈g.tr.drop n'
  ·rw [if_pos m1,if_pos (show (i:Int)∈g.tr.drop n'∨(i:Int)∈h.tr.drop n from .inl m1)];by_cases m2:(i:Int)∈h.tr.drop n
   ·rw [if_pos m2,Option.map_map];rfl
   ·rw [if_neg m2]
  ·rw [if_neg m1];by_cases m2:(i:Int)∈h.tr.drop n
   ·rw [if_pos m2,if_pos (show (i:Int)∈g.tr.drop n'∨(i:Int)∈h.tr.drop n from .inr m2)]
   ·rw [if_neg m2,if_neg (show¬((i:Int)∈g.tr.drop n'∨(i:Int)∈h.tr.drop n) from fun h=>h.elim m1 m2)]
 ·rw [if_neg hi,if_neg hi]
def Dr (h:HH) (a:Int):Prop:=∃c,hat h.cs a=some c∧(c.k=1∨c.k=3)
theorem Dr.up {h g:HH} {n top:Nat} (ho:HOk h) (b:Bk h n top g) {a:Int} (hd:Dr g a):Dr h a:=by
 obtain ⟨c,hc,hk⟩:=hd;obtain ⟨a0,a1,a2⟩:=Qa7.1 hc;obtain ⟨l1,l2⟩:=b.len;have ht:=b.ht
 have e3:g.cs[a.toNat]?=if ((a.toNat:Nat):Int)∈h.tr.drop n then (h.cs[a.toNat]?).map (fun c=>⟨c.k,a.toNat,c.s⟩) else h.cs[a.toNat]?:=by
  rw [←QcS ho.nn,b.eq];show ((Qbf _ _).take top)[a.toNat]?=_;rw [List.getElem?_take,if_pos Ya]
 rw [show ((a.toNat:Nat):Int)=a by omega] at e3;by_cases hm:a∈h.tr.drop n
 ·rw [if_pos hm,a2] at e3;obtain ⟨d,hd,hdk⟩:=ho.pos (List.mem_of_mem_drop hm);rw [(Qa7.1 hd).2.2] at e3;simp only [Option.map_some,Option.some.injEq] at e3;rw [e3] at hk;dsimp only at hk;omega
 ·rw [if_neg hm,a2] at e3;exact ⟨c,Qa7.2 ⟨a0,by omega,e3.symm⟩,hk⟩
theorem Bk.load {h h':HH} {K:List HC} (ho:HOk h) (hb:Blk h K h'):Bk h' h.tr.length h.cs.length h:=by
 rw [hb.eq];refine ⟨Nat.le_refl _,by simp,?_,ho⟩;dsimp only;rw [List.drop_length,List.take_length];show h=⟨(h.cs++_).take _,_⟩;rw [List.take_left]
theorem Bk.uni {h:HH} (ho:HOk h) {N:List Int} {L:List HC} (hN:Bd N h.cs L):Bk ⟨L,h.tr++N⟩ h.tr.length h.cs.length h:=by
 have hl:L.length=h.cs.length:=by
  have:=hN.undo;rw [←this,QcR]
 refine ⟨by simp,by show _≤L.length;omega,?_,ho⟩;dsimp only;rw [List.drop_left,List.take_left,hN.undo,List.take_length]
def GR (R:Tm→Int→Prop) (h:HH) (t:Tm) (a:Int):Prop:=R t a∧Dr h a∧t.k≠0
theorem QjE.kind {L:List HC} {base:Nat} {V m:Int} {t:Tm} {a:Int} (h:QjE L base V m t a) (hd:∃c,hat L a=some c∧(c.k=1∨c.k=3)):t.k≠0:=by
 obtain ⟨⟨k,n,s,ar⟩,hl,rfl⟩:=h;dsimp only at hl;obtain ⟨⟨x,c,h1,h2,h3⟩,_⟩:=hl;obtain ⟨d,d1,d2⟩:=hd;have e:=h1.det (Qa2 d1 (by rintro ⟨h,_⟩;omega));subst e;rw [h2] at d1;cases d1;show k≠0;rcases h3 with ⟨_,_,_,_,_,hk,_⟩|⟨hk,_⟩
 ·omega
 ·exact hk
def Qag (R:Tm→Int→Prop) (L:List XL):Int→List Gl→Prop
 |i,[]=>i= -1
 |i,g::r=>∃(k:Nat) (l:XL),i=(k:Int)∧L[k]?=some l∧R g.1 l.g∧l.o=g.2∧l.nx<(k:Int)∧Qag R L l.nx r
theorem Qag.mono {R R':Tm→Int→Prop} (h:∀t a,R t a→R' t a) {L:List XL}:∀{i:Int} {G:List Gl},Qag R L i G→Qag R' L i G
 |_,[],hc=>hc
 |_,g::r,⟨k,l,h1,h2,h3,h4,h5,h6⟩=>⟨k,l,h1,h2,h _ _ h3,h4,h5,Qag.mono h h6⟩
theorem Qtb {α:Type} {L:List α} {k:Nat} {l:α} (X:List α) (h:L[k]?=some l):(L++X)[k]?=some l:=by
 rw [List.getElem?_append_left]
 ·exact h
 ·rcases Nat.lt_or_ge k L.length with g|g
  ·exact g
  ·rw [List.getElem?_eq_none g] at h;cases h
theorem Qag.app {R:Tm→Int→Prop} {L:List XL} (X:List XL):∀{i:Int} {G:List Gl},Qag R L i G→Qag R (L++X) i G
 |_,[],hc=>hc
 |_,g::r,⟨k,l,h1,h2,h3,h4,h5,h6⟩=>⟨k,l,h1,Qtb X h2,h3,h4,h5,Qag.app X h6⟩
theorem Qir {L:List XL} {k:Nat} {l:XL} (h:L[k]?=some l):lnk L k=l:=by unfold lnk;rw [List.getD_eq_getElem?_getD,h];rfl
def QW (q f:Nat) (L:List XL):Bnd→HH→List Ch→List XC→Prop
 |_,_,[],[]=>True
 |B,h,c::cs,d::ds=>∃(R:Tm→Int→Prop) (g:HH),Bk h d.bound d.cells g∧QG g=true∧QfG q f (Qaz B c.bound) g R∧Qag (GR R g) L (d.at_:Nat) (c.g::c.next)∧d.cls=c.cls∧c.bound≤B.length∧QW q f L (Qaz B c.bound) g cs ds
 |_,_,_,_=>False
theorem QW.len {q f:Nat} {L:List XL}:∀{B:Bnd} {h:HH} {cs:List Ch} {ds:List XC},QW q f L B h cs ds→cs.length=ds.length
 |_,_,[],[],_=>rfl
 |_,_,c::cs,d::ds,⟨R,g,_,_,_,_,_,_,h⟩=>by simp [QW.len h]
theorem QW.mono {q f f':Nat} (hf:f≤f') {L:List XL}:∀{B:Bnd} {h:HH} {cs:List Ch} {ds:List XC},QW q f L B h cs ds→QW q f' L B h cs ds
 |_,_,[],[],_=>trivial
 |_,_,c::cs,d::ds,⟨R,g,h1,h0,h2,h3,h4,h5,h6⟩=>⟨R,g,h1,h0,h2.mono hf,h3,h4,h5,h6.mono hf⟩
theorem QW.links {q f:Nat} {L:List XL} (X:List XL):∀{B:Bnd} {h:HH} {cs:List Ch} {ds:List XC},QW q f L B h cs ds→QW q f (L++X) B h cs ds
 |_,_,[],[],_=>trivial
 |_,_,c::cs,d::ds,⟨R,g,h1,h0,h2,h3,h4,h5,h6⟩=>⟨R,g,h1,h0,h2,h3.app X,h4,h5,h6.links X⟩
theorem QeA (X B:Bnd) {n:Nat} (h:n≤B.length):Qaz (X++B) n=Qaz B n:=by
 unfold Qaz;rw [show (X++B).length-n=X.length+(B.length-n) by simp;omega,List.drop_append];rw [List.drop_of_length_le Ya,List.nil_append];congr 1;omega
theorem QW.up {q f:Nat} {L:List XL} {B X:Bnd} {h h':HH} {n top:Nat} (hnn:∀a∈h'.tr,0≤a) (b:Bk h' n top h):∀{cs:List Ch} {ds:List XC},QW q f L B h cs ds→QW q f L (X++B) h' cs ds
 |[],[],_=>trivial
 |c::cs,d::ds,⟨R,g,h1,h0,h2,h3,h4,h5,h6⟩=>by
  refine ⟨R,g,b.trans hnn h1,h0,?_,h3,h4,by simp;omega,?_⟩
  ·rw [QeA X B h5];exact h2
  ·rw [QeA X B h5];exact h6
structure XIn (q F:Nat) (s:SS) (x:XS):Prop where
 ev:x.ev=s.ev
 fuel:x.goals+s.fuel=F
 f150:F≤150
 q8:q≤8
 ch:QW q s.fresh x.ln s.B x.h s.ch x.ch
 inv:Qd4 s
 gd:QG x.h=true
 ho:HOk x.h
 csz:∀d∈x.ch,d.cells≤300*x.goals∧d.bound+400≤400*x.goals
 lsz:x.ln.length+5*mu s≤30000
 lnx:∀(i:Nat) (l:XL),x.ln[i]?=some l→-1≤l.nx∧l.nx<(i:Int)
structure QhD (q F:Nat) (s:SS) (x:XS):Prop where
 i:XIn q F s x
 cur:∃R,QfG q s.fresh s.B x.h R∧Qag (GR R x.h) x.ln x.first s.goals
 gs:Inv s
 cs:x.h.cs.length≤300*(x.goals+1)
 ts:x.h.tr.length≤400*x.goals
theorem QjT {q f:Nat} {B:Bnd} {h:HH} {R:Tm→Int→Prop} (H:QfG q f B h R) (hg:QG h=true) (ht:h.tr.length+400≤65536) {t t':Tm} {a a':Int} (ha:R t a) (ha':R t' a'):
  (400<(Qbs 401 t t' B 0).w→QX h a a'=(h,false,3))∧((Qbs 401 t t' B 0).w≤400→(Qbs 401 t t' B 0).ok=false→QX h a a'=(h,false,0))∧
  ((Qbs 401 t t' B 0).w≤400→(Qbs 401 t t' B 0).ok=true→∃h',QX h a a'=(h',true,0)∧QfG q f (Qbs 401 t t' B 0).B h' R∧QG h'=true∧h'.cs.length=h.cs.length∧h'.tr.length≤h.tr.length+400∧Bk h' h.tr.length h.cs.length h):=by
 have da:Ql h.cs a=true:=H.bm.db ha;have da':Ql h.cs a'=true:=H.bm.db ha';obtain ⟨e1,e2,e3⟩:=H.uni ha ha';have e1:_=(Qdh 401 a a' h 0).ok:=e1;have e2:_=(Qdh 401 a a' h 0).w:=e2;have e3:QfG q f (Qbs 401 t t' B 0).B (Qdh 401 a a' h 0).s R:=e3;obtain ⟨g1,g2,g3⟩:=QoR 401 a a' h 0 H.bm.okb da da';have hG:=QrK hg;have huu:=QjV 401 a a' _ hG rfl;have htrl:=QoQ 401 a a' _ hG rfl;rw [show toU h 0=⟨h.cs,h.tr,0,false⟩ from rfl] at g1
 have hun:∀r,Qck 401 a a' ⟨h.cs,h.tr,0,false⟩=r→QX h a a'=if r.2.lg=true∨r.1=true∧65536<r.2.tr.length then (h,false,3) else if r.1=false then (h,false,0) else (⟨r.2.cs,r.2.tr⟩,true,0):=by
  intro r hr;unfold QX;rw [hr,if_neg YR,if_neg (by rw [da,da'];decide)]
 have hun:=hun _ g1;rw [g1] at huu htrl;have hext:=huu.ext.2;have hle:=huu.gu.wk;rw [hun];rw [←e1] at g1 huu htrl hext hle⊢;rw [←e2] at g1 huu htrl hext hle⊢;clear hun;generalize Qbs 401 t t' B 0=r at*;generalize Qdh 401 a a' h 0=u at*;have hlg:∀k:Nat,(toU u.s k).lg=decide (400<k):=fun k=>rfl;refine ⟨fun hw=> ?_,fun hw ho=> ?_,fun hw ho=> ?_⟩
 ·rw [if_pos (.inl (by rw [hlg];simpa using hw))]
 ·rw [if_neg (by rw [hlg,ho];simp;omega),if_pos ho]
 ·have hext':u.s.tr.length≤h.tr.length+(r.w-0):=hext
  rw [if_neg (by
   rw [hlg];rintro (h1|⟨_,h1⟩)
   ·simp at h1;omega
   ·have h1:65536<u.s.tr.length:=h1;omega),if_neg (by rw [ho];show¬(true=false);decide)]
  obtain ⟨N,t1,t2⟩:=htrl;have t1:u.s.tr=h.tr++N:=t1;have t2:Bd N h.cs u.s.cs:=t2
  have hgu:QG u.s=true:=by
   have:=g2;unfold QG Q9 QbJ at hg⊢;simp only [Bool.and_eq_true,decide_eq_true_eq,List.all_eq_true] at hg⊢;exact ⟨⟨by rw [g3];exact hg.1.1,g2.gl⟩,by omega,g2.tr⟩
  refine ⟨u.s,rfl,e3,hgu,g3,by omega,?_⟩;have:=Bk.uni H.bm.okb t2;rw [←t1] at this;exact this
theorem QhX {n:Nat}:∀(T:List Int) (L:List HC),L.length=n→QN n L=true→(∀a∈T,∃c,hat L a=some c∧c.k=0)→QN n (Qbf L T)=true
 |[],L,_,h,_=>h
 |a::r,L,hl,h,ht=>by
  obtain ⟨c,hc,hk⟩:=ht a (List.mem_cons_self ..);obtain ⟨a0,a1,a2⟩:=Qa7.1 hc;refine QhX r (Qd1 L a.toNat a) (by rw [Qby];exact hl) (QeF a0 Ya h fun c' hc'=> ?_) fun b hb=> ?_
  ·rw [a2] at hc';cases hc';exact hk
  ·obtain ⟨d,hd,hdk⟩:=ht b (List.mem_cons_of_mem _ hb);rw [QbW hc];by_cases e:b=a
   ·rw [if_pos e];exact ⟨_,rfl,hk⟩
   ·rw [if_neg e];exact ⟨d,hd,hdk⟩
theorem QoY {h:HH} (hg:QG h=true) (ho:HOk h) (n:Nat):QG ⟨Qbf h.cs (h.tr.drop n),h.tr.take n⟩=true:=by
 have hnn:=ho.nn;unfold QG Q9 QbJ at hg⊢;simp only [Bool.and_eq_true,decide_eq_true_eq,List.all_eq_true,QcR] at hg⊢;refine ⟨⟨hg.1.1,QhX _ _ rfl ho.gl fun a ha=>ho.pos (List.mem_of_mem_drop ha)⟩,by rw [List.length_take];omega,fun a ha=> ?_⟩;have ha:=List.mem_of_mem_take ha;obtain ⟨c,hc,hk⟩:=ho.pos ha;obtain ⟨a0,a1,a2⟩:=Qa7.1 hc;have:=QcS hnn n a.toNat;unfold Qat
 have e:hat (Qbf h.cs (h.tr.drop n)) a=(Qbf h.cs (h.tr.drop n))[a.toNat]?:=by unfold hat;rw [if_pos a0]
 rw [e,this,a2];by_cases hm:((a.toNat:Nat):Int)∈h.tr.drop n
 ·rw [if_pos hm];simpa using hk
 ·rw [if_neg hm];simpa using hk
theorem QtJ {h g:HH} {n top:Nat} (hg:QG h=true) (ho:HOk h) (b:Bk h n top g) (hgg:QG g=true):(QkZ (Qcv h (n:Nat)).1 (top:Nat)).1=g:=by
 have hn:=b.hn;have ht:=b.ht
 have e1:Qcv h (n:Nat)=(⟨Qbf h.cs (h.tr.drop n),h.tr.take n⟩,0):=by
  unfold Qcv;rw [if_neg YR,if_neg Ya,Int.toNat_natCast]
 rw [e1];unfold QkZ;have e2:(⟨(Qbf h.cs (h.tr.drop n)).take top,h.tr.take n⟩:HH)=g:=b.eq.symm;dsimp only;rw [QoY hg ho n,if_neg Yg,if_neg (by rw [QcR];omega),Int.toNat_natCast,e2,hgg,if_neg Yg]
theorem Qmf {L:List HC} {base:Nat} {V m:Int} {R:Tm→Int→Prop} (hN:∀t a,QjE L base V m t a→(∃c,hat L a=some c∧(c.k=1∨c.k=3))→R t a) {o:Nat}:∀(T:Ts) (P:List Int) (nx:Int) (K:List XL) (rest:List Gl),QtV L base V T P→Qag R K nx rest→-1≤nx→nx<K.length→
  Qag R (QbS base o P nx K).1 (QbS base o P nx K).2 (QdD T m o rest)∧(∃X,(QbS base o P nx K).1=K++X∧X.length=T.length)∧-1≤(QbS base o P nx K).2∧(QbS base o P nx K).2<(QbS base o P nx K).1.length
 | .nil,P,nx,K,rest,hP,hc,h0,h1=>by
  obtain rfl:=hP;exact ⟨hc,⟨[],by simp [QbS],rfl⟩,h0,h1⟩
 | .cons k n s ar r,P,nx,K,rest,hP,hc,h0,h1=>by
  obtain ⟨x,p,rfl,hx,hd,hr⟩:=hP;obtain ⟨i1,⟨X,i2,i3⟩,i4,i5⟩:=Qmf hN (o:=o) r p nx K rest hr hc h0 h1;simp only [QbS,QdD];refine ⟨⟨_,⟨base+x,o,(QbS base o p nx K).2⟩,rfl,by simp,hN _ _ ⟨⟨k,n,s,ar⟩,hx,rfl⟩ hd,rfl,i5,Qag.app _ i1⟩,⟨X++[⟨base+x,o,(QbS base o p nx K).2⟩],by rw [i2,List.append_assoc],by simp [i3,Ts.length]⟩,by omega,by simp only [List.length_append,List.length_cons,List.length_nil];omega⟩
theorem Qqw {base o:Nat}:∀(P:List Int) (nx:Int) (K:List XL), -1≤nx→nx<K.length→(∀(i:Nat) (l:XL),K[i]?=some l→-1≤l.nx∧l.nx<(i:Int))→(∀(i:Nat) (l:XL),(QbS base o P nx K).1[i]?=some l→-1≤l.nx∧l.nx<(i:Int))∧-1≤(QbS base o P nx K).2∧(QbS base o P nx K).2<(QbS base o P nx K).1.length
 |[],nx,K,h0,h1,hK=>⟨hK,h0,h1⟩
 |x::P,nx,K,h0,h1,hK=>by
  obtain ⟨i1,i2,i3⟩:=Qqw (base:=base) (o:=o) P nx K h0 h1 hK;simp only [QbS];refine ⟨fun i l hl=> ?_,by omega,by simp only [List.length_append,List.length_cons,List.length_nil];omega⟩;rw [List.getElem?_append] at hl;split at hl
  ·exact i1 i l hl
  ·rename_i hh;rw [List.getElem?_singleton] at hl;split at hl
   ·cases hl;dsimp only;omega
   ·cases hl
def QqR (q F:Nat) (p:Int×SS) (r:Int×XS):Prop:=p.1=r.1∧r.2.ev=p.2.ev∧(p.1=0→QhD q F p.2 r.2)
theorem Qag.first {R:Tm→Int→Prop} {L:List XL} {k:Nat} {g:Gl} {r:List Gl} (h:Qag R L (k:Nat) (g::r)):∃l,L[k]?=some l∧lnk L k=l∧R g.1 l.g∧l.o=g.2∧l.nx<(k:Int)∧Qag R L l.nx r:=by
 obtain ⟨j,l,e,h1,h2,h3,h4,h5⟩:=h;obtain rfl:k=j:=by omega
 exact ⟨l,h1,Qir h1,h2,h3,h4,h5⟩
theorem Qmg {q F:Nat} {ds:List XC} {cs:List Ch} (hk:∀n s x,s.ch=cs→x.ch=ds→XIn q F s x→QcD cs<n→QqR q F (QaH n s) (Qig ds x)) {a cells bound bd:Nat} {cg:Gl} {next:List Gl}:
  ∀(cls:List Cl) (n:Nat) (s:SS) (x:XS),s.ch=QdL ⟨cg,next,[],bd⟩ cls cs→x.ch=ds→Qd4 s→x.ev=s.ev→x.goals+s.fuel=F→F≤150→q≤8→QG x.h=true→(∀d∈x.ch,d.cells≤300*x.goals∧d.bound+400≤400*x.goals)→x.ln.length+5*mu s≤30000→
   (∀(i:Nat) (l:XL),x.ln[i]?=some l→-1≤l.nx∧l.nx<(i:Int))→bd≤s.B.length→QW q s.fresh x.ln (Qaz s.B bd) x.h cs ds→(∃R,QfG q s.fresh (Qaz s.B bd) x.h R∧Qag (GR R x.h) x.ln (a:Nat) (cg::next))→cells=x.h.cs.length→bound=x.h.tr.length→cells≤300*x.goals→bound+400≤400*x.goals→QcD s.ch<n→
   QqR q F (QaH n s) (QoE (Qig ds) a cells bound cls x)
 |[],n,s,x,hch,hxc,hI,hev,hfu,hF,hq,hgd,hcsz,hlsz,hlnx,hbd,hcr,⟨R,hG,hC⟩,ec,eb,hc1,hb1,hn=>by
  have hch:s.ch=cs:=hch;refine hk n s x hch hxc ⟨hev,hfu,hF,hq,?_,hI,hgd,hG.bm.okb,hcsz,hlsz,hlnx⟩ (by rw [←hch];exact hn);rw [hch,hxc];have e:s.B=s.B.take (s.B.length-bd)++Qaz s.B bd:=(List.take_append_drop _ _).symm;rw [e];exact QW.up hG.bm.okb.nn (Bk.self hG.bm.okb) hcr
 | b :: more, n, s, x, hch, hxc, hI, hev, hfu, hF, hq, hgd, hcsz, hlsz, hlnx, hbd, hcr, ⟨R, hG, hC⟩, ec, eb, hc1, hb1, hn => by
  obtain ⟨n,rfl⟩:∃m,n=m+1:=⟨n-1,by omega⟩
  have hch':s.ch=⟨cg,next,b::more,bd⟩::cs:=hch
  have hp:QdL ⟨cg,next,b::more,bd⟩ more cs=QdL ⟨cg,next,[],bd⟩ more cs:=by cases more<;>rfl
  have hrc:=Qei (n:=n) (s:=s) hch' (rfl:(⟨cg,next,b::more,bd⟩:Ch).cls=b::more);have hro:=QiZ (n+1) s hI;have hcok:=hI.ch;rw [hch'] at hcok;obtain ⟨a1,a2,a3,a4,a5,a6⟩:=hcok;have hb:cB b=true:=a5 b (List.mem_cons_self ..);obtain ⟨v0,v1,b5,_,_⟩:=QfV hb;have hfr:=hI.fr;have hho:=hG.bm.okb;have hg150:x.goals≤150:=by omega
  obtain ⟨l1,l2,l3,l4,l5⟩:=Qox hgd hb Ya;obtain ⟨lk,k1,k2,⟨k3,k3d,k3k⟩,k4,k5,k6⟩:=hC.first;have hV:((b.vars.toNat:Nat):Int)=b.vars:=by omega
  have hG1:=hG.load (V:=b.vars.toNat) l3 Ya Ya;dsimp only at hG1;rw [hV] at hG1;have hbl:=QcP hb;have huni:=QjT hG1 l2 (by dsimp only;omega) (t:=b.head.shift s.fresh) (t':=cg.1) (a:=x.h.cs.length+b.vars) (a':=lk.g) (.inr ⟨b.head,l4,rfl⟩) (.inl k3)
  have hhead:Qdz x.h b (lnk x.ln a).g=QX ⟨x.h.cs++(Qt b).map (Q0 x.h.cs.length),x.h.tr⟩ (x.h.cs.length+b.vars) lk.g:=by unfold Qdz;rw [l1,k2]
  have hupx:=Qdj 401 (b.head.shift s.fresh) cg.1 (Qaz s.B bd) 0 (Qns hb (m:=s.fresh) Ya).small (a3 cg (List.mem_cons_self ..)).small (hI.bok.drop _) (QoZ (Q:=fun t=>t.ar.nodes≤24) hI.sm _) Ya;obtain ⟨N,hN⟩:=hupx.ext;have hul:(Qaz s.B bd).length=bd:=Qmy _ hbd;have hpinv:=Qi1 hI hch' (rfl:(⟨cg,next,b::more,bd⟩:Ch).cls=b::more)
  have hmu:mu s=25*s.fuel+(more.length+1+QcD cs):=by unfold mu;rw [hch'];simp only [QcD,List.length_cons]
  rw [hp] at hrc;rw [hp] at hpinv;rw [hrc] at hro⊢;simp only [QoE];rw [hhead];dsimp only at hupx hN hpinv hro⊢;generalize Qbs 401 (b.head.shift s.fresh) cg.1 (Qaz s.B bd) 0=r at*;obtain ⟨u1,u2,u3⟩:=huni;by_cases hw:400<r.w
  ·rw [if_pos hw,u1 hw,if_pos (by show (3:Int)≠0;decide)];exact ⟨rfl,hev,fun h=>by cases h⟩
  rw [if_neg hw] at hro⊢
  cases hok:r.ok with
  |false=>
   rw [if_neg Yg,u2 Ya hok,if_neg Yae,if_pos rfl]
   have hub:Qaz r.B bd=Qaz s.B bd:=by rw [hN];have:=QeA N (Qaz s.B bd) (n:=bd) Ya;rw [this];unfold Qaz;rw [show (s.B.drop (s.B.length-bd)).length-bd=0 by simp;omega];simp
   refine Qmg hk more n ⟨r.B,s.fresh+b.vars.toNat,s.fuel,s.goals,QdL ⟨cg,next,[],bd⟩ more cs,s.ev⟩ x rfl hxc (hpinv _) hev hfu hF hq hgd hcsz ?_ hlnx ?_ ?_ ?_ ec eb hc1 hb1 ?_
   ·have:mu ⟨r.B,s.fresh+b.vars.toNat,s.fuel,s.goals,QdL ⟨cg,next,[],bd⟩ more cs,s.ev⟩=25*s.fuel+(more.length+QcD cs):=by unfold mu;simp only [Qds]
    omega
   ·dsimp only;rw [hN];simp;omega
   ·dsimp only;rw [hub];exact hcr.mono Ya
   ·dsimp only;rw [hub];exact ⟨R,hG.mono Ya,hC⟩
   ·simp only [Qds];rw [hch'] at hn;simp only [QcD,List.length_cons] at hn;omega
  |true=>
   rw [hok] at hro;rw [if_pos rfl] at hro⊢;obtain ⟨h2,m1,m2,m3,m4,m5,m6⟩:=u3 Ya hok;obtain ⟨hInv,hmul⟩:=hro.1 rfl;rw [m1,if_neg Yae,if_neg (by show¬(true=false);decide)]
   have hub:Qaz r.B bd=Qaz s.B bd:=by rw [hN];have:=QeA N (Qaz s.B bd) (n:=bd) Ya;rw [this];unfold Qaz;rw [show (s.B.drop (s.B.length-bd)).length-bd=0 by simp;omega];simp
   have htook:x.took a b more cells bound=⟨h2,x.goals,(QbS x.h.cs.length x.ch.length (Qar b) lk.nx x.ln).1,(QbS x.h.cs.length x.ch.length (Qar b) lk.nx x.ln).2,match more with|[]=>x.ch|_::_=>⟨a,more,cells,bound⟩::x.ch,x.ev⟩:=by
    unfold XS.took;rw [hhead,m1,l1,k2];cases more<;>rfl
   rw [htook];have hbk:Bk h2 x.h.tr.length x.h.cs.length x.h:=Bk.trans m2.bm.okb.nn m6 (Bk.load hho l3);have hlen:=hcr.len;obtain ⟨nx0,nx1⟩:=hlnx a lk k1
   have hal:a<x.ln.length:=by
    rcases Nat.lt_or_ge a x.ln.length with h|h
    ·exact h
    ·rw [List.getElem?_eq_none h] at k1;cases k1
   have hxl:x.ch.length=cs.length:=by rw [hxc];exact hlen.symm
   obtain ⟨c1,⟨X,c2,c3⟩,c4,c5⟩:=Qmf (R:=GR (fun t a=>R t a∨QjE (x.h.cs++(Qt b).map (Q0 x.h.cs.length)) x.h.cs.length b.vars s.fresh t a) h2) (fun t a h hd=>⟨.inr h,Dr.up m2.bm.okb m6 hd,h.kind hd⟩) (o:=x.ch.length) b.bd (Qar b) lk.nx x.ln next l5 (k6.mono fun t a h=>⟨.inl h.1,Dr.up m2.bm.okb hbk h.2.1,h.2.2⟩) nx0 Ya;have hlnx':=(Qqw (base:=x.h.cs.length) (o:=x.ch.length) (Qar b) lk.nx x.ln nx0 Ya hlnx).1
   have hml:h2.cs.length≤300*(x.goals+1):=by
    rw [m4];simp only [List.length_append,List.length_map];omega
   have hmt:h2.tr.length≤400*x.goals:=by
    have:h2.tr.length≤x.h.tr.length+400:=m5;omega
   refine ⟨rfl,hev,fun _=>⟨⟨hev,hfu,hF,hq,?_,hInv.c,m3,m2.bm.okb,?_,?_,hlnx'⟩,⟨_,m2,?_⟩,hInv,hml,hmt⟩⟩
   ·dsimp only;rw [c2]
    cases more with
    |nil=>
     show QW q _ _ r.B h2 cs x.ch;rw [hxc,hN];exact QW.up m2.bm.okb.nn hbk ((hcr.mono Ya).links X)
    |cons y z=>
     show QW q _ _ r.B h2 (⟨cg,next,y::z,bd⟩::cs) (⟨a,y::z,cells,bound⟩::x.ch);refine ⟨R,x.h,by rw [ec,eb];exact hbk,hgd,?_,hC.app X,rfl,?_,?_⟩
     ·dsimp only;rw [hub];exact hG.mono Ya
     ·dsimp only;rw [hN];simp;omega
     ·dsimp only;rw [hub,hxc];exact (hcr.mono Ya).links X
   ·dsimp only
    cases more with
    |nil=>exact hcsz
    |cons y z=>
     intro d hd;rcases List.mem_cons.1 hd with rfl|hd
     ·exact ⟨hc1,hb1⟩
     ·exact hcsz d hd
   ·dsimp only at hmul⊢;rw [c2,List.length_append,c3];omega
   ·dsimp only;rw [←hxl];exact c1
theorem QlG {q F:Nat}:∀(ds:List XC) (cs:List Ch) (n:Nat) (s:SS) (x:XS),s.ch=cs→x.ch=ds→XIn q F s x→QcD cs<n→QqR q F (QaH n s) (Qig ds x)
 |[],cs,n,s,x,hs,hx,hI,hn=>by
  have h1:=hI.ch;rw [hs,hx] at h1
  cases cs with
  |cons c cs=>exact h1.elim
  |nil=>
   obtain ⟨n,rfl⟩:∃m,n=m+1:=⟨n-1,by omega⟩
   simp only [QaH,hs,Qig];exact ⟨rfl,hI.ev,fun h=>by cases h⟩
 |d::ds,cs,n,s,x,hs,hx,hI,hn=>by
  have h1:=hI.ch;rw [hs,hx] at h1
  cases cs with
  |nil=>exact h1.elim
  |cons c cs=>
   obtain ⟨R,g,b1,b2,b3,b4,b5,b6,b7⟩:=h1;have hcok:=hI.inv.ch;rw [hs] at hcok;have hne:=hcok.2.2.2.1;obtain ⟨e1,e2⟩:=b1.len;have hcz:=hI.csz d (by rw [hx];exact List.mem_cons_self ..);simp only [Qig];rw [b5]
   have hback:x.back d ds=⟨g,x.goals,x.ln,x.first,ds,x.ev⟩:=by unfold XS.back;rw [QtJ hI.gd hI.ho b1 b2]
   rw [hback];refine Qmg (cs:=cs) (fun n s x h1 h2 h3 h4=>QlG ds cs n s x h1 h2 h3 h4) (bd:=c.bound) (cg:=c.g) (next:=c.next) c.cls n s ⟨g,x.goals,x.ln,x.first,ds,x.ev⟩ ?_ rfl hI.inv hI.ev hI.fuel hI.f150 hI.q8 b2 (fun y hy=>hI.csz y (by rw [hx];exact List.mem_cons_of_mem _ hy)) hI.lsz hI.lnx b6 b7 ⟨R,b3,b4⟩ e1.symm e2.symm hcz.1 hcz.2 (by rw [hs];exact hn);rw [hs]
   cases hcc:c.cls with
   |nil=>exact absurd hcc hne
   |cons y z=>obtain ⟨cg,cn,cc,cb⟩:=c;dsimp only at hcc⊢;rw [hcc];rfl
theorem Qe6 {q F:Nat} {s:SS} {x:XS} (hI:XIn q F s x):QqR q F (QV s) (QdE x):=QlG x.ch s.ch (QcD s.ch+1) s x rfl rfl hI (Nat.lt_succ_self _)
section
variable {h:HH} {R:List Int} {M:List Bool}
theorem Cx.inj (C:Cx h R M) {a b:Int} (ha:Rc h.cs R a) (hb:Rc h.cs R b) (e:rkI M a=rkI M b):a=b:=by
 obtain ⟨a0,_,am⟩:=C.rc ha;obtain ⟨b0,_,bm⟩:=C.rc hb;have:=Qr5 am bm (by simp only [rkI] at e;omega);omega
theorem Cx.ends (C:Cx h R M) {n:Nat} {a x:Int} (he:Qcg h.cs n a x):Rc h.cs R a→Qcg (QaZ M h.cs) n (rkI M a) (rkI M x)∧Rc h.cs R x:=by
 induction he with
 | @here a c h0 h1=>
  intro ha;refine ⟨.here (C.cell ha h0) ?_,ha⟩;rintro ⟨k,n⟩;rw [Qfh] at k;have hn:c.n=a:=Classical.byContradiction fun e=>h1 ⟨k,e⟩;unfold QbN at n;rw [if_pos k,hn] at n;exact n rfl
 | @there n a x c h0 h1 h2 h3 ih=>
  intro ha;have hr:=Rc.ref ha h0 h1;obtain ⟨i1,i2⟩:=ih hr;refine ⟨.there (C.cell ha h0) (by rw [Qfh];exact h1) ?_ ?_,i2⟩
  ·unfold QbN;rw [if_pos h1];exact fun e=>h2 (C.inj hr ha e)
  ·unfold QbN;rw [if_pos h1];exact i1
end
def Qda (M:List Bool) (h:HH):HH:=⟨QaZ M h.cs,Qbo M h.tr⟩
section
variable {h:HH} {Q:List Int} {M:List Bool}
theorem Qgf (C:Cx h Q M) (ho:HOk h):HOk (Qda M h):=by
 have hg:=C.kept_good;refine ⟨?_,fun a ha=> ?_,?_⟩
 ·simp only [QG,Q9,Bool.and_eq_true] at hg;exact hg.1.2
 ·obtain ⟨a0,a1⟩:=Qm.1 ha;obtain ⟨d,hd⟩:=Qse (L:=QaZ M h.cs) a0 a1;obtain ⟨i,c,hr,hc,_,hi⟩:=C.back (Qa7.1 hd).2.2;obtain ⟨x,n,hx⟩:=ho.ends (i:Int) (QdY.2 ⟨c,hc⟩);obtain ⟨h1,_⟩:=C.ends hx hr;refine ⟨rkI M x,n,?_⟩;rw [show rkI M (i:Int)=a by simp only [rkI,Int.toNat_natCast];omega] at h1;exact h1
 ·simp only [QG,QbJ,Bool.and_eq_true,List.all_eq_true] at hg;exact hg.2.2
theorem Qgs (C:Cx h Q M) (ho:HOk h) {a:Int} (ha:Rc h.cs Q a):∃x c,Rc h.cs Q x∧hat h.cs x=some c∧(Q2 h a=if c.k=0 then .var x else .node c.k (ctl c) c.s (ups (x+1) (QI c).toNat))∧(Q2 (Qda M h) (rkI M a)=if c.k=0 then .var (rkI M x) else .node c.k (ctl c) c.s (ups (rkI M x+1) (QI c).toNat)):=by
 obtain ⟨x,c,⟨n,h1⟩,h2,h3,h4⟩:=ho.view (ha.addr C.gl);obtain ⟨e1,e2⟩:=C.ends h1 ha;refine ⟨x,c,e2,h2,h4,?_⟩;rw [Qaj (h:=Qda M h) ⟨n,e1⟩ (C.cell e2 h2)];rw [Qfh,Qpy,Qn4];by_cases hk:c.k=0
 ·rw [if_pos hk,if_pos hk]
 ·rw [if_neg hk,if_neg hk]
  have:ctl (QbN M c)=ctl c:=by unfold QbN;rw [if_neg hk]
  rw [this]
theorem Qsu {X:Type} {R R':X→Int→Prop}:∀{m:Nat} {l:List X} {p p':Int},Al R l (ups p m)→(∀i:Int,0≤i→i<m→∀t,R t (p+i)→R' t (p'+i))→Al R' l (ups p' m)
 |0,l,p,p',h,_=>by
  cases h;exact .nil
 |m+1,l,p,p',h,hi=>by
  cases h with
  |cons h1 h2=>
   refine .cons ?_ (Qsu h2 fun i i0 i1 t ht=> ?_)
   ·have:=hi 0 Ya Ya _ (by rw [show p+0=p by omega];exact h1)
    rwa [show p'+0=p' by omega] at this
   ·have:=hi (i+1) Ya Ya t (by rw [show p+(i+1)=p+1+i by omega];exact ht)
    rwa [show p'+(i+1)=p'+1+i by omega] at this
def Qti (M:List Bool) (Q:List Int) (L:List HC) (R:Tm→Int→Prop) (t:Tm) (b:Int):Prop:=∃a,R t a∧Rc L Q a∧b=rkI M a
theorem QfG.coll (C:Cx h Q M) {q f:Nat} {B:Bnd} {R:Tm→Int→Prop} (H:QfG q f B h R) (hq:∀v:Nat,v<q→Rc h.cs Q (v:Nat)∧rk M v=v):QfG q f B (Qda M h) (Qti M Q h.cs R):=by
 have ho:HOk h:=H.bm.okb;refine ⟨⟨H.bm.oka,Qgf C ho,fun _=>trivial,?_,?_,?_⟩,H.fb,fun t b ⟨a,hr,_⟩=>H.low t a hr,fun v hv=>⟨v,H.qv v hv,(hq v hv).1,?_⟩⟩
 ·rintro t b ⟨a,hr,hc,rfl⟩;have:=C.lt hc;exact Qm.2 ⟨by simp only [rkI];omega,by show rkI M a<((QaZ M h.cs).length:Int);simp only [rkI];omega⟩
 ·rintro t b ⟨a,hr,hc,rfl⟩;obtain ⟨x,c,e1,e2,e3,e4⟩:=Qgs C ho hc;have hv:VwR R (QaL B t) (Q2 h a):=H.bm.vw hr;show VwR _ (QaL B t) (Q2 (Qda M h) (rkI M a));rw [e3] at hv;rw [e4];by_cases hk:c.k=0
  ·rw [if_pos hk] at hv⊢
   cases ht:QaL B t with
   |var u=>trivial
   |node k n s ar=>rw [ht] at hv;exact hv.elim
  ·rw [if_neg hk] at hv⊢
   cases ht:QaL B t with
   |var u=>rw [ht] at hv;exact hv.elim
   |node k n s ar=>
    rw [ht] at hv;obtain ⟨p1,p2,p3,p4⟩:=hv;refine ⟨p1,p2,p3,Qsu p4 fun i i0 i1 t' ht'=>⟨x+1+i,ht',Rc.arg (c:=c) e1 e2 i0 Ya,(C.arg (c:=c) e1 e2 i0 Ya).symm⟩⟩
 ·rintro t b t' b' u u' v v' ⟨a,hr,hc,rfl⟩ ⟨a',hr',hc',rfl⟩ e1 e2 e3 e4;obtain ⟨x,c,x1,x2,x3,x4⟩:=Qgs C ho hc;obtain ⟨y,d,y1,y2,y3,y4⟩:=Qgs C ho hc';have e3:Q2 (Qda M h) (rkI M a)= .var v:=e3;have e4:Q2 (Qda M h) (rkI M a')= .var v':=e4;rw [x4] at e3;rw [y4] at e4;split at e3
  ·rename_i kx;split at e4
   ·rename_i ky;cases e3;cases e4
    rw [if_pos kx] at x3;rw [if_pos ky] at y3;have h1:(u=u'↔x=y):=H.bm.vr hr hr' e1 e2 x3 y3;rw [h1];constructor
    ·rintro rfl;rfl
    ·intro e;exact C.inj x1 y1 e
   ·cases e4
  ·cases e3
 ·show ((v:Nat):Int)=((rk M ((v:Nat):Int).toNat:Nat):Int);rw [Int.toNat_natCast,(hq v hv).2]
theorem Dr.coll (C:Cx h Q M) {a:Int} (ha:Rc h.cs Q a) (hd:Dr h a):Dr (Qda M h) (rkI M a):=by
 obtain ⟨c,hc,hk⟩:=hd;exact ⟨_,C.cell ha hc,by rw [Qfh];exact hk⟩
theorem GR.coll (C:Cx h Q M) {R:Tm→Int→Prop} {t:Tm} {a:Int} (ha:Rc h.cs Q a) (hg:GR R h t a):GR (Qti M Q h.cs R) (Qda M h) t (rkI M a):=⟨⟨a,hg.1,ha,rfl⟩,hg.2.1.coll C ha,hg.2.2⟩
end
theorem Qas {α:Type} (f:α→Bool):∀T:List α,kept T (T.map f)=T.filter f
 |[]=>rfl
 |x::r=>by
  simp only [List.map_cons,kept,List.filter_cons,Qas f r]
theorem Qdq {α:Type} (f:α→Bool) (T:List α) (n:Nat):rk (T.map f) n=((T.take n).filter f).length:=by
 unfold rk;rw [←List.map_take,List.count_eq_length_filter,List.filter_map,List.length_map];congr 2;funext x;simp [Function.comp]
theorem QiY {M:List Bool} {top n:Nat} (h:n≤top):rk (M.take top) n=rk M n:=by
 unfold rk;rw [List.take_take,Nat.min_eq_left h]
theorem Qou (M:List Bool) (T:List Int) (n:Nat):(Qbo M T).take (rk (T.map (Qq M)) n)=Qbo M (T.take n):=by
 unfold Qbo;rw [←List.map_take,Qas,Qas,Qdq];congr 1;have e:T.filter (Qq M)=(T.take n).filter (Qq M)++(T.drop n).filter (Qq M):=by rw [←List.filter_append,List.take_append_drop]
 rw [e,List.take_left]
theorem Qov (M:List Bool) (T:List Int) (n:Nat):(Qbo M T).drop (rk (T.map (Qq M)) n)=Qbo M (T.drop n):=by
 unfold Qbo;rw [←List.map_drop,Qas,Qas,Qdq];congr 1;have e:T.filter (Qq M)=(T.take n).filter (Qq M)++(T.drop n).filter (Qq M):=by rw [←List.filter_append,List.take_append_drop]
 rw [e,List.drop_left]
def QgY (M:List Bool) (top:Nat):List Int:=((List.range top).filter fun i=>decide (M[i]?=some true)).map fun i=>((i:Nat):Int)
theorem Qeh {M:List Bool} {top:Nat} {a:Int}:a∈QgY M top↔0≤a∧a<top∧M[a.toNat]?=some true:=by
 unfold QgY;simp only [List.mem_map,List.mem_filter,List.mem_range,decide_eq_true_eq];constructor
 ·rintro ⟨i,⟨h1,h2⟩,rfl⟩;exact ⟨by omega,by omega,by rw [Int.toNat_natCast];exact h2⟩
 ·rintro ⟨h0,h1,h2⟩;exact ⟨a.toNat,⟨by omega,h2⟩,by omega⟩
section
variable {h g:HH} {Q:List Int} {M:List Bool} {n top:Nat}
theorem Bk.cell (ho:HOk h) (b:Bk h n top g) {a:Int} {c:HC} (hc:hat g.cs a=some c):a<top∧((a∈h.tr.drop n∧∃d,hat h.cs a=some d∧d.k=0∧c=⟨d.k,a,d.s⟩)∨(a∉h.tr.drop n∧hat h.cs a=some c)):=by
 obtain ⟨a0,a1,a2⟩:=Qa7.1 hc;obtain ⟨l1,l2⟩:=b.len;have ht:=b.ht
 have e3:g.cs[a.toNat]?=if ((a.toNat:Nat):Int)∈h.tr.drop n then (h.cs[a.toNat]?).map (fun c=>⟨c.k,a.toNat,c.s⟩) else h.cs[a.toNat]?:=by
  rw [←QcS ho.nn,b.eq];show ((Qbf _ _).take top)[a.toNat]?=_;rw [List.getElem?_take,if_pos Ya]
 rw [show ((a.toNat:Nat):Int)=a by omega] at e3;refine ⟨by omega,?_⟩;by_cases hm:a∈h.tr.drop n
 ·rw [if_pos hm,a2] at e3;obtain ⟨d,hd,hdk⟩:=ho.pos (List.mem_of_mem_drop hm);rw [(Qa7.1 hd).2.2] at e3;simp only [Option.map_some,Option.some.injEq] at e3;exact .inl ⟨hm,d,hd,hdk,e3⟩
 ·rw [if_neg hm,a2] at e3;exact .inr ⟨hm,Qa7.2 ⟨a0,by omega,e3.symm⟩⟩
theorem Qsg (C:Cx h Q M) (ho:HOk h) (b:Bk h n top g) (hg:QG g=true):Cx g (QgY M top) (M.take top):=by
 obtain ⟨l1,l2⟩:=b.len;have ht:=b.ht;have hml:=C.mks.1
 have key:∀{a:Int},Rc g.cs (QgY M top) a→M[a.toNat]?=some true:=by
  intro a ha
  induction ha with
  |root h1 h2=>exact (Qeh.1 h1).2.2
  | @ref a c h1 hc hk ih=>
   have a0:=(Qa7.1 hc).1;rcases (b.cell ho hc).2 with ⟨_,d,_,_,rfl⟩|⟨_,hh⟩
   ·exact ih
   ·have hr:Rc h.cs Q a:=by
     have:=(C.mark ih).2
     rwa [show ((a.toNat:Nat):Int)=a by omega] at this
    exact (C.rc (Rc.ref hr hh hk)).2.2
  | @arg a c i h1 hc i0 i1 ih=>
   have a0:=(Qa7.1 hc).1;rcases (b.cell ho hc).2 with ⟨_,d,_,hdk,rfl⟩|⟨_,hh⟩
   ·unfold QI at i1;rw [if_neg (by dsimp only;omega)] at i1;omega
   ·have hr:Rc h.cs Q a:=by
     have:=(C.mark ih).2
     rwa [show ((a.toNat:Nat):Int)=a by omega] at this
    exact (C.rc (Rc.arg hr hh i0 i1)).2.2
 refine ⟨hg,by rw [List.length_take];omega,fun i hi=> ?_⟩;rw [List.getElem?_take,if_pos Ya];constructor
 ·intro hm;exact .root (Qeh.2 ⟨by omega,by omega,by rw [Int.toNat_natCast];exact hm⟩) (Qm.2 ⟨by omega,by omega⟩)
 ·intro hr;have:=key hr
  rwa [Int.toNat_natCast] at this
theorem Qf8 {a:Int} (h:a<top):rkI (M.take top) a=rkI M a:=by
 simp only [rkI];rw [QiY Ya]
theorem Qqn {T:List Int} (hT:∀a∈T,0≤a∧a<top):Qbo (M.take top) T=Qbo M T:=by
 unfold Qbo;rw [Qas,Qas]
 have e:T.filter (Qq (M.take top))=T.filter (Qq M):=List.filter_congr fun a ha=>by
  have:=hT a ha;unfold Qq;rw [List.getElem?_take,if_pos Ya]
 rw [e];refine List.map_congr_left fun a ha=> ?_;have:=hT a (List.mem_filter.1 ha).1;exact Qf8 this.2
theorem Bk.coll (C:Cx h Q M) (ho:HOk h) (b:Bk h n top g) (hg:QG g=true):Bk (Qda M h) (rk (h.tr.map (Qq M)) n) (rk M top) (Qda (M.take top) g):=by
 have S:=Qsg C ho b hg;obtain ⟨l1,l2⟩:=b.len;have hn:=b.hn;have ht:=b.ht;have hml:=C.mks.1;have hco:=Qgf C ho;have hgo:=b.ok
 have hgt:∀a∈g.tr,0≤a∧a<top:=fun a ha=>by
  obtain ⟨c,hc,_⟩:=hgo.pos ha;have:=Qa7.1 hc;omega
 have hgtr:g.tr=h.tr.take n:=by rw [b.eq]
 have htk:Qbo (M.take top) g.tr=(Qbo M h.tr).take (rk (h.tr.map (Qq M)) n):=by rw [Qqn hgt,Qou,hgtr]
 have hlen:(QaZ (M.take top) g.cs).length=rk M top:=by
  rw [S.len,List.length_take,Nat.min_eq_left Ya,QiY (Nat.le_refl _)]
 have hlenh:rk M top≤(QaZ M h.cs).length:=by rw [C.len];exact Qpv M Ya
 refine ⟨?_,hlenh,?_,Qgf S hgo⟩
 ·show _≤(Qbo M h.tr).length;unfold Qbo;rw [List.length_map,Qas,Qdq];exact ((List.take_sublist n h.tr).filter _).length_le
 ·show (⟨QaZ (M.take top) g.cs,Qbo (M.take top) g.tr⟩:HH)=_;rw [htk];congr 1;refine List.ext_getElem? fun j=> ?_;rw [List.getElem?_take];by_cases hj:j<rk M top
  ·rw [if_pos hj,QcS hco.nn];have hd:(Qda M h).tr.drop (rk (h.tr.map (Qq M)) n)=Qbo M (h.tr.drop n):=Qov M h.tr n;rw [hd]
   obtain ⟨d,hd1⟩:∃d,(QaZ (M.take top) g.cs)[j]?=some d:=⟨_,List.getElem?_eq_getElem Ya⟩
   obtain ⟨i,c,hr,hc,rfl,hi⟩:=S.back hd1;obtain ⟨r0,r1,r2⟩:=S.rc hr;rw [Int.toNat_natCast,List.getElem?_take,if_pos Ya] at r2;rw [QiY Ya] at hi
   have hmem:(j:Int)∈Qbo M (h.tr.drop n)↔(i:Int)∈h.tr.drop n:=by
    unfold Qbo;rw [Qas];simp only [List.mem_map,List.mem_filter];constructor
    ·rintro ⟨a,⟨ha,hma⟩,e⟩;obtain ⟨c',hc',_⟩:=ho.pos (List.mem_of_mem_drop ha);have a0:=(Qa7.1 hc').1;have:=Qr5 (Qap.1 hma) r2 (by simp only [rkI] at e;omega);rw [show (i:Int)=a by omega];exact ha
    ·intro ha;exact ⟨i,⟨ha,Qap.2 (by rw [Int.toNat_natCast];exact r2)⟩,by simp only [rkI,Int.toNat_natCast];omega⟩
   have hcell:∀d,hat h.cs (i:Int)=some d→(QaZ M h.cs)[j]?=some (QbN M d):=by
    intro d hd;unfold QaZ;rw [List.getElem?_map,←hi,Qjg r2 (by have:=(Qa7.1 hd).2.2;rwa [Int.toNat_natCast] at this)];rfl
   rw [hd1];rcases (b.cell ho hc).2 with ⟨hm,d,hd,hdk,rfl⟩|⟨hm,hh⟩
   ·rw [if_pos (hmem.2 hm),show (Qda M h).cs[j]?=_ from hcell d hd];simp only [Option.map_some,Option.some.injEq];unfold QbN;rw [if_pos (by exact hdk),if_pos hdk];simp only [HC.mk.injEq,true_and,and_true];rw [Qf8 Ya];simp only [rkI,Int.toNat_natCast];omega
   ·rw [if_neg (fun e=>hm (hmem.1 e)),show (Qda M h).cs[j]?=_ from hcell c hh];congr 1;unfold QbN;by_cases hk:c.k=0
    ·rw [if_pos hk,if_pos hk];have:=Qgi S.gl hc hk;rw [Qf8 Ya]
    ·rw [if_neg hk,if_neg hk]
  ·rw [if_neg hj,List.getElem?_eq_none Ya]
end
end Go.Proofs.YthliapbflkfdiacGreatDoor
