/- RefEq, RefEq2, IntMap, MapM, Program, Nums, Ren: texts that follow one another, laid into one file. -/
import Derived.Test.YthliapbflkfdiacGreatDoorZ0
import Derived.Test.YthliapbflkfdiacGreatDoorG5
import Derived.Test.YthliapbflkfdiacGreatDoorG1
import Derived.MapKept
import Derived.Maps.OwnOps
import Derived.Test.YthliapbflkfdiacGreatDoorG2
import Derived.Test.YthliapbflkfdiacGreatDoorG4
import Derived.Test.YthliapbflkfdiacGreatDoorRows
import Derived.StillTailTactics
import Derived.Deep.QuietTactic
import Derived.BigQuiet
import Derived.Test.YthliapbflkfdiacGreatDoorG0
import Derived.Deep.LoopGhost
import Derived.Deep.RegionLaw
import Derived.Deep.DeepCutAuto
namespace Go.Proofs.YthliapbflkfdiacGreatDoor
open Go.RowKit Go.Shelf
set_option linter.unusedVariables false
set_option linter.unusedSimpArgs false
set_option maxRecDepth 100000
def QkL (x:Str):Prop:=x=[]∨x=[45]
def Qcy (p:PS):Prop:=p.bad=true∨∃x∈p.l,QkL x
def Qzy (t:Str):Prop:=t≠[]∧((Qa7 (Qeq t)||(Qeq t==45))=true→Qv4 t)∧(Qeq t=33→t=[33])
def Qkt (s:RS) (p:PS):Prop:=s.err=0∧p.bad=false∧s.vars=p.vars∧((s.token=[]∧s.rest=[]∧p.l=[])∨(Qzy s.token∧p.l=s.token::Qbj s.rest))
def Qv8 (s:RS) (p:PS):Prop:=s.err=1∧s.token=[]∧s.rest=[]∧Qcy p
def Rel (s:RS) (p:PS):Prop:=Qkt s p∨Qv8 s p
theorem Qcy.pop {p:PS} {t:Str} {r:List Str} (h:Qcy p) (hl:p.l=t::r) (ht:¬QkL t):Qcy p.pop:=by
 rcases h with h|⟨x,hx,hb⟩
 ·exact .inl h
 ·rw [hl] at hx
  rcases List.mem_cons.1 hx with rfl|hx
  ·exact absurd hb ht
  ·exact .inr ⟨x,by simp [PS.pop,hl,hx],hb⟩
theorem Qcy.has {p:PS} {t:Str} (h:Qcy p) (hh:p.has t=true) (ht:¬QkL t):Qcy p.pop:=h.pop (Qer hh).2 ht
theorem Qcy.close {p:PS} {t:Str} (h:Qcy p) (ht:¬QkL t):Qcy (p.close t):=by
 unfold PS.close
 split
 ·exact h
 split
 ·rename_i hh;exact h.has hh ht
 ·exact .inl rfl
theorem Qcy.var {p:PS} (x:Str) (h:Qcy p):Qcy (p.var x).2:=by
 unfold PS.var
 split
 ·exact h
 ·exact h
def Qo3 (f:PS→Nd×PS):Prop:=∀p,Qcy p→Qcy (f p).2
theorem Qcy.loop {f:PS→Nd×PS} (hf:Qo3 f):∀(n:Nat) (p:PS),Qcy p→Qcy (QL f n p).2
 |0,p,h=>h
 |n+1,p,h=>by
  unfold QL
  split
  ·rename_i hh;exact Qcy.loop hf n _ (hf _ (h.has hh.2 (by simp [QkL])))
  ·exact h
theorem Qcy.terms {f:PS→Nd×PS} (hf:Qo3 f) (t:Str) (ht:¬QkL t) (p:PS) (h:Qcy p):Qcy (QO f t p).2:=(Qcy.loop hf _ _ (hf p h)).close ht
theorem Qcy.term:∀d,Qo3 (Ql d)
 |0,p,h=> .inl rfl
 | d + 1, p, h => by
  unfold Ql
  split
  ·exact .inl rfl
  ·exact .inl rfl
  ·rename_i c r q hl
   split
   ·rename_i e;exact h.pop hl (by rw [e];simp [QkL])
   split
   ·rename_i hne hu
    refine Qcy.var _ (h.pop hl ?_)
    rintro (e|e)
    ·cases e
    ·cases e;exact absurd hu Yf
   split
   ·by_cases e:c::r=[45]
    ·left;rw [e,Qpg];simp
    ·rcases h.pop hl (by rintro (e'|e');cases e';exact e e') with h'|h'
     ·left
      have:p.bad=true:=h'
      simp [this]
     ·exact .inr h'
   split
   ·exact .inl rfl
   ·rename_i h45 hlo
    have hb:¬QkL (c::r):=by
     rintro (e|e)
     ·cases e
     ·cases e;exact h45 rfl
    split
    ·rename_i hp;exact Qcy.terms (Qcy.term d) [41] (by simp [QkL]) _ ((h.pop hl hb).has hp (by simp [QkL]))
    ·exact h.pop hl hb
theorem Qv8.fail {s:RS} {p q:PS} (h:Qv8 s p) (e:Int) (hq:Qcy q):Qv8 (s.fail e) q:=⟨by simp [RS.fail,h.1],rfl,rfl,hq⟩
theorem Qv8.adv {s:RS} {p q:PS} (h:Qv8 s p) (hq:Qcy q):Qv8 s.adv q:=by
 have:s.adv=⟨[],[],s.vars,s.err⟩:=by
  unfold RS.adv
  rw [h.2.2.1]
  rfl
 rw [this]
 exact ⟨h.1,rfl,rfl,hq⟩
theorem Qkt.fail {s:RS} {p:PS} (h:Qkt s p) {q:PS} (hq:Qcy q):Qv8 (s.fail 1) q:=⟨by simp [RS.fail,h.1],rfl,rfl,hq⟩
theorem Qji {f:UInt8→Bool}:∀(l:Str),∀c∈l.take (Qaq f l),f c=true
 |[],c,h=>by simp at h
 |x::l,c,h=>by
  unfold Qaq at h
  cases hx:f x with
  |false=>rw [hx] at h;simp at h
  |true=>
   rw [hx] at h
   simp only [cond_true,List.take_succ_cons] at h
   rcases List.mem_cons.1 h with rfl|h
   ·exact hx
   ·exact Qji l c h
theorem Qwj {c:UInt8} (h:(upB c||Qce c)=true):Qa7 c=false∧(c==45)=false∧c≠33:=by
 have hh:∀n:Fin 256,(upB (UInt8.ofNat n.val)||Qce (UInt8.ofNat n.val))=true→Qa7 (UInt8.ofNat n.val)=false∧(UInt8.ofNat n.val==45)=false∧UInt8.ofNat n.val≠33:=by decide+kernel
 have:=hh ⟨c.toNat,c.toNat_lt⟩
 simp only [UInt8.ofNat_toNat] at this
 exact this h
theorem Qvl {c:UInt8} (h:Qa7 c=true):upB c=false∧Qce c=false∧(c==45)=false∧c≠33:=by
 have hh:∀n:Fin 256,Qa7 (UInt8.ofNat n.val)=true→upB (UInt8.ofNat n.val)=false∧Qce (UInt8.ofNat n.val)=false∧(UInt8.ofNat n.val==45)=false∧UInt8.ofNat n.val≠33:=by decide+kernel
 have:=hh ⟨c.toNat,c.toNat_lt⟩
 simp only [UInt8.ofNat_toNat] at this
 exact this h
theorem Qse {c:UInt8} (h:Qcc.contains c=true):Qa7 c=false∧(c==45)=false:=by
 have hh:∀n:Fin 256,Qcc.contains (UInt8.ofNat n.val)=true→Qa7 (UInt8.ofNat n.val)=false∧(UInt8.ofNat n.val==45)=false:=by decide+kernel
 have:=hh ⟨c.toNat,c.toNat_lt⟩
 simp only [UInt8.ofNat_toNat] at this
 exact this h
theorem Qwl (c:UInt8) (r:Str):(Qaw (c::r)=Qz (c::r)∧(Qaw (c::r)≠0→Qzy ((c::r).take (Qaw (c::r)))))∨(Qaw (c::r)=0∧Qz (c::r)=1∧c=45):=by
 have hT:∀x,1+x≠0:=fun x=>by omega
 by_cases h1:(upB c||Qce c)=true
 ·left
  have e1:Qaw (c::r)=1+Qaq Qce r:=by simp only [Qaw,h1,if_true]
  have e2:Qz (c::r)=1+Qaq Qce r:=by simp only [Qz,Bool.or_comm (Qce c),h1,if_true]
  rw [e1,e2]
  have hf:=Qwj h1
  refine ⟨rfl,fun _=>⟨by rw [Nat.add_comm,List.take_succ_cons];simp,fun h=> ?_,fun h=> ?_⟩⟩
  ·rw [Nat.add_comm,List.take_succ_cons] at h
   simp only [Qeq,hf.1,hf.2.1,Bool.or_self,Bool.false_eq_true] at h
  ·rw [Nat.add_comm,List.take_succ_cons] at h
   exact absurd h hf.2.2
 have h1':(upB c||Qce c)=false:=by simpa using h1
 by_cases h2:Qa7 c=true
 ·left
  have hf:=Qvl h2
  have e:Qaq Qa7 (c::r)=1+Qaq Qa7 r:=by simp [Qaq,h2];omega
  have e1:Qaw (c::r)=Qaq Qa7 (c::r):=by simp only [Qaw,h1',h2,Bool.false_eq_true,if_false,if_true]
  have e2:Qz (c::r)=1+Qaq Qa7 r:=by simp only [Qz,Bool.or_comm (Qce c),h1',h2,Bool.true_or,Bool.false_eq_true,if_false,if_true]
  rw [e1,e2]
  refine ⟨e,fun _=>⟨by rw [e,Nat.add_comm,List.take_succ_cons];simp,fun h=> .inl ⟨by rw [e,Nat.add_comm,List.take_succ_cons];simp,Qji _⟩,fun h=> ?_⟩⟩
  rw [e,Nat.add_comm,List.take_succ_cons] at h
  exact absurd h hf.2.2.2
 have h2':Qa7 c=false:=by simpa using h2
 by_cases h3:c=45
 ·subst h3
  have e2:Qz (45::r)=1+Qaq Qa7 r:=by
   have a1:(Qce 45||upB 45)=false:=by decide
   have a2:(Qa7 45||((45:UInt8)==45))=true:=by decide
   simp only [Qz,a1,a2,Bool.false_eq_true,if_false,if_true]
  have e1:Qaw (45::r)=if 0<Qaq Qa7 r then 1+Qaq Qa7 r else 0:=by
   simp only [Qaw,h1',h2',Bool.false_eq_true,if_false,if_true]
  by_cases h4:0<Qaq Qa7 r
  ·left
   rw [e1,e2,if_pos h4]
   refine ⟨rfl,fun _=>⟨by rw [Nat.add_comm,List.take_succ_cons];simp,fun h=> .inr ⟨r.take (Qaq Qa7 r),by rw [Nat.add_comm,List.take_succ_cons],?_,Qji r⟩,fun h=> ?_⟩⟩
   ·intro e
    have:=congrArg List.length e
    have hle:=Qc6 Qa7 r
    simp only [List.length_take,List.length_nil] at this
    omega
   ·rw [Nat.add_comm,List.take_succ_cons] at h
    have h':(45:UInt8)=33:=h
    exact absurd h' Yf
  ·right
   rw [e1,e2,if_neg h4]
   exact ⟨rfl,by omega,rfl⟩
 have h3':(c==45)=false:=by simp [h3]
 left
 by_cases h5:([58,45]:Str).isPrefixOf (c::r)=true
 ·have e1:Qaw (c::r)=2:=by
   simp only [Qaw,h1',h2',h3,Bool.false_eq_true,if_false]
   rw [if_pos h5]
  have e2:Qz (c::r)=2:=by
   simp only [Qz,Bool.or_comm (Qce c),h1',h2',h3',Bool.or_self,Bool.false_eq_true,if_false]
   rw [if_pos h5]
  rw [e1,e2]
  cases r with
  |nil=>simp [List.isPrefixOf] at h5
  |cons x r=>
   have:c=58:=by simp [List.isPrefixOf] at h5;exact h5.1.symm
   subst this
   exact ⟨rfl,fun _=>⟨by simp,fun h=>absurd h (by simp [Qeq,Qa7]),fun h=>absurd h (by simp [Qeq])⟩⟩
 have e1:Qaw (c::r)=if Qcc.contains c then 1 else 0:=by
  simp only [Qaw,h1',h2',h3,Bool.false_eq_true,if_false]
  rw [if_neg h5]
 have e2:Qz (c::r)=if Qcc.contains c then 1 else 0:=by
  simp only [Qz,Bool.or_comm (Qce c),h1',h2',h3',Bool.or_self,Bool.false_eq_true,if_false]
  rw [if_neg h5]
 rw [e1,e2]
 by_cases h6:Qcc.contains c=true
 ·rw [if_pos h6]
  have hf:=Qse h6
  refine ⟨rfl,fun _=>⟨by simp,fun h=> ?_,fun h=> ?_⟩⟩
  ·have:(Qa7 c||(c==45))=true:=h
   rw [hf.1,hf.2] at this
   cases this
  ·have:c=33:=h
   rw [this];rfl
 ·rw [if_neg h6]
  exact ⟨rfl,fun h=>absurd rfl h⟩
theorem QkQ:∀R:Str,Qbj R=Qbj (Qc5 R)
 |[]=>rfl
 |c::r=>by
  unfold Qc5
  rw [List.dropWhile_cons]
  split
  ·rename_i h;rw [Qi3 r h];exact QkQ r
  ·rfl
theorem QtC {R:Str} {c:UInt8} {r:Str} (h:Qc5 R=c::r):QfP c=false:=by
 unfold Qc5 at h
 induction R with
 |nil=>simp at h
 |cons x R ih=>
  rw [List.dropWhile_cons] at h
  split at h
  ·exact ih h
  ·rename_i hx;cases h;simpa using hx
theorem QvU {s:RS} {p:PS} (he:s.err=0) (hb:p.bad=false) (hv:s.vars=p.vars) (hl:p.l=Qbj s.rest):Rel s.adv p:=by
 rw [QkQ] at hl
 unfold RS.adv
 simp only
 cases ht:Qc5 s.rest with
 |nil=>
  rw [ht] at hl
  rw [if_neg Yd]
  exact .inl ⟨he,hb,hv,.inl ⟨rfl,rfl,hl⟩⟩
 |cons c r=>
  have hw:=QtC ht
  rw [ht] at hl
  rcases Qwl c r with ⟨h1,h2⟩|⟨h1,h2,h3⟩
  ·by_cases h0:Qaw (c::r)=0
   ·rw [if_pos ⟨h0,by simp⟩]
    rw [QeQ r hw Ya] at hl
    exact .inr ⟨by simp [RS.fail,he],rfl,rfl,.inr ⟨[],by rw [hl];simp,.inl rfl⟩⟩
   ·rw [if_neg (by simp [h0])]
    rw [QaP r hw Ya,←h1] at hl
    exact .inl ⟨he,hb,hv,.inr ⟨h2 h0,hl⟩⟩
  ·subst h3
   rw [if_pos ⟨h1,by simp⟩]
   rw [QaP r hw Ya,h2] at hl
   exact .inr ⟨by simp [RS.fail,he],rfl,rfl,.inr ⟨[45],by rw [hl];simp,.inr rfl⟩⟩
theorem Qkt.tok {s:RS} {p:PS} (h:Qkt s p) {t:Str} (ht:t≠[]):(s.token=t)↔p.has t=true:=by
 rcases h.2.2.2 with ⟨h1,_,h3⟩|⟨h1,h3⟩
 ·rw [h1];unfold PS.has;rw [h3];simp;exact fun e=>ht (by first|exact e|exact e.symm)
 ·unfold PS.has;rw [h3];simp
theorem Qkt.adv {s:RS} {p:PS} (h:Qkt s p) (hn:s.token≠[]):Rel s.adv p.pop:=by
 rcases h.2.2.2 with ⟨h1,_,_⟩|⟨h1,h3⟩
 ·exact absurd h1 hn
 ·exact QvU h.1 h.2.1 h.2.2.1 (by simp [PS.pop,h3])
theorem Rel.take {s:RS} {p:PS} (h:Rel s p) {t:Str} (ht:¬QkL t):Rel (s.take t) (p.close t):=by
 have hne:t≠[]:=fun e=>ht (.inl e)
 rcases h with h|h
 ·have e2:p.close t=if p.has t then p.pop else p.spoil:=by unfold PS.close;rw [if_neg (by simp [h.2.1])]
  rw [e2]
  by_cases e:s.token=t
  ·have e1:s.take t=s.adv:=by unfold RS.take;rw [if_pos e]
   rw [e1,if_pos ((h.tok hne).1 e)]
   exact h.adv (by rw [e];exact hne)
  ·have e1:s.take t=(s.fail 1).adv:=by unfold RS.take;rw [if_neg e]
   rw [e1,if_neg fun e'=>e ((h.tok hne).2 e')]
   exact .inr ((h.fail (q:=p.spoil) (.inl rfl)).adv (.inl rfl))
 ·have e1:s.take t=(s.fail 1).adv:=by unfold RS.take;rw [if_neg (by rw [h.2.1];exact fun e=>hne e.symm)]
  rw [e1]
  exact .inr ((h.fail 1 (h.2.2.2.close ht)).adv (h.2.2.2.close ht))
def QzJ (f:RS→Nd×RS) (g:PS→Nd×PS):Prop:=∀s p,Rel s p→Rel (f s).2 (g p).2∧((f s).2.err=0→(f s).1=(g p).1)
theorem Rel.live {s:RS} {p:PS} (h:Rel s p) (he:s.err=0):Qkt s p:=by
 rcases h with h|h
 ·exact h
 ·have:=h.1;omega
def Qo0 (f:RS→Nd×RS):Prop:=∀s,(f s).2.err=0→s.err=0
theorem Qca (s:RS) (e:Int) (he:e≠0):(s.fail e).err≠0:=by
 simp only [RS.fail]
 split
 ·exact he
 ·assumption
theorem QcO (s:RS) (h:s.adv.err=0):s.err=0:=by
 unfold RS.adv at h
 simp only at h
 split at h
 ·exact absurd h (Qca s 1 Yf)
 ·exact h
theorem Qdf (s:RS) (t:Str) (h:(s.take t).err=0):s.err=0∧s.token=t:=by
 unfold RS.take at h
 split at h
 ·rename_i e;exact ⟨QcO s h,e⟩
 ·exact absurd (QcO _ h) (Qca s 1 Yf)
theorem QhB {f:RS→Nd×RS} (hf:Qo0 f):∀(n:Nat) (s:RS),(Qbv f n s).2.err=0→s.err=0
 |0,s,h=>h
 |n+1,s,h=>by
  unfold Qbv at h
  split at h
  ·exact QcO s (hf _ (QhB hf n _ h))
  ·exact h
theorem Qf2 {f:RS→Nd×RS} (hf:Qo0 f):∀s:RS,(QY f s).2.err=0→(f s).2.err=0:=fun s h=>QhB hf _ _ h
theorem Qpf (s:RS) (x:Str):(s.var x).2.err=s.err:=by unfold RS.var;split<;>rfl
theorem Qck (num:Str→Option Int):∀d,Qo0 (QI num d)
 |0,s,h=>absurd h (Qca s 1 Yf)
 |d+1,s,h=>by
  unfold QI at h
  split at h
  ·exact absurd h (Qca s 1 Yf)
  ·simp only at h
   split at h
   ·rw [Qpf] at h;exact QcO s h
   split at h
   ·have h1:=(Qdf _ _ h).1
    have h2:=Qck num d _ (Qf2 (Qck num d) _ h1)
    exact QcO s (Qdf _ _ h2).1
   split at h
   ·exact QcO s h
   split at h
   ·simp only [RS.number] at h
    split at h
    ·exact QcO s h
    ·exact absurd h (Qca _ 1 Yf)
   ·exact absurd h (Qca _ 1 Yf)
theorem QzJ.loop {f:RS→Nd×RS} {g:PS→Nd×PS} (hb:QzJ f g) (hf:Qy4 f) (hg:Qqn g) (hs:Qo0 f) (hk:Qo3 g):∀(n:Nat) (s:RS) (p:PS),s.left≤n→Rel s p→
  Rel (Qbv f s.left s).2 (QL g p.l.length p).2∧((Qbv f s.left s).2.err=0→(Qbv f s.left s).1=(QL g p.l.length p).1):=by
 intro n
 induction n with
 |zero=>
  intro s p hn h
  rcases h with h|h
  ·have ht:s.token=[]:=by unfold RS.left at hn;exact List.eq_nil_of_length_eq_zero Ya
   have h1:¬s.token=[44]:=by rw [ht];simp
   rw [Qd1 h1,QbU fun e=>h1 ((h.tok Yd).2 e.2)]
   exact ⟨.inl h,fun _=>rfl⟩
  ·have h1:¬s.token=[44]:=by rw [h.2.1];simp
   rw [Qd1 h1]
   exact ⟨.inr ⟨h.1,h.2.1,h.2.2.1,Qcy.loop hk _ _ h.2.2.2⟩,fun e=>by have:=h.1;simp only at e;omega⟩
 |succ n ih=>
  intro s p hn h
  rcases h with h|h
  ·by_cases ht:s.token=[44]
   ·have hp:=(h.tok Yd).1 ht
    rw [Qoi hf ht,Qe5 hg ⟨h.2.1,hp⟩]
    have h1:=Qed s (by rw [ht];simp)
    have h2:=hf s.adv
    have h3:=h.adv (by rw [ht];simp)
    have h4:=hb _ _ h3
    have h5:=ih (f s.adv).2 (g p.pop).2 Ya h4.1
    refine ⟨h5.1,fun e=> ?_⟩
    simp only at e⊢
    rw [h5.2 e,h4.2 (QhB hs _ _ e)]
   ·rw [Qd1 ht,QbU fun e=>ht ((h.tok Yd).2 e.2)]
    exact ⟨.inl h,fun _=>rfl⟩
  ·have h1:¬s.token=[44]:=by rw [h.2.1];simp
   rw [Qd1 h1]
   exact ⟨.inr ⟨h.1,h.2.1,h.2.2.1,Qcy.loop hk _ _ h.2.2.2⟩,fun e=>by have:=h.1;simp only at e;omega⟩
theorem QzJ.terms {f:RS→Nd×RS} {g:PS→Nd×PS} (hb:QzJ f g) (hf:Qy4 f) (hg:Qqn g) (hs:Qo0 f) (hk:Qo3 g) (t:Str) (ht:¬QkL t) (s:RS) (p:PS) (h:Rel s p):
  Rel ((QY f s).2.take t) (QO g t p).2∧((QY f s).2.err=0→(QY f s).1=(QO g t p).1):=by
 have h1:=hb s p h
 have h2:=hb.loop hf hg hs hk _ (f s).2 (g p).2 (Nat.le_refl _) h1.1
 refine ⟨h2.1.take ht,fun e=> ?_⟩
 have e1:(QY f s).1=(f s).1::(Qbv f (f s).2.left (f s).2).1:=rfl
 have e2:(QO g t p).1=(g p).1::(QL g (g p).2.l.length (g p).2).1:=rfl
 rw [e1,e2,h1.2 (Qf2 hs s e),h2.2 e]
theorem Qkt.var {s:RS} {p:PS} (h:Qkt s p) (x:Str):(s.var x).1=(p.var x).1∧Qkt (s.var x).2 (p.var x).2:=by
 obtain ⟨h1,h2,h3,h4⟩:=h
 unfold RS.var PS.var
 rw [h3]
 split
 ·exact ⟨rfl,h1,h2,h3,h4⟩
 ·exact ⟨rfl,h1,h2,by simp,h4⟩
theorem Qv8.var {s:RS} {p:PS} (h:Qv8 s p) (x:Str):Qv8 (s.var x).2 (p.var x).2:=by
 refine ⟨by rw [Qpf];exact h.1,?_,?_,h.2.2.2.var x⟩
 ·unfold RS.var;split<;>exact h.2.1
 ·unfold RS.var;split<;>exact h.2.2.1
theorem Rel.var {s:RS} {p:PS} (h:Rel s p) (x:Str):Rel (s.var x).2 (p.var x).2∧((s.var x).2.err=0→(s.var x).1=(p.var x).1):=by
 rcases h with h|h
 ·exact ⟨.inl (h.var x).2,fun _=>(h.var x).1⟩
 ·exact ⟨.inr (h.var x),fun e=>by rw [Qpf] at e;have:=h.1;omega⟩
theorem Qg7 : ∀ d, QzJ (QI QX d) (Ql d)
 |0,s,p,h=>by
  refine ⟨?_,fun e=>absurd e (Qca s 1 Yf)⟩
  rcases h with h|h
  ·exact .inr (h.fail (.inl rfl))
  ·exact .inr (h.fail 1 (.inl rfl))
 | d + 1, s, p, h => by
  rcases h with h|h
  ·rcases h.2.2.2 with ⟨h1,h2,h3⟩|⟨h1,h3⟩
   ·have e1:QI QX (d+1) s=(Nd.zero,s.fail 1):=by unfold QI;rw [if_pos h1]
    have e2:Ql (d+1) p=(Nd.zero,p.spoil):=by unfold Ql;rw [h3]
    rw [e1,e2]
    exact ⟨.inr (h.fail (.inl rfl)),fun e=>absurd e (Qca s 1 Yf)⟩
   ·obtain ⟨hne,hnum,h33⟩:=h1
    cases ht:s.token with
    |nil=>exact absurd ht hne
    |cons c r=>
     rw [ht] at h3 hnum h33
     have hc:Qeq (c::r)=c:=rfl
     rw [hc] at hnum h33
     have hadv:=h.adv (by rw [ht];simp)
     have e1:=Qbe QX d ht
     have e2:Ql (d+1) p=if c::r=[33] then (⟨1,0,[33],.nil⟩,p.pop)
       else if upB c then (⟨0,(p.pop.var (c::r)).1,[],.nil⟩,(p.pop.var (c::r)).2)
       else if (c==45)||Qa7 c then (⟨2,(Qbd (c::r)).getD 0,[],.nil⟩,{ p.pop with bad:=p.bad||(Qbd (c::r)).isNone })
       else if Qce c=false then (Nd.zero,p.spoil)
       else if p.pop.has [40] then (⟨3,0,c::r,QaI (QO (Ql d) [41] p.pop.pop).1⟩,(QO (Ql d) [41] p.pop.pop).2)
       else (⟨1,0,c::r,.nil⟩,p.pop):=by
      conv=>lhs;unfold Ql
      rw [h3]
     by_cases e33:c=33
     ·have:=h33 e33
      subst e33
      cases this
      have f1:QI QX (d+1) s=(⟨1,0,[33],.nil⟩,s.adv):=e1
      rw [if_pos rfl] at e2
      rw [f1,e2]
      exact ⟨hadv,fun _=>rfl⟩
     rw [if_neg (by intro e;exact e33 (List.cons.inj e).1)] at e2
     by_cases hu:upB c=true
     ·rw [if_pos hu] at e1 e2
      rw [e1,e2]
      have hv:=hadv.var (c::r)
      exact ⟨hv.1,fun e=>by simp only at e⊢;rw [hv.2 e]⟩
     rw [if_neg hu] at e1 e2
     by_cases hd:((c==45)||Qa7 c)=true
     ·rw [if_pos hd] at e2
      have hnt:=hnum (by rw [Bool.or_comm];exact hd)
      have hlo:Qce c=false:=by
       have hh:∀n:Fin 256,((UInt8.ofNat n.val==45)||Qa7 (UInt8.ofNat n.val))=true→Qce (UInt8.ofNat n.val)=false:=by decide+kernel
       have:=hh ⟨c.toNat,c.toNat_lt⟩
       simp only [UInt8.ofNat_toNat] at this
       exact this hd
      rw [if_neg (by simp [hlo]),if_neg (by simp [hlo,e33]),if_pos (by rw [Bool.or_comm];exact hd)] at e1
      rw [e1,e2]
      unfold RS.number
      rw [Qux hnt]
      cases hv:Qbd (c::r) with
      |some v=>
       simp only [Option.getD_some,Option.isNone_some,Bool.or_false]
       refine ⟨?_,fun _=>trivial⟩
       have:({ p.pop with bad:=p.bad }:PS)=p.pop:=rfl
       rw [this];exact hadv
      |none=>
       simp only [Option.getD_none,Option.isNone_none,Bool.or_true]
       refine ⟨?_,fun e=>absurd e (Qca _ 1 Yf)⟩
       rcases hadv with ha|ha
       ·exact .inr (ha.fail (.inl rfl))
       ·exact .inr (ha.fail 1 (.inl rfl))
     rw [if_neg hd] at e2
     have hd2:¬(Qa7 c||(c==45))=true:=by rw [Bool.or_comm];exact hd
     by_cases hlo:Qce c=true
     ·rw [if_neg (by simp [hlo])] at e2
      by_cases hp:s.adv.token=[40]
      ·rw [if_pos (by simp [hlo,hp])] at e1
       rcases hadv with ha|ha
       ·have hh:=(ha.tok Yd).1 hp
        rw [if_pos hh] at e2
        have e3:s.adv.take [40]=s.adv.adv:=by unfold RS.take;rw [if_pos hp]
        rw [e3] at e1
        rw [e1,e2]
        have h4:=ha.adv (by rw [hp];simp)
        have h5:=(Qg7 d).terms (QbA QX d) (Qbu d) (Qck QX d) (Qcy.term d) [41] (by simp [QkL]) _ _ h4
        refine ⟨h5.1,fun e=> ?_⟩
        simp only at e⊢
        rw [h5.2 (Qdf _ _ e).1]
       ·exact absurd ha.2.1 (by rw [hp];simp)
      ·rw [if_neg (by simp [hp]),if_pos (by simp [hlo])] at e1
       rw [e1]
       rcases hadv with ha|ha
       ·rw [if_neg fun e=>hp ((ha.tok Yd).2 e)] at e2
        rw [e2]
        exact ⟨.inl ha,fun _=>rfl⟩
       ·rw [e2]
        refine ⟨.inr ⟨ha.1,ha.2.1,ha.2.2.1,?_⟩,fun e=>by have:=ha.1;simp only at e;omega⟩
        split
        ·rename_i hh
         exact Qcy.terms (Qcy.term d) [41] (by simp [QkL]) _ (ha.2.2.2.has hh (by simp [QkL]))
        ·exact ha.2.2.2
     ·have hlo':Qce c=false:=by simpa using hlo
      rw [if_pos hlo'] at e2
      rw [if_neg (by simp [hlo']),if_neg (by simp [hlo',e33]),if_neg hd2] at e1
      rw [e1,e2]
      refine ⟨?_,fun e=>absurd e (Qca _ 1 Yf)⟩
      rcases hadv with ha|ha
      ·exact .inr (ha.fail (.inl rfl))
      ·exact .inr (ha.fail 1 (.inl rfl))
  ·have e1:QI QX (d+1) s=(Nd.zero,s.fail 1):=by unfold QI;rw [if_pos h.2.1]
   rw [e1]
   exact ⟨.inr (h.fail 1 (Qcy.term _ _ h.2.2.2)),fun e=>absurd e (Qca s 1 Yf)⟩
theorem Qvo (p:PS) (t:Str) (h:p.bad=true):(p.close t).bad=true:=by unfold PS.close;rw [if_pos h];exact h
theorem Qsu (d:Nat) (p:PS) (h:(Ql d p).2.bad=false):(Ql d p).2.l.length<p.l.length:=by
 cases d with
 |zero=>cases h
 |succ d=>
  have hp:∀x r,p.l=x::r→p.pop.l.length<p.l.length:=fun x r e=>by simp [PS.pop,e]
  unfold Ql at h⊢
  split at h
  ·cases h
  ·cases h
  ·rename_i c r q hl
   have h1:=hp _ _ hl
   simp only [hl] at h1⊢
   split at h
   ·rw [if_pos Ye];exact h1
   rw [if_neg Ye]
   split at h
   ·rw [if_pos Ye,(QqZ _ _).1];exact h1
   rw [if_neg Ye]
   split at h
   ·rw [if_pos Ye];exact h1
   rw [if_neg Ye]
   split at h
   ·cases h
   rw [if_neg Ye]
   split at h
   ·rw [if_pos Ye]
    have h2:=Qgb (Qbu d) [41] p.pop.pop
    have h3:=QfV p.pop
    simp only
    omega
   ·rw [if_neg Ye];exact h1
theorem QyU (p:PS):(Q5 p).2.l.length≤p.l.length:=by
 unfold Q5
 split
 ·have h1:=Qgb (Qbu 24) [46] p.pop
  have h2:=QfV p
  unfold QJ
  omega
 ·exact QiT p _
theorem Qxh (p:PS) (h:p.bad=true):(Q5 p).2.bad=true:=by
 unfold Q5
 rw [if_neg (by simp [h])]
 exact Qvo p _ h
def Qv (p:PS):Cl×PS:=
 let h:=Ql 24 { p with vars:=[] }
 let q:=Q5 h.2
 (⟨h.1.k,h.1.n,⟨h.1.s.toArray⟩,h.1.ar,QaI q.1,(q.2.vars.length:Nat)⟩,q.2)
theorem QcD (p:PS) (h:(Qv p).2.bad=false):(Qv p).2.l.length<p.l.length:=by
 have h1:=QyU (Ql 24 { p with vars:=[] }).2
 have h2:(Ql 24 { p with vars:=[] }).2.bad=false:=by
  cases hb:(Ql 24 { p with vars:=[] }).2.bad with
  |false=>rfl
  |true=>
   have:=Qxh _ hb
   rw [show (Q5 (Ql 24 { p with vars:=[] }).2).2.bad=(Qv p).2.bad from rfl,h] at this
   cases this
 have h3:=Qsu 24 _ h2
 show (Q5 (Ql 24 { p with vars:=[] }).2).2.l.length<_
 have e:({ p with vars:=[] }:PS).l=p.l:=rfl
 rw [e] at h3
 omega
def QaD:Nat→PS→Option (List Cl)
 |0,p=>some []
 | n + 1, p => if p.l = [] then some [] else
     if (Qv p).2.bad=true∨cB (Qv p).1=false then none
     else (QaD n (Qv p).2).map ((Qv p).1::·)
theorem QnM:∀(n:Nat) (p:PS),p.l.length≤n→QaD n p=QaD p.l.length p:=by
 intro n
 induction n using Nat.strongRecOn with
 | _ n ih =>
  intro p hn
  cases n with
  |zero=>rw [Nat.le_zero.1 hn]
  |succ n=>
   cases hl:p.l with
   |nil=>simp [QaD,hl]
   |cons x r=>
    have hne:p.l≠[]:=by rw [hl];simp
    rw [hl] at hn
    simp only [List.length_cons] at hn⊢
    simp only [QaD,hne,if_false]
    split
    ·rfl
    ·rename_i hb
     have h1:=QcD p (by simp only [not_or] at hb;simpa using hb.1)
     rw [hl] at h1
     simp only [List.length_cons] at h1
     by_cases e:n=r.length
     ·rw [e]
     ·rw [ih n Ya _ Ya,ih r.length Ya _ Ya]
theorem QcC {p:PS} (hne:p.l≠[]) (hb:¬((Qv p).2.bad=true∨cB (Qv p).1=false)):QaD p.l.length p=(QaD (Qv p).2.l.length (Qv p).2).map ((Qv p).1::·):=by
 have h1:=QcD p (by simp only [not_or] at hb;simpa using hb.1)
 cases hl:p.l with
 |nil=>exact absurd hl hne
 |cons x r=>
  rw [hl] at h1
  simp only [List.length_cons] at h1⊢
  simp only [QaD,hne,if_false,if_neg hb]
  rw [QnM r.length _ Ya]
theorem Qa6 {p:PS} (hne:p.l≠[]) (hb:(Qv p).2.bad=true∨cB (Qv p).1=false):QaD p.l.length p=none:=by
 cases hl:p.l with
 |nil=>exact absurd hl hne
 |cons x r=>simp only [List.length_cons,QaD,hne,if_false,if_pos hb]
theorem Qgd {p:PS} (h:p.l=[]):QaD p.l.length p=some []:=by rw [h];rfl
theorem Qcy.body {p:PS} (h:Qcy p):Qcy (Q5 p).2:=by
 unfold Q5
 split
 ·rename_i hh;exact Qcy.terms (Qcy.term 24) [46] (by simp [QkL]) _ (h.has hh.2 (by simp [QkL]))
 ·exact h.close (by simp [QkL])
theorem Qcy.clause {p:PS} (h:Qcy p):Qcy (Qv p).2:=Qcy.body (Qcy.term 24 _ (show Qcy { p with vars:=[] } from h))
theorem Qcy.prog:∀(n:Nat) (p:PS),p.l.length≤n→p.bad=false→Qcy p→QaD p.l.length p=none:=by
 intro n
 induction n with
 |zero=>
  intro p hn hb h
  rcases h with h|⟨x,hx,_⟩
  ·rw [hb] at h;cases h
  ·have:=List.length_pos_of_mem hx;omega
 |succ n ih=>
  intro p hn hb h
  have hne:p.l≠[]:=by
   rcases h with h|⟨x,hx,_⟩
   ·rw [hb] at h;cases h
   ·intro e;rw [e] at hx;simp at hx
  by_cases hc:(Qv p).2.bad=true∨cB (Qv p).1=false
  ·exact Qa6 hne hc
  ·have h0:(Qv p).2.bad=false:=by simp only [not_or] at hc;simpa using hc.1
   have h1:=QcD p h0
   rw [QcC hne hc,ih _ Ya h0 h.clause]
   rfl
theorem Rel.body {s:RS} {p:PS} (h:Rel s p):Rel ((Qbw QX s).2.take [46]) (Q5 p).2∧(((Qbw QX s).2.take [46]).err=0→(Qbw QX s).1=(Q5 p).1):=by
 rcases h with h|h
 ·by_cases ht:s.token=[58,45]
  ·have hp:=(h.tok Yd).1 ht
   have e1:Qbw QX s=QY (QI QX 24) s.adv:=by unfold Qbw;rw [if_pos ht]
   have e2:Q5 p=QO (Ql 24) [46] p.pop:=by unfold Q5 QJ;rw [if_pos ⟨h.2.1,hp⟩]
   rw [e1,e2]
   have h5:=(Qg7 24).terms (QbA QX 24) (Qbu 24) (Qck QX 24) (Qcy.term 24) [46] (by simp [QkL]) _ _ (h.adv (by rw [ht];simp))
   exact ⟨h5.1,fun e=>h5.2 (Qdf _ _ e).1⟩
  ·have e1:Qbw QX s=([],s):=by unfold Qbw;rw [if_neg ht]
   have e2:Q5 p=([],p.close [46]):=by unfold Q5;rw [if_neg fun e=>ht ((h.tok Yd).2 e.2)]
   rw [e1,e2]
   exact ⟨Rel.take (.inl h) (by simp [QkL]),fun _=>rfl⟩
 ·have e1:Qbw QX s=([],s):=by unfold Qbw;rw [if_neg (by rw [h.2.1];simp)]
  rw [e1]
  have h2:=h.2.2.2.body
  have h3:s.take [46]=(s.fail 1).adv:=by unfold RS.take;rw [if_neg (by rw [h.2.1];simp)]
  rw [h3]
  have h4:=(h.fail 1 h2).adv h2
  exact ⟨.inr h4,fun e=>by have:=h4.1;omega⟩
theorem QgJ {s:RS} (h:s.token=[]):QP QX s.left s=([],s):=QnS QX h
theorem Rel.fresh {s:RS} {p:PS} (h:Rel s p):Rel { s with vars:=[] } { p with vars:=[] }:=by
 rcases h with h|h
 ·exact .inl ⟨h.1,h.2.1,rfl,h.2.2.2⟩
 ·exact .inr ⟨h.1,h.2.1,h.2.2.1,h.2.2.2⟩
theorem Rel.clause {s:RS} {p:PS} (h:Rel s p):∃s3,(Q8 QX s).2=(if cB (Q8 QX s).1 then s3 else s3.fail 1)∧Rel s3 (Qv p).2∧(s3.err=0→(Q8 QX s).1=(Qv p).1):=by
 have h1:=Qg7 24 _ _ h.fresh
 have h2:=h1.1.body
 refine ⟨(Qbw QX (QI QX 24 { s with vars:=[] }).2).2.take [46],rfl,h2.1,fun e=> ?_⟩
 have hl:=h2.1.live e
 have e1:=(Qdf _ _ e).1
 have e2:(QI QX 24 { s with vars:=[] }).2.err=0:=by
  unfold Qbw at e1
  split at e1
  ·exact QcO _ (Qck QX 24 _ (Qf2 (Qck QX 24) _ e1))
  ·exact e1
 simp only [Q8,Qv]
 rw [h1.2 e2,h2.2 e,hl.2.2.1]
theorem QwE:∀(n:Nat) (s:RS) (p:PS),s.left≤n→p.bad=false→Rel s p→
  match QaD p.l.length p with
  |some L=>(QP QX s.left s).1=L∧(QP QX s.left s).2.err=0
  |none=>(QP QX s.left s).2.err=1:=by
 intro n
 induction n with
 |zero=>
  intro s p hn hb h
  have ht:s.token=[]:=by unfold RS.left at hn;exact List.eq_nil_of_length_eq_zero Ya
  rw [QgJ ht]
  rcases h with h|h
  ·rcases h.2.2.2 with ⟨_,_,h3⟩|⟨h1,_⟩
   ·rw [Qgd h3];exact ⟨rfl,h.1⟩
   ·exact absurd ht h1.1
  ·rw [Qcy.prog _ p (Nat.le_refl _) hb h.2.2.2];exact h.1
 |succ n ih=>
  intro s p hn hb h
  by_cases ht:s.token=[]
  ·rw [QgJ ht]
   rcases h with h|h
   ·rcases h.2.2.2 with ⟨_,_,h3⟩|⟨h1,_⟩
    ·rw [Qgd h3];exact ⟨rfl,h.1⟩
    ·exact absurd ht h1.1
   ·rw [Qcy.prog _ p (Nat.le_refl _) hb h.2.2.2];exact h.1
  ·rw [QnT QX ht]
   have hlt:=Qfl QX s ht
   have hne:p.l≠[]:=by
    rcases h with h|h
    ·rcases h.2.2.2 with ⟨h1,_,_⟩|⟨_,h3⟩
     ·exact absurd h1 ht
     ·rw [h3];simp
    ·exact absurd h.2.1 ht
   obtain ⟨s3,e3,hr,heq⟩:=h.clause
   have hdead:∀s',s'.token=[]→s'.err=1→(QP QX s'.left s').2.err=1:=fun s' h1 h2=>by rw [QgJ h1];exact h2
   rcases hr with hl|hd
   ·rw [heq hl.1] at e3
    by_cases hc:cB (Qv p).1=true
    ·rw [if_pos hc] at e3
     have hb2:¬((Qv p).2.bad=true∨cB (Qv p).1=false):=by simp [hl.2.1,hc]
     rw [QcC hne hb2,e3]
     have h5:=ih s3 (Qv p).2 (by rw [e3] at hlt;omega) hl.2.1 (.inl hl)
     cases hp:QaD (Qv p).2.l.length (Qv p).2 with
     |none=>rw [hp] at h5;exact h5
     |some L=>
      rw [hp] at h5
      simp only [Option.map_some]
      exact ⟨by rw [heq hl.1,h5.1],h5.2⟩
    ·have hc':cB (Qv p).1=false:=by simpa using hc
     rw [if_neg hc] at e3
     rw [Qa6 hne (.inr hc'),e3]
     exact hdead _ rfl (by simp [RS.fail,hl.1])
   ·have h6:(Q8 QX s).2.token=[]∧(Q8 QX s).2.err=1:=by
     rw [e3]
     split
     ·exact ⟨hd.2.1,hd.1⟩
     ·exact ⟨rfl,by simp [RS.fail,hd.1]⟩
    have h7:=hdead _ h6.1 h6.2
    have h8:QaD p.l.length p=none:=by
     by_cases hc:(Qv p).2.bad=true∨cB (Qv p).1=false
     ·exact Qa6 hne hc
     ·have h0:(Qv p).2.bad=false:=by simp only [not_or] at hc;simpa using hc.1
      rw [QcC hne hc,Qcy.prog _ _ (Nat.le_refl _) h0 hd.2.2.2]
      rfl
    rw [h8]
    exact h7
def PS.start (l:Str):PS:=⟨Qbj l,[],false⟩
theorem Qnw (l:Str) (h:¬2000<l.length):Rel (RS.start l) (PS.start l):=by
 unfold RS.start
 rw [if_neg h]
 exact QvU rfl rfl rfl rfl
theorem Qk0 (l:Str) (h:2000<l.length):(RS.start l).token=[]∧(RS.start l).err=3:=by
 unfold RS.start
 rw [if_pos h]
 exact ⟨rfl,rfl⟩
def QF (l:Str):List Cl×Int:=
 if 2000<l.length then ([],3) else
 match QaD (PS.start l).l.length (PS.start l) with
 |none=>([],1)
 |some L=>if 24<L.length then ([],3) else (L,0)
theorem QjN (l:Str):QC QX l=QF l:=by
 unfold QC QF
 by_cases h:2000<l.length
 ·obtain ⟨h1,h2⟩:=Qk0 l h
  rw [if_pos h]
  have e:(if 24<([]:List Cl).length then (RS.start l).fail 3 else RS.start l)=RS.start l:=if_neg Yf
  simp only [QgJ h1,e]
  rw [if_neg (by rw [h2];decide),h2]
 ·rw [if_neg h]
  have h1:=QwE _ (RS.start l) (PS.start l) (Nat.le_refl _) rfl (Qnw l h)
  generalize QP QX (RS.start l).left (RS.start l)=q at h1⊢
  cases hp:QaD (PS.start l).l.length (PS.start l) with
  |none=>
   rw [hp] at h1
   simp only at h1⊢
   have e:(if 24<q.1.length then q.2.fail 3 else q.2).err=1:=by
    split
    ·simp [RS.fail,h1]
    ·exact h1
   rw [if_neg (by rw [e];decide),e]
  |some L=>
   rw [hp] at h1
   simp only at h1⊢
   rw [h1.1]
   by_cases h24:24<L.length
   ·rw [if_pos h24,if_pos h24]
    have e:(q.2.fail 3).err=3:=by simp [RS.fail,h1.2]
    rw [if_neg (by rw [e];decide),e]
   ·rw [if_neg h24,if_neg h24,if_pos h1.2]
def Qbo (l:Str):Ts×Nat×Int:=
 if 2000<l.length then (.nil,0,3) else
 let g:=QJ (PS.start l)
 if g.2.bad=true∨g.2.l≠[]∨qB (g.2.vars.length:Nat) (QaI g.1)=false then (.nil,0,1) else (QaI g.1,g.2.vars.length,0)
theorem QjL (l:Str):QM QX l=Qbo l:=by
 unfold QM Qbo
 by_cases h:2000<l.length
 ·obtain ⟨h1,h2⟩:=Qk0 l h
  rw [if_pos h]
  have e1:(QY (QI QX 24) (RS.start l)).2.err=3:=by
   have e0:(QI QX 24 (RS.start l)).2=(RS.start l).fail 1:=by unfold QI;rw [if_pos h1]
   unfold QY
   simp only [e0]
   rw [Qd1 (by simp [RS.fail])]
   simp [RS.fail,h2]
  have e2:∀s:RS,s.err=3→(s.take [46]).err=3:=by
   intro s hs
   unfold RS.take RS.adv
   simp only
   split<;>split<;>simp [RS.fail,hs]
  have e3:=e2 _ e1
  simp only
  generalize (QY (QI QX 24) (RS.start l)).2.take [46]=s at e3
  have e4:∀b:Prop,∀_:Decidable b,(if b then s else s.fail 1).err=3:=by
   intro b _
   split
   ·exact e3
   ·simp [RS.fail,e3]
  rw [if_neg (by rw [e4];decide),e4]
 ·rw [if_neg h]
  have h5:=(Qg7 24).terms (QbA QX 24) (Qbu 24) (Qck QX 24) (Qcy.term 24) [46] (by simp [QkL]) _ _ (Qnw l h)
  have h6:Rel ((QY (QI QX 24) (RS.start l)).2.take [46]) (QJ (PS.start l)).2:=h5.1
  have h7:((QY (QI QX 24) (RS.start l)).2.take [46]).err=0→(QY (QI QX 24) (RS.start l)).1=(QJ (PS.start l)).1:=fun e=>h5.2 (Qdf _ _ e).1
  clear h5
  simp only
  generalize QJ (PS.start l)=g at*
  generalize QY (QI QX 24) (RS.start l)=a at*
  generalize a.2.take [46]=s at*
  rcases h6 with hl|hd
  ·rw [h7 hl.1,hl.2.2.1]
   have htk:s.token=[]↔g.2.l=[]:=by
    rcases hl.2.2.2 with ⟨h1,_,h3⟩|⟨h1,h3⟩
    ·simp [h1,h3]
    ·rw [h3];simp [h1.1]
   by_cases hq:s.token=[]∧qB (g.2.vars.length:Nat) (QaI g.1)=true
   ·rw [if_pos hq,if_pos hl.1,if_neg (by simp [hl.2.1,htk.1 hq.1,hq.2]),hl.2.2.1]
   ·have e:(s.fail 1).err=1:=by simp [RS.fail,hl.1]
    rw [if_neg hq,if_neg (by rw [e];decide),e,if_pos]
    by_cases ht:s.token=[]
    ·right;right
     have:¬qB (g.2.vars.length:Nat) (QaI g.1)=true:=fun h=>hq ⟨ht,h⟩
     simpa using this
    ·right;left;exact fun e=>ht (htk.2 e)
  ·have e4:∀b:Prop,∀_:Decidable b,(if b then s else s.fail 1).err=1:=by
    intro b _
    split
    ·exact hd.1
    ·simp [RS.fail,hd.1]
   rw [if_neg (by rw [e4];decide),e4,if_pos]
   rcases hd.2.2.2 with h|⟨x,hx,_⟩
   ·exact .inl h
   ·right;left;intro e;rw [e] at hx;simp at hx
def Qb1 (w:World) (mb:Nat) (Qdy:List (Int×Value)):Prop:=
 ∃es clock,w.heap[mb]?=some (.map es clock)∧es.toList.map (fun e=>(e.key,e.val))=Qdy.map (fun x=>(Value.int .i64 x.1,x.2))
def Qta (n:Int):List (Int×Value)→Option Value
 |[]=>none
 |x::r=>if n=x.1 then some x.2 else Qta n r
def Qy8 (n:Int) (v:Value):List (Int×Value)→List (Int×Value)
 |[]=>[(n,v)]
 |x::r=>if n=x.1 then (n,v)::r else x::Qy8 n v r
def QrT (n:Int):List (Int×Value)→Nat→Option (Nat×Value)
 |[],_=>none
 |x::r,i=>if n=x.1 then some (i,x.2) else QrT n r (i+1)
theorem Qfe (n:Int):MapKept.IsKey (.int .i64) (.int .i64 n):=by simp [MapKept.IsKey]
theorem Qfj (n:Int):∀(es:List MapEntry) (Qdy:List (Int×Value)) (i:Nat),es.map (fun e=>(e.key,e.val))=Qdy.map (fun x=>(Value.int .i64 x.1,x.2))→
  Instr.findNow (.int .i64) (.int .i64 n) es i=some (QrT n Qdy i)
 |[],[],i,_=>rfl
 |[],_::_,_,h=>by simp at h
 |_::_,[],_,h=>by simp at h
 |e::es,x::Qdy,i,h=>by
  simp only [List.map_cons,List.cons.injEq,Prod.mk.injEq] at h
  obtain ⟨⟨h1,h2⟩,h3⟩:=h
  have ih:=Qfj n es Qdy (i+1) h3
  simp only [Instr.findNow,h1,Instr.sameNow,QrT,if_true]
  by_cases e1:n=x.1
  ·simp [e1,h2]
  ·have e2:(n==x.1)=false:=by simpa using e1
   rw [e2,if_neg e1,←ih]
theorem Qkq {n:Int}:∀{Qdy:List (Int×Value)} {i:Nat},QrT n Qdy i=none↔Qta n Qdy=none
 |[],_=>by simp [QrT,Qta]
 |x::r,i=>by
  simp only [QrT,Qta]
  by_cases e:n=x.1
  ·simp [e]
  ·simp only [e,if_false];exact Qkq
theorem QoZ {n:Int}:∀{Qdy:List (Int×Value)} {i j:Nat} {v:Value},QrT n Qdy i=some (j,v)→Qta n Qdy=some v
 |[],_,_,_,h=>by simp [QrT] at h
 |x::r,i,j,v,h=>by
  simp only [QrT,Qta] at*
  by_cases e:n=x.1
  ·simp only [e,if_true,Option.some.injEq,Prod.mk.injEq] at h⊢;exact h.2
  ·simp only [e,if_false] at h⊢;exact QoZ h
theorem Qg8 {n:Int} {v:Value}:∀{Qdy:List (Int×Value)},Qta n Qdy=none→Qy8 n v Qdy=Qdy++[(n,v)]
 |[],_=>rfl
 |x::r,h=>by
  simp only [Qta] at h
  by_cases e:n=x.1
  ·simp [e] at h
  ·simp only [e,if_false] at h
   simp only [Qy8,e,if_false,Qg8 h,List.cons_append]
theorem QoV {n:Int} {v u:Value}:∀{Qdy:List (Int×Value)} {i j:Nat},QrT n Qdy i=some (j,u)→i≤j∧(Qdy[j-i]?).map (·.1)=some n∧Qy8 n v Qdy=Qdy.set (j-i) (n,v)
 |[],_,_,h=>by simp [QrT] at h
 |x::r,i,j,h=>by
  simp only [QrT,Qy8] at*
  by_cases e:n=x.1
  ·simp only [e,if_true,Option.some.injEq,Prod.mk.injEq] at h
   obtain ⟨rfl,_⟩:=h
   simp [e]
  ·simp only [e,if_false] at h⊢
   obtain ⟨h1,h2,h3⟩:=QoV (v:=v) h
   have e1:j-i=(j-(i+1))+1:=by omega
   refine ⟨by omega,by rw [e1];simpa using h2,by rw [h3,e1];rfl⟩
section
variable {P:Program} {w:World} {mb:Nat} {Qdy:List (Int×Value)} {t kt et:TypeId}
theorem Qb1.lt (h:Qb1 w mb Qdy):mb<w.heap.size:=by
 obtain ⟨es,clock,hb,_⟩:=h
 exact (Array.getElem?_eq_some_iff.1 hb).1
theorem Qb1.keep {w':World} (h:Qb1 w mb Qdy) (hk:w'.heap[mb]?=w.heap[mb]?):Qb1 w' mb Qdy:=by
 obtain ⟨es,clock,hb,he⟩:=h
 exact ⟨es,clock,hk.trans hb,he⟩
theorem Qb1.made (w:World):Qb1 (w.alloc (.map #[] 0)) w.heap.size []:=⟨#[],0,heap_alloc_new w _,rfl⟩
theorem Qjv {P:Program} (t:TypeId) (w:World):(Instr.makeMap t none).run P w= .ok (.map (some w.heap.size)) (w.alloc (.map #[] 0)):=by
 simp [Instr.makeMap,newObj,Sem.run]
theorem Qb1.lookup (h:Qb1 w mb Qdy) {z:Value} (ht:P.underlying t=some (.map kt et)) (hk:P.underlying kt=some (.int .i64))
  (hz:(zeroValue et).run P w= .ok z w) (n:Int) (c:Bool):
  (Instr.lookup t (.map (some mb)) (.int .i64 n) c).run P w= .ok (if c then .tuple #[(Qta n Qdy).getD z,.bool (Qta n Qdy).isSome] else (Qta n Qdy).getD z) w:=by
 obtain ⟨es,clock,hb,he⟩:=h
 have hf:=Qfj n es.toList Qdy 0 he
 cases ha:QrT n Qdy 0 with
 |none=>
  rw [ha] at hf
  simp [Instr.lookup,run_underlying ht,MapKept.run_getObj_map hb,MapKept.run_checkKey hk (Qfe n),MapKept.run_findKey hk hf,hz,Result.andThen,Qkq.1 ha]
 |some x=>
  rw [ha] at hf
  simp [Instr.lookup,run_underlying ht,MapKept.run_getObj_map hb,MapKept.run_checkKey hk (Qfe n),MapKept.run_findKey hk hf,Result.andThen,QoZ ha]
theorem Qb1.update (h:Qb1 w mb Qdy) (ht:P.underlying t=some (.map kt et)) (hk:P.underlying kt=some (.int .i64)) (n:Int) (v:Value):
  ∃w',(Instr.mapUpdate t (.map (some mb)) (.int .i64 n) v).run P w= .ok () w'∧Qb1 w' mb (Qy8 n v Qdy)∧Chg (fun k=>k=mb) w w'∧w'.heap.size=w.heap.size:=by
 have hlt:=h.lt
 obtain ⟨es,clock,hb,he⟩:=h
 have hf:=Qfj n es.toList Qdy 0 he
 cases ha:QrT n Qdy 0 with
 |none=>
  rw [ha] at hf
  refine ⟨{ w with heap:=w.heap.setIfInBounds mb (.map (es.push { key:= .int .i64 n,val:=v,born:=clock }) (clock+1)) },?_,⟨_,_,(MapKept.heap_set hb).1,?_⟩,⟨rfl,rfl,rfl,by simp,fun k _ hn=>(MapKept.heap_set hb).2 k hn⟩,by simp⟩
  ·simp [Instr.mapUpdate,run_underlying ht,MapKept.run_getObj_map hb,MapKept.run_checkKey hk (Qfe n),MapKept.run_findKey hk hf,MapKept.run_setObj_map _ hb,Result.andThen]
  ·rw [Qg8 (Qkq.1 ha),Array.toList_push,List.map_append,List.map_append,he];rfl
 |some x=>
  obtain ⟨j,u⟩:=x
  rw [ha] at hf
  obtain ⟨_,h2,h3⟩:=QoV (v:=v) ha
  simp only [Nat.sub_zero] at h2 h3
  have hent:∃e,es[j]?=some e∧e.key= .int .i64 n:=by
   have h4:=congrArg (fun l=>l[j]?) he
   simp only [List.getElem?_map] at h4
   cases h5:Qdy[j]? with
   |none=>rw [h5] at h2;simp at h2
   |some y=>
    rw [h5] at h2 h4
    simp only [Option.map_some,Option.some.injEq] at h2
    cases h6:es[j]? with
    |none=>simp [h6] at h4
    |some e=>
     simp [h6] at h4
     exact ⟨e,rfl,by rw [h4.1,h2]⟩
  obtain ⟨e,hj,hkey⟩:=hent
  refine ⟨{ w with heap:=w.heap.setIfInBounds mb (.map (es.modify j fun e=>{ e with key:= .int .i64 n,val:=v }) clock) },?_,⟨_,_,(MapKept.heap_set hb).1,?_⟩,⟨rfl,rfl,rfl,by simp,fun k _ hn=>(MapKept.heap_set hb).2 k hn⟩,by simp⟩
  ·simp [Instr.mapUpdate,run_underlying ht,MapKept.run_getObj_map hb,MapKept.run_checkKey hk (Qfe n),MapKept.run_findKey hk hf,hj,hkey,MapKept.run_keyThatStays (Qfe n),MapKept.run_setObj_map _ hb,Result.andThen]
  ·rw [h3]
   apply List.ext_getElem?
   intro i
   have h4:=congrArg (fun l=>l[i]?) he
   simp only [List.getElem?_map,Array.getElem?_toList] at h4
   simp only [List.getElem?_map,Array.getElem?_toList,Array.getElem?_modify,List.getElem?_set]
   by_cases hij:j=i
   ·subst hij
    have hjl:j<Qdy.length:=by
     rcases Nat.lt_or_ge j Qdy.length with hl|hl
     ·exact hl
     ·rw [List.getElem?_eq_none hl] at h2;simp at h2
    simp [hj,hjl]
   ·simp [hij,h4]
theorem Qb1.size (h:Qb1 w mb Qdy):∃es clock,w.heap[mb]?=some (.map es clock)∧es.size=Qdy.length:=by
 obtain ⟨es,clock,hb,he⟩:=h
 refine ⟨es,clock,hb,?_⟩
 have:=congrArg List.length he
 simpa using this
theorem Qb1.len (h:Qb1 w mb Qdy) (ht:P.underlying t=some (.map kt et)) (ty:TypeId):(Builtin.len_ #[t] ty #[.map (some mb)]).run P w= .ok (.int .i64 Qdy.length) w:=by
 obtain ⟨es,clock,hb,hs⟩:=h.size
 simp [Builtin.len_,run_underlying ht,MapKept.run_getObj_map hb,Result.andThen,hs,goInt]
end
section
variable {P:Program} {n:Nat} {e:Env} {w:World} {Q:Exit→Act→World→Prop} {ops:Array Oper} {rest:List Oper} {ty:TypeId} {pos:String} {after:Array Edge} {d:Nat}
variable {M:List Nat} {w0:World} {H H':List (Nat×Obj)} {F:List (World→Prop)} {mb:Nat} {es:Array MapEntry} {clk:Nat} {Qdy:List (Int×Value)} {x y u:Operand} {v z:Value} {dst:Option Nat} {t kt:TypeId} {i:Int}
end
def pB (L:List Cl):Bool:=decide (L.length≤24)&&L.all cB
theorem Qlw (a b:List Cl):QcG (a++b)=QcG a+QcG b:=by
 induction a with
 |nil=>simp [QcG]
 |cons c r ih=>simp only [List.cons_append,QcG,ih];omega
theorem Qn5 (L:List Cl):L.length≤QcG L:=by
 induction L with
 |nil=>exact Nat.le_refl _
 |cons c r ih=>simp only [List.length_cons,QcG,Cl.nodes];omega
def QrZ (w:World) (L:List Cl) (g:Nat) (sx:Value) (wr:World):Prop:=∃D R:List Cl,L=D++R∧g=R.length∧sx= .int .i64 D.length∧D.all cB=true∧Below w.heap.size w wr
def Qx4 (w:World) (L:List Cl) (b:Bool) (g:Nat) (so sx:Value) (wr:World):Prop:=∃D R:List Cl,L=D++R∧g=R.length∧sx= .int .i64 D.length∧so= .bool (b&&D.all cB)∧Below w.heap.size w wr
set_option maxHeartbeats 1000000 in
theorem Qva (L:List Cl) (v:Value) (w:World) (hv:SlC w (fun _=>True) v L) (hn:QcG L≤1048576):
  Calls Tryz.prog 28 #[v] w fun e w'=>e= .returned (.bool (pB L))∧Below w.heap.size w w':=by
 obtain ⟨A,d,rfl,hs⟩:=hv.form
 have hle:=Qn5 L
 generalize hr:pB L=rb
 have R:=Lib.hid hr
 clear hr
 by_cases h3:24<L.length
 ·have hq:Hid (rb=false):=Lib.hid (by rw [←R.out,pB];simp;omega)
  go_enter Tryz.func28,Tryz.ntmps28
  go_wp2_with fail
  go_ret
  exact ⟨by rw [hq.out];rfl,Below.refl _ _⟩
 have hq:Hid (rb=L.all cB):=Lib.hid (by rw [←R.out,pB,decide_eq_true Ya,Bool.true_and])
 have h0:QrZ w L L.length (.int .i64 0) w:=⟨[],L,rfl,rfl,rfl,rfl,Below.refl _ _⟩
 go_enter Tryz.func28,Tryz.ntmps28
 go_wp2_with fail
 go_loopg [10] L.length (QrZ w L)
 case atStart=>exact h0
 case round=>
  clear h0
  obtain ⟨D,R',hT,hg,rfl,hD,hb⟩:=hrel
  have HT:=Lib.hid hT
  have HG:=Lib.hid hg
  have HD:=Lib.hid hD
  clear hT hg hD
  have hsr:=hs.below hb
  cases R' with
  |nil=>
   have eD:D=L:=by rw [HT.out,List.append_nil]
   subst eD
   go_wp2_with fail
   go_ret
   exact ⟨by rw [hq.out,HD.out];rfl,hb⟩
  |cons c r=>
   have e1:D.length<L.length:=by rw [HT.out,List.length_append];simp
   have hnod:c.nodes≤1048576:=by have:=hn;rw [HT.out,Qlw] at this;simp only [QcG] at this;omega
   have hn1:c.hd.nodes<1048576:=by simp only [Cl.nodes] at hnod;omega
   have hn2:c.bd.nodes≤1048576:=by simp only [Cl.nodes] at hnod;omega
   rw [HT.out] at hsr
   rw [show (D++c::r).length=L.length by rw [←HT.out]] at hsr
   obtain ⟨b1,o1,rfl,_,c10,c11,c12,⟨v1,c13,hv1⟩,⟨v2,c14,hv2⟩,c15,_⟩:=SlC.at_ hsr Yd
   obtain ⟨A1,d1,rfl,hv1⟩:=hv1.form
   obtain ⟨A2,d2,rfl,hv2⟩:=hv2.form
   clear hsr
   have hX:Below wr.heap.size wr (wr.alloc (.cells #[.int .i64 c.k,.int .i64 c.n,.string c.s,.slice A1 c.hd.length d1,.slice A2 c.bd.length d2,.int .i64 c.vars] 65)):=(Below.refl _ _).alloc (Nat.le_refl _) _
   have hX':=hb.trans (hX.mono hb.size)
   go_wp2_with fail
   refine (QfY c _ _ _ (hv1.below hX) (hv2.below hX) hn1 hn2).mono ?_
   rintro e w2 ⟨rfl,hb2⟩
   have hb3:=hX'.trans (hb2.mono hX'.size)
   generalize hgb:cB c=gb
   have HGB:=Lib.hid hgb
   clear hgb
   cases gb with
   |false=>
    go_wp2_with fail
    go_ret
    refine ⟨?_,hb3⟩
    rw [hq.out,HT.out,List.all_append,List.all_cons,HGB.out,Bool.false_and,Bool.and_false];rfl
   |true=>
    go_wp2_with fail
    go_roundg r.length
    case measure=>rw [HG.out];simp
    case rel=>
     refine ⟨D++[c],r,?_,rfl,?_,?_,hb3⟩
     ·rw [HT.out,List.append_assoc];rfl
     ·rw [List.length_append];rfl
     ·rw [List.all_append,HD.out,List.all_cons,HGB.out];rfl
set_option maxHeartbeats 1000000 in
theorem QmE (L:List Cl) (v:Value) (w:World) (hv:SlC w (fun _=>True) v L) (hn:QcG L≤1048576):
  Calls Tryz.prog 60 #[v] w fun e w'=>e= .returned (.bool (pB L))∧Below w.heap.size w w':=by
 obtain ⟨A,d,rfl,hs⟩:=hv.form
 have hle:=Qn5 L
 generalize hr:pB L=rb
 have R:=Lib.hid hr
 clear hr
 go_enter Tryz.func60,Tryz.ntmps60
 go_wp2_with fail
 have hbd:decide ((L.length:Int)≤24)=decide (L.length≤24):=by simp;omega
 generalize hbb:decide ((L.length:Int)≤24)=b
 have hq:Hid (rb=(b&&L.all cB)):=Lib.hid (by rw [←R.out,pB,←hbb,hbd])
 clear hbd hbb
 have h0:Qx4 w L b L.length (.bool b) (.int .i64 0) w:=⟨[],L,rfl,rfl,rfl,by simp,Below.refl _ _⟩
 go_loopg [3,11] L.length (Qx4 w L b)
 case atStart=>exact h0
 case round=>
  clear h0
  obtain ⟨D,R',hT,hg,rfl,rfl,hb⟩:=hrel
  have HT:=Lib.hid hT
  have HG:=Lib.hid hg
  clear hT hg
  have hsr:=hs.below hb
  generalize hgd:(b&&D.all cB)=db
  have HD:=Lib.hid hgd
  clear hgd
  cases R' with
  |nil=>
   have eD:D=L:=by rw [HT.out,List.append_nil]
   subst eD
   go_wp2_with fail
   go_ret
   exact ⟨by rw [hq.out,HD.out];rfl,hb⟩
  |cons c r=>
   have e1:D.length<L.length:=by rw [HT.out,List.length_append];simp
   have hnod:c.nodes≤1048576:=by have:=hn;rw [HT.out,Qlw] at this;simp only [QcG] at this;omega
   have hn1:c.hd.nodes<1048576:=by simp only [Cl.nodes] at hnod;omega
   have hn2:c.bd.nodes≤1048576:=by simp only [Cl.nodes] at hnod;omega
   rw [HT.out] at hsr
   rw [show (D++c::r).length=L.length by rw [←HT.out]] at hsr
   obtain ⟨b1,o1,rfl,_,c10,c11,c12,⟨v1,c13,hv1⟩,⟨v2,c14,hv2⟩,c15,_⟩:=SlC.at_ hsr Yd
   obtain ⟨A1,d1,rfl,hv1⟩:=hv1.form
   obtain ⟨A2,d2,rfl,hv2⟩:=hv2.form
   clear hsr
   have hX:Below wr.heap.size wr (wr.alloc (.cells #[.int .i64 c.k,.int .i64 c.n,.string c.s,.slice A1 c.hd.length d1,.slice A2 c.bd.length d2,.int .i64 c.vars] 65)):=(Below.refl _ _).alloc (Nat.le_refl _) _
   have hX':=hb.trans (hX.mono hb.size)
   cases db with
   |false=>
    go_wp2_with fail
    go_roundg r.length
    case measure=>rw [HG.out];simp
    case rel=>
     refine ⟨D++[c],r,?_,rfl,?_,?_,hX'⟩
     ·rw [HT.out,List.append_assoc];rfl
     ·rw [List.length_append];rfl
     ·rw [List.all_append,←Bool.and_assoc,HD.out];rfl
   |true=>
    go_wp2_with fail
    refine (Qff c _ _ _ (hv1.below hX) (hv2.below hX) hn1 hn2).mono ?_
    rintro e w2 ⟨rfl,hb2⟩
    have hb3:=hX'.trans (hb2.mono hX'.size)
    generalize hgb:cB c=gb
    have HGB:=Lib.hid hgb
    clear hgb
    go_wp2_with fail
    go_roundg r.length
    case measure=>rw [HG.out];simp
    case rel=>
     refine ⟨D++[c],r,?_,rfl,?_,?_,hb3⟩
     ·rw [HT.out,List.append_assoc];rfl
     ·rw [List.length_append];rfl
     ·rw [List.all_append,←Bool.and_assoc,HD.out,List.all_cons,HGB.out];simp
section
variable {w w':World} {p q:Nat→Prop}
end
def low (n:Int):Int:=n%1099511627776
theorem QlE (n:Int):0≤low n∧low n<1099511627776:=by unfold low;omega
def pos (n:Int):List Int→Option Nat
 |[]=>none
 |k::r=>if n=k then some 0 else (pos n r).map (· +1)
def Qo9 (ks:List Int) (n:Int):Int:=((pos n ks).getD ks.length:Nat)
def Qm6 (ks:List Int) (n:Int):List Int:=if (pos n ks).isSome then ks else ks++[n]
def Qde (i:Nat):List Int→List (Int×Value)
 |[]=>[]
 |k::r=>(k,.int .i64 i)::Qde (i+1) r
theorem Qdq:∀(ks:List Int) (i:Nat),(Qde i ks).length=ks.length
 |[],_=>rfl
 |_::r,i=>by simp [Qde,Qdq r (i+1)]
theorem Qbc (n:Int):∀(ks:List Int) (i:Nat),Qta n (Qde i ks)=(pos n ks).map fun j=>Value.int .i64 ((i+j:Nat):Int)
 |[],_=>rfl
 |k::r,i=>by
  simp only [Qde,Qta,pos]
  by_cases e:n=k
  ·simp [e]
  ·simp only [e,if_false,Qbc n r (i+1),Option.map_map]
   congr 1
   funext j
   simp only [Function.comp]
   congr 2
   omega
theorem Qev (n:Int):∀(ks:List Int) (i:Nat),Qde i (ks++[n])=Qde i ks++[(n,.int .i64 ((i+ks.length:Nat):Int))]
 |[],i=>rfl
 |k::r,i=>by
  simp only [List.cons_append,Qde,Qev n r (i+1),List.length_cons]
  congr 5
  omega
def Qks (w:World) (mb:Nat) (ks:List Int):Prop:=Qb1 w mb (Qde 0 ks)
theorem Qq1 {n:Int}:∀{ks:List Int},pos n ks=none→pos n (ks++[n])=some ks.length
 |[],_=>by simp [pos]
 |k::r,h=>by
  simp only [pos] at h
  by_cases e:n=k
  ·simp [e] at h
  ·simp only [e,if_false,Option.map_eq_none_iff] at h
   simp [pos,e,Qq1 h]
theorem QR.not_map {w:World} {g mb:Nat} {t:TypeId} {cs:Array Value} {Qdy:List (Int×Value)} (h:QR w g t cs) (hm:Qb1 w mb Qdy):g≠mb:=by
 rintro rfl
 obtain ⟨es,clock,hb,_⟩:=hm
 unfold QR at h
 rw [hb] at h
 cases h
theorem Qw4:(Tryz.prog.info? 3).map (fun i=>(i.zero,i.size,i.bytes))=some (some (.int .i64 0),1,8):=by kernel_rfl
theorem Qiu (w:World):(zeroValue 3).run Tryz.prog w= .ok (.int .i64 0) w:=by
 obtain ⟨i0,hi0,hz0,_⟩:=info_parts Qw4
 simp [zeroValue,typeInfo,hi0,hz0]
theorem Qje (n:Int): -1099511627776<n.tmod 1099511627776∧n.tmod 1099511627776<1099511627776:=by
 rcases Int.le_total 0 n with h|h
 ·rw [Int.tmod_eq_emod_of_nonneg h];omega
 ·have e:n= -(-n):=by omega
  rw [e,Int.neg_tmod,Int.tmod_eq_emod_of_nonneg Ya];omega
theorem QpN (n:Int):low n=if 0≤n.tmod 1099511627776 then n.tmod 1099511627776 else n.tmod 1099511627776+1099511627776:=by
 unfold low
 rcases Int.le_total 0 n with h|h
 ·rw [Int.tmod_eq_emod_of_nonneg h];omega
 ·have e:n.tmod 1099511627776= -((-n)%1099511627776):=by
   have e:n= -(-n):=by omega
   rw [e,Int.neg_tmod,Int.tmod_eq_emod_of_nonneg Ya];simp
  rw [e];omega
theorem QuQ (n:Int):(n.tmod 1099511627776+1099511627776).tmod 1099511627776=low n:=by
 obtain ⟨h1,h2⟩:=Qje n
 rw [Int.tmod_eq_emod_of_nonneg Ya,QpN]
 split<;>omega
set_option maxHeartbeats 400000 in
theorem QnA (n:Int) (w:World):Calls Tryz.prog 161 #[.int .i64 n] w fun e w'=>e= .returned (.int .i64 (low n))∧w=w':=by
 obtain ⟨hb1,hb2⟩:=Qje n
 have HL2:=Lib.hid (show (n.tmod 1099511627776+1099511627776)%1099511627776=low n by rw [←QuQ,Int.tmod_eq_emod_of_nonneg (a:=n.tmod 1099511627776+1099511627776) Ya])
 go_enter Tryz.func161,Tryz.ntmps161
 go_wp2_with fail
 go_ret
 refine ⟨?_,rfl⟩
 rw [←HL2.out];rfl
set_option maxHeartbeats 400000 in
theorem Qnz (n m:Int) (fb nb:Nat) (w:World) (hf:QR w fb 106 #[.func (.func 161) #[] #[]]) (hv:QR w nb 3 #[.int .i64 m]):
  Calls Tryz.prog 163 #[.int .i64 n,.pointer (some ⟨fb,0,none⟩),.pointer (some ⟨nb,0,none⟩)] w fun e w'=>e= .returned (.int .i64 (low n+low m))∧∃q,w'=w.drewN q:=by
 obtain ⟨hb1,hb2⟩:=QlE n
 obtain ⟨hb3,hb4⟩:=QlE m
 have c0:w.cell? ⟨fb,0,none⟩=some (.func (.func 161) #[] #[]):=hf.cell 0
 have c1:w.cell? ⟨nb,0,none⟩=some (.int .i64 m):=hv.cell 0
 go_enter Tryz.func163,Tryz.ntmps163
 go_wp2_with fail
 go_quiet ((go_at_call 161;exact Calls.quiet_of_same ((QnA _ _).mono fun e w' h=>⟨h.1,h.2.symm⟩)))
 go_wp2_with fail
 go_ret
 exact ⟨rfl,_,rfl⟩
set_option maxHeartbeats 400000 in
theorem QtI (n:Int) (ks:List Int) (vb mb:Nat) (w:World) (hv:QR w vb 199 #[.map (some mb)]) (hm:Qks w mb ks):
  Calls Tryz.prog 145 #[.int .i64 n,.pointer (some ⟨vb,0,none⟩)] w fun e w'=>e= .returned (.int .i64 (Qo9 ks n))∧Qks w' mb (Qm6 ks n)∧Chg (fun k=>k=mb) w w':=by
 have c0:w.cell? ⟨vb,0,none⟩=some (.map (some mb)):=hv.cell 0
 have Qw:=Qb1.lookup (P:=Tryz.prog) hm Tryz.underlying199 Tryz.underlying3 (Qiu w) n true
 rw [Qbc] at Qw
 have hlen:=Qb1.len (P:=Tryz.prog) hm Tryz.underlying199
 rw [Qdq] at hlen
 obtain ⟨w1,hup,hm1,hc1,hs1⟩:=Qb1.update (P:=Tryz.prog) hm Tryz.underlying199 Tryz.underlying3 n (.int .i64 ks.length)
 cases hp:pos n ks with
 |none=>
  rw [hp] at Qw
  simp only [Option.map_none,Option.getD_none,Option.isSome_none,if_true] at Qw
  have h1:Qo9 ks n=ks.length:=by simp [Qo9,hp]
  have h2:Qks w1 mb (Qm6 ks n):=by
   unfold Qks Qm6
   rw [hp]
   simp only [Option.isSome_none,Bool.false_eq_true,if_false]
   rw [Qev]
   rw [Qg8 (by rw [Qbc,hp];rfl)] at hm1
   simpa using hm1
  have H1:=Lib.hid h1
  clear h1 hp
  go_enter Tryz.func145,Tryz.ntmps145
  go_wp2_with fail
  go_ret
  exact ⟨by rw [H1.out];rfl,h2,hc1⟩
 |some j=>
  rw [hp] at Qw
  simp only [Option.map_some,Option.getD_some,Option.isSome_some,if_true] at Qw
  have h1:Qo9 ks n=j:=by simp [Qo9,hp]
  have h2:Qks w mb (Qm6 ks n):=by
   unfold Qm6
   rw [hp]
   exact hm
  have H1:=Lib.hid h1
  clear h1 hp
  go_enter Tryz.func145,Tryz.ntmps145
  go_wp2_with fail
  go_ret
  exact ⟨by rw [H1.out];rfl,h2,Chg.refl _ _⟩
set_option maxHeartbeats 400000 in
theorem Qpk (n:Int) (ks:List Int) (vb mb:Nat) (w:World) (hv:QR w vb 199 #[.map (some mb)]) (hm:Qks w mb ks):
  Calls Tryz.prog 198 #[.int .i64 n,.pointer (some ⟨vb,0,none⟩)] w fun e w'=>e= .returned (.int .i64 (Qo9 ks n))∧Qks w' mb (Qm6 ks n)∧Chg (fun k=>k=mb) w w':=by
 have c0:w.cell? ⟨vb,0,none⟩=some (.map (some mb)):=hv.cell 0
 have Qw:=Qb1.lookup (P:=Tryz.prog) hm Tryz.underlying199 Tryz.underlying3 (Qiu w) n true
 rw [Qbc] at Qw
 have hlen:=Qb1.len (P:=Tryz.prog) hm Tryz.underlying199
 rw [Qdq] at hlen
 obtain ⟨w1,hup,hm1,hc1,hs1⟩:=Qb1.update (P:=Tryz.prog) hm Tryz.underlying199 Tryz.underlying3 n (.int .i64 ks.length)
 cases hp:pos n ks with
 |none=>
  rw [hp] at Qw
  simp only [Option.map_none,Option.getD_none,Option.isSome_none,if_true] at Qw
  have h1:Qo9 ks n=ks.length:=by simp [Qo9,hp]
  have h2:Qks w1 mb (Qm6 ks n):=by
   unfold Qks Qm6
   rw [hp]
   simp only [Option.isSome_none,Bool.false_eq_true,if_false]
   rw [Qev]
   rw [Qg8 (by rw [Qbc,hp];rfl)] at hm1
   simpa using hm1
  have hlk2:=Qb1.lookup (P:=Tryz.prog) h2 Tryz.underlying199 Tryz.underlying3 (Qiu w1) n false
  have c1:w1.cell? ⟨vb,0,none⟩=some (.map (some mb)):=(hv.chg hc1 (fun e=>QR.not_map hv hm e)).cell 0
  rw [Qbc,show pos n (Qm6 ks n)=some ks.length by unfold Qm6;rw [hp];simpa using Qq1 hp] at hlk2
  simp only [Option.map_some,Option.getD_some,Bool.false_eq_true,if_false] at hlk2
  have H1:=Lib.hid h1
  clear h1 hp
  go_enter Tryz.func198,Tryz.ntmps198
  go_wp2_with fail
  go_ret
  exact ⟨by rw [H1.out];rfl,h2,hc1⟩
 |some j=>
  rw [hp] at Qw
  simp only [Option.map_some,Option.getD_some,Option.isSome_some,if_true] at Qw
  have h1:Qo9 ks n=j:=by simp [Qo9,hp]
  have h2:Qks w mb (Qm6 ks n):=by
   unfold Qm6
   rw [hp]
   exact hm
  have hlk2:=Qb1.lookup (P:=Tryz.prog) hm Tryz.underlying199 Tryz.underlying3 (Qiu w) n false
  rw [Qbc,hp] at hlk2
  simp only [Option.map_some,Option.getD_some,Bool.false_eq_true,if_false] at hlk2
  have H1:=Lib.hid h1
  clear h1 hp
  go_enter Tryz.func198,Tryz.ntmps198
  go_wp2_with fail
  go_ret
  exact ⟨by rw [H1.out];rfl,h2,Chg.refl _ _⟩
structure Num (σ:Type) where
 fid:FuncId
 cap:Array Value
 own:Nat→Prop
 lean:Nat→Prop
 inv:σ→World→Prop
 val:σ→Int→Int
 nxt:σ→Int→σ
structure Num.Ok {σ:Type} (N:Num σ):Prop where
 keep:∀s w w',N.inv s w→(∀k,N.lean k→w'.heap[k]?=w.heap[k]?)→N.inv s w'
 lt:∀s w k,N.inv s w→N.lean k→k<w.heap.size
 sub:∀k,N.own k→N.lean k
 bare:∀s w k c t f,N.inv s w→N.own k→w.heap[k]?≠some (.cells c t f)
 enter:∀(args:Array Value) (w:World),(callFunc N.fid args).run Tryz.prog w= .ok (.enter N.fid args) w
 call:∀s n w,N.inv s w→Calls Tryz.prog N.fid (#[.int .i64 n]++N.cap) w fun e w'=>e= .returned (.int .i64 (N.val s n))∧N.inv (N.nxt s n) w'∧Chg N.own w w'
def Num.v1 {σ:Type} (N:Num σ) (k n:Int) (s:σ):Int:=if k=0 then N.val s n else n
def Num.s1 {σ:Type} (N:Num σ) (k n:Int) (s:σ):σ:=if k=0 then N.nxt s n else s
def Ts.ren {σ:Type} (N:Num σ):Ts→σ→Ts×σ
 | .nil,s=>(.nil,s)
 | .cons k n b ar r,s=>(.cons k (N.v1 k n s) b (ar.ren N (N.s1 k n s)).1 (r.ren N (ar.ren N (N.s1 k n s)).2).1,(r.ren N (ar.ren N (N.s1 k n s)).2).2)
theorem Ts.ren_app {σ:Type} (N:Num σ) (D R:Ts):∀s:σ,(D.app R).ren N s=((D.ren N s).1.app (R.ren N (D.ren N s).2).1,(R.ren N (D.ren N s).2).2):=by
 induction D with
 |nil=>intro s;rfl
 |cons k n b ar r _ ih=>intro s;simp only [Ts.app,Ts.ren,ih]
theorem Ts.length_ren {σ:Type} (N:Num σ) (T:Ts):∀s:σ,(T.ren N s).1.length=T.length:=by
 induction T with
 |nil=>intro s;rfl
 |cons k n b ar r _ ih=>intro s;simp only [Ts.ren,Ts.length,ih]
section
variable {σ:Type} {N:Num σ}
theorem Num.Ok.cell_none (ok:N.Ok) {w:World} {s:σ} {k o:Nat} (hi:N.inv s w) (ho:N.own k):w.cell? ⟨k,o,none⟩=none:=by
 have:=fun c t f=>ok.bare s w k c t f hi ho
 unfold World.cell?
 split
 ·rename_i h;exact absurd h (this _ _ _)
 ·rfl
theorem Num.Ok.sl (ok:N.Ok) {w w':World} {p:Nat→Prop} {s:σ} {v:Value} {T:Ts} (h:Sl w p v T) (hi:N.inv s w) (hc:Chg N.own w w'):Sl w' p v T:=by
 have h1:Sl w (fun k=>p k∧¬N.own k) v T:=h.imp' fun k hk ⟨j,u,hu⟩=>⟨hk,fun ho=>by rw [ok.cell_none hi ho] at hu;cases hu⟩
 exact (h1.chg hc fun k hk=>hk.2).imp fun k hk _=>hk.1
end
def Qm2 {σ : Type} (N : Num σ) (ar : Ts) : Prop := ∀ (k n : Int) (b : ByteArray) (v : Value) (s : σ) (w : World), Sl w (fun _ => True) v ar → N.inv s w → ar.nodes ≤ 1048576 →
    Calls Tryz.prog 162 #[.agg #[.int .i64 k,.int .i64 n,.string b,v],.func (.func N.fid) #[] N.cap] w fun e w'=>∃v',e= .returned (.agg #[.int .i64 k,.int .i64 (N.v1 k n s),.string b,v'])∧
     Sl w' (fun k=>w.heap.size≤k) v' (ar.ren N (N.s1 k n s)).1∧N.inv (ar.ren N (N.s1 k n s)).2 w'∧Chg N.own w w'
structure QzA {σ:Type} (N:Num σ) (w:World) (k n:Int) (b:ByteArray) (v:Value) (s:σ) (wx:World):Prop where
 t:QR wx w.heap.size 63 #[.int .i64 k,.int .i64 n,.string b,v]
 r:QR wx (w.heap.size+1) 63 #[.int .i64 0,.int .i64 0,.string ⟨#[]⟩,.slice none 0 0]
 inv:N.inv s wx
 chg:Chg N.own w wx
structure Qo1 {σ:Type} (N:Num σ) (w:World) (T:Ts) (k n:Int) (b:ByteArray) (s:σ) (u:Value) (D R:Ts) (xs:List Value) (wr:World):Prop where
 split:T=D.app R
 t:QR wr w.heap.size 63 #[.int .i64 k,.int .i64 n,.string b,u]
 r:QR wr (w.heap.size+1) 63 #[.int .i64 0,.int .i64 0,.string ⟨#[]⟩,.slice none 0 0]
 own:wr.ownsRow (w.heap.size+2) 63 4 u D.length xs
 cs:Cs wr (fun k=>w.heap.size+2≤k∧u.ownBlock≠some k) (D.ren N s).1 xs
 inv:N.inv (D.ren N s).2 wr
 chg:Chg N.own w wr
def Qv3 {σ:Type} (N:Num σ) (w:World) (T:Ts) (k n:Int) (b:ByteArray) (s:σ) (g:Nat) (s21:Value) (wr:World):Prop:=
 ∃(u:Value) (D R:Ts) (xs:List Value),Qo1 N w T k n b s u D R xs wr∧g=R.length∧s21= .int .i64 D.length
theorem Qo1.step {σ:Type} {N:Num σ} (ok:N.Ok) {w wr W w3:World} {T D r ar:Ts} {k n k1 n1:Int} {b s1:ByteArray} {s s0:σ} {u v3 v:Value} {xs:List Value} (hi:N.inv s0 w)
  (h:Qo1 N w T k n b s u D (.cons k1 n1 s1 ar r) xs wr) (hC:Chg N.own wr W)
  (hv:Sl W (fun k=>wr.heap.size≤k) v (ar.ren N (N.s1 k1 n1 (D.ren N s).2)).1) (hI:N.inv (ar.ren N (N.s1 k1 n1 (D.ren N s).2)).2 W)
  (ho3:w3.ownsRow (w.heap.size+2) 63 4 v3 (D.length+1) (xs++[.int .i64 k1,.int .i64 (N.v1 k1 n1 (D.ren N s).2),.string s1,v]))
  (hg:W.grownBy w3 u.ownBlock) (hat:v3.ownBlock=u.ownBlock∨v3.ownBlock=some W.heap.size):
  Qo1 N w T k n b s v3 (D.app (.cons k1 n1 s1 ar .nil)) r (xs++[.int .i64 k1,.int .i64 (N.v1 k1 n1 (D.ren N s).2),.string s1,v]) (w3.setCell ⟨w.heap.size,3,none⟩ v3):=by
 have hlt:=h.own.lt
 have hle:∀k,N.lean k→k<w.heap.size:=fun k hk=>ok.lt s0 w k hi hk
 have hsz:=h.r.lt
 have hown:∀k,w.heap.size≤k→¬N.own k:=fun k hk ho=>by have:=hle k (ok.sub k ho);omega
 have e:(D.app (.cons k1 n1 s1 ar .nil)).ren N s=((D.ren N s).1.app (.cons k1 (N.v1 k1 n1 (D.ren N s).2) s1 (ar.ren N (N.s1 k1 n1 (D.ren N s).2)).1 .nil),(ar.ren N (N.s1 k1 n1 (D.ren N s).2)).2):=by
  rw [Ts.ren_app];rfl
 have hu:∀k,u.ownBlock=some k→w.heap.size+2≤k∧k<wr.heap.size:=fun k hk=>hlt k hk
 have hWs:=hC.size
 have hv3:v3.ownBlock≠some w.heap.size:=by
  rcases hat with e|e<;>rw [e]
  ·intro e2;have:=hu _ e2;omega
  ·intro e2;simp at e2;omega
 have ht3:QR w3 w.heap.size 63 #[.int .i64 k,.int .i64 n,.string b,u]:=(h.t.chg hC (hown _ (Nat.le_refl _))).grown hg (fun e=>by have:=hu _ e.symm;omega)
 have hr3:QR w3 (w.heap.size+1) 63 #[.int .i64 0,.int .i64 0,.string ⟨#[]⟩,.slice none 0 0]:=(h.r.chg hC (hown _ Ya)).grown hg (fun e=>by have:=hu _ e.symm;omega)
 refine ⟨by rw [h.split,Ts.app_assoc];rfl,ht3.set_ 3 _,hr3.far Yd _,?_,?_,?_,?_⟩
 ·rw [Ts.length_app]
  exact ownsRow_setCell_other ho3 hv3 _
 ·rw [e]
  have h1:Cs W (fun k=>(w.heap.size+2≤k∧v3.ownBlock≠some k)∧u.ownBlock≠some k) ((D.ren N s).1.app (.cons k1 (N.v1 k1 n1 (D.ren N s).2) s1 (ar.ren N (N.s1 k1 n1 (D.ren N s).2)).1 .nil)) (xs++[.int .i64 k1,.int .i64 (N.v1 k1 n1 (D.ren N s).2),.string s1,v]):=by
   refine Cs.app ?_ ⟨v,[],rfl,?_,rfl⟩
   ·refine (h.cs.imp (q:=fun k=>(w.heap.size+2≤k∧v3.ownBlock≠some k)∧u.ownBlock≠some k) fun k hk hl=>⟨⟨hk.1,?_⟩,hk.2⟩).keep fun k hk hl=>hC.block k hl (hown k Ya)
    rcases hat with e|e<;>rw [e]
    ·exact hk.2
    ·intro e2;simp at e2;omega
   ·refine hv.imp fun k hk hl=>⟨⟨by omega,?_⟩,?_⟩
    ·rcases hat with e|e<;>rw [e]
     ·intro e2;have:=hu k e2;omega
     ·intro e2;simp at e2;omega
    ·intro e2;have:=hu k e2;omega
  refine ((h1.keep (w':=w3) fun k hk hl=>hg.block k hl (fun e=>hk.2 e.symm)).imp (q:=fun k=>w.heap.size+2≤k∧v3.ownBlock≠some k) fun k hk _=>hk.1).keep fun k hk _=> ?_
  exact Below.heap_setCell _ _ _ _ Yg
 ·rw [e]
  refine ok.keep _ W _ hI fun k hk=> ?_
  have:=hle k hk
  rw [Below.heap_setCell _ _ _ _ Yg]
  exact hg.block k Ya (fun e=>by have:=hu _ e.symm;omega)
 ·refine Chg.setCell (((h.chg.trans hC fun _ _ h=>h)).trans (Chg.of_grown hg) fun k hk hk2=> ?_) (fun h=>by simp at h) _
  have:=hu _ hk2;omega
set_option maxHeartbeats 400000 in
theorem Qsr {σ:Type} {N:Num σ} (ok:N.Ok) (m:Nat) (ih:∀T:Ts,T.nodes<m→Qm2 N T) (T:Ts) (hm:T.nodes≤m):Qm2 N T:=by
 intro k n b v s w hv hi hn
 obtain ⟨A,c,rfl,hs⟩:=hv.form
 have hle:=T.length_le
 have hen:=ok.enter
 obtain ⟨i0,hi0,hz0,hz1,hz2⟩:=info_parts QgS
 have hlt:∀k,N.lean k→k<w.heap.size:=fun k=>ok.lt s w k hi
 have HLT:=Lib.hid hlt
 clear hlt
 have hiW:N.inv s ((w.alloc (.cells #[.int .i64 k,.int .i64 n,.string b,.slice A T.length c] 63)).alloc (.cells #[.int .i64 0,.int .i64 0,.string ⟨#[]⟩,.slice none 0 0] 63)):=
  ok.keep s w _ hi fun k hk=>by
   have:=HLT.out k hk
   rw [Below.heap_alloc _ _ _ Yg,Below.heap_alloc _ _ _ this]
 have hcW:Chg N.own w ((w.alloc (.cells #[.int .i64 k,.int .i64 n,.string b,.slice A T.length c] 63)).alloc (.cells #[.int .i64 0,.int .i64 0,.string ⟨#[]⟩,.slice none 0 0] 63)):=
  ((Chg.refl _ _).alloc _).alloc _
 have b0:QR ((w.alloc (.cells #[.int .i64 k,.int .i64 n,.string b,.slice A T.length c] 63)).alloc (.cells #[.int .i64 0,.int .i64 0,.string ⟨#[]⟩,.slice none 0 0] 63)) w.heap.size 63 #[.int .i64 k,.int .i64 n,.string b,.slice A T.length c]:=
  (QR.new w _ _).alloc _
 have b1:QR ((w.alloc (.cells #[.int .i64 k,.int .i64 n,.string b,.slice A T.length c] 63)).alloc (.cells #[.int .i64 0,.int .i64 0,.string ⟨#[]⟩,.slice none 0 0] 63)) (w.heap.size+1) 63 #[.int .i64 0,.int .i64 0,.string ⟨#[]⟩,.slice none 0 0]:=by
  have:=QR.new (w.alloc (.cells #[.int .i64 k,.int .i64 n,.string b,.slice A T.length c] 63)) 63 #[.int .i64 0,.int .i64 0,.string ⟨#[]⟩,.slice none 0 0]
  simpa using this
 go_enter Tryz.func162,Tryz.ntmps162
 go_upto_if 10 with fail
 go_cut [] (fun wx=>QzA N w k (N.v1 k n s) b (.slice A T.length c) (N.s1 k n s) wx)
 case first=>
  by_cases hk:k=0
  ·subst hk
   go_wp2_with fail
   refine (ok.call s n _ hiW).mono ?_
   rintro e w1 ⟨rfl,hi1,hc1⟩
   have d0:=b0.chg hc1 fun h=>by have:=HLT.out _ (ok.sub _ h);omega
   have d1:=b1.chg hc1 fun h=>by have:=HLT.out _ (ok.sub _ h);omega
   have c1:w1.cell? ⟨w.heap.size,1,none⟩=some (.int .i64 n):=d0.cell 1
   have f1:w1.frozen? ⟨w.heap.size,1,none⟩=false:=d0.frozen 1
   go_wp2_with fail
   go_meet
   refine ⟨d0.set_ 1 _,d1.far Yd _,?_,?_⟩
   ·refine ok.keep _ w1 _ (by simpa [Num.s1] using hi1) fun k hk=> ?_
    have:=HLT.out k hk
    exact Below.heap_setCell _ _ _ _ Yg
   ·exact (hcW.trans hc1 fun _ _ h=>h).setCell (fun h=>by simp at h) _
  ·have hk':(k==0)=false:=by simp [hk]
   have e1:N.v1 k n s=n:=by simp [Num.v1,hk]
   have e2:N.s1 k n s=s:=by simp [Num.s1,hk]
   have E1:=Lib.hid e1
   have E2:=Lib.hid e2
   clear e1 e2
   go_wp2_with fail
   go_meet
   rw [E1.out,E2.out]
   exact ⟨b0,b1,hiW,hcW⟩
 case rest =>
  clear hiW hcW b0 b1
  obtain ⟨d0,d1,hi1,hc1⟩:=hcut
  obtain ⟨a0,a1,a2,a3,af⟩:=d0.four
  have h0:Qv3 N w T k (N.v1 k n s) b (N.s1 k n s) T.length (.int .i64 0) (wc.setCell ⟨w.heap.size,3,none⟩ (.slice none 0 0)):=by
   refine ⟨.slice none 0 0,.nil,T,[],⟨rfl,d0.set_ 3 _,d1.far Yd _,World.ownsRow_nil _ _ _ _,rfl,?_,?_⟩,rfl,rfl⟩
   ·refine ok.keep _ wc _ hi1 fun k hk=> ?_
    have:=HLT.out k hk
    exact Below.heap_setCell _ _ _ _ Yg
   ·exact hc1.setCell (fun h=>by simp at h) _
  clear d0 d1
  go_wp2_with fail
  go_loopg [21] T.length (Qv3 N w T k (N.v1 k n s) b (N.s1 k n s))
  case atStart=>exact h0
  case round =>
   clear h0 a0 a1 a2 a3 af
   obtain ⟨u,D,R,xs,hrel,eg,rfl⟩:=hrel
   have hbz:w.heap.size+1<wr.heap.size:=hrel.r.lt
   cases R with
   |nil=>
    have e1:D.length=T.length:=by rw [hrel.split,Ts.app_nil]
    have eD:D=T:=by rw [hrel.split,Ts.app_nil]
    obtain ⟨Au,cu,hu⟩:∃Au cu,u= .slice Au D.length cu:=by
     rcases hrel.own.2 with ⟨h1,h2⟩|⟨g,cap,cur,h1,_⟩
     ·exact ⟨none,0,by rw [h1,h2]⟩
     ·exact ⟨_,_,h1⟩
    subst hu
    subst eD
    have hsl:Sl wr (fun k=>w.heap.size+2≤k) (.slice Au D.length cu) (D.ren N (N.s1 k n s)).1:=by
     have h1:=hrel.own
     rw [←Ts.length_ren N D (N.s1 k n s)] at h1
     have h2:=Sl.own h1 (hrel.cs.imp fun k hk _=>hk.1) fun g hg=>(h1.lt g hg).1
     rwa [Ts.length_ren] at h2
    obtain ⟨a0,a1,a2,a3,af⟩:=hrel.t.four
    obtain ⟨b0,b1,b2,b3,bf⟩:=hrel.r.four
    have hI:=hrel.inv
    have hC:=hrel.chg
    clear eg hrel
    go_wp2_with fail
    refine bodyPost_ret (v:= .agg #[.int .i64 k,.int .i64 (N.v1 k n s),.string b,.slice Au D.length cu]) (by simp [results,Tryz.results162,go_sem,b0,b1,b2,b3]) rfl ⟨_,rfl,?_,?_,?_⟩
    ·refine (hsl.keep (w':=_) fun k hk _=> ?_).imp fun k hk _=>by omega
     simp only [World.setCell,Array.getElem?_modify]
     repeat rw [if_neg Ya]
    ·refine ok.keep _ wr _ hI fun k hk=> ?_
     have:=HLT.out k hk
     simp only [World.setCell,Array.getElem?_modify]
     repeat rw [if_neg Ya]
    ·exact (((hC.setCell (fun h=>by simp at h;omega) _).setCell (fun h=>by simp at h;omega) _).setCell (fun h=>by simp at h;omega) _).setCell (fun h=>by simp at h;omega) _
   |cons k1 n1 s1 ar r=>
    have e1:D.length<T.length:=by rw [hrel.split,Ts.length_app];simp [Ts.length]
    have e2:ar.nodes<m∧ar.nodes≤1048576:=by
     have h:=hrel.split
     rw [h,Ts.nodes_app] at hm hn
     simp [Ts.nodes] at hm hn
     omega
    have hsl:Sl wr (fun k=>k<w.heap.size) (.slice A T.length c) (D.app (.cons k1 n1 s1 ar r)):=by
     rw [←hrel.split]
     exact ok.sl (hs.imp fun k _ h=>h) hi hrel.chg
    obtain ⟨b1,o1,rfl,hq1⟩:=Sl.at_ hsl (by simp [Ts.length])
    obtain ⟨_,c10,c11,c12,⟨v1,c13,hv1⟩,_⟩:=Q6.1 hq1
    obtain ⟨A1,d1,rfl,hv1⟩:=hv1.form
    obtain ⟨Au,cu,hu⟩:∃Au cu,u= .slice Au D.length cu:=by
     rcases hrel.own.2 with ⟨h1,h2⟩|⟨g,cap,cur,h1,_⟩
     ·exact ⟨none,0,by rw [h1,h2]⟩
     ·exact ⟨_,_,h1⟩
    subst hu
    obtain ⟨a0,a1,a2,a3,af⟩:=hrel.t.four
    have HG:=Lib.hid eg
    clear eg hq1 hsl
    go_wp2_with fail
    refine Qc4 (fun ws=>ws.cell? ⟨w.heap.size,3,none⟩=some (.slice Au D.length cu)∧ws.cell? ⟨wr.heap.size,0,none⟩=some (.int .i64 k1)∧ws.cell? ⟨wr.heap.size,1,none⟩=some (.int .i64 n1)∧ws.cell? ⟨wr.heap.size,2,none⟩=some (.string s1)∧ws.cell? ⟨wr.heap.size,3,none⟩=some (.slice A1 ar.length d1))
     6 [(0,true),(1,true),(2,true),(3,true),(4,false),(5,false)] Yc Yc ?S0 ?rest
    case S0=>
     have hx:=(QR.new wr 63 #[.int .i64 k1,.int .i64 n1,.string s1,.slice A1 ar.length d1]).four
     have ht:=(hrel.t.alloc (.cells #[.int .i64 k1,.int .i64 n1,.string s1,.slice A1 ar.length d1] 63)).cell 3
     exact ⟨ht,hx.1,hx.2.1,hx.2.2.1,hx.2.2.2.1⟩
    case rest=>
     iterate 4
      refine QdV rfl rfl ⟨?_,fun w' hS=> ?_,fun _ _ _ h=>h,?_⟩
      rotate_left
      ·obtain ⟨t1,t2,t3,t4,t5⟩:=hS
       go_simp
       exact rfl
     have hI1:N.inv (D.ren N (N.s1 k n s)).2 (wr.alloc (.cells #[.int .i64 k1,.int .i64 n1,.string s1,.slice A1 ar.length d1] 63)).drew:=ok.keep _ wr _ hrel.inv fun k hk=>Below.heap_alloc _ _ _ (by have:=HLT.out k hk;omega)
     have hsl1:Sl (wr.alloc (.cells #[.int .i64 k1,.int .i64 n1,.string s1,.slice A1 ar.length d1] 63)).drew (fun _=>True) (.slice A1 ar.length d1) ar:=hv1.any.keep fun k _ hk=>Below.heap_alloc _ _ _ hk
     refine Qi1 rfl ?_
     go_wp2_with fail
     refine (ih ar e2.1 k1 n1 s1 _ _ _ hsl1 hI1 e2.2).mono ?_
     rintro e w2 ⟨v',rfl,hv',hI2,hc2⟩
     obtain ⟨Aw,cw,rfl,hv'⟩:=hv'.form
     have hown:∀k,w.heap.size≤k→¬N.own k:=fun k hk ho=>by have:=HLT.out k (ok.sub k ho);omega
     have ht2:QR w2 w.heap.size 63 #[.int .i64 k,.int .i64 (N.v1 k n s),.string b,.slice Au D.length cu]:=((hrel.t.alloc _).drewN 1).chg hc2 (hown _ (Nat.le_refl _))
     have hx2:QR w2 wr.heap.size 63 #[.int .i64 k1,.int .i64 n1,.string s1,.slice A1 ar.length d1]:=((QR.new wr _ _).drewN 1).chg hc2 (hown _ Ya)
     have hzz:wr.heap.size<w2.heap.size:=by have:=hc2.size;simp at this;omega
     go_wp2_with fail
     refine ⟨⟨ht2.cell 3,hx2.cell 0,hx2.cell 1,hx2.cell 2,hx2.cell 3⟩,?_⟩
     refine Qi1 rfl ?_
     go_wp2_with fail
     refine ⟨⟨(ht2.alloc _).cell 3,(hx2.alloc _).cell 0,(hx2.alloc _).cell 1,(hx2.alloc _).cell 2,(hx2.alloc _).cell 3⟩,?_⟩
     simp only [Qhk,List.drop_succ_cons,List.drop_zero]
     have hC3:Chg N.own wr (w2.alloc (.cells #[.int .i64 k1,.int .i64 (N.v1 k1 n1 (D.ren N (N.s1 k n s)).2),.string s1,.slice Aw (ar.ren N (N.s1 k1 n1 (D.ren N (N.s1 k n s)).2)).1.length cw] 63)):=(((Chg.refl _ wr).alloc _).drew.trans hc2 fun _ _ h=>h).alloc _
     have hI3:N.inv (ar.ren N (N.s1 k1 n1 (D.ren N (N.s1 k n s)).2)).2 (w2.alloc (.cells #[.int .i64 k1,.int .i64 (N.v1 k1 n1 (D.ren N (N.s1 k n s)).2),.string s1,.slice Aw (ar.ren N (N.s1 k1 n1 (D.ren N (N.s1 k n s)).2)).1.length cw] 63)):=ok.keep _ w2 _ hI2 fun k hk=>Below.heap_alloc _ _ _ (by have:=HLT.out k hk;omega)
     have hv3:Sl (w2.alloc (.cells #[.int .i64 k1,.int .i64 (N.v1 k1 n1 (D.ren N (N.s1 k n s)).2),.string s1,.slice Aw (ar.ren N (N.s1 k1 n1 (D.ren N (N.s1 k n s)).2)).1.length cw] 63)) (fun k=>wr.heap.size≤k) (.slice Aw (ar.ren N (N.s1 k1 n1 (D.ren N (N.s1 k n s)).2)).1.length cw) (ar.ren N (N.s1 k1 n1 (D.ren N (N.s1 k n s)).2)).1:=
      (hv'.below ((Below.refl _ _).alloc (Nat.le_refl _) _)).imp fun k hk _=>by simp at hk;omega
     have ho3:=QpG hrel.own hC3 fun g hg=>hown g (by have:=(hrel.own.lt g hg).1;omega)
     have ht3:=ht2.alloc (.cells #[.int .i64 k1,.int .i64 (N.v1 k1 n1 (D.ren N (N.s1 k n s)).2),.string s1,.slice Aw (ar.ren N (N.s1 k1 n1 (D.ren N (N.s1 k n s)).2)).1.length cw] 63)
     go_wp2_with (at_builtin;refine QbI _ rfl (.tmp 26) (.tmp 30) _ rfl (w.heap.size+2) 63 i0 _ 4 56 Tryz.underlying23 hi0 hz0 hz1 hz2 rfl Ya (.slice Au D.length cu) D.length xs rfl ho3 ⟨w2.heap.size,0,none⟩ 1 1 [.int .i64 k1,.int .i64 (N.v1 k1 n1 (D.ren N (N.s1 k n s)).2),.string s1,.slice Aw (ar.ren N (N.s1 k1 n1 (D.ren N (N.s1 k n s)).2)).1.length cw] rfl rfl (QmQ w2 _ _) (by simp [Value.oneCell']) Yk Ya Yg ?next)
     case next=>
      intro v3 w3 hov hg hat
      have hat':v3.ownBlock=(Value.slice Au D.length cu).ownBlock∨v3.ownBlock=some (w2.alloc (.cells #[.int .i64 k1,.int .i64 (N.v1 k1 n1 (D.ren N (N.s1 k n s)).2),.string s1,.slice Aw (ar.ren N (N.s1 k1 n1 (D.ren N (N.s1 k n s)).2)).1.length cw] 63)).heap.size:=by simpa using hat
      have hstep:=Qo1.step ok hi hrel hC3 hv3 hI3 hov hg hat'
      have ht4:QR w3 w.heap.size 63 #[.int .i64 k,.int .i64 (N.v1 k n s),.string b,.slice Au D.length cu]:=ht3.grown hg (fun e=>by have:=(hrel.own.lt _ e.symm).1;omega)
      have c4:w3.cell? ⟨w.heap.size,3,none⟩=some (.slice Au D.length cu):=ht4.cell 3
      have f4:w3.frozen? ⟨w.heap.size,3,none⟩=false:=ht4.frozen 3
      obtain ⟨Ag,cap,rfl⟩:=Qfu hov
      clear hat hat' hov
      go_wp2_with fail
      go_roundg r.length
      case measure=>rw [HG.out];simp [Ts.length]
      case rel=>
       refine ⟨_,_,_,_,hstep,rfl,?_⟩
       rw [Ts.length_app];rfl
theorem QqW {σ:Type} {N:Num σ} (ok:N.Ok) (T:Ts):Qm2 N T:=by
 have:∀m,∀T:Ts,T.nodes<m→Qm2 N T:=by
  intro m
  induction m with
  |zero=>intro T h;omega
  |succ m ih=>intro T h;exact Qsr ok m ih T Ya
 exact this _ T (Nat.lt_succ_self _)
end Go.Proofs.YthliapbflkfdiacGreatDoor
