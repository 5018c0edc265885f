/- RefEq, RefEq2, IntMap, MapM, Program, Nums, Ren: texts that follow one another, laid into one file. -/
import Derived.Test.YthliapbflkfdiacGreatDoorZ0
import Derived.Test.YthliapbflkfdiacGreatDoorG5
import Derived.Test.YthliapbflkfdiacGreatDoorG1
import Derived.MapKept
import Derived.Maps.OwnOps
import Derived.Test.YthliapbflkfdiacGreatDoorG2
import Derived.Test.YthliapbflkfdiacGreatDoorG4
import Derived.Test.YthliapbflkfdiacGreatDoorRows
import Derived.StillTailTactics
import Derived.Deep.QuietTactic
import Derived.BigQuiet
import Derived.Test.YthliapbflkfdiacGreatDoorG0
import Derived.Deep.LoopGhost
import Derived.Deep.RegionLaw
import Derived.Deep.DeepCutAuto
namespace Go.Proofs.YthliapbflkfdiacGreatDoor
open Go.RowKit Go.Shelf
set_option linter.unusedVariables false
set_option linter.unusedSimpArgs false
set_option maxRecDepth 100000
def QiG (x:Str):Prop:=x=[]∨x=[45]
def QbI (p:PS):Prop:=p.bad=true∨∃x∈p.l,QiG x
def Qvs (t:Str):Prop:=t≠[]∧((Qbw (Qem t)||(Qem t==45))=true→Qsd t)∧(Qem t=33→t=[33])
def Qil (s:RS) (p:PS):Prop:=s.err=0∧p.bad=false∧s.vars=p.vars∧((s.token=[]∧s.rest=[]∧p.l=[])∨(Qvs s.token∧p.l=s.token::Qcx s.rest))
def Qsf (s:RS) (p:PS):Prop:=s.err=1∧s.token=[]∧s.rest=[]∧QbI p
def Rel (s:RS) (p:PS):Prop:=Qil s p∨Qsf s p
theorem QbI.pop {p:PS} {t:Str} {r:List Str} (h:QbI p) (hl:p.l=t::r) (ht:¬QiG t):QbI p.pop:=by
 rcases h with h|⟨x,hx,hb⟩
 ·exact .inl h
 ·rw [hl] at hx
  rcases List.mem_cons.1 hx with rfl|hx
  ·exact absurd hb ht
  ·exact .inr ⟨x,by simp [PS.pop,hl,hx],hb⟩
theorem QbI.has {p:PS} {t:Str} (h:QbI p) (hh:p.has t=true) (ht:¬QiG t):QbI p.pop:=h.pop (QhX hh).2 ht
theorem QbI.close {p:PS} {t:Str} (h:QbI p) (ht:¬QiG t):QbI (p.close t):=by
 unfold PS.close
 split
 ·exact h
 split
 ·rename_i hh;exact h.has hh ht
 ·exact .inl rfl
theorem QbI.var {p:PS} (x:Str) (h:QbI p):QbI (p.var x).2:=by
 unfold PS.var
 split
 ·exact h
 ·exact h
def Qml (f:PS→Nd×PS):Prop:=∀p,QbI p→QbI (f p).2
theorem QbI.loop {f:PS→Nd×PS} (hf:Qml f):∀(n:Nat) (p:PS),QbI p→QbI (QO f n p).2
 |0,p,h=>h
 |n+1,p,h=>by
  unfold QO
  split
  ·rename_i hh;exact QbI.loop hf n _ (hf _ (h.has hh.2 (by simp [QiG])))
  ·exact h
theorem QbI.terms {f:PS→Nd×PS} (hf:Qml f) (t:Str) (ht:¬QiG t) (p:PS) (h:QbI p):QbI (Qag f t p).2:=(QbI.loop hf _ _ (hf p h)).close ht
theorem QbI.term:∀d,Qml (QN d)
 |0,p,h=> .inl rfl
 | d + 1, p, h => by
  unfold QN
  split
  ·exact .inl rfl
  ·exact .inl rfl
  ·rename_i c r q hl
   split
   ·rename_i e;exact h.pop hl (by rw [e];simp [QiG])
   split
   ·rename_i hne hu
    refine QbI.var _ (h.pop hl ?_)
    rintro (e|e)
    ·cases e
    ·cases e;exact absurd hu Yg
   split
   ·by_cases e:c::r=[45]
    ·left;rw [e,Qmw];simp
    ·rcases h.pop hl (by rintro (e'|e');cases e';exact e e') with h'|h'
     ·left
      have:p.bad=true:=h'
      simp [this]
     ·exact .inr h'
   split
   ·exact .inl rfl
   ·rename_i h45 hlo
    have hb:¬QiG (c::r):=by
     rintro (e|e)
     ·cases e
     ·cases e;exact h45 rfl
    split
    ·rename_i hp;exact QbI.terms (QbI.term d) [41] (by simp [QiG]) _ ((h.pop hl hb).has hp (by simp [QiG]))
    ·exact h.pop hl hb
theorem Qsf.fail {s:RS} {p q:PS} (h:Qsf s p) (e:Int) (hq:QbI q):Qsf (s.fail e) q:=⟨by simp [RS.fail,h.1],rfl,rfl,hq⟩
theorem Qsf.adv {s:RS} {p q:PS} (h:Qsf s p) (hq:QbI q):Qsf s.adv q:=by
 have:s.adv=⟨[],[],s.vars,s.err⟩:=by
  unfold RS.adv
  rw [h.2.2.1]
  rfl
 rw [this]
 exact ⟨h.1,rfl,rfl,hq⟩
theorem Qil.fail {s:RS} {p:PS} (h:Qil s p) {q:PS} (hq:QbI q):Qsf (s.fail 1) q:=⟨by simp [RS.fail,h.1],rfl,rfl,hq⟩
theorem Qhi {f:UInt8→Bool}:∀(l:Str),∀c∈l.take (Qbl f l),f c=true
 |[],c,h=>by simp at h
 |x::l,c,h=>by
  unfold Qbl at h
  cases hx:f x with
  |false=>rw [hx] at h;simp at h
  |true=>
   rw [hx] at h
   simp only [cond_true,List.take_succ_cons] at h
   rcases List.mem_cons.1 h with rfl|h
   ·exact hx
   ·exact Qhi l c h
theorem Qsu {c:UInt8} (h:(upB c||QdL c)=true):Qbw c=false∧(c==45)=false∧c≠33:=by
 have hh:∀n:Fin 256,(upB (UInt8.ofNat n.val)||QdL (UInt8.ofNat n.val))=true→Qbw (UInt8.ofNat n.val)=false∧(UInt8.ofNat n.val==45)=false∧UInt8.ofNat n.val≠33:=by decide+kernel
 have:=hh ⟨c.toNat,c.toNat_lt⟩
 simp only [UInt8.ofNat_toNat] at this
 exact this h
theorem QrB {c:UInt8} (h:Qbw c=true):upB c=false∧QdL c=false∧(c==45)=false∧c≠33:=by
 have hh:∀n:Fin 256,Qbw (UInt8.ofNat n.val)=true→upB (UInt8.ofNat n.val)=false∧QdL (UInt8.ofNat n.val)=false∧(UInt8.ofNat n.val==45)=false∧UInt8.ofNat n.val≠33:=by decide+kernel
 have:=hh ⟨c.toNat,c.toNat_lt⟩
 simp only [UInt8.ofNat_toNat] at this
 exact this h
theorem QoT {c:UInt8} (h:Qei.contains c=true):Qbw c=false∧(c==45)=false:=by
 have hh:∀n:Fin 256,Qei.contains (UInt8.ofNat n.val)=true→Qbw (UInt8.ofNat n.val)=false∧(UInt8.ofNat n.val==45)=false:=by decide+kernel
 have:=hh ⟨c.toNat,c.toNat_lt⟩
 simp only [UInt8.ofNat_toNat] at this
 exact this h
theorem Qsv (c:UInt8) (r:Str):(Q6 (c::r)=Qav (c::r)∧(Q6 (c::r)≠0→Qvs ((c::r).take (Q6 (c::r)))))∨(Q6 (c::r)=0∧Qav (c::r)=1∧c=45):=by
 have hT:∀x,1+x≠0:=fun x=>by omega
 by_cases h1:(upB c||QdL c)=true
 ·left
  have e1:Q6 (c::r)=1+Qbl QdL r:=by simp only [Q6,h1,if_true]
  have e2:Qav (c::r)=1+Qbl QdL r:=by simp only [Qav,Bool.or_comm (QdL c),h1,if_true]
  rw [e1,e2]
  have hf:=Qsu h1
  refine ⟨rfl,fun _=>⟨by rw [Nat.add_comm,List.take_succ_cons];simp,fun h=> ?_,fun h=> ?_⟩⟩
  ·rw [Nat.add_comm,List.take_succ_cons] at h
   simp only [Qem,hf.1,hf.2.1,Bool.or_self,Bool.false_eq_true] at h
  ·rw [Nat.add_comm,List.take_succ_cons] at h
   exact absurd h hf.2.2
 have h1':(upB c||QdL c)=false:=by simpa using h1
 by_cases h2:Qbw c=true
 ·left
  have hf:=QrB h2
  have e:Qbl Qbw (c::r)=1+Qbl Qbw r:=by simp [Qbl,h2];omega
  have e1:Q6 (c::r)=Qbl Qbw (c::r):=by simp only [Q6,h1',h2,Bool.false_eq_true,if_false,if_true]
  have e2:Qav (c::r)=1+Qbl Qbw r:=by simp only [Qav,Bool.or_comm (QdL c),h1',h2,Bool.true_or,Bool.false_eq_true,if_false,if_true]
  rw [e1,e2]
  refine ⟨e,fun _=>⟨by rw [e,Nat.add_comm,List.take_succ_cons];simp,fun h=> .inl ⟨by rw [e,Nat.add_comm,List.take_succ_cons];simp,Qhi _⟩,fun h=> ?_⟩⟩
  rw [e,Nat.add_comm,List.take_succ_cons] at h
  exact absurd h hf.2.2.2
 have h2':Qbw c=false:=by simpa using h2
 by_cases h3:c=45
 ·subst h3
  have e2:Qav (45::r)=1+Qbl Qbw r:=by
   have a1:(QdL 45||upB 45)=false:=by decide
   have a2:(Qbw 45||((45:UInt8)==45))=true:=by decide
   simp only [Qav,a1,a2,Bool.false_eq_true,if_false,if_true]
  have e1:Q6 (45::r)=if 0<Qbl Qbw r then 1+Qbl Qbw r else 0:=by
   simp only [Q6,h1',h2',Bool.false_eq_true,if_false,if_true]
  by_cases h4:0<Qbl Qbw r
  ·left
   rw [e1,e2,if_pos h4]
   refine ⟨rfl,fun _=>⟨by rw [Nat.add_comm,List.take_succ_cons];simp,fun h=> .inr ⟨r.take (Qbl Qbw r),by rw [Nat.add_comm,List.take_succ_cons],?_,Qhi r⟩,fun h=> ?_⟩⟩
   ·intro e
    have:=congrArg List.length e
    have hle:=Qc4 Qbw r
    simp only [List.length_take,List.length_nil] at this
    omega
   ·rw [Nat.add_comm,List.take_succ_cons] at h
    have h':(45:UInt8)=33:=h
    exact absurd h' Yg
  ·right
   rw [e1,e2,if_neg h4]
   exact ⟨rfl,by omega,rfl⟩
 have h3':(c==45)=false:=by simp [h3]
 left
 by_cases h5:([58,45]:Str).isPrefixOf (c::r)=true
 ·have e1:Q6 (c::r)=2:=by
   simp only [Q6,h1',h2',h3,Bool.false_eq_true,if_false]
   rw [if_pos h5]
  have e2:Qav (c::r)=2:=by
   simp only [Qav,Bool.or_comm (QdL c),h1',h2',h3',Bool.or_self,Bool.false_eq_true,if_false]
   rw [if_pos h5]
  rw [e1,e2]
  cases r with
  |nil=>simp [List.isPrefixOf] at h5
  |cons x r=>
   have:c=58:=by simp [List.isPrefixOf] at h5;exact h5.1.symm
   subst this
   exact ⟨rfl,fun _=>⟨by simp,fun h=>absurd h (by simp [Qem,Qbw]),fun h=>absurd h (by simp [Qem])⟩⟩
 have e1:Q6 (c::r)=if Qei.contains c then 1 else 0:=by
  simp only [Q6,h1',h2',h3,Bool.false_eq_true,if_false]
  rw [if_neg h5]
 have e2:Qav (c::r)=if Qei.contains c then 1 else 0:=by
  simp only [Qav,Bool.or_comm (QdL c),h1',h2',h3',Bool.or_self,Bool.false_eq_true,if_false]
  rw [if_neg h5]
 rw [e1,e2]
 by_cases h6:Qei.contains c=true
 ·rw [if_pos h6]
  have hf:=QoT h6
  refine ⟨rfl,fun _=>⟨by simp,fun h=> ?_,fun h=> ?_⟩⟩
  ·have:(Qbw c||(c==45))=true:=h
   rw [hf.1,hf.2] at this
   cases this
  ·have:c=33:=h
   rw [this];rfl
 ·rw [if_neg h6]
  exact ⟨rfl,fun h=>absurd rfl h⟩
theorem QiJ:∀R:Str,Qcx R=Qcx (Qb7 R)
 |[]=>rfl
 |c::r=>by
  unfold Qb7
  rw [List.dropWhile_cons]
  split
  ·rename_i h;rw [Qmt r h];exact QiJ r
  ·rfl
theorem Qqa {R:Str} {c:UInt8} {r:Str} (h:Qb7 R=c::r):QiK c=false:=by
 unfold Qb7 at h
 induction R with
 |nil=>simp at h
 |cons x R ih=>
  rw [List.dropWhile_cons] at h
  split at h
  ·exact ih h
  ·rename_i hx;cases h;simpa using hx
theorem Qr7 {s:RS} {p:PS} (he:s.err=0) (hb:p.bad=false) (hv:s.vars=p.vars) (hl:p.l=Qcx s.rest):Rel s.adv p:=by
 rw [QiJ] at hl
 unfold RS.adv
 simp only
 cases ht:Qb7 s.rest with
 |nil=>
  rw [ht] at hl
  rw [if_neg Yd]
  exact .inl ⟨he,hb,hv,.inl ⟨rfl,rfl,hl⟩⟩
 |cons c r=>
  have hw:=Qqa ht
  rw [ht] at hl
  rcases Qsv c r with ⟨h1,h2⟩|⟨h1,h2,h3⟩
  ·by_cases h0:Q6 (c::r)=0
   ·rw [if_pos ⟨h0,by simp⟩]
    rw [QpV r hw Ya] at hl
    exact .inr ⟨by simp [RS.fail,he],rfl,rfl,.inr ⟨[],by rw [hl];simp,.inl rfl⟩⟩
   ·rw [if_neg (by simp [h0])]
    rw [QiI r hw Ya,←h1] at hl
    exact .inl ⟨he,hb,hv,.inr ⟨h2 h0,hl⟩⟩
  ·subst h3
   rw [if_pos ⟨h1,by simp⟩]
   rw [QiI r hw Ya,h2] at hl
   exact .inr ⟨by simp [RS.fail,he],rfl,rfl,.inr ⟨[45],by rw [hl];simp,.inr rfl⟩⟩
theorem Qil.tok {s:RS} {p:PS} (h:Qil s p) {t:Str} (ht:t≠[]):(s.token=t)↔p.has t=true:=by
 rcases h.2.2.2 with ⟨h1,_,h3⟩|⟨h1,h3⟩
 ·rw [h1];unfold PS.has;rw [h3];simp;exact fun e=>ht (by first|exact e|exact e.symm)
 ·unfold PS.has;rw [h3];simp
theorem Qil.adv {s:RS} {p:PS} (h:Qil s p) (hn:s.token≠[]):Rel s.adv p.pop:=by
 rcases h.2.2.2 with ⟨h1,_,_⟩|⟨h1,h3⟩
 ·exact absurd h1 hn
 ·exact Qr7 h.1 h.2.1 h.2.2.1 (by simp [PS.pop,h3])
theorem Rel.take {s:RS} {p:PS} (h:Rel s p) {t:Str} (ht:¬QiG t):Rel (s.take t) (p.close t):=by
 have hne:t≠[]:=fun e=>ht (.inl e)
 rcases h with h|h
 ·have e2:p.close t=if p.has t then p.pop else p.spoil:=by unfold PS.close;rw [if_neg (by simp [h.2.1])]
  rw [e2]
  by_cases e:s.token=t
  ·have e1:s.take t=s.adv:=by unfold RS.take;rw [if_pos e]
   rw [e1,if_pos ((h.tok hne).1 e)]
   exact h.adv (by rw [e];exact hne)
  ·have e1:s.take t=(s.fail 1).adv:=by unfold RS.take;rw [if_neg e]
   rw [e1,if_neg fun e'=>e ((h.tok hne).2 e')]
   exact .inr ((h.fail (q:=p.spoil) (.inl rfl)).adv (.inl rfl))
 ·have e1:s.take t=(s.fail 1).adv:=by unfold RS.take;rw [if_neg (by rw [h.2.1];exact fun e=>hne e.symm)]
  rw [e1]
  exact .inr ((h.fail 1 (h.2.2.2.close ht)).adv (h.2.2.2.close ht))
def Qvz (f:RS→Nd×RS) (g:PS→Nd×PS):Prop:=∀s p,Rel s p→Rel (f s).2 (g p).2∧((f s).2.err=0→(f s).1=(g p).1)
theorem Rel.live {s:RS} {p:PS} (h:Rel s p) (he:s.err=0):Qil s p:=by
 rcases h with h|h
 ·exact h
 ·have:=h.1;omega
def Qmj (f:RS→Nd×RS):Prop:=∀s,(f s).2.err=0→s.err=0
theorem Qbs (s:RS) (e:Int) (he:e≠0):(s.fail e).err≠0:=by
 simp only [RS.fail]
 split
 ·exact he
 ·assumption
theorem QbV (s:RS) (h:s.adv.err=0):s.err=0:=by
 unfold RS.adv at h
 simp only at h
 split at h
 ·exact absurd h (Qbs s 1 Yg)
 ·exact h
theorem Qcf (s:RS) (t:Str) (h:(s.take t).err=0):s.err=0∧s.token=t:=by
 unfold RS.take at h
 split at h
 ·rename_i e;exact ⟨QbV s h,e⟩
 ·exact absurd (QbV _ h) (Qbs s 1 Yg)
theorem QfZ {f:RS→Nd×RS} (hf:Qmj f):∀(n:Nat) (s:RS),(QaY f n s).2.err=0→s.err=0
 |0,s,h=>h
 |n+1,s,h=>by
  unfold QaY at h
  split at h
  ·exact QbV s (hf _ (QfZ hf n _ h))
  ·exact h
theorem Qez {f:RS→Nd×RS} (hf:Qmj f):∀s:RS,(QJ f s).2.err=0→(f s).2.err=0:=fun s h=>QfZ hf _ _ h
theorem Qmv (s:RS) (x:Str):(s.var x).2.err=s.err:=by unfold RS.var;split<;>rfl
theorem QbA (num:Str→Option Int):∀d,Qmj (Qv num d)
 |0,s,h=>absurd h (Qbs s 1 Yg)
 |d+1,s,h=>by
  unfold Qv at h
  split at h
  ·exact absurd h (Qbs s 1 Yg)
  ·simp only at h
   split at h
   ·rw [Qmv] at h;exact QbV s h
   split at h
   ·have h1:=(Qcf _ _ h).1
    have h2:=QbA num d _ (Qez (QbA num d) _ h1)
    exact QbV s (Qcf _ _ h2).1
   split at h
   ·exact QbV s h
   split at h
   ·simp only [RS.number] at h
    split at h
    ·exact QbV s h
    ·exact absurd h (Qbs _ 1 Yg)
   ·exact absurd h (Qbs _ 1 Yg)
theorem Qvz.loop {f:RS→Nd×RS} {g:PS→Nd×PS} (hb:Qvz f g) (hf:Qu3 f) (hg:Qns g) (hs:Qmj f) (hk:Qml g):∀(n:Nat) (s:RS) (p:PS),s.left≤n→Rel s p→
  Rel (QaY f s.left s).2 (QO g p.l.length p).2∧((QaY f s.left s).2.err=0→(QaY f s.left s).1=(QO g p.l.length p).1):=by
 intro n
 induction n with
 |zero=>
  intro s p hn h
  rcases h with h|h
  ·have ht:s.token=[]:=by unfold RS.left at hn;exact List.eq_nil_of_length_eq_zero Ya
   have h1:¬s.token=[44]:=by rw [ht];simp
   rw [QcQ h1,Qgn fun e=>h1 ((h.tok Yd).2 e.2)]
   exact ⟨.inl h,fun _=>rfl⟩
  ·have h1:¬s.token=[44]:=by rw [h.2.1];simp
   rw [QcQ h1]
   exact ⟨.inr ⟨h.1,h.2.1,h.2.2.1,QbI.loop hk _ _ h.2.2.2⟩,fun e=>by have:=h.1;simp only at e;omega⟩
 |succ n ih=>
  intro s p hn h
  rcases h with h|h
  ·by_cases ht:s.token=[44]
   ·have hp:=(h.tok Yd).1 ht
    rw [Qlx hf ht,Qk8 hg ⟨h.2.1,hp⟩]
    have h1:=QcZ s (by rw [ht];simp)
    have h2:=hf s.adv
    have h3:=h.adv (by rw [ht];simp)
    have h4:=hb _ _ h3
    have h5:=ih (f s.adv).2 (g p.pop).2 Ya h4.1
    refine ⟨h5.1,fun e=> ?_⟩
    simp only at e⊢
    rw [h5.2 e,h4.2 (QfZ hs _ _ e)]
   ·rw [QcQ ht,Qgn fun e=>ht ((h.tok Yd).2 e.2)]
    exact ⟨.inl h,fun _=>rfl⟩
  ·have h1:¬s.token=[44]:=by rw [h.2.1];simp
   rw [QcQ h1]
   exact ⟨.inr ⟨h.1,h.2.1,h.2.2.1,QbI.loop hk _ _ h.2.2.2⟩,fun e=>by have:=h.1;simp only at e;omega⟩
theorem Qvz.terms {f:RS→Nd×RS} {g:PS→Nd×PS} (hb:Qvz f g) (hf:Qu3 f) (hg:Qns g) (hs:Qmj f) (hk:Qml g) (t:Str) (ht:¬QiG t) (s:RS) (p:PS) (h:Rel s p):
  Rel ((QJ f s).2.take t) (Qag g t p).2∧((QJ f s).2.err=0→(QJ f s).1=(Qag g t p).1):=by
 have h1:=hb s p h
 have h2:=hb.loop hf hg hs hk _ (f s).2 (g p).2 (Nat.le_refl _) h1.1
 refine ⟨h2.1.take ht,fun e=> ?_⟩
 have e1:(QJ f s).1=(f s).1::(QaY f (f s).2.left (f s).2).1:=rfl
 have e2:(Qag g t p).1=(g p).1::(QO g (g p).2.l.length (g p).2).1:=rfl
 rw [e1,e2,h1.2 (Qez hs s e),h2.2 e]
theorem Qil.var {s:RS} {p:PS} (h:Qil s p) (x:Str):(s.var x).1=(p.var x).1∧Qil (s.var x).2 (p.var x).2:=by
 obtain ⟨h1,h2,h3,h4⟩:=h
 unfold RS.var PS.var
 rw [h3]
 split
 ·exact ⟨rfl,h1,h2,h3,h4⟩
 ·exact ⟨rfl,h1,h2,by simp,h4⟩
theorem Qsf.var {s:RS} {p:PS} (h:Qsf s p) (x:Str):Qsf (s.var x).2 (p.var x).2:=by
 refine ⟨by rw [Qmv];exact h.1,?_,?_,h.2.2.2.var x⟩
 ·unfold RS.var;split<;>exact h.2.1
 ·unfold RS.var;split<;>exact h.2.2.1
theorem Rel.var {s:RS} {p:PS} (h:Rel s p) (x:Str):Rel (s.var x).2 (p.var x).2∧((s.var x).2.err=0→(s.var x).1=(p.var x).1):=by
 rcases h with h|h
 ·exact ⟨.inl (h.var x).2,fun _=>(h.var x).1⟩
 ·exact ⟨.inr (h.var x),fun e=>by rw [Qmv] at e;have:=h.1;omega⟩
theorem Qfy : ∀ d, Qvz (Qv Q0 d) (QN d)
 |0,s,p,h=>by
  refine ⟨?_,fun e=>absurd e (Qbs s 1 Yg)⟩
  rcases h with h|h
  ·exact .inr (h.fail (.inl rfl))
  ·exact .inr (h.fail 1 (.inl rfl))
 | d + 1, s, p, h => by
  rcases h with h|h
  ·rcases h.2.2.2 with ⟨h1,h2,h3⟩|⟨h1,h3⟩
   ·have e1:Qv Q0 (d+1) s=(Nd.zero,s.fail 1):=by unfold Qv;rw [if_pos h1]
    have e2:QN (d+1) p=(Nd.zero,p.spoil):=by unfold QN;rw [h3]
    rw [e1,e2]
    exact ⟨.inr (h.fail (.inl rfl)),fun e=>absurd e (Qbs s 1 Yg)⟩
   ·obtain ⟨hne,hnum,h33⟩:=h1
    cases ht:s.token with
    |nil=>exact absurd ht hne
    |cons c r=>
     rw [ht] at h3 hnum h33
     have hc:Qem (c::r)=c:=rfl
     rw [hc] at hnum h33
     have hadv:=h.adv (by rw [ht];simp)
     have e1:=QaM Q0 d ht
     have e2:QN (d+1) p=if c::r=[33] then (⟨1,0,[33],.nil⟩,p.pop)
       else if upB c then (⟨0,(p.pop.var (c::r)).1,[],.nil⟩,(p.pop.var (c::r)).2)
       else if (c==45)||Qbw c then (⟨2,(QcL (c::r)).getD 0,[],.nil⟩,{ p.pop with bad:=p.bad||(QcL (c::r)).isNone })
       else if QdL c=false then (Nd.zero,p.spoil)
       else if p.pop.has [40] then (⟨3,0,c::r,Qby (Qag (QN d) [41] p.pop.pop).1⟩,(Qag (QN d) [41] p.pop.pop).2)
       else (⟨1,0,c::r,.nil⟩,p.pop):=by
      conv=>lhs;unfold QN
      rw [h3]
     by_cases e33:c=33
     ·have:=h33 e33
      subst e33
      cases this
      have f1:Qv Q0 (d+1) s=(⟨1,0,[33],.nil⟩,s.adv):=e1
      rw [if_pos rfl] at e2
      rw [f1,e2]
      exact ⟨hadv,fun _=>rfl⟩
     rw [if_neg (by intro e;exact e33 (List.cons.inj e).1)] at e2
     by_cases hu:upB c=true
     ·rw [if_pos hu] at e1 e2
      rw [e1,e2]
      have hv:=hadv.var (c::r)
      exact ⟨hv.1,fun e=>by simp only at e⊢;rw [hv.2 e]⟩
     rw [if_neg hu] at e1 e2
     by_cases hd:((c==45)||Qbw c)=true
     ·rw [if_pos hd] at e2
      have hnt:=hnum (by rw [Bool.or_comm];exact hd)
      have hlo:QdL c=false:=by
       have hh:∀n:Fin 256,((UInt8.ofNat n.val==45)||Qbw (UInt8.ofNat n.val))=true→QdL (UInt8.ofNat n.val)=false:=by decide+kernel
       have:=hh ⟨c.toNat,c.toNat_lt⟩
       simp only [UInt8.ofNat_toNat] at this
       exact this hd
      rw [if_neg (by simp [hlo]),if_neg (by simp [hlo,e33]),if_pos (by rw [Bool.or_comm];exact hd)] at e1
      rw [e1,e2]
      unfold RS.number
      rw [QqO hnt]
      cases hv:QcL (c::r) with
      |some v=>
       simp only [Option.getD_some,Option.isNone_some,Bool.or_false]
       refine ⟨?_,fun _=>trivial⟩
       have:({ p.pop with bad:=p.bad }:PS)=p.pop:=rfl
       rw [this];exact hadv
      |none=>
       simp only [Option.getD_none,Option.isNone_none,Bool.or_true]
       refine ⟨?_,fun e=>absurd e (Qbs _ 1 Yg)⟩
       rcases hadv with ha|ha
       ·exact .inr (ha.fail (.inl rfl))
       ·exact .inr (ha.fail 1 (.inl rfl))
     rw [if_neg hd] at e2
     have hd2:¬(Qbw c||(c==45))=true:=by rw [Bool.or_comm];exact hd
     by_cases hlo:QdL c=true
     ·rw [if_neg (by simp [hlo])] at e2
      by_cases hp:s.adv.token=[40]
      ·rw [if_pos (by simp [hlo,hp])] at e1
       rcases hadv with ha|ha
       ·have hh:=(ha.tok Yd).1 hp
        rw [if_pos hh] at e2
        have e3:s.adv.take [40]=s.adv.adv:=by unfold RS.take;rw [if_pos hp]
        rw [e3] at e1
        rw [e1,e2]
        have h4:=ha.adv (by rw [hp];simp)
        have h5:=(Qfy d).terms (Qa2 Q0 d) (Qcg d) (QbA Q0 d) (QbI.term d) [41] (by simp [QiG]) _ _ h4
        refine ⟨h5.1,fun e=> ?_⟩
        simp only at e⊢
        rw [h5.2 (Qcf _ _ e).1]
       ·exact absurd ha.2.1 (by rw [hp];simp)
      ·rw [if_neg (by simp [hp]),if_pos (by simp [hlo])] at e1
       rw [e1]
       rcases hadv with ha|ha
       ·rw [if_neg fun e=>hp ((ha.tok Yd).2 e)] at e2
        rw [e2]
        exact ⟨.inl ha,fun _=>rfl⟩
       ·rw [e2]
        refine ⟨.inr ⟨ha.1,ha.2.1,ha.2.2.1,?_⟩,fun e=>by have:=ha.1;simp only at e;omega⟩
        split
        ·rename_i hh
         exact QbI.terms (QbI.term d) [41] (by simp [QiG]) _ (ha.2.2.2.has hh (by simp [QiG]))
        ·exact ha.2.2.2
     ·have hlo':QdL c=false:=by simpa using hlo
      rw [if_pos hlo'] at e2
      rw [if_neg (by simp [hlo']),if_neg (by simp [hlo',e33]),if_neg hd2] at e1
      rw [e1,e2]
      refine ⟨?_,fun e=>absurd e (Qbs _ 1 Yg)⟩
      rcases hadv with ha|ha
      ·exact .inr (ha.fail (.inl rfl))
      ·exact .inr (ha.fail 1 (.inl rfl))
  ·have e1:Qv Q0 (d+1) s=(Nd.zero,s.fail 1):=by unfold Qv;rw [if_pos h.2.1]
   rw [e1]
   exact ⟨.inr (h.fail 1 (QbI.term _ _ h.2.2.2)),fun e=>absurd e (Qbs s 1 Yg)⟩
theorem QrD (p:PS) (t:Str) (h:p.bad=true):(p.close t).bad=true:=by unfold PS.close;rw [if_pos h];exact h
theorem Qo5 (d:Nat) (p:PS) (h:(QN d p).2.bad=false):(QN d p).2.l.length<p.l.length:=by
 cases d with
 |zero=>cases h
 |succ d=>
  have hp:∀x r,p.l=x::r→p.pop.l.length<p.l.length:=fun x r e=>by simp [PS.pop,e]
  unfold QN at h⊢
  split at h
  ·cases h
  ·cases h
  ·rename_i c r q hl
   have h1:=hp _ _ hl
   simp only [hl] at h1⊢
   split at h
   ·rw [if_pos Ye];exact h1
   rw [if_neg Ye]
   split at h
   ·rw [if_pos Ye,(Qqy _ _).1];exact h1
   rw [if_neg Ye]
   split at h
   ·rw [if_pos Ye];exact h1
   rw [if_neg Ye]
   split at h
   ·cases h
   rw [if_neg Ye]
   split at h
   ·rw [if_pos Ye]
    have h2:=QeF (Qcg d) [41] p.pop.pop
    have h3:=Qi7 p.pop
    simp only
    omega
   ·rw [if_neg Ye];exact h1
theorem QuS (p:PS):(QaP p).2.l.length≤p.l.length:=by
 unfold QaP
 split
 ·have h1:=QeF (Qcg 24) [46] p.pop
  have h2:=Qi7 p
  unfold QaX
  omega
 ·exact Qkp p _
theorem Qtp (p:PS) (h:p.bad=true):(QaP p).2.bad=true:=by
 unfold QaP
 rw [if_neg (by simp [h])]
 exact QrD p _ h
def Qp (p:PS):Cl×PS:=
 let h:=QN 24 { p with vars:=[] }
 let q:=QaP h.2
 (⟨h.1.k,h.1.n,⟨h.1.s.toArray⟩,h.1.ar,Qby q.1,(q.2.vars.length:Nat)⟩,q.2)
theorem QdG (p:PS) (h:(Qp p).2.bad=false):(Qp p).2.l.length<p.l.length:=by
 have h1:=QuS (QN 24 { p with vars:=[] }).2
 have h2:(QN 24 { p with vars:=[] }).2.bad=false:=by
  cases hb:(QN 24 { p with vars:=[] }).2.bad with
  |false=>rfl
  |true=>
   have:=Qtp _ hb
   rw [show (QaP (QN 24 { p with vars:=[] }).2).2.bad=(Qp p).2.bad from rfl,h] at this
   cases this
 have h3:=Qo5 24 _ h2
 show (QaP (QN 24 { p with vars:=[] }).2).2.l.length<_
 have e:({ p with vars:=[] }:PS).l=p.l:=rfl
 rw [e] at h3
 omega
def Qao:Nat→PS→Option (List Cl)
 |0,p=>some []
 | n + 1, p => if p.l = [] then some [] else
     if (Qp p).2.bad=true∨cB (Qp p).1=false then none
     else (Qao n (Qp p).2).map ((Qp p).1::·)
theorem Qk7:∀(n:Nat) (p:PS),p.l.length≤n→Qao n p=Qao p.l.length p:=by
 intro n
 induction n using Nat.strongRecOn with
 | _ n ih =>
  intro p hn
  cases n with
  |zero=>rw [Nat.le_zero.1 hn]
  |succ n=>
   cases hl:p.l with
   |nil=>simp [Qao,hl]
   |cons x r=>
    have hne:p.l≠[]:=by rw [hl];simp
    rw [hl] at hn
    simp only [List.length_cons] at hn⊢
    simp only [Qao,hne,if_false]
    split
    ·rfl
    ·rename_i hb
     have h1:=QdG p (by simp only [not_or] at hb;simpa using hb.1)
     rw [hl] at h1
     simp only [List.length_cons] at h1
     by_cases e:n=r.length
     ·rw [e]
     ·rw [ih n Ya _ Ya,ih r.length Ya _ Ya]
theorem QdE {p:PS} (hne:p.l≠[]) (hb:¬((Qp p).2.bad=true∨cB (Qp p).1=false)):Qao p.l.length p=(Qao (Qp p).2.l.length (Qp p).2).map ((Qp p).1::·):=by
 have h1:=QdG p (by simp only [not_or] at hb;simpa using hb.1)
 cases hl:p.l with
 |nil=>exact absurd hl hne
 |cons x r=>
  rw [hl] at h1
  simp only [List.length_cons] at h1⊢
  simp only [Qao,hne,if_false,if_neg hb]
  rw [Qk7 r.length _ Ya]
theorem QdF {p:PS} (hne:p.l≠[]) (hb:(Qp p).2.bad=true∨cB (Qp p).1=false):Qao p.l.length p=none:=by
 cases hl:p.l with
 |nil=>exact absurd hl hne
 |cons x r=>simp only [List.length_cons,Qao,hne,if_false,if_pos hb]
theorem QhG {p:PS} (h:p.l=[]):Qao p.l.length p=some []:=by rw [h];rfl
theorem QbI.body {p:PS} (h:QbI p):QbI (QaP p).2:=by
 unfold QaP
 split
 ·rename_i hh;exact QbI.terms (QbI.term 24) [46] (by simp [QiG]) _ (h.has hh.2 (by simp [QiG]))
 ·exact h.close (by simp [QiG])
theorem QbI.clause {p:PS} (h:QbI p):QbI (Qp p).2:=QbI.body (QbI.term 24 _ (show QbI { p with vars:=[] } from h))
theorem QbI.prog:∀(n:Nat) (p:PS),p.l.length≤n→p.bad=false→QbI p→Qao p.l.length p=none:=by
 intro n
 induction n with
 |zero=>
  intro p hn hb h
  rcases h with h|⟨x,hx,_⟩
  ·rw [hb] at h;cases h
  ·have:=List.length_pos_of_mem hx;omega
 |succ n ih=>
  intro p hn hb h
  have hne:p.l≠[]:=by
   rcases h with h|⟨x,hx,_⟩
   ·rw [hb] at h;cases h
   ·intro e;rw [e] at hx;simp at hx
  by_cases hc:(Qp p).2.bad=true∨cB (Qp p).1=false
  ·exact QdF hne hc
  ·have h0:(Qp p).2.bad=false:=by simp only [not_or] at hc;simpa using hc.1
   have h1:=QdG p h0
   rw [QdE hne hc,ih _ Ya h0 h.clause]
   rfl
theorem Rel.body {s:RS} {p:PS} (h:Rel s p):Rel ((QaZ Q0 s).2.take [46]) (QaP p).2∧(((QaZ Q0 s).2.take [46]).err=0→(QaZ Q0 s).1=(QaP p).1):=by
 rcases h with h|h
 ·by_cases ht:s.token=[58,45]
  ·have hp:=(h.tok Yd).1 ht
   have e1:QaZ Q0 s=QJ (Qv Q0 24) s.adv:=by unfold QaZ;rw [if_pos ht]
   have e2:QaP p=Qag (QN 24) [46] p.pop:=by unfold QaP QaX;rw [if_pos ⟨h.2.1,hp⟩]
   rw [e1,e2]
   have h5:=(Qfy 24).terms (Qa2 Q0 24) (Qcg 24) (QbA Q0 24) (QbI.term 24) [46] (by simp [QiG]) _ _ (h.adv (by rw [ht];simp))
   exact ⟨h5.1,fun e=>h5.2 (Qcf _ _ e).1⟩
  ·have e1:QaZ Q0 s=([],s):=by unfold QaZ;rw [if_neg ht]
   have e2:QaP p=([],p.close [46]):=by unfold QaP;rw [if_neg fun e=>ht ((h.tok Yd).2 e.2)]
   rw [e1,e2]
   exact ⟨Rel.take (.inl h) (by simp [QiG]),fun _=>rfl⟩
 ·have e1:QaZ Q0 s=([],s):=by unfold QaZ;rw [if_neg (by rw [h.2.1];simp)]
  rw [e1]
  have h2:=h.2.2.2.body
  have h3:s.take [46]=(s.fail 1).adv:=by unfold RS.take;rw [if_neg (by rw [h.2.1];simp)]
  rw [h3]
  have h4:=(h.fail 1 h2).adv h2
  exact ⟨.inr h4,fun e=>by have:=h4.1;omega⟩
theorem Qfc {s:RS} (h:s.token=[]):QD Q0 s.left s=([],s):=Qld Q0 h
theorem Rel.fresh {s:RS} {p:PS} (h:Rel s p):Rel { s with vars:=[] } { p with vars:=[] }:=by
 rcases h with h|h
 ·exact .inl ⟨h.1,h.2.1,rfl,h.2.2.2⟩
 ·exact .inr ⟨h.1,h.2.1,h.2.2.1,h.2.2.2⟩
theorem Rel.clause {s:RS} {p:PS} (h:Rel s p):∃s3,(QP Q0 s).2=(if cB (QP Q0 s).1 then s3 else s3.fail 1)∧Rel s3 (Qp p).2∧(s3.err=0→(QP Q0 s).1=(Qp p).1):=by
 have h1:=Qfy 24 _ _ h.fresh
 have h2:=h1.1.body
 refine ⟨(QaZ Q0 (Qv Q0 24 { s with vars:=[] }).2).2.take [46],rfl,h2.1,fun e=> ?_⟩
 have hl:=h2.1.live e
 have e1:=(Qcf _ _ e).1
 have e2:(Qv Q0 24 { s with vars:=[] }).2.err=0:=by
  unfold QaZ at e1
  split at e1
  ·exact QbV _ (QbA Q0 24 _ (Qez (QbA Q0 24) _ e1))
  ·exact e1
 simp only [QP,Qp]
 rw [h1.2 e2,h2.2 e,hl.2.2.1]
theorem QsP:∀(n:Nat) (s:RS) (p:PS),s.left≤n→p.bad=false→Rel s p→
  match Qao p.l.length p with
  |some L=>(QD Q0 s.left s).1=L∧(QD Q0 s.left s).2.err=0
  |none=>(QD Q0 s.left s).2.err=1:=by
 intro n
 induction n with
 |zero=>
  intro s p hn hb h
  have ht:s.token=[]:=by unfold RS.left at hn;exact List.eq_nil_of_length_eq_zero Ya
  rw [Qfc ht]
  rcases h with h|h
  ·rcases h.2.2.2 with ⟨_,_,h3⟩|⟨h1,_⟩
   ·rw [QhG h3];exact ⟨rfl,h.1⟩
   ·exact absurd ht h1.1
  ·rw [QbI.prog _ p (Nat.le_refl _) hb h.2.2.2];exact h.1
 |succ n ih=>
  intro s p hn hb h
  by_cases ht:s.token=[]
  ·rw [Qfc ht]
   rcases h with h|h
   ·rcases h.2.2.2 with ⟨_,_,h3⟩|⟨h1,_⟩
    ·rw [QhG h3];exact ⟨rfl,h.1⟩
    ·exact absurd ht h1.1
   ·rw [QbI.prog _ p (Nat.le_refl _) hb h.2.2.2];exact h.1
  ·rw [Qle Q0 ht]
   have hlt:=QdX Q0 s ht
   have hne:p.l≠[]:=by
    rcases h with h|h
    ·rcases h.2.2.2 with ⟨h1,_,_⟩|⟨_,h3⟩
     ·exact absurd h1 ht
     ·rw [h3];simp
    ·exact absurd h.2.1 ht
   obtain ⟨s3,e3,hr,heq⟩:=h.clause
   have hdead:∀s',s'.token=[]→s'.err=1→(QD Q0 s'.left s').2.err=1:=fun s' h1 h2=>by rw [Qfc h1];exact h2
   rcases hr with hl|hd
   ·rw [heq hl.1] at e3
    by_cases hc:cB (Qp p).1=true
    ·rw [if_pos hc] at e3
     have hb2:¬((Qp p).2.bad=true∨cB (Qp p).1=false):=by simp [hl.2.1,hc]
     rw [QdE hne hb2,e3]
     have h5:=ih s3 (Qp p).2 (by rw [e3] at hlt;omega) hl.2.1 (.inl hl)
     cases hp:Qao (Qp p).2.l.length (Qp p).2 with
     |none=>rw [hp] at h5;exact h5
     |some L=>
      rw [hp] at h5
      simp only [Option.map_some]
      exact ⟨by rw [heq hl.1,h5.1],h5.2⟩
    ·have hc':cB (Qp p).1=false:=by simpa using hc
     rw [if_neg hc] at e3
     rw [QdF hne (.inr hc'),e3]
     exact hdead _ rfl (by simp [RS.fail,hl.1])
   ·have h6:(QP Q0 s).2.token=[]∧(QP Q0 s).2.err=1:=by
     rw [e3]
     split
     ·exact ⟨hd.2.1,hd.1⟩
     ·exact ⟨rfl,by simp [RS.fail,hd.1]⟩
    have h7:=hdead _ h6.1 h6.2
    have h8:Qao p.l.length p=none:=by
     by_cases hc:(Qp p).2.bad=true∨cB (Qp p).1=false
     ·exact QdF hne hc
     ·have h0:(Qp p).2.bad=false:=by simp only [not_or] at hc;simpa using hc.1
      rw [QdE hne hc,QbI.prog _ _ (Nat.le_refl _) h0 hd.2.2.2]
      rfl
    rw [h8]
    exact h7
def PS.start (l:Str):PS:=⟨Qcx l,[],false⟩
theorem QkY (l:Str) (h:¬2000<l.length):Rel (RS.start l) (PS.start l):=by
 unfold RS.start
 rw [if_neg h]
 exact Qr7 rfl rfl rfl rfl
theorem QiT (l:Str) (h:2000<l.length):(RS.start l).token=[]∧(RS.start l).err=3:=by
 unfold RS.start
 rw [if_pos h]
 exact ⟨rfl,rfl⟩
def QeH (l:Str):List Cl×Int:=
 if 2000<l.length then ([],3) else
 match Qao (PS.start l).l.length (PS.start l) with
 |none=>([],1)
 |some L=>if 24<L.length then ([],3) else (L,0)
theorem QmO (l:Str):QC Q0 l=QeH l:=by
 unfold QC QeH
 by_cases h:2000<l.length
 ·obtain ⟨h1,h2⟩:=QiT l h
  rw [if_pos h]
  have e:(if 24<([]:List Cl).length then (RS.start l).fail 3 else RS.start l)=RS.start l:=if_neg Yg
  simp only [Qfc h1,e]
  rw [if_neg (by rw [h2];decide),h2]
 ·rw [if_neg h]
  have h1:=QsP _ (RS.start l) (PS.start l) (Nat.le_refl _) rfl (QkY l h)
  generalize QD Q0 (RS.start l).left (RS.start l)=q at h1⊢
  cases hp:Qao (PS.start l).l.length (PS.start l) with
  |none=>
   rw [hp] at h1
   simp only at h1⊢
   have e:(if 24<q.1.length then q.2.fail 3 else q.2).err=1:=by
    split
    ·simp [RS.fail,h1]
    ·exact h1
   rw [if_neg (by rw [e];decide),e]
  |some L=>
   rw [hp] at h1
   simp only at h1⊢
   rw [h1.1]
   by_cases h24:24<L.length
   ·rw [if_pos h24,if_pos h24]
    have e:(q.2.fail 3).err=3:=by simp [RS.fail,h1.2]
    rw [if_neg (by rw [e];decide),e]
   ·rw [if_neg h24,if_neg h24,if_pos h1.2]
def Qfb (l:Str):Ts×Nat×Int:=
 if 2000<l.length then (.nil,0,3) else
 let g:=QaX (PS.start l)
 if g.2.bad=true∨g.2.l≠[]∨qB (g.2.vars.length:Nat) (Qby g.1)=false then (.nil,0,1) else (Qby g.1,g.2.vars.length,0)
theorem Qlb (l:Str):Q7 Q0 l=Qfb l:=by
 unfold Q7 Qfb
 by_cases h:2000<l.length
 ·obtain ⟨h1,h2⟩:=QiT l h
  rw [if_pos h]
  have e1:(QJ (Qv Q0 24) (RS.start l)).2.err=3:=by
   have e0:(Qv Q0 24 (RS.start l)).2=(RS.start l).fail 1:=by unfold Qv;rw [if_pos h1]
   unfold QJ
   simp only [e0]
   rw [QcQ (by simp [RS.fail])]
   simp [RS.fail,h2]
  have e2:∀s:RS,s.err=3→(s.take [46]).err=3:=by
   intro s hs
   unfold RS.take RS.adv
   simp only
   split<;>split<;>simp [RS.fail,hs]
  have e3:=e2 _ e1
  simp only
  generalize (QJ (Qv Q0 24) (RS.start l)).2.take [46]=s at e3
  have e4:∀b:Prop,∀_:Decidable b,(if b then s else s.fail 1).err=3:=by
   intro b _
   split
   ·exact e3
   ·simp [RS.fail,e3]
  rw [if_neg (by rw [e4];decide),e4]
 ·rw [if_neg h]
  have h5:=(Qfy 24).terms (Qa2 Q0 24) (Qcg 24) (QbA Q0 24) (QbI.term 24) [46] (by simp [QiG]) _ _ (QkY l h)
  have h6:Rel ((QJ (Qv Q0 24) (RS.start l)).2.take [46]) (QaX (PS.start l)).2:=h5.1
  have h7:((QJ (Qv Q0 24) (RS.start l)).2.take [46]).err=0→(QJ (Qv Q0 24) (RS.start l)).1=(QaX (PS.start l)).1:=fun e=>h5.2 (Qcf _ _ e).1
  clear h5
  simp only
  generalize QaX (PS.start l)=g at*
  generalize QJ (Qv Q0 24) (RS.start l)=a at*
  generalize a.2.take [46]=s at*
  rcases h6 with hl|hd
  ·rw [h7 hl.1,hl.2.2.1]
   have htk:s.token=[]↔g.2.l=[]:=by
    rcases hl.2.2.2 with ⟨h1,_,h3⟩|⟨h1,h3⟩
    ·simp [h1,h3]
    ·rw [h3];simp [h1.1]
   by_cases hq:s.token=[]∧qB (g.2.vars.length:Nat) (Qby g.1)=true
   ·rw [if_pos hq,if_pos hl.1,if_neg (by simp [hl.2.1,htk.1 hq.1,hq.2]),hl.2.2.1]
   ·have e:(s.fail 1).err=1:=by simp [RS.fail,hl.1]
    rw [if_neg hq,if_neg (by rw [e];decide),e,if_pos]
    by_cases ht:s.token=[]
    ·right;right
     have:¬qB (g.2.vars.length:Nat) (Qby g.1)=true:=fun h=>hq ⟨ht,h⟩
     simpa using this
    ·right;left;exact fun e=>ht (htk.2 e)
  ·have e4:∀b:Prop,∀_:Decidable b,(if b then s else s.fail 1).err=1:=by
    intro b _
    split
    ·exact hd.1
    ·simp [RS.fail,hd.1]
   rw [if_neg (by rw [e4];decide),e4,if_pos]
   rcases hd.2.2.2 with h|⟨x,hx,_⟩
   ·exact .inl h
   ·right;left;intro e;rw [e] at hx;simp at hx
def Qce (w:World) (mb:Nat) (Qcu:List (Int×Value)):Prop:=
 ∃es clock,w.heap[mb]?=some (.map es clock)∧es.toList.map (fun e=>(e.key,e.val))=Qcu.map (fun x=>(Value.int .i64 x.1,x.2))
def QpJ (n:Int):List (Int×Value)→Option Value
 |[]=>none
 |x::r=>if n=x.1 then some x.2 else QpJ n r
def Qu7 (n:Int) (v:Value):List (Int×Value)→List (Int×Value)
 |[]=>[(n,v)]
 |x::r=>if n=x.1 then (n,v)::r else x::Qu7 n v r
def QoE (n:Int):List (Int×Value)→Nat→Option (Nat×Value)
 |[],_=>none
 |x::r,i=>if n=x.1 then some (i,x.2) else QoE n r (i+1)
theorem QdQ (n:Int):MapKept.IsKey (.int .i64) (.int .i64 n):=by simp [MapKept.IsKey]
theorem QdU (n:Int):∀(es:List MapEntry) (Qcu:List (Int×Value)) (i:Nat),es.map (fun e=>(e.key,e.val))=Qcu.map (fun x=>(Value.int .i64 x.1,x.2))→
  Instr.findNow (.int .i64) (.int .i64 n) es i=some (QoE n Qcu i)
 |[],[],i,_=>rfl
 |[],_::_,_,h=>by simp at h
 |_::_,[],_,h=>by simp at h
 |e::es,x::Qcu,i,h=>by
  simp only [List.map_cons,List.cons.injEq,Prod.mk.injEq] at h
  obtain ⟨⟨h1,h2⟩,h3⟩:=h
  have ih:=QdU n es Qcu (i+1) h3
  simp only [Instr.findNow,h1,Instr.sameNow,QoE,if_true]
  by_cases e1:n=x.1
  ·simp [e1,h2]
  ·have e2:(n==x.1)=false:=by simpa using e1
   rw [e2,if_neg e1,←ih]
theorem Qij {n:Int}:∀{Qcu:List (Int×Value)} {i:Nat},QoE n Qcu i=none↔QpJ n Qcu=none
 |[],_=>by simp [QoE,QpJ]
 |x::r,i=>by
  simp only [QoE,QpJ]
  by_cases e:n=x.1
  ·simp [e]
  ·simp only [e,if_false];exact Qij
theorem Qmi {n:Int}:∀{Qcu:List (Int×Value)} {i j:Nat} {v:Value},QoE n Qcu i=some (j,v)→QpJ n Qcu=some v
 |[],_,_,_,h=>by simp [QoE] at h
 |x::r,i,j,v,h=>by
  simp only [QoE,QpJ] at*
  by_cases e:n=x.1
  ·simp only [e,if_true,Option.some.injEq,Prod.mk.injEq] at h⊢;exact h.2
  ·simp only [e,if_false] at h⊢;exact Qmi h
theorem Qig {n:Int} {v:Value}:∀{Qcu:List (Int×Value)},QpJ n Qcu=none→Qu7 n v Qcu=Qcu++[(n,v)]
 |[],_=>rfl
 |x::r,h=>by
  simp only [QpJ] at h
  by_cases e:n=x.1
  ·simp [e] at h
  ·simp only [e,if_false] at h
   simp only [Qu7,e,if_false,Qig h,List.cons_append]
theorem Qmd {n:Int} {v u:Value}:∀{Qcu:List (Int×Value)} {i j:Nat},QoE n Qcu i=some (j,u)→i≤j∧(Qcu[j-i]?).map (·.1)=some n∧Qu7 n v Qcu=Qcu.set (j-i) (n,v)
 |[],_,_,h=>by simp [QoE] at h
 |x::r,i,j,h=>by
  simp only [QoE,Qu7] at*
  by_cases e:n=x.1
  ·simp only [e,if_true,Option.some.injEq,Prod.mk.injEq] at h
   obtain ⟨rfl,_⟩:=h
   simp [e]
  ·simp only [e,if_false] at h⊢
   obtain ⟨h1,h2,h3⟩:=Qmd (v:=v) h
   have e1:j-i=(j-(i+1))+1:=by omega
   refine ⟨by omega,by rw [e1];simpa using h2,by rw [h3,e1];rfl⟩
section
variable {P:Program} {w:World} {mb:Nat} {Qcu:List (Int×Value)} {t kt et:TypeId}
theorem Qce.lt (h:Qce w mb Qcu):mb<w.heap.size:=by
 obtain ⟨es,clock,hb,_⟩:=h
 exact (Array.getElem?_eq_some_iff.1 hb).1
theorem Qce.keep {w':World} (h:Qce w mb Qcu) (hk:w'.heap[mb]?=w.heap[mb]?):Qce w' mb Qcu:=by
 obtain ⟨es,clock,hb,he⟩:=h
 exact ⟨es,clock,hk.trans hb,he⟩
theorem Qce.made (w:World):Qce (w.alloc (.map #[] 0)) w.heap.size []:=⟨#[],0,heap_alloc_new w _,rfl⟩
theorem QmE {P:Program} (t:TypeId) (w:World):(Instr.makeMap t none).run P w= .ok (.map (some w.heap.size)) (w.alloc (.map #[] 0)):=by
 simp [Instr.makeMap,newObj,Sem.run]
theorem Qce.lookup (h:Qce w mb Qcu) {z:Value} (ht:P.underlying t=some (.map kt et)) (hk:P.underlying kt=some (.int .i64))
  (hz:(zeroValue et).run P w= .ok z w) (n:Int) (c:Bool):
  (Instr.lookup t (.map (some mb)) (.int .i64 n) c).run P w= .ok (if c then .tuple #[(QpJ n Qcu).getD z,.bool (QpJ n Qcu).isSome] else (QpJ n Qcu).getD z) w:=by
 obtain ⟨es,clock,hb,he⟩:=h
 have hf:=QdU n es.toList Qcu 0 he
 cases ha:QoE n Qcu 0 with
 |none=>
  rw [ha] at hf
  simp [Instr.lookup,run_underlying ht,MapKept.run_getObj_map hb,MapKept.run_checkKey hk (QdQ n),MapKept.run_findKey hk hf,hz,Result.andThen,Qij.1 ha]
 |some x=>
  rw [ha] at hf
  simp [Instr.lookup,run_underlying ht,MapKept.run_getObj_map hb,MapKept.run_checkKey hk (QdQ n),MapKept.run_findKey hk hf,Result.andThen,Qmi ha]
theorem Qce.update (h:Qce w mb Qcu) (ht:P.underlying t=some (.map kt et)) (hk:P.underlying kt=some (.int .i64)) (n:Int) (v:Value):
  ∃w',(Instr.mapUpdate t (.map (some mb)) (.int .i64 n) v).run P w= .ok () w'∧Qce w' mb (Qu7 n v Qcu)∧Chg (fun k=>k=mb) w w'∧w'.heap.size=w.heap.size:=by
 have hlt:=h.lt
 obtain ⟨es,clock,hb,he⟩:=h
 have hf:=QdU n es.toList Qcu 0 he
 cases ha:QoE n Qcu 0 with
 |none=>
  rw [ha] at hf
  refine ⟨{ w with heap:=w.heap.setIfInBounds mb (.map (es.push { key:= .int .i64 n,val:=v,born:=clock }) (clock+1)) },?_,⟨_,_,(MapKept.heap_set hb).1,?_⟩,⟨rfl,rfl,rfl,by simp,fun k _ hn=>(MapKept.heap_set hb).2 k hn⟩,by simp⟩
  ·simp [Instr.mapUpdate,run_underlying ht,MapKept.run_getObj_map hb,MapKept.run_checkKey hk (QdQ n),MapKept.run_findKey hk hf,MapKept.run_setObj_map _ hb,Result.andThen]
  ·rw [Qig (Qij.1 ha),Array.toList_push,List.map_append,List.map_append,he];rfl
 |some x=>
  obtain ⟨j,u⟩:=x
  rw [ha] at hf
  obtain ⟨_,h2,h3⟩:=Qmd (v:=v) ha
  simp only [Nat.sub_zero] at h2 h3
  have hent:∃e,es[j]?=some e∧e.key= .int .i64 n:=by
   have h4:=congrArg (fun l=>l[j]?) he
   simp only [List.getElem?_map] at h4
   cases h5:Qcu[j]? with
   |none=>rw [h5] at h2;simp at h2
   |some y=>
    rw [h5] at h2 h4
    simp only [Option.map_some,Option.some.injEq] at h2
    cases h6:es[j]? with
    |none=>simp [h6] at h4
    |some e=>
     simp [h6] at h4
     exact ⟨e,rfl,by rw [h4.1,h2]⟩
  obtain ⟨e,hj,hkey⟩:=hent
  refine ⟨{ w with heap:=w.heap.setIfInBounds mb (.map (es.modify j fun e=>{ e with key:= .int .i64 n,val:=v }) clock) },?_,⟨_,_,(MapKept.heap_set hb).1,?_⟩,⟨rfl,rfl,rfl,by simp,fun k _ hn=>(MapKept.heap_set hb).2 k hn⟩,by simp⟩
  ·simp [Instr.mapUpdate,run_underlying ht,MapKept.run_getObj_map hb,MapKept.run_checkKey hk (QdQ n),MapKept.run_findKey hk hf,hj,hkey,MapKept.run_keyThatStays (QdQ n),MapKept.run_setObj_map _ hb,Result.andThen]
  ·rw [h3]
   apply List.ext_getElem?
   intro i
   have h4:=congrArg (fun l=>l[i]?) he
   simp only [List.getElem?_map,Array.getElem?_toList] at h4
   simp only [List.getElem?_map,Array.getElem?_toList,Array.getElem?_modify,List.getElem?_set]
   by_cases hij:j=i
   ·subst hij
    have hjl:j<Qcu.length:=by
     rcases Nat.lt_or_ge j Qcu.length with hl|hl
     ·exact hl
     ·rw [List.getElem?_eq_none hl] at h2;simp at h2
    simp [hj,hjl]
   ·simp [hij,h4]
theorem Qce.size (h:Qce w mb Qcu):∃es clock,w.heap[mb]?=some (.map es clock)∧es.size=Qcu.length:=by
 obtain ⟨es,clock,hb,he⟩:=h
 refine ⟨es,clock,hb,?_⟩
 have:=congrArg List.length he
 simpa using this
theorem Qce.len (h:Qce w mb Qcu) (ht:P.underlying t=some (.map kt et)) (ty:TypeId):(Builtin.len_ #[t] ty #[.map (some mb)]).run P w= .ok (.int .i64 Qcu.length) w:=by
 obtain ⟨es,clock,hb,hs⟩:=h.size
 simp [Builtin.len_,run_underlying ht,MapKept.run_getObj_map hb,Result.andThen,hs,goInt]
end
section
variable {P:Program} {n:Nat} {e:Env} {w:World} {Q:Exit→Act→World→Prop} {ops:Array Oper} {rest:List Oper} {ty:TypeId} {pos:String} {after:Array Edge} {d:Nat}
variable {M:List Nat} {w0:World} {H H':List (Nat×Obj)} {F:List (World→Prop)} {mb:Nat} {es:Array MapEntry} {clk:Nat} {Qcu:List (Int×Value)} {x y u:Operand} {v z:Value} {dst:Option Nat} {t kt:TypeId} {i:Int}
end
def pB (L:List Cl):Bool:=decide (L.length≤24)&&L.all cB
def Qua (w:World) (L:List Cl) (g:Nat) (sx:Value) (wr:World):Prop:=∃D R:List Cl,L=D++R∧g=R.length∧sx= .int .i64 D.length∧D.all cB=true∧Below w.heap.size w wr
section
variable {w w':World} {p q:Nat→Prop}
end
def low (n:Int):Int:=n%1099511627776
def pos (n:Int):List Int→Option Nat
 |[]=>none
 |k::r=>if n=k then some 0 else (pos n r).map (· +1)
def QqP (ks:List Int) (n:Int):Int:=((pos n ks).getD ks.length:Nat)
def QqQ (ks:List Int) (n:Int):List Int:=if (pos n ks).isSome then ks else ks++[n]
def Qcc (i:Nat):List Int→List (Int×Value)
 |[]=>[]
 |k::r=>(k,.int .i64 i)::Qcc (i+1) r
theorem QdP:∀(ks:List Int) (i:Nat),(Qcc i ks).length=ks.length
 |[],_=>rfl
 |_::r,i=>by simp [Qcc,QdP r (i+1)]
theorem Qde (n:Int):∀(ks:List Int) (i:Nat),QpJ n (Qcc i ks)=(pos n ks).map fun j=>Value.int .i64 ((i+j:Nat):Int)
 |[],_=>rfl
 |k::r,i=>by
  simp only [Qcc,QpJ,pos]
  by_cases e:n=k
  ·simp [e]
  ·simp only [e,if_false,Qde n r (i+1),Option.map_map]
   congr 1
   funext j
   simp only [Function.comp]
   congr 2
   omega
theorem Qfs (n:Int):∀(ks:List Int) (i:Nat),Qcc i (ks++[n])=Qcc i ks++[(n,.int .i64 ((i+ks.length:Nat):Int))]
 |[],i=>rfl
 |k::r,i=>by
  simp only [List.cons_append,Qcc,Qfs n r (i+1),List.length_cons]
  congr 5
  omega
def QpL (w:World) (mb:Nat) (ks:List Int):Prop:=Qce w mb (Qcc 0 ks)
theorem Qan.not_map {w:World} {g mb:Nat} {t:TypeId} {cs:Array Value} {Qcu:List (Int×Value)} (h:Qan w g t cs) (hm:Qce w mb Qcu):g≠mb:=by
 rintro rfl
 obtain ⟨es,clock,hb,_⟩:=hm
 unfold Qan at h
 rw [hb] at h
 cases h
theorem Qtb:(Tryz.prog.info? 3).map (fun i=>(i.zero,i.size,i.bytes))=some (some (.int .i64 0),1,8):=by kernel_rfl
theorem Qsp (w:World):(zeroValue 3).run Tryz.prog w= .ok (.int .i64 0) w:=by
 obtain ⟨i0,hi0,hz0,_⟩:=info_parts Qtb
 simp [zeroValue,typeInfo,hi0,hz0]
set_option maxHeartbeats 400000 in
theorem Qqg (n:Int) (ks:List Int) (vb mb:Nat) (w:World) (hv:Qan w vb 199 #[.map (some mb)]) (hm:QpL w mb ks):
  Calls Tryz.prog 145 #[.int .i64 n,.pointer (some ⟨vb,0,none⟩)] w fun e w'=>e= .returned (.int .i64 (QqP ks n))∧QpL w' mb (QqQ ks n)∧Chg (fun k=>k=mb) w w':=by
 have c0:w.cell? ⟨vb,0,none⟩=some (.map (some mb)):=hv.cell 0
 have Qq:=Qce.lookup (P:=Tryz.prog) hm Tryz.underlying199 Tryz.underlying3 (Qsp w) n true
 rw [Qde] at Qq
 have hlen:=Qce.len (P:=Tryz.prog) hm Tryz.underlying199
 rw [QdP] at hlen
 obtain ⟨w1,hup,hm1,hc1,hs1⟩:=Qce.update (P:=Tryz.prog) hm Tryz.underlying199 Tryz.underlying3 n (.int .i64 ks.length)
 cases hp:pos n ks with
 |none=>
  rw [hp] at Qq
  simp only [Option.map_none,Option.getD_none,Option.isSome_none,if_true] at Qq
  have h1:QqP ks n=ks.length:=by simp [QqP,hp]
  have h2:QpL w1 mb (QqQ ks n):=by
   unfold QpL QqQ
   rw [hp]
   simp only [Option.isSome_none,Bool.false_eq_true,if_false]
   rw [Qfs]
   rw [Qig (by rw [Qde,hp];rfl)] at hm1
   simpa using hm1
  have H1:=Lib.hid h1
  clear h1 hp
  go_enter Tryz.func145,Tryz.ntmps145
  go_wp2_with fail
  go_ret
  exact ⟨by rw [H1.out];rfl,h2,hc1⟩
 |some j=>
  rw [hp] at Qq
  simp only [Option.map_some,Option.getD_some,Option.isSome_some,if_true] at Qq
  have h1:QqP ks n=j:=by simp [QqP,hp]
  have h2:QpL w mb (QqQ ks n):=by
   unfold QqQ
   rw [hp]
   exact hm
  have H1:=Lib.hid h1
  clear h1 hp
  go_enter Tryz.func145,Tryz.ntmps145
  go_wp2_with fail
  go_ret
  exact ⟨by rw [H1.out];rfl,h2,Chg.refl _ _⟩
structure Num (σ:Type) where
 fid:FuncId
 cap:Array Value
 own:Nat→Prop
 lean:Nat→Prop
 inv:σ→World→Prop
 val:σ→Int→Int
 nxt:σ→Int→σ
structure Num.Ok {σ:Type} (N:Num σ):Prop where
 keep:∀s w w',N.inv s w→(∀k,N.lean k→w'.heap[k]?=w.heap[k]?)→N.inv s w'
 lt:∀s w k,N.inv s w→N.lean k→k<w.heap.size
 sub:∀k,N.own k→N.lean k
 bare:∀s w k c t f,N.inv s w→N.own k→w.heap[k]?≠some (.cells c t f)
 enter:∀(args:Array Value) (w:World),(callFunc N.fid args).run Tryz.prog w= .ok (.enter N.fid args) w
 call:∀s n w,N.inv s w→Calls Tryz.prog N.fid (#[.int .i64 n]++N.cap) w fun e w'=>e= .returned (.int .i64 (N.val s n))∧N.inv (N.nxt s n) w'∧Chg N.own w w'
def Num.v1 {σ:Type} (N:Num σ) (k n:Int) (s:σ):Int:=if k=0 then N.val s n else n
def Num.s1 {σ:Type} (N:Num σ) (k n:Int) (s:σ):σ:=if k=0 then N.nxt s n else s
def Ts.ren {σ:Type} (N:Num σ):Ts→σ→Ts×σ
 | .nil,s=>(.nil,s)
 | .cons k n b ar r,s=>(.cons k (N.v1 k n s) b (ar.ren N (N.s1 k n s)).1 (r.ren N (ar.ren N (N.s1 k n s)).2).1,(r.ren N (ar.ren N (N.s1 k n s)).2).2)
theorem Ts.length_ren {σ:Type} (N:Num σ) (T:Ts):∀s:σ,(T.ren N s).1.length=T.length:=by
 induction T with
 |nil=>intro s;rfl
 |cons k n b ar r _ ih=>intro s;simp only [Ts.ren,Ts.length,ih]
section
variable {σ:Type} {N:Num σ}
theorem Num.Ok.cell_none (ok:N.Ok) {w:World} {s:σ} {k o:Nat} (hi:N.inv s w) (ho:N.own k):w.cell? ⟨k,o,none⟩=none:=by
 have:=fun c t f=>ok.bare s w k c t f hi ho
 unfold World.cell?
 split
 ·rename_i h;exact absurd h (this _ _ _)
 ·rfl
end
end Go.Proofs.YthliapbflkfdiacGreatDoor
