/- EWalk2, NumB, RefM, RefN, RefEq, RefEq2, IntMap, MapM, Program: texts that follow one another, laid into one file. -/
import Derived.Test.YthliapbflkfdiacGreatDoorZ0
import Derived.Test.YthliapbflkfdiacGreatDoorG5
import Derived.Test.YthliapbflkfdiacGreatDoorG4
import Derived.Test.YthliapbflkfdiacGreatDoorG1
import Derived.MapKept
import Derived.Maps.OwnOps
import Derived.Test.YthliapbflkfdiacGreatDoorG2
namespace Go.Proofs.YthliapbflkfdiacGreatDoor
open Go.RowKit Go.Shelf
set_option linter.unusedVariables false
set_option linter.unusedSimpArgs false
set_option maxRecDepth 100000
set_option maxHeartbeats 1000000
def QeS (w:World):Prop:=∀i:Nat,i<7→w.cell? ⟨0,i,none⟩=some (sv (QiY (i:Nat)))
theorem Qs1 (k:Int):(QiY k).length≤6:=by
 unfold QiY
 repeat' split
 all_goals decide
theorem QtF (k:Int) (T:Ts) (v:Value) (w0:World) (hG:∀w',Ext [] w0 w'→QcF w') (hW:∀w',Ext [] w0 w'→QeS w') (hv:Sl w0 (fun _=>True) v T) (hr:rng T) (hN:T.nodes≤1048576) (hl:(Qbs k T).length≤1073741824):
  Calls Tryz.prog 18 #[.agg #[.int .i64 k,v]] w0 fun e w'=>e= .returned (sv (Qbs k T))∧Below w0.heap.size w0 w':=by
 have hS:=St.start w0;obtain ⟨A,c,rfl,hv⟩:=hv.form;refine Qh Tryz.func18 rfl Tryz.ntmps18 rfl ?_;by_cases h0:k<0
 ·have e:Qbs k T=[]:=by unfold Qbs QiY;repeat' rw [if_neg Ya]
  rw [e];refine Zf ?_;clear hS;intro b1 wx1 hS;refine Zbr ?_;refine ZJ ?_;refine ZbP ?_;refine Z1 ?_;refine Zfu ?_;exact ⟨rfl,hS.ext.below⟩
 by_cases h7:7≤k
 ·have e:Qbs k T=[]:=by unfold Qbs QiY;repeat' rw [if_neg Ya]
  rw [e];refine Zf ?_;clear hS;intro b1 wx1 hS;refine Zbr ?_;refine ZJ ?_;refine ZD ?_;refine Zd6 ?_;refine Z6 ?_;refine Z1 ?_;refine Zfu ?_;exact ⟨rfl,hS.ext.below⟩
 obtain ⟨i,rfl⟩:∃i:Nat,k=i:=⟨k.toNat,by omega⟩
 have hwc:∀w',Ext [] w0 w'→w'.cell? ⟨0,0+((i:Nat):Int).toNat*1,none⟩=some (sv (QiY (i:Nat))):=fun w' h=>by
  have:=hW w' h i Ya
  rwa [show 0+((i:Nat):Int).toNat*1=i by omega]
 have hwl:=Qs1 (i:Nat);by_cases h1:((i:Nat):Int)=1
 ·have e:Qbs (i:Nat) T=QiY (i:Nat)++Qb4 0 T:=by unfold Qbs;rw [if_pos h1,h1];rfl
  rw [e] at hl⊢;rw [List.length_append] at hl;refine Zf ?_;clear hS;intro b1 wx1 hS;refine ZV ?_;refine Zea ?_;refine ZJ ?_;refine Zc4 ?_;refine Zdy ?_;refine Zx ?_;refine Z6 ?_;refine Z2 ?_;refine Zea ?_;refine Zg8 ?_;refine Zdy ?_;refine ZV ?_;refine Zea ?_;refine Zbh ?_;refine Zm ?_;refine ZM ?_;refine Zdy ?_;refine Zj ?_;refine Calls.mono (Qpc T _ _ (fun w' h=>hG w' (hS.ext.trans h)) (hv.below hS.ext.below) hr hN Ya) ?_;rintro _ w3 ⟨rfl,hb3⟩;refine Za ?_;replace hS:=hS.grow hb3;refine Qa (Qpv rfl rfl (by first|omega|(simp;done)|(simp;omega))) rfl ?_;refine Zd ?_;refine Zfu ?_;exact ⟨rfl,hS.ext.below⟩
 ·have e:Qbs (i:Nat) T=QiY (i:Nat):=by unfold Qbs;rw [if_neg h1]
  rw [e];refine Zf ?_;clear hS;intro b1 wx1 hS;refine ZV ?_;refine Zea ?_;refine ZJ ?_;refine Zc4 ?_;refine Zdy ?_;refine Zx ?_;refine Z6 ?_;refine Z2 ?_;refine Zea ?_;refine Zg8 ?_;refine Zdy ?_;refine ZV ?_;refine Zea ?_;refine ZaW ?_;refine Zar ?_;refine Zfu ?_;exact ⟨rfl,hS.ext.below⟩
theorem QlT:∀(l m:Str) (acc a:Nat),Lib.parseUint10 acc l= .ok a→Lib.parseUint10 acc (l++m)=Lib.parseUint10 a m
 |[],m,acc,a,h=>by
  simp only [Lib.parseUint10,Lib.NumEnd.ok.injEq] at h;subst h;rfl
 | c :: r, m, acc, a, h => by
  simp only [List.cons_append,Lib.parseUint10] at h⊢;split at h
  ·rename_i hc;rw [if_pos hc];split at h
   ·cases h
   ·rename_i h1;rw [if_neg h1];split at h
    ·cases h
    ·rename_i h2;rw [if_neg h2];exact QlT r m _ a h
  ·cases h
theorem QiF (d:Nat) (h:d<10):(UInt8.ofNat (48+d)).toNat=48+d:=by
 rw [UInt8.toNat_ofNat'];omega
theorem QgS (u:Nat) (h:u<9223372036854775808):Lib.parseUint10 0 (Lib.decDigits u)= .ok u:=by
 induction u using Nat.strongRecOn with
 |ind u ih=>
  by_cases h10:u<10
  ·rw [Lib.decDigits_one h10];have:=QiF u h10;simp only [Lib.parseUint10,this];rw [if_pos Ya,if_neg Ya,if_neg Ya];simp
  ·rw [Lib.decDigits,dif_neg h10,QlT _ _ _ _ (ih (u/10) Ya Ya)];have:=QiF (u%10) Ya;simp only [Lib.parseUint10,this];rw [if_pos Ya,if_neg Ya,if_neg Ya];congr 1;omega
theorem Qd9 (u:Nat):Lib.decDigits u≠[]:=by
 rw [Lib.decDigits];split<;>simp
theorem Qj7 (u:Nat):∀c∈Lib.decDigits u,QbE c=true:=by
 have hd:∀d,d<10→QbE (UInt8.ofNat (48+d))=true:=fun d h=>by
  have:=QiF d h;simp only [QbE,this];simp;omega
 induction u using Nat.strongRecOn with
 |ind u ih=>
  by_cases h10:u<10
  ·rw [Lib.decDigits_one h10];intro c hc;rw [List.mem_singleton.1 hc];exact hd u h10
  ·rw [Lib.decDigits,dif_neg h10];intro c hc;rcases List.mem_append.1 hc with hc|hc
   ·exact ih (u/10) Ya c hc
   ·rw [List.mem_singleton.1 hc];exact hd _ Ya
theorem Qgp:∀(k u:Nat),u<10^(k+1)→Lib.nDigits u≤k+1
 |0,u,h=>by rw [Lib.nDigits_small (by simpa using h)];omega
 |k+1,u,h=>by
  by_cases h10:u<10
  ·rw [Lib.nDigits_small h10];omega
  ·rw [Lib.nDigits_big h10];have:=Qgp k (u/10) (by rw [Nat.pow_succ] at h;omega);omega
theorem Qvn (c:UInt8) (h:QbE c=true):c.toNat≠43∧c.toNat≠45:=by
 simp [QbE] at h;omega
theorem Qsq (n:Int) (h0: -1099511627776≤n) (h1:n≤1099511627776):Lib.atoiAll (Lib.itoa n)= .ok n:=by
 unfold Lib.itoa;split
 ·have hp:=QgS n.natAbs Ya;have hne:=Qd9 n.natAbs;simp only [Lib.atoiAll,Lib.parseMag];have e1:(UInt8.toNat 45=43∨UInt8.toNat 45=45)=True:=eq_true Yf;have e2:(UInt8.toNat 45=45)=True:=eq_true Yf;simp only [e2,or_true,if_true];rw [if_neg hne,hp];simp only [not_true_eq_false,false_and,if_false,true_and];rw [if_neg Ya];congr 1;omega
 ·have hp:=QgS n.toNat Ya
  cases hl:Lib.decDigits n.toNat with
  |nil=>exact absurd hl (Qd9 _)
  |cons c r=>
   have hc:=Qvn c (Qj7 n.toNat c (by rw [hl];exact .head _));rw [hl] at hp;simp only [Lib.atoiAll,Lib.parseMag];simp only [hc.1,hc.2,or_self,if_false];rw [if_neg Yd,hp];simp only [not_false_eq_true,true_and,false_and,if_false];rw [if_neg Ya];congr 1;omega
theorem Qrm (n:Int) (h0: -1099511627776≤n) (h1:n≤1099511627776):QP (Lib.itoa n)=some n:=by
 unfold QP;rw [Qsq n h0 h1];simp only;rw [if_pos ⟨trivial,h0,h1⟩]
def QaA:Str→Nat
 |[]=>0
 |c::r=>
  if Qd2 c||upB c then 1+Qbr Qd2 r
  else if QbE c||(c==45) then 1+Qbr QbE r
  else if ([58,45]:Str).isPrefixOf (c::r) then 2
  else if QeC.contains c then 1
  else 0
def Qca:Nat→Str→List Str
 |0,_=>[]
 |f+1,[]=>[]
 |f+1,c::r=>
  if Qjj c then Qca f r
  else if QaA (c::r)=0 then [[]]
  else (c::r).take (QaA (c::r))::Qca f ((c::r).drop (QaA (c::r)))
def QcG (l:Str):List Str:=Qca l.length l
theorem QcX:∀(n:Nat) (l:Str),l.length≤n→Qca n l=QcG l:=by
 intro n
 induction n using Nat.strongRecOn with
 | _ n ih =>
  intro l hn
  cases l with
  |nil=>cases n<;>rfl
  |cons c r=>
   obtain ⟨m,rfl⟩:∃m,n=m+1:=⟨n-1,by simp at hn;omega⟩
   unfold QcG;simp only [List.length_cons] at hn⊢;simp only [Qca];split
   ·rw [ih m Ya r Ya];rfl
   split
   ·rfl
   ·rename_i hw
    have hl:((c::r).drop (QaA (c::r))).length≤r.length:=by
     rw [List.length_drop];simp;omega
    rw [ih m Ya _ Ya];by_cases e:m=r.length
    ·rw [e] at ih;rw [←ih r.length Ya _ hl]
    ·rw [←ih r.length Ya _ hl]
theorem QmW {c:UInt8} (r:Str) (h:Qjj c=true):QcG (c::r)=QcG r:=by
 rw [←QcX (r.length+1) (c::r) Yd,Qca,if_pos h,QcX _ r (Nat.le_refl _)]
theorem Qqo {c:UInt8} (r:Str) (h:Qjj c=false) (hw:QaA (c::r)=0):QcG (c::r)=[[]]:=by
 rw [←QcX (r.length+1) (c::r) Yd,Qca,if_neg (by simp [h]),if_pos hw]
theorem Qjh {c:UInt8} (r:Str) (h:Qjj c=false) (hw:QaA (c::r)≠0):QcG (c::r)=(c::r).take (QaA (c::r))::QcG ((c::r).drop (QaA (c::r))):=by
 rw [←QcX (r.length+1) (c::r) Yd,Qca,if_neg (by simp [h]),if_neg hw,QcX _ _ (by rw [List.length_drop];simp;omega)]
structure PS where
 l:List Str
 vars:List Str
 bad:Bool
def PS.has (p:PS) (t:Str):Bool:=p.l.head?==some t
def PS.pop (p:PS):PS:={ p with l:=p.l.tail }
def PS.spoil (p:PS):PS:={ p with bad:=true }
def PS.close (p:PS) (t:Str):PS:=if p.bad then p else if p.has t then p.pop else p.spoil
def PS.var (p:PS) (x:Str):Nat×PS:=if x∈p.vars then (QfL p.vars x,p) else (p.vars.length,{ p with vars:=p.vars++[x] })
def QmT (d:Str):Nat:=d.foldl (fun n c=>10*n+(c-48).toNat) 0
def Qso (s:Str):Str:=match s with|45::r=>r|_=>s
def QcY (s:Str):Option Int:=
 let d:=Qso s
 if d=[]∨13<d.length∨(QeH d=48∧s≠[48]) then none
 else if 1099511627776<QmT d then none
 else some (if d=s then (QmT d:Int) else -(QmT d:Int))
def QV (f:PS→Nd×PS):Nat→PS→List Nd×PS
 |0,p=>([],p)
 |fuel+1,p=>if p.bad=false∧p.has [44]=true then
   let a:=f p.pop
   let q:=QV f fuel a.2
   (a.1::q.1,q.2)
  else ([],p)
def Qaj (f:PS→Nd×PS) (t:Str) (p:PS):List Nd×PS:=
 let a:=f p
 let q:=QV f a.2.l.length a.2
 (a.1::q.1,q.2.close t)
def QT : Nat → PS → Nd × PS
 |0,p=>(Nd.zero,p.spoil)
 |d+1,p=>match p.l with
  |[]=>(Nd.zero,p.spoil)
  |[]::_=>(Nd.zero,p.spoil)
  |(c::r)::_=>
   if c::r=[33] then (⟨1,0,[33],.nil⟩,p.pop)
   else if upB c then (⟨0,(p.pop.var (c::r)).1,[],.nil⟩,(p.pop.var (c::r)).2)
   else if (c==45)||QbE c then (⟨2,(QcY (c::r)).getD 0,[],.nil⟩,{ p.pop with bad:=p.bad||(QcY (c::r)).isNone })
   else if Qd2 c=false then (Nd.zero,p.spoil)
   else if p.pop.has [40] then
    (⟨3,0,c::r,QbG (Qaj (QT d) [41] p.pop.pop).1⟩,(Qaj (QT d) [41] p.pop.pop).2)
   else (⟨1,0,c::r,.nil⟩,p.pop)
def Qa0 (p:PS):List Nd×PS:=Qaj (QT 24) [46] p
def QaV (p:PS):List Nd×PS:=if p.bad=false∧p.has [58,45]=true then Qa0 p.pop else ([],p.close [46])
theorem QjJ (p:PS):p.pop.l.length≤p.l.length:=by simp [PS.pop]
theorem QkX (p:PS) (t:Str):(p.close t).l.length≤p.l.length:=by
 unfold PS.close;split
 ·exact Nat.le_refl _
 split
 ·exact QjJ p
 ·exact Nat.le_refl _
theorem Qit {p:PS} {t:Str} (h:p.has t=true):p.pop.l.length<p.l.length∧p.l=t::p.pop.l:=by
 unfold PS.has at h
 cases hl:p.l with
 |nil=>rw [hl] at h;simp at h
 |cons x r=>rw [hl] at h;simp at h;simp [PS.pop,hl,h]
def QnS (f:PS→Nd×PS):Prop:=∀p,(f p).2.l.length≤p.l.length
theorem QjF {f:PS→Nd×PS} (hf:QnS f):∀(n:Nat) (p:PS),(QV f n p).2.l.length≤p.l.length
 |0,p=>Nat.le_refl _
 |n+1,p=>by
  unfold QV;split
  ·have h1:=QjF hf n (f p.pop).2;have h2:=hf p.pop;have h3:=QjJ p;simp only;omega
  ·exact Nat.le_refl _
theorem Qe3 {f:PS→Nd×PS} (hf:QnS f) (t:Str) (p:PS):(Qaj f t p).2.l.length≤p.l.length:=by
 have h1:=QjF hf (f p).2.l.length (f p).2;have h2:=hf p;have h3:=QkX (QV f (f p).2.l.length (f p).2).2 t;simp only [Qaj];omega
theorem Qq3 (p:PS) (x:Str):(p.var x).2.l=p.l∧(p.var x).2.bad=p.bad:=by
 unfold PS.var;split<;>exact ⟨rfl,rfl⟩
theorem Qcm:∀d,QnS (QT d)
 |0,p=>Nat.le_refl _
 |d+1,p=>by
  unfold QT;have h1:=QjJ p;split
  ·exact Nat.le_refl _
  ·exact Nat.le_refl _
  ·rename_i c r q hl;split
   ·exact h1
   split
   ·rw [(Qq3 _ _).1];exact h1
   split
   ·exact h1
   split
   ·exact Nat.le_refl _
   split
   ·have h2:=Qe3 (Qcm d) [41] p.pop.pop;have h3:=QjJ p.pop;simp only;omega
   ·exact h1
theorem QlL {f:PS→Nd×PS} (hf:QnS f):∀(n:Nat) (p:PS),p.l.length≤n→QV f n p=QV f p.l.length p:=by
 intro n
 induction n using Nat.strongRecOn with
 |_ n ih=>
  intro p hn;by_cases ht:p.bad=false∧p.has [44]=true
  ·have h1:=(Qit ht.2).1;have h2:=hf p.pop
   obtain ⟨m,rfl⟩:∃m,n=m+1:=⟨n-1,by omega⟩
   obtain ⟨l,hl⟩:∃l,p.l.length=l+1:=⟨p.l.length-1,by omega⟩
   rw [hl];simp only [QV,if_pos ht];rw [ih m Ya (f p.pop).2 Ya,ih l Ya (f p.pop).2 Ya]
  ·have h0:∀k,QV f k p=([],p):=fun k=>by cases k with|zero=>rfl|succ k=>simp only [QV,if_neg ht]
   rw [h0,h0]
theorem QlK {f:PS→Nd×PS} (hf:QnS f) {p:PS} (ht:p.bad=false∧p.has [44]=true):QV f p.l.length p=((f p.pop).1::(QV f (f p.pop).2.l.length (f p.pop).2).1,(QV f (f p.pop).2.l.length (f p.pop).2).2):=by
 have h1:=(Qit ht.2).1;have h2:=hf p.pop
 obtain ⟨l,hl⟩:∃l,p.l.length=l+1:=⟨p.l.length-1,by omega⟩
 rw [hl];simp only [QV,if_pos ht];rw [QlL hf l (f p.pop).2 Ya]
theorem QgP {f:PS→Nd×PS} {p:PS} (ht:¬(p.bad=false∧p.has [44]=true)):QV f p.l.length p=([],p):=by
 cases p.l.length with
 |zero=>rfl
 |succ k=>simp only [QV,if_neg ht]
theorem Qmy (d:Str) (c:UInt8):QmT (d++[c])=10*QmT d+(c-48).toNat:=by simp [QmT,List.foldl_append]
theorem Qvm {c:UInt8} (h:QbE c=true):(c-48).toNat<10∧UInt8.ofNat (48+(c-48).toNat)=c:=by
 have hh:∀n:Fin 256,QbE (UInt8.ofNat n.val)=true→(UInt8.ofNat n.val-48).toNat<10∧UInt8.ofNat (48+(UInt8.ofNat n.val-48).toNat)=UInt8.ofNat n.val:=by decide+kernel
 have:=hh ⟨c.toNat,c.toNat_lt⟩;simp only [UInt8.ofNat_toNat] at this;exact this h
theorem Qm3 (d:Nat) (h:d<10):(UInt8.ofNat (48+d)-48).toNat=d:=by
 have hh:∀n:Fin 10,(UInt8.ofNat (48+n.val)-48).toNat=n.val:=by decide+kernel
 exact hh ⟨d,h⟩
theorem QiB (u:Nat):QmT (Lib.decDigits u)=u:=by
 induction u using Nat.strongRecOn with
 |ind u ih=>
  by_cases h10:u<10
  ·rw [Lib.decDigits_one h10];have:=Qm3 u h10;simp only [QmT,List.foldl_cons,List.foldl_nil];omega
  ·rw [Lib.decDigits,dif_neg h10,Qmy,ih (u/10) Ya,Qm3 _ Ya];omega
theorem Qpk:∀(l:Str),l=[]∨∃e c,l=e++[c]:=fun l=>by
 rcases List.eq_nil_or_concat l with h|⟨e,c,h⟩
 ·exact .inl h
 ·exact .inr ⟨e,c,by simpa using h⟩
theorem QiE:∀(n:Nat) (d:Str),d.length=n→(∀c∈d,QbE c=true)→d≠[]→QeH d≠48→Lib.decDigits (QmT d)=d∧0<QmT d:=by
 intro n
 induction n with
 |zero=>intro d hl _ hne;exact absurd (List.eq_nil_of_length_eq_zero hl) hne
 |succ n ih=>
  intro d hl hd hne h48;rcases Qpk d with rfl|⟨e,c,rfl⟩
  ·exact absurd rfl hne
  have hc:=Qvm (hd c Yd);rw [Qmy]
  cases e with
  |nil=>
   have h0:(c-48).toNat≠0:=fun h0=>by
    have:=hc.2;rw [h0] at this;exact h48 (by show c=48;rw [←this];rfl)
   have e0:QmT []=0:=rfl;rw [e0,Nat.mul_zero,Nat.zero_add,Lib.decDigits_one hc.1,hc.2];exact ⟨rfl,by omega⟩
  |cons x e=>
   have h1:=ih (x::e) (by simp at hl⊢;omega) (fun y hy=>hd y (List.mem_append_left _ hy)) Yd h48;have h2:¬10*QmT (x::e)+(c-48).toNat<10:=by omega
   have h3:(10*QmT (x::e)+(c-48).toNat)/10=QmT (x::e):=by omega
   have h4:(10*QmT (x::e)+(c-48).toNat)%10=(c-48).toNat:=by omega
   rw [Lib.decDigits,dif_neg h2,h3,h4,hc.2,h1.1];exact ⟨rfl,by omega⟩
theorem Qr5:QmT [48]=0:=rfl
theorem QiC:Lib.decDigits 0=[48]:=by rw [Lib.decDigits_one Ya];rfl
theorem QiD (u:Nat) (h:0<u):QeH (Lib.decDigits u)≠48:=by
 induction u using Nat.strongRecOn with
 |ind u ih=>
  by_cases h10:u<10
  ·rw [Lib.decDigits_one h10];intro e;have:=Qm3 u h10;rw [show UInt8.ofNat (48+u)=48 from e] at this;have h0:((48:UInt8)-48).toNat=0:=by decide
   omega
  ·rw [Lib.decDigits,dif_neg h10];have h1:=ih (u/10) Ya Ya;have h2:=Qd9 (u/10)
   cases hl:Lib.decDigits (u/10) with
   |nil=>exact absurd hl h2
   |cons x r=>rw [hl] at h1;exact h1
theorem QoW {c:UInt8} {r:Str} (h:QbE c=true):Qso (c::r)=c::r:=by
 unfold Qso;split
 ·rename_i e;cases e;exact absurd h Yf
 ·rfl
def QsP (t:Str):Prop:=(t≠[]∧∀c∈t,QbE c=true)∨∃r,t=45::r∧r≠[]∧∀c∈r,QbE c=true
theorem Qpd {t:Str} {v:Int} (ht:QsP t) (h:QcY t=some v):t=Lib.itoa v∧-1099511627776≤v∧v≤1099511627776:=by
 unfold QcY at h;simp only at h;split at h
 ·cases h
 rename_i h1;split at h
 ·cases h
 rename_i h2;simp only [not_or,not_and] at h1;obtain ⟨h11,h12,h13⟩:=h1;rcases ht with ⟨hne,hd⟩|⟨r,rfl,hne,hd⟩
 ·cases t with
  |nil=>exact absurd rfl hne
  |cons c r=>
   have hb:=QoW (r:=r) (hd c (.head _));rw [hb] at h h13 h2;rw [if_pos rfl] at h;cases h
   refine ⟨?_,by omega,by omega⟩;unfold Lib.itoa;rw [if_neg Ya,Int.toNat_natCast];by_cases h48:QeH (c::r)=48
   ·have:=h13 h48;have h5:c::r=[48]:=by simpa using this
    rw [h5,Qr5,QiC]
   ·exact (QiE _ _ rfl hd Yd h48).1.symm
 ·have hb:Qso (45::r)=r:=rfl;rw [hb] at h h13 h2
  have hner:r≠45::r:=fun e=>by have:=congrArg List.length e;simp at this
  rw [if_neg hner] at h;cases h
  have h48:QeH r≠48:=fun e=>absurd (h13 e) Yd;have h5:=QiE _ _ rfl hd hne h48;refine ⟨?_,by omega,by omega⟩;unfold Lib.itoa;rw [if_pos Ya,Int.natAbs_neg,Int.natAbs_natCast,h5.1]
theorem Qpe (v:Int) (h0: -1099511627776≤v) (h1:v≤1099511627776):QcY (Lib.itoa v)=some v:=by
 unfold Lib.itoa;split
 ·have hd:=QiB v.natAbs;have hh:=QiD v.natAbs Ya;have hn:=Qd9 v.natAbs;have hl:=Qgp 12 v.natAbs Ya;rw [←Lib.decDigits_length] at hl;generalize Lib.decDigits v.natAbs=d at*
  have hner:d≠45::d:=fun e=>by have:=congrArg List.length e;simp at this
  have hb:Qso (45::d)=d:=rfl;unfold QcY;simp only [hb];rw [if_neg (by simp [hn,hh];omega),hd,if_neg Ya,if_neg hner];congr 1;omega
 ·have hd:=QiB v.toNat;have hn:=Qd9 v.toNat;have hl:=Qgp 12 v.toNat Ya;rw [←Lib.decDigits_length] at hl
  have hh:QeH (Lib.decDigits v.toNat)=48→Lib.decDigits v.toNat=[48]:=fun e=>by
   by_cases hz:v.toNat=0
   ·rw [hz];exact QiC
   ·exact absurd e (QiD _ Ya)
  have hall:=Qj7 v.toNat;generalize Lib.decDigits v.toNat=d at*
  cases d with
  |nil=>exact absurd rfl hn
  |cons c r=>
   have hb:=QoW (r:=r) (hall c (.head _));unfold QcY;simp only [hb]
   rw [if_neg (by
    rintro (h|h|⟨h,h'⟩)
    ·exact hn h
    ·omega
    ·exact h' (hh h)),hd,if_neg Ya,if_pos trivial]
   congr 1;omega
theorem Qrj {t:Str} (ht:QsP t):QP t=QcY t:=by
 cases hv:QcY t with
 |some v=>
  obtain ⟨e,h0,h1⟩:=Qpd ht hv;rw [e];exact Qrm v h0 h1
 |none=>
  cases hn:QP t with
  |none=>rfl
  |some v=>
   unfold QP at hn;split at hn
   ·split at hn
    ·rename_i h;cases hn
     rw [←h.1,Qpe _ h.2.1 h.2.2] at hv;cases hv
    ·cases hn
   ·cases hn
theorem QmZ:QcY [45]=none:=by decide
def Qje (x:Str):Prop:=x=[]∨x=[45]
def QbS (p:PS):Prop:=p.bad=true∨∃x∈p.l,Qje x
def Qv1 (t:Str):Prop:=t≠[]∧((QbE (QeH t)||(QeH t==45))=true→QsP t)∧(QeH t=33→t=[33])
def QiS (s:RS) (p:PS):Prop:=s.err=0∧p.bad=false∧s.vars=p.vars∧((s.token=[]∧s.rest=[]∧p.l=[])∨(Qv1 s.token∧p.l=s.token::QcG s.rest))
def QsR (s:RS) (p:PS):Prop:=s.err=1∧s.token=[]∧s.rest=[]∧QbS p
def Rel (s:RS) (p:PS):Prop:=QiS s p∨QsR s p
theorem QbS.pop {p:PS} {t:Str} {r:List Str} (h:QbS p) (hl:p.l=t::r) (ht:¬Qje t):QbS p.pop:=by
 rcases h with h|⟨x,hx,hb⟩
 ·exact .inl h
 ·rw [hl] at hx;rcases List.mem_cons.1 hx with rfl|hx
  ·exact absurd hb ht
  ·exact .inr ⟨x,by simp [PS.pop,hl,hx],hb⟩
theorem QbS.has {p:PS} {t:Str} (h:QbS p) (hh:p.has t=true) (ht:¬Qje t):QbS p.pop:=h.pop (Qit hh).2 ht
theorem QbS.close {p:PS} {t:Str} (h:QbS p) (ht:¬Qje t):QbS (p.close t):=by
 unfold PS.close;split
 ·exact h
 split
 ·rename_i hh;exact h.has hh ht
 ·exact .inl rfl
theorem QbS.var {p:PS} (x:Str) (h:QbS p):QbS (p.var x).2:=by
 unfold PS.var;split
 ·exact h
 ·exact h
def QmQ (f:PS→Nd×PS):Prop:=∀p,QbS p→QbS (f p).2
theorem QbS.loop {f:PS→Nd×PS} (hf:QmQ f):∀(n:Nat) (p:PS),QbS p→QbS (QV f n p).2
 |0,p,h=>h
 |n+1,p,h=>by
  unfold QV;split
  ·rename_i hh;exact QbS.loop hf n _ (hf _ (h.has hh.2 (by simp [Qje])))
  ·exact h
theorem QbS.terms {f:PS→Nd×PS} (hf:QmQ f) (t:Str) (ht:¬Qje t) (p:PS) (h:QbS p):QbS (Qaj f t p).2:=(QbS.loop hf _ _ (hf p h)).close ht
theorem QbS.term:∀d,QmQ (QT d)
 |0,p,h=> .inl rfl
 | d + 1, p, h => by
  unfold QT;split
  ·exact .inl rfl
  ·exact .inl rfl
  ·rename_i c r q hl;split
   ·rename_i e;exact h.pop hl (by rw [e];simp [Qje])
   split
   ·rename_i hne hu;refine QbS.var _ (h.pop hl ?_);rintro (e|e)
    ·cases e
    ·cases e;exact absurd hu Yf
   split
   ·by_cases e:c::r=[45]
    ·left;rw [e,QmZ];simp
    ·rcases h.pop hl (by rintro (e'|e');cases e';exact e e') with h'|h'
     ·left;have:p.bad=true:=h';simp [this]
     ·exact .inr h'
   split
   ·exact .inl rfl
   ·rename_i h45 hlo
    have hb:¬Qje (c::r):=by
     rintro (e|e)
     ·cases e
     ·cases e;exact h45 rfl
    split
    ·rename_i hp;exact QbS.terms (QbS.term d) [41] (by simp [Qje]) _ ((h.pop hl hb).has hp (by simp [Qje]))
    ·exact h.pop hl hb
theorem QsR.fail {s:RS} {p q:PS} (h:QsR s p) (e:Int) (hq:QbS q):QsR (s.fail e) q:=⟨by simp [RS.fail,h.1],rfl,rfl,hq⟩
theorem QsR.adv {s:RS} {p q:PS} (h:QsR s p) (hq:QbS q):QsR s.adv q:=by
 have:s.adv=⟨[],[],s.vars,s.err⟩:=by
  unfold RS.adv;rw [h.2.2.1];rfl
 rw [this];exact ⟨h.1,rfl,rfl,hq⟩
theorem QiS.fail {s:RS} {p:PS} (h:QiS s p) {q:PS} (hq:QbS q):QsR (s.fail 1) q:=⟨by simp [RS.fail,h.1],rfl,rfl,hq⟩
theorem QhN {f:UInt8→Bool}:∀(l:Str),∀c∈l.take (Qbr f l),f c=true
 |[],c,h=>by simp at h
 |x::l,c,h=>by
  unfold Qbr at h
  cases hx:f x with
  |false=>rw [hx] at h;simp at h
  |true=>
   rw [hx] at h;simp only [cond_true,List.take_succ_cons] at h;rcases List.mem_cons.1 h with rfl|h
   ·exact hx
   ·exact QhN l c h
theorem Qs4 {c:UInt8} (h:(upB c||Qd2 c)=true):QbE c=false∧(c==45)=false∧c≠33:=by
 have hh:∀n:Fin 256,(upB (UInt8.ofNat n.val)||Qd2 (UInt8.ofNat n.val))=true→QbE (UInt8.ofNat n.val)=false∧(UInt8.ofNat n.val==45)=false∧UInt8.ofNat n.val≠33:=by decide+kernel
 have:=hh ⟨c.toNat,c.toNat_lt⟩;simp only [UInt8.ofNat_toNat] at this;exact this h
theorem Qr6 {c:UInt8} (h:QbE c=true):upB c=false∧Qd2 c=false∧(c==45)=false∧c≠33:=by
 have hh:∀n:Fin 256,QbE (UInt8.ofNat n.val)=true→upB (UInt8.ofNat n.val)=false∧Qd2 (UInt8.ofNat n.val)=false∧(UInt8.ofNat n.val==45)=false∧UInt8.ofNat n.val≠33:=by decide+kernel
 have:=hh ⟨c.toNat,c.toNat_lt⟩;simp only [UInt8.ofNat_toNat] at this;exact this h
theorem Qpl {c:UInt8} (h:QeC.contains c=true):QbE c=false∧(c==45)=false:=by
 have hh:∀n:Fin 256,QeC.contains (UInt8.ofNat n.val)=true→QbE (UInt8.ofNat n.val)=false∧(UInt8.ofNat n.val==45)=false:=by decide+kernel
 have:=hh ⟨c.toNat,c.toNat_lt⟩;simp only [UInt8.ofNat_toNat] at this;exact this h
theorem Qs5 (c:UInt8) (r:Str):(Qac (c::r)=QaA (c::r)∧(Qac (c::r)≠0→Qv1 ((c::r).take (Qac (c::r)))))∨(Qac (c::r)=0∧QaA (c::r)=1∧c=45):=by
 have hT:∀x,1+x≠0:=fun x=>by omega
 by_cases h1:(upB c||Qd2 c)=true
 ·left;have e1:Qac (c::r)=1+Qbr Qd2 r:=by simp only [Qac,h1,if_true]
  have e2:QaA (c::r)=1+Qbr Qd2 r:=by simp only [QaA,Bool.or_comm (Qd2 c),h1,if_true]
  rw [e1,e2];have hf:=Qs4 h1;refine ⟨rfl,fun _=>⟨by rw [Nat.add_comm,List.take_succ_cons];simp,fun h=> ?_,fun h=> ?_⟩⟩
  ·rw [Nat.add_comm,List.take_succ_cons] at h;simp only [QeH,hf.1,hf.2.1,Bool.or_self,Bool.false_eq_true] at h
  ·rw [Nat.add_comm,List.take_succ_cons] at h;exact absurd h hf.2.2
 have h1':(upB c||Qd2 c)=false:=by simpa using h1
 by_cases h2:QbE c=true
 ·left;have hf:=Qr6 h2
  have e:Qbr QbE (c::r)=1+Qbr QbE r:=by simp [Qbr,h2];omega
  have e1:Qac (c::r)=Qbr QbE (c::r):=by simp only [Qac,h1',h2,Bool.false_eq_true,if_false,if_true]
  have e2:QaA (c::r)=1+Qbr QbE r:=by simp only [QaA,Bool.or_comm (Qd2 c),h1',h2,Bool.true_or,Bool.false_eq_true,if_false,if_true]
  rw [e1,e2];refine ⟨e,fun _=>⟨by rw [e,Nat.add_comm,List.take_succ_cons];simp,fun h=> .inl ⟨by rw [e,Nat.add_comm,List.take_succ_cons];simp,QhN _⟩,fun h=> ?_⟩⟩;rw [e,Nat.add_comm,List.take_succ_cons] at h;exact absurd h hf.2.2.2
 have h2':QbE c=false:=by simpa using h2
 by_cases h3:c=45
 ·subst h3
  have e2:QaA (45::r)=1+Qbr QbE r:=by
   have a1:(Qd2 45||upB 45)=false:=by decide
   have a2:(QbE 45||((45:UInt8)==45))=true:=by decide
   simp only [QaA,a1,a2,Bool.false_eq_true,if_false,if_true]
  have e1:Qac (45::r)=if 0<Qbr QbE r then 1+Qbr QbE r else 0:=by
   simp only [Qac,h1',h2',Bool.false_eq_true,if_false,if_true]
  by_cases h4:0<Qbr QbE r
  ·left;rw [e1,e2,if_pos h4];refine ⟨rfl,fun _=>⟨by rw [Nat.add_comm,List.take_succ_cons];simp,fun h=> .inr ⟨r.take (Qbr QbE r),by rw [Nat.add_comm,List.take_succ_cons],?_,QhN r⟩,fun h=> ?_⟩⟩
   ·intro e;have:=congrArg List.length e;have hle:=Qdh QbE r;simp only [List.length_take,List.length_nil] at this;omega
   ·rw [Nat.add_comm,List.take_succ_cons] at h;have h':(45:UInt8)=33:=h;exact absurd h' Yf
  ·right;rw [e1,e2,if_neg h4];exact ⟨rfl,by omega,rfl⟩
 have h3':(c==45)=false:=by simp [h3]
 left;by_cases h5:([58,45]:Str).isPrefixOf (c::r)=true
 ·have e1:Qac (c::r)=2:=by
   simp only [Qac,h1',h2',h3,Bool.false_eq_true,if_false];rw [if_pos h5]
  have e2:QaA (c::r)=2:=by
   simp only [QaA,Bool.or_comm (Qd2 c),h1',h2',h3',Bool.or_self,Bool.false_eq_true,if_false];rw [if_pos h5]
  rw [e1,e2]
  cases r with
  |nil=>simp [List.isPrefixOf] at h5
  |cons x r=>
   have:c=58:=by simp [List.isPrefixOf] at h5;exact h5.1.symm
   subst this;exact ⟨rfl,fun _=>⟨by simp,fun h=>absurd h (by simp [QeH,QbE]),fun h=>absurd h (by simp [QeH])⟩⟩
 have e1:Qac (c::r)=if QeC.contains c then 1 else 0:=by
  simp only [Qac,h1',h2',h3,Bool.false_eq_true,if_false];rw [if_neg h5]
 have e2:QaA (c::r)=if QeC.contains c then 1 else 0:=by
  simp only [QaA,Bool.or_comm (Qd2 c),h1',h2',h3',Bool.or_self,Bool.false_eq_true,if_false];rw [if_neg h5]
 rw [e1,e2];by_cases h6:QeC.contains c=true
 ·rw [if_pos h6];have hf:=Qpl h6;refine ⟨rfl,fun _=>⟨by simp,fun h=> ?_,fun h=> ?_⟩⟩
  ·have:(QbE c||(c==45))=true:=h;rw [hf.1,hf.2] at this;cases this
  ·have:c=33:=h;rw [this];rfl
 ·rw [if_neg h6];exact ⟨rfl,fun h=>absurd rfl h⟩
theorem Qji:∀R:Str,QcG R=QcG (Qcd R)
 |[]=>rfl
 |c::r=>by
  unfold Qcd;rw [List.dropWhile_cons];split
  ·rename_i h;rw [QmW r h];exact Qji r
  ·rfl
theorem QqA {R:Str} {c:UInt8} {r:Str} (h:Qcd R=c::r):Qjj c=false:=by
 unfold Qcd at h
 induction R with
 |nil=>simp at h
 |cons x R ih=>
  rw [List.dropWhile_cons] at h;split at h
  ·exact ih h
  ·rename_i hx;cases h;simpa using hx
theorem QsJ {s:RS} {p:PS} (he:s.err=0) (hb:p.bad=false) (hv:s.vars=p.vars) (hl:p.l=QcG s.rest):Rel s.adv p:=by
 rw [Qji] at hl;unfold RS.adv;simp only
 cases ht:Qcd s.rest with
 |nil=>
  rw [ht] at hl;rw [if_neg Yd];exact .inl ⟨he,hb,hv,.inl ⟨rfl,rfl,hl⟩⟩
 |cons c r=>
  have hw:=QqA ht;rw [ht] at hl;rcases Qs5 c r with ⟨h1,h2⟩|⟨h1,h2,h3⟩
  ·by_cases h0:Qac (c::r)=0
   ·rw [if_pos ⟨h0,by simp⟩];rw [Qqo r hw Ya] at hl;exact .inr ⟨by simp [RS.fail,he],rfl,rfl,.inr ⟨[],by rw [hl];simp,.inl rfl⟩⟩
   ·rw [if_neg (by simp [h0])];rw [Qjh r hw Ya,←h1] at hl;exact .inl ⟨he,hb,hv,.inr ⟨h2 h0,hl⟩⟩
  ·subst h3;rw [if_pos ⟨h1,by simp⟩];rw [Qjh r hw Ya,h2] at hl;exact .inr ⟨by simp [RS.fail,he],rfl,rfl,.inr ⟨[45],by rw [hl];simp,.inr rfl⟩⟩
theorem QiS.tok {s:RS} {p:PS} (h:QiS s p) {t:Str} (ht:t≠[]):(s.token=t)↔p.has t=true:=by
 rcases h.2.2.2 with ⟨h1,_,h3⟩|⟨h1,h3⟩
 ·rw [h1];unfold PS.has;rw [h3];simp;exact fun e=>ht (by first|exact e|exact e.symm)
 ·unfold PS.has;rw [h3];simp
theorem QiS.adv {s:RS} {p:PS} (h:QiS s p) (hn:s.token≠[]):Rel s.adv p.pop:=by
 rcases h.2.2.2 with ⟨h1,_,_⟩|⟨h1,h3⟩
 ·exact absurd h1 hn
 ·exact QsJ h.1 h.2.1 h.2.2.1 (by simp [PS.pop,h3])
theorem Rel.take {s:RS} {p:PS} (h:Rel s p) {t:Str} (ht:¬Qje t):Rel (s.take t) (p.close t):=by
 have hne:t≠[]:=fun e=>ht (.inl e);rcases h with h|h
 ·have e2:p.close t=if p.has t then p.pop else p.spoil:=by unfold PS.close;rw [if_neg (by simp [h.2.1])]
  rw [e2];by_cases e:s.token=t
  ·have e1:s.take t=s.adv:=by unfold RS.take;rw [if_pos e]
   rw [e1,if_pos ((h.tok hne).1 e)];exact h.adv (by rw [e];exact hne)
  ·have e1:s.take t=(s.fail 1).adv:=by unfold RS.take;rw [if_neg e]
   rw [e1,if_neg fun e'=>e ((h.tok hne).2 e')];exact .inr ((h.fail (q:=p.spoil) (.inl rfl)).adv (.inl rfl))
 ·have e1:s.take t=(s.fail 1).adv:=by unfold RS.take;rw [if_neg (by rw [h.2.1];exact fun e=>hne e.symm)]
  rw [e1];exact .inr ((h.fail 1 (h.2.2.2.close ht)).adv (h.2.2.2.close ht))
def Qwa (f:RS→Nd×RS) (g:PS→Nd×PS):Prop:=∀s p,Rel s p→Rel (f s).2 (g p).2∧((f s).2.err=0→(f s).1=(g p).1)
theorem Rel.live {s:RS} {p:PS} (h:Rel s p) (he:s.err=0):QiS s p:=by
 rcases h with h|h
 ·exact h
 ·have:=h.1;omega
def QmO (f:RS→Nd×RS):Prop:=∀s,(f s).2.err=0→s.err=0
theorem QbA (s:RS) (e:Int) (he:e≠0):(s.fail e).err≠0:=by
 simp only [RS.fail];split
 ·exact he
 ·assumption
theorem Qb1 (s:RS) (h:s.adv.err=0):s.err=0:=by
 unfold RS.adv at h;simp only at h;split at h
 ·exact absurd h (QbA s 1 Yf)
 ·exact h
theorem Qcl (s:RS) (t:Str) (h:(s.take t).err=0):s.err=0∧s.token=t:=by
 unfold RS.take at h;split at h
 ·rename_i e;exact ⟨Qb1 s h,e⟩
 ·exact absurd (Qb1 _ h) (QbA s 1 Yf)
theorem Qgq {f:RS→Nd×RS} (hf:QmO f):∀(n:Nat) (s:RS),(Qa3 f n s).2.err=0→s.err=0
 |0,s,h=>h
 |n+1,s,h=>by
  unfold Qa3 at h;split at h
  ·exact Qb1 s (hf _ (Qgq hf n _ h))
  ·exact h
theorem QeV {f:RS→Nd×RS} (hf:QmO f):∀s:RS,(QQ f s).2.err=0→(f s).2.err=0:=fun s h=>Qgq hf _ _ h
theorem QmY (s:RS) (x:Str):(s.var x).2.err=s.err:=by unfold RS.var;split<;>rfl
theorem QbJ (num:Str→Option Int):∀d,QmO (QA num d)
 |0,s,h=>absurd h (QbA s 1 Yf)
 |d+1,s,h=>by
  unfold QA at h;split at h
  ·exact absurd h (QbA s 1 Yf)
  ·simp only at h;split at h
   ·rw [QmY] at h;exact Qb1 s h
   split at h
   ·have h1:=(Qcl _ _ h).1;have h2:=QbJ num d _ (QeV (QbJ num d) _ h1);exact Qb1 s (Qcl _ _ h2).1
   split at h
   ·exact Qb1 s h
   split at h
   ·simp only [RS.number] at h;split at h
    ·exact Qb1 s h
    ·exact absurd h (QbA _ 1 Yf)
   ·exact absurd h (QbA _ 1 Yf)
theorem Qwa.loop {f:RS→Nd×RS} {g:PS→Nd×PS} (hb:Qwa f g) (hf:QvC f) (hg:QnS g) (hs:QmO f) (hk:QmQ g):∀(n:Nat) (s:RS) (p:PS),s.left≤n→Rel s p→
  Rel (Qa3 f s.left s).2 (QV g p.l.length p).2∧((Qa3 f s.left s).2.err=0→(Qa3 f s.left s).1=(QV g p.l.length p).1):=by
 intro n
 induction n with
 |zero=>
  intro s p hn h;rcases h with h|h
  ·have ht:s.token=[]:=by unfold RS.left at hn;exact List.eq_nil_of_length_eq_zero Ya
   have h1:¬s.token=[44]:=by rw [ht];simp
   rw [Qc4 h1,QgP fun e=>h1 ((h.tok Yd).2 e.2)];exact ⟨.inl h,fun _=>rfl⟩
  ·have h1:¬s.token=[44]:=by rw [h.2.1];simp
   rw [Qc4 h1];exact ⟨.inr ⟨h.1,h.2.1,h.2.2.1,QbS.loop hk _ _ h.2.2.2⟩,fun e=>by have:=h.1;simp only at e;omega⟩
 |succ n ih=>
  intro s p hn h;rcases h with h|h
  ·by_cases ht:s.token=[44]
   ·have hp:=(h.tok Yd).1 ht;rw [Ql8 hf ht,QlK hg ⟨h.2.1,hp⟩];have h1:=Qdd s (by rw [ht];simp);have h2:=hf s.adv;have h3:=h.adv (by rw [ht];simp);have h4:=hb _ _ h3;have h5:=ih (f s.adv).2 (g p.pop).2 Ya h4.1;refine ⟨h5.1,fun e=> ?_⟩;simp only at e⊢;rw [h5.2 e,h4.2 (Qgq hs _ _ e)]
   ·rw [Qc4 ht,QgP fun e=>ht ((h.tok Yd).2 e.2)];exact ⟨.inl h,fun _=>rfl⟩
  ·have h1:¬s.token=[44]:=by rw [h.2.1];simp
   rw [Qc4 h1];exact ⟨.inr ⟨h.1,h.2.1,h.2.2.1,QbS.loop hk _ _ h.2.2.2⟩,fun e=>by have:=h.1;simp only at e;omega⟩
theorem Qwa.terms {f:RS→Nd×RS} {g:PS→Nd×PS} (hb:Qwa f g) (hf:QvC f) (hg:QnS g) (hs:QmO f) (hk:QmQ g) (t:Str) (ht:¬Qje t) (s:RS) (p:PS) (h:Rel s p):
  Rel ((QQ f s).2.take t) (Qaj g t p).2∧((QQ f s).2.err=0→(QQ f s).1=(Qaj g t p).1):=by
 have h1:=hb s p h;have h2:=hb.loop hf hg hs hk _ (f s).2 (g p).2 (Nat.le_refl _) h1.1;refine ⟨h2.1.take ht,fun e=> ?_⟩;have e1:(QQ f s).1=(f s).1::(Qa3 f (f s).2.left (f s).2).1:=rfl;have e2:(Qaj g t p).1=(g p).1::(QV g (g p).2.l.length (g p).2).1:=rfl;rw [e1,e2,h1.2 (QeV hs s e),h2.2 e]
theorem QiS.var {s:RS} {p:PS} (h:QiS s p) (x:Str):(s.var x).1=(p.var x).1∧QiS (s.var x).2 (p.var x).2:=by
 obtain ⟨h1,h2,h3,h4⟩:=h;unfold RS.var PS.var;rw [h3];split
 ·exact ⟨rfl,h1,h2,h3,h4⟩
 ·exact ⟨rfl,h1,h2,by simp,h4⟩
theorem QsR.var {s:RS} {p:PS} (h:QsR s p) (x:Str):QsR (s.var x).2 (p.var x).2:=by
 refine ⟨by rw [QmY];exact h.1,?_,?_,h.2.2.2.var x⟩
 ·unfold RS.var;split<;>exact h.2.1
 ·unfold RS.var;split<;>exact h.2.2.1
theorem Rel.var {s:RS} {p:PS} (h:Rel s p) (x:Str):Rel (s.var x).2 (p.var x).2∧((s.var x).2.err=0→(s.var x).1=(p.var x).1):=by
 rcases h with h|h
 ·exact ⟨.inl (h.var x).2,fun _=>(h.var x).1⟩
 ·exact ⟨.inr (h.var x),fun e=>by rw [QmY] at e;have:=h.1;omega⟩
theorem QfY : ∀ d, Qwa (QA QP d) (QT d)
 |0,s,p,h=>by
  refine ⟨?_,fun e=>absurd e (QbA s 1 Yf)⟩;rcases h with h|h
  ·exact .inr (h.fail (.inl rfl))
  ·exact .inr (h.fail 1 (.inl rfl))
 | d + 1, s, p, h => by
  rcases h with h|h
  ·rcases h.2.2.2 with ⟨h1,h2,h3⟩|⟨h1,h3⟩
   ·have e1:QA QP (d+1) s=(Nd.zero,s.fail 1):=by unfold QA;rw [if_pos h1]
    have e2:QT (d+1) p=(Nd.zero,p.spoil):=by unfold QT;rw [h3]
    rw [e1,e2];exact ⟨.inr (h.fail (.inl rfl)),fun e=>absurd e (QbA s 1 Yf)⟩
   ·obtain ⟨hne,hnum,h33⟩:=h1
    cases ht:s.token with
    |nil=>exact absurd ht hne
    |cons c r=>
     rw [ht] at h3 hnum h33;have hc:QeH (c::r)=c:=rfl;rw [hc] at hnum h33;have hadv:=h.adv (by rw [ht];simp);have e1:=QaU QP d ht
     have e2:QT (d+1) p=if c::r=[33] then (⟨1,0,[33],.nil⟩,p.pop)
       else if upB c then (⟨0,(p.pop.var (c::r)).1,[],.nil⟩,(p.pop.var (c::r)).2)
       else if (c==45)||QbE c then (⟨2,(QcY (c::r)).getD 0,[],.nil⟩,{ p.pop with bad:=p.bad||(QcY (c::r)).isNone })
       else if Qd2 c=false then (Nd.zero,p.spoil)
       else if p.pop.has [40] then (⟨3,0,c::r,QbG (Qaj (QT d) [41] p.pop.pop).1⟩,(Qaj (QT d) [41] p.pop.pop).2)
       else (⟨1,0,c::r,.nil⟩,p.pop):=by
      conv=>lhs;unfold QT
      rw [h3]
     by_cases e33:c=33
     ·have:=h33 e33;subst e33;cases this
      have f1:QA QP (d+1) s=(⟨1,0,[33],.nil⟩,s.adv):=e1;rw [if_pos rfl] at e2;rw [f1,e2];exact ⟨hadv,fun _=>rfl⟩
     rw [if_neg (by intro e;exact e33 (List.cons.inj e).1)] at e2;by_cases hu:upB c=true
     ·rw [if_pos hu] at e1 e2;rw [e1,e2];have hv:=hadv.var (c::r);exact ⟨hv.1,fun e=>by simp only at e⊢;rw [hv.2 e]⟩
     rw [if_neg hu] at e1 e2;by_cases hd:((c==45)||QbE c)=true
     ·rw [if_pos hd] at e2;have hnt:=hnum (by rw [Bool.or_comm];exact hd)
      have hlo:Qd2 c=false:=by
       have hh:∀n:Fin 256,((UInt8.ofNat n.val==45)||QbE (UInt8.ofNat n.val))=true→Qd2 (UInt8.ofNat n.val)=false:=by decide+kernel
       have:=hh ⟨c.toNat,c.toNat_lt⟩;simp only [UInt8.ofNat_toNat] at this;exact this hd
      rw [if_neg (by simp [hlo]),if_neg (by simp [hlo,e33]),if_pos (by rw [Bool.or_comm];exact hd)] at e1;rw [e1,e2];unfold RS.number;rw [Qrj hnt]
      cases hv:QcY (c::r) with
      |some v=>
       simp only [Option.getD_some,Option.isNone_some,Bool.or_false];refine ⟨?_,fun _=>trivial⟩;have:({ p.pop with bad:=p.bad }:PS)=p.pop:=rfl;rw [this];exact hadv
      |none=>
       simp only [Option.getD_none,Option.isNone_none,Bool.or_true];refine ⟨?_,fun e=>absurd e (QbA _ 1 Yf)⟩;rcases hadv with ha|ha
       ·exact .inr (ha.fail (.inl rfl))
       ·exact .inr (ha.fail 1 (.inl rfl))
     rw [if_neg hd] at e2
     have hd2:¬(QbE c||(c==45))=true:=by rw [Bool.or_comm];exact hd
     by_cases hlo:Qd2 c=true
     ·rw [if_neg (by simp [hlo])] at e2;by_cases hp:s.adv.token=[40]
      ·rw [if_pos (by simp [hlo,hp])] at e1;rcases hadv with ha|ha
       ·have hh:=(ha.tok Yd).1 hp;rw [if_pos hh] at e2
        have e3:s.adv.take [40]=s.adv.adv:=by unfold RS.take;rw [if_pos hp]
        rw [e3] at e1;rw [e1,e2];have h4:=ha.adv (by rw [hp];simp);have h5:=(QfY d).terms (Qa9 QP d) (Qcm d) (QbJ QP d) (QbS.term d) [41] (by simp [Qje]) _ _ h4;refine ⟨h5.1,fun e=> ?_⟩;simp only at e⊢;rw [h5.2 (Qcl _ _ e).1]
       ·exact absurd ha.2.1 (by rw [hp];simp)
      ·rw [if_neg (by simp [hp]),if_pos (by simp [hlo])] at e1;rw [e1];rcases hadv with ha|ha
       ·rw [if_neg fun e=>hp ((ha.tok Yd).2 e)] at e2;rw [e2];exact ⟨.inl ha,fun _=>rfl⟩
       ·rw [e2];refine ⟨.inr ⟨ha.1,ha.2.1,ha.2.2.1,?_⟩,fun e=>by have:=ha.1;simp only at e;omega⟩;split
        ·rename_i hh;exact QbS.terms (QbS.term d) [41] (by simp [Qje]) _ (ha.2.2.2.has hh (by simp [Qje]))
        ·exact ha.2.2.2
     ·have hlo':Qd2 c=false:=by simpa using hlo
      rw [if_pos hlo'] at e2;rw [if_neg (by simp [hlo']),if_neg (by simp [hlo',e33]),if_neg hd2] at e1;rw [e1,e2];refine ⟨?_,fun e=>absurd e (QbA _ 1 Yf)⟩;rcases hadv with ha|ha
      ·exact .inr (ha.fail (.inl rfl))
      ·exact .inr (ha.fail 1 (.inl rfl))
  ·have e1:QA QP (d+1) s=(Nd.zero,s.fail 1):=by unfold QA;rw [if_pos h.2.1]
   rw [e1];exact ⟨.inr (h.fail 1 (QbS.term _ _ h.2.2.2)),fun e=>absurd e (QbA s 1 Yf)⟩
theorem Qr8 (p:PS) (t:Str) (h:p.bad=true):(p.close t).bad=true:=by unfold PS.close;rw [if_pos h];exact h
theorem Qpy (d:Nat) (p:PS) (h:(QT d p).2.bad=false):(QT d p).2.l.length<p.l.length:=by
 cases d with
 |zero=>cases h
 |succ d=>
  have hp:∀x r,p.l=x::r→p.pop.l.length<p.l.length:=fun x r e=>by simp [PS.pop,e]
  unfold QT at h⊢;split at h
  ·cases h
  ·cases h
  ·rename_i c r q hl;have h1:=hp _ _ hl;simp only [hl] at h1⊢;split at h
   ·rw [if_pos Ye];exact h1
   rw [if_neg Ye];split at h
   ·rw [if_pos Ye,(Qq3 _ _).1];exact h1
   rw [if_neg Ye];split at h
   ·rw [if_pos Ye];exact h1
   rw [if_neg Ye];split at h
   ·cases h
   rw [if_neg Ye];split at h
   ·rw [if_pos Ye];have h2:=Qe3 (Qcm d) [41] p.pop.pop;have h3:=QjJ p.pop;simp only;omega
   ·rw [if_neg Ye];exact h1
theorem Qvr (p:PS):(QaV p).2.l.length≤p.l.length:=by
 unfold QaV;split
 ·have h1:=Qe3 (Qcm 24) [46] p.pop;have h2:=QjJ p;unfold Qa0;omega
 ·exact QkX p _
theorem Qt4 (p:PS) (h:p.bad=true):(QaV p).2.bad=true:=by
 unfold QaV;rw [if_neg (by simp [h])];exact Qr8 p _ h
def Qr (p:PS):Cl×PS:=
 let h:=QT 24 { p with vars:=[] }
 let q:=QaV h.2
 (⟨h.1.k,h.1.n,⟨h.1.s.toArray⟩,h.1.ar,QbG q.1,(q.2.vars.length:Nat)⟩,q.2)
theorem QdX (p:PS) (h:(Qr p).2.bad=false):(Qr p).2.l.length<p.l.length:=by
 have h1:=Qvr (QT 24 { p with vars:=[] }).2
 have h2:(QT 24 { p with vars:=[] }).2.bad=false:=by
  cases hb:(QT 24 { p with vars:=[] }).2.bad with
  |false=>rfl
  |true=>
   have:=Qt4 _ hb;rw [show (QaV (QT 24 { p with vars:=[] }).2).2.bad=(Qr p).2.bad from rfl,h] at this;cases this
 have h3:=Qpy 24 _ h2;show (QaV (QT 24 { p with vars:=[] }).2).2.l.length<_;have e:({ p with vars:=[] }:PS).l=p.l:=rfl;rw [e] at h3;omega
def Qat:Nat→PS→Option (List Cl)
 |0,p=>some []
 | n + 1, p => if p.l = [] then some [] else
     if (Qr p).2.bad=true∨cB (Qr p).1=false then none
     else (Qat n (Qr p).2).map ((Qr p).1::·)
theorem QlJ:∀(n:Nat) (p:PS),p.l.length≤n→Qat n p=Qat p.l.length p:=by
 intro n
 induction n using Nat.strongRecOn with
 | _ n ih =>
  intro p hn
  cases n with
  |zero=>rw [Nat.le_zero.1 hn]
  |succ n=>
   cases hl:p.l with
   |nil=>simp [Qat,hl]
   |cons x r=>
    have hne:p.l≠[]:=by rw [hl];simp
    rw [hl] at hn;simp only [List.length_cons] at hn⊢;simp only [Qat,hne,if_false];split
    ·rfl
    ·rename_i hb;have h1:=QdX p (by simp only [not_or] at hb;simpa using hb.1);rw [hl] at h1;simp only [List.length_cons] at h1;by_cases e:n=r.length
     ·rw [e]
     ·rw [ih n Ya _ Ya,ih r.length Ya _ Ya]
theorem QdV {p:PS} (hne:p.l≠[]) (hb:¬((Qr p).2.bad=true∨cB (Qr p).1=false)):Qat p.l.length p=(Qat (Qr p).2.l.length (Qr p).2).map ((Qr p).1::·):=by
 have h1:=QdX p (by simp only [not_or] at hb;simpa using hb.1)
 cases hl:p.l with
 |nil=>exact absurd hl hne
 |cons x r=>
  rw [hl] at h1;simp only [List.length_cons] at h1⊢;simp only [Qat,hne,if_false,if_neg hb];rw [QlJ r.length _ Ya]
theorem QdW {p:PS} (hne:p.l≠[]) (hb:(Qr p).2.bad=true∨cB (Qr p).1=false):Qat p.l.length p=none:=by
 cases hl:p.l with
 |nil=>exact absurd hl hne
 |cons x r=>simp only [List.length_cons,Qat,hne,if_false,if_pos hb]
theorem Qh9 {p:PS} (h:p.l=[]):Qat p.l.length p=some []:=by rw [h];rfl
theorem QbS.body {p:PS} (h:QbS p):QbS (QaV p).2:=by
 unfold QaV;split
 ·rename_i hh;exact QbS.terms (QbS.term 24) [46] (by simp [Qje]) _ (h.has hh.2 (by simp [Qje]))
 ·exact h.close (by simp [Qje])
theorem QbS.clause {p:PS} (h:QbS p):QbS (Qr p).2:=QbS.body (QbS.term 24 _ (show QbS { p with vars:=[] } from h))
theorem QbS.prog:∀(n:Nat) (p:PS),p.l.length≤n→p.bad=false→QbS p→Qat p.l.length p=none:=by
 intro n
 induction n with
 |zero=>
  intro p hn hb h;rcases h with h|⟨x,hx,_⟩
  ·rw [hb] at h;cases h
  ·have:=List.length_pos_of_mem hx;omega
 |succ n ih=>
  intro p hn hb h
  have hne:p.l≠[]:=by
   rcases h with h|⟨x,hx,_⟩
   ·rw [hb] at h;cases h
   ·intro e;rw [e] at hx;simp at hx
  by_cases hc:(Qr p).2.bad=true∨cB (Qr p).1=false
  ·exact QdW hne hc
  ·have h0:(Qr p).2.bad=false:=by simp only [not_or] at hc;simpa using hc.1
   have h1:=QdX p h0;rw [QdV hne hc,ih _ Ya h0 h.clause];rfl
theorem Rel.body {s:RS} {p:PS} (h:Rel s p):Rel ((Qa5 QP s).2.take [46]) (QaV p).2∧(((Qa5 QP s).2.take [46]).err=0→(Qa5 QP s).1=(QaV p).1):=by
 rcases h with h|h
 ·by_cases ht:s.token=[58,45]
  ·have hp:=(h.tok Yd).1 ht
   have e1:Qa5 QP s=QQ (QA QP 24) s.adv:=by unfold Qa5;rw [if_pos ht]
   have e2:QaV p=Qaj (QT 24) [46] p.pop:=by unfold QaV Qa0;rw [if_pos ⟨h.2.1,hp⟩]
   rw [e1,e2];have h5:=(QfY 24).terms (Qa9 QP 24) (Qcm 24) (QbJ QP 24) (QbS.term 24) [46] (by simp [Qje]) _ _ (h.adv (by rw [ht];simp));exact ⟨h5.1,fun e=>h5.2 (Qcl _ _ e).1⟩
  ·have e1:Qa5 QP s=([],s):=by unfold Qa5;rw [if_neg ht]
   have e2:QaV p=([],p.close [46]):=by unfold QaV;rw [if_neg fun e=>ht ((h.tok Yd).2 e.2)]
   rw [e1,e2];exact ⟨Rel.take (.inl h) (by simp [Qje]),fun _=>rfl⟩
 ·have e1:Qa5 QP s=([],s):=by unfold Qa5;rw [if_neg (by rw [h.2.1];simp)]
  rw [e1];have h2:=h.2.2.2.body
  have h3:s.take [46]=(s.fail 1).adv:=by unfold RS.take;rw [if_neg (by rw [h.2.1];simp)]
  rw [h3];have h4:=(h.fail 1 h2).adv h2;exact ⟨.inr h4,fun e=>by have:=h4.1;omega⟩
theorem QfB {s:RS} (h:s.token=[]):QG QP s.left s=([],s):=QlP QP h
theorem Rel.fresh {s:RS} {p:PS} (h:Rel s p):Rel { s with vars:=[] } { p with vars:=[] }:=by
 rcases h with h|h
 ·exact .inl ⟨h.1,h.2.1,rfl,h.2.2.2⟩
 ·exact .inr ⟨h.1,h.2.1,h.2.2.1,h.2.2.2⟩
theorem Rel.clause {s:RS} {p:PS} (h:Rel s p):∃s3,(QW QP s).2=(if cB (QW QP s).1 then s3 else s3.fail 1)∧Rel s3 (Qr p).2∧(s3.err=0→(QW QP s).1=(Qr p).1):=by
 have h1:=QfY 24 _ _ h.fresh;have h2:=h1.1.body;refine ⟨(Qa5 QP (QA QP 24 { s with vars:=[] }).2).2.take [46],rfl,h2.1,fun e=> ?_⟩;have hl:=h2.1.live e;have e1:=(Qcl _ _ e).1
 have e2:(QA QP 24 { s with vars:=[] }).2.err=0:=by
  unfold Qa5 at e1;split at e1
  ·exact Qb1 _ (QbJ QP 24 _ (QeV (QbJ QP 24) _ e1))
  ·exact e1
 simp only [QW,Qr];rw [h1.2 e2,h2.2 e,hl.2.2.1]
theorem Qto:∀(n:Nat) (s:RS) (p:PS),s.left≤n→p.bad=false→Rel s p→
  match Qat p.l.length p with
  |some L=>(QG QP s.left s).1=L∧(QG QP s.left s).2.err=0
  |none=>(QG QP s.left s).2.err=1:=by
 intro n
 induction n with
 |zero=>
  intro s p hn hb h
  have ht:s.token=[]:=by unfold RS.left at hn;exact List.eq_nil_of_length_eq_zero Ya
  rw [QfB ht];rcases h with h|h
  ·rcases h.2.2.2 with ⟨_,_,h3⟩|⟨h1,_⟩
   ·rw [Qh9 h3];exact ⟨rfl,h.1⟩
   ·exact absurd ht h1.1
  ·rw [QbS.prog _ p (Nat.le_refl _) hb h.2.2.2];exact h.1
 |succ n ih=>
  intro s p hn hb h;by_cases ht:s.token=[]
  ·rw [QfB ht];rcases h with h|h
   ·rcases h.2.2.2 with ⟨_,_,h3⟩|⟨h1,_⟩
    ·rw [Qh9 h3];exact ⟨rfl,h.1⟩
    ·exact absurd ht h1.1
   ·rw [QbS.prog _ p (Nat.le_refl _) hb h.2.2.2];exact h.1
  ·rw [QlQ QP ht];have hlt:=Qea QP s ht
   have hne:p.l≠[]:=by
    rcases h with h|h
    ·rcases h.2.2.2 with ⟨h1,_,_⟩|⟨_,h3⟩
     ·exact absurd h1 ht
     ·rw [h3];simp
    ·exact absurd h.2.1 ht
   obtain ⟨s3,e3,hr,heq⟩:=h.clause
   have hdead:∀s',s'.token=[]→s'.err=1→(QG QP s'.left s').2.err=1:=fun s' h1 h2=>by rw [QfB h1];exact h2
   rcases hr with hl|hd
   ·rw [heq hl.1] at e3;by_cases hc:cB (Qr p).1=true
    ·rw [if_pos hc] at e3;have hb2:¬((Qr p).2.bad=true∨cB (Qr p).1=false):=by simp [hl.2.1,hc]
     rw [QdV hne hb2,e3];have h5:=ih s3 (Qr p).2 (by rw [e3] at hlt;omega) hl.2.1 (.inl hl)
     cases hp:Qat (Qr p).2.l.length (Qr p).2 with
     |none=>rw [hp] at h5;exact h5
     |some L=>
      rw [hp] at h5;simp only [Option.map_some];exact ⟨by rw [heq hl.1,h5.1],h5.2⟩
    ·have hc':cB (Qr p).1=false:=by simpa using hc
     rw [if_neg hc] at e3;rw [QdW hne (.inr hc'),e3];exact hdead _ rfl (by simp [RS.fail,hl.1])
   ·have h6:(QW QP s).2.token=[]∧(QW QP s).2.err=1:=by
     rw [e3];split
     ·exact ⟨hd.2.1,hd.1⟩
     ·exact ⟨rfl,by simp [RS.fail,hd.1]⟩
    have h7:=hdead _ h6.1 h6.2
    have h8:Qat p.l.length p=none:=by
     by_cases hc:(Qr p).2.bad=true∨cB (Qr p).1=false
     ·exact QdW hne hc
     ·have h0:(Qr p).2.bad=false:=by simp only [not_or] at hc;simpa using hc.1
      rw [QdV hne hc,QbS.prog _ _ (Nat.le_refl _) h0 hd.2.2.2];rfl
    rw [h8];exact h7
def PS.start (l:Str):PS:=⟨QcG l,[],false⟩
theorem QlA (l:Str) (h:¬2000<l.length):Rel (RS.start l) (PS.start l):=by
 unfold RS.start;rw [if_neg h];exact QsJ rfl rfl rfl rfl
theorem Qjt (l:Str) (h:2000<l.length):(RS.start l).token=[]∧(RS.start l).err=3:=by
 unfold RS.start;rw [if_pos h];exact ⟨rfl,rfl⟩
def Qe5 (l:Str):List Cl×Int:=
 if 2000<l.length then ([],3) else
 match Qat (PS.start l).l.length (PS.start l) with
 |none=>([],1)
 |some L=>if 24<L.length then ([],3) else (L,0)
theorem Qng (l:Str):Qy QP l=Qe5 l:=by
 unfold Qy Qe5;by_cases h:2000<l.length
 ·obtain ⟨h1,h2⟩:=Qjt l h;rw [if_pos h];have e:(if 24<([]:List Cl).length then (RS.start l).fail 3 else RS.start l)=RS.start l:=if_neg Yf;simp only [QfB h1,e];rw [if_neg (by rw [h2];decide),h2]
 ·rw [if_neg h];have h1:=Qto _ (RS.start l) (PS.start l) (Nat.le_refl _) rfl (QlA l h);generalize QG QP (RS.start l).left (RS.start l)=q at h1⊢
  cases hp:Qat (PS.start l).l.length (PS.start l) with
  |none=>
   rw [hp] at h1;simp only at h1⊢
   have e:(if 24<q.1.length then q.2.fail 3 else q.2).err=1:=by
    split
    ·simp [RS.fail,h1]
    ·exact h1
   rw [if_neg (by rw [e];decide),e]
  |some L=>
   rw [hp] at h1;simp only at h1⊢;rw [h1.1];by_cases h24:24<L.length
   ·rw [if_pos h24,if_pos h24];have e:(q.2.fail 3).err=3:=by simp [RS.fail,h1.2]
    rw [if_neg (by rw [e];decide),e]
   ·rw [if_neg h24,if_neg h24,if_pos h1.2]
def Qfy (l:Str):Ts×Nat×Int:=
 if 2000<l.length then (.nil,0,3) else
 let g:=Qa0 (PS.start l)
 if g.2.bad=true∨g.2.l≠[]∨qB (g.2.vars.length:Nat) (QbG g.1)=false then (.nil,0,1) else (QbG g.1,g.2.vars.length,0)
theorem QlN (l:Str):QI QP l=Qfy l:=by
 unfold QI Qfy;by_cases h:2000<l.length
 ·obtain ⟨h1,h2⟩:=Qjt l h;rw [if_pos h]
  have e1:(QQ (QA QP 24) (RS.start l)).2.err=3:=by
   have e0:(QA QP 24 (RS.start l)).2=(RS.start l).fail 1:=by unfold QA;rw [if_pos h1]
   unfold QQ;simp only [e0];rw [Qc4 (by simp [RS.fail])];simp [RS.fail,h2]
  have e2:∀s:RS,s.err=3→(s.take [46]).err=3:=by
   intro s hs;unfold RS.take RS.adv;simp only;split<;>split<;>simp [RS.fail,hs]
  have e3:=e2 _ e1;simp only;generalize (QQ (QA QP 24) (RS.start l)).2.take [46]=s at e3
  have e4:∀b:Prop,∀_:Decidable b,(if b then s else s.fail 1).err=3:=by
   intro b _;split
   ·exact e3
   ·simp [RS.fail,e3]
  rw [if_neg (by rw [e4];decide),e4]
 ·rw [if_neg h];have h5:=(QfY 24).terms (Qa9 QP 24) (Qcm 24) (QbJ QP 24) (QbS.term 24) [46] (by simp [Qje]) _ _ (QlA l h);have h6:Rel ((QQ (QA QP 24) (RS.start l)).2.take [46]) (Qa0 (PS.start l)).2:=h5.1;have h7:((QQ (QA QP 24) (RS.start l)).2.take [46]).err=0→(QQ (QA QP 24) (RS.start l)).1=(Qa0 (PS.start l)).1:=fun e=>h5.2 (Qcl _ _ e).1;clear h5;simp only;generalize Qa0 (PS.start l)=g at*;generalize QQ (QA QP 24) (RS.start l)=a at*;generalize a.2.take [46]=s at*;rcases h6 with hl|hd
  ·rw [h7 hl.1,hl.2.2.1]
   have htk:s.token=[]↔g.2.l=[]:=by
    rcases hl.2.2.2 with ⟨h1,_,h3⟩|⟨h1,h3⟩
    ·simp [h1,h3]
    ·rw [h3];simp [h1.1]
   by_cases hq:s.token=[]∧qB (g.2.vars.length:Nat) (QbG g.1)=true
   ·rw [if_pos hq,if_pos hl.1,if_neg (by simp [hl.2.1,htk.1 hq.1,hq.2]),hl.2.2.1]
   ·have e:(s.fail 1).err=1:=by simp [RS.fail,hl.1]
    rw [if_neg hq,if_neg (by rw [e];decide),e,if_pos];by_cases ht:s.token=[]
    ·right;right;have:¬qB (g.2.vars.length:Nat) (QbG g.1)=true:=fun h=>hq ⟨ht,h⟩;simpa using this
    ·right;left;exact fun e=>ht (htk.2 e)
  ·have e4:∀b:Prop,∀_:Decidable b,(if b then s else s.fail 1).err=1:=by
    intro b _;split
    ·exact hd.1
    ·simp [RS.fail,hd.1]
   rw [if_neg (by rw [e4];decide),e4,if_pos];rcases hd.2.2.2 with h|⟨x,hx,_⟩
   ·exact .inl h
   ·right;left;intro e;rw [e] at hx;simp at hx
def Qb2 (w:World) (mb:Nat) (ents:List (Int×Value)):Prop:=
 ∃es clock,w.heap[mb]?=some (.map es clock)∧es.toList.map (fun e=>(e.key,e.val))=ents.map (fun x=>(Value.int .i64 x.1,x.2))
def Qf2 (n:Int):List (Int×Value)→Option Value
 |[]=>none
 |x::r=>if n=x.1 then some x.2 else Qf2 n r
def QvG (n:Int) (v:Value):List (Int×Value)→List (Int×Value)
 |[]=>[(n,v)]
 |x::r=>if n=x.1 then (n,v)::r else x::QvG n v r
def QmM (n:Int):List (Int×Value)→Nat→Option (Nat×Value)
 |[],_=>none
 |x::r,i=>if n=x.1 then some (i,x.2) else QmM n r (i+1)
theorem Qcy (n:Int):MapKept.IsKey (.int .i64) (.int .i64 n):=by simp [MapKept.IsKey]
theorem Qb0 (n:Int):∀(es:List MapEntry) (ents:List (Int×Value)) (i:Nat),es.map (fun e=>(e.key,e.val))=ents.map (fun x=>(Value.int .i64 x.1,x.2))→
  Instr.findNow (.int .i64) (.int .i64 n) es i=some (QmM n ents i)
 |[],[],i,_=>rfl
 |[],_::_,_,h=>by simp at h
 |_::_,[],_,h=>by simp at h
 |e::es,x::ents,i,h=>by
  simp only [List.map_cons,List.cons.injEq,Prod.mk.injEq] at h;obtain ⟨⟨h1,h2⟩,h3⟩:=h;have ih:=Qb0 n es ents (i+1) h3;simp only [Instr.findNow,h1,Instr.sameNow,QmM,if_true];by_cases e1:n=x.1
  ·simp [e1,h2]
  ·have e2:(n==x.1)=false:=by simpa using e1
   rw [e2,if_neg e1,←ih]
theorem Qf1 {n:Int}:∀{ents:List (Int×Value)} {i:Nat},QmM n ents i=none↔Qf2 n ents=none
 |[],_=>by simp [QmM,Qf2]
 |x::r,i=>by
  simp only [QmM,Qf2];by_cases e:n=x.1
  ·simp [e]
  ·simp only [e,if_false];exact Qf1
theorem QmL {n:Int}:∀{ents:List (Int×Value)} {i j:Nat} {v:Value},QmM n ents i=some (j,v)→Qf2 n ents=some v
 |[],_,_,_,h=>by simp [QmM] at h
 |x::r,i,j,v,h=>by
  simp only [QmM,Qf2] at*;by_cases e:n=x.1
  ·simp only [e,if_true,Option.some.injEq,Prod.mk.injEq] at h⊢;exact h.2
  ·simp only [e,if_false] at h⊢;exact QmL h
theorem QiO {n:Int} {v:Value}:∀{ents:List (Int×Value)},Qf2 n ents=none→QvG n v ents=ents++[(n,v)]
 |[],_=>rfl
 |x::r,h=>by
  simp only [Qf2] at h;by_cases e:n=x.1
  ·simp [e] at h
  ·simp only [e,if_false] at h;simp only [QvG,e,if_false,QiO h,List.cons_append]
theorem QmH {n:Int} {v u:Value}:∀{ents:List (Int×Value)} {i j:Nat},QmM n ents i=some (j,u)→i≤j∧(ents[j-i]?).map (·.1)=some n∧QvG n v ents=ents.set (j-i) (n,v)
 |[],_,_,h=>by simp [QmM] at h
 |x::r,i,j,h=>by
  simp only [QmM,QvG] at*;by_cases e:n=x.1
  ·simp only [e,if_true,Option.some.injEq,Prod.mk.injEq] at h;obtain ⟨rfl,_⟩:=h;simp [e]
  ·simp only [e,if_false] at h⊢;obtain ⟨h1,h2,h3⟩:=QmH (v:=v) h;have e1:j-i=(j-(i+1))+1:=by omega
   refine ⟨by omega,by rw [e1];simpa using h2,by rw [h3,e1];rfl⟩
section
variable {P:Program} {w:World} {mb:Nat} {ents:List (Int×Value)} {t kt et:TypeId}
theorem Qb2.lt (h:Qb2 w mb ents):mb<w.heap.size:=by
 obtain ⟨es,clock,hb,_⟩:=h;exact (Array.getElem?_eq_some_iff.1 hb).1
theorem Qb2.keep {w':World} (h:Qb2 w mb ents) (hk:w'.heap[mb]?=w.heap[mb]?):Qb2 w' mb ents:=by
 obtain ⟨es,clock,hb,he⟩:=h;exact ⟨es,clock,hk.trans hb,he⟩
theorem Qb2.made (w:World):Qb2 (w.alloc (.map #[] 0)) w.heap.size []:=⟨#[],0,heap_alloc_new w _,rfl⟩
theorem QhY {P:Program} (t:TypeId) (w:World):(Instr.makeMap t none).run P w= .ok (.map (some w.heap.size)) (w.alloc (.map #[] 0)):=by
 simp [Instr.makeMap,newObj,Sem.run]
theorem Qb2.lookup (h:Qb2 w mb ents) {z:Value} (ht:P.underlying t=some (.map kt et)) (hk:P.underlying kt=some (.int .i64))
  (hz:(zeroValue et).run P w= .ok z w) (n:Int) (c:Bool):
  (Instr.lookup t (.map (some mb)) (.int .i64 n) c).run P w= .ok (if c then .tuple #[(Qf2 n ents).getD z,.bool (Qf2 n ents).isSome] else (Qf2 n ents).getD z) w:=by
 obtain ⟨es,clock,hb,he⟩:=h;have hf:=Qb0 n es.toList ents 0 he
 cases ha:QmM n ents 0 with
 |none=>
  rw [ha] at hf;simp [Instr.lookup,run_underlying ht,MapKept.run_getObj_map hb,MapKept.run_checkKey hk (Qcy n),MapKept.run_findKey hk hf,hz,Result.andThen,Qf1.1 ha]
 |some x=>
  rw [ha] at hf;simp [Instr.lookup,run_underlying ht,MapKept.run_getObj_map hb,MapKept.run_checkKey hk (Qcy n),MapKept.run_findKey hk hf,Result.andThen,QmL ha]
theorem Qb2.update (h:Qb2 w mb ents) (ht:P.underlying t=some (.map kt et)) (hk:P.underlying kt=some (.int .i64)) (n:Int) (v:Value):
  ∃w',(Instr.mapUpdate t (.map (some mb)) (.int .i64 n) v).run P w= .ok () w'∧Qb2 w' mb (QvG n v ents)∧Chg (fun k=>k=mb) w w'∧w'.heap.size=w.heap.size:=by
 have hlt:=h.lt;obtain ⟨es,clock,hb,he⟩:=h;have hf:=Qb0 n es.toList ents 0 he
 cases ha:QmM n ents 0 with
 |none=>
  rw [ha] at hf;refine ⟨{ w with heap:=w.heap.setIfInBounds mb (.map (es.push { key:= .int .i64 n,val:=v,born:=clock }) (clock+1)) },?_,⟨_,_,(MapKept.heap_set hb).1,?_⟩,⟨rfl,rfl,rfl,by simp,fun k _ hn=>(MapKept.heap_set hb).2 k hn⟩,by simp⟩
  ·simp [Instr.mapUpdate,run_underlying ht,MapKept.run_getObj_map hb,MapKept.run_checkKey hk (Qcy n),MapKept.run_findKey hk hf,MapKept.run_setObj_map _ hb,Result.andThen]
  ·rw [QiO (Qf1.1 ha),Array.toList_push,List.map_append,List.map_append,he];rfl
 |some x=>
  obtain ⟨j,u⟩:=x;rw [ha] at hf;obtain ⟨_,h2,h3⟩:=QmH (v:=v) ha;simp only [Nat.sub_zero] at h2 h3
  have hent:∃e,es[j]?=some e∧e.key= .int .i64 n:=by
   have h4:=congrArg (fun l=>l[j]?) he;simp only [List.getElem?_map] at h4
   cases h5:ents[j]? with
   |none=>rw [h5] at h2;simp at h2
   |some y=>
    rw [h5] at h2 h4;simp only [Option.map_some,Option.some.injEq] at h2
    cases h6:es[j]? with
    |none=>simp [h6] at h4
    |some e=>
     simp [h6] at h4;exact ⟨e,rfl,by rw [h4.1,h2]⟩
  obtain ⟨e,hj,hkey⟩:=hent;refine ⟨{ w with heap:=w.heap.setIfInBounds mb (.map (es.modify j fun e=>{ e with key:= .int .i64 n,val:=v }) clock) },?_,⟨_,_,(MapKept.heap_set hb).1,?_⟩,⟨rfl,rfl,rfl,by simp,fun k _ hn=>(MapKept.heap_set hb).2 k hn⟩,by simp⟩
  ·simp [Instr.mapUpdate,run_underlying ht,MapKept.run_getObj_map hb,MapKept.run_checkKey hk (Qcy n),MapKept.run_findKey hk hf,hj,hkey,MapKept.run_keyThatStays (Qcy n),MapKept.run_setObj_map _ hb,Result.andThen]
  ·rw [h3];apply List.ext_getElem?;intro i;have h4:=congrArg (fun l=>l[i]?) he;simp only [List.getElem?_map,Array.getElem?_toList] at h4;simp only [List.getElem?_map,Array.getElem?_toList,Array.getElem?_modify,List.getElem?_set];by_cases hij:j=i
   ·subst hij
    have hjl:j<ents.length:=by
     rcases Nat.lt_or_ge j ents.length with hl|hl
     ·exact hl
     ·rw [List.getElem?_eq_none hl] at h2;simp at h2
    simp [hj,hjl]
   ·simp [hij,h4]
theorem Qb2.size (h:Qb2 w mb ents):∃es clock,w.heap[mb]?=some (.map es clock)∧es.size=ents.length:=by
 obtain ⟨es,clock,hb,he⟩:=h;refine ⟨es,clock,hb,?_⟩;have:=congrArg List.length he;simpa using this
theorem Qb2.len (h:Qb2 w mb ents) (ht:P.underlying t=some (.map kt et)) (ty:TypeId):(Builtin.len_ #[t] ty #[.map (some mb)]).run P w= .ok (.int .i64 ents.length) w:=by
 obtain ⟨es,clock,hb,hs⟩:=h.size;simp [Builtin.len_,run_underlying ht,MapKept.run_getObj_map hb,Result.andThen,hs,goInt]
end
def Qqj (es:Array MapEntry) (ents:List (Int×Value)):Prop:=es.toList.map (fun e=>(e.key,e.val))=ents.map (fun x=>(Value.int .i64 x.1,x.2))
def Qo9 (P:Program) (t:TypeId):Option Value:=match P.underlying t with
 |some (.map kt et)=>match P.underlying kt with
  |some (.int .i64)=>Qhu P et
  |_=>none
 |_=>none
theorem Qef {P:Program} {t:TypeId} {z:Value} (h:Qo9 P t=some z):∃kt et,P.underlying t=some (.map kt et)∧P.underlying kt=some (.int .i64)∧Qhu P et=some z:=by
 unfold Qo9 at h;split at h
 ·rename_i kt et hu;split at h
  ·rename_i hk;exact ⟨kt,et,hu,hk,h⟩
  ·cases h
 ·cases h
section
variable {P:Program} {n:Nat} {e:Env} {w:World} {Q:Exit→Act→World→Prop} {ops:Array Oper} {rest:List Oper} {ty:TypeId} {pos:String} {after:Array Edge} {d:Nat}
variable {M:List Nat} {w0:World} {H H':List (Nat×Obj)} {F:List (World→Prop)} {mb:Nat} {es:Array MapEntry} {clk:Nat} {ents:List (Int×Value)} {x y u:Operand} {v z:Value} {dst:Option Nat} {t kt:TypeId} {i:Int}
theorem QlF (hS:St M w0 H F w) (hx:ev n e x= .map (some mb)) (hy:ev n e y= .int .i64 i) (hT:Qo9 P t=some z) (hat:At H mb (.map es clk)) (hm:Qqj es ents) (hg:Qf2 i ents=some v):
  (execOp (ev n e) ⟨dst,.lookup t x y true,ty,pos,after,none⟩).run P w= .ok (.value (.tuple #[v,.bool true])) w:=by
 obtain ⟨kt,et,h1,h2,h3⟩:=Qef hT;have hl:=Qb2.lookup (P:=P) (w:=w) (mb:=mb) (ents:=ents) ⟨es,clk,hS.at_ hat,hm⟩ h1 h2 (QdP h3) i true;simp only [execOp,hx,hy];simp only [bind,pure];rw [Sem.run_bind',hl,hg];rfl
theorem QlG (hS:St M w0 H F w) (hx:ev n e x= .map (some mb)) (hy:ev n e y= .int .i64 i) (hT:Qo9 P t=some z) (hat:At H mb (.map es clk)) (hm:Qqj es ents) (hg:Qf2 i ents=none):
  (execOp (ev n e) ⟨dst,.lookup t x y true,ty,pos,after,none⟩).run P w= .ok (.value (.tuple #[z,.bool false])) w:=by
 obtain ⟨kt,et,h1,h2,h3⟩:=Qef hT;have hl:=Qb2.lookup (P:=P) (w:=w) (mb:=mb) (ents:=ents) ⟨es,clk,hS.at_ hat,hm⟩ h1 h2 (QdP h3) i true;simp only [execOp,hx,hy];simp only [bind,pure];rw [Sem.run_bind',hl,hg];rfl
theorem Qnm (hS:St M w0 H F w) (hd:Nat.blt d n=true) (h:∀b w',St M w0 ((b,.map #[] 0)::H) F w'→Lst P Q ops rest n ((d,.map (some b))::e) w'):
  Lst P Q ops (⟨some d,.makeMap t none,ty,pos,after,none⟩::rest) n e w:=by
 refine Qa (v:= .map (some w.heap.size)) (w':=w.alloc (.map #[] 0)) ?_ hd (h _ _ (hS.alloc _));have:=QhY (P:=P) t w;simp only [execOp,Option.map_none,bind,pure];rw [Sem.run_bind',this];rfl
theorem QpI (hS:St M w0 H F w) (hx:ev n e x= .map (some mb)) (hy:ev n e y= .int .i64 i) (hu:ev n e u=v) (hT:Qo9 P t=some z) (hm:Qqj es ents) (hg:Qf2 i ents=none)
  (hU:Upd H mb (.map es clk) (.map (es.push { key:= .int .i64 i,val:=v,born:=clk }) (clk+1)) H')
  (h:∀w',Qqj (es.push { key:= .int .i64 i,val:=v,born:=clk }) (ents++[(i,v)])→St M w0 H' F w'→Lst P Q ops rest n e w'):
  Lst P Q ops (⟨none,.mapUpdate t x y u,ty,pos,after,none⟩::rest) n e w:=by
 obtain ⟨kt,et,h1,h2,h3⟩:=Qef hT;have hb:=hS.at_ hU.at_;have hf:=Qb0 i es.toList ents 0 hm;rw [Qf1.2 hg] at hf;refine Qik (w':={ w with heap:=w.heap.setIfInBounds mb (.map (es.push { key:= .int .i64 i,val:=v,born:=clk }) (clk+1)) }) ?_ (h _ ?_ (hS.turn hU ⟨rfl,rfl,rfl,by simp,fun k _ hk=>(MapKept.heap_set hb).2 k (by simpa using hk)⟩ (MapKept.heap_set hb).1))
 ·have:(Instr.mapUpdate t (.map (some mb)) (.int .i64 i) v).run P w= .ok () { w with heap:=w.heap.setIfInBounds mb (.map (es.push { key:= .int .i64 i,val:=v,born:=clk }) (clk+1)) }:=by
   simp [Instr.mapUpdate,run_underlying h1,MapKept.run_getObj_map hb,MapKept.run_checkKey h2 (Qcy i),MapKept.run_findKey h2 hf,MapKept.run_setObj_map _ hb,Result.andThen]
  simp only [execOp,hx,hy,hu,bind,pure];rw [Sem.run_bind',this];rfl
 ·unfold Qqj at hm⊢;rw [Array.toList_push,List.map_append,List.map_append,hm];rfl
theorem Qij {α β:Type} (f:α→β):∀(l:List α) (i:Nat),(l.eraseIdx i).map f=(l.map f).eraseIdx i
 |[],_=>rfl
 |_::_,0=>rfl
 |a::l,i+1=>by simp [Qij f l i]
theorem Qua {A C:List (Int×Value)} (hA:Qf2 i A=none):∀j,QmM i (A++(i,v)::C) j=some (j+A.length,v):=by
 induction A with
 |nil=>intro j;simp [QmM]
 |cons a A ih=>
  intro j;simp only [Qf2] at hA;by_cases e1:i=a.1
  ·simp [e1] at hA
  ·rw [if_neg e1] at hA;simp only [List.cons_append,QmM,if_neg e1];rw [ih hA (j+1)];simp;omega
theorem QpJ {A C:List (Int×Value)} {ts:Array TypeId} (hS:St M w0 H F w) (hx:ev n e x= .map (some mb)) (hy:ev n e y= .int .i64 i) (hts:ts[0]?=some t) (hT:Qo9 P t=some z) (hm:Qqj es (A++(i,v)::C)) (hA:Qf2 i A=none)
  (hU:Upd H mb (.map es clk) (.map (es.eraseIdxIfInBounds A.length) clk) H')
  (h:∀w',Qqj (es.eraseIdxIfInBounds A.length) (A++C)→St M w0 H' F w'→Lst P Q ops rest n e w'):
  Lst P Q ops (⟨none,.call ⟨.builtin .delete, #[x,y],ts⟩,ty,pos,after,none⟩::rest) n e w:=by
 obtain ⟨kt,et,h1,h2,h3⟩:=Qef hT;have hb:=hS.at_ hU.at_;have hf:=Qb0 i es.toList _ 0 hm;rw [Qua hA 0,Nat.zero_add] at hf;refine Qtz (v:= .tuple #[]) (w':={ w with heap:=w.heap.setIfInBounds mb (.map (es.eraseIdxIfInBounds A.length) clk) }) ?_ (h _ ?_ (hS.turn hU ⟨rfl,rfl,rfl,by simp,fun k _ hk=>(MapKept.heap_set hb).2 k (by simpa using hk)⟩ (MapKept.heap_set hb).1))
 ·have:(Builtin.delete_ ts ty #[.map (some mb),.int .i64 i]).run P w= .ok (.tuple #[]) { w with heap:=w.heap.setIfInBounds mb (.map (es.eraseIdxIfInBounds A.length) clk) }:=by
   simp [Builtin.delete_,hts,run_underlying h1,MapKept.run_getObj_map hb,MapKept.run_checkKey h2 (Qcy i),MapKept.run_findKey h2 hf,MapKept.run_setObj_map _ hb,Result.andThen]
  simp only [execOp,resolve,List.map_toArray,List.map_cons,List.map_nil,hx,hy,bind,pure,Sem.bind,invoke,builtin];rw [Sem.run_bind',this];rfl
 ·unfold Qqj at hm⊢
  have e1:(es.eraseIdxIfInBounds A.length).toList=es.toList.eraseIdx A.length:=by
   unfold Array.eraseIdxIfInBounds;split
   ·simp
   ·rename_i hl;rw [List.eraseIdx_of_length_le];simpa using hl
  rw [e1,Qij,hm,←Qij,List.eraseIdx_append_of_length_le (Nat.le_refl _)];simp
end
def pB (L:List Cl):Bool:=decide (L.length≤24)&&L.all cB
def QuO (w:World) (L:List Cl) (g:Nat) (sx:Value) (wr:World):Prop:=∃D R:List Cl,L=D++R∧g=R.length∧sx= .int .i64 D.length∧D.all cB=true∧Below w.heap.size w wr
section
variable {w w':World} {p q:Nat→Prop}
end
end Go.Proofs.YthliapbflkfdiacGreatDoor
