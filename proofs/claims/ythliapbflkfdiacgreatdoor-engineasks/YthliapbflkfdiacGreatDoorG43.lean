/- EWalk1, Arr, EWalk2, ReadsL, LPrograms, EWalk3, AliveT0, ELaw1, AliveL: texts that follow one another, laid into one file. -/
import Derived.Test.YthliapbflkfdiacGreatDoorZ0
import Derived.Test.YthliapbflkfdiacGreatDoorG5
import Derived.Test.YthliapbflkfdiacGreatDoorG42
import Derived.Test.YthliapbflkfdiacGreatDoorG0
import Derived.Test.YthliapbflkfdiacGreatDoorG18
import Derived.Test.YthliapbflkfdiacGreatDoorG28
import Derived.Test.YthliapbflkfdiacGreatDoorG14
import Derived.Test.YthliapbflkfdiacGreatDoorG13
import Derived.Test.YthliapbflkfdiacGreatDoorG7
namespace Go.Proofs.YthliapbflkfdiacGreatDoor
open Go.RowKit Go.Shelf
set_option linter.unusedVariables false
set_option linter.unusedSimpArgs false
set_option maxRecDepth 100000
set_option maxHeartbeats 1000000
theorem Qe9 {α:Type} (a b:α) (O H:List α):(a::b::(O++H)).Perm (b::(O++a::H)):=(List.Perm.swap b a _).trans (.cons b List.perm_middle.symm)
theorem QwC {D R:Ts} (h:rng (D.app R)):rng R:=by
 induction D with
 |nil=>exact h
 |cons k n s a r _ ih=>exact ih h.2.2
theorem Qr3 (T:Ts) (v:Value) (w0:World) (hG:∀w',Ext [] w0 w'→QeB w') (hv:Sl w0 (fun _=>True) v T) (hr:rng T) (hN:T.nodes≤1048576) (hl:(Qbz 0 T).length≤1073741824):
  Calls Tryz.prog 36 #[v] w0 fun e w'=>e= .returned (sv (Qbz 0 T))∧Below w0.heap.size w0 w':=by
 have hS:=St.start w0
 obtain ⟨A,c,rfl,hv⟩:=hv.form
 have hTl:=T.length_le
 refine Qg Tryz.func36 rfl Tryz.ntmps36 rfl ?_
 refine Zg ?_
 refine Zk ?_
 refine ZbA ?_
 clear hS
 intro b1 wx1 hS
 refine Zdy ?_
 refine ZX ?_
 refine Qp 8 (9::10::11::12::5::4::13::14::15::16::17::18::19::20::21::[]) (fun (R:Ts) v w'=>∃(D:Ts) (p B:Value) (O:List (Nat×Obj)),T=D.app R∧v= .int .i64 (D.length:Nat)∧Qo4 b1 p∧Buf (Qbz 0 D) B O∧St [] w0 ((b1,QxM p B)::(O++[])) [] w') (fun R=>R.length) (T) ?_ Yb ?_
 ·exact ⟨.nil,_,_,[],rfl,rfl,.inl rfl,Row.nil_,hS⟩
 clear hS
 rintro R _ w2 jv ⟨D,p,B,O,hD,rfl,hp,hB,hS⟩ ih
 have hlD:T.length=D.length+R.length:=by rw [hD,Ts.length_app]
 cases R with
 |nil=>
  rw [Ts.app_nil] at hD
  subst hD
  simp only [Ts.length] at hlD
  refine ZJ ?_
  refine Zk ?_
  refine Zj ?_
  refine Calls.mono (Qpm p B (Qbz 0 T) O _ hB Ya hS) ?_
  rintro _ w3 ⟨rfl,hS'⟩
  refine Za ?_
  replace hS:=hS'
  clear hS'
  refine Zd ?_
  refine Qd Tryz.func36 rfl Yb ?_
  exact ⟨rfl,hS.ext.below⟩
 |cons k n s a R=>
  obtain ⟨s,rfl⟩:=Qxs s
  simp only [Ts.length] at hlD
  obtain ⟨b5,o5,rfl,hsq⟩:=Sl.at_ (D:=D) (R:= .cons k n ⟨s.toArray⟩ a R) (by rw [←hD];exact hv) (by simp [Ts.length])
  obtain ⟨_,p0,p1,p2,⟨v',p3,hsl⟩,_⟩:=Q6.1 hsq
  obtain ⟨A6,c6,rfl,hsl⟩:=hsl.form
  have hrr:rng (.cons k n ⟨s.toArray⟩ a R):=QwC (D:=D) (by rw [←hD];exact hr)
  have hnod:T.nodes=D.nodes+(Ts.cons k n ⟨s.toArray⟩ a R).nodes:=by rw [hD,Ts.nodes_app]
  simp only [Ts.nodes] at hnod
  have hvl:(Qbz 0 T).length=(Qbz 0 D).length+(Qbz (0+D.length) (.cons k n ⟨s.toArray⟩ a R)).length:=by rw [hD,Qiw,List.length_append]
  simp only [Qbz,List.length_append,List.length_cons,List.length_nil,Nat.zero_add] at hvl
  have hbyte:(Value.int .u8 32)= .int .u8 ((32:UInt8).toNat:Nat):=rfl
  have hbyte2:(Value.int .u8 61)= .int .u8 ((61:UInt8).toNat:Nat):=rfl
  refine Zb1 ?_
  refine ZeB ?_
  clear hS
  intro b2 wx2 hS
  refine Zct ?_
  clear hS
  intro wx3 hS
  refine Za2 ?_
  refine Ze ?_
  refine Calls.mono (QfO p B (Qbz 0 D) 32 O _ hp hB Ya (hS.perm (Qe9 _ _ _ _))) ?_
  rintro _ w3 ⟨B3,O3,rfl,hB3,hS'⟩
  refine Za ?_
  replace hS:=hS'
  clear hS'
  replace hS:=hS.perm (Qe9 _ _ _ _).symm
  refine Zh6 ?_
  refine Calls.mono (QxG (D.length:Nat) _ Ya (hG _ hS.ext)) ?_
  rintro _ w4 ⟨rfl,hb4⟩
  refine Za ?_
  replace hS:=hS.grow hb4
  refine Ze ?_
  refine Calls.mono (QeC _ B3 (Qbz 0 D++[32]) (Lib.itoa (D.length:Nat)) O3 _ (.inr rfl) hB3 Yl (hS.perm (Qe9 _ _ _ _))) ?_
  rintro _ w5 ⟨B5,O5,rfl,hB5,hS'⟩
  refine Za ?_
  replace hS:=hS'
  clear hS'
  replace hS:=hS.perm (Qe9 _ _ _ _).symm
  refine Za2 ?_
  refine Ze ?_
  refine Calls.mono (QfO _ B5 ((Qbz 0 D++[32])++Lib.itoa (D.length:Nat)) 61 O5 _ (.inr rfl) hB5 Yl (hS.perm (Qe9 _ _ _ _))) ?_
  rintro _ w6 ⟨B6,O6,rfl,hB6,hS'⟩
  refine Za ?_
  replace hS:=hS'
  clear hS'
  replace hS:=hS.perm (Qe9 _ _ _ _).symm
  refine Zb ?_
  refine Zbe ?_
  refine Zbg ?_
  refine Zj ?_
  refine Calls.mono (Quh k n s a _ w6 (fun w' h=>hG w' (hS.ext.trans h)) (hsl.below hS.ext.below) hrr.1 hrr.2.1 Ya Ya) ?_
  rintro _ w7 ⟨rfl,hb7⟩
  refine Za ?_
  replace hS:=hS.grow hb7
  refine Ze ?_
  refine Calls.mono (QeC _ B6 ((Qbz 0 D++[32])++Lib.itoa (D.length:Nat)++[61]) (QeI false (.cons k n ⟨s.toArray⟩ a .nil)) O6 _ (.inr rfl) hB6 Yl (hS.perm (Qe9 _ _ _ _))) ?_
  rintro _ w8 ⟨B8,O8,rfl,hB8,hS'⟩
  refine Za ?_
  replace hS:=hS'
  clear hS'
  replace hS:=(hS.perm (Qe9 _ _ _ _).symm).drop
  refine Za8 ?_
  refine ih (R) _ _ _ ?_ ?_ Yb Yc
  ·simp [Ts.length]
  ·refine ⟨D.app (.cons k n ⟨s.toArray⟩ a .nil),_,B8,O8,by rw [Ts.app_assoc];exact hD,by rw [Ts.length_app];simp [Ts.length],.inr rfl,?_,hS⟩
   rw [Qiw,Nat.zero_add,Qwi]
   simpa using hB8
section
variable {P:Program} {n:Nat} {e:Env} {w:World} {ty:TypeId} {pos:String} {after:Array Edge} {x y:Operand} {dst:Option Nat} {t:TypeId} {b o:Nat}
def QxH (P:Program) (t:TypeId):Option (Nat×TypeId):=match P.underlying t with|some (.array n el)=>some (n,el)|_=>none
theorem QnG {el sz len:Nat} {i:Int} (hx:ev n e x= .pointer (some ⟨b,o,none⟩)) (hy:ev n e y= .int .i64 i) (hT:QxH P t=some (len,el)) (hs:Qa8 P el=some sz) (h0:0≤i) (h1:i<len):
  (execOp (ev n e) ⟨dst,.indexAddr t x y,ty,pos,after,none⟩).run P w= .ok (.value (.pointer (some ⟨b,o+i.toNat*sz,none⟩))) w:=by
 have hu:P.underlying t=some (.array len el):=by
  unfold QxH at hT
  split at hT
  ·rename_i h;simp only [Option.some.injEq,Prod.mk.injEq] at hT;rw [h,hT.1,hT.2]
  ·cases hT
 have h2:=run_underlying hu w
 have h3:=QaB (w:=w) hs
 simp only [execOp,Instr.indexAt,Instr.sureAddr,hx,hy,asIntOf,bind,pure,Sem.bind]
 rw [Sem.run_bind',Sem.run_bind',h2]
 simp only [Result.andThen_ok,Sem.bind]
 rw [Sem.run_bind',h2]
 simp only [Result.andThen_ok,if_pos (And.intro h0 h1)]
 rw [Sem.run_bind',h3]
 simp only [Result.andThen_ok,Qan,Sem.run]
end
def Qhi (w:World):Prop:=∀i:Nat,i<7→w.cell? ⟨0,i,none⟩=some (sv (Qi5 (i:Nat)))
theorem Qwf (k:Int):(Qi5 k).length≤6:=by
 unfold Qi5
 repeat' split
 all_goals decide
theorem QwT (k:Int) (T:Ts) (v:Value) (w0:World) (hG:∀w',Ext [] w0 w'→QeB w') (hW:∀w',Ext [] w0 w'→Qhi w') (hv:Sl w0 (fun _=>True) v T) (hr:rng T) (hN:T.nodes≤1048576) (hl:(Qbh k T).length≤1073741824):
  Calls Tryz.prog 18 #[.agg #[.int .i64 k,v]] w0 fun e w'=>e= .returned (sv (Qbh k T))∧Below w0.heap.size w0 w':=by
 have hS:=St.start w0
 obtain ⟨A,c,rfl,hv⟩:=hv.form
 refine Qg Tryz.func18 rfl Tryz.ntmps18 rfl ?_
 by_cases h0:k<0
 ·have e:Qbh k T=[]:=by unfold Qbh Qi5;repeat' rw [if_neg Ya]
  rw [e]
  refine Zi ?_
  clear hS
  intro b1 wx1 hS
  refine Zfe ?_
  refine Zs ?_
  refine Zal ?_
  refine Zb7 ?_
  refine ZhZ ?_
  exact ⟨rfl,hS.ext.below⟩
 by_cases h7:7≤k
 ·have e:Qbh k T=[]:=by unfold Qbh Qi5;repeat' rw [if_neg Ya]
  rw [e]
  refine Zi ?_
  clear hS
  intro b1 wx1 hS
  refine Zfe ?_
  refine Zs ?_
  refine Z3 ?_
  refine ZaK ?_
  refine ZO ?_
  refine Zb7 ?_
  refine ZhZ ?_
  exact ⟨rfl,hS.ext.below⟩
 obtain ⟨i,rfl⟩:∃i:Nat,k=i:=⟨k.toNat,by omega⟩
 have hwc:∀w',Ext [] w0 w'→w'.cell? ⟨0,0+((i:Nat):Int).toNat*1,none⟩=some (sv (Qi5 (i:Nat))):=fun w' h=>by
  have:=hW w' h i Ya
  rwa [show 0+((i:Nat):Int).toNat*1=i by omega]
 have hwl:=Qwf (i:Nat)
 by_cases h1:((i:Nat):Int)=1
 ·have e:Qbh (i:Nat) T=Qi5 (i:Nat)++Qbz 0 T:=by unfold Qbh;rw [if_pos h1,h1];rfl
  rw [e] at hl⊢
  rw [List.length_append] at hl
  refine Zi ?_
  clear hS
  intro b1 wx1 hS
  refine Zd8 ?_
  refine ZbU ?_
  refine Zs ?_
  refine ZeC ?_
  refine ZbU ?_
  refine Zm ?_
  refine ZO ?_
  refine ZC ?_
  refine Zci ?_
  refine ZbU ?_
  refine Zkk ?_
  refine ZbU ?_
  refine Zd8 ?_
  refine ZbU ?_
  refine ZfY ?_
  refine Zl ?_
  refine Z7 ?_
  refine ZbU ?_
  refine Zj ?_
  refine Calls.mono (Qr3 T _ _ (fun w' h=>hG w' (hS.ext.trans h)) (hv.below hS.ext.below) hr hN Ya) ?_
  rintro _ w3 ⟨rfl,hb3⟩
  refine Za ?_
  replace hS:=hS.grow hb3
  refine ZhB ?_
  refine Zd ?_
  refine ZhZ ?_
  exact ⟨rfl,hS.ext.below⟩
 ·have e:Qbh (i:Nat) T=Qi5 (i:Nat):=by unfold Qbh;rw [if_neg h1]
  rw [e]
  refine Zi ?_
  clear hS
  intro b1 wx1 hS
  refine Zd8 ?_
  refine ZbU ?_
  refine Zs ?_
  refine ZeC ?_
  refine ZbU ?_
  refine Zm ?_
  refine ZO ?_
  refine ZC ?_
  refine Zci ?_
  refine ZbU ?_
  refine Zkk ?_
  refine ZbU ?_
  refine Zd8 ?_
  refine ZbU ?_
  refine Zan ?_
  refine Zak ?_
  refine ZhZ ?_
  exact ⟨rfl,hS.ext.below⟩
theorem QoO (num:Str→Option Int) (s:RS):(Q8 num s).1.hd.nodes≤s.left∧(Q8 num s).1.bd.nodes≤s.left:=by
 have h1:=Qgz num 24 { s with vars:=[] }
 have h2:=QmU num (QI num 24 { s with vars:=[] }).2
 have e:RS.left { s with vars:=[] }=s.left:=rfl
 rw [e] at h1
 exact ⟨by show (QI num 24 _).1.ar.nodes≤_;omega,by show (QaI (Qbw num _).1).nodes≤_;omega⟩
theorem Qlr (num:Str→Option Int):∀(n:Nat) (s:RS),∀c∈(QP num n s).1,c.hd.nodes≤s.left∧c.bd.nodes≤s.left
 |0,s,c,h=>by simp [QP] at h
 |n+1,s,c,h=>by
  unfold QP at h
  split at h
  ·simp at h
  ·rename_i ht
   have h1:=QoO num s
   rcases List.mem_cons.1 h with rfl|h
   ·exact h1
   ·have h2:=Qlr num n _ c h
    have h3:=Qfl num s ht
    omega
theorem QgI (num:Str→Option Int) (l:Str):∀c∈(QC num l).1,c.hd.nodes≤2000∧c.bd.nodes≤2000:=by
 intro c hc
 have h0:=Qf5 l
 have:c∈(QP num (RS.start l).left (RS.start l)).1:=by
  unfold QC at hc
  simp only at hc
  split at hc
  ·split at hc
   ·exact hc
   ·simp at hc
  ·split at hc
   ·exact hc
   ·simp at hc
 have:=Qlr num _ _ c this
 omega
theorem QjO (num:Str→Option Int) (l:Str):(QC num l).1.length≤24:=by
 unfold QC
 simp only
 generalize QP num (RS.start l).left (RS.start l)=p
 by_cases h:24<p.1.length
 ·have h1:(p.2.fail 3).err≠0:=by
   simp only [RS.fail]
   split
   ·decide
   ·assumption
  rw [if_pos h,if_neg h1];simp
 ·rw [if_neg h]
  split
  ·simp only;omega
  ·simp
theorem Qud {v u:Value} {R:List Value}:∀D:List Value,Put (D++u::R) D.length v (D++v::R)
 |[]=> .z
 |d::D=> .s (Qud D)
theorem Qen (T:Ts) (h:T.nodes≤1048576):T.length≤9223372036854775807∧T.wide:=⟨by have:=Ts.length_le T;omega,Ts.wide_of T Ya⟩
theorem Qib (l:Str):(QM QX l).1.nodes≤2001:=by
 rw [QjL]
 have hwl:=Qi4 l
 have hgn:=Qb5 (QbT 24) [46] (PS.start l)
 unfold Qbo
 by_cases h:2000<l.length
 ·rw [if_pos h];simp [Ts.nodes]
 ·rw [if_neg h]
  have hgn2:(QaI (QJ (PS.start l)).1).nodes≤2001:=by
   unfold QJ
   have:(PS.start l).l.length=(Qbj l).length:=rfl
   omega
  generalize QJ (PS.start l)=g at hgn2⊢
  simp only
  split
  ·simp [Ts.nodes]
  ·exact hgn2
def Qx5 (w0:World) (r:List Str×Int) (e:Ending) (w':World):Prop:=
 ∃(A:Option Addr) (c:Nat),e= .returned (.tuple #[.slice A r.1.length c,.int .i64 r.2])∧QG 1 (r.1.map sv) A r.1.length c w'∧Below w0.heap.size w0 w'
theorem QvF (p q:Str) (fuel every:Int) (w0:World) (hG:∀w',Ext [] w0 w'→QeB w') (hW:∀w',Ext [] w0 w'→Qhi w') (hp:p.length≤1125899906842624) (hq:q.length≤1125899906842624) (hev:every≤9223372036854775807):
  Calls Tryz.prog 21 #[sv p,sv q,.int .i64 fuel,.int .i64 every] w0 (Qx5 w0 (QiU p q fuel every)):=by
 have hS:=St.start w0
 have hpn:=QgI QX p
 have hpl:=QjO QX p
 have hqn:=Qib q
 refine Qcq Tryz.func21 rfl Tryz.ntmps21 rfl ?_
 refine Zaa ?_
 refine ZG ?_
 refine Calls.mono (Quf QX QeB QAc QAb QAa p _ hG hp hS) ?_
 rintro _ w3 ⟨v1,rfl,hS'⟩
 refine Za ?_
 replace hS:=hS'
 clear hS'
 obtain ⟨pA,pc,X,rfl,hX,hXr⟩:=(hS.fact (.head _)).locate
 replace hS:=hS.learn (φ:=Qit X pA pc) fun w2 hx=>hXr w2 fun k _ hk=>hx.block k hk Yd
 by_cases h1:(QC QX p).2=0
 case neg=>
  have e:QiU p q fuel every=([],(QC QX p).2):=by unfold QiU;rw [if_pos h1]
  rw [e]
  refine Zgp ?_
  refine ZgZ ?_
  exact ⟨none,0,rfl,QG.nil_ _ _ _,hS.ext.below⟩
 obtain ⟨hpB,hpbr⟩:=Qlq h1
 refine Zeh ?_
 refine Zo ?_
 refine ZG ?_
 refine Calls.mono (Qyu QX QeB QAc QAb QAa q _ hG hq hS) ?_
 rintro _ w4 ⟨v2,rfl,hS'⟩
 refine Za ?_
 replace hS:=hS'
 clear hS'
 obtain ⟨qA,qc,Y,rfl,hY,hYr⟩:=(hS.fact (.head _)).locate
 replace hS:=hS.learn (φ:=ArA qA qc Y) fun w2 hx=>hYr w2 fun k _ hk=>hx.block k hk Yd
 by_cases h2:(QM QX q).2.2=0
 case neg=>
  have e:QiU p q fuel every=([],(QM QX q).2.2):=by unfold QiU;rw [if_neg (fun h=>h h1),if_pos h2]
  rw [e]
  refine Zcc ?_
  refine Zbs ?_
  refine Zi5 ?_
  refine ZgZ ?_
  exact ⟨none,0,rfl,QG.nil_ _ _ _,hS.ext.below⟩
 obtain ⟨hqB,hqbr,hql⟩:=QqY h2
 have hask:QiU p q fuel every=if every<0 then ([],2)
   else if (QdU (QC QX p).1 (QM QX q).1 ((QM QX q).2.1:Nat) fuel).2≠0 then ([],(QdU (QC QX p).1 (QM QX q).1 ((QM QX q).2.1:Nat) fuel).2)
   else ((QdU (QC QX p).1 (QM QX q).1 ((QM QX q).2.1:Nat) fuel).1.map QpP,0):=by
  unfold QiU;rw [if_neg (fun h=>h h1),if_neg (fun h=>h h2)]
 rw [hask]
 clear hask
 have hevs:=QlW (vars:=((QM QX q).2.1:Nat)) (fuel:=fuel) hpbr hqbr
 have hfew:=Qqe (P:=(QC QX p).1) (q:=(QM QX q).1) (vars:=((QM QX q).2.1:Nat)) (fuel:=fuel)
 generalize (QM QX q).2.1=vn at*
 rw [←hX] at hpn hpl hpB hevs hfew⊢
 rw [←hY] at hqn hqB hevs hfew⊢
 have hall:=Qso X pA pc Y qA qc (vn:Nat) fuel every _ Und.head.tail.tail Und.head (by simp at hpl;omega) (fun c hc=>by
  obtain ⟨a1,a2⟩:=Qen c.hd (by have:=(hpn c hc).1;omega)
  obtain ⟨b1,b2⟩:=Qen c.bd (by have:=(hpn c hc).2;omega)
  exact ⟨a1,a2,b1,b2⟩) (by rw [←TA.len_ts];exact (Qen _ Ya).1) (Qen _ Ya).2 hev hS
 refine Zcc ?_
 refine Zbs ?_
 refine Zo ?_
 refine Zdm ?_
 refine Zf ?_
 refine ZgU ?_
 refine Calls.mono (hall) ?_
 rintro _ w5 ⟨A5,c5,L,F5,rfl,hL,hF5,hK,hS'⟩
 refine Za ?_
 replace hS:=hS'
 clear hS'
 by_cases h3:every<0
 ·have e:(Qpa (X.map LC.cl) Y.ts (vn:Nat) fuel every).2=2:=by rw [QiX _ _ _ _ _ h3,if_neg (by rw [hpB,hqB];simp)]
  rw [if_pos h3,e]
  refine Zgp ?_
  refine ZgZ ?_
  exact ⟨none,0,rfl,QG.nil_ _ _ _,hS.ext.below⟩
 rw [if_neg h3]
 rw [QmZ _ _ _ _ _ Ya] at hL⊢
 by_cases h4:(QdU (X.map LC.cl) Y.ts (vn:Nat) fuel).2=0
 case neg=>
  rw [if_pos h4]
  refine Zgp ?_
  refine ZgZ ?_
  exact ⟨none,0,rfl,QG.nil_ _ _ _,hS.ext.below⟩
 rw [if_neg (fun h=>h h4),h4]
 have hLl:L.length≤13:=by have:=congrArg List.length hL;rw [List.length_map] at this;omega
 have hmap:(QdU (X.map LC.cl) Y.ts (vn:Nat) fuel).1.map QpP=L.map fun x=>Qbh x.k x.T.ts:=by rw [←hL,List.map_map];rfl
 have hx:∀x∈L,x.T.ts.nodes≤200∧rng x.T.ts∧(Qbh x.k x.T.ts).length≤1000000:=fun x hx=>by
  have:=hevs x.ev (by rw [←hL];exact List.mem_map.2 ⟨x,hx,rfl⟩)
  exact ⟨this.1,this.2.1,this.2.2.2⟩
 rw [hmap]
 refine Zeh ?_
 refine Zo ?_
 refine Zl ?_
 refine ZS ?_
 refine Qdo (k:=L.length) (bts:=16) (z:= .string ⟨#[]⟩) hS Yb Yb rfl rfl rfl rfl Ya Ya rfl ?_
 clear hS
 intro zb w6 hS
 refine Zcz ?_
 refine Qp 52 (53::54::55::56::17::16::57::58::59::60::61::62::[]) (fun (R:List KE) v w'=>∃D,L=D++R∧v= .int .i64 (D.length:Nat)∧St [] w0 ((zb,.cells (D.map (fun x=>sv (Qbh x.k x.T.ts))++R.map (fun _=>Value.string ⟨#[]⟩)).toArray 9)::[]) F5 w') (fun R=>R.length) (L) ?_ Yb ?_
 ·exact ⟨[],rfl,rfl,by simpa [List.map_const'] using hS⟩
 clear hS
 rintro R _ w7 jv ⟨D,hD,rfl,hS⟩ ih
 have hlD:L.length=D.length+R.length:=by rw [hD];simp
 cases R with
 |nil=>
  rw [List.append_nil] at hD
  subst hD
  simp only [List.length_nil] at hlD
  simp only [List.map_nil,List.append_nil] at hS
  refine ZJ ?_
  refine Zee ?_
  refine ZgZ ?_
  have hown:=hS.own (zb,_) (.head _)
  refine ⟨some ⟨zb,0,none⟩,L.length,by simp,?_,hS.ext.below⟩
  have:=QG.own (xs:=(L.map fun x=>Qbh x.k x.T.ts).map sv) (sp:=[]) (sz:=1) (len:=L.length) (cap:=L.length) (b:=zb) (el:=9) (w:=w7) (by rw [List.append_nil,List.map_map];exact hown) Yd (Nat.le_refl _)
  simpa using this
 |cons x R=>
  simp only [List.length_cons] at hlD
  obtain ⟨hx1,hx2,hx3⟩:=hx x (by rw [hD];simp)
  have hKw:=hS.und hK
  rw [hD] at hKw
  obtain ⟨b6,o6,rfl⟩:=hKw.some_ Yg
  obtain ⟨q0,q1⟩:=hKw.cells
  have hAr:Und F5 (ArA x.A x.c x.T):=hK.imp fun w h=>h.2.2 x (by rw [hD];simp)
  have hput:Put (D.map (fun x=>sv (Qbh x.k x.T.ts))++(x::R).map (fun _=>Value.string ⟨#[]⟩)) D.length (sv (Qbh x.k x.T.ts)) ((D++[x]).map (fun x=>sv (Qbh x.k x.T.ts))++R.map (fun _=>Value.string ⟨#[]⟩)):=by
   have:=Qud (v:=sv (Qbh x.k x.T.ts)) (u:=Value.string ⟨#[]⟩) (R:=R.map (fun _=>Value.string ⟨#[]⟩)) (D.map (fun x=>sv (Qbh x.k x.T.ts)))
   simpa using this
  refine Zb1 ?_
  refine Zgx ?_
  refine Zau ?_
  refine ZbA ?_
  clear hS
  intro b1 wx1 hS
  refine Zct ?_
  clear hS
  intro wx2 hS
  refine Zb ?_
  refine ZaS ?_
  refine Zau ?_
  refine Zj ?_
  refine Calls.mono (QwT x.k x.T.ts _ _ (fun w' h=>hG w' (hS.ext.trans h)) (fun w' h=>hW w' (hS.ext.trans h)) (hS.und hAr).sl hx2 Ya Ya) ?_
  rintro _ w8 ⟨rfl,hb8⟩
  refine Za ?_
  replace hS:=hS.grow hb8
  refine ZI ?_
  refine Ze8 ?_
  clear hS
  intro w9 hS
  refine Za8 ?_
  refine ih (R) _ _ _ ?_ ?_ Yb Yc
  ·simp
  ·exact ⟨D++[x],by rw [hD];simp,by simp,hS.drop⟩
abbrev Qcg (l:List Str) (A:Option Addr) (c:Nat) (w:World):Prop:=QG 1 (l.map sv) A l.length c w
theorem Qcg.at_ {D R:List Str} {x:Str} {b o c:Nat} {w:World} (h:Qcg (D++x::R) (some ⟨b,o,none⟩) c w):w.cell? ⟨b,o+((D.length:Nat):Int).toNat*1,none⟩=some (sv x):=by
 have:=h.get (j:=D.length) (v:=sv x) Yd
 rwa [show ((D.length:Nat):Int).toNat*1=D.length by omega]
theorem Qzq (p q:Str) (fuel every:Int) {w0 w:World} {F:List (World→Prop)} (hG:∀w',Ext [] w0 w'→QeB w') (hW:∀w',Ext [] w0 w'→Qhi w') (hp:p.length≤1125899906842624) (hq:q.length≤1125899906842624) (hev:every≤9223372036854775807) (hS:St [] w0 [] F w):
  Calls Tryz.prog 21 #[sv p,sv q,.int .i64 fuel,.int .i64 every] w fun e w'=>∃(A:Option Addr) (c:Nat),e= .returned (.tuple #[.slice A (QiU p q fuel every).1.length c,.int .i64 (QiU p q fuel every).2])∧St [] w0 [] (Qcg (QiU p q fuel every).1 A c::F) w':=by
 refine (QvF p q fuel every w (fun w' h=>hG w' (hS.ext.trans h)) (fun w' h=>hW w' (hS.ext.trans h)) hp hq hev).mono ?_
 rintro e w' ⟨A,c,he,hf,hb⟩
 exact ⟨A,c,he,(hS.grow hb).learn fun w2 hx=>QG.ext hf hx⟩
theorem Qxj (p q:Str) (fuel every:Int):(QiU p q fuel every).1.length≤13:=by
 unfold QiU
 repeat' split
 all_goals first|exact Nat.zero_le _|(rw [List.length_map];exact Qqe)
def QzX:Str:=[112,40,52,41,46]
def QzW:Str:=[112,40,88,41,46]
theorem QvC:QiU QzX QzW 9 0=([[121,101,115,32,48,61,52],[100,111,110,101]],0):=by kernel_rfl
theorem Qs9 (w:World) (hG:∀w',Ext [] w w'→QeB w') (hW:∀w',Ext [] w w'→Qhi w'):Calls Tryz.prog 20 #[] w fun e w'=>e= .returned (.bool true)∧Below w.heap.size w w':=by
 have hS:=St.start w
 have h:Calls Tryz.prog 21 #[sv QzX,sv QzW,.int .i64 9,.int .i64 0] w fun e w'=>∃(A:Option Addr) (c:Nat),e= .returned (.tuple #[.slice A 2 c,.int .i64 0])∧QG 1 [sv [121,101,115,32,48,61,52],sv [100,111,110,101]] A 2 c w'∧Below w.heap.size w w':=by
  have h:=QvF QzX QzW 9 0 w hG hW Yf Yf Yf
  rw [QvC] at h
  exact h
 refine Qp5 Tryz.func20 rfl Tryz.ntmps20 rfl ?_
 refine Zg ?_
 refine Zk ?_
 refine ZgY ?_
 refine Calls.mono (h) ?_
 rintro _ w1 ⟨A,c,rfl,hf,hb⟩
 refine Za ?_
 replace hS:=hS.grow hb
 obtain ⟨b5,o5,rfl⟩:=hf.some_ Yf
 have q0:=hf.get (j:=0) (v:=sv [121,101,115,32,48,61,52]) rfl
 have q1:=hf.get (j:=1) (v:=sv [100,111,110,101]) rfl
 have e0:(⟨([121,101,115,32,48,61,52]:Str).toArray⟩:ByteArray)=⟨#[121,101,115,32,48,61,52]⟩:=rfl
 have e1:(⟨([100,111,110,101]:Str).toArray⟩:ByteArray)=⟨#[100,111,110,101]⟩:=rfl
 refine Zbq ?_
 refine Zl ?_
 refine Zec ?_
 refine ZbK ?_
 refine Zr ?_
 refine Zaw ?_
 refine ZI ?_
 refine Zd7 ?_
 refine ZZ ?_
 refine Zaw ?_
 refine ZI ?_
 refine Zd7 ?_
 refine ZZ ?_
 refine Zab ?_
 refine Qd Tryz.func20 rfl Yb ?_
 exact ⟨rfl,hS.ext.below⟩
end Go.Proofs.YthliapbflkfdiacGreatDoor
