/- EWalk1, Arr, EWalk2, ReadsL, LPrograms, EWalk3, AliveT0, ELaw1, AliveL: texts that follow one another, laid into one file. -/
import Derived.Test.YthliapbflkfdiacGreatDoorZ0
import Derived.Test.YthliapbflkfdiacGreatDoorG5
import Derived.Test.YthliapbflkfdiacGreatDoorG42
import Derived.Test.YthliapbflkfdiacGreatDoorG0
import Derived.Test.YthliapbflkfdiacGreatDoorG18
import Derived.Test.YthliapbflkfdiacGreatDoorG28
import Derived.Test.YthliapbflkfdiacGreatDoorG14
import Derived.Test.YthliapbflkfdiacGreatDoorG13
import Derived.Test.YthliapbflkfdiacGreatDoorG7
namespace Go.Proofs.YthliapbflkfdiacGreatDoor
open Go.RowKit Go.Shelf
set_option linter.unusedVariables false
set_option linter.unusedSimpArgs false
set_option maxRecDepth 100000
set_option maxHeartbeats 1000000
theorem QdH {α:Type} (a b:α) (O H:List α):(a::b::(O++H)).Perm (b::(O++a::H)):=(List.Perm.swap b a _).trans (.cons b List.perm_middle.symm)
theorem QsM {D R:Ts} (h:rng (D.app R)):rng R:=by
 induction D with
 |nil=>exact h
 |cons k n s a r _ ih=>exact ih h.2.2
theorem QoN (T:Ts) (v:Value) (w0:World) (hG:∀w',Ext [] w0 w'→Qdo w') (hv:Sl w0 (fun _=>True) v T) (hr:rng T) (hN:T.nodes≤1048576) (hl:(QaS 0 T).length≤1073741824):
  Calls Tryz.prog 36 #[v] w0 fun e w'=>e= .returned (sv (QaS 0 T))∧Below w0.heap.size w0 w':=by
 have hS:=St.start w0
 obtain ⟨A,c,rfl,hv⟩:=hv.form
 have hTl:=T.length_le
 refine Qe Tryz.func36 rfl Tryz.ntmps36 rfl ?_
 refine Zk ?_
 refine Zf ?_
 refine ZaX ?_
 clear hS
 intro b1 wx1 hS
 refine Zo ?_
 refine Zl ?_
 refine Z2 ?_
 refine Qo 8 (9::10::11::12::5::4::13::14::15::16::17::18::19::20::21::[]) (fun (R:Ts) v w'=>∃(D:Ts) (p B:Value) (O:List (Nat×Obj)),T=D.app R∧v= .int .i64 (D.length:Nat)∧Qmm b1 p∧Buf (QaS 0 D) B O∧St [] w0 ((b1,QtU p B)::(O++[])) [] w') (fun R=>R.length) (T) ?_ Yb ?_
 ·exact ⟨.nil,_,_,[],rfl,rfl,.inl rfl,Row.nil_,hS⟩
 clear hS
 rintro R _ w2 jv ⟨D,p,B,O,hD,rfl,hp,hB,hS⟩ ih
 have hlD:T.length=D.length+R.length:=by rw [hD,Ts.length_app]
 cases R with
 |nil=>
  rw [Ts.app_nil] at hD
  subst hD
  simp only [Ts.length] at hlD
  refine ZC ?_
  refine Zf ?_
  refine Zj ?_
  refine Calls.mono (QmB p B (QaS 0 T) O _ hB Ya hS) ?_
  rintro _ w3 ⟨rfl,hS'⟩
  refine Za ?_
  replace hS:=hS'
  clear hS'
  refine Zc ?_
  refine Qc Tryz.func36 rfl Yb ?_
  exact ⟨rfl,hS.ext.below⟩
 |cons k n s a R=>
  obtain ⟨s,rfl⟩:=QtC s
  simp only [Ts.length] at hlD
  obtain ⟨b5,o5,rfl,hsq⟩:=Sl.at_ (D:=D) (R:= .cons k n ⟨s.toArray⟩ a R) (by rw [←hD];exact hv) (by simp [Ts.length])
  obtain ⟨_,p0,p1,p2,⟨v',p3,hsl⟩,_⟩:=Qaf.1 hsq
  obtain ⟨A6,c6,rfl,hsl⟩:=hsl.form
  have hrr:rng (.cons k n ⟨s.toArray⟩ a R):=QsM (D:=D) (by rw [←hD];exact hr)
  have hnod:T.nodes=D.nodes+(Ts.cons k n ⟨s.toArray⟩ a R).nodes:=by rw [hD,Ts.nodes_app]
  simp only [Ts.nodes] at hnod
  have hvl:(QaS 0 T).length=(QaS 0 D).length+(QaS (0+D.length) (.cons k n ⟨s.toArray⟩ a R)).length:=by rw [hD,QgF,List.length_append]
  simp only [QaS,List.length_append,List.length_cons,List.length_nil,Nat.zero_add] at hvl
  have hbyte:(Value.int .u8 32)= .int .u8 ((32:UInt8).toNat:Nat):=rfl
  have hbyte2:(Value.int .u8 61)= .int .u8 ((61:UInt8).toNat:Nat):=rfl
  refine ZaP ?_
  refine Zbu ?_
  refine Za1 ?_
  refine ZS ?_
  clear hS
  intro b2 wx2 hS
  refine Zbp ?_
  clear hS
  intro wx3 hS
  refine ZaV ?_
  refine Zi ?_
  refine Calls.mono (Qeo p B (QaS 0 D) 32 O _ hp hB Ya (hS.perm (QdH _ _ _ _))) ?_
  rintro _ w3 ⟨B3,O3,rfl,hB3,hS'⟩
  refine Za ?_
  replace hS:=hS'
  clear hS'
  replace hS:=hS.perm (QdH _ _ _ _).symm
  refine Zb ?_
  refine ZN ?_
  refine Calls.mono (QtN (D.length:Nat) _ Ya (hG _ hS.ext)) ?_
  rintro _ w4 ⟨rfl,hb4⟩
  refine Za ?_
  replace hS:=hS.grow hb4
  refine Zi ?_
  refine Calls.mono (Qdf _ B3 (QaS 0 D++[32]) (Lib.itoa (D.length:Nat)) O3 _ (.inr rfl) hB3 Yj (hS.perm (QdH _ _ _ _))) ?_
  rintro _ w5 ⟨B5,O5,rfl,hB5,hS'⟩
  refine Za ?_
  replace hS:=hS'
  clear hS'
  replace hS:=hS.perm (QdH _ _ _ _).symm
  refine ZaV ?_
  refine Zi ?_
  refine Calls.mono (Qeo _ B5 ((QaS 0 D++[32])++Lib.itoa (D.length:Nat)) 61 O5 _ (.inr rfl) hB5 Yj (hS.perm (QdH _ _ _ _))) ?_
  rintro _ w6 ⟨B6,O6,rfl,hB6,hS'⟩
  refine Za ?_
  replace hS:=hS'
  clear hS'
  replace hS:=hS.perm (QdH _ _ _ _).symm
  refine Zb ?_
  refine Zbb ?_
  refine Za1 ?_
  refine Zj ?_
  refine Calls.mono (QqC k n s a _ w6 (fun w' h=>hG w' (hS.ext.trans h)) (hsl.below hS.ext.below) hrr.1 hrr.2.1 Ya Ya) ?_
  rintro _ w7 ⟨rfl,hb7⟩
  refine Za ?_
  replace hS:=hS.grow hb7
  refine Zi ?_
  refine Calls.mono (Qdf _ B6 ((QaS 0 D++[32])++Lib.itoa (D.length:Nat)++[61]) (QcP false (.cons k n ⟨s.toArray⟩ a .nil)) O6 _ (.inr rfl) hB6 Yj (hS.perm (QdH _ _ _ _))) ?_
  rintro _ w8 ⟨B8,O8,rfl,hB8,hS'⟩
  refine Za ?_
  replace hS:=hS'
  clear hS'
  replace hS:=(hS.perm (QdH _ _ _ _).symm).drop
  refine Zao ?_
  refine ih (R) _ _ _ ?_ ?_ Yb Yc
  ·simp [Ts.length]
  ·refine ⟨D.app (.cons k n ⟨s.toArray⟩ a .nil),_,B8,O8,by rw [Ts.app_assoc];exact hD,by rw [Ts.length_app];simp [Ts.length],.inr rfl,?_,hS⟩
   rw [QgF,Nat.zero_add,Qst]
   simpa using hB8
section
variable {P:Program} {n:Nat} {e:Env} {w:World} {ty:TypeId} {pos:String} {after:Array Edge} {x y:Operand} {dst:Option Nat} {t:TypeId} {b o:Nat}
def QtO (P:Program) (t:TypeId):Option (Nat×TypeId):=match P.underlying t with|some (.array n el)=>some (n,el)|_=>none
theorem Qk4 {el sz len:Nat} {i:Int} (hx:ev n e x= .pointer (some ⟨b,o,none⟩)) (hy:ev n e y= .int .i64 i) (hT:QtO P t=some (len,el)) (hs:QaE P el=some sz) (h0:0≤i) (h1:i<len):
  (execOp (ev n e) ⟨dst,.indexAddr t x y,ty,pos,after,none⟩).run P w= .ok (.value (.pointer (some ⟨b,o+i.toNat*sz,none⟩))) w:=by
 have hu:P.underlying t=some (.array len el):=by
  unfold QtO at hT
  split at hT
  ·rename_i h;simp only [Option.some.injEq,Prod.mk.injEq] at hT;rw [h,hT.1,hT.2]
  ·cases hT
 have h2:=run_underlying hu w
 have h3:=Qad (w:=w) hs
 simp only [execOp,Instr.indexAt,Instr.sureAddr,hx,hy,asIntOf,bind,pure,Sem.bind]
 rw [Sem.run_bind',Sem.run_bind',h2]
 simp only [Result.andThen_ok,Sem.bind]
 rw [Sem.run_bind',h2]
 simp only [Result.andThen_ok,if_pos (And.intro h0 h1)]
 rw [Sem.run_bind',h3]
 simp only [Result.andThen_ok,Qab,Sem.run]
end
def Qgx (w:World):Prop:=∀i:Nat,i<7→w.cell? ⟨0,i,none⟩=some (sv (Qg6 (i:Nat)))
theorem Qnw (k:Int):(Qg6 k).length≤6:=by
 unfold Qg6
 repeat' split
 all_goals decide
theorem Qn6 (k:Int) (T:Ts) (v:Value) (w0:World) (hG:∀w',Ext [] w0 w'→Qdo w') (hW:∀w',Ext [] w0 w'→Qgx w') (hv:Sl w0 (fun _=>True) v T) (hr:rng T) (hN:T.nodes≤1048576) (hl:(QaI k T).length≤1073741824):
  Calls Tryz.prog 18 #[.agg #[.int .i64 k,v]] w0 fun e w'=>e= .returned (sv (QaI k T))∧Below w0.heap.size w0 w':=by
 have hS:=St.start w0
 obtain ⟨A,c,rfl,hv⟩:=hv.form
 refine Qe Tryz.func18 rfl Tryz.ntmps18 rfl ?_
 by_cases h0:k<0
 ·have e:QaI k T=[]:=by unfold QaI Qg6;repeat' rw [if_neg Ya]
  rw [e]
  refine Zd ?_
  clear hS
  intro b1 wx1 hS
  refine Zc3 ?_
  refine Zq ?_
  refine Zan ?_
  refine Zak ?_
  refine Za8 ?_
  refine ZeS ?_
  exact ⟨rfl,hS.ext.below⟩
 by_cases h7:7≤k
 ·have e:QaI k T=[]:=by unfold QaI Qg6;repeat' rw [if_neg Ya]
  rw [e]
  refine Zd ?_
  clear hS
  intro b1 wx1 hS
  refine Zc3 ?_
  refine Zq ?_
  refine ZH ?_
  refine Zbl ?_
  refine Zad ?_
  refine Za8 ?_
  refine ZeS ?_
  exact ⟨rfl,hS.ext.below⟩
 obtain ⟨i,rfl⟩:∃i:Nat,k=i:=⟨k.toNat,by omega⟩
 have hwc:∀w',Ext [] w0 w'→w'.cell? ⟨0,0+((i:Nat):Int).toNat*1,none⟩=some (sv (Qg6 (i:Nat))):=fun w' h=>by
  have:=hW w' h i Ya
  rwa [show 0+((i:Nat):Int).toNat*1=i by omega]
 have hwl:=Qnw (i:Nat)
 by_cases h1:((i:Nat):Int)=1
 ·have e:QaI (i:Nat) T=Qg6 (i:Nat)++QaS 0 T:=by unfold QaI;rw [if_pos h1,h1];rfl
  rw [e] at hl⊢
  rw [List.length_append] at hl
  refine Zd ?_
  clear hS
  intro b1 wx1 hS
  refine ZG ?_
  refine ZdI ?_
  refine Zq ?_
  refine ZH ?_
  refine Zdy ?_
  refine ZcT ?_
  refine Zw ?_
  refine Zad ?_
  refine Zag ?_
  refine ZdI ?_
  refine ZgB ?_
  refine ZcT ?_
  refine ZG ?_
  refine ZdI ?_
  refine Zn ?_
  refine ZcR ?_
  refine ZU ?_
  refine ZcT ?_
  refine Zj ?_
  refine Calls.mono (QoN T _ _ (fun w' h=>hG w' (hS.ext.trans h)) (hv.below hS.ext.below) hr hN Ya) ?_
  rintro _ w3 ⟨rfl,hb3⟩
  refine Za ?_
  replace hS:=hS.grow hb3
  refine Zeq ?_
  refine Zc ?_
  refine ZeS ?_
  exact ⟨rfl,hS.ext.below⟩
 ·have e:QaI (i:Nat) T=Qg6 (i:Nat):=by unfold QaI;rw [if_neg h1]
  rw [e]
  refine Zd ?_
  clear hS
  intro b1 wx1 hS
  refine ZG ?_
  refine ZdI ?_
  refine Zq ?_
  refine ZH ?_
  refine Zdy ?_
  refine ZcT ?_
  refine Zw ?_
  refine Zad ?_
  refine Zag ?_
  refine ZdI ?_
  refine ZgB ?_
  refine ZcT ?_
  refine ZG ?_
  refine ZdI ?_
  refine Zn ?_
  refine Zr ?_
  refine ZX ?_
  refine ZeS ?_
  exact ⟨rfl,hS.ext.below⟩
theorem Ql4 (num:Str→Option Int) (s:RS):(QP num s).1.hd.nodes≤s.left∧(QP num s).1.bd.nodes≤s.left:=by
 have h1:=Qe3 num 24 { s with vars:=[] }
 have h2:=Qku num (Qv num 24 { s with vars:=[] }).2
 have e:RS.left { s with vars:=[] }=s.left:=rfl
 rw [e] at h1
 exact ⟨by show (Qv num 24 _).1.ar.nodes≤_;omega,by show (Qby (QaZ num _).1).nodes≤_;omega⟩
theorem Qi6 (num:Str→Option Int):∀(n:Nat) (s:RS),∀c∈(QD num n s).1,c.hd.nodes≤s.left∧c.bd.nodes≤s.left
 |0,s,c,h=>by simp [QD] at h
 |n+1,s,c,h=>by
  unfold QD at h
  split at h
  ·simp at h
  ·rename_i ht
   have h1:=Ql4 num s
   rcases List.mem_cons.1 h with rfl|h
   ·exact h1
   ·have h2:=Qi6 num n _ c h
    have h3:=QdX num s ht
    omega
theorem QjV (num:Str→Option Int) (l:Str):∀c∈(QC num l).1,c.hd.nodes≤2000∧c.bd.nodes≤2000:=by
 intro c hc
 have h0:=QeB l
 have:c∈(QD num (RS.start l).left (RS.start l)).1:=by
  unfold QC at hc
  simp only at hc
  split at hc
  ·split at hc
   ·exact hc
   ·simp at hc
  ·split at hc
   ·exact hc
   ·simp at hc
 have:=Qi6 num _ _ c this
 omega
theorem QmP (num:Str→Option Int) (l:Str):(QC num l).1.length≤24:=by
 unfold QC
 simp only
 generalize QD num (RS.start l).left (RS.start l)=p
 by_cases h:24<p.1.length
 ·have h1:(p.2.fail 3).err≠0:=by
   simp only [RS.fail]
   split
   ·decide
   ·assumption
  rw [if_pos h,if_neg h1];simp
 ·rw [if_neg h]
  split
  ·simp only;omega
  ·simp
theorem Qqz {v u:Value} {R:List Value}:∀D:List Value,Put (D++u::R) D.length v (D++v::R)
 |[]=> .z
 |d::D=> .s (Qqz D)
theorem Qda (T:Ts) (h:T.nodes≤1048576):T.length≤9223372036854775807∧T.wide:=⟨by have:=Ts.length_le T;omega,Ts.wide_of T Ya⟩
theorem Qlc (l:Str):(Q7 Q0 l).1.nodes≤2001:=by
 rw [Qlb]
 have hwl:=QpU l
 have hgn:=Qfa (Qgl 24) [46] (PS.start l)
 unfold Qfb
 by_cases h:2000<l.length
 ·rw [if_pos h];simp [Ts.nodes]
 ·rw [if_neg h]
  have hgn2:(Qby (QaX (PS.start l)).1).nodes≤2001:=by
   unfold QaX
   have:(PS.start l).l.length=(Qcx l).length:=rfl
   omega
  generalize QaX (PS.start l)=g at hgn2⊢
  simp only
  split
  ·simp [Ts.nodes]
  ·exact hgn2
def QvA (w0:World) (r:List Str×Int) (e:Ending) (w':World):Prop:=
 ∃(A:Option Addr) (c:Nat),e= .returned (.tuple #[.slice A r.1.length c,.int .i64 r.2])∧Qz 1 (r.1.map sv) A r.1.length c w'∧Below w0.heap.size w0 w'
theorem QuU (p q:Str) (fuel every:Int) (w0:World) (hG:∀w',Ext [] w0 w'→Qdo w') (hW:∀w',Ext [] w0 w'→Qgx w') (hp:p.length≤1125899906842624) (hq:q.length≤1125899906842624) (hev:every≤9223372036854775807):
  Calls Tryz.prog 21 #[sv p,sv q,.int .i64 fuel,.int .i64 every] w0 (QvA w0 (QtV p q fuel every)):=by
 have hS:=St.start w0
 have hpn:=QjV Q0 p
 have hpl:=QmP Q0 p
 have hqn:=Qlc q
 refine QeP Tryz.func21 rfl Tryz.ntmps21 rfl ?_
 refine Zc8 ?_
 refine ZN ?_
 refine Calls.mono (QqA Q0 Qdo QvZ QvY QvX p _ hG hp hS) ?_
 rintro _ w3 ⟨v1,rfl,hS'⟩
 refine Za ?_
 replace hS:=hS'
 clear hS'
 obtain ⟨pA,pc,X,rfl,hX,hXr⟩:=(hS.fact (.head _)).locate
 replace hS:=hS.learn (φ:=Qsh X pA pc) fun w2 hx=>hXr w2 fun k _ hk=>hx.block k hk Yd
 by_cases h1:(QC Q0 p).2=0
 case neg=>
  have e:QtV p q fuel every=([],(QC Q0 p).2):=by unfold QtV;rw [if_pos h1]
  rw [e]
  refine ZcM ?_
  refine ZcR ?_
  refine Zp ?_
  refine Zd7 ?_
  exact ⟨none,0,rfl,Qz.nil_ _ _ _,hS.ext.below⟩
 obtain ⟨hpB,hpbr⟩:=Qo7 h1
 refine ZcM ?_
 refine Zr ?_
 refine ZN ?_
 refine Calls.mono (Qut Q0 Qdo QvZ QvY QvX q _ hG hq hS) ?_
 rintro _ w4 ⟨v2,rfl,hS'⟩
 refine Za ?_
 replace hS:=hS'
 clear hS'
 obtain ⟨qA,qc,Y,rfl,hY,hYr⟩:=(hS.fact (.head _)).locate
 replace hS:=hS.learn (φ:=ArA qA qc Y) fun w2 hx=>hYr w2 fun k _ hk=>hx.block k hk Yd
 by_cases h2:(Q7 Q0 q).2.2=0
 case neg=>
  have e:QtV p q fuel every=([],(Q7 Q0 q).2.2):=by unfold QtV;rw [if_neg (fun h=>h h1),if_pos h2]
  rw [e]
  refine Zaj ?_
  refine ZK ?_
  refine Zb6 ?_
  refine ZcR ?_
  refine Zp ?_
  refine Zd7 ?_
  exact ⟨none,0,rfl,Qz.nil_ _ _ _,hS.ext.below⟩
 obtain ⟨hqB,hqbr,hql⟩:=QsO h2
 have hask:QtV p q fuel every=if every<0 then ([],2)
   else if (Qg1 (QC Q0 p).1 (Q7 Q0 q).1 ((Q7 Q0 q).2.1:Nat) fuel).2≠0 then ([],(Qg1 (QC Q0 p).1 (Q7 Q0 q).1 ((Q7 Q0 q).2.1:Nat) fuel).2)
   else ((Qg1 (QC Q0 p).1 (Q7 Q0 q).1 ((Q7 Q0 q).2.1:Nat) fuel).1.map Qre,0):=by
  unfold QtV;rw [if_neg (fun h=>h h1),if_neg (fun h=>h h2)]
 rw [hask]
 clear hask
 have hevs:=QpG (vars:=((Q7 Q0 q).2.1:Nat)) (fuel:=fuel) hpbr hqbr
 have hfew:=QuT (P:=(QC Q0 p).1) (q:=(Q7 Q0 q).1) (vars:=((Q7 Q0 q).2.1:Nat)) (fuel:=fuel)
 generalize (Q7 Q0 q).2.1=vn at*
 rw [←hX] at hpn hpl hpB hevs hfew⊢
 rw [←hY] at hqn hqB hevs hfew⊢
 have hall:=Qo2 X pA pc Y qA qc (vn:Nat) fuel every _ Und.head.tail.tail Und.head (by simp at hpl;omega) (fun c hc=>by
  obtain ⟨a1,a2⟩:=Qda c.hd (by have:=(hpn c hc).1;omega)
  obtain ⟨b1,b2⟩:=Qda c.bd (by have:=(hpn c hc).2;omega)
  exact ⟨a1,a2,b1,b2⟩) (by rw [←TA.len_ts];exact (Qda _ Ya).1) (Qda _ Ya).2 hev hS
 refine Zaj ?_
 refine ZK ?_
 refine Zb6 ?_
 refine Zr ?_
 refine Zv ?_
 refine ZE ?_
 refine Zg ?_
 refine ZeI ?_
 refine Calls.mono (hall) ?_
 rintro _ w5 ⟨A5,c5,L,F5,rfl,hL,hF5,hK,hS'⟩
 refine Za ?_
 replace hS:=hS'
 clear hS'
 by_cases h3:every<0
 ·have e:(Qsk (X.map LC.cl) Y.ts (vn:Nat) fuel every).2=2:=by rw [Qtt _ _ _ _ _ h3,if_neg (by rw [hpB,hqB];simp)]
  rw [if_pos h3,e]
  refine ZcM ?_
  refine ZcR ?_
  refine Zp ?_
  refine Zd7 ?_
  exact ⟨none,0,rfl,Qz.nil_ _ _ _,hS.ext.below⟩
 rw [if_neg h3]
 rw [QuX _ _ _ _ _ Ya] at hL⊢
 by_cases h4:(Qg1 (X.map LC.cl) Y.ts (vn:Nat) fuel).2=0
 case neg=>
  rw [if_pos h4]
  refine ZcM ?_
  refine ZcR ?_
  refine Zp ?_
  refine Zd7 ?_
  exact ⟨none,0,rfl,Qz.nil_ _ _ _,hS.ext.below⟩
 rw [if_neg (fun h=>h h4),h4]
 have hLl:L.length≤13:=by have:=congrArg List.length hL;rw [List.length_map] at this;omega
 have hmap:(Qg1 (X.map LC.cl) Y.ts (vn:Nat) fuel).1.map Qre=L.map fun x=>QaI x.k x.T.ts:=by rw [←hL,List.map_map];rfl
 have hx:∀x∈L,x.T.ts.nodes≤200∧rng x.T.ts∧(QaI x.k x.T.ts).length≤1000000:=fun x hx=>by
  have:=hevs x.ev (by rw [←hL];exact List.mem_map.2 ⟨x,hx,rfl⟩)
  exact ⟨this.1,this.2.1,this.2.2.2⟩
 rw [hmap]
 refine ZcM ?_
 refine Zr ?_
 refine Zl ?_
 refine ZL ?_
 refine Qcp (k:=L.length) (bts:=16) (z:= .string ⟨#[]⟩) hS Yb Yb rfl rfl rfl rfl Ya Ya rfl ?_
 clear hS
 intro zb w6 hS
 refine ZbO ?_
 refine Qo 52 (53::54::55::56::17::16::57::58::59::60::61::62::[]) (fun (R:List KE) v w'=>∃D,L=D++R∧v= .int .i64 (D.length:Nat)∧St [] w0 ((zb,.cells (D.map (fun x=>sv (QaI x.k x.T.ts))++R.map (fun _=>Value.string ⟨#[]⟩)).toArray 9)::[]) F5 w') (fun R=>R.length) (L) ?_ Yb ?_
 ·exact ⟨[],rfl,rfl,by simpa [List.map_const'] using hS⟩
 clear hS
 rintro R _ w7 jv ⟨D,hD,rfl,hS⟩ ih
 have hlD:L.length=D.length+R.length:=by rw [hD];simp
 cases R with
 |nil=>
  rw [List.append_nil] at hD
  subst hD
  simp only [List.length_nil] at hlD
  simp only [List.map_nil,List.append_nil] at hS
  refine ZC ?_
  refine Zl ?_
  refine Zp ?_
  refine Zd7 ?_
  have hown:=hS.own (zb,_) (.head _)
  refine ⟨some ⟨zb,0,none⟩,L.length,by simp,?_,hS.ext.below⟩
  have:=Qz.own (xs:=(L.map fun x=>QaI x.k x.T.ts).map sv) (sp:=[]) (sz:=1) (len:=L.length) (cap:=L.length) (b:=zb) (el:=9) (w:=w7) (by rw [List.append_nil,List.map_map];exact hown) Yd (Nat.le_refl _)
  simpa using this
 |cons x R=>
  simp only [List.length_cons] at hlD
  obtain ⟨hx1,hx2,hx3⟩:=hx x (by rw [hD];simp)
  have hKw:=hS.und hK
  rw [hD] at hKw
  obtain ⟨b6,o6,rfl⟩:=hKw.some_ Yh
  obtain ⟨q0,q1⟩:=hKw.cells
  have hAr:Und F5 (ArA x.A x.c x.T):=hK.imp fun w h=>h.2.2 x (by rw [hD];simp)
  have hput:Put (D.map (fun x=>sv (QaI x.k x.T.ts))++(x::R).map (fun _=>Value.string ⟨#[]⟩)) D.length (sv (QaI x.k x.T.ts)) ((D++[x]).map (fun x=>sv (QaI x.k x.T.ts))++R.map (fun _=>Value.string ⟨#[]⟩)):=by
   have:=Qqz (v:=sv (QaI x.k x.T.ts)) (u:=Value.string ⟨#[]⟩) (R:=R.map (fun _=>Value.string ⟨#[]⟩)) (D.map (fun x=>sv (QaI x.k x.T.ts)))
   simpa using this
  refine ZaP ?_
  refine Zeo ?_
  refine Zab ?_
  refine ZaX ?_
  clear hS
  intro b1 wx1 hS
  refine Zbp ?_
  clear hS
  intro wx2 hS
  refine Zb ?_
  refine Z7 ?_
  refine Zab ?_
  refine Zj ?_
  refine Calls.mono (Qn6 x.k x.T.ts _ _ (fun w' h=>hG w' (hS.ext.trans h)) (fun w' h=>hW w' (hS.ext.trans h)) (hS.und hAr).sl hx2 Ya Ya) ?_
  rintro _ w8 ⟨rfl,hb8⟩
  refine Za ?_
  replace hS:=hS.grow hb8
  refine ZA ?_
  refine ZcY ?_
  clear hS
  intro w9 hS
  refine Zao ?_
  refine ih (R) _ _ _ ?_ ?_ Yb Yc
  ·simp
  ·exact ⟨D++[x],by rw [hD];simp,by simp,hS.drop⟩
def QvL:Str:=[112,40,52,41,46]
def QvK:Str:=[112,40,88,41,46]
theorem QrR:QtV QvL QvK 9 0=([[121,101,115,32,48,61,52],[100,111,110,101]],0):=by kernel_rfl
theorem QpI (w:World) (hG:∀w',Ext [] w w'→Qdo w') (hW:∀w',Ext [] w w'→Qgx w'):Calls Tryz.prog 20 #[] w fun e w'=>e= .returned (.bool true)∧Below w.heap.size w w':=by
 have hS:=St.start w
 have h:Calls Tryz.prog 21 #[sv QvL,sv QvK,.int .i64 9,.int .i64 0] w fun e w'=>∃(A:Option Addr) (c:Nat),e= .returned (.tuple #[.slice A 2 c,.int .i64 0])∧Qz 1 [sv [121,101,115,32,48,61,52],sv [100,111,110,101]] A 2 c w'∧Below w.heap.size w w':=by
  have h:=QuU QvL QvK 9 0 w hG hW Yg Yg Yg
  rw [QrR] at h
  exact h
 refine Qnb Tryz.func20 rfl Tryz.ntmps20 rfl ?_
 refine Zk ?_
 refine Zf ?_
 refine Zgy ?_
 refine Calls.mono (h) ?_
 rintro _ w1 ⟨A,c,rfl,hf,hb⟩
 refine Za ?_
 replace hS:=hS.grow hb
 obtain ⟨b5,o5,rfl⟩:=hf.some_ Yg
 have q0:=hf.get (j:=0) (v:=sv [121,101,115,32,48,61,52]) rfl
 have q1:=hf.get (j:=1) (v:=sv [100,111,110,101]) rfl
 have e0:(⟨([121,101,115,32,48,61,52]:Str).toArray⟩:ByteArray)=⟨#[121,101,115,32,48,61,52]⟩:=rfl
 have e1:(⟨([100,111,110,101]:Str).toArray⟩:ByteArray)=⟨#[100,111,110,101]⟩:=rfl
 refine ZaE ?_
 refine Zp ?_
 refine Zl ?_
 refine Zn ?_
 refine Zar ?_
 refine Zec ?_
 refine Zn ?_
 refine Zcb ?_
 refine ZA ?_
 refine Zcr ?_
 refine ZaL ?_
 refine Zcb ?_
 refine ZA ?_
 refine Zcr ?_
 refine ZaL ?_
 refine ZI ?_
 refine Qc Tryz.func20 rfl Yb ?_
 exact ⟨rfl,hS.ext.below⟩
end Go.Proofs.YthliapbflkfdiacGreatDoor
