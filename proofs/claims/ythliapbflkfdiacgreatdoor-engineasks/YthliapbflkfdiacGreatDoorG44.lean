/- ERef2, Open, OpenC, ERow, ERowW: texts that follow one another, laid into one file. -/
import Derived.Test.YthliapbflkfdiacGreatDoorZ0
import Derived.Test.YthliapbflkfdiacGreatDoorG19
import Derived.Test.YthliapbflkfdiacGreatDoorG42
import Derived.Test.YthliapbflkfdiacGreatDoorG18
import Derived.Test.YthliapbflkfdiacGreatDoorG43
import Derived.Test.YthliapbflkfdiacGreatDoorG1
import Derived.Test.YthliapbflkfdiacGreatDoorRows
import Derived.Deep.Slices
import Derived.Deep.Fields
import Derived.JoinedCond
import Derived.OpenShut
import Derived.Test.YthliapbflkfdiacGreatDoorG4
import Derived.Test.YthliapbflkfdiacGreatDoorG21
import Derived.Test.YthliapbflkfdiacGreatDoorCards
import Derived.Test.YthliapbflkfdiacGreatDoorTie
import Derived.Deep.DeepHandedRow
import Derived.Lib.LaidTab
import Derived.LaidSub
import Derived.Stop.LaidErr
namespace Go.Proofs.YthliapbflkfdiacGreatDoor
open Go.RowKit Go.Shelf
set_option linter.unusedVariables false
set_option linter.unusedSimpArgs false
set_option maxRecDepth 100000
set_option maxHeartbeats 1000000
theorem Qn6:∀L:List Cl,(∀c∈L,c.hd.nodes≤2000∧c.bd.nodes≤2000)→QcG L≤L.length*4010
 |[],_=>by simp [QcG]
 |c::r,h=>by
  have h1:=Qn6 r fun c hc=>h c (.tail _ hc)
  have h2:=h c (.head _)
  simp only [QcG,Cl.nodes,List.length_cons]
  omega
theorem QvE (p q:Str) (fuel every:Int) (w0:World) (hp:p.length≤1125899906842624) (hq:q.length≤1125899906842624):
  Calls Tryz.prog 27 #[sv p,sv q,.int .i64 fuel,.int .i64 every] w0 (Qx5 w0 (QiU p q fuel every)):=by
 have hS:=St.start w0
 have hpn:=QgI QX p
 have hpl:=QjO QX p
 have hqn:=Qib q
 have hrp:∀{H:List (Nat×Obj)} {F:List (World→Prop)} (w':World),St [] w0 H F w'→Calls Tryz.prog 47 #[sv p] w' fun e w''=>∃v,e= .returned (.tuple #[v,.int .i64 (QC QX p).2])∧St [] w0 H ((fun w=>SlC w (fun _=>True) v (QC QX p).1)::F) w'':=by
  intro H F w' h
  have:=QjJ p w' hp h
  rw [←QjN] at this
  exact this
 have hrq:∀{H:List (Nat×Obj)} {F:List (World→Prop)} (w':World),St [] w0 H F w'→Calls Tryz.prog 48 #[sv q] w' fun e w''=>∃v,e= .returned (.tuple #[v,.int .i64 ((QM QX q).2.1:Nat),.int .i64 (QM QX q).2.2])∧St [] w0 H ((fun w=>Sl w (fun _=>True) v (QM QX q).1)::F) w'':=by
  intro H F w' h
  have:=Qmi q w' hq h
  rw [←QjL] at this
  exact this
 refine Qcq Tryz.func27 rfl Tryz.ntmps27 rfl ?_
 refine Zaa ?_
 refine ZG ?_
 refine Calls.mono (hrp _ hS) ?_
 rintro _ w3 ⟨v1,rfl,hS'⟩
 refine Za ?_
 replace hS:=hS'
 clear hS'
 obtain ⟨pA,pc,X,rfl,hX,hXr⟩:=(hS.fact (.head _)).locate
 replace hS:=hS.learn (φ:=Qit X pA pc) fun w2 hx=>hXr w2 fun k _ hk=>hx.block k hk Yd
 by_cases h1:(QC QX p).2=0
 case neg=>
  have e:QiU p q fuel every=([],(QC QX p).2):=by unfold QiU;rw [if_pos h1]
  rw [e]
  refine Zgp ?_
  refine Zg0 ?_
  exact ⟨none,0,rfl,QG.nil_ _ _ _,hS.ext.below⟩
 obtain ⟨hpB,hpbr⟩:=Qlq h1
 refine Zeh ?_
 refine Zo ?_
 refine ZG ?_
 refine Calls.mono (hrq _ hS) ?_
 rintro _ w4 ⟨v2,rfl,hS'⟩
 refine Za ?_
 replace hS:=hS'
 clear hS'
 obtain ⟨qA,qc,Y,rfl,hY,hYr⟩:=(hS.fact (.head _)).locate
 replace hS:=hS.learn (φ:=ArA qA qc Y) fun w2 hx=>hYr w2 fun k _ hk=>hx.block k hk Yd
 by_cases h2:(QM QX q).2.2=0
 case neg=>
  have e:QiU p q fuel every=([],(QM QX q).2.2):=by unfold QiU;rw [if_neg (fun h=>h h1),if_pos h2]
  rw [e]
  refine Zcc ?_
  refine Zbs ?_
  refine Zi5 ?_
  refine Zg0 ?_
  exact ⟨none,0,rfl,QG.nil_ _ _ _,hS.ext.below⟩
 obtain ⟨hqB,hqbr,hql⟩:=QqY h2
 have hask:QiU p q fuel every=if every<0 then ([],2)
   else if (QdU (QC QX p).1 (QM QX q).1 ((QM QX q).2.1:Nat) fuel).2≠0 then ([],(QdU (QC QX p).1 (QM QX q).1 ((QM QX q).2.1:Nat) fuel).2)
   else ((QdU (QC QX p).1 (QM QX q).1 ((QM QX q).2.1:Nat) fuel).1.map QpP,0):=by
  unfold QiU;rw [if_neg (fun h=>h h1),if_neg (fun h=>h h2)]
 rw [hask]
 clear hask hrp hrq
 have hevs:=QlW (vars:=((QM QX q).2.1:Nat)) (fuel:=fuel) hpbr hqbr
 have hfew:=Qqe (P:=(QC QX p).1) (q:=(QM QX q).1) (vars:=((QM QX q).2.1:Nat)) (fuel:=fuel)
 generalize (QM QX q).2.1=vn at*
 rw [←hX] at hpn hpl hpB hevs hfew⊢
 rw [←hY] at hqn hqB hevs hfew⊢
 have hnc:=Qn6 _ hpn
 have hall:=Qyt X pA pc Y qA qc (vn:Nat) fuel every _ Und.head.tail.tail Und.head Ya Ya hS
 refine Zcc ?_
 refine Zbs ?_
 refine Zo ?_
 refine Zdm ?_
 refine Zf ?_
 refine ZgU ?_
 refine Calls.mono (hall) ?_
 rintro _ w5 ⟨A5,c5,L,F5,rfl,hL,hF5,hK,hS'⟩
 refine Za ?_
 replace hS:=hS'
 clear hS'
 by_cases h3:every<0
 ·have e:(Qpa (X.map LC.cl) Y.ts (vn:Nat) fuel every).2=2:=by rw [QiX _ _ _ _ _ h3,if_neg (by rw [hpB,hqB];simp)]
  rw [if_pos h3,e]
  refine Zgp ?_
  refine Zg0 ?_
  exact ⟨none,0,rfl,QG.nil_ _ _ _,hS.ext.below⟩
 rw [if_neg h3]
 rw [QmZ _ _ _ _ _ Ya] at hL⊢
 by_cases h4:(QdU (X.map LC.cl) Y.ts (vn:Nat) fuel).2=0
 case neg=>
  rw [if_pos h4]
  refine Zgp ?_
  refine Zg0 ?_
  exact ⟨none,0,rfl,QG.nil_ _ _ _,hS.ext.below⟩
 rw [if_neg (fun h=>h h4),h4]
 have hLl:L.length≤13:=by have:=congrArg List.length hL;rw [List.length_map] at this;omega
 have hmap:(QdU (X.map LC.cl) Y.ts (vn:Nat) fuel).1.map QpP=L.map fun x=>Qbh x.k x.T.ts:=by rw [←hL,List.map_map];rfl
 have hx:∀x∈L,x.T.ts.nodes≤200∧rng x.T.ts∧(Qbh x.k x.T.ts).length≤1000000:=fun x hx=>by
  have:=hevs x.ev (by rw [←hL];exact List.mem_map.2 ⟨x,hx,rfl⟩)
  exact ⟨this.1,this.2.1,this.2.2.2⟩
 rw [hmap]
 refine Zeh ?_
 refine Zo ?_
 refine Zeo ?_
 refine Qx 49 15 (50::51::52::17::53::54::55::56::57::58::[]) (fun (R:List KE) v u w'=>∃(D:List KE) (A6:Option Addr) (c6:Nat) (O:List (Nat×Obj)),L=D++R∧v= .int .i64 (D.length:Nat)∧u= .slice A6 D.length c6∧Row 9 1 (.slice A6 D.length c6) D.length (D.map fun x=>sv (Qbh x.k x.T.ts)) O∧St [] w0 (O++[]) F5 w') (fun R=>R.length) (L) ?_ Yb Yb ?_
 ·exact ⟨[],none,0,[],rfl,rfl,rfl,Row.nil_,hS⟩
 clear hS
 rintro R _ _ w7 jv ⟨D,A6,c6,O,hD,rfl,rfl,hrow,hS⟩ ih
 have hlD:L.length=D.length+R.length:=by rw [hD];simp
 cases R with
 |nil=>
  rw [List.append_nil] at hD
  subst hD
  simp only [List.length_nil] at hlD
  refine ZJ ?_
  refine Zee ?_
  refine Zg0 ?_
  obtain ⟨F8,g1,g2,g3⟩:=St.freezeRow hrow hS
  refine ⟨A6,c6,by simp,?_,g3.ext.below⟩
  have:=g3.und g2
  have e:(L.map fun x=>sv (Qbh x.k x.T.ts))=(L.map fun x=>Qbh x.k x.T.ts).map sv:=by rw [List.map_map];rfl
  rw [e] at this
  simpa using this
 |cons x R=>
  simp only [List.length_cons] at hlD
  obtain ⟨hx1,hx2,hx3⟩:=hx x (by rw [hD];simp)
  have hKw:=hS.und hK
  rw [hD] at hKw
  obtain ⟨b6,o6,rfl⟩:=hKw.some_ Yg
  obtain ⟨q0,q1⟩:=hKw.cells
  have hAr:Und F5 (ArA x.A x.c x.T):=hK.imp fun w h=>h.2.2 x (by rw [hD];simp)
  refine ZbY ?_
  refine Zgx ?_
  refine Zau ?_
  refine ZbA ?_
  clear hS
  intro b1 wx1 hS
  refine Zc ?_
  clear hS
  intro wx2 hS
  refine Zb3 ?_
  refine Zau ?_
  refine Zj ?_
  refine Calls.mono (QsI x.k x.T.ts _ _ (hS.und hAr).sl hx2 Ya Ya) ?_
  rintro _ w8 ⟨rfl,hb8⟩
  refine Za ?_
  replace hS:=hS.grow hb8
  refine ZaC ?_
  clear hS
  intro b2 wx3 hS
  refine Qar (sz:=1) (bts:=16) hS Yb rfl rfl rfl rfl (hrow) rfl rfl (List.Perm.cons _ (List.perm_append_comm_assoc [_] O [])) Ya Ya rfl ?_
  clear hS
  intro v9 O9 w9 hrow9 hS
  obtain ⟨A9,c9,rfl⟩:=hrow9.form
  replace hS:=(hS.perm (List.perm_append_comm_assoc O9 [_] [])).drop
  refine Zax ?_
  refine ih (R) _ _ _ _ ?_ ?_ Yb Yb Yc
  ·simp
  ·exact ⟨D++[x],A9,c9,O9,by rw [hD];simp,by simp,by simp,by simpa using hrow9,hS⟩
theorem QkK (p q:Str) (fuel every:Int) (w:World) (hG:∀w',Ext [] w w'→QeB w') (hW:∀w',Ext [] w w'→Qhi w') (hp:p.length≤1125899906842624) (hq:q.length≤1125899906842624) (hev:every≤9223372036854775807):
  Calls Tryz.prog 11 #[sv p,sv q,.int .i64 fuel,.int .i64 every] w fun e w'=>e= .returned (.bool true)∧Below w.heap.size w w':=by
 have hS:=St.start w
 have hfew:=Qxj p q fuel every
 have hal:=fun {H:List (Nat×Obj)} {F:List (World→Prop)} (w':World) (hS:St [] w H F w')=>Qs9 w' (fun w' h=>hG w' (hS.ext.trans h)) (fun w' h=>hW w' (hS.ext.trans h))
 have hask:∀{F:List (World→Prop)} (w':World),St [] w [] F w'→Calls Tryz.prog 27 #[sv p,sv q,.int .i64 fuel,.int .i64 every] w' fun e w''=>∃(A:Option Addr) (c:Nat),e= .returned (.tuple #[.slice A (QiU p q fuel every).1.length c,.int .i64 (QiU p q fuel every).2])∧St [] w [] (Qcg (QiU p q fuel every).1 A c::F) w'':=fun w' hS=>by
  refine (QvE p q fuel every w' hp hq).mono ?_
  rintro e w'' ⟨A,c,he,hf,hb⟩
  exact ⟨A,c,he,(hS.grow hb).learn fun w2 hx=>QG.ext hf hx⟩
 refine Qcq Tryz.func11 rfl Tryz.ntmps11 rfl ?_
 refine Zg ?_
 refine Zdm ?_
 refine ZgY ?_
 refine Calls.mono (Qzq p q fuel every hG hW hp hq hev hS) ?_
 rintro _ w3 ⟨A1,c1,rfl,hS'⟩
 refine Za ?_
 replace hS:=hS'
 clear hS'
 refine Zbq ?_
 refine Zdm ?_
 refine ZgY ?_
 refine Calls.mono (hask _ hS) ?_
 rintro _ w4 ⟨A2,c2,rfl,hS'⟩
 refine Za ?_
 replace hS:=hS'
 clear hS'
 generalize (QiU p q fuel every)=r at*
 have hR1:Und [Qcg r.1 A2 c2,Qcg r.1 A1 c1] (Qcg r.1 A1 c1):=Und.head.tail
 have hR2:Und [Qcg r.1 A2 c2,Qcg r.1 A1 c1] (Qcg r.1 A2 c2):=Und.head
 refine Zbq ?_
 refine ZT ?_
 refine Zz ?_
 refine ZN ?_
 refine ZS ?_
 refine ZH ?_
 refine ZbK ?_
 refine Zz ?_
 refine Zbz ?_
 refine QcH (Qfq Yc QmX) rfl ?_
 refine Calls.mono (hal _ hS) ?_
 rintro _ w5 ⟨rfl,hb5⟩
 refine Za ?_
 replace hS:=hS.grow hb5
 refine Zbm ?_
 refine ZF ?_
 refine ZX ?_
 refine Qp 46 (47::48::13::49::50::51::52::53::54::55::56::57::8::58::[]) (fun (R:List Str) v w'=>∃D,r.1=D++R∧v= .int .i64 (D.length:Nat)∧St [] w [] [Qcg r.1 A2 c2,Qcg r.1 A1 c1] w') (fun R=>R.length) (r.1) ?_ Yb ?_
 ·exact ⟨[],rfl,rfl,hS⟩
 clear hS
 rintro R _ w8 jv ⟨D,hD,rfl,hS⟩ ih
 have hlD:r.1.length=D.length+R.length:=by rw [hD];simp
 cases R with
 |nil=>
  simp only [List.length_nil] at hlD
  refine Zdw ?_
  refine Qd Tryz.func11 rfl Yb ?_
  exact ⟨rfl,hS.ext.below⟩
 |cons x R=>
  simp only [List.length_cons] at hlD
  have h1:Qcg (D++x::R) A1 c1 w8:=by rw [←hD];exact hS.und hR1
  have h2:Qcg (D++x::R) A2 c2 w8:=by rw [←hD];exact hS.und hR2
  obtain ⟨b7,o7,rfl⟩:=h1.some_ Yg
  obtain ⟨b8,o8,rfl⟩:=h2.some_ Yg
  have hq1:∀w',St [] w [] [Qcg r.1 (some ⟨b8,o8,none⟩) c2,Qcg r.1 (some ⟨b7,o7,none⟩) c1] w'→w'.cell? ⟨b7,o7+((D.length:Nat):Int).toNat*1,none⟩=some (sv x):=fun w' hS=>by
   have:=hS.und hR1;rw [hD] at this;exact this.at_
  have hq2:∀w',St [] w [] [Qcg r.1 (some ⟨b8,o8,none⟩) c2,Qcg r.1 (some ⟨b7,o7,none⟩) c1] w'→w'.cell? ⟨b8,o8+((D.length:Nat):Int).toNat*1,none⟩=some (sv x):=fun w' hS=>by
   have:=hS.und hR2;rw [hD] at this;exact this.at_
  have e0:(⟨x.toArray⟩:ByteArray)=⟨x.toArray⟩:=rfl
  refine Zbd ?_
  refine Zp ?_
  refine Zd1 ?_
  replace hS:=hS.drew
  refine ZaB ?_
  refine Ze9 ?_
  refine Zkl ?_
  refine ZaB ?_
  refine Ze9 ?_
  refine Zkl ?_
  first
   |refine Qe rfl (fun _ hS=>Qk6 rfl rfl Ye) rfl ?_
   |refine Qe rfl (fun _ hS=>Qk7 rfl rfl Ye) rfl ?_
   |refine Qe rfl (fun _ hS=>Qjs rfl rfl) rfl ?_
   |refine Qe rfl (fun _ hS=>rfl) rfl ?_
  refine Zfs ?_
  refine Z9 ?_
  refine ih (R) _ _ _ ?_ ?_ Yb Yc
  ·simp
  ·exact ⟨D++[x],by rw [hD];simp,by simp,hS⟩
open Go.ChangeShapes Go.WideShapes Go.ChangeAt
theorem Tryz.laidOut:laidOutB Tryz.prog=true:=by kernel_rfl
theorem Tryz.own:ownKnob Tryz.prog.godebug=none:=by kernel_rfl
section
variable {H:Type} {enc:TypeId×Value→H} {w:World} {base:Nat} {spare:Nat→Bool} {held:Bool}
end
theorem Qgy {H:Type} {enc:TypeId×Value→H} {P:Program} (hl:laidOutB P=true) {W W':World} (hb:Below W.heap.size W W'):∀{ts:List TypeId} {vs:List Value} {ds:List (DataW H)} {ps:List MemPlace},(∀t∈ts,P.readableRec t=true∧t<P.types.size)→
  DataW.TrodAll enc P W 0 (fun _=>true) true ts vs ds ps→(∀x∈ps,x.block<W.heap.size)→DataW.TrodAll enc P W' 0 (fun b=>decide (b<W.heap.size)) true ts vs ds ps
 |[],[],[],_,_,h,_=>h
 |[],[],_::_,_,_,h,_=>h.elim
 |[],_::_,_,_,_,h,_=>h.elim
 |_::_,[],_,_,_,h,_=>h.elim
 |_::_,_::_,[],_,_,h,_=>h.elim
 |t::ts,v::vs,d::ds,ps,ht,⟨p,q,h1,h2,e⟩,hlt=>by
  subst e
  obtain ⟨a,b⟩:=ht t (List.mem_cons_self ..)
  exact ⟨p,q,Below.trod hl a b h1 hb fun x hx=>hlt x (List.mem_append_left _ hx),Qgy hl hb (fun t ht'=>ht t (List.mem_cons_of_mem _ ht')) h2 fun x hx=>hlt x (List.mem_append_right _ hx),rfl⟩
theorem QwY {H:Type} {enc:TypeId×Value→H} {P:Program} {f:Func} {s:ChangeSpec} {W W':World} {args:Array Value} {ds gs:List (DataW H)} {before:List MemPlace} (hl:laidOutB P=true) {bt:TypeId}
  (hres:f.resultTypes= #[bt]) (hbt:P.underlying bt=some .bool) (ht:(f.params.toList.all fun t=>P.readableRec t&&decide (t<P.types.size))=true) (hvars:s.vars=[])
  (hfn:(s.fn H (ds++gs)).results=[.lit (.bool true)]∧(s.fn H (ds++gs)).args=ds∧(s.fn H (ds++gs)).vars=[])
  (hW:DataW.Whole enc P f.params.toList s.vars false W args.toList ds gs before) (hb:Below W.heap.size W W'):
  s.post enc P f false true false false W args (.bool true) W':=by
 have hlt:=hW.lt
 have hW':=hW
 obtain ⟨p,q,hA,hV,rfl,hfz,hnd⟩:=hW
 refine ⟨ds,gs,p++q,[],p,[],hW',?_,?_,?_,?_,fun h=>by cases h⟩
 ·rw [hfn.1,hres]
  exact trodAll_cons_mk (shut_bool hbt _) trodAll_mk0
 ·rw [hfn.2.1]
  exact Qgy hl hb (fun t h=>by have:=List.all_eq_true.1 ht t h;simpa using this) hA fun x hx=>hlt x (List.mem_append_left _ hx)
 ·rw [hfn.2.2,hvars]
  rfl
 ·exact hb.frame _
section
variable {H:Type} {enc:TypeId×Value→H} {w:World} {base:Nat} {spare:Nat→Bool} {held:Bool}
end
theorem Qi9 {P:Program} {W W':World} {n:String} {cs:Array Value} (h:W.var? P n=some cs) (hb:Below W.heap.size W W'):W'.var? P n=some cs:=by
 unfold World.var? at h⊢
 cases hg:P.globalNamed n with
 |none=>simp [hg] at h
 |some g=>
  simp only [hg,Option.bind_some] at h⊢
  have hlt:g<W.heap.size:=by
   rcases Nat.lt_or_ge g W.heap.size with h'|h'
   ·exact h'
   ·simp [Array.getElem?_eq_none h'] at h
  rw [hb.block g hlt]
  exact h
theorem QeB.below {W W':World} (g:QeB W) (hb:Below W.heap.size W W'):QeB W':=by
 obtain ⟨⟨t1,p1,h1⟩,⟨t2,p2,h2⟩,h3⟩:=g
 exact ⟨⟨t1,p1,Qi9 h1 hb⟩,⟨t2,p2,Qi9 h2 hb⟩,Qi9 h3 hb⟩
theorem Qrx: "*" ++ "errors.errorString" = "*errors.errorString" :=by kernel_rfl
theorem Qvg:∀u,Tryz.prog.typeName? 3 u=some "*errors.errorString" →u=301:=
 fun u h=>typeName_ptr_named (nm:= "errors.errorString") (by rw [Qrx];kernel_rfl) Yc Yf u (by rw [Qrx];exact h)
theorem Qu9 {W:World} (h:laidMetH Tryz.prog Rows.topTermsRow.laid W):QeB W:=by
 have h0:=(laidMetH_iff.1 h).1
 have e:(Rows.topTermsRow.laid.filter fun x=>x.2.handleName?.isNone)=Rows.topTermsRow.laid:=by kernel_rfl
 rw [e] at h0
 have h3:laidMet Tryz.prog (("internal/strconv.uint64pow10",Lib.tabData .u64 Lib.pow10Tab)::_) W:=laidMet.tail (laidMet.tail h0)
 have h5:=laidMet.tail (laidMet.tail h3)
 have h6:=laidMet.tail h5
 refine ⟨?_,?_,Lib.tabIs_of_head (g:=2) (t:=273) (e:=257) (n:=20) Yc Yc Yc Yc Yc Yc h3⟩
 ·obtain ⟨a,s,hv,_⟩:=laid_sentinel (g:=5) (ti:=120) (tp:=301) (te:=303) (ts:=9) h6 Yc Yc Tryz.underlying120 Qvg Yc Tryz.underlying303 rfl rfl Yc Yc Yc
  exact ⟨_,_,hv⟩
 ·obtain ⟨a,s,hv,_⟩:=laid_sentinel (g:=6) (ti:=120) (tp:=301) (te:=303) (ts:=9) h5 Yc Yc Tryz.underlying120 Qvg Yc Tryz.underlying303 rfl rfl Yc Yc Yc
  exact ⟨_,_,hv⟩
theorem QmP {H:Type} {enc:TypeId×Value→H} {P:Program} {w:World} {base:Nat} {sp:Nat→Bool} {held:Bool} {fuel:Nat} {t e:TypeId} {n:Nat} {cs:List Value} {ss:List (List UInt8)} {p:List MemPlace}
  (ht:P.underlying t=some (.array n e)) (he:P.underlying e=some .string) (hce:P.cellsOf e=1) (hct:P.cellsOf t=n)
  (h:DataW.trod enc P w base sp held fuel t cs=some (.agg (ss.map fun s=>(DataW.lit (.string s):DataW H)),p)):cs=ss.map fun s=>Value.string ⟨s.toArray⟩:=by
 cases fuel with
 |zero=>simp [DataW.trod] at h
 |succ fuel=>
  simp only [DataW.trod,ht,hce,hct,Nat.mul_one] at h
  split at h
  ·rename_i hl
   obtain ⟨xs,hm,hx⟩:=Option.map_eq_some_iff.1 h
   have hxs:xs.map (·.1)=ss.map fun s=>(DataW.lit (.string s):DataW H):=by
    have:=congrArg Prod.fst hx
    simpa using this
   have hxl:xs.length=n:=by simpa using Lib.mapM_length hm
   have hzl:ss.length=n:=by
    have:=congrArg List.length hxs
    simp at this
    omega
   apply List.ext_getElem?
   intro i
   by_cases hi:i<n
   ·obtain ⟨b,hb,hf⟩:=Lib.mapM_at hm i i (by simp [hi])
    obtain ⟨z,hc,hbz,_⟩:=DataW.trod_string he hf
    subst hbz
    have h1:cs[i]?=some (.string z):=by
     have:=congrArg (·[0]?) hc
     simpa [List.getElem?_take,List.getElem?_drop] using this
    have h2:(xs.map (·.1))[i]?=some (DataW.lit (.string z.data.toList):DataW H):=by simp [hb]
    rw [hxs] at h2
    simp only [List.getElem?_map,Option.map_eq_some_iff,DataW.lit.injEq,Lit.string.injEq] at h2
    obtain ⟨z',hz',e2⟩:=h2
    subst e2
    simp [h1,hz']
   ·rw [List.getElem?_eq_none Ya,List.getElem?_eq_none Yg]
  ·cases h
def Qzb:List (List UInt8):=[[],[121,101,115],[100,111,110,101],[102,117,101,108],[108,97,114,103,101],[102,97,117,108,116],[101,110,111,117,103,104]]
theorem Qhi.below {W W':World} (g:Qhi W) (hb:Below W.heap.size W W'):Qhi W':=fun i hi=>by
 have h:=g i hi
 rw [hb.cell (Qvr h)];exact h
theorem QsM {W:World} (h:laidMetH Tryz.prog Rows.topTermsRow.laid W):Qhi W:=by
 have h0:=(laidMetH_iff.1 h).1
 have e:(Rows.topTermsRow.laid.filter fun x=>x.2.handleName?.isNone)=Rows.topTermsRow.laid:=by kernel_rfl
 rw [e] at h0
 have h6:=laidMet.tail (laidMet.tail (laidMet.tail (laidMet.tail (laidMet.tail (laidMet.tail h0)))))
 obtain ⟨ps,⟨g',t',cs,fuel,p,q,hg',ht',hvar,hd,_,_⟩,_⟩:=h6
 have hg:Tryz.prog.globalNamed "querist/engine.words" =some 0:=by kernel_rfl
 have hty:(Tryz.prog.globals[0]?).map (·.type)=some 69:=by kernel_rfl
 obtain rfl:=Option.some.inj (hg.symm.trans hg')
 obtain rfl:=Option.some.inj (hty.symm.trans ht')
 have hc:=QmP (n:=7) (e:=9) (ss:=Qzb) Yc Tryz.underlying9 Yc Yc hd
 intro i hi
 have:=World.var?_cell hg' hvar i
 rw [this]
 rw [←Array.getElem?_toList,hc]
 match i,hi with
 |0,_=>rfl
 |1,_=>rfl
 |2,_=>rfl
 |3,_=>rfl
 |4,_=>rfl
 |5,_=>rfl
 |6,_=>rfl
theorem QnZ {H:Type} {enc:TypeId×Value→H} {W:World} {base0:Nat} {v:Value} {d:DataW H} {p:List MemPlace} (hv:Value.okWide Tryz.prog W .any base0 9 v) (h:DataW.Trod enc Tryz.prog W 0 (fun _=>true) true 9 v d p):
  ∃l:Str,v=sv l∧d= .lit (.string l):=by
 obtain ⟨s,rfl⟩:=okWide_string Tryz.underlying9 hv
 obtain ⟨fuel,hf⟩:=h
 obtain ⟨s',hc,hx,_⟩:=DataW.trod_string Tryz.underlying9 hf
 have hs:s=s':=by simpa [Value.cells] using hc
 subst hs
 simp only [Prod.mk.injEq] at hx
 obtain ⟨rfl,_⟩:=hx
 exact ⟨s.data.toList,by cases s;simp [sv],rfl⟩
theorem Qn0 {H:Type} {enc:TypeId×Value→H} {W:World} {base0:Nat} {v:Value} {d:DataW H} {p:List MemPlace} (hv:Value.okWide Tryz.prog W .any base0 3 v) (h:DataW.Trod enc Tryz.prog W 0 (fun _=>true) true 3 v d p):
  ∃n:Int,v= .int .i64 n∧d= .lit (.int .i64 n)∧p=[]∧(-9223372036854775808≤n∧n≤9223372036854775807):=by
 obtain ⟨a,rfl,rfl,h3,h4⟩:=open_int Tryz.underlying3 hv h
 refine ⟨a,rfl,rfl,h3,?_⟩
 simp [Lit.wf,IntKind.min,IntKind.max,IntKind.bits,IntKind.signed] at h4
 omega
def QbS (cs:Array Value):Obj→Obj
 | .cells _ t frozen=> .cells cs t frozen
 |o=>o
def Qvs:DataW Unit→Value
 | .lit (.int k z)=> .int k z
 | .lit (.string s)=> .string ⟨s.toArray⟩
 |_=> .pointer none
def Qwq:DataW Unit→Array Value
 | .agg ds=>(ds.map Qvs).toArray
 |_=> #[]
def Qz4:ByteArray:=⟨#[105,110,118,97,108,105,100,32,115,121,110,116,97,120]⟩
def Qz6:ByteArray:=⟨#[118,97,108,117,101,32,111,117,116,32,111,102,32,114,97,110,103,101]⟩
noncomputable def Qz9:Nat:=(World.holding Tryz.prog default ⟨#[], #[],[]⟩).heap.size
noncomputable def QwZ (h:Array Obj):Array Obj:=
 ((((((((h.modify 3 (QbS (Go.Pinned.utf8FirstZ.map fun (x:Nat)=>Value.int .u8 (x:Int)).toArray)).modify 4 (QbS (([128,191,160,191,128,159,144,191,128,143]++List.replicate 22 (0:Int)).map fun x=>Value.int .u8 x).toArray)).modify 2 (QbS (Qwq Rows.laid_internal_strconv_uint64pow10))).modify 5
   (QbS #[.iface 301 (.pointer (some ⟨Qz9,0,none⟩))])).modify 6 (QbS #[.iface 301 (.pointer (some ⟨Qz9+1,0,none⟩))])).modify 7 (QbS (Qwq Rows.laid_math_bits_deBruijn32tab))).modify 8 (QbS (Qwq Rows.laid_math_bits_deBruijn64tab))).modify 0 (QbS (Qwq Rows.laid_querist_engine_words)))
noncomputable def QpT (os:Os):World:=
 { World.holding Tryz.prog os ⟨#[.cells #[.string Qz4] 303,.cells #[.string Qz6] 303], #[],[]⟩ with heap:=QwZ (World.holding Tryz.prog os ⟨#[.cells #[.string Qz4] 303,.cells #[.string Qz6] 303], #[],[]⟩).heap }
theorem QwL (os:Os):laidMet Tryz.prog Rows.topTermsRow.laid ((QpT os).forCall (fun _ _=>0) ⟨#[], #[.string .empty,.string .empty,.int .i64 0,.int .i64 0],[]⟩).memory:=
 laidMet_of_run' 8 Yc Yc
end Go.Proofs.YthliapbflkfdiacGreatDoor
