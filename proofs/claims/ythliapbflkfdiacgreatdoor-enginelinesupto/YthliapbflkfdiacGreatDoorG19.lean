/- RefP3, ERef1, EMem: texts that follow one another, laid into one file. -/
import Derived.Test.YthliapbflkfdiacGreatDoorZ0
import Derived.Test.YthliapbflkfdiacGreatDoorG18
import Derived.Test.YthliapbflkfdiacGreatDoorG14
import Derived.Test.YthliapbflkfdiacGreatDoorG9
import Derived.Test.YthliapbflkfdiacGreatDoorG7
import Derived.Test.YthliapbflkfdiacGreatDoorProg
namespace Go.Proofs.YthliapbflkfdiacGreatDoor
open Go.RowKit Go.Shelf
set_option linter.unusedVariables false
set_option linter.unusedSimpArgs false
set_option maxRecDepth 100000
set_option maxHeartbeats 1000000
theorem Qm0 (n:Int) (h0:0≤n) (h1:n≤25):(([65,66,67,68,69,70,71,72,73,74,75,76,77,78,79,80,81,82,83,84,85,86,87,88,89,90]:Str).take (n+1).toNat).drop n.toNat=QaG n:=by
 obtain ⟨m,rfl⟩:∃m:Nat,n=m:=⟨n.toNat,by omega⟩
 have hh:∀i:Fin 26,(([65,66,67,68,69,70,71,72,73,74,75,76,77,78,79,80,81,82,83,84,85,86,87,88,89,90]:Str).take (((i.val:Nat):Int)+1).toNat).drop ((i.val:Nat):Int).toNat=QaG (i.val:Nat):=by decide+kernel
 exact hh ⟨m,by omega⟩
def QoI (a : Ts) : Prop := ∀ (k n : Int) (s : ByteArray) (v : Value) (w : World), Sl w (fun _ => True) v a → (-9223372036854775808 ≤ n ∧ n ≤ 9223372036854775807) → rng a → a.nodes ≤ 1048576 → (ptM k n s.data.toList a).length ≤ 1073741824 →
    Calls Tryz.prog 38 #[.agg #[.int .i64 k,.int .i64 n,.string s,v]] w fun e w'=>e= .returned (sv (ptM k n s.data.toList a))∧Below w.heap.size w w'
theorem Qqr {D R:Ts} (h:rng (D.app R)):rng R:=by
 induction D with
 |nil=>exact h
 |cons k n s a r _ ih=>exact ih h.2.2
theorem Qgp (m:Nat) (ih0:∀T:Ts,T.nodes<m→QoI T) (a:Ts) (hm:a.nodes≤m):QoI a:=by
 intro k n s v w hv hn hr hN hl
 obtain ⟨l,rfl⟩:∃l:Str,s=⟨l.toArray⟩:=⟨s.data.toList,by cases s;simp⟩
 rw [Qf8] at hl⊢
 obtain ⟨A,c,rfl,hv⟩:=hv.form
 have hal:=a.length_le
 have hS:=St.start w
 refine Qe Tryz.func38 rfl Tryz.ntmps38 rfl ?_
 by_cases hk0:k=0
 ·subst hk0
  have hpt:ptM 0 n l a=QaG n:=by simp [ptM,Qah,QbO,QeQ]
  rw [hpt]
  by_cases hn0:n<0
  ·rw [show QaG n=[90,122] by unfold QaG;rw [if_pos (.inl hn0)]]
   refine Zd ?_
   clear hS
   intro b1 wx1 hS
   refine ZcH ?_
   refine Zcx ?_
   refine Zq ?_
   refine Zw ?_
   refine Zan ?_
   refine Zak ?_
   refine Zdl ?_
   refine ZbI ?_
   refine Zk ?_
   refine Zbx ?_
   exact ⟨rfl,hS.ext.below⟩
  by_cases hn1:25<n
  ·rw [show QaG n=[90,122] by unfold QaG;rw [if_pos (.inr hn1)]]
   refine Zd ?_
   clear hS
   intro b1 wx1 hS
   refine ZcH ?_
   refine Zcx ?_
   refine Zq ?_
   refine ZT ?_
   refine Zeb ?_
   refine ZF ?_
   refine Zdl ?_
   refine ZbI ?_
   refine Zk ?_
   refine Zbx ?_
   exact ⟨rfl,hS.ext.below⟩
  rw [←Qm0 n Ya Ya]
  refine Zd ?_
  clear hS
  intro b1 wx1 hS
  refine ZcH ?_
  refine Zcx ?_
  refine Zq ?_
  refine ZT ?_
  refine Zeb ?_
  refine ZF ?_
  refine Zdl ?_
  refine ZI ?_
  refine ZbK ?_
  refine Zy ?_
  refine Zea ?_
  refine Zcy ?_
  refine Zz ?_
  refine Zff ?_
  refine Zc ?_
  refine Zbx ?_
  exact ⟨rfl,hS.ext.below⟩
 by_cases hk2:k=2
 ·subst hk2
  have hpt:ptM 2 n l a=Lib.itoa n:=by simp [ptM,Qah,QbO,QeQ]
  rw [hpt]
  refine Zd ?_
  clear hS
  intro b1 wx1 hS
  refine ZcH ?_
  refine Z3 ?_
  refine ZcI ?_
  refine Zcl ?_
  refine Za4 ?_
  refine ZbK ?_
  refine ZbK ?_
  refine Zy ?_
  refine Zea ?_
  refine Zj ?_
  refine Calls.mono (Qia _ n (Nat.le_refl _) hn.1 hn.2 _) ?_
  rintro _ w1 ⟨rfl,rfl⟩
  refine ZJ ?_
  refine Zbx ?_
  exact ⟨rfl,hS.ext.below⟩
 by_cases hk1:k=1∨k=3
 case neg=>
  have hpt:ptM k n l a=[]:=by
   have h1:¬k=1:=fun h=>hk1 (.inl h)
   have h3:¬k=3:=fun h=>hk1 (.inr h)
   simp [ptM,Qah,QbO,QeQ,hk0,hk2,h1,h3]
  rw [hpt]
  have h1:¬k=1:=fun h=>hk1 (.inl h)
  have h3:¬k=3:=fun h=>hk1 (.inr h)
  refine Zd ?_
  clear hS
  intro b1 wx1 hS
  refine ZcH ?_
  refine Z3 ?_
  refine ZcI ?_
  refine Zcl ?_
  refine Za4 ?_
  refine ZbK ?_
  refine ZbK ?_
  refine Ze1 ?_
  refine Zdm ?_
  refine Zbl ?_
  refine ZD ?_
  refine ZbI ?_
  refine Zk ?_
  refine Zbx ?_
  exact ⟨rfl,hS.ext.below⟩
 have hpt:ptM k n l a=l++if 0<a.length then 40::(QcP false a++[41]) else []:=by
  have h1:QeQ k=true:=by rcases hk1 with rfl|rfl<;>rfl
  simp [ptM,Qah,QbO,h1,hk0,hk2,hk1]
 rcases hk1 with rfl|rfl
 ·skip
  refine Zd ?_
  clear hS
  intro b1 wx1 hS
  refine ZcH ?_
  refine Z3 ?_
  refine ZcI ?_
  refine Zcl ?_
  refine Za4 ?_
  refine ZbK ?_
  refine ZbK ?_
  refine Ze1 ?_
  refine ZD ?_
  refine Zan ?_
  refine Za4 ?_
  refine Zbm ?_
  refine Zf ?_
  refine Zbn ?_
  refine Zb3 ?_
  refine Z2 ?_
  refine Qaa 3 49 (50::51::52::5::53::54::55::56::57::58::[]) (fun (R:Ts) v u w'=>∃(D:Ts) (O:List (Nat×Obj)),a=D.app R∧u= .int .i64 (D.length:Nat)∧Row 9 1 v D.length ((QbN D).map sv) O∧St [] w ((b1,.cells #[.int .i64 1,.int .i64 n,sv l,.slice A a.length c] 63)::(O++[])) [] w') (fun R=>R.length) (a) ?_ Yb Yb ?_
  ·exact ⟨.nil,[],rfl,rfl,Row.nil_,hS⟩
  clear hS
  rintro R _ _ w2 jv ⟨D,O,hD,rfl,hrow,hS⟩ ih
  have hlD:a.length=D.length+R.length:=by rw [hD,Ts.length_app]
  obtain ⟨A2,c2,rfl⟩:=hrow.form
  cases R with
  |nil=>
   simp only [Ts.length] at hlD
   rw [Ts.app_nil] at hD
   subst hD
   have hpl:=Qlh a
   by_cases h0:a.length=0
   ·rw [if_neg Ya,List.append_nil] at hpt
    rw [hpt]
    refine ZC ?_
    refine ZaB ?_
    refine Zcd ?_
    refine Zx ?_
    refine ZcF ?_
    refine Zc ?_
    refine Zbx ?_
    exact ⟨rfl,hS.ext.below⟩
   ·rw [if_pos Ya] at hpt
    have hj:=Qjb a
    rw [hpt] at hl
    simp only [List.length_append,List.length_cons,List.length_nil] at hl
    have hrow':=hrow
    rw [←hpl] at hrow'
    have hja:∀w',St [] w ((b1,.cells #[.int .i64 1,.int .i64 n,sv l,.slice A a.length c] 63)::(O++[])) [] w'→Calls Tryz.prog 39 #[.slice A2 a.length c2,sv [44]] w' fun e w''=>e= .returned (sv (QcP false a))∧Below w'.heap.size w' w'':=fun w' h=>by
     have:=Qoe (QbN a) Ya hrow' Ya (by rw [hj];omega) h.sink
     rw [hj,hpl] at this
     exact this
    rw [hpt]
    refine ZC ?_
    refine ZaB ?_
    refine Zcd ?_
    refine ZW ?_
    refine ZfX ?_
    replace hS:=hS.drew
    refine Zdi ?_
    refine ZcU ?_
    refine ZO ?_
    refine ZcG ?_
    refine Calls.mono (hja _ hS) ?_
    rintro _ w3 ⟨rfl,hb3⟩
    refine Za ?_
    replace hS:=hS.grow hb3
    refine Za2 ?_
    refine ZcU ?_
    refine ZcU ?_
    refine Zc5 ?_
    refine Zbx ?_
    exact ⟨by simp,hS.ext.below⟩
  |cons k1 n1 s1 a1 R=>
   simp only [Ts.length] at hlD
   obtain ⟨b5,o5,rfl,hsq⟩:=Sl.at_ (D:=D) (R:= .cons k1 n1 s1 a1 R) (by rw [←hD];exact hv) (by simp [Ts.length])
   obtain ⟨_,p0,p1,p2,⟨v',p3,hsl⟩,_⟩:=Qaf.1 hsq
   obtain ⟨A6,c6,rfl,hsl⟩:=hsl.form
   have hrr:rng (.cons k1 n1 s1 a1 R):=Qqr (D:=D) (by rw [←hD];exact hr)
   have hnod:a.nodes=D.nodes+(Ts.cons k1 n1 s1 a1 R).nodes:=by rw [hD,Ts.nodes_app]
   simp only [Ts.nodes] at hnod
   have hle:=QqE (D:=D) (r:=R) (k:=k1) (n:=n1) (s:=s1) (a:=a1) false
   rw [←hD] at hle
   have hl2:=hl
   rw [hpt,if_pos Ya] at hl2
   simp only [List.length_append,List.length_cons,List.length_nil] at hl2
   have hic:∀w',Below w.heap.size w w'→_:=fun w' h=>ih0 a1 Ya k1 n1 s1 _ w' (hsl.below h) hrr.1 hrr.2.1 Ya Ya
   refine ZcJ ?_
   refine Za1 ?_
   refine ZS ?_
   clear hS
   intro b2 wx2 hS
   refine Ze ?_
   clear hS
   intro wx3 hS
   refine Zbk ?_
   refine Za1 ?_
   refine Zj ?_
   refine Calls.mono (hic _ hS.ext.below) ?_
   rintro _ w3 ⟨rfl,hb3⟩
   refine Za ?_
   replace hS:=hS.grow hb3
   refine Zam ?_
   clear hS
   intro b3 wx4 hS
   refine ZfY ?_
   clear hS
   intro v5 O5 w5 hR5 hS
   refine Zav ?_
   refine ih (R) _ _ _ _ ?_ ?_ Yb Yb Yc
   ·simp [Ts.length]
   ·refine ⟨D.app (.cons k1 n1 s1 a1 .nil),O5,by rw [Ts.app_assoc];exact hD,by rw [Ts.length_app];simp [Ts.length],?_,(hS.perm (List.perm_append_comm_assoc O5 [_,_] [])).drop⟩
    rw [Ts.length_app,Qli,List.map_append]
    exact hR5
 ·skip
  refine Zd ?_
  clear hS
  intro b1 wx1 hS
  refine ZcH ?_
  refine Z3 ?_
  refine ZcI ?_
  refine Zcl ?_
  refine Za4 ?_
  refine ZbK ?_
  refine ZbK ?_
  refine Ze1 ?_
  refine Zdm ?_
  refine Zbl ?_
  refine ZD ?_
  refine ZI ?_
  refine Zbm ?_
  refine Zf ?_
  refine Zbn ?_
  refine Zb3 ?_
  refine Z2 ?_
  refine Qaa 3 49 (50::51::52::5::53::54::55::56::57::58::[]) (fun (R:Ts) v u w'=>∃(D:Ts) (O:List (Nat×Obj)),a=D.app R∧u= .int .i64 (D.length:Nat)∧Row 9 1 v D.length ((QbN D).map sv) O∧St [] w ((b1,.cells #[.int .i64 3,.int .i64 n,sv l,.slice A a.length c] 63)::(O++[])) [] w') (fun R=>R.length) (a) ?_ Yb Yb ?_
  ·exact ⟨.nil,[],rfl,rfl,Row.nil_,hS⟩
  clear hS
  rintro R _ _ w2 jv ⟨D,O,hD,rfl,hrow,hS⟩ ih
  have hlD:a.length=D.length+R.length:=by rw [hD,Ts.length_app]
  obtain ⟨A2,c2,rfl⟩:=hrow.form
  cases R with
  |nil=>
   simp only [Ts.length] at hlD
   rw [Ts.app_nil] at hD
   subst hD
   have hpl:=Qlh a
   by_cases h0:a.length=0
   ·rw [if_neg Ya,List.append_nil] at hpt
    rw [hpt]
    refine ZC ?_
    refine ZaB ?_
    refine Zcd ?_
    refine Zx ?_
    refine ZcF ?_
    refine Zc ?_
    refine Zbx ?_
    exact ⟨rfl,hS.ext.below⟩
   ·rw [if_pos Ya] at hpt
    have hj:=Qjb a
    rw [hpt] at hl
    simp only [List.length_append,List.length_cons,List.length_nil] at hl
    have hrow':=hrow
    rw [←hpl] at hrow'
    have hja:∀w',St [] w ((b1,.cells #[.int .i64 3,.int .i64 n,sv l,.slice A a.length c] 63)::(O++[])) [] w'→Calls Tryz.prog 39 #[.slice A2 a.length c2,sv [44]] w' fun e w''=>e= .returned (sv (QcP false a))∧Below w'.heap.size w' w'':=fun w' h=>by
     have:=Qoe (QbN a) Ya hrow' Ya (by rw [hj];omega) h.sink
     rw [hj,hpl] at this
     exact this
    rw [hpt]
    refine ZC ?_
    refine ZaB ?_
    refine Zcd ?_
    refine ZW ?_
    refine ZfX ?_
    replace hS:=hS.drew
    refine Zdi ?_
    refine ZcU ?_
    refine ZO ?_
    refine ZcG ?_
    refine Calls.mono (hja _ hS) ?_
    rintro _ w3 ⟨rfl,hb3⟩
    refine Za ?_
    replace hS:=hS.grow hb3
    refine Za2 ?_
    refine ZcU ?_
    refine ZcU ?_
    refine Zc5 ?_
    refine Zbx ?_
    exact ⟨by simp,hS.ext.below⟩
  |cons k1 n1 s1 a1 R=>
   simp only [Ts.length] at hlD
   obtain ⟨b5,o5,rfl,hsq⟩:=Sl.at_ (D:=D) (R:= .cons k1 n1 s1 a1 R) (by rw [←hD];exact hv) (by simp [Ts.length])
   obtain ⟨_,p0,p1,p2,⟨v',p3,hsl⟩,_⟩:=Qaf.1 hsq
   obtain ⟨A6,c6,rfl,hsl⟩:=hsl.form
   have hrr:rng (.cons k1 n1 s1 a1 R):=Qqr (D:=D) (by rw [←hD];exact hr)
   have hnod:a.nodes=D.nodes+(Ts.cons k1 n1 s1 a1 R).nodes:=by rw [hD,Ts.nodes_app]
   simp only [Ts.nodes] at hnod
   have hle:=QqE (D:=D) (r:=R) (k:=k1) (n:=n1) (s:=s1) (a:=a1) false
   rw [←hD] at hle
   have hl2:=hl
   rw [hpt,if_pos Ya] at hl2
   simp only [List.length_append,List.length_cons,List.length_nil] at hl2
   have hic:∀w',Below w.heap.size w w'→_:=fun w' h=>ih0 a1 Ya k1 n1 s1 _ w' (hsl.below h) hrr.1 hrr.2.1 Ya Ya
   refine ZcJ ?_
   refine Za1 ?_
   refine ZS ?_
   clear hS
   intro b2 wx2 hS
   refine Ze ?_
   clear hS
   intro wx3 hS
   refine Zbk ?_
   refine Za1 ?_
   refine Zj ?_
   refine Calls.mono (hic _ hS.ext.below) ?_
   rintro _ w3 ⟨rfl,hb3⟩
   refine Za ?_
   replace hS:=hS.grow hb3
   refine Zam ?_
   clear hS
   intro b3 wx4 hS
   refine ZfY ?_
   clear hS
   intro v5 O5 w5 hR5 hS
   refine Zav ?_
   refine ih (R) _ _ _ _ ?_ ?_ Yb Yb Yc
   ·simp [Ts.length]
   ·refine ⟨D.app (.cons k1 n1 s1 a1 .nil),O5,by rw [Ts.app_assoc];exact hD,by rw [Ts.length_app];simp [Ts.length],?_,(hS.perm (List.perm_append_comm_assoc O5 [_,_] [])).drop⟩
    rw [Ts.length_app,Qli,List.map_append]
    exact hR5
theorem QjW (a:Ts):QoI a:=by
 have key:∀m,∀T:Ts,T.nodes≤m→QoI T:=by
  intro m
  induction m with
  |zero=>exact fun T h=>Qgp 0 (fun U hU=>absurd hU (Nat.not_lt_zero _)) T h
  |succ m ih=>exact fun T h=>Qgp (m+1) (fun U hU=>ih U Ya) T h
 exact key _ a (Nat.le_refl _)
end Go.Proofs.YthliapbflkfdiacGreatDoor
namespace Go.Proofs
open Go.Shelf
end Go.Proofs
namespace Go.Proofs.YthliapbflkfdiacGreatDoor
open Go.RowKit Go.Shelf
set_option linter.unusedVariables false
set_option linter.unusedSimpArgs false
set_option maxRecDepth 100000
set_option maxHeartbeats 1000000
theorem Qrl {M:List Nat} {w0 w:World} {H O:List (Nat×Obj)} {F:List (World→Prop)} {el:Nat} {A:Option Addr} {c:Nat} (xs:List Str) (hx:0<xs.length) (hrow:Row el 1 (.slice A xs.length c) xs.length (xs.map sv) O) (hn:xs.length≤1048577) (hl:(Lib.join xs [32]).length≤1073741824) (hS:St M w0 (O++H) F w):
  Calls Tryz.prog 39 #[.slice A xs.length c,sv [32]] w fun e w'=>e= .returned (sv (Lib.join xs [32]))∧Below w.heap.size w w':=by
 have hcap:=hrow.cap
 obtain ⟨g,sp,rfl,rfl,_⟩:=hrow.some_ hx
 have hb:=hS.own _ (List.mem_cons_self ..)
 have e1:(xs.map fun l=>(⟨l.toArray⟩:ByteArray)).map (·.data.toList)=xs:=by
  rw [List.map_map];exact List.map_id xs
 have e2:(⟨#[32]⟩:ByteArray).data.toList=[32]:=rfl
 have h:=Any.strings_Join Tryz.lays156 Qjm g 0 c (xs.map fun l=>(⟨l.toArray⟩:ByteArray)) ⟨#[32]⟩ w (fun j x hj=> ?_) (Qcn hb) (by simpa using (by omega:xs.length≤140737488355328)) (by simpa using hcap) (by rw [e1,e2];omega)
 ·rw [e1,e2,List.length_map] at h
  exact h
 ·rw [Qt hb,Nat.zero_add]
  rw [List.getElem?_map] at hj
  cases hxj:xs[j]? with
  |none=>rw [hxj] at hj;cases hj
  |some l=>
   rw [hxj] at hj
   simp only [Option.map_some,Option.some.injEq] at hj
   subst hj
   rw [List.getElem?_append_left (by have:=List.getElem?_eq_some_iff.1 hxj;simp;exact this.1),List.getElem?_map,hxj]
   rfl
def QaF:Nat→Ts→List Str
 |_,.nil=>[]
 |i,.cons k n s a r=>(Lib.itoa (i:Nat)++[61]++ptM k n s.data.toList a)::QaF (i+1) r
theorem Qi9:∀(i:Nat) (D R:Ts),QaF i (D.app R)=QaF i D++QaF (i+D.length) R
 |i,.nil,R=>by simp [Ts.app,QaF,Ts.length]
 |i,.cons k n s a r,R=>by
  have:=Qi9 (i+1) r R
  simp only [Ts.app,QaF,this,Ts.length,List.cons_append]
  rw [show i+1+r.length=i+(r.length+1) by omega]
theorem Qi8:∀(i:Nat) (T:Ts),(QaF i T).length=T.length
 |i,.nil=>rfl
 |i,.cons k n s a r=>by simp only [QaF,List.length_cons,Ts.length,Qi8]
theorem QqG (k n:Int) (s:ByteArray) (a:Ts):QcP false (.cons k n s a .nil)=ptM k n s.data.toList a:=by simp [QcP,ptM]
theorem QhL:∀(i:Nat) (T:Ts),Lib.joinTail [32] (QaF i T)=QaS i T
 |i,.nil=>rfl
 |i,.cons k n s a r=>by
  have h:=QhL (i+1) r
  have:Lib.joinTail [32] (QaF i (.cons k n s a r))=[32]++(Lib.itoa (i:Nat)++[61]++ptM k n s.data.toList a)++Lib.joinTail [32] (QaF (i+1) r):=by simp [Lib.joinTail,QaF]
  rw [this,h,QaS,QqG]
  simp
theorem QmR (T:Ts):Lib.join ([121,101,115]::QaF 0 T) [32]=[121,101,115]++QaS 0 T:=by
 rw [Lib.join_cons,QhL]
theorem QsL {D R:Ts} (h:rng (D.app R)):rng R:=by
 induction D with
 |nil=>exact h
 |cons k n s a r _ ih=>exact ih h.2.2
theorem QpZ {D r:Ts} {k n:Int} {s:ByteArray} {a:Ts}:(ptM k n s.data.toList a).length+(Lib.itoa (D.length:Nat)).length+2≤(QaS 0 (D.app (.cons k n s a r))).length:=by
 rw [QgF,Nat.zero_add,QaS,QqG]
 simp only [List.length_append,List.length_cons,List.length_nil]
 omega
theorem Qpi (k:Int) (T:Ts) (v:Value) (w:World) (hv:Sl w (fun _=>True) v T) (hr:rng T) (hN:T.nodes≤1048576) (hl:(QaI k T).length≤1073741824):
  Calls Tryz.prog 19 #[.agg #[.int .i64 k,v]] w fun e w'=>e= .returned (sv (QaI k T))∧Below w.heap.size w w':=by
 have hS:=St.start w
 obtain ⟨A,c,rfl,hv⟩:=hv.form
 have hTl:=T.length_le
 refine Qe Tryz.func19 rfl Tryz.ntmps19 rfl ?_
 by_cases h2:k=2
 ·rw [show QaI k T=[100,111,110,101] by rw [h2];rfl]
  refine Zd ?_
  clear hS
  intro b1 wx1 hS
  refine Zct ?_
  refine ZaF ?_
  refine Zdn ?_
  exact ⟨rfl,hS.ext.below⟩
 by_cases h3:k=3
 ·rw [show QaI k T=[102,117,101,108] by rw [h3];rfl]
  refine Zd ?_
  clear hS
  intro b1 wx1 hS
  refine Zc4 ?_
  refine ZaF ?_
  refine Zdn ?_
  exact ⟨rfl,hS.ext.below⟩
 by_cases h4:k=4
 ·rw [show QaI k T=[108,97,114,103,101] by rw [h4];rfl]
  refine Zd ?_
  clear hS
  intro b1 wx1 hS
  refine Zcv ?_
  refine ZaF ?_
  refine Zdn ?_
  exact ⟨rfl,hS.ext.below⟩
 by_cases h5:k=5
 ·rw [show QaI k T=[102,97,117,108,116] by rw [h5];rfl]
  refine Zd ?_
  clear hS
  intro b1 wx1 hS
  refine Zbo ?_
  refine ZaF ?_
  refine Zdn ?_
  exact ⟨rfl,hS.ext.below⟩
 by_cases h6:k=6
 ·rw [show QaI k T=[101,110,111,117,103,104] by rw [h6];rfl]
  refine Zd ?_
  clear hS
  intro b1 wx1 hS
  refine Zbo ?_
  refine Zae ?_
  refine ZaF ?_
  refine Zdn ?_
  exact ⟨rfl,hS.ext.below⟩
 by_cases h1:k=1
 case neg=>
  rw [show QaI k T=[] by unfold QaI Qg6;repeat' rw [if_neg Ye]]
  refine Zd ?_
  clear hS
  intro b1 wx1 hS
  refine Zbo ?_
  refine Zae ?_
  refine Zae ?_
  refine Zc2 ?_
  refine Zbm ?_
  refine Zdn ?_
  exact ⟨rfl,hS.ext.below⟩
 have he:QaI k T=[121,101,115]++QaS 0 T:=by unfold QaI;rw [if_pos h1]
 rw [he] at hl⊢
 rw [List.length_append] at hl
 refine Zd ?_
 clear hS
 intro b1 wx1 hS
 refine Zbo ?_
 refine Zae ?_
 refine Zae ?_
 refine ZaF ?_
 refine Zf ?_
 refine Zam ?_
 clear hS
 intro b2 wx2 hS
 refine ZG ?_
 refine Zea ?_
 refine Z2 ?_
 refine Qaa 24 3 (25::26::27::28::5::4::29::30::31::32::33::34::35::36::37::38::[]) (fun (R:Ts) v u w'=>∃(D:Ts) (A2:Option Addr) (c2:Nat) (O:List (Nat×Obj)),T=D.app R∧v= .int .i64 (D.length:Nat)∧u= .slice A2 (D.length+1) c2∧Row 9 1 (.slice A2 (D.length+1) c2) (D.length+1) ((([121,101,115]:Str)::QaF 0 D).map sv) O∧St [] w (O++[]) [] w') (fun R=>R.length) (T) ?_ Yb Yb ?_
 ·exact ⟨.nil,_,_,_,rfl,rfl,rfl,Row.built (by simp [QaF,Ts.length]) Yd,hS.swap.drop⟩
 clear hS
 rintro R _ _ w2 jv ⟨D,A2,c2,O,hD,rfl,rfl,hrow,hS⟩ ih
 have hlD:T.length=D.length+R.length:=by rw [hD,Ts.length_app]
 cases R with
 |nil=>
  rw [Ts.app_nil] at hD
  subst hD
  simp only [Ts.length] at hlD
  have hj:=QmR T
  have hpl:(([121,101,115]:Str)::QaF 0 T).length=T.length+1:=by rw [List.length_cons,Qi8]
  have hrow':=hrow
  rw [←hpl] at hrow'
  have hja:∀w',St [] w (O++[]) [] w'→Calls Tryz.prog 39 #[.slice A2 (T.length+1) c2,sv [32]] w' fun e w''=>e= .returned (sv ([121,101,115]++QaS 0 T))∧Below w'.heap.size w' w'':=fun w' h=>by
   have:=Qrl (([121,101,115]:Str)::QaF 0 T) Yd hrow' (by rw [hpl];omega) (by rw [hj,List.length_append];omega) h
   rw [hj,hpl] at this
   exact this
  refine ZC ?_
  refine Za5 ?_
  refine Calls.mono (hja _ hS) ?_
  rintro _ w3 ⟨rfl,hb3⟩
  refine Za ?_
  replace hS:=hS.grow hb3
  refine Zc ?_
  refine ZfE ?_
  exact ⟨rfl,hS.ext.below⟩
 |cons k1 n1 s1 a1 R=>
  simp only [Ts.length] at hlD
  obtain ⟨b5,o5,rfl,hsq⟩:=Sl.at_ (D:=D) (R:= .cons k1 n1 s1 a1 R) (by rw [←hD];exact hv) (by simp [Ts.length])
  obtain ⟨_,p0,p1,p2,⟨v',p3,hsl⟩,_⟩:=Qaf.1 hsq
  obtain ⟨A6,c6,rfl,hsl⟩:=hsl.form
  have hrr:rng (.cons k1 n1 s1 a1 R):=QsL (D:=D) (by rw [←hD];exact hr)
  have hnod:T.nodes=D.nodes+(Ts.cons k1 n1 s1 a1 R).nodes:=by rw [hD,Ts.nodes_app]
  simp only [Ts.nodes] at hnod
  have hle:=QpZ (D:=D) (r:=R) (k:=k1) (n:=n1) (s:=s1) (a:=a1)
  rw [←hD] at hle
  have hdec:∀{H:List (Nat×Obj)} {F:List (World→Prop)} (w':World),St [] w H F w'→Calls Tryz.prog 37 #[.int .i64 (D.length:Nat)] w' fun e w''=>e= .returned (sv (Lib.itoa (D.length:Nat)))∧St [] w H F w'':=fun w' hS=>(Qia D.length (D.length:Nat) Ya Ya Ya w').mono fun e w'' ⟨he,hw⟩=>⟨he,by rw [hw];exact hS⟩
  have hic:∀{H:List (Nat×Obj)} {F:List (World→Prop)} (w':World),St [] w H F w'→Calls Tryz.prog 38 #[.agg #[.int .i64 k1,.int .i64 n1,.string s1,.slice A6 a1.length c6]] w' fun e w''=>e= .returned (sv (ptM k1 n1 s1.data.toList a1))∧St [] w H F w'':=fun w' hS=>(QjW a1 k1 n1 s1 _ w' (hsl.below hS.ext.below) hrr.1 hrr.2.1 Ya Ya).mono fun e w'' ⟨he,hb⟩=>⟨he,hS.grow hb⟩
  refine ZaP ?_
  refine Zbu ?_
  refine Za1 ?_
  refine ZS ?_
  clear hS
  intro b3 wx3 hS
  refine Zbp ?_
  clear hS
  intro wx4 hS
  refine Zb ?_
  refine Qci 3 (29::30::31::32::33::34::35::36::37::[]) (fun v w'=>∃(A5:Option Addr) (c5:Nat) (b5:Nat) (ob:Obj) (O5:List (Nat×Obj)),v= .slice A5 (D.length+1+1) c5∧Row 9 1 (.slice A5 (D.length+1+1) c5) (D.length+1+1) (((([121,101,115]:Str)::QaF 0 D).map sv)++[sv (Lib.itoa (D.length:Nat)++[61]++ptM k1 n1 s1.data.toList a1)]) O5∧St [] w ((b5,ob)::(O5++[])) [] w') ?_ ?_
  ·intro hmeet
   refine QbU (St _ _ [_] []) 10 (.read 0 (.read 1 (.read 4 (.pick 2 (.read 3 (.pick 5 (.read 6 (.pick 7 (.pick 8 (.read 9 .tail) .none) .none)) .none)) .none)))) Yc Yc hS.drew.bare1 ?_
   replace hS:=hS.drew
   refine ZaD ?_
   refine ZaD ?_
   first
    |refine Qs rfl (fun _ hS=>Qb (k:=4) hS rfl rfl rfl (by first|exact .head|exact .tail .head|exact .tail (.tail .head)|exact .tail (.tail (.tail .head))|exact .tail (.tail (.tail (.tail .head)))|exact .tail (.tail (.tail (.tail (.tail .head))))) Yf) rfl ?_
    |refine Qs rfl (fun _ hS=>Qb (k:=4) hS rfl rfl rfl (by first|exact .head|exact .tail .head|exact .tail (.tail .head)|exact .tail (.tail (.tail .head))|exact .tail (.tail (.tail (.tail .head)))|exact .tail (.tail (.tail (.tail (.tail .head))))) Ye) rfl ?_
    |refine Qs rfl (fun _ hS=>Qa3 rfl rfl rfl (by first|assumption|exact hS.cell0 Ye) (by first|assumption|exact hS.cell0 Ye) (by first|assumption|exact hS.cell0 Ye) (by first|assumption|exact hS.cell0 Ye)) rfl ?_
   refine Zdo ?_
   refine Calls.mono (hdec _ hS) ?_
   rintro _ w3 ⟨rfl,hS'⟩
   refine Za ?_
   replace hS:=hS'
   clear hS'
   refine ZbT ?_
   refine ZfZ ?_
   refine Zdo ?_
   refine Calls.mono (hic _ hS) ?_
   rintro _ w4 ⟨rfl,hS'⟩
   refine Za ?_
   replace hS:=hS'
   clear hS'
   refine ZbT ?_
   refine ZfZ ?_
   refine Zaq ?_
   refine Zam ?_
   clear hS
   intro b4 wx5 hS
   refine ZbT ?_
   refine Zaq ?_
   refine QaW (sz:=1) (bts:=16) hS Yb rfl rfl rfl rfl hrow rfl rfl (List.Perm.cons _ (List.perm_append_comm_assoc [_] O [])) Ya Ya rfl ?_
   clear hS
   intro v5 O5 w5 hR5 hS
   obtain ⟨A5,c5,rfl⟩:=hR5.form
   replace hS:=hS.perm (List.perm_append_comm_assoc O5 [_] [])
   refine ZbT ?_
   refine ZbU ?_
   refine QaQ ?_
   refine Zb ?_
   exact hmeet _ _ _ ⟨A5,c5,_,_,O5,rfl,hR5,hS⟩ Yb Yc
  clear hS
  rintro jv _ w6 ⟨A5,c5,b5,ob,O5,rfl,hR5,hS⟩
  refine Zbz ?_
  refine ih (R) _ _ _ _ ?_ ?_ Yb Yb Yc
  ·simp [Ts.length]
  ·refine ⟨D.app (.cons k1 n1 s1 a1 .nil),A5,c5,O5,by rw [Ts.app_assoc];exact hD,by rw [Ts.length_app];simp [Ts.length],by rw [Ts.length_app];simp [Ts.length],?_,hS.drop⟩
   rw [Ts.length_app,Qi9,Nat.zero_add]
   simpa [Ts.length,QaF] using hR5
section
variable {P:Program} {n:Nat} {e:Env} {w:World} {ty:TypeId} {pos:String} {after:Array Edge} {dst:Option Nat} {x y:Operand} {t t2:TypeId}
theorem Qhu {el:TypeId} {q:Option Addr} (hx:ev n e x= .pointer q) (hy:ev n e y= .pointer none) (hT:Qeu P t=some el):
  (execOp (ev n e) ⟨dst,.binOp .neq t x y t2,ty,pos,after,none⟩).run P w= .ok (.value (.bool (!q.isNone))) w:=by
 have h1:=Qcy (w:=w) (q:=q) hT
 have h2:(execOp (ev n e) ⟨dst,.binOp .neq t x y t2,ty,pos,after,none⟩)=(Op.equal t (.pointer q) (.pointer none)).bind fun r=> .pure (.value (.bool (!r))):=by
  simp only [execOp,hx,hy,eqGuard,binOp]
  simp only [bind,pure,Bool.not_true,Bool.false_eq_true,if_false,Sem.bind]
  exact (Sem.bind_assoc' _ _ _)
 rw [h2,Sem.run_bind',h1]
 rfl
theorem Qit {el:TypeId} (hx:ev n e x= .pointer none) (hy:ev n e y= .pointer none) (hT:Qeu P t=some el):
  (execOp (ev n e) ⟨dst,.binOp .neq t x y t2,ty,pos,after,none⟩).run P w= .ok (.value (.bool false)) w:=Qhu hx hy hT
theorem Qht {el:TypeId} {a:Addr} (hx:ev n e x= .pointer (some a)) (hy:ev n e y= .pointer none) (hT:Qeu P t=some el):
  (execOp (ev n e) ⟨dst,.binOp .neq t x y t2,ty,pos,after,none⟩).run P w= .ok (.value (.bool true)) w:=Qhu hx hy hT
end
end Go.Proofs.YthliapbflkfdiacGreatDoor
