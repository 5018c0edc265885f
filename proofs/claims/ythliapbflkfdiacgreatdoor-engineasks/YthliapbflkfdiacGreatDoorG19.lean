/- RefP3, ERef1, EMem: texts that follow one another, laid into one file. -/
import Derived.Test.YthliapbflkfdiacGreatDoorZ0
import Derived.Test.YthliapbflkfdiacGreatDoorG18
import Derived.Test.YthliapbflkfdiacGreatDoorG14
import Derived.Test.YthliapbflkfdiacGreatDoorG9
import Derived.Test.YthliapbflkfdiacGreatDoorG7
import Derived.Test.YthliapbflkfdiacGreatDoorProg
namespace Go.Proofs.YthliapbflkfdiacGreatDoor
open Go.RowKit Go.Shelf
set_option linter.unusedVariables false
set_option linter.unusedSimpArgs false
set_option maxRecDepth 100000
set_option maxHeartbeats 1000000
theorem QpQ (n:Int) (h0:0≤n) (h1:n≤25):(([65,66,67,68,69,70,71,72,73,74,75,76,77,78,79,80,81,82,83,84,85,86,87,88,89,90]:Str).take (n+1).toNat).drop n.toNat=Qbs n:=by
 obtain ⟨m,rfl⟩:∃m:Nat,n=m:=⟨n.toNat,by omega⟩
 have hh:∀i:Fin 26,(([65,66,67,68,69,70,71,72,73,74,75,76,77,78,79,80,81,82,83,84,85,86,87,88,89,90]:Str).take (((i.val:Nat):Int)+1).toNat).drop ((i.val:Nat):Int).toNat=Qbs (i.val:Nat):=by decide+kernel
 exact hh ⟨m,by omega⟩
def QrX (a : Ts) : Prop := ∀ (k n : Int) (s : ByteArray) (v : Value) (w : World), Sl w (fun _ => True) v a → (-9223372036854775808 ≤ n ∧ n ≤ 9223372036854775807) → rng a → a.nodes ≤ 1048576 → (ptM k n s.data.toList a).length ≤ 1073741824 →
    Calls Tryz.prog 38 #[.agg #[.int .i64 k,.int .i64 n,.string s,v]] w fun e w'=>e= .returned (sv (ptM k n s.data.toList a))∧Below w.heap.size w w'
theorem Qt6 {D R:Ts} (h:rng (D.app R)):rng R:=by
 induction D with
 |nil=>exact h
 |cons k n s a r _ ih=>exact ih h.2.2
theorem Qic (m:Nat) (ih0:∀T:Ts,T.nodes<m→QrX T) (a:Ts) (hm:a.nodes≤m):QrX a:=by
 intro k n s v w hv hn hr hN hl
 obtain ⟨l,rfl⟩:∃l:Str,s=⟨l.toArray⟩:=⟨s.data.toList,by cases s;simp⟩
 rw [Qey] at hl⊢
 obtain ⟨A,c,rfl,hv⟩:=hv.form
 have hal:=a.length_le
 have hS:=St.start w
 refine Qg Tryz.func38 rfl Tryz.ntmps38 rfl ?_
 by_cases hk0:k=0
 ·subst hk0
  have hpt:ptM 0 n l a=Qbs n:=by simp [ptM,QaO,QcR,Qeu]
  rw [hpt]
  by_cases hn0:n<0
  ·rw [show Qbs n=[90,122] by unfold Qbs;rw [if_pos (.inl hn0)]]
   refine Zi ?_
   clear hS
   intro b1 wx1 hS
   refine Zez ?_
   refine ZcX ?_
   refine Zs ?_
   refine Zm ?_
   refine Zal ?_
   refine ZaI ?_
   refine Zad ?_
   refine Zg ?_
   refine ZcH ?_
   exact ⟨rfl,hS.ext.below⟩
  by_cases hn1:25<n
  ·rw [show Qbs n=[90,122] by unfold Qbs;rw [if_pos (.inr hn1)]]
   refine Zi ?_
   clear hS
   intro b1 wx1 hS
   refine Zez ?_
   refine ZcX ?_
   refine Zs ?_
   refine ZH ?_
   refine ZcO ?_
   refine Zw ?_
   refine ZaI ?_
   refine Zad ?_
   refine Zg ?_
   refine ZcH ?_
   exact ⟨rfl,hS.ext.below⟩
  rw [←QpQ n Ya Ya]
  refine Zi ?_
  clear hS
  intro b1 wx1 hS
  refine Zez ?_
  refine ZcX ?_
  refine Zs ?_
  refine ZH ?_
  refine ZcO ?_
  refine Zw ?_
  refine ZaI ?_
  refine ZaG ?_
  refine Zfl ?_
  refine ZbE ?_
  refine Zk ?_
  refine ZU ?_
  refine ZU ?_
  refine Zv ?_
  refine Zhp ?_
  refine Zd ?_
  refine ZcH ?_
  exact ⟨rfl,hS.ext.below⟩
 by_cases hk2:k=2
 ·subst hk2
  have hpt:ptM 2 n l a=Lib.itoa n:=by simp [ptM,QaO,QcR,Qeu]
  rw [hpt]
  refine Zi ?_
  clear hS
  intro b1 wx1 hS
  refine Zez ?_
  refine ZaQ ?_
  refine Zdd ?_
  refine ZdU ?_
  refine ZaV ?_
  refine ZaG ?_
  refine ZeA ?_
  refine Zfl ?_
  refine ZbE ?_
  refine Zk ?_
  refine ZU ?_
  refine Zj ?_
  refine Calls.mono (Qkh _ n (Nat.le_refl _) hn.1 hn.2 _) ?_
  rintro _ w1 ⟨rfl,rfl⟩
  refine ZD ?_
  refine ZcH ?_
  exact ⟨rfl,hS.ext.below⟩
 by_cases hk1:k=1∨k=3
 case neg=>
  have hpt:ptM k n l a=[]:=by
   have h1:¬k=1:=fun h=>hk1 (.inl h)
   have h3:¬k=3:=fun h=>hk1 (.inr h)
   simp [ptM,QaO,QcR,Qeu,hk0,hk2,h1,h3]
  rw [hpt]
  have h1:¬k=1:=fun h=>hk1 (.inl h)
  have h3:¬k=3:=fun h=>hk1 (.inr h)
  refine Zi ?_
  clear hS
  intro b1 wx1 hS
  refine Zez ?_
  refine ZaQ ?_
  refine Zdd ?_
  refine ZdU ?_
  refine ZaV ?_
  refine ZaG ?_
  refine ZeA ?_
  refine ZeA ?_
  refine Zde ?_
  refine ZcQ ?_
  refine ZaK ?_
  refine Zz ?_
  refine Zad ?_
  refine Zg ?_
  refine ZcH ?_
  exact ⟨rfl,hS.ext.below⟩
 have hpt:ptM k n l a=l++if 0<a.length then 40::(QeI false a++[41]) else []:=by
  have h1:Qeu k=true:=by rcases hk1 with rfl|rfl<;>rfl
  simp [ptM,QaO,QcR,h1,hk0,hk2,hk1]
 rcases hk1 with rfl|rfl
 ·skip
  refine Zi ?_
  clear hS
  intro b1 wx1 hS
  refine Zez ?_
  refine ZaQ ?_
  refine Zdd ?_
  refine ZdU ?_
  refine ZaV ?_
  refine ZaG ?_
  refine ZeA ?_
  refine ZeA ?_
  refine Zde ?_
  refine Zz ?_
  refine Zal ?_
  refine ZaG ?_
  refine Zek ?_
  refine Zao ?_
  refine ZbZ ?_
  refine ZX ?_
  refine Qx 3 49 (50::51::52::5::53::54::55::56::57::58::[]) (fun (R:Ts) v u w'=>∃(D:Ts) (O:List (Nat×Obj)),a=D.app R∧u= .int .i64 (D.length:Nat)∧Row 9 1 v D.length ((QcF D).map sv) O∧St [] w ((b1,.cells #[.int .i64 1,.int .i64 n,sv l,.slice A a.length c] 63)::(O++[])) [] w') (fun R=>R.length) (a) ?_ Yb Yb ?_
  ·exact ⟨.nil,[],rfl,rfl,Row.nil_,hS⟩
  clear hS
  rintro R _ _ w2 jv ⟨D,O,hD,rfl,hrow,hS⟩ ih
  have hlD:a.length=D.length+R.length:=by rw [hD,Ts.length_app]
  obtain ⟨A2,c2,rfl⟩:=hrow.form
  cases R with
  |nil=>
   simp only [Ts.length] at hlD
   rw [Ts.app_nil] at hD
   subst hD
   have hpl:=QnW a
   by_cases h0:a.length=0
   ·rw [if_neg Ya,List.append_nil] at hpt
    rw [hpt]
    refine ZfR ?_
    refine Zr ?_
    refine Zb0 ?_
    refine Zam ?_
    refine Zd ?_
    refine ZcH ?_
    exact ⟨rfl,hS.ext.below⟩
   ·rw [if_pos Ya] at hpt
    have hj:=Qlv a
    rw [hpt] at hl
    simp only [List.length_append,List.length_cons,List.length_nil] at hl
    have hrow':=hrow
    rw [←hpl] at hrow'
    have hja:∀w',St [] w ((b1,.cells #[.int .i64 1,.int .i64 n,sv l,.slice A a.length c] 63)::(O++[])) [] w'→Calls Tryz.prog 39 #[.slice A2 a.length c2,sv [44]] w' fun e w''=>e= .returned (sv (QeI false a))∧Below w'.heap.size w' w'':=fun w' h=>by
     have:=Qrn (QcF a) Ya hrow' Ya (by rw [hj];omega) h.sink
     rw [hj,hpl] at this
     exact this
    rw [hpt]
    refine ZfR ?_
    refine Zan ?_
    refine Zp ?_
    refine Zjr ?_
    replace hS:=hS.drew
    refine ZfF ?_
    refine ZeY ?_
    refine ZK ?_
    refine ZcW ?_
    refine Calls.mono (hja _ hS) ?_
    rintro _ w3 ⟨rfl,hb3⟩
    refine Za ?_
    replace hS:=hS.grow hb3
    refine Zc8 ?_
    refine ZeY ?_
    refine ZeY ?_
    refine Zfj ?_
    refine ZcH ?_
    exact ⟨by simp,hS.ext.below⟩
  |cons k1 n1 s1 a1 R=>
   simp only [Ts.length] at hlD
   obtain ⟨b5,o5,rfl,hsq⟩:=Sl.at_ (D:=D) (R:= .cons k1 n1 s1 a1 R) (by rw [←hD];exact hv) (by simp [Ts.length])
   obtain ⟨_,p0,p1,p2,⟨v',p3,hsl⟩,_⟩:=Q6.1 hsq
   obtain ⟨A6,c6,rfl,hsl⟩:=hsl.form
   have hrr:rng (.cons k1 n1 s1 a1 R):=Qt6 (D:=D) (by rw [←hD];exact hr)
   have hnod:a.nodes=D.nodes+(Ts.cons k1 n1 s1 a1 R).nodes:=by rw [hD,Ts.nodes_app]
   simp only [Ts.nodes] at hnod
   have hle:=Qul (D:=D) (r:=R) (k:=k1) (n:=n1) (s:=s1) (a:=a1) false
   rw [←hD] at hle
   have hl2:=hl
   rw [hpt,if_pos Ya] at hl2
   simp only [List.length_append,List.length_cons,List.length_nil] at hl2
   have hic:∀w',Below w.heap.size w w'→_:=fun w' h=>ih0 a1 Ya k1 n1 s1 _ w' (hsl.below h) hrr.1 hrr.2.1 Ya Ya
   refine ZbY ?_
   refine ZeB ?_
   clear hS
   intro b2 wx2 hS
   refine Zc ?_
   clear hS
   intro wx3 hS
   refine Zb3 ?_
   refine Zbg ?_
   refine Zj ?_
   refine Calls.mono (hic _ hS.ext.below) ?_
   rintro _ w3 ⟨rfl,hb3⟩
   refine Za ?_
   replace hS:=hS.grow hb3
   refine ZaC ?_
   clear hS
   intro b3 wx4 hS
   refine Zjs ?_
   clear hS
   intro v5 O5 w5 hR5 hS
   refine Zax ?_
   refine ih (R) _ _ _ _ ?_ ?_ Yb Yb Yc
   ·simp [Ts.length]
   ·refine ⟨D.app (.cons k1 n1 s1 a1 .nil),O5,by rw [Ts.app_assoc];exact hD,by rw [Ts.length_app];simp [Ts.length],?_,(hS.perm (List.perm_append_comm_assoc O5 [_,_] [])).drop⟩
    rw [Ts.length_app,QnX,List.map_append]
    exact hR5
 ·skip
  refine Zi ?_
  clear hS
  intro b1 wx1 hS
  refine Zez ?_
  refine ZaQ ?_
  refine Zdd ?_
  refine ZdU ?_
  refine ZaV ?_
  refine ZaG ?_
  refine ZeA ?_
  refine ZeA ?_
  refine Zde ?_
  refine ZcQ ?_
  refine ZaK ?_
  refine Zz ?_
  refine ZaG ?_
  refine Zek ?_
  refine Zao ?_
  refine ZbZ ?_
  refine ZX ?_
  refine Qx 3 49 (50::51::52::5::53::54::55::56::57::58::[]) (fun (R:Ts) v u w'=>∃(D:Ts) (O:List (Nat×Obj)),a=D.app R∧u= .int .i64 (D.length:Nat)∧Row 9 1 v D.length ((QcF D).map sv) O∧St [] w ((b1,.cells #[.int .i64 3,.int .i64 n,sv l,.slice A a.length c] 63)::(O++[])) [] w') (fun R=>R.length) (a) ?_ Yb Yb ?_
  ·exact ⟨.nil,[],rfl,rfl,Row.nil_,hS⟩
  clear hS
  rintro R _ _ w2 jv ⟨D,O,hD,rfl,hrow,hS⟩ ih
  have hlD:a.length=D.length+R.length:=by rw [hD,Ts.length_app]
  obtain ⟨A2,c2,rfl⟩:=hrow.form
  cases R with
  |nil=>
   simp only [Ts.length] at hlD
   rw [Ts.app_nil] at hD
   subst hD
   have hpl:=QnW a
   by_cases h0:a.length=0
   ·rw [if_neg Ya,List.append_nil] at hpt
    rw [hpt]
    refine ZfR ?_
    refine Zr ?_
    refine Zb0 ?_
    refine Zam ?_
    refine Zd ?_
    refine ZcH ?_
    exact ⟨rfl,hS.ext.below⟩
   ·rw [if_pos Ya] at hpt
    have hj:=Qlv a
    rw [hpt] at hl
    simp only [List.length_append,List.length_cons,List.length_nil] at hl
    have hrow':=hrow
    rw [←hpl] at hrow'
    have hja:∀w',St [] w ((b1,.cells #[.int .i64 3,.int .i64 n,sv l,.slice A a.length c] 63)::(O++[])) [] w'→Calls Tryz.prog 39 #[.slice A2 a.length c2,sv [44]] w' fun e w''=>e= .returned (sv (QeI false a))∧Below w'.heap.size w' w'':=fun w' h=>by
     have:=Qrn (QcF a) Ya hrow' Ya (by rw [hj];omega) h.sink
     rw [hj,hpl] at this
     exact this
    rw [hpt]
    refine ZfR ?_
    refine Zan ?_
    refine Zp ?_
    refine Zjr ?_
    replace hS:=hS.drew
    refine ZfF ?_
    refine ZeY ?_
    refine ZK ?_
    refine ZcW ?_
    refine Calls.mono (hja _ hS) ?_
    rintro _ w3 ⟨rfl,hb3⟩
    refine Za ?_
    replace hS:=hS.grow hb3
    refine Zc8 ?_
    refine ZeY ?_
    refine ZeY ?_
    refine Zfj ?_
    refine ZcH ?_
    exact ⟨by simp,hS.ext.below⟩
  |cons k1 n1 s1 a1 R=>
   simp only [Ts.length] at hlD
   obtain ⟨b5,o5,rfl,hsq⟩:=Sl.at_ (D:=D) (R:= .cons k1 n1 s1 a1 R) (by rw [←hD];exact hv) (by simp [Ts.length])
   obtain ⟨_,p0,p1,p2,⟨v',p3,hsl⟩,_⟩:=Q6.1 hsq
   obtain ⟨A6,c6,rfl,hsl⟩:=hsl.form
   have hrr:rng (.cons k1 n1 s1 a1 R):=Qt6 (D:=D) (by rw [←hD];exact hr)
   have hnod:a.nodes=D.nodes+(Ts.cons k1 n1 s1 a1 R).nodes:=by rw [hD,Ts.nodes_app]
   simp only [Ts.nodes] at hnod
   have hle:=Qul (D:=D) (r:=R) (k:=k1) (n:=n1) (s:=s1) (a:=a1) false
   rw [←hD] at hle
   have hl2:=hl
   rw [hpt,if_pos Ya] at hl2
   simp only [List.length_append,List.length_cons,List.length_nil] at hl2
   have hic:∀w',Below w.heap.size w w'→_:=fun w' h=>ih0 a1 Ya k1 n1 s1 _ w' (hsl.below h) hrr.1 hrr.2.1 Ya Ya
   refine ZbY ?_
   refine ZeB ?_
   clear hS
   intro b2 wx2 hS
   refine Zc ?_
   clear hS
   intro wx3 hS
   refine Zb3 ?_
   refine Zbg ?_
   refine Zj ?_
   refine Calls.mono (hic _ hS.ext.below) ?_
   rintro _ w3 ⟨rfl,hb3⟩
   refine Za ?_
   replace hS:=hS.grow hb3
   refine ZaC ?_
   clear hS
   intro b3 wx4 hS
   refine Zjs ?_
   clear hS
   intro v5 O5 w5 hR5 hS
   refine Zax ?_
   refine ih (R) _ _ _ _ ?_ ?_ Yb Yb Yc
   ·simp [Ts.length]
   ·refine ⟨D.app (.cons k1 n1 s1 a1 .nil),O5,by rw [Ts.app_assoc];exact hD,by rw [Ts.length_app];simp [Ts.length],?_,(hS.perm (List.perm_append_comm_assoc O5 [_,_] [])).drop⟩
    rw [Ts.length_app,QnX,List.map_append]
    exact hR5
theorem Qmk (a:Ts):QrX a:=by
 have key:∀m,∀T:Ts,T.nodes≤m→QrX T:=by
  intro m
  induction m with
  |zero=>exact fun T h=>Qic 0 (fun U hU=>absurd hU (Nat.not_lt_zero _)) T h
  |succ m ih=>exact fun T h=>Qic (m+1) (fun U hU=>ih U Ya) T h
 exact key _ a (Nat.le_refl _)
end Go.Proofs.YthliapbflkfdiacGreatDoor
namespace Go.Proofs
open Go.Shelf
end Go.Proofs
namespace Go.Proofs.YthliapbflkfdiacGreatDoor
open Go.RowKit
set_option linter.unusedVariables false
set_option linter.unusedSimpArgs false
set_option maxRecDepth 100000
set_option maxHeartbeats 1000000
theorem Qu2 {M:List Nat} {w0 w:World} {H O:List (Nat×Obj)} {F:List (World→Prop)} {el:Nat} {A:Option Addr} {c:Nat} (xs:List Str) (hx:0<xs.length) (hrow:Row el 1 (.slice A xs.length c) xs.length (xs.map sv) O) (hn:xs.length≤1048577) (hl:(Lib.join xs [32]).length≤1073741824) (hS:St M w0 (O++H) F w):
  Calls Tryz.prog 39 #[.slice A xs.length c,sv [32]] w fun e w'=>e= .returned (sv (Lib.join xs [32]))∧Below w.heap.size w w':=by
 have hcap:=hrow.cap
 obtain ⟨g,sp,rfl,rfl,_⟩:=hrow.some_ hx
 have hb:=hS.own _ (List.mem_cons_self ..)
 have e1:(xs.map fun l=>(⟨l.toArray⟩:ByteArray)).map (·.data.toList)=xs:=by
  rw [List.map_map];exact List.map_id xs
 have e2:(⟨#[32]⟩:ByteArray).data.toList=[32]:=rfl
 have h:=Any.strings_Join Tryz.lays156 QlG g 0 c (xs.map fun l=>(⟨l.toArray⟩:ByteArray)) ⟨#[32]⟩ w (fun j x hj=> ?_) (Qc0 hb) (by simpa using (by omega:xs.length≤140737488355328)) (by simpa using hcap) (by rw [e1,e2];omega)
 ·rw [e1,e2,List.length_map] at h
  exact h
 ·rw [Qs hb,Nat.zero_add]
  rw [List.getElem?_map] at hj
  cases hxj:xs[j]? with
  |none=>rw [hxj] at hj;cases hj
  |some l=>
   rw [hxj] at hj
   simp only [Option.map_some,Option.some.injEq] at hj
   subst hj
   rw [List.getElem?_append_left (by have:=List.getElem?_eq_some_iff.1 hxj;simp;exact this.1),List.getElem?_map,hxj]
   rfl
def Qbb:Nat→Ts→List Str
 |_,.nil=>[]
 |i,.cons k n s a r=>(Lib.itoa (i:Nat)++[61]++ptM k n s.data.toList a)::Qbb (i+1) r
theorem Qlt:∀(i:Nat) (D R:Ts),Qbb i (D.app R)=Qbb i D++Qbb (i+D.length) R
 |i,.nil,R=>by simp [Ts.app,Qbb,Ts.length]
 |i,.cons k n s a r,R=>by
  have:=Qlt (i+1) r R
  simp only [Ts.app,Qbb,this,Ts.length,List.cons_append]
  rw [show i+1+r.length=i+(r.length+1) by omega]
theorem Qls:∀(i:Nat) (T:Ts),(Qbb i T).length=T.length
 |i,.nil=>rfl
 |i,.cons k n s a r=>by simp only [Qbb,List.length_cons,Ts.length,Qls]
theorem Quo (k n:Int) (s:ByteArray) (a:Ts):QeI false (.cons k n s a .nil)=ptM k n s.data.toList a:=by simp [QeI,ptM]
theorem QjQ:∀(i:Nat) (T:Ts),Lib.joinTail [32] (Qbb i T)=Qbz i T
 |i,.nil=>rfl
 |i,.cons k n s a r=>by
  have h:=QjQ (i+1) r
  have:Lib.joinTail [32] (Qbb i (.cons k n s a r))=[32]++(Lib.itoa (i:Nat)++[61]++ptM k n s.data.toList a)++Lib.joinTail [32] (Qbb (i+1) r):=by simp [Lib.joinTail,Qbb]
  rw [this,h,Qbz,Quo]
  simp
theorem QpE (T:Ts):Lib.join ([121,101,115]::Qbb 0 T) [32]=[121,101,115]++Qbz 0 T:=by
 rw [Lib.join_cons,QjQ]
theorem QwB {D R:Ts} (h:rng (D.app R)):rng R:=by
 induction D with
 |nil=>exact h
 |cons k n s a r _ ih=>exact ih h.2.2
theorem Qtp {D r:Ts} {k n:Int} {s:ByteArray} {a:Ts}:(ptM k n s.data.toList a).length+(Lib.itoa (D.length:Nat)).length+2≤(Qbz 0 (D.app (.cons k n s a r))).length:=by
 rw [Qiw,Nat.zero_add,Qbz,Quo]
 simp only [List.length_append,List.length_cons,List.length_nil]
 omega
theorem QsI (k:Int) (T:Ts) (v:Value) (w:World) (hv:Sl w (fun _=>True) v T) (hr:rng T) (hN:T.nodes≤1048576) (hl:(Qbh k T).length≤1073741824):
  Calls Tryz.prog 19 #[.agg #[.int .i64 k,v]] w fun e w'=>e= .returned (sv (Qbh k T))∧Below w.heap.size w w':=by
 have hS:=St.start w
 obtain ⟨A,c,rfl,hv⟩:=hv.form
 have hTl:=T.length_le
 refine Qg Tryz.func19 rfl Tryz.ntmps19 rfl ?_
 by_cases h2:k=2
 ·rw [show Qbh k T=[100,111,110,101] by rw [h2];rfl]
  refine Zi ?_
  clear hS
  intro b1 wx1 hS
  refine ZbI ?_
  refine Zdf ?_
  refine Zg ?_
  refine Zd0 ?_
  exact ⟨rfl,hS.ext.below⟩
 by_cases h3:k=3
 ·rw [show Qbh k T=[102,117,101,108] by rw [h3];rfl]
  refine Zi ?_
  clear hS
  intro b1 wx1 hS
  refine ZbI ?_
  refine Zcj ?_
  refine Zdf ?_
  refine Zg ?_
  refine Zd0 ?_
  exact ⟨rfl,hS.ext.below⟩
 by_cases h4:k=4
 ·rw [show Qbh k T=[108,97,114,103,101] by rw [h4];rfl]
  refine Zi ?_
  clear hS
  intro b1 wx1 hS
  refine Za7 ?_
  refine Zdf ?_
  refine Zg ?_
  refine Zd0 ?_
  exact ⟨rfl,hS.ext.below⟩
 by_cases h5:k=5
 ·rw [show Qbh k T=[102,97,117,108,116] by rw [h5];rfl]
  refine Zi ?_
  clear hS
  intro b1 wx1 hS
  refine Za7 ?_
  refine Zcj ?_
  refine Zdf ?_
  refine Zg ?_
  refine Zd0 ?_
  exact ⟨rfl,hS.ext.below⟩
 by_cases h6:k=6
 ·rw [show Qbh k T=[101,110,111,117,103,104] by rw [h6];rfl]
  refine Zi ?_
  clear hS
  intro b1 wx1 hS
  refine Za7 ?_
  refine ZcM ?_
  refine Zdf ?_
  refine Zg ?_
  refine Zd0 ?_
  exact ⟨rfl,hS.ext.below⟩
 by_cases h1:k=1
 case neg=>
  rw [show Qbh k T=[] by unfold Qbh Qi5;repeat' rw [if_neg Ye]]
  refine Zi ?_
  clear hS
  intro b1 wx1 hS
  refine Za7 ?_
  refine ZcM ?_
  refine ZcM ?_
  refine Zek ?_
  refine Zd0 ?_
  exact ⟨rfl,hS.ext.below⟩
 have he:Qbh k T=[121,101,115]++Qbz 0 T:=by unfold Qbh;rw [if_pos h1]
 rw [he] at hl⊢
 rw [List.length_append] at hl
 refine Zi ?_
 clear hS
 intro b1 wx1 hS
 refine Za7 ?_
 refine ZcM ?_
 refine Zcj ?_
 refine Zfi ?_
 refine ZaC ?_
 clear hS
 intro b2 wx2 hS
 refine Zcs ?_
 refine ZU ?_
 refine ZX ?_
 refine Qx 24 3 (25::26::27::28::5::4::29::30::31::32::33::34::35::36::37::38::[]) (fun (R:Ts) v u w'=>∃(D:Ts) (A2:Option Addr) (c2:Nat) (O:List (Nat×Obj)),T=D.app R∧v= .int .i64 (D.length:Nat)∧u= .slice A2 (D.length+1) c2∧Row 9 1 (.slice A2 (D.length+1) c2) (D.length+1) ((([121,101,115]:Str)::Qbb 0 D).map sv) O∧St [] w (O++[]) [] w') (fun R=>R.length) (T) ?_ Yb Yb ?_
 ·exact ⟨.nil,_,_,_,rfl,rfl,rfl,Row.built (by simp [Qbb,Ts.length]) Yd,hS.swap.drop⟩
 clear hS
 rintro R _ _ w2 jv ⟨D,A2,c2,O,hD,rfl,rfl,hrow,hS⟩ ih
 have hlD:T.length=D.length+R.length:=by rw [hD,Ts.length_app]
 cases R with
 |nil=>
  rw [Ts.app_nil] at hD
  subst hD
  simp only [Ts.length] at hlD
  have hj:=QpE T
  have hpl:(([121,101,115]:Str)::Qbb 0 T).length=T.length+1:=by rw [List.length_cons,Qls]
  have hrow':=hrow
  rw [←hpl] at hrow'
  have hja:∀w',St [] w (O++[]) [] w'→Calls Tryz.prog 39 #[.slice A2 (T.length+1) c2,sv [32]] w' fun e w''=>e= .returned (sv ([121,101,115]++Qbz 0 T))∧Below w'.heap.size w' w'':=fun w' h=>by
   have:=Qu2 (([121,101,115]:Str)::Qbb 0 T) Yd hrow' (by rw [hpl];omega) (by rw [hj,List.length_append];omega) h
   rw [hj,hpl] at this
   exact this
  refine ZJ ?_
  refine ZP ?_
  refine Calls.mono (hja _ hS) ?_
  rintro _ w3 ⟨rfl,hb3⟩
  refine Za ?_
  replace hS:=hS.grow hb3
  refine Zd ?_
  refine Zd0 ?_
  exact ⟨rfl,hS.ext.below⟩
 |cons k1 n1 s1 a1 R=>
  simp only [Ts.length] at hlD
  obtain ⟨b5,o5,rfl,hsq⟩:=Sl.at_ (D:=D) (R:= .cons k1 n1 s1 a1 R) (by rw [←hD];exact hv) (by simp [Ts.length])
  obtain ⟨_,p0,p1,p2,⟨v',p3,hsl⟩,_⟩:=Q6.1 hsq
  obtain ⟨A6,c6,rfl,hsl⟩:=hsl.form
  have hrr:rng (.cons k1 n1 s1 a1 R):=QwB (D:=D) (by rw [←hD];exact hr)
  have hnod:T.nodes=D.nodes+(Ts.cons k1 n1 s1 a1 R).nodes:=by rw [hD,Ts.nodes_app]
  simp only [Ts.nodes] at hnod
  have hle:=Qtp (D:=D) (r:=R) (k:=k1) (n:=n1) (s:=s1) (a:=a1)
  rw [←hD] at hle
  have hdec:∀{H:List (Nat×Obj)} {F:List (World→Prop)} (w':World),St [] w H F w'→Calls Tryz.prog 37 #[.int .i64 (D.length:Nat)] w' fun e w''=>e= .returned (sv (Lib.itoa (D.length:Nat)))∧St [] w H F w'':=fun w' hS=>(Qkh D.length (D.length:Nat) Ya Ya Ya w').mono fun e w'' ⟨he,hw⟩=>⟨he,by rw [hw];exact hS⟩
  have hic:∀{H:List (Nat×Obj)} {F:List (World→Prop)} (w':World),St [] w H F w'→Calls Tryz.prog 38 #[.agg #[.int .i64 k1,.int .i64 n1,.string s1,.slice A6 a1.length c6]] w' fun e w''=>e= .returned (sv (ptM k1 n1 s1.data.toList a1))∧St [] w H F w'':=fun w' hS=>(Qmk a1 k1 n1 s1 _ w' (hsl.below hS.ext.below) hrr.1 hrr.2.1 Ya Ya).mono fun e w'' ⟨he,hb⟩=>⟨he,hS.grow hb⟩
  refine Zb1 ?_
  refine ZeB ?_
  clear hS
  intro b3 wx3 hS
  refine Zct ?_
  clear hS
  intro wx4 hS
  refine Zb ?_
  refine QbW 3 (29::30::31::32::33::34::35::36::37::[]) (fun v w'=>∃(A5:Option Addr) (c5:Nat) (b5:Nat) (ob:Obj) (O5:List (Nat×Obj)),v= .slice A5 (D.length+1+1) c5∧Row 9 1 (.slice A5 (D.length+1+1) c5) (D.length+1+1) (((([121,101,115]:Str)::Qbb 0 D).map sv)++[sv (Lib.itoa (D.length:Nat)++[61]++ptM k1 n1 s1.data.toList a1)]) O5∧St [] w ((b5,ob)::(O5++[])) [] w') ?_ ?_
  ·intro hmeet
   refine QaS (St _ _ [_] []) 10 (.read 0 (.read 1 (.read 4 (.pick 2 (.read 3 (.pick 5 (.read 6 (.pick 7 (.pick 8 (.read 9 .tail) .none) .none)) .none)) .none)))) Yc Yc hS.drew.bare1 ?_
   replace hS:=hS.drew
   refine Zhg ?_
   refine Zin ?_
   refine ZfS ?_
   refine Calls.mono (hdec _ hS) ?_
   rintro _ w3 ⟨rfl,hS'⟩
   refine Za ?_
   replace hS:=hS'
   clear hS'
   refine ZhD ?_
   refine Zjt ?_
   refine ZfS ?_
   refine Calls.mono (hic _ hS) ?_
   rintro _ w4 ⟨rfl,hS'⟩
   refine Za ?_
   replace hS:=hS'
   clear hS'
   refine ZhD ?_
   refine Zjt ?_
   refine Zay ?_
   refine ZaC ?_
   clear hS
   intro b4 wx5 hS
   refine ZhD ?_
   refine Zay ?_
   refine Qar (sz:=1) (bts:=16) hS Yb rfl rfl rfl rfl hrow rfl rfl (List.Perm.cons _ (List.perm_append_comm_assoc [_] O [])) Ya Ya rfl ?_
   clear hS
   intro v5 O5 w5 hR5 hS
   obtain ⟨A5,c5,rfl⟩:=hR5.form
   replace hS:=hS.perm (List.perm_append_comm_assoc O5 [_] [])
   refine ZhD ?_
   refine ZcY ?_
   exact hmeet _ _ _ ⟨A5,c5,_,_,O5,rfl,hR5,hS⟩ Yb Yc
  clear hS
  rintro jv _ w6 ⟨A5,c5,b5,ob,O5,rfl,hR5,hS⟩
  refine Z9 ?_
  refine ih (R) _ _ _ _ ?_ ?_ Yb Yb Yc
  ·simp [Ts.length]
  ·refine ⟨D.app (.cons k1 n1 s1 a1 .nil),A5,c5,O5,by rw [Ts.app_assoc];exact hD,by rw [Ts.length_app];simp [Ts.length],by rw [Ts.length_app];simp [Ts.length],?_,hS.drop⟩
   rw [Ts.length_app,Qlt,Nat.zero_add]
   simpa [Ts.length,Qbb] using hR5
structure EN where
 v:Int
 t:LT
 blk:Nat
def eA:List EN→Option Addr
 |[]=>none
 |x::_=>some ⟨x.blk,0,none⟩
abbrev Qgk (E:List EN):Value:= .pointer (eA E)
abbrev ecs (v:Int) (t:LT) (p:Value):List Value:=[.int .i64 v,.int .i64 t.k,.int .i64 t.n,.string t.s,.slice t.A t.ar.len t.c,p]
def ERd (ty:TypeId):List EN→World→Prop
 |[],_=>True
 |x::r,w=>w.heap[x.blk]?=some (.cells (ecs x.v x.t (Qgk r)).toArray ty)∧LRd x.t w∧ERd ty r w
def QK (E:List EN):Bnd:=E.map fun x=>(x.v,x.t.tm)
theorem ERd.cells {ty:TypeId} {x:EN} {r:List EN} {w:World} (h:ERd ty (x::r) w):w.cell? ⟨x.blk,0,none⟩=some (.int .i64 x.v)∧w.cell? ⟨x.blk,1,none⟩=some (.int .i64 x.t.k)∧w.cell? ⟨x.blk,2,none⟩=some (.int .i64 x.t.n)∧w.cell? ⟨x.blk,3,none⟩=some (.string x.t.s)∧w.cell? ⟨x.blk,4,none⟩=some (.slice x.t.A x.t.ar.len x.t.c)∧w.cell? ⟨x.blk,5,none⟩=some (Qgk r):=by
 have hb:=h.1
 refine ⟨?_,?_,?_,?_,?_,?_⟩<;>rw [Qs hb]<;>rfl
theorem ERd.skip {ty:TypeId} {w:World} {R:List EN}:∀{D:List EN},ERd ty (D++R) w→ERd ty R w
 |[],h=>h
 |x::D,h=>ERd.skip (D:=D) h.2.2
theorem QrB {c:Int}:∀{E:List EN},(∀x∈E,x.v≠c)→QcY c (QK E)=none
 |[],_=>rfl
 |x::r,h=>by
  show QcY c ((x.v,x.t.tm)::QK r)=none
  simp only [QcY]
  rw [if_neg fun e=>h x (List.mem_cons_self ..) e.symm]
  exact QrB fun y hy=>h y (List.mem_cons_of_mem _ hy)
theorem QrA {c:Int} {x:EN} {R:List EN} (hx:x.v=c):∀{D:List EN},(∀x∈D,x.v≠c)→QcY c (QK (D++x::R))=some x.t.tm
 |[],_=>by
  show QcY c ((x.v,x.t.tm)::QK R)=_
  simp only [QcY];rw [if_pos hx.symm]
 |y::D,h=>by
  show QcY c ((y.v,y.t.tm)::QK (D++x::R))=_
  simp only [QcY]
  rw [if_neg fun e=>h y (List.mem_cons_self ..) e.symm]
  exact QrA hx fun z hz=>h z (List.mem_cons_of_mem _ hz)
section
variable {P:Program} {n:Nat} {e:Env} {w:World} {ty:TypeId} {pos:String} {after:Array Edge} {dst:Option Nat} {x y:Operand} {t t2:TypeId}
theorem Qju {el:TypeId} {q:Option Addr} (hx:ev n e x= .pointer q) (hy:ev n e y= .pointer none) (hT:QfX P t=some el):
  (execOp (ev n e) ⟨dst,.binOp .neq t x y t2,ty,pos,after,none⟩).run P w= .ok (.value (.bool (!q.isNone))) w:=by
 have h1:=QdC (w:=w) (q:=q) hT
 have h2:(execOp (ev n e) ⟨dst,.binOp .neq t x y t2,ty,pos,after,none⟩)=(Op.equal t (.pointer q) (.pointer none)).bind fun r=> .pure (.value (.bool (!r))):=by
  simp only [execOp,hx,hy,eqGuard,binOp]
  simp only [bind,pure,Bool.not_true,Bool.false_eq_true,if_false,Sem.bind]
  exact (Sem.bind_assoc' _ _ _)
 rw [h2,Sem.run_bind',h1]
 rfl
theorem QkB {el:TypeId} (hx:ev n e x= .pointer none) (hy:ev n e y= .pointer none) (hT:QfX P t=some el):
  (execOp (ev n e) ⟨dst,.binOp .neq t x y t2,ty,pos,after,none⟩).run P w= .ok (.value (.bool false)) w:=Qju hx hy hT
theorem Qjt {el:TypeId} {a:Addr} (hx:ev n e x= .pointer (some a)) (hy:ev n e y= .pointer none) (hT:QfX P t=some el):
  (execOp (ev n e) ⟨dst,.binOp .neq t x y t2,ty,pos,after,none⟩).run P w= .ok (.value (.bool true)) w:=Qju hx hy hT
end
end Go.Proofs.YthliapbflkfdiacGreatDoor
