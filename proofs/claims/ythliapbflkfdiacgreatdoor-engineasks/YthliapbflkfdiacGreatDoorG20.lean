/- RefS1, GSim, GRun, TSim, DRun, PSim1, PModel, PSim2, PSim3: texts that follow one another, laid into one file. -/
import Derived.Test.YthliapbflkfdiacGreatDoorZ0
import Derived.Test.YthliapbflkfdiacGreatDoorG19
import Derived.Test.YthliapbflkfdiacGreatDoorG0
import Derived.Test.YthliapbflkfdiacGreatDoorG7
import Derived.Test.YthliapbflkfdiacGreatDoorG8
import Derived.Test.YthliapbflkfdiacGreatDoorG10
import Derived.Test.YthliapbflkfdiacGreatDoorG13
namespace Go.Proofs.YthliapbflkfdiacGreatDoor
open Go.RowKit
set_option linter.unusedVariables false
set_option linter.unusedSimpArgs false
set_option maxRecDepth 100000
set_option maxHeartbeats 1000000
abbrev tyE:TypeId:=221
section
variable {M:List Nat} {w0:World} {H:List (Nat×Obj)} {F:List (World→Prop)}
theorem Qds (E:List EN) (t:LT) (w:World) (hE:Und F (ERd tyE E)) (ht:Und F (LRd t)) (hB:Bok (QK E)) (hS:St M w0 H F w):
  Calls Tryz.prog 160 #[Qgk E,tv t] w fun e w'=>∃u:LT,e= .returned (tv u)∧u.tm=Qc (QK E) t.tm∧Und F (LRd u)∧(u=t∨∃x∈E,u=x.t)∧St M w0 H F w':=by
 refine Qh Tryz.func160 rfl Tryz.ntmps160 rfl ?_
 refine Zi ?_
 clear hS
 intro b1 wx1 hS
 refine ZY ?_
 clear hS
 intro b2 wx2 hS
 refine Zdy ?_
 refine Zd ?_
 refine Za9 ?_
 refine Qp 5 (7::8::9::10::11::12::13::14::15::16::17::18::19::20::21::22::23::24::25::26::27::28::29::[]) (fun (m:Nat) v w'=>∃(c:LT) (D R:List EN) (p:Nat),E=D++R∧v=Qgk R∧QhZ (QK E) p c.tm∧Qc (QK E) c.tm=Qc (QK E) t.tm∧Und F (LRd c)∧(c=t∨∃x∈E,c=x.t)∧(∀x∈D,x.v≠c.n)∧m=p*(E.length+1)+R.length∧St M w0 ((b2,.cells [.int .i64 0,.int .i64 0,.string ⟨#[]⟩,.slice none 0 0].toArray 63)::(b1,.cells (tcs c).toArray 63)::H) F w') (fun m=>m) ((QK E).length*(E.length+1)+E.length) ?_ Yb ?_
 ·exact ⟨t,[],E,(QK E).length,rfl,rfl,QhZ.start _ _,rfl,ht,.inl rfl,fun x hx=>(by cases hx),rfl,hS⟩
 clear hS
 rintro m _ w2 jv ⟨c,D,R,p,hD,rfl,hcl,hlk,hc,hcm,hno,hm,hS⟩ ih
 cases R with
 |nil=>
  have e0:E=D:=by rw [hD,List.append_nil]
  have hres:c.tm=Qc (QK E) t.tm:=by
   rw [←hlk]
   by_cases hk:c.k=0
   ·exact (QcI (t:=c.tm) (QrB fun x hx=>hno x (by rw [←e0];exact hx))).symm
   ·exact (Qak (t:=c.tm) hk).symm
  refine ZF ?_
  refine ZeW ?_
  refine Zal ?_
  refine Zbk ?_
  refine Zk ?_
  refine ZfN ?_
  clear hS
  intro wx3 hS
  refine Zb ?_
  refine Zju ?_
  exact ⟨c,rfl,hres,hc,hcm,hS.drop.drop⟩
 |cons x R=>
  have hE2:Und F (ERd tyE (x::R)):=fun w hw=>by
   have:=hE w hw
   rw [hD] at this;exact this.skip
  have hcc:∀{H'} w',St M w0 H' F w'→_:=fun w' hS=>(hS.und hE2).cells
  by_cases hk:c.k=0
  ·by_cases hv:x.v=c.n
   ·have hget:QcY c.tm.n (QK E)=some x.t.tm:=by rw [hD];exact QrA hv hno
    obtain ⟨p',hp',hcl'⟩:=hcl.step hB hk hget
    have hlk':Qc (QK E) x.t.tm=Qc (QK E) t.tm:=by rw [←hlk,QfA hB hk hget]
    have hxr:Und F (LRd x.t):=fun w hw=>(hE2 w hw).2.1
    refine ZF ?_
    refine ZeW ?_
    refine ZeC ?_
    refine ZhE ?_
    refine Zm ?_
    refine Zex ?_
    refine ZbF ?_
    refine Zp ?_
    refine Zio ?_
    replace hS:=hS.drew
    refine Zaq ?_
    refine ZhF ?_
    refine ZcB ?_
    refine ZhF ?_
    refine ZdZ ?_
    refine Zae ?_
    refine Za5 ?_
    refine Zfr ?_
    refine Zjv ?_
    refine Zf ?_
    refine Zc ?_
    clear hS
    intro wx3 hS
    refine Za1 ?_
    have hlt:p'*(E.length+1)+E.length<p*(E.length+1)+(x::R).length:=by
     have h1:(p'+1)*(E.length+1)≤p*(E.length+1):=Nat.mul_le_mul_right _ hp'
     rw [Nat.add_mul] at h1
     simp only [List.length_cons];omega
    refine ih (p'*(E.length+1)+E.length) _ _ _ ?_ ?_ Yb Yc
    ·rw [hm];exact hlt
    ·exact ⟨x.t,[],E,p',rfl,rfl,hcl',hlk',hxr,.inr ⟨x,by rw [hD];simp,rfl⟩,fun y hy=>(by cases hy),rfl,hS⟩
   ·refine ZF ?_
    refine ZeW ?_
    refine ZeC ?_
    refine ZhE ?_
    refine Zm ?_
    refine Zex ?_
    refine ZbF ?_
    refine Zp ?_
    refine Zio ?_
    replace hS:=hS.drew
    refine Zaq ?_
    refine ZhF ?_
    refine ZcB ?_
    refine ZhF ?_
    refine ZdZ ?_
    refine Zae ?_
    refine Zd6 ?_
    refine Zx ?_
    refine ZR ?_
    refine ZaN ?_
    refine ZhE ?_
    refine Za1 ?_
    refine ih (p*(E.length+1)+R.length) _ _ _ ?_ ?_ Yb Yc
    ·rw [hm];simp only [List.length_cons];omega
    ·refine ⟨c,D++[x],R,p,by rw [hD];simp,rfl,hcl,hlk,hc,hcm,fun y hy=> ?_,rfl,hS⟩
     rcases List.mem_append.1 hy with hy|hy
     ·exact hno y hy
     ·rw [List.mem_singleton.1 hy];exact hv
  ·have hres:c.tm=Qc (QK E) t.tm:=by rw [←hlk];exact (Qak (t:=c.tm) hk).symm
   refine ZF ?_
   refine ZeW ?_
   refine ZeC ?_
   refine ZhE ?_
   refine Zm ?_
   refine Zr ?_
   refine Zbk ?_
   refine Zk ?_
   refine Zjv ?_
   refine Zc ?_
   clear hS
   intro wx3 hS
   refine Zb ?_
   refine Zju ?_
   exact ⟨c,rfl,hres,hc,hcm,hS.drop.drop⟩
end
inductive Vw (X:Type) where
 |var (v:Int)
 |node (k n:Int) (s:ByteArray) (ar:List X)
def Vw.sub {X:Type} (a:Vw X) (v:Int) (t:Vw X):Vw X:=match a with
 | .var u=>if u=v then t else .var u
 | .node k n s ar=> .node k n s ar
inductive Al {X Y:Type} (R:X→Y→Prop):List X→List Y→Prop
 |nil:Al R [] []
 |cons {x:X} {y:Y} {l:List X} {m:List Y}:R x y→Al R l m→Al R (x::l) (y::m)
theorem Al.len {X Y:Type} {R:X→Y→Prop} {l:List X} {m:List Y} (h:Al R l m):l.length=m.length:=by
 induction h with
 |nil=>rfl
 |cons _ _ ih=>simp [ih]
theorem Al.imp {X Y:Type} {R Q:X→Y→Prop} (hi:∀x y,R x y→Q x y) {l:List X} {m:List Y} (h:Al R l m):Al Q l m:=by
 induction h with
 |nil=>exact .nil
 |cons h _ ih=>exact .cons (hi _ _ h) ih
theorem Al.app {X Y:Type} {R:X→Y→Prop} {l l':List X} {m m':List Y} (h:Al R l m) (h':Al R l' m'):Al R (l++l') (m++m'):=by
 induction h with
 |nil=>exact h'
 |cons h _ ih=>exact .cons h ih
structure Sy where
 X:Type
 S:Type
 ok:S→Prop
 dom:S→X→Prop
 view:S→X→Vw X
 bind:S→Int→X→S
 join:S→X→X→S
structure Sy.Law (A:Sy):Prop where
 bind_ok:∀{σ x v t k n s ar},A.ok σ→A.dom σ x→A.dom σ t→A.view σ x= .var v→A.view σ t= .node k n s ar→A.ok (A.bind σ v t)
 bind_dom:∀{σ v t y},A.dom σ y→A.dom (A.bind σ v t) y
 bind_view:∀{σ x v t k n s ar y},A.ok σ→A.dom σ x→A.dom σ t→A.view σ x= .var v→A.view σ t= .node k n s ar→A.dom σ y→A.view (A.bind σ v t) y=(A.view σ y).sub v (A.view σ t)
 join_ok:∀{σ a b u v},A.ok σ→A.dom σ a→A.dom σ b→A.view σ a= .var u→A.view σ b= .var v→u≠v→A.ok (A.join σ a b)
 join_dom:∀{σ a b y},A.dom σ y→A.dom (A.join σ a b) y
 join_view:∀{σ a b u v},A.ok σ→A.dom σ a→A.dom σ b→A.view σ a= .var u→A.view σ b= .var v→u≠v→
  (∀y,A.dom σ y→A.view (A.join σ a b) y=(A.view σ y).sub u (.var v))∨(∀y,A.dom σ y→A.view (A.join σ a b) y=(A.view σ y).sub v (.var u))
section
variable {A:Sy}
def QfE {X:Type} (g:X→Nat→Bool×Nat):List X→Nat→Bool×Nat
 |[],w=>(false,w)
 |x::r,w=>if (g x w).1=true then (true,(g x w).2) else QfE g r (g x w).2
def Qdx (A:Sy) (σ:A.S) (v:Int):Nat→A.X→Nat→Bool×Nat
 |0,_,w=>(false,w+1)
 |f+1,x,w=>if 400<w+1 then (false,w+1) else match A.view σ x with
  | .var u=>(decide (u=v),w+1)
  | .node _ _ _ ar=>QfE (Qdx A σ v f) ar (w+1)
structure Ug (S:Type) where
 ok:Bool
 s:S
 w:Nat
def Qiq {X S:Type} (g:X→X→S→Nat→Ug S):List X→List X→S→Nat→Ug S
 |x::r,y::r',σ,w=>if (g x y σ w).ok=true then Qiq g r r' (g x y σ w).s (g x y σ w).w else g x y σ w
 |_,_,σ,w=>⟨true,σ,w⟩
def QlX (A:Sy) (v:Int) (t:A.X) (σ:A.S) (w:Nat):Ug A.S:=
 if (Qdx A σ v 401 t w).1=true∨400<(Qdx A σ v 401 t w).2 then ⟨false,σ,(Qdx A σ v 401 t w).2⟩ else ⟨true,A.bind σ v t,(Qdx A σ v 401 t w).2⟩
def QbM (A:Sy):Nat→A.X→A.X→A.S→Nat→Ug A.S
 |0,_,_,σ,w=>⟨false,σ,w+1⟩
 |f+1,a,b,σ,w=>if 400<w+1 then ⟨false,σ,w+1⟩ else match A.view σ a,A.view σ b with
  | .var u,.var v=>⟨true,if u=v then σ else A.join σ a b,w+1⟩
  | .var u,.node _ _ _ _=>QlX A u b σ (w+1)
  | .node _ _ _ _,.var v=>QlX A v a σ (w+1)
  | .node k n s ar,.node k' n' s' ar'=>if k=k'∧n=n'∧s=s'∧ar.length=ar'.length then Qiq (QbM A f) ar ar' σ (w+1) else ⟨false,σ,w+1⟩
def QdB {X:Type} (g:X→Nat→Option (Tm×Nat)):List X→Nat→Option (Ts×Nat)
 |[],l=>some (.nil,l)
 |x::r,l=>match g x l with
  |none=>none
  |some (t,l')=>match QdB g r l' with
   |none=>none
   |some (T,l'')=>some (.cons t.k t.n t.s t.ar T,l'')
def QdT (A:Sy) (σ:A.S):Nat→A.X→Nat→Option (Tm×Nat)
 |0,_,_=>none
 |f+1,x,l=>if l=0 then none else match A.view σ x with
  | .var u=>some (⟨0,u,⟨#[]⟩,.nil⟩,l-1)
  | .node k n s ar=>match QdB (QdT A σ f) ar (l-1) with
   |none=>none
   |some (T,l')=>some (⟨k,n,s,T⟩,l')
end
section
variable {A B:Sy} {R:A.X→B.X→Prop} {σ:A.S} {τ:B.S}
def VwR {X Y:Type} (R:X→Y→Prop):Vw X→Vw Y→Prop
 | .var _,.var _=>True
 | .node k n s ar,.node k' n' s' ar'=>k=k'∧n=n'∧s=s'∧Al R ar ar'
 |_,_=>False
theorem VwR.imp {X Y:Type} {R Q:X→Y→Prop} (hi:∀x y,R x y→Q x y):∀{a:Vw X} {b:Vw Y},VwR R a b→VwR Q a b
 | .var _,.var _,_=>trivial
 | .node _ _ _ _,.node _ _ _ _,h=>⟨h.1,h.2.1,h.2.2.1,h.2.2.2.imp hi⟩
structure Bm (A B:Sy) (R:A.X→B.X→Prop) (σ:A.S) (τ:B.S):Prop where
 oka:A.ok σ
 okb:B.ok τ
 da:∀{x y},R x y→A.dom σ x
 db:∀{x y},R x y→B.dom τ y
 vw:∀{x y},R x y→VwR R (A.view σ x) (B.view τ y)
 vr:∀{x y x' y' u u' v v'},R x y→R x' y'→A.view σ x= .var u→A.view σ x'= .var u'→B.view τ y= .var v→B.view τ y'= .var v'→(u=u'↔v=v')
theorem Bm.cases (h:Bm A B R σ τ) {x:A.X} {y:B.X} (hr:R x y):(∃u v,A.view σ x= .var u∧B.view τ y= .var v)∨∃k n s ar ar',A.view σ x= .node k n s ar∧B.view τ y= .node k n s ar'∧Al R ar ar':=by
 have:=h.vw hr
 cases hx:A.view σ x with
 |var u=>
  cases hy:B.view τ y with
  |var v=>exact .inl ⟨u,v,rfl,rfl⟩
  |node k n s ar=>rw [hx,hy] at this;exact this.elim
 |node k n s ar=>
  cases hy:B.view τ y with
  |var v=>rw [hx,hy] at this;exact this.elim
  |node k' n' s' ar'=>
   rw [hx,hy] at this
   obtain ⟨rfl,rfl,rfl,h4⟩:=this
   exact .inr ⟨k,n,s,ar,ar',rfl,rfl,h4⟩
theorem Bm.bind (hA:A.Law) (hB:B.Law) (h:Bm A B R σ τ) {x t:A.X} {y t':B.X} {v v':Int} {k n:Int} {s:ByteArray} {ar:List A.X} {ar':List B.X} (hx:R x y) (ht:R t t') (hv:A.view σ x= .var v) (hv':B.view τ y= .var v') (htv:A.view σ t= .node k n s ar) (htv':B.view τ t'= .node k n s ar') (hal:Al R ar ar'):
  Bm A B R (A.bind σ v t) (B.bind τ v' t'):=by
 have ea:=fun {z:A.X} (hz:A.dom σ z)=>hA.bind_view (y:=z) h.oka (h.da hx) (h.da ht) hv htv hz
 have eb:=fun {z:B.X} (hz:B.dom τ z)=>hB.bind_view (y:=z) h.okb (h.db hx) (h.db ht) hv' htv' hz
 refine ⟨hA.bind_ok h.oka (h.da hx) (h.da ht) hv htv,hB.bind_ok h.okb (h.db hx) (h.db ht) hv' htv',fun hr=>hA.bind_dom (h.da hr),fun hr=>hB.bind_dom (h.db hr),fun {p q} hr=> ?_,?_⟩
 ·rw [ea (h.da hr),eb (h.db hr)]
  rcases h.cases hr with ⟨u,u',e,e'⟩|⟨k2,n2,s2,r2,r2',e,e',ha⟩
  ·have:=h.vr hr hx e hv e' hv'
   rw [e,e']
   simp only [Vw.sub]
   by_cases he:u=v
   ·rw [if_pos he,if_pos (this.1 he),htv,htv'];exact ⟨rfl,rfl,rfl,hal⟩
   ·rw [if_neg he,if_neg fun e2=>he (this.2 e2)];trivial
  ·rw [e,e'];exact ⟨rfl,rfl,rfl,ha⟩
 ·intro p q p' q' u u' w w' hr hr' e1 e2 e3 e4
  rw [ea (h.da hr)] at e1
  rw [ea (h.da hr')] at e2
  rw [eb (h.db hr)] at e3
  rw [eb (h.db hr')] at e4
  rcases h.cases hr with ⟨c,c',f1,f2⟩|⟨k2,n2,s2,r2,r2',f1,f2,_⟩
  ·rcases h.cases hr' with ⟨d,d',g1,g2⟩|⟨k2,n2,s2,r2,r2',g1,g2,_⟩
   ·rw [f1] at e1
    rw [g1] at e2
    rw [f2] at e3
    rw [g2] at e4
    simp only [Vw.sub] at e1 e2 e3 e4
    split at e1
    ·rw [htv] at e1;cases e1
    split at e2
    ·rw [htv] at e2;cases e2
    split at e3
    ·rw [htv'] at e3;cases e3
    split at e4
    ·rw [htv'] at e4;cases e4
    cases e1;cases e2;cases e3;cases e4
    exact h.vr hr hr' f1 g1 f2 g2
   ·rw [g1] at e2;simp only [Vw.sub] at e2;cases e2
  ·rw [f1] at e1;simp only [Vw.sub] at e1;cases e1
theorem Bm.join (hA:A.Law) (hB:B.Law) (h:Bm A B R σ τ) {a b:A.X} {a' b':B.X} {u v u' v':Int} (ha:R a a') (hb:R b b') (hu:A.view σ a= .var u) (hv:A.view σ b= .var v) (hu':B.view τ a'= .var u') (hv':B.view τ b'= .var v') (hne:u≠v):
  Bm A B R (A.join σ a b) (B.join τ a' b'):=by
 have hne':u'≠v':=fun e=>hne ((h.vr ha hb hu hv hu' hv').2 e)
 have ja:=hA.join_view h.oka (h.da ha) (h.da hb) hu hv hne
 have jb:=hB.join_view h.okb (h.db ha) (h.db hb) hu' hv' hne'
 have key : ∀ (p q : Int) (p' q' : Int), ((p = u ∧ q = v) ∨ (p = v ∧ q = u)) → ((p' = u' ∧ q' = v') ∨ (p' = v' ∧ q' = u')) → (∀ y, A.dom σ y → A.view (A.join σ a b) y = (A.view σ y).sub p (.var q)) → (∀ y, B.dom τ y → B.view (B.join τ a' b') y = (B.view τ y).sub p' (.var q')) → Bm A B R (A.join σ a b) (B.join τ a' b') := by
  intro p q p' q' hp hp' ea eb
  refine ⟨hA.join_ok h.oka (h.da ha) (h.da hb) hu hv hne,hB.join_ok h.okb (h.db ha) (h.db hb) hu' hv' hne',fun hr=>hA.join_dom (h.da hr),fun hr=>hB.join_dom (h.db hr),fun {c d} hr=> ?_,?_⟩
  ·rw [ea _ (h.da hr),eb _ (h.db hr)]
   rcases h.cases hr with ⟨w,w',e,e'⟩|⟨k2,n2,s2,r2,r2',e,e',hal⟩
   ·rw [e,e']
    simp only [Vw.sub]
    split<;>split<;>trivial
   ·rw [e,e'];exact ⟨rfl,rfl,rfl,hal⟩
  ·intro x y x' y' c c' d d' hr hr' e1 e2 e3 e4
   rw [ea _ (h.da hr)] at e1
   rw [ea _ (h.da hr')] at e2
   rw [eb _ (h.db hr)] at e3
   rw [eb _ (h.db hr')] at e4
   rcases h.cases hr with ⟨x1,y1,f1,f2⟩|⟨k2,n2,s2,r2,r2',f1,f2,_⟩
   ·rcases h.cases hr' with ⟨x2,y2,g1,g2⟩|⟨k2,n2,s2,r2,r2',g1,g2,_⟩
    ·have i1:=h.vr hr hr' f1 g1 f2 g2
     have i2:=h.vr hr ha f1 hu f2 hu'
     have i3:=h.vr hr hb f1 hv f2 hv'
     have i4:=h.vr hr' ha g1 hu g2 hu'
     have i5:=h.vr hr' hb g1 hv g2 hv'
     rw [f1] at e1
     rw [g1] at e2
     rw [f2] at e3
     rw [g2] at e4
     simp only [Vw.sub] at e1 e2 e3 e4
     have t1:c=if x1=p then q else x1:=by
      split at e1<;>(cases e1;rename_i hh;simp [hh])
     have t2:c'=if x2=p then q else x2:=by
      split at e2<;>(cases e2;rename_i hh;simp [hh])
     have t3:d=if y1=p' then q' else y1:=by
      split at e3<;>(cases e3;rename_i hh;simp [hh])
     have t4:d'=if y2=p' then q' else y2:=by
      split at e4<;>(cases e4;rename_i hh;simp [hh])
     clear e1 e2 e3 e4 ea eb ja jb
     rcases hp with ⟨rfl,rfl⟩|⟨rfl,rfl⟩<;>rcases hp' with ⟨rfl,rfl⟩|⟨rfl,rfl⟩<;>(subst t1 t2 t3 t4;split<;>split<;>split<;>split<;>omega)
    ·rw [g1] at e2;simp only [Vw.sub] at e2;cases e2
   ·rw [f1] at e1;simp only [Vw.sub] at e1;cases e1
 rcases ja with ja|ja<;>rcases jb with jb|jb
 ·exact key u v u' v' (.inl ⟨rfl,rfl⟩) (.inl ⟨rfl,rfl⟩) ja jb
 ·exact key u v v' u' (.inl ⟨rfl,rfl⟩) (.inr ⟨rfl,rfl⟩) ja jb
 ·exact key v u u' v' (.inr ⟨rfl,rfl⟩) (.inl ⟨rfl,rfl⟩) ja jb
 ·exact key v u v' u' (.inr ⟨rfl,rfl⟩) (.inr ⟨rfl,rfl⟩) ja jb
theorem QyV {X Y:Type} {R:X→Y→Prop} {g:X→Nat→Bool×Nat} {g':Y→Nat→Bool×Nat} (hg:∀x y w,R x y→g x w=g' y w) {l:List X} {m:List Y} (h:Al R l m):∀w,QfE g l w=QfE g' m w:=by
 induction h with
 |nil=>intro w;rfl
 |cons h _ ih=>intro w;simp only [QfE];rw [hg _ _ w h,ih]
theorem Quq (h:Bm A B R σ τ) {x0:A.X} {y0:B.X} {v v':Int} (h0:R x0 y0) (hv:A.view σ x0= .var v) (hv':B.view τ y0= .var v'):∀(f:Nat) (x:A.X) (y:B.X) (w:Nat),R x y→Qdx A σ v f x w=Qdx B τ v' f y w
 |0,x,y,w,hr=>rfl
 |f+1,x,y,w,hr=>by
  simp only [Qdx]
  split
  ·rfl
  ·rcases h.cases hr with ⟨u,u',e,e'⟩|⟨k,n,s,ar,ar',e,e',ha⟩
   ·rw [e,e']
    have:=h.vr hr h0 e hv e' hv'
    show (decide (u=v),_)=(decide (u'=v'),_)
    rw [show decide (u=v)=decide (u'=v') from by by_cases hh:u=v<;>simp [hh,←this]]
   ·rw [e,e']
    exact QyV (fun x y w hr=>Quq h h0 hv hv' f x y w hr) ha _
def UgR (A B:Sy) (R:A.X→B.X→Prop) (r:Ug A.S) (r':Ug B.S):Prop:=r.ok=r'.ok∧r.w=r'.w∧Bm A B R r.s r'.s
theorem QyW {g:A.X→A.X→A.S→Nat→Ug A.S} {g':B.X→B.X→B.S→Nat→Ug B.S} (hg:∀a b a' b' σ τ w,Bm A B R σ τ→R a a'→R b b'→UgR A B R (g a b σ w) (g' a' b' τ w)) {l l2:List A.X} {m m2:List B.X} (h:Al R l m) (h2:Al R l2 m2):
  ∀(σ:A.S) (τ:B.S) (w:Nat),Bm A B R σ τ→UgR A B R (Qiq g l l2 σ w) (Qiq g' m m2 τ w):=by
 induction h generalizing l2 m2 with
 |nil=>intro σ τ w hb;cases h2<;>exact ⟨rfl,rfl,hb⟩
 |cons h _ ih=>
  intro σ τ w hb
  cases h2 with
  |nil=>exact ⟨rfl,rfl,hb⟩
  |cons h2 h3=>
   simp only [Qiq]
   obtain ⟨e1,e2,e3⟩:=hg _ _ _ _ σ τ w hb h h2
   rw [←e1]
   split
   ·rw [←e2];exact ih h3 _ _ _ e3
   ·exact ⟨e1,e2,e3⟩
theorem QvH (hA:A.Law) (hB:B.Law) (h:Bm A B R σ τ) {x t:A.X} {y t':B.X} {v v':Int} {k n:Int} {s:ByteArray} {ar:List A.X} {ar':List B.X} (hx:R x y) (ht:R t t') (hv:A.view σ x= .var v) (hv':B.view τ y= .var v') (htv:A.view σ t= .node k n s ar) (htv':B.view τ t'= .node k n s ar') (hal:Al R ar ar') (w:Nat):
  UgR A B R (QlX A v t σ w) (QlX B v' t' τ w):=by
 unfold QlX
 rw [Quq h hx hv hv' 401 t t' w ht]
 split
 ·exact ⟨rfl,rfl,h⟩
 ·exact ⟨rfl,rfl,h.bind hA hB hx ht hv hv' htv htv' hal⟩
theorem Qpi (hA:A.Law) (hB:B.Law):∀(f:Nat) (a b:A.X) (a' b':B.X) (σ:A.S) (τ:B.S) (w:Nat),Bm A B R σ τ→R a a'→R b b'→UgR A B R (QbM A f a b σ w) (QbM B f a' b' τ w)
 |0,a,b,a',b',σ,τ,w,h,_,_=>⟨rfl,rfl,h⟩
 | f + 1, a, b, a', b', σ, τ, w, h, ha, hb => by
  simp only [QbM]
  split
  ·exact ⟨rfl,rfl,h⟩
  ·rcases h.cases ha with ⟨u,u',e1,e2⟩|⟨k,n,s,ar,ar',e1,e2,hal⟩
   ·rcases h.cases hb with ⟨v,v',e3,e4⟩|⟨k,n,s,ar,ar',e3,e4,hal⟩
    ·rw [e1,e2,e3,e4]
     have:=h.vr ha hb e1 e3 e2 e4
     by_cases hh:u=v
     ·refine ⟨rfl,rfl,?_⟩
      show Bm A B R (if u=v then σ else A.join σ a b) (if u'=v' then τ else B.join τ a' b')
      rw [if_pos hh,if_pos (this.1 hh)];exact h
     ·refine ⟨rfl,rfl,?_⟩
      show Bm A B R (if u=v then σ else A.join σ a b) (if u'=v' then τ else B.join τ a' b')
      rw [if_neg hh,if_neg fun e=>hh (this.2 e)]
      exact h.join hA hB ha hb e1 e3 e2 e4 hh
    ·rw [e1,e2,e3,e4]
     exact QvH hA hB h ha hb e1 e2 e3 e4 hal _
   ·rcases h.cases hb with ⟨v,v',e3,e4⟩|⟨k2,n2,s2,ar2,ar2',e3,e4,hal2⟩
    ·rw [e1,e2,e3,e4]
     exact QvH hA hB h hb ha e3 e4 e1 e2 hal _
    ·rw [e1,e2,e3,e4]
     show UgR A B R (if _ then _ else _) (if _ then _ else _)
     rw [←hal.len,←hal2.len]
     split
     ·exact QyW (fun a b a' b' σ τ w hb ha hb'=>Qpi hA hB f a b a' b' σ τ w hb ha hb') hal hal2 _ _ _ h
     ·exact ⟨rfl,rfl,h⟩
inductive TsR (ρ:Int→Int→Prop):Ts→Ts→Prop
 |nil:TsR ρ .nil .nil
 |var {n n':Int} {s:ByteArray} {r r':Ts}:ρ n n'→TsR ρ r r'→TsR ρ (.cons 0 n s .nil r) (.cons 0 n' s .nil r')
 |node {k n:Int} {s:ByteArray} {ar ar' r r':Ts}:k≠0→TsR ρ ar ar'→TsR ρ r r'→TsR ρ (.cons k n s ar r) (.cons k n s ar' r')
def Qy9 {P Q:Type} (R:P→Q→Prop):Option P→Option Q→Prop
 |none,none=>True
 |some p,some q=>R p q
 |_,_=>False
def TmR (ρ:Int→Int→Prop) (p q:Tm×Nat):Prop:=p.2=q.2∧TsR ρ (.cons p.1.k p.1.n p.1.s p.1.ar .nil) (.cons q.1.k q.1.n q.1.s q.1.ar .nil)
theorem TsR.put {ρ:Int→Int→Prop} {k n k' n':Int} {s s':ByteArray} {a a' r r':Ts} (h:TsR ρ (.cons k n s a .nil) (.cons k' n' s' a' .nil)) (hr:TsR ρ r r'):TsR ρ (.cons k n s a r) (.cons k' n' s' a' r'):=by
 cases h with
 |var h _=>exact .var h hr
 |node h1 h2 _=>exact .node h1 h2 hr
theorem QyE {X Y:Type} {R:X→Y→Prop} {ρ:Int→Int→Prop} {g:X→Nat→Option (Tm×Nat)} {g':Y→Nat→Option (Tm×Nat)} (hg:∀x y l,R x y→Qy9 (TmR ρ) (g x l) (g' y l)) {l:List X} {m:List Y} (h:Al R l m):∀w,Qy9 (fun p q:Ts×Nat=>p.2=q.2∧TsR ρ p.1 q.1) (QdB g l w) (QdB g' m w):=by
 induction h with
 |nil=>intro w;exact ⟨rfl,.nil⟩
 | @cons x y l m h _ ih=>
  intro w
  simp only [QdB]
  have h1:=hg x y w h
  cases e1:g x w with
  |none=>
   cases e2:g' y w with
   |none=>trivial
   |some q=>rw [e1,e2] at h1;exact h1.elim
  |some p=>
   cases e2:g' y w with
   |none=>rw [e1,e2] at h1;exact h1.elim
   |some q=>
    rw [e1,e2] at h1
    obtain ⟨p1,p2⟩:=p
    obtain ⟨q1,q2⟩:=q
    obtain ⟨rfl,h3⟩:p2=q2∧_:=h1
    have h4:=ih p2
    dsimp only
    cases e3:QdB g l p2 with
    |none=>
     cases e4:QdB g' m p2 with
     |none=>trivial
     |some q=>rw [e3,e4] at h4;exact h4.elim
    |some p'=>
     cases e4:QdB g' m p2 with
     |none=>rw [e3,e4] at h4;exact h4.elim
     |some q'=>
      rw [e3,e4] at h4
      exact ⟨h4.1,h3.put h4.2⟩
def Bm.rho (A B:Sy) (R:A.X→B.X→Prop) (σ:A.S) (τ:B.S) (u v:Int):Prop:=∃x y,R x y∧A.view σ x= .var u∧B.view τ y= .var v
theorem Bm.inj (h:Bm A B R σ τ) {u v u' v':Int} (h1:Bm.rho A B R σ τ u v) (h2:Bm.rho A B R σ τ u' v'):u=u'↔v=v':=by
 obtain ⟨x,y,a,b,c⟩:=h1
 obtain ⟨x',y',a',b',c'⟩:=h2
 exact h.vr a a' b b' c c'
theorem Qqg (h:Bm A B R σ τ) (hz:∀{x k n s ar},A.view σ x= .node k n s ar→A.dom σ x→k≠0):∀(f:Nat) (x:A.X) (y:B.X) (l:Nat),R x y→Qy9 (TmR (Bm.rho A B R σ τ)) (QdT A σ f x l) (QdT B τ f y l)
 |0,x,y,l,hr=>trivial
 | f + 1, x, y, l, hr => by
  simp only [QdT]
  split
  ·trivial
  ·rcases h.cases hr with ⟨u,u',e,e'⟩|⟨k,n,s,ar,ar',e,e',ha⟩
   ·rw [e,e']
    exact ⟨rfl,.var ⟨x,y,hr,e,e'⟩ .nil⟩
   ·rw [e,e']
    have h4:=QyE (fun x y l hr=>Qqg h hz f x y l hr) ha (l-1)
    dsimp only
    cases e3:QdB (QdT A σ f) ar (l-1) with
    |none=>
     cases e4:QdB (QdT B τ f) ar' (l-1) with
     |none=>trivial
     |some q=>rw [e3,e4] at h4;exact h4.elim
    |some p'=>
     cases e4:QdB (QdT B τ f) ar' (l-1) with
     |none=>rw [e3,e4] at h4;exact h4.elim
     |some q'=>
      rw [e3,e4] at h4
      exact ⟨h4.1,.node (hz e (h.da hr)) h4.2 .nil⟩
end
section
variable {A:Sy} {σ:A.S} {v:Int}
theorem QxU {X:Type} {g:X→Nat→Bool×Nat} (hg:∀x w,w≤(g x w).2):∀(l:List X) (w:Nat),w≤(QfE g l w).2
 |[],w=>Nat.le_refl _
 |x::r,w=>by
  simp only [QfE]
  split
  ·exact hg x w
  ·exact Nat.le_trans (hg x w) (QxU hg r _)
theorem Qn2 (f:Nat) (x:A.X) (w:Nat):Qdx A σ v (f+1) x w=if 400<w+1 then (false,w+1) else match A.view σ x with
  | .var u=>(decide (u=v),w+1)
  | .node _ _ _ ar=>QfE (Qdx A σ v f) ar (w+1):=rfl
theorem Qn3:∀(f:Nat) (x:A.X) (w:Nat),w+1≤(Qdx A σ v f x w).2
 |0,x,w=>Nat.le_refl _
 |f+1,x,w=>by
  simp only [Qdx]
  split
  ·exact Nat.le_refl _
  ·cases A.view σ x with
   |var u=>exact Nat.le_refl _
   |node k n s ar=>exact QxU (fun x w=>Nat.le_of_succ_le (Qn3 f x w)) ar (w+1)
theorem QiI (f:Nat) (x:A.X) {w:Nat} (h:400≤w):Qdx A σ v f x w=(false,w+1):=by
 cases f with
 |zero=>rfl
 |succ f=>simp only [Qdx];rw [if_pos Ya]
theorem QhV {X:Type} {g g':X→Nat→Bool×Nat} {k:Nat} (hw:∀x w,w≤(g x w).2) (hg:∀x w,k≤w→g x w=g' x w):∀(l:List X) (w:Nat),k≤w→QfE g l w=QfE g' l w
 |[],w,_=>rfl
 |x::r,w,h=>by
  simp only [QfE]
  rw [←hg x w h]
  split
  ·rfl
  ·exact QhV hw hg r _ (Nat.le_trans h (hw x w))
theorem Qn4:∀(f g:Nat) (x:A.X) (w:Nat),400≤w+f→400≤w+g→Qdx A σ v f x w=Qdx A σ v g x w
 |f,g,x,w,hf,hg=>by
  by_cases h:400≤w
  ·rw [QiI f x h,QiI g x h]
  ·match f,g,hf,hg with
   |0,_,hf,_=>omega
   |_+1,0,_,hg=>omega
   |f+1,g+1,hf,hg=>
    simp only [Qdx]
    rw [if_neg Ya,if_neg Ya]
    cases A.view σ x with
    |var u=>rfl
    |node k n s ar=>exact QhV (k:=w+1) (fun x w=>Nat.le_of_succ_le (Qn3 f x w)) (fun x w' h=>Qn4 f g x w' Ya Ya) ar (w+1) (Nat.le_refl _)
def Qc9 (A:Sy) (σ:A.S) (v:Int) (l:List A.X) (w:Nat):Bool×Nat:=QfE (Qdx A σ v 401) l w
theorem QrP {X:Type} {g:X→Nat→Bool×Nat}:∀(l m:List X) (w:Nat),QfE g (l++m) w=if (QfE g l w).1=true then QfE g l w else QfE g m (QfE g l w).2
 |[],m,w=>by simp [QfE]
 |x::r,m,w=>by
  by_cases h:(g x w).1=true
  ·have e1:∀S,QfE g (x::S) w=(true,(g x w).2):=fun S=>by simp only [QfE];rw [if_pos h]
   rw [List.cons_append,e1,e1,if_pos rfl]
  ·have e1:∀S,QfE g (x::S) w=QfE g S (g x w).2:=fun S=>by simp only [QfE];rw [if_neg h]
   rw [List.cons_append,e1,e1];exact QrP r m _
theorem QjE (x:A.X) (w:Nat):Qc9 A σ v [x] w=Qdx A σ v 401 x w:=by
 unfold Qc9
 simp only [QfE]
 split
 ·rename_i h;rw [←h]
 ·rename_i h
  have:(Qdx A σ v 401 x w).1=false:=by simpa using h
  rw [←this]
theorem Qlg:∀(l:List A.X) {w:Nat},400≤w→(Qc9 A σ v l w).1=false∧w≤(Qc9 A σ v l w).2
 |[],w,h=>⟨rfl,Nat.le_refl _⟩
 |x::r,w,h=>by
  unfold Qc9
  simp only [QfE]
  rw [QiI 401 x h]
  simp only [Bool.false_eq_true,if_false]
  have:=Qlg r (w:=w+1) Ya
  exact ⟨this.1,by have:=this.2;unfold Qc9 at this;omega⟩
theorem Qsn (x:A.X) (r:List A.X) {w:Nat} (h:400≤w):(Qc9 A σ v (x::r) w).1=false∧400<(Qc9 A σ v (x::r) w).2:=by
 unfold Qc9
 simp only [QfE]
 rw [QiI 401 x h]
 simp only [Bool.false_eq_true,if_false]
 have:=Qlg (A:=A) (σ:=σ) (v:=v) r (w:=w+1) Ya
 exact ⟨this.1,by have:=this.2;unfold Qc9 at this;omega⟩
theorem QnJ {x:A.X} {u:Int} (r:List A.X) {w:Nat} (h:w<400) (hx:A.view σ x= .var u):Qc9 A σ v (x::r) w=if u=v then (true,w+1) else Qc9 A σ v r (w+1):=by
 have e:Qdx A σ v 401 x w=(decide (u=v),w+1):=by
  rw [show Qdx A σ v 401 x w=Qdx A σ v (400+1) x w from rfl,Qn2,if_neg Ya,hx]
 unfold Qc9
 simp only [QfE]
 rw [e]
 by_cases hu:u=v<;>simp [hu]
theorem Qsm {x:A.X} {k n:Int} {s:ByteArray} {ar:List A.X} (r:List A.X) {w:Nat} (h:w<400) (hx:A.view σ x= .node k n s ar):Qc9 A σ v (x::r) w=Qc9 A σ v (ar++r) (w+1):=by
 have e:Qdx A σ v 401 x w=Qc9 A σ v ar (w+1):=by
  rw [show Qdx A σ v 401 x w=Qdx A σ v (400+1) x w from rfl,Qn2,if_neg Ya,hx]
  exact QhV (k:=1) (fun x w=>Nat.le_of_succ_le (Qn3 400 x w)) (fun x w' h=>Qn4 400 401 x w' Ya Ya) ar (w+1) Ya
 have e2:Qc9 A σ v (x::r) w=if (Qdx A σ v 401 x w).1=true then (true,(Qdx A σ v 401 x w).2) else Qc9 A σ v r (Qdx A σ v 401 x w).2:=rfl
 rw [e2,e]
 unfold Qc9
 rw [QrP]
 split
 ·rename_i h;rw [←h]
 ·rfl
end
section
variable {A:Sy}
theorem QxO {v:Int} {t:A.X} {σ:A.S} {w:Nat}:w+1≤(QlX A v t σ w).w:=by
 unfold QlX
 split
 ·exact Qn3 401 t w
 ·exact Qn3 401 t w
theorem QxX {X S:Type} {g:X→X→S→Nat→Ug S} (hg:∀a b σ w,w≤(g a b σ w).w):∀(l m:List X) (σ:S) (w:Nat),w≤(Qiq g l m σ w).w
 |[],m,σ,w=>by cases m<;>exact Nat.le_refl _
 |_::_,[],σ,w=>Nat.le_refl _
 |x::l,y::m,σ,w=>by
  simp only [Qiq]
  split
  ·exact Nat.le_trans (hg x y σ w) (QxX hg l m _ _)
  ·exact hg x y σ w
theorem Qzk {S:Type} {c:Prop} [Decidable c] {x y:Ug S} {n:Nat} (hx:n≤x.w) (hy:n≤y.w):n≤(if c then x else y).w:=by
 split
 ·exact hx
 ·exact hy
theorem Qts:∀(f:Nat) (a b:A.X) (σ:A.S) (w:Nat),w+1≤(QbM A f a b σ w).w
 |0,a,b,σ,w=>Nat.le_refl _
 |f+1,a,b,σ,w=>by
  simp only [QbM]
  split
  ·exact Nat.le_refl _
  ·cases A.view σ a with
   |var u=>
    cases A.view σ b with
    |var u'=>exact Nat.le_refl _
    |node k n s ar=>exact Nat.le_of_succ_le (QxO (w:=w+1))
   |node k n s ar=>
    cases A.view σ b with
    |var u'=>exact Nat.le_of_succ_le (QxO (w:=w+1))
    |node k' n' s' ar'=>exact Qzk (QxX (fun a b σ w=>Nat.le_of_succ_le (Qts f a b σ w)) _ _ _ _) (Nat.le_refl _)
theorem Qgv (f:Nat) (a b:A.X) (σ:A.S) (w:Nat):QbM A (f+1) a b σ w=if 400<w+1 then ⟨false,σ,w+1⟩ else match A.view σ a,A.view σ b with
  | .var u,.var v=>⟨true,if u=v then σ else A.join σ a b,w+1⟩
  | .var u,.node _ _ _ _=>QlX A u b σ (w+1)
  | .node _ _ _ _,.var v=>QlX A v a σ (w+1)
  | .node k n s ar,.node k' n' s' ar'=>if k=k'∧n=n'∧s=s'∧ar.length=ar'.length then Qiq (QbM A f) ar ar' σ (w+1) else ⟨false,σ,w+1⟩:=rfl
theorem Ql6 (f:Nat) (a b:A.X) (σ:A.S) {w:Nat} (h:400≤w):QbM A f a b σ w=⟨false,σ,w+1⟩:=by
 cases f with
 |zero=>rfl
 |succ f=>simp only [QbM];rw [if_pos Ya]
theorem QhX {X S:Type} {g g':X→X→S→Nat→Ug S} {k:Nat} (hw:∀a b σ w,w≤(g a b σ w).w) (hg:∀a b σ w,k≤w→g a b σ w=g' a b σ w):∀(l m:List X) (σ:S) (w:Nat),k≤w→Qiq g l m σ w=Qiq g' l m σ w
 |[],m,σ,w,_=>by cases m<;>rfl
 |_::_,[],σ,w,_=>rfl
 |x::l,y::m,σ,w,h=>by
  simp only [Qiq]
  rw [←hg x y σ w h]
  split
  ·exact QhX hw hg l m _ _ (Nat.le_trans h (hw x y σ w))
  ·rfl
theorem Qnm:∀(f g:Nat) (a b:A.X) (σ:A.S) (w:Nat),400≤w+f→400≤w+g→QbM A f a b σ w=QbM A g a b σ w
 | f, g, a, b, σ, w, hf, hg => by
  by_cases h:400≤w
  ·rw [Ql6 f a b σ h,Ql6 g a b σ h]
  ·match f,g,hf,hg with
   |0,_,hf,_=>omega
   |_+1,0,_,hg=>omega
   |f+1,g+1,hf,hg=>
    simp only [QbM]
    rw [if_neg Ya,if_neg Ya]
    cases A.view σ a with
    |var u=>cases A.view σ b<;>rfl
    |node k n s ar=>
     cases A.view σ b with
     |var u'=>rfl
     |node k' n' s' ar'=>
      show ite _ _ _=ite _ _ _
      rw [QhX (k:=w+1) (fun a b σ w=>Nat.le_of_succ_le (Qts f a b σ w)) (fun a b σ w' h=>Qnm f g a b σ w' Ya Ya) ar ar' σ (w+1) (Nat.le_refl _)]
def QfU (A:Sy):List (A.X×A.X)→A.S→Nat→Ug A.S
 |[],σ,w=>⟨true,σ,w⟩
 |p::r,σ,w=>if (QbM A 401 p.1 p.2 σ w).ok=true then QfU A r (QbM A 401 p.1 p.2 σ w).s (QbM A 401 p.1 p.2 σ w).w else QbM A 401 p.1 p.2 σ w
theorem QrQ:∀(l m:List A.X) (σ:A.S) (w:Nat),Qiq (QbM A 401) l m σ w=QfU A (l.zip m) σ w
 |[],m,σ,w=>by cases m<;>rfl
 |_::_,[],σ,w=>rfl
 |x::l,y::m,σ,w=>by
  simp only [Qiq,List.zip_cons_cons,QfU]
  rw [QrQ l m]
theorem QqT:∀(L M:List (A.X×A.X)) (σ:A.S) (w:Nat),QfU A (L++M) σ w=if (QfU A L σ w).ok=true then QfU A M (QfU A L σ w).s (QfU A L σ w).w else QfU A L σ w
 |[],M,σ,w=>by simp [QfU]
 |p::L,M,σ,w=>by
  by_cases h:(QbM A 401 p.1 p.2 σ w).ok=true
  ·have e1:∀S,QfU A (p::S) σ w=QfU A S (QbM A 401 p.1 p.2 σ w).s (QbM A 401 p.1 p.2 σ w).w:=fun S=>by simp only [QfU];rw [if_pos h]
   rw [List.cons_append,e1,e1];exact QqT L M _ _
  ·have e1:∀S,QfU A (p::S) σ w=QbM A 401 p.1 p.2 σ w:=fun S=>by simp only [QfU];rw [if_neg h]
   rw [List.cons_append,e1,e1,if_neg h]
theorem Qwz (a b:A.X) (σ:A.S) (w:Nat):QfU A [(a,b)] σ w=QbM A 401 a b σ w:=by
 simp only [QfU]
 split
 ·rename_i h;rw [←h]
 ·rfl
theorem Qt1 (p:A.X×A.X) (r:List (A.X×A.X)) (σ:A.S) {w:Nat} (h:400≤w):QfU A (p::r) σ w=⟨false,σ,w+1⟩:=by
 simp only [QfU]
 rw [Ql6 401 p.1 p.2 σ h];simp
theorem Qt0 {a b:A.X} {u u':Int} (r:List (A.X×A.X)) {σ:A.S} {w:Nat} (h:w<400) (ha:A.view σ a= .var u) (hb:A.view σ b= .var u'):QfU A ((a,b)::r) σ w=QfU A r (if u=u' then σ else A.join σ a b) (w+1):=by
 have e:QbM A 401 a b σ w=⟨true,if u=u' then σ else A.join σ a b,w+1⟩:=by
  rw [show QbM A 401 a b σ w=QbM A (400+1) a b σ w from rfl,Qgv,if_neg Ya,ha,hb]
 simp only [QfU]
 rw [e,if_pos rfl]
theorem QqS {a b:A.X} (r:List (A.X×A.X)) {σ:A.S} {w:Nat} {u:Int} {t:A.X} (e:QbM A 401 a b σ w=QlX A u t σ (w+1)):QfU A ((a,b)::r) σ w=if (Qc9 A σ u [t] (w+1)).1=true∨400<(Qc9 A σ u [t] (w+1)).2 then ⟨false,σ,(Qc9 A σ u [t] (w+1)).2⟩ else QfU A r (A.bind σ u t) (Qc9 A σ u [t] (w+1)).2:=by
 simp only [QfU]
 rw [e,QjE]
 unfold QlX
 split
 ·simp
 ·simp
theorem Qzd {a b:A.X} {u:Int} {k n:Int} {s:ByteArray} {ar:List A.X} {σ:A.S} {w:Nat} (h:w<400) (ha:A.view σ a= .var u) (hb:A.view σ b= .node k n s ar):QbM A 401 a b σ w=QlX A u b σ (w+1):=by
 rw [show QbM A 401 a b σ w=QbM A (400+1) a b σ w from rfl,Qgv,if_neg Ya,ha,hb]
theorem Qze {a b:A.X} {u:Int} {k n:Int} {s:ByteArray} {ar:List A.X} {σ:A.S} {w:Nat} (h:w<400) (ha:A.view σ a= .node k n s ar) (hb:A.view σ b= .var u):QbM A 401 a b σ w=QlX A u a σ (w+1):=by
 rw [show QbM A 401 a b σ w=QbM A (400+1) a b σ w from rfl,Qgv,if_neg Ya,ha,hb]
theorem Qt2 {a b:A.X} {k n k' n':Int} {s s':ByteArray} {ar ar':List A.X} (r:List (A.X×A.X)) {σ:A.S} {w:Nat} (h:w<400) (ha:A.view σ a= .node k n s ar) (hb:A.view σ b= .node k' n' s' ar'):QfU A ((a,b)::r) σ w=if k=k'∧n=n'∧s=s'∧ar.length=ar'.length then QfU A (ar.zip ar'++r) σ (w+1) else ⟨false,σ,w+1⟩:=by
 have e:QbM A 401 a b σ w=if k=k'∧n=n'∧s=s'∧ar.length=ar'.length then QfU A (ar.zip ar') σ (w+1) else ⟨false,σ,w+1⟩:=by
  rw [show QbM A 401 a b σ w=QbM A (400+1) a b σ w from rfl,Qgv,if_neg Ya,ha,hb]
  show ite _ _ _=ite _ _ _
  rw [QhX (k:=1) (fun a b σ w=>Nat.le_of_succ_le (Qts 400 a b σ w)) (fun a b σ w' h=>Qnm 400 401 a b σ w' Ya Ya) ar ar' σ (w+1) Ya,QrQ]
 simp only [QfU]
 rw [e]
 split
 ·rw [QqT]
 ·simp
end
def Ts.tms:Ts→List Tm
 | .nil=>[]
 | .cons k n s a r=>⟨k,n,s,a⟩::r.tms
theorem Ts.tms_len (T:Ts):T.tms.length=T.length:=by
 induction T with
 |nil=>rfl
 |cons k n s a r _ ih=>simp only [Ts.tms,List.length_cons,ih,Ts.length]
def tvw (t:Tm):Vw Tm:=if t.k=0 then .var t.n else .node t.k t.n t.s t.ar.tms
def Qbg (B:Bnd) (t:Tm):Vw Tm:=tvw (Qc B t)
def Qtc (j:Bnd→Tm→Tm→Bnd):Sy where
 X:=Tm
 S:=Bnd
 ok:=Bok
 dom:=fun _ _=>True
 view:=Qbg
 bind:=fun B v t=>(v,Qc B t)::B
 join:=j
theorem Qao {B:Bnd} {t:Tm} {v:Int}:Qbg B t= .var v↔(Qc B t).k=0∧(Qc B t).n=v:=by
 unfold Qbg tvw
 split
 ·rename_i h;simp [h]
 ·rename_i h;simp [h]
theorem Qcj {B:Bnd} {t:Tm} {k n:Int} {s:ByteArray} {ar:List Tm} (h:Qbg B t= .node k n s ar):(Qc B t).k=k∧k≠0∧(Qc B t).n=n∧(Qc B t).s=s∧(Qc B t).ar.tms=ar:=by
 unfold Qbg tvw at h
 split at h
 ·cases h
 ·rename_i h0;cases h;exact ⟨rfl,h0,rfl,rfl,rfl⟩
theorem QuT {B:Bnd} {v:Int} {t:Tm} (hB:Bok ((v,t)::B)) (x:Tm):Qc ((v,t)::B) x=if (Qc B x).k=0∧(Qc B x).n=v then t else Qc B x:=by
 obtain ⟨hv,ht,hB'⟩:=hB
 have hBo:Bok ((v,t)::B):=⟨hv,ht,hB'⟩
 have htt:Qc ((v,t)::B) t=t:=by
  by_cases hk:t.k=0
  ·refine QcI ?_
   obtain ⟨h1,h2⟩:=ht hk
   simp only [QcY]
   rw [if_neg h1];exact h2
  ·exact Qak hk
 have key : ∀ (p : Nat) (x : Tm), QhZ B p x → Qc ((v, t) :: B) x = if (Qc B x).k = 0 ∧ (Qc B x).n = v then t else Qc B x := by
  intro p
  induction p using Nat.strongRecOn with
  | _ p ih =>
   intro x hx
   by_cases hk:x.k=0
   ·cases hg:QcY x.n B with
    |none=>
     rw [QcI hg]
     by_cases hn:x.n=v
     ·rw [if_pos ⟨hk,hn⟩,QfA hBo hk (u:=t) (by simp only [QcY];rw [if_pos hn]),htt]
     ·rw [if_neg fun h=>hn h.2,QcI]
      simp only [QcY];rw [if_neg hn];exact hg
    |some u=>
     obtain ⟨q,hq,hu⟩:=hx.step hB' hk hg
     have hn:x.n≠v:=fun e=>by rw [e] at hg;rw [show QcY v B=none from hv] at hg;cases hg
     rw [QfA hB' hk hg,QfA hBo hk (u:=u) (by simp only [QcY];rw [if_neg hn];exact hg)]
     exact ih q hq u hu
   ·rw [Qak hk,Qak hk,if_neg fun h=>hk h.1]
 exact key _ x (QhZ.start B x)
theorem Qhp {B:Bnd} {v:Int} {t:Tm} (hB:Bok ((v,t)::B)) (x:Tm):Qbg ((v,t)::B) x=(Qbg B x).sub v (tvw t):=by
 have:=QuT hB x
 unfold Qbg
 rw [this]
 by_cases h:(Qc B x).k=0
 ·by_cases h2:(Qc B x).n=v
  ·rw [if_pos ⟨h,h2⟩]
   unfold Vw.sub
   rw [show tvw (Qc B x)= .var (Qc B x).n by unfold tvw;rw [if_pos h]]
   simp [h2]
  ·rw [if_neg fun e=>h2 e.2]
   rw [show tvw (Qc B x)= .var (Qc B x).n by unfold tvw;rw [if_pos h]]
   unfold Vw.sub;simp [h2]
 ·rw [if_neg fun e=>h e.1]
  rw [show tvw (Qc B x)= .node (Qc B x).k (Qc B x).n (Qc B x).s (Qc B x).ar.tms by unfold tvw;rw [if_neg h]]
  rfl
def Qv6 (j:Bnd→Tm→Tm→Bnd):Prop:=∀B a b u v,Bok B→Qbg B a= .var u→Qbg B b= .var v→u≠v→∃p q t,j B a b=(p,t)::B∧t.k=0∧t.n=q∧((p=u∧q=v)∨(p=v∧q=u))
theorem QhL {B:Bnd} (hB:Bok B) {x:Tm} {v:Int} (h:Qbg B x= .var v):QcY v B=none:=by
 obtain ⟨h1,h2⟩:=Qao.1 h
 rw [←h2];exact QbJ hB x h1
theorem Qmc {j:Bnd→Tm→Tm→Bnd} (hj:Qv6 j):(Qtc j).Law where
 bind_ok:=by
  intro B x v t k n s ar hB _ _ hx ht
  obtain ⟨h1,h2,_⟩:=Qcj ht
  exact ⟨QhL hB hx,fun e=>absurd e (by show (Qc B t).k≠0;rw [h1];exact h2),hB⟩
 bind_dom:=fun _=>trivial
 bind_view:=by
  intro B x v t k n s ar y hB _ _ hx ht _
  obtain ⟨h1,h2,_⟩:=Qcj ht
  have hb:Bok ((v,Qc B t)::B):=⟨QhL hB hx,fun e=>absurd e (by show (Qc B t).k≠0;rw [h1];exact h2),hB⟩
  exact Qhp hb y
 join_ok:=by
  intro B a b u v hB _ _ ha hb hne
  obtain ⟨p,q,t,e,hk,hn,hpq⟩:=hj B a b u v hB ha hb hne
  show Bok (j B a b)
  rw [e]
  have fu:=QhL hB ha
  have fv:=QhL hB hb
  rcases hpq with ⟨rfl,rfl⟩|⟨rfl,rfl⟩
  ·exact ⟨fu,fun _=>⟨by rw [hn];exact fun e=>hne e.symm,by rw [hn];exact fv⟩,hB⟩
  ·exact ⟨fv,fun _=>⟨by rw [hn];exact hne,by rw [hn];exact fu⟩,hB⟩
 join_dom:=fun _=>trivial
 join_view:=by
  intro B a b u v hB _ _ ha hb hne
  obtain ⟨p,q,t,e,hk,hn,hpq⟩:=hj B a b u v hB ha hb hne
  have fu:=QhL hB ha
  have fv:=QhL hB hb
  have et:tvw t= .var q:=by unfold tvw;rw [if_pos hk,hn]
  rcases hpq with ⟨rfl,rfl⟩|⟨rfl,rfl⟩
  ·refine .inl fun y _=> ?_
   show Qbg (j B a b) y=_
   have hb2:Bok ((p,t)::B):=⟨fu,fun _=>⟨by rw [hn];exact fun e=>hne e.symm,by rw [hn];exact fv⟩,hB⟩
   rw [e]
   have:=Qhp hb2 y
   rw [et] at this;exact this
  ·refine .inr fun y _=> ?_
   show Qbg (j B a b) y=_
   have hb2:Bok ((p,t)::B):=⟨fv,fun _=>⟨by rw [hn];exact hne,by rw [hn];exact fu⟩,hB⟩
   rw [e]
   have:=Qhp hb2 y
   rw [et] at this;exact this
def Qu3 (B:Bnd) (a b:Tm):Bnd:=((Qc B a).n,Qc B b)::B
def QfL (B:Bnd) (a b:Tm):Bnd:=(max (Qc B a).n (Qc B b).n,⟨0,min (Qc B a).n (Qc B b).n,⟨#[]⟩,.nil⟩)::B
theorem Qro:Qv6 Qu3:=fun B a b u v hB ha hb hne=>by
 obtain ⟨a1,a2⟩:=Qao.1 ha
 obtain ⟨b1,b2⟩:=Qao.1 hb
 exact ⟨u,v,Qc B b,by unfold Qu3;rw [a2],b1,b2,.inl ⟨rfl,rfl⟩⟩
theorem Qw2:Qv6 QfL:=fun B a b u v hB ha hb hne=>by
 obtain ⟨a1,a2⟩:=Qao.1 ha
 obtain ⟨b1,b2⟩:=Qao.1 hb
 refine ⟨max u v,min u v,⟨0,min u v,⟨#[]⟩,.nil⟩,by unfold QfL;rw [a2,b2],rfl,rfl,?_⟩
 omega
abbrev Qgp:Sy:=Qtc Qu3
abbrev Qdl:Sy:=Qtc QfL
theorem QvO {g:Tm→Nat→Bool×Nat}:∀(T:Ts) (w:Nat),Qxl g T w=QfE g T.tms w
 | .nil,w=>rfl
 | .cons k n s a r,w=>by simp only [Qxl,Ts.tms,QfE];rw [QvO r]
theorem QxE (B:Bnd) (v:Int):∀(f:Nat) (t:Tm) (w:Nat),Qo8 B v f t w=Qdx Qgp B v f t w
 |0,t,w=>rfl
 |f+1,t,w=>by
  simp only [Qo8,Qdx]
  split
  ·rfl
  ·rw [show Qgp.view B t=tvw (Qc B t) from rfl]
   unfold tvw
   by_cases hk:(Qc B t).k=0
   ·rw [if_pos hk,if_pos hk]
   ·rw [if_neg hk,if_neg hk,QvO]
    have:Qo8 B v f=Qdx Qgp B v f:=by funext t w;exact QxE B v f t w
    rw [this];rfl
theorem Qq6 {j:Bnd→Tm→Tm→Bnd} {B:Bnd} (hB:Bok B) (v:Int) (f:Nat) (t:Tm) (w:Nat):Qdx (Qtc j) B v f (Qc B t) w=Qdx (Qtc j) B v f t w:=by
 cases f with
 |zero=>rfl
 |succ f=>
  simp only [Qdx]
  rw [show (Qtc j).view B (Qc B t)=(Qtc j).view B t by show tvw (Qc B (Qc B t))=_;rw [QuS hB];rfl]
def Us.ug (u:Us):Ug Bnd:=⟨u.ok,u.B,u.w⟩
theorem QvS {g:Tm→Tm→Bnd→Nat→Us} {g':Tm→Tm→Bnd→Nat→Ug Bnd} (P:Bnd→Prop) (hP:∀a b B w,P B→P (g a b B w).B) (hg:∀a b B w,P B→(g a b B w).ug=g' a b B w):∀(T U:Ts) (B:Bnd) (w:Nat),P B→(Qpb g T U B w).ug=Qiq g' T.tms U.tms B w
 | .nil,U,B,w,_=>by cases U<;>rfl
 | .cons k n s a r,.nil,B,w,_=>rfl
 | .cons k n s a r,.cons k' n' s' a' r',B,w,h=>by
  simp only [Qpb,Ts.tms,Qiq]
  rw [←hg _ _ _ _ h]
  by_cases hok:(g ⟨k,n,s,a⟩ ⟨k',n',s',a'⟩ B w).ok=true
  ·rw [if_pos hok,if_pos (show (g ⟨k,n,s,a⟩ ⟨k',n',s',a'⟩ B w).ug.ok=true from hok)]
   exact QvS P hP hg r r' _ _ (hP _ _ _ _ h)
  ·rw [if_neg hok,if_neg (show¬(g ⟨k,n,s,a⟩ ⟨k',n',s',a'⟩ B w).ug.ok=true from hok)]
theorem QvJ {B:Bnd} (hB:Bok B) {v:Int} {t:Tm} (hv:QcY v B=none) (ht:t.k≠0) (w:Nat):Bok (Qtf v t B w).B:=by
 unfold Qtf
 split
 ·exact hB
 ·exact ⟨hv,fun e=>absurd e ht,hB⟩
theorem QrR {g:Tm→Tm→Bnd→Nat→Us} (hg:∀a b B w,Bok B→Bok (g a b B w).B):∀(T U:Ts) (B:Bnd) (w:Nat),Bok B→Bok (Qpb g T U B w).B
 | .nil,U,B,w,h=>by cases U<;>exact h
 | .cons _ _ _ _ _,.nil,B,w,h=>h
 | .cons k n s a r,.cons k' n' s' a' r',B,w,h=>by
  simp only [Qpb]
  split
  ·exact QrR hg r r' _ _ (hg _ _ _ _ h)
  ·exact hg _ _ _ _ h
theorem Qtu:∀(f:Nat) (a b:Tm) (B:Bnd) (w:Nat),Bok B→Bok (Qci f a b B w).B
 |0,a,b,B,w,h=>h
 | f + 1, a, b, B, w, h => by
  simp only [Qci]
  split
  ·exact h
  split
  ·rename_i ha
   split
   ·rename_i hb
    show Bok (if _ then _ else _)
    split
    ·exact h
    ·rename_i hne
     exact ⟨QbJ h a ha,fun _=>⟨fun e=>hne e.symm,QbJ h b hb⟩,h⟩
   ·rename_i hb
    exact QvJ h (QbJ h a ha) hb _
  ·rename_i ha
   split
   ·rename_i hb
    exact QvJ h (QbJ h b hb) ha _
   ·split
    ·exact QrR (fun a b B w h=>Qtu f a b B w h) _ _ _ _ h
    ·exact h
theorem Qtt:∀(f:Nat) (a b:Tm) (B:Bnd) (w:Nat),Bok B→(Qci f a b B w).ug=QbM Qgp f a b B w
 |0,a,b,B,w,h=>rfl
 | f + 1, a, b, B, w, h => by
  simp only [Qci,QbM]
  by_cases hw:400<w+1
  ·rw [if_pos hw,if_pos hw];rfl
  rw [if_neg hw,if_neg hw]
  have va:Qgp.view B a=tvw (Qc B a):=rfl
  have vb:Qgp.view B b=tvw (Qc B b):=rfl
  rw [va,vb]
  have hasg:∀(v:Int) (t:Tm),(Qtf v (Qc B t) B (w+1)).ug=QlX Qgp v t B (w+1):=fun v t=>by
   unfold Qtf QlX
   rw [QxE,Qq6 (j:=Qu3) h]
   split<;>rfl
  by_cases ha:(Qc B a).k=0
  ·rw [if_pos ha,show tvw (Qc B a)= .var (Qc B a).n by unfold tvw;rw [if_pos ha]]
   by_cases hb:(Qc B b).k=0
   ·rw [if_pos hb,show tvw (Qc B b)= .var (Qc B b).n by unfold tvw;rw [if_pos hb]]
    rfl
   ·rw [if_neg hb,show tvw (Qc B b)= .node (Qc B b).k (Qc B b).n (Qc B b).s (Qc B b).ar.tms by unfold tvw;rw [if_neg hb]]
    exact hasg _ _
  ·rw [if_neg ha,show tvw (Qc B a)= .node (Qc B a).k (Qc B a).n (Qc B a).s (Qc B a).ar.tms by unfold tvw;rw [if_neg ha]]
   by_cases hb:(Qc B b).k=0
   ·rw [if_pos hb,show tvw (Qc B b)= .var (Qc B b).n by unfold tvw;rw [if_pos hb]]
    exact hasg _ _
   ·rw [if_neg hb,show tvw (Qc B b)= .node (Qc B b).k (Qc B b).n (Qc B b).s (Qc B b).ar.tms by unfold tvw;rw [if_neg hb]]
    show (if _ then _ else _:Us).ug=if _ then _ else _
    have hc:QrS (Qc B a) (Qc B b)=true↔(Qc B a).k=(Qc B b).k∧(Qc B a).n=(Qc B b).n∧(Qc B a).s=(Qc B b).s∧(Qc B a).ar.tms.length=(Qc B b).ar.tms.length:=by
     simp only [QrS,Bool.and_eq_true,decide_eq_true_eq,Ts.tms_len,and_assoc]
    by_cases hal:QrS (Qc B a) (Qc B b)=true
    ·rw [if_pos hal]
     refine Eq.trans ?_ (if_pos (hc.1 hal)).symm
     exact QvS Bok (fun a b B w h=>Qtu f a b B w h) (fun a b B w h=>Qtt f a b B w h) _ _ _ _ h
    ·rw [if_neg hal]
     exact (if_neg fun e=>hal (hc.2 e)).symm
def Qli (l:List (Tm×Tm)) (B:Bnd) (w:Nat):Ug Bnd:=QfU Qdl l B w
def QbN (B:Bnd) (v:Int) (l:List Tm) (w:Nat):Bool×Nat:=Qc9 Qdl B v l w
theorem QeU {t:Tm} (h:t.k=0):tvw t= .var t.n:=by unfold tvw;rw [if_pos h]
theorem Qeh {t:Tm} (h:t.k≠0):tvw t= .node t.k t.n t.s t.ar.tms:=by unfold tvw;rw [if_neg h]
theorem QwA (a b:Tm) (B:Bnd) (w:Nat):Qli [(a,b)] B w=QbM Qdl 401 a b B w:=Qwz (A:=Qdl) a b B w
theorem Qt4 (p:Tm×Tm) (r:List (Tm×Tm)) (B:Bnd) {w:Nat} (h:400≤w):Qli (p::r) B w=⟨false,B,w+1⟩:=Qt1 (A:=Qdl) p r B h
theorem Qt3 {a b:Tm} (r:List (Tm×Tm)) {B:Bnd} {w:Nat} (h:w<400) (ka:(Qc B a).k=0) (kb:(Qc B b).k=0) (e:(Qc B a).n=(Qc B b).n):Qli ((a,b)::r) B w=Qli r B (w+1):=by
 have:=Qt0 (A:=Qdl) (a:=a) (b:=b) r (σ:=B) h (QeU ka) (QeU kb)
 exact this.trans (congrArg (fun x=>QfU Qdl r x (w+1)) (if_pos e))
theorem Qt5 {a b:Tm} (r:List (Tm×Tm)) {B:Bnd} {w:Nat} (h:w<400) (ka:(Qc B a).k=0) (kb:(Qc B b).k=0) (e:(Qc B a).n≠(Qc B b).n):Qli ((a,b)::r) B w=Qli r ((max (Qc B a).n (Qc B b).n,⟨0,min (Qc B a).n (Qc B b).n,⟨#[]⟩,.nil⟩)::B) (w+1):=by
 have:=Qt0 (A:=Qdl) (a:=a) (b:=b) r (σ:=B) h (QeU ka) (QeU kb)
 exact this.trans (congrArg (fun x=>QfU Qdl r x (w+1)) (if_neg e))
theorem Qle {B:Bnd} (hB:Bok B) (v:Int) (t:Tm) (w:Nat):QbN B v [Qc B t] w=QbN B v [t] w:=by
 exact (QjE (A:=Qdl) (σ:=B) (v:=v) (Qc B t) w).trans ((Qq6 (j:=QfL) hB v 401 t w).trans (QjE (A:=Qdl) (σ:=B) (v:=v) t w).symm)
theorem Qyn {a b:Tm} (r:List (Tm×Tm)) {B:Bnd} {w:Nat} (hB:Bok B) (h:w<400) (ka:(Qc B a).k=0) (kb:(Qc B b).k≠0):Qli ((a,b)::r) B w=
  if (QbN B (Qc B a).n [Qc B b] (w+1)).1=true∨400<(QbN B (Qc B a).n [Qc B b] (w+1)).2 then ⟨false,B,(QbN B (Qc B a).n [Qc B b] (w+1)).2⟩ else Qli r (((Qc B a).n,Qc B b)::B) (QbN B (Qc B a).n [Qc B b] (w+1)).2:=by
 rw [Qle hB]
 exact QqS (A:=Qdl) (a:=a) (b:=b) r (Qzd (A:=Qdl) h (QeU ka) (Qeh kb))
theorem Qyo {a b:Tm} (r:List (Tm×Tm)) {B:Bnd} {w:Nat} (hB:Bok B) (h:w<400) (ka:(Qc B a).k≠0) (kb:(Qc B b).k=0):Qli ((a,b)::r) B w=
  if (QbN B (Qc B b).n [Qc B a] (w+1)).1=true∨400<(QbN B (Qc B b).n [Qc B a] (w+1)).2 then ⟨false,B,(QbN B (Qc B b).n [Qc B a] (w+1)).2⟩ else Qli r (((Qc B b).n,Qc B a)::B) (QbN B (Qc B b).n [Qc B a] (w+1)).2:=by
 rw [Qle hB]
 exact QqS (A:=Qdl) (a:=a) (b:=b) r (Qze (A:=Qdl) h (Qeh ka) (QeU kb))
theorem Qyq {a b:Tm} (r:List (Tm×Tm)) {B:Bnd} {w:Nat} (h:w<400) (ka:(Qc B a).k≠0) (kb:(Qc B b).k≠0) (he:(Qc B a).k=(Qc B b).k∧(Qc B a).n=(Qc B b).n∧(Qc B a).s=(Qc B b).s∧(Qc B a).ar.length=(Qc B b).ar.length):
  Qli ((a,b)::r) B w=Qli ((Qc B a).ar.tms.zip (Qc B b).ar.tms++r) B (w+1):=by
 have:=Qt2 (A:=Qdl) (a:=a) (b:=b) r (σ:=B) h (Qeh ka) (Qeh kb)
 exact this.trans (if_pos ⟨he.1,he.2.1,he.2.2.1,(Ts.tms_len _).trans (he.2.2.2.trans (Ts.tms_len _).symm)⟩)
theorem Qyp {a b:Tm} (r:List (Tm×Tm)) {B:Bnd} {w:Nat} (h:w<400) (ka:(Qc B a).k≠0) (kb:(Qc B b).k≠0) (he:¬((Qc B a).k=(Qc B b).k∧(Qc B a).n=(Qc B b).n∧(Qc B a).s=(Qc B b).s∧(Qc B a).ar.length=(Qc B b).ar.length)):
  Qli ((a,b)::r) B w=⟨false,B,w+1⟩:=by
 have:=Qt2 (A:=Qdl) (a:=a) (b:=b) r (σ:=B) h (Qeh ka) (Qeh kb)
 exact this.trans (if_neg fun hh=>he ⟨hh.1,hh.2.1,hh.2.2.1,(Ts.tms_len _).symm.trans (hh.2.2.2.trans (Ts.tms_len _))⟩)
theorem Qlf (B:Bnd) (v:Int) (x:Tm) (r:List Tm) {w:Nat} (h:400≤w):(QbN B v (x::r) w).1=false∧400<(QbN B v (x::r) w).2:=Qsn (A:=Qdl) x r h
theorem QnI {B:Bnd} {v:Int} {x:Tm} (r:List Tm) {w:Nat} (h:w<400) (hk:(Qc B x).k=0) (hn:(Qc B x).n=v):QbN B v (x::r) w=(true,w+1):=
 (QnJ (A:=Qdl) r h (QeU hk)).trans (if_pos hn)
theorem Qld {B:Bnd} {v:Int} {x:Tm} (r:List Tm) {w:Nat} (h:w<400) (hk:(Qc B x).k=0) (hn:(Qc B x).n≠v):QbN B v (x::r) w=QbN B v r (w+1):=
 (QnJ (A:=Qdl) r h (QeU hk)).trans (if_neg hn)
theorem Qlc {B:Bnd} {v:Int} {x:Tm} (r:List Tm) {w:Nat} (h:w<400) (hk:(Qc B x).k≠0):QbN B v (x::r) w=QbN B v ((Qc B x).ar.tms++r) (w+1):=
 Qsm (A:=Qdl) r h (Qeh hk)
def Qim (m:Int) (t:Tm):Prop:=(t.k=0→t.n<m)∧t.ar.vars (· <m)
def FB (m:Int) (B:Bnd):Prop:=∀x∈B,x.1<m∧Qim m x.2
theorem Ts.vars_mono {P Q:Int→Prop} (h:∀n,P n→Q n) (T:Ts):T.vars P→T.vars Q:=by
 induction T with
 |nil=>exact id
 |cons k n s ar r iha ihr=>exact fun ⟨a,b,c⟩=>⟨fun e=>h _ (a e),iha b,ihr c⟩
theorem Qim.mono {m m':Int} (h:m≤m') {t:Tm} (ht:Qim m t):Qim m' t:=⟨fun e=>Int.lt_of_lt_of_le (ht.1 e) h,Ts.vars_mono (fun _ hn=>Int.lt_of_lt_of_le hn h) _ ht.2⟩
theorem FB.mono {m m':Int} (h:m≤m') {B:Bnd} (hB:FB m B):FB m' B:=fun x hx=>⟨Int.lt_of_lt_of_le (hB x hx).1 h,(hB x hx).2.mono h⟩
theorem Qcu {m:Int} {B:Bnd} (hB:FB m B) {t:Tm} (ht:Qim m t):Qim m (Qc B t):=by
 rcases Qmu (B:=B) t with e|⟨x,hx,e⟩
 ·rw [e];exact ht
 ·rw [e];exact (hB x hx).2
theorem QtE {m:Int} {T:Ts} (h:T.vars (· <m)):∀x∈T.tms,Qim m x:=by
 induction T with
 |nil=>intro x hx;cases hx
 |cons k n s ar r _ ih=>
  intro x hx
  rcases List.mem_cons.1 hx with rfl|hx
  ·exact ⟨h.1,h.2.1⟩
  ·exact ih h.2.2 x hx
theorem FB.get {m:Int} {B:Bnd} (hB:FB m B) {n:Int} (hn:m≤n):QcY n B=none:=by
 induction B with
 |nil=>rfl
 |cons x r ih=>
  simp only [QcY]
  rw [if_neg (by have:=(hB x (List.mem_cons_self ..)).1;omega)]
  exact ih fun y hy=>hB y (List.mem_cons_of_mem _ hy)
theorem FB.cons {m:Int} {B:Bnd} (hB:FB m B) {v:Int} {t:Tm} (hv:v<m) (ht:Qim m t):FB m ((v,t)::B):=fun x hx=>by
 rcases List.mem_cons.1 hx with rfl|hx
 ·exact ⟨hv,ht⟩
 ·exact hB x hx
def Qv7 (j:Bnd→Tm→Tm→Bnd):Prop:=∀m B a b,FB m B→Qim m a→Qim m b→(Qc B a).k=0→(Qc B b).k=0→FB m (j B a b)
theorem Qrp:Qv7 Qu3:=fun m B a b hB ha hb ka kb=>hB.cons ((Qcu hB ha).1 ka) (Qcu hB hb)
theorem Qw3:Qv7 QfL:=fun m B a b hB ha hb ka kb=>by
 have h1:=(Qcu hB ha).1 ka
 have h2:=(Qcu hB hb).1 kb
 exact hB.cons Ya ⟨fun _=>by show min _ _<m;omega,trivial⟩
theorem QxP {j:Bnd→Tm→Tm→Bnd} {m:Int} {B:Bnd} (hB:FB m B) {v:Int} {t:Tm} (hv:v<m) (ht:Qim m t) (w:Nat):FB m (QlX (Qtc j) v t B w).s:=by
 unfold QlX
 split
 ·exact hB
 ·exact hB.cons hv (Qcu hB ht)
theorem QxY {m:Int} {g:Tm→Tm→Bnd→Nat→Ug Bnd} (hg:∀a b B w,FB m B→Qim m a→Qim m b→FB m (g a b B w).s):∀(l l':List Tm) (B:Bnd) (w:Nat),FB m B→(∀x∈l,Qim m x)→(∀x∈l',Qim m x)→FB m (Qiq g l l' B w).s
 |[],l',B,w,h,_,_=>by cases l'<;>exact h
 |_::_,[],B,w,h,_,_=>h
 |x::l,y::l',B,w,h,hl,hl'=>by
  simp only [Qiq]
  have h1:=hg x y B w h (hl x (List.mem_cons_self ..)) (hl' y (List.mem_cons_self ..))
  split
  ·exact QxY hg l l' _ _ h1 (fun z hz=>hl z (List.mem_cons_of_mem _ hz)) (fun z hz=>hl' z (List.mem_cons_of_mem _ hz))
  ·exact h1
theorem Qzl {m:Int} {c:Prop} [Decidable c] {x y:Ug Bnd} (hx:FB m x.s) (hy:FB m y.s):FB m (if c then x else y).s:=by
 split
 ·exact hx
 ·exact hy
theorem Qqx {j:Bnd→Tm→Tm→Bnd} (hj:Qv7 j) {m:Int}:∀(f:Nat) (a b:Tm) (B:Bnd) (w:Nat),FB m B→Qim m a→Qim m b→FB m (QbM (Qtc j) f a b B w).s
 |0,a,b,B,w,h,_,_=>h
 | f + 1, a, b, B, w, h, ha, hb => by
  simp only [QbM]
  split
  ·exact h
  ·have la:=Qcu h ha
   have lb:=Qcu h hb
   have va:(Qtc j).view B a=tvw (Qc B a):=rfl
   have vb:(Qtc j).view B b=tvw (Qc B b):=rfl
   rw [va,vb]
   by_cases ka:(Qc B a).k=0
   ·rw [show tvw (Qc B a)= .var (Qc B a).n by unfold tvw;rw [if_pos ka]]
    by_cases kb:(Qc B b).k=0
    ·rw [show tvw (Qc B b)= .var (Qc B b).n by unfold tvw;rw [if_pos kb]]
     show FB m (if (Qc B a).n=(Qc B b).n then B else j B a b)
     split
     ·exact h
     ·exact hj m B a b h ha hb ka kb
    ·rw [show tvw (Qc B b)= .node (Qc B b).k (Qc B b).n (Qc B b).s (Qc B b).ar.tms by unfold tvw;rw [if_neg kb]]
     exact QxP h (la.1 ka) hb _
   ·rw [show tvw (Qc B a)= .node (Qc B a).k (Qc B a).n (Qc B a).s (Qc B a).ar.tms by unfold tvw;rw [if_neg ka]]
    by_cases kb:(Qc B b).k=0
    ·rw [show tvw (Qc B b)= .var (Qc B b).n by unfold tvw;rw [if_pos kb]]
     exact QxP h (lb.1 kb) ha _
    ·rw [show tvw (Qc B b)= .node (Qc B b).k (Qc B b).n (Qc B b).s (Qc B b).ar.tms by unfold tvw;rw [if_neg kb]]
     exact Qzl (QxY (fun a b B w h ha hb=>Qqx hj f a b B w h ha hb) _ _ _ _ h (QtE la.2) (QtE lb.2)) h
def QeA (ρ:Int→Int→Prop) (t t':Tm):Prop:=TsR ρ (.cons t.k t.n t.s t.ar .nil) (.cons t'.k t'.n t'.s t'.ar .nil)
theorem TsR.mono {ρ ρ':Int→Int→Prop} (h:∀u v,ρ u v→ρ' u v) {T U:Ts} (hr:TsR ρ T U):TsR ρ' T U:=by
 induction hr with
 |nil=>exact .nil
 |var h1 _ ih=>exact .var (h _ _ h1) ih
 |node h1 _ _ ih1 ih2=>exact .node h1 ih1 ih2
theorem TsR.al {ρ:Int→Int→Prop} {T U:Ts} (h:TsR ρ T U):Al (QeA ρ) T.tms U.tms:=by
 induction h with
 |nil=>exact .nil
 |var h1 h2 ih=>exact .cons (.var h1 .nil) ih
 |node h1 h2 h3 _ ih=>exact .cons (.node h1 h2 .nil) ih
theorem TsR.len {ρ:Int→Int→Prop} {T U:Ts} (h:TsR ρ T U):T.length=U.length:=by
 induction h with
 |nil=>rfl
 |var _ _ ih=>simp only [Ts.length,ih]
 |node _ _ _ _ ih=>simp only [Ts.length,ih]
theorem QeA.cases {ρ:Int→Int→Prop} {t t':Tm} (h:QeA ρ t t'):(t.k=0∧t'.k=0∧ρ t.n t'.n∧t.s=t'.s∧t.ar= .nil∧t'.ar= .nil)∨(t.k≠0∧t.k=t'.k∧t.n=t'.n∧t.s=t'.s∧TsR ρ t.ar t'.ar):=by
 obtain ⟨k,n,s,a⟩:=t
 obtain ⟨k',n',s',a'⟩:=t'
 unfold QeA at h
 dsimp only at h⊢
 cases h with
 |var h1 _=>exact .inl ⟨rfl,rfl,h1,rfl,rfl,rfl⟩
 |node h1 h2 _=>exact .inr ⟨h1,rfl,rfl,rfl,h2⟩
theorem QeA.node_vw {ρ:Int→Int→Prop} {t t':Tm} (hk:t.k≠0) (h:QeA ρ t t'):VwR (QeA ρ) (tvw t) (tvw t'):=by
 rcases h.cases with h|⟨h1,h2,h3,h4,h5⟩
 ·exact absurd h.1 hk
 ·unfold tvw
  rw [if_neg h1,if_neg (by rw [←h2];exact h1)]
  exact ⟨h2,h3,h4,h5.al⟩
def QrV (ρ:Int→Int→Prop) (m m' V:Int) (u v:Int):Prop:=ρ u v∨∃i,0≤i∧i<V∧u=i+m∧v=i+m'
theorem Bm.more {ρ:Int→Int→Prop} {B e:Bnd} {m m' V:Int} (h:Bm Qgp Qdl (QeA ρ) B e) (hB:FB m B) (he:FB m' e) (hρ:∀u v,ρ u v→u<m∧v<m'):Bm Qgp Qdl (QeA (QrV ρ m m' V)) B e:=by
 have hsub:∀x y,QeA ρ x y→QeA (QrV ρ m m' V) x y:=fun x y hr=>TsR.mono (fun u v h=> .inl h) hr
 have old:∀{x y:Tm},QeA (QrV ρ m m' V) x y→x.k=0→(QeA ρ x y)∨∃i,0≤i∧i<V∧Qbg B x= .var (i+m)∧Qbg e y= .var (i+m'):=by
  intro x y hr hk
  rcases hr.cases with ⟨k0,k1,hv,hs,ha,ha'⟩|⟨hn,_⟩
  ·rcases hv with hv|⟨i,i0,i1,e1,e2⟩
   ·left
    obtain ⟨k,n,s,a⟩:=x
    obtain ⟨k',n',s',a'⟩:=y
    dsimp only at*
    subst k0 k1 hs ha ha'
    exact .var hv .nil
   ·refine .inr ⟨i,i0,i1,?_,?_⟩
    ·refine Qao.2 ?_
     rw [QcI (hB.get Ya)];exact ⟨k0,e1⟩
    ·refine Qao.2 ?_
     rw [QcI (he.get Ya)];exact ⟨k1,e2⟩
  ·exact absurd hk hn
 have low1:∀{x y:Tm} {u v:Int},QeA ρ x y→Qbg B x= .var u→Qbg e y= .var v→u<m∧v<m':=by
  intro x y u v hr hu hv
  obtain ⟨a1,a2⟩:=Qao.1 hu
  obtain ⟨b1,b2⟩:=Qao.1 hv
  rcases hr.cases with ⟨k0,k1,hv,hs,ha,ha'⟩|⟨hn,hk2,_⟩
  ·obtain ⟨c1,c2⟩:=hρ _ _ hv
   have lx:Qim m x:=⟨fun _=>c1,by rw [ha];trivial⟩
   have ly:Qim m' y:=⟨fun _=>c2,by rw [ha'];trivial⟩
   rw [←a2,←b2]
   exact ⟨(Qcu hB lx).1 a1,(Qcu he ly).1 b1⟩
  ·rw [Qak hn] at a1;exact absurd a1 hn
 have kvar:∀{x:Tm} {u:Int},Qbg B x= .var u→x.k=0:=by
  intro x u hu
  obtain ⟨a1,a2⟩:=Qao.1 hu
  by_cases hk:x.k=0
  ·exact hk
  ·rw [Qak hk] at a1;exact a1
 refine ⟨h.oka,h.okb,fun _=>trivial,fun _=>trivial,fun {x y} hr=> ?_,?_⟩
 ·by_cases hk:x.k=0
  ·rcases old hr hk with ho|⟨i,i0,i1,e1,e2⟩
   ·exact VwR.imp hsub (h.vw ho)
   ·show VwR _ (Qbg B x) (Qbg e y)
    rw [e1,e2];trivial
  ·have hk':y.k≠0:=by
    rcases hr.cases with h|h
    ·exact absurd h.1 hk
    ·rw [←h.2.1];exact hk
   show VwR _ (tvw (Qc B x)) (tvw (Qc e y))
   rw [Qak hk,Qak hk']
   exact hr.node_vw hk
 ·intro x y x' y' u u' v v' hr hr' e1 e2 e3 e4
  rcases old hr (kvar e1) with ho|⟨i,i0,i1,f1,f2⟩
  ·rcases old hr' (kvar e2) with ho'|⟨i',i0',i1',f1',f2'⟩
   ·exact h.vr ho ho' e1 e2 e3 e4
   ·have g1:=low1 ho e1 e3
    have g2:u'=i'+m:=by have:=f1'.symm.trans e2;cases this;rfl
    have g3:v'=i'+m':=by have:=f2'.symm.trans e4;cases this;rfl
    omega
  ·have g2:u=i+m:=by have:=f1.symm.trans e1;cases this;rfl
   have g3:v=i+m':=by have:=f2.symm.trans e3;cases this;rfl
   rcases old hr' (kvar e2) with ho'|⟨i',i0',i1',f1',f2'⟩
   ·have g1:=low1 ho' e2 e4
    omega
   ·have g4:u'=i'+m:=by have:=f1'.symm.trans e2;cases this;rfl
    have g5:v'=i'+m':=by have:=f2'.symm.trans e4;cases this;rfl
    omega
theorem QnB {ρ:Int→Int→Prop} {m m' V:Int} (h0:0≤m) (h1:m≤40000) (h2:0≤m') (h3:m'≤40000) (hV:V≤8) (T:Ts):T.good V=true→TsR (QrV ρ m m' V) (T.shift m) (T.shift m'):=by
 induction T with
 |nil=>intro _;exact .nil
 |cons k n s ar r iha ihr=>
  intro hg
  simp only [Ts.good,Bool.and_eq_true] at hg
  rw [Ts.shift_cons,Ts.shift_cons]
  by_cases hk:k=0
  ·subst hk
   have hn:=hg.1.1
   unfold QaH at hn
   rw [if_pos rfl] at hn
   simp only [Bool.and_eq_true,decide_eq_true_eq] at hn
   obtain rfl:=Ts.nil_of_length hn.2
   have e1:Qbl 0 n m=n+m:=by unfold Qbl;rw [if_pos rfl,QfW Ya Ya,QfW h0 Ya]
   have e2:Qbl 0 n m'=n+m':=by unfold Qbl;rw [if_pos rfl,QfW Ya Ya,QfW h2 Ya]
   rw [e1,e2]
   exact .var (.inr ⟨n,hn.1.1.1,hn.1.1.2,rfl,rfl⟩) (ihr hg.2)
  ·have e1:Qbl k n m=n:=by unfold Qbl;rw [if_neg hk]
   have e2:Qbl k n m'=n:=by unfold Qbl;rw [if_neg hk]
   rw [e1,e2]
   exact .node hk (iha hg.1.2) (ihr hg.2)
theorem QqC {ρ:Int→Int→Prop} (hi:∀u v u' v',ρ u v→ρ u' v'→(u=u'↔v=v')) {T U:Ts} (h:TsR ρ T U):∀ks ks':List Int,Al ρ ks ks'→(T.tidyFrom ks).1=(U.tidyFrom ks').1∧Al ρ (T.tidyFrom ks).2 (U.tidyFrom ks').2:=by
 have hpos:∀{n n':Int},ρ n n'→∀{ks ks':List Int},Al ρ ks ks'→pos n ks=pos n' ks':=by
  intro n n' hn ks ks' hk
  induction hk with
  |nil=>rfl
  | @cons x y l m hxy _ ih=>
   simp only [pos]
   by_cases e:n=x
   ·rw [if_pos e,if_pos ((hi _ _ _ _ hn hxy).1 e)]
   ·rw [if_neg e,if_neg fun e2=>e ((hi _ _ _ _ hn hxy).2 e2),ih]
 induction h with
 |nil=>intro ks ks' hk;exact ⟨rfl,hk⟩
 | @var n n' s r r' hn _ ih=>
  intro ks ks' hk
  rw [Ts.tidyFrom_cons,Ts.tidyFrom_cons]
  have e1:tV 0 n ks=tV 0 n' ks':=by
   unfold tV Qo9;rw [if_pos rfl,if_pos rfl,hpos hn hk,hk.len]
  have e2:Al ρ (tS 0 n ks) (tS 0 n' ks'):=by
   unfold tS Qm6;rw [if_pos rfl,if_pos rfl,hpos hn hk]
   split
   ·exact hk
   ·exact hk.app (.cons hn .nil)
  obtain ⟨i1,i2⟩:=ih _ _ (show Al ρ (Ts.nil.tidyFrom (tS 0 n ks)).2 (Ts.nil.tidyFrom (tS 0 n' ks')).2 from e2)
  refine ⟨?_,i2⟩
  rw [e1,i1];rfl
 | @node k n s ar ar' r r' hk0 _ _ iha ihr=>
  intro ks ks' hk
  rw [Ts.tidyFrom_cons,Ts.tidyFrom_cons]
  have e1:tV k n ks=n:=by unfold tV;rw [if_neg hk0]
  have e1':tV k n ks'=n:=by unfold tV;rw [if_neg hk0]
  have e2:tS k n ks=ks:=by unfold tS;rw [if_neg hk0]
  have e2':tS k n ks'=ks':=by unfold tS;rw [if_neg hk0]
  rw [e1,e1',e2,e2']
  obtain ⟨i1,i2⟩:=iha _ _ hk
  obtain ⟨j1,j2⟩:=ihr _ _ i2
  exact ⟨by rw [i1,j1],j2⟩
structure Qa0 where
 fuel:Nat
 vars:Nat
 calls:Nat
 out:List Ev
 ended:Bool
abbrev Tg:=Tm×Nat
def QfZ (k:Int) (p:Qa0):Qa0:=⟨p.fuel,p.vars,p.calls,p.out++[(k,.nil)],true⟩
def Qhm (j:Bnd→Tm→Tm→Bnd) (e:Bnd):Nat→Nat→Nat→Option (Ts×Nat)
 |0,_,l=>some (.nil,l)
 |m+1,v,l=>match QdT (Qtc j) e 201 ⟨0,v,⟨#[]⟩,.nil⟩ l with
  |none=>none
  |some (t,l')=>match Qhm j e m (v+1) l' with
   |none=>none
   |some (T,l'')=>some (.cons t.k t.n t.s t.ar T,l'')
def Qf3 (q:Nat) (e:Bnd) (p:Qa0):Int×Qa0:=match Qhm QfL e q 0 200 with
 |none=>(-1,QfZ 4 p)
 |some (T,_)=>if (p.out++[((1:Int),T.tidy)]).length=12 then (-1,QfZ 6 ⟨p.fuel,p.vars,p.calls,p.out++[(1,T.tidy)],p.ended⟩) else (-1,⟨p.fuel,p.vars,p.calls,p.out++[(1,T.tidy)],p.ended⟩)
def QbY (a b:Tm) (e:Bnd):Ug Bnd:=QbM Qdl 401 a b e 0
def QaX:Ts→Int→Nat→List Tg→List Tg
 | .nil,_,_,rest=>rest
 | .cons k n s a r,m,c,rest=>(Tm.shift ⟨k,n,s,a⟩ m,c)::QaX r m c rest
def Qgx (pr:List Tg→Bnd→Qa0→Int×Qa0) (g:Tg) (r:List Tg) (e:Bnd) (call:Nat):List Cl→Qa0→Int×Qa0
 |[],p=>(-1,p)
 |c::cs,p=>
  if 400<(QbY (c.head.shift p.vars) g.1 e).w then (-1,QfZ 4 p)
  else if (QbY (c.head.shift p.vars) g.1 e).ok=true then
   if (pr (QaX c.bd p.vars call r) (QbY (c.head.shift p.vars) g.1 e).s ⟨p.fuel,p.vars+c.vars.toNat,p.calls,p.out,p.ended⟩).2.ended=true then (-1,(pr (QaX c.bd p.vars call r) (QbY (c.head.shift p.vars) g.1 e).s ⟨p.fuel,p.vars+c.vars.toNat,p.calls,p.out,p.ended⟩).2)
   else if (pr (QaX c.bd p.vars call r) (QbY (c.head.shift p.vars) g.1 e).s ⟨p.fuel,p.vars+c.vars.toNat,p.calls,p.out,p.ended⟩).1=(call:Nat) then (-1,(pr (QaX c.bd p.vars call r) (QbY (c.head.shift p.vars) g.1 e).s ⟨p.fuel,p.vars+c.vars.toNat,p.calls,p.out,p.ended⟩).2)
   else if 0≤(pr (QaX c.bd p.vars call r) (QbY (c.head.shift p.vars) g.1 e).s ⟨p.fuel,p.vars+c.vars.toNat,p.calls,p.out,p.ended⟩).1 then pr (QaX c.bd p.vars call r) (QbY (c.head.shift p.vars) g.1 e).s ⟨p.fuel,p.vars+c.vars.toNat,p.calls,p.out,p.ended⟩
   else Qgx pr g r e call cs (pr (QaX c.bd p.vars call r) (QbY (c.head.shift p.vars) g.1 e).s ⟨p.fuel,p.vars+c.vars.toNat,p.calls,p.out,p.ended⟩).2
  else Qgx pr g r e call cs p
def Qm5 (pr:List Tg→Bnd→Qa0→Int×Qa0) (r:List Tg) (e:Bnd) (p:Qa0) (x y:Tm):Int×Qa0:=
 if 400<(QbY x y e).w then (-1,QfZ 4 p) else if (QbY x y e).ok=true then pr r (QbY x y e).s p else (-1,p)
def Qcl (pr:List Tg→Bnd→Qa0→Int×Qa0) (g:Tg) (r:List Tg) (e:Bnd) (p:Qa0):Int×Qa0:=
 if g.1.s.toList=[33] then if 0≤(pr r e p).1∧(pr r e p).1<(g.2:Nat) then pr r e p else ((g.2:Nat),(pr r e p).2)
 else if g.1.s.toList=[116,114,117,101] then pr r e p
 else if g.1.s.toList=[102,97,105,108] then (-1,p)
 else if g.1.s.toList=[101,113] then Qm5 pr r e p (g.1.ar.at_ 0) (g.1.ar.at_ 1)
 else if (Qc e (g.1.ar.at_ 0)).k≠2∨(Qc e (g.1.ar.at_ 1)).k≠2∨(g.1.s.toList=[97,100,100]∧(1099511627776<(Qc e (g.1.ar.at_ 0)).n+(Qc e (g.1.ar.at_ 1)).n∨(Qc e (g.1.ar.at_ 0)).n+(Qc e (g.1.ar.at_ 1)).n< -1099511627776)) then (-1,QfZ 5 p)
 else if g.1.s.toList=[108,101,115,115] then if (Qc e (g.1.ar.at_ 0)).n<(Qc e (g.1.ar.at_ 1)).n then pr r e p else (-1,p)
 else Qm5 pr r e p (g.1.ar.at_ 2) ⟨2,(Qc e (g.1.ar.at_ 0)).n+(Qc e (g.1.ar.at_ 1)).n,⟨#[]⟩,.nil⟩
def Qn (P:List Cl) (q:Nat):Nat→List Tg→Bnd→Qa0→Int×Qa0
 |_,[],e,p=>Qf3 q e p
 |0,_::_,_,p=>(-1,QfZ 3 p)
 |f+1,g::r,e,p=>if p.fuel=0 then (-1,QfZ 3 p)
  else if Q1 g.1.s.toList g.1.ar.length=true then Qcl (Qn P q f) g r e ⟨p.fuel-1,p.vars,p.calls,p.out,p.ended⟩
  else match P.filter (QcV g.1) with
   |[]=>(-1,QfZ 5 ⟨p.fuel-1,p.vars,p.calls,p.out,p.ended⟩)
   |c::cs=>Qgx (Qn P q f) g r e (p.calls+1) (c::cs) ⟨p.fuel-1,p.vars,p.calls+1,p.out,p.ended⟩
def Qjj (P:List Cl) (q:Ts) (vars fuel:Int):List Ev×Int:=
 if pB P=false∨qB vars q=false then ([],1)
 else if fuel<0∨150<fuel then ([],2)
 else (if (Qn P vars.toNat fuel.toNat (QaX q 0 0 []) [] ⟨fuel.toNat,vars.toNat,0,[],false⟩).2.ended=true then (Qn P vars.toNat fuel.toNat (QaX q 0 0 []) [] ⟨fuel.toNat,vars.toNat,0,[],false⟩).2.out
  else (Qn P vars.toNat fuel.toNat (QaX q 0 0 []) [] ⟨fuel.toNat,vars.toNat,0,[],false⟩).2.out++[(2,.nil)],0)
section
variable {P:List Cl} {q:Nat}
def Qch (P:List Cl) (q:Nat) (s:SS) (L:List Ev):Prop:=∃n,Qlh P q n s=L∧L≠[]
def QkO (P:List Cl) (q:Nat) (s:SS) (L:List Ev):Prop:=((Q9 s).1=0∧Qch P q (Q9 s).2 L)∨((Q9 s).1≠0∧L=Qdc (Q9 s).2.ev++[((Q9 s).1,.nil)])
theorem Qka {s s':SS} {L:List Ev} (h:Qag P q s=(0,s')) (hg:Qch P q s' L):Qch P q s L:=by
 obtain ⟨n,h1,h2⟩:=hg
 refine ⟨n+1,?_,h2⟩
 simp only [Qlh,h,if_true];exact h1
theorem QgX {s s':SS} {k:Int} (h:Qag P q s=(k,s')) (hk:k≠0):Qch P q s (Qdc s'.ev++[(k,.nil)]):=by
 refine ⟨1,?_,by simp⟩
 simp only [Qlh,h]
 rw [if_neg hk]
theorem QhF {s t:SS} {L:List Ev} (h:Qag P q s=Q9 t) (hr:QkO P q t L):Qch P q s L:=by
 rcases hr with ⟨h0,hg⟩|⟨h0,rfl⟩
 ·exact Qka (s':=(Q9 t).2) (by rw [h,←h0]) hg
 ·exact QgX (s':=(Q9 t).2) (k:=(Q9 t).1) h h0
theorem Qlj:∀(n m:Nat) (s:SS),QdS s.ch<n→QdS s.ch<m→QaN n s=QaN m s
 |0,_,_,h,_=>by omega
 |_,0,_,_,h=>by omega
 |n+1,m+1,s,hn,hm=>by
  conv=>lhs;unfold QaN
  conv=>rhs;unfold QaN
  cases h1:s.ch with
  |nil=>rfl
  |cons c cs=>
   simp only
   cases h2:c.cls with
   |nil=>rfl
   |cons cl more=>
    simp only
    have hc:QdS s.ch=more.length+1+QdS cs:=by rw [h1];simp only [QdS,h2,List.length_cons]
    split
    ·rfl
    split
    ·rfl
    ·exact Qlj n m _ (by simp only [Qe7];omega) (by simp only [Qe7];omega)
theorem Ql7 (X B:Bnd):QaU (X++B) B.length=B:=by
 unfold QaU
 rw [show (X++B).length-B.length=X.length by simp]
 simp
theorem Qsp {t:SS} {g:Gl} {rest:List Gl} {c:Cl} {more:List Cl} {C:List Ch} {X B:Bnd} (hc:t.ch=⟨g,rest,c::more,B.length⟩::C) (hB:t.B=X++B) {L:List Ev}:
  QkO P q t L↔(if 400<(Qci 401 (c.head.shift t.fresh) g.1 B 0).w then L=Qdc t.ev++[(4,.nil)]
   else if (Qci 401 (c.head.shift t.fresh) g.1 B 0).ok=true then Qch P q ⟨(Qci 401 (c.head.shift t.fresh) g.1 B 0).B,t.fresh+c.vars.toNat,t.fuel,QeL c.bd t.fresh C.length rest,Qe8 ⟨g,rest,[],B.length⟩ more C,t.ev⟩ L
   else QkO P q ⟨(Qci 401 (c.head.shift t.fresh) g.1 B 0).B,t.fresh+c.vars.toNat,t.fuel,t.goals,Qe8 ⟨g,rest,[],B.length⟩ more C,t.ev⟩ L):=by
 have hp:Qe8 ⟨g,rest,c::more,B.length⟩ more C=Qe8 ⟨g,rest,[],B.length⟩ more C:=by cases more<;>rfl
 have ha:Q9 t=QaN (QdS t.ch+1) t:=rfl
 have hr:=Qek (n:=QdS t.ch) (s:=t) hc (rfl:(⟨g,rest,c::more,B.length⟩:Ch).cls=c::more)
 rw [hB,Ql7,hp] at hr
 unfold QkO
 rw [ha,hr]
 dsimp only
 split
 ·simp
 split
 ·simp
 ·have hf:QaN (QdS t.ch) ⟨(Qci 401 (c.head.shift t.fresh) g.1 B 0).B,t.fresh+c.vars.toNat,t.fuel,t.goals,Qe8 ⟨g,rest,[],B.length⟩ more C,t.ev⟩=Q9 ⟨(Qci 401 (c.head.shift t.fresh) g.1 B 0).B,t.fresh+c.vars.toNat,t.fuel,t.goals,Qe8 ⟨g,rest,[],B.length⟩ more C,t.ev⟩:=by
   refine Qlj _ _ _ ?_ (by simp only;omega)
   simp only [Qe7];rw [hc];simp only [QdS,List.length_cons];omega
  rw [hf]
theorem TsR.low {ρ:Int→Int→Prop} {m m':Int} (hρ:∀u v,ρ u v→u<m∧v<m') {T U:Ts} (h:TsR ρ T U):T.vars (· <m)∧U.vars (· <m'):=by
 induction h with
 |nil=>exact ⟨trivial,trivial⟩
 |var h1 _ ih=>exact ⟨⟨fun _=>(hρ _ _ h1).1,trivial,ih.1⟩,⟨fun _=>(hρ _ _ h1).2,trivial,ih.2⟩⟩
 |node h1 _ _ i1 i2=>exact ⟨⟨fun e=>absurd e h1,i1.1,i2.1⟩,⟨fun e=>absurd e h1,i1.2,i2.2⟩⟩
theorem QeA.low {ρ:Int→Int→Prop} {m m':Int} (hρ:∀u v,ρ u v→u<m∧v<m') {t t':Tm} (h:QeA ρ t t'):Qim m t∧Qim m' t':=by
 obtain ⟨⟨a,b,_⟩,c,d,_⟩:=TsR.low hρ h
 exact ⟨⟨a,b⟩,⟨c,d⟩⟩
theorem Qqy {ρ:Int→Int→Prop} {B e:Bnd} {m m':Int} (h:Bm Qgp Qdl (QeA ρ) B e) (hB:FB m B) (he:FB m' e) (hρ:∀u v,ρ u v→u<m∧v<m') {a b a' b':Tm} (ha:QeA ρ a a') (hb:QeA ρ b b'):
  (Qci 401 a b B 0).ok=(QbY a' b' e).ok∧(Qci 401 a b B 0).w=(QbY a' b' e).w∧Bm Qgp Qdl (QeA ρ) (Qci 401 a b B 0).B (QbY a' b' e).s∧FB m (Qci 401 a b B 0).B∧FB m' (QbY a' b' e).s:=by
 have hu:=Qtt 401 a b B 0 h.oka
 obtain ⟨h1,h2,h3⟩:=Qpi (Qmc Qro) (Qmc Qw2) 401 a b a' b' B e 0 h ha hb
 have la:=ha.low hρ
 have lb:=hb.low hρ
 have f1:=Qqx Qrp 401 a b B 0 hB la.1 lb.1
 have f2:=Qqx Qw3 401 a' b' e 0 he la.2 lb.2
 rw [←hu] at h1 h2 h3 f1
 exact ⟨h1,h2,h3,f1,f2⟩
end
def Qm9 (h:Nat→Nat) (C:List Ch) (c:Int):List Ch:=if c<0 then C else C.drop (C.length-h c.toNat)
structure Rs (P:List Cl) (q:Nat) (K:List Ev→Prop) (B0:Bnd) (fr0:Nat) (C:List Ch) (p p':Qa0):Prop where
 vm:p.vars≤p'.vars
 cm:p.calls≤p'.calls
 fm:p'.fuel≤p.fuel
 en:p'.ended=true→K p'.out
 go:p'.ended=false→∃t:SS,QfM t∧t.ch=C∧t.fuel=p'.fuel∧p'.out=Qdc t.ev∧t.ev.length<12∧(∃X,t.B=X++B0)∧fr0≤t.fresh∧p'.vars≤t.fresh∧∀L,QkO P q t L→K L
def GlR (ρ:Int→Int→Prop) (h:Nat→Nat) (x:Gl) (y:Tg):Prop:=QeA ρ x.1 y.1∧x.2=h y.2
structure Rl (ρ:Int→Int→Prop) (h:Nat→Nat) (q:Nat) (s:SS) (g:List Tg) (e:Bnd) (p:Qa0):Prop where
 fuel:s.fuel=p.fuel
 out:p.out=Qdc s.ev
 ev:s.ev.length<12
 ne:p.ended=false
 bm:Bm Qgp Qdl (QeA ρ) s.B e
 fb:FB s.fresh s.B
 fe:FB p.vars e
 rho:∀u v,ρ u v→u<s.fresh∧v<p.vars
 le:p.vars≤s.fresh
 qv:∀v:Nat,v<q→ρ v v
 gl:Al (GlR ρ h) s.goals g
 srt:g.Pairwise fun a b=>b.2≤a.2
 mono:∀a∈g,∀b∈g,a.2≤b.2→h a.2≤h b.2
 ht:∀a∈g,h a.2≤s.ch.length∧a.2≤p.calls
 inv:Inv s
def QzC (P:List Cl) (q f:Nat):Prop:=∀ρ h s g e p,Rl ρ h q s g e p→p.fuel≤f→
 Rs P q (Qch P q s) s.B s.fresh (Qm9 h s.ch (Qn P q f g e p).1) p (Qn P q f g e p).2∧((Qn P q f g e p).2.ended=false→(Qn P q f g e p).1= -1∨∃a∈g,(Qn P q f g e p).1=(a.2:Nat))
theorem Al.impM {X Y:Type} {R Q:X→Y→Prop} {l:List X} {m:List Y} (h:Al R l m):(∀x y,y∈m→R x y→Q x y)→Al Q l m:=by
 induction h with
 |nil=>intro _;exact .nil
 |cons h _ ih=>intro hi;exact .cons (hi _ _ (List.mem_cons_self ..) h) (ih fun x y hy hr=>hi x y (List.mem_cons_of_mem _ hy) hr)
theorem QdE {m:Int} {c:Nat} {r:List Tg}:∀(T:Ts) {a:Tg},a∈QaX T m c r→a.2=c∨a∈r
 | .nil,a,h=> .inr h
 | .cons k n s ar t,a,h=>by
  rcases List.mem_cons.1 h with rfl|h
  ·exact .inl rfl
  ·exact QdE t h
theorem QmS {m:Int} {c:Nat} {r:List Tg} (hr:r.Pairwise fun a b=>b.2≤a.2) (hc:∀a∈r,a.2≤c):∀T:Ts,(QaX T m c r).Pairwise fun a b=>b.2≤a.2
 | .nil=>hr
 | .cons k n s ar t=>by
  refine List.pairwise_cons.2 ⟨fun a ha=> ?_,QmS hr hc t⟩
  rcases QdE t ha with e|e
  ·exact Nat.le_of_eq e
  ·exact hc a e
theorem QmT {ρ:Int→Int→Prop} {h:Nat→Nat} {m m' V:Int} {o c:Nat} {rest:List Gl} {r:List Tg} (h0:0≤m) (h1:m≤40000) (h2:0≤m') (h3:m'≤40000) (hV:V≤8) (ho:o=h c) (hr:Al (GlR (QrV ρ m m' V) h) rest r):∀T:Ts,T.goals V=true→Al (GlR (QrV ρ m m' V) h) (QeL T m o rest) (QaX T m' c r)
 | .nil,_=>hr
 | .cons k n s ar t,hg=>by
  simp only [Ts.goals,gB,Bool.and_eq_true] at hg
  exact .cons ⟨QnB h0 h1 h2 h3 hV (.cons k n s ar .nil) hg.1.1.2,ho⟩ (QmT h0 h1 h2 h3 hV ho hr t hg.2)
theorem Qq2 (c:Ch) (more:List Cl) (C:List Ch) {k:Nat} (hk:k≤C.length):(Qe8 c more C).drop ((Qe8 c more C).length-k)=C.drop (C.length-k):=by
 cases more with
 |nil=>rfl
 |cons x r=>
  show (_::C).drop (C.length+1-k)=_
  rw [show C.length+1-k=(C.length-k)+1 by omega];rfl
theorem QyN (l:List Ts) (k:Int) (p:Qa0) (h:p.out=Qdc l):(QfZ k p).out=Qdc l++[(k,.nil)]:=by simp only [QfZ,h]
section
variable {P:List Cl} {q:Nat}
theorem Qye {f:Nat} (ih:QzC P q f) {ρ:Int→Int→Prop} {h:Nat→Nat} {B e:Bnd} {C:List Ch} {g:Gl} {g':Tg} {rest:List Gl} {r':List Tg} {call:Nat}
  (bm:Bm Qgp Qdl (QeA ρ) B e) (hgg:QeA ρ g.1 g'.1) (gl:Al (GlR ρ h) rest r') (srt:r'.Pairwise fun a b=>b.2≤a.2) (mono:∀a∈r',∀b∈r',a.2≤b.2→h a.2≤h b.2) (ht:∀a∈r',h a.2≤C.length∧a.2<call) (qv:∀v:Nat,v<q→ρ v v):
  ∀(cls:List Cl) (t:SS) (p:Qa0),QfM t→t.ch=Qe8 ⟨g,rest,[],B.length⟩ cls C→(∃X,t.B=X++B)→t.fuel=p.fuel→p.out=Qdc t.ev→t.ev.length<12→p.ended=false→p.vars≤t.fresh→FB t.fresh B→FB p.vars e→(∀u v,ρ u v→u<t.fresh∧v<p.vars)→call≤p.calls→p.fuel≤f→(∀c∈cls,cB c=true)→
   Rs P q (QkO P q t) B t.fresh (Qm9 h C (Qgx (Qn P q f) g' r' e call cls p).1) p (Qgx (Qn P q f) g' r' e call cls p).2∧((Qgx (Qn P q f) g' r' e call cls p).2.ended=false→(Qgx (Qn P q f) g' r' e call cls p).1= -1∨∃a∈r',(Qgx (Qn P q f) g' r' e call cls p).1=(a.2:Nat)):=by
 intro cls
 induction cls with
 |nil=>
  intro t p hI hch hX hfu ho hev hne hle hfb hfe hρ hca hfl _
  refine ⟨⟨Nat.le_refl _,Nat.le_refl _,Nat.le_refl _,fun hh=> ?_,fun _=>⟨t,hI,hch,hfu,ho,hev,hX,Nat.le_refl _,hle,fun L hL=>hL⟩⟩,fun _=> .inl rfl⟩
  have:p.ended=true:=hh
  rw [hne] at this;cases this
 |cons c more ihc=>
  intro t p hI hch hX hfu ho hev hne hle hfb hfe hρ hca hfl hcB
  obtain ⟨X,hX⟩:=hX
  have hch':t.ch=⟨g,rest,c::more,B.length⟩::C:=hch
  obtain ⟨v0,v1,v2,v3,v4⟩:=Qez (hcB c (List.mem_cons_self ..))
  have hfr:t.fresh≤40000:=by have:=hI.fr;omega
  have hpi:=Qml hI hch' (rfl:(⟨g,rest,c::more,B.length⟩:Ch).cls=c::more) t.goals
  rw [hX,Ql7] at hpi
  have hp:Qe8 ⟨g,rest,c::more,B.length⟩ more C=Qe8 ⟨g,rest,[],B.length⟩ more C:=by cases more<;>rfl
  rw [hp] at hpi
  have bm':=bm.more (V:=c.vars) hfb hfe hρ
  have hhead:QeA (QrV ρ t.fresh p.vars c.vars) (c.head.shift t.fresh) (c.head.shift p.vars):=by
   refine QnB Ya Ya Ya Ya v1 (.cons c.k c.n c.s c.hd .nil) ?_
   simp only [gB,Bool.and_eq_true] at v4;exact v4.1.2
  have hρ':∀u v,QrV ρ t.fresh p.vars c.vars u v→u<((t.fresh+c.vars.toNat:Nat):Int)∧v<((p.vars+c.vars.toNat:Nat):Int):=by
   rintro u v (h1|⟨i,i0,i1,rfl,rfl⟩)
   ·have:=hρ u v h1;omega
   ·omega
  have hgg':QeA (QrV ρ t.fresh p.vars c.vars) g.1 g'.1:=TsR.mono (fun _ _ h=> .inl h) hgg
  obtain ⟨u1,u2,u3,u4,u5⟩:=Qqy bm' (hfb.mono (m':=((t.fresh+c.vars.toNat:Nat):Int)) Ya) (hfe.mono (m':=((p.vars+c.vars.toNat:Nat):Int)) Ya) hρ' hhead hgg'
  have hrc:=fun L=>Qsp (P:=P) (q:=q) (L:=L) hch' hX
  obtain ⟨N,hN⟩:∃N,(Qci 401 (c.head.shift t.fresh) g.1 B 0).B=N++B:=by
   have hch2:=hI.ch
   rw [hch'] at hch2
   have hgb:=hI.gb
   rw [hX] at hgb
   have hsm:SmB B:=fun x hx=>(hgb x (List.mem_append.2 (.inr hx))).small
   have hbo:Bok B:=bm.oka
   exact (QeW 401 (c.head.shift t.fresh) g.1 B 0 (QrF (hcB c (List.mem_cons_self ..)) hfr).small (hch2.2.2.1 g (List.mem_cons_self ..)).small hbo hsm Ya).ext
  by_cases hw:400<(QbY (c.head.shift p.vars) g'.1 e).w
  ·have e1:Qgx (Qn P q f) g' r' e call (c::more) p=(-1,QfZ 4 p):=by rw [Qgx,if_pos hw]
   rw [e1]
   refine ⟨⟨Nat.le_refl _,Nat.le_refl _,Nat.le_refl _,fun _=> ?_,fun hh=>(by cases hh)⟩,fun _=> .inl rfl⟩
   rw [hrc,if_pos (by rw [u2];exact hw)]
   exact QyN _ _ _ ho
  by_cases hok:(QbY (c.head.shift p.vars) g'.1 e).ok=true
  ·have hR:∀L,Qch P q ⟨(Qci 401 (c.head.shift t.fresh) g.1 B 0).B,t.fresh+c.vars.toNat,t.fuel,QeL c.bd t.fresh C.length rest,Qe8 ⟨g,rest,[],B.length⟩ more C,t.ev⟩ L→QkO P q t L:=fun L hL=>by
    rw [hrc,if_neg (by rw [u2];exact hw),if_pos (by rw [u1];exact hok)];exact hL
   have hinv:Inv ⟨(Qci 401 (c.head.shift t.fresh) g.1 B 0).B,t.fresh+c.vars.toNat,t.fuel,QeL c.bd t.fresh C.length rest,Qe8 ⟨g,rest,[],B.length⟩ more C,t.ev⟩:=by
    have ha:Q9 t=(0,⟨(Qci 401 (c.head.shift t.fresh) g.1 B 0).B,t.fresh+c.vars.toNat,t.fuel,QeL c.bd t.fresh C.length rest,Qe8 ⟨g,rest,[],B.length⟩ more C,t.ev⟩):=by
     have hr:=Qek (n:=QdS t.ch) (s:=t) hch' (rfl:(⟨g,rest,c::more,B.length⟩:Ch).cls=c::more)
     rw [hX,Ql7,hp,if_neg (by rw [u2];exact hw),if_pos (by rw [u1];exact hok)] at hr
     exact hr
    have:=(Qcw hI).1
    rw [ha] at this
    exact (this rfl).1
   have hpl:=Qui ⟨g,rest,[],B.length⟩ more C
   have hRl:Rl (QrV ρ t.fresh p.vars c.vars) (fun x=>if x=call then C.length else h x) q ⟨(Qci 401 (c.head.shift t.fresh) g.1 B 0).B,t.fresh+c.vars.toNat,t.fuel,QeL c.bd t.fresh C.length rest,Qe8 ⟨g,rest,[],B.length⟩ more C,t.ev⟩ (QaX c.bd p.vars call r') (QbY (c.head.shift p.vars) g'.1 e).s ⟨p.fuel,p.vars+c.vars.toNat,p.calls,p.out,p.ended⟩:=by
    refine ⟨hfu,ho,hev,hne,u3,u4,u5,hρ',by simp only;omega,fun v hv=> .inl (qv v hv),?_,QmS srt (fun a ha=>Nat.le_of_lt (ht a ha).2) _,?_,?_,hinv⟩
    ·refine QmT Ya Ya Ya Ya v1 Yd (gl.impM fun x y hy hr=>⟨TsR.mono (fun _ _ h=> .inl h) hr.1,?_⟩) c.bd v3
     have:=(ht y hy).2
     show x.2=if y.2=call then C.length else h y.2
     rw [if_neg Ya];exact hr.2
    ·intro a ha b hb hab
     try dsimp only
     rcases QdE _ ha with e1|e1
     ·rcases QdE _ hb with e2|e2
      ·rw [if_pos e1,if_pos e2];exact Nat.le_refl _
      ·have:=(ht b e2).2;omega
     ·have h1:=ht a e1
      rw [if_neg Ya]
      rcases QdE _ hb with e2|e2
      ·rw [if_pos e2];exact h1.1
      ·have h2:=ht b e2
       rw [if_neg Ya];exact mono a e1 b e2 hab
    ·intro a ha
     try dsimp only
     rcases QdE _ ha with e1|e1
     ·rw [if_pos e1];exact ⟨hpl,by omega⟩
     ·have h1:=ht a e1
      rw [if_neg Ya];exact ⟨by omega,by omega⟩
   obtain ⟨hRs,hmem⟩:=ih _ _ _ _ _ _ hRl hfl
   have e1:Qgx (Qn P q f) g' r' e call (c::more) p=if (Qn P q f (QaX c.bd p.vars call r') (QbY (c.head.shift p.vars) g'.1 e).s ⟨p.fuel,p.vars+c.vars.toNat,p.calls,p.out,p.ended⟩).2.ended=true then (-1,(Qn P q f (QaX c.bd p.vars call r') (QbY (c.head.shift p.vars) g'.1 e).s ⟨p.fuel,p.vars+c.vars.toNat,p.calls,p.out,p.ended⟩).2)
    else if (Qn P q f (QaX c.bd p.vars call r') (QbY (c.head.shift p.vars) g'.1 e).s ⟨p.fuel,p.vars+c.vars.toNat,p.calls,p.out,p.ended⟩).1=(call:Nat) then (-1,(Qn P q f (QaX c.bd p.vars call r') (QbY (c.head.shift p.vars) g'.1 e).s ⟨p.fuel,p.vars+c.vars.toNat,p.calls,p.out,p.ended⟩).2)
    else if 0≤(Qn P q f (QaX c.bd p.vars call r') (QbY (c.head.shift p.vars) g'.1 e).s ⟨p.fuel,p.vars+c.vars.toNat,p.calls,p.out,p.ended⟩).1 then Qn P q f (QaX c.bd p.vars call r') (QbY (c.head.shift p.vars) g'.1 e).s ⟨p.fuel,p.vars+c.vars.toNat,p.calls,p.out,p.ended⟩
    else Qgx (Qn P q f) g' r' e call more (Qn P q f (QaX c.bd p.vars call r') (QbY (c.head.shift p.vars) g'.1 e).s ⟨p.fuel,p.vars+c.vars.toNat,p.calls,p.out,p.ended⟩).2:=by
    rw [Qgx,if_neg hw,if_pos hok]
   rw [e1]
   generalize Qn P q f (QaX c.bd p.vars call r') (QbY (c.head.shift p.vars) g'.1 e).s ⟨p.fuel,p.vars+c.vars.toNat,p.calls,p.out,p.ended⟩=res at hRs hmem⊢
   obtain ⟨a1,a2,a3,a4,a5⟩:=hRs
   dsimp only at a1 a2 a3 a5
   cases hen:res.2.ended with
   |true=>
    rw [if_pos rfl]
    exact ⟨⟨by dsimp only;omega,a2,a3,fun _=>hR _ (a4 hen),fun hh=>(by rw [hen] at hh;cases hh)⟩,fun _=> .inl rfl⟩
   |false=>
    rw [if_neg Yf]
    obtain ⟨t2,b1,b2,b3,b4,b5,⟨X2,b6⟩,b7,b8,b9⟩:=a5 hen
    have hsuf:∃Y,t2.B=Y++B:=⟨X2++N,by rw [b6,hN,List.append_assoc]⟩
    have hmem:=hmem hen
    by_cases hcut:res.1=(call:Nat)
    ·rw [if_pos hcut]
     refine ⟨⟨by dsimp only;omega,a2,a3,fun hh=>(by rw [hen] at hh;cases hh),fun _=>⟨t2,b1,?_,b3,b4,b5,hsuf,by omega,b8,fun L hL=>hR _ (b9 L hL)⟩⟩,fun _=> .inl rfl⟩
     rw [b2,hcut]
     unfold Qm9
     rw [if_neg Ya,if_pos (show ((-1:Int),res.2).1<0 by show (-1:Int)<0;decide)]
     simp only [Int.toNat_natCast,if_true]
     rw [Qq2 _ _ _ (Nat.le_refl _)];simp
    ·rw [if_neg hcut]
     rcases hmem with hm1|⟨a,ha,hm2⟩
     ·rw [if_neg (by rw [hm1];decide)]
      have hC1:t2.ch=Qe8 ⟨g,rest,[],B.length⟩ more C:=by rw [b2,hm1];unfold Qm9;rw [if_pos Yf]
      obtain ⟨hRs2,hmem2⟩:=ihc t2 res.2 b1 hC1 hsuf b3 b4 b5 hen b8 (hfb.mono Ya) (hfe.mono Ya) (fun u v h=>by have:=hρ u v h;omega) Ya Ya (fun c hc=>hcB c (List.mem_cons_of_mem _ hc))
      obtain ⟨d1,d2,d3,d4,d5⟩:=hRs2
      refine ⟨⟨by omega,by omega,by omega,fun hh=>hR _ (b9 _ (d4 hh)),fun hh=> ?_⟩,hmem2⟩
      obtain ⟨t3,f1,f2,f3,f4,f5,f6,f7,f8,f9⟩:=d5 hh
      exact ⟨t3,f1,f2,f3,f4,f5,f6,by omega,f8,fun L hL=>hR _ (b9 _ (f9 L hL))⟩
     ·have hpos:0≤res.1:=by omega
      rw [if_pos hpos]
      rcases QdE _ ha with e2|e2
      ·rw [e2] at hm2;exact absurd hm2 hcut
      ·have h1:=ht a e2
       refine ⟨⟨by omega,a2,a3,fun hh=>(by rw [hen] at hh;cases hh),fun _=>⟨t2,b1,?_,b3,b4,b5,hsuf,by omega,b8,fun L hL=>hR _ (b9 L hL)⟩⟩,fun _=> .inr ⟨a,e2,hm2⟩⟩
       rw [b2,hm2]
       unfold Qm9
       rw [if_neg Ya,if_neg Ya]
       simp only [Int.toNat_natCast]
       rw [if_neg Ya,Qq2 _ _ _ h1.1]
  ·have e1:Qgx (Qn P q f) g' r' e call (c::more) p=Qgx (Qn P q f) g' r' e call more p:=by rw [Qgx,if_neg hw,if_neg hok]
   rw [e1]
   have hR:∀L,QkO P q ⟨(Qci 401 (c.head.shift t.fresh) g.1 B 0).B,t.fresh+c.vars.toNat,t.fuel,t.goals,Qe8 ⟨g,rest,[],B.length⟩ more C,t.ev⟩ L→QkO P q t L:=fun L hL=>by
    rw [hrc,if_neg (by rw [u2];exact hw),if_neg (by rw [u1];exact hok)];exact hL
   obtain ⟨hRs2,hmem2⟩:=ihc _ p hpi rfl ⟨N,hN⟩ hfu ho hev hne (by simp only;omega) (hfb.mono (by simp only;omega)) hfe (fun u v h=>by have:=hρ u v h;simp only;omega) hca hfl (fun c hc=>hcB c (List.mem_cons_of_mem _ hc))
   obtain ⟨d1,d2,d3,d4,d5⟩:=hRs2
   refine ⟨⟨d1,d2,d3,fun hh=>hR _ (d4 hh),fun hh=> ?_⟩,hmem2⟩
   obtain ⟨t3,f1,f2,f3,f4,f5,f6,f7,f8,f9⟩:=d5 hh
   exact ⟨t3,f1,f2,f3,f4,f5,f6,by simp only at f7;omega,f8,fun L hL=>hR _ (f9 L hL)⟩
end
end Go.Proofs.YthliapbflkfdiacGreatDoor
