/- RefS1, GSim, GRun, TSim, DRun, PSim1, PModel, PSim2, PSim3: texts that follow one another, laid into one file. -/
import Derived.Test.YthliapbflkfdiacGreatDoorZ0
import Derived.Test.YthliapbflkfdiacGreatDoorG19
import Derived.Test.YthliapbflkfdiacGreatDoorG0
import Derived.Test.YthliapbflkfdiacGreatDoorG7
import Derived.Test.YthliapbflkfdiacGreatDoorG8
import Derived.Test.YthliapbflkfdiacGreatDoorG10
import Derived.Test.YthliapbflkfdiacGreatDoorG13
namespace Go.Proofs.YthliapbflkfdiacGreatDoor
open Go.RowKit
set_option linter.unusedVariables false
set_option linter.unusedSimpArgs false
set_option maxRecDepth 100000
set_option maxHeartbeats 1000000
section
variable {M:List Nat} {w0:World} {H:List (Nat×Obj)} {F:List (World→Prop)}
end
inductive Vw (X:Type) where
 |var (v:Int)
 |node (k n:Int) (s:ByteArray) (ar:List X)
def Vw.sub {X:Type} (a:Vw X) (v:Int) (t:Vw X):Vw X:=match a with
 | .var u=>if u=v then t else .var u
 | .node k n s ar=> .node k n s ar
inductive Al {X Y:Type} (R:X→Y→Prop):List X→List Y→Prop
 |nil:Al R [] []
 |cons {x:X} {y:Y} {l:List X} {m:List Y}:R x y→Al R l m→Al R (x::l) (y::m)
theorem Al.len {X Y:Type} {R:X→Y→Prop} {l:List X} {m:List Y} (h:Al R l m):l.length=m.length:=by
 induction h with
 |nil=>rfl
 |cons _ _ ih=>simp [ih]
theorem Al.imp {X Y:Type} {R Q:X→Y→Prop} (hi:∀x y,R x y→Q x y) {l:List X} {m:List Y} (h:Al R l m):Al Q l m:=by
 induction h with
 |nil=>exact .nil
 |cons h _ ih=>exact .cons (hi _ _ h) ih
theorem Al.app {X Y:Type} {R:X→Y→Prop} {l l':List X} {m m':List Y} (h:Al R l m) (h':Al R l' m'):Al R (l++l') (m++m'):=by
 induction h with
 |nil=>exact h'
 |cons h _ ih=>exact .cons h ih
structure Sy where
 X:Type
 S:Type
 ok:S→Prop
 dom:S→X→Prop
 view:S→X→Vw X
 bind:S→Int→X→S
 join:S→X→X→S
structure Sy.Law (A:Sy):Prop where
 bind_ok:∀{σ x v t k n s ar},A.ok σ→A.dom σ x→A.dom σ t→A.view σ x= .var v→A.view σ t= .node k n s ar→A.ok (A.bind σ v t)
 bind_dom:∀{σ v t y},A.dom σ y→A.dom (A.bind σ v t) y
 bind_view:∀{σ x v t k n s ar y},A.ok σ→A.dom σ x→A.dom σ t→A.view σ x= .var v→A.view σ t= .node k n s ar→A.dom σ y→A.view (A.bind σ v t) y=(A.view σ y).sub v (A.view σ t)
 join_ok:∀{σ a b u v},A.ok σ→A.dom σ a→A.dom σ b→A.view σ a= .var u→A.view σ b= .var v→u≠v→A.ok (A.join σ a b)
 join_dom:∀{σ a b y},A.dom σ y→A.dom (A.join σ a b) y
 join_view:∀{σ a b u v},A.ok σ→A.dom σ a→A.dom σ b→A.view σ a= .var u→A.view σ b= .var v→u≠v→
  (∀y,A.dom σ y→A.view (A.join σ a b) y=(A.view σ y).sub u (.var v))∨(∀y,A.dom σ y→A.view (A.join σ a b) y=(A.view σ y).sub v (.var u))
section
variable {A:Sy}
def QpQ {X:Type} (g:X→Nat→Bool×Nat):List X→Nat→Bool×Nat
 |[],w=>(false,w)
 |x::r,w=>if (g x w).1=true then (true,(g x w).2) else QpQ g r (g x w).2
def QgA (A:Sy) (σ:A.S) (v:Int):Nat→A.X→Nat→Bool×Nat
 |0,_,w=>(false,w+1)
 |f+1,x,w=>if 400<w+1 then (false,w+1) else match A.view σ x with
  | .var u=>(decide (u=v),w+1)
  | .node _ _ _ ar=>QpQ (QgA A σ v f) ar (w+1)
structure Ug (S:Type) where
 ok:Bool
 s:S
 w:Nat
def Qmh {X S:Type} (g:X→X→S→Nat→Ug S):List X→List X→S→Nat→Ug S
 |x::r,y::r',σ,w=>if (g x y σ w).ok=true then Qmh g r r' (g x y σ w).s (g x y σ w).w else g x y σ w
 |_,_,σ,w=>⟨true,σ,w⟩
def QpP (A:Sy) (v:Int) (t:A.X) (σ:A.S) (w:Nat):Ug A.S:=
 if (QgA A σ v 401 t w).1=true∨400<(QgA A σ v 401 t w).2 then ⟨false,σ,(QgA A σ v 401 t w).2⟩ else ⟨true,A.bind σ v t,(QgA A σ v 401 t w).2⟩
def QfL (A:Sy):Nat→A.X→A.X→A.S→Nat→Ug A.S
 |0,_,_,σ,w=>⟨false,σ,w+1⟩
 |f+1,a,b,σ,w=>if 400<w+1 then ⟨false,σ,w+1⟩ else match A.view σ a,A.view σ b with
  | .var u,.var v=>⟨true,if u=v then σ else A.join σ a b,w+1⟩
  | .var u,.node _ _ _ _=>QpP A u b σ (w+1)
  | .node _ _ _ _,.var v=>QpP A v a σ (w+1)
  | .node k n s ar,.node k' n' s' ar'=>if k=k'∧n=n'∧s=s'∧ar.length=ar'.length then Qmh (QfL A f) ar ar' σ (w+1) else ⟨false,σ,w+1⟩
def Qel {X:Type} (g:X→Nat→Option (Tm×Nat)):List X→Nat→Option (Ts×Nat)
 |[],l=>some (.nil,l)
 |x::r,l=>match g x l with
  |none=>none
  |some (t,l')=>match Qel g r l' with
   |none=>none
   |some (T,l'')=>some (.cons t.k t.n t.s t.ar T,l'')
def Qgw (A:Sy) (σ:A.S):Nat→A.X→Nat→Option (Tm×Nat)
 |0,_,_=>none
 |f+1,x,l=>if l=0 then none else match A.view σ x with
  | .var u=>some (⟨0,u,⟨#[]⟩,.nil⟩,l-1)
  | .node k n s ar=>match Qel (Qgw A σ f) ar (l-1) with
   |none=>none
   |some (T,l')=>some (⟨k,n,s,T⟩,l')
end
section
variable {A B:Sy} {R:A.X→B.X→Prop} {σ:A.S} {τ:B.S}
def VwR {X Y:Type} (R:X→Y→Prop):Vw X→Vw Y→Prop
 | .var _,.var _=>True
 | .node k n s ar,.node k' n' s' ar'=>k=k'∧n=n'∧s=s'∧Al R ar ar'
 |_,_=>False
theorem VwR.imp {X Y:Type} {R Q:X→Y→Prop} (hi:∀x y,R x y→Q x y):∀{a:Vw X} {b:Vw Y},VwR R a b→VwR Q a b
 | .var _,.var _,_=>trivial
 | .node _ _ _ _,.node _ _ _ _,h=>⟨h.1,h.2.1,h.2.2.1,h.2.2.2.imp hi⟩
structure Bm (A B:Sy) (R:A.X→B.X→Prop) (σ:A.S) (τ:B.S):Prop where
 oka:A.ok σ
 okb:B.ok τ
 da:∀{x y},R x y→A.dom σ x
 db:∀{x y},R x y→B.dom τ y
 vw:∀{x y},R x y→VwR R (A.view σ x) (B.view τ y)
 vr:∀{x y x' y' u u' v v'},R x y→R x' y'→A.view σ x= .var u→A.view σ x'= .var u'→B.view τ y= .var v→B.view τ y'= .var v'→(u=u'↔v=v')
theorem Bm.cases (h:Bm A B R σ τ) {x:A.X} {y:B.X} (hr:R x y):(∃u v,A.view σ x= .var u∧B.view τ y= .var v)∨∃k n s ar ar',A.view σ x= .node k n s ar∧B.view τ y= .node k n s ar'∧Al R ar ar':=by
 have:=h.vw hr
 cases hx:A.view σ x with
 |var u=>
  cases hy:B.view τ y with
  |var v=>exact .inl ⟨u,v,rfl,rfl⟩
  |node k n s ar=>rw [hx,hy] at this;exact this.elim
 |node k n s ar=>
  cases hy:B.view τ y with
  |var v=>rw [hx,hy] at this;exact this.elim
  |node k' n' s' ar'=>
   rw [hx,hy] at this
   obtain ⟨rfl,rfl,rfl,h4⟩:=this
   exact .inr ⟨k,n,s,ar,ar',rfl,rfl,h4⟩
theorem Bm.bind (hA:A.Law) (hB:B.Law) (h:Bm A B R σ τ) {x t:A.X} {y t':B.X} {v v':Int} {k n:Int} {s:ByteArray} {ar:List A.X} {ar':List B.X} (hx:R x y) (ht:R t t') (hv:A.view σ x= .var v) (hv':B.view τ y= .var v') (htv:A.view σ t= .node k n s ar) (htv':B.view τ t'= .node k n s ar') (hal:Al R ar ar'):
  Bm A B R (A.bind σ v t) (B.bind τ v' t'):=by
 have ea:=fun {z:A.X} (hz:A.dom σ z)=>hA.bind_view (y:=z) h.oka (h.da hx) (h.da ht) hv htv hz
 have eb:=fun {z:B.X} (hz:B.dom τ z)=>hB.bind_view (y:=z) h.okb (h.db hx) (h.db ht) hv' htv' hz
 refine ⟨hA.bind_ok h.oka (h.da hx) (h.da ht) hv htv,hB.bind_ok h.okb (h.db hx) (h.db ht) hv' htv',fun hr=>hA.bind_dom (h.da hr),fun hr=>hB.bind_dom (h.db hr),fun {p q} hr=> ?_,?_⟩
 ·rw [ea (h.da hr),eb (h.db hr)]
  rcases h.cases hr with ⟨u,u',e,e'⟩|⟨k2,n2,s2,r2,r2',e,e',ha⟩
  ·have:=h.vr hr hx e hv e' hv'
   rw [e,e']
   simp only [Vw.sub]
   by_cases he:u=v
   ·rw [if_pos he,if_pos (this.1 he),htv,htv'];exact ⟨rfl,rfl,rfl,hal⟩
   ·rw [if_neg he,if_neg fun e2=>he (this.2 e2)];trivial
  ·rw [e,e'];exact ⟨rfl,rfl,rfl,ha⟩
 ·intro p q p' q' u u' w w' hr hr' e1 e2 e3 e4
  rw [ea (h.da hr)] at e1
  rw [ea (h.da hr')] at e2
  rw [eb (h.db hr)] at e3
  rw [eb (h.db hr')] at e4
  rcases h.cases hr with ⟨c,c',f1,f2⟩|⟨k2,n2,s2,r2,r2',f1,f2,_⟩
  ·rcases h.cases hr' with ⟨d,d',g1,g2⟩|⟨k2,n2,s2,r2,r2',g1,g2,_⟩
   ·rw [f1] at e1
    rw [g1] at e2
    rw [f2] at e3
    rw [g2] at e4
    simp only [Vw.sub] at e1 e2 e3 e4
    split at e1
    ·rw [htv] at e1;cases e1
    split at e2
    ·rw [htv] at e2;cases e2
    split at e3
    ·rw [htv'] at e3;cases e3
    split at e4
    ·rw [htv'] at e4;cases e4
    cases e1;cases e2;cases e3;cases e4
    exact h.vr hr hr' f1 g1 f2 g2
   ·rw [g1] at e2;simp only [Vw.sub] at e2;cases e2
  ·rw [f1] at e1;simp only [Vw.sub] at e1;cases e1
theorem Bm.join (hA:A.Law) (hB:B.Law) (h:Bm A B R σ τ) {a b:A.X} {a' b':B.X} {u v u' v':Int} (ha:R a a') (hb:R b b') (hu:A.view σ a= .var u) (hv:A.view σ b= .var v) (hu':B.view τ a'= .var u') (hv':B.view τ b'= .var v') (hne:u≠v):
  Bm A B R (A.join σ a b) (B.join τ a' b'):=by
 have hne':u'≠v':=fun e=>hne ((h.vr ha hb hu hv hu' hv').2 e)
 have ja:=hA.join_view h.oka (h.da ha) (h.da hb) hu hv hne
 have jb:=hB.join_view h.okb (h.db ha) (h.db hb) hu' hv' hne'
 have key : ∀ (p q : Int) (p' q' : Int), ((p = u ∧ q = v) ∨ (p = v ∧ q = u)) → ((p' = u' ∧ q' = v') ∨ (p' = v' ∧ q' = u')) → (∀ y, A.dom σ y → A.view (A.join σ a b) y = (A.view σ y).sub p (.var q)) → (∀ y, B.dom τ y → B.view (B.join τ a' b') y = (B.view τ y).sub p' (.var q')) → Bm A B R (A.join σ a b) (B.join τ a' b') := by
  intro p q p' q' hp hp' ea eb
  refine ⟨hA.join_ok h.oka (h.da ha) (h.da hb) hu hv hne,hB.join_ok h.okb (h.db ha) (h.db hb) hu' hv' hne',fun hr=>hA.join_dom (h.da hr),fun hr=>hB.join_dom (h.db hr),fun {c d} hr=> ?_,?_⟩
  ·rw [ea _ (h.da hr),eb _ (h.db hr)]
   rcases h.cases hr with ⟨w,w',e,e'⟩|⟨k2,n2,s2,r2,r2',e,e',hal⟩
   ·rw [e,e']
    simp only [Vw.sub]
    split<;>split<;>trivial
   ·rw [e,e'];exact ⟨rfl,rfl,rfl,hal⟩
  ·intro x y x' y' c c' d d' hr hr' e1 e2 e3 e4
   rw [ea _ (h.da hr)] at e1
   rw [ea _ (h.da hr')] at e2
   rw [eb _ (h.db hr)] at e3
   rw [eb _ (h.db hr')] at e4
   rcases h.cases hr with ⟨x1,y1,f1,f2⟩|⟨k2,n2,s2,r2,r2',f1,f2,_⟩
   ·rcases h.cases hr' with ⟨x2,y2,g1,g2⟩|⟨k2,n2,s2,r2,r2',g1,g2,_⟩
    ·have i1:=h.vr hr hr' f1 g1 f2 g2
     have i2:=h.vr hr ha f1 hu f2 hu'
     have i3:=h.vr hr hb f1 hv f2 hv'
     have i4:=h.vr hr' ha g1 hu g2 hu'
     have i5:=h.vr hr' hb g1 hv g2 hv'
     rw [f1] at e1
     rw [g1] at e2
     rw [f2] at e3
     rw [g2] at e4
     simp only [Vw.sub] at e1 e2 e3 e4
     have t1:c=if x1=p then q else x1:=by
      split at e1<;>(cases e1;rename_i hh;simp [hh])
     have t2:c'=if x2=p then q else x2:=by
      split at e2<;>(cases e2;rename_i hh;simp [hh])
     have t3:d=if y1=p' then q' else y1:=by
      split at e3<;>(cases e3;rename_i hh;simp [hh])
     have t4:d'=if y2=p' then q' else y2:=by
      split at e4<;>(cases e4;rename_i hh;simp [hh])
     clear e1 e2 e3 e4 ea eb ja jb
     rcases hp with ⟨rfl,rfl⟩|⟨rfl,rfl⟩<;>rcases hp' with ⟨rfl,rfl⟩|⟨rfl,rfl⟩<;>(subst t1 t2 t3 t4;split<;>split<;>split<;>split<;>omega)
    ·rw [g1] at e2;simp only [Vw.sub] at e2;cases e2
   ·rw [f1] at e1;simp only [Vw.sub] at e1;cases e1
 rcases ja with ja|ja<;>rcases jb with jb|jb
 ·exact key u v u' v' (.inl ⟨rfl,rfl⟩) (.inl ⟨rfl,rfl⟩) ja jb
 ·exact key u v v' u' (.inl ⟨rfl,rfl⟩) (.inr ⟨rfl,rfl⟩) ja jb
 ·exact key v u u' v' (.inr ⟨rfl,rfl⟩) (.inl ⟨rfl,rfl⟩) ja jb
 ·exact key v u v' u' (.inr ⟨rfl,rfl⟩) (.inr ⟨rfl,rfl⟩) ja jb
theorem QuV {X Y:Type} {R:X→Y→Prop} {g:X→Nat→Bool×Nat} {g':Y→Nat→Bool×Nat} (hg:∀x y w,R x y→g x w=g' y w) {l:List X} {m:List Y} (h:Al R l m):∀w,QpQ g l w=QpQ g' m w:=by
 induction h with
 |nil=>intro w;rfl
 |cons h _ ih=>intro w;simp only [QpQ];rw [hg _ _ w h,ih]
theorem QqH (h:Bm A B R σ τ) {x0:A.X} {y0:B.X} {v v':Int} (h0:R x0 y0) (hv:A.view σ x0= .var v) (hv':B.view τ y0= .var v'):∀(f:Nat) (x:A.X) (y:B.X) (w:Nat),R x y→QgA A σ v f x w=QgA B τ v' f y w
 |0,x,y,w,hr=>rfl
 |f+1,x,y,w,hr=>by
  simp only [QgA]
  split
  ·rfl
  ·rcases h.cases hr with ⟨u,u',e,e'⟩|⟨k,n,s,ar,ar',e,e',ha⟩
   ·rw [e,e']
    have:=h.vr hr h0 e hv e' hv'
    show (decide (u=v),_)=(decide (u'=v'),_)
    rw [show decide (u=v)=decide (u'=v') from by by_cases hh:u=v<;>simp [hh,←this]]
   ·rw [e,e']
    exact QuV (fun x y w hr=>QqH h h0 hv hv' f x y w hr) ha _
def UgR (A B:Sy) (R:A.X→B.X→Prop) (r:Ug A.S) (r':Ug B.S):Prop:=r.ok=r'.ok∧r.w=r'.w∧Bm A B R r.s r'.s
theorem QuW {g:A.X→A.X→A.S→Nat→Ug A.S} {g':B.X→B.X→B.S→Nat→Ug B.S} (hg:∀a b a' b' σ τ w,Bm A B R σ τ→R a a'→R b b'→UgR A B R (g a b σ w) (g' a' b' τ w)) {l l2:List A.X} {m m2:List B.X} (h:Al R l m) (h2:Al R l2 m2):
  ∀(σ:A.S) (τ:B.S) (w:Nat),Bm A B R σ τ→UgR A B R (Qmh g l l2 σ w) (Qmh g' m m2 τ w):=by
 induction h generalizing l2 m2 with
 |nil=>intro σ τ w hb;cases h2<;>exact ⟨rfl,rfl,hb⟩
 |cons h _ ih=>
  intro σ τ w hb
  cases h2 with
  |nil=>exact ⟨rfl,rfl,hb⟩
  |cons h2 h3=>
   simp only [Qmh]
   obtain ⟨e1,e2,e3⟩:=hg _ _ _ _ σ τ w hb h h2
   rw [←e1]
   split
   ·rw [←e2];exact ih h3 _ _ _ e3
   ·exact ⟨e1,e2,e3⟩
theorem QrU (hA:A.Law) (hB:B.Law) (h:Bm A B R σ τ) {x t:A.X} {y t':B.X} {v v':Int} {k n:Int} {s:ByteArray} {ar:List A.X} {ar':List B.X} (hx:R x y) (ht:R t t') (hv:A.view σ x= .var v) (hv':B.view τ y= .var v') (htv:A.view σ t= .node k n s ar) (htv':B.view τ t'= .node k n s ar') (hal:Al R ar ar') (w:Nat):
  UgR A B R (QpP A v t σ w) (QpP B v' t' τ w):=by
 unfold QpP
 rw [QqH h hx hv hv' 401 t t' w ht]
 split
 ·exact ⟨rfl,rfl,h⟩
 ·exact ⟨rfl,rfl,h.bind hA hB hx ht hv hv' htv htv' hal⟩
theorem Qp1 (hA:A.Law) (hB:B.Law):∀(f:Nat) (a b:A.X) (a' b':B.X) (σ:A.S) (τ:B.S) (w:Nat),Bm A B R σ τ→R a a'→R b b'→UgR A B R (QfL A f a b σ w) (QfL B f a' b' τ w)
 |0,a,b,a',b',σ,τ,w,h,_,_=>⟨rfl,rfl,h⟩
 | f + 1, a, b, a', b', σ, τ, w, h, ha, hb => by
  simp only [QfL]
  split
  ·exact ⟨rfl,rfl,h⟩
  ·rcases h.cases ha with ⟨u,u',e1,e2⟩|⟨k,n,s,ar,ar',e1,e2,hal⟩
   ·rcases h.cases hb with ⟨v,v',e3,e4⟩|⟨k,n,s,ar,ar',e3,e4,hal⟩
    ·rw [e1,e2,e3,e4]
     have:=h.vr ha hb e1 e3 e2 e4
     by_cases hh:u=v
     ·refine ⟨rfl,rfl,?_⟩
      show Bm A B R (if u=v then σ else A.join σ a b) (if u'=v' then τ else B.join τ a' b')
      rw [if_pos hh,if_pos (this.1 hh)];exact h
     ·refine ⟨rfl,rfl,?_⟩
      show Bm A B R (if u=v then σ else A.join σ a b) (if u'=v' then τ else B.join τ a' b')
      rw [if_neg hh,if_neg fun e=>hh (this.2 e)]
      exact h.join hA hB ha hb e1 e3 e2 e4 hh
    ·rw [e1,e2,e3,e4]
     exact QrU hA hB h ha hb e1 e2 e3 e4 hal _
   ·rcases h.cases hb with ⟨v,v',e3,e4⟩|⟨k2,n2,s2,ar2,ar2',e3,e4,hal2⟩
    ·rw [e1,e2,e3,e4]
     exact QrU hA hB h hb ha e3 e4 e1 e2 hal _
    ·rw [e1,e2,e3,e4]
     show UgR A B R (if _ then _ else _) (if _ then _ else _)
     rw [←hal.len,←hal2.len]
     split
     ·exact QuW (fun a b a' b' σ τ w hb ha hb'=>Qp1 hA hB f a b a' b' σ τ w hb ha hb') hal hal2 _ _ _ h
     ·exact ⟨rfl,rfl,h⟩
inductive TsR (ρ:Int→Int→Prop):Ts→Ts→Prop
 |nil:TsR ρ .nil .nil
 |var {n n':Int} {s:ByteArray} {r r':Ts}:ρ n n'→TsR ρ r r'→TsR ρ (.cons 0 n s .nil r) (.cons 0 n' s .nil r')
 |node {k n:Int} {s:ByteArray} {ar ar' r r':Ts}:k≠0→TsR ρ ar ar'→TsR ρ r r'→TsR ρ (.cons k n s ar r) (.cons k n s ar' r')
def Qvu {P Q:Type} (R:P→Q→Prop):Option P→Option Q→Prop
 |none,none=>True
 |some p,some q=>R p q
 |_,_=>False
def TmR (ρ:Int→Int→Prop) (p q:Tm×Nat):Prop:=p.2=q.2∧TsR ρ (.cons p.1.k p.1.n p.1.s p.1.ar .nil) (.cons q.1.k q.1.n q.1.s q.1.ar .nil)
theorem TsR.put {ρ:Int→Int→Prop} {k n k' n':Int} {s s':ByteArray} {a a' r r':Ts} (h:TsR ρ (.cons k n s a .nil) (.cons k' n' s' a' .nil)) (hr:TsR ρ r r'):TsR ρ (.cons k n s a r) (.cons k' n' s' a' r'):=by
 cases h with
 |var h _=>exact .var h hr
 |node h1 h2 _=>exact .node h1 h2 hr
theorem QuD {X Y:Type} {R:X→Y→Prop} {ρ:Int→Int→Prop} {g:X→Nat→Option (Tm×Nat)} {g':Y→Nat→Option (Tm×Nat)} (hg:∀x y l,R x y→Qvu (TmR ρ) (g x l) (g' y l)) {l:List X} {m:List Y} (h:Al R l m):∀w,Qvu (fun p q:Ts×Nat=>p.2=q.2∧TsR ρ p.1 q.1) (Qel g l w) (Qel g' m w):=by
 induction h with
 |nil=>intro w;exact ⟨rfl,.nil⟩
 | @cons x y l m h _ ih=>
  intro w
  simp only [Qel]
  have h1:=hg x y w h
  cases e1:g x w with
  |none=>
   cases e2:g' y w with
   |none=>trivial
   |some q=>rw [e1,e2] at h1;exact h1.elim
  |some p=>
   cases e2:g' y w with
   |none=>rw [e1,e2] at h1;exact h1.elim
   |some q=>
    rw [e1,e2] at h1
    obtain ⟨p1,p2⟩:=p
    obtain ⟨q1,q2⟩:=q
    obtain ⟨rfl,h3⟩:p2=q2∧_:=h1
    have h4:=ih p2
    dsimp only
    cases e3:Qel g l p2 with
    |none=>
     cases e4:Qel g' m p2 with
     |none=>trivial
     |some q=>rw [e3,e4] at h4;exact h4.elim
    |some p'=>
     cases e4:Qel g' m p2 with
     |none=>rw [e3,e4] at h4;exact h4.elim
     |some q'=>
      rw [e3,e4] at h4
      exact ⟨h4.1,h3.put h4.2⟩
def Bm.rho (A B:Sy) (R:A.X→B.X→Prop) (σ:A.S) (τ:B.S) (u v:Int):Prop:=∃x y,R x y∧A.view σ x= .var u∧B.view τ y= .var v
theorem Bm.inj (h:Bm A B R σ τ) {u v u' v':Int} (h1:Bm.rho A B R σ τ u v) (h2:Bm.rho A B R σ τ u' v'):u=u'↔v=v':=by
 obtain ⟨x,y,a,b,c⟩:=h1
 obtain ⟨x',y',a',b',c'⟩:=h2
 exact h.vr a a' b b' c c'
theorem QrY (h:Bm A B R σ τ) (hz:∀{x k n s ar},A.view σ x= .node k n s ar→A.dom σ x→k≠0):∀(f:Nat) (x:A.X) (y:B.X) (l:Nat),R x y→Qvu (TmR (Bm.rho A B R σ τ)) (Qgw A σ f x l) (Qgw B τ f y l)
 |0,x,y,l,hr=>trivial
 | f + 1, x, y, l, hr => by
  simp only [Qgw]
  split
  ·trivial
  ·rcases h.cases hr with ⟨u,u',e,e'⟩|⟨k,n,s,ar,ar',e,e',ha⟩
   ·rw [e,e']
    exact ⟨rfl,.var ⟨x,y,hr,e,e'⟩ .nil⟩
   ·rw [e,e']
    have h4:=QuD (fun x y l hr=>QrY h hz f x y l hr) ha (l-1)
    dsimp only
    cases e3:Qel (Qgw A σ f) ar (l-1) with
    |none=>
     cases e4:Qel (Qgw B τ f) ar' (l-1) with
     |none=>trivial
     |some q=>rw [e3,e4] at h4;exact h4.elim
    |some p'=>
     cases e4:Qel (Qgw B τ f) ar' (l-1) with
     |none=>rw [e3,e4] at h4;exact h4.elim
     |some q'=>
      rw [e3,e4] at h4
      exact ⟨h4.1,.node (hz e (h.da hr)) h4.2 .nil⟩
end
section
variable {A:Sy} {σ:A.S} {v:Int}
end
section
variable {A:Sy}
end
def Ts.tms:Ts→List Tm
 | .nil=>[]
 | .cons k n s a r=>⟨k,n,s,a⟩::r.tms
theorem Ts.tms_len (T:Ts):T.tms.length=T.length:=by
 induction T with
 |nil=>rfl
 |cons k n s a r _ ih=>simp only [Ts.tms,List.length_cons,ih,Ts.length]
def tvw (t:Tm):Vw Tm:=if t.k=0 then .var t.n else .node t.k t.n t.s t.ar.tms
def Qbv (B:Bnd) (t:Tm):Vw Tm:=tvw (Qh B t)
def Qsj (j:Bnd→Tm→Tm→Bnd):Sy where
 X:=Tm
 S:=Bnd
 ok:=Bok
 dom:=fun _ _=>True
 view:=Qbv
 bind:=fun B v t=>(v,Qh B t)::B
 join:=j
theorem QcM {B:Bnd} {t:Tm} {v:Int}:Qbv B t= .var v↔(Qh B t).k=0∧(Qh B t).n=v:=by
 unfold Qbv tvw
 split
 ·rename_i h;simp [h]
 ·rename_i h;simp [h]
theorem Qd0 {B:Bnd} {t:Tm} {k n:Int} {s:ByteArray} {ar:List Tm} (h:Qbv B t= .node k n s ar):(Qh B t).k=k∧k≠0∧(Qh B t).n=n∧(Qh B t).s=s∧(Qh B t).ar.tms=ar:=by
 unfold Qbv tvw at h
 split at h
 ·cases h
 ·rename_i h0;cases h;exact ⟨rfl,h0,rfl,rfl,rfl⟩
theorem Qra {B:Bnd} {v:Int} {t:Tm} (hB:Bok ((v,t)::B)) (x:Tm):Qh ((v,t)::B) x=if (Qh B x).k=0∧(Qh B x).n=v then t else Qh B x:=by
 obtain ⟨hv,ht,hB'⟩:=hB
 have hBo:Bok ((v,t)::B):=⟨hv,ht,hB'⟩
 have htt:Qh ((v,t)::B) t=t:=by
  by_cases hk:t.k=0
  ·refine QdM ?_
   obtain ⟨h1,h2⟩:=ht hk
   simp only [Qdk]
   rw [if_neg h1];exact h2
  ·exact Qbe hk
 have key : ∀ (p : Nat) (x : Tm), Qim B p x → Qh ((v, t) :: B) x = if (Qh B x).k = 0 ∧ (Qh B x).n = v then t else Qh B x := by
  intro p
  induction p using Nat.strongRecOn with
  | _ p ih =>
   intro x hx
   by_cases hk:x.k=0
   ·cases hg:Qdk x.n B with
    |none=>
     rw [QdM hg]
     by_cases hn:x.n=v
     ·rw [if_pos ⟨hk,hn⟩,Qf0 hBo hk (u:=t) (by simp only [Qdk];rw [if_pos hn]),htt]
     ·rw [if_neg fun h=>hn h.2,QdM]
      simp only [Qdk];rw [if_neg hn];exact hg
    |some u=>
     obtain ⟨q,hq,hu⟩:=hx.step hB' hk hg
     have hn:x.n≠v:=fun e=>by rw [e] at hg;rw [show Qdk v B=none from hv] at hg;cases hg
     rw [Qf0 hB' hk hg,Qf0 hBo hk (u:=u) (by simp only [Qdk];rw [if_neg hn];exact hg)]
     exact ih q hq u hu
   ·rw [Qbe hk,Qbe hk,if_neg fun h=>hk h.1]
 exact key _ x (Qim.start B x)
theorem QfM {B:Bnd} {v:Int} {t:Tm} (hB:Bok ((v,t)::B)) (x:Tm):Qbv ((v,t)::B) x=(Qbv B x).sub v (tvw t):=by
 have:=Qra hB x
 unfold Qbv
 rw [this]
 by_cases h:(Qh B x).k=0
 ·by_cases h2:(Qh B x).n=v
  ·rw [if_pos ⟨h,h2⟩]
   unfold Vw.sub
   rw [show tvw (Qh B x)= .var (Qh B x).n by unfold tvw;rw [if_pos h]]
   simp [h2]
  ·rw [if_neg fun e=>h2 e.2]
   rw [show tvw (Qh B x)= .var (Qh B x).n by unfold tvw;rw [if_pos h]]
   unfold Vw.sub;simp [h2]
 ·rw [if_neg fun e=>h e.1]
  rw [show tvw (Qh B x)= .node (Qh B x).k (Qh B x).n (Qh B x).s (Qh B x).ar.tms by unfold tvw;rw [if_neg h]]
  rfl
def Qt8 (j:Bnd→Tm→Tm→Bnd):Prop:=∀B a b u v,Bok B→Qbv B a= .var u→Qbv B b= .var v→u≠v→∃p q t,j B a b=(p,t)::B∧t.k=0∧t.n=q∧((p=u∧q=v)∨(p=v∧q=u))
theorem Qf6 {B:Bnd} (hB:Bok B) {x:Tm} {v:Int} (h:Qbv B x= .var v):Qdk v B=none:=by
 obtain ⟨h1,h2⟩:=QcM.1 h
 rw [←h2];exact QcA hB x h1
theorem QsA {j:Bnd→Tm→Tm→Bnd} (hj:Qt8 j):(Qsj j).Law where
 bind_ok:=by
  intro B x v t k n s ar hB _ _ hx ht
  obtain ⟨h1,h2,_⟩:=Qd0 ht
  exact ⟨Qf6 hB hx,fun e=>absurd e (by show (Qh B t).k≠0;rw [h1];exact h2),hB⟩
 bind_dom:=fun _=>trivial
 bind_view:=by
  intro B x v t k n s ar y hB _ _ hx ht _
  obtain ⟨h1,h2,_⟩:=Qd0 ht
  have hb:Bok ((v,Qh B t)::B):=⟨Qf6 hB hx,fun e=>absurd e (by show (Qh B t).k≠0;rw [h1];exact h2),hB⟩
  exact QfM hb y
 join_ok:=by
  intro B a b u v hB _ _ ha hb hne
  obtain ⟨p,q,t,e,hk,hn,hpq⟩:=hj B a b u v hB ha hb hne
  show Bok (j B a b)
  rw [e]
  have fu:=Qf6 hB ha
  have fv:=Qf6 hB hb
  rcases hpq with ⟨rfl,rfl⟩|⟨rfl,rfl⟩
  ·exact ⟨fu,fun _=>⟨by rw [hn];exact fun e=>hne e.symm,by rw [hn];exact fv⟩,hB⟩
  ·exact ⟨fv,fun _=>⟨by rw [hn];exact hne,by rw [hn];exact fu⟩,hB⟩
 join_dom:=fun _=>trivial
 join_view:=by
  intro B a b u v hB _ _ ha hb hne
  obtain ⟨p,q,t,e,hk,hn,hpq⟩:=hj B a b u v hB ha hb hne
  have fu:=Qf6 hB ha
  have fv:=Qf6 hB hb
  have et:tvw t= .var q:=by unfold tvw;rw [if_pos hk,hn]
  rcases hpq with ⟨rfl,rfl⟩|⟨rfl,rfl⟩
  ·refine .inl fun y _=> ?_
   show Qbv (j B a b) y=_
   have hb2:Bok ((p,t)::B):=⟨fu,fun _=>⟨by rw [hn];exact fun e=>hne e.symm,by rw [hn];exact fv⟩,hB⟩
   rw [e]
   have:=QfM hb2 y
   rw [et] at this;exact this
  ·refine .inr fun y _=> ?_
   show Qbv (j B a b) y=_
   have hb2:Bok ((p,t)::B):=⟨fv,fun _=>⟨by rw [hn];exact hne,by rw [hn];exact fu⟩,hB⟩
   rw [e]
   have:=QfM hb2 y
   rw [et] at this;exact this
def Qrm (B:Bnd) (a b:Tm):Bnd:=((Qh B a).n,Qh B b)::B
theorem Qs9:Qt8 Qrm:=fun B a b u v hB ha hb hne=>by
 obtain ⟨a1,a2⟩:=QcM.1 ha
 obtain ⟨b1,b2⟩:=QcM.1 hb
 exact ⟨u,v,Qh B b,by unfold Qrm;rw [a2],b1,b2,.inl ⟨rfl,rfl⟩⟩
abbrev QkF:Sy:=Qsj Qrm
theorem Qr0 {g:Tm→Nat→Bool×Nat}:∀(T:Ts) (w:Nat),Qts g T w=QpQ g T.tms w
 | .nil,w=>rfl
 | .cons k n s a r,w=>by simp only [Qts,Ts.tms,QpQ];rw [Qr0 r]
theorem QtL (B:Bnd) (v:Int):∀(f:Nat) (t:Tm) (w:Nat),Qmo B v f t w=QgA QkF B v f t w
 |0,t,w=>rfl
 |f+1,t,w=>by
  simp only [Qmo,QgA]
  split
  ·rfl
  ·rw [show QkF.view B t=tvw (Qh B t) from rfl]
   unfold tvw
   by_cases hk:(Qh B t).k=0
   ·rw [if_pos hk,if_pos hk]
   ·rw [if_neg hk,if_neg hk,Qr0]
    have:Qmo B v f=QgA QkF B v f:=by funext t w;exact QtL B v f t w
    rw [this];rfl
theorem QsS {j:Bnd→Tm→Tm→Bnd} {B:Bnd} (hB:Bok B) (v:Int) (f:Nat) (t:Tm) (w:Nat):QgA (Qsj j) B v f (Qh B t) w=QgA (Qsj j) B v f t w:=by
 cases f with
 |zero=>rfl
 |succ f=>
  simp only [QgA]
  rw [show (Qsj j).view B (Qh B t)=(Qsj j).view B t by show tvw (Qh B (Qh B t))=_;rw [Qq9 hB];rfl]
def Us.ug (u:Us):Ug Bnd:=⟨u.ok,u.B,u.w⟩
theorem Qr4 {g:Tm→Tm→Bnd→Nat→Us} {g':Tm→Tm→Bnd→Nat→Ug Bnd} (P:Bnd→Prop) (hP:∀a b B w,P B→P (g a b B w).B) (hg:∀a b B w,P B→(g a b B w).ug=g' a b B w):∀(T U:Ts) (B:Bnd) (w:Nat),P B→(Qmq g T U B w).ug=Qmh g' T.tms U.tms B w
 | .nil,U,B,w,_=>by cases U<;>rfl
 | .cons k n s a r,.nil,B,w,_=>rfl
 | .cons k n s a r,.cons k' n' s' a' r',B,w,h=>by
  simp only [Qmq,Ts.tms,Qmh]
  rw [←hg _ _ _ _ h]
  by_cases hok:(g ⟨k,n,s,a⟩ ⟨k',n',s',a'⟩ B w).ok=true
  ·rw [if_pos hok,if_pos (show (g ⟨k,n,s,a⟩ ⟨k',n',s',a'⟩ B w).ug.ok=true from hok)]
   exact Qr4 P hP hg r r' _ _ (hP _ _ _ _ h)
  ·rw [if_neg hok,if_neg (show¬(g ⟨k,n,s,a⟩ ⟨k',n',s',a'⟩ B w).ug.ok=true from hok)]
theorem QrW {B:Bnd} (hB:Bok B) {v:Int} {t:Tm} (hv:Qdk v B=none) (ht:t.k≠0) (w:Nat):Bok (QpO v t B w).B:=by
 unfold QpO
 split
 ·exact hB
 ·exact ⟨hv,fun e=>absurd e ht,hB⟩
theorem QoC {g:Tm→Tm→Bnd→Nat→Us} (hg:∀a b B w,Bok B→Bok (g a b B w).B):∀(T U:Ts) (B:Bnd) (w:Nat),Bok B→Bok (Qmq g T U B w).B
 | .nil,U,B,w,h=>by cases U<;>exact h
 | .cons _ _ _ _ _,.nil,B,w,h=>h
 | .cons k n s a r,.cons k' n' s' a' r',B,w,h=>by
  simp only [Qmq]
  split
  ·exact QoC hg r r' _ _ (hg _ _ _ _ h)
  ·exact hg _ _ _ _ h
theorem Qp3:∀(f:Nat) (a b:Tm) (B:Bnd) (w:Nat),Bok B→Bok (Qc1 f a b B w).B
 |0,a,b,B,w,h=>h
 | f + 1, a, b, B, w, h => by
  simp only [Qc1]
  split
  ·exact h
  split
  ·rename_i ha
   split
   ·rename_i hb
    show Bok (if _ then _ else _)
    split
    ·exact h
    ·rename_i hne
     exact ⟨QcA h a ha,fun _=>⟨fun e=>hne e.symm,QcA h b hb⟩,h⟩
   ·rename_i hb
    exact QrW h (QcA h a ha) hb _
  ·rename_i ha
   split
   ·rename_i hb
    exact QrW h (QcA h b hb) ha _
   ·split
    ·exact QoC (fun a b B w h=>Qp3 f a b B w h) _ _ _ _ h
    ·exact h
theorem QtA:∀(f:Nat) (a b:Tm) (B:Bnd) (w:Nat),Bok B→(Qc1 f a b B w).ug=QfL QkF f a b B w
 |0,a,b,B,w,h=>rfl
 | f + 1, a, b, B, w, h => by
  simp only [Qc1,QfL]
  by_cases hw:400<w+1
  ·rw [if_pos hw,if_pos hw];rfl
  rw [if_neg hw,if_neg hw]
  have va:QkF.view B a=tvw (Qh B a):=rfl
  have vb:QkF.view B b=tvw (Qh B b):=rfl
  rw [va,vb]
  have hasg:∀(v:Int) (t:Tm),(QpO v (Qh B t) B (w+1)).ug=QpP QkF v t B (w+1):=fun v t=>by
   unfold QpO QpP
   rw [QtL,QsS (j:=Qrm) h]
   split<;>rfl
  by_cases ha:(Qh B a).k=0
  ·rw [if_pos ha,show tvw (Qh B a)= .var (Qh B a).n by unfold tvw;rw [if_pos ha]]
   by_cases hb:(Qh B b).k=0
   ·rw [if_pos hb,show tvw (Qh B b)= .var (Qh B b).n by unfold tvw;rw [if_pos hb]]
    rfl
   ·rw [if_neg hb,show tvw (Qh B b)= .node (Qh B b).k (Qh B b).n (Qh B b).s (Qh B b).ar.tms by unfold tvw;rw [if_neg hb]]
    exact hasg _ _
  ·rw [if_neg ha,show tvw (Qh B a)= .node (Qh B a).k (Qh B a).n (Qh B a).s (Qh B a).ar.tms by unfold tvw;rw [if_neg ha]]
   by_cases hb:(Qh B b).k=0
   ·rw [if_pos hb,show tvw (Qh B b)= .var (Qh B b).n by unfold tvw;rw [if_pos hb]]
    exact hasg _ _
   ·rw [if_neg hb,show tvw (Qh B b)= .node (Qh B b).k (Qh B b).n (Qh B b).s (Qh B b).ar.tms by unfold tvw;rw [if_neg hb]]
    show (if _ then _ else _:Us).ug=if _ then _ else _
    have hc:QoD (Qh B a) (Qh B b)=true↔(Qh B a).k=(Qh B b).k∧(Qh B a).n=(Qh B b).n∧(Qh B a).s=(Qh B b).s∧(Qh B a).ar.tms.length=(Qh B b).ar.tms.length:=by
     simp only [QoD,Bool.and_eq_true,decide_eq_true_eq,Ts.tms_len,and_assoc]
    by_cases hal:QoD (Qh B a) (Qh B b)=true
    ·rw [if_pos hal]
     refine Eq.trans ?_ (if_pos (hc.1 hal)).symm
     exact Qr4 Bok (fun a b B w h=>Qp3 f a b B w h) (fun a b B w h=>QtA f a b B w h) _ _ _ _ h
    ·rw [if_neg hal]
     exact (if_neg fun e=>hal (hc.2 e)).symm
def QiC (m:Int) (t:Tm):Prop:=(t.k=0→t.n<m)∧t.ar.vars (· <m)
def FB (m:Int) (B:Bnd):Prop:=∀x∈B,x.1<m∧QiC m x.2
theorem Ts.vars_mono {P Q:Int→Prop} (h:∀n,P n→Q n) (T:Ts):T.vars P→T.vars Q:=by
 induction T with
 |nil=>exact id
 |cons k n s ar r iha ihr=>exact fun ⟨a,b,c⟩=>⟨fun e=>h _ (a e),iha b,ihr c⟩
theorem QiC.mono {m m':Int} (h:m≤m') {t:Tm} (ht:QiC m t):QiC m' t:=⟨fun e=>Int.lt_of_lt_of_le (ht.1 e) h,Ts.vars_mono (fun _ hn=>Int.lt_of_lt_of_le hn h) _ ht.2⟩
theorem FB.mono {m m':Int} (h:m≤m') {B:Bnd} (hB:FB m B):FB m' B:=fun x hx=>⟨Int.lt_of_lt_of_le (hB x hx).1 h,(hB x hx).2.mono h⟩
theorem Qeb {m:Int} {B:Bnd} (hB:FB m B) {t:Tm} (ht:QiC m t):QiC m (Qh B t):=by
 rcases Qj3 (B:=B) t with e|⟨x,hx,e⟩
 ·rw [e];exact ht
 ·rw [e];exact (hB x hx).2
theorem Qqc {m:Int} {T:Ts} (h:T.vars (· <m)):∀x∈T.tms,QiC m x:=by
 induction T with
 |nil=>intro x hx;cases hx
 |cons k n s ar r _ ih=>
  intro x hx
  rcases List.mem_cons.1 hx with rfl|hx
  ·exact ⟨h.1,h.2.1⟩
  ·exact ih h.2.2 x hx
theorem FB.get {m:Int} {B:Bnd} (hB:FB m B) {n:Int} (hn:m≤n):Qdk n B=none:=by
 induction B with
 |nil=>rfl
 |cons x r ih=>
  simp only [Qdk]
  rw [if_neg (by have:=(hB x (List.mem_cons_self ..)).1;omega)]
  exact ih fun y hy=>hB y (List.mem_cons_of_mem _ hy)
theorem FB.cons {m:Int} {B:Bnd} (hB:FB m B) {v:Int} {t:Tm} (hv:v<m) (ht:QiC m t):FB m ((v,t)::B):=fun x hx=>by
 rcases List.mem_cons.1 hx with rfl|hx
 ·exact ⟨hv,ht⟩
 ·exact hB x hx
def Qt9 (j:Bnd→Tm→Tm→Bnd):Prop:=∀m B a b,FB m B→QiC m a→QiC m b→(Qh B a).k=0→(Qh B b).k=0→FB m (j B a b)
theorem Qta:Qt9 Qrm:=fun m B a b hB ha hb ka kb=>hB.cons ((Qeb hB ha).1 ka) (Qeb hB hb)
theorem QtX {j:Bnd→Tm→Tm→Bnd} {m:Int} {B:Bnd} (hB:FB m B) {v:Int} {t:Tm} (hv:v<m) (ht:QiC m t) (w:Nat):FB m (QpP (Qsj j) v t B w).s:=by
 unfold QpP
 split
 ·exact hB
 ·exact hB.cons hv (Qeb hB ht)
theorem Qt4 {m:Int} {g:Tm→Tm→Bnd→Nat→Ug Bnd} (hg:∀a b B w,FB m B→QiC m a→QiC m b→FB m (g a b B w).s):∀(l l':List Tm) (B:Bnd) (w:Nat),FB m B→(∀x∈l,QiC m x)→(∀x∈l',QiC m x)→FB m (Qmh g l l' B w).s
 |[],l',B,w,h,_,_=>by cases l'<;>exact h
 |_::_,[],B,w,h,_,_=>h
 |x::l,y::l',B,w,h,hl,hl'=>by
  simp only [Qmh]
  have h1:=hg x y B w h (hl x (List.mem_cons_self ..)) (hl' y (List.mem_cons_self ..))
  split
  ·exact Qt4 hg l l' _ _ h1 (fun z hz=>hl z (List.mem_cons_of_mem _ hz)) (fun z hz=>hl' z (List.mem_cons_of_mem _ hz))
  ·exact h1
theorem Qvf {m:Int} {c:Prop} [Decidable c] {x y:Ug Bnd} (hx:FB m x.s) (hy:FB m y.s):FB m (if c then x else y).s:=by
 split
 ·exact hx
 ·exact hy
theorem Qtz {j:Bnd→Tm→Tm→Bnd} (hj:Qt9 j) {m:Int}:∀(f:Nat) (a b:Tm) (B:Bnd) (w:Nat),FB m B→QiC m a→QiC m b→FB m (QfL (Qsj j) f a b B w).s
 |0,a,b,B,w,h,_,_=>h
 | f + 1, a, b, B, w, h, ha, hb => by
  simp only [QfL]
  split
  ·exact h
  ·have la:=Qeb h ha
   have lb:=Qeb h hb
   have va:(Qsj j).view B a=tvw (Qh B a):=rfl
   have vb:(Qsj j).view B b=tvw (Qh B b):=rfl
   rw [va,vb]
   by_cases ka:(Qh B a).k=0
   ·rw [show tvw (Qh B a)= .var (Qh B a).n by unfold tvw;rw [if_pos ka]]
    by_cases kb:(Qh B b).k=0
    ·rw [show tvw (Qh B b)= .var (Qh B b).n by unfold tvw;rw [if_pos kb]]
     show FB m (if (Qh B a).n=(Qh B b).n then B else j B a b)
     split
     ·exact h
     ·exact hj m B a b h ha hb ka kb
    ·rw [show tvw (Qh B b)= .node (Qh B b).k (Qh B b).n (Qh B b).s (Qh B b).ar.tms by unfold tvw;rw [if_neg kb]]
     exact QtX h (la.1 ka) hb _
   ·rw [show tvw (Qh B a)= .node (Qh B a).k (Qh B a).n (Qh B a).s (Qh B a).ar.tms by unfold tvw;rw [if_neg ka]]
    by_cases kb:(Qh B b).k=0
    ·rw [show tvw (Qh B b)= .var (Qh B b).n by unfold tvw;rw [if_pos kb]]
     exact QtX h (lb.1 kb) ha _
    ·rw [show tvw (Qh B b)= .node (Qh B b).k (Qh B b).n (Qh B b).s (Qh B b).ar.tms by unfold tvw;rw [if_neg kb]]
     exact Qvf (Qt4 (fun a b B w h ha hb=>Qtz hj f a b B w h ha hb) _ _ _ _ h (Qqc la.2) (Qqc lb.2)) h
theorem Qsw {ρ:Int→Int→Prop} (hi:∀u v u' v',ρ u v→ρ u' v'→(u=u'↔v=v')) {T U:Ts} (h:TsR ρ T U):∀ks ks':List Int,Al ρ ks ks'→(T.tidyFrom ks).1=(U.tidyFrom ks').1∧Al ρ (T.tidyFrom ks).2 (U.tidyFrom ks').2:=by
 have hpos:∀{n n':Int},ρ n n'→∀{ks ks':List Int},Al ρ ks ks'→pos n ks=pos n' ks':=by
  intro n n' hn ks ks' hk
  induction hk with
  |nil=>rfl
  | @cons x y l m hxy _ ih=>
   simp only [pos]
   by_cases e:n=x
   ·rw [if_pos e,if_pos ((hi _ _ _ _ hn hxy).1 e)]
   ·rw [if_neg e,if_neg fun e2=>e ((hi _ _ _ _ hn hxy).2 e2),ih]
 induction h with
 |nil=>intro ks ks' hk;exact ⟨rfl,hk⟩
 | @var n n' s r r' hn _ ih=>
  intro ks ks' hk
  rw [Ts.tidyFrom_cons,Ts.tidyFrom_cons]
  have e1:tV 0 n ks=tV 0 n' ks':=by
   unfold tV QqP;rw [if_pos rfl,if_pos rfl,hpos hn hk,hk.len]
  have e2:Al ρ (tS 0 n ks) (tS 0 n' ks'):=by
   unfold tS QqQ;rw [if_pos rfl,if_pos rfl,hpos hn hk]
   split
   ·exact hk
   ·exact hk.app (.cons hn .nil)
  obtain ⟨i1,i2⟩:=ih _ _ (show Al ρ (Ts.nil.tidyFrom (tS 0 n ks)).2 (Ts.nil.tidyFrom (tS 0 n' ks')).2 from e2)
  refine ⟨?_,i2⟩
  rw [e1,i1];rfl
 | @node k n s ar ar' r r' hk0 _ _ iha ihr=>
  intro ks ks' hk
  rw [Ts.tidyFrom_cons,Ts.tidyFrom_cons]
  have e1:tV k n ks=n:=by unfold tV;rw [if_neg hk0]
  have e1':tV k n ks'=n:=by unfold tV;rw [if_neg hk0]
  have e2:tS k n ks=ks:=by unfold tS;rw [if_neg hk0]
  have e2':tS k n ks'=ks':=by unfold tS;rw [if_neg hk0]
  rw [e1,e1',e2,e2']
  obtain ⟨i1,i2⟩:=iha _ _ hk
  obtain ⟨j1,j2⟩:=ihr _ _ i2
  exact ⟨by rw [i1,j1],j2⟩
section
variable {P:List Cl} {q:Nat}
end
section
variable {P:List Cl} {q:Nat}
end
end Go.Proofs.YthliapbflkfdiacGreatDoor
