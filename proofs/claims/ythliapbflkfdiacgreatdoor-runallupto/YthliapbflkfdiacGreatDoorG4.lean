/- Steps of the proof. -/
import Derived.Test.YthliapbflkfdiacGreatDoorG3
namespace Go.Proofs.YthliapbflkfdiacGreatDoor
open Go.RowKit
set_option linter.unusedVariables false
def Tm.shift (t:Tm) (m:Int):Tm:=⟨t.k,QaN t.k t.n m,t.s,t.ar.shift m⟩
abbrev Bnd:=List (Int×Tm)
def QbQ (v:Int):Bnd→Option Tm
 |[]=>none
 |x::r=>if v=x.1 then some x.2 else QbQ v r
def Qej (B:Bnd):Nat→Tm→Tm
 |0,t=>t
 |f+1,t=>if t.k=0 then match QbQ t.n B with|none=>t|some u=>Qej B f u else t
def Qc (B:Bnd) (t:Tm):Tm:=Qej B B.length t
def Bok:Bnd→Prop
 |[]=>True
 |x::r=>QbQ x.1 r=none∧(x.2.k=0→x.2.n≠x.1∧QbQ x.2.n r=none)∧Bok r
def QrV (g:Tm→Nat→Bool×Nat):Ts→Nat→Bool×Nat
 | .nil,w=>(false,w)
 | .cons k n s a r,w=>if (g ⟨k,n,s,a⟩ w).1=true then (true,(g ⟨k,n,s,a⟩ w).2) else QrV g r (g ⟨k,n,s,a⟩ w).2
def Qlk (B:Bnd) (v:Int):Nat→Tm→Nat→Bool×Nat
 |0,_,w=>(false,w+1)
 |f+1,t,w=>if 400<w+1 then (false,w+1) else if (Qc B t).k=0 then (decide ((Qc B t).n=v),w+1) else QrV (Qlk B v f) (Qc B t).ar (w+1)
structure Us where
 ok:Bool
 B:Bnd
 w:Nat
def Qln (g:Tm→Tm→Bnd→Nat→Us):Ts→Ts→Bnd→Nat→Us
 | .cons k n s a r,.cons k' n' s' a' r',B,w=>if (g ⟨k,n,s,a⟩ ⟨k',n',s',a'⟩ B w).ok=true then Qln g r r' (g ⟨k,n,s,a⟩ ⟨k',n',s',a'⟩ B w).B (g ⟨k,n,s,a⟩ ⟨k',n',s',a'⟩ B w).w else g ⟨k,n,s,a⟩ ⟨k',n',s',a'⟩ B w
 |_,_,B,w=>⟨true,B,w⟩
def QoK (v:Int) (t:Tm) (B:Bnd) (w:Nat):Us:=
 if (Qlk B v 401 t w).1=true∨400<(Qlk B v 401 t w).2 then ⟨false,B,(Qlk B v 401 t w).2⟩ else ⟨true,(v,t)::B,(Qlk B v 401 t w).2⟩
def QnE (x y:Tm):Bool:=decide (x.k=y.k)&&decide (x.n=y.n)&&decide (x.s=y.s)&&decide (x.ar.length=y.ar.length)
def Qbs:Nat→Tm→Tm→Bnd→Nat→Us
 |0,_,_,B,w=>⟨false,B,w+1⟩
 |f+1,a,b,B,w=>if 400<w+1 then ⟨false,B,w+1⟩ else
  if (Qc B a).k=0 then
   if (Qc B b).k=0 then ⟨true,if (Qc B a).n=(Qc B b).n then B else ((Qc B a).n,Qc B b)::B,w+1⟩
   else QoK (Qc B a).n (Qc B b) B (w+1)
  else if (Qc B b).k=0 then QoK (Qc B b).n (Qc B a) B (w+1)
  else if QnE (Qc B a) (Qc B b)=true then Qln (Qbs f) (Qc B a).ar (Qc B b).ar B (w+1)
  else ⟨false,B,w+1⟩
def QjH (g:Tm→Nat→Option (Tm×Nat)):Ts→Nat→Option (Ts×Nat)
 | .nil,l=>some (.nil,l)
 | .cons k n s a r,l=>match g ⟨k,n,s,a⟩ l with
  |none=>none
  |some (t,l')=>match QjH g r l' with
   |none=>none
   |some (T,l'')=>some (.cons t.k t.n t.s t.ar T,l'')
def Qlb (B:Bnd):Nat→Tm→Nat→Option (Tm×Nat)
 |0,_,_=>none
 |f+1,t,l=>if l=0 then none else match QjH (Qlb B f) (Qc B t).ar (l-1) with
  |none=>none
  |some (T,l')=>some (⟨(Qc B t).k,(Qc B t).n,(Qc B t).s,T⟩,l')
abbrev Gl:=Tm×Nat
structure Ch where
 g:Gl
 next:List Gl
 cls:List Cl
 bound:Nat
structure SS where
 B:Bnd
 fresh:Nat
 fuel:Nat
 goals:List Gl
 ch:List Ch
 ev:List Ts
def Qaz (B:Bnd) (n:Nat):Bnd:=B.drop (B.length-n)
def QdD:Ts→Int→Nat→List Gl→List Gl
 | .nil,_,_,rest=>rest
 | .cons k n s a r,m,o,rest=>(Tm.shift ⟨k,n,s,a⟩ m,o)::QdD r m o rest
def QcD:List Ch→Nat
 |[]=>0
 |c::r=>c.cls.length+QcD r
def Cl.head (c:Cl):Tm:=⟨c.k,c.n,c.s,c.hd⟩
def QdL (c:Ch) (more:List Cl) (cs:List Ch):List Ch:=match more with
 |[]=>cs
 |_::_=>⟨c.g,c.next,more,c.bound⟩::cs
def QaH : Nat → SS → Int × SS
 |0,s=>(2,s)
 |f+1,s=>match s.ch with
  |[]=>(2,s)
  |c::cs=>match c.cls with
   |[]=>(2,s)
   |cl::more=>
    let r:=Qbs 401 (cl.head.shift s.fresh) c.g.1 (Qaz s.B c.bound) 0
    let s':SS:=⟨r.B,s.fresh+cl.vars.toNat,s.fuel,s.goals,QdL c more cs,s.ev⟩
    if 400<r.w then (4,s')
    else if r.ok=true then (0,⟨s'.B,s'.fresh,s'.fuel,QdD cl.bd s.fresh cs.length c.next,s'.ch,s'.ev⟩)
    else QaH f s'
def QV (s:SS):Int×SS:=QaH (QcD s.ch+1) s
def SS.setB (s:SS) (B:Bnd):SS:=⟨B,s.fresh,s.fuel,s.goals,s.ch,s.ev⟩
def Qbm (a b:Tm) (s:SS):Int×SS:=
 let r:=Qbs 401 a b s.B 0
 if 400<r.w then (4,s.setB r.B) else if r.ok=true then (0,s.setB r.B) else QV (s.setB r.B)
def Ts.at_:Ts→Nat→Tm
 | .nil,_=>⟨0,0,⟨#[]⟩,.nil⟩
 | .cons k n s a _,0=>⟨k,n,s,a⟩
 | .cons _ _ _ _ r,i+1=>r.at_ i
def QhM (T:Ts) (s:SS):Int×SS:=
 let a:=Qc s.B (T.at_ 0)
 let b:=Qc s.B (T.at_ 1)
 if a.k≠2∨b.k≠2 then (5,s) else if b.n≤a.n then QV s else (0,s)
def QqZ (T:Ts) (s:SS):Int×SS:=
 let a:=Qc s.B (T.at_ 0)
 let b:=Qc s.B (T.at_ 1)
 if a.k≠2∨b.k≠2 then (5,s) else if a.n+b.n< -1099511627776∨1099511627776<a.n+b.n then (5,s)
 else Qbm (T.at_ 2) ⟨2,a.n+b.n,⟨#[]⟩,.nil⟩ s
def Qcq (g:Gl) (s:SS):Int×SS:=
 if g.1.s.toList=[33] then (0,⟨s.B,s.fresh,s.fuel,s.goals,s.ch.drop (s.ch.length-g.2),s.ev⟩)
 else if g.1.s.toList=[116,114,117,101] then (0,s)
 else if g.1.s.toList=[101,113] then Qbm (g.1.ar.at_ 0) (g.1.ar.at_ 1) s
 else if g.1.s.toList=[108,101,115,115] then QhM g.1.ar s
 else if g.1.s.toList=[97,100,100] then QqZ g.1.ar s
 else QV s
def QbL (B:Bnd):Nat→Nat→Nat→Option (Ts×Nat)
 |0,_,l=>some (.nil,l)
 |m+1,v,l=>match Qlb B 201 ⟨0,v,⟨#[]⟩,.nil⟩ l with
  |none=>none
  |some (t,l')=>match QbL B m (v+1) l' with
   |none=>none
   |some (T,l'')=>some (.cons t.k t.n t.s t.ar T,l'')
def QcC (vars:Nat) (s:SS):Int×SS:=match QbL s.B vars 0 200 with
 |none=>(4,s)
 |some (T,_)=>
  let s':SS:=⟨s.B,s.fresh,s.fuel,s.goals,s.ch,s.ev++[T.tidy]⟩
  if s'.ev.length=12 then (6,s') else QV s'
def QbX (g:Tm) (c:Cl):Bool:=decide (c.s=g.s)&&decide (c.hd.length=g.ar.length)
def Q4 (p:List Cl) (vars:Nat) (s:SS):Int×SS:=match s.goals with
 |[]=>QcC vars s
 |g::rest=>
  if s.fuel=0 then (3,s)
  else if QM g.1.s.toList g.1.ar.length=true then Qcq g ⟨s.B,s.fresh,s.fuel-1,rest,s.ch,s.ev⟩
  else match p.filter (QbX g.1) with
   |[]=>(5,⟨s.B,s.fresh,s.fuel-1,rest,s.ch,s.ev⟩)
   |c::cs=>QV ⟨s.B,s.fresh,s.fuel-1,rest,⟨g,rest,c::cs,s.B.length⟩::s.ch,s.ev⟩
abbrev Ev:=Int×Ts
def Qce (l:List Ts):List Ev:=l.map fun T=>(1,T)
def QiW (p:List Cl) (vars:Nat):Nat→SS→List Ev
 |0,_=>[]
 |n+1,s=>if (Q4 p vars s).1=0 then QiW p vars n (Q4 p vars s).2 else Qce (Q4 p vars s).2.ev++[((Q4 p vars s).1,.nil)]
def QaT (q:Ts) (vars fuel:Nat):SS:=⟨[],vars,fuel,QdD q 0 0 [],[],[]⟩
def Qhy (p:List Cl) (q:Ts) (vars fuel:Int):List Ev×Int:=
 if pB p=false∨qB vars q=false then ([],1)
 else if fuel<0∨150<fuel then ([],2)
 else (QiW p vars.toNat 4000 (QaT q vars.toNat fuel.toNat),0)
set_option linter.unusedSimpArgs false
structure GB where
 v:Int
 t:LT
def Qcj (G:List GB):List (Int×Value):=(G.map fun x=>(x.v,tv x.t)).reverse
structure GN where
 t:LT
 o:Nat
 blk:Nat
def hdA:List GN→Option Addr
 |[]=>none
 |g::_=>some ⟨g.blk,0,none⟩
abbrev Qdr (gs:List GN):Value:= .pointer (hdA gs)
abbrev gcs (t:LT) (o:Nat) (p:Value):List Value:=[.int .i64 t.k,.int .i64 t.n,.string t.s,.slice t.A t.ar.len t.c,.int .i64 (o:Nat),p]
def PRd (ty:TypeId):List GN→World→Prop
 |[],_=>True
 |g::r,w=>w.heap[g.blk]?=some (.cells (gcs g.t g.o (Qdr r)).toArray ty)∧LRd g.t w∧PRd ty r w
def Q3 (gs:List GN):List Gl:=gs.map fun g=>(g.t.tm,g.o)
theorem PRd.cells {ty:TypeId} {g:GN} {r:List GN} {w:World} (h:PRd ty (g::r) w):w.cell? ⟨g.blk,0,none⟩=some (.int .i64 g.t.k)∧w.cell? ⟨g.blk,1,none⟩=some (.int .i64 g.t.n)∧w.cell? ⟨g.blk,2,none⟩=some (.string g.t.s)∧w.cell? ⟨g.blk,3,none⟩=some (.slice g.t.A g.t.ar.len g.t.c)∧w.cell? ⟨g.blk,4,none⟩=some (.int .i64 (g.o:Nat))∧w.cell? ⟨g.blk,5,none⟩=some (Qdr r):=by
 have hb:=h.1;refine ⟨?_,?_,?_,?_,?_,?_⟩<;>rw [Qv hb]<;>rfl
structure LC where
 hd:LT
 bA:Option Addr
 bc:Nat
 bd:TA
 vars:Int
def LC.cl (c:LC):Cl:=⟨c.hd.k,c.hd.n,c.hd.s,c.hd.ar.ts,c.bd.ts,c.vars⟩
abbrev lcs (c:LC):List Value:=[.int .i64 c.hd.k,.int .i64 c.hd.n,.string c.hd.s,.slice c.hd.A c.hd.ar.len c.hd.c,.slice c.bA c.bd.len c.bc,.int .i64 c.vars]
def Qp7:List LC→List Value
 |[]=>[]
 |c::r=>lcs c++Qp7 r
theorem QrC (L M:List LC):Qp7 (L++M)=Qp7 L++Qp7 M:=by
 induction L with
 |nil=>rfl
 |cons c r ih=>simp [Qp7,ih]
def QhQ (w:World) (b:Nat):List LC→Nat→Prop
 |[],_=>True
 | c :: r, o => w.cell? ⟨b, o, none⟩ = some (.int .i64 c.hd.k) ∧ w.cell? ⟨b, o + 1, none⟩ = some (.int .i64 c.hd.n) ∧ w.cell? ⟨b, o + 2, none⟩ = some (.string c.hd.s) ∧ w.cell? ⟨b, o + 3, none⟩ = some (.slice c.hd.A c.hd.ar.len c.hd.c) ∧
     w.cell? ⟨b,o+4,none⟩=some (.slice c.bA c.bd.len c.bc)∧w.cell? ⟨b,o+5,none⟩=some (.int .i64 c.vars)∧QhQ w b r (o+6)
def QtW (c:LC) (w:World):Prop:=LRd c.hd w∧ArA c.bA c.bc c.bd w
def Qes (L:List LC) (A:Option Addr) (c:Nat) (w:World):Prop:=L.length≤c∧(0<L.length→∃b o,A=some ⟨b,o,none⟩∧QhQ w b L o)∧∀x∈L,QtW x w
theorem QhQ.skip {w:World} {b:Nat} {R:List LC}:∀{D:List LC} {o:Nat},QhQ w b (D++R) o→QhQ w b R (o+D.length*6)
 |[],o,h=>by simpa using h
 |c::D,o,⟨_,_,_,_,_,_,h⟩=>by
  have:=QhQ.skip (R:=R) (D:=D) h
  rwa [show o+6+D.length*6=o+(c::D).length*6 by simp;omega] at this
theorem Qes.some_ {L:List LC} {A:Option Addr} {c:Nat} {w:World} (h:Qes L A c w) (hl:0<L.length):∃b o,A=some ⟨b,o,none⟩:=by
 obtain ⟨b,o,e,_⟩:=h.2.1 hl;exact ⟨b,o,e⟩
theorem Qes.cells {D R:List LC} {x:LC} {b o c:Nat} {w:World} (h:Qes (D++x::R) (some ⟨b,o,none⟩) c w):w.cell? ⟨b,o+D.length*6,none⟩=some (.int .i64 x.hd.k)∧w.cell? ⟨b,o+D.length*6+1,none⟩=some (.int .i64 x.hd.n)∧w.cell? ⟨b,o+D.length*6+2,none⟩=some (.string x.hd.s)∧w.cell? ⟨b,o+D.length*6+3,none⟩=some (.slice x.hd.A x.hd.ar.len x.hd.c)∧
   w.cell? ⟨b,o+D.length*6+4,none⟩=some (.slice x.bA x.bd.len x.bc)∧w.cell? ⟨b,o+D.length*6+5,none⟩=some (.int .i64 x.vars):=by
 obtain ⟨b',o',e,hs⟩:=h.2.1 Yh;simp only [Option.some.injEq,Addr.mk.injEq,and_true] at e;obtain ⟨rfl,rfl⟩:=e;obtain ⟨h0,h1,h2,h3,h4,h5,_⟩:=hs.skip;exact ⟨h0,h1,h2,h3,h4,h5⟩
theorem Qnq {w:World} {b:Nat}:∀{L:List LC} {o:Nat},(∀j u,(Qp7 L)[j]?=some u→w.cell? ⟨b,o+j,none⟩=some u)→QhQ w b L o
 |[],_,_=>trivial
 | c :: r, o, h => ⟨h 0 _ rfl, h 1 _ rfl, h 2 _ rfl, h 3 _ rfl, h 4 _ rfl, h 5 _ rfl, Qnq fun j u hu => by
     rw [show o+6+j=o+(j+6) by omega]
     exact h (j+6) u (by simpa [Qp7] using hu)⟩
theorem St.freezeC {M:List Nat} {w0 w:World} {H O:List (Nat×Obj)} {F:List (World→Prop)} {el:Nat} {A:Option Addr} {c:Nat} {L:List LC} (hr:Row el 6 (.slice A L.length c) L.length (Qp7 L) O) (hR:∀x∈L,Und F (QtW x)) (hS:St M w0 (O++H) F w):
  ∃F',(∀φ∈F,φ∈F')∧Und F' (Qes L A c)∧St M w0 H F' w:=by
 obtain ⟨F',h1,h2,h3⟩:=St.freezeL hS;refine ⟨F',h1,fun w' hw'=>⟨hr.cap,fun hl=> ?_,fun x hx=>(hR x hx).mono h1 w' hw'⟩,h3⟩;obtain ⟨g,sp,rfl,rfl,_⟩:=hr.some_ hl;refine ⟨g,0,rfl,Qnq fun j u hu=> ?_⟩
 have hjl:j<(Qp7 L).length:=by
  rcases Nat.lt_or_ge j (Qp7 L).length with hh|hh
  ·exact hh
  ·rw [List.getElem?_eq_none hh] at hu;cases hu
 rw [Qv (h2 _ (.head _) w' hw'),Nat.zero_add,List.getElem?_append_left hjl];exact hu
theorem QjB.locate {w:World} {p:Nat→Prop}:∀{L:List Cl} {b o:Nat},QjB w p L b o→∃X:List LC,X.map LC.cl=L∧∀w':World,(∀k,p k→k<w.heap.size→w'.heap[k]?=w.heap[k]?)→QhQ w' b X o∧∀x∈X,QtW x w'
 |[],b,o,_=>⟨[],rfl,fun _ _=>⟨trivial,fun x hx=>by cases hx⟩⟩
 |c::r,b,o,⟨h0,h1,h2,h3,⟨v,h4,h5⟩,⟨u,h6,h7⟩,h8,h9⟩=>by
  obtain ⟨X,hX,hX'⟩:=QjB.locate h9;obtain ⟨A1,c1,L1,rfl,e1,k1⟩:=h5.locate;obtain ⟨A2,c2,L2,rfl,e2,k2⟩:=h7.locate;refine ⟨⟨⟨c.k,c.n,c.s,A1,c1,L1⟩,A2,c2,L2,c.vars⟩::X,?_,fun w' hw=> ?_⟩
  ·simp only [List.map_cons,hX,LC.cl,e1,e2]
  ·have hc:∀j,w'.cell? ⟨b,j,none⟩=w.cell? ⟨b,j,none⟩:=fun j=>World.cell?_of_block (hw b h0 (QaS h1));obtain ⟨g1,g2⟩:=hX' w' hw;refine ⟨⟨(hc _).trans h1,(hc _).trans h2,(hc _).trans h3,(hc _).trans h4,(hc _).trans h6,(hc _).trans h8,g1⟩,fun x hx=> ?_⟩;rcases List.mem_cons.1 hx with rfl|hx
   ·exact ⟨k1 w' hw,k2 w' hw⟩
   ·exact g2 x hx
theorem SlC.locate {w:World} {p:Nat→Prop} {L:List Cl} {v:Value} (h:SlC w p v L):∃(A:Option Addr) (c:Nat) (X:List LC),v= .slice A X.length c∧X.map LC.cl=L∧∀w':World,(∀k,p k→k<w.heap.size→w'.heap[k]?=w.heap[k]?)→Qes X A c w':=by
 obtain ⟨A,c,rfl,h6,h7⟩:=h;by_cases hl:0<L.length
 ·obtain ⟨b',o',e,h9⟩:=h7 hl;obtain ⟨X,hX,hX'⟩:=h9.locate
  have e1:X.length=L.length:=by rw [←hX];simp
  exact ⟨A,c,X,by rw [e1],hX,fun w' hw=>⟨by rw [e1];exact h6,fun _=>⟨b',o',e,(hX' w' hw).1⟩,(hX' w' hw).2⟩⟩
 ·have e0:L=[]:=List.eq_nil_of_length_eq_zero Ya;subst e0;exact ⟨A,c,[],rfl,rfl,fun w' hw=>⟨Nat.zero_le _,fun h=>by simp at h,fun x hx=>by cases hx⟩⟩
theorem Qnu (v:Int) (Y:Bnd):∀X:Bnd,QbQ v (X++Y)=(QbQ v X).orElse fun _=>QbQ v Y
 |[]=>by simp [QbQ]
 |x::r=>by
  simp only [List.cons_append,QbQ];by_cases e:v=x.1
  ·rw [if_pos e,if_pos e];rfl
  ·rw [if_neg e,if_neg e];exact Qnu v Y r
theorem Bok.drop {B:Bnd} (h:Bok B):∀m,Bok (B.drop m):=by
 induction B with
 |nil=>intro m;simpa using h
 |cons x r ih=>
  intro m
  cases m with
  |zero=>exact h
  |succ m=>exact ih h.2.2 m
theorem Qjx {v:Int} {u:Tm}:∀{B:Bnd},QbQ v B=some u→∃p,p<B.length∧B.drop p=(v,u)::B.drop (p+1)
 |[],h=>by cases h
 |x::r,h=>by
  simp only [QbQ] at h;by_cases e:v=x.1
  ·rw [if_pos e] at h;cases h
   exact ⟨0,by simp,by simp [e]⟩
  ·rw [if_neg e] at h;obtain ⟨p,h1,h2⟩:=Qjx h;exact ⟨p+1,by simp;omega,by simpa using h2⟩
def QfH (B:Bnd) (m:Nat) (t:Tm):Prop:=t.k=0→QbQ t.n (B.drop m)=none
theorem QfH.step {B:Bnd} {m:Nat} {t u:Tm} (hB:Bok B) (h:QfH B m t) (hk:t.k=0) (hg:QbQ t.n B=some u):∃p,p<m∧QfH B p u:=by
 obtain ⟨p,hp,hd⟩:=Qjx hg;refine ⟨p,?_,fun hu=> ?_⟩
 ·rcases Nat.lt_or_ge p m with hl|hl
  ·exact hl
  ·exfalso;have h0:=h hk
   have e:B.drop m=(B.drop m).take (p-m)++B.drop p:=by
    conv=>lhs;rw [←List.take_append_drop (p-m) (B.drop m)]
    rw [List.drop_drop,show m+(p-m)=p by omega]
   rw [e,Qnu,hd] at h0;have h1:QbQ t.n ((t.n,u)::B.drop (p+1))=some u:=by simp [QbQ]
   rw [h1] at h0;cases hx:QbQ t.n ((B.drop m).take (p-m))<;>rw [hx] at h0<;>cases h0
 ·have hb:=hB.drop p;rw [hd] at hb⊢;obtain ⟨h1,h2,h3⟩:=hb;obtain ⟨h4,h5⟩:=h2 hu;simp only [QbQ];rw [if_neg h4];exact h5
theorem QfH.start (B:Bnd) (t:Tm):QfH B B.length t:=fun _=>by simp [QbQ]
theorem QbG {B:Bnd} {t:Tm} (h:t.k≠0):∀f,Qej B f t=t
 |0=>rfl
 |f+1=>by simp [Qej,h]
theorem QcJ {B:Bnd} {t:Tm} (h:QbQ t.n B=none):∀f,Qej B f t=t
 |0=>rfl
 |f+1=>by simp [Qej,h]
theorem QcI {B:Bnd} {t u:Tm} (hk:t.k=0) (h:QbQ t.n B=some u) (f:Nat):Qej B (f+1) t=Qej B f u:=by simp [Qej,hk,h]
theorem Qdw {B:Bnd} (hB:Bok B):∀(p:Nat) (t:Tm),QfH B p t→∀f,p≤f→Qej B f t=Qej B p t:=by
 intro p
 induction p using Nat.strongRecOn with
 |_ p ih=>
  intro t hc f hf;by_cases hk:t.k=0
  ·cases hg:QbQ t.n B with
   |none=>rw [QcJ hg,QcJ hg]
   |some u=>
    obtain ⟨q,hq,hcq⟩:=hc.step hB hk hg
    obtain ⟨f,rfl⟩:∃f',f=f'+1:=⟨f-1,by omega⟩
    obtain ⟨p,rfl⟩:∃p',p=p'+1:=⟨p-1,by omega⟩
    rw [QcI hk hg,QcI hk hg,ih q hq u hcq f Ya,ih q hq u hcq p Ya]
  ·rw [QbG hk,QbG hk]
theorem Q1 {B:Bnd} {t:Tm} (h:t.k≠0):Qc B t=t:=QbG h _
theorem QbF {B:Bnd} {t:Tm} (h:QbQ t.n B=none):Qc B t=t:=QcJ h _
theorem QdS {B:Bnd} {t u:Tm} (hB:Bok B) (hk:t.k=0) (h:QbQ t.n B=some u):Qc B t=Qc B u:=by
 obtain ⟨p,hp,hc⟩:=(QfH.start B t).step hB hk h;unfold Qc;have:B.length=(B.length-1)+1:=by omega
 conv=>lhs;rw [this,QcI hk h]
 exact (Qdw hB p u hc _ Ya).trans (Qdw hB p u hc _ Ya).symm
theorem Qp4 {B:Bnd} (hB:Bok B):∀(p:Nat) (t:Tm),QfH B p t→(Qej B p t).k=0→QbQ (Qej B p t).n B=none:=by
 intro p
 induction p using Nat.strongRecOn with
 |_ p ih=>
  intro t hc;by_cases hk:t.k=0
  ·cases hg:QbQ t.n B with
   |none=>rw [QcJ hg];exact fun _=>hg
   |some u=>
    obtain ⟨q,hq,hcq⟩:=hc.step hB hk hg
    obtain ⟨p,rfl⟩:∃p',p=p'+1:=⟨p-1,by omega⟩
    rw [QcI hk hg,Qdw hB q u hcq p Ya];exact ih q hq u hcq
  ·rw [QbG hk];exact fun h=>absurd h hk
theorem Qa0 {B:Bnd} (hB:Bok B) (t:Tm) (h:(Qc B t).k=0):QbQ (Qc B t).n B=none:=Qp4 hB _ t (QfH.start B t) h
theorem Qp2 {B:Bnd} (hB:Bok B) (t:Tm):Qc B (Qc B t)=Qc B t:=by
 by_cases h:(Qc B t).k=0
 ·exact QbF (Qa0 hB t h)
 ·exact Q1 h
theorem QkC {B:Bnd}:∀(f:Nat) (t:Tm),Qej B f t=t∨∃x∈B,Qej B f t=x.2
 |0,t=> .inl rfl
 | f + 1, t => by
  by_cases hk:t.k=0
  ·cases hg:QbQ t.n B with
   |none=>exact .inl (QcJ hg _)
   |some u=>
    rw [QcI hk hg]
    have hm:∃x∈B,u=x.2:=by
     obtain ⟨p,_,hd⟩:=Qjx hg;exact ⟨(t.n,u),List.mem_of_mem_drop (i:=p) (by rw [hd];exact .head _),rfl⟩
    rcases QkC f u with h|h
    ·rw [h];exact .inr hm
    ·exact .inr h
  ·exact .inl (QbG hk _)
theorem Qi9 {B:Bnd} (t:Tm):Qc B t=t∨∃x∈B,Qc B t=x.2:=QkC _ t
structure EN where
 v:Int
 t:LT
 blk:Nat
def eA:List EN→Option Addr
 |[]=>none
 |x::_=>some ⟨x.blk,0,none⟩
abbrev Qen (E:List EN):Value:= .pointer (eA E)
abbrev ecs (v:Int) (t:LT) (p:Value):List Value:=[.int .i64 v,.int .i64 t.k,.int .i64 t.n,.string t.s,.slice t.A t.ar.len t.c,p]
def ERd (ty:TypeId):List EN→World→Prop
 |[],_=>True
 |x::r,w=>w.heap[x.blk]?=some (.cells (ecs x.v x.t (Qen r)).toArray ty)∧LRd x.t w∧ERd ty r w
def Qx (E:List EN):Bnd:=E.map fun x=>(x.v,x.t.tm)
theorem ERd.cells {ty:TypeId} {x:EN} {r:List EN} {w:World} (h:ERd ty (x::r) w):w.cell? ⟨x.blk,0,none⟩=some (.int .i64 x.v)∧w.cell? ⟨x.blk,1,none⟩=some (.int .i64 x.t.k)∧w.cell? ⟨x.blk,2,none⟩=some (.int .i64 x.t.n)∧w.cell? ⟨x.blk,3,none⟩=some (.string x.t.s)∧w.cell? ⟨x.blk,4,none⟩=some (.slice x.t.A x.t.ar.len x.t.c)∧w.cell? ⟨x.blk,5,none⟩=some (Qen r):=by
 have hb:=h.1;refine ⟨?_,?_,?_,?_,?_,?_⟩<;>rw [Qv hb]<;>rfl
theorem ERd.skip {ty:TypeId} {w:World} {R:List EN}:∀{D:List EN},ERd ty (D++R) w→ERd ty R w
 |[],h=>h
 |x::D,h=>ERd.skip (D:=D) h.2.2
theorem Qno {c:Int}:∀{E:List EN},(∀x∈E,x.v≠c)→QbQ c (Qx E)=none
 |[],_=>rfl
 |x::r,h=>by
  show QbQ c ((x.v,x.t.tm)::Qx r)=none;simp only [QbQ];rw [if_neg fun e=>h x (List.mem_cons_self ..) e.symm];exact Qno fun y hy=>h y (List.mem_cons_of_mem _ hy)
theorem Qnn {c:Int} {x:EN} {R:List EN} (hx:x.v=c):∀{D:List EN},(∀x∈D,x.v≠c)→QbQ c (Qx (D++x::R))=some x.t.tm
 |[],_=>by
  show QbQ c ((x.v,x.t.tm)::Qx R)=_;simp only [QbQ];rw [if_pos hx.symm]
 |y::D,h=>by
  show QbQ c ((y.v,y.t.tm)::Qx (D++x::R))=_;simp only [QbQ];rw [if_neg fun e=>h y (List.mem_cons_self ..) e.symm];exact Qnn hx fun z hz=>h z (List.mem_cons_of_mem _ hz)
section
variable {P:Program} {n:Nat} {e:Env} {w:World} {ty:TypeId} {pos:String} {after:Array Edge} {dst:Option Nat} {x y:Operand} {t t2:TypeId}
theorem QgN {el:TypeId} {q:Option Addr} (hx:ev n e x= .pointer q) (hy:ev n e y= .pointer none) (hT:QeR P t=some el):
  (execOp (ev n e) ⟨dst,.binOp .neq t x y t2,ty,pos,after,none⟩).run P w= .ok (.value (.bool (!q.isNone))) w:=by
 have h1:=Qco (w:=w) (q:=q) hT
 have h2:(execOp (ev n e) ⟨dst,.binOp .neq t x y t2,ty,pos,after,none⟩)=(Op.equal t (.pointer q) (.pointer none)).bind fun r=> .pure (.value (.bool (!r))):=by
  simp only [execOp,hx,hy,eqGuard,binOp];simp only [bind,pure,Bool.not_true,Bool.false_eq_true,if_false,Sem.bind];exact (Sem.bind_assoc' _ _ _)
 rw [h2,Sem.run_bind',h1];rfl
theorem QhF {el:TypeId} (hx:ev n e x= .pointer none) (hy:ev n e y= .pointer none) (hT:QeR P t=some el):
  (execOp (ev n e) ⟨dst,.binOp .neq t x y t2,ty,pos,after,none⟩).run P w= .ok (.value (.bool false)) w:=QgN hx hy hT
theorem QgM {el:TypeId} {a:Addr} (hx:ev n e x= .pointer (some a)) (hy:ev n e y= .pointer none) (hT:QeR P t=some el):
  (execOp (ev n e) ⟨dst,.binOp .neq t x y t2,ty,pos,after,none⟩).run P w= .ok (.value (.bool true)) w:=QgN hx hy hT
end
set_option maxRecDepth 100000
set_option maxHeartbeats 1000000
abbrev tyE:TypeId:=221
section
variable {M:List Nat} {w0:World} {H:List (Nat×Obj)} {F:List (World→Prop)}
theorem Qcf (E:List EN) (t:LT) (w:World) (hE:Und F (ERd tyE E)) (ht:Und F (LRd t)) (hB:Bok (Qx E)) (hS:St M w0 H F w):
  Calls Tryz.prog 160 #[Qen E,tv t] w fun e w'=>∃u:LT,e= .returned (tv u)∧u.tm=Qc (Qx E) t.tm∧Und F (LRd u)∧(u=t∨∃x∈E,u=x.t)∧St M w0 H F w':=by
 refine Qo Tryz.func160 rfl Tryz.ntmps160 rfl ?_;refine Zg ?_;clear hS;intro b1 wx1 hS;refine ZG ?_;clear hS;intro b2 wx2 hS;refine Zao ?_;refine Zd ?_;refine Zcv ?_;refine Qr 5 (7::8::9::10::11::12::13::14::15::16::17::18::19::20::21::22::23::24::25::26::27::28::29::[]) (fun (m:Nat) v w'=>∃(c:LT) (D R:List EN) (p:Nat),E=D++R∧v=Qen R∧QfH (Qx E) p c.tm∧Qc (Qx E) c.tm=Qc (Qx E) t.tm∧Und F (LRd c)∧(c=t∨∃x∈E,c=x.t)∧(∀x∈D,x.v≠c.n)∧m=p*(E.length+1)+R.length∧St M w0 ((b2,.cells [.int .i64 0,.int .i64 0,.string ⟨#[]⟩,.slice none 0 0].toArray 63)::(b1,.cells (tcs c).toArray 63)::H) F w') (fun m=>m) ((Qx E).length*(E.length+1)+E.length) ?_ Yb ?_
 ·exact ⟨t,[],E,(Qx E).length,rfl,rfl,QfH.start _ _,rfl,ht,.inl rfl,fun x hx=>(by cases hx),rfl,hS⟩
 clear hS;rintro m _ w2 jv ⟨c,D,R,p,hD,rfl,hcl,hlk,hc,hcm,hno,hm,hS⟩ ih
 cases R with
 |nil=>
  have e0:E=D:=by rw [hD,List.append_nil]
  have hres:c.tm=Qc (Qx E) t.tm:=by
   rw [←hlk];by_cases hk:c.k=0
   ·exact (QbF (t:=c.tm) (Qno fun x hx=>hno x (by rw [←e0];exact hx))).symm
   ·exact (Q1 (t:=c.tm) hk).symm
  refine Zq ?_;refine ZeY ?_;refine Zb5 ?_;refine Zr ?_;refine ZaR ?_;refine Zf ?_;refine ZaB ?_;refine Zb ?_;clear hS;intro wx3 hS;refine Zc ?_;refine Zgs ?_;exact ⟨c,rfl,hres,hc,hcm,hS.drop.drop⟩
 |cons x R=>
  have hE2:Und F (ERd tyE (x::R)):=fun w hw=>by
   have:=hE w hw;rw [hD] at this;exact this.skip
  have hcc:∀{H'} w',St M w0 H' F w'→_:=fun w' hS=>(hS.und hE2).cells;by_cases hk:c.k=0
  ·by_cases hv:x.v=c.n
   ·have hget:QbQ c.tm.n (Qx E)=some x.t.tm:=by rw [hD];exact Qnn hv hno
    obtain ⟨p',hp',hcl'⟩:=hcl.step hB hk hget;have hlk':Qc (Qx E) x.t.tm=Qc (Qx E) t.tm:=by rw [←hlk,QdS hB hk hget]
    have hxr:Und F (LRd x.t):=fun w hw=>(hE2 w hw).2.1;refine Zq ?_;refine ZeY ?_;refine ZbC ?_;refine ZeZ ?_;refine Zi ?_;refine Zk ?_;refine Zbd ?_;refine Zge ?_;refine Zp ?_;refine ZfD ?_;replace hS:=hS.drew;refine Zan ?_;refine Ze0 ?_;refine Zbu ?_;refine Ze0 ?_;refine Ze1 ?_;refine ZY ?_;refine Zaw ?_;refine ZB ?_;refine ZV ?_;refine Zgt ?_;refine Ze ?_;refine Zb ?_;clear hS;intro wx3 hS;refine Zd ?_;refine ZaL ?_
    have hlt:p'*(E.length+1)+E.length<p*(E.length+1)+(x::R).length:=by
     have h1:(p'+1)*(E.length+1)≤p*(E.length+1):=Nat.mul_le_mul_right _ hp';rw [Nat.add_mul] at h1;simp only [List.length_cons];omega
    refine ih (p'*(E.length+1)+E.length) _ _ _ ?_ ?_ Yb Yc
    ·rw [hm];exact hlt
    ·exact ⟨x.t,[],E,p',rfl,rfl,hcl',hlk',hxr,.inr ⟨x,by rw [hD];simp,rfl⟩,fun y hy=>(by cases hy),rfl,hS⟩
   ·refine Zq ?_;refine ZeY ?_;refine ZbC ?_;refine ZeZ ?_;refine Zi ?_;refine Zk ?_;refine Zbd ?_;refine Zge ?_;refine Zp ?_;refine ZfD ?_;replace hS:=hS.drew;refine Zan ?_;refine Ze0 ?_;refine Zbu ?_;refine Ze0 ?_;refine Ze1 ?_;refine ZY ?_;refine Zf9 ?_;refine ZT ?_;refine ZaH ?_;refine ZeZ ?_;refine Zd ?_;refine ZaL ?_;refine ih (p*(E.length+1)+R.length) _ _ _ ?_ ?_ Yb Yc
    ·rw [hm];simp only [List.length_cons];omega
    ·refine ⟨c,D++[x],R,p,by rw [hD];simp,rfl,hcl,hlk,hc,hcm,fun y hy=> ?_,rfl,hS⟩;rcases List.mem_append.1 hy with hy|hy
     ·exact hno y hy
     ·rw [List.mem_singleton.1 hy];exact hv
  ·have hres:c.tm=Qc (Qx E) t.tm:=by rw [←hlk];exact (Q1 (t:=c.tm) hk).symm
   refine Zq ?_;refine ZeY ?_;refine ZbC ?_;refine ZeZ ?_;refine Zi ?_;refine Zk ?_;refine Zr ?_;refine ZaR ?_;refine Zf ?_;refine Zgt ?_;refine Zb ?_;clear hS;intro wx3 hS;refine Zc ?_;refine Zgs ?_;exact ⟨c,rfl,hres,hc,hcm,hS.drop.drop⟩
end
inductive Vw (X:Type) where
 |var (v:Int)
 |node (k n:Int) (s:ByteArray) (ar:List X)
def Vw.sub {X:Type} (a:Vw X) (v:Int) (t:Vw X):Vw X:=match a with
 | .var u=>if u=v then t else .var u
 | .node k n s ar=> .node k n s ar
inductive Al {X Y:Type} (R:X→Y→Prop):List X→List Y→Prop
 |nil:Al R [] []
 |cons {x:X} {y:Y} {l:List X} {m:List Y}:R x y→Al R l m→Al R (x::l) (y::m)
theorem Al.len {X Y:Type} {R:X→Y→Prop} {l:List X} {m:List Y} (h:Al R l m):l.length=m.length:=by
 induction h with
 |nil=>rfl
 |cons _ _ ih=>simp [ih]
theorem Al.imp {X Y:Type} {R Q:X→Y→Prop} (hi:∀x y,R x y→Q x y) {l:List X} {m:List Y} (h:Al R l m):Al Q l m:=by
 induction h with
 |nil=>exact .nil
 |cons h _ ih=>exact .cons (hi _ _ h) ih
theorem Al.app {X Y:Type} {R:X→Y→Prop} {l l':List X} {m m':List Y} (h:Al R l m) (h':Al R l' m'):Al R (l++l') (m++m'):=by
 induction h with
 |nil=>exact h'
 |cons h _ ih=>exact .cons h ih
structure Sy where
 X:Type
 S:Type
 ok:S→Prop
 dom:S→X→Prop
 view:S→X→Vw X
 bind:S→Int→X→S
 join:S→X→X→S
structure Sy.Law (A:Sy):Prop where
 bind_ok:∀{σ x v t k n s ar},A.ok σ→A.dom σ x→A.dom σ t→A.view σ x= .var v→A.view σ t= .node k n s ar→A.ok (A.bind σ v t)
 bind_dom:∀{σ v t y},A.dom σ y→A.dom (A.bind σ v t) y
 bind_view:∀{σ x v t k n s ar y},A.ok σ→A.dom σ x→A.dom σ t→A.view σ x= .var v→A.view σ t= .node k n s ar→A.dom σ y→A.view (A.bind σ v t) y=(A.view σ y).sub v (A.view σ t)
 join_ok:∀{σ a b u v},A.ok σ→A.dom σ a→A.dom σ b→A.view σ a= .var u→A.view σ b= .var v→u≠v→A.ok (A.join σ a b)
 join_dom:∀{σ a b y},A.dom σ y→A.dom (A.join σ a b) y
 join_view:∀{σ a b u v},A.ok σ→A.dom σ a→A.dom σ b→A.view σ a= .var u→A.view σ b= .var v→u≠v→
  (∀y,A.dom σ y→A.view (A.join σ a b) y=(A.view σ y).sub u (.var v))∨(∀y,A.dom σ y→A.view (A.join σ a b) y=(A.view σ y).sub v (.var u))
section
variable {A:Sy}
def QdW {X:Type} (g:X→Nat→Bool×Nat):List X→Nat→Bool×Nat
 |[],w=>(false,w)
 |x::r,w=>if (g x w).1=true then (true,(g x w).2) else QdW g r (g x w).2
def Qci (A:Sy) (σ:A.S) (v:Int):Nat→A.X→Nat→Bool×Nat
 |0,_,w=>(false,w+1)
 |f+1,x,w=>if 400<w+1 then (false,w+1) else match A.view σ x with
  | .var u=>(decide (u=v),w+1)
  | .node _ _ _ ar=>QdW (Qci A σ v f) ar (w+1)
structure Ug (S:Type) where
 ok:Bool
 s:S
 w:Nat
def QfZ {X S:Type} (g:X→X→S→Nat→Ug S):List X→List X→S→Nat→Ug S
 |x::r,y::r',σ,w=>if (g x y σ w).ok=true then QfZ g r r' (g x y σ w).s (g x y σ w).w else g x y σ w
 |_,_,σ,w=>⟨true,σ,w⟩
def QiF (A:Sy) (v:Int) (t:A.X) (σ:A.S) (w:Nat):Ug A.S:=
 if (Qci A σ v 401 t w).1=true∨400<(Qci A σ v 401 t w).2 then ⟨false,σ,(Qci A σ v 401 t w).2⟩ else ⟨true,A.bind σ v t,(Qci A σ v 401 t w).2⟩
def Qa3 (A:Sy):Nat→A.X→A.X→A.S→Nat→Ug A.S
 |0,_,_,σ,w=>⟨false,σ,w+1⟩
 |f+1,a,b,σ,w=>if 400<w+1 then ⟨false,σ,w+1⟩ else match A.view σ a,A.view σ b with
  | .var u,.var v=>⟨true,if u=v then σ else A.join σ a b,w+1⟩
  | .var u,.node _ _ _ _=>QiF A u b σ (w+1)
  | .node _ _ _ _,.var v=>QiF A v a σ (w+1)
  | .node k n s ar,.node k' n' s' ar'=>if k=k'∧n=n'∧s=s'∧ar.length=ar'.length then QfZ (Qa3 A f) ar ar' σ (w+1) else ⟨false,σ,w+1⟩
def Qcm {X:Type} (g:X→Nat→Option (Tm×Nat)):List X→Nat→Option (Ts×Nat)
 |[],l=>some (.nil,l)
 |x::r,l=>match g x l with
  |none=>none
  |some (t,l')=>match Qcm g r l' with
   |none=>none
   |some (T,l'')=>some (.cons t.k t.n t.s t.ar T,l'')
def QcE (A:Sy) (σ:A.S):Nat→A.X→Nat→Option (Tm×Nat)
 |0,_,_=>none
 |f+1,x,l=>if l=0 then none else match A.view σ x with
  | .var u=>some (⟨0,u,⟨#[]⟩,.nil⟩,l-1)
  | .node k n s ar=>match Qcm (QcE A σ f) ar (l-1) with
   |none=>none
   |some (T,l')=>some (⟨k,n,s,T⟩,l')
end
section
variable {A B:Sy} {R:A.X→B.X→Prop} {σ:A.S} {τ:B.S}
def VwR {X Y:Type} (R:X→Y→Prop):Vw X→Vw Y→Prop
 | .var _,.var _=>True
 | .node k n s ar,.node k' n' s' ar'=>k=k'∧n=n'∧s=s'∧Al R ar ar'
 |_,_=>False
theorem VwR.imp {X Y:Type} {R Q:X→Y→Prop} (hi:∀x y,R x y→Q x y):∀{a:Vw X} {b:Vw Y},VwR R a b→VwR Q a b
 | .var _,.var _,_=>trivial
 | .node _ _ _ _,.node _ _ _ _,h=>⟨h.1,h.2.1,h.2.2.1,h.2.2.2.imp hi⟩
structure Bm (A B:Sy) (R:A.X→B.X→Prop) (σ:A.S) (τ:B.S):Prop where
 oka:A.ok σ
 okb:B.ok τ
 da:∀{x y},R x y→A.dom σ x
 db:∀{x y},R x y→B.dom τ y
 vw:∀{x y},R x y→VwR R (A.view σ x) (B.view τ y)
 vr:∀{x y x' y' u u' v v'},R x y→R x' y'→A.view σ x= .var u→A.view σ x'= .var u'→B.view τ y= .var v→B.view τ y'= .var v'→(u=u'↔v=v')
theorem Bm.cases (h:Bm A B R σ τ) {x:A.X} {y:B.X} (hr:R x y):(∃u v,A.view σ x= .var u∧B.view τ y= .var v)∨∃k n s ar ar',A.view σ x= .node k n s ar∧B.view τ y= .node k n s ar'∧Al R ar ar':=by
 have:=h.vw hr
 cases hx:A.view σ x with
 |var u=>
  cases hy:B.view τ y with
  |var v=>exact .inl ⟨u,v,rfl,rfl⟩
  |node k n s ar=>rw [hx,hy] at this;exact this.elim
 |node k n s ar=>
  cases hy:B.view τ y with
  |var v=>rw [hx,hy] at this;exact this.elim
  |node k' n' s' ar'=>
   rw [hx,hy] at this;obtain ⟨rfl,rfl,rfl,h4⟩:=this;exact .inr ⟨k,n,s,ar,ar',rfl,rfl,h4⟩
theorem Bm.bind (hA:A.Law) (hB:B.Law) (h:Bm A B R σ τ) {x t:A.X} {y t':B.X} {v v':Int} {k n:Int} {s:ByteArray} {ar:List A.X} {ar':List B.X} (hx:R x y) (ht:R t t') (hv:A.view σ x= .var v) (hv':B.view τ y= .var v') (htv:A.view σ t= .node k n s ar) (htv':B.view τ t'= .node k n s ar') (hal:Al R ar ar'):
  Bm A B R (A.bind σ v t) (B.bind τ v' t'):=by
 have ea:=fun {z:A.X} (hz:A.dom σ z)=>hA.bind_view (y:=z) h.oka (h.da hx) (h.da ht) hv htv hz;have eb:=fun {z:B.X} (hz:B.dom τ z)=>hB.bind_view (y:=z) h.okb (h.db hx) (h.db ht) hv' htv' hz;refine ⟨hA.bind_ok h.oka (h.da hx) (h.da ht) hv htv,hB.bind_ok h.okb (h.db hx) (h.db ht) hv' htv',fun hr=>hA.bind_dom (h.da hr),fun hr=>hB.bind_dom (h.db hr),fun {p q} hr=> ?_,?_⟩
 ·rw [ea (h.da hr),eb (h.db hr)];rcases h.cases hr with ⟨u,u',e,e'⟩|⟨k2,n2,s2,r2,r2',e,e',ha⟩
  ·have:=h.vr hr hx e hv e' hv';rw [e,e'];simp only [Vw.sub];by_cases he:u=v
   ·rw [if_pos he,if_pos (this.1 he),htv,htv'];exact ⟨rfl,rfl,rfl,hal⟩
   ·rw [if_neg he,if_neg fun e2=>he (this.2 e2)];trivial
  ·rw [e,e'];exact ⟨rfl,rfl,rfl,ha⟩
 ·intro p q p' q' u u' w w' hr hr' e1 e2 e3 e4;rw [ea (h.da hr)] at e1;rw [ea (h.da hr')] at e2;rw [eb (h.db hr)] at e3;rw [eb (h.db hr')] at e4;rcases h.cases hr with ⟨c,c',f1,f2⟩|⟨k2,n2,s2,r2,r2',f1,f2,_⟩
  ·rcases h.cases hr' with ⟨d,d',g1,g2⟩|⟨k2,n2,s2,r2,r2',g1,g2,_⟩
   ·rw [f1] at e1;rw [g1] at e2;rw [f2] at e3;rw [g2] at e4;simp only [Vw.sub] at e1 e2 e3 e4;split at e1
    ·rw [htv] at e1;cases e1
    split at e2
    ·rw [htv] at e2;cases e2
    split at e3
    ·rw [htv'] at e3;cases e3
    split at e4
    ·rw [htv'] at e4;cases e4
    cases e1;cases e2;cases e3;cases e4
    exact h.vr hr hr' f1 g1 f2 g2
   ·rw [g1] at e2;simp only [Vw.sub] at e2;cases e2
  ·rw [f1] at e1;simp only [Vw.sub] at e1;cases e1
theorem Bm.join (hA:A.Law) (hB:B.Law) (h:Bm A B R σ τ) {a b:A.X} {a' b':B.X} {u v u' v':Int} (ha:R a a') (hb:R b b') (hu:A.view σ a= .var u) (hv:A.view σ b= .var v) (hu':B.view τ a'= .var u') (hv':B.view τ b'= .var v') (hne:u≠v):
  Bm A B R (A.join σ a b) (B.join τ a' b'):=by
 have hne':u'≠v':=fun e=>hne ((h.vr ha hb hu hv hu' hv').2 e);have ja:=hA.join_view h.oka (h.da ha) (h.da hb) hu hv hne;have jb:=hB.join_view h.okb (h.db ha) (h.db hb) hu' hv' hne'
 have key : ∀ (p q : Int) (p' q' : Int), ((p = u ∧ q = v) ∨ (p = v ∧ q = u)) → ((p' = u' ∧ q' = v') ∨ (p' = v' ∧ q' = u')) → (∀ y, A.dom σ y → A.view (A.join σ a b) y = (A.view σ y).sub p (.var q)) → (∀ y, B.dom τ y → B.view (B.join τ a' b') y = (B.view τ y).sub p' (.var q')) → Bm A B R (A.join σ a b) (B.join τ a' b') := by
  intro p q p' q' hp hp' ea eb;refine ⟨hA.join_ok h.oka (h.da ha) (h.da hb) hu hv hne,hB.join_ok h.okb (h.db ha) (h.db hb) hu' hv' hne',fun hr=>hA.join_dom (h.da hr),fun hr=>hB.join_dom (h.db hr),fun {c d} hr=> ?_,?_⟩
  ·rw [ea _ (h.da hr),eb _ (h.db hr)];rcases h.cases hr with ⟨w,w',e,e'⟩|⟨k2,n2,s2,r2,r2',e,e',hal⟩
   ·rw [e,e'];simp only [Vw.sub];split<;>split<;>trivial
   ·rw [e,e'];exact ⟨rfl,rfl,rfl,hal⟩
  ·intro x y x' y' c c' d d' hr hr' e1 e2 e3 e4;rw [ea _ (h.da hr)] at e1;rw [ea _ (h.da hr')] at e2;rw [eb _ (h.db hr)] at e3;rw [eb _ (h.db hr')] at e4;rcases h.cases hr with ⟨x1,y1,f1,f2⟩|⟨k2,n2,s2,r2,r2',f1,f2,_⟩
   ·rcases h.cases hr' with ⟨x2,y2,g1,g2⟩|⟨k2,n2,s2,r2,r2',g1,g2,_⟩
    ·have i1:=h.vr hr hr' f1 g1 f2 g2;have i2:=h.vr hr ha f1 hu f2 hu';have i3:=h.vr hr hb f1 hv f2 hv';have i4:=h.vr hr' ha g1 hu g2 hu';have i5:=h.vr hr' hb g1 hv g2 hv';rw [f1] at e1;rw [g1] at e2;rw [f2] at e3;rw [g2] at e4;simp only [Vw.sub] at e1 e2 e3 e4
     have t1:c=if x1=p then q else x1:=by
      split at e1<;>(cases e1;rename_i hh;simp [hh])
     have t2:c'=if x2=p then q else x2:=by
      split at e2<;>(cases e2;rename_i hh;simp [hh])
     have t3:d=if y1=p' then q' else y1:=by
      split at e3<;>(cases e3;rename_i hh;simp [hh])
     have t4:d'=if y2=p' then q' else y2:=by
      split at e4<;>(cases e4;rename_i hh;simp [hh])
     clear e1 e2 e3 e4 ea eb ja jb
     rcases hp with ⟨rfl,rfl⟩|⟨rfl,rfl⟩<;>rcases hp' with ⟨rfl,rfl⟩|⟨rfl,rfl⟩<;>(subst t1 t2 t3 t4;split<;>split<;>split<;>split<;>omega)
    ·rw [g1] at e2;simp only [Vw.sub] at e2;cases e2
   ·rw [f1] at e1;simp only [Vw.sub] at e1;cases e1
 rcases ja with ja|ja<;>rcases jb with jb|jb
 ·exact key u v u' v' (.inl ⟨rfl,rfl⟩) (.inl ⟨rfl,rfl⟩) ja jb
 ·exact key u v v' u' (.inl ⟨rfl,rfl⟩) (.inr ⟨rfl,rfl⟩) ja jb
 ·exact key v u u' v' (.inr ⟨rfl,rfl⟩) (.inl ⟨rfl,rfl⟩) ja jb
 ·exact key v u v' u' (.inr ⟨rfl,rfl⟩) (.inr ⟨rfl,rfl⟩) ja jb
theorem Qtk {X Y:Type} {R:X→Y→Prop} {g:X→Nat→Bool×Nat} {g':Y→Nat→Bool×Nat} (hg:∀x y w,R x y→g x w=g' y w) {l:List X} {m:List Y} (h:Al R l m):∀w,QdW g l w=QdW g' m w:=by
 induction h with
 |nil=>intro w;rfl
 |cons h _ ih=>intro w;simp only [QdW];rw [hg _ _ w h,ih]
theorem QpG (h:Bm A B R σ τ) {x0:A.X} {y0:B.X} {v v':Int} (h0:R x0 y0) (hv:A.view σ x0= .var v) (hv':B.view τ y0= .var v'):∀(f:Nat) (x:A.X) (y:B.X) (w:Nat),R x y→Qci A σ v f x w=Qci B τ v' f y w
 |0,x,y,w,hr=>rfl
 |f+1,x,y,w,hr=>by
  simp only [Qci];split
  ·rfl
  ·rcases h.cases hr with ⟨u,u',e,e'⟩|⟨k,n,s,ar,ar',e,e',ha⟩
   ·rw [e,e'];have:=h.vr hr h0 e hv e' hv';show (decide (u=v),_)=(decide (u'=v'),_);rw [show decide (u=v)=decide (u'=v') from by by_cases hh:u=v<;>simp [hh,←this]]
   ·rw [e,e'];exact Qtk (fun x y w hr=>QpG h h0 hv hv' f x y w hr) ha _
def UgR (A B:Sy) (R:A.X→B.X→Prop) (r:Ug A.S) (r':Ug B.S):Prop:=r.ok=r'.ok∧r.w=r'.w∧Bm A B R r.s r'.s
theorem Qtl {g:A.X→A.X→A.S→Nat→Ug A.S} {g':B.X→B.X→B.S→Nat→Ug B.S} (hg:∀a b a' b' σ τ w,Bm A B R σ τ→R a a'→R b b'→UgR A B R (g a b σ w) (g' a' b' τ w)) {l l2:List A.X} {m m2:List B.X} (h:Al R l m) (h2:Al R l2 m2):
  ∀(σ:A.S) (τ:B.S) (w:Nat),Bm A B R σ τ→UgR A B R (QfZ g l l2 σ w) (QfZ g' m m2 τ w):=by
 induction h generalizing l2 m2 with
 |nil=>intro σ τ w hb;cases h2<;>exact ⟨rfl,rfl,hb⟩
 |cons h _ ih=>
  intro σ τ w hb
  cases h2 with
  |nil=>exact ⟨rfl,rfl,hb⟩
  |cons h2 h3=>
   simp only [QfZ];obtain ⟨e1,e2,e3⟩:=hg _ _ _ _ σ τ w hb h h2;rw [←e1];split
   ·rw [←e2];exact ih h3 _ _ _ e3
   ·exact ⟨e1,e2,e3⟩
theorem Qqz (hA:A.Law) (hB:B.Law) (h:Bm A B R σ τ) {x t:A.X} {y t':B.X} {v v':Int} {k n:Int} {s:ByteArray} {ar:List A.X} {ar':List B.X} (hx:R x y) (ht:R t t') (hv:A.view σ x= .var v) (hv':B.view τ y= .var v') (htv:A.view σ t= .node k n s ar) (htv':B.view τ t'= .node k n s ar') (hal:Al R ar ar') (w:Nat):
  UgR A B R (QiF A v t σ w) (QiF B v' t' τ w):=by
 unfold QiF;rw [QpG h hx hv hv' 401 t t' w ht];split
 ·exact ⟨rfl,rfl,h⟩
 ·exact ⟨rfl,rfl,h.bind hA hB hx ht hv hv' htv htv' hal⟩
theorem Qls (hA:A.Law) (hB:B.Law):∀(f:Nat) (a b:A.X) (a' b':B.X) (σ:A.S) (τ:B.S) (w:Nat),Bm A B R σ τ→R a a'→R b b'→UgR A B R (Qa3 A f a b σ w) (Qa3 B f a' b' τ w)
 |0,a,b,a',b',σ,τ,w,h,_,_=>⟨rfl,rfl,h⟩
 | f + 1, a, b, a', b', σ, τ, w, h, ha, hb => by
  simp only [Qa3];split
  ·exact ⟨rfl,rfl,h⟩
  ·rcases h.cases ha with ⟨u,u',e1,e2⟩|⟨k,n,s,ar,ar',e1,e2,hal⟩
   ·rcases h.cases hb with ⟨v,v',e3,e4⟩|⟨k,n,s,ar,ar',e3,e4,hal⟩
    ·rw [e1,e2,e3,e4];have:=h.vr ha hb e1 e3 e2 e4;by_cases hh:u=v
     ·refine ⟨rfl,rfl,?_⟩;show Bm A B R (if u=v then σ else A.join σ a b) (if u'=v' then τ else B.join τ a' b');rw [if_pos hh,if_pos (this.1 hh)];exact h
     ·refine ⟨rfl,rfl,?_⟩;show Bm A B R (if u=v then σ else A.join σ a b) (if u'=v' then τ else B.join τ a' b');rw [if_neg hh,if_neg fun e=>hh (this.2 e)];exact h.join hA hB ha hb e1 e3 e2 e4 hh
    ·rw [e1,e2,e3,e4];exact Qqz hA hB h ha hb e1 e2 e3 e4 hal _
   ·rcases h.cases hb with ⟨v,v',e3,e4⟩|⟨k2,n2,s2,ar2,ar2',e3,e4,hal2⟩
    ·rw [e1,e2,e3,e4];exact Qqz hA hB h hb ha e3 e4 e1 e2 hal _
    ·rw [e1,e2,e3,e4];show UgR A B R (if _ then _ else _) (if _ then _ else _);rw [←hal.len,←hal2.len];split
     ·exact Qtl (fun a b a' b' σ τ w hb ha hb'=>Qls hA hB f a b a' b' σ τ w hb ha hb') hal hal2 _ _ _ h
     ·exact ⟨rfl,rfl,h⟩
inductive TsR (ρ:Int→Int→Prop):Ts→Ts→Prop
 |nil:TsR ρ .nil .nil
 |var {n n':Int} {s:ByteArray} {r r':Ts}:ρ n n'→TsR ρ r r'→TsR ρ (.cons 0 n s .nil r) (.cons 0 n' s .nil r')
 |node {k n:Int} {s:ByteArray} {ar ar' r r':Ts}:k≠0→TsR ρ ar ar'→TsR ρ r r'→TsR ρ (.cons k n s ar r) (.cons k n s ar' r')
def Qtx {P Q:Type} (R:P→Q→Prop):Option P→Option Q→Prop
 |none,none=>True
 |some p,some q=>R p q
 |_,_=>False
def TmR (ρ:Int→Int→Prop) (p q:Tm×Nat):Prop:=p.2=q.2∧TsR ρ (.cons p.1.k p.1.n p.1.s p.1.ar .nil) (.cons q.1.k q.1.n q.1.s q.1.ar .nil)
theorem TsR.put {ρ:Int→Int→Prop} {k n k' n':Int} {s s':ByteArray} {a a' r r':Ts} (h:TsR ρ (.cons k n s a .nil) (.cons k' n' s' a' .nil)) (hr:TsR ρ r r'):TsR ρ (.cons k n s a r) (.cons k' n' s' a' r'):=by
 cases h with
 |var h _=>exact .var h hr
 |node h1 h2 _=>exact .node h1 h2 hr
theorem Qs5 {X Y:Type} {R:X→Y→Prop} {ρ:Int→Int→Prop} {g:X→Nat→Option (Tm×Nat)} {g':Y→Nat→Option (Tm×Nat)} (hg:∀x y l,R x y→Qtx (TmR ρ) (g x l) (g' y l)) {l:List X} {m:List Y} (h:Al R l m):∀w,Qtx (fun p q:Ts×Nat=>p.2=q.2∧TsR ρ p.1 q.1) (Qcm g l w) (Qcm g' m w):=by
 induction h with
 |nil=>intro w;exact ⟨rfl,.nil⟩
 | @cons x y l m h _ ih=>
  intro w;simp only [Qcm];have h1:=hg x y w h
  cases e1:g x w with
  |none=>
   cases e2:g' y w with
   |none=>trivial
   |some q=>rw [e1,e2] at h1;exact h1.elim
  |some p=>
   cases e2:g' y w with
   |none=>rw [e1,e2] at h1;exact h1.elim
   |some q=>
    rw [e1,e2] at h1;obtain ⟨p1,p2⟩:=p;obtain ⟨q1,q2⟩:=q;obtain ⟨rfl,h3⟩:p2=q2∧_:=h1;have h4:=ih p2;dsimp only
    cases e3:Qcm g l p2 with
    |none=>
     cases e4:Qcm g' m p2 with
     |none=>trivial
     |some q=>rw [e3,e4] at h4;exact h4.elim
    |some p'=>
     cases e4:Qcm g' m p2 with
     |none=>rw [e3,e4] at h4;exact h4.elim
     |some q'=>
      rw [e3,e4] at h4;exact ⟨h4.1,h3.put h4.2⟩
def Bm.rho (A B:Sy) (R:A.X→B.X→Prop) (σ:A.S) (τ:B.S) (u v:Int):Prop:=∃x y,R x y∧A.view σ x= .var u∧B.view τ y= .var v
theorem Bm.inj (h:Bm A B R σ τ) {u v u' v':Int} (h1:Bm.rho A B R σ τ u v) (h2:Bm.rho A B R σ τ u' v'):u=u'↔v=v':=by
 obtain ⟨x,y,a,b,c⟩:=h1;obtain ⟨x',y',a',b',c'⟩:=h2;exact h.vr a a' b b' c c'
theorem Qmi (h:Bm A B R σ τ) (hz:∀{x k n s ar},A.view σ x= .node k n s ar→A.dom σ x→k≠0):∀(f:Nat) (x:A.X) (y:B.X) (l:Nat),R x y→Qtx (TmR (Bm.rho A B R σ τ)) (QcE A σ f x l) (QcE B τ f y l)
 |0,x,y,l,hr=>trivial
 | f + 1, x, y, l, hr => by
  simp only [QcE];split
  ·trivial
  ·rcases h.cases hr with ⟨u,u',e,e'⟩|⟨k,n,s,ar,ar',e,e',ha⟩
   ·rw [e,e'];exact ⟨rfl,.var ⟨x,y,hr,e,e'⟩ .nil⟩
   ·rw [e,e'];have h4:=Qs5 (fun x y l hr=>Qmi h hz f x y l hr) ha (l-1);dsimp only
    cases e3:Qcm (QcE A σ f) ar (l-1) with
    |none=>
     cases e4:Qcm (QcE B τ f) ar' (l-1) with
     |none=>trivial
     |some q=>rw [e3,e4] at h4;exact h4.elim
    |some p'=>
     cases e4:Qcm (QcE B τ f) ar' (l-1) with
     |none=>rw [e3,e4] at h4;exact h4.elim
     |some q'=>
      rw [e3,e4] at h4;exact ⟨h4.1,.node (hz e (h.da hr)) h4.2 .nil⟩
end
section
variable {A:Sy} {σ:A.S} {v:Int}
theorem Qsp {X:Type} {g:X→Nat→Bool×Nat} (hg:∀x w,w≤(g x w).2):∀(l:List X) (w:Nat),w≤(QdW g l w).2
 |[],w=>Nat.le_refl _
 |x::r,w=>by
  simp only [QdW];split
  ·exact hg x w
  ·exact Nat.le_trans (hg x w) (Qsp hg r _)
theorem Qkm (f:Nat) (x:A.X) (w:Nat):Qci A σ v (f+1) x w=if 400<w+1 then (false,w+1) else match A.view σ x with
  | .var u=>(decide (u=v),w+1)
  | .node _ _ _ ar=>QdW (Qci A σ v f) ar (w+1):=rfl
theorem Qkn:∀(f:Nat) (x:A.X) (w:Nat),w+1≤(Qci A σ v f x w).2
 |0,x,w=>Nat.le_refl _
 |f+1,x,w=>by
  simp only [Qci];split
  ·exact Nat.le_refl _
  ·cases A.view σ x with
   |var u=>exact Nat.le_refl _
   |node k n s ar=>exact Qsp (fun x w=>Nat.le_of_succ_le (Qkn f x w)) ar (w+1)
theorem Qgb (f:Nat) (x:A.X) {w:Nat} (h:400≤w):Qci A σ v f x w=(false,w+1):=by
 cases f with
 |zero=>rfl
 |succ f=>simp only [Qci];rw [if_pos Ya]
theorem QfE {X:Type} {g g':X→Nat→Bool×Nat} {k:Nat} (hw:∀x w,w≤(g x w).2) (hg:∀x w,k≤w→g x w=g' x w):∀(l:List X) (w:Nat),k≤w→QdW g l w=QdW g' l w
 |[],w,_=>rfl
 |x::r,w,h=>by
  simp only [QdW];rw [←hg x w h];split
  ·rfl
  ·exact QfE hw hg r _ (Nat.le_trans h (hw x w))
theorem Qko:∀(f g:Nat) (x:A.X) (w:Nat),400≤w+f→400≤w+g→Qci A σ v f x w=Qci A σ v g x w
 |f,g,x,w,hf,hg=>by
  by_cases h:400≤w
  ·rw [Qgb f x h,Qgb g x h]
  ·match f,g,hf,hg with
   |0,_,hf,_=>omega
   |_+1,0,_,hg=>omega
   |f+1,g+1,hf,hg=>
    simp only [Qci];rw [if_neg Ya,if_neg Ya]
    cases A.view σ x with
    |var u=>rfl
    |node k n s ar=>exact QfE (k:=w+1) (fun x w=>Nat.le_of_succ_le (Qkn f x w)) (fun x w' h=>Qko f g x w' Ya Ya) ar (w+1) (Nat.le_refl _)
def QbU (A:Sy) (σ:A.S) (v:Int) (l:List A.X) (w:Nat):Bool×Nat:=QdW (Qci A σ v 401) l w
theorem QnA {X:Type} {g:X→Nat→Bool×Nat}:∀(l m:List X) (w:Nat),QdW g (l++m) w=if (QdW g l w).1=true then QdW g l w else QdW g m (QdW g l w).2
 |[],m,w=>by simp [QdW]
 |x::r,m,w=>by
  by_cases h:(g x w).1=true
  ·have e1:∀S,QdW g (x::S) w=(true,(g x w).2):=fun S=>by simp only [QdW];rw [if_pos h]
   rw [List.cons_append,e1,e1,if_pos rfl]
  ·have e1:∀S,QdW g (x::S) w=QdW g S (g x w).2:=fun S=>by simp only [QdW];rw [if_neg h]
   rw [List.cons_append,e1,e1];exact QnA r m _
theorem QgX (x:A.X) (w:Nat):QbU A σ v [x] w=Qci A σ v 401 x w:=by
 unfold QbU;simp only [QdW];split
 ·rename_i h;rw [←h]
 ·rename_i h;have:(Qci A σ v 401 x w).1=false:=by simpa using h
  rw [←this]
theorem Qic:∀(l:List A.X) {w:Nat},400≤w→(QbU A σ v l w).1=false∧w≤(QbU A σ v l w).2
 |[],w,h=>⟨rfl,Nat.le_refl _⟩
 |x::r,w,h=>by
  unfold QbU;simp only [QdW];rw [Qgb 401 x h];simp only [Bool.false_eq_true,if_false];have:=Qic r (w:=w+1) Ya;exact ⟨this.1,by have:=this.2;unfold QbU at this;omega⟩
theorem Qn2 (x:A.X) (r:List A.X) {w:Nat} (h:400≤w):(QbU A σ v (x::r) w).1=false∧400<(QbU A σ v (x::r) w).2:=by
 unfold QbU;simp only [QdW];rw [Qgb 401 x h];simp only [Bool.false_eq_true,if_false];have:=Qic (A:=A) (σ:=σ) (v:=v) r (w:=w+1) Ya;exact ⟨this.1,by have:=this.2;unfold QbU at this;omega⟩
theorem Qkd {x:A.X} {u:Int} (r:List A.X) {w:Nat} (h:w<400) (hx:A.view σ x= .var u):QbU A σ v (x::r) w=if u=v then (true,w+1) else QbU A σ v r (w+1):=by
 have e:Qci A σ v 401 x w=(decide (u=v),w+1):=by
  rw [show Qci A σ v 401 x w=Qci A σ v (400+1) x w from rfl,Qkm,if_neg Ya,hx]
 unfold QbU;simp only [QdW];rw [e];by_cases hu:u=v<;>simp [hu]
theorem Qn1 {x:A.X} {k n:Int} {s:ByteArray} {ar:List A.X} (r:List A.X) {w:Nat} (h:w<400) (hx:A.view σ x= .node k n s ar):QbU A σ v (x::r) w=QbU A σ v (ar++r) (w+1):=by
 have e:Qci A σ v 401 x w=QbU A σ v ar (w+1):=by
  rw [show Qci A σ v 401 x w=Qci A σ v (400+1) x w from rfl,Qkm,if_neg Ya,hx];exact QfE (k:=1) (fun x w=>Nat.le_of_succ_le (Qkn 400 x w)) (fun x w' h=>Qko 400 401 x w' Ya Ya) ar (w+1) Ya
 have e2:QbU A σ v (x::r) w=if (Qci A σ v 401 x w).1=true then (true,(Qci A σ v 401 x w).2) else QbU A σ v r (Qci A σ v 401 x w).2:=rfl
 rw [e2,e];unfold QbU;rw [QnA];split
 ·rename_i h;rw [←h]
 ·rfl
end
section
variable {A:Sy}
theorem Qsj {v:Int} {t:A.X} {σ:A.S} {w:Nat}:w+1≤(QiF A v t σ w).w:=by
 unfold QiF;split
 ·exact Qkn 401 t w
 ·exact Qkn 401 t w
theorem Qss {X S:Type} {g:X→X→S→Nat→Ug S} (hg:∀a b σ w,w≤(g a b σ w).w):∀(l m:List X) (σ:S) (w:Nat),w≤(QfZ g l m σ w).w
 |[],m,σ,w=>by cases m<;>exact Nat.le_refl _
 |_::_,[],σ,w=>Nat.le_refl _
 |x::l,y::m,σ,w=>by
  simp only [QfZ];split
  ·exact Nat.le_trans (hg x y σ w) (Qss hg l m _ _)
  ·exact hg x y σ w
theorem QtF {S:Type} {c:Prop} [Decidable c] {x y:Ug S} {n:Nat} (hx:n≤x.w) (hy:n≤y.w):n≤(if c then x else y).w:=by
 split
 ·exact hx
 ·exact hy
theorem QoS:∀(f:Nat) (a b:A.X) (σ:A.S) (w:Nat),w+1≤(Qa3 A f a b σ w).w
 |0,a,b,σ,w=>Nat.le_refl _
 |f+1,a,b,σ,w=>by
  simp only [Qa3];split
  ·exact Nat.le_refl _
  ·cases A.view σ a with
   |var u=>
    cases A.view σ b with
    |var u'=>exact Nat.le_refl _
    |node k n s ar=>exact Nat.le_of_succ_le (Qsj (w:=w+1))
   |node k n s ar=>
    cases A.view σ b with
    |var u'=>exact Nat.le_of_succ_le (Qsj (w:=w+1))
    |node k' n' s' ar'=>exact QtF (Qss (fun a b σ w=>Nat.le_of_succ_le (QoS f a b σ w)) _ _ _ _) (Nat.le_refl _)
theorem Qez (f:Nat) (a b:A.X) (σ:A.S) (w:Nat):Qa3 A (f+1) a b σ w=if 400<w+1 then ⟨false,σ,w+1⟩ else match A.view σ a,A.view σ b with
  | .var u,.var v=>⟨true,if u=v then σ else A.join σ a b,w+1⟩
  | .var u,.node _ _ _ _=>QiF A u b σ (w+1)
  | .node _ _ _ _,.var v=>QiF A v a σ (w+1)
  | .node k n s ar,.node k' n' s' ar'=>if k=k'∧n=n'∧s=s'∧ar.length=ar'.length then QfZ (Qa3 A f) ar ar' σ (w+1) else ⟨false,σ,w+1⟩:=rfl
theorem QiO (f:Nat) (a b:A.X) (σ:A.S) {w:Nat} (h:400≤w):Qa3 A f a b σ w=⟨false,σ,w+1⟩:=by
 cases f with
 |zero=>rfl
 |succ f=>simp only [Qa3];rw [if_pos Ya]
theorem QfF {X S:Type} {g g':X→X→S→Nat→Ug S} {k:Nat} (hw:∀a b σ w,w≤(g a b σ w).w) (hg:∀a b σ w,k≤w→g a b σ w=g' a b σ w):∀(l m:List X) (σ:S) (w:Nat),k≤w→QfZ g l m σ w=QfZ g' l m σ w
 |[],m,σ,w,_=>by cases m<;>rfl
 |_::_,[],σ,w,_=>rfl
 |x::l,y::m,σ,w,h=>by
  simp only [QfZ];rw [←hg x y σ w h];split
  ·exact QfF hw hg l m _ _ (Nat.le_trans h (hw x y σ w))
  ·rfl
theorem QjW:∀(f g:Nat) (a b:A.X) (σ:A.S) (w:Nat),400≤w+f→400≤w+g→Qa3 A f a b σ w=Qa3 A g a b σ w
 | f, g, a, b, σ, w, hf, hg => by
  by_cases h:400≤w
  ·rw [QiO f a b σ h,QiO g a b σ h]
  ·match f,g,hf,hg with
   |0,_,hf,_=>omega
   |_+1,0,_,hg=>omega
   |f+1,g+1,hf,hg=>
    simp only [Qa3];rw [if_neg Ya,if_neg Ya]
    cases A.view σ a with
    |var u=>cases A.view σ b<;>rfl
    |node k n s ar=>
     cases A.view σ b with
     |var u'=>rfl
     |node k' n' s' ar'=>
      show ite _ _ _=ite _ _ _;rw [QfF (k:=w+1) (fun a b σ w=>Nat.le_of_succ_le (QoS f a b σ w)) (fun a b σ w' h=>QjW f g a b σ w' Ya Ya) ar ar' σ (w+1) (Nat.le_refl _)]
def Qd7 (A:Sy):List (A.X×A.X)→A.S→Nat→Ug A.S
 |[],σ,w=>⟨true,σ,w⟩
 |p::r,σ,w=>if (Qa3 A 401 p.1 p.2 σ w).ok=true then Qd7 A r (Qa3 A 401 p.1 p.2 σ w).s (Qa3 A 401 p.1 p.2 σ w).w else Qa3 A 401 p.1 p.2 σ w
theorem QnB:∀(l m:List A.X) (σ:A.S) (w:Nat),QfZ (Qa3 A 401) l m σ w=Qd7 A (l.zip m) σ w
 |[],m,σ,w=>by cases m<;>rfl
 |_::_,[],σ,w=>rfl
 |x::l,y::m,σ,w=>by
  simp only [QfZ,List.zip_cons_cons,Qd7];rw [QnB l m]
theorem QmN:∀(L M:List (A.X×A.X)) (σ:A.S) (w:Nat),Qd7 A (L++M) σ w=if (Qd7 A L σ w).ok=true then Qd7 A M (Qd7 A L σ w).s (Qd7 A L σ w).w else Qd7 A L σ w
 |[],M,σ,w=>by simp [Qd7]
 |p::L,M,σ,w=>by
  by_cases h:(Qa3 A 401 p.1 p.2 σ w).ok=true
  ·have e1:∀S,Qd7 A (p::S) σ w=Qd7 A S (Qa3 A 401 p.1 p.2 σ w).s (Qa3 A 401 p.1 p.2 σ w).w:=fun S=>by simp only [Qd7];rw [if_pos h]
   rw [List.cons_append,e1,e1];exact QmN L M _ _
  ·have e1:∀S,Qd7 A (p::S) σ w=Qa3 A 401 p.1 p.2 σ w:=fun S=>by simp only [Qd7];rw [if_neg h]
   rw [List.cons_append,e1,e1,if_neg h]
theorem Qrj (a b:A.X) (σ:A.S) (w:Nat):Qd7 A [(a,b)] σ w=Qa3 A 401 a b σ w:=by
 simp only [Qd7];split
 ·rename_i h;rw [←h]
 ·rfl
theorem Qpo (p:A.X×A.X) (r:List (A.X×A.X)) (σ:A.S) {w:Nat} (h:400≤w):Qd7 A (p::r) σ w=⟨false,σ,w+1⟩:=by
 simp only [Qd7];rw [QiO 401 p.1 p.2 σ h];simp
theorem Qpn {a b:A.X} {u u':Int} (r:List (A.X×A.X)) {σ:A.S} {w:Nat} (h:w<400) (ha:A.view σ a= .var u) (hb:A.view σ b= .var u'):Qd7 A ((a,b)::r) σ w=Qd7 A r (if u=u' then σ else A.join σ a b) (w+1):=by
 have e:Qa3 A 401 a b σ w=⟨true,if u=u' then σ else A.join σ a b,w+1⟩:=by
  rw [show Qa3 A 401 a b σ w=Qa3 A (400+1) a b σ w from rfl,Qez,if_neg Ya,ha,hb]
 simp only [Qd7];rw [e,if_pos rfl]
theorem QmM {a b:A.X} (r:List (A.X×A.X)) {σ:A.S} {w:Nat} {u:Int} {t:A.X} (e:Qa3 A 401 a b σ w=QiF A u t σ (w+1)):Qd7 A ((a,b)::r) σ w=if (QbU A σ u [t] (w+1)).1=true∨400<(QbU A σ u [t] (w+1)).2 then ⟨false,σ,(QbU A σ u [t] (w+1)).2⟩ else Qd7 A r (A.bind σ u t) (QbU A σ u [t] (w+1)).2:=by
 simp only [Qd7];rw [e,QgX];unfold QiF;split
 ·simp
 ·simp
theorem Qtz {a b:A.X} {u:Int} {k n:Int} {s:ByteArray} {ar:List A.X} {σ:A.S} {w:Nat} (h:w<400) (ha:A.view σ a= .var u) (hb:A.view σ b= .node k n s ar):Qa3 A 401 a b σ w=QiF A u b σ (w+1):=by
 rw [show Qa3 A 401 a b σ w=Qa3 A (400+1) a b σ w from rfl,Qez,if_neg Ya,ha,hb]
theorem QtA {a b:A.X} {u:Int} {k n:Int} {s:ByteArray} {ar:List A.X} {σ:A.S} {w:Nat} (h:w<400) (ha:A.view σ a= .node k n s ar) (hb:A.view σ b= .var u):Qa3 A 401 a b σ w=QiF A u a σ (w+1):=by
 rw [show Qa3 A 401 a b σ w=Qa3 A (400+1) a b σ w from rfl,Qez,if_neg Ya,ha,hb]
theorem Qpp {a b:A.X} {k n k' n':Int} {s s':ByteArray} {ar ar':List A.X} (r:List (A.X×A.X)) {σ:A.S} {w:Nat} (h:w<400) (ha:A.view σ a= .node k n s ar) (hb:A.view σ b= .node k' n' s' ar'):Qd7 A ((a,b)::r) σ w=if k=k'∧n=n'∧s=s'∧ar.length=ar'.length then Qd7 A (ar.zip ar'++r) σ (w+1) else ⟨false,σ,w+1⟩:=by
 have e:Qa3 A 401 a b σ w=if k=k'∧n=n'∧s=s'∧ar.length=ar'.length then Qd7 A (ar.zip ar') σ (w+1) else ⟨false,σ,w+1⟩:=by
  rw [show Qa3 A 401 a b σ w=Qa3 A (400+1) a b σ w from rfl,Qez,if_neg Ya,ha,hb];show ite _ _ _=ite _ _ _;rw [QfF (k:=1) (fun a b σ w=>Nat.le_of_succ_le (QoS 400 a b σ w)) (fun a b σ w' h=>QjW 400 401 a b σ w' Ya Ya) ar ar' σ (w+1) Ya,QnB]
 simp only [Qd7];rw [e];split
 ·rw [QmN]
 ·simp
end
def SmB (B:Bnd):Prop:=∀x∈B,x.2.ar.nodes≤24
theorem QcH {B:Bnd} (hB:SmB B) {t:Tm} (ht:t.ar.nodes≤24):(Qc B t).ar.nodes≤24:=by
 rcases Qi9 (B:=B) t with h|⟨x,hx,h⟩
 ·rw [h];exact ht
 ·rw [h];exact hB x hx
theorem QqI {g:Tm→Nat→Bool×Nat} {K:Nat}:∀(T:Ts) (w:Nat),(∀t:Tm,t.ar.nodes<T.nodes→∀w,(g t w).2≤max (w+1) K)→(QrV g T w).2≤max w K+T.length
 | .nil,w,_=>by simp [QrV,Ts.length];omega
 | .cons k n s a r,w,h=>by
  have h1:=h ⟨k,n,s,a⟩ Yj w;have h2:=QqI r (g ⟨k,n,s,a⟩ w).2 fun t ht=>h t Yj;simp only [QrV,Ts.length];split
  ·simp only;omega
  ·omega
theorem Qsa {B:Bnd} (hB:SmB B) (v:Int):∀(f:Nat) (t:Tm),t.ar.nodes≤24→∀w,(Qlk B v f t w).2≤max (w+1) (401+24*f)
 |0,t,ht,w=>by simp only [Qlk];omega
 |f+1,t,ht,w=>by
  simp only [Qlk];split
  ·simp only;omega
  ·split
   ·simp only;omega
   ·have hs:=QcH hB ht;have hl:=(Qc B t).ar.length_le;have:=QqI (g:=Qlk B v f) (K:=401+24*f) (Qc B t).ar (w+1) fun u hu=>Qsa hB v f u Ya;omega
theorem Qsb {B:Bnd} {v:Int}:∀(f:Nat) (t:Tm) (w:Nat),w+1≤(Qlk B v f t w).2
 |0,t,w=>Nat.le_refl _
 |f+1,t,w=>by
  have key:∀(T:Ts) (w:Nat),w≤(QrV (Qlk B v f) T w).2:=by
   intro T
   induction T with
   |nil=>intro w;exact Nat.le_refl _
   |cons k n s a r _ ih=>
    intro w;have h1:=Qsb (B:=B) (v:=v) f ⟨k,n,s,a⟩ w;have h2:=ih (Qlk B v f ⟨k,n,s,a⟩ w).2;simp only [QrV];split
    ·simp only;omega
    ·omega
  simp only [Qlk];split
  ·exact Nat.le_refl _
  ·split
   ·exact Nat.le_refl _
   ·exact key _ _
structure UP (B:Bnd) (w:Nat) (r:Us):Prop where
 bok:Bok r.B
 sm:SmB r.B
 ok:r.ok=true→r.w≤400
 len:r.B.length+w≤B.length+r.w
 ext:∃N,r.B=N++B
theorem SmB.cons {B:Bnd} (h:SmB B) {x:Int×Tm} (hx:x.2.ar.nodes≤24):SmB (x::B):=fun y hy=>by
 rcases List.mem_cons.1 hy with rfl|hy
 ·exact hx
 ·exact h y hy
theorem Qpf {B:Bnd} {w:Nat} {v:Int} {t:Tm} (hB:Bok B) (hS:SmB B) (hv:QbQ v B=none) (hk:t.k≠0) (ht:t.ar.nodes≤24):UP B w (QoK v t B w):=by
 have h1:=Qsb (B:=B) (v:=v) 401 t w;unfold QoK;split
 ·exact ⟨hB,hS,fun h=>Y6,by simp only;omega,[],rfl⟩
 ·rename_i h;exact ⟨⟨hv,fun h=>absurd h hk,hB⟩,hS.cons ht,fun _=>by simp only;omega,by simp;omega,[(v,t)],rfl⟩
theorem Qph {g:Tm→Tm→Bnd→Nat→Us}:∀(T U:Ts) (B:Bnd) (w:Nat),(∀a b:Tm,a.ar.nodes<T.nodes→b.ar.nodes<U.nodes→∀B w,Bok B→SmB B→w≤400→UP B w (g a b B w))→Bok B→SmB B→w≤400→UP B w (Qln g T U B w)
 | .nil,U,B,w,h,hB,hS,hw=>⟨hB,hS,fun _=>hw,by simp [Qln],[],rfl⟩
 | .cons k n s a r,.nil,B,w,h,hB,hS,hw=>⟨hB,hS,fun _=>hw,by simp [Qln],[],rfl⟩
 | .cons k n s a r,.cons k' n' s' a' r',B,w,h,hB,hS,hw=>by
  have h1:=h ⟨k,n,s,a⟩ ⟨k',n',s',a'⟩ Yj Yj B w hB hS hw;simp only [Qln];split
  ·rename_i hok;have h2:=Qph r r' _ _ (fun a b ha hb=>h a b Yj Yj) h1.bok h1.sm (h1.ok hok);obtain ⟨N1,e1⟩:=h1.ext;obtain ⟨N2,e2⟩:=h2.ext;refine ⟨h2.bok,h2.sm,h2.ok,?_,N2++N1,by rw [e2,e1,List.append_assoc]⟩;have:=h1.len;have:=h2.len;omega
  ·exact h1
theorem Qdj:∀(f:Nat) (a b:Tm) (B:Bnd) (w:Nat),a.ar.nodes≤24→b.ar.nodes≤24→Bok B→SmB B→w≤400→UP B w (Qbs f a b B w)
 |0,a,b,B,w,ha,hb,hB,hS,hw=>⟨hB,hS,fun h=>Y6,by simp only [Qbs];omega,[],rfl⟩
 | f + 1, a, b, B, w, ha, hb, hB, hS, hw => by
  have ea:=QcH hS ha;have eb:=QcH hS hb;have na:=Qa0 hB a;have nb:=Qa0 hB b
  have up1:∀r:Us,UP B (w+1) r→UP B w r:=fun r h=>⟨h.bok,h.sm,h.ok,by have:=h.len;omega,h.ext⟩
  simp only [Qbs];split
  ·exact ⟨hB,hS,fun h=>Y6,by simp only;omega,[],rfl⟩
  split
  ·rename_i ha0;split
   ·rename_i hb0;by_cases e:(Qc B a).n=(Qc B b).n
    ·rw [if_pos e];exact ⟨hB,hS,fun _=>by simp only;omega,by simp only;omega,[],rfl⟩
    ·rw [if_neg e];exact ⟨⟨na ha0,fun h=>⟨fun h2=>e h2.symm,nb h⟩,hB⟩,hS.cons eb,fun _=>by simp only;omega,by simp;omega,[_],rfl⟩
   ·rename_i hb0;exact up1 _ (Qpf hB hS (na ha0) hb0 eb)
  split
  ·rename_i ha0 hb0;exact up1 _ (Qpf hB hS (nb hb0) ha0 ea)
  split
  ·exact up1 _ (Qph _ _ _ _ (fun x y hx hy B w hB hS hw=>Qdj f x y B w Ya Ya hB hS hw) hB hS Ya)
  ·exact ⟨hB,hS,fun h=>Y6,by simp only;omega,[],rfl⟩
def Ts.tms:Ts→List Tm
 | .nil=>[]
 | .cons k n s a r=>⟨k,n,s,a⟩::r.tms
theorem Ts.tms_len (T:Ts):T.tms.length=T.length:=by
 induction T with
 |nil=>rfl
 |cons k n s a r _ ih=>simp only [Ts.tms,List.length_cons,ih,Ts.length]
def tvw (t:Tm):Vw Tm:=if t.k=0 then .var t.n else .node t.k t.n t.s t.ar.tms
def QaL (B:Bnd) (t:Tm):Vw Tm:=tvw (Qc B t)
def QoI (j:Bnd→Tm→Tm→Bnd):Sy where
 X:=Tm
 S:=Bnd
 ok:=Bok
 dom:=fun _ _=>True
 view:=QaL
 bind:=fun B v t=>(v,Qc B t)::B
 join:=j
theorem Q6 {B:Bnd} {t:Tm} {v:Int}:QaL B t= .var v↔(Qc B t).k=0∧(Qc B t).n=v:=by
 unfold QaL tvw;split
 ·rename_i h;simp [h]
 ·rename_i h;simp [h]
theorem Qbt {B:Bnd} {t:Tm} {k n:Int} {s:ByteArray} {ar:List Tm} (h:QaL B t= .node k n s ar):(Qc B t).k=k∧k≠0∧(Qc B t).n=n∧(Qc B t).s=s∧(Qc B t).ar.tms=ar:=by
 unfold QaL tvw at h;split at h
 ·cases h
 ·rename_i h0;cases h;exact ⟨rfl,h0,rfl,rfl,rfl⟩
theorem Qp3 {B:Bnd} {v:Int} {t:Tm} (hB:Bok ((v,t)::B)) (x:Tm):Qc ((v,t)::B) x=if (Qc B x).k=0∧(Qc B x).n=v then t else Qc B x:=by
 obtain ⟨hv,ht,hB'⟩:=hB
 have hBo:Bok ((v,t)::B):=⟨hv,ht,hB'⟩
 have htt:Qc ((v,t)::B) t=t:=by
  by_cases hk:t.k=0
  ·refine QbF ?_;obtain ⟨h1,h2⟩:=ht hk;simp only [QbQ];rw [if_neg h1];exact h2
  ·exact Q1 hk
 have key : ∀ (p : Nat) (x : Tm), QfH B p x → Qc ((v, t) :: B) x = if (Qc B x).k = 0 ∧ (Qc B x).n = v then t else Qc B x := by
  intro p
  induction p using Nat.strongRecOn with
  | _ p ih =>
   intro x hx;by_cases hk:x.k=0
   ·cases hg:QbQ x.n B with
    |none=>
     rw [QbF hg];by_cases hn:x.n=v
     ·rw [if_pos ⟨hk,hn⟩,QdS hBo hk (u:=t) (by simp only [QbQ];rw [if_pos hn]),htt]
     ·rw [if_neg fun h=>hn h.2,QbF];simp only [QbQ];rw [if_neg hn];exact hg
    |some u=>
     obtain ⟨q,hq,hu⟩:=hx.step hB' hk hg
     have hn:x.n≠v:=fun e=>by rw [e] at hg;rw [show QbQ v B=none from hv] at hg;cases hg
     rw [QdS hB' hk hg,QdS hBo hk (u:=u) (by simp only [QbQ];rw [if_neg hn];exact hg)];exact ih q hq u hu
   ·rw [Q1 hk,Q1 hk,if_neg fun h=>hk h.1]
 exact key _ x (QfH.start B x)
theorem Qfd {B:Bnd} {v:Int} {t:Tm} (hB:Bok ((v,t)::B)) (x:Tm):QaL ((v,t)::B) x=(QaL B x).sub v (tvw t):=by
 have:=Qp3 hB x;unfold QaL;rw [this];by_cases h:(Qc B x).k=0
 ·by_cases h2:(Qc B x).n=v
  ·rw [if_pos ⟨h,h2⟩];unfold Vw.sub;rw [show tvw (Qc B x)= .var (Qc B x).n by unfold tvw;rw [if_pos h]];simp [h2]
  ·rw [if_neg fun e=>h2 e.2];rw [show tvw (Qc B x)= .var (Qc B x).n by unfold tvw;rw [if_pos h]];unfold Vw.sub;simp [h2]
 ·rw [if_neg fun e=>h e.1];rw [show tvw (Qc B x)= .node (Qc B x).k (Qc B x).n (Qc B x).s (Qc B x).ar.tms by unfold tvw;rw [if_neg h]];rfl
def QqW (j:Bnd→Tm→Tm→Bnd):Prop:=∀B a b u v,Bok B→QaL B a= .var u→QaL B b= .var v→u≠v→∃p q t,j B a b=(p,t)::B∧t.k=0∧t.n=q∧((p=u∧q=v)∨(p=v∧q=u))
theorem Qfy {B:Bnd} (hB:Bok B) {x:Tm} {v:Int} (h:QaL B x= .var v):QbQ v B=none:=by
 obtain ⟨h1,h2⟩:=Q6.1 h;rw [←h2];exact Qa0 hB x h1
theorem QiT {j:Bnd→Tm→Tm→Bnd} (hj:QqW j):(QoI j).Law where
 bind_ok:=by
  intro B x v t k n s ar hB _ _ hx ht;obtain ⟨h1,h2,_⟩:=Qbt ht;exact ⟨Qfy hB hx,fun e=>absurd e (by show (Qc B t).k≠0;rw [h1];exact h2),hB⟩
 bind_dom:=fun _=>trivial
 bind_view:=by
  intro B x v t k n s ar y hB _ _ hx ht _;obtain ⟨h1,h2,_⟩:=Qbt ht
  have hb:Bok ((v,Qc B t)::B):=⟨Qfy hB hx,fun e=>absurd e (by show (Qc B t).k≠0;rw [h1];exact h2),hB⟩
  exact Qfd hb y
 join_ok:=by
  intro B a b u v hB _ _ ha hb hne;obtain ⟨p,q,t,e,hk,hn,hpq⟩:=hj B a b u v hB ha hb hne;show Bok (j B a b);rw [e];have fu:=Qfy hB ha;have fv:=Qfy hB hb;rcases hpq with ⟨rfl,rfl⟩|⟨rfl,rfl⟩
  ·exact ⟨fu,fun _=>⟨by rw [hn];exact fun e=>hne e.symm,by rw [hn];exact fv⟩,hB⟩
  ·exact ⟨fv,fun _=>⟨by rw [hn];exact hne,by rw [hn];exact fu⟩,hB⟩
 join_dom:=fun _=>trivial
 join_view:=by
  intro B a b u v hB _ _ ha hb hne;obtain ⟨p,q,t,e,hk,hn,hpq⟩:=hj B a b u v hB ha hb hne;have fu:=Qfy hB ha;have fv:=Qfy hB hb
  have et:tvw t= .var q:=by unfold tvw;rw [if_pos hk,hn]
  rcases hpq with ⟨rfl,rfl⟩|⟨rfl,rfl⟩
  ·refine .inl fun y _=> ?_;show QaL (j B a b) y=_
   have hb2:Bok ((p,t)::B):=⟨fu,fun _=>⟨by rw [hn];exact fun e=>hne e.symm,by rw [hn];exact fv⟩,hB⟩
   rw [e];have:=Qfd hb2 y;rw [et] at this;exact this
  ·refine .inr fun y _=> ?_;show QaL (j B a b) y=_
   have hb2:Bok ((p,t)::B):=⟨fv,fun _=>⟨by rw [hn];exact hne,by rw [hn];exact fu⟩,hB⟩
   rw [e];have:=Qfd hb2 y;rw [et] at this;exact this
def Qqa (B:Bnd) (a b:Tm):Bnd:=((Qc B a).n,Qc B b)::B
def Qd3 (B:Bnd) (a b:Tm):Bnd:=(max (Qc B a).n (Qc B b).n,⟨0,min (Qc B a).n (Qc B b).n,⟨#[]⟩,.nil⟩)::B
theorem Qnd:QqW Qqa:=fun B a b u v hB ha hb hne=>by
 obtain ⟨a1,a2⟩:=Q6.1 ha;obtain ⟨b1,b2⟩:=Q6.1 hb;exact ⟨u,v,Qc B b,by unfold Qqa;rw [a2],b1,b2,.inl ⟨rfl,rfl⟩⟩
theorem QrH:QqW Qd3:=fun B a b u v hB ha hb hne=>by
 obtain ⟨a1,a2⟩:=Q6.1 ha;obtain ⟨b1,b2⟩:=Q6.1 hb;refine ⟨max u v,min u v,⟨0,min u v,⟨#[]⟩,.nil⟩,by unfold Qd3;rw [a2,b2],rfl,rfl,?_⟩;omega
abbrev Qet:Sy:=QoI Qqa
abbrev Qb4:Sy:=QoI Qd3
theorem QqG {g:Tm→Nat→Bool×Nat}:∀(T:Ts) (w:Nat),QrV g T w=QdW g T.tms w
 | .nil,w=>rfl
 | .cons k n s a r,w=>by simp only [QrV,Ts.tms,QdW];rw [QqG r]
theorem Qsc (B:Bnd) (v:Int):∀(f:Nat) (t:Tm) (w:Nat),Qlk B v f t w=Qci Qet B v f t w
 |0,t,w=>rfl
 |f+1,t,w=>by
  simp only [Qlk,Qci];split
  ·rfl
  ·rw [show Qet.view B t=tvw (Qc B t) from rfl];unfold tvw;by_cases hk:(Qc B t).k=0
   ·rw [if_pos hk,if_pos hk]
   ·rw [if_neg hk,if_neg hk,QqG]
    have:Qlk B v f=Qci Qet B v f:=by funext t w;exact Qsc B v f t w
    rw [this];rfl
theorem QmX {j:Bnd→Tm→Tm→Bnd} {B:Bnd} (hB:Bok B) (v:Int) (f:Nat) (t:Tm) (w:Nat):Qci (QoI j) B v f (Qc B t) w=Qci (QoI j) B v f t w:=by
 cases f with
 |zero=>rfl
 |succ f=>
  simp only [Qci];rw [show (QoI j).view B (Qc B t)=(QoI j).view B t by show tvw (Qc B (Qc B t))=_;rw [Qp2 hB];rfl]
def Us.ug (u:Us):Ug Bnd:=⟨u.ok,u.B,u.w⟩
theorem QqK {g:Tm→Tm→Bnd→Nat→Us} {g':Tm→Tm→Bnd→Nat→Ug Bnd} (P:Bnd→Prop) (hP:∀a b B w,P B→P (g a b B w).B) (hg:∀a b B w,P B→(g a b B w).ug=g' a b B w):∀(T U:Ts) (B:Bnd) (w:Nat),P B→(Qln g T U B w).ug=QfZ g' T.tms U.tms B w
 | .nil,U,B,w,_=>by cases U<;>rfl
 | .cons k n s a r,.nil,B,w,_=>rfl
 | .cons k n s a r,.cons k' n' s' a' r',B,w,h=>by
  simp only [Qln,Ts.tms,QfZ];rw [←hg _ _ _ _ h];by_cases hok:(g ⟨k,n,s,a⟩ ⟨k',n',s',a'⟩ B w).ok=true
  ·rw [if_pos hok,if_pos (show (g ⟨k,n,s,a⟩ ⟨k',n',s',a'⟩ B w).ug.ok=true from hok)];exact QqK P hP hg r r' _ _ (hP _ _ _ _ h)
  ·rw [if_neg hok,if_neg (show¬(g ⟨k,n,s,a⟩ ⟨k',n',s',a'⟩ B w).ug.ok=true from hok)]
theorem QqB {B:Bnd} (hB:Bok B) {v:Int} {t:Tm} (hv:QbQ v B=none) (ht:t.k≠0) (w:Nat):Bok (QoK v t B w).B:=by
 unfold QoK;split
 ·exact hB
 ·exact ⟨hv,fun e=>absurd e ht,hB⟩
theorem QnD {g:Tm→Tm→Bnd→Nat→Us} (hg:∀a b B w,Bok B→Bok (g a b B w).B):∀(T U:Ts) (B:Bnd) (w:Nat),Bok B→Bok (Qln g T U B w).B
 | .nil,U,B,w,h=>by cases U<;>exact h
 | .cons _ _ _ _ _,.nil,B,w,h=>h
 | .cons k n s a r,.cons k' n' s' a' r',B,w,h=>by
  simp only [Qln];split
  ·exact QnD hg r r' _ _ (hg _ _ _ _ h)
  ·exact hg _ _ _ _ h
theorem QoU:∀(f:Nat) (a b:Tm) (B:Bnd) (w:Nat),Bok B→Bok (Qbs f a b B w).B
 |0,a,b,B,w,h=>h
 | f + 1, a, b, B, w, h => by
  simp only [Qbs];split
  ·exact h
  split
  ·rename_i ha;split
   ·rename_i hb;show Bok (if _ then _ else _);split
    ·exact h
    ·rename_i hne;exact ⟨Qa0 h a ha,fun _=>⟨fun e=>hne e.symm,Qa0 h b hb⟩,h⟩
   ·rename_i hb;exact QqB h (Qa0 h a ha) hb _
  ·rename_i ha;split
   ·rename_i hb;exact QqB h (Qa0 h b hb) ha _
   ·split
    ·exact QnD (fun a b B w h=>QoU f a b B w h) _ _ _ _ h
    ·exact h
theorem QoT:∀(f:Nat) (a b:Tm) (B:Bnd) (w:Nat),Bok B→(Qbs f a b B w).ug=Qa3 Qet f a b B w
 |0,a,b,B,w,h=>rfl
 | f + 1, a, b, B, w, h => by
  simp only [Qbs,Qa3];by_cases hw:400<w+1
  ·rw [if_pos hw,if_pos hw];rfl
  rw [if_neg hw,if_neg hw];have va:Qet.view B a=tvw (Qc B a):=rfl;have vb:Qet.view B b=tvw (Qc B b):=rfl;rw [va,vb]
  have hasg:∀(v:Int) (t:Tm),(QoK v (Qc B t) B (w+1)).ug=QiF Qet v t B (w+1):=fun v t=>by
   unfold QoK QiF;rw [Qsc,QmX (j:=Qqa) h];split<;>rfl
  by_cases ha:(Qc B a).k=0
  ·rw [if_pos ha,show tvw (Qc B a)= .var (Qc B a).n by unfold tvw;rw [if_pos ha]];by_cases hb:(Qc B b).k=0
   ·rw [if_pos hb,show tvw (Qc B b)= .var (Qc B b).n by unfold tvw;rw [if_pos hb]];rfl
   ·rw [if_neg hb,show tvw (Qc B b)= .node (Qc B b).k (Qc B b).n (Qc B b).s (Qc B b).ar.tms by unfold tvw;rw [if_neg hb]];exact hasg _ _
  ·rw [if_neg ha,show tvw (Qc B a)= .node (Qc B a).k (Qc B a).n (Qc B a).s (Qc B a).ar.tms by unfold tvw;rw [if_neg ha]];by_cases hb:(Qc B b).k=0
   ·rw [if_pos hb,show tvw (Qc B b)= .var (Qc B b).n by unfold tvw;rw [if_pos hb]];exact hasg _ _
   ·rw [if_neg hb,show tvw (Qc B b)= .node (Qc B b).k (Qc B b).n (Qc B b).s (Qc B b).ar.tms by unfold tvw;rw [if_neg hb]]
    show (if _ then _ else _:Us).ug=if _ then _ else _
    have hc:QnE (Qc B a) (Qc B b)=true↔(Qc B a).k=(Qc B b).k∧(Qc B a).n=(Qc B b).n∧(Qc B a).s=(Qc B b).s∧(Qc B a).ar.tms.length=(Qc B b).ar.tms.length:=by
     simp only [QnE,Bool.and_eq_true,decide_eq_true_eq,Ts.tms_len,and_assoc]
    by_cases hal:QnE (Qc B a) (Qc B b)=true
    ·rw [if_pos hal];refine Eq.trans ?_ (if_pos (hc.1 hal)).symm;exact QqK Bok (fun a b B w h=>QoU f a b B w h) (fun a b B w h=>QoT f a b B w h) _ _ _ _ h
    ·rw [if_neg hal];exact (if_neg fun e=>hal (hc.2 e)).symm
def Qid (l:List (Tm×Tm)) (B:Bnd) (w:Nat):Ug Bnd:=Qd7 Qb4 l B w
def Qa4 (B:Bnd) (v:Int) (l:List Tm) (w:Nat):Bool×Nat:=QbU Qb4 B v l w
theorem Qdi {t:Tm} (h:t.k=0):tvw t= .var t.n:=by unfold tvw;rw [if_pos h]
theorem QcT {t:Tm} (h:t.k≠0):tvw t= .node t.k t.n t.s t.ar.tms:=by unfold tvw;rw [if_neg h]
theorem Qrk (a b:Tm) (B:Bnd) (w:Nat):Qid [(a,b)] B w=Qa3 Qb4 401 a b B w:=Qrj (A:=Qb4) a b B w
theorem Qps (p:Tm×Tm) (r:List (Tm×Tm)) (B:Bnd) {w:Nat} (h:400≤w):Qid (p::r) B w=⟨false,B,w+1⟩:=Qpo (A:=Qb4) p r B h
theorem Qpr {a b:Tm} (r:List (Tm×Tm)) {B:Bnd} {w:Nat} (h:w<400) (ka:(Qc B a).k=0) (kb:(Qc B b).k=0) (e:(Qc B a).n=(Qc B b).n):Qid ((a,b)::r) B w=Qid r B (w+1):=by
 have:=Qpn (A:=Qb4) (a:=a) (b:=b) r (σ:=B) h (Qdi ka) (Qdi kb);exact this.trans (congrArg (fun x=>Qd7 Qb4 r x (w+1)) (if_pos e))
theorem Qpt {a b:Tm} (r:List (Tm×Tm)) {B:Bnd} {w:Nat} (h:w<400) (ka:(Qc B a).k=0) (kb:(Qc B b).k=0) (e:(Qc B a).n≠(Qc B b).n):Qid ((a,b)::r) B w=Qid r ((max (Qc B a).n (Qc B b).n,⟨0,min (Qc B a).n (Qc B b).n,⟨#[]⟩,.nil⟩)::B) (w+1):=by
 have:=Qpn (A:=Qb4) (a:=a) (b:=b) r (σ:=B) h (Qdi ka) (Qdi kb);exact this.trans (congrArg (fun x=>Qd7 Qb4 r x (w+1)) (if_neg e))
theorem Qia {B:Bnd} (hB:Bok B) (v:Int) (t:Tm) (w:Nat):Qa4 B v [Qc B t] w=Qa4 B v [t] w:=by
 exact (QgX (A:=Qb4) (σ:=B) (v:=v) (Qc B t) w).trans ((QmX (j:=Qd3) hB v 401 t w).trans (QgX (A:=Qb4) (σ:=B) (v:=v) t w).symm)
theorem QsP {a b:Tm} (r:List (Tm×Tm)) {B:Bnd} {w:Nat} (hB:Bok B) (h:w<400) (ka:(Qc B a).k=0) (kb:(Qc B b).k≠0):Qid ((a,b)::r) B w=
  if (Qa4 B (Qc B a).n [Qc B b] (w+1)).1=true∨400<(Qa4 B (Qc B a).n [Qc B b] (w+1)).2 then ⟨false,B,(Qa4 B (Qc B a).n [Qc B b] (w+1)).2⟩ else Qid r (((Qc B a).n,Qc B b)::B) (Qa4 B (Qc B a).n [Qc B b] (w+1)).2:=by
 rw [Qia hB];exact QmM (A:=Qb4) (a:=a) (b:=b) r (Qtz (A:=Qb4) h (Qdi ka) (QcT kb))
theorem QsQ {a b:Tm} (r:List (Tm×Tm)) {B:Bnd} {w:Nat} (hB:Bok B) (h:w<400) (ka:(Qc B a).k≠0) (kb:(Qc B b).k=0):Qid ((a,b)::r) B w=
  if (Qa4 B (Qc B b).n [Qc B a] (w+1)).1=true∨400<(Qa4 B (Qc B b).n [Qc B a] (w+1)).2 then ⟨false,B,(Qa4 B (Qc B b).n [Qc B a] (w+1)).2⟩ else Qid r (((Qc B b).n,Qc B a)::B) (Qa4 B (Qc B b).n [Qc B a] (w+1)).2:=by
 rw [Qia hB];exact QmM (A:=Qb4) (a:=a) (b:=b) r (QtA (A:=Qb4) h (QcT ka) (Qdi kb))
theorem QsS {a b:Tm} (r:List (Tm×Tm)) {B:Bnd} {w:Nat} (h:w<400) (ka:(Qc B a).k≠0) (kb:(Qc B b).k≠0) (he:(Qc B a).k=(Qc B b).k∧(Qc B a).n=(Qc B b).n∧(Qc B a).s=(Qc B b).s∧(Qc B a).ar.length=(Qc B b).ar.length):
  Qid ((a,b)::r) B w=Qid ((Qc B a).ar.tms.zip (Qc B b).ar.tms++r) B (w+1):=by
 have:=Qpp (A:=Qb4) (a:=a) (b:=b) r (σ:=B) h (QcT ka) (QcT kb);exact this.trans (if_pos ⟨he.1,he.2.1,he.2.2.1,(Ts.tms_len _).trans (he.2.2.2.trans (Ts.tms_len _).symm)⟩)
theorem QsR {a b:Tm} (r:List (Tm×Tm)) {B:Bnd} {w:Nat} (h:w<400) (ka:(Qc B a).k≠0) (kb:(Qc B b).k≠0) (he:¬((Qc B a).k=(Qc B b).k∧(Qc B a).n=(Qc B b).n∧(Qc B a).s=(Qc B b).s∧(Qc B a).ar.length=(Qc B b).ar.length)):
  Qid ((a,b)::r) B w=⟨false,B,w+1⟩:=by
 have:=Qpp (A:=Qb4) (a:=a) (b:=b) r (σ:=B) h (QcT ka) (QcT kb);exact this.trans (if_neg fun hh=>he ⟨hh.1,hh.2.1,hh.2.2.1,(Ts.tms_len _).symm.trans (hh.2.2.2.trans (Ts.tms_len _))⟩)
theorem Qib (B:Bnd) (v:Int) (x:Tm) (r:List Tm) {w:Nat} (h:400≤w):(Qa4 B v (x::r) w).1=false∧400<(Qa4 B v (x::r) w).2:=Qn2 (A:=Qb4) x r h
theorem Qkc {B:Bnd} {v:Int} {x:Tm} (r:List Tm) {w:Nat} (h:w<400) (hk:(Qc B x).k=0) (hn:(Qc B x).n=v):Qa4 B v (x::r) w=(true,w+1):=
 (Qkd (A:=Qb4) r h (Qdi hk)).trans (if_pos hn)
theorem Qh9 {B:Bnd} {v:Int} {x:Tm} (r:List Tm) {w:Nat} (h:w<400) (hk:(Qc B x).k=0) (hn:(Qc B x).n≠v):Qa4 B v (x::r) w=Qa4 B v r (w+1):=
 (Qkd (A:=Qb4) r h (Qdi hk)).trans (if_neg hn)
theorem Qh8 {B:Bnd} {v:Int} {x:Tm} (r:List Tm) {w:Nat} (h:w<400) (hk:(Qc B x).k≠0):Qa4 B v (x::r) w=Qa4 B v ((Qc B x).ar.tms++r) (w+1):=
 Qn1 (A:=Qb4) r h (QcT hk)
def Ts.vars (P:Int→Prop):Ts→Prop
 | .nil=>True
 | .cons k n _ ar r=>(k=0→P n)∧ar.vars P∧r.vars P
theorem Qr6 {n:Int}:∀{ks:List Int} {j:Nat},pos n ks=some j→j<ks.length
 |[],_,h=>by cases h
 |k::r,j,h=>by
  rw [pos] at h;by_cases e:n=k
  ·rw [if_pos e] at h;cases h;simp
  ·rw [if_neg e] at h
   cases hp:pos n r with
   |none=>rw [hp] at h;cases h
   |some i=>
    rw [hp] at h;cases h
    have:=Qr6 hp;simp;omega
end Go.Proofs.YthliapbflkfdiacGreatDoor
