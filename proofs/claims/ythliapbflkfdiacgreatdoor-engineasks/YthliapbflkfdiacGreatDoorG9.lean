/- SWalk3, SMem2: texts that follow one another, laid into one file. -/
import Derived.Test.YthliapbflkfdiacGreatDoorZ0
import Derived.Test.YthliapbflkfdiacGreatDoorG8
import Derived.Test.YthliapbflkfdiacGreatDoorG7
namespace Go.Proofs.YthliapbflkfdiacGreatDoor
open Go.RowKit
set_option linter.unusedVariables false
set_option linter.unusedSimpArgs false
set_option maxRecDepth 100000
set_option maxHeartbeats 1000000
section
variable {M:List Nat} {w0:World} {H:List (Nat×Obj)} {F:List (World→Prop)} {b mb clk ub:Nat} {es:Array MapEntry} {TR:Value} {rest:List Value} {O:List (Nat×Obj)} {G:List GB}
end
structure GN where
 t:LT
 o:Nat
 blk:Nat
def hdA:List GN→Option Addr
 |[]=>none
 |g::_=>some ⟨g.blk,0,none⟩
abbrev Qe6 (gs:List GN):Value:= .pointer (hdA gs)
abbrev gcs (t:LT) (o:Nat) (p:Value):List Value:=[.int .i64 t.k,.int .i64 t.n,.string t.s,.slice t.A t.ar.len t.c,.int .i64 (o:Nat),p]
def PRd (ty:TypeId):List GN→World→Prop
 |[],_=>True
 |g::r,w=>w.heap[g.blk]?=some (.cells (gcs g.t g.o (Qe6 r)).toArray ty)∧LRd g.t w∧PRd ty r w
def Qam (gs:List GN):List Gl:=gs.map fun g=>(g.t.tm,g.o)
theorem PRd.cells {ty:TypeId} {g:GN} {r:List GN} {w:World} (h:PRd ty (g::r) w):w.cell? ⟨g.blk,0,none⟩=some (.int .i64 g.t.k)∧w.cell? ⟨g.blk,1,none⟩=some (.int .i64 g.t.n)∧w.cell? ⟨g.blk,2,none⟩=some (.string g.t.s)∧w.cell? ⟨g.blk,3,none⟩=some (.slice g.t.A g.t.ar.len g.t.c)∧w.cell? ⟨g.blk,4,none⟩=some (.int .i64 (g.o:Nat))∧w.cell? ⟨g.blk,5,none⟩=some (Qe6 r):=by
 have hb:=h.1
 refine ⟨?_,?_,?_,?_,?_,?_⟩<;>rw [Qs hb]<;>rfl
structure LC where
 hd:LT
 bA:Option Addr
 bc:Nat
 bd:TA
 vars:Int
def LC.cl (c:LC):Cl:=⟨c.hd.k,c.hd.n,c.hd.s,c.hd.ar.ts,c.bd.ts,c.vars⟩
abbrev lcs (c:LC):List Value:=[.int .i64 c.hd.k,.int .i64 c.hd.n,.string c.hd.s,.slice c.hd.A c.hd.ar.len c.hd.c,.slice c.bA c.bd.len c.bc,.int .i64 c.vars]
def QuY:List LC→List Value
 |[]=>[]
 |c::r=>lcs c++QuY r
theorem QwX (L M:List LC):QuY (L++M)=QuY L++QuY M:=by
 induction L with
 |nil=>rfl
 |cons c r ih=>simp [QuY,ih]
def QkP (w:World) (b:Nat):List LC→Nat→Prop
 |[],_=>True
 | c :: r, o => w.cell? ⟨b, o, none⟩ = some (.int .i64 c.hd.k) ∧ w.cell? ⟨b, o + 1, none⟩ = some (.int .i64 c.hd.n) ∧ w.cell? ⟨b, o + 2, none⟩ = some (.string c.hd.s) ∧ w.cell? ⟨b, o + 3, none⟩ = some (.slice c.hd.A c.hd.ar.len c.hd.c) ∧
     w.cell? ⟨b,o+4,none⟩=some (.slice c.bA c.bd.len c.bc)∧w.cell? ⟨b,o+5,none⟩=some (.int .i64 c.vars)∧QkP w b r (o+6)
def QzF (c:LC) (w:World):Prop:=LRd c.hd w∧ArA c.bA c.bc c.bd w
def Qit (L:List LC) (A:Option Addr) (c:Nat) (w:World):Prop:=L.length≤c∧(0<L.length→∃b o,A=some ⟨b,o,none⟩∧QkP w b L o)∧∀x∈L,QzF x w
theorem QkP.skip {w:World} {b:Nat} {R:List LC}:∀{D:List LC} {o:Nat},QkP w b (D++R) o→QkP w b R (o+D.length*6)
 |[],o,h=>by simpa using h
 |c::D,o,⟨_,_,_,_,_,_,h⟩=>by
  have:=QkP.skip (R:=R) (D:=D) h
  rwa [show o+6+D.length*6=o+(c::D).length*6 by simp;omega] at this
theorem Qit.some_ {L:List LC} {A:Option Addr} {c:Nat} {w:World} (h:Qit L A c w) (hl:0<L.length):∃b o,A=some ⟨b,o,none⟩:=by
 obtain ⟨b,o,e,_⟩:=h.2.1 hl
 exact ⟨b,o,e⟩
theorem Qit.cells {D R:List LC} {x:LC} {b o c:Nat} {w:World} (h:Qit (D++x::R) (some ⟨b,o,none⟩) c w):w.cell? ⟨b,o+D.length*6,none⟩=some (.int .i64 x.hd.k)∧w.cell? ⟨b,o+D.length*6+1,none⟩=some (.int .i64 x.hd.n)∧w.cell? ⟨b,o+D.length*6+2,none⟩=some (.string x.hd.s)∧w.cell? ⟨b,o+D.length*6+3,none⟩=some (.slice x.hd.A x.hd.ar.len x.hd.c)∧
   w.cell? ⟨b,o+D.length*6+4,none⟩=some (.slice x.bA x.bd.len x.bc)∧w.cell? ⟨b,o+D.length*6+5,none⟩=some (.int .i64 x.vars):=by
 obtain ⟨b',o',e,hs⟩:=h.2.1 Yg
 simp only [Option.some.injEq,Addr.mk.injEq,and_true] at e
 obtain ⟨rfl,rfl⟩:=e
 obtain ⟨h0,h1,h2,h3,h4,h5,_⟩:=hs.skip
 exact ⟨h0,h1,h2,h3,h4,h5⟩
theorem QrD {w:World} {b:Nat}:∀{L:List LC} {o:Nat},(∀j u,(QuY L)[j]?=some u→w.cell? ⟨b,o+j,none⟩=some u)→QkP w b L o
 |[],_,_=>trivial
 | c :: r, o, h => ⟨h 0 _ rfl, h 1 _ rfl, h 2 _ rfl, h 3 _ rfl, h 4 _ rfl, h 5 _ rfl, QrD fun j u hu => by
     rw [show o+6+j=o+(j+6) by omega]
     exact h (j+6) u (by simpa [QuY] using hu)⟩
theorem St.freezeC {M:List Nat} {w0 w:World} {H O:List (Nat×Obj)} {F:List (World→Prop)} {el:Nat} {A:Option Addr} {c:Nat} {L:List LC} (hr:Row el 6 (.slice A L.length c) L.length (QuY L) O) (hR:∀x∈L,Und F (QzF x)) (hS:St M w0 (O++H) F w):
  ∃F',(∀φ∈F,φ∈F')∧Und F' (Qit L A c)∧St M w0 H F' w:=by
 obtain ⟨F',h1,h2,h3⟩:=St.freezeL hS
 refine ⟨F',h1,fun w' hw'=>⟨hr.cap,fun hl=> ?_,fun x hx=>(hR x hx).mono h1 w' hw'⟩,h3⟩
 obtain ⟨g,sp,rfl,rfl,_⟩:=hr.some_ hl
 refine ⟨g,0,rfl,QrD fun j u hu=> ?_⟩
 have hjl:j<(QuY L).length:=by
  rcases Nat.lt_or_ge j (QuY L).length with hh|hh
  ·exact hh
  ·rw [List.getElem?_eq_none hh] at hu;cases hu
 rw [Qs (h2 _ (.head _) w' hw'),Nat.zero_add,List.getElem?_append_left hjl];exact hu
theorem Qqj.locate {w:World} {p:Nat→Prop}:∀{L:List Cl} {b o:Nat},Qqj w p L b o→∃X:List LC,X.map LC.cl=L∧∀w':World,(∀k,p k→k<w.heap.size→w'.heap[k]?=w.heap[k]?)→QkP w' b X o∧∀x∈X,QzF x w'
 |[],b,o,_=>⟨[],rfl,fun _ _=>⟨trivial,fun x hx=>by cases hx⟩⟩
 |c::r,b,o,⟨h0,h1,h2,h3,⟨v,h4,h5⟩,⟨u,h6,h7⟩,h8,h9⟩=>by
  obtain ⟨X,hX,hX'⟩:=Qqj.locate h9
  obtain ⟨A1,c1,L1,rfl,e1,k1⟩:=h5.locate
  obtain ⟨A2,c2,L2,rfl,e2,k2⟩:=h7.locate
  refine ⟨⟨⟨c.k,c.n,c.s,A1,c1,L1⟩,A2,c2,L2,c.vars⟩::X,?_,fun w' hw=> ?_⟩
  ·simp only [List.map_cons,hX,LC.cl,e1,e2]
  ·have hc:∀j,w'.cell? ⟨b,j,none⟩=w.cell? ⟨b,j,none⟩:=fun j=>World.cell?_of_block (hw b h0 (QbV h1))
   obtain ⟨g1,g2⟩:=hX' w' hw
   refine ⟨⟨(hc _).trans h1,(hc _).trans h2,(hc _).trans h3,(hc _).trans h4,(hc _).trans h6,(hc _).trans h8,g1⟩,fun x hx=> ?_⟩
   rcases List.mem_cons.1 hx with rfl|hx
   ·exact ⟨k1 w' hw,k2 w' hw⟩
   ·exact g2 x hx
theorem SlC.locate {w:World} {p:Nat→Prop} {L:List Cl} {v:Value} (h:SlC w p v L):∃(A:Option Addr) (c:Nat) (X:List LC),v= .slice A X.length c∧X.map LC.cl=L∧∀w':World,(∀k,p k→k<w.heap.size→w'.heap[k]?=w.heap[k]?)→Qit X A c w':=by
 obtain ⟨A,c,rfl,h6,h7⟩:=h
 by_cases hl:0<L.length
 ·obtain ⟨b',o',e,h9⟩:=h7 hl
  obtain ⟨X,hX,hX'⟩:=h9.locate
  have e1:X.length=L.length:=by rw [←hX];simp
  exact ⟨A,c,X,by rw [e1],hX,fun w' hw=>⟨by rw [e1];exact h6,fun _=>⟨b',o',e,(hX' w' hw).1⟩,(hX' w' hw).2⟩⟩
 ·have e0:L=[]:=List.eq_nil_of_length_eq_zero Ya
  subst e0
  exact ⟨A,c,[],rfl,rfl,fun w' hw=>⟨Nat.zero_le _,fun h=>by simp at h,fun x hx=>by cases hx⟩⟩
end Go.Proofs.YthliapbflkfdiacGreatDoor
