/- Steps of the proof. -/
import Derived.Test.YthliapbflkfdiacGreatDoorG8
set_option linter.unusedVariables false
set_option linter.unusedSimpArgs false
set_option maxRecDepth 100000
set_option maxHeartbeats 1000000
namespace Go.Proofs.YthliapbflkfdiacGreatDoor
open Go.Proofs.Tryz
open Go.RowKit
section
variable{M:T6}{w0:TG}{H:T0}{F:T3}{b mb Zc ub:Nat}{es:Array MapEntry}{TR:TH}{rest:T5}{O:T0}{G:List GB}
end
structure GN where
 t:LT
 o:Nat
 blk:Nat
def hdA:List GN->T4
 |[]=>none
 |g::_=>some ⟨g.blk,0,none⟩
abbrev IV(gs:List GN):TH:= .pointer (hdA gs)
abbrev gcs(t:LT)(o:Nat)(p:TH):T5:=[.int .i64 t.k,.int .i64 t.n,.string t.s,.slice t.A t.ar.len t.c,.int .i64 (o:Nat),p]
def PRd(ty:TypeId):List GN->TG->Prop
 |[],_=>True
 |g::r,w=>w.heap[g.blk]?=some (.cells (gcs g.t g.o (IV r)).toArray ty)/\BW g.t w/\PRd ty r w
def BG(gs:List GN):List Gl:=gs.map fun g=>(g.t.tm,g.o)
theorem PRd.cells{ty:TypeId}{g:GN}{r:List GN}{w:TG}(h:PRd ty (g::r) w):w.cell? ⟨g.blk,0,none⟩=some (.int .i64 g.t.k)/\w.cell? ⟨g.blk,1,none⟩=some (.int .i64 g.t.n)/\w.cell? ⟨g.blk,2,none⟩=some (.string g.t.s)/\w.cell? ⟨g.blk,3,none⟩=some (.slice g.t.A g.t.ar.len g.t.c)/\w.cell? ⟨g.blk,4,none⟩=some (.int .i64 (g.o:Nat))/\w.cell? ⟨g.blk,5,none⟩=some (IV r):=by
 have hb:=h.1;refine⟨?_,?_,?_,?_,?_,?_⟩<;>rw[Qs hb]<;>rfl
structure LC where
 hd:LT
 bA:T4
 bc:Nat
 bd:TA
 vars:Int
def LC.cl(c:LC):Cl:=⟨c.hd.k,c.hd.n,c.hd.s,c.hd.ar.ts,c.bd.ts,c.vars⟩
abbrev lcs(c:LC):T5:=[.int .i64 c.hd.k,.int .i64 c.hd.n,.string c.hd.s,.slice c.hd.A c.hd.ar.len c.hd.c,.slice c.bA c.bd.len c.bc,.int .i64 c.vars]
def MT:List LC->T5
 |[]=>[]
 |c::r=>lcs c++MT r
theorem QwX(L M:List LC):MT (L++M)=MT L++MT M:=by
 induction L with
 |nil=>rfl
 |cons c r ih=>simp[MT,ih]
def ND(w:TG)(b:Nat):List LC->Nat->Prop
 |[],_=>True
 | c :: r, o => w.cell? ⟨b, o, none⟩ = some (.int .i64 c.hd.k) /\ w.cell? ⟨b, o + 1, none⟩ = some (.int .i64 c.hd.n) /\ w.cell? ⟨b, o + 2, none⟩ = some (.string c.hd.s) /\ w.cell? ⟨b, o + 3, none⟩ = some (.slice c.hd.A c.hd.ar.len c.hd.c) /\
     w.cell? ⟨b,o+4,none⟩=some (.slice c.bA c.bd.len c.bc)/\w.cell? ⟨b,o+5,none⟩=some (.int .i64 c.vars)/\ND w b r (o+6)
def QzF(c:LC)(w:TG):Prop:=BW c.hd w/\AV c.bA c.bc c.bd w
def E6(L:List LC)(A:T4)(c:Nat)(w:TG):Prop:=L.length<=c/\(0<L.length->∃b o,A=some ⟨b,o,none⟩/\ND w b L o)/\∀x∈L,QzF x w
theorem ND.skip{w:TG}{b:Nat}{R:List LC}:∀{D:List LC} {o:Nat},ND w b (D++R) o->ND w b R (o+D.length*6)
 |[],o,h=>by simpa using h
 |c::D,o,⟨_,_,_,_,_,_,h⟩=>by
  have:=ND.skip (R:=R) (D:=D) h
  rwa [show o+6+D.length*6=o+(c::D).length*6 by simp;omega]at this
theorem E6.some_{L:List LC}{A:T4}{c:Nat}{w:TG}(h:E6 L A c w)(hl:0<L.length):∃b o,A=some ⟨b,o,none⟩:=by
 exact Yd9
theorem E6.cells{D R:List LC}{x:LC}{b o c:Nat}{w:TG}(h:E6 (D++x::R) (some ⟨b,o,none⟩) c w):w.cell? ⟨b,o+D.length*6,none⟩=some (.int .i64 x.hd.k)/\w.cell? ⟨b,o+D.length*6+1,none⟩=some (.int .i64 x.hd.n)/\w.cell? ⟨b,o+D.length*6+2,none⟩=some (.string x.hd.s)/\w.cell? ⟨b,o+D.length*6+3,none⟩=some (.slice x.hd.A x.hd.ar.len x.hd.c)/\
   w.cell? ⟨b,o+D.length*6+4,none⟩=some (.slice x.bA x.bd.len x.bc)/\w.cell? ⟨b,o+D.length*6+5,none⟩=some (.int .i64 x.vars):=by
 obtain⟨_,_,e,hs⟩:=h.2.1 Yg;simp only[XU,Xay,VX]at e;obtain⟨rfl,rfl⟩:=e;obtain⟨h0,h1,h2,h3,h4,h5,_⟩:=hs.skip;exact⟨h0,h1,h2,h3,h4,h5⟩
theorem QrD{w:TG}{b:Nat}:∀{L:List LC} {o:Nat},(∀j u,(MT L)[j]?=some u->w.cell? ⟨b,o+j,none⟩=some u)->ND w b L o
 |[],_,_=>trivial
 | c :: r, o, h => ⟨h 0 _ rfl, h 1 _ rfl, h 2 _ rfl, h 3 _ rfl, h 4 _ rfl, h 5 _ rfl, QrD fun j u hu => by
     rw[show o+6+j=o+(j+6) by omega]
     exact h (j+6) u (by simpa[MT]using hu)⟩
theorem St.freezeC{M:T6}{w0 w:TG}{H O:T0}{F:T3}{el:Nat}{A:T4}{c:Nat}{L:List LC}(hr:Row el 6 (.slice A L.length c) L.length (MT L) O)(hR:∀x∈L,AB F (QzF x))(hS:St M w0 (O++H) F w):
  ∃F',(∀φ∈F,φ∈F')/\AB F' (E6 L A c)/\St M w0 H F' w:=by
 obtain⟨F',h1,h2,h3⟩:=St.freezeL hS;refine⟨F',h1,fun w' Cn=>⟨hr.cap,fun hl=> ?_,fun x hx=>(hR x hx).mono h1 w' Cn⟩,h3⟩;obtain⟨g,sp,rfl,rfl,_⟩:=hr.some_ hl;refine⟨g,0,rfl,QrD fun j u hu=> ?_⟩
 have tX:j<(MT L).length:=by
  rcases XY j (MT L).length with hh|hh
  .exact hh
  .rw[XX hh]at hu;cases hu
 exact YbR
theorem KO.locate{w:TG}{p:Nat->Prop}:∀{L:List Cl} {b o:Nat},KO w p L b o->∃X:List LC,X.map LC.cl=L/\∀w':TG,(∀k,p k->k<w.heap.size->w'.heap[k]?=w.heap[k]?)->ND w' b X o/\∀x∈X,QzF x w'
 |[],b,o,_=>⟨[],rfl,fun _ _=>⟨trivial,fun x hx=>by cases hx⟩⟩
 |c::r,b,o,⟨h0,h1,h2,h3,⟨v,h4,h5⟩,⟨u,h6,h7⟩,h8,h9⟩=>by
  obtain⟨X,hX,qV⟩:=KO.locate h9;obtain⟨A1,c1,L1,rfl,e1,k1⟩:=h5.locate;obtain⟨A2,c2,L2,rfl,e2,k2⟩:=h7.locate;refine⟨⟨⟨c.k,c.n,c.s,A1,c1,L1⟩,A2,c2,L2,c.vars⟩::X,?_,fun w' hw=> ?_⟩
  .simp only[VE,hX,LC.cl,e1,e2]
  .have hc:∀j,w'.cell? ⟨b,j,none⟩=w.cell? ⟨b,j,none⟩:=fun j=>JP (hw b h0 (P5 h1));obtain⟨g1,g2⟩:=qV w' hw;refine⟨⟨(hc _).trans h1,(hc _).trans h2,(hc _).trans h3,(hc _).trans h4,(hc _).trans h6,(hc _).trans h8,g1⟩,fun x hx=> ?_⟩;rcases XV.1 hx with rfl|hx
   .exact⟨k1 w' hw,k2 w' hw⟩
   .exact g2 x hx
theorem EM.locate{w:TG}{p:Nat->Prop}{L:List Cl}{v:TH}(h:EM w p v L):∃(A:T4) (c:Nat) (X:List LC),v= .slice A X.length c/\X.map LC.cl=L/\∀w':TG,(∀k,p k->k<w.heap.size->w'.heap[k]?=w.heap[k]?)->E6 X A c w':=by
 obtain⟨A,c,rfl,h6,h7⟩:=h;by_cases hl:0<L.length
 .obtain⟨b',o',e,h9⟩:=h7 hl;obtain⟨X,hX,qV⟩:=h9.locate
  have e1:X.length=L.length:=by rw[<-hX];simp
  exact⟨A,c,X,by rw[e1],hX,fun w' hw=>⟨by rw[e1];exact h6,fun _=>⟨b',o',e,(qV w' hw).1⟩,(qV w' hw).2⟩⟩
 .have e0:L=[]:=VL Ya;subst e0;exact⟨A,c,[],rfl,rfl,fun w' hw=>⟨J8 _,fun h=>by simp at h,fun x hx=>by cases hx⟩⟩
end Go.Proofs.YthliapbflkfdiacGreatDoor
