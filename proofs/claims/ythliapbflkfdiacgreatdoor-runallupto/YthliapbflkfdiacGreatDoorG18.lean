/- Steps of the proof. -/
import Derived.Test.YthliapbflkfdiacGreatDoorG17
namespace Go.Proofs.YthliapbflkfdiacGreatDoor
open Go.RowKit
set_option linter.unusedVariables false
set_option linter.unusedSimpArgs false
set_option maxRecDepth 100000
set_option maxHeartbeats 1000000
theorem Qi2 {α:Type} (L O O2 O3 H:List α):(L++(O++(O2++(O3++H)))).Perm (O3++(L++(O++(O2++H)))):=
 ((List.Perm.append_left L ((List.Perm.append_left O (List.perm_append_comm_assoc O2 O3 H)).trans (List.perm_append_comm_assoc O O3 _)))).trans (List.perm_append_comm_assoc L O3 _)
theorem QeL {α:Type} (L O O2 H:List α):(L++(O++(O2++H))).Perm (O2++(L++(O++H))):=
 (List.Perm.append_left L (List.perm_append_comm_assoc O O2 H)).trans (List.perm_append_comm_assoc L O2 _)
theorem QhU (B:Bnd) (m v l:Nat):QbL B (m+1) v l=(Qlb B 201 ⟨0,v,⟨#[]⟩,.nil⟩ l).bind fun p=>(QbL B m (v+1) p.2).map fun q=>(.cons p.1.k p.1.n p.1.s p.1.ar q.1,q.2):=by
 simp only [QbL]
 cases Qlb B 201 ⟨0,v,⟨#[]⟩,.nil⟩ l with
 |none=>rfl
 |some p=>
  simp only [Option.bind_some];cases QbL B m (v+1) p.2<;>rfl
theorem Qgu {B:Bnd}:∀(m v l:Nat) (p:Ts×Nat),QbL B m v l=some p→p.1.nodes+p.2=l∧p.1.length=m
 |0,v,l,p,h=>by
  simp only [QbL,Option.some.injEq] at h;subst h;exact ⟨by simp [Ts.nodes],rfl⟩
 |m+1,v,l,p,h=>by
  rw [QhU] at h
  cases h1:Qlb B 201 ⟨0,v,⟨#[]⟩,.nil⟩ l with
  |none=>rw [h1] at h;cases h
  |some q=>
   rw [h1,Option.bind_some] at h
   cases h2:QbL B m (v+1) q.2 with
   |none=>rw [h2] at h;cases h
   |some x=>
    rw [h2,Option.map_some,Option.some.injEq] at h;subst h;have:=Qk9 _ _ _ _ h1;obtain ⟨i1,i2⟩:=Qgu m (v+1) q.2 x h2;simp only [Ts.nodes,Ts.length];omega
section
variable {M:List Nat} {w0:World} {H:List (Nat×Obj)} {F0 F:List (World→Prop)} {b:Nat} {P:List LC} {pA:Option Addr} {pc vars:Nat}
end
section
variable {M:List Nat} {w0:World} {H:List (Nat×Obj)} {F0:List (World→Prop)} {b:Nat} {P:List LC} {pA:Option Addr} {pc vars:Nat}
end
structure KE where
 k:Int
 A:Option Addr
 c:Nat
 T:TA
def KE.ev (x:KE):Ev:=(x.k,x.T.ts)
abbrev Quj (x:KE):List Value:=[.int .i64 x.k,.slice x.A x.T.len x.c]
def keL:List KE→List Value
 |[]=>[]
 |x::r=>Quj x++keL r
theorem Qs9 (a b:List KE):keL (a++b)=keL a++keL b:=by
 induction a with
 |nil=>rfl
 |cons c r ih=>simp [keL,ih]
theorem QtI (l:List LE):evL l=keL (l.map fun e=>⟨1,e.A,e.c,e.T⟩):=by
 induction l with
 |nil=>rfl
 |cons c r ih=>simp [evL,keL,ih]
def Qtt (w:World) (b:Nat):List KE→Nat→Prop
 |[],_=>True
 |x::r,o=>w.cell? ⟨b,o,none⟩=some (.int .i64 x.k)∧w.cell? ⟨b,o+1,none⟩=some (.slice x.A x.T.len x.c)∧Qtt w b r (o+2)
def KER (L:List KE) (A:Option Addr) (c:Nat) (w:World):Prop:=L.length≤c∧(0<L.length→∃b o,A=some ⟨b,o,none⟩∧Qtt w b L o)∧∀x∈L,ArA x.A x.c x.T w
theorem Qtt.skip {w:World} {b:Nat} {R:List KE}:∀{D:List KE} {o:Nat},Qtt w b (D++R) o→Qtt w b R (o+D.length*2)
 |[],o,h=>by simpa using h
 |c::D,o,⟨_,_,h⟩=>by
  have:=Qtt.skip (R:=R) (D:=D) h
  rwa [show o+2+D.length*2=o+(c::D).length*2 by simp;omega] at this
theorem KER.some_ {L:List KE} {A:Option Addr} {c:Nat} {w:World} (h:KER L A c w) (hl:0<L.length):∃b o,A=some ⟨b,o,none⟩:=by
 obtain ⟨b,o,e,_⟩:=h.2.1 hl;exact ⟨b,o,e⟩
theorem KER.cells {D R:List KE} {x:KE} {b o c:Nat} {w:World} (h:KER (D++x::R) (some ⟨b,o,none⟩) c w):w.cell? ⟨b,o+D.length*2,none⟩=some (.int .i64 x.k)∧w.cell? ⟨b,o+D.length*2+1,none⟩=some (.slice x.A x.T.len x.c):=by
 obtain ⟨b',o',e,hs⟩:=h.2.1 Yh;simp only [Option.some.injEq,Addr.mk.injEq,and_true] at e;obtain ⟨rfl,rfl⟩:=e;obtain ⟨h0,h1,_⟩:=hs.skip;exact ⟨h0,h1⟩
theorem Ql0 {w:World} {b:Nat}:∀{L:List KE} {o:Nat},(∀j u,(keL L)[j]?=some u→w.cell? ⟨b,o+j,none⟩=some u)→Qtt w b L o
 |[],_,_=>trivial
 | c :: r, o, h => ⟨h 0 _ rfl, h 1 _ rfl, Ql0 fun j u hu => by
     rw [show o+2+j=o+(j+2) by omega]
     exact h (j+2) u (by simpa [keL] using hu)⟩
theorem St.freezeK {M:List Nat} {w0 w:World} {H O:List (Nat×Obj)} {F:List (World→Prop)} {el:Nat} {A:Option Addr} {c:Nat} {L:List KE} (hr:Row el 2 (.slice A L.length c) L.length (keL L) O) (hR:∀x∈L,Und F (ArA x.A x.c x.T)) (hS:St M w0 (O++H) F w):
  ∃F',(∀φ∈F,φ∈F')∧Und F' (KER L A c)∧St M w0 H F' w:=by
 obtain ⟨F',h1,h2,h3⟩:=St.freezeL hS;refine ⟨F',h1,fun w' hw'=>⟨hr.cap,fun hl=> ?_,fun x hx=>(hR x hx).mono h1 w' hw'⟩,h3⟩;obtain ⟨g,sp,rfl,rfl,_⟩:=hr.some_ hl;refine ⟨g,0,rfl,Ql0 fun j u hu=> ?_⟩
 have hjl:j<(keL L).length:=by
  rcases Nat.lt_or_ge j (keL L).length with hh|hh
  ·exact hh
  ·rw [List.getElem?_eq_none hh] at hu;cases hu
 rw [Qv (h2 _ (.head _) w' hw'),Nat.zero_add,List.getElem?_append_left hjl];exact hu
section
variable {M:List Nat} {w0:World} {H:List (Nat×Obj)} {F:List (World→Prop)}
theorem Qpq (p:List Cl) (vars n:Nat) (s:SS):QiW p vars (n+1) s=if (Q4 p vars s).1=0 then QiW p vars n (Q4 p vars s).2 else Qce (Q4 p vars s).2.ev++[((Q4 p vars s).1,.nil)]:=rfl
end
def Ts.wide:Ts→Prop
 | .nil=>True
 | .cons _ _ _ ar r=>ar.length≤9223372036854775807∧ar.wide∧r.wide
theorem Ts.wide_app (D R:Ts):(D.app R).wide↔D.wide∧R.wide:=by
 induction D with
 |nil=>simp [Ts.app,Ts.wide]
 |cons k n s ar r _ ih=>simp only [Ts.app,Ts.wide,ih];constructor<;>(rintro ⟨h1,h2⟩;simp_all)
theorem Ts.wide_of (T:Ts):T.nodes≤9223372036854775807→T.wide:=by
 induction T with
 |nil=>intro _;trivial
 |cons k n s ar r iha ihr=>
  intro h;simp only [Ts.nodes] at h;have:=ar.length_le;exact ⟨by omega,iha Ya,ihr Ya⟩
def Qmo (L:List Cl):Prop:=∀c∈L,c.hd.length≤9223372036854775807∧c.hd.wide∧c.bd.length≤9223372036854775807∧c.bd.wide
def QdZ (T : Ts) : Prop := ∀ (k n : Int) (s : ByteArray) (v : Value) (L lb vb B : Nat) (w : World), Sl w (fun k => k < B) v T → B ≤ lb → VS lb vb L w → L ≤ 24 → T.length ≤ 9223372036854775807 → T.wide →
    Calls Tryz.prog 132 #[.agg #[.int .i64 k,.int .i64 n,.string s,v],.pointer (some ⟨lb,0,none⟩),.pointer (some ⟨vb,0,none⟩)] w fun e w'=>
     e= .returned (.bool (decide (T.nodes+1≤L)))∧(T.nodes+1≤L→VS lb vb (L-(T.nodes+1)) w')∧Chg (fun k=>k=lb) w w'
def QqP (w:World) (T:Ts) (L lb vb:Nat) (g:Nat) (sx:Value) (wr:World):Prop:=∃D R:Ts,T=D.app R∧g=R.length∧sx= .int .i64 D.length∧D.nodes+1≤L∧VS lb vb (L-(D.nodes+1)) wr∧Chg (fun k=>k=lb) w wr
set_option maxHeartbeats 1000000 in
theorem QoO (m:Nat) (ih:∀T:Ts,T.nodes<m→QdZ T) (T:Ts) (hm:T.nodes≤m):QdZ T:=by
 intro k n s v L lb vb B w hv hBl hvs hL hn hwd;obtain ⟨A,c,rfl,hs⟩:=hv.form;have hle:=T.length_le;have hW:Below w.heap.size w (w.alloc (.cells #[.int .i64 k,.int .i64 n,.string s,.slice A T.length c] 63)):=(Below.refl _ _).alloc (Nat.le_refl _) _;have hvs1:=hvs.far hW;have hs1:=hs.below hW;have bA:=QD.new w 63 #[.int .i64 k,.int .i64 n,.string s,.slice A T.length c];have l0:=hvs1.left.cell 0;have lf:=hvs1.left.frozen 0;simp at l0;have hlt:=hvs.left.lt;by_cases hL0:L=0
 ·subst hL0;go_enter Tryz.func132,Tryz.ntmps132;go_wp2_with fail;go_ret;exact ⟨rfl,fun h=>absurd h Ya,Chg.of_fresh hW⟩
 have hL1:0<L:=by omega
 obtain ⟨p0,p1,p2,p3,_⟩:=bA.four;have hne:w.heap.size≠lb:=by omega
 go_enter Tryz.func132,Tryz.ntmps132;go_wp2_with fail
 have hstart:VS lb vb (L-1) ((w.setCell ⟨lb,0,none⟩ (.int .i64 ((L:Int)-1))).alloc (.cells #[.int .i64 k,.int .i64 n,.string s,.slice A T.length c] 63)):=by
  refine ⟨?_,?_,hvs.ne⟩
  ·have h1:=(hvs.left.set_ 0 (.int .i64 ((L:Int)-1))).alloc (.cells #[.int .i64 k,.int .i64 n,.string s,.slice A T.length c] 63);rw [show ((L-1:Nat):Int)=(L:Int)-1 by omega];exact h1
  ·exact (hvs.fn.far (p:=⟨lb,0,none⟩) hvs.ne _).alloc _
 have hchg:Chg (fun k=>k=lb) w ((w.setCell ⟨lb,0,none⟩ (.int .i64 ((L:Int)-1))).alloc (.cells #[.int .i64 k,.int .i64 n,.string s,.slice A T.length c] 63)):=
  ((Chg.refl (fun k=>k=lb) w).setCell (p:=⟨lb,0,none⟩) (fun _=>rfl) _).alloc _
 have hcall:∀(args:Array Value) (x:World),(callFunc 132 args).run Tryz.prog x= .ok (.enter 132 args) x:=fun args x=>by simp [go_sem]
 generalize ((w.setCell ⟨lb,0,none⟩ (.int .i64 ((L:Int)-1))).alloc (.cells #[.int .i64 k,.int .i64 n,.string s,.slice A T.length c] 63))=W at*
 have h0:QqP w T L lb vb T.length (.int .i64 0) W:=⟨.nil,T,rfl,rfl,rfl,hL1,hstart,hchg⟩
 clear hstart hchg hvs1 bA p0 p1 p2 p3 hne l0 lf hs1 hW;go_loopg [14] T.length (QqP w T L lb vb)
 case atStart=>exact h0
 case round=>
  clear h0;obtain ⟨D,R,hT,hg,rfl,hD,hvr,hc⟩:=hrel;have HT:=Lib.hid hT;have HG:=Lib.hid hg;clear hT hg;have hsr:Sl wr (fun k=>k<B) (.slice A T.length c) T:=hs.chg hc fun k hk=>by omega
  cases R with
  |nil=>
   have eD:D=T:=by rw [HT.out,Ts.app_nil]
   subst eD;go_wp2_with fail;go_ret;refine ⟨?_,fun _=>hvr,hc⟩;rw [decide_eq_true hD];rfl
  |cons k1 n1 s1 ar r=>
   have e1:D.length<T.length:=by rw [HT.out,Ts.length_app];simp [Ts.length]
   have hnod:T.nodes=D.nodes+(1+ar.nodes+r.nodes):=by rw [HT.out,Ts.nodes_app];simp only [Ts.nodes];omega
   have hwa:ar.length≤9223372036854775807∧ar.wide∧r.wide:=by rw [HT.out,Ts.wide_app] at hwd;exact hwd.2
   rw [HT.out] at hsr;rw [show (D.app (.cons k1 n1 s1 ar r)).length=T.length by rw [←HT.out]] at hsr;obtain ⟨b1,o1,rfl,hq1⟩:=Sl.at_ hsr Y1;obtain ⟨_,c10,c11,c12,⟨v1,c13,hv1⟩,_⟩:=QL.1 hq1;obtain ⟨A1,d1,rfl,hv1⟩:=hv1.form;clear hq1 hsr;have hX:Below wr.heap.size wr (wr.alloc (.cells #[.int .i64 k1,.int .i64 n1,.string s1,.slice A1 ar.length d1] 63)):=(Below.refl _ _).alloc (Nat.le_refl _) _;have hvx:=hvr.far hX;have f0:=hvx.fn.cell 0;simp at f0;go_wp2_with fail;have e2:ar.nodes<m:=by omega
   refine (ih ar e2 k1 n1 s1 _ (L-(D.nodes+1)) lb vb B _ (hv1.below hX) hBl hvx Ya hwa.1 hwa.2.1).mono ?_;rintro e w2 ⟨rfl,hok,hc2⟩;have hc3:Chg (fun k=>k=lb) w w2:=(hc.trans (Chg.of_fresh (S:=fun k=>k=lb) hX) fun _ _ h=>h).trans hc2 fun _ _ h=>h;by_cases hx:ar.nodes+1≤L-(D.nodes+1)
   ·have hok:=hok hx;rw [decide_eq_true hx]
    have hnx:Hid (VS lb vb (L-((D.app (.cons k1 n1 s1 ar .nil)).nodes+1)) w2):=Lib.hid (by
     rw [Ts.nodes_app];simp only [Ts.nodes];rw [show L-(D.nodes+(ar.nodes+0+1)+1)=L-(D.nodes+1)-(ar.nodes+1) by omega]
     exact hok)
    clear hok;go_wp2_with fail;go_roundg r.length
    case measure=>rw [HG.out];simp [Ts.length]
    case rel=>
     refine ⟨D.app (.cons k1 n1 s1 ar .nil),r,?_,rfl,?_,?_,hnx.out,hc3⟩
     ·rw [HT.out,Ts.app_assoc];rfl
     ·rw [Ts.length_app];rfl
     ·rw [Ts.nodes_app];simp only [Ts.nodes];omega
   ·rw [decide_eq_false hx];have hbig:Hid (¬T.nodes+1≤L):=Lib.hid Ya;clear hok;go_wp2_with fail;go_ret;refine ⟨?_,fun h=>absurd h hbig.out,hc3⟩;rw [decide_eq_false hbig.out];rfl
theorem Qlq (T:Ts):QdZ T:=by
 have:∀m,∀T:Ts,T.nodes<m→QdZ T:=by
  intro m
  induction m with
  |zero=>intro T h;omega
  |succ m ih=>intro T h;exact QoO m ih T Ya
 exact this _ T (Nat.lt_succ_self _)
set_option maxHeartbeats 1000000 in
theorem Qqi (k n:Int) (s:ByteArray) (T:Ts) (v:Value) (w:World) (hv:Sl w (fun _=>True) v T) (hn:T.length≤9223372036854775807) (hwd:T.wide):
  Calls Tryz.prog 85 #[.agg #[.int .i64 k,.int .i64 n,.string s,v],.int .i64 24] w fun e w'=>e= .returned (.bool (decide (T.nodes+1≤24)))∧Below w.heap.size w w':=by
 obtain ⟨A,c,rfl,hs⟩:=hv.form;have hs:=hs.imp (q:=fun k=>k<w.heap.size) fun k _ h=>h;have hW:Below w.heap.size w (((w.alloc (.cells #[.int .i64 k,.int .i64 n,.string s,.slice A T.length c] 63)).alloc (.cells #[.int .i64 24] 3)).alloc (.cells #[.func (.func 132) #[] #[.pointer (some ⟨w.heap.size+1,0,none⟩),.pointer (some ⟨w.heap.size+1+1,0,none⟩)]] 130)):=(((Below.refl _ _).alloc (Nat.le_refl _) _).alloc Yd _).alloc Yh _
 have hst:(store ⟨w.heap.size+1+1,0,none⟩ (.func (.func 132) #[] #[.pointer (some ⟨w.heap.size+1,0,none⟩),.pointer (some ⟨w.heap.size+1+1,0,none⟩)])).run Tryz.prog (((w.alloc (.cells #[.int .i64 k,.int .i64 n,.string s,.slice A T.length c] 63)).alloc (.cells #[.int .i64 24] 3)).alloc (.cells #[.nilFunc] 130))=
   .ok () (((w.alloc (.cells #[.int .i64 k,.int .i64 n,.string s,.slice A T.length c] 63)).alloc (.cells #[.int .i64 24] 3)).alloc (.cells #[.func (.func 132) #[] #[.pointer (some ⟨w.heap.size+1,0,none⟩),.pointer (some ⟨w.heap.size+1+1,0,none⟩)]] 130)):=by
  have hb:=QD.new ((w.alloc (.cells #[.int .i64 k,.int .i64 n,.string s,.slice A T.length c] 63)).alloc (.cells #[.int .i64 24] 3)) 130 #[.nilFunc];have e:=Qee ((w.alloc (.cells #[.int .i64 k,.int .i64 n,.string s,.slice A T.length c] 63)).alloc (.cells #[.int .i64 24] 3)) .nilFunc (.func (.func 132) #[] #[.pointer (some ⟨w.heap.size+1,0,none⟩),.pointer (some ⟨w.heap.size+1+1,0,none⟩)]) 130;have h:=Qcw (P:=Tryz.prog) (f:= .func 132) (x:= #[]) (y:= #[.pointer (some ⟨w.heap.size+1,0,none⟩),.pointer (some ⟨w.heap.size+1+1,0,none⟩)]) (hb.cell 0) (hb.frozen 0);rw [e] at h;simpa using h
 have hvs:VS (w.heap.size+1) (w.heap.size+1+1) 24 (((w.alloc (.cells #[.int .i64 k,.int .i64 n,.string s,.slice A T.length c] 63)).alloc (.cells #[.int .i64 24] 3)).alloc (.cells #[.func (.func 132) #[] #[.pointer (some ⟨w.heap.size+1,0,none⟩),.pointer (some ⟨w.heap.size+1+1,0,none⟩)]] 130)):=by
  refine ⟨?_,?_,by omega⟩
  ·have:=(QD.new (w.alloc (.cells #[.int .i64 k,.int .i64 n,.string s,.slice A T.length c] 63)) 3 #[.int .i64 24]).alloc (.cells #[.func (.func 132) #[] #[.pointer (some ⟨w.heap.size+1,0,none⟩),.pointer (some ⟨w.heap.size+1+1,0,none⟩)]] 130);simpa using this
  ·have:=QD.new ((w.alloc (.cells #[.int .i64 k,.int .i64 n,.string s,.slice A T.length c] 63)).alloc (.cells #[.int .i64 24] 3)) 130 #[.func (.func 132) #[] #[.pointer (some ⟨w.heap.size+1,0,none⟩),.pointer (some ⟨w.heap.size+1+1,0,none⟩)]];simpa using this
 have hcall:∀(args:Array Value) (x:World),(callFunc 132 args).run Tryz.prog x= .ok (.enter 132 args) x:=fun args x=>by simp [go_sem]
 go_enter Tryz.func85,Tryz.ntmps85;go_wp2_with fail;refine (Qlq T k n s _ 24 (w.heap.size+1) (w.heap.size+1+1) w.heap.size _ (hs.below hW) Ya hvs (Nat.le_refl _) hn hwd).mono ?_;rintro e w2 ⟨rfl,_,hc⟩;generalize hfb:decide (T.nodes+1≤24)=fb;have HFB:=Lib.hid hfb;clear hfb;go_wp2_with fail;go_ret;refine ⟨by rw [HFB.out];rfl,hW.trans (hc.below Yh fun k hk _=> ?_)⟩;have e:k=w.heap.size+1:=hk;omega
set_option maxHeartbeats 1000000 in
theorem QeU (vars k n:Int) (s:ByteArray) (T:Ts) (v:Value) (w:World) (hv:Sl w (fun _=>True) v T) (hn:T.length≤9223372036854775807) (hwd:T.wide):
  Calls Tryz.prog 50 #[.agg #[.int .i64 k,.int .i64 n,.string s,v],.int .i64 vars] w fun e w'=>e= .returned (.bool (gB vars k n s T))∧Below w.heap.size w w':=by
 obtain ⟨A,c,rfl,hs⟩:=hv.form;generalize hr:gB vars k n s T=rb;have R:=Lib.hid hr;clear hr;go_enter Tryz.func50,Tryz.ntmps50;go_wp2_with fail;have hW0:Below w.heap.size w (w.alloc (.cells #[.int .i64 k,.int .i64 n,.string s,.slice A T.length c] 63)):=(Below.refl _ _).alloc (Nat.le_refl _) _;have bA:=QD.new w 63 #[.int .i64 k,.int .i64 n,.string s,.slice A T.length c];generalize (w.alloc (.cells #[.int .i64 k,.int .i64 n,.string s,.slice A T.length c] 63))=W0 at*;have hs0:=hs.below hW0;refine (Qnk k n s _ W0).mono ?_;rintro e w1 ⟨rfl,hb1⟩;have hW1:=hW0.trans (hb1.mono hW0.size);have bA1:=bA.below hb1;have hs1:=hs0.below hb1
 cases hg:Qfx k with
 |false=>
  go_wp2_with fail;go_ret;refine ⟨?_,hW1⟩;rw [←R.out,gB,hg];rfl
 |true=>
  have HGK:=Lib.hid hg;clear hg;obtain ⟨p0,p1,p2,p3,_⟩:=bA1.four;go_wp2_with fail;refine (Qqi k n s T _ _ hs1 hn hwd).mono ?_;rintro e w2 ⟨rfl,hb2⟩;have hW2:=hW1.trans (hb2.mono hW1.size);have bA2:=bA1.below hb2;have hs2:=hs1.below hb2;clear p0 p1 p2 p3;generalize hf:decide (T.nodes+1≤24)=fb;have HF:=Lib.hid hf;clear hf;obtain ⟨p0,p1,p2,p3,_⟩:=bA2.four
  cases fb with
  |false=>
   go_wp2_with fail;go_ret;refine ⟨?_,hW2⟩;rw [←R.out,gB,HF.out,Bool.and_false];rfl
  |true=>
   go_wp2_with fail;refine (QfR k n vars s T _ _ hs2 (by have:=of_decide_eq_true HF.out;omega)).mono ?_;rintro e w3 ⟨rfl,hb3⟩;generalize hq:(Ts.cons k n s T .nil).good vars=qb;have HQ:=Lib.hid hq;clear hq;go_wp2_with fail;go_ret;refine ⟨?_,hW2.trans (hb3.mono hW2.size)⟩;rw [←R.out,gB,HGK.out,HF.out,HQ.out,Bool.and_true,Bool.true_and];rfl
set_option maxHeartbeats 1000000 in
theorem QaK (vars:Int) (T:Ts) (v:Value) (w:World) (hv:Sl w (fun _=>True) v T) (hn:T.length≤9223372036854775807) (hwd:T.wide):
  Calls Tryz.prog 29 #[v,.int .i64 vars] w fun e w'=>e= .returned (.bool (qB vars T))∧Below w.heap.size w w':=by
 obtain ⟨A,c,rfl,hs⟩:=hv.form;have hle:=T.length_le;generalize hr:qB vars T=rb;have R:=Lib.hid hr;clear hr;by_cases h1:vars<0
 ·have hq:Hid (rb=false):=Lib.hid YP;go_enter Tryz.func29,Tryz.ntmps29;go_wp2_with fail;go_ret;exact ⟨by rw [hq.out];rfl,Below.refl _ _⟩
 by_cases h2:8<vars
 ·have hq:Hid (rb=false):=Lib.hid YP;go_enter Tryz.func29,Tryz.ntmps29;go_wp2_with fail;go_ret;exact ⟨by rw [hq.out];rfl,Below.refl _ _⟩
 by_cases h3:5<T.length
 ·have hq:Hid (rb=false):=Lib.hid YP;go_enter Tryz.func29,Tryz.ntmps29;go_wp2_with fail;go_ret;exact ⟨by rw [hq.out];rfl,Below.refl _ _⟩
 have hq:Hid (rb=T.goals vars):=Lib.hid YP;have hl5:T.length≤5:=by omega
 have h0:QnK w T vars T.length (.int .i64 0) w:=⟨.nil,T,rfl,rfl,rfl,rfl,Below.refl _ _⟩
 go_enter Tryz.func29,Tryz.ntmps29;go_wp2_with fail;go_loopg [20] T.length (QnK w T vars)
 case atStart=>exact h0
 case round=>
  clear h0;obtain ⟨D,R',hT,hg,rfl,hD,hb⟩:=hrel;have HT:=Lib.hid hT;have HG:=Lib.hid hg;have HD:=Lib.hid hD;clear hT hg hD;have hsr:=hs.below hb
  cases R' with
  |nil=>
   have eD:D=T:=by rw [HT.out,Ts.app_nil]
   subst eD;go_wp2_with fail;go_ret;exact ⟨by rw [hq.out,HD.out];rfl,hb⟩
  |cons k1 n1 s1 ar r=>
   have e1:D.length<T.length:=by rw [HT.out,Ts.length_app];simp [Ts.length]
   have hwa:ar.length≤9223372036854775807∧ar.wide∧r.wide:=by have:=hwd;rw [HT.out,Ts.wide_app] at this;exact this.2
   rw [HT.out] at hsr;rw [show (D.app (.cons k1 n1 s1 ar r)).length=T.length by rw [←HT.out]] at hsr;obtain ⟨b1,o1,rfl,hq1⟩:=Sl.at_ hsr Y1;obtain ⟨_,c10,c11,c12,⟨v1,c13,hv1⟩,_⟩:=QL.1 hq1;obtain ⟨A1,d1,rfl,hv1⟩:=hv1.form;clear hq1 hsr;have hX:Below wr.heap.size wr (wr.alloc (.cells #[.int .i64 k1,.int .i64 n1,.string s1,.slice A1 ar.length d1] 63)):=(Below.refl _ _).alloc (Nat.le_refl _) _;have hX':=hb.trans (hX.mono hb.size);go_wp2_with fail;refine (QeU vars k1 n1 s1 ar _ _ (hv1.below hX) hwa.1 hwa.2.1).mono ?_;rintro e w2 ⟨rfl,hb2⟩;have hb3:=hX'.trans (hb2.mono hX'.size);generalize hgb:gB vars k1 n1 s1 ar=gb;have HGB:=Lib.hid hgb;clear hgb
   cases gb with
   |false=>
    go_wp2_with fail;go_ret;refine ⟨?_,hb3⟩;rw [hq.out,HT.out,Ts.goals_app,Ts.goals,HGB.out,Bool.false_and,Bool.and_false];rfl
   |true=>
    go_wp2_with fail;go_roundg r.length
    case measure=>rw [HG.out];simp [Ts.length]
    case rel=>
     refine ⟨D.app (.cons k1 n1 s1 ar .nil),r,?_,rfl,?_,?_,hb3⟩
     ·rw [HT.out,Ts.app_assoc];rfl
     ·rw [Ts.length_app];rfl
     ·rw [Ts.goals_app,HD.out,Ts.goals,HGB.out];rfl
set_option maxHeartbeats 1000000 in
theorem QdA (c:Cl) (u v:Value) (w:World) (hu:Sl w (fun _=>True) u c.hd) (hv:Sl w (fun _=>True) v c.bd) (h1:c.hd.length≤9223372036854775807) (h1w:c.hd.wide) (h2:c.bd.length≤9223372036854775807) (h2w:c.bd.wide):
  Calls Tryz.prog 49 #[.agg #[.int .i64 c.k,.int .i64 c.n,.string c.s,u,v,.int .i64 c.vars]] w fun e w'=>e= .returned (.bool (cB c))∧Below w.heap.size w w':=by
 obtain ⟨A,d,rfl,hu⟩:=hu.form;obtain ⟨A',d',rfl,hv⟩:=hv.form;generalize hr:cB c=rb;have R:=Lib.hid hr;clear hr;go_enter Tryz.func49,Tryz.ntmps49;go_wp2_with fail;have hW0:Below w.heap.size w (w.alloc (.cells #[.int .i64 c.k,.int .i64 c.n,.string c.s,.slice A c.hd.length d,.slice A' c.bd.length d',.int .i64 c.vars] 65)):=(Below.refl _ _).alloc (Nat.le_refl _) _;have bA:=QD.new w 65 #[.int .i64 c.k,.int .i64 c.n,.string c.s,.slice A c.hd.length d,.slice A' c.bd.length d',.int .i64 c.vars];generalize (w.alloc (.cells #[.int .i64 c.k,.int .i64 c.n,.string c.s,.slice A c.hd.length d,.slice A' c.bd.length d',.int .i64 c.vars] 65))=W0 at*;have hu0:=hu.below hW0;refine (QaK c.vars c.bd _ W0 (hv.below hW0) h2 h2w).mono ?_;rintro e w1 ⟨rfl,hb1⟩;have hW1:=hW0.trans (hb1.mono hW0.size);have bA1:=bA.below hb1;have hu1:=hu0.below hb1;generalize hq:qB c.vars c.bd=qb;have HQ:=Lib.hid hq;clear hq
 cases qb with
 |false=>
  go_wp2_with fail;go_ret;refine ⟨?_,hW1⟩;rw [←R.out,cB,HQ.out];rfl
 |true=>
  have p0:=bA1.cell 0;have p1:=bA1.cell 1;have p2:=bA1.cell 2;have p3:=bA1.cell 3;have p5:=bA1.cell 5;simp at p0 p1 p2 p3 p5;go_wp2_with fail;refine (QeU c.vars c.k c.n c.s c.hd _ _ hu1 h1 h1w).mono ?_;rintro e w2 ⟨rfl,hb2⟩;have hW2:=hW1.trans (hb2.mono hW1.size);have bA2:=bA1.below hb2;clear p0 p1 p2 p3 p5;generalize hg:gB c.vars c.k c.n c.s c.hd=gb;have HGB:=Lib.hid hg;clear hg
  cases gb with
  |false=>
   go_wp2_with fail;go_ret;refine ⟨?_,hW2⟩;rw [←R.out,cB,HGB.out,Bool.and_false];rfl
  |true=>
   have p0:=bA2.cell 0;have p1:=bA2.cell 1;have p2:=bA2.cell 2;have p3:=bA2.cell 3;simp at p0 p1 p2 p3;go_wp2_with fail;refine (Qep c.k c.n c.s A c.hd.length d _).mono ?_;rintro e w3 ⟨rfl,hb3⟩;generalize hbb:QM c.s.toList c.hd.length=bb;have HBT:=Lib.hid hbb;clear hbb;go_wp2_with fail;go_ret;refine ⟨?_,hW2.trans (hb3.mono hW2.size)⟩;rw [←R.out,cB,HQ.out,HGB.out,HBT.out,Bool.true_and];rfl
set_option maxHeartbeats 1000000 in
theorem Qa1 (L:List Cl) (v:Value) (w:World) (hv:SlC w (fun _=>True) v L) (hn:L.length≤9223372036854775807) (hwd:Qmo L):
  Calls Tryz.prog 28 #[v] w fun e w'=>e= .returned (.bool (pB L))∧Below w.heap.size w w':=by
 obtain ⟨A,d,rfl,hs⟩:=hv.form;generalize hr:pB L=rb;have R:=Lib.hid hr;clear hr;by_cases h3:24<L.length
 ·have hq:Hid (rb=false):=Lib.hid (by rw [←R.out,pB];simp;omega);go_enter Tryz.func28,Tryz.ntmps28;go_wp2_with fail;go_ret;exact ⟨by rw [hq.out];rfl,Below.refl _ _⟩
 have hq:Hid (rb=L.all cB):=Lib.hid (by rw [←R.out,pB,decide_eq_true Ya,Bool.true_and])
 have h0:QnL w L L.length (.int .i64 0) w:=⟨[],L,rfl,rfl,rfl,rfl,Below.refl _ _⟩
 go_enter Tryz.func28,Tryz.ntmps28;go_wp2_with fail;go_loopg [10] L.length (QnL w L)
 case atStart=>exact h0
 case round=>
  clear h0;obtain ⟨D,R',hT,hg,rfl,hD,hb⟩:=hrel;have HT:=Lib.hid hT;have HG:=Lib.hid hg;have HD:=Lib.hid hD;clear hT hg hD;have hsr:=hs.below hb
  cases R' with
  |nil=>
   have eD:D=L:=by rw [HT.out,List.append_nil]
   subst eD;go_wp2_with fail;go_ret;exact ⟨by rw [hq.out,HD.out];rfl,hb⟩
  |cons c r=>
   have e1:D.length<L.length:=by rw [HT.out,List.length_append];simp
   have hcw:=hwd c (by rw [HT.out];simp);rw [HT.out] at hsr;rw [show (D++c::r).length=L.length by rw [←HT.out]] at hsr;obtain ⟨b1,o1,rfl,_,c10,c11,c12,⟨v1,c13,hv1⟩,⟨v2,c14,hv2⟩,c15,_⟩:=SlC.at_ hsr Yd;obtain ⟨A1,d1,rfl,hv1⟩:=hv1.form;obtain ⟨A2,d2,rfl,hv2⟩:=hv2.form;clear hsr;have hX:Below wr.heap.size wr (wr.alloc (.cells #[.int .i64 c.k,.int .i64 c.n,.string c.s,.slice A1 c.hd.length d1,.slice A2 c.bd.length d2,.int .i64 c.vars] 65)):=(Below.refl _ _).alloc (Nat.le_refl _) _;have hX':=hb.trans (hX.mono hb.size);go_wp2_with fail;refine (QdA c _ _ _ (hv1.below hX) (hv2.below hX) hcw.1 hcw.2.1 hcw.2.2.1 hcw.2.2.2).mono ?_;rintro e w2 ⟨rfl,hb2⟩;have hb3:=hX'.trans (hb2.mono hX'.size);generalize hgb:cB c=gb;have HGB:=Lib.hid hgb;clear hgb
   cases gb with
   |false=>
    go_wp2_with fail;go_ret;refine ⟨?_,hb3⟩;rw [hq.out,HT.out,List.all_append,List.all_cons,HGB.out,Bool.false_and,Bool.and_false];rfl
   |true=>
    go_wp2_with fail;go_roundg r.length
    case measure=>rw [HG.out];simp
    case rel=>
     refine ⟨D++[c],r,?_,rfl,?_,?_,hb3⟩
     ·rw [HT.out,List.append_assoc];rfl
     ·rw [List.length_append];rfl
     ·rw [List.all_append,HD.out,List.all_cons,HGB.out];rfl
theorem QhQ.segC {w:World} {b:Nat}:∀{L:List LC} {o:Nat},QhQ w b L o→(∀x∈L,QtW x w)→QjB w (fun _=>True) (L.map LC.cl) b o
 |[],_,_,_=>trivial
 |c::r,o,⟨h0,h1,h2,h3,h4,h5,h6⟩,hr=>⟨trivial,h0,h1,h2,⟨_,h3,(hr c (.head _)).1.sl⟩,⟨_,h4,(hr c (.head _)).2.sl⟩,h5,h6.segC fun x hx=>hr x (.tail _ hx)⟩
theorem Qes.slC {L:List LC} {A:Option Addr} {c:Nat} {w:World} (h:Qes L A c w):SlC w (fun _=>True) (.slice A L.length c) (L.map LC.cl):=by
 refine ⟨A,c,by simp,by simpa using h.1,fun hl=> ?_⟩;obtain ⟨b,o,e,hs⟩:=h.2.1 YaD;exact ⟨b,o,e,hs.segC h.2.2⟩
section
variable {M:List Nat} {w0:World} {H:List (Nat×Obj)} {F:List (World→Prop)}
end
end Go.Proofs.YthliapbflkfdiacGreatDoor
