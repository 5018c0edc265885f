/- Path, Node, Visit, IsTerm, Queue, NodesOf, Built, Fits, Goals, Query: texts that follow one another, laid into one file. -/
import Derived.Test.YthliapbflkfdiacGreatDoorZ0
import Derived.Test.YthliapbflkfdiacGreatDoorG2
import Derived.Test.YthliapbflkfdiacGreatDoorRows
import Derived.Deep.LoopGhost
import Derived.StillTailTactics
import Derived.RegionTactic
import Derived.OneCell
import Derived.Test.YthliapbflkfdiacGreatDoorG0
import Derived.Test.YthliapbflkfdiacGreatDoorG1
import Derived.Deep.Upon
import Derived.Lib.LazyBuf
import Derived.Deep.QuietTactic
import Derived.BigQuiet
namespace Go.Proofs.YthliapbflkfdiacGreatDoor
open Go.RowKit
theorem QsL:(Tryz.prog.info? 23).map (fun i=>(i.zero,i.size,i.bytes))=some (some (.slice none 0 0),1,24):=by kernel_rfl
theorem Qe3 {P:Program} (w:World) (d:Nat) (t e:TypeId) (a:Option Addr) (l c:Nat) (h:P.underlying t=some (.slice e)):(Op.equalIn (d+1) t (.slice a l c) (.slice none 0 0)).run P w= .ok a.isNone w:=by
 cases a<;>simp [Op.equalIn,run_underlying h]
theorem Qf8 {P:Program} (w:World) (t e:TypeId) (a:Option Addr) (l c:Nat) (h:P.underlying t=some (.slice e)):(Op.equal t (.slice a l c) (.slice none 0 0)).run P w= .ok a.isNone w:=Qe3 w 9999 t e a l c h
theorem run_eql_slice_nil {P:Program} (w:World) (t e:TypeId) (a:Option Addr) (l c:Nat) (h:P.underlying t=some (.slice e)):(binOp .eql t (.slice a l c) (.slice none 0 0)).run P w= .ok (.bool a.isNone) w:=by
 simp [binOp,Qf8 w t e a l c h]
structure QaL (w:World) (B pb:Nat) (pv:Value) (xs:List Value):Prop where
 var:QR w pb 182 #[pv]
 own:w.ownsRow B 23 1 pv xs.length xs
 apart:pv.ownBlock≠some pb
theorem QR.ne_ {w:World} {g g':Nat} {t t':TypeId} {cs cs':Array Value} (h:QR w g t cs) (h':QR w g' t' cs') (hne:t≠t'):g≠g':=by
 rintro rfl
 unfold QR at h h'
 rw [h] at h'
 injection h' with h'
 injection h' with _ ht
 exact hne ht
theorem QaL.chg {S:Nat→Prop} {w w':World} {B pb:Nat} {pv:Value} {xs:List Value} (h:QaL w B pb pv xs) (hc:Chg S w w') (h1:¬S pb) (h2:∀g,pv.ownBlock=some g→¬S g):QaL w' B pb pv xs:=
 ⟨h.var.chg hc h1,QpG h.own hc h2,h.apart⟩
theorem QaL.other {w:World} {B pb b:Nat} {pv:Value} {xs:List Value} {cur:Array Value} (h:QaL w B pb pv xs) (hb:QR w b 63 cur):b≠pb∧pv.ownBlock≠some b:=by
 refine ⟨hb.ne_ h.var Yf,fun e=> ?_⟩
 rcases h.own.2 with ⟨e1,_⟩|⟨g,cap,cur',e1,_,hh,_⟩
 ·rw [e1] at e;simp [Value.ownBlock] at e
 ·rw [e1] at e
  simp only [Value.ownBlock,Option.some.injEq] at e
  subst e
  exact hb.ne_ (t':=23) hh Yf rfl
theorem QaL.set {w:World} {B pb b i:Nat} {pv u:Value} {xs:List Value} {cur:Array Value} (h:QaL w B pb pv xs) (hb:QR w b 63 cur):QaL (w.setCell ⟨b,i,none⟩ u) B pb pv xs:=by
 obtain ⟨h1,h2⟩:=h.other hb
 exact h.chg ((Chg.refl (fun k=>k=b) w).setCell (fun _=>rfl) u) (fun e=>h1 e.symm) fun g hg e=>h2 (by rw [hg,e])
theorem QaL.keep {w w':World} {B pb k:Nat} {pv:Value} {xs:List Value} {cur:Array Value} (h:QaL w B pb pv xs) (hc:Chg (fun k=>k=pb∨pv.ownBlock=some k) w w') (hk:QR w k 63 cur):QR w' k 63 cur:=by
 obtain ⟨h1,h2⟩:=h.other hk
 exact hk.chg hc fun hS=>hS.elim h1 h2
set_option maxHeartbeats 400000 in
theorem QpK (k n:Int) (s:ByteArray) (A:Option Addr) (l c:Nat) (w:World):
  Calls Tryz.prog 133 #[.agg #[.int .i64 k,.int .i64 n,.string s,.slice A l c]] w fun e w'=>e= .returned (.slice (some ⟨w.heap.size+2,0,none⟩) 1 1)∧
   w'=((w.alloc (.cells #[.int .i64 k,.int .i64 n,.string s,.slice A l c] 63)).alloc (.cells #[.int .i64 k,.int .i64 n,.string s,.slice A l c] 63)).alloc (.cells #[.slice (some ⟨w.heap.size+1,0,none⟩) 1 1] 23):=by
 go_enter Tryz.func133,Tryz.ntmps133
 go_wp2_with fail
 go_ret
 exact ⟨rfl,rfl⟩
set_option maxHeartbeats 400000 in
theorem QuA {w:World} {B pb:Nat} {pv:Value} {ys:List Value} {b o cap:Nat} (hp:QaL w B pb pv (ys++[.slice (some ⟨b,o,none⟩) 1 cap])) (hn:ys.length≤1073741824):
  Calls Tryz.prog 134 #[.pointer (some ⟨pb,0,none⟩)] w fun e w'=>e= .returned (.pointer (some ⟨b,o,none⟩))∧
   ∃pv',QaL w' B pb pv' ys∧pv'.ownBlock=pv.ownBlock∧Chg (fun k=>k=pb∨pv.ownBlock=some k) w w':=by
 obtain ⟨hv,ho,ha⟩:=hp
 rcases ho.2 with ⟨_,h0⟩|⟨g,cp,cur,rfl,hg,hh,hnc,hcm,hcs,htk⟩
 ·simp at h0
 have c0:w.cell? ⟨pb,0,none⟩=some (.slice (some ⟨g,0,none⟩) (ys++[Value.slice (some ⟨b,o,none⟩) 1 cap]).length cp):=hv.cell 0
 have f0:w.frozen? ⟨pb,0,none⟩=false:=hv.frozen 0
 have c1:w.cell? ⟨g,ys.length,none⟩=some (.slice (some ⟨b,o,none⟩) 1 cap):=by
  rw [ho.cellAt _ Yd];simp
 simp only [List.length_append,List.length_cons,List.length_nil,Nat.zero_add] at c0 hnc
 have hgp:g≠pb:=fun e=>ha (by rw [e];rfl)
 have hfin:QaL (w.setCell ⟨pb,0,none⟩ (.slice (some ⟨g,0,none⟩) ys.length cp)) B pb (.slice (some ⟨g,0,none⟩) ys.length cp) ys:=by
  refine ⟨hv.set_ 0 _,⟨by simp,.inr ⟨g,cp,cur,rfl,hg,(Below.heap_setCell _ _ _ _ hgp).trans hh,by omega,hcm,hcs,?_⟩⟩,by simpa [Value.ownBlock] using hgp⟩
  have:=congrArg (List.take (ys.length*1)) htk
  rw [List.take_take] at this
  simpa [Nat.min_eq_left] using this
 have hchg:Chg (fun k=>k=pb∨(Value.slice (some ⟨g,0,none⟩) (ys++[Value.slice (some ⟨b,o,none⟩) 1 cap]).length cp).ownBlock=some k) w (w.setCell ⟨pb,0,none⟩ (.slice (some ⟨g,0,none⟩) ys.length cp)):=
  (Chg.refl _ _).setCell (fun _=> .inl rfl) _
 clear hv ho ha htk
 go_enter Tryz.func134,Tryz.ntmps134
 go_wp2_with fail
 go_ret
 exact ⟨rfl,_,hfin,rfl,hchg⟩
set_option maxHeartbeats 400000 in
theorem Quz {w:World} {B pb:Nat} {pv:Value} {ys:List Value} {b o l cap:Nat} (hp:QaL w B pb pv (ys++[.slice (some ⟨b,o,none⟩) (l+2) cap])) (hn:ys.length≤1073741824) (hl:l≤1073741824) (hc:l+2≤cap):
  Calls Tryz.prog 134 #[.pointer (some ⟨pb,0,none⟩)] w fun e w'=>e= .returned (.pointer (some ⟨b,o,none⟩))∧
   ∃pv',QaL w' B pb pv' (ys++[.slice (some ⟨b,o+4,none⟩) (l+1) (cap-1)])∧pv'.ownBlock=pv.ownBlock∧Chg (fun k=>k=pb∨pv.ownBlock=some k) w w':=by
 obtain ⟨hv,ho,ha⟩:=hp
 rcases ho.2 with ⟨_,h0⟩|⟨g,cp,cur,rfl,hg,hh,hnc,hcm,hcs,htk⟩
 ·simp at h0
 have c0:w.cell? ⟨pb,0,none⟩=some (.slice (some ⟨g,0,none⟩) (ys++[Value.slice (some ⟨b,o,none⟩) (l+2) cap]).length cp):=hv.cell 0
 have c1:w.cell? ⟨g,ys.length,none⟩=some (.slice (some ⟨b,o,none⟩) (l+2) cap):=by
  rw [ho.cellAt _ Yd];simp
 have f1:w.frozen? ⟨g,ys.length,none⟩=false:=ho.frozenAt _
 simp only [List.length_append,List.length_cons,List.length_nil,Nat.zero_add] at c0 hnc
 have hgp:g≠pb:=fun e=>ha (by rw [e];rfl)
 have hst:=(ho.stored ys.length (.slice (some ⟨b,o+4,none⟩) (l+1) (cap-1))).1
 have hfin:QaL (w.setCell ⟨g,ys.length,none⟩ (.slice (some ⟨b,o+4,none⟩) (l+1) (cap-1))).drew B pb (.slice (some ⟨g,0,none⟩) (ys.length+1) cp) (ys++[.slice (some ⟨b,o+4,none⟩) (l+1) (cap-1)]):=by
  refine ⟨?_,?_,by simpa [Value.ownBlock] using hgp⟩
  ·have:=hv.far (p:=⟨g,ys.length,none⟩) (Ne.symm hgp) (.slice (some ⟨b,o+4,none⟩) (l+1) (cap-1))
   simp only [List.length_append,List.length_cons,List.length_nil,Nat.zero_add] at this
   exact this
  ·simp at hst
   have e:(ys++[Value.slice (some ⟨b,o+4,none⟩) (l+1) (cap-1)]).length=ys.length+1:=by simp
   rw [e]
   exact hst
 have hchg:Chg (fun k=>k=pb∨(Value.slice (some ⟨g,0,none⟩) (ys++[Value.slice (some ⟨b,o,none⟩) (l+2) cap]).length cp).ownBlock=some k) w (w.setCell ⟨g,ys.length,none⟩ (.slice (some ⟨b,o+4,none⟩) (l+1) (cap-1))).drew:=
  ((Chg.refl _ _).setCell (fun _=> .inr rfl) _).drew
 have hl1:(((l+2:Nat):Int)==1)=false:=by rw [beq_eq_false_iff_ne];omega
 clear hv ho ha htk hst
 go_enter Tryz.func134,Tryz.ntmps134
 go_wp2_with fail
 go_region
 go_wp2_with fail
 go_ret
 exact ⟨rfl,_,hfin,rfl,hchg⟩
set_option maxHeartbeats 400000 in
theorem Qxn {w:World} (v:Value) (A:Option Addr) (c:Nat):Calls Tryz.prog 136 #[v,.slice A 0 c] w fun e w'=>e= .returned (.tuple #[])∧w=w':=by
 go_enter Tryz.func136,Tryz.ntmps136
 go_wp2_with fail
 go_end0
 exact ⟨rfl,rfl⟩
set_option maxHeartbeats 400000 in
theorem Qxm {w:World} {B pb:Nat} {pv:Value} {xs:List Value} {A:Option Addr} {l c:Nat} (hp:QaL w B pb pv xs) (hB:B≤w.heap.size) (hn:xs.length≤1073741824):
  Calls Tryz.prog 136 #[.pointer (some ⟨pb,0,none⟩),.slice A (l+1) c] w fun e w'=>e= .returned (.tuple #[])∧
   ∃pv',QaL w' B pb pv' (xs++[.slice A (l+1) c])∧(pv'.ownBlock=pv.ownBlock∨∃g,pv'.ownBlock=some g∧w.heap.size≤g)∧Chg (fun k=>k=pb∨pv.ownBlock=some k) w w':=by
 obtain ⟨hv,ho,ha⟩:=hp
 obtain ⟨i0,hi0,hz0,hz1,hz2⟩:=info_parts QsL
 have c0:w.cell? ⟨pb,0,none⟩=some pv:=hv.cell 0
 have hW:Below w.heap.size w (w.alloc (.cells #[.slice A (l+1) c] 23)):=(Below.refl _ _).alloc (Nat.le_refl _) _
 have ho':=Qun ho hW
 have hlt:=hv.lt
 have HB:=Lib.hid ha
 clear ha
 go_enter Tryz.func136,Tryz.ntmps136
 go_wp2_with (at_builtin;refine QbI _ rfl (.tmp 10) (.tmp 12) _ rfl B 23 i0 _ 1 24 Tryz.underlying182 hi0 hz0 hz1 hz2 rfl Ya pv xs.length xs rfl ho' ⟨w.heap.size,0,none⟩ 1 1 [.slice A (l+1) c] rfl rfl (QmQ w [.slice A (l+1) c] 23) (by simp [Value.oneCell']) Yk Ya Yg ?next)
 case next=>
  intro v' w' hov hg hat
  have cp:QR w' pb 182 #[pv]:=(hv.alloc _).grown hg (fun e=>HB.out e.symm)
  have c1:w'.cell? ⟨pb,0,none⟩=some pv:=cp.cell 0
  have f1:w'.frozen? ⟨pb,0,none⟩=false:=cp.frozen 0
  rcases hov.2 with ⟨_,h0⟩|⟨g,cap,cur,rfl,hgB,hh,hnc,hcm,hcs,htk⟩
  ·omega
  have hne:g≠pb:=by
   rcases hat with e|e
   ·intro e2;subst e2;exact HB.out e.symm
   ·simp [Value.ownBlock] at e;omega
  have hfin:QaL (w'.setCell ⟨pb,0,none⟩ (.slice (some ⟨g,0,none⟩) (xs.length+1) cap)) B pb (.slice (some ⟨g,0,none⟩) (xs.length+1) cap) (xs++[.slice A (l+1) c]):=by
   refine ⟨cp.set_ 0 _,?_,by simpa [Value.ownBlock] using hne⟩
   have:=ownsRow_setCell_other hov (a:=⟨pb,0,none⟩) (by simpa [Value.ownBlock] using hne) (.slice (some ⟨g,0,none⟩) (xs.length+1) cap)
   simpa using this
  have hat':(Value.slice (some ⟨g,0,none⟩) (xs.length+1) cap).ownBlock=pv.ownBlock∨∃g',(Value.slice (some ⟨g,0,none⟩) (xs.length+1) cap).ownBlock=some g'∧w.heap.size≤g':=by
   rcases hat with e|e
   ·exact .inl e
   ·exact .inr ⟨_,e,by omega⟩
  have hchg:Chg (fun k=>k=pb∨pv.ownBlock=some k) w (w'.setCell ⟨pb,0,none⟩ (.slice (some ⟨g,0,none⟩) (xs.length+1) cap)):=by
   refine Chg.setCell ?_ (fun _=> .inl rfl) _
   exact ((Chg.refl _ w).alloc _).trans (Chg.of_grown hg) fun k _ e=> .inr e
  have HX:=Lib.hid hat'
  clear hat hat' htk hov
  go_wp2_with fail
  go_end0
  exact ⟨rfl,_,hfin,HX.out,hchg⟩
def Raw (w:World) (v:Value) (l:Nat) (xs:List Value):Prop:=
 ∃A c,v= .slice A l c∧l≤c∧xs.length=l*4∧(∀u∈xs,u.oneCell'=true)∧(0<l→∃b o,A=some ⟨b,o,none⟩∧∀j u,xs[j]?=some u→w.cell? ⟨b,o+j,none⟩=some u)
theorem Sl.raw {w:World} {p:Nat→Prop} {v:Value} {T:Ts} (h:Sl w p v T):∃xs,Raw w v T.length xs∧Cs w p T xs:=by
 obtain ⟨A,c,rfl,hc,hs⟩:=h
 rcases Nat.eq_zero_or_pos T.length with h|h
 ·rw [Ts.nil_of_length h]
  exact ⟨[],⟨A,c,rfl,Nat.zero_le _,rfl,fun u hu=>(by cases hu),fun h=>absurd h (Nat.lt_irrefl _)⟩,rfl⟩
 ·obtain ⟨b,o,e,hseg⟩:=hs h
  obtain ⟨xs,h1,h2⟩:=hseg.cells
  exact ⟨xs,⟨A,c,rfl,hc,h1.length,h1.one,fun _=>⟨b,o,e,h2⟩⟩,h1⟩
set_option maxHeartbeats 400000 in
theorem QoN {w:World} {v:Value} {l:Nat} {xs:List Value} (hv:Raw w v l xs) (hn:l≤1073741824):
  Calls Tryz.prog 179 #[v] w fun e w'=>∃v',e= .returned v'∧w'.ownsRow w.heap.size 63 4 v' l xs∧Below w.heap.size w w':=by
 obtain ⟨A,c,rfl,hc,hlen,hone,hs⟩:=hv
 have hnil:∀W,(binOp .eql 23 (.slice A l c) (.slice none 0 0)).run Tryz.prog W= .ok (.bool A.isNone) W:=fun W=>run_eql_slice_nil W _ _ A _ c Tryz.underlying23
 cases A with
 |none=>
  have hl:l=0:=by
   rcases Nat.eq_zero_or_pos l with h|h
   ·exact h
   ·obtain ⟨b,o,e,_⟩:=hs h;cases e
  subst hl
  have hx:xs=[]:=List.eq_nil_of_length_eq_zero (by simpa using hlen)
  subst hx
  clear hlen hs hone
  go_enter Tryz.func179,Tryz.ntmps179
  go_wp2_with fail
  go_ret
  exact ⟨_,rfl,World.ownsRow_nil _ _ _ _,Below.refl _ _⟩
 |some a=>
  obtain ⟨i0,hi0,hz0,hz1,hz2⟩:=info_parts QgS
  have hcell:∀j u,xs[j]?=some u→w.cell? (a.add j)=some u:=by
   rcases Nat.eq_zero_or_pos l with h|h
   ·have hx:xs=[]:=List.eq_nil_of_length_eq_zero (by simpa [h] using hlen)
    subst hx
    intro j u hu;simp at hu
   ·obtain ⟨b,o,e,h2⟩:=hs h
    simp only [Option.some.injEq] at e
    subst e
    intro j u hu
    have:=h2 j u hu
    by_cases hj:j=0
    ·subst hj;simpa [Addr.add] using this
    ·simpa [Addr.add,hj] using this
  have hW:Below w.heap.size w (w.alloc (.cells #[] 63)):=(Below.refl _ _).alloc (Nat.le_refl _) _
  have ho:(w.alloc (.cells #[] 63)).ownsRow w.heap.size 63 4 (.slice (some ⟨w.heap.size,0,none⟩) 0 0) 0 []:=by
   simpa using World.ownsRow_lit (base:=w.heap.size) (e:=63) (size:=4) w #[] 0 (Nat.le_refl _) (by simp [maxLen]) Yd
  have hcell':∀j u,xs[j]?=some u→(w.alloc (.cells #[] 63)).cell? (a.add j)=some u:=fun j u hu=>(hW.cell (QbV (hcell j u hu))).trans (hcell j u hu)
  have H1:=Lib.hid hcell'
  have H2:=Lib.hid hone
  have H3:=Lib.hid hlen
  clear hcell hcell' hs hone hlen
  go_enter Tryz.func179,Tryz.ntmps179
  go_wp2_with (at_builtin;refine QbI _ rfl (.tmp 5) (.tmp 6) _ rfl w.heap.size 63 i0 _ 4 56 Tryz.underlying23 hi0 hz0 hz1 hz2 rfl Ya _ 0 [] rfl ho a l c xs rfl H3.out H1.out H2.out Yk Ya Yd ?next)
  case next=>
   intro v' w' hov hg hat
   have hb:Below w.heap.size w w':=by
    refine hW.grown hg Yd fun k hk=> ?_
    simp [Value.ownBlock] at hk;omega
   go_wp2_with fail
   go_ret
   exact ⟨_,rfl,by simpa using hov,hb⟩
structure Lev where
 b:Nat
 o:Nat
 T:Ts
def push (T:Ts) (b o:Nat) (L:List Lev):List Lev:=if T.length=0 then L else ⟨b,o,T⟩::L
def QV (L:List Lev):Nat:=(L.map fun l=>l.T.nodes).sum
theorem Qac (T:Ts) (b o:Nat) (L:List Lev):QV (push T b o L)=T.nodes+QV L:=by
 unfold push
 split
 ·rename_i h;rw [Ts.nil_of_length h];simp [Ts.nodes]
 ·simp [QV]
def PV:List Lev→List Value→Prop
 |[],xs=>xs=[]
 |l::r,xs=>∃ys cap,xs=ys++[.slice (some ⟨l.b,l.o,none⟩) l.T.length cap]∧l.T.length≤cap∧0<l.T.length∧PV r ys
theorem PV.length:∀{L:List Lev} {xs:List Value},PV L xs→xs.length=L.length
 |[],xs,h=>by rw [show xs=[] from h];rfl
 |l::r,xs,⟨ys,cap,e,_,_,h⟩=>by rw [e];simp [h.length]
theorem PV.le:∀{L:List Lev} {xs:List Value},PV L xs→L.length≤QV L
 |[],xs,h=>by simp [QV]
 |l::r,xs,⟨ys,cap,e,_,h0,h⟩=>by
  have:=h.le
  have:=l.T.length_le
  simp only [List.length_cons,QV,List.map_cons,List.sum_cons] at*
  omega
theorem Qq8 {w:World} {B pb:Nat} {pv:Value} {xs:List Value} {b o:Nat} {k n:Int} {s:ByteArray} {ar r:Ts} {L:List Lev} (hp:QaL w B pb pv xs) (hv:PV (⟨b,o,.cons k n s ar r⟩::L) xs) (hn:QV (⟨b,o,.cons k n s ar r⟩::L)≤1073741824):
  Calls Tryz.prog 134 #[.pointer (some ⟨pb,0,none⟩)] w fun e w'=>e= .returned (.pointer (some ⟨b,o,none⟩))∧
   ∃pv' xs',QaL w' B pb pv' xs'∧PV (push r b (o+4) L) xs'∧pv'.ownBlock=pv.ownBlock∧Chg (fun k=>k=pb∨pv.ownBlock=some k) w w':=by
 have hle:=hv.le
 obtain ⟨ys,cap,rfl,hcap,_,hys⟩:=hv
 have hyl:=hys.length
 have hrl:=r.length_le
 simp only [List.length_cons,QV,List.map_cons,List.sum_cons,Ts.nodes] at hle hn
 simp only [Ts.length] at hp hcap
 cases hr:r.length with
 |zero=>
  rw [hr] at hp
  refine (QuA hp Ya).mono ?_
  rintro e w' ⟨he,pv',h1,h2,h3⟩
  exact ⟨he,pv',ys,h1,by simpa [push,hr] using hys,h2,h3⟩
 |succ l=>
  rw [hr] at hp hcap
  refine (Quz hp Ya Ya hcap).mono ?_
  rintro e w' ⟨he,pv',h1,h2,h3⟩
  refine ⟨he,pv',_,h1,?_,h2,h3⟩
  have e:push r b (o+4) L=⟨b,o+4,r⟩::L:=by simp [push,hr]
  rw [e]
  exact ⟨ys,cap-1,by rw [hr],by show r.length≤_;omega,by show 0<r.length;omega,hys⟩
theorem Qqi {w:World} {B pb:Nat} {pv:Value} {xs:List Value} {A:Option Addr} {c:Nat} {T:Ts} {b o:Nat} {L:List Lev} (hp:QaL w B pb pv xs) (hv:PV L xs) (hB:B≤w.heap.size) (hn:QV L≤1073741824) (hc:T.length≤c) (hA:0<T.length→A=some ⟨b,o,none⟩):
  Calls Tryz.prog 136 #[.pointer (some ⟨pb,0,none⟩),.slice A T.length c] w fun e w'=>e= .returned (.tuple #[])∧
   ∃pv' xs',QaL w' B pb pv' xs'∧PV (push T b o L) xs'∧(pv'.ownBlock=pv.ownBlock∨∃g,pv'.ownBlock=some g∧w.heap.size≤g)∧Chg (fun k=>k=pb∨pv.ownBlock=some k) w w':=by
 have hle:=hv.le
 have hyl:=hv.length
 cases hl:T.length with
 |zero=>
  refine (Qxn _ _ _).mono ?_
  rintro e w' ⟨he,rfl⟩
  exact ⟨he,pv,xs,hp,by simpa [push,hl] using hv,.inl rfl,Chg.refl _ _⟩
 |succ l=>
  refine (Qxm hp hB Ya).mono ?_
  rintro e w' ⟨he,pv',h1,h2,h3⟩
  refine ⟨he,pv',_,h1,?_,h2,h3⟩
  have e:push T b o L=⟨b,o,T⟩::L:=by simp [push,hl]
  rw [e]
  refine ⟨xs,c,?_,hc,by show 0<T.length;omega,hv⟩
  rw [hA Ya,hl]
def QaH (vars k n:Int) (s:ByteArray) (l:Nat):Bool:=
 if k=0 then decide (0≤n)&&decide (n<vars)&&decide (s.toList=[])&&decide (l=0)
 else if k=1 then decide (n=0)&&QbO s&&decide (l=0)
 else if k=2 then decide (-1099511627776≤n)&&decide (n≤1099511627776)&&decide (s.toList=[])&&decide (l=0)
 else if k=3 then decide (n=0)&&QbO s&&decide (¬s.toList=[33])&&decide (1≤l)&&decide (l≤4)
 else false
theorem Qct {a b:Bool} (h:a=b):Ending.returned (.bool a)= .returned (.bool b):=by rw [h]
set_option maxHeartbeats 1000000 in
theorem Qow (vars k n:Int) (s:ByteArray) (A:Option Addr) (l c:Nat) (w:World):
  Calls Tryz.prog 135 #[.agg #[.int .i64 k,.int .i64 n,.string s,.slice A l c],.int .i64 vars] w fun e w'=>e= .returned (.bool (QaH vars k n s l))∧Below w.heap.size w w':=by
 by_cases h0:k=0
 ·subst h0
  have R:=Lib.hid (show QaH vars 0 n s l=(decide (0≤n)&&decide (n<vars)&&decide (s.toList=[])&&decide (l=0)) by simp [QaH])
  go_enter Tryz.func135,Tryz.ntmps135
  go_wp2_with fail
  all_goals go_ret
  all_goals refine ⟨?_,(Below.refl _ _).alloc (Nat.le_refl _) _⟩
  all_goals rw [R.out]
  all_goals refine Qct ?_
  all_goals rw [Bool.eq_iff_iff]
  all_goals simp [*]
  all_goals try omega
 have g0:(k==0)=false:=by simpa using h0
 by_cases h1:k=1
 ·subst h1
  have R:=Lib.hid (show QaH vars 1 n s l=(decide (n=0)&&QbO s&&decide (l=0)) by simp [QaH])
  clear h0 g0
  cases hb:QbO s
  all_goals
   have HB:=Lib.hid hb
   clear hb
   go_enter Tryz.func135,Tryz.ntmps135
   go_wp2_with (go_at_call 184;refine (Qn7 _ _).mono ?_;rintro e w' ⟨rfl,rfl⟩;rw [HB.out])
   all_goals go_ret
   all_goals refine ⟨?_,(Below.refl _ _).alloc (Nat.le_refl _) _⟩
   all_goals rw [R.out,HB.out]
   all_goals refine Qct ?_
   all_goals rw [Bool.eq_iff_iff]
   all_goals simp [*]
   all_goals try omega
 have g1:(k==1)=false:=by simpa using h1
 by_cases h2:k=2
 ·subst h2
  have R:=Lib.hid (show QaH vars 2 n s l=(decide (-1099511627776≤n)&&decide (n≤1099511627776)&&decide (s.toList=[])&&decide (l=0)) by simp [QaH])
  clear h0 g0 h1 g1
  go_enter Tryz.func135,Tryz.ntmps135
  go_wp2_with fail
  all_goals go_ret
  all_goals refine ⟨?_,(Below.refl _ _).alloc (Nat.le_refl _) _⟩
  all_goals rw [R.out]
  all_goals refine Qct ?_
  all_goals rw [Bool.eq_iff_iff]
  all_goals simp [*]
  all_goals try omega
 have g2:(k==2)=false:=by simpa using h2
 by_cases h3:k=3
 ·subst h3
  clear h0 g0 h1 g1 h2 g2
  by_cases hn:n=0
  ·subst hn
   have R:=Lib.hid (show QaH vars 3 0 s l=(QbO s&&decide (¬s.toList=[33])&&decide (1≤l)&&decide (l≤4)) by simp [QaH])
   cases hb:QbO s
   all_goals
    have HB:=Lib.hid hb
    clear hb
    go_enter Tryz.func135,Tryz.ntmps135
    go_wp2_with (go_at_call 184;refine (Qn7 _ _).mono ?_;rintro e w' ⟨rfl,rfl⟩;rw [HB.out])
    all_goals go_ret
    all_goals refine ⟨?_,(Below.refl _ _).alloc (Nat.le_refl _) _⟩
    all_goals rw [R.out,HB.out]
    all_goals refine Qct ?_
    all_goals rw [Bool.eq_iff_iff]
    all_goals simp [*]
    all_goals try omega
  ·have hn':(n==0)=false:=by simpa using hn
   have R:=Lib.hid (show QaH vars 3 n s l=false by simp [QaH,hn])
   clear hn
   go_enter Tryz.func135,Tryz.ntmps135
   go_wp2_with fail
   go_ret
   exact ⟨by rw [R.out];rfl,(Below.refl _ _).alloc (Nat.le_refl _) _⟩
 have g3:(k==3)=false:=by simpa using h3
 have R:=Lib.hid (show QaH vars k n s l=false by simp [QaH,h0,h1,h2,h3])
 clear h0 h1 h2 h3
 go_enter Tryz.func135,Tryz.ntmps135
 go_wp2_with fail
 go_ret
 exact ⟨by rw [R.out];rfl,(Below.refl _ _).alloc (Nat.le_refl _) _⟩
def QpH (w:World) (G:List Nat) (k:Nat):Prop:=k<w.heap.size∨k∈G
structure V1 (w:World) (G:List Nat) (pb:Nat) (L:List Lev) (pv:Value) (xs:List Value) (wr:World):Prop where
 path:QaL wr w.heap.size pb pv xs
 pbl:w.heap.size≤pb
 pvs:PV L xs
 lev:∀l∈L,Seg wr (QpH w G) l.T l.b l.o
 rows:∀g∈G,∃c,QR wr g 63 c
 chg:Below w.heap.size w wr
section
variable {w wr w':World} {G:List Nat} {pb:Nat} {L:List Lev} {pv:Value} {xs:List Value}
theorem V1.keep (h:V1 w G pb L pv xs wr) (hc:Chg (fun k=>k=pb∨pv.ownBlock=some k) wr w'):∀k,QpH w G k→k<wr.heap.size→w'.heap[k]?=wr.heap[k]?:=by
 intro k hk hl
 refine hc.block k hl fun hS=> ?_
 rcases hk with hk|hk
 ·rcases hS with e|e
  ·have:=h.pbl;omega
  ·have:=(h.path.own.lt _ e).1;omega
 ·obtain ⟨c,hb⟩:=h.rows k hk
  obtain ⟨h1,h2⟩:=h.path.other hb
  exact hS.elim h1 h2
theorem V1.chg' (h:V1 w G pb L pv xs wr) (hc:Chg (fun k=>k=pb∨pv.ownBlock=some k) wr w'):Below w.heap.size w w'∧(∀g∈G,∃c,QR w' g 63 c):=by
 refine ⟨h.chg.trans (hc.below h.chg.size fun k hk _=> ?_),fun g hg=> ?_⟩
 ·rcases hk with e|e
  ·have:=h.pbl;omega
  ·exact (h.path.own.lt _ e).1
 ·obtain ⟨c,hb⟩:=h.rows g hg
  exact ⟨c,h.path.keep hc hb⟩
theorem V1.aside (h:V1 w G pb L pv xs wr) (hb:Below wr.heap.size wr w'):V1 w G pb L pv xs w' where
 path:=h.path.chg (Chg.of_fresh (S:=fun _=>False) hb) (fun h=>h) fun _ _ h=>h
 pbl:=h.pbl
 pvs:=h.pvs
 lev:=fun l hl=>(h.lev l hl).below hb
 rows:=fun g hg=>by
  obtain ⟨c,h1⟩:=h.rows g hg
  exact ⟨c,h1.below hb⟩
 chg:=h.chg.trans (hb.mono h.chg.size)
theorem Qrg {T:Ts} {b o:Nat} {p:Nat→Prop} (hT:0<T.length→Seg wr p T b o) (hL:∀l∈L,Seg wr p l.T l.b l.o):∀l∈push T b o L,Seg wr p l.T l.b l.o:=by
 intro l hl
 unfold push at hl
 split at hl
 ·exact hL l hl
 ·rcases List.mem_cons.1 hl with rfl|hl
  ·exact hT Ya
  ·exact hL l hl
theorem V1.next {b o:Nat} {k n:Int} {s:ByteArray} {ar r:Ts} (h:V1 w G pb (⟨b,o,.cons k n s ar r⟩::L) pv xs wr) (hn:QV (⟨b,o,.cons k n s ar r⟩::L)≤1048576):
  Calls Tryz.prog 134 #[.pointer (some ⟨pb,0,none⟩)] wr fun e w'=>e= .returned (.pointer (some ⟨b,o,none⟩))∧
   ∃pv' xs',V1 w G pb (push r b (o+4) L) pv' xs' w'∧Seg w' (QpH w G) (.cons k n s ar r) b o∧pv'.ownBlock=pv.ownBlock∧Chg (fun k=>k=pb∨pv.ownBlock=some k) wr w':=by
 refine (Qq8 h.path h.pvs (Nat.le_trans hn Ya)).mono ?_
 rintro e w' ⟨he,pv',xs',h1,h2,h3,h4⟩
 have hk:=h.keep h4
 have hs:Seg w' (QpH w G) (.cons k n s ar r) b o:=(h.lev _ (List.mem_cons_self ..)).keep hk
 obtain ⟨h5,h6⟩:=h.chg' h4
 refine ⟨he,pv',xs',⟨h1,h.pbl,h2,?_,h6,h5⟩,hs,h3,h4⟩
 exact Qrg (fun _=>(Q6.1 hs).2.2.2.2.2) fun l hl=>(h.lev l (List.mem_cons_of_mem _ hl)).keep hk
theorem V1.add {T:Ts} {A:Option Addr} {c:Nat} (h:V1 w G pb L pv xs wr) (hv:Sl wr (QpH w G) (.slice A T.length c) T) (hn:QV L≤1048576):
  Calls Tryz.prog 136 #[.pointer (some ⟨pb,0,none⟩),.slice A T.length c] wr fun e w'=>e= .returned (.tuple #[])∧
   ∃pv' xs' b o,V1 w G pb (push T b o L) pv' xs' w'∧(pv'.ownBlock=pv.ownBlock∨∃g,pv'.ownBlock=some g∧wr.heap.size≤g)∧Chg (fun k=>k=pb∨pv.ownBlock=some k) wr w':=by
 obtain ⟨A',c',e,hc,hs⟩:=hv
 simp only [Value.slice.injEq,true_and] at e
 obtain ⟨rfl,rfl⟩:=e
 obtain ⟨b,o,hA⟩:∃b o,0<T.length→A=some ⟨b,o,none⟩∧Seg wr (QpH w G) T b o:=by
  rcases Nat.eq_zero_or_pos T.length with h|h
  ·exact ⟨0,0,fun h'=>absurd h' Ya⟩
  ·obtain ⟨b,o,h1,h2⟩:=hs h
   exact ⟨b,o,fun _=>⟨h1,h2⟩⟩
 refine (Qqi (b:=b) (o:=o) h.path h.pvs h.chg.size (Nat.le_trans hn Ya) hc fun h=>(hA h).1).mono ?_
 rintro e w' ⟨he,pv',xs',h1,h2,h3,h4⟩
 have hk:=h.keep h4
 obtain ⟨h5,h6⟩:=h.chg' h4
 refine ⟨he,pv',xs',b,o,⟨h1,h.pbl,h2,?_,h6,h5⟩,h3,h4⟩
 exact Qrg (fun hp=>(hA hp).2.keep hk) fun l hl=>(h.lev l hl).keep hk
end
theorem V1.start {w W:World} {G:List Nat} {ga gp pb:Nat} {k n:Int} {s:ByteArray} {A:Option Addr} {c:Nat} {ar:Ts} (hv:Sl w (fun _=>True) (.slice A ar.length c) ar) (hW:Below w.heap.size w W)
  (h1:QR W ga 63 #[.int .i64 k,.int .i64 n,.string s,.slice A ar.length c]) (h2:QR W gp 23 #[.slice (some ⟨ga,0,none⟩) 1 1]) (h3:QR W pb 182 #[.slice (some ⟨gp,0,none⟩) 1 1])
  (hG:ga∈G) (hr:∀g∈G,∃c,QR W g 63 c) (hgp:w.heap.size≤gp) (hpb:w.heap.size≤pb):
  V1 w G pb [⟨ga,0,.cons k n s ar .nil⟩] (.slice (some ⟨gp,0,none⟩) 1 1) [.slice (some ⟨ga,0,none⟩) 1 1] W:=by
 refine ⟨⟨h3,⟨rfl,.inr ⟨gp,1,_,rfl,hgp,h2,Nat.le_refl _,by simp [maxLen],rfl,rfl⟩⟩,?_⟩,hpb,⟨[],1,rfl,Nat.le_refl _,Nat.zero_lt_one,rfl⟩,?_,hr,hW⟩
 ·simp only [Value.ownBlock,ne_eq,Option.some.injEq]
  exact h2.ne_ h3 Yf
 ·intro l hl
  have e:l=⟨ga,0,.cons k n s ar .nil⟩:=by simpa using hl
  subst e
  refine Q6.2 ⟨.inr hG,h1.cell 0,h1.cell 1,h1.cell 2,⟨_,h1.cell 3,?_⟩,trivial⟩
  exact (hv.imp (q:=QpH w G) fun k _ h=> .inl h).below hW
def Ts.good (vars:Int):Ts→Bool
 | .nil=>true
 | .cons k n s ar r=>QaH vars k n s ar.length&&ar.good vars&&r.good vars
def Qig (vars:Int) (L:List Lev):Bool:=L.all fun l=>l.T.good vars
theorem QlL (vars:Int) (T:Ts) (b o:Nat) (L:List Lev):Qig vars (push T b o L)=(T.good vars&&Qig vars L):=by
 unfold push
 split
 ·rename_i h;rw [Ts.nil_of_length h];simp [Ts.good]
 ·simp [Qig]
def Qr0 (w:World) (G:List Nat) (pb:Nat) (T:Ts) (vars:Int) (g:Nat) (wr:World):Prop:=
 ∃L pv xs,V1 w G pb L pv xs wr∧g=QV L∧QV L≤T.nodes∧T.good vars=Qig vars L
set_option maxHeartbeats 400000 in
theorem Qif (k n vars:Int) (s:ByteArray) (ar:Ts) (v:Value) (w:World) (hv:Sl w (fun _=>True) v ar) (hn:ar.nodes<1048576):
  Calls Tryz.prog 86 #[.agg #[.int .i64 k,.int .i64 n,.string s,v],.int .i64 vars] w fun e w'=>e= .returned (.bool ((Ts.cons k n s ar .nil).good vars))∧Below w.heap.size w w':=by
 obtain ⟨A,c,rfl,hs⟩:=hv.form
 go_enter Tryz.func86,Tryz.ntmps86
 go_wp2_with (go_at_call 133;refine (QpK _ _ _ _ _ _ _).mono ?_;rintro e w1 ⟨rfl,rfl⟩)
 have hW:Below w.heap.size w (((((w.alloc (.cells #[.int .i64 k,.int .i64 n,.string s,.slice A ar.length c] 63)).alloc (.cells #[.int .i64 k,.int .i64 n,.string s,.slice A ar.length c] 63)).alloc (.cells #[.int .i64 k,.int .i64 n,.string s,.slice A ar.length c] 63)).alloc (.cells #[.slice (some ⟨w.heap.size+1+1,0,none⟩) 1 1] 23)).alloc (.cells #[.slice (some ⟨w.heap.size+1+1+1,0,none⟩) 1 1] 182)):=(((((Below.refl _ _).alloc (Nat.le_refl _) _).alloc Yd _).alloc Yg _).alloc Yg _).alloc Yg _
 have hv0:V1 w [w.heap.size+1+1] (w.heap.size+1+1+1+1) [⟨w.heap.size+1+1,0,.cons k n s ar .nil⟩] (.slice (some ⟨w.heap.size+1+1+1,0,none⟩) 1 1) [.slice (some ⟨w.heap.size+1+1,0,none⟩) 1 1] (((((w.alloc (.cells #[.int .i64 k,.int .i64 n,.string s,.slice A ar.length c] 63)).alloc (.cells #[.int .i64 k,.int .i64 n,.string s,.slice A ar.length c] 63)).alloc (.cells #[.int .i64 k,.int .i64 n,.string s,.slice A ar.length c] 63)).alloc (.cells #[.slice (some ⟨w.heap.size+1+1,0,none⟩) 1 1] 23)).alloc (.cells #[.slice (some ⟨w.heap.size+1+1+1,0,none⟩) 1 1] 182)):=by
  have b1:=((QR.new ((w.alloc (.cells #[.int .i64 k,.int .i64 n,.string s,.slice A ar.length c] 63)).alloc (.cells #[.int .i64 k,.int .i64 n,.string s,.slice A ar.length c] 63)) 63 #[.int .i64 k,.int .i64 n,.string s,.slice A ar.length c]).alloc (.cells #[.slice (some ⟨w.heap.size+1+1,0,none⟩) 1 1] 23)).alloc (.cells #[.slice (some ⟨w.heap.size+1+1+1,0,none⟩) 1 1] 182)
  have b2:=((QR.new (((w.alloc (.cells #[.int .i64 k,.int .i64 n,.string s,.slice A ar.length c] 63)).alloc (.cells #[.int .i64 k,.int .i64 n,.string s,.slice A ar.length c] 63)).alloc (.cells #[.int .i64 k,.int .i64 n,.string s,.slice A ar.length c] 63)) 23 #[.slice (some ⟨w.heap.size+1+1,0,none⟩) 1 1])).alloc (.cells #[.slice (some ⟨w.heap.size+1+1+1,0,none⟩) 1 1] 182)
  have b3:=QR.new ((((w.alloc (.cells #[.int .i64 k,.int .i64 n,.string s,.slice A ar.length c] 63)).alloc (.cells #[.int .i64 k,.int .i64 n,.string s,.slice A ar.length c] 63)).alloc (.cells #[.int .i64 k,.int .i64 n,.string s,.slice A ar.length c] 63)).alloc (.cells #[.slice (some ⟨w.heap.size+1+1,0,none⟩) 1 1] 23)) 182 #[.slice (some ⟨w.heap.size+1+1+1,0,none⟩) 1 1]
  simp only [World.size_alloc] at b1 b2 b3
  exact V1.start hs hW b1 b2 b3 Yd (fun g hg=>by
   have e:g=w.heap.size+1+1:=by simpa using hg
   subst e;exact ⟨_,b1⟩) Ya Ya
 have h0:Qr0 w [w.heap.size+1+1] (w.heap.size+1+1+1+1) (.cons k n s ar .nil) vars (ar.nodes+1) (((((w.alloc (.cells #[.int .i64 k,.int .i64 n,.string s,.slice A ar.length c] 63)).alloc (.cells #[.int .i64 k,.int .i64 n,.string s,.slice A ar.length c] 63)).alloc (.cells #[.int .i64 k,.int .i64 n,.string s,.slice A ar.length c] 63)).alloc (.cells #[.slice (some ⟨w.heap.size+1+1,0,none⟩) 1 1] 23)).alloc (.cells #[.slice (some ⟨w.heap.size+1+1+1,0,none⟩) 1 1] 182)):=
  ⟨_,_,_,hv0,by simp [QV,Ts.nodes],by simp [QV],by simp [Qig]⟩
 clear hv0
 go_loopg [] (ar.nodes+1) (Qr0 w [w.heap.size+1+1] (w.heap.size+1+1+1+1) (.cons k n s ar .nil) vars)
 case atStart=>exact h0
 case round =>
  clear h0
  obtain ⟨L,pv,xs,hrel,hg,hsm,hgd⟩:=hrel
  have HG:=Lib.hid hg
  have HD:=Lib.hid hgd
  have hpx:=hrel.pvs.length
  simp only [Ts.nodes] at hsm
  obtain ⟨Ap,cp,hpv⟩:=Qfu hrel.path.own
  subst hpv
  have cpb:wr.cell? ⟨w.heap.size+1+1+1+1,0,none⟩=some (.slice Ap xs.length cp):=hrel.path.var.cell 0
  clear hg hgd
  cases L with
  |nil=>
   have hx:xs=[]:=hrel.pvs
   subst hx
   have hb:=hrel.chg
   clear hrel hpx
   go_wp2_with fail
   go_ret
   exact ⟨by rw [HD.out];rfl,hb⟩
  |cons l Ls=>
   obtain ⟨b,o,T1⟩:=l
   cases T1 with
   |nil=>obtain ⟨_,_,_,_,h,_⟩:=hrel.pvs;simp [Ts.length] at h
   |cons k1 n1 s1 a1 r1=>
   have hxl:0<xs.length:=by rw [hpx];simp
   have hn4:QV (⟨b,o,.cons k1 n1 s1 a1 r1⟩::Ls)≤1048576:=by omega
   have hn5:QV (push r1 b (o+4) Ls)≤1048576:=by
    rw [Qac]
    simp only [QV,List.map_cons,List.sum_cons,Ts.nodes] at hn4⊢
    omega
   go_wp2_with fail
   refine (hrel.next hn4).mono ?_
   rintro e w2 ⟨rfl,pv2,xs2,h2,hseg,_,_⟩
   obtain ⟨_,c0,c1,c2,⟨v1,c3,hv1⟩,_⟩:=Q6.1 hseg
   obtain ⟨A1,d1,rfl,hv1⟩:=hv1.form
   go_wp2_with fail
   refine (Qow vars k1 n1 s1 A1 a1.length d1 _).mono ?_
   rintro e w3 ⟨rfl,hb3⟩
   have h3:=h2.aside hb3
   have e3:w3.cell? ⟨b,o+3,none⟩=some (.slice A1 a1.length d1):=(hb3.cell (QbV c3)).trans c3
   have hv3:=hv1.below hb3
   cases hnode:QaH vars k1 n1 s1 a1.length with
   |false=>
    have hres:Hid ((Ts.cons k n s ar .nil).good vars=false):=Lib.hid (by rw [HD.out];simp [Qig,Ts.good,hnode])
    clear hnode
    go_wp2_with fail
    go_ret
    exact ⟨by rw [hres.out];rfl,h3.chg⟩
   |true=>
    have hres:Hid ((Ts.cons k n s ar .nil).good vars=(a1.good vars&&(r1.good vars&&Qig vars Ls))):=Lib.hid (by rw [HD.out];simp [Qig,Ts.good,hnode,Bool.and_assoc])
    clear hnode
    go_wp2_with fail
    refine (h3.add hv3 hn5).mono ?_
    rintro e w4 ⟨rfl,pv4,xs4,b4,o4,h4,_,_⟩
    go_wp2_with fail
    go_roundg (QV (push a1 b4 o4 (push r1 b (o+4) Ls)))
    case measure=>
     rw [HG.out,Qac,Qac]
     simp only [QV,List.map_cons,List.sum_cons,Ts.nodes]
     omega
    case rel=>
     refine ⟨_,_,_,h4,rfl,?_,?_⟩
     ·rw [Qac,Qac]
      simp only [QV,List.map_cons,List.sum_cons,Ts.nodes] at hsm⊢
      omega
     ·rw [hres.out,QlL,QlL]
def QfI (vars : Int) (ar : Ts) : Prop := ∀ (k n : Int) (s : ByteArray) (v : Value) (w : World), Sl w (fun _ => True) v ar → ar.nodes ≤ 1048576 →
    Calls Tryz.prog 156 #[.agg #[.int .i64 k,.int .i64 n,.string s,v],.int .i64 vars] w fun e w'=>e= .returned (.bool ((Ts.cons k n s ar .nil).good vars))∧Below w.heap.size w w'
def QzI (W:World) (T:Ts) (vars:Int) (g:Nat) (s11:Value) (wr:World):Prop:=∃D R:Ts,T=D.app R∧D.good vars=true∧Below W.heap.size W wr∧g=R.length∧s11= .int .i64 D.length
theorem Ts.good_app (v:Int) (D R:Ts):(D.app R).good v=(D.good v&&R.good v):=by
 induction D with
 |nil=>rfl
 |cons k n b ar r _ ih=>simp only [Ts.app,Ts.good,ih,Bool.and_assoc]
theorem Ts.good_one (v k n:Int) (s:ByteArray) (T:Ts):(Ts.cons k n s T .nil).good v=(QaH v k n s T.length&&T.good v):=by simp [Ts.good]
set_option maxHeartbeats 1000000 in
theorem Qu5 (vars:Int) (m:Nat) (ih:∀T:Ts,T.nodes<m→QfI vars T) (T:Ts) (hm:T.nodes≤m):QfI vars T:=by
 intro k n s v w hv hn
 obtain ⟨A,c,rfl,hs⟩:=hv.form
 have hle:=T.length_le
 have hl:T.length≤1048576:=by omega
 rw [Ts.good_one]
 generalize hres:(QaH vars k n s T.length&&T.good vars)=res
 have HR:=Lib.hid hres
 clear hres
 have HN:=Lib.hid hn
 have HM:=Lib.hid hm
 clear hn hm
 go_enter Tryz.func156,Tryz.ntmps156
 go_wp2_with fail
 have hW0:Below w.heap.size w (w.alloc (.cells #[.int .i64 k,.int .i64 n,.string s,.slice A T.length c] 63)):=(Below.refl _ _).alloc (Nat.le_refl _) _
 have bA:=QR.new w 63 #[.int .i64 k,.int .i64 n,.string s,.slice A T.length c]
 generalize w.alloc (.cells #[.int .i64 k,.int .i64 n,.string s,.slice A T.length c] 63)=W at*
 have hs1:=hs.below hW0
 have h0:QzI W T vars T.length (.int .i64 0) W:=⟨.nil,T,rfl,rfl,Below.refl _ _,rfl,rfl⟩
 go_loopg [11] T.length (QzI W T vars)
 case atStart=>exact h0
 case round=>
  clear h0
  obtain ⟨D,R,hT,hD,hb,hg,rfl⟩:=hrel
  have HG:=Lib.hid hg
  clear hg
  cases R with
  |nil=>
   have eD:D=T:=by rw [hT,Ts.app_nil]
   subst eD
   have HD:=Lib.hid hD
   clear hD hT
   have bA:=bA.below hb
   obtain ⟨p0,p1,p2,p3,_⟩:=bA.four
   have hB:Below w.heap.size w wr:=hW0.trans (hb.mono hW0.size)
   clear hb hW0 bA hs1 hs hv hle
   have HE:=Lib.hid (show QaH vars k n s D.length=res by rw [←HR.out,HD.out,Bool.and_true])
   clear HR HD
   generalize D.length=l at*
   by_cases h0:k=0
   ·subst h0
    have R:=Lib.hid (show res=(decide (0≤n)&&decide (n<vars)&&decide (s.toList=[])&&decide (l=0)) by rw [←HE.out];simp [QaH])
    go_wp2_with fail
    all_goals go_ret
    all_goals refine ⟨?_,hB⟩
    all_goals rw [R.out]
    all_goals refine Qct ?_
    all_goals rw [Bool.eq_iff_iff]
    all_goals simp [*]
    all_goals try omega
   have g0:(k==0)=false:=by simpa using h0
   by_cases h1:k=1
   ·subst h1
    have R:=Lib.hid (show res=(decide (n=0)&&QbO s&&decide (l=0)) by rw [←HE.out];simp [QaH])
    clear h0 g0
    cases hb:QbO s
    all_goals
     have HB:=Lib.hid hb
     clear hb
     go_wp2_with (go_at_call 197;refine (QlH _ _).mono ?_;rintro e w' ⟨rfl,hB2⟩;rw [HB.out];have hB:=hB.trans (hB2.mono hB.size))
     all_goals go_ret
     all_goals refine ⟨?_,hB⟩
     all_goals rw [R.out,HB.out]
     all_goals refine Qct ?_
     all_goals rw [Bool.eq_iff_iff]
     all_goals simp [*]
     all_goals try omega
   have g1:(k==1)=false:=by simpa using h1
   by_cases h2:k=2
   ·subst h2
    have R:=Lib.hid (show res=(decide (-1099511627776≤n)&&decide (n≤1099511627776)&&decide (s.toList=[])&&decide (l=0)) by rw [←HE.out];simp [QaH])
    clear h0 g0 h1 g1
    go_wp2_with fail
    all_goals go_ret
    all_goals refine ⟨?_,hB⟩
    all_goals rw [R.out]
    all_goals refine Qct ?_
    all_goals rw [Bool.eq_iff_iff]
    all_goals simp [*]
    all_goals try omega
   have g2:(k==2)=false:=by simpa using h2
   by_cases h3:k=3
   ·subst h3
    clear h0 g0 h1 g1 h2 g2
    have R:=Lib.hid (show res=(decide (n=0)&&QbO s&&decide (¬s.toList=[33])&&decide (1≤l)&&decide (l≤4)) by rw [←HE.out];simp [QaH])
    cases hb:QbO s
    all_goals
     have HB:=Lib.hid hb
     clear hb
     go_wp2_with (go_at_call 197;refine (QlH _ _).mono ?_;rintro e w' ⟨rfl,hB2⟩;rw [HB.out];have hB:=hB.trans (hB2.mono hB.size))
     all_goals go_ret
     all_goals refine ⟨?_,hB⟩
     all_goals rw [R.out,HB.out]
     all_goals refine Qct ?_
     all_goals rw [Bool.eq_iff_iff]
     all_goals simp [*]
     all_goals try omega
   have g3:(k==3)=false:=by simpa using h3
   have R:=Lib.hid (show res=false by rw [←HE.out];simp [QaH,h0,h1,h2,h3])
   clear h0 h1 h2 h3
   go_wp2_with fail
   go_ret
   exact ⟨by rw [R.out];rfl,hB⟩
  |cons k1 n1 s1 ar r=>
   have e1:D.length<T.length:=by rw [hT,Ts.length_app];simp [Ts.length]
   have e2:ar.nodes<m:=by have:=HM.out;rw [hT,Ts.nodes_app] at this;simp [Ts.nodes] at this;omega
   have e3:ar.nodes≤1048576:=by have:=HN.out;rw [hT,Ts.nodes_app] at this;simp [Ts.nodes] at this;omega
   have hsl:Sl wr (fun _=>True) (.slice A T.length c) (D.app (.cons k1 n1 s1 ar r)):=by
    rw [←hT]
    exact hs1.below hb
   obtain ⟨b1,o1,rfl,hq1⟩:=Sl.at_ hsl (by simp [Ts.length])
   obtain ⟨_,c10,c11,c12,⟨v1,c13,hv1⟩,_⟩:=Q6.1 hq1
   obtain ⟨A1,d1,rfl,hv1⟩:=hv1.form
   have HT:=Lib.hid hT
   have HD:=Lib.hid hD
   clear hq1 hsl hT hD
   have hgood:T.good vars=((Ts.cons k1 n1 s1 ar .nil).good vars&&r.good vars):=by
    rw [HT.out,Ts.good_app,HD.out];simp [Ts.good]
   have hnext:(Ts.cons k1 n1 s1 ar .nil).good vars=true→(D.app (.cons k1 n1 s1 ar .nil)).good vars=true:=fun h=>by rw [Ts.good_app,HD.out,h];rfl
   have HGD:=Lib.hid hgood
   have HNX:=Lib.hid hnext
   clear hgood hnext
   go_wp2_with fail
   refine (ih ar e2 k1 n1 s1 _ _ (hv1.below ((Below.refl _ _).alloc (Nat.le_refl _) _)) e3).mono ?_
   rintro e w2 ⟨rfl,hb2⟩
   have hb3:Below W.heap.size W w2:=(hb.trans (((Below.refl _ _).alloc (Nat.le_refl _) _).mono hb.size)).trans (hb2.mono (by have:=hb.size;simp;omega))
   cases hx:(Ts.cons k1 n1 s1 ar .nil).good vars with
   |false=>
    go_wp2_with fail
    go_ret
    refine ⟨?_,hW0.trans (hb3.mono hW0.size)⟩
    rw [←HR.out,HGD.out,hx];simp
   |true=>
    go_wp2_with fail
    go_roundg r.length
    case measure=>rw [HG.out];simp [Ts.length]
    case rel=>
     refine ⟨D.app (.cons k1 n1 s1 ar .nil),r,?_,HNX.out hx,hb3,rfl,?_⟩
     ·rw [HT.out,Ts.app_assoc];rfl
     ·rw [Ts.length_app];rfl
theorem QpW (vars:Int) (T:Ts):QfI vars T:=by
 have:∀m,∀T:Ts,T.nodes<m→QfI vars T:=by
  intro m
  induction m with
  |zero=>intro T h;omega
  |succ m ih=>intro T h;exact Qu5 vars m ih T Ya
 exact this _ T (Nat.lt_succ_self _)
theorem QdQ {B b:Nat} (hb:B≤b):∀(vs:List Value) (o:Nat) (w:World),Below B w (w.setCells b o vs)
 |[],_,w=>Below.refl _ w
 |v::r,o,w=>((Below.refl B w).setCell (p:=⟨b,o,none⟩) hb v).trans (QdQ hb r (o+1) _)
theorem Qs2 {W W':World} {size:Nat} {ao:Option Addr} {b off len cap:Nat} {olds:List Value} (h:Came W size ao b off len cap olds) (hb:Below W.heap.size W W'):Came W' size ao b off len cap olds:=by
 have hz:=hb.size
 rcases Nat.eq_zero_or_pos cap with h0|h0
 ·have hl:=h.le
  have e0:len=0:=by omega
  subst h0 e0
  have ho:olds=[]:=List.eq_nil_of_length_eq_zero (by simpa using h.oldsLen)
  subst ho
  exact ⟨Nat.le_refl _,fun h=>absurd h (Nat.lt_irrefl _),fun h=>absurd h (Nat.lt_irrefl _),by simp,fun j u hu=>by simp at hu,fun j hj=>by simp at hj⟩
 ·have hlt:=h.lt h0
  refine ⟨h.le,h.addr,fun _=>by omega,h.oldsLen,fun j u hu=> ?_,fun j hj=> ?_⟩
  ·rw [hb.cell (p:=⟨b,off+j,none⟩) hlt];exact h.olds j u hu
  ·rw [hb.cell (p:=⟨b,off+len*size+j,none⟩) hlt,hb.frozen (p:=⟨b,off+len*size+j,none⟩) hlt];exact h.spare j hj
theorem QjD {P:Program} {W:World} {e:TypeId} {size:Nat} {ao:Option Addr} {b off len cap:Nat} {olds:List Value} (hc:Came W size ao b off len cap olds)
  (t tx ty:TypeId) (i:TypeInfo) (z:Value) (bytes:Nat) (ht:P.underlying t=some (.slice e)) (hi:P.info? e=some i) (hz:i.zero=some z) (hsize:i.size=size) (hby:i.bytes=bytes) (hzs:z.cells.size=size)
  (x:Value) (n:Nat) (news:List Value) (hs:Src P size tx x n news W) (h63:len+n≤maxLen) (hbytes:(len+n)*bytes≤140737488355328) (B:Nat) (hB:0<cap→B≤b) (hBW:B≤W.heap.size):
  ∃ao' b' off' cap' w',(Builtin.append_ #[t,tx] ty #[.slice ao len cap,x]).run P W= .ok (.slice ao' (len+n) cap') w'∧Came w' size ao' b' off' (len+n) cap' (olds++news)∧(0<cap'→B≤b')∧Below B W w':=by
 subst hsize hby
 have hol:=hc.oldsLen
 have hnl:=hs.newsLen
 have hle:=hc.le
 have hlen:(olds++news).length=(len+n)*i.size:=by rw [List.length_append,hol,hnl,Nat.add_mul]
 have hsmall:len+n≤9223372036854775807:=by simp only [maxLen] at h63;omega
 by_cases hfit:len+n≤cap
 ·rcases Nat.eq_zero_or_pos cap with h0|hcap
  ·subst h0
   obtain rfl:n=0:=by omega
   obtain rfl:news=[]:=List.eq_nil_of_length_eq_zero (by simpa using hnl)
   exact ⟨ao,b,off,0,W,run_append_nothing (P:=P) W t tx ty e i ht hi ao len 0 hle x hs,by simpa using hc,fun h=>absurd h (Nat.lt_irrefl _),Below.refl _ _⟩
  ·have hao:=hc.addr hcap
   subst hao
   have hrc:(len+n)*i.size≤cap*i.size:=Nat.mul_le_mul_right _ hfit
   have hsp:∀j,j<news.length→j<(cap-len)*i.size:=fun j hj=>by rw [Nat.sub_mul];rw [Nat.add_mul] at hrc;omega
   have hrun:=run_append_room_src (P:=P) W t tx ty e i ht hi b off len cap x n news hs hfit (fun j hj=>(hc.spare j (hsp j hj)).1) (fun j hj=>(hc.spare j (hsp j hj)).2)
   refine ⟨_,b,off,cap,_,hrun,⟨hfit,fun _=>rfl,fun _=> ?_,hlen,fun j u hu=> ?_,fun j hj=> ?_⟩,hB,QdQ (hB hcap) _ _ _⟩
   ·have:=(QdQ (Nat.le_refl b) news (off+len*i.size) W).size;have:=hc.lt hcap;omega
   ·by_cases hj:j<olds.length
    ·rw [List.getElem?_append_left hj] at hu
     rw [World.cell?_setCells_out b news _ W ⟨b,off+j,none⟩ (fun _ _=> .inl Yg)]
     exact hc.olds j u hu
    ·rw [List.getElem?_append_right Ya] at hu
     obtain ⟨h1,h2⟩:=List.getElem?_eq_some_iff.1 hu
     have:=World.cell?_setCells_in b news (off+len*i.size) W (fun j hj=>(hc.spare j (hsp j hj)).1) (j-olds.length) h1
     rw [show off+len*i.size+(j-olds.length)=off+j by omega,h2] at this
     exact this
   ·have hjj:n*i.size+j<(cap-len)*i.size:=by
     rw [Nat.sub_mul] at hj⊢
     rw [Nat.add_mul] at hj hrc
     omega
    have h1:=hc.spare (n*i.size+j) hjj
    rw [Nat.add_mul]
    rw [World.cell?_setCells_out b news _ W _ (fun _ _=> .inr Yg),World.frozen?_setCells]
    rwa [show off+(len*i.size+n*i.size)+j=off+len*i.size+(n*i.size+j) by omega]
 ·have hold:(Builtin.firstCells i.size len (.slice ao len cap)).run P W.drew= .ok olds.toArray W.drew:=by
   rcases Nat.eq_zero_or_pos cap with h0|hcap
   ·have e0:len=0:=by omega
    subst h0 e0
    have ho:olds=[]:=List.eq_nil_of_length_eq_zero (by simpa using hol)
    subst ho
    cases ao with
    |none=>exact run_firstCells_none W.drew i.size 0 0 0
    |some a=>exact run_firstCells_some W.drew i.size 0 a 0 0 [] Yd (fun j v hv=>by simp at hv)
   ·have hao:=hc.addr hcap
    subst hao
    refine run_firstCells_some W.drew i.size len _ len cap olds hol fun j v hv=> ?_
    rw [Addr.add_lit]
    exact hc.olds j v hv
  have hrun:=run_append_grow_src (P:=P) W t tx ty e i z ht hi hz ao len cap olds hold x n news hs Ya Ya (growslice_fits Ya hbytes)
  have hge:=grownCap_ge W (len+n) cap e
  have hsz:((olds++news).toArray++Builtin.zeroCells z.cells (grownCap W (len+n) cap e-(len+n))).size=grownCap W (len+n) cap e*i.size:=by
   rw [Array.size_append,List.size_toArray,hlen,size_zeroCells,hzs,←Nat.add_mul]
   congr 1
   omega
  have hpl:=QR.new W.drew e ((olds++news).toArray++Builtin.zeroCells z.cells (grownCap W (len+n) cap e-(len+n)))
  refine ⟨_,W.heap.size,0,_,_,hrun,⟨hge,fun _=>rfl,fun _=>by simp,hlen,fun j u hu=> ?_,fun j hj=> ?_⟩,fun _=>hBW,((Below.refl _ _).drew).alloc hBW _⟩
  ·have h1:=hpl.cell (0+j)
   have h2:=(List.getElem?_eq_some_iff.1 hu).1
   rw [Nat.zero_add,Array.getElem?_append_left (by simpa using h2),List.getElem?_toArray,hu] at h1
   rw [Nat.zero_add]
   exact h1
  ·have h1:=hpl.cell (0+(len+n)*i.size+j)
   refine ⟨?_,hpl.frozen _⟩
   have hj2:0+(len+n)*i.size+j<grownCap W (len+n) cap e*i.size:=by
    rw [Nat.sub_mul] at hj
    omega
   rw [Array.getElem?_eq_getElem (by rw [hsz];exact hj2)] at h1
   exact Option.isSome_iff_exists.2 ⟨_,h1⟩
theorem Qgs {P:Program} {ops:Array Oper} {rest:List Oper} {o:Oper} {a:Act} {Q:Exit→Act→World→Prop} (W:World) (hgd:o.guard=none) (s x:Operand) (t tx:TypeId)
  (ho:o.op= .call { callee:= .builtin .append,args:= #[s,x],argTypes:= #[t,tx] }) {e:TypeId} {size:Nat} {ao:Option Addr} {b off len cap:Nat} {olds:List Value} (hc:Came W size ao b off len cap olds)
  (i:TypeInfo) (z:Value) (bytes:Nat) (ht:P.underlying t=some (.slice e)) (hi:P.info? e=some i) (hz:i.zero=some z) (hsize:i.size=size) (hby:i.bytes=bytes) (hzs:z.cells.size=size)
  (hv:a.eval s= .slice ao len cap) (xv:Value) (n:Nat) (news:List Value) (hx:a.eval x=xv) (hs:Src P size tx xv n news W) (h63:len+n≤maxLen) (hbytes:(len+n)*bytes≤140737488355328) (B:Nat) (hB:0<cap→B≤b) (hBW:B≤W.heap.size)
  (hK:∀ao' b' off' cap' w',Came w' size ao' b' off' (len+n) cap' (olds++news)→(0<cap'→B≤b')→Below B W w'→wpList P ops Q rest (a.put o.dst (.slice ao' (len+n) cap')) w'):wpList P ops Q (o::rest) a W:=by
 refine wpList_plain hgd fun K hK'=> ?_
 obtain ⟨ao',b',off',cap',w',hrun,h1,h2,h3⟩:=QjD (P:=P) hc t tx o.type i z bytes ht hi hz hsize hby hzs xv n news hs h63 hbytes B hB hBW
 unfold Oper.wp
 simp [execOp,ho,resolve,invoke,builtin,hv,hx,hrun,Result.andThen]
 exact hK' _ _ (hK _ _ _ _ _ h1 h2 h3)
theorem Sl.src {P:Program} {W:World} {p:Nat→Prop} {A:Option Addr} {c:Nat} {T:Ts} {tx e':TypeId} (hk:P.underlying tx=some (.slice e')) (h:Sl W p (.slice A T.length c) T):
  ∃news,Src P 4 tx (.slice A T.length c) T.length news W∧Cs W p T news:=by
 obtain ⟨A',c',e,hle,hs⟩:=h
 simp only [Value.slice.injEq,true_and] at e
 obtain ⟨rfl,rfl⟩:=e
 rcases Nat.eq_zero_or_pos T.length with h0|h0
 ·have e:=Ts.nil_of_length h0
  subst e
  refine ⟨[],?_,rfl⟩
  cases A with
  |none=>exact Src.ofNil W hk c
  |some a=>exact Src.ofSlice W hk a 0 c [] rfl (fun j u hu=>by simp at hu) (fun u hu=>by cases hu)
 ·obtain ⟨b,o,rfl,hq⟩:=hs h0
  obtain ⟨xs,h1,h2⟩:=hq.cells
  refine ⟨xs,Src.ofSlice W hk _ _ c xs h1.length (fun j u hu=> ?_) h1.one,h1⟩
  rw [Addr.add_lit]
  exact h2 j u hu
def QzB (w:World) (N:Nat) (g:Nat) (s3 s4:Value) (wr:World):Prop:=∃(Q:Ts) (ao:Option Addr) (b off cap:Nat) (olds:List Value) (c:Nat),s3= .int .i64 c∧c+Q.nodes=N∧g=Q.nodes∧
 s4= .slice ao Q.length cap∧Came wr 4 ao b off Q.length cap olds∧Cs wr (fun k=>k<w.heap.size) Q olds∧(0<cap→w.heap.size≤b)∧Below w.heap.size w wr
set_option maxRecDepth 100000 in
set_option maxHeartbeats 1000000 in
theorem QpJ (k n:Int) (s:ByteArray) (T:Ts) (v:Value) (w:World) (hv:Sl w (fun _=>True) v T) (hn:T.nodes<1048576):
  Calls Tryz.prog 157 #[.agg #[.int .i64 k,.int .i64 n,.string s,v]] w fun e w'=>e= .returned (.int .i64 (T.nodes+1:Nat))∧Below w.heap.size w w':=by
 obtain ⟨A,c,rfl,hs⟩:=hv.form
 obtain ⟨i0,hi0,hz0,hz1,hz2⟩:=info_parts QgS
 go_enter Tryz.func157,Tryz.ntmps157
 go_wp2_with fail
 have bA:=QR.new w 63 #[.int .i64 k,.int .i64 n,.string s,.slice A T.length c]
 have hW0:Below w.heap.size w (w.alloc (.cells #[.int .i64 k,.int .i64 n,.string s,.slice A T.length c] 63)):=(Below.refl _ _).alloc (Nat.le_refl _) _
 generalize (w.alloc (.cells #[.int .i64 k,.int .i64 n,.string s,.slice A T.length c] 63))=W0 at*
 refine Qc4 (fun ws=>QR ws w.heap.size 63 #[.int .i64 k,.int .i64 n,.string s,.slice A T.length c])
  3 [(0,true),(2,true),(1,false)] Yc Yc bA.drew ?_
 iterate 2
  refine QdV rfl rfl ⟨?_,fun w' hS=> ?_,fun _ _ _ h=>h,?_⟩
  rotate_left
  ·obtain ⟨p0,p1,p2,p3,_⟩:=hS.four
   clear hS
   go_simp
   exact rfl
 refine Qi1 rfl ?_
 go_wp2_with fail
 refine ⟨bA.drew.alloc _,?_⟩
 simp only [Qhk,List.drop_succ_cons,List.drop_zero]
 go_wp2_with fail
 have h0:QzB w (T.nodes+1) (T.nodes+1) (.int .i64 0) (.slice (some ⟨W0.heap.size,0,none⟩) 1 1) (W0.alloc (.cells #[.int .i64 k,.int .i64 n,.string s,.slice A T.length c] 63)).drew:=by
  have hz:=hW0.size
  have hb1:Below w.heap.size w (W0.alloc (.cells #[.int .i64 k,.int .i64 n,.string s,.slice A T.length c] 63)).drew:=(hW0.alloc hz _).drew
  have bB:=(QR.new W0 63 #[.int .i64 k,.int .i64 n,.string s,.slice A T.length c]).drew
  refine ⟨.cons k n s T .nil,_,W0.heap.size,0,1,[.int .i64 k,.int .i64 n,.string s,.slice A T.length c],0,rfl,by simp [Ts.nodes],by simp [Ts.nodes],rfl,?_,⟨_,[],rfl,?_,rfl⟩,fun _=>hz,hb1⟩
  ·refine ⟨Nat.le_refl _,fun _=>rfl,fun _=>bB.lt,rfl,fun j u hu=> ?_,fun j hj=>by simp [Ts.length] at hj⟩
   rw [Nat.zero_add,bB.cell j]
   simpa using hu
  ·exact (hs.imp (q:=fun k=>k<w.heap.size) fun k _ h=>h).below hb1
 have hN:T.nodes+1≤1048576:=hn
 generalize hNN:T.nodes+1=N at*
 have HNN:=Lib.hid hNN
 clear hNN
 generalize (W0.alloc (.cells #[.int .i64 k,.int .i64 n,.string s,.slice A T.length c] 63)).drew=W1 at*
 go_loopg [3,4] N (QzB w N)
 case atStart=>exact h0
 case round=>
  clear h0 bA hW0
  obtain ⟨Q,ao,b,off,cap,olds,cn,rfl,hcn,hg,rfl,hcm,hcs,hbb,hB⟩:=hrel
  have hQ:Q.nodes≤N:=by omega
  have hQl:=Q.length_le
  have HG:=Lib.hid hg
  clear hg
  cases Q with
  |nil=>
   go_wp2_with fail
   go_ret
   refine ⟨?_,hB⟩
   rw [HNN.out,←hcn];rfl
  |cons k1 n1 s1 ar r=>
   obtain ⟨u,xs,rfl,hu,hxs⟩:=hcs
   obtain ⟨Au,cu,rfl,hu⟩:=hu.form
   have hcp:0<cap:=by have:=hcm.le;simp [Ts.length] at this;omega
   have hao:=hcm.addr hcp
   subst hao
   have hblt:=hcm.lt hcp
   have c10:wr.cell? ⟨b,off,none⟩=some (.int .i64 k1):=hcm.olds 0 _ rfl
   have c11:wr.cell? ⟨b,off+1,none⟩=some (.int .i64 n1):=hcm.olds 1 _ rfl
   have c12:wr.cell? ⟨b,off+2,none⟩=some (.string s1):=hcm.olds 2 _ rfl
   have c13:wr.cell? ⟨b,off+3,none⟩=some (.slice Au ar.length cu):=hcm.olds 3 _ rfl
   have hlc:r.length+1≤cap:=hcm.le
   have hl1:(Ts.cons k1 n1 s1 ar r).length=r.length+1:=rfl
   rw [hl1]
   have h1c:(1:Int)≤(r.length:Int)+1:=by omega
   have hcm1:Came wr 4 (if cap=1 then some ⟨b,off,none⟩ else some ⟨b,off+4,none⟩) b (off+4) r.length (cap-1) xs:=by
    have hol:=hcm.oldsLen
    simp only [List.length_cons,hl1] at hol
    refine ⟨by omega,fun h=>by rw [if_neg Ya],fun _=>hblt,by omega,fun j u hu=> ?_,fun j hj=> ?_⟩
    ·have:=hcm.olds (j+4) u (by simpa using hu)
     rwa [show off+(j+4)=off+4+j by omega] at this
    ·have:=hcm.spare j (by rw [hl1];omega)
     rw [hl1] at this
     rwa [show off+4+r.length*4+j=off+(r.length+1)*4+j by omega]
   go_wp2_with fail
   have bX:=QR.new wr 63 #[.int .i64 k1,.int .i64 n1,.string s1,.slice Au ar.length cu]
   have hX:Below wr.heap.size wr (wr.alloc (.cells #[.int .i64 k1,.int .i64 n1,.string s1,.slice Au ar.length cu] 63)):=(Below.refl _ _).alloc (Nat.le_refl _) _
   generalize (wr.alloc (.cells #[.int .i64 k1,.int .i64 n1,.string s1,.slice Au ar.length cu] 63))=X at*
   refine Qc4 (fun ws=>QR ws wr.heap.size 63 #[.int .i64 k1,.int .i64 n1,.string s1,.slice Au ar.length cu])
    4 [(0,true),(1,true),(2,true),(3,true)] Yc Yc bX.drew ?_
   refine QdV rfl rfl ⟨?_,fun w' hS=> ?_,fun _ _ _ h=>h,?_⟩
   rotate_left
   ·go_simp
    exact rfl
   refine QdV rfl rfl ⟨?_,fun w' hS=> ?_,fun _ _ _ h=>h,?_⟩
   rotate_left
   ·clear hS
    go_simp
    exact rfl
   generalize (if cap=1 then some (⟨b,off,none⟩:Addr) else some ⟨b,off+4,none⟩)=ao' at hcm1⊢
   iterate 2
    refine QdV rfl rfl ⟨?_,fun w' hS=> ?_,fun _ _ _ h=>h,?_⟩
    rotate_left
    ·obtain ⟨p0,p1,p2,p3,_⟩:=hS.four
     clear hS
     go_simp
     exact rfl
   simp only [Qhk,List.drop_succ_cons,List.drop_zero]
   have hXd:Below wr.heap.size wr X.drew:=hX.drew
   have hz:=hB.size
   have hzX:=hXd.size
   have hcm2:=Qs2 hcm1 hXd
   obtain ⟨news,hsrc,hnews⟩:=(hu.below hXd).src (P:=Tryz.prog) Tryz.underlying23
   have hxs2:=hxs.below hXd
   have hnod:r.length+ar.length≤1048576:=by
    have h1:=r.length_le
    have h2:=ar.length_le
    simp only [Ts.nodes] at hQ
    omega
   have hBX:Below w.heap.size w X.drew:=hB.trans (hXd.mono hz)
   refine Qgs (P:=Tryz.prog) X.drew rfl (.tmp 15) (.tmp 17) 23 23 rfl (e:=63) hcm2 i0 _ 56 Tryz.underlying23 hi0 hz0 hz1 hz2 rfl rfl _ ar.length news rfl hsrc Yk Ya w.heap.size (fun h=>hbb Ya) Ya ?_
   intro ao2 b2 off2 cap2 w2 hcm3 hbb3 hB3
   go_wp2_with fail
   go_roundg (r.app ar).nodes
   case measure=>rw [HG.out];simp only [Ts.nodes_app,Ts.nodes];omega
   case rel=>
    refine ⟨r.app ar,ao2,b2,off2,cap2,xs++news,cn+1,?_,?_,rfl,?_,?_,?_,hbb3,hBX.trans (hB3.mono (Nat.le_refl _))⟩
    ·rfl
    ·simp only [Ts.nodes_app];simp only [Ts.nodes] at hcn;omega
    ·rw [Ts.length_app]
    ·rw [Ts.length_app];exact hcm3
    ·exact (Cs.app hxs2 hnews).keep fun k hk hl=>hB3.block k hk
def Qeu (k:Int):Bool:=decide (k=1)||decide (k=3)
def Q1 (t:List UInt8) (l:Nat):Bool:=
 if t=[33] then decide (l=0) else if t=[116,114,117,101] then decide (l=0) else if t=[102,97,105,108] then decide (l=0)
 else if t=[101,113] then decide (l=2) else if t=[108,101,115,115] then decide (l=2) else if t=[97,100,100] then decide (l=3) else false
theorem QmM (k n:Int) (s:ByteArray) (v:Value) (w:World):Calls Tryz.prog 84 #[.agg #[.int .i64 k,.int .i64 n,.string s,v]] w fun e w'=>e= .returned (.bool (Qeu k))∧Below w.heap.size w w':=by
 by_cases h1:k=1
 ·subst h1
  go_enter Tryz.func84,Tryz.ntmps84
  go_wp2_with fail
  go_ret
  exact ⟨rfl,(Below.refl _ _).alloc (Nat.le_refl _) _⟩
 by_cases h3:k=3
 ·subst h3
  go_enter Tryz.func84,Tryz.ntmps84
  go_wp2_with fail
  go_ret
  exact ⟨rfl,(Below.refl _ _).alloc (Nat.le_refl _) _⟩
 have R:=Lib.hid (show Qeu k=false by simp [Qeu,h1,h3])
 have g1:(k==1)=false:=by simpa using h1
 have g3:(k==3)=false:=by simpa using h3
 clear h1 h3
 go_enter Tryz.func84,Tryz.ntmps84
 go_wp2_with fail
 go_ret
 exact ⟨by rw [R.out];rfl,(Below.refl _ _).alloc (Nat.le_refl _) _⟩
set_option maxHeartbeats 1000000 in
theorem Qgm (k n:Int) (s:ByteArray) (A:Option Addr) (l c:Nat) (w:World):Calls Tryz.prog 75 #[.agg #[.int .i64 k,.int .i64 n,.string s,.slice A l c]] w fun e w'=>e= .returned (.bool (Q1 s.toList l))∧Below w.heap.size w w':=by
 generalize hr:Q1 s.toList l=rb
 have R:=Lib.hid hr
 clear hr
 go_enter Tryz.func75,Tryz.ntmps75
 go_wp2_with fail
 all_goals go_ret
 all_goals refine ⟨?_,(Below.refl _ _).alloc (Nat.le_refl _) _⟩
 all_goals rw [←R.out]
 all_goals refine Qct ?_
 all_goals rw [Bool.eq_iff_iff]
 all_goals simp_all [Q1]
 all_goals try omega
def Qa9 (S:World→Prop) (t:List UInt8) (l:Nat) (g:Nat) (s8:Value) (wr:World):Prop:=∃i:Nat,i≤6∧g=6-i∧s8= .int .i64 i∧S wr∧
 (0<i→¬(t=[33]∧l=0))∧(1<i→¬(t=[116,114,117,101]∧l=0))∧(2<i→¬(t=[102,97,105,108]∧l=0))∧
 (3<i→¬(t=[101,113]∧l=2))∧(4<i→¬(t=[108,101,115,115]∧l=2))∧(5<i→¬(t=[97,100,100]∧l=3))
def EvS (w:World) (k n:Int) (s:ByteArray) (A:Option Addr) (l c:Nat) (x:World):Prop:=QR x w.heap.size 63 #[.int .i64 k,.int .i64 n,.string s,.slice A l c]∧
 QR x (w.heap.size+1) 9 #[.string ⟨#[33,47,48]⟩,.string ⟨#[116,114,117,101,47,48]⟩,.string ⟨#[102,97,105,108,47,48]⟩,.string ⟨#[101,113,47,50]⟩,.string ⟨#[108,101,115,115,47,50]⟩,.string ⟨#[97,100,100,47,51]⟩]∧Below w.heap.size w x
theorem EvS.drewN {w x:World} {k n:Int} {s:ByteArray} {A:Option Addr} {l c:Nat} (h:EvS w k n s A l c x) (q:Nat):EvS w k n s A l c (x.drewN q):=⟨h.1.drewN q,h.2.1.drewN q,h.2.2.trans (Qbt _ _ _)⟩
theorem Qa9.step0 {S:World→Prop} {W:World} (hS:S W) {t:List UInt8} {l:Nat} (hA:(0<0→¬(t=[33]∧l=0))∧(1<0→¬(t=[116,114,117,101]∧l=0))∧(2<0→¬(t=[102,97,105,108]∧l=0))∧(3<0→¬(t=[101,113]∧l=2))∧(4<0→¬(t=[108,101,115,115]∧l=2))∧(5<0→¬(t=[97,100,100]∧l=3))) (h:¬(t=[33]∧l=0)):Qa9 S t l 5 (.int .i64 1) W:=by
 obtain ⟨hA0,hA1,hA2,hA3,hA4,hA5⟩:=hA
 exact ⟨1,by omega,rfl,rfl,hS,fun _=>h,fun hh=>absurd hh Ya,fun hh=>absurd hh Ya,fun hh=>absurd hh Ya,fun hh=>absurd hh Ya,fun hh=>absurd hh Ya⟩
theorem Qa9.step1 {S:World→Prop} {W:World} (hS:S W) {t:List UInt8} {l:Nat} (hA:(0<1→¬(t=[33]∧l=0))∧(1<1→¬(t=[116,114,117,101]∧l=0))∧(2<1→¬(t=[102,97,105,108]∧l=0))∧(3<1→¬(t=[101,113]∧l=2))∧(4<1→¬(t=[108,101,115,115]∧l=2))∧(5<1→¬(t=[97,100,100]∧l=3))) (h:¬(t=[116,114,117,101]∧l=0)):Qa9 S t l 4 (.int .i64 2) W:=by
 obtain ⟨hA0,hA1,hA2,hA3,hA4,hA5⟩:=hA
 exact ⟨2,by omega,rfl,rfl,hS,fun _=>hA0 Ya,fun _=>h,fun hh=>absurd hh Ya,fun hh=>absurd hh Ya,fun hh=>absurd hh Ya,fun hh=>absurd hh Ya⟩
theorem Qa9.step2 {S:World→Prop} {W:World} (hS:S W) {t:List UInt8} {l:Nat} (hA:(0<2→¬(t=[33]∧l=0))∧(1<2→¬(t=[116,114,117,101]∧l=0))∧(2<2→¬(t=[102,97,105,108]∧l=0))∧(3<2→¬(t=[101,113]∧l=2))∧(4<2→¬(t=[108,101,115,115]∧l=2))∧(5<2→¬(t=[97,100,100]∧l=3))) (h:¬(t=[102,97,105,108]∧l=0)):Qa9 S t l 3 (.int .i64 3) W:=by
 obtain ⟨hA0,hA1,hA2,hA3,hA4,hA5⟩:=hA
 exact ⟨3,by omega,rfl,rfl,hS,fun _=>hA0 Ya,fun _=>hA1 Ya,fun _=>h,fun hh=>absurd hh Ya,fun hh=>absurd hh Ya,fun hh=>absurd hh Ya⟩
theorem Qa9.step3 {S:World→Prop} {W:World} (hS:S W) {t:List UInt8} {l:Nat} (hA:(0<3→¬(t=[33]∧l=0))∧(1<3→¬(t=[116,114,117,101]∧l=0))∧(2<3→¬(t=[102,97,105,108]∧l=0))∧(3<3→¬(t=[101,113]∧l=2))∧(4<3→¬(t=[108,101,115,115]∧l=2))∧(5<3→¬(t=[97,100,100]∧l=3))) (h:¬(t=[101,113]∧l=2)):Qa9 S t l 2 (.int .i64 4) W:=by
 obtain ⟨hA0,hA1,hA2,hA3,hA4,hA5⟩:=hA
 exact ⟨4,by omega,rfl,rfl,hS,fun _=>hA0 Ya,fun _=>hA1 Ya,fun _=>hA2 Ya,fun _=>h,fun hh=>absurd hh Ya,fun hh=>absurd hh Ya⟩
theorem Qa9.step4 {S:World→Prop} {W:World} (hS:S W) {t:List UInt8} {l:Nat} (hA:(0<4→¬(t=[33]∧l=0))∧(1<4→¬(t=[116,114,117,101]∧l=0))∧(2<4→¬(t=[102,97,105,108]∧l=0))∧(3<4→¬(t=[101,113]∧l=2))∧(4<4→¬(t=[108,101,115,115]∧l=2))∧(5<4→¬(t=[97,100,100]∧l=3))) (h:¬(t=[108,101,115,115]∧l=2)):Qa9 S t l 1 (.int .i64 5) W:=by
 obtain ⟨hA0,hA1,hA2,hA3,hA4,hA5⟩:=hA
 exact ⟨5,by omega,rfl,rfl,hS,fun _=>hA0 Ya,fun _=>hA1 Ya,fun _=>hA2 Ya,fun _=>hA3 Ya,fun _=>h,fun hh=>absurd hh Ya⟩
theorem Qa9.step5 {S:World→Prop} {W:World} (hS:S W) {t:List UInt8} {l:Nat} (hA:(0<5→¬(t=[33]∧l=0))∧(1<5→¬(t=[116,114,117,101]∧l=0))∧(2<5→¬(t=[102,97,105,108]∧l=0))∧(3<5→¬(t=[101,113]∧l=2))∧(4<5→¬(t=[108,101,115,115]∧l=2))∧(5<5→¬(t=[97,100,100]∧l=3))) (h:¬(t=[97,100,100]∧l=3)):Qa9 S t l 0 (.int .i64 6) W:=by
 obtain ⟨hA0,hA1,hA2,hA3,hA4,hA5⟩:=hA
 exact ⟨6,by omega,rfl,rfl,hS,fun _=>hA0 Ya,fun _=>hA1 Ya,fun _=>hA2 Ya,fun _=>hA3 Ya,fun _=>hA4 Ya,fun _=>h⟩
theorem Qs4 {t:List UInt8} {l:Nat} (hA:(0<6→¬(t=[33]∧l=0))∧(1<6→¬(t=[116,114,117,101]∧l=0))∧(2<6→¬(t=[102,97,105,108]∧l=0))∧(3<6→¬(t=[101,113]∧l=2))∧(4<6→¬(t=[108,101,115,115]∧l=2))∧(5<6→¬(t=[97,100,100]∧l=3))):Q1 t l=false:=by
 obtain ⟨h0,h1,h2,h3,h4,h5⟩:=hA
 unfold Q1
 repeat' split
 all_goals simp_all
set_option maxHeartbeats 2000000 in
theorem Qdd (k n:Int) (s:ByteArray) (A:Option Addr) (l c:Nat) (w:World):Calls Tryz.prog 103 #[.agg #[.int .i64 k,.int .i64 n,.string s,.slice A l c]] w fun e w'=>e= .returned (.bool (Q1 s.toList l))∧Below w.heap.size w w':=by
 generalize hr:Q1 s.toList l=rb
 have R:=Lib.hid hr
 clear hr
 go_enter Tryz.func103,Tryz.ntmps103
 go_wp2_with fail
 have bT:=(QR.new w 63 #[.int .i64 k,.int .i64 n,.string s,.slice A l c]).alloc (.cells #[.string ⟨#[33,47,48]⟩,.string ⟨#[116,114,117,101,47,48]⟩,.string ⟨#[102,97,105,108,47,48]⟩,.string ⟨#[101,113,47,50]⟩,.string ⟨#[108,101,115,115,47,50]⟩,.string ⟨#[97,100,100,47,51]⟩] 9)
 have bS:=QR.new (w.alloc (.cells #[.int .i64 k,.int .i64 n,.string s,.slice A l c] 63)) 9 #[.string ⟨#[33,47,48]⟩,.string ⟨#[116,114,117,101,47,48]⟩,.string ⟨#[102,97,105,108,47,48]⟩,.string ⟨#[101,113,47,50]⟩,.string ⟨#[108,101,115,115,47,50]⟩,.string ⟨#[97,100,100,47,51]⟩]
 have hB:Below w.heap.size w ((w.alloc (.cells #[.int .i64 k,.int .i64 n,.string s,.slice A l c] 63)).alloc (.cells #[.string ⟨#[33,47,48]⟩,.string ⟨#[116,114,117,101,47,48]⟩,.string ⟨#[102,97,105,108,47,48]⟩,.string ⟨#[101,113,47,50]⟩,.string ⟨#[108,101,115,115,47,50]⟩,.string ⟨#[97,100,100,47,51]⟩] 9)):=((Below.refl _ _).alloc (Nat.le_refl _) _).alloc Yd _
 simp only [World.size_alloc] at bS
 generalize ((w.alloc (.cells #[.int .i64 k,.int .i64 n,.string s,.slice A l c] 63)).alloc (.cells #[.string ⟨#[33,47,48]⟩,.string ⟨#[116,114,117,101,47,48]⟩,.string ⟨#[102,97,105,108,47,48]⟩,.string ⟨#[101,113,47,50]⟩,.string ⟨#[108,101,115,115,47,50]⟩,.string ⟨#[97,100,100,47,51]⟩] 9))=W at*
 have h0:Qa9 (EvS w k n s A l c) s.toList l 6 (.int .i64 0) W:=⟨0,Nat.zero_le _,rfl,rfl,⟨bT,bS,hB⟩,fun h=>absurd h Ya,fun h=>absurd h Ya,fun h=>absurd h Ya,fun h=>absurd h Ya,fun h=>absurd h Ya,fun h=>absurd h Ya⟩
 clear bT bS hB
 go_loopg [8] 6 (Qa9 (EvS w k n s A l c) s.toList l)
 case atStart=>exact h0
 case round=>
  obtain ⟨i,hi,hg,rfl,hS,hA⟩:=hrel
  have HA:=Lib.hid hA
  have HG:=Lib.hid hg
  clear hA hg h0
  have hB:=hS.2.2
  obtain ⟨p0,p1,p2,p3,_⟩:=hS.1.four
  have q0:=hS.2.1.cell 0
  have q1:=hS.2.1.cell 1
  have q2:=hS.2.1.cell 2
  have q3:=hS.2.1.cell 3
  have q4:=hS.2.1.cell 4
  have q5:=hS.2.1.cell 5
  simp at q0 q1 q2 q3 q4 q5
  have HS:=Lib.hid hS
  clear hS
  have x0:((⟨#[33,47,48]⟩:ByteArray).extract 0 1).toList=[33]:=by rw [ByteArray.toList_eq];rfl
  have x1:((⟨#[116,114,117,101,47,48]⟩:ByteArray).extract 0 4).toList=[116,114,117,101]:=by rw [ByteArray.toList_eq];rfl
  have x2:((⟨#[102,97,105,108,47,48]⟩:ByteArray).extract 0 4).toList=[102,97,105,108]:=by rw [ByteArray.toList_eq];rfl
  have x3:((⟨#[101,113,47,50]⟩:ByteArray).extract 0 2).toList=[101,113]:=by rw [ByteArray.toList_eq];rfl
  have x4:((⟨#[108,101,115,115,47,50]⟩:ByteArray).extract 0 4).toList=[108,101,115,115]:=by rw [ByteArray.toList_eq];rfl
  have x5:((⟨#[97,100,100,47,51]⟩:ByteArray).extract 0 3).toList=[97,100,100]:=by rw [ByteArray.toList_eq];rfl
  have y0:((⟨#[33,47,48]⟩:ByteArray)[2]'Yf).toNat=48:=rfl
  have y1:((⟨#[116,114,117,101,47,48]⟩:ByteArray)[5]'Yf).toNat=48:=rfl
  have y2:((⟨#[102,97,105,108,47,48]⟩:ByteArray)[5]'Yf).toNat=48:=rfl
  have y3:((⟨#[101,113,47,50]⟩:ByteArray)[3]'Yf).toNat=50:=rfl
  have y4:((⟨#[108,101,115,115,47,50]⟩:ByteArray)[5]'Yf).toNat=50:=rfl
  have y5:((⟨#[97,100,100,47,51]⟩:ByteArray)[4]'Yf).toNat=51:=rfl
  have hi':i=0∨i=1∨i=2∨i=3∨i=4∨i=5∨i=6:=by omega
  rcases hi' with rfl|rfl|rfl|rfl|rfl|rfl|rfl
  ·by_cases ht:s.toList=[33]
   ·have hte:(s.toList==[33])=true:=by simpa using ht
    by_cases hl:l=0
    ·subst hl
     have HT:=Lib.hid ht
     go_wp2_with fail
     go_quiet (fail)
     go_wp2_with fail
     go_ret
     exact ⟨by rw [←R.out,HT.out];rfl,hB.trans (Qbt _ _ _)⟩
    ·have hlz:((l:Int)==0)=false:=by simp;omega
     have HN:Hid (¬(s.toList=[33]∧l=0)):=Lib.hid fun h=>hl h.2
     clear hl
     go_wp2_with fail
     go_quiet (fail)
     go_wp2_with fail
     go_roundg 5
     case measure=>rw [HG.out];omega
     case rel=>exact Qa9.step0 (HS.out.drewN _) HA.out HN.out
   ·have hte:(s.toList==[33])=false:=by simpa using ht
    have HN:Hid (¬(s.toList=[33]∧l=0)):=Lib.hid fun h=>ht h.1
    clear ht
    go_wp2_with fail
    go_quiet (fail)
    go_wp2_with fail
    go_roundg 5
    case measure=>rw [HG.out];omega
    case rel=>exact Qa9.step0 (HS.out.drewN _) HA.out HN.out
  ·by_cases ht:s.toList=[116,114,117,101]
   ·have hte:(s.toList==[116,114,117,101])=true:=by simpa using ht
    by_cases hl:l=0
    ·subst hl
     have HT:=Lib.hid ht
     go_wp2_with fail
     go_quiet (fail)
     go_wp2_with fail
     go_ret
     exact ⟨by rw [←R.out,HT.out];rfl,hB.trans (Qbt _ _ _)⟩
    ·have hlz:((l:Int)==0)=false:=by simp;omega
     have HN:Hid (¬(s.toList=[116,114,117,101]∧l=0)):=Lib.hid fun h=>hl h.2
     clear hl
     go_wp2_with fail
     go_quiet (fail)
     go_wp2_with fail
     go_roundg 4
     case measure=>rw [HG.out];omega
     case rel=>exact Qa9.step1 (HS.out.drewN _) HA.out HN.out
   ·have hte:(s.toList==[116,114,117,101])=false:=by simpa using ht
    have HN:Hid (¬(s.toList=[116,114,117,101]∧l=0)):=Lib.hid fun h=>ht h.1
    clear ht
    go_wp2_with fail
    go_quiet (fail)
    go_wp2_with fail
    go_roundg 4
    case measure=>rw [HG.out];omega
    case rel=>exact Qa9.step1 (HS.out.drewN _) HA.out HN.out
  ·by_cases ht:s.toList=[102,97,105,108]
   ·have hte:(s.toList==[102,97,105,108])=true:=by simpa using ht
    by_cases hl:l=0
    ·subst hl
     have HT:=Lib.hid ht
     go_wp2_with fail
     go_quiet (fail)
     go_wp2_with fail
     go_ret
     exact ⟨by rw [←R.out,HT.out];rfl,hB.trans (Qbt _ _ _)⟩
    ·have hlz:((l:Int)==0)=false:=by simp;omega
     have HN:Hid (¬(s.toList=[102,97,105,108]∧l=0)):=Lib.hid fun h=>hl h.2
     clear hl
     go_wp2_with fail
     go_quiet (fail)
     go_wp2_with fail
     go_roundg 3
     case measure=>rw [HG.out];omega
     case rel=>exact Qa9.step2 (HS.out.drewN _) HA.out HN.out
   ·have hte:(s.toList==[102,97,105,108])=false:=by simpa using ht
    have HN:Hid (¬(s.toList=[102,97,105,108]∧l=0)):=Lib.hid fun h=>ht h.1
    clear ht
    go_wp2_with fail
    go_quiet (fail)
    go_wp2_with fail
    go_roundg 3
    case measure=>rw [HG.out];omega
    case rel=>exact Qa9.step2 (HS.out.drewN _) HA.out HN.out
  ·by_cases ht:s.toList=[101,113]
   ·have hte:(s.toList==[101,113])=true:=by simpa using ht
    by_cases hl:l=2
    ·subst hl
     have HT:=Lib.hid ht
     go_wp2_with fail
     go_quiet (fail)
     go_wp2_with fail
     go_ret
     exact ⟨by rw [←R.out,HT.out];rfl,hB.trans (Qbt _ _ _)⟩
    ·have hlz:((l:Int)==2)=false:=by simp;omega
     have HN:Hid (¬(s.toList=[101,113]∧l=2)):=Lib.hid fun h=>hl h.2
     clear hl
     go_wp2_with fail
     go_quiet (fail)
     go_wp2_with fail
     go_roundg 2
     case measure=>rw [HG.out];omega
     case rel=>exact Qa9.step3 (HS.out.drewN _) HA.out HN.out
   ·have hte:(s.toList==[101,113])=false:=by simpa using ht
    have HN:Hid (¬(s.toList=[101,113]∧l=2)):=Lib.hid fun h=>ht h.1
    clear ht
    go_wp2_with fail
    go_quiet (fail)
    go_wp2_with fail
    go_roundg 2
    case measure=>rw [HG.out];omega
    case rel=>exact Qa9.step3 (HS.out.drewN _) HA.out HN.out
  ·by_cases ht:s.toList=[108,101,115,115]
   ·have hte:(s.toList==[108,101,115,115])=true:=by simpa using ht
    by_cases hl:l=2
    ·subst hl
     have HT:=Lib.hid ht
     go_wp2_with fail
     go_quiet (fail)
     go_wp2_with fail
     go_ret
     exact ⟨by rw [←R.out,HT.out];rfl,hB.trans (Qbt _ _ _)⟩
    ·have hlz:((l:Int)==2)=false:=by simp;omega
     have HN:Hid (¬(s.toList=[108,101,115,115]∧l=2)):=Lib.hid fun h=>hl h.2
     clear hl
     go_wp2_with fail
     go_quiet (fail)
     go_wp2_with fail
     go_roundg 1
     case measure=>rw [HG.out];omega
     case rel=>exact Qa9.step4 (HS.out.drewN _) HA.out HN.out
   ·have hte:(s.toList==[108,101,115,115])=false:=by simpa using ht
    have HN:Hid (¬(s.toList=[108,101,115,115]∧l=2)):=Lib.hid fun h=>ht h.1
    clear ht
    go_wp2_with fail
    go_quiet (fail)
    go_wp2_with fail
    go_roundg 1
    case measure=>rw [HG.out];omega
    case rel=>exact Qa9.step4 (HS.out.drewN _) HA.out HN.out
  ·by_cases ht:s.toList=[97,100,100]
   ·have hte:(s.toList==[97,100,100])=true:=by simpa using ht
    by_cases hl:l=3
    ·subst hl
     have HT:=Lib.hid ht
     go_wp2_with fail
     go_quiet (fail)
     go_wp2_with fail
     go_ret
     exact ⟨by rw [←R.out,HT.out];rfl,hB.trans (Qbt _ _ _)⟩
    ·have hlz:((l:Int)==3)=false:=by simp;omega
     have HN:Hid (¬(s.toList=[97,100,100]∧l=3)):=Lib.hid fun h=>hl h.2
     clear hl
     go_wp2_with fail
     go_quiet (fail)
     go_wp2_with fail
     go_roundg 0
     case measure=>rw [HG.out];omega
     case rel=>exact Qa9.step5 (HS.out.drewN _) HA.out HN.out
   ·have hte:(s.toList==[97,100,100])=false:=by simpa using ht
    have HN:Hid (¬(s.toList=[97,100,100]∧l=3)):=Lib.hid fun h=>ht h.1
    clear ht
    go_wp2_with fail
    go_quiet (fail)
    go_wp2_with fail
    go_roundg 0
    case measure=>rw [HG.out];omega
    case rel=>exact Qa9.step5 (HS.out.drewN _) HA.out HN.out
  ·go_wp2_with fail
   go_ret
   refine ⟨?_,hB⟩
   rw [←R.out,Qs4 HA.out];rfl
structure VS (lb vb:Nat) (L:Nat) (w:World):Prop where
 left:QR w lb 3 #[.int .i64 L]
 fn:QR w vb 130 #[.func (.func 132) #[] #[.pointer (some ⟨lb,0,none⟩),.pointer (some ⟨vb,0,none⟩)]]
 ne:vb≠lb
theorem VS.far {lb vb L:Nat} {w w':World} (h:VS lb vb L w) (hb:Below w.heap.size w w'):VS lb vb L w':=⟨h.left.below hb,h.fn.below hb,h.ne⟩
def Qhe (T : Ts) : Prop := ∀ (k n : Int) (s : ByteArray) (v : Value) (L lb vb B : Nat) (w : World), Sl w (fun k => k < B) v T → B ≤ lb → VS lb vb L w → L ≤ 24 → T.nodes ≤ 1048576 →
    Calls Tryz.prog 132 #[.agg #[.int .i64 k,.int .i64 n,.string s,v],.pointer (some ⟨lb,0,none⟩),.pointer (some ⟨vb,0,none⟩)] w fun e w'=>
     e= .returned (.bool (decide (T.nodes+1≤L)))∧(T.nodes+1≤L→VS lb vb (L-(T.nodes+1)) w')∧Chg (fun k=>k=lb) w w'
def Qx0 (w:World) (T:Ts) (L lb vb:Nat) (g:Nat) (sx:Value) (wr:World):Prop:=∃D R:Ts,T=D.app R∧g=R.length∧sx= .int .i64 D.length∧D.nodes+1≤L∧VS lb vb (L-(D.nodes+1)) wr∧Chg (fun k=>k=lb) w wr
set_option maxHeartbeats 1000000 in
theorem Qwh (m:Nat) (ih:∀T:Ts,T.nodes<m→Qhe T) (T:Ts) (hm:T.nodes≤m):Qhe T:=by
 intro k n s v L lb vb B w hv hBl hvs hL hn
 obtain ⟨A,c,rfl,hs⟩:=hv.form
 have hle:=T.length_le
 have hW:Below w.heap.size w (w.alloc (.cells #[.int .i64 k,.int .i64 n,.string s,.slice A T.length c] 63)):=(Below.refl _ _).alloc (Nat.le_refl _) _
 have hvs1:=hvs.far hW
 have hs1:=hs.below hW
 have bA:=QR.new w 63 #[.int .i64 k,.int .i64 n,.string s,.slice A T.length c]
 have l0:=hvs1.left.cell 0
 have lf:=hvs1.left.frozen 0
 simp at l0
 have hlt:=hvs.left.lt
 by_cases hL0:L=0
 ·subst hL0
  go_enter Tryz.func132,Tryz.ntmps132
  go_wp2_with fail
  go_ret
  exact ⟨rfl,fun h=>absurd h Ya,Chg.of_fresh hW⟩
 have hL1:0<L:=by omega
 obtain ⟨p0,p1,p2,p3,_⟩:=bA.four
 have hne:w.heap.size≠lb:=by omega
 go_enter Tryz.func132,Tryz.ntmps132
 go_wp2_with fail
 have hstart:VS lb vb (L-1) ((w.setCell ⟨lb,0,none⟩ (.int .i64 ((L:Int)-1))).alloc (.cells #[.int .i64 k,.int .i64 n,.string s,.slice A T.length c] 63)):=by
  refine ⟨?_,?_,hvs.ne⟩
  ·have h1:=(hvs.left.set_ 0 (.int .i64 ((L:Int)-1))).alloc (.cells #[.int .i64 k,.int .i64 n,.string s,.slice A T.length c] 63)
   rw [show ((L-1:Nat):Int)=(L:Int)-1 by omega]
   exact h1
  ·exact (hvs.fn.far (p:=⟨lb,0,none⟩) hvs.ne _).alloc _
 have hchg:Chg (fun k=>k=lb) w ((w.setCell ⟨lb,0,none⟩ (.int .i64 ((L:Int)-1))).alloc (.cells #[.int .i64 k,.int .i64 n,.string s,.slice A T.length c] 63)):=
  ((Chg.refl (fun k=>k=lb) w).setCell (p:=⟨lb,0,none⟩) (fun _=>rfl) _).alloc _
 have hcall:∀(args:Array Value) (x:World),(callFunc 132 args).run Tryz.prog x= .ok (.enter 132 args) x:=fun args x=>by simp [go_sem]
 generalize ((w.setCell ⟨lb,0,none⟩ (.int .i64 ((L:Int)-1))).alloc (.cells #[.int .i64 k,.int .i64 n,.string s,.slice A T.length c] 63))=W at*
 have h0:Qx0 w T L lb vb T.length (.int .i64 0) W:=⟨.nil,T,rfl,rfl,rfl,hL1,hstart,hchg⟩
 clear hstart hchg hvs1 bA p0 p1 p2 p3 hne l0 lf hs1 hW
 go_loopg [14] T.length (Qx0 w T L lb vb)
 case atStart=>exact h0
 case round=>
  clear h0
  obtain ⟨D,R,hT,hg,rfl,hD,hvr,hc⟩:=hrel
  have HT:=Lib.hid hT
  have HG:=Lib.hid hg
  clear hT hg
  have hsr:Sl wr (fun k=>k<B) (.slice A T.length c) T:=hs.chg hc fun k hk=>by omega
  cases R with
  |nil=>
   have eD:D=T:=by rw [HT.out,Ts.app_nil]
   subst eD
   go_wp2_with fail
   go_ret
   refine ⟨?_,fun _=>hvr,hc⟩
   rw [decide_eq_true hD];rfl
  |cons k1 n1 s1 ar r=>
   have e1:D.length<T.length:=by rw [HT.out,Ts.length_app];simp [Ts.length]
   have hnod:T.nodes=D.nodes+(1+ar.nodes+r.nodes):=by rw [HT.out,Ts.nodes_app];simp only [Ts.nodes];omega
   rw [HT.out] at hsr
   rw [show (D.app (.cons k1 n1 s1 ar r)).length=T.length by rw [←HT.out]] at hsr
   obtain ⟨b1,o1,rfl,hq1⟩:=Sl.at_ hsr (by simp [Ts.length])
   obtain ⟨_,c10,c11,c12,⟨v1,c13,hv1⟩,_⟩:=Q6.1 hq1
   obtain ⟨A1,d1,rfl,hv1⟩:=hv1.form
   clear hq1 hsr
   have hX:Below wr.heap.size wr (wr.alloc (.cells #[.int .i64 k1,.int .i64 n1,.string s1,.slice A1 ar.length d1] 63)):=(Below.refl _ _).alloc (Nat.le_refl _) _
   have hvx:=hvr.far hX
   have f0:=hvx.fn.cell 0
   simp at f0
   go_wp2_with fail
   have e2:ar.nodes<m:=by omega
   refine (ih ar e2 k1 n1 s1 _ (L-(D.nodes+1)) lb vb B _ (hv1.below hX) hBl hvx Ya Ya).mono ?_
   rintro e w2 ⟨rfl,hok,hc2⟩
   have hc3:Chg (fun k=>k=lb) w w2:=(hc.trans (Chg.of_fresh (S:=fun k=>k=lb) hX) fun _ _ h=>h).trans hc2 fun _ _ h=>h
   by_cases hx:ar.nodes+1≤L-(D.nodes+1)
   ·have hok:=hok hx
    rw [decide_eq_true hx]
    have hnx:Hid (VS lb vb (L-((D.app (.cons k1 n1 s1 ar .nil)).nodes+1)) w2):=Lib.hid (by
     rw [Ts.nodes_app]
     simp only [Ts.nodes]
     rw [show L-(D.nodes+(ar.nodes+0+1)+1)=L-(D.nodes+1)-(ar.nodes+1) by omega]
     exact hok)
    clear hok
    go_wp2_with fail
    go_roundg r.length
    case measure=>rw [HG.out];simp [Ts.length]
    case rel=>
     refine ⟨D.app (.cons k1 n1 s1 ar .nil),r,?_,rfl,?_,?_,hnx.out,hc3⟩
     ·rw [HT.out,Ts.app_assoc];rfl
     ·rw [Ts.length_app];rfl
     ·rw [Ts.nodes_app];simp only [Ts.nodes];omega
   ·rw [decide_eq_false hx]
    have hbig:Hid (¬T.nodes+1≤L):=Lib.hid Ya
    clear hok
    go_wp2_with fail
    go_ret
    refine ⟨?_,fun h=>absurd h hbig.out,hc3⟩
    rw [decide_eq_false hbig.out];rfl
theorem Qr2 (T:Ts):Qhe T:=by
 have:∀m,∀T:Ts,T.nodes<m→Qhe T:=by
  intro m
  induction m with
  |zero=>intro T h;omega
  |succ m ih=>intro T h;exact Qwh m ih T Ya
 exact this _ T (Nat.lt_succ_self _)
set_option maxHeartbeats 1000000 in
theorem Qxa (k n:Int) (s:ByteArray) (T:Ts) (v:Value) (w:World) (hv:Sl w (fun _=>True) v T) (hn:T.nodes≤1048576):
  Calls Tryz.prog 85 #[.agg #[.int .i64 k,.int .i64 n,.string s,v],.int .i64 24] w fun e w'=>e= .returned (.bool (decide (T.nodes+1≤24)))∧Below w.heap.size w w':=by
 obtain ⟨A,c,rfl,hs⟩:=hv.form
 have hs:=hs.imp (q:=fun k=>k<w.heap.size) fun k _ h=>h
 have hW:Below w.heap.size w (((w.alloc (.cells #[.int .i64 k,.int .i64 n,.string s,.slice A T.length c] 63)).alloc (.cells #[.int .i64 24] 3)).alloc (.cells #[.func (.func 132) #[] #[.pointer (some ⟨w.heap.size+1,0,none⟩),.pointer (some ⟨w.heap.size+1+1,0,none⟩)]] 130)):=(((Below.refl _ _).alloc (Nat.le_refl _) _).alloc Yd _).alloc Yg _
 have hst:(store ⟨w.heap.size+1+1,0,none⟩ (.func (.func 132) #[] #[.pointer (some ⟨w.heap.size+1,0,none⟩),.pointer (some ⟨w.heap.size+1+1,0,none⟩)])).run Tryz.prog (((w.alloc (.cells #[.int .i64 k,.int .i64 n,.string s,.slice A T.length c] 63)).alloc (.cells #[.int .i64 24] 3)).alloc (.cells #[.nilFunc] 130))=
   .ok () (((w.alloc (.cells #[.int .i64 k,.int .i64 n,.string s,.slice A T.length c] 63)).alloc (.cells #[.int .i64 24] 3)).alloc (.cells #[.func (.func 132) #[] #[.pointer (some ⟨w.heap.size+1,0,none⟩),.pointer (some ⟨w.heap.size+1+1,0,none⟩)]] 130)):=by
  have hb:=QR.new ((w.alloc (.cells #[.int .i64 k,.int .i64 n,.string s,.slice A T.length c] 63)).alloc (.cells #[.int .i64 24] 3)) 130 #[.nilFunc]
  have e:=Qf7 ((w.alloc (.cells #[.int .i64 k,.int .i64 n,.string s,.slice A T.length c] 63)).alloc (.cells #[.int .i64 24] 3)) .nilFunc (.func (.func 132) #[] #[.pointer (some ⟨w.heap.size+1,0,none⟩),.pointer (some ⟨w.heap.size+1+1,0,none⟩)]) 130
  have h:=QdK (P:=Tryz.prog) (f:= .func 132) (x:= #[]) (y:= #[.pointer (some ⟨w.heap.size+1,0,none⟩),.pointer (some ⟨w.heap.size+1+1,0,none⟩)]) (hb.cell 0) (hb.frozen 0)
  rw [e] at h
  simpa using h
 have hvs:VS (w.heap.size+1) (w.heap.size+1+1) 24 (((w.alloc (.cells #[.int .i64 k,.int .i64 n,.string s,.slice A T.length c] 63)).alloc (.cells #[.int .i64 24] 3)).alloc (.cells #[.func (.func 132) #[] #[.pointer (some ⟨w.heap.size+1,0,none⟩),.pointer (some ⟨w.heap.size+1+1,0,none⟩)]] 130)):=by
  refine ⟨?_,?_,by omega⟩
  ·have:=(QR.new (w.alloc (.cells #[.int .i64 k,.int .i64 n,.string s,.slice A T.length c] 63)) 3 #[.int .i64 24]).alloc (.cells #[.func (.func 132) #[] #[.pointer (some ⟨w.heap.size+1,0,none⟩),.pointer (some ⟨w.heap.size+1+1,0,none⟩)]] 130)
   simpa using this
  ·have:=QR.new ((w.alloc (.cells #[.int .i64 k,.int .i64 n,.string s,.slice A T.length c] 63)).alloc (.cells #[.int .i64 24] 3)) 130 #[.func (.func 132) #[] #[.pointer (some ⟨w.heap.size+1,0,none⟩),.pointer (some ⟨w.heap.size+1+1,0,none⟩)]]
   simpa using this
 have hcall:∀(args:Array Value) (x:World),(callFunc 132 args).run Tryz.prog x= .ok (.enter 132 args) x:=fun args x=>by simp [go_sem]
 go_enter Tryz.func85,Tryz.ntmps85
 go_wp2_with fail
 refine (Qr2 T k n s _ 24 (w.heap.size+1) (w.heap.size+1+1) w.heap.size _ (hs.below hW) Ya hvs (Nat.le_refl _) hn).mono ?_
 rintro e w2 ⟨rfl,_,hc⟩
 generalize hfb:decide (T.nodes+1≤24)=fb
 have HFB:=Lib.hid hfb
 clear hfb
 go_wp2_with fail
 go_ret
 refine ⟨by rw [HFB.out];rfl,hW.trans (hc.below Yg fun k hk _=> ?_)⟩
 have e:k=w.heap.size+1:=hk
 omega
def gB (vars k n:Int) (s:ByteArray) (T:Ts):Bool:=Qeu k&&(Ts.cons k n s T .nil).good vars&&decide (T.nodes+1≤24)
set_option maxHeartbeats 1000000 in
theorem Qih (vars k n:Int) (s:ByteArray) (T:Ts) (v:Value) (w:World) (hv:Sl w (fun _=>True) v T) (hn:T.nodes<1048576):
  Calls Tryz.prog 50 #[.agg #[.int .i64 k,.int .i64 n,.string s,v],.int .i64 vars] w fun e w'=>e= .returned (.bool (gB vars k n s T))∧Below w.heap.size w w':=by
 obtain ⟨A,c,rfl,hs⟩:=hv.form
 generalize hr:gB vars k n s T=rb
 have R:=Lib.hid hr
 clear hr
 go_enter Tryz.func50,Tryz.ntmps50
 go_wp2_with fail
 have hW0:Below w.heap.size w (w.alloc (.cells #[.int .i64 k,.int .i64 n,.string s,.slice A T.length c] 63)):=(Below.refl _ _).alloc (Nat.le_refl _) _
 have bA:=QR.new w 63 #[.int .i64 k,.int .i64 n,.string s,.slice A T.length c]
 generalize (w.alloc (.cells #[.int .i64 k,.int .i64 n,.string s,.slice A T.length c] 63))=W0 at*
 have hs0:=hs.below hW0
 refine (QmM k n s _ W0).mono ?_
 rintro e w1 ⟨rfl,hb1⟩
 have hW1:=hW0.trans (hb1.mono hW0.size)
 have bA1:=bA.below hb1
 have hs1:=hs0.below hb1
 cases hg:Qeu k with
 |false=>
  go_wp2_with fail
  go_ret
  refine ⟨?_,hW1⟩
  rw [←R.out,gB,hg];rfl
 |true=>
  have HGK:=Lib.hid hg
  clear hg
  obtain ⟨p0,p1,p2,p3,_⟩:=bA1.four
  go_wp2_with fail
  refine (Qxa k n s T _ _ hs1 Ya).mono ?_
  rintro e w2 ⟨rfl,hb2⟩
  have hW2:=hW1.trans (hb2.mono hW1.size)
  have bA2:=bA1.below hb2
  have hs2:=hs1.below hb2
  clear p0 p1 p2 p3
  generalize hf:decide (T.nodes+1≤24)=fb
  have HF:=Lib.hid hf
  clear hf
  obtain ⟨p0,p1,p2,p3,_⟩:=bA2.four
  cases fb with
  |false=>
   go_wp2_with fail
   go_ret
   refine ⟨?_,hW2⟩
   rw [←R.out,gB,HF.out,Bool.and_false];rfl
  |true=>
   go_wp2_with fail
   refine (Qif k n vars s T _ _ hs2 hn).mono ?_
   rintro e w3 ⟨rfl,hb3⟩
   generalize hq:(Ts.cons k n s T .nil).good vars=qb
   have HQ:=Lib.hid hq
   clear hq
   go_wp2_with fail
   go_ret
   refine ⟨?_,hW2.trans (hb3.mono hW2.size)⟩
   rw [←R.out,gB,HGK.out,HF.out,HQ.out,Bool.and_true,Bool.true_and];rfl
set_option maxHeartbeats 1000000 in
theorem Qnx (vars k n:Int) (s:ByteArray) (T:Ts) (v:Value) (w:World) (hv:Sl w (fun _=>True) v T) (hn:T.nodes<1048576):
  Calls Tryz.prog 101 #[.agg #[.int .i64 k,.int .i64 n,.string s,v],.int .i64 vars] w fun e w'=>e= .returned (.bool (gB vars k n s T))∧Below w.heap.size w w':=by
 obtain ⟨A,c,rfl,hs⟩:=hv.form
 generalize hr:gB vars k n s T=rb
 have R:=Lib.hid hr
 clear hr
 have hW0:Below w.heap.size w (w.alloc (.cells #[.int .i64 k,.int .i64 n,.string s,.slice A T.length c] 63)):=(Below.refl _ _).alloc (Nat.le_refl _) _
 have hs0:=hs.below hW0
 by_cases hg:Qeu k=true
 ·have hk:k=1∨k=3:=by simpa [Qeu] using hg
  have HGK:=Lib.hid hg
  clear hg
  have hk':((k==1)=true∧True)∨((k==1)=false∧(k==3)=true):=by
   rcases hk with rfl|rfl
   ·exact .inl ⟨rfl,trivial⟩
   ·exact .inr ⟨rfl,rfl⟩
  clear hk
  rcases hk' with ⟨g1,g3⟩|⟨g1,g3⟩
  all_goals
   have bA:=QR.new w 63 #[.int .i64 k,.int .i64 n,.string s,.slice A T.length c]
   go_enter Tryz.func101,Tryz.ntmps101
   go_wp2_with fail
   refine (QpW vars T k n s _ _ hs0 Ya).mono ?_
   rintro e w1 ⟨rfl,hb1⟩
   have hW1:=hW0.trans (hb1.mono hW0.size)
   have bA1:=bA.below hb1
   have hs1:=hs0.below hb1
   generalize hq:(Ts.cons k n s T .nil).good vars=qb
   have HQ:=Lib.hid hq
   clear hq
   obtain ⟨p0,p1,p2,p3,_⟩:=bA1.four
   cases qb with
   |false=>
    go_wp2_with fail
    go_ret
    refine ⟨?_,hW1⟩
    rw [←R.out,gB,HQ.out,Bool.and_false,Bool.false_and];rfl
   |true=>
    go_wp2_with fail
    refine (QpJ k n s T _ _ hs1 hn).mono ?_
    rintro e w2 ⟨rfl,hb2⟩
    generalize hN:T.nodes+1=N
    have HN:=Lib.hid hN
    clear hN
    go_wp2_with fail
    go_ret
    refine ⟨?_,hW1.trans (hb2.mono hW1.size)⟩
    rw [←R.out,gB,HGK.out,HQ.out,HN.out,Bool.true_and,Bool.true_and]
    refine Qct ?_
    rw [Bool.eq_iff_iff]
    simp
    try omega
 ·have hk:¬k=1∧¬k=3:=by simpa [Qeu] using hg
  have g1:(k==1)=false:=by simpa using hk.1
  have g3:(k==3)=false:=by simpa using hk.2
  have HGK:Hid (Qeu k=false):=Lib.hid (by simpa using hg)
  clear hg hk
  go_enter Tryz.func101,Tryz.ntmps101
  go_wp2_with fail
  go_ret
  refine ⟨?_,hW0⟩
  rw [←R.out,gB,HGK.out];rfl
def Ts.goals (vars:Int):Ts→Bool
 | .nil=>true
 | .cons k n s ar r=>gB vars k n s ar&&r.goals vars
theorem Ts.goals_app (v:Int) (D R:Ts):(D.app R).goals v=(D.goals v&&R.goals v):=by
 induction D with
 |nil=>rfl
 |cons k n b ar r _ ih=>simp only [Ts.app,Ts.goals,ih,Bool.and_assoc]
def qB (vars:Int) (T:Ts):Bool:=decide (0≤vars)&&decide (vars≤8)&&decide (T.length≤5)&&T.goals vars
def QrY (w:World) (T:Ts) (vars:Int) (g:Nat) (sx:Value) (wr:World):Prop:=∃D R:Ts,T=D.app R∧g=R.length∧sx= .int .i64 D.length∧D.goals vars=true∧Below w.heap.size w wr
def Ql1 (w:World) (T:Ts) (vars:Int) (b:Bool) (g:Nat) (so sx:Value) (wr:World):Prop:=∃D R:Ts,T=D.app R∧g=R.length∧sx= .int .i64 D.length∧so= .bool (b&&D.goals vars)∧Below w.heap.size w wr
set_option maxHeartbeats 1000000 in
theorem QgU (vars:Int) (T:Ts) (v:Value) (w:World) (hv:Sl w (fun _=>True) v T) (hn:T.nodes≤1048576):
  Calls Tryz.prog 29 #[v,.int .i64 vars] w fun e w'=>e= .returned (.bool (qB vars T))∧Below w.heap.size w w':=by
 obtain ⟨A,c,rfl,hs⟩:=hv.form
 have hle:=T.length_le
 generalize hr:qB vars T=rb
 have R:=Lib.hid hr
 clear hr
 by_cases h1:vars<0
 ·have hq:Hid (rb=false):=Lib.hid (by rw [←R.out,qB];simp;omega)
  go_enter Tryz.func29,Tryz.ntmps29
  go_wp2_with fail
  go_ret
  exact ⟨by rw [hq.out];rfl,Below.refl _ _⟩
 by_cases h2:8<vars
 ·have hq:Hid (rb=false):=Lib.hid (by rw [←R.out,qB];simp;omega)
  go_enter Tryz.func29,Tryz.ntmps29
  go_wp2_with fail
  go_ret
  exact ⟨by rw [hq.out];rfl,Below.refl _ _⟩
 by_cases h3:5<T.length
 ·have hq:Hid (rb=false):=Lib.hid (by rw [←R.out,qB];simp;omega)
  go_enter Tryz.func29,Tryz.ntmps29
  go_wp2_with fail
  go_ret
  exact ⟨by rw [hq.out];rfl,Below.refl _ _⟩
 have hq:Hid (rb=T.goals vars):=Lib.hid (by rw [←R.out,qB];simp;omega)
 have hl5:T.length≤5:=by omega
 have h0:QrY w T vars T.length (.int .i64 0) w:=⟨.nil,T,rfl,rfl,rfl,rfl,Below.refl _ _⟩
 go_enter Tryz.func29,Tryz.ntmps29
 go_wp2_with fail
 go_loopg [20] T.length (QrY w T vars)
 case atStart=>exact h0
 case round=>
  clear h0
  obtain ⟨D,R',hT,hg,rfl,hD,hb⟩:=hrel
  have HT:=Lib.hid hT
  have HG:=Lib.hid hg
  have HD:=Lib.hid hD
  clear hT hg hD
  have hsr:=hs.below hb
  cases R' with
  |nil=>
   have eD:D=T:=by rw [HT.out,Ts.app_nil]
   subst eD
   go_wp2_with fail
   go_ret
   exact ⟨by rw [hq.out,HD.out];rfl,hb⟩
  |cons k1 n1 s1 ar r=>
   have e1:D.length<T.length:=by rw [HT.out,Ts.length_app];simp [Ts.length]
   have hnod:ar.nodes<1048576:=by have:=hn;rw [HT.out,Ts.nodes_app] at this;simp only [Ts.nodes] at this;omega
   rw [HT.out] at hsr
   rw [show (D.app (.cons k1 n1 s1 ar r)).length=T.length by rw [←HT.out]] at hsr
   obtain ⟨b1,o1,rfl,hq1⟩:=Sl.at_ hsr (by simp [Ts.length])
   obtain ⟨_,c10,c11,c12,⟨v1,c13,hv1⟩,_⟩:=Q6.1 hq1
   obtain ⟨A1,d1,rfl,hv1⟩:=hv1.form
   clear hq1 hsr
   have hX:Below wr.heap.size wr (wr.alloc (.cells #[.int .i64 k1,.int .i64 n1,.string s1,.slice A1 ar.length d1] 63)):=(Below.refl _ _).alloc (Nat.le_refl _) _
   have hX':=hb.trans (hX.mono hb.size)
   go_wp2_with fail
   refine (Qih vars k1 n1 s1 ar _ _ (hv1.below hX) hnod).mono ?_
   rintro e w2 ⟨rfl,hb2⟩
   have hb3:=hX'.trans (hb2.mono hX'.size)
   generalize hgb:gB vars k1 n1 s1 ar=gb
   have HGB:=Lib.hid hgb
   clear hgb
   cases gb with
   |false=>
    go_wp2_with fail
    go_ret
    refine ⟨?_,hb3⟩
    rw [hq.out,HT.out,Ts.goals_app,Ts.goals,HGB.out,Bool.false_and,Bool.and_false];rfl
   |true=>
    go_wp2_with fail
    go_roundg r.length
    case measure=>rw [HG.out];simp [Ts.length]
    case rel=>
     refine ⟨D.app (.cons k1 n1 s1 ar .nil),r,?_,rfl,?_,?_,hb3⟩
     ·rw [HT.out,Ts.app_assoc];rfl
     ·rw [Ts.length_app];rfl
     ·rw [Ts.goals_app,HD.out,Ts.goals,HGB.out];rfl
set_option maxHeartbeats 1000000 in
theorem Qgh (vars:Int) (T:Ts) (v:Value) (w:World) (hv:Sl w (fun _=>True) v T) (hn:T.nodes≤1048576):
  Calls Tryz.prog 61 #[v,.int .i64 vars] w fun e w'=>e= .returned (.bool (qB vars T))∧Below w.heap.size w w':=by
 obtain ⟨A,c,rfl,hs⟩:=hv.form
 have hle:=T.length_le
 generalize hr:qB vars T=rb
 have R:=Lib.hid hr
 clear hr
 have hF:Ql1 w T vars false T.length (.bool false) (.int .i64 0) w:=⟨.nil,T,rfl,rfl,rfl,rfl,Below.refl _ _⟩
 by_cases h1:vars<0
 ·have hq:Hid (rb=(false&&T.goals vars)):=Lib.hid (by rw [←R.out,qB];simp;omega)
  have h0:=hF
  go_enter Tryz.func61,Tryz.ntmps61
  go_wp2_with fail
  go_loopg [5,21] T.length (Ql1 w T vars false)
  case atStart=>exact h0
  case round=>
   clear h0
   obtain ⟨D,R',hT,hg,rfl,rfl,hb⟩:=hrel
   have HT:=Lib.hid hT
   have HG:=Lib.hid hg
   clear hT hg
   have hsr:=hs.below hb
   generalize hgd:(false&&D.goals vars)=db
   have HD:=Lib.hid hgd
   clear hgd
   cases R' with
   |nil=>
    have eD:D=T:=by rw [HT.out,Ts.app_nil]
    subst eD
    go_wp2_with fail
    go_ret
    exact ⟨by rw [hq.out,←HD.out];rfl,hb⟩
   |cons k1 n1 s1 ar r=>
    have e1:D.length<T.length:=by rw [HT.out,Ts.length_app];simp [Ts.length]
    have hnod:ar.nodes<1048576:=by have:=hn;rw [HT.out,Ts.nodes_app] at this;simp only [Ts.nodes] at this;omega
    rw [HT.out] at hsr
    rw [show (D.app (.cons k1 n1 s1 ar r)).length=T.length by rw [←HT.out]] at hsr
    obtain ⟨b1,o1,rfl,hq1⟩:=Sl.at_ hsr (by simp [Ts.length])
    obtain ⟨_,c10,c11,c12,⟨v1,c13,hv1⟩,_⟩:=Q6.1 hq1
    obtain ⟨A1,d1,rfl,hv1⟩:=hv1.form
    clear hq1 hsr
    have hX:Below wr.heap.size wr (wr.alloc (.cells #[.int .i64 k1,.int .i64 n1,.string s1,.slice A1 ar.length d1] 63)):=(Below.refl _ _).alloc (Nat.le_refl _) _
    have hX':=hb.trans (hX.mono hb.size)
    cases db with
    |false=>
     go_wp2_with fail
     go_roundg r.length
     case measure=>rw [HG.out];simp [Ts.length]
     case rel=>
      refine ⟨D.app (.cons k1 n1 s1 ar .nil),r,?_,rfl,?_,?_,hX'⟩
      ·rw [HT.out,Ts.app_assoc];rfl
      ·rw [Ts.length_app];rfl
      ·rw [Ts.goals_app,←Bool.and_assoc,HD.out];rfl
    |true=>
     go_wp2_with fail
     refine Zhw ?_
     rintro e w2 ⟨rfl,hb2⟩
     have hb3:=hX'.trans (hb2.mono hX'.size)
     generalize hgb:gB vars k1 n1 s1 ar=gb
     have HGB:=Lib.hid hgb
     clear hgb
     go_wp2_with fail
     go_roundg r.length
     case measure=>rw [HG.out];simp [Ts.length]
     case rel=>
      refine ⟨D.app (.cons k1 n1 s1 ar .nil),r,?_,rfl,?_,?_,hb3⟩
      ·rw [HT.out,Ts.app_assoc];rfl
      ·rw [Ts.length_app];rfl
      ·rw [Ts.goals_app,←Bool.and_assoc,HD.out,Ts.goals,Ts.goals,HGB.out,Bool.and_true,Bool.true_and]
 by_cases h2:8<vars
 ·have hq:Hid (rb=(false&&T.goals vars)):=Lib.hid (by rw [←R.out,qB];simp;omega)
  have h0:=hF
  go_enter Tryz.func61,Tryz.ntmps61
  go_wp2_with fail
  go_loopg [5,21] T.length (Ql1 w T vars false)
  case atStart=>exact h0
  case round=>
   clear h0
   obtain ⟨D,R',hT,hg,rfl,rfl,hb⟩:=hrel
   have HT:=Lib.hid hT
   have HG:=Lib.hid hg
   clear hT hg
   have hsr:=hs.below hb
   generalize hgd:(false&&D.goals vars)=db
   have HD:=Lib.hid hgd
   clear hgd
   cases R' with
   |nil=>
    have eD:D=T:=by rw [HT.out,Ts.app_nil]
    subst eD
    go_wp2_with fail
    go_ret
    exact ⟨by rw [hq.out,←HD.out];rfl,hb⟩
   |cons k1 n1 s1 ar r=>
    have e1:D.length<T.length:=by rw [HT.out,Ts.length_app];simp [Ts.length]
    have hnod:ar.nodes<1048576:=by have:=hn;rw [HT.out,Ts.nodes_app] at this;simp only [Ts.nodes] at this;omega
    rw [HT.out] at hsr
    rw [show (D.app (.cons k1 n1 s1 ar r)).length=T.length by rw [←HT.out]] at hsr
    obtain ⟨b1,o1,rfl,hq1⟩:=Sl.at_ hsr (by simp [Ts.length])
    obtain ⟨_,c10,c11,c12,⟨v1,c13,hv1⟩,_⟩:=Q6.1 hq1
    obtain ⟨A1,d1,rfl,hv1⟩:=hv1.form
    clear hq1 hsr
    have hX:Below wr.heap.size wr (wr.alloc (.cells #[.int .i64 k1,.int .i64 n1,.string s1,.slice A1 ar.length d1] 63)):=(Below.refl _ _).alloc (Nat.le_refl _) _
    have hX':=hb.trans (hX.mono hb.size)
    cases db with
    |false=>
     go_wp2_with fail
     go_roundg r.length
     case measure=>rw [HG.out];simp [Ts.length]
     case rel=>
      refine ⟨D.app (.cons k1 n1 s1 ar .nil),r,?_,rfl,?_,?_,hX'⟩
      ·rw [HT.out,Ts.app_assoc];rfl
      ·rw [Ts.length_app];rfl
      ·rw [Ts.goals_app,←Bool.and_assoc,HD.out];rfl
    |true=>
     go_wp2_with fail
     refine Zhw ?_
     rintro e w2 ⟨rfl,hb2⟩
     have hb3:=hX'.trans (hb2.mono hX'.size)
     generalize hgb:gB vars k1 n1 s1 ar=gb
     have HGB:=Lib.hid hgb
     clear hgb
     go_wp2_with fail
     go_roundg r.length
     case measure=>rw [HG.out];simp [Ts.length]
     case rel=>
      refine ⟨D.app (.cons k1 n1 s1 ar .nil),r,?_,rfl,?_,?_,hb3⟩
      ·rw [HT.out,Ts.app_assoc];rfl
      ·rw [Ts.length_app];rfl
      ·rw [Ts.goals_app,←Bool.and_assoc,HD.out,Ts.goals,Ts.goals,HGB.out,Bool.and_true,Bool.true_and]
 by_cases h3:5<T.length
 ·have hq:Hid (rb=(false&&T.goals vars)):=Lib.hid (by rw [←R.out,qB];simp;omega)
  have hd:decide ((T.length:Int)≤5)=false:=by simp;omega
  have h0:=hF
  go_enter Tryz.func61,Tryz.ntmps61
  go_wp2_with fail
  go_loopg [5,21] T.length (Ql1 w T vars false)
  case atStart=>exact h0
  case round=>
   clear h0
   obtain ⟨D,R',hT,hg,rfl,rfl,hb⟩:=hrel
   have HT:=Lib.hid hT
   have HG:=Lib.hid hg
   clear hT hg
   have hsr:=hs.below hb
   generalize hgd:(false&&D.goals vars)=db
   have HD:=Lib.hid hgd
   clear hgd
   cases R' with
   |nil=>
    have eD:D=T:=by rw [HT.out,Ts.app_nil]
    subst eD
    go_wp2_with fail
    go_ret
    exact ⟨by rw [hq.out,←HD.out];rfl,hb⟩
   |cons k1 n1 s1 ar r=>
    have e1:D.length<T.length:=by rw [HT.out,Ts.length_app];simp [Ts.length]
    have hnod:ar.nodes<1048576:=by have:=hn;rw [HT.out,Ts.nodes_app] at this;simp only [Ts.nodes] at this;omega
    rw [HT.out] at hsr
    rw [show (D.app (.cons k1 n1 s1 ar r)).length=T.length by rw [←HT.out]] at hsr
    obtain ⟨b1,o1,rfl,hq1⟩:=Sl.at_ hsr (by simp [Ts.length])
    obtain ⟨_,c10,c11,c12,⟨v1,c13,hv1⟩,_⟩:=Q6.1 hq1
    obtain ⟨A1,d1,rfl,hv1⟩:=hv1.form
    clear hq1 hsr
    have hX:Below wr.heap.size wr (wr.alloc (.cells #[.int .i64 k1,.int .i64 n1,.string s1,.slice A1 ar.length d1] 63)):=(Below.refl _ _).alloc (Nat.le_refl _) _
    have hX':=hb.trans (hX.mono hb.size)
    cases db with
    |false=>
     go_wp2_with fail
     go_roundg r.length
     case measure=>rw [HG.out];simp [Ts.length]
     case rel=>
      refine ⟨D.app (.cons k1 n1 s1 ar .nil),r,?_,rfl,?_,?_,hX'⟩
      ·rw [HT.out,Ts.app_assoc];rfl
      ·rw [Ts.length_app];rfl
      ·rw [Ts.goals_app,←Bool.and_assoc,HD.out];rfl
    |true=>
     go_wp2_with fail
     refine Zhw ?_
     rintro e w2 ⟨rfl,hb2⟩
     have hb3:=hX'.trans (hb2.mono hX'.size)
     generalize hgb:gB vars k1 n1 s1 ar=gb
     have HGB:=Lib.hid hgb
     clear hgb
     go_wp2_with fail
     go_roundg r.length
     case measure=>rw [HG.out];simp [Ts.length]
     case rel=>
      refine ⟨D.app (.cons k1 n1 s1 ar .nil),r,?_,rfl,?_,?_,hb3⟩
      ·rw [HT.out,Ts.app_assoc];rfl
      ·rw [Ts.length_app];rfl
      ·rw [Ts.goals_app,←Bool.and_assoc,HD.out,Ts.goals,Ts.goals,HGB.out,Bool.and_true,Bool.true_and]
 have hq:Hid (rb=(true&&T.goals vars)):=Lib.hid (by rw [←R.out,qB];simp;omega)
 have hd:decide ((T.length:Int)≤5)=true:=by simp;omega
 have h0:Ql1 w T vars true T.length (.bool true) (.int .i64 0) w:=⟨.nil,T,rfl,rfl,rfl,rfl,Below.refl _ _⟩
 clear hF
 go_enter Tryz.func61,Tryz.ntmps61
 go_wp2_with fail
 go_loopg [5,21] T.length (Ql1 w T vars true)
 case atStart=>exact h0
 case round=>
  clear h0
  obtain ⟨D,R',hT,hg,rfl,rfl,hb⟩:=hrel
  have HT:=Lib.hid hT
  have HG:=Lib.hid hg
  clear hT hg
  have hsr:=hs.below hb
  generalize hgd:(true&&D.goals vars)=db
  have HD:=Lib.hid hgd
  clear hgd
  cases R' with
  |nil=>
   have eD:D=T:=by rw [HT.out,Ts.app_nil]
   subst eD
   go_wp2_with fail
   go_ret
   exact ⟨by rw [hq.out,←HD.out];rfl,hb⟩
  |cons k1 n1 s1 ar r=>
   have e1:D.length<T.length:=by rw [HT.out,Ts.length_app];simp [Ts.length]
   have hnod:ar.nodes<1048576:=by have:=hn;rw [HT.out,Ts.nodes_app] at this;simp only [Ts.nodes] at this;omega
   rw [HT.out] at hsr
   rw [show (D.app (.cons k1 n1 s1 ar r)).length=T.length by rw [←HT.out]] at hsr
   obtain ⟨b1,o1,rfl,hq1⟩:=Sl.at_ hsr (by simp [Ts.length])
   obtain ⟨_,c10,c11,c12,⟨v1,c13,hv1⟩,_⟩:=Q6.1 hq1
   obtain ⟨A1,d1,rfl,hv1⟩:=hv1.form
   clear hq1 hsr
   have hX:Below wr.heap.size wr (wr.alloc (.cells #[.int .i64 k1,.int .i64 n1,.string s1,.slice A1 ar.length d1] 63)):=(Below.refl _ _).alloc (Nat.le_refl _) _
   have hX':=hb.trans (hX.mono hb.size)
   cases db with
   |false=>
    go_wp2_with fail
    go_roundg r.length
    case measure=>rw [HG.out];simp [Ts.length]
    case rel=>
     refine ⟨D.app (.cons k1 n1 s1 ar .nil),r,?_,rfl,?_,?_,hX'⟩
     ·rw [HT.out,Ts.app_assoc];rfl
     ·rw [Ts.length_app];rfl
     ·rw [Ts.goals_app,←Bool.and_assoc,HD.out];rfl
   |true=>
    go_wp2_with fail
    refine Zhw ?_
    rintro e w2 ⟨rfl,hb2⟩
    have hb3:=hX'.trans (hb2.mono hX'.size)
    generalize hgb:gB vars k1 n1 s1 ar=gb
    have HGB:=Lib.hid hgb
    clear hgb
    go_wp2_with fail
    go_roundg r.length
    case measure=>rw [HG.out];simp [Ts.length]
    case rel=>
     refine ⟨D.app (.cons k1 n1 s1 ar .nil),r,?_,rfl,?_,?_,hb3⟩
     ·rw [HT.out,Ts.app_assoc];rfl
     ·rw [Ts.length_app];rfl
     ·rw [Ts.goals_app,←Bool.and_assoc,HD.out,Ts.goals,Ts.goals,HGB.out,Bool.and_true,Bool.true_and]
end Go.Proofs.YthliapbflkfdiacGreatDoor
