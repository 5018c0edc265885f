/- Steps of the proof. -/
import Derived.Test.YthliapbflkfdiacGreatDoorG1
import Derived.Deep.Upon
import Derived.Lib.LazyBuf
import Derived.BigQuiet
namespace Go.Proofs.YthliapbflkfdiacGreatDoor
open Go.RowKit
def Qai (vars k n:Int) (s:ByteArray) (l:Nat):Bool:=
 if k=0 then decide (0≤n)&&decide (n<vars)&&decide (s.toList=[])&&decide (l=0)
 else if k=1 then decide (n=0)&&Qa5 s&&decide (l=0)
 else if k=2 then decide (-1099511627776≤n)&&decide (n≤1099511627776)&&decide (s.toList=[])&&decide (l=0)
 else if k=3 then decide (n=0)&&Qa5 s&&decide (¬s.toList=[33])&&decide (1≤l)&&decide (l≤4)
 else false
theorem QbA {a b:Bool} (h:a=b):Ending.returned (.bool a)= .returned (.bool b):=by rw [h]
set_option maxHeartbeats 1000000 in
theorem QkN (vars k n:Int) (s:ByteArray) (A:Option Addr) (l c:Nat) (w:World):
  Calls Tryz.prog 135 #[.agg #[.int .i64 k,.int .i64 n,.string s,.slice A l c],.int .i64 vars] w fun e w'=>e= .returned (.bool (Qai vars k n s l))∧Below w.heap.size w w':=by
 by_cases h0:k=0
 ·subst h0;have R:=Lib.hid (show Qai vars 0 n s l=(decide (0≤n)&&decide (n<vars)&&decide (s.toList=[])&&decide (l=0)) by simp [Qai]);go_enter Tryz.func135,Tryz.ntmps135;go_wp2_with fail
  all_goals go_ret
  all_goals refine ⟨?_,(Below.refl _ _).alloc (Nat.le_refl _) _⟩
  all_goals rw [R.out]
  all_goals refine QbA ?_
  all_goals rw [Bool.eq_iff_iff]
  all_goals simp [*]
  all_goals try omega
 have g0:(k==0)=false:=by simpa using h0
 by_cases h1:k=1
 ·subst h1;have R:=Lib.hid (show Qai vars 1 n s l=(decide (n=0)&&Qa5 s&&decide (l=0)) by simp [Qai]);clear h0 g0;cases hb:Qa5 s
  all_goals
   have HB:=Lib.hid hb;clear hb;go_enter Tryz.func135,Tryz.ntmps135;go_wp2_with (go_at_call 184;refine (Qkp _ _).mono ?_;rintro e w' ⟨rfl,rfl⟩;rw [HB.out])
   all_goals go_ret
   all_goals refine ⟨?_,(Below.refl _ _).alloc (Nat.le_refl _) _⟩
   all_goals rw [R.out,HB.out]
   all_goals refine QbA ?_
   all_goals rw [Bool.eq_iff_iff]
   all_goals simp [*]
   all_goals try omega
 have g1:(k==1)=false:=by simpa using h1
 by_cases h2:k=2
 ·subst h2;have R:=Lib.hid (show Qai vars 2 n s l=(decide (-1099511627776≤n)&&decide (n≤1099511627776)&&decide (s.toList=[])&&decide (l=0)) by simp [Qai]);clear h0 g0 h1 g1;go_enter Tryz.func135,Tryz.ntmps135;go_wp2_with fail
  all_goals go_ret
  all_goals refine ⟨?_,(Below.refl _ _).alloc (Nat.le_refl _) _⟩
  all_goals rw [R.out]
  all_goals refine QbA ?_
  all_goals rw [Bool.eq_iff_iff]
  all_goals simp [*]
  all_goals try omega
 have g2:(k==2)=false:=by simpa using h2
 by_cases h3:k=3
 ·subst h3;clear h0 g0 h1 g1 h2 g2;by_cases hn:n=0
  ·subst hn;have R:=Lib.hid (show Qai vars 3 0 s l=(Qa5 s&&decide (¬s.toList=[33])&&decide (1≤l)&&decide (l≤4)) by simp [Qai]);cases hb:Qa5 s
   all_goals
    have HB:=Lib.hid hb;clear hb;go_enter Tryz.func135,Tryz.ntmps135;go_wp2_with (go_at_call 184;refine (Qkp _ _).mono ?_;rintro e w' ⟨rfl,rfl⟩;rw [HB.out])
    all_goals go_ret
    all_goals refine ⟨?_,(Below.refl _ _).alloc (Nat.le_refl _) _⟩
    all_goals rw [R.out,HB.out]
    all_goals refine QbA ?_
    all_goals rw [Bool.eq_iff_iff]
    all_goals simp [*]
    all_goals try omega
  ·have hn':(n==0)=false:=by simpa using hn
   have R:=Lib.hid (show Qai vars 3 n s l=false by simp [Qai,hn]);clear hn;go_enter Tryz.func135,Tryz.ntmps135;go_wp2_with fail;go_ret;exact ⟨by rw [R.out];rfl,(Below.refl _ _).alloc (Nat.le_refl _) _⟩
 have g3:(k==3)=false:=by simpa using h3
 have R:=Lib.hid (show Qai vars k n s l=false by simp [Qai,h0,h1,h2,h3]);clear h0 h1 h2 h3;go_enter Tryz.func135,Tryz.ntmps135;go_wp2_with fail;go_ret;exact ⟨by rw [R.out];rfl,(Below.refl _ _).alloc (Nat.le_refl _) _⟩
def QlQ (w:World) (G:List Nat) (k:Nat):Prop:=k<w.heap.size∨k∈G
structure V1 (w:World) (G:List Nat) (pb:Nat) (L:List Lev) (pv:Value) (xs:List Value) (wr:World):Prop where
 path:Qak wr w.heap.size pb pv xs
 pbl:w.heap.size≤pb
 pvs:PV L xs
 lev:∀l∈L,Seg wr (QlQ w G) l.T l.b l.o
 rows:∀g∈G,∃c,QD wr g 63 c
 chg:Below w.heap.size w wr
section
variable {w wr w':World} {G:List Nat} {pb:Nat} {L:List Lev} {pv:Value} {xs:List Value}
theorem V1.keep (h:V1 w G pb L pv xs wr) (hc:Chg (fun k=>k=pb∨pv.ownBlock=some k) wr w'):∀k,QlQ w G k→k<wr.heap.size→w'.heap[k]?=wr.heap[k]?:=by
 intro k hk hl;refine hc.block k hl fun hS=> ?_;rcases hk with hk|hk
 ·rcases hS with e|e
  ·have:=h.pbl;omega
  ·have:=(h.path.own.lt _ e).1;omega
 ·obtain ⟨c,hb⟩:=h.rows k hk;obtain ⟨h1,h2⟩:=h.path.other hb;exact hS.elim h1 h2
theorem V1.chg' (h:V1 w G pb L pv xs wr) (hc:Chg (fun k=>k=pb∨pv.ownBlock=some k) wr w'):Below w.heap.size w w'∧(∀g∈G,∃c,QD w' g 63 c):=by
 refine ⟨h.chg.trans (hc.below h.chg.size fun k hk _=> ?_),fun g hg=> ?_⟩
 ·rcases hk with e|e
  ·have:=h.pbl;omega
  ·exact (h.path.own.lt _ e).1
 ·obtain ⟨c,hb⟩:=h.rows g hg;exact ⟨c,h.path.keep hc hb⟩
theorem V1.aside (h:V1 w G pb L pv xs wr) (hb:Below wr.heap.size wr w'):V1 w G pb L pv xs w' where
 path:=h.path.chg (Chg.of_fresh (S:=fun _=>False) hb) (fun h=>h) fun _ _ h=>h
 pbl:=h.pbl
 pvs:=h.pvs
 lev:=fun l hl=>(h.lev l hl).below hb
 rows:=fun g hg=>by
  obtain ⟨c,h1⟩:=h.rows g hg;exact ⟨c,h1.below hb⟩
 chg:=h.chg.trans (hb.mono h.chg.size)
theorem Qm6 {T:Ts} {b o:Nat} {p:Nat→Prop} (hT:0<T.length→Seg wr p T b o) (hL:∀l∈L,Seg wr p l.T l.b l.o):∀l∈push T b o L,Seg wr p l.T l.b l.o:=by
 intro l hl;unfold push at hl;split at hl
 ·exact hL l hl
 ·rcases List.mem_cons.1 hl with rfl|hl
  ·exact hT Ya
  ·exact hL l hl
theorem V1.next {b o:Nat} {k n:Int} {s:ByteArray} {ar r:Ts} (h:V1 w G pb (⟨b,o,.cons k n s ar r⟩::L) pv xs wr) (hn:QJ (⟨b,o,.cons k n s ar r⟩::L)≤1048576):
  Calls Tryz.prog 134 #[.pointer (some ⟨pb,0,none⟩)] wr fun e w'=>e= .returned (.pointer (some ⟨b,o,none⟩))∧
   ∃pv' xs',V1 w G pb (push r b (o+4) L) pv' xs' w'∧Seg w' (QlQ w G) (.cons k n s ar r) b o∧pv'.ownBlock=pv.ownBlock∧Chg (fun k=>k=pb∨pv.ownBlock=some k) wr w':=by
 refine (QmZ h.path h.pvs (Nat.le_trans hn Ya)).mono ?_;rintro e w' ⟨he,pv',xs',h1,h2,h3,h4⟩;have hk:=h.keep h4;have hs:Seg w' (QlQ w G) (.cons k n s ar r) b o:=(h.lev _ (List.mem_cons_self ..)).keep hk;obtain ⟨h5,h6⟩:=h.chg' h4;refine ⟨he,pv',xs',⟨h1,h.pbl,h2,?_,h6,h5⟩,hs,h3,h4⟩;exact Qm6 (fun _=>(QL.1 hs).2.2.2.2.2) fun l hl=>(h.lev l (List.mem_cons_of_mem _ hl)).keep hk
theorem V1.add {T:Ts} {A:Option Addr} {c:Nat} (h:V1 w G pb L pv xs wr) (hv:Sl wr (QlQ w G) (.slice A T.length c) T) (hn:QJ L≤1048576):
  Calls Tryz.prog 136 #[.pointer (some ⟨pb,0,none⟩),.slice A T.length c] wr fun e w'=>e= .returned (.tuple #[])∧
   ∃pv' xs' b o,V1 w G pb (push T b o L) pv' xs' w'∧(pv'.ownBlock=pv.ownBlock∨∃g,pv'.ownBlock=some g∧wr.heap.size≤g)∧Chg (fun k=>k=pb∨pv.ownBlock=some k) wr w':=by
 obtain ⟨A',c',e,hc,hs⟩:=hv;simp only [Value.slice.injEq,true_and] at e;obtain ⟨rfl,rfl⟩:=e
 obtain ⟨b,o,hA⟩:∃b o,0<T.length→A=some ⟨b,o,none⟩∧Seg wr (QlQ w G) T b o:=by
  rcases Nat.eq_zero_or_pos T.length with h|h
  ·exact ⟨0,0,fun h'=>absurd h' Ya⟩
  ·obtain ⟨b,o,h1,h2⟩:=hs h;exact ⟨b,o,fun _=>⟨h1,h2⟩⟩
 refine (Qmk (b:=b) (o:=o) h.path h.pvs h.chg.size (Nat.le_trans hn Ya) hc fun h=>(hA h).1).mono ?_;rintro e w' ⟨he,pv',xs',h1,h2,h3,h4⟩;have hk:=h.keep h4;obtain ⟨h5,h6⟩:=h.chg' h4;refine ⟨he,pv',xs',b,o,⟨h1,h.pbl,h2,?_,h6,h5⟩,h3,h4⟩;exact Qm6 (fun hp=>(hA hp).2.keep hk) fun l hl=>(h.lev l hl).keep hk
end
theorem V1.start {w W:World} {G:List Nat} {ga gp pb:Nat} {k n:Int} {s:ByteArray} {A:Option Addr} {c:Nat} {ar:Ts} (hv:Sl w (fun _=>True) (.slice A ar.length c) ar) (hW:Below w.heap.size w W)
  (h1:QD W ga 63 #[.int .i64 k,.int .i64 n,.string s,.slice A ar.length c]) (h2:QD W gp 23 #[.slice (some ⟨ga,0,none⟩) 1 1]) (h3:QD W pb 182 #[.slice (some ⟨gp,0,none⟩) 1 1])
  (hG:ga∈G) (hr:∀g∈G,∃c,QD W g 63 c) (hgp:w.heap.size≤gp) (hpb:w.heap.size≤pb):
  V1 w G pb [⟨ga,0,.cons k n s ar .nil⟩] (.slice (some ⟨gp,0,none⟩) 1 1) [.slice (some ⟨ga,0,none⟩) 1 1] W:=by
 refine ⟨⟨h3,⟨rfl,.inr ⟨gp,1,_,rfl,hgp,h2,Nat.le_refl _,by simp [maxLen],rfl,rfl⟩⟩,?_⟩,hpb,⟨[],1,rfl,Nat.le_refl _,Nat.zero_lt_one,rfl⟩,?_,hr,hW⟩
 ·simp only [Value.ownBlock,ne_eq,Option.some.injEq];exact h2.ne_ h3 Yg
 ·intro l hl;have e:l=⟨ga,0,.cons k n s ar .nil⟩:=by simpa using hl
  subst e;refine QL.2 ⟨.inr hG,h1.cell 0,h1.cell 1,h1.cell 2,⟨_,h1.cell 3,?_⟩,trivial⟩;exact (hv.imp (q:=QlQ w G) fun k _ h=> .inl h).below hW
def Ts.good (vars:Int):Ts→Bool
 | .nil=>true
 | .cons k n s ar r=>Qai vars k n s ar.length&&ar.good vars&&r.good vars
def QfS (vars:Int) (L:List Lev):Bool:=L.all fun l=>l.T.good vars
theorem Qiv (vars:Int) (T:Ts) (b o:Nat) (L:List Lev):QfS vars (push T b o L)=(T.good vars&&QfS vars L):=by
 unfold push;split
 ·rename_i h;rw [Ts.nil_of_length h];simp [Ts.good]
 ·simp [QfS]
def QnM (w:World) (G:List Nat) (pb:Nat) (T:Ts) (vars:Int) (g:Nat) (wr:World):Prop:=
 ∃L pv xs,V1 w G pb L pv xs wr∧g=QJ L∧QJ L≤T.nodes∧T.good vars=QfS vars L
set_option maxHeartbeats 400000 in
theorem QfR (k n vars:Int) (s:ByteArray) (ar:Ts) (v:Value) (w:World) (hv:Sl w (fun _=>True) v ar) (hn:ar.nodes<1048576):
  Calls Tryz.prog 86 #[.agg #[.int .i64 k,.int .i64 n,.string s,v],.int .i64 vars] w fun e w'=>e= .returned (.bool ((Ts.cons k n s ar .nil).good vars))∧Below w.heap.size w w':=by
 obtain ⟨A,c,rfl,hs⟩:=hv.form;go_enter Tryz.func86,Tryz.ntmps86;go_wp2_with (go_at_call 133;refine (QlT _ _ _ _ _ _ _).mono ?_;rintro e w1 ⟨rfl,rfl⟩);have hW:Below w.heap.size w (((((w.alloc (.cells #[.int .i64 k,.int .i64 n,.string s,.slice A ar.length c] 63)).alloc (.cells #[.int .i64 k,.int .i64 n,.string s,.slice A ar.length c] 63)).alloc (.cells #[.int .i64 k,.int .i64 n,.string s,.slice A ar.length c] 63)).alloc (.cells #[.slice (some ⟨w.heap.size+1+1,0,none⟩) 1 1] 23)).alloc (.cells #[.slice (some ⟨w.heap.size+1+1+1,0,none⟩) 1 1] 182)):=(((((Below.refl _ _).alloc (Nat.le_refl _) _).alloc Yd _).alloc Yh _).alloc Yh _).alloc Yh _
 have hv0:V1 w [w.heap.size+1+1] (w.heap.size+1+1+1+1) [⟨w.heap.size+1+1,0,.cons k n s ar .nil⟩] (.slice (some ⟨w.heap.size+1+1+1,0,none⟩) 1 1) [.slice (some ⟨w.heap.size+1+1,0,none⟩) 1 1] (((((w.alloc (.cells #[.int .i64 k,.int .i64 n,.string s,.slice A ar.length c] 63)).alloc (.cells #[.int .i64 k,.int .i64 n,.string s,.slice A ar.length c] 63)).alloc (.cells #[.int .i64 k,.int .i64 n,.string s,.slice A ar.length c] 63)).alloc (.cells #[.slice (some ⟨w.heap.size+1+1,0,none⟩) 1 1] 23)).alloc (.cells #[.slice (some ⟨w.heap.size+1+1+1,0,none⟩) 1 1] 182)):=by
  have b1:=((QD.new ((w.alloc (.cells #[.int .i64 k,.int .i64 n,.string s,.slice A ar.length c] 63)).alloc (.cells #[.int .i64 k,.int .i64 n,.string s,.slice A ar.length c] 63)) 63 #[.int .i64 k,.int .i64 n,.string s,.slice A ar.length c]).alloc (.cells #[.slice (some ⟨w.heap.size+1+1,0,none⟩) 1 1] 23)).alloc (.cells #[.slice (some ⟨w.heap.size+1+1+1,0,none⟩) 1 1] 182);have b2:=((QD.new (((w.alloc (.cells #[.int .i64 k,.int .i64 n,.string s,.slice A ar.length c] 63)).alloc (.cells #[.int .i64 k,.int .i64 n,.string s,.slice A ar.length c] 63)).alloc (.cells #[.int .i64 k,.int .i64 n,.string s,.slice A ar.length c] 63)) 23 #[.slice (some ⟨w.heap.size+1+1,0,none⟩) 1 1])).alloc (.cells #[.slice (some ⟨w.heap.size+1+1+1,0,none⟩) 1 1] 182);have b3:=QD.new ((((w.alloc (.cells #[.int .i64 k,.int .i64 n,.string s,.slice A ar.length c] 63)).alloc (.cells #[.int .i64 k,.int .i64 n,.string s,.slice A ar.length c] 63)).alloc (.cells #[.int .i64 k,.int .i64 n,.string s,.slice A ar.length c] 63)).alloc (.cells #[.slice (some ⟨w.heap.size+1+1,0,none⟩) 1 1] 23)) 182 #[.slice (some ⟨w.heap.size+1+1+1,0,none⟩) 1 1];simp only [World.size_alloc] at b1 b2 b3
  exact V1.start hs hW b1 b2 b3 Yd (fun g hg=>by
   have e:g=w.heap.size+1+1:=by simpa using hg
   subst e;exact ⟨_,b1⟩) Ya Ya
 have h0:QnM w [w.heap.size+1+1] (w.heap.size+1+1+1+1) (.cons k n s ar .nil) vars (ar.nodes+1) (((((w.alloc (.cells #[.int .i64 k,.int .i64 n,.string s,.slice A ar.length c] 63)).alloc (.cells #[.int .i64 k,.int .i64 n,.string s,.slice A ar.length c] 63)).alloc (.cells #[.int .i64 k,.int .i64 n,.string s,.slice A ar.length c] 63)).alloc (.cells #[.slice (some ⟨w.heap.size+1+1,0,none⟩) 1 1] 23)).alloc (.cells #[.slice (some ⟨w.heap.size+1+1+1,0,none⟩) 1 1] 182)):=
  ⟨_,_,_,hv0,by simp [QJ,Ts.nodes],by simp [QJ],by simp [QfS]⟩
 clear hv0;go_loopg [] (ar.nodes+1) (QnM w [w.heap.size+1+1] (w.heap.size+1+1+1+1) (.cons k n s ar .nil) vars)
 case atStart=>exact h0
 case round =>
  clear h0;obtain ⟨L,pv,xs,hrel,hg,hsm,hgd⟩:=hrel;have HG:=Lib.hid hg;have HD:=Lib.hid hgd;have hpx:=hrel.pvs.length;simp only [Ts.nodes] at hsm;obtain ⟨Ap,cp,hpv⟩:=Qcp hrel.path.own;subst hpv;have cpb:wr.cell? ⟨w.heap.size+1+1+1+1,0,none⟩=some (.slice Ap xs.length cp):=hrel.path.var.cell 0;clear hg hgd
  cases L with
  |nil=>
   have hx:xs=[]:=hrel.pvs;subst hx;have hb:=hrel.chg;clear hrel hpx;go_wp2_with fail;go_ret;exact ⟨by rw [HD.out];rfl,hb⟩
  |cons l Ls=>
   obtain ⟨b,o,T1⟩:=l
   cases T1 with
   |nil=>obtain ⟨_,_,_,_,h,_⟩:=hrel.pvs;simp [Ts.length] at h
   |cons k1 n1 s1 a1 r1=>
   have hxl:0<xs.length:=by rw [hpx];simp
   have hn4:QJ (⟨b,o,.cons k1 n1 s1 a1 r1⟩::Ls)≤1048576:=by omega
   have hn5:QJ (push r1 b (o+4) Ls)≤1048576:=by
    rw [QT];simp only [QJ,List.map_cons,List.sum_cons,Ts.nodes] at hn4⊢;omega
   go_wp2_with fail;refine (hrel.next hn4).mono ?_;rintro e w2 ⟨rfl,pv2,xs2,h2,hseg,_,_⟩;obtain ⟨_,c0,c1,c2,⟨v1,c3,hv1⟩,_⟩:=QL.1 hseg;obtain ⟨A1,d1,rfl,hv1⟩:=hv1.form;go_wp2_with fail;refine (QkN vars k1 n1 s1 A1 a1.length d1 _).mono ?_;rintro e w3 ⟨rfl,hb3⟩;have h3:=h2.aside hb3;have e3:w3.cell? ⟨b,o+3,none⟩=some (.slice A1 a1.length d1):=(hb3.cell (QaS c3)).trans c3;have hv3:=hv1.below hb3
   cases hnode:Qai vars k1 n1 s1 a1.length with
   |false=>
    have hres:Hid ((Ts.cons k n s ar .nil).good vars=false):=Lib.hid (by rw [HD.out];simp [QfS,Ts.good,hnode]);clear hnode;go_wp2_with fail;go_ret;exact ⟨by rw [hres.out];rfl,h3.chg⟩
   |true=>
    have hres:Hid ((Ts.cons k n s ar .nil).good vars=(a1.good vars&&(r1.good vars&&QfS vars Ls))):=Lib.hid (by rw [HD.out];simp [QfS,Ts.good,hnode,Bool.and_assoc]);clear hnode;go_wp2_with fail;refine (h3.add hv3 hn5).mono ?_;rintro e w4 ⟨rfl,pv4,xs4,b4,o4,h4,_,_⟩;go_wp2_with fail;go_roundg (QJ (push a1 b4 o4 (push r1 b (o+4) Ls)))
    case measure=>
     rw [HG.out,QT,QT];simp only [QJ,List.map_cons,List.sum_cons,Ts.nodes];omega
    case rel=>
     refine ⟨_,_,_,h4,rfl,?_,?_⟩
     ·rw [QT,QT];simp only [QJ,List.map_cons,List.sum_cons,Ts.nodes] at hsm⊢;omega
     ·rw [hres.out,Qiv,Qiv]
def Qd0 (vars : Int) (ar : Ts) : Prop := ∀ (k n : Int) (s : ByteArray) (v : Value) (w : World), Sl w (fun _ => True) v ar → ar.nodes ≤ 1048576 →
    Calls Tryz.prog 156 #[.agg #[.int .i64 k,.int .i64 n,.string s,v],.int .i64 vars] w fun e w'=>e= .returned (.bool ((Ts.cons k n s ar .nil).good vars))∧Below w.heap.size w w'
def QtY (W:World) (T:Ts) (vars:Int) (g:Nat) (s11:Value) (wr:World):Prop:=∃D R:Ts,T=D.app R∧D.good vars=true∧Below W.heap.size W wr∧g=R.length∧s11= .int .i64 D.length
theorem Ts.good_app (v:Int) (D R:Ts):(D.app R).good v=(D.good v&&R.good v):=by
 induction D with
 |nil=>rfl
 |cons k n b ar r _ ih=>simp only [Ts.app,Ts.good,ih,Bool.and_assoc]
theorem Ts.good_one (v k n:Int) (s:ByteArray) (T:Ts):(Ts.cons k n s T .nil).good v=(Qai v k n s T.length&&T.good v):=by simp [Ts.good]
set_option maxHeartbeats 1000000 in
theorem Qqb (vars:Int) (m:Nat) (ih:∀T:Ts,T.nodes<m→Qd0 vars T) (T:Ts) (hm:T.nodes≤m):Qd0 vars T:=by
 intro k n s v w hv hn;obtain ⟨A,c,rfl,hs⟩:=hv.form;have hle:=T.length_le;have hl:T.length≤1048576:=by omega
 rw [Ts.good_one];generalize hres:(Qai vars k n s T.length&&T.good vars)=res;have HR:=Lib.hid hres;clear hres;have HN:=Lib.hid hn;have HM:=Lib.hid hm;clear hn hm;go_enter Tryz.func156,Tryz.ntmps156;go_wp2_with fail;have hW0:Below w.heap.size w (w.alloc (.cells #[.int .i64 k,.int .i64 n,.string s,.slice A T.length c] 63)):=(Below.refl _ _).alloc (Nat.le_refl _) _;have bA:=QD.new w 63 #[.int .i64 k,.int .i64 n,.string s,.slice A T.length c];generalize w.alloc (.cells #[.int .i64 k,.int .i64 n,.string s,.slice A T.length c] 63)=W at*;have hs1:=hs.below hW0
 have h0:QtY W T vars T.length (.int .i64 0) W:=⟨.nil,T,rfl,rfl,Below.refl _ _,rfl,rfl⟩
 go_loopg [11] T.length (QtY W T vars)
 case atStart=>exact h0
 case round=>
  clear h0;obtain ⟨D,R,hT,hD,hb,hg,rfl⟩:=hrel;have HG:=Lib.hid hg;clear hg
  cases R with
  |nil=>
   have eD:D=T:=by rw [hT,Ts.app_nil]
   subst eD;have HD:=Lib.hid hD;clear hD hT;have bA:=bA.below hb;obtain ⟨p0,p1,p2,p3,_⟩:=bA.four;have hB:Below w.heap.size w wr:=hW0.trans (hb.mono hW0.size);clear hb hW0 bA hs1 hs hv hle;have HE:=Lib.hid (show Qai vars k n s D.length=res by rw [←HR.out,HD.out,Bool.and_true]);clear HR HD;generalize D.length=l at*;by_cases h0:k=0
   ·subst h0;have R:=Lib.hid (show res=(decide (0≤n)&&decide (n<vars)&&decide (s.toList=[])&&decide (l=0)) by rw [←HE.out];simp [Qai]);go_wp2_with fail
    all_goals go_ret
    all_goals refine ⟨?_,hB⟩
    all_goals rw [R.out]
    all_goals refine QbA ?_
    all_goals rw [Bool.eq_iff_iff]
    all_goals simp [*]
    all_goals try omega
   have g0:(k==0)=false:=by simpa using h0
   by_cases h1:k=1
   ·subst h1;have R:=Lib.hid (show res=(decide (n=0)&&Qa5 s&&decide (l=0)) by rw [←HE.out];simp [Qai]);clear h0 g0;cases hb:Qa5 s
    all_goals
     have HB:=Lib.hid hb;clear hb;go_wp2_with (go_at_call 197;refine (Qis _ _).mono ?_;rintro e w' ⟨rfl,hB2⟩;rw [HB.out];have hB:=hB.trans (hB2.mono hB.size))
     all_goals go_ret
     all_goals refine ⟨?_,hB⟩
     all_goals rw [R.out,HB.out]
     all_goals refine QbA ?_
     all_goals rw [Bool.eq_iff_iff]
     all_goals simp [*]
     all_goals try omega
   have g1:(k==1)=false:=by simpa using h1
   by_cases h2:k=2
   ·subst h2;have R:=Lib.hid (show res=(decide (-1099511627776≤n)&&decide (n≤1099511627776)&&decide (s.toList=[])&&decide (l=0)) by rw [←HE.out];simp [Qai]);clear h0 g0 h1 g1;go_wp2_with fail
    all_goals go_ret
    all_goals refine ⟨?_,hB⟩
    all_goals rw [R.out]
    all_goals refine QbA ?_
    all_goals rw [Bool.eq_iff_iff]
    all_goals simp [*]
    all_goals try omega
   have g2:(k==2)=false:=by simpa using h2
   by_cases h3:k=3
   ·subst h3;clear h0 g0 h1 g1 h2 g2;have R:=Lib.hid (show res=(decide (n=0)&&Qa5 s&&decide (¬s.toList=[33])&&decide (1≤l)&&decide (l≤4)) by rw [←HE.out];simp [Qai]);cases hb:Qa5 s
    all_goals
     have HB:=Lib.hid hb;clear hb;go_wp2_with (go_at_call 197;refine (Qis _ _).mono ?_;rintro e w' ⟨rfl,hB2⟩;rw [HB.out];have hB:=hB.trans (hB2.mono hB.size))
     all_goals go_ret
     all_goals refine ⟨?_,hB⟩
     all_goals rw [R.out,HB.out]
     all_goals refine QbA ?_
     all_goals rw [Bool.eq_iff_iff]
     all_goals simp [*]
     all_goals try omega
   have g3:(k==3)=false:=by simpa using h3
   have R:=Lib.hid (show res=false by rw [←HE.out];simp [Qai,h0,h1,h2,h3]);clear h0 h1 h2 h3;go_wp2_with fail;go_ret;exact ⟨by rw [R.out];rfl,hB⟩
  |cons k1 n1 s1 ar r=>
   have e1:D.length<T.length:=by rw [hT,Ts.length_app];simp [Ts.length]
   have e2:ar.nodes<m:=by have:=HM.out;rw [hT,Ts.nodes_app] at this;simp [Ts.nodes] at this;omega
   have e3:ar.nodes≤1048576:=by have:=HN.out;rw [hT,Ts.nodes_app] at this;simp [Ts.nodes] at this;omega
   have hsl:Sl wr (fun _=>True) (.slice A T.length c) (D.app (.cons k1 n1 s1 ar r)):=by
    rw [←hT];exact hs1.below hb
   obtain ⟨b1,o1,rfl,hq1⟩:=Sl.at_ hsl Y1;obtain ⟨_,c10,c11,c12,⟨v1,c13,hv1⟩,_⟩:=QL.1 hq1;obtain ⟨A1,d1,rfl,hv1⟩:=hv1.form;have HT:=Lib.hid hT;have HD:=Lib.hid hD;clear hq1 hsl hT hD
   have hgood:T.good vars=((Ts.cons k1 n1 s1 ar .nil).good vars&&r.good vars):=by
    rw [HT.out,Ts.good_app,HD.out];simp [Ts.good]
   have hnext:(Ts.cons k1 n1 s1 ar .nil).good vars=true→(D.app (.cons k1 n1 s1 ar .nil)).good vars=true:=fun h=>by rw [Ts.good_app,HD.out,h];rfl
   have HGD:=Lib.hid hgood;have HNX:=Lib.hid hnext;clear hgood hnext;go_wp2_with fail;refine (ih ar e2 k1 n1 s1 _ _ (hv1.below ((Below.refl _ _).alloc (Nat.le_refl _) _)) e3).mono ?_;rintro e w2 ⟨rfl,hb2⟩;have hb3:Below W.heap.size W w2:=(hb.trans (((Below.refl _ _).alloc (Nat.le_refl _) _).mono hb.size)).trans (hb2.mono (by have:=hb.size;simp;omega))
   cases hx:(Ts.cons k1 n1 s1 ar .nil).good vars with
   |false=>
    go_wp2_with fail;go_ret;refine ⟨?_,hW0.trans (hb3.mono hW0.size)⟩;rw [←HR.out,HGD.out,hx];simp
   |true=>
    go_wp2_with fail;go_roundg r.length
    case measure=>rw [HG.out];simp [Ts.length]
    case rel=>
     refine ⟨D.app (.cons k1 n1 s1 ar .nil),r,?_,HNX.out hx,hb3,rfl,?_⟩
     ·rw [HT.out,Ts.app_assoc];rfl
     ·rw [Ts.length_app];rfl
theorem Ql1 (vars:Int) (T:Ts):Qd0 vars T:=by
 have:∀m,∀T:Ts,T.nodes<m→Qd0 vars T:=by
  intro m
  induction m with
  |zero=>intro T h;omega
  |succ m ih=>intro T h;exact Qqb vars m ih T Ya
 exact this _ T (Nat.lt_succ_self _)
theorem QcA {B b:Nat} (hb:B≤b):∀(vs:List Value) (o:Nat) (w:World),Below B w (w.setCells b o vs)
 |[],_,w=>Below.refl _ w
 |v::r,o,w=>((Below.refl B w).setCell (p:=⟨b,o,none⟩) hb v).trans (QcA hb r (o+1) _)
theorem QoB {W W':World} {size:Nat} {ao:Option Addr} {b off len cap:Nat} {olds:List Value} (h:Came W size ao b off len cap olds) (hb:Below W.heap.size W W'):Came W' size ao b off len cap olds:=by
 have hz:=hb.size;rcases Nat.eq_zero_or_pos cap with h0|h0
 ·have hl:=h.le;have e0:len=0:=by omega
  subst h0 e0;have ho:olds=[]:=List.eq_nil_of_length_eq_zero (by simpa using h.oldsLen);subst ho;exact ⟨Nat.le_refl _,fun h=>absurd h (Nat.lt_irrefl _),fun h=>absurd h (Nat.lt_irrefl _),by simp,fun j u hu=>by simp at hu,fun j hj=>by simp at hj⟩
 ·have hlt:=h.lt h0;refine ⟨h.le,h.addr,fun _=>by omega,h.oldsLen,fun j u hu=> ?_,fun j hj=> ?_⟩
  ·rw [hb.cell (p:=⟨b,off+j,none⟩) hlt];exact h.olds j u hu
  ·rw [hb.cell (p:=⟨b,off+len*size+j,none⟩) hlt,hb.frozen (p:=⟨b,off+len*size+j,none⟩) hlt];exact h.spare j hj
theorem QgW {P:Program} {W:World} {e:TypeId} {size:Nat} {ao:Option Addr} {b off len cap:Nat} {olds:List Value} (hc:Came W size ao b off len cap olds)
  (t tx ty:TypeId) (i:TypeInfo) (z:Value) (bytes:Nat) (ht:P.underlying t=some (.slice e)) (hi:P.info? e=some i) (hz:i.zero=some z) (hsize:i.size=size) (hby:i.bytes=bytes) (hzs:z.cells.size=size)
  (x:Value) (n:Nat) (news:List Value) (hs:Src P size tx x n news W) (h63:len+n≤maxLen) (hbytes:(len+n)*bytes≤140737488355328) (B:Nat) (hB:0<cap→B≤b) (hBW:B≤W.heap.size):
  ∃ao' b' off' cap' w',(Builtin.append_ #[t,tx] ty #[.slice ao len cap,x]).run P W= .ok (.slice ao' (len+n) cap') w'∧Came w' size ao' b' off' (len+n) cap' (olds++news)∧(0<cap'→B≤b')∧Below B W w':=by
 subst hsize hby;have hol:=hc.oldsLen;have hnl:=hs.newsLen;have hle:=hc.le;have hlen:(olds++news).length=(len+n)*i.size:=by rw [List.length_append,hol,hnl,Nat.add_mul]
 have hsmall:len+n≤9223372036854775807:=by simp only [maxLen] at h63;omega
 by_cases hfit:len+n≤cap
 ·rcases Nat.eq_zero_or_pos cap with h0|hcap
  ·subst h0;obtain rfl:n=0:=by omega
   obtain rfl:news=[]:=List.eq_nil_of_length_eq_zero (by simpa using hnl);exact ⟨ao,b,off,0,W,run_append_nothing (P:=P) W t tx ty e i ht hi ao len 0 hle x hs,by simpa using hc,fun h=>absurd h (Nat.lt_irrefl _),Below.refl _ _⟩
  ·have hao:=hc.addr hcap;subst hao;have hrc:(len+n)*i.size≤cap*i.size:=Nat.mul_le_mul_right _ hfit
   have hsp:∀j,j<news.length→j<(cap-len)*i.size:=fun j hj=>by rw [Nat.sub_mul];rw [Nat.add_mul] at hrc;omega
   have hrun:=run_append_room_src (P:=P) W t tx ty e i ht hi b off len cap x n news hs hfit (fun j hj=>(hc.spare j (hsp j hj)).1) (fun j hj=>(hc.spare j (hsp j hj)).2);refine ⟨_,b,off,cap,_,hrun,⟨hfit,fun _=>rfl,fun _=> ?_,hlen,fun j u hu=> ?_,fun j hj=> ?_⟩,hB,QcA (hB hcap) _ _ _⟩
   ·have:=(QcA (Nat.le_refl b) news (off+len*i.size) W).size;have:=hc.lt hcap;omega
   ·by_cases hj:j<olds.length
    ·rw [List.getElem?_append_left hj] at hu;rw [World.cell?_setCells_out b news _ W ⟨b,off+j,none⟩ (fun _ _=> .inl Yh)];exact hc.olds j u hu
    ·rw [List.getElem?_append_right Ya] at hu;obtain ⟨h1,h2⟩:=List.getElem?_eq_some_iff.1 hu;have:=World.cell?_setCells_in b news (off+len*i.size) W (fun j hj=>(hc.spare j (hsp j hj)).1) (j-olds.length) h1;rw [show off+len*i.size+(j-olds.length)=off+j by omega,h2] at this;exact this
   ·have hjj:n*i.size+j<(cap-len)*i.size:=by
     rw [Nat.sub_mul] at hj⊢;rw [Nat.add_mul] at hj hrc;omega
    have h1:=hc.spare (n*i.size+j) hjj;rw [Nat.add_mul];rw [World.cell?_setCells_out b news _ W _ (fun _ _=> .inr Yh),World.frozen?_setCells]
    rwa [show off+(len*i.size+n*i.size)+j=off+len*i.size+(n*i.size+j) by omega]
 ·have hold:(Builtin.firstCells i.size len (.slice ao len cap)).run P W.drew= .ok olds.toArray W.drew:=by
   rcases Nat.eq_zero_or_pos cap with h0|hcap
   ·have e0:len=0:=by omega
    subst h0 e0;have ho:olds=[]:=List.eq_nil_of_length_eq_zero (by simpa using hol);subst ho
    cases ao with
    |none=>exact run_firstCells_none W.drew i.size 0 0 0
    |some a=>exact run_firstCells_some W.drew i.size 0 a 0 0 [] Yd (fun j v hv=>by simp at hv)
   ·have hao:=hc.addr hcap;subst hao;refine run_firstCells_some W.drew i.size len _ len cap olds hol fun j v hv=> ?_;rw [Addr.add_lit];exact hc.olds j v hv
  have hrun:=run_append_grow_src (P:=P) W t tx ty e i z ht hi hz ao len cap olds hold x n news hs Ya Ya (growslice_fits Ya hbytes);have hge:=grownCap_ge W (len+n) cap e
  have hsz:((olds++news).toArray++Builtin.zeroCells z.cells (grownCap W (len+n) cap e-(len+n))).size=grownCap W (len+n) cap e*i.size:=by
   rw [Array.size_append,List.size_toArray,hlen,size_zeroCells,hzs,←Nat.add_mul];congr 1;omega
  have hpl:=QD.new W.drew e ((olds++news).toArray++Builtin.zeroCells z.cells (grownCap W (len+n) cap e-(len+n)));refine ⟨_,W.heap.size,0,_,_,hrun,⟨hge,fun _=>rfl,fun _=>by simp,hlen,fun j u hu=> ?_,fun j hj=> ?_⟩,fun _=>hBW,((Below.refl _ _).drew).alloc hBW _⟩
  ·have h1:=hpl.cell (0+j);have h2:=(List.getElem?_eq_some_iff.1 hu).1;rw [Nat.zero_add,Array.getElem?_append_left (by simpa using h2),List.getElem?_toArray,hu] at h1;rw [Nat.zero_add];exact h1
  ·have h1:=hpl.cell (0+(len+n)*i.size+j);refine ⟨?_,hpl.frozen _⟩
   have hj2:0+(len+n)*i.size+j<grownCap W (len+n) cap e*i.size:=by
    rw [Nat.sub_mul] at hj;omega
   rw [Array.getElem?_eq_getElem (by rw [hsz];exact hj2)] at h1;exact Option.isSome_iff_exists.2 ⟨_,h1⟩
theorem Qex {P:Program} {ops:Array Oper} {rest:List Oper} {o:Oper} {a:Act} {Q:Exit→Act→World→Prop} (W:World) (hgd:o.guard=none) (s x:Operand) (t tx:TypeId)
  (ho:o.op= .call { callee:= .builtin .append,args:= #[s,x],argTypes:= #[t,tx] }) {e:TypeId} {size:Nat} {ao:Option Addr} {b off len cap:Nat} {olds:List Value} (hc:Came W size ao b off len cap olds)
  (i:TypeInfo) (z:Value) (bytes:Nat) (ht:P.underlying t=some (.slice e)) (hi:P.info? e=some i) (hz:i.zero=some z) (hsize:i.size=size) (hby:i.bytes=bytes) (hzs:z.cells.size=size)
  (hv:a.eval s= .slice ao len cap) (xv:Value) (n:Nat) (news:List Value) (hx:a.eval x=xv) (hs:Src P size tx xv n news W) (h63:len+n≤maxLen) (hbytes:(len+n)*bytes≤140737488355328) (B:Nat) (hB:0<cap→B≤b) (hBW:B≤W.heap.size)
  (hK:∀ao' b' off' cap' w',Came w' size ao' b' off' (len+n) cap' (olds++news)→(0<cap'→B≤b')→Below B W w'→wpList P ops Q rest (a.put o.dst (.slice ao' (len+n) cap')) w'):wpList P ops Q (o::rest) a W:=by
 refine wpList_plain hgd fun K hK'=> ?_;obtain ⟨ao',b',off',cap',w',hrun,h1,h2,h3⟩:=QgW (P:=P) hc t tx o.type i z bytes ht hi hz hsize hby hzs xv n news hs h63 hbytes B hB hBW;unfold Oper.wp;simp [execOp,ho,resolve,invoke,builtin,hv,hx,hrun,Result.andThen];exact hK' _ _ (hK _ _ _ _ _ h1 h2 h3)
theorem Sl.src {P:Program} {W:World} {p:Nat→Prop} {A:Option Addr} {c:Nat} {T:Ts} {tx e':TypeId} (hk:P.underlying tx=some (.slice e')) (h:Sl W p (.slice A T.length c) T):
  ∃news,Src P 4 tx (.slice A T.length c) T.length news W∧Cs W p T news:=by
 obtain ⟨A',c',e,hle,hs⟩:=h;simp only [Value.slice.injEq,true_and] at e;obtain ⟨rfl,rfl⟩:=e;rcases Nat.eq_zero_or_pos T.length with h0|h0
 ·have e:=Ts.nil_of_length h0;subst e;refine ⟨[],?_,rfl⟩
  cases A with
  |none=>exact Src.ofNil W hk c
  |some a=>exact Src.ofSlice W hk a 0 c [] rfl (fun j u hu=>by simp at hu) (fun u hu=>by cases hu)
 ·obtain ⟨b,o,rfl,hq⟩:=hs h0;obtain ⟨xs,h1,h2⟩:=hq.cells;refine ⟨xs,Src.ofSlice W hk _ _ c xs h1.length (fun j u hu=> ?_) h1.one,h1⟩;rw [Addr.add_lit];exact h2 j u hu
def QtT (w:World) (N:Nat) (g:Nat) (s3 s4:Value) (wr:World):Prop:=∃(Q:Ts) (ao:Option Addr) (b off cap:Nat) (olds:List Value) (c:Nat),s3= .int .i64 c∧c+Q.nodes=N∧g=Q.nodes∧
 s4= .slice ao Q.length cap∧Came wr 4 ao b off Q.length cap olds∧Cs wr (fun k=>k<w.heap.size) Q olds∧(0<cap→w.heap.size≤b)∧Below w.heap.size w wr
set_option maxRecDepth 100000 in
set_option maxHeartbeats 1000000 in
theorem QlS (k n:Int) (s:ByteArray) (T:Ts) (v:Value) (w:World) (hv:Sl w (fun _=>True) v T) (hn:T.nodes<1048576):
  Calls Tryz.prog 157 #[.agg #[.int .i64 k,.int .i64 n,.string s,v]] w fun e w'=>e= .returned (.int .i64 (T.nodes+1:Nat))∧Below w.heap.size w w':=by
 obtain ⟨A,c,rfl,hs⟩:=hv.form;obtain ⟨i0,hi0,hz0,hz1,hz2⟩:=info_parts Qdy;go_enter Tryz.func157,Tryz.ntmps157;go_wp2_with fail;have bA:=QD.new w 63 #[.int .i64 k,.int .i64 n,.string s,.slice A T.length c];have hW0:Below w.heap.size w (w.alloc (.cells #[.int .i64 k,.int .i64 n,.string s,.slice A T.length c] 63)):=(Below.refl _ _).alloc (Nat.le_refl _) _;generalize (w.alloc (.cells #[.int .i64 k,.int .i64 n,.string s,.slice A T.length c] 63))=W0 at*
 refine Qbe (fun ws=>QD ws w.heap.size 63 #[.int .i64 k,.int .i64 n,.string s,.slice A T.length c])
  3 [(0,true),(2,true),(1,false)] Yc Yc bA.drew ?_
 iterate 2
  refine Qbr rfl rfl ⟨?_,fun w' hS=> ?_,fun _ _ _ h=>h,?_⟩
  rotate_left
  ·obtain ⟨p0,p1,p2,p3,_⟩:=hS.four;clear hS;go_simp;exact rfl
 refine Qdc rfl ?_;go_wp2_with fail;refine ⟨bA.drew.alloc _,?_⟩;simp only [Qew,List.drop_succ_cons,List.drop_zero];go_wp2_with fail
 have h0:QtT w (T.nodes+1) (T.nodes+1) (.int .i64 0) (.slice (some ⟨W0.heap.size,0,none⟩) 1 1) (W0.alloc (.cells #[.int .i64 k,.int .i64 n,.string s,.slice A T.length c] 63)).drew:=by
  have hz:=hW0.size;have hb1:Below w.heap.size w (W0.alloc (.cells #[.int .i64 k,.int .i64 n,.string s,.slice A T.length c] 63)).drew:=(hW0.alloc hz _).drew;have bB:=(QD.new W0 63 #[.int .i64 k,.int .i64 n,.string s,.slice A T.length c]).drew;refine ⟨.cons k n s T .nil,_,W0.heap.size,0,1,[.int .i64 k,.int .i64 n,.string s,.slice A T.length c],0,rfl,by simp [Ts.nodes],by simp [Ts.nodes],rfl,?_,⟨_,[],rfl,?_,rfl⟩,fun _=>hz,hb1⟩
  ·refine ⟨Nat.le_refl _,fun _=>rfl,fun _=>bB.lt,rfl,fun j u hu=> ?_,fun j hj=>by simp [Ts.length] at hj⟩;rw [Nat.zero_add,bB.cell j];simpa using hu
  ·exact (hs.imp (q:=fun k=>k<w.heap.size) fun k _ h=>h).below hb1
 have hN:T.nodes+1≤1048576:=hn;generalize hNN:T.nodes+1=N at*;have HNN:=Lib.hid hNN;clear hNN;generalize (W0.alloc (.cells #[.int .i64 k,.int .i64 n,.string s,.slice A T.length c] 63)).drew=W1 at*;go_loopg [3,4] N (QtT w N)
 case atStart=>exact h0
 case round=>
  clear h0 bA hW0;obtain ⟨Q,ao,b,off,cap,olds,cn,rfl,hcn,hg,rfl,hcm,hcs,hbb,hB⟩:=hrel;have hQ:Q.nodes≤N:=by omega
  have hQl:=Q.length_le;have HG:=Lib.hid hg;clear hg
  cases Q with
  |nil=>
   go_wp2_with fail;go_ret;refine ⟨?_,hB⟩;rw [HNN.out,←hcn];rfl
  |cons k1 n1 s1 ar r=>
   obtain ⟨u,xs,rfl,hu,hxs⟩:=hcs;obtain ⟨Au,cu,rfl,hu⟩:=hu.form
   have hcp:0<cap:=by have:=hcm.le;simp [Ts.length] at this;omega
   have hao:=hcm.addr hcp;subst hao;have hblt:=hcm.lt hcp;have c10:wr.cell? ⟨b,off,none⟩=some (.int .i64 k1):=hcm.olds 0 _ rfl;have c11:wr.cell? ⟨b,off+1,none⟩=some (.int .i64 n1):=hcm.olds 1 _ rfl;have c12:wr.cell? ⟨b,off+2,none⟩=some (.string s1):=hcm.olds 2 _ rfl;have c13:wr.cell? ⟨b,off+3,none⟩=some (.slice Au ar.length cu):=hcm.olds 3 _ rfl;have hlc:r.length+1≤cap:=hcm.le;have hl1:(Ts.cons k1 n1 s1 ar r).length=r.length+1:=rfl;rw [hl1];have h1c:(1:Int)≤(r.length:Int)+1:=by omega
   have hcm1:Came wr 4 (if cap=1 then some ⟨b,off,none⟩ else some ⟨b,off+4,none⟩) b (off+4) r.length (cap-1) xs:=by
    have hol:=hcm.oldsLen;simp only [List.length_cons,hl1] at hol;refine ⟨by omega,fun h=>by rw [if_neg Ya],fun _=>hblt,by omega,fun j u hu=> ?_,fun j hj=> ?_⟩
    ·have:=hcm.olds (j+4) u (by simpa using hu)
     rwa [show off+(j+4)=off+4+j by omega] at this
    ·have:=hcm.spare j (by rw [hl1];omega);rw [hl1] at this
     rwa [show off+4+r.length*4+j=off+(r.length+1)*4+j by omega]
   go_wp2_with fail;have bX:=QD.new wr 63 #[.int .i64 k1,.int .i64 n1,.string s1,.slice Au ar.length cu];have hX:Below wr.heap.size wr (wr.alloc (.cells #[.int .i64 k1,.int .i64 n1,.string s1,.slice Au ar.length cu] 63)):=(Below.refl _ _).alloc (Nat.le_refl _) _;generalize (wr.alloc (.cells #[.int .i64 k1,.int .i64 n1,.string s1,.slice Au ar.length cu] 63))=X at*
   refine Qbe (fun ws=>QD ws wr.heap.size 63 #[.int .i64 k1,.int .i64 n1,.string s1,.slice Au ar.length cu])
    4 [(0,true),(1,true),(2,true),(3,true)] Yc Yc bX.drew ?_
   refine Qbr rfl rfl ⟨?_,fun w' hS=> ?_,fun _ _ _ h=>h,?_⟩
   rotate_left
   ·go_simp;exact rfl
   refine Qbr rfl rfl ⟨?_,fun w' hS=> ?_,fun _ _ _ h=>h,?_⟩
   rotate_left
   ·clear hS;go_simp;exact rfl
   generalize (if cap=1 then some (⟨b,off,none⟩:Addr) else some ⟨b,off+4,none⟩)=ao' at hcm1⊢
   iterate 2
    refine Qbr rfl rfl ⟨?_,fun w' hS=> ?_,fun _ _ _ h=>h,?_⟩
    rotate_left
    ·obtain ⟨p0,p1,p2,p3,_⟩:=hS.four;clear hS;go_simp;exact rfl
   simp only [Qew,List.drop_succ_cons,List.drop_zero];have hXd:Below wr.heap.size wr X.drew:=hX.drew;have hz:=hB.size;have hzX:=hXd.size;have hcm2:=QoB hcm1 hXd;obtain ⟨news,hsrc,hnews⟩:=(hu.below hXd).src (P:=Tryz.prog) Tryz.underlying23;have hxs2:=hxs.below hXd
   have hnod:r.length+ar.length≤1048576:=by
    have h1:=r.length_le;have h2:=ar.length_le;simp only [Ts.nodes] at hQ;omega
   have hBX:Below w.heap.size w X.drew:=hB.trans (hXd.mono hz);refine Qex (P:=Tryz.prog) X.drew rfl (.tmp 15) (.tmp 17) 23 23 rfl (e:=63) hcm2 i0 _ 56 Tryz.underlying23 hi0 hz0 hz1 hz2 rfl rfl _ ar.length news rfl hsrc Yk Ya w.heap.size (fun h=>hbb Ya) Ya ?_;intro ao2 b2 off2 cap2 w2 hcm3 hbb3 hB3;go_wp2_with fail;go_roundg (r.app ar).nodes
   case measure=>rw [HG.out];simp only [Ts.nodes_app,Ts.nodes];omega
   case rel=>
    refine ⟨r.app ar,ao2,b2,off2,cap2,xs++news,cn+1,?_,?_,rfl,?_,?_,?_,hbb3,hBX.trans (hB3.mono (Nat.le_refl _))⟩
    ·rfl
    ·simp only [Ts.nodes_app];simp only [Ts.nodes] at hcn;omega
    ·rw [Ts.length_app]
    ·rw [Ts.length_app];exact hcm3
    ·exact (Cs.app hxs2 hnews).keep fun k hk hl=>hB3.block k hk
def Qfx (k:Int):Bool:=decide (k=1)||decide (k=3)
def QM (t:List UInt8) (l:Nat):Bool:=
 if t=[33] then decide (l=0) else if t=[116,114,117,101] then decide (l=0) else if t=[102,97,105,108] then decide (l=0)
 else if t=[101,113] then decide (l=2) else if t=[108,101,115,115] then decide (l=2) else if t=[97,100,100] then decide (l=3) else false
theorem Qnk (k n:Int) (s:ByteArray) (v:Value) (w:World):Calls Tryz.prog 84 #[.agg #[.int .i64 k,.int .i64 n,.string s,v]] w fun e w'=>e= .returned (.bool (Qfx k))∧Below w.heap.size w w':=by
 by_cases h1:k=1
 ·subst h1;go_enter Tryz.func84,Tryz.ntmps84;go_wp2_with fail;go_ret;exact ⟨rfl,(Below.refl _ _).alloc (Nat.le_refl _) _⟩
 by_cases h3:k=3
 ·subst h3;go_enter Tryz.func84,Tryz.ntmps84;go_wp2_with fail;go_ret;exact ⟨rfl,(Below.refl _ _).alloc (Nat.le_refl _) _⟩
 have R:=Lib.hid (show Qfx k=false by simp [Qfx,h1,h3]);have g1:(k==1)=false:=by simpa using h1
 have g3:(k==3)=false:=by simpa using h3
 clear h1 h3;go_enter Tryz.func84,Tryz.ntmps84;go_wp2_with fail;go_ret;exact ⟨by rw [R.out];rfl,(Below.refl _ _).alloc (Nat.le_refl _) _⟩
set_option maxHeartbeats 1000000 in
theorem Qep (k n:Int) (s:ByteArray) (A:Option Addr) (l c:Nat) (w:World):Calls Tryz.prog 75 #[.agg #[.int .i64 k,.int .i64 n,.string s,.slice A l c]] w fun e w'=>e= .returned (.bool (QM s.toList l))∧Below w.heap.size w w':=by
 generalize hr:QM s.toList l=rb;have R:=Lib.hid hr;clear hr;go_enter Tryz.func75,Tryz.ntmps75;go_wp2_with fail
 all_goals go_ret
 all_goals refine ⟨?_,(Below.refl _ _).alloc (Nat.le_refl _) _⟩
 all_goals rw [←R.out]
 all_goals refine QbA ?_
 all_goals rw [Bool.eq_iff_iff]
 all_goals simp_all [QM]
 all_goals try omega
def QaE (S:World→Prop) (t:List UInt8) (l:Nat) (g:Nat) (s8:Value) (wr:World):Prop:=∃i:Nat,i≤6∧g=6-i∧s8= .int .i64 i∧S wr∧
 (0<i→¬(t=[33]∧l=0))∧(1<i→¬(t=[116,114,117,101]∧l=0))∧(2<i→¬(t=[102,97,105,108]∧l=0))∧
 (3<i→¬(t=[101,113]∧l=2))∧(4<i→¬(t=[108,101,115,115]∧l=2))∧(5<i→¬(t=[97,100,100]∧l=3))
def EvS (w:World) (k n:Int) (s:ByteArray) (A:Option Addr) (l c:Nat) (x:World):Prop:=QD x w.heap.size 63 #[.int .i64 k,.int .i64 n,.string s,.slice A l c]∧
 QD x (w.heap.size+1) 9 #[.string ⟨#[33,47,48]⟩,.string ⟨#[116,114,117,101,47,48]⟩,.string ⟨#[102,97,105,108,47,48]⟩,.string ⟨#[101,113,47,50]⟩,.string ⟨#[108,101,115,115,47,50]⟩,.string ⟨#[97,100,100,47,51]⟩]∧Below w.heap.size w x
theorem EvS.drewN {w x:World} {k n:Int} {s:ByteArray} {A:Option Addr} {l c:Nat} (h:EvS w k n s A l c x) (q:Nat):EvS w k n s A l c (x.drewN q):=⟨h.1.drewN q,h.2.1.drewN q,h.2.2.trans (QF _ _ _)⟩
theorem QaE.step0 {S:World→Prop} {W:World} (hS:S W) {t:List UInt8} {l:Nat} (hA:(0<0→¬(t=[33]∧l=0))∧(1<0→¬(t=[116,114,117,101]∧l=0))∧(2<0→¬(t=[102,97,105,108]∧l=0))∧(3<0→¬(t=[101,113]∧l=2))∧(4<0→¬(t=[108,101,115,115]∧l=2))∧(5<0→¬(t=[97,100,100]∧l=3))) (h:¬(t=[33]∧l=0)):QaE S t l 5 (.int .i64 1) W:=by
 obtain ⟨hA0,hA1,hA2,hA3,hA4,hA5⟩:=hA;exact ⟨1,by omega,rfl,rfl,hS,fun _=>h,fun hh=>absurd hh Ya,fun hh=>absurd hh Ya,fun hh=>absurd hh Ya,fun hh=>absurd hh Ya,fun hh=>absurd hh Ya⟩
theorem QaE.step1 {S:World→Prop} {W:World} (hS:S W) {t:List UInt8} {l:Nat} (hA:(0<1→¬(t=[33]∧l=0))∧(1<1→¬(t=[116,114,117,101]∧l=0))∧(2<1→¬(t=[102,97,105,108]∧l=0))∧(3<1→¬(t=[101,113]∧l=2))∧(4<1→¬(t=[108,101,115,115]∧l=2))∧(5<1→¬(t=[97,100,100]∧l=3))) (h:¬(t=[116,114,117,101]∧l=0)):QaE S t l 4 (.int .i64 2) W:=by
 obtain ⟨hA0,hA1,hA2,hA3,hA4,hA5⟩:=hA;exact ⟨2,by omega,rfl,rfl,hS,fun _=>hA0 Ya,fun _=>h,fun hh=>absurd hh Ya,fun hh=>absurd hh Ya,fun hh=>absurd hh Ya,fun hh=>absurd hh Ya⟩
theorem QaE.step2 {S:World→Prop} {W:World} (hS:S W) {t:List UInt8} {l:Nat} (hA:(0<2→¬(t=[33]∧l=0))∧(1<2→¬(t=[116,114,117,101]∧l=0))∧(2<2→¬(t=[102,97,105,108]∧l=0))∧(3<2→¬(t=[101,113]∧l=2))∧(4<2→¬(t=[108,101,115,115]∧l=2))∧(5<2→¬(t=[97,100,100]∧l=3))) (h:¬(t=[102,97,105,108]∧l=0)):QaE S t l 3 (.int .i64 3) W:=by
 obtain ⟨hA0,hA1,hA2,hA3,hA4,hA5⟩:=hA;exact ⟨3,by omega,rfl,rfl,hS,fun _=>hA0 Ya,fun _=>hA1 Ya,fun _=>h,fun hh=>absurd hh Ya,fun hh=>absurd hh Ya,fun hh=>absurd hh Ya⟩
theorem QaE.step3 {S:World→Prop} {W:World} (hS:S W) {t:List UInt8} {l:Nat} (hA:(0<3→¬(t=[33]∧l=0))∧(1<3→¬(t=[116,114,117,101]∧l=0))∧(2<3→¬(t=[102,97,105,108]∧l=0))∧(3<3→¬(t=[101,113]∧l=2))∧(4<3→¬(t=[108,101,115,115]∧l=2))∧(5<3→¬(t=[97,100,100]∧l=3))) (h:¬(t=[101,113]∧l=2)):QaE S t l 2 (.int .i64 4) W:=by
 obtain ⟨hA0,hA1,hA2,hA3,hA4,hA5⟩:=hA;exact ⟨4,by omega,rfl,rfl,hS,fun _=>hA0 Ya,fun _=>hA1 Ya,fun _=>hA2 Ya,fun _=>h,fun hh=>absurd hh Ya,fun hh=>absurd hh Ya⟩
theorem QaE.step4 {S:World→Prop} {W:World} (hS:S W) {t:List UInt8} {l:Nat} (hA:(0<4→¬(t=[33]∧l=0))∧(1<4→¬(t=[116,114,117,101]∧l=0))∧(2<4→¬(t=[102,97,105,108]∧l=0))∧(3<4→¬(t=[101,113]∧l=2))∧(4<4→¬(t=[108,101,115,115]∧l=2))∧(5<4→¬(t=[97,100,100]∧l=3))) (h:¬(t=[108,101,115,115]∧l=2)):QaE S t l 1 (.int .i64 5) W:=by
 obtain ⟨hA0,hA1,hA2,hA3,hA4,hA5⟩:=hA;exact ⟨5,by omega,rfl,rfl,hS,fun _=>hA0 Ya,fun _=>hA1 Ya,fun _=>hA2 Ya,fun _=>hA3 Ya,fun _=>h,fun hh=>absurd hh Ya⟩
theorem QaE.step5 {S:World→Prop} {W:World} (hS:S W) {t:List UInt8} {l:Nat} (hA:(0<5→¬(t=[33]∧l=0))∧(1<5→¬(t=[116,114,117,101]∧l=0))∧(2<5→¬(t=[102,97,105,108]∧l=0))∧(3<5→¬(t=[101,113]∧l=2))∧(4<5→¬(t=[108,101,115,115]∧l=2))∧(5<5→¬(t=[97,100,100]∧l=3))) (h:¬(t=[97,100,100]∧l=3)):QaE S t l 0 (.int .i64 6) W:=by
 obtain ⟨hA0,hA1,hA2,hA3,hA4,hA5⟩:=hA;exact ⟨6,by omega,rfl,rfl,hS,fun _=>hA0 Ya,fun _=>hA1 Ya,fun _=>hA2 Ya,fun _=>hA3 Ya,fun _=>hA4 Ya,fun _=>h⟩
theorem QoD {t:List UInt8} {l:Nat} (hA:(0<6→¬(t=[33]∧l=0))∧(1<6→¬(t=[116,114,117,101]∧l=0))∧(2<6→¬(t=[102,97,105,108]∧l=0))∧(3<6→¬(t=[101,113]∧l=2))∧(4<6→¬(t=[108,101,115,115]∧l=2))∧(5<6→¬(t=[97,100,100]∧l=3))):QM t l=false:=by
 obtain ⟨h0,h1,h2,h3,h4,h5⟩:=hA;unfold QM
 repeat' split
 all_goals simp_all
set_option maxHeartbeats 2000000 in
theorem QbY (k n:Int) (s:ByteArray) (A:Option Addr) (l c:Nat) (w:World):Calls Tryz.prog 103 #[.agg #[.int .i64 k,.int .i64 n,.string s,.slice A l c]] w fun e w'=>e= .returned (.bool (QM s.toList l))∧Below w.heap.size w w':=by
 generalize hr:QM s.toList l=rb;have R:=Lib.hid hr;clear hr;go_enter Tryz.func103,Tryz.ntmps103;go_wp2_with fail;have bT:=(QD.new w 63 #[.int .i64 k,.int .i64 n,.string s,.slice A l c]).alloc (.cells #[.string ⟨#[33,47,48]⟩,.string ⟨#[116,114,117,101,47,48]⟩,.string ⟨#[102,97,105,108,47,48]⟩,.string ⟨#[101,113,47,50]⟩,.string ⟨#[108,101,115,115,47,50]⟩,.string ⟨#[97,100,100,47,51]⟩] 9);have bS:=QD.new (w.alloc (.cells #[.int .i64 k,.int .i64 n,.string s,.slice A l c] 63)) 9 #[.string ⟨#[33,47,48]⟩,.string ⟨#[116,114,117,101,47,48]⟩,.string ⟨#[102,97,105,108,47,48]⟩,.string ⟨#[101,113,47,50]⟩,.string ⟨#[108,101,115,115,47,50]⟩,.string ⟨#[97,100,100,47,51]⟩];have hB:Below w.heap.size w ((w.alloc (.cells #[.int .i64 k,.int .i64 n,.string s,.slice A l c] 63)).alloc (.cells #[.string ⟨#[33,47,48]⟩,.string ⟨#[116,114,117,101,47,48]⟩,.string ⟨#[102,97,105,108,47,48]⟩,.string ⟨#[101,113,47,50]⟩,.string ⟨#[108,101,115,115,47,50]⟩,.string ⟨#[97,100,100,47,51]⟩] 9)):=((Below.refl _ _).alloc (Nat.le_refl _) _).alloc Yd _;simp only [World.size_alloc] at bS;generalize ((w.alloc (.cells #[.int .i64 k,.int .i64 n,.string s,.slice A l c] 63)).alloc (.cells #[.string ⟨#[33,47,48]⟩,.string ⟨#[116,114,117,101,47,48]⟩,.string ⟨#[102,97,105,108,47,48]⟩,.string ⟨#[101,113,47,50]⟩,.string ⟨#[108,101,115,115,47,50]⟩,.string ⟨#[97,100,100,47,51]⟩] 9))=W at*
 have h0:QaE (EvS w k n s A l c) s.toList l 6 (.int .i64 0) W:=⟨0,Nat.zero_le _,rfl,rfl,⟨bT,bS,hB⟩,fun h=>absurd h Ya,fun h=>absurd h Ya,fun h=>absurd h Ya,fun h=>absurd h Ya,fun h=>absurd h Ya,fun h=>absurd h Ya⟩
 clear bT bS hB;go_loopg [8] 6 (QaE (EvS w k n s A l c) s.toList l)
 case atStart=>exact h0
 case round=>
  obtain ⟨i,hi,hg,rfl,hS,hA⟩:=hrel;have HA:=Lib.hid hA;have HG:=Lib.hid hg;clear hA hg h0;have hB:=hS.2.2;obtain ⟨p0,p1,p2,p3,_⟩:=hS.1.four;have q0:=hS.2.1.cell 0;have q1:=hS.2.1.cell 1;have q2:=hS.2.1.cell 2;have q3:=hS.2.1.cell 3;have q4:=hS.2.1.cell 4;have q5:=hS.2.1.cell 5;simp at q0 q1 q2 q3 q4 q5;have HS:=Lib.hid hS;clear hS
  have x0:((⟨#[33,47,48]⟩:ByteArray).extract 0 1).toList=[33]:=by rw [ByteArray.toList_eq];rfl
  have x1:((⟨#[116,114,117,101,47,48]⟩:ByteArray).extract 0 4).toList=[116,114,117,101]:=by rw [ByteArray.toList_eq];rfl
  have x2:((⟨#[102,97,105,108,47,48]⟩:ByteArray).extract 0 4).toList=[102,97,105,108]:=by rw [ByteArray.toList_eq];rfl
  have x3:((⟨#[101,113,47,50]⟩:ByteArray).extract 0 2).toList=[101,113]:=by rw [ByteArray.toList_eq];rfl
  have x4:((⟨#[108,101,115,115,47,50]⟩:ByteArray).extract 0 4).toList=[108,101,115,115]:=by rw [ByteArray.toList_eq];rfl
  have x5:((⟨#[97,100,100,47,51]⟩:ByteArray).extract 0 3).toList=[97,100,100]:=by rw [ByteArray.toList_eq];rfl
  have y0:((⟨#[33,47,48]⟩:ByteArray)[2]'Yg).toNat=48:=rfl;have y1:((⟨#[116,114,117,101,47,48]⟩:ByteArray)[5]'Yg).toNat=48:=rfl;have y2:((⟨#[102,97,105,108,47,48]⟩:ByteArray)[5]'Yg).toNat=48:=rfl;have y3:((⟨#[101,113,47,50]⟩:ByteArray)[3]'Yg).toNat=50:=rfl;have y4:((⟨#[108,101,115,115,47,50]⟩:ByteArray)[5]'Yg).toNat=50:=rfl;have y5:((⟨#[97,100,100,47,51]⟩:ByteArray)[4]'Yg).toNat=51:=rfl;have hi':i=0∨i=1∨i=2∨i=3∨i=4∨i=5∨i=6:=by omega
  rcases hi' with rfl|rfl|rfl|rfl|rfl|rfl|rfl
  ·by_cases ht:s.toList=[33]
   ·have hte:(s.toList==[33])=true:=by simpa using ht
    by_cases hl:l=0
    ·subst hl;have HT:=Lib.hid ht;go_wp2_with fail;go_quiet (fail);go_wp2_with fail;go_ret;exact ⟨by rw [←R.out,HT.out];rfl,hB.trans (QF _ _ _)⟩
    ·have hlz:((l:Int)==0)=false:=by simp;omega
     have HN:Hid (¬(s.toList=[33]∧l=0)):=Lib.hid fun h=>hl h.2;clear hl;go_wp2_with fail;go_quiet (fail);go_wp2_with fail;go_roundg 5
     case measure=>rw [HG.out];omega
     case rel=>exact QaE.step0 (HS.out.drewN _) HA.out HN.out
   ·have hte:(s.toList==[33])=false:=by simpa using ht
    have HN:Hid (¬(s.toList=[33]∧l=0)):=Lib.hid fun h=>ht h.1;clear ht;go_wp2_with fail;go_quiet (fail);go_wp2_with fail;go_roundg 5
    case measure=>rw [HG.out];omega
    case rel=>exact QaE.step0 (HS.out.drewN _) HA.out HN.out
  ·by_cases ht:s.toList=[116,114,117,101]
   ·have hte:(s.toList==[116,114,117,101])=true:=by simpa using ht
    by_cases hl:l=0
    ·subst hl;have HT:=Lib.hid ht;go_wp2_with fail;go_quiet (fail);go_wp2_with fail;go_ret;exact ⟨by rw [←R.out,HT.out];rfl,hB.trans (QF _ _ _)⟩
    ·have hlz:((l:Int)==0)=false:=by simp;omega
     have HN:Hid (¬(s.toList=[116,114,117,101]∧l=0)):=Lib.hid fun h=>hl h.2;clear hl;go_wp2_with fail;go_quiet (fail);go_wp2_with fail;go_roundg 4
     case measure=>rw [HG.out];omega
     case rel=>exact QaE.step1 (HS.out.drewN _) HA.out HN.out
   ·have hte:(s.toList==[116,114,117,101])=false:=by simpa using ht
    have HN:Hid (¬(s.toList=[116,114,117,101]∧l=0)):=Lib.hid fun h=>ht h.1;clear ht;go_wp2_with fail;go_quiet (fail);go_wp2_with fail;go_roundg 4
    case measure=>rw [HG.out];omega
    case rel=>exact QaE.step1 (HS.out.drewN _) HA.out HN.out
  ·by_cases ht:s.toList=[102,97,105,108]
   ·have hte:(s.toList==[102,97,105,108])=true:=by simpa using ht
    by_cases hl:l=0
    ·subst hl;have HT:=Lib.hid ht;go_wp2_with fail;go_quiet (fail);go_wp2_with fail;go_ret;exact ⟨by rw [←R.out,HT.out];rfl,hB.trans (QF _ _ _)⟩
    ·have hlz:((l:Int)==0)=false:=by simp;omega
     have HN:Hid (¬(s.toList=[102,97,105,108]∧l=0)):=Lib.hid fun h=>hl h.2;clear hl;go_wp2_with fail;go_quiet (fail);go_wp2_with fail;go_roundg 3
     case measure=>rw [HG.out];omega
     case rel=>exact QaE.step2 (HS.out.drewN _) HA.out HN.out
   ·have hte:(s.toList==[102,97,105,108])=false:=by simpa using ht
    have HN:Hid (¬(s.toList=[102,97,105,108]∧l=0)):=Lib.hid fun h=>ht h.1;clear ht;go_wp2_with fail;go_quiet (fail);go_wp2_with fail;go_roundg 3
    case measure=>rw [HG.out];omega
    case rel=>exact QaE.step2 (HS.out.drewN _) HA.out HN.out
  ·by_cases ht:s.toList=[101,113]
   ·have hte:(s.toList==[101,113])=true:=by simpa using ht
    by_cases hl:l=2
    ·subst hl;have HT:=Lib.hid ht;go_wp2_with fail;go_quiet (fail);go_wp2_with fail;go_ret;exact ⟨by rw [←R.out,HT.out];rfl,hB.trans (QF _ _ _)⟩
    ·have hlz:((l:Int)==2)=false:=by simp;omega
     have HN:Hid (¬(s.toList=[101,113]∧l=2)):=Lib.hid fun h=>hl h.2;clear hl;go_wp2_with fail;go_quiet (fail);go_wp2_with fail;go_roundg 2
     case measure=>rw [HG.out];omega
     case rel=>exact QaE.step3 (HS.out.drewN _) HA.out HN.out
   ·have hte:(s.toList==[101,113])=false:=by simpa using ht
    have HN:Hid (¬(s.toList=[101,113]∧l=2)):=Lib.hid fun h=>ht h.1;clear ht;go_wp2_with fail;go_quiet (fail);go_wp2_with fail;go_roundg 2
    case measure=>rw [HG.out];omega
    case rel=>exact QaE.step3 (HS.out.drewN _) HA.out HN.out
  ·by_cases ht:s.toList=[108,101,115,115]
   ·have hte:(s.toList==[108,101,115,115])=true:=by simpa using ht
    by_cases hl:l=2
    ·subst hl;have HT:=Lib.hid ht;go_wp2_with fail;go_quiet (fail);go_wp2_with fail;go_ret;exact ⟨by rw [←R.out,HT.out];rfl,hB.trans (QF _ _ _)⟩
    ·have hlz:((l:Int)==2)=false:=by simp;omega
     have HN:Hid (¬(s.toList=[108,101,115,115]∧l=2)):=Lib.hid fun h=>hl h.2;clear hl;go_wp2_with fail;go_quiet (fail);go_wp2_with fail;go_roundg 1
     case measure=>rw [HG.out];omega
     case rel=>exact QaE.step4 (HS.out.drewN _) HA.out HN.out
   ·have hte:(s.toList==[108,101,115,115])=false:=by simpa using ht
    have HN:Hid (¬(s.toList=[108,101,115,115]∧l=2)):=Lib.hid fun h=>ht h.1;clear ht;go_wp2_with fail;go_quiet (fail);go_wp2_with fail;go_roundg 1
    case measure=>rw [HG.out];omega
    case rel=>exact QaE.step4 (HS.out.drewN _) HA.out HN.out
  ·by_cases ht:s.toList=[97,100,100]
   ·have hte:(s.toList==[97,100,100])=true:=by simpa using ht
    by_cases hl:l=3
    ·subst hl;have HT:=Lib.hid ht;go_wp2_with fail;go_quiet (fail);go_wp2_with fail;go_ret;exact ⟨by rw [←R.out,HT.out];rfl,hB.trans (QF _ _ _)⟩
    ·have hlz:((l:Int)==3)=false:=by simp;omega
     have HN:Hid (¬(s.toList=[97,100,100]∧l=3)):=Lib.hid fun h=>hl h.2;clear hl;go_wp2_with fail;go_quiet (fail);go_wp2_with fail;go_roundg 0
     case measure=>rw [HG.out];omega
     case rel=>exact QaE.step5 (HS.out.drewN _) HA.out HN.out
   ·have hte:(s.toList==[97,100,100])=false:=by simpa using ht
    have HN:Hid (¬(s.toList=[97,100,100]∧l=3)):=Lib.hid fun h=>ht h.1;clear ht;go_wp2_with fail;go_quiet (fail);go_wp2_with fail;go_roundg 0
    case measure=>rw [HG.out];omega
    case rel=>exact QaE.step5 (HS.out.drewN _) HA.out HN.out
  ·go_wp2_with fail;go_ret;refine ⟨?_,hB⟩;rw [←R.out,QoD HA.out];rfl
structure VS (lb vb:Nat) (L:Nat) (w:World):Prop where
 left:QD w lb 3 #[.int .i64 L]
 fn:QD w vb 130 #[.func (.func 132) #[] #[.pointer (some ⟨lb,0,none⟩),.pointer (some ⟨vb,0,none⟩)]]
 ne:vb≠lb
theorem VS.far {lb vb L:Nat} {w w':World} (h:VS lb vb L w) (hb:Below w.heap.size w w'):VS lb vb L w':=⟨h.left.below hb,h.fn.below hb,h.ne⟩
def Qe7 (T : Ts) : Prop := ∀ (k n : Int) (s : ByteArray) (v : Value) (L lb vb B : Nat) (w : World), Sl w (fun k => k < B) v T → B ≤ lb → VS lb vb L w → L ≤ 24 → T.nodes ≤ 1048576 →
    Calls Tryz.prog 132 #[.agg #[.int .i64 k,.int .i64 n,.string s,v],.pointer (some ⟨lb,0,none⟩),.pointer (some ⟨vb,0,none⟩)] w fun e w'=>
     e= .returned (.bool (decide (T.nodes+1≤L)))∧(T.nodes+1≤L→VS lb vb (L-(T.nodes+1)) w')∧Chg (fun k=>k=lb) w w'
def Qsv (w:World) (T:Ts) (L lb vb:Nat) (g:Nat) (sx:Value) (wr:World):Prop:=∃D R:Ts,T=D.app R∧g=R.length∧sx= .int .i64 D.length∧D.nodes+1≤L∧VS lb vb (L-(D.nodes+1)) wr∧Chg (fun k=>k=lb) w wr
set_option maxHeartbeats 1000000 in
theorem Qq4 (m:Nat) (ih:∀T:Ts,T.nodes<m→Qe7 T) (T:Ts) (hm:T.nodes≤m):Qe7 T:=by
 intro k n s v L lb vb B w hv hBl hvs hL hn;obtain ⟨A,c,rfl,hs⟩:=hv.form;have hle:=T.length_le;have hW:Below w.heap.size w (w.alloc (.cells #[.int .i64 k,.int .i64 n,.string s,.slice A T.length c] 63)):=(Below.refl _ _).alloc (Nat.le_refl _) _;have hvs1:=hvs.far hW;have hs1:=hs.below hW;have bA:=QD.new w 63 #[.int .i64 k,.int .i64 n,.string s,.slice A T.length c];have l0:=hvs1.left.cell 0;have lf:=hvs1.left.frozen 0;simp at l0;have hlt:=hvs.left.lt;by_cases hL0:L=0
 ·subst hL0;go_enter Tryz.func132,Tryz.ntmps132;go_wp2_with fail;go_ret;exact ⟨rfl,fun h=>absurd h Ya,Chg.of_fresh hW⟩
 have hL1:0<L:=by omega
 obtain ⟨p0,p1,p2,p3,_⟩:=bA.four;have hne:w.heap.size≠lb:=by omega
 go_enter Tryz.func132,Tryz.ntmps132;go_wp2_with fail
 have hstart:VS lb vb (L-1) ((w.setCell ⟨lb,0,none⟩ (.int .i64 ((L:Int)-1))).alloc (.cells #[.int .i64 k,.int .i64 n,.string s,.slice A T.length c] 63)):=by
  refine ⟨?_,?_,hvs.ne⟩
  ·have h1:=(hvs.left.set_ 0 (.int .i64 ((L:Int)-1))).alloc (.cells #[.int .i64 k,.int .i64 n,.string s,.slice A T.length c] 63);rw [show ((L-1:Nat):Int)=(L:Int)-1 by omega];exact h1
  ·exact (hvs.fn.far (p:=⟨lb,0,none⟩) hvs.ne _).alloc _
 have hchg:Chg (fun k=>k=lb) w ((w.setCell ⟨lb,0,none⟩ (.int .i64 ((L:Int)-1))).alloc (.cells #[.int .i64 k,.int .i64 n,.string s,.slice A T.length c] 63)):=
  ((Chg.refl (fun k=>k=lb) w).setCell (p:=⟨lb,0,none⟩) (fun _=>rfl) _).alloc _
 have hcall:∀(args:Array Value) (x:World),(callFunc 132 args).run Tryz.prog x= .ok (.enter 132 args) x:=fun args x=>by simp [go_sem]
 generalize ((w.setCell ⟨lb,0,none⟩ (.int .i64 ((L:Int)-1))).alloc (.cells #[.int .i64 k,.int .i64 n,.string s,.slice A T.length c] 63))=W at*
 have h0:Qsv w T L lb vb T.length (.int .i64 0) W:=⟨.nil,T,rfl,rfl,rfl,hL1,hstart,hchg⟩
 clear hstart hchg hvs1 bA p0 p1 p2 p3 hne l0 lf hs1 hW;go_loopg [14] T.length (Qsv w T L lb vb)
 case atStart=>exact h0
 case round=>
  clear h0;obtain ⟨D,R,hT,hg,rfl,hD,hvr,hc⟩:=hrel;have HT:=Lib.hid hT;have HG:=Lib.hid hg;clear hT hg;have hsr:Sl wr (fun k=>k<B) (.slice A T.length c) T:=hs.chg hc fun k hk=>by omega
  cases R with
  |nil=>
   have eD:D=T:=by rw [HT.out,Ts.app_nil]
   subst eD;go_wp2_with fail;go_ret;refine ⟨?_,fun _=>hvr,hc⟩;rw [decide_eq_true hD];rfl
  |cons k1 n1 s1 ar r=>
   have e1:D.length<T.length:=by rw [HT.out,Ts.length_app];simp [Ts.length]
   have hnod:T.nodes=D.nodes+(1+ar.nodes+r.nodes):=by rw [HT.out,Ts.nodes_app];simp only [Ts.nodes];omega
   rw [HT.out] at hsr;rw [show (D.app (.cons k1 n1 s1 ar r)).length=T.length by rw [←HT.out]] at hsr;obtain ⟨b1,o1,rfl,hq1⟩:=Sl.at_ hsr Y1;obtain ⟨_,c10,c11,c12,⟨v1,c13,hv1⟩,_⟩:=QL.1 hq1;obtain ⟨A1,d1,rfl,hv1⟩:=hv1.form;clear hq1 hsr;have hX:Below wr.heap.size wr (wr.alloc (.cells #[.int .i64 k1,.int .i64 n1,.string s1,.slice A1 ar.length d1] 63)):=(Below.refl _ _).alloc (Nat.le_refl _) _;have hvx:=hvr.far hX;have f0:=hvx.fn.cell 0;simp at f0;go_wp2_with fail;have e2:ar.nodes<m:=by omega
   refine (ih ar e2 k1 n1 s1 _ (L-(D.nodes+1)) lb vb B _ (hv1.below hX) hBl hvx Ya Ya).mono ?_;rintro e w2 ⟨rfl,hok,hc2⟩;have hc3:Chg (fun k=>k=lb) w w2:=(hc.trans (Chg.of_fresh (S:=fun k=>k=lb) hX) fun _ _ h=>h).trans hc2 fun _ _ h=>h;by_cases hx:ar.nodes+1≤L-(D.nodes+1)
   ·have hok:=hok hx;rw [decide_eq_true hx]
    have hnx:Hid (VS lb vb (L-((D.app (.cons k1 n1 s1 ar .nil)).nodes+1)) w2):=Lib.hid (by
     rw [Ts.nodes_app];simp only [Ts.nodes];rw [show L-(D.nodes+(ar.nodes+0+1)+1)=L-(D.nodes+1)-(ar.nodes+1) by omega]
     exact hok)
    clear hok;go_wp2_with fail;go_roundg r.length
    case measure=>rw [HG.out];simp [Ts.length]
    case rel=>
     refine ⟨D.app (.cons k1 n1 s1 ar .nil),r,?_,rfl,?_,?_,hnx.out,hc3⟩
     ·rw [HT.out,Ts.app_assoc];rfl
     ·rw [Ts.length_app];rfl
     ·rw [Ts.nodes_app];simp only [Ts.nodes];omega
   ·rw [decide_eq_false hx];have hbig:Hid (¬T.nodes+1≤L):=Lib.hid Ya;clear hok;go_wp2_with fail;go_ret;refine ⟨?_,fun h=>absurd h hbig.out,hc3⟩;rw [decide_eq_false hbig.out];rfl
theorem QnN (T:Ts):Qe7 T:=by
 have:∀m,∀T:Ts,T.nodes<m→Qe7 T:=by
  intro m
  induction m with
  |zero=>intro T h;omega
  |succ m ih=>intro T h;exact Qq4 m ih T Ya
 exact this _ T (Nat.lt_succ_self _)
set_option maxHeartbeats 1000000 in
theorem QrP (k n:Int) (s:ByteArray) (T:Ts) (v:Value) (w:World) (hv:Sl w (fun _=>True) v T) (hn:T.nodes≤1048576):
  Calls Tryz.prog 85 #[.agg #[.int .i64 k,.int .i64 n,.string s,v],.int .i64 24] w fun e w'=>e= .returned (.bool (decide (T.nodes+1≤24)))∧Below w.heap.size w w':=by
 obtain ⟨A,c,rfl,hs⟩:=hv.form;have hs:=hs.imp (q:=fun k=>k<w.heap.size) fun k _ h=>h;have hW:Below w.heap.size w (((w.alloc (.cells #[.int .i64 k,.int .i64 n,.string s,.slice A T.length c] 63)).alloc (.cells #[.int .i64 24] 3)).alloc (.cells #[.func (.func 132) #[] #[.pointer (some ⟨w.heap.size+1,0,none⟩),.pointer (some ⟨w.heap.size+1+1,0,none⟩)]] 130)):=(((Below.refl _ _).alloc (Nat.le_refl _) _).alloc Yd _).alloc Yh _
 have hst:(store ⟨w.heap.size+1+1,0,none⟩ (.func (.func 132) #[] #[.pointer (some ⟨w.heap.size+1,0,none⟩),.pointer (some ⟨w.heap.size+1+1,0,none⟩)])).run Tryz.prog (((w.alloc (.cells #[.int .i64 k,.int .i64 n,.string s,.slice A T.length c] 63)).alloc (.cells #[.int .i64 24] 3)).alloc (.cells #[.nilFunc] 130))=
   .ok () (((w.alloc (.cells #[.int .i64 k,.int .i64 n,.string s,.slice A T.length c] 63)).alloc (.cells #[.int .i64 24] 3)).alloc (.cells #[.func (.func 132) #[] #[.pointer (some ⟨w.heap.size+1,0,none⟩),.pointer (some ⟨w.heap.size+1+1,0,none⟩)]] 130)):=by
  have hb:=QD.new ((w.alloc (.cells #[.int .i64 k,.int .i64 n,.string s,.slice A T.length c] 63)).alloc (.cells #[.int .i64 24] 3)) 130 #[.nilFunc];have e:=Qee ((w.alloc (.cells #[.int .i64 k,.int .i64 n,.string s,.slice A T.length c] 63)).alloc (.cells #[.int .i64 24] 3)) .nilFunc (.func (.func 132) #[] #[.pointer (some ⟨w.heap.size+1,0,none⟩),.pointer (some ⟨w.heap.size+1+1,0,none⟩)]) 130;have h:=Qcw (P:=Tryz.prog) (f:= .func 132) (x:= #[]) (y:= #[.pointer (some ⟨w.heap.size+1,0,none⟩),.pointer (some ⟨w.heap.size+1+1,0,none⟩)]) (hb.cell 0) (hb.frozen 0);rw [e] at h;simpa using h
 have hvs:VS (w.heap.size+1) (w.heap.size+1+1) 24 (((w.alloc (.cells #[.int .i64 k,.int .i64 n,.string s,.slice A T.length c] 63)).alloc (.cells #[.int .i64 24] 3)).alloc (.cells #[.func (.func 132) #[] #[.pointer (some ⟨w.heap.size+1,0,none⟩),.pointer (some ⟨w.heap.size+1+1,0,none⟩)]] 130)):=by
  refine ⟨?_,?_,by omega⟩
  ·have:=(QD.new (w.alloc (.cells #[.int .i64 k,.int .i64 n,.string s,.slice A T.length c] 63)) 3 #[.int .i64 24]).alloc (.cells #[.func (.func 132) #[] #[.pointer (some ⟨w.heap.size+1,0,none⟩),.pointer (some ⟨w.heap.size+1+1,0,none⟩)]] 130);simpa using this
  ·have:=QD.new ((w.alloc (.cells #[.int .i64 k,.int .i64 n,.string s,.slice A T.length c] 63)).alloc (.cells #[.int .i64 24] 3)) 130 #[.func (.func 132) #[] #[.pointer (some ⟨w.heap.size+1,0,none⟩),.pointer (some ⟨w.heap.size+1+1,0,none⟩)]];simpa using this
 have hcall:∀(args:Array Value) (x:World),(callFunc 132 args).run Tryz.prog x= .ok (.enter 132 args) x:=fun args x=>by simp [go_sem]
 go_enter Tryz.func85,Tryz.ntmps85;go_wp2_with fail;refine (QnN T k n s _ 24 (w.heap.size+1) (w.heap.size+1+1) w.heap.size _ (hs.below hW) Ya hvs (Nat.le_refl _) hn).mono ?_;rintro e w2 ⟨rfl,_,hc⟩;generalize hfb:decide (T.nodes+1≤24)=fb;have HFB:=Lib.hid hfb;clear hfb;go_wp2_with fail;go_ret;refine ⟨by rw [HFB.out];rfl,hW.trans (hc.below Yh fun k hk _=> ?_)⟩;have e:k=w.heap.size+1:=hk;omega
def gB (vars k n:Int) (s:ByteArray) (T:Ts):Bool:=Qfx k&&(Ts.cons k n s T .nil).good vars&&decide (T.nodes+1≤24)
set_option maxHeartbeats 1000000 in
theorem QfT (vars k n:Int) (s:ByteArray) (T:Ts) (v:Value) (w:World) (hv:Sl w (fun _=>True) v T) (hn:T.nodes<1048576):
  Calls Tryz.prog 50 #[.agg #[.int .i64 k,.int .i64 n,.string s,v],.int .i64 vars] w fun e w'=>e= .returned (.bool (gB vars k n s T))∧Below w.heap.size w w':=by
 obtain ⟨A,c,rfl,hs⟩:=hv.form;generalize hr:gB vars k n s T=rb;have R:=Lib.hid hr;clear hr;go_enter Tryz.func50,Tryz.ntmps50;go_wp2_with fail;have hW0:Below w.heap.size w (w.alloc (.cells #[.int .i64 k,.int .i64 n,.string s,.slice A T.length c] 63)):=(Below.refl _ _).alloc (Nat.le_refl _) _;have bA:=QD.new w 63 #[.int .i64 k,.int .i64 n,.string s,.slice A T.length c];generalize (w.alloc (.cells #[.int .i64 k,.int .i64 n,.string s,.slice A T.length c] 63))=W0 at*;have hs0:=hs.below hW0;refine (Qnk k n s _ W0).mono ?_;rintro e w1 ⟨rfl,hb1⟩;have hW1:=hW0.trans (hb1.mono hW0.size);have bA1:=bA.below hb1;have hs1:=hs0.below hb1
 cases hg:Qfx k with
 |false=>
  go_wp2_with fail;go_ret;refine ⟨?_,hW1⟩;rw [←R.out,gB,hg];rfl
 |true=>
  have HGK:=Lib.hid hg;clear hg;obtain ⟨p0,p1,p2,p3,_⟩:=bA1.four;go_wp2_with fail;refine (QrP k n s T _ _ hs1 Ya).mono ?_;rintro e w2 ⟨rfl,hb2⟩;have hW2:=hW1.trans (hb2.mono hW1.size);have bA2:=bA1.below hb2;have hs2:=hs1.below hb2;clear p0 p1 p2 p3;generalize hf:decide (T.nodes+1≤24)=fb;have HF:=Lib.hid hf;clear hf;obtain ⟨p0,p1,p2,p3,_⟩:=bA2.four
  cases fb with
  |false=>
   go_wp2_with fail;go_ret;refine ⟨?_,hW2⟩;rw [←R.out,gB,HF.out,Bool.and_false];rfl
  |true=>
   go_wp2_with fail;refine (QfR k n vars s T _ _ hs2 hn).mono ?_;rintro e w3 ⟨rfl,hb3⟩;generalize hq:(Ts.cons k n s T .nil).good vars=qb;have HQ:=Lib.hid hq;clear hq;go_wp2_with fail;go_ret;refine ⟨?_,hW2.trans (hb3.mono hW2.size)⟩;rw [←R.out,gB,HGK.out,HF.out,HQ.out,Bool.and_true,Bool.true_and];rfl
set_option maxHeartbeats 1000000 in
theorem Qj4 (vars k n:Int) (s:ByteArray) (T:Ts) (v:Value) (w:World) (hv:Sl w (fun _=>True) v T) (hn:T.nodes<1048576):
  Calls Tryz.prog 101 #[.agg #[.int .i64 k,.int .i64 n,.string s,v],.int .i64 vars] w fun e w'=>e= .returned (.bool (gB vars k n s T))∧Below w.heap.size w w':=by
 obtain ⟨A,c,rfl,hs⟩:=hv.form;generalize hr:gB vars k n s T=rb;have R:=Lib.hid hr;clear hr;have hW0:Below w.heap.size w (w.alloc (.cells #[.int .i64 k,.int .i64 n,.string s,.slice A T.length c] 63)):=(Below.refl _ _).alloc (Nat.le_refl _) _;have hs0:=hs.below hW0;by_cases hg:Qfx k=true
 ·have hk:k=1∨k=3:=by simpa [Qfx] using hg
  have HGK:=Lib.hid hg;clear hg
  have hk':((k==1)=true∧True)∨((k==1)=false∧(k==3)=true):=by
   rcases hk with rfl|rfl
   ·exact .inl ⟨rfl,trivial⟩
   ·exact .inr ⟨rfl,rfl⟩
  clear hk;rcases hk' with ⟨g1,g3⟩|⟨g1,g3⟩
  all_goals
   have bA:=QD.new w 63 #[.int .i64 k,.int .i64 n,.string s,.slice A T.length c];go_enter Tryz.func101,Tryz.ntmps101;go_wp2_with fail;refine (Ql1 vars T k n s _ _ hs0 Ya).mono ?_;rintro e w1 ⟨rfl,hb1⟩;have hW1:=hW0.trans (hb1.mono hW0.size);have bA1:=bA.below hb1;have hs1:=hs0.below hb1;generalize hq:(Ts.cons k n s T .nil).good vars=qb;have HQ:=Lib.hid hq;clear hq;obtain ⟨p0,p1,p2,p3,_⟩:=bA1.four
   cases qb with
   |false=>
    go_wp2_with fail;go_ret;refine ⟨?_,hW1⟩;rw [←R.out,gB,HQ.out,Bool.and_false,Bool.false_and];rfl
   |true=>
    go_wp2_with fail;refine (QlS k n s T _ _ hs1 hn).mono ?_;rintro e w2 ⟨rfl,hb2⟩;generalize hN:T.nodes+1=N;have HN:=Lib.hid hN;clear hN;go_wp2_with fail;go_ret;refine ⟨?_,hW1.trans (hb2.mono hW1.size)⟩;rw [←R.out,gB,HGK.out,HQ.out,HN.out,Bool.true_and,Bool.true_and];refine QbA ?_;rw [Bool.eq_iff_iff];simp
    try omega
 ·have hk:¬k=1∧¬k=3:=by simpa [Qfx] using hg
  have g1:(k==1)=false:=by simpa using hk.1
  have g3:(k==3)=false:=by simpa using hk.2
  have HGK:Hid (Qfx k=false):=Lib.hid (by simpa using hg);clear hg hk;go_enter Tryz.func101,Tryz.ntmps101;go_wp2_with fail;go_ret;refine ⟨?_,hW0⟩;rw [←R.out,gB,HGK.out];rfl
def Ts.goals (vars:Int):Ts→Bool
 | .nil=>true
 | .cons k n s ar r=>gB vars k n s ar&&r.goals vars
theorem Ts.goals_app (v:Int) (D R:Ts):(D.app R).goals v=(D.goals v&&R.goals v):=by
 induction D with
 |nil=>rfl
 |cons k n b ar r _ ih=>simp only [Ts.app,Ts.goals,ih,Bool.and_assoc]
def qB (vars:Int) (T:Ts):Bool:=decide (0≤vars)&&decide (vars≤8)&&decide (T.length≤5)&&T.goals vars
def QnK (w:World) (T:Ts) (vars:Int) (g:Nat) (sx:Value) (wr:World):Prop:=∃D R:Ts,T=D.app R∧g=R.length∧sx= .int .i64 D.length∧D.goals vars=true∧Below w.heap.size w wr
def QiI (w:World) (T:Ts) (vars:Int) (b:Bool) (g:Nat) (so sx:Value) (wr:World):Prop:=∃D R:Ts,T=D.app R∧g=R.length∧sx= .int .i64 D.length∧so= .bool (b&&D.goals vars)∧Below w.heap.size w wr
set_option maxHeartbeats 1000000 in
theorem Qjq (vars:Int) (T:Ts) (v:Value) (w:World) (hv:Sl w (fun _=>True) v T) (hn:T.nodes≤1048576):
  Calls Tryz.prog 29 #[v,.int .i64 vars] w fun e w'=>e= .returned (.bool (qB vars T))∧Below w.heap.size w w':=by
 obtain ⟨A,c,rfl,hs⟩:=hv.form;have hle:=T.length_le;generalize hr:qB vars T=rb;have R:=Lib.hid hr;clear hr;by_cases h1:vars<0
 ·have hq:Hid (rb=false):=Lib.hid YP;go_enter Tryz.func29,Tryz.ntmps29;go_wp2_with fail;go_ret;exact ⟨by rw [hq.out];rfl,Below.refl _ _⟩
 by_cases h2:8<vars
 ·have hq:Hid (rb=false):=Lib.hid YP;go_enter Tryz.func29,Tryz.ntmps29;go_wp2_with fail;go_ret;exact ⟨by rw [hq.out];rfl,Below.refl _ _⟩
 by_cases h3:5<T.length
 ·have hq:Hid (rb=false):=Lib.hid YP;go_enter Tryz.func29,Tryz.ntmps29;go_wp2_with fail;go_ret;exact ⟨by rw [hq.out];rfl,Below.refl _ _⟩
 have hq:Hid (rb=T.goals vars):=Lib.hid YP;have hl5:T.length≤5:=by omega
 have h0:QnK w T vars T.length (.int .i64 0) w:=⟨.nil,T,rfl,rfl,rfl,rfl,Below.refl _ _⟩
 go_enter Tryz.func29,Tryz.ntmps29;go_wp2_with fail;go_loopg [20] T.length (QnK w T vars)
 case atStart=>exact h0
 case round=>
  clear h0;obtain ⟨D,R',hT,hg,rfl,hD,hb⟩:=hrel;have HT:=Lib.hid hT;have HG:=Lib.hid hg;have HD:=Lib.hid hD;clear hT hg hD;have hsr:=hs.below hb
  cases R' with
  |nil=>
   have eD:D=T:=by rw [HT.out,Ts.app_nil]
   subst eD;go_wp2_with fail;go_ret;exact ⟨by rw [hq.out,HD.out];rfl,hb⟩
  |cons k1 n1 s1 ar r=>
   have e1:D.length<T.length:=by rw [HT.out,Ts.length_app];simp [Ts.length]
   have hnod:ar.nodes<1048576:=by have:=hn;rw [HT.out,Ts.nodes_app] at this;simp only [Ts.nodes] at this;omega
   rw [HT.out] at hsr;rw [show (D.app (.cons k1 n1 s1 ar r)).length=T.length by rw [←HT.out]] at hsr;obtain ⟨b1,o1,rfl,hq1⟩:=Sl.at_ hsr Y1;obtain ⟨_,c10,c11,c12,⟨v1,c13,hv1⟩,_⟩:=QL.1 hq1;obtain ⟨A1,d1,rfl,hv1⟩:=hv1.form;clear hq1 hsr;have hX:Below wr.heap.size wr (wr.alloc (.cells #[.int .i64 k1,.int .i64 n1,.string s1,.slice A1 ar.length d1] 63)):=(Below.refl _ _).alloc (Nat.le_refl _) _;have hX':=hb.trans (hX.mono hb.size);go_wp2_with fail;refine (QfT vars k1 n1 s1 ar _ _ (hv1.below hX) hnod).mono ?_;rintro e w2 ⟨rfl,hb2⟩;have hb3:=hX'.trans (hb2.mono hX'.size);generalize hgb:gB vars k1 n1 s1 ar=gb;have HGB:=Lib.hid hgb;clear hgb
   cases gb with
   |false=>
    go_wp2_with fail;go_ret;refine ⟨?_,hb3⟩;rw [hq.out,HT.out,Ts.goals_app,Ts.goals,HGB.out,Bool.false_and,Bool.and_false];rfl
   |true=>
    go_wp2_with fail;go_roundg r.length
    case measure=>rw [HG.out];simp [Ts.length]
    case rel=>
     refine ⟨D.app (.cons k1 n1 s1 ar .nil),r,?_,rfl,?_,?_,hb3⟩
     ·rw [HT.out,Ts.app_assoc];rfl
     ·rw [Ts.length_app];rfl
     ·rw [Ts.goals_app,HD.out,Ts.goals,HGB.out];rfl
set_option maxHeartbeats 1000000 in
theorem Qhg (vars:Int) (T:Ts) (v:Value) (w:World) (hv:Sl w (fun _=>True) v T) (hn:T.nodes≤1048576):
  Calls Tryz.prog 61 #[v,.int .i64 vars] w fun e w'=>e= .returned (.bool (qB vars T))∧Below w.heap.size w w':=by
 obtain ⟨A,c,rfl,hs⟩:=hv.form;have hle:=T.length_le;generalize hr:qB vars T=rb;have R:=Lib.hid hr;clear hr
 have hF:QiI w T vars false T.length (.bool false) (.int .i64 0) w:=⟨.nil,T,rfl,rfl,rfl,rfl,Below.refl _ _⟩
 by_cases h1:vars<0
 ·have hq:Hid (rb=(false&&T.goals vars)):=Lib.hid YP;have h0:=hF;go_enter Tryz.func61,Tryz.ntmps61;go_wp2_with fail;go_loopg [5,21] T.length (QiI w T vars false)
  case atStart=>exact h0
  case round=>
   clear h0;obtain ⟨D,R',hT,hg,rfl,rfl,hb⟩:=hrel;have HT:=Lib.hid hT;have HG:=Lib.hid hg;clear hT hg;have hsr:=hs.below hb;generalize hgd:(false&&D.goals vars)=db;have HD:=Lib.hid hgd;clear hgd
   cases R' with
   |nil=>
    have eD:D=T:=by rw [HT.out,Ts.app_nil]
    subst eD;go_wp2_with fail;go_ret;exact ⟨by rw [hq.out,←HD.out];rfl,hb⟩
   |cons k1 n1 s1 ar r=>
    have e1:D.length<T.length:=by rw [HT.out,Ts.length_app];simp [Ts.length]
    have hnod:ar.nodes<1048576:=by have:=hn;rw [HT.out,Ts.nodes_app] at this;simp only [Ts.nodes] at this;omega
    rw [HT.out] at hsr;rw [show (D.app (.cons k1 n1 s1 ar r)).length=T.length by rw [←HT.out]] at hsr;obtain ⟨b1,o1,rfl,hq1⟩:=Sl.at_ hsr Y1;obtain ⟨_,c10,c11,c12,⟨v1,c13,hv1⟩,_⟩:=QL.1 hq1;obtain ⟨A1,d1,rfl,hv1⟩:=hv1.form;clear hq1 hsr;have hX:Below wr.heap.size wr (wr.alloc (.cells #[.int .i64 k1,.int .i64 n1,.string s1,.slice A1 ar.length d1] 63)):=(Below.refl _ _).alloc (Nat.le_refl _) _;have hX':=hb.trans (hX.mono hb.size)
    cases db with
    |false=>
     go_wp2_with fail;go_roundg r.length
     case measure=>rw [HG.out];simp [Ts.length]
     case rel=>
      refine ⟨D.app (.cons k1 n1 s1 ar .nil),r,?_,rfl,?_,?_,hX'⟩
      ·rw [HT.out,Ts.app_assoc];rfl
      ·rw [Ts.length_app];rfl
      ·rw [Ts.goals_app,←Bool.and_assoc,HD.out];rfl
    |true=>
     go_wp2_with fail;refine ZeX ?_;rintro e w2 ⟨rfl,hb2⟩;have hb3:=hX'.trans (hb2.mono hX'.size);generalize hgb:gB vars k1 n1 s1 ar=gb;have HGB:=Lib.hid hgb;clear hgb;go_wp2_with fail;go_roundg r.length
     case measure=>rw [HG.out];simp [Ts.length]
     case rel=>
      refine ⟨D.app (.cons k1 n1 s1 ar .nil),r,?_,rfl,?_,?_,hb3⟩
      ·rw [HT.out,Ts.app_assoc];rfl
      ·rw [Ts.length_app];rfl
      ·rw [Ts.goals_app,←Bool.and_assoc,HD.out,Ts.goals,Ts.goals,HGB.out,Bool.and_true,Bool.true_and]
 by_cases h2:8<vars
 ·have hq:Hid (rb=(false&&T.goals vars)):=Lib.hid YP;have h0:=hF;go_enter Tryz.func61,Tryz.ntmps61;go_wp2_with fail;go_loopg [5,21] T.length (QiI w T vars false)
  case atStart=>exact h0
  case round=>
   clear h0;obtain ⟨D,R',hT,hg,rfl,rfl,hb⟩:=hrel;have HT:=Lib.hid hT;have HG:=Lib.hid hg;clear hT hg;have hsr:=hs.below hb;generalize hgd:(false&&D.goals vars)=db;have HD:=Lib.hid hgd;clear hgd
   cases R' with
   |nil=>
    have eD:D=T:=by rw [HT.out,Ts.app_nil]
    subst eD;go_wp2_with fail;go_ret;exact ⟨by rw [hq.out,←HD.out];rfl,hb⟩
   |cons k1 n1 s1 ar r=>
    have e1:D.length<T.length:=by rw [HT.out,Ts.length_app];simp [Ts.length]
    have hnod:ar.nodes<1048576:=by have:=hn;rw [HT.out,Ts.nodes_app] at this;simp only [Ts.nodes] at this;omega
    rw [HT.out] at hsr;rw [show (D.app (.cons k1 n1 s1 ar r)).length=T.length by rw [←HT.out]] at hsr;obtain ⟨b1,o1,rfl,hq1⟩:=Sl.at_ hsr Y1;obtain ⟨_,c10,c11,c12,⟨v1,c13,hv1⟩,_⟩:=QL.1 hq1;obtain ⟨A1,d1,rfl,hv1⟩:=hv1.form;clear hq1 hsr;have hX:Below wr.heap.size wr (wr.alloc (.cells #[.int .i64 k1,.int .i64 n1,.string s1,.slice A1 ar.length d1] 63)):=(Below.refl _ _).alloc (Nat.le_refl _) _;have hX':=hb.trans (hX.mono hb.size)
    cases db with
    |false=>
     go_wp2_with fail;go_roundg r.length
     case measure=>rw [HG.out];simp [Ts.length]
     case rel=>
      refine ⟨D.app (.cons k1 n1 s1 ar .nil),r,?_,rfl,?_,?_,hX'⟩
      ·rw [HT.out,Ts.app_assoc];rfl
      ·rw [Ts.length_app];rfl
      ·rw [Ts.goals_app,←Bool.and_assoc,HD.out];rfl
    |true=>
     go_wp2_with fail;refine ZeX ?_;rintro e w2 ⟨rfl,hb2⟩;have hb3:=hX'.trans (hb2.mono hX'.size);generalize hgb:gB vars k1 n1 s1 ar=gb;have HGB:=Lib.hid hgb;clear hgb;go_wp2_with fail;go_roundg r.length
     case measure=>rw [HG.out];simp [Ts.length]
     case rel=>
      refine ⟨D.app (.cons k1 n1 s1 ar .nil),r,?_,rfl,?_,?_,hb3⟩
      ·rw [HT.out,Ts.app_assoc];rfl
      ·rw [Ts.length_app];rfl
      ·rw [Ts.goals_app,←Bool.and_assoc,HD.out,Ts.goals,Ts.goals,HGB.out,Bool.and_true,Bool.true_and]
 by_cases h3:5<T.length
 ·have hq:Hid (rb=(false&&T.goals vars)):=Lib.hid YP
  have hd:decide ((T.length:Int)≤5)=false:=by simp;omega
  have h0:=hF;go_enter Tryz.func61,Tryz.ntmps61;go_wp2_with fail;go_loopg [5,21] T.length (QiI w T vars false)
  case atStart=>exact h0
  case round=>
   clear h0;obtain ⟨D,R',hT,hg,rfl,rfl,hb⟩:=hrel;have HT:=Lib.hid hT;have HG:=Lib.hid hg;clear hT hg;have hsr:=hs.below hb;generalize hgd:(false&&D.goals vars)=db;have HD:=Lib.hid hgd;clear hgd
   cases R' with
   |nil=>
    have eD:D=T:=by rw [HT.out,Ts.app_nil]
    subst eD;go_wp2_with fail;go_ret;exact ⟨by rw [hq.out,←HD.out];rfl,hb⟩
   |cons k1 n1 s1 ar r=>
    have e1:D.length<T.length:=by rw [HT.out,Ts.length_app];simp [Ts.length]
    have hnod:ar.nodes<1048576:=by have:=hn;rw [HT.out,Ts.nodes_app] at this;simp only [Ts.nodes] at this;omega
    rw [HT.out] at hsr;rw [show (D.app (.cons k1 n1 s1 ar r)).length=T.length by rw [←HT.out]] at hsr;obtain ⟨b1,o1,rfl,hq1⟩:=Sl.at_ hsr Y1;obtain ⟨_,c10,c11,c12,⟨v1,c13,hv1⟩,_⟩:=QL.1 hq1;obtain ⟨A1,d1,rfl,hv1⟩:=hv1.form;clear hq1 hsr;have hX:Below wr.heap.size wr (wr.alloc (.cells #[.int .i64 k1,.int .i64 n1,.string s1,.slice A1 ar.length d1] 63)):=(Below.refl _ _).alloc (Nat.le_refl _) _;have hX':=hb.trans (hX.mono hb.size)
    cases db with
    |false=>
     go_wp2_with fail;go_roundg r.length
     case measure=>rw [HG.out];simp [Ts.length]
     case rel=>
      refine ⟨D.app (.cons k1 n1 s1 ar .nil),r,?_,rfl,?_,?_,hX'⟩
      ·rw [HT.out,Ts.app_assoc];rfl
      ·rw [Ts.length_app];rfl
      ·rw [Ts.goals_app,←Bool.and_assoc,HD.out];rfl
    |true=>
     go_wp2_with fail;refine ZeX ?_;rintro e w2 ⟨rfl,hb2⟩;have hb3:=hX'.trans (hb2.mono hX'.size);generalize hgb:gB vars k1 n1 s1 ar=gb;have HGB:=Lib.hid hgb;clear hgb;go_wp2_with fail;go_roundg r.length
     case measure=>rw [HG.out];simp [Ts.length]
     case rel=>
      refine ⟨D.app (.cons k1 n1 s1 ar .nil),r,?_,rfl,?_,?_,hb3⟩
      ·rw [HT.out,Ts.app_assoc];rfl
      ·rw [Ts.length_app];rfl
      ·rw [Ts.goals_app,←Bool.and_assoc,HD.out,Ts.goals,Ts.goals,HGB.out,Bool.and_true,Bool.true_and]
 have hq:Hid (rb=(true&&T.goals vars)):=Lib.hid YP
 have hd:decide ((T.length:Int)≤5)=true:=by simp;omega
 have h0:QiI w T vars true T.length (.bool true) (.int .i64 0) w:=⟨.nil,T,rfl,rfl,rfl,rfl,Below.refl _ _⟩
 clear hF;go_enter Tryz.func61,Tryz.ntmps61;go_wp2_with fail;go_loopg [5,21] T.length (QiI w T vars true)
 case atStart=>exact h0
 case round=>
  clear h0;obtain ⟨D,R',hT,hg,rfl,rfl,hb⟩:=hrel;have HT:=Lib.hid hT;have HG:=Lib.hid hg;clear hT hg;have hsr:=hs.below hb;generalize hgd:(true&&D.goals vars)=db;have HD:=Lib.hid hgd;clear hgd
  cases R' with
  |nil=>
   have eD:D=T:=by rw [HT.out,Ts.app_nil]
   subst eD;go_wp2_with fail;go_ret;exact ⟨by rw [hq.out,←HD.out];rfl,hb⟩
  |cons k1 n1 s1 ar r=>
   have e1:D.length<T.length:=by rw [HT.out,Ts.length_app];simp [Ts.length]
   have hnod:ar.nodes<1048576:=by have:=hn;rw [HT.out,Ts.nodes_app] at this;simp only [Ts.nodes] at this;omega
   rw [HT.out] at hsr;rw [show (D.app (.cons k1 n1 s1 ar r)).length=T.length by rw [←HT.out]] at hsr;obtain ⟨b1,o1,rfl,hq1⟩:=Sl.at_ hsr Y1;obtain ⟨_,c10,c11,c12,⟨v1,c13,hv1⟩,_⟩:=QL.1 hq1;obtain ⟨A1,d1,rfl,hv1⟩:=hv1.form;clear hq1 hsr;have hX:Below wr.heap.size wr (wr.alloc (.cells #[.int .i64 k1,.int .i64 n1,.string s1,.slice A1 ar.length d1] 63)):=(Below.refl _ _).alloc (Nat.le_refl _) _;have hX':=hb.trans (hX.mono hb.size)
   cases db with
   |false=>
    go_wp2_with fail;go_roundg r.length
    case measure=>rw [HG.out];simp [Ts.length]
    case rel=>
     refine ⟨D.app (.cons k1 n1 s1 ar .nil),r,?_,rfl,?_,?_,hX'⟩
     ·rw [HT.out,Ts.app_assoc];rfl
     ·rw [Ts.length_app];rfl
     ·rw [Ts.goals_app,←Bool.and_assoc,HD.out];rfl
   |true=>
    go_wp2_with fail;refine ZeX ?_;rintro e w2 ⟨rfl,hb2⟩;have hb3:=hX'.trans (hb2.mono hX'.size);generalize hgb:gB vars k1 n1 s1 ar=gb;have HGB:=Lib.hid hgb;clear hgb;go_wp2_with fail;go_roundg r.length
    case measure=>rw [HG.out];simp [Ts.length]
    case rel=>
     refine ⟨D.app (.cons k1 n1 s1 ar .nil),r,?_,rfl,?_,?_,hb3⟩
     ·rw [HT.out,Ts.app_assoc];rfl
     ·rw [Ts.length_app];rfl
     ·rw [Ts.goals_app,←Bool.and_assoc,HD.out,Ts.goals,Ts.goals,HGB.out,Bool.and_true,Bool.true_and]
structure Cl where
 k:Int
 n:Int
 s:ByteArray
 hd:Ts
 bd:Ts
 vars:Int
def Cl.nodes (c:Cl):Nat:=c.hd.nodes+c.bd.nodes+1
def QaI:List Cl→Nat
 |[]=>0
 |c::r=>c.nodes+QaI r
def cB (c:Cl):Bool:=qB c.vars c.bd&&gB c.vars c.k c.n c.s c.hd&& !QM c.s.toList c.hd.length
def QjB (w:World) (p:Nat→Prop):List Cl→Nat→Nat→Prop
 |[],_,_=>True
 |c::r,b,o=>p b∧w.cell? ⟨b,o,none⟩=some (.int .i64 c.k)∧w.cell? ⟨b,o+1,none⟩=some (.int .i64 c.n)∧w.cell? ⟨b,o+2,none⟩=some (.string c.s)∧
  (∃v,w.cell? ⟨b,o+3,none⟩=some v∧Sl w p v c.hd)∧(∃v,w.cell? ⟨b,o+4,none⟩=some v∧Sl w p v c.bd)∧w.cell? ⟨b,o+5,none⟩=some (.int .i64 c.vars)∧QjB w p r b (o+6)
def SlC (w:World) (p:Nat→Prop) (v:Value) (L:List Cl):Prop:=∃A c,v= .slice A L.length c∧L.length≤c∧(0<L.length→∃b o,A=some ⟨b,o,none⟩∧QjB w p L b o)
section
variable {w w':World} {p q:Nat→Prop}
theorem QjB.keep {L:List Cl}:∀{b o:Nat},QjB w p L b o→(∀k,p k→k<w.heap.size→w'.heap[k]?=w.heap[k]?)→QjB w' p L b o:=by
 induction L with
 |nil=>intro b o _ _;trivial
 |cons c r ih=>
  intro b o ⟨h0,h1,h2,h3,⟨v,h4,h5⟩,⟨u,h6,h7⟩,h8,h9⟩ hk;have hc:∀j,w'.cell? ⟨b,j,none⟩=w.cell? ⟨b,j,none⟩:=fun j=>World.cell?_of_block (hk b h0 (QaS h1));exact ⟨h0,(hc _).trans h1,(hc _).trans h2,(hc _).trans h3,⟨v,(hc _).trans h4,h5.keep hk⟩,⟨u,(hc _).trans h6,h7.keep hk⟩,(hc _).trans h8,ih h9 hk⟩
theorem QjB.imp {L:List Cl}:∀{b o:Nat},QjB w p L b o→(∀k,p k→k<w.heap.size→q k)→QjB w q L b o:=by
 induction L with
 |nil=>intro b o _ _;trivial
 |cons c r ih=>
  intro b o ⟨h0,h1,h2,h3,⟨v,h4,h5⟩,⟨u,h6,h7⟩,h8,h9⟩ hk;exact ⟨hk b h0 (QaS h1),h1,h2,h3,⟨v,h4,h5.imp hk⟩,⟨u,h6,h7.imp hk⟩,h8,ih h9 hk⟩
theorem SlC.keep {L:List Cl} {v:Value} (h:SlC w p v L) (hk:∀k,p k→k<w.heap.size→w'.heap[k]?=w.heap[k]?):SlC w' p v L:=by
 obtain ⟨A,c,e,hl,hs⟩:=h;exact ⟨A,c,e,hl,fun h=>by obtain ⟨b,o,e,h⟩:=hs h;exact ⟨b,o,e,h.keep hk⟩⟩
theorem SlC.imp {L:List Cl} {v:Value} (h:SlC w p v L) (hk:∀k,p k→k<w.heap.size→q k):SlC w q v L:=by
 obtain ⟨A,c,e,hl,hs⟩:=h;exact ⟨A,c,e,hl,fun h=>by obtain ⟨b,o,e,h⟩:=hs h;exact ⟨b,o,e,h.imp hk⟩⟩
theorem SlC.below {L:List Cl} {v:Value} (h:SlC w p v L) (hb:Below w.heap.size w w'):SlC w' p v L:=h.keep fun k _ hk=>hb.block k hk
theorem SlC.form {L:List Cl} {v:Value} (h:SlC w p v L):∃A c,v= .slice A L.length c∧SlC w p (.slice A L.length c) L:=by
 obtain ⟨A,c,rfl,h2⟩:=h;exact ⟨A,c,rfl,A,c,rfl,h2⟩
theorem QjB.skip {R:List Cl} {b:Nat}:∀{D:List Cl} {o:Nat},QjB w p (D++R) b o→QjB w p R b (o+D.length*6)
 |[],o,h=>by simpa using h
 |c::D,o,⟨_,_,_,_,_,_,_,h⟩=>by
  have:=QjB.skip (R:=R) (D:=D) h
  rwa [show o+6+D.length*6=o+(c::D).length*6 by simp;omega] at this
theorem SlC.at_ {A:Option Addr} {len c:Nat} {D R:List Cl} (h:SlC w p (.slice A len c) (D++R)) (hR:0<R.length):∃b o,A=some ⟨b,o,none⟩∧QjB w p R b (o+D.length*6):=by
 obtain ⟨A',c',e,hl,hs⟩:=h;cases e
 obtain ⟨b,o,e,h⟩:=hs (by rw [List.length_append];omega);exact ⟨b,o,e,h.skip⟩
end
set_option maxHeartbeats 1000000 in
theorem Qoy (c:Cl) (u v:Value) (w:World) (hu:Sl w (fun _=>True) u c.hd) (hv:Sl w (fun _=>True) v c.bd) (h1:c.hd.nodes≤1048576) (h2:c.bd.nodes≤1048576):
  Calls Tryz.prog 32 #[.agg #[.int .i64 c.k,.int .i64 c.n,.string c.s,u,v,.int .i64 c.vars]] w fun e w'=>∃u' v',e= .returned (.agg #[.int .i64 c.k,.int .i64 c.n,.string c.s,u',v',.int .i64 c.vars])∧
   Sl w' (fun k=>w.heap.size≤k) u' c.hd∧Sl w' (fun k=>w.heap.size≤k) v' c.bd∧Below w.heap.size w w':=by
 obtain ⟨A,d,rfl,hu⟩:=hu.form;obtain ⟨A',d',rfl,hv⟩:=hv.form;go_enter Tryz.func32,Tryz.ntmps32;go_wp2_with fail;have hW0:Below w.heap.size w ((w.alloc (.cells #[.int .i64 c.k,.int .i64 c.n,.string c.s,.slice A c.hd.length d,.slice A' c.bd.length d',.int .i64 c.vars] 65)).alloc (.cells #[.int .i64 0,.int .i64 0,.string ⟨#[]⟩,.slice none 0 0,.slice none 0 0,.int .i64 0] 65)):=((Below.refl _ _).alloc (Nat.le_refl _) _).alloc Yd _;have bA:=(QD.new w 65 #[.int .i64 c.k,.int .i64 c.n,.string c.s,.slice A c.hd.length d,.slice A' c.bd.length d',.int .i64 c.vars]).alloc (.cells #[.int .i64 0,.int .i64 0,.string ⟨#[]⟩,.slice none 0 0,.slice none 0 0,.int .i64 0] 65);have bR:=QD.new (w.alloc (.cells #[.int .i64 c.k,.int .i64 c.n,.string c.s,.slice A c.hd.length d,.slice A' c.bd.length d',.int .i64 c.vars] 65)) 65 #[.int .i64 0,.int .i64 0,.string ⟨#[]⟩,.slice none 0 0,.slice none 0 0,.int .i64 0];simp only [World.size_alloc] at bR;generalize ((w.alloc (.cells #[.int .i64 c.k,.int .i64 c.n,.string c.s,.slice A c.hd.length d,.slice A' c.bd.length d',.int .i64 c.vars] 65)).alloc (.cells #[.int .i64 0,.int .i64 0,.string ⟨#[]⟩,.slice none 0 0,.slice none 0 0,.int .i64 0] 65))=W0 at*;have hu0:=hu.below hW0;have hv0:=hv.below hW0
 refine Qbe (fun ws=>QD ws w.heap.size 65 #[.int .i64 c.k,.int .i64 c.n,.string c.s,.slice A c.hd.length d,.slice A' c.bd.length d',.int .i64 c.vars])
  7 [(0,true),(1,true),(3,true),(4,true),(2,false),(6,true),(5,false)] Yc Yc bA.drew ?_
 iterate 4
  refine Qbr rfl rfl ⟨?_,fun w' hS=> ?_,fun _ _ _ h=>h,?_⟩
  rotate_left
  ·have p0:=hS.cell 0;have p1:=hS.cell 1;have p2:=hS.cell 2;have p3:=hS.cell 3;have p4:=hS.cell 4;simp at p0 p1 p2 p3 p4;clear hS;go_simp;exact rfl
 refine Qdc rfl ?_;go_wp2_with fail;refine (Qhq (Qhp c.hd) h1 c.k c.n c.s _ _ (hu0.below (QF _ W0 1))).mono ?_;rintro e w2 ⟨u2,rfl,hu2,hb2⟩;obtain ⟨A2,d2,rfl,hu2⟩:=hu2.form;have bA2:=bA.drew.below hb2;have bR2:=bR.drew.below hb2;have hv2:=(hv0.below (QF _ W0 1)).below hb2;go_wp2_with fail;refine ⟨bA2,?_⟩;refine Qbr rfl rfl ⟨?_,fun w' hS=> ?_,fun _ _ _ h=>h,?_⟩
 rotate_left
 ·clear hS;go_simp;exact rfl
 refine Qdc rfl ?_;go_wp2_with fail;refine (Qhp c.bd _ _ hv2 h2).mono ?_;rintro e w3 ⟨u3,rfl,hu3,hb3⟩;obtain ⟨A3,d3,rfl,hu3⟩:=hu3.form;have bA3:=bA2.below hb3;have bR3:=bR2.below hb3;have hu23:=hu2.below hb3;go_wp2_with fail;refine ⟨bA3,?_⟩;simp only [Qew,List.drop_succ_cons,List.drop_zero];have z0:=hW0.size;have z2:=hb2.size;have z3:=hb3.size;simp at z2;have zA:=bA.lt;have zR:=bR.lt;have p0:=bA3.cell 0;have p1:=bA3.cell 1;have p2:=bA3.cell 2;have p3:=bA3.cell 3;have p4:=bA3.cell 4;have p5:=bA3.cell 5;have f0:=bA3.frozen 0;have f1:=bA3.frozen 1;have f2:=bA3.frozen 2;have f3:=bA3.frozen 3;have f4:=bA3.frozen 4;have r0:=bR3.cell 0;have r1:=bR3.cell 1;have r2:=bR3.cell 2;have r3:=bR3.cell 3;have r4:=bR3.cell 4;have r5:=bR3.cell 5;have g0:=bR3.frozen 0;have g1:=bR3.frozen 1;have g2:=bR3.frozen 2;have g3:=bR3.frozen 3;have g4:=bR3.frozen 4;have g5:=bR3.frozen 5;simp at p0 p1 p2 p3 p4 p5 r0 r1 r2 r3 r4 r5;go_wp2_with fail;have hz:w.heap.size+1<W0.heap.size:=zR;refine bodyPost_ret (v:= .agg #[.int .i64 c.k,.int .i64 c.n,.string c.s,.slice A2 c.hd.length d2,.slice A3 c.bd.length d3,.int .i64 c.vars]) (by simp [results,Tryz.results32,go_sem,r0,r1,r2,r3,r4,r5]) rfl ⟨_,_,rfl,?_,?_,?_⟩
 ·refine (hu23.keep (w':=_) fun k hk _=> ?_).imp fun k hk _=>by simp at hk;omega
  simp at hk;simp only [World.setCell,Array.getElem?_modify]
  repeat rw [if_neg Ya]
 ·refine (hu3.keep (w':=_) fun k hk _=> ?_).imp fun k hk _=>by omega
  simp only [World.setCell,Array.getElem?_modify]
  repeat rw [if_neg Ya]
 ·iterate 11 refine Below.setCell ?_ Yd _
  exact (hW0.trans ((QF _ W0 1).mono z0)).trans ((hb2.mono Yh).trans (hb3.mono Ya))
set_option maxHeartbeats 1000000 in
theorem QhN (c:Cl) (u v:Value) (w:World) (hu:Sl w (fun _=>True) u c.hd) (hv:Sl w (fun _=>True) v c.bd) (h1:c.hd.nodes<1048576) (h2:c.bd.nodes≤1048576):
  Calls Tryz.prog 49 #[.agg #[.int .i64 c.k,.int .i64 c.n,.string c.s,u,v,.int .i64 c.vars]] w fun e w'=>e= .returned (.bool (cB c))∧Below w.heap.size w w':=by
 obtain ⟨A,d,rfl,hu⟩:=hu.form;obtain ⟨A',d',rfl,hv⟩:=hv.form;generalize hr:cB c=rb;have R:=Lib.hid hr;clear hr;go_enter Tryz.func49,Tryz.ntmps49;go_wp2_with fail;have hW0:Below w.heap.size w (w.alloc (.cells #[.int .i64 c.k,.int .i64 c.n,.string c.s,.slice A c.hd.length d,.slice A' c.bd.length d',.int .i64 c.vars] 65)):=(Below.refl _ _).alloc (Nat.le_refl _) _;have bA:=QD.new w 65 #[.int .i64 c.k,.int .i64 c.n,.string c.s,.slice A c.hd.length d,.slice A' c.bd.length d',.int .i64 c.vars];generalize (w.alloc (.cells #[.int .i64 c.k,.int .i64 c.n,.string c.s,.slice A c.hd.length d,.slice A' c.bd.length d',.int .i64 c.vars] 65))=W0 at*;have hu0:=hu.below hW0;refine (Qjq c.vars c.bd _ W0 (hv.below hW0) h2).mono ?_;rintro e w1 ⟨rfl,hb1⟩;have hW1:=hW0.trans (hb1.mono hW0.size);have bA1:=bA.below hb1;have hu1:=hu0.below hb1;generalize hq:qB c.vars c.bd=qb;have HQ:=Lib.hid hq;clear hq
 cases qb with
 |false=>
  go_wp2_with fail;go_ret;refine ⟨?_,hW1⟩;rw [←R.out,cB,HQ.out];rfl
 |true=>
  have p0:=bA1.cell 0;have p1:=bA1.cell 1;have p2:=bA1.cell 2;have p3:=bA1.cell 3;have p5:=bA1.cell 5;simp at p0 p1 p2 p3 p5;go_wp2_with fail;refine (QfT c.vars c.k c.n c.s c.hd _ _ hu1 h1).mono ?_;rintro e w2 ⟨rfl,hb2⟩;have hW2:=hW1.trans (hb2.mono hW1.size);have bA2:=bA1.below hb2;clear p0 p1 p2 p3 p5;generalize hg:gB c.vars c.k c.n c.s c.hd=gb;have HGB:=Lib.hid hg;clear hg
  cases gb with
  |false=>
   go_wp2_with fail;go_ret;refine ⟨?_,hW2⟩;rw [←R.out,cB,HGB.out,Bool.and_false];rfl
  |true=>
   have p0:=bA2.cell 0;have p1:=bA2.cell 1;have p2:=bA2.cell 2;have p3:=bA2.cell 3;simp at p0 p1 p2 p3;go_wp2_with fail;refine (Qep c.k c.n c.s A c.hd.length d _).mono ?_;rintro e w3 ⟨rfl,hb3⟩;generalize hbb:QM c.s.toList c.hd.length=bb;have HBT:=Lib.hid hbb;clear hbb;go_wp2_with fail;go_ret;refine ⟨?_,hW2.trans (hb3.mono hW2.size)⟩;rw [←R.out,cB,HQ.out,HGB.out,HBT.out,Bool.true_and];rfl
set_option maxHeartbeats 1000000 in
theorem QkH (c:Cl) (u v:Value) (w:World) (hu:Sl w (fun _=>True) u c.hd) (hv:Sl w (fun _=>True) v c.bd) (h1:c.hd.nodes<1048576) (h2:c.bd.nodes≤1048576):
  Calls Tryz.prog 83 #[.agg #[.int .i64 c.k,.int .i64 c.n,.string c.s,u,v,.int .i64 c.vars]] w fun e w'=>e= .returned (.bool (cB c))∧Below w.heap.size w w':=by
 obtain ⟨A,d,rfl,hu⟩:=hu.form;obtain ⟨A',d',rfl,hv⟩:=hv.form;generalize hr:cB c=rb;have R:=Lib.hid hr;clear hr;go_enter Tryz.func83,Tryz.ntmps83;go_wp2_with fail;have hW0:Below w.heap.size w (w.alloc (.cells #[.int .i64 c.k,.int .i64 c.n,.string c.s,.slice A c.hd.length d,.slice A' c.bd.length d',.int .i64 c.vars] 65)):=(Below.refl _ _).alloc (Nat.le_refl _) _;have bA:=QD.new w 65 #[.int .i64 c.k,.int .i64 c.n,.string c.s,.slice A c.hd.length d,.slice A' c.bd.length d',.int .i64 c.vars];generalize (w.alloc (.cells #[.int .i64 c.k,.int .i64 c.n,.string c.s,.slice A c.hd.length d,.slice A' c.bd.length d',.int .i64 c.vars] 65))=W0 at*;have hu0:=hu.below hW0;refine (Qhg c.vars c.bd _ W0 (hv.below hW0) h2).mono ?_;rintro e w1 ⟨rfl,hb1⟩;have hW1:=hW0.trans (hb1.mono hW0.size);have bA1:=bA.below hb1;have hu1:=hu0.below hb1;generalize hq:qB c.vars c.bd=qb;have HQ:=Lib.hid hq;clear hq
 cases qb with
 |false=>
  go_wp2_with fail;go_ret;refine ⟨?_,hW1⟩;rw [←R.out,cB,HQ.out];rfl
 |true=>
  have p0:=bA1.cell 0;have p1:=bA1.cell 1;have p2:=bA1.cell 2;have p3:=bA1.cell 3;have p5:=bA1.cell 5;simp at p0 p1 p2 p3 p5;go_wp2_with fail;refine (Qj4 c.vars c.k c.n c.s c.hd _ _ hu1 h1).mono ?_;rintro e w2 ⟨rfl,hb2⟩;have hW2:=hW1.trans (hb2.mono hW1.size);have bA2:=bA1.below hb2;clear p0 p1 p2 p3 p5;generalize hg:gB c.vars c.k c.n c.s c.hd=gb;have HGB:=Lib.hid hg;clear hg
  cases gb with
  |false=>
   go_wp2_with fail;go_ret;refine ⟨?_,hW2⟩;rw [←R.out,cB,HGB.out,Bool.and_false];rfl
  |true=>
   have p0:=bA2.cell 0;have p1:=bA2.cell 1;have p2:=bA2.cell 2;have p3:=bA2.cell 3;simp at p0 p1 p2 p3;go_wp2_with fail;refine (QbY c.k c.n c.s A c.hd.length d _).mono ?_;rintro e w3 ⟨rfl,hb3⟩;generalize hbb:QM c.s.toList c.hd.length=bb;have HBT:=Lib.hid hbb;clear hbb;go_wp2_with fail;go_ret;refine ⟨?_,hW2.trans (hb3.mono hW2.size)⟩;rw [←R.out,cB,HQ.out,HGB.out,HBT.out,Bool.true_and];rfl
end Go.Proofs.YthliapbflkfdiacGreatDoor
