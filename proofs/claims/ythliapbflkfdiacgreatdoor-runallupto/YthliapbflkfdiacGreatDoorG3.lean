/- Steps of the proof. -/
import Derived.Test.YthliapbflkfdiacGreatDoorG2
import Derived.Deep.DeepCutAuto
namespace Go.Proofs.YthliapbflkfdiacGreatDoor
open Go.RowKit
def pB (L:List Cl):Bool:=decide (L.length≤24)&&L.all cB
theorem Qfn (a b:List Cl):QaI (a++b)=QaI a+QaI b:=by
 induction a with
 |nil=>simp [QaI]
 |cons c r ih=>simp only [List.cons_append,QaI,ih];omega
theorem QeN (L:List Cl):L.length≤QaI L:=by
 induction L with
 |nil=>exact Nat.le_refl _
 |cons c r ih=>simp only [List.length_cons,QaI,Cl.nodes];omega
def QnL (w:World) (L:List Cl) (g:Nat) (sx:Value) (wr:World):Prop:=∃D R:List Cl,L=D++R∧g=R.length∧sx= .int .i64 D.length∧D.all cB=true∧Below w.heap.size w wr
def QsA (w:World) (L:List Cl) (b:Bool) (g:Nat) (so sx:Value) (wr:World):Prop:=∃D R:List Cl,L=D++R∧g=R.length∧sx= .int .i64 D.length∧so= .bool (b&&D.all cB)∧Below w.heap.size w wr
set_option maxHeartbeats 1000000 in
theorem Qqe (L:List Cl) (v:Value) (w:World) (hv:SlC w (fun _=>True) v L) (hn:QaI L≤1048576):
  Calls Tryz.prog 28 #[v] w fun e w'=>e= .returned (.bool (pB L))∧Below w.heap.size w w':=by
 obtain ⟨A,d,rfl,hs⟩:=hv.form;have hle:=QeN L;generalize hr:pB L=rb;have R:=Lib.hid hr;clear hr;by_cases h3:24<L.length
 ·have hq:Hid (rb=false):=Lib.hid (by rw [←R.out,pB];simp;omega);go_enter Tryz.func28,Tryz.ntmps28;go_wp2_with fail;go_ret;exact ⟨by rw [hq.out];rfl,Below.refl _ _⟩
 have hq:Hid (rb=L.all cB):=Lib.hid (by rw [←R.out,pB,decide_eq_true Ya,Bool.true_and])
 have h0:QnL w L L.length (.int .i64 0) w:=⟨[],L,rfl,rfl,rfl,rfl,Below.refl _ _⟩
 go_enter Tryz.func28,Tryz.ntmps28;go_wp2_with fail;go_loopg [10] L.length (QnL w L)
 case atStart=>exact h0
 case round=>
  clear h0;obtain ⟨D,R',hT,hg,rfl,hD,hb⟩:=hrel;have HT:=Lib.hid hT;have HG:=Lib.hid hg;have HD:=Lib.hid hD;clear hT hg hD;have hsr:=hs.below hb
  cases R' with
  |nil=>
   have eD:D=L:=by rw [HT.out,List.append_nil]
   subst eD;go_wp2_with fail;go_ret;exact ⟨by rw [hq.out,HD.out];rfl,hb⟩
  |cons c r=>
   have e1:D.length<L.length:=by rw [HT.out,List.length_append];simp
   have hnod:c.nodes≤1048576:=by have:=hn;rw [HT.out,Qfn] at this;simp only [QaI] at this;omega
   have hn1:c.hd.nodes<1048576:=by simp only [Cl.nodes] at hnod;omega
   have hn2:c.bd.nodes≤1048576:=by simp only [Cl.nodes] at hnod;omega
   rw [HT.out] at hsr;rw [show (D++c::r).length=L.length by rw [←HT.out]] at hsr;obtain ⟨b1,o1,rfl,_,c10,c11,c12,⟨v1,c13,hv1⟩,⟨v2,c14,hv2⟩,c15,_⟩:=SlC.at_ hsr Yd;obtain ⟨A1,d1,rfl,hv1⟩:=hv1.form;obtain ⟨A2,d2,rfl,hv2⟩:=hv2.form;clear hsr;have hX:Below wr.heap.size wr (wr.alloc (.cells #[.int .i64 c.k,.int .i64 c.n,.string c.s,.slice A1 c.hd.length d1,.slice A2 c.bd.length d2,.int .i64 c.vars] 65)):=(Below.refl _ _).alloc (Nat.le_refl _) _;have hX':=hb.trans (hX.mono hb.size);go_wp2_with fail;refine (QhN c _ _ _ (hv1.below hX) (hv2.below hX) hn1 hn2).mono ?_;rintro e w2 ⟨rfl,hb2⟩;have hb3:=hX'.trans (hb2.mono hX'.size);generalize hgb:cB c=gb;have HGB:=Lib.hid hgb;clear hgb
   cases gb with
   |false=>
    go_wp2_with fail;go_ret;refine ⟨?_,hb3⟩;rw [hq.out,HT.out,List.all_append,List.all_cons,HGB.out,Bool.false_and,Bool.and_false];rfl
   |true=>
    go_wp2_with fail;go_roundg r.length
    case measure=>rw [HG.out];simp
    case rel=>
     refine ⟨D++[c],r,?_,rfl,?_,?_,hb3⟩
     ·rw [HT.out,List.append_assoc];rfl
     ·rw [List.length_append];rfl
     ·rw [List.all_append,HD.out,List.all_cons,HGB.out];rfl
set_option maxHeartbeats 1000000 in
theorem Qjj (L:List Cl) (v:Value) (w:World) (hv:SlC w (fun _=>True) v L) (hn:QaI L≤1048576):
  Calls Tryz.prog 60 #[v] w fun e w'=>e= .returned (.bool (pB L))∧Below w.heap.size w w':=by
 obtain ⟨A,d,rfl,hs⟩:=hv.form;have hle:=QeN L;generalize hr:pB L=rb;have R:=Lib.hid hr;clear hr;go_enter Tryz.func60,Tryz.ntmps60;go_wp2_with fail
 have hbd:decide ((L.length:Int)≤24)=decide (L.length≤24):=by simp;omega
 generalize hbb:decide ((L.length:Int)≤24)=b;have hq:Hid (rb=(b&&L.all cB)):=Lib.hid (by rw [←R.out,pB,←hbb,hbd]);clear hbd hbb
 have h0:QsA w L b L.length (.bool b) (.int .i64 0) w:=⟨[],L,rfl,rfl,rfl,by simp,Below.refl _ _⟩
 go_loopg [3,11] L.length (QsA w L b)
 case atStart=>exact h0
 case round=>
  clear h0;obtain ⟨D,R',hT,hg,rfl,rfl,hb⟩:=hrel;have HT:=Lib.hid hT;have HG:=Lib.hid hg;clear hT hg;have hsr:=hs.below hb;generalize hgd:(b&&D.all cB)=db;have HD:=Lib.hid hgd;clear hgd
  cases R' with
  |nil=>
   have eD:D=L:=by rw [HT.out,List.append_nil]
   subst eD;go_wp2_with fail;go_ret;exact ⟨by rw [hq.out,HD.out];rfl,hb⟩
  |cons c r=>
   have e1:D.length<L.length:=by rw [HT.out,List.length_append];simp
   have hnod:c.nodes≤1048576:=by have:=hn;rw [HT.out,Qfn] at this;simp only [QaI] at this;omega
   have hn1:c.hd.nodes<1048576:=by simp only [Cl.nodes] at hnod;omega
   have hn2:c.bd.nodes≤1048576:=by simp only [Cl.nodes] at hnod;omega
   rw [HT.out] at hsr;rw [show (D++c::r).length=L.length by rw [←HT.out]] at hsr;obtain ⟨b1,o1,rfl,_,c10,c11,c12,⟨v1,c13,hv1⟩,⟨v2,c14,hv2⟩,c15,_⟩:=SlC.at_ hsr Yd;obtain ⟨A1,d1,rfl,hv1⟩:=hv1.form;obtain ⟨A2,d2,rfl,hv2⟩:=hv2.form;clear hsr;have hX:Below wr.heap.size wr (wr.alloc (.cells #[.int .i64 c.k,.int .i64 c.n,.string c.s,.slice A1 c.hd.length d1,.slice A2 c.bd.length d2,.int .i64 c.vars] 65)):=(Below.refl _ _).alloc (Nat.le_refl _) _;have hX':=hb.trans (hX.mono hb.size)
   cases db with
   |false=>
    go_wp2_with fail;go_roundg r.length
    case measure=>rw [HG.out];simp
    case rel=>
     refine ⟨D++[c],r,?_,rfl,?_,?_,hX'⟩
     ·rw [HT.out,List.append_assoc];rfl
     ·rw [List.length_append];rfl
     ·rw [List.all_append,←Bool.and_assoc,HD.out];rfl
   |true=>
    go_wp2_with fail;refine (QkH c _ _ _ (hv1.below hX) (hv2.below hX) hn1 hn2).mono ?_;rintro e w2 ⟨rfl,hb2⟩;have hb3:=hX'.trans (hb2.mono hX'.size);generalize hgb:cB c=gb;have HGB:=Lib.hid hgb;clear hgb;go_wp2_with fail;go_roundg r.length
    case measure=>rw [HG.out];simp
    case rel=>
     refine ⟨D++[c],r,?_,rfl,?_,?_,hb3⟩
     ·rw [HT.out,List.append_assoc];rfl
     ·rw [List.length_append];rfl
     ·rw [List.all_append,←Bool.and_assoc,HD.out,List.all_cons,HGB.out];simp
theorem Ql2:(Tryz.prog.info? 65).map (fun i=>(i.zero,i.size,i.bytes))=some (some (.agg #[.int .i64 0,.int .i64 0,.string .empty,.slice none 0 0,.slice none 0 0,.int .i64 0]),6,88):=by kernel_rfl
def CsC (w:World) (p:Nat→Prop):List Cl→List Value→Prop
 |[],xs=>xs=[]
 |c::r,xs=>∃u v ys,xs= .int .i64 c.k:: .int .i64 c.n:: .string c.s::u::v:: .int .i64 c.vars::ys∧Sl w p u c.hd∧Sl w p v c.bd∧CsC w p r ys
section
variable {w w':World} {p q:Nat→Prop}
theorem CsC.imp:∀{L:List Cl} {xs:List Value},CsC w p L xs→(∀k,p k→k<w.heap.size→q k)→CsC w q L xs
 |[],_,h,_=>h
 |_::_,_,⟨u,v,ys,e,h1,h2,h3⟩,hk=>⟨u,v,ys,e,h1.imp hk,h2.imp hk,h3.imp hk⟩
theorem CsC.keep:∀{L:List Cl} {xs:List Value},CsC w p L xs→(∀k,p k→k<w.heap.size→w'.heap[k]?=w.heap[k]?)→CsC w' p L xs
 |[],_,h,_=>h
 |_::_,_,⟨u,v,ys,e,h1,h2,h3⟩,hk=>⟨u,v,ys,e,h1.keep hk,h2.keep hk,h3.keep hk⟩
theorem CsC.app:∀{L:List Cl} {xs ys:List Value} {M:List Cl},CsC w p L xs→CsC w p M ys→CsC w p (L++M) (xs++ys)
 |[],_,_,_,h,h'=>by cases h;exact h'
 |_::_,_,_,_,⟨u,v,zs,e,h1,h2,h3⟩,h'=>⟨u,v,_,by rw [e];rfl,h1,h2,h3.app h'⟩
theorem CsC.seg:∀{L:List Cl} {xs:List Value} {b o:Nat},CsC w p L xs→(0<L.length→p b)→(∀j u,xs[j]?=some u→w.cell? ⟨b,o+j,none⟩=some u)→QjB w p L b o
 |[],_,_,_,_,_,_=>trivial
 |c::r,xs,b,o,⟨u,v,ys,e,h1,h2,h3⟩,hp,hc=>by
  subst e;have hb:=hp Yd;refine ⟨hb,hc 0 _ rfl,hc 1 _ rfl,hc 2 _ rfl,⟨u,hc 3 _ rfl,h1⟩,⟨v,hc 4 _ rfl,h2⟩,hc 5 _ rfl,h3.seg (fun _=>hb) fun j x hx=> ?_⟩;rw [show o+6+j=o+(j+6) by omega];exact hc (j+6) x (by simpa using hx)
theorem SlC.own {L:List Cl} {base:Nat} {e:TypeId} {v:Value} {xs:List Value} (h:w.ownsRow base e 6 v L.length xs) (hc:CsC w p L xs) (hp:∀g,v.ownBlock=some g→p g):SlC w p v L:=by
 obtain ⟨A,cap,rfl⟩:=Qcp h;obtain ⟨hle,g,cur,hg⟩:=QlP h;refine ⟨A,cap,rfl,hle,fun h0=> ?_⟩;obtain ⟨rfl,_,hpl,hcells⟩:=hg h0;refine ⟨g,0,rfl,hc.seg (fun _=>hp g rfl) fun j u hu=> ?_⟩;rw [Nat.zero_add,hpl.cell j];exact hcells j u hu
end
structure QqU (w:World) (L D R:List Cl) (u:Value) (xs:List Value) (wr:World):Prop where
 split:L=D++R
 own:wr.ownsRow w.heap.size 65 6 u D.length xs
 cs:CsC wr (fun k=>w.heap.size≤k∧u.ownBlock≠some k) D xs
 chg:Below w.heap.size w wr
def Qsy (w:World) (L:List Cl) (g:Nat) (s3 s8:Value) (wr:World):Prop:=∃D R xs,QqU w L D R s3 xs wr∧g=R.length∧s8= .int .i64 D.length
theorem QqU.step {w wr W w3:World} {L D r:List Cl} {c:Cl} {u v3 y z:Value} {xs:List Value}
  (h:QqU w L D (c::r) u xs wr) (hC:Below wr.heap.size wr W) (hy:Sl W (fun k=>wr.heap.size≤k) y c.hd) (hz':Sl W (fun k=>wr.heap.size≤k) z c.bd)
  (ho3:w3.ownsRow w.heap.size 65 6 v3 (D.length+1) (xs++[.int .i64 c.k,.int .i64 c.n,.string c.s,y,z,.int .i64 c.vars]))
  (hg:W.grownBy w3 u.ownBlock) (hat:v3.ownBlock=u.ownBlock∨v3.ownBlock=some W.heap.size):
  QqU w L (D++[c]) r v3 (xs++[.int .i64 c.k,.int .i64 c.n,.string c.s,y,z,.int .i64 c.vars]) w3:=by
 have hlt:=h.own.lt;have hz:=h.chg.size;have hWs:=hC.size;have hu:∀k,u.ownBlock=some k→w.heap.size≤k∧k<wr.heap.size:=fun k hk=>hlt k hk
 have hnew:∀k,wr.heap.size≤k→k<W.heap.size→(w.heap.size≤k∧v3.ownBlock≠some k)∧u.ownBlock≠some k:=fun k hk hl=>by
  refine ⟨⟨by omega,?_⟩,?_⟩
  ·rcases hat with e|e<;>rw [e]
   ·intro e2;have:=hu k e2;omega
   ·intro e2;simp at e2;omega
  ·intro e2;have:=hu k e2;omega
 refine ⟨by rw [h.split,List.append_assoc];rfl,by rw [List.length_append];exact ho3,?_,?_⟩
 ·have h1:CsC W (fun k=>(w.heap.size≤k∧v3.ownBlock≠some k)∧u.ownBlock≠some k) (D++[c]) (xs++[.int .i64 c.k,.int .i64 c.n,.string c.s,y,z,.int .i64 c.vars]):=by
   refine CsC.app ?_ ⟨y,z,[],rfl,hy.imp hnew,hz'.imp hnew,rfl⟩;refine (h.cs.imp (q:=fun k=>(w.heap.size≤k∧v3.ownBlock≠some k)∧u.ownBlock≠some k) fun k hk hl=>⟨⟨hk.1,?_⟩,hk.2⟩).keep fun k hk hl=>hC.block k hl;rcases hat with e|e<;>rw [e]
   ·exact hk.2
   ·intro e2;simp at e2;omega
  exact (h1.keep (w':=w3) fun k hk hl=>hg.block k hl (fun e=>hk.2 e.symm)).imp fun k hk _=>hk.1
 ·refine (h.chg.trans (hC.mono hz)).grown hg Ya fun k hk=>by have:=hu k hk;omega
set_option maxHeartbeats 1000000 in
theorem QlM (L:List Cl) (v:Value) (w:World) (hv:SlC w (fun _=>True) v L) (hn:QaI L≤1048576):
  Calls Tryz.prog 13 #[v] w fun e w'=>∃v',e= .returned v'∧SlC w' (fun k=>w.heap.size≤k) v' L∧Below w.heap.size w w':=by
 obtain ⟨A,d,rfl,hs⟩:=hv.form;have hle:=QeN L;obtain ⟨i0,hi0,hz0,hz1,hz2⟩:=info_parts Ql2;go_enter Tryz.func13,Tryz.ntmps13;go_wp2_with fail
 have h0:Qsy w L L.length (.slice none 0 0) (.int .i64 0) w:=⟨[],L,[],⟨rfl,World.ownsRow_nil _ _ _ _,rfl,Below.refl _ _⟩,rfl,rfl⟩
 go_loopg [3,8] L.length (Qsy w L)
 case atStart=>exact h0
 case round=>
  clear h0;obtain ⟨D,R',xs,hrel,hg,rfl⟩:=hrel;have HG:=Lib.hid hg;clear hg;have HT:=Lib.hid hrel.split;have hb:=hrel.chg;obtain ⟨Au,cu,hu⟩:=Qcp hrel.own;subst hu;have hsr:SlC wr (fun k=>k<w.heap.size) (.slice A L.length d) L:=(hs.imp (q:=fun k=>k<w.heap.size) fun k _ h=>h).keep fun k hk _=>hb.block k hk
  cases R' with
  |nil=>
   have eD:D=L:=by rw [HT.out,List.append_nil]
   subst eD;have hsl:SlC wr (fun k=>w.heap.size≤k) (.slice Au D.length cu) D:=SlC.own hrel.own (hrel.cs.imp fun k hk _=>hk.1) fun g hg=>(hrel.own.lt g hg).1;clear hrel;go_wp2_with fail;go_ret;exact ⟨_,rfl,hsl,hb⟩
  |cons c r=>
   have e1:D.length<L.length:=by rw [HT.out,List.length_append];simp
   have hnod:c.nodes≤1048576:=by have:=hn;rw [HT.out,Qfn] at this;simp only [QaI] at this;omega
   have hn1:c.hd.nodes<1048576:=by simp only [Cl.nodes] at hnod;omega
   have hn2:c.bd.nodes≤1048576:=by simp only [Cl.nodes] at hnod;omega
   rw [HT.out] at hsr;rw [show (D++c::r).length=L.length by rw [←HT.out]] at hsr;obtain ⟨b1,o1,rfl,_,c10,c11,c12,⟨v1,c13,hv1⟩,⟨v2,c14,hv2⟩,c15,_⟩:=SlC.at_ hsr Yd;obtain ⟨A1,d1,rfl,hv1⟩:=hv1.form;obtain ⟨A2,d2,rfl,hv2⟩:=hv2.form;clear hsr;have hX:Below wr.heap.size wr (wr.alloc (.cells #[.int .i64 c.k,.int .i64 c.n,.string c.s,.slice A1 c.hd.length d1,.slice A2 c.bd.length d2,.int .i64 c.vars] 65)):=(Below.refl _ _).alloc (Nat.le_refl _) _;have hX':=hb.trans (hX.mono hb.size);have hz:=hb.size;go_wp2_with fail;refine (Qoy c _ _ _ (hv1.any.below hX) (hv2.any.below hX) Ya hn2).mono ?_;rintro e w2 ⟨u2,v2,rfl,hu2,hv2',hb2⟩;obtain ⟨A3,d3,rfl,hu2⟩:=hu2.form;obtain ⟨A4,d4,rfl,hv2'⟩:=hv2'.form
   have hzz:wr.heap.size<w2.heap.size:=by have:=hb2.size;simp at this;omega
   have hC3:Below wr.heap.size wr (w2.alloc (.cells #[.int .i64 c.k,.int .i64 c.n,.string c.s,.slice A3 c.hd.length d3,.slice A4 c.bd.length d4,.int .i64 c.vars] 65)):=(hX.trans (hb2.mono hX.size)).alloc Ya _;have hN:Below w2.heap.size w2 (w2.alloc (.cells #[.int .i64 c.k,.int .i64 c.n,.string c.s,.slice A3 c.hd.length d3,.slice A4 c.bd.length d4,.int .i64 c.vars] 65)):=(Below.refl _ _).alloc (Nat.le_refl _) _
   have hu3:=(hu2.below hN).imp (q:=fun k=>wr.heap.size≤k) fun k hk _=>by simp at hk;omega
   have hv3:=(hv2'.below hN).imp (q:=fun k=>wr.heap.size≤k) fun k hk _=>by simp at hk;omega
   have ho3:=Qg4 hrel.own hC3;go_wp2_with (at_builtin;refine Qao _ rfl (.tmp 12) (.tmp 15) _ rfl w.heap.size 65 i0 _ 6 88 Tryz.underlying22 hi0 hz0 hz1 hz2 rfl Ya (.slice Au D.length cu) D.length xs rfl ho3 ⟨w2.heap.size,0,none⟩ 1 1 [.int .i64 c.k,.int .i64 c.n,.string c.s,.slice A3 c.hd.length d3,.slice A4 c.bd.length d4,.int .i64 c.vars] rfl rfl (Qe2 w2 _ _) Yap Yk Ya Yh ?next)
   case next=>
    intro v3 w3 hov hg hat;have hat':v3.ownBlock=(Value.slice Au D.length cu).ownBlock∨v3.ownBlock=some (w2.alloc (.cells #[.int .i64 c.k,.int .i64 c.n,.string c.s,.slice A3 c.hd.length d3,.slice A4 c.bd.length d4,.int .i64 c.vars] 65)).heap.size:=by simpa using hat
    have hstep:=QqU.step hrel hC3 hu3 hv3 hov hg hat';clear hat hat' hov;go_wp2_with fail;go_roundg r.length
    case measure=>rw [HG.out];simp
    case rel=>
     refine ⟨_,_,_,hstep,rfl,?_⟩;rw [List.length_append];rfl
def low (n:Int):Int:=n%1099511627776
theorem Qiq (n:Int):0≤low n∧low n<1099511627776:=by unfold low;omega
def pos (n:Int):List Int→Option Nat
 |[]=>none
 |k::r=>if n=k then some 0 else (pos n r).map (· +1)
def Qll (ks:List Int) (n:Int):Int:=((pos n ks).getD ks.length:Nat)
def QjG (ks:List Int) (n:Int):List Int:=if (pos n ks).isSome then ks else ks++[n]
def QbZ (i:Nat):List Int→List (Int×Value)
 |[]=>[]
 |k::r=>(k,.int .i64 i)::QbZ (i+1) r
theorem Qcb:∀(ks:List Int) (i:Nat),(QbZ i ks).length=ks.length
 |[],_=>rfl
 |_::r,i=>by simp [QbZ,Qcb r (i+1)]
theorem QaF (n:Int):∀(ks:List Int) (i:Nat),QoH n (QbZ i ks)=(pos n ks).map fun j=>Value.int .i64 ((i+j:Nat):Int)
 |[],_=>rfl
 |k::r,i=>by
  simp only [QbZ,QoH,pos];by_cases e:n=k
  ·simp [e]
  ·simp only [e,if_false,QaF n r (i+1),Option.map_map];congr 1;funext j;simp only [Function.comp];congr 2;omega
theorem QcZ (n:Int):∀(ks:List Int) (i:Nat),QbZ i (ks++[n])=QbZ i ks++[(n,.int .i64 ((i+ks.length:Nat):Int))]
 |[],i=>rfl
 |k::r,i=>by
  simp only [List.cons_append,QbZ,QcZ n r (i+1),List.length_cons];congr 5;omega
def QhB (w:World) (mb:Nat) (ks:List Int):Prop:=Qbd w mb (QbZ 0 ks)
theorem QmS {n:Int}:∀{ks:List Int},pos n ks=none→pos n (ks++[n])=some ks.length
 |[],_=>by simp [pos]
 |k::r,h=>by
  simp only [pos] at h;by_cases e:n=k
  ·simp [e] at h
  ·simp only [e,if_false,Option.map_eq_none_iff] at h;simp [pos,e,QmS h]
theorem QD.not_map {w:World} {g mb:Nat} {t:TypeId} {cs:Array Value} {Qcj:List (Int×Value)} (h:QD w g t cs) (hm:Qbd w mb Qcj):g≠mb:=by
 rintro rfl;obtain ⟨es,clock,hb,_⟩:=hm;unfold QD at h;rw [hb] at h;cases h
theorem QrJ:(Tryz.prog.info? 3).map (fun i=>(i.zero,i.size,i.bytes))=some (some (.int .i64 0),1,8):=by kernel_rfl
theorem Qf2 (w:World):(zeroValue 3).run Tryz.prog w= .ok (.int .i64 0) w:=by
 obtain ⟨i0,hi0,hz0,_⟩:=info_parts QrJ;simp [zeroValue,typeInfo,hi0,hz0]
theorem Qgy (n:Int): -1099511627776<n.tmod 1099511627776∧n.tmod 1099511627776<1099511627776:=by
 rcases Int.le_total 0 n with h|h
 ·rw [Int.tmod_eq_emod_of_nonneg h];omega
 ·have e:n= -(-n):=by omega
  rw [e,Int.neg_tmod,Int.tmod_eq_emod_of_nonneg Ya];omega
theorem QlV (n:Int):low n=if 0≤n.tmod 1099511627776 then n.tmod 1099511627776 else n.tmod 1099511627776+1099511627776:=by
 unfold low;rcases Int.le_total 0 n with h|h
 ·rw [Int.tmod_eq_emod_of_nonneg h];omega
 ·have e:n.tmod 1099511627776= -((-n)%1099511627776):=by
   have e:n= -(-n):=by omega
   rw [e,Int.neg_tmod,Int.tmod_eq_emod_of_nonneg Ya];simp
  rw [e];omega
theorem Qp1 (n:Int):(n.tmod 1099511627776+1099511627776).tmod 1099511627776=low n:=by
 obtain ⟨h1,h2⟩:=Qgy n;rw [Int.tmod_eq_emod_of_nonneg Ya,QlV];split<;>omega
set_option maxHeartbeats 400000 in
theorem Qj7 (n:Int) (w:World):Calls Tryz.prog 161 #[.int .i64 n] w fun e w'=>e= .returned (.int .i64 (low n))∧w=w':=by
 obtain ⟨hb1,hb2⟩:=Qgy n;have HL2:=Lib.hid (show (n.tmod 1099511627776+1099511627776)%1099511627776=low n by rw [←Qp1,Int.tmod_eq_emod_of_nonneg (a:=n.tmod 1099511627776+1099511627776) Ya]);go_enter Tryz.func161,Tryz.ntmps161;go_wp2_with fail;go_ret;refine ⟨?_,rfl⟩;rw [←HL2.out];rfl
set_option maxHeartbeats 400000 in
theorem Qj6 (n m:Int) (fb nb:Nat) (w:World) (hf:QD w fb 106 #[.func (.func 161) #[] #[]]) (hv:QD w nb 3 #[.int .i64 m]):
  Calls Tryz.prog 163 #[.int .i64 n,.pointer (some ⟨fb,0,none⟩),.pointer (some ⟨nb,0,none⟩)] w fun e w'=>e= .returned (.int .i64 (low n+low m))∧∃q,w'=w.drewN q:=by
 obtain ⟨hb1,hb2⟩:=Qiq n;obtain ⟨hb3,hb4⟩:=Qiq m;have c0:w.cell? ⟨fb,0,none⟩=some (.func (.func 161) #[] #[]):=hf.cell 0;have c1:w.cell? ⟨nb,0,none⟩=some (.int .i64 m):=hv.cell 0;go_enter Tryz.func163,Tryz.ntmps163;go_wp2_with fail;go_quiet ((go_at_call 161;exact Calls.quiet_of_same ((Qj7 _ _).mono fun e w' h=>⟨h.1,h.2.symm⟩)));go_wp2_with fail;go_ret;exact ⟨rfl,_,rfl⟩
set_option maxHeartbeats 400000 in
theorem Qo6 (n:Int) (ks:List Int) (vb mb:Nat) (w:World) (hv:QD w vb 199 #[.map (some mb)]) (hm:QhB w mb ks):
  Calls Tryz.prog 145 #[.int .i64 n,.pointer (some ⟨vb,0,none⟩)] w fun e w'=>e= .returned (.int .i64 (Qll ks n))∧QhB w' mb (QjG ks n)∧Chg (fun k=>k=mb) w w':=by
 have c0:w.cell? ⟨vb,0,none⟩=some (.map (some mb)):=hv.cell 0;have Qp:=Qbd.lookup (P:=Tryz.prog) hm Tryz.underlying199 Tryz.underlying3 (Qf2 w) n true;rw [QaF] at Qp;have hlen:=Qbd.len (P:=Tryz.prog) hm Tryz.underlying199;rw [Qcb] at hlen;obtain ⟨w1,hup,hm1,hc1,hs1⟩:=Qbd.update (P:=Tryz.prog) hm Tryz.underlying199 Tryz.underlying3 n (.int .i64 ks.length)
 cases hp:pos n ks with
 |none=>
  rw [hp] at Qp;simp only [Option.map_none,Option.getD_none,Option.isSome_none,if_true] at Qp;have h1:Qll ks n=ks.length:=by simp [Qll,hp]
  have h2:QhB w1 mb (QjG ks n):=by
   unfold QhB QjG;rw [hp];simp only [Option.isSome_none,Bool.false_eq_true,if_false];rw [QcZ];rw [Qe4 (by rw [QaF,hp];rfl)] at hm1;simpa using hm1
  have H1:=Lib.hid h1;clear h1 hp;go_enter Tryz.func145,Tryz.ntmps145;go_wp2_with fail;go_ret;exact ⟨by rw [H1.out];rfl,h2,hc1⟩
 |some j=>
  rw [hp] at Qp;simp only [Option.map_some,Option.getD_some,Option.isSome_some,if_true] at Qp;have h1:Qll ks n=j:=by simp [Qll,hp]
  have h2:QhB w mb (QjG ks n):=by
   unfold QjG;rw [hp];exact hm
  have H1:=Lib.hid h1;clear h1 hp;go_enter Tryz.func145,Tryz.ntmps145;go_wp2_with fail;go_ret;exact ⟨by rw [H1.out];rfl,h2,Chg.refl _ _⟩
set_option maxHeartbeats 400000 in
theorem Qlu (n:Int) (ks:List Int) (vb mb:Nat) (w:World) (hv:QD w vb 199 #[.map (some mb)]) (hm:QhB w mb ks):
  Calls Tryz.prog 198 #[.int .i64 n,.pointer (some ⟨vb,0,none⟩)] w fun e w'=>e= .returned (.int .i64 (Qll ks n))∧QhB w' mb (QjG ks n)∧Chg (fun k=>k=mb) w w':=by
 have c0:w.cell? ⟨vb,0,none⟩=some (.map (some mb)):=hv.cell 0;have Qp:=Qbd.lookup (P:=Tryz.prog) hm Tryz.underlying199 Tryz.underlying3 (Qf2 w) n true;rw [QaF] at Qp;have hlen:=Qbd.len (P:=Tryz.prog) hm Tryz.underlying199;rw [Qcb] at hlen;obtain ⟨w1,hup,hm1,hc1,hs1⟩:=Qbd.update (P:=Tryz.prog) hm Tryz.underlying199 Tryz.underlying3 n (.int .i64 ks.length)
 cases hp:pos n ks with
 |none=>
  rw [hp] at Qp;simp only [Option.map_none,Option.getD_none,Option.isSome_none,if_true] at Qp;have h1:Qll ks n=ks.length:=by simp [Qll,hp]
  have h2:QhB w1 mb (QjG ks n):=by
   unfold QhB QjG;rw [hp];simp only [Option.isSome_none,Bool.false_eq_true,if_false];rw [QcZ];rw [Qe4 (by rw [QaF,hp];rfl)] at hm1;simpa using hm1
  have hlk2:=Qbd.lookup (P:=Tryz.prog) h2 Tryz.underlying199 Tryz.underlying3 (Qf2 w1) n false;have c1:w1.cell? ⟨vb,0,none⟩=some (.map (some mb)):=(hv.chg hc1 (fun e=>QD.not_map hv hm e)).cell 0;rw [QaF,show pos n (QjG ks n)=some ks.length by unfold QjG;rw [hp];simpa using QmS hp] at hlk2;simp only [Option.map_some,Option.getD_some,Bool.false_eq_true,if_false] at hlk2;have H1:=Lib.hid h1;clear h1 hp;go_enter Tryz.func198,Tryz.ntmps198;go_wp2_with fail;go_ret;exact ⟨by rw [H1.out];rfl,h2,hc1⟩
 |some j=>
  rw [hp] at Qp;simp only [Option.map_some,Option.getD_some,Option.isSome_some,if_true] at Qp;have h1:Qll ks n=j:=by simp [Qll,hp]
  have h2:QhB w mb (QjG ks n):=by
   unfold QjG;rw [hp];exact hm
  have hlk2:=Qbd.lookup (P:=Tryz.prog) hm Tryz.underlying199 Tryz.underlying3 (Qf2 w) n false;rw [QaF,hp] at hlk2;simp only [Option.map_some,Option.getD_some,Bool.false_eq_true,if_false] at hlk2;have H1:=Lib.hid h1;clear h1 hp;go_enter Tryz.func198,Tryz.ntmps198;go_wp2_with fail;go_ret;exact ⟨by rw [H1.out];rfl,h2,Chg.refl _ _⟩
set_option maxRecDepth 100000
structure Num (σ:Type) where
 fid:FuncId
 cap:Array Value
 own:Nat→Prop
 lean:Nat→Prop
 inv:σ→World→Prop
 val:σ→Int→Int
 nxt:σ→Int→σ
structure Num.Ok {σ:Type} (N:Num σ):Prop where
 keep:∀s w w',N.inv s w→(∀k,N.lean k→w'.heap[k]?=w.heap[k]?)→N.inv s w'
 lt:∀s w k,N.inv s w→N.lean k→k<w.heap.size
 sub:∀k,N.own k→N.lean k
 bare:∀s w k c t f,N.inv s w→N.own k→w.heap[k]?≠some (.cells c t f)
 enter:∀(args:Array Value) (w:World),(callFunc N.fid args).run Tryz.prog w= .ok (.enter N.fid args) w
 call:∀s n w,N.inv s w→Calls Tryz.prog N.fid (#[.int .i64 n]++N.cap) w fun e w'=>e= .returned (.int .i64 (N.val s n))∧N.inv (N.nxt s n) w'∧Chg N.own w w'
def Num.v1 {σ:Type} (N:Num σ) (k n:Int) (s:σ):Int:=if k=0 then N.val s n else n
def Num.s1 {σ:Type} (N:Num σ) (k n:Int) (s:σ):σ:=if k=0 then N.nxt s n else s
def Ts.ren {σ:Type} (N:Num σ):Ts→σ→Ts×σ
 | .nil,s=>(.nil,s)
 | .cons k n b ar r,s=>(.cons k (N.v1 k n s) b (ar.ren N (N.s1 k n s)).1 (r.ren N (ar.ren N (N.s1 k n s)).2).1,(r.ren N (ar.ren N (N.s1 k n s)).2).2)
theorem Ts.ren_app {σ:Type} (N:Num σ) (D R:Ts):∀s:σ,(D.app R).ren N s=((D.ren N s).1.app (R.ren N (D.ren N s).2).1,(R.ren N (D.ren N s).2).2):=by
 induction D with
 |nil=>intro s;rfl
 |cons k n b ar r _ ih=>intro s;simp only [Ts.app,Ts.ren,ih]
theorem Ts.length_ren {σ:Type} (N:Num σ) (T:Ts):∀s:σ,(T.ren N s).1.length=T.length:=by
 induction T with
 |nil=>intro s;rfl
 |cons k n b ar r _ ih=>intro s;simp only [Ts.ren,Ts.length,ih]
section
variable {σ:Type} {N:Num σ}
theorem Num.Ok.cell_none (ok:N.Ok) {w:World} {s:σ} {k o:Nat} (hi:N.inv s w) (ho:N.own k):w.cell? ⟨k,o,none⟩=none:=by
 have:=fun c t f=>ok.bare s w k c t f hi ho;unfold World.cell?;split
 ·rename_i h;exact absurd h (this _ _ _)
 ·rfl
theorem Num.Ok.sl (ok:N.Ok) {w w':World} {p:Nat→Prop} {s:σ} {v:Value} {T:Ts} (h:Sl w p v T) (hi:N.inv s w) (hc:Chg N.own w w'):Sl w' p v T:=by
 have h1:Sl w (fun k=>p k∧¬N.own k) v T:=h.imp' fun k hk ⟨j,u,hu⟩=>⟨hk,fun ho=>by rw [ok.cell_none hi ho] at hu;cases hu⟩
 exact (h1.chg hc fun k hk=>hk.2).imp fun k hk _=>hk.1
end
def QjC {σ : Type} (N : Num σ) (ar : Ts) : Prop := ∀ (k n : Int) (b : ByteArray) (v : Value) (s : σ) (w : World), Sl w (fun _ => True) v ar → N.inv s w → ar.nodes ≤ 1048576 →
    Calls Tryz.prog 162 #[.agg #[.int .i64 k,.int .i64 n,.string b,v],.func (.func N.fid) #[] N.cap] w fun e w'=>∃v',e= .returned (.agg #[.int .i64 k,.int .i64 (N.v1 k n s),.string b,v'])∧
     Sl w' (fun k=>w.heap.size≤k) v' (ar.ren N (N.s1 k n s)).1∧N.inv (ar.ren N (N.s1 k n s)).2 w'∧Chg N.own w w'
structure QtS {σ:Type} (N:Num σ) (w:World) (k n:Int) (b:ByteArray) (v:Value) (s:σ) (wx:World):Prop where
 t:QD wx w.heap.size 63 #[.int .i64 k,.int .i64 n,.string b,v]
 r:QD wx (w.heap.size+1) 63 #[.int .i64 0,.int .i64 0,.string ⟨#[]⟩,.slice none 0 0]
 inv:N.inv s wx
 chg:Chg N.own w wx
structure Qlf {σ:Type} (N:Num σ) (w:World) (T:Ts) (k n:Int) (b:ByteArray) (s:σ) (u:Value) (D R:Ts) (xs:List Value) (wr:World):Prop where
 split:T=D.app R
 t:QD wr w.heap.size 63 #[.int .i64 k,.int .i64 n,.string b,u]
 r:QD wr (w.heap.size+1) 63 #[.int .i64 0,.int .i64 0,.string ⟨#[]⟩,.slice none 0 0]
 own:wr.ownsRow (w.heap.size+2) 63 4 u D.length xs
 cs:Cs wr (fun k=>w.heap.size+2≤k∧u.ownBlock≠some k) (D.ren N s).1 xs
 inv:N.inv (D.ren N s).2 wr
 chg:Chg N.own w wr
def QqT {σ:Type} (N:Num σ) (w:World) (T:Ts) (k n:Int) (b:ByteArray) (s:σ) (g:Nat) (s21:Value) (wr:World):Prop:=
 ∃(u:Value) (D R:Ts) (xs:List Value),Qlf N w T k n b s u D R xs wr∧g=R.length∧s21= .int .i64 D.length
theorem Qlf.step {σ:Type} {N:Num σ} (ok:N.Ok) {w wr W w3:World} {T D r ar:Ts} {k n k1 n1:Int} {b s1:ByteArray} {s s0:σ} {u v3 v:Value} {xs:List Value} (hi:N.inv s0 w)
  (h:Qlf N w T k n b s u D (.cons k1 n1 s1 ar r) xs wr) (hC:Chg N.own wr W)
  (hv:Sl W (fun k=>wr.heap.size≤k) v (ar.ren N (N.s1 k1 n1 (D.ren N s).2)).1) (hI:N.inv (ar.ren N (N.s1 k1 n1 (D.ren N s).2)).2 W)
  (ho3:w3.ownsRow (w.heap.size+2) 63 4 v3 (D.length+1) (xs++[.int .i64 k1,.int .i64 (N.v1 k1 n1 (D.ren N s).2),.string s1,v]))
  (hg:W.grownBy w3 u.ownBlock) (hat:v3.ownBlock=u.ownBlock∨v3.ownBlock=some W.heap.size):
  Qlf N w T k n b s v3 (D.app (.cons k1 n1 s1 ar .nil)) r (xs++[.int .i64 k1,.int .i64 (N.v1 k1 n1 (D.ren N s).2),.string s1,v]) (w3.setCell ⟨w.heap.size,3,none⟩ v3):=by
 have hlt:=h.own.lt;have hle:∀k,N.lean k→k<w.heap.size:=fun k hk=>ok.lt s0 w k hi hk;have hsz:=h.r.lt
 have hown:∀k,w.heap.size≤k→¬N.own k:=fun k hk ho=>by have:=hle k (ok.sub k ho);omega
 have e:(D.app (.cons k1 n1 s1 ar .nil)).ren N s=((D.ren N s).1.app (.cons k1 (N.v1 k1 n1 (D.ren N s).2) s1 (ar.ren N (N.s1 k1 n1 (D.ren N s).2)).1 .nil),(ar.ren N (N.s1 k1 n1 (D.ren N s).2)).2):=by
  rw [Ts.ren_app];rfl
 have hu:∀k,u.ownBlock=some k→w.heap.size+2≤k∧k<wr.heap.size:=fun k hk=>hlt k hk;have hWs:=hC.size
 have hv3:v3.ownBlock≠some w.heap.size:=by
  rcases hat with e|e<;>rw [e]
  ·intro e2;have:=hu _ e2;omega
  ·intro e2;simp at e2;omega
 have ht3:QD w3 w.heap.size 63 #[.int .i64 k,.int .i64 n,.string b,u]:=(h.t.chg hC (hown _ (Nat.le_refl _))).grown hg (fun e=>by have:=hu _ e.symm;omega);have hr3:QD w3 (w.heap.size+1) 63 #[.int .i64 0,.int .i64 0,.string ⟨#[]⟩,.slice none 0 0]:=(h.r.chg hC (hown _ Ya)).grown hg (fun e=>by have:=hu _ e.symm;omega);refine ⟨by rw [h.split,Ts.app_assoc];rfl,ht3.set_ 3 _,hr3.far Yd _,?_,?_,?_,?_⟩
 ·rw [Ts.length_app];exact ownsRow_setCell_other ho3 hv3 _
 ·rw [e]
  have h1:Cs W (fun k=>(w.heap.size+2≤k∧v3.ownBlock≠some k)∧u.ownBlock≠some k) ((D.ren N s).1.app (.cons k1 (N.v1 k1 n1 (D.ren N s).2) s1 (ar.ren N (N.s1 k1 n1 (D.ren N s).2)).1 .nil)) (xs++[.int .i64 k1,.int .i64 (N.v1 k1 n1 (D.ren N s).2),.string s1,v]):=by
   refine Cs.app ?_ ⟨v,[],rfl,?_,rfl⟩
   ·refine (h.cs.imp (q:=fun k=>(w.heap.size+2≤k∧v3.ownBlock≠some k)∧u.ownBlock≠some k) fun k hk hl=>⟨⟨hk.1,?_⟩,hk.2⟩).keep fun k hk hl=>hC.block k hl (hown k Ya);rcases hat with e|e<;>rw [e]
    ·exact hk.2
    ·intro e2;simp at e2;omega
   ·refine hv.imp fun k hk hl=>⟨⟨by omega,?_⟩,?_⟩
    ·rcases hat with e|e<;>rw [e]
     ·intro e2;have:=hu k e2;omega
     ·intro e2;simp at e2;omega
    ·intro e2;have:=hu k e2;omega
  refine ((h1.keep (w':=w3) fun k hk hl=>hg.block k hl (fun e=>hk.2 e.symm)).imp (q:=fun k=>w.heap.size+2≤k∧v3.ownBlock≠some k) fun k hk _=>hk.1).keep fun k hk _=> ?_;exact Below.heap_setCell _ _ _ _ Yh
 ·rw [e];refine ok.keep _ W _ hI fun k hk=> ?_;have:=hle k hk;rw [Below.heap_setCell _ _ _ _ Yh];exact hg.block k Ya (fun e=>by have:=hu _ e.symm;omega)
 ·refine Chg.setCell (((h.chg.trans hC fun _ _ h=>h)).trans (Chg.of_grown hg) fun k hk hk2=> ?_) (fun h=>by simp at h) _;have:=hu _ hk2;omega
set_option maxHeartbeats 400000 in
theorem Qn5 {σ:Type} {N:Num σ} (ok:N.Ok) (m:Nat) (ih:∀T:Ts,T.nodes<m→QjC N T) (T:Ts) (hm:T.nodes≤m):QjC N T:=by
 intro k n b v s w hv hi hn;obtain ⟨A,c,rfl,hs⟩:=hv.form;have hle:=T.length_le;have hen:=ok.enter;obtain ⟨i0,hi0,hz0,hz1,hz2⟩:=info_parts Qdy;have hlt:∀k,N.lean k→k<w.heap.size:=fun k=>ok.lt s w k hi;have HLT:=Lib.hid hlt;clear hlt
 have hiW:N.inv s ((w.alloc (.cells #[.int .i64 k,.int .i64 n,.string b,.slice A T.length c] 63)).alloc (.cells #[.int .i64 0,.int .i64 0,.string ⟨#[]⟩,.slice none 0 0] 63)):=
  ok.keep s w _ hi fun k hk=>by
   have:=HLT.out k hk;rw [Below.heap_alloc _ _ _ Yh,Below.heap_alloc _ _ _ this]
 have hcW:Chg N.own w ((w.alloc (.cells #[.int .i64 k,.int .i64 n,.string b,.slice A T.length c] 63)).alloc (.cells #[.int .i64 0,.int .i64 0,.string ⟨#[]⟩,.slice none 0 0] 63)):=
  ((Chg.refl _ _).alloc _).alloc _
 have b0:QD ((w.alloc (.cells #[.int .i64 k,.int .i64 n,.string b,.slice A T.length c] 63)).alloc (.cells #[.int .i64 0,.int .i64 0,.string ⟨#[]⟩,.slice none 0 0] 63)) w.heap.size 63 #[.int .i64 k,.int .i64 n,.string b,.slice A T.length c]:=
  (QD.new w _ _).alloc _
 have b1:QD ((w.alloc (.cells #[.int .i64 k,.int .i64 n,.string b,.slice A T.length c] 63)).alloc (.cells #[.int .i64 0,.int .i64 0,.string ⟨#[]⟩,.slice none 0 0] 63)) (w.heap.size+1) 63 #[.int .i64 0,.int .i64 0,.string ⟨#[]⟩,.slice none 0 0]:=by
  have:=QD.new (w.alloc (.cells #[.int .i64 k,.int .i64 n,.string b,.slice A T.length c] 63)) 63 #[.int .i64 0,.int .i64 0,.string ⟨#[]⟩,.slice none 0 0];simpa using this
 go_enter Tryz.func162,Tryz.ntmps162;go_upto_if 10 with fail;go_cut [] (fun wx=>QtS N w k (N.v1 k n s) b (.slice A T.length c) (N.s1 k n s) wx)
 case first=>
  by_cases hk:k=0
  ·subst hk;go_wp2_with fail;refine (ok.call s n _ hiW).mono ?_;rintro e w1 ⟨rfl,hi1,hc1⟩
   have d0:=b0.chg hc1 fun h=>by have:=HLT.out _ (ok.sub _ h);omega
   have d1:=b1.chg hc1 fun h=>by have:=HLT.out _ (ok.sub _ h);omega
   have c1:w1.cell? ⟨w.heap.size,1,none⟩=some (.int .i64 n):=d0.cell 1;have f1:w1.frozen? ⟨w.heap.size,1,none⟩=false:=d0.frozen 1;go_wp2_with fail;go_meet;refine ⟨d0.set_ 1 _,d1.far Yd _,?_,?_⟩
   ·refine ok.keep _ w1 _ (by simpa [Num.s1] using hi1) fun k hk=> ?_;have:=HLT.out k hk;exact Below.heap_setCell _ _ _ _ Yh
   ·exact (hcW.trans hc1 fun _ _ h=>h).setCell (fun h=>by simp at h) _
  ·have hk':(k==0)=false:=by simp [hk]
   have e1:N.v1 k n s=n:=by simp [Num.v1,hk]
   have e2:N.s1 k n s=s:=by simp [Num.s1,hk]
   have E1:=Lib.hid e1;have E2:=Lib.hid e2;clear e1 e2;go_wp2_with fail;go_meet;rw [E1.out,E2.out];exact ⟨b0,b1,hiW,hcW⟩
 case rest =>
  clear hiW hcW b0 b1;obtain ⟨d0,d1,hi1,hc1⟩:=hcut;obtain ⟨a0,a1,a2,a3,af⟩:=d0.four
  have h0:QqT N w T k (N.v1 k n s) b (N.s1 k n s) T.length (.int .i64 0) (wc.setCell ⟨w.heap.size,3,none⟩ (.slice none 0 0)):=by
   refine ⟨.slice none 0 0,.nil,T,[],⟨rfl,d0.set_ 3 _,d1.far Yd _,World.ownsRow_nil _ _ _ _,rfl,?_,?_⟩,rfl,rfl⟩
   ·refine ok.keep _ wc _ hi1 fun k hk=> ?_;have:=HLT.out k hk;exact Below.heap_setCell _ _ _ _ Yh
   ·exact hc1.setCell (fun h=>by simp at h) _
  clear d0 d1;go_wp2_with fail;go_loopg [21] T.length (QqT N w T k (N.v1 k n s) b (N.s1 k n s))
  case atStart=>exact h0
  case round =>
   clear h0 a0 a1 a2 a3 af;obtain ⟨u,D,R,xs,hrel,eg,rfl⟩:=hrel;have hbz:w.heap.size+1<wr.heap.size:=hrel.r.lt
   cases R with
   |nil=>
    have e1:D.length=T.length:=by rw [hrel.split,Ts.app_nil]
    have eD:D=T:=by rw [hrel.split,Ts.app_nil]
    obtain ⟨Au,cu,hu⟩:∃Au cu,u= .slice Au D.length cu:=by
     rcases hrel.own.2 with ⟨h1,h2⟩|⟨g,cap,cur,h1,_⟩
     ·exact ⟨none,0,by rw [h1,h2]⟩
     ·exact ⟨_,_,h1⟩
    subst hu;subst eD
    have hsl:Sl wr (fun k=>w.heap.size+2≤k) (.slice Au D.length cu) (D.ren N (N.s1 k n s)).1:=by
     have h1:=hrel.own;rw [←Ts.length_ren N D (N.s1 k n s)] at h1;have h2:=Sl.own h1 (hrel.cs.imp fun k hk _=>hk.1) fun g hg=>(h1.lt g hg).1
     rwa [Ts.length_ren] at h2
    obtain ⟨a0,a1,a2,a3,af⟩:=hrel.t.four;obtain ⟨b0,b1,b2,b3,bf⟩:=hrel.r.four;have hI:=hrel.inv;have hC:=hrel.chg;clear eg hrel;go_wp2_with fail;refine bodyPost_ret (v:= .agg #[.int .i64 k,.int .i64 (N.v1 k n s),.string b,.slice Au D.length cu]) (by simp [results,Tryz.results162,go_sem,b0,b1,b2,b3]) rfl ⟨_,rfl,?_,?_,?_⟩
    ·refine (hsl.keep (w':=_) fun k hk _=> ?_).imp fun k hk _=>by omega
     simp only [World.setCell,Array.getElem?_modify]
     repeat rw [if_neg Ya]
    ·refine ok.keep _ wr _ hI fun k hk=> ?_;have:=HLT.out k hk;simp only [World.setCell,Array.getElem?_modify]
     repeat rw [if_neg Ya]
    ·exact (((hC.setCell (fun h=>by simp at h;omega) _).setCell (fun h=>by simp at h;omega) _).setCell (fun h=>by simp at h;omega) _).setCell (fun h=>by simp at h;omega) _
   |cons k1 n1 s1 ar r=>
    have e1:D.length<T.length:=by rw [hrel.split,Ts.length_app];simp [Ts.length]
    have e2:ar.nodes<m∧ar.nodes≤1048576:=by
     have h:=hrel.split;rw [h,Ts.nodes_app] at hm hn;simp [Ts.nodes] at hm hn;omega
    have hsl:Sl wr (fun k=>k<w.heap.size) (.slice A T.length c) (D.app (.cons k1 n1 s1 ar r)):=by
     rw [←hrel.split];exact ok.sl (hs.imp fun k _ h=>h) hi hrel.chg
    obtain ⟨b1,o1,rfl,hq1⟩:=Sl.at_ hsl Y1;obtain ⟨_,c10,c11,c12,⟨v1,c13,hv1⟩,_⟩:=QL.1 hq1;obtain ⟨A1,d1,rfl,hv1⟩:=hv1.form
    obtain ⟨Au,cu,hu⟩:∃Au cu,u= .slice Au D.length cu:=by
     rcases hrel.own.2 with ⟨h1,h2⟩|⟨g,cap,cur,h1,_⟩
     ·exact ⟨none,0,by rw [h1,h2]⟩
     ·exact ⟨_,_,h1⟩
    subst hu;obtain ⟨a0,a1,a2,a3,af⟩:=hrel.t.four;have HG:=Lib.hid eg;clear eg hq1 hsl;go_wp2_with fail
    refine Qbe (fun ws=>ws.cell? ⟨w.heap.size,3,none⟩=some (.slice Au D.length cu)∧ws.cell? ⟨wr.heap.size,0,none⟩=some (.int .i64 k1)∧ws.cell? ⟨wr.heap.size,1,none⟩=some (.int .i64 n1)∧ws.cell? ⟨wr.heap.size,2,none⟩=some (.string s1)∧ws.cell? ⟨wr.heap.size,3,none⟩=some (.slice A1 ar.length d1))
     6 [(0,true),(1,true),(2,true),(3,true),(4,false),(5,false)] Yc Yc ?S0 ?rest
    case S0=>
     have hx:=(QD.new wr 63 #[.int .i64 k1,.int .i64 n1,.string s1,.slice A1 ar.length d1]).four;have ht:=(hrel.t.alloc (.cells #[.int .i64 k1,.int .i64 n1,.string s1,.slice A1 ar.length d1] 63)).cell 3;exact ⟨ht,hx.1,hx.2.1,hx.2.2.1,hx.2.2.2.1⟩
    case rest=>
     iterate 4
      refine Qbr rfl rfl ⟨?_,fun w' hS=> ?_,fun _ _ _ h=>h,?_⟩
      rotate_left
      ·obtain ⟨t1,t2,t3,t4,t5⟩:=hS;go_simp;exact rfl
     have hI1:N.inv (D.ren N (N.s1 k n s)).2 (wr.alloc (.cells #[.int .i64 k1,.int .i64 n1,.string s1,.slice A1 ar.length d1] 63)).drew:=ok.keep _ wr _ hrel.inv fun k hk=>Below.heap_alloc _ _ _ (by have:=HLT.out k hk;omega);have hsl1:Sl (wr.alloc (.cells #[.int .i64 k1,.int .i64 n1,.string s1,.slice A1 ar.length d1] 63)).drew (fun _=>True) (.slice A1 ar.length d1) ar:=hv1.any.keep fun k _ hk=>Below.heap_alloc _ _ _ hk;refine Qdc rfl ?_;go_wp2_with fail;refine (ih ar e2.1 k1 n1 s1 _ _ _ hsl1 hI1 e2.2).mono ?_;rintro e w2 ⟨v',rfl,hv',hI2,hc2⟩;obtain ⟨Aw,cw,rfl,hv'⟩:=hv'.form
     have hown:∀k,w.heap.size≤k→¬N.own k:=fun k hk ho=>by have:=HLT.out k (ok.sub k ho);omega
     have ht2:QD w2 w.heap.size 63 #[.int .i64 k,.int .i64 (N.v1 k n s),.string b,.slice Au D.length cu]:=((hrel.t.alloc _).drewN 1).chg hc2 (hown _ (Nat.le_refl _));have hx2:QD w2 wr.heap.size 63 #[.int .i64 k1,.int .i64 n1,.string s1,.slice A1 ar.length d1]:=((QD.new wr _ _).drewN 1).chg hc2 (hown _ Ya)
     have hzz:wr.heap.size<w2.heap.size:=by have:=hc2.size;simp at this;omega
     go_wp2_with fail;refine ⟨⟨ht2.cell 3,hx2.cell 0,hx2.cell 1,hx2.cell 2,hx2.cell 3⟩,?_⟩;refine Qdc rfl ?_;go_wp2_with fail;refine ⟨⟨(ht2.alloc _).cell 3,(hx2.alloc _).cell 0,(hx2.alloc _).cell 1,(hx2.alloc _).cell 2,(hx2.alloc _).cell 3⟩,?_⟩;simp only [Qew,List.drop_succ_cons,List.drop_zero];have hC3:Chg N.own wr (w2.alloc (.cells #[.int .i64 k1,.int .i64 (N.v1 k1 n1 (D.ren N (N.s1 k n s)).2),.string s1,.slice Aw (ar.ren N (N.s1 k1 n1 (D.ren N (N.s1 k n s)).2)).1.length cw] 63)):=(((Chg.refl _ wr).alloc _).drew.trans hc2 fun _ _ h=>h).alloc _;have hI3:N.inv (ar.ren N (N.s1 k1 n1 (D.ren N (N.s1 k n s)).2)).2 (w2.alloc (.cells #[.int .i64 k1,.int .i64 (N.v1 k1 n1 (D.ren N (N.s1 k n s)).2),.string s1,.slice Aw (ar.ren N (N.s1 k1 n1 (D.ren N (N.s1 k n s)).2)).1.length cw] 63)):=ok.keep _ w2 _ hI2 fun k hk=>Below.heap_alloc _ _ _ (by have:=HLT.out k hk;omega)
     have hv3:Sl (w2.alloc (.cells #[.int .i64 k1,.int .i64 (N.v1 k1 n1 (D.ren N (N.s1 k n s)).2),.string s1,.slice Aw (ar.ren N (N.s1 k1 n1 (D.ren N (N.s1 k n s)).2)).1.length cw] 63)) (fun k=>wr.heap.size≤k) (.slice Aw (ar.ren N (N.s1 k1 n1 (D.ren N (N.s1 k n s)).2)).1.length cw) (ar.ren N (N.s1 k1 n1 (D.ren N (N.s1 k n s)).2)).1:=
      (hv'.below ((Below.refl _ _).alloc (Nat.le_refl _) _)).imp fun k hk _=>by simp at hk;omega
     have ho3:=QlO hrel.own hC3 fun g hg=>hown g (by have:=(hrel.own.lt g hg).1;omega);have ht3:=ht2.alloc (.cells #[.int .i64 k1,.int .i64 (N.v1 k1 n1 (D.ren N (N.s1 k n s)).2),.string s1,.slice Aw (ar.ren N (N.s1 k1 n1 (D.ren N (N.s1 k n s)).2)).1.length cw] 63);go_wp2_with (at_builtin;refine Qao _ rfl (.tmp 26) (.tmp 30) _ rfl (w.heap.size+2) 63 i0 _ 4 56 Tryz.underlying23 hi0 hz0 hz1 hz2 rfl Ya (.slice Au D.length cu) D.length xs rfl ho3 ⟨w2.heap.size,0,none⟩ 1 1 [.int .i64 k1,.int .i64 (N.v1 k1 n1 (D.ren N (N.s1 k n s)).2),.string s1,.slice Aw (ar.ren N (N.s1 k1 n1 (D.ren N (N.s1 k n s)).2)).1.length cw] rfl rfl (Qe2 w2 _ _) Yap Yk Ya Yh ?next)
     case next=>
      intro v3 w3 hov hg hat;have hat':v3.ownBlock=(Value.slice Au D.length cu).ownBlock∨v3.ownBlock=some (w2.alloc (.cells #[.int .i64 k1,.int .i64 (N.v1 k1 n1 (D.ren N (N.s1 k n s)).2),.string s1,.slice Aw (ar.ren N (N.s1 k1 n1 (D.ren N (N.s1 k n s)).2)).1.length cw] 63)).heap.size:=by simpa using hat
      have hstep:=Qlf.step ok hi hrel hC3 hv3 hI3 hov hg hat';have ht4:QD w3 w.heap.size 63 #[.int .i64 k,.int .i64 (N.v1 k n s),.string b,.slice Au D.length cu]:=ht3.grown hg (fun e=>by have:=(hrel.own.lt _ e.symm).1;omega);have c4:w3.cell? ⟨w.heap.size,3,none⟩=some (.slice Au D.length cu):=ht4.cell 3;have f4:w3.frozen? ⟨w.heap.size,3,none⟩=false:=ht4.frozen 3;obtain ⟨Ag,cap,rfl⟩:=Qcp hov;clear hat hat' hov;go_wp2_with fail;go_roundg r.length
      case measure=>rw [HG.out];simp [Ts.length]
      case rel=>
       refine ⟨_,_,_,_,hstep,rfl,?_⟩;rw [Ts.length_app];rfl
theorem QmP {σ:Type} {N:Num σ} (ok:N.Ok) (T:Ts):QjC N T:=by
 have:∀m,∀T:Ts,T.nodes<m→QjC N T:=by
  intro m
  induction m with
  |zero=>intro T h;omega
  |succ m ih=>intro T h;exact Qn5 ok m ih T Ya
 exact this _ T (Nat.lt_succ_self _)
def InS (L:List Lev) (k i:Nat):Prop:=∃l∈L,l.b=k∧l.o≤i∧i<l.o+4*l.T.length
def T24 (w:World) (k:Nat):Prop:=∃cur,QD w k 63 cur
def Qt2 {σ:Type} (N:Num σ) (B:Nat) (w':World):List Lev→σ→σ→Prop
 |[],s,sf=>sf=s
 |l::r,s,sf=>Seg w' (fun k=>B≤k) (l.T.ren N s).1 l.b l.o∧Qt2 N B w' r (l.T.ren N s).2 sf
def Fr (L:List Lev) (w w':World):Prop:=∀k i v,T24 w k→¬InS L k i→w.cell? ⟨k,i,none⟩=some v→w'.cell? ⟨k,i,none⟩=some v
def Qt9 (w0 w:World) (B:Nat) (l:Lev):Prop:=
 B≤l.b∧∃cur xs,QD w l.b 63 cur∧Cs w0 (fun _=>True) l.T xs∧∀j u,xs[j]?=some u→cur[l.o+j]?=some u
structure QqS {σ:Type} (N:Num σ) (w0:World) (s0:σ) (T:Ts) (out:Value) (pb:Nat) (L:List Lev) (s:σ) (pv:Value) (xs:List Value) (w:World):Prop where
 path:Qak w w0.heap.size pb pv xs
 pbl:w0.heap.size≤pb
 pvs:PV L xs
 lev:∀l∈L,Qt9 w0 w w0.heap.size l
 dis:(L.map Lev.b).Nodup
 inv:N.inv s w
 chg:Chg N.own w0 w
 small:QJ L≤T.nodes
 wand:∀w' sf,Qt2 N w0.heap.size w' L s sf→Fr L w w'→Sl w' (fun k=>w0.heap.size≤k) out (T.ren N s0).1∧sf=(T.ren N s0).2
theorem QeO {T:Ts} {b o:Nat} {L:List Lev} {l:Lev} (h:l∈push T b o L):(0<T.length∧l=⟨b,o,T⟩)∨l∈L:=by
 unfold push at h;split at h
 ·exact .inr h
 ·rcases List.mem_cons.1 h with h|h
  ·exact .inl ⟨by omega,h⟩
  ·exact .inr h
theorem QdU {T:Ts} {b o k i:Nat} {L:List Lev} (h:InS (push T b o L) k i):(b=k∧o≤i∧i<o+4*T.length)∨InS L k i:=by
 obtain ⟨l,hl,h⟩:=h;rcases QeO hl with ⟨_,rfl⟩|hl
 ·exact .inl h
 ·exact .inr ⟨l,hl,h⟩
theorem Qg0 {σ:Type} {N:Num σ} {B:Nat} {w':World} {T:Ts} {b o:Nat} {L:List Lev} {s sf:σ} (h:Qt2 N B w' (push T b o L) s sf):Seg w' (fun k=>B≤k) (T.ren N s).1 b o∧Qt2 N B w' L (T.ren N s).2 sf:=by
 unfold push at h;split at h
 ·rename_i h0;rw [Ts.nil_of_length h0];exact ⟨trivial,h⟩
 ·exact h
theorem QqS.step {σ:Type} {N:Num σ} {w0 wr w5:World} {s0 s:σ} {T:Ts} {out:Value} {pb b o g:Nat} {k n:Int} {t:ByteArray} {ar r:Ts} {L:List Lev} {pv pv5 v v4:Value} {xs xs5 ys xs4:List Value} {cur curg:Array Value}
  (h:QqS N w0 s0 T out pb (⟨b,o,.cons k n t ar r⟩::L) s pv xs wr)
  (hcur:QD wr b 63 cur) (c0:cur[o]?=some (.int .i64 k)) (c1:cur[o+1]?=some (.int .i64 n)) (c2:cur[o+2]?=some (.string t)) (c3:cur[o+3]?=some v) (hys:Cs w0 (fun _=>True) r ys) (cys:∀(j:Nat) u,ys[j]?=some u→cur[o+4+j]?=some u)
  (hpath:Qak w5 w0.heap.size pb pv5 xs5) (hpv:PV (push ar g 0 (push r b (o+4) L)) xs5) (hxs4:Cs w0 (fun _=>True) ar xs4)
  (hother:∀k' cur',k'≠b→QD wr k' 63 cur'→QD w5 k' 63 cur')
  (hb5:QD w5 b 63 ((cur.setIfInBounds (o+1) (.int .i64 (N.v1 k n s))).setIfInBounds (o+3) v4))
  (hv4:∃A c,v4= .slice A ar.length c∧ar.length≤c∧(0<ar.length→A=some ⟨g,0,none⟩))
  (hg:0<ar.length→wr.heap.size≤g∧QD w5 g 63 curg∧∀(j:Nat) u,xs4[j]?=some u→curg[j]?=some u)
  (hI:N.inv (N.s1 k n s) w5) (hC:Chg N.own w0 w5):
  QqS N w0 s0 T out pb (push ar g 0 (push r b (o+4) L)) (N.s1 k n s) pv5 xs5 w5:=by
 have hd:=h.dis;simp only [List.map_cons,List.nodup_cons] at hd;have hne:∀l∈L,l.b≠b:=fun l hl e=>hd.1 (by rw [←e];exact List.mem_map_of_mem hl);have hbl:=hcur.lt
 have hlev:∀l∈L,l.b<wr.heap.size:=fun l hl=>by
  obtain ⟨_,_,_,h1,_⟩:=h.lev l (List.mem_cons_of_mem _ hl);exact h1.lt
 have hB:w0.heap.size≤b:=(h.lev _ (List.mem_cons_self ..)).1;have hBr:=h.chg.size;have hsz:((cur.setIfInBounds (o+1) (.int .i64 (N.v1 k n s))).setIfInBounds (o+3) v4).size=cur.size:=by simp
 have hlt:∀{i:Nat} {u:Value},cur[i]?=some u→i<cur.size:=fun hu=>(Array.getElem?_eq_some_iff.1 hu).1
 have Qjk:∀i u,i≠o+1→i≠o+3→cur[i]?=some u→((cur.setIfInBounds (o+1) (.int .i64 (N.v1 k n s))).setIfInBounds (o+3) v4)[i]?=some u:=fun i u h1 h3 hu=>by
  rw [Array.getElem?_setIfInBounds_ne Ya,Array.getElem?_setIfInBounds_ne Ya];exact hu
 have d1:((cur.setIfInBounds (o+1) (.int .i64 (N.v1 k n s))).setIfInBounds (o+3) v4)[o+1]?=some (.int .i64 (N.v1 k n s)):=by
  rw [Array.getElem?_setIfInBounds_ne Ya,Array.getElem?_setIfInBounds_self_of_lt (hlt c1)]
 have d3:((cur.setIfInBounds (o+1) (.int .i64 (N.v1 k n s))).setIfInBounds (o+3) v4)[o+3]?=some v4:=by
  rw [Array.getElem?_setIfInBounds_self_of_lt (by simpa using hlt c3)]
 refine ⟨hpath,h.pbl,hpv,?_,?_,hI,hC,?_,?_⟩
 ·intro l hl;rcases QeO hl with ⟨hp,rfl⟩|hl
  ·obtain ⟨h1,h2,h3⟩:=hg hp;exact ⟨by show _≤g;omega,curg,xs4,h2,hxs4,fun j u hu=>by rw [Nat.zero_add];exact h3 j u hu⟩
  ·rcases QeO hl with ⟨hp,rfl⟩|hl
   ·exact ⟨hB,_,ys,hb5,hys,fun j u hu=>Qjk _ _ (by show o+4+j≠_;omega) (by show o+4+j≠_;omega) (cys j u hu)⟩
   ·obtain ⟨h1,cur',zs,h2,h3,h4⟩:=h.lev l (List.mem_cons_of_mem _ hl);exact ⟨h1,cur',zs,hother _ _ (hne l hl) h2,h3,h4⟩
 ·have h1:((push r b (o+4) L).map Lev.b).Nodup∧∀l∈push r b (o+4) L,l.b<wr.heap.size:=by
   constructor
   ·unfold push;split
    ·exact hd.2
    ·simpa using hd
   ·intro l hl;rcases QeO hl with ⟨_,rfl⟩|hl
    ·exact hbl
    ·exact hlev l hl
  unfold push;split
  ·exact h1.1
  ·rename_i h0;refine List.nodup_cons.2 ⟨fun hm=> ?_,h1.1⟩;obtain ⟨l,hl,e⟩:=List.mem_map.1 hm;have h2:=h1.2 l hl;have h3:=(hg Ya).1;have e':l.b=g:=e;omega
 ·have:=h.small;rw [QT,QT];simp only [QJ,List.map_cons,List.sum_cons,Ts.nodes] at this⊢;omega
 ·intro w' sf hR hF;refine h.wand w' sf ?_ ?_
  ·obtain ⟨hR1,hR2⟩:=Qg0 hR;obtain ⟨hR3,hR4⟩:=Qg0 hR2
   have hcell:∀i u,(∀l∈L,l.b≠b)→i<o+4→((cur.setIfInBounds (o+1) (.int .i64 (N.v1 k n s))).setIfInBounds (o+3) v4)[i]?=some u→w'.cell? ⟨b,i,none⟩=some u:=by
    intro i u hL hi hu;refine hF b i u ⟨_,hb5⟩ ?_ ((hb5.cell i).trans hu);intro hin;rcases QdU hin with ⟨e,h1,h2⟩|hin
    ·have:=(hg Ya).1;omega
    ·rcases QdU hin with ⟨_,h1,_⟩|⟨l,hl,e,_⟩
     ·omega
     ·exact hL l hl e
   refine ⟨?_,hR4⟩;refine QL.2 ⟨hB,hcell o _ hne Ya (Qjk o _ Ya Ya c0),hcell (o+1) _ hne Ya d1,hcell (o+2) _ hne Ya (Qjk (o+2) _ Ya Ya c2),⟨v4,hcell (o+3) _ hne Ya d3,?_⟩,hR3⟩;obtain ⟨A,c,e,hc,hA⟩:=hv4;refine ⟨A,c,by rw [Ts.length_ren];exact e,by rw [Ts.length_ren];exact hc,fun hp=> ?_⟩;rw [Ts.length_ren] at hp;exact ⟨g,0,hA hp,hR1⟩
  ·intro k' i u hT hin hu;obtain ⟨cur',hk'⟩:=hT;have hk'l:=hk'.lt;by_cases e:k'=b
   ·subst e
    have hcc:cur'=cur:=by
     unfold QD at hk' hcur;rw [hk'] at hcur;injection hcur with hcur;injection hcur
    subst hcc;rw [hk'.cell i] at hu;have hnot:¬(o≤i∧i<o+4*(Ts.cons k n t ar r).length):=fun hh=>hin ⟨_,List.mem_cons_self ..,rfl,hh⟩;simp only [Ts.length] at hnot;refine hF k' i u ⟨_,hb5⟩ ?_ ((hb5.cell i).trans (Qjk i u Ya Ya hu));intro hin2;rcases QdU hin2 with ⟨e,h1,h2⟩|hin2
    ·have:=(hg Ya).1;omega
    ·rcases QdU hin2 with ⟨_,h1,h2⟩|⟨l,hl,e,_⟩
     ·omega
     ·exact hne l hl e
   ·have h5:=hother k' cur' e hk';refine hF k' i u ⟨_,h5⟩ ?_ ((h5.cell i).trans ((hk'.cell i).symm.trans hu));intro hin2;rcases QdU hin2 with ⟨e2,h1,h2⟩|hin2
    ·have:=(hg Ya).1;omega
    ·rcases QdU hin2 with ⟨e2,_,_⟩|⟨l,hl,hh⟩
     ·exact e e2.symm
     ·exact hin ⟨l,List.mem_cons_of_mem _ hl,hh⟩
def Qsx {σ:Type} (N:Num σ) (w0:World) (s0:σ) (T:Ts) (out:Value) (pb:Nat) (g:Nat) (w:World):Prop:=
 ∃L s pv xs,QqS N w0 s0 T out pb L s pv xs w∧g=QJ L
theorem Num.Ok.raw {σ:Type} {N:Num σ} (ok:N.Ok) {w w':World} {s:σ} {v:Value} {l:Nat} {xs:List Value} (h:Raw w v l xs) (hi:N.inv s w) (hc:Chg N.own w w'):Raw w' v l xs:=by
 obtain ⟨A,c,e,h1,h2,h3,h4⟩:=h;refine ⟨A,c,e,h1,h2,h3,fun hl=> ?_⟩;obtain ⟨b,o,e2,h5⟩:=h4 hl;refine ⟨b,o,e2,fun j u hu=> ?_⟩;have h6:=h5 j u hu;rw [World.cell?_of_block (w:=w) (w':=w') (a:=⟨b,o+j,none⟩) (hc.block b (QaS h6) fun ho=>by rw [ok.cell_none hi ho] at h6;cases h6)];exact h6
structure Qt8 {σ:Type} (N:Num σ) (w0 wr:World) (pb b:Nat) (pv:Value) (xs:List Value) (cur:Array Value) (s:σ) (wx:World):Prop where
 path:Qak wx w0.heap.size pb pv xs
 cur:QD wx b 63 cur
 other:∀k' cur',k'≠b→QD wr k' 63 cur'→QD wx k' 63 cur'
 inv:N.inv s wx
 chg:Chg N.own w0 wx
 size:wr.heap.size≤wx.heap.size
set_option maxHeartbeats 400000 in
theorem Qn6 {σ:Type} {N:Num σ} (ok:N.Ok) (T:Ts) (v:Value) (s:σ) (w:World) (hv:Sl w (fun _=>True) v T) (hi:N.inv s w) (hn:T.nodes≤1073741824):
  Calls Tryz.prog 144 #[v,.func (.func N.fid) #[] N.cap] w fun e w'=>∃v',e= .returned v'∧Sl w' (fun k=>w.heap.size≤k) v' (T.ren N s).1∧N.inv (T.ren N s).2 w'∧Chg N.own w w':=by
 obtain ⟨xs0,hraw,hcs0⟩:=hv.raw;have hle:=T.length_le;have hen:=ok.enter;have HLT:Hid (∀k,N.lean k→k<w.heap.size):=fun k=>ok.lt s w k hi;go_enter Tryz.func144,Tryz.ntmps144;go_wp2_with fail;refine (Qk1 hraw Ya).mono ?_;rintro e w1 ⟨v1,rfl,ho1,hb1⟩;obtain ⟨A1,d1,rfl⟩:=Qcp ho1;obtain ⟨hd1,g,cur,hg⟩:=QlP ho1;have hB1:=hb1.size
 have hp0:Qak (w1.alloc (.cells #[.slice none 0 0] 182)) w.heap.size w1.heap.size (.slice none 0 0) []:=⟨QD.new _ _ _,World.ownsRow_nil _ _ _ _,by simp [Value.ownBlock]⟩
 go_wp2_with fail;refine (Qmk (b:=g) (o:=0) (L:=[]) hp0 rfl Yh (by simp [QJ]) hd1 (fun h=>(hg h).1)).mono ?_;rintro e w2 ⟨rfl,pv2,xs2,hp2,hpv2,_,hc2⟩
 have hc02:Chg N.own w w2:=by
  refine ((Chg.of_fresh hb1).alloc _).trans hc2 fun k hk h=> ?_;rcases h with h|h
  ·omega
  ·simp [Value.ownBlock] at h
 have h0:Qsx N w s T (.slice A1 T.length d1) w1.heap.size T.nodes w2:=by
  refine ⟨push T g 0 [],s,pv2,xs2,⟨hp2,hB1,hpv2,?_,?_,?_,hc02,?_,?_⟩,by rw [QT];simp [QJ]⟩
  ·intro l hl;rcases QeO hl with ⟨h,rfl⟩|h
   ·obtain ⟨h1,h2,h3,h4⟩:=hg h;refine ⟨h2,cur,xs0,(h3.alloc _).chg hc2 ?_,hcs0,fun j u hu=>by rw [Nat.zero_add];exact h4 j u hu⟩;have:=h3.lt;intro h;rcases h with h|h
    ·omega
    ·simp [Value.ownBlock] at h
   ·cases h
  ·unfold push;split<;>simp
  ·refine ok.keep s w _ hi fun k hk=> ?_;have:=HLT.out k hk;rw [hc2.block k Yh (by simp [Value.ownBlock];omega),Below.heap_alloc _ _ _ Ya,hb1.block k this]
  ·rw [QT];simp [QJ]
  ·intro w' sf hR _;obtain ⟨h1,h2⟩:=Qg0 hR;refine ⟨⟨A1,d1,by rw [Ts.length_ren],by rw [Ts.length_ren];exact hd1,fun h=> ?_⟩,h2⟩;rw [Ts.length_ren] at h;exact ⟨g,0,(hg h).1,h1⟩
 clear hg ho1 hp0 hp2 hpv2;go_wp2_with fail;go_loopg [] T.nodes (Qsx N w s T (.slice A1 T.length d1) w1.heap.size)
 case atStart=>exact h0
 case round =>
  clear h0;obtain ⟨L,s',pv,xs,hrel,hgk⟩:=hrel;have hpx:=hrel.pvs.length;have hpl:=hrel.pvs.le;have hsm:=hrel.small;obtain ⟨Ap,cp,hpv⟩:=Qcp hrel.path.own;subst hpv;have cpb:wr.cell? ⟨w1.heap.size,0,none⟩=some (.slice Ap xs.length cp):=hrel.path.var.cell 0;have HG:=Lib.hid hgk;clear hgk
  cases L with
  |nil=>
   have hx:xs=[]:=hrel.pvs;subst hx;obtain ⟨hsl,hst⟩:=hrel.wand wr s' rfl (fun _ _ _ _ _ h=>h);subst hst;have hI:=hrel.inv;have hC:=hrel.chg;clear hrel hpx;go_wp2_with fail;go_ret;exact ⟨_,rfl,hsl,hI,hC⟩
  |cons l Ls=>
   obtain ⟨b,o,T1⟩:=l
   cases T1 with
   |nil=>obtain ⟨_,_,_,_,h,_⟩:=hrel.pvs;simp [Ts.length] at h
   |cons k n t ar r=>
   have hxl:0<xs.length:=by rw [hpx];simp
   obtain ⟨hbB,cur,zs,hcur,⟨v,ys,rfl,hva,hcr⟩,hcells⟩:=hrel.lev _ (List.mem_cons_self ..);have c0:cur[o]?=some (.int .i64 k):=hcells 0 _ rfl;have c1:cur[o+1]?=some (.int .i64 n):=hcells 1 _ rfl;have c2:cur[o+2]?=some (.string t):=hcells 2 _ rfl;have c3:cur[o+3]?=some v:=hcells 3 _ rfl
   have cys:∀(j:Nat) u,ys[j]?=some u→cur[o+4+j]?=some u:=fun j u hu=>by
    have:=hcells (j+4) u (by simpa using hu)
    rwa [show o+(j+4)=o+4+j by omega] at this
   have CYS:=Lib.hid cys;have C0:=Lib.hid c0;have C1:=Lib.hid c1;have C2:=Lib.hid c2;have C3:=Lib.hid c3;have hn4:QJ (⟨b,o,.cons k n t ar r⟩::Ls)≤1073741824:=by omega
   clear cys hcells c0 c1 c2 c3;go_wp2_with fail;refine (QmZ hrel.path hrel.pvs hn4).mono ?_;rintro e w3 ⟨rfl,pv3,xs3,hp3,hpv3,hop3,hc3⟩;have hb3:QD w3 b 63 cur:=hrel.path.keep hc3 hcur;have hoth3:∀k' cur',QD wr k' 63 cur'→QD w3 k' 63 cur':=fun k' cur' h=>hrel.path.keep hc3 h;have hpown:∀g,(Value.slice Ap xs.length cp).ownBlock=some g→w.heap.size≤g∧g<wr.heap.size:=fun g hg=>hrel.path.own.lt g hg
   have hchg3:Chg N.own w w3:=hrel.chg.trans hc3 fun k hk h=>by
    rcases h with h|h
    ·omega
    ·have:=hpown _ h;omega
   have hlean:∀k,N.lean k→w3.heap[k]?=wr.heap[k]?:=fun k hk=>by
    have hk:=HLT.out k hk;refine hc3.block k (by have:=hrel.chg.size;omega) fun h=> ?_;rcases h with h|h
    ·omega
    ·have:=hpown _ h;omega
   have hI3:N.inv s' w3:=ok.keep s' wr _ hrel.inv hlean;have hz3:=hc3.size;have a0:w3.cell? ⟨b,o,none⟩=some (.int .i64 k):=(hb3.cell o).trans C0.out;have a1:w3.cell? ⟨b,o+1,none⟩=some (.int .i64 n):=(hb3.cell (o+1)).trans C1.out;have HL:=Lib.hid hlean;have HO:=Lib.hid hoth3;have HP:=Lib.hid hpown;clear hlean hoth3 hpown;go_upto_if 20 with fail;go_cut [] (fun wx=>Qt8 N w wr w1.heap.size b pv3 xs3 (cur.setIfInBounds (o+1) (.int .i64 (N.v1 k n s'))) (N.s1 k n s') wx)
   case first=>
    by_cases hk:k=0
    ·subst hk;go_wp2_with fail;refine (ok.call s' n _ hI3).mono ?_;rintro e w4 ⟨rfl,hI4,hc4⟩;have hb4:QD w4 b 63 cur:=hb3.chg hc4 fun ho=>ok.bare _ _ _ _ _ _ hI3 ho hb3;have a2:w4.cell? ⟨b,o+1,none⟩=some (.int .i64 n):=(hb4.cell (o+1)).trans C1.out;have f2:w4.frozen? ⟨b,o+1,none⟩=false:=hb4.frozen _
     have hp4:Qak w4 w.heap.size w1.heap.size pv3 xs3:=hp3.chg hc4 (fun ho=>by have:=HLT.out _ (ok.sub _ ho);omega) fun g hg ho=>by
      have:=HLT.out _ (ok.sub _ ho);rw [hop3] at hg;have:=HP.out g hg;omega
     go_wp2_with fail;go_meet;refine ⟨hp4.set hb4,hb4.set_ _ _,fun k' cur' hne h=> ?_,?_,?_,by have:=hc4.size;simp [World.setCell];omega⟩
     ·have h3:=HO.out k' cur' h;exact (h3.chg hc4 fun ho=>ok.bare _ _ _ _ _ _ hI3 ho h3).far hne _
     ·refine ok.keep _ w4 _ hI4 fun k hk=> ?_;have:=HLT.out k hk;exact Below.heap_setCell _ _ _ _ Yh
     ·exact (hchg3.trans hc4 fun _ _ h=>h).setCell (fun h=>by simp at h;omega) _
    ·have hk':(k==0)=false:=by simp [hk]
     have e1:N.v1 k n s'=n:=by simp [Num.v1,hk]
     have e2:N.s1 k n s'=s':=by simp [Num.s1,hk]
     have E1:=Lib.hid e1;have E2:=Lib.hid e2;clear e1 e2;go_wp2_with fail;go_meet;rw [E1.out,E2.out,Qrc C1.out];exact ⟨hp3,hb3,fun k' cur' _ h=>HO.out k' cur' h,hI3,hchg3,hz3⟩
   case rest=>
    obtain ⟨hp5,hb5,ho5,hI5,hc5,hz5⟩:=hcut;clear hp3 hc3 hb3 hchg3 hI3 a0 a1;obtain ⟨xs4,hraw4,hcs4⟩:=hva.raw;obtain ⟨Av,cv,rfl,hva⟩:=hva.form
    have har:ar.length≤1073741824:=by
     have:=ar.length_le;simp only [QJ,List.map_cons,List.sum_cons,Ts.nodes] at hn4;omega
    have hn5:QJ (push r b (o+4) Ls)≤1073741824:=by
     rw [QT];simp only [QJ,List.map_cons,List.sum_cons,Ts.nodes] at hn4⊢;omega
    have a3:wc.cell? ⟨b,o+3,none⟩=some (.slice Av ar.length cv):=by
     rw [hb5.cell,Array.getElem?_setIfInBounds_ne Ya];exact C3.out
    go_wp2_with fail;refine (Qk1 (ok.raw hraw4 hi hc5) har).mono ?_;rintro e w6 ⟨v4,rfl,ho6,hb6⟩;obtain ⟨A4,d4,rfl⟩:=Qcp ho6;obtain ⟨hd4,g4,cur4,hg4⟩:=QlP ho6;have hz6:=hb6.size;have hbb6:=hb5.below hb6
    have a6:w6.cell? ⟨b,o+3,none⟩=some (.slice Av ar.length cv):=by
     rw [hbb6.cell,Array.getElem?_setIfInBounds_ne Ya];exact C3.out
    have f6:w6.frozen? ⟨b,o+3,none⟩=false:=hbb6.frozen _;have hp6:Qak w6 w.heap.size w1.heap.size pv3 xs3:=hp5.chg (Chg.of_fresh (S:=fun _=>False) hb6) (fun h=>h) fun _ _ h=>h;have hp7:Qak (w6.setCell ⟨b,o+3,none⟩ (.slice A4 ar.length d4)) w.heap.size w1.heap.size pv3 xs3:=hp6.set hbb6;have hbb7:=hbb6.set_ (o+3) (.slice A4 ar.length d4);have hwz:=hrel.chg.size;have HG4:=Lib.hid hg4;clear hg4;go_wp2_with fail;refine (Qmk (b:=g4) (o:=0) hp7 hpv3 (by simp [World.setCell];omega) hn5 hd4 (fun h=>(HG4.out h).1)).mono ?_;rintro e w8 ⟨rfl,pv8,xs8,hp8,hpv8,hat8,hc8⟩
    have hpown3:∀g,pv3.ownBlock=some g→w.heap.size≤g:=fun g hg=>by rw [hop3] at hg;exact (HP.out g hg).1
    have hstep := QqS.step (g := g4) (xs4 := xs4) (v4 := .slice A4 ar.length d4) (curg := cur4) hrel hcur C0.out C1.out C2.out C3.out hcr CYS.out hp8 hpv8 hcs4
     (fun k' cur' hne h=>hp7.keep hc8 (((ho5 k' cur' hne h).below hb6).far hne _)) (hp7.keep hc8 hbb7) ⟨A4,d4,rfl,hd4,fun h=>(HG4.out h).1⟩
     (fun h=>by
      obtain ⟨_,h2,h3,h4⟩:=HG4.out h;have:=h3.lt
      exact ⟨by omega,hp7.keep hc8 (h3.far (by simp;intro e;have:=hb5.lt;omega) _),h4⟩)
     (ok.keep _ wc _ hI5 fun k hk => by
      have:=HLT.out k hk
      rw [hc8.block k (by simp [World.setCell];omega) (fun h=>by
                                     rcases h with h|h
                                     ·omega
                                     ·have:=hpown3 _ h;omega),Below.heap_setCell _ _ _ _ Yh,hb6.block k Ya])
     (((hc5.trans (Chg.of_fresh (S:=fun _=>False) hb6) fun _ _ h=>h.elim).setCell (fun h=>by simp at h;omega) _).trans hc8 fun k hk h=>by
       rcases h with h|h
       ·omega
       ·have:=hpown3 _ h;omega)
    clear hat8;go_wp2_with fail;go_roundg (QJ (push ar g4 0 (push r b (o+4) Ls)))
    case measure=>
     rw [HG.out,QT,QT];simp only [QJ,List.map_cons,List.sum_cons,Ts.nodes];omega
    case rel=>exact ⟨_,_,_,_,hstep,rfl⟩
theorem Ts.ren_congr {σ:Type} {N M:Num σ} (hv:∀s n,N.val s n=M.val s n) (hx:∀s n,N.nxt s n=M.nxt s n) (T:Ts):∀s,T.ren N s=T.ren M s:=by
 have h1:∀k n s,N.v1 k n s=M.v1 k n s:=fun k n s=>by simp [Num.v1,hv]
 have h2:∀k n s,N.s1 k n s=M.s1 k n s:=fun k n s=>by simp [Num.s1,hx]
 induction T with
 |nil=>intro s;rfl
 |cons k n b ar r iha ihr=>intro s;simp only [Ts.ren,h1,h2,iha,ihr]
def QmY (vb:Nat) (m:Int):Num Unit:=
 { fid:=177,cap:= #[.pointer (some ⟨vb,0,none⟩)],own:=fun _=>False,lean:=fun k=>k=vb,inv:=fun _ w=>QD w vb 3 #[.int .i64 m],val:=fun _ n=>low n+m,nxt:=fun _ _=>() }
def Qbw (fb nb:Nat) (m:Int):Num Unit:=
 { fid:=163,cap:= #[.pointer (some ⟨fb,0,none⟩),.pointer (some ⟨nb,0,none⟩)],own:=fun _=>False,lean:=fun k=>k=fb∨k=nb,
   inv:=fun _ w=>QD w fb 106 #[.func (.func 161) #[] #[]]∧QD w nb 3 #[.int .i64 m],val:=fun _ n=>low n+low m,nxt:=fun _ _=>() }
theorem Qi4 (fb nb:Nat) (m:Int):(Qbw fb nb m).Ok where
 keep:=fun _ w w' h hk=>⟨(hk fb (.inl rfl)).trans h.1,(hk nb (.inr rfl)).trans h.2⟩
 lt:=fun _ w k h hk=>by
  have e:k=fb∨k=nb:=hk;rcases e with rfl|rfl
  ·exact QD.lt h.1
  ·exact QD.lt h.2
 sub:=fun _ h=>h.elim
 bare:=fun _ _ _ _ _ _ _ h=>h.elim
 enter:=fun args w=>by simp [Qbw,go_sem]
 call:=fun _ n w h=>by
  refine (Qj6 n m fb nb w h.1 h.2).mono ?_;rintro e w' ⟨rfl,q,rfl⟩;exact ⟨rfl,⟨QD.drewN h.1 q,QD.drewN h.2 q⟩,(Chg.of_fresh (QF _ w q))⟩
def Qcx (vb mb:Nat):Num (List Int):=
 { fid:=145,cap:= #[.pointer (some ⟨vb,0,none⟩)],own:=fun k=>k=mb,lean:=fun k=>k=vb∨k=mb,
   inv:=fun ks w=>QD w vb 199 #[.map (some mb)]∧QhB w mb ks,val:=Qll,nxt:=QjG }
theorem QcF (vb mb:Nat):(Qcx vb mb).Ok where
 keep:=fun _ w w' h hk=>⟨(hk vb (.inl rfl)).trans h.1,Qbd.keep h.2 (hk mb (.inr rfl))⟩
 lt:=fun _ w k h hk=>by
  have e:k=vb∨k=mb:=hk;rcases e with rfl|rfl
  ·exact QD.lt h.1
  ·exact Qbd.lt h.2
 sub:=fun _ h=> .inr h
 bare:=fun ks w k c t f h ho e=>by
  have e1:k=mb:=ho;subst e1;obtain ⟨es,clock,hb,_⟩:=h.2;rw [hb] at e;cases e
 enter:=fun args w=>by simp [Qcx,go_sem]
 call:=fun ks n w h=>by
  refine (Qo6 n ks vb mb w h.1 h.2).mono ?_;rintro e w' ⟨rfl,h1,h2⟩;exact ⟨rfl,⟨h.1.chg h2 fun e=>QD.not_map h.1 h.2 e,h1⟩,h2⟩
def QaW (vb mb:Nat):Num (List Int):={ Qcx vb mb with fid:=198 }
theorem QaQ (vb mb:Nat):(QaW vb mb).Ok where
 keep:=(QcF vb mb).keep
 lt:=(QcF vb mb).lt
 sub:=(QcF vb mb).sub
 bare:=(QcF vb mb).bare
 enter:=fun args w=>by simp [QaW,Qcx,go_sem]
 call:=fun ks n w h=>by
  refine (Qlu n ks vb mb w h.1 h.2).mono ?_;rintro e w' ⟨rfl,h1,h2⟩;exact ⟨rfl,⟨h.1.chg h2 fun e=>QD.not_map h.1 h.2 e,h1⟩,h2⟩
def Ts.tidyFrom (T:Ts) (ks:List Int):Ts×List Int:=T.ren (Qcx 0 0) ks
def Ts.tidy (T:Ts):Ts:=(T.tidyFrom []).1
theorem Qrl (vb mb:Nat) (T:Ts) (ks:List Int):T.ren (Qcx vb mb) ks=T.tidyFrom ks:=Ts.ren_congr (N:=Qcx vb mb) (M:=Qcx 0 0) (fun _ _=>rfl) (fun _ _=>rfl) T ks
theorem Qn7 (vb mb:Nat) (T:Ts) (ks:List Int):T.ren (QaW vb mb) ks=T.tidyFrom ks:=Ts.ren_congr (N:=QaW vb mb) (M:=Qcx 0 0) (fun _ _=>rfl) (fun _ _=>rfl) T ks
def Ts.shift (T:Ts) (m:Int):Ts:=(T.ren (QmY 0 (low m)) ()).1
theorem QlH (fb nb:Nat) (T:Ts) (m:Int):(T.ren (Qbw fb nb m) ()).1=T.shift m:=by unfold Ts.shift;rw [Ts.ren_congr (N:=Qbw fb nb m) (M:=QmY 0 (low m)) (fun _ _=>rfl) (fun _ _=>rfl)]
def QaN (k n m:Int):Int:=if k=0 then low n+low m else n
theorem Ts.shift_cons (k n m:Int) (b:ByteArray) (ar r:Ts):(Ts.cons k n b ar r).shift m= .cons k (QaN k n m) b (ar.shift m) (r.shift m):=rfl
set_option maxHeartbeats 400000 in
theorem Qq6 (T:Ts) (v:Value) (w:World) (hv:Sl w (fun _=>True) v T) (hn:T.nodes≤1073741824):
  Calls Tryz.prog 92 #[v] w fun e w'=>∃v',e= .returned v'∧Sl w' (fun k=>w.heap.size≤k) v' T.tidy∧Below w.heap.size w w':=by
 have hi:(Qcx (w.heap.size+1) w.heap.size).inv [] ((w.alloc (.map #[] 0)).alloc (.cells #[.map (some w.heap.size)] 199)):=by
  refine ⟨?_,?_⟩
  ·have:=QD.new (w.alloc (.map #[] 0)) 199 #[.map (some w.heap.size)];simpa using this
  ·exact (Qbd.made w).keep (Below.heap_alloc _ _ _ Yd)
 have hW:Below w.heap.size w ((w.alloc (.map #[] 0)).alloc (.cells #[.map (some w.heap.size)] 199)):=((Below.refl _ _).alloc (Nat.le_refl _) _).alloc Yd _;have hsl:=hv.below hW;have hmk:=QgO (P:=Tryz.prog) 199;go_enter Tryz.func92,Tryz.ntmps92;go_wp2_with fail;refine (Qn6 (QcF (w.heap.size+1) w.heap.size) T v [] _ hsl hi hn).mono ?_;rintro e w' ⟨v',rfl,h1,_,h3⟩;rw [Qrl] at h1;go_wp2_with fail;go_ret;refine ⟨_,rfl,h1.imp (fun k hk _=>by simp at hk;omega),hW.trans (h3.below Yh fun k hk _=> ?_)⟩;have e:k=w.heap.size:=hk;omega
theorem Ts.tidyFrom_app (D R:Ts) (ks:List Int):(D.app R).tidyFrom ks=((D.tidyFrom ks).1.app (R.tidyFrom (D.tidyFrom ks).2).1,(R.tidyFrom (D.tidyFrom ks).2).2):=Ts.ren_app _ D R ks
def tV (k n:Int) (ks:List Int):Int:=if k=0 then Qll ks n else n
def tS (k n:Int) (ks:List Int):List Int:=if k=0 then QjG ks n else ks
theorem Ts.tidyFrom_cons (k n:Int) (s:ByteArray) (ar r:Ts) (ks:List Int):(Ts.cons k n s ar r).tidyFrom ks=(.cons k (tV k n ks) s (ar.tidyFrom (tS k n ks)).1 (r.tidyFrom (ar.tidyFrom (tS k n ks)).2).1,(r.tidyFrom (ar.tidyFrom (tS k n ks)).2).2):=rfl
structure QqQ (w:World) (T D R:Ts) (u:Value) (xs:List Value) (wr:World):Prop where
 split:T=D.app R
 own:wr.ownsRow (w.heap.size+2) 63 4 u D.length xs
 cs:Cs wr (fun k=>w.heap.size+2≤k∧u.ownBlock≠some k) (D.tidyFrom []).1 xs
 inv:(QaW (w.heap.size+1) w.heap.size).inv (D.tidyFrom []).2 wr
 chg:Below w.heap.size w wr
 size:w.heap.size+2≤wr.heap.size
def Qsw (w:World) (T:Ts) (g:Nat) (s4 s10:Value) (wr:World):Prop:=∃D R xs,QqQ w T D R s4 xs wr∧g=R.length∧s10= .int .i64 D.length
theorem QqQ.step {w wr W w3:World} {T D r ar:Ts} {k n:Int} {s:ByteArray} {u v3 v:Value} {xs:List Value}
  (h:QqQ w T D (.cons k n s ar r) u xs wr) (hC:Chg (fun k=>k=w.heap.size) wr W)
  (hv:Sl W (fun k=>wr.heap.size≤k) v (ar.tidyFrom (tS k n (D.tidyFrom []).2)).1) (hI:(QaW (w.heap.size+1) w.heap.size).inv (ar.tidyFrom (tS k n (D.tidyFrom []).2)).2 W)
  (ho3:w3.ownsRow (w.heap.size+2) 63 4 v3 (D.length+1) (xs++[.int .i64 k,.int .i64 (tV k n (D.tidyFrom []).2),.string s,v]))
  (hg:W.grownBy w3 u.ownBlock) (hat:v3.ownBlock=u.ownBlock∨v3.ownBlock=some W.heap.size):
  QqQ w T (D.app (.cons k n s ar .nil)) r v3 (xs++[.int .i64 k,.int .i64 (tV k n (D.tidyFrom []).2),.string s,v]) w3:=by
 have hlt:=h.own.lt;have hz:=h.size;have hWs:=hC.size
 have e:(D.app (.cons k n s ar .nil)).tidyFrom []=((D.tidyFrom []).1.app (.cons k (tV k n (D.tidyFrom []).2) s (ar.tidyFrom (tS k n (D.tidyFrom []).2)).1 .nil),(ar.tidyFrom (tS k n (D.tidyFrom []).2)).2):=by
  rw [Ts.tidyFrom_app];rfl
 have hu:∀k,u.ownBlock=some k→w.heap.size+2≤k∧k<wr.heap.size:=fun k hk=>hlt k hk;refine ⟨by rw [h.split,Ts.app_assoc];rfl,by rw [Ts.length_app];exact ho3,?_,?_,?_,by have:=hg.size;omega⟩
 ·rw [e]
  have h1:Cs W (fun k=>(w.heap.size+2≤k∧v3.ownBlock≠some k)∧u.ownBlock≠some k) ((D.tidyFrom []).1.app (.cons k (tV k n (D.tidyFrom []).2) s (ar.tidyFrom (tS k n (D.tidyFrom []).2)).1 .nil)) (xs++[.int .i64 k,.int .i64 (tV k n (D.tidyFrom []).2),.string s,v]):=by
   refine Cs.app ?_ ⟨v,[],rfl,?_,rfl⟩
   ·refine (h.cs.imp (q:=fun k=>(w.heap.size+2≤k∧v3.ownBlock≠some k)∧u.ownBlock≠some k) fun k hk hl=>⟨⟨hk.1,?_⟩,hk.2⟩).keep fun k hk hl=>hC.block k hl Ya;rcases hat with e|e<;>rw [e]
    ·exact hk.2
    ·intro e2;simp at e2;omega
   ·refine hv.imp fun k hk hl=>⟨⟨by omega,?_⟩,?_⟩
    ·rcases hat with e|e<;>rw [e]
     ·intro e2;have:=hu k e2;omega
     ·intro e2;simp at e2;omega
    ·intro e2;have:=hu k e2;omega
  exact (h1.keep (w':=w3) fun k hk hl=>hg.block k hl (fun e=>hk.2 e.symm)).imp fun k hk _=>hk.1
 ·rw [e];refine (QaQ _ _).keep _ W _ hI fun k hk=> ?_;have h1:=(QaQ _ _).lt _ _ _ hI hk;refine hg.block k h1 (fun e=> ?_);have:=hu _ e.symm;have e2:k=w.heap.size+1∨k=w.heap.size:=hk;omega
 ·refine (h.chg.trans (hC.below Ya fun k hk _=>by omega)).grown hg Ya fun k hk=>by have:=hu k hk;omega
set_option maxHeartbeats 400000 in
theorem QnO (T:Ts) (v:Value) (w:World) (hv:Sl w (fun _=>True) v T) (hn:T.nodes≤1048576):
  Calls Tryz.prog 159 #[v] w fun e w'=>∃v',e= .returned v'∧Sl w' (fun k=>w.heap.size≤k) v' T.tidy∧Below w.heap.size w w':=by
 obtain ⟨A,c,rfl,hs⟩:=hv.form;have hle:=T.length_le;obtain ⟨i0,hi0,hz0,hz1,hz2⟩:=info_parts Qdy;have hmk:=QgO (P:=Tryz.prog) 199;have hW:Below w.heap.size w ((w.alloc (.map #[] 0)).alloc (.cells #[.map (some w.heap.size)] 199)):=((Below.refl _ _).alloc (Nat.le_refl _) _).alloc Yd _
 have h0:Qsw w T T.length (.slice none 0 0) (.int .i64 0) ((w.alloc (.map #[] 0)).alloc (.cells #[.map (some w.heap.size)] 199)):=by
  refine ⟨.nil,T,[],⟨rfl,World.ownsRow_nil _ _ _ _,rfl,⟨?_,?_⟩,hW,by simp⟩,rfl,rfl⟩
  ·have:=QD.new (w.alloc (.map #[] 0)) 199 #[.map (some w.heap.size)];simpa using this
  ·exact (Qbd.made w).keep (Below.heap_alloc _ _ _ Yd)
 go_enter Tryz.func159,Tryz.ntmps159;go_wp2_with fail;go_loopg [4,10] T.length (Qsw w T)
 case atStart=>exact h0
 case round=>
  clear h0;obtain ⟨D,R,xs,hrel,hg,rfl⟩:=hrel;have HG:=Lib.hid hg;clear hg;obtain ⟨Au,cu,hu⟩:=Qcp hrel.own;subst hu
  cases R with
  |nil=>
   have e1:D.length=T.length:=by rw [hrel.split,Ts.app_nil]
   have eD:D=T:=by rw [hrel.split,Ts.app_nil]
   subst eD
   have hsl:Sl wr (fun k=>w.heap.size≤k) (.slice Au D.length cu) D.tidy:=by
    have h1:=hrel.own;have e:(D.tidyFrom []).1.length=D.length:=Ts.length_ren _ D [];rw [←e] at h1;have h2:=Sl.own h1 (hrel.cs.imp fun k hk _=>hk.1) fun g hg=>(h1.lt g hg).1;rw [e] at h2;exact h2.imp fun k hk _=>by omega
   have hb:=hrel.chg;clear hrel;go_wp2_with fail;go_ret;exact ⟨_,rfl,hsl,hb⟩
  |cons k n s ar r=>
   have hI:=hrel.inv
   have e1:D.length<T.length:=by rw [hrel.split,Ts.length_app];simp [Ts.length]
   have e2:ar.nodes≤1048576:=by
    have h:=hrel.split;rw [h,Ts.nodes_app] at hn;simp [Ts.nodes] at hn;omega
   have hsl:Sl wr (fun k=>k<w.heap.size) (.slice A T.length c) (D.app (.cons k n s ar r)):=by
    rw [←hrel.split];exact (hs.imp (q:=fun k=>k<w.heap.size) fun k _ h=>h).below hrel.chg
   obtain ⟨b1,o1,rfl,hq1⟩:=Sl.at_ hsl Y1;obtain ⟨_,c10,c11,c12,⟨v1,c13,hv1⟩,_⟩:=QL.1 hq1;obtain ⟨A1,d1,rfl,hv1⟩:=hv1.form;have hz:=hrel.size
   have hI1:(QaW (w.heap.size+1) w.heap.size).inv (D.tidyFrom []).2 (wr.alloc (.cells #[.int .i64 k,.int .i64 n,.string s,.slice A1 ar.length d1] 63)):=
    (QaQ _ _).keep _ wr _ hI fun k hk=>Below.heap_alloc _ _ _ ((QaQ _ _).lt _ _ _ hI hk)
   clear hq1 hsl;go_wp2_with fail;refine (QmP (QaQ (w.heap.size+1) w.heap.size) ar k n s _ _ _ (hv1.any.below ((Below.refl _ _).alloc (Nat.le_refl _) _)) hI1 e2).mono ?_;rintro e w2 ⟨v',rfl,hv',hI2,hc2⟩;rw [show (QaW (w.heap.size+1) w.heap.size).v1 k n (D.tidyFrom []).2=tV k n (D.tidyFrom []).2 from rfl];rw [Qn7,show (QaW (w.heap.size+1) w.heap.size).s1 k n (D.tidyFrom []).2=tS k n (D.tidyFrom []).2 from rfl] at hv' hI2;obtain ⟨Aw,cw,rfl,hv'⟩:=hv'.form
   have hzz:wr.heap.size<w2.heap.size:=by have:=hc2.size;simp at this;omega
   have hC3:Chg (fun k=>k=w.heap.size) wr (w2.alloc (.cells #[.int .i64 k,.int .i64 (tV k n (D.tidyFrom []).2),.string s,.slice Aw (ar.tidyFrom (tS k n (D.tidyFrom []).2)).1.length cw] 63)):=(((Chg.refl _ wr).alloc _).trans hc2 fun _ _ h=>h).alloc _;have hI3:(QaW (w.heap.size+1) w.heap.size).inv (ar.tidyFrom (tS k n (D.tidyFrom []).2)).2 (w2.alloc (.cells #[.int .i64 k,.int .i64 (tV k n (D.tidyFrom []).2),.string s,.slice Aw (ar.tidyFrom (tS k n (D.tidyFrom []).2)).1.length cw] 63)):=(QaQ _ _).keep _ w2 _ hI2 fun k hk=>Below.heap_alloc _ _ _ ((QaQ _ _).lt _ _ _ hI2 hk)
   have hv3:Sl (w2.alloc (.cells #[.int .i64 k,.int .i64 (tV k n (D.tidyFrom []).2),.string s,.slice Aw (ar.tidyFrom (tS k n (D.tidyFrom []).2)).1.length cw] 63)) (fun k=>wr.heap.size≤k) (.slice Aw (ar.tidyFrom (tS k n (D.tidyFrom []).2)).1.length cw) (ar.tidyFrom (tS k n (D.tidyFrom []).2)).1:=
    (hv'.below ((Below.refl _ _).alloc (Nat.le_refl _) _)).imp fun k hk _=>by simp at hk;omega
   have ho3:=QlO hrel.own hC3 fun g hg=>by have:=(hrel.own.lt g hg).1;omega
   go_wp2_with (at_builtin;refine Qao _ rfl (.tmp 14) (.tmp 18) _ rfl (w.heap.size+2) 63 i0 _ 4 56 Tryz.underlying23 hi0 hz0 hz1 hz2 rfl Ya (.slice Au D.length cu) D.length xs rfl ho3 ⟨w2.heap.size,0,none⟩ 1 1 [.int .i64 k,.int .i64 (tV k n (D.tidyFrom []).2),.string s,.slice Aw (ar.tidyFrom (tS k n (D.tidyFrom []).2)).1.length cw] rfl rfl (Qe2 w2 _ _) Yap Yk Ya Yh ?next)
   case next=>
    intro v3 w3 hov hg hat;have hat':v3.ownBlock=(Value.slice Au D.length cu).ownBlock∨v3.ownBlock=some (w2.alloc (.cells #[.int .i64 k,.int .i64 (tV k n (D.tidyFrom []).2),.string s,.slice Aw (ar.tidyFrom (tS k n (D.tidyFrom []).2)).1.length cw] 63)).heap.size:=by simpa using hat
    have hstep:=QqQ.step hrel hC3 hv3 hI3 hov hg hat';clear hat hat' hov;go_wp2_with fail;go_roundg r.length
    case measure=>rw [HG.out];simp [Ts.length]
    case rel=>
     refine ⟨_,_,_,hstep,rfl,?_⟩;rw [Ts.length_app];rfl
set_option linter.unusedVariables false
set_option linter.unusedSimpArgs false
structure Tm where
 k:Int
 n:Int
 s:ByteArray
 ar:Ts
section
variable {P:Program} {n:Nat} {e:Env} {w:World} {ty:TypeId} {pos:String} {after:Array Edge} {x y:Operand} {dst:Option Nat} {t:TypeId}
theorem Qh6 {t2:TypeId} {a c:ByteArray} (hx:ev n e x= .string a) (hy:ev n e y= .string c) (h:a=c):(execOp (ev n e) ⟨dst,.binOp .eql t x y t2,ty,pos,after,none⟩).run P w= .ok (.value (.bool true)) w:=by
 have:(execOp (ev n e) ⟨dst,.binOp .eql t x y t2,ty,pos,after,none⟩).run P w= .ok (.value (.bool (a.toList==c.toList))) w:=by simp only [execOp,hx,hy];rfl
 rw [this,h];simp
theorem Qh7 {t2:TypeId} {a c:ByteArray} (hx:ev n e x= .string a) (hy:ev n e y= .string c) (h:a≠c):(execOp (ev n e) ⟨dst,.binOp .eql t x y t2,ty,pos,after,none⟩).run P w= .ok (.value (.bool false)) w:=by
 have:(execOp (ev n e) ⟨dst,.binOp .eql t x y t2,ty,pos,after,none⟩).run P w= .ok (.value (.bool (a.toList==c.toList))) w:=by simp only [execOp,hx,hy];rfl
 have h2:(a.toList==c.toList)=false:=by
  rw [beq_eq_false_iff_ne];exact fun e=>h (QgA.1 e)
 rw [this,h2]
theorem QnY {t2:TypeId} {a c:ByteArray} (hx:ev n e x= .string a) (hy:ev n e y= .string c) (h:a=c):(execOp (ev n e) ⟨dst,.binOp .neq t x y t2,ty,pos,after,none⟩).run P w= .ok (.value (.bool false)) w:=by
 have:(execOp (ev n e) ⟨dst,.binOp .neq t x y t2,ty,pos,after,none⟩).run P w= .ok (.value (.bool (!(a.toList==c.toList)))) w:=by simp only [execOp,hx,hy];rfl
 rw [this,h];simp
theorem QnX {t2:TypeId} {a c:ByteArray} (hx:ev n e x= .string a) (hy:ev n e y= .string c) (h:a≠c):(execOp (ev n e) ⟨dst,.binOp .neq t x y t2,ty,pos,after,none⟩).run P w= .ok (.value (.bool true)) w:=by
 have:(execOp (ev n e) ⟨dst,.binOp .neq t x y t2,ty,pos,after,none⟩).run P w= .ok (.value (.bool (!(a.toList==c.toList)))) w:=by simp only [execOp,hx,hy];rfl
 have h2:(a.toList==c.toList)=false:=by
  rw [beq_eq_false_iff_ne];exact fun e=>h (QgA.1 e)
 rw [this,h2];rfl
end
inductive TA where
 |nil
 |cons (k n:Int) (s:ByteArray) (A:Option Addr) (c:Nat) (ar r:TA)
def TA.ts:TA→Ts
 | .nil=> .nil
 | .cons k n s _ _ ar r=> .cons k n s ar.ts r.ts
def TA.len:TA→Nat
 | .nil=>0
 | .cons _ _ _ _ _ _ r=>r.len+1
def TA.app:TA→TA→TA
 | .nil,y=>y
 | .cons k n s A c ar r,y=> .cons k n s A c ar (r.app y)
theorem TA.len_ts (T:TA):T.ts.length=T.len:=by
 induction T with
 |nil=>rfl
 |cons k n s A c ar r _ ih=>simp only [TA.ts,Ts.length,TA.len,ih]
theorem TA.app_ts (T U:TA):(T.app U).ts=T.ts.app U.ts:=by
 induction T with
 |nil=>rfl
 |cons k n s A c ar r _ ih=>simp only [TA.app,TA.ts,Ts.app,ih]
theorem TA.len_app (T U:TA):(T.app U).len=T.len+U.len:=by
 induction T with
 |nil=>simp [TA.app,TA.len]
 |cons k n s A c ar r _ ih=>simp only [TA.app,TA.len,ih];omega
theorem TA.app_nil (T:TA):T.app .nil=T:=by
 induction T with
 |nil=>rfl
 |cons k n s A c ar r _ ih=>simp only [TA.app,ih]
theorem TA.app_assoc (a b c:TA):(a.app b).app c=a.app (b.app c):=by
 induction a with
 |nil=>rfl
 |cons k n s A c ar r _ ih=>simp only [TA.app,ih]
structure LT where
 k:Int
 n:Int
 s:ByteArray
 A:Option Addr
 c:Nat
 ar:TA
def LT.tm (t:LT):Tm:=⟨t.k,t.n,t.s,t.ar.ts⟩
abbrev tcs (t:LT):List Value:=[.int .i64 t.k,.int .i64 t.n,.string t.s,.slice t.A t.ar.len t.c]
abbrev tv (t:LT):Value:= .agg #[.int .i64 t.k,.int .i64 t.n,.string t.s,.slice t.A t.ar.len t.c]
def Qml (w:World):TA→Nat→Nat→Prop
 | .nil,_,_=>True
 | .cons k n s A c ar r,b,o=>w.cell? ⟨b,o,none⟩=some (.int .i64 k)∧w.cell? ⟨b,o+1,none⟩=some (.int .i64 n)∧w.cell? ⟨b,o+2,none⟩=some (.string s)∧
   w.cell? ⟨b,o+3,none⟩=some (.slice A ar.len c)∧(ar.len≤c∧(0<ar.len→∃b' o',A=some ⟨b',o',none⟩∧Qml w ar b' o'))∧Qml w r b (o+4)
def ArA (A:Option Addr) (c:Nat) (T:TA) (w:World):Prop:=T.len≤c∧(0<T.len→∃b o,A=some ⟨b,o,none⟩∧Qml w T b o)
def LRd (t:LT) (w:World):Prop:=ArA t.A t.c t.ar w
theorem QeG {w:World} {k n:Int} {s:ByteArray} {A:Option Addr} {c:Nat} {ar r:TA} {b o:Nat}:Qml w (.cons k n s A c ar r) b o↔w.cell? ⟨b,o,none⟩=some (.int .i64 k)∧w.cell? ⟨b,o+1,none⟩=some (.int .i64 n)∧w.cell? ⟨b,o+2,none⟩=some (.string s)∧
   w.cell? ⟨b,o+3,none⟩=some (.slice A ar.len c)∧ArA A c ar w∧Qml w r b (o+4):=Iff.rfl
theorem Qml.skip {w:World} {R:TA} {b:Nat}:∀{D:TA} {o:Nat},Qml w (D.app R) b o→Qml w R b (o+D.len*4):=by
 intro D
 induction D with
 |nil=>intro o h;simpa [TA.len,TA.app] using h
 |cons k n s A c ar r _ ih=>
  intro o h;have:=ih (QeG.1 h).2.2.2.2.2;rw [show (TA.cons k n s A c ar r).len=r.len+1 from rfl,show o+(r.len+1)*4=o+4+r.len*4 by omega];exact this
theorem ArA.at_ {w:World} {A:Option Addr} {c:Nat} {D r:TA} {k n:Int} {s:ByteArray} {A':Option Addr} {c':Nat} {ar:TA} (h:ArA A c (D.app (.cons k n s A' c' ar r)) w):
  ∃b o,A=some ⟨b,o,none⟩∧w.cell? ⟨b,o+D.len*4,none⟩=some (.int .i64 k)∧w.cell? ⟨b,o+D.len*4+1,none⟩=some (.int .i64 n)∧w.cell? ⟨b,o+D.len*4+2,none⟩=some (.string s)∧
   w.cell? ⟨b,o+D.len*4+3,none⟩=some (.slice A' ar.len c')∧LRd ⟨k,n,s,A',c',ar⟩ w:=by
 obtain ⟨_,hs⟩:=h;obtain ⟨b,o,rfl,hseg⟩:=hs YH;obtain ⟨h0,h1,h2,h3,h4,_⟩:=QeG.1 hseg.skip;exact ⟨b,o,rfl,h0,h1,h2,h3,h4⟩
theorem ArA.some_ {w:World} {A:Option Addr} {c:Nat} {T:TA} (h:ArA A c T w) (hl:0<T.len):∃b o,A=some ⟨b,o,none⟩:=by
 obtain ⟨b,o,e,_⟩:=h.2 hl;exact ⟨b,o,e⟩
theorem ArA.cells {w:World} {b o:Nat} {c:Nat} {D r:TA} {k n:Int} {s:ByteArray} {A':Option Addr} {c':Nat} {ar:TA} (h:ArA (some ⟨b,o,none⟩) c (D.app (.cons k n s A' c' ar r)) w):
  w.cell? ⟨b,o+D.len*4,none⟩=some (.int .i64 k)∧w.cell? ⟨b,o+D.len*4+1,none⟩=some (.int .i64 n)∧w.cell? ⟨b,o+D.len*4+2,none⟩=some (.string s)∧w.cell? ⟨b,o+D.len*4+3,none⟩=some (.slice A' ar.len c'):=by
 obtain ⟨b',o',e,h0,h1,h2,h3,_⟩:=h.at_;simp only [Option.some.injEq,Addr.mk.injEq,and_true] at e;obtain ⟨rfl,rfl⟩:=e;exact ⟨h0,h1,h2,h3⟩
theorem ArA.sub {w:World} {A:Option Addr} {c:Nat} {D r:TA} {k n:Int} {s:ByteArray} {A':Option Addr} {c':Nat} {ar:TA} (h:ArA A c (D.app (.cons k n s A' c' ar r)) w):LRd ⟨k,n,s,A',c',ar⟩ w:=by
 obtain ⟨_,_,_,_,_,_,_,h⟩:=h.at_;exact h
theorem Qml.seg {w:World} {T:TA}:∀{b o:Nat},Qml w T b o→Seg w (fun _=>True) T.ts b o:=by
 induction T with
 |nil=>intros;trivial
 |cons k n s A c ar r iha ihr=>
  rintro b o ⟨h0,h1,h2,h3,⟨h4,h5⟩,h6⟩;refine ⟨trivial,h0,h1,h2,⟨A,c,by rw [TA.len_ts];exact h3,by rw [TA.len_ts];exact h4,fun hl=> ?_⟩,ihr h6⟩;rw [TA.len_ts] at hl;obtain ⟨b',o',e,hs⟩:=h5 hl;exact ⟨b',o',e,iha hs⟩
theorem ArA.sl {w:World} {A:Option Addr} {c:Nat} {T:TA} (h:ArA A c T w):Sl w (fun _=>True) (.slice A T.len c) T.ts:=
 ⟨A,c,by rw [TA.len_ts],by rw [TA.len_ts];exact h.1,fun hl=>by
  rw [TA.len_ts] at hl;obtain ⟨b,o,e,hs⟩:=h.2 hl
  exact ⟨b,o,e,hs.seg⟩⟩
theorem Seg.locate {w:World} {p:Nat→Prop} {T:Ts}:∀{b o:Nat},Seg w p T b o→∃L:TA,L.ts=T∧∀w':World,(∀k,p k→k<w.heap.size→w'.heap[k]?=w.heap[k]?)→Qml w' L b o:=by
 induction T with
 |nil=>intro b o _;exact ⟨.nil,rfl,fun _ _=>trivial⟩
 |cons k n s ar r iha ihr=>
  rintro b o ⟨h1,h2,h3,h4,⟨A,c,h5,h6,h7⟩,h8⟩;obtain ⟨R,hR,hR'⟩:=ihr h8
  have key:∃L:TA,L.ts=ar∧∀w':World,(∀k,p k→k<w.heap.size→w'.heap[k]?=w.heap[k]?)→L.len≤c∧(0<L.len→∃b' o',A=some ⟨b',o',none⟩∧Qml w' L b' o'):=by
   by_cases hl:0<ar.length
   ·obtain ⟨b',o',e,h9⟩:=h7 hl;obtain ⟨L,hL,hL'⟩:=iha h9;exact ⟨L,hL,fun w' hw=>⟨by rw [←TA.len_ts,hL];exact h6,fun _=>⟨b',o',e,hL' w' hw⟩⟩⟩
   ·refine ⟨.nil,(Ts.nil_of_length Ya).symm,fun w' hw=>⟨by simp [TA.len],fun h=>by simp [TA.len] at h⟩⟩
  obtain ⟨L,hL,hL'⟩:=key;have e1:L.len=ar.length:=by rw [←TA.len_ts,hL]
  refine ⟨.cons k n s A c L R,by simp only [TA.ts,hL,hR],fun w' hw=> ?_⟩;have e:=hw b h1 (QaS h2);refine ⟨?_,?_,?_,?_,hL' w' hw,hR' w' hw⟩
  ·rw [World.cell?_of_block (w:=w) (w':=w') (a:=⟨b,o,none⟩) e];exact h2
  ·rw [World.cell?_of_block (w:=w) (w':=w') (a:=⟨b,o+1,none⟩) e];exact h3
  ·rw [World.cell?_of_block (w:=w) (w':=w') (a:=⟨b,o+2,none⟩) e];exact h4
  ·rw [World.cell?_of_block (w:=w) (w':=w') (a:=⟨b,o+3,none⟩) e,e1];exact h5
theorem Sl.locate {w:World} {p:Nat→Prop} {T:Ts} {v:Value} (h:Sl w p v T):∃(A:Option Addr) (c:Nat) (L:TA),v= .slice A L.len c∧L.ts=T∧∀w':World,(∀k,p k→k<w.heap.size→w'.heap[k]?=w.heap[k]?)→ArA A c L w':=by
 obtain ⟨A,c,rfl,h6,h7⟩:=h;by_cases hl:0<T.length
 ·obtain ⟨b',o',e,h9⟩:=h7 hl;obtain ⟨L,hL,hL'⟩:=h9.locate;have e1:L.len=T.length:=by rw [←TA.len_ts,hL]
  exact ⟨A,c,L,by rw [e1],hL,fun w' hw=>⟨by rw [e1];exact h6,fun _=>⟨b',o',e,hL' w' hw⟩⟩⟩
 ·have e0:T.length=0:=by omega
  exact ⟨A,c,.nil,by rw [e0];rfl,(Ts.nil_of_length e0).symm,fun w' hw=>⟨by simp [TA.len],fun h=>by simp [TA.len] at h⟩⟩
section
variable {M:List Nat} {w0 w w':World} {H:List (Nat×Obj)} {F:List (World→Prop)} {v:Value} {T:Ts}
theorem St.located (hS:St M w0 H F w) (hb:Below w.heap.size w w') (h:Sl w' (fun b=>w.heap.size≤b) v T):∃(A:Option Addr) (c:Nat) (L:TA),v= .slice A L.len c∧L.ts=T∧St M w0 H (ArA A c L::F) w':=by
 obtain ⟨A,c,L,h1,h2,h3⟩:=h.locate;refine ⟨A,c,L,h1,h2,(hS.grow hb).learn fun w2 hx=>h3 w2 fun k hk hl=>hx.block k hl fun hm=> ?_⟩;have:=hS.keys_lt hm;omega
end
section
variable {M:List Nat} {w0 w w':World} {H:List (Nat×Obj)} {F:List (World→Prop)} {b:Nat} {o:Obj}
theorem St.freeze (hS:St M w0 ((b,o)::H) F w):St M w0 H ((fun w=>w.heap[b]?=some o)::F) w:=by
 have hb:=hS.own (b,o) (.head _);have hlt:=Qd8 hb;have hap:=(List.pairwise_cons.1 hS.apart).1;refine hS.drop.learn fun w2 hx=> ?_;rw [hx.block b hlt fun hm=> ?_]
 ·exact hb
 ·obtain ⟨q,hq,e⟩:=List.mem_map.1 hm;exact hap q hq e.symm
theorem St.freezeL:∀{O:List (Nat×Obj)} {F:List (World→Prop)},St M w0 (O++H) F w→∃F',(∀φ∈F,φ∈F')∧(∀p∈O,Und F' fun w=>w.heap[p.1]?=some p.2)∧St M w0 H F' w
 |[],F,hS=>⟨F,fun _ h=>h,fun p hp=>(by cases hp),hS⟩
 |p::O,F,hS=>by
  obtain ⟨F',h1,h2,h3⟩:=St.freezeL (O:=O) (F:=(fun w=>w.heap[p.1]?=some p.2)::F) (St.freeze (H:=O++H) hS);refine ⟨F',fun φ h=>h1 φ (.tail _ h),fun q hq=> ?_,h3⟩;rcases List.mem_cons.1 hq with rfl|hq
  ·exact Und.head.mono (F:=(fun w=>w.heap[q.1]?=some q.2)::F) h1
  ·exact h2 q hq
end
section
variable {M:List Nat} {w0 w w':World} {H:List (Nat×Obj)} {F:List (World→Prop)} {g:Nat} {o:Obj}
theorem St.dropN {O:List (Nat×Obj)} (hS:St M w0 (O++H) F w):St M w0 H F w:=St.dropL hS
end
theorem Qga:∀(X ys vs Z:List Value) (o:Nat),X.length=o→ys.length=vs.length→Qq0 (X++(ys++Z)) o vs (X++(vs++Z))
 |[],ys,vs,Z,o,h,hl=>by
  obtain rfl:o=0:=by simpa using h.symm
  induction ys generalizing vs with
  |nil=>
   obtain rfl:vs=[]:=List.eq_nil_of_length_eq_zero (by simpa using hl.symm);exact .z
  |cons y ys ih=>
   cases vs with
   |nil=>simp at hl
   |cons v vs=>exact .t (ih vs YaD)
 |x::X,ys,vs,Z,o,h,hl=>by
  obtain ⟨o,rfl⟩:∃o',o=o'+1:=⟨o-1,by simp at h;omega⟩
  exact .s (Qga X ys vs Z o YY hl)
def QfK:TA→List Value
 | .nil=>[]
 | .cons k n s A c ar r=>[.int .i64 k,.int .i64 n,.string s,.slice A ar.len c]++QfK r
theorem QmD (T:TA):(QfK T).length=T.len*4:=by
 induction T with
 |nil=>rfl
 |cons k n s A c ar r _ ih=>simp [QfK,TA.len,ih];omega
theorem Qf4 (T U:TA):QfK (T.app U)=QfK T++QfK U:=by
 induction T with
 |nil=>rfl
 |cons k n s A c ar r _ ih=>simp [QfK,TA.app,ih]
def Qli:TA→World→Prop
 | .nil,_=>True
 | .cons k n s A c ar r,w=>ArA A c ar w∧Qli r w
theorem Qli.app {w:World} {U:TA} (hU:Qli U w):∀{T:TA},Qli T w→Qli (T.app U) w:=by
 intro T
 induction T with
 |nil=>intro _;exact hU
 |cons k n s A c ar r _ ih=>intro h;exact ⟨h.1,ih h.2⟩
theorem Qlz {w:World} {b:Nat}:∀{T:TA} {o:Nat},Qli T w→(∀j u,(QfK T)[j]?=some u→w.cell? ⟨b,o+j,none⟩=some u)→Qml w T b o:=by
 intro T
 induction T with
 |nil=>intros;trivial
 |cons k n s A c ar r _ ih=>
  intro o hr h;refine QeG.2 ⟨h 0 _ rfl,h 1 _ rfl,h 2 _ rfl,h 3 _ rfl,hr.1,ih hr.2 fun j u hu=> ?_⟩;rw [show o+4+j=o+(j+4) by omega];exact h (j+4) u (by simpa [QfK] using hu)
theorem Qml.cells {w:World} {b:Nat}:∀{T:TA} {o:Nat},Qml w T b o→Qli T w∧∀j u,(QfK T)[j]?=some u→w.cell? ⟨b,o+j,none⟩=some u:=by
 intro T
 induction T with
 |nil=>intro o _;exact ⟨trivial,fun j u hu=>by simp [QfK] at hu⟩
 |cons k n s A c ar r _ ih=>
  intro o h;obtain ⟨h0,h1,h2,h3,h4,h5⟩:=QeG.1 h;obtain ⟨g1,g2⟩:=ih h5;refine ⟨⟨h4,g1⟩,fun j u hu=> ?_⟩
  match j,hu with
  |0,hu=>simp [QfK] at hu;subst hu;simpa using h0
  |1,hu=>simp [QfK] at hu;subst hu;exact h1
  |2,hu=>simp [QfK] at hu;subst hu;exact h2
  |3,hu=>simp [QfK] at hu;subst hu;exact h3
  |j+4,hu=>rw [show o+(j+4)=o+4+j by omega];exact g2 j u (by simpa [QfK] using hu)
theorem Qft {P:Program} {n:Nat} {e:Env} {w:World} {M:List Nat} {w0:World} {H:List (Nat×Obj)} {F:List (World→Prop)} {b:Nat} {t:TypeId} {f:FuncId} {R:Ending→World→Prop} {k:List Item} {fn:Func} {a u x sz:Nat} {o:Nat} {cs vs:List Value} {ct:TypeId} {v2 v3:Value} (hS:St M w0 H F w) (hf:P.funcs[f]?=some fn) (hr:fn.results= #[.cell a t,.tmp u,.tmp x]) (hv:ev n e (.tmp a)= .pointer (some ⟨b,o,none⟩))
  (h2:ev n e (.tmp u)=v2) (h3:ev n e (.tmp x)=v3) (hA:Qeq P t=some true) (hs:QaJ P t=some sz) (hb:At H b (.cells cs.toArray ct)) (hc:Cut cs o sz vs) (hR:R (.returned (.tuple #[.agg vs.toArray,v2,v3])) w):Qal P f R (.code .ret::k) (act n e) w:=by
 unfold Qal;intro fr cs' hb' hk;refine ⟨.returned (.tuple #[.agg vs.toArray,v2,v3]),w,{ fr.at (act n e) (.code .ret::k) with mode:= .returning },hR,Steps.one step_ret,hb',rfl,rfl,hk,fn,?_,?_⟩
 ·show P.funcs[fr.fn]?=some fn;rw [hb'];exact hf
 ·show (results fn (arr n e)).run P w=_;have h1:=Qb6 (w:=w) hA;have h4:=Qah (w:=w) hs
  have h5:=run_loadCells_list (P:=P) (w:=w) ⟨b,o,none⟩ vs (fun j v hj=>by
   rw [Qan,Qv (hS.at_ hb)]
   have hjk:j<sz:=by
    rcases Nat.lt_or_ge j sz with h|h
    ·exact h
    ·rw [List.getElem?_eq_none Yaz] at hj;cases hj
   rw [hc.get j hjk];exact hj)
  rw [hc.length] at h5
  have hv':(arr n e).getD a undef= .pointer (some ⟨b,o,none⟩):=by rw [Qay];exact hv
  have hu':(arr n e).getD u undef=v2:=by rw [Qay];exact h2
  have hx':(arr n e).getD x undef=v3:=by rw [Qay];exact h3
  simp only [Array.getD_eq_getD_getElem?] at hv' hu' hx';simp only [results,hr];simp [hv',hu',hx',asAddr,loadVar,h1,h4,h5]
end Go.Proofs.YthliapbflkfdiacGreatDoor
