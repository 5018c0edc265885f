/- RefW5, RefW6, Alike, SameR, LPrograms, EWalk3, AliveT0: texts that follow one another, laid into one file. -/
import Derived.Test.YthliapbflkfdiacGreatDoorZ0
import Derived.Test.YthliapbflkfdiacGreatDoorG33
import Derived.Test.YthliapbflkfdiacGreatDoorG6
import Derived.Test.YthliapbflkfdiacGreatDoorG1
import Derived.Test.YthliapbflkfdiacGreatDoorRows
import Derived.Deep.LoopGhost
import Derived.StillTailTactics
import Derived.Test.YthliapbflkfdiacGreatDoorG30
import Derived.Test.YthliapbflkfdiacGreatDoorG14
import Derived.Test.YthliapbflkfdiacGreatDoorG13
import Derived.Test.YthliapbflkfdiacGreatDoorG7
namespace Go.Proofs.YthliapbflkfdiacGreatDoor
open Go.RowKit Go.Shelf
set_option linter.unusedVariables false
set_option linter.unusedSimpArgs false
set_option maxRecDepth 100000
set_option maxHeartbeats 1000000
def Qws (f:PS→Nd×PS):Prop:=∀p,(f p).1.ar.nodes+(f p).2.l.length≤p.l.length
theorem QgQ {f:PS→Nd×PS} (hf:Qws f):∀(n:Nat) (p:PS),(QbG (QV f n p).1).nodes+(QV f n p).2.l.length≤p.l.length
 |0,p=>by simp [QV,QbG,Ts.nodes]
 |n+1,p=>by
  unfold QV;split
  ·rename_i h;have h1:=(Qit h.2).1;have h2:=hf p.pop;have h3:=QgQ hf n (f p.pop).2;simp only [QbG,Ts.nodes];omega
  ·simp [QbG,Ts.nodes]
theorem Qfx {f:PS→Nd×PS} (hf:Qws f) (t:Str) (p:PS):(QbG (Qaj f t p).1).nodes+(Qaj f t p).2.l.length≤p.l.length+1:=by
 have h1:=QgQ hf (f p).2.l.length (f p).2;have h2:=hf p;have h3:=QkX (QV f (f p).2.l.length (f p).2).2 t;simp only [Qaj,QbG,Ts.nodes];omega
theorem QgN:∀d,Qws (QT d)
 |0,p=>by simp [QT,Nd.zero,Ts.nodes,PS.spoil]
 |d+1,p=>by
  unfold QT;split
  ·simp [Nd.zero,Ts.nodes,PS.spoil]
  ·simp [Nd.zero,Ts.nodes,PS.spoil]
  ·rename_i c r q hl;have h1:p.pop.l.length+1=p.l.length:=by simp [PS.pop,hl]
   split
   ·simp only [Ts.nodes];omega
   split
   ·simp only [Ts.nodes];rw [(Qq3 _ _).1];omega
   split
   ·simp only [Ts.nodes];omega
   split
   ·simp [Nd.zero,Ts.nodes,PS.spoil]
   split
   ·rename_i hp;have h2:=Qfx (QgN d) [41] p.pop.pop;have h3:=(Qit hp).1;simp only;omega
   ·simp only [Ts.nodes];omega
theorem Qgb:∀(n:Nat) (l:Str),(Qca n l).length≤l.length
 |0,l=>by simp [Qca]
 |n+1,[]=>by simp [Qca]
 |n+1,c::r=>by
  unfold Qca;split
  ·have:=Qgb n r;simp;omega
  split
  ·simp
  ·rename_i h;have:=Qgb n ((c::r).drop (QaA (c::r)));rw [List.length_drop] at this;simp at this⊢;omega
theorem Qqn (l:Str):(QcG l).length≤l.length:=Qgb _ _
section
variable {M:List Nat} {w0:World} {H:List (Nat×Obj)} {F:List (World→Prop)}
end
end Go.Proofs.YthliapbflkfdiacGreatDoor
namespace Go.Proofs.YthliapbflkfdiacGreatDoor.R
open Go.RowKit
set_option maxRecDepth 100000
end Go.Proofs.YthliapbflkfdiacGreatDoor.R
namespace Go.Proofs.YthliapbflkfdiacGreatDoor
open Go.RowKit Go.Shelf
set_option linter.unusedVariables false
set_option linter.unusedSimpArgs false
set_option maxRecDepth 100000
set_option maxHeartbeats 1000000
theorem QmA (num:Str→Option Int) (s:RS):(QW num s).1.hd.nodes≤s.left∧(QW num s).1.bd.nodes≤s.left:=by
 have h1:=Qfm num 24 { s with vars:=[] };have h2:=Qk2 num (QA num 24 { s with vars:=[] }).2;have e:RS.left { s with vars:=[] }=s.left:=rfl;rw [e] at h1;exact ⟨by show (QA num 24 _).1.ar.nodes≤_;omega,by show (QbG (Qa5 num _).1).nodes≤_;omega⟩
theorem QjI (num:Str→Option Int):∀(n:Nat) (s:RS),∀c∈(QG num n s).1,c.hd.nodes≤s.left∧c.bd.nodes≤s.left
 |0,s,c,h=>by simp [QG] at h
 |n+1,s,c,h=>by
  unfold QG at h;split at h
  ·simp at h
  ·rename_i ht;have h1:=QmA num s;rcases List.mem_cons.1 h with rfl|h
   ·exact h1
   ·have h2:=QjI num n _ c h;have h3:=Qea num s ht;omega
theorem QfA (num:Str→Option Int) (l:Str):∀c∈(Qy num l).1,c.hd.nodes≤2000∧c.bd.nodes≤2000:=by
 intro c hc;have h0:=QeX l
 have:c∈(QG num (RS.start l).left (RS.start l)).1:=by
  unfold Qy at hc;simp only at hc;split at hc
  ·split at hc
   ·exact hc
   ·simp at hc
  ·split at hc
   ·exact hc
   ·simp at hc
 have:=QjI num _ _ c this;omega
theorem Qic (num:Str→Option Int) (l:Str):(Qy num l).1.length≤24:=by
 unfold Qy;simp only;generalize QG num (RS.start l).left (RS.start l)=p;by_cases h:24<p.1.length
 ·have h1:(p.2.fail 3).err≠0:=by
   simp only [RS.fail];split
   ·decide
   ·assumption
  rw [if_pos h,if_neg h1];simp
 ·rw [if_neg h];split
  ·simp only;omega
  ·simp
theorem Qq4 {v u:Value} {R:List Value}:∀D:List Value,Put (D++u::R) D.length v (D++v::R)
 |[]=> .z
 |d::D=> .s (Qq4 D)
theorem QaZ (T:Ts) (h:T.nodes≤1048576):T.length≤9223372036854775807∧T.wide:=⟨by have:=Ts.length_le T;omega,Ts.wide_of T Ya⟩
theorem QgR (l:Str):(QI QP l).1.nodes≤2001:=by
 rw [QlN];have hwl:=Qqn l;have hgn:=Qfx (QgN 24) [46] (PS.start l);unfold Qfy;by_cases h:2000<l.length
 ·rw [if_pos h];simp [Ts.nodes]
 ·rw [if_neg h]
  have hgn2:(QbG (Qa0 (PS.start l)).1).nodes≤2001:=by
   unfold Qa0;have:(PS.start l).l.length=(QcG l).length:=rfl;omega
  generalize Qa0 (PS.start l)=g at hgn2⊢;simp only;split
  ·simp [Ts.nodes]
  ·exact hgn2
def Qwb (w0:World) (r:List Str×Int) (e:Ending) (w':World):Prop:=
 ∃(A:Option Addr) (c:Nat),e= .returned (.tuple #[.slice A r.1.length c,.int .i64 r.2])∧QD 1 (r.1.map sv) A r.1.length c w'∧Below w0.heap.size w0 w'
theorem Qst (p q:Str) (fuel every:Int) (w0:World) (hG:∀w',Ext [] w0 w'→QcF w') (hW:∀w',Ext [] w0 w'→QeS w') (hp:p.length≤1125899906842624) (hq:q.length≤1125899906842624) (hev:every≤9223372036854775807):
  Calls Tryz.prog 21 #[sv p,sv q,.int .i64 fuel,.int .i64 every] w0 (Qwb w0 (Qlg p q fuel every)):=by
 have hS:=St.start w0;have hpn:=QfA QP p;have hpl:=Qic QP p;have hqn:=QgR q;refine Qbj Tryz.func21 rfl Tryz.ntmps21 rfl ?_;refine ZdZ ?_;refine ZC ?_;refine Calls.mono (QlO QP QcF Qwe Qwd Qwc p _ hG hp hS) ?_;rintro _ w3 ⟨v1,rfl,hS'⟩;refine Za ?_;replace hS:=hS';clear hS';obtain ⟨pA,pc,X,rfl,hX,hXr⟩:=(hS.fact (.head _)).locate;replace hS:=hS.learn (φ:=QgE X pA pc) fun w2 hx=>hXr w2 fun k _ hk=>hx.block k hk Yd;by_cases h1:(Qy QP p).2=0
 case neg=>
  have e:Qlg p q fuel every=([],(Qy QP p).2):=by unfold Qlg;rw [if_pos h1]
  rw [e];refine Zal ?_;refine Za4 ?_;refine Zd7 ?_;refine Ze5 ?_;exact ⟨none,0,rfl,QD.nil_ _ _ _,hS.ext.below⟩
 obtain ⟨hpB,hpbr⟩:=QjH h1;refine Zal ?_;refine Za5 ?_;refine ZC ?_;refine Calls.mono (Qq0 QP QcF Qwe Qwd Qwc q _ hG hq hS) ?_;rintro _ w4 ⟨v2,rfl,hS'⟩;refine Za ?_;replace hS:=hS';clear hS';obtain ⟨qA,qc,Y,rfl,hY,hYr⟩:=(hS.fact (.head _)).locate;replace hS:=hS.learn (φ:=ArA qA qc Y) fun w2 hx=>hYr w2 fun k _ hk=>hx.block k hk Yd;by_cases h2:(QI QP q).2.2=0
 case neg=>
  have e:Qlg p q fuel every=([],(QI QP q).2.2):=by unfold Qlg;rw [if_neg (fun h=>h h1),if_pos h2]
  rw [e];refine Zae ?_;refine ZeB ?_;refine Za4 ?_;refine Zd7 ?_;refine Ze5 ?_;exact ⟨none,0,rfl,QD.nil_ _ _ _,hS.ext.below⟩
 obtain ⟨hqB,hqbr,hql⟩:=Qok h2
 have hask:Qlg p q fuel every=if every<0 then ([],2)
   else if (QeJ (Qy QP p).1 (QI QP q).1 ((QI QP q).2.1:Nat) fuel).2≠0 then ([],(QeJ (Qy QP p).1 (QI QP q).1 ((QI QP q).2.1:Nat) fuel).2)
   else ((QeJ (Qy QP p).1 (QI QP q).1 ((QI QP q).2.1:Nat) fuel).1.map QkF,0):=by
  unfold Qlg;rw [if_neg (fun h=>h h1),if_neg (fun h=>h h2)]
 rw [hask];clear hask;have hevs:=Qkd (vars:=((QI QP q).2.1:Nat)) (fuel:=fuel) hpbr hqbr;have hfew:=Qss (P:=(Qy QP p).1) (q:=(QI QP q).1) (vars:=((QI QP q).2.1:Nat)) (fuel:=fuel);generalize (QI QP q).2.1=vn at*;rw [←hX] at hpn hpl hpB hevs hfew⊢;rw [←hY] at hqn hqB hevs hfew⊢
 have hall:=Qpw X pA pc Y qA qc (vn:Nat) fuel every _ Und.head.tail.tail Und.head (by simp at hpl;omega) (fun c hc=>by
  obtain ⟨a1,a2⟩:=QaZ c.hd (by have:=(hpn c hc).1;omega);obtain ⟨b1,b2⟩:=QaZ c.bd (by have:=(hpn c hc).2;omega)
  exact ⟨a1,a2,b1,b2⟩) (by rw [←TA.len_ts];exact (QaZ _ Ya).1) (QaZ _ Ya).2 hev hS
 refine Zae ?_;refine ZeB ?_;refine Za5 ?_;refine ZH ?_;refine ZS ?_;refine Ze ?_;refine ZfV ?_;refine Calls.mono (hall) ?_;rintro _ w5 ⟨A5,c5,L,F5,rfl,hL,hF5,hK,hS'⟩;refine Za ?_;replace hS:=hS';clear hS';by_cases h3:every<0
 ·have e:(QsV (X.map LC.cl) Y.ts (vn:Nat) fuel every).2=2:=by rw [Qt8 _ _ _ _ _ h3,if_neg (by rw [hpB,hqB];simp)]
  rw [if_pos h3,e];refine Zal ?_;refine Za4 ?_;refine Zd7 ?_;refine Ze5 ?_;exact ⟨none,0,rfl,QD.nil_ _ _ _,hS.ext.below⟩
 rw [if_neg h3];rw [Qvv _ _ _ _ _ Ya] at hL⊢;by_cases h4:(QeJ (X.map LC.cl) Y.ts (vn:Nat) fuel).2=0
 case neg=>
  rw [if_pos h4];refine Zal ?_;refine Za4 ?_;refine Zd7 ?_;refine Ze5 ?_;exact ⟨none,0,rfl,QD.nil_ _ _ _,hS.ext.below⟩
 rw [if_neg (fun h=>h h4),h4]
 have hLl:L.length≤13:=by have:=congrArg List.length hL;rw [List.length_map] at this;omega
 have hmap:(QeJ (X.map LC.cl) Y.ts (vn:Nat) fuel).1.map QkF=L.map fun x=>Qbs x.k x.T.ts:=by rw [←hL,List.map_map];rfl
 have hx:∀x∈L,x.T.ts.nodes≤200∧rng x.T.ts∧(Qbs x.k x.T.ts).length≤1000000:=fun x hx=>by
  have:=hevs x.ev (by rw [←hL];exact List.mem_map.2 ⟨x,hx,rfl⟩);exact ⟨this.1,this.2.1,this.2.2.2⟩
 rw [hmap];refine Zal ?_;refine Za5 ?_;refine Zm ?_;refine Zy ?_;refine Qcw (k:=L.length) (bts:=16) (z:= .string ⟨#[]⟩) hS Yb Yb rfl rfl rfl rfl Ya Ya rfl ?_;clear hS;intro zb w6 hS;refine Zcl ?_;refine Qn 52 (53::54::55::56::17::16::57::58::59::60::61::62::[]) (fun (R:List KE) v w'=>∃D,L=D++R∧v= .int .i64 (D.length:Nat)∧St [] w0 ((zb,.cells (D.map (fun x=>sv (Qbs x.k x.T.ts))++R.map (fun _=>Value.string ⟨#[]⟩)).toArray 9)::[]) F5 w') (fun R=>R.length) (L) ?_ Yb ?_
 ·exact ⟨[],rfl,rfl,by simpa [List.map_const'] using hS⟩
 clear hS;rintro R _ w7 jv ⟨D,hD,rfl,hS⟩ ih
 have hlD:L.length=D.length+R.length:=by rw [hD];simp
 cases R with
 |nil=>
  rw [List.append_nil] at hD;subst hD;simp only [List.length_nil] at hlD;simp only [List.map_nil,List.append_nil] at hS;refine ZL ?_;refine Zd7 ?_;refine Ze5 ?_;have hown:=hS.own (zb,_) (.head _);refine ⟨some ⟨zb,0,none⟩,L.length,by simp,?_,hS.ext.below⟩;have:=QD.own (xs:=(L.map fun x=>Qbs x.k x.T.ts).map sv) (sp:=[]) (sz:=1) (len:=L.length) (cap:=L.length) (b:=zb) (el:=9) (w:=w7) (by rw [List.append_nil,List.map_map];exact hown) Yd (Nat.le_refl _);simpa using this
 |cons x R=>
  simp only [List.length_cons] at hlD;obtain ⟨hx1,hx2,hx3⟩:=hx x (by rw [hD];simp);have hKw:=hS.und hK;rw [hD] at hKw;obtain ⟨b6,o6,rfl⟩:=hKw.some_ Yh;obtain ⟨q0,q1⟩:=hKw.cells;have hAr:Und F5 (ArA x.A x.c x.T):=hK.imp fun w h=>h.2.2 x (by rw [hD];simp)
  have hput:Put (D.map (fun x=>sv (Qbs x.k x.T.ts))++(x::R).map (fun _=>Value.string ⟨#[]⟩)) D.length (sv (Qbs x.k x.T.ts)) ((D++[x]).map (fun x=>sv (Qbs x.k x.T.ts))++R.map (fun _=>Value.string ⟨#[]⟩)):=by
   have:=Qq4 (v:=sv (Qbs x.k x.T.ts)) (u:=Value.string ⟨#[]⟩) (R:=R.map (fun _=>Value.string ⟨#[]⟩)) (D.map (fun x=>sv (Qbs x.k x.T.ts)));simpa using this
  refine ZbK ?_;refine Zft ?_;refine Zap ?_;refine Zbb ?_;clear hS;intro b1 wx1 hS;refine Zbz ?_;clear hS;intro wx2 hS;refine Zd3 ?_;refine Zap ?_;refine Zj ?_;refine Zh1 ?_;rintro _ w8 ⟨rfl,hb8⟩;refine Za ?_;replace hS:=hS.grow hb8;refine ZK ?_;refine ZdK ?_;clear hS;intro w9 hS;refine ZaA ?_;refine ih (R) _ _ _ ?_ ?_ Yb Yc
  ·simp
  ·exact ⟨D++[x],by rw [hD];simp,by simp,hS.drop⟩
def Qwp:Str:=[112,40,52,41,46,32,112,40,53,41,46,32,113,40,88,44,89,41,32,58,45,32,112,40,88,41,44,32,112,40,89,41,44,32,108,101,115,115,40,88,44,89,41,46]
def Qwo:Str:=[113,40,65,44,66,41,46]
theorem Qsp:Qlg Qwp Qwo 20 1=([[121,101,115,32,48,61,52,32,49,61,53],[100,111,110,101]],0):=by kernel_rfl
theorem Qqc (w:World) (hG:∀w',Ext [] w w'→QcF w') (hW:∀w',Ext [] w w'→QeS w'):Calls Tryz.prog 23 #[] w fun e w'=>e= .returned (.bool true)∧Below w.heap.size w w':=by
 have hS:=St.start w
 have h:Calls Tryz.prog 21 #[sv Qwp,sv Qwo,.int .i64 20,.int .i64 1] w fun e w'=>∃(A:Option Addr) (c:Nat),e= .returned (.tuple #[.slice A 2 c,.int .i64 0])∧QD 1 [sv [121,101,115,32,48,61,52,32,49,61,53],sv [100,111,110,101]] A 2 c w'∧Below w.heap.size w w':=by
  have h:=Qst Qwp Qwo 20 1 w hG hW Yf Yf Yf;rw [Qsp] at h;exact h
 refine Qnz Tryz.func23 rfl Tryz.ntmps23 rfl ?_;refine Zk ?_;refine Zg ?_;refine ZbD ?_;refine Calls.mono (h) ?_;rintro _ w1 ⟨A,c,rfl,hf,hb⟩;refine Za ?_;replace hS:=hS.grow hb;obtain ⟨b5,o5,rfl⟩:=hf.some_ Yf;have q0:=hf.get (j:=0) (v:=sv [121,101,115,32,48,61,52,32,49,61,53]) rfl;have q1:=hf.get (j:=1) (v:=sv [100,111,110,101]) rfl;have e0:(⟨([121,101,115,32,48,61,52,32,49,61,53]:Str).toArray⟩:ByteArray)=⟨#[121,101,115,32,48,61,52,32,49,61,53]⟩:=rfl;have e1:(⟨([100,111,110,101]:Str).toArray⟩:ByteArray)=⟨#[100,111,110,101]⟩:=rfl;refine Zcb ?_;refine Zdq ?_;refine Zq ?_;refine ZI ?_;refine Zcy ?_;refine Zq ?_;refine Zr ?_;refine ZI ?_;refine ZK ?_;refine ZdP ?_;refine Zaf ?_;refine Zr ?_;refine ZI ?_;refine ZK ?_;refine ZdP ?_;refine Zaf ?_;refine Z3 ?_;refine Qd Tryz.func23 rfl Yb ?_;exact ⟨rfl,hS.ext.below⟩
end Go.Proofs.YthliapbflkfdiacGreatDoor
