/- SWalk8, Mk, SWalk9, SInv2, SWalk10: texts that follow one another, laid into one file. -/
import Derived.Test.YthliapbflkfdiacGreatDoorZ0
import Derived.Test.YthliapbflkfdiacGreatDoorG12
import Derived.Test.YthliapbflkfdiacGreatDoorG1
import Derived.Laws.MakeOwn
namespace Go.Proofs.YthliapbflkfdiacGreatDoor
open Go.RowKit
set_option linter.unusedVariables false
set_option linter.unusedSimpArgs false
set_option maxRecDepth 100000
set_option maxHeartbeats 1000000
theorem QF {s:ByteArray} (l:Str):s.toList=l↔s=⟨l.toArray⟩:=by
 constructor
 ·intro h;exact Qjr.1 (h.trans (Qal l).symm)
 ·intro h;rw [h,Qal]
theorem Quh {T:TA} (h:T.len=2):∃x y:LT,T= .cons x.k x.n x.s x.A x.c x.ar (.cons y.k y.n y.s y.A y.c y.ar .nil):=by
 match T,h with
 | .cons k n s A c a (.cons k' n' s' A' c' a' .nil),_=>exact ⟨⟨k,n,s,A,c,a⟩,⟨k',n',s',A',c',a'⟩,rfl⟩
 | .nil,h=>simp [TA.len] at h
 | .cons _ _ _ _ _ _ .nil,h=>simp [TA.len] at h
 | .cons _ _ _ _ _ _ (.cons _ _ _ _ _ _ (.cons _ _ _ _ _ _ _)),h=>simp [TA.len] at h
theorem Qs7 {T:TA} (h:T.len=3):∃x y z:LT,T= .cons x.k x.n x.s x.A x.c x.ar (.cons y.k y.n y.s y.A y.c y.ar (.cons z.k z.n z.s z.A z.c z.ar .nil)):=by
 match T,h with
 | .cons k n s A c a (.cons k' n' s' A' c' a' (.cons k2 n2 s2 A2 c2 a2 .nil)),_=>exact ⟨⟨k,n,s,A,c,a⟩,⟨k',n',s',A',c',a'⟩,⟨k2,n2,s2,A2,c2,a2⟩,rfl⟩
 | .nil,h=>simp [TA.len] at h
 | .cons _ _ _ _ _ _ .nil,h=>simp [TA.len] at h
 | .cons _ _ _ _ _ _ (.cons _ _ _ _ _ _ .nil),h=>simp [TA.len] at h
 | .cons _ _ _ _ _ _ (.cons _ _ _ _ _ _ (.cons _ _ _ _ _ _ (.cons _ _ _ _ _ _ _))),h=>simp [TA.len] at h
theorem Qvo {s:SS} (hI:QdA s) (n:Nat):QdA ⟨s.B,s.fresh,s.fuel,s.goals,s.ch.drop (s.ch.length-n),s.ev⟩:=by
 have hc:=Qhp s.ch (s.ch.length-n);have h1:=hI.fr;have h2:=hI.bl;unfold mu at h1 h2;exact ⟨hI.bok,hI.gb,hI.ch.drop _,by unfold mu;simp only;omega,by unfold mu;simp only;omega⟩
section
variable {M:List Nat} {w0:World} {H:List (Nat×Obj)} {F0 F:List (World→Prop)} {b:Nat} {P:List LC} {pA:Option Addr} {pc vars:Nat} {d:SD}
theorem Qsf (s:SS) (g:GN) (next:List GN) (w:World) (hI:QdA s) (hsl:s.B.length+10100*(mu s+1)≤1000000000) (hg:tgd g.t.tm) (hgo:g.o≤s.ch.length) (hbt:Qay g.t.s.toList g.t.ar.len=true) (hr:Und F (PR (g::next))) (hFF:∀φ∈F0,φ∈F) (hok:SOk P pA pc s d F)
  (hS:St M w0 ((b,sob d.mb d.TR (QdB P pA pc vars s.fresh s.fuel (Qcu d.gs) d.CH d.EV))::(d.mb,.map d.es d.clk)::(d.O++(d.O2++(d.O3++H)))) F w):
  Calls Tryz.prog 76 #[pt b,pt g.blk] w fun e w'=>e= .returned (.int .i64 (QbI (g.t.tm,g.o) s).1)∧SSt M w0 H F0 b P pA pc vars (QbI (g.t.tm,g.o) s).2 w':=by
 have hbm:QbI (g.t.tm,g.o) s=if g.t.s.toList=[33] then (0,⟨s.B,s.fresh,s.fuel,s.goals,s.ch.drop (s.ch.length-g.o),s.ev⟩)
  else if g.t.s.toList=[116,114,117,101] then (0,s) else if g.t.s.toList=[101,113] then QaY (g.t.ar.ts.at_ 0) (g.t.ar.ts.at_ 1) s
  else if g.t.s.toList=[108,101,115,115] then QfI g.t.ar.ts s else if g.t.s.toList=[97,100,100] then Qo4 g.t.ar.ts s else Qar s:=rfl
 have hpc:∀{H'} w',St M w0 H' F w'→_:=fun w' hS=>(hS.und hr).cells;have hrt:Und F (LRd g.t):=hr.imp fun w h=>h.2.1;have hdown:=QbN _ hg
 have hs0:∀w',St M w0 ((b,sob d.mb d.TR (QdB P pA pc vars s.fresh s.fuel (Qcu d.gs) d.CH d.EV))::(d.mb,.map d.es d.clk)::(d.O++(d.O2++(d.O3++H)))) F w'→SSt M w0 H F0 b P pA pc vars s w':=fun w' h=>⟨d,F,hFF,hok,h⟩
 unfold Qay at hbt;refine Qf Tryz.func76 rfl Tryz.ntmps76 rfl ?_;by_cases h1:g.t.s.toList=[33]
 ·rw [if_pos h1] at hbm;rw [hbm];have e1:=(QF [33]).1 h1;have hrow2:=hok.row2;obtain ⟨A2,c2,hCH⟩:=hrow2.form;rw [hCH] at hrow2;have hcap:=hrow2.cap
  have hlc:d.cs.length=s.ch.length:=by rw [←hok.hc];simp
  have hcut:=hrow2.cut (m:=g.o) Ya;rw [hCH] at hS;refine Zel ?_;refine Za1 ?_;refine ZbZ ?_;refine Zl ?_;refine Qq (St _ _ _ _) 12 ((0,true)::(1,true)::(2,true)::(3,true)::(4,true)::(5,true)::(6,true)::(7,true)::(8,true)::(9,true)::(10,true)::(11,true)::[]) Yc Yc (hS.drew) ?_;replace hS:=hS.drew;refine ZbS ?_;refine Zb9 ?_;refine ZfI ?_;refine Zei ?_;refine ZfI ?_;refine Qc rfl (fun _ hS=>Qam (sz:=3) rfl rfl rfl rfl Ya Ya) rfl ?_;refine Zaa ?_;refine Zb9 ?_;refine Zaz ?_;clear hS;intro wx1 hS;refine Zay ?_;refine ZdG ?_;refine ⟨rfl,⟨d.G,d.mb,d.es,d.clk,d.TR,d.O,d.gs,d.cs.drop (d.cs.length-g.o),.slice A2 g.o c2,d.O2,d.evs,d.EV,d.O3⟩,F,hFF,?_,hS⟩
  have e2:(d.cs.drop (d.cs.length-g.o)).length=g.o:=by simp;omega
  refine ⟨hok.bm,hok.hB,hok.hg,hok.rg,?_,fun c hc=>hok.rc c (List.mem_of_mem_drop hc),?_,hok.he,hok.re,hok.row3,hok.rp⟩
  ·show (d.cs.drop (d.cs.length-g.o)).map LCh.ch=s.ch.drop (s.ch.length-g.o);rw [←hok.hc,List.map_drop];simp
  ·show Row _ _ _ (d.cs.drop (d.cs.length-g.o)).length _ _;rw [e2]
   have e3:(chL d.cs.reverse).take (g.o*3)=chL (d.cs.drop (d.cs.length-g.o)).reverse:=by
    have e4:d.cs.reverse=(d.cs.drop (d.cs.length-g.o)).reverse++(d.cs.take (d.cs.length-g.o)).reverse:=by rw [←List.reverse_append,List.take_append_drop]
    rw [e4,QiK,List.take_append_of_le_length (by rw [QkZ];simp;omega),List.take_of_length_le (by rw [QkZ];simp;omega)]
   rw [←e3];exact hcut
 rw [if_neg h1] at hbm hbt;have e1:g.t.s≠⟨#[33]⟩:=fun h=>h1 ((QF [33]).2 h);by_cases h2:g.t.s.toList=[116,114,117,101]
 ·rw [if_pos h2] at hbm;rw [hbm];have e2:=(QF [116,114,117,101]).1 h2;refine Zel ?_;refine Za1 ?_;refine Zcx ?_;refine ZbZ ?_;refine Zk ?_;refine ZdG ?_;exact ⟨rfl,hs0 _ hS⟩
 rw [if_neg h2] at hbm hbt;have e2:g.t.s≠⟨#[116,114,117,101]⟩:=fun h=>h2 ((QF [116,114,117,101]).2 h);by_cases h3:g.t.s.toList=[101,113]
 ·rw [if_pos h3] at hbm;rw [hbm];have e3:=(QF [101,113]).1 h3;rw [if_neg (by rw [h3];decide),if_pos h3] at hbt;obtain ⟨x,y,hT⟩:=Quh (T:=g.t.ar) (by simpa using hbt);obtain ⟨⟨gk,gn,gs_,gA,gc,gar⟩,go_,gb⟩:=g;dsimp only at*;subst hT;have hra:=hrt;unfold LRd at hra;dsimp only at hra;obtain ⟨b6,o6,rfl⟩:=(hS.und hra).some_ (by simp [TA.len]);have hcA:∀{H'} w',St M w0 H' F w'→_:=fun w' hS=>ArA.cells (D:= .nil) (hS.und hra);have hcB:∀{H'} w',St M w0 H' F w'→_:=fun w' hS=>ArA.cells (D:= .cons x.k x.n x.s x.A x.c x.ar .nil) (hS.und hra);have hrx:Und F (LRd x):=hra.imp fun w h=>ArA.sub (D:= .nil) h;have hry:Und F (LRd y):=hra.imp fun w h=>ArA.sub (D:= .cons x.k x.n x.s x.A x.c x.ar .nil) h;have tx:tgd x.tm:=hdown x.tm (.inl rfl);have ty_:tgd y.tm:=hdown y.tm (.inr (.inl rfl));have hlen2:(TA.cons x.k x.n x.s x.A x.c x.ar (TA.cons y.k y.n y.s y.A y.c y.ar TA.nil)).len=2:=rfl;refine Zel ?_;refine ZcK ?_;refine ZbZ ?_;refine Zl ?_;refine Zfw ?_;replace hS:=hS.drew;refine Z0 ?_;refine ZbC ?_;refine ZcT ?_;refine Zs ?_;refine ZbC ?_;refine ZcT ?_;refine ZF ?_;refine Zz ?_;refine Calls.mono (Qmw s x y _ hI hsl tx ty_ hrx hry hFF hok hS) ?_;rintro _ w9 ⟨rfl,hq⟩;refine Zv ?_;refine ZdG ?_;exact ⟨rfl,hq⟩
 rw [if_neg h3] at hbm;have e3:g.t.s≠⟨#[101,113]⟩:=fun h=>h3 ((QF [101,113]).2 h);by_cases h4:g.t.s.toList=[108,101,115,115]
 ·rw [if_pos h4] at hbm;rw [hbm];have e4:=(QF [108,101,115,115]).1 h4;rw [if_neg (by rw [h4];decide),if_neg (by rw [h4];decide),if_pos h4] at hbt;obtain ⟨x,y,hT⟩:=Quh (T:=g.t.ar) (by simpa using hbt);have hlen2:g.t.ar.len=2:=by simpa using hbt
  have hra:Und F (ArA g.t.A g.t.c g.t.ar):=hrt;rw [hT] at hra;have tx:tgd x.tm:=hdown x.tm (by show g.t.ar.ts.Mem _;rw [hT];exact .inl rfl);have ty_:tgd y.tm:=hdown y.tm (by show g.t.ar.ts.Mem _;rw [hT];exact .inr (.inl rfl))
  have hts:g.t.ar.ts= .cons x.k x.n x.s x.ar.ts (.cons y.k y.n y.s y.ar.ts .nil):=by rw [hT];rfl
  rw [hts];refine Zel ?_;refine ZcK ?_;refine Zcx ?_;refine ZbZ ?_;refine ZH ?_;rw [hlen2];refine Zi ?_;refine Calls.mono (QtH s g.t.A g.t.c x y .nil _ hI tx ty_ hra (by simp [TA.len]) hFF hok hS) ?_;rintro _ w9 ⟨rfl,hq⟩;refine Zv ?_;refine ZdG ?_;exact ⟨rfl,hq⟩
 rw [if_neg h4] at hbm;have e4:g.t.s≠⟨#[108,101,115,115]⟩:=fun h=>h4 ((QF [108,101,115,115]).2 h);by_cases h5:g.t.s.toList=[97,100,100]
 ·rw [if_pos h5] at hbm;rw [hbm];have e5:=(QF [97,100,100]).1 h5;rw [if_neg (by rw [h5];decide),if_neg (by rw [h5];decide),if_neg (by rw [h5];decide),if_pos h5] at hbt;obtain ⟨x,y,z,hT⟩:=Qs7 (T:=g.t.ar) (by simpa using hbt);have hlen2:g.t.ar.len=3:=by simpa using hbt
  have hra:Und F (ArA g.t.A g.t.c g.t.ar):=hrt;rw [hT] at hra;have tx:tgd x.tm:=hdown x.tm (by show g.t.ar.ts.Mem _;rw [hT];exact .inl rfl);have ty_:tgd y.tm:=hdown y.tm (by show g.t.ar.ts.Mem _;rw [hT];exact .inr (.inl rfl));have tz:tgd z.tm:=hdown z.tm (by show g.t.ar.ts.Mem _;rw [hT];exact .inr (.inr (.inl rfl)))
  have hts:g.t.ar.ts= .cons x.k x.n x.s x.ar.ts (.cons y.k y.n y.s y.ar.ts (.cons z.k z.n z.s z.ar.ts .nil)):=by rw [hT];rfl
  rw [hts];refine Zel ?_;refine ZcK ?_;refine Zfa ?_;refine ZbZ ?_;refine ZH ?_;rw [hlen2];refine Zi ?_;refine Calls.mono (Qvx s g.t.A g.t.c x y z .nil _ hI hsl tx ty_ tz hra (by simp [TA.len]) hFF hok hS) ?_;rintro _ w9 ⟨rfl,hq⟩;refine Zv ?_;refine ZdG ?_;exact ⟨rfl,hq⟩
 rw [if_neg h5] at hbm;rw [hbm];have e5:g.t.s≠⟨#[97,100,100]⟩:=fun h=>h5 ((QF [97,100,100]).2 h);refine Zel ?_;refine ZcK ?_;refine Zfa ?_;refine Zcx ?_;refine Zbx ?_;refine ZC ?_;refine Calls.mono (QdU s _ hI (hs0 _ hS)) ?_;rintro _ w9 ⟨rfl,hq⟩;refine Zv ?_;refine ZdG ?_;exact ⟨rfl,hq⟩
end
section
variable {P:Program} {n:Nat} {e:Env} {w:World} {Q:Exit→Act→World→Prop} {ops:Array Oper} {rest:List Oper} {ty:TypeId} {pos:String} {after:Array Edge} {d:Nat}
variable {M:List Nat} {w0:World} {H:List (Nat×Obj)} {F:List (World→Prop)} {x y:Operand} {t:TypeId}
theorem QkA {el sz bts k:Nat} (hS:St M w0 H F w) (hx:ev n e x= .int .i64 (k:Nat)) (hy:ev n e y= .int .i64 (k:Nat)) (hT:QE P t=some el) (hi:Qtl P el=some (sz,bts)) (hb:bts*k≤281474976710656) (hk:k≤4611686018427387904) (hd:Nat.blt d n=true)
  (h:∀(b:Nat) (w':World) (cs:List Value),cs.length=k*sz→St M w0 ((b,.cells cs.toArray el)::H) F w'→Lst P Q ops rest n ((d,.slice (some ⟨b,0,none⟩) k k)::e) w'):
  Lst P Q ops (⟨some d,.makeSlice t x y,ty,pos,after,none⟩::rest) n e w:=by
 obtain ⟨i,z,h2,h3,h4,rfl,rfl⟩:=Qbc hi
 have hb2:(i.bytes:Int)*(k:Int)≤281474976710656:=by rw [←Int.natCast_mul];omega
 have hr:=run_make (P:=P) w t el i z (Qav hT) h2 h3 .i64 .i64 (k:Int) (k:Int) Ya Ya hb2 Ya;refine Qa (v:= .slice (some ⟨w.heap.size,0,none⟩) k k) (w':=w.alloc (.cells (madeCells z.cells (k*i.size)) el)) ?_ hd ?_
 ·simp only [execOp,hx,hy,bind,pure];rw [Sem.run_bind',hr];rfl
 ·have e1:madeCells z.cells (k*i.size)=(madeCells z.cells (k*i.size)).toList.toArray:=by simp
  rw [e1];exact h _ _ _ (by rw [Array.length_toList,size_madeCells]) (hS.alloc _)
theorem Qtx (v:Value) (k:Nat):madeCells #[v] (k*1)=(List.replicate k v).toArray:=by
 apply Array.ext';simp only [madeCells,Array.toList_map,Array.toList_range,Nat.mul_one];refine List.ext_getElem? fun i=> ?_;rw [List.getElem?_map,List.getElem?_replicate];by_cases hi:i<k
 ·rw [List.getElem?_range hi,if_pos hi];simp [Nat.mod_one]
 ·rw [List.getElem?_eq_none (by simpa using hi),if_neg hi];rfl
theorem Qcw {el bts k:Nat} {z:Value} (hS:St M w0 H F w) (hx:ev n e x= .int .i64 (k:Nat)) (hy:ev n e y= .int .i64 (k:Nat)) (hT:QE P t=some el) (hi:Qtl P el=some (1,bts)) (hz:Qhu P el=some z) (hz1:z.cells= #[z]) (hb:bts*k≤281474976710656) (hk:k≤4611686018427387904) (hd:Nat.blt d n=true)
  (h:∀(b:Nat) (w':World),St M w0 ((b,.cells (List.replicate k z).toArray el)::H) F w'→Lst P Q ops rest n ((d,.slice (some ⟨b,0,none⟩) k k)::e) w'):
  Lst P Q ops (⟨some d,.makeSlice t x y,ty,pos,after,none⟩::rest) n e w:=by
 obtain ⟨i,z',h2,h3,h4,h5,rfl⟩:=Qbc hi
 obtain rfl:z'=z:=by unfold Qhu at hz;rw [h2] at hz;simp only [Option.bind_some] at hz;rw [h3] at hz;exact Option.some.inj hz
 have hb2:(i.bytes:Int)*(k:Int)≤281474976710656:=by rw [←Int.natCast_mul];omega
 have hr:=run_make (P:=P) w t el i z' (Qav hT) h2 h3 .i64 .i64 (k:Int) (k:Int) Ya Ya hb2 Ya;refine Qa (v:= .slice (some ⟨w.heap.size,0,none⟩) k k) (w':=w.alloc (.cells (madeCells z'.cells (k*i.size)) el)) ?_ hd ?_
 ·simp only [execOp,hx,hy,bind,pure];rw [Sem.run_bind',hr];rfl
 ·rw [h5,hz1,Qtx];exact h _ _ (hS.alloc _)
end
theorem QfC {α:Type} (L O O2 O3 H:List α):(L++(O++(O2++(O3++H)))).Perm (O3++(L++(O++(O2++H)))):=
 ((List.Perm.append_left L ((List.Perm.append_left O (List.perm_append_comm_assoc O2 O3 H)).trans (List.perm_append_comm_assoc O O3 _)))).trans (List.perm_append_comm_assoc L O3 _)
theorem Qc2 {α:Type} (L O O2 H:List α):(L++(O++(O2++H))).Perm (O2++(L++(O++H))):=
 (List.Perm.append_left L (List.perm_append_comm_assoc O O2 H)).trans (List.perm_append_comm_assoc L O2 _)
theorem Qeg (B:Bnd) (m v l:Nat):Qbg B (m+1) v l=(Qfg B 201 ⟨0,v,⟨#[]⟩,.nil⟩ l).bind fun p=>(Qbg B m (v+1) p.2).map fun q=>(.cons p.1.k p.1.n p.1.s p.1.ar q.1,q.2):=by
 simp only [Qbg]
 cases Qfg B 201 ⟨0,v,⟨#[]⟩,.nil⟩ l with
 |none=>rfl
 |some p=>
  simp only [Option.bind_some];cases Qbg B m (v+1) p.2<;>rfl
theorem QeT {B:Bnd}:∀(m v l:Nat) (p:Ts×Nat),Qbg B m v l=some p→p.1.nodes+p.2=l∧p.1.length=m
 |0,v,l,p,h=>by
  simp only [Qbg,Option.some.injEq] at h;subst h;exact ⟨by simp [Ts.nodes],rfl⟩
 |m+1,v,l,p,h=>by
  rw [Qeg] at h
  cases h1:Qfg B 201 ⟨0,v,⟨#[]⟩,.nil⟩ l with
  |none=>rw [h1] at h;cases h
  |some q=>
   rw [h1,Option.bind_some] at h
   cases h2:Qbg B m (v+1) q.2 with
   |none=>rw [h2] at h;cases h
   |some x=>
    rw [h2,Option.map_some,Option.some.injEq] at h;subst h;have:=QfZ _ _ _ _ h1;obtain ⟨i1,i2⟩:=QeT m (v+1) q.2 x h2;simp only [Ts.nodes,Ts.length];omega
section
variable {M:List Nat} {w0:World} {H:List (Nat×Obj)} {F0 F:List (World→Prop)} {b:Nat} {P:List LC} {pA:Option Addr} {pc vars:Nat} {d:SD}
theorem Qqb (s:SS) (w:World) (hI:QdA s) (hv8:vars≤8) (hev:s.ev.length<12) (hs:SSt M w0 H F0 b P pA pc vars s w):
  Calls Tryz.prog 74 #[pt b] w fun e w'=>e= .returned (.int .i64 (QbC vars s).1)∧SSt M w0 H F0 b P pA pc vars (QbC vars s).2 w':=by
 obtain ⟨d,F,hFF,hok,hS⟩:=hs;have hsm:=hI.sm;rw [←hok.hB] at hsm;refine Qh Tryz.func74 rfl Tryz.ntmps74 rfl ?_;refine Zk ?_;refine ZO ?_;refine Za2 ?_;refine Zgq ?_;clear hS;intro g w2 cs hcs hS;refine Zd ?_;refine Zdf ?_;refine QX 14 4 (15::16::5::6::18::19::20::21::22::23::24::25::26::17::27::28::29::30::31::32::2::33::[]) (fun (m:Nat) v x w'=>∃(D':TA) (rs:List Value) (li:Nat) (F':List (World→Prop)),D'.len+m=vars∧rs.length=m*4∧v= .int .i64 (D'.len:Nat)∧x= .int .i64 (li:Nat)∧li≤200∧Qbg s.B vars 0 200=(Qbg s.B m D'.len li).map (fun p=>(D'.ts.app p.1,p.2))∧(∀φ∈F,φ∈F')∧Und F' (QnU D')∧St M w0 ((g,.cells (QcH D'++rs).toArray 63)::(b,sob d.mb d.TR (QdB P pA pc vars s.fresh s.fuel (Qcu d.gs) d.CH d.EV))::(d.mb,.map d.es d.clk)::(d.O++(d.O2++(d.O3++H)))) F' w') (fun m=>m) (vars) ?_ Yb Yb ?_
 ·exact ⟨.nil,cs,200,F,by simp [TA.len],hcs,rfl,rfl,by omega,(by show Qbg s.B vars 0 200=(Qbg s.B vars 0 200).map _;cases Qbg s.B vars 0 200<;>rfl),fun _ h=>h,fun _ _=>trivial,hS⟩
 clear hS;rintro m _ _ w6 jv ⟨D',rs,li,F',hDm,hrs,rfl,rfl,hli,hvm,hFF',hAR,hS⟩ ih;have hD4:=Qfn D';have hok':=hok.mono hFF'
 cases m with
 |zero=>
  obtain rfl:rs=[]:=List.eq_nil_of_length_eq_zero (by simpa using hrs)
  have hvm2:Qbg s.B vars 0 200=some (D'.ts,li):=by
   rw [hvm];show some (D'.ts.app .nil,li)=_;rw [Ts.app_nil]
  have hnd:=(QeT _ _ _ _ hvm2).1;dsimp only at hnd;have hDl:D'.len=vars:=by omega
  have hArA:∀w',St M w0 ((g,.cells (QcH D'++[]).toArray 63)::(b,sob d.mb d.TR (QdB P pA pc vars s.fresh s.fuel (Qcu d.gs) d.CH d.EV))::(d.mb,.map d.es d.clk)::(d.O++(d.O2++(d.O3++H)))) F' w'→ArA (some ⟨g,0,none⟩) vars D' w':=fun w' hS=>by
   refine ⟨by omega,fun _=>⟨g,0,rfl,Qkn (hS.und hAR) fun j x hj=> ?_⟩⟩;rw [Qp (hS.own (g,_) (.head _)),Nat.zero_add,List.append_nil];exact hj
  have hrow3:=hok'.row3;obtain ⟨A3,c3,hEV⟩:=hrow3.form
  have hlev:d.evs.length=s.ev.length:=by rw [←hok.he];simp
  refine ZL ?_;refine Zl ?_;replace hS:=hS.swap;refine Zhm ?_;replace hS:=hS.drew;refine ZbS ?_;refine Zgr ?_;refine Zax ?_;refine Zs ?_;refine Zp ?_;have htid:=Qn8 D'.ts (.slice (some ⟨g,0,none⟩) vars vars) _ (by have:=(hArA _ hS.swap).sl;rw [hDl] at this;exact this) Ya;refine Zj ?_;refine Calls.mono htid ?_;rintro _ w7 ⟨v7,rfl,hsl,hbl⟩;refine Za ?_;obtain ⟨A7,c7,L7,rfl,hL7,hS'⟩:=hS.located hbl hsl;replace hS:=hS';clear hS';refine ZaQ ?_;refine Zhn ?_;refine Zp ?_;refine ZeM ?_;clear hS;intro b1 wx1 hS;refine ZaQ ?_;refine Zp ?_;refine QaN (sz:=2) (bts:=32) hS Yb rfl rfl rfl rfl (hrow3) rfl rfl (.cons _ (QfC [_,_,_] _ _ _ _)) Ya Ya rfl ?_;clear hS;intro v8 O8 w9 hrow8 hS;obtain ⟨A8,c8,rfl⟩:=hrow8.form;replace hS:=hS.perm (QfC [_,_,_] _ _ _ _).symm
  have hans:QbC vars s=if s.ev.length+1=12 then (6,⟨s.B,s.fresh,s.fuel,s.goals,s.ch,s.ev++[D'.ts.tidy]⟩) else Qar ⟨s.B,s.fresh,s.fuel,s.goals,s.ch,s.ev++[D'.ts.tidy]⟩:=by
   unfold QbC;rw [hvm2];simp only [List.length_append,List.length_cons,List.length_nil]
  have hs2:∀w',St M w0 ((b,sob d.mb d.TR (QdB P pA pc vars s.fresh s.fuel (Qcu d.gs) d.CH (.slice A8 (d.evs.length+1) c8)))::(g,.cells (QcH D'++[]).toArray 63)::(d.mb,.map d.es d.clk)::(d.O++(d.O2++(O8++H)))) (ArA A7 c7 L7::F') w'→SSt M w0 H F0 b P pA pc vars ⟨s.B,s.fresh,s.fuel,s.goals,s.ch,s.ev++[D'.ts.tidy]⟩ w':=fun w' hS=>by
   refine ⟨⟨d.G,d.mb,d.es,d.clk,d.TR,d.O,d.gs,d.cs,d.CH,d.O2,d.evs++[⟨A7,c7,L7⟩],.slice A8 (d.evs.length+1) c8,O8⟩,_,fun φ h=> .tail _ (hFF' φ (hFF φ h)),?_,hS.swap.drop⟩;have ho:=hok'.mono (F':=ArA A7 c7 L7::F') fun φ h=> .tail _ h;refine ⟨ho.bm,ho.hB,ho.hg,ho.rg,ho.hc,ho.rc,ho.row2,?_,?_,?_,ho.rp⟩
   ·show (d.evs++[LE.mk A7 c7 L7]).map _=_;rw [List.map_append,ho.he];simp [hL7]
   ·intro e he;rcases List.mem_append.1 he with he|he
    ·exact ho.re e he
    ·obtain rfl:e=⟨A7,c7,L7⟩:=by simpa using he
     exact Und.head
   ·show Row _ _ _ (d.evs++[LE.mk A7 c7 L7]).length (evL (d.evs++[LE.mk A7 c7 L7])) _;rw [Qr0,List.length_append];exact hrow8
  have hinv2:QdA ⟨s.B,s.fresh,s.fuel,s.goals,s.ch,s.ev++[D'.ts.tidy]⟩:=⟨hI.bok,hI.gb,hI.ch,hI.fr,hI.bl⟩
  by_cases h12:s.ev.length+1=12
  ·rw [if_pos h12] at hans;rw [hans];refine ZaQ ?_;refine Zaa ?_;refine Zgr ?_;refine Zaz ?_;clear hS;intro wx2 hS;refine Zeg ?_;refine Zem ?_;refine Zy ?_;refine Zen ?_;refine Qd Tryz.func74 rfl Yb ?_;exact ⟨rfl,hs2 _ hS⟩
  ·rw [if_neg h12] at hans;rw [hans];refine ZaQ ?_;refine Zaa ?_;refine Zgr ?_;refine Zaz ?_;clear hS;intro wx2 hS;refine Zeg ?_;refine Zem ?_;refine Zy ?_;refine ZaW ?_;refine ZC ?_;refine Calls.mono (QdU _ _ hinv2 (hs2 _ hS)) ?_;rintro _ w9 ⟨rfl,hq⟩;refine Zv ?_;refine Qd Tryz.func74 rfl Yb ?_;exact ⟨rfl,hq⟩
 |succ m=>
  obtain ⟨r0,r1,r2,r3,rs,rfl⟩:∃r0 r1 r2 r3 rs',rs=[r0,r1,r2,r3]++rs':=by
   match rs,hrs with
   |r0::r1::r2::r3::rs',_=>exact ⟨r0,r1,r2,r3,rs',rfl⟩
   |[],h=>simp at h
   |[_],h=>simp at h;omega
   |[_,_],h=>simp at h;omega
   |[_,_,_],h=>simp at h;omega
  rw [Qeg] at hvm;have hcall:=QsC 201 M w0 ((g,.cells (QcH D'++([r0,r1,r2,r3]++rs)).toArray 63)::(d.O++(d.O2++(d.O3++H)))) F' b d.mb d.clk d.es d.TR (QdB P pA pc vars s.fresh s.fuel (Qcu d.gs) d.CH d.EV) d.O d.G ⟨0,(D'.len:Nat),⟨#[]⟩,none,0,.nil⟩ li;rw [hok.hB,show (LT.mk 0 (D'.len:Nat) ⟨#[]⟩ none 0 .nil).tm=⟨0,(D'.len:Nat),⟨#[]⟩,.nil⟩ from rfl] at hcall
  have hz:Und F' (LRd ⟨0,(D'.len:Nat),⟨#[]⟩,none,0,.nil⟩):=fun w _=>⟨Nat.le_refl _,fun h=>by simp [TA.len] at h⟩
  cases hap:Qfg s.B 201 ⟨0,(D'.len:Nat),⟨#[]⟩,.nil⟩ li with
  |none=>
   rw [hap,Option.bind_none,Option.map_none] at hvm
   have e:QbC vars s=(4,s):=by unfold QbC;rw [hvm]
   rw [e];rw [hap] at hcall;refine ZaT ?_;refine Zk ?_;refine ZcB ?_;refine ZaM ?_;refine Ze ?_;refine Zfn ?_;refine Ze ?_;refine Zz ?_;refine Zho ?_;rintro _ w7 ⟨F2,hF2,rfl,hS'⟩;refine Za ?_;replace hS:=hS';clear hS';replace hS:=hS.perm (List.perm_append_comm_assoc [_,_] [_] _);refine Zae ?_;refine Zb4 ?_;refine Qa2 hS rfl Yb rfl rfl .head (QcK (QcH D') [r0,r1,r2,r3] [.int .i64 0,.int .i64 0,.string ⟨#[]⟩,.slice none 0 0] rs _ Ya rfl) .head ?_;clear hS;intro w8 hS;refine Zdq ?_;refine Zee ?_;refine Qd Tryz.func74 rfl Yb ?_;exact ⟨rfl,d,F2,fun φ h=>hF2 φ (hFF' φ (hFF φ h)),hok'.mono hF2,hS.drop⟩
  |some p=>
   obtain ⟨p1,lp⟩:=p;have hlp:=QfZ _ _ _ _ hap;rw [hap,Option.bind_some] at hvm;rw [hap] at hcall;refine ZaT ?_;refine Zk ?_;refine ZcB ?_;refine ZaM ?_;refine Ze ?_;refine Zfn ?_;refine Ze ?_;refine Zz ?_;refine Zho ?_;rintro _ w7 ⟨F2,hF2,⟨u2,hu2,hru2,rfl⟩,hS'⟩;refine Za ?_;replace hS:=hS';clear hS';replace hS:=hS.perm (List.perm_append_comm_assoc [_,_] [_] _);refine Zae ?_;refine Zb4 ?_;refine Qa2 hS rfl Yb rfl rfl .head (QcK (QcH D') [r0,r1,r2,r3] (tcs u2) rs _ Ya rfl) .head ?_;clear hS;intro w8 hS;refine Zdq ?_;refine Zef ?_;refine ih (m) _ _ _ _ ?_ ?_ Yb Yb Yc
   ·omega
   ·refine ⟨D'.app (.cons u2.k u2.n u2.s u2.A u2.c u2.ar .nil),rs,lp,F2,by rw [TA.len_app];simp only [TA.len];omega,by simp at hrs;omega,by rw [TA.len_app];rfl,rfl,by omega,?_,fun φ h=>hF2 φ (hFF' φ h),?_,?_⟩
    ·rw [hvm,Option.map_map,TA.app_ts,TA.len_app];congr 1;funext q;show (D'.ts.app (.cons p1.k p1.n p1.s p1.ar q.1),q.2)=((D'.ts.app (.cons u2.k u2.n u2.s u2.ar.ts .nil)).app q.1,q.2);rw [←hu2,Ts.app_assoc];rfl
    ·exact fun w hw=>QnU.app (U:= .cons u2.k u2.n u2.s u2.A u2.c u2.ar .nil) ⟨hru2 w hw,trivial⟩ ((hAR.mono hF2) w hw)
    ·rw [Qg8,List.append_assoc];exact hS
end
theorem Qcj {s:SS} (h:QdA s):((Qar s).1=0→Inv (Qar s).2∧mu (Qar s).2<mu s)∧(Qar s).2.ev=s.ev∧((Qar s).1=0∨(Qar s).1=2∨(Qar s).1=4):=by
 obtain ⟨h1,h2,h3,_⟩:=Qku (Qdz s.ch+1) s h;exact ⟨h1,h2,h3⟩
structure Qo6 (s:SS) (r:Int×SS):Prop where
 go:r.1=0→Inv r.2∧mu r.2<mu s
 kind:0≤r.1∧r.1≤6∧r.1≠1
theorem Qcn {s:SS} {g:Gl} {rest:List Gl} (hI:Inv s) (hg:s.goals=g::rest) (hf:s.fuel≠0):QdA ⟨s.B,s.fresh,s.fuel-1,rest,s.ch,s.ev⟩∧s.B.length+10100*(mu ⟨s.B,s.fresh,s.fuel-1,rest,s.ch,s.ev⟩+1)≤1000000000∧(∀g∈rest,tgd g.1)∧Qb6 rest g.2∧g.2≤s.ch.length∧tgd g.1∧mu ⟨s.B,s.fresh,s.fuel-1,rest,s.ch,s.ev⟩+25=mu s:=by
 have h1:=hI.c.fr;have h2:=hI.c.bl;have h3:=hI.gg;have h4:=hI.og;rw [hg] at h3 h4
 have hm:mu ⟨s.B,s.fresh,s.fuel-1,rest,s.ch,s.ev⟩+25=mu s:=by unfold mu;simp only;omega
 exact ⟨⟨hI.c.bok,hI.c.gb,hI.c.ch,by simp only;omega,by simp only;omega⟩,by omega,fun x hx=>h3 x (.tail _ hx),h4.2,h4.1,h3 g (.head _),hm⟩
theorem Qdc {s s0:SS} (h:QdA s) (hm:mu s≤mu s0):Qo6 s0 (Qar s):=by
 obtain ⟨h1,h2,h3⟩:=Qcj h;exact ⟨fun e=>⟨(h1 e).1,Nat.lt_of_lt_of_le (h1 e).2 hm⟩,by rcases h3 with h|h|h<;>rw [h]<;>decide⟩
theorem Qj5 {s s0:SS} {a t:Tm} (hI:QdA s) (hsl:s.B.length+10100*(mu s+1)≤1000000000) (ha:tgd a) (ht:tgd t) (hgg:∀g∈s.goals,tgd g.1) (hog:Qb6 s.goals s.ch.length) (hm:mu s<mu s0):Qo6 s0 (QaY a t s):=by
 have hi:=Qc9 hI hsl ha ht;unfold QaY;simp only;split
 ·exact ⟨fun h=>(by cases h),by refine ⟨?_,?_,?_⟩<;>simp only<;>decide⟩
 split
 ·exact ⟨fun _=>⟨⟨hi,hgg,hog⟩,hm⟩,by refine ⟨?_,?_,?_⟩<;>simp only<;>decide⟩
 ·exact Qdc hi (Nat.le_of_lt hm)
theorem Ts.at_mem:∀{T:Ts} {i:Nat},i<T.length→T.Mem (T.at_ i)
 | .nil,_,h=>by simp [Ts.length] at h
 | .cons k n s a r,0,_=> .inl rfl
 | .cons k n s a r,i+1,h=> .inr (Ts.at_mem (T:=r) (i:=i) (by simp only [Ts.length] at h;omega))
theorem Qp5 {s s0:SS} {g:Gl} (hI:QdA s) (hsl:s.B.length+10100*(mu s+1)≤1000000000) (hg:tgd g.1) (hgo:g.2≤s.ch.length) (hgg:∀g∈s.goals,tgd g.1) (hog:Qb6 s.goals g.2) (hb:Qay g.1.s.toList g.1.ar.length=true) (hm:mu s<mu s0):Qo6 s0 (QbI g s):=by
 have hog2:=hog.mono hgo;have hd:=QbN _ hg;unfold QbI;unfold Qay at hb;split
 ·refine ⟨fun _=>⟨⟨Qvo hI g.2,hgg,?_⟩,?_⟩,by refine ⟨?_,?_,?_⟩<;>simp only<;>decide⟩
  ·show Qb6 s.goals (s.ch.drop (s.ch.length-g.2)).length;exact hog.mono Yh
  ·have:=Qhp s.ch (s.ch.length-g.2);unfold mu at*;simp only;omega
 rename_i h1;rw [if_neg h1] at hb;split
 ·exact ⟨fun _=>⟨⟨hI,hgg,hog2⟩,hm⟩,by refine ⟨?_,?_,?_⟩<;>simp only<;>decide⟩
 rename_i h2;rw [if_neg h2] at hb;split
 ·rename_i h3;rw [if_neg (by rw [h3];decide),if_pos h3] at hb;have hl:g.1.ar.length=2:=by simpa using hb
  exact Qj5 hI hsl (hd _ (Ts.at_mem Ya)) (hd _ (Ts.at_mem Ya)) hgg hog2 hm
 rename_i h3;split
 ·unfold QfI;simp only;split
  ·exact ⟨fun h=>(by cases h),by refine ⟨?_,?_,?_⟩<;>simp only<;>decide⟩
  split
  ·exact Qdc hI (Nat.le_of_lt hm)
  ·exact ⟨fun _=>⟨⟨hI,hgg,hog2⟩,hm⟩,by refine ⟨?_,?_,?_⟩<;>simp only<;>decide⟩
 rename_i h4;split
 ·rename_i h5;rw [if_neg (by rw [h5];decide),if_neg (by rw [h5];decide),if_neg (by rw [h5];decide),if_pos h5] at hb;have hl:g.1.ar.length=3:=by simpa using hb
  unfold Qo4;simp only;split
  ·exact ⟨fun h=>(by cases h),by refine ⟨?_,?_,?_⟩<;>simp only<;>decide⟩
  split
  ·exact ⟨fun h=>(by cases h),by refine ⟨?_,?_,?_⟩<;>simp only<;>decide⟩
  ·rename_i hk hr;refine Qj5 hI hsl (hd _ (Ts.at_mem Ya)) ?_ hgg hog2 hm;refine ⟨?_,by simp [Ts.nodes]⟩;simp only [Ts.good,Bool.and_eq_true,and_true];unfold Qa1;rw [if_neg Yf,if_neg Yf,if_pos rfl];simp only [Bool.and_eq_true,decide_eq_true_eq];exact ⟨⟨⟨by omega,by omega⟩,Qal []⟩,rfl⟩
 ·exact Qdc hI (Nat.le_of_lt hm)
theorem Qfz {s:SS} {g:Gl} {rest:List Gl} {c:Cl} {cs:List Cl} (hI:Inv s) (hg:s.goals=g::rest) (hf:s.fuel≠0) (hc:∀x∈c::cs,cB x=true) (hl:(c::cs).length≤24):
  QdA ⟨s.B,s.fresh,s.fuel-1,rest,⟨g,rest,c::cs,s.B.length⟩::s.ch,s.ev⟩∧mu ⟨s.B,s.fresh,s.fuel-1,rest,⟨g,rest,c::cs,s.B.length⟩::s.ch,s.ev⟩<mu s:=by
 obtain ⟨h1,h2,h3,h4,h5,h6,h7⟩:=Qcn hI hg hf
 have hm:mu ⟨s.B,s.fresh,s.fuel-1,rest,⟨g,rest,c::cs,s.B.length⟩::s.ch,s.ev⟩<mu s:=by
  unfold mu at*;simp only [Qdz] at*;omega
 have a1:=hI.c.fr;have a2:=hI.c.bl;refine ⟨⟨hI.c.bok,hI.c.gb,?_,by simp only;omega,by simp only;omega⟩,hm⟩
 exact ⟨Nat.le_refl _,⟨h5,h4⟩,fun x hx=>by
  rcases List.mem_cons.1 hx with rfl|hx
  ·exact h6
  ·exact h3 x hx,by simp,hc,hI.c.ch⟩
theorem QhM {p:List Cl} {vars:Nat} {s:SS} (hI:Inv s) (hev:s.ev.length<12) (hp:pB p=true):Qo6 s (QaI p vars s)∧((QaI p vars s).1=0→(QaI p vars s).2.ev.length<12):=by
 have hp2:p.length≤24∧∀x∈p,cB x=true:=by
  unfold pB at hp;simp only [Bool.and_eq_true,decide_eq_true_eq,List.all_eq_true] at hp;exact hp
 have hag:∀s':SS,QdA s'→s'.ev.length<12→((Qar s').1=0→(Qar s').2.ev.length<12):=fun s' h1 h2 _=>by rw [(Qcj h1).2.1];exact h2
 have heq:∀(s':SS) (a t:Tm),QdA s'→s'.B.length+10100*(mu s'+1)≤1000000000→tgd a→tgd t→s'.ev.length<12→((QaY a t s').1=0→(QaY a t s').2.ev.length<12):=fun s' a t h1 h2 h3 h4 h5=>by
  have hi:=Qc9 h1 h2 h3 h4;unfold QaY;simp only;split
  ·intro h;cases h
  split
  ·intro _;exact h5
  ·exact hag _ hi h5
 unfold QaI
 cases hg:s.goals with
 |nil=>
  simp only;unfold QbC
  cases hv:Qbg s.B vars 0 200 with
  |none=>exact ⟨⟨fun h=>(by cases h),by refine ⟨?_,?_,?_⟩<;>simp only<;>decide⟩,fun h=>by cases h⟩
  |some x=>
   simp only
   have hi:QdA ⟨s.B,s.fresh,s.fuel,s.goals,s.ch,s.ev++[x.1.tidy]⟩:=⟨hI.c.bok,hI.c.gb,hI.c.ch,hI.c.fr,hI.c.bl⟩
   split
   ·exact ⟨⟨fun h=>(by cases h),by refine ⟨?_,?_,?_⟩<;>simp only<;>decide⟩,fun h=>by cases h⟩
   ·rename_i h12;refine ⟨Qdc hi (Nat.le_refl _),hag _ hi ?_⟩;simp at h12⊢;omega
 |cons g rest=>
  simp only;split
  ·exact ⟨⟨fun h=>(by cases h),by refine ⟨?_,?_,?_⟩<;>simp only<;>decide⟩,fun h=>by cases h⟩
  rename_i hf;obtain ⟨h1,h2,h3,h4,h5,h6,h7⟩:=Qcn hI hg hf;split
  ·rename_i hb;refine ⟨Qp5 h1 h2 h6 h5 h3 h4 hb Ya,?_⟩;have hd:=QbN _ h6;unfold Qay at hb;unfold QbI;split
   ·intro _;exact hev
   rename_i k1;rw [if_neg k1] at hb;split
   ·intro _;exact hev
   rename_i k2;rw [if_neg k2] at hb;split
   ·rename_i k3;rw [if_neg (by rw [k3];decide),if_pos k3] at hb;have hl:g.1.ar.length=2:=by simpa using hb
    exact heq _ _ _ h1 h2 (hd _ (Ts.at_mem Ya)) (hd _ (Ts.at_mem Ya)) hev
   split
   ·unfold QfI;simp only;split
    ·intro h;cases h
    split
    ·exact hag _ h1 hev
    ·intro _;exact hev
   split
   ·rename_i k5;rw [if_neg (by rw [k5];decide),if_neg (by rw [k5];decide),if_neg (by rw [k5];decide),if_pos k5] at hb;have hl:g.1.ar.length=3:=by simpa using hb
    unfold Qo4;simp only;split
    ·intro h;cases h
    split
    ·intro h;cases h
    ·refine heq _ _ _ h1 h2 (hd _ (Ts.at_mem Ya)) ?_ hev;refine ⟨?_,by simp [Ts.nodes]⟩;simp only [Ts.good,Bool.and_eq_true,and_true];unfold Qa1;rw [if_neg Yf,if_neg Yf,if_pos rfl];simp only [Bool.and_eq_true,decide_eq_true_eq];exact ⟨⟨⟨by omega,by omega⟩,Qal []⟩,rfl⟩
   ·exact hag _ h1 hev
  ·cases hm:p.filter (QeI g.1) with
   |nil=>exact ⟨⟨fun h=>(by cases h),by refine ⟨?_,?_,?_⟩<;>simp only<;>decide⟩,fun h=>by cases h⟩
   |cons c cs=>
    simp only;have hsub:∀x∈c::cs,cB x=true:=fun x hx=>hp2.2 x (by rw [←hm] at hx;exact (List.mem_filter.1 hx).1)
    have hlen:(c::cs).length≤24:=by rw [←hm];exact Nat.le_trans (List.length_filter_le _ _) hp2.1
    obtain ⟨i1,i2⟩:=Qfz hI hg hf hsub hlen;exact ⟨Qdc i1 (Nat.le_of_lt i2),hag _ i1 hev⟩
theorem QoN {s:SS} {a t:Tm} (hI:QdA s) (hsl:s.B.length+10100*(mu s+1)≤1000000000) (ha:tgd a) (ht:tgd t):(QaY a t s).2.ev=s.ev:=by
 have hi:=Qc9 hI hsl ha ht;unfold QaY;simp only;split
 ·rfl
 split
 ·rfl
 ·exact (Qcj hi).2.1
theorem Qt2 {s:SS} {g:Gl} (hI:QdA s) (hsl:s.B.length+10100*(mu s+1)≤1000000000) (hg:tgd g.1) (hb:Qay g.1.s.toList g.1.ar.length=true):(QbI g s).2.ev=s.ev:=by
 have hd:=QbN _ hg;unfold Qay at hb;unfold QbI;split
 ·rfl
 rename_i k1;rw [if_neg k1] at hb;split
 ·rfl
 rename_i k2;rw [if_neg k2] at hb;split
 ·rename_i k3;rw [if_neg (by rw [k3];decide),if_pos k3] at hb;have hl:g.1.ar.length=2:=by simpa using hb
  exact QoN hI hsl (hd _ (Ts.at_mem Ya)) (hd _ (Ts.at_mem Ya))
 split
 ·unfold QfI;simp only;split
  ·rfl
  split
  ·exact (Qcj hI).2.1
  ·rfl
 split
 ·rename_i k5;rw [if_neg (by rw [k5];decide),if_neg (by rw [k5];decide),if_neg (by rw [k5];decide),if_pos k5] at hb;have hl:g.1.ar.length=3:=by simpa using hb
  unfold Qo4;simp only;split
  ·rfl
  split
  ·rfl
  ·refine QoN hI hsl (hd _ (Ts.at_mem Ya)) ?_;refine ⟨?_,by simp [Ts.nodes]⟩;simp only [Ts.good,Bool.and_eq_true,and_true];unfold Qa1;rw [if_neg Yf,if_neg Yf,if_pos rfl];simp only [Bool.and_eq_true,decide_eq_true_eq];exact ⟨⟨⟨by omega,by omega⟩,Qal []⟩,rfl⟩
 ·exact (Qcj hI).2.1
theorem Qha (p:List Cl) (vars:Nat) (s:SS) (hI:Inv s) (hp:pB p=true):(QaI p vars s).2.ev=s.ev∨∃T l,Qbg s.B vars 0 200=some (T,l)∧(QaI p vars s).2.ev=s.ev++[T.tidy]∧((QaI p vars s).1=6↔s.ev.length+1=12):=by
 have hp2:p.length≤24∧∀x∈p,cB x=true:=by
  unfold pB at hp;simp only [Bool.and_eq_true,decide_eq_true_eq,List.all_eq_true] at hp;exact hp
 unfold QaI
 cases hg:s.goals with
 |nil=>
  simp only;unfold QbC
  cases hv:Qbg s.B vars 0 200 with
  |none=>exact .inl rfl
  |some x=>
   right;refine ⟨x.1,x.2,rfl,?_⟩;simp only
   have hi:QdA ⟨s.B,s.fresh,s.fuel,s.goals,s.ch,s.ev++[x.1.tidy]⟩:=⟨hI.c.bok,hI.c.gb,hI.c.ch,hI.c.fr,hI.c.bl⟩
   obtain ⟨a1,a2,a3⟩:=Qcj hi;split
   ·rename_i h12;refine ⟨rfl,fun _=>by simpa using h12,fun _=>rfl⟩
   ·rename_i h12;refine ⟨a2,fun h=> ?_,fun h=>absurd (by simpa using h) h12⟩;rcases a3 with e|e|e<;>rw [e] at h<;>cases h
 |cons g rest=>
  simp only;split
  ·exact .inl rfl
  rename_i hf;obtain ⟨h1,h2,h3,h4,h5,h6,h7⟩:=Qcn hI hg hf;split
  ·rename_i hb;exact .inl (Qt2 h1 h2 h6 hb)
  ·cases hm:p.filter (QeI g.1) with
   |nil=>exact .inl rfl
   |cons c cs=>
    simp only;have hsub:∀x∈c::cs,cB x=true:=fun x hx=>hp2.2 x (by rw [←hm] at hx;exact (List.mem_filter.1 hx).1)
    have hlen:(c::cs).length≤24:=by rw [←hm];exact Nat.le_trans (List.length_filter_le _ _) hp2.1
    obtain ⟨i1,i2⟩:=Qfz hI hg hf hsub hlen;exact .inl (Qcj i1).2.1
theorem Qm5 (p:List Cl) (vars:Nat) (s:SS) (hI:Inv s) (hev:s.ev.length<12) (hp:pB p=true):(QaI p vars s).2.ev.length≤12:=by
 rcases Qha p vars s hI hp with h|⟨T,l,_,h,_⟩
 ·rw [h];omega
 ·rw [h];simp;omega
theorem Qfp {q:Ts} {vars fuel:Nat} (hq:qB vars q=true) (hf:fuel≤150):Inv (Qa6 q vars fuel)∧mu (Qa6 q vars fuel)≤3750:=by
 simp only [qB,Bool.and_eq_true,decide_eq_true_eq] at hq;have hv:(vars:Int)≤8:=hq.1.1.2;refine ⟨⟨⟨trivial,fun x hx=>(by cases hx),trivial,by unfold mu Qa6;simp only [Qdz];omega,by unfold mu Qa6;simp only [Qdz,List.length_nil];omega⟩,?_,?_⟩,by unfold mu Qa6;simp only [Qdz];omega⟩
 ·exact QnE hv Ya Ya (fun g hg=>(by cases hg)) q hq.2
 ·exact QgB (rest:=[]) trivial q
section
variable {M:List Nat} {w0:World} {H:List (Nat×Obj)} {F0:List (World→Prop)} {b:Nat} {P:List LC} {pA:Option Addr} {pc vars:Nat}
theorem QqM (s:SS) (w:World) (hI:Inv s) (hv8:vars≤8) (hev:s.ev.length<12) (hp:pB (P.map LC.cl)=true) (hs:SSt M w0 H F0 b P pA pc vars s w):
  Calls Tryz.prog 46 #[pt b] w fun e w'=>e= .returned (.int .i64 (QaI (P.map LC.cl) vars s).1)∧SSt M w0 H F0 b P pA pc vars (QaI (P.map LC.cl) vars s).2 w':=by
 have hp2:P.length≤24∧∀x∈P.map LC.cl,cB x=true:=by
  unfold pB at hp;simp only [Bool.and_eq_true,decide_eq_true_eq,List.all_eq_true,List.length_map] at hp;exact hp
 obtain ⟨d,F,hFF,hok,hS⟩:=hs;obtain ⟨G,mb,es,clk,TR,O,gs,cs,CH,O2,evs,EV,O3⟩:=d;have hhg:Qdq gs=s.goals:=hok.hg;dsimp only at hS;refine Qh Tryz.func46 rfl Tryz.ntmps46 rfl ?_
 cases gs with
 |nil=>
  have hg0:s.goals=[]:=hhg.symm
  have e:QaI (P.map LC.cl) vars s=QbC vars s:=by unfold QaI;rw [hg0]
  rw [e];refine ZcJ ?_;refine ZeS ?_;refine ZE ?_;refine ZcQ ?_;refine ZR ?_;refine ZC ?_;refine Calls.mono (Qqb s _ hI.c hv8 hev ⟨_,F,hFF,hok,hS⟩) ?_;rintro _ w9 ⟨rfl,hq⟩;refine Zv ?_;refine ZeT ?_;exact ⟨rfl,hq⟩
 |cons g gs=>
  have hg1:s.goals=(g.t.tm,g.o)::Qdq gs:=hhg.symm;by_cases hf0:s.fuel=0
  ·have e:QaI (P.map LC.cl) vars s=(3,s):=by unfold QaI;rw [hg1];simp only;rw [if_pos hf0]
   rw [e];refine ZcJ ?_;refine ZeS ?_;refine ZE ?_;refine ZcQ ?_;refine Zn ?_;refine ZW ?_;refine ZbB ?_;refine ZE ?_;refine Zen ?_;refine ZeT ?_;exact ⟨rfl,_,F,hFF,hok,hS⟩
  obtain ⟨i1,i2,i3,i4,i5,i6,i7⟩:=Qcn hI hg1 hf0;have hfr:=hI.c.fr;have hbl:=hI.c.bl;unfold mu at hfr hbl;have hrg:Und F (PR (g::gs)):=hok.rg;have hpc:∀{H'} w',St M w0 H' F w'→_:=fun w' hS=>(hS.und hrg).cells
  have hst:QaI (P.map LC.cl) vars s=if Qay g.t.s.toList g.t.ar.ts.length=true then QbI (g.t.tm,g.o) ⟨s.B,s.fresh,s.fuel-1,Qdq gs,s.ch,s.ev⟩ else match (P.map LC.cl).filter (QeI g.t.tm) with
    |[]=>(5,⟨s.B,s.fresh,s.fuel-1,Qdq gs,s.ch,s.ev⟩)
    |c::cs=>Qar ⟨s.B,s.fresh,s.fuel-1,Qdq gs,⟨(g.t.tm,g.o),Qdq gs,c::cs,s.B.length⟩::s.ch,s.ev⟩:=by
   conv=>lhs;unfold QaI
   rw [hg1];simp only;rw [if_neg hf0];rfl
  rw [TA.len_ts] at hst
  have hok2:SOk P pA pc ⟨s.B,s.fresh,s.fuel-1,Qdq gs,s.ch,s.ev⟩ ⟨G,mb,es,clk,TR,O,gs,cs,CH,O2,evs,EV,O3⟩ F:=⟨hok.bm,hok.hB,rfl,hrg.imp fun w h=>h.2.2,hok.hc,hok.rc,hok.row2,hok.he,hok.re,hok.row3,hok.rp⟩
  have hfu:((s.fuel:Nat):Int)-1=((s.fuel-1:Nat):Int):=by omega
  refine ZcJ ?_;refine ZeS ?_;refine Zdw ?_;refine ZcQ ?_;refine Zn ?_;refine ZW ?_;refine ZbB ?_;refine Zdw ?_;refine ZaW ?_;refine ZO ?_;refine ZbB ?_;refine Zdw ?_;refine Zbl ?_;refine ZY ?_;refine ZbB ?_;refine ZA ?_;clear hS;intro wx1 hS;refine Zb ?_;refine ZO ?_;refine ZeS ?_;refine Zib ?_;refine ZH ?_;refine ZY ?_;refine ZbB ?_;refine Zdw ?_;refine ZY ?_;refine ZeS ?_;refine ZA ?_;clear hS;intro wx2 hS;refine Zb ?_;refine Zc6 ?_;refine Zhp ?_;rw [hfu] at hS;refine Zj ?_;refine Calls.mono (Qdr g.t.k g.t.n g.t.s g.t.A g.t.ar.len g.t.c _) ?_;rintro _ w5 ⟨rfl,hb5⟩;refine Za ?_;replace hS:=hS.grow hb5;have hs2:St M w0 ((b,sob mb TR (QdB P pA pc vars s.fresh (s.fuel-1) (Qcu gs) CH EV))::(mb,.map es clk)::(O++(O2++(O3++H)))) F w5:=hS;clear hS;have hS:=hs2;clear hs2
  cases hbt:Qay g.t.s.toList g.t.ar.len with
  |true=>
   rw [if_pos hbt] at hst;rw [hst];refine ZR ?_;refine Zat ?_;refine Calls.mono (Qsf _ g gs _ i1 i2 i6 i5 hbt hrg hFF hok2 hS) ?_;rintro _ w9 ⟨rfl,hq⟩;refine Zv ?_;refine ZeT ?_;exact ⟨rfl,hq⟩
  |false=>
   rw [if_neg (by rw [hbt];decide)] at hst;rw [hst,←Qvl];refine Zn ?_;refine ZH ?_;refine ZaM ?_;refine Zhp ?_;refine Zi ?_;refine Calls.mono (Ql5 P pA pc g.t _ hok.rp hp2.1 hS) ?_;rintro _ w6 ⟨cA,cc,F2,rfl,hF2,hcl,hS'⟩;refine Za ?_;replace hS:=hS';clear hS';have hfl:=List.length_filter_le (Qlf g.t) P;have hsubP:∀x∈P.filter (Qlf g.t),x∈P:=fun x hx=>(List.mem_filter.1 hx).1;generalize P.filter (Qlf g.t)=L at*
   cases L with
   |nil=>
    refine ZZ ?_;refine Zy ?_;refine Zen ?_;refine ZeT ?_;exact ⟨rfl,_,F2,fun φ h=>hF2 φ (hFF φ h),hok2.mono hF2,hS⟩
   |cons c0 cs0=>
    have hok3:=hok2.mono hF2;have hrow2:Row 134 3 CH cs.length (chL cs.reverse) O2:=hok.row2
    have hlc:cs.length=s.ch.length:=by rw [←hok.hc];simp
    have hcl2:=hI.c.ch.len;obtain ⟨A1,c1,hTR⟩:=hok.bm.row.form;dsimp only at hTR;subst hTR
    have hbl2:G.length=s.B.length:=by rw [←hok.hB];exact (QgC G).symm
    have hp3:=Qfz (c:=c0.cl) (cs:=cs0.map LC.cl) hI hg1 hf0 (fun x hx=>by
     have:x∈(c0::cs0).map LC.cl:=hx;obtain ⟨y,hy,rfl⟩:=List.mem_map.1 this
     exact hp2.2 _ (List.mem_map.2 ⟨y,hsubP y hy,rfl⟩)) (by simp at hfl⊢;omega)
    refine ZZ ?_;refine Zy ?_;refine ZaW ?_;refine Zl ?_;refine Qq (St _ w0 [_] []) 18 ((0,true)::(1,true)::(2,true)::(3,true)::(4,true)::(5,true)::(6,true)::(7,true)::(8,true)::(9,true)::(10,true)::(11,true)::(12,true)::(13,true)::(14,false)::(15,false)::(16,true)::(17,true)::[]) Yc Yc (hS.drew.bare1) ?_;replace hS:=hS.drew;refine ZbS ?_;refine Zb9 ?_;refine ZfI ?_;refine Z0 ?_;refine Zas ?_;refine Zcq ?_;refine ZfI ?_;refine Zbc ?_;refine Zhq ?_;refine Zp ?_;refine ZcW ?_;clear hS;intro b1 wx3 hS;refine ZaQ ?_;refine Zp ?_;refine QaN (sz:=3) (bts:=40) hS Yb rfl rfl rfl rfl (hrow2) rfl rfl (.cons _ (Qc2 [_,_] _ _ _)) Ya Ya rfl ?_;clear hS;intro v8 O8 w9 hrow8 hS;obtain ⟨A8,c8,rfl⟩:=hrow8.form;replace hS:=hS.perm (Qc2 [_,_] _ _ _).symm;refine ZaQ ?_;refine Zaa ?_;refine Zb9 ?_;refine Zaz ?_;clear hS;intro wx4 hS;refine Zbu ?_
    have hs3:∀w',St M w0 ((b,sob mb (.slice A1 G.length c1) (QdB P pA pc vars s.fresh (s.fuel-1) (Qcu gs) (.slice A8 (cs.length+1) c8) EV))::(mb,.map es clk)::(O++(O8++(O3++H)))) F2 w'→SSt M w0 H F0 b P pA pc vars ⟨s.B,s.fresh,s.fuel-1,Qdq gs,⟨(g.t.tm,g.o),Qdq gs,(c0::cs0).map LC.cl,s.B.length⟩::s.ch,s.ev⟩ w':=fun w' hS=>by
     refine ⟨⟨G,mb,es,clk,.slice A1 G.length c1,O,gs,⟨g,gs,cA,cc,c0::cs0,G.length⟩::cs,.slice A8 (cs.length+1) c8,O8,evs,EV,O3⟩,F2,fun φ h=>hF2 φ (hFF φ h),?_,hS⟩;refine ⟨hok3.bm,hok3.hB,hok3.hg,hok3.rg,?_,?_,?_,hok3.he,hok3.re,hok3.row3,hok3.rp⟩
     ·show LCh.ch ⟨g,gs,cA,cc,c0::cs0,G.length⟩::cs.map LCh.ch=_;rw [show cs.map LCh.ch=s.ch from hok.hc,←hbl2];rfl
     ·intro c hc;rcases List.mem_cons.1 hc with rfl|hc
      ·exact fun w hw=>⟨hrg.mono hF2 w hw,hcl w hw⟩
      ·exact hok3.rc c hc
     ·show Row _ _ _ (cs.length+1) (chL (LCh.mk g gs cA cc (c0::cs0) G.length::cs).reverse) _;rw [List.reverse_cons,QiK];exact hrow8
    refine Zj ?_;refine Calls.mono (QdU _ _ hp3.1 (hs3 _ hS)) ?_;rintro _ w10 ⟨rfl,hq⟩;refine Zv ?_;refine ZeT ?_;exact ⟨rfl,hq⟩
end
end Go.Proofs.YthliapbflkfdiacGreatDoor
