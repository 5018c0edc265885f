/- ELaw1, ELaw2, Open, OpenC, ERow, ERowW: texts that follow one another, laid into one file. -/
import Derived.Test.YthliapbflkfdiacGreatDoorZ0
import Derived.Test.YthliapbflkfdiacGreatDoorG34
import Derived.Test.YthliapbflkfdiacGreatDoorG18
import Derived.Test.YthliapbflkfdiacGreatDoorG30
import Derived.Test.YthliapbflkfdiacGreatDoorG1
import Derived.Test.YthliapbflkfdiacGreatDoorRows
import Derived.Deep.Slices
import Derived.Deep.Fields
import Derived.JoinedCond
import Derived.OpenShut
import Derived.Test.YthliapbflkfdiacGreatDoorG4
import Derived.Test.YthliapbflkfdiacGreatDoorG6
import Derived.Test.YthliapbflkfdiacGreatDoorG14
import Derived.Test.YthliapbflkfdiacGreatDoorCards
import Derived.Test.YthliapbflkfdiacGreatDoorTie
import Derived.Deep.DeepHandedRow
import Derived.Lib.LaidTab
import Derived.LaidSub
import Derived.Stop.LaidErr
namespace Go.Proofs.YthliapbflkfdiacGreatDoor
open Go.RowKit Go.Shelf
set_option linter.unusedVariables false
set_option linter.unusedSimpArgs false
set_option maxRecDepth 100000
set_option maxHeartbeats 1000000
abbrev QiT (l:List Str) (A:Option Addr) (c:Nat) (w:World):Prop:=QD 1 (l.map sv) A l.length c w
theorem QiT.at_ {D R:List Str} {x:Str} {b o c:Nat} {w:World} (h:QiT (D++x::R) (some ⟨b,o,none⟩) c w):w.cell? ⟨b,o+((D.length:Nat):Int).toNat*1,none⟩=some (sv x):=by
 have:=h.get (j:=D.length) (v:=sv x) Yd
 rwa [show ((D.length:Nat):Int).toNat*1=D.length by omega]
theorem QvS (p q:Str) (fuel every:Int) {w0 w:World} {F:List (World→Prop)} (hG:∀w',Ext [] w0 w'→QcF w') (hW:∀w',Ext [] w0 w'→QeS w') (hp:p.length≤1125899906842624) (hq:q.length≤1125899906842624) (hev:every≤9223372036854775807) (hS:St [] w0 [] F w):
  Calls Tryz.prog 21 #[sv p,sv q,.int .i64 fuel,.int .i64 every] w fun e w'=>∃(A:Option Addr) (c:Nat),e= .returned (.tuple #[.slice A (Qlg p q fuel every).1.length c,.int .i64 (Qlg p q fuel every).2])∧St [] w0 [] (QiT (Qlg p q fuel every).1 A c::F) w':=by
 refine (Qst p q fuel every w (fun w' h=>hG w' (hS.ext.trans h)) (fun w' h=>hW w' (hS.ext.trans h)) hp hq hev).mono ?_;rintro e w' ⟨A,c,he,hf,hb⟩;exact ⟨A,c,he,(hS.grow hb).learn fun w2 hx=>QD.ext hf hx⟩
theorem Qsr {p q:Str} {fuel every:Int} {r:List Str×Int} (hr:Qlg p q fuel every=r) {w0 w:World} {F:List (World→Prop)} (hG:∀w',Ext [] w0 w'→QcF w') (hW:∀w',Ext [] w0 w'→QeS w') (hp:p.length≤1125899906842624) (hq:q.length≤1125899906842624) (hev:every≤9223372036854775807) (hS:St [] w0 [] F w):
  Calls Tryz.prog 21 #[sv p,sv q,.int .i64 fuel,.int .i64 every] w fun e w'=>∃(A:Option Addr) (c:Nat),e= .returned (.tuple #[.slice A r.1.length c,.int .i64 r.2])∧St [] w0 [] (QiT r.1 A c::F) w':=by
 subst hr;exact QvS p q fuel every hG hW hp hq hev hS
theorem Qt6 {p q:Str} {fuel every:Int} (h1:(Qy QP p).2=0) (h2:(QI QP q).2.2=0) (h3:0≤every):
  Qlg p q fuel every=((QeJ (Qy QP p).1 (QI QP q).1 ((QI QP q).2.1:Nat) fuel).1.map QkF,(QeJ (Qy QP p).1 (QI QP q).1 ((QI QP q).2.1:Nat) fuel).2):=by
 unfold Qlg;rw [if_neg (fun h=>h h1),if_neg (fun h=>h h2),if_neg Ya];by_cases h4:(QeJ (Qy QP p).1 (QI QP q).1 ((QI QP q).2.1:Nat) fuel).2=0
 ·rw [if_neg (fun h=>h h4),h4]
 ·rw [if_pos h4,QnM h4];rfl
theorem Qlt (p q:Str) (fuel every:Int) (w:World) (hG:∀w',Ext [] w w'→QcF w') (hW:∀w',Ext [] w w'→QeS w') (hp:p.length≤1125899906842624) (hq:q.length≤1125899906842624) (hev:every≤9223372036854775807):
  Calls Tryz.prog 6 #[sv p,sv q,.int .i64 fuel,.int .i64 every] w fun e w'=>e= .returned (.bool true)∧Below w.heap.size w w':=by
 have hS:=St.start w
 obtain ⟨m,hm⟩:∃m,m=if 0<every then every else 0:=⟨_,rfl⟩
 have hm0:0≤m∧m≤9223372036854775807:=by rw [hm];split<;>omega
 have hpn:=QfA QP p;have hpl:=Qic QP p;have hqn:=QgR q;refine Qbj Tryz.func6 rfl Tryz.ntmps6 rfl ?_;refine Zc9 ?_;refine Calls.mono (QlO QP QcF Qwe Qwd Qwc p _ hG hp hS) ?_;rintro _ w3 ⟨v1,rfl,hS'⟩;refine Za ?_;replace hS:=hS';clear hS';obtain ⟨pA,pc,X,rfl,hX,hXr⟩:=(hS.fact (.head _)).locate;replace hS:=hS.unlearn.learn (φ:=QgE X pA pc) fun w2 hx=>hXr w2 fun k _ hk=>hx.block k hk Yd;clear hXr;refine Zcb ?_;refine Zo ?_;refine ZC ?_;refine Calls.mono (Qq0 QP QcF Qwe Qwd Qwc q _ hG hq hS) ?_;rintro _ w4 ⟨v2,rfl,hS'⟩;refine Za ?_;replace hS:=hS';clear hS';obtain ⟨qA,qc,Y,rfl,hY,hYr⟩:=(hS.fact (.head _)).locate;replace hS:=hS.unlearn.learn (φ:=ArA qA qc Y) fun w2 hx=>hYr w2 fun k _ hk=>hx.block k hk Yd;clear hYr;have hal:=fun {F:List (World→Prop)} (w':World) (hS:St [] w [] F w')=>Qqc w' (fun w' h=>hG w' (hS.ext.trans h)) (fun w' h=>hW w' (hS.ext.trans h));refine Zae ?_;refine Za6 ?_;refine ZH ?_;refine ZS ?_;refine Qa (Qkq rfl rfl Ye) rfl ?_;by_cases h1:(Qy QP p).2=0
 case neg=>
  have e:Qlg p q fuel m=([],(Qy QP p).2):=by unfold Qlg;rw [if_pos h1]
  refine ZbD ?_;refine Calls.mono (Qsr e hG hW hp hq hm0.2 hS) ?_;rintro _ w5 ⟨A1,c1,rfl,hS'⟩;refine Za ?_;replace hS:=hS';clear hS';refine Zal ?_;refine Zt ?_;refine Za0 ?_;refine ZaI ?_;refine ZH ?_;refine Zq ?_;refine ZbP ?_;refine ZbF ?_;refine ZbF ?_;refine ZbF ?_;refine ZbQ ?_;refine ZI ?_;refine Zcy ?_;refine Zq ?_;refine Zcc ?_;refine ZgN ?_;refine Calls.mono (hal _ hS) ?_;rintro _ w6 ⟨rfl,hb6⟩;refine Za ?_;replace hS:=hS.grow hb6;refine Z3 ?_;refine Qd Tryz.func6 rfl Yb ?_;exact ⟨rfl,hS.ext.below⟩
 by_cases h2:(QI QP q).2.2=0
 case neg=>
  have e:Qlg p q fuel m=([],(QI QP q).2.2):=by unfold Qlg;rw [if_neg (fun h=>h h1),if_pos h2]
  refine ZbD ?_;refine Calls.mono (Qsr e hG hW hp hq hm0.2 hS) ?_;rintro _ w5 ⟨A1,c1,rfl,hS'⟩;refine Za ?_;replace hS:=hS';clear hS';refine Zal ?_;refine Zt ?_;refine ZI ?_;refine Zt ?_;refine ZaI ?_;refine ZH ?_;refine Zq ?_;refine ZI ?_;refine Zq ?_;refine Zx ?_;refine ZI ?_;refine ZD ?_;refine Zq ?_;refine Zx ?_;refine Zr ?_;refine Zr ?_;refine ZI ?_;refine Zcy ?_;refine Zq ?_;refine Zcc ?_;refine ZgN ?_;refine Calls.mono (hal _ hS) ?_;rintro _ w6 ⟨rfl,hb6⟩;refine Za ?_;replace hS:=hS.grow hb6;refine Z3 ?_;refine Qd Tryz.func6 rfl Yb ?_;exact ⟨rfl,hS.ext.below⟩
 obtain ⟨_,hpbr⟩:=QjH h1;obtain ⟨_,hqbr,_⟩:=Qok h2;have hask:=Qt6 (fuel:=fuel) h1 h2 hm0.1;have hevs:=Qkd (vars:=((QI QP q).2.1:Nat)) (fuel:=fuel) hpbr hqbr;have hfew:=Qss (P:=(Qy QP p).1) (q:=(QI QP q).1) (vars:=((QI QP q).2.1:Nat)) (fuel:=fuel);generalize (QI QP q).2.1=vn at*;rw [←hX,←hY] at hask hevs hfew;rw [←hX] at hpn hpl;rw [←hY] at hqn
 have hall:=fun {F:List (World→Prop)} (w':World) (hF:∀φ∈[ArA qA qc Y,QgE X pA pc],φ∈F) (hS:St [] w [] F w')=>Qt9 X pA pc Y qA qc (vn:Nat) fuel w' (Und.head.tail.mono hF) (Und.head.mono hF) (by simp at hpl;omega) (fun c hc=>by
  obtain ⟨a1,a2⟩:=QaZ c.hd (by have:=(hpn c hc).1;omega);obtain ⟨b1,b2⟩:=QaZ c.bd (by have:=(hpn c hc).2;omega)
  exact ⟨a1,a2,b1,b2⟩) (by rw [←TA.len_ts];exact (QaZ _ Ya).1) (QaZ _ Ya).2 hS
 generalize QeJ (X.map LC.cl) Y.ts (vn:Nat) fuel=r at*;refine ZbD ?_;refine Calls.mono (Qsr hask hG hW hp hq hm0.2 hS) ?_;rintro _ w5 ⟨A1,c1,rfl,hS'⟩;refine Za ?_;replace hS:=hS';clear hS';have hfact:Und [QiT (r.1.map QkF) A1 c1,ArA qA qc Y,QgE X pA pc] (QiT (r.1.map QkF) A1 c1):=Und.head;refine Zal ?_;refine Zt ?_;refine ZI ?_;refine Zch ?_;refine ZH ?_;refine ZS ?_;refine ZbD ?_;refine Calls.mono (hall _ (fun φ h=> .tail _ h) hS) ?_;rintro _ w6 ⟨A2,c2,L,F2,rfl,hL,hF2,hK,hS'⟩;refine Za ?_;replace hS:=hS';clear hS';have hl1:=hfact.mono hF2
 have hmap:r.1.map QkF=L.map fun x=>Qbs x.k x.T.ts:=by rw [←hL,List.map_map];rfl
 have hLl:L.length≤13:=by have:=congrArg List.length hL;rw [List.length_map] at this;omega
 have hx:∀x∈L,x.T.ts.nodes≤200∧rng x.T.ts∧(Qbs x.k x.T.ts).length≤1000000:=fun x hx=>by
  have:=hevs x.ev (by rw [←hL];exact List.mem_map.2 ⟨x,hx,rfl⟩);exact ⟨this.1,this.2.1,this.2.2.2⟩
 rw [hmap] at hl1⊢;have hll:(L.map fun x=>Qbs x.k x.T.ts).length=L.length:=by simp
 dsimp only;refine Zal ?_;refine Ze ?_;refine Zt ?_;refine ZI ?_;refine Zcy ?_;refine ZD ?_;refine Zcy ?_;refine Zt ?_;refine Zcc ?_;refine ZgN ?_;refine Calls.mono (hal _ hS) ?_;rintro _ w7 ⟨rfl,hb7⟩;refine Za ?_;replace hS:=hS.grow hb7;refine Zfc ?_;refine Zu ?_;refine ZQ ?_;refine Qn 89 (90::91::18::92::93::94::95::96::97::98::99::100::101::8::102::[]) (fun (R:List KE) v w'=>∃D,L=D++R∧v= .int .i64 (D.length:Nat)∧St [] w [] F2 w') (fun R=>R.length) (L) ?_ Yb ?_
 ·exact ⟨[],rfl,rfl,hS⟩
 clear hS;rintro R _ w8 jv ⟨D,hD,rfl,hS⟩ ih
 have hlD:L.length=D.length+R.length:=by rw [hD];simp
 cases R with
 |nil=>
  simp only [List.length_nil] at hlD;refine Zcd ?_;refine Qd Tryz.func6 rfl Yb ?_;exact ⟨rfl,hS.ext.below⟩
 |cons x R=>
  simp only [List.length_cons] at hlD;obtain ⟨hx1,hx2,hx3⟩:=hx x (by rw [hD];simp)
  have hKD:Und F2 (KER (D++x::R) A2 c2):=by rw [←hD];exact hK
  obtain ⟨b6,o6,rfl⟩:=(hS.und hKD).some_ Yh;have hAr:Und F2 (ArA x.A x.c x.T):=hKD.imp fun w h=>h.2.2 x Yd
  have hlD2:Und F2 (QiT ((D.map fun x=>Qbs x.k x.T.ts)++Qbs x.k x.T.ts::R.map fun x=>Qbs x.k x.T.ts) A1 c1):=by rw [hD] at hl1;simpa using hl1
  obtain ⟨b7,o7,rfl⟩:=(hS.und hlD2).some_ Yh
  have hq0:∀w',St [] w [] F2 w'→w'.cell? ⟨b7,o7+((D.length:Nat):Int).toNat*1,none⟩=some (sv (Qbs x.k x.T.ts)):=fun w' hS=>by
   have:=(hS.und hlD2).at_
   rwa [List.length_map] at this
  have hq1:∀w',St [] w [] F2 w'→_:=fun w' hS=>(hS.und hKD).cells;have e0:(⟨(Qbs x.k x.T.ts).toArray⟩:ByteArray)=⟨(Qbs x.k x.T.ts).toArray⟩:=rfl;refine ZbK ?_;refine ZV ?_;refine Qq (St _ _ _ _) 10 ((0,true)::(1,true)::(2,true)::(3,true)::(4,true)::(5,true)::(6,true)::(7,true)::(8,false)::(9,true)::[]) Yc Yc (hS.drew) ?_;replace hS:=hS.drew;refine Z0 ?_;refine Ze1 ?_
  first
   |refine Qc rfl (fun _ hS=>Qe hS rfl rfl (by first|exact .head|exact .tail .head|exact .tail (.tail .head)|exact .tail (.tail (.tail .head))|exact .tail (.tail (.tail (.tail .head)))|exact .tail (.tail (.tail (.tail (.tail .head))))) Yg) rfl ?_
   |refine Qc rfl (fun _ hS=>Qj rfl rfl (by first|assumption|exact hq0 _ hS|exact (hq1 _ hS).1|exact (hq1 _ hS).2|exact hS.cell0 Ye|exact Qu hS|exact Qv hS)) rfl ?_
  refine Z0 ?_;refine Qc rfl (fun _ hS=>QU (sz:=2) rfl rfl rfl rfl Ya Ya) rfl ?_
  first
   |refine Qc rfl (fun _ hS=>Qb (k:=2) hS rfl rfl rfl (by first|exact .head|exact .tail .head|exact .tail (.tail .head)|exact .tail (.tail (.tail .head))|exact .tail (.tail (.tail (.tail .head)))|exact .tail (.tail (.tail (.tail (.tail .head))))) Yg) rfl ?_
   |refine Qc rfl (fun _ hS=>Qb (k:=2) hS rfl rfl rfl (by first|exact .head|exact .tail .head|exact .tail (.tail .head)|exact .tail (.tail (.tail .head))|exact .tail (.tail (.tail (.tail .head)))|exact .tail (.tail (.tail (.tail (.tail .head))))) Ye) rfl ?_
   |refine Qc rfl (fun _ hS=>QaO rfl rfl rfl (by first|assumption|exact hq0 _ hS|exact (hq1 _ hS).1|exact (hq1 _ hS).2|exact hS.cell0 Ye) (by first|assumption|exact hq0 _ hS|exact (hq1 _ hS).1|exact (hq1 _ hS).2|exact hS.cell0 Ye)) rfl ?_
  refine Zp ?_;refine Zj ?_;refine Zh1 ?_;rintro _ w9 ⟨rfl,hb9⟩;refine Za ?_;replace hS:=hS.grow hb9;refine ZaG ?_
  first
   |refine Qc rfl (fun _ hS=>Qjz rfl rfl Ye) rfl ?_
   |refine Qc rfl (fun _ hS=>QjA rfl rfl Ye) rfl ?_
   |refine Qc rfl (fun _ hS=>QhX rfl rfl) rfl ?_
   |refine Qc rfl (fun _ hS=>rfl) rfl ?_
  refine ZF ?_;refine ZcN ?_;refine ih (R) _ _ _ ?_ ?_ Yb Yc
  ·simp
  ·exact ⟨D++[x],by rw [hD];simp,by simp,hS⟩
open Go.ChangeShapes Go.WideShapes Go.ChangeAt
theorem Tryz.laidOut:laidOutB Tryz.prog=true:=by kernel_rfl
theorem Tryz.own:ownKnob Tryz.prog.godebug=none:=by kernel_rfl
section
variable {H:Type} {enc:TypeId×Value→H} {w:World} {base:Nat} {spare:Nat→Bool} {held:Bool}
end
theorem Qfk {H:Type} {enc:TypeId×Value→H} {P:Program} (hl:laidOutB P=true) {W W':World} (hb:Below W.heap.size W W'):∀{ts:List TypeId} {vs:List Value} {ds:List (DataW H)} {ps:List MemPlace},(∀t∈ts,P.readableRec t=true∧t<P.types.size)→
  DataW.TrodAll enc P W 0 (fun _=>true) true ts vs ds ps→(∀x∈ps,x.block<W.heap.size)→DataW.TrodAll enc P W' 0 (fun b=>decide (b<W.heap.size)) true ts vs ds ps
 |[],[],[],_,_,h,_=>h
 |[],[],_::_,_,_,h,_=>h.elim
 |[],_::_,_,_,_,h,_=>h.elim
 |_::_,[],_,_,_,h,_=>h.elim
 |_::_,_::_,[],_,_,h,_=>h.elim
 |t::ts,v::vs,d::ds,ps,ht,⟨p,q,h1,h2,e⟩,hlt=>by
  subst e;obtain ⟨a,b⟩:=ht t (List.mem_cons_self ..);exact ⟨p,q,Below.trod hl a b h1 hb fun x hx=>hlt x (List.mem_append_left _ hx),Qfk hl hb (fun t ht'=>ht t (List.mem_cons_of_mem _ ht')) h2 fun x hx=>hlt x (List.mem_append_right _ hx),rfl⟩
theorem QtK {H:Type} {enc:TypeId×Value→H} {P:Program} {f:Func} {s:ChangeSpec} {W W':World} {args:Array Value} {ds gs:List (DataW H)} {before:List MemPlace} (hl:laidOutB P=true) {bt:TypeId}
  (hres:f.resultTypes= #[bt]) (hbt:P.underlying bt=some .bool) (ht:(f.params.toList.all fun t=>P.readableRec t&&decide (t<P.types.size))=true) (hvars:s.vars=[])
  (hfn:(s.fn H (ds++gs)).results=[.lit (.bool true)]∧(s.fn H (ds++gs)).args=ds∧(s.fn H (ds++gs)).vars=[])
  (hW:DataW.Whole enc P f.params.toList s.vars false W args.toList ds gs before) (hb:Below W.heap.size W W'):
  s.post enc P f false true false false W args (.bool true) W':=by
 have hlt:=hW.lt;have hW':=hW;obtain ⟨p,q,hA,hV,rfl,hfz,hnd⟩:=hW;refine ⟨ds,gs,p++q,[],p,[],hW',?_,?_,?_,?_,fun h=>by cases h⟩
 ·rw [hfn.1,hres];exact trodAll_cons_mk (shut_bool hbt _) trodAll_mk0
 ·rw [hfn.2.1];exact Qfk hl hb (fun t h=>by have:=List.all_eq_true.1 ht t h;simpa using this) hA fun x hx=>hlt x (List.mem_append_left _ hx)
 ·rw [hfn.2.2,hvars];rfl
 ·exact hb.frame _
section
variable {H:Type} {enc:TypeId×Value→H} {w:World} {base:Nat} {spare:Nat→Bool} {held:Bool}
end
theorem QhC {P:Program} {W W':World} {n:String} {cs:Array Value} (h:W.var? P n=some cs) (hb:Below W.heap.size W W'):W'.var? P n=some cs:=by
 unfold World.var? at h⊢
 cases hg:P.globalNamed n with
 |none=>simp [hg] at h
 |some g=>
  simp only [hg,Option.bind_some] at h⊢
  have hlt:g<W.heap.size:=by
   rcases Nat.lt_or_ge g W.heap.size with h'|h'
   ·exact h'
   ·simp [Array.getElem?_eq_none h'] at h
  rw [hb.block g hlt];exact h
theorem QcF.below {W W':World} (g:QcF W) (hb:Below W.heap.size W W'):QcF W':=by
 obtain ⟨⟨t1,p1,h1⟩,⟨t2,p2,h2⟩,h3⟩:=g;exact ⟨⟨t1,p1,QhC h1 hb⟩,⟨t2,p2,QhC h2 hb⟩,QhC h3 hb⟩
theorem QoM: "*" ++ "errors.errorString" = "*errors.errorString" :=by kernel_rfl
theorem Qr1:∀u,Tryz.prog.typeName? 3 u=some "*errors.errorString" →u=301:=
 fun u h=>typeName_ptr_named (nm:= "errors.errorString") (by rw [QoM];kernel_rfl) Yc Yf u (by rw [QoM];exact h)
theorem QrV {W:World} (h:laidMetH Tryz.prog Rows.topTermsRow.laid W):QcF W:=by
 have h0:=(laidMetH_iff.1 h).1;have e:(Rows.topTermsRow.laid.filter fun x=>x.2.handleName?.isNone)=Rows.topTermsRow.laid:=by kernel_rfl
 rw [e] at h0;have h3:laidMet Tryz.prog (("internal/strconv.uint64pow10",Lib.tabData .u64 Lib.pow10Tab)::_) W:=laidMet.tail (laidMet.tail h0);have h5:=laidMet.tail (laidMet.tail h3);have h6:=laidMet.tail h5;refine ⟨?_,?_,Lib.tabIs_of_head (g:=2) (t:=273) (e:=257) (n:=20) Yc Yc Yc Yc Yc Yc h3⟩
 ·obtain ⟨a,s,hv,_⟩:=laid_sentinel (g:=5) (ti:=120) (tp:=301) (te:=303) (ts:=9) h6 Yc Yc Tryz.underlying120 Qr1 Yc Tryz.underlying303 rfl rfl Yc Yc Yc;exact ⟨_,_,hv⟩
 ·obtain ⟨a,s,hv,_⟩:=laid_sentinel (g:=6) (ti:=120) (tp:=301) (te:=303) (ts:=9) h5 Yc Yc Tryz.underlying120 Qr1 Yc Tryz.underlying303 rfl rfl Yc Yc Yc;exact ⟨_,_,hv⟩
theorem Qk0 {H:Type} {enc:TypeId×Value→H} {P:Program} {w:World} {base:Nat} {sp:Nat→Bool} {held:Bool} {fuel:Nat} {t e:TypeId} {n:Nat} {cs:List Value} {ss:List (List UInt8)} {p:List MemPlace}
  (ht:P.underlying t=some (.array n e)) (he:P.underlying e=some .string) (hce:P.cellsOf e=1) (hct:P.cellsOf t=n)
  (h:DataW.trod enc P w base sp held fuel t cs=some (.agg (ss.map fun s=>(DataW.lit (.string s):DataW H)),p)):cs=ss.map fun s=>Value.string ⟨s.toArray⟩:=by
 cases fuel with
 |zero=>simp [DataW.trod] at h
 |succ fuel=>
  simp only [DataW.trod,ht,hce,hct,Nat.mul_one] at h;split at h
  ·rename_i hl;obtain ⟨xs,hm,hx⟩:=Option.map_eq_some_iff.1 h
   have hxs:xs.map (·.1)=ss.map fun s=>(DataW.lit (.string s):DataW H):=by
    have:=congrArg Prod.fst hx;simpa using this
   have hxl:xs.length=n:=by simpa using Lib.mapM_length hm
   have hzl:ss.length=n:=by
    have:=congrArg List.length hxs;simp at this;omega
   apply List.ext_getElem?;intro i;by_cases hi:i<n
   ·obtain ⟨b,hb,hf⟩:=Lib.mapM_at hm i i (by simp [hi]);obtain ⟨z,hc,hbz,_⟩:=DataW.trod_string he hf;subst hbz
    have h1:cs[i]?=some (.string z):=by
     have:=congrArg (·[0]?) hc;simpa [List.getElem?_take,List.getElem?_drop] using this
    have h2:(xs.map (·.1))[i]?=some (DataW.lit (.string z.data.toList):DataW H):=by simp [hb]
    rw [hxs] at h2;simp only [List.getElem?_map,Option.map_eq_some_iff,DataW.lit.injEq,Lit.string.injEq] at h2;obtain ⟨z',hz',e2⟩:=h2;subst e2;simp [h1,hz']
   ·rw [List.getElem?_eq_none Ya,List.getElem?_eq_none Yh]
  ·cases h
def QvI:List (List UInt8):=[[],[121,101,115],[100,111,110,101],[102,117,101,108],[108,97,114,103,101],[102,97,117,108,116],[101,110,111,117,103,104]]
theorem QeS.below {W W':World} (g:QeS W) (hb:Below W.heap.size W W'):QeS W':=fun i hi=>by
 have h:=g i hi;rw [hb.cell (Qsd h)];exact h
theorem QpP {W:World} (h:laidMetH Tryz.prog Rows.topTermsRow.laid W):QeS W:=by
 have h0:=(laidMetH_iff.1 h).1;have e:(Rows.topTermsRow.laid.filter fun x=>x.2.handleName?.isNone)=Rows.topTermsRow.laid:=by kernel_rfl
 rw [e] at h0;have h6:=laidMet.tail (laidMet.tail (laidMet.tail (laidMet.tail (laidMet.tail (laidMet.tail h0)))));obtain ⟨ps,⟨g',t',cs,fuel,p,q,hg',ht',hvar,hd,_,_⟩,_⟩:=h6;have hg:Tryz.prog.globalNamed "querist/engine.words" =some 0:=by kernel_rfl
 have hty:(Tryz.prog.globals[0]?).map (·.type)=some 69:=by kernel_rfl
 obtain rfl:=Option.some.inj (hg.symm.trans hg');obtain rfl:=Option.some.inj (hty.symm.trans ht');have hc:=Qk0 (n:=7) (e:=9) (ss:=QvI) Yc Tryz.underlying9 Yc Yc hd;intro i hi;have:=World.var?_cell hg' hvar i;rw [this];rw [←Array.getElem?_toList,hc]
 match i,hi with
 |0,_=>rfl
 |1,_=>rfl
 |2,_=>rfl
 |3,_=>rfl
 |4,_=>rfl
 |5,_=>rfl
 |6,_=>rfl
theorem QlU {H:Type} {enc:TypeId×Value→H} {W:World} {base0:Nat} {v:Value} {d:DataW H} {p:List MemPlace} (hv:Value.okWide Tryz.prog W .any base0 9 v) (h:DataW.Trod enc Tryz.prog W 0 (fun _=>true) true 9 v d p):
  ∃l:Str,v=sv l∧d= .lit (.string l):=by
 obtain ⟨s,rfl⟩:=okWide_string Tryz.underlying9 hv;obtain ⟨fuel,hf⟩:=h;obtain ⟨s',hc,hx,_⟩:=DataW.trod_string Tryz.underlying9 hf;have hs:s=s':=by simpa [Value.cells] using hc
 subst hs;simp only [Prod.mk.injEq] at hx;obtain ⟨rfl,_⟩:=hx;exact ⟨s.data.toList,by cases s;simp [sv],rfl⟩
theorem QlV {H:Type} {enc:TypeId×Value→H} {W:World} {base0:Nat} {v:Value} {d:DataW H} {p:List MemPlace} (hv:Value.okWide Tryz.prog W .any base0 3 v) (h:DataW.Trod enc Tryz.prog W 0 (fun _=>true) true 3 v d p):
  ∃n:Int,v= .int .i64 n∧d= .lit (.int .i64 n)∧p=[]∧(-9223372036854775808≤n∧n≤9223372036854775807):=by
 obtain ⟨a,rfl,rfl,h3,h4⟩:=open_int Tryz.underlying3 hv h;refine ⟨a,rfl,rfl,h3,?_⟩;simp [Lit.wf,IntKind.min,IntKind.max,IntKind.bits,IntKind.signed] at h4;omega
def Qbl (cs:Array Value):Obj→Obj
 | .cells _ t frozen=> .cells cs t frozen
 |o=>o
def Qse:DataW Unit→Value
 | .lit (.int k z)=> .int k z
 | .lit (.string s)=> .string ⟨s.toArray⟩
 |_=> .pointer none
def Qta:DataW Unit→Array Value
 | .agg ds=>(ds.map Qse).toArray
 |_=> #[]
def Qww:ByteArray:=⟨#[105,110,118,97,108,105,100,32,115,121,110,116,97,120]⟩
def Qwy:ByteArray:=⟨#[118,97,108,117,101,32,111,117,116,32,111,102,32,114,97,110,103,101]⟩
noncomputable def QwB:Nat:=(World.holding Tryz.prog default ⟨#[], #[],[]⟩).heap.size
noncomputable def QtL (h:Array Obj):Array Obj:=
 ((((((((h.modify 3 (Qbl (Go.Pinned.utf8FirstZ.map fun (x:Nat)=>Value.int .u8 (x:Int)).toArray)).modify 4 (Qbl (([128,191,160,191,128,159,144,191,128,143]++List.replicate 22 (0:Int)).map fun x=>Value.int .u8 x).toArray)).modify 2 (Qbl (Qta Rows.laid_internal_strconv_uint64pow10))).modify 5
   (Qbl #[.iface 301 (.pointer (some ⟨QwB,0,none⟩))])).modify 6 (Qbl #[.iface 301 (.pointer (some ⟨QwB+1,0,none⟩))])).modify 7 (Qbl (Qta Rows.laid_math_bits_deBruijn32tab))).modify 8 (Qbl (Qta Rows.laid_math_bits_deBruijn64tab))).modify 0 (Qbl (Qta Rows.laid_querist_engine_words)))
noncomputable def Qnr (os:Os):World:=
 { World.holding Tryz.prog os ⟨#[.cells #[.string Qww] 303,.cells #[.string Qwy] 303], #[],[]⟩ with heap:=QtL (World.holding Tryz.prog os ⟨#[.cells #[.string Qww] 303,.cells #[.string Qwy] 303], #[],[]⟩).heap }
theorem Qtw (os:Os):laidMet Tryz.prog Rows.topTermsRow.laid ((Qnr os).forCall (fun _ _=>0) ⟨#[], #[.string .empty,.string .empty,.int .i64 0,.int .i64 0],[]⟩).memory:=
 laidMet_of_run' 8 Yc Yc
end Go.Proofs.YthliapbflkfdiacGreatDoor
