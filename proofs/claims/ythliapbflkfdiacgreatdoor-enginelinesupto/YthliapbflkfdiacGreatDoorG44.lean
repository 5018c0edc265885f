/- ERef2, Open, OpenC, ERow, ERowW, OpenT: texts that follow one another, laid into one file. -/
import Derived.Test.YthliapbflkfdiacGreatDoorZ0
import Derived.Test.YthliapbflkfdiacGreatDoorG19
import Derived.Test.YthliapbflkfdiacGreatDoorG42
import Derived.Test.YthliapbflkfdiacGreatDoorG18
import Derived.Test.YthliapbflkfdiacGreatDoorG43
import Derived.Test.YthliapbflkfdiacGreatDoorG1
import Derived.Test.YthliapbflkfdiacGreatDoorRows
import Derived.Deep.Slices
import Derived.Deep.Fields
import Derived.JoinedCond
import Derived.OpenShut
import Derived.Test.YthliapbflkfdiacGreatDoorG4
import Derived.Test.YthliapbflkfdiacGreatDoorG21
import Derived.Test.YthliapbflkfdiacGreatDoorCards
import Derived.Test.YthliapbflkfdiacGreatDoorTie
import Derived.Deep.DeepHandedRow
import Derived.Lib.LaidTab
import Derived.LaidSub
import Derived.Stop.LaidErr
namespace Go.Proofs.YthliapbflkfdiacGreatDoor
open Go.RowKit Go.Shelf
set_option linter.unusedVariables false
set_option linter.unusedSimpArgs false
set_option maxRecDepth 100000
set_option maxHeartbeats 1000000
theorem Qh4 (k:Int) (T:Ts) (v:Value) (w:World) (hG:∀w',Ext [] w w'→Qdo w') (hW:∀w',Ext [] w w'→Qgx w') (hv:Sl w (fun _=>True) v T) (hr:rng T) (hN:T.nodes≤1048576) (hl:(QaI k T).length≤1073741824):
  Calls Tryz.prog 4 #[.agg #[.int .i64 k,v]] w fun e w'=>e= .returned (.bool true)∧Below w.heap.size w w':=by
 have hS:=St.start w
 obtain ⟨A,c,rfl,hv⟩:=hv.form
 have hal:=fun {H:List (Nat×Obj)} {F:List (World→Prop)} (w':World) (hS:St [] w H F w')=>QpI w' (fun w' h=>hG w' (hS.ext.trans h)) (fun w' h=>hW w' (hS.ext.trans h))
 have e0:(⟨(QaI k T).toArray⟩:ByteArray)=⟨(QaI k T).toArray⟩:=rfl
 refine Qe Tryz.func4 rfl Tryz.ntmps4 rfl ?_
 refine Zd ?_
 clear hS
 intro b1 wx1 hS
 refine ZG ?_
 refine Qci 3 (4::5::6::7::8::9::[]) (fun y w'=>∃(b3:Nat) (A7:Option Addr) (c7:Nat) (Y7:TA),y= .pointer (some ⟨b3,0,none⟩)∧Y7.ts=T∧St [] w ((b3,.cells [.int .i64 k,.slice A7 Y7.len c7].toArray 34)::(b1,.cells [.int .i64 k,.slice A T.length c].toArray 34)::[]) [ArA A7 c7 Y7] w') ?_ ?_
 ·intro hmeet
  refine QbU (St _ _ [_] []) 7 (.read 0 (.read 1 (.read 2 (.read 3 (.pick 4 (.read 5 (.pick 6 .tail .none)) (.pick 6 (.pick 4 (.read 5 .tail) .none) .none)))))) Yc Yc hS.drew.bare1 ?_
  replace hS:=hS.drew
  refine Zcn ?_
  refine ZdZ ?_
  refine Zew ?_
  refine ZdZ ?_
  refine Qd5 rfl ?_ ?_
  ·refine Zj ?_
   refine Calls.mono (Ql1 T _ _ (hv.below hS.ext.below) hN) ?_
   rintro _ w7 ⟨v7,rfl,hsl7,hb7⟩
   refine Za ?_
   obtain ⟨A7,c7,Y7,rfl,e7,hS'⟩:=hS.located hb7 hsl7
   clear hS
   have hS:=hS'
   clear hS'
   refine ZbT ?_
   refine ZbX ?_
   refine Zba ?_
   clear hS
   intro b2 wx2 hS
   refine ZbT ?_
   refine QaQ ?_
   refine Ze ?_
   clear hS
   intro wx3 hS
   refine Zb ?_
   exact hmeet _ _ _ ⟨_,A7,c7,Y7,rfl,e7,hS⟩ Yb Yc
  refine Zba ?_
  clear hS
  intro b3 wx4 hS
  refine ZbT ?_
  refine Zdo ?_
  refine Calls.mono (Ql1 T _ _ (hv.below hS.ext.below) hN) ?_
  rintro _ w7 ⟨v7,rfl,hsl7,hb7⟩
  refine Za ?_
  obtain ⟨A7,c7,Y7,rfl,e7,hS'⟩:=hS.located hb7 hsl7
  clear hS
  have hS:=hS'
  clear hS'
  refine ZbT ?_
  refine ZbX ?_
  refine QaQ ?_
  refine Ze ?_
  clear hS
  intro wx5 hS
  refine Zb ?_
  exact hmeet _ _ _ ⟨_,A7,c7,Y7,rfl,e7,hS⟩ Yb Yc
 clear hS
 rintro jv _ w3 ⟨b3,A7,c7,Y7,rfl,e7,hS⟩
 have hY:Und [ArA A7 c7 Y7] (ArA A7 c7 Y7):=Und.head
 have hla:∀{H:List (Nat×Obj)} (w':World),St [] w H [ArA A7 c7 Y7] w'→Calls Tryz.prog 18 #[.agg #[.int .i64 k,.slice A7 Y7.len c7]] w' fun e w''=>e= .returned (sv (QaI k T))∧Below w'.heap.size w' w'':=fun w' hS=>by
  have:=Qn6 k Y7.ts _ w' (fun w' h=>hG w' (hS.ext.trans h)) (fun w' h=>hW w' (hS.ext.trans h)) (hS.und hY).sl (by rw [e7];exact hr) (by rw [e7];exact hN) (by rw [e7];exact hl)
  rw [e7] at this
  exact this
 refine Zm ?_
 refine Qw (St _ _ _ _) 9 ((0,true)::(2,true)::(1,false)::(3,false)::(4,true)::(5,true)::(6,false)::(7,true)::(8,true)::[]) Yc Yc (hS.drew) ?_
 replace hS:=hS.drew
 refine ZgC ?_
 refine ZgC ?_
 refine Zt ?_
 refine Zj ?_
 refine Calls.mono (hla _ hS) ?_
 rintro _ w4 ⟨rfl,hb4⟩
 refine Za ?_
 replace hS:=hS.grow hb4
 refine Za2 ?_
 refine Zt ?_
 refine Zj ?_
 refine Calls.mono (Qpi k T _ _ (hv.below hS.ext.below) hr hN hl) ?_
 rintro _ w5 ⟨rfl,hb5⟩
 refine Za ?_
 replace hS:=hS.grow hb5
 refine Za2 ?_
 first
  |refine Qd rfl (fun _ hS=>Qi1 rfl rfl Ye) rfl ?_
  |refine Qd rfl (fun _ hS=>Qi2 rfl rfl Ye) rfl ?_
  |refine Qd rfl (fun _ hS=>Qhy rfl rfl) rfl ?_
  |refine Qd rfl (fun _ hS=>rfl) rfl ?_
 refine ZO ?_
 refine Zt ?_
 refine Zw ?_
 refine QbP (Qd3 Yc Qky) rfl ?_
 refine Calls.mono (hal _ hS) ?_
 rintro _ w6 ⟨rfl,hb6⟩
 refine Za ?_
 replace hS:=hS.grow hb6
 refine Za2 ?_
 refine ZeO ?_
 refine Zc5 ?_
 refine Qc Tryz.func4 rfl Yb ?_
 exact ⟨rfl,hS.ext.below⟩
open Go.ChangeShapes Go.WideShapes Go.ChangeAt
theorem Tryz.laidOut:laidOutB Tryz.prog=true:=by kernel_rfl
theorem Tryz.own:ownKnob Tryz.prog.godebug=none:=by kernel_rfl
theorem QjC:Tryz.prog.cellsOf 63=4:=by kernel_rfl
theorem Ql7:Tryz.prog.cellsOf 3=1:=by kernel_rfl
theorem Ql6:Tryz.prog.cellsOf 9=1:=by kernel_rfl
theorem Qid:Tryz.prog.cellsOf 23=1:=by kernel_rfl
section
variable {H:Type} {enc:TypeId×Value→H} {w:World} {base:Nat} {spare:Nat→Bool} {held:Bool}
theorem Qos (d:DataW H):1≤Rows.uptoBulk d:=by
 cases d with
 |lit l=>cases l<;>simp [Rows.uptoBulk]
 |nil=>simp [Rows.uptoBulk]
 |ptr d=>simp [Rows.uptoBulk]
 |slice elems spare=>simp [Rows.uptoBulk]
 |agg parts=>simp [Rows.uptoBulk]
 |iface t d=>simp [Rows.uptoBulk]
 |map entries=>simp [Rows.uptoBulk]
 |held h=>simp [Rows.uptoBulk]
theorem Qtm {l:List (DataW H)}:∀{i:Nat} {d:DataW H},l[i]?=some d→Rows.uptoBulk d≤Rows.uptoBulkAll l:=by
 induction l with
 |nil=>intro i d h;simp at h
 |cons x r ih=>
  intro i d h
  cases i with
  |zero=>simp at h;subst h;simp [Rows.uptoBulkAll]
  |succ i=>
   have:=ih (i:=i) (d:=d) (by simpa using h)
   simp only [Rows.uptoBulkAll];omega
theorem Qjc {fuel:Nat} {cs:List Value} {x:DataW H×List MemPlace} (h:DataW.trod enc Tryz.prog w base spare held fuel 63 cs=some x):
  ∃(k n:Int) (s:ByteArray) (v:Value) (y:DataW H×List MemPlace) (m:Nat),cs=[.int .i64 k,.int .i64 n,.string s,v]∧DataW.trod enc Tryz.prog w base spare held m 23 [v]=some y∧
   Rows.uptoBulk y.1+1≤Rows.uptoBulk x.1∧(Lit.int .i64 k).wf=true∧(Lit.int .i64 n).wf=true∧s.size≤maxLen∧s.size+Rows.uptoBulk y.1+3≤Rows.uptoBulk x.1:=by
 obtain ⟨xs,m,_,hx,hlen,hxl,hf⟩:=DataW.trod_struct Tryz.underlying63 h
 rw [QjC] at hlen
 have f0:DataW.trod enc Tryz.prog w base spare held m 3 ((cs.drop 0).take (Tryz.prog.cellsOf 3))=xs[0]?:=hf 0 _ rfl
 have f1:DataW.trod enc Tryz.prog w base spare held m 3 ((cs.drop 1).take (Tryz.prog.cellsOf 3))=xs[1]?:=hf 1 _ rfl
 have f2:DataW.trod enc Tryz.prog w base spare held m 9 ((cs.drop 2).take (Tryz.prog.cellsOf 9))=xs[2]?:=hf 2 _ rfl
 have f3:DataW.trod enc Tryz.prog w base spare held m 23 ((cs.drop 3).take (Tryz.prog.cellsOf 23))=xs[3]?:=hf 3 _ rfl
 rw [Ql7] at f0 f1
 rw [Ql6] at f2
 rw [Qid] at f3
 match cs,hlen,xs,hxl,hx with
 |[c0,c1,c2,c3],_,[y0,y1,y2,y3],_,hx=>
  simp only [List.drop_zero,List.drop_succ_cons,List.take_succ_cons,List.take_zero,List.getElem?_cons_zero,List.getElem?_cons_succ] at f0 f1 f2 f3
  obtain ⟨k,e0,r0,w0⟩:=DataW.trod_int Tryz.underlying3 f0
  obtain ⟨n,e1,r1,w1⟩:=DataW.trod_int Tryz.underlying3 f1
  obtain ⟨s,e2,r2,w2⟩:=DataW.trod_string Tryz.underlying9 f2
  simp only [List.cons.injEq,and_true] at e0 e1 e2
  subst e0 e1 e2 hx r0 r1 r2
  have h3:=Qos y3.1
  have hsz:s.data.toList.length=s.size:=by rw [Array.length_toList];rfl
  refine ⟨k,n,s,c3,y3,m,rfl,f3,?_,w0,w1,w2,?_⟩
  ·simp only [List.map_cons,List.map_nil,Rows.uptoBulk,Rows.uptoBulkAll];omega
  ·simp only [List.map_cons,List.map_nil,Rows.uptoBulk,Rows.uptoBulkAll];omega
theorem Qtu {a:Addr} {i:Nat} {u:Value} (h:w.cell? (a.add i)=some u) (ha:a.spot=none):w.cell? ⟨a.block,a.off+i,none⟩=some u:=by
 unfold Addr.add at h
 split at h
 ·rename_i e
  subst e
  obtain ⟨b,o,sp⟩:=a
  simp only at ha
  subst ha
  simpa using h
 ·exact h
end
theorem Qe2 {H:Type} {enc:TypeId×Value→H} {P:Program} (hl:laidOutB P=true) {W W':World} (hb:Below W.heap.size W W'):∀{ts:List TypeId} {vs:List Value} {ds:List (DataW H)} {ps:List MemPlace},(∀t∈ts,P.readableRec t=true∧t<P.types.size)→
  DataW.TrodAll enc P W 0 (fun _=>true) true ts vs ds ps→(∀x∈ps,x.block<W.heap.size)→DataW.TrodAll enc P W' 0 (fun b=>decide (b<W.heap.size)) true ts vs ds ps
 |[],[],[],_,_,h,_=>h
 |[],[],_::_,_,_,h,_=>h.elim
 |[],_::_,_,_,_,h,_=>h.elim
 |_::_,[],_,_,_,h,_=>h.elim
 |_::_,_::_,[],_,_,h,_=>h.elim
 |t::ts,v::vs,d::ds,ps,ht,⟨p,q,h1,h2,e⟩,hlt=>by
  subst e
  obtain ⟨a,b⟩:=ht t (List.mem_cons_self ..)
  exact ⟨p,q,Below.trod hl a b h1 hb fun x hx=>hlt x (List.mem_append_left _ hx),Qe2 hl hb (fun t ht'=>ht t (List.mem_cons_of_mem _ ht')) h2 fun x hx=>hlt x (List.mem_append_right _ hx),rfl⟩
theorem Qs6 {H:Type} {enc:TypeId×Value→H} {P:Program} {f:Func} {s:ChangeSpec} {W W':World} {args:Array Value} {ds gs:List (DataW H)} {before:List MemPlace} (hl:laidOutB P=true) {bt:TypeId}
  (hres:f.resultTypes= #[bt]) (hbt:P.underlying bt=some .bool) (ht:(f.params.toList.all fun t=>P.readableRec t&&decide (t<P.types.size))=true) (hvars:s.vars=[])
  (hfn:(s.fn H (ds++gs)).results=[.lit (.bool true)]∧(s.fn H (ds++gs)).args=ds∧(s.fn H (ds++gs)).vars=[])
  (hW:DataW.Whole enc P f.params.toList s.vars false W args.toList ds gs before) (hb:Below W.heap.size W W'):
  s.post enc P f false true false false W args (.bool true) W':=by
 have hlt:=hW.lt
 have hW':=hW
 obtain ⟨p,q,hA,hV,rfl,hfz,hnd⟩:=hW
 refine ⟨ds,gs,p++q,[],p,[],hW',?_,?_,?_,?_,fun h=>by cases h⟩
 ·rw [hfn.1,hres]
  exact trodAll_cons_mk (shut_bool hbt _) trodAll_mk0
 ·rw [hfn.2.1]
  exact Qe2 hl hb (fun t h=>by have:=List.all_eq_true.1 ht t h;simpa using this) hA fun x hx=>hlt x (List.mem_append_left _ hx)
 ·rw [hfn.2.2,hvars]
  rfl
 ·exact hb.frame _
section
variable {H:Type} {enc:TypeId×Value→H} {w:World} {base:Nat} {spare:Nat→Bool} {held:Bool}
end
theorem Qha {P:Program} {W W':World} {n:String} {cs:Array Value} (h:W.var? P n=some cs) (hb:Below W.heap.size W W'):W'.var? P n=some cs:=by
 unfold World.var? at h⊢
 cases hg:P.globalNamed n with
 |none=>simp [hg] at h
 |some g=>
  simp only [hg,Option.bind_some] at h⊢
  have hlt:g<W.heap.size:=by
   rcases Nat.lt_or_ge g W.heap.size with h'|h'
   ·exact h'
   ·simp [Array.getElem?_eq_none h'] at h
  rw [hb.block g hlt]
  exact h
theorem Qdo.below {W W':World} (g:Qdo W) (hb:Below W.heap.size W W'):Qdo W':=by
 obtain ⟨⟨t1,p1,h1⟩,⟨t2,p2,h2⟩,h3⟩:=g
 exact ⟨⟨t1,p1,Qha h1 hb⟩,⟨t2,p2,Qha h2 hb⟩,Qha h3 hb⟩
theorem Qom: "*" ++ "errors.errorString" = "*errors.errorString" :=by kernel_rfl
theorem Qrw:∀u,Tryz.prog.typeName? 3 u=some "*errors.errorString" →u=301:=
 fun u h=>typeName_ptr_named (nm:= "errors.errorString") (by rw [Qom];kernel_rfl) Yc Yg u (by rw [Qom];exact h)
theorem Qrr {W:World} (h:laidMetH Tryz.prog Rows.topTermsRow.laid W):Qdo W:=by
 have h0:=(laidMetH_iff.1 h).1
 have e:(Rows.topTermsRow.laid.filter fun x=>x.2.handleName?.isNone)=Rows.topTermsRow.laid:=by kernel_rfl
 rw [e] at h0
 have h3:laidMet Tryz.prog (("internal/strconv.uint64pow10",Lib.tabData .u64 Lib.pow10Tab)::_) W:=laidMet.tail (laidMet.tail h0)
 have h5:=laidMet.tail (laidMet.tail h3)
 have h6:=laidMet.tail h5
 refine ⟨?_,?_,Lib.tabIs_of_head (g:=2) (t:=273) (e:=257) (n:=20) Yc Yc Yc Yc Yc Yc h3⟩
 ·obtain ⟨a,s,hv,_⟩:=laid_sentinel (g:=5) (ti:=120) (tp:=301) (te:=303) (ts:=9) h6 Yc Yc Tryz.underlying120 Qrw Yc Tryz.underlying303 rfl rfl Yc Yc Yc
  exact ⟨_,_,hv⟩
 ·obtain ⟨a,s,hv,_⟩:=laid_sentinel (g:=6) (ti:=120) (tp:=301) (te:=303) (ts:=9) h5 Yc Yc Tryz.underlying120 Qrw Yc Tryz.underlying303 rfl rfl Yc Yc Yc
  exact ⟨_,_,hv⟩
theorem Qkr {H:Type} {enc:TypeId×Value→H} {P:Program} {w:World} {base:Nat} {sp:Nat→Bool} {held:Bool} {fuel:Nat} {t e:TypeId} {n:Nat} {cs:List Value} {ss:List (List UInt8)} {p:List MemPlace}
  (ht:P.underlying t=some (.array n e)) (he:P.underlying e=some .string) (hce:P.cellsOf e=1) (hct:P.cellsOf t=n)
  (h:DataW.trod enc P w base sp held fuel t cs=some (.agg (ss.map fun s=>(DataW.lit (.string s):DataW H)),p)):cs=ss.map fun s=>Value.string ⟨s.toArray⟩:=by
 cases fuel with
 |zero=>simp [DataW.trod] at h
 |succ fuel=>
  simp only [DataW.trod,ht,hce,hct,Nat.mul_one] at h
  split at h
  ·rename_i hl
   obtain ⟨xs,hm,hx⟩:=Option.map_eq_some_iff.1 h
   have hxs:xs.map (·.1)=ss.map fun s=>(DataW.lit (.string s):DataW H):=by
    have:=congrArg Prod.fst hx
    simpa using this
   have hxl:xs.length=n:=by simpa using Lib.mapM_length hm
   have hzl:ss.length=n:=by
    have:=congrArg List.length hxs
    simp at this
    omega
   apply List.ext_getElem?
   intro i
   by_cases hi:i<n
   ·obtain ⟨b,hb,hf⟩:=Lib.mapM_at hm i i (by simp [hi])
    obtain ⟨z,hc,hbz,_⟩:=DataW.trod_string he hf
    subst hbz
    have h1:cs[i]?=some (.string z):=by
     have:=congrArg (·[0]?) hc
     simpa [List.getElem?_take,List.getElem?_drop] using this
    have h2:(xs.map (·.1))[i]?=some (DataW.lit (.string z.data.toList):DataW H):=by simp [hb]
    rw [hxs] at h2
    simp only [List.getElem?_map,Option.map_eq_some_iff,DataW.lit.injEq,Lit.string.injEq] at h2
    obtain ⟨z',hz',e2⟩:=h2
    subst e2
    simp [h1,hz']
   ·rw [List.getElem?_eq_none Ya,List.getElem?_eq_none Yh]
  ·cases h
def Qu9:List (List UInt8):=[[],[121,101,115],[100,111,110,101],[102,117,101,108],[108,97,114,103,101],[102,97,117,108,116],[101,110,111,117,103,104]]
theorem Qgx.below {W W':World} (g:Qgx W) (hb:Below W.heap.size W W'):Qgx W':=fun i hi=>by
 have h:=g i hi
 rw [hb.cell (QrG h)];exact h
theorem Qpm {W:World} (h:laidMetH Tryz.prog Rows.topTermsRow.laid W):Qgx W:=by
 have h0:=(laidMetH_iff.1 h).1
 have e:(Rows.topTermsRow.laid.filter fun x=>x.2.handleName?.isNone)=Rows.topTermsRow.laid:=by kernel_rfl
 rw [e] at h0
 have h6:=laidMet.tail (laidMet.tail (laidMet.tail (laidMet.tail (laidMet.tail (laidMet.tail h0)))))
 obtain ⟨ps,⟨g',t',cs,fuel,p,q,hg',ht',hvar,hd,_,_⟩,_⟩:=h6
 have hg:Tryz.prog.globalNamed "querist/engine.words" =some 0:=by kernel_rfl
 have hty:(Tryz.prog.globals[0]?).map (·.type)=some 69:=by kernel_rfl
 obtain rfl:=Option.some.inj (hg.symm.trans hg')
 obtain rfl:=Option.some.inj (hty.symm.trans ht')
 have hc:=Qkr (n:=7) (e:=9) (ss:=Qu9) Yc Tryz.underlying9 Yc Yc hd
 intro i hi
 have:=World.var?_cell hg' hvar i
 rw [this]
 rw [←Array.getElem?_toList,hc]
 match i,hi with
 |0,_=>rfl
 |1,_=>rfl
 |2,_=>rfl
 |3,_=>rfl
 |4,_=>rfl
 |5,_=>rfl
 |6,_=>rfl
def Qbh (cs:Array Value):Obj→Obj
 | .cells _ t frozen=> .cells cs t frozen
 |o=>o
def QrH:DataW Unit→Value
 | .lit (.int k z)=> .int k z
 | .lit (.string s)=> .string ⟨s.toArray⟩
 |_=> .pointer none
def Qsz:DataW Unit→Array Value
 | .agg ds=>(ds.map QrH).toArray
 |_=> #[]
def QvR:ByteArray:=⟨#[105,110,118,97,108,105,100,32,115,121,110,116,97,120]⟩
def QvT:ByteArray:=⟨#[118,97,108,117,101,32,111,117,116,32,111,102,32,114,97,110,103,101]⟩
noncomputable def QvW:Nat:=(World.holding Tryz.prog default ⟨#[], #[],[]⟩).heap.size
noncomputable def Qs7 (h:Array Obj):Array Obj:=
 ((((((((h.modify 3 (Qbh (Go.Pinned.utf8FirstZ.map fun (x:Nat)=>Value.int .u8 (x:Int)).toArray)).modify 4 (Qbh (([128,191,160,191,128,159,144,191,128,143]++List.replicate 22 (0:Int)).map fun x=>Value.int .u8 x).toArray)).modify 2 (Qbh (Qsz Rows.laid_internal_strconv_uint64pow10))).modify 5
   (Qbh #[.iface 301 (.pointer (some ⟨QvW,0,none⟩))])).modify 6 (Qbh #[.iface 301 (.pointer (some ⟨QvW+1,0,none⟩))])).modify 7 (Qbh (Qsz Rows.laid_math_bits_deBruijn32tab))).modify 8 (Qbh (Qsz Rows.laid_math_bits_deBruijn64tab))).modify 0 (Qbh (Qsz Rows.laid_querist_engine_words)))
noncomputable def Qm3 (os:Os):World:=
 { World.holding Tryz.prog os ⟨#[.cells #[.string QvR] 303,.cells #[.string QvT] 303], #[],[]⟩ with heap:=Qs7 (World.holding Tryz.prog os ⟨#[.cells #[.string QvR] 303,.cells #[.string QvT] 303], #[],[]⟩).heap }
theorem QuI {n:Int} (h:(Lit.int .i64 n).wf=true): -9223372036854775808≤n∧n≤9223372036854775807:=by
 simp [Lit.wf,IntKind.min,IntKind.max,IntKind.bits,IntKind.signed] at h
 omega
def tw:Ts→Nat
 | .nil=>0
 | .cons k n s a r=>s.size+24+tw a+tw r
theorem Qri (k n:Int) (s:ByteArray) (hn: -9223372036854775808≤n∧n≤9223372036854775807):(Qah k n s.data.toList).length≤s.size+21:=by
 have h1:=Lib.itoa_length_le n hn.1 hn.2
 have h2:s.data.toList.length=s.size:=by rw [Array.length_toList];rfl
 have h3:(QaG n).length≤2:=by unfold QaG;split<;>simp
 unfold Qah
 split
 ·omega
 ·split
  ·omega
  ·split
   ·omega
   ·simp
theorem Qux (T:Ts):∀c:Bool,rng T→(QcP c T).length≤tw T:=by
 induction T with
 |nil=>intro c _;simp [QcP]
 |cons k n s a r iha ihr=>
  intro c h
  have h1:=Qri k n s h.1
  have h2:=iha false h.2.1
  have h3:=ihr true h.2.2
  simp only [QcP,List.length_append,tw]
  have h4:(if c then [44] else []:Str).length≤1:=by split<;>simp
  have h5:(if QbO k a then 40::(QcP false a++[41]) else []:Str).length≤tw a+2:=by split<;>simp;omega
  omega
section
variable {H:Type} {enc:TypeId×Value→H} {w:World} {base:Nat} {spare:Nat→Bool} {held:Bool}
theorem QmS:∀(b fuel:Nat) (v:Value) (x:DataW H×List MemPlace),Rows.uptoBulk x.1≤b→DataW.trod enc Tryz.prog w base spare held fuel 23 [v]=some x→
  ∃T:Ts,Sl w (fun _=>True) v T∧T.nodes<Rows.uptoBulk x.1∧rng T∧tw T≤24*Rows.uptoBulk x.1:=by
 intro b
 induction b with
 |zero=>intro fuel v x hb _;have:=Qos x.1;omega
 |succ b ih=>
  intro fuel v x hb h
  rcases Deep.open_slice Tryz.underlying23 h with ⟨e,rfl⟩|⟨a,len,cap,m,n,D,Pl,e,_,hl,_,hm,rfl,hi⟩
  ·simp only [List.cons.injEq,and_true] at e
   subst e
   exact ⟨.nil,Sl.nil _ _,by simp [Rows.uptoBulk,Ts.nodes],trivial,by simp [tw]⟩
  ·simp only [List.cons.injEq,and_true] at e
   subst e
   rw [QjC] at hi
   have hml:len≤m:=by rw [hm];split<;>omega
   have hbulk:∀j,j<len→Rows.uptoBulk (D j)≤Rows.uptoBulkAll ((List.range len).map D):=fun j hj=>Qtm (i:=j) (by simp [hj])
   simp only [Rows.uptoBulk] at hb⊢
   have hspot:0<len→a.spot=none:=fun hp=>by
    obtain ⟨cs,hc,ht⟩:=hi 0 Ya
    obtain ⟨k,n',s,v',y,m',rfl,_⟩:=Qjc ht
    obtain ⟨_,_,hat⟩:=World.cells?_some hc
    have h0:=hat 0 Ya
    simp only [Nat.zero_mul,Addr.add,if_true,List.getElem?_cons_zero] at h0
    unfold World.cell? at h0
    split at h0
    ·split at h0
     ·cases h0
     ·rename_i hs;simpa using hs
    ·cases h0
   have key:∀r j,j+r=len→∃T:Ts,T.length=r∧Seg w (fun _=>True) T a.block (a.off+j*4)∧T.nodes≤Rows.uptoBulkAll ((List.range' j r).map D)∧rng T∧tw T≤24*Rows.uptoBulkAll ((List.range' j r).map D):=by
    intro r
    induction r with
    |zero=>intro j _;exact ⟨.nil,rfl,trivial,Nat.zero_le _,trivial,by simp [tw]⟩
    |succ r ihr=>
     intro j hj
     obtain ⟨T,hT1,hT2,hT3,hT4,hT5⟩:=ihr (j+1) Ya
     obtain ⟨cs,hc,ht⟩:=hi j Ya
     obtain ⟨k,n',s,v',y,m',rfl,hy,hyb,_,wn,_,hsb⟩:=Qjc ht
     obtain ⟨_,_,hat⟩:=World.cells?_some hc
     have hbj:=hbulk j Ya
     simp only at hyb hsb
     obtain ⟨U,hU1,hU2,hU3,hU4⟩:=ih m' v' y Ya hy
     have hsp:=hspot Ya
     have hcell:∀q u,q<4→[Value.int .i64 k,.int .i64 n',.string s,v'][q]?=some u→w.cell? ⟨a.block,a.off+j*4+q,none⟩=some u:=fun q u hq hu=>by
      have h1:=(hat q hq).trans hu
      rw [Deep.add_add] at h1
      have h2:=Qtu h1 hsp
      rwa [←Nat.add_assoc] at h2
     refine ⟨.cons k n' s U T,by simp [Ts.length,hT1],?_,?_,⟨QuI wn,hU3,hT4⟩,?_⟩
     ·refine Qaf.2 ⟨trivial,by simpa using hcell 0 _ Ya rfl,hcell 1 _ Ya rfl,hcell 2 _ Ya rfl,⟨v',hcell 3 _ Ya rfl,hU1⟩,?_⟩
      rw [show a.off+j*4+4=a.off+(j+1)*4 by omega]
      exact hT2
     ·simp only [List.range'_succ,List.map_cons,Rows.uptoBulkAll,Ts.nodes]
      omega
     ·simp only [List.range'_succ,List.map_cons,Rows.uptoBulkAll,tw]
      omega
   obtain ⟨T,h1,h2,h3,h4,h5⟩:=key len 0 Ya
   refine ⟨T,⟨some a,cap,by rw [h1],by omega,fun hp=>⟨a.block,a.off,?_,by simpa using h2⟩⟩,?_,h4,?_⟩
   ·have:=hspot Ya
    obtain ⟨b',o',sp⟩:=a
    simp only at this
    rw [this]
   ·rw [←List.range_eq_range'] at h3
    omega
   ·rw [←List.range_eq_range'] at h5
    omega
end
end Go.Proofs.YthliapbflkfdiacGreatDoor
