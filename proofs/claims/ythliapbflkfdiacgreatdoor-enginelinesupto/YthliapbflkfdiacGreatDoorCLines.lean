/-
  EngineLines answers true for every event, and its arguments read as before: Line answers exactly what the document says.
  Conditions: what the call reads is of bulk at most 1048576; the variables of the program and of Go's library that the row lists hold what their texts lay.
-/
import Derived.Test.YthliapbflkfdiacGreatDoorZ0
import Derived.Test.YthliapbflkfdiacGreatDoorG44
namespace Go.Proofs.YthliapbflkfdiacGreatDoor
open Go.RowKit Go.ChangeShapes Go.WideShapes Go.ChangeAt
set_option linter.unusedVariables false
set_option maxRecDepth 100000
theorem QpY:∀(i:Nat) (T:Ts),rng T→i+T.length≤9000000→(QaS i T).length≤2*tw T
 |i,.nil,_,_=>by simp [QaS]
 |i,.cons k n s a r,hr,hi=>by
  simp only [Ts.length] at hi
  have h1:=Qux (.cons k n s a .nil) false ⟨hr.1,hr.2.1,trivial⟩
  have h2:=QpY (i+1) r hr.2.2 Ya
  have h3:=Lib.itoa_length_le (i:Nat) Ya Ya
  simp only [QaS,List.length_append,List.length_cons,List.length_nil,tw] at h1⊢
  omega
section
variable {H:Type} {enc:TypeId×Value→H} {w:World} {base:Nat} {spare:Nat→Bool} {held:Bool}
theorem QmU {fuel:Nat} {cs:List Value} {x:DataW H×List MemPlace} (h:DataW.trod enc Tryz.prog w base spare held fuel 34 cs=some x):
  ∃(k:Int) (v:Value) (y:DataW H×List MemPlace) (m:Nat),cs=[.int .i64 k,v]∧DataW.trod enc Tryz.prog w base spare held m 23 [v]=some y∧Rows.uptoBulk y.1+1≤Rows.uptoBulk x.1:=by
 obtain ⟨xs,m,_,hx,hlen,hxl,hf⟩:=DataW.trod_struct Tryz.underlying34 h
 rw [show Tryz.prog.cellsOf 34=2 by kernel_rfl] at hlen
 have f0:DataW.trod enc Tryz.prog w base spare held m 3 ((cs.drop 0).take (Tryz.prog.cellsOf 3))=xs[0]?:=hf 0 _ rfl
 have f1:DataW.trod enc Tryz.prog w base spare held m 23 ((cs.drop 1).take (Tryz.prog.cellsOf 23))=xs[1]?:=hf 1 _ rfl
 rw [Ql7] at f0
 rw [Qid] at f1
 match cs,hlen,xs,hxl,hx with
 |[c0,c1],_,[y0,y1],_,hx=>
  simp only [List.drop_zero,List.drop_succ_cons,List.take_succ_cons,List.take_zero,List.getElem?_cons_zero,List.getElem?_cons_succ] at f0 f1
  obtain ⟨k,e0,r0,w0⟩:=DataW.trod_int Tryz.underlying3 f0
  simp only [List.cons.injEq,and_true] at e0
  subst e0 hx r0
  refine ⟨k,c1,y1,m,rfl,f1,?_⟩
  simp only [List.map_cons,List.map_nil,Rows.uptoBulk,Rows.uptoBulkAll];omega
end
theorem QmT {H:Type} {enc:TypeId×Value→H} {W:World} {base0:Nat} {v:Value} {d:DataW H} {p:List MemPlace} (hv:Value.okWide Tryz.prog W .any base0 34 v) (h:DataW.Trod enc Tryz.prog W 0 (fun _=>true) true 34 v d p):
  ∃(k:Int) (u:Value) (T:Ts),v= .agg #[.int .i64 k,u]∧Sl W (fun _=>True) u T∧T.nodes<Rows.uptoBulk d∧rng T∧tw T≤24*Rows.uptoBulk d:=by
 obtain ⟨cs,rfl,hsz⟩:=okWide_struct Tryz.underlying34 hv
 obtain ⟨fuel,hf⟩:=h
 obtain ⟨k,u,y,m,e,hy,hb⟩:=QmU hf
 obtain ⟨T,h1,h2,h3,h4⟩:=QmS _ m u y (Nat.le_refl _) hy
 simp only at hb
 refine ⟨k,u,T,?_,h1,by omega,h3,by omega⟩
 have e':cs.toList=[.int .i64 k,u]:=e
 rw [←e']
theorem Qko (H:Type) (enc:TypeId×Value→H) (W:World) (base:Nat) (args:Array Value) (ds gs:List (DataW H)) (before:List MemPlace)
  (hval:∀(j:Nat) t v,Tryz.f4.params[j]?=some t→args[j]?=some v→Value.okWide Tryz.prog W .any base t v)
  (hW:DataW.Whole enc Tryz.prog Tryz.f4.params.toList Rows.engineLinesSpec.vars false W args.toList ds gs before) (hk:Rows.uptoSmall H (ds++gs)=true) (hL:laidMetH Tryz.prog Rows.engineLinesUptoRow.laid W):
  Calls Tryz.prog 4 args W fun e W'=>∃v,e= .returned v∧Rows.engineLinesSpec.post enc Tryz.prog Tryz.f4 false true false false W args v W':=by
 have hW':=hW
 obtain ⟨p,q,hA0,hV,rfl,hfz,hnd⟩:=hW
 have hA:DataW.TrodAll enc Tryz.prog W 0 (fun _=>true) true Tryz.f4.params.toList args.toList ds p:=hA0
 clear hA0
 rw [Tryz.params4] at hA hval
 obtain ⟨v0,vs0,d0,ds0,p0,q0,hargs,rfl,rfl,h0,r0⟩:=trodAll_cons hA
 obtain ⟨rfl,rfl,rfl⟩:=trodAll_nil r0
 obtain rfl:args= #[v0]:=by cases args;simp_all
 obtain ⟨rfl,rfl⟩:=trodVars_none hV
 have hb:Rows.uptoBulk d0+0≤1048576:=of_decide_eq_true hk
 obtain ⟨k,u,T,rfl,hu,hT,hr,ht⟩:=QmT (hval 0 _ v0 rfl rfl) h0
 have hTl:=T.length_le
 have hv:=QpY 0 T hr Ya
 have hl:(QaI k T).length≤1073741824:=by
  have hw:=Qnw k
  unfold QaI
  split
  ·rw [List.length_append];simp only [List.length_cons,List.length_nil];omega
  ·omega
 refine (Qh4 k T u W (fun w' hw=>(Qrr hL).below hw.below) (fun w' hw=>(Qpm hL).below hw.below) hu hr Ya hl).mono fun e W' ⟨he,hB⟩=> ?_
 subst he
 exact ⟨_,rfl,Qs6 (f:=Tryz.f4) Tryz.laidOut (bt:=4) Yc Tryz.underlying4 Yc rfl ⟨rfl,rfl,rfl⟩ hW' hB⟩
theorem QvI (os:Os):laidMet Tryz.prog Rows.engineLinesUptoRow.laid ((Qm3 os).forCall (fun _ _=>0) ⟨#[], #[.agg #[.int .i64 0,.slice none 0 0]],[]⟩).memory:=
 laidMet_of_run' 8 Yc Yc
theorem QlX (os:Os) {H:Type} (enc:TypeId×Value→H):∃places,DataW.whole enc Tryz.prog ((Qm3 os).forCall (fun _ _=>0) ⟨#[], #[.agg #[.int .i64 0,.slice none 0 0]],[]⟩).memory Tryz.f4.params.toList Rows.engineLinesSpec.vars false (#[Value.agg #[.int .i64 0,.slice none 0 0]]:Array Value).toList 8=some ([.agg [.lit (.int .i64 0),.nil]],[],places):=
 ⟨[],by kernel_rfl⟩
set_option maxRecDepth 100000 in
theorem Qkn (os:Os) (started:os.Started) (H:Type) (enc:TypeId×Value→H) (F:Stop.Interp):
  ReturnsInHanded {} Tryz.checked os 4 .any ((Rows.OpenSpec.upto Rows.engineLinesSpec).preRow enc Tryz.prog Tryz.f4 Rows.engineLinesUptoRow.domain false Rows.engineLinesUptoRow.laid) (((Rows.OpenSpec.upto Rows.engineLinesSpec).at F).post enc Tryz.prog Tryz.f4 false true false false):=by
 obtain ⟨places,hx⟩:=QlX os enc
 refine returnsInHanded_of_row (C:=Tryz.checked) (s:=Rows.OpenSpec.upto Rows.engineLinesSpec) Tryz.own started Yc Tryz.func4
  (witness_row_at (enc:=enc) (C:=Tryz.checked) false (Qm3 os) #[.agg #[.int .i64 0,.slice none 0 0]] rfl Yc Yc Yc
   (OpenSpec.preRow_of_cond 8 hx Yc (fun k hk=>by cases hk;kernel_rfl) Yc (QvI os))) ?_
 intro W base args ds gs before hval hW _ hcond _ hL _ _
 exact Qko H enc W base args ds gs before hval hW (hcond _ rfl) hL
theorem Qne:Rows.EngineLinesUptoSaid:=
 OpenClaim.holds_of_cond 4 Tryz.f4 rfl rfl rfl rfl rfl rfl rfl ⟨rfl,rfl,rfl,rfl,rfl⟩ rfl rfl rfl rfl rfl Yc Tryz.func4 Yc
  (of_decide_eq_true Yc) (by unfold Func.isWrapper;first|(rw [if_pos (by decide+kernel)];kernel_rfl)|(rw [if_neg (by decide+kernel)];exact ⟨rfl,rfl⟩))
  (fun os started H enc _ F=>by rw [OpenClaim.pre_eq_preRow];exact Qkn os started H enc F)
theorem QlY (f:FuncId) (fn:Func) (hf:Tryz.pinned.checked.prog.funcNamed "querist/queristlaw.EngineLines" =some f) (hfn:Tryz.pinned.checked.prog.funcs[f]?=some fn):
  true=Tryz.pinned.checked.prog.looks []∧∀(j:Nat) t,fn.params[j]?=some t→Tryz.pinned.checked.prog.wantsStandIn t=false:=by
 obtain rfl:f=4:=Option.some.inj ((show Tryz.prog.funcNamed "querist/queristlaw.EngineLines" =some 4 by kernel_rfl).symm.trans hf)|>.symm
 obtain rfl:fn=Tryz.f4:=(Option.some.inj (Tryz.func4.symm.trans hfn)).symm
 refine ⟨by kernel_rfl,fun j t ht=> ?_⟩
 rw [Tryz.params4] at ht
 have hm:=Array.mem_of_getElem? ht
 simp at hm
 subst hm
 exact (show Tryz.prog.wantsStandIn 34=false by kernel_rfl)
theorem engineLines_holds:Rows.EngineLinesUptoCardSaid:=
 Claim7.holds_tied_plain_at .later [] _ _ _ _ Qne (fun _ h=>by cases h) Yc (fun _ h=>by cases h) engineLinesUpto_row_tie rfl ⟨rfl,rfl⟩ Yc rfl QlY Yc
end Go.Proofs.YthliapbflkfdiacGreatDoor
