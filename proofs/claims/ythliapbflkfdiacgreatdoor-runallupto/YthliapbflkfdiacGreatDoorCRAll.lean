/-
  The card of RunAll, where what it reads is of bulk at most 1048576: for every program, query, number of variables, fuel and every, All answers exactly what the document's own prover does, errors too: the law answers true, and its arguments read as before; the two tables that the row lists are as the program's text and Go's own library lay them.
-/
import Derived.Test.YthliapbflkfdiacGreatDoorG34
import Derived.Test.YthliapbflkfdiacGreatDoorCards
import Derived.Test.YthliapbflkfdiacGreatDoorTie
import Derived.Deep.DeepHandedRow
import Derived.Lib.LaidTab
namespace Go.Proofs.YthliapbflkfdiacGreatDoor
open Go.RowKit Go.ChangeShapes Go.WideShapes Go.ChangeAt
set_option maxRecDepth 100000
theorem Qkf (H:Type) (enc:TypeId×Value→H) (W:World) (base:Nat) (args:Array Value) (ds gs:List (DataW H)) (before:List MemPlace)
  (hval:∀(j:Nat) t v,Tryz.f3.params[j]?=some t→args[j]?=some v→Value.okWide Tryz.prog W .any base t v)
  (hW:DataW.Whole enc Tryz.prog Tryz.f3.params.toList Rows.runAllSpec.vars false W args.toList ds gs before) (hk:Rows.uptoSmall H (ds++gs)=true):
  Calls Tryz.prog 3 args W fun e W'=>∃v,e= .returned v∧Rows.runAllSpec.post enc Tryz.prog Tryz.f3 false true false false W args v W':=by
 have hW':=hW;obtain ⟨p,q,hA0,hV,rfl,hfz,hnd⟩:=hW;have hA:DataW.TrodAll enc Tryz.prog W 0 (fun _=>true) true Tryz.f3.params.toList args.toList ds p:=hA0;clear hA0;rw [Tryz.params3] at hA hval;obtain ⟨v0,vs0,d0,ds0,p0,q0,hargs,rfl,rfl,h0,r0⟩:=trodAll_cons hA;obtain ⟨v1,vs1,d1,ds1,p1,q1,rfl,rfl,rfl,h1,r1⟩:=trodAll_cons r0;obtain ⟨v2,vs2,d2,ds2,p2,q2,rfl,rfl,rfl,h2,r2⟩:=trodAll_cons r1;obtain ⟨v3,vs3,d3,ds3,p3,q3,rfl,rfl,rfl,h3,r3⟩:=trodAll_cons r2;obtain ⟨v4,vs4,d4,ds4,p4,q4,rfl,rfl,rfl,h4,r4⟩:=trodAll_cons r3;obtain ⟨rfl,rfl,rfl⟩:=trodAll_nil r4
 obtain rfl:args= #[v0,v1,v2,v3,v4]:=by cases args;simp_all
 obtain ⟨rfl,rfl⟩:=trodVars_none hV;have hb:Rows.uptoBulk d0+(Rows.uptoBulk d1+(Rows.uptoBulk d2+(Rows.uptoBulk d3+(Rows.uptoBulk d4+0))))≤1048576:=of_decide_eq_true hk;obtain ⟨sa,sl,sc,rfl⟩:=okWide_slice Tryz.underlying22 (hval 0 _ v0 rfl rfl);obtain ⟨sa1,sl1,sc1,rfl⟩:=okWide_slice Tryz.underlying23 (hval 1 _ v1 rfl rfl);obtain ⟨L,hl,hL⟩:=Qg5 rfl h0;obtain ⟨T,ht,hT⟩:=Qi3 rfl h1;obtain ⟨a,rfl,rfl,rfl,_⟩:=open_int Tryz.underlying3 (hval 2 _ v2 rfl rfl) h2;obtain ⟨f,rfl,rfl,rfl,_⟩:=open_int Tryz.underlying3 (hval 3 _ v3 rfl rfl) h3;obtain ⟨y,rfl,rfl,_,hw4⟩:=open_int Tryz.underlying3 (hval 4 _ v4 rfl rfl) h4
 have hy:y≤9223372036854775807:=by
  simp [Lit.wf,IntKind.min,IntKind.max,IntKind.bits,IntKind.signed] at hw4;omega
 refine (QiX L T _ _ a f y W hl ht Ya Ya hy).mono fun e W' ⟨he,hB⟩=> ?_;subst he;exact ⟨_,rfl,QrD (f:=Tryz.f3) Tryz.laidOut (bt:=4) Yc Tryz.underlying4 Yc rfl ⟨rfl,rfl,rfl⟩ hW' hB⟩
def QjO (cs:Array Value):Obj→Obj
 | .cells _ t frozen=> .cells cs t frozen
 |o=>o
noncomputable def Qhf (os:Os):World:=
 { World.holding Tryz.prog os ⟨#[], #[],[]⟩ with heap:=(((World.holding Tryz.prog os ⟨#[], #[],[]⟩).heap.modify 3 (QjO (Go.Pinned.utf8FirstZ.map fun (x:Nat)=>Value.int .u8 (x:Int)).toArray)).modify 4
   (QjO (([128,191,160,191,128,159,144,191,128,143]++List.replicate 22 (0:Int)).map fun x=>Value.int .u8 x).toArray)) }
theorem QrE (os:Os):laidMet Tryz.prog Rows.runAllUptoRow.laid ((Qhf os).forCall (fun _ _=>0) ⟨#[], #[.slice none 0 0,.slice none 0 0,.int .i64 0,.int .i64 0,.int .i64 0],[]⟩).memory:=
 laidMet_of_run' 8 Yc Yc
theorem QlJ (os:Os) {H:Type} (enc:TypeId×Value→H):∃places,DataW.whole enc Tryz.prog ((Qhf os).forCall (fun _ _=>0) ⟨#[], #[.slice none 0 0,.slice none 0 0,.int .i64 0,.int .i64 0,.int .i64 0],[]⟩).memory Tryz.f3.params.toList Rows.runAllSpec.vars false #[Value.slice none 0 0,.slice none 0 0,.int .i64 0,.int .i64 0,.int .i64 0].toList 8=some ([.nil,.nil,.lit (.int .i64 0),.lit (.int .i64 0),.lit (.int .i64 0)],[],places):=
 ⟨[],by kernel_rfl⟩
set_option maxRecDepth 100000 in
theorem Qke (os:Os) (started:os.Started) (H:Type) (enc:TypeId×Value→H) (F:Stop.Interp):
  ReturnsInHanded {} Tryz.checked os 3 .any ((Rows.OpenSpec.upto Rows.runAllSpec).preRow enc Tryz.prog Tryz.f3 Rows.runAllUptoRow.domain false Rows.runAllUptoRow.laid) (((Rows.OpenSpec.upto Rows.runAllSpec).at F).post enc Tryz.prog Tryz.f3 false true false false):=by
 obtain ⟨places,hx⟩:=QlJ os enc
 refine returnsInHanded_of_row (C:=Tryz.checked) (s:=Rows.OpenSpec.upto Rows.runAllSpec) Tryz.own started Yc Tryz.func3
  (witness_row_at (enc:=enc) (C:=Tryz.checked) false (Qhf os) #[.slice none 0 0,.slice none 0 0,.int .i64 0,.int .i64 0,.int .i64 0] rfl Yc Yc Yc
   (OpenSpec.preRow_of_cond 8 hx Yc (fun k hk=>by cases hk;kernel_rfl) Yc (QrE os))) ?_
 intro W base args ds gs before hval hW _ hcond _ _ _ _;exact Qkf H enc W base args ds gs before hval hW (hcond _ rfl)
theorem Qn8:Rows.RunAllUptoSaid:=
 OpenClaim.holds_of_cond 3 Tryz.f3 rfl rfl rfl rfl rfl rfl rfl ⟨rfl,rfl,rfl,rfl,rfl⟩ rfl rfl rfl rfl rfl Yc Tryz.func3 Yc
  (of_decide_eq_true Yc) (by unfold Func.isWrapper;first|(rw [if_pos (by decide+kernel)];kernel_rfl)|(rw [if_neg (by decide+kernel)];exact ⟨rfl,rfl⟩))
  (fun os started H enc _ F=>by rw [OpenClaim.pre_eq_preRow];exact Qke os started H enc F)
theorem QlK (f:FuncId) (fn:Func) (hf:Tryz.pinned.checked.prog.funcNamed "querist/queristlaw.RunAll" =some f) (hfn:Tryz.pinned.checked.prog.funcs[f]?=some fn):
  true=Tryz.pinned.checked.prog.looks []∧∀(j:Nat) t,fn.params[j]?=some t→Tryz.pinned.checked.prog.wantsStandIn t=false:=by
 obtain rfl:f=3:=Option.some.inj ((show Tryz.prog.funcNamed "querist/queristlaw.RunAll" =some 3 by kernel_rfl).symm.trans hf)|>.symm;obtain rfl:fn=Tryz.f3:=(Option.some.inj (Tryz.func3.symm.trans hfn)).symm;refine ⟨by kernel_rfl,fun j t ht=> ?_⟩;rw [Tryz.params3] at ht;have hm:=Array.mem_of_getElem? ht;simp at hm;rcases hm with rfl|rfl|rfl
 ·exact (show Tryz.prog.wantsStandIn 22=false by kernel_rfl)
 ·exact (show Tryz.prog.wantsStandIn 23=false by kernel_rfl)
 ·exact (show Tryz.prog.wantsStandIn 3=false by kernel_rfl)
theorem runAll_holds:Rows.RunAllUptoCardSaid:=
 Claim7.holds_tied_plain_at .later [] _ _ _ _ Qn8 (fun _ h=>by cases h) Yc (fun _ h=>by cases h) runAllUpto_row_tie rfl ⟨rfl,rfl⟩ Yc rfl QlK Yc
end Go.Proofs.YthliapbflkfdiacGreatDoor
