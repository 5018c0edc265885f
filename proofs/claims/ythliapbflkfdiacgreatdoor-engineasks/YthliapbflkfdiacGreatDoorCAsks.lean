/-
  EngineAsks answers true for all texts, fuel and every: Ask answers exactly what the document says, errors too; and its arguments read as before.
  Conditions: the variables of the program and of Go's library that the row lists hold what their texts lay.
-/
import Derived.Test.YthliapbflkfdiacGreatDoorG45
set_option linter.unusedVariables false
set_option linter.unusedSimpArgs false
set_option maxRecDepth 100000
set_option maxHeartbeats 1000000
namespace Go.Proofs.YthliapbflkfdiacGreatDoor
open Go.Proofs.Tryz
open Go.RowKit Go.ChangeShapes Go.WideShapes Go.ChangeAt
theorem QhO(H:Type)(enc:TypeId×TH->H)(W:TG)(base:Nat)(args:T9)(ds gs:List (DataW H))(uT:List MemPlace)
  (zG:∀(j:Nat) t v,Tryz.f11.params[j]?=some t->args[j]?=some v->Value.okWide prog W .any base t v)
  (hW:DataW.Whole enc prog Tryz.f11.params.toList Rows.engineAsksSpec.vars false W args.toList ds gs uT) (hk:(DataW.weightsEach prog (Tryz.f11.params.toList++(OpenSpec.ofChange Rows.engineAsksSpec).bare.plain.varTypes prog) (ds++gs)).all (·<=reachBytes)=true) (hL:laidMetH prog Rows.engineAsksRow.laid W):
  Calls prog 11 args W fun e W'=>∃v,e= .returned v/\Rows.engineAsksSpec.post enc prog Tryz.f11 false true false false W args v W':=by
 have hW':=hW;obtain⟨p,q,Ce,hV,rfl,_,_⟩:=hW;have hA:DataW.TrodAll enc prog W 0 (fun _=>true) true Tryz.f11.params.toList args.toList ds p:=Ce;clear Ce;rw[Tryz.params11]at hA zG hk;obtain⟨v0,_,_,_,_,_,_,rfl,rfl,h0,r0⟩:=trodAll_cons hA;obtain⟨v1,_,_,_,_,_,rfl,rfl,rfl,h1,r1⟩:=trodAll_cons r0;obtain⟨v2,_,_,_,_,_,rfl,rfl,rfl,h2,r2⟩:=trodAll_cons r1;obtain⟨v3,_,_,_,_,_,rfl,rfl,rfl,h3,r3⟩:=trodAll_cons r2;obtain⟨rfl,rfl,rfl⟩:=trodAll_nil r3
 obtain rfl:args= #[v0,v1,v2,v3]:=by cases args;simp_all
 obtain⟨rfl,rfl⟩:=trodVars_none hV;obtain⟨x0,rfl,rfl⟩:=QnZ (zG 0 _ v0 rfl rfl) h0;obtain⟨x1,rfl,rfl⟩:=QnZ (zG 1 _ v1 rfl rfl) h1;obtain⟨x2,rfl,rfl,rfl,_⟩:=Qn0 (zG 2 _ v2 rfl rfl) h2;obtain⟨x3,rfl,rfl,rfl,_⟩:=Qn0 (zG 3 _ v3 rfl rfl) h3;have rU:x0.length<=reachBytes:=WM (VK.1 hk x0.length Yaj);have wB:x1.length<=reachBytes:=WM (VK.1 hk x1.length Yaj);have hr:reachBytes=140737488351232:=rfl;refine(QkK x0 x1 x2 x3 W (fun w' hw=>(Qu9 hL).below hw.below) (fun w' hw=>(QsM hL).below hw.below) Ya Ya Ya).mono fun e W' ⟨he,hB⟩=> ?_;subst he;exact⟨_,rfl,QwY (f:=Tryz.f11) Tryz.laidOut (bt:=4) Yc underlying4 Yc rfl ⟨rfl,rfl,rfl⟩ hW' hB⟩
theorem Qio(os:Os){H:Type}(enc:TypeId×TH->H):∃places,DataW.whole enc prog ((QpT os).forCall (fun _ _=>0) ⟨#[], #[.string .empty,.string .empty,.int .i64 0,.int .i64 0],[]⟩).memory Tryz.f11.params.toList Rows.engineAsksSpec.vars false (#[.string .empty,.string .empty,.int .i64 0,.int .i64 0]:T9).toList 8=some ([.lit (.string []),.lit (.string []),.lit (.int .i64 0),.lit (.int .i64 0)],[],places):=
 ⟨[],by kernel_rfl⟩
theorem QhN(os:Os)(wK:os.Started)(H:Type)(enc:TypeId×TH->H)(F:Stop.Interp):
  ReturnsInHanded {} Tryz.checked os 11 .any ((OpenSpec.ofChange Rows.engineAsksSpec).preRow enc prog Tryz.f11 Rows.engineAsksRow.domain false Rows.engineAsksRow.laid) (((OpenSpec.ofChange Rows.engineAsksSpec).at F).post enc prog Tryz.f11 false true false false):=by
 obtain⟨_,hx⟩:=Qio os enc
 refine returnsInHanded_of_row (C:=Tryz.checked) (s:=OpenSpec.ofChange Rows.engineAsksSpec) Tryz.own wK Yc func11
  (witness_row_at (enc:=enc) (C:=Tryz.checked) false (QpT os) #[.string .empty,.string .empty,.int .i64 0,.int .i64 0] rfl Yc Yc Yc
   (OpenSpec.preRow_of_cond 8 hx Yc (fun k hk=>by cases hk) Yc (QwL os))) ?_
 intro W base args ds gs uT zG hW _ _ Jr hL _ _;exact QhO H enc W base args ds gs uT zG hW Jr hL
theorem Qkb:Rows.EngineAsksSaid:=
 OpenClaim.holds_of_cond 11 Tryz.f11 rfl rfl rfl rfl rfl rfl rfl ⟨rfl,rfl,rfl,rfl,rfl⟩ rfl rfl rfl rfl rfl Yc func11 Yc
  (WM Yc) (by unfold Func.isWrapper;first|(rw[XB (by decide+kernel)];kernel_rfl)|(rw[XA (by decide+kernel)];exact⟨rfl,rfl⟩))
  (fun os wK H enc _ F=>by rw[OpenClaim.pre_eq_preRow];exact QhN os wK H enc F)
theorem Qip (f:FuncId) (fn:Func) (hf:Tryz.pinned.checked.prog.funcNamed "querist/queristlaw.EngineAsks" =some f) (Ks:Tryz.pinned.checked.prog.funcs[f]?=some fn):
  true=Tryz.pinned.checked.prog.looks []/\∀(j:Nat) t,fn.params[j]?=some t->Tryz.pinned.checked.prog.wantsStandIn t=false:=by
 obtain rfl:f=11:=V9 ((show prog.funcNamed "querist/queristlaw.EngineAsks" =some 11 by kernel_rfl).symm.trans hf)|>.symm;obtain rfl:fn=Tryz.f11:=(V9 (func11.symm.trans Ks)).symm;refine ⟨by kernel_rfl,fun j t ht=> ?_⟩;rw [Tryz.params11] at ht;have hm:=Array.mem_of_getElem? ht;simp at hm;rcases hm with rfl|rfl
 .exact(show prog.wantsStandIn 9=false by kernel_rfl)
 .exact(show prog.wantsStandIn 3=false by kernel_rfl)
theorem engineAsks_holds:Rows.EngineAsksCardSaid:=
 Claim7.holds_tied_plain_at .later [] _ _ _ _ Qkb (fun _ h=>by cases h) Yc (fun _ h=>by cases h) engineAsks_row_tie rfl ⟨rfl,rfl⟩ Yc rfl Qip Yc
end Go.Proofs.YthliapbflkfdiacGreatDoor
