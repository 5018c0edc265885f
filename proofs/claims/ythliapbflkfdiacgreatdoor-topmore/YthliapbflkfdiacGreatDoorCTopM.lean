/-
  TopMore answers true for all texts, fuel and more: with more fuel the same is told, and perhaps more; and its arguments read as before.
  Conditions: the variables of the program and of Go's library that the row lists hold what their texts lay.
-/
import Derived.Test.YthliapbflkfdiacGreatDoorG35
import Derived.Test.YthliapbflkfdiacGreatDoorG36
namespace Go.Proofs.YthliapbflkfdiacGreatDoor
open Go.RowKit Go.ChangeShapes Go.WideShapes Go.ChangeAt
set_option linter.unusedVariables false
set_option maxRecDepth 100000
theorem Qio (H : Type) (enc : TypeId × Value → H) (W : World) (base : Nat) (args : Array Value) (ds gs : List (DataW H)) (before : List MemPlace)
  (hval : ∀ (j : Nat) t v, Tryz.f7.params[j]? = some t → args[j]? = some v → Value.okWide Tryz.prog W .any base t v)
  (hW : DataW.Whole enc Tryz.prog Tryz.f7.params.toList Rows.topMoreSpec.vars false W args.toList ds gs before) (hk : (DataW.weightsEach Tryz.prog (Tryz.f7.params.toList ++ (OpenSpec.ofChange Rows.topMoreSpec).bare.plain.varTypes Tryz.prog) (ds ++ gs)).all (· ≤ reachBytes) = true) (hL : laidMetH Tryz.prog Rows.topMoreRow.laid W) :
  Calls Tryz.prog 7 args W fun e W' => ∃ v, e = .returned v ∧ Rows.topMoreSpec.post enc Tryz.prog Tryz.f7 false true false false W args v W' := by
 have hW' := hW
 obtain ⟨p, q, hA0, hV, rfl, hfz, hnd⟩ := hW
 have hA : DataW.TrodAll enc Tryz.prog W 0 (fun _ => true) true Tryz.f7.params.toList args.toList ds p := hA0
 clear hA0
 rw [Tryz.params7] at hA hval hk
 obtain ⟨v0, vs0, d0, ds0, p0, q0, hargs, rfl, rfl, h0, r0⟩ := trodAll_cons hA
 obtain ⟨v1, vs1, d1, ds1, p1, q1, rfl, rfl, rfl, h1, r1⟩ := trodAll_cons r0
 obtain ⟨v2, vs2, d2, ds2, p2, q2, rfl, rfl, rfl, h2, r2⟩ := trodAll_cons r1
 obtain ⟨v3, vs3, d3, ds3, p3, q3, rfl, rfl, rfl, h3, r3⟩ := trodAll_cons r2
 obtain ⟨rfl, rfl, rfl⟩ := trodAll_nil r3
 obtain rfl : args = #[v0, v1, v2, v3] := by cases args; simp_all
 obtain ⟨rfl, rfl⟩ := trodVars_none hV
 obtain ⟨x0, rfl, rfl⟩ := Qla (hval 0 _ v0 rfl rfl) h0
 obtain ⟨x1, rfl, rfl⟩ := Qla (hval 1 _ v1 rfl rfl) h1
 obtain ⟨x2, rfl, rfl, rfl, b2⟩ := Qlb (hval 2 _ v2 rfl rfl) h2
 obtain ⟨x3, rfl, rfl, rfl, b3⟩ := Qlb (hval 3 _ v3 rfl rfl) h3
 have hk0 : x0.length ≤ reachBytes := of_decide_eq_true (List.all_eq_true.1 hk x0.length (by show _ ∈ DataW.weightsEach Tryz.prog (_ :: _ :: _ :: _ :: _) [_, _, _, _]; simp [DataW.weightsEach, DataW.weights]))
 have hk1 : x1.length ≤ reachBytes := of_decide_eq_true (List.all_eq_true.1 hk x1.length (by show _ ∈ DataW.weightsEach Tryz.prog (_ :: _ :: _ :: _ :: _) [_, _, _, _]; simp [DataW.weightsEach, DataW.weights]))
 have hr : reachBytes = 140737488351232 := rfl
 refine (Qmi x0 x1 x2 x3 W (fun w' hw => (QqZ hL).below hw.below) (fun w' hw => (QoZ hL).below hw.below) Ya Ya Ya).mono fun e W' ⟨he, hB⟩ => ?_
 subst he
 exact ⟨_, rfl, QsG (f := Tryz.f7) Tryz.laidOut (bt := 4) Yc Tryz.underlying4 Yc rfl ⟨rfl, rfl, rfl⟩ hW' hB⟩
theorem QjH (os : Os) {H : Type} (enc : TypeId × Value → H) : ∃ places, DataW.whole enc Tryz.prog ((QmJ os).forCall (fun _ _ => 0) ⟨#[], #[.string .empty, .string .empty, .int .i64 0, .int .i64 0], []⟩).memory Tryz.f7.params.toList Rows.topMoreSpec.vars false (#[.string .empty, .string .empty, .int .i64 0, .int .i64 0] : Array Value).toList 8 = some ([.lit (.string []), .lit (.string []), .lit (.int .i64 0), .lit (.int .i64 0)], [], places) :=
 ⟨[], by kernel_rfl⟩
set_option maxRecDepth 100000 in
theorem Qin (os : Os) (started : os.Started) (H : Type) (enc : TypeId × Value → H) (F : Stop.Interp) :
  ReturnsInHanded {} Tryz.checked os 7 .any ((OpenSpec.ofChange Rows.topMoreSpec).preRow enc Tryz.prog Tryz.f7 Rows.topMoreRow.domain false Rows.topMoreRow.laid) (((OpenSpec.ofChange Rows.topMoreSpec).at F).post enc Tryz.prog Tryz.f7 false true false false) := by
 obtain ⟨places, hx⟩ := QjH os enc
 refine returnsInHanded_of_row (C := Tryz.checked) (s := OpenSpec.ofChange Rows.topMoreSpec) Tryz.own started Yc Tryz.func7
  (witness_row_at (enc := enc) (C := Tryz.checked) false (QmJ os) #[.string .empty, .string .empty, .int .i64 0, .int .i64 0] rfl Yc Yc Yc
   (OpenSpec.preRow_of_cond 8 hx Yc (fun k hk => by cases hk) Yc (Qsv os))) ?_
 intro W base args ds gs before hval hW _ _ hwt hL _ _
 exact Qio H enc W base args ds gs before hval hW hwt hL
theorem QkO : Rows.TopMoreSaid :=
 OpenClaim.holds_of_cond 7 Tryz.f7 rfl rfl rfl rfl rfl rfl rfl ⟨rfl, rfl, rfl, rfl, rfl⟩ rfl rfl rfl rfl rfl Yc Tryz.func7 Yc
  (of_decide_eq_true Yc) (by unfold Func.isWrapper; first | (rw [if_pos (by decide +kernel)]; kernel_rfl) | (rw [if_neg (by decide +kernel)]; exact ⟨rfl, rfl⟩))
  (fun os started H enc _ F => by rw [OpenClaim.pre_eq_preRow]; exact Qin os started H enc F)
theorem QjI (f : FuncId) (fn : Func) (hf : Tryz.pinned.checked.prog.funcNamed "querist/queristtop.TopMore" = some f) (hfn : Tryz.pinned.checked.prog.funcs[f]? = some fn) :
  true = Tryz.pinned.checked.prog.looks [] ∧ ∀ (j : Nat) t, fn.params[j]? = some t → Tryz.pinned.checked.prog.wantsStandIn t = false := by
 obtain rfl : f = 7 := Option.some.inj ((show Tryz.prog.funcNamed "querist/queristtop.TopMore" = some 7 by kernel_rfl).symm.trans hf) |>.symm
 obtain rfl : fn = Tryz.f7 := (Option.some.inj (Tryz.func7.symm.trans hfn)).symm
 refine ⟨by kernel_rfl, fun j t ht => ?_⟩
 rw [Tryz.params7] at ht
 have hm := Array.mem_of_getElem? ht
 simp at hm
 rcases hm with rfl | rfl
 ·exact (show Tryz.prog.wantsStandIn 9 = false by kernel_rfl)
 ·exact (show Tryz.prog.wantsStandIn 3 = false by kernel_rfl)
theorem topMore_holds : Rows.TopMoreCardSaid :=
 Claim7.holds_tied_plain_at .later [] _ _ _ _ QkO (fun _ h => by cases h) Yc (fun _ h => by cases h) topMore_row_tie rfl ⟨rfl, rfl⟩ Yc rfl QjI Yc
end Go.Proofs.YthliapbflkfdiacGreatDoor
