/-
  ReadQueries answers true for every text and term, and its arguments read as before: Query and Print answer exactly what the document's own reader and printer answer, errors too.
  Conditions: what the call reads is of bulk at most 1048576; the seven variables of Go's library that the row lists hold what the program's text lays.
-/
import Derived.Test.YtdiophafmokfiaaGreatDoorG11
namespace Go.Proofs.YtdiophafmokfiaaGreatDoor
open Go.RowKit Go.ChangeShapes Go.WideShapes Go.ChangeAt
set_option maxRecDepth 100000

theorem queries_reads (os : Os) {H : Type} (enc : TypeId × Value → H) : ∃ places, DataW.whole enc Tryz.prog ((laidSix os).forCall (fun _ _ => 0) ⟨#[], #[.string .empty, .agg #[.int .i64 0, .int .i64 0, .string .empty, .slice none 0 0]], []⟩).memory Tryz.f4.params.toList Rows.readQueriesSpec.vars false (#[Value.string .empty, .agg #[.int .i64 0, .int .i64 0, .string .empty, .slice none 0 0]] : Array Value).toList 8 = some ([.lit (.string []), .agg [.lit (.int .i64 0), .lit (.int .i64 0), .lit (.string []), .nil]], [], places) :=
  ⟨[], by kernel_rfl⟩

set_option maxRecDepth 100000 in
theorem queries_lifted (os : Os) (started : os.Started) (H : Type) (enc : TypeId × Value → H) (F : Stop.Interp) :
    ReturnsInHanded {} Tryz.checked os 4 .any ((Rows.OpenSpec.upto Rows.readQueriesSpec).preRow enc Tryz.prog Tryz.f4 Rows.readQueriesUptoRow.domain false Rows.readQueriesUptoRow.laid) (((Rows.OpenSpec.upto Rows.readQueriesSpec).at F).post enc Tryz.prog Tryz.f4 false true false false) := by
  obtain ⟨places, hx⟩ := queries_reads os enc
  refine returnsInHanded_of_row (C := Tryz.checked) (s := Rows.OpenSpec.upto Rows.readQueriesSpec) Tryz.own started (by kernel_rfl) Tryz.func4
    (witness_row_at (enc := enc) (C := Tryz.checked) false (laidSix os) #[.string .empty, .agg #[.int .i64 0, .int .i64 0, .string .empty, .slice none 0 0]] rfl (by kernel_rfl) (by kernel_rfl) (by kernel_rfl)
      (OpenSpec.preRow_of_cond 8 hx (by kernel_rfl) (fun k hk => by cases hk; kernel_rfl) (by kernel_rfl) (six_met os))) ?_
  intro W base args ds gs before hval hW _ hcond _ hL _ _
  exact queries_called H enc W base args ds gs before hval hW (hcond _ rfl) hL

theorem queries_said : Rows.ReadQueriesUptoSaid :=
  OpenClaim.holds_of_cond 4 Tryz.f4 rfl rfl rfl rfl rfl rfl rfl ⟨rfl, rfl, rfl, rfl, rfl⟩ rfl rfl rfl rfl rfl (by kernel_rfl) Tryz.func4 (by kernel_rfl)
    (of_decide_eq_true (by kernel_rfl)) (by unfold Func.isWrapper; first | (rw [if_pos (by decide +kernel)]; kernel_rfl) | (rw [if_neg (by decide +kernel)]; exact ⟨rfl, rfl⟩))
    (fun os started H enc _ F => by rw [OpenClaim.pre_eq_preRow]; exact queries_lifted os started H enc F)

theorem queries_plain (f : FuncId) (fn : Func) (hf : Tryz.pinned.checked.prog.funcNamed "querist/queristlaw.ReadQueries" = some f) (hfn : Tryz.pinned.checked.prog.funcs[f]? = some fn) :
    true = Tryz.pinned.checked.prog.looks [] ∧ ∀ (j : Nat) t, fn.params[j]? = some t → Tryz.pinned.checked.prog.wantsStandIn t = false := by
  obtain rfl : f = 4 := Option.some.inj ((show Tryz.prog.funcNamed "querist/queristlaw.ReadQueries" = some 4 by kernel_rfl).symm.trans hf) |>.symm
  obtain rfl : fn = Tryz.f4 := (Option.some.inj (Tryz.func4.symm.trans hfn)).symm
  refine ⟨by kernel_rfl, fun j t ht => ?_⟩
  rw [Tryz.params4] at ht
  have hm := Array.mem_of_getElem? ht
  simp at hm
  rcases hm with rfl | rfl
  · exact (show Tryz.prog.wantsStandIn 9 = false by kernel_rfl)
  · exact (show Tryz.prog.wantsStandIn 31 = false by kernel_rfl)

theorem readQueries_holds : Rows.ReadQueriesUptoCardSaid :=
  Claim7.holds_tied_plain_at .later [] _ _ _ _ queries_said (fun _ h => by cases h) (by kernel_rfl) (fun _ h => by cases h) readQueriesUpto_row_tie rfl ⟨rfl, rfl⟩ (by kernel_rfl) rfl queries_plain (by kernel_rfl)
end Go.Proofs.YtdiophafmokfiaaGreatDoor
