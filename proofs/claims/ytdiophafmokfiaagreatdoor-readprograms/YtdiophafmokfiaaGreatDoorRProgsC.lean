/-
  ReadPrograms answers true for every text, and its argument reads as before: Program answers exactly what the document's own reader answers, errors too.
  Conditions: the seven variables of Go's library that the row lists hold what the program's text lays.
-/
import Derived.Test.YtdiophafmokfiaaGreatDoorG30
namespace Go.Proofs.YtdiophafmokfiaaGreatDoor
open Go.RowKit Go.ChangeShapes Go.WideShapes Go.ChangeAt
set_option maxRecDepth 100000

theorem programs_reads (os : Os) {H : Type} (enc : TypeId × Value → H) : ∃ places, DataW.whole enc Tryz.prog ((laidSix os).forCall (fun _ _ => 0) ⟨#[], #[.string .empty], []⟩).memory Tryz.f3.params.toList Rows.readProgramsSpec.vars false #[Value.string .empty].toList 8 = some ([.lit (.string [])], [], places) :=
  ⟨[], by kernel_rfl⟩

set_option maxRecDepth 100000 in
theorem programs_lifted (os : Os) (started : os.Started) (H : Type) (enc : TypeId × Value → H) (F : Stop.Interp) :
    ReturnsInHanded {} Tryz.checked os 3 .any ((OpenSpec.ofChange Rows.readProgramsSpec).preRow enc Tryz.prog Tryz.f3 Rows.readProgramsRow.domain false Rows.readProgramsRow.laid) (((OpenSpec.ofChange Rows.readProgramsSpec).at F).post enc Tryz.prog Tryz.f3 false true false false) := by
  obtain ⟨places, hx⟩ := programs_reads os enc
  refine returnsInHanded_of_row (C := Tryz.checked) (s := OpenSpec.ofChange Rows.readProgramsSpec) Tryz.own started (by kernel_rfl) Tryz.func3
    (witness_row_at (enc := enc) (C := Tryz.checked) false (laidSix os) #[.string .empty] rfl (by kernel_rfl) (by kernel_rfl) (by kernel_rfl)
      (OpenSpec.preRow_of_cond 8 hx (by kernel_rfl) (fun k hk => by cases hk) (by kernel_rfl) (six_met os))) ?_
  intro W base args ds gs before hval hW _ _ hwt hL _ _
  exact programs_called H enc W base args ds gs before hval hW hwt hL

theorem programs_said : Rows.ReadProgramsSaid :=
  OpenClaim.holds_of_cond 3 Tryz.f3 rfl rfl rfl rfl rfl rfl rfl ⟨rfl, rfl, rfl, rfl, rfl⟩ rfl rfl rfl rfl rfl (by kernel_rfl) Tryz.func3 (by kernel_rfl)
    (of_decide_eq_true (by kernel_rfl)) (by unfold Func.isWrapper; first | (rw [if_pos (by decide +kernel)]; kernel_rfl) | (rw [if_neg (by decide +kernel)]; exact ⟨rfl, rfl⟩))
    (fun os started H enc _ F => by rw [OpenClaim.pre_eq_preRow]; exact programs_lifted os started H enc F)

theorem programs_plain (f : FuncId) (fn : Func) (hf : Tryz.pinned.checked.prog.funcNamed "querist/queristlaw.ReadPrograms" = some f) (hfn : Tryz.pinned.checked.prog.funcs[f]? = some fn) :
    true = Tryz.pinned.checked.prog.looks [] ∧ ∀ (j : Nat) t, fn.params[j]? = some t → Tryz.pinned.checked.prog.wantsStandIn t = false := by
  obtain rfl : f = 3 := Option.some.inj ((show Tryz.prog.funcNamed "querist/queristlaw.ReadPrograms" = some 3 by kernel_rfl).symm.trans hf) |>.symm
  obtain rfl : fn = Tryz.f3 := (Option.some.inj (Tryz.func3.symm.trans hfn)).symm
  refine ⟨by kernel_rfl, fun j t ht => ?_⟩
  rw [Tryz.params3] at ht
  have hm := Array.mem_of_getElem? ht
  simp at hm
  subst hm
  exact (show Tryz.prog.wantsStandIn 9 = false by kernel_rfl)

theorem readPrograms_holds : Rows.ReadProgramsCardSaid :=
  Claim7.holds_tied_plain_at .later [] _ _ _ _ programs_said (fun _ h => by cases h) (by kernel_rfl) (fun _ h => by cases h) readPrograms_row_tie rfl ⟨rfl, rfl⟩ (by kernel_rfl) rfl programs_plain (by kernel_rfl)
end Go.Proofs.YtdiophafmokfiaaGreatDoor
