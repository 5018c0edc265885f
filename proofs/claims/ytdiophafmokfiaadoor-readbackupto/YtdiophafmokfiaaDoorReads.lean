/-
  The law's own test of the reader and the printer answers true.
-/
import Derived.Test.YtdiophafmokfiaaDoorPrn
namespace Go.Proofs.YtdiophafmokfiaaDoor
open Go.RowKit Go.Shelf
set_option linter.unusedVariables false
set_option linter.unusedSimpArgs false
set_option maxRecDepth 100000
set_option maxHeartbeats 1000000

def rdText : Str := [112, 40, 88, 41, 32, 58, 45, 32, 113, 40, 88, 41, 44, 32, 33, 46, 32, 113, 40, 45, 51, 41, 46]
def rdHead : Ts := .cons 2 (-3) ⟨([] : Str).toArray⟩ .nil .nil
def rdCl : List Cl := [⟨3, 0, ⟨([112] : Str).toArray⟩, .cons 0 0 ⟨([] : Str).toArray⟩ .nil .nil, .cons 3 0 ⟨([113] : Str).toArray⟩ (.cons 0 0 ⟨([] : Str).toArray⟩ .nil .nil) (.cons 1 0 ⟨([33] : Str).toArray⟩ .nil .nil), 1⟩, ⟨3, 0, ⟨([113] : Str).toArray⟩, rdHead, .nil, 0⟩]
theorem numM_three : numM [45, 51] = some (-3) := by kernel_rfl
theorem rd_model : programM numM rdText = (rdCl, 0) := by kernel_rfl
theorem rd_out : outM false (.cons 3 0 ⟨([113] : Str).toArray⟩ rdHead .nil) = [113, 40, 45, 51, 41] := by kernel_rfl
theorem rd_program {M : List Nat} {w0 w : World} {H : List (Nat × Obj)} {F : List (World → Prop)} (hG : ∀ w', Ext M w0 w' → GVars w') (hS : St M w0 H F w) :
    Calls Tryd.prog 32 #[sv rdText] w fun e w' => ∃ v, e = .returned (.tuple #[v, .int .i64 0]) ∧ St M w0 H ((fun w => SlC w (fun _ => True) v rdCl) :: F) w' := by
  have h := program_r numM GVars lib1 lib2 lib3 rdText w hG (by decide) hS
  rw [rd_model] at h
  exact h
theorem reads_any (w : World) (hG : ∀ w', Ext [] w w' → GVars w') : Calls Tryd.prog 28 #[] w fun e w' => e = .returned (.bool true) ∧ Below w.heap.size w w' := by
  have hS := St.start w
  refine goes_enter0 Tryd.func28 rfl Tryd.ntmps28 rfl ?_
  refine goes_seq ?_
  refine goes_region ?_
  refine lst_run (run_assign (by conv => lhs; whnf)) rfl ?_
  refine lst_done ?_
  refine goes_seq ?_
  refine goes_region ?_
  refine lst_enter (run_call (by kernel_rfl) (args_1 (by conv => lhs; whnf))) rfl ?_
  refine Calls.mono (rd_program hG hS) ?_
  rintro _ w1 ⟨v, rfl, hS'⟩
  refine ⟨_, rfl, ?_⟩
  replace hS := hS'
  clear hS'
  obtain ⟨A, c, rfl, hsl⟩ := (hS.fact (.head _)).form
  obtain ⟨_, _, e1, hc2, hsg⟩ := hsl
  simp only [Value.slice.injEq] at e1
  obtain ⟨rfl, _, rfl⟩ := e1
  obtain ⟨bb, o, rfl, _, a0, a1, a2, ⟨u3, a3, a3'⟩, ⟨u4, a4, a4'⟩, a5, _, b0, b1, b2, ⟨v3, b3, b3'⟩, _⟩ := hsg (by decide)
  obtain ⟨A4, c4, rfl, _⟩ := a4'.form
  obtain ⟨A5, c5, rfl, _⟩ := b3'.form
  have hcl : rdCl.length = 2 := rfl
  refine lst_run (run_move (by conv => lhs; whnf)) rfl ?_
  refine lst_run (run_extract rfl rfl) rfl ?_
  refine lst_run (run_extract rfl rfl) rfl ?_
  refine lst_run (run_assign (by conv => lhs; whnf)) rfl ?_
  refine lst_run (run_assign (by conv => lhs; whnf)) rfl ?_
  refine lst_done ?_
  refine goes_seq ?_
  refine goes_region ?_
  refine lst_run (run_move (by conv => lhs; whnf)) rfl ?_
  first
    | refine lst_run (run_eql_one_int rfl rfl) rfl ?_
    | refine lst_run (run_eql_no rfl rfl (by first | assumption | omega)) rfl ?_
    | refine lst_run (run_eql_yes rfl rfl (by omega)) rfl ?_
    | refine lst_run (rfl) rfl ?_
  refine lst_run (run_move (by conv => lhs; whnf)) rfl ?_
  refine lst_guard rfl rfl ?_
  refine lst_run (run_move (by conv => lhs; whnf)) rfl ?_
  refine lst_guard rfl rfl ?_
  refine lst_run (run_len_slice rfl rfl rfl) rfl ?_
  refine lst_guard rfl rfl ?_
  first
    | refine lst_run (run_eql_one_int rfl rfl) rfl ?_
    | refine lst_run (run_eql_no rfl rfl (by first | assumption | omega)) rfl ?_
    | refine lst_run (run_eql_yes rfl rfl (by omega)) rfl ?_
    | refine lst_run (rfl) rfl ?_
  first
    | refine lst_run (run_pick_t rfl (by conv => lhs; whnf)) rfl ?_
    | refine lst_run (run_pick_f rfl (by conv => lhs; whnf)) rfl ?_
  refine lst_run (run_move (by conv => lhs; whnf)) rfl ?_
  refine lst_guard rfl rfl ?_
  refine lst_run (run_move (by conv => lhs; whnf)) rfl ?_
  refine lst_guard rfl rfl ?_
  refine lst_run (run_indexAddr (sz := 6) rfl rfl rfl rfl (by omega) (by omega)) rfl ?_
  refine lst_guard rfl rfl ?_
  refine lst_run (run_fieldAddr (off := 4) rfl rfl) rfl ?_
  refine lst_guard rfl rfl ?_
  first
    | refine lst_run (run_load1_own hS rfl rfl (by first | exact .head | exact .tail .head | exact .tail (.tail .head) | exact .tail (.tail (.tail .head)) | exact .tail (.tail (.tail (.tail .head))) | exact .tail (.tail (.tail (.tail (.tail .head))))) (by repeat constructor)) rfl ?_
    | refine lst_run (run_load1 rfl rfl (by first | assumption | exact hS.cell0 (by assumption) | exact lv_next hS | exact lv_list hS)) rfl ?_
  refine lst_guard rfl rfl ?_
  refine lst_run (run_len_slice rfl rfl rfl) rfl ?_
  refine lst_guard rfl rfl ?_
  first
    | refine lst_run (run_eql_one_int rfl rfl) rfl ?_
    | refine lst_run (run_eql_no rfl rfl (by first | assumption | omega)) rfl ?_
    | refine lst_run (run_eql_yes rfl rfl (by omega)) rfl ?_
    | refine lst_run (rfl) rfl ?_
  first
    | refine lst_run (run_pick_t rfl (by conv => lhs; whnf)) rfl ?_
    | refine lst_run (run_pick_f rfl (by conv => lhs; whnf)) rfl ?_
  refine lst_run (run_move (by conv => lhs; whnf)) rfl ?_
  refine lst_guard rfl rfl ?_
  refine lst_run (run_move (by conv => lhs; whnf)) rfl ?_
  refine lst_guard rfl rfl ?_
  refine lst_run (run_indexAddr (sz := 6) rfl rfl rfl rfl (by omega) (by omega)) rfl ?_
  refine lst_guard rfl rfl ?_
  refine lst_run (run_fieldAddr (off := 5) rfl rfl) rfl ?_
  refine lst_guard rfl rfl ?_
  first
    | refine lst_run (run_load1_own hS rfl rfl (by first | exact .head | exact .tail .head | exact .tail (.tail .head) | exact .tail (.tail (.tail .head)) | exact .tail (.tail (.tail (.tail .head))) | exact .tail (.tail (.tail (.tail (.tail .head))))) (by repeat constructor)) rfl ?_
    | refine lst_run (run_load1 rfl rfl (by first | assumption | exact hS.cell0 (by assumption) | exact lv_next hS | exact lv_list hS)) rfl ?_
  refine lst_guard rfl rfl ?_
  first
    | refine lst_run (run_eql_one_int rfl rfl) rfl ?_
    | refine lst_run (run_eql_no rfl rfl (by first | assumption | omega)) rfl ?_
    | refine lst_run (run_eql_yes rfl rfl (by omega)) rfl ?_
    | refine lst_run (rfl) rfl ?_
  first
    | refine lst_run (run_pick_t rfl (by conv => lhs; whnf)) rfl ?_
    | refine lst_run (run_pick_f rfl (by conv => lhs; whnf)) rfl ?_
  refine lst_run (run_move (by conv => lhs; whnf)) rfl ?_
  refine lst_guard rfl rfl ?_
  refine lst_run (run_move (by conv => lhs; whnf)) rfl ?_
  refine lst_guard rfl rfl ?_
  refine lst_run (run_indexAddr (sz := 6) rfl rfl rfl rfl (by omega) (by omega)) rfl ?_
  refine lst_guard rfl rfl ?_
  refine lst_run (run_fieldAddr (off := 0) rfl rfl) rfl ?_
  refine lst_guard rfl rfl ?_
  first
    | refine lst_run (run_loadN_own (k := 4) hS rfl rfl rfl (by first | exact .head | exact .tail .head | exact .tail (.tail .head) | exact .tail (.tail (.tail .head)) | exact .tail (.tail (.tail (.tail .head))) | exact .tail (.tail (.tail (.tail (.tail .head))))) (by repeat constructor)) rfl ?_
    | refine lst_run (run_load4 rfl rfl rfl (by first | assumption | exact hS.cell0 (by assumption)) (by first | assumption | exact hS.cell0 (by assumption)) (by first | assumption | exact hS.cell0 (by assumption)) (by first | assumption | exact hS.cell0 (by assumption))) rfl ?_
  refine lst_guard rfl rfl ?_
  have hp := print_any 3 0 [113] rdHead _ w1 (fun w' hw => hG w' (hS.ext.trans hw)) b3' (by decide) ⟨by decide, trivial, trivial⟩ (by decide) (by rw [rd_out]; decide)
  rw [rd_out] at hp
  refine lst_enter (run_call (by kernel_rfl) (args_1 (by conv => lhs; whnf))) rfl ?_
  refine Calls.mono (hp) ?_
  rintro _ w2 ⟨rfl, hb2⟩
  refine ⟨_, rfl, ?_⟩
  replace hS := hS.grow hb2
  refine lst_guard rfl rfl ?_
  first
    | refine lst_run (run_eql_str rfl rfl) rfl ?_
    | refine lst_run (rfl) rfl ?_
  first
    | refine lst_run (run_pick_t rfl (by conv => lhs; whnf)) rfl ?_
    | refine lst_run (run_pick_f rfl (by conv => lhs; whnf)) rfl ?_
  refine lst_run (run_assign (by conv => lhs; whnf)) rfl ?_
  refine lst_done ?_
  refine goes_ret1 Tryd.func28 rfl (by conv => lhs; whnf) ?_
  exact ⟨rfl, hS.ext.below⟩
end Go.Proofs.YtdiophafmokfiaaDoor
