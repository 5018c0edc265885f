/- HWalk2, HWalk3, Plan: texts that follow one another, laid into one file. -/
import Derived.Test.YtdflngjfnpbpmabG5
import Derived.Test.YtdflngjfnpbpmabG3
import Derived.Test.YtdflngjfnpbpmabG0
namespace Go.Proofs.Ytdflngjfnpbpmab
open Go.RowKit
set_option linter.unusedVariables false
set_option linter.unusedSimpArgs false
set_option maxRecDepth 100000
set_option maxHeartbeats 1000000

theorem bound_any (L : List HC) (A B : Option Addr) (c m d : Nat) (a : Int) (x : HC) (w : World) (hL : Flat 3 (hcsL L) A L.length c w) (hx : hat L a = some x) :
    Calls Try.prog 51 #[heapV A L.length c B m d, .int .i64 a] w fun e w' => e = .returned (.bool (decide (x.k = 0 ∧ x.n ≠ a))) ∧ Below w.heap.size w w' := by
  have hS := (St.start w).flat (M := []) hL
  obtain ⟨h0, h1, hg⟩ := hat_get hx
  obtain ⟨b, o, rfl⟩ := hL.some_ (by omega)
  have hcc : ∀ {H'} w', St [] w H' [Flat 3 (hcsL L) (some ⟨b, o, none⟩) L.length c] w' → _ := fun w' hS => (hS.fact (.head _)).cell hg
  refine goes_enter2 Try.func51 rfl Try.ntmps51 rfl ?_
  by_cases hk : x.k = 0
  · by_cases hn : x.n = a
    · rw [decide_eq_false (by simp [hn])]
      refine goes_seq ?_
      refine goes_region ?_
      refine lst_box hS rfl rfl ?_
      clear hS
      intro b1 wx1 hS
      refine lst_run (run_assign (by conv => lhs; whnf)) rfl ?_
      refine lst_done ?_
      refine goes_seq ?_
      refine goes_region ?_
      refine lst_run (run_fieldAddr (off := 0) rfl rfl) rfl ?_
      first
        | refine lst_run (run_load1_own hS rfl rfl (by first | exact .head | exact .tail .head | exact .tail (.tail .head) | exact .tail (.tail (.tail .head)) | exact .tail (.tail (.tail (.tail .head))) | exact .tail (.tail (.tail (.tail (.tail .head))))) (by repeat constructor)) rfl ?_
        | refine lst_run (run_load1 rfl rfl (by first | assumption | exact (hcc _ hS).1 | exact (hcc _ hS).2.1 | exact (hcc _ hS).2.2 | exact hS.cell0 (by assumption) | exact lv_next hS | exact lv_list hS)) rfl ?_
      refine lst_run (run_move (by conv => lhs; whnf)) rfl ?_
      refine lst_run (run_indexAddr (sz := 3) rfl rfl rfl rfl (by omega) (by omega)) rfl ?_
      first
        | refine lst_run (run_loadN_own (k := 3) hS rfl rfl rfl (by first | exact .head | exact .tail .head | exact .tail (.tail .head) | exact .tail (.tail (.tail .head)) | exact .tail (.tail (.tail (.tail .head))) | exact .tail (.tail (.tail (.tail (.tail .head))))) (by repeat constructor)) rfl ?_
        | refine lst_run (run_load3 rfl rfl rfl (by first | assumption | exact (hcc _ hS).1 | exact (hcc _ hS).2.1 | exact (hcc _ hS).2.2 | exact hS.cell0 (by assumption)) (by first | assumption | exact (hcc _ hS).1 | exact (hcc _ hS).2.1 | exact (hcc _ hS).2.2 | exact hS.cell0 (by assumption)) (by first | assumption | exact (hcc _ hS).1 | exact (hcc _ hS).2.1 | exact (hcc _ hS).2.2 | exact hS.cell0 (by assumption))) rfl ?_
      refine lst_alloc (cs := [_, _, _]) hS rfl rfl rfl ?_
      clear hS
      intro b2 wx2 hS
      refine lst_storeN hS rfl (by conv => lhs; whnf) rfl rfl (by first | exact .head | exact .tail .head | exact .tail (.tail .head) | exact .tail (.tail (.tail .head)) | exact .tail (.tail (.tail (.tail .head))) | exact .tail (.tail (.tail (.tail (.tail .head))))) (by repeat constructor) (by first | exact .head | exact .tail .head | exact .tail (.tail .head) | exact .tail (.tail (.tail .head)) | exact .tail (.tail (.tail (.tail .head))) | exact .tail (.tail (.tail (.tail (.tail .head))))) ?_
      clear hS
      intro wx3 hS
      refine lst_done ?_
      refine goes_seq ?_
      refine goes_region ?_
      refine lst_run (run_fieldAddr (off := 0) rfl rfl) rfl ?_
      first
        | refine lst_run (run_load1_own hS rfl rfl (by first | exact .head | exact .tail .head | exact .tail (.tail .head) | exact .tail (.tail (.tail .head)) | exact .tail (.tail (.tail (.tail .head))) | exact .tail (.tail (.tail (.tail (.tail .head))))) (by repeat constructor)) rfl ?_
        | refine lst_run (run_load1 rfl rfl (by first | assumption | exact (hcc _ hS).1 | exact (hcc _ hS).2.1 | exact (hcc _ hS).2.2 | exact hS.cell0 (by assumption) | exact lv_next hS | exact lv_list hS)) rfl ?_
      first
        | refine lst_run (run_eql_one_int rfl rfl) rfl ?_
        | refine lst_run (run_eql_no rfl rfl (by first | assumption | omega)) rfl ?_
        | refine lst_run (run_eql_yes rfl rfl (by omega)) rfl ?_
        | refine lst_run (rfl) rfl ?_
      refine lst_run (run_move (by conv => lhs; whnf)) rfl ?_
      refine lst_guard rfl rfl ?_
      refine lst_run (run_fieldAddr (off := 1) rfl rfl) rfl ?_
      refine lst_guard rfl rfl ?_
      first
        | refine lst_run (run_load1_own hS rfl rfl (by first | exact .head | exact .tail .head | exact .tail (.tail .head) | exact .tail (.tail (.tail .head)) | exact .tail (.tail (.tail (.tail .head))) | exact .tail (.tail (.tail (.tail (.tail .head))))) (by repeat constructor)) rfl ?_
        | refine lst_run (run_load1 rfl rfl (by first | assumption | exact (hcc _ hS).1 | exact (hcc _ hS).2.1 | exact (hcc _ hS).2.2 | exact hS.cell0 (by assumption) | exact lv_next hS | exact lv_list hS)) rfl ?_
      refine lst_guard rfl rfl ?_
      refine lst_run (run_move (by conv => lhs; whnf)) rfl ?_
      refine lst_guard rfl rfl ?_
      first
        | refine lst_run (run_neq_one_int rfl rfl) rfl ?_
        | refine lst_run (run_neq_no rfl rfl (by first | assumption | omega)) rfl ?_
        | refine lst_run (run_neq_yes rfl rfl (by omega)) rfl ?_
        | refine lst_run (rfl) rfl ?_
      first
        | refine lst_run (run_pick_t rfl (by conv => lhs; whnf)) rfl ?_
        | refine lst_run (run_pick_f rfl (by conv => lhs; whnf)) rfl ?_
      refine lst_run (run_assign (by conv => lhs; whnf)) rfl ?_
      refine lst_done ?_
      refine goes_ret1 Try.func51 rfl (by conv => lhs; whnf) ?_
      exact ⟨rfl, hS.ext.below⟩
    · rw [decide_eq_true ⟨hk, hn⟩]
      refine goes_seq ?_
      refine goes_region ?_
      refine lst_box hS rfl rfl ?_
      clear hS
      intro b1 wx1 hS
      refine lst_run (run_assign (by conv => lhs; whnf)) rfl ?_
      refine lst_done ?_
      refine goes_seq ?_
      refine goes_region ?_
      refine lst_run (run_fieldAddr (off := 0) rfl rfl) rfl ?_
      first
        | refine lst_run (run_load1_own hS rfl rfl (by first | exact .head | exact .tail .head | exact .tail (.tail .head) | exact .tail (.tail (.tail .head)) | exact .tail (.tail (.tail (.tail .head))) | exact .tail (.tail (.tail (.tail (.tail .head))))) (by repeat constructor)) rfl ?_
        | refine lst_run (run_load1 rfl rfl (by first | assumption | exact (hcc _ hS).1 | exact (hcc _ hS).2.1 | exact (hcc _ hS).2.2 | exact hS.cell0 (by assumption) | exact lv_next hS | exact lv_list hS)) rfl ?_
      refine lst_run (run_move (by conv => lhs; whnf)) rfl ?_
      refine lst_run (run_indexAddr (sz := 3) rfl rfl rfl rfl (by omega) (by omega)) rfl ?_
      first
        | refine lst_run (run_loadN_own (k := 3) hS rfl rfl rfl (by first | exact .head | exact .tail .head | exact .tail (.tail .head) | exact .tail (.tail (.tail .head)) | exact .tail (.tail (.tail (.tail .head))) | exact .tail (.tail (.tail (.tail (.tail .head))))) (by repeat constructor)) rfl ?_
        | refine lst_run (run_load3 rfl rfl rfl (by first | assumption | exact (hcc _ hS).1 | exact (hcc _ hS).2.1 | exact (hcc _ hS).2.2 | exact hS.cell0 (by assumption)) (by first | assumption | exact (hcc _ hS).1 | exact (hcc _ hS).2.1 | exact (hcc _ hS).2.2 | exact hS.cell0 (by assumption)) (by first | assumption | exact (hcc _ hS).1 | exact (hcc _ hS).2.1 | exact (hcc _ hS).2.2 | exact hS.cell0 (by assumption))) rfl ?_
      refine lst_alloc (cs := [_, _, _]) hS rfl rfl rfl ?_
      clear hS
      intro b2 wx2 hS
      refine lst_storeN hS rfl (by conv => lhs; whnf) rfl rfl (by first | exact .head | exact .tail .head | exact .tail (.tail .head) | exact .tail (.tail (.tail .head)) | exact .tail (.tail (.tail (.tail .head))) | exact .tail (.tail (.tail (.tail (.tail .head))))) (by repeat constructor) (by first | exact .head | exact .tail .head | exact .tail (.tail .head) | exact .tail (.tail (.tail .head)) | exact .tail (.tail (.tail (.tail .head))) | exact .tail (.tail (.tail (.tail (.tail .head))))) ?_
      clear hS
      intro wx3 hS
      refine lst_done ?_
      refine goes_seq ?_
      refine goes_region ?_
      refine lst_run (run_fieldAddr (off := 0) rfl rfl) rfl ?_
      first
        | refine lst_run (run_load1_own hS rfl rfl (by first | exact .head | exact .tail .head | exact .tail (.tail .head) | exact .tail (.tail (.tail .head)) | exact .tail (.tail (.tail (.tail .head))) | exact .tail (.tail (.tail (.tail (.tail .head))))) (by repeat constructor)) rfl ?_
        | refine lst_run (run_load1 rfl rfl (by first | assumption | exact (hcc _ hS).1 | exact (hcc _ hS).2.1 | exact (hcc _ hS).2.2 | exact hS.cell0 (by assumption) | exact lv_next hS | exact lv_list hS)) rfl ?_
      first
        | refine lst_run (run_eql_one_int rfl rfl) rfl ?_
        | refine lst_run (run_eql_no rfl rfl (by first | assumption | omega)) rfl ?_
        | refine lst_run (run_eql_yes rfl rfl (by omega)) rfl ?_
        | refine lst_run (rfl) rfl ?_
      refine lst_run (run_move (by conv => lhs; whnf)) rfl ?_
      refine lst_guard rfl rfl ?_
      refine lst_run (run_fieldAddr (off := 1) rfl rfl) rfl ?_
      refine lst_guard rfl rfl ?_
      first
        | refine lst_run (run_load1_own hS rfl rfl (by first | exact .head | exact .tail .head | exact .tail (.tail .head) | exact .tail (.tail (.tail .head)) | exact .tail (.tail (.tail (.tail .head))) | exact .tail (.tail (.tail (.tail (.tail .head))))) (by repeat constructor)) rfl ?_
        | refine lst_run (run_load1 rfl rfl (by first | assumption | exact (hcc _ hS).1 | exact (hcc _ hS).2.1 | exact (hcc _ hS).2.2 | exact hS.cell0 (by assumption) | exact lv_next hS | exact lv_list hS)) rfl ?_
      refine lst_guard rfl rfl ?_
      refine lst_run (run_move (by conv => lhs; whnf)) rfl ?_
      refine lst_guard rfl rfl ?_
      first
        | refine lst_run (run_neq_one_int rfl rfl) rfl ?_
        | refine lst_run (run_neq_no rfl rfl (by first | assumption | omega)) rfl ?_
        | refine lst_run (run_neq_yes rfl rfl (by omega)) rfl ?_
        | refine lst_run (rfl) rfl ?_
      first
        | refine lst_run (run_pick_t rfl (by conv => lhs; whnf)) rfl ?_
        | refine lst_run (run_pick_f rfl (by conv => lhs; whnf)) rfl ?_
      refine lst_run (run_assign (by conv => lhs; whnf)) rfl ?_
      refine lst_done ?_
      refine goes_ret1 Try.func51 rfl (by conv => lhs; whnf) ?_
      exact ⟨rfl, hS.ext.below⟩
  · rw [decide_eq_false (by simp [hk])]
    refine goes_seq ?_
    refine goes_region ?_
    refine lst_box hS rfl rfl ?_
    clear hS
    intro b1 wx1 hS
    refine lst_run (run_assign (by conv => lhs; whnf)) rfl ?_
    refine lst_done ?_
    refine goes_seq ?_
    refine goes_region ?_
    refine lst_run (run_fieldAddr (off := 0) rfl rfl) rfl ?_
    first
      | refine lst_run (run_load1_own hS rfl rfl (by first | exact .head | exact .tail .head | exact .tail (.tail .head) | exact .tail (.tail (.tail .head)) | exact .tail (.tail (.tail (.tail .head))) | exact .tail (.tail (.tail (.tail (.tail .head))))) (by repeat constructor)) rfl ?_
      | refine lst_run (run_load1 rfl rfl (by first | assumption | exact (hcc _ hS).1 | exact (hcc _ hS).2.1 | exact (hcc _ hS).2.2 | exact hS.cell0 (by assumption) | exact lv_next hS | exact lv_list hS)) rfl ?_
    refine lst_run (run_move (by conv => lhs; whnf)) rfl ?_
    refine lst_run (run_indexAddr (sz := 3) rfl rfl rfl rfl (by omega) (by omega)) rfl ?_
    first
      | refine lst_run (run_loadN_own (k := 3) hS rfl rfl rfl (by first | exact .head | exact .tail .head | exact .tail (.tail .head) | exact .tail (.tail (.tail .head)) | exact .tail (.tail (.tail (.tail .head))) | exact .tail (.tail (.tail (.tail (.tail .head))))) (by repeat constructor)) rfl ?_
      | refine lst_run (run_load3 rfl rfl rfl (by first | assumption | exact (hcc _ hS).1 | exact (hcc _ hS).2.1 | exact (hcc _ hS).2.2 | exact hS.cell0 (by assumption)) (by first | assumption | exact (hcc _ hS).1 | exact (hcc _ hS).2.1 | exact (hcc _ hS).2.2 | exact hS.cell0 (by assumption)) (by first | assumption | exact (hcc _ hS).1 | exact (hcc _ hS).2.1 | exact (hcc _ hS).2.2 | exact hS.cell0 (by assumption))) rfl ?_
    refine lst_alloc (cs := [_, _, _]) hS rfl rfl rfl ?_
    clear hS
    intro b2 wx2 hS
    refine lst_storeN hS rfl (by conv => lhs; whnf) rfl rfl (by first | exact .head | exact .tail .head | exact .tail (.tail .head) | exact .tail (.tail (.tail .head)) | exact .tail (.tail (.tail (.tail .head))) | exact .tail (.tail (.tail (.tail (.tail .head))))) (by repeat constructor) (by first | exact .head | exact .tail .head | exact .tail (.tail .head) | exact .tail (.tail (.tail .head)) | exact .tail (.tail (.tail (.tail .head))) | exact .tail (.tail (.tail (.tail (.tail .head))))) ?_
    clear hS
    intro wx3 hS
    refine lst_done ?_
    refine goes_seq ?_
    refine goes_region ?_
    refine lst_run (run_fieldAddr (off := 0) rfl rfl) rfl ?_
    first
      | refine lst_run (run_load1_own hS rfl rfl (by first | exact .head | exact .tail .head | exact .tail (.tail .head) | exact .tail (.tail (.tail .head)) | exact .tail (.tail (.tail (.tail .head))) | exact .tail (.tail (.tail (.tail (.tail .head))))) (by repeat constructor)) rfl ?_
      | refine lst_run (run_load1 rfl rfl (by first | assumption | exact (hcc _ hS).1 | exact (hcc _ hS).2.1 | exact (hcc _ hS).2.2 | exact hS.cell0 (by assumption) | exact lv_next hS | exact lv_list hS)) rfl ?_
    first
      | refine lst_run (run_eql_one_int rfl rfl) rfl ?_
      | refine lst_run (run_eql_no rfl rfl (by first | assumption | omega)) rfl ?_
      | refine lst_run (run_eql_yes rfl rfl (by omega)) rfl ?_
      | refine lst_run (rfl) rfl ?_
    refine lst_run (run_move (by conv => lhs; whnf)) rfl ?_
    refine lst_pass rfl rfl rfl ?_
    refine lst_pass rfl rfl rfl ?_
    refine lst_pass rfl rfl rfl ?_
    refine lst_pass rfl rfl rfl ?_
    first
      | refine lst_run (run_pick_t rfl (by conv => lhs; whnf)) rfl ?_
      | refine lst_run (run_pick_f rfl (by conv => lhs; whnf)) rfl ?_
    refine lst_run (run_assign (by conv => lhs; whnf)) rfl ?_
    refine lst_done ?_
    refine goes_ret1 Try.func51 rfl (by conv => lhs; whnf) ?_
    exact ⟨rfl, hS.ext.below⟩
abbrev hob (A : Option Addr) (n c : Nat) (B : Option Addr) (m d : Nat) : Obj := .cells [.slice A n c, .slice B m d].toArray 25
theorem look_any (L : List HC) (A B : Option Addr) (c m d : Nat) (a : Int) (w : World) (hL : Flat 3 (hcsL L) A L.length c w) (hl63 : L.length ≤ 9223372036854775807) :
    Calls Try.prog 21 #[heapV A L.length c B m d, .int .i64 a] w fun e w' => e = .returned (.int .i64 (hlook L a)) ∧ Below w.heap.size w w' := by
  have hS := (St.start w).flat (M := []) hL
  refine goes_enter2 Try.func21 rfl Try.ntmps21 rfl ?_
  refine goes_seq ?_
  refine goes_region ?_
  refine lst_box hS rfl rfl ?_
  clear hS
  intro b1 wx1 hS
  refine lst_run (run_assign (by conv => lhs; whnf)) rfl ?_
  refine lst_done ?_
  refine goes_seq ?_
  refine goes_seq ?_
  refine goes_region ?_
  refine lst_run (run_fieldAddr (off := 0) rfl rfl) rfl ?_
  first
    | refine lst_run (run_load1_own hS rfl rfl (by first | exact .head | exact .tail .head | exact .tail (.tail .head) | exact .tail (.tail (.tail .head)) | exact .tail (.tail (.tail (.tail .head))) | exact .tail (.tail (.tail (.tail (.tail .head))))) (by repeat constructor)) rfl ?_
    | refine lst_run (run_load1 rfl rfl (by first | assumption | exact (hcc _ hS).1 | exact (hcc _ hS).2.1 | exact (hcc _ hS).2.2 | exact hS.cell0 (by assumption) | exact lv_next hS | exact lv_list hS)) rfl ?_
  refine lst_run (run_len_slice rfl rfl rfl) rfl ?_
  refine lst_run (run_move (by conv => lhs; whnf)) rfl ?_
  refine lst_done ?_
  refine goes_block ?_
  refine goes_loop2 8 1 (9 :: 10 :: 11 :: 12 :: 13 :: 4 :: 14 :: 15 :: 16 :: 17 :: 18 :: 19 :: 20 :: 21 :: 22 :: 23 :: 24 :: 25 :: []) (fun (f : Nat) v u w' => ∃ a' i : Nat, ∃ x : Int, i + f = L.length ∧ v = .int .i64 (i : Nat) ∧ u = .int .i64 x ∧ hlook L a = hlookF L f x ∧ St [] w [(b1, hob A L.length c B m d)] [Flat 3 (hcsL L) A L.length c] w') (fun f => f) (L.length) ?_ (by conv => lhs; whnf) (by conv => lhs; whnf) ?_
  · exact ⟨0, 0, a, by omega, rfl, rfl, rfl, hS⟩
  clear hS
  rintro f _ _ w2 jv ⟨_, i, x, hi, rfl, rfl, hl, hS⟩ ih
  cases f with
  | zero =>
    refine goes_seq ?_
    refine goes_region ?_
    first
      | refine lst_run (run_lss_yes rfl rfl (by omega)) rfl ?_
      | refine lst_run (run_lss_no rfl rfl (by omega)) rfl ?_
      | refine lst_run (rfl) rfl ?_
    refine lst_done ?_
    refine goes_seq ?_
    refine goes_false rfl ?_
    refine goes_exit rfl ?_
    refine goes_seq ?_
    refine goes_region ?_
    refine lst_run (run_assign (by conv => lhs; whnf)) rfl ?_
    refine lst_done ?_
    refine goes_ret1 Try.func21 rfl (by conv => lhs; whnf) ?_
    rw [hl]
    exact ⟨rfl, hS.ext.below⟩
  | succ f =>
    refine goes_seq ?_
    refine goes_region ?_
    first
      | refine lst_run (run_lss_yes rfl rfl (by omega)) rfl ?_
      | refine lst_run (run_lss_no rfl rfl (by omega)) rfl ?_
      | refine lst_run (rfl) rfl ?_
    refine lst_done ?_
    refine goes_seq ?_
    refine goes_true rfl ?_
    refine goes_skip ?_
    refine goes_seq ?_
    refine goes_block ?_
    refine goes_seq ?_
    refine goes_seq ?_
    refine goes_region ?_
    first
      | refine lst_run (run_loadN_own (k := 2) hS rfl rfl rfl (by first | exact .head | exact .tail .head | exact .tail (.tail .head) | exact .tail (.tail (.tail .head)) | exact .tail (.tail (.tail (.tail .head))) | exact .tail (.tail (.tail (.tail (.tail .head))))) (by repeat constructor)) rfl ?_
      | refine lst_run (run_load2 rfl rfl rfl (by first | assumption | exact (hcc _ hS).1 | exact (hcc _ hS).2.1 | exact (hcc _ hS).2.2 | exact hS.cell0 (by assumption)) (by first | assumption | exact (hcc _ hS).1 | exact (hcc _ hS).2.1 | exact (hcc _ hS).2.2 | exact hS.cell0 (by assumption))) rfl ?_
    refine lst_run (run_move (by conv => lhs; whnf)) rfl ?_
    refine lst_enter (run_call (by kernel_rfl) (args_2 (by conv => lhs; whnf) (by conv => lhs; whnf))) rfl ?_
    refine Calls.mono (address_any L.length c A B m d x _) ?_
    rintro _ w3 ⟨rfl, hb3⟩
    refine ⟨_, rfl, ?_⟩
    replace hS := hS.grow hb3
    by_cases hx : 0 ≤ x ∧ x < L.length
    case neg =>
      rw [show (decide (0 ≤ x) && decide (x < (L.length : Nat))) = false by rw [Bool.and_eq_false_iff]; simp only [decide_eq_false_iff_not]; omega]
      refine lst_run (rfl) rfl ?_
      refine lst_done ?_
      refine goes_true rfl ?_
      refine goes_seq ?_
      refine goes_region ?_
      refine lst_run (run_assign (by conv => lhs; whnf)) rfl ?_
      refine lst_done ?_
      refine goes_ret1 Try.func21 rfl (by conv => lhs; whnf) ?_
      rw [hl, hlookF_none (hat_none hx)]
      exact ⟨rfl, hS.ext.below⟩
    rw [show (decide (0 ≤ x) && decide (x < (L.length : Nat))) = true by rw [Bool.and_eq_true]; simp only [decide_eq_true_eq]; exact hx]
    obtain ⟨y, hy, hg⟩ := hat_some hx.1 hx.2
    obtain ⟨b, o, rfl⟩ := hL.some_ (by omega)
    have hcc : ∀ {H'} w', St [] w H' [Flat 3 (hcsL L) (some ⟨b, o, none⟩) L.length c] w' → _ := fun w' hS => (hS.fact (.head _)).cell hg
    have e1 : hlookF L (f + 1) x = if y.k = 0 ∧ y.n ≠ x then hlookF L f y.n else x := by simp only [hlookF, hy]
    refine lst_run (rfl) rfl ?_
    refine lst_done ?_
    refine goes_false rfl ?_
    refine goes_skip ?_
    refine goes_seq ?_
    refine goes_seq ?_
    refine goes_region ?_
    first
      | refine lst_run (run_loadN_own (k := 2) hS rfl rfl rfl (by first | exact .head | exact .tail .head | exact .tail (.tail .head) | exact .tail (.tail (.tail .head)) | exact .tail (.tail (.tail (.tail .head))) | exact .tail (.tail (.tail (.tail (.tail .head))))) (by repeat constructor)) rfl ?_
      | refine lst_run (run_load2 rfl rfl rfl (by first | assumption | exact (hcc _ hS).1 | exact (hcc _ hS).2.1 | exact (hcc _ hS).2.2 | exact hS.cell0 (by assumption)) (by first | assumption | exact (hcc _ hS).1 | exact (hcc _ hS).2.1 | exact (hcc _ hS).2.2 | exact hS.cell0 (by assumption))) rfl ?_
    refine lst_run (run_move (by conv => lhs; whnf)) rfl ?_
    refine lst_enter (run_call (by kernel_rfl) (args_2 (by conv => lhs; whnf) (by conv => lhs; whnf))) rfl ?_
    refine Calls.mono (bound_any L _ B c m d x y _ (hS.fact (.head _)) hy) ?_
    rintro _ w4 ⟨rfl, hb4⟩
    refine ⟨_, rfl, ?_⟩
    replace hS := hS.grow hb4
    by_cases hb : y.k = 0 ∧ y.n ≠ x
    · rw [decide_eq_true hb]
      rw [if_pos hb] at e1
      refine lst_run (rfl) rfl ?_
      refine lst_done ?_
      refine goes_false rfl ?_
      refine goes_skip ?_
      refine goes_region ?_
      refine lst_run (run_fieldAddr (off := 0) rfl rfl) rfl ?_
      first
        | refine lst_run (run_load1_own hS rfl rfl (by first | exact .head | exact .tail .head | exact .tail (.tail .head) | exact .tail (.tail (.tail .head)) | exact .tail (.tail (.tail (.tail .head))) | exact .tail (.tail (.tail (.tail (.tail .head))))) (by repeat constructor)) rfl ?_
        | refine lst_run (run_load1 rfl rfl (by first | assumption | exact (hcc _ hS).1 | exact (hcc _ hS).2.1 | exact (hcc _ hS).2.2 | exact hS.cell0 (by assumption) | exact lv_next hS | exact lv_list hS)) rfl ?_
      refine lst_run (run_move (by conv => lhs; whnf)) rfl ?_
      refine lst_run (run_indexAddr (sz := 3) rfl rfl rfl rfl (by omega) (by omega)) rfl ?_
      refine lst_run (run_fieldAddr (off := 1) rfl rfl) rfl ?_
      first
        | refine lst_run (run_load1_own hS rfl rfl (by first | exact .head | exact .tail .head | exact .tail (.tail .head) | exact .tail (.tail (.tail .head)) | exact .tail (.tail (.tail (.tail .head))) | exact .tail (.tail (.tail (.tail (.tail .head))))) (by repeat constructor)) rfl ?_
        | refine lst_run (run_load1 rfl rfl (by first | assumption | exact (hcc _ hS).1 | exact (hcc _ hS).2.1 | exact (hcc _ hS).2.2 | exact hS.cell0 (by assumption) | exact lv_next hS | exact lv_list hS)) rfl ?_
      refine lst_run (run_assign (by conv => lhs; whnf)) rfl ?_
      refine lst_done ?_
      refine goes_inBlock ?_
      refine goes_region ?_
      refine lst_run (run_add rfl rfl (by omega) (by omega)) rfl ?_
      refine lst_run (run_move (by conv => lhs; whnf)) rfl ?_
      refine lst_done ?_
      refine ih (f) _ _ _ _ ?_ ?_ (by conv => lhs; whnf) (by conv => lhs; whnf) (by kernel_rfl)
      · omega
      · exact ⟨0, i + 1, y.n, by omega, by simp, rfl, by rw [hl, e1], hS⟩
    · rw [decide_eq_false hb]
      rw [if_neg hb] at e1
      refine lst_run (rfl) rfl ?_
      refine lst_done ?_
      refine goes_true rfl ?_
      refine goes_seq ?_
      refine goes_region ?_
      refine lst_run (run_move (by conv => lhs; whnf)) rfl ?_
      refine lst_run (run_assign (by conv => lhs; whnf)) rfl ?_
      refine lst_done ?_
      refine goes_ret1 Try.func21 rfl (by conv => lhs; whnf) ?_
      rw [hl, e1]
      exact ⟨rfl, hS.ext.below⟩
theorem goodTrail_any (L : List HC) (T : List Int) (A B : Option Addr) (c d : Nat) (w : World) (hL : Flat 3 (hcsL L) A L.length c w) (hT : Flat 1 (intsV T) B T.length d w) :
    Calls Try.prog 63 #[heapV A L.length c B T.length d] w fun e w' => e = .returned (.bool (goodTr L T)) ∧ Below w.heap.size w w' := by
  have hS := ((St.start w).flat (M := []) hL).flat (M := []) hT
  refine goes_enter1 Try.func63 rfl Try.ntmps63 rfl ?_
  by_cases hl : 65536 < T.length
  · rw [show goodTr L T = false by unfold goodTr; rw [decide_eq_false (by omega)]; rfl]
    refine goes_seq ?_
    refine goes_region ?_
    refine lst_box hS rfl rfl ?_
    clear hS
    intro b1 wx1 hS
    refine lst_run (run_assign (by conv => lhs; whnf)) rfl ?_
    refine lst_done ?_
    refine goes_seq ?_
    refine goes_seq ?_
    refine goes_region ?_
    refine lst_run (run_fieldAddr (off := 1) rfl rfl) rfl ?_
    first
      | refine lst_run (run_load1_own hS rfl rfl (by first | exact .head | exact .tail .head | exact .tail (.tail .head) | exact .tail (.tail (.tail .head)) | exact .tail (.tail (.tail (.tail .head))) | exact .tail (.tail (.tail (.tail (.tail .head))))) (by repeat constructor)) rfl ?_
      | refine lst_run (run_load1 rfl rfl (by first | assumption | exact (hcc _ hS).1 | exact (hcc _ hS).2.1 | exact (hcc _ hS).2.2 | exact hS.cell0 (by assumption) | exact lv_next hS | exact lv_list hS)) rfl ?_
    refine lst_run (run_len_slice rfl rfl rfl) rfl ?_
    first
      | refine lst_run (run_gtr_yes rfl rfl (by omega)) rfl ?_
      | refine lst_run (run_gtr_no rfl rfl (by omega)) rfl ?_
      | refine lst_run (rfl) rfl ?_
    refine lst_done ?_
    refine goes_true rfl ?_
    refine goes_seq ?_
    refine goes_region ?_
    refine lst_run (run_assign (by conv => lhs; whnf)) rfl ?_
    refine lst_done ?_
    refine goes_ret1 Try.func63 rfl (by conv => lhs; whnf) ?_
    exact ⟨rfl, hS.ext.below⟩
  rw [show goodTr L T = T.all (goodTr1 L) by unfold goodTr; rw [decide_eq_true (by omega)]; rfl]
  refine goes_seq ?_
  refine goes_region ?_
  refine lst_box hS rfl rfl ?_
  clear hS
  intro b1 wx1 hS
  refine lst_run (run_assign (by conv => lhs; whnf)) rfl ?_
  refine lst_done ?_
  refine goes_seq ?_
  refine goes_seq ?_
  refine goes_region ?_
  refine lst_run (run_fieldAddr (off := 1) rfl rfl) rfl ?_
  first
    | refine lst_run (run_load1_own hS rfl rfl (by first | exact .head | exact .tail .head | exact .tail (.tail .head) | exact .tail (.tail (.tail .head)) | exact .tail (.tail (.tail (.tail .head))) | exact .tail (.tail (.tail (.tail (.tail .head))))) (by repeat constructor)) rfl ?_
    | refine lst_run (run_load1 rfl rfl (by first | assumption | exact (hcc _ hS).1 | exact (hcc _ hS).2.1 | exact (hcc _ hS).2.2 | exact hS.cell0 (by assumption) | exact lv_next hS | exact lv_list hS)) rfl ?_
  refine lst_run (run_len_slice rfl rfl rfl) rfl ?_
  first
    | refine lst_run (run_gtr_yes rfl rfl (by omega)) rfl ?_
    | refine lst_run (run_gtr_no rfl rfl (by omega)) rfl ?_
    | refine lst_run (rfl) rfl ?_
  refine lst_done ?_
  refine goes_false rfl ?_
  refine goes_skip ?_
  refine goes_seq ?_
  refine goes_seq ?_
  refine goes_region ?_
  refine lst_run (run_fieldAddr (off := 1) rfl rfl) rfl ?_
  first
    | refine lst_run (run_load1_own hS rfl rfl (by first | exact .head | exact .tail .head | exact .tail (.tail .head) | exact .tail (.tail (.tail .head)) | exact .tail (.tail (.tail (.tail .head))) | exact .tail (.tail (.tail (.tail (.tail .head))))) (by repeat constructor)) rfl ?_
    | refine lst_run (run_load1 rfl rfl (by first | assumption | exact (hcc _ hS).1 | exact (hcc _ hS).2.1 | exact (hcc _ hS).2.2 | exact hS.cell0 (by assumption) | exact lv_next hS | exact lv_list hS)) rfl ?_
  refine lst_run (run_len_slice rfl rfl rfl) rfl ?_
  refine lst_run (run_move (by conv => lhs; whnf)) rfl ?_
  refine lst_done ?_
  refine goes_block ?_
  refine goes_loop1 12 (13 :: 14 :: 15 :: 4 :: 16 :: 17 :: 18 :: 19 :: 20 :: 21 :: 22 :: 23 :: 24 :: 25 :: 26 :: 27 :: 28 :: 2 :: 29 :: []) (fun (R : List Int) v w' => ∃ D, T = D ++ R ∧ v = .int .i64 (D.length : Nat) ∧ T.all (goodTr1 L) = R.all (goodTr1 L) ∧ St [] w [(b1, hob A L.length c B T.length d)] [Flat 1 (intsV T) B T.length d, Flat 3 (hcsL L) A L.length c] w') (fun R => R.length) (T) ?_ (by conv => lhs; whnf) ?_
  · exact ⟨[], rfl, rfl, rfl, hS⟩
  clear hS
  rintro R _ w2 jv ⟨D, hD, rfl, hg, hS⟩ ih
  have hlen : T.length = D.length + R.length := by rw [hD]; simp
  cases R with
  | nil =>
    simp only [List.length_nil] at hlen
    refine goes_seq ?_
    refine goes_region ?_
    first
      | refine lst_run (run_lss_yes rfl rfl (by omega)) rfl ?_
      | refine lst_run (run_lss_no rfl rfl (by omega)) rfl ?_
      | refine lst_run (rfl) rfl ?_
    refine lst_done ?_
    refine goes_seq ?_
    refine goes_false rfl ?_
    refine goes_exit rfl ?_
    refine goes_seq ?_
    refine goes_region ?_
    refine lst_run (run_assign (by conv => lhs; whnf)) rfl ?_
    refine lst_done ?_
    refine goes_ret1 Try.func63 rfl (by conv => lhs; whnf) ?_
    rw [hg]
    exact ⟨rfl, hS.ext.below⟩
  | cons x R =>
    simp only [List.length_cons] at hlen
    obtain ⟨b, o, rfl⟩ := hT.some_ (by omega)
    have hx : T[D.length]? = some x := by rw [hD]; simp
    have hct : ∀ {H'} w', St [] w H' [Flat 1 (intsV T) (some ⟨b, o, none⟩) T.length d, Flat 3 (hcsL L) A L.length c] w' → _ := fun w' hS => (hS.fact (.head _)).int hx
    refine goes_seq ?_
    refine goes_region ?_
    first
      | refine lst_run (run_lss_yes rfl rfl (by omega)) rfl ?_
      | refine lst_run (run_lss_no rfl rfl (by omega)) rfl ?_
      | refine lst_run (rfl) rfl ?_
    refine lst_done ?_
    refine goes_seq ?_
    refine goes_true rfl ?_
    refine goes_skip ?_
    refine goes_seq ?_
    refine goes_block ?_
    refine goes_seq ?_
    refine goes_region ?_
    refine lst_run (run_indexAddr (sz := 1) rfl rfl rfl rfl (by omega) (by omega)) rfl ?_
    first
      | refine lst_run (run_load1_own hS rfl rfl (by first | exact .head | exact .tail .head | exact .tail (.tail .head) | exact .tail (.tail (.tail .head)) | exact .tail (.tail (.tail (.tail .head))) | exact .tail (.tail (.tail (.tail (.tail .head))))) (by repeat constructor)) rfl ?_
      | refine lst_run (run_load1 rfl rfl (by first | assumption | exact hct _ hS | exact hS.cell0 (by assumption) | exact lv_next hS | exact lv_list hS)) rfl ?_
    refine lst_run (run_assign (by conv => lhs; whnf)) rfl ?_
    refine lst_done ?_
    refine goes_seq ?_
    refine goes_region ?_
    first
      | refine lst_run (run_loadN_own (k := 2) hS rfl rfl rfl (by first | exact .head | exact .tail .head | exact .tail (.tail .head) | exact .tail (.tail (.tail .head)) | exact .tail (.tail (.tail (.tail .head))) | exact .tail (.tail (.tail (.tail (.tail .head))))) (by repeat constructor)) rfl ?_
      | refine lst_run (run_load2 rfl rfl rfl (by first | assumption | exact hct _ hS | exact hS.cell0 (by assumption)) (by first | assumption | exact hct _ hS | exact hS.cell0 (by assumption))) rfl ?_
    refine lst_run (run_move (by conv => lhs; whnf)) rfl ?_
    refine lst_enter (run_call (by kernel_rfl) (args_2 (by conv => lhs; whnf) (by conv => lhs; whnf))) rfl ?_
    refine Calls.mono (address_any L.length c A _ T.length d x _) ?_
    rintro _ w3 ⟨rfl, hb3⟩
    refine ⟨_, rfl, ?_⟩
    replace hS := hS.grow hb3
    by_cases hx : 0 ≤ x ∧ x < L.length
    case neg =>
      rw [show (decide (0 ≤ x) && decide (x < (L.length : Nat))) = false by rw [Bool.and_eq_false_iff]; simp only [decide_eq_false_iff_not]; omega]
      refine lst_run (rfl) rfl ?_
      refine lst_run (run_move (by conv => lhs; whnf)) rfl ?_
      refine lst_pass rfl rfl rfl ?_
      refine lst_pass rfl rfl rfl ?_
      refine lst_pass rfl rfl rfl ?_
      refine lst_pass rfl rfl rfl ?_
      refine lst_pass rfl rfl rfl ?_
      refine lst_pass rfl rfl rfl ?_
      refine lst_pass rfl rfl rfl ?_
      first
        | refine lst_run (run_pick_t rfl (by conv => lhs; whnf)) rfl ?_
        | refine lst_run (run_pick_f rfl (by conv => lhs; whnf)) rfl ?_
      refine lst_done ?_
      refine goes_true rfl ?_
      refine goes_seq ?_
      refine goes_region ?_
      refine lst_run (run_assign (by conv => lhs; whnf)) rfl ?_
      refine lst_done ?_
      refine goes_ret1 Try.func63 rfl (by conv => lhs; whnf) ?_
      rw [hg]
      refine ⟨?_, hS.ext.below⟩
      simp [goodTr1, hat_none hx]
    rw [show (decide (0 ≤ x) && decide (x < (L.length : Nat))) = true by rw [Bool.and_eq_true]; simp only [decide_eq_true_eq]; exact hx]
    obtain ⟨y, hy, hgy⟩ := hat_some hx.1 hx.2
    obtain ⟨b2, o2, rfl⟩ := hL.some_ (by omega)
    have hcc : ∀ {H'} w', St [] w H' [Flat 1 (intsV T) (some ⟨b, o, none⟩) T.length d, Flat 3 (hcsL L) (some ⟨b2, o2, none⟩) L.length c] w' → _ := fun w' hS => (hS.fact (.tail _ (.head _))).cell hgy
    by_cases hk : y.k = 0
    · refine lst_run (rfl) rfl ?_
      refine lst_run (run_move (by conv => lhs; whnf)) rfl ?_
      refine lst_guard rfl rfl ?_
      refine lst_run (run_fieldAddr (off := 0) rfl rfl) rfl ?_
      refine lst_guard rfl rfl ?_
      first
        | refine lst_run (run_load1_own hS rfl rfl (by first | exact .head | exact .tail .head | exact .tail (.tail .head) | exact .tail (.tail (.tail .head)) | exact .tail (.tail (.tail (.tail .head))) | exact .tail (.tail (.tail (.tail (.tail .head))))) (by repeat constructor)) rfl ?_
        | refine lst_run (run_load1 rfl rfl (by first | assumption | exact (hcc _ hS).1 | exact (hcc _ hS).2.1 | exact (hcc _ hS).2.2 | exact hS.cell0 (by assumption) | exact lv_next hS | exact lv_list hS)) rfl ?_
      refine lst_guard rfl rfl ?_
      refine lst_run (run_move (by conv => lhs; whnf)) rfl ?_
      refine lst_guard rfl rfl ?_
      refine lst_run (run_indexAddr (sz := 3) rfl rfl rfl rfl (by omega) (by omega)) rfl ?_
      refine lst_guard rfl rfl ?_
      refine lst_run (run_fieldAddr (off := 0) rfl rfl) rfl ?_
      refine lst_guard rfl rfl ?_
      first
        | refine lst_run (run_load1_own hS rfl rfl (by first | exact .head | exact .tail .head | exact .tail (.tail .head) | exact .tail (.tail (.tail .head)) | exact .tail (.tail (.tail (.tail .head))) | exact .tail (.tail (.tail (.tail (.tail .head))))) (by repeat constructor)) rfl ?_
        | refine lst_run (run_load1 rfl rfl (by first | assumption | exact (hcc _ hS).1 | exact (hcc _ hS).2.1 | exact (hcc _ hS).2.2 | exact hS.cell0 (by assumption) | exact lv_next hS | exact lv_list hS)) rfl ?_
      refine lst_guard rfl rfl ?_
      first
        | refine lst_run (run_neq_one_int rfl rfl) rfl ?_
        | refine lst_run (run_neq_no rfl rfl (by first | assumption | omega)) rfl ?_
        | refine lst_run (run_neq_yes rfl rfl (by omega)) rfl ?_
        | refine lst_run (rfl) rfl ?_
      first
        | refine lst_run (run_pick_t rfl (by conv => lhs; whnf)) rfl ?_
        | refine lst_run (run_pick_f rfl (by conv => lhs; whnf)) rfl ?_
      refine lst_done ?_
      refine goes_false rfl ?_
      refine goes_skip ?_
      refine goes_inBlock ?_
      refine goes_region ?_
      refine lst_run (run_add rfl rfl (by omega) (by omega)) rfl ?_
      refine lst_run (run_move (by conv => lhs; whnf)) rfl ?_
      refine lst_done ?_
      refine ih (R) _ _ _ ?_ ?_ (by conv => lhs; whnf) (by kernel_rfl)
      · simp
      · refine ⟨D ++ [x], by rw [hD]; simp, by simp, ?_, hS⟩
        rw [hg]; simp [goodTr1, hy, hk]
    · refine lst_run (rfl) rfl ?_
      refine lst_run (run_move (by conv => lhs; whnf)) rfl ?_
      refine lst_guard rfl rfl ?_
      refine lst_run (run_fieldAddr (off := 0) rfl rfl) rfl ?_
      refine lst_guard rfl rfl ?_
      first
        | refine lst_run (run_load1_own hS rfl rfl (by first | exact .head | exact .tail .head | exact .tail (.tail .head) | exact .tail (.tail (.tail .head)) | exact .tail (.tail (.tail (.tail .head))) | exact .tail (.tail (.tail (.tail (.tail .head))))) (by repeat constructor)) rfl ?_
        | refine lst_run (run_load1 rfl rfl (by first | assumption | exact (hcc _ hS).1 | exact (hcc _ hS).2.1 | exact (hcc _ hS).2.2 | exact hS.cell0 (by assumption) | exact lv_next hS | exact lv_list hS)) rfl ?_
      refine lst_guard rfl rfl ?_
      refine lst_run (run_move (by conv => lhs; whnf)) rfl ?_
      refine lst_guard rfl rfl ?_
      refine lst_run (run_indexAddr (sz := 3) rfl rfl rfl rfl (by omega) (by omega)) rfl ?_
      refine lst_guard rfl rfl ?_
      refine lst_run (run_fieldAddr (off := 0) rfl rfl) rfl ?_
      refine lst_guard rfl rfl ?_
      first
        | refine lst_run (run_load1_own hS rfl rfl (by first | exact .head | exact .tail .head | exact .tail (.tail .head) | exact .tail (.tail (.tail .head)) | exact .tail (.tail (.tail (.tail .head))) | exact .tail (.tail (.tail (.tail (.tail .head))))) (by repeat constructor)) rfl ?_
        | refine lst_run (run_load1 rfl rfl (by first | assumption | exact (hcc _ hS).1 | exact (hcc _ hS).2.1 | exact (hcc _ hS).2.2 | exact hS.cell0 (by assumption) | exact lv_next hS | exact lv_list hS)) rfl ?_
      refine lst_guard rfl rfl ?_
      first
        | refine lst_run (run_neq_one_int rfl rfl) rfl ?_
        | refine lst_run (run_neq_no rfl rfl (by first | assumption | omega)) rfl ?_
        | refine lst_run (run_neq_yes rfl rfl (by omega)) rfl ?_
        | refine lst_run (rfl) rfl ?_
      first
        | refine lst_run (run_pick_t rfl (by conv => lhs; whnf)) rfl ?_
        | refine lst_run (run_pick_f rfl (by conv => lhs; whnf)) rfl ?_
      refine lst_done ?_
      refine goes_true rfl ?_
      refine goes_seq ?_
      refine goes_region ?_
      refine lst_run (run_assign (by conv => lhs; whnf)) rfl ?_
      refine lst_done ?_
      refine goes_ret1 Try.func63 rfl (by conv => lhs; whnf) ?_
      rw [hg]
      refine ⟨?_, hS.ext.below⟩
      simp [goodTr1, hy, hk]
theorem good_any (h : HH) (A B : Option Addr) (c d : Nat) (w : World) (hH : HFl h A c B d w) :
    Calls Try.prog 34 #[hv h A c B d] w fun e w' => e = .returned (.bool (goodH h)) ∧ Below w.heap.size w w' := by
  have hS := (St.start w).base (φ := HFl h A c B d) fun w' hx => hH.ext hx
  refine goes_enter1 Try.func34 rfl Try.ntmps34 rfl ?_
  refine goes_seq ?_
  refine goes_region ?_
  refine lst_box hS rfl rfl ?_
  clear hS
  intro b1 wx1 hS
  refine lst_run (run_assign (by conv => lhs; whnf)) rfl ?_
  refine lst_done ?_
  refine goes_seq ?_
  refine goes_region ?_
  refine lst_run (run_fieldAddr (off := 0) rfl rfl) rfl ?_
  first
    | refine lst_run (run_load1_own hS rfl rfl (by first | exact .head | exact .tail .head | exact .tail (.tail .head) | exact .tail (.tail (.tail .head)) | exact .tail (.tail (.tail (.tail .head))) | exact .tail (.tail (.tail (.tail (.tail .head))))) (by repeat constructor)) rfl ?_
    | refine lst_run (run_load1 rfl rfl (by first | assumption | exact (hcc _ hS).1 | exact (hcc _ hS).2.1 | exact (hcc _ hS).2.2 | exact hS.cell0 (by assumption) | exact lv_next hS | exact lv_list hS)) rfl ?_
  refine lst_enter (run_call (by kernel_rfl) (args_1 (by conv => lhs; whnf))) rfl ?_
  refine Calls.mono (goodCells_any h.cs A c _ (hS.fact (.head _)).1) ?_
  rintro _ w3 ⟨rfl, hb3⟩
  refine ⟨_, rfl, ?_⟩
  replace hS := hS.grow hb3
  cases hg : goodCs h.cs with
  | false =>
    rw [show goodH h = false by unfold goodH; rw [hg]; rfl]
    refine lst_run (run_move (by conv => lhs; whnf)) rfl ?_
    refine lst_pass rfl rfl rfl ?_
    refine lst_pass rfl rfl rfl ?_
    first
      | refine lst_run (run_pick_t rfl (by conv => lhs; whnf)) rfl ?_
      | refine lst_run (run_pick_f rfl (by conv => lhs; whnf)) rfl ?_
    refine lst_run (run_assign (by conv => lhs; whnf)) rfl ?_
    refine lst_done ?_
    refine goes_ret1 Try.func34 rfl (by conv => lhs; whnf) ?_
    exact ⟨rfl, hS.ext.below⟩
  | true =>
    rw [show goodH h = goodTr h.cs h.tr by unfold goodH; rw [hg]; rfl]
    refine lst_run (run_move (by conv => lhs; whnf)) rfl ?_
    refine lst_guard rfl rfl ?_
    first
      | refine lst_run (run_loadN_own (k := 2) hS rfl rfl rfl (by first | exact .head | exact .tail .head | exact .tail (.tail .head) | exact .tail (.tail (.tail .head)) | exact .tail (.tail (.tail (.tail .head))) | exact .tail (.tail (.tail (.tail (.tail .head))))) (by repeat constructor)) rfl ?_
      | refine lst_run (run_load2 rfl rfl rfl (by first | assumption | exact (hcc _ hS).1 | exact (hcc _ hS).2.1 | exact (hcc _ hS).2.2 | exact hS.cell0 (by assumption)) (by first | assumption | exact (hcc _ hS).1 | exact (hcc _ hS).2.1 | exact (hcc _ hS).2.2 | exact hS.cell0 (by assumption))) rfl ?_
    refine lst_guard rfl rfl ?_
    refine lst_enter (run_call (by kernel_rfl) (args_1 (by conv => lhs; whnf))) rfl ?_
    refine Calls.mono (goodTrail_any h.cs h.tr A B c d _ (hS.fact (.head _)).1 (hS.fact (.head _)).2) ?_
    rintro _ w4 ⟨rfl, hb4⟩
    refine ⟨_, rfl, ?_⟩
    replace hS := hS.grow hb4
    first
      | refine lst_run (run_pick_t rfl (by conv => lhs; whnf)) rfl ?_
      | refine lst_run (run_pick_f rfl (by conv => lhs; whnf)) rfl ?_
    refine lst_run (run_assign (by conv => lhs; whnf)) rfl ?_
    refine lst_done ?_
    refine goes_ret1 Try.func34 rfl (by conv => lhs; whnf) ?_
    exact ⟨rfl, hS.ext.below⟩
theorem good_len {h : HH} (hg : goodH h = true) : h.cs.length ≤ 65536 ∧ h.tr.length ≤ 65536 := by
  unfold goodH goodCs goodTr at hg
  simp only [Bool.and_eq_true, decide_eq_true_eq] at hg
  exact ⟨hg.1.1, hg.2.1⟩
end Go.Proofs.Ytdflngjfnpbpmab
namespace Go.Proofs.Ytdflngjfnpbpmab
open Go.RowKit
set_option linter.unusedVariables false
set_option linter.unusedSimpArgs false
set_option maxRecDepth 100000
set_option maxHeartbeats 1000000

section
variable {M : List Nat} {w0 : World} {H : List (Nat × Obj)} {F : List (World → Prop)}
theorem cloneC_any (L : List HC) (A : Option Addr) (c : Nat) (w : World) (hL : Und F (Flat 3 (hcsL L) A L.length c)) (hl : L.length ≤ 4398046511104) (hS : St M w0 H F w) :
    Calls Try.prog 43 #[.slice A L.length c] w fun e w' => ∃ (A' : Option Addr) (c' : Nat) (O : List (Nat × Obj)), e = .returned (.slice A' L.length c') ∧ Rw 68 3 (.slice A' L.length c') L.length (hcsL L) O ∧ St M w0 (O ++ H) F w' := by
  refine goes_enter1 Try.func43 rfl Try.ntmps43 rfl ?_
  cases A with
  | none =>
    have h0 : L.length = 0 := by
      rcases Nat.eq_zero_or_pos L.length with h | h
      · exact h
      · obtain ⟨b, o, e⟩ := (hS.und hL).some_ h; cases e
    obtain rfl : L = [] := List.eq_nil_of_length_eq_zero h0
    refine goes_seq ?_
    refine goes_region ?_
    refine lst_run (run_assign (by conv => lhs; whnf)) rfl ?_
    refine lst_done ?_
    refine goes_seq ?_
    refine goes_seq ?_
    refine goes_region ?_
    refine lst_run (run_move (by conv => lhs; whnf)) rfl ?_
    refine lst_run (run_eql_slice rfl rfl rfl) rfl ?_
    refine lst_done ?_
    refine goes_true rfl ?_
    refine goes_seq ?_
    refine goes_region ?_
    refine lst_run (run_assign (by conv => lhs; whnf)) rfl ?_
    refine lst_done ?_
    refine goes_ret1 Try.func43 rfl (by conv => lhs; whnf) ?_
    exact ⟨none, 0, [], rfl, Rw.zero_, hS⟩
  | some a =>
    refine goes_seq ?_
    refine goes_region ?_
    refine lst_run (run_assign (by conv => lhs; whnf)) rfl ?_
    refine lst_done ?_
    refine goes_seq ?_
    refine goes_seq ?_
    refine goes_region ?_
    refine lst_run (run_move (by conv => lhs; whnf)) rfl ?_
    refine lst_run (run_eql_slice rfl rfl rfl) rfl ?_
    refine lst_done ?_
    refine goes_false rfl ?_
    refine goes_skip ?_
    refine goes_seq ?_
    refine goes_region ?_
    refine lst_buildSlice0 (sz := 3) hS rfl rfl rfl ?_
    clear hS
    intro b1 wx1 hS
    refine lst_run (run_move (by conv => lhs; whnf)) rfl ?_
    obtain ⟨i, z, h2, h3, h4, h5, h6⟩ := rowP_some (P := Try.prog) (el := 68) (sz := 3) (bts := 32) rfl
    refine lst_appendRw (xs := []) (O := []) hS (by conv => lhs; whnf) (by conv => lhs; whnf) rfl rfl h2 h3 h4 (by rw [h5]; exact hcsL_len L) (by rw [h5]; exact (hS.und hL).src rfl (hcsL_one L)) Rw.zero_ (.refl _) (by rw [h6]; omega) (by omega) rfl ?_
    rw [h5]
    clear hS
    intro v' O' w' hrow hS
    rw [Nat.zero_add, List.nil_append] at hrow
    obtain ⟨A', c', rfl, _⟩ := hrow.form
    refine lst_run (run_assign (by conv => lhs; whnf)) rfl ?_
    refine lst_done ?_
    refine goes_ret1 Try.func43 rfl (by conv => lhs; whnf) ?_
    exact ⟨A', c', O', rfl, hrow, (hS.perm (List.perm_append_comm_assoc O' [_] _)).drop⟩
theorem clipC_any (len c : Nat) (A : Option Addr) (w : World) (hl : len ≤ c) :
    Calls Try.prog 50 #[.slice A len c] w fun e w' => e = .returned (.slice A len len) ∧ Below w.heap.size w w' := by
  have hS := St.start w
  refine goes_enter1 Try.func50 rfl Try.ntmps50 rfl ?_
  refine goes_seq ?_
  refine goes_region ?_
  refine lst_run (run_assign (by conv => lhs; whnf)) rfl ?_
  refine lst_done ?_
  refine goes_seq ?_
  refine goes_region ?_
  refine lst_run (run_move (by conv => lhs; whnf)) rfl ?_
  refine lst_run (run_move (by conv => lhs; whnf)) rfl ?_
  refine lst_run (run_len_slice rfl rfl rfl) rfl ?_
  refine lst_run (run_move (by conv => lhs; whnf)) rfl ?_
  refine lst_run (run_len_slice rfl rfl rfl) rfl ?_
  refine lst_run (run_slice_clip (sz := 3) rfl rfl rfl rfl rfl rfl rfl (by omega)) rfl ?_
  refine lst_run (run_assign (by conv => lhs; whnf)) rfl ?_
  refine lst_done ?_
  refine goes_ret1 Try.func50 rfl (by conv => lhs; whnf) ?_
  exact ⟨rfl, hS.ext.below⟩
theorem cloneI_any (L : List Int) (A : Option Addr) (c : Nat) (w : World) (hL : Und F (Flat 1 (intsV L) A L.length c)) (hl : L.length ≤ 4398046511104) (hS : St M w0 H F w) :
    Calls Try.prog 44 #[.slice A L.length c] w fun e w' => ∃ (A' : Option Addr) (c' : Nat) (O : List (Nat × Obj)), e = .returned (.slice A' L.length c') ∧ Rw 3 1 (.slice A' L.length c') L.length (intsV L) O ∧ St M w0 (O ++ H) F w' := by
  refine goes_enter1 Try.func44 rfl Try.ntmps44 rfl ?_
  cases A with
  | none =>
    have h0 : L.length = 0 := by
      rcases Nat.eq_zero_or_pos L.length with h | h
      · exact h
      · obtain ⟨b, o, e⟩ := (hS.und hL).some_ h; cases e
    obtain rfl : L = [] := List.eq_nil_of_length_eq_zero h0
    refine goes_seq ?_
    refine goes_region ?_
    refine lst_run (run_assign (by conv => lhs; whnf)) rfl ?_
    refine lst_done ?_
    refine goes_seq ?_
    refine goes_seq ?_
    refine goes_region ?_
    refine lst_run (run_move (by conv => lhs; whnf)) rfl ?_
    refine lst_run (run_eql_slice rfl rfl rfl) rfl ?_
    refine lst_done ?_
    refine goes_true rfl ?_
    refine goes_seq ?_
    refine goes_region ?_
    refine lst_run (run_assign (by conv => lhs; whnf)) rfl ?_
    refine lst_done ?_
    refine goes_ret1 Try.func44 rfl (by conv => lhs; whnf) ?_
    exact ⟨none, 0, [], rfl, Rw.zero_, hS⟩
  | some a =>
    refine goes_seq ?_
    refine goes_region ?_
    refine lst_run (run_assign (by conv => lhs; whnf)) rfl ?_
    refine lst_done ?_
    refine goes_seq ?_
    refine goes_seq ?_
    refine goes_region ?_
    refine lst_run (run_move (by conv => lhs; whnf)) rfl ?_
    refine lst_run (run_eql_slice rfl rfl rfl) rfl ?_
    refine lst_done ?_
    refine goes_false rfl ?_
    refine goes_skip ?_
    refine goes_seq ?_
    refine goes_region ?_
    refine lst_buildSlice0 (sz := 1) hS rfl rfl rfl ?_
    clear hS
    intro b1 wx1 hS
    refine lst_run (run_move (by conv => lhs; whnf)) rfl ?_
    obtain ⟨i, z, h2, h3, h4, h5, h6⟩ := rowP_some (P := Try.prog) (el := 3) (sz := 1) (bts := 8) rfl
    refine lst_appendRw (xs := []) (O := []) hS (by conv => lhs; whnf) (by conv => lhs; whnf) rfl rfl h2 h3 h4 (by rw [h5]; exact intsV_len L) (by rw [h5]; exact (hS.und hL).src rfl (intsV_one L)) Rw.zero_ (.refl _) (by rw [h6]; omega) (by omega) rfl ?_
    rw [h5]
    clear hS
    intro v' O' w' hrow hS
    rw [Nat.zero_add, List.nil_append] at hrow
    obtain ⟨A', c', rfl, _⟩ := hrow.form
    refine lst_run (run_assign (by conv => lhs; whnf)) rfl ?_
    refine lst_done ?_
    refine goes_ret1 Try.func44 rfl (by conv => lhs; whnf) ?_
    exact ⟨A', c', O', rfl, hrow, (hS.perm (List.perm_append_comm_assoc O' [_] _)).drop⟩
theorem clipI_any (len c : Nat) (A : Option Addr) (w : World) (hl : len ≤ c) :
    Calls Try.prog 49 #[.slice A len c] w fun e w' => e = .returned (.slice A len len) ∧ Below w.heap.size w w' := by
  have hS := St.start w
  refine goes_enter1 Try.func49 rfl Try.ntmps49 rfl ?_
  refine goes_seq ?_
  refine goes_region ?_
  refine lst_run (run_assign (by conv => lhs; whnf)) rfl ?_
  refine lst_done ?_
  refine goes_seq ?_
  refine goes_region ?_
  refine lst_run (run_move (by conv => lhs; whnf)) rfl ?_
  refine lst_run (run_move (by conv => lhs; whnf)) rfl ?_
  refine lst_run (run_len_slice rfl rfl rfl) rfl ?_
  refine lst_run (run_move (by conv => lhs; whnf)) rfl ?_
  refine lst_run (run_len_slice rfl rfl rfl) rfl ?_
  refine lst_run (run_slice_clip (sz := 1) rfl rfl rfl rfl rfl rfl rfl (by omega)) rfl ?_
  refine lst_run (run_assign (by conv => lhs; whnf)) rfl ?_
  refine lst_done ?_
  refine goes_ret1 Try.func49 rfl (by conv => lhs; whnf) ?_
  exact ⟨rfl, hS.ext.below⟩
theorem clipC_st (len c : Nat) (A : Option Addr) (w : World) (hl : len ≤ c) (hS : St M w0 H F w) :
    Calls Try.prog 50 #[.slice A len c] w fun e w' => e = .returned (.slice A len len) ∧ St M w0 H F w' :=
  (clipC_any len c A w hl).mono fun e w' h => ⟨h.1, hS.grow h.2⟩
theorem grow_any (k : Nat) (w : World) (hk : k ≤ 65536) (hS : St M w0 H F w) :
    Calls Try.prog 88 #[.slice none 0 0, .int .i64 (k : Nat)] w fun e w' => ∃ (v : Value) (O : List (Nat × Obj)), e = .returned v ∧ Rw 68 3 v 0 [] O ∧ St M w0 (O ++ H) F w' := by
  refine goes_enter2 Try.func88 rfl Try.ntmps88 rfl ?_
  by_cases h0 : 0 < k
  · refine goes_seq ?_
    refine goes_region ?_
    refine lst_run (run_assign (by conv => lhs; whnf)) rfl ?_
    refine lst_done ?_
    refine goes_seq ?_
    refine goes_seq ?_
    refine goes_region ?_
    refine lst_run (run_move (by conv => lhs; whnf)) rfl ?_
    first
      | refine lst_run (run_lss_yes rfl rfl (by omega)) rfl ?_
      | refine lst_run (run_lss_no rfl rfl (by omega)) rfl ?_
      | refine lst_run (rfl) rfl ?_
    refine lst_done ?_
    refine goes_false rfl ?_
    refine goes_skip ?_
    refine goes_seq ?_
    refine goes_seq ?_
    refine goes_region ?_
    refine lst_run (run_move (by conv => lhs; whnf)) rfl ?_
    refine lst_run (run_move (by conv => lhs; whnf)) rfl ?_
    refine lst_run (run_cap_slice rfl rfl rfl) rfl ?_
    refine lst_run (run_move (by conv => lhs; whnf)) rfl ?_
    refine lst_run (run_len_slice rfl rfl rfl) rfl ?_
    first
      | refine lst_run (run_sub rfl rfl (by omega) (by omega)) rfl ?_
      | refine lst_run (run_sub_u8 rfl rfl) rfl ?_
    first
      | refine lst_run (run_sub rfl rfl (by omega) (by omega)) rfl ?_
      | refine lst_run (run_sub_u8 rfl rfl) rfl ?_
    refine lst_run (run_assign (by conv => lhs; whnf)) rfl ?_
    refine lst_done ?_
    refine goes_seq ?_
    refine goes_region ?_
    refine lst_run (run_move (by conv => lhs; whnf)) rfl ?_
    first
      | refine lst_run (run_gtr_yes rfl rfl (by omega)) rfl ?_
      | refine lst_run (run_gtr_no rfl rfl (by omega)) rfl ?_
      | refine lst_run (rfl) rfl ?_
    refine lst_done ?_
    refine goes_true rfl ?_
    refine goes_region ?_
    refine lst_run (run_move (by conv => lhs; whnf)) rfl ?_
    refine lst_run (run_move (by conv => lhs; whnf)) rfl ?_
    refine lst_run (run_cap_slice rfl rfl rfl) rfl ?_
    refine lst_run (run_slice_slice (sz := 3) rfl rfl rfl rfl (by omega) (by omega)) rfl ?_
    refine lst_run (run_move (by conv => lhs; whnf)) rfl ?_
    refine lst_appendMake (sz := 3) (bts := 32) (k := k) (ki := .i64) hS rfl (by show Value.int .i64 ((k : Int) - (((0 : Nat) : Int) - ((0 : Nat) : Int))) = _; congr 1) rfl rfl rfl (by omega) h0 (by omega) (by omega) rfl ?_
    clear hS
    intro b cap zs w2 hc hz hS
    refine lst_run (run_move (by conv => lhs; whnf)) rfl ?_
    refine lst_run (run_len_slice rfl rfl rfl) rfl ?_
    refine lst_run (run_slice_slice (sz := 3) rfl rfl rfl rfl (by omega) (by omega)) rfl ?_
    refine lst_run (run_assign (by conv => lhs; whnf)) rfl ?_
    refine lst_done ?_
    refine goes_seq ?_
    refine goes_region ?_
    refine lst_run (run_move (by conv => lhs; whnf)) rfl ?_
    refine lst_run (run_assign (by conv => lhs; whnf)) rfl ?_
    refine lst_done ?_
    refine goes_ret1 Try.func88 rfl (by conv => lhs; whnf) ?_
    exact ⟨_, [(b, .cells zs.toArray _)], rfl, Rw.own_ (xs := []) (sp := zs) rfl (by simpa using hz) (Nat.zero_le _) (by omega), hS⟩
  · refine goes_seq ?_
    refine goes_region ?_
    refine lst_run (run_assign (by conv => lhs; whnf)) rfl ?_
    refine lst_done ?_
    refine goes_seq ?_
    refine goes_seq ?_
    refine goes_region ?_
    refine lst_run (run_move (by conv => lhs; whnf)) rfl ?_
    first
      | refine lst_run (run_lss_yes rfl rfl (by omega)) rfl ?_
      | refine lst_run (run_lss_no rfl rfl (by omega)) rfl ?_
      | refine lst_run (rfl) rfl ?_
    refine lst_done ?_
    refine goes_false rfl ?_
    refine goes_skip ?_
    refine goes_seq ?_
    refine goes_seq ?_
    refine goes_region ?_
    refine lst_run (run_move (by conv => lhs; whnf)) rfl ?_
    refine lst_run (run_move (by conv => lhs; whnf)) rfl ?_
    refine lst_run (run_cap_slice rfl rfl rfl) rfl ?_
    refine lst_run (run_move (by conv => lhs; whnf)) rfl ?_
    refine lst_run (run_len_slice rfl rfl rfl) rfl ?_
    first
      | refine lst_run (run_sub rfl rfl (by omega) (by omega)) rfl ?_
      | refine lst_run (run_sub_u8 rfl rfl) rfl ?_
    first
      | refine lst_run (run_sub rfl rfl (by omega) (by omega)) rfl ?_
      | refine lst_run (run_sub_u8 rfl rfl) rfl ?_
    refine lst_run (run_assign (by conv => lhs; whnf)) rfl ?_
    refine lst_done ?_
    refine goes_seq ?_
    refine goes_region ?_
    refine lst_run (run_move (by conv => lhs; whnf)) rfl ?_
    first
      | refine lst_run (run_gtr_yes rfl rfl (by omega)) rfl ?_
      | refine lst_run (run_gtr_no rfl rfl (by omega)) rfl ?_
      | refine lst_run (rfl) rfl ?_
    refine lst_done ?_
    refine goes_false rfl ?_
    refine goes_skip ?_
    refine goes_seq ?_
    refine goes_region ?_
    refine lst_run (run_move (by conv => lhs; whnf)) rfl ?_
    refine lst_run (run_assign (by conv => lhs; whnf)) rfl ?_
    refine lst_done ?_
    refine goes_ret1 Try.func88 rfl (by conv => lhs; whnf) ?_
    exact ⟨_, [], rfl, Rw.zero_, hS⟩
theorem concat_any (L K : List HC) (A B : Option Addr) (c d sb : Nat) (w : World) (hL : Und F (Flat 3 (hcsL L) A L.length c)) (hK : Und F (Flat 3 (hcsL K) B K.length d)) (hl : L.length + K.length ≤ 65536)
    (hS : St M w0 ((sb, .cells [.slice A L.length c, .slice B K.length d].toArray 22) :: H) F w) :
    Calls Try.prog 71 #[.slice (some ⟨sb, 0, none⟩) 2 2] w fun e w' => ∃ (A' : Option Addr) (c' : Nat) (O : List (Nat × Obj)), e = .returned (.slice A' (L ++ K).length c') ∧ Rw 68 3 (.slice A' (L ++ K).length c') (L ++ K).length (hcsL (L ++ K)) O ∧ St M w0 (O ++ H) F w' := by
  refine goes_enter1 Try.func71 rfl Try.ntmps71 rfl ?_
  refine goes_seq ?_
  refine goes_region ?_
  refine lst_run (run_assign (by conv => lhs; whnf)) rfl ?_
  refine lst_done ?_
  refine goes_seq ?_
  refine goes_region ?_
  refine lst_run (run_assign (by conv => lhs; whnf)) rfl ?_
  refine lst_done ?_
  refine goes_seq ?_
  refine goes_seq ?_
  refine goes_region ?_
  refine lst_run (run_move (by conv => lhs; whnf)) rfl ?_
  refine lst_run (run_len_slice rfl rfl rfl) rfl ?_
  refine lst_run (run_move (by conv => lhs; whnf)) rfl ?_
  refine lst_done ?_
  refine goes_block ?_
  refine goes_loop2 11 3 (12 :: 13 :: 14 :: 5 :: 15 :: 16 :: 17 :: 18 :: 19 :: 20 :: 21 :: 22 :: []) (fun (i : Nat) v u w' => ∃ j : Nat, j + i = 2 ∧ v = .int .i64 (j : Nat) ∧ u = .int .i64 ((if j = 0 then 0 else if j = 1 then L.length else L.length + K.length : Nat) : Int) ∧ St M w0 ((sb, .cells [.slice A L.length c, .slice B K.length d].toArray 22) :: H) F w') (fun i => i) (2) ?_ (by conv => lhs; whnf) (by conv => lhs; whnf) ?_
  · exact ⟨0, rfl, rfl, rfl, hS⟩
  clear hS
  rintro i _ _ w2 jv ⟨j, hj, rfl, rfl, hS⟩ ih
  match i, hj with
  | 2, hj =>
    obtain rfl : j = 0 := by omega
    rw [if_pos rfl]
    refine goes_seq ?_
    refine goes_region ?_
    first
      | refine lst_run (run_lss_yes rfl rfl (by omega)) rfl ?_
      | refine lst_run (run_lss_no rfl rfl (by omega)) rfl ?_
      | refine lst_run (rfl) rfl ?_
    refine lst_done ?_
    refine goes_seq ?_
    refine goes_true rfl ?_
    refine goes_skip ?_
    refine goes_seq ?_
    refine goes_block ?_
    refine goes_seq ?_
    refine goes_region ?_
    refine lst_run (run_indexAddr (sz := 1) rfl rfl rfl rfl (by omega) (by omega)) rfl ?_
    first
      | refine lst_run (run_load1_own hS rfl rfl (by first | exact .head | exact .tail .head | exact .tail (.tail .head) | exact .tail (.tail (.tail .head)) | exact .tail (.tail (.tail (.tail .head))) | exact .tail (.tail (.tail (.tail (.tail .head))))) (by repeat constructor)) rfl ?_
      | refine lst_run (run_load1 rfl rfl (by first | assumption | exact hS.cell0 (by assumption) | exact lv_next hS | exact lv_list hS)) rfl ?_
    refine lst_run (run_assign (by conv => lhs; whnf)) rfl ?_
    refine lst_done ?_
    refine goes_seq ?_
    refine goes_region ?_
    refine lst_run (run_move (by conv => lhs; whnf)) rfl ?_
    refine lst_run (run_move (by conv => lhs; whnf)) rfl ?_
    refine lst_run (run_len_slice rfl rfl rfl) rfl ?_
    refine lst_run (run_add rfl rfl (by omega) (by omega)) rfl ?_
    refine lst_run (run_assign (by conv => lhs; whnf)) rfl ?_
    refine lst_done ?_
    refine goes_seq ?_
    refine goes_region ?_
    refine lst_run (run_move (by conv => lhs; whnf)) rfl ?_
    first
      | refine lst_run (run_lss_yes rfl rfl (by omega)) rfl ?_
      | refine lst_run (run_lss_no rfl rfl (by omega)) rfl ?_
      | refine lst_run (rfl) rfl ?_
    refine lst_done ?_
    refine goes_false rfl ?_
    refine goes_skip ?_
    refine goes_inBlock ?_
    refine goes_region ?_
    refine lst_run (run_add rfl rfl (by omega) (by omega)) rfl ?_
    refine lst_run (run_move (by conv => lhs; whnf)) rfl ?_
    refine lst_done ?_
    refine ih (1) _ _ _ _ ?_ ?_ (by conv => lhs; whnf) (by conv => lhs; whnf) (by kernel_rfl)
    · omega
    · exact ⟨1, rfl, rfl, by simp, hS⟩
  | 1, hj =>
    obtain rfl : j = 1 := by omega
    rw [if_neg (show ¬ (1 : Nat) = 0 by omega), if_pos rfl]
    refine goes_seq ?_
    refine goes_region ?_
    first
      | refine lst_run (run_lss_yes rfl rfl (by omega)) rfl ?_
      | refine lst_run (run_lss_no rfl rfl (by omega)) rfl ?_
      | refine lst_run (rfl) rfl ?_
    refine lst_done ?_
    refine goes_seq ?_
    refine goes_true rfl ?_
    refine goes_skip ?_
    refine goes_seq ?_
    refine goes_block ?_
    refine goes_seq ?_
    refine goes_region ?_
    refine lst_run (run_indexAddr (sz := 1) rfl rfl rfl rfl (by omega) (by omega)) rfl ?_
    first
      | refine lst_run (run_load1_own hS rfl rfl (by first | exact .head | exact .tail .head | exact .tail (.tail .head) | exact .tail (.tail (.tail .head)) | exact .tail (.tail (.tail (.tail .head))) | exact .tail (.tail (.tail (.tail (.tail .head))))) (by repeat constructor)) rfl ?_
      | refine lst_run (run_load1 rfl rfl (by first | assumption | exact hS.cell0 (by assumption) | exact lv_next hS | exact lv_list hS)) rfl ?_
    refine lst_run (run_assign (by conv => lhs; whnf)) rfl ?_
    refine lst_done ?_
    refine goes_seq ?_
    refine goes_region ?_
    refine lst_run (run_move (by conv => lhs; whnf)) rfl ?_
    refine lst_run (run_move (by conv => lhs; whnf)) rfl ?_
    refine lst_run (run_len_slice rfl rfl rfl) rfl ?_
    refine lst_run (run_add rfl rfl (by omega) (by omega)) rfl ?_
    refine lst_run (run_assign (by conv => lhs; whnf)) rfl ?_
    refine lst_done ?_
    refine goes_seq ?_
    refine goes_region ?_
    refine lst_run (run_move (by conv => lhs; whnf)) rfl ?_
    first
      | refine lst_run (run_lss_yes rfl rfl (by omega)) rfl ?_
      | refine lst_run (run_lss_no rfl rfl (by omega)) rfl ?_
      | refine lst_run (rfl) rfl ?_
    refine lst_done ?_
    refine goes_false rfl ?_
    refine goes_skip ?_
    refine goes_inBlock ?_
    refine goes_region ?_
    refine lst_run (run_add rfl rfl (by omega) (by omega)) rfl ?_
    refine lst_run (run_move (by conv => lhs; whnf)) rfl ?_
    refine lst_done ?_
    refine ih (0) _ _ _ _ ?_ ?_ (by conv => lhs; whnf) (by conv => lhs; whnf) (by kernel_rfl)
    · omega
    · exact ⟨2, rfl, rfl, by simp, hS⟩
  | 0, hj =>
    obtain rfl : j = 2 := by omega
    rw [if_neg (show ¬ (2 : Nat) = 0 by omega), if_neg (show ¬ (2 : Nat) = 1 by omega)]
    refine goes_seq ?_
    refine goes_region ?_
    first
      | refine lst_run (run_lss_yes rfl rfl (by omega)) rfl ?_
      | refine lst_run (run_lss_no rfl rfl (by omega)) rfl ?_
      | refine lst_run (rfl) rfl ?_
    refine lst_done ?_
    refine goes_seq ?_
    refine goes_false rfl ?_
    refine goes_exit rfl ?_
    refine goes_seq ?_
    refine goes_region ?_
    refine lst_run (run_move (by conv => lhs; whnf)) rfl ?_
    refine lst_enter (run_call (by kernel_rfl) (args_2 (by conv => lhs; whnf) (by conv => lhs; whnf))) rfl ?_
    refine Calls.mono (grow_any (L.length + K.length) _ hl hS) ?_
    rintro _ w3 ⟨v3, O3, rfl, hrow3, hS'⟩
    refine ⟨_, rfl, ?_⟩
    replace hS := hS'
    clear hS'
    refine lst_run (run_assign (by conv => lhs; whnf)) rfl ?_
    refine lst_done ?_
    refine goes_seq ?_
    refine goes_seq ?_
    refine goes_region ?_
    refine lst_run (run_move (by conv => lhs; whnf)) rfl ?_
    refine lst_run (run_len_slice rfl rfl rfl) rfl ?_
    refine lst_run (run_move (by conv => lhs; whnf)) rfl ?_
    refine lst_done ?_
    refine goes_block ?_
    refine goes_loop2 27 6 (28 :: 29 :: 30 :: 8 :: 31 :: 32 :: 33 :: 34 :: []) (fun (i : Nat) v u w' => ∃ (j : Nat) (D : List HC) (O : List (Nat × Obj)), j + i = 2 ∧ v = .int .i64 (j : Nat) ∧ D = (if j = 0 then [] else if j = 1 then L else L ++ K) ∧ Rw 68 3 u D.length (hcsL D) O ∧ St M w0 (O ++ (sb, .cells [.slice A L.length c, .slice B K.length d].toArray 22) :: H) F w') (fun i => i) (2) ?_ (by conv => lhs; whnf) (by conv => lhs; whnf) ?_
    · exact ⟨0, [], O3, rfl, rfl, rfl, hrow3, hS⟩
    clear hS
    rintro i _ u w4 jv2 ⟨j, D, O, hj, rfl, hD, hrow, hS⟩ ih
    match i, hj with
    | 2, hj =>
      obtain rfl : j = 0 := by omega
      obtain rfl : D = [] := hD
      replace hS := hS.raise
      refine goes_seq ?_
      refine goes_region ?_
      first
        | refine lst_run (run_lss_yes rfl rfl (by omega)) rfl ?_
        | refine lst_run (run_lss_no rfl rfl (by omega)) rfl ?_
        | refine lst_run (rfl) rfl ?_
      refine lst_done ?_
      refine goes_seq ?_
      refine goes_true rfl ?_
      refine goes_skip ?_
      refine goes_seq ?_
      refine goes_block ?_
      refine goes_seq ?_
      refine goes_region ?_
      refine lst_run (run_indexAddr (sz := 1) rfl rfl rfl rfl (by omega) (by omega)) rfl ?_
      first
        | refine lst_run (run_load1_own hS rfl rfl (by first | exact .head | exact .tail .head | exact .tail (.tail .head) | exact .tail (.tail (.tail .head)) | exact .tail (.tail (.tail (.tail .head))) | exact .tail (.tail (.tail (.tail (.tail .head))))) (by repeat constructor)) rfl ?_
        | refine lst_run (run_load1 rfl rfl (by first | assumption | exact hS.cell0 (by assumption) | exact lv_next hS | exact lv_list hS)) rfl ?_
      refine lst_run (run_assign (by conv => lhs; whnf)) rfl ?_
      refine lst_done ?_
      refine goes_region ?_
      refine lst_run (run_move (by conv => lhs; whnf)) rfl ?_
      refine lst_run (run_move (by conv => lhs; whnf)) rfl ?_
      refine lst_appC hS (by conv => lhs; whnf) (by conv => lhs; whnf) rfl rfl rfl (hS.und hL) hrow (List.perm_append_comm_assoc [_] O _) (by simp; omega) rfl ?_
      clear hS
      intro v5 O5 w5 hrow5 hS
      refine lst_run (run_assign (by conv => lhs; whnf)) rfl ?_
      refine lst_done ?_
      refine goes_inBlock ?_
      refine goes_region ?_
      refine lst_run (run_add rfl rfl (by omega) (by omega)) rfl ?_
      refine lst_run (run_move (by conv => lhs; whnf)) rfl ?_
      refine lst_done ?_
      refine ih (1) _ _ _ _ ?_ ?_ (by conv => lhs; whnf) (by conv => lhs; whnf) (by kernel_rfl)
      · omega
      · exact ⟨1, L, O5, rfl, rfl, by simp, by simpa [hcsL] using hrow5, hS⟩
    | 1, hj =>
      obtain rfl : j = 1 := by omega
      have hD2 : D = L := by simpa using hD
      rw [hD2] at hrow
      replace hS := hS.raise
      refine goes_seq ?_
      refine goes_region ?_
      first
        | refine lst_run (run_lss_yes rfl rfl (by omega)) rfl ?_
        | refine lst_run (run_lss_no rfl rfl (by omega)) rfl ?_
        | refine lst_run (rfl) rfl ?_
      refine lst_done ?_
      refine goes_seq ?_
      refine goes_true rfl ?_
      refine goes_skip ?_
      refine goes_seq ?_
      refine goes_block ?_
      refine goes_seq ?_
      refine goes_region ?_
      refine lst_run (run_indexAddr (sz := 1) rfl rfl rfl rfl (by omega) (by omega)) rfl ?_
      first
        | refine lst_run (run_load1_own hS rfl rfl (by first | exact .head | exact .tail .head | exact .tail (.tail .head) | exact .tail (.tail (.tail .head)) | exact .tail (.tail (.tail (.tail .head))) | exact .tail (.tail (.tail (.tail (.tail .head))))) (by repeat constructor)) rfl ?_
        | refine lst_run (run_load1 rfl rfl (by first | assumption | exact hS.cell0 (by assumption) | exact lv_next hS | exact lv_list hS)) rfl ?_
      refine lst_run (run_assign (by conv => lhs; whnf)) rfl ?_
      refine lst_done ?_
      refine goes_region ?_
      refine lst_run (run_move (by conv => lhs; whnf)) rfl ?_
      refine lst_run (run_move (by conv => lhs; whnf)) rfl ?_
      refine lst_appC hS (by conv => lhs; whnf) (by conv => lhs; whnf) rfl rfl rfl (hS.und hK) hrow (List.perm_append_comm_assoc [_] O _) (by omega) rfl ?_
      clear hS
      intro v5 O5 w5 hrow5 hS
      refine lst_run (run_assign (by conv => lhs; whnf)) rfl ?_
      refine lst_done ?_
      refine goes_inBlock ?_
      refine goes_region ?_
      refine lst_run (run_add rfl rfl (by omega) (by omega)) rfl ?_
      refine lst_run (run_move (by conv => lhs; whnf)) rfl ?_
      refine lst_done ?_
      refine ih (0) _ _ _ _ ?_ ?_ (by conv => lhs; whnf) (by conv => lhs; whnf) (by kernel_rfl)
      · omega
      · exact ⟨2, L ++ K, O5, rfl, rfl, by simp, by rw [hcsL_app, List.length_append]; exact hrow5, hS⟩
    | 0, hj =>
      obtain rfl : j = 2 := by omega
      have hD2 : D = L ++ K := by simpa using hD
      rw [hD2] at hrow
      obtain ⟨A', c', rfl, _⟩ := hrow.form
      refine goes_seq ?_
      refine goes_region ?_
      first
        | refine lst_run (run_lss_yes rfl rfl (by omega)) rfl ?_
        | refine lst_run (run_lss_no rfl rfl (by omega)) rfl ?_
        | refine lst_run (rfl) rfl ?_
      refine lst_done ?_
      refine goes_seq ?_
      refine goes_false rfl ?_
      refine goes_exit rfl ?_
      refine goes_seq ?_
      refine goes_region ?_
      refine lst_run (run_move (by conv => lhs; whnf)) rfl ?_
      refine lst_run (run_assign (by conv => lhs; whnf)) rfl ?_
      refine lst_done ?_
      refine goes_ret1 Try.func71 rfl (by conv => lhs; whnf) ?_
      exact ⟨A', c', O, rfl, hrow, hS.raise.drop⟩
end
end Go.Proofs.Ytdflngjfnpbpmab
namespace Go.Proofs.Ytdflngjfnpbpmab
open Go.RowKit
set_option linter.unusedSimpArgs false
set_option linter.unusedVariables false

/-- How a region is walked: an operation that only reads; one of several that may come up; the rest in the order of the text. -/
inductive Plan where
  | tail
  | read (i : Nat) (p : Plan)
  | pick (i : Nat) (p more : Plan)
  | none
def Plan.heads : Plan → List Nat
  | .pick i _ more => i :: more.heads
  | _ => []
section
variable {P : Program} {ops : Array Oper} {Q : Exit → Act → World → Prop} {md : Region.Mode} {S : World → Prop} {n : Nat}
def wpPlan (P : Program) (ops : Array Oper) (Q : Exit → Act → World → Prop) (S : World → Prop) (tail : List Oper) : Plan → Act → World → Prop
  | .tail, a, w => wpList P ops Q tail a w
  | .read i p, a, w => ∃ o v, ops[i]? = some o ∧ YieldsIf P ops S o v a ∧ (∀ c a w, Q (.panic c) (a.put o.dst v) w → Q (.panic c) a w) ∧ wpPlan P ops Q S tail p (a.put o.dst v) w
  | .pick i p more, a, w => (∃ o, ops[i]? = some o ∧ wpList P ops (Exit.then (fun a' w' => S w' ∧ wpPlan P ops Q S tail p a' w') Q) [o] a w) ∧ wpPlan P ops Q S tail more a w
  | .none, _, _ => True
def planB (md : Region.Mode) (ops : Array Oper) (n : Nat) : Plan → Nat → Array Bool → Bool → Bool
  | .tail, d, listed, top => top && decide (d = 0) && Region.seqB md ops (ops.size - n) n listed
  | .read i p, d, listed, top => top && decide (0 < d) && (Region.ready md ops listed).contains i && Region.free md ops listed i && decide (i < n) && planB md ops n p (d - 1) (listed.setIfInBounds i true) true
  | .pick i p more, d, listed, top => (!top || decide (Region.ready md ops listed = (Plan.pick i p more).heads)) && decide (0 < d) && decide (i < n) && planB md ops n p (d - 1) (listed.setIfInBounds i true) true && planB md ops n more d listed false
  | .none, _, _, top => !top
theorem plan_pick {tail : List Oper} {a : Act} {w : World} {d : Nat} {listed : Array Bool} : ∀ (pl : Plan), planB md ops n pl d listed false = true → wpPlan P ops Q S tail pl a w → ∀ j ∈ pl.heads, j < n ∧ 0 < d ∧ ∃ p o, ops[j]? = some o ∧ planB md ops n p (d - 1) (listed.setIfInBounds j true) true = true ∧ wpList P ops (Exit.then (fun a' w' => S w' ∧ wpPlan P ops Q S tail p a' w') Q) [o] a w
  | .tail, h, _, j, hj => by simp [Plan.heads] at hj
  | .read i p, h, _, j, hj => by simp [Plan.heads] at hj
  | .none, h, _, j, hj => by simp [Plan.heads] at hj
  | .pick i p more, h, hw, j, hj => by
    simp only [planB, Bool.and_eq_true, decide_eq_true_eq] at h
    obtain ⟨⟨⟨⟨_, hd⟩, hin⟩, h1⟩, h2⟩ := h
    simp only [Plan.heads, List.mem_cons] at hj
    rcases hj with rfl | hj
    · obtain ⟨⟨o, ho, hl⟩, _⟩ := hw
      exact ⟨hin, hd, p, o, ho, h1, hl⟩
    · exact plan_pick more h2 hw.2 j hj
theorem wpMix_of_plan (hsel : Region.noSelect ops = true) (tail : List Oper) (htl : ∀ j, tail[j]? = ops[n + j]?) (htn : tail.length = ops.size - n) (hwait : n < ops.size → Region.sinkB md ops n = true ∧ Region.chainB md ops n = true) : ∀ (d : Nat) (pl : Plan) (listed : Array Bool) (a : Act) (w : World), HeadInv md ops n listed → S w →
    planB md ops n pl d listed true = true → wpPlan P ops Q S tail pl a w → wpMix P md ops Q S n (d + tail.length) listed a w := by
  intro d
  induction d with
  | zero =>
    intro pl listed a w hcl hS hB h
    cases pl with
    | tail =>
      simp only [planB, Bool.and_eq_true] at hB
      rw [Nat.zero_add]
      exact wpMix_of_seq tail n listed a w (Nat.le_refl _) htl (by rw [htn]; exact hB.2) h
    | read i p => simp [planB] at hB
    | pick i p more => simp [planB] at hB
    | none => simp [planB] at hB
  | succ d ih =>
    intro pl listed a w hcl hS hB h
    cases pl with
    | tail => simp [planB] at hB
    | none => simp [planB] at hB
    | read i p =>
      simp only [planB, Bool.and_eq_true, decide_eq_true_eq] at hB
      obtain ⟨⟨⟨⟨_, hr⟩, hf⟩, hin⟩, hB'⟩ := hB
      obtain ⟨o, v, ho, hy, hQ, h'⟩ := h
      have hr' : i ∈ Region.ready md ops listed := by simpa using hr
      rw [show d + 1 + tail.length = (d + tail.length) + 1 by omega]
      exact wpMix_first ho (Region.noSelect_spec hsel) hQ hwait hin _ listed a w hcl (Region.free_spec ho hf) hr' hy hS
        (ih p _ _ _ (hcl.set hr' hin) hS hB' h')
    | pick i p more =>
      have hB0 : planB md ops n (.pick i p more) (d + 1) listed false = true := by
        simp only [planB, Bool.and_eq_true, decide_eq_true_eq] at hB ⊢
        obtain ⟨⟨⟨⟨_, hd⟩, hin⟩, h1⟩, h2⟩ := hB
        exact ⟨⟨⟨⟨by simp, hd⟩, hin⟩, h1⟩, h2⟩
      have hr : Region.ready md ops listed = (Plan.pick i p more).heads := by
        simp only [planB, Bool.and_eq_true, decide_eq_true_eq] at hB
        simpa using hB.1.1.1.1
      have hk := plan_pick (P := P) (Q := Q) (S := S) (tail := tail) (a := a) (w := w) _ hB0 h
      rw [show d + 1 + tail.length = (d + tail.length) + 1 by omega]
      refine ⟨fun h1 => (by rw [h1] at hr; cases hr), fun j hj => ?_⟩
      obtain ⟨hjn, _, q, o, ho, hq, hl⟩ := hk j (by rw [← hr]; exact hj)
      exact wpOp_mono (fun a' w' h3 => ⟨fun _ => h3.1, ih q _ _ _ (hcl.set hj hjn) h3.1 hq h3.2⟩) (wpOp_of_list ho hl)
theorem wp_region_plan {id : Nat} {a : Act} {w : World} {l : List Oper} (S : World → Prop) (n : Nat) (pl : Plan) (hm : P.follows .mixedOrders = true)
    (hB : (Region.noSelect l.toArray && decide (n ≤ l.length) && (decide (n = l.length) || (Region.sinkB .any l.toArray n && Region.chainB .any l.toArray n)) && planB .any l.toArray n pl n (Array.replicate l.toArray.size false) true) = true) (hS : S w.drew)
    (h : wpPlan P l.toArray Q S (l.drop n) pl a w.drew) : (Code.region id l.toArray true).wp P Q a w := by
  simp only [Bool.and_eq_true, decide_eq_true_eq] at hB
  obtain ⟨⟨⟨hsel, hle⟩, hwt⟩, hB⟩ := hB
  have hcl : HeadInv .any l.toArray n (Array.replicate l.toArray.size false) :=
    ⟨by simp, fun j oj _ hl => (by rw [getD_replicate_false] at hl; cases hl), fun t _ ht => getD_in (by simpa using ht) (getD_replicate_false _ _)⟩
  have hwait : n < l.toArray.size → Region.sinkB .any l.toArray n = true ∧ Region.chainB .any l.toArray n = true := fun h => by
    simp only [Bool.or_eq_true, Bool.and_eq_true, decide_eq_true_eq] at hwt
    rcases hwt with e | e
    · simp at h; omega
    · exact e
  have hdl : (l.drop n).length = l.toArray.size - n := by simp
  have H := wpMix_of_plan (md := .any) (n := n) hsel (l.drop n) (fun j => by simp [List.getElem?_drop]) hdl hwait n pl _ a w.drew hcl hS hB h
  refine wp_region_any hm ?_
  have e : n + (l.drop n).length = l.toArray.size := by rw [hdl]; simp; omega
  rw [e] at H
  exact wpAny_of_mix _ _ _ _ H
end
section
variable {P : Program} {f : FuncId} {R : Ending → World → Prop} {k : List Item} {n : Nat} {e : Env} {w : World} {S : World → Prop} {ops : Array Oper} {tail : List Oper} {r more : Plan}
variable {ty : TypeId} {pos : String} {after : Array Edge} {d i : Nat}
def Pln (P : Program) (f : FuncId) (R : Ending → World → Prop) (k : List Item) (ops : Array Oper) (S : World → Prop) (tail : List Oper) (r : Plan) (n : Nat) (e : Env) (w : World) : Prop :=
  wpPlan P ops (qk P f R k) S tail r (act n e) w
theorem goes_plan {id : Nat} {l : List Oper} (S : World → Prop) (m : Nat) (pl : Plan) (hm : P.follows .mixedOrders = true)
    (hB : (Region.noSelect l.toArray && decide (m ≤ l.length) && (decide (m = l.length) || (Region.sinkB .any l.toArray m && Region.chainB .any l.toArray m)) && planB .any l.toArray m pl m (Array.replicate l.toArray.size false) true) = true)
    (hS : S w.drew) (h : Pln P f R k l.toArray S (l.drop m) pl n e w.drew) : Goes P f R (.code (.region id l.toArray true) :: k) (act n e) w :=
  goes_of_wp (wp_region_plan S m pl hm hB hS h)
theorem pln_read {op : Op} {v : Value} (ho : ops[i]? = some ⟨some d, op, ty, pos, after, none⟩) (hr : ∀ w', S w' → (execOp (ev n e) ⟨some d, op, ty, pos, after, none⟩).run P w' = .ok (.value v) w') (hd : Nat.blt d n = true)
    (h : Pln P f R k ops S tail r n ((d, v) :: e) w) : Pln P f R k ops S tail (.read i r) n e w := by
  refine ⟨_, v, ho, .inl ⟨by simp [Region.wanted], fun w' hw => by rw [act_eval]; exact hr w' hw⟩, fun c a w h => h.elim, ?_⟩
  rw [act_put hd]; exact h
def qp (P : Program) (f : FuncId) (R : Ending → World → Prop) (k : List Item) (ops : Array Oper) (S : World → Prop) (tail : List Oper) (r : Plan) : Exit → Act → World → Prop :=
  Exit.then (fun a' w' => S w' ∧ wpPlan P ops (qk P f R k) S tail r a' w') (qk P f R k)
theorem pln_pick {o : Oper} (ho : ops[i]? = some o) (h : Lst P (qp P f R k ops S tail r) ops [o] n e w) (h2 : Pln P f R k ops S tail more n e w) : Pln P f R k ops S tail (.pick i r more) n e w := by unfold Lst at h; exact ⟨⟨o, ho, h⟩, h2⟩
theorem pln_last {o : Oper} (ho : ops[i]? = some o) (h : Lst P (qp P f R k ops S tail r) ops [o] n e w) : Pln P f R k ops S tail (.pick i r .none) n e w := by unfold Lst at h; exact ⟨⟨o, ho, h⟩, trivial⟩
theorem lst_pln (hS : S w) (h : Pln P f R k ops S tail r n e w) : Lst P (qp P f R k ops S tail r) ops [] n e w := by unfold Lst; exact ⟨hS, h⟩
theorem pln_tail (h : Lst P (qk P f R k) ops tail n e w) : Pln P f R k ops S tail .tail n e w := by unfold Lst at h; exact h
/-- The ways meet, and tell of two slots. -/
theorem goes_meet2 {c1 : Item} (s t : Nat) (J : List Nat) (Φ : Value → Value → World → Prop)
    (h : (∀ (v u : Value) (e' : Env) (w' : World), Φ v u w' → lk e' s = v → lk e' t = u → keep (s :: t :: J) e' = keep (s :: t :: J) e → Goes P f R k (act n e') w') → Goes P f R (c1 :: k) (act n e) w)
    (h2 : ∀ (jv : Nat → Value) (v u : Value) (w' : World), Φ v u w' → Goes P f R k (act n ((s, v) :: (t, u) :: (junkE jv J ++ e))) w') : Goes P f R (c1 :: k) (act n e) w :=
  h fun v u e' w' hΦ h1 h3 hk => by
    have := h2 (lk e') v u w' hΦ
    rw [act_round hk]
    have e2 : junkE (lk e') (s :: t :: J) ++ e = (s, v) :: (t, u) :: (junkE (lk e') J ++ e) := by simp [junkE, h1, h3]
    rw [e2]; exact this
theorem goes_meet3 {c1 : Item} (s t u : Nat) (J : List Nat) (Φ : Value → Value → Value → World → Prop)
    (h : (∀ (v v2 v3 : Value) (e' : Env) (w' : World), Φ v v2 v3 w' → lk e' s = v → lk e' t = v2 → lk e' u = v3 → keep (s :: t :: u :: J) e' = keep (s :: t :: u :: J) e → Goes P f R k (act n e') w') → Goes P f R (c1 :: k) (act n e) w)
    (h2 : ∀ (jv : Nat → Value) (v v2 v3 : Value) (w' : World), Φ v v2 v3 w' → Goes P f R k (act n ((s, v) :: (t, v2) :: (u, v3) :: (junkE jv J ++ e))) w') : Goes P f R (c1 :: k) (act n e) w :=
  h fun v v2 v3 e' w' hΦ h1 h3 h4 hk => by
    have := h2 (lk e') v v2 v3 w' hΦ
    rw [act_round hk]
    have e2 : junkE (lk e') (s :: t :: u :: J) ++ e = (s, v) :: (t, v2) :: (u, v3) :: (junkE (lk e') J ++ e) := by simp [junkE, h1, h3, h4]
    rw [e2]; exact this
theorem goes_meet5 {c1 : Item} (s t u x y : Nat) (J : List Nat) (Φ : Value → Value → Value → Value → Value → World → Prop)
    (h : (∀ (v v2 v3 v4 v5 : Value) (e' : Env) (w' : World), Φ v v2 v3 v4 v5 w' → lk e' s = v → lk e' t = v2 → lk e' u = v3 → lk e' x = v4 → lk e' y = v5 → keep (s :: t :: u :: x :: y :: J) e' = keep (s :: t :: u :: x :: y :: J) e → Goes P f R k (act n e') w') → Goes P f R (c1 :: k) (act n e) w)
    (h2 : ∀ (jv : Nat → Value) (v v2 v3 v4 v5 : Value) (w' : World), Φ v v2 v3 v4 v5 w' → Goes P f R k (act n ((s, v) :: (t, v2) :: (u, v3) :: (x, v4) :: (y, v5) :: (junkE jv J ++ e))) w') : Goes P f R (c1 :: k) (act n e) w :=
  h fun v v2 v3 v4 v5 e' w' hΦ h1 h3 h4 h5 h6 hk => by
    have := h2 (lk e') v v2 v3 v4 v5 w' hΦ
    rw [act_round hk]
    have e2 : junkE (lk e') (s :: t :: u :: x :: y :: J) ++ e = (s, v) :: (t, v2) :: (u, v3) :: (x, v4) :: (y, v5) :: (junkE (lk e') J ++ e) := by simp [junkE, h1, h3, h4, h5, h6]
    rw [e2]; exact this
/-- The ways meet behind a block, and tell of one slot, or of two. -/
theorem goes_mb1 {c1 c2 : Item} (s : Nat) (J : List Nat) (Φ : Value → World → Prop)
    (h : (∀ (v : Value) (e' : Env) (w' : World), Φ v w' → lk e' s = v → keep (s :: J) e' = keep (s :: J) e → Goes P f R k (act n e') w') → Goes P f R (c1 :: c2 :: k) (act n e) w)
    (h2 : ∀ (jv : Nat → Value) (v : Value) (w' : World), Φ v w' → Goes P f R k (act n ((s, v) :: (junkE jv J ++ e))) w') : Goes P f R (c1 :: c2 :: k) (act n e) w :=
  h fun v e' w' hΦ h1 hk => by
    have := h2 (lk e') v w' hΦ
    rw [act_round hk]
    have e2 : junkE (lk e') (s :: J) ++ e = (s, v) :: (junkE (lk e') J ++ e) := by simp [junkE, h1]
    rw [e2]; exact this
theorem goes_mb2 {c1 c2 : Item} (s t : Nat) (J : List Nat) (Φ : Value → Value → World → Prop)
    (h : (∀ (v u : Value) (e' : Env) (w' : World), Φ v u w' → lk e' s = v → lk e' t = u → keep (s :: t :: J) e' = keep (s :: t :: J) e → Goes P f R k (act n e') w') → Goes P f R (c1 :: c2 :: k) (act n e) w)
    (h2 : ∀ (jv : Nat → Value) (v u : Value) (w' : World), Φ v u w' → Goes P f R k (act n ((s, v) :: (t, u) :: (junkE jv J ++ e))) w') : Goes P f R (c1 :: c2 :: k) (act n e) w :=
  h fun v u e' w' hΦ h1 h3 hk => by
    have := h2 (lk e') v u w' hΦ
    rw [act_round hk]
    have e2 : junkE (lk e') (s :: t :: J) ++ e = (s, v) :: (t, u) :: (junkE (lk e') J ++ e) := by simp [junkE, h1, h3]
    rw [e2]; exact this
theorem goes_meet1 {c1 : Item} (s : Nat) (J : List Nat) (Φ : Value → World → Prop)
    (h : (∀ (v : Value) (e' : Env) (w' : World), Φ v w' → lk e' s = v → keep (s :: J) e' = keep (s :: J) e → Goes P f R k (act n e') w') → Goes P f R (c1 :: k) (act n e) w)
    (h2 : ∀ (jv : Nat → Value) (v : Value) (w' : World), Φ v w' → Goes P f R k (act n ((s, v) :: (junkE jv J ++ e))) w') : Goes P f R (c1 :: k) (act n e) w :=
  h fun v e' w' hΦ h1 hk => by
    have := h2 (lk e') v w' hΦ
    rw [act_round hk]
    have e2 : junkE (lk e') (s :: J) ++ e = (s, v) :: (junkE (lk e') J ++ e) := by simp [junkE, h1]
    rw [e2]; exact this
end
attribute [irreducible] Pln
end Go.Proofs.Ytdflngjfnpbpmab
