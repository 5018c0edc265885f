/- HWalk2, HWalk3, CWalk1, CWalk2: texts that follow one another, laid into one file. -/
import Derived.Test.YtdflngjfnpbpmabG4
import Derived.Test.YtdflngjfnpbpmabG3
namespace Go.Proofs.Ytdflngjfnpbpmab
open Go.RowKit
set_option linter.unusedVariables false
set_option linter.unusedSimpArgs false
set_option maxRecDepth 100000
set_option maxHeartbeats 1000000

theorem bound_any (L : List HC) (A B : Option Addr) (c m d : Nat) (a : Int) (x : HC) (w : World) (hL : Flat 3 (hcsL L) A L.length c w) (hx : hat L a = some x) :
    Calls Try.prog 51 #[heapV A L.length c B m d, .int .i64 a] w fun e w' => e = .returned (.bool (decide (x.k = 0 ∧ x.n ≠ a))) ∧ Below w.heap.size w w' := by
  have hS := (St.start w).flat (M := []) hL
  obtain ⟨h0, h1, hg⟩ := hat_get hx
  obtain ⟨b, o, rfl⟩ := hL.some_ (by omega)
  have hcc : ∀ {H'} w', St [] w H' [Flat 3 (hcsL L) (some ⟨b, o, none⟩) L.length c] w' → _ := fun w' hS => (hS.fact (.head _)).cell hg
  refine goes_enter2 Try.func51 rfl Try.ntmps51 rfl ?_
  by_cases hk : x.k = 0
  · by_cases hn : x.n = a
    · rw [decide_eq_false (by simp [hn])]
      refine goes_seq ?_
      refine goes_region ?_
      refine lst_box hS rfl rfl ?_
      clear hS
      intro b1 wx1 hS
      refine lst_run (run_assign (by conv => lhs; whnf)) rfl ?_
      refine lst_done ?_
      refine goes_seq ?_
      refine goes_region ?_
      refine lst_run (run_fieldAddr (off := 0) rfl rfl) rfl ?_
      first
        | refine lst_run (run_load1_own hS rfl rfl (by first | exact .head | exact .tail .head | exact .tail (.tail .head) | exact .tail (.tail (.tail .head)) | exact .tail (.tail (.tail (.tail .head))) | exact .tail (.tail (.tail (.tail (.tail .head))))) (by repeat constructor)) rfl ?_
        | refine lst_run (run_load1 rfl rfl (by first | assumption | exact (hcc _ hS).1 | exact (hcc _ hS).2.1 | exact (hcc _ hS).2.2 | exact hS.cell0 (by assumption) | exact lv_next hS | exact lv_list hS)) rfl ?_
      refine lst_run (run_move (by conv => lhs; whnf)) rfl ?_
      refine lst_run (run_indexAddr (sz := 3) rfl rfl rfl rfl (by omega) (by omega)) rfl ?_
      first
        | refine lst_run (run_loadN_own (k := 3) hS rfl rfl rfl (by first | exact .head | exact .tail .head | exact .tail (.tail .head) | exact .tail (.tail (.tail .head)) | exact .tail (.tail (.tail (.tail .head))) | exact .tail (.tail (.tail (.tail (.tail .head))))) (by repeat constructor)) rfl ?_
        | refine lst_run (run_load3 rfl rfl rfl (by first | assumption | exact (hcc _ hS).1 | exact (hcc _ hS).2.1 | exact (hcc _ hS).2.2 | exact hS.cell0 (by assumption)) (by first | assumption | exact (hcc _ hS).1 | exact (hcc _ hS).2.1 | exact (hcc _ hS).2.2 | exact hS.cell0 (by assumption)) (by first | assumption | exact (hcc _ hS).1 | exact (hcc _ hS).2.1 | exact (hcc _ hS).2.2 | exact hS.cell0 (by assumption))) rfl ?_
      refine lst_alloc (cs := [_, _, _]) hS rfl rfl rfl ?_
      clear hS
      intro b2 wx2 hS
      refine lst_storeN hS rfl (by conv => lhs; whnf) rfl rfl (by first | exact .head | exact .tail .head | exact .tail (.tail .head) | exact .tail (.tail (.tail .head)) | exact .tail (.tail (.tail (.tail .head))) | exact .tail (.tail (.tail (.tail (.tail .head))))) (by repeat constructor) (by first | exact .head | exact .tail .head | exact .tail (.tail .head) | exact .tail (.tail (.tail .head)) | exact .tail (.tail (.tail (.tail .head))) | exact .tail (.tail (.tail (.tail (.tail .head))))) ?_
      clear hS
      intro wx3 hS
      refine lst_done ?_
      refine goes_seq ?_
      refine goes_region ?_
      refine lst_run (run_fieldAddr (off := 0) rfl rfl) rfl ?_
      first
        | refine lst_run (run_load1_own hS rfl rfl (by first | exact .head | exact .tail .head | exact .tail (.tail .head) | exact .tail (.tail (.tail .head)) | exact .tail (.tail (.tail (.tail .head))) | exact .tail (.tail (.tail (.tail (.tail .head))))) (by repeat constructor)) rfl ?_
        | refine lst_run (run_load1 rfl rfl (by first | assumption | exact (hcc _ hS).1 | exact (hcc _ hS).2.1 | exact (hcc _ hS).2.2 | exact hS.cell0 (by assumption) | exact lv_next hS | exact lv_list hS)) rfl ?_
      first
        | refine lst_run (run_eql_one_int rfl rfl) rfl ?_
        | refine lst_run (run_eql_no rfl rfl (by first | assumption | omega)) rfl ?_
        | refine lst_run (run_eql_yes rfl rfl (by omega)) rfl ?_
        | refine lst_run (rfl) rfl ?_
      refine lst_run (run_move (by conv => lhs; whnf)) rfl ?_
      refine lst_guard rfl rfl ?_
      refine lst_run (run_fieldAddr (off := 1) rfl rfl) rfl ?_
      refine lst_guard rfl rfl ?_
      first
        | refine lst_run (run_load1_own hS rfl rfl (by first | exact .head | exact .tail .head | exact .tail (.tail .head) | exact .tail (.tail (.tail .head)) | exact .tail (.tail (.tail (.tail .head))) | exact .tail (.tail (.tail (.tail (.tail .head))))) (by repeat constructor)) rfl ?_
        | refine lst_run (run_load1 rfl rfl (by first | assumption | exact (hcc _ hS).1 | exact (hcc _ hS).2.1 | exact (hcc _ hS).2.2 | exact hS.cell0 (by assumption) | exact lv_next hS | exact lv_list hS)) rfl ?_
      refine lst_guard rfl rfl ?_
      refine lst_run (run_move (by conv => lhs; whnf)) rfl ?_
      refine lst_guard rfl rfl ?_
      first
        | refine lst_run (run_neq_one_int rfl rfl) rfl ?_
        | refine lst_run (run_neq_no rfl rfl (by first | assumption | omega)) rfl ?_
        | refine lst_run (run_neq_yes rfl rfl (by omega)) rfl ?_
        | refine lst_run (rfl) rfl ?_
      first
        | refine lst_run (run_pick_t rfl (by conv => lhs; whnf)) rfl ?_
        | refine lst_run (run_pick_f rfl (by conv => lhs; whnf)) rfl ?_
      refine lst_run (run_assign (by conv => lhs; whnf)) rfl ?_
      refine lst_done ?_
      refine goes_ret1 Try.func51 rfl (by conv => lhs; whnf) ?_
      exact ⟨rfl, hS.ext.below⟩
    · rw [decide_eq_true ⟨hk, hn⟩]
      refine goes_seq ?_
      refine goes_region ?_
      refine lst_box hS rfl rfl ?_
      clear hS
      intro b1 wx1 hS
      refine lst_run (run_assign (by conv => lhs; whnf)) rfl ?_
      refine lst_done ?_
      refine goes_seq ?_
      refine goes_region ?_
      refine lst_run (run_fieldAddr (off := 0) rfl rfl) rfl ?_
      first
        | refine lst_run (run_load1_own hS rfl rfl (by first | exact .head | exact .tail .head | exact .tail (.tail .head) | exact .tail (.tail (.tail .head)) | exact .tail (.tail (.tail (.tail .head))) | exact .tail (.tail (.tail (.tail (.tail .head))))) (by repeat constructor)) rfl ?_
        | refine lst_run (run_load1 rfl rfl (by first | assumption | exact (hcc _ hS).1 | exact (hcc _ hS).2.1 | exact (hcc _ hS).2.2 | exact hS.cell0 (by assumption) | exact lv_next hS | exact lv_list hS)) rfl ?_
      refine lst_run (run_move (by conv => lhs; whnf)) rfl ?_
      refine lst_run (run_indexAddr (sz := 3) rfl rfl rfl rfl (by omega) (by omega)) rfl ?_
      first
        | refine lst_run (run_loadN_own (k := 3) hS rfl rfl rfl (by first | exact .head | exact .tail .head | exact .tail (.tail .head) | exact .tail (.tail (.tail .head)) | exact .tail (.tail (.tail (.tail .head))) | exact .tail (.tail (.tail (.tail (.tail .head))))) (by repeat constructor)) rfl ?_
        | refine lst_run (run_load3 rfl rfl rfl (by first | assumption | exact (hcc _ hS).1 | exact (hcc _ hS).2.1 | exact (hcc _ hS).2.2 | exact hS.cell0 (by assumption)) (by first | assumption | exact (hcc _ hS).1 | exact (hcc _ hS).2.1 | exact (hcc _ hS).2.2 | exact hS.cell0 (by assumption)) (by first | assumption | exact (hcc _ hS).1 | exact (hcc _ hS).2.1 | exact (hcc _ hS).2.2 | exact hS.cell0 (by assumption))) rfl ?_
      refine lst_alloc (cs := [_, _, _]) hS rfl rfl rfl ?_
      clear hS
      intro b2 wx2 hS
      refine lst_storeN hS rfl (by conv => lhs; whnf) rfl rfl (by first | exact .head | exact .tail .head | exact .tail (.tail .head) | exact .tail (.tail (.tail .head)) | exact .tail (.tail (.tail (.tail .head))) | exact .tail (.tail (.tail (.tail (.tail .head))))) (by repeat constructor) (by first | exact .head | exact .tail .head | exact .tail (.tail .head) | exact .tail (.tail (.tail .head)) | exact .tail (.tail (.tail (.tail .head))) | exact .tail (.tail (.tail (.tail (.tail .head))))) ?_
      clear hS
      intro wx3 hS
      refine lst_done ?_
      refine goes_seq ?_
      refine goes_region ?_
      refine lst_run (run_fieldAddr (off := 0) rfl rfl) rfl ?_
      first
        | refine lst_run (run_load1_own hS rfl rfl (by first | exact .head | exact .tail .head | exact .tail (.tail .head) | exact .tail (.tail (.tail .head)) | exact .tail (.tail (.tail (.tail .head))) | exact .tail (.tail (.tail (.tail (.tail .head))))) (by repeat constructor)) rfl ?_
        | refine lst_run (run_load1 rfl rfl (by first | assumption | exact (hcc _ hS).1 | exact (hcc _ hS).2.1 | exact (hcc _ hS).2.2 | exact hS.cell0 (by assumption) | exact lv_next hS | exact lv_list hS)) rfl ?_
      first
        | refine lst_run (run_eql_one_int rfl rfl) rfl ?_
        | refine lst_run (run_eql_no rfl rfl (by first | assumption | omega)) rfl ?_
        | refine lst_run (run_eql_yes rfl rfl (by omega)) rfl ?_
        | refine lst_run (rfl) rfl ?_
      refine lst_run (run_move (by conv => lhs; whnf)) rfl ?_
      refine lst_guard rfl rfl ?_
      refine lst_run (run_fieldAddr (off := 1) rfl rfl) rfl ?_
      refine lst_guard rfl rfl ?_
      first
        | refine lst_run (run_load1_own hS rfl rfl (by first | exact .head | exact .tail .head | exact .tail (.tail .head) | exact .tail (.tail (.tail .head)) | exact .tail (.tail (.tail (.tail .head))) | exact .tail (.tail (.tail (.tail (.tail .head))))) (by repeat constructor)) rfl ?_
        | refine lst_run (run_load1 rfl rfl (by first | assumption | exact (hcc _ hS).1 | exact (hcc _ hS).2.1 | exact (hcc _ hS).2.2 | exact hS.cell0 (by assumption) | exact lv_next hS | exact lv_list hS)) rfl ?_
      refine lst_guard rfl rfl ?_
      refine lst_run (run_move (by conv => lhs; whnf)) rfl ?_
      refine lst_guard rfl rfl ?_
      first
        | refine lst_run (run_neq_one_int rfl rfl) rfl ?_
        | refine lst_run (run_neq_no rfl rfl (by first | assumption | omega)) rfl ?_
        | refine lst_run (run_neq_yes rfl rfl (by omega)) rfl ?_
        | refine lst_run (rfl) rfl ?_
      first
        | refine lst_run (run_pick_t rfl (by conv => lhs; whnf)) rfl ?_
        | refine lst_run (run_pick_f rfl (by conv => lhs; whnf)) rfl ?_
      refine lst_run (run_assign (by conv => lhs; whnf)) rfl ?_
      refine lst_done ?_
      refine goes_ret1 Try.func51 rfl (by conv => lhs; whnf) ?_
      exact ⟨rfl, hS.ext.below⟩
  · rw [decide_eq_false (by simp [hk])]
    refine goes_seq ?_
    refine goes_region ?_
    refine lst_box hS rfl rfl ?_
    clear hS
    intro b1 wx1 hS
    refine lst_run (run_assign (by conv => lhs; whnf)) rfl ?_
    refine lst_done ?_
    refine goes_seq ?_
    refine goes_region ?_
    refine lst_run (run_fieldAddr (off := 0) rfl rfl) rfl ?_
    first
      | refine lst_run (run_load1_own hS rfl rfl (by first | exact .head | exact .tail .head | exact .tail (.tail .head) | exact .tail (.tail (.tail .head)) | exact .tail (.tail (.tail (.tail .head))) | exact .tail (.tail (.tail (.tail (.tail .head))))) (by repeat constructor)) rfl ?_
      | refine lst_run (run_load1 rfl rfl (by first | assumption | exact (hcc _ hS).1 | exact (hcc _ hS).2.1 | exact (hcc _ hS).2.2 | exact hS.cell0 (by assumption) | exact lv_next hS | exact lv_list hS)) rfl ?_
    refine lst_run (run_move (by conv => lhs; whnf)) rfl ?_
    refine lst_run (run_indexAddr (sz := 3) rfl rfl rfl rfl (by omega) (by omega)) rfl ?_
    first
      | refine lst_run (run_loadN_own (k := 3) hS rfl rfl rfl (by first | exact .head | exact .tail .head | exact .tail (.tail .head) | exact .tail (.tail (.tail .head)) | exact .tail (.tail (.tail (.tail .head))) | exact .tail (.tail (.tail (.tail (.tail .head))))) (by repeat constructor)) rfl ?_
      | refine lst_run (run_load3 rfl rfl rfl (by first | assumption | exact (hcc _ hS).1 | exact (hcc _ hS).2.1 | exact (hcc _ hS).2.2 | exact hS.cell0 (by assumption)) (by first | assumption | exact (hcc _ hS).1 | exact (hcc _ hS).2.1 | exact (hcc _ hS).2.2 | exact hS.cell0 (by assumption)) (by first | assumption | exact (hcc _ hS).1 | exact (hcc _ hS).2.1 | exact (hcc _ hS).2.2 | exact hS.cell0 (by assumption))) rfl ?_
    refine lst_alloc (cs := [_, _, _]) hS rfl rfl rfl ?_
    clear hS
    intro b2 wx2 hS
    refine lst_storeN hS rfl (by conv => lhs; whnf) rfl rfl (by first | exact .head | exact .tail .head | exact .tail (.tail .head) | exact .tail (.tail (.tail .head)) | exact .tail (.tail (.tail (.tail .head))) | exact .tail (.tail (.tail (.tail (.tail .head))))) (by repeat constructor) (by first | exact .head | exact .tail .head | exact .tail (.tail .head) | exact .tail (.tail (.tail .head)) | exact .tail (.tail (.tail (.tail .head))) | exact .tail (.tail (.tail (.tail (.tail .head))))) ?_
    clear hS
    intro wx3 hS
    refine lst_done ?_
    refine goes_seq ?_
    refine goes_region ?_
    refine lst_run (run_fieldAddr (off := 0) rfl rfl) rfl ?_
    first
      | refine lst_run (run_load1_own hS rfl rfl (by first | exact .head | exact .tail .head | exact .tail (.tail .head) | exact .tail (.tail (.tail .head)) | exact .tail (.tail (.tail (.tail .head))) | exact .tail (.tail (.tail (.tail (.tail .head))))) (by repeat constructor)) rfl ?_
      | refine lst_run (run_load1 rfl rfl (by first | assumption | exact (hcc _ hS).1 | exact (hcc _ hS).2.1 | exact (hcc _ hS).2.2 | exact hS.cell0 (by assumption) | exact lv_next hS | exact lv_list hS)) rfl ?_
    first
      | refine lst_run (run_eql_one_int rfl rfl) rfl ?_
      | refine lst_run (run_eql_no rfl rfl (by first | assumption | omega)) rfl ?_
      | refine lst_run (run_eql_yes rfl rfl (by omega)) rfl ?_
      | refine lst_run (rfl) rfl ?_
    refine lst_run (run_move (by conv => lhs; whnf)) rfl ?_
    refine lst_pass rfl rfl rfl ?_
    refine lst_pass rfl rfl rfl ?_
    refine lst_pass rfl rfl rfl ?_
    refine lst_pass rfl rfl rfl ?_
    first
      | refine lst_run (run_pick_t rfl (by conv => lhs; whnf)) rfl ?_
      | refine lst_run (run_pick_f rfl (by conv => lhs; whnf)) rfl ?_
    refine lst_run (run_assign (by conv => lhs; whnf)) rfl ?_
    refine lst_done ?_
    refine goes_ret1 Try.func51 rfl (by conv => lhs; whnf) ?_
    exact ⟨rfl, hS.ext.below⟩
abbrev hob (A : Option Addr) (n c : Nat) (B : Option Addr) (m d : Nat) : Obj := .cells [.slice A n c, .slice B m d].toArray 25
theorem look_any (L : List HC) (A B : Option Addr) (c m d : Nat) (a : Int) (w : World) (hL : Flat 3 (hcsL L) A L.length c w) (hl63 : L.length ≤ 9223372036854775807) :
    Calls Try.prog 21 #[heapV A L.length c B m d, .int .i64 a] w fun e w' => e = .returned (.int .i64 (hlook L a)) ∧ Below w.heap.size w w' := by
  have hS := (St.start w).flat (M := []) hL
  refine goes_enter2 Try.func21 rfl Try.ntmps21 rfl ?_
  refine goes_seq ?_
  refine goes_region ?_
  refine lst_box hS rfl rfl ?_
  clear hS
  intro b1 wx1 hS
  refine lst_run (run_assign (by conv => lhs; whnf)) rfl ?_
  refine lst_done ?_
  refine goes_seq ?_
  refine goes_seq ?_
  refine goes_region ?_
  refine lst_run (run_fieldAddr (off := 0) rfl rfl) rfl ?_
  first
    | refine lst_run (run_load1_own hS rfl rfl (by first | exact .head | exact .tail .head | exact .tail (.tail .head) | exact .tail (.tail (.tail .head)) | exact .tail (.tail (.tail (.tail .head))) | exact .tail (.tail (.tail (.tail (.tail .head))))) (by repeat constructor)) rfl ?_
    | refine lst_run (run_load1 rfl rfl (by first | assumption | exact (hcc _ hS).1 | exact (hcc _ hS).2.1 | exact (hcc _ hS).2.2 | exact hS.cell0 (by assumption) | exact lv_next hS | exact lv_list hS)) rfl ?_
  refine lst_run (run_len_slice rfl rfl rfl) rfl ?_
  refine lst_run (run_move (by conv => lhs; whnf)) rfl ?_
  refine lst_done ?_
  refine goes_block ?_
  refine goes_loop2 8 1 (9 :: 10 :: 11 :: 12 :: 13 :: 4 :: 14 :: 15 :: 16 :: 17 :: 18 :: 19 :: 20 :: 21 :: 22 :: 23 :: 24 :: 25 :: []) (fun (f : Nat) v u w' => ∃ a' i : Nat, ∃ x : Int, i + f = L.length ∧ v = .int .i64 (i : Nat) ∧ u = .int .i64 x ∧ hlook L a = hlookF L f x ∧ St [] w [(b1, hob A L.length c B m d)] [Flat 3 (hcsL L) A L.length c] w') (fun f => f) (L.length) ?_ (by conv => lhs; whnf) (by conv => lhs; whnf) ?_
  · exact ⟨0, 0, a, by omega, rfl, rfl, rfl, hS⟩
  clear hS
  rintro f _ _ w2 jv ⟨_, i, x, hi, rfl, rfl, hl, hS⟩ ih
  cases f with
  | zero =>
    refine goes_seq ?_
    refine goes_region ?_
    first
      | refine lst_run (run_lss_yes rfl rfl (by omega)) rfl ?_
      | refine lst_run (run_lss_no rfl rfl (by omega)) rfl ?_
      | refine lst_run (rfl) rfl ?_
    refine lst_done ?_
    refine goes_seq ?_
    refine goes_false rfl ?_
    refine goes_exit rfl ?_
    refine goes_seq ?_
    refine goes_region ?_
    refine lst_run (run_assign (by conv => lhs; whnf)) rfl ?_
    refine lst_done ?_
    refine goes_ret1 Try.func21 rfl (by conv => lhs; whnf) ?_
    rw [hl]
    exact ⟨rfl, hS.ext.below⟩
  | succ f =>
    refine goes_seq ?_
    refine goes_region ?_
    first
      | refine lst_run (run_lss_yes rfl rfl (by omega)) rfl ?_
      | refine lst_run (run_lss_no rfl rfl (by omega)) rfl ?_
      | refine lst_run (rfl) rfl ?_
    refine lst_done ?_
    refine goes_seq ?_
    refine goes_true rfl ?_
    refine goes_skip ?_
    refine goes_seq ?_
    refine goes_block ?_
    refine goes_seq ?_
    refine goes_seq ?_
    refine goes_region ?_
    first
      | refine lst_run (run_loadN_own (k := 2) hS rfl rfl rfl (by first | exact .head | exact .tail .head | exact .tail (.tail .head) | exact .tail (.tail (.tail .head)) | exact .tail (.tail (.tail (.tail .head))) | exact .tail (.tail (.tail (.tail (.tail .head))))) (by repeat constructor)) rfl ?_
      | refine lst_run (run_load2 rfl rfl rfl (by first | assumption | exact (hcc _ hS).1 | exact (hcc _ hS).2.1 | exact (hcc _ hS).2.2 | exact hS.cell0 (by assumption)) (by first | assumption | exact (hcc _ hS).1 | exact (hcc _ hS).2.1 | exact (hcc _ hS).2.2 | exact hS.cell0 (by assumption))) rfl ?_
    refine lst_run (run_move (by conv => lhs; whnf)) rfl ?_
    refine lst_enter (run_call (by kernel_rfl) (args_2 (by conv => lhs; whnf) (by conv => lhs; whnf))) rfl ?_
    refine Calls.mono (address_any L.length c A B m d x _) ?_
    rintro _ w3 ⟨rfl, hb3⟩
    refine ⟨_, rfl, ?_⟩
    replace hS := hS.grow hb3
    by_cases hx : 0 ≤ x ∧ x < L.length
    case neg =>
      rw [show (decide (0 ≤ x) && decide (x < (L.length : Nat))) = false by rw [Bool.and_eq_false_iff]; simp only [decide_eq_false_iff_not]; omega]
      refine lst_run (rfl) rfl ?_
      refine lst_done ?_
      refine goes_true rfl ?_
      refine goes_seq ?_
      refine goes_region ?_
      refine lst_run (run_assign (by conv => lhs; whnf)) rfl ?_
      refine lst_done ?_
      refine goes_ret1 Try.func21 rfl (by conv => lhs; whnf) ?_
      rw [hl, hlookF_none (hat_none hx)]
      exact ⟨rfl, hS.ext.below⟩
    rw [show (decide (0 ≤ x) && decide (x < (L.length : Nat))) = true by rw [Bool.and_eq_true]; simp only [decide_eq_true_eq]; exact hx]
    obtain ⟨y, hy, hg⟩ := hat_some hx.1 hx.2
    obtain ⟨b, o, rfl⟩ := hL.some_ (by omega)
    have hcc : ∀ {H'} w', St [] w H' [Flat 3 (hcsL L) (some ⟨b, o, none⟩) L.length c] w' → _ := fun w' hS => (hS.fact (.head _)).cell hg
    have e1 : hlookF L (f + 1) x = if y.k = 0 ∧ y.n ≠ x then hlookF L f y.n else x := by simp only [hlookF, hy]
    refine lst_run (rfl) rfl ?_
    refine lst_done ?_
    refine goes_false rfl ?_
    refine goes_skip ?_
    refine goes_seq ?_
    refine goes_seq ?_
    refine goes_region ?_
    first
      | refine lst_run (run_loadN_own (k := 2) hS rfl rfl rfl (by first | exact .head | exact .tail .head | exact .tail (.tail .head) | exact .tail (.tail (.tail .head)) | exact .tail (.tail (.tail (.tail .head))) | exact .tail (.tail (.tail (.tail (.tail .head))))) (by repeat constructor)) rfl ?_
      | refine lst_run (run_load2 rfl rfl rfl (by first | assumption | exact (hcc _ hS).1 | exact (hcc _ hS).2.1 | exact (hcc _ hS).2.2 | exact hS.cell0 (by assumption)) (by first | assumption | exact (hcc _ hS).1 | exact (hcc _ hS).2.1 | exact (hcc _ hS).2.2 | exact hS.cell0 (by assumption))) rfl ?_
    refine lst_run (run_move (by conv => lhs; whnf)) rfl ?_
    refine lst_enter (run_call (by kernel_rfl) (args_2 (by conv => lhs; whnf) (by conv => lhs; whnf))) rfl ?_
    refine Calls.mono (bound_any L _ B c m d x y _ (hS.fact (.head _)) hy) ?_
    rintro _ w4 ⟨rfl, hb4⟩
    refine ⟨_, rfl, ?_⟩
    replace hS := hS.grow hb4
    by_cases hb : y.k = 0 ∧ y.n ≠ x
    · rw [decide_eq_true hb]
      rw [if_pos hb] at e1
      refine lst_run (rfl) rfl ?_
      refine lst_done ?_
      refine goes_false rfl ?_
      refine goes_skip ?_
      refine goes_region ?_
      refine lst_run (run_fieldAddr (off := 0) rfl rfl) rfl ?_
      first
        | refine lst_run (run_load1_own hS rfl rfl (by first | exact .head | exact .tail .head | exact .tail (.tail .head) | exact .tail (.tail (.tail .head)) | exact .tail (.tail (.tail (.tail .head))) | exact .tail (.tail (.tail (.tail (.tail .head))))) (by repeat constructor)) rfl ?_
        | refine lst_run (run_load1 rfl rfl (by first | assumption | exact (hcc _ hS).1 | exact (hcc _ hS).2.1 | exact (hcc _ hS).2.2 | exact hS.cell0 (by assumption) | exact lv_next hS | exact lv_list hS)) rfl ?_
      refine lst_run (run_move (by conv => lhs; whnf)) rfl ?_
      refine lst_run (run_indexAddr (sz := 3) rfl rfl rfl rfl (by omega) (by omega)) rfl ?_
      refine lst_run (run_fieldAddr (off := 1) rfl rfl) rfl ?_
      first
        | refine lst_run (run_load1_own hS rfl rfl (by first | exact .head | exact .tail .head | exact .tail (.tail .head) | exact .tail (.tail (.tail .head)) | exact .tail (.tail (.tail (.tail .head))) | exact .tail (.tail (.tail (.tail (.tail .head))))) (by repeat constructor)) rfl ?_
        | refine lst_run (run_load1 rfl rfl (by first | assumption | exact (hcc _ hS).1 | exact (hcc _ hS).2.1 | exact (hcc _ hS).2.2 | exact hS.cell0 (by assumption) | exact lv_next hS | exact lv_list hS)) rfl ?_
      refine lst_run (run_assign (by conv => lhs; whnf)) rfl ?_
      refine lst_done ?_
      refine goes_inBlock ?_
      refine goes_region ?_
      refine lst_run (run_add rfl rfl (by omega) (by omega)) rfl ?_
      refine lst_run (run_move (by conv => lhs; whnf)) rfl ?_
      refine lst_done ?_
      refine ih (f) _ _ _ _ ?_ ?_ (by conv => lhs; whnf) (by conv => lhs; whnf) (by kernel_rfl)
      · omega
      · exact ⟨0, i + 1, y.n, by omega, by simp, rfl, by rw [hl, e1], hS⟩
    · rw [decide_eq_false hb]
      rw [if_neg hb] at e1
      refine lst_run (rfl) rfl ?_
      refine lst_done ?_
      refine goes_true rfl ?_
      refine goes_seq ?_
      refine goes_region ?_
      refine lst_run (run_move (by conv => lhs; whnf)) rfl ?_
      refine lst_run (run_assign (by conv => lhs; whnf)) rfl ?_
      refine lst_done ?_
      refine goes_ret1 Try.func21 rfl (by conv => lhs; whnf) ?_
      rw [hl, e1]
      exact ⟨rfl, hS.ext.below⟩
theorem goodTrail_any (L : List HC) (T : List Int) (A B : Option Addr) (c d : Nat) (w : World) (hL : Flat 3 (hcsL L) A L.length c w) (hT : Flat 1 (intsV T) B T.length d w) :
    Calls Try.prog 63 #[heapV A L.length c B T.length d] w fun e w' => e = .returned (.bool (goodTr L T)) ∧ Below w.heap.size w w' := by
  have hS := ((St.start w).flat (M := []) hL).flat (M := []) hT
  refine goes_enter1 Try.func63 rfl Try.ntmps63 rfl ?_
  by_cases hl : 65536 < T.length
  · rw [show goodTr L T = false by unfold goodTr; rw [decide_eq_false (by omega)]; rfl]
    refine goes_seq ?_
    refine goes_region ?_
    refine lst_box hS rfl rfl ?_
    clear hS
    intro b1 wx1 hS
    refine lst_run (run_assign (by conv => lhs; whnf)) rfl ?_
    refine lst_done ?_
    refine goes_seq ?_
    refine goes_seq ?_
    refine goes_region ?_
    refine lst_run (run_fieldAddr (off := 1) rfl rfl) rfl ?_
    first
      | refine lst_run (run_load1_own hS rfl rfl (by first | exact .head | exact .tail .head | exact .tail (.tail .head) | exact .tail (.tail (.tail .head)) | exact .tail (.tail (.tail (.tail .head))) | exact .tail (.tail (.tail (.tail (.tail .head))))) (by repeat constructor)) rfl ?_
      | refine lst_run (run_load1 rfl rfl (by first | assumption | exact (hcc _ hS).1 | exact (hcc _ hS).2.1 | exact (hcc _ hS).2.2 | exact hS.cell0 (by assumption) | exact lv_next hS | exact lv_list hS)) rfl ?_
    refine lst_run (run_len_slice rfl rfl rfl) rfl ?_
    first
      | refine lst_run (run_gtr_yes rfl rfl (by omega)) rfl ?_
      | refine lst_run (run_gtr_no rfl rfl (by omega)) rfl ?_
      | refine lst_run (rfl) rfl ?_
    refine lst_done ?_
    refine goes_true rfl ?_
    refine goes_seq ?_
    refine goes_region ?_
    refine lst_run (run_assign (by conv => lhs; whnf)) rfl ?_
    refine lst_done ?_
    refine goes_ret1 Try.func63 rfl (by conv => lhs; whnf) ?_
    exact ⟨rfl, hS.ext.below⟩
  rw [show goodTr L T = T.all (goodTr1 L) by unfold goodTr; rw [decide_eq_true (by omega)]; rfl]
  refine goes_seq ?_
  refine goes_region ?_
  refine lst_box hS rfl rfl ?_
  clear hS
  intro b1 wx1 hS
  refine lst_run (run_assign (by conv => lhs; whnf)) rfl ?_
  refine lst_done ?_
  refine goes_seq ?_
  refine goes_seq ?_
  refine goes_region ?_
  refine lst_run (run_fieldAddr (off := 1) rfl rfl) rfl ?_
  first
    | refine lst_run (run_load1_own hS rfl rfl (by first | exact .head | exact .tail .head | exact .tail (.tail .head) | exact .tail (.tail (.tail .head)) | exact .tail (.tail (.tail (.tail .head))) | exact .tail (.tail (.tail (.tail (.tail .head))))) (by repeat constructor)) rfl ?_
    | refine lst_run (run_load1 rfl rfl (by first | assumption | exact (hcc _ hS).1 | exact (hcc _ hS).2.1 | exact (hcc _ hS).2.2 | exact hS.cell0 (by assumption) | exact lv_next hS | exact lv_list hS)) rfl ?_
  refine lst_run (run_len_slice rfl rfl rfl) rfl ?_
  first
    | refine lst_run (run_gtr_yes rfl rfl (by omega)) rfl ?_
    | refine lst_run (run_gtr_no rfl rfl (by omega)) rfl ?_
    | refine lst_run (rfl) rfl ?_
  refine lst_done ?_
  refine goes_false rfl ?_
  refine goes_skip ?_
  refine goes_seq ?_
  refine goes_seq ?_
  refine goes_region ?_
  refine lst_run (run_fieldAddr (off := 1) rfl rfl) rfl ?_
  first
    | refine lst_run (run_load1_own hS rfl rfl (by first | exact .head | exact .tail .head | exact .tail (.tail .head) | exact .tail (.tail (.tail .head)) | exact .tail (.tail (.tail (.tail .head))) | exact .tail (.tail (.tail (.tail (.tail .head))))) (by repeat constructor)) rfl ?_
    | refine lst_run (run_load1 rfl rfl (by first | assumption | exact (hcc _ hS).1 | exact (hcc _ hS).2.1 | exact (hcc _ hS).2.2 | exact hS.cell0 (by assumption) | exact lv_next hS | exact lv_list hS)) rfl ?_
  refine lst_run (run_len_slice rfl rfl rfl) rfl ?_
  refine lst_run (run_move (by conv => lhs; whnf)) rfl ?_
  refine lst_done ?_
  refine goes_block ?_
  refine goes_loop1 12 (13 :: 14 :: 15 :: 4 :: 16 :: 17 :: 18 :: 19 :: 20 :: 21 :: 22 :: 23 :: 24 :: 25 :: 26 :: 27 :: 28 :: 2 :: 29 :: []) (fun (R : List Int) v w' => ∃ D, T = D ++ R ∧ v = .int .i64 (D.length : Nat) ∧ T.all (goodTr1 L) = R.all (goodTr1 L) ∧ St [] w [(b1, hob A L.length c B T.length d)] [Flat 1 (intsV T) B T.length d, Flat 3 (hcsL L) A L.length c] w') (fun R => R.length) (T) ?_ (by conv => lhs; whnf) ?_
  · exact ⟨[], rfl, rfl, rfl, hS⟩
  clear hS
  rintro R _ w2 jv ⟨D, hD, rfl, hg, hS⟩ ih
  have hlen : T.length = D.length + R.length := by rw [hD]; simp
  cases R with
  | nil =>
    simp only [List.length_nil] at hlen
    refine goes_seq ?_
    refine goes_region ?_
    first
      | refine lst_run (run_lss_yes rfl rfl (by omega)) rfl ?_
      | refine lst_run (run_lss_no rfl rfl (by omega)) rfl ?_
      | refine lst_run (rfl) rfl ?_
    refine lst_done ?_
    refine goes_seq ?_
    refine goes_false rfl ?_
    refine goes_exit rfl ?_
    refine goes_seq ?_
    refine goes_region ?_
    refine lst_run (run_assign (by conv => lhs; whnf)) rfl ?_
    refine lst_done ?_
    refine goes_ret1 Try.func63 rfl (by conv => lhs; whnf) ?_
    rw [hg]
    exact ⟨rfl, hS.ext.below⟩
  | cons x R =>
    simp only [List.length_cons] at hlen
    obtain ⟨b, o, rfl⟩ := hT.some_ (by omega)
    have hx : T[D.length]? = some x := by rw [hD]; simp
    have hct : ∀ {H'} w', St [] w H' [Flat 1 (intsV T) (some ⟨b, o, none⟩) T.length d, Flat 3 (hcsL L) A L.length c] w' → _ := fun w' hS => (hS.fact (.head _)).int hx
    refine goes_seq ?_
    refine goes_region ?_
    first
      | refine lst_run (run_lss_yes rfl rfl (by omega)) rfl ?_
      | refine lst_run (run_lss_no rfl rfl (by omega)) rfl ?_
      | refine lst_run (rfl) rfl ?_
    refine lst_done ?_
    refine goes_seq ?_
    refine goes_true rfl ?_
    refine goes_skip ?_
    refine goes_seq ?_
    refine goes_block ?_
    refine goes_seq ?_
    refine goes_region ?_
    refine lst_run (run_indexAddr (sz := 1) rfl rfl rfl rfl (by omega) (by omega)) rfl ?_
    first
      | refine lst_run (run_load1_own hS rfl rfl (by first | exact .head | exact .tail .head | exact .tail (.tail .head) | exact .tail (.tail (.tail .head)) | exact .tail (.tail (.tail (.tail .head))) | exact .tail (.tail (.tail (.tail (.tail .head))))) (by repeat constructor)) rfl ?_
      | refine lst_run (run_load1 rfl rfl (by first | assumption | exact hct _ hS | exact hS.cell0 (by assumption) | exact lv_next hS | exact lv_list hS)) rfl ?_
    refine lst_run (run_assign (by conv => lhs; whnf)) rfl ?_
    refine lst_done ?_
    refine goes_seq ?_
    refine goes_region ?_
    first
      | refine lst_run (run_loadN_own (k := 2) hS rfl rfl rfl (by first | exact .head | exact .tail .head | exact .tail (.tail .head) | exact .tail (.tail (.tail .head)) | exact .tail (.tail (.tail (.tail .head))) | exact .tail (.tail (.tail (.tail (.tail .head))))) (by repeat constructor)) rfl ?_
      | refine lst_run (run_load2 rfl rfl rfl (by first | assumption | exact hct _ hS | exact hS.cell0 (by assumption)) (by first | assumption | exact hct _ hS | exact hS.cell0 (by assumption))) rfl ?_
    refine lst_run (run_move (by conv => lhs; whnf)) rfl ?_
    refine lst_enter (run_call (by kernel_rfl) (args_2 (by conv => lhs; whnf) (by conv => lhs; whnf))) rfl ?_
    refine Calls.mono (address_any L.length c A _ T.length d x _) ?_
    rintro _ w3 ⟨rfl, hb3⟩
    refine ⟨_, rfl, ?_⟩
    replace hS := hS.grow hb3
    by_cases hx : 0 ≤ x ∧ x < L.length
    case neg =>
      rw [show (decide (0 ≤ x) && decide (x < (L.length : Nat))) = false by rw [Bool.and_eq_false_iff]; simp only [decide_eq_false_iff_not]; omega]
      refine lst_run (rfl) rfl ?_
      refine lst_run (run_move (by conv => lhs; whnf)) rfl ?_
      refine lst_pass rfl rfl rfl ?_
      refine lst_pass rfl rfl rfl ?_
      refine lst_pass rfl rfl rfl ?_
      refine lst_pass rfl rfl rfl ?_
      refine lst_pass rfl rfl rfl ?_
      refine lst_pass rfl rfl rfl ?_
      refine lst_pass rfl rfl rfl ?_
      first
        | refine lst_run (run_pick_t rfl (by conv => lhs; whnf)) rfl ?_
        | refine lst_run (run_pick_f rfl (by conv => lhs; whnf)) rfl ?_
      refine lst_done ?_
      refine goes_true rfl ?_
      refine goes_seq ?_
      refine goes_region ?_
      refine lst_run (run_assign (by conv => lhs; whnf)) rfl ?_
      refine lst_done ?_
      refine goes_ret1 Try.func63 rfl (by conv => lhs; whnf) ?_
      rw [hg]
      refine ⟨?_, hS.ext.below⟩
      simp [goodTr1, hat_none hx]
    rw [show (decide (0 ≤ x) && decide (x < (L.length : Nat))) = true by rw [Bool.and_eq_true]; simp only [decide_eq_true_eq]; exact hx]
    obtain ⟨y, hy, hgy⟩ := hat_some hx.1 hx.2
    obtain ⟨b2, o2, rfl⟩ := hL.some_ (by omega)
    have hcc : ∀ {H'} w', St [] w H' [Flat 1 (intsV T) (some ⟨b, o, none⟩) T.length d, Flat 3 (hcsL L) (some ⟨b2, o2, none⟩) L.length c] w' → _ := fun w' hS => (hS.fact (.tail _ (.head _))).cell hgy
    by_cases hk : y.k = 0
    · refine lst_run (rfl) rfl ?_
      refine lst_run (run_move (by conv => lhs; whnf)) rfl ?_
      refine lst_guard rfl rfl ?_
      refine lst_run (run_fieldAddr (off := 0) rfl rfl) rfl ?_
      refine lst_guard rfl rfl ?_
      first
        | refine lst_run (run_load1_own hS rfl rfl (by first | exact .head | exact .tail .head | exact .tail (.tail .head) | exact .tail (.tail (.tail .head)) | exact .tail (.tail (.tail (.tail .head))) | exact .tail (.tail (.tail (.tail (.tail .head))))) (by repeat constructor)) rfl ?_
        | refine lst_run (run_load1 rfl rfl (by first | assumption | exact (hcc _ hS).1 | exact (hcc _ hS).2.1 | exact (hcc _ hS).2.2 | exact hS.cell0 (by assumption) | exact lv_next hS | exact lv_list hS)) rfl ?_
      refine lst_guard rfl rfl ?_
      refine lst_run (run_move (by conv => lhs; whnf)) rfl ?_
      refine lst_guard rfl rfl ?_
      refine lst_run (run_indexAddr (sz := 3) rfl rfl rfl rfl (by omega) (by omega)) rfl ?_
      refine lst_guard rfl rfl ?_
      refine lst_run (run_fieldAddr (off := 0) rfl rfl) rfl ?_
      refine lst_guard rfl rfl ?_
      first
        | refine lst_run (run_load1_own hS rfl rfl (by first | exact .head | exact .tail .head | exact .tail (.tail .head) | exact .tail (.tail (.tail .head)) | exact .tail (.tail (.tail (.tail .head))) | exact .tail (.tail (.tail (.tail (.tail .head))))) (by repeat constructor)) rfl ?_
        | refine lst_run (run_load1 rfl rfl (by first | assumption | exact (hcc _ hS).1 | exact (hcc _ hS).2.1 | exact (hcc _ hS).2.2 | exact hS.cell0 (by assumption) | exact lv_next hS | exact lv_list hS)) rfl ?_
      refine lst_guard rfl rfl ?_
      first
        | refine lst_run (run_neq_one_int rfl rfl) rfl ?_
        | refine lst_run (run_neq_no rfl rfl (by first | assumption | omega)) rfl ?_
        | refine lst_run (run_neq_yes rfl rfl (by omega)) rfl ?_
        | refine lst_run (rfl) rfl ?_
      first
        | refine lst_run (run_pick_t rfl (by conv => lhs; whnf)) rfl ?_
        | refine lst_run (run_pick_f rfl (by conv => lhs; whnf)) rfl ?_
      refine lst_done ?_
      refine goes_false rfl ?_
      refine goes_skip ?_
      refine goes_inBlock ?_
      refine goes_region ?_
      refine lst_run (run_add rfl rfl (by omega) (by omega)) rfl ?_
      refine lst_run (run_move (by conv => lhs; whnf)) rfl ?_
      refine lst_done ?_
      refine ih (R) _ _ _ ?_ ?_ (by conv => lhs; whnf) (by kernel_rfl)
      · simp
      · refine ⟨D ++ [x], by rw [hD]; simp, by simp, ?_, hS⟩
        rw [hg]; simp [goodTr1, hy, hk]
    · refine lst_run (rfl) rfl ?_
      refine lst_run (run_move (by conv => lhs; whnf)) rfl ?_
      refine lst_guard rfl rfl ?_
      refine lst_run (run_fieldAddr (off := 0) rfl rfl) rfl ?_
      refine lst_guard rfl rfl ?_
      first
        | refine lst_run (run_load1_own hS rfl rfl (by first | exact .head | exact .tail .head | exact .tail (.tail .head) | exact .tail (.tail (.tail .head)) | exact .tail (.tail (.tail (.tail .head))) | exact .tail (.tail (.tail (.tail (.tail .head))))) (by repeat constructor)) rfl ?_
        | refine lst_run (run_load1 rfl rfl (by first | assumption | exact (hcc _ hS).1 | exact (hcc _ hS).2.1 | exact (hcc _ hS).2.2 | exact hS.cell0 (by assumption) | exact lv_next hS | exact lv_list hS)) rfl ?_
      refine lst_guard rfl rfl ?_
      refine lst_run (run_move (by conv => lhs; whnf)) rfl ?_
      refine lst_guard rfl rfl ?_
      refine lst_run (run_indexAddr (sz := 3) rfl rfl rfl rfl (by omega) (by omega)) rfl ?_
      refine lst_guard rfl rfl ?_
      refine lst_run (run_fieldAddr (off := 0) rfl rfl) rfl ?_
      refine lst_guard rfl rfl ?_
      first
        | refine lst_run (run_load1_own hS rfl rfl (by first | exact .head | exact .tail .head | exact .tail (.tail .head) | exact .tail (.tail (.tail .head)) | exact .tail (.tail (.tail (.tail .head))) | exact .tail (.tail (.tail (.tail (.tail .head))))) (by repeat constructor)) rfl ?_
        | refine lst_run (run_load1 rfl rfl (by first | assumption | exact (hcc _ hS).1 | exact (hcc _ hS).2.1 | exact (hcc _ hS).2.2 | exact hS.cell0 (by assumption) | exact lv_next hS | exact lv_list hS)) rfl ?_
      refine lst_guard rfl rfl ?_
      first
        | refine lst_run (run_neq_one_int rfl rfl) rfl ?_
        | refine lst_run (run_neq_no rfl rfl (by first | assumption | omega)) rfl ?_
        | refine lst_run (run_neq_yes rfl rfl (by omega)) rfl ?_
        | refine lst_run (rfl) rfl ?_
      first
        | refine lst_run (run_pick_t rfl (by conv => lhs; whnf)) rfl ?_
        | refine lst_run (run_pick_f rfl (by conv => lhs; whnf)) rfl ?_
      refine lst_done ?_
      refine goes_true rfl ?_
      refine goes_seq ?_
      refine goes_region ?_
      refine lst_run (run_assign (by conv => lhs; whnf)) rfl ?_
      refine lst_done ?_
      refine goes_ret1 Try.func63 rfl (by conv => lhs; whnf) ?_
      rw [hg]
      refine ⟨?_, hS.ext.below⟩
      simp [goodTr1, hy, hk]
theorem good_any (h : HH) (A B : Option Addr) (c d : Nat) (w : World) (hH : HFl h A c B d w) :
    Calls Try.prog 34 #[hv h A c B d] w fun e w' => e = .returned (.bool (goodH h)) ∧ Below w.heap.size w w' := by
  have hS := (St.start w).base (φ := HFl h A c B d) fun w' hx => hH.ext hx
  refine goes_enter1 Try.func34 rfl Try.ntmps34 rfl ?_
  refine goes_seq ?_
  refine goes_region ?_
  refine lst_box hS rfl rfl ?_
  clear hS
  intro b1 wx1 hS
  refine lst_run (run_assign (by conv => lhs; whnf)) rfl ?_
  refine lst_done ?_
  refine goes_seq ?_
  refine goes_region ?_
  refine lst_run (run_fieldAddr (off := 0) rfl rfl) rfl ?_
  first
    | refine lst_run (run_load1_own hS rfl rfl (by first | exact .head | exact .tail .head | exact .tail (.tail .head) | exact .tail (.tail (.tail .head)) | exact .tail (.tail (.tail (.tail .head))) | exact .tail (.tail (.tail (.tail (.tail .head))))) (by repeat constructor)) rfl ?_
    | refine lst_run (run_load1 rfl rfl (by first | assumption | exact (hcc _ hS).1 | exact (hcc _ hS).2.1 | exact (hcc _ hS).2.2 | exact hS.cell0 (by assumption) | exact lv_next hS | exact lv_list hS)) rfl ?_
  refine lst_enter (run_call (by kernel_rfl) (args_1 (by conv => lhs; whnf))) rfl ?_
  refine Calls.mono (goodCells_any h.cs A c _ (hS.fact (.head _)).1) ?_
  rintro _ w3 ⟨rfl, hb3⟩
  refine ⟨_, rfl, ?_⟩
  replace hS := hS.grow hb3
  cases hg : goodCs h.cs with
  | false =>
    rw [show goodH h = false by unfold goodH; rw [hg]; rfl]
    refine lst_run (run_move (by conv => lhs; whnf)) rfl ?_
    refine lst_pass rfl rfl rfl ?_
    refine lst_pass rfl rfl rfl ?_
    first
      | refine lst_run (run_pick_t rfl (by conv => lhs; whnf)) rfl ?_
      | refine lst_run (run_pick_f rfl (by conv => lhs; whnf)) rfl ?_
    refine lst_run (run_assign (by conv => lhs; whnf)) rfl ?_
    refine lst_done ?_
    refine goes_ret1 Try.func34 rfl (by conv => lhs; whnf) ?_
    exact ⟨rfl, hS.ext.below⟩
  | true =>
    rw [show goodH h = goodTr h.cs h.tr by unfold goodH; rw [hg]; rfl]
    refine lst_run (run_move (by conv => lhs; whnf)) rfl ?_
    refine lst_guard rfl rfl ?_
    first
      | refine lst_run (run_loadN_own (k := 2) hS rfl rfl rfl (by first | exact .head | exact .tail .head | exact .tail (.tail .head) | exact .tail (.tail (.tail .head)) | exact .tail (.tail (.tail (.tail .head))) | exact .tail (.tail (.tail (.tail (.tail .head))))) (by repeat constructor)) rfl ?_
      | refine lst_run (run_load2 rfl rfl rfl (by first | assumption | exact (hcc _ hS).1 | exact (hcc _ hS).2.1 | exact (hcc _ hS).2.2 | exact hS.cell0 (by assumption)) (by first | assumption | exact (hcc _ hS).1 | exact (hcc _ hS).2.1 | exact (hcc _ hS).2.2 | exact hS.cell0 (by assumption))) rfl ?_
    refine lst_guard rfl rfl ?_
    refine lst_enter (run_call (by kernel_rfl) (args_1 (by conv => lhs; whnf))) rfl ?_
    refine Calls.mono (goodTrail_any h.cs h.tr A B c d _ (hS.fact (.head _)).1 (hS.fact (.head _)).2) ?_
    rintro _ w4 ⟨rfl, hb4⟩
    refine ⟨_, rfl, ?_⟩
    replace hS := hS.grow hb4
    first
      | refine lst_run (run_pick_t rfl (by conv => lhs; whnf)) rfl ?_
      | refine lst_run (run_pick_f rfl (by conv => lhs; whnf)) rfl ?_
    refine lst_run (run_assign (by conv => lhs; whnf)) rfl ?_
    refine lst_done ?_
    refine goes_ret1 Try.func34 rfl (by conv => lhs; whnf) ?_
    exact ⟨rfl, hS.ext.below⟩
theorem good_len {h : HH} (hg : goodH h = true) : h.cs.length ≤ 65536 ∧ h.tr.length ≤ 65536 := by
  unfold goodH goodCs goodTr at hg
  simp only [Bool.and_eq_true, decide_eq_true_eq] at hg
  exact ⟨hg.1.1, hg.2.1⟩
end Go.Proofs.Ytdflngjfnpbpmab
namespace Go.Proofs.Ytdflngjfnpbpmab
open Go.RowKit
set_option linter.unusedVariables false
set_option linter.unusedSimpArgs false
set_option maxRecDepth 100000
set_option maxHeartbeats 1000000

section
variable {M : List Nat} {w0 : World} {H : List (Nat × Obj)} {F : List (World → Prop)}
theorem cloneC_any (L : List HC) (A : Option Addr) (c : Nat) (w : World) (hL : Und F (Flat 3 (hcsL L) A L.length c)) (hl : L.length ≤ 4398046511104) (hS : St M w0 H F w) :
    Calls Try.prog 43 #[.slice A L.length c] w fun e w' => ∃ (A' : Option Addr) (c' : Nat) (O : List (Nat × Obj)), e = .returned (.slice A' L.length c') ∧ Rw 68 3 (.slice A' L.length c') L.length (hcsL L) O ∧ St M w0 (O ++ H) F w' := by
  refine goes_enter1 Try.func43 rfl Try.ntmps43 rfl ?_
  cases A with
  | none =>
    have h0 : L.length = 0 := by
      rcases Nat.eq_zero_or_pos L.length with h | h
      · exact h
      · obtain ⟨b, o, e⟩ := (hS.und hL).some_ h; cases e
    obtain rfl : L = [] := List.eq_nil_of_length_eq_zero h0
    refine goes_seq ?_
    refine goes_region ?_
    refine lst_run (run_assign (by conv => lhs; whnf)) rfl ?_
    refine lst_done ?_
    refine goes_seq ?_
    refine goes_seq ?_
    refine goes_region ?_
    refine lst_run (run_move (by conv => lhs; whnf)) rfl ?_
    refine lst_run (run_eql_slice rfl rfl rfl) rfl ?_
    refine lst_done ?_
    refine goes_true rfl ?_
    refine goes_seq ?_
    refine goes_region ?_
    refine lst_run (run_assign (by conv => lhs; whnf)) rfl ?_
    refine lst_done ?_
    refine goes_ret1 Try.func43 rfl (by conv => lhs; whnf) ?_
    exact ⟨none, 0, [], rfl, Rw.zero_, hS⟩
  | some a =>
    refine goes_seq ?_
    refine goes_region ?_
    refine lst_run (run_assign (by conv => lhs; whnf)) rfl ?_
    refine lst_done ?_
    refine goes_seq ?_
    refine goes_seq ?_
    refine goes_region ?_
    refine lst_run (run_move (by conv => lhs; whnf)) rfl ?_
    refine lst_run (run_eql_slice rfl rfl rfl) rfl ?_
    refine lst_done ?_
    refine goes_false rfl ?_
    refine goes_skip ?_
    refine goes_seq ?_
    refine goes_region ?_
    refine lst_buildSlice0 (sz := 3) hS rfl rfl rfl ?_
    clear hS
    intro b1 wx1 hS
    refine lst_run (run_move (by conv => lhs; whnf)) rfl ?_
    obtain ⟨i, z, h2, h3, h4, h5, h6⟩ := rowP_some (P := Try.prog) (el := 68) (sz := 3) (bts := 32) rfl
    refine lst_appendRw (xs := []) (O := []) hS (by conv => lhs; whnf) (by conv => lhs; whnf) rfl rfl h2 h3 h4 (by rw [h5]; exact hcsL_len L) (by rw [h5]; exact (hS.und hL).src rfl (hcsL_one L)) Rw.zero_ (.refl _) (by rw [h6]; omega) (by omega) rfl ?_
    rw [h5]
    clear hS
    intro v' O' w' hrow hS
    rw [Nat.zero_add, List.nil_append] at hrow
    obtain ⟨A', c', rfl, _⟩ := hrow.form
    refine lst_run (run_assign (by conv => lhs; whnf)) rfl ?_
    refine lst_done ?_
    refine goes_ret1 Try.func43 rfl (by conv => lhs; whnf) ?_
    exact ⟨A', c', O', rfl, hrow, (hS.perm (List.perm_append_comm_assoc O' [_] _)).drop⟩
theorem clipC_any (len c : Nat) (A : Option Addr) (w : World) (hl : len ≤ c) :
    Calls Try.prog 50 #[.slice A len c] w fun e w' => e = .returned (.slice A len len) ∧ Below w.heap.size w w' := by
  have hS := St.start w
  refine goes_enter1 Try.func50 rfl Try.ntmps50 rfl ?_
  refine goes_seq ?_
  refine goes_region ?_
  refine lst_run (run_assign (by conv => lhs; whnf)) rfl ?_
  refine lst_done ?_
  refine goes_seq ?_
  refine goes_region ?_
  refine lst_run (run_move (by conv => lhs; whnf)) rfl ?_
  refine lst_run (run_move (by conv => lhs; whnf)) rfl ?_
  refine lst_run (run_len_slice rfl rfl rfl) rfl ?_
  refine lst_run (run_move (by conv => lhs; whnf)) rfl ?_
  refine lst_run (run_len_slice rfl rfl rfl) rfl ?_
  refine lst_run (run_slice_clip (sz := 3) rfl rfl rfl rfl rfl rfl rfl (by omega)) rfl ?_
  refine lst_run (run_assign (by conv => lhs; whnf)) rfl ?_
  refine lst_done ?_
  refine goes_ret1 Try.func50 rfl (by conv => lhs; whnf) ?_
  exact ⟨rfl, hS.ext.below⟩
theorem cloneI_any (L : List Int) (A : Option Addr) (c : Nat) (w : World) (hL : Und F (Flat 1 (intsV L) A L.length c)) (hl : L.length ≤ 4398046511104) (hS : St M w0 H F w) :
    Calls Try.prog 44 #[.slice A L.length c] w fun e w' => ∃ (A' : Option Addr) (c' : Nat) (O : List (Nat × Obj)), e = .returned (.slice A' L.length c') ∧ Rw 3 1 (.slice A' L.length c') L.length (intsV L) O ∧ St M w0 (O ++ H) F w' := by
  refine goes_enter1 Try.func44 rfl Try.ntmps44 rfl ?_
  cases A with
  | none =>
    have h0 : L.length = 0 := by
      rcases Nat.eq_zero_or_pos L.length with h | h
      · exact h
      · obtain ⟨b, o, e⟩ := (hS.und hL).some_ h; cases e
    obtain rfl : L = [] := List.eq_nil_of_length_eq_zero h0
    refine goes_seq ?_
    refine goes_region ?_
    refine lst_run (run_assign (by conv => lhs; whnf)) rfl ?_
    refine lst_done ?_
    refine goes_seq ?_
    refine goes_seq ?_
    refine goes_region ?_
    refine lst_run (run_move (by conv => lhs; whnf)) rfl ?_
    refine lst_run (run_eql_slice rfl rfl rfl) rfl ?_
    refine lst_done ?_
    refine goes_true rfl ?_
    refine goes_seq ?_
    refine goes_region ?_
    refine lst_run (run_assign (by conv => lhs; whnf)) rfl ?_
    refine lst_done ?_
    refine goes_ret1 Try.func44 rfl (by conv => lhs; whnf) ?_
    exact ⟨none, 0, [], rfl, Rw.zero_, hS⟩
  | some a =>
    refine goes_seq ?_
    refine goes_region ?_
    refine lst_run (run_assign (by conv => lhs; whnf)) rfl ?_
    refine lst_done ?_
    refine goes_seq ?_
    refine goes_seq ?_
    refine goes_region ?_
    refine lst_run (run_move (by conv => lhs; whnf)) rfl ?_
    refine lst_run (run_eql_slice rfl rfl rfl) rfl ?_
    refine lst_done ?_
    refine goes_false rfl ?_
    refine goes_skip ?_
    refine goes_seq ?_
    refine goes_region ?_
    refine lst_buildSlice0 (sz := 1) hS rfl rfl rfl ?_
    clear hS
    intro b1 wx1 hS
    refine lst_run (run_move (by conv => lhs; whnf)) rfl ?_
    obtain ⟨i, z, h2, h3, h4, h5, h6⟩ := rowP_some (P := Try.prog) (el := 3) (sz := 1) (bts := 8) rfl
    refine lst_appendRw (xs := []) (O := []) hS (by conv => lhs; whnf) (by conv => lhs; whnf) rfl rfl h2 h3 h4 (by rw [h5]; exact intsV_len L) (by rw [h5]; exact (hS.und hL).src rfl (intsV_one L)) Rw.zero_ (.refl _) (by rw [h6]; omega) (by omega) rfl ?_
    rw [h5]
    clear hS
    intro v' O' w' hrow hS
    rw [Nat.zero_add, List.nil_append] at hrow
    obtain ⟨A', c', rfl, _⟩ := hrow.form
    refine lst_run (run_assign (by conv => lhs; whnf)) rfl ?_
    refine lst_done ?_
    refine goes_ret1 Try.func44 rfl (by conv => lhs; whnf) ?_
    exact ⟨A', c', O', rfl, hrow, (hS.perm (List.perm_append_comm_assoc O' [_] _)).drop⟩
theorem clipI_any (len c : Nat) (A : Option Addr) (w : World) (hl : len ≤ c) :
    Calls Try.prog 49 #[.slice A len c] w fun e w' => e = .returned (.slice A len len) ∧ Below w.heap.size w w' := by
  have hS := St.start w
  refine goes_enter1 Try.func49 rfl Try.ntmps49 rfl ?_
  refine goes_seq ?_
  refine goes_region ?_
  refine lst_run (run_assign (by conv => lhs; whnf)) rfl ?_
  refine lst_done ?_
  refine goes_seq ?_
  refine goes_region ?_
  refine lst_run (run_move (by conv => lhs; whnf)) rfl ?_
  refine lst_run (run_move (by conv => lhs; whnf)) rfl ?_
  refine lst_run (run_len_slice rfl rfl rfl) rfl ?_
  refine lst_run (run_move (by conv => lhs; whnf)) rfl ?_
  refine lst_run (run_len_slice rfl rfl rfl) rfl ?_
  refine lst_run (run_slice_clip (sz := 1) rfl rfl rfl rfl rfl rfl rfl (by omega)) rfl ?_
  refine lst_run (run_assign (by conv => lhs; whnf)) rfl ?_
  refine lst_done ?_
  refine goes_ret1 Try.func49 rfl (by conv => lhs; whnf) ?_
  exact ⟨rfl, hS.ext.below⟩
theorem clipC_st (len c : Nat) (A : Option Addr) (w : World) (hl : len ≤ c) (hS : St M w0 H F w) :
    Calls Try.prog 50 #[.slice A len c] w fun e w' => e = .returned (.slice A len len) ∧ St M w0 H F w' :=
  (clipC_any len c A w hl).mono fun e w' h => ⟨h.1, hS.grow h.2⟩
theorem grow_any (k : Nat) (w : World) (hk : k ≤ 65536) (hS : St M w0 H F w) :
    Calls Try.prog 88 #[.slice none 0 0, .int .i64 (k : Nat)] w fun e w' => ∃ (v : Value) (O : List (Nat × Obj)), e = .returned v ∧ Rw 68 3 v 0 [] O ∧ St M w0 (O ++ H) F w' := by
  refine goes_enter2 Try.func88 rfl Try.ntmps88 rfl ?_
  by_cases h0 : 0 < k
  · refine goes_seq ?_
    refine goes_region ?_
    refine lst_run (run_assign (by conv => lhs; whnf)) rfl ?_
    refine lst_done ?_
    refine goes_seq ?_
    refine goes_seq ?_
    refine goes_region ?_
    refine lst_run (run_move (by conv => lhs; whnf)) rfl ?_
    first
      | refine lst_run (run_lss_yes rfl rfl (by omega)) rfl ?_
      | refine lst_run (run_lss_no rfl rfl (by omega)) rfl ?_
      | refine lst_run (rfl) rfl ?_
    refine lst_done ?_
    refine goes_false rfl ?_
    refine goes_skip ?_
    refine goes_seq ?_
    refine goes_seq ?_
    refine goes_region ?_
    refine lst_run (run_move (by conv => lhs; whnf)) rfl ?_
    refine lst_run (run_move (by conv => lhs; whnf)) rfl ?_
    refine lst_run (run_cap_slice rfl rfl rfl) rfl ?_
    refine lst_run (run_move (by conv => lhs; whnf)) rfl ?_
    refine lst_run (run_len_slice rfl rfl rfl) rfl ?_
    first
      | refine lst_run (run_sub rfl rfl (by omega) (by omega)) rfl ?_
      | refine lst_run (run_sub_u8 rfl rfl) rfl ?_
    first
      | refine lst_run (run_sub rfl rfl (by omega) (by omega)) rfl ?_
      | refine lst_run (run_sub_u8 rfl rfl) rfl ?_
    refine lst_run (run_assign (by conv => lhs; whnf)) rfl ?_
    refine lst_done ?_
    refine goes_seq ?_
    refine goes_region ?_
    refine lst_run (run_move (by conv => lhs; whnf)) rfl ?_
    first
      | refine lst_run (run_gtr_yes rfl rfl (by omega)) rfl ?_
      | refine lst_run (run_gtr_no rfl rfl (by omega)) rfl ?_
      | refine lst_run (rfl) rfl ?_
    refine lst_done ?_
    refine goes_true rfl ?_
    refine goes_region ?_
    refine lst_run (run_move (by conv => lhs; whnf)) rfl ?_
    refine lst_run (run_move (by conv => lhs; whnf)) rfl ?_
    refine lst_run (run_cap_slice rfl rfl rfl) rfl ?_
    refine lst_run (run_slice_slice (sz := 3) rfl rfl rfl rfl (by omega) (by omega)) rfl ?_
    refine lst_run (run_move (by conv => lhs; whnf)) rfl ?_
    refine lst_appendMake (sz := 3) (bts := 32) (k := k) (ki := .i64) hS rfl (by show Value.int .i64 ((k : Int) - (((0 : Nat) : Int) - ((0 : Nat) : Int))) = _; congr 1) rfl rfl rfl (by omega) h0 (by omega) (by omega) rfl ?_
    clear hS
    intro b cap zs w2 hc hz hS
    refine lst_run (run_move (by conv => lhs; whnf)) rfl ?_
    refine lst_run (run_len_slice rfl rfl rfl) rfl ?_
    refine lst_run (run_slice_slice (sz := 3) rfl rfl rfl rfl (by omega) (by omega)) rfl ?_
    refine lst_run (run_assign (by conv => lhs; whnf)) rfl ?_
    refine lst_done ?_
    refine goes_seq ?_
    refine goes_region ?_
    refine lst_run (run_move (by conv => lhs; whnf)) rfl ?_
    refine lst_run (run_assign (by conv => lhs; whnf)) rfl ?_
    refine lst_done ?_
    refine goes_ret1 Try.func88 rfl (by conv => lhs; whnf) ?_
    exact ⟨_, [(b, .cells zs.toArray _)], rfl, Rw.own_ (xs := []) (sp := zs) rfl (by simpa using hz) (Nat.zero_le _) (by omega), hS⟩
  · refine goes_seq ?_
    refine goes_region ?_
    refine lst_run (run_assign (by conv => lhs; whnf)) rfl ?_
    refine lst_done ?_
    refine goes_seq ?_
    refine goes_seq ?_
    refine goes_region ?_
    refine lst_run (run_move (by conv => lhs; whnf)) rfl ?_
    first
      | refine lst_run (run_lss_yes rfl rfl (by omega)) rfl ?_
      | refine lst_run (run_lss_no rfl rfl (by omega)) rfl ?_
      | refine lst_run (rfl) rfl ?_
    refine lst_done ?_
    refine goes_false rfl ?_
    refine goes_skip ?_
    refine goes_seq ?_
    refine goes_seq ?_
    refine goes_region ?_
    refine lst_run (run_move (by conv => lhs; whnf)) rfl ?_
    refine lst_run (run_move (by conv => lhs; whnf)) rfl ?_
    refine lst_run (run_cap_slice rfl rfl rfl) rfl ?_
    refine lst_run (run_move (by conv => lhs; whnf)) rfl ?_
    refine lst_run (run_len_slice rfl rfl rfl) rfl ?_
    first
      | refine lst_run (run_sub rfl rfl (by omega) (by omega)) rfl ?_
      | refine lst_run (run_sub_u8 rfl rfl) rfl ?_
    first
      | refine lst_run (run_sub rfl rfl (by omega) (by omega)) rfl ?_
      | refine lst_run (run_sub_u8 rfl rfl) rfl ?_
    refine lst_run (run_assign (by conv => lhs; whnf)) rfl ?_
    refine lst_done ?_
    refine goes_seq ?_
    refine goes_region ?_
    refine lst_run (run_move (by conv => lhs; whnf)) rfl ?_
    first
      | refine lst_run (run_gtr_yes rfl rfl (by omega)) rfl ?_
      | refine lst_run (run_gtr_no rfl rfl (by omega)) rfl ?_
      | refine lst_run (rfl) rfl ?_
    refine lst_done ?_
    refine goes_false rfl ?_
    refine goes_skip ?_
    refine goes_seq ?_
    refine goes_region ?_
    refine lst_run (run_move (by conv => lhs; whnf)) rfl ?_
    refine lst_run (run_assign (by conv => lhs; whnf)) rfl ?_
    refine lst_done ?_
    refine goes_ret1 Try.func88 rfl (by conv => lhs; whnf) ?_
    exact ⟨_, [], rfl, Rw.zero_, hS⟩
/-- append(s, x...), of cells that lie there. -/
theorem lst_appC {P : Program} {n : Nat} {e : Env} {w : World} {Q : Exit → Act → World → Prop} {ops : Array Oper} {rest : List Oper} {ty : TypeId} {pos : String} {after : Array Edge} {d : Nat} {H' : List (Nat × Obj)} {x y : Operand} {v : Value} {t tx : TypeId} {el len c : Nat} {A : Option Addr} {L : List HC} {xs : List Value} {O : List (Nat × Obj)} (hS : St M w0 H F w) (hx : ev n e x = v) (hy : ev n e y = .slice A L.length c)
    (hT : isSliceP P t = some el) (hTx : isSliceP P tx = some el) (hi : rowP P el = some (3, 32)) (hL : Flat 3 (hcsL L) A L.length c w) (hrow : Rw el 3 v len xs O)
    (hP : H.Perm (O ++ H')) (hbig : len + L.length ≤ 4398046511104) (hd : Nat.blt d n = true)
    (h : ∀ v' O' w', Rw el 3 v' (len + L.length) (xs ++ hcsL L) O' → St M w0 (O' ++ H') F w' → Lst P Q ops rest n ((d, v') :: e) w') :
    Lst P Q ops (⟨some d, .call ⟨.builtin .append, #[x, y], #[t, tx]⟩, ty, pos, after, none⟩ :: rest) n e w := by
  obtain ⟨i, z, h2, h3, h4, h5, h6⟩ := rowP_some hi
  refine lst_appendRw hS hx hy hT hTx h2 h3 h4 (by rw [h5]; exact hcsL_len L) (by rw [h5]; exact hL.src hTx (hcsL_one L)) (by rw [h5]; exact hrow) hP (by rw [h6]; omega) (by omega) hd ?_
  rw [h5]; exact h
/-- append(s, x...), of numbers that lie there. -/
theorem lst_appI {P : Program} {n : Nat} {e : Env} {w : World} {Q : Exit → Act → World → Prop} {ops : Array Oper} {rest : List Oper} {ty : TypeId} {pos : String} {after : Array Edge} {d : Nat} {H' : List (Nat × Obj)} {x y : Operand} {v : Value} {t tx : TypeId} {el len c : Nat} {A : Option Addr} {L : List Int} {xs : List Value} {O : List (Nat × Obj)} (hS : St M w0 H F w) (hx : ev n e x = v) (hy : ev n e y = .slice A L.length c)
    (hT : isSliceP P t = some el) (hTx : isSliceP P tx = some el) (hi : rowP P el = some (1, 8)) (hL : Flat 1 (intsV L) A L.length c w) (hrow : Rw el 1 v len xs O)
    (hP : H.Perm (O ++ H')) (hbig : len + L.length ≤ 17592186044416) (hd : Nat.blt d n = true)
    (h : ∀ v' O' w', Rw el 1 v' (len + L.length) (xs ++ intsV L) O' → St M w0 (O' ++ H') F w' → Lst P Q ops rest n ((d, v') :: e) w') :
    Lst P Q ops (⟨some d, .call ⟨.builtin .append, #[x, y], #[t, tx]⟩, ty, pos, after, none⟩ :: rest) n e w := by
  obtain ⟨i, z, h2, h3, h4, h5, h6⟩ := rowP_some hi
  refine lst_appendRw hS hx hy hT hTx h2 h3 h4 (by rw [h5]; exact intsV_len L) (by rw [h5]; exact hL.src hTx (intsV_one L)) (by rw [h5]; exact hrow) hP (by rw [h6]; omega) (by omega) hd ?_
  rw [h5]; exact h
theorem concat_any (L K : List HC) (A B : Option Addr) (c d sb : Nat) (w : World) (hL : Und F (Flat 3 (hcsL L) A L.length c)) (hK : Und F (Flat 3 (hcsL K) B K.length d)) (hl : L.length + K.length ≤ 65536)
    (hS : St M w0 ((sb, .cells [.slice A L.length c, .slice B K.length d].toArray 22) :: H) F w) :
    Calls Try.prog 71 #[.slice (some ⟨sb, 0, none⟩) 2 2] w fun e w' => ∃ (A' : Option Addr) (c' : Nat) (O : List (Nat × Obj)), e = .returned (.slice A' (L ++ K).length c') ∧ Rw 68 3 (.slice A' (L ++ K).length c') (L ++ K).length (hcsL (L ++ K)) O ∧ St M w0 (O ++ H) F w' := by
  refine goes_enter1 Try.func71 rfl Try.ntmps71 rfl ?_
  refine goes_seq ?_
  refine goes_region ?_
  refine lst_run (run_assign (by conv => lhs; whnf)) rfl ?_
  refine lst_done ?_
  refine goes_seq ?_
  refine goes_region ?_
  refine lst_run (run_assign (by conv => lhs; whnf)) rfl ?_
  refine lst_done ?_
  refine goes_seq ?_
  refine goes_seq ?_
  refine goes_region ?_
  refine lst_run (run_move (by conv => lhs; whnf)) rfl ?_
  refine lst_run (run_len_slice rfl rfl rfl) rfl ?_
  refine lst_run (run_move (by conv => lhs; whnf)) rfl ?_
  refine lst_done ?_
  refine goes_block ?_
  refine goes_loop2 11 3 (12 :: 13 :: 14 :: 5 :: 15 :: 16 :: 17 :: 18 :: 19 :: 20 :: 21 :: 22 :: []) (fun (i : Nat) v u w' => ∃ j : Nat, j + i = 2 ∧ v = .int .i64 (j : Nat) ∧ u = .int .i64 ((if j = 0 then 0 else if j = 1 then L.length else L.length + K.length : Nat) : Int) ∧ St M w0 ((sb, .cells [.slice A L.length c, .slice B K.length d].toArray 22) :: H) F w') (fun i => i) (2) ?_ (by conv => lhs; whnf) (by conv => lhs; whnf) ?_
  · exact ⟨0, rfl, rfl, rfl, hS⟩
  clear hS
  rintro i _ _ w2 jv ⟨j, hj, rfl, rfl, hS⟩ ih
  match i, hj with
  | 2, hj =>
    obtain rfl : j = 0 := by omega
    rw [if_pos rfl]
    refine goes_seq ?_
    refine goes_region ?_
    first
      | refine lst_run (run_lss_yes rfl rfl (by omega)) rfl ?_
      | refine lst_run (run_lss_no rfl rfl (by omega)) rfl ?_
      | refine lst_run (rfl) rfl ?_
    refine lst_done ?_
    refine goes_seq ?_
    refine goes_true rfl ?_
    refine goes_skip ?_
    refine goes_seq ?_
    refine goes_block ?_
    refine goes_seq ?_
    refine goes_region ?_
    refine lst_run (run_indexAddr (sz := 1) rfl rfl rfl rfl (by omega) (by omega)) rfl ?_
    first
      | refine lst_run (run_load1_own hS rfl rfl (by first | exact .head | exact .tail .head | exact .tail (.tail .head) | exact .tail (.tail (.tail .head)) | exact .tail (.tail (.tail (.tail .head))) | exact .tail (.tail (.tail (.tail (.tail .head))))) (by repeat constructor)) rfl ?_
      | refine lst_run (run_load1 rfl rfl (by first | assumption | exact hS.cell0 (by assumption) | exact lv_next hS | exact lv_list hS)) rfl ?_
    refine lst_run (run_assign (by conv => lhs; whnf)) rfl ?_
    refine lst_done ?_
    refine goes_seq ?_
    refine goes_region ?_
    refine lst_run (run_move (by conv => lhs; whnf)) rfl ?_
    refine lst_run (run_move (by conv => lhs; whnf)) rfl ?_
    refine lst_run (run_len_slice rfl rfl rfl) rfl ?_
    refine lst_run (run_add rfl rfl (by omega) (by omega)) rfl ?_
    refine lst_run (run_assign (by conv => lhs; whnf)) rfl ?_
    refine lst_done ?_
    refine goes_seq ?_
    refine goes_region ?_
    refine lst_run (run_move (by conv => lhs; whnf)) rfl ?_
    first
      | refine lst_run (run_lss_yes rfl rfl (by omega)) rfl ?_
      | refine lst_run (run_lss_no rfl rfl (by omega)) rfl ?_
      | refine lst_run (rfl) rfl ?_
    refine lst_done ?_
    refine goes_false rfl ?_
    refine goes_skip ?_
    refine goes_inBlock ?_
    refine goes_region ?_
    refine lst_run (run_add rfl rfl (by omega) (by omega)) rfl ?_
    refine lst_run (run_move (by conv => lhs; whnf)) rfl ?_
    refine lst_done ?_
    refine ih (1) _ _ _ _ ?_ ?_ (by conv => lhs; whnf) (by conv => lhs; whnf) (by kernel_rfl)
    · omega
    · exact ⟨1, rfl, rfl, by simp, hS⟩
  | 1, hj =>
    obtain rfl : j = 1 := by omega
    rw [if_neg (show ¬ (1 : Nat) = 0 by omega), if_pos rfl]
    refine goes_seq ?_
    refine goes_region ?_
    first
      | refine lst_run (run_lss_yes rfl rfl (by omega)) rfl ?_
      | refine lst_run (run_lss_no rfl rfl (by omega)) rfl ?_
      | refine lst_run (rfl) rfl ?_
    refine lst_done ?_
    refine goes_seq ?_
    refine goes_true rfl ?_
    refine goes_skip ?_
    refine goes_seq ?_
    refine goes_block ?_
    refine goes_seq ?_
    refine goes_region ?_
    refine lst_run (run_indexAddr (sz := 1) rfl rfl rfl rfl (by omega) (by omega)) rfl ?_
    first
      | refine lst_run (run_load1_own hS rfl rfl (by first | exact .head | exact .tail .head | exact .tail (.tail .head) | exact .tail (.tail (.tail .head)) | exact .tail (.tail (.tail (.tail .head))) | exact .tail (.tail (.tail (.tail (.tail .head))))) (by repeat constructor)) rfl ?_
      | refine lst_run (run_load1 rfl rfl (by first | assumption | exact hS.cell0 (by assumption) | exact lv_next hS | exact lv_list hS)) rfl ?_
    refine lst_run (run_assign (by conv => lhs; whnf)) rfl ?_
    refine lst_done ?_
    refine goes_seq ?_
    refine goes_region ?_
    refine lst_run (run_move (by conv => lhs; whnf)) rfl ?_
    refine lst_run (run_move (by conv => lhs; whnf)) rfl ?_
    refine lst_run (run_len_slice rfl rfl rfl) rfl ?_
    refine lst_run (run_add rfl rfl (by omega) (by omega)) rfl ?_
    refine lst_run (run_assign (by conv => lhs; whnf)) rfl ?_
    refine lst_done ?_
    refine goes_seq ?_
    refine goes_region ?_
    refine lst_run (run_move (by conv => lhs; whnf)) rfl ?_
    first
      | refine lst_run (run_lss_yes rfl rfl (by omega)) rfl ?_
      | refine lst_run (run_lss_no rfl rfl (by omega)) rfl ?_
      | refine lst_run (rfl) rfl ?_
    refine lst_done ?_
    refine goes_false rfl ?_
    refine goes_skip ?_
    refine goes_inBlock ?_
    refine goes_region ?_
    refine lst_run (run_add rfl rfl (by omega) (by omega)) rfl ?_
    refine lst_run (run_move (by conv => lhs; whnf)) rfl ?_
    refine lst_done ?_
    refine ih (0) _ _ _ _ ?_ ?_ (by conv => lhs; whnf) (by conv => lhs; whnf) (by kernel_rfl)
    · omega
    · exact ⟨2, rfl, rfl, by simp, hS⟩
  | 0, hj =>
    obtain rfl : j = 2 := by omega
    rw [if_neg (show ¬ (2 : Nat) = 0 by omega), if_neg (show ¬ (2 : Nat) = 1 by omega)]
    refine goes_seq ?_
    refine goes_region ?_
    first
      | refine lst_run (run_lss_yes rfl rfl (by omega)) rfl ?_
      | refine lst_run (run_lss_no rfl rfl (by omega)) rfl ?_
      | refine lst_run (rfl) rfl ?_
    refine lst_done ?_
    refine goes_seq ?_
    refine goes_false rfl ?_
    refine goes_exit rfl ?_
    refine goes_seq ?_
    refine goes_region ?_
    refine lst_run (run_move (by conv => lhs; whnf)) rfl ?_
    refine lst_enter (run_call (by kernel_rfl) (args_2 (by conv => lhs; whnf) (by conv => lhs; whnf))) rfl ?_
    refine Calls.mono (grow_any (L.length + K.length) _ hl hS) ?_
    rintro _ w3 ⟨v3, O3, rfl, hrow3, hS'⟩
    refine ⟨_, rfl, ?_⟩
    replace hS := hS'
    clear hS'
    refine lst_run (run_assign (by conv => lhs; whnf)) rfl ?_
    refine lst_done ?_
    refine goes_seq ?_
    refine goes_seq ?_
    refine goes_region ?_
    refine lst_run (run_move (by conv => lhs; whnf)) rfl ?_
    refine lst_run (run_len_slice rfl rfl rfl) rfl ?_
    refine lst_run (run_move (by conv => lhs; whnf)) rfl ?_
    refine lst_done ?_
    refine goes_block ?_
    refine goes_loop2 27 6 (28 :: 29 :: 30 :: 8 :: 31 :: 32 :: 33 :: 34 :: []) (fun (i : Nat) v u w' => ∃ (j : Nat) (D : List HC) (O : List (Nat × Obj)), j + i = 2 ∧ v = .int .i64 (j : Nat) ∧ D = (if j = 0 then [] else if j = 1 then L else L ++ K) ∧ Rw 68 3 u D.length (hcsL D) O ∧ St M w0 (O ++ (sb, .cells [.slice A L.length c, .slice B K.length d].toArray 22) :: H) F w') (fun i => i) (2) ?_ (by conv => lhs; whnf) (by conv => lhs; whnf) ?_
    · exact ⟨0, [], O3, rfl, rfl, rfl, hrow3, hS⟩
    clear hS
    rintro i _ u w4 jv2 ⟨j, D, O, hj, rfl, hD, hrow, hS⟩ ih
    match i, hj with
    | 2, hj =>
      obtain rfl : j = 0 := by omega
      obtain rfl : D = [] := hD
      replace hS := hS.raise
      refine goes_seq ?_
      refine goes_region ?_
      first
        | refine lst_run (run_lss_yes rfl rfl (by omega)) rfl ?_
        | refine lst_run (run_lss_no rfl rfl (by omega)) rfl ?_
        | refine lst_run (rfl) rfl ?_
      refine lst_done ?_
      refine goes_seq ?_
      refine goes_true rfl ?_
      refine goes_skip ?_
      refine goes_seq ?_
      refine goes_block ?_
      refine goes_seq ?_
      refine goes_region ?_
      refine lst_run (run_indexAddr (sz := 1) rfl rfl rfl rfl (by omega) (by omega)) rfl ?_
      first
        | refine lst_run (run_load1_own hS rfl rfl (by first | exact .head | exact .tail .head | exact .tail (.tail .head) | exact .tail (.tail (.tail .head)) | exact .tail (.tail (.tail (.tail .head))) | exact .tail (.tail (.tail (.tail (.tail .head))))) (by repeat constructor)) rfl ?_
        | refine lst_run (run_load1 rfl rfl (by first | assumption | exact hS.cell0 (by assumption) | exact lv_next hS | exact lv_list hS)) rfl ?_
      refine lst_run (run_assign (by conv => lhs; whnf)) rfl ?_
      refine lst_done ?_
      refine goes_region ?_
      refine lst_run (run_move (by conv => lhs; whnf)) rfl ?_
      refine lst_run (run_move (by conv => lhs; whnf)) rfl ?_
      refine lst_appC hS (by conv => lhs; whnf) (by conv => lhs; whnf) rfl rfl rfl (hS.und hL) hrow (List.perm_append_comm_assoc [_] O _) (by simp; omega) rfl ?_
      clear hS
      intro v5 O5 w5 hrow5 hS
      refine lst_run (run_assign (by conv => lhs; whnf)) rfl ?_
      refine lst_done ?_
      refine goes_inBlock ?_
      refine goes_region ?_
      refine lst_run (run_add rfl rfl (by omega) (by omega)) rfl ?_
      refine lst_run (run_move (by conv => lhs; whnf)) rfl ?_
      refine lst_done ?_
      refine ih (1) _ _ _ _ ?_ ?_ (by conv => lhs; whnf) (by conv => lhs; whnf) (by kernel_rfl)
      · omega
      · exact ⟨1, L, O5, rfl, rfl, by simp, by simpa [hcsL] using hrow5, hS⟩
    | 1, hj =>
      obtain rfl : j = 1 := by omega
      have hD2 : D = L := by simpa using hD
      rw [hD2] at hrow
      replace hS := hS.raise
      refine goes_seq ?_
      refine goes_region ?_
      first
        | refine lst_run (run_lss_yes rfl rfl (by omega)) rfl ?_
        | refine lst_run (run_lss_no rfl rfl (by omega)) rfl ?_
        | refine lst_run (rfl) rfl ?_
      refine lst_done ?_
      refine goes_seq ?_
      refine goes_true rfl ?_
      refine goes_skip ?_
      refine goes_seq ?_
      refine goes_block ?_
      refine goes_seq ?_
      refine goes_region ?_
      refine lst_run (run_indexAddr (sz := 1) rfl rfl rfl rfl (by omega) (by omega)) rfl ?_
      first
        | refine lst_run (run_load1_own hS rfl rfl (by first | exact .head | exact .tail .head | exact .tail (.tail .head) | exact .tail (.tail (.tail .head)) | exact .tail (.tail (.tail (.tail .head))) | exact .tail (.tail (.tail (.tail (.tail .head))))) (by repeat constructor)) rfl ?_
        | refine lst_run (run_load1 rfl rfl (by first | assumption | exact hS.cell0 (by assumption) | exact lv_next hS | exact lv_list hS)) rfl ?_
      refine lst_run (run_assign (by conv => lhs; whnf)) rfl ?_
      refine lst_done ?_
      refine goes_region ?_
      refine lst_run (run_move (by conv => lhs; whnf)) rfl ?_
      refine lst_run (run_move (by conv => lhs; whnf)) rfl ?_
      refine lst_appC hS (by conv => lhs; whnf) (by conv => lhs; whnf) rfl rfl rfl (hS.und hK) hrow (List.perm_append_comm_assoc [_] O _) (by omega) rfl ?_
      clear hS
      intro v5 O5 w5 hrow5 hS
      refine lst_run (run_assign (by conv => lhs; whnf)) rfl ?_
      refine lst_done ?_
      refine goes_inBlock ?_
      refine goes_region ?_
      refine lst_run (run_add rfl rfl (by omega) (by omega)) rfl ?_
      refine lst_run (run_move (by conv => lhs; whnf)) rfl ?_
      refine lst_done ?_
      refine ih (0) _ _ _ _ ?_ ?_ (by conv => lhs; whnf) (by conv => lhs; whnf) (by kernel_rfl)
      · omega
      · exact ⟨2, L ++ K, O5, rfl, rfl, by simp, by rw [hcsL_app, List.length_append]; exact hrow5, hS⟩
    | 0, hj =>
      obtain rfl : j = 2 := by omega
      have hD2 : D = L ++ K := by simpa using hD
      rw [hD2] at hrow
      obtain ⟨A', c', rfl, _⟩ := hrow.form
      refine goes_seq ?_
      refine goes_region ?_
      first
        | refine lst_run (run_lss_yes rfl rfl (by omega)) rfl ?_
        | refine lst_run (run_lss_no rfl rfl (by omega)) rfl ?_
        | refine lst_run (rfl) rfl ?_
      refine lst_done ?_
      refine goes_seq ?_
      refine goes_false rfl ?_
      refine goes_exit rfl ?_
      refine goes_seq ?_
      refine goes_region ?_
      refine lst_run (run_move (by conv => lhs; whnf)) rfl ?_
      refine lst_run (run_assign (by conv => lhs; whnf)) rfl ?_
      refine lst_done ?_
      refine goes_ret1 Try.func71 rfl (by conv => lhs; whnf) ?_
      exact ⟨A', c', O, rfl, hrow, hS.raise.drop⟩
end
end Go.Proofs.Ytdflngjfnpbpmab
namespace Go.Proofs.Ytdflngjfnpbpmab
open Go.RowKit
set_option linter.unusedVariables false
set_option linter.unusedSimpArgs false
set_option maxRecDepth 100000
set_option maxHeartbeats 1000000

abbrev cvv (c : HC) : Value := .agg #[.int .i64 c.k, .int .i64 c.n, .string c.s]
section
variable {M : List Nat} {w0 : World} {H : List (Nat × Obj)} {F : List (World → Prop)}
theorem ref_any (i : Int) (w : World) (hS : St M w0 H F w) :
    Calls Try.prog 86 #[.int .i64 i] w fun e w' => e = .returned (cvv ⟨0, i, eS⟩) ∧ St M w0 H F w' := by
  refine goes_enter1 Try.func86 rfl Try.ntmps86 rfl ?_
  refine goes_seq ?_
  refine goes_region ?_
  refine lst_alloc (cs := [_, _, _]) hS rfl rfl rfl ?_
  clear hS
  intro b1 wx1 hS
  refine lst_done ?_
  refine goes_seq ?_
  refine goes_region ?_
  refine lst_run (run_move (by conv => lhs; whnf)) rfl ?_
  refine lst_run (run_build (cells := [_, _, _]) (.cons (by conv => lhs; whnf) (.cons (by conv => lhs; whnf) .nil)) rfl) rfl ?_
  refine lst_storeN hS rfl (by conv => lhs; whnf) rfl rfl (by first | exact .head | exact .tail .head | exact .tail (.tail .head) | exact .tail (.tail (.tail .head)) | exact .tail (.tail (.tail (.tail .head))) | exact .tail (.tail (.tail (.tail (.tail .head))))) (by repeat constructor) (by first | exact .head | exact .tail .head | exact .tail (.tail .head) | exact .tail (.tail (.tail .head)) | exact .tail (.tail (.tail (.tail .head))) | exact .tail (.tail (.tail (.tail (.tail .head))))) ?_
  clear hS
  intro wx2 hS
  refine lst_done ?_
  refine goes_retC (sz := 3) hS Try.func86 rfl rfl rfl rfl (by first | exact .head | exact .tail .head | exact .tail (.tail .head) | exact .tail (.tail (.tail .head)) | exact .tail (.tail (.tail (.tail .head))) | exact .tail (.tail (.tail (.tail (.tail .head))))) (by repeat constructor) ?_
  exact ⟨rfl, hS.drop⟩
theorem single_any (k n : Int) (s : ByteArray) (A : Option Addr) (l c : Nat) (w : World) (hS : St M w0 H F w) :
    Calls Try.prog 87 #[.agg #[.int .i64 k, .int .i64 n, .string s, .slice A l c]] w fun e w' => e = .returned (cvv (single k n s)) ∧ St M w0 H F w' := by
  refine goes_enter1 Try.func87 rfl Try.ntmps87 rfl ?_
  by_cases h0 : k = 0
  · subst h0
    refine goes_seq ?_
    refine goes_region ?_
    refine lst_box hS rfl rfl ?_
    clear hS
    intro b1 wx1 hS
    refine lst_alloc (cs := [_, _, _]) hS rfl rfl rfl ?_
    clear hS
    intro b2 wx2 hS
    refine lst_done ?_
    refine goes_seq ?_
    refine goes_seq ?_
    refine goes_region ?_
    refine lst_run (run_fieldAddr (off := 0) rfl rfl) rfl ?_
    first
      | refine lst_run (run_load1_own hS rfl rfl (by first | exact .head | exact .tail .head | exact .tail (.tail .head) | exact .tail (.tail (.tail .head)) | exact .tail (.tail (.tail (.tail .head))) | exact .tail (.tail (.tail (.tail (.tail .head))))) (by repeat constructor)) rfl ?_
      | refine lst_run (run_load1 rfl rfl (by first | assumption | exact hS.cell0 (by assumption) | exact lv_next hS | exact lv_list hS)) rfl ?_
    refine lst_done ?_
    refine goes_block ?_
    refine goes_seq ?_
    refine goes_region ?_
    first
      | refine lst_run (run_eql_one_int rfl rfl) rfl ?_
      | refine lst_run (run_eql_no rfl rfl (by first | assumption | omega)) rfl ?_
      | refine lst_run (run_eql_yes rfl rfl (by omega)) rfl ?_
      | refine lst_run (rfl) rfl ?_
    refine lst_run (run_assign (by conv => lhs; whnf)) rfl ?_
    refine lst_done ?_
    refine goes_true rfl ?_
    refine goes_seq ?_
    refine goes_region ?_
    refine lst_run (run_fieldAddr (off := 1) rfl rfl) rfl ?_
    first
      | refine lst_run (run_load1_own hS rfl rfl (by first | exact .head | exact .tail .head | exact .tail (.tail .head) | exact .tail (.tail (.tail .head)) | exact .tail (.tail (.tail (.tail .head))) | exact .tail (.tail (.tail (.tail (.tail .head))))) (by repeat constructor)) rfl ?_
      | refine lst_run (run_load1 rfl rfl (by first | assumption | exact hS.cell0 (by assumption) | exact lv_next hS | exact lv_list hS)) rfl ?_
    refine lst_enter (run_call (by kernel_rfl) (args_1 (by conv => lhs; whnf))) rfl ?_
    refine Calls.mono (ref_any n _ hS) ?_
    rintro _ w2 ⟨rfl, hS'⟩
    refine ⟨_, rfl, ?_⟩
    replace hS := hS'
    clear hS'
    refine lst_storeN hS rfl (by conv => lhs; whnf) rfl rfl (by first | exact .head | exact .tail .head | exact .tail (.tail .head) | exact .tail (.tail (.tail .head)) | exact .tail (.tail (.tail (.tail .head))) | exact .tail (.tail (.tail (.tail (.tail .head))))) (by repeat constructor) (by first | exact .head | exact .tail .head | exact .tail (.tail .head) | exact .tail (.tail (.tail .head)) | exact .tail (.tail (.tail (.tail .head))) | exact .tail (.tail (.tail (.tail (.tail .head))))) ?_
    clear hS
    intro wx3 hS
    refine lst_done ?_
    refine goes_retC (sz := 3) hS Try.func87 rfl rfl rfl rfl (by first | exact .head | exact .tail .head | exact .tail (.tail .head) | exact .tail (.tail (.tail .head)) | exact .tail (.tail (.tail (.tail .head))) | exact .tail (.tail (.tail (.tail (.tail .head))))) (by repeat constructor) ?_
    exact ⟨rfl, hS.drop.drop⟩
  by_cases h2 : k = 2
  · subst h2
    refine goes_seq ?_
    refine goes_region ?_
    refine lst_box hS rfl rfl ?_
    clear hS
    intro b1 wx1 hS
    refine lst_alloc (cs := [_, _, _]) hS rfl rfl rfl ?_
    clear hS
    intro b2 wx2 hS
    refine lst_done ?_
    refine goes_seq ?_
    refine goes_seq ?_
    refine goes_region ?_
    refine lst_run (run_fieldAddr (off := 0) rfl rfl) rfl ?_
    first
      | refine lst_run (run_load1_own hS rfl rfl (by first | exact .head | exact .tail .head | exact .tail (.tail .head) | exact .tail (.tail (.tail .head)) | exact .tail (.tail (.tail (.tail .head))) | exact .tail (.tail (.tail (.tail (.tail .head))))) (by repeat constructor)) rfl ?_
      | refine lst_run (run_load1 rfl rfl (by first | assumption | exact hS.cell0 (by assumption) | exact lv_next hS | exact lv_list hS)) rfl ?_
    refine lst_done ?_
    refine goes_block ?_
    refine goes_seq ?_
    refine goes_region ?_
    first
      | refine lst_run (run_eql_one_int rfl rfl) rfl ?_
      | refine lst_run (run_eql_no rfl rfl (by first | assumption | omega)) rfl ?_
      | refine lst_run (run_eql_yes rfl rfl (by omega)) rfl ?_
      | refine lst_run (rfl) rfl ?_
    refine lst_run (run_assign (by conv => lhs; whnf)) rfl ?_
    refine lst_done ?_
    refine goes_false rfl ?_
    refine goes_seq ?_
    refine goes_region ?_
    first
      | refine lst_run (run_eql_one_int rfl rfl) rfl ?_
      | refine lst_run (run_eql_no rfl rfl (by first | assumption | omega)) rfl ?_
      | refine lst_run (run_eql_yes rfl rfl (by omega)) rfl ?_
      | refine lst_run (rfl) rfl ?_
    refine lst_run (run_assign (by conv => lhs; whnf)) rfl ?_
    refine lst_done ?_
    refine goes_true rfl ?_
    refine goes_seq ?_
    refine goes_region ?_
    refine lst_run (run_fieldAddr (off := 1) rfl rfl) rfl ?_
    first
      | refine lst_run (run_load1_own hS rfl rfl (by first | exact .head | exact .tail .head | exact .tail (.tail .head) | exact .tail (.tail (.tail .head)) | exact .tail (.tail (.tail (.tail .head))) | exact .tail (.tail (.tail (.tail (.tail .head))))) (by repeat constructor)) rfl ?_
      | refine lst_run (run_load1 rfl rfl (by first | assumption | exact hS.cell0 (by assumption) | exact lv_next hS | exact lv_list hS)) rfl ?_
    refine lst_run (run_build (cells := [_, _, _]) (.cons (by conv => lhs; whnf) (.cons (by conv => lhs; whnf) .nil)) rfl) rfl ?_
    refine lst_storeN hS rfl (by conv => lhs; whnf) rfl rfl (by first | exact .head | exact .tail .head | exact .tail (.tail .head) | exact .tail (.tail (.tail .head)) | exact .tail (.tail (.tail (.tail .head))) | exact .tail (.tail (.tail (.tail (.tail .head))))) (by repeat constructor) (by first | exact .head | exact .tail .head | exact .tail (.tail .head) | exact .tail (.tail (.tail .head)) | exact .tail (.tail (.tail (.tail .head))) | exact .tail (.tail (.tail (.tail (.tail .head))))) ?_
    clear hS
    intro wx3 hS
    refine lst_done ?_
    refine goes_retC (sz := 3) hS Try.func87 rfl rfl rfl rfl (by first | exact .head | exact .tail .head | exact .tail (.tail .head) | exact .tail (.tail (.tail .head)) | exact .tail (.tail (.tail (.tail .head))) | exact .tail (.tail (.tail (.tail (.tail .head))))) (by repeat constructor) ?_
    exact ⟨rfl, hS.drop.drop⟩
  have e : single k n s = ⟨1, 0, s⟩ := by unfold single; rw [if_neg h0, if_neg h2]
  rw [e]
  refine goes_seq ?_
  refine goes_region ?_
  refine lst_box hS rfl rfl ?_
  clear hS
  intro b1 wx1 hS
  refine lst_alloc (cs := [_, _, _]) hS rfl rfl rfl ?_
  clear hS
  intro b2 wx2 hS
  refine lst_done ?_
  refine goes_seq ?_
  refine goes_seq ?_
  refine goes_region ?_
  refine lst_run (run_fieldAddr (off := 0) rfl rfl) rfl ?_
  first
    | refine lst_run (run_load1_own hS rfl rfl (by first | exact .head | exact .tail .head | exact .tail (.tail .head) | exact .tail (.tail (.tail .head)) | exact .tail (.tail (.tail (.tail .head))) | exact .tail (.tail (.tail (.tail (.tail .head))))) (by repeat constructor)) rfl ?_
    | refine lst_run (run_load1 rfl rfl (by first | assumption | exact hS.cell0 (by assumption) | exact lv_next hS | exact lv_list hS)) rfl ?_
  refine lst_done ?_
  refine goes_block ?_
  refine goes_seq ?_
  refine goes_region ?_
  first
    | refine lst_run (run_eql_one_int rfl rfl) rfl ?_
    | refine lst_run (run_eql_no rfl rfl (by first | assumption | omega)) rfl ?_
    | refine lst_run (run_eql_yes rfl rfl (by omega)) rfl ?_
    | refine lst_run (rfl) rfl ?_
  refine lst_run (run_assign (by conv => lhs; whnf)) rfl ?_
  refine lst_done ?_
  refine goes_false rfl ?_
  refine goes_seq ?_
  refine goes_region ?_
  first
    | refine lst_run (run_eql_one_int rfl rfl) rfl ?_
    | refine lst_run (run_eql_no rfl rfl (by first | assumption | omega)) rfl ?_
    | refine lst_run (run_eql_yes rfl rfl (by omega)) rfl ?_
    | refine lst_run (rfl) rfl ?_
  refine lst_run (run_assign (by conv => lhs; whnf)) rfl ?_
  refine lst_done ?_
  refine goes_false rfl ?_
  refine goes_skip ?_
  refine goes_inBlock ?_
  refine goes_seq ?_
  refine goes_region ?_
  refine lst_run (run_fieldAddr (off := 2) rfl rfl) rfl ?_
  first
    | refine lst_run (run_load1_own hS rfl rfl (by first | exact .head | exact .tail .head | exact .tail (.tail .head) | exact .tail (.tail (.tail .head)) | exact .tail (.tail (.tail (.tail .head))) | exact .tail (.tail (.tail (.tail (.tail .head))))) (by repeat constructor)) rfl ?_
    | refine lst_run (run_load1 rfl rfl (by first | assumption | exact hS.cell0 (by assumption) | exact lv_next hS | exact lv_list hS)) rfl ?_
  refine lst_run (run_build (cells := [_, _, _]) (.cons (by conv => lhs; whnf) (.cons (by conv => lhs; whnf) .nil)) rfl) rfl ?_
  refine lst_storeN hS rfl (by conv => lhs; whnf) rfl rfl (by first | exact .head | exact .tail .head | exact .tail (.tail .head) | exact .tail (.tail (.tail .head)) | exact .tail (.tail (.tail (.tail .head))) | exact .tail (.tail (.tail (.tail (.tail .head))))) (by repeat constructor) (by first | exact .head | exact .tail .head | exact .tail (.tail .head) | exact .tail (.tail (.tail .head)) | exact .tail (.tail (.tail (.tail .head))) | exact .tail (.tail (.tail (.tail (.tail .head))))) ?_
  clear hS
  intro wx3 hS
  refine lst_done ?_
  refine goes_retC (sz := 3) hS Try.func87 rfl rfl rfl rfl (by first | exact .head | exact .tail .head | exact .tail (.tail .head) | exact .tail (.tail (.tail .head)) | exact .tail (.tail (.tail (.tail .head))) | exact .tail (.tail (.tail (.tail (.tail .head))))) (by repeat constructor) ?_
  exact ⟨rfl, hS.drop.drop⟩
theorem variables_any (n : Nat) (hn : n ≤ 1000) (w : World) (hS : St M w0 H F w) :
    Calls Try.prog 67 #[.int .i64 (n : Nat)] w fun e w' => ∃ (A : Option Addr) (c : Nat) (O : List (Nat × Obj)), e = .returned (.slice A (varsB n).length c) ∧ Rw 68 3 (.slice A (varsB n).length c) (varsB n).length (hcsL (varsB n)) O ∧ St M w0 (O ++ H) F w' := by
  rw [varsB_len]
  refine goes_enter1 Try.func67 rfl Try.ntmps67 rfl ?_
  refine goes_seq ?_
  refine goes_region ?_
  refine lst_run (run_assign (by conv => lhs; whnf)) rfl ?_
  refine lst_done ?_
  refine goes_seq ?_
  refine goes_region ?_
  refine lst_run (run_move (by conv => lhs; whnf)) rfl ?_
  refine lst_make (k := n) (sz := 3) (bts := 32) hS rfl rfl rfl rfl (by omega) (by omega) rfl ?_
  clear hS
  intro b w2 cs hcl hS
  refine lst_run (run_assign (by conv => lhs; whnf)) rfl ?_
  refine lst_done ?_
  refine goes_seq ?_
  refine goes_seq ?_
  refine goes_region ?_
  refine lst_run (run_move (by conv => lhs; whnf)) rfl ?_
  refine lst_run (run_len_slice rfl rfl rfl) rfl ?_
  refine lst_run (run_move (by conv => lhs; whnf)) rfl ?_
  refine lst_done ?_
  refine goes_block ?_
  refine goes_loop1 9 (10 :: 11 :: 4 :: 12 :: 13 :: 14 :: 15 :: 16 :: 17 :: []) (fun (m : Nat) v w' => ∃ (i : Nat) (sp : List Value), i + m = n ∧ v = .int .i64 (i : Nat) ∧ sp.length = m * 3 ∧ St M w0 ((b, .cells (hcsL (varsF i 0) ++ sp).toArray 68) :: H) F w') (fun m => m) (n) ?_ (by conv => lhs; whnf) ?_
  · exact ⟨0, cs, by omega, rfl, hcl, hS⟩
  clear hS
  rintro m _ w3 jv ⟨i, sp, him, rfl, hsp, hS⟩ ih
  cases m with
  | zero =>
    obtain rfl : i = n := by omega
    obtain rfl : sp = [] := List.eq_nil_of_length_eq_zero (by omega)
    refine goes_seq ?_
    refine goes_region ?_
    first
      | refine lst_run (run_lss_yes rfl rfl (by omega)) rfl ?_
      | refine lst_run (run_lss_no rfl rfl (by omega)) rfl ?_
      | refine lst_run (rfl) rfl ?_
    refine lst_done ?_
    refine goes_seq ?_
    refine goes_false rfl ?_
    refine goes_exit rfl ?_
    refine goes_seq ?_
    refine goes_region ?_
    refine lst_run (run_move (by conv => lhs; whnf)) rfl ?_
    refine lst_run (run_assign (by conv => lhs; whnf)) rfl ?_
    refine lst_done ?_
    refine goes_ret1 Try.func67 rfl (by conv => lhs; whnf) ?_
    by_cases h0 : i = 0
    · subst h0
      exact ⟨_, _, [], rfl, Rw.zero_, hS.drop⟩
    · refine ⟨_, _, [(b, Obj.cells (hcsL (varsF i 0) ++ ([] : List Value)).toArray 68)], rfl, Rw.own_ (xs := hcsL (varsF i 0)) (sp := []) ?_ ?_ (Nat.le_refl _) (by omega), hS⟩
      · rw [hcsL_len, varsF_len]
      · rw [List.append_nil, hcsL_len, varsF_len]
  | succ m =>
    obtain ⟨a0, a1, a2, sp, rfl⟩ : ∃ a0 a1 a2 r, sp = a0 :: a1 :: a2 :: r := by
      match sp, hsp with
      | a0 :: a1 :: a2 :: r, _ => exact ⟨a0, a1, a2, r, rfl⟩
      | [], h => simp at h
      | [_], h => simp at h; omega
      | [_, _], h => simp at h; omega
    refine goes_seq ?_
    refine goes_region ?_
    first
      | refine lst_run (run_lss_yes rfl rfl (by omega)) rfl ?_
      | refine lst_run (run_lss_no rfl rfl (by omega)) rfl ?_
      | refine lst_run (rfl) rfl ?_
    refine lst_done ?_
    refine goes_seq ?_
    refine goes_true rfl ?_
    refine goes_skip ?_
    refine goes_seq ?_
    refine goes_block ?_
    refine goes_seq ?_
    refine goes_region ?_
    refine lst_run (run_move (by conv => lhs; whnf)) rfl ?_
    refine lst_run (run_assign (by conv => lhs; whnf)) rfl ?_
    refine lst_done ?_
    refine goes_region ?_
    refine lst_run (run_move (by conv => lhs; whnf)) rfl ?_
    refine lst_run (run_move (by conv => lhs; whnf)) rfl ?_
    refine lst_run (run_move (by conv => lhs; whnf)) rfl ?_
    refine lst_enter (run_call (by kernel_rfl) (args_1 (by conv => lhs; whnf))) rfl ?_
    refine Calls.mono (ref_any ((i : Nat) : Int) _ hS) ?_
    rintro _ w4 ⟨rfl, hS'⟩
    refine ⟨_, rfl, ?_⟩
    replace hS := hS'
    clear hS'
    refine lst_run (run_indexAddr (sz := 3) rfl rfl rfl rfl (by omega) (by omega)) rfl ?_
    have hlen := hcsL_len (varsF i 0)
    have hvl := varsF_len i 0
    refine lst_storeN hS rfl (by rfl) rfl rfl .head (putN_mid (hcsL (varsF i 0)) [a0, a1, a2] (hcs ⟨0, ((i : Nat) : Int), eS⟩) sp _ (by omega) rfl) .head ?_
    clear hS
    intro w5 hS
    refine lst_done ?_
    refine goes_inBlock ?_
    refine goes_region ?_
    refine lst_run (run_add rfl rfl (by omega) (by omega)) rfl ?_
    refine lst_run (run_move (by conv => lhs; whnf)) rfl ?_
    refine lst_done ?_
    refine ih (m) _ _ _ ?_ ?_ (by conv => lhs; whnf) (by kernel_rfl)
    · omega
    · refine ⟨i + 1, sp, by omega, by simp, by simp only [List.length_cons] at hsp; omega, ?_⟩
      rw [varsF_snoc, hcsL_app, Nat.zero_add]
      have e1 : hcsL (varsF i 0) ++ hcsL [⟨0, ((i : Nat) : Int), eS⟩] ++ sp = hcsL (varsF i 0) ++ (hcs ⟨0, ((i : Nat) : Int), eS⟩ ++ sp) := by simp [hcsL, hcs]
      rw [e1]; exact hS
end
end Go.Proofs.Ytdflngjfnpbpmab
namespace Go.Proofs.Ytdflngjfnpbpmab
open Go.RowKit
set_option linter.unusedVariables false
set_option linter.unusedSimpArgs false
set_option maxRecDepth 100000
set_option maxHeartbeats 1000000

theorem set_mid {α : Type} (P Q : List α) (z c : α) : (P ++ z :: Q).set P.length c = P ++ c :: Q := by
  induction P with
  | nil => rfl
  | cons p P ih => simp only [List.cons_append, List.length_cons, List.set_cons_succ, ih]
/-- The cells as they are when the arguments D are laid, and so many are left. -/
def midS (cs : List HC) (s : ByteArray) (l : Nat) (D : Ts) (m : Nat) : List HC := cs ++ (⟨3, (l : Nat), s⟩ :: ((layA D (cs.length + 1 + l)).1 ++ (List.replicate m zC ++ (layA D (cs.length + 1 + l)).2)))
theorem midS_len (cs : List HC) (s : ByteArray) (l : Nat) (D : Ts) (m : Nat) : (midS cs s l D m).length = cs.length + 1 + D.length + m + (layA D (cs.length + 1 + l)).2.length := by
  simp only [midS, List.length_append, List.length_cons, List.length_replicate, layA_len]; omega
theorem midS_set (cs : List HC) (s : ByteArray) (l : Nat) (D : Ts) (m : Nat) (c : HC) : (midS cs s l D (m + 1)).set (cs.length + 1 + D.length) c = cs ++ (⟨3, (l : Nat), s⟩ :: ((layA D (cs.length + 1 + l)).1 ++ (c :: (List.replicate m zC ++ (layA D (cs.length + 1 + l)).2)))) := by
  have h := set_mid (cs ++ (⟨3, (l : Nat), s⟩ :: (layA D (cs.length + 1 + l)).1)) (List.replicate m zC ++ (layA D (cs.length + 1 + l)).2) zC c
  have hl : (cs ++ (⟨3, (l : Nat), s⟩ :: (layA D (cs.length + 1 + l)).1)).length = cs.length + 1 + D.length := by simp only [List.length_append, List.length_cons, layA_len]; omega
  rw [hl] at h
  have e1 : midS cs s l D (m + 1) = (cs ++ (⟨3, (l : Nat), s⟩ :: (layA D (cs.length + 1 + l)).1)) ++ zC :: (List.replicate m zC ++ (layA D (cs.length + 1 + l)).2) := by
    simp only [midS, List.replicate_succ, List.append_assoc, List.cons_append]
  rw [e1, h]
  simp only [List.append_assoc, List.cons_append]
theorem midS_one (cs : List HC) (s1 : ByteArray) (l : Nat) (D : Ts) (m : Nat) {k : Int} (n : Int) (s : ByteArray) (ar : Ts) (hk : k ≠ 3) : (midS cs s1 l D (m + 1)).set (cs.length + 1 + D.length) (single k n s) = midS cs s1 l (D.app (.cons k n s ar .nil)) m := by
  rw [midS_set]
  unfold midS
  rw [layA_app, layA_one _ _ _ _ _ hk]
  simp [layA]
theorem midS_comp (cs : List HC) (s1 : ByteArray) (l : Nat) (D : Ts) (m : Nat) (n : Int) (s : ByteArray) (ar : Ts) (hl : l = D.length + (m + 1)) : (midS cs s1 l D (m + 1)).set (cs.length + 1 + D.length) ⟨0, ((midS cs s1 l D (m + 1)).length : Nat), eS⟩ ++ lay1 3 n s ar (midS cs s1 l D (m + 1)).length = midS cs s1 l (D.app (.cons 3 n s ar .nil)) m := by
  have hp : (midS cs s1 l D (m + 1)).length = cs.length + 1 + l + (layA D (cs.length + 1 + l)).2.length := by rw [midS_len]; omega
  rw [midS_set, hp]
  unfold midS lay1
  rw [layA_app, layA_comp, if_pos rfl]
  simp [layA]
theorem midS_start (cs : List HC) (s : ByteArray) (l : Nat) : midS cs s l .nil l = (cs ++ [⟨3, (l : Nat), s⟩]) ++ List.replicate l zC := by simp [midS, layA]
theorem midS_end (cs : List HC) (n : Int) (s : ByteArray) (T : Ts) : midS cs s T.length T 0 = cs ++ lay1 3 n s T cs.length := by
  unfold midS lay1 layS
  rw [if_pos rfl]
  simp
def StoreSaid (T : TA) : Prop := ∀ (M : List Nat) (w0 : World) (H : List (Nat × Obj)) (F : List (World → Prop)) (vars k n : Int) (s : ByteArray) (A : Option Addr) (c : Nat) (cs : List HC) (v : Value) (O : List (Nat × Obj)) (w : World),
  Und F (ArA A c T) → (Ts.cons k n s T.ts .nil).good vars = true → cs.length + 2 * T.ts.nodes + 2 ≤ 1000000 → Rw 68 3 v cs.length (hcsL cs) O → St M w0 (O ++ H) F w →
    Calls Try.prog 68 #[v, .agg #[.int .i64 k, .int .i64 n, .string s, .slice A T.len c]] w fun e w' => ∃ (A' : Option Addr) (c' : Nat) (O' : List (Nat × Obj)), e = .returned (.slice A' (cs ++ lay1 k n s T.ts cs.length).length c') ∧
      Rw 68 3 (.slice A' (cs ++ lay1 k n s T.ts cs.length).length c') (cs ++ lay1 k n s T.ts cs.length).length (hcsL (cs ++ lay1 k n s T.ts cs.length)) O' ∧ St M w0 (O' ++ H) F w'
theorem store_of (T : TA) (ihT : ∀ U : TA, U.ts.nodes < T.ts.nodes → StoreSaid U) : StoreSaid T := by
  intro M w0 H F vars k n s A c cs v O w hA hg hb hrow hS
  obtain ⟨A1, c1, rfl, hc1⟩ := hrow.form
  have hln := Ts.length_le T.ts
  rw [TA.len_ts] at hln
  refine goes_enter2 Try.func68 rfl Try.ntmps68 rfl ?_
  by_cases hk : k = 3
  · subst hk
    have hTl : 1 ≤ T.len := by
      rcases node_iff (good_cons hg).1 with h | h | h | h
      · omega
      · omega
      · omega
      · rw [← TA.len_ts]; omega
    refine goes_seq ?_
    refine goes_region ?_
    refine lst_box hS rfl rfl ?_
    clear hS
    intro b1 wx1 hS
    refine lst_run (run_assign (by conv => lhs; whnf)) rfl ?_
    refine lst_done ?_
    refine goes_seq ?_
    refine goes_seq ?_
    refine goes_region ?_
    refine lst_run (run_fieldAddr (off := 0) rfl rfl) rfl ?_
    first
      | refine lst_run (run_load1_own hS rfl rfl (by first | exact .head | exact .tail .head | exact .tail (.tail .head) | exact .tail (.tail (.tail .head)) | exact .tail (.tail (.tail (.tail .head))) | exact .tail (.tail (.tail (.tail (.tail .head))))) (by repeat constructor)) rfl ?_
      | refine lst_run (run_load1 rfl rfl (by first | assumption | exact hS.cell0 (by assumption) | exact lv_next hS | exact lv_list hS)) rfl ?_
    first
      | refine lst_run (run_neq_one_int rfl rfl) rfl ?_
      | refine lst_run (run_neq_no rfl rfl (by first | assumption | omega)) rfl ?_
      | refine lst_run (run_neq_yes rfl rfl (by omega)) rfl ?_
      | refine lst_run (rfl) rfl ?_
    refine lst_done ?_
    refine goes_false rfl ?_
    refine goes_skip ?_
    refine goes_seq ?_
    refine goes_region ?_
    refine lst_run (run_move (by conv => lhs; whnf)) rfl ?_
    refine lst_run (run_fieldAddr (off := 3) rfl rfl) rfl ?_
    first
      | refine lst_run (run_load1_own hS rfl rfl (by first | exact .head | exact .tail .head | exact .tail (.tail .head) | exact .tail (.tail (.tail .head)) | exact .tail (.tail (.tail (.tail .head))) | exact .tail (.tail (.tail (.tail (.tail .head))))) (by repeat constructor)) rfl ?_
      | refine lst_run (run_load1 rfl rfl (by first | assumption | exact hS.cell0 (by assumption) | exact lv_next hS | exact lv_list hS)) rfl ?_
    refine lst_run (run_len_slice rfl rfl rfl) rfl ?_
    refine lst_run (run_fieldAddr (off := 2) rfl rfl) rfl ?_
    first
      | refine lst_run (run_load1_own hS rfl rfl (by first | exact .head | exact .tail .head | exact .tail (.tail .head) | exact .tail (.tail (.tail .head)) | exact .tail (.tail (.tail (.tail .head))) | exact .tail (.tail (.tail (.tail (.tail .head))))) (by repeat constructor)) rfl ?_
      | refine lst_run (run_load1 rfl rfl (by first | assumption | exact hS.cell0 (by assumption) | exact lv_next hS | exact lv_list hS)) rfl ?_
    refine lst_run (run_build (cells := [_, _, _]) (.cons (by conv => lhs; whnf) (.cons (by conv => lhs; whnf) (.cons (by conv => lhs; whnf) .nil))) rfl) rfl ?_
    refine lst_buildSlice (cells := [_, _, _]) hS (.cons (by conv => lhs; whnf) .nil) rfl rfl ?_
    clear hS
    intro b2 wx2 hS
    refine lst_appC (L := [⟨3, (T.len : Nat), s⟩]) hS (by conv => lhs; whnf) (by rfl) rfl rfl rfl (Flat.own (sp := []) (hS.own (_, _) (.head _)) rfl (Nat.le_refl _)) hrow (List.perm_append_comm_assoc [_, _] O _) (by simp; omega) rfl ?_
    clear hS
    intro v7 O7 w7 hrow7 hS
    change Rw _ _ _ (cs.length + 1) _ _ at hrow7
    obtain ⟨B7, d7, rfl, _⟩ := hrow7.form
    replace hS := (hS.perm (List.perm_append_comm_assoc O7 [_, _] _)).drop
    refine lst_run (run_assign (by conv => lhs; whnf)) rfl ?_
    refine lst_done ?_
    refine goes_seq ?_
    refine goes_region ?_
    refine lst_run (run_move (by conv => lhs; whnf)) rfl ?_
    refine lst_run (run_len_slice rfl rfl rfl) rfl ?_
    refine lst_run (run_assign (by conv => lhs; whnf)) rfl ?_
    refine lst_done ?_
    refine goes_seq ?_
    refine goes_region ?_
    refine lst_run (run_move (by conv => lhs; whnf)) rfl ?_
    refine lst_run (run_fieldAddr (off := 3) rfl rfl) rfl ?_
    first
      | refine lst_run (run_load1_own hS rfl rfl (by first | exact .head | exact .tail .head | exact .tail (.tail .head) | exact .tail (.tail (.tail .head)) | exact .tail (.tail (.tail (.tail .head))) | exact .tail (.tail (.tail (.tail (.tail .head))))) (by repeat constructor)) rfl ?_
      | refine lst_run (run_load1 rfl rfl (by first | assumption | exact hS.cell0 (by assumption) | exact lv_next hS | exact lv_list hS)) rfl ?_
    refine lst_run (run_len_slice rfl rfl rfl) rfl ?_
    obtain ⟨i, z, i2, i3, i4, i5, i6⟩ := rowP_some (P := Try.prog) (el := 68) (sz := 3) (bts := 32) rfl
    have hzc : z.cells = #[.int .i64 0, .int .i64 0, .string eS] := by
      have : zeroP Try.prog 68 = some (.agg #[.int .i64 0, .int .i64 0, .string eS]) := by kernel_rfl
      unfold zeroP at this
      rw [i2] at this
      simp only [Option.bind_some] at this
      rw [i3] at this
      rw [Option.some.inj this]; rfl
    refine lst_appZ (k := T.len) (zs := hcsL (List.replicate T.len zC)) (ki := .i64) hS (by conv => lhs; whnf) (by rfl) rfl rfl i2 i3 i4 (by omega) (by rw [hzc]; exact zero_hcs _) (fun u hu => List.all_eq_true.1 (hcsL_one _) u hu) (by rw [i5]; exact hrow7) (by omega) hTl (List.perm_append_comm_assoc [_] O7 _) (by rw [i6]; omega) (by omega) rfl ?_
    rw [i5]
    clear hS
    intro v8 O8 w8 hrow8 hS
    obtain ⟨B8, d8, rfl, _⟩ := hrow8.form
    replace hS := hS.perm (List.perm_append_comm_assoc O8 [_] _)
    clear i2 i3 i4 i5 i6 hzc
    have e8 : (midS cs s T.len .nil T.len).length = cs.length + 1 + T.len := by rw [midS_len]; simp [Ts.length, layA]
    have hrow9 : Rw 68 3 (.slice B8 (midS cs s T.len .nil T.len).length d8) (midS cs s T.len .nil T.len).length (hcsL (midS cs s T.len .nil T.len)) O8 := by
      rw [e8, midS_start, hcsL_app, hcsL_app]; exact hrow8
    refine lst_run (run_assign (by conv => lhs; whnf)) rfl ?_
    refine lst_done ?_
    refine goes_seq ?_
    refine goes_seq ?_
    refine goes_region ?_
    refine lst_run (run_fieldAddr (off := 3) rfl rfl) rfl ?_
    first
      | refine lst_run (run_load1_own hS rfl rfl (by first | exact .head | exact .tail .head | exact .tail (.tail .head) | exact .tail (.tail (.tail .head)) | exact .tail (.tail (.tail (.tail .head))) | exact .tail (.tail (.tail (.tail (.tail .head))))) (by repeat constructor)) rfl ?_
      | refine lst_run (run_load1 rfl rfl (by first | assumption | exact hS.cell0 (by assumption) | exact lv_next hS | exact lv_list hS)) rfl ?_
    refine lst_run (run_len_slice rfl rfl rfl) rfl ?_
    refine lst_run (run_move (by conv => lhs; whnf)) rfl ?_
    refine lst_done ?_
    refine goes_block ?_
    refine goes_loop2 35 0 (36 :: 37 :: 38 :: 39 :: 7 :: 6 :: 40 :: 41 :: 42 :: 43 :: 44 :: 45 :: 46 :: 47 :: 48 :: 49 :: 50 :: 51 :: 52 :: 53 :: 54 :: 55 :: 56 :: 57 :: 58 :: 59 :: 60 :: 61 :: []) (fun (R : TA) y u w' => ∃ (D : TA) (Au : Option Addr) (cu : Nat) (Ou : List (Nat × Obj)), T = D.app R ∧ y = .int .i64 (D.len : Nat) ∧ u = .slice Au (midS cs s T.len D.ts R.len).length cu ∧ Rw 68 3 (.slice Au (midS cs s T.len D.ts R.len).length cu) (midS cs s T.len D.ts R.len).length (hcsL (midS cs s T.len D.ts R.len)) Ou ∧ St M w0 ((b1, .cells [.int .i64 3, .int .i64 n, .string s, .slice A T.len c].toArray 39) :: (Ou ++ H)) F w') (fun R => R.len) (T) ?_ (by conv => lhs; whnf) (by conv => lhs; whnf) ?_
    · exact ⟨.nil, B8, d8, O8, rfl, rfl, by rw [show TA.nil.ts = Ts.nil from rfl, e8], hrow9, hS⟩
    clear hS hrow7 hrow8 hrow9 e8
    rintro R _ _ w3 jv ⟨D, Au, cu, Ou, hD, rfl, rfl, hrow, hS⟩ ih
    have hlen : T.len = D.len + R.len := by rw [hD, TA.len_app]
    have hml := midS_len cs s T.len D.ts R.len
    rw [TA.len_ts] at hml
    have hTn : T.ts.nodes = D.ts.nodes + R.ts.nodes := by rw [hD, TA.app_ts, Ts.nodes_app]
    have hle := layA_le D.ts (cs.length + 1 + T.len)
    cases R with
    | nil =>
      have hTD : T = D := by rw [hD, TA.app_nil]
      subst hTD
      refine goes_seq ?_
      refine goes_region ?_
      first
        | refine lst_run (run_lss_yes rfl rfl (by omega)) rfl ?_
        | refine lst_run (run_lss_no rfl rfl (by omega)) rfl ?_
        | refine lst_run (rfl) rfl ?_
      refine lst_done ?_
      refine goes_seq ?_
      refine goes_false rfl ?_
      refine goes_exit rfl ?_
      refine goes_seq ?_
      refine goes_region ?_
      refine lst_run (run_move (by conv => lhs; whnf)) rfl ?_
      refine lst_run (run_assign (by conv => lhs; whnf)) rfl ?_
      refine lst_done ?_
      refine goes_ret1 Try.func68 rfl (by conv => lhs; whnf) ?_
      have em : midS cs s T.len T.ts TA.nil.len = cs ++ lay1 3 n s T.ts cs.length := by rw [← TA.len_ts]; exact midS_end cs n s T.ts
      rw [em] at hrow
      rw [em]
      exact ⟨Au, cu, Ou, rfl, hrow, hS.drop⟩
    | cons k1 n1 s1 Aa ca a1 r =>
      have hRl : (TA.cons k1 n1 s1 Aa ca a1 r).len = r.len + 1 := rfl
      have hDl := TA.len_ts D
      have hrl := Ts.length_le r.ts
      rw [TA.len_ts] at hrl
      have hR1 : (TA.cons k1 n1 s1 Aa ca a1 r).ts.nodes = a1.ts.nodes + r.ts.nodes + 1 := rfl
      have hg1 : (Ts.cons k1 n1 s1 a1.ts .nil).good vars = true := by
        have := (good_cons hg).2.1
        rw [hD, TA.app_ts, Ts.good_ap] at this
        simp only [Bool.and_eq_true] at this
        obtain ⟨x1, x2, _⟩ := good_cons this.2
        simp only [Ts.good, Bool.and_eq_true, and_true]
        exact ⟨x1, x2⟩
      have hA' : Und F (ArA A c (D.app (.cons k1 n1 s1 Aa ca a1 r))) := by rw [← hD]; exact hA
      obtain ⟨bk, ok, rfl⟩ := (hS.und hA').some_ (by rw [TA.len_app]; simp only [TA.len]; omega)
      have hcc : ∀ {H'} w', St M w0 H' F w' → _ := fun w' hS => (hS.und hA').cells
      have hsub : Und F (ArA Aa ca a1) := fun w hw => (hA' w hw).sub
      obtain ⟨g, sp, rfl, rfl, hcap, hlc, _⟩ := hrow.some_ (by omega)
      have hcr : ∀ (X : List HC) (sp2 : List Value), X.length = (midS cs s T.len D.ts (TA.cons k1 n1 s1 Aa ca a1 r).len).length → sp2 = sp → Rw 68 3 (.slice (some ⟨g, 0, none⟩) X.length cu) X.length (hcsL X) [(g, .cells (hcsL X ++ sp2).toArray 68)] := by
        rintro X _ hX rfl
        refine Rw.own_ (hcsL_len X) ?_ (by omega) (by omega)
        rw [← hcap]; simp only [List.length_append, hcsL_len, hX]
      have hput := fun c => hcsL_putC (midS cs s T.len D.ts (TA.cons k1 n1 s1 Aa ca a1 r).len) sp (((cs.length + 1 : Nat) : Int) + ((D.len : Nat) : Int)).toNat c (by omega)
      have hin : (((cs.length + 1 : Nat) : Int) + ((D.len : Nat) : Int)).toNat = cs.length + 1 + D.ts.length := by rw [TA.len_ts]; omega
      by_cases hk1 : k1 = 3
      · subst hk1
        refine goes_seq ?_
        refine goes_region ?_
        first
          | refine lst_run (run_lss_yes rfl rfl (by omega)) rfl ?_
          | refine lst_run (run_lss_no rfl rfl (by omega)) rfl ?_
          | refine lst_run (rfl) rfl ?_
        refine lst_done ?_
        refine goes_seq ?_
        refine goes_true rfl ?_
        refine goes_skip ?_
        refine goes_seq ?_
        refine goes_block ?_
        refine goes_seq ?_
        refine goes_region ?_
        refine lst_run (run_move (by conv => lhs; whnf)) rfl ?_
        refine lst_run (run_indexAddr (sz := 4) rfl rfl rfl rfl (by omega) (by omega)) rfl ?_
        first
          | refine lst_run (run_loadN_own (k := 4) hS rfl rfl rfl (by first | exact .head | exact .tail .head | exact .tail (.tail .head) | exact .tail (.tail (.tail .head)) | exact .tail (.tail (.tail (.tail .head))) | exact .tail (.tail (.tail (.tail (.tail .head))))) (by repeat constructor)) rfl ?_
          | refine lst_run (run_load4 rfl rfl rfl (by first | assumption | exact (hcc _ hS).1 | exact (hcc _ hS).2.1 | exact (hcc _ hS).2.2.1 | exact (hcc _ hS).2.2.2 | exact hS.cell0 (by assumption)) (by first | assumption | exact (hcc _ hS).1 | exact (hcc _ hS).2.1 | exact (hcc _ hS).2.2.1 | exact (hcc _ hS).2.2.2 | exact hS.cell0 (by assumption)) (by first | assumption | exact (hcc _ hS).1 | exact (hcc _ hS).2.1 | exact (hcc _ hS).2.2.1 | exact (hcc _ hS).2.2.2 | exact hS.cell0 (by assumption)) (by first | assumption | exact (hcc _ hS).1 | exact (hcc _ hS).2.1 | exact (hcc _ hS).2.2.1 | exact (hcc _ hS).2.2.2 | exact hS.cell0 (by assumption))) rfl ?_
        refine lst_alloc (cs := [_, _, _, _]) hS rfl rfl rfl ?_
        clear hS
        intro b3 wx3 hS
        refine lst_run (run_assign (by conv => lhs; whnf)) rfl ?_
        refine lst_storeN hS rfl (by conv => lhs; whnf) rfl rfl (by first | exact .head | exact .tail .head | exact .tail (.tail .head) | exact .tail (.tail (.tail .head)) | exact .tail (.tail (.tail (.tail .head))) | exact .tail (.tail (.tail (.tail (.tail .head))))) (by repeat constructor) (by first | exact .head | exact .tail .head | exact .tail (.tail .head) | exact .tail (.tail (.tail .head)) | exact .tail (.tail (.tail (.tail .head))) | exact .tail (.tail (.tail (.tail (.tail .head))))) ?_
        clear hS
        intro wx4 hS
        refine lst_done ?_
        refine goes_seq ?_
        refine goes_seq ?_
        refine goes_region ?_
        refine lst_run (run_fieldAddr (off := 0) rfl rfl) rfl ?_
        first
          | refine lst_run (run_load1_own hS rfl rfl (by first | exact .head | exact .tail .head | exact .tail (.tail .head) | exact .tail (.tail (.tail .head)) | exact .tail (.tail (.tail (.tail .head))) | exact .tail (.tail (.tail (.tail (.tail .head))))) (by repeat constructor)) rfl ?_
          | refine lst_run (run_load1 rfl rfl (by first | assumption | exact (hcc _ hS).1 | exact (hcc _ hS).2.1 | exact (hcc _ hS).2.2.1 | exact (hcc _ hS).2.2.2 | exact hS.cell0 (by assumption) | exact lv_next hS | exact lv_list hS)) rfl ?_
        first
          | refine lst_run (run_neq_one_int rfl rfl) rfl ?_
          | refine lst_run (run_neq_no rfl rfl (by first | assumption | omega)) rfl ?_
          | refine lst_run (run_neq_yes rfl rfl (by omega)) rfl ?_
          | refine lst_run (rfl) rfl ?_
        refine lst_done ?_
        refine goes_false rfl ?_
        refine goes_skip ?_
        refine goes_seq ?_
        refine goes_region ?_
        refine lst_run (run_move (by conv => lhs; whnf)) rfl ?_
        refine lst_run (run_move (by conv => lhs; whnf)) rfl ?_
        refine lst_run (run_move (by conv => lhs; whnf)) rfl ?_
        refine lst_run (run_add rfl rfl (by omega) (by omega)) rfl ?_
        refine lst_run (run_move (by conv => lhs; whnf)) rfl ?_
        refine lst_run (run_len_slice rfl rfl rfl) rfl ?_
        refine lst_enter (run_call (by kernel_rfl) (args_1 (by conv => lhs; whnf))) rfl ?_
        refine Calls.mono (ref_any ((midS cs s T.len D.ts (TA.cons 3 n1 s1 Aa ca a1 r).len).length : Nat) _ hS) ?_
        rintro _ w4 ⟨rfl, hS'⟩
        refine ⟨_, rfl, ?_⟩
        replace hS := hS'
        clear hS'
        refine lst_run (run_indexAddr (sz := 3) rfl rfl rfl rfl (by omega) (by omega)) rfl ?_
        refine lst_storeN hS rfl (by rfl) rfl rfl (.tail (.tail .head)) (by rw [Nat.zero_add]; exact hput _) (.tail (.tail .head)) ?_
        clear hS
        intro w5 hS
        refine lst_done ?_
        refine goes_region ?_
        refine lst_run (run_move (by conv => lhs; whnf)) rfl ?_
        first
          | refine lst_run (run_loadN_own (k := 4) hS rfl rfl rfl (by first | exact .head | exact .tail .head | exact .tail (.tail .head) | exact .tail (.tail (.tail .head)) | exact .tail (.tail (.tail (.tail .head))) | exact .tail (.tail (.tail (.tail (.tail .head))))) (by repeat constructor)) rfl ?_
          | refine lst_run (run_load4 rfl rfl rfl (by first | assumption | exact (hcc _ hS).1 | exact (hcc _ hS).2.1 | exact (hcc _ hS).2.2.1 | exact (hcc _ hS).2.2.2 | exact hS.cell0 (by assumption)) (by first | assumption | exact (hcc _ hS).1 | exact (hcc _ hS).2.1 | exact (hcc _ hS).2.2.1 | exact (hcc _ hS).2.2.2 | exact hS.cell0 (by assumption)) (by first | assumption | exact (hcc _ hS).1 | exact (hcc _ hS).2.1 | exact (hcc _ hS).2.2.1 | exact (hcc _ hS).2.2.2 | exact hS.cell0 (by assumption)) (by first | assumption | exact (hcc _ hS).1 | exact (hcc _ hS).2.1 | exact (hcc _ hS).2.2.1 | exact (hcc _ hS).2.2.2 | exact hS.cell0 (by assumption))) rfl ?_
        have hX : ((midS cs s T.len D.ts (TA.cons 3 n1 s1 Aa ca a1 r).len).set (((cs.length + 1 : Nat) : Int) + ((D.len : Nat) : Int)).toNat ⟨0, ((midS cs s T.len D.ts (TA.cons 3 n1 s1 Aa ca a1 r).len).length : Nat), eS⟩).length = (midS cs s T.len D.ts (TA.cons 3 n1 s1 Aa ca a1 r).len).length := by rw [List.length_set]
        have hcomp := midS_comp cs s T.len D.ts r.len n1 s1 a1.ts (by rw [TA.len_ts]; omega)
        rw [← hin, ← hRl] at hcomp
        have hrowX := hcr _ sp hX rfl
        have hcall := ihT a1 (by omega) M w0 ((b3, .cells [.int .i64 3, .int .i64 n1, .string s1, .slice Aa a1.len ca].toArray 39) :: (b1, .cells [.int .i64 3, .int .i64 n, .string s, .slice (some ⟨bk, ok, none⟩) T.len c].toArray 39) :: H) F vars 3 n1 s1 Aa ca _ _ _ _ hsub hg1 (by rw [hX]; omega) hrowX (hS.perm (List.perm_append_comm_assoc [_, _] [_] _))
        rw [hX, hcomp] at hcall
        refine lst_enter (run_call (by kernel_rfl) (args_2 (by conv => lhs; whnf) (by conv => lhs; whnf))) rfl ?_
        refine Calls.mono (hcall) ?_
        rintro _ w6 ⟨A6, c6, O6, rfl, hrow6, hS'⟩
        refine ⟨_, rfl, ?_⟩
        replace hS := hS'
        clear hS'
        replace hS := (hS.perm (List.perm_append_comm_assoc O6 [_, _] _)).drop
        refine lst_run (run_assign (by conv => lhs; whnf)) rfl ?_
        refine lst_done ?_
        refine goes_inBlock ?_
        refine goes_region ?_
        refine lst_run (run_add rfl rfl (by omega) (by omega)) rfl ?_
        refine lst_run (run_move (by conv => lhs; whnf)) rfl ?_
        refine lst_done ?_
        refine ih (r) _ _ _ _ ?_ ?_ (by conv => lhs; whnf) (by conv => lhs; whnf) (by kernel_rfl)
        · omega
        · exact ⟨D.app (.cons 3 n1 s1 Aa ca a1 .nil), A6, c6, O6, by rw [hD, TA.app_assoc]; rfl, by rw [TA.len_app]; rfl, by rw [TA.app_ts]; rfl, by rw [TA.app_ts]; exact hrow6, hS⟩
      · refine goes_seq ?_
        refine goes_region ?_
        first
          | refine lst_run (run_lss_yes rfl rfl (by omega)) rfl ?_
          | refine lst_run (run_lss_no rfl rfl (by omega)) rfl ?_
          | refine lst_run (rfl) rfl ?_
        refine lst_done ?_
        refine goes_seq ?_
        refine goes_true rfl ?_
        refine goes_skip ?_
        refine goes_seq ?_
        refine goes_block ?_
        refine goes_seq ?_
        refine goes_region ?_
        refine lst_run (run_move (by conv => lhs; whnf)) rfl ?_
        refine lst_run (run_indexAddr (sz := 4) rfl rfl rfl rfl (by omega) (by omega)) rfl ?_
        first
          | refine lst_run (run_loadN_own (k := 4) hS rfl rfl rfl (by first | exact .head | exact .tail .head | exact .tail (.tail .head) | exact .tail (.tail (.tail .head)) | exact .tail (.tail (.tail (.tail .head))) | exact .tail (.tail (.tail (.tail (.tail .head))))) (by repeat constructor)) rfl ?_
          | refine lst_run (run_load4 rfl rfl rfl (by first | assumption | exact (hcc _ hS).1 | exact (hcc _ hS).2.1 | exact (hcc _ hS).2.2.1 | exact (hcc _ hS).2.2.2 | exact hS.cell0 (by assumption)) (by first | assumption | exact (hcc _ hS).1 | exact (hcc _ hS).2.1 | exact (hcc _ hS).2.2.1 | exact (hcc _ hS).2.2.2 | exact hS.cell0 (by assumption)) (by first | assumption | exact (hcc _ hS).1 | exact (hcc _ hS).2.1 | exact (hcc _ hS).2.2.1 | exact (hcc _ hS).2.2.2 | exact hS.cell0 (by assumption)) (by first | assumption | exact (hcc _ hS).1 | exact (hcc _ hS).2.1 | exact (hcc _ hS).2.2.1 | exact (hcc _ hS).2.2.2 | exact hS.cell0 (by assumption))) rfl ?_
        refine lst_alloc (cs := [_, _, _, _]) hS rfl rfl rfl ?_
        clear hS
        intro b3 wx3 hS
        refine lst_run (run_assign (by conv => lhs; whnf)) rfl ?_
        refine lst_storeN hS rfl (by conv => lhs; whnf) rfl rfl (by first | exact .head | exact .tail .head | exact .tail (.tail .head) | exact .tail (.tail (.tail .head)) | exact .tail (.tail (.tail (.tail .head))) | exact .tail (.tail (.tail (.tail (.tail .head))))) (by repeat constructor) (by first | exact .head | exact .tail .head | exact .tail (.tail .head) | exact .tail (.tail (.tail .head)) | exact .tail (.tail (.tail (.tail .head))) | exact .tail (.tail (.tail (.tail (.tail .head))))) ?_
        clear hS
        intro wx4 hS
        refine lst_done ?_
        refine goes_seq ?_
        refine goes_seq ?_
        refine goes_region ?_
        refine lst_run (run_fieldAddr (off := 0) rfl rfl) rfl ?_
        first
          | refine lst_run (run_load1_own hS rfl rfl (by first | exact .head | exact .tail .head | exact .tail (.tail .head) | exact .tail (.tail (.tail .head)) | exact .tail (.tail (.tail (.tail .head))) | exact .tail (.tail (.tail (.tail (.tail .head))))) (by repeat constructor)) rfl ?_
          | refine lst_run (run_load1 rfl rfl (by first | assumption | exact (hcc _ hS).1 | exact (hcc _ hS).2.1 | exact (hcc _ hS).2.2.1 | exact (hcc _ hS).2.2.2 | exact hS.cell0 (by assumption) | exact lv_next hS | exact lv_list hS)) rfl ?_
        first
          | refine lst_run (run_neq_one_int rfl rfl) rfl ?_
          | refine lst_run (run_neq_no rfl rfl (by first | assumption | omega)) rfl ?_
          | refine lst_run (run_neq_yes rfl rfl (by omega)) rfl ?_
          | refine lst_run (rfl) rfl ?_
        refine lst_done ?_
        refine goes_true rfl ?_
        refine goes_seq ?_
        refine goes_region ?_
        refine lst_run (run_move (by conv => lhs; whnf)) rfl ?_
        refine lst_run (run_move (by conv => lhs; whnf)) rfl ?_
        refine lst_run (run_move (by conv => lhs; whnf)) rfl ?_
        refine lst_run (run_add rfl rfl (by omega) (by omega)) rfl ?_
        first
          | refine lst_run (run_loadN_own (k := 4) hS rfl rfl rfl (by first | exact .head | exact .tail .head | exact .tail (.tail .head) | exact .tail (.tail (.tail .head)) | exact .tail (.tail (.tail (.tail .head))) | exact .tail (.tail (.tail (.tail (.tail .head))))) (by repeat constructor)) rfl ?_
          | refine lst_run (run_load4 rfl rfl rfl (by first | assumption | exact (hcc _ hS).1 | exact (hcc _ hS).2.1 | exact (hcc _ hS).2.2.1 | exact (hcc _ hS).2.2.2 | exact hS.cell0 (by assumption)) (by first | assumption | exact (hcc _ hS).1 | exact (hcc _ hS).2.1 | exact (hcc _ hS).2.2.1 | exact (hcc _ hS).2.2.2 | exact hS.cell0 (by assumption)) (by first | assumption | exact (hcc _ hS).1 | exact (hcc _ hS).2.1 | exact (hcc _ hS).2.2.1 | exact (hcc _ hS).2.2.2 | exact hS.cell0 (by assumption)) (by first | assumption | exact (hcc _ hS).1 | exact (hcc _ hS).2.1 | exact (hcc _ hS).2.2.1 | exact (hcc _ hS).2.2.2 | exact hS.cell0 (by assumption))) rfl ?_
        refine lst_enter (run_call (by kernel_rfl) (args_1 (by conv => lhs; whnf))) rfl ?_
        refine Calls.mono (single_any k1 n1 s1 Aa a1.len ca _ hS) ?_
        rintro _ w4 ⟨rfl, hS'⟩
        refine ⟨_, rfl, ?_⟩
        replace hS := hS'
        clear hS'
        refine lst_run (run_indexAddr (sz := 3) rfl rfl rfl rfl (by omega) (by omega)) rfl ?_
        refine lst_storeN hS rfl (by rfl) rfl rfl (.tail (.tail .head)) (by rw [Nat.zero_add]; exact hput _) (.tail (.tail .head)) ?_
        clear hS
        intro w5 hS
        refine lst_done ?_
        refine goes_exit rfl ?_
        refine goes_region ?_
        refine lst_run (run_add rfl rfl (by omega) (by omega)) rfl ?_
        refine lst_run (run_move (by conv => lhs; whnf)) rfl ?_
        refine lst_done ?_
        have hX : ((midS cs s T.len D.ts (TA.cons k1 n1 s1 Aa ca a1 r).len).set (((cs.length + 1 : Nat) : Int) + ((D.len : Nat) : Int)).toNat (single k1 n1 s1)).length = (midS cs s T.len D.ts (TA.cons k1 n1 s1 Aa ca a1 r).len).length := by rw [List.length_set]
        have hone := midS_one cs s T.len D.ts r.len n1 s1 a1.ts hk1
        rw [← hin] at hone
        have hrowX := hcr _ sp hX rfl
        rw [show (TA.cons k1 n1 s1 Aa ca a1 r).len = r.len + 1 from rfl, hone] at hrowX hS hX
        refine ih (r) _ _ _ _ ?_ ?_ (by conv => lhs; whnf) (by conv => lhs; whnf) (by kernel_rfl)
        · omega
        · refine ⟨D.app (.cons k1 n1 s1 Aa ca a1 .nil), some ⟨g, 0, none⟩, cu, _, by rw [hD, TA.app_assoc]; rfl, by rw [TA.len_app]; rfl, ?_, by rw [TA.app_ts]; exact hrowX, hS.drop⟩
          rw [TA.app_ts]
          show _ = Value.slice _ (midS cs s T.len (D.ts.app (.cons k1 n1 s1 a1.ts .nil)) r.len).length _
          rw [hX]; rfl
  · refine goes_seq ?_
    refine goes_region ?_
    refine lst_box hS rfl rfl ?_
    clear hS
    intro b1 wx1 hS
    refine lst_run (run_assign (by conv => lhs; whnf)) rfl ?_
    refine lst_done ?_
    refine goes_seq ?_
    refine goes_seq ?_
    refine goes_region ?_
    refine lst_run (run_fieldAddr (off := 0) rfl rfl) rfl ?_
    first
      | refine lst_run (run_load1_own hS rfl rfl (by first | exact .head | exact .tail .head | exact .tail (.tail .head) | exact .tail (.tail (.tail .head)) | exact .tail (.tail (.tail (.tail .head))) | exact .tail (.tail (.tail (.tail (.tail .head))))) (by repeat constructor)) rfl ?_
      | refine lst_run (run_load1 rfl rfl (by first | assumption | exact (hcc _ hS).1 | exact (hcc _ hS).2.1 | exact (hcc _ hS).2.2.1 | exact (hcc _ hS).2.2.2 | exact hS.cell0 (by assumption) | exact lv_next hS | exact lv_list hS)) rfl ?_
    first
      | refine lst_run (run_neq_one_int rfl rfl) rfl ?_
      | refine lst_run (run_neq_no rfl rfl (by first | assumption | omega)) rfl ?_
      | refine lst_run (run_neq_yes rfl rfl (by omega)) rfl ?_
      | refine lst_run (rfl) rfl ?_
    refine lst_done ?_
    refine goes_true rfl ?_
    refine goes_seq ?_
    refine goes_region ?_
    refine lst_run (run_move (by conv => lhs; whnf)) rfl ?_
    first
      | refine lst_run (run_loadN_own (k := 4) hS rfl rfl rfl (by first | exact .head | exact .tail .head | exact .tail (.tail .head) | exact .tail (.tail (.tail .head)) | exact .tail (.tail (.tail (.tail .head))) | exact .tail (.tail (.tail (.tail (.tail .head))))) (by repeat constructor)) rfl ?_
      | refine lst_run (run_load4 rfl rfl rfl (by first | assumption | exact (hcc _ hS).1 | exact (hcc _ hS).2.1 | exact (hcc _ hS).2.2.1 | exact (hcc _ hS).2.2.2 | exact hS.cell0 (by assumption)) (by first | assumption | exact (hcc _ hS).1 | exact (hcc _ hS).2.1 | exact (hcc _ hS).2.2.1 | exact (hcc _ hS).2.2.2 | exact hS.cell0 (by assumption)) (by first | assumption | exact (hcc _ hS).1 | exact (hcc _ hS).2.1 | exact (hcc _ hS).2.2.1 | exact (hcc _ hS).2.2.2 | exact hS.cell0 (by assumption)) (by first | assumption | exact (hcc _ hS).1 | exact (hcc _ hS).2.1 | exact (hcc _ hS).2.2.1 | exact (hcc _ hS).2.2.2 | exact hS.cell0 (by assumption))) rfl ?_
    refine lst_enter (run_call (by kernel_rfl) (args_1 (by conv => lhs; whnf))) rfl ?_
    refine Calls.mono (single_any k n s A T.len c _ hS) ?_
    rintro _ w2 ⟨rfl, hS'⟩
    refine ⟨_, rfl, ?_⟩
    replace hS := hS'
    clear hS'
    refine lst_buildSlice (cells := [_, _, _]) hS (.cons (by conv => lhs; whnf) .nil) rfl rfl ?_
    clear hS
    intro b2 wx2 hS
    have e : lay1 k n s T.ts cs.length = [single k n s] := by unfold lay1; rw [if_neg hk]
    refine lst_appC (L := [single k n s]) hS (by conv => lhs; whnf) (by rfl) rfl rfl rfl (Flat.own (sp := []) (hS.own (_, _) (.head _)) rfl (Nat.le_refl _)) hrow (List.perm_append_comm_assoc [_, _] O _) (by simp; omega) rfl ?_
    clear hS
    intro v7 O7 w7 hrow7 hS
    obtain ⟨B7, d7, rfl, _⟩ := hrow7.form
    replace hS := hS.perm (List.perm_append_comm_assoc O7 [_, _] _)
    refine lst_run (run_assign (by conv => lhs; whnf)) rfl ?_
    refine lst_done ?_
    refine goes_ret1 Try.func68 rfl (by conv => lhs; whnf) ?_
    rw [e]
    refine ⟨B7, d7, O7, by simp, ?_, hS.drop.drop⟩
    rw [List.length_append, hcsL_app]; exact hrow7
theorem store_said (T : TA) : StoreSaid T := by
  have key : ∀ m, ∀ U : TA, U.ts.nodes ≤ m → StoreSaid U := by
    intro m
    induction m with
    | zero => exact fun U hU => store_of U fun V hV => by omega
    | succ m ih => exact fun U hU => store_of U fun V hV => ih V (by omega)
  exact key _ T (Nat.le_refl _)
end Go.Proofs.Ytdflngjfnpbpmab
