/-
  TermTells, walked over terms and clauses in memory: it answers true, and turns nothing that was there.
-/
import Derived.Test.YtpbnfjlalgnmmaaDoorProgram
import Derived.Test.YtpbnfjlalgnmmaaDoorTermsR
import Derived.Test.YtpbnfjlalgnmmaaDoorRd
namespace Go.Proofs.YtpbnfjlalgnmmaaDoor
open Go.RowKit

set_option maxRecDepth 100000 in
theorem termTells_any (k n vars : Int) (s : ByteArray) (T : Ts) (v : Value) (L : List Cl) (l : Value) (w : World)
    (hv : Sl w (fun _ => True) v T) (hl : SlC w (fun _ => True) l L) (hT : T.nodes < 1048576) (hL : nodesC L ≤ 1048576) :
    Calls Tryd.prog 3 #[.agg #[.int .i64 k, .int .i64 n, .string s, v], .int .i64 vars, l] w fun e w' => e = .returned (.bool true) ∧ Below w.heap.size w w' := by
  obtain ⟨A, c, rfl, hs⟩ := hv.form
  obtain ⟨Al, cl, rfl, hl⟩ := hl.form
  have hS : St [] w [] [fun w => SlC w (fun _ => True) (.slice Al L.length cl) L, fun w => Sl w (fun _ => True) (.slice A T.length c) T] w := ((St.start w).readBase0 hs).base fun w' hx => hl.below hx.below
  have hle := nodesC_le L
  have HK : k = 1 ∨ k = 3 ∨ (k ≠ 1 ∧ k ≠ 3 ∧ goalB k = false) := by
    by_cases h1 : k = 1
    · exact .inl h1
    by_cases h3 : k = 3
    · exact .inr (.inl h3)
    · exact .inr (.inr ⟨h1, h3, by simp [goalB, h1, h3]⟩)
  refine goes_enter3 Tryd.func3 rfl Tryd.ntmps3 rfl ?_
  refine goes_seq ?_
  refine goes_region ?_
  refine lst_box hS rfl rfl ?_
  clear hS
  intro b1 wx2 hS
  refine lst_run (run_assign (by conv => lhs; whnf)) rfl ?_
  refine lst_done ?_
  refine goes_seq ?_
  refine goes_region ?_
  first
    | refine lst_run (run_loadN_own (k := 4) hS rfl rfl rfl (by first | exact .head | exact .tail .head | exact .tail (.tail .head) | exact .tail (.tail (.tail .head)) | exact .tail (.tail (.tail (.tail .head))) | exact .tail (.tail (.tail (.tail (.tail .head))))) (by repeat constructor)) rfl ?_
    | refine lst_run (run_load4 rfl rfl rfl (by assumption) (by assumption) (by assumption) (by assumption)) rfl ?_
  refine lst_enter (run_call (by kernel_rfl) (args_1 (by conv => lhs; whnf))) rfl ?_
  refine Calls.mono (copyTerm_of (copy_said T) (by omega) k n s _ _ (by first | exact hS.fact (.head _) | exact hS.fact (.tail _ (.head _)) | exact hS.fact (.tail _ (.tail _ (.head _))) | exact hS.fact (.tail _ (.tail _ (.tail _ (.head _)))) | exact hS.fact (.tail _ (.tail _ (.tail _ (.tail _ (.head _))))) | exact hS.fact (.tail _ (.tail _ (.tail _ (.tail _ (.tail _ (.head _)))))) | exact hS.fact (.tail _ (.tail _ (.tail _ (.tail _ (.tail _ (.tail _ (.head _))))))) | exact hS.fact (.tail _ (.tail _ (.tail _ (.tail _ (.tail _ (.tail _ (.tail _ (.head _)))))))))) ?_
  rintro _ w1 ⟨v1, rfl, hc1, hb1⟩
  refine ⟨_, rfl, ?_⟩
  obtain ⟨A1, c1, rfl, hc1⟩ := hc1.form
  replace hS := hS.readNew hb1 hc1
  clear hc1 hb1
  refine lst_alloc (cs := [_, _, _, _]) hS rfl rfl rfl ?_
  clear hS
  intro b3 wx4 hS
  refine lst_storeN hS rfl (by conv => lhs; whnf) rfl rfl (by first | exact .head | exact .tail .head | exact .tail (.tail .head) | exact .tail (.tail (.tail .head)) | exact .tail (.tail (.tail (.tail .head))) | exact .tail (.tail (.tail (.tail (.tail .head))))) (by repeat constructor) (by first | exact .head | exact .tail .head | exact .tail (.tail .head) | exact .tail (.tail (.tail .head)) | exact .tail (.tail (.tail (.tail .head))) | exact .tail (.tail (.tail (.tail (.tail .head))))) ?_
  clear hS
  intro wx5 hS
  refine lst_done ?_
  refine goes_seq ?_
  refine goes_seq ?_
  refine goes_join2 hS (12 :: 13 :: 14 :: 15 :: 16 :: 17 :: 18 :: 19 :: 20 :: 21 :: 22 :: 23 :: 24 :: 25 :: 26 :: 27 :: 28 :: 29 :: 30 :: 31 :: 32 :: 33 :: 34 :: 35 :: 36 :: 37 :: 38 :: 39 :: 40 :: 41 :: 42 :: 43 :: 44 :: 45 :: 46 :: 47 :: 48 :: 49 :: 50 :: 51 :: 52 :: 53 :: 54 :: 6 :: []) ?_ ?_
  · intro hk
    refine goes_draw (St [] w _ _) 43 ((0, true) :: (1, true) :: (3, true) :: (4, true) :: (2, false) :: (5, false) :: (6, true) :: (7, true) :: (8, true) :: (9, true) :: (11, true) :: (12, true) :: (10, false) :: (13, false) :: (14, true) :: (15, true) :: (16, true) :: (17, true) :: (19, true) :: (18, false) :: (20, false) :: (21, true) :: (22, true) :: (23, true) :: (24, true) :: (26, true) :: (27, true) :: (28, true) :: (25, false) :: (29, true) :: (30, true) :: (31, true) :: (32, true) :: (33, true) :: (34, true) :: (35, true) :: (36, true) :: (37, true) :: (39, true) :: (38, false) :: (40, false) :: (41, true) :: (42, true) :: []) (by kernel_rfl) (by kernel_rfl) hS.drew ?_
    replace hS := hS.drew
    refine ord_read rfl (fun _ hS => run_fieldAddr (off := 2) rfl rfl) rfl ?_
    first
      | refine ord_read rfl (fun _ hS => run_load1_own hS rfl rfl (by first | exact .head | exact .tail .head | exact .tail (.tail .head) | exact .tail (.tail (.tail .head)) | exact .tail (.tail (.tail (.tail .head))) | exact .tail (.tail (.tail (.tail (.tail .head))))) (by repeat constructor)) rfl ?_
      | refine ord_read rfl (fun _ hS => run_load1 rfl rfl (by assumption)) rfl ?_
    refine ord_read rfl (fun _ hS => run_fieldAddr (off := 2) rfl rfl) rfl ?_
    first
      | refine ord_read rfl (fun _ hS => run_load1_own hS rfl rfl (by first | exact .head | exact .tail .head | exact .tail (.tail .head) | exact .tail (.tail (.tail .head)) | exact .tail (.tail (.tail (.tail .head))) | exact .tail (.tail (.tail (.tail (.tail .head))))) (by repeat constructor)) rfl ?_
      | refine ord_read rfl (fun _ hS => run_load1 rfl rfl (by assumption)) rfl ?_
    refine ord_act rfl ?_
    refine lst_enter (run_call (by kernel_rfl) (args_1 (by conv => lhs; whnf))) rfl ?_
    refine Calls.mono (named_any s _) ?_
    rintro _ w2 ⟨rfl, rfl⟩
    refine ⟨_, rfl, ?_⟩
    refine lst_ord hS ?_
    refine ord_act rfl ?_
    refine lst_enter (run_call (by kernel_rfl) (args_1 (by conv => lhs; whnf))) rfl ?_
    refine Calls.mono (isName_any s _) ?_
    rintro _ w3 ⟨rfl, hb2⟩
    refine ⟨_, rfl, ?_⟩
    replace hS := hS.grow hb2
    refine lst_ord hS ?_
    first
      | refine ord_read rfl (fun _ hS => run_neq_one rfl rfl rfl) rfl ?_
      | refine ord_read rfl (fun _ hS => run_neq_bool rfl rfl rfl) rfl ?_
    refine ord_read rfl (fun _ hS => run_move (by conv => lhs; whnf)) rfl ?_
    first
      | refine ord_readG rfl rfl rfl (fun _ hS => run_loadN_own (k := 4) hS rfl rfl rfl (by first | exact .head | exact .tail .head | exact .tail (.tail .head) | exact .tail (.tail (.tail .head)) | exact .tail (.tail (.tail (.tail .head))) | exact .tail (.tail (.tail (.tail (.tail .head))))) (by repeat constructor)) rfl ?_
      | refine ord_readG rfl rfl rfl (fun _ hS => run_load4 rfl rfl rfl (by assumption) (by assumption) (by assumption) (by assumption)) rfl ?_
    refine ord_readG rfl rfl rfl (fun _ hS => run_move (by conv => lhs; whnf)) rfl ?_
    first
      | refine ord_readG rfl rfl rfl (fun _ hS => run_loadN_own (k := 4) hS rfl rfl rfl (by first | exact .head | exact .tail .head | exact .tail (.tail .head) | exact .tail (.tail (.tail .head)) | exact .tail (.tail (.tail (.tail .head))) | exact .tail (.tail (.tail (.tail (.tail .head))))) (by repeat constructor)) rfl ?_
      | refine ord_readG rfl rfl rfl (fun _ hS => run_load4 rfl rfl rfl (by assumption) (by assumption) (by assumption) (by assumption)) rfl ?_
    refine ord_readG rfl rfl rfl (fun _ hS => run_move (by conv => lhs; whnf)) rfl ?_
    refine ord_act rfl ?_
    refine lst_guard rfl rfl ?_
    refine lst_enter (run_call (by kernel_rfl) (args_2 (by conv => lhs; whnf) (by conv => lhs; whnf))) rfl ?_
    refine Calls.mono (good_any k n vars s T _ _ (by first | exact hS.fact (.head _) | exact hS.fact (.tail _ (.head _)) | exact hS.fact (.tail _ (.tail _ (.head _))) | exact hS.fact (.tail _ (.tail _ (.tail _ (.head _)))) | exact hS.fact (.tail _ (.tail _ (.tail _ (.tail _ (.head _))))) | exact hS.fact (.tail _ (.tail _ (.tail _ (.tail _ (.tail _ (.head _)))))) | exact hS.fact (.tail _ (.tail _ (.tail _ (.tail _ (.tail _ (.tail _ (.head _))))))) | exact hS.fact (.tail _ (.tail _ (.tail _ (.tail _ (.tail _ (.tail _ (.tail _ (.head _))))))))) hT) ?_
    rintro _ w4 ⟨rfl, hb3⟩
    refine ⟨_, rfl, ?_⟩
    replace hS := hS.grow hb3
    refine lst_ord hS ?_
    refine ord_act rfl ?_
    refine lst_guard rfl rfl ?_
    refine lst_enter (run_call (by kernel_rfl) (args_2 (by conv => lhs; whnf) (by conv => lhs; whnf))) rfl ?_
    refine Calls.mono (isTerm_said vars T k n s _ _ (by first | exact hS.fact (.head _) | exact hS.fact (.tail _ (.head _)) | exact hS.fact (.tail _ (.tail _ (.head _))) | exact hS.fact (.tail _ (.tail _ (.tail _ (.head _)))) | exact hS.fact (.tail _ (.tail _ (.tail _ (.tail _ (.head _))))) | exact hS.fact (.tail _ (.tail _ (.tail _ (.tail _ (.tail _ (.head _)))))) | exact hS.fact (.tail _ (.tail _ (.tail _ (.tail _ (.tail _ (.tail _ (.head _))))))) | exact hS.fact (.tail _ (.tail _ (.tail _ (.tail _ (.tail _ (.tail _ (.tail _ (.head _))))))))) (by omega)) ?_
    rintro _ w5 ⟨rfl, hb4⟩
    refine ⟨_, rfl, ?_⟩
    replace hS := hS.grow hb4
    refine lst_ord hS ?_
    first
      | refine ord_readG rfl rfl rfl (fun _ hS => run_neq_one rfl rfl rfl) rfl ?_
      | refine ord_readG rfl rfl rfl (fun _ hS => run_neq_bool rfl rfl rfl) rfl ?_
    first
      | refine ord_read rfl (fun _ hS => run_pick_t rfl (by conv => lhs; whnf)) rfl ?_
      | refine ord_read rfl (fun _ hS => run_pick_f rfl (by conv => lhs; whnf)) rfl ?_
    refine ord_read rfl (fun _ hS => run_move (by conv => lhs; whnf)) rfl ?_
    first
      | refine ord_readG rfl rfl rfl (fun _ hS => run_loadN_own (k := 4) hS rfl rfl rfl (by first | exact .head | exact .tail .head | exact .tail (.tail .head) | exact .tail (.tail (.tail .head)) | exact .tail (.tail (.tail (.tail .head))) | exact .tail (.tail (.tail (.tail (.tail .head))))) (by repeat constructor)) rfl ?_
      | refine ord_readG rfl rfl rfl (fun _ hS => run_load4 rfl rfl rfl (by assumption) (by assumption) (by assumption) (by assumption)) rfl ?_
    first
      | refine ord_readG rfl rfl rfl (fun _ hS => run_loadN_own (k := 4) hS rfl rfl rfl (by first | exact .head | exact .tail .head | exact .tail (.tail .head) | exact .tail (.tail (.tail .head)) | exact .tail (.tail (.tail (.tail .head))) | exact .tail (.tail (.tail (.tail (.tail .head))))) (by repeat constructor)) rfl ?_
      | refine ord_readG rfl rfl rfl (fun _ hS => run_load4 rfl rfl rfl (by assumption) (by assumption) (by assumption) (by assumption)) rfl ?_
    refine ord_act rfl ?_
    refine lst_guard rfl rfl ?_
    refine lst_enter (run_call (by kernel_rfl) (args_1 (by conv => lhs; whnf))) rfl ?_
    refine Calls.mono (nodes_any k n s T _ _ (by first | exact hS.fact (.head _) | exact hS.fact (.tail _ (.head _)) | exact hS.fact (.tail _ (.tail _ (.head _))) | exact hS.fact (.tail _ (.tail _ (.tail _ (.head _)))) | exact hS.fact (.tail _ (.tail _ (.tail _ (.tail _ (.head _))))) | exact hS.fact (.tail _ (.tail _ (.tail _ (.tail _ (.tail _ (.head _)))))) | exact hS.fact (.tail _ (.tail _ (.tail _ (.tail _ (.tail _ (.tail _ (.head _))))))) | exact hS.fact (.tail _ (.tail _ (.tail _ (.tail _ (.tail _ (.tail _ (.tail _ (.head _))))))))) hT) ?_
    rintro _ w6 ⟨rfl, hb5⟩
    refine ⟨_, rfl, ?_⟩
    replace hS := hS.grow hb5
    refine lst_ord hS ?_
    refine ord_act rfl ?_
    refine lst_guard rfl rfl ?_
    refine lst_enter (run_call (by kernel_rfl) (args_1 (by conv => lhs; whnf))) rfl ?_
    refine Calls.mono (nodesOf_any k n s T _ _ (by first | exact hS.fact (.head _) | exact hS.fact (.tail _ (.head _)) | exact hS.fact (.tail _ (.tail _ (.head _))) | exact hS.fact (.tail _ (.tail _ (.tail _ (.head _)))) | exact hS.fact (.tail _ (.tail _ (.tail _ (.tail _ (.head _))))) | exact hS.fact (.tail _ (.tail _ (.tail _ (.tail _ (.tail _ (.head _)))))) | exact hS.fact (.tail _ (.tail _ (.tail _ (.tail _ (.tail _ (.tail _ (.head _))))))) | exact hS.fact (.tail _ (.tail _ (.tail _ (.tail _ (.tail _ (.tail _ (.tail _ (.head _))))))))) hT) ?_
    rintro _ w7 ⟨rfl, hb6⟩
    refine ⟨_, rfl, ?_⟩
    replace hS := hS.grow hb6
    refine lst_ord hS ?_
    first
      | refine ord_readG rfl rfl rfl (fun _ hS => run_neq_one_int rfl rfl) rfl ?_
      | refine ord_readG rfl rfl rfl (fun _ hS => run_neq_no rfl rfl (by assumption)) rfl ?_
      | refine ord_readG rfl rfl rfl (fun _ hS => rfl) rfl ?_
    first
      | refine ord_read rfl (fun _ hS => run_pick_t rfl (by conv => lhs; whnf)) rfl ?_
      | refine ord_read rfl (fun _ hS => run_pick_f rfl (by conv => lhs; whnf)) rfl ?_
    refine ord_read rfl (fun _ hS => run_move (by conv => lhs; whnf)) rfl ?_
    first
      | refine ord_readG rfl rfl rfl (fun _ hS => run_loadN_own (k := 4) hS rfl rfl rfl (by first | exact .head | exact .tail .head | exact .tail (.tail .head) | exact .tail (.tail (.tail .head)) | exact .tail (.tail (.tail (.tail .head))) | exact .tail (.tail (.tail (.tail (.tail .head))))) (by repeat constructor)) rfl ?_
      | refine ord_readG rfl rfl rfl (fun _ hS => run_load4 rfl rfl rfl (by assumption) (by assumption) (by assumption) (by assumption)) rfl ?_
    refine ord_readG rfl rfl rfl (fun _ hS => run_fieldAddr (off := 0) rfl rfl) rfl ?_
    first
      | refine ord_readG rfl rfl rfl (fun _ hS => run_load1_own hS rfl rfl (by first | exact .head | exact .tail .head | exact .tail (.tail .head) | exact .tail (.tail (.tail .head)) | exact .tail (.tail (.tail (.tail .head))) | exact .tail (.tail (.tail (.tail (.tail .head))))) (by repeat constructor)) rfl ?_
      | refine ord_readG rfl rfl rfl (fun _ hS => run_load1 rfl rfl (by assumption)) rfl ?_
    first
      | refine ord_readG rfl rfl rfl (fun _ hS => run_eql_one_int rfl rfl) rfl ?_
      | refine ord_readG rfl rfl rfl (fun _ hS => run_eql_no rfl rfl (by assumption)) rfl ?_
      | refine ord_readG rfl rfl rfl (fun _ hS => rfl) rfl ?_
    refine ord_act rfl ?_
    refine lst_guard rfl rfl ?_
    clear hb2 hb3 hb4 hb5 hb6
    rcases HK with rfl | rfl | ⟨hk1, hk3, hgk⟩
    · refine lst_enter (run_call (by kernel_rfl) (args_1 (by conv => lhs; whnf))) rfl ?_
      refine Calls.mono (goal_any _ n s _ _) ?_
      rintro _ w8 ⟨rfl, hb7⟩
      refine ⟨_, rfl, ?_⟩
      replace hS := hS.grow hb7
      refine lst_ord hS ?_
      refine ord_readG rfl rfl rfl (fun _ hS => run_move (by conv => lhs; whnf)) rfl ?_
      refine ord_pass rfl rfl rfl rfl ?_
      refine ord_pass rfl rfl rfl rfl ?_
      refine ord_pass rfl rfl rfl rfl ?_
      first
        | refine ord_readG rfl rfl rfl (fun _ hS => run_pick_t rfl (by conv => lhs; whnf)) rfl ?_
        | refine ord_readG rfl rfl rfl (fun _ hS => run_pick_f rfl (by conv => lhs; whnf)) rfl ?_
      first
        | refine ord_readG rfl rfl rfl (fun _ hS => run_neq_one rfl rfl rfl) rfl ?_
        | refine ord_readG rfl rfl rfl (fun _ hS => run_neq_bool rfl rfl rfl) rfl ?_
      first
        | refine ord_read rfl (fun _ hS => run_pick_t rfl (by conv => lhs; whnf)) rfl ?_
        | refine ord_read rfl (fun _ hS => run_pick_f rfl (by conv => lhs; whnf)) rfl ?_
      refine ord_read rfl (fun _ hS => run_move (by conv => lhs; whnf)) rfl ?_
      first
        | refine ord_readG rfl rfl rfl (fun _ hS => run_loadN_own (k := 4) hS rfl rfl rfl (by first | exact .head | exact .tail .head | exact .tail (.tail .head) | exact .tail (.tail (.tail .head)) | exact .tail (.tail (.tail (.tail .head))) | exact .tail (.tail (.tail (.tail (.tail .head))))) (by repeat constructor)) rfl ?_
        | refine ord_readG rfl rfl rfl (fun _ hS => run_load4 rfl rfl rfl (by assumption) (by assumption) (by assumption) (by assumption)) rfl ?_
      first
        | refine ord_readG rfl rfl rfl (fun _ hS => run_loadN_own (k := 4) hS rfl rfl rfl (by first | exact .head | exact .tail .head | exact .tail (.tail .head) | exact .tail (.tail (.tail .head)) | exact .tail (.tail (.tail (.tail .head))) | exact .tail (.tail (.tail (.tail (.tail .head))))) (by repeat constructor)) rfl ?_
        | refine ord_readG rfl rfl rfl (fun _ hS => run_load4 rfl rfl rfl (by assumption) (by assumption) (by assumption) (by assumption)) rfl ?_
      refine ord_act rfl ?_
      refine lst_guard rfl rfl ?_
      refine lst_enter (run_call (by kernel_rfl) (args_1 (by conv => lhs; whnf))) rfl ?_
      refine Calls.mono (builtin_any _ n s _ _ _ _) ?_
      rintro _ w9 ⟨rfl, hb8⟩
      refine ⟨_, rfl, ?_⟩
      replace hS := hS.grow hb8
      refine lst_ord hS ?_
      refine ord_act rfl ?_
      refine lst_guard rfl rfl ?_
      refine lst_enter (run_call (by kernel_rfl) (args_1 (by conv => lhs; whnf))) rfl ?_
      refine Calls.mono (everybody_any _ n s _ _ _ _) ?_
      rintro _ w10 ⟨rfl, hb9⟩
      refine ⟨_, rfl, ?_⟩
      replace hS := hS.grow hb9
      refine lst_ord hS ?_
      first
        | refine ord_readG rfl rfl rfl (fun _ hS => run_neq_one rfl rfl rfl) rfl ?_
        | refine ord_readG rfl rfl rfl (fun _ hS => run_neq_bool rfl rfl rfl) rfl ?_
      first
        | refine ord_read rfl (fun _ hS => run_pick_t rfl (by conv => lhs; whnf)) rfl ?_
        | refine ord_read rfl (fun _ hS => run_pick_f rfl (by conv => lhs; whnf)) rfl ?_
      refine ord_end ?_
      refine lst_done ?_
      refine goes_false rfl ?_
      refine goes_skip ?_
      exact hk _ _ hS (by kernel_rfl)
    · refine lst_enter (run_call (by kernel_rfl) (args_1 (by conv => lhs; whnf))) rfl ?_
      refine Calls.mono (goal_any _ n s _ _) ?_
      rintro _ w8 ⟨rfl, hb7⟩
      refine ⟨_, rfl, ?_⟩
      replace hS := hS.grow hb7
      refine lst_ord hS ?_
      refine ord_readG rfl rfl rfl (fun _ hS => run_move (by conv => lhs; whnf)) rfl ?_
      refine ord_readG rfl rfl rfl (fun _ hS => run_fieldAddr (off := 0) rfl rfl) rfl ?_
      first
        | refine ord_readG rfl rfl rfl (fun _ hS => run_load1_own hS rfl rfl (by first | exact .head | exact .tail .head | exact .tail (.tail .head) | exact .tail (.tail (.tail .head)) | exact .tail (.tail (.tail (.tail .head))) | exact .tail (.tail (.tail (.tail (.tail .head))))) (by repeat constructor)) rfl ?_
        | refine ord_readG rfl rfl rfl (fun _ hS => run_load1 rfl rfl (by assumption)) rfl ?_
      first
        | refine ord_readG rfl rfl rfl (fun _ hS => run_eql_one_int rfl rfl) rfl ?_
        | refine ord_readG rfl rfl rfl (fun _ hS => run_eql_no rfl rfl (by assumption)) rfl ?_
        | refine ord_readG rfl rfl rfl (fun _ hS => rfl) rfl ?_
      first
        | refine ord_readG rfl rfl rfl (fun _ hS => run_pick_t rfl (by conv => lhs; whnf)) rfl ?_
        | refine ord_readG rfl rfl rfl (fun _ hS => run_pick_f rfl (by conv => lhs; whnf)) rfl ?_
      first
        | refine ord_readG rfl rfl rfl (fun _ hS => run_neq_one rfl rfl rfl) rfl ?_
        | refine ord_readG rfl rfl rfl (fun _ hS => run_neq_bool rfl rfl rfl) rfl ?_
      first
        | refine ord_read rfl (fun _ hS => run_pick_t rfl (by conv => lhs; whnf)) rfl ?_
        | refine ord_read rfl (fun _ hS => run_pick_f rfl (by conv => lhs; whnf)) rfl ?_
      refine ord_read rfl (fun _ hS => run_move (by conv => lhs; whnf)) rfl ?_
      first
        | refine ord_readG rfl rfl rfl (fun _ hS => run_loadN_own (k := 4) hS rfl rfl rfl (by first | exact .head | exact .tail .head | exact .tail (.tail .head) | exact .tail (.tail (.tail .head)) | exact .tail (.tail (.tail (.tail .head))) | exact .tail (.tail (.tail (.tail (.tail .head))))) (by repeat constructor)) rfl ?_
        | refine ord_readG rfl rfl rfl (fun _ hS => run_load4 rfl rfl rfl (by assumption) (by assumption) (by assumption) (by assumption)) rfl ?_
      first
        | refine ord_readG rfl rfl rfl (fun _ hS => run_loadN_own (k := 4) hS rfl rfl rfl (by first | exact .head | exact .tail .head | exact .tail (.tail .head) | exact .tail (.tail (.tail .head)) | exact .tail (.tail (.tail (.tail .head))) | exact .tail (.tail (.tail (.tail (.tail .head))))) (by repeat constructor)) rfl ?_
        | refine ord_readG rfl rfl rfl (fun _ hS => run_load4 rfl rfl rfl (by assumption) (by assumption) (by assumption) (by assumption)) rfl ?_
      refine ord_act rfl ?_
      refine lst_guard rfl rfl ?_
      refine lst_enter (run_call (by kernel_rfl) (args_1 (by conv => lhs; whnf))) rfl ?_
      refine Calls.mono (builtin_any _ n s _ _ _ _) ?_
      rintro _ w9 ⟨rfl, hb8⟩
      refine ⟨_, rfl, ?_⟩
      replace hS := hS.grow hb8
      refine lst_ord hS ?_
      refine ord_act rfl ?_
      refine lst_guard rfl rfl ?_
      refine lst_enter (run_call (by kernel_rfl) (args_1 (by conv => lhs; whnf))) rfl ?_
      refine Calls.mono (everybody_any _ n s _ _ _ _) ?_
      rintro _ w10 ⟨rfl, hb9⟩
      refine ⟨_, rfl, ?_⟩
      replace hS := hS.grow hb9
      refine lst_ord hS ?_
      first
        | refine ord_readG rfl rfl rfl (fun _ hS => run_neq_one rfl rfl rfl) rfl ?_
        | refine ord_readG rfl rfl rfl (fun _ hS => run_neq_bool rfl rfl rfl) rfl ?_
      first
        | refine ord_read rfl (fun _ hS => run_pick_t rfl (by conv => lhs; whnf)) rfl ?_
        | refine ord_read rfl (fun _ hS => run_pick_f rfl (by conv => lhs; whnf)) rfl ?_
      refine ord_end ?_
      refine lst_done ?_
      refine goes_false rfl ?_
      refine goes_skip ?_
      exact hk _ _ hS (by kernel_rfl)
    · refine lst_enter (run_call (by kernel_rfl) (args_1 (by conv => lhs; whnf))) rfl ?_
      refine Calls.mono (goal_any _ n s _ _) ?_
      rintro _ w8 ⟨rfl, hb7⟩
      refine ⟨_, rfl, ?_⟩
      replace hS := hS.grow hb7
      refine lst_ord hS ?_
      refine ord_readG rfl rfl rfl (fun _ hS => run_move (by conv => lhs; whnf)) rfl ?_
      rw [hgk, show (k == 1) = false by simpa using hk1]
      refine ord_readG rfl rfl rfl (fun _ hS => run_fieldAddr (off := 0) rfl rfl) rfl ?_
      first
        | refine ord_readG rfl rfl rfl (fun _ hS => run_load1_own hS rfl rfl (by first | exact .head | exact .tail .head | exact .tail (.tail .head) | exact .tail (.tail (.tail .head)) | exact .tail (.tail (.tail (.tail .head))) | exact .tail (.tail (.tail (.tail (.tail .head))))) (by repeat constructor)) rfl ?_
        | refine ord_readG rfl rfl rfl (fun _ hS => run_load1 rfl rfl (by assumption)) rfl ?_
      first
        | refine ord_readG rfl rfl rfl (fun _ hS => run_eql_one_int rfl rfl) rfl ?_
        | refine ord_readG rfl rfl rfl (fun _ hS => run_eql_no rfl rfl (by assumption)) rfl ?_
        | refine ord_readG rfl rfl rfl (fun _ hS => rfl) rfl ?_
      first
        | refine ord_readG rfl rfl rfl (fun _ hS => run_pick_t rfl (by conv => lhs; whnf)) rfl ?_
        | refine ord_readG rfl rfl rfl (fun _ hS => run_pick_f rfl (by conv => lhs; whnf)) rfl ?_
      first
        | refine ord_readG rfl rfl rfl (fun _ hS => run_neq_one rfl rfl rfl) rfl ?_
        | refine ord_readG rfl rfl rfl (fun _ hS => run_neq_bool rfl rfl rfl) rfl ?_
      first
        | refine ord_read rfl (fun _ hS => run_pick_t rfl (by conv => lhs; whnf)) rfl ?_
        | refine ord_read rfl (fun _ hS => run_pick_f rfl (by conv => lhs; whnf)) rfl ?_
      refine ord_read rfl (fun _ hS => run_move (by conv => lhs; whnf)) rfl ?_
      first
        | refine ord_readG rfl rfl rfl (fun _ hS => run_loadN_own (k := 4) hS rfl rfl rfl (by first | exact .head | exact .tail .head | exact .tail (.tail .head) | exact .tail (.tail (.tail .head)) | exact .tail (.tail (.tail (.tail .head))) | exact .tail (.tail (.tail (.tail (.tail .head))))) (by repeat constructor)) rfl ?_
        | refine ord_readG rfl rfl rfl (fun _ hS => run_load4 rfl rfl rfl (by assumption) (by assumption) (by assumption) (by assumption)) rfl ?_
      first
        | refine ord_readG rfl rfl rfl (fun _ hS => run_loadN_own (k := 4) hS rfl rfl rfl (by first | exact .head | exact .tail .head | exact .tail (.tail .head) | exact .tail (.tail (.tail .head)) | exact .tail (.tail (.tail (.tail .head))) | exact .tail (.tail (.tail (.tail (.tail .head))))) (by repeat constructor)) rfl ?_
        | refine ord_readG rfl rfl rfl (fun _ hS => run_load4 rfl rfl rfl (by assumption) (by assumption) (by assumption) (by assumption)) rfl ?_
      refine ord_act rfl ?_
      refine lst_guard rfl rfl ?_
      refine lst_enter (run_call (by kernel_rfl) (args_1 (by conv => lhs; whnf))) rfl ?_
      refine Calls.mono (builtin_any _ n s _ _ _ _) ?_
      rintro _ w9 ⟨rfl, hb8⟩
      refine ⟨_, rfl, ?_⟩
      replace hS := hS.grow hb8
      refine lst_ord hS ?_
      refine ord_act rfl ?_
      refine lst_guard rfl rfl ?_
      refine lst_enter (run_call (by kernel_rfl) (args_1 (by conv => lhs; whnf))) rfl ?_
      refine Calls.mono (everybody_any _ n s _ _ _ _) ?_
      rintro _ w10 ⟨rfl, hb9⟩
      refine ⟨_, rfl, ?_⟩
      replace hS := hS.grow hb9
      refine lst_ord hS ?_
      first
        | refine ord_readG rfl rfl rfl (fun _ hS => run_neq_one rfl rfl rfl) rfl ?_
        | refine ord_readG rfl rfl rfl (fun _ hS => run_neq_bool rfl rfl rfl) rfl ?_
      first
        | refine ord_read rfl (fun _ hS => run_pick_t rfl (by conv => lhs; whnf)) rfl ?_
        | refine ord_read rfl (fun _ hS => run_pick_f rfl (by conv => lhs; whnf)) rfl ?_
      refine ord_end ?_
      refine lst_done ?_
      refine goes_false rfl ?_
      refine goes_skip ?_
      exact hk _ _ hS (by kernel_rfl)
  · intro jv w2 hS
    clear HK
    refine goes_seq ?_
    refine goes_seq ?_
    refine goes_region ?_
    refine lst_run (run_move (by conv => lhs; whnf)) rfl ?_
    refine lst_run (run_len_slice rfl rfl rfl) rfl ?_
    refine lst_run (run_move (by conv => lhs; whnf)) rfl ?_
    refine lst_done ?_
    refine goes_block ?_
    refine goes_loopS1 hS 57 (58 :: 59 :: 60 :: 9 :: 61 :: 62 :: 63 :: 64 :: 65 :: 66 :: 67 :: 68 :: 69 :: 70 :: 71 :: 72 :: 73 :: 74 :: 75 :: 76 :: 77 :: 78 :: 79 :: 80 :: 6 :: 81 :: []) (fun (R : List Cl) v => ∃ D, L = D ++ R ∧ v = .int .i64 (D.length : Nat)) (fun R => R.length) (L) ?_ (by conv => lhs; whnf) ?_
    · exact ⟨[], rfl, rfl⟩
    rintro R _ w3 jv3 ⟨D, hD, rfl⟩ hS ih
    refine goes_seq ?_
    refine goes_region ?_
    refine lst_run (rfl) rfl ?_
    refine lst_done ?_
    refine goes_seq ?_
    refine goes_if rfl (fun h => ?_) (fun h => ?_)
    · have h' : D.length < L.length := by have := of_decide_eq_true h; omega
      cases R with
      | nil => rw [hD, List.append_nil] at h'; omega
      | cons c0 r =>
        have hnod : c0.nodes ≤ 1048576 := by have := hL; rw [hD, nodesC_app] at this; simp only [nodesC] at this; omega
        have hn1 : c0.hd.nodes < 1048576 := by simp only [Cl.nodes] at hnod; omega
        have hn2 : c0.bd.nodes ≤ 1048576 := by simp only [Cl.nodes] at hnod; omega
        obtain ⟨b1, o1, rfl, _, c10, c11, c12, ⟨v1, c13, hv1⟩, ⟨v2, c14, hv2⟩, c15, _⟩ := SlC.at_ (D := D) (R := c0 :: r) (by rw [← hD]; exact hl) (by simp)
        obtain ⟨A1, d1, rfl, hv1⟩ := hv1.form
        obtain ⟨A2, d2, rfl, hv2⟩ := hv2.form
        have d10 := hS.cell0 c10
        have d11 := hS.cell0 c11
        have d12 := hS.cell0 c12
        have d13 := hS.cell0 c13
        have d14 := hS.cell0 c14
        have d15 := hS.cell0 c15
        replace hS := (hS.readBase0 hv1).readBase0 hv2
        refine goes_skip ?_
        refine goes_seq ?_
        refine goes_block ?_
        refine goes_seq ?_
        refine goes_region ?_
        refine lst_run (run_indexAddr (sz := 6) rfl rfl rfl rfl (by omega) (by omega)) rfl ?_
        first
          | refine lst_run (run_loadN_own (k := 6) hS rfl rfl rfl (by first | exact .head | exact .tail .head | exact .tail (.tail .head) | exact .tail (.tail (.tail .head)) | exact .tail (.tail (.tail (.tail .head))) | exact .tail (.tail (.tail (.tail (.tail .head))))) (by repeat constructor)) rfl ?_
          | refine lst_run (run_load6 rfl rfl rfl (by assumption) (by assumption) (by assumption) (by assumption) (by assumption) (by assumption)) rfl ?_
        refine lst_alloc (cs := [_, _, _, _, _, _]) hS rfl rfl rfl ?_
        clear hS
        intro b6 wx7 hS
        refine lst_storeN hS rfl (by conv => lhs; whnf) rfl rfl (by first | exact .head | exact .tail .head | exact .tail (.tail .head) | exact .tail (.tail (.tail .head)) | exact .tail (.tail (.tail (.tail .head))) | exact .tail (.tail (.tail (.tail (.tail .head))))) (by repeat constructor) (by first | exact .head | exact .tail .head | exact .tail (.tail .head) | exact .tail (.tail (.tail .head)) | exact .tail (.tail (.tail (.tail .head))) | exact .tail (.tail (.tail (.tail (.tail .head))))) ?_
        clear hS
        intro wx8 hS
        refine lst_done ?_
        refine goes_seq ?_
        clear d10 d11 d12 d13 d14 d15
        refine goes_draw (St [] w _ _) 20 ((0, true) :: (3, true) :: (1, false) :: (2, false) :: (4, false) :: (5, true) :: (6, true) :: (7, true) :: (8, true) :: (10, true) :: (11, true) :: (13, true) :: (14, true) :: (15, true) :: (16, true) :: (9, false) :: (12, false) :: (17, false) :: (18, true) :: (19, true) :: []) (by kernel_rfl) (by kernel_rfl) hS.drew ?_
        replace hS := hS.drew
        first
          | refine ord_read rfl (fun _ hS => run_loadN_own (k := 6) hS rfl rfl rfl (by first | exact .head | exact .tail .head | exact .tail (.tail .head) | exact .tail (.tail (.tail .head)) | exact .tail (.tail (.tail (.tail .head))) | exact .tail (.tail (.tail (.tail (.tail .head))))) (by repeat constructor)) rfl ?_
          | refine ord_read rfl (fun _ hS => run_load6 rfl rfl rfl (by assumption) (by assumption) (by assumption) (by assumption) (by assumption) (by assumption)) rfl ?_
        first
          | refine ord_read rfl (fun _ hS => run_loadN_own (k := 6) hS rfl rfl rfl (by first | exact .head | exact .tail .head | exact .tail (.tail .head) | exact .tail (.tail (.tail .head)) | exact .tail (.tail (.tail (.tail .head))) | exact .tail (.tail (.tail (.tail (.tail .head))))) (by repeat constructor)) rfl ?_
          | refine ord_read rfl (fun _ hS => run_load6 rfl rfl rfl (by assumption) (by assumption) (by assumption) (by assumption) (by assumption) (by assumption)) rfl ?_
        refine ord_act rfl ?_
        refine lst_enter (run_call (by kernel_rfl) (args_1 (by conv => lhs; whnf))) rfl ?_
        refine Calls.mono (clause_any c0 _ _ _ (by first | exact hS.fact (.head _) | exact hS.fact (.tail _ (.head _)) | exact hS.fact (.tail _ (.tail _ (.head _))) | exact hS.fact (.tail _ (.tail _ (.tail _ (.head _)))) | exact hS.fact (.tail _ (.tail _ (.tail _ (.tail _ (.head _))))) | exact hS.fact (.tail _ (.tail _ (.tail _ (.tail _ (.tail _ (.head _)))))) | exact hS.fact (.tail _ (.tail _ (.tail _ (.tail _ (.tail _ (.tail _ (.head _))))))) | exact hS.fact (.tail _ (.tail _ (.tail _ (.tail _ (.tail _ (.tail _ (.tail _ (.head _))))))))) (by first | exact hS.fact (.head _) | exact hS.fact (.tail _ (.head _)) | exact hS.fact (.tail _ (.tail _ (.head _))) | exact hS.fact (.tail _ (.tail _ (.tail _ (.head _)))) | exact hS.fact (.tail _ (.tail _ (.tail _ (.tail _ (.head _))))) | exact hS.fact (.tail _ (.tail _ (.tail _ (.tail _ (.tail _ (.head _)))))) | exact hS.fact (.tail _ (.tail _ (.tail _ (.tail _ (.tail _ (.tail _ (.head _))))))) | exact hS.fact (.tail _ (.tail _ (.tail _ (.tail _ (.tail _ (.tail _ (.tail _ (.head _))))))))) (by omega) hn2) ?_
        rintro _ w4 ⟨u2, y2, rfl, hu2, hw2, hb2⟩
        refine ⟨_, rfl, ?_⟩
        replace hS := hS.grow hb2
        refine lst_ord hS ?_
        refine ord_act rfl ?_
        refine lst_enter (run_call (by kernel_rfl) (args_1 (by conv => lhs; whnf))) rfl ?_
        refine Calls.mono (goodClause_any c0 _ _ _ hu2.any hw2.any hn1 hn2) ?_
        rintro _ w5 ⟨rfl, hb3⟩
        refine ⟨_, rfl, ?_⟩
        replace hS := hS.grow hb3
        refine lst_ord hS ?_
        refine ord_act rfl ?_
        refine lst_enter (run_call (by kernel_rfl) (args_1 (by conv => lhs; whnf))) rfl ?_
        refine Calls.mono (isClause_any c0 _ _ _ (by first | exact hS.fact (.head _) | exact hS.fact (.tail _ (.head _)) | exact hS.fact (.tail _ (.tail _ (.head _))) | exact hS.fact (.tail _ (.tail _ (.tail _ (.head _)))) | exact hS.fact (.tail _ (.tail _ (.tail _ (.tail _ (.head _))))) | exact hS.fact (.tail _ (.tail _ (.tail _ (.tail _ (.tail _ (.head _)))))) | exact hS.fact (.tail _ (.tail _ (.tail _ (.tail _ (.tail _ (.tail _ (.head _))))))) | exact hS.fact (.tail _ (.tail _ (.tail _ (.tail _ (.tail _ (.tail _ (.tail _ (.head _))))))))) (by first | exact hS.fact (.head _) | exact hS.fact (.tail _ (.head _)) | exact hS.fact (.tail _ (.tail _ (.head _))) | exact hS.fact (.tail _ (.tail _ (.tail _ (.head _)))) | exact hS.fact (.tail _ (.tail _ (.tail _ (.tail _ (.head _))))) | exact hS.fact (.tail _ (.tail _ (.tail _ (.tail _ (.tail _ (.head _)))))) | exact hS.fact (.tail _ (.tail _ (.tail _ (.tail _ (.tail _ (.tail _ (.head _))))))) | exact hS.fact (.tail _ (.tail _ (.tail _ (.tail _ (.tail _ (.tail _ (.tail _ (.head _))))))))) hn1 hn2) ?_
        rintro _ w6 ⟨rfl, hb4⟩
        refine ⟨_, rfl, ?_⟩
        replace hS := hS.grow hb4
        refine lst_ord hS ?_
        first
          | refine ord_read rfl (fun _ hS => run_neq_one rfl rfl rfl) rfl ?_
          | refine ord_read rfl (fun _ hS => run_neq_bool rfl rfl rfl) rfl ?_
        refine ord_read rfl (fun _ hS => run_move (by conv => lhs; whnf)) rfl ?_
        refine ord_readG rfl rfl rfl (fun _ hS => run_fieldAddr (off := 4) rfl rfl) rfl ?_
        first
          | refine ord_readG rfl rfl rfl (fun _ hS => run_load1_own hS rfl rfl (by first | exact .head | exact .tail .head | exact .tail (.tail .head) | exact .tail (.tail (.tail .head)) | exact .tail (.tail (.tail (.tail .head))) | exact .tail (.tail (.tail (.tail (.tail .head))))) (by repeat constructor)) rfl ?_
          | refine ord_readG rfl rfl rfl (fun _ hS => run_load1 rfl rfl (by assumption)) rfl ?_
        refine ord_readG rfl rfl rfl (fun _ hS => run_fieldAddr (off := 5) rfl rfl) rfl ?_
        first
          | refine ord_readG rfl rfl rfl (fun _ hS => run_load1_own hS rfl rfl (by first | exact .head | exact .tail .head | exact .tail (.tail .head) | exact .tail (.tail (.tail .head)) | exact .tail (.tail (.tail (.tail .head))) | exact .tail (.tail (.tail (.tail (.tail .head))))) (by repeat constructor)) rfl ?_
          | refine ord_readG rfl rfl rfl (fun _ hS => run_load1 rfl rfl (by assumption)) rfl ?_
        refine ord_readG rfl rfl rfl (fun _ hS => run_fieldAddr (off := 4) rfl rfl) rfl ?_
        first
          | refine ord_readG rfl rfl rfl (fun _ hS => run_load1_own hS rfl rfl (by first | exact .head | exact .tail .head | exact .tail (.tail .head) | exact .tail (.tail (.tail .head)) | exact .tail (.tail (.tail (.tail .head))) | exact .tail (.tail (.tail (.tail (.tail .head))))) (by repeat constructor)) rfl ?_
          | refine ord_readG rfl rfl rfl (fun _ hS => run_load1 rfl rfl (by assumption)) rfl ?_
        refine ord_readG rfl rfl rfl (fun _ hS => run_fieldAddr (off := 5) rfl rfl) rfl ?_
        first
          | refine ord_readG rfl rfl rfl (fun _ hS => run_load1_own hS rfl rfl (by first | exact .head | exact .tail .head | exact .tail (.tail .head) | exact .tail (.tail (.tail .head)) | exact .tail (.tail (.tail (.tail .head))) | exact .tail (.tail (.tail (.tail (.tail .head))))) (by repeat constructor)) rfl ?_
          | refine ord_readG rfl rfl rfl (fun _ hS => run_load1 rfl rfl (by assumption)) rfl ?_
        refine ord_act rfl ?_
        refine lst_guard rfl rfl ?_
        clear hu2 hw2 hb2 hb3 hb4
        refine lst_enter (run_call (by kernel_rfl) (args_1 (by conv => lhs; whnf))) rfl ?_
        refine Calls.mono (copy_said c0.bd _ _ (by first | exact hS.fact (.head _) | exact hS.fact (.tail _ (.head _)) | exact hS.fact (.tail _ (.tail _ (.head _))) | exact hS.fact (.tail _ (.tail _ (.tail _ (.head _)))) | exact hS.fact (.tail _ (.tail _ (.tail _ (.tail _ (.head _))))) | exact hS.fact (.tail _ (.tail _ (.tail _ (.tail _ (.tail _ (.head _)))))) | exact hS.fact (.tail _ (.tail _ (.tail _ (.tail _ (.tail _ (.tail _ (.head _))))))) | exact hS.fact (.tail _ (.tail _ (.tail _ (.tail _ (.tail _ (.tail _ (.tail _ (.head _))))))))) hn2) ?_
        rintro _ w7 ⟨u2, rfl, hu2, hb2⟩
        refine ⟨_, rfl, ?_⟩
        replace hS := hS.grow hb2
        refine lst_ord hS ?_
        refine ord_act rfl ?_
        refine lst_guard rfl rfl ?_
        refine lst_enter (run_call (by kernel_rfl) (args_2 (by conv => lhs; whnf) (by conv => lhs; whnf))) rfl ?_
        refine Calls.mono (goodQuery_any c0.vars c0.bd _ _ hu2.any hn2) ?_
        rintro _ w8 ⟨rfl, hb3⟩
        refine ⟨_, rfl, ?_⟩
        replace hS := hS.grow hb3
        refine lst_ord hS ?_
        refine ord_act rfl ?_
        refine lst_guard rfl rfl ?_
        refine lst_enter (run_call (by kernel_rfl) (args_2 (by conv => lhs; whnf) (by conv => lhs; whnf))) rfl ?_
        refine Calls.mono (isQuery_any c0.vars c0.bd _ _ (by first | exact hS.fact (.head _) | exact hS.fact (.tail _ (.head _)) | exact hS.fact (.tail _ (.tail _ (.head _))) | exact hS.fact (.tail _ (.tail _ (.tail _ (.head _)))) | exact hS.fact (.tail _ (.tail _ (.tail _ (.tail _ (.head _))))) | exact hS.fact (.tail _ (.tail _ (.tail _ (.tail _ (.tail _ (.head _)))))) | exact hS.fact (.tail _ (.tail _ (.tail _ (.tail _ (.tail _ (.tail _ (.head _))))))) | exact hS.fact (.tail _ (.tail _ (.tail _ (.tail _ (.tail _ (.tail _ (.tail _ (.head _))))))))) hn2) ?_
        rintro _ w9 ⟨rfl, hb4⟩
        refine ⟨_, rfl, ?_⟩
        replace hS := hS.grow hb4
        refine lst_ord hS ?_
        first
          | refine ord_readG rfl rfl rfl (fun _ hS => run_neq_one rfl rfl rfl) rfl ?_
          | refine ord_readG rfl rfl rfl (fun _ hS => run_neq_bool rfl rfl rfl) rfl ?_
        first
          | refine ord_read rfl (fun _ hS => run_pick_t rfl (by conv => lhs; whnf)) rfl ?_
          | refine ord_read rfl (fun _ hS => run_pick_f rfl (by conv => lhs; whnf)) rfl ?_
        refine ord_end ?_
        refine lst_done ?_
        refine goes_false rfl ?_
        refine goes_skip ?_
        refine goes_inBlock ?_
        refine goes_region ?_
        refine lst_run (run_add rfl rfl (by omega) (by omega)) rfl ?_
        refine lst_run (run_move (by conv => lhs; whnf)) rfl ?_
        refine lst_done ?_
        refine ih (r) _ _ _ ?_ ?_ ?_ (by conv => lhs; whnf) (by kernel_rfl)
        · simp
        · exact ⟨D ++ [c0], by rw [hD, List.append_assoc]; rfl, by simp⟩
        · exact hS.drop.unlearn.unlearn
    · obtain rfl : R = [] := by
        have := of_decide_eq_false h
        rw [hD, List.length_append] at this
        cases R with
        | nil => rfl
        | cons c0 r => simp at this; omega
      obtain rfl : L = D := by rw [hD, List.append_nil]
      refine goes_exit rfl ?_
      refine goes_seq ?_
      refine goes_region ?_
      refine lst_run (run_move (by conv => lhs; whnf)) rfl ?_
      refine lst_enter (run_call (by kernel_rfl) (args_1 (by conv => lhs; whnf))) rfl ?_
      refine Calls.mono (program_any L _ _ (by first | exact hS.fact (.head _) | exact hS.fact (.tail _ (.head _)) | exact hS.fact (.tail _ (.tail _ (.head _))) | exact hS.fact (.tail _ (.tail _ (.tail _ (.head _)))) | exact hS.fact (.tail _ (.tail _ (.tail _ (.tail _ (.head _))))) | exact hS.fact (.tail _ (.tail _ (.tail _ (.tail _ (.tail _ (.head _)))))) | exact hS.fact (.tail _ (.tail _ (.tail _ (.tail _ (.tail _ (.tail _ (.head _))))))) | exact hS.fact (.tail _ (.tail _ (.tail _ (.tail _ (.tail _ (.tail _ (.tail _ (.head _))))))))) hL) ?_
      rintro _ w4 ⟨u2, rfl, hu2, hb2⟩
      refine ⟨_, rfl, ?_⟩
      replace hS := hS.grow hb2
      refine lst_enter (run_call (by kernel_rfl) (args_1 (by conv => lhs; whnf))) rfl ?_
      refine Calls.mono (goodProgram_any L _ _ hu2.any hL) ?_
      rintro _ w5 ⟨rfl, hb3⟩
      refine ⟨_, rfl, ?_⟩
      replace hS := hS.grow hb3
      refine lst_run (run_move (by conv => lhs; whnf)) rfl ?_
      refine lst_enter (run_call (by kernel_rfl) (args_1 (by conv => lhs; whnf))) rfl ?_
      refine Calls.mono (isProgram_any L _ _ (by first | exact hS.fact (.head _) | exact hS.fact (.tail _ (.head _)) | exact hS.fact (.tail _ (.tail _ (.head _))) | exact hS.fact (.tail _ (.tail _ (.tail _ (.head _)))) | exact hS.fact (.tail _ (.tail _ (.tail _ (.tail _ (.head _))))) | exact hS.fact (.tail _ (.tail _ (.tail _ (.tail _ (.tail _ (.head _)))))) | exact hS.fact (.tail _ (.tail _ (.tail _ (.tail _ (.tail _ (.tail _ (.head _))))))) | exact hS.fact (.tail _ (.tail _ (.tail _ (.tail _ (.tail _ (.tail _ (.tail _ (.head _))))))))) hL) ?_
      rintro _ w6 ⟨rfl, hb4⟩
      refine ⟨_, rfl, ?_⟩
      replace hS := hS.grow hb4
      first
        | refine lst_run (run_eql_one rfl rfl rfl) rfl ?_
        | refine lst_run (run_eql_bool rfl rfl rfl) rfl ?_
      refine lst_run (run_move (by conv => lhs; whnf)) rfl ?_
      refine lst_guard rfl rfl ?_
      refine lst_enter (run_call (by kernel_rfl) args_nil) rfl ?_
      refine Calls.mono (R.terms_any _) ?_
      rintro _ w7 ⟨rfl, hb5⟩
      refine ⟨_, rfl, ?_⟩
      replace hS := hS.grow hb5
      first
        | refine lst_run (run_pick_t rfl (by conv => lhs; whnf)) rfl ?_
        | refine lst_run (run_pick_f rfl (by conv => lhs; whnf)) rfl ?_
      refine lst_run (run_assign (by conv => lhs; whnf)) rfl ?_
      refine lst_done ?_
      refine goes_ret1 Tryd.func3 rfl (by conv => lhs; whnf) ?_
      exact ⟨rfl, hS.ext.below⟩
end Go.Proofs.YtpbnfjlalgnmmaaDoor
