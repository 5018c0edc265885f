/-
  The law ReadBack: a query that is printed is read as it.
-/
import Derived.Test.YtdiophafmokfiaaDoorReads
import Derived.Test.YtdiophafmokfiaaDoorBack3
import Derived.Test.YtdiophafmokfiaaDoorSameK
namespace Go.Proofs.YtdiophafmokfiaaDoor
open Go.RowKit Go.Shelf
set_option linter.unusedVariables false
set_option linter.unusedSimpArgs false
set_option maxRecDepth 100000
set_option maxHeartbeats 1000000

theorem Ts.nodes_tidy (T : Ts) : T.tidy.nodes = T.nodes := Ts.nodes_ren _ T []
theorem query_b {M : List Nat} {w0 w : World} {H : List (Nat × Obj)} {F : List (World → Prop)} {T : Ts} (ho : T.inOrder 0) (hl : 0 < T.length) {u : Nat} (h : qB u T = true) (hG : ∀ w', Ext M w0 w' → GVars w') (hS : St M w0 H F w) :
    Calls Tryd.prog 30 #[sv (outM false T ++ [46])] w fun e w' => ∃ v, e = .returned (.tuple #[v, .int .i64 (T.cnt 0 : Nat), .int .i64 0]) ∧ St M w0 H ((fun w => Sl w (fun _ => True) v T) :: F) w' := by
  obtain ⟨h1, h2⟩ := query_back ho hl h
  have h3 := query_r numM GVars lib1 lib2 lib3 (outM false T ++ [46]) w hG (by omega) hS
  rw [h1] at h3
  exact h3
theorem back_any (T0 : Ts) (v0 : Value) (w0 : World) (hG0 : ∀ w', Ext [] w0 w' → GVars w') (hv0 : Sl w0 (fun _ => True) v0 T0) (hn0 : T0.nodes ≤ 1048576) :
    Calls Tryd.prog 4 #[v0] w0 fun e w' => e = .returned (.bool true) ∧ Below w0.heap.size w0 w' := by
  have hS := St.start w0
  refine goes_enter1 Tryd.func4 rfl Tryd.ntmps4 rfl ?_
  refine goes_seq ?_
  refine goes_region ?_
  refine lst_run (run_assign (by conv => lhs; whnf)) rfl ?_
  refine lst_done ?_
  refine goes_seq ?_
  refine goes_region ?_
  refine lst_run (run_move (by conv => lhs; whnf)) rfl ?_
  refine lst_enter (run_call (by kernel_rfl) (args_1 (by conv => lhs; whnf))) rfl ?_
  refine Calls.mono (tidy_any T0 v0 _ hv0 hn0) ?_
  rintro _ w1 ⟨v1, rfl, hv1, hb1⟩
  refine ⟨_, rfl, ?_⟩
  replace hS := hS.grow hb1
  have hx1 := hS.ext
  clear hS
  have hS := St.start w1
  have hG : ∀ w', Ext [] w1 w' → GVars w' := fun w' h => hG0 w' (hx1.trans h)
  have hv : Sl w1 (fun _ => True) v1 T0.tidy := hv1.imp fun _ _ _ => trivial
  have ho := Ts.tidy_inOrder T0
  have hn : T0.tidy.nodes ≤ 1048576 := by rw [Ts.nodes_tidy]; exact hn0
  generalize T0.tidy = T at hv ho hn
  clear hv1 hv0
  obtain ⟨A, cp, rfl, hv⟩ := hv.form
  have hTl := T.length_le
  refine lst_run (run_assign (by conv => lhs; whnf)) rfl ?_
  refine lst_done ?_
  refine goes_seq ?_
  refine goes_region ?_
  refine lst_run (run_assign (by conv => lhs; whnf)) rfl ?_
  refine lst_done ?_
  refine goes_seq ?_
  refine goes_block ?_
  refine goes_loop1 3 (12 :: 13 :: 14 :: 15 :: 16 :: 17 :: 18 :: 19 :: 20 :: 21 :: []) (fun (R : Nat) v w' => St [] w1 [] [] w' ∧ ∃ i : Nat, i + R = 9 ∧ v = .int .i64 (i : Nat) ∧ ∀ j : Nat, j < i → qB (j : Nat) T = false) (fun R => R) (9) ?_ (by conv => lhs; whnf) ?_
  · exact ⟨hS, 0, rfl, rfl, fun j h => by omega⟩
  clear hS
  rintro R v2 w2 jv ⟨hS, i, hi, rfl, hno⟩ ih
  have hgq := goodQuery_any (i : Nat) T _ w2 (hv.below hS.ext.below) hn
  by_cases h9 : i = 9
  · subst h9
    refine goes_seq ?_
    refine goes_seq ?_
    refine goes_region ?_
    refine lst_run (run_move (by conv => lhs; whnf)) rfl ?_
    first
      | refine lst_run (run_leq_yes rfl rfl (by omega)) rfl ?_
      | refine lst_run (run_leq_no rfl rfl (by omega)) rfl ?_
      | refine lst_run (rfl) rfl ?_
    refine lst_run (run_move (by conv => lhs; whnf)) rfl ?_
    refine lst_pass rfl rfl rfl ?_
    refine lst_pass rfl rfl rfl ?_
    refine lst_pass rfl rfl rfl ?_
    refine lst_pass rfl rfl rfl ?_
    first
      | refine lst_run (run_pick_t rfl (by conv => lhs; whnf)) rfl ?_
      | refine lst_run (run_pick_f rfl (by conv => lhs; whnf)) rfl ?_
    refine lst_done ?_
    refine goes_false rfl ?_
    refine goes_exit rfl ?_
    refine goes_seq ?_
    refine goes_seq ?_
    refine goes_region ?_
    refine lst_run (run_move (by conv => lhs; whnf)) rfl ?_
    first
      | refine lst_run (run_gtr_yes rfl rfl (by omega)) rfl ?_
      | refine lst_run (run_gtr_no rfl rfl (by omega)) rfl ?_
      | refine lst_run (rfl) rfl ?_
    refine lst_run (run_move (by conv => lhs; whnf)) rfl ?_
    refine lst_pass rfl rfl rfl ?_
    refine lst_pass rfl rfl rfl ?_
    refine lst_pass rfl rfl rfl ?_
    first
      | refine lst_run (run_pick_t rfl (by conv => lhs; whnf)) rfl ?_
      | refine lst_run (run_pick_f rfl (by conv => lhs; whnf)) rfl ?_
    refine lst_done ?_
    refine goes_true rfl ?_
    refine goes_seq ?_
    refine goes_region ?_
    have hG2 : ∀ w', Ext [] w2 w' → GVars w' := fun w' h => hG w' (hS.ext.trans h)
    refine lst_enter (run_call (by kernel_rfl) args_nil) rfl ?_
    refine Calls.mono (reads_any _ hG2) ?_
    rintro _ w3 ⟨rfl, hb3⟩
    refine ⟨_, rfl, ?_⟩
    replace hS := hS.grow hb3
    refine lst_run (run_assign (by conv => lhs; whnf)) rfl ?_
    refine lst_done ?_
    refine goes_ret1 Tryd.func4 rfl (by conv => lhs; whnf) ?_
    exact ⟨rfl, (hx1.trans hS.ext).below⟩
  cases hq : qB (i : Nat) T with
  | false =>
    rw [hq] at hgq
    refine goes_seq ?_
    refine goes_seq ?_
    refine goes_region ?_
    refine lst_run (run_move (by conv => lhs; whnf)) rfl ?_
    first
      | refine lst_run (run_leq_yes rfl rfl (by omega)) rfl ?_
      | refine lst_run (run_leq_no rfl rfl (by omega)) rfl ?_
      | refine lst_run (rfl) rfl ?_
    refine lst_run (run_move (by conv => lhs; whnf)) rfl ?_
    refine lst_guard rfl rfl ?_
    refine lst_run (run_move (by conv => lhs; whnf)) rfl ?_
    refine lst_guard rfl rfl ?_
    refine lst_run (run_move (by conv => lhs; whnf)) rfl ?_
    refine lst_guard rfl rfl ?_
    refine lst_enter (run_call (by kernel_rfl) (args_2 (by conv => lhs; whnf) (by conv => lhs; whnf))) rfl ?_
    refine Calls.mono (hgq) ?_
    rintro _ w3 ⟨rfl, hb3⟩
    refine ⟨_, rfl, ?_⟩
    replace hS := hS.grow hb3
    refine lst_guard rfl rfl ?_
    refine lst_run (rfl) rfl ?_
    first
      | refine lst_run (run_pick_t rfl (by conv => lhs; whnf)) rfl ?_
      | refine lst_run (run_pick_f rfl (by conv => lhs; whnf)) rfl ?_
    refine lst_done ?_
    refine goes_true rfl ?_
    refine goes_skip ?_
    refine goes_block ?_
    refine goes_region ?_
    refine lst_run (run_move (by conv => lhs; whnf)) rfl ?_
    refine lst_run (run_add rfl rfl (by omega) (by omega)) rfl ?_
    refine lst_run (run_assign (by conv => lhs; whnf)) rfl ?_
    refine lst_done ?_
    refine goes_inBlock ?_
    refine ih ((R - 1)) _ _ _ ?_ ?_ (by conv => lhs; whnf) (by kernel_rfl)
    · omega
    · refine ⟨hS, i + 1, by omega, by simp, fun j hj => ?_⟩
      by_cases e : j = i
      · subst e; exact hq
      · exact hno j (by omega)
  | true =>
    rw [hq] at hgq
    have hci : T.cnt 0 = i := by
      have h1 := q_le ho hq
      have h2 := q_cnt ho hq
      by_cases e : T.cnt 0 < i
      · rw [hno _ e] at h2; cases h2
      · omega
    by_cases hl : T.length = 0
    · refine goes_seq ?_
      refine goes_seq ?_
      refine goes_region ?_
      refine lst_run (run_move (by conv => lhs; whnf)) rfl ?_
      first
        | refine lst_run (run_leq_yes rfl rfl (by omega)) rfl ?_
        | refine lst_run (run_leq_no rfl rfl (by omega)) rfl ?_
        | refine lst_run (rfl) rfl ?_
      refine lst_run (run_move (by conv => lhs; whnf)) rfl ?_
      refine lst_guard rfl rfl ?_
      refine lst_run (run_move (by conv => lhs; whnf)) rfl ?_
      refine lst_guard rfl rfl ?_
      refine lst_run (run_move (by conv => lhs; whnf)) rfl ?_
      refine lst_guard rfl rfl ?_
      refine lst_enter (run_call (by kernel_rfl) (args_2 (by conv => lhs; whnf) (by conv => lhs; whnf))) rfl ?_
      refine Calls.mono (hgq) ?_
      rintro _ w3 ⟨rfl, hb3⟩
      refine ⟨_, rfl, ?_⟩
      replace hS := hS.grow hb3
      refine lst_guard rfl rfl ?_
      refine lst_run (rfl) rfl ?_
      first
        | refine lst_run (run_pick_t rfl (by conv => lhs; whnf)) rfl ?_
        | refine lst_run (run_pick_f rfl (by conv => lhs; whnf)) rfl ?_
      refine lst_done ?_
      refine goes_false rfl ?_
      refine goes_exit rfl ?_
      refine goes_seq ?_
      refine goes_seq ?_
      refine goes_region ?_
      refine lst_run (run_move (by conv => lhs; whnf)) rfl ?_
      first
        | refine lst_run (run_gtr_yes rfl rfl (by omega)) rfl ?_
        | refine lst_run (run_gtr_no rfl rfl (by omega)) rfl ?_
        | refine lst_run (rfl) rfl ?_
      refine lst_run (run_move (by conv => lhs; whnf)) rfl ?_
      refine lst_guard rfl rfl ?_
      refine lst_run (run_move (by conv => lhs; whnf)) rfl ?_
      refine lst_guard rfl rfl ?_
      refine lst_run (run_len_slice rfl rfl rfl) rfl ?_
      refine lst_guard rfl rfl ?_
      first
        | refine lst_run (run_eql_one_int rfl rfl) rfl ?_
        | refine lst_run (run_eql_no rfl rfl (by first | assumption | omega)) rfl ?_
        | refine lst_run (run_eql_yes rfl rfl (by omega)) rfl ?_
        | refine lst_run (rfl) rfl ?_
      first
        | refine lst_run (run_pick_t rfl (by conv => lhs; whnf)) rfl ?_
        | refine lst_run (run_pick_f rfl (by conv => lhs; whnf)) rfl ?_
      refine lst_done ?_
      refine goes_true rfl ?_
      refine goes_seq ?_
      refine goes_region ?_
      have hG2 : ∀ w', Ext [] w3 w' → GVars w' := fun w' h => hG w' (hS.ext.trans h)
      refine lst_enter (run_call (by kernel_rfl) args_nil) rfl ?_
      refine Calls.mono (reads_any _ hG2) ?_
      rintro _ w4 ⟨rfl, hb4⟩
      refine ⟨_, rfl, ?_⟩
      replace hS := hS.grow hb4
      refine lst_run (run_assign (by conv => lhs; whnf)) rfl ?_
      refine lst_done ?_
      refine goes_ret1 Tryd.func4 rfl (by conv => lhs; whnf) ?_
      exact ⟨rfl, (hx1.trans hS.ext).below⟩
    obtain ⟨_, hu8, hl5, hgl⟩ := q_parts hq
    obtain ⟨hgood, hnod, hdep⟩ := goals_good _ T hgl
    have hlen := (query_back ho (by omega) hq).2
    simp only [List.length_append, List.length_cons, List.length_nil] at hlen
    have hout := out_len (v := i) (by omega) T
    refine goes_seq ?_
    refine goes_seq ?_
    refine goes_region ?_
    refine lst_run (run_move (by conv => lhs; whnf)) rfl ?_
    first
      | refine lst_run (run_leq_yes rfl rfl (by omega)) rfl ?_
      | refine lst_run (run_leq_no rfl rfl (by omega)) rfl ?_
      | refine lst_run (rfl) rfl ?_
    refine lst_run (run_move (by conv => lhs; whnf)) rfl ?_
    refine lst_guard rfl rfl ?_
    refine lst_run (run_move (by conv => lhs; whnf)) rfl ?_
    refine lst_guard rfl rfl ?_
    refine lst_run (run_move (by conv => lhs; whnf)) rfl ?_
    refine lst_guard rfl rfl ?_
    refine lst_enter (run_call (by kernel_rfl) (args_2 (by conv => lhs; whnf) (by conv => lhs; whnf))) rfl ?_
    refine Calls.mono (hgq) ?_
    rintro _ w3 ⟨rfl, hb3⟩
    refine ⟨_, rfl, ?_⟩
    replace hS := hS.grow hb3
    refine lst_guard rfl rfl ?_
    refine lst_run (rfl) rfl ?_
    first
      | refine lst_run (run_pick_t rfl (by conv => lhs; whnf)) rfl ?_
      | refine lst_run (run_pick_f rfl (by conv => lhs; whnf)) rfl ?_
    refine lst_done ?_
    refine goes_false rfl ?_
    refine goes_exit rfl ?_
    refine goes_seq ?_
    refine goes_seq ?_
    refine goes_region ?_
    refine lst_run (run_move (by conv => lhs; whnf)) rfl ?_
    first
      | refine lst_run (run_gtr_yes rfl rfl (by omega)) rfl ?_
      | refine lst_run (run_gtr_no rfl rfl (by omega)) rfl ?_
      | refine lst_run (rfl) rfl ?_
    refine lst_run (run_move (by conv => lhs; whnf)) rfl ?_
    refine lst_guard rfl rfl ?_
    refine lst_run (run_move (by conv => lhs; whnf)) rfl ?_
    refine lst_guard rfl rfl ?_
    refine lst_run (run_len_slice rfl rfl rfl) rfl ?_
    refine lst_guard rfl rfl ?_
    first
      | refine lst_run (run_eql_one_int rfl rfl) rfl ?_
      | refine lst_run (run_eql_no rfl rfl (by first | assumption | omega)) rfl ?_
      | refine lst_run (run_eql_yes rfl rfl (by omega)) rfl ?_
      | refine lst_run (rfl) rfl ?_
    first
      | refine lst_run (run_pick_t rfl (by conv => lhs; whnf)) rfl ?_
      | refine lst_run (run_pick_f rfl (by conv => lhs; whnf)) rfl ?_
    refine lst_done ?_
    refine goes_false rfl ?_
    refine goes_skip ?_
    refine goes_seq ?_
    refine goes_region ?_
    refine lst_run (run_assign (by conv => lhs; whnf)) rfl ?_
    refine lst_done ?_
    refine goes_seq ?_
    refine goes_seq ?_
    refine goes_region ?_
    refine lst_run (run_move (by conv => lhs; whnf)) rfl ?_
    refine lst_run (run_len_slice rfl rfl rfl) rfl ?_
    refine lst_run (run_move (by conv => lhs; whnf)) rfl ?_
    refine lst_done ?_
    refine goes_block ?_
    clear ih hgq hb3
    refine goes_loop2 4 32 (33 :: 34 :: 35 :: 36 :: 6 :: 5 :: 37 :: 38 :: 39 :: 40 :: 41 :: 42 :: 43 :: 44 :: 45 :: []) (fun (R : Ts) s v w' => St [] w1 [] [] w' ∧ ∃ D, T = D.app R ∧ v = .int .i64 (D.length : Nat) ∧ s = sv (outM false D)) (fun R => R.length) (T) ?_ (by conv => lhs; whnf) (by conv => lhs; whnf) ?_
    · exact ⟨hS, .nil, rfl, rfl, rfl⟩
    clear hS
    rintro R s2 v2 w4 jv4 ⟨hS, D, hD, rfl, rfl⟩ ih
    have hlD : T.length = D.length + R.length := by rw [hD, Ts.length_app]
    cases R with
    | cons k n s a r =>
      simp only [Ts.length] at hlD
      obtain ⟨s, rfl⟩ := str_of s
      have hvD := hv
      rw [hD] at hvD
      obtain ⟨b1, o1, rfl, _, c10, c11, c12, ⟨A3, e3, c13, hv3⟩, _⟩ := Sl.at_ hvD (by simp [Ts.length])
      have d10 := hS.cell0 c10
      have d11 := hS.cell0 c11
      have d12 := hS.cell0 c12
      have d13 := hS.cell0 c13
      have hv3' : Sl w1 (fun _ => True) (.slice A3 a.length e3) a := ⟨A3, e3, rfl, hv3⟩
      have hin := T.nodes_app
      have hgo := hgood
      have hle := hlen
      rw [hD, Ts.good_app] at hgo
      rw [hD, out_app] at hle
      simp only [Bool.and_eq_true] at hgo
      have hrg := good_rng (v := i) (by omega) _ hgo.2
      have hnd : T.nodes = D.nodes + (Ts.cons k n ⟨s.toArray⟩ a r).nodes := by rw [hD, Ts.nodes_app]
      simp only [Ts.nodes] at hnd
      have htx : outM false (.cons k n ⟨s.toArray⟩ a .nil) = textM k n s a := by rw [out_cons]; simp [outM]
      have hpr : ∀ w', Ext [] w1 w' → Calls Tryd.prog 29 #[.agg #[.int .i64 k, .int .i64 n, sv s, .slice A3 a.length e3]] w' fun e w'' => e = .returned (sv (textM k n s a)) ∧ Below w'.heap.size w' w'' := by
        intro w' hw'
        have := print_any k n s a _ w' (fun w'' h => hG w'' (hw'.trans h)) (hv3'.below hw'.below) hrg.1 hrg.2.1 (by omega) (by rw [htx]; rw [out_cons] at hle; simp at hle; omega)
        rwa [htx] at this
      have hl1 : (outM false D).length + (textM k n s a).length + 1 ≤ 2001 := by rw [out_cons] at hle; simp at hle; omega
      have hDc : (D.app (.cons k n ⟨s.toArray⟩ a .nil)).app r = D.app (.cons k n ⟨s.toArray⟩ a r) := by rw [Ts.app_assoc]; rfl
      have hDl := app1_len D k n ⟨s.toArray⟩ a
      have hDo : outM false (D.app (.cons k n ⟨s.toArray⟩ a .nil)) = outM false D ++ ((if 0 < D.length then [44] else []) ++ textM k n s a) := by
        rw [out_app, out_cons]
        by_cases h : 0 < D.length <;> simp [h, outM]
      by_cases hD0 : D.length = 0
      · refine goes_seq ?_
        refine goes_region ?_
        first
          | refine lst_run (run_lss_yes rfl rfl (by omega)) rfl ?_
          | refine lst_run (run_lss_no rfl rfl (by omega)) rfl ?_
          | refine lst_run (rfl) rfl ?_
        refine lst_done ?_
        refine goes_seq ?_
        refine goes_true rfl ?_
        refine goes_skip ?_
        refine goes_seq ?_
        refine goes_block ?_
        refine goes_seq ?_
        refine goes_region ?_
        refine lst_run (run_move (by conv => lhs; whnf)) rfl ?_
        refine lst_run (run_indexAddr (sz := 4) rfl rfl rfl rfl (by omega) (by omega)) rfl ?_
        first
          | refine lst_run (run_loadN_own (k := 4) hS rfl rfl rfl (by first | exact .head | exact .tail .head | exact .tail (.tail .head) | exact .tail (.tail (.tail .head)) | exact .tail (.tail (.tail (.tail .head))) | exact .tail (.tail (.tail (.tail (.tail .head))))) (by repeat constructor)) rfl ?_
          | refine lst_run (run_load4 rfl rfl rfl (by first | assumption | exact hS.cell0 (by assumption)) (by first | assumption | exact hS.cell0 (by assumption)) (by first | assumption | exact hS.cell0 (by assumption)) (by first | assumption | exact hS.cell0 (by assumption))) rfl ?_
        refine lst_alloc (cs := [_, _, _, _]) hS rfl rfl rfl ?_
        clear hS
        intro b1 wx1 hS
        refine lst_run (run_assign (by conv => lhs; whnf)) rfl ?_
        refine lst_storeN hS rfl (by conv => lhs; whnf) rfl rfl (by first | exact .head | exact .tail .head | exact .tail (.tail .head) | exact .tail (.tail (.tail .head)) | exact .tail (.tail (.tail (.tail .head))) | exact .tail (.tail (.tail (.tail (.tail .head))))) (by repeat constructor) (by first | exact .head | exact .tail .head | exact .tail (.tail .head) | exact .tail (.tail (.tail .head)) | exact .tail (.tail (.tail (.tail .head))) | exact .tail (.tail (.tail (.tail (.tail .head))))) ?_
        clear hS
        intro wx2 hS
        refine lst_done ?_
        refine goes_seq ?_
        refine goes_seq ?_
        refine goes_region ?_
        refine lst_run (run_move (by conv => lhs; whnf)) rfl ?_
        first
          | refine lst_run (run_gtr_yes rfl rfl (by omega)) rfl ?_
          | refine lst_run (run_gtr_no rfl rfl (by omega)) rfl ?_
          | refine lst_run (rfl) rfl ?_
        refine lst_done ?_
        refine goes_false rfl ?_
        refine goes_skip ?_
        refine goes_region ?_
        refine lst_run (run_move (by conv => lhs; whnf)) rfl ?_
        first
          | refine lst_run (run_loadN_own (k := 4) hS rfl rfl rfl (by first | exact .head | exact .tail .head | exact .tail (.tail .head) | exact .tail (.tail (.tail .head)) | exact .tail (.tail (.tail (.tail .head))) | exact .tail (.tail (.tail (.tail (.tail .head))))) (by repeat constructor)) rfl ?_
          | refine lst_run (run_load4 rfl rfl rfl (by first | assumption | exact hS.cell0 (by assumption)) (by first | assumption | exact hS.cell0 (by assumption)) (by first | assumption | exact hS.cell0 (by assumption)) (by first | assumption | exact hS.cell0 (by assumption))) rfl ?_
        refine lst_enter (run_call (by kernel_rfl) (args_1 (by conv => lhs; whnf))) rfl ?_
        refine Calls.mono (hpr _ hS.ext) ?_
        rintro _ w5 ⟨rfl, hb5⟩
        refine ⟨_, rfl, ?_⟩
        replace hS := hS.grow hb5
        refine lst_run (run_concat rfl rfl (by first | omega | (simp; omega))) rfl ?_
        refine lst_run (run_assign (by conv => lhs; whnf)) rfl ?_
        refine lst_done ?_
        refine goes_inBlock ?_
        refine goes_region ?_
        refine lst_run (run_add rfl rfl (by omega) (by omega)) rfl ?_
        refine lst_run (run_move (by conv => lhs; whnf)) rfl ?_
        refine lst_done ?_
        refine ih (r) _ _ _ _ ?_ ?_ (by conv => lhs; whnf) (by conv => lhs; whnf) (by kernel_rfl)
        · simp [Ts.length]
        · exact ⟨hS.drop, D.app (.cons k n ⟨s.toArray⟩ a .nil), by rw [hDc]; exact hD, by rw [hDl]; simp, by rw [hDo]; simp [hD0, sv]⟩
      · refine goes_seq ?_
        refine goes_region ?_
        first
          | refine lst_run (run_lss_yes rfl rfl (by omega)) rfl ?_
          | refine lst_run (run_lss_no rfl rfl (by omega)) rfl ?_
          | refine lst_run (rfl) rfl ?_
        refine lst_done ?_
        refine goes_seq ?_
        refine goes_true rfl ?_
        refine goes_skip ?_
        refine goes_seq ?_
        refine goes_block ?_
        refine goes_seq ?_
        refine goes_region ?_
        refine lst_run (run_move (by conv => lhs; whnf)) rfl ?_
        refine lst_run (run_indexAddr (sz := 4) rfl rfl rfl rfl (by omega) (by omega)) rfl ?_
        first
          | refine lst_run (run_loadN_own (k := 4) hS rfl rfl rfl (by first | exact .head | exact .tail .head | exact .tail (.tail .head) | exact .tail (.tail (.tail .head)) | exact .tail (.tail (.tail (.tail .head))) | exact .tail (.tail (.tail (.tail (.tail .head))))) (by repeat constructor)) rfl ?_
          | refine lst_run (run_load4 rfl rfl rfl (by first | assumption | exact hS.cell0 (by assumption)) (by first | assumption | exact hS.cell0 (by assumption)) (by first | assumption | exact hS.cell0 (by assumption)) (by first | assumption | exact hS.cell0 (by assumption))) rfl ?_
        refine lst_alloc (cs := [_, _, _, _]) hS rfl rfl rfl ?_
        clear hS
        intro b1 wx1 hS
        refine lst_run (run_assign (by conv => lhs; whnf)) rfl ?_
        refine lst_storeN hS rfl (by conv => lhs; whnf) rfl rfl (by first | exact .head | exact .tail .head | exact .tail (.tail .head) | exact .tail (.tail (.tail .head)) | exact .tail (.tail (.tail (.tail .head))) | exact .tail (.tail (.tail (.tail (.tail .head))))) (by repeat constructor) (by first | exact .head | exact .tail .head | exact .tail (.tail .head) | exact .tail (.tail (.tail .head)) | exact .tail (.tail (.tail (.tail .head))) | exact .tail (.tail (.tail (.tail (.tail .head))))) ?_
        clear hS
        intro wx2 hS
        refine lst_done ?_
        refine goes_seq ?_
        refine goes_seq ?_
        refine goes_region ?_
        refine lst_run (run_move (by conv => lhs; whnf)) rfl ?_
        first
          | refine lst_run (run_gtr_yes rfl rfl (by omega)) rfl ?_
          | refine lst_run (run_gtr_no rfl rfl (by omega)) rfl ?_
          | refine lst_run (rfl) rfl ?_
        refine lst_done ?_
        refine goes_true rfl ?_
        refine goes_region ?_
        refine lst_run (run_move (by conv => lhs; whnf)) rfl ?_
        refine lst_run (run_concat rfl rfl (by first | omega | (simp; omega))) rfl ?_
        refine lst_run (run_assign (by conv => lhs; whnf)) rfl ?_
        refine lst_done ?_
        refine goes_region ?_
        refine lst_run (run_move (by conv => lhs; whnf)) rfl ?_
        first
          | refine lst_run (run_loadN_own (k := 4) hS rfl rfl rfl (by first | exact .head | exact .tail .head | exact .tail (.tail .head) | exact .tail (.tail (.tail .head)) | exact .tail (.tail (.tail (.tail .head))) | exact .tail (.tail (.tail (.tail (.tail .head))))) (by repeat constructor)) rfl ?_
          | refine lst_run (run_load4 rfl rfl rfl (by first | assumption | exact hS.cell0 (by assumption)) (by first | assumption | exact hS.cell0 (by assumption)) (by first | assumption | exact hS.cell0 (by assumption)) (by first | assumption | exact hS.cell0 (by assumption))) rfl ?_
        refine lst_enter (run_call (by kernel_rfl) (args_1 (by conv => lhs; whnf))) rfl ?_
        refine Calls.mono (hpr _ hS.ext) ?_
        rintro _ w5 ⟨rfl, hb5⟩
        refine ⟨_, rfl, ?_⟩
        replace hS := hS.grow hb5
        refine lst_run (run_concat rfl rfl (by first | omega | (simp; omega))) rfl ?_
        refine lst_run (run_assign (by conv => lhs; whnf)) rfl ?_
        refine lst_done ?_
        refine goes_inBlock ?_
        refine goes_region ?_
        refine lst_run (run_add rfl rfl (by omega) (by omega)) rfl ?_
        refine lst_run (run_move (by conv => lhs; whnf)) rfl ?_
        refine lst_done ?_
        refine ih (r) _ _ _ _ ?_ ?_ (by conv => lhs; whnf) (by conv => lhs; whnf) (by kernel_rfl)
        · simp [Ts.length]
        · exact ⟨hS.drop, D.app (.cons k n ⟨s.toArray⟩ a .nil), by rw [hDc]; exact hD, by rw [hDl]; simp, by rw [hDo, if_pos (by omega)]; simp [sv]⟩
    | nil =>
      simp only [Ts.length] at hlD
      rw [Ts.app_nil] at hD
      subst hD
      refine goes_seq ?_
      refine goes_region ?_
      first
        | refine lst_run (run_lss_yes rfl rfl (by omega)) rfl ?_
        | refine lst_run (run_lss_no rfl rfl (by omega)) rfl ?_
        | refine lst_run (rfl) rfl ?_
      refine lst_done ?_
      refine goes_seq ?_
      refine goes_false rfl ?_
      refine goes_exit rfl ?_
      refine goes_seq ?_
      refine goes_region ?_
      refine lst_run (run_move (by conv => lhs; whnf)) rfl ?_
      refine lst_run (run_concat rfl rfl (by first | omega | (simp; omega))) rfl ?_
      have hqb := query_b ho (by omega) hq hG hS
      rw [hci] at hqb
      refine lst_enter (run_call (by kernel_rfl) (args_1 (by conv => lhs; whnf))) rfl ?_
      refine Calls.mono (hqb) ?_
      rintro _ w5 ⟨v5, rfl, hS'⟩
      refine ⟨_, rfl, ?_⟩
      replace hS := hS'
      clear hS'
      obtain ⟨A5, c5, rfl, f5⟩ := (hS.fact (.head _)).form
      have f0 := hv.below hS.ext.below
      have hsame : Calls Tryd.prog 31 #[.slice A T.length cp, .slice A5 T.length c5] w5 fun e w'' => e = .returned (.bool true) ∧ Below w5.heap.size w5 w'' := by
        have := K.sameTerms_any T T _ _ w5 f0 f5 hn hn
        rw [(Ts.same_iff _ _).2 rfl] at this
        exact this
      refine lst_run (run_move (by conv => lhs; whnf)) rfl ?_
      refine lst_run (run_extract rfl rfl) rfl ?_
      refine lst_run (run_extract rfl rfl) rfl ?_
      refine lst_run (run_extract rfl rfl) rfl ?_
      refine lst_run (run_assign (by conv => lhs; whnf)) rfl ?_
      refine lst_run (run_assign (by conv => lhs; whnf)) rfl ?_
      refine lst_run (run_assign (by conv => lhs; whnf)) rfl ?_
      refine lst_done ?_
      refine goes_seq ?_
      refine goes_region ?_
      refine lst_run (run_move (by conv => lhs; whnf)) rfl ?_
      first
        | refine lst_run (run_eql_one_int rfl rfl) rfl ?_
        | refine lst_run (run_eql_no rfl rfl (by first | assumption | omega)) rfl ?_
        | refine lst_run (run_eql_yes rfl rfl (by omega)) rfl ?_
        | refine lst_run (rfl) rfl ?_
      refine lst_run (run_move (by conv => lhs; whnf)) rfl ?_
      refine lst_guard rfl rfl ?_
      refine lst_run (run_move (by conv => lhs; whnf)) rfl ?_
      refine lst_guard rfl rfl ?_
      refine lst_run (run_move (by conv => lhs; whnf)) rfl ?_
      refine lst_guard rfl rfl ?_
      first
        | refine lst_run (run_eql_one_int rfl rfl) rfl ?_
        | refine lst_run (run_eql_no rfl rfl (by first | assumption | omega)) rfl ?_
        | refine lst_run (run_eql_yes rfl rfl (by omega)) rfl ?_
        | refine lst_run (rfl) rfl ?_
      first
        | refine lst_run (run_pick_t rfl (by conv => lhs; whnf)) rfl ?_
        | refine lst_run (run_pick_f rfl (by conv => lhs; whnf)) rfl ?_
      refine lst_run (run_move (by conv => lhs; whnf)) rfl ?_
      refine lst_guard rfl rfl ?_
      refine lst_run (run_move (by conv => lhs; whnf)) rfl ?_
      refine lst_guard rfl rfl ?_
      refine lst_run (run_move (by conv => lhs; whnf)) rfl ?_
      refine lst_guard rfl rfl ?_
      refine lst_enter (run_call (by kernel_rfl) (args_2 (by conv => lhs; whnf) (by conv => lhs; whnf))) rfl ?_
      refine Calls.mono (hsame) ?_
      rintro _ w6 ⟨rfl, hb6⟩
      refine ⟨_, rfl, ?_⟩
      replace hS := hS.grow hb6
      first
        | refine lst_run (run_pick_t rfl (by conv => lhs; whnf)) rfl ?_
        | refine lst_run (run_pick_f rfl (by conv => lhs; whnf)) rfl ?_
      refine lst_run (run_move (by conv => lhs; whnf)) rfl ?_
      refine lst_guard rfl rfl ?_
      have hG6 : ∀ w', Ext [] w6 w' → GVars w' := fun w' h => hG w' (hS.ext.trans h)
      refine lst_enter (run_call (by kernel_rfl) args_nil) rfl ?_
      refine Calls.mono (reads_any _ hG6) ?_
      rintro _ w7 ⟨rfl, hb7⟩
      refine ⟨_, rfl, ?_⟩
      replace hS := hS.grow hb7
      first
        | refine lst_run (run_pick_t rfl (by conv => lhs; whnf)) rfl ?_
        | refine lst_run (run_pick_f rfl (by conv => lhs; whnf)) rfl ?_
      refine lst_run (run_assign (by conv => lhs; whnf)) rfl ?_
      refine lst_done ?_
      refine goes_ret1 Tryd.func4 rfl (by conv => lhs; whnf) ?_
      exact ⟨rfl, (hx1.trans hS.ext).below⟩
end Go.Proofs.YtdiophafmokfiaaDoor
