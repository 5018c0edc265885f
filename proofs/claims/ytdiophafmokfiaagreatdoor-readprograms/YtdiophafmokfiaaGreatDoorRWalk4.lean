/-
  arguments and term, walked; terms of every depth.
-/
import Derived.Test.YtdiophafmokfiaaGreatDoorRWalk3
namespace Go.Proofs.YtdiophafmokfiaaGreatDoor
open Go.RowKit
set_option linter.unusedVariables false
set_option maxRecDepth 100000
set_option maxHeartbeats 1000000

theorem arguments_any (num : Str → Option Int) (G : World → Prop) (L1 : Lib1) (L2 : Lib2) (d : Nat) (ht : TermsSaid num G d) (s : RS) (V : Value) (VH : List (Nat × Obj)) (M : List Nat) (w0 w : World) (H : List (Nat × Obj)) (F : List (World → Prop)) (b : Nat) (hG : ∀ w', Ext M w0 w' → G w')
    (hl : s.left ≤ 1048576) (hl2 : s.vars.length + s.left ≤ 1048576) (hV : Vars s.vars V VH) (hS : St M w0 ((b, rdr s V) :: (VH ++ H)) F w) :
    Calls Tryz.prog 55 #[ptr b, .int .i64 (d : Nat)] w fun e w' => ∃ v V' VH', e = .returned v ∧
      Vars ((termsM (termM num d) (s.take [40])).2.take [41]).vars V' VH' ∧ St M w0 ((b, rdr ((termsM (termM num d) (s.take [40])).2.take [41]) V') :: (VH' ++ H)) ((fun w => Sl w (fun _ => True) v (tsOf (termsM (termM num d) (s.take [40])).1)) :: F) w' := by
  have hrest : s.rest.length ≤ 1048576 := by unfold RS.left at hl; omega
  have h1 := take_left s [40]
  have h2 := take_vars s [40]
  have h3 := terms_less (term_less num d) (s.take [40])
  obtain ⟨A, c, rfl⟩ := hV.form
  refine goes_enter2 Tryz.func55 rfl Tryz.ntmps55 rfl ?_
  refine goes_seq ?_
  refine goes_region ?_
  refine lst_run (run_assign (by conv => lhs; whnf)) rfl ?_
  refine lst_done ?_
  refine goes_seq ?_
  refine goes_region ?_
  refine lst_run (run_move (by conv => lhs; whnf)) rfl ?_
  refine lst_enter (run_call (by kernel_rfl) (args_2 (by conv => lhs; whnf) (by conv => lhs; whnf))) rfl ?_
  refine Calls.mono (take_any L1 L2 s [40] _ hrest hS) ?_
  rintro _ w1 ⟨rfl, hS'⟩
  refine ⟨_, rfl, ?_⟩
  replace hS := hS'
  clear hS'
  refine lst_done ?_
  refine goes_seq ?_
  refine goes_region ?_
  refine lst_run (run_move (by conv => lhs; whnf)) rfl ?_
  refine lst_run (run_move (by conv => lhs; whnf)) rfl ?_
  refine lst_enter (run_call (by kernel_rfl) (args_2 (by conv => lhs; whnf) (by conv => lhs; whnf))) rfl ?_
  refine Calls.mono (ht (s.take [40]) _ VH M w0 _ H F b hG (by omega) (by rw [h2]; omega) (by rw [h2]; exact hV) hS) ?_
  rintro _ w2 ⟨v, V1, VH1, rfl, hV1, hS'⟩
  refine ⟨_, rfl, ?_⟩
  replace hS := hS'
  clear hS'
  obtain ⟨A1, c1, rfl⟩ := hV1.form
  obtain ⟨A2, c2, rfl, _⟩ := (hS.fact (.head _)).form
  refine lst_run (run_assign (by conv => lhs; whnf)) rfl ?_
  refine lst_done ?_
  refine goes_seq ?_
  refine goes_region ?_
  refine lst_run (run_move (by conv => lhs; whnf)) rfl ?_
  have hrest2 : (termsM (termM num d) (s.take [40])).2.rest.length ≤ 1048576 := by
    have := h3.1; unfold RS.left at *; omega
  refine lst_enter (run_call (by kernel_rfl) (args_2 (by conv => lhs; whnf) (by conv => lhs; whnf))) rfl ?_
  refine Calls.mono (take_any L1 L2 _ [41] _ hrest2 hS) ?_
  rintro _ w3 ⟨rfl, hS'⟩
  refine ⟨_, rfl, ?_⟩
  replace hS := hS'
  clear hS'
  refine lst_done ?_
  refine goes_seq ?_
  refine goes_region ?_
  refine lst_run (run_move (by conv => lhs; whnf)) rfl ?_
  refine lst_run (run_assign (by conv => lhs; whnf)) rfl ?_
  refine lst_done ?_
  refine goes_ret1 Tryz.func55 rfl (by conv => lhs; whnf) ?_
  exact ⟨_, _, VH1, rfl, by rw [take_vars]; exact hV1, hS⟩

theorem termM_cons (num : Str → Option Int) (d : Nat) {s : RS} {c : UInt8} {r : Str} (h : s.token = c :: r) : termM num (d + 1) s =
    if upB c then (⟨0, (s.adv.var (c :: r)).1, [], .nil⟩, (s.adv.var (c :: r)).2)
    else if lowB c && (s.adv.token == [40]) then (⟨3, 0, c :: r, tsOf (termsM (termM num d) (s.adv.take [40])).1⟩, (termsM (termM num d) (s.adv.take [40])).2.take [41])
    else if lowB c || (c == 33) then (⟨1, 0, c :: r, .nil⟩, s.adv)
    else if digB c || (c == 45) then (⟨2, (s.adv.number num (c :: r)).1, [], .nil⟩, (s.adv.number num (c :: r)).2)
    else (Nd.zero, s.adv.fail 1) := by
  rw [termM, if_neg (by rw [h]; simp)]
  simp only [h, headC]
theorem term_any (num : Str → Option Int) (G : World → Prop) (L1 : Lib1) (L2 : Lib2) (L3 : Lib3 num G) (d : Nat) (hd : d ≤ 100) (ht : ∀ e, d = e + 1 → TermsSaid num G e) : TermSaid num G d := by
  intro s V VH M w0 w H F b hG hl hl2 hV hS
  obtain ⟨A, vc, rfl⟩ := hV.form
  have hnil : ∀ w : World, Sl w (fun _ => True) (.slice none 0 0) .nil := fun w => ⟨none, 0, rfl, Nat.le_refl _, fun h => by cases h⟩
  cases d with
  | zero =>
    refine goes_enter2 Tryz.func35 rfl Tryz.ntmps35 rfl ?_
    refine goes_seq ?_
    refine goes_region ?_
    refine lst_alloc (cs := [_, _, _, _]) hS rfl rfl rfl ?_
    clear hS
    intro b1 wx1 hS
    refine lst_done ?_
    refine goes_seq ?_
    refine goes_seq ?_
    refine goes_region ?_
    refine lst_run (run_move (by conv => lhs; whnf)) rfl ?_
    first
      | refine lst_run (run_eql_one_int rfl rfl) rfl ?_
      | refine lst_run (run_eql_no rfl rfl (by first | assumption | omega)) rfl ?_
      | refine lst_run (run_eql_yes rfl rfl (by omega)) rfl ?_
      | refine lst_run (rfl) rfl ?_
    refine lst_run (run_move (by conv => lhs; whnf)) rfl ?_
    refine lst_pass rfl rfl rfl ?_
    refine lst_pass rfl rfl rfl ?_
    refine lst_pass rfl rfl rfl ?_
    refine lst_pass rfl rfl rfl ?_
    refine lst_pass rfl rfl rfl ?_
    first
      | refine lst_run (run_pick_t rfl (by conv => lhs; whnf)) rfl ?_
      | refine lst_run (run_pick_f rfl (by conv => lhs; whnf)) rfl ?_
    refine lst_done ?_
    refine goes_true rfl ?_
    refine goes_seq ?_
    refine goes_region ?_
    refine lst_run (run_move (by conv => lhs; whnf)) rfl ?_
    replace hS := hS.swap
    refine lst_enter (run_call (by kernel_rfl) (args_2 (by conv => lhs; whnf) (by conv => lhs; whnf))) rfl ?_
    refine Calls.mono (fail_any s 1 _ hS) ?_
    rintro _ w1 ⟨rfl, hS'⟩
    refine ⟨_, rfl, ?_⟩
    replace hS := hS'
    clear hS'
    refine lst_done ?_
    refine goes_seq ?_
    refine goes_region ?_
    refine lst_run (run_build (cells := [_, _, _, _]) .nil rfl) rfl ?_
    refine lst_storeN hS rfl (by conv => lhs; whnf) rfl rfl (by first | exact .head | exact .tail .head | exact .tail (.tail .head) | exact .tail (.tail (.tail .head)) | exact .tail (.tail (.tail (.tail .head))) | exact .tail (.tail (.tail (.tail (.tail .head))))) (by repeat constructor) (by first | exact .head | exact .tail .head | exact .tail (.tail .head) | exact .tail (.tail (.tail .head)) | exact .tail (.tail (.tail (.tail .head))) | exact .tail (.tail (.tail (.tail (.tail .head))))) ?_
    clear hS
    intro wx2 hS
    refine lst_done ?_
    refine goes_retC (sz := 4) hS Tryz.func35 rfl rfl rfl rfl (by first | exact .head | exact .tail .head | exact .tail (.tail .head) | exact .tail (.tail (.tail .head)) | exact .tail (.tail (.tail (.tail .head))) | exact .tail (.tail (.tail (.tail (.tail .head))))) (by repeat constructor) ?_
    exact ⟨.slice none 0 0, _, VH, rfl, hV, hS.swap.drop.learn fun w _ => hnil w⟩
  | succ d =>
    obtain ⟨tok, rst, vars, er⟩ := s
    cases tok with
    | nil =>
      refine goes_enter2 Tryz.func35 rfl Tryz.ntmps35 rfl ?_
      refine goes_seq ?_
      refine goes_region ?_
      refine lst_alloc (cs := [_, _, _, _]) hS rfl rfl rfl ?_
      clear hS
      intro b1 wx1 hS
      refine lst_done ?_
      refine goes_seq ?_
      refine goes_seq ?_
      refine goes_region ?_
      refine lst_run (run_move (by conv => lhs; whnf)) rfl ?_
      first
        | refine lst_run (run_eql_one_int rfl rfl) rfl ?_
        | refine lst_run (run_eql_no rfl rfl (by first | assumption | omega)) rfl ?_
        | refine lst_run (run_eql_yes rfl rfl (by omega)) rfl ?_
        | refine lst_run (rfl) rfl ?_
      refine lst_run (run_move (by conv => lhs; whnf)) rfl ?_
      refine lst_guard rfl rfl ?_
      refine lst_run (run_move (by conv => lhs; whnf)) rfl ?_
      refine lst_guard rfl rfl ?_
      refine lst_run (run_nilCheck rfl) rfl ?_
      refine lst_guard rfl rfl ?_
      refine lst_run (run_fieldAddr (off := 0) rfl rfl) rfl ?_
      refine lst_guard rfl rfl ?_
      first
        | refine lst_run (run_load1_own hS rfl rfl (by first | exact .head | exact .tail .head | exact .tail (.tail .head) | exact .tail (.tail (.tail .head)) | exact .tail (.tail (.tail (.tail .head))) | exact .tail (.tail (.tail (.tail (.tail .head))))) (by repeat constructor)) rfl ?_
        | refine lst_run (run_load1 rfl rfl (by first | assumption | exact hS.cell0 (by assumption) | exact lv_next hS | exact lv_list hS)) rfl ?_
      refine lst_guard rfl rfl ?_
      first
        | refine lst_run (run_eql_str rfl rfl) rfl ?_
        | refine lst_run (rfl) rfl ?_
      first
        | refine lst_run (run_pick_t rfl (by conv => lhs; whnf)) rfl ?_
        | refine lst_run (run_pick_f rfl (by conv => lhs; whnf)) rfl ?_
      refine lst_done ?_
      refine goes_true rfl ?_
      refine goes_seq ?_
      refine goes_region ?_
      refine lst_run (run_move (by conv => lhs; whnf)) rfl ?_
      replace hS := hS.swap
      refine lst_enter (run_call (by kernel_rfl) (args_2 (by conv => lhs; whnf) (by conv => lhs; whnf))) rfl ?_
      refine Calls.mono (fail_any ⟨[], rst, vars, er⟩ 1 _ hS) ?_
      rintro _ w1 ⟨rfl, hS'⟩
      refine ⟨_, rfl, ?_⟩
      replace hS := hS'
      clear hS'
      refine lst_done ?_
      refine goes_seq ?_
      refine goes_region ?_
      refine lst_run (run_build (cells := [_, _, _, _]) .nil rfl) rfl ?_
      refine lst_storeN hS rfl (by conv => lhs; whnf) rfl rfl (by first | exact .head | exact .tail .head | exact .tail (.tail .head) | exact .tail (.tail (.tail .head)) | exact .tail (.tail (.tail (.tail .head))) | exact .tail (.tail (.tail (.tail (.tail .head))))) (by repeat constructor) (by first | exact .head | exact .tail .head | exact .tail (.tail .head) | exact .tail (.tail (.tail .head)) | exact .tail (.tail (.tail (.tail .head))) | exact .tail (.tail (.tail (.tail (.tail .head))))) ?_
      clear hS
      intro wx2 hS
      refine lst_done ?_
      refine goes_retC (sz := 4) hS Tryz.func35 rfl rfl rfl rfl (by first | exact .head | exact .tail .head | exact .tail (.tail .head) | exact .tail (.tail (.tail .head)) | exact .tail (.tail (.tail (.tail .head))) | exact .tail (.tail (.tail (.tail (.tail .head))))) (by repeat constructor) ?_
      exact ⟨.slice none 0 0, _, VH, rfl, hV, hS.swap.drop.learn fun w _ => hnil w⟩
    | cons c r =>
      generalize hs : (⟨c :: r, rst, vars, er⟩ : RS) = s at *
      have htk : s.token = c :: r := by rw [← hs]
      have hhd : headC s.token = c := by rw [htk]; rfl
      have hne : ¬ s.token = [] := by rw [htk]; simp
      have hlt := adv_lt s hne
      have hrest : s.rest.length ≤ 1048576 := by unfold RS.left at hl; omega
      have hv := adv_vars s
      have hvl := var_left s.adv (c :: r)
      have hV1 : Vars s.adv.vars (.slice A s.vars.length vc) VH := by rw [hv]; exact hV
      subst hs
      refine goes_enter2 Tryz.func35 rfl Tryz.ntmps35 rfl ?_
      refine goes_seq ?_
      refine goes_region ?_
      refine lst_alloc (cs := [_, _, _, _]) hS rfl rfl rfl ?_
      clear hS
      intro b1 wx1 hS
      refine lst_done ?_
      refine goes_seq ?_
      refine goes_seq ?_
      refine goes_region ?_
      refine lst_run (run_move (by conv => lhs; whnf)) rfl ?_
      first
        | refine lst_run (run_eql_one_int rfl rfl) rfl ?_
        | refine lst_run (run_eql_no rfl rfl (by first | assumption | omega)) rfl ?_
        | refine lst_run (run_eql_yes rfl rfl (by omega)) rfl ?_
        | refine lst_run (rfl) rfl ?_
      refine lst_run (run_move (by conv => lhs; whnf)) rfl ?_
      refine lst_guard rfl rfl ?_
      refine lst_run (run_move (by conv => lhs; whnf)) rfl ?_
      refine lst_guard rfl rfl ?_
      refine lst_run (run_nilCheck rfl) rfl ?_
      refine lst_guard rfl rfl ?_
      refine lst_run (run_fieldAddr (off := 0) rfl rfl) rfl ?_
      refine lst_guard rfl rfl ?_
      first
        | refine lst_run (run_load1_own hS rfl rfl (by first | exact .head | exact .tail .head | exact .tail (.tail .head) | exact .tail (.tail (.tail .head)) | exact .tail (.tail (.tail (.tail .head))) | exact .tail (.tail (.tail (.tail (.tail .head))))) (by repeat constructor)) rfl ?_
        | refine lst_run (run_load1 rfl rfl (by first | assumption | exact hS.cell0 (by assumption) | exact lv_next hS | exact lv_list hS)) rfl ?_
      refine lst_guard rfl rfl ?_
      first
        | refine lst_run (run_eql_str rfl rfl) rfl ?_
        | refine lst_run (rfl) rfl ?_
      first
        | refine lst_run (run_pick_t rfl (by conv => lhs; whnf)) rfl ?_
        | refine lst_run (run_pick_f rfl (by conv => lhs; whnf)) rfl ?_
      refine lst_done ?_
      refine goes_false rfl ?_
      refine goes_skip ?_
      refine goes_seq ?_
      refine goes_region ?_
      refine lst_run (run_move (by conv => lhs; whnf)) rfl ?_
      refine lst_run (run_nilCheck rfl) rfl ?_
      refine lst_run (run_fieldAddr (off := 0) rfl rfl) rfl ?_
      first
        | refine lst_run (run_load1_own hS rfl rfl (by first | exact .head | exact .tail .head | exact .tail (.tail .head) | exact .tail (.tail (.tail .head)) | exact .tail (.tail (.tail (.tail .head))) | exact .tail (.tail (.tail (.tail (.tail .head))))) (by repeat constructor)) rfl ?_
        | refine lst_run (run_load1 rfl rfl (by first | assumption | exact hS.cell0 (by assumption) | exact lv_next hS | exact lv_list hS)) rfl ?_
      refine lst_run (run_assign (by conv => lhs; whnf)) rfl ?_
      refine lst_done ?_
      refine goes_seq ?_
      refine goes_region ?_
      refine lst_run (run_move (by conv => lhs; whnf)) rfl ?_
      replace hS := hS.sink1
      refine lst_enter (run_call (by kernel_rfl) (args_1 (by conv => lhs; whnf))) rfl ?_
      refine Calls.mono (adv_any L1 L2 ⟨c :: r, rst, vars, er⟩ _ hrest hS) ?_
      rintro _ w1 ⟨rfl, hS'⟩
      refine ⟨_, rfl, ?_⟩
      replace hS := hS'
      clear hS'
      refine lst_done ?_
      refine goes_seq ?_
      refine goes_seq ?_
      refine goes_region ?_
      refine lst_run (run_move (by conv => lhs; whnf)) rfl ?_
      refine lst_run (run_index_str rfl rfl rfl (by omega) (by first | rfl | assumption)) rfl ?_
      refine lst_run (run_assign (by conv => lhs; whnf)) rfl ?_
      refine lst_done ?_
      refine goes_block ?_
      refine goes_seq ?_
      refine goes_region ?_
      refine lst_run (run_move (by conv => lhs; whnf)) rfl ?_
      refine lst_enter (run_call (by kernel_rfl) (args_1 (by conv => lhs; whnf))) rfl ?_
      refine Calls.mono (isUpper_any c _) ?_
      rintro _ w2 ⟨rfl, rfl⟩
      refine ⟨_, rfl, ?_⟩
      refine lst_run (run_assign (by conv => lhs; whnf)) rfl ?_
      refine lst_done ?_
      generalize hs : (⟨c :: r, rst, vars, er⟩ : RS) = s at *
      rw [htk]
      cases hu : upB c with
      | true =>
        have e : termM num (d + 1) s = (⟨0, (s.adv.var (c :: r)).1, [], .nil⟩, (s.adv.var (c :: r)).2) := by
          rw [termM_cons num d htk]; simp [*]
        refine goes_true rfl ?_
        refine goes_seq ?_
        refine goes_region ?_
        refine lst_run (run_move (by conv => lhs; whnf)) rfl ?_
        refine lst_run (run_move (by conv => lhs; whnf)) rfl ?_
        refine lst_enter (run_call (by kernel_rfl) (args_2 (by conv => lhs; whnf) (by conv => lhs; whnf))) rfl ?_
        refine Calls.mono (variable_any s.adv (c :: r) _ VH _ hV1 (by rw [hv]; omega) hS) ?_
        rintro _ w3 ⟨V', VH', rfl, hV', hS'⟩
        refine ⟨_, rfl, ?_⟩
        replace hS := hS'.raise1
        clear hS'
        refine lst_run (run_build (cells := [_, _, _, _]) (.cons (by conv => lhs; whnf) (.cons (by conv => lhs; whnf) .nil)) rfl) rfl ?_
        refine lst_storeN hS rfl (by conv => lhs; whnf) rfl rfl (by first | exact .head | exact .tail .head | exact .tail (.tail .head) | exact .tail (.tail (.tail .head)) | exact .tail (.tail (.tail (.tail .head))) | exact .tail (.tail (.tail (.tail (.tail .head))))) (by repeat constructor) (by first | exact .head | exact .tail .head | exact .tail (.tail .head) | exact .tail (.tail (.tail .head)) | exact .tail (.tail (.tail (.tail .head))) | exact .tail (.tail (.tail (.tail (.tail .head))))) ?_
        clear hS
        intro wx2 hS
        refine lst_done ?_
        refine goes_retC (sz := 4) hS Tryz.func35 rfl rfl rfl rfl (by first | exact .head | exact .tail .head | exact .tail (.tail .head) | exact .tail (.tail (.tail .head)) | exact .tail (.tail (.tail (.tail .head))) | exact .tail (.tail (.tail (.tail (.tail .head))))) (by repeat constructor) ?_
        rw [e]
        exact ⟨.slice none 0 0, V', VH', rfl, hV', hS.drop.learn fun w _ => hnil w⟩
      | false =>
        refine goes_false rfl ?_
        refine goes_seq ?_
        refine goes_region ?_
        refine lst_run (run_move (by conv => lhs; whnf)) rfl ?_
        refine lst_enter (run_call (by kernel_rfl) (args_1 (by conv => lhs; whnf))) rfl ?_
        refine Calls.mono (isLower_any c _) ?_
        rintro _ w3 ⟨rfl, rfl⟩
        refine ⟨_, rfl, ?_⟩
        refine lst_run (run_move (by conv => lhs; whnf)) rfl ?_
        cases hlo : lowB c with
        | true =>
          refine lst_guard rfl rfl ?_
          refine lst_run (run_move (by conv => lhs; whnf)) rfl ?_
          refine lst_guard rfl rfl ?_
          refine lst_run (run_nilCheck rfl) rfl ?_
          refine lst_guard rfl rfl ?_
          refine lst_run (run_fieldAddr (off := 0) rfl rfl) rfl ?_
          refine lst_guard rfl rfl ?_
          first
            | refine lst_run (run_load1_own hS rfl rfl (by first | exact .head | exact .tail .head | exact .tail (.tail .head) | exact .tail (.tail (.tail .head)) | exact .tail (.tail (.tail (.tail .head))) | exact .tail (.tail (.tail (.tail (.tail .head))))) (by repeat constructor)) rfl ?_
            | refine lst_run (run_load1 rfl rfl (by first | assumption | exact hS.cell0 (by assumption) | exact lv_next hS | exact lv_list hS)) rfl ?_
          refine lst_guard rfl rfl ?_
          first
            | refine lst_run (run_eql_str rfl rfl) rfl ?_
            | refine lst_run (rfl) rfl ?_
          first
            | refine lst_run (run_pick_t rfl (by conv => lhs; whnf)) rfl ?_
            | refine lst_run (run_pick_f rfl (by conv => lhs; whnf)) rfl ?_
          refine lst_run (run_assign (by conv => lhs; whnf)) rfl ?_
          refine lst_done ?_
          refine goes_if rfl (fun h => ?_) (fun h => ?_)
          · have h' : (s.adv.token == [40]) = true := h
            have e : termM num (d + 1) s = (⟨3, 0, c :: r, tsOf (termsM (termM num d) (s.adv.take [40])).1⟩, (termsM (termM num d) (s.adv.take [40])).2.take [41]) := by
              rw [termM_cons num d htk]; simp [*]
            refine goes_seq ?_
            refine goes_region ?_
            refine lst_run (run_move (by conv => lhs; whnf)) rfl ?_
            refine lst_run (run_move (by conv => lhs; whnf)) rfl ?_
            refine lst_run (run_move (by conv => lhs; whnf)) rfl ?_
            first
              | refine lst_run (run_sub rfl rfl (by omega) (by omega)) rfl ?_
              | refine lst_run (run_sub_u8 rfl rfl) rfl ?_
            refine lst_enter (run_call (by kernel_rfl) (args_2 (by conv => lhs; whnf) (by conv => lhs; whnf))) rfl ?_
            have ha := arguments_any num G L1 L2 d (ht d rfl) s.adv _ VH M w0 _ _ F b hG (by omega) (by rw [hv]; omega) hV1 hS
            rw [show ((d : Nat) : Int) = ((d + 1 : Nat) : Int) - 1 by omega] at ha
            refine Calls.mono ha ?_
            rintro _ w4 ⟨v, V', VH', rfl, hV', hS'⟩
            refine ⟨_, rfl, ?_⟩
            replace hS := hS'.raise1
            clear hS'
            obtain ⟨A2, c2, rfl, _⟩ := (hS.fact (.head _)).form
            refine lst_run (run_build (cells := [_, _, _, _]) (.cons (by conv => lhs; whnf) (.cons (by conv => lhs; whnf) (.cons (by conv => lhs; whnf) .nil))) rfl) rfl ?_
            refine lst_storeN hS rfl (by conv => lhs; whnf) rfl rfl (by first | exact .head | exact .tail .head | exact .tail (.tail .head) | exact .tail (.tail (.tail .head)) | exact .tail (.tail (.tail (.tail .head))) | exact .tail (.tail (.tail (.tail (.tail .head))))) (by repeat constructor) (by first | exact .head | exact .tail .head | exact .tail (.tail .head) | exact .tail (.tail (.tail .head)) | exact .tail (.tail (.tail (.tail .head))) | exact .tail (.tail (.tail (.tail (.tail .head))))) ?_
            clear hS
            intro wx2 hS
            refine lst_done ?_
            refine goes_retC (sz := 4) hS Tryz.func35 rfl rfl rfl rfl (by first | exact .head | exact .tail .head | exact .tail (.tail .head) | exact .tail (.tail (.tail .head)) | exact .tail (.tail (.tail (.tail .head))) | exact .tail (.tail (.tail (.tail (.tail .head))))) (by repeat constructor) ?_
            rw [e]
            exact ⟨_, V', VH', rfl, hV', hS.drop⟩
          · have h' : (s.adv.token == [40]) = false := h
            have e : termM num (d + 1) s = (⟨1, 0, c :: r, .nil⟩, s.adv) := by
              rw [termM_cons num d htk]; simp [*]
            replace hS := hS.raise1
            refine goes_seq ?_
            refine goes_region ?_
            refine lst_run (run_move (by conv => lhs; whnf)) rfl ?_
            refine lst_enter (run_call (by kernel_rfl) (args_1 (by conv => lhs; whnf))) rfl ?_
            refine Calls.mono (isLower_any c _) ?_
            rintro _ w4 ⟨rfl, rfl⟩
            refine ⟨_, rfl, ?_⟩
            refine lst_run (run_move (by conv => lhs; whnf)) rfl ?_
            rw [hlo]
            refine lst_pass rfl rfl rfl ?_
            refine lst_pass rfl rfl rfl ?_
            first
              | refine lst_run (run_pick_t rfl (by conv => lhs; whnf)) rfl ?_
              | refine lst_run (run_pick_f rfl (by conv => lhs; whnf)) rfl ?_
            refine lst_run (run_assign (by conv => lhs; whnf)) rfl ?_
            refine lst_done ?_
            refine goes_true rfl ?_
            refine goes_seq ?_
            refine goes_region ?_
            refine lst_run (run_move (by conv => lhs; whnf)) rfl ?_
            refine lst_run (run_build (cells := [_, _, _, _]) (.cons (by conv => lhs; whnf) (.cons (by conv => lhs; whnf) .nil)) rfl) rfl ?_
            refine lst_storeN hS rfl (by conv => lhs; whnf) rfl rfl (by first | exact .head | exact .tail .head | exact .tail (.tail .head) | exact .tail (.tail (.tail .head)) | exact .tail (.tail (.tail (.tail .head))) | exact .tail (.tail (.tail (.tail (.tail .head))))) (by repeat constructor) (by first | exact .head | exact .tail .head | exact .tail (.tail .head) | exact .tail (.tail (.tail .head)) | exact .tail (.tail (.tail (.tail .head))) | exact .tail (.tail (.tail (.tail (.tail .head))))) ?_
            clear hS
            intro wx2 hS
            refine lst_done ?_
            refine goes_retC (sz := 4) hS Tryz.func35 rfl rfl rfl rfl (by first | exact .head | exact .tail .head | exact .tail (.tail .head) | exact .tail (.tail (.tail .head)) | exact .tail (.tail (.tail (.tail .head))) | exact .tail (.tail (.tail (.tail (.tail .head))))) (by repeat constructor) ?_
            rw [e]
            exact ⟨.slice none 0 0, _, VH, rfl, hV1, hS.drop.learn fun w _ => hnil w⟩
        | false =>
          refine lst_pass rfl rfl rfl ?_
          refine lst_pass rfl rfl rfl ?_
          refine lst_pass rfl rfl rfl ?_
          refine lst_pass rfl rfl rfl ?_
          refine lst_pass rfl rfl rfl ?_
          first
            | refine lst_run (run_pick_t rfl (by conv => lhs; whnf)) rfl ?_
            | refine lst_run (run_pick_f rfl (by conv => lhs; whnf)) rfl ?_
          refine lst_run (run_assign (by conv => lhs; whnf)) rfl ?_
          refine lst_done ?_
          refine goes_false rfl ?_
          refine goes_seq ?_
          refine goes_region ?_
          refine lst_run (run_move (by conv => lhs; whnf)) rfl ?_
          refine lst_enter (run_call (by kernel_rfl) (args_1 (by conv => lhs; whnf))) rfl ?_
          refine Calls.mono (isLower_any c _) ?_
          rintro _ w4 ⟨rfl, rfl⟩
          refine ⟨_, rfl, ?_⟩
          refine lst_run (run_move (by conv => lhs; whnf)) rfl ?_
          rw [hlo]
          by_cases h33 : c = 33
          · have hc33 : (c == 33) = true := by simp [h33]
            have e : termM num (d + 1) s = (⟨1, 0, c :: r, .nil⟩, s.adv) := by
              rw [termM_cons num d htk]; simp only [hu, hlo, hc33]; rfl
            replace hS := hS.raise1
            have h33' : ((c.toNat : Nat) : Int) = 33 := by rw [h33]; rfl
            refine lst_guard rfl rfl ?_
            refine lst_run (run_move (by conv => lhs; whnf)) rfl ?_
            refine lst_guard rfl rfl ?_
            first
              | refine lst_run (run_eql_one_int rfl rfl) rfl ?_
              | refine lst_run (run_eql_no rfl rfl (by first | assumption | omega)) rfl ?_
              | refine lst_run (run_eql_yes rfl rfl (by omega)) rfl ?_
              | refine lst_run (rfl) rfl ?_
            first
              | refine lst_run (run_pick_t rfl (by conv => lhs; whnf)) rfl ?_
              | refine lst_run (run_pick_f rfl (by conv => lhs; whnf)) rfl ?_
            refine lst_run (run_assign (by conv => lhs; whnf)) rfl ?_
            refine lst_done ?_
            refine goes_true rfl ?_
            refine goes_seq ?_
            refine goes_region ?_
            refine lst_run (run_move (by conv => lhs; whnf)) rfl ?_
            refine lst_run (run_build (cells := [_, _, _, _]) (.cons (by conv => lhs; whnf) (.cons (by conv => lhs; whnf) .nil)) rfl) rfl ?_
            refine lst_storeN hS rfl (by conv => lhs; whnf) rfl rfl (by first | exact .head | exact .tail .head | exact .tail (.tail .head) | exact .tail (.tail (.tail .head)) | exact .tail (.tail (.tail (.tail .head))) | exact .tail (.tail (.tail (.tail (.tail .head))))) (by repeat constructor) (by first | exact .head | exact .tail .head | exact .tail (.tail .head) | exact .tail (.tail (.tail .head)) | exact .tail (.tail (.tail (.tail .head))) | exact .tail (.tail (.tail (.tail (.tail .head))))) ?_
            clear hS
            intro wx2 hS
            refine lst_done ?_
            refine goes_retC (sz := 4) hS Tryz.func35 rfl rfl rfl rfl (by first | exact .head | exact .tail .head | exact .tail (.tail .head) | exact .tail (.tail (.tail .head)) | exact .tail (.tail (.tail (.tail .head))) | exact .tail (.tail (.tail (.tail (.tail .head))))) (by repeat constructor) ?_
            rw [e]
            exact ⟨.slice none 0 0, _, VH, rfl, hV1, hS.drop.learn fun w _ => hnil w⟩
          · have h33' : ((c.toNat : Nat) : Int) ≠ 33 := fun h => h33 (u8_eq (n := 33) (by omega))
            refine lst_guard rfl rfl ?_
            refine lst_run (run_move (by conv => lhs; whnf)) rfl ?_
            refine lst_guard rfl rfl ?_
            first
              | refine lst_run (run_eql_one_int rfl rfl) rfl ?_
              | refine lst_run (run_eql_no rfl rfl (by first | assumption | omega)) rfl ?_
              | refine lst_run (run_eql_yes rfl rfl (by omega)) rfl ?_
              | refine lst_run (rfl) rfl ?_
            first
              | refine lst_run (run_pick_t rfl (by conv => lhs; whnf)) rfl ?_
              | refine lst_run (run_pick_f rfl (by conv => lhs; whnf)) rfl ?_
            refine lst_run (run_assign (by conv => lhs; whnf)) rfl ?_
            refine lst_done ?_
            refine goes_false rfl ?_
            refine goes_seq ?_
            refine goes_region ?_
            refine lst_run (run_move (by conv => lhs; whnf)) rfl ?_
            refine lst_enter (run_call (by kernel_rfl) (args_1 (by conv => lhs; whnf))) rfl ?_
            refine Calls.mono (isDigit_any c _) ?_
            rintro _ w5 ⟨rfl, rfl⟩
            refine ⟨_, rfl, ?_⟩
            refine lst_run (run_move (by conv => lhs; whnf)) rfl ?_
            cases hdg : digB c with
            | true =>
              have e : termM num (d + 1) s = (⟨2, (s.adv.number num (c :: r)).1, [], .nil⟩, (s.adv.number num (c :: r)).2) := by
                rw [termM_cons num d htk]; simp [hu, hlo, h33, hdg]
              refine lst_pass rfl rfl rfl ?_
              refine lst_pass rfl rfl rfl ?_
              first
                | refine lst_run (run_pick_t rfl (by conv => lhs; whnf)) rfl ?_
                | refine lst_run (run_pick_f rfl (by conv => lhs; whnf)) rfl ?_
              refine lst_run (run_assign (by conv => lhs; whnf)) rfl ?_
              refine lst_done ?_
              refine goes_true rfl ?_
              refine goes_seq ?_
              refine goes_region ?_
              refine lst_run (run_move (by conv => lhs; whnf)) rfl ?_
              refine lst_run (run_move (by conv => lhs; whnf)) rfl ?_
              refine lst_enter (run_call (by kernel_rfl) (args_2 (by conv => lhs; whnf) (by conv => lhs; whnf))) rfl ?_
              refine Calls.mono (L3 (c :: r) s.adv A _ vc M w0 _ _ F b hG (by rw [← htk]; unfold RS.left at hl; omega) hS) ?_
              rintro _ w6 ⟨rfl, hS'⟩
              refine ⟨_, rfl, ?_⟩
              replace hS := hS'
              clear hS'
              replace hS := hS.raise1
              refine lst_run (run_build (cells := [_, _, _, _]) (.cons (by conv => lhs; whnf) (.cons (by conv => lhs; whnf) .nil)) rfl) rfl ?_
              refine lst_storeN hS rfl (by conv => lhs; whnf) rfl rfl (by first | exact .head | exact .tail .head | exact .tail (.tail .head) | exact .tail (.tail (.tail .head)) | exact .tail (.tail (.tail (.tail .head))) | exact .tail (.tail (.tail (.tail (.tail .head))))) (by repeat constructor) (by first | exact .head | exact .tail .head | exact .tail (.tail .head) | exact .tail (.tail (.tail .head)) | exact .tail (.tail (.tail (.tail .head))) | exact .tail (.tail (.tail (.tail (.tail .head))))) ?_
              clear hS
              intro wx2 hS
              refine lst_done ?_
              refine goes_retC (sz := 4) hS Tryz.func35 rfl rfl rfl rfl (by first | exact .head | exact .tail .head | exact .tail (.tail .head) | exact .tail (.tail (.tail .head)) | exact .tail (.tail (.tail (.tail .head))) | exact .tail (.tail (.tail (.tail (.tail .head))))) (by repeat constructor) ?_
              rw [e]
              exact ⟨.slice none 0 0, _, VH, rfl, by rw [(number_left num s.adv (c :: r)).2]; exact hV1, hS.drop.learn fun w _ => hnil w⟩
            | false =>
              by_cases h45 : c = 45
              · have h45' : ((c.toNat : Nat) : Int) = 45 := by rw [h45]; rfl
                have e : termM num (d + 1) s = (⟨2, (s.adv.number num (c :: r)).1, [], .nil⟩, (s.adv.number num (c :: r)).2) := by
                  have hc33 : (c == 33) = false := by simp [h33]
                  have hc45 : (c == 45) = true := by simp [h45]
                  rw [termM_cons num d htk]; simp only [hu, hlo, hdg, hc33, hc45]; rfl
                refine lst_guard rfl rfl ?_
                refine lst_run (run_move (by conv => lhs; whnf)) rfl ?_
                refine lst_guard rfl rfl ?_
                first
                  | refine lst_run (run_eql_one_int rfl rfl) rfl ?_
                  | refine lst_run (run_eql_no rfl rfl (by first | assumption | omega)) rfl ?_
                  | refine lst_run (run_eql_yes rfl rfl (by omega)) rfl ?_
                  | refine lst_run (rfl) rfl ?_
                first
                  | refine lst_run (run_pick_t rfl (by conv => lhs; whnf)) rfl ?_
                  | refine lst_run (run_pick_f rfl (by conv => lhs; whnf)) rfl ?_
                refine lst_run (run_assign (by conv => lhs; whnf)) rfl ?_
                refine lst_done ?_
                refine goes_true rfl ?_
                refine goes_seq ?_
                refine goes_region ?_
                refine lst_run (run_move (by conv => lhs; whnf)) rfl ?_
                refine lst_run (run_move (by conv => lhs; whnf)) rfl ?_
                refine lst_enter (run_call (by kernel_rfl) (args_2 (by conv => lhs; whnf) (by conv => lhs; whnf))) rfl ?_
                refine Calls.mono (L3 (c :: r) s.adv A _ vc M w0 _ _ F b hG (by rw [← htk]; unfold RS.left at hl; omega) hS) ?_
                rintro _ w6 ⟨rfl, hS'⟩
                refine ⟨_, rfl, ?_⟩
                replace hS := hS'
                clear hS'
                replace hS := hS.raise1
                refine lst_run (run_build (cells := [_, _, _, _]) (.cons (by conv => lhs; whnf) (.cons (by conv => lhs; whnf) .nil)) rfl) rfl ?_
                refine lst_storeN hS rfl (by conv => lhs; whnf) rfl rfl (by first | exact .head | exact .tail .head | exact .tail (.tail .head) | exact .tail (.tail (.tail .head)) | exact .tail (.tail (.tail (.tail .head))) | exact .tail (.tail (.tail (.tail (.tail .head))))) (by repeat constructor) (by first | exact .head | exact .tail .head | exact .tail (.tail .head) | exact .tail (.tail (.tail .head)) | exact .tail (.tail (.tail (.tail .head))) | exact .tail (.tail (.tail (.tail (.tail .head))))) ?_
                clear hS
                intro wx2 hS
                refine lst_done ?_
                refine goes_retC (sz := 4) hS Tryz.func35 rfl rfl rfl rfl (by first | exact .head | exact .tail .head | exact .tail (.tail .head) | exact .tail (.tail (.tail .head)) | exact .tail (.tail (.tail (.tail .head))) | exact .tail (.tail (.tail (.tail (.tail .head))))) (by repeat constructor) ?_
                rw [e]
                exact ⟨.slice none 0 0, _, VH, rfl, by rw [(number_left num s.adv (c :: r)).2]; exact hV1, hS.drop.learn fun w _ => hnil w⟩
              · have h45' : ((c.toNat : Nat) : Int) ≠ 45 := fun h => h45 (u8_eq (n := 45) (by omega))
                have e : termM num (d + 1) s = (Nd.zero, s.adv.fail 1) := by
                  rw [termM_cons num d htk]; simp [hu, hlo, h33, hdg, h45]
                refine lst_guard rfl rfl ?_
                refine lst_run (run_move (by conv => lhs; whnf)) rfl ?_
                refine lst_guard rfl rfl ?_
                first
                  | refine lst_run (run_eql_one_int rfl rfl) rfl ?_
                  | refine lst_run (run_eql_no rfl rfl (by first | assumption | omega)) rfl ?_
                  | refine lst_run (run_eql_yes rfl rfl (by omega)) rfl ?_
                  | refine lst_run (rfl) rfl ?_
                first
                  | refine lst_run (run_pick_t rfl (by conv => lhs; whnf)) rfl ?_
                  | refine lst_run (run_pick_f rfl (by conv => lhs; whnf)) rfl ?_
                refine lst_run (run_assign (by conv => lhs; whnf)) rfl ?_
                refine lst_done ?_
                refine goes_false rfl ?_
                refine goes_skip ?_
                refine goes_inBlock ?_
                refine goes_seq ?_
                refine goes_region ?_
                refine lst_run (run_move (by conv => lhs; whnf)) rfl ?_
                refine lst_enter (run_call (by kernel_rfl) (args_2 (by conv => lhs; whnf) (by conv => lhs; whnf))) rfl ?_
                refine Calls.mono (fail_any s.adv 1 _ hS) ?_
                rintro _ w6 ⟨rfl, hS'⟩
                refine ⟨_, rfl, ?_⟩
                replace hS := hS'
                clear hS'
                replace hS := hS.raise1
                refine lst_done ?_
                refine goes_seq ?_
                refine goes_region ?_
                refine lst_run (run_build (cells := [_, _, _, _]) .nil rfl) rfl ?_
                refine lst_storeN hS rfl (by conv => lhs; whnf) rfl rfl (by first | exact .head | exact .tail .head | exact .tail (.tail .head) | exact .tail (.tail (.tail .head)) | exact .tail (.tail (.tail (.tail .head))) | exact .tail (.tail (.tail (.tail (.tail .head))))) (by repeat constructor) (by first | exact .head | exact .tail .head | exact .tail (.tail .head) | exact .tail (.tail (.tail .head)) | exact .tail (.tail (.tail (.tail .head))) | exact .tail (.tail (.tail (.tail (.tail .head))))) ?_
                clear hS
                intro wx2 hS
                refine lst_done ?_
                refine goes_retC (sz := 4) hS Tryz.func35 rfl rfl rfl rfl (by first | exact .head | exact .tail .head | exact .tail (.tail .head) | exact .tail (.tail (.tail .head)) | exact .tail (.tail (.tail (.tail .head))) | exact .tail (.tail (.tail (.tail (.tail .head))))) (by repeat constructor) ?_
                rw [e]
                exact ⟨.slice none 0 0, _, VH, rfl, hV1, hS.drop.learn fun w _ => hnil w⟩
theorem term_said (num : Str → Option Int) (G : World → Prop) (L1 : Lib1) (L2 : Lib2) (L3 : Lib3 num G) : ∀ d, d ≤ 100 → TermSaid num G d
  | 0, hd => term_any num G L1 L2 L3 0 hd fun e h => by cases h
  | d + 1, hd => term_any num G L1 L2 L3 (d + 1) hd fun e h => by cases h; exact terms_any num G L1 L2 d (by omega) (term_said num G L1 L2 L3 d (by omega))
theorem terms_said (num : Str → Option Int) (G : World → Prop) (L1 : Lib1) (L2 : Lib2) (L3 : Lib3 num G) (d : Nat) (hd : d ≤ 100) : TermsSaid num G d := terms_any num G L1 L2 d hd (term_said num G L1 L2 L3 d hd)
end Go.Proofs.YtdiophafmokfiaaGreatDoor
