/- RefW5, NumB, RefN: texts that follow one another, laid into one file. -/
import Derived.Test.YtdiophafmokfiaaGreatDoorRefW4
import Derived.Test.YtdiophafmokfiaaGreatDoorRLay
import Derived.Test.YtdiophafmokfiaaGreatDoorG19
namespace Go.Proofs.YtdiophafmokfiaaGreatDoor
open Go.RowKit Go.Shelf
set_option linter.unusedVariables false
set_option linter.unusedSimpArgs false
set_option maxRecDepth 100000
set_option maxHeartbeats 1000000

theorem pterm_said : ∀ d, d ≤ 100 → PTermSaid d
  | 0, h => pterm_any 0 h fun e he => by omega
  | d + 1, h => pterm_any (d + 1) h fun e he => by
    obtain rfl : d = e := by omega
    exact pterm_said d (by omega)
theorem pterm24 : PTermSaid 24 := pterm_said 24 (by decide)
theorem goals_any (p : PS) (L V : Value) (VH : List (Nat × Obj)) (M : List Nat) (w0 w : World) (H : List (Nat × Obj)) (F : List (World → Prop)) (b : Nat) (φ : World → Prop) (hφ : φ ∈ F)
    (hl : p.l.length ≤ 2000) (hl2 : p.vars.length + p.l.length ≤ 4000) (hL : Sx φ L p.l) (hV : Vars p.vars V VH) (hS : St M w0 ((b, psr L V p.bad) :: (VH ++ H)) F w) :
    Calls Tryz.prog 21 #[ptr b] w fun e w' => ∃ v L' V' VH', e = .returned v ∧ Sx φ L' (refGoals p).2.l ∧ Vars (refGoals p).2.vars V' VH' ∧
      St M w0 ((b, psr L' V' (refGoals p).2.bad) :: (VH' ++ H)) ((fun w => Sl w (fun _ => True) v (tsOf (refGoals p).1)) :: F) w' := by
  have hf := refTerm_le 24
  refine goes_enter1 Tryz.func21 rfl Tryz.ntmps21 rfl ?_
  refine goes_seq ?_
  refine goes_region ?_
  refine lst_run (run_assign (by conv => lhs; whnf)) rfl ?_
  refine lst_done ?_
  refine goes_seq ?_
  refine goes_region ?_
  refine lst_run (run_move (by conv => lhs; whnf)) rfl ?_
  refine lst_enter (run_call (by kernel_rfl) (args_2 (by conv => lhs; whnf) (by conv => lhs; whnf))) rfl ?_
  refine Calls.mono (pterm24 p L V VH M w0 _ H F b φ hφ hl hl2 hL hV hS) ?_
  rintro _ w1 ⟨v, L1, V1, VH1, rfl, hL1, hV1, hS'⟩
  refine ⟨_, rfl, ?_⟩
  replace hS := hS'
  clear hS'
  obtain ⟨A1, c1, rfl, _⟩ := (hS.fact (.head _)).form
  have hles := hf p
  have hfew := refTerm_few 24 p
  have hi : refGoals p = ([(refTerm 24 p).1] ++ (refLoop (refTerm 24) (refTerm 24 p).2.l.length (refTerm 24 p).2).1, (refLoop (refTerm 24) (refTerm 24 p).2.l.length (refTerm 24 p).2).2.close [46]) := rfl
  generalize refTerm 24 p = r1 at *
  obtain ⟨nd, p1⟩ := r1
  dsimp only at *
  refine lst_buildSlice (cells := [_, _, _, _]) hS (.cons (by conv => lhs; whnf) .nil) rfl rfl ?_
  clear hS
  intro b1 wx1 hS
  refine lst_run (run_assign (by conv => lhs; whnf)) rfl ?_
  refine lst_done ?_
  refine goes_seq ?_
  refine goes_block ?_
  have hS0 := (St.sink (L := (b, psr L1 V1 p1.bad) :: VH1) hS).conv (ψ := fun w => Cs w (fun _ => True) (tsOf [nd]) [.int .i64 nd.k, .int .i64 nd.n, sv nd.s, .slice A1 nd.ar.length c1]) fun w h => ⟨_, [], rfl, h, rfl⟩
  clear hS
  refine goes_loop1 3 (7 :: 8 :: 9 :: 10 :: 11 :: 12 :: 13 :: 14 :: 15 :: 16 :: 17 :: 18 :: 19 :: 20 :: []) (fun (x : List Nd × PS) v w' => ∃ L V VH O xs, Sx φ L x.2.l ∧ Vars x.2.vars V VH ∧ Row 31 4 v x.1.length xs O ∧ St M w0 ((b, psr L V x.2.bad) :: (VH ++ (O ++ H))) ((fun w => Cs w (fun _ => True) (tsOf x.1) xs) :: F) w' ∧ x.1.length + x.2.l.length ≤ 2001 ∧ x.2.l.length ≤ 2000 ∧ x.2.vars.length + x.2.l.length ≤ 4000 ∧ refGoals p = (x.1 ++ (refLoop (refTerm 24) x.2.l.length x.2).1, (refLoop (refTerm 24) x.2.l.length x.2).2.close [46])) (fun x => x.2.l.length) (([nd], p1)) ?_ (by conv => lhs; whnf) ?_
  · exact ⟨L1, V1, VH1, _, _, hL1, hV1, Row.built rfl (by decide), hS0, by show 1 + p1.l.length ≤ _; omega, by show p1.l.length ≤ _; omega, by show p1.vars.length + p1.l.length ≤ _; omega, hi⟩
  clear hS0 hi hV1 hL1
  rintro ⟨D, p4⟩ v2 w6 jv6 ⟨L4, V4, VH4, O5, xs, hL4, hV4, hR5, hS, hD1, hD2, hD3, hi⟩ ih
  dsimp only at hL4 hV4 hR5 hS hD1 hD2 hD3 hi
  obtain ⟨l4, vars4, bad4⟩ := p4
  dsimp only at hL4 hV4 hR5 hS hD1 hD2 hD3 hi
  obtain ⟨Ao, co, rfl⟩ := hR5.form
  have hfin : ∀ (L : Value) (bd : Bool) (w' : World), St M w0 ((b, psr L V4 bd) :: (VH4 ++ (O5 ++ H))) ((fun w => Cs w (fun _ => True) (tsOf D) xs) :: F) w' → St M w0 ((b, psr L V4 bd) :: (VH4 ++ H)) ((fun w => Sl w (fun _ => True) (.slice Ao D.length co) (tsOf D)) :: F) w' := by
    intro L bd w' h
    have h2 := h.perm (List.perm_append_comm_assoc ((b, psr L V4 bd) :: VH4) O5 H)
    have hR6 := hR5
    rw [← tsOf_length D] at hR6 ⊢
    exact St.shut hR6 h2
  cases bad4 with
  | true =>
    have hst := refLoop_stop (f := refTerm 24) (p := ⟨l4, vars4, true⟩) (by simp)
    dsimp only at hst
    rw [hst] at hi
    have ecl : PS.close ⟨l4, vars4, true⟩ [46] = ⟨l4, vars4, true⟩ := rfl
    simp only [List.append_nil, ecl] at hi
    rw [hi]
    refine goes_seq ?_
    refine goes_seq ?_
    refine goes_region ?_
    refine lst_run (run_move (by conv => lhs; whnf)) rfl ?_
    refine lst_run (run_nilCheck rfl) rfl ?_
    refine lst_run (run_fieldAddr (off := 2) rfl rfl) rfl ?_
    first
      | refine lst_run (run_load1_own hS rfl rfl (by first | exact .head | exact .tail .head | exact .tail (.tail .head) | exact .tail (.tail (.tail .head)) | exact .tail (.tail (.tail (.tail .head))) | exact .tail (.tail (.tail (.tail (.tail .head))))) (by repeat constructor)) rfl ?_
      | refine lst_run (run_load1 rfl rfl (by first | assumption | exact hS.cell0 (by assumption) | exact lv_next hS | exact lv_list hS)) rfl ?_
    refine lst_run (rfl) rfl ?_
    refine lst_run (run_move (by conv => lhs; whnf)) rfl ?_
    refine lst_pass rfl rfl rfl ?_
    refine lst_pass rfl rfl rfl ?_
    first
      | refine lst_run (run_pick_t rfl (by conv => lhs; whnf)) rfl ?_
      | refine lst_run (run_pick_f rfl (by conv => lhs; whnf)) rfl ?_
    refine lst_done ?_
    refine goes_false rfl ?_
    refine goes_exit rfl ?_
    refine goes_seq ?_
    refine goes_region ?_
    refine lst_run (run_move (by conv => lhs; whnf)) rfl ?_
    refine lst_run (run_move (by conv => lhs; whnf)) rfl ?_
    refine lst_run (run_nilCheck rfl) rfl ?_
    refine lst_run (run_fieldAddr (off := 2) rfl rfl) rfl ?_
    first
      | refine lst_run (run_load1_own hS rfl rfl (by first | exact .head | exact .tail .head | exact .tail (.tail .head) | exact .tail (.tail (.tail .head)) | exact .tail (.tail (.tail (.tail .head))) | exact .tail (.tail (.tail (.tail (.tail .head))))) (by repeat constructor)) rfl ?_
      | refine lst_run (run_load1 rfl rfl (by first | assumption | exact hS.cell0 (by assumption) | exact lv_next hS | exact lv_list hS)) rfl ?_
    refine lst_run (run_move (by conv => lhs; whnf)) rfl ?_
    refine lst_pass rfl rfl rfl ?_
    refine lst_pass rfl rfl rfl ?_
    refine lst_pass rfl rfl rfl ?_
    first
      | refine lst_run (run_pick_t rfl (by conv => lhs; whnf)) rfl ?_
      | refine lst_run (run_pick_f rfl (by conv => lhs; whnf)) rfl ?_
    refine lst_run (run_nilCheck rfl) rfl ?_
    refine lst_run (run_fieldAddr (off := 2) rfl rfl) rfl ?_
    refine lst_store1 hS rfl (by conv => lhs; whnf) rfl rfl (by first | exact .head | exact .tail .head | exact .tail (.tail .head) | exact .tail (.tail (.tail .head)) | exact .tail (.tail (.tail (.tail .head))) | exact .tail (.tail (.tail (.tail (.tail .head))))) (by repeat constructor) (by first | exact .head | exact .tail .head | exact .tail (.tail .head) | exact .tail (.tail (.tail .head)) | exact .tail (.tail (.tail (.tail .head))) | exact .tail (.tail (.tail (.tail (.tail .head))))) ?_
    clear hS
    intro wx2 hS
    refine lst_done ?_
    refine goes_seq ?_
    refine goes_region ?_
    refine lst_run (run_move (by conv => lhs; whnf)) rfl ?_
    refine lst_run (run_assign (by conv => lhs; whnf)) rfl ?_
    refine lst_done ?_
    refine goes_ret1 Tryz.func21 rfl (by conv => lhs; whnf) ?_
    exact ⟨_, L4, V4, VH4, rfl, hL4, hV4, hfin _ _ _ hS⟩
  | false =>
    cases hcm : PS.has ⟨l4, vars4, false⟩ [44] with
    | true =>
      have hst := refLoop_step hf (p := ⟨l4, vars4, false⟩) ⟨rfl, hcm⟩
      have hrl4 := (has_pop hcm).1
      dsimp only [PS.pop] at hrl4 hst
      have htk := takeP_any ⟨l4, vars4, false⟩ [44] _ _ _ hL4 (.tail _ hφ) hS
      rw [hcm] at htk
      simp only [if_true, PS.pop] at htk
      refine goes_seq ?_
      refine goes_seq ?_
      refine goes_region ?_
      refine lst_run (run_move (by conv => lhs; whnf)) rfl ?_
      refine lst_run (run_nilCheck rfl) rfl ?_
      refine lst_run (run_fieldAddr (off := 2) rfl rfl) rfl ?_
      first
        | refine lst_run (run_load1_own hS rfl rfl (by first | exact .head | exact .tail .head | exact .tail (.tail .head) | exact .tail (.tail (.tail .head)) | exact .tail (.tail (.tail (.tail .head))) | exact .tail (.tail (.tail (.tail (.tail .head))))) (by repeat constructor)) rfl ?_
        | refine lst_run (run_load1 rfl rfl (by first | assumption | exact hS.cell0 (by assumption) | exact lv_next hS | exact lv_list hS)) rfl ?_
      refine lst_run (rfl) rfl ?_
      refine lst_run (run_move (by conv => lhs; whnf)) rfl ?_
      refine lst_guard rfl rfl ?_
      refine lst_run (run_move (by conv => lhs; whnf)) rfl ?_
      refine lst_guard rfl rfl ?_
      refine lst_enter (run_call (by kernel_rfl) (args_2 (by conv => lhs; whnf) (by conv => lhs; whnf))) rfl ?_
      refine Calls.mono (htk) ?_
      rintro _ w7 ⟨L5, rfl, hL5, hS'⟩
      refine ⟨_, rfl, ?_⟩
      replace hS := hS'
      clear hS'
      first
        | refine lst_run (run_pick_t rfl (by conv => lhs; whnf)) rfl ?_
        | refine lst_run (run_pick_f rfl (by conv => lhs; whnf)) rfl ?_
      refine lst_done ?_
      refine goes_true rfl ?_
      refine goes_skip ?_
      refine goes_block ?_
      refine goes_region ?_
      refine lst_run (run_move (by conv => lhs; whnf)) rfl ?_
      refine lst_run (run_move (by conv => lhs; whnf)) rfl ?_
      refine lst_enter (run_call (by kernel_rfl) (args_2 (by conv => lhs; whnf) (by conv => lhs; whnf))) rfl ?_
      refine Calls.mono (pterm24 ⟨l4.tail, vars4, false⟩ L5 _ VH4 M w0 _ _ _ b φ (.tail _ hφ) (by show l4.tail.length ≤ _; omega) (by show vars4.length + l4.tail.length ≤ _; omega) hL5 hV4 hS) ?_
      rintro _ w8 ⟨v, L6, V6, VH6, rfl, hL6, hV6, hS'⟩
      refine ⟨_, rfl, ?_⟩
      replace hS := hS'
      clear hS' htk
      obtain ⟨A6, c6, rfl, _⟩ := (hS.fact (.head _)).form
      have hles6 := hf ⟨l4.tail, vars4, false⟩
      have hfew6 := refTerm_few 24 ⟨l4.tail, vars4, false⟩
      dsimp only at hles6 hfew6
      generalize refTerm 24 ⟨l4.tail, vars4, false⟩ = r6 at *
      obtain ⟨nd6, p6⟩ := r6
      dsimp only at *
      refine lst_buildSlice (cells := [_, _, _, _]) hS (.cons (by conv => lhs; whnf) .nil) rfl rfl ?_
      clear hS
      intro b2 wx2 hS
      refine lst_app (sz := 4) (bts := 56) hS (by conv => lhs; whnf) rfl rfl rfl rfl (hR5) rfl rfl (.cons _ (List.perm_append_comm_assoc (_ :: VH6) O5 H)) (by omega) (by omega) rfl ?_
      clear hS
      intro v9 O9 w9 hR9 hS
      replace hS := (hS.perm (List.perm_append_comm_assoc O9 (_ :: VH6) H)).conv2 (ψ := fun w => Cs w (fun _ => True) (tsOf (D ++ [nd6])) (xs ++ [.int .i64 nd6.k, .int .i64 nd6.n, sv nd6.s, .slice A6 nd6.ar.length c6])) fun w h1 h2 => by
        rw [tsOf_app]; exact Cs.app h2 ⟨_, [], rfl, h1, rfl⟩
      obtain ⟨A9, c9, rfl⟩ := hR9.form
      refine lst_run (run_assign (by conv => lhs; whnf)) rfl ?_
      refine lst_done ?_
      refine goes_inBlock ?_
      refine ih ((D ++ [nd6], p6)) _ _ _ ?_ ?_ (by conv => lhs; whnf) (by kernel_rfl)
      · show p6.l.length < l4.length; omega
      · refine ⟨L6, V6, VH6, O9, _, hL6, hV6, ?_, hS, ?_, ?_, ?_, ?_⟩
        · simp only [List.length_append, List.length_cons, List.length_nil]; exact hR9
        · simp only [List.length_append, List.length_cons, List.length_nil]; omega
        · show p6.l.length ≤ _; omega
        · show p6.vars.length + p6.l.length ≤ _; omega
        · rw [hi, hst]; simp
    | false =>
      have hst := refLoop_stop (f := refTerm 24) (p := ⟨l4, vars4, false⟩) (by simp [hcm])
      dsimp only at hst
      rw [hst] at hi
      simp only [List.append_nil] at hi
      have htk := takeP_any ⟨l4, vars4, false⟩ [44] _ _ _ hL4 (.tail _ hφ) hS
      rw [hcm] at htk
      simp only [Bool.false_eq_true, if_false] at htk
      refine goes_seq ?_
      refine goes_seq ?_
      refine goes_region ?_
      refine lst_run (run_move (by conv => lhs; whnf)) rfl ?_
      refine lst_run (run_nilCheck rfl) rfl ?_
      refine lst_run (run_fieldAddr (off := 2) rfl rfl) rfl ?_
      first
        | refine lst_run (run_load1_own hS rfl rfl (by first | exact .head | exact .tail .head | exact .tail (.tail .head) | exact .tail (.tail (.tail .head)) | exact .tail (.tail (.tail (.tail .head))) | exact .tail (.tail (.tail (.tail (.tail .head))))) (by repeat constructor)) rfl ?_
        | refine lst_run (run_load1 rfl rfl (by first | assumption | exact hS.cell0 (by assumption) | exact lv_next hS | exact lv_list hS)) rfl ?_
      refine lst_run (rfl) rfl ?_
      refine lst_run (run_move (by conv => lhs; whnf)) rfl ?_
      refine lst_guard rfl rfl ?_
      refine lst_run (run_move (by conv => lhs; whnf)) rfl ?_
      refine lst_guard rfl rfl ?_
      refine lst_enter (run_call (by kernel_rfl) (args_2 (by conv => lhs; whnf) (by conv => lhs; whnf))) rfl ?_
      refine Calls.mono (htk) ?_
      rintro _ w7 ⟨L5, rfl, hL5, hS'⟩
      refine ⟨_, rfl, ?_⟩
      replace hS := hS'
      clear hS'
      first
        | refine lst_run (run_pick_t rfl (by conv => lhs; whnf)) rfl ?_
        | refine lst_run (run_pick_f rfl (by conv => lhs; whnf)) rfl ?_
      refine lst_done ?_
      refine goes_false rfl ?_
      refine goes_exit rfl ?_
      refine goes_seq ?_
      refine goes_region ?_
      refine lst_run (run_move (by conv => lhs; whnf)) rfl ?_
      refine lst_run (run_move (by conv => lhs; whnf)) rfl ?_
      refine lst_run (run_nilCheck rfl) rfl ?_
      refine lst_run (run_fieldAddr (off := 2) rfl rfl) rfl ?_
      first
        | refine lst_run (run_load1_own hS rfl rfl (by first | exact .head | exact .tail .head | exact .tail (.tail .head) | exact .tail (.tail (.tail .head)) | exact .tail (.tail (.tail (.tail .head))) | exact .tail (.tail (.tail (.tail (.tail .head))))) (by repeat constructor)) rfl ?_
        | refine lst_run (run_load1 rfl rfl (by first | assumption | exact hS.cell0 (by assumption) | exact lv_next hS | exact lv_list hS)) rfl ?_
      refine lst_run (run_move (by conv => lhs; whnf)) rfl ?_
      refine lst_guard rfl rfl ?_
      refine lst_run (run_move (by conv => lhs; whnf)) rfl ?_
      refine lst_guard rfl rfl ?_
      have htk2 := takeP_any ⟨l4, vars4, false⟩ [46] _ _ _ hL5 (.tail _ hφ) hS
      cases hcl : PS.has ⟨l4, vars4, false⟩ [46] with
      | true =>
        have ecl : PS.close ⟨l4, vars4, false⟩ [46] = ⟨l4.tail, vars4, false⟩ := by unfold PS.close; rw [if_neg (by simp), if_pos hcl]; rfl
        rw [ecl] at hi
        rw [hi]
        rw [hcl] at htk2
        simp only [if_true, PS.pop] at htk2
        refine lst_enter (run_call (by kernel_rfl) (args_2 (by conv => lhs; whnf) (by conv => lhs; whnf))) rfl ?_
        refine Calls.mono (htk2) ?_
        rintro _ w8 ⟨L6, rfl, hL6, hS'⟩
        refine ⟨_, rfl, ?_⟩
        replace hS := hS'
        clear hS'
        refine lst_guard rfl rfl ?_
        refine lst_run (rfl) rfl ?_
        first
          | refine lst_run (run_pick_t rfl (by conv => lhs; whnf)) rfl ?_
          | refine lst_run (run_pick_f rfl (by conv => lhs; whnf)) rfl ?_
        refine lst_run (run_nilCheck rfl) rfl ?_
        refine lst_run (run_fieldAddr (off := 2) rfl rfl) rfl ?_
        refine lst_store1 hS rfl (by conv => lhs; whnf) rfl rfl (by first | exact .head | exact .tail .head | exact .tail (.tail .head) | exact .tail (.tail (.tail .head)) | exact .tail (.tail (.tail (.tail .head))) | exact .tail (.tail (.tail (.tail (.tail .head))))) (by repeat constructor) (by first | exact .head | exact .tail .head | exact .tail (.tail .head) | exact .tail (.tail (.tail .head)) | exact .tail (.tail (.tail (.tail .head))) | exact .tail (.tail (.tail (.tail (.tail .head))))) ?_
        clear hS
        intro wx2 hS
        refine lst_done ?_
        refine goes_seq ?_
        refine goes_region ?_
        refine lst_run (run_move (by conv => lhs; whnf)) rfl ?_
        refine lst_run (run_assign (by conv => lhs; whnf)) rfl ?_
        refine lst_done ?_
        refine goes_ret1 Tryz.func21 rfl (by conv => lhs; whnf) ?_
        exact ⟨_, L6, V4, VH4, rfl, hL6, hV4, hfin _ _ _ hS⟩
      | false =>
        have ecl : PS.close ⟨l4, vars4, false⟩ [46] = ⟨l4, vars4, true⟩ := by unfold PS.close; rw [if_neg (by simp), if_neg (by simp [hcl])]; rfl
        rw [ecl] at hi
        rw [hi]
        rw [hcl] at htk2
        simp only [Bool.false_eq_true, if_false] at htk2
        refine lst_enter (run_call (by kernel_rfl) (args_2 (by conv => lhs; whnf) (by conv => lhs; whnf))) rfl ?_
        refine Calls.mono (htk2) ?_
        rintro _ w8 ⟨L6, rfl, hL6, hS'⟩
        refine ⟨_, rfl, ?_⟩
        replace hS := hS'
        clear hS'
        refine lst_guard rfl rfl ?_
        refine lst_run (rfl) rfl ?_
        first
          | refine lst_run (run_pick_t rfl (by conv => lhs; whnf)) rfl ?_
          | refine lst_run (run_pick_f rfl (by conv => lhs; whnf)) rfl ?_
        refine lst_run (run_nilCheck rfl) rfl ?_
        refine lst_run (run_fieldAddr (off := 2) rfl rfl) rfl ?_
        refine lst_store1 hS rfl (by conv => lhs; whnf) rfl rfl (by first | exact .head | exact .tail .head | exact .tail (.tail .head) | exact .tail (.tail (.tail .head)) | exact .tail (.tail (.tail (.tail .head))) | exact .tail (.tail (.tail (.tail (.tail .head))))) (by repeat constructor) (by first | exact .head | exact .tail .head | exact .tail (.tail .head) | exact .tail (.tail (.tail .head)) | exact .tail (.tail (.tail (.tail .head))) | exact .tail (.tail (.tail (.tail (.tail .head))))) ?_
        clear hS
        intro wx2 hS
        refine lst_done ?_
        refine goes_seq ?_
        refine goes_region ?_
        refine lst_run (run_move (by conv => lhs; whnf)) rfl ?_
        refine lst_run (run_assign (by conv => lhs; whnf)) rfl ?_
        refine lst_done ?_
        refine goes_ret1 Tryz.func21 rfl (by conv => lhs; whnf) ?_
        exact ⟨_, L6, V4, VH4, rfl, hL6, hV4, hfin _ _ _ hS⟩
end Go.Proofs.YtdiophafmokfiaaGreatDoor
namespace Go.Proofs.YtdiophafmokfiaaGreatDoor
open Go.RowKit Go.Shelf
set_option linter.unusedVariables false
set_option linter.unusedSimpArgs false
set_option maxRecDepth 100000

/-! Numbers -/
theorem parse_app : ∀ (l m : Str) (acc a : Nat), Lib.parseUint10 acc l = .ok a → Lib.parseUint10 acc (l ++ m) = Lib.parseUint10 a m
  | [], m, acc, a, h => by
    simp only [Lib.parseUint10, Lib.NumEnd.ok.injEq] at h
    subst h; rfl
  | c :: r, m, acc, a, h => by
    simp only [List.cons_append, Lib.parseUint10] at h ⊢
    split at h
    · rename_i hc
      rw [if_pos hc]
      split at h
      · cases h
      · rename_i h1
        rw [if_neg h1]
        split at h
        · cases h
        · rename_i h2
          rw [if_neg h2]
          exact parse_app r m _ a h
    · cases h
theorem digit_nat (d : Nat) (h : d < 10) : (UInt8.ofNat (48 + d)).toNat = 48 + d := by
  rw [UInt8.toNat_ofNat']; omega
theorem parse_digits (u : Nat) (h : u < 9223372036854775808) : Lib.parseUint10 0 (Lib.decDigits u) = .ok u := by
  induction u using Nat.strongRecOn with
  | ind u ih =>
    by_cases h10 : u < 10
    · rw [Lib.decDigits_one h10]
      have := digit_nat u h10
      simp only [Lib.parseUint10, this]
      rw [if_pos (by omega), if_neg (by omega), if_neg (by omega)]
      simp
    · rw [Lib.decDigits, dif_neg h10, parse_app _ _ _ _ (ih (u / 10) (by omega) (by omega))]
      have := digit_nat (u % 10) (by omega)
      simp only [Lib.parseUint10, this]
      rw [if_pos (by omega), if_neg (by omega), if_neg (by omega)]
      congr 1
      omega
theorem digits_ne (u : Nat) : Lib.decDigits u ≠ [] := by
  rw [Lib.decDigits]
  split <;> simp
theorem digits_all (u : Nat) : ∀ c ∈ Lib.decDigits u, digB c = true := by
  have hd : ∀ d, d < 10 → digB (UInt8.ofNat (48 + d)) = true := fun d h => by
    have := digit_nat d h
    simp only [digB, this]
    simp; omega
  induction u using Nat.strongRecOn with
  | ind u ih =>
    by_cases h10 : u < 10
    · rw [Lib.decDigits_one h10]
      intro c hc
      rw [List.mem_singleton.1 hc]
      exact hd u h10
    · rw [Lib.decDigits, dif_neg h10]
      intro c hc
      rcases List.mem_append.1 hc with hc | hc
      · exact ih (u / 10) (by omega) c hc
      · rw [List.mem_singleton.1 hc]
        exact hd _ (by omega)
theorem ndigits_le : ∀ (k u : Nat), u < 10 ^ (k + 1) → Lib.nDigits u ≤ k + 1
  | 0, u, h => by rw [Lib.nDigits_small (by simpa using h)]; omega
  | k + 1, u, h => by
    by_cases h10 : u < 10
    · rw [Lib.nDigits_small h10]; omega
    · rw [Lib.nDigits_big h10]
      have := ndigits_le k (u / 10) (by rw [Nat.pow_succ] at h; omega)
      omega
theorem dig_not (c : UInt8) (h : digB c = true) : c.toNat ≠ 43 ∧ c.toNat ≠ 45 := by
  simp [digB] at h; omega
theorem atoi_itoa (n : Int) (h0 : -1099511627776 ≤ n) (h1 : n ≤ 1099511627776) : Lib.atoiAll (Lib.itoa n) = .ok n := by
  unfold Lib.itoa
  split
  · have hp := parse_digits n.natAbs (by omega)
    have hne := digits_ne n.natAbs
    simp only [Lib.atoiAll, Lib.parseMag]
    have e1 : (UInt8.toNat 45 = 43 ∨ UInt8.toNat 45 = 45) = True := eq_true (by decide)
    have e2 : (UInt8.toNat 45 = 45) = True := eq_true (by decide)
    simp only [e2, or_true, if_true]
    rw [if_neg hne, hp]
    simp only [not_true_eq_false, false_and, if_false, true_and]
    rw [if_neg (by omega)]
    congr 1; omega
  · have hp := parse_digits n.toNat (by omega)
    cases hl : Lib.decDigits n.toNat with
    | nil => exact absurd hl (digits_ne _)
    | cons c r =>
      have hc := dig_not c (digits_all n.toNat c (by rw [hl]; exact .head _))
      rw [hl] at hp
      simp only [Lib.atoiAll, Lib.parseMag]
      simp only [hc.1, hc.2, or_self, if_false]
      rw [if_neg (by simp), hp]
      simp only [not_false_eq_true, true_and, false_and, if_false]
      rw [if_neg (by omega)]
      congr 1; omega
theorem numM_itoa (n : Int) (h0 : -1099511627776 ≤ n) (h1 : n ≤ 1099511627776) : numM (Lib.itoa n) = some n := by
  unfold numM
  rw [atoi_itoa n h0 h1]
  simp only
  rw [if_pos ⟨trivial, h0, h1⟩]
theorem itoa_len (n : Int) (h0 : -1099511627776 ≤ n) (h1 : n ≤ 1099511627776) : (Lib.itoa n).length ≤ 14 := by
  unfold Lib.itoa
  split
  · have := ndigits_le 12 n.natAbs (by omega)
    simp [Lib.decDigits_length]; omega
  · have := ndigits_le 12 n.toNat (by omega)
    simp [Lib.decDigits_length]; omega

end Go.Proofs.YtdiophafmokfiaaGreatDoor
namespace Go.Proofs.YtdiophafmokfiaaGreatDoor
open Go.RowKit Go.Shelf
set_option linter.unusedVariables false
set_option linter.unusedSimpArgs false
set_option maxRecDepth 100000

theorem dval_snoc (d : Str) (c : UInt8) : dval (d ++ [c]) = 10 * dval d + (c - 48).toNat := by simp [dval, List.foldl_append]
theorem dig_sub {c : UInt8} (h : digB c = true) : (c - 48).toNat < 10 ∧ UInt8.ofNat (48 + (c - 48).toNat) = c := by
  have hh : ∀ n : Fin 256, digB (UInt8.ofNat n.val) = true → (UInt8.ofNat n.val - 48).toNat < 10 ∧ UInt8.ofNat (48 + (UInt8.ofNat n.val - 48).toNat) = UInt8.ofNat n.val := by decide +kernel
  have := hh ⟨c.toNat, c.toNat_lt⟩
  simp only [UInt8.ofNat_toNat] at this
  exact this h
theorem sub_dig (d : Nat) (h : d < 10) : (UInt8.ofNat (48 + d) - 48).toNat = d := by
  have hh : ∀ n : Fin 10, (UInt8.ofNat (48 + n.val) - 48).toNat = n.val := by decide +kernel
  exact hh ⟨d, h⟩
theorem dval_digits (u : Nat) : dval (Lib.decDigits u) = u := by
  induction u using Nat.strongRecOn with
  | ind u ih =>
    by_cases h10 : u < 10
    · rw [Lib.decDigits_one h10]
      have := sub_dig u h10
      simp only [dval, List.foldl_cons, List.foldl_nil]
      omega
    · rw [Lib.decDigits, dif_neg h10, dval_snoc, ih (u / 10) (by omega), sub_dig _ (by omega)]
      omega
theorem snoc_cases : ∀ (l : Str), l = [] ∨ ∃ e c, l = e ++ [c] := fun l => by
  rcases List.eq_nil_or_concat l with h | ⟨e, c, h⟩
  · exact .inl h
  · exact .inr ⟨e, c, by simpa using h⟩
/-- Without a zero ahead, the digits are the number's. -/
theorem digits_dval : ∀ (n : Nat) (d : Str), d.length = n → (∀ c ∈ d, digB c = true) → d ≠ [] → headC d ≠ 48 → Lib.decDigits (dval d) = d ∧ 0 < dval d := by
  intro n
  induction n with
  | zero => intro d hl _ hne; exact absurd (List.eq_nil_of_length_eq_zero hl) hne
  | succ n ih =>
    intro d hl hd hne h48
    rcases snoc_cases d with rfl | ⟨e, c, rfl⟩
    · exact absurd rfl hne
    have hc := dig_sub (hd c (by simp))
    rw [dval_snoc]
    cases e with
    | nil =>
      have h0 : (c - 48).toNat ≠ 0 := fun h0 => by
        have := hc.2
        rw [h0] at this
        exact h48 (by show c = 48; rw [← this]; rfl)
      have e0 : dval [] = 0 := rfl
      rw [e0, Nat.mul_zero, Nat.zero_add, Lib.decDigits_one hc.1, hc.2]
      exact ⟨rfl, by omega⟩
    | cons x e =>
      have h1 := ih (x :: e) (by simp at hl ⊢; omega) (fun y hy => hd y (List.mem_append_left _ hy)) (by simp) h48
      have h2 : ¬ 10 * dval (x :: e) + (c - 48).toNat < 10 := by omega
      have h3 : (10 * dval (x :: e) + (c - 48).toNat) / 10 = dval (x :: e) := by omega
      have h4 : (10 * dval (x :: e) + (c - 48).toNat) % 10 = (c - 48).toNat := by omega
      rw [Lib.decDigits, dif_neg h2, h3, h4, hc.2, h1.1]
      exact ⟨rfl, by omega⟩
theorem dval_zero : dval [48] = 0 := rfl
theorem digits_zero : Lib.decDigits 0 = [48] := by rw [Lib.decDigits_one (by omega)]; rfl
/-- The first digit of a number is no zero. -/
theorem digits_head (u : Nat) (h : 0 < u) : headC (Lib.decDigits u) ≠ 48 := by
  induction u using Nat.strongRecOn with
  | ind u ih =>
    by_cases h10 : u < 10
    · rw [Lib.decDigits_one h10]
      intro e
      have := sub_dig u h10
      rw [show UInt8.ofNat (48 + u) = 48 from e] at this
      have h0 : ((48 : UInt8) - 48).toNat = 0 := by decide
      omega
    · rw [Lib.decDigits, dif_neg h10]
      have h1 := ih (u / 10) (by omega) (by omega)
      have h2 := digits_ne (u / 10)
      cases hl : Lib.decDigits (u / 10) with
      | nil => exact absurd hl h2
      | cons x r => rw [hl] at h1; exact h1
theorem bare_dig {c : UInt8} {r : Str} (h : digB c = true) : bareM (c :: r) = c :: r := by
  unfold bareM
  split
  · rename_i e; cases e; exact absurd h (by decide)
  · rfl
/-- A word of digits, perhaps behind a sign. -/
def NumTok (t : Str) : Prop := (t ≠ [] ∧ ∀ c ∈ t, digB c = true) ∨ ∃ r, t = 45 :: r ∧ r ≠ [] ∧ ∀ c ∈ r, digB c = true
theorem value_some {t : Str} {v : Int} (ht : NumTok t) (h : valueM t = some v) : t = Lib.itoa v ∧ -1099511627776 ≤ v ∧ v ≤ 1099511627776 := by
  unfold valueM at h
  simp only at h
  split at h
  · cases h
  rename_i h1
  split at h
  · cases h
  rename_i h2
  simp only [not_or, not_and] at h1
  obtain ⟨h11, h12, h13⟩ := h1
  rcases ht with ⟨hne, hd⟩ | ⟨r, rfl, hne, hd⟩
  · cases t with
    | nil => exact absurd rfl hne
    | cons c r =>
      have hb := bare_dig (r := r) (hd c (.head _))
      rw [hb] at h h13 h2
      rw [if_pos rfl] at h
      cases h
      refine ⟨?_, by omega, by omega⟩
      unfold Lib.itoa
      rw [if_neg (by omega), Int.toNat_natCast]
      by_cases h48 : headC (c :: r) = 48
      · have := h13 h48
        have h5 : c :: r = [48] := by simpa using this
        rw [h5, dval_zero, digits_zero]
      · exact (digits_dval _ _ rfl hd (by simp) h48).1.symm
  · have hb : bareM (45 :: r) = r := rfl
    rw [hb] at h h13 h2
    have hner : r ≠ 45 :: r := fun e => by have := congrArg List.length e; simp at this
    rw [if_neg hner] at h
    cases h
    have h48 : headC r ≠ 48 := fun e => absurd (h13 e) (by simp)
    have h5 := digits_dval _ _ rfl hd hne h48
    refine ⟨?_, by omega, by omega⟩
    unfold Lib.itoa
    rw [if_pos (by omega), Int.natAbs_neg, Int.natAbs_natCast, h5.1]
theorem value_itoa (v : Int) (h0 : -1099511627776 ≤ v) (h1 : v ≤ 1099511627776) : valueM (Lib.itoa v) = some v := by
  unfold Lib.itoa
  split
  · have hd := dval_digits v.natAbs
    have hh := digits_head v.natAbs (by omega)
    have hn := digits_ne v.natAbs
    have hl := ndigits_le 12 v.natAbs (by omega)
    rw [← Lib.decDigits_length] at hl
    generalize Lib.decDigits v.natAbs = d at *
    have hner : d ≠ 45 :: d := fun e => by have := congrArg List.length e; simp at this
    have hb : bareM (45 :: d) = d := rfl
    unfold valueM
    simp only [hb]
    rw [if_neg (by simp [hn, hh]; omega), hd, if_neg (by omega), if_neg hner]
    congr 1; omega
  · have hd := dval_digits v.toNat
    have hn := digits_ne v.toNat
    have hl := ndigits_le 12 v.toNat (by omega)
    rw [← Lib.decDigits_length] at hl
    have hh : headC (Lib.decDigits v.toNat) = 48 → Lib.decDigits v.toNat = [48] := fun e => by
      by_cases hz : v.toNat = 0
      · rw [hz]; exact digits_zero
      · exact absurd e (digits_head _ (by omega))
    have hall := digits_all v.toNat
    generalize Lib.decDigits v.toNat = d at *
    cases d with
    | nil => exact absurd rfl hn
    | cons c r =>
      have hb := bare_dig (r := r) (hall c (.head _))
      unfold valueM
      simp only [hb]
      rw [if_neg (by
        rintro (h | h | ⟨h, h'⟩)
        · exact hn h
        · omega
        · exact h' (hh h)), hd, if_neg (by omega), if_pos trivial]
      congr 1; omega
theorem num_value {t : Str} (ht : NumTok t) : numM t = valueM t := by
  cases hv : valueM t with
  | some v =>
    obtain ⟨e, h0, h1⟩ := value_some ht hv
    rw [e]; exact numM_itoa v h0 h1
  | none =>
    cases hn : numM t with
    | none => rfl
    | some v =>
      unfold numM at hn
      split at hn
      · split at hn
        · rename_i h
          cases hn
          rw [← h.1, value_itoa _ h.2.1 h.2.2] at hv
          cases hv
        · cases hn
      · cases hn
theorem value_minus : valueM [45] = none := by decide
end Go.Proofs.YtdiophafmokfiaaGreatDoor
