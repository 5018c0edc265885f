/- CWalk1, CPure, CWalk2, Plan: texts that follow one another, laid into one file. -/
import Derived.Test.YtdflngjfnpbpmabDoorG2
import Derived.Test.YtdflngjfnpbpmabDoorG3
import Derived.Test.YtdflngjfnpbpmabDoorG0
namespace Go.Proofs.YtdflngjfnpbpmabDoor
open Go.RowKit
set_option linter.unusedVariables false
set_option linter.unusedSimpArgs false
set_option maxRecDepth 100000
set_option maxHeartbeats 1000000

abbrev cvv (c : HC) : Value := .agg #[.int .i64 c.k, .int .i64 c.n, .string c.s]
section
variable {M : List Nat} {w0 : World} {H : List (Nat × Obj)} {F : List (World → Prop)}
theorem ref_any (i : Int) (w : World) (hS : St M w0 H F w) :
    Calls Tryd.prog 25 #[.int .i64 i] w fun e w' => e = .returned (cvv ⟨0, i, eS⟩) ∧ St M w0 H F w' := by
  refine goes_enter1 Tryd.func25 rfl Tryd.ntmps25 rfl ?_
  refine goes_seq ?_
  refine goes_region ?_
  refine lst_alloc (cs := [_, _, _]) hS rfl rfl rfl ?_
  clear hS
  intro b1 wx1 hS
  refine lst_done ?_
  refine goes_seq ?_
  refine goes_region ?_
  refine lst_run (run_move (by conv => lhs; whnf)) rfl ?_
  refine lst_run (run_build (cells := [_, _, _]) (.cons (by conv => lhs; whnf) (.cons (by conv => lhs; whnf) .nil)) rfl) rfl ?_
  refine lst_storeN hS rfl (by conv => lhs; whnf) rfl rfl (by first | exact .head | exact .tail .head | exact .tail (.tail .head) | exact .tail (.tail (.tail .head)) | exact .tail (.tail (.tail (.tail .head))) | exact .tail (.tail (.tail (.tail (.tail .head))))) (by repeat constructor) (by first | exact .head | exact .tail .head | exact .tail (.tail .head) | exact .tail (.tail (.tail .head)) | exact .tail (.tail (.tail (.tail .head))) | exact .tail (.tail (.tail (.tail (.tail .head))))) ?_
  clear hS
  intro wx2 hS
  refine lst_done ?_
  refine goes_retC (sz := 3) hS Tryd.func25 rfl rfl rfl rfl (by first | exact .head | exact .tail .head | exact .tail (.tail .head) | exact .tail (.tail (.tail .head)) | exact .tail (.tail (.tail (.tail .head))) | exact .tail (.tail (.tail (.tail (.tail .head))))) (by repeat constructor) ?_
  exact ⟨rfl, hS.drop⟩
theorem single_any (k n : Int) (s : ByteArray) (A : Option Addr) (l c : Nat) (w : World) (hS : St M w0 H F w) :
    Calls Tryd.prog 26 #[.agg #[.int .i64 k, .int .i64 n, .string s, .slice A l c]] w fun e w' => e = .returned (cvv (single k n s)) ∧ St M w0 H F w' := by
  refine goes_enter1 Tryd.func26 rfl Tryd.ntmps26 rfl ?_
  by_cases h0 : k = 0
  · subst h0
    refine goes_seq ?_
    refine goes_region ?_
    refine lst_box hS rfl rfl ?_
    clear hS
    intro b1 wx1 hS
    refine lst_alloc (cs := [_, _, _]) hS rfl rfl rfl ?_
    clear hS
    intro b2 wx2 hS
    refine lst_done ?_
    refine goes_seq ?_
    refine goes_seq ?_
    refine goes_region ?_
    refine lst_run (run_fieldAddr (off := 0) rfl rfl) rfl ?_
    first
      | refine lst_run (run_load1_own hS rfl rfl (by first | exact .head | exact .tail .head | exact .tail (.tail .head) | exact .tail (.tail (.tail .head)) | exact .tail (.tail (.tail (.tail .head))) | exact .tail (.tail (.tail (.tail (.tail .head))))) (by repeat constructor)) rfl ?_
      | refine lst_run (run_load1 rfl rfl (by first | assumption | exact hS.cell0 (by assumption) | exact lv_next hS | exact lv_list hS)) rfl ?_
    refine lst_done ?_
    refine goes_block ?_
    refine goes_seq ?_
    refine goes_region ?_
    first
      | refine lst_run (run_eql_one_int rfl rfl) rfl ?_
      | refine lst_run (run_eql_no rfl rfl (by first | assumption | omega)) rfl ?_
      | refine lst_run (run_eql_yes rfl rfl (by omega)) rfl ?_
      | refine lst_run (rfl) rfl ?_
    refine lst_run (run_assign (by conv => lhs; whnf)) rfl ?_
    refine lst_done ?_
    refine goes_true rfl ?_
    refine goes_seq ?_
    refine goes_region ?_
    refine lst_run (run_fieldAddr (off := 1) rfl rfl) rfl ?_
    first
      | refine lst_run (run_load1_own hS rfl rfl (by first | exact .head | exact .tail .head | exact .tail (.tail .head) | exact .tail (.tail (.tail .head)) | exact .tail (.tail (.tail (.tail .head))) | exact .tail (.tail (.tail (.tail (.tail .head))))) (by repeat constructor)) rfl ?_
      | refine lst_run (run_load1 rfl rfl (by first | assumption | exact hS.cell0 (by assumption) | exact lv_next hS | exact lv_list hS)) rfl ?_
    refine lst_enter (run_call (by kernel_rfl) (args_1 (by conv => lhs; whnf))) rfl ?_
    refine Calls.mono (ref_any n _ hS) ?_
    rintro _ w2 ⟨rfl, hS'⟩
    refine ⟨_, rfl, ?_⟩
    replace hS := hS'
    clear hS'
    refine lst_storeN hS rfl (by conv => lhs; whnf) rfl rfl (by first | exact .head | exact .tail .head | exact .tail (.tail .head) | exact .tail (.tail (.tail .head)) | exact .tail (.tail (.tail (.tail .head))) | exact .tail (.tail (.tail (.tail (.tail .head))))) (by repeat constructor) (by first | exact .head | exact .tail .head | exact .tail (.tail .head) | exact .tail (.tail (.tail .head)) | exact .tail (.tail (.tail (.tail .head))) | exact .tail (.tail (.tail (.tail (.tail .head))))) ?_
    clear hS
    intro wx3 hS
    refine lst_done ?_
    refine goes_retC (sz := 3) hS Tryd.func26 rfl rfl rfl rfl (by first | exact .head | exact .tail .head | exact .tail (.tail .head) | exact .tail (.tail (.tail .head)) | exact .tail (.tail (.tail (.tail .head))) | exact .tail (.tail (.tail (.tail (.tail .head))))) (by repeat constructor) ?_
    exact ⟨rfl, hS.drop.drop⟩
  by_cases h2 : k = 2
  · subst h2
    refine goes_seq ?_
    refine goes_region ?_
    refine lst_box hS rfl rfl ?_
    clear hS
    intro b1 wx1 hS
    refine lst_alloc (cs := [_, _, _]) hS rfl rfl rfl ?_
    clear hS
    intro b2 wx2 hS
    refine lst_done ?_
    refine goes_seq ?_
    refine goes_seq ?_
    refine goes_region ?_
    refine lst_run (run_fieldAddr (off := 0) rfl rfl) rfl ?_
    first
      | refine lst_run (run_load1_own hS rfl rfl (by first | exact .head | exact .tail .head | exact .tail (.tail .head) | exact .tail (.tail (.tail .head)) | exact .tail (.tail (.tail (.tail .head))) | exact .tail (.tail (.tail (.tail (.tail .head))))) (by repeat constructor)) rfl ?_
      | refine lst_run (run_load1 rfl rfl (by first | assumption | exact hS.cell0 (by assumption) | exact lv_next hS | exact lv_list hS)) rfl ?_
    refine lst_done ?_
    refine goes_block ?_
    refine goes_seq ?_
    refine goes_region ?_
    first
      | refine lst_run (run_eql_one_int rfl rfl) rfl ?_
      | refine lst_run (run_eql_no rfl rfl (by first | assumption | omega)) rfl ?_
      | refine lst_run (run_eql_yes rfl rfl (by omega)) rfl ?_
      | refine lst_run (rfl) rfl ?_
    refine lst_run (run_assign (by conv => lhs; whnf)) rfl ?_
    refine lst_done ?_
    refine goes_false rfl ?_
    refine goes_seq ?_
    refine goes_region ?_
    first
      | refine lst_run (run_eql_one_int rfl rfl) rfl ?_
      | refine lst_run (run_eql_no rfl rfl (by first | assumption | omega)) rfl ?_
      | refine lst_run (run_eql_yes rfl rfl (by omega)) rfl ?_
      | refine lst_run (rfl) rfl ?_
    refine lst_run (run_assign (by conv => lhs; whnf)) rfl ?_
    refine lst_done ?_
    refine goes_true rfl ?_
    refine goes_seq ?_
    refine goes_region ?_
    refine lst_run (run_fieldAddr (off := 1) rfl rfl) rfl ?_
    first
      | refine lst_run (run_load1_own hS rfl rfl (by first | exact .head | exact .tail .head | exact .tail (.tail .head) | exact .tail (.tail (.tail .head)) | exact .tail (.tail (.tail (.tail .head))) | exact .tail (.tail (.tail (.tail (.tail .head))))) (by repeat constructor)) rfl ?_
      | refine lst_run (run_load1 rfl rfl (by first | assumption | exact hS.cell0 (by assumption) | exact lv_next hS | exact lv_list hS)) rfl ?_
    refine lst_run (run_build (cells := [_, _, _]) (.cons (by conv => lhs; whnf) (.cons (by conv => lhs; whnf) .nil)) rfl) rfl ?_
    refine lst_storeN hS rfl (by conv => lhs; whnf) rfl rfl (by first | exact .head | exact .tail .head | exact .tail (.tail .head) | exact .tail (.tail (.tail .head)) | exact .tail (.tail (.tail (.tail .head))) | exact .tail (.tail (.tail (.tail (.tail .head))))) (by repeat constructor) (by first | exact .head | exact .tail .head | exact .tail (.tail .head) | exact .tail (.tail (.tail .head)) | exact .tail (.tail (.tail (.tail .head))) | exact .tail (.tail (.tail (.tail (.tail .head))))) ?_
    clear hS
    intro wx3 hS
    refine lst_done ?_
    refine goes_retC (sz := 3) hS Tryd.func26 rfl rfl rfl rfl (by first | exact .head | exact .tail .head | exact .tail (.tail .head) | exact .tail (.tail (.tail .head)) | exact .tail (.tail (.tail (.tail .head))) | exact .tail (.tail (.tail (.tail (.tail .head))))) (by repeat constructor) ?_
    exact ⟨rfl, hS.drop.drop⟩
  have e : single k n s = ⟨1, 0, s⟩ := by unfold single; rw [if_neg h0, if_neg h2]
  rw [e]
  refine goes_seq ?_
  refine goes_region ?_
  refine lst_box hS rfl rfl ?_
  clear hS
  intro b1 wx1 hS
  refine lst_alloc (cs := [_, _, _]) hS rfl rfl rfl ?_
  clear hS
  intro b2 wx2 hS
  refine lst_done ?_
  refine goes_seq ?_
  refine goes_seq ?_
  refine goes_region ?_
  refine lst_run (run_fieldAddr (off := 0) rfl rfl) rfl ?_
  first
    | refine lst_run (run_load1_own hS rfl rfl (by first | exact .head | exact .tail .head | exact .tail (.tail .head) | exact .tail (.tail (.tail .head)) | exact .tail (.tail (.tail (.tail .head))) | exact .tail (.tail (.tail (.tail (.tail .head))))) (by repeat constructor)) rfl ?_
    | refine lst_run (run_load1 rfl rfl (by first | assumption | exact hS.cell0 (by assumption) | exact lv_next hS | exact lv_list hS)) rfl ?_
  refine lst_done ?_
  refine goes_block ?_
  refine goes_seq ?_
  refine goes_region ?_
  first
    | refine lst_run (run_eql_one_int rfl rfl) rfl ?_
    | refine lst_run (run_eql_no rfl rfl (by first | assumption | omega)) rfl ?_
    | refine lst_run (run_eql_yes rfl rfl (by omega)) rfl ?_
    | refine lst_run (rfl) rfl ?_
  refine lst_run (run_assign (by conv => lhs; whnf)) rfl ?_
  refine lst_done ?_
  refine goes_false rfl ?_
  refine goes_seq ?_
  refine goes_region ?_
  first
    | refine lst_run (run_eql_one_int rfl rfl) rfl ?_
    | refine lst_run (run_eql_no rfl rfl (by first | assumption | omega)) rfl ?_
    | refine lst_run (run_eql_yes rfl rfl (by omega)) rfl ?_
    | refine lst_run (rfl) rfl ?_
  refine lst_run (run_assign (by conv => lhs; whnf)) rfl ?_
  refine lst_done ?_
  refine goes_false rfl ?_
  refine goes_skip ?_
  refine goes_inBlock ?_
  refine goes_seq ?_
  refine goes_region ?_
  refine lst_run (run_fieldAddr (off := 2) rfl rfl) rfl ?_
  first
    | refine lst_run (run_load1_own hS rfl rfl (by first | exact .head | exact .tail .head | exact .tail (.tail .head) | exact .tail (.tail (.tail .head)) | exact .tail (.tail (.tail (.tail .head))) | exact .tail (.tail (.tail (.tail (.tail .head))))) (by repeat constructor)) rfl ?_
    | refine lst_run (run_load1 rfl rfl (by first | assumption | exact hS.cell0 (by assumption) | exact lv_next hS | exact lv_list hS)) rfl ?_
  refine lst_run (run_build (cells := [_, _, _]) (.cons (by conv => lhs; whnf) (.cons (by conv => lhs; whnf) .nil)) rfl) rfl ?_
  refine lst_storeN hS rfl (by conv => lhs; whnf) rfl rfl (by first | exact .head | exact .tail .head | exact .tail (.tail .head) | exact .tail (.tail (.tail .head)) | exact .tail (.tail (.tail (.tail .head))) | exact .tail (.tail (.tail (.tail (.tail .head))))) (by repeat constructor) (by first | exact .head | exact .tail .head | exact .tail (.tail .head) | exact .tail (.tail (.tail .head)) | exact .tail (.tail (.tail (.tail .head))) | exact .tail (.tail (.tail (.tail (.tail .head))))) ?_
  clear hS
  intro wx3 hS
  refine lst_done ?_
  refine goes_retC (sz := 3) hS Tryd.func26 rfl rfl rfl rfl (by first | exact .head | exact .tail .head | exact .tail (.tail .head) | exact .tail (.tail (.tail .head)) | exact .tail (.tail (.tail (.tail .head))) | exact .tail (.tail (.tail (.tail (.tail .head))))) (by repeat constructor) ?_
  exact ⟨rfl, hS.drop.drop⟩
theorem variables_any (n : Nat) (hn : n ≤ 1000) (w : World) (hS : St M w0 H F w) :
    Calls Tryd.prog 13 #[.int .i64 (n : Nat)] w fun e w' => ∃ (A : Option Addr) (c : Nat) (O : List (Nat × Obj)), e = .returned (.slice A (varsB n).length c) ∧ Rw 50 3 (.slice A (varsB n).length c) (varsB n).length (hcsL (varsB n)) O ∧ St M w0 (O ++ H) F w' := by
  rw [varsB_len]
  refine goes_enter1 Tryd.func13 rfl Tryd.ntmps13 rfl ?_
  refine goes_seq ?_
  refine goes_region ?_
  refine lst_run (run_assign (by conv => lhs; whnf)) rfl ?_
  refine lst_done ?_
  refine goes_seq ?_
  refine goes_region ?_
  refine lst_run (run_move (by conv => lhs; whnf)) rfl ?_
  refine lst_make (k := n) (sz := 3) (bts := 32) hS rfl rfl rfl rfl (by omega) (by omega) rfl ?_
  clear hS
  intro b w2 cs hcl hS
  refine lst_run (run_assign (by conv => lhs; whnf)) rfl ?_
  refine lst_done ?_
  refine goes_seq ?_
  refine goes_seq ?_
  refine goes_region ?_
  refine lst_run (run_move (by conv => lhs; whnf)) rfl ?_
  refine lst_run (run_len_slice rfl rfl rfl) rfl ?_
  refine lst_run (run_move (by conv => lhs; whnf)) rfl ?_
  refine lst_done ?_
  refine goes_block ?_
  refine goes_loop1 9 (10 :: 11 :: 4 :: 12 :: 13 :: 14 :: 15 :: 16 :: 17 :: []) (fun (m : Nat) v w' => ∃ (i : Nat) (sp : List Value), i + m = n ∧ v = .int .i64 (i : Nat) ∧ sp.length = m * 3 ∧ St M w0 ((b, .cells (hcsL (varsF i 0) ++ sp).toArray 50) :: H) F w') (fun m => m) (n) ?_ (by conv => lhs; whnf) ?_
  · exact ⟨0, cs, by omega, rfl, hcl, hS⟩
  clear hS
  rintro m _ w3 jv ⟨i, sp, him, rfl, hsp, hS⟩ ih
  cases m with
  | zero =>
    obtain rfl : i = n := by omega
    obtain rfl : sp = [] := List.eq_nil_of_length_eq_zero (by omega)
    refine goes_seq ?_
    refine goes_region ?_
    first
      | refine lst_run (run_lss_yes rfl rfl (by omega)) rfl ?_
      | refine lst_run (run_lss_no rfl rfl (by omega)) rfl ?_
      | refine lst_run (rfl) rfl ?_
    refine lst_done ?_
    refine goes_seq ?_
    refine goes_false rfl ?_
    refine goes_exit rfl ?_
    refine goes_seq ?_
    refine goes_region ?_
    refine lst_run (run_move (by conv => lhs; whnf)) rfl ?_
    refine lst_run (run_assign (by conv => lhs; whnf)) rfl ?_
    refine lst_done ?_
    refine goes_ret1 Tryd.func13 rfl (by conv => lhs; whnf) ?_
    by_cases h0 : i = 0
    · subst h0
      exact ⟨_, _, [], rfl, Rw.zero_, hS.drop⟩
    · refine ⟨_, _, [(b, Obj.cells (hcsL (varsF i 0) ++ ([] : List Value)).toArray 50)], rfl, Rw.own_ (xs := hcsL (varsF i 0)) (sp := []) ?_ ?_ (Nat.le_refl _) (by omega), hS⟩
      · rw [hcsL_len, varsF_len]
      · rw [List.append_nil, hcsL_len, varsF_len]
  | succ m =>
    obtain ⟨a0, a1, a2, sp, rfl⟩ : ∃ a0 a1 a2 r, sp = a0 :: a1 :: a2 :: r := by
      match sp, hsp with
      | a0 :: a1 :: a2 :: r, _ => exact ⟨a0, a1, a2, r, rfl⟩
      | [], h => simp at h
      | [_], h => simp at h; omega
      | [_, _], h => simp at h; omega
    refine goes_seq ?_
    refine goes_region ?_
    first
      | refine lst_run (run_lss_yes rfl rfl (by omega)) rfl ?_
      | refine lst_run (run_lss_no rfl rfl (by omega)) rfl ?_
      | refine lst_run (rfl) rfl ?_
    refine lst_done ?_
    refine goes_seq ?_
    refine goes_true rfl ?_
    refine goes_skip ?_
    refine goes_seq ?_
    refine goes_block ?_
    refine goes_seq ?_
    refine goes_region ?_
    refine lst_run (run_move (by conv => lhs; whnf)) rfl ?_
    refine lst_run (run_assign (by conv => lhs; whnf)) rfl ?_
    refine lst_done ?_
    refine goes_region ?_
    refine lst_run (run_move (by conv => lhs; whnf)) rfl ?_
    refine lst_run (run_move (by conv => lhs; whnf)) rfl ?_
    refine lst_run (run_move (by conv => lhs; whnf)) rfl ?_
    refine lst_enter (run_call (by kernel_rfl) (args_1 (by conv => lhs; whnf))) rfl ?_
    refine Calls.mono (ref_any ((i : Nat) : Int) _ hS) ?_
    rintro _ w4 ⟨rfl, hS'⟩
    refine ⟨_, rfl, ?_⟩
    replace hS := hS'
    clear hS'
    refine lst_run (run_indexAddr (sz := 3) rfl rfl rfl rfl (by omega) (by omega)) rfl ?_
    have hlen := hcsL_len (varsF i 0)
    have hvl := varsF_len i 0
    refine lst_storeN hS rfl (by rfl) rfl rfl .head (putN_mid (hcsL (varsF i 0)) [a0, a1, a2] (hcs ⟨0, ((i : Nat) : Int), eS⟩) sp _ (by omega) rfl) .head ?_
    clear hS
    intro w5 hS
    refine lst_done ?_
    refine goes_inBlock ?_
    refine goes_region ?_
    refine lst_run (run_add rfl rfl (by omega) (by omega)) rfl ?_
    refine lst_run (run_move (by conv => lhs; whnf)) rfl ?_
    refine lst_done ?_
    refine ih (m) _ _ _ ?_ ?_ (by conv => lhs; whnf) (by kernel_rfl)
    · omega
    · refine ⟨i + 1, sp, by omega, by simp, by simp only [List.length_cons] at hsp; omega, ?_⟩
      rw [varsF_snoc, hcsL_app, Nat.zero_add]
      have e1 : hcsL (varsF i 0) ++ hcsL [⟨0, ((i : Nat) : Int), eS⟩] ++ sp = hcsL (varsF i 0) ++ (hcs ⟨0, ((i : Nat) : Int), eS⟩ ++ sp) := by simp [hcsL, hcs]
      rw [e1]; exact hS
end
end Go.Proofs.YtdflngjfnpbpmabDoor
namespace Go.Proofs.YtdflngjfnpbpmabDoor
open Go.RowKit
set_option linter.unusedVariables false
set_option linter.unusedSimpArgs false

theorem goodC_mono {n f f' : Nat} {c : HC} (hf : f ≤ f') (h : goodC n c f = true) : goodC n c f' = true := by
  rcases goodC_iff h with ⟨k, a, b, s⟩ | ⟨k, a, s⟩ | ⟨k, s⟩ | ⟨k, a, b, d, s⟩
  · unfold goodC; rw [if_pos k]; simp [a, b, s]
  · unfold goodC; rw [if_neg (by omega), if_pos k]; simp [a, s]
  · unfold goodC; rw [if_neg (by omega), if_neg (by omega), if_pos k]; simp [s]
  · unfold goodC; rw [if_neg (by omega), if_neg (by omega), if_neg (by omega), if_pos k]
    simp only [Bool.and_eq_true, decide_eq_true_eq, Bool.not_eq_true', decide_eq_false_iff_not]
    exact ⟨a, b, by omega, s⟩
theorem goodL_app {n : Nat} {Y : List HC} (hY : goodL n Y = true) : ∀ {X : List HC}, goodL n X = true → goodL n (X ++ Y) = true
  | [], _ => hY
  | c :: r, h => by
    simp only [goodL, Bool.and_eq_true, List.cons_append] at h ⊢
    exact ⟨goodC_mono (by simp) h.1, goodL_app hY h.2⟩
theorem name_some {s : ByteArray} (h : nameB s = true) : s ≠ eS := by
  intro e; subst e; exact absurd h (by decide)
theorem str_nil {s : ByteArray} (h : s.toList = []) : s = eS := by
  apply str_eq.1; rw [h]; kernel_rfl
/-- What a good node is. -/
theorem node_iff {vars k n : Int} {s : ByteArray} {l : Nat} (h : nodeB vars k n s l = true) : (k = 0 ∧ 0 ≤ n ∧ n < vars ∧ s = eS ∧ l = 0) ∨ (k = 1 ∧ n = 0 ∧ s ≠ eS ∧ l = 0) ∨ (k = 2 ∧ s = eS ∧ l = 0) ∨ (k = 3 ∧ n = 0 ∧ s ≠ eS ∧ 1 ≤ l ∧ l ≤ 4) := by
  unfold nodeB at h
  split at h
  · simp only [Bool.and_eq_true, decide_eq_true_eq] at h
    exact .inl ⟨‹_›, h.1.1.1, h.1.1.2, str_nil h.1.2, h.2⟩
  split at h
  · simp only [Bool.and_eq_true, decide_eq_true_eq] at h
    exact .inr (.inl ⟨‹_›, h.1.1, name_some h.1.2, h.2⟩)
  split at h
  · simp only [Bool.and_eq_true, decide_eq_true_eq] at h
    exact .inr (.inr (.inl ⟨‹_›, str_nil h.1.2, h.2⟩))
  split at h
  · simp only [Bool.and_eq_true, decide_eq_true_eq] at h
    exact .inr (.inr (.inr ⟨‹_›, h.1.1.1.1, name_some h.1.1.1.2, h.1.2, h.2⟩))
  · cases h
theorem good_cons {vars k n : Int} {s : ByteArray} {ar r : Ts} (h : (Ts.cons k n s ar r).good vars = true) : nodeB vars k n s ar.length = true ∧ ar.good vars = true ∧ r.good vars = true := by
  simp only [Ts.good, Bool.and_eq_true] at h
  exact ⟨h.1.1, h.1.2, h.2⟩
theorem Ts.good_ap (v : Int) (D R : Ts) : (D.app R).good v = (D.good v && R.good v) := by
  induction D with
  | nil => rfl
  | cons k n b ar r _ ih => simp only [Ts.app, Ts.good, ih, Bool.and_assoc]
theorem goodC_ref {n f : Nat} {i : Int} (h0 : 0 ≤ i) (h : i < n) : goodC n ⟨0, i, eS⟩ f = true := by unfold goodC; simp [h, h0]
theorem goodC_name {n f : Nat} {s : ByteArray} (h : s ≠ eS) : goodC n ⟨1, 0, s⟩ f = true := by unfold goodC; simp [h]
theorem goodC_num {n f : Nat} {i : Int} : goodC n ⟨2, i, eS⟩ f = true := by unfold goodC; simp
theorem goodC_frame {n f l : Nat} {s : ByteArray} (h : s ≠ eS) (h1 : 1 ≤ l) (h2 : l ≤ 4) (h3 : l ≤ f) : goodC n ⟨3, (l : Nat), s⟩ f = true := by
  unfold goodC; simp [h]; omega
theorem layA_good {vars : Int} {all : Nat} (hv : vars ≤ all) (T : Ts) : ∀ p, T.good vars = true → p + (layA T p).2.length ≤ all → goodL all (layA T p).1 = true ∧ goodL all (layA T p).2 = true := by
  induction T with
  | nil => intro p _ _; exact ⟨rfl, rfl⟩
  | cons k n s ar r iha ihr =>
    intro p hg hp
    obtain ⟨hn, ha, hr⟩ := good_cons hg
    rcases node_iff hn with ⟨rfl, h0, h1, h2, h3⟩ | ⟨rfl, h0, h1, h2⟩ | ⟨rfl, h0, h1⟩ | ⟨rfl, h0, h1, h2, h3⟩
    · rw [layA_one _ _ _ _ _ (by decide)] at hp ⊢
      obtain ⟨i1, i2⟩ := ihr p hr hp
      refine ⟨?_, i2⟩
      simp only [goodL, Bool.and_eq_true]
      exact ⟨goodC_ref h0 (by omega), i1⟩
    · rw [layA_one _ _ _ _ _ (by decide)] at hp ⊢
      obtain ⟨i1, i2⟩ := ihr p hr hp
      refine ⟨?_, i2⟩
      simp only [goodL, Bool.and_eq_true]
      exact ⟨goodC_name h1, i1⟩
    · rw [layA_one _ _ _ _ _ (by decide)] at hp ⊢
      obtain ⟨i1, i2⟩ := ihr p hr hp
      refine ⟨?_, i2⟩
      simp only [goodL, Bool.and_eq_true]
      exact ⟨goodC_num, i1⟩
    · rw [layA_comp] at hp ⊢
      have hls := layS_len s ar p
      simp only [List.length_append] at hp
      obtain ⟨a1, a2⟩ := iha (p + 1 + ar.length) ha (by omega)
      obtain ⟨i1, i2⟩ := ihr (p + (layS s ar p).length) hr (by omega)
      refine ⟨?_, goodL_app i2 ?_⟩
      · simp only [goodL, Bool.and_eq_true]
        exact ⟨goodC_ref (by omega) (by omega), i1⟩
      · unfold layS
        simp only [goodL, Bool.and_eq_true]
        exact ⟨goodC_frame h1 h2 h3 (by rw [List.length_append, layA_len]; omega), goodL_app a2 a1⟩
theorem lay1_good {vars k n : Int} {s : ByteArray} {ar : Ts} {all p : Nat} (hv : vars ≤ all) (h : gB vars k n s ar = true) (hp : p + (lay1 k n s ar p).length ≤ all) : goodL all (lay1 k n s ar p) = true := by
  simp only [gB, goalB, Bool.and_eq_true, Bool.or_eq_true, decide_eq_true_eq] at h
  obtain ⟨hn, ha, _⟩ := good_cons h.1.2
  rcases node_iff hn with ⟨rfl, _⟩ | ⟨rfl, h0, h1, h2⟩ | ⟨rfl, _⟩ | ⟨rfl, h0, h1, h2, h3⟩
  · rcases h.1.1 with h | h <;> omega
  · unfold lay1
    rw [if_neg (by decide)]
    simp only [goodL, Bool.and_eq_true, and_true]
    exact goodC_name h1
  · rcases h.1.1 with h | h <;> omega
  · unfold lay1 at hp ⊢
    rw [if_pos rfl] at hp ⊢
    have hls := layS_len s ar p
    obtain ⟨a1, a2⟩ := layA_good hv ar (p + 1 + ar.length) ha (by omega)
    unfold layS
    simp only [goodL, Bool.and_eq_true]
    exact ⟨goodC_frame h1 h2 h3 (by rw [List.length_append, layA_len]; omega), goodL_app a2 a1⟩
theorem layL_good {vars : Int} {all : Nat} (hv : vars ≤ all) (T : Ts) : ∀ p, T.goals vars = true → p + (layL T p).1.length ≤ all → goodL all (layL T p).1 = true := by
  induction T with
  | nil => intro p _ _; rfl
  | cons k n s ar r _ ihr =>
    intro p hg hp
    simp only [Ts.goals, Bool.and_eq_true] at hg
    simp only [layL, List.length_append] at hp ⊢
    exact goodL_app (ihr _ hg.2 (by omega)) (lay1_good hv hg.1 (by omega))
theorem varsF_good {all : Nat} : ∀ m i, i + m ≤ all → goodL all (varsF m i) = true
  | 0, i, _ => rfl
  | m + 1, i, h => by
    simp only [varsF, goodL, Bool.and_eq_true]
    exact ⟨goodC_ref (by omega) (by omega), varsF_good m (i + 1) (by omega)⟩
/-- What a good clause is. -/
theorem cB_iff {c : Cl} (h : cB c = true) : 0 ≤ c.vars ∧ c.vars ≤ 8 ∧ c.bd.length ≤ 5 ∧ c.bd.goals c.vars = true ∧ gB c.vars c.k c.n c.s c.hd = true := by
  simp only [cB, qB, Bool.and_eq_true, decide_eq_true_eq] at h
  exact ⟨h.1.1.1.1.1, h.1.1.1.1.2, h.1.1.1.2, h.1.1.2, h.1.2⟩
theorem gB_nodes {vars k n : Int} {s : ByteArray} {ar : Ts} (h : gB vars k n s ar = true) : ar.nodes + 1 ≤ 24 := by
  simp only [gB, Bool.and_eq_true, decide_eq_true_eq] at h
  exact h.2
theorem blockC_len {c : Cl} (h : cB c = true) : (blockC c).length ≤ 300 := by
  obtain ⟨h0, h1, h2, h3, h4⟩ := cB_iff h
  have h5 := gB_nodes h4
  have h6 := Ts.goals_nodes _ _ h3
  have h7 := lay1_le c.k c.n c.s c.hd c.vars.toNat
  have h8 := layL_le c.bd (c.vars.toNat + (lay1 c.k c.n c.s c.hd c.vars.toNat).length)
  simp only [blockC, List.length_append, varsB_len]
  omega
theorem blockC_good {c : Cl} (h : cB c = true) : goodCs (blockC c) = true := by
  obtain ⟨h0, h1, h2, h3, h4⟩ := cB_iff h
  have hl := blockC_len h
  unfold goodCs
  simp only [Bool.and_eq_true, decide_eq_true_eq]
  refine ⟨by omega, ?_⟩
  have he : (blockC c).length = c.vars.toNat + ((lay1 c.k c.n c.s c.hd c.vars.toNat).length + (layL c.bd (c.vars.toNat + (lay1 c.k c.n c.s c.hd c.vars.toNat).length)).1.length) := by
    simp only [blockC, List.length_append, varsB_len]
  unfold blockC
  refine goodL_app (goodL_app (layL_good (vars := c.vars) (by unfold blockC at he; omega) _ _ h3 (by unfold blockC at he; omega)) (lay1_good (vars := c.vars) (by unfold blockC at he; omega) h4 (by unfold blockC at he; omega))) (varsF_good _ _ (by unfold blockC at he; omega))
end Go.Proofs.YtdflngjfnpbpmabDoor
namespace Go.Proofs.YtdflngjfnpbpmabDoor
open Go.RowKit
set_option linter.unusedVariables false
set_option linter.unusedSimpArgs false
set_option maxRecDepth 100000
set_option maxHeartbeats 1000000

theorem set_mid {α : Type} (P Q : List α) (z c : α) : (P ++ z :: Q).set P.length c = P ++ c :: Q := by
  induction P with
  | nil => rfl
  | cons p P ih => simp only [List.cons_append, List.length_cons, List.set_cons_succ, ih]
/-- The cells as they are when the arguments D are laid, and so many are left. -/
def midS (cs : List HC) (s : ByteArray) (l : Nat) (D : Ts) (m : Nat) : List HC := cs ++ (⟨3, (l : Nat), s⟩ :: ((layA D (cs.length + 1 + l)).1 ++ (List.replicate m zC ++ (layA D (cs.length + 1 + l)).2)))
theorem midS_len (cs : List HC) (s : ByteArray) (l : Nat) (D : Ts) (m : Nat) : (midS cs s l D m).length = cs.length + 1 + D.length + m + (layA D (cs.length + 1 + l)).2.length := by
  simp only [midS, List.length_append, List.length_cons, List.length_replicate, layA_len]; omega
theorem midS_set (cs : List HC) (s : ByteArray) (l : Nat) (D : Ts) (m : Nat) (c : HC) : (midS cs s l D (m + 1)).set (cs.length + 1 + D.length) c = cs ++ (⟨3, (l : Nat), s⟩ :: ((layA D (cs.length + 1 + l)).1 ++ (c :: (List.replicate m zC ++ (layA D (cs.length + 1 + l)).2)))) := by
  have h := set_mid (cs ++ (⟨3, (l : Nat), s⟩ :: (layA D (cs.length + 1 + l)).1)) (List.replicate m zC ++ (layA D (cs.length + 1 + l)).2) zC c
  have hl : (cs ++ (⟨3, (l : Nat), s⟩ :: (layA D (cs.length + 1 + l)).1)).length = cs.length + 1 + D.length := by simp only [List.length_append, List.length_cons, layA_len]; omega
  rw [hl] at h
  have e1 : midS cs s l D (m + 1) = (cs ++ (⟨3, (l : Nat), s⟩ :: (layA D (cs.length + 1 + l)).1)) ++ zC :: (List.replicate m zC ++ (layA D (cs.length + 1 + l)).2) := by
    simp only [midS, List.replicate_succ, List.append_assoc, List.cons_append]
  rw [e1, h]
  simp only [List.append_assoc, List.cons_append]
theorem midS_one (cs : List HC) (s1 : ByteArray) (l : Nat) (D : Ts) (m : Nat) {k : Int} (n : Int) (s : ByteArray) (ar : Ts) (hk : k ≠ 3) : (midS cs s1 l D (m + 1)).set (cs.length + 1 + D.length) (single k n s) = midS cs s1 l (D.app (.cons k n s ar .nil)) m := by
  rw [midS_set]
  unfold midS
  rw [layA_app, layA_one _ _ _ _ _ hk]
  simp [layA]
theorem midS_comp (cs : List HC) (s1 : ByteArray) (l : Nat) (D : Ts) (m : Nat) (n : Int) (s : ByteArray) (ar : Ts) (hl : l = D.length + (m + 1)) : (midS cs s1 l D (m + 1)).set (cs.length + 1 + D.length) ⟨0, ((midS cs s1 l D (m + 1)).length : Nat), eS⟩ ++ lay1 3 n s ar (midS cs s1 l D (m + 1)).length = midS cs s1 l (D.app (.cons 3 n s ar .nil)) m := by
  have hp : (midS cs s1 l D (m + 1)).length = cs.length + 1 + l + (layA D (cs.length + 1 + l)).2.length := by rw [midS_len]; omega
  rw [midS_set, hp]
  unfold midS lay1
  rw [layA_app, layA_comp, if_pos rfl]
  simp [layA]
theorem midS_start (cs : List HC) (s : ByteArray) (l : Nat) : midS cs s l .nil l = (cs ++ [⟨3, (l : Nat), s⟩]) ++ List.replicate l zC := by simp [midS, layA]
theorem midS_end (cs : List HC) (n : Int) (s : ByteArray) (T : Ts) : midS cs s T.length T 0 = cs ++ lay1 3 n s T cs.length := by
  unfold midS lay1 layS
  rw [if_pos rfl]
  simp
def StoreSaid (T : TA) : Prop := ∀ (M : List Nat) (w0 : World) (H : List (Nat × Obj)) (F : List (World → Prop)) (vars k n : Int) (s : ByteArray) (A : Option Addr) (c : Nat) (cs : List HC) (v : Value) (O : List (Nat × Obj)) (w : World),
  Und F (ArA A c T) → (Ts.cons k n s T.ts .nil).good vars = true → cs.length + 2 * T.ts.nodes + 2 ≤ 1000000 → Rw 50 3 v cs.length (hcsL cs) O → St M w0 (O ++ H) F w →
    Calls Tryd.prog 14 #[v, .agg #[.int .i64 k, .int .i64 n, .string s, .slice A T.len c]] w fun e w' => ∃ (A' : Option Addr) (c' : Nat) (O' : List (Nat × Obj)), e = .returned (.slice A' (cs ++ lay1 k n s T.ts cs.length).length c') ∧
      Rw 50 3 (.slice A' (cs ++ lay1 k n s T.ts cs.length).length c') (cs ++ lay1 k n s T.ts cs.length).length (hcsL (cs ++ lay1 k n s T.ts cs.length)) O' ∧ St M w0 (O' ++ H) F w'
theorem store_of (T : TA) (ihT : ∀ U : TA, U.ts.nodes < T.ts.nodes → StoreSaid U) : StoreSaid T := by
  intro M w0 H F vars k n s A c cs v O w hA hg hb hrow hS
  obtain ⟨A1, c1, rfl, hc1⟩ := hrow.form
  have hln := Ts.length_le T.ts
  rw [TA.len_ts] at hln
  refine goes_enter2 Tryd.func14 rfl Tryd.ntmps14 rfl ?_
  by_cases hk : k = 3
  · subst hk
    have hTl : 1 ≤ T.len := by
      rcases node_iff (good_cons hg).1 with h | h | h | h
      · omega
      · omega
      · omega
      · rw [← TA.len_ts]; omega
    refine goes_seq ?_
    refine goes_region ?_
    refine lst_box hS rfl rfl ?_
    clear hS
    intro b1 wx1 hS
    refine lst_run (run_assign (by conv => lhs; whnf)) rfl ?_
    refine lst_done ?_
    refine goes_seq ?_
    refine goes_seq ?_
    refine goes_region ?_
    refine lst_run (run_fieldAddr (off := 0) rfl rfl) rfl ?_
    first
      | refine lst_run (run_load1_own hS rfl rfl (by first | exact .head | exact .tail .head | exact .tail (.tail .head) | exact .tail (.tail (.tail .head)) | exact .tail (.tail (.tail (.tail .head))) | exact .tail (.tail (.tail (.tail (.tail .head))))) (by repeat constructor)) rfl ?_
      | refine lst_run (run_load1 rfl rfl (by first | assumption | exact hS.cell0 (by assumption) | exact lv_next hS | exact lv_list hS)) rfl ?_
    first
      | refine lst_run (run_neq_one_int rfl rfl) rfl ?_
      | refine lst_run (run_neq_no rfl rfl (by first | assumption | omega)) rfl ?_
      | refine lst_run (run_neq_yes rfl rfl (by omega)) rfl ?_
      | refine lst_run (rfl) rfl ?_
    refine lst_done ?_
    refine goes_false rfl ?_
    refine goes_skip ?_
    refine goes_seq ?_
    refine goes_region ?_
    refine lst_run (run_move (by conv => lhs; whnf)) rfl ?_
    refine lst_run (run_fieldAddr (off := 3) rfl rfl) rfl ?_
    first
      | refine lst_run (run_load1_own hS rfl rfl (by first | exact .head | exact .tail .head | exact .tail (.tail .head) | exact .tail (.tail (.tail .head)) | exact .tail (.tail (.tail (.tail .head))) | exact .tail (.tail (.tail (.tail (.tail .head))))) (by repeat constructor)) rfl ?_
      | refine lst_run (run_load1 rfl rfl (by first | assumption | exact hS.cell0 (by assumption) | exact lv_next hS | exact lv_list hS)) rfl ?_
    refine lst_run (run_len_slice rfl rfl rfl) rfl ?_
    refine lst_run (run_fieldAddr (off := 2) rfl rfl) rfl ?_
    first
      | refine lst_run (run_load1_own hS rfl rfl (by first | exact .head | exact .tail .head | exact .tail (.tail .head) | exact .tail (.tail (.tail .head)) | exact .tail (.tail (.tail (.tail .head))) | exact .tail (.tail (.tail (.tail (.tail .head))))) (by repeat constructor)) rfl ?_
      | refine lst_run (run_load1 rfl rfl (by first | assumption | exact hS.cell0 (by assumption) | exact lv_next hS | exact lv_list hS)) rfl ?_
    refine lst_run (run_build (cells := [_, _, _]) (.cons (by conv => lhs; whnf) (.cons (by conv => lhs; whnf) (.cons (by conv => lhs; whnf) .nil))) rfl) rfl ?_
    refine lst_buildSlice (cells := [_, _, _]) hS (.cons (by conv => lhs; whnf) .nil) rfl rfl ?_
    clear hS
    intro b2 wx2 hS
    refine lst_appC (L := [⟨3, (T.len : Nat), s⟩]) hS (by conv => lhs; whnf) (by rfl) rfl rfl rfl (Flat.own (sp := []) (hS.own (_, _) (.head _)) rfl (Nat.le_refl _)) hrow (List.perm_append_comm_assoc [_, _] O _) (by simp; omega) rfl ?_
    clear hS
    intro v7 O7 w7 hrow7 hS
    change Rw _ _ _ (cs.length + 1) _ _ at hrow7
    obtain ⟨B7, d7, rfl, _⟩ := hrow7.form
    replace hS := (hS.perm (List.perm_append_comm_assoc O7 [_, _] _)).drop
    refine lst_run (run_assign (by conv => lhs; whnf)) rfl ?_
    refine lst_done ?_
    refine goes_seq ?_
    refine goes_region ?_
    refine lst_run (run_move (by conv => lhs; whnf)) rfl ?_
    refine lst_run (run_len_slice rfl rfl rfl) rfl ?_
    refine lst_run (run_assign (by conv => lhs; whnf)) rfl ?_
    refine lst_done ?_
    refine goes_seq ?_
    refine goes_region ?_
    refine lst_run (run_move (by conv => lhs; whnf)) rfl ?_
    refine lst_run (run_fieldAddr (off := 3) rfl rfl) rfl ?_
    first
      | refine lst_run (run_load1_own hS rfl rfl (by first | exact .head | exact .tail .head | exact .tail (.tail .head) | exact .tail (.tail (.tail .head)) | exact .tail (.tail (.tail (.tail .head))) | exact .tail (.tail (.tail (.tail (.tail .head))))) (by repeat constructor)) rfl ?_
      | refine lst_run (run_load1 rfl rfl (by first | assumption | exact hS.cell0 (by assumption) | exact lv_next hS | exact lv_list hS)) rfl ?_
    refine lst_run (run_len_slice rfl rfl rfl) rfl ?_
    obtain ⟨i, z, i2, i3, i4, i5, i6⟩ := rowP_some (P := Tryd.prog) (el := 50) (sz := 3) (bts := 32) rfl
    have hzc : z.cells = #[.int .i64 0, .int .i64 0, .string eS] := by
      have : zeroP Tryd.prog 50 = some (.agg #[.int .i64 0, .int .i64 0, .string eS]) := by kernel_rfl
      unfold zeroP at this
      rw [i2] at this
      simp only [Option.bind_some] at this
      rw [i3] at this
      rw [Option.some.inj this]; rfl
    refine lst_appZ (k := T.len) (zs := hcsL (List.replicate T.len zC)) (ki := .i64) hS (by conv => lhs; whnf) (by rfl) rfl rfl i2 i3 i4 (by omega) (by rw [hzc]; exact zero_hcs _) (fun u hu => List.all_eq_true.1 (hcsL_one _) u hu) (by rw [i5]; exact hrow7) (by omega) hTl (List.perm_append_comm_assoc [_] O7 _) (by rw [i6]; omega) (by omega) rfl ?_
    rw [i5]
    clear hS
    intro v8 O8 w8 hrow8 hS
    obtain ⟨B8, d8, rfl, _⟩ := hrow8.form
    replace hS := hS.perm (List.perm_append_comm_assoc O8 [_] _)
    clear i2 i3 i4 i5 i6 hzc
    have e8 : (midS cs s T.len .nil T.len).length = cs.length + 1 + T.len := by rw [midS_len]; simp [Ts.length, layA]
    have hrow9 : Rw 50 3 (.slice B8 (midS cs s T.len .nil T.len).length d8) (midS cs s T.len .nil T.len).length (hcsL (midS cs s T.len .nil T.len)) O8 := by
      rw [e8, midS_start, hcsL_app, hcsL_app]; exact hrow8
    refine lst_run (run_assign (by conv => lhs; whnf)) rfl ?_
    refine lst_done ?_
    refine goes_seq ?_
    refine goes_seq ?_
    refine goes_region ?_
    refine lst_run (run_fieldAddr (off := 3) rfl rfl) rfl ?_
    first
      | refine lst_run (run_load1_own hS rfl rfl (by first | exact .head | exact .tail .head | exact .tail (.tail .head) | exact .tail (.tail (.tail .head)) | exact .tail (.tail (.tail (.tail .head))) | exact .tail (.tail (.tail (.tail (.tail .head))))) (by repeat constructor)) rfl ?_
      | refine lst_run (run_load1 rfl rfl (by first | assumption | exact hS.cell0 (by assumption) | exact lv_next hS | exact lv_list hS)) rfl ?_
    refine lst_run (run_len_slice rfl rfl rfl) rfl ?_
    refine lst_run (run_move (by conv => lhs; whnf)) rfl ?_
    refine lst_done ?_
    refine goes_block ?_
    refine goes_loop2 35 0 (36 :: 37 :: 38 :: 39 :: 7 :: 6 :: 40 :: 41 :: 42 :: 43 :: 44 :: 45 :: 46 :: 47 :: 48 :: 49 :: 50 :: 51 :: 52 :: 53 :: 54 :: 55 :: 56 :: 57 :: 58 :: 59 :: 60 :: 61 :: []) (fun (R : TA) y u w' => ∃ (D : TA) (Au : Option Addr) (cu : Nat) (Ou : List (Nat × Obj)), T = D.app R ∧ y = .int .i64 (D.len : Nat) ∧ u = .slice Au (midS cs s T.len D.ts R.len).length cu ∧ Rw 50 3 (.slice Au (midS cs s T.len D.ts R.len).length cu) (midS cs s T.len D.ts R.len).length (hcsL (midS cs s T.len D.ts R.len)) Ou ∧ St M w0 ((b1, .cells [.int .i64 3, .int .i64 n, .string s, .slice A T.len c].toArray 24) :: (Ou ++ H)) F w') (fun R => R.len) (T) ?_ (by conv => lhs; whnf) (by conv => lhs; whnf) ?_
    · exact ⟨.nil, B8, d8, O8, rfl, rfl, by rw [show TA.nil.ts = Ts.nil from rfl, e8], hrow9, hS⟩
    clear hS hrow7 hrow8 hrow9 e8
    rintro R _ _ w3 jv ⟨D, Au, cu, Ou, hD, rfl, rfl, hrow, hS⟩ ih
    have hlen : T.len = D.len + R.len := by rw [hD, TA.len_app]
    have hml := midS_len cs s T.len D.ts R.len
    rw [TA.len_ts] at hml
    have hTn : T.ts.nodes = D.ts.nodes + R.ts.nodes := by rw [hD, TA.app_ts, Ts.nodes_app]
    have hle := layA_le D.ts (cs.length + 1 + T.len)
    cases R with
    | nil =>
      have hTD : T = D := by rw [hD, TA.app_nil]
      subst hTD
      refine goes_seq ?_
      refine goes_region ?_
      first
        | refine lst_run (run_lss_yes rfl rfl (by omega)) rfl ?_
        | refine lst_run (run_lss_no rfl rfl (by omega)) rfl ?_
        | refine lst_run (rfl) rfl ?_
      refine lst_done ?_
      refine goes_seq ?_
      refine goes_false rfl ?_
      refine goes_exit rfl ?_
      refine goes_seq ?_
      refine goes_region ?_
      refine lst_run (run_move (by conv => lhs; whnf)) rfl ?_
      refine lst_run (run_assign (by conv => lhs; whnf)) rfl ?_
      refine lst_done ?_
      refine goes_ret1 Tryd.func14 rfl (by conv => lhs; whnf) ?_
      have em : midS cs s T.len T.ts TA.nil.len = cs ++ lay1 3 n s T.ts cs.length := by rw [← TA.len_ts]; exact midS_end cs n s T.ts
      rw [em] at hrow
      rw [em]
      exact ⟨Au, cu, Ou, rfl, hrow, hS.drop⟩
    | cons k1 n1 s1 Aa ca a1 r =>
      have hRl : (TA.cons k1 n1 s1 Aa ca a1 r).len = r.len + 1 := rfl
      have hDl := TA.len_ts D
      have hrl := Ts.length_le r.ts
      rw [TA.len_ts] at hrl
      have hR1 : (TA.cons k1 n1 s1 Aa ca a1 r).ts.nodes = a1.ts.nodes + r.ts.nodes + 1 := rfl
      have hg1 : (Ts.cons k1 n1 s1 a1.ts .nil).good vars = true := by
        have := (good_cons hg).2.1
        rw [hD, TA.app_ts, Ts.good_ap] at this
        simp only [Bool.and_eq_true] at this
        obtain ⟨x1, x2, _⟩ := good_cons this.2
        simp only [Ts.good, Bool.and_eq_true, and_true]
        exact ⟨x1, x2⟩
      have hA' : Und F (ArA A c (D.app (.cons k1 n1 s1 Aa ca a1 r))) := by rw [← hD]; exact hA
      obtain ⟨bk, ok, rfl⟩ := (hS.und hA').some_ (by rw [TA.len_app]; simp only [TA.len]; omega)
      have hcc : ∀ {H'} w', St M w0 H' F w' → _ := fun w' hS => (hS.und hA').cells
      have hsub : Und F (ArA Aa ca a1) := fun w hw => (hA' w hw).sub
      obtain ⟨g, sp, rfl, rfl, hcap, hlc, _⟩ := hrow.some_ (by omega)
      have hcr : ∀ (X : List HC) (sp2 : List Value), X.length = (midS cs s T.len D.ts (TA.cons k1 n1 s1 Aa ca a1 r).len).length → sp2 = sp → Rw 50 3 (.slice (some ⟨g, 0, none⟩) X.length cu) X.length (hcsL X) [(g, .cells (hcsL X ++ sp2).toArray 50)] := by
        rintro X _ hX rfl
        refine Rw.own_ (hcsL_len X) ?_ (by omega) (by omega)
        rw [← hcap]; simp only [List.length_append, hcsL_len, hX]
      have hput := fun c => hcsL_putC (midS cs s T.len D.ts (TA.cons k1 n1 s1 Aa ca a1 r).len) sp (((cs.length + 1 : Nat) : Int) + ((D.len : Nat) : Int)).toNat c (by omega)
      have hin : (((cs.length + 1 : Nat) : Int) + ((D.len : Nat) : Int)).toNat = cs.length + 1 + D.ts.length := by rw [TA.len_ts]; omega
      by_cases hk1 : k1 = 3
      · subst hk1
        refine goes_seq ?_
        refine goes_region ?_
        first
          | refine lst_run (run_lss_yes rfl rfl (by omega)) rfl ?_
          | refine lst_run (run_lss_no rfl rfl (by omega)) rfl ?_
          | refine lst_run (rfl) rfl ?_
        refine lst_done ?_
        refine goes_seq ?_
        refine goes_true rfl ?_
        refine goes_skip ?_
        refine goes_seq ?_
        refine goes_block ?_
        refine goes_seq ?_
        refine goes_region ?_
        refine lst_run (run_move (by conv => lhs; whnf)) rfl ?_
        refine lst_run (run_indexAddr (sz := 4) rfl rfl rfl rfl (by omega) (by omega)) rfl ?_
        first
          | refine lst_run (run_loadN_own (k := 4) hS rfl rfl rfl (by first | exact .head | exact .tail .head | exact .tail (.tail .head) | exact .tail (.tail (.tail .head)) | exact .tail (.tail (.tail (.tail .head))) | exact .tail (.tail (.tail (.tail (.tail .head))))) (by repeat constructor)) rfl ?_
          | refine lst_run (run_load4 rfl rfl rfl (by first | assumption | exact (hcc _ hS).1 | exact (hcc _ hS).2.1 | exact (hcc _ hS).2.2.1 | exact (hcc _ hS).2.2.2 | exact hS.cell0 (by assumption)) (by first | assumption | exact (hcc _ hS).1 | exact (hcc _ hS).2.1 | exact (hcc _ hS).2.2.1 | exact (hcc _ hS).2.2.2 | exact hS.cell0 (by assumption)) (by first | assumption | exact (hcc _ hS).1 | exact (hcc _ hS).2.1 | exact (hcc _ hS).2.2.1 | exact (hcc _ hS).2.2.2 | exact hS.cell0 (by assumption)) (by first | assumption | exact (hcc _ hS).1 | exact (hcc _ hS).2.1 | exact (hcc _ hS).2.2.1 | exact (hcc _ hS).2.2.2 | exact hS.cell0 (by assumption))) rfl ?_
        refine lst_alloc (cs := [_, _, _, _]) hS rfl rfl rfl ?_
        clear hS
        intro b3 wx3 hS
        refine lst_run (run_assign (by conv => lhs; whnf)) rfl ?_
        refine lst_storeN hS rfl (by conv => lhs; whnf) rfl rfl (by first | exact .head | exact .tail .head | exact .tail (.tail .head) | exact .tail (.tail (.tail .head)) | exact .tail (.tail (.tail (.tail .head))) | exact .tail (.tail (.tail (.tail (.tail .head))))) (by repeat constructor) (by first | exact .head | exact .tail .head | exact .tail (.tail .head) | exact .tail (.tail (.tail .head)) | exact .tail (.tail (.tail (.tail .head))) | exact .tail (.tail (.tail (.tail (.tail .head))))) ?_
        clear hS
        intro wx4 hS
        refine lst_done ?_
        refine goes_seq ?_
        refine goes_seq ?_
        refine goes_region ?_
        refine lst_run (run_fieldAddr (off := 0) rfl rfl) rfl ?_
        first
          | refine lst_run (run_load1_own hS rfl rfl (by first | exact .head | exact .tail .head | exact .tail (.tail .head) | exact .tail (.tail (.tail .head)) | exact .tail (.tail (.tail (.tail .head))) | exact .tail (.tail (.tail (.tail (.tail .head))))) (by repeat constructor)) rfl ?_
          | refine lst_run (run_load1 rfl rfl (by first | assumption | exact (hcc _ hS).1 | exact (hcc _ hS).2.1 | exact (hcc _ hS).2.2.1 | exact (hcc _ hS).2.2.2 | exact hS.cell0 (by assumption) | exact lv_next hS | exact lv_list hS)) rfl ?_
        first
          | refine lst_run (run_neq_one_int rfl rfl) rfl ?_
          | refine lst_run (run_neq_no rfl rfl (by first | assumption | omega)) rfl ?_
          | refine lst_run (run_neq_yes rfl rfl (by omega)) rfl ?_
          | refine lst_run (rfl) rfl ?_
        refine lst_done ?_
        refine goes_false rfl ?_
        refine goes_skip ?_
        refine goes_seq ?_
        refine goes_region ?_
        refine lst_run (run_move (by conv => lhs; whnf)) rfl ?_
        refine lst_run (run_move (by conv => lhs; whnf)) rfl ?_
        refine lst_run (run_move (by conv => lhs; whnf)) rfl ?_
        refine lst_run (run_add rfl rfl (by omega) (by omega)) rfl ?_
        refine lst_run (run_move (by conv => lhs; whnf)) rfl ?_
        refine lst_run (run_len_slice rfl rfl rfl) rfl ?_
        refine lst_enter (run_call (by kernel_rfl) (args_1 (by conv => lhs; whnf))) rfl ?_
        refine Calls.mono (ref_any ((midS cs s T.len D.ts (TA.cons 3 n1 s1 Aa ca a1 r).len).length : Nat) _ hS) ?_
        rintro _ w4 ⟨rfl, hS'⟩
        refine ⟨_, rfl, ?_⟩
        replace hS := hS'
        clear hS'
        refine lst_run (run_indexAddr (sz := 3) rfl rfl rfl rfl (by omega) (by omega)) rfl ?_
        refine lst_storeN hS rfl (by rfl) rfl rfl (.tail (.tail .head)) (by rw [Nat.zero_add]; exact hput _) (.tail (.tail .head)) ?_
        clear hS
        intro w5 hS
        refine lst_done ?_
        refine goes_region ?_
        refine lst_run (run_move (by conv => lhs; whnf)) rfl ?_
        first
          | refine lst_run (run_loadN_own (k := 4) hS rfl rfl rfl (by first | exact .head | exact .tail .head | exact .tail (.tail .head) | exact .tail (.tail (.tail .head)) | exact .tail (.tail (.tail (.tail .head))) | exact .tail (.tail (.tail (.tail (.tail .head))))) (by repeat constructor)) rfl ?_
          | refine lst_run (run_load4 rfl rfl rfl (by first | assumption | exact (hcc _ hS).1 | exact (hcc _ hS).2.1 | exact (hcc _ hS).2.2.1 | exact (hcc _ hS).2.2.2 | exact hS.cell0 (by assumption)) (by first | assumption | exact (hcc _ hS).1 | exact (hcc _ hS).2.1 | exact (hcc _ hS).2.2.1 | exact (hcc _ hS).2.2.2 | exact hS.cell0 (by assumption)) (by first | assumption | exact (hcc _ hS).1 | exact (hcc _ hS).2.1 | exact (hcc _ hS).2.2.1 | exact (hcc _ hS).2.2.2 | exact hS.cell0 (by assumption)) (by first | assumption | exact (hcc _ hS).1 | exact (hcc _ hS).2.1 | exact (hcc _ hS).2.2.1 | exact (hcc _ hS).2.2.2 | exact hS.cell0 (by assumption))) rfl ?_
        have hX : ((midS cs s T.len D.ts (TA.cons 3 n1 s1 Aa ca a1 r).len).set (((cs.length + 1 : Nat) : Int) + ((D.len : Nat) : Int)).toNat ⟨0, ((midS cs s T.len D.ts (TA.cons 3 n1 s1 Aa ca a1 r).len).length : Nat), eS⟩).length = (midS cs s T.len D.ts (TA.cons 3 n1 s1 Aa ca a1 r).len).length := by rw [List.length_set]
        have hcomp := midS_comp cs s T.len D.ts r.len n1 s1 a1.ts (by rw [TA.len_ts]; omega)
        rw [← hin, ← hRl] at hcomp
        have hrowX := hcr _ sp hX rfl
        have hcall := ihT a1 (by omega) M w0 ((b3, .cells [.int .i64 3, .int .i64 n1, .string s1, .slice Aa a1.len ca].toArray 24) :: (b1, .cells [.int .i64 3, .int .i64 n, .string s, .slice (some ⟨bk, ok, none⟩) T.len c].toArray 24) :: H) F vars 3 n1 s1 Aa ca _ _ _ _ hsub hg1 (by rw [hX]; omega) hrowX (hS.perm (List.perm_append_comm_assoc [_, _] [_] _))
        rw [hX, hcomp] at hcall
        refine lst_enter (run_call (by kernel_rfl) (args_2 (by conv => lhs; whnf) (by conv => lhs; whnf))) rfl ?_
        refine Calls.mono (hcall) ?_
        rintro _ w6 ⟨A6, c6, O6, rfl, hrow6, hS'⟩
        refine ⟨_, rfl, ?_⟩
        replace hS := hS'
        clear hS'
        replace hS := (hS.perm (List.perm_append_comm_assoc O6 [_, _] _)).drop
        refine lst_run (run_assign (by conv => lhs; whnf)) rfl ?_
        refine lst_done ?_
        refine goes_inBlock ?_
        refine goes_region ?_
        refine lst_run (run_add rfl rfl (by omega) (by omega)) rfl ?_
        refine lst_run (run_move (by conv => lhs; whnf)) rfl ?_
        refine lst_done ?_
        refine ih (r) _ _ _ _ ?_ ?_ (by conv => lhs; whnf) (by conv => lhs; whnf) (by kernel_rfl)
        · omega
        · exact ⟨D.app (.cons 3 n1 s1 Aa ca a1 .nil), A6, c6, O6, by rw [hD, TA.app_assoc]; rfl, by rw [TA.len_app]; rfl, by rw [TA.app_ts]; rfl, by rw [TA.app_ts]; exact hrow6, hS⟩
      · refine goes_seq ?_
        refine goes_region ?_
        first
          | refine lst_run (run_lss_yes rfl rfl (by omega)) rfl ?_
          | refine lst_run (run_lss_no rfl rfl (by omega)) rfl ?_
          | refine lst_run (rfl) rfl ?_
        refine lst_done ?_
        refine goes_seq ?_
        refine goes_true rfl ?_
        refine goes_skip ?_
        refine goes_seq ?_
        refine goes_block ?_
        refine goes_seq ?_
        refine goes_region ?_
        refine lst_run (run_move (by conv => lhs; whnf)) rfl ?_
        refine lst_run (run_indexAddr (sz := 4) rfl rfl rfl rfl (by omega) (by omega)) rfl ?_
        first
          | refine lst_run (run_loadN_own (k := 4) hS rfl rfl rfl (by first | exact .head | exact .tail .head | exact .tail (.tail .head) | exact .tail (.tail (.tail .head)) | exact .tail (.tail (.tail (.tail .head))) | exact .tail (.tail (.tail (.tail (.tail .head))))) (by repeat constructor)) rfl ?_
          | refine lst_run (run_load4 rfl rfl rfl (by first | assumption | exact (hcc _ hS).1 | exact (hcc _ hS).2.1 | exact (hcc _ hS).2.2.1 | exact (hcc _ hS).2.2.2 | exact hS.cell0 (by assumption)) (by first | assumption | exact (hcc _ hS).1 | exact (hcc _ hS).2.1 | exact (hcc _ hS).2.2.1 | exact (hcc _ hS).2.2.2 | exact hS.cell0 (by assumption)) (by first | assumption | exact (hcc _ hS).1 | exact (hcc _ hS).2.1 | exact (hcc _ hS).2.2.1 | exact (hcc _ hS).2.2.2 | exact hS.cell0 (by assumption)) (by first | assumption | exact (hcc _ hS).1 | exact (hcc _ hS).2.1 | exact (hcc _ hS).2.2.1 | exact (hcc _ hS).2.2.2 | exact hS.cell0 (by assumption))) rfl ?_
        refine lst_alloc (cs := [_, _, _, _]) hS rfl rfl rfl ?_
        clear hS
        intro b3 wx3 hS
        refine lst_run (run_assign (by conv => lhs; whnf)) rfl ?_
        refine lst_storeN hS rfl (by conv => lhs; whnf) rfl rfl (by first | exact .head | exact .tail .head | exact .tail (.tail .head) | exact .tail (.tail (.tail .head)) | exact .tail (.tail (.tail (.tail .head))) | exact .tail (.tail (.tail (.tail (.tail .head))))) (by repeat constructor) (by first | exact .head | exact .tail .head | exact .tail (.tail .head) | exact .tail (.tail (.tail .head)) | exact .tail (.tail (.tail (.tail .head))) | exact .tail (.tail (.tail (.tail (.tail .head))))) ?_
        clear hS
        intro wx4 hS
        refine lst_done ?_
        refine goes_seq ?_
        refine goes_seq ?_
        refine goes_region ?_
        refine lst_run (run_fieldAddr (off := 0) rfl rfl) rfl ?_
        first
          | refine lst_run (run_load1_own hS rfl rfl (by first | exact .head | exact .tail .head | exact .tail (.tail .head) | exact .tail (.tail (.tail .head)) | exact .tail (.tail (.tail (.tail .head))) | exact .tail (.tail (.tail (.tail (.tail .head))))) (by repeat constructor)) rfl ?_
          | refine lst_run (run_load1 rfl rfl (by first | assumption | exact (hcc _ hS).1 | exact (hcc _ hS).2.1 | exact (hcc _ hS).2.2.1 | exact (hcc _ hS).2.2.2 | exact hS.cell0 (by assumption) | exact lv_next hS | exact lv_list hS)) rfl ?_
        first
          | refine lst_run (run_neq_one_int rfl rfl) rfl ?_
          | refine lst_run (run_neq_no rfl rfl (by first | assumption | omega)) rfl ?_
          | refine lst_run (run_neq_yes rfl rfl (by omega)) rfl ?_
          | refine lst_run (rfl) rfl ?_
        refine lst_done ?_
        refine goes_true rfl ?_
        refine goes_seq ?_
        refine goes_region ?_
        refine lst_run (run_move (by conv => lhs; whnf)) rfl ?_
        refine lst_run (run_move (by conv => lhs; whnf)) rfl ?_
        refine lst_run (run_move (by conv => lhs; whnf)) rfl ?_
        refine lst_run (run_add rfl rfl (by omega) (by omega)) rfl ?_
        first
          | refine lst_run (run_loadN_own (k := 4) hS rfl rfl rfl (by first | exact .head | exact .tail .head | exact .tail (.tail .head) | exact .tail (.tail (.tail .head)) | exact .tail (.tail (.tail (.tail .head))) | exact .tail (.tail (.tail (.tail (.tail .head))))) (by repeat constructor)) rfl ?_
          | refine lst_run (run_load4 rfl rfl rfl (by first | assumption | exact (hcc _ hS).1 | exact (hcc _ hS).2.1 | exact (hcc _ hS).2.2.1 | exact (hcc _ hS).2.2.2 | exact hS.cell0 (by assumption)) (by first | assumption | exact (hcc _ hS).1 | exact (hcc _ hS).2.1 | exact (hcc _ hS).2.2.1 | exact (hcc _ hS).2.2.2 | exact hS.cell0 (by assumption)) (by first | assumption | exact (hcc _ hS).1 | exact (hcc _ hS).2.1 | exact (hcc _ hS).2.2.1 | exact (hcc _ hS).2.2.2 | exact hS.cell0 (by assumption)) (by first | assumption | exact (hcc _ hS).1 | exact (hcc _ hS).2.1 | exact (hcc _ hS).2.2.1 | exact (hcc _ hS).2.2.2 | exact hS.cell0 (by assumption))) rfl ?_
        refine lst_enter (run_call (by kernel_rfl) (args_1 (by conv => lhs; whnf))) rfl ?_
        refine Calls.mono (single_any k1 n1 s1 Aa a1.len ca _ hS) ?_
        rintro _ w4 ⟨rfl, hS'⟩
        refine ⟨_, rfl, ?_⟩
        replace hS := hS'
        clear hS'
        refine lst_run (run_indexAddr (sz := 3) rfl rfl rfl rfl (by omega) (by omega)) rfl ?_
        refine lst_storeN hS rfl (by rfl) rfl rfl (.tail (.tail .head)) (by rw [Nat.zero_add]; exact hput _) (.tail (.tail .head)) ?_
        clear hS
        intro w5 hS
        refine lst_done ?_
        refine goes_exit rfl ?_
        refine goes_region ?_
        refine lst_run (run_add rfl rfl (by omega) (by omega)) rfl ?_
        refine lst_run (run_move (by conv => lhs; whnf)) rfl ?_
        refine lst_done ?_
        have hX : ((midS cs s T.len D.ts (TA.cons k1 n1 s1 Aa ca a1 r).len).set (((cs.length + 1 : Nat) : Int) + ((D.len : Nat) : Int)).toNat (single k1 n1 s1)).length = (midS cs s T.len D.ts (TA.cons k1 n1 s1 Aa ca a1 r).len).length := by rw [List.length_set]
        have hone := midS_one cs s T.len D.ts r.len n1 s1 a1.ts hk1
        rw [← hin] at hone
        have hrowX := hcr _ sp hX rfl
        rw [show (TA.cons k1 n1 s1 Aa ca a1 r).len = r.len + 1 from rfl, hone] at hrowX hS hX
        refine ih (r) _ _ _ _ ?_ ?_ (by conv => lhs; whnf) (by conv => lhs; whnf) (by kernel_rfl)
        · omega
        · refine ⟨D.app (.cons k1 n1 s1 Aa ca a1 .nil), some ⟨g, 0, none⟩, cu, _, by rw [hD, TA.app_assoc]; rfl, by rw [TA.len_app]; rfl, ?_, by rw [TA.app_ts]; exact hrowX, hS.drop⟩
          rw [TA.app_ts]
          show _ = Value.slice _ (midS cs s T.len (D.ts.app (.cons k1 n1 s1 a1.ts .nil)) r.len).length _
          rw [hX]; rfl
  · refine goes_seq ?_
    refine goes_region ?_
    refine lst_box hS rfl rfl ?_
    clear hS
    intro b1 wx1 hS
    refine lst_run (run_assign (by conv => lhs; whnf)) rfl ?_
    refine lst_done ?_
    refine goes_seq ?_
    refine goes_seq ?_
    refine goes_region ?_
    refine lst_run (run_fieldAddr (off := 0) rfl rfl) rfl ?_
    first
      | refine lst_run (run_load1_own hS rfl rfl (by first | exact .head | exact .tail .head | exact .tail (.tail .head) | exact .tail (.tail (.tail .head)) | exact .tail (.tail (.tail (.tail .head))) | exact .tail (.tail (.tail (.tail (.tail .head))))) (by repeat constructor)) rfl ?_
      | refine lst_run (run_load1 rfl rfl (by first | assumption | exact (hcc _ hS).1 | exact (hcc _ hS).2.1 | exact (hcc _ hS).2.2.1 | exact (hcc _ hS).2.2.2 | exact hS.cell0 (by assumption) | exact lv_next hS | exact lv_list hS)) rfl ?_
    first
      | refine lst_run (run_neq_one_int rfl rfl) rfl ?_
      | refine lst_run (run_neq_no rfl rfl (by first | assumption | omega)) rfl ?_
      | refine lst_run (run_neq_yes rfl rfl (by omega)) rfl ?_
      | refine lst_run (rfl) rfl ?_
    refine lst_done ?_
    refine goes_true rfl ?_
    refine goes_seq ?_
    refine goes_region ?_
    refine lst_run (run_move (by conv => lhs; whnf)) rfl ?_
    first
      | refine lst_run (run_loadN_own (k := 4) hS rfl rfl rfl (by first | exact .head | exact .tail .head | exact .tail (.tail .head) | exact .tail (.tail (.tail .head)) | exact .tail (.tail (.tail (.tail .head))) | exact .tail (.tail (.tail (.tail (.tail .head))))) (by repeat constructor)) rfl ?_
      | refine lst_run (run_load4 rfl rfl rfl (by first | assumption | exact (hcc _ hS).1 | exact (hcc _ hS).2.1 | exact (hcc _ hS).2.2.1 | exact (hcc _ hS).2.2.2 | exact hS.cell0 (by assumption)) (by first | assumption | exact (hcc _ hS).1 | exact (hcc _ hS).2.1 | exact (hcc _ hS).2.2.1 | exact (hcc _ hS).2.2.2 | exact hS.cell0 (by assumption)) (by first | assumption | exact (hcc _ hS).1 | exact (hcc _ hS).2.1 | exact (hcc _ hS).2.2.1 | exact (hcc _ hS).2.2.2 | exact hS.cell0 (by assumption)) (by first | assumption | exact (hcc _ hS).1 | exact (hcc _ hS).2.1 | exact (hcc _ hS).2.2.1 | exact (hcc _ hS).2.2.2 | exact hS.cell0 (by assumption))) rfl ?_
    refine lst_enter (run_call (by kernel_rfl) (args_1 (by conv => lhs; whnf))) rfl ?_
    refine Calls.mono (single_any k n s A T.len c _ hS) ?_
    rintro _ w2 ⟨rfl, hS'⟩
    refine ⟨_, rfl, ?_⟩
    replace hS := hS'
    clear hS'
    refine lst_buildSlice (cells := [_, _, _]) hS (.cons (by conv => lhs; whnf) .nil) rfl rfl ?_
    clear hS
    intro b2 wx2 hS
    have e : lay1 k n s T.ts cs.length = [single k n s] := by unfold lay1; rw [if_neg hk]
    refine lst_appC (L := [single k n s]) hS (by conv => lhs; whnf) (by rfl) rfl rfl rfl (Flat.own (sp := []) (hS.own (_, _) (.head _)) rfl (Nat.le_refl _)) hrow (List.perm_append_comm_assoc [_, _] O _) (by simp; omega) rfl ?_
    clear hS
    intro v7 O7 w7 hrow7 hS
    obtain ⟨B7, d7, rfl, _⟩ := hrow7.form
    replace hS := hS.perm (List.perm_append_comm_assoc O7 [_, _] _)
    refine lst_run (run_assign (by conv => lhs; whnf)) rfl ?_
    refine lst_done ?_
    refine goes_ret1 Tryd.func14 rfl (by conv => lhs; whnf) ?_
    rw [e]
    refine ⟨B7, d7, O7, by simp, ?_, hS.drop.drop⟩
    rw [List.length_append, hcsL_app]; exact hrow7
theorem store_said (T : TA) : StoreSaid T := by
  have key : ∀ m, ∀ U : TA, U.ts.nodes ≤ m → StoreSaid U := by
    intro m
    induction m with
    | zero => exact fun U hU => store_of U fun V hV => by omega
    | succ m ih => exact fun U hU => store_of U fun V hV => ih V (by omega)
  exact key _ T (Nat.le_refl _)
end Go.Proofs.YtdflngjfnpbpmabDoor
namespace Go.Proofs.YtdflngjfnpbpmabDoor
open Go.RowKit
set_option linter.unusedSimpArgs false
set_option linter.unusedVariables false

/-- How a region is walked: an operation that only reads; one of several that may come up; the rest in the order of the text. -/
inductive Plan where
  | tail
  | read (i : Nat) (p : Plan)
  | pick (i : Nat) (p more : Plan)
  | none
def Plan.heads : Plan → List Nat
  | .pick i _ more => i :: more.heads
  | _ => []
section
variable {P : Program} {ops : Array Oper} {Q : Exit → Act → World → Prop} {md : Region.Mode} {S : World → Prop} {n : Nat}
def wpPlan (P : Program) (ops : Array Oper) (Q : Exit → Act → World → Prop) (S : World → Prop) (tail : List Oper) : Plan → Act → World → Prop
  | .tail, a, w => wpList P ops Q tail a w
  | .read i p, a, w => ∃ o v, ops[i]? = some o ∧ YieldsIf P ops S o v a ∧ (∀ c a w, Q (.panic c) (a.put o.dst v) w → Q (.panic c) a w) ∧ wpPlan P ops Q S tail p (a.put o.dst v) w
  | .pick i p more, a, w => (∃ o, ops[i]? = some o ∧ wpList P ops (Exit.then (fun a' w' => S w' ∧ wpPlan P ops Q S tail p a' w') Q) [o] a w) ∧ wpPlan P ops Q S tail more a w
  | .none, _, _ => True
def planB (md : Region.Mode) (ops : Array Oper) (n : Nat) : Plan → Nat → Array Bool → Bool → Bool
  | .tail, d, listed, top => top && decide (d = 0) && Region.seqB md ops (ops.size - n) n listed
  | .read i p, d, listed, top => top && decide (0 < d) && (Region.ready md ops listed).contains i && Region.free md ops listed i && decide (i < n) && planB md ops n p (d - 1) (listed.setIfInBounds i true) true
  | .pick i p more, d, listed, top => (!top || decide (Region.ready md ops listed = (Plan.pick i p more).heads)) && decide (0 < d) && decide (i < n) && planB md ops n p (d - 1) (listed.setIfInBounds i true) true && planB md ops n more d listed false
  | .none, _, _, top => !top
theorem plan_pick {tail : List Oper} {a : Act} {w : World} {d : Nat} {listed : Array Bool} : ∀ (pl : Plan), planB md ops n pl d listed false = true → wpPlan P ops Q S tail pl a w → ∀ j ∈ pl.heads, j < n ∧ 0 < d ∧ ∃ p o, ops[j]? = some o ∧ planB md ops n p (d - 1) (listed.setIfInBounds j true) true = true ∧ wpList P ops (Exit.then (fun a' w' => S w' ∧ wpPlan P ops Q S tail p a' w') Q) [o] a w
  | .tail, h, _, j, hj => by simp [Plan.heads] at hj
  | .read i p, h, _, j, hj => by simp [Plan.heads] at hj
  | .none, h, _, j, hj => by simp [Plan.heads] at hj
  | .pick i p more, h, hw, j, hj => by
    simp only [planB, Bool.and_eq_true, decide_eq_true_eq] at h
    obtain ⟨⟨⟨⟨_, hd⟩, hin⟩, h1⟩, h2⟩ := h
    simp only [Plan.heads, List.mem_cons] at hj
    rcases hj with rfl | hj
    · obtain ⟨⟨o, ho, hl⟩, _⟩ := hw
      exact ⟨hin, hd, p, o, ho, h1, hl⟩
    · exact plan_pick more h2 hw.2 j hj
theorem wpMix_of_plan (hsel : Region.noSelect ops = true) (tail : List Oper) (htl : ∀ j, tail[j]? = ops[n + j]?) (htn : tail.length = ops.size - n) (hwait : n < ops.size → Region.sinkB md ops n = true ∧ Region.chainB md ops n = true) : ∀ (d : Nat) (pl : Plan) (listed : Array Bool) (a : Act) (w : World), HeadInv md ops n listed → S w →
    planB md ops n pl d listed true = true → wpPlan P ops Q S tail pl a w → wpMix P md ops Q S n (d + tail.length) listed a w := by
  intro d
  induction d with
  | zero =>
    intro pl listed a w hcl hS hB h
    cases pl with
    | tail =>
      simp only [planB, Bool.and_eq_true] at hB
      rw [Nat.zero_add]
      exact wpMix_of_seq tail n listed a w (Nat.le_refl _) htl (by rw [htn]; exact hB.2) h
    | read i p => simp [planB] at hB
    | pick i p more => simp [planB] at hB
    | none => simp [planB] at hB
  | succ d ih =>
    intro pl listed a w hcl hS hB h
    cases pl with
    | tail => simp [planB] at hB
    | none => simp [planB] at hB
    | read i p =>
      simp only [planB, Bool.and_eq_true, decide_eq_true_eq] at hB
      obtain ⟨⟨⟨⟨_, hr⟩, hf⟩, hin⟩, hB'⟩ := hB
      obtain ⟨o, v, ho, hy, hQ, h'⟩ := h
      have hr' : i ∈ Region.ready md ops listed := by simpa using hr
      rw [show d + 1 + tail.length = (d + tail.length) + 1 by omega]
      exact wpMix_first ho (Region.noSelect_spec hsel) hQ hwait hin _ listed a w hcl (Region.free_spec ho hf) hr' hy hS
        (ih p _ _ _ (hcl.set hr' hin) hS hB' h')
    | pick i p more =>
      have hB0 : planB md ops n (.pick i p more) (d + 1) listed false = true := by
        simp only [planB, Bool.and_eq_true, decide_eq_true_eq] at hB ⊢
        obtain ⟨⟨⟨⟨_, hd⟩, hin⟩, h1⟩, h2⟩ := hB
        exact ⟨⟨⟨⟨by simp, hd⟩, hin⟩, h1⟩, h2⟩
      have hr : Region.ready md ops listed = (Plan.pick i p more).heads := by
        simp only [planB, Bool.and_eq_true, decide_eq_true_eq] at hB
        simpa using hB.1.1.1.1
      have hk := plan_pick (P := P) (Q := Q) (S := S) (tail := tail) (a := a) (w := w) _ hB0 h
      rw [show d + 1 + tail.length = (d + tail.length) + 1 by omega]
      refine ⟨fun h1 => (by rw [h1] at hr; cases hr), fun j hj => ?_⟩
      obtain ⟨hjn, _, q, o, ho, hq, hl⟩ := hk j (by rw [← hr]; exact hj)
      exact wpOp_mono (fun a' w' h3 => ⟨fun _ => h3.1, ih q _ _ _ (hcl.set hj hjn) h3.1 hq h3.2⟩) (wpOp_of_list ho hl)
theorem wp_region_plan {id : Nat} {a : Act} {w : World} {l : List Oper} (S : World → Prop) (n : Nat) (pl : Plan) (hm : P.follows .mixedOrders = true)
    (hB : (Region.noSelect l.toArray && decide (n ≤ l.length) && (decide (n = l.length) || (Region.sinkB .any l.toArray n && Region.chainB .any l.toArray n)) && planB .any l.toArray n pl n (Array.replicate l.toArray.size false) true) = true) (hS : S w.drew)
    (h : wpPlan P l.toArray Q S (l.drop n) pl a w.drew) : (Code.region id l.toArray true).wp P Q a w := by
  simp only [Bool.and_eq_true, decide_eq_true_eq] at hB
  obtain ⟨⟨⟨hsel, hle⟩, hwt⟩, hB⟩ := hB
  have hcl : HeadInv .any l.toArray n (Array.replicate l.toArray.size false) :=
    ⟨by simp, fun j oj _ hl => (by rw [getD_replicate_false] at hl; cases hl), fun t _ ht => getD_in (by simpa using ht) (getD_replicate_false _ _)⟩
  have hwait : n < l.toArray.size → Region.sinkB .any l.toArray n = true ∧ Region.chainB .any l.toArray n = true := fun h => by
    simp only [Bool.or_eq_true, Bool.and_eq_true, decide_eq_true_eq] at hwt
    rcases hwt with e | e
    · simp at h; omega
    · exact e
  have hdl : (l.drop n).length = l.toArray.size - n := by simp
  have H := wpMix_of_plan (md := .any) (n := n) hsel (l.drop n) (fun j => by simp [List.getElem?_drop]) hdl hwait n pl _ a w.drew hcl hS hB h
  refine wp_region_any hm ?_
  have e : n + (l.drop n).length = l.toArray.size := by rw [hdl]; simp; omega
  rw [e] at H
  exact wpAny_of_mix _ _ _ _ H
end
section
variable {P : Program} {f : FuncId} {R : Ending → World → Prop} {k : List Item} {n : Nat} {e : Env} {w : World} {S : World → Prop} {ops : Array Oper} {tail : List Oper} {r more : Plan}
variable {ty : TypeId} {pos : String} {after : Array Edge} {d i : Nat}
def Pln (P : Program) (f : FuncId) (R : Ending → World → Prop) (k : List Item) (ops : Array Oper) (S : World → Prop) (tail : List Oper) (r : Plan) (n : Nat) (e : Env) (w : World) : Prop :=
  wpPlan P ops (qk P f R k) S tail r (act n e) w
theorem goes_plan {id : Nat} {l : List Oper} (S : World → Prop) (m : Nat) (pl : Plan) (hm : P.follows .mixedOrders = true)
    (hB : (Region.noSelect l.toArray && decide (m ≤ l.length) && (decide (m = l.length) || (Region.sinkB .any l.toArray m && Region.chainB .any l.toArray m)) && planB .any l.toArray m pl m (Array.replicate l.toArray.size false) true) = true)
    (hS : S w.drew) (h : Pln P f R k l.toArray S (l.drop m) pl n e w.drew) : Goes P f R (.code (.region id l.toArray true) :: k) (act n e) w :=
  goes_of_wp (wp_region_plan S m pl hm hB hS h)
theorem pln_read {op : Op} {v : Value} (ho : ops[i]? = some ⟨some d, op, ty, pos, after, none⟩) (hr : ∀ w', S w' → (execOp (ev n e) ⟨some d, op, ty, pos, after, none⟩).run P w' = .ok (.value v) w') (hd : Nat.blt d n = true)
    (h : Pln P f R k ops S tail r n ((d, v) :: e) w) : Pln P f R k ops S tail (.read i r) n e w := by
  refine ⟨_, v, ho, .inl ⟨by simp [Region.wanted], fun w' hw => by rw [act_eval]; exact hr w' hw⟩, fun c a w h => h.elim, ?_⟩
  rw [act_put hd]; exact h
def qp (P : Program) (f : FuncId) (R : Ending → World → Prop) (k : List Item) (ops : Array Oper) (S : World → Prop) (tail : List Oper) (r : Plan) : Exit → Act → World → Prop :=
  Exit.then (fun a' w' => S w' ∧ wpPlan P ops (qk P f R k) S tail r a' w') (qk P f R k)
theorem pln_pick {o : Oper} (ho : ops[i]? = some o) (h : Lst P (qp P f R k ops S tail r) ops [o] n e w) (h2 : Pln P f R k ops S tail more n e w) : Pln P f R k ops S tail (.pick i r more) n e w := by unfold Lst at h; exact ⟨⟨o, ho, h⟩, h2⟩
theorem pln_last {o : Oper} (ho : ops[i]? = some o) (h : Lst P (qp P f R k ops S tail r) ops [o] n e w) : Pln P f R k ops S tail (.pick i r .none) n e w := by unfold Lst at h; exact ⟨⟨o, ho, h⟩, trivial⟩
theorem lst_pln (hS : S w) (h : Pln P f R k ops S tail r n e w) : Lst P (qp P f R k ops S tail r) ops [] n e w := by unfold Lst; exact ⟨hS, h⟩
theorem pln_tail (h : Lst P (qk P f R k) ops tail n e w) : Pln P f R k ops S tail .tail n e w := by unfold Lst at h; exact h
/-- The ways meet, and tell of two slots. -/
theorem goes_meet2 {c1 : Item} (s t : Nat) (J : List Nat) (Φ : Value → Value → World → Prop)
    (h : (∀ (v u : Value) (e' : Env) (w' : World), Φ v u w' → lk e' s = v → lk e' t = u → keep (s :: t :: J) e' = keep (s :: t :: J) e → Goes P f R k (act n e') w') → Goes P f R (c1 :: k) (act n e) w)
    (h2 : ∀ (jv : Nat → Value) (v u : Value) (w' : World), Φ v u w' → Goes P f R k (act n ((s, v) :: (t, u) :: (junkE jv J ++ e))) w') : Goes P f R (c1 :: k) (act n e) w :=
  h fun v u e' w' hΦ h1 h3 hk => by
    have := h2 (lk e') v u w' hΦ
    rw [act_round hk]
    have e2 : junkE (lk e') (s :: t :: J) ++ e = (s, v) :: (t, u) :: (junkE (lk e') J ++ e) := by simp [junkE, h1, h3]
    rw [e2]; exact this
theorem goes_meet3 {c1 : Item} (s t u : Nat) (J : List Nat) (Φ : Value → Value → Value → World → Prop)
    (h : (∀ (v v2 v3 : Value) (e' : Env) (w' : World), Φ v v2 v3 w' → lk e' s = v → lk e' t = v2 → lk e' u = v3 → keep (s :: t :: u :: J) e' = keep (s :: t :: u :: J) e → Goes P f R k (act n e') w') → Goes P f R (c1 :: k) (act n e) w)
    (h2 : ∀ (jv : Nat → Value) (v v2 v3 : Value) (w' : World), Φ v v2 v3 w' → Goes P f R k (act n ((s, v) :: (t, v2) :: (u, v3) :: (junkE jv J ++ e))) w') : Goes P f R (c1 :: k) (act n e) w :=
  h fun v v2 v3 e' w' hΦ h1 h3 h4 hk => by
    have := h2 (lk e') v v2 v3 w' hΦ
    rw [act_round hk]
    have e2 : junkE (lk e') (s :: t :: u :: J) ++ e = (s, v) :: (t, v2) :: (u, v3) :: (junkE (lk e') J ++ e) := by simp [junkE, h1, h3, h4]
    rw [e2]; exact this
theorem goes_meet5 {c1 : Item} (s t u x y : Nat) (J : List Nat) (Φ : Value → Value → Value → Value → Value → World → Prop)
    (h : (∀ (v v2 v3 v4 v5 : Value) (e' : Env) (w' : World), Φ v v2 v3 v4 v5 w' → lk e' s = v → lk e' t = v2 → lk e' u = v3 → lk e' x = v4 → lk e' y = v5 → keep (s :: t :: u :: x :: y :: J) e' = keep (s :: t :: u :: x :: y :: J) e → Goes P f R k (act n e') w') → Goes P f R (c1 :: k) (act n e) w)
    (h2 : ∀ (jv : Nat → Value) (v v2 v3 v4 v5 : Value) (w' : World), Φ v v2 v3 v4 v5 w' → Goes P f R k (act n ((s, v) :: (t, v2) :: (u, v3) :: (x, v4) :: (y, v5) :: (junkE jv J ++ e))) w') : Goes P f R (c1 :: k) (act n e) w :=
  h fun v v2 v3 v4 v5 e' w' hΦ h1 h3 h4 h5 h6 hk => by
    have := h2 (lk e') v v2 v3 v4 v5 w' hΦ
    rw [act_round hk]
    have e2 : junkE (lk e') (s :: t :: u :: x :: y :: J) ++ e = (s, v) :: (t, v2) :: (u, v3) :: (x, v4) :: (y, v5) :: (junkE (lk e') J ++ e) := by simp [junkE, h1, h3, h4, h5, h6]
    rw [e2]; exact this
/-- The ways meet behind a block, and tell of one slot, or of two. -/
theorem goes_mb1 {c1 c2 : Item} (s : Nat) (J : List Nat) (Φ : Value → World → Prop)
    (h : (∀ (v : Value) (e' : Env) (w' : World), Φ v w' → lk e' s = v → keep (s :: J) e' = keep (s :: J) e → Goes P f R k (act n e') w') → Goes P f R (c1 :: c2 :: k) (act n e) w)
    (h2 : ∀ (jv : Nat → Value) (v : Value) (w' : World), Φ v w' → Goes P f R k (act n ((s, v) :: (junkE jv J ++ e))) w') : Goes P f R (c1 :: c2 :: k) (act n e) w :=
  h fun v e' w' hΦ h1 hk => by
    have := h2 (lk e') v w' hΦ
    rw [act_round hk]
    have e2 : junkE (lk e') (s :: J) ++ e = (s, v) :: (junkE (lk e') J ++ e) := by simp [junkE, h1]
    rw [e2]; exact this
theorem goes_mb2 {c1 c2 : Item} (s t : Nat) (J : List Nat) (Φ : Value → Value → World → Prop)
    (h : (∀ (v u : Value) (e' : Env) (w' : World), Φ v u w' → lk e' s = v → lk e' t = u → keep (s :: t :: J) e' = keep (s :: t :: J) e → Goes P f R k (act n e') w') → Goes P f R (c1 :: c2 :: k) (act n e) w)
    (h2 : ∀ (jv : Nat → Value) (v u : Value) (w' : World), Φ v u w' → Goes P f R k (act n ((s, v) :: (t, u) :: (junkE jv J ++ e))) w') : Goes P f R (c1 :: c2 :: k) (act n e) w :=
  h fun v u e' w' hΦ h1 h3 hk => by
    have := h2 (lk e') v u w' hΦ
    rw [act_round hk]
    have e2 : junkE (lk e') (s :: t :: J) ++ e = (s, v) :: (t, u) :: (junkE (lk e') J ++ e) := by simp [junkE, h1, h3]
    rw [e2]; exact this
theorem goes_meet1 {c1 : Item} (s : Nat) (J : List Nat) (Φ : Value → World → Prop)
    (h : (∀ (v : Value) (e' : Env) (w' : World), Φ v w' → lk e' s = v → keep (s :: J) e' = keep (s :: J) e → Goes P f R k (act n e') w') → Goes P f R (c1 :: k) (act n e) w)
    (h2 : ∀ (jv : Nat → Value) (v : Value) (w' : World), Φ v w' → Goes P f R k (act n ((s, v) :: (junkE jv J ++ e))) w') : Goes P f R (c1 :: k) (act n e) w :=
  h fun v e' w' hΦ h1 hk => by
    have := h2 (lk e') v w' hΦ
    rw [act_round hk]
    have e2 : junkE (lk e') (s :: J) ++ e = (s, v) :: (junkE (lk e') J ++ e) := by simp [junkE, h1]
    rw [e2]; exact this
end
attribute [irreducible] Pln
end Go.Proofs.YtdflngjfnpbpmabDoor
