/-
  The reader's smallest functions, walked: classes of letters, how many of them follow, how long the first token is.
-/
import Derived.Test.YtdiophafmokfiaaGreatDoorG6
import Derived.Test.YtdiophafmokfiaaGreatDoorProg
namespace Go.Proofs.YtdiophafmokfiaaGreatDoor
open Go.RowKit
set_option linter.unusedVariables false
set_option maxRecDepth 100000
set_option maxHeartbeats 1000000

theorem u8_eq {c : UInt8} {n : Nat} (h : c.toNat = n) : c = UInt8.ofNat n := by subst h; simp
theorem isUpper_any (c : UInt8) (w : World) : Calls Tryz.prog 52 #[.int .u8 c.toNat] w fun e w' => e = .returned (.bool (upB c)) ∧ w' = w := by
  refine goes_enter1 Tryz.func52 rfl Tryz.ntmps52 rfl ?_
  refine goes_seq ?_
  refine goes_region ?_
  refine lst_run (run_assign (by conv => lhs; whnf)) rfl ?_
  refine lst_done ?_
  refine goes_seq ?_
  refine goes_region ?_
  refine lst_run (run_move (by conv => lhs; whnf)) rfl ?_
  first
    | refine lst_run (run_geq_yes rfl rfl (by omega)) rfl ?_
    | refine lst_run (run_geq_no rfl rfl (by omega)) rfl ?_
    | refine lst_run (rfl) rfl ?_
  refine lst_run (run_move (by conv => lhs; whnf)) rfl ?_
  unfold upB
  cases decide ((c.toNat : Int) ≥ 65)
  · refine lst_pass rfl rfl rfl ?_
    refine lst_pass rfl rfl rfl ?_
    first
      | refine lst_run (run_pick_t rfl (by conv => lhs; whnf)) rfl ?_
      | refine lst_run (run_pick_f rfl (by conv => lhs; whnf)) rfl ?_
    refine lst_run (run_assign (by conv => lhs; whnf)) rfl ?_
    refine lst_done ?_
    refine goes_ret1 Tryz.func52 rfl (by conv => lhs; whnf) ?_
    exact ⟨rfl, rfl⟩
  · refine lst_guard rfl rfl ?_
    refine lst_run (run_move (by conv => lhs; whnf)) rfl ?_
    refine lst_guard rfl rfl ?_
    first
      | refine lst_run (run_leq_yes rfl rfl (by omega)) rfl ?_
      | refine lst_run (run_leq_no rfl rfl (by omega)) rfl ?_
      | refine lst_run (rfl) rfl ?_
    first
      | refine lst_run (run_pick_t rfl (by conv => lhs; whnf)) rfl ?_
      | refine lst_run (run_pick_f rfl (by conv => lhs; whnf)) rfl ?_
    refine lst_run (run_assign (by conv => lhs; whnf)) rfl ?_
    refine lst_done ?_
    refine goes_ret1 Tryz.func52 rfl (by conv => lhs; whnf) ?_
    exact ⟨rfl, rfl⟩
theorem isLower_any (c : UInt8) (w : World) : Calls Tryz.prog 54 #[.int .u8 c.toNat] w fun e w' => e = .returned (.bool (lowB c)) ∧ w' = w := by
  refine goes_enter1 Tryz.func54 rfl Tryz.ntmps54 rfl ?_
  refine goes_seq ?_
  refine goes_region ?_
  refine lst_run (run_assign (by conv => lhs; whnf)) rfl ?_
  refine lst_done ?_
  refine goes_seq ?_
  refine goes_region ?_
  refine lst_run (run_move (by conv => lhs; whnf)) rfl ?_
  first
    | refine lst_run (run_geq_yes rfl rfl (by omega)) rfl ?_
    | refine lst_run (run_geq_no rfl rfl (by omega)) rfl ?_
    | refine lst_run (rfl) rfl ?_
  refine lst_run (run_move (by conv => lhs; whnf)) rfl ?_
  unfold lowB
  cases decide ((c.toNat : Int) ≥ 97)
  · refine lst_pass rfl rfl rfl ?_
    refine lst_pass rfl rfl rfl ?_
    first
      | refine lst_run (run_pick_t rfl (by conv => lhs; whnf)) rfl ?_
      | refine lst_run (run_pick_f rfl (by conv => lhs; whnf)) rfl ?_
    refine lst_run (run_assign (by conv => lhs; whnf)) rfl ?_
    refine lst_done ?_
    refine goes_ret1 Tryz.func54 rfl (by conv => lhs; whnf) ?_
    exact ⟨rfl, rfl⟩
  · refine lst_guard rfl rfl ?_
    refine lst_run (run_move (by conv => lhs; whnf)) rfl ?_
    refine lst_guard rfl rfl ?_
    first
      | refine lst_run (run_leq_yes rfl rfl (by omega)) rfl ?_
      | refine lst_run (run_leq_no rfl rfl (by omega)) rfl ?_
      | refine lst_run (rfl) rfl ?_
    first
      | refine lst_run (run_pick_t rfl (by conv => lhs; whnf)) rfl ?_
      | refine lst_run (run_pick_f rfl (by conv => lhs; whnf)) rfl ?_
    refine lst_run (run_assign (by conv => lhs; whnf)) rfl ?_
    refine lst_done ?_
    refine goes_ret1 Tryz.func54 rfl (by conv => lhs; whnf) ?_
    exact ⟨rfl, rfl⟩
theorem isDigit_any (c : UInt8) (w : World) : Calls Tryz.prog 56 #[.int .u8 c.toNat] w fun e w' => e = .returned (.bool (digB c)) ∧ w' = w := by
  refine goes_enter1 Tryz.func56 rfl Tryz.ntmps56 rfl ?_
  refine goes_seq ?_
  refine goes_region ?_
  refine lst_run (run_assign (by conv => lhs; whnf)) rfl ?_
  refine lst_done ?_
  refine goes_seq ?_
  refine goes_region ?_
  refine lst_run (run_move (by conv => lhs; whnf)) rfl ?_
  first
    | refine lst_run (run_geq_yes rfl rfl (by omega)) rfl ?_
    | refine lst_run (run_geq_no rfl rfl (by omega)) rfl ?_
    | refine lst_run (rfl) rfl ?_
  refine lst_run (run_move (by conv => lhs; whnf)) rfl ?_
  unfold digB
  cases decide ((c.toNat : Int) ≥ 48)
  · refine lst_pass rfl rfl rfl ?_
    refine lst_pass rfl rfl rfl ?_
    first
      | refine lst_run (run_pick_t rfl (by conv => lhs; whnf)) rfl ?_
      | refine lst_run (run_pick_f rfl (by conv => lhs; whnf)) rfl ?_
    refine lst_run (run_assign (by conv => lhs; whnf)) rfl ?_
    refine lst_done ?_
    refine goes_ret1 Tryz.func56 rfl (by conv => lhs; whnf) ?_
    exact ⟨rfl, rfl⟩
  · refine lst_guard rfl rfl ?_
    refine lst_run (run_move (by conv => lhs; whnf)) rfl ?_
    refine lst_guard rfl rfl ?_
    first
      | refine lst_run (run_leq_yes rfl rfl (by omega)) rfl ?_
      | refine lst_run (run_leq_no rfl rfl (by omega)) rfl ?_
      | refine lst_run (rfl) rfl ?_
    first
      | refine lst_run (run_pick_t rfl (by conv => lhs; whnf)) rfl ?_
      | refine lst_run (run_pick_f rfl (by conv => lhs; whnf)) rfl ?_
    refine lst_run (run_assign (by conv => lhs; whnf)) rfl ?_
    refine lst_done ?_
    refine goes_ret1 Tryz.func56 rfl (by conv => lhs; whnf) ?_
    exact ⟨rfl, rfl⟩
theorem span_any (p : UInt8 → Bool) (g : FuncId) (hc : callable Tryz.prog g = true) (hg : ∀ (c : UInt8) (w : World), Calls Tryz.prog g #[.int .u8 c.toNat] w fun e w' => e = .returned (.bool (p c)) ∧ w' = w)
    (l : Str) (w : World) (hl : l.length ≤ 1048576) : Calls Tryz.prog 73 #[sv l, .func (.func g) #[] #[]] w fun e w' => e = .returned (.int .i64 (spanN p l : Nat)) ∧ w' = w := by
  refine goes_enter2 Tryz.func73 rfl Tryz.ntmps73 rfl ?_
  refine goes_seq ?_
  refine goes_region ?_
  refine lst_run (run_assign (by conv => lhs; whnf)) rfl ?_
  refine lst_done ?_
  refine goes_seq ?_
  refine goes_region ?_
  refine lst_run (run_assign (by conv => lhs; whnf)) rfl ?_
  refine lst_done ?_
  refine goes_seq ?_
  refine goes_block ?_
  refine goes_loop1 5 (6 :: 7 :: 8 :: 9 :: 10 :: 11 :: 12 :: 13 :: 14 :: 15 :: 16 :: 17 :: 18 :: []) (fun (R : Str) v w' => w' = w ∧ ∃ D, l = D ++ R ∧ v = .int .i64 (D.length : Nat) ∧ spanN p l = D.length + spanN p R) (fun R => R.length) (l) ?_ (by conv => lhs; whnf) ?_
  · exact ⟨rfl, [], rfl, rfl, by simp⟩
  rintro R _ w1 jv ⟨rfl, D, hD, rfl, hN⟩ ih
  have hlen : l.length = D.length + R.length := by rw [hD, List.length_append]
  cases R with
  | nil =>
    simp only [List.length_nil] at hlen
    refine goes_seq ?_
    refine goes_seq ?_
    refine goes_region ?_
    refine lst_run (run_move (by conv => lhs; whnf)) rfl ?_
    refine lst_run (run_move (by conv => lhs; whnf)) rfl ?_
    refine lst_run (run_len_str rfl rfl rfl) rfl ?_
    first
      | refine lst_run (run_lss_yes rfl rfl (by omega)) rfl ?_
      | refine lst_run (run_lss_no rfl rfl (by omega)) rfl ?_
      | refine lst_run (rfl) rfl ?_
    refine lst_run (run_move (by conv => lhs; whnf)) rfl ?_
    refine lst_pass rfl rfl rfl ?_
    refine lst_pass rfl rfl rfl ?_
    refine lst_pass rfl rfl rfl ?_
    refine lst_pass rfl rfl rfl ?_
    refine lst_pass rfl rfl rfl ?_
    first
      | refine lst_run (run_pick_t rfl (by conv => lhs; whnf)) rfl ?_
      | refine lst_run (run_pick_f rfl (by conv => lhs; whnf)) rfl ?_
    refine lst_done ?_
    refine goes_false rfl ?_
    refine goes_exit rfl ?_
    refine goes_seq ?_
    refine goes_region ?_
    refine lst_run (run_move (by conv => lhs; whnf)) rfl ?_
    refine lst_run (run_assign (by conv => lhs; whnf)) rfl ?_
    refine lst_done ?_
    refine goes_ret1 Tryz.func73 rfl (by conv => lhs; whnf) ?_
    exact ⟨by rw [hN]; rfl, rfl⟩
  | cons c r =>
    simp only [List.length_cons] at hlen
    have hget : l[((D.length : Nat) : Int).toNat]? = some c := by rw [hD]; simp
    refine goes_seq ?_
    refine goes_seq ?_
    refine goes_region ?_
    refine lst_run (run_move (by conv => lhs; whnf)) rfl ?_
    refine lst_run (run_move (by conv => lhs; whnf)) rfl ?_
    refine lst_run (run_len_str rfl rfl rfl) rfl ?_
    first
      | refine lst_run (run_lss_yes rfl rfl (by omega)) rfl ?_
      | refine lst_run (run_lss_no rfl rfl (by omega)) rfl ?_
      | refine lst_run (rfl) rfl ?_
    refine lst_run (run_move (by conv => lhs; whnf)) rfl ?_
    refine lst_guard rfl rfl ?_
    refine lst_run (run_move (by conv => lhs; whnf)) rfl ?_
    refine lst_guard rfl rfl ?_
    refine lst_run (run_move (by conv => lhs; whnf)) rfl ?_
    refine lst_guard rfl rfl ?_
    refine lst_run (run_move (by conv => lhs; whnf)) rfl ?_
    refine lst_guard rfl rfl ?_
    refine lst_run (run_index_str rfl rfl rfl (by omega) (by first | rfl | assumption)) rfl ?_
    refine lst_guard rfl rfl ?_
    refine lst_enter (run_callv rfl hc (args_1 (by conv => lhs; whnf))) rfl ?_
    refine Calls.mono (hg c _) ?_
    rintro _ w2 ⟨rfl, rfl⟩
    refine ⟨_, rfl, ?_⟩
    cases hp : p c with
    | true =>
      first
        | refine lst_run (run_pick_t rfl (by conv => lhs; whnf)) rfl ?_
        | refine lst_run (run_pick_f rfl (by conv => lhs; whnf)) rfl ?_
      refine lst_done ?_
      refine goes_true rfl ?_
      refine goes_skip ?_
      refine goes_block ?_
      refine goes_region ?_
      refine lst_run (run_move (by conv => lhs; whnf)) rfl ?_
      refine lst_run (run_add rfl rfl (by omega) (by omega)) rfl ?_
      refine lst_run (run_assign (by conv => lhs; whnf)) rfl ?_
      refine lst_done ?_
      refine goes_inBlock ?_
      refine ih (r) _ _ _ ?_ ?_ (by conv => lhs; whnf) (by kernel_rfl)
      · simp
      · exact ⟨rfl, D ++ [c], by rw [hD, List.append_assoc]; rfl, by simp, by rw [hN]; simp only [spanN, hp, cond_true, List.length_append, List.length_cons, List.length_nil]; omega⟩
    | false =>
      first
        | refine lst_run (run_pick_t rfl (by conv => lhs; whnf)) rfl ?_
        | refine lst_run (run_pick_f rfl (by conv => lhs; whnf)) rfl ?_
      refine lst_done ?_
      refine goes_false rfl ?_
      refine goes_exit rfl ?_
      refine goes_seq ?_
      refine goes_region ?_
      refine lst_run (run_move (by conv => lhs; whnf)) rfl ?_
      refine lst_run (run_assign (by conv => lhs; whnf)) rfl ?_
      refine lst_done ?_
      refine goes_ret1 Tryz.func73 rfl (by conv => lhs; whnf) ?_
      exact ⟨by rw [hN]; simp [spanN, hp], rfl⟩
/-- What is asked of the library: a beginning, a byte among others. -/
structure Lib1 : Prop where
  prefix_ : ∀ (l m : Str) (w : World), Calls Tryz.prog 74 #[sv l, sv m] w fun e w' => e = .returned (.bool (m.isPrefixOf l)) ∧ w' = w
  sign : ∀ (c : UInt8) (w : World), Calls Tryz.prog 39 #[sv signs, .int .u8 c.toNat] w fun e w' => (∃ i : Int, e = .returned (.int .i64 i) ∧ decide (i ≥ 0) = signs.contains c) ∧ w' = w
theorem tokenLength_any (L1 : Lib1) (l : Str) (w : World) (hl : l.length ≤ 1048576) : Calls Tryz.prog 51 #[sv l] w fun e w' => e = .returned (.int .i64 (tokLen l : Nat)) ∧ w' = w := by
  cases l with
  | nil =>
    refine goes_enter1 Tryz.func51 rfl Tryz.ntmps51 rfl ?_
    refine goes_seq ?_
    refine goes_region ?_
    refine lst_run (run_assign (by conv => lhs; whnf)) rfl ?_
    refine lst_done ?_
    refine goes_seq ?_
    refine goes_block ?_
    refine goes_seq ?_
    refine goes_region ?_
    refine lst_run (run_move (by conv => lhs; whnf)) rfl ?_
    first
      | refine lst_run (run_eql_str rfl rfl) rfl ?_
      | refine lst_run (rfl) rfl ?_
    refine lst_run (run_assign (by conv => lhs; whnf)) rfl ?_
    refine lst_done ?_
    refine goes_true rfl ?_
    refine goes_seq ?_
    refine goes_region ?_
    refine lst_run (run_assign (by conv => lhs; whnf)) rfl ?_
    refine lst_done ?_
    refine goes_ret1 Tryz.func51 rfl (by conv => lhs; whnf) ?_
    exact ⟨rfl, rfl⟩
  | cons c r =>
    have h1 := spanN_le lowB r
    have h2 := spanN_le digB r
    simp only [List.length_cons] at hl
    refine goes_enter1 Tryz.func51 rfl Tryz.ntmps51 rfl ?_
    refine goes_seq ?_
    refine goes_region ?_
    refine lst_run (run_assign (by conv => lhs; whnf)) rfl ?_
    refine lst_done ?_
    refine goes_seq ?_
    refine goes_block ?_
    refine goes_seq ?_
    refine goes_region ?_
    refine lst_run (run_move (by conv => lhs; whnf)) rfl ?_
    first
      | refine lst_run (run_eql_str rfl rfl) rfl ?_
      | refine lst_run (rfl) rfl ?_
    refine lst_run (run_assign (by conv => lhs; whnf)) rfl ?_
    refine lst_done ?_
    refine goes_false rfl ?_
    refine goes_seq ?_
    refine goes_region ?_
    refine lst_run (run_move (by conv => lhs; whnf)) rfl ?_
    refine lst_run (run_index_str rfl rfl rfl (by omega) (by first | rfl | assumption)) rfl ?_
    refine lst_enter (run_call (by kernel_rfl) (args_1 (by conv => lhs; whnf))) rfl ?_
    refine Calls.mono (isUpper_any c _) ?_
    rintro _ w1 ⟨rfl, rfl⟩
    refine ⟨_, rfl, ?_⟩
    refine lst_run (run_move (by conv => lhs; whnf)) rfl ?_
    cases hu : upB c with
    | true =>
      refine lst_pass rfl rfl rfl ?_
      refine lst_pass rfl rfl rfl ?_
      refine lst_pass rfl rfl rfl ?_
      first
        | refine lst_run (run_pick_t rfl (by conv => lhs; whnf)) rfl ?_
        | refine lst_run (run_pick_f rfl (by conv => lhs; whnf)) rfl ?_
      refine lst_run (run_assign (by conv => lhs; whnf)) rfl ?_
      refine lst_done ?_
      refine goes_true rfl ?_
      refine goes_seq ?_
      refine goes_region ?_
      refine lst_run (run_move (by conv => lhs; whnf)) rfl ?_
      refine lst_run (run_slice_from rfl rfl rfl (by omega) (by first | omega | (simp; done) | (simp; omega))) rfl ?_
      refine lst_enter (run_call (by kernel_rfl) (args_2 (by conv => lhs; whnf) (by conv => lhs; whnf))) rfl ?_
      refine Calls.mono (span_any lowB _ (by kernel_rfl) isLower_any r _ (by omega)) ?_
      rintro _ w2 ⟨rfl, rfl⟩
      refine ⟨_, rfl, ?_⟩
      refine lst_run (run_add rfl rfl (by omega) (by omega)) rfl ?_
      refine lst_run (run_assign (by conv => lhs; whnf)) rfl ?_
      refine lst_done ?_
      refine goes_ret1 Tryz.func51 rfl (by conv => lhs; whnf) ?_
      refine ⟨?_, rfl⟩
      simp [tokLen, hu]
    | false =>
      refine lst_guard rfl rfl ?_
      refine lst_run (run_move (by conv => lhs; whnf)) rfl ?_
      refine lst_guard rfl rfl ?_
      refine lst_run (run_index_str rfl rfl rfl (by omega) (by first | rfl | assumption)) rfl ?_
      refine lst_guard rfl rfl ?_
      refine lst_enter (run_call (by kernel_rfl) (args_1 (by conv => lhs; whnf))) rfl ?_
      refine Calls.mono (isLower_any c _) ?_
      rintro _ w2 ⟨rfl, rfl⟩
      refine ⟨_, rfl, ?_⟩
      first
        | refine lst_run (run_pick_t rfl (by conv => lhs; whnf)) rfl ?_
        | refine lst_run (run_pick_f rfl (by conv => lhs; whnf)) rfl ?_
      refine lst_run (run_assign (by conv => lhs; whnf)) rfl ?_
      refine lst_done ?_
      cases hlo : lowB c with
      | true =>
        refine goes_true rfl ?_
        refine goes_seq ?_
        refine goes_region ?_
        refine lst_run (run_move (by conv => lhs; whnf)) rfl ?_
        refine lst_run (run_slice_from rfl rfl rfl (by omega) (by first | omega | (simp; done) | (simp; omega))) rfl ?_
        refine lst_enter (run_call (by kernel_rfl) (args_2 (by conv => lhs; whnf) (by conv => lhs; whnf))) rfl ?_
        refine Calls.mono (span_any lowB _ (by kernel_rfl) isLower_any r _ (by omega)) ?_
        rintro _ w3 ⟨rfl, rfl⟩
        refine ⟨_, rfl, ?_⟩
        refine lst_run (run_add rfl rfl (by omega) (by omega)) rfl ?_
        refine lst_run (run_assign (by conv => lhs; whnf)) rfl ?_
        refine lst_done ?_
        refine goes_ret1 Tryz.func51 rfl (by conv => lhs; whnf) ?_
        refine ⟨?_, rfl⟩
        simp [tokLen, hu, hlo]
      | false =>
        refine goes_false rfl ?_
        refine goes_seq ?_
        refine goes_region ?_
        refine lst_run (run_move (by conv => lhs; whnf)) rfl ?_
        refine lst_run (run_index_str rfl rfl rfl (by omega) (by first | rfl | assumption)) rfl ?_
        refine lst_enter (run_call (by kernel_rfl) (args_1 (by conv => lhs; whnf))) rfl ?_
        refine Calls.mono (isDigit_any c _) ?_
        rintro _ w3 ⟨rfl, rfl⟩
        refine ⟨_, rfl, ?_⟩
        refine lst_run (run_assign (by conv => lhs; whnf)) rfl ?_
        refine lst_done ?_
        cases hd : digB c with
        | true =>
          refine goes_true rfl ?_
          refine goes_seq ?_
          refine goes_region ?_
          refine lst_run (run_move (by conv => lhs; whnf)) rfl ?_
          refine lst_enter (run_call (by kernel_rfl) (args_2 (by conv => lhs; whnf) (by conv => lhs; whnf))) rfl ?_
          refine Calls.mono (span_any digB _ (by kernel_rfl) isDigit_any (c :: r) _ (by simp; omega)) ?_
          rintro _ w4 ⟨rfl, rfl⟩
          refine ⟨_, rfl, ?_⟩
          refine lst_run (run_assign (by conv => lhs; whnf)) rfl ?_
          refine lst_done ?_
          refine goes_ret1 Tryz.func51 rfl (by conv => lhs; whnf) ?_
          refine ⟨?_, rfl⟩
          simp [tokLen, hu, hlo, hd]
        | false =>
          by_cases hm : c = 45
          · subst hm
            refine goes_false rfl ?_
            refine goes_seq ?_
            refine goes_region ?_
            refine lst_run (run_move (by conv => lhs; whnf)) rfl ?_
            refine lst_run (run_index_str rfl rfl rfl (by omega) (by first | rfl | assumption)) rfl ?_
            first
              | refine lst_run (run_eql_one_int rfl rfl) rfl ?_
              | refine lst_run (run_eql_no rfl rfl (by first | assumption | omega)) rfl ?_
              | refine lst_run (run_eql_yes rfl rfl (by omega)) rfl ?_
              | refine lst_run (rfl) rfl ?_
            refine lst_run (run_assign (by conv => lhs; whnf)) rfl ?_
            refine lst_done ?_
            refine goes_true rfl ?_
            refine goes_seq ?_
            refine goes_region ?_
            refine lst_run (run_move (by conv => lhs; whnf)) rfl ?_
            refine lst_run (run_slice_from rfl rfl rfl (by omega) (by first | omega | (simp; done) | (simp; omega))) rfl ?_
            refine lst_enter (run_call (by kernel_rfl) (args_2 (by conv => lhs; whnf) (by conv => lhs; whnf))) rfl ?_
            refine Calls.mono (span_any digB _ (by kernel_rfl) isDigit_any r _ (by omega)) ?_
            rintro _ w4 ⟨rfl, rfl⟩
            refine ⟨_, rfl, ?_⟩
            refine lst_run (run_assign (by conv => lhs; whnf)) rfl ?_
            refine lst_done ?_
            refine goes_seq ?_
            refine goes_region ?_
            refine lst_run (run_move (by conv => lhs; whnf)) rfl ?_
            first
              | refine lst_run (run_gtr_yes rfl rfl (by omega)) rfl ?_
              | refine lst_run (run_gtr_no rfl rfl (by omega)) rfl ?_
              | refine lst_run (rfl) rfl ?_
            refine lst_done ?_
            refine goes_if rfl (fun h => ?_) (fun h => ?_)
            · have h' : 0 < spanN digB r := by have := of_decide_eq_true h; omega
              refine goes_seq ?_
              refine goes_region ?_
              refine lst_run (run_move (by conv => lhs; whnf)) rfl ?_
              refine lst_run (run_add rfl rfl (by omega) (by omega)) rfl ?_
              refine lst_run (run_assign (by conv => lhs; whnf)) rfl ?_
              refine lst_done ?_
              refine goes_ret1 Tryz.func51 rfl (by conv => lhs; whnf) ?_
              refine ⟨?_, rfl⟩
              simp [tokLen, hu, hlo, hd, h']
            · have h' : ¬ 0 < spanN digB r := by have := of_decide_eq_false h; omega
              refine goes_skip ?_
              refine goes_inBlock ?_
              refine goes_seq ?_
              refine goes_region ?_
              refine lst_run (run_assign (by conv => lhs; whnf)) rfl ?_
              refine lst_done ?_
              refine goes_ret1 Tryz.func51 rfl (by conv => lhs; whnf) ?_
              refine ⟨?_, rfl⟩
              simp [tokLen, hu, hlo, hd, h']
          · have hm' : ((c.toNat : Nat) : Int) ≠ 45 := fun h => hm (u8_eq (n := 45) (by omega))
            refine goes_false rfl ?_
            refine goes_seq ?_
            refine goes_region ?_
            refine lst_run (run_move (by conv => lhs; whnf)) rfl ?_
            refine lst_run (run_index_str rfl rfl rfl (by omega) (by first | rfl | assumption)) rfl ?_
            first
              | refine lst_run (run_eql_one_int rfl rfl) rfl ?_
              | refine lst_run (run_eql_no rfl rfl (by first | assumption | omega)) rfl ?_
              | refine lst_run (run_eql_yes rfl rfl (by omega)) rfl ?_
              | refine lst_run (rfl) rfl ?_
            refine lst_run (run_assign (by conv => lhs; whnf)) rfl ?_
            refine lst_done ?_
            refine goes_false rfl ?_
            refine goes_seq ?_
            refine goes_region ?_
            refine lst_run (run_move (by conv => lhs; whnf)) rfl ?_
            refine lst_enter (run_call (by kernel_rfl) (args_2 (by conv => lhs; whnf) (by conv => lhs; whnf))) rfl ?_
            refine Calls.mono (L1.prefix_ (c :: r) [58, 45] _) ?_
            rintro _ w4 ⟨rfl, rfl⟩
            refine ⟨_, rfl, ?_⟩
            refine lst_run (run_assign (by conv => lhs; whnf)) rfl ?_
            refine lst_done ?_
            cases hp : ([58, 45] : Str).isPrefixOf (c :: r) with
            | true =>
              refine goes_true rfl ?_
              refine goes_seq ?_
              refine goes_region ?_
              refine lst_run (run_assign (by conv => lhs; whnf)) rfl ?_
              refine lst_done ?_
              refine goes_ret1 Tryz.func51 rfl (by conv => lhs; whnf) ?_
              refine ⟨?_, rfl⟩
              simp only [tokLen, hu, hlo, hd, hm, hp]; rfl
            | false =>
              refine goes_false rfl ?_
              refine goes_seq ?_
              refine goes_region ?_
              refine lst_run (run_move (by conv => lhs; whnf)) rfl ?_
              refine lst_run (run_index_str rfl rfl rfl (by omega) (by first | rfl | assumption)) rfl ?_
              refine lst_enter (run_call (by kernel_rfl) (args_2 (by conv => lhs; whnf) (by conv => lhs; whnf))) rfl ?_
              refine Calls.mono (L1.sign c _) ?_
              rintro _ w5 ⟨⟨i, rfl, hi⟩, rfl⟩
              refine ⟨_, rfl, ?_⟩
              first
                | refine lst_run (run_geq_yes rfl rfl (by omega)) rfl ?_
                | refine lst_run (run_geq_no rfl rfl (by omega)) rfl ?_
                | refine lst_run (rfl) rfl ?_
              refine lst_run (run_assign (by conv => lhs; whnf)) rfl ?_
              refine lst_done ?_
              refine goes_if rfl (fun h => ?_) (fun h => ?_)
              · refine goes_seq ?_
                refine goes_region ?_
                refine lst_run (run_assign (by conv => lhs; whnf)) rfl ?_
                refine lst_done ?_
                refine goes_ret1 Tryz.func51 rfl (by conv => lhs; whnf) ?_
                refine ⟨?_, rfl⟩
                have hs : signs.contains c = true := by rw [← hi]; exact h
                simp only [tokLen, hu, hlo, hd, hm, hp, hs]; rfl
              · refine goes_skip ?_
                refine goes_inBlock ?_
                refine goes_seq ?_
                refine goes_region ?_
                refine lst_run (run_assign (by conv => lhs; whnf)) rfl ?_
                refine lst_done ?_
                refine goes_ret1 Tryz.func51 rfl (by conv => lhs; whnf) ?_
                refine ⟨?_, rfl⟩
                have hs : signs.contains c = false := by rw [← hi]; exact h
                simp only [tokLen, hu, hlo, hd, hm, hp, hs]; rfl
end Go.Proofs.YtdiophafmokfiaaGreatDoor
