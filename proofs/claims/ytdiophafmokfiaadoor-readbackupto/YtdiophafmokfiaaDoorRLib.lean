/-
  Functions of Go's library that the reader calls: a beginning, the place of a name in a list.
-/
import Derived.Test.YtdiophafmokfiaaDoorRWalk2
import Derived.Test.YtdiophafmokfiaaDoorAppend
namespace Go.Proofs.YtdiophafmokfiaaDoor
open Go.RowKit
set_option linter.unusedVariables false
set_option maxRecDepth 100000
set_option maxHeartbeats 1000000

theorem prefix_take : ∀ (m l : Str), (decide (m.length ≤ l.length) && (l.take m.length == m)) = m.isPrefixOf l
  | [], l => by simp [List.isPrefixOf]
  | c :: m, [] => by simp [List.isPrefixOf]
  | c :: m, d :: l => by
    have ih := prefix_take m l
    simp only [List.isPrefixOf, List.length_cons, List.take_succ_cons, Nat.add_le_add_iff_right]
    rw [← ih]
    have : (d :: l.take m.length == c :: m) = ((c == d) && (l.take m.length == m)) := by
      rw [List.cons_beq_cons]; congr 1; exact BEq.comm
    rw [this]
    cases decide (m.length ≤ l.length) <;> cases (c == d) <;> simp
theorem hasPrefix0_any (l m : Str) (w : World) : Calls Tryd.prog 133 #[sv l, sv m] w fun e w' => e = .returned (.bool (m.isPrefixOf l)) ∧ w' = w := by
  have hp := prefix_take m l
  by_cases h : m.length ≤ l.length
  · refine goes_enter2 Tryd.func133 rfl Tryd.ntmps133 rfl ?_
    refine goes_seq ?_
    refine goes_region ?_
    refine lst_run (run_assign (by conv => lhs; whnf)) rfl ?_
    refine lst_done ?_
    refine goes_seq ?_
    refine goes_region ?_
    refine lst_run (run_move (by conv => lhs; whnf)) rfl ?_
    refine lst_run (run_len_str rfl rfl rfl) rfl ?_
    refine lst_run (run_move (by conv => lhs; whnf)) rfl ?_
    refine lst_run (run_len_str rfl rfl rfl) rfl ?_
    first
      | refine lst_run (run_geq_yes rfl rfl (by omega)) rfl ?_
      | refine lst_run (run_geq_no rfl rfl (by omega)) rfl ?_
      | refine lst_run (rfl) rfl ?_
    refine lst_run (run_move (by conv => lhs; whnf)) rfl ?_
    refine lst_guard rfl rfl ?_
    refine lst_run (run_move (by conv => lhs; whnf)) rfl ?_
    refine lst_guard rfl rfl ?_
    refine lst_run (run_move (by conv => lhs; whnf)) rfl ?_
    refine lst_guard rfl rfl ?_
    refine lst_run (run_len_str rfl rfl rfl) rfl ?_
    refine lst_guard rfl rfl ?_
    refine lst_run (run_slice_to rfl rfl rfl (by omega) (by first | omega | (simp; done) | (simp; omega))) rfl ?_
    refine lst_guard rfl rfl ?_
    refine lst_run (run_move (by conv => lhs; whnf)) rfl ?_
    refine lst_guard rfl rfl ?_
    first
      | refine lst_run (run_eql_str rfl rfl) rfl ?_
      | refine lst_run (rfl) rfl ?_
    first
      | refine lst_run (run_pick_t rfl (by conv => lhs; whnf)) rfl ?_
      | refine lst_run (run_pick_f rfl (by conv => lhs; whnf)) rfl ?_
    refine lst_run (run_assign (by conv => lhs; whnf)) rfl ?_
    refine lst_done ?_
    refine goes_ret1 Tryd.func133 rfl (by conv => lhs; whnf) ?_
    rw [← hp, decide_eq_true h]
    exact ⟨rfl, rfl⟩
  · refine goes_enter2 Tryd.func133 rfl Tryd.ntmps133 rfl ?_
    refine goes_seq ?_
    refine goes_region ?_
    refine lst_run (run_assign (by conv => lhs; whnf)) rfl ?_
    refine lst_done ?_
    refine goes_seq ?_
    refine goes_region ?_
    refine lst_run (run_move (by conv => lhs; whnf)) rfl ?_
    refine lst_run (run_len_str rfl rfl rfl) rfl ?_
    refine lst_run (run_move (by conv => lhs; whnf)) rfl ?_
    refine lst_run (run_len_str rfl rfl rfl) rfl ?_
    first
      | refine lst_run (run_geq_yes rfl rfl (by omega)) rfl ?_
      | refine lst_run (run_geq_no rfl rfl (by omega)) rfl ?_
      | refine lst_run (rfl) rfl ?_
    refine lst_run (run_move (by conv => lhs; whnf)) rfl ?_
    refine lst_pass rfl rfl rfl ?_
    refine lst_pass rfl rfl rfl ?_
    refine lst_pass rfl rfl rfl ?_
    refine lst_pass rfl rfl rfl ?_
    refine lst_pass rfl rfl rfl ?_
    refine lst_pass rfl rfl rfl ?_
    first
      | refine lst_run (run_pick_t rfl (by conv => lhs; whnf)) rfl ?_
      | refine lst_run (run_pick_f rfl (by conv => lhs; whnf)) rfl ?_
    refine lst_run (run_assign (by conv => lhs; whnf)) rfl ?_
    refine lst_done ?_
    refine goes_ret1 Tryd.func133 rfl (by conv => lhs; whnf) ?_
    rw [← hp, decide_eq_false h]
    exact ⟨rfl, rfl⟩
theorem hasPrefix_any (l m : Str) (w : World) : Calls Tryd.prog 119 #[sv l, sv m] w fun e w' => e = .returned (.bool (m.isPrefixOf l)) ∧ w' = w := by
  refine goes_enter2 Tryd.func119 rfl Tryd.ntmps119 rfl ?_
  refine goes_seq ?_
  refine goes_region ?_
  refine lst_run (run_assign (by conv => lhs; whnf)) rfl ?_
  refine lst_done ?_
  refine goes_seq ?_
  refine goes_region ?_
  refine lst_run (run_move (by conv => lhs; whnf)) rfl ?_
  refine lst_run (run_move (by conv => lhs; whnf)) rfl ?_
  refine lst_enter (run_call (by kernel_rfl) (args_2 (by conv => lhs; whnf) (by conv => lhs; whnf))) rfl ?_
  refine Calls.mono (hasPrefix0_any l m _) ?_
  rintro _ w1 ⟨rfl, rfl⟩
  refine ⟨_, rfl, ?_⟩
  refine lst_run (run_assign (by conv => lhs; whnf)) rfl ?_
  refine lst_done ?_
  refine goes_ret1 Tryd.func119 rfl (by conv => lhs; whnf) ?_
  exact ⟨rfl, rfl⟩
def idxI (vs : List Str) (x : Str) : Int := if x ∈ vs then (idxOfV vs x : Nat) else -1
theorem idx_app {x : Str} : ∀ {D : List Str} (R : List Str), x ∉ D → idxOfV (D ++ x :: R) x = D.length
  | [], R, _ => by simp [idxOfV]
  | v :: D, R, h => by
    have h1 : ¬ v = x := fun e => h (by simp [e])
    have h2 : x ∉ D := fun e => h (by simp [e])
    simp only [List.cons_append, idxOfV, if_neg h1, List.length_cons]
    rw [idx_app R h2]
section
variable {M : List Nat} {w0 : World} {H : List (Nat × Obj)} {F : List (World → Prop)} {b : Nat}
theorem index_any (vs : List Str) (x : Str) (V : Value) (O : List (Nat × Obj)) (w : World) (hr : Row 9 1 V vs.length (vs.map sv) O) (hS : St M w0 (O ++ H) F w) (hb : vs.length ≤ 1048576) :
    Calls Tryd.prog 121 #[V, sv x] w fun e w' => e = .returned (.int .i64 (idxI vs x)) ∧ w' = w := by
  obtain ⟨A, c, rfl⟩ := hr.form
  refine goes_enter2 Tryd.func121 rfl Tryd.ntmps121 rfl ?_
  refine goes_seq ?_
  refine goes_region ?_
  refine lst_run (run_assign (by conv => lhs; whnf)) rfl ?_
  refine lst_done ?_
  refine goes_seq ?_
  refine goes_seq ?_
  refine goes_region ?_
  refine lst_run (run_move (by conv => lhs; whnf)) rfl ?_
  refine lst_run (run_len_slice rfl rfl rfl) rfl ?_
  refine lst_run (run_move (by conv => lhs; whnf)) rfl ?_
  refine lst_done ?_
  refine goes_block ?_
  refine goes_loop1 8 (9 :: 10 :: 5 :: 11 :: 12 :: 13 :: 14 :: 15 :: 16 :: 17 :: 4 :: 18 :: []) (fun (R : List Str) v w' => w' = w ∧ ∃ D, vs = D ++ R ∧ v = .int .i64 (D.length : Nat) ∧ x ∉ D) (fun R => R.length) (vs) ?_ (by conv => lhs; whnf) ?_
  · exact ⟨rfl, [], rfl, rfl, by simp⟩
  rintro R _ w1 jv ⟨rfl, D, hD, rfl, hx⟩ ih
  have hlen : vs.length = D.length + R.length := by rw [hD, List.length_append]
  cases R with
  | nil =>
    simp only [List.length_nil] at hlen
    refine goes_seq ?_
    refine goes_region ?_
    first
      | refine lst_run (run_lss_yes rfl rfl (by omega)) rfl ?_
      | refine lst_run (run_lss_no rfl rfl (by omega)) rfl ?_
      | refine lst_run (rfl) rfl ?_
    refine lst_done ?_
    refine goes_seq ?_
    refine goes_false rfl ?_
    refine goes_exit rfl ?_
    refine goes_seq ?_
    refine goes_region ?_
    refine lst_run (run_assign (by conv => lhs; whnf)) rfl ?_
    refine lst_done ?_
    refine goes_ret1 Tryd.func121 rfl (by conv => lhs; whnf) ?_
    refine ⟨?_, rfl⟩
    have : x ∉ vs := by rw [hD, List.append_nil]; exact hx
    simp only [idxI, if_neg this]
  | cons y r =>
    simp only [List.length_cons] at hlen
    generalize hxs : vs.map sv = xs at hr
    generalize hvl : vs.length = vl at *
    cases hr with
    | nil_ => omega
    | own_ h1 h2 h3 hcp =>
      rename_i bl sp
      have hcell : w1.cell? ⟨bl, 0 + ((D.length : Nat) : Int).toNat * 1, none⟩ = some (sv y) := by
        have hbl : w1.heap[bl]? = some (.cells (xs ++ sp).toArray 9) := hS.own (bl, _) (by simp)
        rw [cell_own hbl, ← hxs, hD]
        simp
      refine goes_seq ?_
      refine goes_region ?_
      first
        | refine lst_run (run_lss_yes rfl rfl (by omega)) rfl ?_
        | refine lst_run (run_lss_no rfl rfl (by omega)) rfl ?_
        | refine lst_run (rfl) rfl ?_
      refine lst_done ?_
      refine goes_seq ?_
      refine goes_true rfl ?_
      refine goes_skip ?_
      refine goes_seq ?_
      refine goes_block ?_
      refine goes_seq ?_
      refine goes_region ?_
      refine lst_run (run_move (by conv => lhs; whnf)) rfl ?_
      refine lst_run (run_assign (by conv => lhs; whnf)) rfl ?_
      refine lst_done ?_
      refine goes_seq ?_
      refine goes_region ?_
      refine lst_run (run_move (by conv => lhs; whnf)) rfl ?_
      refine lst_run (run_move (by conv => lhs; whnf)) rfl ?_
      refine lst_run (run_move (by conv => lhs; whnf)) rfl ?_
      refine lst_run (run_indexAddr (sz := 1) rfl rfl rfl rfl (by omega) (by omega)) rfl ?_
      first
        | refine lst_run (run_load1_own hS rfl rfl (by first | exact .head | exact .tail .head | exact .tail (.tail .head) | exact .tail (.tail (.tail .head)) | exact .tail (.tail (.tail (.tail .head))) | exact .tail (.tail (.tail (.tail (.tail .head))))) (by repeat constructor)) rfl ?_
        | refine lst_run (run_load1 rfl rfl (by first | assumption | exact hS.cell0 (by assumption) | exact lv_next hS | exact lv_list hS)) rfl ?_
      first
        | refine lst_run (run_eql_str rfl rfl) rfl ?_
        | refine lst_run (rfl) rfl ?_
      refine lst_done ?_
      refine goes_if rfl (fun h => ?_) (fun h => ?_)
      · obtain rfl : x = y := by simpa using h
        refine goes_seq ?_
        refine goes_region ?_
        refine lst_run (run_move (by conv => lhs; whnf)) rfl ?_
        refine lst_run (run_assign (by conv => lhs; whnf)) rfl ?_
        refine lst_done ?_
        refine goes_ret1 Tryd.func121 rfl (by conv => lhs; whnf) ?_
        refine ⟨?_, rfl⟩
        have : x ∈ vs := by rw [hD]; simp
        simp only [idxI, if_pos this]
        rw [hD, idx_app r hx]
      · have h' : ¬ x = y := by simpa using h
        refine goes_skip ?_
        refine goes_inBlock ?_
        refine goes_region ?_
        refine lst_run (run_add rfl rfl (by omega) (by omega)) rfl ?_
        refine lst_run (run_move (by conv => lhs; whnf)) rfl ?_
        refine lst_done ?_
        refine ih (r) _ _ _ ?_ ?_ (by conv => lhs; whnf) (by kernel_rfl)
        · simp
        · exact ⟨rfl, D ++ [y], by rw [hD, List.append_assoc]; rfl, by simp, by simp [hx, h']⟩
end
end Go.Proofs.YtdiophafmokfiaaDoor
