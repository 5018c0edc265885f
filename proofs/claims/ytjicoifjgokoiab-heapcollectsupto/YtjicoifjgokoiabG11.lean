/-
  The document's own CollectAll, walked.
-/
import Derived.Test.YtjicoifjgokoiabG9
import Derived.Test.YtjicoifjgokoiabG10
namespace Go.Proofs.Ytjicoifjgokoiab
open Go.RowKit
set_option linter.unusedVariables false
set_option linter.unusedSimpArgs false
set_option maxRecDepth 100000
set_option maxHeartbeats 1000000

/-- What a block of one slice holds, as long as it does. -/
def BlkIs (b : Nat) (o : Obj) (w : World) : Prop := w.heap[b]? = some o
theorem ahead_any (Mk : List Bool) (n : Int) (b3 : Nat) (A : Option Addr) (c : Nat) (w : World) (hb : BlkIs b3 (.cells [.slice A Mk.length c].toArray 43) w) (hM : Flat 1 (boolsV Mk) A Mk.length c w) (hl : Mk.length ≤ 1048576) :
    Calls Try.prog 57 #[.int .i64 n, ptrM b3] w fun e w' => e = .returned (.int .i64 (rkI Mk n)) ∧ Below w.heap.size w w' := by
  have hS := ((St.start w).flat (M := []) hM).base (φ := fun w' => w'.cell? ⟨b3, 0, none⟩ = some (.slice A Mk.length c)) fun w' hx => by
    have : w'.heap[b3]? = some (.cells [.slice A Mk.length c].toArray 43) := by rw [hx.block b3 (own_lt hb) (by simp)]; exact hb
    rw [cell_own this]; rfl
  have hcb : ∀ {H'} w', St [] w H' [fun w' => w'.cell? ⟨b3, 0, none⟩ = some (.slice A Mk.length c), Flat 1 (boolsV Mk) A Mk.length c] w' → w'.cell? ⟨b3, 0, none⟩ = some (.slice A Mk.length c) := fun w' hS => hS.fact (.head _)
  refine goes_enter2 Try.func57 rfl Try.ntmps57 rfl ?_
  refine goes_seq ?_
  refine goes_region ?_
  refine lst_run (run_assign (by conv => lhs; whnf)) rfl ?_
  refine lst_done ?_
  refine goes_seq ?_
  refine goes_region ?_
  refine lst_run (run_assign (by conv => lhs; whnf)) rfl ?_
  refine lst_done ?_
  refine goes_seq ?_
  refine goes_seq ?_
  refine goes_region ?_
  refine lst_run (run_assign (by conv => lhs; whnf)) rfl ?_
  refine lst_done ?_
  refine goes_block ?_
  refine goes_loop2 5 4 (6 :: 7 :: 8 :: 9 :: 10 :: 11 :: 12 :: 13 :: 14 :: 17 :: 18 :: 19 :: 20 :: 21 :: 22 :: 15 :: 16 :: []) (fun (Q : List Bool) v u w' => ∃ D : List Bool, Mk = D ++ Q ∧ ((D.length : Int) ≤ n ∨ D = []) ∧ v = .int .i64 (D.length : Nat) ∧ u = .int .i64 ((D.count true : Nat) : Int) ∧ St [] w [] [fun w' => w'.cell? ⟨b3, 0, none⟩ = some (.slice A Mk.length c), Flat 1 (boolsV Mk) A Mk.length c] w') (fun Q => Q.length) (Mk) ?_ (by conv => lhs; whnf) (by conv => lhs; whnf) ?_
  · exact ⟨[], rfl, .inr rfl, rfl, rfl, hS⟩
  clear hS
  rintro Q _ _ w4 jv ⟨D, hD, hDn, rfl, rfl, hS⟩ ih
  have hlen : Mk.length = D.length + Q.length := by rw [hD]; simp
  have hfin : ¬ ((D.length : Int) < n ∧ 0 < Q.length) → rkI Mk n = ((D.count true : Nat) : Int) := fun hq => by
    show ((rk Mk n.toNat : Nat) : Int) = _
    congr 1
    by_cases hQ : Q.length = 0
    · have : Mk = D := by rw [hD, List.eq_nil_of_length_eq_zero hQ]; simp
      subst this
      by_cases hn : Mk.length ≤ n.toNat
      · rw [rk_end hn]; unfold rk; rw [List.take_length]
      · rcases hDn with h1 | h1
        · omega
        · rw [h1] at hn ⊢; simp at hn
    · have hnd : n.toNat = D.length := by
        rcases hDn with h1 | h1
        · omega
        · have hd0 : D.length = 0 := by rw [h1]; rfl
          omega
      unfold rk
      rw [hD, hnd, List.take_left]
  by_cases hn : (D.length : Int) < n
  case neg =>
    rw [hfin (by omega)]
    refine goes_seq ?_
    refine goes_seq ?_
    refine goes_region ?_
    refine lst_run (run_move (by conv => lhs; whnf)) rfl ?_
    refine lst_run (run_move (by conv => lhs; whnf)) rfl ?_
    first
      | refine lst_run (run_lss_yes rfl rfl (by omega)) rfl ?_
      | refine lst_run (run_lss_no rfl rfl (by omega)) rfl ?_
      | refine lst_run (rfl) rfl ?_
    refine lst_run (run_move (by conv => lhs; whnf)) rfl ?_
    refine lst_pass rfl rfl rfl ?_
    refine lst_pass rfl rfl rfl ?_
    refine lst_pass rfl rfl rfl ?_
    refine lst_pass rfl rfl rfl ?_
    first
      | refine lst_run (run_pick_t rfl (by conv => lhs; whnf)) rfl ?_
      | refine lst_run (run_pick_f rfl (by conv => lhs; whnf)) rfl ?_
    refine lst_done ?_
    refine goes_false rfl ?_
    refine goes_exit rfl ?_
    refine goes_seq ?_
    refine goes_region ?_
    refine lst_run (run_move (by conv => lhs; whnf)) rfl ?_
    refine lst_run (run_assign (by conv => lhs; whnf)) rfl ?_
    refine lst_done ?_
    refine goes_ret1 Try.func57 rfl (by conv => lhs; whnf) ?_
    exact ⟨rfl, hS.ext.below⟩
  cases Q with
  | nil =>
    simp only [List.length_nil] at hlen
    rw [hfin (by simp)]
    refine goes_seq ?_
    refine goes_seq ?_
    refine goes_region ?_
    refine lst_run (run_move (by conv => lhs; whnf)) rfl ?_
    refine lst_run (run_move (by conv => lhs; whnf)) rfl ?_
    first
      | refine lst_run (run_lss_yes rfl rfl (by omega)) rfl ?_
      | refine lst_run (run_lss_no rfl rfl (by omega)) rfl ?_
      | refine lst_run (rfl) rfl ?_
    refine lst_run (run_move (by conv => lhs; whnf)) rfl ?_
    refine lst_guard rfl rfl ?_
    refine lst_run (run_move (by conv => lhs; whnf)) rfl ?_
    refine lst_guard rfl rfl ?_
    first
      | refine lst_run (run_load1_own hS rfl rfl (by first | exact .head | exact .tail .head | exact .tail (.tail .head) | exact .tail (.tail (.tail .head)) | exact .tail (.tail (.tail (.tail .head))) | exact .tail (.tail (.tail (.tail (.tail .head))))) (by repeat constructor)) rfl ?_
      | refine lst_run (run_load1 rfl rfl (by first | assumption | exact hcb _ hS | exact hS.cell0 (by assumption) | exact lv_next hS | exact lv_list hS)) rfl ?_
    refine lst_guard rfl rfl ?_
    refine lst_run (run_len_slice rfl rfl rfl) rfl ?_
    refine lst_guard rfl rfl ?_
    first
      | refine lst_run (run_lss_yes rfl rfl (by omega)) rfl ?_
      | refine lst_run (run_lss_no rfl rfl (by omega)) rfl ?_
      | refine lst_run (rfl) rfl ?_
    first
      | refine lst_run (run_pick_t rfl (by conv => lhs; whnf)) rfl ?_
      | refine lst_run (run_pick_f rfl (by conv => lhs; whnf)) rfl ?_
    refine lst_done ?_
    refine goes_false rfl ?_
    refine goes_exit rfl ?_
    refine goes_seq ?_
    refine goes_region ?_
    refine lst_run (run_move (by conv => lhs; whnf)) rfl ?_
    refine lst_run (run_assign (by conv => lhs; whnf)) rfl ?_
    refine lst_done ?_
    refine goes_ret1 Try.func57 rfl (by conv => lhs; whnf) ?_
    exact ⟨rfl, hS.ext.below⟩
  | cons x Q =>
    simp only [List.length_cons] at hlen
    have hxi : Mk[D.length]? = some x := by rw [hD]; simp
    have hcnt : D.count true ≤ D.length := List.count_le_length
    obtain ⟨bt, ot, rfl⟩ := hM.some_ (by omega)
    have hct : ∀ {H'} w', St [] w H' [fun w' => w'.cell? ⟨b3, 0, none⟩ = some (.slice (some ⟨bt, ot, none⟩) Mk.length c), Flat 1 (boolsV Mk) (some ⟨bt, ot, none⟩) Mk.length c] w' → w'.cell? ⟨bt, ot + ((D.length : Nat) : Int).toNat * 1, none⟩ = some (.bool x) := fun w' hS => by
      have := (hS.fact (.tail _ (.head _))).bool hxi
      rw [show ((D.length : Nat) : Int).toNat = D.length by omega]; exact this
    cases x with
    | true =>
      refine goes_seq ?_
      refine goes_seq ?_
      refine goes_region ?_
      refine lst_run (run_move (by conv => lhs; whnf)) rfl ?_
      refine lst_run (run_move (by conv => lhs; whnf)) rfl ?_
      first
        | refine lst_run (run_lss_yes rfl rfl (by omega)) rfl ?_
        | refine lst_run (run_lss_no rfl rfl (by omega)) rfl ?_
        | refine lst_run (rfl) rfl ?_
      refine lst_run (run_move (by conv => lhs; whnf)) rfl ?_
      refine lst_guard rfl rfl ?_
      refine lst_run (run_move (by conv => lhs; whnf)) rfl ?_
      refine lst_guard rfl rfl ?_
      first
        | refine lst_run (run_load1_own hS rfl rfl (by first | exact .head | exact .tail .head | exact .tail (.tail .head) | exact .tail (.tail (.tail .head)) | exact .tail (.tail (.tail (.tail .head))) | exact .tail (.tail (.tail (.tail (.tail .head))))) (by repeat constructor)) rfl ?_
        | refine lst_run (run_load1 rfl rfl (by first | assumption | exact hcb _ hS | exact hct _ hS | exact hS.cell0 (by assumption) | exact lv_next hS | exact lv_list hS)) rfl ?_
      refine lst_guard rfl rfl ?_
      refine lst_run (run_len_slice rfl rfl rfl) rfl ?_
      refine lst_guard rfl rfl ?_
      first
        | refine lst_run (run_lss_yes rfl rfl (by omega)) rfl ?_
        | refine lst_run (run_lss_no rfl rfl (by omega)) rfl ?_
        | refine lst_run (rfl) rfl ?_
      first
        | refine lst_run (run_pick_t rfl (by conv => lhs; whnf)) rfl ?_
        | refine lst_run (run_pick_f rfl (by conv => lhs; whnf)) rfl ?_
      refine lst_done ?_
      refine goes_true rfl ?_
      refine goes_skip ?_
      refine goes_seq ?_
      refine goes_block ?_
      refine goes_seq ?_
      refine goes_region ?_
      first
        | refine lst_run (run_load1_own hS rfl rfl (by first | exact .head | exact .tail .head | exact .tail (.tail .head) | exact .tail (.tail (.tail .head)) | exact .tail (.tail (.tail (.tail .head))) | exact .tail (.tail (.tail (.tail (.tail .head))))) (by repeat constructor)) rfl ?_
        | refine lst_run (run_load1 rfl rfl (by first | assumption | exact hcb _ hS | exact hct _ hS | exact hS.cell0 (by assumption) | exact lv_next hS | exact lv_list hS)) rfl ?_
      refine lst_run (run_move (by conv => lhs; whnf)) rfl ?_
      refine lst_run (run_indexAddr (sz := 1) rfl rfl rfl rfl (by omega) (by omega)) rfl ?_
      first
        | refine lst_run (run_load1_own hS rfl rfl (by first | exact .head | exact .tail .head | exact .tail (.tail .head) | exact .tail (.tail (.tail .head)) | exact .tail (.tail (.tail (.tail .head))) | exact .tail (.tail (.tail (.tail (.tail .head))))) (by repeat constructor)) rfl ?_
        | refine lst_run (run_load1 rfl rfl (by first | assumption | exact hcb _ hS | exact hct _ hS | exact hS.cell0 (by assumption) | exact lv_next hS | exact lv_list hS)) rfl ?_
      refine lst_done ?_
      refine goes_true rfl ?_
      refine goes_region ?_
      refine lst_run (run_move (by conv => lhs; whnf)) rfl ?_
      refine lst_run (run_add rfl rfl (by omega) (by omega)) rfl ?_
      refine lst_run (run_assign (by conv => lhs; whnf)) rfl ?_
      refine lst_done ?_
      refine goes_inBlock ?_
      refine goes_region ?_
      refine lst_run (run_move (by conv => lhs; whnf)) rfl ?_
      refine lst_run (run_add rfl rfl (by omega) (by omega)) rfl ?_
      refine lst_run (run_assign (by conv => lhs; whnf)) rfl ?_
      refine lst_done ?_
      refine ih (Q) _ _ _ _ ?_ ?_ (by conv => lhs; whnf) (by conv => lhs; whnf) (by kernel_rfl)
      · simp
      · exact ⟨D ++ [true], by rw [hD]; simp, .inl (by simp; omega), by simp, by simp, hS⟩
    | false =>
      refine goes_seq ?_
      refine goes_seq ?_
      refine goes_region ?_
      refine lst_run (run_move (by conv => lhs; whnf)) rfl ?_
      refine lst_run (run_move (by conv => lhs; whnf)) rfl ?_
      first
        | refine lst_run (run_lss_yes rfl rfl (by omega)) rfl ?_
        | refine lst_run (run_lss_no rfl rfl (by omega)) rfl ?_
        | refine lst_run (rfl) rfl ?_
      refine lst_run (run_move (by conv => lhs; whnf)) rfl ?_
      refine lst_guard rfl rfl ?_
      refine lst_run (run_move (by conv => lhs; whnf)) rfl ?_
      refine lst_guard rfl rfl ?_
      first
        | refine lst_run (run_load1_own hS rfl rfl (by first | exact .head | exact .tail .head | exact .tail (.tail .head) | exact .tail (.tail (.tail .head)) | exact .tail (.tail (.tail (.tail .head))) | exact .tail (.tail (.tail (.tail (.tail .head))))) (by repeat constructor)) rfl ?_
        | refine lst_run (run_load1 rfl rfl (by first | assumption | exact hcb _ hS | exact hct _ hS | exact hS.cell0 (by assumption) | exact lv_next hS | exact lv_list hS)) rfl ?_
      refine lst_guard rfl rfl ?_
      refine lst_run (run_len_slice rfl rfl rfl) rfl ?_
      refine lst_guard rfl rfl ?_
      first
        | refine lst_run (run_lss_yes rfl rfl (by omega)) rfl ?_
        | refine lst_run (run_lss_no rfl rfl (by omega)) rfl ?_
        | refine lst_run (rfl) rfl ?_
      first
        | refine lst_run (run_pick_t rfl (by conv => lhs; whnf)) rfl ?_
        | refine lst_run (run_pick_f rfl (by conv => lhs; whnf)) rfl ?_
      refine lst_done ?_
      refine goes_true rfl ?_
      refine goes_skip ?_
      refine goes_seq ?_
      refine goes_block ?_
      refine goes_seq ?_
      refine goes_region ?_
      first
        | refine lst_run (run_load1_own hS rfl rfl (by first | exact .head | exact .tail .head | exact .tail (.tail .head) | exact .tail (.tail (.tail .head)) | exact .tail (.tail (.tail (.tail .head))) | exact .tail (.tail (.tail (.tail (.tail .head))))) (by repeat constructor)) rfl ?_
        | refine lst_run (run_load1 rfl rfl (by first | assumption | exact hcb _ hS | exact hct _ hS | exact hS.cell0 (by assumption) | exact lv_next hS | exact lv_list hS)) rfl ?_
      refine lst_run (run_move (by conv => lhs; whnf)) rfl ?_
      refine lst_run (run_indexAddr (sz := 1) rfl rfl rfl rfl (by omega) (by omega)) rfl ?_
      first
        | refine lst_run (run_load1_own hS rfl rfl (by first | exact .head | exact .tail .head | exact .tail (.tail .head) | exact .tail (.tail (.tail .head)) | exact .tail (.tail (.tail (.tail .head))) | exact .tail (.tail (.tail (.tail (.tail .head))))) (by repeat constructor)) rfl ?_
        | refine lst_run (run_load1 rfl rfl (by first | assumption | exact hcb _ hS | exact hct _ hS | exact hS.cell0 (by assumption) | exact lv_next hS | exact lv_list hS)) rfl ?_
      refine lst_done ?_
      refine goes_false rfl ?_
      refine goes_skip ?_
      refine goes_inBlock ?_
      refine goes_region ?_
      refine lst_run (run_move (by conv => lhs; whnf)) rfl ?_
      refine lst_run (run_add rfl rfl (by omega) (by omega)) rfl ?_
      refine lst_run (run_assign (by conv => lhs; whnf)) rfl ?_
      refine lst_done ?_
      refine ih (Q) _ _ _ _ ?_ ?_ (by conv => lhs; whnf) (by conv => lhs; whnf) (by kernel_rfl)
      · simp
      · exact ⟨D ++ [false], by rw [hD]; simp, .inl (by simp; omega), by simp, by simp, hS⟩
theorem kept2_any (h : HH) (Mk : List Bool) (n : Int) (b1 b3 : Nat) (A B C : Option Addr) (c d e : Nat) (w : World) (hb1 : BlkIs b1 (hob A h.cs.length c B h.tr.length d) w) (hb : BlkIs b3 (.cells [.slice C Mk.length e].toArray 43) w) (hT : Flat 1 (intsV h.tr) B h.tr.length d w) (hM : Flat 1 (boolsV Mk) C Mk.length e w) (hl : Mk.length ≤ 1048576) (hl2 : h.tr.length ≤ 1048576) (htr : ∀ a ∈ h.tr, 0 ≤ a ∧ a < Mk.length) :
    Calls Try.prog 58 #[.int .i64 n, ptrM b1, ptrM b3] w fun e w' => e = .returned (.int .i64 (rkI (h.tr.map (markAt Mk)) n)) ∧ Below w.heap.size w w' := by
  have hS := ((((St.start w).flat (M := []) hM).flat (M := []) hT).base (φ := fun w' => w'.cell? ⟨b3, 0, none⟩ = some (.slice C Mk.length e)) fun w' hx => by
    have : w'.heap[b3]? = some (.cells [.slice C Mk.length e].toArray 43) := by rw [hx.block b3 (own_lt hb) (by simp)]; exact hb
    rw [cell_own this]; rfl).base (φ := fun w' => w'.cell? ⟨b1, 0 + 1, none⟩ = some (.slice B h.tr.length d)) fun w' hx => by
    have : w'.heap[b1]? = some (hob A h.cs.length c B h.tr.length d) := by rw [hx.block b1 (own_lt hb1) (by simp)]; exact hb1
    rw [cell_own this]; rfl
  generalize hF : [fun w' : World => w'.cell? ⟨b1, 0 + 1, none⟩ = some (.slice B h.tr.length d), fun w' => w'.cell? ⟨b3, 0, none⟩ = some (.slice C Mk.length e), Flat 1 (intsV h.tr) B h.tr.length d, Flat 1 (boolsV Mk) C Mk.length e] = F at hS
  have hcb1 : ∀ {H'} w', St [] w H' F w' → w'.cell? ⟨b1, 0 + 1, none⟩ = some (.slice B h.tr.length d) := fun w' hS => by subst hF; exact hS.fact (.head _)
  have hcb3 : ∀ {H'} w', St [] w H' F w' → w'.cell? ⟨b3, 0, none⟩ = some (.slice C Mk.length e) := fun w' hS => by subst hF; exact hS.fact (.tail _ (.head _))
  have hfT : ∀ {H'} w', St [] w H' F w' → Flat 1 (intsV h.tr) B h.tr.length d w' := fun w' hS => by subst hF; exact hS.fact (.tail _ (.tail _ (.head _)))
  have hfM : ∀ {H'} w', St [] w H' F w' → Flat 1 (boolsV Mk) C Mk.length e w' := fun w' hS => by subst hF; exact hS.fact (.tail _ (.tail _ (.tail _ (.head _))))
  clear hF
  refine goes_enter3 Try.func58 rfl Try.ntmps58 rfl ?_
  refine goes_seq ?_
  refine goes_region ?_
  refine lst_run (run_assign (by conv => lhs; whnf)) rfl ?_
  refine lst_done ?_
  refine goes_seq ?_
  refine goes_region ?_
  refine lst_run (run_assign (by conv => lhs; whnf)) rfl ?_
  refine lst_done ?_
  refine goes_seq ?_
  refine goes_seq ?_
  refine goes_region ?_
  refine lst_run (run_assign (by conv => lhs; whnf)) rfl ?_
  refine lst_done ?_
  refine goes_block ?_
  refine goes_loop2 6 5 (7 :: 8 :: 9 :: 10 :: 11 :: 12 :: 13 :: 14 :: 15 :: 16 :: 19 :: 20 :: 21 :: 22 :: 23 :: 24 :: 25 :: 26 :: 27 :: 28 :: 17 :: 18 :: []) (fun (Q : List Int) v u w' => ∃ D : List Int, h.tr = D ++ Q ∧ ((D.length : Int) ≤ n ∨ D = []) ∧ v = .int .i64 (D.length : Nat) ∧ u = .int .i64 (((D.map (markAt Mk)).count true : Nat) : Int) ∧ St [] w [] F w') (fun Q => Q.length) (h.tr) ?_ (by conv => lhs; whnf) (by conv => lhs; whnf) ?_
  · exact ⟨[], rfl, .inr rfl, rfl, rfl, hS⟩
  clear hS
  rintro Q _ _ w4 jv ⟨D, hD, hDn, rfl, rfl, hS⟩ ih
  have hlen : h.tr.length = D.length + Q.length := by rw [hD]; simp
  have hfin : ¬ ((D.length : Int) < n ∧ 0 < Q.length) → rkI (h.tr.map (markAt Mk)) n = (((D.map (markAt Mk)).count true : Nat) : Int) := fun hq => by
    show ((rk (h.tr.map (markAt Mk)) n.toNat : Nat) : Int) = _
    congr 1
    by_cases hQ : Q.length = 0
    · have hd : h.tr = D := by rw [hD, List.eq_nil_of_length_eq_zero hQ]; simp
      rw [hd]
      by_cases hn : D.length ≤ n.toNat
      · rw [rk_end (by simpa using hn)]; unfold rk; rw [List.take_length]
      · rcases hDn with h1 | h1
        · omega
        · rw [h1] at hn ⊢; simp at hn
    · have hnd : n.toNat = D.length := by
        rcases hDn with h1 | h1
        · omega
        · have hd0 : D.length = 0 := by rw [h1]; rfl
          omega
      unfold rk
      rw [hD, List.map_append, hnd, show D.length = (D.map (markAt Mk)).length by simp, List.take_left]
  by_cases hn : (D.length : Int) < n
  case neg =>
    rw [hfin (by omega)]
    refine goes_seq ?_
    refine goes_seq ?_
    refine goes_region ?_
    refine lst_run (run_move (by conv => lhs; whnf)) rfl ?_
    refine lst_run (run_move (by conv => lhs; whnf)) rfl ?_
    first
      | refine lst_run (run_lss_yes rfl rfl (by omega)) rfl ?_
      | refine lst_run (run_lss_no rfl rfl (by omega)) rfl ?_
      | refine lst_run (rfl) rfl ?_
    refine lst_run (run_move (by conv => lhs; whnf)) rfl ?_
    refine lst_pass rfl rfl rfl ?_
    refine lst_pass rfl rfl rfl ?_
    refine lst_pass rfl rfl rfl ?_
    refine lst_pass rfl rfl rfl ?_
    refine lst_pass rfl rfl rfl ?_
    first
      | refine lst_run (run_pick_t rfl (by conv => lhs; whnf)) rfl ?_
      | refine lst_run (run_pick_f rfl (by conv => lhs; whnf)) rfl ?_
    refine lst_done ?_
    refine goes_false rfl ?_
    refine goes_exit rfl ?_
    refine goes_seq ?_
    refine goes_region ?_
    refine lst_run (run_move (by conv => lhs; whnf)) rfl ?_
    refine lst_run (run_assign (by conv => lhs; whnf)) rfl ?_
    refine lst_done ?_
    refine goes_ret1 Try.func58 rfl (by conv => lhs; whnf) ?_
    exact ⟨rfl, hS.ext.below⟩
  cases Q with
  | nil =>
    simp only [List.length_nil] at hlen
    rw [hfin (by simp)]
    refine goes_seq ?_
    refine goes_seq ?_
    refine goes_region ?_
    refine lst_run (run_move (by conv => lhs; whnf)) rfl ?_
    refine lst_run (run_move (by conv => lhs; whnf)) rfl ?_
    first
      | refine lst_run (run_lss_yes rfl rfl (by omega)) rfl ?_
      | refine lst_run (run_lss_no rfl rfl (by omega)) rfl ?_
      | refine lst_run (rfl) rfl ?_
    refine lst_run (run_move (by conv => lhs; whnf)) rfl ?_
    refine lst_guard rfl rfl ?_
    refine lst_run (run_move (by conv => lhs; whnf)) rfl ?_
    refine lst_guard rfl rfl ?_
    refine lst_run (run_fieldAddr (off := 1) rfl rfl) rfl ?_
    refine lst_guard rfl rfl ?_
    first
      | refine lst_run (run_load1_own hS rfl rfl (by first | exact .head | exact .tail .head | exact .tail (.tail .head) | exact .tail (.tail (.tail .head)) | exact .tail (.tail (.tail (.tail .head))) | exact .tail (.tail (.tail (.tail (.tail .head))))) (by repeat constructor)) rfl ?_
      | refine lst_run (run_load1 rfl rfl (by first | assumption | exact hcb1 _ hS | exact hcb3 _ hS | exact hS.cell0 (by assumption) | exact lv_next hS | exact lv_list hS)) rfl ?_
    refine lst_guard rfl rfl ?_
    refine lst_run (run_len_slice rfl rfl rfl) rfl ?_
    refine lst_guard rfl rfl ?_
    first
      | refine lst_run (run_lss_yes rfl rfl (by omega)) rfl ?_
      | refine lst_run (run_lss_no rfl rfl (by omega)) rfl ?_
      | refine lst_run (rfl) rfl ?_
    first
      | refine lst_run (run_pick_t rfl (by conv => lhs; whnf)) rfl ?_
      | refine lst_run (run_pick_f rfl (by conv => lhs; whnf)) rfl ?_
    refine lst_done ?_
    refine goes_false rfl ?_
    refine goes_exit rfl ?_
    refine goes_seq ?_
    refine goes_region ?_
    refine lst_run (run_move (by conv => lhs; whnf)) rfl ?_
    refine lst_run (run_assign (by conv => lhs; whnf)) rfl ?_
    refine lst_done ?_
    refine goes_ret1 Try.func58 rfl (by conv => lhs; whnf) ?_
    exact ⟨rfl, hS.ext.below⟩
  | cons x Q =>
    simp only [List.length_cons] at hlen
    have hxi : h.tr[D.length]? = some x := by rw [hD]; simp
    obtain ⟨hx0, hx1⟩ := htr x (List.mem_of_getElem? hxi)
    obtain ⟨v, hv⟩ : ∃ v, Mk[x.toNat]? = some v := ⟨Mk[x.toNat]'(by omega), List.getElem?_eq_getElem _⟩
    have hvm := markAt_get hv
    have hcnt : (D.map (markAt Mk)).count true ≤ D.length := Nat.le_trans List.count_le_length (by simp)
    obtain ⟨bt, ot, rfl⟩ := hT.some_ (by omega)
    obtain ⟨bm, om, rfl⟩ := hM.some_ (by omega)
    have hct : ∀ {H'} w', St [] w H' F w' → w'.cell? ⟨bt, ot + ((D.length : Nat) : Int).toNat * 1, none⟩ = some (.int .i64 x) := fun w' hS => by
      have := (hfT _ hS).int hxi
      rw [show ((D.length : Nat) : Int).toNat = D.length by omega]; exact this
    have hcm : ∀ {H'} w', St [] w H' F w' → w'.cell? ⟨bm, om + x.toNat * 1, none⟩ = some (.bool v) := fun w' hS => (hfM _ hS).bool hv
    cases v with
    | true =>
      refine goes_seq ?_
      refine goes_seq ?_
      refine goes_region ?_
      refine lst_run (run_move (by conv => lhs; whnf)) rfl ?_
      refine lst_run (run_move (by conv => lhs; whnf)) rfl ?_
      first
        | refine lst_run (run_lss_yes rfl rfl (by omega)) rfl ?_
        | refine lst_run (run_lss_no rfl rfl (by omega)) rfl ?_
        | refine lst_run (rfl) rfl ?_
      refine lst_run (run_move (by conv => lhs; whnf)) rfl ?_
      refine lst_guard rfl rfl ?_
      refine lst_run (run_move (by conv => lhs; whnf)) rfl ?_
      refine lst_guard rfl rfl ?_
      refine lst_run (run_fieldAddr (off := 1) rfl rfl) rfl ?_
      refine lst_guard rfl rfl ?_
      first
        | refine lst_run (run_load1_own hS rfl rfl (by first | exact .head | exact .tail .head | exact .tail (.tail .head) | exact .tail (.tail (.tail .head)) | exact .tail (.tail (.tail (.tail .head))) | exact .tail (.tail (.tail (.tail (.tail .head))))) (by repeat constructor)) rfl ?_
        | refine lst_run (run_load1 rfl rfl (by first | assumption | exact hcb1 _ hS | exact hcb3 _ hS | exact hct _ hS | exact hcm _ hS | exact hS.cell0 (by assumption) | exact lv_next hS | exact lv_list hS)) rfl ?_
      refine lst_guard rfl rfl ?_
      refine lst_run (run_len_slice rfl rfl rfl) rfl ?_
      refine lst_guard rfl rfl ?_
      first
        | refine lst_run (run_lss_yes rfl rfl (by omega)) rfl ?_
        | refine lst_run (run_lss_no rfl rfl (by omega)) rfl ?_
        | refine lst_run (rfl) rfl ?_
      first
        | refine lst_run (run_pick_t rfl (by conv => lhs; whnf)) rfl ?_
        | refine lst_run (run_pick_f rfl (by conv => lhs; whnf)) rfl ?_
      refine lst_done ?_
      refine goes_true rfl ?_
      refine goes_skip ?_
      refine goes_seq ?_
      refine goes_block ?_
      refine goes_seq ?_
      refine goes_draw (St _ _ _ _) 8 ((0, true) :: (1, true) :: (2, true) :: (3, true) :: (4, true) :: (5, true) :: (6, true) :: (7, true) :: []) (by kernel_rfl) (by kernel_rfl) (hS.drew) ?_
      replace hS := hS.drew
      first
        | refine ord_read rfl (fun _ hS => run_load1_own hS rfl rfl (by first | exact .head | exact .tail .head | exact .tail (.tail .head) | exact .tail (.tail (.tail .head)) | exact .tail (.tail (.tail (.tail .head))) | exact .tail (.tail (.tail (.tail (.tail .head))))) (by repeat constructor)) rfl ?_
        | refine ord_read rfl (fun _ hS => run_load1 rfl rfl (by first | assumption | exact hcb1 _ hS | exact hcb3 _ hS | exact hct _ hS | exact hcm _ hS | exact hS.cell0 (by assumption) | exact lv_next hS | exact lv_list hS)) rfl ?_
      refine ord_read rfl (fun _ hS => run_fieldAddr (off := 1) rfl rfl) rfl ?_
      first
        | refine ord_read rfl (fun _ hS => run_load1_own hS rfl rfl (by first | exact .head | exact .tail .head | exact .tail (.tail .head) | exact .tail (.tail (.tail .head)) | exact .tail (.tail (.tail (.tail .head))) | exact .tail (.tail (.tail (.tail (.tail .head))))) (by repeat constructor)) rfl ?_
        | refine ord_read rfl (fun _ hS => run_load1 rfl rfl (by first | assumption | exact hcb1 _ hS | exact hcb3 _ hS | exact hct _ hS | exact hcm _ hS | exact hS.cell0 (by assumption) | exact lv_next hS | exact lv_list hS)) rfl ?_
      refine ord_read rfl (fun _ hS => run_move (by conv => lhs; whnf)) rfl ?_
      refine ord_read rfl (fun _ hS => run_indexAddr (sz := 1) rfl rfl rfl rfl (by omega) (by omega)) rfl ?_
      first
        | refine ord_read rfl (fun _ hS => run_load1_own hS rfl rfl (by first | exact .head | exact .tail .head | exact .tail (.tail .head) | exact .tail (.tail (.tail .head)) | exact .tail (.tail (.tail (.tail .head))) | exact .tail (.tail (.tail (.tail (.tail .head))))) (by repeat constructor)) rfl ?_
        | refine ord_read rfl (fun _ hS => run_load1 rfl rfl (by first | assumption | exact hcb1 _ hS | exact hcb3 _ hS | exact hct _ hS | exact hcm _ hS | exact hS.cell0 (by assumption) | exact lv_next hS | exact lv_list hS)) rfl ?_
      refine ord_read rfl (fun _ hS => run_indexAddr (sz := 1) rfl rfl rfl rfl (by omega) (by omega)) rfl ?_
      first
        | refine ord_read rfl (fun _ hS => run_load1_own hS rfl rfl (by first | exact .head | exact .tail .head | exact .tail (.tail .head) | exact .tail (.tail (.tail .head)) | exact .tail (.tail (.tail (.tail .head))) | exact .tail (.tail (.tail (.tail (.tail .head))))) (by repeat constructor)) rfl ?_
        | refine ord_read rfl (fun _ hS => run_load1 rfl rfl (by first | assumption | exact hcb1 _ hS | exact hcb3 _ hS | exact hct _ hS | exact hcm _ hS | exact hS.cell0 (by assumption) | exact lv_next hS | exact lv_list hS)) rfl ?_
      refine ord_end ?_
      refine lst_done ?_
      refine goes_true rfl ?_
      refine goes_region ?_
      refine lst_run (run_move (by conv => lhs; whnf)) rfl ?_
      refine lst_run (run_add rfl rfl (by omega) (by omega)) rfl ?_
      refine lst_run (run_assign (by conv => lhs; whnf)) rfl ?_
      refine lst_done ?_
      refine goes_inBlock ?_
      refine goes_region ?_
      refine lst_run (run_move (by conv => lhs; whnf)) rfl ?_
      refine lst_run (run_add rfl rfl (by omega) (by omega)) rfl ?_
      refine lst_run (run_assign (by conv => lhs; whnf)) rfl ?_
      refine lst_done ?_
      refine ih (Q) _ _ _ _ ?_ ?_ (by conv => lhs; whnf) (by conv => lhs; whnf) (by kernel_rfl)
      · simp
      · exact ⟨D ++ [x], by rw [hD]; simp, .inl (by simp; omega), by simp, by simp [hvm], hS⟩
    | false =>
      refine goes_seq ?_
      refine goes_seq ?_
      refine goes_region ?_
      refine lst_run (run_move (by conv => lhs; whnf)) rfl ?_
      refine lst_run (run_move (by conv => lhs; whnf)) rfl ?_
      first
        | refine lst_run (run_lss_yes rfl rfl (by omega)) rfl ?_
        | refine lst_run (run_lss_no rfl rfl (by omega)) rfl ?_
        | refine lst_run (rfl) rfl ?_
      refine lst_run (run_move (by conv => lhs; whnf)) rfl ?_
      refine lst_guard rfl rfl ?_
      refine lst_run (run_move (by conv => lhs; whnf)) rfl ?_
      refine lst_guard rfl rfl ?_
      refine lst_run (run_fieldAddr (off := 1) rfl rfl) rfl ?_
      refine lst_guard rfl rfl ?_
      first
        | refine lst_run (run_load1_own hS rfl rfl (by first | exact .head | exact .tail .head | exact .tail (.tail .head) | exact .tail (.tail (.tail .head)) | exact .tail (.tail (.tail (.tail .head))) | exact .tail (.tail (.tail (.tail (.tail .head))))) (by repeat constructor)) rfl ?_
        | refine lst_run (run_load1 rfl rfl (by first | assumption | exact hcb1 _ hS | exact hcb3 _ hS | exact hct _ hS | exact hcm _ hS | exact hS.cell0 (by assumption) | exact lv_next hS | exact lv_list hS)) rfl ?_
      refine lst_guard rfl rfl ?_
      refine lst_run (run_len_slice rfl rfl rfl) rfl ?_
      refine lst_guard rfl rfl ?_
      first
        | refine lst_run (run_lss_yes rfl rfl (by omega)) rfl ?_
        | refine lst_run (run_lss_no rfl rfl (by omega)) rfl ?_
        | refine lst_run (rfl) rfl ?_
      first
        | refine lst_run (run_pick_t rfl (by conv => lhs; whnf)) rfl ?_
        | refine lst_run (run_pick_f rfl (by conv => lhs; whnf)) rfl ?_
      refine lst_done ?_
      refine goes_true rfl ?_
      refine goes_skip ?_
      refine goes_seq ?_
      refine goes_block ?_
      refine goes_seq ?_
      refine goes_draw (St _ _ _ _) 8 ((0, true) :: (1, true) :: (2, true) :: (3, true) :: (4, true) :: (5, true) :: (6, true) :: (7, true) :: []) (by kernel_rfl) (by kernel_rfl) (hS.drew) ?_
      replace hS := hS.drew
      first
        | refine ord_read rfl (fun _ hS => run_load1_own hS rfl rfl (by first | exact .head | exact .tail .head | exact .tail (.tail .head) | exact .tail (.tail (.tail .head)) | exact .tail (.tail (.tail (.tail .head))) | exact .tail (.tail (.tail (.tail (.tail .head))))) (by repeat constructor)) rfl ?_
        | refine ord_read rfl (fun _ hS => run_load1 rfl rfl (by first | assumption | exact hcb1 _ hS | exact hcb3 _ hS | exact hct _ hS | exact hcm _ hS | exact hS.cell0 (by assumption) | exact lv_next hS | exact lv_list hS)) rfl ?_
      refine ord_read rfl (fun _ hS => run_fieldAddr (off := 1) rfl rfl) rfl ?_
      first
        | refine ord_read rfl (fun _ hS => run_load1_own hS rfl rfl (by first | exact .head | exact .tail .head | exact .tail (.tail .head) | exact .tail (.tail (.tail .head)) | exact .tail (.tail (.tail (.tail .head))) | exact .tail (.tail (.tail (.tail (.tail .head))))) (by repeat constructor)) rfl ?_
        | refine ord_read rfl (fun _ hS => run_load1 rfl rfl (by first | assumption | exact hcb1 _ hS | exact hcb3 _ hS | exact hct _ hS | exact hcm _ hS | exact hS.cell0 (by assumption) | exact lv_next hS | exact lv_list hS)) rfl ?_
      refine ord_read rfl (fun _ hS => run_move (by conv => lhs; whnf)) rfl ?_
      refine ord_read rfl (fun _ hS => run_indexAddr (sz := 1) rfl rfl rfl rfl (by omega) (by omega)) rfl ?_
      first
        | refine ord_read rfl (fun _ hS => run_load1_own hS rfl rfl (by first | exact .head | exact .tail .head | exact .tail (.tail .head) | exact .tail (.tail (.tail .head)) | exact .tail (.tail (.tail (.tail .head))) | exact .tail (.tail (.tail (.tail (.tail .head))))) (by repeat constructor)) rfl ?_
        | refine ord_read rfl (fun _ hS => run_load1 rfl rfl (by first | assumption | exact hcb1 _ hS | exact hcb3 _ hS | exact hct _ hS | exact hcm _ hS | exact hS.cell0 (by assumption) | exact lv_next hS | exact lv_list hS)) rfl ?_
      refine ord_read rfl (fun _ hS => run_indexAddr (sz := 1) rfl rfl rfl rfl (by omega) (by omega)) rfl ?_
      first
        | refine ord_read rfl (fun _ hS => run_load1_own hS rfl rfl (by first | exact .head | exact .tail .head | exact .tail (.tail .head) | exact .tail (.tail (.tail .head)) | exact .tail (.tail (.tail (.tail .head))) | exact .tail (.tail (.tail (.tail (.tail .head))))) (by repeat constructor)) rfl ?_
        | refine ord_read rfl (fun _ hS => run_load1 rfl rfl (by first | assumption | exact hcb1 _ hS | exact hcb3 _ hS | exact hct _ hS | exact hcm _ hS | exact hS.cell0 (by assumption) | exact lv_next hS | exact lv_list hS)) rfl ?_
      refine ord_end ?_
      refine lst_done ?_
      refine goes_false rfl ?_
      refine goes_skip ?_
      refine goes_inBlock ?_
      refine goes_region ?_
      refine lst_run (run_move (by conv => lhs; whnf)) rfl ?_
      refine lst_run (run_add rfl rfl (by omega) (by omega)) rfl ?_
      refine lst_run (run_assign (by conv => lhs; whnf)) rfl ?_
      refine lst_done ?_
      refine ih (Q) _ _ _ _ ?_ ?_ (by conv => lhs; whnf) (by conv => lhs; whnf) (by kernel_rfl)
      · simp
      · exact ⟨D ++ [x], by rw [hD]; simp, .inl (by simp; omega), by simp, by simp [hvm], hS⟩
section
variable {M : List Nat} {w0 : World} {H : List (Nat × Obj)} {F : List (World → Prop)}
theorem marksOf_good (h : HH) (R : List Int) (A B RA : Option Addr) (c d rc : Nat) (w : World) (hg : goodH h = true) (hH : Und F (HFl h A c B d)) (hR : Und F (Flat 1 (intsV R) RA R.length rc)) (hRl : R.length ≤ 9223372036854775807) (hS : St M w0 H F w) :
    Calls Try.prog 26 #[hv h A c B d, .slice RA R.length rc] w fun e w' => ∃ (A' : Option Addr) (c' : Nat) (F' : List (World → Prop)), e = .returned (.tuple #[.slice A' (marksM h.cs R).length c', .int .i64 0]) ∧ (∀ φ ∈ F, φ ∈ F') ∧ Und F' (Flat 1 (boolsV (marksM h.cs R)) A' (marksM h.cs R).length c') ∧ St M w0 H F' w' := by
  have := marksOf_any h R A B RA c d rc w hH hR hRl hS
  rw [show marksH h R = (marksM h.cs R, 0) by unfold marksH; rw [if_neg (by rw [hg]; decide)]] at this
  exact this
theorem marksOf_bad (h : HH) (R : List Int) (A B RA : Option Addr) (c d rc : Nat) (w : World) (hg : goodH h = false) (hH : Und F (HFl h A c B d)) (hR : Und F (Flat 1 (intsV R) RA R.length rc)) (hRl : R.length ≤ 9223372036854775807) (hS : St M w0 H F w) :
    Calls Try.prog 26 #[hv h A c B d, .slice RA R.length rc] w fun e w' => ∃ (A' : Option Addr) (c' : Nat) (F' : List (World → Prop)), e = .returned (.tuple #[.slice A' 0 c', .int .i64 1]) ∧ (∀ φ ∈ F, φ ∈ F') ∧ St M w0 H F' w' := by
  have := marksOf_any h R A B RA c d rc w hH hR hRl hS
  rw [show marksH h R = ([], 1) by unfold marksH; rw [if_pos hg]] at this
  exact this.mono fun e w' ⟨A', c', F', h1, h2, _, h4⟩ => ⟨A', c', F', h1, h2, h4⟩
theorem collectAll_any (h : HH) (R T K : List Int) (A B RA TA KA : Option Addr) (c d rc tc kc : Nat) (w : World) (hH : Und F (HFl h A c B d)) (hR : Und F (Flat 1 (intsV R) RA R.length rc)) (hT : Und F (Flat 1 (intsV T) TA T.length tc)) (hK : Und F (Flat 1 (intsV K) KA K.length kc)) (hRl : R.length ≤ 1048576) (hTl : T.length ≤ 1048576) (hKl : K.length ≤ 1048576) (hS : St M w0 H F w) :
    Calls Try.prog 28 #[hv h A c B d, .slice RA R.length rc, .slice TA T.length tc, .slice KA K.length kc] w (CRes M w0 H F (collectH h R T K)) := by
  refine goes_enter4 Try.func28 rfl Try.ntmps28 rfl ?_
  refine goes_seq ?_
  refine goes_region ?_
  refine lst_box hS rfl rfl ?_
  clear hS
  intro b1 wx1 hS
  refine lst_alloc (cs := [_, _]) hS rfl rfl rfl ?_
  clear hS
  intro b2 wx2 hS
  refine lst_run (run_assign (by conv => lhs; whnf)) rfl ?_
  refine lst_run (run_assign (by conv => lhs; whnf)) rfl ?_
  refine lst_run (run_assign (by conv => lhs; whnf)) rfl ?_
  refine lst_run (run_assign (by conv => lhs; whnf)) rfl ?_
  refine lst_done ?_
  refine goes_seq ?_
  refine goes_region ?_
  first
    | refine lst_run (run_loadN_own (k := 2) hS rfl rfl rfl (by first | exact .head | exact .tail .head | exact .tail (.tail .head) | exact .tail (.tail (.tail .head)) | exact .tail (.tail (.tail (.tail .head))) | exact .tail (.tail (.tail (.tail (.tail .head))))) (by repeat constructor)) rfl ?_
    | refine lst_run (run_load2 rfl rfl rfl (by first | assumption | exact hcb1 _ hS | exact hcb3 _ hS | exact hct _ hS | exact hcm _ hS | exact hS.cell0 (by assumption)) (by first | assumption | exact hcb1 _ hS | exact hcb3 _ hS | exact hct _ hS | exact hcm _ hS | exact hS.cell0 (by assumption))) rfl ?_
  refine lst_run (run_move (by conv => lhs; whnf)) rfl ?_
  cases hg : goodH h with
  | false =>
    have e0 : collectH h R T K = (h, [], [], [], 1) := by unfold collectH; rw [if_pos hg]
    rw [e0]
    refine lst_enter (run_call (by kernel_rfl) (args_2 (by conv => lhs; whnf) (by conv => lhs; whnf))) rfl ?_
    refine Calls.mono (marksOf_bad h R A B RA c d rc _ hg hH hR (by omega) hS) ?_
    rintro _ w2 ⟨A2, c2, F2, rfl, hF2, hS'⟩
    refine ⟨_, rfl, ?_⟩
    replace hS := hS'
    clear hS'
    refine lst_run (run_move (by conv => lhs; whnf)) rfl ?_
    refine lst_run (run_extract rfl rfl) rfl ?_
    refine lst_run (run_extract rfl rfl) rfl ?_
    refine lst_alloc (cs := [_]) hS rfl rfl rfl ?_
    clear hS
    intro b3 wx3 hS
    refine lst_store1 hS rfl (by conv => lhs; whnf) rfl rfl (by first | exact .head | exact .tail .head | exact .tail (.tail .head) | exact .tail (.tail (.tail .head)) | exact .tail (.tail (.tail (.tail .head))) | exact .tail (.tail (.tail (.tail (.tail .head))))) (by repeat constructor) (by first | exact .head | exact .tail .head | exact .tail (.tail .head) | exact .tail (.tail (.tail .head)) | exact .tail (.tail (.tail (.tail .head))) | exact .tail (.tail (.tail (.tail (.tail .head))))) ?_
    clear hS
    intro wx4 hS
    refine lst_run (run_assign (by conv => lhs; whnf)) rfl ?_
    refine lst_done ?_
    refine goes_seq ?_
    refine goes_seq ?_
    refine goes_region ?_
    refine lst_run (run_move (by conv => lhs; whnf)) rfl ?_
    first
      | refine lst_run (run_neq_one_int rfl rfl) rfl ?_
      | refine lst_run (run_neq_no rfl rfl (by first | assumption | omega)) rfl ?_
      | refine lst_run (run_neq_yes rfl rfl (by omega)) rfl ?_
      | refine lst_run (rfl) rfl ?_
    refine lst_done ?_
    refine goes_true rfl ?_
    refine goes_seq ?_
    refine goes_region ?_
    first
      | refine lst_run (run_loadN_own (k := 2) hS rfl rfl rfl (by first | exact .head | exact .tail .head | exact .tail (.tail .head) | exact .tail (.tail (.tail .head)) | exact .tail (.tail (.tail (.tail .head))) | exact .tail (.tail (.tail (.tail (.tail .head))))) (by repeat constructor)) rfl ?_
      | refine lst_run (run_load2 rfl rfl rfl (by first | assumption | exact hcb1 _ hS | exact hcb3 _ hS | exact hct _ hS | exact hcm _ hS | exact hS.cell0 (by assumption)) (by first | assumption | exact hcb1 _ hS | exact hcb3 _ hS | exact hct _ hS | exact hcm _ hS | exact hS.cell0 (by assumption))) rfl ?_
    refine lst_run (run_move (by conv => lhs; whnf)) rfl ?_
    refine lst_storeN hS rfl (by conv => lhs; whnf) rfl rfl (by first | exact .head | exact .tail .head | exact .tail (.tail .head) | exact .tail (.tail (.tail .head)) | exact .tail (.tail (.tail (.tail .head))) | exact .tail (.tail (.tail (.tail (.tail .head))))) (by repeat constructor) (by first | exact .head | exact .tail .head | exact .tail (.tail .head) | exact .tail (.tail (.tail .head)) | exact .tail (.tail (.tail (.tail .head))) | exact .tail (.tail (.tail (.tail (.tail .head))))) ?_
    clear hS
    intro wx5 hS
    refine lst_run (run_assign (by conv => lhs; whnf)) rfl ?_
    refine lst_run (run_assign (by conv => lhs; whnf)) rfl ?_
    refine lst_run (run_assign (by conv => lhs; whnf)) rfl ?_
    refine lst_run (run_assign (by conv => lhs; whnf)) rfl ?_
    refine lst_done ?_
    refine goes_retC5 (sz := 2) hS Try.func28 rfl rfl (by conv => lhs; whnf) (by conv => lhs; whnf) (by conv => lhs; whnf) (by conv => lhs; whnf) rfl rfl (by first | exact .head | exact .tail .head | exact .tail (.tail .head) | exact .tail (.tail (.tail .head)) | exact .tail (.tail (.tail (.tail .head))) | exact .tail (.tail (.tail (.tail (.tail .head))))) (by repeat constructor) ?_
    exact ⟨A, c, B, d, none, none, none, 0, 0, 0, F2, rfl, hF2, hH.mono hF2, fun w _ => Flat.nil_ _ _ _, fun w _ => Flat.nil_ _ _ _, fun w _ => Flat.nil_ _ _ _, hS.drop.drop.drop⟩
  | true =>
  obtain ⟨hl1, hl2⟩ := good_len hg
  have hgl : goodL h.cs.length h.cs = true := by
    unfold goodH goodCs at hg
    simp only [Bool.and_eq_true] at hg
    exact hg.1.2
  have hml : (marksM h.cs R).length = h.cs.length := (marksM_of h.cs R).1
  have htr : ∀ a ∈ h.tr, 0 ≤ a ∧ a < h.cs.length := fun a ha => by
    obtain ⟨x, hx, _⟩ := tr_good hg ha
    have := hatS.1 hx
    exact ⟨this.1, this.2.1⟩
  have e0 : collectH h R T K = if R.all (isAddr h.cs) = false then (h, [], [], [], 4)
    else (⟨collL (marksM h.cs R) h.cs, collT (marksM h.cs R) h.tr⟩, R.map (rkI (marksM h.cs R)), T.map (rkI (marksM h.cs R)), K.map (rkI (h.tr.map (markAt (marksM h.cs R)))), 0) := by unfold collectH; rw [if_neg (by rw [hg]; decide)]
  rw [e0]
  clear e0
  refine lst_enter (run_call (by kernel_rfl) (args_2 (by conv => lhs; whnf) (by conv => lhs; whnf))) rfl ?_
  refine Calls.mono (marksOf_good h R A B RA c d rc _ hg hH hR (by omega) hS) ?_
  rintro _ w2 ⟨A2, c2, F2, rfl, hF2, hM2, hS'⟩
  refine ⟨_, rfl, ?_⟩
  replace hS := hS'
  clear hS'
  generalize marksM h.cs R = Mk at *
  have hH2 := hH.mono hF2
  have hR2 := hR.mono hF2
  have hT2 := hT.mono hF2
  have hK2 := hK.mono hF2
  refine lst_run (run_move (by conv => lhs; whnf)) rfl ?_
  refine lst_run (run_extract rfl rfl) rfl ?_
  refine lst_run (run_extract rfl rfl) rfl ?_
  refine lst_alloc (cs := [_]) hS rfl rfl rfl ?_
  clear hS
  intro b3 wx3 hS
  refine lst_store1 hS rfl (by conv => lhs; whnf) rfl rfl (by first | exact .head | exact .tail .head | exact .tail (.tail .head) | exact .tail (.tail (.tail .head)) | exact .tail (.tail (.tail (.tail .head))) | exact .tail (.tail (.tail (.tail (.tail .head))))) (by repeat constructor) (by first | exact .head | exact .tail .head | exact .tail (.tail .head) | exact .tail (.tail (.tail .head)) | exact .tail (.tail (.tail (.tail .head))) | exact .tail (.tail (.tail (.tail (.tail .head))))) ?_
  clear hS
  intro wx4 hS
  refine lst_run (run_assign (by conv => lhs; whnf)) rfl ?_
  refine lst_done ?_
  refine goes_seq ?_
  refine goes_seq ?_
  refine goes_region ?_
  refine lst_run (run_move (by conv => lhs; whnf)) rfl ?_
  first
    | refine lst_run (run_neq_one_int rfl rfl) rfl ?_
    | refine lst_run (run_neq_no rfl rfl (by first | assumption | omega)) rfl ?_
    | refine lst_run (run_neq_yes rfl rfl (by omega)) rfl ?_
    | refine lst_run (rfl) rfl ?_
  refine lst_done ?_
  refine goes_false rfl ?_
  refine goes_skip ?_
  refine goes_seq ?_
  refine goes_seq ?_
  refine goes_region ?_
  refine lst_run (run_move (by conv => lhs; whnf)) rfl ?_
  refine lst_run (run_len_slice rfl rfl rfl) rfl ?_
  refine lst_run (run_move (by conv => lhs; whnf)) rfl ?_
  refine lst_done ?_
  refine goes_block ?_
  refine goes_loop1 45 (46 :: 47 :: 48 :: 16 :: 49 :: 50 :: 51 :: 52 :: 53 :: 54 :: 55 :: 56 :: 57 :: 58 :: 9 :: 10 :: 11 :: 12 :: 59 :: []) (fun (Q : List Int) v w' => ∃ (D : List Int), R = D ++ Q ∧ v = .int .i64 (D.length : Nat) ∧ (∀ r ∈ D, isAddr h.cs r = true) ∧ St M w0 ((b3, .cells [.slice A2 Mk.length c2].toArray 43) :: (b2, hob none 0 0 none 0 0) :: (b1, hob A h.cs.length c B h.tr.length d) :: H) F2 w') (fun Q => Q.length) (R) ?_ (by conv => lhs; whnf) ?_
  · exact ⟨[], rfl, rfl, fun r hr => by simp at hr, hS⟩
  clear hS
  rintro Q _ w4 jv ⟨D, hD, rfl, hrt, hS⟩ ih
  have hlen : R.length = D.length + Q.length := by rw [hD]; simp
  cases Q with
  | cons x Q =>
    simp only [List.length_cons] at hlen
    have hxi : R[D.length]? = some x := by rw [hD]; simp
    obtain ⟨bt, ot, rfl⟩ := (hS.und hR2).some_ (by omega)
    have hct : ∀ {H'} w', St M w0 H' F2 w' → w'.cell? ⟨bt, ot + ((D.length : Nat) : Int).toNat * 1, none⟩ = some (.int .i64 x) := fun w' hS => by
      have := (hS.und hR2).int hxi
      rw [show ((D.length : Nat) : Int).toNat = D.length by omega]; exact this
    have hbad : isAddr h.cs x = false → (if R.all (isAddr h.cs) = false then (h, ([] : List Int), ([] : List Int), ([] : List Int), (4 : Int)) else (⟨collL Mk h.cs, collT Mk h.tr⟩, R.map (rkI Mk), T.map (rkI Mk), K.map (rkI (h.tr.map (markAt Mk))), 0)) = (h, [], [], [], 4) := fun hx => by
      rw [if_pos (by rw [List.all_eq_false]; exact ⟨x, by rw [hD]; simp, by rw [hx]; decide⟩)]
    by_cases h0 : x < 0
    · rw [hbad (by unfold isAddr; simp; omega)]
      refine goes_seq ?_
      refine goes_region ?_
      first
        | refine lst_run (run_lss_yes rfl rfl (by omega)) rfl ?_
        | refine lst_run (run_lss_no rfl rfl (by omega)) rfl ?_
        | refine lst_run (rfl) rfl ?_
      refine lst_done ?_
      refine goes_seq ?_
      refine goes_true rfl ?_
      refine goes_skip ?_
      refine goes_seq ?_
      refine goes_block ?_
      refine goes_seq ?_
      refine goes_region ?_
      refine lst_run (run_indexAddr (sz := 1) rfl rfl rfl rfl (by omega) (by omega)) rfl ?_
      first
        | refine lst_run (run_load1_own hS rfl rfl (by first | exact .head | exact .tail .head | exact .tail (.tail .head) | exact .tail (.tail (.tail .head)) | exact .tail (.tail (.tail (.tail .head))) | exact .tail (.tail (.tail (.tail (.tail .head))))) (by repeat constructor)) rfl ?_
        | refine lst_run (run_load1 rfl rfl (by first | assumption | exact hct _ hS | exact hS.cell0 (by assumption) | exact lv_next hS | exact lv_list hS)) rfl ?_
      refine lst_run (run_assign (by conv => lhs; whnf)) rfl ?_
      refine lst_done ?_
      refine goes_seq ?_
      refine goes_region ?_
      refine lst_run (run_move (by conv => lhs; whnf)) rfl ?_
      first
        | refine lst_run (run_lss_yes rfl rfl (by omega)) rfl ?_
        | refine lst_run (run_lss_no rfl rfl (by omega)) rfl ?_
        | refine lst_run (rfl) rfl ?_
      refine lst_run (run_move (by conv => lhs; whnf)) rfl ?_
      refine lst_pass rfl rfl rfl ?_
      refine lst_pass rfl rfl rfl ?_
      refine lst_pass rfl rfl rfl ?_
      refine lst_pass rfl rfl rfl ?_
      refine lst_pass rfl rfl rfl ?_
      first
        | refine lst_run (run_pick_t rfl (by conv => lhs; whnf)) rfl ?_
        | refine lst_run (run_pick_f rfl (by conv => lhs; whnf)) rfl ?_
      refine lst_done ?_
      refine goes_true rfl ?_
      refine goes_seq ?_
      refine goes_region ?_
      first
        | refine lst_run (run_loadN_own (k := 2) hS rfl rfl rfl (by first | exact .head | exact .tail .head | exact .tail (.tail .head) | exact .tail (.tail (.tail .head)) | exact .tail (.tail (.tail (.tail .head))) | exact .tail (.tail (.tail (.tail (.tail .head))))) (by repeat constructor)) rfl ?_
        | refine lst_run (run_load2 rfl rfl rfl (by first | assumption | exact hct _ hS | exact hS.cell0 (by assumption)) (by first | assumption | exact hct _ hS | exact hS.cell0 (by assumption))) rfl ?_
      refine lst_storeN hS rfl (by conv => lhs; whnf) rfl rfl (by first | exact .head | exact .tail .head | exact .tail (.tail .head) | exact .tail (.tail (.tail .head)) | exact .tail (.tail (.tail (.tail .head))) | exact .tail (.tail (.tail (.tail (.tail .head))))) (by repeat constructor) (by first | exact .head | exact .tail .head | exact .tail (.tail .head) | exact .tail (.tail (.tail .head)) | exact .tail (.tail (.tail (.tail .head))) | exact .tail (.tail (.tail (.tail (.tail .head))))) ?_
      clear hS
      intro wx5 hS
      refine lst_run (run_assign (by conv => lhs; whnf)) rfl ?_
      refine lst_run (run_assign (by conv => lhs; whnf)) rfl ?_
      refine lst_run (run_assign (by conv => lhs; whnf)) rfl ?_
      refine lst_run (run_assign (by conv => lhs; whnf)) rfl ?_
      refine lst_done ?_
      refine goes_retC5 (sz := 2) hS Try.func28 rfl rfl (by conv => lhs; whnf) (by conv => lhs; whnf) (by conv => lhs; whnf) (by conv => lhs; whnf) rfl rfl (by first | exact .head | exact .tail .head | exact .tail (.tail .head) | exact .tail (.tail (.tail .head)) | exact .tail (.tail (.tail (.tail .head))) | exact .tail (.tail (.tail (.tail (.tail .head))))) (by repeat constructor) ?_
      exact ⟨A, c, B, d, none, none, none, 0, 0, 0, F2, rfl, hF2, hH2, fun w _ => Flat.nil_ _ _ _, fun w _ => Flat.nil_ _ _ _, fun w _ => Flat.nil_ _ _ _, hS.drop.drop.drop⟩
    by_cases h1 : (h.cs.length : Int) ≤ x
    · rw [hbad (by unfold isAddr; simp; omega)]
      refine goes_seq ?_
      refine goes_region ?_
      first
        | refine lst_run (run_lss_yes rfl rfl (by omega)) rfl ?_
        | refine lst_run (run_lss_no rfl rfl (by omega)) rfl ?_
        | refine lst_run (rfl) rfl ?_
      refine lst_done ?_
      refine goes_seq ?_
      refine goes_true rfl ?_
      refine goes_skip ?_
      refine goes_seq ?_
      refine goes_block ?_
      refine goes_seq ?_
      refine goes_region ?_
      refine lst_run (run_indexAddr (sz := 1) rfl rfl rfl rfl (by omega) (by omega)) rfl ?_
      first
        | refine lst_run (run_load1_own hS rfl rfl (by first | exact .head | exact .tail .head | exact .tail (.tail .head) | exact .tail (.tail (.tail .head)) | exact .tail (.tail (.tail (.tail .head))) | exact .tail (.tail (.tail (.tail (.tail .head))))) (by repeat constructor)) rfl ?_
        | refine lst_run (run_load1 rfl rfl (by first | assumption | exact hct _ hS | exact hS.cell0 (by assumption) | exact lv_next hS | exact lv_list hS)) rfl ?_
      refine lst_run (run_assign (by conv => lhs; whnf)) rfl ?_
      refine lst_done ?_
      refine goes_seq ?_
      refine goes_region ?_
      refine lst_run (run_move (by conv => lhs; whnf)) rfl ?_
      first
        | refine lst_run (run_lss_yes rfl rfl (by omega)) rfl ?_
        | refine lst_run (run_lss_no rfl rfl (by omega)) rfl ?_
        | refine lst_run (rfl) rfl ?_
      refine lst_run (run_move (by conv => lhs; whnf)) rfl ?_
      refine lst_guard rfl rfl ?_
      refine lst_run (run_move (by conv => lhs; whnf)) rfl ?_
      refine lst_guard rfl rfl ?_
      refine lst_run (run_fieldAddr (off := 0) rfl rfl) rfl ?_
      refine lst_guard rfl rfl ?_
      first
        | refine lst_run (run_load1_own hS rfl rfl (by first | exact .head | exact .tail .head | exact .tail (.tail .head) | exact .tail (.tail (.tail .head)) | exact .tail (.tail (.tail (.tail .head))) | exact .tail (.tail (.tail (.tail (.tail .head))))) (by repeat constructor)) rfl ?_
        | refine lst_run (run_load1 rfl rfl (by first | assumption | exact hct _ hS | exact hS.cell0 (by assumption) | exact lv_next hS | exact lv_list hS)) rfl ?_
      refine lst_guard rfl rfl ?_
      refine lst_run (run_len_slice rfl rfl rfl) rfl ?_
      refine lst_guard rfl rfl ?_
      first
        | refine lst_run (run_geq_yes rfl rfl (by omega)) rfl ?_
        | refine lst_run (run_geq_no rfl rfl (by omega)) rfl ?_
        | refine lst_run (rfl) rfl ?_
      first
        | refine lst_run (run_pick_t rfl (by conv => lhs; whnf)) rfl ?_
        | refine lst_run (run_pick_f rfl (by conv => lhs; whnf)) rfl ?_
      refine lst_done ?_
      refine goes_true rfl ?_
      refine goes_seq ?_
      refine goes_region ?_
      first
        | refine lst_run (run_loadN_own (k := 2) hS rfl rfl rfl (by first | exact .head | exact .tail .head | exact .tail (.tail .head) | exact .tail (.tail (.tail .head)) | exact .tail (.tail (.tail (.tail .head))) | exact .tail (.tail (.tail (.tail (.tail .head))))) (by repeat constructor)) rfl ?_
        | refine lst_run (run_load2 rfl rfl rfl (by first | assumption | exact hct _ hS | exact hS.cell0 (by assumption)) (by first | assumption | exact hct _ hS | exact hS.cell0 (by assumption))) rfl ?_
      refine lst_storeN hS rfl (by conv => lhs; whnf) rfl rfl (by first | exact .head | exact .tail .head | exact .tail (.tail .head) | exact .tail (.tail (.tail .head)) | exact .tail (.tail (.tail (.tail .head))) | exact .tail (.tail (.tail (.tail (.tail .head))))) (by repeat constructor) (by first | exact .head | exact .tail .head | exact .tail (.tail .head) | exact .tail (.tail (.tail .head)) | exact .tail (.tail (.tail (.tail .head))) | exact .tail (.tail (.tail (.tail (.tail .head))))) ?_
      clear hS
      intro wx5 hS
      refine lst_run (run_assign (by conv => lhs; whnf)) rfl ?_
      refine lst_run (run_assign (by conv => lhs; whnf)) rfl ?_
      refine lst_run (run_assign (by conv => lhs; whnf)) rfl ?_
      refine lst_run (run_assign (by conv => lhs; whnf)) rfl ?_
      refine lst_done ?_
      refine goes_retC5 (sz := 2) hS Try.func28 rfl rfl (by conv => lhs; whnf) (by conv => lhs; whnf) (by conv => lhs; whnf) (by conv => lhs; whnf) rfl rfl (by first | exact .head | exact .tail .head | exact .tail (.tail .head) | exact .tail (.tail (.tail .head)) | exact .tail (.tail (.tail (.tail .head))) | exact .tail (.tail (.tail (.tail (.tail .head))))) (by repeat constructor) ?_
      exact ⟨A, c, B, d, none, none, none, 0, 0, 0, F2, rfl, hF2, hH2, fun w _ => Flat.nil_ _ _ _, fun w _ => Flat.nil_ _ _ _, fun w _ => Flat.nil_ _ _ _, hS.drop.drop.drop⟩
    refine goes_seq ?_
    refine goes_region ?_
    first
      | refine lst_run (run_lss_yes rfl rfl (by omega)) rfl ?_
      | refine lst_run (run_lss_no rfl rfl (by omega)) rfl ?_
      | refine lst_run (rfl) rfl ?_
    refine lst_done ?_
    refine goes_seq ?_
    refine goes_true rfl ?_
    refine goes_skip ?_
    refine goes_seq ?_
    refine goes_block ?_
    refine goes_seq ?_
    refine goes_region ?_
    refine lst_run (run_indexAddr (sz := 1) rfl rfl rfl rfl (by omega) (by omega)) rfl ?_
    first
      | refine lst_run (run_load1_own hS rfl rfl (by first | exact .head | exact .tail .head | exact .tail (.tail .head) | exact .tail (.tail (.tail .head)) | exact .tail (.tail (.tail (.tail .head))) | exact .tail (.tail (.tail (.tail (.tail .head))))) (by repeat constructor)) rfl ?_
      | refine lst_run (run_load1 rfl rfl (by first | assumption | exact hct _ hS | exact hS.cell0 (by assumption) | exact lv_next hS | exact lv_list hS)) rfl ?_
    refine lst_run (run_assign (by conv => lhs; whnf)) rfl ?_
    refine lst_done ?_
    refine goes_seq ?_
    refine goes_region ?_
    refine lst_run (run_move (by conv => lhs; whnf)) rfl ?_
    first
      | refine lst_run (run_lss_yes rfl rfl (by omega)) rfl ?_
      | refine lst_run (run_lss_no rfl rfl (by omega)) rfl ?_
      | refine lst_run (rfl) rfl ?_
    refine lst_run (run_move (by conv => lhs; whnf)) rfl ?_
    refine lst_guard rfl rfl ?_
    refine lst_run (run_move (by conv => lhs; whnf)) rfl ?_
    refine lst_guard rfl rfl ?_
    refine lst_run (run_fieldAddr (off := 0) rfl rfl) rfl ?_
    refine lst_guard rfl rfl ?_
    first
      | refine lst_run (run_load1_own hS rfl rfl (by first | exact .head | exact .tail .head | exact .tail (.tail .head) | exact .tail (.tail (.tail .head)) | exact .tail (.tail (.tail (.tail .head))) | exact .tail (.tail (.tail (.tail (.tail .head))))) (by repeat constructor)) rfl ?_
      | refine lst_run (run_load1 rfl rfl (by first | assumption | exact hct _ hS | exact hS.cell0 (by assumption) | exact lv_next hS | exact lv_list hS)) rfl ?_
    refine lst_guard rfl rfl ?_
    refine lst_run (run_len_slice rfl rfl rfl) rfl ?_
    refine lst_guard rfl rfl ?_
    first
      | refine lst_run (run_geq_yes rfl rfl (by omega)) rfl ?_
      | refine lst_run (run_geq_no rfl rfl (by omega)) rfl ?_
      | refine lst_run (rfl) rfl ?_
    first
      | refine lst_run (run_pick_t rfl (by conv => lhs; whnf)) rfl ?_
      | refine lst_run (run_pick_f rfl (by conv => lhs; whnf)) rfl ?_
    refine lst_done ?_
    refine goes_false rfl ?_
    refine goes_skip ?_
    refine goes_inBlock ?_
    refine goes_region ?_
    refine lst_run (run_add rfl rfl (by omega) (by omega)) rfl ?_
    refine lst_run (run_move (by conv => lhs; whnf)) rfl ?_
    refine lst_done ?_
    refine ih (Q) _ _ _ ?_ ?_ (by conv => lhs; whnf) (by kernel_rfl)
    · simp
    · refine ⟨D ++ [x], by rw [hD]; simp, by simp, fun r hr => ?_, hS⟩
      rcases List.mem_append.1 hr with hr | hr
      · exact hrt r hr
      · rw [List.mem_singleton.1 hr]; exact isAddr_iff'.2 (by omega)
  | nil =>
    simp only [List.length_nil] at hlen
    have hRD : R = D := by simpa using hD
    rw [← hRD] at hrt
    rw [if_neg (by rw [show R.all (isAddr h.cs) = true from List.all_eq_true.2 hrt]; decide)]
    clear hD
    have hTr : Und F2 (Flat 1 (intsV h.tr) B h.tr.length d) := hH2.imp fun _ h => h.2
    have hCs : Und F2 (Flat 3 (hcsL h.cs) A h.cs.length c) := hH2.imp fun _ h => h.1
    rw [← hml] at htr
    -- what the two closures ask for
    have hah : ∀ {L' : List (Nat × Obj)} {F' : List (World → Prop)} {w' : World} (n : Int), (∀ φ ∈ F2, φ ∈ F') → St M w0 L' F' w' → (b3, Obj.cells [.slice A2 Mk.length c2].toArray 43) ∈ L' → Calls Try.prog 57 #[.int .i64 n, ptrM b3] w' fun e w'' => e = .returned (.int .i64 (rkI Mk n)) ∧ Below w'.heap.size w' w'' := fun n hF hS hm => ahead_any Mk n b3 A2 c2 _ (hS.own _ hm) (hS.und (hM2.mono hF)) (by omega)
    have hke : ∀ {L' : List (Nat × Obj)} {F' : List (World → Prop)} {w' : World} (n : Int), (∀ φ ∈ F2, φ ∈ F') → St M w0 L' F' w' → (b3, Obj.cells [.slice A2 Mk.length c2].toArray 43) ∈ L' → (b1, hob A h.cs.length c B h.tr.length d) ∈ L' → Calls Try.prog 58 #[.int .i64 n, ptrM b1, ptrM b3] w' fun e w'' => e = .returned (.int .i64 (rkI (h.tr.map (markAt Mk)) n)) ∧ Below w'.heap.size w' w'' := fun n hF hS hm hm1 => kept2_any h Mk n b1 b3 A B A2 c d c2 _ (hS.own _ hm1) (hS.own _ hm) (hS.und (hTr.mono hF)) (hS.und (hM2.mono hF)) (by omega) (by omega) htr
    refine goes_seq ?_
    refine goes_region ?_
    first
      | refine lst_run (run_lss_yes rfl rfl (by omega)) rfl ?_
      | refine lst_run (run_lss_no rfl rfl (by omega)) rfl ?_
      | refine lst_run (rfl) rfl ?_
    refine lst_done ?_
    refine goes_seq ?_
    refine goes_false rfl ?_
    refine goes_exit rfl ?_
    refine goes_seq ?_
    refine goes_region ?_
    refine lst_run (run_makeFunc args_nil (args_1 (by conv => lhs; whnf))) rfl ?_
    refine lst_run (run_assign (by conv => lhs; whnf)) rfl ?_
    refine lst_done ?_
    refine goes_seq ?_
    refine goes_region ?_
    refine lst_alloc (cs := [_, _]) hS rfl rfl rfl ?_
    clear hS
    intro b4 wx5 hS
    refine lst_done ?_
    refine goes_seq ?_
    refine goes_seq ?_
    refine goes_region ?_
    refine lst_run (run_fieldAddr (off := 0) rfl rfl) rfl ?_
    first
      | refine lst_run (run_load1_own hS rfl rfl (by first | exact .head | exact .tail .head | exact .tail (.tail .head) | exact .tail (.tail (.tail .head)) | exact .tail (.tail (.tail (.tail .head))) | exact .tail (.tail (.tail (.tail (.tail .head))))) (by repeat constructor)) rfl ?_
      | refine lst_run (run_load1 rfl rfl (by first | assumption | exact hct _ hS | exact hS.cell0 (by assumption) | exact lv_next hS | exact lv_list hS)) rfl ?_
    refine lst_run (run_len_slice rfl rfl rfl) rfl ?_
    refine lst_run (run_move (by conv => lhs; whnf)) rfl ?_
    refine lst_done ?_
    refine goes_block ?_
    refine goes_loop1 64 (65 :: 66 :: 67 :: 68 :: 20 :: 19 :: 69 :: 70 :: 71 :: 72 :: 73 :: 74 :: 75 :: 76 :: 77 :: 78 :: 79 :: 80 :: 81 :: 82 :: 83 :: 84 :: 85 :: 86 :: 87 :: []) (fun (Q : List HC) v w' => ∃ (E : List HC) (m1 m2 : List Bool) (X : List HC) (Aa : Option Addr) (ca : Nat) (O : List (Nat × Obj)), h.cs = E ++ Q ∧ Mk = m1 ++ m2 ∧ m1.length = E.length ∧ v = .int .i64 (E.length : Nat) ∧ X.length ≤ E.length ∧ collL Mk h.cs = X ++ (kept Q m2).map (renum Mk) ∧ Rw 59 3 (.slice Aa X.length ca) X.length (hcsL X) O ∧ St M w0 ((b4, hob Aa X.length ca none 0 0) :: (b3, .cells [.slice A2 Mk.length c2].toArray 43) :: (b2, hob none 0 0 none 0 0) :: (b1, hob A h.cs.length c B h.tr.length d) :: (O ++ H)) F2 w') (fun Q => Q.length) (h.cs) ?_ (by conv => lhs; whnf) ?_
    · exact ⟨[], [], Mk, [], none, 0, [], rfl, rfl, rfl, rfl, by simp, rfl, Rw.zero_, hS⟩
    clear hS
    rintro Q _ w5 jv2 ⟨E, m1, m2, X, Aa, ca, O, hE, hm, hml1, rfl, hXl, hcol, hrow, hS⟩ ih2
    have hlen2 : h.cs.length = E.length + Q.length := by rw [hE]; simp
    have hlm : m2.length = Q.length := by
      have : Mk.length = m1.length + m2.length := by rw [hm]; simp
      omega
    cases Q with
    | cons x Q =>
      simp only [List.length_cons] at hlen2 hlm
      obtain ⟨b, m2, rfl⟩ : ∃ b m2', m2 = b :: m2' := by
        cases m2 with
        | nil => simp at hlm
        | cons b m2 => exact ⟨b, m2, rfl⟩
      have hxi : h.cs[E.length]? = some x := by rw [hE]; simp
      have hbi : Mk[E.length]? = some b := by rw [hm, ← hml1]; simp
      obtain ⟨bt, ot, rfl⟩ := (hS.und hCs).some_ (by omega)
      obtain ⟨bm, om, rfl⟩ := (hS.und hM2).some_ (by omega)
      have hcc : ∀ {H'} w', St M w0 H' F2 w' → _ := fun w' hS => (hS.und hCs).cell hxi
      have hcb : ∀ {H'} w', St M w0 H' F2 w' → w'.cell? ⟨bm, om + ((E.length : Nat) : Int).toNat * 1, none⟩ = some (.bool b) := fun w' hS => by
        have := (hS.und hM2).bool hbi
        rw [show ((E.length : Nat) : Int).toNat = E.length by omega]; exact this
      rw [show E.length = ((E.length : Nat) : Int).toNat by omega] at hcc
      cases b with
      | false =>
        refine goes_seq ?_
        refine goes_region ?_
        first
          | refine lst_run (run_lss_yes rfl rfl (by omega)) rfl ?_
          | refine lst_run (run_lss_no rfl rfl (by omega)) rfl ?_
          | refine lst_run (rfl) rfl ?_
        refine lst_done ?_
        refine goes_seq ?_
        refine goes_true rfl ?_
        refine goes_skip ?_
        refine goes_seq ?_
        refine goes_block ?_
        refine goes_seq ?_
        refine goes_region ?_
        refine lst_run (run_move (by conv => lhs; whnf)) rfl ?_
        refine lst_run (run_indexAddr (sz := 3) rfl rfl rfl rfl (by omega) (by omega)) rfl ?_
        first
          | refine lst_run (run_loadN_own (k := 3) hS rfl rfl rfl (by first | exact .head | exact .tail .head | exact .tail (.tail .head) | exact .tail (.tail (.tail .head)) | exact .tail (.tail (.tail (.tail .head))) | exact .tail (.tail (.tail (.tail (.tail .head))))) (by repeat constructor)) rfl ?_
          | refine lst_run (run_load3 rfl rfl rfl (by first | assumption | exact (hcc _ hS).1 | exact (hcc _ hS).2.1 | exact (hcc _ hS).2.2 | exact hcb _ hS | exact hS.cell0 (by assumption)) (by first | assumption | exact (hcc _ hS).1 | exact (hcc _ hS).2.1 | exact (hcc _ hS).2.2 | exact hcb _ hS | exact hS.cell0 (by assumption)) (by first | assumption | exact (hcc _ hS).1 | exact (hcc _ hS).2.1 | exact (hcc _ hS).2.2 | exact hcb _ hS | exact hS.cell0 (by assumption))) rfl ?_
        refine lst_alloc (cs := [_, _, _]) hS rfl rfl rfl ?_
        clear hS
        intro b5 wx6 hS
        refine lst_run (run_assign (by conv => lhs; whnf)) rfl ?_
        refine lst_storeN hS rfl (by conv => lhs; whnf) rfl rfl (by first | exact .head | exact .tail .head | exact .tail (.tail .head) | exact .tail (.tail (.tail .head)) | exact .tail (.tail (.tail (.tail .head))) | exact .tail (.tail (.tail (.tail (.tail .head))))) (by repeat constructor) (by first | exact .head | exact .tail .head | exact .tail (.tail .head) | exact .tail (.tail (.tail .head)) | exact .tail (.tail (.tail (.tail .head))) | exact .tail (.tail (.tail (.tail (.tail .head))))) ?_
        clear hS
        intro wx7 hS
        refine lst_done ?_
        refine goes_seq ?_
        refine goes_region ?_
        first
          | refine lst_run (run_load1_own hS rfl rfl (by first | exact .head | exact .tail .head | exact .tail (.tail .head) | exact .tail (.tail (.tail .head)) | exact .tail (.tail (.tail (.tail .head))) | exact .tail (.tail (.tail (.tail (.tail .head))))) (by repeat constructor)) rfl ?_
          | refine lst_run (run_load1 rfl rfl (by first | assumption | exact (hcc _ hS).1 | exact (hcc _ hS).2.1 | exact (hcc _ hS).2.2 | exact hcb _ hS | exact hS.cell0 (by assumption) | exact lv_next hS | exact lv_list hS)) rfl ?_
        refine lst_run (run_move (by conv => lhs; whnf)) rfl ?_
        refine lst_run (run_indexAddr (sz := 1) rfl rfl rfl rfl (by omega) (by omega)) rfl ?_
        first
          | refine lst_run (run_load1_own hS rfl rfl (by first | exact .head | exact .tail .head | exact .tail (.tail .head) | exact .tail (.tail (.tail .head)) | exact .tail (.tail (.tail (.tail .head))) | exact .tail (.tail (.tail (.tail (.tail .head))))) (by repeat constructor)) rfl ?_
          | refine lst_run (run_load1 rfl rfl (by first | assumption | exact (hcc _ hS).1 | exact (hcc _ hS).2.1 | exact (hcc _ hS).2.2 | exact hcb _ hS | exact hS.cell0 (by assumption) | exact lv_next hS | exact lv_list hS)) rfl ?_
        refine lst_done ?_
        refine goes_false rfl ?_
        refine goes_skip ?_
        refine goes_inBlock ?_
        refine goes_region ?_
        refine lst_run (run_add rfl rfl (by omega) (by omega)) rfl ?_
        refine lst_run (run_move (by conv => lhs; whnf)) rfl ?_
        refine lst_done ?_
        refine ih2 Q _ _ _ ?_ ?_ (by conv => lhs; whnf) (by kernel_rfl)
        · simp
        · refine ⟨E ++ [x], m1 ++ [false], m2, X, Aa, ca, O, by rw [hE]; simp, by rw [hm]; simp, by simp [hml1], by simp, by simp; omega, ?_, hrow, hS.drop⟩
          rw [hcol]; simp [kept]
      | true =>
        by_cases hk : x.k = 0
        · have hrn : renum Mk x = ⟨x.k, rkI Mk x.n, x.s⟩ := by unfold renum; rw [if_pos hk]
          refine goes_seq ?_
          refine goes_region ?_
          first
            | refine lst_run (run_lss_yes rfl rfl (by omega)) rfl ?_
            | refine lst_run (run_lss_no rfl rfl (by omega)) rfl ?_
            | refine lst_run (rfl) rfl ?_
          refine lst_done ?_
          refine goes_seq ?_
          refine goes_true rfl ?_
          refine goes_skip ?_
          refine goes_seq ?_
          refine goes_block ?_
          refine goes_seq ?_
          refine goes_region ?_
          refine lst_run (run_move (by conv => lhs; whnf)) rfl ?_
          refine lst_run (run_indexAddr (sz := 3) rfl rfl rfl rfl (by omega) (by omega)) rfl ?_
          first
            | refine lst_run (run_loadN_own (k := 3) hS rfl rfl rfl (by first | exact .head | exact .tail .head | exact .tail (.tail .head) | exact .tail (.tail (.tail .head)) | exact .tail (.tail (.tail (.tail .head))) | exact .tail (.tail (.tail (.tail (.tail .head))))) (by repeat constructor)) rfl ?_
            | refine lst_run (run_load3 rfl rfl rfl (by first | assumption | exact (hcc _ hS).1 | exact (hcc _ hS).2.1 | exact (hcc _ hS).2.2 | exact hcb _ hS | exact hS.cell0 (by assumption)) (by first | assumption | exact (hcc _ hS).1 | exact (hcc _ hS).2.1 | exact (hcc _ hS).2.2 | exact hcb _ hS | exact hS.cell0 (by assumption)) (by first | assumption | exact (hcc _ hS).1 | exact (hcc _ hS).2.1 | exact (hcc _ hS).2.2 | exact hcb _ hS | exact hS.cell0 (by assumption))) rfl ?_
          refine lst_alloc (cs := [_, _, _]) hS rfl rfl rfl ?_
          clear hS
          intro b5 wx6 hS
          refine lst_run (run_assign (by conv => lhs; whnf)) rfl ?_
          refine lst_storeN hS rfl (by conv => lhs; whnf) rfl rfl (by first | exact .head | exact .tail .head | exact .tail (.tail .head) | exact .tail (.tail (.tail .head)) | exact .tail (.tail (.tail (.tail .head))) | exact .tail (.tail (.tail (.tail (.tail .head))))) (by repeat constructor) (by first | exact .head | exact .tail .head | exact .tail (.tail .head) | exact .tail (.tail (.tail .head)) | exact .tail (.tail (.tail (.tail .head))) | exact .tail (.tail (.tail (.tail (.tail .head))))) ?_
          clear hS
          intro wx7 hS
          refine lst_done ?_
          refine goes_seq ?_
          refine goes_region ?_
          first
            | refine lst_run (run_load1_own hS rfl rfl (by first | exact .head | exact .tail .head | exact .tail (.tail .head) | exact .tail (.tail (.tail .head)) | exact .tail (.tail (.tail (.tail .head))) | exact .tail (.tail (.tail (.tail (.tail .head))))) (by repeat constructor)) rfl ?_
            | refine lst_run (run_load1 rfl rfl (by first | assumption | exact (hcc _ hS).1 | exact (hcc _ hS).2.1 | exact (hcc _ hS).2.2 | exact hcb _ hS | exact hS.cell0 (by assumption) | exact lv_next hS | exact lv_list hS)) rfl ?_
          refine lst_run (run_move (by conv => lhs; whnf)) rfl ?_
          refine lst_run (run_indexAddr (sz := 1) rfl rfl rfl rfl (by omega) (by omega)) rfl ?_
          first
            | refine lst_run (run_load1_own hS rfl rfl (by first | exact .head | exact .tail .head | exact .tail (.tail .head) | exact .tail (.tail (.tail .head)) | exact .tail (.tail (.tail (.tail .head))) | exact .tail (.tail (.tail (.tail (.tail .head))))) (by repeat constructor)) rfl ?_
            | refine lst_run (run_load1 rfl rfl (by first | assumption | exact (hcc _ hS).1 | exact (hcc _ hS).2.1 | exact (hcc _ hS).2.2 | exact hcb _ hS | exact hS.cell0 (by assumption) | exact lv_next hS | exact lv_list hS)) rfl ?_
          refine lst_done ?_
          refine goes_true rfl ?_
          refine goes_seq ?_
          refine goes_seq ?_
          refine goes_region ?_
          refine lst_run (run_fieldAddr (off := 0) rfl rfl) rfl ?_
          first
            | refine lst_run (run_load1_own hS rfl rfl (by first | exact .head | exact .tail .head | exact .tail (.tail .head) | exact .tail (.tail (.tail .head)) | exact .tail (.tail (.tail (.tail .head))) | exact .tail (.tail (.tail (.tail (.tail .head))))) (by repeat constructor)) rfl ?_
            | refine lst_run (run_load1 rfl rfl (by first | assumption | exact (hcc _ hS).1 | exact (hcc _ hS).2.1 | exact (hcc _ hS).2.2 | exact hcb _ hS | exact hS.cell0 (by assumption) | exact lv_next hS | exact lv_list hS)) rfl ?_
          first
            | refine lst_run (run_eql_one_int rfl rfl) rfl ?_
            | refine lst_run (run_eql_no rfl rfl (by first | assumption | omega)) rfl ?_
            | refine lst_run (run_eql_yes rfl rfl (by omega)) rfl ?_
            | refine lst_run (rfl) rfl ?_
          refine lst_done ?_
          refine goes_true rfl ?_
          refine goes_region ?_
          refine lst_run (run_move (by conv => lhs; whnf)) rfl ?_
          refine lst_run (run_fieldAddr (off := 1) rfl rfl) rfl ?_
          first
            | refine lst_run (run_load1_own hS rfl rfl (by first | exact .head | exact .tail .head | exact .tail (.tail .head) | exact .tail (.tail (.tail .head)) | exact .tail (.tail (.tail (.tail .head))) | exact .tail (.tail (.tail (.tail (.tail .head))))) (by repeat constructor)) rfl ?_
            | refine lst_run (run_load1 rfl rfl (by first | assumption | exact (hcc _ hS).1 | exact (hcc _ hS).2.1 | exact (hcc _ hS).2.2 | exact hcb _ hS | exact hS.cell0 (by assumption) | exact lv_next hS | exact lv_list hS)) rfl ?_
          refine lst_enter (run_callv rfl (by kernel_rfl) (args_1 (by conv => lhs; whnf))) rfl ?_
          refine Calls.mono (hah x.n (fun _ h => h) hS (.tail _ (.tail _ (.head _)))) ?_
          rintro _ w6 ⟨rfl, hb6⟩
          refine ⟨_, rfl, ?_⟩
          replace hS := hS.grow hb6
          refine lst_run (run_fieldAddr (off := 1) rfl rfl) rfl ?_
          refine lst_store1 hS rfl (by conv => lhs; whnf) rfl rfl (by first | exact .head | exact .tail .head | exact .tail (.tail .head) | exact .tail (.tail (.tail .head)) | exact .tail (.tail (.tail (.tail .head))) | exact .tail (.tail (.tail (.tail (.tail .head))))) (by repeat constructor) (by first | exact .head | exact .tail .head | exact .tail (.tail .head) | exact .tail (.tail (.tail .head)) | exact .tail (.tail (.tail (.tail .head))) | exact .tail (.tail (.tail (.tail (.tail .head))))) ?_
          clear hS
          intro wx8 hS
          refine lst_done ?_
          refine goes_region ?_
          refine lst_run (run_fieldAddr (off := 0) rfl rfl) rfl ?_
          first
            | refine lst_run (run_load1_own hS rfl rfl (by first | exact .head | exact .tail .head | exact .tail (.tail .head) | exact .tail (.tail (.tail .head)) | exact .tail (.tail (.tail (.tail .head))) | exact .tail (.tail (.tail (.tail (.tail .head))))) (by repeat constructor)) rfl ?_
            | refine lst_run (run_load1 rfl rfl (by first | assumption | exact (hcc _ hS).1 | exact (hcc _ hS).2.1 | exact (hcc _ hS).2.2 | exact hcb _ hS | exact hS.cell0 (by assumption) | exact lv_next hS | exact lv_list hS)) rfl ?_
          first
            | refine lst_run (run_loadN_own (k := 3) hS rfl rfl rfl (by first | exact .head | exact .tail .head | exact .tail (.tail .head) | exact .tail (.tail (.tail .head)) | exact .tail (.tail (.tail (.tail .head))) | exact .tail (.tail (.tail (.tail (.tail .head))))) (by repeat constructor)) rfl ?_
            | refine lst_run (run_load3 rfl rfl rfl (by first | assumption | exact (hcc _ hS).1 | exact (hcc _ hS).2.1 | exact (hcc _ hS).2.2 | exact hcb _ hS | exact hS.cell0 (by assumption)) (by first | assumption | exact (hcc _ hS).1 | exact (hcc _ hS).2.1 | exact (hcc _ hS).2.2 | exact hcb _ hS | exact hS.cell0 (by assumption)) (by first | assumption | exact (hcc _ hS).1 | exact (hcc _ hS).2.1 | exact (hcc _ hS).2.2 | exact hcb _ hS | exact hS.cell0 (by assumption))) rfl ?_
          refine lst_buildSlice (cells := [_, _, _]) hS (.cons (by conv => lhs; whnf) .nil) rfl rfl ?_
          clear hS
          intro b6 wx9 hS
          refine lst_appC (L := [⟨x.k, rkI Mk x.n, x.s⟩]) hS (by conv => lhs; whnf) (by rfl) rfl rfl rfl (Flat.own (sp := []) (hS.own (_, _) (.head _)) rfl (Nat.le_refl _)) hrow (List.perm_append_comm_assoc [_, _, _, _, _, _] O _) (by simp; omega) rfl ?_
          clear hS
          intro v7 O7 w7 hrow7 hS
          obtain ⟨B7, d7, rfl, _⟩ := hrow7.form
          replace hS := hS.perm (List.perm_append_comm_assoc O7 [_, _, _, _, _, _] _)
          refine lst_run (run_fieldAddr (off := 0) rfl rfl) rfl ?_
          refine lst_store1 hS rfl (by conv => lhs; whnf) rfl rfl (by first | exact .head | exact .tail .head | exact .tail (.tail .head) | exact .tail (.tail (.tail .head)) | exact .tail (.tail (.tail (.tail .head))) | exact .tail (.tail (.tail (.tail (.tail .head))))) (by repeat constructor) (by first | exact .head | exact .tail .head | exact .tail (.tail .head) | exact .tail (.tail (.tail .head)) | exact .tail (.tail (.tail (.tail .head))) | exact .tail (.tail (.tail (.tail (.tail .head))))) ?_
          clear hS
          intro wx10 hS
          refine lst_done ?_
          refine goes_inBlock ?_
          refine goes_region ?_
          refine lst_run (run_add rfl rfl (by omega) (by omega)) rfl ?_
          refine lst_run (run_move (by conv => lhs; whnf)) rfl ?_
          refine lst_done ?_
          refine ih2 Q _ _ _ ?_ ?_ (by conv => lhs; whnf) (by kernel_rfl)
          · simp
          · refine ⟨E ++ [x], m1 ++ [true], m2, X ++ [⟨x.k, rkI Mk x.n, x.s⟩], B7, d7, O7, by rw [hE]; simp, by rw [hm]; simp, by simp [hml1], by simp, by simp; omega, ?_, ?_, ?_⟩
            · rw [hcol]; simp [kept, hrn]
            · rw [List.length_append, hcsL_app]; exact hrow7
            · rw [List.length_append]; exact hS.drop.drop
        · have hrn : renum Mk x = x := by unfold renum; rw [if_neg hk]
          refine goes_seq ?_
          refine goes_region ?_
          first
            | refine lst_run (run_lss_yes rfl rfl (by omega)) rfl ?_
            | refine lst_run (run_lss_no rfl rfl (by omega)) rfl ?_
            | refine lst_run (rfl) rfl ?_
          refine lst_done ?_
          refine goes_seq ?_
          refine goes_true rfl ?_
          refine goes_skip ?_
          refine goes_seq ?_
          refine goes_block ?_
          refine goes_seq ?_
          refine goes_region ?_
          refine lst_run (run_move (by conv => lhs; whnf)) rfl ?_
          refine lst_run (run_indexAddr (sz := 3) rfl rfl rfl rfl (by omega) (by omega)) rfl ?_
          first
            | refine lst_run (run_loadN_own (k := 3) hS rfl rfl rfl (by first | exact .head | exact .tail .head | exact .tail (.tail .head) | exact .tail (.tail (.tail .head)) | exact .tail (.tail (.tail (.tail .head))) | exact .tail (.tail (.tail (.tail (.tail .head))))) (by repeat constructor)) rfl ?_
            | refine lst_run (run_load3 rfl rfl rfl (by first | assumption | exact (hcc _ hS).1 | exact (hcc _ hS).2.1 | exact (hcc _ hS).2.2 | exact hcb _ hS | exact hS.cell0 (by assumption)) (by first | assumption | exact (hcc _ hS).1 | exact (hcc _ hS).2.1 | exact (hcc _ hS).2.2 | exact hcb _ hS | exact hS.cell0 (by assumption)) (by first | assumption | exact (hcc _ hS).1 | exact (hcc _ hS).2.1 | exact (hcc _ hS).2.2 | exact hcb _ hS | exact hS.cell0 (by assumption))) rfl ?_
          refine lst_alloc (cs := [_, _, _]) hS rfl rfl rfl ?_
          clear hS
          intro b5 wx6 hS
          refine lst_run (run_assign (by conv => lhs; whnf)) rfl ?_
          refine lst_storeN hS rfl (by conv => lhs; whnf) rfl rfl (by first | exact .head | exact .tail .head | exact .tail (.tail .head) | exact .tail (.tail (.tail .head)) | exact .tail (.tail (.tail (.tail .head))) | exact .tail (.tail (.tail (.tail (.tail .head))))) (by repeat constructor) (by first | exact .head | exact .tail .head | exact .tail (.tail .head) | exact .tail (.tail (.tail .head)) | exact .tail (.tail (.tail (.tail .head))) | exact .tail (.tail (.tail (.tail (.tail .head))))) ?_
          clear hS
          intro wx7 hS
          refine lst_done ?_
          refine goes_seq ?_
          refine goes_region ?_
          first
            | refine lst_run (run_load1_own hS rfl rfl (by first | exact .head | exact .tail .head | exact .tail (.tail .head) | exact .tail (.tail (.tail .head)) | exact .tail (.tail (.tail (.tail .head))) | exact .tail (.tail (.tail (.tail (.tail .head))))) (by repeat constructor)) rfl ?_
            | refine lst_run (run_load1 rfl rfl (by first | assumption | exact (hcc _ hS).1 | exact (hcc _ hS).2.1 | exact (hcc _ hS).2.2 | exact hcb _ hS | exact hS.cell0 (by assumption) | exact lv_next hS | exact lv_list hS)) rfl ?_
          refine lst_run (run_move (by conv => lhs; whnf)) rfl ?_
          refine lst_run (run_indexAddr (sz := 1) rfl rfl rfl rfl (by omega) (by omega)) rfl ?_
          first
            | refine lst_run (run_load1_own hS rfl rfl (by first | exact .head | exact .tail .head | exact .tail (.tail .head) | exact .tail (.tail (.tail .head)) | exact .tail (.tail (.tail (.tail .head))) | exact .tail (.tail (.tail (.tail (.tail .head))))) (by repeat constructor)) rfl ?_
            | refine lst_run (run_load1 rfl rfl (by first | assumption | exact (hcc _ hS).1 | exact (hcc _ hS).2.1 | exact (hcc _ hS).2.2 | exact hcb _ hS | exact hS.cell0 (by assumption) | exact lv_next hS | exact lv_list hS)) rfl ?_
          refine lst_done ?_
          refine goes_true rfl ?_
          refine goes_seq ?_
          refine goes_seq ?_
          refine goes_region ?_
          refine lst_run (run_fieldAddr (off := 0) rfl rfl) rfl ?_
          first
            | refine lst_run (run_load1_own hS rfl rfl (by first | exact .head | exact .tail .head | exact .tail (.tail .head) | exact .tail (.tail (.tail .head)) | exact .tail (.tail (.tail (.tail .head))) | exact .tail (.tail (.tail (.tail (.tail .head))))) (by repeat constructor)) rfl ?_
            | refine lst_run (run_load1 rfl rfl (by first | assumption | exact (hcc _ hS).1 | exact (hcc _ hS).2.1 | exact (hcc _ hS).2.2 | exact hcb _ hS | exact hS.cell0 (by assumption) | exact lv_next hS | exact lv_list hS)) rfl ?_
          first
            | refine lst_run (run_eql_one_int rfl rfl) rfl ?_
            | refine lst_run (run_eql_no rfl rfl (by first | assumption | omega)) rfl ?_
            | refine lst_run (run_eql_yes rfl rfl (by omega)) rfl ?_
            | refine lst_run (rfl) rfl ?_
          refine lst_done ?_
          refine goes_false rfl ?_
          refine goes_skip ?_
          refine goes_region ?_
          refine lst_run (run_fieldAddr (off := 0) rfl rfl) rfl ?_
          first
            | refine lst_run (run_load1_own hS rfl rfl (by first | exact .head | exact .tail .head | exact .tail (.tail .head) | exact .tail (.tail (.tail .head)) | exact .tail (.tail (.tail (.tail .head))) | exact .tail (.tail (.tail (.tail (.tail .head))))) (by repeat constructor)) rfl ?_
            | refine lst_run (run_load1 rfl rfl (by first | assumption | exact (hcc _ hS).1 | exact (hcc _ hS).2.1 | exact (hcc _ hS).2.2 | exact hcb _ hS | exact hS.cell0 (by assumption) | exact lv_next hS | exact lv_list hS)) rfl ?_
          first
            | refine lst_run (run_loadN_own (k := 3) hS rfl rfl rfl (by first | exact .head | exact .tail .head | exact .tail (.tail .head) | exact .tail (.tail (.tail .head)) | exact .tail (.tail (.tail (.tail .head))) | exact .tail (.tail (.tail (.tail (.tail .head))))) (by repeat constructor)) rfl ?_
            | refine lst_run (run_load3 rfl rfl rfl (by first | assumption | exact (hcc _ hS).1 | exact (hcc _ hS).2.1 | exact (hcc _ hS).2.2 | exact hcb _ hS | exact hS.cell0 (by assumption)) (by first | assumption | exact (hcc _ hS).1 | exact (hcc _ hS).2.1 | exact (hcc _ hS).2.2 | exact hcb _ hS | exact hS.cell0 (by assumption)) (by first | assumption | exact (hcc _ hS).1 | exact (hcc _ hS).2.1 | exact (hcc _ hS).2.2 | exact hcb _ hS | exact hS.cell0 (by assumption))) rfl ?_
          refine lst_buildSlice (cells := [_, _, _]) hS (.cons (by conv => lhs; whnf) .nil) rfl rfl ?_
          clear hS
          intro b6 wx8 hS
          refine lst_appC (L := [x]) hS (by conv => lhs; whnf) (by rfl) rfl rfl rfl (Flat.own (sp := []) (hS.own (_, _) (.head _)) rfl (Nat.le_refl _)) hrow (List.perm_append_comm_assoc [_, _, _, _, _, _] O _) (by simp; omega) rfl ?_
          clear hS
          intro v7 O7 w7 hrow7 hS
          obtain ⟨B7, d7, rfl, _⟩ := hrow7.form
          replace hS := hS.perm (List.perm_append_comm_assoc O7 [_, _, _, _, _, _] _)
          refine lst_run (run_fieldAddr (off := 0) rfl rfl) rfl ?_
          refine lst_store1 hS rfl (by conv => lhs; whnf) rfl rfl (by first | exact .head | exact .tail .head | exact .tail (.tail .head) | exact .tail (.tail (.tail .head)) | exact .tail (.tail (.tail (.tail .head))) | exact .tail (.tail (.tail (.tail (.tail .head))))) (by repeat constructor) (by first | exact .head | exact .tail .head | exact .tail (.tail .head) | exact .tail (.tail (.tail .head)) | exact .tail (.tail (.tail (.tail .head))) | exact .tail (.tail (.tail (.tail (.tail .head))))) ?_
          clear hS
          intro wx9 hS
          refine lst_done ?_
          refine goes_inBlock ?_
          refine goes_region ?_
          refine lst_run (run_add rfl rfl (by omega) (by omega)) rfl ?_
          refine lst_run (run_move (by conv => lhs; whnf)) rfl ?_
          refine lst_done ?_
          refine ih2 Q _ _ _ ?_ ?_ (by conv => lhs; whnf) (by kernel_rfl)
          · simp
          · refine ⟨E ++ [x], m1 ++ [true], m2, X ++ [x], B7, d7, O7, by rw [hE]; simp, by rw [hm]; simp, by simp [hml1], by simp, by simp; omega, ?_, ?_, ?_⟩
            · rw [hcol]; simp [kept, hrn]
            · rw [List.length_append, hcsL_app]; exact hrow7
            · rw [List.length_append]; exact hS.drop.drop
    | nil =>
      simp only [List.length_nil] at hlen2
      have hX : collL Mk h.cs = X := by rw [hcol]; simp [kept]
      have hSz := St.freezeR hrow (hS.perm (List.perm_append_comm_assoc [_, _, _, _] O _))
      replace hS := hSz
      clear hSz hrow
      rw [← hX] at hS
      have hC3 : Und (Flat 3 (hcsL (collL Mk h.cs)) Aa (collL Mk h.cs).length ca :: F2) (Flat 3 (hcsL (collL Mk h.cs)) Aa (collL Mk h.cs).length ca) := Und.head
      have hf3 : ∀ φ ∈ F2, φ ∈ (Flat 3 (hcsL (collL Mk h.cs)) Aa (collL Mk h.cs).length ca :: F2) := fun φ h => .tail _ h
      generalize (Flat 3 (hcsL (collL Mk h.cs)) Aa (collL Mk h.cs).length ca :: F2) = F3 at *
      refine goes_seq ?_
      refine goes_region ?_
      first
        | refine lst_run (run_lss_yes rfl rfl (by omega)) rfl ?_
        | refine lst_run (run_lss_no rfl rfl (by omega)) rfl ?_
        | refine lst_run (rfl) rfl ?_
      refine lst_done ?_
      refine goes_seq ?_
      refine goes_false rfl ?_
      refine goes_exit rfl ?_
      refine goes_seq ?_
      refine goes_region ?_
      refine lst_run (run_makeFunc args_nil (args_2 (by conv => lhs; whnf) (by conv => lhs; whnf))) rfl ?_
      refine lst_run (run_assign (by conv => lhs; whnf)) rfl ?_
      refine lst_done ?_
      refine goes_seq ?_
      refine goes_seq ?_
      refine goes_region ?_
      refine lst_run (run_fieldAddr (off := 1) rfl rfl) rfl ?_
      first
        | refine lst_run (run_load1_own hS rfl rfl (by first | exact .head | exact .tail .head | exact .tail (.tail .head) | exact .tail (.tail (.tail .head)) | exact .tail (.tail (.tail (.tail .head))) | exact .tail (.tail (.tail (.tail (.tail .head))))) (by repeat constructor)) rfl ?_
        | refine lst_run (run_load1 rfl rfl (by first | assumption | exact (hcc _ hS).1 | exact (hcc _ hS).2.1 | exact (hcc _ hS).2.2 | exact hcb _ hS | exact hS.cell0 (by assumption) | exact lv_next hS | exact lv_list hS)) rfl ?_
      refine lst_run (run_len_slice rfl rfl rfl) rfl ?_
      refine lst_run (run_move (by conv => lhs; whnf)) rfl ?_
      refine lst_done ?_
      refine goes_block ?_
      refine goes_loop1 92 (93 :: 94 :: 95 :: 23 :: 96 :: 97 :: 98 :: 99 :: 100 :: 101 :: 102 :: 103 :: 104 :: 105 :: 106 :: 107 :: 108 :: []) (fun (Q : List Int) v w' => ∃ (E : List Int) (Y : List Int) (Ab : Option Addr) (cb : Nat) (O : List (Nat × Obj)), h.tr = E ++ Q ∧ v = .int .i64 (E.length : Nat) ∧ Y.length ≤ E.length ∧ (kept h.tr (h.tr.map (markAt Mk))).map (rkI Mk) = Y ++ (kept Q (Q.map (markAt Mk))).map (rkI Mk) ∧ Rw 3 1 (.slice Ab Y.length cb) Y.length (intsV Y) O ∧ St M w0 ((b4, hob Aa (collL Mk h.cs).length ca Ab Y.length cb) :: (b3, .cells [.slice A2 Mk.length c2].toArray 43) :: (b2, hob none 0 0 none 0 0) :: (b1, hob A h.cs.length c B h.tr.length d) :: (O ++ H)) F3 w') (fun Q => Q.length) (h.tr) ?_ (by conv => lhs; whnf) ?_
      · exact ⟨[], [], none, 0, [], rfl, rfl, by simp, rfl, Rw.zero_, hS⟩
      clear hS
      rintro Q _ w6 jv3 ⟨E3, Y, Ab, cb, O, hE3, rfl, hYl, hcol3, hrow, hS⟩ ih3
      have hlen3 : h.tr.length = E3.length + Q.length := by rw [hE3]; simp
      cases Q with
      | cons x Q =>
        simp only [List.length_cons] at hlen3
        have hxi : h.tr[E3.length]? = some x := by rw [hE3]; simp
        obtain ⟨hx0, hx1⟩ := htr x (List.mem_of_getElem? hxi)
        obtain ⟨v, hv⟩ : ∃ v, Mk[x.toNat]? = some v := ⟨Mk[x.toNat]'(by omega), List.getElem?_eq_getElem _⟩
        have hvm := markAt_get hv
        have hTr3 := hTr.mono hf3
        have hM3 := hM2.mono hf3
        obtain ⟨bt, ot, rfl⟩ := (hS.und hTr3).some_ (by omega)
        obtain ⟨bm, om, rfl⟩ := (hS.und hM3).some_ (by omega)
        have hct : ∀ {H'} w', St M w0 H' F3 w' → w'.cell? ⟨bt, ot + ((E3.length : Nat) : Int).toNat * 1, none⟩ = some (.int .i64 x) := fun w' hS => by
          have := (hS.und hTr3).int hxi
          rw [show ((E3.length : Nat) : Int).toNat = E3.length by omega]; exact this
        have hcm : ∀ {H'} w', St M w0 H' F3 w' → w'.cell? ⟨bm, om + x.toNat * 1, none⟩ = some (.bool v) := fun w' hS => (hS.und hM3).bool hv
        cases v with
        | false =>
          refine goes_seq ?_
          refine goes_region ?_
          first
            | refine lst_run (run_lss_yes rfl rfl (by omega)) rfl ?_
            | refine lst_run (run_lss_no rfl rfl (by omega)) rfl ?_
            | refine lst_run (rfl) rfl ?_
          refine lst_done ?_
          refine goes_seq ?_
          refine goes_true rfl ?_
          refine goes_skip ?_
          refine goes_seq ?_
          refine goes_block ?_
          refine goes_seq ?_
          refine goes_region ?_
          refine lst_run (run_indexAddr (sz := 1) rfl rfl rfl rfl (by omega) (by omega)) rfl ?_
          first
            | refine lst_run (run_load1_own hS rfl rfl (by first | exact .head | exact .tail .head | exact .tail (.tail .head) | exact .tail (.tail (.tail .head)) | exact .tail (.tail (.tail (.tail .head))) | exact .tail (.tail (.tail (.tail (.tail .head))))) (by repeat constructor)) rfl ?_
            | refine lst_run (run_load1 rfl rfl (by first | assumption | exact hct _ hS | exact hcm _ hS | exact hS.cell0 (by assumption) | exact lv_next hS | exact lv_list hS)) rfl ?_
          refine lst_run (run_assign (by conv => lhs; whnf)) rfl ?_
          refine lst_done ?_
          refine goes_seq ?_
          refine goes_region ?_
          first
            | refine lst_run (run_load1_own hS rfl rfl (by first | exact .head | exact .tail .head | exact .tail (.tail .head) | exact .tail (.tail (.tail .head)) | exact .tail (.tail (.tail (.tail .head))) | exact .tail (.tail (.tail (.tail (.tail .head))))) (by repeat constructor)) rfl ?_
            | refine lst_run (run_load1 rfl rfl (by first | assumption | exact hct _ hS | exact hcm _ hS | exact hS.cell0 (by assumption) | exact lv_next hS | exact lv_list hS)) rfl ?_
          refine lst_run (run_move (by conv => lhs; whnf)) rfl ?_
          refine lst_run (run_indexAddr (sz := 1) rfl rfl rfl rfl (by omega) (by omega)) rfl ?_
          first
            | refine lst_run (run_load1_own hS rfl rfl (by first | exact .head | exact .tail .head | exact .tail (.tail .head) | exact .tail (.tail (.tail .head)) | exact .tail (.tail (.tail (.tail .head))) | exact .tail (.tail (.tail (.tail (.tail .head))))) (by repeat constructor)) rfl ?_
            | refine lst_run (run_load1 rfl rfl (by first | assumption | exact hct _ hS | exact hcm _ hS | exact hS.cell0 (by assumption) | exact lv_next hS | exact lv_list hS)) rfl ?_
          refine lst_done ?_
          refine goes_false rfl ?_
          refine goes_skip ?_
          refine goes_inBlock ?_
          refine goes_region ?_
          refine lst_run (run_add rfl rfl (by omega) (by omega)) rfl ?_
          refine lst_run (run_move (by conv => lhs; whnf)) rfl ?_
          refine lst_done ?_
          refine ih3 Q _ _ _ ?_ ?_ (by conv => lhs; whnf) (by kernel_rfl)
          · simp
          · refine ⟨E3 ++ [x], Y, Ab, cb, O, by rw [hE3]; simp, by simp, by simp; omega, ?_, hrow, hS⟩
            rw [hcol3]; simp [kept, hvm]
        | true =>
          refine goes_seq ?_
          refine goes_region ?_
          first
            | refine lst_run (run_lss_yes rfl rfl (by omega)) rfl ?_
            | refine lst_run (run_lss_no rfl rfl (by omega)) rfl ?_
            | refine lst_run (rfl) rfl ?_
          refine lst_done ?_
          refine goes_seq ?_
          refine goes_true rfl ?_
          refine goes_skip ?_
          refine goes_seq ?_
          refine goes_block ?_
          refine goes_seq ?_
          refine goes_region ?_
          refine lst_run (run_indexAddr (sz := 1) rfl rfl rfl rfl (by omega) (by omega)) rfl ?_
          first
            | refine lst_run (run_load1_own hS rfl rfl (by first | exact .head | exact .tail .head | exact .tail (.tail .head) | exact .tail (.tail (.tail .head)) | exact .tail (.tail (.tail (.tail .head))) | exact .tail (.tail (.tail (.tail (.tail .head))))) (by repeat constructor)) rfl ?_
            | refine lst_run (run_load1 rfl rfl (by first | assumption | exact hct _ hS | exact hcm _ hS | exact hS.cell0 (by assumption) | exact lv_next hS | exact lv_list hS)) rfl ?_
          refine lst_run (run_assign (by conv => lhs; whnf)) rfl ?_
          refine lst_done ?_
          refine goes_seq ?_
          refine goes_region ?_
          first
            | refine lst_run (run_load1_own hS rfl rfl (by first | exact .head | exact .tail .head | exact .tail (.tail .head) | exact .tail (.tail (.tail .head)) | exact .tail (.tail (.tail (.tail .head))) | exact .tail (.tail (.tail (.tail (.tail .head))))) (by repeat constructor)) rfl ?_
            | refine lst_run (run_load1 rfl rfl (by first | assumption | exact hct _ hS | exact hcm _ hS | exact hS.cell0 (by assumption) | exact lv_next hS | exact lv_list hS)) rfl ?_
          refine lst_run (run_move (by conv => lhs; whnf)) rfl ?_
          refine lst_run (run_indexAddr (sz := 1) rfl rfl rfl rfl (by omega) (by omega)) rfl ?_
          first
            | refine lst_run (run_load1_own hS rfl rfl (by first | exact .head | exact .tail .head | exact .tail (.tail .head) | exact .tail (.tail (.tail .head)) | exact .tail (.tail (.tail (.tail .head))) | exact .tail (.tail (.tail (.tail (.tail .head))))) (by repeat constructor)) rfl ?_
            | refine lst_run (run_load1 rfl rfl (by first | assumption | exact hct _ hS | exact hcm _ hS | exact hS.cell0 (by assumption) | exact lv_next hS | exact lv_list hS)) rfl ?_
          refine lst_done ?_
          refine goes_true rfl ?_
          refine goes_draw (St _ w0 [_] []) 8 ((0, true) :: (1, true) :: (2, true) :: (3, true) :: (4, false) :: (5, false) :: (6, false) :: (7, true) :: []) (by kernel_rfl) (by kernel_rfl) (hS.drew.bare1) ?_
          replace hS := hS.drew
          refine ord_read rfl (fun _ hS => run_fieldAddr (off := 1) rfl rfl) rfl ?_
          first
            | refine ord_read rfl (fun _ hS => run_load1_own hS rfl rfl (by first | exact .head | exact .tail .head | exact .tail (.tail .head) | exact .tail (.tail (.tail .head)) | exact .tail (.tail (.tail (.tail .head))) | exact .tail (.tail (.tail (.tail (.tail .head))))) (by repeat constructor)) rfl ?_
            | refine ord_read rfl (fun _ hS => run_load1 rfl rfl (by first | assumption | exact hct _ hS | exact hcm _ hS | exact hS.cell0 (by assumption) | exact lv_next hS | exact lv_list hS)) rfl ?_
          refine ord_read rfl (fun _ hS => run_move (by conv => lhs; whnf)) rfl ?_
          refine ord_read rfl (fun _ hS => run_move (by conv => lhs; whnf)) rfl ?_
          refine ord_act rfl ?_
          refine lst_enter (run_callv rfl (by kernel_rfl) (args_1 (by conv => lhs; whnf))) rfl ?_
          refine Calls.mono (hah x hf3 hS (.tail _ (.head _))) ?_
          rintro _ w7 ⟨rfl, hb7⟩
          refine ⟨_, rfl, ?_⟩
          replace hS := hS.grow hb7
          refine lst_ord (by first | exact hS.bare1 | exact hS.drop.bare1 | exact hS.drop.drop.bare1) ?_
          refine ord_act rfl ?_
          refine lst_buildSlice (cells := [_]) hS (.cons (by conv => lhs; whnf) .nil) rfl rfl ?_
          clear hS
          intro b5 wx6 hS
          refine lst_ord (by first | exact hS.bare1 | exact hS.drop.bare1 | exact hS.drop.drop.bare1) ?_
          refine ord_act rfl ?_
          refine lst_appI (L := [rkI Mk x]) hS (by conv => lhs; whnf) (by rfl) rfl rfl rfl (Flat.own (sp := []) (hS.own (_, _) (.head _)) rfl (Nat.le_refl _)) hrow (List.perm_append_comm_assoc [_, _, _, _, _] O _) (by simp; omega) rfl ?_
          clear hS
          intro v8 O8 w8 hrow8 hS
          obtain ⟨B8, d8, rfl, _⟩ := hrow8.form
          replace hS := hS.perm (List.perm_append_comm_assoc O8 [_, _, _, _, _] _)
          refine lst_ord (by first | exact hS.bare1 | exact hS.drop.bare1 | exact hS.drop.drop.bare1) ?_
          refine ord_read rfl (fun _ hS => run_fieldAddr (off := 1) rfl rfl) rfl ?_
          refine ord_end ?_
          refine lst_store1 hS rfl (by conv => lhs; whnf) rfl rfl (by first | exact .head | exact .tail .head | exact .tail (.tail .head) | exact .tail (.tail (.tail .head)) | exact .tail (.tail (.tail (.tail .head))) | exact .tail (.tail (.tail (.tail (.tail .head))))) (by repeat constructor) (by first | exact .head | exact .tail .head | exact .tail (.tail .head) | exact .tail (.tail (.tail .head)) | exact .tail (.tail (.tail (.tail .head))) | exact .tail (.tail (.tail (.tail (.tail .head))))) ?_
          clear hS
          intro wx7 hS
          refine lst_done ?_
          refine goes_inBlock ?_
          refine goes_region ?_
          refine lst_run (run_add rfl rfl (by omega) (by omega)) rfl ?_
          refine lst_run (run_move (by conv => lhs; whnf)) rfl ?_
          refine lst_done ?_
          refine ih3 Q _ _ _ ?_ ?_ (by conv => lhs; whnf) (by kernel_rfl)
          · simp
          · refine ⟨E3 ++ [x], Y ++ [rkI Mk x], B8, d8, O8, by rw [hE3]; simp, by simp, by simp; omega, ?_, ?_, ?_⟩
            · rw [hcol3]; simp [kept, hvm]
            · rw [List.length_append, show intsV (Y ++ [rkI Mk x]) = intsV Y ++ intsV [rkI Mk x] by simp [intsV]]; exact hrow8
            · rw [List.length_append]; exact hS.drop
      | nil =>
      simp only [List.length_nil] at hlen3
      have hY : (kept h.tr (h.tr.map (markAt Mk))).map (rkI Mk) = Y := by rw [hcol3]; simp [kept]
      have hSz := St.freezeR hrow (hS.perm (List.perm_append_comm_assoc [_, _, _, _] O _))
      replace hS := hSz
      clear hSz hrow
      rw [← hY] at hS
      have hC4 : Und (Flat 1 (intsV ((kept h.tr (h.tr.map (markAt Mk))).map (rkI Mk))) Ab ((kept h.tr (h.tr.map (markAt Mk))).map (rkI Mk)).length cb :: F3) (Flat 1 (intsV ((kept h.tr (h.tr.map (markAt Mk))).map (rkI Mk))) Ab ((kept h.tr (h.tr.map (markAt Mk))).map (rkI Mk)).length cb) := Und.head
      have hf34 : ∀ φ ∈ F3, φ ∈ (Flat 1 (intsV ((kept h.tr (h.tr.map (markAt Mk))).map (rkI Mk))) Ab ((kept h.tr (h.tr.map (markAt Mk))).map (rkI Mk)).length cb :: F3) := fun φ h => .tail _ h
      generalize (Flat 1 (intsV ((kept h.tr (h.tr.map (markAt Mk))).map (rkI Mk))) Ab ((kept h.tr (h.tr.map (markAt Mk))).map (rkI Mk)).length cb :: F3) = F4 at *
      have hf4 : ∀ φ ∈ F2, φ ∈ F4 := fun φ h => hf34 φ (hf3 φ h)
      refine goes_seq ?_
      refine goes_region ?_
      first
        | refine lst_run (run_lss_yes rfl rfl (by omega)) rfl ?_
        | refine lst_run (run_lss_no rfl rfl (by omega)) rfl ?_
        | refine lst_run (rfl) rfl ?_
      refine lst_done ?_
      refine goes_seq ?_
      refine goes_false rfl ?_
      refine goes_exit rfl ?_
      refine goes_seq ?_
      refine goes_region ?_
      refine lst_run (run_assign (by conv => lhs; whnf)) rfl ?_
      refine lst_run (run_assign (by conv => lhs; whnf)) rfl ?_
      refine lst_run (run_assign (by conv => lhs; whnf)) rfl ?_
      refine lst_done ?_
      refine goes_seq ?_
      refine goes_seq ?_
      refine goes_region ?_
      refine lst_run (run_move (by conv => lhs; whnf)) rfl ?_
      refine lst_run (run_len_slice rfl rfl rfl) rfl ?_
      refine lst_run (run_move (by conv => lhs; whnf)) rfl ?_
      refine lst_done ?_
      refine goes_block ?_
      refine goes_loop2 111 24 (112 :: 113 :: 114 :: 28 :: 115 :: 116 :: 117 :: 118 :: 119 :: 120 :: 121 :: []) (fun (Q : List Int) v u w' => ∃ (E : List Int) (Az : Option Addr) (cz : Nat) (O : List (Nat × Obj)), R = E ++ Q ∧ v = .int .i64 (E.length : Nat) ∧ u = .slice Az E.length cz ∧ Rw 3 1 (.slice Az E.length cz) E.length (intsV (E.map (rkI Mk))) O ∧ St M w0 ((b4, hob Aa (collL Mk h.cs).length ca Ab ((kept h.tr (h.tr.map (markAt Mk))).map (rkI Mk)).length cb) :: (b3, .cells [.slice A2 Mk.length c2].toArray 43) :: (b2, hob none 0 0 none 0 0) :: (b1, hob A h.cs.length c B h.tr.length d) :: (O ++ H)) F4 w') (fun Q => Q.length) (R) ?_ (by conv => lhs; whnf) (by conv => lhs; whnf) ?_
      · exact ⟨[], none, 0, [], rfl, rfl, rfl, Rw.zero_, hS⟩
      clear hS
      rintro Q _ _ w4 jv4 ⟨E4, Az4, cz4, O, hE4, rfl, rfl, hrow, hS⟩ ih4
      have hlen4 : R.length = E4.length + Q.length := by rw [hE4]; simp
      cases Q with
      | cons x Q =>
        simp only [List.length_cons] at hlen4
        have hxi : R[E4.length]? = some x := by rw [hE4]; simp
        obtain ⟨bt, ot, rfl⟩ := (hS.und (hR2.mono hf4)).some_ (by omega)
        have hct : ∀ {H'} w', St M w0 H' F4 w' → w'.cell? ⟨bt, ot + ((E4.length : Nat) : Int).toNat * 1, none⟩ = some (.int .i64 x) := fun w' hS => by
          have := (hS.und (hR2.mono hf4)).int hxi
          rw [show ((E4.length : Nat) : Int).toNat = E4.length by omega]; exact this
        refine goes_seq ?_
        refine goes_region ?_
        first
          | refine lst_run (run_lss_yes rfl rfl (by omega)) rfl ?_
          | refine lst_run (run_lss_no rfl rfl (by omega)) rfl ?_
          | refine lst_run (rfl) rfl ?_
        refine lst_done ?_
        refine goes_seq ?_
        refine goes_true rfl ?_
        refine goes_skip ?_
        refine goes_seq ?_
        refine goes_block ?_
        refine goes_seq ?_
        refine goes_region ?_
        refine lst_run (run_indexAddr (sz := 1) rfl rfl rfl rfl (by omega) (by omega)) rfl ?_
        first
          | refine lst_run (run_load1_own hS rfl rfl (by first | exact .head | exact .tail .head | exact .tail (.tail .head) | exact .tail (.tail (.tail .head)) | exact .tail (.tail (.tail (.tail .head))) | exact .tail (.tail (.tail (.tail (.tail .head))))) (by repeat constructor)) rfl ?_
          | refine lst_run (run_load1 rfl rfl (by first | assumption | exact hct _ hS | exact hS.cell0 (by assumption) | exact lv_next hS | exact lv_list hS)) rfl ?_
        refine lst_run (run_assign (by conv => lhs; whnf)) rfl ?_
        refine lst_done ?_
        refine goes_region ?_
        refine lst_run (run_move (by conv => lhs; whnf)) rfl ?_
        refine lst_run (run_move (by conv => lhs; whnf)) rfl ?_
        refine lst_run (run_move (by conv => lhs; whnf)) rfl ?_
        refine lst_enter (run_callv rfl (by kernel_rfl) (args_1 (by conv => lhs; whnf))) rfl ?_
        refine Calls.mono (hah x hf4 hS (.tail _ (.head _))) ?_
        rintro _ wc4 ⟨rfl, hbc4⟩
        refine ⟨_, rfl, ?_⟩
        replace hS := hS.grow hbc4
        refine lst_buildSlice (cells := [_]) hS (.cons (by conv => lhs; whnf) .nil) rfl rfl ?_
        clear hS
        intro b5 wx6 hS
        refine lst_appI (L := [rkI Mk x]) hS (by conv => lhs; whnf) (by rfl) rfl rfl rfl (Flat.own (sp := []) (hS.own (_, _) (.head _)) rfl (Nat.le_refl _)) hrow (List.perm_append_comm_assoc [_, _, _, _, _] O _) (by simp; omega) rfl ?_
        clear hS
        intro v7 O7 w7 hrow7 hS
        obtain ⟨B7, d7, rfl, _⟩ := hrow7.form
        replace hS := hS.perm (List.perm_append_comm_assoc O7 [_, _, _, _, _] _)
        refine lst_run (run_assign (by conv => lhs; whnf)) rfl ?_
        refine lst_done ?_
        refine goes_inBlock ?_
        refine goes_region ?_
        refine lst_run (run_add rfl rfl (by omega) (by omega)) rfl ?_
        refine lst_run (run_move (by conv => lhs; whnf)) rfl ?_
        refine lst_done ?_
        refine ih4 Q _ _ _ _ ?_ ?_ (by conv => lhs; whnf) (by conv => lhs; whnf) (by kernel_rfl)
        · simp
        · refine ⟨E4 ++ [x], B7, d7, O7, by rw [hE4]; simp, by simp, by simp, ?_, hS.drop⟩
          rw [List.length_append, List.map_append, show ∀ (p q : List Int), intsV (p ++ q) = intsV p ++ intsV q from fun p q => by simp [intsV]]; exact hrow7
      | nil =>
      simp only [List.length_nil] at hlen4
      have hED4 : R = E4 := by simpa using hE4
      have hmap4 : (R.map (rkI Mk)).length = E4.length := by rw [hED4]; simp
      have hSz := St.freezeR hrow (hS.perm (List.perm_append_comm_assoc [_, _, _, _] O _))
      replace hS := hSz
      clear hSz
      rw [← hED4] at hS
      refine goes_seq ?_
      refine goes_region ?_
      first
        | refine lst_run (run_lss_yes rfl rfl (by omega)) rfl ?_
        | refine lst_run (run_lss_no rfl rfl (by omega)) rfl ?_
        | refine lst_run (rfl) rfl ?_
      refine lst_done ?_
      refine goes_seq ?_
      refine goes_false rfl ?_
      refine goes_exit rfl ?_
      refine goes_seq ?_
      refine goes_seq ?_
      refine goes_region ?_
      refine lst_run (run_move (by conv => lhs; whnf)) rfl ?_
      refine lst_run (run_len_slice rfl rfl rfl) rfl ?_
      refine lst_run (run_move (by conv => lhs; whnf)) rfl ?_
      refine lst_done ?_
      refine goes_block ?_
      have hD4 : Und (Flat 1 (intsV (R.map (rkI Mk))) Az4 R.length cz4 :: F4) (Flat 1 (intsV (R.map (rkI Mk))) Az4 R.length cz4) := Und.head
      have hg4 : ∀ φ ∈ F4, φ ∈ (Flat 1 (intsV (R.map (rkI Mk))) Az4 R.length cz4 :: F4) := fun φ h => .tail _ h
      generalize (Flat 1 (intsV (R.map (rkI Mk))) Az4 R.length cz4 :: F4) = F5 at *
      have hf5 : ∀ φ ∈ F2, φ ∈ F5 := fun φ h => hg4 φ (hf4 φ h)
      refine goes_loop2 124 25 (125 :: 126 :: 127 :: 30 :: 128 :: 129 :: 130 :: 131 :: 132 :: 133 :: 134 :: []) (fun (Q : List Int) v u w' => ∃ (E : List Int) (Az : Option Addr) (cz : Nat) (O : List (Nat × Obj)), T = E ++ Q ∧ v = .int .i64 (E.length : Nat) ∧ u = .slice Az E.length cz ∧ Rw 3 1 (.slice Az E.length cz) E.length (intsV (E.map (rkI Mk))) O ∧ St M w0 ((b4, hob Aa (collL Mk h.cs).length ca Ab ((kept h.tr (h.tr.map (markAt Mk))).map (rkI Mk)).length cb) :: (b3, .cells [.slice A2 Mk.length c2].toArray 43) :: (b2, hob none 0 0 none 0 0) :: (b1, hob A h.cs.length c B h.tr.length d) :: (O ++ H)) F5 w') (fun Q => Q.length) (T) ?_ (by conv => lhs; whnf) (by conv => lhs; whnf) ?_
      · exact ⟨[], none, 0, [], rfl, rfl, rfl, Rw.zero_, hS⟩
      clear hS
      rintro Q _ _ w5 jv5 ⟨E5, Az5, cz5, O, hE5, rfl, rfl, hrow, hS⟩ ih5
      have hlen5 : T.length = E5.length + Q.length := by rw [hE5]; simp
      cases Q with
      | cons x Q =>
        simp only [List.length_cons] at hlen5
        have hxi : T[E5.length]? = some x := by rw [hE5]; simp
        obtain ⟨bt, ot, rfl⟩ := (hS.und (hT2.mono hf5)).some_ (by omega)
        have hct : ∀ {H'} w', St M w0 H' F5 w' → w'.cell? ⟨bt, ot + ((E5.length : Nat) : Int).toNat * 1, none⟩ = some (.int .i64 x) := fun w' hS => by
          have := (hS.und (hT2.mono hf5)).int hxi
          rw [show ((E5.length : Nat) : Int).toNat = E5.length by omega]; exact this
        refine goes_seq ?_
        refine goes_region ?_
        first
          | refine lst_run (run_lss_yes rfl rfl (by omega)) rfl ?_
          | refine lst_run (run_lss_no rfl rfl (by omega)) rfl ?_
          | refine lst_run (rfl) rfl ?_
        refine lst_done ?_
        refine goes_seq ?_
        refine goes_true rfl ?_
        refine goes_skip ?_
        refine goes_seq ?_
        refine goes_block ?_
        refine goes_seq ?_
        refine goes_region ?_
        refine lst_run (run_indexAddr (sz := 1) rfl rfl rfl rfl (by omega) (by omega)) rfl ?_
        first
          | refine lst_run (run_load1_own hS rfl rfl (by first | exact .head | exact .tail .head | exact .tail (.tail .head) | exact .tail (.tail (.tail .head)) | exact .tail (.tail (.tail (.tail .head))) | exact .tail (.tail (.tail (.tail (.tail .head))))) (by repeat constructor)) rfl ?_
          | refine lst_run (run_load1 rfl rfl (by first | assumption | exact hct _ hS | exact hS.cell0 (by assumption) | exact lv_next hS | exact lv_list hS)) rfl ?_
        refine lst_run (run_assign (by conv => lhs; whnf)) rfl ?_
        refine lst_done ?_
        refine goes_region ?_
        refine lst_run (run_move (by conv => lhs; whnf)) rfl ?_
        refine lst_run (run_move (by conv => lhs; whnf)) rfl ?_
        refine lst_run (run_move (by conv => lhs; whnf)) rfl ?_
        refine lst_enter (run_callv rfl (by kernel_rfl) (args_1 (by conv => lhs; whnf))) rfl ?_
        refine Calls.mono (hah x hf5 hS (.tail _ (.head _))) ?_
        rintro _ wc5 ⟨rfl, hbc5⟩
        refine ⟨_, rfl, ?_⟩
        replace hS := hS.grow hbc5
        refine lst_buildSlice (cells := [_]) hS (.cons (by conv => lhs; whnf) .nil) rfl rfl ?_
        clear hS
        intro b5 wx6 hS
        refine lst_appI (L := [rkI Mk x]) hS (by conv => lhs; whnf) (by rfl) rfl rfl rfl (Flat.own (sp := []) (hS.own (_, _) (.head _)) rfl (Nat.le_refl _)) hrow (List.perm_append_comm_assoc [_, _, _, _, _] O _) (by simp; omega) rfl ?_
        clear hS
        intro v7 O7 w7 hrow7 hS
        obtain ⟨B7, d7, rfl, _⟩ := hrow7.form
        replace hS := hS.perm (List.perm_append_comm_assoc O7 [_, _, _, _, _] _)
        refine lst_run (run_assign (by conv => lhs; whnf)) rfl ?_
        refine lst_done ?_
        refine goes_inBlock ?_
        refine goes_region ?_
        refine lst_run (run_add rfl rfl (by omega) (by omega)) rfl ?_
        refine lst_run (run_move (by conv => lhs; whnf)) rfl ?_
        refine lst_done ?_
        refine ih5 Q _ _ _ _ ?_ ?_ (by conv => lhs; whnf) (by conv => lhs; whnf) (by kernel_rfl)
        · simp
        · refine ⟨E5 ++ [x], B7, d7, O7, by rw [hE5]; simp, by simp, by simp, ?_, hS.drop⟩
          rw [List.length_append, List.map_append, show ∀ (p q : List Int), intsV (p ++ q) = intsV p ++ intsV q from fun p q => by simp [intsV]]; exact hrow7
      | nil =>
      simp only [List.length_nil] at hlen5
      have hED5 : T = E5 := by simpa using hE5
      have hmap5 : (T.map (rkI Mk)).length = E5.length := by rw [hED5]; simp
      have hSz := St.freezeR hrow (hS.perm (List.perm_append_comm_assoc [_, _, _, _] O _))
      replace hS := hSz
      clear hSz
      rw [← hED5] at hS
      refine goes_seq ?_
      refine goes_region ?_
      first
        | refine lst_run (run_lss_yes rfl rfl (by omega)) rfl ?_
        | refine lst_run (run_lss_no rfl rfl (by omega)) rfl ?_
        | refine lst_run (rfl) rfl ?_
      refine lst_done ?_
      refine goes_seq ?_
      refine goes_false rfl ?_
      refine goes_exit rfl ?_
      refine goes_seq ?_
      refine goes_seq ?_
      refine goes_region ?_
      refine lst_run (run_move (by conv => lhs; whnf)) rfl ?_
      refine lst_run (run_len_slice rfl rfl rfl) rfl ?_
      refine lst_run (run_move (by conv => lhs; whnf)) rfl ?_
      refine lst_done ?_
      refine goes_block ?_
      have hD5 : Und (Flat 1 (intsV (T.map (rkI Mk))) Az5 T.length cz5 :: F5) (Flat 1 (intsV (T.map (rkI Mk))) Az5 T.length cz5) := Und.head
      have hg5 : ∀ φ ∈ F5, φ ∈ (Flat 1 (intsV (T.map (rkI Mk))) Az5 T.length cz5 :: F5) := fun φ h => .tail _ h
      generalize (Flat 1 (intsV (T.map (rkI Mk))) Az5 T.length cz5 :: F5) = F6 at *
      have hf6 : ∀ φ ∈ F2, φ ∈ F6 := fun φ h => hg5 φ (hf5 φ h)
      refine goes_loop2 137 26 (138 :: 139 :: 140 :: 32 :: 141 :: 142 :: 143 :: 144 :: 145 :: 146 :: 147 :: []) (fun (Q : List Int) v u w' => ∃ (E : List Int) (Az : Option Addr) (cz : Nat) (O : List (Nat × Obj)), K = E ++ Q ∧ v = .int .i64 (E.length : Nat) ∧ u = .slice Az E.length cz ∧ Rw 3 1 (.slice Az E.length cz) E.length (intsV (E.map (rkI (h.tr.map (markAt Mk))))) O ∧ St M w0 ((b4, hob Aa (collL Mk h.cs).length ca Ab ((kept h.tr (h.tr.map (markAt Mk))).map (rkI Mk)).length cb) :: (b3, .cells [.slice A2 Mk.length c2].toArray 43) :: (b2, hob none 0 0 none 0 0) :: (b1, hob A h.cs.length c B h.tr.length d) :: (O ++ H)) F6 w') (fun Q => Q.length) (K) ?_ (by conv => lhs; whnf) (by conv => lhs; whnf) ?_
      · exact ⟨[], none, 0, [], rfl, rfl, rfl, Rw.zero_, hS⟩
      clear hS
      rintro Q _ _ w6 jv6 ⟨E6, Az6, cz6, O, hE6, rfl, rfl, hrow, hS⟩ ih6
      have hlen6 : K.length = E6.length + Q.length := by rw [hE6]; simp
      cases Q with
      | cons x Q =>
        simp only [List.length_cons] at hlen6
        have hxi : K[E6.length]? = some x := by rw [hE6]; simp
        obtain ⟨bt, ot, rfl⟩ := (hS.und (hK2.mono hf6)).some_ (by omega)
        have hct : ∀ {H'} w', St M w0 H' F6 w' → w'.cell? ⟨bt, ot + ((E6.length : Nat) : Int).toNat * 1, none⟩ = some (.int .i64 x) := fun w' hS => by
          have := (hS.und (hK2.mono hf6)).int hxi
          rw [show ((E6.length : Nat) : Int).toNat = E6.length by omega]; exact this
        refine goes_seq ?_
        refine goes_region ?_
        first
          | refine lst_run (run_lss_yes rfl rfl (by omega)) rfl ?_
          | refine lst_run (run_lss_no rfl rfl (by omega)) rfl ?_
          | refine lst_run (rfl) rfl ?_
        refine lst_done ?_
        refine goes_seq ?_
        refine goes_true rfl ?_
        refine goes_skip ?_
        refine goes_seq ?_
        refine goes_block ?_
        refine goes_seq ?_
        refine goes_region ?_
        refine lst_run (run_indexAddr (sz := 1) rfl rfl rfl rfl (by omega) (by omega)) rfl ?_
        first
          | refine lst_run (run_load1_own hS rfl rfl (by first | exact .head | exact .tail .head | exact .tail (.tail .head) | exact .tail (.tail (.tail .head)) | exact .tail (.tail (.tail (.tail .head))) | exact .tail (.tail (.tail (.tail (.tail .head))))) (by repeat constructor)) rfl ?_
          | refine lst_run (run_load1 rfl rfl (by first | assumption | exact hct _ hS | exact hS.cell0 (by assumption) | exact lv_next hS | exact lv_list hS)) rfl ?_
        refine lst_run (run_assign (by conv => lhs; whnf)) rfl ?_
        refine lst_done ?_
        refine goes_region ?_
        refine lst_run (run_move (by conv => lhs; whnf)) rfl ?_
        refine lst_run (run_move (by conv => lhs; whnf)) rfl ?_
        refine lst_run (run_move (by conv => lhs; whnf)) rfl ?_
        refine lst_enter (run_callv rfl (by kernel_rfl) (args_1 (by conv => lhs; whnf))) rfl ?_
        refine Calls.mono (hke x hf6 hS (.tail _ (.head _)) (.tail _ (.tail _ (.tail _ (.head _))))) ?_
        rintro _ wc6 ⟨rfl, hbc6⟩
        refine ⟨_, rfl, ?_⟩
        replace hS := hS.grow hbc6
        refine lst_buildSlice (cells := [_]) hS (.cons (by conv => lhs; whnf) .nil) rfl rfl ?_
        clear hS
        intro b5 wx6 hS
        refine lst_appI (L := [rkI (h.tr.map (markAt Mk)) x]) hS (by conv => lhs; whnf) (by rfl) rfl rfl rfl (Flat.own (sp := []) (hS.own (_, _) (.head _)) rfl (Nat.le_refl _)) hrow (List.perm_append_comm_assoc [_, _, _, _, _] O _) (by simp; omega) rfl ?_
        clear hS
        intro v7 O7 w7 hrow7 hS
        obtain ⟨B7, d7, rfl, _⟩ := hrow7.form
        replace hS := hS.perm (List.perm_append_comm_assoc O7 [_, _, _, _, _] _)
        refine lst_run (run_assign (by conv => lhs; whnf)) rfl ?_
        refine lst_done ?_
        refine goes_inBlock ?_
        refine goes_region ?_
        refine lst_run (run_add rfl rfl (by omega) (by omega)) rfl ?_
        refine lst_run (run_move (by conv => lhs; whnf)) rfl ?_
        refine lst_done ?_
        refine ih6 Q _ _ _ _ ?_ ?_ (by conv => lhs; whnf) (by conv => lhs; whnf) (by kernel_rfl)
        · simp
        · refine ⟨E6 ++ [x], B7, d7, O7, by rw [hE6]; simp, by simp, by simp, ?_, hS.drop⟩
          rw [List.length_append, List.map_append, show ∀ (p q : List Int), intsV (p ++ q) = intsV p ++ intsV q from fun p q => by simp [intsV]]; exact hrow7
      | nil =>
      simp only [List.length_nil] at hlen6
      have hED6 : K = E6 := by simpa using hE6
      have hmap6 : (K.map (rkI (h.tr.map (markAt Mk)))).length = E6.length := by rw [hED6]; simp
      have hSz := St.freezeR hrow (hS.perm (List.perm_append_comm_assoc [_, _, _, _] O _))
      replace hS := hSz
      clear hSz
      rw [← hED6] at hS
      refine goes_seq ?_
      refine goes_region ?_
      first
        | refine lst_run (run_lss_yes rfl rfl (by omega)) rfl ?_
        | refine lst_run (run_lss_no rfl rfl (by omega)) rfl ?_
        | refine lst_run (rfl) rfl ?_
      refine lst_done ?_
      refine goes_seq ?_
      refine goes_false rfl ?_
      refine goes_exit rfl ?_
      refine goes_seq ?_
      refine goes_region ?_
      first
        | refine lst_run (run_loadN_own (k := 2) hS rfl rfl rfl (by first | exact .head | exact .tail .head | exact .tail (.tail .head) | exact .tail (.tail (.tail .head)) | exact .tail (.tail (.tail (.tail .head))) | exact .tail (.tail (.tail (.tail (.tail .head))))) (by repeat constructor)) rfl ?_
        | refine lst_run (run_load2 rfl rfl rfl (by first | assumption | exact hct _ hS | exact hS.cell0 (by assumption)) (by first | assumption | exact hct _ hS | exact hS.cell0 (by assumption))) rfl ?_
      refine lst_run (run_move (by conv => lhs; whnf)) rfl ?_
      refine lst_run (run_move (by conv => lhs; whnf)) rfl ?_
      refine lst_run (run_move (by conv => lhs; whnf)) rfl ?_
      refine lst_storeN hS rfl (by conv => lhs; whnf) rfl rfl (by first | exact .head | exact .tail .head | exact .tail (.tail .head) | exact .tail (.tail (.tail .head)) | exact .tail (.tail (.tail (.tail .head))) | exact .tail (.tail (.tail (.tail (.tail .head))))) (by repeat constructor) (by first | exact .head | exact .tail .head | exact .tail (.tail .head) | exact .tail (.tail (.tail .head)) | exact .tail (.tail (.tail (.tail .head))) | exact .tail (.tail (.tail (.tail (.tail .head))))) ?_
      clear hS
      intro wx6 hS
      refine lst_run (run_assign (by conv => lhs; whnf)) rfl ?_
      refine lst_run (run_assign (by conv => lhs; whnf)) rfl ?_
      refine lst_run (run_assign (by conv => lhs; whnf)) rfl ?_
      refine lst_run (run_assign (by conv => lhs; whnf)) rfl ?_
      refine lst_done ?_
      have hD6 : Und (Flat 1 (intsV (K.map (rkI (h.tr.map (markAt Mk))))) Az6 K.length cz6 :: F6) (Flat 1 (intsV (K.map (rkI (h.tr.map (markAt Mk))))) Az6 K.length cz6) := Und.head
      have hg6 : ∀ φ ∈ F6, φ ∈ (Flat 1 (intsV (K.map (rkI (h.tr.map (markAt Mk))))) Az6 K.length cz6 :: F6) := fun φ h => .tail _ h
      generalize (Flat 1 (intsV (K.map (rkI (h.tr.map (markAt Mk))))) Az6 K.length cz6 :: F6) = F7 at *
      refine goes_retC5 (sz := 2) hS Try.func28 rfl rfl (by conv => lhs; whnf) (by conv => lhs; whnf) (by conv => lhs; whnf) (by conv => lhs; whnf) rfl rfl (by first | exact .head | exact .tail .head | exact .tail (.tail .head) | exact .tail (.tail (.tail .head)) | exact .tail (.tail (.tail (.tail .head))) | exact .tail (.tail (.tail (.tail (.tail .head))))) (by repeat constructor) ?_
      refine ⟨Aa, ca, Ab, cb, Az4, Az5, Az6, cz4, cz5, cz6, F7, ?_, fun φ h => hg6 φ (hf6 φ (hF2 φ h)), ?_, ?_, ?_, ?_, hS.drop.drop.drop.drop⟩
      · dsimp only
        rw [hmap4, hmap5, hmap6]; rfl
      · exact fun w' hw => ⟨(((hC3.mono hf34).mono hg4).mono fun φ h => hg6 φ (hg5 φ h)) w' hw, ((hC4.mono hg4).mono fun φ h => hg6 φ (hg5 φ h)) w' hw⟩
      · dsimp only; rw [List.length_map]; exact (hD4.mono hg5).mono hg6
      · dsimp only; rw [List.length_map]; exact hD5.mono hg6
      · dsimp only; rw [List.length_map]; exact hD6
end
end Go.Proofs.Ytjicoifjgokoiab
