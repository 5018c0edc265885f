/-
  The document's own reader of words: its front and a word taken, walked.
-/
import Derived.Test.YtdiophafmokfiaaGreatDoorRefW2
import Derived.Test.YtdiophafmokfiaaGreatDoorRWalk3
namespace Go.Proofs.YtdiophafmokfiaaGreatDoor
open Go.RowKit Go.Shelf
set_option linter.unusedVariables false
set_option linter.unusedSimpArgs false
set_option maxRecDepth 100000
set_option maxHeartbeats 1000000

/-- The parser's block. -/
abbrev psr (L V : Value) (bad : Bool) : Obj := .cells [L, V, .bool bad].toArray 50
section
variable {M : List Nat} {w0 : World} {H : List (Nat × Obj)} {F : List (World → Prop)} {b : Nat} {φ : World → Prop}
theorem front_any (p : PS) (L V : Value) (w : World) (hL : Sx φ L p.l) (hφ : φ ∈ F) (hS : St M w0 ((b, psr L V p.bad) :: H) F w) :
    Calls Tryz.prog 40 #[ptr b] w fun e w' => e = .returned (sv (p.l.headD [])) ∧ w' = w := by
  obtain ⟨l, vars, bad⟩ := p
  cases l with
  | nil =>
    obtain ⟨A, c, rfl, hc⟩ := hL.form
    refine goes_enter1 Tryz.func40 rfl Tryz.ntmps40 rfl ?_
    refine goes_seq ?_
    refine goes_region ?_
    refine lst_run (run_assign (by conv => lhs; whnf)) rfl ?_
    refine lst_done ?_
    refine goes_seq ?_
    refine goes_seq ?_
    refine goes_region ?_
    refine lst_run (run_move (by conv => lhs; whnf)) rfl ?_
    refine lst_run (run_nilCheck rfl) rfl ?_
    refine lst_run (run_fieldAddr (off := 0) rfl rfl) rfl ?_
    first
      | refine lst_run (run_load1_own hS rfl rfl (by first | exact .head | exact .tail .head | exact .tail (.tail .head) | exact .tail (.tail (.tail .head)) | exact .tail (.tail (.tail (.tail .head))) | exact .tail (.tail (.tail (.tail (.tail .head))))) (by repeat constructor)) rfl ?_
      | refine lst_run (run_load1 rfl rfl (by first | assumption | exact hS.cell0 (by assumption) | exact lv_next hS | exact lv_list hS)) rfl ?_
    refine lst_run (run_len_slice rfl rfl rfl) rfl ?_
    first
      | refine lst_run (run_eql_one_int rfl rfl) rfl ?_
      | refine lst_run (run_eql_no rfl rfl (by first | assumption | omega)) rfl ?_
      | refine lst_run (run_eql_yes rfl rfl (by omega)) rfl ?_
      | refine lst_run (rfl) rfl ?_
    refine lst_done ?_
    refine goes_true rfl ?_
    refine goes_seq ?_
    refine goes_region ?_
    refine lst_run (run_assign (by conv => lhs; whnf)) rfl ?_
    refine lst_done ?_
    refine goes_ret1 Tryz.func40 rfl (by conv => lhs; whnf) ?_
    exact ⟨rfl, rfl⟩
  | cons x r =>
    obtain ⟨A, c, rfl, hc⟩ := hL.form
    obtain ⟨_, _, b1, o1, rfl, hcell⟩ := hL.head
    have hc0 := hcell w (hS.fact hφ)
    have hc1 : w.cell? ⟨b1, o1 + (0 : Int).toNat * 1, none⟩ = some (sv x) := hc0
    simp only [List.length_cons] at hc
    refine goes_enter1 Tryz.func40 rfl Tryz.ntmps40 rfl ?_
    refine goes_seq ?_
    refine goes_region ?_
    refine lst_run (run_assign (by conv => lhs; whnf)) rfl ?_
    refine lst_done ?_
    refine goes_seq ?_
    refine goes_seq ?_
    refine goes_region ?_
    refine lst_run (run_move (by conv => lhs; whnf)) rfl ?_
    refine lst_run (run_nilCheck rfl) rfl ?_
    refine lst_run (run_fieldAddr (off := 0) rfl rfl) rfl ?_
    first
      | refine lst_run (run_load1_own hS rfl rfl (by first | exact .head | exact .tail .head | exact .tail (.tail .head) | exact .tail (.tail (.tail .head)) | exact .tail (.tail (.tail (.tail .head))) | exact .tail (.tail (.tail (.tail (.tail .head))))) (by repeat constructor)) rfl ?_
      | refine lst_run (run_load1 rfl rfl (by first | assumption | exact hS.cell0 (by assumption) | exact lv_next hS | exact lv_list hS)) rfl ?_
    refine lst_run (run_len_slice rfl rfl rfl) rfl ?_
    first
      | refine lst_run (run_eql_one_int rfl rfl) rfl ?_
      | refine lst_run (run_eql_no rfl rfl (by first | assumption | omega)) rfl ?_
      | refine lst_run (run_eql_yes rfl rfl (by omega)) rfl ?_
      | refine lst_run (rfl) rfl ?_
    refine lst_done ?_
    refine goes_false rfl ?_
    refine goes_skip ?_
    refine goes_seq ?_
    refine goes_region ?_
    refine lst_run (run_move (by conv => lhs; whnf)) rfl ?_
    refine lst_run (run_nilCheck rfl) rfl ?_
    refine lst_run (run_fieldAddr (off := 0) rfl rfl) rfl ?_
    first
      | refine lst_run (run_load1_own hS rfl rfl (by first | exact .head | exact .tail .head | exact .tail (.tail .head) | exact .tail (.tail (.tail .head)) | exact .tail (.tail (.tail (.tail .head))) | exact .tail (.tail (.tail (.tail (.tail .head))))) (by repeat constructor)) rfl ?_
      | refine lst_run (run_load1 rfl rfl (by first | assumption | exact hS.cell0 (by assumption) | exact lv_next hS | exact lv_list hS)) rfl ?_
    refine lst_run (run_indexAddr (sz := 1) rfl rfl rfl rfl (by omega) (by omega)) rfl ?_
    first
      | refine lst_run (run_load1_own hS rfl rfl (by first | exact .head | exact .tail .head | exact .tail (.tail .head) | exact .tail (.tail (.tail .head)) | exact .tail (.tail (.tail (.tail .head))) | exact .tail (.tail (.tail (.tail (.tail .head))))) (by repeat constructor)) rfl ?_
      | refine lst_run (run_load1 rfl rfl (by first | assumption | exact hS.cell0 (by assumption) | exact lv_next hS | exact lv_list hS)) rfl ?_
    refine lst_run (run_assign (by conv => lhs; whnf)) rfl ?_
    refine lst_done ?_
    refine goes_ret1 Tryz.func40 rfl (by conv => lhs; whnf) ?_
    exact ⟨rfl, rfl⟩
theorem takeP_any (p : PS) (t : Str) (L V : Value) (w : World) (hL : Sx φ L p.l) (hφ : φ ∈ F) (hS : St M w0 ((b, psr L V p.bad) :: H) F w) :
    Calls Tryz.prog 20 #[ptr b, sv t] w fun e w' => ∃ L', e = .returned (.bool (p.has t)) ∧ Sx φ L' (if p.has t then p.pop else p).l ∧ St M w0 ((b, psr L' V p.bad) :: H) F w' := by
  obtain ⟨l, vars, bad⟩ := p
  cases l with
  | nil =>
    obtain ⟨A, c, rfl, hc⟩ := hL.form
    refine goes_enter2 Tryz.func20 rfl Tryz.ntmps20 rfl ?_
    refine goes_seq ?_
    refine goes_region ?_
    refine lst_run (run_assign (by conv => lhs; whnf)) rfl ?_
    refine lst_done ?_
    refine goes_seq ?_
    refine goes_seq ?_
    refine goes_region ?_
    refine lst_run (run_move (by conv => lhs; whnf)) rfl ?_
    refine lst_run (run_nilCheck rfl) rfl ?_
    refine lst_run (run_fieldAddr (off := 0) rfl rfl) rfl ?_
    first
      | refine lst_run (run_load1_own hS rfl rfl (by first | exact .head | exact .tail .head | exact .tail (.tail .head) | exact .tail (.tail (.tail .head)) | exact .tail (.tail (.tail (.tail .head))) | exact .tail (.tail (.tail (.tail (.tail .head))))) (by repeat constructor)) rfl ?_
      | refine lst_run (run_load1 rfl rfl (by first | assumption | exact hS.cell0 (by assumption) | exact lv_next hS | exact lv_list hS)) rfl ?_
    refine lst_run (run_len_slice rfl rfl rfl) rfl ?_
    first
      | refine lst_run (run_gtr_yes rfl rfl (by omega)) rfl ?_
      | refine lst_run (run_gtr_no rfl rfl (by omega)) rfl ?_
      | refine lst_run (rfl) rfl ?_
    refine lst_run (run_move (by conv => lhs; whnf)) rfl ?_
    refine lst_pass rfl rfl rfl ?_
    refine lst_pass rfl rfl rfl ?_
    refine lst_pass rfl rfl rfl ?_
    refine lst_pass rfl rfl rfl ?_
    refine lst_pass rfl rfl rfl ?_
    refine lst_pass rfl rfl rfl ?_
    refine lst_pass rfl rfl rfl ?_
    refine lst_pass rfl rfl rfl ?_
    first
      | refine lst_run (run_pick_t rfl (by conv => lhs; whnf)) rfl ?_
      | refine lst_run (run_pick_f rfl (by conv => lhs; whnf)) rfl ?_
    refine lst_done ?_
    refine goes_false rfl ?_
    refine goes_skip ?_
    refine goes_seq ?_
    refine goes_region ?_
    refine lst_run (run_assign (by conv => lhs; whnf)) rfl ?_
    refine lst_done ?_
    refine goes_ret1 Tryz.func20 rfl (by conv => lhs; whnf) ?_
    exact ⟨_, rfl, hL, hS⟩
  | cons x r =>
    obtain ⟨A, c, rfl, hc⟩ := hL.form
    obtain ⟨_, _, b1, o1, rfl, hcell⟩ := hL.head
    have hc0 := hcell w (hS.fact hφ)
    have hc1 : w.cell? ⟨b1, o1 + (0 : Int).toNat * 1, none⟩ = some (sv x) := hc0
    simp only [List.length_cons] at hc
    have hx : (x == t) = (PS.mk (x :: r) vars bad).has t := by simp [PS.has]
    cases hh : (PS.mk (x :: r) vars bad).has t with
    | true =>
      rw [hh] at hx
      refine goes_enter2 Tryz.func20 rfl Tryz.ntmps20 rfl ?_
      refine goes_seq ?_
      refine goes_region ?_
      refine lst_run (run_assign (by conv => lhs; whnf)) rfl ?_
      refine lst_done ?_
      refine goes_seq ?_
      refine goes_seq ?_
      refine goes_region ?_
      refine lst_run (run_move (by conv => lhs; whnf)) rfl ?_
      refine lst_run (run_nilCheck rfl) rfl ?_
      refine lst_run (run_fieldAddr (off := 0) rfl rfl) rfl ?_
      first
        | refine lst_run (run_load1_own hS rfl rfl (by first | exact .head | exact .tail .head | exact .tail (.tail .head) | exact .tail (.tail (.tail .head)) | exact .tail (.tail (.tail (.tail .head))) | exact .tail (.tail (.tail (.tail (.tail .head))))) (by repeat constructor)) rfl ?_
        | refine lst_run (run_load1 rfl rfl (by first | assumption | exact hS.cell0 (by assumption) | exact lv_next hS | exact lv_list hS)) rfl ?_
      refine lst_run (run_len_slice rfl rfl rfl) rfl ?_
      first
        | refine lst_run (run_gtr_yes rfl rfl (by omega)) rfl ?_
        | refine lst_run (run_gtr_no rfl rfl (by omega)) rfl ?_
        | refine lst_run (rfl) rfl ?_
      refine lst_run (run_move (by conv => lhs; whnf)) rfl ?_
      refine lst_guard rfl rfl ?_
      refine lst_run (run_move (by conv => lhs; whnf)) rfl ?_
      refine lst_guard rfl rfl ?_
      refine lst_run (run_nilCheck rfl) rfl ?_
      refine lst_guard rfl rfl ?_
      refine lst_run (run_fieldAddr (off := 0) rfl rfl) rfl ?_
      refine lst_guard rfl rfl ?_
      first
        | refine lst_run (run_load1_own hS rfl rfl (by first | exact .head | exact .tail .head | exact .tail (.tail .head) | exact .tail (.tail (.tail .head)) | exact .tail (.tail (.tail (.tail .head))) | exact .tail (.tail (.tail (.tail (.tail .head))))) (by repeat constructor)) rfl ?_
        | refine lst_run (run_load1 rfl rfl (by first | assumption | exact hS.cell0 (by assumption) | exact lv_next hS | exact lv_list hS)) rfl ?_
      refine lst_guard rfl rfl ?_
      refine lst_run (run_indexAddr (sz := 1) rfl rfl rfl rfl (by omega) (by omega)) rfl ?_
      refine lst_guard rfl rfl ?_
      first
        | refine lst_run (run_load1_own hS rfl rfl (by first | exact .head | exact .tail .head | exact .tail (.tail .head) | exact .tail (.tail (.tail .head)) | exact .tail (.tail (.tail (.tail .head))) | exact .tail (.tail (.tail (.tail (.tail .head))))) (by repeat constructor)) rfl ?_
        | refine lst_run (run_load1 rfl rfl (by first | assumption | exact hS.cell0 (by assumption) | exact lv_next hS | exact lv_list hS)) rfl ?_
      refine lst_guard rfl rfl ?_
      refine lst_run (run_move (by conv => lhs; whnf)) rfl ?_
      refine lst_guard rfl rfl ?_
      first
        | refine lst_run (run_eql_str rfl rfl) rfl ?_
        | refine lst_run (rfl) rfl ?_
      first
        | refine lst_run (run_pick_t rfl (by conv => lhs; whnf)) rfl ?_
        | refine lst_run (run_pick_f rfl (by conv => lhs; whnf)) rfl ?_
      refine lst_done ?_
      rw [hx]
      refine goes_true rfl ?_
      refine goes_seq ?_
      refine goes_region ?_
      refine lst_run (run_move (by conv => lhs; whnf)) rfl ?_
      refine lst_run (run_move (by conv => lhs; whnf)) rfl ?_
      refine lst_run (run_nilCheck rfl) rfl ?_
      refine lst_run (run_fieldAddr (off := 0) rfl rfl) rfl ?_
      first
        | refine lst_run (run_load1_own hS rfl rfl (by first | exact .head | exact .tail .head | exact .tail (.tail .head) | exact .tail (.tail (.tail .head)) | exact .tail (.tail (.tail (.tail .head))) | exact .tail (.tail (.tail (.tail (.tail .head))))) (by repeat constructor)) rfl ?_
        | refine lst_run (run_load1 rfl rfl (by first | assumption | exact hS.cell0 (by assumption) | exact lv_next hS | exact lv_list hS)) rfl ?_
      refine lst_run (run_slice_rest (sz := 1) rfl rfl rfl rfl (by omega) (by omega)) rfl ?_
      refine lst_run (run_nilCheck rfl) rfl ?_
      refine lst_run (run_fieldAddr (off := 0) rfl rfl) rfl ?_
      refine lst_store1 hS rfl (by conv => lhs; whnf) rfl rfl (by first | exact .head | exact .tail .head | exact .tail (.tail .head) | exact .tail (.tail (.tail .head)) | exact .tail (.tail (.tail (.tail .head))) | exact .tail (.tail (.tail (.tail (.tail .head))))) (by repeat constructor) (by first | exact .head | exact .tail .head | exact .tail (.tail .head) | exact .tail (.tail (.tail .head)) | exact .tail (.tail (.tail (.tail .head))) | exact .tail (.tail (.tail (.tail (.tail .head))))) ?_
      clear hS
      intro wx1 hS
      refine lst_done ?_
      refine goes_seq ?_
      refine goes_region ?_
      refine lst_run (run_assign (by conv => lhs; whnf)) rfl ?_
      refine lst_done ?_
      refine goes_ret1 Tryz.func20 rfl (by conv => lhs; whnf) ?_
      exact ⟨_, rfl, hL.tail, hS⟩
    | false =>
      rw [hh] at hx
      refine goes_enter2 Tryz.func20 rfl Tryz.ntmps20 rfl ?_
      refine goes_seq ?_
      refine goes_region ?_
      refine lst_run (run_assign (by conv => lhs; whnf)) rfl ?_
      refine lst_done ?_
      refine goes_seq ?_
      refine goes_seq ?_
      refine goes_region ?_
      refine lst_run (run_move (by conv => lhs; whnf)) rfl ?_
      refine lst_run (run_nilCheck rfl) rfl ?_
      refine lst_run (run_fieldAddr (off := 0) rfl rfl) rfl ?_
      first
        | refine lst_run (run_load1_own hS rfl rfl (by first | exact .head | exact .tail .head | exact .tail (.tail .head) | exact .tail (.tail (.tail .head)) | exact .tail (.tail (.tail (.tail .head))) | exact .tail (.tail (.tail (.tail (.tail .head))))) (by repeat constructor)) rfl ?_
        | refine lst_run (run_load1 rfl rfl (by first | assumption | exact hS.cell0 (by assumption) | exact lv_next hS | exact lv_list hS)) rfl ?_
      refine lst_run (run_len_slice rfl rfl rfl) rfl ?_
      first
        | refine lst_run (run_gtr_yes rfl rfl (by omega)) rfl ?_
        | refine lst_run (run_gtr_no rfl rfl (by omega)) rfl ?_
        | refine lst_run (rfl) rfl ?_
      refine lst_run (run_move (by conv => lhs; whnf)) rfl ?_
      refine lst_guard rfl rfl ?_
      refine lst_run (run_move (by conv => lhs; whnf)) rfl ?_
      refine lst_guard rfl rfl ?_
      refine lst_run (run_nilCheck rfl) rfl ?_
      refine lst_guard rfl rfl ?_
      refine lst_run (run_fieldAddr (off := 0) rfl rfl) rfl ?_
      refine lst_guard rfl rfl ?_
      first
        | refine lst_run (run_load1_own hS rfl rfl (by first | exact .head | exact .tail .head | exact .tail (.tail .head) | exact .tail (.tail (.tail .head)) | exact .tail (.tail (.tail (.tail .head))) | exact .tail (.tail (.tail (.tail (.tail .head))))) (by repeat constructor)) rfl ?_
        | refine lst_run (run_load1 rfl rfl (by first | assumption | exact hS.cell0 (by assumption) | exact lv_next hS | exact lv_list hS)) rfl ?_
      refine lst_guard rfl rfl ?_
      refine lst_run (run_indexAddr (sz := 1) rfl rfl rfl rfl (by omega) (by omega)) rfl ?_
      refine lst_guard rfl rfl ?_
      first
        | refine lst_run (run_load1_own hS rfl rfl (by first | exact .head | exact .tail .head | exact .tail (.tail .head) | exact .tail (.tail (.tail .head)) | exact .tail (.tail (.tail (.tail .head))) | exact .tail (.tail (.tail (.tail (.tail .head))))) (by repeat constructor)) rfl ?_
        | refine lst_run (run_load1 rfl rfl (by first | assumption | exact hS.cell0 (by assumption) | exact lv_next hS | exact lv_list hS)) rfl ?_
      refine lst_guard rfl rfl ?_
      refine lst_run (run_move (by conv => lhs; whnf)) rfl ?_
      refine lst_guard rfl rfl ?_
      first
        | refine lst_run (run_eql_str rfl rfl) rfl ?_
        | refine lst_run (rfl) rfl ?_
      first
        | refine lst_run (run_pick_t rfl (by conv => lhs; whnf)) rfl ?_
        | refine lst_run (run_pick_f rfl (by conv => lhs; whnf)) rfl ?_
      refine lst_done ?_
      rw [hx]
      refine goes_false rfl ?_
      refine goes_skip ?_
      refine goes_seq ?_
      refine goes_region ?_
      refine lst_run (run_assign (by conv => lhs; whnf)) rfl ?_
      refine lst_done ?_
      refine goes_ret1 Tryz.func20 rfl (by conv => lhs; whnf) ?_
      exact ⟨_, rfl, hL, hS⟩
end
end Go.Proofs.YtdiophafmokfiaaGreatDoor
