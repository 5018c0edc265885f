/-
  The reader's steps, walked: fail, advance, take, newReader.
-/
import Derived.Test.YtdiophafmokfiaaDoorRWalk1
namespace Go.Proofs.YtdiophafmokfiaaDoor
open Go.RowKit
set_option linter.unusedVariables false
set_option maxRecDepth 100000
set_option maxHeartbeats 1000000

/-- The reader's block. -/
abbrev rdr (s : RS) (V : Value) : Obj := .cells [sv s.token, sv s.rest, V, .int .i64 s.err].toArray 83
abbrev ptr (b : Nat) : Value := .pointer (some ⟨b, 0, none⟩)
section
variable {M : List Nat} {w0 : World} {H : List (Nat × Obj)} {F : List (World → Prop)} {b : Nat} {A : Option Addr} {vl vc : Nat}

theorem fail_any (s : RS) (x : Int) (w : World) (hS : St M w0 ((b, rdr s (.slice A vl vc)) :: H) F w) :
    Calls Tryd.prog 53 #[ptr b, .int .i64 x] w fun e w' => e = .returned (.tuple #[]) ∧ St M w0 ((b, rdr (s.fail x) (.slice A vl vc)) :: H) F w' := by
  refine goes_enter2 Tryd.func53 rfl Tryd.ntmps53 rfl ?_
  refine goes_seq ?_
  refine goes_seq ?_
  refine goes_region ?_
  refine lst_run (run_move (by conv => lhs; whnf)) rfl ?_
  refine lst_run (run_nilCheck rfl) rfl ?_
  refine lst_run (run_fieldAddr (off := 3) rfl rfl) rfl ?_
  first
    | refine lst_run (run_load1_own hS rfl rfl (by first | exact .head | exact .tail .head | exact .tail (.tail .head) | exact .tail (.tail (.tail .head)) | exact .tail (.tail (.tail (.tail .head))) | exact .tail (.tail (.tail (.tail (.tail .head))))) (by repeat constructor)) rfl ?_
    | refine lst_run (run_load1 rfl rfl (by first | assumption | exact hS.cell0 (by assumption) | exact lv_next hS | exact lv_list hS)) rfl ?_
  first
    | refine lst_run (run_eql_one_int rfl rfl) rfl ?_
    | refine lst_run (run_eql_no rfl rfl (by first | assumption | omega)) rfl ?_
    | refine lst_run (run_eql_yes rfl rfl (by omega)) rfl ?_
    | refine lst_run (rfl) rfl ?_
  refine lst_done ?_
  refine goes_if rfl (fun h => ?_) (fun h => ?_)
  · have h' : s.err = 0 := by simpa using h
    refine goes_region ?_
    refine lst_run (run_move (by conv => lhs; whnf)) rfl ?_
    refine lst_run (run_move (by conv => lhs; whnf)) rfl ?_
    refine lst_run (run_nilCheck rfl) rfl ?_
    refine lst_run (run_fieldAddr (off := 3) rfl rfl) rfl ?_
    refine lst_store1 hS rfl (by conv => lhs; whnf) rfl rfl (by first | exact .head | exact .tail .head | exact .tail (.tail .head) | exact .tail (.tail (.tail .head)) | exact .tail (.tail (.tail (.tail .head))) | exact .tail (.tail (.tail (.tail (.tail .head))))) (by repeat constructor) (by first | exact .head | exact .tail .head | exact .tail (.tail .head) | exact .tail (.tail (.tail .head)) | exact .tail (.tail (.tail (.tail .head))) | exact .tail (.tail (.tail (.tail (.tail .head))))) ?_
    clear hS
    intro wx1 hS
    refine lst_done ?_
    refine goes_region ?_
    refine lst_run (run_move (by conv => lhs; whnf)) rfl ?_
    refine lst_run (run_move (by conv => lhs; whnf)) rfl ?_
    refine lst_run (run_nilCheck rfl) rfl ?_
    refine lst_run (run_fieldAddr (off := 0) rfl rfl) rfl ?_
    refine lst_store1 hS rfl (by conv => lhs; whnf) rfl rfl (by first | exact .head | exact .tail .head | exact .tail (.tail .head) | exact .tail (.tail (.tail .head)) | exact .tail (.tail (.tail (.tail .head))) | exact .tail (.tail (.tail (.tail (.tail .head))))) (by repeat constructor) (by first | exact .head | exact .tail .head | exact .tail (.tail .head) | exact .tail (.tail (.tail .head)) | exact .tail (.tail (.tail (.tail .head))) | exact .tail (.tail (.tail (.tail (.tail .head))))) ?_
    clear hS
    intro wx2 hS
    refine lst_run (run_nilCheck rfl) rfl ?_
    refine lst_run (run_fieldAddr (off := 1) rfl rfl) rfl ?_
    refine lst_store1 hS rfl (by conv => lhs; whnf) rfl rfl (by first | exact .head | exact .tail .head | exact .tail (.tail .head) | exact .tail (.tail (.tail .head)) | exact .tail (.tail (.tail (.tail .head))) | exact .tail (.tail (.tail (.tail (.tail .head))))) (by repeat constructor) (by first | exact .head | exact .tail .head | exact .tail (.tail .head) | exact .tail (.tail (.tail .head)) | exact .tail (.tail (.tail (.tail .head))) | exact .tail (.tail (.tail (.tail (.tail .head))))) ?_
    clear hS
    intro wx3 hS
    refine lst_done ?_
    refine goes_end0 Tryd.func53 rfl ?_
    refine ⟨rfl, ?_⟩
    show St M w0 ((b, rdr ⟨[], [], s.vars, if s.err = 0 then x else s.err⟩ _) :: H) F _
    rw [if_pos h']; exact hS
  · have h' : ¬ s.err = 0 := by simpa using h
    refine goes_skip ?_
    refine goes_region ?_
    refine lst_run (run_move (by conv => lhs; whnf)) rfl ?_
    refine lst_run (run_move (by conv => lhs; whnf)) rfl ?_
    refine lst_run (run_nilCheck rfl) rfl ?_
    refine lst_run (run_fieldAddr (off := 0) rfl rfl) rfl ?_
    refine lst_store1 hS rfl (by conv => lhs; whnf) rfl rfl (by first | exact .head | exact .tail .head | exact .tail (.tail .head) | exact .tail (.tail (.tail .head)) | exact .tail (.tail (.tail (.tail .head))) | exact .tail (.tail (.tail (.tail (.tail .head))))) (by repeat constructor) (by first | exact .head | exact .tail .head | exact .tail (.tail .head) | exact .tail (.tail (.tail .head)) | exact .tail (.tail (.tail (.tail .head))) | exact .tail (.tail (.tail (.tail (.tail .head))))) ?_
    clear hS
    intro wx1 hS
    refine lst_run (run_nilCheck rfl) rfl ?_
    refine lst_run (run_fieldAddr (off := 1) rfl rfl) rfl ?_
    refine lst_store1 hS rfl (by conv => lhs; whnf) rfl rfl (by first | exact .head | exact .tail .head | exact .tail (.tail .head) | exact .tail (.tail (.tail .head)) | exact .tail (.tail (.tail (.tail .head))) | exact .tail (.tail (.tail (.tail (.tail .head))))) (by repeat constructor) (by first | exact .head | exact .tail .head | exact .tail (.tail .head) | exact .tail (.tail (.tail .head)) | exact .tail (.tail (.tail (.tail .head))) | exact .tail (.tail (.tail (.tail (.tail .head))))) ?_
    clear hS
    intro wx2 hS
    refine lst_done ?_
    refine goes_end0 Tryd.func53 rfl ?_
    refine ⟨rfl, ?_⟩
    show St M w0 ((b, rdr ⟨[], [], s.vars, if s.err = 0 then x else s.err⟩ _) :: H) F _
    rw [if_neg h']; exact hS
/-- What is asked of the library: white space is cut off. -/
def Lib2 : Prop := ∀ (l : Str) (w : World), l.length ≤ 1048576 → Calls Tryd.prog 92 #[sv l, sv [32, 10, 13, 9]] w fun e w' => e = .returned (sv (trimW l)) ∧ Below w.heap.size w w'
theorem adv_any (L1 : Lib1) (L2 : Lib2) (s : RS) (w : World) (hl : s.rest.length ≤ 1048576) (hS : St M w0 ((b, rdr s (.slice A vl vc)) :: H) F w) :
    Calls Tryd.prog 72 #[ptr b] w fun e w' => e = .returned (.tuple #[]) ∧ St M w0 ((b, rdr s.adv (.slice A vl vc)) :: H) F w' := by
  have h1 := trimW_le s.rest
  have h2 := tokLen_le (trimW s.rest)
  refine goes_enter1 Tryd.func72 rfl Tryd.ntmps72 rfl ?_
  refine goes_seq ?_
  refine goes_region ?_
  refine lst_run (run_move (by conv => lhs; whnf)) rfl ?_
  refine lst_run (run_nilCheck rfl) rfl ?_
  refine lst_run (run_fieldAddr (off := 1) rfl rfl) rfl ?_
  first
    | refine lst_run (run_load1_own hS rfl rfl (by first | exact .head | exact .tail .head | exact .tail (.tail .head) | exact .tail (.tail (.tail .head)) | exact .tail (.tail (.tail (.tail .head))) | exact .tail (.tail (.tail (.tail (.tail .head))))) (by repeat constructor)) rfl ?_
    | refine lst_run (run_load1 rfl rfl (by first | assumption | exact hS.cell0 (by assumption) | exact lv_next hS | exact lv_list hS)) rfl ?_
  refine lst_enter (run_call (by kernel_rfl) (args_2 (by conv => lhs; whnf) (by conv => lhs; whnf))) rfl ?_
  refine Calls.mono (L2 s.rest _ hl) ?_
  rintro _ w1 ⟨rfl, hb1⟩
  refine ⟨_, rfl, ?_⟩
  replace hS := hS.grow hb1
  refine lst_run (run_assign (by conv => lhs; whnf)) rfl ?_
  refine lst_done ?_
  refine goes_seq ?_
  refine goes_region ?_
  refine lst_run (run_move (by conv => lhs; whnf)) rfl ?_
  by_cases h0 : tokLen (trimW s.rest) = 0
  · refine lst_enter (run_call (by kernel_rfl) (args_1 (by conv => lhs; whnf))) rfl ?_
    refine Calls.mono (tokenLength_any L1 (trimW s.rest) _ (by omega)) ?_
    rintro _ w2 ⟨rfl, rfl⟩
    refine ⟨_, rfl, ?_⟩
    refine lst_run (run_assign (by conv => lhs; whnf)) rfl ?_
    refine lst_done ?_
    refine goes_seq ?_
    refine goes_seq ?_
    refine goes_region ?_
    refine lst_run (run_move (by conv => lhs; whnf)) rfl ?_
    first
      | refine lst_run (run_eql_one_int rfl rfl) rfl ?_
      | refine lst_run (run_eql_no rfl rfl (by first | assumption | omega)) rfl ?_
      | refine lst_run (run_eql_yes rfl rfl (by omega)) rfl ?_
      | refine lst_run (rfl) rfl ?_
    refine lst_run (run_move (by conv => lhs; whnf)) rfl ?_
    refine lst_guard rfl rfl ?_
    refine lst_run (run_move (by conv => lhs; whnf)) rfl ?_
    refine lst_guard rfl rfl ?_
    first
      | refine lst_run (run_neq_str rfl rfl) rfl ?_
      | refine lst_run (rfl) rfl ?_
    first
      | refine lst_run (run_pick_t rfl (by conv => lhs; whnf)) rfl ?_
      | refine lst_run (run_pick_f rfl (by conv => lhs; whnf)) rfl ?_
    refine lst_done ?_
    refine goes_if rfl (fun h => ?_) (fun h => ?_)
    · have h' : trimW s.rest ≠ [] := by simpa using h
      refine goes_seq ?_
      refine goes_region ?_
      refine lst_run (run_move (by conv => lhs; whnf)) rfl ?_
      refine lst_enter (run_call (by kernel_rfl) (args_2 (by conv => lhs; whnf) (by conv => lhs; whnf))) rfl ?_
      refine Calls.mono (fail_any s 1 _ hS) ?_
      rintro _ w3 ⟨rfl, hS'⟩
      refine ⟨_, rfl, ?_⟩
      replace hS := hS'
      clear hS'
      refine lst_done ?_
      refine goes_ret0 Tryd.func72 rfl  ?_
      refine ⟨rfl, ?_⟩
      have e : s.adv = s.fail 1 := by simp only [RS.adv]; rw [if_pos ⟨h0, h'⟩]
      rw [e]; exact hS
    · have h' : trimW s.rest = [] := by simpa using h
      refine goes_skip ?_
      refine goes_draw (fun _ => True) 13 ((0, true) :: (1, true) :: (2, true) :: (3, true) :: (4, true) :: (5, true) :: (6, true) :: (7, true) :: (8, true) :: (9, true) :: (10, false) :: (11, true) :: (12, true) :: []) (by kernel_rfl) (by kernel_rfl) trivial ?_
      replace hS := hS.drew
      refine ord_read rfl (fun _ hS => run_move (by conv => lhs; whnf)) rfl ?_
      refine ord_read rfl (fun _ hS => run_move (by conv => lhs; whnf)) rfl ?_
      refine ord_read rfl (fun _ hS => run_move (by conv => lhs; whnf)) rfl ?_
      refine ord_read rfl (fun _ hS => run_move (by conv => lhs; whnf)) rfl ?_
      refine ord_read rfl (fun _ hS => run_slice_to rfl rfl rfl (by omega) (by first | omega | (simp; done) | (simp; omega))) rfl ?_
      refine ord_read rfl (fun _ hS => run_move (by conv => lhs; whnf)) rfl ?_
      refine ord_read rfl (fun _ hS => run_move (by conv => lhs; whnf)) rfl ?_
      refine ord_read rfl (fun _ hS => run_slice_from rfl rfl rfl (by omega) (by first | omega | (simp; done) | (simp; omega))) rfl ?_
      refine ord_read rfl (fun _ hS => run_nilCheck rfl) rfl ?_
      refine ord_read rfl (fun _ hS => run_fieldAddr (off := 0) rfl rfl) rfl ?_
      refine ord_act rfl ?_
      refine lst_store1 hS rfl (by conv => lhs; whnf) rfl rfl (by first | exact .head | exact .tail .head | exact .tail (.tail .head) | exact .tail (.tail (.tail .head)) | exact .tail (.tail (.tail (.tail .head))) | exact .tail (.tail (.tail (.tail (.tail .head))))) (by repeat constructor) (by first | exact .head | exact .tail .head | exact .tail (.tail .head) | exact .tail (.tail (.tail .head)) | exact .tail (.tail (.tail (.tail .head))) | exact .tail (.tail (.tail (.tail (.tail .head))))) ?_
      clear hS
      intro wx1 hS
      refine lst_ord trivial ?_
      refine ord_read rfl (fun _ hS => run_nilCheck rfl) rfl ?_
      refine ord_read rfl (fun _ hS => run_fieldAddr (off := 1) rfl rfl) rfl ?_
      refine ord_end ?_
      refine lst_store1 hS rfl (by conv => lhs; whnf) rfl rfl (by first | exact .head | exact .tail .head | exact .tail (.tail .head) | exact .tail (.tail (.tail .head)) | exact .tail (.tail (.tail (.tail .head))) | exact .tail (.tail (.tail (.tail (.tail .head))))) (by repeat constructor) (by first | exact .head | exact .tail .head | exact .tail (.tail .head) | exact .tail (.tail (.tail .head)) | exact .tail (.tail (.tail (.tail .head))) | exact .tail (.tail (.tail (.tail (.tail .head))))) ?_
      clear hS
      intro wx2 hS
      refine lst_done ?_
      refine goes_end0 Tryd.func72 rfl ?_
      refine ⟨rfl, ?_⟩
      have e : s.adv = ⟨(trimW s.rest).take (tokLen (trimW s.rest)), (trimW s.rest).drop (tokLen (trimW s.rest)), s.vars, s.err⟩ := by simp only [RS.adv]; rw [if_neg (fun h => h.2 h')]
      rw [e]; exact hS
  · refine lst_enter (run_call (by kernel_rfl) (args_1 (by conv => lhs; whnf))) rfl ?_
    refine Calls.mono (tokenLength_any L1 (trimW s.rest) _ (by omega)) ?_
    rintro _ w2 ⟨rfl, rfl⟩
    refine ⟨_, rfl, ?_⟩
    refine lst_run (run_assign (by conv => lhs; whnf)) rfl ?_
    refine lst_done ?_
    refine goes_seq ?_
    refine goes_seq ?_
    refine goes_region ?_
    refine lst_run (run_move (by conv => lhs; whnf)) rfl ?_
    first
      | refine lst_run (run_eql_one_int rfl rfl) rfl ?_
      | refine lst_run (run_eql_no rfl rfl (by first | assumption | omega)) rfl ?_
      | refine lst_run (run_eql_yes rfl rfl (by omega)) rfl ?_
      | refine lst_run (rfl) rfl ?_
    refine lst_run (run_move (by conv => lhs; whnf)) rfl ?_
    refine lst_pass rfl rfl rfl ?_
    refine lst_pass rfl rfl rfl ?_
    first
      | refine lst_run (run_pick_t rfl (by conv => lhs; whnf)) rfl ?_
      | refine lst_run (run_pick_f rfl (by conv => lhs; whnf)) rfl ?_
    refine lst_done ?_
    refine goes_false rfl ?_
    refine goes_skip ?_
    refine goes_draw (fun _ => True) 13 ((0, true) :: (1, true) :: (2, true) :: (3, true) :: (4, true) :: (5, true) :: (6, true) :: (7, true) :: (8, true) :: (9, true) :: (10, false) :: (11, true) :: (12, true) :: []) (by kernel_rfl) (by kernel_rfl) trivial ?_
    replace hS := hS.drew
    refine ord_read rfl (fun _ hS => run_move (by conv => lhs; whnf)) rfl ?_
    refine ord_read rfl (fun _ hS => run_move (by conv => lhs; whnf)) rfl ?_
    refine ord_read rfl (fun _ hS => run_move (by conv => lhs; whnf)) rfl ?_
    refine ord_read rfl (fun _ hS => run_move (by conv => lhs; whnf)) rfl ?_
    refine ord_read rfl (fun _ hS => run_slice_to rfl rfl rfl (by omega) (by first | omega | (simp; done) | (simp; omega))) rfl ?_
    refine ord_read rfl (fun _ hS => run_move (by conv => lhs; whnf)) rfl ?_
    refine ord_read rfl (fun _ hS => run_move (by conv => lhs; whnf)) rfl ?_
    refine ord_read rfl (fun _ hS => run_slice_from rfl rfl rfl (by omega) (by first | omega | (simp; done) | (simp; omega))) rfl ?_
    refine ord_read rfl (fun _ hS => run_nilCheck rfl) rfl ?_
    refine ord_read rfl (fun _ hS => run_fieldAddr (off := 0) rfl rfl) rfl ?_
    refine ord_act rfl ?_
    refine lst_store1 hS rfl (by conv => lhs; whnf) rfl rfl (by first | exact .head | exact .tail .head | exact .tail (.tail .head) | exact .tail (.tail (.tail .head)) | exact .tail (.tail (.tail (.tail .head))) | exact .tail (.tail (.tail (.tail (.tail .head))))) (by repeat constructor) (by first | exact .head | exact .tail .head | exact .tail (.tail .head) | exact .tail (.tail (.tail .head)) | exact .tail (.tail (.tail (.tail .head))) | exact .tail (.tail (.tail (.tail (.tail .head))))) ?_
    clear hS
    intro wx1 hS
    refine lst_ord trivial ?_
    refine ord_read rfl (fun _ hS => run_nilCheck rfl) rfl ?_
    refine ord_read rfl (fun _ hS => run_fieldAddr (off := 1) rfl rfl) rfl ?_
    refine ord_end ?_
    refine lst_store1 hS rfl (by conv => lhs; whnf) rfl rfl (by first | exact .head | exact .tail .head | exact .tail (.tail .head) | exact .tail (.tail (.tail .head)) | exact .tail (.tail (.tail (.tail .head))) | exact .tail (.tail (.tail (.tail (.tail .head))))) (by repeat constructor) (by first | exact .head | exact .tail .head | exact .tail (.tail .head) | exact .tail (.tail (.tail .head)) | exact .tail (.tail (.tail (.tail .head))) | exact .tail (.tail (.tail (.tail (.tail .head))))) ?_
    clear hS
    intro wx2 hS
    refine lst_done ?_
    refine goes_end0 Tryd.func72 rfl ?_
    refine ⟨rfl, ?_⟩
    have e : s.adv = ⟨(trimW s.rest).take (tokLen (trimW s.rest)), (trimW s.rest).drop (tokLen (trimW s.rest)), s.vars, s.err⟩ := by simp only [RS.adv]; rw [if_neg (fun h => h0 h.1)]
    rw [e]; exact hS
theorem take_any (L1 : Lib1) (L2 : Lib2) (s : RS) (tok : Str) (w : World) (hl : s.rest.length ≤ 1048576) (hS : St M w0 ((b, rdr s (.slice A vl vc)) :: H) F w) :
    Calls Tryd.prog 52 #[ptr b, sv tok] w fun e w' => e = .returned (.tuple #[]) ∧ St M w0 ((b, rdr (s.take tok) (.slice A vl vc)) :: H) F w' := by
  refine goes_enter2 Tryd.func52 rfl Tryd.ntmps52 rfl ?_
  refine goes_seq ?_
  refine goes_seq ?_
  refine goes_region ?_
  refine lst_run (run_move (by conv => lhs; whnf)) rfl ?_
  refine lst_run (run_nilCheck rfl) rfl ?_
  refine lst_run (run_fieldAddr (off := 0) rfl rfl) rfl ?_
  first
    | refine lst_run (run_load1_own hS rfl rfl (by first | exact .head | exact .tail .head | exact .tail (.tail .head) | exact .tail (.tail (.tail .head)) | exact .tail (.tail (.tail (.tail .head))) | exact .tail (.tail (.tail (.tail (.tail .head))))) (by repeat constructor)) rfl ?_
    | refine lst_run (run_load1 rfl rfl (by first | assumption | exact hS.cell0 (by assumption) | exact lv_next hS | exact lv_list hS)) rfl ?_
  refine lst_run (run_move (by conv => lhs; whnf)) rfl ?_
  first
    | refine lst_run (run_neq_str rfl rfl) rfl ?_
    | refine lst_run (rfl) rfl ?_
  refine lst_done ?_
  refine goes_if rfl (fun h => ?_) (fun h => ?_)
  · have h' : ¬ s.token = tok := by simpa using h
    refine goes_region ?_
    refine lst_run (run_move (by conv => lhs; whnf)) rfl ?_
    refine lst_enter (run_call (by kernel_rfl) (args_2 (by conv => lhs; whnf) (by conv => lhs; whnf))) rfl ?_
    refine Calls.mono (fail_any s 1 _ hS) ?_
    rintro _ w3 ⟨rfl, hS'⟩
    refine ⟨_, rfl, ?_⟩
    replace hS := hS'
    clear hS'
    refine lst_done ?_
    refine goes_region ?_
    refine lst_run (run_move (by conv => lhs; whnf)) rfl ?_
    refine lst_enter (run_call (by kernel_rfl) (args_1 (by conv => lhs; whnf))) rfl ?_
    refine Calls.mono (adv_any L1 L2 (s.fail 1) _ (by simp [RS.fail]) hS) ?_
    rintro _ w4 ⟨rfl, hS'⟩
    refine ⟨_, rfl, ?_⟩
    replace hS := hS'
    clear hS'
    refine lst_done ?_
    refine goes_end0 Tryd.func52 rfl ?_
    refine ⟨rfl, ?_⟩
    have e : s.take tok = (s.fail 1).adv := by simp only [RS.take]; rw [if_neg h']
    rw [e]; exact hS
  · have h' : s.token = tok := by simpa using h
    refine goes_skip ?_
    refine goes_region ?_
    refine lst_run (run_move (by conv => lhs; whnf)) rfl ?_
    refine lst_enter (run_call (by kernel_rfl) (args_1 (by conv => lhs; whnf))) rfl ?_
    refine Calls.mono (adv_any L1 L2 s _ hl hS) ?_
    rintro _ w4 ⟨rfl, hS'⟩
    refine ⟨_, rfl, ?_⟩
    replace hS := hS'
    clear hS'
    refine lst_done ?_
    refine goes_end0 Tryd.func52 rfl ?_
    refine ⟨rfl, ?_⟩
    have e : s.take tok = s.adv := by simp only [RS.take]; rw [if_pos h']
    rw [e]; exact hS
/-- The reader at a text's beginning. -/
def RS.start (l : Str) : RS := if 2000 < l.length then (RS.fail ⟨[], l, [], 0⟩ 3).adv else (RS.adv ⟨[], l, [], 0⟩)
theorem newReader_any (L1 : Lib1) (L2 : Lib2) (l : Str) (w : World) (hl : l.length ≤ 1048576) (hS : St M w0 H F w) :
    Calls Tryd.prog 50 #[sv l] w fun e w' => ∃ b, e = .returned (ptr b) ∧ St M w0 ((b, rdr (RS.start l) (.slice none 0 0)) :: H) F w' := by
  by_cases h : 2000 < l.length
  · have e : RS.start l = (RS.fail ⟨[], l, [], 0⟩ 3).adv := by simp only [RS.start]; rw [if_pos h]
    rw [e]
    refine goes_enter1 Tryd.func50 rfl Tryd.ntmps50 rfl ?_
    refine goes_seq ?_
    refine goes_region ?_
    refine lst_run (run_assign (by conv => lhs; whnf)) rfl ?_
    refine lst_done ?_
    refine goes_seq ?_
    refine goes_region ?_
    refine lst_run (run_move (by conv => lhs; whnf)) rfl ?_
    refine lst_run (run_build (cells := [_, _, _, _]) (.cons (by conv => lhs; whnf) .nil) rfl) rfl ?_
    refine lst_box hS rfl rfl ?_
    clear hS
    intro b1 wx1 hS
    refine lst_run (run_assign (by conv => lhs; whnf)) rfl ?_
    refine lst_done ?_
    refine goes_seq ?_
    refine goes_seq ?_
    refine goes_region ?_
    refine lst_run (run_move (by conv => lhs; whnf)) rfl ?_
    refine lst_run (run_len_str rfl rfl rfl) rfl ?_
    first
      | refine lst_run (run_gtr_yes rfl rfl (by omega)) rfl ?_
      | refine lst_run (run_gtr_no rfl rfl (by omega)) rfl ?_
      | refine lst_run (rfl) rfl ?_
    refine lst_done ?_
    refine goes_true rfl ?_
    refine goes_region ?_
    refine lst_run (run_move (by conv => lhs; whnf)) rfl ?_
    refine lst_enter (run_call (by kernel_rfl) (args_2 (by conv => lhs; whnf) (by conv => lhs; whnf))) rfl ?_
    refine Calls.mono (fail_any ⟨[], l, [], 0⟩ 3 _ hS) ?_
    rintro _ w3 ⟨rfl, hS'⟩
    refine ⟨_, rfl, ?_⟩
    replace hS := hS'
    clear hS'
    refine lst_done ?_
    refine goes_seq ?_
    refine goes_region ?_
    refine lst_run (run_move (by conv => lhs; whnf)) rfl ?_
    refine lst_enter (run_call (by kernel_rfl) (args_1 (by conv => lhs; whnf))) rfl ?_
    refine Calls.mono (adv_any L1 L2 (RS.fail ⟨[], l, [], 0⟩ 3) _ (by simp [RS.fail]) hS) ?_
    rintro _ w4 ⟨rfl, hS'⟩
    refine ⟨_, rfl, ?_⟩
    replace hS := hS'
    clear hS'
    refine lst_done ?_
    refine goes_seq ?_
    refine goes_region ?_
    refine lst_run (run_move (by conv => lhs; whnf)) rfl ?_
    refine lst_run (run_assign (by conv => lhs; whnf)) rfl ?_
    refine lst_done ?_
    refine goes_ret1 Tryd.func50 rfl (by conv => lhs; whnf) ?_
    exact ⟨_, rfl, hS⟩
  · have e : RS.start l = RS.adv ⟨[], l, [], 0⟩ := by simp only [RS.start]; rw [if_neg h]
    rw [e]
    refine goes_enter1 Tryd.func50 rfl Tryd.ntmps50 rfl ?_
    refine goes_seq ?_
    refine goes_region ?_
    refine lst_run (run_assign (by conv => lhs; whnf)) rfl ?_
    refine lst_done ?_
    refine goes_seq ?_
    refine goes_region ?_
    refine lst_run (run_move (by conv => lhs; whnf)) rfl ?_
    refine lst_run (run_build (cells := [_, _, _, _]) (.cons (by conv => lhs; whnf) .nil) rfl) rfl ?_
    refine lst_box hS rfl rfl ?_
    clear hS
    intro b1 wx1 hS
    refine lst_run (run_assign (by conv => lhs; whnf)) rfl ?_
    refine lst_done ?_
    refine goes_seq ?_
    refine goes_seq ?_
    refine goes_region ?_
    refine lst_run (run_move (by conv => lhs; whnf)) rfl ?_
    refine lst_run (run_len_str rfl rfl rfl) rfl ?_
    first
      | refine lst_run (run_gtr_yes rfl rfl (by omega)) rfl ?_
      | refine lst_run (run_gtr_no rfl rfl (by omega)) rfl ?_
      | refine lst_run (rfl) rfl ?_
    refine lst_done ?_
    refine goes_false rfl ?_
    refine goes_skip ?_
    refine goes_seq ?_
    refine goes_region ?_
    refine lst_run (run_move (by conv => lhs; whnf)) rfl ?_
    refine lst_enter (run_call (by kernel_rfl) (args_1 (by conv => lhs; whnf))) rfl ?_
    refine Calls.mono (adv_any L1 L2 ⟨[], l, [], 0⟩ _ hl hS) ?_
    rintro _ w4 ⟨rfl, hS'⟩
    refine ⟨_, rfl, ?_⟩
    replace hS := hS'
    clear hS'
    refine lst_done ?_
    refine goes_seq ?_
    refine goes_region ?_
    refine lst_run (run_move (by conv => lhs; whnf)) rfl ?_
    refine lst_run (run_assign (by conv => lhs; whnf)) rfl ?_
    refine lst_done ?_
    refine goes_ret1 Tryd.func50 rfl (by conv => lhs; whnf) ?_
    exact ⟨_, rfl, hS⟩
end
end Go.Proofs.YtdiophafmokfiaaDoor
