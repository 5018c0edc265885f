/- RWalk2, RLib, Rd: texts that follow one another, laid into one file. -/
import Derived.Test.YtdiophafmokfiaaGreatDoorRWalk1
import Derived.Test.YtdiophafmokfiaaGreatDoorAppend
import Derived.Test.YtdiophafmokfiaaGreatDoorG6
import Derived.Test.YtdiophafmokfiaaGreatDoorG3
namespace Go.Proofs.YtdiophafmokfiaaGreatDoor
open Go.RowKit
set_option linter.unusedVariables false
set_option maxRecDepth 100000
set_option maxHeartbeats 1000000

/-- The reader's block. -/
abbrev rdr (s : RS) (V : Value) : Obj := .cells [sv s.token, sv s.rest, V, .int .i64 s.err].toArray 42
abbrev ptr (b : Nat) : Value := .pointer (some ⟨b, 0, none⟩)
section
variable {M : List Nat} {w0 : World} {H : List (Nat × Obj)} {F : List (World → Prop)} {b : Nat} {A : Option Addr} {vl vc : Nat}

theorem fail_any (s : RS) (x : Int) (w : World) (hS : St M w0 ((b, rdr s (.slice A vl vc)) :: H) F w) :
    Calls Tryz.prog 17 #[ptr b, .int .i64 x] w fun e w' => e = .returned (.tuple #[]) ∧ St M w0 ((b, rdr (s.fail x) (.slice A vl vc)) :: H) F w' := by
  refine goes_enter2 Tryz.func17 rfl Tryz.ntmps17 rfl ?_
  refine goes_seq ?_
  refine goes_seq ?_
  refine goes_region ?_
  refine lst_run (run_move (by conv => lhs; whnf)) rfl ?_
  refine lst_run (run_nilCheck rfl) rfl ?_
  refine lst_run (run_fieldAddr (off := 3) rfl rfl) rfl ?_
  first
    | refine lst_run (run_load1_own hS rfl rfl (by first | exact .head | exact .tail .head | exact .tail (.tail .head) | exact .tail (.tail (.tail .head)) | exact .tail (.tail (.tail (.tail .head))) | exact .tail (.tail (.tail (.tail (.tail .head))))) (by repeat constructor)) rfl ?_
    | refine lst_run (run_load1 rfl rfl (by first | assumption | exact hS.cell0 (by assumption) | exact lv_next hS | exact lv_list hS)) rfl ?_
  first
    | refine lst_run (run_eql_one_int rfl rfl) rfl ?_
    | refine lst_run (run_eql_no rfl rfl (by first | assumption | omega)) rfl ?_
    | refine lst_run (run_eql_yes rfl rfl (by omega)) rfl ?_
    | refine lst_run (rfl) rfl ?_
  refine lst_done ?_
  refine goes_if rfl (fun h => ?_) (fun h => ?_)
  · have h' : s.err = 0 := by simpa using h
    refine goes_region ?_
    refine lst_run (run_move (by conv => lhs; whnf)) rfl ?_
    refine lst_run (run_move (by conv => lhs; whnf)) rfl ?_
    refine lst_run (run_nilCheck rfl) rfl ?_
    refine lst_run (run_fieldAddr (off := 3) rfl rfl) rfl ?_
    refine lst_store1 hS rfl (by conv => lhs; whnf) rfl rfl (by first | exact .head | exact .tail .head | exact .tail (.tail .head) | exact .tail (.tail (.tail .head)) | exact .tail (.tail (.tail (.tail .head))) | exact .tail (.tail (.tail (.tail (.tail .head))))) (by repeat constructor) (by first | exact .head | exact .tail .head | exact .tail (.tail .head) | exact .tail (.tail (.tail .head)) | exact .tail (.tail (.tail (.tail .head))) | exact .tail (.tail (.tail (.tail (.tail .head))))) ?_
    clear hS
    intro wx1 hS
    refine lst_done ?_
    refine goes_region ?_
    refine lst_run (run_move (by conv => lhs; whnf)) rfl ?_
    refine lst_run (run_move (by conv => lhs; whnf)) rfl ?_
    refine lst_run (run_nilCheck rfl) rfl ?_
    refine lst_run (run_fieldAddr (off := 0) rfl rfl) rfl ?_
    refine lst_store1 hS rfl (by conv => lhs; whnf) rfl rfl (by first | exact .head | exact .tail .head | exact .tail (.tail .head) | exact .tail (.tail (.tail .head)) | exact .tail (.tail (.tail (.tail .head))) | exact .tail (.tail (.tail (.tail (.tail .head))))) (by repeat constructor) (by first | exact .head | exact .tail .head | exact .tail (.tail .head) | exact .tail (.tail (.tail .head)) | exact .tail (.tail (.tail (.tail .head))) | exact .tail (.tail (.tail (.tail (.tail .head))))) ?_
    clear hS
    intro wx2 hS
    refine lst_run (run_nilCheck rfl) rfl ?_
    refine lst_run (run_fieldAddr (off := 1) rfl rfl) rfl ?_
    refine lst_store1 hS rfl (by conv => lhs; whnf) rfl rfl (by first | exact .head | exact .tail .head | exact .tail (.tail .head) | exact .tail (.tail (.tail .head)) | exact .tail (.tail (.tail (.tail .head))) | exact .tail (.tail (.tail (.tail (.tail .head))))) (by repeat constructor) (by first | exact .head | exact .tail .head | exact .tail (.tail .head) | exact .tail (.tail (.tail .head)) | exact .tail (.tail (.tail (.tail .head))) | exact .tail (.tail (.tail (.tail (.tail .head))))) ?_
    clear hS
    intro wx3 hS
    refine lst_done ?_
    refine goes_end0 Tryz.func17 rfl ?_
    refine ⟨rfl, ?_⟩
    show St M w0 ((b, rdr ⟨[], [], s.vars, if s.err = 0 then x else s.err⟩ _) :: H) F _
    rw [if_pos h']; exact hS
  · have h' : ¬ s.err = 0 := by simpa using h
    refine goes_skip ?_
    refine goes_region ?_
    refine lst_run (run_move (by conv => lhs; whnf)) rfl ?_
    refine lst_run (run_move (by conv => lhs; whnf)) rfl ?_
    refine lst_run (run_nilCheck rfl) rfl ?_
    refine lst_run (run_fieldAddr (off := 0) rfl rfl) rfl ?_
    refine lst_store1 hS rfl (by conv => lhs; whnf) rfl rfl (by first | exact .head | exact .tail .head | exact .tail (.tail .head) | exact .tail (.tail (.tail .head)) | exact .tail (.tail (.tail (.tail .head))) | exact .tail (.tail (.tail (.tail (.tail .head))))) (by repeat constructor) (by first | exact .head | exact .tail .head | exact .tail (.tail .head) | exact .tail (.tail (.tail .head)) | exact .tail (.tail (.tail (.tail .head))) | exact .tail (.tail (.tail (.tail (.tail .head))))) ?_
    clear hS
    intro wx1 hS
    refine lst_run (run_nilCheck rfl) rfl ?_
    refine lst_run (run_fieldAddr (off := 1) rfl rfl) rfl ?_
    refine lst_store1 hS rfl (by conv => lhs; whnf) rfl rfl (by first | exact .head | exact .tail .head | exact .tail (.tail .head) | exact .tail (.tail (.tail .head)) | exact .tail (.tail (.tail (.tail .head))) | exact .tail (.tail (.tail (.tail (.tail .head))))) (by repeat constructor) (by first | exact .head | exact .tail .head | exact .tail (.tail .head) | exact .tail (.tail (.tail .head)) | exact .tail (.tail (.tail (.tail .head))) | exact .tail (.tail (.tail (.tail (.tail .head))))) ?_
    clear hS
    intro wx2 hS
    refine lst_done ?_
    refine goes_end0 Tryz.func17 rfl ?_
    refine ⟨rfl, ?_⟩
    show St M w0 ((b, rdr ⟨[], [], s.vars, if s.err = 0 then x else s.err⟩ _) :: H) F _
    rw [if_neg h']; exact hS
/-- What is asked of the library: white space is cut off. -/
def Lib2 : Prop := ∀ (l : Str) (w : World), l.length ≤ 1048576 → Calls Tryz.prog 50 #[sv l, sv [32, 10, 13, 9]] w fun e w' => e = .returned (sv (trimW l)) ∧ Below w.heap.size w w'
theorem adv_any (L1 : Lib1) (L2 : Lib2) (s : RS) (w : World) (hl : s.rest.length ≤ 1048576) (hS : St M w0 ((b, rdr s (.slice A vl vc)) :: H) F w) :
    Calls Tryz.prog 34 #[ptr b] w fun e w' => e = .returned (.tuple #[]) ∧ St M w0 ((b, rdr s.adv (.slice A vl vc)) :: H) F w' := by
  have h1 := trimW_le s.rest
  have h2 := tokLen_le (trimW s.rest)
  refine goes_enter1 Tryz.func34 rfl Tryz.ntmps34 rfl ?_
  refine goes_seq ?_
  refine goes_region ?_
  refine lst_run (run_move (by conv => lhs; whnf)) rfl ?_
  refine lst_run (run_nilCheck rfl) rfl ?_
  refine lst_run (run_fieldAddr (off := 1) rfl rfl) rfl ?_
  first
    | refine lst_run (run_load1_own hS rfl rfl (by first | exact .head | exact .tail .head | exact .tail (.tail .head) | exact .tail (.tail (.tail .head)) | exact .tail (.tail (.tail (.tail .head))) | exact .tail (.tail (.tail (.tail (.tail .head))))) (by repeat constructor)) rfl ?_
    | refine lst_run (run_load1 rfl rfl (by first | assumption | exact hS.cell0 (by assumption) | exact lv_next hS | exact lv_list hS)) rfl ?_
  refine lst_enter (run_call (by kernel_rfl) (args_2 (by conv => lhs; whnf) (by conv => lhs; whnf))) rfl ?_
  refine Calls.mono (L2 s.rest _ hl) ?_
  rintro _ w1 ⟨rfl, hb1⟩
  refine ⟨_, rfl, ?_⟩
  replace hS := hS.grow hb1
  refine lst_run (run_assign (by conv => lhs; whnf)) rfl ?_
  refine lst_done ?_
  refine goes_seq ?_
  refine goes_region ?_
  refine lst_run (run_move (by conv => lhs; whnf)) rfl ?_
  by_cases h0 : tokLen (trimW s.rest) = 0
  · refine lst_enter (run_call (by kernel_rfl) (args_1 (by conv => lhs; whnf))) rfl ?_
    refine Calls.mono (tokenLength_any L1 (trimW s.rest) _ (by omega)) ?_
    rintro _ w2 ⟨rfl, rfl⟩
    refine ⟨_, rfl, ?_⟩
    refine lst_run (run_assign (by conv => lhs; whnf)) rfl ?_
    refine lst_done ?_
    refine goes_seq ?_
    refine goes_seq ?_
    refine goes_region ?_
    refine lst_run (run_move (by conv => lhs; whnf)) rfl ?_
    first
      | refine lst_run (run_eql_one_int rfl rfl) rfl ?_
      | refine lst_run (run_eql_no rfl rfl (by first | assumption | omega)) rfl ?_
      | refine lst_run (run_eql_yes rfl rfl (by omega)) rfl ?_
      | refine lst_run (rfl) rfl ?_
    refine lst_run (run_move (by conv => lhs; whnf)) rfl ?_
    refine lst_guard rfl rfl ?_
    refine lst_run (run_move (by conv => lhs; whnf)) rfl ?_
    refine lst_guard rfl rfl ?_
    first
      | refine lst_run (run_neq_str rfl rfl) rfl ?_
      | refine lst_run (rfl) rfl ?_
    first
      | refine lst_run (run_pick_t rfl (by conv => lhs; whnf)) rfl ?_
      | refine lst_run (run_pick_f rfl (by conv => lhs; whnf)) rfl ?_
    refine lst_done ?_
    refine goes_if rfl (fun h => ?_) (fun h => ?_)
    · have h' : trimW s.rest ≠ [] := by simpa using h
      refine goes_seq ?_
      refine goes_region ?_
      refine lst_run (run_move (by conv => lhs; whnf)) rfl ?_
      refine lst_enter (run_call (by kernel_rfl) (args_2 (by conv => lhs; whnf) (by conv => lhs; whnf))) rfl ?_
      refine Calls.mono (fail_any s 1 _ hS) ?_
      rintro _ w3 ⟨rfl, hS'⟩
      refine ⟨_, rfl, ?_⟩
      replace hS := hS'
      clear hS'
      refine lst_done ?_
      refine goes_ret0 Tryz.func34 rfl  ?_
      refine ⟨rfl, ?_⟩
      have e : s.adv = s.fail 1 := by simp only [RS.adv]; rw [if_pos ⟨h0, h'⟩]
      rw [e]; exact hS
    · have h' : trimW s.rest = [] := by simpa using h
      refine goes_skip ?_
      refine goes_draw (fun _ => True) 13 ((0, true) :: (1, true) :: (2, true) :: (3, true) :: (4, true) :: (5, true) :: (6, true) :: (7, true) :: (8, true) :: (9, true) :: (10, false) :: (11, true) :: (12, true) :: []) (by kernel_rfl) (by kernel_rfl) trivial ?_
      replace hS := hS.drew
      refine ord_read rfl (fun _ hS => run_move (by conv => lhs; whnf)) rfl ?_
      refine ord_read rfl (fun _ hS => run_move (by conv => lhs; whnf)) rfl ?_
      refine ord_read rfl (fun _ hS => run_move (by conv => lhs; whnf)) rfl ?_
      refine ord_read rfl (fun _ hS => run_move (by conv => lhs; whnf)) rfl ?_
      refine ord_read rfl (fun _ hS => run_slice_to rfl rfl rfl (by omega) (by first | omega | (simp; done) | (simp; omega))) rfl ?_
      refine ord_read rfl (fun _ hS => run_move (by conv => lhs; whnf)) rfl ?_
      refine ord_read rfl (fun _ hS => run_move (by conv => lhs; whnf)) rfl ?_
      refine ord_read rfl (fun _ hS => run_slice_from rfl rfl rfl (by omega) (by first | omega | (simp; done) | (simp; omega))) rfl ?_
      refine ord_read rfl (fun _ hS => run_nilCheck rfl) rfl ?_
      refine ord_read rfl (fun _ hS => run_fieldAddr (off := 0) rfl rfl) rfl ?_
      refine ord_act rfl ?_
      refine lst_store1 hS rfl (by conv => lhs; whnf) rfl rfl (by first | exact .head | exact .tail .head | exact .tail (.tail .head) | exact .tail (.tail (.tail .head)) | exact .tail (.tail (.tail (.tail .head))) | exact .tail (.tail (.tail (.tail (.tail .head))))) (by repeat constructor) (by first | exact .head | exact .tail .head | exact .tail (.tail .head) | exact .tail (.tail (.tail .head)) | exact .tail (.tail (.tail (.tail .head))) | exact .tail (.tail (.tail (.tail (.tail .head))))) ?_
      clear hS
      intro wx1 hS
      refine lst_ord trivial ?_
      refine ord_read rfl (fun _ hS => run_nilCheck rfl) rfl ?_
      refine ord_read rfl (fun _ hS => run_fieldAddr (off := 1) rfl rfl) rfl ?_
      refine ord_end ?_
      refine lst_store1 hS rfl (by conv => lhs; whnf) rfl rfl (by first | exact .head | exact .tail .head | exact .tail (.tail .head) | exact .tail (.tail (.tail .head)) | exact .tail (.tail (.tail (.tail .head))) | exact .tail (.tail (.tail (.tail (.tail .head))))) (by repeat constructor) (by first | exact .head | exact .tail .head | exact .tail (.tail .head) | exact .tail (.tail (.tail .head)) | exact .tail (.tail (.tail (.tail .head))) | exact .tail (.tail (.tail (.tail (.tail .head))))) ?_
      clear hS
      intro wx2 hS
      refine lst_done ?_
      refine goes_end0 Tryz.func34 rfl ?_
      refine ⟨rfl, ?_⟩
      have e : s.adv = ⟨(trimW s.rest).take (tokLen (trimW s.rest)), (trimW s.rest).drop (tokLen (trimW s.rest)), s.vars, s.err⟩ := by simp only [RS.adv]; rw [if_neg (fun h => h.2 h')]
      rw [e]; exact hS
  · refine lst_enter (run_call (by kernel_rfl) (args_1 (by conv => lhs; whnf))) rfl ?_
    refine Calls.mono (tokenLength_any L1 (trimW s.rest) _ (by omega)) ?_
    rintro _ w2 ⟨rfl, rfl⟩
    refine ⟨_, rfl, ?_⟩
    refine lst_run (run_assign (by conv => lhs; whnf)) rfl ?_
    refine lst_done ?_
    refine goes_seq ?_
    refine goes_seq ?_
    refine goes_region ?_
    refine lst_run (run_move (by conv => lhs; whnf)) rfl ?_
    first
      | refine lst_run (run_eql_one_int rfl rfl) rfl ?_
      | refine lst_run (run_eql_no rfl rfl (by first | assumption | omega)) rfl ?_
      | refine lst_run (run_eql_yes rfl rfl (by omega)) rfl ?_
      | refine lst_run (rfl) rfl ?_
    refine lst_run (run_move (by conv => lhs; whnf)) rfl ?_
    refine lst_pass rfl rfl rfl ?_
    refine lst_pass rfl rfl rfl ?_
    first
      | refine lst_run (run_pick_t rfl (by conv => lhs; whnf)) rfl ?_
      | refine lst_run (run_pick_f rfl (by conv => lhs; whnf)) rfl ?_
    refine lst_done ?_
    refine goes_false rfl ?_
    refine goes_skip ?_
    refine goes_draw (fun _ => True) 13 ((0, true) :: (1, true) :: (2, true) :: (3, true) :: (4, true) :: (5, true) :: (6, true) :: (7, true) :: (8, true) :: (9, true) :: (10, false) :: (11, true) :: (12, true) :: []) (by kernel_rfl) (by kernel_rfl) trivial ?_
    replace hS := hS.drew
    refine ord_read rfl (fun _ hS => run_move (by conv => lhs; whnf)) rfl ?_
    refine ord_read rfl (fun _ hS => run_move (by conv => lhs; whnf)) rfl ?_
    refine ord_read rfl (fun _ hS => run_move (by conv => lhs; whnf)) rfl ?_
    refine ord_read rfl (fun _ hS => run_move (by conv => lhs; whnf)) rfl ?_
    refine ord_read rfl (fun _ hS => run_slice_to rfl rfl rfl (by omega) (by first | omega | (simp; done) | (simp; omega))) rfl ?_
    refine ord_read rfl (fun _ hS => run_move (by conv => lhs; whnf)) rfl ?_
    refine ord_read rfl (fun _ hS => run_move (by conv => lhs; whnf)) rfl ?_
    refine ord_read rfl (fun _ hS => run_slice_from rfl rfl rfl (by omega) (by first | omega | (simp; done) | (simp; omega))) rfl ?_
    refine ord_read rfl (fun _ hS => run_nilCheck rfl) rfl ?_
    refine ord_read rfl (fun _ hS => run_fieldAddr (off := 0) rfl rfl) rfl ?_
    refine ord_act rfl ?_
    refine lst_store1 hS rfl (by conv => lhs; whnf) rfl rfl (by first | exact .head | exact .tail .head | exact .tail (.tail .head) | exact .tail (.tail (.tail .head)) | exact .tail (.tail (.tail (.tail .head))) | exact .tail (.tail (.tail (.tail (.tail .head))))) (by repeat constructor) (by first | exact .head | exact .tail .head | exact .tail (.tail .head) | exact .tail (.tail (.tail .head)) | exact .tail (.tail (.tail (.tail .head))) | exact .tail (.tail (.tail (.tail (.tail .head))))) ?_
    clear hS
    intro wx1 hS
    refine lst_ord trivial ?_
    refine ord_read rfl (fun _ hS => run_nilCheck rfl) rfl ?_
    refine ord_read rfl (fun _ hS => run_fieldAddr (off := 1) rfl rfl) rfl ?_
    refine ord_end ?_
    refine lst_store1 hS rfl (by conv => lhs; whnf) rfl rfl (by first | exact .head | exact .tail .head | exact .tail (.tail .head) | exact .tail (.tail (.tail .head)) | exact .tail (.tail (.tail (.tail .head))) | exact .tail (.tail (.tail (.tail (.tail .head))))) (by repeat constructor) (by first | exact .head | exact .tail .head | exact .tail (.tail .head) | exact .tail (.tail (.tail .head)) | exact .tail (.tail (.tail (.tail .head))) | exact .tail (.tail (.tail (.tail (.tail .head))))) ?_
    clear hS
    intro wx2 hS
    refine lst_done ?_
    refine goes_end0 Tryz.func34 rfl ?_
    refine ⟨rfl, ?_⟩
    have e : s.adv = ⟨(trimW s.rest).take (tokLen (trimW s.rest)), (trimW s.rest).drop (tokLen (trimW s.rest)), s.vars, s.err⟩ := by simp only [RS.adv]; rw [if_neg (fun h => h0 h.1)]
    rw [e]; exact hS
theorem take_any (L1 : Lib1) (L2 : Lib2) (s : RS) (tok : Str) (w : World) (hl : s.rest.length ≤ 1048576) (hS : St M w0 ((b, rdr s (.slice A vl vc)) :: H) F w) :
    Calls Tryz.prog 25 #[ptr b, sv tok] w fun e w' => e = .returned (.tuple #[]) ∧ St M w0 ((b, rdr (s.take tok) (.slice A vl vc)) :: H) F w' := by
  refine goes_enter2 Tryz.func25 rfl Tryz.ntmps25 rfl ?_
  refine goes_seq ?_
  refine goes_seq ?_
  refine goes_region ?_
  refine lst_run (run_move (by conv => lhs; whnf)) rfl ?_
  refine lst_run (run_nilCheck rfl) rfl ?_
  refine lst_run (run_fieldAddr (off := 0) rfl rfl) rfl ?_
  first
    | refine lst_run (run_load1_own hS rfl rfl (by first | exact .head | exact .tail .head | exact .tail (.tail .head) | exact .tail (.tail (.tail .head)) | exact .tail (.tail (.tail (.tail .head))) | exact .tail (.tail (.tail (.tail (.tail .head))))) (by repeat constructor)) rfl ?_
    | refine lst_run (run_load1 rfl rfl (by first | assumption | exact hS.cell0 (by assumption) | exact lv_next hS | exact lv_list hS)) rfl ?_
  refine lst_run (run_move (by conv => lhs; whnf)) rfl ?_
  first
    | refine lst_run (run_neq_str rfl rfl) rfl ?_
    | refine lst_run (rfl) rfl ?_
  refine lst_done ?_
  refine goes_if rfl (fun h => ?_) (fun h => ?_)
  · have h' : ¬ s.token = tok := by simpa using h
    refine goes_region ?_
    refine lst_run (run_move (by conv => lhs; whnf)) rfl ?_
    refine lst_enter (run_call (by kernel_rfl) (args_2 (by conv => lhs; whnf) (by conv => lhs; whnf))) rfl ?_
    refine Calls.mono (fail_any s 1 _ hS) ?_
    rintro _ w3 ⟨rfl, hS'⟩
    refine ⟨_, rfl, ?_⟩
    replace hS := hS'
    clear hS'
    refine lst_done ?_
    refine goes_region ?_
    refine lst_run (run_move (by conv => lhs; whnf)) rfl ?_
    refine lst_enter (run_call (by kernel_rfl) (args_1 (by conv => lhs; whnf))) rfl ?_
    refine Calls.mono (adv_any L1 L2 (s.fail 1) _ (by simp [RS.fail]) hS) ?_
    rintro _ w4 ⟨rfl, hS'⟩
    refine ⟨_, rfl, ?_⟩
    replace hS := hS'
    clear hS'
    refine lst_done ?_
    refine goes_end0 Tryz.func25 rfl ?_
    refine ⟨rfl, ?_⟩
    have e : s.take tok = (s.fail 1).adv := by simp only [RS.take]; rw [if_neg h']
    rw [e]; exact hS
  · have h' : s.token = tok := by simpa using h
    refine goes_skip ?_
    refine goes_region ?_
    refine lst_run (run_move (by conv => lhs; whnf)) rfl ?_
    refine lst_enter (run_call (by kernel_rfl) (args_1 (by conv => lhs; whnf))) rfl ?_
    refine Calls.mono (adv_any L1 L2 s _ hl hS) ?_
    rintro _ w4 ⟨rfl, hS'⟩
    refine ⟨_, rfl, ?_⟩
    replace hS := hS'
    clear hS'
    refine lst_done ?_
    refine goes_end0 Tryz.func25 rfl ?_
    refine ⟨rfl, ?_⟩
    have e : s.take tok = s.adv := by simp only [RS.take]; rw [if_pos h']
    rw [e]; exact hS
/-- The reader at a text's beginning. -/
def RS.start (l : Str) : RS := if 2000 < l.length then (RS.fail ⟨[], l, [], 0⟩ 3).adv else (RS.adv ⟨[], l, [], 0⟩)
theorem newReader_any (L1 : Lib1) (L2 : Lib2) (l : Str) (w : World) (hl : l.length ≤ 1125899906842624) (hS : St M w0 H F w) :
    Calls Tryz.prog 15 #[sv l] w fun e w' => ∃ b, e = .returned (ptr b) ∧ St M w0 ((b, rdr (RS.start l) (.slice none 0 0)) :: H) F w' := by
  by_cases h : 2000 < l.length
  · have e : RS.start l = (RS.fail ⟨[], l, [], 0⟩ 3).adv := by simp only [RS.start]; rw [if_pos h]
    rw [e]
    refine goes_enter1 Tryz.func15 rfl Tryz.ntmps15 rfl ?_
    refine goes_seq ?_
    refine goes_region ?_
    refine lst_run (run_assign (by conv => lhs; whnf)) rfl ?_
    refine lst_done ?_
    refine goes_seq ?_
    refine goes_region ?_
    refine lst_run (run_move (by conv => lhs; whnf)) rfl ?_
    refine lst_run (run_build (cells := [_, _, _, _]) (.cons (by conv => lhs; whnf) .nil) rfl) rfl ?_
    refine lst_box hS rfl rfl ?_
    clear hS
    intro b1 wx1 hS
    refine lst_run (run_assign (by conv => lhs; whnf)) rfl ?_
    refine lst_done ?_
    refine goes_seq ?_
    refine goes_seq ?_
    refine goes_region ?_
    refine lst_run (run_move (by conv => lhs; whnf)) rfl ?_
    refine lst_run (run_len_str rfl rfl rfl) rfl ?_
    first
      | refine lst_run (run_gtr_yes rfl rfl (by omega)) rfl ?_
      | refine lst_run (run_gtr_no rfl rfl (by omega)) rfl ?_
      | refine lst_run (rfl) rfl ?_
    refine lst_done ?_
    refine goes_true rfl ?_
    refine goes_region ?_
    refine lst_run (run_move (by conv => lhs; whnf)) rfl ?_
    refine lst_enter (run_call (by kernel_rfl) (args_2 (by conv => lhs; whnf) (by conv => lhs; whnf))) rfl ?_
    refine Calls.mono (fail_any ⟨[], l, [], 0⟩ 3 _ hS) ?_
    rintro _ w3 ⟨rfl, hS'⟩
    refine ⟨_, rfl, ?_⟩
    replace hS := hS'
    clear hS'
    refine lst_done ?_
    refine goes_seq ?_
    refine goes_region ?_
    refine lst_run (run_move (by conv => lhs; whnf)) rfl ?_
    refine lst_enter (run_call (by kernel_rfl) (args_1 (by conv => lhs; whnf))) rfl ?_
    refine Calls.mono (adv_any L1 L2 (RS.fail ⟨[], l, [], 0⟩ 3) _ (by simp [RS.fail]) hS) ?_
    rintro _ w4 ⟨rfl, hS'⟩
    refine ⟨_, rfl, ?_⟩
    replace hS := hS'
    clear hS'
    refine lst_done ?_
    refine goes_seq ?_
    refine goes_region ?_
    refine lst_run (run_move (by conv => lhs; whnf)) rfl ?_
    refine lst_run (run_assign (by conv => lhs; whnf)) rfl ?_
    refine lst_done ?_
    refine goes_ret1 Tryz.func15 rfl (by conv => lhs; whnf) ?_
    exact ⟨_, rfl, hS⟩
  · have e : RS.start l = RS.adv ⟨[], l, [], 0⟩ := by simp only [RS.start]; rw [if_neg h]
    rw [e]
    refine goes_enter1 Tryz.func15 rfl Tryz.ntmps15 rfl ?_
    refine goes_seq ?_
    refine goes_region ?_
    refine lst_run (run_assign (by conv => lhs; whnf)) rfl ?_
    refine lst_done ?_
    refine goes_seq ?_
    refine goes_region ?_
    refine lst_run (run_move (by conv => lhs; whnf)) rfl ?_
    refine lst_run (run_build (cells := [_, _, _, _]) (.cons (by conv => lhs; whnf) .nil) rfl) rfl ?_
    refine lst_box hS rfl rfl ?_
    clear hS
    intro b1 wx1 hS
    refine lst_run (run_assign (by conv => lhs; whnf)) rfl ?_
    refine lst_done ?_
    refine goes_seq ?_
    refine goes_seq ?_
    refine goes_region ?_
    refine lst_run (run_move (by conv => lhs; whnf)) rfl ?_
    refine lst_run (run_len_str rfl rfl rfl) rfl ?_
    first
      | refine lst_run (run_gtr_yes rfl rfl (by omega)) rfl ?_
      | refine lst_run (run_gtr_no rfl rfl (by omega)) rfl ?_
      | refine lst_run (rfl) rfl ?_
    refine lst_done ?_
    refine goes_false rfl ?_
    refine goes_skip ?_
    refine goes_seq ?_
    refine goes_region ?_
    refine lst_run (run_move (by conv => lhs; whnf)) rfl ?_
    refine lst_enter (run_call (by kernel_rfl) (args_1 (by conv => lhs; whnf))) rfl ?_
    refine Calls.mono (adv_any L1 L2 ⟨[], l, [], 0⟩ _ (by show l.length ≤ 1048576; omega) hS) ?_
    rintro _ w4 ⟨rfl, hS'⟩
    refine ⟨_, rfl, ?_⟩
    replace hS := hS'
    clear hS'
    refine lst_done ?_
    refine goes_seq ?_
    refine goes_region ?_
    refine lst_run (run_move (by conv => lhs; whnf)) rfl ?_
    refine lst_run (run_assign (by conv => lhs; whnf)) rfl ?_
    refine lst_done ?_
    refine goes_ret1 Tryz.func15 rfl (by conv => lhs; whnf) ?_
    exact ⟨_, rfl, hS⟩
end
end Go.Proofs.YtdiophafmokfiaaGreatDoor
namespace Go.Proofs.YtdiophafmokfiaaGreatDoor
open Go.RowKit
set_option linter.unusedVariables false
set_option maxRecDepth 100000
set_option maxHeartbeats 1000000

theorem prefix_take : ∀ (m l : Str), (decide (m.length ≤ l.length) && (l.take m.length == m)) = m.isPrefixOf l
  | [], l => by simp [List.isPrefixOf]
  | c :: m, [] => by simp [List.isPrefixOf]
  | c :: m, d :: l => by
    have ih := prefix_take m l
    simp only [List.isPrefixOf, List.length_cons, List.take_succ_cons, Nat.add_le_add_iff_right]
    rw [← ih]
    have : (d :: l.take m.length == c :: m) = ((c == d) && (l.take m.length == m)) := by
      rw [List.cons_beq_cons]; congr 1; exact BEq.comm
    rw [this]
    cases decide (m.length ≤ l.length) <;> cases (c == d) <;> simp
theorem hasPrefix0_any (l m : Str) (w : World) : Calls Tryz.prog 91 #[sv l, sv m] w fun e w' => e = .returned (.bool (m.isPrefixOf l)) ∧ w' = w := by
  have hp := prefix_take m l
  by_cases h : m.length ≤ l.length
  · refine goes_enter2 Tryz.func91 rfl Tryz.ntmps91 rfl ?_
    refine goes_seq ?_
    refine goes_region ?_
    refine lst_run (run_assign (by conv => lhs; whnf)) rfl ?_
    refine lst_done ?_
    refine goes_seq ?_
    refine goes_region ?_
    refine lst_run (run_move (by conv => lhs; whnf)) rfl ?_
    refine lst_run (run_len_str rfl rfl rfl) rfl ?_
    refine lst_run (run_move (by conv => lhs; whnf)) rfl ?_
    refine lst_run (run_len_str rfl rfl rfl) rfl ?_
    first
      | refine lst_run (run_geq_yes rfl rfl (by omega)) rfl ?_
      | refine lst_run (run_geq_no rfl rfl (by omega)) rfl ?_
      | refine lst_run (rfl) rfl ?_
    refine lst_run (run_move (by conv => lhs; whnf)) rfl ?_
    refine lst_guard rfl rfl ?_
    refine lst_run (run_move (by conv => lhs; whnf)) rfl ?_
    refine lst_guard rfl rfl ?_
    refine lst_run (run_move (by conv => lhs; whnf)) rfl ?_
    refine lst_guard rfl rfl ?_
    refine lst_run (run_len_str rfl rfl rfl) rfl ?_
    refine lst_guard rfl rfl ?_
    refine lst_run (run_slice_to rfl rfl rfl (by omega) (by first | omega | (simp; done) | (simp; omega))) rfl ?_
    refine lst_guard rfl rfl ?_
    refine lst_run (run_move (by conv => lhs; whnf)) rfl ?_
    refine lst_guard rfl rfl ?_
    first
      | refine lst_run (run_eql_str rfl rfl) rfl ?_
      | refine lst_run (rfl) rfl ?_
    first
      | refine lst_run (run_pick_t rfl (by conv => lhs; whnf)) rfl ?_
      | refine lst_run (run_pick_f rfl (by conv => lhs; whnf)) rfl ?_
    refine lst_run (run_assign (by conv => lhs; whnf)) rfl ?_
    refine lst_done ?_
    refine goes_ret1 Tryz.func91 rfl (by conv => lhs; whnf) ?_
    rw [← hp, decide_eq_true h]
    exact ⟨rfl, rfl⟩
  · refine goes_enter2 Tryz.func91 rfl Tryz.ntmps91 rfl ?_
    refine goes_seq ?_
    refine goes_region ?_
    refine lst_run (run_assign (by conv => lhs; whnf)) rfl ?_
    refine lst_done ?_
    refine goes_seq ?_
    refine goes_region ?_
    refine lst_run (run_move (by conv => lhs; whnf)) rfl ?_
    refine lst_run (run_len_str rfl rfl rfl) rfl ?_
    refine lst_run (run_move (by conv => lhs; whnf)) rfl ?_
    refine lst_run (run_len_str rfl rfl rfl) rfl ?_
    first
      | refine lst_run (run_geq_yes rfl rfl (by omega)) rfl ?_
      | refine lst_run (run_geq_no rfl rfl (by omega)) rfl ?_
      | refine lst_run (rfl) rfl ?_
    refine lst_run (run_move (by conv => lhs; whnf)) rfl ?_
    refine lst_pass rfl rfl rfl ?_
    refine lst_pass rfl rfl rfl ?_
    refine lst_pass rfl rfl rfl ?_
    refine lst_pass rfl rfl rfl ?_
    refine lst_pass rfl rfl rfl ?_
    refine lst_pass rfl rfl rfl ?_
    first
      | refine lst_run (run_pick_t rfl (by conv => lhs; whnf)) rfl ?_
      | refine lst_run (run_pick_f rfl (by conv => lhs; whnf)) rfl ?_
    refine lst_run (run_assign (by conv => lhs; whnf)) rfl ?_
    refine lst_done ?_
    refine goes_ret1 Tryz.func91 rfl (by conv => lhs; whnf) ?_
    rw [← hp, decide_eq_false h]
    exact ⟨rfl, rfl⟩
theorem hasPrefix_any (l m : Str) (w : World) : Calls Tryz.prog 74 #[sv l, sv m] w fun e w' => e = .returned (.bool (m.isPrefixOf l)) ∧ w' = w := by
  refine goes_enter2 Tryz.func74 rfl Tryz.ntmps74 rfl ?_
  refine goes_seq ?_
  refine goes_region ?_
  refine lst_run (run_assign (by conv => lhs; whnf)) rfl ?_
  refine lst_done ?_
  refine goes_seq ?_
  refine goes_region ?_
  refine lst_run (run_move (by conv => lhs; whnf)) rfl ?_
  refine lst_run (run_move (by conv => lhs; whnf)) rfl ?_
  refine lst_enter (run_call (by kernel_rfl) (args_2 (by conv => lhs; whnf) (by conv => lhs; whnf))) rfl ?_
  refine Calls.mono (hasPrefix0_any l m _) ?_
  rintro _ w1 ⟨rfl, rfl⟩
  refine ⟨_, rfl, ?_⟩
  refine lst_run (run_assign (by conv => lhs; whnf)) rfl ?_
  refine lst_done ?_
  refine goes_ret1 Tryz.func74 rfl (by conv => lhs; whnf) ?_
  exact ⟨rfl, rfl⟩
def idxI (vs : List Str) (x : Str) : Int := if x ∈ vs then (idxOfV vs x : Nat) else -1
theorem idx_app {x : Str} : ∀ {D : List Str} (R : List Str), x ∉ D → idxOfV (D ++ x :: R) x = D.length
  | [], R, _ => by simp [idxOfV]
  | v :: D, R, h => by
    have h1 : ¬ v = x := fun e => h (by simp [e])
    have h2 : x ∉ D := fun e => h (by simp [e])
    simp only [List.cons_append, idxOfV, if_neg h1, List.length_cons]
    rw [idx_app R h2]
section
variable {M : List Nat} {w0 : World} {H : List (Nat × Obj)} {F : List (World → Prop)} {b : Nat}
theorem index_any (vs : List Str) (x : Str) (V : Value) (O : List (Nat × Obj)) (w : World) (hr : Row 9 1 V vs.length (vs.map sv) O) (hS : St M w0 (O ++ H) F w) (hb : vs.length ≤ 1048576) :
    Calls Tryz.prog 75 #[V, sv x] w fun e w' => e = .returned (.int .i64 (idxI vs x)) ∧ w' = w := by
  obtain ⟨A, c, rfl⟩ := hr.form
  refine goes_enter2 Tryz.func75 rfl Tryz.ntmps75 rfl ?_
  refine goes_seq ?_
  refine goes_region ?_
  refine lst_run (run_assign (by conv => lhs; whnf)) rfl ?_
  refine lst_done ?_
  refine goes_seq ?_
  refine goes_seq ?_
  refine goes_region ?_
  refine lst_run (run_move (by conv => lhs; whnf)) rfl ?_
  refine lst_run (run_len_slice rfl rfl rfl) rfl ?_
  refine lst_run (run_move (by conv => lhs; whnf)) rfl ?_
  refine lst_done ?_
  refine goes_block ?_
  refine goes_loop1 8 (9 :: 10 :: 5 :: 11 :: 12 :: 13 :: 14 :: 15 :: 16 :: 17 :: 4 :: 18 :: []) (fun (R : List Str) v w' => w' = w ∧ ∃ D, vs = D ++ R ∧ v = .int .i64 (D.length : Nat) ∧ x ∉ D) (fun R => R.length) (vs) ?_ (by conv => lhs; whnf) ?_
  · exact ⟨rfl, [], rfl, rfl, by simp⟩
  rintro R _ w1 jv ⟨rfl, D, hD, rfl, hx⟩ ih
  have hlen : vs.length = D.length + R.length := by rw [hD, List.length_append]
  cases R with
  | nil =>
    simp only [List.length_nil] at hlen
    refine goes_seq ?_
    refine goes_region ?_
    first
      | refine lst_run (run_lss_yes rfl rfl (by omega)) rfl ?_
      | refine lst_run (run_lss_no rfl rfl (by omega)) rfl ?_
      | refine lst_run (rfl) rfl ?_
    refine lst_done ?_
    refine goes_seq ?_
    refine goes_false rfl ?_
    refine goes_exit rfl ?_
    refine goes_seq ?_
    refine goes_region ?_
    refine lst_run (run_assign (by conv => lhs; whnf)) rfl ?_
    refine lst_done ?_
    refine goes_ret1 Tryz.func75 rfl (by conv => lhs; whnf) ?_
    refine ⟨?_, rfl⟩
    have : x ∉ vs := by rw [hD, List.append_nil]; exact hx
    simp only [idxI, if_neg this]
  | cons y r =>
    simp only [List.length_cons] at hlen
    generalize hxs : vs.map sv = xs at hr
    generalize hvl : vs.length = vl at *
    cases hr with
    | nil_ => omega
    | own_ h1 h2 h3 hcp =>
      rename_i bl sp
      have hcell : w1.cell? ⟨bl, 0 + ((D.length : Nat) : Int).toNat * 1, none⟩ = some (sv y) := by
        have hbl : w1.heap[bl]? = some (.cells (xs ++ sp).toArray 9) := hS.own (bl, _) (by simp)
        rw [cell_own hbl, ← hxs, hD]
        simp
      refine goes_seq ?_
      refine goes_region ?_
      first
        | refine lst_run (run_lss_yes rfl rfl (by omega)) rfl ?_
        | refine lst_run (run_lss_no rfl rfl (by omega)) rfl ?_
        | refine lst_run (rfl) rfl ?_
      refine lst_done ?_
      refine goes_seq ?_
      refine goes_true rfl ?_
      refine goes_skip ?_
      refine goes_seq ?_
      refine goes_block ?_
      refine goes_seq ?_
      refine goes_region ?_
      refine lst_run (run_move (by conv => lhs; whnf)) rfl ?_
      refine lst_run (run_assign (by conv => lhs; whnf)) rfl ?_
      refine lst_done ?_
      refine goes_seq ?_
      refine goes_region ?_
      refine lst_run (run_move (by conv => lhs; whnf)) rfl ?_
      refine lst_run (run_move (by conv => lhs; whnf)) rfl ?_
      refine lst_run (run_move (by conv => lhs; whnf)) rfl ?_
      refine lst_run (run_indexAddr (sz := 1) rfl rfl rfl rfl (by omega) (by omega)) rfl ?_
      first
        | refine lst_run (run_load1_own hS rfl rfl (by first | exact .head | exact .tail .head | exact .tail (.tail .head) | exact .tail (.tail (.tail .head)) | exact .tail (.tail (.tail (.tail .head))) | exact .tail (.tail (.tail (.tail (.tail .head))))) (by repeat constructor)) rfl ?_
        | refine lst_run (run_load1 rfl rfl (by first | assumption | exact hS.cell0 (by assumption) | exact lv_next hS | exact lv_list hS)) rfl ?_
      first
        | refine lst_run (run_eql_str rfl rfl) rfl ?_
        | refine lst_run (rfl) rfl ?_
      refine lst_done ?_
      refine goes_if rfl (fun h => ?_) (fun h => ?_)
      · obtain rfl : x = y := by simpa using h
        refine goes_seq ?_
        refine goes_region ?_
        refine lst_run (run_move (by conv => lhs; whnf)) rfl ?_
        refine lst_run (run_assign (by conv => lhs; whnf)) rfl ?_
        refine lst_done ?_
        refine goes_ret1 Tryz.func75 rfl (by conv => lhs; whnf) ?_
        refine ⟨?_, rfl⟩
        have : x ∈ vs := by rw [hD]; simp
        simp only [idxI, if_pos this]
        rw [hD, idx_app r hx]
      · have h' : ¬ x = y := by simpa using h
        refine goes_skip ?_
        refine goes_inBlock ?_
        refine goes_region ?_
        refine lst_run (run_add rfl rfl (by omega) (by omega)) rfl ?_
        refine lst_run (run_move (by conv => lhs; whnf)) rfl ?_
        refine lst_done ?_
        refine ih (r) _ _ _ ?_ ?_ (by conv => lhs; whnf) (by kernel_rfl)
        · simp
        · exact ⟨rfl, D ++ [y], by rw [hD, List.append_assoc]; rfl, by simp, by simp [hx, h']⟩
end
end Go.Proofs.YtdiophafmokfiaaGreatDoor
namespace Go.Proofs.YtdiophafmokfiaaGreatDoor
open Go.RowKit
set_option linter.unusedVariables false
section
variable {M : List Nat} {w0 w w' : World} {H : List (Nat × Obj)} {F : List (World → Prop)} {v : Value} {T : Ts} {p : Nat → Prop}
/-- What reads so, reads so as long as only the blocks of M turn, none of which it takes. -/
theorem Sl.ext {N : List Nat} (h : Sl w p v T) (hx : Ext N w w') (hp : ∀ b, p b → b ∉ N) : Sl w' (fun _ => True) v T := (h.keep fun k hk hl => hx.block k hl (hp k hk)).any
theorem St.readBase (hS : St M w0 H F w) (h : Sl w0 p v T) (hp : ∀ b, p b → b ∉ M) : St M w0 H ((fun w => Sl w (fun _ => True) v T) :: F) w := hS.base fun w' hx => h.ext hx hp
theorem St.readBase0 (hS : St [] w0 H F w) (h : Sl w0 p v T) : St [] w0 H ((fun w => Sl w (fun _ => True) v T) :: F) w := hS.readBase h (by simp)
theorem St.keys_lt (hS : St M w0 H F w) {k : Nat} (hk : k ∈ H.map (·.1)) : k < w.heap.size := by
  obtain ⟨q, hq, rfl⟩ := List.mem_map.1 hk
  exact own_lt (hS.own q hq)
/-- What a call has made and handed back. -/
theorem St.readNew (hS : St M w0 H F w) (hb : Below w.heap.size w w') (h : Sl w' (fun b => w.heap.size ≤ b) v T) : St M w0 H ((fun w => Sl w (fun _ => True) v T) :: F) w' :=
  (hS.grow hb).learn fun w2 hx => h.ext hx fun b hb' hk => by have := hS.keys_lt hk; omega
end
end Go.Proofs.YtdiophafmokfiaaGreatDoor
