/- SameNR, HRef2, HOne, HUndo, HTerm, Mk, HWalk8: texts that follow one another, laid into one file. -/
import Derived.Test.YtjicoifjgokoiabG1
import Derived.Test.YtjicoifjgokoiabG0
import Derived.Test.YtjicoifjgokoiabG7
import Derived.Test.YtjicoifjgokoiabG4
import Derived.Test.YtjicoifjgokoiabG6
import Derived.Laws.MakeOwn
import Derived.Test.YtjicoifjgokoiabG5
namespace Go.Proofs.Ytjicoifjgokoiab
open Go.RowKit
set_option linter.unusedVariables false
set_option linter.unusedSimpArgs false
set_option maxRecDepth 100000
set_option maxHeartbeats 1000000

theorem sameNumbersR_eq (L : List Int) (A B : Option Addr) (c d : Nat) (w : World) (hL : Flat 1 (intsV L) A L.length c w) (hK : Flat 1 (intsV L) B L.length d w) (hl : L.length ≤ 9223372036854775807) :
    Calls Try.prog 29 #[.slice A L.length c, .slice B L.length d] w fun e w' => e = .returned (.bool true) ∧ Below w.heap.size w w' := by
  have hS := ((St.start w).flat (M := []) hL).flat (M := []) hK
  refine goes_enter2 Try.func29 rfl Try.ntmps29 rfl ?_
  refine goes_seq ?_
  refine goes_region ?_
  refine lst_run (run_assign (by conv => lhs; whnf)) rfl ?_
  refine lst_done ?_
  refine goes_seq ?_
  refine goes_seq ?_
  refine goes_region ?_
  refine lst_run (run_move (by conv => lhs; whnf)) rfl ?_
  refine lst_run (run_len_slice rfl rfl rfl) rfl ?_
  refine lst_run (run_move (by conv => lhs; whnf)) rfl ?_
  refine lst_run (run_len_slice rfl rfl rfl) rfl ?_
  first
    | refine lst_run (run_neq_one_int rfl rfl) rfl ?_
    | refine lst_run (run_neq_no rfl rfl (by first | assumption | omega)) rfl ?_
    | refine lst_run (run_neq_yes rfl rfl (by omega)) rfl ?_
    | refine lst_run (rfl) rfl ?_
  refine lst_done ?_
  refine goes_false rfl ?_
  refine goes_skip ?_
  refine goes_seq ?_
  refine goes_seq ?_
  refine goes_region ?_
  refine lst_run (run_move (by conv => lhs; whnf)) rfl ?_
  refine lst_run (run_len_slice rfl rfl rfl) rfl ?_
  refine lst_run (run_move (by conv => lhs; whnf)) rfl ?_
  refine lst_done ?_
  refine goes_block ?_
  refine goes_loop1 13 (14 :: 15 :: 5 :: 16 :: 17 :: 18 :: 19 :: 20 :: 21 :: 22 :: 23 :: 24 :: 4 :: 25 :: []) (fun (R : List Int) v w' => ∃ D, L = D ++ R ∧ v = .int .i64 (D.length : Nat) ∧ St [] w [] [Flat 1 (intsV L) B L.length d, Flat 1 (intsV L) A L.length c] w') (fun R => R.length) (L) ?_ (by conv => lhs; whnf) ?_
  · exact ⟨[], rfl, rfl, hS⟩
  clear hS
  rintro R _ w2 jv ⟨D, hD, rfl, hS⟩ ih
  have hlen : L.length = D.length + R.length := by rw [hD]; simp
  cases R with
  | nil =>
    simp only [List.length_nil] at hlen
    refine goes_seq ?_
    refine goes_region ?_
    first
      | refine lst_run (run_lss_yes rfl rfl (by omega)) rfl ?_
      | refine lst_run (run_lss_no rfl rfl (by omega)) rfl ?_
      | refine lst_run (rfl) rfl ?_
    refine lst_done ?_
    refine goes_seq ?_
    refine goes_false rfl ?_
    refine goes_exit rfl ?_
    refine goes_seq ?_
    refine goes_region ?_
    refine lst_run (run_assign (by conv => lhs; whnf)) rfl ?_
    refine lst_done ?_
    refine goes_ret1 Try.func29 rfl (by conv => lhs; whnf) ?_
    exact ⟨rfl, hS.ext.below⟩
  | cons x R =>
    simp only [List.length_cons] at hlen
    obtain ⟨b, o, rfl⟩ := hL.some_ (by omega)
    obtain ⟨b2, o2, rfl⟩ := hK.some_ (by omega)
    have hx : L[D.length]? = some x := by rw [hD]; simp
    have hcc : ∀ {H'} w', St [] w H' [Flat 1 (intsV L) (some ⟨b2, o2, none⟩) L.length d, Flat 1 (intsV L) (some ⟨b, o, none⟩) L.length c] w' → _ := fun w' hS => (hS.fact (.head _)).int hx
    have hcd : ∀ {H'} w', St [] w H' [Flat 1 (intsV L) (some ⟨b2, o2, none⟩) L.length d, Flat 1 (intsV L) (some ⟨b, o, none⟩) L.length c] w' → _ := fun w' hS => (hS.fact (.tail _ (.head _))).int hx
    refine goes_seq ?_
    refine goes_region ?_
    first
      | refine lst_run (run_lss_yes rfl rfl (by omega)) rfl ?_
      | refine lst_run (run_lss_no rfl rfl (by omega)) rfl ?_
      | refine lst_run (rfl) rfl ?_
    refine lst_done ?_
    refine goes_seq ?_
    refine goes_true rfl ?_
    refine goes_skip ?_
    refine goes_seq ?_
    refine goes_block ?_
    refine goes_seq ?_
    refine goes_region ?_
    refine lst_run (run_move (by conv => lhs; whnf)) rfl ?_
    refine lst_run (run_assign (by conv => lhs; whnf)) rfl ?_
    refine lst_done ?_
    refine goes_seq ?_
    refine goes_draw (St _ _ _ _) 9 ((0, true) :: (1, true) :: (2, true) :: (3, true) :: (4, true) :: (5, true) :: (6, true) :: (7, true) :: (8, true) :: []) (by kernel_rfl) (by kernel_rfl) (hS.drew) ?_
    replace hS := hS.drew
    refine ord_read rfl (fun _ hS => run_move (by conv => lhs; whnf)) rfl ?_
    refine ord_read rfl (fun _ hS => run_move (by conv => lhs; whnf)) rfl ?_
    refine ord_read rfl (fun _ hS => run_indexAddr (sz := 1) rfl rfl rfl rfl (by omega) (by omega)) rfl ?_
    first
      | refine ord_read rfl (fun _ hS => run_load1_own hS rfl rfl (by first | exact .head | exact .tail .head | exact .tail (.tail .head) | exact .tail (.tail (.tail .head)) | exact .tail (.tail (.tail (.tail .head))) | exact .tail (.tail (.tail (.tail (.tail .head))))) (by repeat constructor)) rfl ?_
      | refine ord_read rfl (fun _ hS => run_load1 rfl rfl (by first | assumption | exact hcc _ hS | exact hcd _ hS | exact hS.cell0 (by assumption) | exact lv_next hS | exact lv_list hS)) rfl ?_
    refine ord_read rfl (fun _ hS => run_move (by conv => lhs; whnf)) rfl ?_
    refine ord_read rfl (fun _ hS => run_move (by conv => lhs; whnf)) rfl ?_
    refine ord_read rfl (fun _ hS => run_indexAddr (sz := 1) rfl rfl rfl rfl (by omega) (by omega)) rfl ?_
    first
      | refine ord_read rfl (fun _ hS => run_load1_own hS rfl rfl (by first | exact .head | exact .tail .head | exact .tail (.tail .head) | exact .tail (.tail (.tail .head)) | exact .tail (.tail (.tail (.tail .head))) | exact .tail (.tail (.tail (.tail (.tail .head))))) (by repeat constructor)) rfl ?_
      | refine ord_read rfl (fun _ hS => run_load1 rfl rfl (by first | assumption | exact hcc _ hS | exact hcd _ hS | exact hS.cell0 (by assumption) | exact lv_next hS | exact lv_list hS)) rfl ?_
    first
      | refine ord_read rfl (fun _ hS => run_neq_one_int rfl rfl) rfl ?_
      | refine ord_read rfl (fun _ hS => run_neq_no rfl rfl (by first | assumption | omega)) rfl ?_
      | refine ord_read rfl (fun _ hS => run_neq_yes rfl rfl (by omega)) rfl ?_
      | refine ord_read rfl (fun _ hS => rfl) rfl ?_
    refine ord_end ?_
    refine lst_done ?_
    refine goes_false rfl ?_
    refine goes_skip ?_
    refine goes_inBlock ?_
    refine goes_region ?_
    refine lst_run (run_add rfl rfl (by omega) (by omega)) rfl ?_
    refine lst_run (run_move (by conv => lhs; whnf)) rfl ?_
    refine lst_done ?_
    refine ih (R) _ _ _ ?_ ?_ (by conv => lhs; whnf) (by kernel_rfl)
    · simp
    · exact ⟨D ++ [x], by rw [hD]; simp, by simp, hS⟩
end Go.Proofs.Ytjicoifjgokoiab
namespace Go.Proofs.Ytjicoifjgokoiab
open Go.RowKit
set_option linter.unusedVariables false
set_option linter.unusedSimpArgs false
set_option maxRecDepth 100000
set_option maxHeartbeats 1000000

theorem sameCells_eq (L : List HC) (A B : Option Addr) (c d : Nat) (w : World) (hL : Flat 3 (hcsL L) A L.length c w) (hK : Flat 3 (hcsL L) B L.length d w) (hl : L.length ≤ 9223372036854775807) :
    Calls Try.prog 44 #[.slice A L.length c, .slice B L.length d] w fun e w' => e = .returned (.bool true) ∧ Below w.heap.size w w' := by
  have hS := ((St.start w).flat (M := []) hL).flat (M := []) hK
  refine goes_enter2 Try.func44 rfl Try.ntmps44 rfl ?_
  refine goes_seq ?_
  refine goes_region ?_
  refine lst_run (run_assign (by conv => lhs; whnf)) rfl ?_
  refine lst_done ?_
  refine goes_seq ?_
  refine goes_seq ?_
  refine goes_region ?_
  refine lst_run (run_move (by conv => lhs; whnf)) rfl ?_
  refine lst_run (run_len_slice rfl rfl rfl) rfl ?_
  refine lst_run (run_move (by conv => lhs; whnf)) rfl ?_
  refine lst_run (run_len_slice rfl rfl rfl) rfl ?_
  first
    | refine lst_run (run_neq_one_int rfl rfl) rfl ?_
    | refine lst_run (run_neq_no rfl rfl (by first | assumption | omega)) rfl ?_
    | refine lst_run (run_neq_yes rfl rfl (by omega)) rfl ?_
    | refine lst_run (rfl) rfl ?_
  refine lst_done ?_
  refine goes_false rfl ?_
  refine goes_skip ?_
  refine goes_seq ?_
  refine goes_seq ?_
  refine goes_region ?_
  refine lst_run (run_move (by conv => lhs; whnf)) rfl ?_
  refine lst_run (run_len_slice rfl rfl rfl) rfl ?_
  refine lst_run (run_move (by conv => lhs; whnf)) rfl ?_
  refine lst_done ?_
  refine goes_block ?_
  refine goes_loop1 13 (14 :: 15 :: 5 :: 16 :: 17 :: 18 :: 19 :: 20 :: 21 :: 22 :: 23 :: 24 :: 4 :: 25 :: []) (fun (R : List HC) v w' => ∃ D, L = D ++ R ∧ v = .int .i64 (D.length : Nat) ∧ St [] w [] [Flat 3 (hcsL L) B L.length d, Flat 3 (hcsL L) A L.length c] w') (fun R => R.length) (L) ?_ (by conv => lhs; whnf) ?_
  · exact ⟨[], rfl, rfl, hS⟩
  clear hS
  rintro R _ w2 jv ⟨D, hD, rfl, hS⟩ ih
  have hlen : L.length = D.length + R.length := by rw [hD]; simp
  cases R with
  | nil =>
    simp only [List.length_nil] at hlen
    refine goes_seq ?_
    refine goes_region ?_
    first
      | refine lst_run (run_lss_yes rfl rfl (by omega)) rfl ?_
      | refine lst_run (run_lss_no rfl rfl (by omega)) rfl ?_
      | refine lst_run (rfl) rfl ?_
    refine lst_done ?_
    refine goes_seq ?_
    refine goes_false rfl ?_
    refine goes_exit rfl ?_
    refine goes_seq ?_
    refine goes_region ?_
    refine lst_run (run_assign (by conv => lhs; whnf)) rfl ?_
    refine lst_done ?_
    refine goes_ret1 Try.func44 rfl (by conv => lhs; whnf) ?_
    exact ⟨rfl, hS.ext.below⟩
  | cons x R =>
    simp only [List.length_cons] at hlen
    obtain ⟨b, o, rfl⟩ := hL.some_ (by omega)
    obtain ⟨b2, o2, rfl⟩ := hK.some_ (by omega)
    have hx : L[D.length]? = some x := by rw [hD]; simp
    have hcc : ∀ {H'} w', St [] w H' [Flat 3 (hcsL L) (some ⟨b2, o2, none⟩) L.length d, Flat 3 (hcsL L) (some ⟨b, o, none⟩) L.length c] w' → _ := fun w' hS => (hS.fact (.head _)).cell hx
    have hcd : ∀ {H'} w', St [] w H' [Flat 3 (hcsL L) (some ⟨b2, o2, none⟩) L.length d, Flat 3 (hcsL L) (some ⟨b, o, none⟩) L.length c] w' → _ := fun w' hS => (hS.fact (.tail _ (.head _))).cell hx
    refine goes_seq ?_
    refine goes_region ?_
    first
      | refine lst_run (run_lss_yes rfl rfl (by omega)) rfl ?_
      | refine lst_run (run_lss_no rfl rfl (by omega)) rfl ?_
      | refine lst_run (rfl) rfl ?_
    refine lst_done ?_
    refine goes_seq ?_
    refine goes_true rfl ?_
    refine goes_skip ?_
    refine goes_seq ?_
    refine goes_block ?_
    refine goes_seq ?_
    refine goes_region ?_
    refine lst_run (run_move (by conv => lhs; whnf)) rfl ?_
    refine lst_run (run_assign (by conv => lhs; whnf)) rfl ?_
    refine lst_done ?_
    refine goes_seq ?_
    refine goes_draw (St _ _ _ _) 9 ((0, true) :: (1, true) :: (2, true) :: (3, true) :: (4, true) :: (5, true) :: (6, true) :: (7, true) :: (8, true) :: []) (by kernel_rfl) (by kernel_rfl) (hS.drew) ?_
    replace hS := hS.drew
    refine ord_read rfl (fun _ hS => run_move (by conv => lhs; whnf)) rfl ?_
    refine ord_read rfl (fun _ hS => run_move (by conv => lhs; whnf)) rfl ?_
    refine ord_read rfl (fun _ hS => run_indexAddr (sz := 3) rfl rfl rfl rfl (by omega) (by omega)) rfl ?_
    first
      | refine ord_read rfl (fun _ hS => run_loadN_own (k := 3) hS rfl rfl rfl (by first | exact .head | exact .tail .head | exact .tail (.tail .head) | exact .tail (.tail (.tail .head)) | exact .tail (.tail (.tail (.tail .head))) | exact .tail (.tail (.tail (.tail (.tail .head))))) (by repeat constructor)) rfl ?_
      | refine ord_read rfl (fun _ hS => run_load3 rfl rfl rfl (by first | assumption | exact (hcc _ hS).1 | exact (hcc _ hS).2.1 | exact (hcc _ hS).2.2 | exact (hcd _ hS).1 | exact (hcd _ hS).2.1 | exact (hcd _ hS).2.2 | exact hS.cell0 (by assumption)) (by first | assumption | exact (hcc _ hS).1 | exact (hcc _ hS).2.1 | exact (hcc _ hS).2.2 | exact (hcd _ hS).1 | exact (hcd _ hS).2.1 | exact (hcd _ hS).2.2 | exact hS.cell0 (by assumption)) (by first | assumption | exact (hcc _ hS).1 | exact (hcc _ hS).2.1 | exact (hcc _ hS).2.2 | exact (hcd _ hS).1 | exact (hcd _ hS).2.1 | exact (hcd _ hS).2.2 | exact hS.cell0 (by assumption))) rfl ?_
    refine ord_read rfl (fun _ hS => run_move (by conv => lhs; whnf)) rfl ?_
    refine ord_read rfl (fun _ hS => run_move (by conv => lhs; whnf)) rfl ?_
    refine ord_read rfl (fun _ hS => run_indexAddr (sz := 3) rfl rfl rfl rfl (by omega) (by omega)) rfl ?_
    first
      | refine ord_read rfl (fun _ hS => run_loadN_own (k := 3) hS rfl rfl rfl (by first | exact .head | exact .tail .head | exact .tail (.tail .head) | exact .tail (.tail (.tail .head)) | exact .tail (.tail (.tail (.tail .head))) | exact .tail (.tail (.tail (.tail (.tail .head))))) (by repeat constructor)) rfl ?_
      | refine ord_read rfl (fun _ hS => run_load3 rfl rfl rfl (by first | assumption | exact (hcc _ hS).1 | exact (hcc _ hS).2.1 | exact (hcc _ hS).2.2 | exact (hcd _ hS).1 | exact (hcd _ hS).2.1 | exact (hcd _ hS).2.2 | exact hS.cell0 (by assumption)) (by first | assumption | exact (hcc _ hS).1 | exact (hcc _ hS).2.1 | exact (hcc _ hS).2.2 | exact (hcd _ hS).1 | exact (hcd _ hS).2.1 | exact (hcd _ hS).2.2 | exact hS.cell0 (by assumption)) (by first | assumption | exact (hcc _ hS).1 | exact (hcc _ hS).2.1 | exact (hcc _ hS).2.2 | exact (hcd _ hS).1 | exact (hcd _ hS).2.1 | exact (hcd _ hS).2.2 | exact hS.cell0 (by assumption))) rfl ?_
    refine ord_read rfl (fun _ hS => run_neq_cell rfl rfl) rfl ?_
    refine ord_end ?_
    refine lst_done ?_
    rw [decide_eq_true (rfl : x = x)]
    refine goes_false rfl ?_
    refine goes_skip ?_
    refine goes_inBlock ?_
    refine goes_region ?_
    refine lst_run (run_add rfl rfl (by omega) (by omega)) rfl ?_
    refine lst_run (run_move (by conv => lhs; whnf)) rfl ?_
    refine lst_done ?_
    refine ih (R) _ _ _ ?_ ?_ (by conv => lhs; whnf) (by kernel_rfl)
    · simp
    · exact ⟨D ++ [x], by rw [hD]; simp, by simp, hS⟩
theorem sameHeap_eq (h : HH) (A B A2 B2 : Option Addr) (c d c2 d2 : Nat) (w : World) (h1 : HFl h A c B d w) (h2 : HFl h A2 c2 B2 d2 w) (hl : h.cs.length ≤ 9223372036854775807) (hl2 : h.tr.length ≤ 9223372036854775807) :
    Calls Try.prog 14 #[hv h A c B d, hv h A2 c2 B2 d2] w fun e w' => e = .returned (.bool true) ∧ Below w.heap.size w w' := by
  have hS := ((St.start w).base (φ := HFl h A c B d) fun w' hx => h1.ext hx).base (φ := HFl h A2 c2 B2 d2) fun w' hx => h2.ext hx
  refine goes_enter2 Try.func14 rfl Try.ntmps14 rfl ?_
  refine goes_seq ?_
  refine goes_region ?_
  refine lst_box hS rfl rfl ?_
  clear hS
  intro b1 wx1 hS
  refine lst_box hS rfl rfl ?_
  clear hS
  intro b2 wx2 hS
  refine lst_run (run_assign (by conv => lhs; whnf)) rfl ?_
  refine lst_done ?_
  refine goes_seq ?_
  refine goes_region ?_
  refine lst_run (run_fieldAddr (off := 0) rfl rfl) rfl ?_
  first
    | refine lst_run (run_load1_own hS rfl rfl (by first | exact .head | exact .tail .head | exact .tail (.tail .head) | exact .tail (.tail (.tail .head)) | exact .tail (.tail (.tail (.tail .head))) | exact .tail (.tail (.tail (.tail (.tail .head))))) (by repeat constructor)) rfl ?_
    | refine lst_run (run_load1 rfl rfl (by first | assumption | exact (hcc _ hS).1 | exact (hcc _ hS).2.1 | exact (hcc _ hS).2.2 | exact (hcd _ hS).1 | exact (hcd _ hS).2.1 | exact (hcd _ hS).2.2 | exact hS.cell0 (by assumption) | exact lv_next hS | exact lv_list hS)) rfl ?_
  refine lst_run (run_fieldAddr (off := 0) rfl rfl) rfl ?_
  first
    | refine lst_run (run_load1_own hS rfl rfl (by first | exact .head | exact .tail .head | exact .tail (.tail .head) | exact .tail (.tail (.tail .head)) | exact .tail (.tail (.tail (.tail .head))) | exact .tail (.tail (.tail (.tail (.tail .head))))) (by repeat constructor)) rfl ?_
    | refine lst_run (run_load1 rfl rfl (by first | assumption | exact (hcc _ hS).1 | exact (hcc _ hS).2.1 | exact (hcc _ hS).2.2 | exact (hcd _ hS).1 | exact (hcd _ hS).2.1 | exact (hcd _ hS).2.2 | exact hS.cell0 (by assumption) | exact lv_next hS | exact lv_list hS)) rfl ?_
  refine lst_enter (run_call (by kernel_rfl) (args_2 (by conv => lhs; whnf) (by conv => lhs; whnf))) rfl ?_
  refine Calls.mono (sameCells_eq h.cs A A2 c c2 _ (hS.fact (.tail _ (.head _))).1 (hS.fact (.head _)).1 hl) ?_
  rintro _ w3 ⟨rfl, hb3⟩
  refine ⟨_, rfl, ?_⟩
  replace hS := hS.grow hb3
  refine lst_run (run_move (by conv => lhs; whnf)) rfl ?_
  refine lst_guard rfl rfl ?_
  refine lst_run (run_fieldAddr (off := 1) rfl rfl) rfl ?_
  refine lst_guard rfl rfl ?_
  first
    | refine lst_run (run_load1_own hS rfl rfl (by first | exact .head | exact .tail .head | exact .tail (.tail .head) | exact .tail (.tail (.tail .head)) | exact .tail (.tail (.tail (.tail .head))) | exact .tail (.tail (.tail (.tail (.tail .head))))) (by repeat constructor)) rfl ?_
    | refine lst_run (run_load1 rfl rfl (by first | assumption | exact (hcc _ hS).1 | exact (hcc _ hS).2.1 | exact (hcc _ hS).2.2 | exact (hcd _ hS).1 | exact (hcd _ hS).2.1 | exact (hcd _ hS).2.2 | exact hS.cell0 (by assumption) | exact lv_next hS | exact lv_list hS)) rfl ?_
  refine lst_guard rfl rfl ?_
  refine lst_run (run_fieldAddr (off := 1) rfl rfl) rfl ?_
  refine lst_guard rfl rfl ?_
  first
    | refine lst_run (run_load1_own hS rfl rfl (by first | exact .head | exact .tail .head | exact .tail (.tail .head) | exact .tail (.tail (.tail .head)) | exact .tail (.tail (.tail (.tail .head))) | exact .tail (.tail (.tail (.tail (.tail .head))))) (by repeat constructor)) rfl ?_
    | refine lst_run (run_load1 rfl rfl (by first | assumption | exact (hcc _ hS).1 | exact (hcc _ hS).2.1 | exact (hcc _ hS).2.2 | exact (hcd _ hS).1 | exact (hcd _ hS).2.1 | exact (hcd _ hS).2.2 | exact hS.cell0 (by assumption) | exact lv_next hS | exact lv_list hS)) rfl ?_
  refine lst_guard rfl rfl ?_
  refine lst_enter (run_call (by kernel_rfl) (args_2 (by conv => lhs; whnf) (by conv => lhs; whnf))) rfl ?_
  refine Calls.mono (sameNumbersR_eq h.tr B B2 d d2 _ (hS.fact (.tail _ (.head _))).2 (hS.fact (.head _)).2 hl2) ?_
  rintro _ w4 ⟨rfl, hb4⟩
  refine ⟨_, rfl, ?_⟩
  replace hS := hS.grow hb4
  first
    | refine lst_run (run_pick_t rfl (by conv => lhs; whnf)) rfl ?_
    | refine lst_run (run_pick_f rfl (by conv => lhs; whnf)) rfl ?_
  refine lst_run (run_assign (by conv => lhs; whnf)) rfl ?_
  refine lst_done ?_
  refine goes_ret1 Try.func14 rfl (by conv => lhs; whnf) ?_
  exact ⟨rfl, hS.ext.below⟩
section
variable {M : List Nat} {w0 : World} {H : List (Nat × Obj)} {F : List (World → Prop)}
theorem copyHeap_any (h : HH) (A B : Option Addr) (c d : Nat) (w : World) (hH : Und F (HFl h A c B d)) (hl : h.cs.length ≤ 4398046511104) (hl2 : h.tr.length ≤ 17592186044416) (hS : St M w0 H F w) :
    Calls Try.prog 11 #[hv h A c B d] w fun e w' => ∃ (A' : Option Addr) (c' : Nat) (B' : Option Addr) (d' : Nat) (O O2 : List (Nat × Obj)), e = .returned (hv h A' c' B' d') ∧ Rw 59 3 (.slice A' h.cs.length c') h.cs.length (hcsL h.cs) O ∧ Rw 3 1 (.slice B' h.tr.length d') h.tr.length (intsV h.tr) O2 ∧ St M w0 (O ++ (O2 ++ H)) F w' := by
  have hL : Und F (Flat 3 (hcsL h.cs) A h.cs.length c) := hH.imp fun _ h => h.1
  have hT : Und F (Flat 1 (intsV h.tr) B h.tr.length d) := hH.imp fun _ h => h.2
  refine goes_enter1 Try.func11 rfl Try.ntmps11 rfl ?_
  refine goes_seq ?_
  refine goes_region ?_
  refine lst_box hS rfl rfl ?_
  clear hS
  intro b1 wx1 hS
  refine lst_alloc (cs := [_, _]) hS rfl rfl rfl ?_
  clear hS
  intro b2 wx2 hS
  refine lst_done ?_
  refine goes_seq ?_
  refine goes_meet1 9 (3 :: 4 :: 5 :: 6 :: 7 :: 8 :: []) (fun v w' => ∃ A3 c3 A4 c4 O3 O4, Rw 59 3 (.slice A3 h.cs.length c3) h.cs.length (hcsL h.cs) O3 ∧ Rw 3 1 (.slice A4 h.tr.length c4) h.tr.length (intsV h.tr) O4 ∧ St M w0 ((b2, hob A3 h.cs.length c3 A4 h.tr.length c4) :: (b1, hob A h.cs.length c B h.tr.length d) :: (O3 ++ (O4 ++ H))) F w') ?_ ?_
  · intro hmeet
    refine goes_plan (St _ _ _ _) 7 (.read 0 (.read 1 (.read 3 (.read 4 (.pick 2 (.pick 5 (.read 6 .tail) .none) .none))))) (by kernel_rfl) (by kernel_rfl) hS.drew ?_
    replace hS := hS.drew
    refine pln_read rfl (fun _ hS => run_fieldAddr (off := 0) rfl rfl) rfl ?_
    first
      | refine pln_read rfl (fun _ hS => run_load1_own hS rfl rfl (by first | exact .head | exact .tail .head | exact .tail (.tail .head) | exact .tail (.tail (.tail .head)) | exact .tail (.tail (.tail (.tail .head))) | exact .tail (.tail (.tail (.tail (.tail .head))))) (by repeat constructor)) rfl ?_
      | refine pln_read rfl (fun _ hS => run_load1 rfl rfl (by first | assumption | exact (hcc _ hS).1 | exact (hcc _ hS).2.1 | exact (hcc _ hS).2.2 | exact (hcd _ hS).1 | exact (hcd _ hS).2.1 | exact (hcd _ hS).2.2 | exact hS.cell0 (by assumption) | exact lv_next hS | exact lv_list hS)) rfl ?_
    refine pln_read rfl (fun _ hS => run_fieldAddr (off := 1) rfl rfl) rfl ?_
    first
      | refine pln_read rfl (fun _ hS => run_load1_own hS rfl rfl (by first | exact .head | exact .tail .head | exact .tail (.tail .head) | exact .tail (.tail (.tail .head)) | exact .tail (.tail (.tail (.tail .head))) | exact .tail (.tail (.tail (.tail (.tail .head))))) (by repeat constructor)) rfl ?_
      | refine pln_read rfl (fun _ hS => run_load1 rfl rfl (by first | assumption | exact (hcc _ hS).1 | exact (hcc _ hS).2.1 | exact (hcc _ hS).2.2 | exact (hcd _ hS).1 | exact (hcd _ hS).2.1 | exact (hcd _ hS).2.2 | exact hS.cell0 (by assumption) | exact lv_next hS | exact lv_list hS)) rfl ?_
    refine pln_last rfl ?_
    refine lst_appC (xs := []) (O := []) hS (by conv => lhs; whnf) (by conv => lhs; whnf) rfl rfl rfl (hS.und hL) Rw.zero_ (.refl _) (by omega) rfl ?_
    clear hS
    intro v3 O3 w3 hrow3 hS
    rw [Nat.zero_add, List.nil_append] at hrow3
    obtain ⟨A3, c3, rfl, _⟩ := hrow3.form
    replace hS := hS.perm (List.perm_append_comm_assoc O3 [_, _] _)
    refine lst_pln (by first | exact hS | exact hS.drop | exact hS.drop.drop | exact hS.drop.drop.drop | exact hS.unlearn | exact hS.unlearn.drop | exact hS.unlearn.drop.drop | exact St.dropL (L := O3) (hS.perm (List.perm_append_comm_assoc [_, _] O3 _)) | exact St.dropL (L := O4) (hS.perm (List.perm_append_comm_assoc [_, _] O4 _)) | exact St.dropL (L := O3) ((St.dropL (L := O4) (hS.perm (List.perm_append_comm_assoc [_, _] O4 _))).perm (List.perm_append_comm_assoc [_, _] O3 _)) | exact St.dropL (L := O4) ((St.dropL (L := O3) (hS.perm (List.perm_append_comm_assoc [_, _] O3 _))).perm (List.perm_append_comm_assoc [_, _] O4 _))) ?_
    refine pln_last rfl ?_
    refine lst_appI (xs := []) (O := []) hS (by conv => lhs; whnf) (by conv => lhs; whnf) rfl rfl rfl (hS.und hT) Rw.zero_ (.refl _) (by omega) rfl ?_
    clear hS
    intro v4 O4 w4 hrow4 hS
    rw [Nat.zero_add, List.nil_append] at hrow4
    obtain ⟨A4, c4, rfl, _⟩ := hrow4.form
    replace hS := hS.perm (List.perm_append_comm_assoc O4 [_, _] _)
    refine lst_pln (by first | exact hS | exact hS.drop | exact hS.drop.drop | exact hS.drop.drop.drop | exact hS.unlearn | exact hS.unlearn.drop | exact hS.unlearn.drop.drop | exact St.dropL (L := O3) (hS.perm (List.perm_append_comm_assoc [_, _] O3 _)) | exact St.dropL (L := O4) (hS.perm (List.perm_append_comm_assoc [_, _] O4 _)) | exact St.dropL (L := O3) ((St.dropL (L := O4) (hS.perm (List.perm_append_comm_assoc [_, _] O4 _))).perm (List.perm_append_comm_assoc [_, _] O3 _)) | exact St.dropL (L := O4) ((St.dropL (L := O3) (hS.perm (List.perm_append_comm_assoc [_, _] O3 _))).perm (List.perm_append_comm_assoc [_, _] O4 _))) ?_
    refine pln_read rfl (fun _ hS => run_build (cells := [_, _]) (.cons (by conv => lhs; whnf) (.cons (by conv => lhs; whnf) .nil)) rfl) rfl ?_
    refine pln_tail ?_
    refine lst_storeN hS rfl (by conv => lhs; whnf) rfl rfl (by first | exact .head | exact .tail .head | exact .tail (.tail .head) | exact .tail (.tail (.tail .head)) | exact .tail (.tail (.tail (.tail .head))) | exact .tail (.tail (.tail (.tail (.tail .head))))) (by repeat constructor) (by first | exact .head | exact .tail .head | exact .tail (.tail .head) | exact .tail (.tail (.tail .head)) | exact .tail (.tail (.tail (.tail .head))) | exact .tail (.tail (.tail (.tail (.tail .head))))) ?_
    clear hS
    intro wx3 hS
    refine lst_done ?_
    exact hmeet _ _ _ ⟨A3, c3, A4, c4, O3, O4, hrow3, hrow4, by first | exact hS | exact hS.perm (.cons _ (.cons _ (List.perm_append_comm_assoc O4 O3 _)))⟩ (by conv => lhs; whnf) (by kernel_rfl)
  clear hS
  rintro jv _ w5 ⟨A3, c3, A4, c4, O3, O4, hrow3, hrow4, hS⟩
  refine goes_retC (sz := 2) hS Try.func11 rfl rfl rfl rfl (by first | exact .head | exact .tail .head | exact .tail (.tail .head) | exact .tail (.tail (.tail .head)) | exact .tail (.tail (.tail (.tail .head))) | exact .tail (.tail (.tail (.tail (.tail .head))))) (by repeat constructor) ?_
  exact ⟨A3, c3, A4, c4, O3, O4, rfl, hrow3, hrow4, hS.drop.drop⟩
/-- A copy that nobody writes. -/
theorem copyHeap_kept (h : HH) (A B : Option Addr) (c d : Nat) (w : World) (hH : Und F (HFl h A c B d)) (hl : h.cs.length ≤ 4398046511104) (hl2 : h.tr.length ≤ 17592186044416) (hS : St M w0 H F w) :
    Calls Try.prog 11 #[hv h A c B d] w (HRes M w0 H F h fun A' c' B' d' e => e = .returned (hv h A' c' B' d')) :=
  (copyHeap_any h A B c d w hH hl hl2 hS).mono fun e w' ⟨A3, c3, A4, c4, O3, O4, he, hrow3, hrow4, hS⟩ => by
    have hS3 := St.freezeR hrow3 hS
    have hS4 := St.freezeR hrow4 hS3
    exact ⟨A3, c3, A4, c4, _, he, fun φ h => .tail _ (.tail _ h), fun w' hw => ⟨hw _ (.tail _ (.head _)), hw _ (.head _)⟩, hS4⟩
end
end Go.Proofs.Ytjicoifjgokoiab
namespace Go.Proofs.Ytjicoifjgokoiab
open Go.RowKit
set_option linter.unusedVariables false
set_option linter.unusedSimpArgs false

theorem stepLong {u : HU} (h : 400 ≤ u.w) : u.step.lg = true := by
  simp only [HU.step]; rw [decide_eq_true (by omega)]; simp
/-- Two looks, one after the other. -/
theorem looks_ok {u : HU} {a b : Int} (h : ((u.step.look a).2.look b).2.lg = false) :
    u.step.lg = false ∧ (u.step.look a).1 = hlook u.cs a ∧ ((u.step.look a).2.look b).1 = hlook u.cs b ∧ End u.cs a (hlook u.cs a) ∧ End u.cs b (hlook u.cs b) ∧ ((u.step.look a).2.look b).2.cs = u.cs ∧ ((u.step.look a).2.look b).2.tr = u.tr ∧ ((u.step.look a).2.look b).2.w = u.w + 1 := by
  have hwa := look_w u.step a
  have hwb := look_w (u.step.look a).2 b
  obtain ⟨hla, hb1, hb2⟩ := look_ok h
  obtain ⟨hls, ha1, ha2⟩ := look_ok hla
  rw [hwa.2.1] at hb1 hb2
  exact ⟨hls, ha1, hb1, end_look ha2, end_look hb2, by rw [hwb.2.1, hwa.2.1]; rfl, by rw [hwb.2.2, hwa.2.2]; rfl, by rw [hwb.1, hwa.1]; rfl⟩
/-- What a run that comes to an end without being long has made of two places. -/
structure One (a b : Int) (u : HU) (v : HU) : Prop where
  up : Up u.cs v.cs
  sm : ∀ L, Up v.cs L → Sm L a b
theorem all_one {n : Nat} {g : Int → Int → HU → Bool × HU} (hu : ∀ x y u, GU n u → u.lg = false → UU n u (g x y u)) (hg : ∀ x y u, GU n u → u.lg = false → (g x y u).1 = true → One x y u (g x y u).2) :
    ∀ (m : Nat) (x y : Int) (u : HU), GU n u → u.lg = false → (allU g m x y u).1 = true → Up u.cs (allU g m x y u).2.cs ∧ ∀ L, Up (allU g m x y u).2.cs L → ∀ i : Int, 0 ≤ i → i < m → Sm L (x + i) (y + i)
  | 0, x, y, u, h, hl, _ => ⟨Up.refl _, fun L _ i i0 i1 => by omega⟩
  | m + 1, x, y, u, h, hl, hr => by
    have h1 := hu x y u h hl
    simp only [allU] at hr ⊢
    by_cases hok : (g x y u).1 = true
    · rw [if_pos hok] at hr ⊢
      have o1 := hg x y u h hl hok
      obtain ⟨u1, u2⟩ := all_one hu hg m (x + 1) (y + 1) (g x y u).2 h1.gu (h1.ok hok) hr
      refine ⟨o1.up.trans u1, fun L hL i i0 i1 => ?_⟩
      by_cases hi : i = 0
      · subst hi
        have := o1.sm L (u1.trans hL)
        simpa using this
      · have := u2 L hL (i - 1) (by omega) (by omega)
        rw [show x + 1 + (i - 1) = x + i by omega, show y + 1 + (i - 1) = y + i by omega] at this
        exact this
    · rw [if_neg hok] at hr; exact absurd hr hok
theorem asg_one {n : Nat} {u : HU} (h : GU n u) {p q : Int} {x y : HC} (hx : hat u.cs p = some x) (hxk : x.k = 0) (hxe : x.n = p) (hy : hat u.cs q = some y) (hyk : y.k ≠ 0) (hr : (asgU p q u).1 = true) :
    (asgU p q u).2.cs = setN u.cs p.toNat q ∧ (asgU p q u).2.tr = u.tr ++ [p] ∧ q ≠ p := by
  have ho := occ_up (n := n) p 401 q u h.good h.wk
  unfold asgU at hr ⊢
  split at hr
  · cases hr
  · rename_i hn
    rw [if_neg hn]
    refine ⟨by simp only [HU.bind]; rw [ho.cs], by simp only [HU.bind]; rw [ho.tr], fun e => ?_⟩
    rw [e, hx] at hy; cases hy; exact hyk hxk
theorem uni_one {n : Nat} : ∀ (f : Nat) (a b : Int) (u : HU), GU n u → u.lg = false → (uniU f a b u).1 = true → One a b u (uniU f a b u).2
  | 0, a, b, u, h, hl, hr => by simp [uniU] at hr
  | f + 1, a, b, u, h, hl, hr => by
    have hg2 : GU n ((u.step.look a).2.look b).2 := (h.step.look a).look b
    simp only [uniU] at hr ⊢
    by_cases hl2 : ((u.step.look a).2.look b).2.lg = true
    · rw [if_pos hl2] at hr; cases hr
    have hl3 : ((u.step.look a).2.look b).2.lg = false := by simpa using hl2
    rw [if_neg hl2] at hr ⊢
    obtain ⟨_, ha, hb, ea, eb, hcs, htr, _⟩ := looks_ok hl3
    rw [ha, hb] at hr ⊢
    obtain ⟨x, hx, hxe⟩ := ea.last
    obtain ⟨y, hy, hye⟩ := eb.last
    generalize hp : hlook u.cs a = p at *
    generalize hq : hlook u.cs b = q at *
    generalize ((u.step.look a).2.look b).2 = v at *
    rw [show kindAt u.cs p = x.k by unfold kindAt; rw [hx], show kindAt u.cs q = y.k by unfold kindAt; rw [hy]] at hr ⊢
    have fin : ∀ {L1 : List HC} {z : Int}, Up u.cs L1 → End L1 a z → End L1 b z → ∀ {v' : HU}, v'.cs = L1 → One a b u v' := fun hU h1 h2 v' e => ⟨by rw [e]; exact hU, fun L hL => by
      rw [e] at hL
      obtain ⟨s, s1, s2⟩ := hL.ends _ _ h1
      obtain ⟨t, t1, t2⟩ := hL.ends _ _ h2
      have := s2.det t2
      subst this
      exact Sm.meet s1 t1⟩
    have bindOne : ∀ {r z : Int} {c : HC}, hat u.cs r = some c → c.k = 0 → c.n = r → End u.cs z z → z ≠ r → (∀ a', End u.cs a' r ∨ End u.cs a' z → End (setN u.cs r.toNat z) a' z) := fun hr' hk' hn' hz hne a' ha' => by
      obtain ⟨k1, k2⟩ := end_bind hr' hk' hn' hz hne
      rcases ha' with g | g
      · exact k2 _ g
      · exact k1 _ _ g hne
    by_cases hxk : x.k = 0
    · have hxn : x.n = p := Classical.byContradiction fun e => hxe ⟨hxk, e⟩
      rw [if_pos hxk] at hr ⊢
      by_cases hyk : y.k = 0
      · have hyn : y.n = q := Classical.byContradiction fun e => hye ⟨hyk, e⟩
        rw [if_pos hyk] at hr ⊢
        by_cases hpq : p = q
        · rw [if_pos hpq]
          subst hpq
          exact fin (Up.refl _) ea eb hcs
        · rw [if_neg hpq]
          rcases Int.le_total p q with hle | hle
          · rw [Int.max_eq_right hle, Int.min_eq_left hle]
            have := bindOne hy hyk hyn ea.self hpq
            exact fin (up_bind hy hyk hyn ea.self hpq) (this a (.inr ea)) (this b (.inl eb)) (by simp only [HU.bind]; rw [hcs])
          · rw [Int.max_eq_left hle, Int.min_eq_right hle]
            have := bindOne hx hxk hxn eb.self (Ne.symm hpq)
            exact fin (up_bind hx hxk hxn eb.self (Ne.symm hpq)) (this a (.inl ea)) (this b (.inr eb)) (by simp only [HU.bind]; rw [hcs])
      · rw [if_neg hyk] at hr ⊢
        obtain ⟨e1, _, hne⟩ := asg_one hg2 (p := p) (q := q) (by rw [hcs]; exact hx) hxk hxn (by rw [hcs]; exact hy) hyk hr
        rw [hcs] at e1
        have := bindOne hx hxk hxn eb.self hne
        exact fin (up_bind hx hxk hxn eb.self hne) (this a (.inl ea)) (this b (.inr eb)) e1
    · rw [if_neg hxk] at hr ⊢
      by_cases hyk : y.k = 0
      · have hyn : y.n = q := Classical.byContradiction fun e => hye ⟨hyk, e⟩
        rw [if_pos hyk] at hr ⊢
        obtain ⟨e1, _, hne⟩ := asg_one hg2 (p := q) (q := p) (by rw [hcs]; exact hy) hyk hyn (by rw [hcs]; exact hx) hxk hr
        rw [hcs] at e1
        have := bindOne hy hyk hyn ea.self hne
        exact fin (up_bind hy hyk hyn ea.self hne) (this a (.inr ea)) (this b (.inl eb)) e1
      · rw [if_neg hyk] at hr ⊢
        unfold partsU at hr ⊢
        by_cases hxy : hat v.cs p = hat v.cs q
        · rw [if_pos hxy] at hr ⊢
          obtain ⟨u1, u2⟩ := all_one (n := n) (fun x y u => uni_up f x y u) (fun x y u h hl hr => uni_one f x y u h hl hr) _ _ _ v hg2 hl3 hr
          replace u1 : Up u.cs (allU (uniU f) (argsAt v.cs p) (p + 1) (q + 1) v).2.cs := by rw [← hcs]; exact u1
          rw [hcs] at hxy
          rw [hx, hy] at hxy
          obtain rfl := Option.some.inj hxy
          have hA : argsAt v.cs p = (argsC x).toNat := by unfold argsAt; rw [hcs, hx]
          refine ⟨u1, fun L hL => ?_⟩
          have hU := u1.trans hL
          exact Sm.of (hU.nonvar ea hx hxk) (hU.nonvar eb hy hyk) (.inr ⟨x, hU.cell _ _ hx hxk, hU.cell _ _ hy hyk, hxk, fun i i0 i1 => u2 L hL i i0 (by rw [hA]; omega)⟩)
        · rw [if_neg hxy] at hr; cases hr
/-- What is one needs nothing more. -/
def Still (u : HU) (r : Bool × HU) : Prop := r.2.lg = true ∨ (r.1 = true ∧ r.2.cs = u.cs ∧ r.2.tr = u.tr ∧ u.w ≤ r.2.w ∧ r.2.lg = false)
theorem all_still {n : Nat} {g : Int → Int → HU → Bool × HU} {L : List HC} {k : Nat} (hu : ∀ x y u, GU n u → u.lg = false → UU n u (g x y u)) (hg : ∀ x y u, GU n u → u.lg = false → u.cs = L → k ≤ u.w → Sm L x y → Still u (g x y u)) :
    ∀ (m : Nat) (x y : Int) (u : HU), GU n u → u.lg = false → u.cs = L → k ≤ u.w → (∀ i : Int, 0 ≤ i → i < m → Sm L (x + i) (y + i)) → Still u (allU g m x y u)
  | 0, x, y, u, h, hl, hc, hw, _ => .inr ⟨rfl, rfl, rfl, Nat.le_refl _, hl⟩
  | m + 1, x, y, u, h, hl, hc, hw, hs => by
    have h1 := hu x y u h hl
    simp only [allU]
    rcases hg x y u h hl hc hw (by simpa using hs 0 (by omega) (by omega)) with h2 | ⟨h2, h3, h4, h5, h6⟩
    · by_cases hok : (g x y u).1 = true
      · rw [h1.ok hok] at h2; cases h2
      · rw [if_neg hok]; exact .inl h2
    · rw [if_pos h2]
      rcases all_still hu hg m (x + 1) (y + 1) (g x y u).2 h1.gu h6 (h3.trans hc) (by omega) (fun i i0 i1 => by
        have := hs (i + 1) (by omega) (by omega)
        rw [show x + 1 + i = x + (i + 1) by omega, show y + 1 + i = y + (i + 1) by omega]; exact this) with g2 | ⟨g2, g3, g4, g5, g6⟩
      · exact .inl g2
      · exact .inr ⟨g2, g3.trans h3, g4.trans h4, by omega, g6⟩
theorem uni_still {n : Nat} {L : List HC} : ∀ (f : Nat) (a b : Int) (u : HU), GU n u → u.lg = false → u.cs = L → 400 ≤ u.w + f → Sm L a b → Still u (uniU f a b u)
  | 0, a, b, u, h, hl, hc, hw, hs => by
    left
    simp only [uniU]
    cases hq : ((u.step.look a).2.look b).2.lg with
    | true => rfl
    | false => have := (looks_ok hq).1; rw [stepLong (by omega)] at this; cases this
  | f + 1, a, b, u, h, hl, hc, hw, hs => by
    have hg2 : GU n ((u.step.look a).2.look b).2 := (h.step.look a).look b
    simp only [uniU]
    by_cases hl2 : ((u.step.look a).2.look b).2.lg = true
    · rw [if_pos hl2]; exact .inl hl2
    have hl3 : ((u.step.look a).2.look b).2.lg = false := by simpa using hl2
    rw [if_neg hl2]
    obtain ⟨_, ha, hb, ea, eb, hcs, htr, hw2⟩ := looks_ok hl3
    rw [ha, hb]
    obtain ⟨x, hx, hxe⟩ := ea.last
    obtain ⟨y, hy, hye⟩ := eb.last
    have hstep := hs.step (by rw [← hc]; exact ea) (by rw [← hc]; exact eb)
    rw [← hc] at hstep
    generalize hlook u.cs a = p at *
    generalize hlook u.cs b = q at *
    generalize ((u.step.look a).2.look b).2 = v at *
    rw [show kindAt u.cs p = x.k by unfold kindAt; rw [hx], show kindAt u.cs q = y.k by unfold kindAt; rw [hy]]
    have parts : (∀ i : Int, 0 ≤ i → i < argsC x → Sm L (p + 1 + i) (q + 1 + i)) → hat u.cs p = hat u.cs q → Still u (partsU (uniU f) p q v) := fun hch he => by
      unfold partsU
      rw [if_pos (by rw [hcs]; exact he)]
      have hA : argsAt v.cs p = (argsC x).toNat := by unfold argsAt; rw [hcs, hx]
      rcases all_still (n := n) (L := L) (k := v.w) (fun x y u => uni_up f x y u) (fun x y u g1 g2 g3 g4 g5 => uni_still f x y u g1 g2 g3 (by omega) g5) (argsAt v.cs p) (p + 1) (q + 1) v hg2 hl3 (hcs.trans hc) (Nat.le_refl _) (fun i i0 i1 => hch i i0 (by rw [hA] at i1; omega)) with g2 | ⟨g2, g3, g4, g5, g6⟩
      · exact .inl g2
      · exact .inr ⟨g2, g3.trans hcs, g4.trans htr, by omega, g6⟩
    rcases hstep with e | ⟨c, h1, h2, h3, h4⟩
    · subst e
      rw [hx] at hy; cases hy
      by_cases hk : x.k = 0
      · rw [if_pos hk, if_pos hk, if_pos rfl]
        exact .inr ⟨rfl, hcs, htr, by show u.w ≤ v.w; omega, hl3⟩
      · rw [if_neg hk, if_neg hk]
        exact parts (fun i _ _ => Sm.refl L _) rfl
    · rw [hx] at h1; cases h1
      rw [hy] at h2; cases h2
      rw [if_neg h3, if_neg h3]
      exact parts (fun i i0 i1 => by rw [← hc]; exact h4 i i0 i1) (by rw [hx, hy])
end Go.Proofs.Ytjicoifjgokoiab
namespace Go.Proofs.Ytjicoifjgokoiab
open Go.RowKit
set_option linter.unusedVariables false
set_option linter.unusedSimpArgs false

/-- Of the cells of L just those at N, all unbound, have been told another number. -/
def Bd (N : List Int) (L L' : List HC) : Prop := (∀ r ∈ N, 0 ≤ r) ∧ ∀ i : Nat, ((i : Int) ∈ N → ∃ c n, L[i]? = some c ∧ c.k = 0 ∧ c.n = (i : Int) ∧ L'[i]? = some ⟨c.k, n, c.s⟩) ∧ ((i : Int) ∉ N → L'[i]? = L[i]?)
theorem Bd.refl (L : List HC) : Bd [] L L := ⟨fun r h => by simp at h, fun i => ⟨fun h => by simp at h, fun _ => rfl⟩⟩
theorem Bd.trans {N N' : List Int} {L L' L'' : List HC} (h : Bd N L L') (g : Bd N' L' L'') : Bd (N ++ N') L L'' := by
  refine ⟨fun r hr => (List.mem_append.1 hr).elim (h.1 r) (g.1 r), fun i => ⟨fun hi => ?_, fun hi => ?_⟩⟩
  · by_cases h1 : (i : Int) ∈ N
    · obtain ⟨c, n, c1, c2, c3, c4⟩ := (h.2 i).1 h1
      by_cases h2 : (i : Int) ∈ N'
      · obtain ⟨d, m, d1, d2, d3, d4⟩ := (g.2 i).1 h2
        rw [c4] at d1; cases d1
        exact ⟨c, m, c1, c2, c3, d4⟩
      · rw [← (g.2 i).2 h2] at c4
        exact ⟨c, n, c1, c2, c3, c4⟩
    · have h2 : (i : Int) ∈ N' := by rcases List.mem_append.1 hi with h | h; exact absurd h h1; exact h
      obtain ⟨d, m, d1, d2, d3, d4⟩ := (g.2 i).1 h2
      rw [(h.2 i).2 h1] at d1
      exact ⟨d, m, d1, d2, d3, d4⟩
  · rw [(g.2 i).2 (fun h' => hi (List.mem_append_right _ h')), (h.2 i).2 (fun h' => hi (List.mem_append_left _ h'))]
theorem Bd.one {L : List HC} {r y : Int} {c : HC} (hr : hat L r = some c) (hk : c.k = 0) (hn : c.n = r) : Bd [r] L (setN L r.toNat y) := by
  obtain ⟨r0, r1, r2⟩ := hatS.1 hr
  refine ⟨fun s hs => by simp at hs; omega, fun i => ⟨fun hi => ?_, fun hi => ?_⟩⟩
  · simp at hi
    have e : r.toNat = i := by omega
    rw [e] at r2 ⊢
    exact ⟨c, y, r2, hk, by omega, by rw [setN_get, if_pos rfl, r2]; rfl⟩
  · simp at hi
    rw [setN_get, if_neg (by omega)]
theorem undoL_get : ∀ (N : List Int) (L : List HC), (∀ r ∈ N, 0 ≤ r) → ∀ i : Nat, (undoL L N)[i]? = if (i : Int) ∈ N then (L[i]?).map (fun c => ⟨c.k, i, c.s⟩) else L[i]?
  | [], L, _, i => by simp [undoL]
  | r :: N, L, h, i => by
    have r0 := h r (by simp)
    unfold undoL
    rw [undoL_get N _ (fun s hs => h s (.tail _ hs)) i, setN_get]
    by_cases e : r.toNat = i
    · have e2 : (i : Int) = r := by omega
      have hm : (i : Int) ∈ r :: N := by rw [e2]; exact .head _
      rw [if_pos e, if_pos hm]
      by_cases h2 : (i : Int) ∈ N
      · rw [if_pos h2, Option.map_map]; rfl
      · rw [if_neg h2, e2]
    · rw [if_neg e]
      have : (i : Int) ∈ r :: N ↔ (i : Int) ∈ N := by
        simp only [List.mem_cons]
        constructor
        · rintro (h | h)
          · omega
          · exact h
        · exact .inr
      simp only [this]
theorem Bd.undo {N : List Int} {L L' : List HC} (h : Bd N L L') : undoL L' N = L := by
  refine List.ext_getElem? fun i => ?_
  rw [undoL_get N L' h.1 i]
  by_cases hi : (i : Int) ∈ N
  · rw [if_pos hi]
    obtain ⟨c, n, c1, c2, c3, c4⟩ := (h.2 i).1 hi
    rw [c4, c1, Option.map_some, ← c3]
  · rw [if_neg hi]; exact (h.2 i).2 hi
theorem Bd.kind {N : List Int} {L L' : List HC} (h : Bd N L L') {r : Int} {c : HC} (hr : hat L r = some c) : ∃ d, hat L' r = some d ∧ d.k = c.k := by
  obtain ⟨r0, r1, r2⟩ := hatS.1 hr
  have e : ((r.toNat : Nat) : Int) = r := by omega
  have key : ∃ d, L'[r.toNat]? = some d ∧ d.k = c.k := by
    by_cases hi : ((r.toNat : Nat) : Int) ∈ N
    · obtain ⟨d, n, c1, c2, c3, c4⟩ := (h.2 r.toNat).1 hi
      rw [r2] at c1; cases c1
      exact ⟨_, c4, rfl⟩
    · exact ⟨c, by rw [(h.2 r.toNat).2 hi]; exact r2, rfl⟩
  obtain ⟨d, d1, d2⟩ := key
  exact ⟨d, by unfold hat; rw [if_pos r0]; exact d1, d2⟩
/-- The trail says what has been bound. -/
def Trl (u v : HU) : Prop := ∃ N, v.tr = u.tr ++ N ∧ Bd N u.cs v.cs
theorem Trl.same {u v : HU} (h1 : v.cs = u.cs) (h2 : v.tr = u.tr) : Trl u v := ⟨[], by simp [h2], by rw [h1]; exact Bd.refl _⟩
theorem Trl.trans {u v w : HU} (h : Trl u v) (g : Trl v w) : Trl u w := by
  obtain ⟨N, h1, h2⟩ := h
  obtain ⟨N', g1, g2⟩ := g
  exact ⟨N ++ N', by rw [g1, h1, List.append_assoc], h2.trans g2⟩
theorem Trl.bind {u v : HU} {r y : Int} {c : HC} (hr : hat u.cs r = some c) (hk : c.k = 0) (hn : c.n = r) (h1 : v.cs = setN u.cs r.toNat y) (h2 : v.tr = u.tr ++ [r]) : Trl u v := ⟨[r], h2, by rw [h1]; exact Bd.one hr hk hn⟩
theorem all_trl {n : Nat} {g : Int → Int → HU → Bool × HU} (hu : ∀ x y u, GU n u → u.lg = false → UU n u (g x y u)) (hg : ∀ x y u, GU n u → u.lg = false → Trl u (g x y u).2) :
    ∀ (m : Nat) (x y : Int) (u : HU), GU n u → u.lg = false → Trl u (allU g m x y u).2
  | 0, x, y, u, h, hl => Trl.same rfl rfl
  | m + 1, x, y, u, h, hl => by
    have h1 := hu x y u h hl
    simp only [allU]
    split
    · rename_i hok
      exact (hg x y u h hl).trans (all_trl hu hg m (x + 1) (y + 1) _ h1.gu (h1.ok hok))
    · exact hg x y u h hl
theorem asg_trl {n : Nat} {u : HU} (h : GU n u) {p q : Int} {x : HC} (hx : hat u.cs p = some x) (hxk : x.k = 0) (hxe : x.n = p) : Trl u (asgU p q u).2 := by
  have ho := occ_up (n := n) p 401 q u h.good h.wk
  unfold asgU
  split
  · exact Trl.same ho.cs ho.tr
  · exact Trl.bind hx hxk hxe (by simp only [HU.bind]; rw [ho.cs]) (by simp only [HU.bind]; rw [ho.tr])
theorem uni_trl {n : Nat} : ∀ (f : Nat) (a b : Int) (u : HU), GU n u → u.lg = false → Trl u (uniU f a b u).2
  | f, a, b, u, h, hl => by
    have hg2 : GU n ((u.step.look a).2.look b).2 := (h.step.look a).look b
    have hwa := look_w u.step a
    have hwb := look_w (u.step.look a).2 b
    have hcs2 : ((u.step.look a).2.look b).2.cs = u.cs := by rw [hwb.2.1, hwa.2.1]; rfl
    have htr2 : ((u.step.look a).2.look b).2.tr = u.tr := by rw [hwb.2.2, hwa.2.2]; rfl
    have hfail : Trl u ((u.step.look a).2.look b).2 := Trl.same hcs2 htr2
    cases f with
    | zero => exact hfail
    | succ f =>
    simp only [uniU]
    by_cases hl2 : ((u.step.look a).2.look b).2.lg = true
    · rw [if_pos hl2]; exact hfail
    have hl3 : ((u.step.look a).2.look b).2.lg = false := by simpa using hl2
    rw [if_neg hl2]
    obtain ⟨_, ha, hb, ea, eb, hcs, htr, _⟩ := looks_ok hl3
    rw [ha, hb]
    obtain ⟨x, hx, hxe⟩ := ea.last
    obtain ⟨y, hy, hye⟩ := eb.last
    generalize hlook u.cs a = p at *
    generalize hlook u.cs b = q at *
    generalize ((u.step.look a).2.look b).2 = v at *
    rw [show kindAt u.cs p = x.k by unfold kindAt; rw [hx], show kindAt u.cs q = y.k by unfold kindAt; rw [hy]]
    by_cases hxk : x.k = 0
    · have hxn : x.n = p := Classical.byContradiction fun e => hxe ⟨hxk, e⟩
      rw [if_pos hxk]
      by_cases hyk : y.k = 0
      · have hyn : y.n = q := Classical.byContradiction fun e => hye ⟨hyk, e⟩
        rw [if_pos hyk]
        by_cases hpq : p = q
        · rw [if_pos hpq]; exact hfail
        · rw [if_neg hpq]
          rcases Int.le_total p q with hle | hle
          · rw [Int.max_eq_right hle, Int.min_eq_left hle]
            exact Trl.bind hy hyk hyn (by simp only [HU.bind]; rw [hcs]) (by simp only [HU.bind]; rw [htr])
          · rw [Int.max_eq_left hle, Int.min_eq_right hle]
            exact Trl.bind hx hxk hxn (by simp only [HU.bind]; rw [hcs]) (by simp only [HU.bind]; rw [htr])
      · rw [if_neg hyk]
        exact hfail.trans (asg_trl hg2 (by rw [hcs]; exact hx) hxk hxn)
    · rw [if_neg hxk]
      by_cases hyk : y.k = 0
      · have hyn : y.n = q := Classical.byContradiction fun e => hye ⟨hyk, e⟩
        rw [if_pos hyk]
        exact hfail.trans (asg_trl hg2 (by rw [hcs]; exact hy) hyk hyn)
      · rw [if_neg hyk]
        unfold partsU
        split
        · exact hfail.trans (all_trl (n := n) (fun x y u => uni_up f x y u) (fun x y u h hl => uni_trl f x y u h hl) _ _ _ v hg2 hl3)
        · exact hfail
theorem hpure_gu {h : HH} (hg : goodH h = true) : GU h.cs.length ⟨h.cs, h.tr, 0, false⟩ := by
  unfold goodH goodCs goodTr at hg
  simp only [Bool.and_eq_true, decide_eq_true_eq] at hg
  exact ⟨rfl, hg.1.2, fun _ => by show (0 : Nat) ≤ 400; omega, by show h.tr.length ≤ 65536 + 0; omega⟩
/-- What Unify gives when two places could be made one. -/
theorem unify_ok {h u : HH} {a b : Int} {e : Int} (hu : unifyH h a b = (u, true, e)) : goodH h = true ∧ e = 0 ∧ goodH u = true ∧ Sm u.cs a b ∧ undoH u (h.tr.length : Nat) = (h, 0) ∧ isAddr u.cs a = true ∧ isAddr u.cs b = true ∧ u.tr.length ≤ 65536 := by
  unfold unifyH at hu
  by_cases hg : goodH h = false
  · rw [if_pos hg] at hu; simp at hu
  rw [if_neg hg] at hu
  have hg : goodH h = true := by simpa using hg
  by_cases hab : (isAddr h.cs a && isAddr h.cs b) = false
  · rw [if_pos hab] at hu; simp at hu
  rw [if_neg hab] at hu
  have hab : isAddr h.cs a = true ∧ isAddr h.cs b = true := by simpa using hab
  have hG := hpure_gu hg
  have huu := uni_up 401 a b _ hG rfl
  have hone := uni_one 401 a b _ hG rfl
  have htrl := uni_trl 401 a b _ hG rfl
  generalize uniU 401 a b ⟨h.cs, h.tr, 0, false⟩ = r at *
  split at hu
  · simp at hu
  rename_i hn
  split at hu
  · simp at hu
  rename_i hok
  simp only [Prod.mk.injEq, true_and] at hu
  obtain ⟨rfl, rfl⟩ := hu
  have hok : r.1 = true := by simpa using hok
  have hlen : r.2.tr.length ≤ 65536 := by
    rcases Nat.lt_or_ge 65536 r.2.tr.length with h1 | h1
    · exact absurd (.inr ⟨hok, h1⟩) hn
    · exact h1
  obtain ⟨N, t1, t2⟩ := htrl
  replace t1 : r.2.tr = h.tr ++ N := t1
  replace t2 : Bd N h.cs r.2.cs := t2
  have hln := huu.gu.len
  have hgu : goodH ⟨r.2.cs, r.2.tr⟩ = true := by
    have hg' := hg
    unfold goodH goodCs goodTr at hg ⊢
    simp only [Bool.and_eq_true, decide_eq_true_eq, List.all_eq_true] at hg ⊢
    refine ⟨⟨by rw [hln]; exact hg.1.1, by rw [hln]; exact huu.gu.good⟩, hlen, fun s hs => ?_⟩
    rw [t1] at hs
    unfold goodTr1
    rcases List.mem_append.1 hs with hs | hs
    · have := hg.2.2 s hs
      unfold goodTr1 at this
      split at this
      · rename_i c hc
        obtain ⟨d, d1, d2⟩ := t2.kind hc
        rw [d1]; dsimp only; rw [d2]; exact this
      · cases this
    · have s0 := t2.1 s hs
      have e : ((s.toNat : Nat) : Int) = s := by omega
      obtain ⟨c, n, c1, c2, c3, c4⟩ := (t2.2 s.toNat).1 (by rw [e]; exact hs)
      rw [show hat r.2.cs s = some ⟨c.k, n, c.s⟩ by unfold hat; rw [if_pos s0]; exact c4]
      simp [c2]
  refine ⟨hg, rfl, hgu, (hone hok).sm _ (Up.refl _), ?_, ?_, ?_, hlen⟩
  · unfold undoH
    rw [if_neg (by rw [hgu]; decide), if_neg (by dsimp only; rw [t1]; simp; omega)]
    dsimp only
    rw [t1, show ((h.tr.length : Nat) : Int).toNat = h.tr.length by omega, List.drop_left, List.take_left, t2.undo]
  · have := hab.1; unfold isAddr at this ⊢; rw [hln]; exact this
  · have := hab.2; unfold isAddr at this ⊢; rw [hln]; exact this
theorem unify_not {h u : HH} {a b : Int} {e : Int} (hu : unifyH h a b = (u, false, e)) : u = h := by
  unfold unifyH at hu
  by_cases h1 : goodH h = false
  · rw [if_pos h1] at hu; simp at hu; exact hu.1.symm
  rw [if_neg h1] at hu
  by_cases h2 : (isAddr h.cs a && isAddr h.cs b) = false
  · rw [if_pos h2] at hu; simp at hu; exact hu.1.symm
  rw [if_neg h2] at hu
  split at hu
  · simp at hu; exact hu.1.symm
  · split at hu
    · simp at hu; exact hu.1.symm
    · simp at hu
/-- What is one is one again, unless that takes too long. -/
theorem unify_again {u : HH} {a b : Int} (hg : goodH u = true) (ha : isAddr u.cs a = true) (hb : isAddr u.cs b = true) (hs : Sm u.cs a b) : unifyH u a b = (u, false, 3) ∨ unifyH u a b = (u, true, 0) := by
  have hG := hpure_gu hg
  have htl : u.tr.length ≤ 65536 := by
    unfold goodH goodTr at hg
    simp only [Bool.and_eq_true, decide_eq_true_eq] at hg
    exact hg.2.1
  have hst := uni_still (L := u.cs) 401 a b _ hG rfl rfl (by show 400 ≤ 0 + 401; omega) hs
  unfold unifyH
  rw [if_neg (by rw [hg]; decide), ha, hb, if_neg (by decide)]
  generalize uniU 401 a b ⟨u.cs, u.tr, 0, false⟩ = r at *
  rcases hst with h1 | ⟨h1, h2, h3, h4, h5⟩
  · rw [if_pos (.inl h1)]; exact .inl rfl
  · replace h2 : r.2.cs = u.cs := h2
    replace h3 : r.2.tr = u.tr := h3
    rw [if_neg (by rw [h5, h3]; simp; omega), if_neg (by rw [h1]; decide), h2, h3]
    exact .inr rfl
end Go.Proofs.Ytjicoifjgokoiab
namespace Go.Proofs.Ytjicoifjgokoiab
open Go.RowKit
set_option linter.unusedVariables false
set_option linter.unusedSimpArgs false

/-- The terms at m places from a on: g gives the one at a place. -/
def listT (g : Int → Nat → Option (Tm × Nat)) : Nat → Int → Nat → Option (Ts × Nat)
  | 0, _, l => some (.nil, l)
  | m + 1, a, l => (g a l).bind fun p => (listT g m (a + 1) p.2).map fun q => (.cons p.1.k p.1.n p.1.s p.1.ar q.1, q.2)
/-- The term at a place, and how many nodes are left; none: there are not enough, or a Ref leads nowhere. -/
def tmAt (L : List HC) : Nat → Int → Nat → Option (Tm × Nat)
  | 0, _, _ => none
  | f + 1, a, l => if l = 0 then none else match hat L (hlook L a) with
    | none => none
    | some c => if c.k = 0 then some (⟨0, hlook L a, eS, .nil⟩, l - 1)
      else if c.k = 1 then some (⟨1, 0, c.s, .nil⟩, l - 1)
      else if c.k = 2 then some (⟨2, c.n, eS, .nil⟩, l - 1)
      else (listT (tmAt L f) (argsC c).toNat (hlook L a + 1) (l - 1)).map fun p => (⟨3, 0, c.s, p.1⟩, p.2)
def zeroTm : Tm := ⟨0, 0, eS, .nil⟩
def mostN (most : Int) : Nat := (min most 65536).toNat
def termH (h : HH) (a most : Int) : Tm × Nat × Int :=
  if goodH h = false then (zeroTm, 0, 1)
  else if isAddr h.cs a = false then (zeroTm, 0, 4)
  else match tmAt h.cs (mostN most) a (mostN most) with
    | none => (zeroTm, 0, 3)
    | some (t, l) => (t, mostN most - l, 0)
theorem tmAt_hat {L : List HC} {f : Nat} {a : Int} {l : Nat} {c : HC} (hl : l ≠ 0) (hc : hat L (hlook L a) = some c) : tmAt L (f + 1) a l = if c.k = 0 then some (⟨0, hlook L a, eS, .nil⟩, l - 1)
      else if c.k = 1 then some (⟨1, 0, c.s, .nil⟩, l - 1)
      else if c.k = 2 then some (⟨2, c.n, eS, .nil⟩, l - 1)
      else (listT (tmAt L f) (argsC c).toNat (hlook L a + 1) (l - 1)).map fun p => (⟨3, 0, c.s, p.1⟩, p.2) := by
  simp only [tmAt]; rw [if_neg hl, hc]
theorem tmAt_none {L : List HC} {f : Nat} {a : Int} {l : Nat} (hc : hlook L a < 0) : tmAt L f a l = none := by
  cases f with
  | zero => rfl
  | succ f =>
    simp only [tmAt]
    split
    · rfl
    · rw [show hat L (hlook L a) = none by unfold hat; rw [if_neg (by omega)]]
theorem listT_sm {L : List HC} {g : Int → Nat → Option (Tm × Nat)} (hg : ∀ a b l, Sm L a b → g a l = g b l) : ∀ (m : Nat) (a b : Int) (l : Nat), (∀ i : Int, 0 ≤ i → i < m → Sm L (a + i) (b + i)) → listT g m a l = listT g m b l
  | 0, a, b, l, _ => rfl
  | m + 1, a, b, l, h => by
    simp only [listT]
    have h0 := h 0 (by omega) (by omega)
    rw [hg a b l (by simpa using h0)]
    congr 1
    funext p
    rw [listT_sm hg m (a + 1) (b + 1) p.2 fun i i0 i1 => by
      have := h (i + 1) (by omega) (by omega)
      rw [show a + 1 + i = a + (i + 1) by omega, show b + 1 + i = b + (i + 1) by omega]; exact this]
theorem tmAt_sm {L : List HC} : ∀ (f : Nat) (a b : Int) (l : Nat), Sm L a b → tmAt L f a l = tmAt L f b l
  | 0, a, b, l, _ => rfl
  | f + 1, a, b, l, h => by
    by_cases hl : l = 0
    · simp only [tmAt]; rw [if_pos hl, if_pos hl]
    rcases h.ends with e | ⟨x, y, hx, hy, e⟩
    · rw [e]
    obtain ⟨c, c1, _⟩ := hx.last
    obtain ⟨d, d1, _⟩ := hy.last
    rw [tmAt_hat hl (by rw [hx.look]; exact c1), tmAt_hat hl (by rw [hy.look]; exact d1), hx.look, hy.look]
    rcases e with e | ⟨z, z1, z2, z3, z4⟩
    · subst e; rw [c1] at d1; cases d1; rfl
    · rw [c1] at z1; cases z1
      rw [d1] at z2; cases z2
      rw [if_neg z3, if_neg z3]
      by_cases k1 : c.k = 1
      · rw [if_pos k1, if_pos k1]
      by_cases k2 : c.k = 2
      · rw [if_neg k1, if_neg k1, if_pos k2, if_pos k2]
      rw [if_neg k1, if_neg k1, if_neg k2, if_neg k2]
      rw [listT_sm (fun a b l => tmAt_sm f a b l) (argsC c).toNat (x + 1) (y + 1) (l - 1) fun i i0 i1 => z4 i i0 (by omega)]
theorem listT_nodes {g : Int → Nat → Option (Tm × Nat)} (hg : ∀ a l p, g a l = some p → p.1.ar.nodes + 1 + p.2 = l) : ∀ (m : Nat) (a : Int) (l : Nat) (p : Ts × Nat), listT g m a l = some p → p.1.nodes + p.2 = l ∧ p.1.length = m
  | 0, a, l, p, h => by simp only [listT, Option.some.injEq] at h; subst h; simp [Ts.nodes, Ts.length]
  | m + 1, a, l, p, h => by
    simp only [listT] at h
    cases h1 : g a l with
    | none => rw [h1] at h; simp at h
    | some q =>
      rw [h1, Option.bind_some] at h
      cases h2 : listT g m (a + 1) q.2 with
      | none => rw [h2] at h; simp at h
      | some r =>
        rw [h2, Option.map_some, Option.some.injEq] at h
        subst h
        have e1 := hg a l q h1
        obtain ⟨e2, e3⟩ := listT_nodes hg m (a + 1) q.2 r h2
        simp only [Ts.nodes, Ts.length]
        omega
theorem tmAt_nodes {L : List HC} : ∀ (f : Nat) (a : Int) (l : Nat) (p : Tm × Nat), tmAt L f a l = some p → p.1.ar.nodes + 1 + p.2 = l
  | 0, a, l, p, h => by cases h
  | f + 1, a, l, p, h => by
    by_cases hl : l = 0
    · simp only [tmAt] at h; rw [if_pos hl] at h; cases h
    cases hc : hat L (hlook L a) with
    | none => simp only [tmAt] at h; rw [if_neg hl, hc] at h; cases h
    | some c =>
      rw [tmAt_hat hl hc] at h
      split at h
      · cases h; simp only [Ts.nodes]; omega
      split at h
      · cases h; simp only [Ts.nodes]; omega
      split at h
      · cases h; simp only [Ts.nodes]; omega
      cases h2 : listT (tmAt L f) (argsC c).toNat (hlook L a + 1) (l - 1) with
      | none => rw [h2] at h; cases h
      | some r =>
        rw [h2, Option.map_some, Option.some.injEq] at h
        subst h
        have := (listT_nodes (fun a l p => tmAt_nodes f a l p) _ _ _ _ h2).1
        show r.1.nodes + 1 + r.2 = l
        omega
end Go.Proofs.Ytjicoifjgokoiab
namespace Go.Proofs.Ytjicoifjgokoiab
open Go.RowKit
set_option linter.unusedVariables false
set_option linter.unusedSimpArgs false

section
variable {P : Program} {n : Nat} {e : Env} {w : World} {Q : Exit → Act → World → Prop} {ops : Array Oper} {rest : List Oper} {ty : TypeId} {pos : String} {after : Array Edge} {d : Nat}
variable {M : List Nat} {w0 : World} {H : List (Nat × Obj)} {F : List (World → Prop)} {x y : Operand} {t : TypeId}
theorem lst_make {el sz bts k : Nat} (hS : St M w0 H F w) (hx : ev n e x = .int .i64 (k : Nat)) (hy : ev n e y = .int .i64 (k : Nat)) (hT : isSliceP P t = some el) (hi : rowP P el = some (sz, bts)) (hb : bts * k ≤ 281474976710656) (hk : k ≤ 4611686018427387904) (hd : Nat.blt d n = true)
    (h : ∀ (b : Nat) (w' : World) (cs : List Value), cs.length = k * sz → St M w0 ((b, .cells cs.toArray el) :: H) F w' → Lst P Q ops rest n ((d, .slice (some ⟨b, 0, none⟩) k k) :: e) w') :
    Lst P Q ops (⟨some d, .makeSlice t x y, ty, pos, after, none⟩ :: rest) n e w := by
  obtain ⟨i, z, h2, h3, h4, rfl, rfl⟩ := rowP_some hi
  have hb2 : (i.bytes : Int) * (k : Int) ≤ 281474976710656 := by rw [← Int.natCast_mul]; omega
  have hr := run_make (P := P) w t el i z (sliceP hT) h2 h3 .i64 .i64 (k : Int) (k : Int) (by omega) (by omega) hb2 (by omega)
  refine lst_run (v := .slice (some ⟨w.heap.size, 0, none⟩) k k) (w' := w.alloc (.cells (madeCells z.cells (k * i.size)) el)) ?_ hd ?_
  · simp only [execOp, hx, hy, bind, pure]
    rw [Sem.run_bind', hr]
    rfl
  · have e1 : madeCells z.cells (k * i.size) = (madeCells z.cells (k * i.size)).toList.toArray := by simp
    rw [e1]
    exact h _ _ _ (by rw [Array.length_toList, size_madeCells]) (hS.alloc _)
theorem made_one (v : Value) (k : Nat) : madeCells #[v] (k * 1) = (List.replicate k v).toArray := by
  apply Array.ext'
  simp only [madeCells, Array.toList_map, Array.toList_range, Nat.mul_one]
  refine List.ext_getElem? fun i => ?_
  rw [List.getElem?_map, List.getElem?_replicate]
  by_cases hi : i < k
  · rw [List.getElem?_range hi, if_pos hi]
    simp [Nat.mod_one]
  · rw [List.getElem?_eq_none (by simpa using hi), if_neg hi]; rfl
/-- make of k elements of one cell, all zero. -/
theorem lst_makeZ {el bts k : Nat} {z : Value} (hS : St M w0 H F w) (hx : ev n e x = .int .i64 (k : Nat)) (hy : ev n e y = .int .i64 (k : Nat)) (hT : isSliceP P t = some el) (hi : rowP P el = some (1, bts)) (hz : zeroP P el = some z) (hz1 : z.cells = #[z]) (hb : bts * k ≤ 281474976710656) (hk : k ≤ 4611686018427387904) (hd : Nat.blt d n = true)
    (h : ∀ (b : Nat) (w' : World), St M w0 ((b, .cells (List.replicate k z).toArray el) :: H) F w' → Lst P Q ops rest n ((d, .slice (some ⟨b, 0, none⟩) k k) :: e) w') :
    Lst P Q ops (⟨some d, .makeSlice t x y, ty, pos, after, none⟩ :: rest) n e w := by
  obtain ⟨i, z', h2, h3, h4, h5, rfl⟩ := rowP_some hi
  obtain rfl : z' = z := by unfold zeroP at hz; rw [h2] at hz; simp only [Option.bind_some] at hz; rw [h3] at hz; exact Option.some.inj hz
  have hb2 : (i.bytes : Int) * (k : Int) ≤ 281474976710656 := by rw [← Int.natCast_mul]; omega
  have hr := run_make (P := P) w t el i z' (sliceP hT) h2 h3 .i64 .i64 (k : Int) (k : Int) (by omega) (by omega) hb2 (by omega)
  refine lst_run (v := .slice (some ⟨w.heap.size, 0, none⟩) k k) (w' := w.alloc (.cells (madeCells z'.cells (k * i.size)) el)) ?_ hd ?_
  · simp only [execOp, hx, hy, bind, pure]
    rw [Sem.run_bind', hr]
    rfl
  · rw [h5, hz1, made_one]
    exact h _ _ (hS.alloc _)
end
end Go.Proofs.Ytjicoifjgokoiab
namespace Go.Proofs.Ytjicoifjgokoiab
open Go.RowKit
set_option linter.unusedVariables false
set_option linter.unusedSimpArgs false
set_option maxRecDepth 100000
set_option maxHeartbeats 1000000

abbrev iob (P : List Int) : Obj := .cells (intsV P).toArray 3
abbrev bob (A : Option Addr) (n c : Nat) (B : Option Addr) (m d pb np : Nat) (nodes most : Int) : Obj := .cells [.slice A n c, .slice B m d, .slice (some ⟨pb, 0, none⟩) np np, .int .i64 nodes, .int .i64 most].toArray 73
theorem intsV_put (P : List Int) (i : Nat) (x : Int) (h : i < P.length) : Put (intsV P) i (.int .i64 x) (intsV (P.set i x)) := by
  have := put_of (l := intsV P) (v := .int .i64 x) (i := i) (by simpa [intsV] using h)
  rwa [show (intsV P).set i (.int .i64 x) = intsV (P.set i x) by simp [intsV, List.map_set]] at this
section
variable {M : List Nat} {w0 : World} {H : List (Nat × Obj)} {F : List (World → Prop)} {bb pb c m d : Nat} {A B : Option Addr} {L : List HC} {nodes most : Int}
theorem places_at {P : List Int} {o : Obj} {H' : List (Nat × Obj)} {F' : List (World → Prop)} {w' : World} (hS : St M w0 ((bb, o) :: (pb, iob P) :: H') F' w') {i : Int} {v : Int} (h0 : 0 ≤ i) (hv : P[i.toNat]? = some v) : w'.cell? ⟨pb, 0 + i.toNat * 1, none⟩ = some (.int .i64 v) := by
  have ho := hS.own (pb, _) (.tail _ (.head _))
  rw [cell_own ho]
  simp [intsV, hv]
theorem get_in {P : List Int} {i : Nat} (h : i < P.length) : ∃ v, P[i]? = some v := ⟨P[i], List.getElem?_eq_getElem h⟩
theorem blook_any (P : List Int) (a : Int) (w : World) (hL : Und F (Flat 3 (hcsL L) A L.length c)) (hg : goodL L.length L = true) (hl : L.length ≤ 65536) (ha : isAddr L a = true) (hP : PInv L P)
    (hS : St M w0 ((bb, bob A L.length c B m d pb P.length nodes most) :: (pb, iob P) :: H) F w) :
    Calls Try.prog 70 #[ptr bb, .int .i64 a] w fun e w' => e = .returned (.int .i64 (hlook L a)) ∧ ∃ P', PInv L P' ∧ St M w0 ((bb, bob A L.length c B m d pb P'.length nodes most) :: (pb, iob P') :: H) F w' := by
  have ha' := isAddr_iff.1 ha
  have hadr : ∀ {e : Int} {x : HC}, hat L e = some x → x.k = 0 → isAddr L x.n = true := fun h hk => by
    have := good_ref hg h hk
    unfold isAddr; simp [this]
  have hpl := hP.1
  refine goes_enter2 Try.func70 rfl Try.ntmps70 rfl ?_
  refine goes_seq ?_
  refine goes_region ?_
  refine lst_run (run_assign (by conv => lhs; whnf)) rfl ?_
  refine lst_done ?_
  refine goes_seq ?_
  refine goes_region ?_
  refine lst_run (run_move (by conv => lhs; whnf)) rfl ?_
  refine lst_run (run_assign (by conv => lhs; whnf)) rfl ?_
  refine lst_done ?_
  refine goes_seq ?_
  refine goes_block ?_
  refine goes_mb1 5 (8 :: 9 :: 10 :: 11 :: 12 :: 13 :: 14 :: 15 :: 16 :: 17 :: 18 :: 19 :: 20 :: 21 :: 22 :: 23 :: 24 :: 25 :: 26 :: 27 :: 28 :: 29 :: 30 :: 31 :: 32 :: 33 :: 34 :: 35 :: 36 :: 37 :: 38 :: 39 :: 40 :: 41 :: 42 :: 43 :: 44 :: []) (fun v w' => ∃ (e : Int) (P' : List Int), v = .int .i64 e ∧ isAddr L e = true ∧ PMid L P' a e ∧ P'[e.toNat]? = some (hlook L a) ∧ St M w0 ((bb, bob A L.length c B m d pb P.length nodes most) :: (pb, iob P') :: H) F w') ?_ ?_
  · intro hmeet
    refine goes_loop1 5 (8 :: 9 :: 10 :: 11 :: 12 :: 13 :: 14 :: 15 :: 16 :: 17 :: 18 :: 19 :: 20 :: 21 :: 22 :: 23 :: 24 :: 25 :: 26 :: 27 :: 28 :: 29 :: 30 :: 31 :: 32 :: 33 :: 34 :: 35 :: 36 :: 37 :: 38 :: 39 :: 40 :: 41 :: 42 :: 43 :: 44 :: []) (fun (P' : List Int) v w' => ∃ e : Int, v = .int .i64 e ∧ isAddr L e = true ∧ PMid L P' a e ∧ St M w0 ((bb, bob A L.length c B m d pb P.length nodes most) :: (pb, iob P') :: H) F w') (fun P' => P'.count (-2)) (P) ?_ (by conv => lhs; whnf) ?_
    · exact ⟨a, rfl, ha, hP.mid a, hS⟩
    clear hS
    rintro P' _ w2 jv ⟨e, rfl, he, hM, hS⟩ ih
    obtain ⟨x, hx⟩ := isAddr_iff.1 he
    obtain ⟨e0, e1, hgx⟩ := hat_get hx
    have hpl' := hM.1
    obtain ⟨v, hv⟩ := get_in (P := P') (i := e.toNat) (by omega)
    have hpa : ∀ {o H' F'} w', St M w0 ((bb, o) :: (pb, iob P') :: H') F' w' → w'.cell? ⟨pb, 0 + e.toNat * 1, none⟩ = some (.int .i64 v) := fun w' hS => places_at hS e0 hv
    by_cases hu : v = -2
    case neg =>
      refine goes_seq ?_
      refine goes_seq ?_
      refine goes_region ?_
      refine lst_run (run_move (by conv => lhs; whnf)) rfl ?_
      refine lst_run (run_nilCheck rfl) rfl ?_
      refine lst_run (run_fieldAddr (off := 2) rfl rfl) rfl ?_
      first
        | refine lst_run (run_load1_own hS rfl rfl (by first | exact .head | exact .tail .head | exact .tail (.tail .head) | exact .tail (.tail (.tail .head)) | exact .tail (.tail (.tail (.tail .head))) | exact .tail (.tail (.tail (.tail (.tail .head))))) (by repeat constructor)) rfl ?_
        | refine lst_run (run_load1 rfl rfl (by first | assumption | exact hpa _ hS | exact hS.cell0 (by assumption) | exact lv_next hS | exact lv_list hS)) rfl ?_
      refine lst_run (run_move (by conv => lhs; whnf)) rfl ?_
      refine lst_run (run_indexAddr (sz := 1) rfl rfl rfl rfl (by omega) (by omega)) rfl ?_
      first
        | refine lst_run (run_load1_own hS rfl rfl (by first | exact .head | exact .tail .head | exact .tail (.tail .head) | exact .tail (.tail (.tail .head)) | exact .tail (.tail (.tail (.tail .head))) | exact .tail (.tail (.tail (.tail (.tail .head))))) (by repeat constructor)) rfl ?_
        | refine lst_run (run_load1 rfl rfl (by first | assumption | exact hpa _ hS | exact hS.cell0 (by assumption) | exact lv_next hS | exact lv_list hS)) rfl ?_
      first
        | refine lst_run (run_eql_one_int rfl rfl) rfl ?_
        | refine lst_run (run_eql_no rfl rfl (by first | assumption | omega)) rfl ?_
        | refine lst_run (run_eql_yes rfl rfl (by omega)) rfl ?_
        | refine lst_run (rfl) rfl ?_
      refine lst_done ?_
      refine goes_false rfl ?_
      refine goes_exit rfl ?_
      have hk := hM.known e0 hv hu
      exact hmeet _ _ _ ⟨e, P', rfl, he, hM, by rw [hv, hk], hS⟩ (by conv => lhs; whnf) (by kernel_rfl)
    subst hu
    refine goes_seq ?_
    refine goes_seq ?_
    refine goes_region ?_
    refine lst_run (run_move (by conv => lhs; whnf)) rfl ?_
    refine lst_run (run_nilCheck rfl) rfl ?_
    refine lst_run (run_fieldAddr (off := 2) rfl rfl) rfl ?_
    first
      | refine lst_run (run_load1_own hS rfl rfl (by first | exact .head | exact .tail .head | exact .tail (.tail .head) | exact .tail (.tail (.tail .head)) | exact .tail (.tail (.tail (.tail .head))) | exact .tail (.tail (.tail (.tail (.tail .head))))) (by repeat constructor)) rfl ?_
      | refine lst_run (run_load1 rfl rfl (by first | assumption | exact hpa _ hS | exact hS.cell0 (by assumption) | exact lv_next hS | exact lv_list hS)) rfl ?_
    refine lst_run (run_move (by conv => lhs; whnf)) rfl ?_
    refine lst_run (run_indexAddr (sz := 1) rfl rfl rfl rfl (by omega) (by omega)) rfl ?_
    first
      | refine lst_run (run_load1_own hS rfl rfl (by first | exact .head | exact .tail .head | exact .tail (.tail .head) | exact .tail (.tail (.tail .head)) | exact .tail (.tail (.tail (.tail .head))) | exact .tail (.tail (.tail (.tail (.tail .head))))) (by repeat constructor)) rfl ?_
      | refine lst_run (run_load1 rfl rfl (by first | assumption | exact hpa _ hS | exact hS.cell0 (by assumption) | exact lv_next hS | exact lv_list hS)) rfl ?_
    first
      | refine lst_run (run_eql_one_int rfl rfl) rfl ?_
      | refine lst_run (run_eql_no rfl rfl (by first | assumption | omega)) rfl ?_
      | refine lst_run (run_eql_yes rfl rfl (by omega)) rfl ?_
      | refine lst_run (rfl) rfl ?_
    refine lst_done ?_
    refine goes_true rfl ?_
    refine goes_skip ?_
    refine goes_block ?_
    refine goes_seq ?_
    refine goes_seq ?_
    refine goes_region ?_
    refine lst_run (run_move (by conv => lhs; whnf)) rfl ?_
    refine lst_run (run_nilCheck rfl) rfl ?_
    refine lst_run (run_fieldAddr (off := 0) rfl rfl) rfl ?_
    first
      | refine lst_run (run_loadN_own (k := 2) hS rfl rfl rfl (by first | exact .head | exact .tail .head | exact .tail (.tail .head) | exact .tail (.tail (.tail .head)) | exact .tail (.tail (.tail (.tail .head))) | exact .tail (.tail (.tail (.tail (.tail .head))))) (by repeat constructor)) rfl ?_
      | refine lst_run (run_load2 rfl rfl rfl (by first | assumption | exact hpa _ hS | exact hS.cell0 (by assumption)) (by first | assumption | exact hpa _ hS | exact hS.cell0 (by assumption))) rfl ?_
    refine lst_run (run_move (by conv => lhs; whnf)) rfl ?_
    refine lst_enter (run_call (by kernel_rfl) (args_2 (by conv => lhs; whnf) (by conv => lhs; whnf))) rfl ?_
    refine Calls.mono (bound_any L A B c m d e x _ (hS.und hL) hx) ?_
    rintro _ w3 ⟨rfl, hb3⟩
    refine ⟨_, rfl, ?_⟩
    replace hS := hS.grow hb3
    by_cases hb : x.k = 0 ∧ x.n ≠ e
    case neg =>
      rw [decide_eq_false hb]
      have hput := intsV_put P' e.toNat e (by omega)
      refine lst_run (rfl) rfl ?_
      refine lst_done ?_
      refine goes_true rfl ?_
      refine goes_seq ?_
      refine goes_region ?_
      refine lst_run (run_move (by conv => lhs; whnf)) rfl ?_
      refine lst_run (run_nilCheck rfl) rfl ?_
      refine lst_run (run_fieldAddr (off := 2) rfl rfl) rfl ?_
      first
        | refine lst_run (run_load1_own hS rfl rfl (by first | exact .head | exact .tail .head | exact .tail (.tail .head) | exact .tail (.tail (.tail .head)) | exact .tail (.tail (.tail (.tail .head))) | exact .tail (.tail (.tail (.tail (.tail .head))))) (by repeat constructor)) rfl ?_
        | refine lst_run (run_load1 rfl rfl (by first | assumption | exact hpa _ hS | exact hS.cell0 (by assumption) | exact lv_next hS | exact lv_list hS)) rfl ?_
      refine lst_run (run_move (by conv => lhs; whnf)) rfl ?_
      refine lst_run (run_move (by conv => lhs; whnf)) rfl ?_
      refine lst_run (run_indexAddr (sz := 1) rfl rfl rfl rfl (by omega) (by omega)) rfl ?_
      refine lst_store1 hS rfl (by conv => lhs; whnf) rfl rfl (.tail .head) (by rw [Nat.zero_add, Nat.mul_one]; exact hput) (.tail .head) ?_
      clear hS
      intro w6 hS
      refine lst_done ?_
      refine goes_exit rfl ?_
      refine hmeet _ _ _ ⟨e, P'.set e.toNat e, rfl, he, hM.told hx hb, ?_, hS⟩ (by conv => lhs; whnf) (by kernel_rfl)
      obtain ⟨n, hw⟩ := hM.2.1
      rw [hw.look, hlook_self hx hb, List.getElem?_set_self (by omega)]
    rw [decide_eq_true hb]
    obtain ⟨b', o', rfl⟩ := (hS.und hL).some_ (by omega)
    have hcc : ∀ {H'} w', St M w0 H' F w' → _ := fun w' hS => (hS.und hL).cell hgx
    have hput := intsV_put P' e.toNat (-1) (by omega)
    refine lst_run (rfl) rfl ?_
    refine lst_done ?_
    refine goes_false rfl ?_
    refine goes_skip ?_
    refine goes_seq ?_
    refine goes_region ?_
    refine lst_run (run_move (by conv => lhs; whnf)) rfl ?_
    refine lst_run (run_nilCheck rfl) rfl ?_
    refine lst_run (run_fieldAddr (off := 2) rfl rfl) rfl ?_
    first
      | refine lst_run (run_load1_own hS rfl rfl (by first | exact .head | exact .tail .head | exact .tail (.tail .head) | exact .tail (.tail (.tail .head)) | exact .tail (.tail (.tail (.tail .head))) | exact .tail (.tail (.tail (.tail (.tail .head))))) (by repeat constructor)) rfl ?_
      | refine lst_run (run_load1 rfl rfl (by first | assumption | exact (hcc _ hS).1 | exact (hcc _ hS).2.1 | exact (hcc _ hS).2.2 | exact hS.cell0 (by assumption) | exact lv_next hS | exact lv_list hS)) rfl ?_
    refine lst_run (run_move (by conv => lhs; whnf)) rfl ?_
    refine lst_run (run_indexAddr (sz := 1) rfl rfl rfl rfl (by omega) (by omega)) rfl ?_
    refine lst_store1 hS rfl (by conv => lhs; whnf) rfl rfl (.tail .head) (by rw [Nat.zero_add, Nat.mul_one]; exact hput) (.tail .head) ?_
    clear hS
    intro w6 hS
    refine lst_done ?_
    refine goes_region ?_
    refine lst_run (run_move (by conv => lhs; whnf)) rfl ?_
    refine lst_run (run_nilCheck rfl) rfl ?_
    refine lst_run (run_fieldAddr (off := 0) rfl rfl) rfl ?_
    refine lst_run (run_fieldAddr (off := 0) rfl rfl) rfl ?_
    first
      | refine lst_run (run_load1_own hS rfl rfl (by first | exact .head | exact .tail .head | exact .tail (.tail .head) | exact .tail (.tail (.tail .head)) | exact .tail (.tail (.tail (.tail .head))) | exact .tail (.tail (.tail (.tail (.tail .head))))) (by repeat constructor)) rfl ?_
      | refine lst_run (run_load1 rfl rfl (by first | assumption | exact (hcc _ hS).1 | exact (hcc _ hS).2.1 | exact (hcc _ hS).2.2 | exact hS.cell0 (by assumption) | exact lv_next hS | exact lv_list hS)) rfl ?_
    refine lst_run (run_move (by conv => lhs; whnf)) rfl ?_
    refine lst_run (run_indexAddr (sz := 3) rfl rfl rfl rfl (by omega) (by omega)) rfl ?_
    refine lst_run (run_fieldAddr (off := 1) rfl rfl) rfl ?_
    first
      | refine lst_run (run_load1_own hS rfl rfl (by first | exact .head | exact .tail .head | exact .tail (.tail .head) | exact .tail (.tail (.tail .head)) | exact .tail (.tail (.tail (.tail .head))) | exact .tail (.tail (.tail (.tail (.tail .head))))) (by repeat constructor)) rfl ?_
      | refine lst_run (run_load1 rfl rfl (by first | assumption | exact (hcc _ hS).1 | exact (hcc _ hS).2.1 | exact (hcc _ hS).2.2 | exact hS.cell0 (by assumption) | exact lv_next hS | exact lv_list hS)) rfl ?_
    refine lst_run (run_assign (by conv => lhs; whnf)) rfl ?_
    refine lst_done ?_
    refine goes_inBlock ?_
    refine ih (P'.set e.toNat (-1)) _ _ _ ?_ ?_ (by conv => lhs; whnf) (by kernel_rfl)
    · exact count_set hv (by decide)
    · exact ⟨x.n, rfl, hadr hx hb.1, hM.next hx hb.1 hb.2, hS⟩
  clear hS
  rintro jv _ w2 ⟨e, P1, rfl, he, hM, hv, hS⟩
  obtain ⟨x, hx⟩ := isAddr_iff.1 he
  obtain ⟨e0, e1, hgx⟩ := hat_get hx
  have hpl' := hM.1
  have hpa : ∀ {o H' F'} w', St M w0 ((bb, o) :: (pb, iob P1) :: H') F' w' → w'.cell? ⟨pb, 0 + e.toNat * 1, none⟩ = some (.int .i64 (hlook L a)) := fun w' hS => places_at hS e0 hv
  by_cases hn : hlook L a < 0
  · have hm : hlook L a = -1 := by
      rcases hlookF_end (L := L) L.length a with h1 | ⟨c, h1, _⟩
      · exact h1
      · have := (hat_get h1).1; unfold hlook at hn; omega
    refine goes_seq ?_
    refine goes_region ?_
    refine lst_run (run_move (by conv => lhs; whnf)) rfl ?_
    refine lst_run (run_nilCheck rfl) rfl ?_
    refine lst_run (run_fieldAddr (off := 2) rfl rfl) rfl ?_
    first
      | refine lst_run (run_load1_own hS rfl rfl (by first | exact .head | exact .tail .head | exact .tail (.tail .head) | exact .tail (.tail (.tail .head)) | exact .tail (.tail (.tail (.tail .head))) | exact .tail (.tail (.tail (.tail (.tail .head))))) (by repeat constructor)) rfl ?_
      | refine lst_run (run_load1 rfl rfl (by first | assumption | exact hpa _ hS | exact hS.cell0 (by assumption) | exact lv_next hS | exact lv_list hS)) rfl ?_
    refine lst_run (run_move (by conv => lhs; whnf)) rfl ?_
    refine lst_run (run_indexAddr (sz := 1) rfl rfl rfl rfl (by omega) (by omega)) rfl ?_
    first
      | refine lst_run (run_load1_own hS rfl rfl (by first | exact .head | exact .tail .head | exact .tail (.tail .head) | exact .tail (.tail (.tail .head)) | exact .tail (.tail (.tail (.tail .head))) | exact .tail (.tail (.tail (.tail (.tail .head))))) (by repeat constructor)) rfl ?_
      | refine lst_run (run_load1 rfl rfl (by first | assumption | exact hpa _ hS | exact hS.cell0 (by assumption) | exact lv_next hS | exact lv_list hS)) rfl ?_
    refine lst_run (run_assign (by conv => lhs; whnf)) rfl ?_
    refine lst_done ?_
    refine goes_seq ?_
    refine goes_seq ?_
    refine goes_region ?_
    refine lst_run (run_move (by conv => lhs; whnf)) rfl ?_
    first
      | refine lst_run (run_lss_yes rfl rfl (by omega)) rfl ?_
      | refine lst_run (run_lss_no rfl rfl (by omega)) rfl ?_
      | refine lst_run (rfl) rfl ?_
    refine lst_done ?_
    refine goes_true rfl ?_
    refine goes_seq ?_
    refine goes_region ?_
    refine lst_run (run_assign (by conv => lhs; whnf)) rfl ?_
    refine lst_done ?_
    refine goes_ret1 Try.func70 rfl (by conv => lhs; whnf) ?_
    refine ⟨by rw [hm], P1, hM.nowhere hn, ?_⟩
    rw [show P1.length = P.length by omega]; exact hS
  refine goes_seq ?_
  refine goes_region ?_
  refine lst_run (run_move (by conv => lhs; whnf)) rfl ?_
  refine lst_run (run_nilCheck rfl) rfl ?_
  refine lst_run (run_fieldAddr (off := 2) rfl rfl) rfl ?_
  first
    | refine lst_run (run_load1_own hS rfl rfl (by first | exact .head | exact .tail .head | exact .tail (.tail .head) | exact .tail (.tail (.tail .head)) | exact .tail (.tail (.tail (.tail .head))) | exact .tail (.tail (.tail (.tail (.tail .head))))) (by repeat constructor)) rfl ?_
    | refine lst_run (run_load1 rfl rfl (by first | assumption | exact hpa _ hS | exact hS.cell0 (by assumption) | exact lv_next hS | exact lv_list hS)) rfl ?_
  refine lst_run (run_move (by conv => lhs; whnf)) rfl ?_
  refine lst_run (run_indexAddr (sz := 1) rfl rfl rfl rfl (by omega) (by omega)) rfl ?_
  first
    | refine lst_run (run_load1_own hS rfl rfl (by first | exact .head | exact .tail .head | exact .tail (.tail .head) | exact .tail (.tail (.tail .head)) | exact .tail (.tail (.tail (.tail .head))) | exact .tail (.tail (.tail (.tail (.tail .head))))) (by repeat constructor)) rfl ?_
    | refine lst_run (run_load1 rfl rfl (by first | assumption | exact hpa _ hS | exact hS.cell0 (by assumption) | exact lv_next hS | exact lv_list hS)) rfl ?_
  refine lst_run (run_assign (by conv => lhs; whnf)) rfl ?_
  refine lst_done ?_
  refine goes_seq ?_
  refine goes_seq ?_
  refine goes_region ?_
  refine lst_run (run_move (by conv => lhs; whnf)) rfl ?_
  first
    | refine lst_run (run_lss_yes rfl rfl (by omega)) rfl ?_
    | refine lst_run (run_lss_no rfl rfl (by omega)) rfl ?_
    | refine lst_run (rfl) rfl ?_
  refine lst_done ?_
  refine goes_false rfl ?_
  refine goes_skip ?_
  refine goes_seq ?_
  refine goes_block ?_
  obtain ⟨n, hw⟩ := hM.2.1
  refine goes_loop1 1 (54 :: 55 :: 56 :: 66 :: 67 :: 68 :: 69 :: 70 :: 71 :: 72 :: 57 :: 58 :: 59 :: 60 :: 61 :: 62 :: 63 :: 64 :: 65 :: []) (fun (k : Nat) v w' => ∃ (a' : Int) (P' : List Int), v = .int .i64 a' ∧ isAddr L a' = true ∧ hlook L a' = hlook L a ∧ WayN L k a' e ∧ PMid L P' a' e ∧ St M w0 ((bb, bob A L.length c B m d pb P.length nodes most) :: (pb, iob P') :: H) F w') (fun k => k) (n) ?_ (by conv => lhs; whnf) ?_
  · exact ⟨a, P1, rfl, ha, rfl, hw, hM, hS⟩
  clear hS
  rintro k _ w3 jv2 ⟨a', P', rfl, ha2, hla, hwk, hM', hS⟩ ih
  obtain ⟨y, hy⟩ := isAddr_iff.1 ha2
  obtain ⟨a0, a1, hgy⟩ := hat_get hy
  have hpl2 := hM'.1
  by_cases hae : a' = e
  · subst hae
    refine goes_seq ?_
    refine goes_seq ?_
    refine goes_region ?_
    refine lst_run (run_move (by conv => lhs; whnf)) rfl ?_
    refine lst_run (run_move (by conv => lhs; whnf)) rfl ?_
    first
      | refine lst_run (run_neq_one_int rfl rfl) rfl ?_
      | refine lst_run (run_neq_no rfl rfl (by first | assumption | omega)) rfl ?_
      | refine lst_run (run_neq_yes rfl rfl (by omega)) rfl ?_
      | refine lst_run (rfl) rfl ?_
    refine lst_done ?_
    refine goes_false rfl ?_
    refine goes_exit rfl ?_
    refine goes_seq ?_
    refine goes_region ?_
    refine lst_run (run_move (by conv => lhs; whnf)) rfl ?_
    refine lst_run (run_assign (by conv => lhs; whnf)) rfl ?_
    refine lst_done ?_
    refine goes_ret1 Try.func70 rfl (by conv => lhs; whnf) ?_
    refine ⟨rfl, P', hM'.fin (by rw [hla]; exact hn), ?_⟩
    rw [show P'.length = P.length by omega]; exact hS
  obtain ⟨hyk, hyn, hM2⟩ := hM'.tell hae hy
  rw [hla] at hM2
  obtain ⟨b', o', rfl⟩ := (hS.und hL).some_ (by omega)
  have hcc : ∀ {H'} w', St M w0 H' F w' → _ := fun w' hS => (hS.und hL).cell hgy
  have hput := intsV_put P' a'.toNat (hlook L a) (by omega)
  refine goes_seq ?_
  refine goes_seq ?_
  refine goes_region ?_
  refine lst_run (run_move (by conv => lhs; whnf)) rfl ?_
  refine lst_run (run_move (by conv => lhs; whnf)) rfl ?_
  first
    | refine lst_run (run_neq_one_int rfl rfl) rfl ?_
    | refine lst_run (run_neq_no rfl rfl (by first | assumption | omega)) rfl ?_
    | refine lst_run (run_neq_yes rfl rfl (by omega)) rfl ?_
    | refine lst_run (rfl) rfl ?_
  refine lst_done ?_
  refine goes_true rfl ?_
  refine goes_skip ?_
  refine goes_seq ?_
  refine goes_block ?_
  refine goes_region ?_
  refine lst_run (run_move (by conv => lhs; whnf)) rfl ?_
  refine lst_run (run_nilCheck rfl) rfl ?_
  refine lst_run (run_fieldAddr (off := 2) rfl rfl) rfl ?_
  first
    | refine lst_run (run_load1_own hS rfl rfl (by first | exact .head | exact .tail .head | exact .tail (.tail .head) | exact .tail (.tail (.tail .head)) | exact .tail (.tail (.tail (.tail .head))) | exact .tail (.tail (.tail (.tail (.tail .head))))) (by repeat constructor)) rfl ?_
    | refine lst_run (run_load1 rfl rfl (by first | assumption | exact (hcc _ hS).1 | exact (hcc _ hS).2.1 | exact (hcc _ hS).2.2 | exact hS.cell0 (by assumption) | exact lv_next hS | exact lv_list hS)) rfl ?_
  refine lst_run (run_move (by conv => lhs; whnf)) rfl ?_
  refine lst_run (run_move (by conv => lhs; whnf)) rfl ?_
  refine lst_run (run_indexAddr (sz := 1) rfl rfl rfl rfl (by omega) (by omega)) rfl ?_
  refine lst_store1 hS rfl (by conv => lhs; whnf) rfl rfl (.tail .head) (by rw [Nat.zero_add, Nat.mul_one]; exact hput) (.tail .head) ?_
  clear hS
  intro w6 hS
  refine lst_done ?_
  refine goes_inBlock ?_
  refine goes_region ?_
  refine lst_run (run_move (by conv => lhs; whnf)) rfl ?_
  refine lst_run (run_nilCheck rfl) rfl ?_
  refine lst_run (run_fieldAddr (off := 0) rfl rfl) rfl ?_
  refine lst_run (run_fieldAddr (off := 0) rfl rfl) rfl ?_
  first
    | refine lst_run (run_load1_own hS rfl rfl (by first | exact .head | exact .tail .head | exact .tail (.tail .head) | exact .tail (.tail (.tail .head)) | exact .tail (.tail (.tail (.tail .head))) | exact .tail (.tail (.tail (.tail (.tail .head))))) (by repeat constructor)) rfl ?_
    | refine lst_run (run_load1 rfl rfl (by first | assumption | exact (hcc _ hS).1 | exact (hcc _ hS).2.1 | exact (hcc _ hS).2.2 | exact hS.cell0 (by assumption) | exact lv_next hS | exact lv_list hS)) rfl ?_
  refine lst_run (run_move (by conv => lhs; whnf)) rfl ?_
  refine lst_run (run_indexAddr (sz := 3) rfl rfl rfl rfl (by omega) (by omega)) rfl ?_
  refine lst_run (run_fieldAddr (off := 1) rfl rfl) rfl ?_
  first
    | refine lst_run (run_load1_own hS rfl rfl (by first | exact .head | exact .tail .head | exact .tail (.tail .head) | exact .tail (.tail (.tail .head)) | exact .tail (.tail (.tail (.tail .head))) | exact .tail (.tail (.tail (.tail (.tail .head))))) (by repeat constructor)) rfl ?_
    | refine lst_run (run_load1 rfl rfl (by first | assumption | exact (hcc _ hS).1 | exact (hcc _ hS).2.1 | exact (hcc _ hS).2.2 | exact hS.cell0 (by assumption) | exact lv_next hS | exact lv_list hS)) rfl ?_
  refine lst_run (run_assign (by conv => lhs; whnf)) rfl ?_
  refine lst_done ?_
  cases hwk with
  | refl => exact absurd rfl hae
  | @step n' _ _ c' q1 q2 q3 q4 =>
    rw [hy] at q1; cases q1
    refine ih n' _ _ _ ?_ ?_ (by conv => lhs; whnf) (by kernel_rfl)
    · omega
    · exact ⟨y.n, _, rfl, hadr hy hyk, by rw [← hla]; exact (WayN.step hy hyk hyn .refl).look.symm, q4, hM2, hS⟩
end
end Go.Proofs.Ytjicoifjgokoiab
