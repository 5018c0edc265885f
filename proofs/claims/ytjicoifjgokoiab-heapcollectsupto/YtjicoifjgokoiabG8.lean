/- SameNR, HRef2, HChain, HMark, HDfs, Mk, HWalk10: texts that follow one another, laid into one file. -/
import Derived.Test.YtjicoifjgokoiabG1
import Derived.Test.YtjicoifjgokoiabG0
import Derived.Test.YtjicoifjgokoiabG7
import Derived.Test.YtjicoifjgokoiabG4
import Derived.Laws.MakeOwn
import Derived.Test.YtjicoifjgokoiabG3
namespace Go.Proofs.Ytjicoifjgokoiab
open Go.RowKit
set_option linter.unusedVariables false
set_option linter.unusedSimpArgs false
set_option maxRecDepth 100000
set_option maxHeartbeats 1000000

theorem sameNumbersR_eq (L : List Int) (A B : Option Addr) (c d : Nat) (w : World) (hL : Flat 1 (intsV L) A L.length c w) (hK : Flat 1 (intsV L) B L.length d w) (hl : L.length ≤ 9223372036854775807) :
    Calls Try.prog 29 #[.slice A L.length c, .slice B L.length d] w fun e w' => e = .returned (.bool true) ∧ Below w.heap.size w w' := by
  have hS := ((St.start w).flat (M := []) hL).flat (M := []) hK
  refine goes_enter2 Try.func29 rfl Try.ntmps29 rfl ?_
  refine goes_seq ?_
  refine goes_region ?_
  refine lst_run (run_assign (by conv => lhs; whnf)) rfl ?_
  refine lst_done ?_
  refine goes_seq ?_
  refine goes_seq ?_
  refine goes_region ?_
  refine lst_run (run_move (by conv => lhs; whnf)) rfl ?_
  refine lst_run (run_len_slice rfl rfl rfl) rfl ?_
  refine lst_run (run_move (by conv => lhs; whnf)) rfl ?_
  refine lst_run (run_len_slice rfl rfl rfl) rfl ?_
  first
    | refine lst_run (run_neq_one_int rfl rfl) rfl ?_
    | refine lst_run (run_neq_no rfl rfl (by first | assumption | omega)) rfl ?_
    | refine lst_run (run_neq_yes rfl rfl (by omega)) rfl ?_
    | refine lst_run (rfl) rfl ?_
  refine lst_done ?_
  refine goes_false rfl ?_
  refine goes_skip ?_
  refine goes_seq ?_
  refine goes_seq ?_
  refine goes_region ?_
  refine lst_run (run_move (by conv => lhs; whnf)) rfl ?_
  refine lst_run (run_len_slice rfl rfl rfl) rfl ?_
  refine lst_run (run_move (by conv => lhs; whnf)) rfl ?_
  refine lst_done ?_
  refine goes_block ?_
  refine goes_loop1 13 (14 :: 15 :: 5 :: 16 :: 17 :: 18 :: 19 :: 20 :: 21 :: 22 :: 23 :: 24 :: 4 :: 25 :: []) (fun (R : List Int) v w' => ∃ D, L = D ++ R ∧ v = .int .i64 (D.length : Nat) ∧ St [] w [] [Flat 1 (intsV L) B L.length d, Flat 1 (intsV L) A L.length c] w') (fun R => R.length) (L) ?_ (by conv => lhs; whnf) ?_
  · exact ⟨[], rfl, rfl, hS⟩
  clear hS
  rintro R _ w2 jv ⟨D, hD, rfl, hS⟩ ih
  have hlen : L.length = D.length + R.length := by rw [hD]; simp
  cases R with
  | nil =>
    simp only [List.length_nil] at hlen
    refine goes_seq ?_
    refine goes_region ?_
    first
      | refine lst_run (run_lss_yes rfl rfl (by omega)) rfl ?_
      | refine lst_run (run_lss_no rfl rfl (by omega)) rfl ?_
      | refine lst_run (rfl) rfl ?_
    refine lst_done ?_
    refine goes_seq ?_
    refine goes_false rfl ?_
    refine goes_exit rfl ?_
    refine goes_seq ?_
    refine goes_region ?_
    refine lst_run (run_assign (by conv => lhs; whnf)) rfl ?_
    refine lst_done ?_
    refine goes_ret1 Try.func29 rfl (by conv => lhs; whnf) ?_
    exact ⟨rfl, hS.ext.below⟩
  | cons x R =>
    simp only [List.length_cons] at hlen
    obtain ⟨b, o, rfl⟩ := hL.some_ (by omega)
    obtain ⟨b2, o2, rfl⟩ := hK.some_ (by omega)
    have hx : L[D.length]? = some x := by rw [hD]; simp
    have hcc : ∀ {H'} w', St [] w H' [Flat 1 (intsV L) (some ⟨b2, o2, none⟩) L.length d, Flat 1 (intsV L) (some ⟨b, o, none⟩) L.length c] w' → _ := fun w' hS => (hS.fact (.head _)).int hx
    have hcd : ∀ {H'} w', St [] w H' [Flat 1 (intsV L) (some ⟨b2, o2, none⟩) L.length d, Flat 1 (intsV L) (some ⟨b, o, none⟩) L.length c] w' → _ := fun w' hS => (hS.fact (.tail _ (.head _))).int hx
    refine goes_seq ?_
    refine goes_region ?_
    first
      | refine lst_run (run_lss_yes rfl rfl (by omega)) rfl ?_
      | refine lst_run (run_lss_no rfl rfl (by omega)) rfl ?_
      | refine lst_run (rfl) rfl ?_
    refine lst_done ?_
    refine goes_seq ?_
    refine goes_true rfl ?_
    refine goes_skip ?_
    refine goes_seq ?_
    refine goes_block ?_
    refine goes_seq ?_
    refine goes_region ?_
    refine lst_run (run_move (by conv => lhs; whnf)) rfl ?_
    refine lst_run (run_assign (by conv => lhs; whnf)) rfl ?_
    refine lst_done ?_
    refine goes_seq ?_
    refine goes_draw (St _ _ _ _) 9 ((0, true) :: (1, true) :: (2, true) :: (3, true) :: (4, true) :: (5, true) :: (6, true) :: (7, true) :: (8, true) :: []) (by kernel_rfl) (by kernel_rfl) (hS.drew) ?_
    replace hS := hS.drew
    refine ord_read rfl (fun _ hS => run_move (by conv => lhs; whnf)) rfl ?_
    refine ord_read rfl (fun _ hS => run_move (by conv => lhs; whnf)) rfl ?_
    refine ord_read rfl (fun _ hS => run_indexAddr (sz := 1) rfl rfl rfl rfl (by omega) (by omega)) rfl ?_
    first
      | refine ord_read rfl (fun _ hS => run_load1_own hS rfl rfl (by first | exact .head | exact .tail .head | exact .tail (.tail .head) | exact .tail (.tail (.tail .head)) | exact .tail (.tail (.tail (.tail .head))) | exact .tail (.tail (.tail (.tail (.tail .head))))) (by repeat constructor)) rfl ?_
      | refine ord_read rfl (fun _ hS => run_load1 rfl rfl (by first | assumption | exact hcc _ hS | exact hcd _ hS | exact hS.cell0 (by assumption) | exact lv_next hS | exact lv_list hS)) rfl ?_
    refine ord_read rfl (fun _ hS => run_move (by conv => lhs; whnf)) rfl ?_
    refine ord_read rfl (fun _ hS => run_move (by conv => lhs; whnf)) rfl ?_
    refine ord_read rfl (fun _ hS => run_indexAddr (sz := 1) rfl rfl rfl rfl (by omega) (by omega)) rfl ?_
    first
      | refine ord_read rfl (fun _ hS => run_load1_own hS rfl rfl (by first | exact .head | exact .tail .head | exact .tail (.tail .head) | exact .tail (.tail (.tail .head)) | exact .tail (.tail (.tail (.tail .head))) | exact .tail (.tail (.tail (.tail (.tail .head))))) (by repeat constructor)) rfl ?_
      | refine ord_read rfl (fun _ hS => run_load1 rfl rfl (by first | assumption | exact hcc _ hS | exact hcd _ hS | exact hS.cell0 (by assumption) | exact lv_next hS | exact lv_list hS)) rfl ?_
    first
      | refine ord_read rfl (fun _ hS => run_neq_one_int rfl rfl) rfl ?_
      | refine ord_read rfl (fun _ hS => run_neq_no rfl rfl (by first | assumption | omega)) rfl ?_
      | refine ord_read rfl (fun _ hS => run_neq_yes rfl rfl (by omega)) rfl ?_
      | refine ord_read rfl (fun _ hS => rfl) rfl ?_
    refine ord_end ?_
    refine lst_done ?_
    refine goes_false rfl ?_
    refine goes_skip ?_
    refine goes_inBlock ?_
    refine goes_region ?_
    refine lst_run (run_add rfl rfl (by omega) (by omega)) rfl ?_
    refine lst_run (run_move (by conv => lhs; whnf)) rfl ?_
    refine lst_done ?_
    refine ih (R) _ _ _ ?_ ?_ (by conv => lhs; whnf) (by kernel_rfl)
    · simp
    · exact ⟨D ++ [x], by rw [hD]; simp, by simp, hS⟩
end Go.Proofs.Ytjicoifjgokoiab
namespace Go.Proofs.Ytjicoifjgokoiab
open Go.RowKit
set_option linter.unusedVariables false
set_option linter.unusedSimpArgs false
set_option maxRecDepth 100000
set_option maxHeartbeats 1000000

theorem sameCells_eq (L : List HC) (A B : Option Addr) (c d : Nat) (w : World) (hL : Flat 3 (hcsL L) A L.length c w) (hK : Flat 3 (hcsL L) B L.length d w) (hl : L.length ≤ 9223372036854775807) :
    Calls Try.prog 44 #[.slice A L.length c, .slice B L.length d] w fun e w' => e = .returned (.bool true) ∧ Below w.heap.size w w' := by
  have hS := ((St.start w).flat (M := []) hL).flat (M := []) hK
  refine goes_enter2 Try.func44 rfl Try.ntmps44 rfl ?_
  refine goes_seq ?_
  refine goes_region ?_
  refine lst_run (run_assign (by conv => lhs; whnf)) rfl ?_
  refine lst_done ?_
  refine goes_seq ?_
  refine goes_seq ?_
  refine goes_region ?_
  refine lst_run (run_move (by conv => lhs; whnf)) rfl ?_
  refine lst_run (run_len_slice rfl rfl rfl) rfl ?_
  refine lst_run (run_move (by conv => lhs; whnf)) rfl ?_
  refine lst_run (run_len_slice rfl rfl rfl) rfl ?_
  first
    | refine lst_run (run_neq_one_int rfl rfl) rfl ?_
    | refine lst_run (run_neq_no rfl rfl (by first | assumption | omega)) rfl ?_
    | refine lst_run (run_neq_yes rfl rfl (by omega)) rfl ?_
    | refine lst_run (rfl) rfl ?_
  refine lst_done ?_
  refine goes_false rfl ?_
  refine goes_skip ?_
  refine goes_seq ?_
  refine goes_seq ?_
  refine goes_region ?_
  refine lst_run (run_move (by conv => lhs; whnf)) rfl ?_
  refine lst_run (run_len_slice rfl rfl rfl) rfl ?_
  refine lst_run (run_move (by conv => lhs; whnf)) rfl ?_
  refine lst_done ?_
  refine goes_block ?_
  refine goes_loop1 13 (14 :: 15 :: 5 :: 16 :: 17 :: 18 :: 19 :: 20 :: 21 :: 22 :: 23 :: 24 :: 4 :: 25 :: []) (fun (R : List HC) v w' => ∃ D, L = D ++ R ∧ v = .int .i64 (D.length : Nat) ∧ St [] w [] [Flat 3 (hcsL L) B L.length d, Flat 3 (hcsL L) A L.length c] w') (fun R => R.length) (L) ?_ (by conv => lhs; whnf) ?_
  · exact ⟨[], rfl, rfl, hS⟩
  clear hS
  rintro R _ w2 jv ⟨D, hD, rfl, hS⟩ ih
  have hlen : L.length = D.length + R.length := by rw [hD]; simp
  cases R with
  | nil =>
    simp only [List.length_nil] at hlen
    refine goes_seq ?_
    refine goes_region ?_
    first
      | refine lst_run (run_lss_yes rfl rfl (by omega)) rfl ?_
      | refine lst_run (run_lss_no rfl rfl (by omega)) rfl ?_
      | refine lst_run (rfl) rfl ?_
    refine lst_done ?_
    refine goes_seq ?_
    refine goes_false rfl ?_
    refine goes_exit rfl ?_
    refine goes_seq ?_
    refine goes_region ?_
    refine lst_run (run_assign (by conv => lhs; whnf)) rfl ?_
    refine lst_done ?_
    refine goes_ret1 Try.func44 rfl (by conv => lhs; whnf) ?_
    exact ⟨rfl, hS.ext.below⟩
  | cons x R =>
    simp only [List.length_cons] at hlen
    obtain ⟨b, o, rfl⟩ := hL.some_ (by omega)
    obtain ⟨b2, o2, rfl⟩ := hK.some_ (by omega)
    have hx : L[D.length]? = some x := by rw [hD]; simp
    have hcc : ∀ {H'} w', St [] w H' [Flat 3 (hcsL L) (some ⟨b2, o2, none⟩) L.length d, Flat 3 (hcsL L) (some ⟨b, o, none⟩) L.length c] w' → _ := fun w' hS => (hS.fact (.head _)).cell hx
    have hcd : ∀ {H'} w', St [] w H' [Flat 3 (hcsL L) (some ⟨b2, o2, none⟩) L.length d, Flat 3 (hcsL L) (some ⟨b, o, none⟩) L.length c] w' → _ := fun w' hS => (hS.fact (.tail _ (.head _))).cell hx
    refine goes_seq ?_
    refine goes_region ?_
    first
      | refine lst_run (run_lss_yes rfl rfl (by omega)) rfl ?_
      | refine lst_run (run_lss_no rfl rfl (by omega)) rfl ?_
      | refine lst_run (rfl) rfl ?_
    refine lst_done ?_
    refine goes_seq ?_
    refine goes_true rfl ?_
    refine goes_skip ?_
    refine goes_seq ?_
    refine goes_block ?_
    refine goes_seq ?_
    refine goes_region ?_
    refine lst_run (run_move (by conv => lhs; whnf)) rfl ?_
    refine lst_run (run_assign (by conv => lhs; whnf)) rfl ?_
    refine lst_done ?_
    refine goes_seq ?_
    refine goes_draw (St _ _ _ _) 9 ((0, true) :: (1, true) :: (2, true) :: (3, true) :: (4, true) :: (5, true) :: (6, true) :: (7, true) :: (8, true) :: []) (by kernel_rfl) (by kernel_rfl) (hS.drew) ?_
    replace hS := hS.drew
    refine ord_read rfl (fun _ hS => run_move (by conv => lhs; whnf)) rfl ?_
    refine ord_read rfl (fun _ hS => run_move (by conv => lhs; whnf)) rfl ?_
    refine ord_read rfl (fun _ hS => run_indexAddr (sz := 3) rfl rfl rfl rfl (by omega) (by omega)) rfl ?_
    first
      | refine ord_read rfl (fun _ hS => run_loadN_own (k := 3) hS rfl rfl rfl (by first | exact .head | exact .tail .head | exact .tail (.tail .head) | exact .tail (.tail (.tail .head)) | exact .tail (.tail (.tail (.tail .head))) | exact .tail (.tail (.tail (.tail (.tail .head))))) (by repeat constructor)) rfl ?_
      | refine ord_read rfl (fun _ hS => run_load3 rfl rfl rfl (by first | assumption | exact (hcc _ hS).1 | exact (hcc _ hS).2.1 | exact (hcc _ hS).2.2 | exact (hcd _ hS).1 | exact (hcd _ hS).2.1 | exact (hcd _ hS).2.2 | exact hS.cell0 (by assumption)) (by first | assumption | exact (hcc _ hS).1 | exact (hcc _ hS).2.1 | exact (hcc _ hS).2.2 | exact (hcd _ hS).1 | exact (hcd _ hS).2.1 | exact (hcd _ hS).2.2 | exact hS.cell0 (by assumption)) (by first | assumption | exact (hcc _ hS).1 | exact (hcc _ hS).2.1 | exact (hcc _ hS).2.2 | exact (hcd _ hS).1 | exact (hcd _ hS).2.1 | exact (hcd _ hS).2.2 | exact hS.cell0 (by assumption))) rfl ?_
    refine ord_read rfl (fun _ hS => run_move (by conv => lhs; whnf)) rfl ?_
    refine ord_read rfl (fun _ hS => run_move (by conv => lhs; whnf)) rfl ?_
    refine ord_read rfl (fun _ hS => run_indexAddr (sz := 3) rfl rfl rfl rfl (by omega) (by omega)) rfl ?_
    first
      | refine ord_read rfl (fun _ hS => run_loadN_own (k := 3) hS rfl rfl rfl (by first | exact .head | exact .tail .head | exact .tail (.tail .head) | exact .tail (.tail (.tail .head)) | exact .tail (.tail (.tail (.tail .head))) | exact .tail (.tail (.tail (.tail (.tail .head))))) (by repeat constructor)) rfl ?_
      | refine ord_read rfl (fun _ hS => run_load3 rfl rfl rfl (by first | assumption | exact (hcc _ hS).1 | exact (hcc _ hS).2.1 | exact (hcc _ hS).2.2 | exact (hcd _ hS).1 | exact (hcd _ hS).2.1 | exact (hcd _ hS).2.2 | exact hS.cell0 (by assumption)) (by first | assumption | exact (hcc _ hS).1 | exact (hcc _ hS).2.1 | exact (hcc _ hS).2.2 | exact (hcd _ hS).1 | exact (hcd _ hS).2.1 | exact (hcd _ hS).2.2 | exact hS.cell0 (by assumption)) (by first | assumption | exact (hcc _ hS).1 | exact (hcc _ hS).2.1 | exact (hcc _ hS).2.2 | exact (hcd _ hS).1 | exact (hcd _ hS).2.1 | exact (hcd _ hS).2.2 | exact hS.cell0 (by assumption))) rfl ?_
    refine ord_read rfl (fun _ hS => run_neq_cell rfl rfl) rfl ?_
    refine ord_end ?_
    refine lst_done ?_
    rw [decide_eq_true (rfl : x = x)]
    refine goes_false rfl ?_
    refine goes_skip ?_
    refine goes_inBlock ?_
    refine goes_region ?_
    refine lst_run (run_add rfl rfl (by omega) (by omega)) rfl ?_
    refine lst_run (run_move (by conv => lhs; whnf)) rfl ?_
    refine lst_done ?_
    refine ih (R) _ _ _ ?_ ?_ (by conv => lhs; whnf) (by kernel_rfl)
    · simp
    · exact ⟨D ++ [x], by rw [hD]; simp, by simp, hS⟩
theorem sameHeap_eq (h : HH) (A B A2 B2 : Option Addr) (c d c2 d2 : Nat) (w : World) (h1 : HFl h A c B d w) (h2 : HFl h A2 c2 B2 d2 w) (hl : h.cs.length ≤ 9223372036854775807) (hl2 : h.tr.length ≤ 9223372036854775807) :
    Calls Try.prog 14 #[hv h A c B d, hv h A2 c2 B2 d2] w fun e w' => e = .returned (.bool true) ∧ Below w.heap.size w w' := by
  have hS := ((St.start w).base (φ := HFl h A c B d) fun w' hx => h1.ext hx).base (φ := HFl h A2 c2 B2 d2) fun w' hx => h2.ext hx
  refine goes_enter2 Try.func14 rfl Try.ntmps14 rfl ?_
  refine goes_seq ?_
  refine goes_region ?_
  refine lst_box hS rfl rfl ?_
  clear hS
  intro b1 wx1 hS
  refine lst_box hS rfl rfl ?_
  clear hS
  intro b2 wx2 hS
  refine lst_run (run_assign (by conv => lhs; whnf)) rfl ?_
  refine lst_done ?_
  refine goes_seq ?_
  refine goes_region ?_
  refine lst_run (run_fieldAddr (off := 0) rfl rfl) rfl ?_
  first
    | refine lst_run (run_load1_own hS rfl rfl (by first | exact .head | exact .tail .head | exact .tail (.tail .head) | exact .tail (.tail (.tail .head)) | exact .tail (.tail (.tail (.tail .head))) | exact .tail (.tail (.tail (.tail (.tail .head))))) (by repeat constructor)) rfl ?_
    | refine lst_run (run_load1 rfl rfl (by first | assumption | exact (hcc _ hS).1 | exact (hcc _ hS).2.1 | exact (hcc _ hS).2.2 | exact (hcd _ hS).1 | exact (hcd _ hS).2.1 | exact (hcd _ hS).2.2 | exact hS.cell0 (by assumption) | exact lv_next hS | exact lv_list hS)) rfl ?_
  refine lst_run (run_fieldAddr (off := 0) rfl rfl) rfl ?_
  first
    | refine lst_run (run_load1_own hS rfl rfl (by first | exact .head | exact .tail .head | exact .tail (.tail .head) | exact .tail (.tail (.tail .head)) | exact .tail (.tail (.tail (.tail .head))) | exact .tail (.tail (.tail (.tail (.tail .head))))) (by repeat constructor)) rfl ?_
    | refine lst_run (run_load1 rfl rfl (by first | assumption | exact (hcc _ hS).1 | exact (hcc _ hS).2.1 | exact (hcc _ hS).2.2 | exact (hcd _ hS).1 | exact (hcd _ hS).2.1 | exact (hcd _ hS).2.2 | exact hS.cell0 (by assumption) | exact lv_next hS | exact lv_list hS)) rfl ?_
  refine lst_enter (run_call (by kernel_rfl) (args_2 (by conv => lhs; whnf) (by conv => lhs; whnf))) rfl ?_
  refine Calls.mono (sameCells_eq h.cs A A2 c c2 _ (hS.fact (.tail _ (.head _))).1 (hS.fact (.head _)).1 hl) ?_
  rintro _ w3 ⟨rfl, hb3⟩
  refine ⟨_, rfl, ?_⟩
  replace hS := hS.grow hb3
  refine lst_run (run_move (by conv => lhs; whnf)) rfl ?_
  refine lst_guard rfl rfl ?_
  refine lst_run (run_fieldAddr (off := 1) rfl rfl) rfl ?_
  refine lst_guard rfl rfl ?_
  first
    | refine lst_run (run_load1_own hS rfl rfl (by first | exact .head | exact .tail .head | exact .tail (.tail .head) | exact .tail (.tail (.tail .head)) | exact .tail (.tail (.tail (.tail .head))) | exact .tail (.tail (.tail (.tail (.tail .head))))) (by repeat constructor)) rfl ?_
    | refine lst_run (run_load1 rfl rfl (by first | assumption | exact (hcc _ hS).1 | exact (hcc _ hS).2.1 | exact (hcc _ hS).2.2 | exact (hcd _ hS).1 | exact (hcd _ hS).2.1 | exact (hcd _ hS).2.2 | exact hS.cell0 (by assumption) | exact lv_next hS | exact lv_list hS)) rfl ?_
  refine lst_guard rfl rfl ?_
  refine lst_run (run_fieldAddr (off := 1) rfl rfl) rfl ?_
  refine lst_guard rfl rfl ?_
  first
    | refine lst_run (run_load1_own hS rfl rfl (by first | exact .head | exact .tail .head | exact .tail (.tail .head) | exact .tail (.tail (.tail .head)) | exact .tail (.tail (.tail (.tail .head))) | exact .tail (.tail (.tail (.tail (.tail .head))))) (by repeat constructor)) rfl ?_
    | refine lst_run (run_load1 rfl rfl (by first | assumption | exact (hcc _ hS).1 | exact (hcc _ hS).2.1 | exact (hcc _ hS).2.2 | exact (hcd _ hS).1 | exact (hcd _ hS).2.1 | exact (hcd _ hS).2.2 | exact hS.cell0 (by assumption) | exact lv_next hS | exact lv_list hS)) rfl ?_
  refine lst_guard rfl rfl ?_
  refine lst_enter (run_call (by kernel_rfl) (args_2 (by conv => lhs; whnf) (by conv => lhs; whnf))) rfl ?_
  refine Calls.mono (sameNumbersR_eq h.tr B B2 d d2 _ (hS.fact (.tail _ (.head _))).2 (hS.fact (.head _)).2 hl2) ?_
  rintro _ w4 ⟨rfl, hb4⟩
  refine ⟨_, rfl, ?_⟩
  replace hS := hS.grow hb4
  first
    | refine lst_run (run_pick_t rfl (by conv => lhs; whnf)) rfl ?_
    | refine lst_run (run_pick_f rfl (by conv => lhs; whnf)) rfl ?_
  refine lst_run (run_assign (by conv => lhs; whnf)) rfl ?_
  refine lst_done ?_
  refine goes_ret1 Try.func14 rfl (by conv => lhs; whnf) ?_
  exact ⟨rfl, hS.ext.below⟩
section
variable {M : List Nat} {w0 : World} {H : List (Nat × Obj)} {F : List (World → Prop)}
theorem copyHeap_any (h : HH) (A B : Option Addr) (c d : Nat) (w : World) (hH : Und F (HFl h A c B d)) (hl : h.cs.length ≤ 4398046511104) (hl2 : h.tr.length ≤ 17592186044416) (hS : St M w0 H F w) :
    Calls Try.prog 11 #[hv h A c B d] w fun e w' => ∃ (A' : Option Addr) (c' : Nat) (B' : Option Addr) (d' : Nat) (O O2 : List (Nat × Obj)), e = .returned (hv h A' c' B' d') ∧ Rw 59 3 (.slice A' h.cs.length c') h.cs.length (hcsL h.cs) O ∧ Rw 3 1 (.slice B' h.tr.length d') h.tr.length (intsV h.tr) O2 ∧ St M w0 (O ++ (O2 ++ H)) F w' := by
  have hL : Und F (Flat 3 (hcsL h.cs) A h.cs.length c) := hH.imp fun _ h => h.1
  have hT : Und F (Flat 1 (intsV h.tr) B h.tr.length d) := hH.imp fun _ h => h.2
  refine goes_enter1 Try.func11 rfl Try.ntmps11 rfl ?_
  refine goes_seq ?_
  refine goes_region ?_
  refine lst_box hS rfl rfl ?_
  clear hS
  intro b1 wx1 hS
  refine lst_alloc (cs := [_, _]) hS rfl rfl rfl ?_
  clear hS
  intro b2 wx2 hS
  refine lst_done ?_
  refine goes_seq ?_
  refine goes_meet1 9 (3 :: 4 :: 5 :: 6 :: 7 :: 8 :: []) (fun v w' => ∃ A3 c3 A4 c4 O3 O4, Rw 59 3 (.slice A3 h.cs.length c3) h.cs.length (hcsL h.cs) O3 ∧ Rw 3 1 (.slice A4 h.tr.length c4) h.tr.length (intsV h.tr) O4 ∧ St M w0 ((b2, hob A3 h.cs.length c3 A4 h.tr.length c4) :: (b1, hob A h.cs.length c B h.tr.length d) :: (O3 ++ (O4 ++ H))) F w') ?_ ?_
  · intro hmeet
    refine goes_plan (St _ _ _ _) 7 (.read 0 (.read 1 (.read 3 (.read 4 (.pick 2 (.pick 5 (.read 6 .tail) .none) .none))))) (by kernel_rfl) (by kernel_rfl) hS.drew ?_
    replace hS := hS.drew
    refine pln_read rfl (fun _ hS => run_fieldAddr (off := 0) rfl rfl) rfl ?_
    first
      | refine pln_read rfl (fun _ hS => run_load1_own hS rfl rfl (by first | exact .head | exact .tail .head | exact .tail (.tail .head) | exact .tail (.tail (.tail .head)) | exact .tail (.tail (.tail (.tail .head))) | exact .tail (.tail (.tail (.tail (.tail .head))))) (by repeat constructor)) rfl ?_
      | refine pln_read rfl (fun _ hS => run_load1 rfl rfl (by first | assumption | exact (hcc _ hS).1 | exact (hcc _ hS).2.1 | exact (hcc _ hS).2.2 | exact (hcd _ hS).1 | exact (hcd _ hS).2.1 | exact (hcd _ hS).2.2 | exact hS.cell0 (by assumption) | exact lv_next hS | exact lv_list hS)) rfl ?_
    refine pln_read rfl (fun _ hS => run_fieldAddr (off := 1) rfl rfl) rfl ?_
    first
      | refine pln_read rfl (fun _ hS => run_load1_own hS rfl rfl (by first | exact .head | exact .tail .head | exact .tail (.tail .head) | exact .tail (.tail (.tail .head)) | exact .tail (.tail (.tail (.tail .head))) | exact .tail (.tail (.tail (.tail (.tail .head))))) (by repeat constructor)) rfl ?_
      | refine pln_read rfl (fun _ hS => run_load1 rfl rfl (by first | assumption | exact (hcc _ hS).1 | exact (hcc _ hS).2.1 | exact (hcc _ hS).2.2 | exact (hcd _ hS).1 | exact (hcd _ hS).2.1 | exact (hcd _ hS).2.2 | exact hS.cell0 (by assumption) | exact lv_next hS | exact lv_list hS)) rfl ?_
    refine pln_last rfl ?_
    refine lst_appC (xs := []) (O := []) hS (by conv => lhs; whnf) (by conv => lhs; whnf) rfl rfl rfl (hS.und hL) Rw.zero_ (.refl _) (by omega) rfl ?_
    clear hS
    intro v3 O3 w3 hrow3 hS
    rw [Nat.zero_add, List.nil_append] at hrow3
    obtain ⟨A3, c3, rfl, _⟩ := hrow3.form
    replace hS := hS.perm (List.perm_append_comm_assoc O3 [_, _] _)
    refine lst_pln (by first | exact hS | exact hS.drop | exact hS.drop.drop | exact hS.drop.drop.drop | exact hS.unlearn | exact hS.unlearn.drop | exact hS.unlearn.drop.drop | exact St.dropL (L := O3) (hS.perm (List.perm_append_comm_assoc [_, _] O3 _)) | exact St.dropL (L := O4) (hS.perm (List.perm_append_comm_assoc [_, _] O4 _)) | exact St.dropL (L := O3) ((St.dropL (L := O4) (hS.perm (List.perm_append_comm_assoc [_, _] O4 _))).perm (List.perm_append_comm_assoc [_, _] O3 _)) | exact St.dropL (L := O4) ((St.dropL (L := O3) (hS.perm (List.perm_append_comm_assoc [_, _] O3 _))).perm (List.perm_append_comm_assoc [_, _] O4 _))) ?_
    refine pln_last rfl ?_
    refine lst_appI (xs := []) (O := []) hS (by conv => lhs; whnf) (by conv => lhs; whnf) rfl rfl rfl (hS.und hT) Rw.zero_ (.refl _) (by omega) rfl ?_
    clear hS
    intro v4 O4 w4 hrow4 hS
    rw [Nat.zero_add, List.nil_append] at hrow4
    obtain ⟨A4, c4, rfl, _⟩ := hrow4.form
    replace hS := hS.perm (List.perm_append_comm_assoc O4 [_, _] _)
    refine lst_pln (by first | exact hS | exact hS.drop | exact hS.drop.drop | exact hS.drop.drop.drop | exact hS.unlearn | exact hS.unlearn.drop | exact hS.unlearn.drop.drop | exact St.dropL (L := O3) (hS.perm (List.perm_append_comm_assoc [_, _] O3 _)) | exact St.dropL (L := O4) (hS.perm (List.perm_append_comm_assoc [_, _] O4 _)) | exact St.dropL (L := O3) ((St.dropL (L := O4) (hS.perm (List.perm_append_comm_assoc [_, _] O4 _))).perm (List.perm_append_comm_assoc [_, _] O3 _)) | exact St.dropL (L := O4) ((St.dropL (L := O3) (hS.perm (List.perm_append_comm_assoc [_, _] O3 _))).perm (List.perm_append_comm_assoc [_, _] O4 _))) ?_
    refine pln_read rfl (fun _ hS => run_build (cells := [_, _]) (.cons (by conv => lhs; whnf) (.cons (by conv => lhs; whnf) .nil)) rfl) rfl ?_
    refine pln_tail ?_
    refine lst_storeN hS rfl (by conv => lhs; whnf) rfl rfl (by first | exact .head | exact .tail .head | exact .tail (.tail .head) | exact .tail (.tail (.tail .head)) | exact .tail (.tail (.tail (.tail .head))) | exact .tail (.tail (.tail (.tail (.tail .head))))) (by repeat constructor) (by first | exact .head | exact .tail .head | exact .tail (.tail .head) | exact .tail (.tail (.tail .head)) | exact .tail (.tail (.tail (.tail .head))) | exact .tail (.tail (.tail (.tail (.tail .head))))) ?_
    clear hS
    intro wx3 hS
    refine lst_done ?_
    exact hmeet _ _ _ ⟨A3, c3, A4, c4, O3, O4, hrow3, hrow4, by first | exact hS | exact hS.perm (.cons _ (.cons _ (List.perm_append_comm_assoc O4 O3 _)))⟩ (by conv => lhs; whnf) (by kernel_rfl)
  clear hS
  rintro jv _ w5 ⟨A3, c3, A4, c4, O3, O4, hrow3, hrow4, hS⟩
  refine goes_retC (sz := 2) hS Try.func11 rfl rfl rfl rfl (by first | exact .head | exact .tail .head | exact .tail (.tail .head) | exact .tail (.tail (.tail .head)) | exact .tail (.tail (.tail (.tail .head))) | exact .tail (.tail (.tail (.tail (.tail .head))))) (by repeat constructor) ?_
  exact ⟨A3, c3, A4, c4, O3, O4, rfl, hrow3, hrow4, hS.drop.drop⟩
/-- A copy that nobody writes. -/
theorem copyHeap_kept (h : HH) (A B : Option Addr) (c d : Nat) (w : World) (hH : Und F (HFl h A c B d)) (hl : h.cs.length ≤ 4398046511104) (hl2 : h.tr.length ≤ 17592186044416) (hS : St M w0 H F w) :
    Calls Try.prog 11 #[hv h A c B d] w (HRes M w0 H F h fun A' c' B' d' e => e = .returned (hv h A' c' B' d')) :=
  (copyHeap_any h A B c d w hH hl hl2 hS).mono fun e w' ⟨A3, c3, A4, c4, O3, O4, he, hrow3, hrow4, hS⟩ => by
    have hS3 := St.freezeR hrow3 hS
    have hS4 := St.freezeR hrow4 hS3
    exact ⟨A3, c3, A4, c4, _, he, fun φ h => .tail _ (.tail _ h), fun w' hw => ⟨hw _ (.tail _ (.head _)), hw _ (.head _)⟩, hS4⟩
end
end Go.Proofs.Ytjicoifjgokoiab
namespace Go.Proofs.Ytjicoifjgokoiab
open Go.RowKit
set_option linter.unusedVariables false
set_option linter.unusedSimpArgs false

/-- From a, over n Refs, one comes to x, and there is no further way. -/
inductive EndsN (L : List HC) : Nat → Int → Int → Prop
  | here {a : Int} {c : HC} : hat L a = some c → ¬ (c.k = 0 ∧ c.n ≠ a) → EndsN L 0 a a
  | there {n : Nat} {a x : Int} {c : HC} : hat L a = some c → c.k = 0 → c.n ≠ a → EndsN L n c.n x → EndsN L (n + 1) a x
def End (L : List HC) (a x : Int) : Prop := ∃ n, EndsN L n a x
theorem EndsN.det {L : List HC} {n m : Nat} {a x y : Int} (h : EndsN L n a x) : EndsN L m a y → n = m ∧ x = y := by
  induction h generalizing m with
  | here h0 h1 =>
    intro g
    cases g with
    | here g0 g1 => exact ⟨rfl, rfl⟩
    | there g0 g1 g2 _ => rw [h0] at g0; cases g0; exact absurd ⟨g1, g2⟩ h1
  | there h0 h1 h2 _ ih =>
    intro g
    cases g with
    | here g0 g1 => rw [h0] at g0; cases g0; exact absurd ⟨h1, h2⟩ g1
    | there g0 g1 g2 g3 =>
      rw [h0] at g0; cases g0
      obtain ⟨e1, e2⟩ := ih g3
      exact ⟨by omega, e2⟩
theorem End.det {L : List HC} {a x y : Int} (h : End L a x) (g : End L a y) : x = y := by
  obtain ⟨_, h⟩ := h
  obtain ⟨_, g⟩ := g
  exact (h.det g).2
theorem EndsN.last {L : List HC} {n : Nat} {a x : Int} (h : EndsN L n a x) : ∃ c, hat L x = some c ∧ ¬ (c.k = 0 ∧ c.n ≠ x) := by
  induction h with
  | here h0 h1 => exact ⟨_, h0, h1⟩
  | there _ _ _ _ ih => exact ih
theorem End.last {L : List HC} {a x : Int} (h : End L a x) : ∃ c, hat L x = some c ∧ ¬ (c.k = 0 ∧ c.n ≠ x) := by
  obtain ⟨_, h⟩ := h; exact h.last
theorem End.self {L : List HC} {a x : Int} (h : End L a x) : End L x x := by
  obtain ⟨c, h0, h1⟩ := h.last
  exact ⟨0, .here h0 h1⟩
theorem End.of_nonvar {L : List HC} {x : Int} {c : HC} (h : hat L x = some c) (hk : c.k ≠ 0) : End L x x := ⟨0, .here h fun e => hk e.1⟩
theorem End.first {L : List HC} {a x : Int} (h : End L a x) : ∃ c, hat L a = some c := by
  obtain ⟨_, h⟩ := h
  cases h with
  | here h0 _ => exact ⟨_, h0⟩
  | there h0 _ _ _ => exact ⟨_, h0⟩
/-- A list of different numbers below n has at most n. -/
theorem nodup_len : ∀ (n : Nat) (l : List Nat), l.Nodup → (∀ y ∈ l, y < n) → l.length ≤ n
  | 0, l, _, h => by
    cases l with
    | nil => simp
    | cons y l => exact absurd (h y (by simp)) (by omega)
  | n + 1, l, hn, h => by
    by_cases hm : n ∈ l
    · have h1 := nodup_len n (l.erase n) (hn.erase n) fun y hy => by
        have h2 := (hn.mem_erase_iff).1 hy
        have h3 := h y h2.2
        have h4 := h2.1
        omega
      rw [List.length_erase_of_mem hm] at h1
      omega
    · have := nodup_len n l hn fun y hy => by
        have h3 := h y hy
        have h4 : y ≠ n := fun e => hm (e ▸ hy)
        omega
      omega
theorem EndsN.list {L : List HC} {n : Nat} {a x : Int} (h : EndsN L n a x) : ∃ l : List Nat, l.length = n + 1 ∧ l.Nodup ∧ (∀ y ∈ l, y < L.length) ∧ ∀ y ∈ l, ∃ j, j ≤ n ∧ EndsN L j (y : Int) x := by
  induction h with
  | @here a c h0 h1 =>
    obtain ⟨g0, g1, _⟩ := hatS.1 h0
    refine ⟨[a.toNat], rfl, by simp, fun y hy => ?_, fun y hy => ⟨0, Nat.le_refl _, ?_⟩⟩
    · simp at hy; omega
    · simp at hy
      rw [show ((y : Nat) : Int) = a by omega]
      exact .here h0 h1
  | @there n a x c h0 h1 h2 h3 ih =>
    obtain ⟨g0, g1, _⟩ := hatS.1 h0
    obtain ⟨l, l1, l2, l3, l4⟩ := ih
    have ha : ((a.toNat : Nat) : Int) = a := by omega
    refine ⟨a.toNat :: l, by simp [l1], List.nodup_cons.2 ⟨fun hm => ?_, l2⟩, fun y hy => ?_, fun y hy => ?_⟩
    · obtain ⟨j, hj, he⟩ := l4 _ hm
      rw [ha] at he
      have := (he.det (.there h0 h1 h2 h3)).1
      omega
    · rcases List.mem_cons.1 hy with rfl | hy
      · omega
      · exact l3 y hy
    · rcases List.mem_cons.1 hy with rfl | hy
      · rw [ha]; exact ⟨n + 1, Nat.le_refl _, .there h0 h1 h2 h3⟩
      · obtain ⟨j, hj, he⟩ := l4 y hy
        exact ⟨j, by omega, he⟩
theorem EndsN.lt {L : List HC} {n : Nat} {a x : Int} (h : EndsN L n a x) : n < L.length := by
  obtain ⟨l, l1, l2, l3, _⟩ := h.list
  have := nodup_len L.length l l2 l3
  omega
theorem hlookF_of {L : List HC} {n : Nat} {a x : Int} (h : EndsN L n a x) : ∀ f, n < f → hlookF L f a = x := by
  induction h with
  | here h0 h1 =>
    intro f hf
    obtain ⟨f, rfl⟩ : ∃ g, f = g + 1 := ⟨f - 1, by omega⟩
    simp only [hlookF, h0, if_neg h1]
  | there h0 h1 h2 _ ih =>
    intro f hf
    obtain ⟨f, rfl⟩ : ∃ g, f = g + 1 := ⟨f - 1, by omega⟩
    simp only [hlookF, h0, if_pos (And.intro h1 h2)]
    exact ih f (by omega)
theorem end_of_hlookF {L : List HC} : ∀ (f : Nat) (a : Int), ¬ hlookF L f a < 0 → ∃ n, EndsN L n a (hlookF L f a)
  | 0, a, h => absurd (show hlookF L 0 a < 0 by simp [hlookF]) h
  | f + 1, a, h => by
    cases hc : hat L a with
    | none => simp only [hlookF, hc] at h; exact absurd (by decide) h
    | some c =>
      by_cases hb : c.k = 0 ∧ c.n ≠ a
      · simp only [hlookF, hc, if_pos hb] at h ⊢
        obtain ⟨n, hn⟩ := end_of_hlookF f c.n h
        exact ⟨n + 1, .there hc hb.1 hb.2 hn⟩
      · simp only [hlookF, hc, if_neg hb]
        exact ⟨0, .here hc hb⟩
theorem End.look {L : List HC} {a x : Int} (h : End L a x) : hlook L a = x := by
  obtain ⟨n, h⟩ := h
  exact hlookF_of h _ h.lt
theorem end_look {L : List HC} {a : Int} (h : ¬ hlook L a < 0) : End L a (hlook L a) := end_of_hlookF _ _ h
theorem End.nonneg {L : List HC} {a x : Int} (h : End L a x) : 0 ≤ x := by
  obtain ⟨c, h0, _⟩ := h.last; exact (hatS.1 h0).1
theorem hlook_none {L : List HC} {a : Int} (h : ¬ ∃ x, End L a x) : hlook L a = -1 := by
  rcases hlookF_end (L := L) L.length a with h1 | ⟨c, h1, _⟩
  · exact h1
  · refine absurd ⟨hlook L a, end_look ?_⟩ h
    have := (hatS.1 h1).1
    unfold hlook; omega
/-- A cell's number set: what is there then. -/
theorem hat_setN {L : List HC} {r : Int} {c : HC} (hr : hat L r = some c) (y a : Int) : hat (setN L r.toNat y) a = if a = r then some ⟨c.k, y, c.s⟩ else hat L a := by
  obtain ⟨r0, r1, r2⟩ := hatS.1 hr
  unfold hat
  by_cases ha : 0 ≤ a
  · rw [if_pos ha, if_pos ha, setN_get]
    by_cases he : a = r
    · rw [if_pos he, if_pos (by rw [he]), he, r2]; rfl
    · rw [if_neg he, if_neg (by omega)]
  · rw [if_neg ha, if_neg ha, if_neg (by omega)]
/-- What more bindings leave. -/
structure Up (L L' : List HC) : Prop where
  ends : ∀ a x, End L a x → ∃ y, End L' a y ∧ End L' x y
  cell : ∀ a c, hat L a = some c → c.k ≠ 0 → hat L' a = some c
theorem Up.refl (L : List HC) : Up L L := ⟨fun a x h => ⟨x, h, h.self⟩, fun _ _ h _ => h⟩
theorem Up.trans {L L' L'' : List HC} (h : Up L L') (g : Up L' L'') : Up L L'' := by
  refine ⟨fun a x hx => ?_, fun a c hc hk => g.cell a c (h.cell a c hc hk) hk⟩
  obtain ⟨y, h1, h2⟩ := h.ends a x hx
  obtain ⟨z, g1, g2⟩ := g.ends a y h1
  obtain ⟨z', g3, g4⟩ := g.ends x y h2
  have := g2.det g4
  subst this
  exact ⟨z, g1, g3⟩
theorem Up.nonvar {L L' : List HC} (h : Up L L') {a x : Int} {c : HC} (ha : End L a x) (hx : hat L x = some c) (hk : c.k ≠ 0) : End L' a x := by
  obtain ⟨y, h1, h2⟩ := h.ends a x ha
  have := h2.det (End.of_nonvar (h.cell x c hx hk) hk)
  subst this; exact h1
/-- A variable bound to what ends elsewhere. -/
theorem end_bind {L : List HC} {r y : Int} {c : HC} (hr : hat L r = some c) (hk : c.k = 0) (hn : c.n = r) (hy : End L y y) (hne : y ≠ r) :
    (∀ a x, End L a x → x ≠ r → End (setN L r.toNat y) a x) ∧ (∀ a, End L a r → End (setN L r.toNat y) a y) := by
  have hyy : End (setN L r.toNat y) y y := by
    obtain ⟨d, d0, d1⟩ := hy.last
    exact ⟨0, .here (by rw [hat_setN hr, if_neg hne]; exact d0) d1⟩
  have key : ∀ n a x, EndsN L n a x → End (setN L r.toNat y) a (if x = r then y else x) := by
    intro n a x h
    induction h with
    | @here a d h0 h1 =>
      by_cases ha : a = r
      · rw [if_pos ha]
        obtain ⟨m, hm⟩ := hyy
        exact ⟨m + 1, .there (c := ⟨c.k, y, c.s⟩) (by rw [hat_setN hr, if_pos ha]) hk (by rw [ha]; exact hne) hm⟩
      · rw [if_neg ha]
        exact ⟨0, .here (by rw [hat_setN hr, if_neg ha]; exact h0) h1⟩
    | @there n a x d h0 h1 h2 _ ih =>
      have ha : a ≠ r := fun e => by
        rw [e, hr] at h0; cases h0
        rw [e] at h2; exact h2 hn
      obtain ⟨m, hm⟩ := ih
      exact ⟨m + 1, .there (by rw [hat_setN hr, if_neg ha]; exact h0) h1 h2 hm⟩
  refine ⟨fun a x ⟨n, h⟩ hx => ?_, fun a ⟨n, h⟩ => ?_⟩
  · have := key n a x h; rwa [if_neg hx] at this
  · have := key n a r h; rwa [if_pos rfl] at this
theorem up_bind {L : List HC} {r y : Int} {c : HC} (hr : hat L r = some c) (hk : c.k = 0) (hn : c.n = r) (hy : End L y y) (hne : y ≠ r) : Up L (setN L r.toNat y) := by
  obtain ⟨h1, h2⟩ := end_bind hr hk hn hy hne
  refine ⟨fun a x hx => ?_, fun a d hd hdk => ?_⟩
  · by_cases he : x = r
    · subst he; exact ⟨y, h2 a hx, h2 _ hx.self⟩
    · exact ⟨x, h1 a x hx he, h1 x x hx.self he⟩
  · rw [hat_setN hr, if_neg]
    · exact hd
    · intro e; rw [e, hr] at hd; cases hd; exact hdk hk
/-- A relation between places under which ends are the same, or cells are, with their arguments. -/
def Bis (L : List HC) (R : Int → Int → Prop) : Prop := ∀ a b, R a b → a = b ∨ ∃ x y, End L a x ∧ End L b y ∧ (x = y ∨ ∃ c, hat L x = some c ∧ hat L y = some c ∧ c.k ≠ 0 ∧ ∀ i : Int, 0 ≤ i → i < argsC c → R (x + 1 + i) (y + 1 + i))
/-- Two places that are one. -/
def Sm (L : List HC) (a b : Int) : Prop := ∃ R, Bis L R ∧ R a b
theorem Sm.ends {L : List HC} {a b : Int} (h : Sm L a b) : a = b ∨ ∃ x y, End L a x ∧ End L b y ∧ (x = y ∨ ∃ c, hat L x = some c ∧ hat L y = some c ∧ c.k ≠ 0 ∧ ∀ i : Int, 0 ≤ i → i < argsC c → Sm L (x + 1 + i) (y + 1 + i)) := by
  obtain ⟨R, hR, hab⟩ := h
  rcases hR a b hab with e | ⟨x, y, hx, hy, e | ⟨c, h1, h2, h3, h4⟩⟩
  · exact .inl e
  · exact .inr ⟨x, y, hx, hy, .inl e⟩
  · exact .inr ⟨x, y, hx, hy, .inr ⟨c, h1, h2, h3, fun i i0 i1 => ⟨R, hR, h4 i i0 i1⟩⟩⟩
theorem Sm.step {L : List HC} {a b : Int} (h : Sm L a b) {x y : Int} (hx : End L a x) (hy : End L b y) : x = y ∨ ∃ c, hat L x = some c ∧ hat L y = some c ∧ c.k ≠ 0 ∧ ∀ i : Int, 0 ≤ i → i < argsC c → Sm L (x + 1 + i) (y + 1 + i) := by
  rcases h.ends with e | ⟨x', y', hx', hy', e⟩
  · subst e; exact .inl (hx.det hy)
  · have e1 := hx.det hx'
    have e2 := hy.det hy'
    subst e1 e2; exact e
theorem Sm.of {L : List HC} {a b x y : Int} (hx : End L a x) (hy : End L b y) (h : x = y ∨ ∃ c, hat L x = some c ∧ hat L y = some c ∧ c.k ≠ 0 ∧ ∀ i : Int, 0 ≤ i → i < argsC c → Sm L (x + 1 + i) (y + 1 + i)) : Sm L a b := by
  refine ⟨fun p q => Sm L p q ∨ (p = a ∧ q = b), fun p q hpq => ?_, .inr ⟨rfl, rfl⟩⟩
  have : p = q ∨ ∃ x y, End L p x ∧ End L q y ∧ (x = y ∨ ∃ c, hat L x = some c ∧ hat L y = some c ∧ c.k ≠ 0 ∧ ∀ i : Int, 0 ≤ i → i < argsC c → Sm L (x + 1 + i) (y + 1 + i)) := by
    rcases hpq with h1 | ⟨rfl, rfl⟩
    · exact h1.ends
    · exact .inr ⟨x, y, hx, hy, h⟩
  rcases this with e | ⟨x, y, hx, hy, e | ⟨c, h1, h2, h3, h4⟩⟩
  · exact .inl e
  · exact .inr ⟨x, y, hx, hy, .inl e⟩
  · exact .inr ⟨x, y, hx, hy, .inr ⟨c, h1, h2, h3, fun i i0 i1 => .inl (h4 i i0 i1)⟩⟩
theorem Sm.refl (L : List HC) (a : Int) : Sm L a a := ⟨fun p q => p = q, fun p q e => .inl e, rfl⟩
theorem Sm.symm {L : List HC} {a b : Int} (h : Sm L a b) : Sm L b a := by
  obtain ⟨R, hR, hab⟩ := h
  refine ⟨fun p q => R q p, fun p q hpq => ?_, hab⟩
  rcases hR q p hpq with e | ⟨x, y, hx, hy, e | ⟨c, h1, h2, h3, h4⟩⟩
  · exact .inl e.symm
  · exact .inr ⟨y, x, hy, hx, .inl e.symm⟩
  · exact .inr ⟨y, x, hy, hx, .inr ⟨c, h2, h1, h3, h4⟩⟩
theorem Sm.meet {L : List HC} {a b x : Int} (ha : End L a x) (hb : End L b x) : Sm L a b := Sm.of ha hb (.inl rfl)
end Go.Proofs.Ytjicoifjgokoiab
namespace Go.Proofs.Ytjicoifjgokoiab
open Go.RowKit
set_option linter.unusedVariables false
set_option linter.unusedSimpArgs false

/-- A place that is reached from R. -/
inductive Rc (L : List HC) (R : List Int) : Int → Prop
  | root {a : Int} : a ∈ R → isAddr L a = true → Rc L R a
  | ref {a : Int} {c : HC} : Rc L R a → hat L a = some c → c.k = 0 → Rc L R c.n
  | arg {a : Int} {c : HC} {i : Int} : Rc L R a → hat L a = some c → 0 ≤ i → i < argsC c → Rc L R (a + 1 + i)
theorem isAddr_iff' {L : List HC} {a : Int} : isAddr L a = true ↔ 0 ≤ a ∧ a < L.length := by unfold isAddr; simp
theorem goodL_of {n : Nat} : ∀ {L : List HC}, (∀ i c, L[i]? = some c → goodC n c (L.length - i - 1) = true) → goodL n L = true
  | [], _ => rfl
  | x :: r, h => by
    simp only [goodL, Bool.and_eq_true]
    refine ⟨by have := h 0 x rfl; simpa using this, goodL_of fun i c hc => ?_⟩
    have := h (i + 1) c (by simpa using hc)
    rw [List.length_cons, show r.length + 1 - (i + 1) - 1 = r.length - i - 1 by omega] at this
    exact this
theorem argsC_good {n f : Nat} {c : HC} (h : goodC n c f = true) : 0 ≤ argsC c ∧ argsC c ≤ f ∧ argsC c ≤ 4 := by
  have := goodC_iff h
  unfold argsC
  split <;> omega
theorem Rc.addr {L : List HC} {R : List Int} (hg : goodL L.length L = true) {a : Int} (h : Rc L R a) : isAddr L a = true := by
  induction h with
  | root _ h => exact h
  | ref h hc hk ih =>
    have := good_ref hg hc hk
    rw [isAddr_iff']; exact this
  | arg h hc i0 i1 ih =>
    have h1 := hatS.1 hc
    have h2 := argsC_good (good_hat hg hc)
    rw [isAddr_iff']
    omega
/-- The cells that are reached, marked. -/
def MarkOf (L : List HC) (R : List Int) (M : List Bool) : Prop := M.length = L.length ∧ ∀ i : Nat, i < L.length → (M[i]? = some true ↔ Rc L R (i : Int))
noncomputable def marksM (L : List HC) (R : List Int) : List Bool := (List.range L.length).map fun i => @decide (Rc L R ((i : Nat) : Int)) (Classical.propDecidable _)
theorem marksM_of (L : List HC) (R : List Int) : MarkOf L R (marksM L R) := by
  refine ⟨by simp [marksM], fun i hi => ?_⟩
  unfold marksM
  rw [List.getElem?_map, List.getElem?_range hi]
  simp
theorem MarkOf.eq {L : List HC} {R : List Int} {M : List Bool} (h : MarkOf L R M) : M = marksM L R := by
  have g := marksM_of L R
  refine List.ext_getElem? fun i => ?_
  by_cases hi : i < L.length
  · have h1 := h.2 i hi
    have h2 := g.2 i hi
    have e1 : M[i]? = some (M[i]'(by rw [h.1]; exact hi)) := List.getElem?_eq_getElem _
    have e2 : (marksM L R)[i]? = some ((marksM L R)[i]'(by rw [g.1]; exact hi)) := List.getElem?_eq_getElem _
    rw [e1] at h1
    rw [e2] at h2
    rw [e1, e2]
    congr 1
    have h3 := h1.trans h2.symm
    simp only [Option.some.injEq] at h3
    cases hx : M[i]'(by rw [h.1]; exact hi) <;> cases hy : (marksM L R)[i]'(by rw [g.1]; exact hi) <;> simp_all
  · rw [List.getElem?_eq_none (by rw [h.1]; omega), List.getElem?_eq_none (by rw [g.1]; omega)]
/-- How many of the first n are marked. -/
def rk (M : List Bool) (n : Nat) : Nat := (M.take n).count true
abbrev rkI (M : List Bool) (a : Int) : Int := ((rk M a.toNat : Nat) : Int)
theorem rk_zero (M : List Bool) : rk M 0 = 0 := by simp [rk]
theorem rk_succ {M : List Bool} {n : Nat} {b : Bool} (h : M[n]? = some b) : rk M (n + 1) = rk M n + (if b = true then 1 else 0) := by
  unfold rk
  rw [List.take_add_one, h, List.count_append]
  cases b <;> simp
theorem rk_end {M : List Bool} {n : Nat} (h : M.length ≤ n) : rk M n = rk M M.length := by unfold rk; rw [List.take_of_length_le h, List.take_of_length_le (Nat.le_refl _)]
theorem rk_step (M : List Bool) (n : Nat) : rk M n ≤ rk M (n + 1) := by
  by_cases h : n < M.length
  · rw [rk_succ (List.getElem?_eq_getElem h)]; omega
  · rw [rk_end (n := n) (by omega), rk_end (n := n + 1) (by omega)]; exact Nat.le_refl _
theorem rk_mono (M : List Bool) {n m : Nat} (h : n ≤ m) : rk M n ≤ rk M m := by
  induction h with
  | refl => exact Nat.le_refl _
  | step _ ih => exact Nat.le_trans ih (rk_step M _)
theorem rk_lt {M : List Bool} {n m : Nat} (hn : M[n]? = some true) (h : n < m) : rk M n < rk M m := by
  have h1 := rk_succ hn
  have h2 := rk_mono M (show n + 1 ≤ m from h)
  simp at h1
  omega
theorem rk_inj {M : List Bool} {n m : Nat} (hn : M[n]? = some true) (hm : M[m]? = some true) (h : rk M n = rk M m) : n = m := by
  rcases Nat.lt_trichotomy n m with h1 | h1 | h1
  · have := rk_lt hn h1; omega
  · exact h1
  · have := rk_lt hm h1; omega
/-- Those of a list that are marked. -/
def kept {α : Type} : List α → List Bool → List α
  | x :: r, b :: m => if b = true then x :: kept r m else kept r m
  | _, _ => []
theorem kept_get {α : Type} : ∀ {L : List α} {M : List Bool} {i : Nat} {x : α}, M[i]? = some true → L[i]? = some x → (kept L M)[rk M i]? = some x
  | [], M, i, x, _, h => by simp at h
  | y :: r, [], i, x, h, _ => by simp at h
  | y :: r, b :: m, 0, x, h, g => by
    simp at h g
    subst h g
    simp [kept, rk]
  | y :: r, b :: m, i + 1, x, h, g => by
    have ih := kept_get (L := r) (M := m) (i := i) (x := x) (by simpa using h) (by simpa using g)
    have e : rk (b :: m) (i + 1) = rk m i + (if b = true then 1 else 0) := by unfold rk; rw [List.take_succ_cons]; cases b <;> simp
    rw [e]
    cases b
    · simpa [kept] using ih
    · simpa [kept] using ih
theorem kept_len {α : Type} : ∀ {L : List α} {M : List Bool}, M.length = L.length → (kept L M).length = rk M M.length
  | [], [], _ => rfl
  | [], _ :: _, h => by simp at h
  | _ :: _, [], h => by simp at h
  | y :: r, b :: m, h => by
    have ih := kept_len (L := r) (M := m) (by simpa using h)
    have e : rk (b :: m) (m.length + 1) = rk m m.length + (if b = true then 1 else 0) := by unfold rk; rw [List.take_succ_cons]; cases b <;> simp
    rw [List.length_cons, e]
    cases b
    · simpa [kept] using ih
    · simpa [kept] using ih
theorem kept_inv {α : Type} : ∀ {L : List α} {M : List Bool} {j : Nat} {x : α}, (kept L M)[j]? = some x → ∃ i, M[i]? = some true ∧ L[i]? = some x ∧ rk M i = j
  | [], M, j, x, h => by simp [kept] at h
  | _ :: _, [], j, x, h => by simp [kept] at h
  | y :: r, b :: m, j, x, h => by
    have e : ∀ i, rk (b :: m) (i + 1) = rk m i + (if b = true then 1 else 0) := fun i => by unfold rk; rw [List.take_succ_cons]; cases b <;> simp
    cases b
    · obtain ⟨i, h1, h2, h3⟩ := kept_inv (L := r) (M := m) (j := j) (x := x) (by simpa [kept] using h)
      exact ⟨i + 1, by simpa using h1, by simpa using h2, by rw [e]; simpa using h3⟩
    · cases j with
      | zero => exact ⟨0, rfl, by simpa [kept] using h, rk_zero _⟩
      | succ j =>
        obtain ⟨i, h1, h2, h3⟩ := kept_inv (L := r) (M := m) (j := j) (x := x) (by simpa [kept] using h)
        exact ⟨i + 1, by simpa using h1, by simpa using h2, by rw [e]; simp; omega⟩
/-- A cell, its number told anew. -/
def renum (M : List Bool) (c : HC) : HC := if c.k = 0 then ⟨c.k, rkI M c.n, c.s⟩ else c
def markAt (M : List Bool) (a : Int) : Bool := decide (M[a.toNat]? = some true)
def collL (M : List Bool) (L : List HC) : List HC := (kept L M).map (renum M)
def collT (M : List Bool) (T : List Int) : List Int := (kept T (T.map (markAt M))).map (rkI M)
noncomputable def collectH (h : HH) (R T K : List Int) : HH × List Int × List Int × List Int × Int :=
  if goodH h = false then (h, [], [], [], 1)
  else if R.all (isAddr h.cs) = false then (h, [], [], [], 4)
  else (⟨collL (marksM h.cs R) h.cs, collT (marksM h.cs R) h.tr⟩, R.map (rkI (marksM h.cs R)), T.map (rkI (marksM h.cs R)), K.map (rkI (h.tr.map (markAt (marksM h.cs R)))), 0)

/-- A heap, its roots, the marks of what is reached. -/
structure Cx (h : HH) (R : List Int) (M : List Bool) : Prop where
  good : goodH h = true
  mks : MarkOf h.cs R M
section
variable {h : HH} {R : List Int} {M : List Bool}
theorem Cx.gl (C : Cx h R M) : goodL h.cs.length h.cs = true := by
  have := C.good
  unfold goodH goodCs at this
  simp only [Bool.and_eq_true] at this
  exact this.1.2
theorem Cx.rc (C : Cx h R M) {a : Int} (ha : Rc h.cs R a) : 0 ≤ a ∧ a < h.cs.length ∧ M[a.toNat]? = some true := by
  have h1 := isAddr_iff'.1 (ha.addr C.gl)
  refine ⟨h1.1, h1.2, (C.mks.2 a.toNat (by omega)).2 ?_⟩
  rw [show ((a.toNat : Nat) : Int) = a by omega]; exact ha
theorem Cx.mark (C : Cx h R M) {i : Nat} (hi : M[i]? = some true) : i < h.cs.length ∧ Rc h.cs R (i : Int) := by
  have hl : i < h.cs.length := by
    rw [← C.mks.1]
    rcases Nat.lt_or_ge i M.length with g | g
    · exact g
    · rw [List.getElem?_eq_none g] at hi; cases hi
  exact ⟨hl, (C.mks.2 i hl).1 hi⟩
theorem Cx.len (C : Cx h R M) : (collL M h.cs).length = rk M M.length := by unfold collL; rw [List.length_map, kept_len C.mks.1]
/-- What a reached place holds, behind a collection. -/
theorem Cx.cell (C : Cx h R M) {a : Int} {c : HC} (ha : Rc h.cs R a) (hc : hat h.cs a = some c) : hat (collL M h.cs) (rkI M a) = some (renum M c) := by
  obtain ⟨a0, a1, am⟩ := C.rc ha
  unfold hat
  rw [if_pos (by simp only [rkI]; omega), show (rkI M a).toNat = rk M a.toNat from rfl]
  unfold collL
  rw [List.getElem?_map, kept_get am (hatS.1 hc).2.2]
  rfl
theorem Cx.lt (C : Cx h R M) {a : Int} (ha : Rc h.cs R a) : rk M a.toNat < (collL M h.cs).length := by
  obtain ⟨a0, a1, am⟩ := C.rc ha
  rw [C.len]
  exact rk_lt am (by rw [C.mks.1]; omega)
/-- Each place behind a collection was one before. -/
theorem Cx.back (C : Cx h R M) {j : Nat} {d : HC} (hj : (collL M h.cs)[j]? = some d) : ∃ (i : Nat) (c : HC), Rc h.cs R (i : Int) ∧ hat h.cs (i : Int) = some c ∧ d = renum M c ∧ rk M i = j := by
  unfold collL at hj
  rw [List.getElem?_map] at hj
  cases hk : (kept h.cs M)[j]? with
  | none => rw [hk] at hj; cases hj
  | some c =>
    rw [hk, Option.map_some, Option.some.injEq] at hj
    obtain ⟨i, h1, h2, h3⟩ := kept_inv hk
    obtain ⟨hi, hr⟩ := C.mark h1
    exact ⟨i, c, hr, by unfold hat; rw [if_pos (by omega)]; exact h2, hj.symm, h3⟩
/-- The arguments of a term that is reached stay beside it. -/
theorem Cx.args (C : Cx h R M) {a : Int} {c : HC} (ha : Rc h.cs R a) (hc : hat h.cs a = some c) : ∀ i : Nat, (i : Int) < argsC c + 1 → rk M (a.toNat + i) = rk M a.toNat + i
  | 0, _ => rfl
  | i + 1, hi => by
    have ih := C.args ha hc i (by omega)
    have am : M[a.toNat + i]? = some true := by
      cases i with
      | zero => exact (C.rc ha).2.2
      | succ i =>
        have h1 := C.rc (Rc.arg (i := (i : Int)) ha hc (by omega) (by omega))
        rw [show (a + 1 + (i : Int)).toNat = a.toNat + (i + 1) by have := (C.rc ha).1; omega] at h1
        exact h1.2.2
    rw [show a.toNat + (i + 1) = (a.toNat + i) + 1 by omega, rk_succ am, ih]
    simp
    omega
theorem Cx.arg (C : Cx h R M) {a : Int} {c : HC} (ha : Rc h.cs R a) (hc : hat h.cs a = some c) {i : Int} (i0 : 0 ≤ i) (i1 : i < argsC c) : rkI M (a + 1 + i) = rkI M a + 1 + i := by
  have := C.args ha hc (i.toNat + 1) (by omega)
  have a0 := (C.rc ha).1
  show ((rk M (a + 1 + i).toNat : Nat) : Int) = ((rk M a.toNat : Nat) : Int) + 1 + i
  rw [show (a + 1 + i).toNat = a.toNat + (i.toNat + 1) by omega, this]
  omega
theorem renum_args (M : List Bool) (c : HC) : argsC (renum M c) = argsC c := by
  unfold renum argsC
  by_cases h : c.k = 0
  · rw [if_pos h]; simp [h]
  · rw [if_neg h]
theorem renum_k (M : List Bool) (c : HC) : (renum M c).k = c.k := by
  unfold renum; split <;> rfl
theorem renum_s (M : List Bool) (c : HC) : (renum M c).s = c.s := by
  unfold renum; split <;> rfl
theorem tr_good {h : HH} (hg : goodH h = true) {a : Int} (ha : a ∈ h.tr) : ∃ c, hat h.cs a = some c ∧ c.k = 0 := by
  unfold goodH goodTr at hg
  simp only [Bool.and_eq_true, List.all_eq_true] at hg
  have := hg.2.2 a ha
  unfold goodTr1 at this
  split at this
  · rename_i c hc; exact ⟨c, hc, by simpa using this⟩
  · cases this
theorem markAt_iff {M : List Bool} {a : Int} : markAt M a = true ↔ M[a.toNat]? = some true := by unfold markAt; simp
theorem kept_mem {α : Type} {f : α → Bool} {T : List α} {x : α} : x ∈ kept T (T.map f) ↔ x ∈ T ∧ f x = true := by
  induction T with
  | nil => simp [kept]
  | cons y T ih =>
    simp only [List.map_cons, kept]
    cases hf : f y
    · simp only [Bool.false_eq_true, if_false, ih, List.mem_cons]
      constructor
      · rintro ⟨h1, h2⟩; exact ⟨.inr h1, h2⟩
      · rintro ⟨rfl | h1, h2⟩
        · rw [hf] at h2; cases h2
        · exact ⟨h1, h2⟩
    · simp only [if_true, List.mem_cons, ih]
      constructor
      · rintro (rfl | ⟨h1, h2⟩)
        · exact ⟨.inl rfl, hf⟩
        · exact ⟨.inr h1, h2⟩
      · rintro ⟨rfl | h1, h2⟩
        · exact .inl rfl
        · exact .inr ⟨h1, h2⟩
/-- What is kept is a good heap. -/
theorem Cx.kept_good (C : Cx h R M) : goodH ⟨collL M h.cs, collT M h.tr⟩ = true := by
  have hg := C.good
  have hgl := C.gl
  have hlen : (collL M h.cs).length ≤ h.cs.length := by
    rw [C.len]; unfold rk; rw [← C.mks.1]
    exact Nat.le_trans List.count_le_length (by simp)
  have hs : h.cs.length ≤ 65536 ∧ h.tr.length ≤ 65536 := by
    unfold goodH goodCs goodTr at hg
    simp only [Bool.and_eq_true, decide_eq_true_eq] at hg
    exact ⟨hg.1.1, hg.2.1⟩
  have hkl : ∀ {α : Type} (T : List α) (m : List Bool), (kept T m).length ≤ T.length := by
    intro α T
    induction T with
    | nil => intro m; simp [kept]
    | cons y T ih =>
      intro m
      cases m with
      | nil => simp [kept]
      | cons b m =>
        simp only [kept]
        have := ih m
        split <;> simp <;> omega
  unfold goodH goodCs goodTr
  simp only [Bool.and_eq_true, decide_eq_true_eq, List.all_eq_true]
  refine ⟨⟨by omega, goodL_of fun j d hd => ?_⟩, ?_, fun x hx => ?_⟩
  · obtain ⟨i, c, hr, hc, rfl, hj⟩ := C.back hd
    have hgc := good_hat hgl hc
    have hq := goodC_iff hgc
    have hlt := C.lt hr
    rw [show ((i : Nat) : Int).toNat = i by omega] at hlt
    unfold goodC
    rw [renum_k, renum_s]
    rcases hq with ⟨k, n0, n1, s0⟩ | ⟨k, n0, s0⟩ | ⟨k, s0⟩ | ⟨k, n0, n1, n2, s0⟩
    · have hrn := C.lt (Rc.ref hr hc k)
      rw [if_pos k]
      unfold renum
      rw [if_pos k]
      simp only [Bool.and_eq_true, decide_eq_true_eq]
      exact ⟨by simp only [rkI]; omega, by simp only [rkI]; omega, s0⟩
    · rw [if_neg (by omega), if_pos k]
      unfold renum
      rw [if_neg (by omega)]
      simp [n0, s0]
    · rw [if_neg (by omega), if_neg (by omega), if_pos k]
      simp [s0]
    · have hA : argsC c = c.n := by unfold argsC; rw [if_pos k]
      have h1 := C.lt (Rc.arg (i := c.n - 1) hr hc (by omega) (by omega))
      have h2 := C.args hr hc c.n.toNat (by omega)
      rw [show ((i : Int) + 1 + (c.n - 1)).toNat = ((i : Nat) : Int).toNat + c.n.toNat by omega, h2] at h1
      rw [if_neg (by omega), if_neg (by omega), if_neg (by omega), if_pos k]
      unfold renum
      rw [if_neg (by omega)]
      simp only [Bool.and_eq_true, decide_eq_true_eq, Bool.not_eq_true', decide_eq_false_iff_not]
      rw [show ((i : Nat) : Int).toNat = i by omega] at h1
      exact ⟨n0, n1, by omega, s0⟩
  · unfold collT; rw [List.length_map]; have := hkl h.tr (h.tr.map (markAt M)); omega
  · unfold collT at hx
    obtain ⟨a, ha, rfl⟩ := List.mem_map.1 hx
    obtain ⟨h1, h2⟩ := kept_mem.1 ha
    obtain ⟨c, c1, c2⟩ := tr_good hg h1
    have hm := C.mark (markAt_iff.1 h2)
    rw [show ((a.toNat : Nat) : Int) = a by have := (hatS.1 c1).1; omega] at hm
    unfold goodTr1
    rw [C.cell hm.2 c1]
    dsimp only
    rw [renum_k, c2]; rfl
/-- All that is kept is reached again. -/
theorem Cx.all (C : Cx h R M) {a : Int} (ha : Rc h.cs R a) : Rc (collL M h.cs) (R.map (rkI M)) (rkI M a) := by
  induction ha with
  | root h1 h2 =>
    have hr := Rc.root h1 h2
    exact .root (List.mem_map_of_mem h1) (isAddr_iff'.2 ⟨by simp only [rkI]; omega, by have := C.lt hr; simp only [rkI]; omega⟩)
  | @ref a c h1 hc hk ih =>
    have := Rc.ref ih (C.cell h1 hc) (by rw [renum_k]; exact hk)
    unfold renum at this
    rw [if_pos hk] at this
    exact this
  | @arg a c i h1 hc i0 i1 ih =>
    have := Rc.arg (i := i) ih (C.cell h1 hc) i0 (by rw [renum_args]; exact i1)
    rw [C.arg h1 hc i0 i1]; exact this
theorem rk_all {n : Nat} : ∀ {M : List Bool}, (∀ i, i < M.length → M[i]? = some true) → n ≤ M.length → rk M n = n := by
  induction n with
  | zero => intro M _ _; exact rk_zero _
  | succ n ih =>
    intro M h hn
    rw [rk_succ (h n (by omega)), ih h (by omega)]
    simp
theorem kept_all {α : Type} : ∀ {L : List α} {M : List Bool}, M.length = L.length → (∀ b ∈ M, b = true) → kept L M = L
  | [], M, _, _ => by cases M <;> rfl
  | x :: L, [], h, _ => by simp at h
  | x :: L, b :: M, h, g => by
    have hb := g b (.head _)
    subst hb
    simp only [kept, if_true]
    rw [kept_all (by simpa using h) fun b hb => g b (.tail _ hb)]
/-- Collected again it is the same. -/
theorem Cx.again (C : Cx h R M) (hR : ∀ r ∈ R, isAddr h.cs r = true) : collectH ⟨collL M h.cs, collT M h.tr⟩ (R.map (rkI M)) [] [] = (⟨collL M h.cs, collT M h.tr⟩, R.map (rkI M), [], [], 0) := by
  have hg := C.kept_good
  have hgl : goodL (collL M h.cs).length (collL M h.cs) = true := by
    unfold goodH goodCs at hg
    simp only [Bool.and_eq_true] at hg
    exact hg.1.2
  have hM := marksM_of (collL M h.cs) (R.map (rkI M))
  have hall : ∀ i, i < (marksM (collL M h.cs) (R.map (rkI M))).length → (marksM (collL M h.cs) (R.map (rkI M)))[i]? = some true := by
    intro i hi
    rw [hM.1] at hi
    refine (hM.2 i hi).2 ?_
    obtain ⟨i', c, hr, _, _, hj⟩ := C.back (List.getElem?_eq_getElem hi)
    have := C.all hr
    rw [show rkI M (i' : Int) = (i : Int) by show ((rk M ((i' : Int)).toNat : Nat) : Int) = _; rw [show ((i' : Nat) : Int).toNat = i' by omega, hj]] at this
    exact this
  have hid : ∀ a : Int, 0 ≤ a → a ≤ (collL M h.cs).length → rkI (marksM (collL M h.cs) (R.map (rkI M))) a = a := by
    intro a a0 a1
    show ((rk _ a.toNat : Nat) : Int) = a
    rw [rk_all hall (by rw [hM.1]; omega)]
    omega
  have haddr : ∀ r ∈ R, 0 ≤ rkI M r ∧ rkI M r < (collL M h.cs).length := fun r hr => by
    have := C.lt (Rc.root hr (hR r hr))
    exact ⟨by simp only [rkI]; omega, by simp only [rkI]; omega⟩
  unfold collectH
  rw [if_neg (by rw [hg]; decide), if_neg (by
    rw [show (R.map (rkI M)).all (isAddr (collL M h.cs)) = true by
      rw [List.all_eq_true]
      intro x hx
      obtain ⟨r, hr, rfl⟩ := List.mem_map.1 hx
      exact isAddr_iff'.2 (haddr r hr)]
    decide)]
  have hb : ∀ b ∈ marksM (collL M h.cs) (R.map (rkI M)), b = true := fun b hb => by
    obtain ⟨i, hi, rfl⟩ := List.mem_iff_getElem.1 hb
    have := hall i hi
    rw [List.getElem?_eq_getElem hi] at this
    simpa using this
  have e1 : collL (marksM (collL M h.cs) (R.map (rkI M))) (collL M h.cs) = collL M h.cs := by
    have hk : kept (collL M h.cs) (marksM (collL M h.cs) (R.map (rkI M))) = collL M h.cs := kept_all hM.1 hb
    show (kept (collL M h.cs) (marksM (collL M h.cs) (R.map (rkI M)))).map _ = _
    rw [hk]
    conv => rhs; rw [← List.map_id (collL M h.cs)]
    refine List.map_congr_left fun d hd => ?_
    obtain ⟨j, hj, rfl⟩ := List.mem_iff_getElem.1 hd
    unfold renum
    split
    · rename_i hk
      have hgood := goodL_get hgl (List.getElem?_eq_getElem hj)
      have := goodC_iff hgood
      rw [hid _ (by omega) (by omega)]
      rfl
    · rfl
  have e2 : collT (marksM (collL M h.cs) (R.map (rkI M))) (collT M h.tr) = collT M h.tr := by
    have hin : ∀ x ∈ collT M h.tr, 0 ≤ x ∧ x < (collL M h.cs).length := fun x hx => by
      unfold goodH goodTr at hg
      simp only [Bool.and_eq_true, List.all_eq_true] at hg
      have := hg.2.2 x hx
      unfold goodTr1 at this
      split at this
      · rename_i c hc; have := hatS.1 hc; exact ⟨this.1, this.2.1⟩
      · cases this
    show (kept (collT M h.tr) _).map _ = _
    rw [kept_all (by simp) (fun b hb2 => by
      obtain ⟨x, hx, rfl⟩ := List.mem_map.1 hb2
      have := hin x hx
      exact markAt_iff.2 (hall x.toNat (by rw [hM.1]; omega)))]
    conv => rhs; rw [← List.map_id (collT M h.tr)]
    exact List.map_congr_left fun x hx => by have := hin x hx; exact hid x this.1 (by omega)
  have e3 : (R.map (rkI M)).map (rkI (marksM (collL M h.cs) (R.map (rkI M)))) = R.map (rkI M) := by
    rw [List.map_map]
    exact List.map_congr_left fun r hr => by have := haddr r hr; exact hid _ this.1 (by omega)
  dsimp only
  rw [e1, e2, e3]
  rfl
end
end Go.Proofs.Ytjicoifjgokoiab
namespace Go.Proofs.Ytjicoifjgokoiab
open Go.RowKit
set_option linter.unusedVariables false
set_option linter.unusedSimpArgs false

/-- What is marked, what is waiting. -/
abbrev DS := List Bool × List Int
def reachM (a : Int) (s : DS) : DS := if markAt s.1 a = true then s else (s.1.set a.toNat true, s.2 ++ [a])
structure DInv (L : List HC) (R : List Int) (Ex : Int → Prop) (s : DS) : Prop where
  len : s.1.length = L.length
  snd : ∀ i : Nat, s.1[i]? = some true → Rc L R (i : Int)
  wt : ∀ a ∈ s.2, isAddr L a = true ∧ markAt s.1 a = true
  clo : ∀ (i : Int) (c : HC), markAt s.1 i = true → i ∉ s.2 → ¬ Ex i → hat L i = some c → (c.k = 0 → markAt s.1 c.n = true) ∧ ∀ j : Int, 0 ≤ j → j < argsC c → markAt s.1 (i + 1 + j) = true
def pot (s : DS) : Nat := 2 * s.1.count false + s.2.length
theorem reachM_mono {a b : Int} {s : DS} (h : markAt s.1 b = true) : markAt (reachM a s).1 b = true := by
  unfold reachM
  split
  · exact h
  · rw [markAt_iff] at h ⊢
    rw [List.getElem?_set]
    split
    · rename_i e
      rw [if_pos]
      rw [e]
      rcases Nat.lt_or_ge b.toNat s.1.length with g | g
      · exact g
      · rw [List.getElem?_eq_none g] at h; cases h
    · exact h
theorem reachM_self {L : List HC} {a : Int} {s : DS} (hl : s.1.length = L.length) (ha : isAddr L a = true) : markAt (reachM a s).1 a = true := by
  have := isAddr_iff'.1 ha
  unfold reachM
  split
  · assumption
  · rw [markAt_iff, List.getElem?_set_self (by omega)]
theorem reachM_inv {L : List HC} {R : List Int} {Ex : Int → Prop} {a : Int} {s : DS} (h : DInv L R Ex s) (ha : isAddr L a = true) (hr : Rc L R a) : DInv L R Ex (reachM a s) := by
  have hmono := fun b => reachM_mono (a := a) (b := b) (s := s)
  have hself := reachM_self (a := a) h.len ha
  have haa := isAddr_iff'.1 ha
  by_cases hm : markAt s.1 a = true
  · have e : reachM a s = s := by unfold reachM; rw [if_pos hm]
    rw [e]; exact h
  have e : reachM a s = (s.1.set a.toNat true, s.2 ++ [a]) := by unfold reachM; rw [if_neg hm]
  rw [e] at hmono hself ⊢
  refine ⟨by simpa using h.len, fun i hi => ?_, fun b hb => ?_, fun i c hi hn hx hc => ?_⟩
  · dsimp only at hi
    rw [List.getElem?_set] at hi
    split at hi
    · rename_i e2
      rw [show ((i : Nat) : Int) = a by omega]; exact hr
    · exact h.snd i hi
  · rcases List.mem_append.1 hb with hb | hb
    · exact ⟨(h.wt b hb).1, hmono b (h.wt b hb).2⟩
    · rw [List.mem_singleton.1 hb]; exact ⟨ha, hself⟩
  · dsimp only at hi hn ⊢
    have hia : i ≠ a := fun e => hn (List.mem_append_right _ (by simp [e]))
    have hin : i ∉ s.2 := fun e => hn (List.mem_append_left _ e)
    have hii := (hatS.1 hc).1
    have hi' : markAt s.1 i = true := by
      rw [markAt_iff] at hi ⊢
      rw [List.getElem?_set, if_neg (by omega)] at hi
      exact hi
    obtain ⟨g1, g2⟩ := h.clo i c hi' hin hx hc
    exact ⟨fun hk => hmono _ (g1 hk), fun j j0 j1 => hmono _ (g2 j j0 j1)⟩
theorem count_mark {M : List Bool} {i : Nat} (hl : i < M.length) (hm : M[i]? ≠ some true) : (M.set i true).count false + 1 = M.count false := by
  have e : M[i] = false := by
    rw [List.getElem?_eq_getElem hl] at hm
    simpa using hm
  have hpos : 0 < M.count false := List.count_pos_iff.2 (by rw [← e]; exact List.getElem_mem hl)
  rw [List.count_set hl, e]
  simp
  omega
theorem reachM_pot {L : List HC} {a : Int} {s : DS} (hl : s.1.length = L.length) (ha : isAddr L a = true) : pot (reachM a s) ≤ pot s := by
  have := isAddr_iff'.1 ha
  unfold reachM
  split
  · exact Nat.le_refl _
  · rename_i hm
    have := count_mark (M := s.1) (i := a.toNat) (by omega) (fun h => hm (markAt_iff.2 h))
    unfold pot
    simp only [List.length_append, List.length_cons, List.length_nil]
    omega
theorem DInv.weaken {L : List HC} {R : List Int} {Ex Ex' : Int → Prop} {s : DS} (h : DInv L R Ex s) (hx : ∀ i, Ex i → Ex' i) : DInv L R Ex' s := ⟨h.len, h.snd, h.wt, fun i c h1 h2 h3 h4 => h.clo i c h1 h2 (fun e => h3 (hx i e)) h4⟩
/-- The last that waits is taken. -/
theorem DInv.pop {L : List HC} {R : List Int} {M : List Bool} {W : List Int} {a : Int} (h : DInv L R (fun _ => False) (M, W ++ [a])) : DInv L R (fun i => i = a) (M, W) :=
  ⟨h.len, h.snd, fun b hb => h.wt b (List.mem_append_left _ hb), fun i c h1 h2 h3 h4 => h.clo i c h1 (fun hm => by
    rcases List.mem_append.1 hm with hm | hm
    · exact h2 hm
    · exact h3 (by simpa using hm)) (fun e => e) h4⟩
/-- All that it leads to is marked. -/
theorem DInv.done {L : List HC} {R : List Int} {a : Int} {c : HC} {s : DS} (h : DInv L R (fun i => i = a) s) (hc : hat L a = some c) (h1 : c.k = 0 → markAt s.1 c.n = true) (h2 : ∀ j : Int, 0 ≤ j → j < argsC c → markAt s.1 (a + 1 + j) = true) : DInv L R (fun _ => False) s :=
  ⟨h.len, h.snd, h.wt, fun i d g1 g2 _ g4 => by
    by_cases e : i = a
    · subst e; rw [hc] at g4; cases g4; exact ⟨h1, h2⟩
    · exact h.clo i d g1 g2 e g4⟩
theorem DInv.fin {L : List HC} {R : List Int} {M : List Bool} (hg : goodL L.length L = true) (h : DInv L R (fun _ => False) (M, [])) (hr : ∀ r ∈ R, isAddr L r = true → markAt M r = true) : M = marksM L R := by
  refine MarkOf.eq ⟨h.len, fun i hi => ⟨h.snd i, fun hrc => ?_⟩⟩
  have key : ∀ a, Rc L R a → markAt M a = true := by
    intro a ha
    induction ha with
    | root h1 h2 => exact hr _ h1 h2
    | ref h1 hc hk ih => exact (h.clo _ _ ih (by simp) (fun e => e) hc).1 hk
    | arg h1 hc i0 i1 ih => exact (h.clo _ _ ih (by simp) (fun e => e) hc).2 _ i0 i1
  have := markAt_iff.1 (key _ hrc)
  rwa [show ((i : Nat) : Int).toNat = i by omega] at this
theorem DInv.start {L : List HC} {R : List Int} {Ex : Int → Prop} : DInv L R Ex (List.replicate L.length false, []) := by
  have hno : ∀ i : Nat, (List.replicate L.length false)[i]? ≠ some true := fun i h => by
    rw [List.getElem?_replicate] at h
    split at h <;> simp at h
  refine ⟨by simp, fun i hi => absurd hi (hno i), fun a ha => by simp at ha, fun i c hi => ?_⟩
  exact absurd (markAt_iff.1 hi) (hno _)
noncomputable def marksH (h : HH) (R : List Int) : List Bool × Int := if goodH h = false then ([], 1) else (marksM h.cs R, 0)
end Go.Proofs.Ytjicoifjgokoiab
namespace Go.Proofs.Ytjicoifjgokoiab
open Go.RowKit
set_option linter.unusedVariables false
set_option linter.unusedSimpArgs false

section
variable {P : Program} {n : Nat} {e : Env} {w : World} {Q : Exit → Act → World → Prop} {ops : Array Oper} {rest : List Oper} {ty : TypeId} {pos : String} {after : Array Edge} {d : Nat}
variable {M : List Nat} {w0 : World} {H : List (Nat × Obj)} {F : List (World → Prop)} {x y : Operand} {t : TypeId}
theorem lst_make {el sz bts k : Nat} (hS : St M w0 H F w) (hx : ev n e x = .int .i64 (k : Nat)) (hy : ev n e y = .int .i64 (k : Nat)) (hT : isSliceP P t = some el) (hi : rowP P el = some (sz, bts)) (hb : bts * k ≤ 281474976710656) (hk : k ≤ 4611686018427387904) (hd : Nat.blt d n = true)
    (h : ∀ (b : Nat) (w' : World) (cs : List Value), cs.length = k * sz → St M w0 ((b, .cells cs.toArray el) :: H) F w' → Lst P Q ops rest n ((d, .slice (some ⟨b, 0, none⟩) k k) :: e) w') :
    Lst P Q ops (⟨some d, .makeSlice t x y, ty, pos, after, none⟩ :: rest) n e w := by
  obtain ⟨i, z, h2, h3, h4, rfl, rfl⟩ := rowP_some hi
  have hb2 : (i.bytes : Int) * (k : Int) ≤ 281474976710656 := by rw [← Int.natCast_mul]; omega
  have hr := run_make (P := P) w t el i z (sliceP hT) h2 h3 .i64 .i64 (k : Int) (k : Int) (by omega) (by omega) hb2 (by omega)
  refine lst_run (v := .slice (some ⟨w.heap.size, 0, none⟩) k k) (w' := w.alloc (.cells (madeCells z.cells (k * i.size)) el)) ?_ hd ?_
  · simp only [execOp, hx, hy, bind, pure]
    rw [Sem.run_bind', hr]
    rfl
  · have e1 : madeCells z.cells (k * i.size) = (madeCells z.cells (k * i.size)).toList.toArray := by simp
    rw [e1]
    exact h _ _ _ (by rw [Array.length_toList, size_madeCells]) (hS.alloc _)
theorem made_one (v : Value) (k : Nat) : madeCells #[v] (k * 1) = (List.replicate k v).toArray := by
  apply Array.ext'
  simp only [madeCells, Array.toList_map, Array.toList_range, Nat.mul_one]
  refine List.ext_getElem? fun i => ?_
  rw [List.getElem?_map, List.getElem?_replicate]
  by_cases hi : i < k
  · rw [List.getElem?_range hi, if_pos hi]
    simp [Nat.mod_one]
  · rw [List.getElem?_eq_none (by simpa using hi), if_neg hi]; rfl
/-- make of k elements of one cell, all zero. -/
theorem lst_makeZ {el bts k : Nat} {z : Value} (hS : St M w0 H F w) (hx : ev n e x = .int .i64 (k : Nat)) (hy : ev n e y = .int .i64 (k : Nat)) (hT : isSliceP P t = some el) (hi : rowP P el = some (1, bts)) (hz : zeroP P el = some z) (hz1 : z.cells = #[z]) (hb : bts * k ≤ 281474976710656) (hk : k ≤ 4611686018427387904) (hd : Nat.blt d n = true)
    (h : ∀ (b : Nat) (w' : World), St M w0 ((b, .cells (List.replicate k z).toArray el) :: H) F w' → Lst P Q ops rest n ((d, .slice (some ⟨b, 0, none⟩) k k) :: e) w') :
    Lst P Q ops (⟨some d, .makeSlice t x y, ty, pos, after, none⟩ :: rest) n e w := by
  obtain ⟨i, z', h2, h3, h4, h5, rfl⟩ := rowP_some hi
  obtain rfl : z' = z := by unfold zeroP at hz; rw [h2] at hz; simp only [Option.bind_some] at hz; rw [h3] at hz; exact Option.some.inj hz
  have hb2 : (i.bytes : Int) * (k : Int) ≤ 281474976710656 := by rw [← Int.natCast_mul]; omega
  have hr := run_make (P := P) w t el i z' (sliceP hT) h2 h3 .i64 .i64 (k : Int) (k : Int) (by omega) (by omega) hb2 (by omega)
  refine lst_run (v := .slice (some ⟨w.heap.size, 0, none⟩) k k) (w' := w.alloc (.cells (madeCells z'.cells (k * i.size)) el)) ?_ hd ?_
  · simp only [execOp, hx, hy, bind, pure]
    rw [Sem.run_bind', hr]
    rfl
  · rw [h5, hz1, made_one]
    exact h _ _ (hS.alloc _)
end
end Go.Proofs.Ytjicoifjgokoiab
namespace Go.Proofs.Ytjicoifjgokoiab
open Go.RowKit
set_option linter.unusedVariables false
set_option linter.unusedSimpArgs false
set_option maxRecDepth 100000
set_option maxHeartbeats 1000000

abbrev bbob (M : List Bool) : Obj := .cells (boolsV M).toArray 4
abbrev svb (rb n : Nat) : Obj := .cells [.slice (some ⟨rb, 0, none⟩) n n].toArray 43
abbrev svi (B : Option Addr) (n c : Nat) : Obj := .cells [.slice B n c].toArray 23
abbrev ptrM (b : Nat) : Value := .pointer (some ⟨b, 0, none⟩)
def MSt (M : List Nat) (w0 : World) (H : List (Nat × Obj)) (F : List (World → Prop)) (b2 b3 rb : Nat) (s : DS) (w : World) : Prop :=
  ∃ (B : Option Addr) (d : Nat) (O : List (Nat × Obj)), Rw 3 1 (.slice B s.2.length d) s.2.length (intsV s.2) O ∧ St M w0 ((b2, svb rb s.1.length) :: (b3, svi B s.2.length d) :: (rb, bbob s.1) :: (O ++ H)) F w
theorem boolsV_put (P : List Bool) (i : Nat) (x : Bool) (h : i < P.length) : Put (boolsV P) i (.bool x) (boolsV (P.set i x)) := by
  have := put_of (l := boolsV P) (v := .bool x) (i := i) (by simpa [boolsV] using h)
  rwa [show (boolsV P).set i (.bool x) = boolsV (P.set i x) by simp [boolsV, List.map_set]] at this
section
variable {M : List Nat} {w0 : World} {H : List (Nat × Obj)} {F : List (World → Prop)} {b2 b3 rb : Nat}
theorem reach_any (a : Int) (s : DS) (w : World) (h0 : 0 ≤ a) (h1 : a < s.1.length) (hw : s.2.length ≤ 1000000) (hs : MSt M w0 H F b2 b3 rb s w) :
    Calls Try.prog 51 #[.int .i64 a, ptrM b2, ptrM b3] w fun e w' => e = .returned (.tuple #[]) ∧ MSt M w0 H F b2 b3 rb (reachM a s) w' := by
  obtain ⟨B, d, O, hrow, hS⟩ := hs
  obtain ⟨v, hv⟩ : ∃ v, s.1[a.toNat]? = some v := ⟨s.1[a.toNat]'(by omega), List.getElem?_eq_getElem _⟩
  have hpa : ∀ {o o' H' F'} w', St M w0 ((b2, o) :: (b3, o') :: (rb, bbob s.1) :: H') F' w' → w'.cell? ⟨rb, 0 + a.toNat * 1, none⟩ = some (.bool v) := fun w' hS => by
    rw [cell_own (hS.own (rb, _) (.tail _ (.tail _ (.head _))))]
    simp [boolsV, hv]
  refine goes_enter3 Try.func51 rfl Try.ntmps51 rfl ?_
  cases v with
  | true =>
    have e : reachM a s = s := by unfold reachM; rw [if_pos (markAt_iff.2 hv)]
    rw [e]
    refine goes_seq ?_
    refine goes_region ?_
    first
      | refine lst_run (run_load1_own hS rfl rfl (by first | exact .head | exact .tail .head | exact .tail (.tail .head) | exact .tail (.tail (.tail .head)) | exact .tail (.tail (.tail (.tail .head))) | exact .tail (.tail (.tail (.tail (.tail .head))))) (by repeat constructor)) rfl ?_
      | refine lst_run (run_load1 rfl rfl (by first | assumption | exact hpa _ hS | exact hS.cell0 (by assumption) | exact lv_next hS | exact lv_list hS)) rfl ?_
    refine lst_run (run_move (by conv => lhs; whnf)) rfl ?_
    refine lst_run (run_indexAddr (sz := 1) rfl rfl rfl rfl (by omega) (by omega)) rfl ?_
    first
      | refine lst_run (run_load1_own hS rfl rfl (by first | exact .head | exact .tail .head | exact .tail (.tail .head) | exact .tail (.tail (.tail .head)) | exact .tail (.tail (.tail (.tail .head))) | exact .tail (.tail (.tail (.tail (.tail .head))))) (by repeat constructor)) rfl ?_
      | refine lst_run (run_load1 rfl rfl (by first | assumption | exact hpa _ hS | exact hS.cell0 (by assumption) | exact lv_next hS | exact lv_list hS)) rfl ?_
    refine lst_run (rfl) rfl ?_
    refine lst_done ?_
    refine goes_false rfl ?_
    refine goes_skip ?_
    refine goes_end0 Try.func51 rfl ?_
    exact ⟨rfl, B, d, O, hrow, hS⟩
  | false =>
    have e : reachM a s = (s.1.set a.toNat true, s.2 ++ [a]) := by unfold reachM; rw [if_neg (by rw [markAt_iff, hv]; simp)]
    rw [e]
    have hput := boolsV_put s.1 a.toNat true (by omega)
    refine goes_seq ?_
    refine goes_region ?_
    first
      | refine lst_run (run_load1_own hS rfl rfl (by first | exact .head | exact .tail .head | exact .tail (.tail .head) | exact .tail (.tail (.tail .head)) | exact .tail (.tail (.tail (.tail .head))) | exact .tail (.tail (.tail (.tail (.tail .head))))) (by repeat constructor)) rfl ?_
      | refine lst_run (run_load1 rfl rfl (by first | assumption | exact hpa _ hS | exact hS.cell0 (by assumption) | exact lv_next hS | exact lv_list hS)) rfl ?_
    refine lst_run (run_move (by conv => lhs; whnf)) rfl ?_
    refine lst_run (run_indexAddr (sz := 1) rfl rfl rfl rfl (by omega) (by omega)) rfl ?_
    first
      | refine lst_run (run_load1_own hS rfl rfl (by first | exact .head | exact .tail .head | exact .tail (.tail .head) | exact .tail (.tail (.tail .head)) | exact .tail (.tail (.tail (.tail .head))) | exact .tail (.tail (.tail (.tail (.tail .head))))) (by repeat constructor)) rfl ?_
      | refine lst_run (run_load1 rfl rfl (by first | assumption | exact hpa _ hS | exact hS.cell0 (by assumption) | exact lv_next hS | exact lv_list hS)) rfl ?_
    refine lst_run (rfl) rfl ?_
    refine lst_done ?_
    refine goes_true rfl ?_
    refine goes_seq ?_
    refine goes_region ?_
    first
      | refine lst_run (run_load1_own hS rfl rfl (by first | exact .head | exact .tail .head | exact .tail (.tail .head) | exact .tail (.tail (.tail .head)) | exact .tail (.tail (.tail (.tail .head))) | exact .tail (.tail (.tail (.tail (.tail .head))))) (by repeat constructor)) rfl ?_
      | refine lst_run (run_load1 rfl rfl (by first | assumption | exact hpa _ hS | exact hS.cell0 (by assumption) | exact lv_next hS | exact lv_list hS)) rfl ?_
    refine lst_run (run_move (by conv => lhs; whnf)) rfl ?_
    refine lst_run (run_indexAddr (sz := 1) rfl rfl rfl rfl (by omega) (by omega)) rfl ?_
    refine lst_store1 hS rfl (by conv => lhs; whnf) rfl rfl (.tail (.tail .head)) (by rw [Nat.zero_add, Nat.mul_one]; exact hput) (.tail (.tail .head)) ?_
    clear hS
    intro w6 hS
    refine lst_done ?_
    refine goes_region ?_
    first
      | refine lst_run (run_load1_own hS rfl rfl (by first | exact .head | exact .tail .head | exact .tail (.tail .head) | exact .tail (.tail (.tail .head)) | exact .tail (.tail (.tail (.tail .head))) | exact .tail (.tail (.tail (.tail (.tail .head))))) (by repeat constructor)) rfl ?_
      | refine lst_run (run_load1 rfl rfl (by first | assumption | exact hpa _ hS | exact hS.cell0 (by assumption) | exact lv_next hS | exact lv_list hS)) rfl ?_
    refine lst_run (run_move (by conv => lhs; whnf)) rfl ?_
    refine lst_buildSlice (cells := [_]) hS (.cons (by conv => lhs; whnf) .nil) rfl rfl ?_
    clear hS
    intro b1 wx1 hS
    refine lst_appI (L := [a]) hS (by conv => lhs; whnf) (by rfl) rfl rfl rfl (Flat.own (sp := []) (hS.own (_, _) (.head _)) rfl (Nat.le_refl _)) hrow (List.perm_append_comm_assoc [_, _, _, _] O _) (by simp; omega) rfl ?_
    clear hS
    intro v7 O7 w7 hrow7 hS
    obtain ⟨B7, d7, rfl, _⟩ := hrow7.form
    replace hS := hS.perm (List.perm_append_comm_assoc O7 [_, _, _, _] _)
    refine lst_store1 hS rfl (by conv => lhs; whnf) rfl rfl (by first | exact .head | exact .tail .head | exact .tail (.tail .head) | exact .tail (.tail (.tail .head)) | exact .tail (.tail (.tail (.tail .head))) | exact .tail (.tail (.tail (.tail (.tail .head))))) (by repeat constructor) (by first | exact .head | exact .tail .head | exact .tail (.tail .head) | exact .tail (.tail (.tail .head)) | exact .tail (.tail (.tail (.tail .head))) | exact .tail (.tail (.tail (.tail (.tail .head))))) ?_
    clear hS
    intro wx2 hS
    refine lst_done ?_
    refine goes_end0 Try.func51 rfl ?_
    refine ⟨rfl, B7, d7, O7, ?_, ?_⟩
    · show Rw _ _ (.slice B7 (s.2 ++ [a]).length d7) (s.2 ++ [a]).length (intsV (s.2 ++ [a])) _
      rw [List.length_append, show intsV (s.2 ++ [a]) = intsV s.2 ++ intsV [a] by simp [intsV]]; exact hrow7
    · show St M w0 ((b2, svb rb (s.1.set a.toNat true).length) :: (b3, svi B7 (s.2 ++ [a]).length d7) :: _) F _
      rw [List.length_append, List.length_set]; exact hS.drop
theorem pot_le {L : List HC} {s : DS} (h : s.1.length = L.length) : s.2.length ≤ pot s := by unfold pot; omega
theorem marks_any (h : HH) (R : List Int) (A B RA : Option Addr) (c d rc : Nat) (w : World) (hH : Und F (HFl h A c B d)) (hR : Und F (Flat 1 (intsV R) RA R.length rc)) (hRl : R.length ≤ 9223372036854775807) (hS : St M w0 H F w) :
    Calls Try.prog 25 #[hv h A c B d, .slice RA R.length rc] w fun e w' => ∃ (A' : Option Addr) (c' : Nat) (F' : List (World → Prop)), e = .returned (.tuple #[.slice A' (marksH h R).1.length c', .int .i64 (marksH h R).2]) ∧ (∀ φ ∈ F, φ ∈ F') ∧ Und F' (Flat 1 (boolsV (marksH h R).1) A' (marksH h R).1.length c') ∧ St M w0 H F' w' := by
  have hL : Und F (Flat 3 (hcsL h.cs) A h.cs.length c) := hH.imp fun _ h => h.1
  refine goes_enter2 Try.func25 rfl Try.ntmps25 rfl ?_
  refine goes_seq ?_
  refine goes_region ?_
  refine lst_box hS rfl rfl ?_
  clear hS
  intro b1 wx1 hS
  refine lst_run (run_assign (by conv => lhs; whnf)) rfl ?_
  refine lst_run (run_assign (by conv => lhs; whnf)) rfl ?_
  refine lst_done ?_
  refine goes_seq ?_
  refine goes_seq ?_
  refine goes_region ?_
  first
    | refine lst_run (run_loadN_own (k := 2) hS rfl rfl rfl (by first | exact .head | exact .tail .head | exact .tail (.tail .head) | exact .tail (.tail (.tail .head)) | exact .tail (.tail (.tail (.tail .head))) | exact .tail (.tail (.tail (.tail (.tail .head))))) (by repeat constructor)) rfl ?_
    | refine lst_run (run_load2 rfl rfl rfl (by first | assumption | exact hpa _ hS | exact hS.cell0 (by assumption)) (by first | assumption | exact hpa _ hS | exact hS.cell0 (by assumption))) rfl ?_
  refine lst_enter (run_call (by kernel_rfl) (args_1 (by conv => lhs; whnf))) rfl ?_
  refine Calls.mono (good_any h A B c d _ (hS.und hH)) ?_
  rintro _ w2 ⟨rfl, hb2⟩
  refine ⟨_, rfl, ?_⟩
  replace hS := hS.grow hb2
  cases hg : goodH h with
  | false =>
    have e0 : marksH h R = ([], 1) := by unfold marksH; rw [if_pos hg]
    rw [e0]
    refine lst_run (rfl) rfl ?_
    refine lst_done ?_
    refine goes_true rfl ?_
    refine goes_seq ?_
    refine goes_region ?_
    refine lst_run (run_assign (by conv => lhs; whnf)) rfl ?_
    refine lst_run (run_assign (by conv => lhs; whnf)) rfl ?_
    refine lst_done ?_
    refine goes_ret2 Try.func25 rfl (by conv => lhs; whnf) (by conv => lhs; whnf) ?_
    exact ⟨none, 0, F, rfl, fun _ h => h, fun w _ => Flat.nil_ _ _ _, hS.drop⟩
  | true =>
  have e0 : marksH h R = (marksM h.cs R, 0) := by unfold marksH; rw [if_neg (by rw [hg]; decide)]
  obtain ⟨hl1, hl2⟩ := good_len hg
  have hgl : goodL h.cs.length h.cs = true := by
    unfold goodH goodCs at hg
    simp only [Bool.and_eq_true] at hg
    exact hg.1.2
  rw [e0]
  refine lst_run (rfl) rfl ?_
  refine lst_done ?_
  refine goes_false rfl ?_
  refine goes_skip ?_
  refine goes_seq ?_
  refine goes_region ?_
  refine lst_run (run_fieldAddr (off := 0) rfl rfl) rfl ?_
  first
    | refine lst_run (run_load1_own hS rfl rfl (by first | exact .head | exact .tail .head | exact .tail (.tail .head) | exact .tail (.tail (.tail .head)) | exact .tail (.tail (.tail (.tail .head))) | exact .tail (.tail (.tail (.tail (.tail .head))))) (by repeat constructor)) rfl ?_
    | refine lst_run (run_load1 rfl rfl (by first | assumption | exact hpa _ hS | exact hS.cell0 (by assumption) | exact lv_next hS | exact lv_list hS)) rfl ?_
  refine lst_run (run_len_slice rfl rfl rfl) rfl ?_
  refine lst_makeZ (k := h.cs.length) (bts := 1) (z := .bool false) hS (by conv => lhs; whnf) (by conv => lhs; whnf) rfl rfl rfl rfl (by omega) (by omega) rfl ?_
  clear hS
  intro rb w3 hS
  rw [show List.replicate h.cs.length (Value.bool false) = boolsV (List.replicate h.cs.length false) by simp [boolsV]] at hS
  refine lst_alloc (cs := [_]) hS rfl rfl rfl ?_
  clear hS
  intro b2 wx2 hS
  refine lst_store1 hS rfl (by conv => lhs; whnf) rfl rfl (by first | exact .head | exact .tail .head | exact .tail (.tail .head) | exact .tail (.tail (.tail .head)) | exact .tail (.tail (.tail (.tail .head))) | exact .tail (.tail (.tail (.tail (.tail .head))))) (by repeat constructor) (by first | exact .head | exact .tail .head | exact .tail (.tail .head) | exact .tail (.tail (.tail .head)) | exact .tail (.tail (.tail (.tail .head))) | exact .tail (.tail (.tail (.tail (.tail .head))))) ?_
  clear hS
  intro wx3 hS
  refine lst_done ?_
  refine goes_seq ?_
  refine goes_region ?_
  refine lst_alloc (cs := [_]) hS rfl rfl rfl ?_
  clear hS
  intro b3 wx4 hS
  refine lst_done ?_
  refine goes_seq ?_
  refine goes_region ?_
  refine lst_run (run_makeFunc args_nil (args_2 (by conv => lhs; whnf) (by conv => lhs; whnf))) rfl ?_
  refine lst_run (run_assign (by conv => lhs; whnf)) rfl ?_
  refine lst_done ?_
  refine goes_seq ?_
  refine goes_seq ?_
  refine goes_region ?_
  refine lst_run (run_move (by conv => lhs; whnf)) rfl ?_
  refine lst_run (run_len_slice rfl rfl rfl) rfl ?_
  refine lst_run (run_move (by conv => lhs; whnf)) rfl ?_
  refine lst_done ?_
  refine goes_block ?_
  have hs : MSt M w0 ((b1, hob A h.cs.length c B h.tr.length d) :: H) F b2 b3 rb (List.replicate h.cs.length false, []) _ := ⟨none, 0, [], Rw.zero_, by rw [show (List.replicate h.cs.length false).length = h.cs.length by simp]; exact hS.swap⟩
  clear hS
  have hpot : ∀ {s : DS}, s.1.length = h.cs.length → pot s ≤ 2 * h.cs.length → s.2.length ≤ 1000000 := fun {s} e hp => by unfold pot at hp; omega
  refine goes_loop1 25 (26 :: 27 :: 28 :: 10 :: 29 :: 30 :: 31 :: 32 :: 33 :: 34 :: 35 :: []) (fun (Q : List Int) v w' => ∃ (D : List Int) (s : DS), R = D ++ Q ∧ v = .int .i64 (D.length : Nat) ∧ DInv h.cs R (fun _ => False) s ∧ (∀ r ∈ D, isAddr h.cs r = true → markAt s.1 r = true) ∧ pot s ≤ 2 * h.cs.length ∧ MSt M w0 ((b1, hob A h.cs.length c B h.tr.length d) :: H) F b2 b3 rb s w') (fun Q => Q.length) (R) ?_ (by conv => lhs; whnf) ?_
  · exact ⟨[], _, rfl, rfl, DInv.start, fun r hr => by simp at hr, by unfold pot; simp, hs⟩
  clear hs
  rintro Q _ w4 jv ⟨D, s, hD, rfl, hI, hrt, hp, hs⟩ ih
  have hlen : R.length = D.length + Q.length := by rw [hD]; simp
  have hsl := hpot hI.len hp
  cases Q with
  | cons x Q =>
    simp only [List.length_cons] at hlen
    have hxi : R[D.length]? = some x := by rw [hD]; simp
    obtain ⟨B5, d5, O5, hrow5, hS⟩ := hs
    obtain ⟨bt, ot, rfl⟩ := (hS.und hR).some_ (by omega)
    have hct : ∀ {H'} w', St M w0 H' F w' → w'.cell? ⟨bt, ot + ((D.length : Nat) : Int).toNat * 1, none⟩ = some (.int .i64 x) := fun w' hS => by
      have := (hS.und hR).int hxi
      rw [show ((D.length : Nat) : Int).toNat = D.length by omega]; exact this
    replace hS := hS.perm (.cons _ (.cons _ (.cons _ (List.perm_append_comm_assoc O5 [_] _))))
    refine goes_seq ?_
    refine goes_region ?_
    first
      | refine lst_run (run_lss_yes rfl rfl (by omega)) rfl ?_
      | refine lst_run (run_lss_no rfl rfl (by omega)) rfl ?_
      | refine lst_run (rfl) rfl ?_
    refine lst_done ?_
    refine goes_seq ?_
    refine goes_true rfl ?_
    refine goes_skip ?_
    refine goes_seq ?_
    refine goes_block ?_
    refine goes_seq ?_
    refine goes_region ?_
    refine lst_run (run_indexAddr (sz := 1) rfl rfl rfl rfl (by omega) (by omega)) rfl ?_
    first
      | refine lst_run (run_load1_own hS rfl rfl (by first | exact .head | exact .tail .head | exact .tail (.tail .head) | exact .tail (.tail (.tail .head)) | exact .tail (.tail (.tail (.tail .head))) | exact .tail (.tail (.tail (.tail (.tail .head))))) (by repeat constructor)) rfl ?_
      | refine lst_run (run_load1 rfl rfl (by first | assumption | exact hct _ hS | exact hS.cell0 (by assumption) | exact lv_next hS | exact lv_list hS)) rfl ?_
    refine lst_run (run_assign (by conv => lhs; whnf)) rfl ?_
    refine lst_done ?_
    refine goes_seq ?_
    refine goes_region ?_
    first
      | refine lst_run (run_loadN_own (k := 2) hS rfl rfl rfl (by first | exact .head | exact .tail .head | exact .tail (.tail .head) | exact .tail (.tail (.tail .head)) | exact .tail (.tail (.tail (.tail .head))) | exact .tail (.tail (.tail (.tail (.tail .head))))) (by repeat constructor)) rfl ?_
      | refine lst_run (run_load2 rfl rfl rfl (by first | assumption | exact hct _ hS | exact hS.cell0 (by assumption)) (by first | assumption | exact hct _ hS | exact hS.cell0 (by assumption))) rfl ?_
    refine lst_run (run_move (by conv => lhs; whnf)) rfl ?_
    refine lst_enter (run_call (by kernel_rfl) (args_2 (by conv => lhs; whnf) (by conv => lhs; whnf))) rfl ?_
    refine Calls.mono (address_any h.cs.length c A B h.tr.length d x _) ?_
    rintro _ w5 ⟨rfl, hb5⟩
    refine ⟨_, rfl, ?_⟩
    replace hS := hS.grow hb5
    have hs : MSt M w0 ((b1, hob A h.cs.length c B h.tr.length d) :: H) F b2 b3 rb s _ := ⟨B5, d5, O5, hrow5, hS.perm (.cons _ (.cons _ (.cons _ (List.perm_append_comm_assoc [_] O5 _))))⟩
    clear hS
    cases hx : isAddr h.cs x with
    | true =>
      rw [show (decide (0 ≤ x) && decide (x < (h.cs.length : Nat))) = true from hx]
      have hxx := isAddr_iff'.1 hx
      have hrc : Rc h.cs R x := Rc.root (by rw [hD]; simp) hx
      refine lst_done ?_
      refine goes_true rfl ?_
      refine goes_region ?_
      refine lst_run (run_move (by conv => lhs; whnf)) rfl ?_
      refine lst_run (run_move (by conv => lhs; whnf)) rfl ?_
      refine lst_enter (run_callv rfl (by kernel_rfl) (args_1 (by conv => lhs; whnf))) rfl ?_
      refine Calls.mono (reach_any x s _ hxx.1 (by rw [hI.len]; exact hxx.2) hsl hs) ?_
      rintro _ w6 ⟨rfl, hs6⟩
      refine ⟨_, rfl, ?_⟩
      refine lst_done ?_
      refine goes_inBlock ?_
      refine goes_region ?_
      refine lst_run (run_add rfl rfl (by omega) (by omega)) rfl ?_
      refine lst_run (run_move (by conv => lhs; whnf)) rfl ?_
      refine lst_done ?_
      refine ih Q _ _ _ ?_ ?_ (by conv => lhs; whnf) (by kernel_rfl)
      · simp
      · refine ⟨D ++ [x], reachM x s, by rw [hD]; simp, by simp, reachM_inv hI hx hrc, fun r hr hr2 => ?_, Nat.le_trans (reachM_pot hI.len hx) hp, hs6⟩
        rcases List.mem_append.1 hr with hr | hr
        · exact reachM_mono (hrt r hr hr2)
        · rw [List.mem_singleton.1 hr]; exact reachM_self hI.len hx
    | false =>
      rw [show (decide (0 ≤ x) && decide (x < (h.cs.length : Nat))) = false from hx]
      refine lst_done ?_
      refine goes_false rfl ?_
      refine goes_skip ?_
      refine goes_inBlock ?_
      refine goes_region ?_
      refine lst_run (run_add rfl rfl (by omega) (by omega)) rfl ?_
      refine lst_run (run_move (by conv => lhs; whnf)) rfl ?_
      refine lst_done ?_
      refine ih Q _ _ _ ?_ ?_ (by conv => lhs; whnf) (by kernel_rfl)
      · simp
      · refine ⟨D ++ [x], s, by rw [hD]; simp, by simp, hI, fun r hr hr2 => ?_, hp, hs⟩
        rcases List.mem_append.1 hr with hr | hr
        · exact hrt r hr hr2
        · rw [List.mem_singleton.1 hr, hx] at hr2; cases hr2
  | nil =>
    simp only [List.length_nil] at hlen
    have hRD : R = D := by simpa using hD
    rw [← hRD] at hrt
    clear hD
    refine goes_seq ?_
    refine goes_region ?_
    first
      | refine lst_run (run_lss_yes rfl rfl (by omega)) rfl ?_
      | refine lst_run (run_lss_no rfl rfl (by omega)) rfl ?_
      | refine lst_run (rfl) rfl ?_
    refine lst_done ?_
    refine goes_seq ?_
    refine goes_false rfl ?_
    refine goes_exit rfl ?_
    refine goes_seq ?_
    refine goes_block ?_
    refine goes_loop0  (36 :: 37 :: 38 :: 39 :: 40 :: 41 :: 11 :: 42 :: 43 :: 44 :: 45 :: 12 :: 46 :: 47 :: 48 :: 49 :: 50 :: 51 :: 52 :: 53 :: 13 :: 54 :: 55 :: 56 :: 57 :: 58 :: 59 :: 60 :: 61 :: 62 :: 63 :: 64 :: 65 :: 14 :: 66 :: 67 :: 68 :: 69 :: 70 :: 71 :: 72 :: []) (fun (s : DS) w' => DInv h.cs R (fun _ => False) s ∧ (∀ r ∈ R, isAddr h.cs r = true → markAt s.1 r = true) ∧ pot s ≤ 2 * h.cs.length ∧ MSt M w0 ((b1, hob A h.cs.length c B h.tr.length d) :: H) F b2 b3 rb s w') (fun s => pot s) (s) ?_ ?_
    · exact ⟨hI, hrt, hp, hs⟩
    clear hs hI hrt hp hsl
    rintro s w5 jv2 ⟨hI, hrt, hp, hs⟩ ih2
    have hsl := hpot hI.len hp
    obtain ⟨Mk, W⟩ := s
    dsimp only at hsl
    rcases List.eq_nil_or_concat W with rfl | ⟨W', a, hW⟩
    · obtain ⟨B5, d5, O5, hrow5, hS⟩ := hs
      dsimp only at hS hrow5
      refine goes_seq ?_
      refine goes_seq ?_
      refine goes_region ?_
      first
        | refine lst_run (run_load1_own hS rfl rfl (by first | exact .head | exact .tail .head | exact .tail (.tail .head) | exact .tail (.tail (.tail .head)) | exact .tail (.tail (.tail (.tail .head))) | exact .tail (.tail (.tail (.tail (.tail .head))))) (by repeat constructor)) rfl ?_
        | refine lst_run (run_load1 rfl rfl (by first | assumption | exact hct _ hS | exact hS.cell0 (by assumption) | exact lv_next hS | exact lv_list hS)) rfl ?_
      refine lst_run (run_len_slice rfl rfl rfl) rfl ?_
      first
        | refine lst_run (run_gtr_yes rfl rfl (by omega)) rfl ?_
        | refine lst_run (run_gtr_no rfl rfl (by omega)) rfl ?_
        | refine lst_run (rfl) rfl ?_
      refine lst_done ?_
      refine goes_false rfl ?_
      refine goes_exit rfl ?_
      refine goes_seq ?_
      refine goes_region ?_
      first
        | refine lst_run (run_load1_own hS rfl rfl (by first | exact .head | exact .tail .head | exact .tail (.tail .head) | exact .tail (.tail (.tail .head)) | exact .tail (.tail (.tail (.tail .head))) | exact .tail (.tail (.tail (.tail (.tail .head))))) (by repeat constructor)) rfl ?_
        | refine lst_run (run_load1 rfl rfl (by first | assumption | exact hct _ hS | exact hS.cell0 (by assumption) | exact lv_next hS | exact lv_list hS)) rfl ?_
      refine lst_run (run_assign (by conv => lhs; whnf)) rfl ?_
      refine lst_run (run_assign (by conv => lhs; whnf)) rfl ?_
      refine lst_done ?_
      refine goes_ret2 Try.func25 rfl (by conv => lhs; whnf) (by conv => lhs; whnf) ?_
      have hM := hI.fin hgl hrt
      have hS2 := hS.drop.drop
      have hS3 : St M w0 (O5 ++ (b1, hob A h.cs.length c B h.tr.length d) :: H) (Flat 1 (boolsV Mk) (some ⟨rb, 0, none⟩) Mk.length Mk.length :: F) w5 := by
        have ho := hS2.own (rb, _) (.head _)
        refine hS2.drop.learn fun w' hw => Flat.own (sp := []) (el := 4) ?_ (boolsV_len Mk) (Nat.le_refl _)
        rw [hw.block rb (own_lt ho) fun hm => ?_, List.append_nil]
        · exact ho
        · obtain ⟨p, hp, e⟩ := List.mem_map.1 hm
          exact (List.pairwise_cons.1 hS2.apart).1 p hp e.symm
      refine ⟨some ⟨rb, 0, none⟩, Mk.length, _, ?_, fun φ h => .tail _ h, ?_, (St.dropL (L := O5) hS3).drop⟩
      · rw [← hM]
      · rw [← hM]; exact Und.head
    · rw [List.concat_eq_append] at hW
      subst hW
      have hwa := hI.wt a (List.mem_append_right W' (List.mem_singleton.2 rfl))
      have haa := isAddr_iff'.1 hwa.1
      obtain ⟨x, hx, hgx⟩ := hat_some haa.1 haa.2
      have hrca : Rc h.cs R a := by
        have := hI.snd a.toNat (markAt_iff.1 hwa.2)
        rwa [show ((a.toNat : Nat) : Int) = a by omega] at this
      have hgc := goodC_iff (good_hat hgl hx)
      have hI1 := hI.pop
      have hp1 : pot (Mk, W') + 1 = pot (Mk, W' ++ [a]) := by unfold pot; simp; omega
      obtain ⟨B5, d5, O5, hrow5, hS⟩ := hs
      dsimp only at hS hrow5
      have hWl : (W' ++ [a]).length = W'.length + 1 := by rw [List.length_append]; rfl
      rw [hWl] at hS hrow5
      obtain ⟨g5, sp5, rfl, rfl, hcap5, hle5, _⟩ := hrow5.some_ (by omega)
      have hwl : ∀ {o o' o'' H' F'} w', St M w0 ((b2, o) :: (b3, o') :: (rb, o'') :: ([(g5, .cells (intsV (W' ++ [a]) ++ sp5).toArray 3)] ++ H')) F' w' → w'.cell? ⟨g5, 0 + (((W'.length + 1 : Nat) : Int) - 1).toNat * 1, none⟩ = some (.int .i64 a) := fun w' hS => by
        rw [cell_own (hS.own (g5, _) (.tail _ (.tail _ (.tail _ (.head _)))))]
        rw [show 0 + (((W'.length + 1 : Nat) : Int) - 1).toNat * 1 = W'.length by omega]
        simp [intsV]
      obtain ⟨bh, oh, rfl⟩ := (hS.und hL).some_ (by omega)
      have hcc : ∀ {H'} w', St M w0 H' F w' → _ := fun w' hS => (hS.und hL).cell hgx
      have hfin : ∀ {w' : World} {o : Obj} {bn : Nat}, St M w0 ((bn, o) :: (b2, svb rb Mk.length) :: (b3, svi (some ⟨g5, 0, none⟩) W'.length d5) :: (rb, bbob Mk) :: ([(g5, .cells (intsV (W' ++ [a]) ++ sp5).toArray 3)] ++ (b1, hob (some ⟨bh, oh, none⟩) h.cs.length c B h.tr.length d) :: H)) F w' → MSt M w0 ((bn, o) :: (b1, hob (some ⟨bh, oh, none⟩) h.cs.length c B h.tr.length d) :: H) F b2 b3 rb (Mk, W') w' := fun {w' o bn} hS => by
        have e1 : intsV (W' ++ [a]) ++ sp5 = intsV W' ++ (.int .i64 a :: sp5) := by simp [intsV]
        refine ⟨some ⟨g5, 0, none⟩, d5, [(g5, .cells (intsV (W' ++ [a]) ++ sp5).toArray 3)], ?_, hS.perm (List.perm_append_comm_assoc [_] [_, _, _, _] _)⟩
        rw [e1]
        exact Rw.own_ (len := W'.length) (by simp [intsV]) (by rw [← e1]; exact hcap5) (by omega) (by omega)
      have hxkn : x.k = 0 → isAddr h.cs x.n = true := fun hk => isAddr_iff'.2 (good_ref hgl hx hk)
      obtain ⟨k, hk⟩ : ∃ k : Nat, argsC x = (k : Nat) := ⟨(argsC x).toNat, by have := argsC_good (good_hat hgl hx); omega⟩
      have hk4 : k ≤ 4 ∧ (k = 0 ∨ a + k < h.cs.length) := by
        have := argsC_good (good_hat hgl hx)
        omega
      refine goes_seq ?_
      refine goes_seq ?_
      refine goes_region ?_
      first
        | refine lst_run (run_load1_own hS rfl rfl (by first | exact .head | exact .tail .head | exact .tail (.tail .head) | exact .tail (.tail (.tail .head)) | exact .tail (.tail (.tail (.tail .head))) | exact .tail (.tail (.tail (.tail (.tail .head))))) (by repeat constructor)) rfl ?_
        | refine lst_run (run_load1 rfl rfl (by first | assumption | exact hwl _ hS | exact (hcc _ hS).1 | exact (hcc _ hS).2.1 | exact (hcc _ hS).2.2 | exact hS.cell0 (by assumption) | exact lv_next hS | exact lv_list hS)) rfl ?_
      refine lst_run (run_len_slice rfl rfl rfl) rfl ?_
      first
        | refine lst_run (run_gtr_yes rfl rfl (by omega)) rfl ?_
        | refine lst_run (run_gtr_no rfl rfl (by omega)) rfl ?_
        | refine lst_run (rfl) rfl ?_
      refine lst_done ?_
      refine goes_true rfl ?_
      refine goes_skip ?_
      refine goes_block ?_
      refine goes_seq ?_
      refine goes_region ?_
      first
        | refine lst_run (run_load1_own hS rfl rfl (by first | exact .head | exact .tail .head | exact .tail (.tail .head) | exact .tail (.tail (.tail .head)) | exact .tail (.tail (.tail (.tail .head))) | exact .tail (.tail (.tail (.tail (.tail .head))))) (by repeat constructor)) rfl ?_
        | refine lst_run (run_load1 rfl rfl (by first | assumption | exact hwl _ hS | exact (hcc _ hS).1 | exact (hcc _ hS).2.1 | exact (hcc _ hS).2.2 | exact hS.cell0 (by assumption) | exact lv_next hS | exact lv_list hS)) rfl ?_
      refine lst_run (run_len_slice rfl rfl rfl) rfl ?_
      first
        | refine lst_run (run_sub rfl rfl (by omega) (by omega)) rfl ?_
        | refine lst_run (run_sub_u8 rfl rfl) rfl ?_
      refine lst_run (run_assign (by conv => lhs; whnf)) rfl ?_
      refine lst_done ?_
      refine goes_seq ?_
      refine goes_region ?_
      first
        | refine lst_run (run_load1_own hS rfl rfl (by first | exact .head | exact .tail .head | exact .tail (.tail .head) | exact .tail (.tail (.tail .head)) | exact .tail (.tail (.tail (.tail .head))) | exact .tail (.tail (.tail (.tail (.tail .head))))) (by repeat constructor)) rfl ?_
        | refine lst_run (run_load1 rfl rfl (by first | assumption | exact hwl _ hS | exact (hcc _ hS).1 | exact (hcc _ hS).2.1 | exact (hcc _ hS).2.2 | exact hS.cell0 (by assumption) | exact lv_next hS | exact lv_list hS)) rfl ?_
      refine lst_run (run_move (by conv => lhs; whnf)) rfl ?_
      refine lst_run (run_indexAddr (sz := 1) rfl rfl rfl rfl (by omega) (by omega)) rfl ?_
      first
        | refine lst_run (run_load1_own hS rfl rfl (by first | exact .head | exact .tail .head | exact .tail (.tail .head) | exact .tail (.tail (.tail .head)) | exact .tail (.tail (.tail (.tail .head))) | exact .tail (.tail (.tail (.tail (.tail .head))))) (by repeat constructor)) rfl ?_
        | refine lst_run (run_load1 rfl rfl (by first | assumption | exact hwl _ hS | exact (hcc _ hS).1 | exact (hcc _ hS).2.1 | exact (hcc _ hS).2.2 | exact hS.cell0 (by assumption) | exact lv_next hS | exact lv_list hS)) rfl ?_
      refine lst_run (run_assign (by conv => lhs; whnf)) rfl ?_
      refine lst_done ?_
      refine goes_seq ?_
      refine goes_region ?_
      first
        | refine lst_run (run_load1_own hS rfl rfl (by first | exact .head | exact .tail .head | exact .tail (.tail .head) | exact .tail (.tail (.tail .head)) | exact .tail (.tail (.tail (.tail .head))) | exact .tail (.tail (.tail (.tail (.tail .head))))) (by repeat constructor)) rfl ?_
        | refine lst_run (run_load1 rfl rfl (by first | assumption | exact hwl _ hS | exact (hcc _ hS).1 | exact (hcc _ hS).2.1 | exact (hcc _ hS).2.2 | exact hS.cell0 (by assumption) | exact lv_next hS | exact lv_list hS)) rfl ?_
      refine lst_run (run_move (by conv => lhs; whnf)) rfl ?_
      refine lst_run (run_slice_slice (sz := 1) rfl rfl rfl rfl (by omega) (by omega)) rfl ?_
      refine lst_store1 hS rfl (by conv => lhs; whnf) rfl rfl (by first | exact .head | exact .tail .head | exact .tail (.tail .head) | exact .tail (.tail (.tail .head)) | exact .tail (.tail (.tail (.tail .head))) | exact .tail (.tail (.tail (.tail (.tail .head))))) (by repeat constructor) (by first | exact .head | exact .tail .head | exact .tail (.tail .head) | exact .tail (.tail (.tail .head)) | exact .tail (.tail (.tail (.tail .head))) | exact .tail (.tail (.tail (.tail (.tail .head))))) ?_
      clear hS
      intro wx5 hS
      refine lst_done ?_
      refine goes_seq ?_
      refine goes_region ?_
      refine lst_run (run_fieldAddr (off := 0) rfl rfl) rfl ?_
      first
        | refine lst_run (run_load1_own hS rfl rfl (by first | exact .head | exact .tail .head | exact .tail (.tail .head) | exact .tail (.tail (.tail .head)) | exact .tail (.tail (.tail (.tail .head))) | exact .tail (.tail (.tail (.tail (.tail .head))))) (by repeat constructor)) rfl ?_
        | refine lst_run (run_load1 rfl rfl (by first | assumption | exact hwl _ hS | exact (hcc _ hS).1 | exact (hcc _ hS).2.1 | exact (hcc _ hS).2.2 | exact hS.cell0 (by assumption) | exact lv_next hS | exact lv_list hS)) rfl ?_
      refine lst_run (run_move (by conv => lhs; whnf)) rfl ?_
      refine lst_run (run_indexAddr (sz := 3) rfl rfl rfl rfl (by omega) (by omega)) rfl ?_
      first
        | refine lst_run (run_loadN_own (k := 3) hS rfl rfl rfl (by first | exact .head | exact .tail .head | exact .tail (.tail .head) | exact .tail (.tail (.tail .head)) | exact .tail (.tail (.tail (.tail .head))) | exact .tail (.tail (.tail (.tail (.tail .head))))) (by repeat constructor)) rfl ?_
        | refine lst_run (run_load3 rfl rfl rfl (by first | assumption | exact hwl _ hS | exact (hcc _ hS).1 | exact (hcc _ hS).2.1 | exact (hcc _ hS).2.2 | exact hS.cell0 (by assumption)) (by first | assumption | exact hwl _ hS | exact (hcc _ hS).1 | exact (hcc _ hS).2.1 | exact (hcc _ hS).2.2 | exact hS.cell0 (by assumption)) (by first | assumption | exact hwl _ hS | exact (hcc _ hS).1 | exact (hcc _ hS).2.1 | exact (hcc _ hS).2.2 | exact hS.cell0 (by assumption))) rfl ?_
      refine lst_alloc (cs := [_, _, _]) hS rfl rfl rfl ?_
      clear hS
      intro b4 wx6 hS
      refine lst_storeN hS rfl (by conv => lhs; whnf) rfl rfl (by first | exact .head | exact .tail .head | exact .tail (.tail .head) | exact .tail (.tail (.tail .head)) | exact .tail (.tail (.tail (.tail .head))) | exact .tail (.tail (.tail (.tail (.tail .head))))) (by repeat constructor) (by first | exact .head | exact .tail .head | exact .tail (.tail .head) | exact .tail (.tail (.tail .head)) | exact .tail (.tail (.tail (.tail .head))) | exact .tail (.tail (.tail (.tail (.tail .head))))) ?_
      clear hS
      intro wx7 hS
      refine lst_done ?_
      refine goes_seq ?_
      refine goes_seq ?_
      refine goes_region ?_
      refine lst_run (run_fieldAddr (off := 0) rfl rfl) rfl ?_
      first
        | refine lst_run (run_load1_own hS rfl rfl (by first | exact .head | exact .tail .head | exact .tail (.tail .head) | exact .tail (.tail (.tail .head)) | exact .tail (.tail (.tail (.tail .head))) | exact .tail (.tail (.tail (.tail (.tail .head))))) (by repeat constructor)) rfl ?_
        | refine lst_run (run_load1 rfl rfl (by first | assumption | exact hwl _ hS | exact (hcc _ hS).1 | exact (hcc _ hS).2.1 | exact (hcc _ hS).2.2 | exact hS.cell0 (by assumption) | exact lv_next hS | exact lv_list hS)) rfl ?_
      first
        | refine lst_run (run_eql_one_int rfl rfl) rfl ?_
        | refine lst_run (run_eql_no rfl rfl (by first | assumption | omega)) rfl ?_
        | refine lst_run (run_eql_yes rfl rfl (by omega)) rfl ?_
        | refine lst_run (rfl) rfl ?_
      refine lst_done ?_
      rw [show (((W'.length + 1 : Nat) : Int) - 1).toNat = W'.length by omega] at hS
      refine goes_joinP1 (57 :: 58 :: 59 :: 60 :: []) (fun w' => ∃ s2 : DS, DInv h.cs R (fun i => i = a) s2 ∧ (x.k = 0 → markAt s2.1 x.n = true) ∧ (∀ r ∈ R, isAddr h.cs r = true → markAt s2.1 r = true) ∧ pot s2 ≤ pot (Mk, W') ∧ MSt M w0 ((b4, .cells (hcs x).toArray 59) :: (b1, hob (some ⟨bh, oh, none⟩) h.cs.length c B h.tr.length d) :: H) F b2 b3 rb s2 w') ?_ ?_
      · intro hjoin
        refine goes_if rfl (fun hq => ?_) (fun hq => ?_)
        · have hk0 : x.k = 0 := by simpa using hq
          refine goes_region ?_
          refine lst_run (run_move (by conv => lhs; whnf)) rfl ?_
          refine lst_run (run_fieldAddr (off := 1) rfl rfl) rfl ?_
          first
            | refine lst_run (run_load1_own hS rfl rfl (by first | exact .head | exact .tail .head | exact .tail (.tail .head) | exact .tail (.tail (.tail .head)) | exact .tail (.tail (.tail (.tail .head))) | exact .tail (.tail (.tail (.tail (.tail .head))))) (by repeat constructor)) rfl ?_
            | refine lst_run (run_load1 rfl rfl (by first | assumption | exact hwl _ hS | exact (hcc _ hS).1 | exact (hcc _ hS).2.1 | exact (hcc _ hS).2.2 | exact hS.cell0 (by assumption) | exact lv_next hS | exact lv_list hS)) rfl ?_
          have hs := hfin hS
          clear hS
          refine lst_enter (run_callv rfl (by kernel_rfl) (args_1 (by conv => lhs; whnf))) rfl ?_
          refine Calls.mono (reach_any x.n (Mk, W') _ (isAddr_iff'.1 (hxkn hk0)).1 (by rw [hI1.len]; exact (isAddr_iff'.1 (hxkn hk0)).2) (by simp at hsl; show W'.length ≤ _; omega) hs) ?_
          rintro _ w6 ⟨rfl, hs6⟩
          refine ⟨_, rfl, ?_⟩
          refine lst_done ?_
          exact hjoin _ _ ⟨reachM x.n (Mk, W'), reachM_inv hI1 (hxkn hk0) (Rc.ref hrca hx hk0), fun _ => reachM_self hI1.len (hxkn hk0), fun r h1 h2 => reachM_mono (hrt r h1 h2), reachM_pot hI1.len (hxkn hk0), hs6⟩ (by kernel_rfl)
        · have hk0 : x.k ≠ 0 := by simpa using hq
          refine goes_skip ?_
          exact hjoin _ _ ⟨(Mk, W'), hI1, fun e => absurd e hk0, hrt, Nat.le_refl _, hfin hS⟩ (by kernel_rfl)
      clear hS
      rintro jv3 w6 ⟨s2, hI2, hm2, hrt2, hp2, hs2⟩
      obtain ⟨B6, d6, O6, hrow6, hS⟩ := hs2
      replace hS := hS.perm (.cons _ (.cons _ (.cons _ (List.perm_append_comm_assoc O6 [_, _] _))))
      refine goes_seq ?_
      refine goes_region ?_
      first
        | refine lst_run (run_loadN_own (k := 3) hS rfl rfl rfl (by first | exact .head | exact .tail .head | exact .tail (.tail .head) | exact .tail (.tail (.tail .head)) | exact .tail (.tail (.tail (.tail .head))) | exact .tail (.tail (.tail (.tail (.tail .head))))) (by repeat constructor)) rfl ?_
        | refine lst_run (run_load3 rfl rfl rfl (by first | assumption | exact hwl _ hS | exact (hcc _ hS).1 | exact (hcc _ hS).2.1 | exact (hcc _ hS).2.2 | exact hS.cell0 (by assumption)) (by first | assumption | exact hwl _ hS | exact (hcc _ hS).1 | exact (hcc _ hS).2.1 | exact (hcc _ hS).2.2 | exact hS.cell0 (by assumption)) (by first | assumption | exact hwl _ hS | exact (hcc _ hS).1 | exact (hcc _ hS).2.1 | exact (hcc _ hS).2.2 | exact hS.cell0 (by assumption))) rfl ?_
      refine lst_enter (run_call (by kernel_rfl) (args_1 (by conv => lhs; whnf))) rfl ?_
      refine Calls.mono (args_any x _) ?_
      rintro _ w7 ⟨rfl, hb7⟩
      refine ⟨_, rfl, ?_⟩
      replace hS := hS.grow hb7
      rw [hk]
      have hs2 : MSt M w0 ((b4, .cells (hcs x).toArray 59) :: (b1, hob (some ⟨bh, oh, none⟩) h.cs.length c B h.tr.length d) :: H) F b2 b3 rb s2 _ := ⟨B6, d6, O6, hrow6, hS.perm (.cons _ (.cons _ (.cons _ (List.perm_append_comm_assoc [_, _] O6 _))))⟩
      clear hS hrow6
      refine lst_run (run_move (by conv => lhs; whnf)) rfl ?_
      refine lst_done ?_
      refine goes_block ?_
      refine goes_loop1 63 (64 :: 65 :: 14 :: 66 :: 67 :: 68 :: 69 :: 70 :: 71 :: 72 :: []) (fun (j : Nat) v w' => ∃ (s3 : DS) (i : Nat), i + j = k ∧ v = .int .i64 (i : Nat) ∧ DInv h.cs R (fun i => i = a) s3 ∧ (x.k = 0 → markAt s3.1 x.n = true) ∧ (∀ q : Int, 0 ≤ q → q < i → markAt s3.1 (a + 1 + q) = true) ∧ (∀ r ∈ R, isAddr h.cs r = true → markAt s3.1 r = true) ∧ pot s3 ≤ pot (Mk, W') ∧ MSt M w0 ((b4, .cells (hcs x).toArray 59) :: (b1, hob (some ⟨bh, oh, none⟩) h.cs.length c B h.tr.length d) :: H) F b2 b3 rb s3 w') (fun j => j) (k) ?_ (by conv => lhs; whnf) ?_
      · exact ⟨s2, 0, by omega, rfl, hI2, hm2, fun q h1 h2 => by omega, hrt2, hp2, hs2⟩
      clear hs2 hI2 hm2 hrt2 hp2
      rintro j _ w8 jv4 ⟨s3, i, hi, rfl, hI3, hm3, ha3, hrt3, hp3, hs3⟩ ih3
      cases j with
      | zero =>
        refine goes_seq ?_
        refine goes_region ?_
        first
          | refine lst_run (run_lss_yes rfl rfl (by omega)) rfl ?_
          | refine lst_run (run_lss_no rfl rfl (by omega)) rfl ?_
          | refine lst_run (rfl) rfl ?_
        refine lst_done ?_
        refine goes_seq ?_
        refine goes_false rfl ?_
        refine goes_exit rfl ?_
        refine goes_inBlock ?_
        refine ih2 s3 _ _ ?_ ?_ (by kernel_rfl)
        · omega
        · refine ⟨hI3.done hx hm3 fun q q0 q1 => ha3 q q0 (by omega), hrt3, by omega, ?_⟩
          obtain ⟨B9, d9, O9, hrow9, hS⟩ := hs3
          exact ⟨B9, d9, O9, hrow9, (hS.perm (.cons _ (.cons _ (.cons _ (List.perm_append_comm_assoc O9 [_] _)))) |>.perm (List.perm_append_comm_assoc [_, _, _] [_] _)).drop⟩
      | succ j =>
        have hadr : isAddr h.cs (a + 1 + (i : Nat)) = true := isAddr_iff'.2 (by omega)
        have hrc3 : Rc h.cs R (a + 1 + (i : Nat)) := Rc.arg hrca hx (by omega) (by omega)
        have hsl3 := hpot hI3.len (by omega)
        refine goes_seq ?_
        refine goes_region ?_
        first
          | refine lst_run (run_lss_yes rfl rfl (by omega)) rfl ?_
          | refine lst_run (run_lss_no rfl rfl (by omega)) rfl ?_
          | refine lst_run (rfl) rfl ?_
        refine lst_done ?_
        refine goes_seq ?_
        refine goes_true rfl ?_
        refine goes_skip ?_
        refine goes_seq ?_
        refine goes_block ?_
        refine goes_seq ?_
        refine goes_region ?_
        refine lst_run (run_move (by conv => lhs; whnf)) rfl ?_
        refine lst_run (run_assign (by conv => lhs; whnf)) rfl ?_
        refine lst_done ?_
        refine goes_region ?_
        refine lst_run (run_move (by conv => lhs; whnf)) rfl ?_
        refine lst_run (run_move (by conv => lhs; whnf)) rfl ?_
        refine lst_run (run_add rfl rfl (by omega) (by omega)) rfl ?_
        refine lst_run (run_move (by conv => lhs; whnf)) rfl ?_
        refine lst_run (run_add rfl rfl (by omega) (by omega)) rfl ?_
        refine lst_enter (run_callv rfl (by kernel_rfl) (args_1 (by conv => lhs; whnf))) rfl ?_
        refine Calls.mono (reach_any (a + 1 + (i : Nat)) s3 _ (by omega) (by rw [hI3.len]; omega) hsl3 hs3) ?_
        rintro _ w9 ⟨rfl, hs9⟩
        refine ⟨_, rfl, ?_⟩
        refine lst_done ?_
        refine goes_inBlock ?_
        refine goes_region ?_
        refine lst_run (run_add rfl rfl (by omega) (by omega)) rfl ?_
        refine lst_run (run_move (by conv => lhs; whnf)) rfl ?_
        refine lst_done ?_
        refine ih3 j _ _ _ ?_ ?_ (by conv => lhs; whnf) (by kernel_rfl)
        · omega
        · refine ⟨reachM (a + 1 + (i : Nat)) s3, i + 1, by omega, by simp, reachM_inv hI3 hadr hrc3, fun e => reachM_mono (hm3 e), fun q q0 q1 => ?_, fun r h1 h2 => reachM_mono (hrt3 r h1 h2), Nat.le_trans (reachM_pot hI3.len hadr) hp3, hs9⟩
          by_cases e : q = i
          · subst e; exact reachM_self hI3.len hadr
          · exact reachM_mono (ha3 q q0 (by omega))
end
end Go.Proofs.Ytjicoifjgokoiab
