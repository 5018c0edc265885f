/- SameNR, HRef2, HRef3, LLoads, Open, HOpen: texts that follow one another, laid into one file. -/
import Derived.Test.YtjicoifjgokoiaaG1
import Derived.Test.YtjicoifjgokoiaaG0
import Derived.Test.YtjicoifjgokoiaaG6
import Derived.Test.YtjicoifjgokoiaaG4
import Derived.Test.YtjicoifjgokoiaaG5
import Derived.Test.YtjicoifjgokoiaaRows
import Derived.Deep.Slices
import Derived.Deep.Fields
import Derived.JoinedCond
import Derived.OpenShut
namespace Go.Proofs.Ytjicoifjgokoiaa
open Go.RowKit
set_option linter.unusedVariables false
set_option linter.unusedSimpArgs false
set_option maxRecDepth 100000
set_option maxHeartbeats 1000000

theorem sameNumbersR_eq (L : List Int) (A B : Option Addr) (c d : Nat) (w : World) (hL : Flat 1 (intsV L) A L.length c w) (hK : Flat 1 (intsV L) B L.length d w) (hl : L.length ≤ 9223372036854775807) :
    Calls Try.prog 57 #[.slice A L.length c, .slice B L.length d] w fun e w' => e = .returned (.bool true) ∧ Below w.heap.size w w' := by
  have hS := ((St.start w).flat (M := []) hL).flat (M := []) hK
  refine goes_enter2 Try.func57 rfl Try.ntmps57 rfl ?_
  refine goes_seq ?_
  refine goes_region ?_
  refine lst_run (run_assign (by conv => lhs; whnf)) rfl ?_
  refine lst_done ?_
  refine goes_seq ?_
  refine goes_seq ?_
  refine goes_region ?_
  refine lst_run (run_move (by conv => lhs; whnf)) rfl ?_
  refine lst_run (run_len_slice rfl rfl rfl) rfl ?_
  refine lst_run (run_move (by conv => lhs; whnf)) rfl ?_
  refine lst_run (run_len_slice rfl rfl rfl) rfl ?_
  first
    | refine lst_run (run_neq_one_int rfl rfl) rfl ?_
    | refine lst_run (run_neq_no rfl rfl (by first | assumption | omega)) rfl ?_
    | refine lst_run (run_neq_yes rfl rfl (by omega)) rfl ?_
    | refine lst_run (rfl) rfl ?_
  refine lst_done ?_
  refine goes_false rfl ?_
  refine goes_skip ?_
  refine goes_seq ?_
  refine goes_seq ?_
  refine goes_region ?_
  refine lst_run (run_move (by conv => lhs; whnf)) rfl ?_
  refine lst_run (run_len_slice rfl rfl rfl) rfl ?_
  refine lst_run (run_move (by conv => lhs; whnf)) rfl ?_
  refine lst_done ?_
  refine goes_block ?_
  refine goes_loop1 13 (14 :: 15 :: 5 :: 16 :: 17 :: 18 :: 19 :: 20 :: 21 :: 22 :: 23 :: 24 :: 4 :: 25 :: []) (fun (R : List Int) v w' => ∃ D, L = D ++ R ∧ v = .int .i64 (D.length : Nat) ∧ St [] w [] [Flat 1 (intsV L) B L.length d, Flat 1 (intsV L) A L.length c] w') (fun R => R.length) (L) ?_ (by conv => lhs; whnf) ?_
  · exact ⟨[], rfl, rfl, hS⟩
  clear hS
  rintro R _ w2 jv ⟨D, hD, rfl, hS⟩ ih
  have hlen : L.length = D.length + R.length := by rw [hD]; simp
  cases R with
  | nil =>
    simp only [List.length_nil] at hlen
    refine goes_seq ?_
    refine goes_region ?_
    first
      | refine lst_run (run_lss_yes rfl rfl (by omega)) rfl ?_
      | refine lst_run (run_lss_no rfl rfl (by omega)) rfl ?_
      | refine lst_run (rfl) rfl ?_
    refine lst_done ?_
    refine goes_seq ?_
    refine goes_false rfl ?_
    refine goes_exit rfl ?_
    refine goes_seq ?_
    refine goes_region ?_
    refine lst_run (run_assign (by conv => lhs; whnf)) rfl ?_
    refine lst_done ?_
    refine goes_ret1 Try.func57 rfl (by conv => lhs; whnf) ?_
    exact ⟨rfl, hS.ext.below⟩
  | cons x R =>
    simp only [List.length_cons] at hlen
    obtain ⟨b, o, rfl⟩ := hL.some_ (by omega)
    obtain ⟨b2, o2, rfl⟩ := hK.some_ (by omega)
    have hx : L[D.length]? = some x := by rw [hD]; simp
    have hcc : ∀ {H'} w', St [] w H' [Flat 1 (intsV L) (some ⟨b2, o2, none⟩) L.length d, Flat 1 (intsV L) (some ⟨b, o, none⟩) L.length c] w' → _ := fun w' hS => (hS.fact (.head _)).int hx
    have hcd : ∀ {H'} w', St [] w H' [Flat 1 (intsV L) (some ⟨b2, o2, none⟩) L.length d, Flat 1 (intsV L) (some ⟨b, o, none⟩) L.length c] w' → _ := fun w' hS => (hS.fact (.tail _ (.head _))).int hx
    refine goes_seq ?_
    refine goes_region ?_
    first
      | refine lst_run (run_lss_yes rfl rfl (by omega)) rfl ?_
      | refine lst_run (run_lss_no rfl rfl (by omega)) rfl ?_
      | refine lst_run (rfl) rfl ?_
    refine lst_done ?_
    refine goes_seq ?_
    refine goes_true rfl ?_
    refine goes_skip ?_
    refine goes_seq ?_
    refine goes_block ?_
    refine goes_seq ?_
    refine goes_region ?_
    refine lst_run (run_move (by conv => lhs; whnf)) rfl ?_
    refine lst_run (run_assign (by conv => lhs; whnf)) rfl ?_
    refine lst_done ?_
    refine goes_seq ?_
    refine goes_draw (St _ _ _ _) 9 ((0, true) :: (1, true) :: (2, true) :: (3, true) :: (4, true) :: (5, true) :: (6, true) :: (7, true) :: (8, true) :: []) (by kernel_rfl) (by kernel_rfl) (hS.drew) ?_
    replace hS := hS.drew
    refine ord_read rfl (fun _ hS => run_move (by conv => lhs; whnf)) rfl ?_
    refine ord_read rfl (fun _ hS => run_move (by conv => lhs; whnf)) rfl ?_
    refine ord_read rfl (fun _ hS => run_indexAddr (sz := 1) rfl rfl rfl rfl (by omega) (by omega)) rfl ?_
    first
      | refine ord_read rfl (fun _ hS => run_load1_own hS rfl rfl (by first | exact .head | exact .tail .head | exact .tail (.tail .head) | exact .tail (.tail (.tail .head)) | exact .tail (.tail (.tail (.tail .head))) | exact .tail (.tail (.tail (.tail (.tail .head))))) (by repeat constructor)) rfl ?_
      | refine ord_read rfl (fun _ hS => run_load1 rfl rfl (by first | assumption | exact hcc _ hS | exact hcd _ hS | exact hS.cell0 (by assumption) | exact lv_next hS | exact lv_list hS)) rfl ?_
    refine ord_read rfl (fun _ hS => run_move (by conv => lhs; whnf)) rfl ?_
    refine ord_read rfl (fun _ hS => run_move (by conv => lhs; whnf)) rfl ?_
    refine ord_read rfl (fun _ hS => run_indexAddr (sz := 1) rfl rfl rfl rfl (by omega) (by omega)) rfl ?_
    first
      | refine ord_read rfl (fun _ hS => run_load1_own hS rfl rfl (by first | exact .head | exact .tail .head | exact .tail (.tail .head) | exact .tail (.tail (.tail .head)) | exact .tail (.tail (.tail (.tail .head))) | exact .tail (.tail (.tail (.tail (.tail .head))))) (by repeat constructor)) rfl ?_
      | refine ord_read rfl (fun _ hS => run_load1 rfl rfl (by first | assumption | exact hcc _ hS | exact hcd _ hS | exact hS.cell0 (by assumption) | exact lv_next hS | exact lv_list hS)) rfl ?_
    first
      | refine ord_read rfl (fun _ hS => run_neq_one_int rfl rfl) rfl ?_
      | refine ord_read rfl (fun _ hS => run_neq_no rfl rfl (by first | assumption | omega)) rfl ?_
      | refine ord_read rfl (fun _ hS => run_neq_yes rfl rfl (by omega)) rfl ?_
      | refine ord_read rfl (fun _ hS => rfl) rfl ?_
    refine ord_end ?_
    refine lst_done ?_
    refine goes_false rfl ?_
    refine goes_skip ?_
    refine goes_inBlock ?_
    refine goes_region ?_
    refine lst_run (run_add rfl rfl (by omega) (by omega)) rfl ?_
    refine lst_run (run_move (by conv => lhs; whnf)) rfl ?_
    refine lst_done ?_
    refine ih (R) _ _ _ ?_ ?_ (by conv => lhs; whnf) (by kernel_rfl)
    · simp
    · exact ⟨D ++ [x], by rw [hD]; simp, by simp, hS⟩
end Go.Proofs.Ytjicoifjgokoiaa
namespace Go.Proofs.Ytjicoifjgokoiaa
open Go.RowKit
set_option linter.unusedVariables false
set_option linter.unusedSimpArgs false
set_option maxRecDepth 100000
set_option maxHeartbeats 1000000

theorem sameCells_eq (L : List HC) (A B : Option Addr) (c d : Nat) (w : World) (hL : Flat 3 (hcsL L) A L.length c w) (hK : Flat 3 (hcsL L) B L.length d w) (hl : L.length ≤ 9223372036854775807) :
    Calls Try.prog 56 #[.slice A L.length c, .slice B L.length d] w fun e w' => e = .returned (.bool true) ∧ Below w.heap.size w w' := by
  have hS := ((St.start w).flat (M := []) hL).flat (M := []) hK
  refine goes_enter2 Try.func56 rfl Try.ntmps56 rfl ?_
  refine goes_seq ?_
  refine goes_region ?_
  refine lst_run (run_assign (by conv => lhs; whnf)) rfl ?_
  refine lst_done ?_
  refine goes_seq ?_
  refine goes_seq ?_
  refine goes_region ?_
  refine lst_run (run_move (by conv => lhs; whnf)) rfl ?_
  refine lst_run (run_len_slice rfl rfl rfl) rfl ?_
  refine lst_run (run_move (by conv => lhs; whnf)) rfl ?_
  refine lst_run (run_len_slice rfl rfl rfl) rfl ?_
  first
    | refine lst_run (run_neq_one_int rfl rfl) rfl ?_
    | refine lst_run (run_neq_no rfl rfl (by first | assumption | omega)) rfl ?_
    | refine lst_run (run_neq_yes rfl rfl (by omega)) rfl ?_
    | refine lst_run (rfl) rfl ?_
  refine lst_done ?_
  refine goes_false rfl ?_
  refine goes_skip ?_
  refine goes_seq ?_
  refine goes_seq ?_
  refine goes_region ?_
  refine lst_run (run_move (by conv => lhs; whnf)) rfl ?_
  refine lst_run (run_len_slice rfl rfl rfl) rfl ?_
  refine lst_run (run_move (by conv => lhs; whnf)) rfl ?_
  refine lst_done ?_
  refine goes_block ?_
  refine goes_loop1 13 (14 :: 15 :: 5 :: 16 :: 17 :: 18 :: 19 :: 20 :: 21 :: 22 :: 23 :: 24 :: 4 :: 25 :: []) (fun (R : List HC) v w' => ∃ D, L = D ++ R ∧ v = .int .i64 (D.length : Nat) ∧ St [] w [] [Flat 3 (hcsL L) B L.length d, Flat 3 (hcsL L) A L.length c] w') (fun R => R.length) (L) ?_ (by conv => lhs; whnf) ?_
  · exact ⟨[], rfl, rfl, hS⟩
  clear hS
  rintro R _ w2 jv ⟨D, hD, rfl, hS⟩ ih
  have hlen : L.length = D.length + R.length := by rw [hD]; simp
  cases R with
  | nil =>
    simp only [List.length_nil] at hlen
    refine goes_seq ?_
    refine goes_region ?_
    first
      | refine lst_run (run_lss_yes rfl rfl (by omega)) rfl ?_
      | refine lst_run (run_lss_no rfl rfl (by omega)) rfl ?_
      | refine lst_run (rfl) rfl ?_
    refine lst_done ?_
    refine goes_seq ?_
    refine goes_false rfl ?_
    refine goes_exit rfl ?_
    refine goes_seq ?_
    refine goes_region ?_
    refine lst_run (run_assign (by conv => lhs; whnf)) rfl ?_
    refine lst_done ?_
    refine goes_ret1 Try.func56 rfl (by conv => lhs; whnf) ?_
    exact ⟨rfl, hS.ext.below⟩
  | cons x R =>
    simp only [List.length_cons] at hlen
    obtain ⟨b, o, rfl⟩ := hL.some_ (by omega)
    obtain ⟨b2, o2, rfl⟩ := hK.some_ (by omega)
    have hx : L[D.length]? = some x := by rw [hD]; simp
    have hcc : ∀ {H'} w', St [] w H' [Flat 3 (hcsL L) (some ⟨b2, o2, none⟩) L.length d, Flat 3 (hcsL L) (some ⟨b, o, none⟩) L.length c] w' → _ := fun w' hS => (hS.fact (.head _)).cell hx
    have hcd : ∀ {H'} w', St [] w H' [Flat 3 (hcsL L) (some ⟨b2, o2, none⟩) L.length d, Flat 3 (hcsL L) (some ⟨b, o, none⟩) L.length c] w' → _ := fun w' hS => (hS.fact (.tail _ (.head _))).cell hx
    refine goes_seq ?_
    refine goes_region ?_
    first
      | refine lst_run (run_lss_yes rfl rfl (by omega)) rfl ?_
      | refine lst_run (run_lss_no rfl rfl (by omega)) rfl ?_
      | refine lst_run (rfl) rfl ?_
    refine lst_done ?_
    refine goes_seq ?_
    refine goes_true rfl ?_
    refine goes_skip ?_
    refine goes_seq ?_
    refine goes_block ?_
    refine goes_seq ?_
    refine goes_region ?_
    refine lst_run (run_move (by conv => lhs; whnf)) rfl ?_
    refine lst_run (run_assign (by conv => lhs; whnf)) rfl ?_
    refine lst_done ?_
    refine goes_seq ?_
    refine goes_draw (St _ _ _ _) 9 ((0, true) :: (1, true) :: (2, true) :: (3, true) :: (4, true) :: (5, true) :: (6, true) :: (7, true) :: (8, true) :: []) (by kernel_rfl) (by kernel_rfl) (hS.drew) ?_
    replace hS := hS.drew
    refine ord_read rfl (fun _ hS => run_move (by conv => lhs; whnf)) rfl ?_
    refine ord_read rfl (fun _ hS => run_move (by conv => lhs; whnf)) rfl ?_
    refine ord_read rfl (fun _ hS => run_indexAddr (sz := 3) rfl rfl rfl rfl (by omega) (by omega)) rfl ?_
    first
      | refine ord_read rfl (fun _ hS => run_loadN_own (k := 3) hS rfl rfl rfl (by first | exact .head | exact .tail .head | exact .tail (.tail .head) | exact .tail (.tail (.tail .head)) | exact .tail (.tail (.tail (.tail .head))) | exact .tail (.tail (.tail (.tail (.tail .head))))) (by repeat constructor)) rfl ?_
      | refine ord_read rfl (fun _ hS => run_load3 rfl rfl rfl (by first | assumption | exact (hcc _ hS).1 | exact (hcc _ hS).2.1 | exact (hcc _ hS).2.2 | exact (hcd _ hS).1 | exact (hcd _ hS).2.1 | exact (hcd _ hS).2.2 | exact hS.cell0 (by assumption)) (by first | assumption | exact (hcc _ hS).1 | exact (hcc _ hS).2.1 | exact (hcc _ hS).2.2 | exact (hcd _ hS).1 | exact (hcd _ hS).2.1 | exact (hcd _ hS).2.2 | exact hS.cell0 (by assumption)) (by first | assumption | exact (hcc _ hS).1 | exact (hcc _ hS).2.1 | exact (hcc _ hS).2.2 | exact (hcd _ hS).1 | exact (hcd _ hS).2.1 | exact (hcd _ hS).2.2 | exact hS.cell0 (by assumption))) rfl ?_
    refine ord_read rfl (fun _ hS => run_move (by conv => lhs; whnf)) rfl ?_
    refine ord_read rfl (fun _ hS => run_move (by conv => lhs; whnf)) rfl ?_
    refine ord_read rfl (fun _ hS => run_indexAddr (sz := 3) rfl rfl rfl rfl (by omega) (by omega)) rfl ?_
    first
      | refine ord_read rfl (fun _ hS => run_loadN_own (k := 3) hS rfl rfl rfl (by first | exact .head | exact .tail .head | exact .tail (.tail .head) | exact .tail (.tail (.tail .head)) | exact .tail (.tail (.tail (.tail .head))) | exact .tail (.tail (.tail (.tail (.tail .head))))) (by repeat constructor)) rfl ?_
      | refine ord_read rfl (fun _ hS => run_load3 rfl rfl rfl (by first | assumption | exact (hcc _ hS).1 | exact (hcc _ hS).2.1 | exact (hcc _ hS).2.2 | exact (hcd _ hS).1 | exact (hcd _ hS).2.1 | exact (hcd _ hS).2.2 | exact hS.cell0 (by assumption)) (by first | assumption | exact (hcc _ hS).1 | exact (hcc _ hS).2.1 | exact (hcc _ hS).2.2 | exact (hcd _ hS).1 | exact (hcd _ hS).2.1 | exact (hcd _ hS).2.2 | exact hS.cell0 (by assumption)) (by first | assumption | exact (hcc _ hS).1 | exact (hcc _ hS).2.1 | exact (hcc _ hS).2.2 | exact (hcd _ hS).1 | exact (hcd _ hS).2.1 | exact (hcd _ hS).2.2 | exact hS.cell0 (by assumption))) rfl ?_
    refine ord_read rfl (fun _ hS => run_neq_cell rfl rfl) rfl ?_
    refine ord_end ?_
    refine lst_done ?_
    rw [decide_eq_true (rfl : x = x)]
    refine goes_false rfl ?_
    refine goes_skip ?_
    refine goes_inBlock ?_
    refine goes_region ?_
    refine lst_run (run_add rfl rfl (by omega) (by omega)) rfl ?_
    refine lst_run (run_move (by conv => lhs; whnf)) rfl ?_
    refine lst_done ?_
    refine ih (R) _ _ _ ?_ ?_ (by conv => lhs; whnf) (by kernel_rfl)
    · simp
    · exact ⟨D ++ [x], by rw [hD]; simp, by simp, hS⟩
theorem sameHeap_eq (h : HH) (A B A2 B2 : Option Addr) (c d c2 d2 : Nat) (w : World) (h1 : HFl h A c B d w) (h2 : HFl h A2 c2 B2 d2 w) (hl : h.cs.length ≤ 9223372036854775807) (hl2 : h.tr.length ≤ 9223372036854775807) :
    Calls Try.prog 31 #[hv h A c B d, hv h A2 c2 B2 d2] w fun e w' => e = .returned (.bool true) ∧ Below w.heap.size w w' := by
  have hS := ((St.start w).base (φ := HFl h A c B d) fun w' hx => h1.ext hx).base (φ := HFl h A2 c2 B2 d2) fun w' hx => h2.ext hx
  refine goes_enter2 Try.func31 rfl Try.ntmps31 rfl ?_
  refine goes_seq ?_
  refine goes_region ?_
  refine lst_box hS rfl rfl ?_
  clear hS
  intro b1 wx1 hS
  refine lst_box hS rfl rfl ?_
  clear hS
  intro b2 wx2 hS
  refine lst_run (run_assign (by conv => lhs; whnf)) rfl ?_
  refine lst_done ?_
  refine goes_seq ?_
  refine goes_region ?_
  refine lst_run (run_fieldAddr (off := 0) rfl rfl) rfl ?_
  first
    | refine lst_run (run_load1_own hS rfl rfl (by first | exact .head | exact .tail .head | exact .tail (.tail .head) | exact .tail (.tail (.tail .head)) | exact .tail (.tail (.tail (.tail .head))) | exact .tail (.tail (.tail (.tail (.tail .head))))) (by repeat constructor)) rfl ?_
    | refine lst_run (run_load1 rfl rfl (by first | assumption | exact (hcc _ hS).1 | exact (hcc _ hS).2.1 | exact (hcc _ hS).2.2 | exact (hcd _ hS).1 | exact (hcd _ hS).2.1 | exact (hcd _ hS).2.2 | exact hS.cell0 (by assumption) | exact lv_next hS | exact lv_list hS)) rfl ?_
  refine lst_run (run_fieldAddr (off := 0) rfl rfl) rfl ?_
  first
    | refine lst_run (run_load1_own hS rfl rfl (by first | exact .head | exact .tail .head | exact .tail (.tail .head) | exact .tail (.tail (.tail .head)) | exact .tail (.tail (.tail (.tail .head))) | exact .tail (.tail (.tail (.tail (.tail .head))))) (by repeat constructor)) rfl ?_
    | refine lst_run (run_load1 rfl rfl (by first | assumption | exact (hcc _ hS).1 | exact (hcc _ hS).2.1 | exact (hcc _ hS).2.2 | exact (hcd _ hS).1 | exact (hcd _ hS).2.1 | exact (hcd _ hS).2.2 | exact hS.cell0 (by assumption) | exact lv_next hS | exact lv_list hS)) rfl ?_
  refine lst_enter (run_call (by kernel_rfl) (args_2 (by conv => lhs; whnf) (by conv => lhs; whnf))) rfl ?_
  refine Calls.mono (sameCells_eq h.cs A A2 c c2 _ (hS.fact (.tail _ (.head _))).1 (hS.fact (.head _)).1 hl) ?_
  rintro _ w3 ⟨rfl, hb3⟩
  refine ⟨_, rfl, ?_⟩
  replace hS := hS.grow hb3
  refine lst_run (run_move (by conv => lhs; whnf)) rfl ?_
  refine lst_guard rfl rfl ?_
  refine lst_run (run_fieldAddr (off := 1) rfl rfl) rfl ?_
  refine lst_guard rfl rfl ?_
  first
    | refine lst_run (run_load1_own hS rfl rfl (by first | exact .head | exact .tail .head | exact .tail (.tail .head) | exact .tail (.tail (.tail .head)) | exact .tail (.tail (.tail (.tail .head))) | exact .tail (.tail (.tail (.tail (.tail .head))))) (by repeat constructor)) rfl ?_
    | refine lst_run (run_load1 rfl rfl (by first | assumption | exact (hcc _ hS).1 | exact (hcc _ hS).2.1 | exact (hcc _ hS).2.2 | exact (hcd _ hS).1 | exact (hcd _ hS).2.1 | exact (hcd _ hS).2.2 | exact hS.cell0 (by assumption) | exact lv_next hS | exact lv_list hS)) rfl ?_
  refine lst_guard rfl rfl ?_
  refine lst_run (run_fieldAddr (off := 1) rfl rfl) rfl ?_
  refine lst_guard rfl rfl ?_
  first
    | refine lst_run (run_load1_own hS rfl rfl (by first | exact .head | exact .tail .head | exact .tail (.tail .head) | exact .tail (.tail (.tail .head)) | exact .tail (.tail (.tail (.tail .head))) | exact .tail (.tail (.tail (.tail (.tail .head))))) (by repeat constructor)) rfl ?_
    | refine lst_run (run_load1 rfl rfl (by first | assumption | exact (hcc _ hS).1 | exact (hcc _ hS).2.1 | exact (hcc _ hS).2.2 | exact (hcd _ hS).1 | exact (hcd _ hS).2.1 | exact (hcd _ hS).2.2 | exact hS.cell0 (by assumption) | exact lv_next hS | exact lv_list hS)) rfl ?_
  refine lst_guard rfl rfl ?_
  refine lst_enter (run_call (by kernel_rfl) (args_2 (by conv => lhs; whnf) (by conv => lhs; whnf))) rfl ?_
  refine Calls.mono (sameNumbersR_eq h.tr B B2 d d2 _ (hS.fact (.tail _ (.head _))).2 (hS.fact (.head _)).2 hl2) ?_
  rintro _ w4 ⟨rfl, hb4⟩
  refine ⟨_, rfl, ?_⟩
  replace hS := hS.grow hb4
  first
    | refine lst_run (run_pick_t rfl (by conv => lhs; whnf)) rfl ?_
    | refine lst_run (run_pick_f rfl (by conv => lhs; whnf)) rfl ?_
  refine lst_run (run_assign (by conv => lhs; whnf)) rfl ?_
  refine lst_done ?_
  refine goes_ret1 Try.func31 rfl (by conv => lhs; whnf) ?_
  exact ⟨rfl, hS.ext.below⟩
section
variable {M : List Nat} {w0 : World} {H : List (Nat × Obj)} {F : List (World → Prop)}
theorem copyHeap_any (h : HH) (A B : Option Addr) (c d : Nat) (w : World) (hH : Und F (HFl h A c B d)) (hl : h.cs.length ≤ 4398046511104) (hl2 : h.tr.length ≤ 17592186044416) (hS : St M w0 H F w) :
    Calls Try.prog 28 #[hv h A c B d] w fun e w' => ∃ (A' : Option Addr) (c' : Nat) (B' : Option Addr) (d' : Nat) (O O2 : List (Nat × Obj)), e = .returned (hv h A' c' B' d') ∧ Rw 86 3 (.slice A' h.cs.length c') h.cs.length (hcsL h.cs) O ∧ Rw 3 1 (.slice B' h.tr.length d') h.tr.length (intsV h.tr) O2 ∧ St M w0 (O ++ (O2 ++ H)) F w' := by
  have hL : Und F (Flat 3 (hcsL h.cs) A h.cs.length c) := hH.imp fun _ h => h.1
  have hT : Und F (Flat 1 (intsV h.tr) B h.tr.length d) := hH.imp fun _ h => h.2
  refine goes_enter1 Try.func28 rfl Try.ntmps28 rfl ?_
  refine goes_seq ?_
  refine goes_region ?_
  refine lst_box hS rfl rfl ?_
  clear hS
  intro b1 wx1 hS
  refine lst_alloc (cs := [_, _]) hS rfl rfl rfl ?_
  clear hS
  intro b2 wx2 hS
  refine lst_done ?_
  refine goes_seq ?_
  refine goes_meet1 9 (3 :: 4 :: 5 :: 6 :: 7 :: 8 :: []) (fun v w' => ∃ A3 c3 A4 c4 O3 O4, Rw 86 3 (.slice A3 h.cs.length c3) h.cs.length (hcsL h.cs) O3 ∧ Rw 3 1 (.slice A4 h.tr.length c4) h.tr.length (intsV h.tr) O4 ∧ St M w0 ((b2, hob A3 h.cs.length c3 A4 h.tr.length c4) :: (b1, hob A h.cs.length c B h.tr.length d) :: (O3 ++ (O4 ++ H))) F w') ?_ ?_
  · intro hmeet
    refine goes_plan (St _ _ _ _) 7 (.read 0 (.read 1 (.read 3 (.read 4 (.pick 2 (.pick 5 (.read 6 .tail) .none) .none))))) (by kernel_rfl) (by kernel_rfl) hS.drew ?_
    replace hS := hS.drew
    refine pln_read rfl (fun _ hS => run_fieldAddr (off := 0) rfl rfl) rfl ?_
    first
      | refine pln_read rfl (fun _ hS => run_load1_own hS rfl rfl (by first | exact .head | exact .tail .head | exact .tail (.tail .head) | exact .tail (.tail (.tail .head)) | exact .tail (.tail (.tail (.tail .head))) | exact .tail (.tail (.tail (.tail (.tail .head))))) (by repeat constructor)) rfl ?_
      | refine pln_read rfl (fun _ hS => run_load1 rfl rfl (by first | assumption | exact (hcc _ hS).1 | exact (hcc _ hS).2.1 | exact (hcc _ hS).2.2 | exact (hcd _ hS).1 | exact (hcd _ hS).2.1 | exact (hcd _ hS).2.2 | exact hS.cell0 (by assumption) | exact lv_next hS | exact lv_list hS)) rfl ?_
    refine pln_read rfl (fun _ hS => run_fieldAddr (off := 1) rfl rfl) rfl ?_
    first
      | refine pln_read rfl (fun _ hS => run_load1_own hS rfl rfl (by first | exact .head | exact .tail .head | exact .tail (.tail .head) | exact .tail (.tail (.tail .head)) | exact .tail (.tail (.tail (.tail .head))) | exact .tail (.tail (.tail (.tail (.tail .head))))) (by repeat constructor)) rfl ?_
      | refine pln_read rfl (fun _ hS => run_load1 rfl rfl (by first | assumption | exact (hcc _ hS).1 | exact (hcc _ hS).2.1 | exact (hcc _ hS).2.2 | exact (hcd _ hS).1 | exact (hcd _ hS).2.1 | exact (hcd _ hS).2.2 | exact hS.cell0 (by assumption) | exact lv_next hS | exact lv_list hS)) rfl ?_
    refine pln_last rfl ?_
    refine lst_appC (xs := []) (O := []) hS (by conv => lhs; whnf) (by conv => lhs; whnf) rfl rfl rfl (hS.und hL) Rw.zero_ (.refl _) (by omega) rfl ?_
    clear hS
    intro v3 O3 w3 hrow3 hS
    rw [Nat.zero_add, List.nil_append] at hrow3
    obtain ⟨A3, c3, rfl, _⟩ := hrow3.form
    replace hS := hS.perm (List.perm_append_comm_assoc O3 [_, _] _)
    refine lst_pln (by first | exact hS | exact hS.drop | exact hS.drop.drop | exact hS.drop.drop.drop | exact hS.unlearn | exact hS.unlearn.drop | exact hS.unlearn.drop.drop | exact St.dropL (L := O3) (hS.perm (List.perm_append_comm_assoc [_, _] O3 _)) | exact St.dropL (L := O4) (hS.perm (List.perm_append_comm_assoc [_, _] O4 _)) | exact St.dropL (L := O3) ((St.dropL (L := O4) (hS.perm (List.perm_append_comm_assoc [_, _] O4 _))).perm (List.perm_append_comm_assoc [_, _] O3 _)) | exact St.dropL (L := O4) ((St.dropL (L := O3) (hS.perm (List.perm_append_comm_assoc [_, _] O3 _))).perm (List.perm_append_comm_assoc [_, _] O4 _))) ?_
    refine pln_last rfl ?_
    refine lst_appI (xs := []) (O := []) hS (by conv => lhs; whnf) (by conv => lhs; whnf) rfl rfl rfl (hS.und hT) Rw.zero_ (.refl _) (by omega) rfl ?_
    clear hS
    intro v4 O4 w4 hrow4 hS
    rw [Nat.zero_add, List.nil_append] at hrow4
    obtain ⟨A4, c4, rfl, _⟩ := hrow4.form
    replace hS := hS.perm (List.perm_append_comm_assoc O4 [_, _] _)
    refine lst_pln (by first | exact hS | exact hS.drop | exact hS.drop.drop | exact hS.drop.drop.drop | exact hS.unlearn | exact hS.unlearn.drop | exact hS.unlearn.drop.drop | exact St.dropL (L := O3) (hS.perm (List.perm_append_comm_assoc [_, _] O3 _)) | exact St.dropL (L := O4) (hS.perm (List.perm_append_comm_assoc [_, _] O4 _)) | exact St.dropL (L := O3) ((St.dropL (L := O4) (hS.perm (List.perm_append_comm_assoc [_, _] O4 _))).perm (List.perm_append_comm_assoc [_, _] O3 _)) | exact St.dropL (L := O4) ((St.dropL (L := O3) (hS.perm (List.perm_append_comm_assoc [_, _] O3 _))).perm (List.perm_append_comm_assoc [_, _] O4 _))) ?_
    refine pln_read rfl (fun _ hS => run_build (cells := [_, _]) (.cons (by conv => lhs; whnf) (.cons (by conv => lhs; whnf) .nil)) rfl) rfl ?_
    refine pln_tail ?_
    refine lst_storeN hS rfl (by conv => lhs; whnf) rfl rfl (by first | exact .head | exact .tail .head | exact .tail (.tail .head) | exact .tail (.tail (.tail .head)) | exact .tail (.tail (.tail (.tail .head))) | exact .tail (.tail (.tail (.tail (.tail .head))))) (by repeat constructor) (by first | exact .head | exact .tail .head | exact .tail (.tail .head) | exact .tail (.tail (.tail .head)) | exact .tail (.tail (.tail (.tail .head))) | exact .tail (.tail (.tail (.tail (.tail .head))))) ?_
    clear hS
    intro wx3 hS
    refine lst_done ?_
    exact hmeet _ _ _ ⟨A3, c3, A4, c4, O3, O4, hrow3, hrow4, by first | exact hS | exact hS.perm (.cons _ (.cons _ (List.perm_append_comm_assoc O4 O3 _)))⟩ (by conv => lhs; whnf) (by kernel_rfl)
  clear hS
  rintro jv _ w5 ⟨A3, c3, A4, c4, O3, O4, hrow3, hrow4, hS⟩
  refine goes_retC (sz := 2) hS Try.func28 rfl rfl rfl rfl (by first | exact .head | exact .tail .head | exact .tail (.tail .head) | exact .tail (.tail (.tail .head)) | exact .tail (.tail (.tail (.tail .head))) | exact .tail (.tail (.tail (.tail (.tail .head))))) (by repeat constructor) ?_
  exact ⟨A3, c3, A4, c4, O3, O4, rfl, hrow3, hrow4, hS.drop.drop⟩
/-- A copy that nobody writes. -/
theorem copyHeap_kept (h : HH) (A B : Option Addr) (c d : Nat) (w : World) (hH : Und F (HFl h A c B d)) (hl : h.cs.length ≤ 4398046511104) (hl2 : h.tr.length ≤ 17592186044416) (hS : St M w0 H F w) :
    Calls Try.prog 28 #[hv h A c B d] w (HRes M w0 H F h fun A' c' B' d' e => e = .returned (hv h A' c' B' d')) :=
  (copyHeap_any h A B c d w hH hl hl2 hS).mono fun e w' ⟨A3, c3, A4, c4, O3, O4, he, hrow3, hrow4, hS⟩ => by
    have hS3 := St.freezeR hrow3 hS
    have hS4 := St.freezeR hrow4 hS3
    exact ⟨A3, c3, A4, c4, _, he, fun φ h => .tail _ (.tail _ h), fun w' hw => ⟨hw _ (.tail _ (.head _)), hw _ (.head _)⟩, hS4⟩
end
end Go.Proofs.Ytjicoifjgokoiaa
namespace Go.Proofs.Ytjicoifjgokoiaa
open Go.RowKit
set_option linter.unusedVariables false
set_option linter.unusedSimpArgs false
set_option maxRecDepth 100000
set_option maxHeartbeats 1000000

theorem goodH_block (K : List HC) : goodH ⟨K, []⟩ = goodCs K := by unfold goodH goodTr; simp
section
variable {M : List Nat} {w0 : World} {H : List (Nat × Obj)} {F : List (World → Prop)}
theorem loadBlock_any (h : HH) (K : List HC) (A B A2 : Option Addr) (c d c2 : Nat) (w : World) (hH : Und F (HFl h A c B d)) (hK : Und F (Flat 3 (hcsL K) A2 K.length c2)) (hS : St M w0 H F w) :
    Calls Try.prog 30 #[hv h A c B d, .slice A2 K.length c2] w (HRes M w0 H F (loadH h K).1 fun A' c' B' d' e => e = .returned (.tuple #[hv (loadH h K).1 A' c' B' d', .int .i64 ((loadH h K).2.1 : Nat), .int .i64 (loadH h K).2.2])) := by
  refine goes_enter2 Try.func30 rfl Try.ntmps30 rfl ?_
  refine goes_seq ?_
  refine goes_region ?_
  refine lst_box hS rfl rfl ?_
  clear hS
  intro b1 wx1 hS
  refine lst_alloc (cs := [_, _]) hS rfl rfl rfl ?_
  clear hS
  intro b2 wx2 hS
  refine lst_run (run_assign (by conv => lhs; whnf)) rfl ?_
  refine lst_run (run_assign (by conv => lhs; whnf)) rfl ?_
  refine lst_done ?_
  refine goes_seq ?_
  refine goes_seq ?_
  refine goes_region ?_
  first
    | refine lst_run (run_loadN_own (k := 2) hS rfl rfl rfl (by first | exact .head | exact .tail .head | exact .tail (.tail .head) | exact .tail (.tail (.tail .head)) | exact .tail (.tail (.tail (.tail .head))) | exact .tail (.tail (.tail (.tail (.tail .head))))) (by repeat constructor)) rfl ?_
    | refine lst_run (run_load2 rfl rfl rfl (by first | assumption | exact hS.cell0 (by assumption)) (by first | assumption | exact hS.cell0 (by assumption))) rfl ?_
  refine lst_enter (run_call (by kernel_rfl) (args_1 (by conv => lhs; whnf))) rfl ?_
  refine Calls.mono (isHeap_any h A B c d _ (hS.und hH)) ?_
  rintro _ w2 ⟨rfl, hb2⟩
  refine ⟨_, rfl, ?_⟩
  replace hS := hS.grow hb2
  cases hg : goodH h with
  | false =>
    have e0 : loadH h K = (h, 0, 1) := by unfold loadH; rw [hg]; rfl
    rw [e0]
    refine lst_run (rfl) rfl ?_
    refine lst_run (run_move (by conv => lhs; whnf)) rfl ?_
    refine lst_pass rfl rfl rfl ?_
    refine lst_pass rfl rfl rfl ?_
    refine lst_pass rfl rfl rfl ?_
    refine lst_pass rfl rfl rfl ?_
    first
      | refine lst_run (run_pick_t rfl (by conv => lhs; whnf)) rfl ?_
      | refine lst_run (run_pick_f rfl (by conv => lhs; whnf)) rfl ?_
    refine lst_done ?_
    refine goes_true rfl ?_
    refine goes_seq ?_
    refine goes_region ?_
    first
      | refine lst_run (run_loadN_own (k := 2) hS rfl rfl rfl (by first | exact .head | exact .tail .head | exact .tail (.tail .head) | exact .tail (.tail (.tail .head)) | exact .tail (.tail (.tail (.tail .head))) | exact .tail (.tail (.tail (.tail (.tail .head))))) (by repeat constructor)) rfl ?_
      | refine lst_run (run_load2 rfl rfl rfl (by first | assumption | exact hS.cell0 (by assumption)) (by first | assumption | exact hS.cell0 (by assumption))) rfl ?_
    refine lst_storeN hS rfl (by conv => lhs; whnf) rfl rfl (by first | exact .head | exact .tail .head | exact .tail (.tail .head) | exact .tail (.tail (.tail .head)) | exact .tail (.tail (.tail (.tail .head))) | exact .tail (.tail (.tail (.tail (.tail .head))))) (by repeat constructor) (by first | exact .head | exact .tail .head | exact .tail (.tail .head) | exact .tail (.tail (.tail .head)) | exact .tail (.tail (.tail (.tail .head))) | exact .tail (.tail (.tail (.tail (.tail .head))))) ?_
    clear hS
    intro wx3 hS
    refine lst_run (run_assign (by conv => lhs; whnf)) rfl ?_
    refine lst_run (run_assign (by conv => lhs; whnf)) rfl ?_
    refine lst_done ?_
    refine goes_retC3 (sz := 2) hS Try.func30 rfl rfl (by conv => lhs; whnf) (by conv => lhs; whnf) rfl rfl (by first | exact .head | exact .tail .head | exact .tail (.tail .head) | exact .tail (.tail (.tail .head)) | exact .tail (.tail (.tail (.tail .head))) | exact .tail (.tail (.tail (.tail (.tail .head))))) (by repeat constructor) ?_
    exact ⟨A, c, B, d, F, rfl, fun _ h => h, hH, hS.drop.drop⟩
  | true =>
  obtain ⟨hl1, hl2⟩ := good_len hg
  have hi2 := fun w hS => isHeap_any ⟨K, []⟩ A2 none c2 0 w ⟨St.und (M := M) (w0 := w0) (H := (b2, hob none 0 0 none 0 0) :: (b1, hob A h.cs.length c B h.tr.length d) :: H) hS hK, Flat.nil_ _ _ _⟩
  rw [goodH_block] at hi2
  refine lst_run (rfl) rfl ?_
  refine lst_run (run_move (by conv => lhs; whnf)) rfl ?_
  refine lst_guard rfl rfl ?_
  refine lst_run (run_move (by conv => lhs; whnf)) rfl ?_
  refine lst_guard rfl rfl ?_
  refine lst_run (run_build (cells := [_, _]) (.cons (by conv => lhs; whnf) .nil) rfl) rfl ?_
  refine lst_guard rfl rfl ?_
  refine lst_enter (run_call (by kernel_rfl) (args_1 (by conv => lhs; whnf))) rfl ?_
  refine Calls.mono (hi2 _ hS) ?_
  rintro _ w3 ⟨rfl, hb3⟩
  refine ⟨_, rfl, ?_⟩
  replace hS := hS.grow hb3
  cases hgk : goodCs K with
  | false =>
    have e0 : loadH h K = (h, 0, 1) := by unfold loadH; rw [hg, hgk]; rfl
    rw [e0]
    refine lst_guard rfl rfl ?_
    refine lst_run (rfl) rfl ?_
    first
      | refine lst_run (run_pick_t rfl (by conv => lhs; whnf)) rfl ?_
      | refine lst_run (run_pick_f rfl (by conv => lhs; whnf)) rfl ?_
    refine lst_done ?_
    refine goes_true rfl ?_
    refine goes_seq ?_
    refine goes_region ?_
    first
      | refine lst_run (run_loadN_own (k := 2) hS rfl rfl rfl (by first | exact .head | exact .tail .head | exact .tail (.tail .head) | exact .tail (.tail (.tail .head)) | exact .tail (.tail (.tail (.tail .head))) | exact .tail (.tail (.tail (.tail (.tail .head))))) (by repeat constructor)) rfl ?_
      | refine lst_run (run_load2 rfl rfl rfl (by first | assumption | exact hS.cell0 (by assumption)) (by first | assumption | exact hS.cell0 (by assumption))) rfl ?_
    refine lst_storeN hS rfl (by conv => lhs; whnf) rfl rfl (by first | exact .head | exact .tail .head | exact .tail (.tail .head) | exact .tail (.tail (.tail .head)) | exact .tail (.tail (.tail (.tail .head))) | exact .tail (.tail (.tail (.tail (.tail .head))))) (by repeat constructor) (by first | exact .head | exact .tail .head | exact .tail (.tail .head) | exact .tail (.tail (.tail .head)) | exact .tail (.tail (.tail (.tail .head))) | exact .tail (.tail (.tail (.tail (.tail .head))))) ?_
    clear hS
    intro wx3 hS
    refine lst_run (run_assign (by conv => lhs; whnf)) rfl ?_
    refine lst_run (run_assign (by conv => lhs; whnf)) rfl ?_
    refine lst_done ?_
    refine goes_retC3 (sz := 2) hS Try.func30 rfl rfl (by conv => lhs; whnf) (by conv => lhs; whnf) rfl rfl (by first | exact .head | exact .tail .head | exact .tail (.tail .head) | exact .tail (.tail (.tail .head)) | exact .tail (.tail (.tail (.tail .head))) | exact .tail (.tail (.tail (.tail (.tail .head))))) (by repeat constructor) ?_
    exact ⟨A, c, B, d, F, rfl, fun _ h => h, hH, hS.drop.drop⟩
  | true =>
  have hlk : K.length ≤ 65536 := by
    unfold goodCs at hgk
    simp only [Bool.and_eq_true, decide_eq_true_eq] at hgk
    exact hgk.1
  by_cases hlong : 65536 < h.cs.length + K.length
  · have e0 : loadH h K = (h, 0, 3) := by unfold loadH; rw [hg, hgk, if_neg (by decide), if_pos hlong]
    rw [e0]
    refine lst_guard rfl rfl ?_
    refine lst_run (rfl) rfl ?_
    first
      | refine lst_run (run_pick_t rfl (by conv => lhs; whnf)) rfl ?_
      | refine lst_run (run_pick_f rfl (by conv => lhs; whnf)) rfl ?_
    refine lst_done ?_
    refine goes_false rfl ?_
    refine goes_skip ?_
    refine goes_seq ?_
    refine goes_region ?_
    refine lst_run (run_fieldAddr (off := 0) rfl rfl) rfl ?_
    first
      | refine lst_run (run_load1_own hS rfl rfl (by first | exact .head | exact .tail .head | exact .tail (.tail .head) | exact .tail (.tail (.tail .head)) | exact .tail (.tail (.tail (.tail .head))) | exact .tail (.tail (.tail (.tail (.tail .head))))) (by repeat constructor)) rfl ?_
      | refine lst_run (run_load1 rfl rfl (by first | assumption | exact hS.cell0 (by assumption) | exact lv_next hS | exact lv_list hS)) rfl ?_
    refine lst_run (run_len_slice rfl rfl rfl) rfl ?_
    refine lst_run (run_assign (by conv => lhs; whnf)) rfl ?_
    refine lst_done ?_
    refine goes_seq ?_
    refine goes_seq ?_
    refine goes_region ?_
    refine lst_run (run_move (by conv => lhs; whnf)) rfl ?_
    refine lst_run (run_move (by conv => lhs; whnf)) rfl ?_
    refine lst_run (run_len_slice rfl rfl rfl) rfl ?_
    refine lst_run (run_add rfl rfl (by omega) (by omega)) rfl ?_
    first
      | refine lst_run (run_gtr_yes rfl rfl (by omega)) rfl ?_
      | refine lst_run (run_gtr_no rfl rfl (by omega)) rfl ?_
      | refine lst_run (rfl) rfl ?_
    refine lst_done ?_
    refine goes_true rfl ?_
    refine goes_seq ?_
    refine goes_region ?_
    first
      | refine lst_run (run_loadN_own (k := 2) hS rfl rfl rfl (by first | exact .head | exact .tail .head | exact .tail (.tail .head) | exact .tail (.tail (.tail .head)) | exact .tail (.tail (.tail (.tail .head))) | exact .tail (.tail (.tail (.tail (.tail .head))))) (by repeat constructor)) rfl ?_
      | refine lst_run (run_load2 rfl rfl rfl (by first | assumption | exact hS.cell0 (by assumption)) (by first | assumption | exact hS.cell0 (by assumption))) rfl ?_
    refine lst_storeN hS rfl (by conv => lhs; whnf) rfl rfl (by first | exact .head | exact .tail .head | exact .tail (.tail .head) | exact .tail (.tail (.tail .head)) | exact .tail (.tail (.tail (.tail .head))) | exact .tail (.tail (.tail (.tail (.tail .head))))) (by repeat constructor) (by first | exact .head | exact .tail .head | exact .tail (.tail .head) | exact .tail (.tail (.tail .head)) | exact .tail (.tail (.tail (.tail .head))) | exact .tail (.tail (.tail (.tail (.tail .head))))) ?_
    clear hS
    intro wx3 hS
    refine lst_run (run_assign (by conv => lhs; whnf)) rfl ?_
    refine lst_run (run_assign (by conv => lhs; whnf)) rfl ?_
    refine lst_done ?_
    refine goes_retC3 (sz := 2) hS Try.func30 rfl rfl (by conv => lhs; whnf) (by conv => lhs; whnf) rfl rfl (by first | exact .head | exact .tail .head | exact .tail (.tail .head) | exact .tail (.tail (.tail .head)) | exact .tail (.tail (.tail (.tail .head))) | exact .tail (.tail (.tail (.tail (.tail .head))))) (by repeat constructor) ?_
    exact ⟨A, c, B, d, F, rfl, fun _ h => h, hH, hS.drop.drop⟩
  have e0 : loadH h K = (⟨h.cs ++ K.map (moved h.cs.length), h.tr⟩, h.cs.length, 0) := by unfold loadH; rw [hg, hgk, if_neg (by decide), if_neg hlong]
  rw [e0]
  refine lst_guard rfl rfl ?_
  refine lst_run (rfl) rfl ?_
  first
    | refine lst_run (run_pick_t rfl (by conv => lhs; whnf)) rfl ?_
    | refine lst_run (run_pick_f rfl (by conv => lhs; whnf)) rfl ?_
  refine lst_done ?_
  refine goes_false rfl ?_
  refine goes_skip ?_
  refine goes_seq ?_
  refine goes_region ?_
  refine lst_run (run_fieldAddr (off := 0) rfl rfl) rfl ?_
  first
    | refine lst_run (run_load1_own hS rfl rfl (by first | exact .head | exact .tail .head | exact .tail (.tail .head) | exact .tail (.tail (.tail .head)) | exact .tail (.tail (.tail (.tail .head))) | exact .tail (.tail (.tail (.tail (.tail .head))))) (by repeat constructor)) rfl ?_
    | refine lst_run (run_load1 rfl rfl (by first | assumption | exact hS.cell0 (by assumption) | exact lv_next hS | exact lv_list hS)) rfl ?_
  refine lst_run (run_len_slice rfl rfl rfl) rfl ?_
  refine lst_run (run_assign (by conv => lhs; whnf)) rfl ?_
  refine lst_done ?_
  refine goes_seq ?_
  refine goes_seq ?_
  refine goes_region ?_
  refine lst_run (run_move (by conv => lhs; whnf)) rfl ?_
  refine lst_run (run_move (by conv => lhs; whnf)) rfl ?_
  refine lst_run (run_len_slice rfl rfl rfl) rfl ?_
  refine lst_run (run_add rfl rfl (by omega) (by omega)) rfl ?_
  first
    | refine lst_run (run_gtr_yes rfl rfl (by omega)) rfl ?_
    | refine lst_run (run_gtr_no rfl rfl (by omega)) rfl ?_
    | refine lst_run (rfl) rfl ?_
  refine lst_done ?_
  refine goes_false rfl ?_
  refine goes_skip ?_
  refine goes_seq ?_
  refine goes_region ?_
  first
    | refine lst_run (run_loadN_own (k := 2) hS rfl rfl rfl (by first | exact .head | exact .tail .head | exact .tail (.tail .head) | exact .tail (.tail (.tail .head)) | exact .tail (.tail (.tail (.tail .head))) | exact .tail (.tail (.tail (.tail (.tail .head))))) (by repeat constructor)) rfl ?_
    | refine lst_run (run_load2 rfl rfl rfl (by first | assumption | exact hS.cell0 (by assumption)) (by first | assumption | exact hS.cell0 (by assumption))) rfl ?_
  refine lst_enter (run_call (by kernel_rfl) (args_1 (by conv => lhs; whnf))) rfl ?_
  refine Calls.mono (copyHeap_any h A B c d _ hH (by omega) (by omega) hS) ?_
  rintro _ w4 ⟨A3, c3, A4, d4, O3, O4, rfl, hrow3, hrow4, hS'⟩
  refine ⟨_, rfl, ?_⟩
  replace hS := hS'
  clear hS'
  replace hS := St.freezeR hrow4 (hS.perm (List.perm_append_comm_assoc O3 O4 _))
  replace hS := hS.perm (List.perm_append_comm_assoc O3 [_, _] _)
  refine lst_alloc (cs := [_, _]) hS rfl rfl rfl ?_
  clear hS
  intro b3 wx3 hS
  refine lst_storeN hS rfl (by conv => lhs; whnf) rfl rfl (by first | exact .head | exact .tail .head | exact .tail (.tail .head) | exact .tail (.tail (.tail .head)) | exact .tail (.tail (.tail (.tail .head))) | exact .tail (.tail (.tail (.tail (.tail .head))))) (by repeat constructor) (by first | exact .head | exact .tail .head | exact .tail (.tail .head) | exact .tail (.tail (.tail .head)) | exact .tail (.tail (.tail (.tail .head))) | exact .tail (.tail (.tail (.tail (.tail .head))))) ?_
  clear hS
  intro wx4 hS
  refine lst_done ?_
  refine goes_seq ?_
  refine goes_seq ?_
  refine goes_region ?_
  refine lst_run (run_move (by conv => lhs; whnf)) rfl ?_
  refine lst_run (run_len_slice rfl rfl rfl) rfl ?_
  refine lst_run (run_move (by conv => lhs; whnf)) rfl ?_
  refine lst_done ?_
  refine goes_block ?_
  refine goes_loop1 34 (35 :: 36 :: 37 :: 10 :: 38 :: 39 :: 40 :: 41 :: 42 :: 43 :: 44 :: 45 :: 46 :: 47 :: 48 :: 49 :: 50 :: 51 :: 52 :: []) (fun (R : List HC) v w' => ∃ (D : List HC) (O : List (Nat × Obj)) (A5 : Option Addr) (c5 : Nat), K = D ++ R ∧ v = .int .i64 (D.length : Nat) ∧ Rw 86 3 (.slice A5 (h.cs ++ D.map (moved h.cs.length)).length c5) (h.cs ++ D.map (moved h.cs.length)).length (hcsL (h.cs ++ D.map (moved h.cs.length))) O ∧ St M w0 ((b3, hob A5 (h.cs ++ D.map (moved h.cs.length)).length c5 A4 h.tr.length d4) :: (b2, hob none 0 0 none 0 0) :: (b1, hob A h.cs.length c B h.tr.length d) :: (O ++ H)) (Flat 1 (intsV h.tr) A4 h.tr.length d4 :: F) w') (fun R => R.length) (K) ?_ (by conv => lhs; whnf) ?_
  · exact ⟨[], O3, A3, c3, rfl, rfl, by simpa using hrow3, by simpa using hS⟩
  clear hS
  rintro R _ w5 jv ⟨D, O, A5, c5, hD, rfl, hrow, hS⟩ ih
  have hlen : K.length = D.length + R.length := by rw [hD]; simp
  have hln : (h.cs ++ D.map (moved h.cs.length)).length = h.cs.length + D.length := by simp
  cases R with
  | nil =>
    simp only [List.length_nil] at hlen
    have hKD : K = D := by simpa using hD
    subst hKD
    refine goes_seq ?_
    refine goes_region ?_
    first
      | refine lst_run (run_lss_yes rfl rfl (by omega)) rfl ?_
      | refine lst_run (run_lss_no rfl rfl (by omega)) rfl ?_
      | refine lst_run (rfl) rfl ?_
    refine lst_done ?_
    refine goes_seq ?_
    refine goes_false rfl ?_
    refine goes_exit rfl ?_
    refine goes_seq ?_
    refine goes_region ?_
    first
      | refine lst_run (run_loadN_own (k := 2) hS rfl rfl rfl (by first | exact .head | exact .tail .head | exact .tail (.tail .head) | exact .tail (.tail (.tail .head)) | exact .tail (.tail (.tail (.tail .head))) | exact .tail (.tail (.tail (.tail (.tail .head))))) (by repeat constructor)) rfl ?_
      | refine lst_run (run_load2 rfl rfl rfl (by first | assumption | exact hS.cell0 (by assumption)) (by first | assumption | exact hS.cell0 (by assumption))) rfl ?_
    refine lst_run (run_move (by conv => lhs; whnf)) rfl ?_
    refine lst_storeN hS rfl (by conv => lhs; whnf) rfl rfl (by first | exact .head | exact .tail .head | exact .tail (.tail .head) | exact .tail (.tail (.tail .head)) | exact .tail (.tail (.tail (.tail .head))) | exact .tail (.tail (.tail (.tail (.tail .head))))) (by repeat constructor) (by first | exact .head | exact .tail .head | exact .tail (.tail .head) | exact .tail (.tail (.tail .head)) | exact .tail (.tail (.tail (.tail .head))) | exact .tail (.tail (.tail (.tail (.tail .head))))) ?_
    clear hS
    intro wx5 hS
    refine lst_run (run_assign (by conv => lhs; whnf)) rfl ?_
    refine lst_run (run_assign (by conv => lhs; whnf)) rfl ?_
    refine lst_done ?_
    refine goes_retC3 (sz := 2) hS Try.func30 rfl rfl (by conv => lhs; whnf) (by conv => lhs; whnf) rfl rfl (by first | exact .head | exact .tail .head | exact .tail (.tail .head) | exact .tail (.tail (.tail .head)) | exact .tail (.tail (.tail (.tail .head))) | exact .tail (.tail (.tail (.tail (.tail .head))))) (by repeat constructor) ?_
    replace hS := St.freezeR hrow (hS.perm (List.perm_append_comm_assoc [_, _, _] O _))
    refine ⟨A5, c5, A4, d4, _, rfl, fun φ h => .tail _ (.tail _ h), ?_, hS.drop.drop.drop⟩
    exact fun w' hw => ⟨hw _ (.head _), hw _ (.tail _ (.head _))⟩
  | cons x R =>
    simp only [List.length_cons] at hlen
    have hK' : Und (Flat 1 (intsV h.tr) A4 h.tr.length d4 :: F) (Flat 3 (hcsL K) A2 K.length c2) := hK.tail
    obtain ⟨bk, ok, rfl⟩ := (hS.und hK').some_ (by omega)
    have hx : K[D.length]? = some x := by rw [hD]; simp
    have hcc : ∀ {H'} w', St M w0 H' (Flat 1 (intsV h.tr) A4 h.tr.length d4 :: F) w' → _ := fun w' hS => (hS.und hK').cell hx
    by_cases hk : x.k = 0
    · have hxn : 0 ≤ x.n ∧ x.n ≤ 65536 := by
        unfold goodCs at hgk
        simp only [Bool.and_eq_true, decide_eq_true_eq] at hgk
        have hgc : goodC K.length x R.length = true := by
          cases hq : goodC K.length x R.length with
          | true => rfl
          | false => have := goodL_false (D := D) hq; rw [← hD, hgk.2] at this; cases this
        unfold goodC at hgc
        rw [if_pos hk] at hgc
        simp only [Bool.and_eq_true, decide_eq_true_eq] at hgc
        omega
      have hmv : moved h.cs.length x = ⟨x.k, x.n + (h.cs.length : Nat), x.s⟩ := by unfold moved; rw [if_pos hk]
      refine goes_seq ?_
      refine goes_region ?_
      first
        | refine lst_run (run_lss_yes rfl rfl (by omega)) rfl ?_
        | refine lst_run (run_lss_no rfl rfl (by omega)) rfl ?_
        | refine lst_run (rfl) rfl ?_
      refine lst_done ?_
      refine goes_seq ?_
      refine goes_true rfl ?_
      refine goes_skip ?_
      refine goes_seq ?_
      refine goes_block ?_
      refine goes_seq ?_
      refine goes_region ?_
      refine lst_run (run_indexAddr (sz := 3) rfl rfl rfl rfl (by omega) (by omega)) rfl ?_
      first
        | refine lst_run (run_loadN_own (k := 3) hS rfl rfl rfl (by first | exact .head | exact .tail .head | exact .tail (.tail .head) | exact .tail (.tail (.tail .head)) | exact .tail (.tail (.tail (.tail .head))) | exact .tail (.tail (.tail (.tail (.tail .head))))) (by repeat constructor)) rfl ?_
        | refine lst_run (run_load3 rfl rfl rfl (by first | assumption | exact (hcc _ hS).1 | exact (hcc _ hS).2.1 | exact (hcc _ hS).2.2 | exact hS.cell0 (by assumption)) (by first | assumption | exact (hcc _ hS).1 | exact (hcc _ hS).2.1 | exact (hcc _ hS).2.2 | exact hS.cell0 (by assumption)) (by first | assumption | exact (hcc _ hS).1 | exact (hcc _ hS).2.1 | exact (hcc _ hS).2.2 | exact hS.cell0 (by assumption))) rfl ?_
      refine lst_alloc (cs := [_, _, _]) hS rfl rfl rfl ?_
      clear hS
      intro b4 wx5 hS
      refine lst_storeN hS rfl (by conv => lhs; whnf) rfl rfl (by first | exact .head | exact .tail .head | exact .tail (.tail .head) | exact .tail (.tail (.tail .head)) | exact .tail (.tail (.tail (.tail .head))) | exact .tail (.tail (.tail (.tail (.tail .head))))) (by repeat constructor) (by first | exact .head | exact .tail .head | exact .tail (.tail .head) | exact .tail (.tail (.tail .head)) | exact .tail (.tail (.tail (.tail .head))) | exact .tail (.tail (.tail (.tail (.tail .head))))) ?_
      clear hS
      intro wx6 hS
      refine lst_done ?_
      refine goes_seq ?_
      refine goes_seq ?_
      refine goes_region ?_
      refine lst_run (run_fieldAddr (off := 0) rfl rfl) rfl ?_
      first
        | refine lst_run (run_load1_own hS rfl rfl (by first | exact .head | exact .tail .head | exact .tail (.tail .head) | exact .tail (.tail (.tail .head)) | exact .tail (.tail (.tail (.tail .head))) | exact .tail (.tail (.tail (.tail (.tail .head))))) (by repeat constructor)) rfl ?_
        | refine lst_run (run_load1 rfl rfl (by first | assumption | exact (hcc _ hS).1 | exact (hcc _ hS).2.1 | exact (hcc _ hS).2.2 | exact hS.cell0 (by assumption) | exact lv_next hS | exact lv_list hS)) rfl ?_
      first
        | refine lst_run (run_eql_one_int rfl rfl) rfl ?_
        | refine lst_run (run_eql_no rfl rfl (by first | assumption | omega)) rfl ?_
        | refine lst_run (run_eql_yes rfl rfl (by omega)) rfl ?_
        | refine lst_run (rfl) rfl ?_
      refine lst_done ?_
      refine goes_true rfl ?_
      refine goes_region ?_
      refine lst_run (run_fieldAddr (off := 1) rfl rfl) rfl ?_
      first
        | refine lst_run (run_load1_own hS rfl rfl (by first | exact .head | exact .tail .head | exact .tail (.tail .head) | exact .tail (.tail (.tail .head)) | exact .tail (.tail (.tail (.tail .head))) | exact .tail (.tail (.tail (.tail (.tail .head))))) (by repeat constructor)) rfl ?_
        | refine lst_run (run_load1 rfl rfl (by first | assumption | exact (hcc _ hS).1 | exact (hcc _ hS).2.1 | exact (hcc _ hS).2.2 | exact hS.cell0 (by assumption) | exact lv_next hS | exact lv_list hS)) rfl ?_
      refine lst_run (run_move (by conv => lhs; whnf)) rfl ?_
      refine lst_run (run_add rfl rfl (by omega) (by omega)) rfl ?_
      refine lst_run (run_fieldAddr (off := 1) rfl rfl) rfl ?_
      refine lst_store1 hS rfl (by conv => lhs; whnf) rfl rfl (by first | exact .head | exact .tail .head | exact .tail (.tail .head) | exact .tail (.tail (.tail .head)) | exact .tail (.tail (.tail (.tail .head))) | exact .tail (.tail (.tail (.tail (.tail .head))))) (by repeat constructor) (by first | exact .head | exact .tail .head | exact .tail (.tail .head) | exact .tail (.tail (.tail .head)) | exact .tail (.tail (.tail (.tail .head))) | exact .tail (.tail (.tail (.tail (.tail .head))))) ?_
      clear hS
      intro wx7 hS
      refine lst_done ?_
      refine goes_region ?_
      refine lst_run (run_fieldAddr (off := 0) rfl rfl) rfl ?_
      first
        | refine lst_run (run_load1_own hS rfl rfl (by first | exact .head | exact .tail .head | exact .tail (.tail .head) | exact .tail (.tail (.tail .head)) | exact .tail (.tail (.tail (.tail .head))) | exact .tail (.tail (.tail (.tail (.tail .head))))) (by repeat constructor)) rfl ?_
        | refine lst_run (run_load1 rfl rfl (by first | assumption | exact (hcc _ hS).1 | exact (hcc _ hS).2.1 | exact (hcc _ hS).2.2 | exact hS.cell0 (by assumption) | exact lv_next hS | exact lv_list hS)) rfl ?_
      first
        | refine lst_run (run_loadN_own (k := 3) hS rfl rfl rfl (by first | exact .head | exact .tail .head | exact .tail (.tail .head) | exact .tail (.tail (.tail .head)) | exact .tail (.tail (.tail (.tail .head))) | exact .tail (.tail (.tail (.tail (.tail .head))))) (by repeat constructor)) rfl ?_
        | refine lst_run (run_load3 rfl rfl rfl (by first | assumption | exact (hcc _ hS).1 | exact (hcc _ hS).2.1 | exact (hcc _ hS).2.2 | exact hS.cell0 (by assumption)) (by first | assumption | exact (hcc _ hS).1 | exact (hcc _ hS).2.1 | exact (hcc _ hS).2.2 | exact hS.cell0 (by assumption)) (by first | assumption | exact (hcc _ hS).1 | exact (hcc _ hS).2.1 | exact (hcc _ hS).2.2 | exact hS.cell0 (by assumption))) rfl ?_
      refine lst_buildSlice (cells := [_, _, _]) hS (.cons (by conv => lhs; whnf) .nil) rfl rfl ?_
      clear hS
      intro b5 wx8 hS
      refine lst_appC (L := [⟨x.k, x.n + (h.cs.length : Nat), x.s⟩]) hS (by conv => lhs; whnf) (by rfl) rfl rfl rfl (Flat.own (sp := []) (hS.own (_, _) (.head _)) rfl (Nat.le_refl _)) hrow (List.perm_append_comm_assoc [_, _, _, _, _] O _) (by simp; omega) rfl ?_
      clear hS
      intro v7 O7 w7 hrow7 hS
      obtain ⟨B7, d7, rfl, _⟩ := hrow7.form
      replace hS := hS.perm (List.perm_append_comm_assoc O7 [_, _, _, _, _] _)
      refine lst_run (run_fieldAddr (off := 0) rfl rfl) rfl ?_
      refine lst_store1 hS rfl (by conv => lhs; whnf) rfl rfl (by first | exact .head | exact .tail .head | exact .tail (.tail .head) | exact .tail (.tail (.tail .head)) | exact .tail (.tail (.tail (.tail .head))) | exact .tail (.tail (.tail (.tail (.tail .head))))) (by repeat constructor) (by first | exact .head | exact .tail .head | exact .tail (.tail .head) | exact .tail (.tail (.tail .head)) | exact .tail (.tail (.tail (.tail .head))) | exact .tail (.tail (.tail (.tail (.tail .head))))) ?_
      clear hS
      intro wx9 hS
      refine lst_done ?_
      refine goes_inBlock ?_
      refine goes_region ?_
      refine lst_run (run_add rfl rfl (by omega) (by omega)) rfl ?_
      refine lst_run (run_move (by conv => lhs; whnf)) rfl ?_
      refine lst_done ?_
      have e1 : (h.cs ++ (D ++ [x]).map (moved h.cs.length)) = (h.cs ++ D.map (moved h.cs.length)) ++ [⟨x.k, x.n + (h.cs.length : Nat), x.s⟩] := by simp [hmv]
      have e2 : (h.cs ++ (D ++ [x]).map (moved h.cs.length)).length = (h.cs ++ D.map (moved h.cs.length)).length + [(⟨x.k, x.n + (h.cs.length : Nat), x.s⟩ : HC)].length := by rw [e1, List.length_append]
      refine ih (R) _ _ _ ?_ ?_ (by conv => lhs; whnf) (by kernel_rfl)
      · simp
      · refine ⟨D ++ [x], O7, B7, d7, by rw [hD]; simp, by simp, ?_, ?_⟩
        · rw [e2, e1, hcsL_app]; exact hrow7
        · rw [e2]; exact hS.drop.drop
    · have hmv : moved h.cs.length x = x := by unfold moved; rw [if_neg hk]
      refine goes_seq ?_
      refine goes_region ?_
      first
        | refine lst_run (run_lss_yes rfl rfl (by omega)) rfl ?_
        | refine lst_run (run_lss_no rfl rfl (by omega)) rfl ?_
        | refine lst_run (rfl) rfl ?_
      refine lst_done ?_
      refine goes_seq ?_
      refine goes_true rfl ?_
      refine goes_skip ?_
      refine goes_seq ?_
      refine goes_block ?_
      refine goes_seq ?_
      refine goes_region ?_
      refine lst_run (run_indexAddr (sz := 3) rfl rfl rfl rfl (by omega) (by omega)) rfl ?_
      first
        | refine lst_run (run_loadN_own (k := 3) hS rfl rfl rfl (by first | exact .head | exact .tail .head | exact .tail (.tail .head) | exact .tail (.tail (.tail .head)) | exact .tail (.tail (.tail (.tail .head))) | exact .tail (.tail (.tail (.tail (.tail .head))))) (by repeat constructor)) rfl ?_
        | refine lst_run (run_load3 rfl rfl rfl (by first | assumption | exact (hcc _ hS).1 | exact (hcc _ hS).2.1 | exact (hcc _ hS).2.2 | exact hS.cell0 (by assumption)) (by first | assumption | exact (hcc _ hS).1 | exact (hcc _ hS).2.1 | exact (hcc _ hS).2.2 | exact hS.cell0 (by assumption)) (by first | assumption | exact (hcc _ hS).1 | exact (hcc _ hS).2.1 | exact (hcc _ hS).2.2 | exact hS.cell0 (by assumption))) rfl ?_
      refine lst_alloc (cs := [_, _, _]) hS rfl rfl rfl ?_
      clear hS
      intro b4 wx5 hS
      refine lst_storeN hS rfl (by conv => lhs; whnf) rfl rfl (by first | exact .head | exact .tail .head | exact .tail (.tail .head) | exact .tail (.tail (.tail .head)) | exact .tail (.tail (.tail (.tail .head))) | exact .tail (.tail (.tail (.tail (.tail .head))))) (by repeat constructor) (by first | exact .head | exact .tail .head | exact .tail (.tail .head) | exact .tail (.tail (.tail .head)) | exact .tail (.tail (.tail (.tail .head))) | exact .tail (.tail (.tail (.tail (.tail .head))))) ?_
      clear hS
      intro wx6 hS
      refine lst_done ?_
      refine goes_seq ?_
      refine goes_seq ?_
      refine goes_region ?_
      refine lst_run (run_fieldAddr (off := 0) rfl rfl) rfl ?_
      first
        | refine lst_run (run_load1_own hS rfl rfl (by first | exact .head | exact .tail .head | exact .tail (.tail .head) | exact .tail (.tail (.tail .head)) | exact .tail (.tail (.tail (.tail .head))) | exact .tail (.tail (.tail (.tail (.tail .head))))) (by repeat constructor)) rfl ?_
        | refine lst_run (run_load1 rfl rfl (by first | assumption | exact (hcc _ hS).1 | exact (hcc _ hS).2.1 | exact (hcc _ hS).2.2 | exact hS.cell0 (by assumption) | exact lv_next hS | exact lv_list hS)) rfl ?_
      first
        | refine lst_run (run_eql_one_int rfl rfl) rfl ?_
        | refine lst_run (run_eql_no rfl rfl (by first | assumption | omega)) rfl ?_
        | refine lst_run (run_eql_yes rfl rfl (by omega)) rfl ?_
        | refine lst_run (rfl) rfl ?_
      refine lst_done ?_
      refine goes_false rfl ?_
      refine goes_skip ?_
      refine goes_region ?_
      refine lst_run (run_fieldAddr (off := 0) rfl rfl) rfl ?_
      first
        | refine lst_run (run_load1_own hS rfl rfl (by first | exact .head | exact .tail .head | exact .tail (.tail .head) | exact .tail (.tail (.tail .head)) | exact .tail (.tail (.tail (.tail .head))) | exact .tail (.tail (.tail (.tail (.tail .head))))) (by repeat constructor)) rfl ?_
        | refine lst_run (run_load1 rfl rfl (by first | assumption | exact (hcc _ hS).1 | exact (hcc _ hS).2.1 | exact (hcc _ hS).2.2 | exact hS.cell0 (by assumption) | exact lv_next hS | exact lv_list hS)) rfl ?_
      first
        | refine lst_run (run_loadN_own (k := 3) hS rfl rfl rfl (by first | exact .head | exact .tail .head | exact .tail (.tail .head) | exact .tail (.tail (.tail .head)) | exact .tail (.tail (.tail (.tail .head))) | exact .tail (.tail (.tail (.tail (.tail .head))))) (by repeat constructor)) rfl ?_
        | refine lst_run (run_load3 rfl rfl rfl (by first | assumption | exact (hcc _ hS).1 | exact (hcc _ hS).2.1 | exact (hcc _ hS).2.2 | exact hS.cell0 (by assumption)) (by first | assumption | exact (hcc _ hS).1 | exact (hcc _ hS).2.1 | exact (hcc _ hS).2.2 | exact hS.cell0 (by assumption)) (by first | assumption | exact (hcc _ hS).1 | exact (hcc _ hS).2.1 | exact (hcc _ hS).2.2 | exact hS.cell0 (by assumption))) rfl ?_
      refine lst_buildSlice (cells := [_, _, _]) hS (.cons (by conv => lhs; whnf) .nil) rfl rfl ?_
      clear hS
      intro b5 wx7 hS
      refine lst_appC (L := [x]) hS (by conv => lhs; whnf) (by rfl) rfl rfl rfl (Flat.own (sp := []) (hS.own (_, _) (.head _)) rfl (Nat.le_refl _)) hrow (List.perm_append_comm_assoc [_, _, _, _, _] O _) (by simp; omega) rfl ?_
      clear hS
      intro v7 O7 w7 hrow7 hS
      obtain ⟨B7, d7, rfl, _⟩ := hrow7.form
      replace hS := hS.perm (List.perm_append_comm_assoc O7 [_, _, _, _, _] _)
      refine lst_run (run_fieldAddr (off := 0) rfl rfl) rfl ?_
      refine lst_store1 hS rfl (by conv => lhs; whnf) rfl rfl (by first | exact .head | exact .tail .head | exact .tail (.tail .head) | exact .tail (.tail (.tail .head)) | exact .tail (.tail (.tail (.tail .head))) | exact .tail (.tail (.tail (.tail (.tail .head))))) (by repeat constructor) (by first | exact .head | exact .tail .head | exact .tail (.tail .head) | exact .tail (.tail (.tail .head)) | exact .tail (.tail (.tail (.tail .head))) | exact .tail (.tail (.tail (.tail (.tail .head))))) ?_
      clear hS
      intro wx8 hS
      refine lst_done ?_
      refine goes_inBlock ?_
      refine goes_region ?_
      refine lst_run (run_add rfl rfl (by omega) (by omega)) rfl ?_
      refine lst_run (run_move (by conv => lhs; whnf)) rfl ?_
      refine lst_done ?_
      have e1 : (h.cs ++ (D ++ [x]).map (moved h.cs.length)) = (h.cs ++ D.map (moved h.cs.length)) ++ [x] := by simp [hmv]
      have e2 : (h.cs ++ (D ++ [x]).map (moved h.cs.length)).length = (h.cs ++ D.map (moved h.cs.length)).length + [x].length := by rw [e1, List.length_append]
      refine ih (R) _ _ _ ?_ ?_ (by conv => lhs; whnf) (by kernel_rfl)
      · simp
      · refine ⟨D ++ [x], O7, B7, d7, by rw [hD]; simp, by simp, ?_, ?_⟩
        · rw [e2, e1, hcsL_app]; exact hrow7
        · rw [e2]; exact hS.drop.drop
end
end Go.Proofs.Ytjicoifjgokoiaa
namespace Go.Proofs.Ytjicoifjgokoiaa
open Go.RowKit
set_option linter.unusedVariables false
set_option linter.unusedSimpArgs false
set_option maxRecDepth 100000
set_option maxHeartbeats 1000000

theorem loadH_len (h : HH) (K : List HC) : (loadH h K).1.cs.length ≤ h.cs.length + K.length ∧ (loadH h K).1.tr = h.tr := by
  unfold loadH
  split
  · exact ⟨by simp, rfl⟩
  · split
    · exact ⟨by simp, rfl⟩
    · exact ⟨by simp, rfl⟩
theorem heapLoads_any (h : HH) (K : List HC) (A B A2 : Option Addr) (c d c2 : Nat) (w : World) (hH : HFl h A c B d w) (hK : Flat 3 (hcsL K) A2 K.length c2 w) (hl1 : h.cs.length ≤ 1048576) (hl2 : h.tr.length ≤ 1048576) (hlk : K.length ≤ 1048576) :
    Calls Try.prog 8 #[hv h A c B d, .slice A2 K.length c2] w fun e w' => e = .returned (.bool true) ∧ Below w.heap.size w w' := by
  have hS := ((St.start w).base (φ := HFl h A c B d) fun w' hx => hH.ext hx).flat (M := []) hK
  have hHu : Und [Flat 3 (hcsL K) A2 K.length c2, HFl h A c B d] (HFl h A c B d) := Und.head.tail
  have hKu : Und [Flat 3 (hcsL K) A2 K.length c2, HFl h A c B d] (Flat 3 (hcsL K) A2 K.length c2) := Und.head
  refine goes_enter2 Try.func8 rfl Try.ntmps8 rfl ?_
  refine goes_seq ?_
  refine goes_region ?_
  refine lst_box hS rfl rfl ?_
  clear hS
  intro b1 wx1 hS
  refine lst_run (run_assign (by conv => lhs; whnf)) rfl ?_
  refine lst_done ?_
  refine goes_seq ?_
  refine goes_region ?_
  first
    | refine lst_run (run_loadN_own (k := 2) hS rfl rfl rfl (by first | exact .head | exact .tail .head | exact .tail (.tail .head) | exact .tail (.tail (.tail .head)) | exact .tail (.tail (.tail (.tail .head))) | exact .tail (.tail (.tail (.tail (.tail .head))))) (by repeat constructor)) rfl ?_
    | refine lst_run (run_load2 rfl rfl rfl (by first | assumption | exact hS.cell0 (by assumption)) (by first | assumption | exact hS.cell0 (by assumption))) rfl ?_
  refine lst_enter (run_call (by kernel_rfl) (args_1 (by conv => lhs; whnf))) rfl ?_
  refine Calls.mono (copyHeap_kept h A B c d _ hHu (by omega) (by omega) hS) ?_
  rintro _ w2 ⟨A3, c3, B3, d3, F3, rfl, hF3, hH3, hS'⟩
  refine ⟨_, rfl, ?_⟩
  replace hS := hS'
  clear hS'
  refine lst_alloc (cs := [_, _]) hS rfl rfl rfl ?_
  clear hS
  intro b2 wx2 hS
  refine lst_storeN hS rfl (by conv => lhs; whnf) rfl rfl (by first | exact .head | exact .tail .head | exact .tail (.tail .head) | exact .tail (.tail (.tail .head)) | exact .tail (.tail (.tail (.tail .head))) | exact .tail (.tail (.tail (.tail (.tail .head))))) (by repeat constructor) (by first | exact .head | exact .tail .head | exact .tail (.tail .head) | exact .tail (.tail (.tail .head)) | exact .tail (.tail (.tail (.tail .head))) | exact .tail (.tail (.tail (.tail (.tail .head))))) ?_
  clear hS
  intro wx3 hS
  refine lst_done ?_
  refine goes_seq ?_
  obtain ⟨hq1, hq2⟩ := loadH_len h K
  refine goes_meet3 6 7 8 (15 :: 16 :: 17 :: 18 :: 14 :: 19 :: 20 :: 21 :: []) (fun v v2 v3 w' => ∃ b3 A5 c5 B5 d5 F5, v = .pointer (some ⟨b3, 0, none⟩) ∧ v2 = .int .i64 ((loadH h K).2.1 : Nat) ∧ v3 = .int .i64 (loadH h K).2.2 ∧ (∀ φ ∈ F3, φ ∈ F5) ∧ Und F5 (HFl (loadH h K).1 A5 c5 B5 d5) ∧ St [] w ((b3, hob A5 (loadH h K).1.cs.length c5 B5 (loadH h K).1.tr.length d5) :: (b2, hob A3 h.cs.length c3 B3 h.tr.length d3) :: (b1, hob A h.cs.length c B h.tr.length d) :: []) F5 w') ?_ ?_
  · intro hmeet
    refine goes_plan (St _ _ _ _) 12 (.read 0 (.read 1 (.pick 2 (.pick 3 (.read 4 (.read 5 (.read 6 (.read 7 (.pick 8 (.pick 9 (.read 10 (.read 11 .tail)) .none) .none))))) (.pick 8 (.pick 3 (.read 4 (.read 5 (.read 6 (.read 7 (.pick 9 (.read 10 (.read 11 .tail)) .none))))) .none) .none)) (.pick 8 (.pick 2 (.pick 3 (.read 4 (.read 5 (.read 6 (.read 7 (.pick 9 (.read 10 (.read 11 .tail)) .none))))) .none) .none) .none)))) (by kernel_rfl) (by kernel_rfl) hS.drew ?_
    replace hS := hS.drew
    first
      | refine pln_read rfl (fun _ hS => run_loadN_own (k := 2) hS rfl rfl rfl (by first | exact .head | exact .tail .head | exact .tail (.tail .head) | exact .tail (.tail (.tail .head)) | exact .tail (.tail (.tail (.tail .head))) | exact .tail (.tail (.tail (.tail (.tail .head))))) (by repeat constructor)) rfl ?_
      | refine pln_read rfl (fun _ hS => run_load2 rfl rfl rfl (by first | assumption | exact hS.cell0 (by assumption)) (by first | assumption | exact hS.cell0 (by assumption))) rfl ?_
    refine pln_read rfl (fun _ hS => run_move (by conv => lhs; whnf)) rfl ?_
    refine pln_pick rfl ?_ ?_
    · refine lst_appC (xs := []) (O := []) hS (by conv => lhs; whnf) (by conv => lhs; whnf) rfl rfl rfl (hS.und (hKu.mono hF3)) Rw.zero_ (.refl _) (by omega) rfl ?_
      clear hS
      intro v4 O4 w4 hrow4 hS
      rw [Nat.zero_add, List.nil_append] at hrow4
      obtain ⟨A4, c4, rfl, _⟩ := hrow4.form
      replace hS := St.freezeR hrow4 hS
      refine lst_pln (by first | exact hS | exact hS.drop | exact hS.drop.drop | exact hS.drop.drop.drop | exact hS.unlearn | exact hS.unlearn.drop | exact hS.unlearn.drop.drop | exact hS.forget (fun φ h => hF5 φ (.tail _ h)) | exact hS.drop.forget (fun φ h => hF5 φ (.tail _ h))) ?_
      refine pln_pick rfl ?_ ?_
      · refine lst_enter (run_call (by kernel_rfl) (args_2 (by conv => lhs; whnf) (by conv => lhs; whnf))) rfl ?_
        refine Calls.mono (load_any h K A3 B3 A4 c3 d3 c4 _ hH3.tail Und.head hS) ?_
        rintro _ w5 ⟨A5, c5, B5, d5, F5, rfl, hF5, hH5, hS'⟩
        refine ⟨_, rfl, ?_⟩
        replace hS := hS'
        clear hS'
        refine lst_pln (by first | exact hS | exact hS.drop | exact hS.drop.drop | exact hS.drop.drop.drop | exact hS.unlearn | exact hS.unlearn.drop | exact hS.unlearn.drop.drop | exact hS.forget (fun φ h => hF5 φ (.tail _ h)) | exact hS.drop.forget (fun φ h => hF5 φ (.tail _ h))) ?_
        refine pln_read rfl (fun _ hS => run_move (by conv => lhs; whnf)) rfl ?_
        refine pln_read rfl (fun _ hS => run_extract rfl rfl) rfl ?_
        refine pln_read rfl (fun _ hS => run_extract rfl rfl) rfl ?_
        refine pln_read rfl (fun _ hS => run_extract rfl rfl) rfl ?_
        refine pln_last rfl ?_
        refine lst_alloc (cs := [_, _]) hS rfl rfl rfl ?_
        clear hS
        intro b3 wx4 hS
        refine lst_pln (by first | exact hS | exact hS.drop | exact hS.drop.drop | exact hS.drop.drop.drop | exact hS.unlearn | exact hS.unlearn.drop | exact hS.unlearn.drop.drop | exact hS.forget (fun φ h => hF5 φ (.tail _ h)) | exact hS.drop.forget (fun φ h => hF5 φ (.tail _ h))) ?_
        refine pln_last rfl ?_
        refine lst_storeN hS rfl (by conv => lhs; whnf) rfl rfl (by first | exact .head | exact .tail .head | exact .tail (.tail .head) | exact .tail (.tail (.tail .head)) | exact .tail (.tail (.tail (.tail .head))) | exact .tail (.tail (.tail (.tail (.tail .head))))) (by repeat constructor) (by first | exact .head | exact .tail .head | exact .tail (.tail .head) | exact .tail (.tail (.tail .head)) | exact .tail (.tail (.tail (.tail .head))) | exact .tail (.tail (.tail (.tail (.tail .head))))) ?_
        clear hS
        intro wx5 hS
        refine lst_pln (by first | exact hS | exact hS.drop | exact hS.drop.drop | exact hS.drop.drop.drop | exact hS.unlearn | exact hS.unlearn.drop | exact hS.unlearn.drop.drop | exact hS.forget (fun φ h => hF5 φ (.tail _ h)) | exact hS.drop.forget (fun φ h => hF5 φ (.tail _ h))) ?_
        refine pln_read rfl (fun _ hS => run_assign (by conv => lhs; whnf)) rfl ?_
        refine pln_read rfl (fun _ hS => run_assign (by conv => lhs; whnf)) rfl ?_
        refine pln_tail ?_
        refine lst_done ?_
        exact hmeet _ _ _ _ _ ⟨_, A5, c5, B5, d5, F5, rfl, rfl, rfl, fun φ h => hF5 φ (.tail _ h), hH5, hS⟩ (by conv => lhs; whnf) (by conv => lhs; whnf) (by conv => lhs; whnf) (by kernel_rfl)
      refine pln_last rfl ?_
      refine lst_alloc (cs := [_, _]) hS rfl rfl rfl ?_
      clear hS
      intro b4 wx6 hS
      refine lst_pln (by first | exact hS | exact hS.drop | exact hS.drop.drop | exact hS.drop.drop.drop | exact hS.unlearn | exact hS.unlearn.drop | exact hS.unlearn.drop.drop | exact hS.forget (fun φ h => hF5 φ (.tail _ h)) | exact hS.drop.forget (fun φ h => hF5 φ (.tail _ h))) ?_
      refine pln_last rfl ?_
      refine lst_enter (run_call (by kernel_rfl) (args_2 (by conv => lhs; whnf) (by conv => lhs; whnf))) rfl ?_
      refine Calls.mono (load_any h K A3 B3 A4 c3 d3 c4 _ hH3.tail Und.head hS) ?_
      rintro _ w5 ⟨A5, c5, B5, d5, F5, rfl, hF5, hH5, hS'⟩
      refine ⟨_, rfl, ?_⟩
      replace hS := hS'
      clear hS'
      refine lst_pln (by first | exact hS | exact hS.drop | exact hS.drop.drop | exact hS.drop.drop.drop | exact hS.unlearn | exact hS.unlearn.drop | exact hS.unlearn.drop.drop | exact hS.forget (fun φ h => hF5 φ (.tail _ h)) | exact hS.drop.forget (fun φ h => hF5 φ (.tail _ h))) ?_
      refine pln_read rfl (fun _ hS => run_move (by conv => lhs; whnf)) rfl ?_
      refine pln_read rfl (fun _ hS => run_extract rfl rfl) rfl ?_
      refine pln_read rfl (fun _ hS => run_extract rfl rfl) rfl ?_
      refine pln_read rfl (fun _ hS => run_extract rfl rfl) rfl ?_
      refine pln_last rfl ?_
      refine lst_storeN hS rfl (by conv => lhs; whnf) rfl rfl (by first | exact .head | exact .tail .head | exact .tail (.tail .head) | exact .tail (.tail (.tail .head)) | exact .tail (.tail (.tail (.tail .head))) | exact .tail (.tail (.tail (.tail (.tail .head))))) (by repeat constructor) (by first | exact .head | exact .tail .head | exact .tail (.tail .head) | exact .tail (.tail (.tail .head)) | exact .tail (.tail (.tail (.tail .head))) | exact .tail (.tail (.tail (.tail (.tail .head))))) ?_
      clear hS
      intro wx7 hS
      refine lst_pln (by first | exact hS | exact hS.drop | exact hS.drop.drop | exact hS.drop.drop.drop | exact hS.unlearn | exact hS.unlearn.drop | exact hS.unlearn.drop.drop | exact hS.forget (fun φ h => hF5 φ (.tail _ h)) | exact hS.drop.forget (fun φ h => hF5 φ (.tail _ h))) ?_
      refine pln_read rfl (fun _ hS => run_assign (by conv => lhs; whnf)) rfl ?_
      refine pln_read rfl (fun _ hS => run_assign (by conv => lhs; whnf)) rfl ?_
      refine pln_tail ?_
      refine lst_done ?_
      exact hmeet _ _ _ _ _ ⟨_, A5, c5, B5, d5, F5, rfl, rfl, rfl, fun φ h => hF5 φ (.tail _ h), hH5, hS⟩ (by conv => lhs; whnf) (by conv => lhs; whnf) (by conv => lhs; whnf) (by kernel_rfl)
    refine pln_last rfl ?_
    refine lst_alloc (cs := [_, _]) hS rfl rfl rfl ?_
    clear hS
    intro b5 wx8 hS
    refine lst_pln (by first | exact hS | exact hS.drop | exact hS.drop.drop | exact hS.drop.drop.drop | exact hS.unlearn | exact hS.unlearn.drop | exact hS.unlearn.drop.drop | exact hS.forget (fun φ h => hF5 φ (.tail _ h)) | exact hS.drop.forget (fun φ h => hF5 φ (.tail _ h))) ?_
    refine pln_last rfl ?_
    refine lst_appC (xs := []) (O := []) hS (by conv => lhs; whnf) (by conv => lhs; whnf) rfl rfl rfl (hS.und (hKu.mono hF3)) Rw.zero_ (.refl _) (by omega) rfl ?_
    clear hS
    intro v4 O4 w4 hrow4 hS
    rw [Nat.zero_add, List.nil_append] at hrow4
    obtain ⟨A4, c4, rfl, _⟩ := hrow4.form
    replace hS := St.freezeR hrow4 hS
    refine lst_pln (by first | exact hS | exact hS.drop | exact hS.drop.drop | exact hS.drop.drop.drop | exact hS.unlearn | exact hS.unlearn.drop | exact hS.unlearn.drop.drop | exact hS.forget (fun φ h => hF5 φ (.tail _ h)) | exact hS.drop.forget (fun φ h => hF5 φ (.tail _ h))) ?_
    refine pln_last rfl ?_
    refine lst_enter (run_call (by kernel_rfl) (args_2 (by conv => lhs; whnf) (by conv => lhs; whnf))) rfl ?_
    refine Calls.mono (load_any h K A3 B3 A4 c3 d3 c4 _ hH3.tail Und.head hS) ?_
    rintro _ w5 ⟨A5, c5, B5, d5, F5, rfl, hF5, hH5, hS'⟩
    refine ⟨_, rfl, ?_⟩
    replace hS := hS'
    clear hS'
    refine lst_pln (by first | exact hS | exact hS.drop | exact hS.drop.drop | exact hS.drop.drop.drop | exact hS.unlearn | exact hS.unlearn.drop | exact hS.unlearn.drop.drop | exact hS.forget (fun φ h => hF5 φ (.tail _ h)) | exact hS.drop.forget (fun φ h => hF5 φ (.tail _ h))) ?_
    refine pln_read rfl (fun _ hS => run_move (by conv => lhs; whnf)) rfl ?_
    refine pln_read rfl (fun _ hS => run_extract rfl rfl) rfl ?_
    refine pln_read rfl (fun _ hS => run_extract rfl rfl) rfl ?_
    refine pln_read rfl (fun _ hS => run_extract rfl rfl) rfl ?_
    refine pln_last rfl ?_
    refine lst_storeN hS rfl (by conv => lhs; whnf) rfl rfl (by first | exact .head | exact .tail .head | exact .tail (.tail .head) | exact .tail (.tail (.tail .head)) | exact .tail (.tail (.tail (.tail .head))) | exact .tail (.tail (.tail (.tail (.tail .head))))) (by repeat constructor) (by first | exact .head | exact .tail .head | exact .tail (.tail .head) | exact .tail (.tail (.tail .head)) | exact .tail (.tail (.tail (.tail .head))) | exact .tail (.tail (.tail (.tail (.tail .head))))) ?_
    clear hS
    intro wx9 hS
    refine lst_pln (by first | exact hS | exact hS.drop | exact hS.drop.drop | exact hS.drop.drop.drop | exact hS.unlearn | exact hS.unlearn.drop | exact hS.unlearn.drop.drop | exact hS.forget (fun φ h => hF5 φ (.tail _ h)) | exact hS.drop.forget (fun φ h => hF5 φ (.tail _ h))) ?_
    refine pln_read rfl (fun _ hS => run_assign (by conv => lhs; whnf)) rfl ?_
    refine pln_read rfl (fun _ hS => run_assign (by conv => lhs; whnf)) rfl ?_
    refine pln_tail ?_
    refine lst_done ?_
    exact hmeet _ _ _ _ _ ⟨_, A5, c5, B5, d5, F5, rfl, rfl, rfl, fun φ h => hF5 φ (.tail _ h), hH5, hS⟩ (by conv => lhs; whnf) (by conv => lhs; whnf) (by conv => lhs; whnf) (by kernel_rfl)
  clear hS
  rintro jv _ _ _ w5 ⟨b3, A5, c5, B5, d5, F5, rfl, rfl, rfl, hFa, hH5, hS⟩
  refine goes_seq ?_
  refine goes_region ?_
  first
    | refine lst_run (run_loadN_own (k := 2) hS rfl rfl rfl (by first | exact .head | exact .tail .head | exact .tail (.tail .head) | exact .tail (.tail (.tail .head)) | exact .tail (.tail (.tail (.tail .head))) | exact .tail (.tail (.tail (.tail (.tail .head))))) (by repeat constructor)) rfl ?_
    | refine lst_run (run_load2 rfl rfl rfl (by first | assumption | exact hS.cell0 (by assumption)) (by first | assumption | exact hS.cell0 (by assumption))) rfl ?_
  refine lst_run (run_move (by conv => lhs; whnf)) rfl ?_
  refine lst_enter (run_call (by kernel_rfl) (args_2 (by conv => lhs; whnf) (by conv => lhs; whnf))) rfl ?_
  refine Calls.mono (loadBlock_any h K A B A2 c d c2 _ (hHu.mono fun φ h => hFa φ (hF3 φ h)) (hKu.mono fun φ h => hFa φ (hF3 φ h)) hS) ?_
  rintro _ w6 ⟨A6, c6, B6, d6, F6, rfl, hF6, hH6, hS'⟩
  refine ⟨_, rfl, ?_⟩
  replace hS := hS'
  clear hS'
  have hHz : Und F6 (HFl h A c B d) := hHu.mono fun φ h => hF6 φ (hFa φ (hF3 φ h))
  have hH3z : Und F6 (HFl h A3 c3 B3 d3) := hH3.mono fun φ h => hF6 φ (hFa φ h)
  have hH5z := hH5.mono hF6
  generalize hr : loadH h K = r at *
  obtain ⟨x, base, e⟩ := r
  dsimp only at *
  rw [← hq2] at hl2
  refine lst_run (run_move (by conv => lhs; whnf)) rfl ?_
  refine lst_run (run_extract rfl rfl) rfl ?_
  refine lst_run (run_extract rfl rfl) rfl ?_
  refine lst_run (run_extract rfl rfl) rfl ?_
  refine lst_alloc (cs := [_, _]) hS rfl rfl rfl ?_
  clear hS
  intro b6 wx10 hS
  refine lst_storeN hS rfl (by conv => lhs; whnf) rfl rfl (by first | exact .head | exact .tail .head | exact .tail (.tail .head) | exact .tail (.tail (.tail .head)) | exact .tail (.tail (.tail (.tail .head))) | exact .tail (.tail (.tail (.tail (.tail .head))))) (by repeat constructor) (by first | exact .head | exact .tail .head | exact .tail (.tail .head) | exact .tail (.tail (.tail .head)) | exact .tail (.tail (.tail (.tail .head))) | exact .tail (.tail (.tail (.tail (.tail .head))))) ?_
  clear hS
  intro wx11 hS
  refine lst_run (run_assign (by conv => lhs; whnf)) rfl ?_
  refine lst_run (run_assign (by conv => lhs; whnf)) rfl ?_
  refine lst_done ?_
  refine goes_seq ?_
  refine goes_draw (St _ _ _ _) 29 ((0, true) :: (1, true) :: (2, false) :: (3, true) :: (4, true) :: (5, true) :: (6, true) :: (7, true) :: (8, true) :: (9, true) :: (10, true) :: (11, true) :: (12, true) :: (13, true) :: (14, true) :: (16, true) :: (15, false) :: (17, false) :: (18, true) :: (19, true) :: (20, true) :: (21, true) :: (22, true) :: (23, false) :: (24, true) :: (25, true) :: (26, false) :: (27, true) :: (28, true) :: []) (by kernel_rfl) (by kernel_rfl) (hS.drew) ?_
  replace hS := hS.drew
  first
    | refine ord_read rfl (fun _ hS => run_loadN_own (k := 2) hS rfl rfl rfl (by first | exact .head | exact .tail .head | exact .tail (.tail .head) | exact .tail (.tail (.tail .head)) | exact .tail (.tail (.tail (.tail .head))) | exact .tail (.tail (.tail (.tail (.tail .head))))) (by repeat constructor)) rfl ?_
    | refine ord_read rfl (fun _ hS => run_load2 rfl rfl rfl (by first | assumption | exact hS.cell0 (by assumption)) (by first | assumption | exact hS.cell0 (by assumption))) rfl ?_
  first
    | refine ord_read rfl (fun _ hS => run_loadN_own (k := 2) hS rfl rfl rfl (by first | exact .head | exact .tail .head | exact .tail (.tail .head) | exact .tail (.tail (.tail .head)) | exact .tail (.tail (.tail (.tail .head))) | exact .tail (.tail (.tail (.tail (.tail .head))))) (by repeat constructor)) rfl ?_
    | refine ord_read rfl (fun _ hS => run_load2 rfl rfl rfl (by first | assumption | exact hS.cell0 (by assumption)) (by first | assumption | exact hS.cell0 (by assumption))) rfl ?_
  refine ord_act rfl ?_
  refine lst_enter (run_call (by kernel_rfl) (args_2 (by conv => lhs; whnf) (by conv => lhs; whnf))) rfl ?_
  refine Calls.mono (sameHeap_eq x A5 B5 A6 B6 c5 d5 c6 d6 _ (hS.und hH5z) (hS.und hH6) (by omega) (by omega)) ?_
  rintro _ w7 ⟨rfl, hb7⟩
  refine ⟨_, rfl, ?_⟩
  replace hS := hS.grow hb7
  refine lst_ord (by first | exact hS | exact hS.drop | exact hS.drop.drop | exact hS.drop.drop.drop | exact hS.unlearn | exact hS.unlearn.drop | exact hS.unlearn.drop.drop | exact hS.forget (by assumption) | exact hS.drop.forget (by assumption)) ?_
  refine ord_read rfl (fun _ hS => run_move (by conv => lhs; whnf)) rfl ?_
  refine ord_readG rfl rfl rfl (fun _ hS => run_move (by conv => lhs; whnf)) rfl ?_
  refine ord_readG rfl rfl rfl (fun _ hS => run_move (by conv => lhs; whnf)) rfl ?_
  first
    | refine ord_readG rfl rfl rfl (fun _ hS => run_eql_one_int rfl rfl) rfl ?_
    | refine ord_readG rfl rfl rfl (fun _ hS => run_eql_no rfl rfl (by first | assumption | omega)) rfl ?_
    | refine ord_readG rfl rfl rfl (fun _ hS => run_eql_yes rfl rfl (by omega)) rfl ?_
    | refine ord_readG rfl rfl rfl (fun _ hS => rfl) rfl ?_
  first
    | refine ord_read rfl (fun _ hS => run_pick_t rfl (by conv => lhs; whnf)) rfl ?_
    | refine ord_read rfl (fun _ hS => run_pick_f rfl (by conv => lhs; whnf)) rfl ?_
  refine ord_read rfl (fun _ hS => run_move (by conv => lhs; whnf)) rfl ?_
  refine ord_readG rfl rfl rfl (fun _ hS => run_move (by conv => lhs; whnf)) rfl ?_
  refine ord_readG rfl rfl rfl (fun _ hS => run_move (by conv => lhs; whnf)) rfl ?_
  first
    | refine ord_readG rfl rfl rfl (fun _ hS => run_eql_one_int rfl rfl) rfl ?_
    | refine ord_readG rfl rfl rfl (fun _ hS => run_eql_no rfl rfl (by first | assumption | omega)) rfl ?_
    | refine ord_readG rfl rfl rfl (fun _ hS => run_eql_yes rfl rfl (by omega)) rfl ?_
    | refine ord_readG rfl rfl rfl (fun _ hS => rfl) rfl ?_
  first
    | refine ord_read rfl (fun _ hS => run_pick_t rfl (by conv => lhs; whnf)) rfl ?_
    | refine ord_read rfl (fun _ hS => run_pick_f rfl (by conv => lhs; whnf)) rfl ?_
  refine ord_read rfl (fun _ hS => run_move (by conv => lhs; whnf)) rfl ?_
  first
    | refine ord_readG rfl rfl rfl (fun _ hS => run_loadN_own (k := 2) hS rfl rfl rfl (by first | exact .head | exact .tail .head | exact .tail (.tail .head) | exact .tail (.tail (.tail .head)) | exact .tail (.tail (.tail (.tail .head))) | exact .tail (.tail (.tail (.tail (.tail .head))))) (by repeat constructor)) rfl ?_
    | refine ord_readG rfl rfl rfl (fun _ hS => run_load2 rfl rfl rfl (by first | assumption | exact hS.cell0 (by assumption)) (by first | assumption | exact hS.cell0 (by assumption))) rfl ?_
  first
    | refine ord_readG rfl rfl rfl (fun _ hS => run_loadN_own (k := 2) hS rfl rfl rfl (by first | exact .head | exact .tail .head | exact .tail (.tail .head) | exact .tail (.tail (.tail .head)) | exact .tail (.tail (.tail (.tail .head))) | exact .tail (.tail (.tail (.tail (.tail .head))))) (by repeat constructor)) rfl ?_
    | refine ord_readG rfl rfl rfl (fun _ hS => run_load2 rfl rfl rfl (by first | assumption | exact hS.cell0 (by assumption)) (by first | assumption | exact hS.cell0 (by assumption))) rfl ?_
  refine ord_act rfl ?_
  refine lst_guard rfl rfl ?_
  refine lst_enter (run_call (by kernel_rfl) (args_1 (by conv => lhs; whnf))) rfl ?_
  refine Calls.mono (good_any h A3 B3 c3 d3 _ (hS.und hH3z)) ?_
  rintro _ w8 ⟨rfl, hb8⟩
  refine ⟨_, rfl, ?_⟩
  replace hS := hS.grow hb8
  refine lst_ord (by first | exact hS | exact hS.drop | exact hS.drop.drop | exact hS.drop.drop.drop | exact hS.unlearn | exact hS.unlearn.drop | exact hS.unlearn.drop.drop | exact hS.forget (by assumption) | exact hS.drop.forget (by assumption)) ?_
  refine ord_act rfl ?_
  refine lst_guard rfl rfl ?_
  refine lst_enter (run_call (by kernel_rfl) (args_1 (by conv => lhs; whnf))) rfl ?_
  refine Calls.mono (isHeap_any h A B c d _ (hS.und hHz)) ?_
  rintro _ w9 ⟨rfl, hb9⟩
  refine ⟨_, rfl, ?_⟩
  replace hS := hS.grow hb9
  refine lst_ord (by first | exact hS | exact hS.drop | exact hS.drop.drop | exact hS.drop.drop.drop | exact hS.unlearn | exact hS.unlearn.drop | exact hS.unlearn.drop.drop | exact hS.forget (by assumption) | exact hS.drop.forget (by assumption)) ?_
  first
    | refine ord_readG rfl rfl rfl (fun _ hS => run_eql_one rfl rfl rfl) rfl ?_
    | refine ord_readG rfl rfl rfl (fun _ hS => run_eql_bool rfl rfl rfl) rfl ?_
  first
    | refine ord_read rfl (fun _ hS => run_pick_t rfl (by conv => lhs; whnf)) rfl ?_
    | refine ord_read rfl (fun _ hS => run_pick_f rfl (by conv => lhs; whnf)) rfl ?_
  refine ord_read rfl (fun _ hS => run_move (by conv => lhs; whnf)) rfl ?_
  first
    | refine ord_readG rfl rfl rfl (fun _ hS => run_loadN_own (k := 2) hS rfl rfl rfl (by first | exact .head | exact .tail .head | exact .tail (.tail .head) | exact .tail (.tail (.tail .head)) | exact .tail (.tail (.tail (.tail .head))) | exact .tail (.tail (.tail (.tail (.tail .head))))) (by repeat constructor)) rfl ?_
    | refine ord_readG rfl rfl rfl (fun _ hS => run_load2 rfl rfl rfl (by first | assumption | exact hS.cell0 (by assumption)) (by first | assumption | exact hS.cell0 (by assumption))) rfl ?_
  first
    | refine ord_readG rfl rfl rfl (fun _ hS => run_loadN_own (k := 2) hS rfl rfl rfl (by first | exact .head | exact .tail .head | exact .tail (.tail .head) | exact .tail (.tail (.tail .head)) | exact .tail (.tail (.tail (.tail .head))) | exact .tail (.tail (.tail (.tail (.tail .head))))) (by repeat constructor)) rfl ?_
    | refine ord_readG rfl rfl rfl (fun _ hS => run_load2 rfl rfl rfl (by first | assumption | exact hS.cell0 (by assumption)) (by first | assumption | exact hS.cell0 (by assumption))) rfl ?_
  refine ord_act rfl ?_
  refine lst_guard rfl rfl ?_
  refine lst_enter (run_call (by kernel_rfl) (args_2 (by conv => lhs; whnf) (by conv => lhs; whnf))) rfl ?_
  refine Calls.mono (sameHeap_eq h A3 B3 A B c3 d3 c d _ (hS.und hH3z) (hS.und hHz) (by omega) (by rw [hq2] at hl2; omega)) ?_
  rintro _ w10 ⟨rfl, hb10⟩
  refine ⟨_, rfl, ?_⟩
  replace hS := hS.grow hb10
  refine lst_ord (by first | exact hS | exact hS.drop | exact hS.drop.drop | exact hS.drop.drop.drop | exact hS.unlearn | exact hS.unlearn.drop | exact hS.unlearn.drop.drop | exact hS.forget (by assumption) | exact hS.drop.forget (by assumption)) ?_
  first
    | refine ord_read rfl (fun _ hS => run_pick_t rfl (by conv => lhs; whnf)) rfl ?_
    | refine ord_read rfl (fun _ hS => run_pick_f rfl (by conv => lhs; whnf)) rfl ?_
  refine ord_read rfl (fun _ hS => run_move (by conv => lhs; whnf)) rfl ?_
  refine ord_act rfl ?_
  refine lst_guard rfl rfl ?_
  refine lst_enter (run_call (by kernel_rfl) args_nil) rfl ?_
  refine Calls.mono (heapsL_any _) ?_
  rintro _ w11 ⟨rfl, hb11⟩
  refine ⟨_, rfl, ?_⟩
  replace hS := hS.grow hb11
  refine lst_ord (by first | exact hS | exact hS.drop | exact hS.drop.drop | exact hS.drop.drop.drop | exact hS.unlearn | exact hS.unlearn.drop | exact hS.unlearn.drop.drop | exact hS.forget (by assumption) | exact hS.drop.forget (by assumption)) ?_
  first
    | refine ord_read rfl (fun _ hS => run_pick_t rfl (by conv => lhs; whnf)) rfl ?_
    | refine ord_read rfl (fun _ hS => run_pick_f rfl (by conv => lhs; whnf)) rfl ?_
  refine ord_read rfl (fun _ hS => run_assign (by conv => lhs; whnf)) rfl ?_
  refine ord_end ?_
  refine lst_done ?_
  refine goes_ret1 Try.func8 rfl (by conv => lhs; whnf) ?_
  exact ⟨rfl, hS.ext.below⟩
end Go.Proofs.Ytjicoifjgokoiaa
namespace Go.Proofs.Ytjicoifjgokoiaa
open Go.RowKit Go.ChangeShapes Go.WideShapes Go.ChangeAt
set_option maxRecDepth 100000

theorem Try.laidOut : laidOutB Try.prog = true := by kernel_rfl
theorem Try.own : ownKnob Try.prog.godebug = none := by kernel_rfl
theorem cells_term : Try.prog.cellsOf 24 = 4 := by kernel_rfl
theorem cells_int : Try.prog.cellsOf 3 = 1 := by kernel_rfl
theorem cells_string : Try.prog.cellsOf 9 = 1 := by kernel_rfl
theorem cells_terms : Try.prog.cellsOf 22 = 1 := by kernel_rfl

section
variable {H : Type} {enc : TypeId × Value → H} {w : World} {base : Nat} {spare : Nat → Bool} {held : Bool}

theorem bulk_pos (d : DataW H) : 1 ≤ Rows.uptoBulk d := by
  cases d with
  | lit l => cases l <;> simp [Rows.uptoBulk]
  | nil => simp [Rows.uptoBulk]
  | ptr d => simp [Rows.uptoBulk]
  | slice elems spare => simp [Rows.uptoBulk]
  | agg parts => simp [Rows.uptoBulk]
  | iface t d => simp [Rows.uptoBulk]
  | map entries => simp [Rows.uptoBulk]
  | held h => simp [Rows.uptoBulk]
theorem bulk_mem {l : List (DataW H)} : ∀ {i : Nat} {d : DataW H}, l[i]? = some d → Rows.uptoBulk d ≤ Rows.uptoBulkAll l := by
  induction l with
  | nil => intro i d h; simp at h
  | cons x r ih =>
    intro i d h
    cases i with
    | zero => simp at h; subst h; simp [Rows.uptoBulkAll]
    | succ i =>
      have := ih (i := i) (d := d) (by simpa using h)
      simp only [Rows.uptoBulkAll]; omega

/-- The cells of one term, read. -/
theorem open_cells {fuel : Nat} {cs : List Value} {x : DataW H × List MemPlace} (h : DataW.trod enc Try.prog w base spare held fuel 24 cs = some x) :
    ∃ (k n : Int) (s : ByteArray) (v : Value) (y : DataW H × List MemPlace) (m : Nat), cs = [.int .i64 k, .int .i64 n, .string s, v] ∧ DataW.trod enc Try.prog w base spare held m 22 [v] = some y ∧
      Rows.uptoBulk y.1 + 1 ≤ Rows.uptoBulk x.1 ∧ (Lit.int .i64 k).wf = true ∧ (Lit.int .i64 n).wf = true ∧ s.size ≤ maxLen ∧ s.size + Rows.uptoBulk y.1 + 3 ≤ Rows.uptoBulk x.1 := by
  obtain ⟨xs, m, _, hx, hlen, hxl, hf⟩ := DataW.trod_struct Try.underlying24 h
  rw [cells_term] at hlen
  have f0 : DataW.trod enc Try.prog w base spare held m 3 ((cs.drop 0).take (Try.prog.cellsOf 3)) = xs[0]? := hf 0 _ rfl
  have f1 : DataW.trod enc Try.prog w base spare held m 3 ((cs.drop 1).take (Try.prog.cellsOf 3)) = xs[1]? := hf 1 _ rfl
  have f2 : DataW.trod enc Try.prog w base spare held m 9 ((cs.drop 2).take (Try.prog.cellsOf 9)) = xs[2]? := hf 2 _ rfl
  have f3 : DataW.trod enc Try.prog w base spare held m 22 ((cs.drop 3).take (Try.prog.cellsOf 22)) = xs[3]? := hf 3 _ rfl
  rw [cells_int] at f0 f1
  rw [cells_string] at f2
  rw [cells_terms] at f3
  match cs, hlen, xs, hxl, hx with
  | [c0, c1, c2, c3], _, [y0, y1, y2, y3], _, hx =>
    simp only [List.drop_zero, List.drop_succ_cons, List.take_succ_cons, List.take_zero, List.getElem?_cons_zero, List.getElem?_cons_succ] at f0 f1 f2 f3
    obtain ⟨k, e0, r0, w0⟩ := DataW.trod_int Try.underlying3 f0
    obtain ⟨n, e1, r1, w1⟩ := DataW.trod_int Try.underlying3 f1
    obtain ⟨s, e2, r2, w2⟩ := DataW.trod_string Try.underlying9 f2
    simp only [List.cons.injEq, and_true] at e0 e1 e2
    subst e0 e1 e2 hx r0 r1 r2
    have h3 := bulk_pos y3.1
    have hsz : s.data.toList.length = s.size := by rw [Array.length_toList]; rfl
    refine ⟨k, n, s, c3, y3, m, rfl, f3, ?_, w0, w1, w2, ?_⟩
    · simp only [List.map_cons, List.map_nil, Rows.uptoBulk, Rows.uptoBulkAll]; omega
    · simp only [List.map_cons, List.map_nil, Rows.uptoBulk, Rows.uptoBulkAll]; omega

theorem addr_add {a : Addr} {i : Nat} {u : Value} (h : w.cell? (a.add i) = some u) (ha : a.spot = none) : w.cell? ⟨a.block, a.off + i, none⟩ = some u := by
  unfold Addr.add at h
  split at h
  · rename_i e
    subst e
    obtain ⟨b, o, sp⟩ := a
    simp only at ha
    subst ha
    simpa using h
  · exact h

/-- A slice of terms, read: it is a list of terms, of no more nodes than what was read holds. -/
theorem open_terms : ∀ (b fuel : Nat) (v : Value) (x : DataW H × List MemPlace), Rows.uptoBulk x.1 ≤ b → DataW.trod enc Try.prog w base spare held fuel 22 [v] = some x →
    ∃ T : Ts, Sl w (fun _ => True) v T ∧ T.nodes < Rows.uptoBulk x.1 := by
  intro b
  induction b with
  | zero => intro fuel v x hb _; have := bulk_pos x.1; omega
  | succ b ih =>
    intro fuel v x hb h
    rcases Deep.open_slice Try.underlying22 h with ⟨e, rfl⟩ | ⟨a, len, cap, m, n, D, Pl, e, _, hl, _, hm, rfl, hi⟩
    · simp only [List.cons.injEq, and_true] at e
      subst e
      exact ⟨.nil, Sl.nil _ _, by simp [Rows.uptoBulk, Ts.nodes]⟩
    · simp only [List.cons.injEq, and_true] at e
      subst e
      rw [cells_term] at hi
      have hml : len ≤ m := by rw [hm]; split <;> omega
      have hbulk : ∀ j, j < len → Rows.uptoBulk (D j) ≤ Rows.uptoBulkAll ((List.range len).map D) := fun j hj => bulk_mem (i := j) (by simp [hj])
      simp only [Rows.uptoBulk] at hb ⊢
      have hspot : 0 < len → a.spot = none := fun hp => by
        obtain ⟨cs, hc, ht⟩ := hi 0 (by omega)
        obtain ⟨k, n', s, v', y, m', rfl, _⟩ := open_cells ht
        obtain ⟨_, _, hat⟩ := World.cells?_some hc
        have h0 := hat 0 (by omega)
        simp only [Nat.zero_mul, Addr.add, if_true, List.getElem?_cons_zero] at h0
        unfold World.cell? at h0
        split at h0
        · split at h0
          · cases h0
          · rename_i hs; simpa using hs
        · cases h0
      have key : ∀ r j, j + r = len → ∃ T : Ts, T.length = r ∧ Seg w (fun _ => True) T a.block (a.off + j * 4) ∧ T.nodes ≤ Rows.uptoBulkAll ((List.range' j r).map D) := by
        intro r
        induction r with
        | zero => intro j _; exact ⟨.nil, rfl, trivial, Nat.zero_le _⟩
        | succ r ihr =>
          intro j hj
          obtain ⟨T, hT1, hT2, hT3⟩ := ihr (j + 1) (by omega)
          obtain ⟨cs, hc, ht⟩ := hi j (by omega)
          obtain ⟨k, n', s, v', y, m', rfl, hy, hyb, _⟩ := open_cells ht
          obtain ⟨_, _, hat⟩ := World.cells?_some hc
          have hbj := hbulk j (by omega)
          simp only at hyb
          obtain ⟨U, hU1, hU2⟩ := ih m' v' y (by omega) hy
          have hsp := hspot (by omega)
          have hcell : ∀ q u, q < 4 → [Value.int .i64 k, .int .i64 n', .string s, v'][q]? = some u → w.cell? ⟨a.block, a.off + j * 4 + q, none⟩ = some u := fun q u hq hu => by
            have h1 := (hat q hq).trans hu
            rw [Deep.add_add] at h1
            have h2 := addr_add h1 hsp
            rwa [← Nat.add_assoc] at h2
          refine ⟨.cons k n' s U T, by simp [Ts.length, hT1], ?_, ?_⟩
          · refine seg_cons.2 ⟨trivial, by simpa using hcell 0 _ (by omega) rfl, hcell 1 _ (by omega) rfl, hcell 2 _ (by omega) rfl, ⟨v', hcell 3 _ (by omega) rfl, hU1⟩, ?_⟩
            rw [show a.off + j * 4 + 4 = a.off + (j + 1) * 4 by omega]
            exact hT2
          · simp only [List.range'_succ, List.map_cons, Rows.uptoBulkAll, Ts.nodes]
            omega
      obtain ⟨T, h1, h2, h3⟩ := key len 0 (by omega)
      refine ⟨T, ⟨some a, cap, by rw [h1], by omega, fun hp => ⟨a.block, a.off, ?_, by simpa using h2⟩⟩, ?_⟩
      · have := hspot (by omega)
        obtain ⟨b', o', sp⟩ := a
        simp only at this
        rw [this]
      · rw [← List.range_eq_range'] at h3
        omega
end

/-- One term as an argument. -/
theorem open_term {H : Type} {enc : TypeId × Value → H} {W : World} {base0 : Nat} {v : Value} {d : DataW H} {p : List MemPlace} (hv : Value.okWide Try.prog W .any base0 24 v) (h : DataW.Trod enc Try.prog W 0 (fun _ => true) true 24 v d p) :
    ∃ (k n : Int) (s : ByteArray) (u : Value) (T : Ts), v = .agg #[.int .i64 k, .int .i64 n, .string s, u] ∧ Sl W (fun _ => True) u T ∧ T.nodes + 1 < Rows.uptoBulk d ∧ (Lit.int .i64 k).wf = true ∧ (Lit.int .i64 n).wf = true ∧ s.size ≤ maxLen := by
  obtain ⟨cs, rfl, hsz⟩ := okWide_struct Try.underlying24 hv
  obtain ⟨fuel, hf⟩ := h
  obtain ⟨k, n, s, u, y, m, e, hy, hb, w0, w1, w2, _⟩ := open_cells hf
  obtain ⟨T, h1, h2⟩ := open_terms _ m u y (Nat.le_refl _) hy
  refine ⟨k, n, s, u, T, ?_, h1, by simp only at hb; omega, w0, w1, w2⟩
  have e' : cs.toList = [.int .i64 k, .int .i64 n, .string s, u] := e
  rw [← e']
/-- A slice of terms as an argument. -/
theorem open_termsArg {H : Type} {enc : TypeId × Value → H} {W : World} {v : Value} {d : DataW H} {p : List MemPlace} (hv : v.cells.toList = [v]) (h : DataW.Trod enc Try.prog W 0 (fun _ => true) true 22 v d p) :
    ∃ T : Ts, Sl W (fun _ => True) v T ∧ T.nodes < Rows.uptoBulk d := by
  obtain ⟨fuel, hf⟩ := h
  rw [hv] at hf
  exact open_terms _ fuel v _ (Nat.le_refl _) hf

theorem trodAll_below {H : Type} {enc : TypeId × Value → H} {P : Program} (hl : laidOutB P = true) {W W' : World} (hb : Below W.heap.size W W') : ∀ {ts : List TypeId} {vs : List Value} {ds : List (DataW H)} {ps : List MemPlace}, (∀ t ∈ ts, P.readableRec t = true ∧ t < P.types.size) →
    DataW.TrodAll enc P W 0 (fun _ => true) true ts vs ds ps → (∀ x ∈ ps, x.block < W.heap.size) → DataW.TrodAll enc P W' 0 (fun b => decide (b < W.heap.size)) true ts vs ds ps
  | [], [], [], _, _, h, _ => h
  | [], [], _ :: _, _, _, h, _ => h.elim
  | [], _ :: _, _, _, _, h, _ => h.elim
  | _ :: _, [], _, _, _, h, _ => h.elim
  | _ :: _, _ :: _, [], _, _, h, _ => h.elim
  | t :: ts, v :: vs, d :: ds, ps, ht, ⟨p, q, h1, h2, e⟩, hlt => by
    subst e
    obtain ⟨a, b⟩ := ht t (List.mem_cons_self ..)
    exact ⟨p, q, Below.trod hl a b h1 hb fun x hx => hlt x (List.mem_append_left _ hx), trodAll_below hl hb (fun t ht' => ht t (List.mem_cons_of_mem _ ht')) h2 fun x hx => hlt x (List.mem_append_right _ hx), rfl⟩

/-- Behind a law's walk: it answered true, and of what was there nothing has turned. -/
theorem law_post {H : Type} {enc : TypeId × Value → H} {P : Program} {f : Func} {s : ChangeSpec} {W W' : World} {args : Array Value} {ds gs : List (DataW H)} {before : List MemPlace} (hl : laidOutB P = true) {bt : TypeId}
    (hres : f.resultTypes = #[bt]) (hbt : P.underlying bt = some .bool) (ht : (f.params.toList.all fun t => P.readableRec t && decide (t < P.types.size)) = true) (hvars : s.vars = [])
    (hfn : (s.fn H (ds ++ gs)).results = [.lit (.bool true)] ∧ (s.fn H (ds ++ gs)).args = ds ∧ (s.fn H (ds ++ gs)).vars = [])
    (hW : DataW.Whole enc P f.params.toList s.vars false W args.toList ds gs before) (hb : Below W.heap.size W W') :
    s.post enc P f false true false false W args (.bool true) W' := by
  have hlt := hW.lt
  have hW' := hW
  obtain ⟨p, q, hA, hV, rfl, hfz, hnd⟩ := hW
  refine ⟨ds, gs, p ++ q, [], p, [], hW', ?_, ?_, ?_, ?_, fun h => by cases h⟩
  · rw [hfn.1, hres]
    exact trodAll_cons_mk (shut_bool hbt _) trodAll_mk0
  · rw [hfn.2.1]
    exact trodAll_below hl hb (fun t h => by have := List.all_eq_true.1 ht t h; simpa using this) hA fun x hx => hlt x (List.mem_append_left _ hx)
  · rw [hfn.2.2, hvars]
    rfl
  · exact hb.frame _
end Go.Proofs.Ytjicoifjgokoiaa
namespace Go.Proofs.Ytjicoifjgokoiaa
open Go.RowKit Go.ChangeShapes Go.WideShapes Go.ChangeAt
set_option maxRecDepth 100000
set_option linter.unusedVariables false

theorem cells_cell : Try.prog.cellsOf 86 = 3 := by kernel_rfl
theorem cells_ccells : Try.prog.cellsOf 50 = 1 := by kernel_rfl
theorem cells_ints : Try.prog.cellsOf 51 = 1 := by kernel_rfl
theorem cells_heap : Try.prog.cellsOf 53 = 2 := by kernel_rfl

section
variable {H : Type} {enc : TypeId × Value → H} {w : World} {base : Nat} {spare : Nat → Bool} {held : Bool}
/-- A slice of elements that are read alike. -/
theorem open_flat {α : Type} (f : α → List Value) {sz st el : Nat} (hf : ∀ x, (f x).length = sz) (h0 : 0 < sz) (hst : Try.prog.underlying st = some (.slice el)) (hsz : Try.prog.cellsOf el = sz)
    (hel : ∀ (m : Nat) (cs : List Value) (x : DataW H × List MemPlace), DataW.trod enc Try.prog w base spare held m el cs = some x → ∃ a, cs = f a)
    {fuel : Nat} {v : Value} {x : DataW H × List MemPlace} (h : DataW.trod enc Try.prog w base spare held fuel st [v] = some x) :
    ∃ (L : List α) (A : Option Addr) (c : Nat), v = .slice A L.length c ∧ Flat sz (L.flatMap f) A L.length c w ∧ L.length ≤ 9223372036854775807 ∧ L.length < Rows.uptoBulk x.1 := by
  rcases Deep.open_slice hst h with ⟨e, rfl⟩ | ⟨a, len, cap, m, n, D, Pl, e, _, hl, hcm, hm, rfl, hi⟩
  · simp only [List.cons.injEq, and_true] at e
    subst e
    exact ⟨[], none, 0, rfl, Flat.nil_ _ _ _, by simp, by simp [Rows.uptoBulk]⟩
  · simp only [List.cons.injEq, and_true] at e
    subst e
    rw [hsz] at hi
    have hml : len ≤ m := by rw [hm]; split <;> omega
    have hspot : 0 < len → a.spot = none := fun hp => by
      obtain ⟨cs, hc, ht⟩ := hi 0 (by omega)
      obtain ⟨y, rfl⟩ := hel _ _ _ ht
      obtain ⟨_, _, hat⟩ := World.cells?_some hc
      have h1 := hat 0 (by omega)
      simp only [Nat.zero_mul, Addr.add, if_true] at h1
      rw [List.getElem?_eq_getElem (by rw [hf]; exact h0)] at h1
      unfold World.cell? at h1
      split at h1
      · split at h1
        · cases h1
        · rename_i hs; simpa using hs
      · cases h1
    have key : ∀ r j, j + r = len → ∃ L : List α, L.length = r ∧ (∀ q u, (L.flatMap f)[q]? = some u → w.cell? ⟨a.block, a.off + j * sz + q, none⟩ = some u) ∧ (L.flatMap f).length = r * sz ∧ r ≤ Rows.uptoBulkAll ((List.range' j r).map D) := by
      intro r
      induction r with
      | zero => intro j _; exact ⟨[], rfl, fun q u hq => by simp at hq, by simp, Nat.zero_le _⟩
      | succ r ihr =>
        intro j hj
        obtain ⟨L, hT1, hT2, hT3, hT4⟩ := ihr (j + 1) (by omega)
        obtain ⟨cs, hc, ht⟩ := hi j (by omega)
        obtain ⟨y, rfl⟩ := hel _ _ _ ht
        obtain ⟨_, _, hat⟩ := World.cells?_some hc
        have hsp := hspot (by omega)
        refine ⟨y :: L, by simp [hT1], fun q u hq => ?_, ?_, ?_⟩
        · rw [List.flatMap_cons] at hq
          by_cases hql : q < sz
          · rw [List.getElem?_append_left (by rw [hf]; exact hql)] at hq
            have h1 := (hat q hql).trans hq
            rw [Deep.add_add] at h1
            have h2 := addr_add h1 hsp
            rwa [← Nat.add_assoc] at h2
          · rw [List.getElem?_append_right (by rw [hf]; omega), hf] at hq
            have := hT2 _ _ hq
            rw [Nat.add_mul] at this
            rw [show a.off + j * sz + q = a.off + (j * sz + 1 * sz) + (q - sz) by omega]
            exact this
        · rw [List.flatMap_cons, List.length_append, hT3, hf, Nat.add_mul]; omega
        · simp only [List.range'_succ, List.map_cons, Rows.uptoBulkAll]
          have := bulk_pos (D j)
          omega
    obtain ⟨L, h1, h2, h3, h4⟩ := key len 0 (by omega)
    rw [← List.range_eq_range'] at h4
    refine ⟨L, some a, cap, by rw [h1], ⟨by rw [h3, h1], by omega, fun hp => ⟨a.block, a.off, ?_, by simpa using h2⟩⟩, by rw [h1]; have : maxLen = 9223372036854775807 := rfl; omega, ?_⟩
    · have := hspot (by omega)
      obtain ⟨b', o', sp⟩ := a
      simp only at this
      rw [this]
    · rw [h1]; simp only [Rows.uptoBulk]; omega
theorem open_intC {m : Nat} {cs : List Value} {x : DataW H × List MemPlace} (h : DataW.trod enc Try.prog w base spare held m 3 cs = some x) : ∃ a : Int, cs = [.int .i64 a] := by
  obtain ⟨k, e0, _, _⟩ := DataW.trod_int Try.underlying3 h
  exact ⟨k, e0⟩
theorem open_cellC {m : Nat} {cs : List Value} {x : DataW H × List MemPlace} (h : DataW.trod enc Try.prog w base spare held m 86 cs = some x) : ∃ c : HC, cs = hcs c := by
  obtain ⟨xs, m, _, hx, hlen, hxl, hf⟩ := DataW.trod_struct Try.underlying86 h
  rw [cells_cell] at hlen
  have f0 : DataW.trod enc Try.prog w base spare held m 3 ((cs.drop 0).take (Try.prog.cellsOf 3)) = xs[0]? := hf 0 _ rfl
  have f1 : DataW.trod enc Try.prog w base spare held m 3 ((cs.drop 1).take (Try.prog.cellsOf 3)) = xs[1]? := hf 1 _ rfl
  have f2 : DataW.trod enc Try.prog w base spare held m 9 ((cs.drop 2).take (Try.prog.cellsOf 9)) = xs[2]? := hf 2 _ rfl
  rw [cells_int] at f0 f1
  rw [cells_string] at f2
  match cs, hlen, xs, hxl, hx with
  | [c0, c1, c2], _, [y0, y1, y2], _, hx =>
    simp only [List.drop_zero, List.drop_succ_cons, List.take_succ_cons, List.take_zero, List.getElem?_cons_zero, List.getElem?_cons_succ] at f0 f1 f2
    obtain ⟨k, e0, r0, w0⟩ := DataW.trod_int Try.underlying3 f0
    obtain ⟨n, e1, r1, w1⟩ := DataW.trod_int Try.underlying3 f1
    obtain ⟨s, e2, r2, w2⟩ := DataW.trod_string Try.underlying9 f2
    simp only [List.cons.injEq, and_true] at e0 e1 e2
    subst e0 e1 e2
    exact ⟨⟨k, n, s⟩, rfl⟩
theorem hcsL_flat (L : List HC) : L.flatMap hcs = hcsL L := by
  induction L with
  | nil => rfl
  | cons c r ih => rw [List.flatMap_cons, ih]; rfl
theorem intsV_flat (L : List Int) : (L.flatMap fun x => [Value.int .i64 x]) = intsV L := by
  induction L with
  | nil => rfl
  | cons c r ih => rw [List.flatMap_cons, ih]; rfl
theorem open_intsT {fuel : Nat} {v : Value} {x : DataW H × List MemPlace} (h : DataW.trod enc Try.prog w base spare held fuel 51 [v] = some x) :
    ∃ (L : List Int) (A : Option Addr) (c : Nat), v = .slice A L.length c ∧ Flat 1 (intsV L) A L.length c w ∧ L.length ≤ 9223372036854775807 ∧ L.length < Rows.uptoBulk x.1 := by
  have := open_flat (α := Int) (fun x => [Value.int .i64 x]) (sz := 1) (fun _ => rfl) (by omega) Try.underlying51 cells_int (fun m cs x h => open_intC h) h
  simpa only [intsV_flat] using this
theorem open_cellsT {fuel : Nat} {v : Value} {x : DataW H × List MemPlace} (h : DataW.trod enc Try.prog w base spare held fuel 50 [v] = some x) :
    ∃ (L : List HC) (A : Option Addr) (c : Nat), v = .slice A L.length c ∧ Flat 3 (hcsL L) A L.length c w ∧ L.length ≤ 9223372036854775807 ∧ L.length < Rows.uptoBulk x.1 := by
  have := open_flat (α := HC) hcs (sz := 3) (fun _ => rfl) (by omega) Try.underlying50 cells_cell (fun m cs x h => open_cellC h) h
  simpa only [hcsL_flat] using this
end
/-- A list of numbers, as an argument. -/
theorem open_intsArg {H : Type} {enc : TypeId × Value → H} {W : World} {v : Value} {d : DataW H} {p : List MemPlace} (hv : v.cells.toList = [v]) (h : DataW.Trod enc Try.prog W 0 (fun _ => true) true 51 v d p) :
    ∃ (L : List Int) (A : Option Addr) (c : Nat), v = .slice A L.length c ∧ Flat 1 (intsV L) A L.length c W ∧ L.length ≤ 9223372036854775807 ∧ L.length < Rows.uptoBulk d := by
  obtain ⟨fuel, hf⟩ := h
  rw [hv] at hf
  exact open_intsT hf
/-- A list of cells, as an argument. -/
theorem open_cellsArg {H : Type} {enc : TypeId × Value → H} {W : World} {v : Value} {d : DataW H} {p : List MemPlace} (hv : v.cells.toList = [v]) (h : DataW.Trod enc Try.prog W 0 (fun _ => true) true 50 v d p) :
    ∃ (L : List HC) (A : Option Addr) (c : Nat), v = .slice A L.length c ∧ Flat 3 (hcsL L) A L.length c W ∧ L.length ≤ 9223372036854775807 ∧ L.length < Rows.uptoBulk d := by
  obtain ⟨fuel, hf⟩ := h
  rw [hv] at hf
  exact open_cellsT hf
/-- A heap, as an argument. -/
theorem open_heapArg {H : Type} {enc : TypeId × Value → H} {W : World} {b : Nat} {v : Value} {d : DataW H} {p : List MemPlace} (hok : Value.okWide Try.prog W .any b 53 v) (h : DataW.Trod enc Try.prog W 0 (fun _ => true) true 53 v d p) :
    ∃ (h : HH) (A : Option Addr) (c : Nat) (B : Option Addr) (e : Nat), v = hv h A c B e ∧ HFl h A c B e W ∧ h.cs.length ≤ 9223372036854775807 ∧ h.tr.length ≤ 9223372036854775807 ∧ h.cs.length + h.tr.length < Rows.uptoBulk d := by
  obtain ⟨fuel, h⟩ := h
  obtain ⟨cs, rfl, hsz⟩ := okWide_struct Try.underlying53 hok
  obtain ⟨xs, m, _, hx, hlen, hxl, hf⟩ := DataW.trod_struct Try.underlying53 h
  rw [cells_heap] at hlen
  obtain ⟨cs⟩ := cs
  replace hf : ∀ i fd, _ → _ := hf
  have f0 : DataW.trod enc Try.prog W 0 (fun _ => true) true m 50 ((cs.drop 0).take (Try.prog.cellsOf 50)) = xs[0]? := hf 0 _ rfl
  have f1 : DataW.trod enc Try.prog W 0 (fun _ => true) true m 51 ((cs.drop 1).take (Try.prog.cellsOf 51)) = xs[1]? := hf 1 _ rfl
  rw [cells_ccells] at f0
  rw [cells_ints] at f1
  replace hlen : cs.length = 2 := hlen
  match cs, hlen, xs, hxl, hx with
  | [c0, c1], _, [y0, y1], _, hx =>
    simp only [List.drop_zero, List.drop_succ_cons, List.take_succ_cons, List.take_zero, List.getElem?_cons_zero, List.getElem?_cons_succ] at f0 f1
    obtain ⟨L, A, c, rfl, hL, hl, hlb⟩ := open_cellsT f0
    obtain ⟨T, B, e, rfl, hT, ht, htb⟩ := open_intsT f1
    have hd := congrArg (fun q => Rows.uptoBulk q.1) hx
    simp only [List.map_cons, List.map_nil, Rows.uptoBulk, Rows.uptoBulkAll] at hd
    exact ⟨⟨L, T⟩, A, c, B, e, rfl, ⟨hL, hT⟩, hl, ht, by show L.length + T.length < _; omega⟩
end Go.Proofs.Ytjicoifjgokoiaa
