/- SameNR, HRef2, HOne, HRun: texts that follow one another, laid into one file. -/
import Derived.Test.YtjicoifjgokoiabG1
import Derived.Test.YtjicoifjgokoiabG0
import Derived.Test.YtjicoifjgokoiabG7
import Derived.Test.YtjicoifjgokoiabG4
import Derived.Test.YtjicoifjgokoiabG6
namespace Go.Proofs.Ytjicoifjgokoiab
open Go.RowKit
set_option linter.unusedVariables false
set_option linter.unusedSimpArgs false
set_option maxRecDepth 100000
set_option maxHeartbeats 1000000

theorem sameNumbersR_eq (L : List Int) (A B : Option Addr) (c d : Nat) (w : World) (hL : Flat 1 (intsV L) A L.length c w) (hK : Flat 1 (intsV L) B L.length d w) (hl : L.length ≤ 9223372036854775807) :
    Calls Try.prog 29 #[.slice A L.length c, .slice B L.length d] w fun e w' => e = .returned (.bool true) ∧ Below w.heap.size w w' := by
  have hS := ((St.start w).flat (M := []) hL).flat (M := []) hK
  refine goes_enter2 Try.func29 rfl Try.ntmps29 rfl ?_
  refine goes_seq ?_
  refine goes_region ?_
  refine lst_run (run_assign (by conv => lhs; whnf)) rfl ?_
  refine lst_done ?_
  refine goes_seq ?_
  refine goes_seq ?_
  refine goes_region ?_
  refine lst_run (run_move (by conv => lhs; whnf)) rfl ?_
  refine lst_run (run_len_slice rfl rfl rfl) rfl ?_
  refine lst_run (run_move (by conv => lhs; whnf)) rfl ?_
  refine lst_run (run_len_slice rfl rfl rfl) rfl ?_
  first
    | refine lst_run (run_neq_one_int rfl rfl) rfl ?_
    | refine lst_run (run_neq_no rfl rfl (by first | assumption | omega)) rfl ?_
    | refine lst_run (run_neq_yes rfl rfl (by omega)) rfl ?_
    | refine lst_run (rfl) rfl ?_
  refine lst_done ?_
  refine goes_false rfl ?_
  refine goes_skip ?_
  refine goes_seq ?_
  refine goes_seq ?_
  refine goes_region ?_
  refine lst_run (run_move (by conv => lhs; whnf)) rfl ?_
  refine lst_run (run_len_slice rfl rfl rfl) rfl ?_
  refine lst_run (run_move (by conv => lhs; whnf)) rfl ?_
  refine lst_done ?_
  refine goes_block ?_
  refine goes_loop1 13 (14 :: 15 :: 5 :: 16 :: 17 :: 18 :: 19 :: 20 :: 21 :: 22 :: 23 :: 24 :: 4 :: 25 :: []) (fun (R : List Int) v w' => ∃ D, L = D ++ R ∧ v = .int .i64 (D.length : Nat) ∧ St [] w [] [Flat 1 (intsV L) B L.length d, Flat 1 (intsV L) A L.length c] w') (fun R => R.length) (L) ?_ (by conv => lhs; whnf) ?_
  · exact ⟨[], rfl, rfl, hS⟩
  clear hS
  rintro R _ w2 jv ⟨D, hD, rfl, hS⟩ ih
  have hlen : L.length = D.length + R.length := by rw [hD]; simp
  cases R with
  | nil =>
    simp only [List.length_nil] at hlen
    refine goes_seq ?_
    refine goes_region ?_
    first
      | refine lst_run (run_lss_yes rfl rfl (by omega)) rfl ?_
      | refine lst_run (run_lss_no rfl rfl (by omega)) rfl ?_
      | refine lst_run (rfl) rfl ?_
    refine lst_done ?_
    refine goes_seq ?_
    refine goes_false rfl ?_
    refine goes_exit rfl ?_
    refine goes_seq ?_
    refine goes_region ?_
    refine lst_run (run_assign (by conv => lhs; whnf)) rfl ?_
    refine lst_done ?_
    refine goes_ret1 Try.func29 rfl (by conv => lhs; whnf) ?_
    exact ⟨rfl, hS.ext.below⟩
  | cons x R =>
    simp only [List.length_cons] at hlen
    obtain ⟨b, o, rfl⟩ := hL.some_ (by omega)
    obtain ⟨b2, o2, rfl⟩ := hK.some_ (by omega)
    have hx : L[D.length]? = some x := by rw [hD]; simp
    have hcc : ∀ {H'} w', St [] w H' [Flat 1 (intsV L) (some ⟨b2, o2, none⟩) L.length d, Flat 1 (intsV L) (some ⟨b, o, none⟩) L.length c] w' → _ := fun w' hS => (hS.fact (.head _)).int hx
    have hcd : ∀ {H'} w', St [] w H' [Flat 1 (intsV L) (some ⟨b2, o2, none⟩) L.length d, Flat 1 (intsV L) (some ⟨b, o, none⟩) L.length c] w' → _ := fun w' hS => (hS.fact (.tail _ (.head _))).int hx
    refine goes_seq ?_
    refine goes_region ?_
    first
      | refine lst_run (run_lss_yes rfl rfl (by omega)) rfl ?_
      | refine lst_run (run_lss_no rfl rfl (by omega)) rfl ?_
      | refine lst_run (rfl) rfl ?_
    refine lst_done ?_
    refine goes_seq ?_
    refine goes_true rfl ?_
    refine goes_skip ?_
    refine goes_seq ?_
    refine goes_block ?_
    refine goes_seq ?_
    refine goes_region ?_
    refine lst_run (run_move (by conv => lhs; whnf)) rfl ?_
    refine lst_run (run_assign (by conv => lhs; whnf)) rfl ?_
    refine lst_done ?_
    refine goes_seq ?_
    refine goes_draw (St _ _ _ _) 9 ((0, true) :: (1, true) :: (2, true) :: (3, true) :: (4, true) :: (5, true) :: (6, true) :: (7, true) :: (8, true) :: []) (by kernel_rfl) (by kernel_rfl) (hS.drew) ?_
    replace hS := hS.drew
    refine ord_read rfl (fun _ hS => run_move (by conv => lhs; whnf)) rfl ?_
    refine ord_read rfl (fun _ hS => run_move (by conv => lhs; whnf)) rfl ?_
    refine ord_read rfl (fun _ hS => run_indexAddr (sz := 1) rfl rfl rfl rfl (by omega) (by omega)) rfl ?_
    first
      | refine ord_read rfl (fun _ hS => run_load1_own hS rfl rfl (by first | exact .head | exact .tail .head | exact .tail (.tail .head) | exact .tail (.tail (.tail .head)) | exact .tail (.tail (.tail (.tail .head))) | exact .tail (.tail (.tail (.tail (.tail .head))))) (by repeat constructor)) rfl ?_
      | refine ord_read rfl (fun _ hS => run_load1 rfl rfl (by first | assumption | exact hcc _ hS | exact hcd _ hS | exact hS.cell0 (by assumption) | exact lv_next hS | exact lv_list hS)) rfl ?_
    refine ord_read rfl (fun _ hS => run_move (by conv => lhs; whnf)) rfl ?_
    refine ord_read rfl (fun _ hS => run_move (by conv => lhs; whnf)) rfl ?_
    refine ord_read rfl (fun _ hS => run_indexAddr (sz := 1) rfl rfl rfl rfl (by omega) (by omega)) rfl ?_
    first
      | refine ord_read rfl (fun _ hS => run_load1_own hS rfl rfl (by first | exact .head | exact .tail .head | exact .tail (.tail .head) | exact .tail (.tail (.tail .head)) | exact .tail (.tail (.tail (.tail .head))) | exact .tail (.tail (.tail (.tail (.tail .head))))) (by repeat constructor)) rfl ?_
      | refine ord_read rfl (fun _ hS => run_load1 rfl rfl (by first | assumption | exact hcc _ hS | exact hcd _ hS | exact hS.cell0 (by assumption) | exact lv_next hS | exact lv_list hS)) rfl ?_
    first
      | refine ord_read rfl (fun _ hS => run_neq_one_int rfl rfl) rfl ?_
      | refine ord_read rfl (fun _ hS => run_neq_no rfl rfl (by first | assumption | omega)) rfl ?_
      | refine ord_read rfl (fun _ hS => run_neq_yes rfl rfl (by omega)) rfl ?_
      | refine ord_read rfl (fun _ hS => rfl) rfl ?_
    refine ord_end ?_
    refine lst_done ?_
    refine goes_false rfl ?_
    refine goes_skip ?_
    refine goes_inBlock ?_
    refine goes_region ?_
    refine lst_run (run_add rfl rfl (by omega) (by omega)) rfl ?_
    refine lst_run (run_move (by conv => lhs; whnf)) rfl ?_
    refine lst_done ?_
    refine ih (R) _ _ _ ?_ ?_ (by conv => lhs; whnf) (by kernel_rfl)
    · simp
    · exact ⟨D ++ [x], by rw [hD]; simp, by simp, hS⟩
end Go.Proofs.Ytjicoifjgokoiab
namespace Go.Proofs.Ytjicoifjgokoiab
open Go.RowKit
set_option linter.unusedVariables false
set_option linter.unusedSimpArgs false
set_option maxRecDepth 100000
set_option maxHeartbeats 1000000

theorem sameCells_eq (L : List HC) (A B : Option Addr) (c d : Nat) (w : World) (hL : Flat 3 (hcsL L) A L.length c w) (hK : Flat 3 (hcsL L) B L.length d w) (hl : L.length ≤ 9223372036854775807) :
    Calls Try.prog 44 #[.slice A L.length c, .slice B L.length d] w fun e w' => e = .returned (.bool true) ∧ Below w.heap.size w w' := by
  have hS := ((St.start w).flat (M := []) hL).flat (M := []) hK
  refine goes_enter2 Try.func44 rfl Try.ntmps44 rfl ?_
  refine goes_seq ?_
  refine goes_region ?_
  refine lst_run (run_assign (by conv => lhs; whnf)) rfl ?_
  refine lst_done ?_
  refine goes_seq ?_
  refine goes_seq ?_
  refine goes_region ?_
  refine lst_run (run_move (by conv => lhs; whnf)) rfl ?_
  refine lst_run (run_len_slice rfl rfl rfl) rfl ?_
  refine lst_run (run_move (by conv => lhs; whnf)) rfl ?_
  refine lst_run (run_len_slice rfl rfl rfl) rfl ?_
  first
    | refine lst_run (run_neq_one_int rfl rfl) rfl ?_
    | refine lst_run (run_neq_no rfl rfl (by first | assumption | omega)) rfl ?_
    | refine lst_run (run_neq_yes rfl rfl (by omega)) rfl ?_
    | refine lst_run (rfl) rfl ?_
  refine lst_done ?_
  refine goes_false rfl ?_
  refine goes_skip ?_
  refine goes_seq ?_
  refine goes_seq ?_
  refine goes_region ?_
  refine lst_run (run_move (by conv => lhs; whnf)) rfl ?_
  refine lst_run (run_len_slice rfl rfl rfl) rfl ?_
  refine lst_run (run_move (by conv => lhs; whnf)) rfl ?_
  refine lst_done ?_
  refine goes_block ?_
  refine goes_loop1 13 (14 :: 15 :: 5 :: 16 :: 17 :: 18 :: 19 :: 20 :: 21 :: 22 :: 23 :: 24 :: 4 :: 25 :: []) (fun (R : List HC) v w' => ∃ D, L = D ++ R ∧ v = .int .i64 (D.length : Nat) ∧ St [] w [] [Flat 3 (hcsL L) B L.length d, Flat 3 (hcsL L) A L.length c] w') (fun R => R.length) (L) ?_ (by conv => lhs; whnf) ?_
  · exact ⟨[], rfl, rfl, hS⟩
  clear hS
  rintro R _ w2 jv ⟨D, hD, rfl, hS⟩ ih
  have hlen : L.length = D.length + R.length := by rw [hD]; simp
  cases R with
  | nil =>
    simp only [List.length_nil] at hlen
    refine goes_seq ?_
    refine goes_region ?_
    first
      | refine lst_run (run_lss_yes rfl rfl (by omega)) rfl ?_
      | refine lst_run (run_lss_no rfl rfl (by omega)) rfl ?_
      | refine lst_run (rfl) rfl ?_
    refine lst_done ?_
    refine goes_seq ?_
    refine goes_false rfl ?_
    refine goes_exit rfl ?_
    refine goes_seq ?_
    refine goes_region ?_
    refine lst_run (run_assign (by conv => lhs; whnf)) rfl ?_
    refine lst_done ?_
    refine goes_ret1 Try.func44 rfl (by conv => lhs; whnf) ?_
    exact ⟨rfl, hS.ext.below⟩
  | cons x R =>
    simp only [List.length_cons] at hlen
    obtain ⟨b, o, rfl⟩ := hL.some_ (by omega)
    obtain ⟨b2, o2, rfl⟩ := hK.some_ (by omega)
    have hx : L[D.length]? = some x := by rw [hD]; simp
    have hcc : ∀ {H'} w', St [] w H' [Flat 3 (hcsL L) (some ⟨b2, o2, none⟩) L.length d, Flat 3 (hcsL L) (some ⟨b, o, none⟩) L.length c] w' → _ := fun w' hS => (hS.fact (.head _)).cell hx
    have hcd : ∀ {H'} w', St [] w H' [Flat 3 (hcsL L) (some ⟨b2, o2, none⟩) L.length d, Flat 3 (hcsL L) (some ⟨b, o, none⟩) L.length c] w' → _ := fun w' hS => (hS.fact (.tail _ (.head _))).cell hx
    refine goes_seq ?_
    refine goes_region ?_
    first
      | refine lst_run (run_lss_yes rfl rfl (by omega)) rfl ?_
      | refine lst_run (run_lss_no rfl rfl (by omega)) rfl ?_
      | refine lst_run (rfl) rfl ?_
    refine lst_done ?_
    refine goes_seq ?_
    refine goes_true rfl ?_
    refine goes_skip ?_
    refine goes_seq ?_
    refine goes_block ?_
    refine goes_seq ?_
    refine goes_region ?_
    refine lst_run (run_move (by conv => lhs; whnf)) rfl ?_
    refine lst_run (run_assign (by conv => lhs; whnf)) rfl ?_
    refine lst_done ?_
    refine goes_seq ?_
    refine goes_draw (St _ _ _ _) 9 ((0, true) :: (1, true) :: (2, true) :: (3, true) :: (4, true) :: (5, true) :: (6, true) :: (7, true) :: (8, true) :: []) (by kernel_rfl) (by kernel_rfl) (hS.drew) ?_
    replace hS := hS.drew
    refine ord_read rfl (fun _ hS => run_move (by conv => lhs; whnf)) rfl ?_
    refine ord_read rfl (fun _ hS => run_move (by conv => lhs; whnf)) rfl ?_
    refine ord_read rfl (fun _ hS => run_indexAddr (sz := 3) rfl rfl rfl rfl (by omega) (by omega)) rfl ?_
    first
      | refine ord_read rfl (fun _ hS => run_loadN_own (k := 3) hS rfl rfl rfl (by first | exact .head | exact .tail .head | exact .tail (.tail .head) | exact .tail (.tail (.tail .head)) | exact .tail (.tail (.tail (.tail .head))) | exact .tail (.tail (.tail (.tail (.tail .head))))) (by repeat constructor)) rfl ?_
      | refine ord_read rfl (fun _ hS => run_load3 rfl rfl rfl (by first | assumption | exact (hcc _ hS).1 | exact (hcc _ hS).2.1 | exact (hcc _ hS).2.2 | exact (hcd _ hS).1 | exact (hcd _ hS).2.1 | exact (hcd _ hS).2.2 | exact hS.cell0 (by assumption)) (by first | assumption | exact (hcc _ hS).1 | exact (hcc _ hS).2.1 | exact (hcc _ hS).2.2 | exact (hcd _ hS).1 | exact (hcd _ hS).2.1 | exact (hcd _ hS).2.2 | exact hS.cell0 (by assumption)) (by first | assumption | exact (hcc _ hS).1 | exact (hcc _ hS).2.1 | exact (hcc _ hS).2.2 | exact (hcd _ hS).1 | exact (hcd _ hS).2.1 | exact (hcd _ hS).2.2 | exact hS.cell0 (by assumption))) rfl ?_
    refine ord_read rfl (fun _ hS => run_move (by conv => lhs; whnf)) rfl ?_
    refine ord_read rfl (fun _ hS => run_move (by conv => lhs; whnf)) rfl ?_
    refine ord_read rfl (fun _ hS => run_indexAddr (sz := 3) rfl rfl rfl rfl (by omega) (by omega)) rfl ?_
    first
      | refine ord_read rfl (fun _ hS => run_loadN_own (k := 3) hS rfl rfl rfl (by first | exact .head | exact .tail .head | exact .tail (.tail .head) | exact .tail (.tail (.tail .head)) | exact .tail (.tail (.tail (.tail .head))) | exact .tail (.tail (.tail (.tail (.tail .head))))) (by repeat constructor)) rfl ?_
      | refine ord_read rfl (fun _ hS => run_load3 rfl rfl rfl (by first | assumption | exact (hcc _ hS).1 | exact (hcc _ hS).2.1 | exact (hcc _ hS).2.2 | exact (hcd _ hS).1 | exact (hcd _ hS).2.1 | exact (hcd _ hS).2.2 | exact hS.cell0 (by assumption)) (by first | assumption | exact (hcc _ hS).1 | exact (hcc _ hS).2.1 | exact (hcc _ hS).2.2 | exact (hcd _ hS).1 | exact (hcd _ hS).2.1 | exact (hcd _ hS).2.2 | exact hS.cell0 (by assumption)) (by first | assumption | exact (hcc _ hS).1 | exact (hcc _ hS).2.1 | exact (hcc _ hS).2.2 | exact (hcd _ hS).1 | exact (hcd _ hS).2.1 | exact (hcd _ hS).2.2 | exact hS.cell0 (by assumption))) rfl ?_
    refine ord_read rfl (fun _ hS => run_neq_cell rfl rfl) rfl ?_
    refine ord_end ?_
    refine lst_done ?_
    rw [decide_eq_true (rfl : x = x)]
    refine goes_false rfl ?_
    refine goes_skip ?_
    refine goes_inBlock ?_
    refine goes_region ?_
    refine lst_run (run_add rfl rfl (by omega) (by omega)) rfl ?_
    refine lst_run (run_move (by conv => lhs; whnf)) rfl ?_
    refine lst_done ?_
    refine ih (R) _ _ _ ?_ ?_ (by conv => lhs; whnf) (by kernel_rfl)
    · simp
    · exact ⟨D ++ [x], by rw [hD]; simp, by simp, hS⟩
theorem sameHeap_eq (h : HH) (A B A2 B2 : Option Addr) (c d c2 d2 : Nat) (w : World) (h1 : HFl h A c B d w) (h2 : HFl h A2 c2 B2 d2 w) (hl : h.cs.length ≤ 9223372036854775807) (hl2 : h.tr.length ≤ 9223372036854775807) :
    Calls Try.prog 14 #[hv h A c B d, hv h A2 c2 B2 d2] w fun e w' => e = .returned (.bool true) ∧ Below w.heap.size w w' := by
  have hS := ((St.start w).base (φ := HFl h A c B d) fun w' hx => h1.ext hx).base (φ := HFl h A2 c2 B2 d2) fun w' hx => h2.ext hx
  refine goes_enter2 Try.func14 rfl Try.ntmps14 rfl ?_
  refine goes_seq ?_
  refine goes_region ?_
  refine lst_box hS rfl rfl ?_
  clear hS
  intro b1 wx1 hS
  refine lst_box hS rfl rfl ?_
  clear hS
  intro b2 wx2 hS
  refine lst_run (run_assign (by conv => lhs; whnf)) rfl ?_
  refine lst_done ?_
  refine goes_seq ?_
  refine goes_region ?_
  refine lst_run (run_fieldAddr (off := 0) rfl rfl) rfl ?_
  first
    | refine lst_run (run_load1_own hS rfl rfl (by first | exact .head | exact .tail .head | exact .tail (.tail .head) | exact .tail (.tail (.tail .head)) | exact .tail (.tail (.tail (.tail .head))) | exact .tail (.tail (.tail (.tail (.tail .head))))) (by repeat constructor)) rfl ?_
    | refine lst_run (run_load1 rfl rfl (by first | assumption | exact (hcc _ hS).1 | exact (hcc _ hS).2.1 | exact (hcc _ hS).2.2 | exact (hcd _ hS).1 | exact (hcd _ hS).2.1 | exact (hcd _ hS).2.2 | exact hS.cell0 (by assumption) | exact lv_next hS | exact lv_list hS)) rfl ?_
  refine lst_run (run_fieldAddr (off := 0) rfl rfl) rfl ?_
  first
    | refine lst_run (run_load1_own hS rfl rfl (by first | exact .head | exact .tail .head | exact .tail (.tail .head) | exact .tail (.tail (.tail .head)) | exact .tail (.tail (.tail (.tail .head))) | exact .tail (.tail (.tail (.tail (.tail .head))))) (by repeat constructor)) rfl ?_
    | refine lst_run (run_load1 rfl rfl (by first | assumption | exact (hcc _ hS).1 | exact (hcc _ hS).2.1 | exact (hcc _ hS).2.2 | exact (hcd _ hS).1 | exact (hcd _ hS).2.1 | exact (hcd _ hS).2.2 | exact hS.cell0 (by assumption) | exact lv_next hS | exact lv_list hS)) rfl ?_
  refine lst_enter (run_call (by kernel_rfl) (args_2 (by conv => lhs; whnf) (by conv => lhs; whnf))) rfl ?_
  refine Calls.mono (sameCells_eq h.cs A A2 c c2 _ (hS.fact (.tail _ (.head _))).1 (hS.fact (.head _)).1 hl) ?_
  rintro _ w3 ⟨rfl, hb3⟩
  refine ⟨_, rfl, ?_⟩
  replace hS := hS.grow hb3
  refine lst_run (run_move (by conv => lhs; whnf)) rfl ?_
  refine lst_guard rfl rfl ?_
  refine lst_run (run_fieldAddr (off := 1) rfl rfl) rfl ?_
  refine lst_guard rfl rfl ?_
  first
    | refine lst_run (run_load1_own hS rfl rfl (by first | exact .head | exact .tail .head | exact .tail (.tail .head) | exact .tail (.tail (.tail .head)) | exact .tail (.tail (.tail (.tail .head))) | exact .tail (.tail (.tail (.tail (.tail .head))))) (by repeat constructor)) rfl ?_
    | refine lst_run (run_load1 rfl rfl (by first | assumption | exact (hcc _ hS).1 | exact (hcc _ hS).2.1 | exact (hcc _ hS).2.2 | exact (hcd _ hS).1 | exact (hcd _ hS).2.1 | exact (hcd _ hS).2.2 | exact hS.cell0 (by assumption) | exact lv_next hS | exact lv_list hS)) rfl ?_
  refine lst_guard rfl rfl ?_
  refine lst_run (run_fieldAddr (off := 1) rfl rfl) rfl ?_
  refine lst_guard rfl rfl ?_
  first
    | refine lst_run (run_load1_own hS rfl rfl (by first | exact .head | exact .tail .head | exact .tail (.tail .head) | exact .tail (.tail (.tail .head)) | exact .tail (.tail (.tail (.tail .head))) | exact .tail (.tail (.tail (.tail (.tail .head))))) (by repeat constructor)) rfl ?_
    | refine lst_run (run_load1 rfl rfl (by first | assumption | exact (hcc _ hS).1 | exact (hcc _ hS).2.1 | exact (hcc _ hS).2.2 | exact (hcd _ hS).1 | exact (hcd _ hS).2.1 | exact (hcd _ hS).2.2 | exact hS.cell0 (by assumption) | exact lv_next hS | exact lv_list hS)) rfl ?_
  refine lst_guard rfl rfl ?_
  refine lst_enter (run_call (by kernel_rfl) (args_2 (by conv => lhs; whnf) (by conv => lhs; whnf))) rfl ?_
  refine Calls.mono (sameNumbersR_eq h.tr B B2 d d2 _ (hS.fact (.tail _ (.head _))).2 (hS.fact (.head _)).2 hl2) ?_
  rintro _ w4 ⟨rfl, hb4⟩
  refine ⟨_, rfl, ?_⟩
  replace hS := hS.grow hb4
  first
    | refine lst_run (run_pick_t rfl (by conv => lhs; whnf)) rfl ?_
    | refine lst_run (run_pick_f rfl (by conv => lhs; whnf)) rfl ?_
  refine lst_run (run_assign (by conv => lhs; whnf)) rfl ?_
  refine lst_done ?_
  refine goes_ret1 Try.func14 rfl (by conv => lhs; whnf) ?_
  exact ⟨rfl, hS.ext.below⟩
section
variable {M : List Nat} {w0 : World} {H : List (Nat × Obj)} {F : List (World → Prop)}
theorem copyHeap_any (h : HH) (A B : Option Addr) (c d : Nat) (w : World) (hH : Und F (HFl h A c B d)) (hl : h.cs.length ≤ 4398046511104) (hl2 : h.tr.length ≤ 17592186044416) (hS : St M w0 H F w) :
    Calls Try.prog 11 #[hv h A c B d] w fun e w' => ∃ (A' : Option Addr) (c' : Nat) (B' : Option Addr) (d' : Nat) (O O2 : List (Nat × Obj)), e = .returned (hv h A' c' B' d') ∧ Rw 59 3 (.slice A' h.cs.length c') h.cs.length (hcsL h.cs) O ∧ Rw 3 1 (.slice B' h.tr.length d') h.tr.length (intsV h.tr) O2 ∧ St M w0 (O ++ (O2 ++ H)) F w' := by
  have hL : Und F (Flat 3 (hcsL h.cs) A h.cs.length c) := hH.imp fun _ h => h.1
  have hT : Und F (Flat 1 (intsV h.tr) B h.tr.length d) := hH.imp fun _ h => h.2
  refine goes_enter1 Try.func11 rfl Try.ntmps11 rfl ?_
  refine goes_seq ?_
  refine goes_region ?_
  refine lst_box hS rfl rfl ?_
  clear hS
  intro b1 wx1 hS
  refine lst_alloc (cs := [_, _]) hS rfl rfl rfl ?_
  clear hS
  intro b2 wx2 hS
  refine lst_done ?_
  refine goes_seq ?_
  refine goes_meet1 9 (3 :: 4 :: 5 :: 6 :: 7 :: 8 :: []) (fun v w' => ∃ A3 c3 A4 c4 O3 O4, Rw 59 3 (.slice A3 h.cs.length c3) h.cs.length (hcsL h.cs) O3 ∧ Rw 3 1 (.slice A4 h.tr.length c4) h.tr.length (intsV h.tr) O4 ∧ St M w0 ((b2, hob A3 h.cs.length c3 A4 h.tr.length c4) :: (b1, hob A h.cs.length c B h.tr.length d) :: (O3 ++ (O4 ++ H))) F w') ?_ ?_
  · intro hmeet
    refine goes_plan (St _ _ _ _) 7 (.read 0 (.read 1 (.read 3 (.read 4 (.pick 2 (.pick 5 (.read 6 .tail) .none) .none))))) (by kernel_rfl) (by kernel_rfl) hS.drew ?_
    replace hS := hS.drew
    refine pln_read rfl (fun _ hS => run_fieldAddr (off := 0) rfl rfl) rfl ?_
    first
      | refine pln_read rfl (fun _ hS => run_load1_own hS rfl rfl (by first | exact .head | exact .tail .head | exact .tail (.tail .head) | exact .tail (.tail (.tail .head)) | exact .tail (.tail (.tail (.tail .head))) | exact .tail (.tail (.tail (.tail (.tail .head))))) (by repeat constructor)) rfl ?_
      | refine pln_read rfl (fun _ hS => run_load1 rfl rfl (by first | assumption | exact (hcc _ hS).1 | exact (hcc _ hS).2.1 | exact (hcc _ hS).2.2 | exact (hcd _ hS).1 | exact (hcd _ hS).2.1 | exact (hcd _ hS).2.2 | exact hS.cell0 (by assumption) | exact lv_next hS | exact lv_list hS)) rfl ?_
    refine pln_read rfl (fun _ hS => run_fieldAddr (off := 1) rfl rfl) rfl ?_
    first
      | refine pln_read rfl (fun _ hS => run_load1_own hS rfl rfl (by first | exact .head | exact .tail .head | exact .tail (.tail .head) | exact .tail (.tail (.tail .head)) | exact .tail (.tail (.tail (.tail .head))) | exact .tail (.tail (.tail (.tail (.tail .head))))) (by repeat constructor)) rfl ?_
      | refine pln_read rfl (fun _ hS => run_load1 rfl rfl (by first | assumption | exact (hcc _ hS).1 | exact (hcc _ hS).2.1 | exact (hcc _ hS).2.2 | exact (hcd _ hS).1 | exact (hcd _ hS).2.1 | exact (hcd _ hS).2.2 | exact hS.cell0 (by assumption) | exact lv_next hS | exact lv_list hS)) rfl ?_
    refine pln_last rfl ?_
    refine lst_appC (xs := []) (O := []) hS (by conv => lhs; whnf) (by conv => lhs; whnf) rfl rfl rfl (hS.und hL) Rw.zero_ (.refl _) (by omega) rfl ?_
    clear hS
    intro v3 O3 w3 hrow3 hS
    rw [Nat.zero_add, List.nil_append] at hrow3
    obtain ⟨A3, c3, rfl, _⟩ := hrow3.form
    replace hS := hS.perm (List.perm_append_comm_assoc O3 [_, _] _)
    refine lst_pln (by first | exact hS | exact hS.drop | exact hS.drop.drop | exact hS.drop.drop.drop | exact hS.unlearn | exact hS.unlearn.drop | exact hS.unlearn.drop.drop | exact St.dropL (L := O3) (hS.perm (List.perm_append_comm_assoc [_, _] O3 _)) | exact St.dropL (L := O4) (hS.perm (List.perm_append_comm_assoc [_, _] O4 _)) | exact St.dropL (L := O3) ((St.dropL (L := O4) (hS.perm (List.perm_append_comm_assoc [_, _] O4 _))).perm (List.perm_append_comm_assoc [_, _] O3 _)) | exact St.dropL (L := O4) ((St.dropL (L := O3) (hS.perm (List.perm_append_comm_assoc [_, _] O3 _))).perm (List.perm_append_comm_assoc [_, _] O4 _))) ?_
    refine pln_last rfl ?_
    refine lst_appI (xs := []) (O := []) hS (by conv => lhs; whnf) (by conv => lhs; whnf) rfl rfl rfl (hS.und hT) Rw.zero_ (.refl _) (by omega) rfl ?_
    clear hS
    intro v4 O4 w4 hrow4 hS
    rw [Nat.zero_add, List.nil_append] at hrow4
    obtain ⟨A4, c4, rfl, _⟩ := hrow4.form
    replace hS := hS.perm (List.perm_append_comm_assoc O4 [_, _] _)
    refine lst_pln (by first | exact hS | exact hS.drop | exact hS.drop.drop | exact hS.drop.drop.drop | exact hS.unlearn | exact hS.unlearn.drop | exact hS.unlearn.drop.drop | exact St.dropL (L := O3) (hS.perm (List.perm_append_comm_assoc [_, _] O3 _)) | exact St.dropL (L := O4) (hS.perm (List.perm_append_comm_assoc [_, _] O4 _)) | exact St.dropL (L := O3) ((St.dropL (L := O4) (hS.perm (List.perm_append_comm_assoc [_, _] O4 _))).perm (List.perm_append_comm_assoc [_, _] O3 _)) | exact St.dropL (L := O4) ((St.dropL (L := O3) (hS.perm (List.perm_append_comm_assoc [_, _] O3 _))).perm (List.perm_append_comm_assoc [_, _] O4 _))) ?_
    refine pln_read rfl (fun _ hS => run_build (cells := [_, _]) (.cons (by conv => lhs; whnf) (.cons (by conv => lhs; whnf) .nil)) rfl) rfl ?_
    refine pln_tail ?_
    refine lst_storeN hS rfl (by conv => lhs; whnf) rfl rfl (by first | exact .head | exact .tail .head | exact .tail (.tail .head) | exact .tail (.tail (.tail .head)) | exact .tail (.tail (.tail (.tail .head))) | exact .tail (.tail (.tail (.tail (.tail .head))))) (by repeat constructor) (by first | exact .head | exact .tail .head | exact .tail (.tail .head) | exact .tail (.tail (.tail .head)) | exact .tail (.tail (.tail (.tail .head))) | exact .tail (.tail (.tail (.tail (.tail .head))))) ?_
    clear hS
    intro wx3 hS
    refine lst_done ?_
    exact hmeet _ _ _ ⟨A3, c3, A4, c4, O3, O4, hrow3, hrow4, by first | exact hS | exact hS.perm (.cons _ (.cons _ (List.perm_append_comm_assoc O4 O3 _)))⟩ (by conv => lhs; whnf) (by kernel_rfl)
  clear hS
  rintro jv _ w5 ⟨A3, c3, A4, c4, O3, O4, hrow3, hrow4, hS⟩
  refine goes_retC (sz := 2) hS Try.func11 rfl rfl rfl rfl (by first | exact .head | exact .tail .head | exact .tail (.tail .head) | exact .tail (.tail (.tail .head)) | exact .tail (.tail (.tail (.tail .head))) | exact .tail (.tail (.tail (.tail (.tail .head))))) (by repeat constructor) ?_
  exact ⟨A3, c3, A4, c4, O3, O4, rfl, hrow3, hrow4, hS.drop.drop⟩
/-- A copy that nobody writes. -/
theorem copyHeap_kept (h : HH) (A B : Option Addr) (c d : Nat) (w : World) (hH : Und F (HFl h A c B d)) (hl : h.cs.length ≤ 4398046511104) (hl2 : h.tr.length ≤ 17592186044416) (hS : St M w0 H F w) :
    Calls Try.prog 11 #[hv h A c B d] w (HRes M w0 H F h fun A' c' B' d' e => e = .returned (hv h A' c' B' d')) :=
  (copyHeap_any h A B c d w hH hl hl2 hS).mono fun e w' ⟨A3, c3, A4, c4, O3, O4, he, hrow3, hrow4, hS⟩ => by
    have hS3 := St.freezeR hrow3 hS
    have hS4 := St.freezeR hrow4 hS3
    exact ⟨A3, c3, A4, c4, _, he, fun φ h => .tail _ (.tail _ h), fun w' hw => ⟨hw _ (.tail _ (.head _)), hw _ (.head _)⟩, hS4⟩
end
end Go.Proofs.Ytjicoifjgokoiab
namespace Go.Proofs.Ytjicoifjgokoiab
open Go.RowKit
set_option linter.unusedVariables false
set_option linter.unusedSimpArgs false

theorem stepLong {u : HU} (h : 400 ≤ u.w) : u.step.lg = true := by
  simp only [HU.step]; rw [decide_eq_true (by omega)]; simp
/-- Two looks, one after the other. -/
theorem looks_ok {u : HU} {a b : Int} (h : ((u.step.look a).2.look b).2.lg = false) :
    u.step.lg = false ∧ (u.step.look a).1 = hlook u.cs a ∧ ((u.step.look a).2.look b).1 = hlook u.cs b ∧ End u.cs a (hlook u.cs a) ∧ End u.cs b (hlook u.cs b) ∧ ((u.step.look a).2.look b).2.cs = u.cs ∧ ((u.step.look a).2.look b).2.tr = u.tr ∧ ((u.step.look a).2.look b).2.w = u.w + 1 := by
  have hwa := look_w u.step a
  have hwb := look_w (u.step.look a).2 b
  obtain ⟨hla, hb1, hb2⟩ := look_ok h
  obtain ⟨hls, ha1, ha2⟩ := look_ok hla
  rw [hwa.2.1] at hb1 hb2
  exact ⟨hls, ha1, hb1, end_look ha2, end_look hb2, by rw [hwb.2.1, hwa.2.1]; rfl, by rw [hwb.2.2, hwa.2.2]; rfl, by rw [hwb.1, hwa.1]; rfl⟩
/-- What a run that comes to an end without being long has made of two places. -/
structure One (a b : Int) (u : HU) (v : HU) : Prop where
  up : Up u.cs v.cs
  sm : ∀ L, Up v.cs L → Sm L a b
theorem all_one {n : Nat} {g : Int → Int → HU → Bool × HU} (hu : ∀ x y u, GU n u → u.lg = false → UU n u (g x y u)) (hg : ∀ x y u, GU n u → u.lg = false → (g x y u).1 = true → One x y u (g x y u).2) :
    ∀ (m : Nat) (x y : Int) (u : HU), GU n u → u.lg = false → (allU g m x y u).1 = true → Up u.cs (allU g m x y u).2.cs ∧ ∀ L, Up (allU g m x y u).2.cs L → ∀ i : Int, 0 ≤ i → i < m → Sm L (x + i) (y + i)
  | 0, x, y, u, h, hl, _ => ⟨Up.refl _, fun L _ i i0 i1 => by omega⟩
  | m + 1, x, y, u, h, hl, hr => by
    have h1 := hu x y u h hl
    simp only [allU] at hr ⊢
    by_cases hok : (g x y u).1 = true
    · rw [if_pos hok] at hr ⊢
      have o1 := hg x y u h hl hok
      obtain ⟨u1, u2⟩ := all_one hu hg m (x + 1) (y + 1) (g x y u).2 h1.gu (h1.ok hok) hr
      refine ⟨o1.up.trans u1, fun L hL i i0 i1 => ?_⟩
      by_cases hi : i = 0
      · subst hi
        have := o1.sm L (u1.trans hL)
        simpa using this
      · have := u2 L hL (i - 1) (by omega) (by omega)
        rw [show x + 1 + (i - 1) = x + i by omega, show y + 1 + (i - 1) = y + i by omega] at this
        exact this
    · rw [if_neg hok] at hr; exact absurd hr hok
theorem asg_one {n : Nat} {u : HU} (h : GU n u) {p q : Int} {x y : HC} (hx : hat u.cs p = some x) (hxk : x.k = 0) (hxe : x.n = p) (hy : hat u.cs q = some y) (hyk : y.k ≠ 0) (hr : (asgU p q u).1 = true) :
    (asgU p q u).2.cs = setN u.cs p.toNat q ∧ (asgU p q u).2.tr = u.tr ++ [p] ∧ q ≠ p := by
  have ho := occ_up (n := n) p 401 q u h.good h.wk
  unfold asgU at hr ⊢
  split at hr
  · cases hr
  · rename_i hn
    rw [if_neg hn]
    refine ⟨by simp only [HU.bind]; rw [ho.cs], by simp only [HU.bind]; rw [ho.tr], fun e => ?_⟩
    rw [e, hx] at hy; cases hy; exact hyk hxk
theorem uni_one {n : Nat} : ∀ (f : Nat) (a b : Int) (u : HU), GU n u → u.lg = false → (uniU f a b u).1 = true → One a b u (uniU f a b u).2
  | 0, a, b, u, h, hl, hr => by simp [uniU] at hr
  | f + 1, a, b, u, h, hl, hr => by
    have hg2 : GU n ((u.step.look a).2.look b).2 := (h.step.look a).look b
    simp only [uniU] at hr ⊢
    by_cases hl2 : ((u.step.look a).2.look b).2.lg = true
    · rw [if_pos hl2] at hr; cases hr
    have hl3 : ((u.step.look a).2.look b).2.lg = false := by simpa using hl2
    rw [if_neg hl2] at hr ⊢
    obtain ⟨_, ha, hb, ea, eb, hcs, htr, _⟩ := looks_ok hl3
    rw [ha, hb] at hr ⊢
    obtain ⟨x, hx, hxe⟩ := ea.last
    obtain ⟨y, hy, hye⟩ := eb.last
    generalize hp : hlook u.cs a = p at *
    generalize hq : hlook u.cs b = q at *
    generalize ((u.step.look a).2.look b).2 = v at *
    rw [show kindAt u.cs p = x.k by unfold kindAt; rw [hx], show kindAt u.cs q = y.k by unfold kindAt; rw [hy]] at hr ⊢
    have fin : ∀ {L1 : List HC} {z : Int}, Up u.cs L1 → End L1 a z → End L1 b z → ∀ {v' : HU}, v'.cs = L1 → One a b u v' := fun hU h1 h2 v' e => ⟨by rw [e]; exact hU, fun L hL => by
      rw [e] at hL
      obtain ⟨s, s1, s2⟩ := hL.ends _ _ h1
      obtain ⟨t, t1, t2⟩ := hL.ends _ _ h2
      have := s2.det t2
      subst this
      exact Sm.meet s1 t1⟩
    have bindOne : ∀ {r z : Int} {c : HC}, hat u.cs r = some c → c.k = 0 → c.n = r → End u.cs z z → z ≠ r → (∀ a', End u.cs a' r ∨ End u.cs a' z → End (setN u.cs r.toNat z) a' z) := fun hr' hk' hn' hz hne a' ha' => by
      obtain ⟨k1, k2⟩ := end_bind hr' hk' hn' hz hne
      rcases ha' with g | g
      · exact k2 _ g
      · exact k1 _ _ g hne
    by_cases hxk : x.k = 0
    · have hxn : x.n = p := Classical.byContradiction fun e => hxe ⟨hxk, e⟩
      rw [if_pos hxk] at hr ⊢
      by_cases hyk : y.k = 0
      · have hyn : y.n = q := Classical.byContradiction fun e => hye ⟨hyk, e⟩
        rw [if_pos hyk] at hr ⊢
        by_cases hpq : p = q
        · rw [if_pos hpq]
          subst hpq
          exact fin (Up.refl _) ea eb hcs
        · rw [if_neg hpq]
          rcases Int.le_total p q with hle | hle
          · rw [Int.max_eq_right hle, Int.min_eq_left hle]
            have := bindOne hy hyk hyn ea.self hpq
            exact fin (up_bind hy hyk hyn ea.self hpq) (this a (.inr ea)) (this b (.inl eb)) (by simp only [HU.bind]; rw [hcs])
          · rw [Int.max_eq_left hle, Int.min_eq_right hle]
            have := bindOne hx hxk hxn eb.self (Ne.symm hpq)
            exact fin (up_bind hx hxk hxn eb.self (Ne.symm hpq)) (this a (.inl ea)) (this b (.inr eb)) (by simp only [HU.bind]; rw [hcs])
      · rw [if_neg hyk] at hr ⊢
        obtain ⟨e1, _, hne⟩ := asg_one hg2 (p := p) (q := q) (by rw [hcs]; exact hx) hxk hxn (by rw [hcs]; exact hy) hyk hr
        rw [hcs] at e1
        have := bindOne hx hxk hxn eb.self hne
        exact fin (up_bind hx hxk hxn eb.self hne) (this a (.inl ea)) (this b (.inr eb)) e1
    · rw [if_neg hxk] at hr ⊢
      by_cases hyk : y.k = 0
      · have hyn : y.n = q := Classical.byContradiction fun e => hye ⟨hyk, e⟩
        rw [if_pos hyk] at hr ⊢
        obtain ⟨e1, _, hne⟩ := asg_one hg2 (p := q) (q := p) (by rw [hcs]; exact hy) hyk hyn (by rw [hcs]; exact hx) hxk hr
        rw [hcs] at e1
        have := bindOne hy hyk hyn ea.self hne
        exact fin (up_bind hy hyk hyn ea.self hne) (this a (.inr ea)) (this b (.inl eb)) e1
      · rw [if_neg hyk] at hr ⊢
        unfold partsU at hr ⊢
        by_cases hxy : hat v.cs p = hat v.cs q
        · rw [if_pos hxy] at hr ⊢
          obtain ⟨u1, u2⟩ := all_one (n := n) (fun x y u => uni_up f x y u) (fun x y u h hl hr => uni_one f x y u h hl hr) _ _ _ v hg2 hl3 hr
          replace u1 : Up u.cs (allU (uniU f) (argsAt v.cs p) (p + 1) (q + 1) v).2.cs := by rw [← hcs]; exact u1
          rw [hcs] at hxy
          rw [hx, hy] at hxy
          obtain rfl := Option.some.inj hxy
          have hA : argsAt v.cs p = (argsC x).toNat := by unfold argsAt; rw [hcs, hx]
          refine ⟨u1, fun L hL => ?_⟩
          have hU := u1.trans hL
          exact Sm.of (hU.nonvar ea hx hxk) (hU.nonvar eb hy hyk) (.inr ⟨x, hU.cell _ _ hx hxk, hU.cell _ _ hy hyk, hxk, fun i i0 i1 => u2 L hL i i0 (by rw [hA]; omega)⟩)
        · rw [if_neg hxy] at hr; cases hr
/-- What is one needs nothing more. -/
def Still (u : HU) (r : Bool × HU) : Prop := r.2.lg = true ∨ (r.1 = true ∧ r.2.cs = u.cs ∧ r.2.tr = u.tr ∧ u.w ≤ r.2.w ∧ r.2.lg = false)
theorem all_still {n : Nat} {g : Int → Int → HU → Bool × HU} {L : List HC} {k : Nat} (hu : ∀ x y u, GU n u → u.lg = false → UU n u (g x y u)) (hg : ∀ x y u, GU n u → u.lg = false → u.cs = L → k ≤ u.w → Sm L x y → Still u (g x y u)) :
    ∀ (m : Nat) (x y : Int) (u : HU), GU n u → u.lg = false → u.cs = L → k ≤ u.w → (∀ i : Int, 0 ≤ i → i < m → Sm L (x + i) (y + i)) → Still u (allU g m x y u)
  | 0, x, y, u, h, hl, hc, hw, _ => .inr ⟨rfl, rfl, rfl, Nat.le_refl _, hl⟩
  | m + 1, x, y, u, h, hl, hc, hw, hs => by
    have h1 := hu x y u h hl
    simp only [allU]
    rcases hg x y u h hl hc hw (by simpa using hs 0 (by omega) (by omega)) with h2 | ⟨h2, h3, h4, h5, h6⟩
    · by_cases hok : (g x y u).1 = true
      · rw [h1.ok hok] at h2; cases h2
      · rw [if_neg hok]; exact .inl h2
    · rw [if_pos h2]
      rcases all_still hu hg m (x + 1) (y + 1) (g x y u).2 h1.gu h6 (h3.trans hc) (by omega) (fun i i0 i1 => by
        have := hs (i + 1) (by omega) (by omega)
        rw [show x + 1 + i = x + (i + 1) by omega, show y + 1 + i = y + (i + 1) by omega]; exact this) with g2 | ⟨g2, g3, g4, g5, g6⟩
      · exact .inl g2
      · exact .inr ⟨g2, g3.trans h3, g4.trans h4, by omega, g6⟩
theorem uni_still {n : Nat} {L : List HC} : ∀ (f : Nat) (a b : Int) (u : HU), GU n u → u.lg = false → u.cs = L → 400 ≤ u.w + f → Sm L a b → Still u (uniU f a b u)
  | 0, a, b, u, h, hl, hc, hw, hs => by
    left
    simp only [uniU]
    cases hq : ((u.step.look a).2.look b).2.lg with
    | true => rfl
    | false => have := (looks_ok hq).1; rw [stepLong (by omega)] at this; cases this
  | f + 1, a, b, u, h, hl, hc, hw, hs => by
    have hg2 : GU n ((u.step.look a).2.look b).2 := (h.step.look a).look b
    simp only [uniU]
    by_cases hl2 : ((u.step.look a).2.look b).2.lg = true
    · rw [if_pos hl2]; exact .inl hl2
    have hl3 : ((u.step.look a).2.look b).2.lg = false := by simpa using hl2
    rw [if_neg hl2]
    obtain ⟨_, ha, hb, ea, eb, hcs, htr, hw2⟩ := looks_ok hl3
    rw [ha, hb]
    obtain ⟨x, hx, hxe⟩ := ea.last
    obtain ⟨y, hy, hye⟩ := eb.last
    have hstep := hs.step (by rw [← hc]; exact ea) (by rw [← hc]; exact eb)
    rw [← hc] at hstep
    generalize hlook u.cs a = p at *
    generalize hlook u.cs b = q at *
    generalize ((u.step.look a).2.look b).2 = v at *
    rw [show kindAt u.cs p = x.k by unfold kindAt; rw [hx], show kindAt u.cs q = y.k by unfold kindAt; rw [hy]]
    have parts : (∀ i : Int, 0 ≤ i → i < argsC x → Sm L (p + 1 + i) (q + 1 + i)) → hat u.cs p = hat u.cs q → Still u (partsU (uniU f) p q v) := fun hch he => by
      unfold partsU
      rw [if_pos (by rw [hcs]; exact he)]
      have hA : argsAt v.cs p = (argsC x).toNat := by unfold argsAt; rw [hcs, hx]
      rcases all_still (n := n) (L := L) (k := v.w) (fun x y u => uni_up f x y u) (fun x y u g1 g2 g3 g4 g5 => uni_still f x y u g1 g2 g3 (by omega) g5) (argsAt v.cs p) (p + 1) (q + 1) v hg2 hl3 (hcs.trans hc) (Nat.le_refl _) (fun i i0 i1 => hch i i0 (by rw [hA] at i1; omega)) with g2 | ⟨g2, g3, g4, g5, g6⟩
      · exact .inl g2
      · exact .inr ⟨g2, g3.trans hcs, g4.trans htr, by omega, g6⟩
    rcases hstep with e | ⟨c, h1, h2, h3, h4⟩
    · subst e
      rw [hx] at hy; cases hy
      by_cases hk : x.k = 0
      · rw [if_pos hk, if_pos hk, if_pos rfl]
        exact .inr ⟨rfl, hcs, htr, by show u.w ≤ v.w; omega, hl3⟩
      · rw [if_neg hk, if_neg hk]
        exact parts (fun i _ _ => Sm.refl L _) rfl
    · rw [hx] at h1; cases h1
      rw [hy] at h2; cases h2
      rw [if_neg h3, if_neg h3]
      exact parts (fun i i0 i1 => by rw [← hc]; exact h4 i i0 i1) (by rw [hx, hy])
end Go.Proofs.Ytjicoifjgokoiab
namespace Go.Proofs.Ytjicoifjgokoiab
open Go.RowKit
set_option linter.unusedVariables false
set_option linter.unusedSimpArgs false

def ups (x : Int) : Nat → List Int
  | 0 => []
  | m + 1 => x :: ups (x + 1) m
def ups2 (x y : Int) : Nat → List (Int × Int)
  | 0 => []
  | m + 1 => (x, y) :: ups2 (x + 1) (y + 1) m
theorem ups_len (x : Int) (m : Nat) : (ups x m).length = m := by
  induction m generalizing x with
  | zero => rfl
  | succ m ih => simp [ups, ih]
theorem ups2_len (x y : Int) (m : Nat) : (ups2 x y m).length = m := by
  induction m generalizing x y with
  | zero => rfl
  | succ m ih => simp [ups2, ih]
theorem ups_snoc (x : Int) (m : Nat) : ups x (m + 1) = ups x m ++ [x + (m : Nat)] := by
  induction m generalizing x with
  | zero => simp [ups]
  | succ m ih =>
    rw [ups, ih (x + 1), ups]
    simp
    omega
theorem ups2_snoc (x y : Int) (m : Nat) : ups2 x y (m + 1) = ups2 x y m ++ [(x + (m : Nat), y + (m : Nat))] := by
  induction m generalizing x y with
  | zero => simp [ups2]
  | succ m ih =>
    rw [ups2, ih (x + 1) (y + 1), ups2]
    simp
    constructor <;> omega
theorem step_facts {u : HU} {b : Int} (h : (u.step.look b).2.lg = false) : u.lg = false ∧ u.w + 1 ≤ 400 ∧ (u.step.look b).2.w = u.w + 1 ∧ (u.step.look b).2.cs = u.cs ∧ (u.step.look b).2.tr = u.tr ∧ (u.step.look b).1 = hlook u.cs b ∧ ¬ hlook u.cs b < 0 := by
  obtain ⟨h1, h2, h3⟩ := look_ok h
  have hw := look_w u.step b
  simp only [HU.step, Bool.or_eq_false_iff, decide_eq_false_iff_not] at h1
  exact ⟨h1.1, by omega, by rw [hw.1]; rfl, by rw [hw.2.1]; rfl, by rw [hw.2.2]; rfl, h2, h3⟩
theorem occ_succ (a b : Int) (f : Nat) (u : HU) : occU a (f + 1) b u = if (u.step.look b).2.lg = true then (false, (u.step.look b).2)
    else if a = (u.step.look b).1 then (true, (u.step.look b).2)
    else anyU (occU a f) (argsAt u.cs (u.step.look b).1) ((u.step.look b).1 + 1) (u.step.look b).2 := rfl
theorem uni_succ (a b : Int) (f : Nat) (u : HU) : uniU (f + 1) a b u = if ((u.step.look a).2.look b).2.lg = true then (false, ((u.step.look a).2.look b).2)
    else if kindAt u.cs (u.step.look a).1 = 0 then
      if kindAt u.cs ((u.step.look a).2.look b).1 = 0 then
        if (u.step.look a).1 = ((u.step.look a).2.look b).1 then (true, ((u.step.look a).2.look b).2)
        else (true, ((u.step.look a).2.look b).2.bind (max (u.step.look a).1 ((u.step.look a).2.look b).1) (min (u.step.look a).1 ((u.step.look a).2.look b).1))
      else asgU (u.step.look a).1 ((u.step.look a).2.look b).1 ((u.step.look a).2.look b).2
    else if kindAt u.cs ((u.step.look a).2.look b).1 = 0 then asgU ((u.step.look a).2.look b).1 (u.step.look a).1 ((u.step.look a).2.look b).2
    else partsU (uniU f) (u.step.look a).1 ((u.step.look a).2.look b).1 ((u.step.look a).2.look b).2 := rfl
theorem occ_long {a b : Int} {u : HU} (f : Nat) (h : (u.step.look b).2.lg = true) : occU a f b u = (false, (u.step.look b).2) := by
  cases f with
  | zero => rfl
  | succ f => simp only [occU]; rw [if_pos h]
theorem any_congr {n f : Nat} {g g' : Int → HU → Bool × HU} {cs : List HC} {k : Nat} (hu : ∀ x u, u.cs = cs → (u.lg = false → u.w ≤ 400) → OU n f u (g x u).2) (hg : ∀ x u, u.cs = cs → (u.lg = false → u.w ≤ 400) → (u.lg = true ∨ k ≤ u.w) → g x u = g' x u) :
    ∀ (m : Nat) (x : Int) (u : HU), u.cs = cs → (u.lg = false → u.w ≤ 400) → (u.lg = true ∨ k ≤ u.w) → anyU g m x u = anyU g' m x u
  | 0, x, u, _, _, _ => rfl
  | m + 1, x, u, hc, hw, hk => by
    have h1 := hu x u hc hw
    simp only [anyU]
    rw [← hg x u hc hw hk]
    split
    · rfl
    · refine any_congr hu hg m (x + 1) _ (h1.cs.trans hc) h1.wk ?_
      rcases hk with hk | hk
      · exact .inl (h1.lg hk)
      · exact .inr (by have := h1.lt; omega)
theorem occ_fuel {n : Nat} (a : Int) : ∀ (f g : Nat) (b : Int) (u : HU), goodL n u.cs = true → (u.lg = false → u.w ≤ 400) → (u.lg = true ∨ (400 ≤ u.w + f ∧ 400 ≤ u.w + g)) → occU a f b u = occU a g b u
  | f, g, b, u, hgd, hw, hk => by
    cases hs : (u.step.look b).2.lg with
    | true => rw [occ_long f hs, occ_long g hs]
    | false =>
      obtain ⟨h1, h2, h3, h4, _, h6, _⟩ := step_facts hs
      rcases hk with hk | ⟨hk1, hk2⟩
      · rw [h1] at hk; cases hk
      match f, g, hk1, hk2 with
      | f + 1, g + 1, hk1, hk2 =>
        have hsn : ¬ (u.step.look b).2.lg = true := by rw [hs]; decide
        simp only [occU]
        rw [if_neg hsn, if_neg hsn]
        split
        · rfl
        · exact any_congr (n := n) (f := f) (cs := u.cs) (k := u.w + 1) (fun x v hv hwv => occ_up a f x v (by rw [hv]; exact hgd) hwv)
            (fun x v hv hwv hkv => occ_fuel a f g x v (by rw [hv]; exact hgd) hwv (hkv.imp id fun h => ⟨by omega, by omega⟩)) _ _ _ h4 (fun _ => by omega) (.inr (by omega))
      | 0, g, hk1, _ => omega
      | f + 1, 0, _, hk2 => omega
/-- Occurs, by a list of places. -/
def runO (a : Int) : List Int → HU → Bool × HU
  | [], u => (false, u)
  | z :: r, u => if (occU a 401 z u).1 = true then occU a 401 z u else runO a r (occU a 401 z u).2
theorem any_runO (a : Int) : ∀ (m : Nat) (x : Int) (u : HU), anyU (occU a 401) m x u = runO a (ups x m) u
  | 0, x, u => rfl
  | m + 1, x, u => by simp only [anyU, ups, runO]; rw [any_runO a m]
theorem runO_app (a : Int) : ∀ (A B : List Int) (u : HU), runO a (A ++ B) u = if (runO a A u).1 = true then runO a A u else runO a B (runO a A u).2
  | [], B, u => by simp [runO]
  | z :: A, B, u => by
    by_cases h : (occU a 401 z u).1 = true
    · have e1 : ∀ S, runO a (z :: S) u = occU a 401 z u := fun S => by simp only [runO]; rw [if_pos h]
      rw [List.cons_append, e1, e1, if_pos h]
    · have e1 : ∀ S, runO a (z :: S) u = runO a S (occU a 401 z u).2 := fun S => by simp only [runO]; rw [if_neg h]
      rw [List.cons_append, e1, e1]; exact runO_app a A B _
theorem runO_lg (a : Int) : ∀ (S : List Int) (u : HU), u.lg = true → (runO a S u).1 = false ∧ (runO a S u).2.lg = true
  | [], u, h => ⟨rfl, h⟩
  | z :: r, u, h => by
    have hs : (u.step.look z).2.lg = true := by
      cases hq : (u.step.look z).2.lg with
      | true => rfl
      | false => have := (step_facts hq).1; rw [h] at this; cases this
    simp only [runO]
    rw [occ_long 401 hs, if_neg (by simp)]
    exact runO_lg a r _ hs
theorem runO_one (a b : Int) (u : HU) : runO a [b] u = occU a 401 b u := by
  simp only [runO]
  split
  · rfl
  · rename_i h
    have : (occU a 401 b u).1 = false := by simpa using h
    rw [← this]
theorem runO_long {a z : Int} {r : List Int} {u : HU} (hs : (u.step.look z).2.lg = true) : (runO a (z :: r) u).1 = false ∧ (runO a (z :: r) u).2.lg = true := by
  simp only [runO]
  rw [occ_long 401 hs, if_neg (by simp)]
  exact runO_lg a r _ hs
theorem runO_found {a z : Int} {r : List Int} {u : HU} (hs : (u.step.look z).2.lg = false) (he : a = hlook u.cs z) : runO a (z :: r) u = (true, (u.step.look z).2) := by
  have h6 := (step_facts hs).2.2.2.2.2.1
  have : occU a 401 z u = (true, (u.step.look z).2) := by
    rw [show (401 : Nat) = 400 + 1 from rfl, occ_succ, if_neg (by rw [hs]; decide), if_pos (by rw [h6]; exact he)]
  simp only [runO]
  rw [this, if_pos rfl]
theorem runO_next {n : Nat} {a z : Int} {r : List Int} {u : HU} (hg : goodL n u.cs = true) (hs : (u.step.look z).2.lg = false) (he : a ≠ hlook u.cs z) : runO a (z :: r) u = runO a (ups (hlook u.cs z + 1) (argsAt u.cs (hlook u.cs z)) ++ r) (u.step.look z).2 := by
  obtain ⟨h1, h2, h3, h4, _, h6, _⟩ := step_facts hs
  have : occU a 401 z u = runO a (ups (hlook u.cs z + 1) (argsAt u.cs (hlook u.cs z))) (u.step.look z).2 := by
    rw [← any_runO]
    rw [show occU a 401 z u = occU a (400 + 1) z u from rfl, occ_succ, if_neg (by rw [hs]; decide), if_neg (by rw [h6]; exact he), h6]
    exact any_congr (n := n) (f := 400) (cs := u.cs) (k := u.w + 1) (fun x v hv hwv => occ_up a 400 x v (by rw [hv]; exact hg) hwv)
      (fun x v hv hwv hkv => occ_fuel a 400 401 x v (by rw [hv]; exact hg) hwv (hkv.imp id fun h => ⟨by omega, by omega⟩)) _ _ _ h4 (fun _ => by omega) (.inr (by omega))
  rw [runO_app, ← this]
  simp only [runO]
theorem all_congr {n : Nat} {g g' : Int → Int → HU → Bool × HU} {k : Nat} (hu : ∀ x y u, GU n u → u.lg = false → UU n u (g x y u)) (hg : ∀ x y u, GU n u → u.lg = false → k ≤ u.w → g x y u = g' x y u) :
    ∀ (m : Nat) (x y : Int) (u : HU), GU n u → u.lg = false → k ≤ u.w → allU g m x y u = allU g' m x y u
  | 0, x, y, u, _, _, _ => rfl
  | m + 1, x, y, u, h, hl, hk => by
    have h1 := hu x y u h hl
    simp only [allU]
    rw [← hg x y u h hl hk]
    split
    · rename_i hok
      exact all_congr hu hg m (x + 1) (y + 1) _ h1.gu (h1.ok hok) (by have := h1.lt; omega)
    · rfl
theorem uni_long {a b : Int} {u : HU} (f : Nat) (h : ((u.step.look a).2.look b).2.lg = true) : uniU f a b u = (false, ((u.step.look a).2.look b).2) := by
  cases f with
  | zero => rfl
  | succ f => simp only [uniU]; rw [if_pos h]
theorem uni_fuel {n : Nat} : ∀ (f g : Nat) (a b : Int) (u : HU), GU n u → u.lg = false → 400 ≤ u.w + f → 400 ≤ u.w + g → uniU f a b u = uniU g a b u
  | f, g, a, b, u, h, hl, hk1, hk2 => by
    cases hs : ((u.step.look a).2.look b).2.lg with
    | true => rw [uni_long f hs, uni_long g hs]
    | false =>
      obtain ⟨h1, _, _, _, _, h6, _, h8⟩ := looks_ok hs
      have hG : GU n ((u.step.look a).2.look b).2 := (h.step.look a).look b
      have hst := step_facts (look_ok hs).1
      match f, g, hk1, hk2 with
      | f + 1, g + 1, hk1, hk2 =>
        have hsn : ¬ ((u.step.look a).2.look b).2.lg = true := by rw [hs]; decide
        simp only [uniU]
        rw [if_neg hsn, if_neg hsn]
        have hp : partsU (uniU f) (u.step.look a).1 ((u.step.look a).2.look b).1 ((u.step.look a).2.look b).2 = partsU (uniU g) (u.step.look a).1 ((u.step.look a).2.look b).1 ((u.step.look a).2.look b).2 := by
          unfold partsU
          split
          · exact all_congr (n := n) (k := u.w + 1) (fun x y v => uni_up f x y v) (fun x y v hv hlv hkv => uni_fuel f g x y v hv hlv (by omega) (by omega)) _ _ _ _ hG hs (by omega)
          · rfl
        rw [hp]
      | 0, g, hk1, _ => omega
      | f + 1, 0, _, hk2 => omega
/-- What two places come to, once it is known where they lead. -/
def oneU (p q : Int) (s : HU) : Bool × HU :=
  if kindAt s.cs p = 0 then
    if kindAt s.cs q = 0 then
      if p = q then (true, s) else (true, s.bind (max p q) (min p q))
    else asgU p q s
  else if kindAt s.cs q = 0 then asgU q p s
  else partsU (uniU 401) p q s
theorem uni_unfold {n : Nat} {a b : Int} {u : HU} (h : GU n u) (hs : ((u.step.look a).2.look b).2.lg = false) : uniU 401 a b u = oneU (hlook u.cs a) (hlook u.cs b) ((u.step.look a).2.look b).2 := by
  obtain ⟨h1, h2, h3, _, _, h6, _, h8⟩ := looks_ok hs
  have hst := step_facts (look_ok hs).1
  have hG : GU n ((u.step.look a).2.look b).2 := (h.step.look a).look b
  rw [show uniU 401 a b u = uniU (400 + 1) a b u from rfl, uni_succ, if_neg (by rw [hs]; decide), h2, h3]
  unfold oneU
  rw [h6]
  have hp : partsU (uniU 400) (hlook u.cs a) (hlook u.cs b) ((u.step.look a).2.look b).2 = partsU (uniU 401) (hlook u.cs a) (hlook u.cs b) ((u.step.look a).2.look b).2 := by
    unfold partsU
    split
    · exact all_congr (n := n) (k := u.w + 1) (fun x y v => uni_up 400 x y v) (fun x y v hv hlv hkv => uni_fuel 400 401 x y v hv hlv (by omega) (by omega)) _ _ _ _ hG hs (by omega)
    · rfl
  rw [hp]
/-- Unification, by a list of pairs. -/
def runS : List (Int × Int) → HU → Bool × HU
  | [], u => (true, u)
  | p :: r, u => if (uniU 401 p.1 p.2 u).1 = true then runS r (uniU 401 p.1 p.2 u).2 else uniU 401 p.1 p.2 u
def contS (t : Bool × HU) (r : List (Int × Int)) : Bool × HU := if t.1 = true then runS r t.2 else t
theorem runS_cons (p : Int × Int) (r : List (Int × Int)) (u : HU) : runS (p :: r) u = contS (uniU 401 p.1 p.2 u) r := rfl
theorem all_runS : ∀ (m : Nat) (x y : Int) (u : HU), allU (uniU 401) m x y u = runS (ups2 x y m) u
  | 0, x, y, u => rfl
  | m + 1, x, y, u => by simp only [allU, ups2, runS]; rw [all_runS m]
theorem runS_app : ∀ (A B : List (Int × Int)) (u : HU), runS (A ++ B) u = contS (runS A u) B
  | [], B, u => by simp [runS, contS]
  | p :: A, B, u => by
    by_cases h : (uniU 401 p.1 p.2 u).1 = true
    · have e1 : ∀ S, runS (p :: S) u = runS S (uniU 401 p.1 p.2 u).2 := fun S => by simp only [runS]; rw [if_pos h]
      rw [List.cons_append, e1, e1]; exact runS_app A B _
    · have e1 : ∀ S, runS (p :: S) u = uniU 401 p.1 p.2 u := fun S => by simp only [runS]; rw [if_neg h]
      rw [List.cons_append, e1, e1]; unfold contS; rw [if_neg h]
theorem runS_one (a b : Int) (u : HU) : runS [(a, b)] u = uniU 401 a b u := by
  simp only [runS]
  split
  · rename_i h; rw [← h]
  · rfl
theorem cont_parts (p q : Int) (s : HU) (r : List (Int × Int)) : contS (partsU (uniU 401) p q s) r = if hat s.cs p = hat s.cs q then runS (ups2 (p + 1) (q + 1) (argsAt s.cs p) ++ r) s else (false, s) := by
  unfold partsU
  split
  · rw [all_runS, runS_app]
  · simp [contS]
end Go.Proofs.Ytjicoifjgokoiab
