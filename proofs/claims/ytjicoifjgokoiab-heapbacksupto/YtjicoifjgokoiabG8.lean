/- SameNR, HRef2, HOne, HUndo, HRef5, LBacks: texts that follow one another, laid into one file. -/
import Derived.Test.YtjicoifjgokoiabG1
import Derived.Test.YtjicoifjgokoiabG0
import Derived.Test.YtjicoifjgokoiabG7
import Derived.Test.YtjicoifjgokoiabG4
import Derived.Test.YtjicoifjgokoiabG6
namespace Go.Proofs.Ytjicoifjgokoiab
open Go.RowKit
set_option linter.unusedVariables false
set_option linter.unusedSimpArgs false
set_option maxRecDepth 100000
set_option maxHeartbeats 1000000

theorem sameNumbersR_eq (L : List Int) (A B : Option Addr) (c d : Nat) (w : World) (hL : Flat 1 (intsV L) A L.length c w) (hK : Flat 1 (intsV L) B L.length d w) (hl : L.length ≤ 9223372036854775807) :
    Calls Try.prog 29 #[.slice A L.length c, .slice B L.length d] w fun e w' => e = .returned (.bool true) ∧ Below w.heap.size w w' := by
  have hS := ((St.start w).flat (M := []) hL).flat (M := []) hK
  refine goes_enter2 Try.func29 rfl Try.ntmps29 rfl ?_
  refine goes_seq ?_
  refine goes_region ?_
  refine lst_run (run_assign (by conv => lhs; whnf)) rfl ?_
  refine lst_done ?_
  refine goes_seq ?_
  refine goes_seq ?_
  refine goes_region ?_
  refine lst_run (run_move (by conv => lhs; whnf)) rfl ?_
  refine lst_run (run_len_slice rfl rfl rfl) rfl ?_
  refine lst_run (run_move (by conv => lhs; whnf)) rfl ?_
  refine lst_run (run_len_slice rfl rfl rfl) rfl ?_
  first
    | refine lst_run (run_neq_one_int rfl rfl) rfl ?_
    | refine lst_run (run_neq_no rfl rfl (by first | assumption | omega)) rfl ?_
    | refine lst_run (run_neq_yes rfl rfl (by omega)) rfl ?_
    | refine lst_run (rfl) rfl ?_
  refine lst_done ?_
  refine goes_false rfl ?_
  refine goes_skip ?_
  refine goes_seq ?_
  refine goes_seq ?_
  refine goes_region ?_
  refine lst_run (run_move (by conv => lhs; whnf)) rfl ?_
  refine lst_run (run_len_slice rfl rfl rfl) rfl ?_
  refine lst_run (run_move (by conv => lhs; whnf)) rfl ?_
  refine lst_done ?_
  refine goes_block ?_
  refine goes_loop1 13 (14 :: 15 :: 5 :: 16 :: 17 :: 18 :: 19 :: 20 :: 21 :: 22 :: 23 :: 24 :: 4 :: 25 :: []) (fun (R : List Int) v w' => ∃ D, L = D ++ R ∧ v = .int .i64 (D.length : Nat) ∧ St [] w [] [Flat 1 (intsV L) B L.length d, Flat 1 (intsV L) A L.length c] w') (fun R => R.length) (L) ?_ (by conv => lhs; whnf) ?_
  · exact ⟨[], rfl, rfl, hS⟩
  clear hS
  rintro R _ w2 jv ⟨D, hD, rfl, hS⟩ ih
  have hlen : L.length = D.length + R.length := by rw [hD]; simp
  cases R with
  | nil =>
    simp only [List.length_nil] at hlen
    refine goes_seq ?_
    refine goes_region ?_
    first
      | refine lst_run (run_lss_yes rfl rfl (by omega)) rfl ?_
      | refine lst_run (run_lss_no rfl rfl (by omega)) rfl ?_
      | refine lst_run (rfl) rfl ?_
    refine lst_done ?_
    refine goes_seq ?_
    refine goes_false rfl ?_
    refine goes_exit rfl ?_
    refine goes_seq ?_
    refine goes_region ?_
    refine lst_run (run_assign (by conv => lhs; whnf)) rfl ?_
    refine lst_done ?_
    refine goes_ret1 Try.func29 rfl (by conv => lhs; whnf) ?_
    exact ⟨rfl, hS.ext.below⟩
  | cons x R =>
    simp only [List.length_cons] at hlen
    obtain ⟨b, o, rfl⟩ := hL.some_ (by omega)
    obtain ⟨b2, o2, rfl⟩ := hK.some_ (by omega)
    have hx : L[D.length]? = some x := by rw [hD]; simp
    have hcc : ∀ {H'} w', St [] w H' [Flat 1 (intsV L) (some ⟨b2, o2, none⟩) L.length d, Flat 1 (intsV L) (some ⟨b, o, none⟩) L.length c] w' → _ := fun w' hS => (hS.fact (.head _)).int hx
    have hcd : ∀ {H'} w', St [] w H' [Flat 1 (intsV L) (some ⟨b2, o2, none⟩) L.length d, Flat 1 (intsV L) (some ⟨b, o, none⟩) L.length c] w' → _ := fun w' hS => (hS.fact (.tail _ (.head _))).int hx
    refine goes_seq ?_
    refine goes_region ?_
    first
      | refine lst_run (run_lss_yes rfl rfl (by omega)) rfl ?_
      | refine lst_run (run_lss_no rfl rfl (by omega)) rfl ?_
      | refine lst_run (rfl) rfl ?_
    refine lst_done ?_
    refine goes_seq ?_
    refine goes_true rfl ?_
    refine goes_skip ?_
    refine goes_seq ?_
    refine goes_block ?_
    refine goes_seq ?_
    refine goes_region ?_
    refine lst_run (run_move (by conv => lhs; whnf)) rfl ?_
    refine lst_run (run_assign (by conv => lhs; whnf)) rfl ?_
    refine lst_done ?_
    refine goes_seq ?_
    refine goes_draw (St _ _ _ _) 9 ((0, true) :: (1, true) :: (2, true) :: (3, true) :: (4, true) :: (5, true) :: (6, true) :: (7, true) :: (8, true) :: []) (by kernel_rfl) (by kernel_rfl) (hS.drew) ?_
    replace hS := hS.drew
    refine ord_read rfl (fun _ hS => run_move (by conv => lhs; whnf)) rfl ?_
    refine ord_read rfl (fun _ hS => run_move (by conv => lhs; whnf)) rfl ?_
    refine ord_read rfl (fun _ hS => run_indexAddr (sz := 1) rfl rfl rfl rfl (by omega) (by omega)) rfl ?_
    first
      | refine ord_read rfl (fun _ hS => run_load1_own hS rfl rfl (by first | exact .head | exact .tail .head | exact .tail (.tail .head) | exact .tail (.tail (.tail .head)) | exact .tail (.tail (.tail (.tail .head))) | exact .tail (.tail (.tail (.tail (.tail .head))))) (by repeat constructor)) rfl ?_
      | refine ord_read rfl (fun _ hS => run_load1 rfl rfl (by first | assumption | exact hcc _ hS | exact hcd _ hS | exact hS.cell0 (by assumption) | exact lv_next hS | exact lv_list hS)) rfl ?_
    refine ord_read rfl (fun _ hS => run_move (by conv => lhs; whnf)) rfl ?_
    refine ord_read rfl (fun _ hS => run_move (by conv => lhs; whnf)) rfl ?_
    refine ord_read rfl (fun _ hS => run_indexAddr (sz := 1) rfl rfl rfl rfl (by omega) (by omega)) rfl ?_
    first
      | refine ord_read rfl (fun _ hS => run_load1_own hS rfl rfl (by first | exact .head | exact .tail .head | exact .tail (.tail .head) | exact .tail (.tail (.tail .head)) | exact .tail (.tail (.tail (.tail .head))) | exact .tail (.tail (.tail (.tail (.tail .head))))) (by repeat constructor)) rfl ?_
      | refine ord_read rfl (fun _ hS => run_load1 rfl rfl (by first | assumption | exact hcc _ hS | exact hcd _ hS | exact hS.cell0 (by assumption) | exact lv_next hS | exact lv_list hS)) rfl ?_
    first
      | refine ord_read rfl (fun _ hS => run_neq_one_int rfl rfl) rfl ?_
      | refine ord_read rfl (fun _ hS => run_neq_no rfl rfl (by first | assumption | omega)) rfl ?_
      | refine ord_read rfl (fun _ hS => run_neq_yes rfl rfl (by omega)) rfl ?_
      | refine ord_read rfl (fun _ hS => rfl) rfl ?_
    refine ord_end ?_
    refine lst_done ?_
    refine goes_false rfl ?_
    refine goes_skip ?_
    refine goes_inBlock ?_
    refine goes_region ?_
    refine lst_run (run_add rfl rfl (by omega) (by omega)) rfl ?_
    refine lst_run (run_move (by conv => lhs; whnf)) rfl ?_
    refine lst_done ?_
    refine ih (R) _ _ _ ?_ ?_ (by conv => lhs; whnf) (by kernel_rfl)
    · simp
    · exact ⟨D ++ [x], by rw [hD]; simp, by simp, hS⟩
end Go.Proofs.Ytjicoifjgokoiab
namespace Go.Proofs.Ytjicoifjgokoiab
open Go.RowKit
set_option linter.unusedVariables false
set_option linter.unusedSimpArgs false
set_option maxRecDepth 100000
set_option maxHeartbeats 1000000

theorem sameCells_eq (L : List HC) (A B : Option Addr) (c d : Nat) (w : World) (hL : Flat 3 (hcsL L) A L.length c w) (hK : Flat 3 (hcsL L) B L.length d w) (hl : L.length ≤ 9223372036854775807) :
    Calls Try.prog 44 #[.slice A L.length c, .slice B L.length d] w fun e w' => e = .returned (.bool true) ∧ Below w.heap.size w w' := by
  have hS := ((St.start w).flat (M := []) hL).flat (M := []) hK
  refine goes_enter2 Try.func44 rfl Try.ntmps44 rfl ?_
  refine goes_seq ?_
  refine goes_region ?_
  refine lst_run (run_assign (by conv => lhs; whnf)) rfl ?_
  refine lst_done ?_
  refine goes_seq ?_
  refine goes_seq ?_
  refine goes_region ?_
  refine lst_run (run_move (by conv => lhs; whnf)) rfl ?_
  refine lst_run (run_len_slice rfl rfl rfl) rfl ?_
  refine lst_run (run_move (by conv => lhs; whnf)) rfl ?_
  refine lst_run (run_len_slice rfl rfl rfl) rfl ?_
  first
    | refine lst_run (run_neq_one_int rfl rfl) rfl ?_
    | refine lst_run (run_neq_no rfl rfl (by first | assumption | omega)) rfl ?_
    | refine lst_run (run_neq_yes rfl rfl (by omega)) rfl ?_
    | refine lst_run (rfl) rfl ?_
  refine lst_done ?_
  refine goes_false rfl ?_
  refine goes_skip ?_
  refine goes_seq ?_
  refine goes_seq ?_
  refine goes_region ?_
  refine lst_run (run_move (by conv => lhs; whnf)) rfl ?_
  refine lst_run (run_len_slice rfl rfl rfl) rfl ?_
  refine lst_run (run_move (by conv => lhs; whnf)) rfl ?_
  refine lst_done ?_
  refine goes_block ?_
  refine goes_loop1 13 (14 :: 15 :: 5 :: 16 :: 17 :: 18 :: 19 :: 20 :: 21 :: 22 :: 23 :: 24 :: 4 :: 25 :: []) (fun (R : List HC) v w' => ∃ D, L = D ++ R ∧ v = .int .i64 (D.length : Nat) ∧ St [] w [] [Flat 3 (hcsL L) B L.length d, Flat 3 (hcsL L) A L.length c] w') (fun R => R.length) (L) ?_ (by conv => lhs; whnf) ?_
  · exact ⟨[], rfl, rfl, hS⟩
  clear hS
  rintro R _ w2 jv ⟨D, hD, rfl, hS⟩ ih
  have hlen : L.length = D.length + R.length := by rw [hD]; simp
  cases R with
  | nil =>
    simp only [List.length_nil] at hlen
    refine goes_seq ?_
    refine goes_region ?_
    first
      | refine lst_run (run_lss_yes rfl rfl (by omega)) rfl ?_
      | refine lst_run (run_lss_no rfl rfl (by omega)) rfl ?_
      | refine lst_run (rfl) rfl ?_
    refine lst_done ?_
    refine goes_seq ?_
    refine goes_false rfl ?_
    refine goes_exit rfl ?_
    refine goes_seq ?_
    refine goes_region ?_
    refine lst_run (run_assign (by conv => lhs; whnf)) rfl ?_
    refine lst_done ?_
    refine goes_ret1 Try.func44 rfl (by conv => lhs; whnf) ?_
    exact ⟨rfl, hS.ext.below⟩
  | cons x R =>
    simp only [List.length_cons] at hlen
    obtain ⟨b, o, rfl⟩ := hL.some_ (by omega)
    obtain ⟨b2, o2, rfl⟩ := hK.some_ (by omega)
    have hx : L[D.length]? = some x := by rw [hD]; simp
    have hcc : ∀ {H'} w', St [] w H' [Flat 3 (hcsL L) (some ⟨b2, o2, none⟩) L.length d, Flat 3 (hcsL L) (some ⟨b, o, none⟩) L.length c] w' → _ := fun w' hS => (hS.fact (.head _)).cell hx
    have hcd : ∀ {H'} w', St [] w H' [Flat 3 (hcsL L) (some ⟨b2, o2, none⟩) L.length d, Flat 3 (hcsL L) (some ⟨b, o, none⟩) L.length c] w' → _ := fun w' hS => (hS.fact (.tail _ (.head _))).cell hx
    refine goes_seq ?_
    refine goes_region ?_
    first
      | refine lst_run (run_lss_yes rfl rfl (by omega)) rfl ?_
      | refine lst_run (run_lss_no rfl rfl (by omega)) rfl ?_
      | refine lst_run (rfl) rfl ?_
    refine lst_done ?_
    refine goes_seq ?_
    refine goes_true rfl ?_
    refine goes_skip ?_
    refine goes_seq ?_
    refine goes_block ?_
    refine goes_seq ?_
    refine goes_region ?_
    refine lst_run (run_move (by conv => lhs; whnf)) rfl ?_
    refine lst_run (run_assign (by conv => lhs; whnf)) rfl ?_
    refine lst_done ?_
    refine goes_seq ?_
    refine goes_draw (St _ _ _ _) 9 ((0, true) :: (1, true) :: (2, true) :: (3, true) :: (4, true) :: (5, true) :: (6, true) :: (7, true) :: (8, true) :: []) (by kernel_rfl) (by kernel_rfl) (hS.drew) ?_
    replace hS := hS.drew
    refine ord_read rfl (fun _ hS => run_move (by conv => lhs; whnf)) rfl ?_
    refine ord_read rfl (fun _ hS => run_move (by conv => lhs; whnf)) rfl ?_
    refine ord_read rfl (fun _ hS => run_indexAddr (sz := 3) rfl rfl rfl rfl (by omega) (by omega)) rfl ?_
    first
      | refine ord_read rfl (fun _ hS => run_loadN_own (k := 3) hS rfl rfl rfl (by first | exact .head | exact .tail .head | exact .tail (.tail .head) | exact .tail (.tail (.tail .head)) | exact .tail (.tail (.tail (.tail .head))) | exact .tail (.tail (.tail (.tail (.tail .head))))) (by repeat constructor)) rfl ?_
      | refine ord_read rfl (fun _ hS => run_load3 rfl rfl rfl (by first | assumption | exact (hcc _ hS).1 | exact (hcc _ hS).2.1 | exact (hcc _ hS).2.2 | exact (hcd _ hS).1 | exact (hcd _ hS).2.1 | exact (hcd _ hS).2.2 | exact hS.cell0 (by assumption)) (by first | assumption | exact (hcc _ hS).1 | exact (hcc _ hS).2.1 | exact (hcc _ hS).2.2 | exact (hcd _ hS).1 | exact (hcd _ hS).2.1 | exact (hcd _ hS).2.2 | exact hS.cell0 (by assumption)) (by first | assumption | exact (hcc _ hS).1 | exact (hcc _ hS).2.1 | exact (hcc _ hS).2.2 | exact (hcd _ hS).1 | exact (hcd _ hS).2.1 | exact (hcd _ hS).2.2 | exact hS.cell0 (by assumption))) rfl ?_
    refine ord_read rfl (fun _ hS => run_move (by conv => lhs; whnf)) rfl ?_
    refine ord_read rfl (fun _ hS => run_move (by conv => lhs; whnf)) rfl ?_
    refine ord_read rfl (fun _ hS => run_indexAddr (sz := 3) rfl rfl rfl rfl (by omega) (by omega)) rfl ?_
    first
      | refine ord_read rfl (fun _ hS => run_loadN_own (k := 3) hS rfl rfl rfl (by first | exact .head | exact .tail .head | exact .tail (.tail .head) | exact .tail (.tail (.tail .head)) | exact .tail (.tail (.tail (.tail .head))) | exact .tail (.tail (.tail (.tail (.tail .head))))) (by repeat constructor)) rfl ?_
      | refine ord_read rfl (fun _ hS => run_load3 rfl rfl rfl (by first | assumption | exact (hcc _ hS).1 | exact (hcc _ hS).2.1 | exact (hcc _ hS).2.2 | exact (hcd _ hS).1 | exact (hcd _ hS).2.1 | exact (hcd _ hS).2.2 | exact hS.cell0 (by assumption)) (by first | assumption | exact (hcc _ hS).1 | exact (hcc _ hS).2.1 | exact (hcc _ hS).2.2 | exact (hcd _ hS).1 | exact (hcd _ hS).2.1 | exact (hcd _ hS).2.2 | exact hS.cell0 (by assumption)) (by first | assumption | exact (hcc _ hS).1 | exact (hcc _ hS).2.1 | exact (hcc _ hS).2.2 | exact (hcd _ hS).1 | exact (hcd _ hS).2.1 | exact (hcd _ hS).2.2 | exact hS.cell0 (by assumption))) rfl ?_
    refine ord_read rfl (fun _ hS => run_neq_cell rfl rfl) rfl ?_
    refine ord_end ?_
    refine lst_done ?_
    rw [decide_eq_true (rfl : x = x)]
    refine goes_false rfl ?_
    refine goes_skip ?_
    refine goes_inBlock ?_
    refine goes_region ?_
    refine lst_run (run_add rfl rfl (by omega) (by omega)) rfl ?_
    refine lst_run (run_move (by conv => lhs; whnf)) rfl ?_
    refine lst_done ?_
    refine ih (R) _ _ _ ?_ ?_ (by conv => lhs; whnf) (by kernel_rfl)
    · simp
    · exact ⟨D ++ [x], by rw [hD]; simp, by simp, hS⟩
theorem sameHeap_eq (h : HH) (A B A2 B2 : Option Addr) (c d c2 d2 : Nat) (w : World) (h1 : HFl h A c B d w) (h2 : HFl h A2 c2 B2 d2 w) (hl : h.cs.length ≤ 9223372036854775807) (hl2 : h.tr.length ≤ 9223372036854775807) :
    Calls Try.prog 14 #[hv h A c B d, hv h A2 c2 B2 d2] w fun e w' => e = .returned (.bool true) ∧ Below w.heap.size w w' := by
  have hS := ((St.start w).base (φ := HFl h A c B d) fun w' hx => h1.ext hx).base (φ := HFl h A2 c2 B2 d2) fun w' hx => h2.ext hx
  refine goes_enter2 Try.func14 rfl Try.ntmps14 rfl ?_
  refine goes_seq ?_
  refine goes_region ?_
  refine lst_box hS rfl rfl ?_
  clear hS
  intro b1 wx1 hS
  refine lst_box hS rfl rfl ?_
  clear hS
  intro b2 wx2 hS
  refine lst_run (run_assign (by conv => lhs; whnf)) rfl ?_
  refine lst_done ?_
  refine goes_seq ?_
  refine goes_region ?_
  refine lst_run (run_fieldAddr (off := 0) rfl rfl) rfl ?_
  first
    | refine lst_run (run_load1_own hS rfl rfl (by first | exact .head | exact .tail .head | exact .tail (.tail .head) | exact .tail (.tail (.tail .head)) | exact .tail (.tail (.tail (.tail .head))) | exact .tail (.tail (.tail (.tail (.tail .head))))) (by repeat constructor)) rfl ?_
    | refine lst_run (run_load1 rfl rfl (by first | assumption | exact (hcc _ hS).1 | exact (hcc _ hS).2.1 | exact (hcc _ hS).2.2 | exact (hcd _ hS).1 | exact (hcd _ hS).2.1 | exact (hcd _ hS).2.2 | exact hS.cell0 (by assumption) | exact lv_next hS | exact lv_list hS)) rfl ?_
  refine lst_run (run_fieldAddr (off := 0) rfl rfl) rfl ?_
  first
    | refine lst_run (run_load1_own hS rfl rfl (by first | exact .head | exact .tail .head | exact .tail (.tail .head) | exact .tail (.tail (.tail .head)) | exact .tail (.tail (.tail (.tail .head))) | exact .tail (.tail (.tail (.tail (.tail .head))))) (by repeat constructor)) rfl ?_
    | refine lst_run (run_load1 rfl rfl (by first | assumption | exact (hcc _ hS).1 | exact (hcc _ hS).2.1 | exact (hcc _ hS).2.2 | exact (hcd _ hS).1 | exact (hcd _ hS).2.1 | exact (hcd _ hS).2.2 | exact hS.cell0 (by assumption) | exact lv_next hS | exact lv_list hS)) rfl ?_
  refine lst_enter (run_call (by kernel_rfl) (args_2 (by conv => lhs; whnf) (by conv => lhs; whnf))) rfl ?_
  refine Calls.mono (sameCells_eq h.cs A A2 c c2 _ (hS.fact (.tail _ (.head _))).1 (hS.fact (.head _)).1 hl) ?_
  rintro _ w3 ⟨rfl, hb3⟩
  refine ⟨_, rfl, ?_⟩
  replace hS := hS.grow hb3
  refine lst_run (run_move (by conv => lhs; whnf)) rfl ?_
  refine lst_guard rfl rfl ?_
  refine lst_run (run_fieldAddr (off := 1) rfl rfl) rfl ?_
  refine lst_guard rfl rfl ?_
  first
    | refine lst_run (run_load1_own hS rfl rfl (by first | exact .head | exact .tail .head | exact .tail (.tail .head) | exact .tail (.tail (.tail .head)) | exact .tail (.tail (.tail (.tail .head))) | exact .tail (.tail (.tail (.tail (.tail .head))))) (by repeat constructor)) rfl ?_
    | refine lst_run (run_load1 rfl rfl (by first | assumption | exact (hcc _ hS).1 | exact (hcc _ hS).2.1 | exact (hcc _ hS).2.2 | exact (hcd _ hS).1 | exact (hcd _ hS).2.1 | exact (hcd _ hS).2.2 | exact hS.cell0 (by assumption) | exact lv_next hS | exact lv_list hS)) rfl ?_
  refine lst_guard rfl rfl ?_
  refine lst_run (run_fieldAddr (off := 1) rfl rfl) rfl ?_
  refine lst_guard rfl rfl ?_
  first
    | refine lst_run (run_load1_own hS rfl rfl (by first | exact .head | exact .tail .head | exact .tail (.tail .head) | exact .tail (.tail (.tail .head)) | exact .tail (.tail (.tail (.tail .head))) | exact .tail (.tail (.tail (.tail (.tail .head))))) (by repeat constructor)) rfl ?_
    | refine lst_run (run_load1 rfl rfl (by first | assumption | exact (hcc _ hS).1 | exact (hcc _ hS).2.1 | exact (hcc _ hS).2.2 | exact (hcd _ hS).1 | exact (hcd _ hS).2.1 | exact (hcd _ hS).2.2 | exact hS.cell0 (by assumption) | exact lv_next hS | exact lv_list hS)) rfl ?_
  refine lst_guard rfl rfl ?_
  refine lst_enter (run_call (by kernel_rfl) (args_2 (by conv => lhs; whnf) (by conv => lhs; whnf))) rfl ?_
  refine Calls.mono (sameNumbersR_eq h.tr B B2 d d2 _ (hS.fact (.tail _ (.head _))).2 (hS.fact (.head _)).2 hl2) ?_
  rintro _ w4 ⟨rfl, hb4⟩
  refine ⟨_, rfl, ?_⟩
  replace hS := hS.grow hb4
  first
    | refine lst_run (run_pick_t rfl (by conv => lhs; whnf)) rfl ?_
    | refine lst_run (run_pick_f rfl (by conv => lhs; whnf)) rfl ?_
  refine lst_run (run_assign (by conv => lhs; whnf)) rfl ?_
  refine lst_done ?_
  refine goes_ret1 Try.func14 rfl (by conv => lhs; whnf) ?_
  exact ⟨rfl, hS.ext.below⟩
section
variable {M : List Nat} {w0 : World} {H : List (Nat × Obj)} {F : List (World → Prop)}
theorem copyHeap_any (h : HH) (A B : Option Addr) (c d : Nat) (w : World) (hH : Und F (HFl h A c B d)) (hl : h.cs.length ≤ 4398046511104) (hl2 : h.tr.length ≤ 17592186044416) (hS : St M w0 H F w) :
    Calls Try.prog 11 #[hv h A c B d] w fun e w' => ∃ (A' : Option Addr) (c' : Nat) (B' : Option Addr) (d' : Nat) (O O2 : List (Nat × Obj)), e = .returned (hv h A' c' B' d') ∧ Rw 59 3 (.slice A' h.cs.length c') h.cs.length (hcsL h.cs) O ∧ Rw 3 1 (.slice B' h.tr.length d') h.tr.length (intsV h.tr) O2 ∧ St M w0 (O ++ (O2 ++ H)) F w' := by
  have hL : Und F (Flat 3 (hcsL h.cs) A h.cs.length c) := hH.imp fun _ h => h.1
  have hT : Und F (Flat 1 (intsV h.tr) B h.tr.length d) := hH.imp fun _ h => h.2
  refine goes_enter1 Try.func11 rfl Try.ntmps11 rfl ?_
  refine goes_seq ?_
  refine goes_region ?_
  refine lst_box hS rfl rfl ?_
  clear hS
  intro b1 wx1 hS
  refine lst_alloc (cs := [_, _]) hS rfl rfl rfl ?_
  clear hS
  intro b2 wx2 hS
  refine lst_done ?_
  refine goes_seq ?_
  refine goes_meet1 9 (3 :: 4 :: 5 :: 6 :: 7 :: 8 :: []) (fun v w' => ∃ A3 c3 A4 c4 O3 O4, Rw 59 3 (.slice A3 h.cs.length c3) h.cs.length (hcsL h.cs) O3 ∧ Rw 3 1 (.slice A4 h.tr.length c4) h.tr.length (intsV h.tr) O4 ∧ St M w0 ((b2, hob A3 h.cs.length c3 A4 h.tr.length c4) :: (b1, hob A h.cs.length c B h.tr.length d) :: (O3 ++ (O4 ++ H))) F w') ?_ ?_
  · intro hmeet
    refine goes_plan (St _ _ _ _) 7 (.read 0 (.read 1 (.read 3 (.read 4 (.pick 2 (.pick 5 (.read 6 .tail) .none) .none))))) (by kernel_rfl) (by kernel_rfl) hS.drew ?_
    replace hS := hS.drew
    refine pln_read rfl (fun _ hS => run_fieldAddr (off := 0) rfl rfl) rfl ?_
    first
      | refine pln_read rfl (fun _ hS => run_load1_own hS rfl rfl (by first | exact .head | exact .tail .head | exact .tail (.tail .head) | exact .tail (.tail (.tail .head)) | exact .tail (.tail (.tail (.tail .head))) | exact .tail (.tail (.tail (.tail (.tail .head))))) (by repeat constructor)) rfl ?_
      | refine pln_read rfl (fun _ hS => run_load1 rfl rfl (by first | assumption | exact (hcc _ hS).1 | exact (hcc _ hS).2.1 | exact (hcc _ hS).2.2 | exact (hcd _ hS).1 | exact (hcd _ hS).2.1 | exact (hcd _ hS).2.2 | exact hS.cell0 (by assumption) | exact lv_next hS | exact lv_list hS)) rfl ?_
    refine pln_read rfl (fun _ hS => run_fieldAddr (off := 1) rfl rfl) rfl ?_
    first
      | refine pln_read rfl (fun _ hS => run_load1_own hS rfl rfl (by first | exact .head | exact .tail .head | exact .tail (.tail .head) | exact .tail (.tail (.tail .head)) | exact .tail (.tail (.tail (.tail .head))) | exact .tail (.tail (.tail (.tail (.tail .head))))) (by repeat constructor)) rfl ?_
      | refine pln_read rfl (fun _ hS => run_load1 rfl rfl (by first | assumption | exact (hcc _ hS).1 | exact (hcc _ hS).2.1 | exact (hcc _ hS).2.2 | exact (hcd _ hS).1 | exact (hcd _ hS).2.1 | exact (hcd _ hS).2.2 | exact hS.cell0 (by assumption) | exact lv_next hS | exact lv_list hS)) rfl ?_
    refine pln_last rfl ?_
    refine lst_appC (xs := []) (O := []) hS (by conv => lhs; whnf) (by conv => lhs; whnf) rfl rfl rfl (hS.und hL) Rw.zero_ (.refl _) (by omega) rfl ?_
    clear hS
    intro v3 O3 w3 hrow3 hS
    rw [Nat.zero_add, List.nil_append] at hrow3
    obtain ⟨A3, c3, rfl, _⟩ := hrow3.form
    replace hS := hS.perm (List.perm_append_comm_assoc O3 [_, _] _)
    refine lst_pln (by first | exact hS | exact hS.drop | exact hS.drop.drop | exact hS.drop.drop.drop | exact hS.unlearn | exact hS.unlearn.drop | exact hS.unlearn.drop.drop | exact St.dropL (L := O3) (hS.perm (List.perm_append_comm_assoc [_, _] O3 _)) | exact St.dropL (L := O4) (hS.perm (List.perm_append_comm_assoc [_, _] O4 _)) | exact St.dropL (L := O3) ((St.dropL (L := O4) (hS.perm (List.perm_append_comm_assoc [_, _] O4 _))).perm (List.perm_append_comm_assoc [_, _] O3 _)) | exact St.dropL (L := O4) ((St.dropL (L := O3) (hS.perm (List.perm_append_comm_assoc [_, _] O3 _))).perm (List.perm_append_comm_assoc [_, _] O4 _))) ?_
    refine pln_last rfl ?_
    refine lst_appI (xs := []) (O := []) hS (by conv => lhs; whnf) (by conv => lhs; whnf) rfl rfl rfl (hS.und hT) Rw.zero_ (.refl _) (by omega) rfl ?_
    clear hS
    intro v4 O4 w4 hrow4 hS
    rw [Nat.zero_add, List.nil_append] at hrow4
    obtain ⟨A4, c4, rfl, _⟩ := hrow4.form
    replace hS := hS.perm (List.perm_append_comm_assoc O4 [_, _] _)
    refine lst_pln (by first | exact hS | exact hS.drop | exact hS.drop.drop | exact hS.drop.drop.drop | exact hS.unlearn | exact hS.unlearn.drop | exact hS.unlearn.drop.drop | exact St.dropL (L := O3) (hS.perm (List.perm_append_comm_assoc [_, _] O3 _)) | exact St.dropL (L := O4) (hS.perm (List.perm_append_comm_assoc [_, _] O4 _)) | exact St.dropL (L := O3) ((St.dropL (L := O4) (hS.perm (List.perm_append_comm_assoc [_, _] O4 _))).perm (List.perm_append_comm_assoc [_, _] O3 _)) | exact St.dropL (L := O4) ((St.dropL (L := O3) (hS.perm (List.perm_append_comm_assoc [_, _] O3 _))).perm (List.perm_append_comm_assoc [_, _] O4 _))) ?_
    refine pln_read rfl (fun _ hS => run_build (cells := [_, _]) (.cons (by conv => lhs; whnf) (.cons (by conv => lhs; whnf) .nil)) rfl) rfl ?_
    refine pln_tail ?_
    refine lst_storeN hS rfl (by conv => lhs; whnf) rfl rfl (by first | exact .head | exact .tail .head | exact .tail (.tail .head) | exact .tail (.tail (.tail .head)) | exact .tail (.tail (.tail (.tail .head))) | exact .tail (.tail (.tail (.tail (.tail .head))))) (by repeat constructor) (by first | exact .head | exact .tail .head | exact .tail (.tail .head) | exact .tail (.tail (.tail .head)) | exact .tail (.tail (.tail (.tail .head))) | exact .tail (.tail (.tail (.tail (.tail .head))))) ?_
    clear hS
    intro wx3 hS
    refine lst_done ?_
    exact hmeet _ _ _ ⟨A3, c3, A4, c4, O3, O4, hrow3, hrow4, by first | exact hS | exact hS.perm (.cons _ (.cons _ (List.perm_append_comm_assoc O4 O3 _)))⟩ (by conv => lhs; whnf) (by kernel_rfl)
  clear hS
  rintro jv _ w5 ⟨A3, c3, A4, c4, O3, O4, hrow3, hrow4, hS⟩
  refine goes_retC (sz := 2) hS Try.func11 rfl rfl rfl rfl (by first | exact .head | exact .tail .head | exact .tail (.tail .head) | exact .tail (.tail (.tail .head)) | exact .tail (.tail (.tail (.tail .head))) | exact .tail (.tail (.tail (.tail (.tail .head))))) (by repeat constructor) ?_
  exact ⟨A3, c3, A4, c4, O3, O4, rfl, hrow3, hrow4, hS.drop.drop⟩
/-- A copy that nobody writes. -/
theorem copyHeap_kept (h : HH) (A B : Option Addr) (c d : Nat) (w : World) (hH : Und F (HFl h A c B d)) (hl : h.cs.length ≤ 4398046511104) (hl2 : h.tr.length ≤ 17592186044416) (hS : St M w0 H F w) :
    Calls Try.prog 11 #[hv h A c B d] w (HRes M w0 H F h fun A' c' B' d' e => e = .returned (hv h A' c' B' d')) :=
  (copyHeap_any h A B c d w hH hl hl2 hS).mono fun e w' ⟨A3, c3, A4, c4, O3, O4, he, hrow3, hrow4, hS⟩ => by
    have hS3 := St.freezeR hrow3 hS
    have hS4 := St.freezeR hrow4 hS3
    exact ⟨A3, c3, A4, c4, _, he, fun φ h => .tail _ (.tail _ h), fun w' hw => ⟨hw _ (.tail _ (.head _)), hw _ (.head _)⟩, hS4⟩
end
end Go.Proofs.Ytjicoifjgokoiab
namespace Go.Proofs.Ytjicoifjgokoiab
open Go.RowKit
set_option linter.unusedVariables false
set_option linter.unusedSimpArgs false

theorem stepLong {u : HU} (h : 400 ≤ u.w) : u.step.lg = true := by
  simp only [HU.step]; rw [decide_eq_true (by omega)]; simp
/-- Two looks, one after the other. -/
theorem looks_ok {u : HU} {a b : Int} (h : ((u.step.look a).2.look b).2.lg = false) :
    u.step.lg = false ∧ (u.step.look a).1 = hlook u.cs a ∧ ((u.step.look a).2.look b).1 = hlook u.cs b ∧ End u.cs a (hlook u.cs a) ∧ End u.cs b (hlook u.cs b) ∧ ((u.step.look a).2.look b).2.cs = u.cs ∧ ((u.step.look a).2.look b).2.tr = u.tr ∧ ((u.step.look a).2.look b).2.w = u.w + 1 := by
  have hwa := look_w u.step a
  have hwb := look_w (u.step.look a).2 b
  obtain ⟨hla, hb1, hb2⟩ := look_ok h
  obtain ⟨hls, ha1, ha2⟩ := look_ok hla
  rw [hwa.2.1] at hb1 hb2
  exact ⟨hls, ha1, hb1, end_look ha2, end_look hb2, by rw [hwb.2.1, hwa.2.1]; rfl, by rw [hwb.2.2, hwa.2.2]; rfl, by rw [hwb.1, hwa.1]; rfl⟩
/-- What a run that comes to an end without being long has made of two places. -/
structure One (a b : Int) (u : HU) (v : HU) : Prop where
  up : Up u.cs v.cs
  sm : ∀ L, Up v.cs L → Sm L a b
theorem all_one {n : Nat} {g : Int → Int → HU → Bool × HU} (hu : ∀ x y u, GU n u → u.lg = false → UU n u (g x y u)) (hg : ∀ x y u, GU n u → u.lg = false → (g x y u).1 = true → One x y u (g x y u).2) :
    ∀ (m : Nat) (x y : Int) (u : HU), GU n u → u.lg = false → (allU g m x y u).1 = true → Up u.cs (allU g m x y u).2.cs ∧ ∀ L, Up (allU g m x y u).2.cs L → ∀ i : Int, 0 ≤ i → i < m → Sm L (x + i) (y + i)
  | 0, x, y, u, h, hl, _ => ⟨Up.refl _, fun L _ i i0 i1 => by omega⟩
  | m + 1, x, y, u, h, hl, hr => by
    have h1 := hu x y u h hl
    simp only [allU] at hr ⊢
    by_cases hok : (g x y u).1 = true
    · rw [if_pos hok] at hr ⊢
      have o1 := hg x y u h hl hok
      obtain ⟨u1, u2⟩ := all_one hu hg m (x + 1) (y + 1) (g x y u).2 h1.gu (h1.ok hok) hr
      refine ⟨o1.up.trans u1, fun L hL i i0 i1 => ?_⟩
      by_cases hi : i = 0
      · subst hi
        have := o1.sm L (u1.trans hL)
        simpa using this
      · have := u2 L hL (i - 1) (by omega) (by omega)
        rw [show x + 1 + (i - 1) = x + i by omega, show y + 1 + (i - 1) = y + i by omega] at this
        exact this
    · rw [if_neg hok] at hr; exact absurd hr hok
theorem asg_one {n : Nat} {u : HU} (h : GU n u) {p q : Int} {x y : HC} (hx : hat u.cs p = some x) (hxk : x.k = 0) (hxe : x.n = p) (hy : hat u.cs q = some y) (hyk : y.k ≠ 0) (hr : (asgU p q u).1 = true) :
    (asgU p q u).2.cs = setN u.cs p.toNat q ∧ (asgU p q u).2.tr = u.tr ++ [p] ∧ q ≠ p := by
  have ho := occ_up (n := n) p 401 q u h.good h.wk
  unfold asgU at hr ⊢
  split at hr
  · cases hr
  · rename_i hn
    rw [if_neg hn]
    refine ⟨by simp only [HU.bind]; rw [ho.cs], by simp only [HU.bind]; rw [ho.tr], fun e => ?_⟩
    rw [e, hx] at hy; cases hy; exact hyk hxk
theorem uni_one {n : Nat} : ∀ (f : Nat) (a b : Int) (u : HU), GU n u → u.lg = false → (uniU f a b u).1 = true → One a b u (uniU f a b u).2
  | 0, a, b, u, h, hl, hr => by simp [uniU] at hr
  | f + 1, a, b, u, h, hl, hr => by
    have hg2 : GU n ((u.step.look a).2.look b).2 := (h.step.look a).look b
    simp only [uniU] at hr ⊢
    by_cases hl2 : ((u.step.look a).2.look b).2.lg = true
    · rw [if_pos hl2] at hr; cases hr
    have hl3 : ((u.step.look a).2.look b).2.lg = false := by simpa using hl2
    rw [if_neg hl2] at hr ⊢
    obtain ⟨_, ha, hb, ea, eb, hcs, htr, _⟩ := looks_ok hl3
    rw [ha, hb] at hr ⊢
    obtain ⟨x, hx, hxe⟩ := ea.last
    obtain ⟨y, hy, hye⟩ := eb.last
    generalize hp : hlook u.cs a = p at *
    generalize hq : hlook u.cs b = q at *
    generalize ((u.step.look a).2.look b).2 = v at *
    rw [show kindAt u.cs p = x.k by unfold kindAt; rw [hx], show kindAt u.cs q = y.k by unfold kindAt; rw [hy]] at hr ⊢
    have fin : ∀ {L1 : List HC} {z : Int}, Up u.cs L1 → End L1 a z → End L1 b z → ∀ {v' : HU}, v'.cs = L1 → One a b u v' := fun hU h1 h2 v' e => ⟨by rw [e]; exact hU, fun L hL => by
      rw [e] at hL
      obtain ⟨s, s1, s2⟩ := hL.ends _ _ h1
      obtain ⟨t, t1, t2⟩ := hL.ends _ _ h2
      have := s2.det t2
      subst this
      exact Sm.meet s1 t1⟩
    have bindOne : ∀ {r z : Int} {c : HC}, hat u.cs r = some c → c.k = 0 → c.n = r → End u.cs z z → z ≠ r → (∀ a', End u.cs a' r ∨ End u.cs a' z → End (setN u.cs r.toNat z) a' z) := fun hr' hk' hn' hz hne a' ha' => by
      obtain ⟨k1, k2⟩ := end_bind hr' hk' hn' hz hne
      rcases ha' with g | g
      · exact k2 _ g
      · exact k1 _ _ g hne
    by_cases hxk : x.k = 0
    · have hxn : x.n = p := Classical.byContradiction fun e => hxe ⟨hxk, e⟩
      rw [if_pos hxk] at hr ⊢
      by_cases hyk : y.k = 0
      · have hyn : y.n = q := Classical.byContradiction fun e => hye ⟨hyk, e⟩
        rw [if_pos hyk] at hr ⊢
        by_cases hpq : p = q
        · rw [if_pos hpq]
          subst hpq
          exact fin (Up.refl _) ea eb hcs
        · rw [if_neg hpq]
          rcases Int.le_total p q with hle | hle
          · rw [Int.max_eq_right hle, Int.min_eq_left hle]
            have := bindOne hy hyk hyn ea.self hpq
            exact fin (up_bind hy hyk hyn ea.self hpq) (this a (.inr ea)) (this b (.inl eb)) (by simp only [HU.bind]; rw [hcs])
          · rw [Int.max_eq_left hle, Int.min_eq_right hle]
            have := bindOne hx hxk hxn eb.self (Ne.symm hpq)
            exact fin (up_bind hx hxk hxn eb.self (Ne.symm hpq)) (this a (.inl ea)) (this b (.inr eb)) (by simp only [HU.bind]; rw [hcs])
      · rw [if_neg hyk] at hr ⊢
        obtain ⟨e1, _, hne⟩ := asg_one hg2 (p := p) (q := q) (by rw [hcs]; exact hx) hxk hxn (by rw [hcs]; exact hy) hyk hr
        rw [hcs] at e1
        have := bindOne hx hxk hxn eb.self hne
        exact fin (up_bind hx hxk hxn eb.self hne) (this a (.inl ea)) (this b (.inr eb)) e1
    · rw [if_neg hxk] at hr ⊢
      by_cases hyk : y.k = 0
      · have hyn : y.n = q := Classical.byContradiction fun e => hye ⟨hyk, e⟩
        rw [if_pos hyk] at hr ⊢
        obtain ⟨e1, _, hne⟩ := asg_one hg2 (p := q) (q := p) (by rw [hcs]; exact hy) hyk hyn (by rw [hcs]; exact hx) hxk hr
        rw [hcs] at e1
        have := bindOne hy hyk hyn ea.self hne
        exact fin (up_bind hy hyk hyn ea.self hne) (this a (.inr ea)) (this b (.inl eb)) e1
      · rw [if_neg hyk] at hr ⊢
        unfold partsU at hr ⊢
        by_cases hxy : hat v.cs p = hat v.cs q
        · rw [if_pos hxy] at hr ⊢
          obtain ⟨u1, u2⟩ := all_one (n := n) (fun x y u => uni_up f x y u) (fun x y u h hl hr => uni_one f x y u h hl hr) _ _ _ v hg2 hl3 hr
          replace u1 : Up u.cs (allU (uniU f) (argsAt v.cs p) (p + 1) (q + 1) v).2.cs := by rw [← hcs]; exact u1
          rw [hcs] at hxy
          rw [hx, hy] at hxy
          obtain rfl := Option.some.inj hxy
          have hA : argsAt v.cs p = (argsC x).toNat := by unfold argsAt; rw [hcs, hx]
          refine ⟨u1, fun L hL => ?_⟩
          have hU := u1.trans hL
          exact Sm.of (hU.nonvar ea hx hxk) (hU.nonvar eb hy hyk) (.inr ⟨x, hU.cell _ _ hx hxk, hU.cell _ _ hy hyk, hxk, fun i i0 i1 => u2 L hL i i0 (by rw [hA]; omega)⟩)
        · rw [if_neg hxy] at hr; cases hr
/-- What is one needs nothing more. -/
def Still (u : HU) (r : Bool × HU) : Prop := r.2.lg = true ∨ (r.1 = true ∧ r.2.cs = u.cs ∧ r.2.tr = u.tr ∧ u.w ≤ r.2.w ∧ r.2.lg = false)
theorem all_still {n : Nat} {g : Int → Int → HU → Bool × HU} {L : List HC} {k : Nat} (hu : ∀ x y u, GU n u → u.lg = false → UU n u (g x y u)) (hg : ∀ x y u, GU n u → u.lg = false → u.cs = L → k ≤ u.w → Sm L x y → Still u (g x y u)) :
    ∀ (m : Nat) (x y : Int) (u : HU), GU n u → u.lg = false → u.cs = L → k ≤ u.w → (∀ i : Int, 0 ≤ i → i < m → Sm L (x + i) (y + i)) → Still u (allU g m x y u)
  | 0, x, y, u, h, hl, hc, hw, _ => .inr ⟨rfl, rfl, rfl, Nat.le_refl _, hl⟩
  | m + 1, x, y, u, h, hl, hc, hw, hs => by
    have h1 := hu x y u h hl
    simp only [allU]
    rcases hg x y u h hl hc hw (by simpa using hs 0 (by omega) (by omega)) with h2 | ⟨h2, h3, h4, h5, h6⟩
    · by_cases hok : (g x y u).1 = true
      · rw [h1.ok hok] at h2; cases h2
      · rw [if_neg hok]; exact .inl h2
    · rw [if_pos h2]
      rcases all_still hu hg m (x + 1) (y + 1) (g x y u).2 h1.gu h6 (h3.trans hc) (by omega) (fun i i0 i1 => by
        have := hs (i + 1) (by omega) (by omega)
        rw [show x + 1 + i = x + (i + 1) by omega, show y + 1 + i = y + (i + 1) by omega]; exact this) with g2 | ⟨g2, g3, g4, g5, g6⟩
      · exact .inl g2
      · exact .inr ⟨g2, g3.trans h3, g4.trans h4, by omega, g6⟩
theorem uni_still {n : Nat} {L : List HC} : ∀ (f : Nat) (a b : Int) (u : HU), GU n u → u.lg = false → u.cs = L → 400 ≤ u.w + f → Sm L a b → Still u (uniU f a b u)
  | 0, a, b, u, h, hl, hc, hw, hs => by
    left
    simp only [uniU]
    cases hq : ((u.step.look a).2.look b).2.lg with
    | true => rfl
    | false => have := (looks_ok hq).1; rw [stepLong (by omega)] at this; cases this
  | f + 1, a, b, u, h, hl, hc, hw, hs => by
    have hg2 : GU n ((u.step.look a).2.look b).2 := (h.step.look a).look b
    simp only [uniU]
    by_cases hl2 : ((u.step.look a).2.look b).2.lg = true
    · rw [if_pos hl2]; exact .inl hl2
    have hl3 : ((u.step.look a).2.look b).2.lg = false := by simpa using hl2
    rw [if_neg hl2]
    obtain ⟨_, ha, hb, ea, eb, hcs, htr, hw2⟩ := looks_ok hl3
    rw [ha, hb]
    obtain ⟨x, hx, hxe⟩ := ea.last
    obtain ⟨y, hy, hye⟩ := eb.last
    have hstep := hs.step (by rw [← hc]; exact ea) (by rw [← hc]; exact eb)
    rw [← hc] at hstep
    generalize hlook u.cs a = p at *
    generalize hlook u.cs b = q at *
    generalize ((u.step.look a).2.look b).2 = v at *
    rw [show kindAt u.cs p = x.k by unfold kindAt; rw [hx], show kindAt u.cs q = y.k by unfold kindAt; rw [hy]]
    have parts : (∀ i : Int, 0 ≤ i → i < argsC x → Sm L (p + 1 + i) (q + 1 + i)) → hat u.cs p = hat u.cs q → Still u (partsU (uniU f) p q v) := fun hch he => by
      unfold partsU
      rw [if_pos (by rw [hcs]; exact he)]
      have hA : argsAt v.cs p = (argsC x).toNat := by unfold argsAt; rw [hcs, hx]
      rcases all_still (n := n) (L := L) (k := v.w) (fun x y u => uni_up f x y u) (fun x y u g1 g2 g3 g4 g5 => uni_still f x y u g1 g2 g3 (by omega) g5) (argsAt v.cs p) (p + 1) (q + 1) v hg2 hl3 (hcs.trans hc) (Nat.le_refl _) (fun i i0 i1 => hch i i0 (by rw [hA] at i1; omega)) with g2 | ⟨g2, g3, g4, g5, g6⟩
      · exact .inl g2
      · exact .inr ⟨g2, g3.trans hcs, g4.trans htr, by omega, g6⟩
    rcases hstep with e | ⟨c, h1, h2, h3, h4⟩
    · subst e
      rw [hx] at hy; cases hy
      by_cases hk : x.k = 0
      · rw [if_pos hk, if_pos hk, if_pos rfl]
        exact .inr ⟨rfl, hcs, htr, by show u.w ≤ v.w; omega, hl3⟩
      · rw [if_neg hk, if_neg hk]
        exact parts (fun i _ _ => Sm.refl L _) rfl
    · rw [hx] at h1; cases h1
      rw [hy] at h2; cases h2
      rw [if_neg h3, if_neg h3]
      exact parts (fun i i0 i1 => by rw [← hc]; exact h4 i i0 i1) (by rw [hx, hy])
end Go.Proofs.Ytjicoifjgokoiab
namespace Go.Proofs.Ytjicoifjgokoiab
open Go.RowKit
set_option linter.unusedVariables false
set_option linter.unusedSimpArgs false

/-- Of the cells of L just those at N, all unbound, have been told another number. -/
def Bd (N : List Int) (L L' : List HC) : Prop := (∀ r ∈ N, 0 ≤ r) ∧ ∀ i : Nat, ((i : Int) ∈ N → ∃ c n, L[i]? = some c ∧ c.k = 0 ∧ c.n = (i : Int) ∧ L'[i]? = some ⟨c.k, n, c.s⟩) ∧ ((i : Int) ∉ N → L'[i]? = L[i]?)
theorem Bd.refl (L : List HC) : Bd [] L L := ⟨fun r h => by simp at h, fun i => ⟨fun h => by simp at h, fun _ => rfl⟩⟩
theorem Bd.trans {N N' : List Int} {L L' L'' : List HC} (h : Bd N L L') (g : Bd N' L' L'') : Bd (N ++ N') L L'' := by
  refine ⟨fun r hr => (List.mem_append.1 hr).elim (h.1 r) (g.1 r), fun i => ⟨fun hi => ?_, fun hi => ?_⟩⟩
  · by_cases h1 : (i : Int) ∈ N
    · obtain ⟨c, n, c1, c2, c3, c4⟩ := (h.2 i).1 h1
      by_cases h2 : (i : Int) ∈ N'
      · obtain ⟨d, m, d1, d2, d3, d4⟩ := (g.2 i).1 h2
        rw [c4] at d1; cases d1
        exact ⟨c, m, c1, c2, c3, d4⟩
      · rw [← (g.2 i).2 h2] at c4
        exact ⟨c, n, c1, c2, c3, c4⟩
    · have h2 : (i : Int) ∈ N' := by rcases List.mem_append.1 hi with h | h; exact absurd h h1; exact h
      obtain ⟨d, m, d1, d2, d3, d4⟩ := (g.2 i).1 h2
      rw [(h.2 i).2 h1] at d1
      exact ⟨d, m, d1, d2, d3, d4⟩
  · rw [(g.2 i).2 (fun h' => hi (List.mem_append_right _ h')), (h.2 i).2 (fun h' => hi (List.mem_append_left _ h'))]
theorem Bd.one {L : List HC} {r y : Int} {c : HC} (hr : hat L r = some c) (hk : c.k = 0) (hn : c.n = r) : Bd [r] L (setN L r.toNat y) := by
  obtain ⟨r0, r1, r2⟩ := hatS.1 hr
  refine ⟨fun s hs => by simp at hs; omega, fun i => ⟨fun hi => ?_, fun hi => ?_⟩⟩
  · simp at hi
    have e : r.toNat = i := by omega
    rw [e] at r2 ⊢
    exact ⟨c, y, r2, hk, by omega, by rw [setN_get, if_pos rfl, r2]; rfl⟩
  · simp at hi
    rw [setN_get, if_neg (by omega)]
theorem undoL_get : ∀ (N : List Int) (L : List HC), (∀ r ∈ N, 0 ≤ r) → ∀ i : Nat, (undoL L N)[i]? = if (i : Int) ∈ N then (L[i]?).map (fun c => ⟨c.k, i, c.s⟩) else L[i]?
  | [], L, _, i => by simp [undoL]
  | r :: N, L, h, i => by
    have r0 := h r (by simp)
    unfold undoL
    rw [undoL_get N _ (fun s hs => h s (.tail _ hs)) i, setN_get]
    by_cases e : r.toNat = i
    · have e2 : (i : Int) = r := by omega
      have hm : (i : Int) ∈ r :: N := by rw [e2]; exact .head _
      rw [if_pos e, if_pos hm]
      by_cases h2 : (i : Int) ∈ N
      · rw [if_pos h2, Option.map_map]; rfl
      · rw [if_neg h2, e2]
    · rw [if_neg e]
      have : (i : Int) ∈ r :: N ↔ (i : Int) ∈ N := by
        simp only [List.mem_cons]
        constructor
        · rintro (h | h)
          · omega
          · exact h
        · exact .inr
      simp only [this]
theorem Bd.undo {N : List Int} {L L' : List HC} (h : Bd N L L') : undoL L' N = L := by
  refine List.ext_getElem? fun i => ?_
  rw [undoL_get N L' h.1 i]
  by_cases hi : (i : Int) ∈ N
  · rw [if_pos hi]
    obtain ⟨c, n, c1, c2, c3, c4⟩ := (h.2 i).1 hi
    rw [c4, c1, Option.map_some, ← c3]
  · rw [if_neg hi]; exact (h.2 i).2 hi
theorem Bd.kind {N : List Int} {L L' : List HC} (h : Bd N L L') {r : Int} {c : HC} (hr : hat L r = some c) : ∃ d, hat L' r = some d ∧ d.k = c.k := by
  obtain ⟨r0, r1, r2⟩ := hatS.1 hr
  have e : ((r.toNat : Nat) : Int) = r := by omega
  have key : ∃ d, L'[r.toNat]? = some d ∧ d.k = c.k := by
    by_cases hi : ((r.toNat : Nat) : Int) ∈ N
    · obtain ⟨d, n, c1, c2, c3, c4⟩ := (h.2 r.toNat).1 hi
      rw [r2] at c1; cases c1
      exact ⟨_, c4, rfl⟩
    · exact ⟨c, by rw [(h.2 r.toNat).2 hi]; exact r2, rfl⟩
  obtain ⟨d, d1, d2⟩ := key
  exact ⟨d, by unfold hat; rw [if_pos r0]; exact d1, d2⟩
/-- The trail says what has been bound. -/
def Trl (u v : HU) : Prop := ∃ N, v.tr = u.tr ++ N ∧ Bd N u.cs v.cs
theorem Trl.same {u v : HU} (h1 : v.cs = u.cs) (h2 : v.tr = u.tr) : Trl u v := ⟨[], by simp [h2], by rw [h1]; exact Bd.refl _⟩
theorem Trl.trans {u v w : HU} (h : Trl u v) (g : Trl v w) : Trl u w := by
  obtain ⟨N, h1, h2⟩ := h
  obtain ⟨N', g1, g2⟩ := g
  exact ⟨N ++ N', by rw [g1, h1, List.append_assoc], h2.trans g2⟩
theorem Trl.bind {u v : HU} {r y : Int} {c : HC} (hr : hat u.cs r = some c) (hk : c.k = 0) (hn : c.n = r) (h1 : v.cs = setN u.cs r.toNat y) (h2 : v.tr = u.tr ++ [r]) : Trl u v := ⟨[r], h2, by rw [h1]; exact Bd.one hr hk hn⟩
theorem all_trl {n : Nat} {g : Int → Int → HU → Bool × HU} (hu : ∀ x y u, GU n u → u.lg = false → UU n u (g x y u)) (hg : ∀ x y u, GU n u → u.lg = false → Trl u (g x y u).2) :
    ∀ (m : Nat) (x y : Int) (u : HU), GU n u → u.lg = false → Trl u (allU g m x y u).2
  | 0, x, y, u, h, hl => Trl.same rfl rfl
  | m + 1, x, y, u, h, hl => by
    have h1 := hu x y u h hl
    simp only [allU]
    split
    · rename_i hok
      exact (hg x y u h hl).trans (all_trl hu hg m (x + 1) (y + 1) _ h1.gu (h1.ok hok))
    · exact hg x y u h hl
theorem asg_trl {n : Nat} {u : HU} (h : GU n u) {p q : Int} {x : HC} (hx : hat u.cs p = some x) (hxk : x.k = 0) (hxe : x.n = p) : Trl u (asgU p q u).2 := by
  have ho := occ_up (n := n) p 401 q u h.good h.wk
  unfold asgU
  split
  · exact Trl.same ho.cs ho.tr
  · exact Trl.bind hx hxk hxe (by simp only [HU.bind]; rw [ho.cs]) (by simp only [HU.bind]; rw [ho.tr])
theorem uni_trl {n : Nat} : ∀ (f : Nat) (a b : Int) (u : HU), GU n u → u.lg = false → Trl u (uniU f a b u).2
  | f, a, b, u, h, hl => by
    have hg2 : GU n ((u.step.look a).2.look b).2 := (h.step.look a).look b
    have hwa := look_w u.step a
    have hwb := look_w (u.step.look a).2 b
    have hcs2 : ((u.step.look a).2.look b).2.cs = u.cs := by rw [hwb.2.1, hwa.2.1]; rfl
    have htr2 : ((u.step.look a).2.look b).2.tr = u.tr := by rw [hwb.2.2, hwa.2.2]; rfl
    have hfail : Trl u ((u.step.look a).2.look b).2 := Trl.same hcs2 htr2
    cases f with
    | zero => exact hfail
    | succ f =>
    simp only [uniU]
    by_cases hl2 : ((u.step.look a).2.look b).2.lg = true
    · rw [if_pos hl2]; exact hfail
    have hl3 : ((u.step.look a).2.look b).2.lg = false := by simpa using hl2
    rw [if_neg hl2]
    obtain ⟨_, ha, hb, ea, eb, hcs, htr, _⟩ := looks_ok hl3
    rw [ha, hb]
    obtain ⟨x, hx, hxe⟩ := ea.last
    obtain ⟨y, hy, hye⟩ := eb.last
    generalize hlook u.cs a = p at *
    generalize hlook u.cs b = q at *
    generalize ((u.step.look a).2.look b).2 = v at *
    rw [show kindAt u.cs p = x.k by unfold kindAt; rw [hx], show kindAt u.cs q = y.k by unfold kindAt; rw [hy]]
    by_cases hxk : x.k = 0
    · have hxn : x.n = p := Classical.byContradiction fun e => hxe ⟨hxk, e⟩
      rw [if_pos hxk]
      by_cases hyk : y.k = 0
      · have hyn : y.n = q := Classical.byContradiction fun e => hye ⟨hyk, e⟩
        rw [if_pos hyk]
        by_cases hpq : p = q
        · rw [if_pos hpq]; exact hfail
        · rw [if_neg hpq]
          rcases Int.le_total p q with hle | hle
          · rw [Int.max_eq_right hle, Int.min_eq_left hle]
            exact Trl.bind hy hyk hyn (by simp only [HU.bind]; rw [hcs]) (by simp only [HU.bind]; rw [htr])
          · rw [Int.max_eq_left hle, Int.min_eq_right hle]
            exact Trl.bind hx hxk hxn (by simp only [HU.bind]; rw [hcs]) (by simp only [HU.bind]; rw [htr])
      · rw [if_neg hyk]
        exact hfail.trans (asg_trl hg2 (by rw [hcs]; exact hx) hxk hxn)
    · rw [if_neg hxk]
      by_cases hyk : y.k = 0
      · have hyn : y.n = q := Classical.byContradiction fun e => hye ⟨hyk, e⟩
        rw [if_pos hyk]
        exact hfail.trans (asg_trl hg2 (by rw [hcs]; exact hy) hyk hyn)
      · rw [if_neg hyk]
        unfold partsU
        split
        · exact hfail.trans (all_trl (n := n) (fun x y u => uni_up f x y u) (fun x y u h hl => uni_trl f x y u h hl) _ _ _ v hg2 hl3)
        · exact hfail
theorem hpure_gu {h : HH} (hg : goodH h = true) : GU h.cs.length ⟨h.cs, h.tr, 0, false⟩ := by
  unfold goodH goodCs goodTr at hg
  simp only [Bool.and_eq_true, decide_eq_true_eq] at hg
  exact ⟨rfl, hg.1.2, fun _ => by show (0 : Nat) ≤ 400; omega, by show h.tr.length ≤ 65536 + 0; omega⟩
/-- What Unify gives when two places could be made one. -/
theorem unify_ok {h u : HH} {a b : Int} {e : Int} (hu : unifyH h a b = (u, true, e)) : goodH h = true ∧ e = 0 ∧ goodH u = true ∧ Sm u.cs a b ∧ undoH u (h.tr.length : Nat) = (h, 0) ∧ isAddr u.cs a = true ∧ isAddr u.cs b = true ∧ u.tr.length ≤ 65536 := by
  unfold unifyH at hu
  by_cases hg : goodH h = false
  · rw [if_pos hg] at hu; simp at hu
  rw [if_neg hg] at hu
  have hg : goodH h = true := by simpa using hg
  by_cases hab : (isAddr h.cs a && isAddr h.cs b) = false
  · rw [if_pos hab] at hu; simp at hu
  rw [if_neg hab] at hu
  have hab : isAddr h.cs a = true ∧ isAddr h.cs b = true := by simpa using hab
  have hG := hpure_gu hg
  have huu := uni_up 401 a b _ hG rfl
  have hone := uni_one 401 a b _ hG rfl
  have htrl := uni_trl 401 a b _ hG rfl
  generalize uniU 401 a b ⟨h.cs, h.tr, 0, false⟩ = r at *
  split at hu
  · simp at hu
  rename_i hn
  split at hu
  · simp at hu
  rename_i hok
  simp only [Prod.mk.injEq, true_and] at hu
  obtain ⟨rfl, rfl⟩ := hu
  have hok : r.1 = true := by simpa using hok
  have hlen : r.2.tr.length ≤ 65536 := by
    rcases Nat.lt_or_ge 65536 r.2.tr.length with h1 | h1
    · exact absurd (.inr ⟨hok, h1⟩) hn
    · exact h1
  obtain ⟨N, t1, t2⟩ := htrl
  replace t1 : r.2.tr = h.tr ++ N := t1
  replace t2 : Bd N h.cs r.2.cs := t2
  have hln := huu.gu.len
  have hgu : goodH ⟨r.2.cs, r.2.tr⟩ = true := by
    have hg' := hg
    unfold goodH goodCs goodTr at hg ⊢
    simp only [Bool.and_eq_true, decide_eq_true_eq, List.all_eq_true] at hg ⊢
    refine ⟨⟨by rw [hln]; exact hg.1.1, by rw [hln]; exact huu.gu.good⟩, hlen, fun s hs => ?_⟩
    rw [t1] at hs
    unfold goodTr1
    rcases List.mem_append.1 hs with hs | hs
    · have := hg.2.2 s hs
      unfold goodTr1 at this
      split at this
      · rename_i c hc
        obtain ⟨d, d1, d2⟩ := t2.kind hc
        rw [d1]; dsimp only; rw [d2]; exact this
      · cases this
    · have s0 := t2.1 s hs
      have e : ((s.toNat : Nat) : Int) = s := by omega
      obtain ⟨c, n, c1, c2, c3, c4⟩ := (t2.2 s.toNat).1 (by rw [e]; exact hs)
      rw [show hat r.2.cs s = some ⟨c.k, n, c.s⟩ by unfold hat; rw [if_pos s0]; exact c4]
      simp [c2]
  refine ⟨hg, rfl, hgu, (hone hok).sm _ (Up.refl _), ?_, ?_, ?_, hlen⟩
  · unfold undoH
    rw [if_neg (by rw [hgu]; decide), if_neg (by dsimp only; rw [t1]; simp; omega)]
    dsimp only
    rw [t1, show ((h.tr.length : Nat) : Int).toNat = h.tr.length by omega, List.drop_left, List.take_left, t2.undo]
  · have := hab.1; unfold isAddr at this ⊢; rw [hln]; exact this
  · have := hab.2; unfold isAddr at this ⊢; rw [hln]; exact this
theorem unify_not {h u : HH} {a b : Int} {e : Int} (hu : unifyH h a b = (u, false, e)) : u = h := by
  unfold unifyH at hu
  by_cases h1 : goodH h = false
  · rw [if_pos h1] at hu; simp at hu; exact hu.1.symm
  rw [if_neg h1] at hu
  by_cases h2 : (isAddr h.cs a && isAddr h.cs b) = false
  · rw [if_pos h2] at hu; simp at hu; exact hu.1.symm
  rw [if_neg h2] at hu
  split at hu
  · simp at hu; exact hu.1.symm
  · split at hu
    · simp at hu; exact hu.1.symm
    · simp at hu
/-- What is one is one again, unless that takes too long. -/
theorem unify_again {u : HH} {a b : Int} (hg : goodH u = true) (ha : isAddr u.cs a = true) (hb : isAddr u.cs b = true) (hs : Sm u.cs a b) : unifyH u a b = (u, false, 3) ∨ unifyH u a b = (u, true, 0) := by
  have hG := hpure_gu hg
  have htl : u.tr.length ≤ 65536 := by
    unfold goodH goodTr at hg
    simp only [Bool.and_eq_true, decide_eq_true_eq] at hg
    exact hg.2.1
  have hst := uni_still (L := u.cs) 401 a b _ hG rfl rfl (by show 400 ≤ 0 + 401; omega) hs
  unfold unifyH
  rw [if_neg (by rw [hg]; decide), ha, hb, if_neg (by decide)]
  generalize uniU 401 a b ⟨u.cs, u.tr, 0, false⟩ = r at *
  rcases hst with h1 | ⟨h1, h2, h3, h4, h5⟩
  · rw [if_pos (.inl h1)]; exact .inl rfl
  · replace h2 : r.2.cs = u.cs := h2
    replace h3 : r.2.tr = u.tr := h3
    rw [if_neg (by rw [h5, h3]; simp; omega), if_neg (by rw [h1]; decide), h2, h3]
    exact .inr rfl
end Go.Proofs.Ytjicoifjgokoiab
namespace Go.Proofs.Ytjicoifjgokoiab
open Go.RowKit
set_option linter.unusedVariables false
set_option linter.unusedSimpArgs false
set_option maxRecDepth 100000
set_option maxHeartbeats 1000000

theorem undoL_app (L : List HC) : ∀ (N : List Int) (a : Int), undoL L (N ++ [a]) = setN (undoL L N) a.toNat a := by
  intro N
  induction N generalizing L with
  | nil => intro a; rfl
  | cons b N ih => intro a; exact ih _ a
theorem undoL_rev (L : List HC) (N : List Int) (h : ∀ r ∈ N, 0 ≤ r) : undoL L N.reverse = undoL L N := by
  refine List.ext_getElem? fun i => ?_
  rw [undoL_get _ _ (fun r hr => h r (List.mem_reverse.1 hr)), undoL_get _ _ h]
  simp only [List.mem_reverse]
section
variable {M : List Nat} {w0 : World} {H : List (Nat × Obj)} {F : List (World → Prop)}
theorem undoTo_any (h : HH) (n : Int) (A B : Option Addr) (c d : Nat) (w : World) (hH : Und F (HFl h A c B d)) (hS : St M w0 H F w) :
    Calls Try.prog 17 #[hv h A c B d, .int .i64 n] w (HRes M w0 H F (undoH h n).1 fun A' c' B' d' e => e = .returned (.tuple #[hv (undoH h n).1 A' c' B' d', .int .i64 (undoH h n).2])) := by
  refine goes_enter2 Try.func17 rfl Try.ntmps17 rfl ?_
  refine goes_seq ?_
  refine goes_region ?_
  refine lst_box hS rfl rfl ?_
  clear hS
  intro b1 wx1 hS
  refine lst_alloc (cs := [_, _]) hS rfl rfl rfl ?_
  clear hS
  intro b2 wx2 hS
  refine lst_run (run_assign (by conv => lhs; whnf)) rfl ?_
  refine lst_done ?_
  refine goes_seq ?_
  refine goes_seq ?_
  refine goes_region ?_
  first
    | refine lst_run (run_loadN_own (k := 2) hS rfl rfl rfl (by first | exact .head | exact .tail .head | exact .tail (.tail .head) | exact .tail (.tail (.tail .head)) | exact .tail (.tail (.tail (.tail .head))) | exact .tail (.tail (.tail (.tail (.tail .head))))) (by repeat constructor)) rfl ?_
    | refine lst_run (run_load2 rfl rfl rfl (by first | assumption | exact hS.cell0 (by assumption)) (by first | assumption | exact hS.cell0 (by assumption))) rfl ?_
  refine lst_enter (run_call (by kernel_rfl) (args_1 (by conv => lhs; whnf))) rfl ?_
  refine Calls.mono (isHeap_any h A B c d _ (hS.und hH)) ?_
  rintro _ w2 ⟨rfl, hb2⟩
  refine ⟨_, rfl, ?_⟩
  replace hS := hS.grow hb2
  cases hg : goodH h with
  | false =>
    have e0 : undoH h n = (h, 1) := by unfold undoH; rw [if_pos hg]
    rw [e0]
    refine lst_run (rfl) rfl ?_
    refine lst_done ?_
    refine goes_true rfl ?_
    refine goes_seq ?_
    refine goes_region ?_
    first
      | refine lst_run (run_loadN_own (k := 2) hS rfl rfl rfl (by first | exact .head | exact .tail .head | exact .tail (.tail .head) | exact .tail (.tail (.tail .head)) | exact .tail (.tail (.tail (.tail .head))) | exact .tail (.tail (.tail (.tail (.tail .head))))) (by repeat constructor)) rfl ?_
      | refine lst_run (run_load2 rfl rfl rfl (by first | assumption | exact hS.cell0 (by assumption)) (by first | assumption | exact hS.cell0 (by assumption))) rfl ?_
    refine lst_storeN hS rfl (by conv => lhs; whnf) rfl rfl (by first | exact .head | exact .tail .head | exact .tail (.tail .head) | exact .tail (.tail (.tail .head)) | exact .tail (.tail (.tail (.tail .head))) | exact .tail (.tail (.tail (.tail (.tail .head))))) (by repeat constructor) (by first | exact .head | exact .tail .head | exact .tail (.tail .head) | exact .tail (.tail (.tail .head)) | exact .tail (.tail (.tail (.tail .head))) | exact .tail (.tail (.tail (.tail (.tail .head))))) ?_
    clear hS
    intro wx3 hS
    refine lst_run (run_assign (by conv => lhs; whnf)) rfl ?_
    refine lst_done ?_
    refine goes_retC2 (sz := 2) hS Try.func17 rfl rfl (by conv => lhs; whnf) rfl rfl (by first | exact .head | exact .tail .head | exact .tail (.tail .head) | exact .tail (.tail (.tail .head)) | exact .tail (.tail (.tail (.tail .head))) | exact .tail (.tail (.tail (.tail (.tail .head))))) (by repeat constructor) ?_
    exact ⟨A, c, B, d, F, rfl, fun _ h => h, hH, hS.drop.drop⟩
  | true =>
  obtain ⟨hl1, hl2⟩ := good_len hg
  by_cases hn0 : n < 0
  · have e0 : undoH h n = (h, 2) := by unfold undoH; rw [if_neg (by rw [hg]; decide), if_pos (.inl hn0)]
    rw [e0]
    refine lst_run (rfl) rfl ?_
    refine lst_done ?_
    refine goes_false rfl ?_
    refine goes_skip ?_
    refine goes_seq ?_
    refine goes_seq ?_
    refine goes_region ?_
    refine lst_run (run_move (by conv => lhs; whnf)) rfl ?_
    first
      | refine lst_run (run_lss_yes rfl rfl (by omega)) rfl ?_
      | refine lst_run (run_lss_no rfl rfl (by omega)) rfl ?_
      | refine lst_run (rfl) rfl ?_
    refine lst_run (run_move (by conv => lhs; whnf)) rfl ?_
    refine lst_pass rfl rfl rfl ?_
    refine lst_pass rfl rfl rfl ?_
    refine lst_pass rfl rfl rfl ?_
    refine lst_pass rfl rfl rfl ?_
    refine lst_pass rfl rfl rfl ?_
    first
      | refine lst_run (run_pick_t rfl (by conv => lhs; whnf)) rfl ?_
      | refine lst_run (run_pick_f rfl (by conv => lhs; whnf)) rfl ?_
    refine lst_done ?_
    refine goes_true rfl ?_
    refine goes_seq ?_
    refine goes_region ?_
    first
      | refine lst_run (run_loadN_own (k := 2) hS rfl rfl rfl (by first | exact .head | exact .tail .head | exact .tail (.tail .head) | exact .tail (.tail (.tail .head)) | exact .tail (.tail (.tail (.tail .head))) | exact .tail (.tail (.tail (.tail (.tail .head))))) (by repeat constructor)) rfl ?_
      | refine lst_run (run_load2 rfl rfl rfl (by first | assumption | exact hS.cell0 (by assumption)) (by first | assumption | exact hS.cell0 (by assumption))) rfl ?_
    refine lst_storeN hS rfl (by conv => lhs; whnf) rfl rfl (by first | exact .head | exact .tail .head | exact .tail (.tail .head) | exact .tail (.tail (.tail .head)) | exact .tail (.tail (.tail (.tail .head))) | exact .tail (.tail (.tail (.tail (.tail .head))))) (by repeat constructor) (by first | exact .head | exact .tail .head | exact .tail (.tail .head) | exact .tail (.tail (.tail .head)) | exact .tail (.tail (.tail (.tail .head))) | exact .tail (.tail (.tail (.tail (.tail .head))))) ?_
    clear hS
    intro wx3 hS
    refine lst_run (run_assign (by conv => lhs; whnf)) rfl ?_
    refine lst_done ?_
    refine goes_retC2 (sz := 2) hS Try.func17 rfl rfl (by conv => lhs; whnf) rfl rfl (by first | exact .head | exact .tail .head | exact .tail (.tail .head) | exact .tail (.tail (.tail .head)) | exact .tail (.tail (.tail (.tail .head))) | exact .tail (.tail (.tail (.tail (.tail .head))))) (by repeat constructor) ?_
    exact ⟨A, c, B, d, F, rfl, fun _ h => h, hH, hS.drop.drop⟩
  by_cases hn1 : (h.tr.length : Int) < n
  · have e0 : undoH h n = (h, 2) := by unfold undoH; rw [if_neg (by rw [hg]; decide), if_pos (.inr hn1)]
    rw [e0]
    refine lst_run (rfl) rfl ?_
    refine lst_done ?_
    refine goes_false rfl ?_
    refine goes_skip ?_
    refine goes_seq ?_
    refine goes_seq ?_
    refine goes_region ?_
    refine lst_run (run_move (by conv => lhs; whnf)) rfl ?_
    first
      | refine lst_run (run_lss_yes rfl rfl (by omega)) rfl ?_
      | refine lst_run (run_lss_no rfl rfl (by omega)) rfl ?_
      | refine lst_run (rfl) rfl ?_
    refine lst_run (run_move (by conv => lhs; whnf)) rfl ?_
    refine lst_guard rfl rfl ?_
    refine lst_run (run_move (by conv => lhs; whnf)) rfl ?_
    refine lst_guard rfl rfl ?_
    refine lst_run (run_fieldAddr (off := 1) rfl rfl) rfl ?_
    refine lst_guard rfl rfl ?_
    first
      | refine lst_run (run_load1_own hS rfl rfl (by first | exact .head | exact .tail .head | exact .tail (.tail .head) | exact .tail (.tail (.tail .head)) | exact .tail (.tail (.tail (.tail .head))) | exact .tail (.tail (.tail (.tail (.tail .head))))) (by repeat constructor)) rfl ?_
      | refine lst_run (run_load1 rfl rfl (by first | assumption | exact hS.cell0 (by assumption) | exact lv_next hS | exact lv_list hS)) rfl ?_
    refine lst_guard rfl rfl ?_
    refine lst_run (run_len_slice rfl rfl rfl) rfl ?_
    refine lst_guard rfl rfl ?_
    first
      | refine lst_run (run_gtr_yes rfl rfl (by omega)) rfl ?_
      | refine lst_run (run_gtr_no rfl rfl (by omega)) rfl ?_
      | refine lst_run (rfl) rfl ?_
    first
      | refine lst_run (run_pick_t rfl (by conv => lhs; whnf)) rfl ?_
      | refine lst_run (run_pick_f rfl (by conv => lhs; whnf)) rfl ?_
    refine lst_done ?_
    refine goes_true rfl ?_
    refine goes_seq ?_
    refine goes_region ?_
    first
      | refine lst_run (run_loadN_own (k := 2) hS rfl rfl rfl (by first | exact .head | exact .tail .head | exact .tail (.tail .head) | exact .tail (.tail (.tail .head)) | exact .tail (.tail (.tail (.tail .head))) | exact .tail (.tail (.tail (.tail (.tail .head))))) (by repeat constructor)) rfl ?_
      | refine lst_run (run_load2 rfl rfl rfl (by first | assumption | exact hS.cell0 (by assumption)) (by first | assumption | exact hS.cell0 (by assumption))) rfl ?_
    refine lst_storeN hS rfl (by conv => lhs; whnf) rfl rfl (by first | exact .head | exact .tail .head | exact .tail (.tail .head) | exact .tail (.tail (.tail .head)) | exact .tail (.tail (.tail (.tail .head))) | exact .tail (.tail (.tail (.tail (.tail .head))))) (by repeat constructor) (by first | exact .head | exact .tail .head | exact .tail (.tail .head) | exact .tail (.tail (.tail .head)) | exact .tail (.tail (.tail (.tail .head))) | exact .tail (.tail (.tail (.tail (.tail .head))))) ?_
    clear hS
    intro wx3 hS
    refine lst_run (run_assign (by conv => lhs; whnf)) rfl ?_
    refine lst_done ?_
    refine goes_retC2 (sz := 2) hS Try.func17 rfl rfl (by conv => lhs; whnf) rfl rfl (by first | exact .head | exact .tail .head | exact .tail (.tail .head) | exact .tail (.tail (.tail .head)) | exact .tail (.tail (.tail (.tail .head))) | exact .tail (.tail (.tail (.tail (.tail .head))))) (by repeat constructor) ?_
    exact ⟨A, c, B, d, F, rfl, fun _ h => h, hH, hS.drop.drop⟩
  have e0 : undoH h n = (⟨undoL h.cs (h.tr.drop n.toNat), h.tr.take n.toNat⟩, 0) := by unfold undoH; rw [if_neg (by rw [hg]; decide), if_neg (by omega)]
  have htr : ∀ a ∈ h.tr, 0 ≤ a ∧ a < h.cs.length := by
    intro a ha
    unfold goodH goodTr at hg
    simp only [Bool.and_eq_true, List.all_eq_true] at hg
    have := hg.2.2 a ha
    unfold goodTr1 at this
    split at this
    · rename_i x hx; have := hat_get hx; exact ⟨this.1, this.2.1⟩
    · cases this
  rw [e0]
  refine lst_run (rfl) rfl ?_
  refine lst_done ?_
  refine goes_false rfl ?_
  refine goes_skip ?_
  refine goes_seq ?_
  refine goes_seq ?_
  refine goes_region ?_
  refine lst_run (run_move (by conv => lhs; whnf)) rfl ?_
  first
    | refine lst_run (run_lss_yes rfl rfl (by omega)) rfl ?_
    | refine lst_run (run_lss_no rfl rfl (by omega)) rfl ?_
    | refine lst_run (rfl) rfl ?_
  refine lst_run (run_move (by conv => lhs; whnf)) rfl ?_
  refine lst_guard rfl rfl ?_
  refine lst_run (run_move (by conv => lhs; whnf)) rfl ?_
  refine lst_guard rfl rfl ?_
  refine lst_run (run_fieldAddr (off := 1) rfl rfl) rfl ?_
  refine lst_guard rfl rfl ?_
  first
    | refine lst_run (run_load1_own hS rfl rfl (by first | exact .head | exact .tail .head | exact .tail (.tail .head) | exact .tail (.tail (.tail .head)) | exact .tail (.tail (.tail (.tail .head))) | exact .tail (.tail (.tail (.tail (.tail .head))))) (by repeat constructor)) rfl ?_
    | refine lst_run (run_load1 rfl rfl (by first | assumption | exact hS.cell0 (by assumption) | exact lv_next hS | exact lv_list hS)) rfl ?_
  refine lst_guard rfl rfl ?_
  refine lst_run (run_len_slice rfl rfl rfl) rfl ?_
  refine lst_guard rfl rfl ?_
  first
    | refine lst_run (run_gtr_yes rfl rfl (by omega)) rfl ?_
    | refine lst_run (run_gtr_no rfl rfl (by omega)) rfl ?_
    | refine lst_run (rfl) rfl ?_
  first
    | refine lst_run (run_pick_t rfl (by conv => lhs; whnf)) rfl ?_
    | refine lst_run (run_pick_f rfl (by conv => lhs; whnf)) rfl ?_
  refine lst_done ?_
  refine goes_false rfl ?_
  refine goes_skip ?_
  refine goes_seq ?_
  refine goes_region ?_
  first
    | refine lst_run (run_loadN_own (k := 2) hS rfl rfl rfl (by first | exact .head | exact .tail .head | exact .tail (.tail .head) | exact .tail (.tail (.tail .head)) | exact .tail (.tail (.tail (.tail .head))) | exact .tail (.tail (.tail (.tail (.tail .head))))) (by repeat constructor)) rfl ?_
    | refine lst_run (run_load2 rfl rfl rfl (by first | assumption | exact hS.cell0 (by assumption)) (by first | assumption | exact hS.cell0 (by assumption))) rfl ?_
  refine lst_enter (run_call (by kernel_rfl) (args_1 (by conv => lhs; whnf))) rfl ?_
  refine Calls.mono (copyHeap_any h A B c d _ hH (by omega) (by omega) hS) ?_
  rintro _ w4 ⟨A3, c3, A4, d4, O3, O4, rfl, hrow3, hrow4, hS'⟩
  refine ⟨_, rfl, ?_⟩
  replace hS := hS'
  clear hS'
  replace hS := St.freezeR hrow4 (hS.perm (List.perm_append_comm_assoc O3 O4 _))
  replace hS := hS.perm (List.perm_append_comm_assoc O3 [_, _] _)
  have hT : Und (Flat 1 (intsV h.tr) A4 h.tr.length d4 :: F) (Flat 1 (intsV h.tr) A4 h.tr.length d4) := Und.head
  have hd4 : h.tr.length ≤ d4 := (hS.und hT).2.1
  refine lst_alloc (cs := [_, _]) hS rfl rfl rfl ?_
  clear hS
  intro b3 wx3 hS
  refine lst_storeN hS rfl (by conv => lhs; whnf) rfl rfl (by first | exact .head | exact .tail .head | exact .tail (.tail .head) | exact .tail (.tail (.tail .head)) | exact .tail (.tail (.tail (.tail .head))) | exact .tail (.tail (.tail (.tail (.tail .head))))) (by repeat constructor) (by first | exact .head | exact .tail .head | exact .tail (.tail .head) | exact .tail (.tail (.tail .head)) | exact .tail (.tail (.tail (.tail .head))) | exact .tail (.tail (.tail (.tail (.tail .head))))) ?_
  clear hS
  intro wx4 hS
  refine lst_done ?_
  refine goes_seq ?_
  refine goes_block ?_
  refine goes_loop0  (24 :: 25 :: 26 :: 27 :: 28 :: 29 :: 30 :: 31 :: 32 :: 33 :: 34 :: 35 :: 36 :: 7 :: 37 :: 38 :: 39 :: 40 :: 41 :: 42 :: 43 :: 44 :: 45 :: 46 :: 47 :: 48 :: 49 :: 50 :: []) (fun (k : Nat) w' => ∃ (L : List HC) (O : List (Nat × Obj)), n.toNat + k ≤ h.tr.length ∧ L.length = h.cs.length ∧ L = undoL h.cs ((h.tr.drop (n.toNat + k)).reverse) ∧ Rw 59 3 (.slice A3 h.cs.length c3) h.cs.length (hcsL L) O ∧ St M w0 ((b3, hob A3 h.cs.length c3 A4 (n.toNat + k) d4) :: (b2, hob none 0 0 none 0 0) :: (b1, hob A h.cs.length c B h.tr.length d) :: (O ++ H)) (Flat 1 (intsV h.tr) A4 h.tr.length d4 :: F) w') (fun k => k) (h.tr.length - n.toNat) ?_ ?_
  · refine ⟨h.cs, O3, by omega, rfl, ?_, hrow3, ?_⟩
    · rw [show n.toNat + (h.tr.length - n.toNat) = h.tr.length by omega, List.drop_length]; rfl
    · rw [show n.toNat + (h.tr.length - n.toNat) = h.tr.length by omega]; exact hS
  clear hS
  rintro k w5 jv ⟨L, O, hk, hLl, hL, hrow, hS⟩ ih
  cases k with
  | zero =>
    refine goes_seq ?_
    refine goes_seq ?_
    refine goes_region ?_
    refine lst_run (run_fieldAddr (off := 1) rfl rfl) rfl ?_
    first
      | refine lst_run (run_load1_own hS rfl rfl (by first | exact .head | exact .tail .head | exact .tail (.tail .head) | exact .tail (.tail (.tail .head)) | exact .tail (.tail (.tail (.tail .head))) | exact .tail (.tail (.tail (.tail (.tail .head))))) (by repeat constructor)) rfl ?_
      | refine lst_run (run_load1 rfl rfl (by first | assumption | exact hS.cell0 (by assumption) | exact lv_next hS | exact lv_list hS)) rfl ?_
    refine lst_run (run_len_slice rfl rfl rfl) rfl ?_
    refine lst_run (run_move (by conv => lhs; whnf)) rfl ?_
    first
      | refine lst_run (run_gtr_yes rfl rfl (by omega)) rfl ?_
      | refine lst_run (run_gtr_no rfl rfl (by omega)) rfl ?_
      | refine lst_run (rfl) rfl ?_
    refine lst_done ?_
    refine goes_false rfl ?_
    refine goes_exit rfl ?_
    refine goes_seq ?_
    refine goes_region ?_
    first
      | refine lst_run (run_loadN_own (k := 2) hS rfl rfl rfl (by first | exact .head | exact .tail .head | exact .tail (.tail .head) | exact .tail (.tail (.tail .head)) | exact .tail (.tail (.tail (.tail .head))) | exact .tail (.tail (.tail (.tail (.tail .head))))) (by repeat constructor)) rfl ?_
      | refine lst_run (run_load2 rfl rfl rfl (by first | assumption | exact hS.cell0 (by assumption)) (by first | assumption | exact hS.cell0 (by assumption))) rfl ?_
    refine lst_storeN hS rfl (by conv => lhs; whnf) rfl rfl (by first | exact .head | exact .tail .head | exact .tail (.tail .head) | exact .tail (.tail (.tail .head)) | exact .tail (.tail (.tail (.tail .head))) | exact .tail (.tail (.tail (.tail (.tail .head))))) (by repeat constructor) (by first | exact .head | exact .tail .head | exact .tail (.tail .head) | exact .tail (.tail (.tail .head)) | exact .tail (.tail (.tail (.tail .head))) | exact .tail (.tail (.tail (.tail (.tail .head))))) ?_
    clear hS
    intro wx5 hS
    refine lst_run (run_assign (by conv => lhs; whnf)) rfl ?_
    refine lst_done ?_
    refine goes_retC2 (sz := 2) hS Try.func17 rfl rfl (by conv => lhs; whnf) rfl rfl (by first | exact .head | exact .tail .head | exact .tail (.tail .head) | exact .tail (.tail (.tail .head)) | exact .tail (.tail (.tail (.tail .head))) | exact .tail (.tail (.tail (.tail (.tail .head))))) (by repeat constructor) ?_
    replace hS := St.freezeR hrow (hS.perm (List.perm_append_comm_assoc [_, _, _] O _))
    have e1 : undoL h.cs (h.tr.drop n.toNat) = L := by
      rw [hL]
      show undoL h.cs (h.tr.drop n.toNat) = undoL h.cs ((h.tr.drop (n.toNat + 0)).reverse)
      rw [undoL_rev _ _ (fun r hr => (htr r (List.mem_of_mem_drop hr)).1)]; rfl
    have e2 : (h.tr.take n.toNat).length = n.toNat := by rw [List.length_take]; omega
    refine ⟨A3, c3, A4, d4, _, ?_, fun φ h => .tail _ (.tail _ h), ?_, hS.drop.drop.drop⟩
    · dsimp only [hv, heapV]; rw [e1, e2, hLl]; rfl
    · intro w' hw
      refine ⟨?_, ?_⟩
      · have := hw _ (.head _)
        show Flat 3 (hcsL (undoL h.cs (h.tr.drop n.toNat))) A3 (undoL h.cs (h.tr.drop n.toNat)).length c3 w'
        rw [e1, hLl]; exact this
      · have := (hw _ (.tail _ (.head _))).take (m := n.toNat) (c' := d4) (by omega) (by omega)
        show Flat 1 (intsV (h.tr.take n.toNat)) A4 (h.tr.take n.toNat).length d4 w'
        rw [e2, show intsV (h.tr.take n.toNat) = (intsV h.tr).take (n.toNat * 1) by simp [intsV, List.map_take]]
        exact this
  | succ k =>
    obtain ⟨x, hx⟩ : ∃ x, h.tr[n.toNat + k]? = some x := ⟨h.tr[n.toNat + k]'(by omega), List.getElem?_eq_getElem _⟩
    obtain ⟨hx0, hx1⟩ := htr x (List.mem_of_getElem? hx)
    obtain ⟨bt, ot, rfl⟩ := (hS.und hT).some_ (by omega)
    have hct : ∀ {H'} w', St M w0 H' (Flat 1 (intsV h.tr) (some ⟨bt, ot, none⟩) h.tr.length d4 :: F) w' → w'.cell? ⟨bt, ot + (((n.toNat + (k + 1) : Nat) : Int) - 1).toNat * 1, none⟩ = some (.int .i64 x) := fun w' hS => by
      have := (hS.und hT).int hx
      rw [show (((n.toNat + (k + 1) : Nat) : Int) - 1).toNat = n.toNat + k by omega]; exact this
    obtain ⟨g, sp, rfl, rfl, hcap, hle, _⟩ := hrow.some_ (by omega)
    have hput := hcsL_put L sp x.toNat x (by omega)
    refine goes_seq ?_
    refine goes_seq ?_
    refine goes_region ?_
    refine lst_run (run_fieldAddr (off := 1) rfl rfl) rfl ?_
    first
      | refine lst_run (run_load1_own hS rfl rfl (by first | exact .head | exact .tail .head | exact .tail (.tail .head) | exact .tail (.tail (.tail .head)) | exact .tail (.tail (.tail (.tail .head))) | exact .tail (.tail (.tail (.tail (.tail .head))))) (by repeat constructor)) rfl ?_
      | refine lst_run (run_load1 rfl rfl (by first | assumption | exact hct _ hS | exact hS.cell0 (by assumption) | exact lv_next hS | exact lv_list hS)) rfl ?_
    refine lst_run (run_len_slice rfl rfl rfl) rfl ?_
    refine lst_run (run_move (by conv => lhs; whnf)) rfl ?_
    first
      | refine lst_run (run_gtr_yes rfl rfl (by omega)) rfl ?_
      | refine lst_run (run_gtr_no rfl rfl (by omega)) rfl ?_
      | refine lst_run (rfl) rfl ?_
    refine lst_done ?_
    refine goes_true rfl ?_
    refine goes_skip ?_
    refine goes_block ?_
    refine goes_seq ?_
    refine goes_region ?_
    refine lst_run (run_fieldAddr (off := 1) rfl rfl) rfl ?_
    first
      | refine lst_run (run_load1_own hS rfl rfl (by first | exact .head | exact .tail .head | exact .tail (.tail .head) | exact .tail (.tail (.tail .head)) | exact .tail (.tail (.tail (.tail .head))) | exact .tail (.tail (.tail (.tail (.tail .head))))) (by repeat constructor)) rfl ?_
      | refine lst_run (run_load1 rfl rfl (by first | assumption | exact hct _ hS | exact hS.cell0 (by assumption) | exact lv_next hS | exact lv_list hS)) rfl ?_
    refine lst_run (run_fieldAddr (off := 1) rfl rfl) rfl ?_
    first
      | refine lst_run (run_load1_own hS rfl rfl (by first | exact .head | exact .tail .head | exact .tail (.tail .head) | exact .tail (.tail (.tail .head)) | exact .tail (.tail (.tail (.tail .head))) | exact .tail (.tail (.tail (.tail (.tail .head))))) (by repeat constructor)) rfl ?_
      | refine lst_run (run_load1 rfl rfl (by first | assumption | exact hct _ hS | exact hS.cell0 (by assumption) | exact lv_next hS | exact lv_list hS)) rfl ?_
    refine lst_run (run_len_slice rfl rfl rfl) rfl ?_
    first
      | refine lst_run (run_sub rfl rfl (by omega) (by omega)) rfl ?_
      | refine lst_run (run_sub_u8 rfl rfl) rfl ?_
    refine lst_run (run_indexAddr (sz := 1) rfl rfl rfl rfl (by omega) (by omega)) rfl ?_
    first
      | refine lst_run (run_load1_own hS rfl rfl (by first | exact .head | exact .tail .head | exact .tail (.tail .head) | exact .tail (.tail (.tail .head)) | exact .tail (.tail (.tail (.tail .head))) | exact .tail (.tail (.tail (.tail (.tail .head))))) (by repeat constructor)) rfl ?_
      | refine lst_run (run_load1 rfl rfl (by first | assumption | exact hct _ hS | exact hS.cell0 (by assumption) | exact lv_next hS | exact lv_list hS)) rfl ?_
    refine lst_run (run_assign (by conv => lhs; whnf)) rfl ?_
    refine lst_done ?_
    refine goes_seq ?_
    refine goes_region ?_
    refine lst_run (run_fieldAddr (off := 0) rfl rfl) rfl ?_
    first
      | refine lst_run (run_load1_own hS rfl rfl (by first | exact .head | exact .tail .head | exact .tail (.tail .head) | exact .tail (.tail (.tail .head)) | exact .tail (.tail (.tail (.tail .head))) | exact .tail (.tail (.tail (.tail (.tail .head))))) (by repeat constructor)) rfl ?_
      | refine lst_run (run_load1 rfl rfl (by first | assumption | exact hct _ hS | exact hS.cell0 (by assumption) | exact lv_next hS | exact lv_list hS)) rfl ?_
    refine lst_run (run_move (by conv => lhs; whnf)) rfl ?_
    refine lst_run (run_move (by conv => lhs; whnf)) rfl ?_
    refine lst_run (run_indexAddr (sz := 3) rfl rfl rfl rfl (by omega) (by omega)) rfl ?_
    refine lst_run (run_fieldAddr (off := 1) rfl rfl) rfl ?_
    refine lst_store1 hS rfl (by conv => lhs; whnf) rfl rfl (.tail (.tail (.tail .head))) (by rw [Nat.zero_add]; exact hput) (.tail (.tail (.tail .head))) ?_
    clear hS
    intro w6 hS
    refine lst_done ?_
    refine goes_region ?_
    refine lst_run (run_fieldAddr (off := 1) rfl rfl) rfl ?_
    first
      | refine lst_run (run_load1_own hS rfl rfl (by first | exact .head | exact .tail .head | exact .tail (.tail .head) | exact .tail (.tail (.tail .head)) | exact .tail (.tail (.tail (.tail .head))) | exact .tail (.tail (.tail (.tail (.tail .head))))) (by repeat constructor)) rfl ?_
      | refine lst_run (run_load1 rfl rfl (by first | assumption | exact hct _ hS | exact hS.cell0 (by assumption) | exact lv_next hS | exact lv_list hS)) rfl ?_
    refine lst_run (run_fieldAddr (off := 1) rfl rfl) rfl ?_
    first
      | refine lst_run (run_load1_own hS rfl rfl (by first | exact .head | exact .tail .head | exact .tail (.tail .head) | exact .tail (.tail (.tail .head)) | exact .tail (.tail (.tail (.tail .head))) | exact .tail (.tail (.tail (.tail (.tail .head))))) (by repeat constructor)) rfl ?_
      | refine lst_run (run_load1 rfl rfl (by first | assumption | exact hct _ hS | exact hS.cell0 (by assumption) | exact lv_next hS | exact lv_list hS)) rfl ?_
    refine lst_run (run_len_slice rfl rfl rfl) rfl ?_
    first
      | refine lst_run (run_sub rfl rfl (by omega) (by omega)) rfl ?_
      | refine lst_run (run_sub_u8 rfl rfl) rfl ?_
    refine lst_run (run_slice_slice (sz := 1) rfl rfl rfl rfl (by omega) (by omega)) rfl ?_
    refine lst_run (run_fieldAddr (off := 1) rfl rfl) rfl ?_
    refine lst_store1 hS rfl (by conv => lhs; whnf) rfl rfl (by first | exact .head | exact .tail .head | exact .tail (.tail .head) | exact .tail (.tail (.tail .head)) | exact .tail (.tail (.tail (.tail .head))) | exact .tail (.tail (.tail (.tail (.tail .head))))) (by repeat constructor) (by first | exact .head | exact .tail .head | exact .tail (.tail .head) | exact .tail (.tail (.tail .head)) | exact .tail (.tail (.tail (.tail .head))) | exact .tail (.tail (.tail (.tail (.tail .head))))) ?_
    clear hS
    intro wx5 hS
    refine lst_done ?_
    refine goes_inBlock ?_
    rw [show (((n.toNat + (k + 1) : Nat) : Int) - 1).toNat = n.toNat + k by omega] at hS
    refine ih k _ _ ?_ ?_ (by kernel_rfl)
    · omega
    · refine ⟨setN L x.toNat x, [(g, .cells (hcsL (setN L x.toNat x) ++ sp).toArray 59)], by omega, by rw [setN_len, hLl], ?_, ?_, hS⟩
      · rw [hL, ← undoL_app, show h.tr.drop (n.toNat + k) = x :: h.tr.drop (n.toNat + (k + 1)) by
          rw [List.drop_eq_getElem_cons (by omega : n.toNat + k < h.tr.length)]
          congr 1
          rw [List.getElem?_eq_getElem (by omega)] at hx
          exact Option.some.inj hx]
        simp
      · refine Rw.own_ ?_ ?_ hle (by omega)
        · rw [hcsL_len, setN_len, hLl]
        · rw [← hcap]; simp only [List.length_append, hcsL_len, setN_len]
theorem cutAt_any (h : HH) (n : Int) (A B : Option Addr) (c d : Nat) (w : World) (hH : Und F (HFl h A c B d)) (hS : St M w0 H F w) :
    Calls Try.prog 19 #[hv h A c B d, .int .i64 n] w (HRes M w0 H F (cutH h n).1 fun A' c' B' d' e => e = .returned (.tuple #[hv (cutH h n).1 A' c' B' d', .int .i64 (cutH h n).2])) := by
  refine goes_enter2 Try.func19 rfl Try.ntmps19 rfl ?_
  refine goes_seq ?_
  refine goes_region ?_
  refine lst_box hS rfl rfl ?_
  clear hS
  intro b1 wx1 hS
  refine lst_alloc (cs := [_, _]) hS rfl rfl rfl ?_
  clear hS
  intro b2 wx2 hS
  refine lst_run (run_assign (by conv => lhs; whnf)) rfl ?_
  refine lst_done ?_
  refine goes_seq ?_
  refine goes_seq ?_
  refine goes_region ?_
  first
    | refine lst_run (run_loadN_own (k := 2) hS rfl rfl rfl (by first | exact .head | exact .tail .head | exact .tail (.tail .head) | exact .tail (.tail (.tail .head)) | exact .tail (.tail (.tail (.tail .head))) | exact .tail (.tail (.tail (.tail (.tail .head))))) (by repeat constructor)) rfl ?_
    | refine lst_run (run_load2 rfl rfl rfl (by first | assumption | exact hct _ hS | exact hS.cell0 (by assumption)) (by first | assumption | exact hct _ hS | exact hS.cell0 (by assumption))) rfl ?_
  refine lst_enter (run_call (by kernel_rfl) (args_1 (by conv => lhs; whnf))) rfl ?_
  refine Calls.mono (isHeap_any h A B c d _ (hS.und hH)) ?_
  rintro _ w2 ⟨rfl, hb2⟩
  refine ⟨_, rfl, ?_⟩
  replace hS := hS.grow hb2
  cases hg : goodH h with
  | false =>
    have e0 : cutH h n = (h, 1) := by unfold cutH; rw [if_pos hg]
    rw [e0]
    refine lst_run (rfl) rfl ?_
    refine lst_done ?_
    refine goes_true rfl ?_
    refine goes_seq ?_
    refine goes_region ?_
    first
      | refine lst_run (run_loadN_own (k := 2) hS rfl rfl rfl (by first | exact .head | exact .tail .head | exact .tail (.tail .head) | exact .tail (.tail (.tail .head)) | exact .tail (.tail (.tail (.tail .head))) | exact .tail (.tail (.tail (.tail (.tail .head))))) (by repeat constructor)) rfl ?_
      | refine lst_run (run_load2 rfl rfl rfl (by first | assumption | exact hct _ hS | exact hS.cell0 (by assumption)) (by first | assumption | exact hct _ hS | exact hS.cell0 (by assumption))) rfl ?_
    refine lst_storeN hS rfl (by conv => lhs; whnf) rfl rfl (by first | exact .head | exact .tail .head | exact .tail (.tail .head) | exact .tail (.tail (.tail .head)) | exact .tail (.tail (.tail (.tail .head))) | exact .tail (.tail (.tail (.tail (.tail .head))))) (by repeat constructor) (by first | exact .head | exact .tail .head | exact .tail (.tail .head) | exact .tail (.tail (.tail .head)) | exact .tail (.tail (.tail (.tail .head))) | exact .tail (.tail (.tail (.tail (.tail .head))))) ?_
    clear hS
    intro wx3 hS
    refine lst_run (run_assign (by conv => lhs; whnf)) rfl ?_
    refine lst_done ?_
    refine goes_retC2 (sz := 2) hS Try.func19 rfl rfl (by conv => lhs; whnf) rfl rfl (by first | exact .head | exact .tail .head | exact .tail (.tail .head) | exact .tail (.tail (.tail .head)) | exact .tail (.tail (.tail (.tail .head))) | exact .tail (.tail (.tail (.tail (.tail .head))))) (by repeat constructor) ?_
    exact ⟨A, c, B, d, F, rfl, fun _ h => h, hH, hS.drop.drop⟩
  | true =>
  obtain ⟨hl1, hl2⟩ := good_len hg
  by_cases hn0 : n < 0
  · have e0 : cutH h n = (h, 2) := by unfold cutH; rw [if_neg (by rw [hg]; decide), if_pos (.inl hn0)]
    rw [e0]
    refine lst_run (rfl) rfl ?_
    refine lst_done ?_
    refine goes_false rfl ?_
    refine goes_skip ?_
    refine goes_seq ?_
    refine goes_seq ?_
    refine goes_region ?_
    refine lst_run (run_move (by conv => lhs; whnf)) rfl ?_
    first
      | refine lst_run (run_lss_yes rfl rfl (by omega)) rfl ?_
      | refine lst_run (run_lss_no rfl rfl (by omega)) rfl ?_
      | refine lst_run (rfl) rfl ?_
    refine lst_run (run_move (by conv => lhs; whnf)) rfl ?_
    refine lst_pass rfl rfl rfl ?_
    refine lst_pass rfl rfl rfl ?_
    refine lst_pass rfl rfl rfl ?_
    refine lst_pass rfl rfl rfl ?_
    refine lst_pass rfl rfl rfl ?_
    first
      | refine lst_run (run_pick_t rfl (by conv => lhs; whnf)) rfl ?_
      | refine lst_run (run_pick_f rfl (by conv => lhs; whnf)) rfl ?_
    refine lst_done ?_
    refine goes_true rfl ?_
    refine goes_seq ?_
    refine goes_region ?_
    first
      | refine lst_run (run_loadN_own (k := 2) hS rfl rfl rfl (by first | exact .head | exact .tail .head | exact .tail (.tail .head) | exact .tail (.tail (.tail .head)) | exact .tail (.tail (.tail (.tail .head))) | exact .tail (.tail (.tail (.tail (.tail .head))))) (by repeat constructor)) rfl ?_
      | refine lst_run (run_load2 rfl rfl rfl (by first | assumption | exact hct _ hS | exact hS.cell0 (by assumption)) (by first | assumption | exact hct _ hS | exact hS.cell0 (by assumption))) rfl ?_
    refine lst_storeN hS rfl (by conv => lhs; whnf) rfl rfl (by first | exact .head | exact .tail .head | exact .tail (.tail .head) | exact .tail (.tail (.tail .head)) | exact .tail (.tail (.tail (.tail .head))) | exact .tail (.tail (.tail (.tail (.tail .head))))) (by repeat constructor) (by first | exact .head | exact .tail .head | exact .tail (.tail .head) | exact .tail (.tail (.tail .head)) | exact .tail (.tail (.tail (.tail .head))) | exact .tail (.tail (.tail (.tail (.tail .head))))) ?_
    clear hS
    intro wx3 hS
    refine lst_run (run_assign (by conv => lhs; whnf)) rfl ?_
    refine lst_done ?_
    refine goes_retC2 (sz := 2) hS Try.func19 rfl rfl (by conv => lhs; whnf) rfl rfl (by first | exact .head | exact .tail .head | exact .tail (.tail .head) | exact .tail (.tail (.tail .head)) | exact .tail (.tail (.tail (.tail .head))) | exact .tail (.tail (.tail (.tail (.tail .head))))) (by repeat constructor) ?_
    exact ⟨A, c, B, d, F, rfl, fun _ h => h, hH, hS.drop.drop⟩
  by_cases hn1 : (h.cs.length : Int) < n
  · have e0 : cutH h n = (h, 2) := by unfold cutH; rw [if_neg (by rw [hg]; decide), if_pos (.inr hn1)]
    rw [e0]
    refine lst_run (rfl) rfl ?_
    refine lst_done ?_
    refine goes_false rfl ?_
    refine goes_skip ?_
    refine goes_seq ?_
    refine goes_seq ?_
    refine goes_region ?_
    refine lst_run (run_move (by conv => lhs; whnf)) rfl ?_
    first
      | refine lst_run (run_lss_yes rfl rfl (by omega)) rfl ?_
      | refine lst_run (run_lss_no rfl rfl (by omega)) rfl ?_
      | refine lst_run (rfl) rfl ?_
    refine lst_run (run_move (by conv => lhs; whnf)) rfl ?_
    refine lst_guard rfl rfl ?_
    refine lst_run (run_move (by conv => lhs; whnf)) rfl ?_
    refine lst_guard rfl rfl ?_
    refine lst_run (run_fieldAddr (off := 0) rfl rfl) rfl ?_
    refine lst_guard rfl rfl ?_
    first
      | refine lst_run (run_load1_own hS rfl rfl (by first | exact .head | exact .tail .head | exact .tail (.tail .head) | exact .tail (.tail (.tail .head)) | exact .tail (.tail (.tail (.tail .head))) | exact .tail (.tail (.tail (.tail (.tail .head))))) (by repeat constructor)) rfl ?_
      | refine lst_run (run_load1 rfl rfl (by first | assumption | exact hct _ hS | exact hS.cell0 (by assumption) | exact lv_next hS | exact lv_list hS)) rfl ?_
    refine lst_guard rfl rfl ?_
    refine lst_run (run_len_slice rfl rfl rfl) rfl ?_
    refine lst_guard rfl rfl ?_
    first
      | refine lst_run (run_gtr_yes rfl rfl (by omega)) rfl ?_
      | refine lst_run (run_gtr_no rfl rfl (by omega)) rfl ?_
      | refine lst_run (rfl) rfl ?_
    first
      | refine lst_run (run_pick_t rfl (by conv => lhs; whnf)) rfl ?_
      | refine lst_run (run_pick_f rfl (by conv => lhs; whnf)) rfl ?_
    refine lst_done ?_
    refine goes_true rfl ?_
    refine goes_seq ?_
    refine goes_region ?_
    first
      | refine lst_run (run_loadN_own (k := 2) hS rfl rfl rfl (by first | exact .head | exact .tail .head | exact .tail (.tail .head) | exact .tail (.tail (.tail .head)) | exact .tail (.tail (.tail (.tail .head))) | exact .tail (.tail (.tail (.tail (.tail .head))))) (by repeat constructor)) rfl ?_
      | refine lst_run (run_load2 rfl rfl rfl (by first | assumption | exact hct _ hS | exact hS.cell0 (by assumption)) (by first | assumption | exact hct _ hS | exact hS.cell0 (by assumption))) rfl ?_
    refine lst_storeN hS rfl (by conv => lhs; whnf) rfl rfl (by first | exact .head | exact .tail .head | exact .tail (.tail .head) | exact .tail (.tail (.tail .head)) | exact .tail (.tail (.tail (.tail .head))) | exact .tail (.tail (.tail (.tail (.tail .head))))) (by repeat constructor) (by first | exact .head | exact .tail .head | exact .tail (.tail .head) | exact .tail (.tail (.tail .head)) | exact .tail (.tail (.tail (.tail .head))) | exact .tail (.tail (.tail (.tail (.tail .head))))) ?_
    clear hS
    intro wx3 hS
    refine lst_run (run_assign (by conv => lhs; whnf)) rfl ?_
    refine lst_done ?_
    refine goes_retC2 (sz := 2) hS Try.func19 rfl rfl (by conv => lhs; whnf) rfl rfl (by first | exact .head | exact .tail .head | exact .tail (.tail .head) | exact .tail (.tail (.tail .head)) | exact .tail (.tail (.tail (.tail .head))) | exact .tail (.tail (.tail (.tail (.tail .head))))) (by repeat constructor) ?_
    exact ⟨A, c, B, d, F, rfl, fun _ h => h, hH, hS.drop.drop⟩
  have hln : (h.cs.take n.toNat).length = n.toNat := by rw [List.length_take, Nat.min_eq_left (by omega)]
  refine lst_run (rfl) rfl ?_
  refine lst_done ?_
  refine goes_false rfl ?_
  refine goes_skip ?_
  refine goes_seq ?_
  refine goes_seq ?_
  refine goes_region ?_
  refine lst_run (run_move (by conv => lhs; whnf)) rfl ?_
  first
    | refine lst_run (run_lss_yes rfl rfl (by omega)) rfl ?_
    | refine lst_run (run_lss_no rfl rfl (by omega)) rfl ?_
    | refine lst_run (rfl) rfl ?_
  refine lst_run (run_move (by conv => lhs; whnf)) rfl ?_
  refine lst_guard rfl rfl ?_
  refine lst_run (run_move (by conv => lhs; whnf)) rfl ?_
  refine lst_guard rfl rfl ?_
  refine lst_run (run_fieldAddr (off := 0) rfl rfl) rfl ?_
  refine lst_guard rfl rfl ?_
  first
    | refine lst_run (run_load1_own hS rfl rfl (by first | exact .head | exact .tail .head | exact .tail (.tail .head) | exact .tail (.tail (.tail .head)) | exact .tail (.tail (.tail (.tail .head))) | exact .tail (.tail (.tail (.tail (.tail .head))))) (by repeat constructor)) rfl ?_
    | refine lst_run (run_load1 rfl rfl (by first | assumption | exact hct _ hS | exact hS.cell0 (by assumption) | exact lv_next hS | exact lv_list hS)) rfl ?_
  refine lst_guard rfl rfl ?_
  refine lst_run (run_len_slice rfl rfl rfl) rfl ?_
  refine lst_guard rfl rfl ?_
  first
    | refine lst_run (run_gtr_yes rfl rfl (by omega)) rfl ?_
    | refine lst_run (run_gtr_no rfl rfl (by omega)) rfl ?_
    | refine lst_run (rfl) rfl ?_
  first
    | refine lst_run (run_pick_t rfl (by conv => lhs; whnf)) rfl ?_
    | refine lst_run (run_pick_f rfl (by conv => lhs; whnf)) rfl ?_
  refine lst_done ?_
  refine goes_false rfl ?_
  refine goes_skip ?_
  refine goes_seq ?_
  refine goes_region ?_
  first
    | refine lst_run (run_loadN_own (k := 2) hS rfl rfl rfl (by first | exact .head | exact .tail .head | exact .tail (.tail .head) | exact .tail (.tail (.tail .head)) | exact .tail (.tail (.tail (.tail .head))) | exact .tail (.tail (.tail (.tail (.tail .head))))) (by repeat constructor)) rfl ?_
    | refine lst_run (run_load2 rfl rfl rfl (by first | assumption | exact hct _ hS | exact hS.cell0 (by assumption)) (by first | assumption | exact hct _ hS | exact hS.cell0 (by assumption))) rfl ?_
  refine lst_enter (run_call (by kernel_rfl) (args_1 (by conv => lhs; whnf))) rfl ?_
  refine Calls.mono (copyHeap_kept h A B c d _ hH (by omega) (by omega) hS) ?_
  rintro _ w4 ⟨A3, c3, A4, d4, F3, rfl, hF3, hH3, hS'⟩
  refine ⟨_, rfl, ?_⟩
  replace hS := hS'
  clear hS'
  have hc : h.cs.length ≤ c3 := (hS.und hH3).1.2.1
  have hCut : Und F3 (HFl ⟨h.cs.take n.toNat, h.tr⟩ A3 c3 A4 d4) := hH3.imp fun w' h1 => by
    refine ⟨?_, h1.2⟩
    have := h1.1.take (m := n.toNat) (c' := c3) (by omega) (by omega)
    show Flat 3 (hcsL (h.cs.take n.toNat)) A3 (h.cs.take n.toNat).length c3 w'
    rw [List.length_take, Nat.min_eq_left (by omega)]
    rw [show hcsL (h.cs.take n.toNat) = (hcsL h.cs).take (n.toNat * 3) by
      rw [← List.take_append_drop n.toNat h.cs, hcsL_app, List.take_append_drop]
      rw [show n.toNat * 3 = (hcsL (h.cs.take n.toNat)).length by rw [hcsL_len, List.length_take, Nat.min_eq_left (by omega)]]
      simp]
    exact this
  have hgc := isHeap_any ⟨h.cs.take n.toNat, h.tr⟩ A3 A4 c3 d4
  dsimp only [hv, heapV] at hgc
  rw [hln] at hgc
  refine lst_alloc (cs := [_, _]) hS rfl rfl rfl ?_
  clear hS
  intro b3 wx3 hS
  refine lst_storeN hS rfl (by conv => lhs; whnf) rfl rfl (by first | exact .head | exact .tail .head | exact .tail (.tail .head) | exact .tail (.tail (.tail .head)) | exact .tail (.tail (.tail (.tail .head))) | exact .tail (.tail (.tail (.tail (.tail .head))))) (by repeat constructor) (by first | exact .head | exact .tail .head | exact .tail (.tail .head) | exact .tail (.tail (.tail .head)) | exact .tail (.tail (.tail (.tail .head))) | exact .tail (.tail (.tail (.tail (.tail .head))))) ?_
  clear hS
  intro wx4 hS
  refine lst_done ?_
  refine goes_seq ?_
  refine goes_region ?_
  refine lst_run (run_fieldAddr (off := 0) rfl rfl) rfl ?_
  first
    | refine lst_run (run_load1_own hS rfl rfl (by first | exact .head | exact .tail .head | exact .tail (.tail .head) | exact .tail (.tail (.tail .head)) | exact .tail (.tail (.tail (.tail .head))) | exact .tail (.tail (.tail (.tail (.tail .head))))) (by repeat constructor)) rfl ?_
    | refine lst_run (run_load1 rfl rfl (by first | assumption | exact hct _ hS | exact hS.cell0 (by assumption) | exact lv_next hS | exact lv_list hS)) rfl ?_
  refine lst_run (run_move (by conv => lhs; whnf)) rfl ?_
  refine lst_run (run_slice_slice (sz := 3) rfl rfl rfl rfl (by omega) (by omega)) rfl ?_
  refine lst_run (run_fieldAddr (off := 0) rfl rfl) rfl ?_
  refine lst_store1 hS rfl (by conv => lhs; whnf) rfl rfl (by first | exact .head | exact .tail .head | exact .tail (.tail .head) | exact .tail (.tail (.tail .head)) | exact .tail (.tail (.tail (.tail .head))) | exact .tail (.tail (.tail (.tail (.tail .head))))) (by repeat constructor) (by first | exact .head | exact .tail .head | exact .tail (.tail .head) | exact .tail (.tail (.tail .head)) | exact .tail (.tail (.tail (.tail .head))) | exact .tail (.tail (.tail (.tail (.tail .head))))) ?_
  clear hS
  intro wx5 hS
  refine lst_done ?_
  refine goes_seq ?_
  refine goes_seq ?_
  refine goes_region ?_
  first
    | refine lst_run (run_loadN_own (k := 2) hS rfl rfl rfl (by first | exact .head | exact .tail .head | exact .tail (.tail .head) | exact .tail (.tail (.tail .head)) | exact .tail (.tail (.tail (.tail .head))) | exact .tail (.tail (.tail (.tail (.tail .head))))) (by repeat constructor)) rfl ?_
    | refine lst_run (run_load2 rfl rfl rfl (by first | assumption | exact hct _ hS | exact hS.cell0 (by assumption)) (by first | assumption | exact hct _ hS | exact hS.cell0 (by assumption))) rfl ?_
  refine lst_enter (run_call (by kernel_rfl) (args_1 (by conv => lhs; whnf))) rfl ?_
  refine Calls.mono (hgc _ (hS.und hCut)) ?_
  rintro _ w5 ⟨rfl, hb5⟩
  refine ⟨_, rfl, ?_⟩
  replace hS := hS.grow hb5
  cases hg2 : goodH ⟨h.cs.take n.toNat, h.tr⟩ with
  | false =>
    have e0 : cutH h n = (h, 1) := by unfold cutH; rw [if_neg (by rw [hg]; decide), if_neg (by omega), if_pos hg2]
    rw [e0]
    refine lst_run (rfl) rfl ?_
    refine lst_done ?_
    refine goes_true rfl ?_
    refine goes_seq ?_
    refine goes_region ?_
    first
      | refine lst_run (run_loadN_own (k := 2) hS rfl rfl rfl (by first | exact .head | exact .tail .head | exact .tail (.tail .head) | exact .tail (.tail (.tail .head)) | exact .tail (.tail (.tail (.tail .head))) | exact .tail (.tail (.tail (.tail (.tail .head))))) (by repeat constructor)) rfl ?_
      | refine lst_run (run_load2 rfl rfl rfl (by first | assumption | exact hct _ hS | exact hS.cell0 (by assumption)) (by first | assumption | exact hct _ hS | exact hS.cell0 (by assumption))) rfl ?_
    refine lst_storeN hS rfl (by conv => lhs; whnf) rfl rfl (by first | exact .head | exact .tail .head | exact .tail (.tail .head) | exact .tail (.tail (.tail .head)) | exact .tail (.tail (.tail (.tail .head))) | exact .tail (.tail (.tail (.tail (.tail .head))))) (by repeat constructor) (by first | exact .head | exact .tail .head | exact .tail (.tail .head) | exact .tail (.tail (.tail .head)) | exact .tail (.tail (.tail (.tail .head))) | exact .tail (.tail (.tail (.tail (.tail .head))))) ?_
    clear hS
    intro wx6 hS
    refine lst_run (run_assign (by conv => lhs; whnf)) rfl ?_
    refine lst_done ?_
    refine goes_retC2 (sz := 2) hS Try.func19 rfl rfl (by conv => lhs; whnf) rfl rfl (by first | exact .head | exact .tail .head | exact .tail (.tail .head) | exact .tail (.tail (.tail .head)) | exact .tail (.tail (.tail (.tail .head))) | exact .tail (.tail (.tail (.tail (.tail .head))))) (by repeat constructor) ?_
    exact ⟨A, c, B, d, F3, rfl, hF3, hH.mono hF3, hS.drop.drop.drop⟩
  | true =>
    have e0 : cutH h n = (⟨h.cs.take n.toNat, h.tr⟩, 0) := by unfold cutH; rw [if_neg (by rw [hg]; decide), if_neg (by omega), if_neg (by rw [hg2]; decide)]
    rw [e0]
    refine lst_run (rfl) rfl ?_
    refine lst_done ?_
    refine goes_false rfl ?_
    refine goes_skip ?_
    refine goes_seq ?_
    refine goes_region ?_
    first
      | refine lst_run (run_loadN_own (k := 2) hS rfl rfl rfl (by first | exact .head | exact .tail .head | exact .tail (.tail .head) | exact .tail (.tail (.tail .head)) | exact .tail (.tail (.tail (.tail .head))) | exact .tail (.tail (.tail (.tail (.tail .head))))) (by repeat constructor)) rfl ?_
      | refine lst_run (run_load2 rfl rfl rfl (by first | assumption | exact hct _ hS | exact hS.cell0 (by assumption)) (by first | assumption | exact hct _ hS | exact hS.cell0 (by assumption))) rfl ?_
    refine lst_storeN hS rfl (by conv => lhs; whnf) rfl rfl (by first | exact .head | exact .tail .head | exact .tail (.tail .head) | exact .tail (.tail (.tail .head)) | exact .tail (.tail (.tail (.tail .head))) | exact .tail (.tail (.tail (.tail (.tail .head))))) (by repeat constructor) (by first | exact .head | exact .tail .head | exact .tail (.tail .head) | exact .tail (.tail (.tail .head)) | exact .tail (.tail (.tail (.tail .head))) | exact .tail (.tail (.tail (.tail (.tail .head))))) ?_
    clear hS
    intro wx6 hS
    refine lst_run (run_assign (by conv => lhs; whnf)) rfl ?_
    refine lst_done ?_
    refine goes_retC2 (sz := 2) hS Try.func19 rfl rfl (by conv => lhs; whnf) rfl rfl (by first | exact .head | exact .tail .head | exact .tail (.tail .head) | exact .tail (.tail (.tail .head)) | exact .tail (.tail (.tail (.tail .head))) | exact .tail (.tail (.tail (.tail (.tail .head))))) (by repeat constructor) ?_
    refine ⟨A3, c3, A4, d4, F3, ?_, hF3, hCut, hS.drop.drop.drop⟩
    dsimp only [hv, heapV]; rw [hln]
end
end Go.Proofs.Ytjicoifjgokoiab
namespace Go.Proofs.Ytjicoifjgokoiab
open Go.RowKit
set_option linter.unusedVariables false
set_option linter.unusedSimpArgs false
set_option maxRecDepth 100000
set_option maxHeartbeats 1000000

theorem undoH_len (h : HH) (n : Int) : (undoH h n).1.cs.length = h.cs.length ∧ (undoH h n).1.tr.length ≤ h.tr.length := by
  unfold undoH
  split
  · exact ⟨rfl, by simp⟩
  · split
    · exact ⟨rfl, by simp⟩
    · exact ⟨undoL_len _ _, by simp; omega⟩
theorem cutH_len (h : HH) (n : Int) : (cutH h n).1.cs.length ≤ h.cs.length ∧ (cutH h n).1.tr.length = h.tr.length := by
  unfold cutH
  split
  · exact ⟨by simp, rfl⟩
  · split
    · exact ⟨by simp, rfl⟩
    · split
      · exact ⟨by simp, rfl⟩
      · exact ⟨by simp; omega, rfl⟩
theorem heapBacks_any (h : HH) (n : Int) (A B : Option Addr) (c d : Nat) (w : World) (hH : HFl h A c B d w) (hl1 : h.cs.length ≤ 1048576) (hl2 : h.tr.length ≤ 1048576) :
    Calls Try.prog 4 #[hv h A c B d, .int .i64 n] w fun e w' => e = .returned (.bool true) ∧ Below w.heap.size w w' := by
  have hS := (St.start w).base (φ := HFl h A c B d) fun w' hx => hH.ext hx
  have hHu : Und [HFl h A c B d] (HFl h A c B d) := Und.head
  obtain ⟨u1, u2⟩ := undoH_len h n
  obtain ⟨c1, c2⟩ := cutH_len h n
  refine goes_enter2 Try.func4 rfl Try.ntmps4 rfl ?_
  refine goes_seq ?_
  refine goes_region ?_
  refine lst_box hS rfl rfl ?_
  clear hS
  intro b1 wx1 hS
  refine lst_run (run_assign (by conv => lhs; whnf)) rfl ?_
  refine lst_done ?_
  refine goes_seq ?_
  refine goes_region ?_
  first
    | refine lst_run (run_loadN_own (k := 2) hS rfl rfl rfl (by first | exact .head | exact .tail .head | exact .tail (.tail .head) | exact .tail (.tail (.tail .head)) | exact .tail (.tail (.tail (.tail .head))) | exact .tail (.tail (.tail (.tail (.tail .head))))) (by repeat constructor)) rfl ?_
    | refine lst_run (run_load2 rfl rfl rfl (by first | assumption | exact hS.cell0 (by assumption)) (by first | assumption | exact hS.cell0 (by assumption))) rfl ?_
  refine lst_enter (run_call (by kernel_rfl) (args_1 (by conv => lhs; whnf))) rfl ?_
  refine Calls.mono (copyHeap_kept h A B c d _ hHu (by omega) (by omega) hS) ?_
  rintro _ w2 ⟨A3, c3, B3, d3, F3, rfl, hF3, hH3, hS'⟩
  refine ⟨_, rfl, ?_⟩
  replace hS := hS'
  clear hS'
  refine lst_alloc (cs := [_, _]) hS rfl rfl rfl ?_
  clear hS
  intro b2 wx2 hS
  refine lst_storeN hS rfl (by conv => lhs; whnf) rfl rfl (by first | exact .head | exact .tail .head | exact .tail (.tail .head) | exact .tail (.tail (.tail .head)) | exact .tail (.tail (.tail (.tail .head))) | exact .tail (.tail (.tail (.tail (.tail .head))))) (by repeat constructor) (by first | exact .head | exact .tail .head | exact .tail (.tail .head) | exact .tail (.tail (.tail .head)) | exact .tail (.tail (.tail (.tail .head))) | exact .tail (.tail (.tail (.tail (.tail .head))))) ?_
  clear hS
  intro wx3 hS
  refine lst_done ?_
  refine goes_seq ?_
  refine goes_region ?_
  first
    | refine lst_run (run_loadN_own (k := 2) hS rfl rfl rfl (by first | exact .head | exact .tail .head | exact .tail (.tail .head) | exact .tail (.tail (.tail .head)) | exact .tail (.tail (.tail (.tail .head))) | exact .tail (.tail (.tail (.tail (.tail .head))))) (by repeat constructor)) rfl ?_
    | refine lst_run (run_load2 rfl rfl rfl (by first | assumption | exact hS.cell0 (by assumption)) (by first | assumption | exact hS.cell0 (by assumption))) rfl ?_
  refine lst_run (run_move (by conv => lhs; whnf)) rfl ?_
  refine lst_enter (run_call (by kernel_rfl) (args_2 (by conv => lhs; whnf) (by conv => lhs; whnf))) rfl ?_
  refine Calls.mono (undo_any h n A3 B3 c3 d3 _ hH3 hS) ?_
  rintro _ w4 ⟨A4, c4, B4, d4, F4, rfl, hF4, hH4, hS'⟩
  refine ⟨_, rfl, ?_⟩
  replace hS := hS'
  clear hS'
  have hf4 : ∀ φ ∈ [HFl h A c B d], φ ∈ F4 := fun φ h => hF4 φ (hF3 φ h)
  refine lst_run (run_move (by conv => lhs; whnf)) rfl ?_
  refine lst_run (run_extract rfl rfl) rfl ?_
  refine lst_run (run_extract rfl rfl) rfl ?_
  refine lst_alloc (cs := [_, _]) hS rfl rfl rfl ?_
  clear hS
  intro b3 wx4 hS
  refine lst_storeN hS rfl (by conv => lhs; whnf) rfl rfl (by first | exact .head | exact .tail .head | exact .tail (.tail .head) | exact .tail (.tail (.tail .head)) | exact .tail (.tail (.tail (.tail .head))) | exact .tail (.tail (.tail (.tail (.tail .head))))) (by repeat constructor) (by first | exact .head | exact .tail .head | exact .tail (.tail .head) | exact .tail (.tail (.tail .head)) | exact .tail (.tail (.tail (.tail .head))) | exact .tail (.tail (.tail (.tail (.tail .head))))) ?_
  clear hS
  intro wx5 hS
  refine lst_run (run_assign (by conv => lhs; whnf)) rfl ?_
  refine lst_done ?_
  refine goes_seq ?_
  refine goes_region ?_
  first
    | refine lst_run (run_loadN_own (k := 2) hS rfl rfl rfl (by first | exact .head | exact .tail .head | exact .tail (.tail .head) | exact .tail (.tail (.tail .head)) | exact .tail (.tail (.tail (.tail .head))) | exact .tail (.tail (.tail (.tail (.tail .head))))) (by repeat constructor)) rfl ?_
    | refine lst_run (run_load2 rfl rfl rfl (by first | assumption | exact hS.cell0 (by assumption)) (by first | assumption | exact hS.cell0 (by assumption))) rfl ?_
  refine lst_run (run_move (by conv => lhs; whnf)) rfl ?_
  refine lst_enter (run_call (by kernel_rfl) (args_2 (by conv => lhs; whnf) (by conv => lhs; whnf))) rfl ?_
  refine Calls.mono (undoTo_any h n A B c d _ (hHu.mono hf4) hS) ?_
  rintro _ w5 ⟨A5, c5, B5, d5, F5, rfl, hF5, hH5, hS'⟩
  refine ⟨_, rfl, ?_⟩
  replace hS := hS'
  clear hS'
  refine lst_run (run_move (by conv => lhs; whnf)) rfl ?_
  refine lst_run (run_extract rfl rfl) rfl ?_
  refine lst_run (run_extract rfl rfl) rfl ?_
  refine lst_alloc (cs := [_, _]) hS rfl rfl rfl ?_
  clear hS
  intro b4 wx6 hS
  refine lst_storeN hS rfl (by conv => lhs; whnf) rfl rfl (by first | exact .head | exact .tail .head | exact .tail (.tail .head) | exact .tail (.tail (.tail .head)) | exact .tail (.tail (.tail (.tail .head))) | exact .tail (.tail (.tail (.tail (.tail .head))))) (by repeat constructor) (by first | exact .head | exact .tail .head | exact .tail (.tail .head) | exact .tail (.tail (.tail .head)) | exact .tail (.tail (.tail (.tail .head))) | exact .tail (.tail (.tail (.tail (.tail .head))))) ?_
  clear hS
  intro wx7 hS
  refine lst_run (run_assign (by conv => lhs; whnf)) rfl ?_
  refine lst_done ?_
  refine goes_seq ?_
  refine goes_region ?_
  first
    | refine lst_run (run_loadN_own (k := 2) hS rfl rfl rfl (by first | exact .head | exact .tail .head | exact .tail (.tail .head) | exact .tail (.tail (.tail .head)) | exact .tail (.tail (.tail (.tail .head))) | exact .tail (.tail (.tail (.tail (.tail .head))))) (by repeat constructor)) rfl ?_
    | refine lst_run (run_load2 rfl rfl rfl (by first | assumption | exact hS.cell0 (by assumption)) (by first | assumption | exact hS.cell0 (by assumption))) rfl ?_
  refine lst_run (run_move (by conv => lhs; whnf)) rfl ?_
  refine lst_enter (run_call (by kernel_rfl) (args_2 (by conv => lhs; whnf) (by conv => lhs; whnf))) rfl ?_
  refine Calls.mono (cut_any h n A3 B3 c3 d3 _ (hH3.mono fun φ h => hF5 φ (hF4 φ h)) hS) ?_
  rintro _ w6 ⟨A6, c6, B6, d6, F6, rfl, hF6, hH6, hS'⟩
  refine ⟨_, rfl, ?_⟩
  replace hS := hS'
  clear hS'
  refine lst_run (run_move (by conv => lhs; whnf)) rfl ?_
  refine lst_run (run_extract rfl rfl) rfl ?_
  refine lst_run (run_extract rfl rfl) rfl ?_
  refine lst_alloc (cs := [_, _]) hS rfl rfl rfl ?_
  clear hS
  intro b5 wx8 hS
  refine lst_storeN hS rfl (by conv => lhs; whnf) rfl rfl (by first | exact .head | exact .tail .head | exact .tail (.tail .head) | exact .tail (.tail (.tail .head)) | exact .tail (.tail (.tail (.tail .head))) | exact .tail (.tail (.tail (.tail (.tail .head))))) (by repeat constructor) (by first | exact .head | exact .tail .head | exact .tail (.tail .head) | exact .tail (.tail (.tail .head)) | exact .tail (.tail (.tail (.tail .head))) | exact .tail (.tail (.tail (.tail (.tail .head))))) ?_
  clear hS
  intro wx9 hS
  refine lst_run (run_assign (by conv => lhs; whnf)) rfl ?_
  refine lst_done ?_
  refine goes_seq ?_
  refine goes_region ?_
  first
    | refine lst_run (run_loadN_own (k := 2) hS rfl rfl rfl (by first | exact .head | exact .tail .head | exact .tail (.tail .head) | exact .tail (.tail (.tail .head)) | exact .tail (.tail (.tail (.tail .head))) | exact .tail (.tail (.tail (.tail (.tail .head))))) (by repeat constructor)) rfl ?_
    | refine lst_run (run_load2 rfl rfl rfl (by first | assumption | exact hS.cell0 (by assumption)) (by first | assumption | exact hS.cell0 (by assumption))) rfl ?_
  refine lst_run (run_move (by conv => lhs; whnf)) rfl ?_
  refine lst_enter (run_call (by kernel_rfl) (args_2 (by conv => lhs; whnf) (by conv => lhs; whnf))) rfl ?_
  refine Calls.mono (cutAt_any h n A B c d _ (hHu.mono fun φ h => hF6 φ (hF5 φ (hf4 φ h))) hS) ?_
  rintro _ w7 ⟨A7, c7, B7, d7, F7, rfl, hF7, hH7, hS'⟩
  refine ⟨_, rfl, ?_⟩
  replace hS := hS'
  clear hS'
  have z1 : Und F7 (HFl h A c B d) := hHu.mono fun φ h => hF7 φ (hF6 φ (hF5 φ (hf4 φ h)))
  have z3 : Und F7 (HFl h A3 c3 B3 d3) := hH3.mono fun φ h => hF7 φ (hF6 φ (hF5 φ (hF4 φ h)))
  have z4 := hH4.mono fun φ h => hF7 φ (hF6 φ (hF5 φ h))
  have z5 := hH5.mono fun φ h => hF7 φ (hF6 φ h)
  have z6 := hH6.mono hF7
  clear hH3 hH4 hH5 hH6
  generalize hr1 : undoH h n = r1 at *
  obtain ⟨x1, e1⟩ := r1
  generalize hr2 : cutH h n = r2 at *
  obtain ⟨x2, e2⟩ := r2
  dsimp only at *
  refine lst_run (run_move (by conv => lhs; whnf)) rfl ?_
  refine lst_run (run_extract rfl rfl) rfl ?_
  refine lst_run (run_extract rfl rfl) rfl ?_
  refine lst_alloc (cs := [_, _]) hS rfl rfl rfl ?_
  clear hS
  intro b6 wx10 hS
  refine lst_storeN hS rfl (by conv => lhs; whnf) rfl rfl (by first | exact .head | exact .tail .head | exact .tail (.tail .head) | exact .tail (.tail (.tail .head)) | exact .tail (.tail (.tail (.tail .head))) | exact .tail (.tail (.tail (.tail (.tail .head))))) (by repeat constructor) (by first | exact .head | exact .tail .head | exact .tail (.tail .head) | exact .tail (.tail (.tail .head)) | exact .tail (.tail (.tail (.tail .head))) | exact .tail (.tail (.tail (.tail (.tail .head))))) ?_
  clear hS
  intro wx11 hS
  refine lst_run (run_assign (by conv => lhs; whnf)) rfl ?_
  refine lst_done ?_
  refine goes_seq ?_
  refine goes_draw (St _ _ _ _) 36 ((0, true) :: (1, true) :: (2, false) :: (3, true) :: (4, true) :: (5, true) :: (6, true) :: (7, true) :: (8, true) :: (9, true) :: (10, true) :: (11, false) :: (12, true) :: (13, true) :: (14, true) :: (15, true) :: (16, true) :: (17, true) :: (18, true) :: (19, true) :: (20, true) :: (22, true) :: (23, true) :: (21, false) :: (24, false) :: (25, true) :: (26, true) :: (27, true) :: (28, true) :: (29, true) :: (30, false) :: (31, true) :: (32, true) :: (33, false) :: (34, true) :: (35, true) :: []) (by kernel_rfl) (by kernel_rfl) (hS.drew) ?_
  replace hS := hS.drew
  first
    | refine ord_read rfl (fun _ hS => run_loadN_own (k := 2) hS rfl rfl rfl (by first | exact .head | exact .tail .head | exact .tail (.tail .head) | exact .tail (.tail (.tail .head)) | exact .tail (.tail (.tail (.tail .head))) | exact .tail (.tail (.tail (.tail (.tail .head))))) (by repeat constructor)) rfl ?_
    | refine ord_read rfl (fun _ hS => run_load2 rfl rfl rfl (by first | assumption | exact hS.cell0 (by assumption)) (by first | assumption | exact hS.cell0 (by assumption))) rfl ?_
  first
    | refine ord_read rfl (fun _ hS => run_loadN_own (k := 2) hS rfl rfl rfl (by first | exact .head | exact .tail .head | exact .tail (.tail .head) | exact .tail (.tail (.tail .head)) | exact .tail (.tail (.tail (.tail .head))) | exact .tail (.tail (.tail (.tail (.tail .head))))) (by repeat constructor)) rfl ?_
    | refine ord_read rfl (fun _ hS => run_load2 rfl rfl rfl (by first | assumption | exact hS.cell0 (by assumption)) (by first | assumption | exact hS.cell0 (by assumption))) rfl ?_
  refine ord_act rfl ?_
  refine lst_enter (run_call (by kernel_rfl) (args_2 (by conv => lhs; whnf) (by conv => lhs; whnf))) rfl ?_
  refine Calls.mono (sameHeap_eq x1 A4 B4 A5 B5 c4 d4 c5 d5 _ (hS.und z4) (hS.und z5) (by omega) (by omega)) ?_
  rintro _ w8 ⟨rfl, hb8⟩
  refine ⟨_, rfl, ?_⟩
  replace hS := hS.grow hb8
  refine lst_ord (by first | exact hS | exact hS.drop | exact hS.drop.drop | exact hS.drop.drop.drop | exact hS.unlearn | exact hS.unlearn.drop | exact hS.unlearn.drop.drop | exact hS.forget (by assumption) | exact hS.drop.forget (by assumption)) ?_
  refine ord_read rfl (fun _ hS => run_move (by conv => lhs; whnf)) rfl ?_
  refine ord_readG rfl rfl rfl (fun _ hS => run_move (by conv => lhs; whnf)) rfl ?_
  refine ord_readG rfl rfl rfl (fun _ hS => run_move (by conv => lhs; whnf)) rfl ?_
  first
    | refine ord_readG rfl rfl rfl (fun _ hS => run_eql_one_int rfl rfl) rfl ?_
    | refine ord_readG rfl rfl rfl (fun _ hS => run_eql_no rfl rfl (by first | assumption | omega)) rfl ?_
    | refine ord_readG rfl rfl rfl (fun _ hS => run_eql_yes rfl rfl (by omega)) rfl ?_
    | refine ord_readG rfl rfl rfl (fun _ hS => rfl) rfl ?_
  first
    | refine ord_read rfl (fun _ hS => run_pick_t rfl (by conv => lhs; whnf)) rfl ?_
    | refine ord_read rfl (fun _ hS => run_pick_f rfl (by conv => lhs; whnf)) rfl ?_
  refine ord_read rfl (fun _ hS => run_move (by conv => lhs; whnf)) rfl ?_
  first
    | refine ord_readG rfl rfl rfl (fun _ hS => run_loadN_own (k := 2) hS rfl rfl rfl (by first | exact .head | exact .tail .head | exact .tail (.tail .head) | exact .tail (.tail (.tail .head)) | exact .tail (.tail (.tail (.tail .head))) | exact .tail (.tail (.tail (.tail (.tail .head))))) (by repeat constructor)) rfl ?_
    | refine ord_readG rfl rfl rfl (fun _ hS => run_load2 rfl rfl rfl (by first | assumption | exact hS.cell0 (by assumption)) (by first | assumption | exact hS.cell0 (by assumption))) rfl ?_
  first
    | refine ord_readG rfl rfl rfl (fun _ hS => run_loadN_own (k := 2) hS rfl rfl rfl (by first | exact .head | exact .tail .head | exact .tail (.tail .head) | exact .tail (.tail (.tail .head)) | exact .tail (.tail (.tail (.tail .head))) | exact .tail (.tail (.tail (.tail (.tail .head))))) (by repeat constructor)) rfl ?_
    | refine ord_readG rfl rfl rfl (fun _ hS => run_load2 rfl rfl rfl (by first | assumption | exact hS.cell0 (by assumption)) (by first | assumption | exact hS.cell0 (by assumption))) rfl ?_
  refine ord_act rfl ?_
  refine lst_guard rfl rfl ?_
  refine lst_enter (run_call (by kernel_rfl) (args_2 (by conv => lhs; whnf) (by conv => lhs; whnf))) rfl ?_
  refine Calls.mono (sameHeap_eq x2 A6 B6 A7 B7 c6 d6 c7 d7 _ (hS.und z6) (hS.und hH7) (by omega) (by omega)) ?_
  rintro _ w9 ⟨rfl, hb9⟩
  refine ⟨_, rfl, ?_⟩
  replace hS := hS.grow hb9
  refine lst_ord (by first | exact hS | exact hS.drop | exact hS.drop.drop | exact hS.drop.drop.drop | exact hS.unlearn | exact hS.unlearn.drop | exact hS.unlearn.drop.drop | exact hS.forget (by assumption) | exact hS.drop.forget (by assumption)) ?_
  first
    | refine ord_read rfl (fun _ hS => run_pick_t rfl (by conv => lhs; whnf)) rfl ?_
    | refine ord_read rfl (fun _ hS => run_pick_f rfl (by conv => lhs; whnf)) rfl ?_
  refine ord_read rfl (fun _ hS => run_move (by conv => lhs; whnf)) rfl ?_
  refine ord_readG rfl rfl rfl (fun _ hS => run_move (by conv => lhs; whnf)) rfl ?_
  refine ord_readG rfl rfl rfl (fun _ hS => run_move (by conv => lhs; whnf)) rfl ?_
  first
    | refine ord_readG rfl rfl rfl (fun _ hS => run_eql_one_int rfl rfl) rfl ?_
    | refine ord_readG rfl rfl rfl (fun _ hS => run_eql_no rfl rfl (by first | assumption | omega)) rfl ?_
    | refine ord_readG rfl rfl rfl (fun _ hS => run_eql_yes rfl rfl (by omega)) rfl ?_
    | refine ord_readG rfl rfl rfl (fun _ hS => rfl) rfl ?_
  first
    | refine ord_read rfl (fun _ hS => run_pick_t rfl (by conv => lhs; whnf)) rfl ?_
    | refine ord_read rfl (fun _ hS => run_pick_f rfl (by conv => lhs; whnf)) rfl ?_
  refine ord_read rfl (fun _ hS => run_move (by conv => lhs; whnf)) rfl ?_
  first
    | refine ord_readG rfl rfl rfl (fun _ hS => run_loadN_own (k := 2) hS rfl rfl rfl (by first | exact .head | exact .tail .head | exact .tail (.tail .head) | exact .tail (.tail (.tail .head)) | exact .tail (.tail (.tail (.tail .head))) | exact .tail (.tail (.tail (.tail (.tail .head))))) (by repeat constructor)) rfl ?_
    | refine ord_readG rfl rfl rfl (fun _ hS => run_load2 rfl rfl rfl (by first | assumption | exact hS.cell0 (by assumption)) (by first | assumption | exact hS.cell0 (by assumption))) rfl ?_
  refine ord_readG rfl rfl rfl (fun _ hS => run_move (by conv => lhs; whnf)) rfl ?_
  first
    | refine ord_readG rfl rfl rfl (fun _ hS => run_loadN_own (k := 2) hS rfl rfl rfl (by first | exact .head | exact .tail .head | exact .tail (.tail .head) | exact .tail (.tail (.tail .head)) | exact .tail (.tail (.tail (.tail .head))) | exact .tail (.tail (.tail (.tail (.tail .head))))) (by repeat constructor)) rfl ?_
    | refine ord_readG rfl rfl rfl (fun _ hS => run_load2 rfl rfl rfl (by first | assumption | exact hS.cell0 (by assumption)) (by first | assumption | exact hS.cell0 (by assumption))) rfl ?_
  refine ord_readG rfl rfl rfl (fun _ hS => run_move (by conv => lhs; whnf)) rfl ?_
  refine ord_act rfl ?_
  refine lst_guard rfl rfl ?_
  refine lst_enter (run_call (by kernel_rfl) (args_2 (by conv => lhs; whnf) (by conv => lhs; whnf))) rfl ?_
  refine Calls.mono (look_any h.cs A3 B3 c3 h.tr.length d3 n _ (hS.und z3).1 (by omega)) ?_
  rintro _ w10 ⟨rfl, hb10⟩
  refine ⟨_, rfl, ?_⟩
  replace hS := hS.grow hb10
  refine lst_ord (by first | exact hS | exact hS.drop | exact hS.drop.drop | exact hS.drop.drop.drop | exact hS.unlearn | exact hS.unlearn.drop | exact hS.unlearn.drop.drop | exact hS.forget (by assumption) | exact hS.drop.forget (by assumption)) ?_
  refine ord_act rfl ?_
  refine lst_guard rfl rfl ?_
  refine lst_enter (run_call (by kernel_rfl) (args_2 (by conv => lhs; whnf) (by conv => lhs; whnf))) rfl ?_
  refine Calls.mono (lookAt_any h.cs A B c h.tr.length d n _ (hS.und z1).1) ?_
  rintro _ w11 ⟨rfl, hb11⟩
  refine ⟨_, rfl, ?_⟩
  replace hS := hS.grow hb11
  refine lst_ord (by first | exact hS | exact hS.drop | exact hS.drop.drop | exact hS.drop.drop.drop | exact hS.unlearn | exact hS.unlearn.drop | exact hS.unlearn.drop.drop | exact hS.forget (by assumption) | exact hS.drop.forget (by assumption)) ?_
  first
    | refine ord_readG rfl rfl rfl (fun _ hS => run_eql_one_int rfl rfl) rfl ?_
    | refine ord_readG rfl rfl rfl (fun _ hS => run_eql_no rfl rfl (by first | assumption | omega)) rfl ?_
    | refine ord_readG rfl rfl rfl (fun _ hS => run_eql_yes rfl rfl (by omega)) rfl ?_
    | refine ord_readG rfl rfl rfl (fun _ hS => rfl) rfl ?_
  first
    | refine ord_read rfl (fun _ hS => run_pick_t rfl (by conv => lhs; whnf)) rfl ?_
    | refine ord_read rfl (fun _ hS => run_pick_f rfl (by conv => lhs; whnf)) rfl ?_
  refine ord_read rfl (fun _ hS => run_move (by conv => lhs; whnf)) rfl ?_
  first
    | refine ord_readG rfl rfl rfl (fun _ hS => run_loadN_own (k := 2) hS rfl rfl rfl (by first | exact .head | exact .tail .head | exact .tail (.tail .head) | exact .tail (.tail (.tail .head)) | exact .tail (.tail (.tail (.tail .head))) | exact .tail (.tail (.tail (.tail (.tail .head))))) (by repeat constructor)) rfl ?_
    | refine ord_readG rfl rfl rfl (fun _ hS => run_load2 rfl rfl rfl (by first | assumption | exact hS.cell0 (by assumption)) (by first | assumption | exact hS.cell0 (by assumption))) rfl ?_
  first
    | refine ord_readG rfl rfl rfl (fun _ hS => run_loadN_own (k := 2) hS rfl rfl rfl (by first | exact .head | exact .tail .head | exact .tail (.tail .head) | exact .tail (.tail (.tail .head)) | exact .tail (.tail (.tail (.tail .head))) | exact .tail (.tail (.tail (.tail (.tail .head))))) (by repeat constructor)) rfl ?_
    | refine ord_readG rfl rfl rfl (fun _ hS => run_load2 rfl rfl rfl (by first | assumption | exact hS.cell0 (by assumption)) (by first | assumption | exact hS.cell0 (by assumption))) rfl ?_
  refine ord_act rfl ?_
  refine lst_guard rfl rfl ?_
  refine lst_enter (run_call (by kernel_rfl) (args_2 (by conv => lhs; whnf) (by conv => lhs; whnf))) rfl ?_
  refine Calls.mono (sameHeap_eq h A3 B3 A B c3 d3 c d _ (hS.und z3) (hS.und z1) (by omega) (by omega)) ?_
  rintro _ w12 ⟨rfl, hb12⟩
  refine ⟨_, rfl, ?_⟩
  replace hS := hS.grow hb12
  refine lst_ord (by first | exact hS | exact hS.drop | exact hS.drop.drop | exact hS.drop.drop.drop | exact hS.unlearn | exact hS.unlearn.drop | exact hS.unlearn.drop.drop | exact hS.forget (by assumption) | exact hS.drop.forget (by assumption)) ?_
  first
    | refine ord_read rfl (fun _ hS => run_pick_t rfl (by conv => lhs; whnf)) rfl ?_
    | refine ord_read rfl (fun _ hS => run_pick_f rfl (by conv => lhs; whnf)) rfl ?_
  refine ord_read rfl (fun _ hS => run_move (by conv => lhs; whnf)) rfl ?_
  refine ord_act rfl ?_
  refine lst_guard rfl rfl ?_
  refine lst_enter (run_call (by kernel_rfl) args_nil) rfl ?_
  refine Calls.mono (heapsL_any _) ?_
  rintro _ w13 ⟨rfl, hb13⟩
  refine ⟨_, rfl, ?_⟩
  replace hS := hS.grow hb13
  refine lst_ord (by first | exact hS | exact hS.drop | exact hS.drop.drop | exact hS.drop.drop.drop | exact hS.unlearn | exact hS.unlearn.drop | exact hS.unlearn.drop.drop | exact hS.forget (by assumption) | exact hS.drop.forget (by assumption)) ?_
  first
    | refine ord_read rfl (fun _ hS => run_pick_t rfl (by conv => lhs; whnf)) rfl ?_
    | refine ord_read rfl (fun _ hS => run_pick_f rfl (by conv => lhs; whnf)) rfl ?_
  refine ord_read rfl (fun _ hS => run_assign (by conv => lhs; whnf)) rfl ?_
  refine ord_end ?_
  refine lst_done ?_
  refine goes_ret1 Try.func4 rfl (by conv => lhs; whnf) ?_
  exact ⟨rfl, hS.ext.below⟩
end Go.Proofs.Ytjicoifjgokoiab
