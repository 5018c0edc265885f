/-
  The document's own IsHeap, walked.
-/
import Derived.Test.YtjicoifjgokoiabG3
namespace Go.Proofs.Ytjicoifjgokoiab
open Go.RowKit
set_option linter.unusedVariables false
set_option linter.unusedSimpArgs false
set_option maxRecDepth 100000
set_option maxHeartbeats 1000000

theorem isHeap_any (h : HH) (A B : Option Addr) (c d : Nat) (w : World) (hH : HFl h A c B d w) :
    Calls Try.prog 42 #[hv h A c B d] w fun e w' => e = .returned (.bool (goodH h)) ∧ Below w.heap.size w w' := by
  have hS := (St.start w).base (φ := HFl h A c B d) fun w' hx => hH.ext hx
  have hL := hH.1
  have hT := hH.2
  have hfl : ∀ {H'} w', St [] w H' [HFl h A c B d] w' → HFl h A c B d w' := fun w' hS => hS.fact (.head _)
  refine goes_enter1 Try.func42 rfl Try.ntmps42 rfl ?_
  by_cases hl : 65536 < h.cs.length
  · rw [show goodH h = false by unfold goodH goodCs; rw [decide_eq_false (by omega)]; rfl]
    refine goes_seq ?_
    refine goes_region ?_
    refine lst_box hS rfl rfl ?_
    clear hS
    intro b1 wx1 hS
    refine lst_run (run_assign (by conv => lhs; whnf)) rfl ?_
    refine lst_done ?_
    refine goes_seq ?_
    refine goes_region ?_
    refine lst_run (run_fieldAddr (off := 0) rfl rfl) rfl ?_
    first
      | refine lst_run (run_load1_own hS rfl rfl (by first | exact .head | exact .tail .head | exact .tail (.tail .head) | exact .tail (.tail (.tail .head)) | exact .tail (.tail (.tail (.tail .head))) | exact .tail (.tail (.tail (.tail (.tail .head))))) (by repeat constructor)) rfl ?_
      | refine lst_run (run_load1 rfl rfl (by first | assumption | exact hS.cell0 (by assumption) | exact lv_next hS | exact lv_list hS)) rfl ?_
    refine lst_run (run_len_slice rfl rfl rfl) rfl ?_
    refine lst_run (run_assign (by conv => lhs; whnf)) rfl ?_
    refine lst_done ?_
    refine goes_seq ?_
    refine goes_seq ?_
    refine goes_region ?_
    refine lst_run (run_move (by conv => lhs; whnf)) rfl ?_
    first
      | refine lst_run (run_gtr_yes rfl rfl (by omega)) rfl ?_
      | refine lst_run (run_gtr_no rfl rfl (by omega)) rfl ?_
      | refine lst_run (rfl) rfl ?_
    refine lst_run (run_move (by conv => lhs; whnf)) rfl ?_
    refine lst_pass rfl rfl rfl ?_
    refine lst_pass rfl rfl rfl ?_
    refine lst_pass rfl rfl rfl ?_
    refine lst_pass rfl rfl rfl ?_
    first
      | refine lst_run (run_pick_t rfl (by conv => lhs; whnf)) rfl ?_
      | refine lst_run (run_pick_f rfl (by conv => lhs; whnf)) rfl ?_
    refine lst_done ?_
    refine goes_true rfl ?_
    refine goes_seq ?_
    refine goes_region ?_
    refine lst_run (run_assign (by conv => lhs; whnf)) rfl ?_
    refine lst_done ?_
    refine goes_ret1 Try.func42 rfl (by conv => lhs; whnf) ?_
    exact ⟨rfl, hS.ext.below⟩
  by_cases hl2 : 65536 < h.tr.length
  · rw [show goodH h = false by unfold goodH goodTr; rw [decide_eq_false (show ¬ h.tr.length ≤ 65536 by omega)]; simp]
    refine goes_seq ?_
    refine goes_region ?_
    refine lst_box hS rfl rfl ?_
    clear hS
    intro b1 wx1 hS
    refine lst_run (run_assign (by conv => lhs; whnf)) rfl ?_
    refine lst_done ?_
    refine goes_seq ?_
    refine goes_region ?_
    refine lst_run (run_fieldAddr (off := 0) rfl rfl) rfl ?_
    first
      | refine lst_run (run_load1_own hS rfl rfl (by first | exact .head | exact .tail .head | exact .tail (.tail .head) | exact .tail (.tail (.tail .head)) | exact .tail (.tail (.tail (.tail .head))) | exact .tail (.tail (.tail (.tail (.tail .head))))) (by repeat constructor)) rfl ?_
      | refine lst_run (run_load1 rfl rfl (by first | assumption | exact hS.cell0 (by assumption) | exact lv_next hS | exact lv_list hS)) rfl ?_
    refine lst_run (run_len_slice rfl rfl rfl) rfl ?_
    refine lst_run (run_assign (by conv => lhs; whnf)) rfl ?_
    refine lst_done ?_
    refine goes_seq ?_
    refine goes_seq ?_
    refine goes_region ?_
    refine lst_run (run_move (by conv => lhs; whnf)) rfl ?_
    first
      | refine lst_run (run_gtr_yes rfl rfl (by omega)) rfl ?_
      | refine lst_run (run_gtr_no rfl rfl (by omega)) rfl ?_
      | refine lst_run (rfl) rfl ?_
    refine lst_run (run_move (by conv => lhs; whnf)) rfl ?_
    refine lst_guard rfl rfl ?_
    refine lst_run (run_fieldAddr (off := 1) rfl rfl) rfl ?_
    refine lst_guard rfl rfl ?_
    first
      | refine lst_run (run_load1_own hS rfl rfl (by first | exact .head | exact .tail .head | exact .tail (.tail .head) | exact .tail (.tail (.tail .head)) | exact .tail (.tail (.tail (.tail .head))) | exact .tail (.tail (.tail (.tail (.tail .head))))) (by repeat constructor)) rfl ?_
      | refine lst_run (run_load1 rfl rfl (by first | assumption | exact hS.cell0 (by assumption) | exact lv_next hS | exact lv_list hS)) rfl ?_
    refine lst_guard rfl rfl ?_
    refine lst_run (run_len_slice rfl rfl rfl) rfl ?_
    refine lst_guard rfl rfl ?_
    first
      | refine lst_run (run_gtr_yes rfl rfl (by omega)) rfl ?_
      | refine lst_run (run_gtr_no rfl rfl (by omega)) rfl ?_
      | refine lst_run (rfl) rfl ?_
    first
      | refine lst_run (run_pick_t rfl (by conv => lhs; whnf)) rfl ?_
      | refine lst_run (run_pick_f rfl (by conv => lhs; whnf)) rfl ?_
    refine lst_done ?_
    refine goes_true rfl ?_
    refine goes_seq ?_
    refine goes_region ?_
    refine lst_run (run_assign (by conv => lhs; whnf)) rfl ?_
    refine lst_done ?_
    refine goes_ret1 Try.func42 rfl (by conv => lhs; whnf) ?_
    exact ⟨rfl, hS.ext.below⟩
  have hgH : goodH h = (goodL h.cs.length h.cs && h.tr.all (goodTr1 h.cs)) := by unfold goodH goodCs goodTr; rw [decide_eq_true (by omega), decide_eq_true (by omega)]; simp
  refine goes_seq ?_
  refine goes_region ?_
  refine lst_box hS rfl rfl ?_
  clear hS
  intro b1 wx1 hS
  refine lst_run (run_assign (by conv => lhs; whnf)) rfl ?_
  refine lst_done ?_
  refine goes_seq ?_
  refine goes_region ?_
  refine lst_run (run_fieldAddr (off := 0) rfl rfl) rfl ?_
  first
    | refine lst_run (run_load1_own hS rfl rfl (by first | exact .head | exact .tail .head | exact .tail (.tail .head) | exact .tail (.tail (.tail .head)) | exact .tail (.tail (.tail (.tail .head))) | exact .tail (.tail (.tail (.tail (.tail .head))))) (by repeat constructor)) rfl ?_
    | refine lst_run (run_load1 rfl rfl (by first | assumption | exact hS.cell0 (by assumption) | exact lv_next hS | exact lv_list hS)) rfl ?_
  refine lst_run (run_len_slice rfl rfl rfl) rfl ?_
  refine lst_run (run_assign (by conv => lhs; whnf)) rfl ?_
  refine lst_done ?_
  refine goes_seq ?_
  refine goes_seq ?_
  refine goes_region ?_
  refine lst_run (run_move (by conv => lhs; whnf)) rfl ?_
  first
    | refine lst_run (run_gtr_yes rfl rfl (by omega)) rfl ?_
    | refine lst_run (run_gtr_no rfl rfl (by omega)) rfl ?_
    | refine lst_run (rfl) rfl ?_
  refine lst_run (run_move (by conv => lhs; whnf)) rfl ?_
  refine lst_guard rfl rfl ?_
  refine lst_run (run_fieldAddr (off := 1) rfl rfl) rfl ?_
  refine lst_guard rfl rfl ?_
  first
    | refine lst_run (run_load1_own hS rfl rfl (by first | exact .head | exact .tail .head | exact .tail (.tail .head) | exact .tail (.tail (.tail .head)) | exact .tail (.tail (.tail (.tail .head))) | exact .tail (.tail (.tail (.tail (.tail .head))))) (by repeat constructor)) rfl ?_
    | refine lst_run (run_load1 rfl rfl (by first | assumption | exact hS.cell0 (by assumption) | exact lv_next hS | exact lv_list hS)) rfl ?_
  refine lst_guard rfl rfl ?_
  refine lst_run (run_len_slice rfl rfl rfl) rfl ?_
  refine lst_guard rfl rfl ?_
  first
    | refine lst_run (run_gtr_yes rfl rfl (by omega)) rfl ?_
    | refine lst_run (run_gtr_no rfl rfl (by omega)) rfl ?_
    | refine lst_run (rfl) rfl ?_
  first
    | refine lst_run (run_pick_t rfl (by conv => lhs; whnf)) rfl ?_
    | refine lst_run (run_pick_f rfl (by conv => lhs; whnf)) rfl ?_
  refine lst_done ?_
  refine goes_false rfl ?_
  refine goes_skip ?_
  refine goes_seq ?_
  refine goes_seq ?_
  refine goes_region ?_
  refine lst_run (run_fieldAddr (off := 0) rfl rfl) rfl ?_
  first
    | refine lst_run (run_load1_own hS rfl rfl (by first | exact .head | exact .tail .head | exact .tail (.tail .head) | exact .tail (.tail (.tail .head)) | exact .tail (.tail (.tail (.tail .head))) | exact .tail (.tail (.tail (.tail (.tail .head))))) (by repeat constructor)) rfl ?_
    | refine lst_run (run_load1 rfl rfl (by first | assumption | exact hS.cell0 (by assumption) | exact lv_next hS | exact lv_list hS)) rfl ?_
  refine lst_run (run_len_slice rfl rfl rfl) rfl ?_
  refine lst_run (run_move (by conv => lhs; whnf)) rfl ?_
  refine lst_done ?_
  refine goes_block ?_
  refine goes_loop1 23 (24 :: 25 :: 26 :: 27 :: 5 :: 4 :: 6 :: 28 :: 29 :: 31 :: 30 :: 32 :: 33 :: 34 :: 35 :: 36 :: 37 :: 38 :: 39 :: 40 :: 41 :: 42 :: 43 :: 44 :: 45 :: 47 :: 46 :: 48 :: 49 :: 50 :: 51 :: 52 :: 53 :: 54 :: 55 :: 57 :: 56 :: 58 :: 59 :: 60 :: 62 :: 61 :: 63 :: 64 :: 65 :: 66 :: 67 :: 68 :: 69 :: 70 :: 71 :: 72 :: 73 :: 74 :: 75 :: 76 :: 77 :: 78 :: 79 :: 80 :: 81 :: 82 :: 83 :: 84 :: 85 :: 2 :: 86 :: []) (fun (R : List HC) v w' => ∃ D, h.cs = D ++ R ∧ v = .int .i64 (D.length : Nat) ∧ goodL h.cs.length h.cs = goodL h.cs.length R ∧ St [] w [(b1, hob A h.cs.length c B h.tr.length d)] [HFl h A c B d] w') (fun R => R.length) (h.cs) ?_ (by conv => lhs; whnf) ?_
  · exact ⟨[], rfl, rfl, rfl, hS⟩
  clear hS
  rintro R _ w2 jv ⟨D, hD, rfl, hgl, hS⟩ ih
  have hlen : h.cs.length = D.length + R.length := by rw [hD]; simp
  have hfalse : goodL h.cs.length R = false → goodH h = false := fun hq => by rw [hgH, hgl, hq]; rfl
  cases R with
  | cons x R =>
    simp only [List.length_cons] at hlen
    obtain ⟨b, o, rfl⟩ := hL.some_ (by omega)
    have hx : h.cs[D.length]? = some x := by rw [hD]; simp
    have hcc : ∀ {H'} w', St [] w H' [HFl h (some ⟨b, o, none⟩) c B d] w' → _ := fun w' hS => (hS.fact (.head _)).1.cell hx
    by_cases k0 : x.k = 0
    case pos =>
      by_cases s0 : x.s = eS
      case pos =>
        by_cases n0 : 0 ≤ x.n
        case pos =>
          by_cases n1 : x.n < h.cs.length
          case pos =>
            have hgc : goodC h.cs.length x R.length = true := by unfold goodC; simp [k0, s0, n0, n1]
            refine goes_seq ?_
            refine goes_region ?_
            first
              | refine lst_run (run_lss_yes rfl rfl (by omega)) rfl ?_
              | refine lst_run (run_lss_no rfl rfl (by omega)) rfl ?_
              | refine lst_run (rfl) rfl ?_
            refine lst_done ?_
            refine goes_seq ?_
            refine goes_true rfl ?_
            refine goes_skip ?_
            refine goes_seq ?_
            refine goes_block ?_
            refine goes_seq ?_
            refine goes_region ?_
            refine lst_run (run_move (by conv => lhs; whnf)) rfl ?_
            refine lst_run (run_indexAddr (sz := 3) rfl rfl rfl rfl (by omega) (by omega)) rfl ?_
            first
              | refine lst_run (run_loadN_own (k := 3) hS rfl rfl rfl (by first | exact .head | exact .tail .head | exact .tail (.tail .head) | exact .tail (.tail (.tail .head)) | exact .tail (.tail (.tail (.tail .head))) | exact .tail (.tail (.tail (.tail (.tail .head))))) (by repeat constructor)) rfl ?_
              | refine lst_run (run_load3 rfl rfl rfl (by first | assumption | exact (hcc _ hS).1 | exact (hcc _ hS).2.1 | exact (hcc _ hS).2.2 | exact hS.cell0 (by assumption)) (by first | assumption | exact (hcc _ hS).1 | exact (hcc _ hS).2.1 | exact (hcc _ hS).2.2 | exact hS.cell0 (by assumption)) (by first | assumption | exact (hcc _ hS).1 | exact (hcc _ hS).2.1 | exact (hcc _ hS).2.2 | exact hS.cell0 (by assumption))) rfl ?_
            refine lst_alloc (cs := [_, _, _]) hS rfl rfl rfl ?_
            clear hS
            intro b2 wx2 hS
            refine lst_run (run_assign (by conv => lhs; whnf)) rfl ?_
            refine lst_storeN hS rfl (by conv => lhs; whnf) rfl rfl (by first | exact .head | exact .tail .head | exact .tail (.tail .head) | exact .tail (.tail (.tail .head)) | exact .tail (.tail (.tail (.tail .head))) | exact .tail (.tail (.tail (.tail (.tail .head))))) (by repeat constructor) (by first | exact .head | exact .tail .head | exact .tail (.tail .head) | exact .tail (.tail (.tail .head)) | exact .tail (.tail (.tail (.tail .head))) | exact .tail (.tail (.tail (.tail (.tail .head))))) ?_
            clear hS
            intro wx3 hS
            refine lst_done ?_
            refine goes_seq ?_
            refine goes_region ?_
            refine lst_run (run_assign (by conv => lhs; whnf)) rfl ?_
            refine lst_done ?_
            refine goes_seq ?_
            refine goes_seq ?_
            refine goes_region ?_
            refine lst_run (run_fieldAddr (off := 0) rfl rfl) rfl ?_
            first
              | refine lst_run (run_load1_own hS rfl rfl (by first | exact .head | exact .tail .head | exact .tail (.tail .head) | exact .tail (.tail (.tail .head)) | exact .tail (.tail (.tail (.tail .head))) | exact .tail (.tail (.tail (.tail (.tail .head))))) (by repeat constructor)) rfl ?_
              | refine lst_run (run_load1 rfl rfl (by first | assumption | exact (hcc _ hS).1 | exact (hcc _ hS).2.1 | exact (hcc _ hS).2.2 | exact hS.cell0 (by assumption) | exact lv_next hS | exact lv_list hS)) rfl ?_
            refine lst_done ?_
            refine goes_block ?_
            refine goes_seq ?_
            refine goes_region ?_
            first
              | refine lst_run (run_eql_one_int rfl rfl) rfl ?_
              | refine lst_run (run_eql_no rfl rfl (by first | assumption | omega)) rfl ?_
              | refine lst_run (run_eql_yes rfl rfl (by omega)) rfl ?_
              | refine lst_run (rfl) rfl ?_
            refine lst_run (run_assign (by conv => lhs; whnf)) rfl ?_
            refine lst_done ?_
            refine goes_true rfl ?_
            refine goes_region ?_
            refine lst_run (run_fieldAddr (off := 2) rfl rfl) rfl ?_
            first
              | refine lst_run (run_load1_own hS rfl rfl (by first | exact .head | exact .tail .head | exact .tail (.tail .head) | exact .tail (.tail (.tail .head)) | exact .tail (.tail (.tail (.tail .head))) | exact .tail (.tail (.tail (.tail (.tail .head))))) (by repeat constructor)) rfl ?_
              | refine lst_run (run_load1 rfl rfl (by first | assumption | exact (hcc _ hS).1 | exact (hcc _ hS).2.1 | exact (hcc _ hS).2.2 | exact hS.cell0 (by assumption) | exact lv_next hS | exact lv_list hS)) rfl ?_
            first
              | refine lst_run (run_eqlS_t rfl rfl (by assumption)) rfl ?_
              | refine lst_run (run_eqlS_f rfl rfl (by assumption)) rfl ?_
              | refine lst_run (run_eql_str rfl rfl) rfl ?_
              | refine lst_run (rfl) rfl ?_
            refine lst_run (run_move (by conv => lhs; whnf)) rfl ?_
            refine lst_guard rfl rfl ?_
            refine lst_run (run_fieldAddr (off := 1) rfl rfl) rfl ?_
            refine lst_guard rfl rfl ?_
            first
              | refine lst_run (run_load1_own hS rfl rfl (by first | exact .head | exact .tail .head | exact .tail (.tail .head) | exact .tail (.tail (.tail .head)) | exact .tail (.tail (.tail (.tail .head))) | exact .tail (.tail (.tail (.tail (.tail .head))))) (by repeat constructor)) rfl ?_
              | refine lst_run (run_load1 rfl rfl (by first | assumption | exact (hcc _ hS).1 | exact (hcc _ hS).2.1 | exact (hcc _ hS).2.2 | exact hS.cell0 (by assumption) | exact lv_next hS | exact lv_list hS)) rfl ?_
            refine lst_guard rfl rfl ?_
            first
              | refine lst_run (run_geq_yes rfl rfl (by omega)) rfl ?_
              | refine lst_run (run_geq_no rfl rfl (by omega)) rfl ?_
              | refine lst_run (rfl) rfl ?_
            first
              | refine lst_run (run_pick_t rfl (by conv => lhs; whnf)) rfl ?_
              | refine lst_run (run_pick_f rfl (by conv => lhs; whnf)) rfl ?_
            refine lst_run (run_move (by conv => lhs; whnf)) rfl ?_
            refine lst_guard rfl rfl ?_
            refine lst_run (run_fieldAddr (off := 1) rfl rfl) rfl ?_
            refine lst_guard rfl rfl ?_
            first
              | refine lst_run (run_load1_own hS rfl rfl (by first | exact .head | exact .tail .head | exact .tail (.tail .head) | exact .tail (.tail (.tail .head)) | exact .tail (.tail (.tail (.tail .head))) | exact .tail (.tail (.tail (.tail (.tail .head))))) (by repeat constructor)) rfl ?_
              | refine lst_run (run_load1 rfl rfl (by first | assumption | exact (hcc _ hS).1 | exact (hcc _ hS).2.1 | exact (hcc _ hS).2.2 | exact hS.cell0 (by assumption) | exact lv_next hS | exact lv_list hS)) rfl ?_
            refine lst_guard rfl rfl ?_
            refine lst_run (run_move (by conv => lhs; whnf)) rfl ?_
            refine lst_guard rfl rfl ?_
            first
              | refine lst_run (run_lss_yes rfl rfl (by omega)) rfl ?_
              | refine lst_run (run_lss_no rfl rfl (by omega)) rfl ?_
              | refine lst_run (rfl) rfl ?_
            first
              | refine lst_run (run_pick_t rfl (by conv => lhs; whnf)) rfl ?_
              | refine lst_run (run_pick_f rfl (by conv => lhs; whnf)) rfl ?_
            refine lst_run (run_assign (by conv => lhs; whnf)) rfl ?_
            refine lst_done ?_
            refine goes_inBlock ?_
            refine goes_seq ?_
            refine goes_region ?_
            refine lst_run (run_move (by conv => lhs; whnf)) rfl ?_
            refine lst_run (rfl) rfl ?_
            refine lst_done ?_
            refine goes_false rfl ?_
            refine goes_skip ?_
            refine goes_inBlock ?_
            refine goes_region ?_
            refine lst_run (run_add rfl rfl (by omega) (by omega)) rfl ?_
            refine lst_run (run_move (by conv => lhs; whnf)) rfl ?_
            refine lst_done ?_
            refine ih (R) _ _ _ ?_ ?_ (by conv => lhs; whnf) (by kernel_rfl)
            · simp
            · exact ⟨D ++ [x], by rw [hD]; simp, by simp, by rw [hgl]; simp [goodL, hgc], hS.drop⟩
          case neg =>
            have hgc : goodC h.cs.length x R.length = false := by unfold goodC; simp [k0, s0, n0, n1]
            refine goes_seq ?_
            refine goes_region ?_
            first
              | refine lst_run (run_lss_yes rfl rfl (by omega)) rfl ?_
              | refine lst_run (run_lss_no rfl rfl (by omega)) rfl ?_
              | refine lst_run (rfl) rfl ?_
            refine lst_done ?_
            refine goes_seq ?_
            refine goes_true rfl ?_
            refine goes_skip ?_
            refine goes_seq ?_
            refine goes_block ?_
            refine goes_seq ?_
            refine goes_region ?_
            refine lst_run (run_move (by conv => lhs; whnf)) rfl ?_
            refine lst_run (run_indexAddr (sz := 3) rfl rfl rfl rfl (by omega) (by omega)) rfl ?_
            first
              | refine lst_run (run_loadN_own (k := 3) hS rfl rfl rfl (by first | exact .head | exact .tail .head | exact .tail (.tail .head) | exact .tail (.tail (.tail .head)) | exact .tail (.tail (.tail (.tail .head))) | exact .tail (.tail (.tail (.tail (.tail .head))))) (by repeat constructor)) rfl ?_
              | refine lst_run (run_load3 rfl rfl rfl (by first | assumption | exact (hcc _ hS).1 | exact (hcc _ hS).2.1 | exact (hcc _ hS).2.2 | exact hS.cell0 (by assumption)) (by first | assumption | exact (hcc _ hS).1 | exact (hcc _ hS).2.1 | exact (hcc _ hS).2.2 | exact hS.cell0 (by assumption)) (by first | assumption | exact (hcc _ hS).1 | exact (hcc _ hS).2.1 | exact (hcc _ hS).2.2 | exact hS.cell0 (by assumption))) rfl ?_
            refine lst_alloc (cs := [_, _, _]) hS rfl rfl rfl ?_
            clear hS
            intro b2 wx2 hS
            refine lst_run (run_assign (by conv => lhs; whnf)) rfl ?_
            refine lst_storeN hS rfl (by conv => lhs; whnf) rfl rfl (by first | exact .head | exact .tail .head | exact .tail (.tail .head) | exact .tail (.tail (.tail .head)) | exact .tail (.tail (.tail (.tail .head))) | exact .tail (.tail (.tail (.tail (.tail .head))))) (by repeat constructor) (by first | exact .head | exact .tail .head | exact .tail (.tail .head) | exact .tail (.tail (.tail .head)) | exact .tail (.tail (.tail (.tail .head))) | exact .tail (.tail (.tail (.tail (.tail .head))))) ?_
            clear hS
            intro wx3 hS
            refine lst_done ?_
            refine goes_seq ?_
            refine goes_region ?_
            refine lst_run (run_assign (by conv => lhs; whnf)) rfl ?_
            refine lst_done ?_
            refine goes_seq ?_
            refine goes_seq ?_
            refine goes_region ?_
            refine lst_run (run_fieldAddr (off := 0) rfl rfl) rfl ?_
            first
              | refine lst_run (run_load1_own hS rfl rfl (by first | exact .head | exact .tail .head | exact .tail (.tail .head) | exact .tail (.tail (.tail .head)) | exact .tail (.tail (.tail (.tail .head))) | exact .tail (.tail (.tail (.tail (.tail .head))))) (by repeat constructor)) rfl ?_
              | refine lst_run (run_load1 rfl rfl (by first | assumption | exact (hcc _ hS).1 | exact (hcc _ hS).2.1 | exact (hcc _ hS).2.2 | exact hS.cell0 (by assumption) | exact lv_next hS | exact lv_list hS)) rfl ?_
            refine lst_done ?_
            refine goes_block ?_
            refine goes_seq ?_
            refine goes_region ?_
            first
              | refine lst_run (run_eql_one_int rfl rfl) rfl ?_
              | refine lst_run (run_eql_no rfl rfl (by first | assumption | omega)) rfl ?_
              | refine lst_run (run_eql_yes rfl rfl (by omega)) rfl ?_
              | refine lst_run (rfl) rfl ?_
            refine lst_run (run_assign (by conv => lhs; whnf)) rfl ?_
            refine lst_done ?_
            refine goes_true rfl ?_
            refine goes_region ?_
            refine lst_run (run_fieldAddr (off := 2) rfl rfl) rfl ?_
            first
              | refine lst_run (run_load1_own hS rfl rfl (by first | exact .head | exact .tail .head | exact .tail (.tail .head) | exact .tail (.tail (.tail .head)) | exact .tail (.tail (.tail (.tail .head))) | exact .tail (.tail (.tail (.tail (.tail .head))))) (by repeat constructor)) rfl ?_
              | refine lst_run (run_load1 rfl rfl (by first | assumption | exact (hcc _ hS).1 | exact (hcc _ hS).2.1 | exact (hcc _ hS).2.2 | exact hS.cell0 (by assumption) | exact lv_next hS | exact lv_list hS)) rfl ?_
            first
              | refine lst_run (run_eqlS_t rfl rfl (by assumption)) rfl ?_
              | refine lst_run (run_eqlS_f rfl rfl (by assumption)) rfl ?_
              | refine lst_run (run_eql_str rfl rfl) rfl ?_
              | refine lst_run (rfl) rfl ?_
            refine lst_run (run_move (by conv => lhs; whnf)) rfl ?_
            refine lst_guard rfl rfl ?_
            refine lst_run (run_fieldAddr (off := 1) rfl rfl) rfl ?_
            refine lst_guard rfl rfl ?_
            first
              | refine lst_run (run_load1_own hS rfl rfl (by first | exact .head | exact .tail .head | exact .tail (.tail .head) | exact .tail (.tail (.tail .head)) | exact .tail (.tail (.tail (.tail .head))) | exact .tail (.tail (.tail (.tail (.tail .head))))) (by repeat constructor)) rfl ?_
              | refine lst_run (run_load1 rfl rfl (by first | assumption | exact (hcc _ hS).1 | exact (hcc _ hS).2.1 | exact (hcc _ hS).2.2 | exact hS.cell0 (by assumption) | exact lv_next hS | exact lv_list hS)) rfl ?_
            refine lst_guard rfl rfl ?_
            first
              | refine lst_run (run_geq_yes rfl rfl (by omega)) rfl ?_
              | refine lst_run (run_geq_no rfl rfl (by omega)) rfl ?_
              | refine lst_run (rfl) rfl ?_
            first
              | refine lst_run (run_pick_t rfl (by conv => lhs; whnf)) rfl ?_
              | refine lst_run (run_pick_f rfl (by conv => lhs; whnf)) rfl ?_
            refine lst_run (run_move (by conv => lhs; whnf)) rfl ?_
            refine lst_guard rfl rfl ?_
            refine lst_run (run_fieldAddr (off := 1) rfl rfl) rfl ?_
            refine lst_guard rfl rfl ?_
            first
              | refine lst_run (run_load1_own hS rfl rfl (by first | exact .head | exact .tail .head | exact .tail (.tail .head) | exact .tail (.tail (.tail .head)) | exact .tail (.tail (.tail (.tail .head))) | exact .tail (.tail (.tail (.tail (.tail .head))))) (by repeat constructor)) rfl ?_
              | refine lst_run (run_load1 rfl rfl (by first | assumption | exact (hcc _ hS).1 | exact (hcc _ hS).2.1 | exact (hcc _ hS).2.2 | exact hS.cell0 (by assumption) | exact lv_next hS | exact lv_list hS)) rfl ?_
            refine lst_guard rfl rfl ?_
            refine lst_run (run_move (by conv => lhs; whnf)) rfl ?_
            refine lst_guard rfl rfl ?_
            first
              | refine lst_run (run_lss_yes rfl rfl (by omega)) rfl ?_
              | refine lst_run (run_lss_no rfl rfl (by omega)) rfl ?_
              | refine lst_run (rfl) rfl ?_
            first
              | refine lst_run (run_pick_t rfl (by conv => lhs; whnf)) rfl ?_
              | refine lst_run (run_pick_f rfl (by conv => lhs; whnf)) rfl ?_
            refine lst_run (run_assign (by conv => lhs; whnf)) rfl ?_
            refine lst_done ?_
            refine goes_inBlock ?_
            refine goes_seq ?_
            refine goes_region ?_
            refine lst_run (run_move (by conv => lhs; whnf)) rfl ?_
            refine lst_run (rfl) rfl ?_
            refine lst_done ?_
            refine goes_true rfl ?_
            refine goes_seq ?_
            refine goes_region ?_
            refine lst_run (run_assign (by conv => lhs; whnf)) rfl ?_
            refine lst_done ?_
            refine goes_ret1 Try.func42 rfl (by conv => lhs; whnf) ?_
            exact ⟨by rw [hfalse (by simp [goodL, hgc])], hS.ext.below⟩
        case neg =>
          have hgc : goodC h.cs.length x R.length = false := by unfold goodC; simp [k0, s0, n0]
          refine goes_seq ?_
          refine goes_region ?_
          first
            | refine lst_run (run_lss_yes rfl rfl (by omega)) rfl ?_
            | refine lst_run (run_lss_no rfl rfl (by omega)) rfl ?_
            | refine lst_run (rfl) rfl ?_
          refine lst_done ?_
          refine goes_seq ?_
          refine goes_true rfl ?_
          refine goes_skip ?_
          refine goes_seq ?_
          refine goes_block ?_
          refine goes_seq ?_
          refine goes_region ?_
          refine lst_run (run_move (by conv => lhs; whnf)) rfl ?_
          refine lst_run (run_indexAddr (sz := 3) rfl rfl rfl rfl (by omega) (by omega)) rfl ?_
          first
            | refine lst_run (run_loadN_own (k := 3) hS rfl rfl rfl (by first | exact .head | exact .tail .head | exact .tail (.tail .head) | exact .tail (.tail (.tail .head)) | exact .tail (.tail (.tail (.tail .head))) | exact .tail (.tail (.tail (.tail (.tail .head))))) (by repeat constructor)) rfl ?_
            | refine lst_run (run_load3 rfl rfl rfl (by first | assumption | exact (hcc _ hS).1 | exact (hcc _ hS).2.1 | exact (hcc _ hS).2.2 | exact hS.cell0 (by assumption)) (by first | assumption | exact (hcc _ hS).1 | exact (hcc _ hS).2.1 | exact (hcc _ hS).2.2 | exact hS.cell0 (by assumption)) (by first | assumption | exact (hcc _ hS).1 | exact (hcc _ hS).2.1 | exact (hcc _ hS).2.2 | exact hS.cell0 (by assumption))) rfl ?_
          refine lst_alloc (cs := [_, _, _]) hS rfl rfl rfl ?_
          clear hS
          intro b2 wx2 hS
          refine lst_run (run_assign (by conv => lhs; whnf)) rfl ?_
          refine lst_storeN hS rfl (by conv => lhs; whnf) rfl rfl (by first | exact .head | exact .tail .head | exact .tail (.tail .head) | exact .tail (.tail (.tail .head)) | exact .tail (.tail (.tail (.tail .head))) | exact .tail (.tail (.tail (.tail (.tail .head))))) (by repeat constructor) (by first | exact .head | exact .tail .head | exact .tail (.tail .head) | exact .tail (.tail (.tail .head)) | exact .tail (.tail (.tail (.tail .head))) | exact .tail (.tail (.tail (.tail (.tail .head))))) ?_
          clear hS
          intro wx3 hS
          refine lst_done ?_
          refine goes_seq ?_
          refine goes_region ?_
          refine lst_run (run_assign (by conv => lhs; whnf)) rfl ?_
          refine lst_done ?_
          refine goes_seq ?_
          refine goes_seq ?_
          refine goes_region ?_
          refine lst_run (run_fieldAddr (off := 0) rfl rfl) rfl ?_
          first
            | refine lst_run (run_load1_own hS rfl rfl (by first | exact .head | exact .tail .head | exact .tail (.tail .head) | exact .tail (.tail (.tail .head)) | exact .tail (.tail (.tail (.tail .head))) | exact .tail (.tail (.tail (.tail (.tail .head))))) (by repeat constructor)) rfl ?_
            | refine lst_run (run_load1 rfl rfl (by first | assumption | exact (hcc _ hS).1 | exact (hcc _ hS).2.1 | exact (hcc _ hS).2.2 | exact hS.cell0 (by assumption) | exact lv_next hS | exact lv_list hS)) rfl ?_
          refine lst_done ?_
          refine goes_block ?_
          refine goes_seq ?_
          refine goes_region ?_
          first
            | refine lst_run (run_eql_one_int rfl rfl) rfl ?_
            | refine lst_run (run_eql_no rfl rfl (by first | assumption | omega)) rfl ?_
            | refine lst_run (run_eql_yes rfl rfl (by omega)) rfl ?_
            | refine lst_run (rfl) rfl ?_
          refine lst_run (run_assign (by conv => lhs; whnf)) rfl ?_
          refine lst_done ?_
          refine goes_true rfl ?_
          refine goes_region ?_
          refine lst_run (run_fieldAddr (off := 2) rfl rfl) rfl ?_
          first
            | refine lst_run (run_load1_own hS rfl rfl (by first | exact .head | exact .tail .head | exact .tail (.tail .head) | exact .tail (.tail (.tail .head)) | exact .tail (.tail (.tail (.tail .head))) | exact .tail (.tail (.tail (.tail (.tail .head))))) (by repeat constructor)) rfl ?_
            | refine lst_run (run_load1 rfl rfl (by first | assumption | exact (hcc _ hS).1 | exact (hcc _ hS).2.1 | exact (hcc _ hS).2.2 | exact hS.cell0 (by assumption) | exact lv_next hS | exact lv_list hS)) rfl ?_
          first
            | refine lst_run (run_eqlS_t rfl rfl (by assumption)) rfl ?_
            | refine lst_run (run_eqlS_f rfl rfl (by assumption)) rfl ?_
            | refine lst_run (run_eql_str rfl rfl) rfl ?_
            | refine lst_run (rfl) rfl ?_
          refine lst_run (run_move (by conv => lhs; whnf)) rfl ?_
          refine lst_guard rfl rfl ?_
          refine lst_run (run_fieldAddr (off := 1) rfl rfl) rfl ?_
          refine lst_guard rfl rfl ?_
          first
            | refine lst_run (run_load1_own hS rfl rfl (by first | exact .head | exact .tail .head | exact .tail (.tail .head) | exact .tail (.tail (.tail .head)) | exact .tail (.tail (.tail (.tail .head))) | exact .tail (.tail (.tail (.tail (.tail .head))))) (by repeat constructor)) rfl ?_
            | refine lst_run (run_load1 rfl rfl (by first | assumption | exact (hcc _ hS).1 | exact (hcc _ hS).2.1 | exact (hcc _ hS).2.2 | exact hS.cell0 (by assumption) | exact lv_next hS | exact lv_list hS)) rfl ?_
          refine lst_guard rfl rfl ?_
          first
            | refine lst_run (run_geq_yes rfl rfl (by omega)) rfl ?_
            | refine lst_run (run_geq_no rfl rfl (by omega)) rfl ?_
            | refine lst_run (rfl) rfl ?_
          first
            | refine lst_run (run_pick_t rfl (by conv => lhs; whnf)) rfl ?_
            | refine lst_run (run_pick_f rfl (by conv => lhs; whnf)) rfl ?_
          refine lst_run (run_move (by conv => lhs; whnf)) rfl ?_
          refine lst_pass rfl rfl rfl ?_
          refine lst_pass rfl rfl rfl ?_
          refine lst_pass rfl rfl rfl ?_
          refine lst_pass rfl rfl rfl ?_
          first
            | refine lst_run (run_pick_t rfl (by conv => lhs; whnf)) rfl ?_
            | refine lst_run (run_pick_f rfl (by conv => lhs; whnf)) rfl ?_
          refine lst_run (run_assign (by conv => lhs; whnf)) rfl ?_
          refine lst_done ?_
          refine goes_inBlock ?_
          refine goes_seq ?_
          refine goes_region ?_
          refine lst_run (run_move (by conv => lhs; whnf)) rfl ?_
          refine lst_run (rfl) rfl ?_
          refine lst_done ?_
          refine goes_true rfl ?_
          refine goes_seq ?_
          refine goes_region ?_
          refine lst_run (run_assign (by conv => lhs; whnf)) rfl ?_
          refine lst_done ?_
          refine goes_ret1 Try.func42 rfl (by conv => lhs; whnf) ?_
          exact ⟨by rw [hfalse (by simp [goodL, hgc])], hS.ext.below⟩
      case neg =>
        have s0' : x.s ≠ eS := s0
        have hgc : goodC h.cs.length x R.length = false := by unfold goodC; simp [k0, s0]
        refine goes_seq ?_
        refine goes_region ?_
        first
          | refine lst_run (run_lss_yes rfl rfl (by omega)) rfl ?_
          | refine lst_run (run_lss_no rfl rfl (by omega)) rfl ?_
          | refine lst_run (rfl) rfl ?_
        refine lst_done ?_
        refine goes_seq ?_
        refine goes_true rfl ?_
        refine goes_skip ?_
        refine goes_seq ?_
        refine goes_block ?_
        refine goes_seq ?_
        refine goes_region ?_
        refine lst_run (run_move (by conv => lhs; whnf)) rfl ?_
        refine lst_run (run_indexAddr (sz := 3) rfl rfl rfl rfl (by omega) (by omega)) rfl ?_
        first
          | refine lst_run (run_loadN_own (k := 3) hS rfl rfl rfl (by first | exact .head | exact .tail .head | exact .tail (.tail .head) | exact .tail (.tail (.tail .head)) | exact .tail (.tail (.tail (.tail .head))) | exact .tail (.tail (.tail (.tail (.tail .head))))) (by repeat constructor)) rfl ?_
          | refine lst_run (run_load3 rfl rfl rfl (by first | assumption | exact (hcc _ hS).1 | exact (hcc _ hS).2.1 | exact (hcc _ hS).2.2 | exact hS.cell0 (by assumption)) (by first | assumption | exact (hcc _ hS).1 | exact (hcc _ hS).2.1 | exact (hcc _ hS).2.2 | exact hS.cell0 (by assumption)) (by first | assumption | exact (hcc _ hS).1 | exact (hcc _ hS).2.1 | exact (hcc _ hS).2.2 | exact hS.cell0 (by assumption))) rfl ?_
        refine lst_alloc (cs := [_, _, _]) hS rfl rfl rfl ?_
        clear hS
        intro b2 wx2 hS
        refine lst_run (run_assign (by conv => lhs; whnf)) rfl ?_
        refine lst_storeN hS rfl (by conv => lhs; whnf) rfl rfl (by first | exact .head | exact .tail .head | exact .tail (.tail .head) | exact .tail (.tail (.tail .head)) | exact .tail (.tail (.tail (.tail .head))) | exact .tail (.tail (.tail (.tail (.tail .head))))) (by repeat constructor) (by first | exact .head | exact .tail .head | exact .tail (.tail .head) | exact .tail (.tail (.tail .head)) | exact .tail (.tail (.tail (.tail .head))) | exact .tail (.tail (.tail (.tail (.tail .head))))) ?_
        clear hS
        intro wx3 hS
        refine lst_done ?_
        refine goes_seq ?_
        refine goes_region ?_
        refine lst_run (run_assign (by conv => lhs; whnf)) rfl ?_
        refine lst_done ?_
        refine goes_seq ?_
        refine goes_seq ?_
        refine goes_region ?_
        refine lst_run (run_fieldAddr (off := 0) rfl rfl) rfl ?_
        first
          | refine lst_run (run_load1_own hS rfl rfl (by first | exact .head | exact .tail .head | exact .tail (.tail .head) | exact .tail (.tail (.tail .head)) | exact .tail (.tail (.tail (.tail .head))) | exact .tail (.tail (.tail (.tail (.tail .head))))) (by repeat constructor)) rfl ?_
          | refine lst_run (run_load1 rfl rfl (by first | assumption | exact (hcc _ hS).1 | exact (hcc _ hS).2.1 | exact (hcc _ hS).2.2 | exact hS.cell0 (by assumption) | exact lv_next hS | exact lv_list hS)) rfl ?_
        refine lst_done ?_
        refine goes_block ?_
        refine goes_seq ?_
        refine goes_region ?_
        first
          | refine lst_run (run_eql_one_int rfl rfl) rfl ?_
          | refine lst_run (run_eql_no rfl rfl (by first | assumption | omega)) rfl ?_
          | refine lst_run (run_eql_yes rfl rfl (by omega)) rfl ?_
          | refine lst_run (rfl) rfl ?_
        refine lst_run (run_assign (by conv => lhs; whnf)) rfl ?_
        refine lst_done ?_
        refine goes_true rfl ?_
        refine goes_region ?_
        refine lst_run (run_fieldAddr (off := 2) rfl rfl) rfl ?_
        first
          | refine lst_run (run_load1_own hS rfl rfl (by first | exact .head | exact .tail .head | exact .tail (.tail .head) | exact .tail (.tail (.tail .head)) | exact .tail (.tail (.tail (.tail .head))) | exact .tail (.tail (.tail (.tail (.tail .head))))) (by repeat constructor)) rfl ?_
          | refine lst_run (run_load1 rfl rfl (by first | assumption | exact (hcc _ hS).1 | exact (hcc _ hS).2.1 | exact (hcc _ hS).2.2 | exact hS.cell0 (by assumption) | exact lv_next hS | exact lv_list hS)) rfl ?_
        first
          | refine lst_run (run_eqlS_t rfl rfl (by assumption)) rfl ?_
          | refine lst_run (run_eqlS_f rfl rfl (by assumption)) rfl ?_
          | refine lst_run (run_eql_str rfl rfl) rfl ?_
          | refine lst_run (rfl) rfl ?_
        refine lst_run (run_move (by conv => lhs; whnf)) rfl ?_
        refine lst_pass rfl rfl rfl ?_
        refine lst_pass rfl rfl rfl ?_
        refine lst_pass rfl rfl rfl ?_
        first
          | refine lst_run (run_pick_t rfl (by conv => lhs; whnf)) rfl ?_
          | refine lst_run (run_pick_f rfl (by conv => lhs; whnf)) rfl ?_
        refine lst_run (run_move (by conv => lhs; whnf)) rfl ?_
        refine lst_pass rfl rfl rfl ?_
        refine lst_pass rfl rfl rfl ?_
        refine lst_pass rfl rfl rfl ?_
        refine lst_pass rfl rfl rfl ?_
        first
          | refine lst_run (run_pick_t rfl (by conv => lhs; whnf)) rfl ?_
          | refine lst_run (run_pick_f rfl (by conv => lhs; whnf)) rfl ?_
        refine lst_run (run_assign (by conv => lhs; whnf)) rfl ?_
        refine lst_done ?_
        refine goes_inBlock ?_
        refine goes_seq ?_
        refine goes_region ?_
        refine lst_run (run_move (by conv => lhs; whnf)) rfl ?_
        refine lst_run (rfl) rfl ?_
        refine lst_done ?_
        refine goes_true rfl ?_
        refine goes_seq ?_
        refine goes_region ?_
        refine lst_run (run_assign (by conv => lhs; whnf)) rfl ?_
        refine lst_done ?_
        refine goes_ret1 Try.func42 rfl (by conv => lhs; whnf) ?_
        exact ⟨by rw [hfalse (by simp [goodL, hgc])], hS.ext.below⟩
    case neg =>
      by_cases k1 : x.k = 1
      case pos =>
        by_cases s0 : x.s = eS
        case pos =>
          have hgc : goodC h.cs.length x R.length = false := by unfold goodC; simp [k1, s0]
          refine goes_seq ?_
          refine goes_region ?_
          first
            | refine lst_run (run_lss_yes rfl rfl (by omega)) rfl ?_
            | refine lst_run (run_lss_no rfl rfl (by omega)) rfl ?_
            | refine lst_run (rfl) rfl ?_
          refine lst_done ?_
          refine goes_seq ?_
          refine goes_true rfl ?_
          refine goes_skip ?_
          refine goes_seq ?_
          refine goes_block ?_
          refine goes_seq ?_
          refine goes_region ?_
          refine lst_run (run_move (by conv => lhs; whnf)) rfl ?_
          refine lst_run (run_indexAddr (sz := 3) rfl rfl rfl rfl (by omega) (by omega)) rfl ?_
          first
            | refine lst_run (run_loadN_own (k := 3) hS rfl rfl rfl (by first | exact .head | exact .tail .head | exact .tail (.tail .head) | exact .tail (.tail (.tail .head)) | exact .tail (.tail (.tail (.tail .head))) | exact .tail (.tail (.tail (.tail (.tail .head))))) (by repeat constructor)) rfl ?_
            | refine lst_run (run_load3 rfl rfl rfl (by first | assumption | exact (hcc _ hS).1 | exact (hcc _ hS).2.1 | exact (hcc _ hS).2.2 | exact hS.cell0 (by assumption)) (by first | assumption | exact (hcc _ hS).1 | exact (hcc _ hS).2.1 | exact (hcc _ hS).2.2 | exact hS.cell0 (by assumption)) (by first | assumption | exact (hcc _ hS).1 | exact (hcc _ hS).2.1 | exact (hcc _ hS).2.2 | exact hS.cell0 (by assumption))) rfl ?_
          refine lst_alloc (cs := [_, _, _]) hS rfl rfl rfl ?_
          clear hS
          intro b2 wx2 hS
          refine lst_run (run_assign (by conv => lhs; whnf)) rfl ?_
          refine lst_storeN hS rfl (by conv => lhs; whnf) rfl rfl (by first | exact .head | exact .tail .head | exact .tail (.tail .head) | exact .tail (.tail (.tail .head)) | exact .tail (.tail (.tail (.tail .head))) | exact .tail (.tail (.tail (.tail (.tail .head))))) (by repeat constructor) (by first | exact .head | exact .tail .head | exact .tail (.tail .head) | exact .tail (.tail (.tail .head)) | exact .tail (.tail (.tail (.tail .head))) | exact .tail (.tail (.tail (.tail (.tail .head))))) ?_
          clear hS
          intro wx3 hS
          refine lst_done ?_
          refine goes_seq ?_
          refine goes_region ?_
          refine lst_run (run_assign (by conv => lhs; whnf)) rfl ?_
          refine lst_done ?_
          refine goes_seq ?_
          refine goes_seq ?_
          refine goes_region ?_
          refine lst_run (run_fieldAddr (off := 0) rfl rfl) rfl ?_
          first
            | refine lst_run (run_load1_own hS rfl rfl (by first | exact .head | exact .tail .head | exact .tail (.tail .head) | exact .tail (.tail (.tail .head)) | exact .tail (.tail (.tail (.tail .head))) | exact .tail (.tail (.tail (.tail (.tail .head))))) (by repeat constructor)) rfl ?_
            | refine lst_run (run_load1 rfl rfl (by first | assumption | exact (hcc _ hS).1 | exact (hcc _ hS).2.1 | exact (hcc _ hS).2.2 | exact hS.cell0 (by assumption) | exact lv_next hS | exact lv_list hS)) rfl ?_
          refine lst_done ?_
          refine goes_block ?_
          refine goes_seq ?_
          refine goes_region ?_
          first
            | refine lst_run (run_eql_one_int rfl rfl) rfl ?_
            | refine lst_run (run_eql_no rfl rfl (by first | assumption | omega)) rfl ?_
            | refine lst_run (run_eql_yes rfl rfl (by omega)) rfl ?_
            | refine lst_run (rfl) rfl ?_
          refine lst_run (run_assign (by conv => lhs; whnf)) rfl ?_
          refine lst_done ?_
          refine goes_false rfl ?_
          refine goes_seq ?_
          refine goes_region ?_
          first
            | refine lst_run (run_eql_one_int rfl rfl) rfl ?_
            | refine lst_run (run_eql_no rfl rfl (by first | assumption | omega)) rfl ?_
            | refine lst_run (run_eql_yes rfl rfl (by omega)) rfl ?_
            | refine lst_run (rfl) rfl ?_
          refine lst_run (run_assign (by conv => lhs; whnf)) rfl ?_
          refine lst_done ?_
          refine goes_true rfl ?_
          refine goes_region ?_
          refine lst_run (run_fieldAddr (off := 2) rfl rfl) rfl ?_
          first
            | refine lst_run (run_load1_own hS rfl rfl (by first | exact .head | exact .tail .head | exact .tail (.tail .head) | exact .tail (.tail (.tail .head)) | exact .tail (.tail (.tail (.tail .head))) | exact .tail (.tail (.tail (.tail (.tail .head))))) (by repeat constructor)) rfl ?_
            | refine lst_run (run_load1 rfl rfl (by first | assumption | exact (hcc _ hS).1 | exact (hcc _ hS).2.1 | exact (hcc _ hS).2.2 | exact hS.cell0 (by assumption) | exact lv_next hS | exact lv_list hS)) rfl ?_
          first
            | refine lst_run (run_neqS_t rfl rfl (by assumption)) rfl ?_
            | refine lst_run (run_neqS_f rfl rfl (by assumption)) rfl ?_
            | refine lst_run (run_neq_str rfl rfl) rfl ?_
            | refine lst_run (rfl) rfl ?_
          refine lst_run (run_move (by conv => lhs; whnf)) rfl ?_
          refine lst_pass rfl rfl rfl ?_
          refine lst_pass rfl rfl rfl ?_
          refine lst_pass rfl rfl rfl ?_
          first
            | refine lst_run (run_pick_t rfl (by conv => lhs; whnf)) rfl ?_
            | refine lst_run (run_pick_f rfl (by conv => lhs; whnf)) rfl ?_
          refine lst_run (run_assign (by conv => lhs; whnf)) rfl ?_
          refine lst_done ?_
          refine goes_inBlock ?_
          refine goes_seq ?_
          refine goes_region ?_
          refine lst_run (run_move (by conv => lhs; whnf)) rfl ?_
          refine lst_run (rfl) rfl ?_
          refine lst_done ?_
          refine goes_true rfl ?_
          refine goes_seq ?_
          refine goes_region ?_
          refine lst_run (run_assign (by conv => lhs; whnf)) rfl ?_
          refine lst_done ?_
          refine goes_ret1 Try.func42 rfl (by conv => lhs; whnf) ?_
          exact ⟨by rw [hfalse (by simp [goodL, hgc])], hS.ext.below⟩
        case neg =>
          have s0' : x.s ≠ eS := s0
          by_cases n0 : x.n = 0
          case pos =>
            have hgc : goodC h.cs.length x R.length = true := by unfold goodC; simp [k1, s0, n0]
            refine goes_seq ?_
            refine goes_region ?_
            first
              | refine lst_run (run_lss_yes rfl rfl (by omega)) rfl ?_
              | refine lst_run (run_lss_no rfl rfl (by omega)) rfl ?_
              | refine lst_run (rfl) rfl ?_
            refine lst_done ?_
            refine goes_seq ?_
            refine goes_true rfl ?_
            refine goes_skip ?_
            refine goes_seq ?_
            refine goes_block ?_
            refine goes_seq ?_
            refine goes_region ?_
            refine lst_run (run_move (by conv => lhs; whnf)) rfl ?_
            refine lst_run (run_indexAddr (sz := 3) rfl rfl rfl rfl (by omega) (by omega)) rfl ?_
            first
              | refine lst_run (run_loadN_own (k := 3) hS rfl rfl rfl (by first | exact .head | exact .tail .head | exact .tail (.tail .head) | exact .tail (.tail (.tail .head)) | exact .tail (.tail (.tail (.tail .head))) | exact .tail (.tail (.tail (.tail (.tail .head))))) (by repeat constructor)) rfl ?_
              | refine lst_run (run_load3 rfl rfl rfl (by first | assumption | exact (hcc _ hS).1 | exact (hcc _ hS).2.1 | exact (hcc _ hS).2.2 | exact hS.cell0 (by assumption)) (by first | assumption | exact (hcc _ hS).1 | exact (hcc _ hS).2.1 | exact (hcc _ hS).2.2 | exact hS.cell0 (by assumption)) (by first | assumption | exact (hcc _ hS).1 | exact (hcc _ hS).2.1 | exact (hcc _ hS).2.2 | exact hS.cell0 (by assumption))) rfl ?_
            refine lst_alloc (cs := [_, _, _]) hS rfl rfl rfl ?_
            clear hS
            intro b2 wx2 hS
            refine lst_run (run_assign (by conv => lhs; whnf)) rfl ?_
            refine lst_storeN hS rfl (by conv => lhs; whnf) rfl rfl (by first | exact .head | exact .tail .head | exact .tail (.tail .head) | exact .tail (.tail (.tail .head)) | exact .tail (.tail (.tail (.tail .head))) | exact .tail (.tail (.tail (.tail (.tail .head))))) (by repeat constructor) (by first | exact .head | exact .tail .head | exact .tail (.tail .head) | exact .tail (.tail (.tail .head)) | exact .tail (.tail (.tail (.tail .head))) | exact .tail (.tail (.tail (.tail (.tail .head))))) ?_
            clear hS
            intro wx3 hS
            refine lst_done ?_
            refine goes_seq ?_
            refine goes_region ?_
            refine lst_run (run_assign (by conv => lhs; whnf)) rfl ?_
            refine lst_done ?_
            refine goes_seq ?_
            refine goes_seq ?_
            refine goes_region ?_
            refine lst_run (run_fieldAddr (off := 0) rfl rfl) rfl ?_
            first
              | refine lst_run (run_load1_own hS rfl rfl (by first | exact .head | exact .tail .head | exact .tail (.tail .head) | exact .tail (.tail (.tail .head)) | exact .tail (.tail (.tail (.tail .head))) | exact .tail (.tail (.tail (.tail (.tail .head))))) (by repeat constructor)) rfl ?_
              | refine lst_run (run_load1 rfl rfl (by first | assumption | exact (hcc _ hS).1 | exact (hcc _ hS).2.1 | exact (hcc _ hS).2.2 | exact hS.cell0 (by assumption) | exact lv_next hS | exact lv_list hS)) rfl ?_
            refine lst_done ?_
            refine goes_block ?_
            refine goes_seq ?_
            refine goes_region ?_
            first
              | refine lst_run (run_eql_one_int rfl rfl) rfl ?_
              | refine lst_run (run_eql_no rfl rfl (by first | assumption | omega)) rfl ?_
              | refine lst_run (run_eql_yes rfl rfl (by omega)) rfl ?_
              | refine lst_run (rfl) rfl ?_
            refine lst_run (run_assign (by conv => lhs; whnf)) rfl ?_
            refine lst_done ?_
            refine goes_false rfl ?_
            refine goes_seq ?_
            refine goes_region ?_
            first
              | refine lst_run (run_eql_one_int rfl rfl) rfl ?_
              | refine lst_run (run_eql_no rfl rfl (by first | assumption | omega)) rfl ?_
              | refine lst_run (run_eql_yes rfl rfl (by omega)) rfl ?_
              | refine lst_run (rfl) rfl ?_
            refine lst_run (run_assign (by conv => lhs; whnf)) rfl ?_
            refine lst_done ?_
            refine goes_true rfl ?_
            refine goes_region ?_
            refine lst_run (run_fieldAddr (off := 2) rfl rfl) rfl ?_
            first
              | refine lst_run (run_load1_own hS rfl rfl (by first | exact .head | exact .tail .head | exact .tail (.tail .head) | exact .tail (.tail (.tail .head)) | exact .tail (.tail (.tail (.tail .head))) | exact .tail (.tail (.tail (.tail (.tail .head))))) (by repeat constructor)) rfl ?_
              | refine lst_run (run_load1 rfl rfl (by first | assumption | exact (hcc _ hS).1 | exact (hcc _ hS).2.1 | exact (hcc _ hS).2.2 | exact hS.cell0 (by assumption) | exact lv_next hS | exact lv_list hS)) rfl ?_
            first
              | refine lst_run (run_neqS_t rfl rfl (by assumption)) rfl ?_
              | refine lst_run (run_neqS_f rfl rfl (by assumption)) rfl ?_
              | refine lst_run (run_neq_str rfl rfl) rfl ?_
              | refine lst_run (rfl) rfl ?_
            refine lst_run (run_move (by conv => lhs; whnf)) rfl ?_
            refine lst_guard rfl rfl ?_
            refine lst_run (run_fieldAddr (off := 1) rfl rfl) rfl ?_
            refine lst_guard rfl rfl ?_
            first
              | refine lst_run (run_load1_own hS rfl rfl (by first | exact .head | exact .tail .head | exact .tail (.tail .head) | exact .tail (.tail (.tail .head)) | exact .tail (.tail (.tail (.tail .head))) | exact .tail (.tail (.tail (.tail (.tail .head))))) (by repeat constructor)) rfl ?_
              | refine lst_run (run_load1 rfl rfl (by first | assumption | exact (hcc _ hS).1 | exact (hcc _ hS).2.1 | exact (hcc _ hS).2.2 | exact hS.cell0 (by assumption) | exact lv_next hS | exact lv_list hS)) rfl ?_
            refine lst_guard rfl rfl ?_
            first
              | refine lst_run (run_eql_one_int rfl rfl) rfl ?_
              | refine lst_run (run_eql_no rfl rfl (by first | assumption | omega)) rfl ?_
              | refine lst_run (run_eql_yes rfl rfl (by omega)) rfl ?_
              | refine lst_run (rfl) rfl ?_
            first
              | refine lst_run (run_pick_t rfl (by conv => lhs; whnf)) rfl ?_
              | refine lst_run (run_pick_f rfl (by conv => lhs; whnf)) rfl ?_
            refine lst_run (run_assign (by conv => lhs; whnf)) rfl ?_
            refine lst_done ?_
            refine goes_inBlock ?_
            refine goes_seq ?_
            refine goes_region ?_
            refine lst_run (run_move (by conv => lhs; whnf)) rfl ?_
            refine lst_run (rfl) rfl ?_
            refine lst_done ?_
            refine goes_false rfl ?_
            refine goes_skip ?_
            refine goes_inBlock ?_
            refine goes_region ?_
            refine lst_run (run_add rfl rfl (by omega) (by omega)) rfl ?_
            refine lst_run (run_move (by conv => lhs; whnf)) rfl ?_
            refine lst_done ?_
            refine ih (R) _ _ _ ?_ ?_ (by conv => lhs; whnf) (by kernel_rfl)
            · simp
            · exact ⟨D ++ [x], by rw [hD]; simp, by simp, by rw [hgl]; simp [goodL, hgc], hS.drop⟩
          case neg =>
            have hgc : goodC h.cs.length x R.length = false := by unfold goodC; simp [k1, s0, n0]
            refine goes_seq ?_
            refine goes_region ?_
            first
              | refine lst_run (run_lss_yes rfl rfl (by omega)) rfl ?_
              | refine lst_run (run_lss_no rfl rfl (by omega)) rfl ?_
              | refine lst_run (rfl) rfl ?_
            refine lst_done ?_
            refine goes_seq ?_
            refine goes_true rfl ?_
            refine goes_skip ?_
            refine goes_seq ?_
            refine goes_block ?_
            refine goes_seq ?_
            refine goes_region ?_
            refine lst_run (run_move (by conv => lhs; whnf)) rfl ?_
            refine lst_run (run_indexAddr (sz := 3) rfl rfl rfl rfl (by omega) (by omega)) rfl ?_
            first
              | refine lst_run (run_loadN_own (k := 3) hS rfl rfl rfl (by first | exact .head | exact .tail .head | exact .tail (.tail .head) | exact .tail (.tail (.tail .head)) | exact .tail (.tail (.tail (.tail .head))) | exact .tail (.tail (.tail (.tail (.tail .head))))) (by repeat constructor)) rfl ?_
              | refine lst_run (run_load3 rfl rfl rfl (by first | assumption | exact (hcc _ hS).1 | exact (hcc _ hS).2.1 | exact (hcc _ hS).2.2 | exact hS.cell0 (by assumption)) (by first | assumption | exact (hcc _ hS).1 | exact (hcc _ hS).2.1 | exact (hcc _ hS).2.2 | exact hS.cell0 (by assumption)) (by first | assumption | exact (hcc _ hS).1 | exact (hcc _ hS).2.1 | exact (hcc _ hS).2.2 | exact hS.cell0 (by assumption))) rfl ?_
            refine lst_alloc (cs := [_, _, _]) hS rfl rfl rfl ?_
            clear hS
            intro b2 wx2 hS
            refine lst_run (run_assign (by conv => lhs; whnf)) rfl ?_
            refine lst_storeN hS rfl (by conv => lhs; whnf) rfl rfl (by first | exact .head | exact .tail .head | exact .tail (.tail .head) | exact .tail (.tail (.tail .head)) | exact .tail (.tail (.tail (.tail .head))) | exact .tail (.tail (.tail (.tail (.tail .head))))) (by repeat constructor) (by first | exact .head | exact .tail .head | exact .tail (.tail .head) | exact .tail (.tail (.tail .head)) | exact .tail (.tail (.tail (.tail .head))) | exact .tail (.tail (.tail (.tail (.tail .head))))) ?_
            clear hS
            intro wx3 hS
            refine lst_done ?_
            refine goes_seq ?_
            refine goes_region ?_
            refine lst_run (run_assign (by conv => lhs; whnf)) rfl ?_
            refine lst_done ?_
            refine goes_seq ?_
            refine goes_seq ?_
            refine goes_region ?_
            refine lst_run (run_fieldAddr (off := 0) rfl rfl) rfl ?_
            first
              | refine lst_run (run_load1_own hS rfl rfl (by first | exact .head | exact .tail .head | exact .tail (.tail .head) | exact .tail (.tail (.tail .head)) | exact .tail (.tail (.tail (.tail .head))) | exact .tail (.tail (.tail (.tail (.tail .head))))) (by repeat constructor)) rfl ?_
              | refine lst_run (run_load1 rfl rfl (by first | assumption | exact (hcc _ hS).1 | exact (hcc _ hS).2.1 | exact (hcc _ hS).2.2 | exact hS.cell0 (by assumption) | exact lv_next hS | exact lv_list hS)) rfl ?_
            refine lst_done ?_
            refine goes_block ?_
            refine goes_seq ?_
            refine goes_region ?_
            first
              | refine lst_run (run_eql_one_int rfl rfl) rfl ?_
              | refine lst_run (run_eql_no rfl rfl (by first | assumption | omega)) rfl ?_
              | refine lst_run (run_eql_yes rfl rfl (by omega)) rfl ?_
              | refine lst_run (rfl) rfl ?_
            refine lst_run (run_assign (by conv => lhs; whnf)) rfl ?_
            refine lst_done ?_
            refine goes_false rfl ?_
            refine goes_seq ?_
            refine goes_region ?_
            first
              | refine lst_run (run_eql_one_int rfl rfl) rfl ?_
              | refine lst_run (run_eql_no rfl rfl (by first | assumption | omega)) rfl ?_
              | refine lst_run (run_eql_yes rfl rfl (by omega)) rfl ?_
              | refine lst_run (rfl) rfl ?_
            refine lst_run (run_assign (by conv => lhs; whnf)) rfl ?_
            refine lst_done ?_
            refine goes_true rfl ?_
            refine goes_region ?_
            refine lst_run (run_fieldAddr (off := 2) rfl rfl) rfl ?_
            first
              | refine lst_run (run_load1_own hS rfl rfl (by first | exact .head | exact .tail .head | exact .tail (.tail .head) | exact .tail (.tail (.tail .head)) | exact .tail (.tail (.tail (.tail .head))) | exact .tail (.tail (.tail (.tail (.tail .head))))) (by repeat constructor)) rfl ?_
              | refine lst_run (run_load1 rfl rfl (by first | assumption | exact (hcc _ hS).1 | exact (hcc _ hS).2.1 | exact (hcc _ hS).2.2 | exact hS.cell0 (by assumption) | exact lv_next hS | exact lv_list hS)) rfl ?_
            first
              | refine lst_run (run_neqS_t rfl rfl (by assumption)) rfl ?_
              | refine lst_run (run_neqS_f rfl rfl (by assumption)) rfl ?_
              | refine lst_run (run_neq_str rfl rfl) rfl ?_
              | refine lst_run (rfl) rfl ?_
            refine lst_run (run_move (by conv => lhs; whnf)) rfl ?_
            refine lst_guard rfl rfl ?_
            refine lst_run (run_fieldAddr (off := 1) rfl rfl) rfl ?_
            refine lst_guard rfl rfl ?_
            first
              | refine lst_run (run_load1_own hS rfl rfl (by first | exact .head | exact .tail .head | exact .tail (.tail .head) | exact .tail (.tail (.tail .head)) | exact .tail (.tail (.tail (.tail .head))) | exact .tail (.tail (.tail (.tail (.tail .head))))) (by repeat constructor)) rfl ?_
              | refine lst_run (run_load1 rfl rfl (by first | assumption | exact (hcc _ hS).1 | exact (hcc _ hS).2.1 | exact (hcc _ hS).2.2 | exact hS.cell0 (by assumption) | exact lv_next hS | exact lv_list hS)) rfl ?_
            refine lst_guard rfl rfl ?_
            first
              | refine lst_run (run_eql_one_int rfl rfl) rfl ?_
              | refine lst_run (run_eql_no rfl rfl (by first | assumption | omega)) rfl ?_
              | refine lst_run (run_eql_yes rfl rfl (by omega)) rfl ?_
              | refine lst_run (rfl) rfl ?_
            first
              | refine lst_run (run_pick_t rfl (by conv => lhs; whnf)) rfl ?_
              | refine lst_run (run_pick_f rfl (by conv => lhs; whnf)) rfl ?_
            refine lst_run (run_assign (by conv => lhs; whnf)) rfl ?_
            refine lst_done ?_
            refine goes_inBlock ?_
            refine goes_seq ?_
            refine goes_region ?_
            refine lst_run (run_move (by conv => lhs; whnf)) rfl ?_
            refine lst_run (rfl) rfl ?_
            refine lst_done ?_
            refine goes_true rfl ?_
            refine goes_seq ?_
            refine goes_region ?_
            refine lst_run (run_assign (by conv => lhs; whnf)) rfl ?_
            refine lst_done ?_
            refine goes_ret1 Try.func42 rfl (by conv => lhs; whnf) ?_
            exact ⟨by rw [hfalse (by simp [goodL, hgc])], hS.ext.below⟩
      case neg =>
        by_cases k2 : x.k = 2
        case pos =>
          by_cases s0 : x.s = eS
          case pos =>
            have hgc : goodC h.cs.length x R.length = true := by unfold goodC; simp [k2, s0]
            refine goes_seq ?_
            refine goes_region ?_
            first
              | refine lst_run (run_lss_yes rfl rfl (by omega)) rfl ?_
              | refine lst_run (run_lss_no rfl rfl (by omega)) rfl ?_
              | refine lst_run (rfl) rfl ?_
            refine lst_done ?_
            refine goes_seq ?_
            refine goes_true rfl ?_
            refine goes_skip ?_
            refine goes_seq ?_
            refine goes_block ?_
            refine goes_seq ?_
            refine goes_region ?_
            refine lst_run (run_move (by conv => lhs; whnf)) rfl ?_
            refine lst_run (run_indexAddr (sz := 3) rfl rfl rfl rfl (by omega) (by omega)) rfl ?_
            first
              | refine lst_run (run_loadN_own (k := 3) hS rfl rfl rfl (by first | exact .head | exact .tail .head | exact .tail (.tail .head) | exact .tail (.tail (.tail .head)) | exact .tail (.tail (.tail (.tail .head))) | exact .tail (.tail (.tail (.tail (.tail .head))))) (by repeat constructor)) rfl ?_
              | refine lst_run (run_load3 rfl rfl rfl (by first | assumption | exact (hcc _ hS).1 | exact (hcc _ hS).2.1 | exact (hcc _ hS).2.2 | exact hS.cell0 (by assumption)) (by first | assumption | exact (hcc _ hS).1 | exact (hcc _ hS).2.1 | exact (hcc _ hS).2.2 | exact hS.cell0 (by assumption)) (by first | assumption | exact (hcc _ hS).1 | exact (hcc _ hS).2.1 | exact (hcc _ hS).2.2 | exact hS.cell0 (by assumption))) rfl ?_
            refine lst_alloc (cs := [_, _, _]) hS rfl rfl rfl ?_
            clear hS
            intro b2 wx2 hS
            refine lst_run (run_assign (by conv => lhs; whnf)) rfl ?_
            refine lst_storeN hS rfl (by conv => lhs; whnf) rfl rfl (by first | exact .head | exact .tail .head | exact .tail (.tail .head) | exact .tail (.tail (.tail .head)) | exact .tail (.tail (.tail (.tail .head))) | exact .tail (.tail (.tail (.tail (.tail .head))))) (by repeat constructor) (by first | exact .head | exact .tail .head | exact .tail (.tail .head) | exact .tail (.tail (.tail .head)) | exact .tail (.tail (.tail (.tail .head))) | exact .tail (.tail (.tail (.tail (.tail .head))))) ?_
            clear hS
            intro wx3 hS
            refine lst_done ?_
            refine goes_seq ?_
            refine goes_region ?_
            refine lst_run (run_assign (by conv => lhs; whnf)) rfl ?_
            refine lst_done ?_
            refine goes_seq ?_
            refine goes_seq ?_
            refine goes_region ?_
            refine lst_run (run_fieldAddr (off := 0) rfl rfl) rfl ?_
            first
              | refine lst_run (run_load1_own hS rfl rfl (by first | exact .head | exact .tail .head | exact .tail (.tail .head) | exact .tail (.tail (.tail .head)) | exact .tail (.tail (.tail (.tail .head))) | exact .tail (.tail (.tail (.tail (.tail .head))))) (by repeat constructor)) rfl ?_
              | refine lst_run (run_load1 rfl rfl (by first | assumption | exact (hcc _ hS).1 | exact (hcc _ hS).2.1 | exact (hcc _ hS).2.2 | exact hS.cell0 (by assumption) | exact lv_next hS | exact lv_list hS)) rfl ?_
            refine lst_done ?_
            refine goes_block ?_
            refine goes_seq ?_
            refine goes_region ?_
            first
              | refine lst_run (run_eql_one_int rfl rfl) rfl ?_
              | refine lst_run (run_eql_no rfl rfl (by first | assumption | omega)) rfl ?_
              | refine lst_run (run_eql_yes rfl rfl (by omega)) rfl ?_
              | refine lst_run (rfl) rfl ?_
            refine lst_run (run_assign (by conv => lhs; whnf)) rfl ?_
            refine lst_done ?_
            refine goes_false rfl ?_
            refine goes_seq ?_
            refine goes_region ?_
            first
              | refine lst_run (run_eql_one_int rfl rfl) rfl ?_
              | refine lst_run (run_eql_no rfl rfl (by first | assumption | omega)) rfl ?_
              | refine lst_run (run_eql_yes rfl rfl (by omega)) rfl ?_
              | refine lst_run (rfl) rfl ?_
            refine lst_run (run_assign (by conv => lhs; whnf)) rfl ?_
            refine lst_done ?_
            refine goes_false rfl ?_
            refine goes_seq ?_
            refine goes_region ?_
            first
              | refine lst_run (run_eql_one_int rfl rfl) rfl ?_
              | refine lst_run (run_eql_no rfl rfl (by first | assumption | omega)) rfl ?_
              | refine lst_run (run_eql_yes rfl rfl (by omega)) rfl ?_
              | refine lst_run (rfl) rfl ?_
            refine lst_run (run_assign (by conv => lhs; whnf)) rfl ?_
            refine lst_done ?_
            refine goes_true rfl ?_
            refine goes_region ?_
            refine lst_run (run_fieldAddr (off := 2) rfl rfl) rfl ?_
            first
              | refine lst_run (run_load1_own hS rfl rfl (by first | exact .head | exact .tail .head | exact .tail (.tail .head) | exact .tail (.tail (.tail .head)) | exact .tail (.tail (.tail (.tail .head))) | exact .tail (.tail (.tail (.tail (.tail .head))))) (by repeat constructor)) rfl ?_
              | refine lst_run (run_load1 rfl rfl (by first | assumption | exact (hcc _ hS).1 | exact (hcc _ hS).2.1 | exact (hcc _ hS).2.2 | exact hS.cell0 (by assumption) | exact lv_next hS | exact lv_list hS)) rfl ?_
            first
              | refine lst_run (run_eqlS_t rfl rfl (by assumption)) rfl ?_
              | refine lst_run (run_eqlS_f rfl rfl (by assumption)) rfl ?_
              | refine lst_run (run_eql_str rfl rfl) rfl ?_
              | refine lst_run (rfl) rfl ?_
            refine lst_run (run_assign (by conv => lhs; whnf)) rfl ?_
            refine lst_done ?_
            refine goes_inBlock ?_
            refine goes_seq ?_
            refine goes_region ?_
            refine lst_run (run_move (by conv => lhs; whnf)) rfl ?_
            refine lst_run (rfl) rfl ?_
            refine lst_done ?_
            refine goes_false rfl ?_
            refine goes_skip ?_
            refine goes_inBlock ?_
            refine goes_region ?_
            refine lst_run (run_add rfl rfl (by omega) (by omega)) rfl ?_
            refine lst_run (run_move (by conv => lhs; whnf)) rfl ?_
            refine lst_done ?_
            refine ih (R) _ _ _ ?_ ?_ (by conv => lhs; whnf) (by kernel_rfl)
            · simp
            · exact ⟨D ++ [x], by rw [hD]; simp, by simp, by rw [hgl]; simp [goodL, hgc], hS.drop⟩
          case neg =>
            have s0' : x.s ≠ eS := s0
            have hgc : goodC h.cs.length x R.length = false := by unfold goodC; simp [k2, s0]
            refine goes_seq ?_
            refine goes_region ?_
            first
              | refine lst_run (run_lss_yes rfl rfl (by omega)) rfl ?_
              | refine lst_run (run_lss_no rfl rfl (by omega)) rfl ?_
              | refine lst_run (rfl) rfl ?_
            refine lst_done ?_
            refine goes_seq ?_
            refine goes_true rfl ?_
            refine goes_skip ?_
            refine goes_seq ?_
            refine goes_block ?_
            refine goes_seq ?_
            refine goes_region ?_
            refine lst_run (run_move (by conv => lhs; whnf)) rfl ?_
            refine lst_run (run_indexAddr (sz := 3) rfl rfl rfl rfl (by omega) (by omega)) rfl ?_
            first
              | refine lst_run (run_loadN_own (k := 3) hS rfl rfl rfl (by first | exact .head | exact .tail .head | exact .tail (.tail .head) | exact .tail (.tail (.tail .head)) | exact .tail (.tail (.tail (.tail .head))) | exact .tail (.tail (.tail (.tail (.tail .head))))) (by repeat constructor)) rfl ?_
              | refine lst_run (run_load3 rfl rfl rfl (by first | assumption | exact (hcc _ hS).1 | exact (hcc _ hS).2.1 | exact (hcc _ hS).2.2 | exact hS.cell0 (by assumption)) (by first | assumption | exact (hcc _ hS).1 | exact (hcc _ hS).2.1 | exact (hcc _ hS).2.2 | exact hS.cell0 (by assumption)) (by first | assumption | exact (hcc _ hS).1 | exact (hcc _ hS).2.1 | exact (hcc _ hS).2.2 | exact hS.cell0 (by assumption))) rfl ?_
            refine lst_alloc (cs := [_, _, _]) hS rfl rfl rfl ?_
            clear hS
            intro b2 wx2 hS
            refine lst_run (run_assign (by conv => lhs; whnf)) rfl ?_
            refine lst_storeN hS rfl (by conv => lhs; whnf) rfl rfl (by first | exact .head | exact .tail .head | exact .tail (.tail .head) | exact .tail (.tail (.tail .head)) | exact .tail (.tail (.tail (.tail .head))) | exact .tail (.tail (.tail (.tail (.tail .head))))) (by repeat constructor) (by first | exact .head | exact .tail .head | exact .tail (.tail .head) | exact .tail (.tail (.tail .head)) | exact .tail (.tail (.tail (.tail .head))) | exact .tail (.tail (.tail (.tail (.tail .head))))) ?_
            clear hS
            intro wx3 hS
            refine lst_done ?_
            refine goes_seq ?_
            refine goes_region ?_
            refine lst_run (run_assign (by conv => lhs; whnf)) rfl ?_
            refine lst_done ?_
            refine goes_seq ?_
            refine goes_seq ?_
            refine goes_region ?_
            refine lst_run (run_fieldAddr (off := 0) rfl rfl) rfl ?_
            first
              | refine lst_run (run_load1_own hS rfl rfl (by first | exact .head | exact .tail .head | exact .tail (.tail .head) | exact .tail (.tail (.tail .head)) | exact .tail (.tail (.tail (.tail .head))) | exact .tail (.tail (.tail (.tail (.tail .head))))) (by repeat constructor)) rfl ?_
              | refine lst_run (run_load1 rfl rfl (by first | assumption | exact (hcc _ hS).1 | exact (hcc _ hS).2.1 | exact (hcc _ hS).2.2 | exact hS.cell0 (by assumption) | exact lv_next hS | exact lv_list hS)) rfl ?_
            refine lst_done ?_
            refine goes_block ?_
            refine goes_seq ?_
            refine goes_region ?_
            first
              | refine lst_run (run_eql_one_int rfl rfl) rfl ?_
              | refine lst_run (run_eql_no rfl rfl (by first | assumption | omega)) rfl ?_
              | refine lst_run (run_eql_yes rfl rfl (by omega)) rfl ?_
              | refine lst_run (rfl) rfl ?_
            refine lst_run (run_assign (by conv => lhs; whnf)) rfl ?_
            refine lst_done ?_
            refine goes_false rfl ?_
            refine goes_seq ?_
            refine goes_region ?_
            first
              | refine lst_run (run_eql_one_int rfl rfl) rfl ?_
              | refine lst_run (run_eql_no rfl rfl (by first | assumption | omega)) rfl ?_
              | refine lst_run (run_eql_yes rfl rfl (by omega)) rfl ?_
              | refine lst_run (rfl) rfl ?_
            refine lst_run (run_assign (by conv => lhs; whnf)) rfl ?_
            refine lst_done ?_
            refine goes_false rfl ?_
            refine goes_seq ?_
            refine goes_region ?_
            first
              | refine lst_run (run_eql_one_int rfl rfl) rfl ?_
              | refine lst_run (run_eql_no rfl rfl (by first | assumption | omega)) rfl ?_
              | refine lst_run (run_eql_yes rfl rfl (by omega)) rfl ?_
              | refine lst_run (rfl) rfl ?_
            refine lst_run (run_assign (by conv => lhs; whnf)) rfl ?_
            refine lst_done ?_
            refine goes_true rfl ?_
            refine goes_region ?_
            refine lst_run (run_fieldAddr (off := 2) rfl rfl) rfl ?_
            first
              | refine lst_run (run_load1_own hS rfl rfl (by first | exact .head | exact .tail .head | exact .tail (.tail .head) | exact .tail (.tail (.tail .head)) | exact .tail (.tail (.tail (.tail .head))) | exact .tail (.tail (.tail (.tail (.tail .head))))) (by repeat constructor)) rfl ?_
              | refine lst_run (run_load1 rfl rfl (by first | assumption | exact (hcc _ hS).1 | exact (hcc _ hS).2.1 | exact (hcc _ hS).2.2 | exact hS.cell0 (by assumption) | exact lv_next hS | exact lv_list hS)) rfl ?_
            first
              | refine lst_run (run_eqlS_t rfl rfl (by assumption)) rfl ?_
              | refine lst_run (run_eqlS_f rfl rfl (by assumption)) rfl ?_
              | refine lst_run (run_eql_str rfl rfl) rfl ?_
              | refine lst_run (rfl) rfl ?_
            refine lst_run (run_assign (by conv => lhs; whnf)) rfl ?_
            refine lst_done ?_
            refine goes_inBlock ?_
            refine goes_seq ?_
            refine goes_region ?_
            refine lst_run (run_move (by conv => lhs; whnf)) rfl ?_
            refine lst_run (rfl) rfl ?_
            refine lst_done ?_
            refine goes_true rfl ?_
            refine goes_seq ?_
            refine goes_region ?_
            refine lst_run (run_assign (by conv => lhs; whnf)) rfl ?_
            refine lst_done ?_
            refine goes_ret1 Try.func42 rfl (by conv => lhs; whnf) ?_
            exact ⟨by rw [hfalse (by simp [goodL, hgc])], hS.ext.below⟩
        case neg =>
          by_cases k3 : x.k = 3
          case pos =>
            by_cases s0 : x.s = eS
            case pos =>
              have hgc : goodC h.cs.length x R.length = false := by unfold goodC; simp [k3, s0]
              refine goes_seq ?_
              refine goes_region ?_
              first
                | refine lst_run (run_lss_yes rfl rfl (by omega)) rfl ?_
                | refine lst_run (run_lss_no rfl rfl (by omega)) rfl ?_
                | refine lst_run (rfl) rfl ?_
              refine lst_done ?_
              refine goes_seq ?_
              refine goes_true rfl ?_
              refine goes_skip ?_
              refine goes_seq ?_
              refine goes_block ?_
              refine goes_seq ?_
              refine goes_region ?_
              refine lst_run (run_move (by conv => lhs; whnf)) rfl ?_
              refine lst_run (run_indexAddr (sz := 3) rfl rfl rfl rfl (by omega) (by omega)) rfl ?_
              first
                | refine lst_run (run_loadN_own (k := 3) hS rfl rfl rfl (by first | exact .head | exact .tail .head | exact .tail (.tail .head) | exact .tail (.tail (.tail .head)) | exact .tail (.tail (.tail (.tail .head))) | exact .tail (.tail (.tail (.tail (.tail .head))))) (by repeat constructor)) rfl ?_
                | refine lst_run (run_load3 rfl rfl rfl (by first | assumption | exact (hcc _ hS).1 | exact (hcc _ hS).2.1 | exact (hcc _ hS).2.2 | exact hS.cell0 (by assumption)) (by first | assumption | exact (hcc _ hS).1 | exact (hcc _ hS).2.1 | exact (hcc _ hS).2.2 | exact hS.cell0 (by assumption)) (by first | assumption | exact (hcc _ hS).1 | exact (hcc _ hS).2.1 | exact (hcc _ hS).2.2 | exact hS.cell0 (by assumption))) rfl ?_
              refine lst_alloc (cs := [_, _, _]) hS rfl rfl rfl ?_
              clear hS
              intro b2 wx2 hS
              refine lst_run (run_assign (by conv => lhs; whnf)) rfl ?_
              refine lst_storeN hS rfl (by conv => lhs; whnf) rfl rfl (by first | exact .head | exact .tail .head | exact .tail (.tail .head) | exact .tail (.tail (.tail .head)) | exact .tail (.tail (.tail (.tail .head))) | exact .tail (.tail (.tail (.tail (.tail .head))))) (by repeat constructor) (by first | exact .head | exact .tail .head | exact .tail (.tail .head) | exact .tail (.tail (.tail .head)) | exact .tail (.tail (.tail (.tail .head))) | exact .tail (.tail (.tail (.tail (.tail .head))))) ?_
              clear hS
              intro wx3 hS
              refine lst_done ?_
              refine goes_seq ?_
              refine goes_region ?_
              refine lst_run (run_assign (by conv => lhs; whnf)) rfl ?_
              refine lst_done ?_
              refine goes_seq ?_
              refine goes_seq ?_
              refine goes_region ?_
              refine lst_run (run_fieldAddr (off := 0) rfl rfl) rfl ?_
              first
                | refine lst_run (run_load1_own hS rfl rfl (by first | exact .head | exact .tail .head | exact .tail (.tail .head) | exact .tail (.tail (.tail .head)) | exact .tail (.tail (.tail (.tail .head))) | exact .tail (.tail (.tail (.tail (.tail .head))))) (by repeat constructor)) rfl ?_
                | refine lst_run (run_load1 rfl rfl (by first | assumption | exact (hcc _ hS).1 | exact (hcc _ hS).2.1 | exact (hcc _ hS).2.2 | exact hS.cell0 (by assumption) | exact lv_next hS | exact lv_list hS)) rfl ?_
              refine lst_done ?_
              refine goes_block ?_
              refine goes_seq ?_
              refine goes_region ?_
              first
                | refine lst_run (run_eql_one_int rfl rfl) rfl ?_
                | refine lst_run (run_eql_no rfl rfl (by first | assumption | omega)) rfl ?_
                | refine lst_run (run_eql_yes rfl rfl (by omega)) rfl ?_
                | refine lst_run (rfl) rfl ?_
              refine lst_run (run_assign (by conv => lhs; whnf)) rfl ?_
              refine lst_done ?_
              refine goes_false rfl ?_
              refine goes_seq ?_
              refine goes_region ?_
              first
                | refine lst_run (run_eql_one_int rfl rfl) rfl ?_
                | refine lst_run (run_eql_no rfl rfl (by first | assumption | omega)) rfl ?_
                | refine lst_run (run_eql_yes rfl rfl (by omega)) rfl ?_
                | refine lst_run (rfl) rfl ?_
              refine lst_run (run_assign (by conv => lhs; whnf)) rfl ?_
              refine lst_done ?_
              refine goes_false rfl ?_
              refine goes_seq ?_
              refine goes_region ?_
              first
                | refine lst_run (run_eql_one_int rfl rfl) rfl ?_
                | refine lst_run (run_eql_no rfl rfl (by first | assumption | omega)) rfl ?_
                | refine lst_run (run_eql_yes rfl rfl (by omega)) rfl ?_
                | refine lst_run (rfl) rfl ?_
              refine lst_run (run_assign (by conv => lhs; whnf)) rfl ?_
              refine lst_done ?_
              refine goes_false rfl ?_
              refine goes_seq ?_
              refine goes_region ?_
              first
                | refine lst_run (run_eql_one_int rfl rfl) rfl ?_
                | refine lst_run (run_eql_no rfl rfl (by first | assumption | omega)) rfl ?_
                | refine lst_run (run_eql_yes rfl rfl (by omega)) rfl ?_
                | refine lst_run (rfl) rfl ?_
              refine lst_run (run_assign (by conv => lhs; whnf)) rfl ?_
              refine lst_done ?_
              refine goes_true rfl ?_
              refine goes_region ?_
              refine lst_run (run_fieldAddr (off := 2) rfl rfl) rfl ?_
              first
                | refine lst_run (run_load1_own hS rfl rfl (by first | exact .head | exact .tail .head | exact .tail (.tail .head) | exact .tail (.tail (.tail .head)) | exact .tail (.tail (.tail (.tail .head))) | exact .tail (.tail (.tail (.tail (.tail .head))))) (by repeat constructor)) rfl ?_
                | refine lst_run (run_load1 rfl rfl (by first | assumption | exact (hcc _ hS).1 | exact (hcc _ hS).2.1 | exact (hcc _ hS).2.2 | exact hS.cell0 (by assumption) | exact lv_next hS | exact lv_list hS)) rfl ?_
              first
                | refine lst_run (run_neqS_t rfl rfl (by assumption)) rfl ?_
                | refine lst_run (run_neqS_f rfl rfl (by assumption)) rfl ?_
                | refine lst_run (run_neq_str rfl rfl) rfl ?_
                | refine lst_run (rfl) rfl ?_
              refine lst_run (run_move (by conv => lhs; whnf)) rfl ?_
              refine lst_pass rfl rfl rfl ?_
              refine lst_pass rfl rfl rfl ?_
              refine lst_pass rfl rfl rfl ?_
              first
                | refine lst_run (run_pick_t rfl (by conv => lhs; whnf)) rfl ?_
                | refine lst_run (run_pick_f rfl (by conv => lhs; whnf)) rfl ?_
              refine lst_run (run_move (by conv => lhs; whnf)) rfl ?_
              refine lst_pass rfl rfl rfl ?_
              refine lst_pass rfl rfl rfl ?_
              refine lst_pass rfl rfl rfl ?_
              first
                | refine lst_run (run_pick_t rfl (by conv => lhs; whnf)) rfl ?_
                | refine lst_run (run_pick_f rfl (by conv => lhs; whnf)) rfl ?_
              refine lst_run (run_move (by conv => lhs; whnf)) rfl ?_
              refine lst_pass rfl rfl rfl ?_
              refine lst_pass rfl rfl rfl ?_
              refine lst_pass rfl rfl rfl ?_
              refine lst_pass rfl rfl rfl ?_
              refine lst_pass rfl rfl rfl ?_
              refine lst_pass rfl rfl rfl ?_
              first
                | refine lst_run (run_pick_t rfl (by conv => lhs; whnf)) rfl ?_
                | refine lst_run (run_pick_f rfl (by conv => lhs; whnf)) rfl ?_
              refine lst_run (run_assign (by conv => lhs; whnf)) rfl ?_
              refine lst_done ?_
              refine goes_inBlock ?_
              refine goes_seq ?_
              refine goes_region ?_
              refine lst_run (run_move (by conv => lhs; whnf)) rfl ?_
              refine lst_run (rfl) rfl ?_
              refine lst_done ?_
              refine goes_true rfl ?_
              refine goes_seq ?_
              refine goes_region ?_
              refine lst_run (run_assign (by conv => lhs; whnf)) rfl ?_
              refine lst_done ?_
              refine goes_ret1 Try.func42 rfl (by conv => lhs; whnf) ?_
              exact ⟨by rw [hfalse (by simp [goodL, hgc])], hS.ext.below⟩
            case neg =>
              have s0' : x.s ≠ eS := s0
              by_cases n0 : 1 ≤ x.n
              case pos =>
                by_cases n1 : x.n ≤ 4
                case pos =>
                  by_cases n2 : x.n ≤ R.length
                  case pos =>
                    have hgc : goodC h.cs.length x R.length = true := by unfold goodC; simp [k3, s0, n0, n1, n2]
                    refine goes_seq ?_
                    refine goes_region ?_
                    first
                      | refine lst_run (run_lss_yes rfl rfl (by omega)) rfl ?_
                      | refine lst_run (run_lss_no rfl rfl (by omega)) rfl ?_
                      | refine lst_run (rfl) rfl ?_
                    refine lst_done ?_
                    refine goes_seq ?_
                    refine goes_true rfl ?_
                    refine goes_skip ?_
                    refine goes_seq ?_
                    refine goes_block ?_
                    refine goes_seq ?_
                    refine goes_region ?_
                    refine lst_run (run_move (by conv => lhs; whnf)) rfl ?_
                    refine lst_run (run_indexAddr (sz := 3) rfl rfl rfl rfl (by omega) (by omega)) rfl ?_
                    first
                      | refine lst_run (run_loadN_own (k := 3) hS rfl rfl rfl (by first | exact .head | exact .tail .head | exact .tail (.tail .head) | exact .tail (.tail (.tail .head)) | exact .tail (.tail (.tail (.tail .head))) | exact .tail (.tail (.tail (.tail (.tail .head))))) (by repeat constructor)) rfl ?_
                      | refine lst_run (run_load3 rfl rfl rfl (by first | assumption | exact (hcc _ hS).1 | exact (hcc _ hS).2.1 | exact (hcc _ hS).2.2 | exact hS.cell0 (by assumption)) (by first | assumption | exact (hcc _ hS).1 | exact (hcc _ hS).2.1 | exact (hcc _ hS).2.2 | exact hS.cell0 (by assumption)) (by first | assumption | exact (hcc _ hS).1 | exact (hcc _ hS).2.1 | exact (hcc _ hS).2.2 | exact hS.cell0 (by assumption))) rfl ?_
                    refine lst_alloc (cs := [_, _, _]) hS rfl rfl rfl ?_
                    clear hS
                    intro b2 wx2 hS
                    refine lst_run (run_assign (by conv => lhs; whnf)) rfl ?_
                    refine lst_storeN hS rfl (by conv => lhs; whnf) rfl rfl (by first | exact .head | exact .tail .head | exact .tail (.tail .head) | exact .tail (.tail (.tail .head)) | exact .tail (.tail (.tail (.tail .head))) | exact .tail (.tail (.tail (.tail (.tail .head))))) (by repeat constructor) (by first | exact .head | exact .tail .head | exact .tail (.tail .head) | exact .tail (.tail (.tail .head)) | exact .tail (.tail (.tail (.tail .head))) | exact .tail (.tail (.tail (.tail (.tail .head))))) ?_
                    clear hS
                    intro wx3 hS
                    refine lst_done ?_
                    refine goes_seq ?_
                    refine goes_region ?_
                    refine lst_run (run_assign (by conv => lhs; whnf)) rfl ?_
                    refine lst_done ?_
                    refine goes_seq ?_
                    refine goes_seq ?_
                    refine goes_region ?_
                    refine lst_run (run_fieldAddr (off := 0) rfl rfl) rfl ?_
                    first
                      | refine lst_run (run_load1_own hS rfl rfl (by first | exact .head | exact .tail .head | exact .tail (.tail .head) | exact .tail (.tail (.tail .head)) | exact .tail (.tail (.tail (.tail .head))) | exact .tail (.tail (.tail (.tail (.tail .head))))) (by repeat constructor)) rfl ?_
                      | refine lst_run (run_load1 rfl rfl (by first | assumption | exact (hcc _ hS).1 | exact (hcc _ hS).2.1 | exact (hcc _ hS).2.2 | exact hS.cell0 (by assumption) | exact lv_next hS | exact lv_list hS)) rfl ?_
                    refine lst_done ?_
                    refine goes_block ?_
                    refine goes_seq ?_
                    refine goes_region ?_
                    first
                      | refine lst_run (run_eql_one_int rfl rfl) rfl ?_
                      | refine lst_run (run_eql_no rfl rfl (by first | assumption | omega)) rfl ?_
                      | refine lst_run (run_eql_yes rfl rfl (by omega)) rfl ?_
                      | refine lst_run (rfl) rfl ?_
                    refine lst_run (run_assign (by conv => lhs; whnf)) rfl ?_
                    refine lst_done ?_
                    refine goes_false rfl ?_
                    refine goes_seq ?_
                    refine goes_region ?_
                    first
                      | refine lst_run (run_eql_one_int rfl rfl) rfl ?_
                      | refine lst_run (run_eql_no rfl rfl (by first | assumption | omega)) rfl ?_
                      | refine lst_run (run_eql_yes rfl rfl (by omega)) rfl ?_
                      | refine lst_run (rfl) rfl ?_
                    refine lst_run (run_assign (by conv => lhs; whnf)) rfl ?_
                    refine lst_done ?_
                    refine goes_false rfl ?_
                    refine goes_seq ?_
                    refine goes_region ?_
                    first
                      | refine lst_run (run_eql_one_int rfl rfl) rfl ?_
                      | refine lst_run (run_eql_no rfl rfl (by first | assumption | omega)) rfl ?_
                      | refine lst_run (run_eql_yes rfl rfl (by omega)) rfl ?_
                      | refine lst_run (rfl) rfl ?_
                    refine lst_run (run_assign (by conv => lhs; whnf)) rfl ?_
                    refine lst_done ?_
                    refine goes_false rfl ?_
                    refine goes_seq ?_
                    refine goes_region ?_
                    first
                      | refine lst_run (run_eql_one_int rfl rfl) rfl ?_
                      | refine lst_run (run_eql_no rfl rfl (by first | assumption | omega)) rfl ?_
                      | refine lst_run (run_eql_yes rfl rfl (by omega)) rfl ?_
                      | refine lst_run (rfl) rfl ?_
                    refine lst_run (run_assign (by conv => lhs; whnf)) rfl ?_
                    refine lst_done ?_
                    refine goes_true rfl ?_
                    refine goes_region ?_
                    refine lst_run (run_fieldAddr (off := 2) rfl rfl) rfl ?_
                    first
                      | refine lst_run (run_load1_own hS rfl rfl (by first | exact .head | exact .tail .head | exact .tail (.tail .head) | exact .tail (.tail (.tail .head)) | exact .tail (.tail (.tail (.tail .head))) | exact .tail (.tail (.tail (.tail (.tail .head))))) (by repeat constructor)) rfl ?_
                      | refine lst_run (run_load1 rfl rfl (by first | assumption | exact (hcc _ hS).1 | exact (hcc _ hS).2.1 | exact (hcc _ hS).2.2 | exact hS.cell0 (by assumption) | exact lv_next hS | exact lv_list hS)) rfl ?_
                    first
                      | refine lst_run (run_neqS_t rfl rfl (by assumption)) rfl ?_
                      | refine lst_run (run_neqS_f rfl rfl (by assumption)) rfl ?_
                      | refine lst_run (run_neq_str rfl rfl) rfl ?_
                      | refine lst_run (rfl) rfl ?_
                    refine lst_run (run_move (by conv => lhs; whnf)) rfl ?_
                    refine lst_guard rfl rfl ?_
                    refine lst_run (run_fieldAddr (off := 1) rfl rfl) rfl ?_
                    refine lst_guard rfl rfl ?_
                    first
                      | refine lst_run (run_load1_own hS rfl rfl (by first | exact .head | exact .tail .head | exact .tail (.tail .head) | exact .tail (.tail (.tail .head)) | exact .tail (.tail (.tail (.tail .head))) | exact .tail (.tail (.tail (.tail (.tail .head))))) (by repeat constructor)) rfl ?_
                      | refine lst_run (run_load1 rfl rfl (by first | assumption | exact (hcc _ hS).1 | exact (hcc _ hS).2.1 | exact (hcc _ hS).2.2 | exact hS.cell0 (by assumption) | exact lv_next hS | exact lv_list hS)) rfl ?_
                    refine lst_guard rfl rfl ?_
                    first
                      | refine lst_run (run_geq_yes rfl rfl (by omega)) rfl ?_
                      | refine lst_run (run_geq_no rfl rfl (by omega)) rfl ?_
                      | refine lst_run (rfl) rfl ?_
                    first
                      | refine lst_run (run_pick_t rfl (by conv => lhs; whnf)) rfl ?_
                      | refine lst_run (run_pick_f rfl (by conv => lhs; whnf)) rfl ?_
                    refine lst_run (run_move (by conv => lhs; whnf)) rfl ?_
                    refine lst_guard rfl rfl ?_
                    refine lst_run (run_fieldAddr (off := 1) rfl rfl) rfl ?_
                    refine lst_guard rfl rfl ?_
                    first
                      | refine lst_run (run_load1_own hS rfl rfl (by first | exact .head | exact .tail .head | exact .tail (.tail .head) | exact .tail (.tail (.tail .head)) | exact .tail (.tail (.tail (.tail .head))) | exact .tail (.tail (.tail (.tail (.tail .head))))) (by repeat constructor)) rfl ?_
                      | refine lst_run (run_load1 rfl rfl (by first | assumption | exact (hcc _ hS).1 | exact (hcc _ hS).2.1 | exact (hcc _ hS).2.2 | exact hS.cell0 (by assumption) | exact lv_next hS | exact lv_list hS)) rfl ?_
                    refine lst_guard rfl rfl ?_
                    first
                      | refine lst_run (run_leq_yes rfl rfl (by omega)) rfl ?_
                      | refine lst_run (run_leq_no rfl rfl (by omega)) rfl ?_
                      | refine lst_run (rfl) rfl ?_
                    first
                      | refine lst_run (run_pick_t rfl (by conv => lhs; whnf)) rfl ?_
                      | refine lst_run (run_pick_f rfl (by conv => lhs; whnf)) rfl ?_
                    refine lst_run (run_move (by conv => lhs; whnf)) rfl ?_
                    refine lst_guard rfl rfl ?_
                    refine lst_run (run_move (by conv => lhs; whnf)) rfl ?_
                    refine lst_guard rfl rfl ?_
                    refine lst_run (run_fieldAddr (off := 1) rfl rfl) rfl ?_
                    refine lst_guard rfl rfl ?_
                    first
                      | refine lst_run (run_load1_own hS rfl rfl (by first | exact .head | exact .tail .head | exact .tail (.tail .head) | exact .tail (.tail (.tail .head)) | exact .tail (.tail (.tail (.tail .head))) | exact .tail (.tail (.tail (.tail (.tail .head))))) (by repeat constructor)) rfl ?_
                      | refine lst_run (run_load1 rfl rfl (by first | assumption | exact (hcc _ hS).1 | exact (hcc _ hS).2.1 | exact (hcc _ hS).2.2 | exact hS.cell0 (by assumption) | exact lv_next hS | exact lv_list hS)) rfl ?_
                    refine lst_guard rfl rfl ?_
                    refine lst_run (run_add rfl rfl (by omega) (by omega)) rfl ?_
                    refine lst_guard rfl rfl ?_
                    refine lst_run (run_move (by conv => lhs; whnf)) rfl ?_
                    refine lst_guard rfl rfl ?_
                    first
                      | refine lst_run (run_lss_yes rfl rfl (by omega)) rfl ?_
                      | refine lst_run (run_lss_no rfl rfl (by omega)) rfl ?_
                      | refine lst_run (rfl) rfl ?_
                    first
                      | refine lst_run (run_pick_t rfl (by conv => lhs; whnf)) rfl ?_
                      | refine lst_run (run_pick_f rfl (by conv => lhs; whnf)) rfl ?_
                    refine lst_run (run_assign (by conv => lhs; whnf)) rfl ?_
                    refine lst_done ?_
                    refine goes_inBlock ?_
                    refine goes_seq ?_
                    refine goes_region ?_
                    refine lst_run (run_move (by conv => lhs; whnf)) rfl ?_
                    refine lst_run (rfl) rfl ?_
                    refine lst_done ?_
                    refine goes_false rfl ?_
                    refine goes_skip ?_
                    refine goes_inBlock ?_
                    refine goes_region ?_
                    refine lst_run (run_add rfl rfl (by omega) (by omega)) rfl ?_
                    refine lst_run (run_move (by conv => lhs; whnf)) rfl ?_
                    refine lst_done ?_
                    refine ih (R) _ _ _ ?_ ?_ (by conv => lhs; whnf) (by kernel_rfl)
                    · simp
                    · exact ⟨D ++ [x], by rw [hD]; simp, by simp, by rw [hgl]; simp [goodL, hgc], hS.drop⟩
                  case neg =>
                    have hgc : goodC h.cs.length x R.length = false := by unfold goodC; simp [k3, s0, n0, n1, n2]
                    refine goes_seq ?_
                    refine goes_region ?_
                    first
                      | refine lst_run (run_lss_yes rfl rfl (by omega)) rfl ?_
                      | refine lst_run (run_lss_no rfl rfl (by omega)) rfl ?_
                      | refine lst_run (rfl) rfl ?_
                    refine lst_done ?_
                    refine goes_seq ?_
                    refine goes_true rfl ?_
                    refine goes_skip ?_
                    refine goes_seq ?_
                    refine goes_block ?_
                    refine goes_seq ?_
                    refine goes_region ?_
                    refine lst_run (run_move (by conv => lhs; whnf)) rfl ?_
                    refine lst_run (run_indexAddr (sz := 3) rfl rfl rfl rfl (by omega) (by omega)) rfl ?_
                    first
                      | refine lst_run (run_loadN_own (k := 3) hS rfl rfl rfl (by first | exact .head | exact .tail .head | exact .tail (.tail .head) | exact .tail (.tail (.tail .head)) | exact .tail (.tail (.tail (.tail .head))) | exact .tail (.tail (.tail (.tail (.tail .head))))) (by repeat constructor)) rfl ?_
                      | refine lst_run (run_load3 rfl rfl rfl (by first | assumption | exact (hcc _ hS).1 | exact (hcc _ hS).2.1 | exact (hcc _ hS).2.2 | exact hS.cell0 (by assumption)) (by first | assumption | exact (hcc _ hS).1 | exact (hcc _ hS).2.1 | exact (hcc _ hS).2.2 | exact hS.cell0 (by assumption)) (by first | assumption | exact (hcc _ hS).1 | exact (hcc _ hS).2.1 | exact (hcc _ hS).2.2 | exact hS.cell0 (by assumption))) rfl ?_
                    refine lst_alloc (cs := [_, _, _]) hS rfl rfl rfl ?_
                    clear hS
                    intro b2 wx2 hS
                    refine lst_run (run_assign (by conv => lhs; whnf)) rfl ?_
                    refine lst_storeN hS rfl (by conv => lhs; whnf) rfl rfl (by first | exact .head | exact .tail .head | exact .tail (.tail .head) | exact .tail (.tail (.tail .head)) | exact .tail (.tail (.tail (.tail .head))) | exact .tail (.tail (.tail (.tail (.tail .head))))) (by repeat constructor) (by first | exact .head | exact .tail .head | exact .tail (.tail .head) | exact .tail (.tail (.tail .head)) | exact .tail (.tail (.tail (.tail .head))) | exact .tail (.tail (.tail (.tail (.tail .head))))) ?_
                    clear hS
                    intro wx3 hS
                    refine lst_done ?_
                    refine goes_seq ?_
                    refine goes_region ?_
                    refine lst_run (run_assign (by conv => lhs; whnf)) rfl ?_
                    refine lst_done ?_
                    refine goes_seq ?_
                    refine goes_seq ?_
                    refine goes_region ?_
                    refine lst_run (run_fieldAddr (off := 0) rfl rfl) rfl ?_
                    first
                      | refine lst_run (run_load1_own hS rfl rfl (by first | exact .head | exact .tail .head | exact .tail (.tail .head) | exact .tail (.tail (.tail .head)) | exact .tail (.tail (.tail (.tail .head))) | exact .tail (.tail (.tail (.tail (.tail .head))))) (by repeat constructor)) rfl ?_
                      | refine lst_run (run_load1 rfl rfl (by first | assumption | exact (hcc _ hS).1 | exact (hcc _ hS).2.1 | exact (hcc _ hS).2.2 | exact hS.cell0 (by assumption) | exact lv_next hS | exact lv_list hS)) rfl ?_
                    refine lst_done ?_
                    refine goes_block ?_
                    refine goes_seq ?_
                    refine goes_region ?_
                    first
                      | refine lst_run (run_eql_one_int rfl rfl) rfl ?_
                      | refine lst_run (run_eql_no rfl rfl (by first | assumption | omega)) rfl ?_
                      | refine lst_run (run_eql_yes rfl rfl (by omega)) rfl ?_
                      | refine lst_run (rfl) rfl ?_
                    refine lst_run (run_assign (by conv => lhs; whnf)) rfl ?_
                    refine lst_done ?_
                    refine goes_false rfl ?_
                    refine goes_seq ?_
                    refine goes_region ?_
                    first
                      | refine lst_run (run_eql_one_int rfl rfl) rfl ?_
                      | refine lst_run (run_eql_no rfl rfl (by first | assumption | omega)) rfl ?_
                      | refine lst_run (run_eql_yes rfl rfl (by omega)) rfl ?_
                      | refine lst_run (rfl) rfl ?_
                    refine lst_run (run_assign (by conv => lhs; whnf)) rfl ?_
                    refine lst_done ?_
                    refine goes_false rfl ?_
                    refine goes_seq ?_
                    refine goes_region ?_
                    first
                      | refine lst_run (run_eql_one_int rfl rfl) rfl ?_
                      | refine lst_run (run_eql_no rfl rfl (by first | assumption | omega)) rfl ?_
                      | refine lst_run (run_eql_yes rfl rfl (by omega)) rfl ?_
                      | refine lst_run (rfl) rfl ?_
                    refine lst_run (run_assign (by conv => lhs; whnf)) rfl ?_
                    refine lst_done ?_
                    refine goes_false rfl ?_
                    refine goes_seq ?_
                    refine goes_region ?_
                    first
                      | refine lst_run (run_eql_one_int rfl rfl) rfl ?_
                      | refine lst_run (run_eql_no rfl rfl (by first | assumption | omega)) rfl ?_
                      | refine lst_run (run_eql_yes rfl rfl (by omega)) rfl ?_
                      | refine lst_run (rfl) rfl ?_
                    refine lst_run (run_assign (by conv => lhs; whnf)) rfl ?_
                    refine lst_done ?_
                    refine goes_true rfl ?_
                    refine goes_region ?_
                    refine lst_run (run_fieldAddr (off := 2) rfl rfl) rfl ?_
                    first
                      | refine lst_run (run_load1_own hS rfl rfl (by first | exact .head | exact .tail .head | exact .tail (.tail .head) | exact .tail (.tail (.tail .head)) | exact .tail (.tail (.tail (.tail .head))) | exact .tail (.tail (.tail (.tail (.tail .head))))) (by repeat constructor)) rfl ?_
                      | refine lst_run (run_load1 rfl rfl (by first | assumption | exact (hcc _ hS).1 | exact (hcc _ hS).2.1 | exact (hcc _ hS).2.2 | exact hS.cell0 (by assumption) | exact lv_next hS | exact lv_list hS)) rfl ?_
                    first
                      | refine lst_run (run_neqS_t rfl rfl (by assumption)) rfl ?_
                      | refine lst_run (run_neqS_f rfl rfl (by assumption)) rfl ?_
                      | refine lst_run (run_neq_str rfl rfl) rfl ?_
                      | refine lst_run (rfl) rfl ?_
                    refine lst_run (run_move (by conv => lhs; whnf)) rfl ?_
                    refine lst_guard rfl rfl ?_
                    refine lst_run (run_fieldAddr (off := 1) rfl rfl) rfl ?_
                    refine lst_guard rfl rfl ?_
                    first
                      | refine lst_run (run_load1_own hS rfl rfl (by first | exact .head | exact .tail .head | exact .tail (.tail .head) | exact .tail (.tail (.tail .head)) | exact .tail (.tail (.tail (.tail .head))) | exact .tail (.tail (.tail (.tail (.tail .head))))) (by repeat constructor)) rfl ?_
                      | refine lst_run (run_load1 rfl rfl (by first | assumption | exact (hcc _ hS).1 | exact (hcc _ hS).2.1 | exact (hcc _ hS).2.2 | exact hS.cell0 (by assumption) | exact lv_next hS | exact lv_list hS)) rfl ?_
                    refine lst_guard rfl rfl ?_
                    first
                      | refine lst_run (run_geq_yes rfl rfl (by omega)) rfl ?_
                      | refine lst_run (run_geq_no rfl rfl (by omega)) rfl ?_
                      | refine lst_run (rfl) rfl ?_
                    first
                      | refine lst_run (run_pick_t rfl (by conv => lhs; whnf)) rfl ?_
                      | refine lst_run (run_pick_f rfl (by conv => lhs; whnf)) rfl ?_
                    refine lst_run (run_move (by conv => lhs; whnf)) rfl ?_
                    refine lst_guard rfl rfl ?_
                    refine lst_run (run_fieldAddr (off := 1) rfl rfl) rfl ?_
                    refine lst_guard rfl rfl ?_
                    first
                      | refine lst_run (run_load1_own hS rfl rfl (by first | exact .head | exact .tail .head | exact .tail (.tail .head) | exact .tail (.tail (.tail .head)) | exact .tail (.tail (.tail (.tail .head))) | exact .tail (.tail (.tail (.tail (.tail .head))))) (by repeat constructor)) rfl ?_
                      | refine lst_run (run_load1 rfl rfl (by first | assumption | exact (hcc _ hS).1 | exact (hcc _ hS).2.1 | exact (hcc _ hS).2.2 | exact hS.cell0 (by assumption) | exact lv_next hS | exact lv_list hS)) rfl ?_
                    refine lst_guard rfl rfl ?_
                    first
                      | refine lst_run (run_leq_yes rfl rfl (by omega)) rfl ?_
                      | refine lst_run (run_leq_no rfl rfl (by omega)) rfl ?_
                      | refine lst_run (rfl) rfl ?_
                    first
                      | refine lst_run (run_pick_t rfl (by conv => lhs; whnf)) rfl ?_
                      | refine lst_run (run_pick_f rfl (by conv => lhs; whnf)) rfl ?_
                    refine lst_run (run_move (by conv => lhs; whnf)) rfl ?_
                    refine lst_guard rfl rfl ?_
                    refine lst_run (run_move (by conv => lhs; whnf)) rfl ?_
                    refine lst_guard rfl rfl ?_
                    refine lst_run (run_fieldAddr (off := 1) rfl rfl) rfl ?_
                    refine lst_guard rfl rfl ?_
                    first
                      | refine lst_run (run_load1_own hS rfl rfl (by first | exact .head | exact .tail .head | exact .tail (.tail .head) | exact .tail (.tail (.tail .head)) | exact .tail (.tail (.tail (.tail .head))) | exact .tail (.tail (.tail (.tail (.tail .head))))) (by repeat constructor)) rfl ?_
                      | refine lst_run (run_load1 rfl rfl (by first | assumption | exact (hcc _ hS).1 | exact (hcc _ hS).2.1 | exact (hcc _ hS).2.2 | exact hS.cell0 (by assumption) | exact lv_next hS | exact lv_list hS)) rfl ?_
                    refine lst_guard rfl rfl ?_
                    refine lst_run (run_add rfl rfl (by omega) (by omega)) rfl ?_
                    refine lst_guard rfl rfl ?_
                    refine lst_run (run_move (by conv => lhs; whnf)) rfl ?_
                    refine lst_guard rfl rfl ?_
                    first
                      | refine lst_run (run_lss_yes rfl rfl (by omega)) rfl ?_
                      | refine lst_run (run_lss_no rfl rfl (by omega)) rfl ?_
                      | refine lst_run (rfl) rfl ?_
                    first
                      | refine lst_run (run_pick_t rfl (by conv => lhs; whnf)) rfl ?_
                      | refine lst_run (run_pick_f rfl (by conv => lhs; whnf)) rfl ?_
                    refine lst_run (run_assign (by conv => lhs; whnf)) rfl ?_
                    refine lst_done ?_
                    refine goes_inBlock ?_
                    refine goes_seq ?_
                    refine goes_region ?_
                    refine lst_run (run_move (by conv => lhs; whnf)) rfl ?_
                    refine lst_run (rfl) rfl ?_
                    refine lst_done ?_
                    refine goes_true rfl ?_
                    refine goes_seq ?_
                    refine goes_region ?_
                    refine lst_run (run_assign (by conv => lhs; whnf)) rfl ?_
                    refine lst_done ?_
                    refine goes_ret1 Try.func42 rfl (by conv => lhs; whnf) ?_
                    exact ⟨by rw [hfalse (by simp [goodL, hgc])], hS.ext.below⟩
                case neg =>
                  have hgc : goodC h.cs.length x R.length = false := by unfold goodC; simp [k3, s0, n0, n1]
                  refine goes_seq ?_
                  refine goes_region ?_
                  first
                    | refine lst_run (run_lss_yes rfl rfl (by omega)) rfl ?_
                    | refine lst_run (run_lss_no rfl rfl (by omega)) rfl ?_
                    | refine lst_run (rfl) rfl ?_
                  refine lst_done ?_
                  refine goes_seq ?_
                  refine goes_true rfl ?_
                  refine goes_skip ?_
                  refine goes_seq ?_
                  refine goes_block ?_
                  refine goes_seq ?_
                  refine goes_region ?_
                  refine lst_run (run_move (by conv => lhs; whnf)) rfl ?_
                  refine lst_run (run_indexAddr (sz := 3) rfl rfl rfl rfl (by omega) (by omega)) rfl ?_
                  first
                    | refine lst_run (run_loadN_own (k := 3) hS rfl rfl rfl (by first | exact .head | exact .tail .head | exact .tail (.tail .head) | exact .tail (.tail (.tail .head)) | exact .tail (.tail (.tail (.tail .head))) | exact .tail (.tail (.tail (.tail (.tail .head))))) (by repeat constructor)) rfl ?_
                    | refine lst_run (run_load3 rfl rfl rfl (by first | assumption | exact (hcc _ hS).1 | exact (hcc _ hS).2.1 | exact (hcc _ hS).2.2 | exact hS.cell0 (by assumption)) (by first | assumption | exact (hcc _ hS).1 | exact (hcc _ hS).2.1 | exact (hcc _ hS).2.2 | exact hS.cell0 (by assumption)) (by first | assumption | exact (hcc _ hS).1 | exact (hcc _ hS).2.1 | exact (hcc _ hS).2.2 | exact hS.cell0 (by assumption))) rfl ?_
                  refine lst_alloc (cs := [_, _, _]) hS rfl rfl rfl ?_
                  clear hS
                  intro b2 wx2 hS
                  refine lst_run (run_assign (by conv => lhs; whnf)) rfl ?_
                  refine lst_storeN hS rfl (by conv => lhs; whnf) rfl rfl (by first | exact .head | exact .tail .head | exact .tail (.tail .head) | exact .tail (.tail (.tail .head)) | exact .tail (.tail (.tail (.tail .head))) | exact .tail (.tail (.tail (.tail (.tail .head))))) (by repeat constructor) (by first | exact .head | exact .tail .head | exact .tail (.tail .head) | exact .tail (.tail (.tail .head)) | exact .tail (.tail (.tail (.tail .head))) | exact .tail (.tail (.tail (.tail (.tail .head))))) ?_
                  clear hS
                  intro wx3 hS
                  refine lst_done ?_
                  refine goes_seq ?_
                  refine goes_region ?_
                  refine lst_run (run_assign (by conv => lhs; whnf)) rfl ?_
                  refine lst_done ?_
                  refine goes_seq ?_
                  refine goes_seq ?_
                  refine goes_region ?_
                  refine lst_run (run_fieldAddr (off := 0) rfl rfl) rfl ?_
                  first
                    | refine lst_run (run_load1_own hS rfl rfl (by first | exact .head | exact .tail .head | exact .tail (.tail .head) | exact .tail (.tail (.tail .head)) | exact .tail (.tail (.tail (.tail .head))) | exact .tail (.tail (.tail (.tail (.tail .head))))) (by repeat constructor)) rfl ?_
                    | refine lst_run (run_load1 rfl rfl (by first | assumption | exact (hcc _ hS).1 | exact (hcc _ hS).2.1 | exact (hcc _ hS).2.2 | exact hS.cell0 (by assumption) | exact lv_next hS | exact lv_list hS)) rfl ?_
                  refine lst_done ?_
                  refine goes_block ?_
                  refine goes_seq ?_
                  refine goes_region ?_
                  first
                    | refine lst_run (run_eql_one_int rfl rfl) rfl ?_
                    | refine lst_run (run_eql_no rfl rfl (by first | assumption | omega)) rfl ?_
                    | refine lst_run (run_eql_yes rfl rfl (by omega)) rfl ?_
                    | refine lst_run (rfl) rfl ?_
                  refine lst_run (run_assign (by conv => lhs; whnf)) rfl ?_
                  refine lst_done ?_
                  refine goes_false rfl ?_
                  refine goes_seq ?_
                  refine goes_region ?_
                  first
                    | refine lst_run (run_eql_one_int rfl rfl) rfl ?_
                    | refine lst_run (run_eql_no rfl rfl (by first | assumption | omega)) rfl ?_
                    | refine lst_run (run_eql_yes rfl rfl (by omega)) rfl ?_
                    | refine lst_run (rfl) rfl ?_
                  refine lst_run (run_assign (by conv => lhs; whnf)) rfl ?_
                  refine lst_done ?_
                  refine goes_false rfl ?_
                  refine goes_seq ?_
                  refine goes_region ?_
                  first
                    | refine lst_run (run_eql_one_int rfl rfl) rfl ?_
                    | refine lst_run (run_eql_no rfl rfl (by first | assumption | omega)) rfl ?_
                    | refine lst_run (run_eql_yes rfl rfl (by omega)) rfl ?_
                    | refine lst_run (rfl) rfl ?_
                  refine lst_run (run_assign (by conv => lhs; whnf)) rfl ?_
                  refine lst_done ?_
                  refine goes_false rfl ?_
                  refine goes_seq ?_
                  refine goes_region ?_
                  first
                    | refine lst_run (run_eql_one_int rfl rfl) rfl ?_
                    | refine lst_run (run_eql_no rfl rfl (by first | assumption | omega)) rfl ?_
                    | refine lst_run (run_eql_yes rfl rfl (by omega)) rfl ?_
                    | refine lst_run (rfl) rfl ?_
                  refine lst_run (run_assign (by conv => lhs; whnf)) rfl ?_
                  refine lst_done ?_
                  refine goes_true rfl ?_
                  refine goes_region ?_
                  refine lst_run (run_fieldAddr (off := 2) rfl rfl) rfl ?_
                  first
                    | refine lst_run (run_load1_own hS rfl rfl (by first | exact .head | exact .tail .head | exact .tail (.tail .head) | exact .tail (.tail (.tail .head)) | exact .tail (.tail (.tail (.tail .head))) | exact .tail (.tail (.tail (.tail (.tail .head))))) (by repeat constructor)) rfl ?_
                    | refine lst_run (run_load1 rfl rfl (by first | assumption | exact (hcc _ hS).1 | exact (hcc _ hS).2.1 | exact (hcc _ hS).2.2 | exact hS.cell0 (by assumption) | exact lv_next hS | exact lv_list hS)) rfl ?_
                  first
                    | refine lst_run (run_neqS_t rfl rfl (by assumption)) rfl ?_
                    | refine lst_run (run_neqS_f rfl rfl (by assumption)) rfl ?_
                    | refine lst_run (run_neq_str rfl rfl) rfl ?_
                    | refine lst_run (rfl) rfl ?_
                  refine lst_run (run_move (by conv => lhs; whnf)) rfl ?_
                  refine lst_guard rfl rfl ?_
                  refine lst_run (run_fieldAddr (off := 1) rfl rfl) rfl ?_
                  refine lst_guard rfl rfl ?_
                  first
                    | refine lst_run (run_load1_own hS rfl rfl (by first | exact .head | exact .tail .head | exact .tail (.tail .head) | exact .tail (.tail (.tail .head)) | exact .tail (.tail (.tail (.tail .head))) | exact .tail (.tail (.tail (.tail (.tail .head))))) (by repeat constructor)) rfl ?_
                    | refine lst_run (run_load1 rfl rfl (by first | assumption | exact (hcc _ hS).1 | exact (hcc _ hS).2.1 | exact (hcc _ hS).2.2 | exact hS.cell0 (by assumption) | exact lv_next hS | exact lv_list hS)) rfl ?_
                  refine lst_guard rfl rfl ?_
                  first
                    | refine lst_run (run_geq_yes rfl rfl (by omega)) rfl ?_
                    | refine lst_run (run_geq_no rfl rfl (by omega)) rfl ?_
                    | refine lst_run (rfl) rfl ?_
                  first
                    | refine lst_run (run_pick_t rfl (by conv => lhs; whnf)) rfl ?_
                    | refine lst_run (run_pick_f rfl (by conv => lhs; whnf)) rfl ?_
                  refine lst_run (run_move (by conv => lhs; whnf)) rfl ?_
                  refine lst_guard rfl rfl ?_
                  refine lst_run (run_fieldAddr (off := 1) rfl rfl) rfl ?_
                  refine lst_guard rfl rfl ?_
                  first
                    | refine lst_run (run_load1_own hS rfl rfl (by first | exact .head | exact .tail .head | exact .tail (.tail .head) | exact .tail (.tail (.tail .head)) | exact .tail (.tail (.tail (.tail .head))) | exact .tail (.tail (.tail (.tail (.tail .head))))) (by repeat constructor)) rfl ?_
                    | refine lst_run (run_load1 rfl rfl (by first | assumption | exact (hcc _ hS).1 | exact (hcc _ hS).2.1 | exact (hcc _ hS).2.2 | exact hS.cell0 (by assumption) | exact lv_next hS | exact lv_list hS)) rfl ?_
                  refine lst_guard rfl rfl ?_
                  first
                    | refine lst_run (run_leq_yes rfl rfl (by omega)) rfl ?_
                    | refine lst_run (run_leq_no rfl rfl (by omega)) rfl ?_
                    | refine lst_run (rfl) rfl ?_
                  first
                    | refine lst_run (run_pick_t rfl (by conv => lhs; whnf)) rfl ?_
                    | refine lst_run (run_pick_f rfl (by conv => lhs; whnf)) rfl ?_
                  refine lst_run (run_move (by conv => lhs; whnf)) rfl ?_
                  refine lst_pass rfl rfl rfl ?_
                  refine lst_pass rfl rfl rfl ?_
                  refine lst_pass rfl rfl rfl ?_
                  refine lst_pass rfl rfl rfl ?_
                  refine lst_pass rfl rfl rfl ?_
                  refine lst_pass rfl rfl rfl ?_
                  first
                    | refine lst_run (run_pick_t rfl (by conv => lhs; whnf)) rfl ?_
                    | refine lst_run (run_pick_f rfl (by conv => lhs; whnf)) rfl ?_
                  refine lst_run (run_assign (by conv => lhs; whnf)) rfl ?_
                  refine lst_done ?_
                  refine goes_inBlock ?_
                  refine goes_seq ?_
                  refine goes_region ?_
                  refine lst_run (run_move (by conv => lhs; whnf)) rfl ?_
                  refine lst_run (rfl) rfl ?_
                  refine lst_done ?_
                  refine goes_true rfl ?_
                  refine goes_seq ?_
                  refine goes_region ?_
                  refine lst_run (run_assign (by conv => lhs; whnf)) rfl ?_
                  refine lst_done ?_
                  refine goes_ret1 Try.func42 rfl (by conv => lhs; whnf) ?_
                  exact ⟨by rw [hfalse (by simp [goodL, hgc])], hS.ext.below⟩
              case neg =>
                have hgc : goodC h.cs.length x R.length = false := by unfold goodC; simp [k3, s0, n0]
                refine goes_seq ?_
                refine goes_region ?_
                first
                  | refine lst_run (run_lss_yes rfl rfl (by omega)) rfl ?_
                  | refine lst_run (run_lss_no rfl rfl (by omega)) rfl ?_
                  | refine lst_run (rfl) rfl ?_
                refine lst_done ?_
                refine goes_seq ?_
                refine goes_true rfl ?_
                refine goes_skip ?_
                refine goes_seq ?_
                refine goes_block ?_
                refine goes_seq ?_
                refine goes_region ?_
                refine lst_run (run_move (by conv => lhs; whnf)) rfl ?_
                refine lst_run (run_indexAddr (sz := 3) rfl rfl rfl rfl (by omega) (by omega)) rfl ?_
                first
                  | refine lst_run (run_loadN_own (k := 3) hS rfl rfl rfl (by first | exact .head | exact .tail .head | exact .tail (.tail .head) | exact .tail (.tail (.tail .head)) | exact .tail (.tail (.tail (.tail .head))) | exact .tail (.tail (.tail (.tail (.tail .head))))) (by repeat constructor)) rfl ?_
                  | refine lst_run (run_load3 rfl rfl rfl (by first | assumption | exact (hcc _ hS).1 | exact (hcc _ hS).2.1 | exact (hcc _ hS).2.2 | exact hS.cell0 (by assumption)) (by first | assumption | exact (hcc _ hS).1 | exact (hcc _ hS).2.1 | exact (hcc _ hS).2.2 | exact hS.cell0 (by assumption)) (by first | assumption | exact (hcc _ hS).1 | exact (hcc _ hS).2.1 | exact (hcc _ hS).2.2 | exact hS.cell0 (by assumption))) rfl ?_
                refine lst_alloc (cs := [_, _, _]) hS rfl rfl rfl ?_
                clear hS
                intro b2 wx2 hS
                refine lst_run (run_assign (by conv => lhs; whnf)) rfl ?_
                refine lst_storeN hS rfl (by conv => lhs; whnf) rfl rfl (by first | exact .head | exact .tail .head | exact .tail (.tail .head) | exact .tail (.tail (.tail .head)) | exact .tail (.tail (.tail (.tail .head))) | exact .tail (.tail (.tail (.tail (.tail .head))))) (by repeat constructor) (by first | exact .head | exact .tail .head | exact .tail (.tail .head) | exact .tail (.tail (.tail .head)) | exact .tail (.tail (.tail (.tail .head))) | exact .tail (.tail (.tail (.tail (.tail .head))))) ?_
                clear hS
                intro wx3 hS
                refine lst_done ?_
                refine goes_seq ?_
                refine goes_region ?_
                refine lst_run (run_assign (by conv => lhs; whnf)) rfl ?_
                refine lst_done ?_
                refine goes_seq ?_
                refine goes_seq ?_
                refine goes_region ?_
                refine lst_run (run_fieldAddr (off := 0) rfl rfl) rfl ?_
                first
                  | refine lst_run (run_load1_own hS rfl rfl (by first | exact .head | exact .tail .head | exact .tail (.tail .head) | exact .tail (.tail (.tail .head)) | exact .tail (.tail (.tail (.tail .head))) | exact .tail (.tail (.tail (.tail (.tail .head))))) (by repeat constructor)) rfl ?_
                  | refine lst_run (run_load1 rfl rfl (by first | assumption | exact (hcc _ hS).1 | exact (hcc _ hS).2.1 | exact (hcc _ hS).2.2 | exact hS.cell0 (by assumption) | exact lv_next hS | exact lv_list hS)) rfl ?_
                refine lst_done ?_
                refine goes_block ?_
                refine goes_seq ?_
                refine goes_region ?_
                first
                  | refine lst_run (run_eql_one_int rfl rfl) rfl ?_
                  | refine lst_run (run_eql_no rfl rfl (by first | assumption | omega)) rfl ?_
                  | refine lst_run (run_eql_yes rfl rfl (by omega)) rfl ?_
                  | refine lst_run (rfl) rfl ?_
                refine lst_run (run_assign (by conv => lhs; whnf)) rfl ?_
                refine lst_done ?_
                refine goes_false rfl ?_
                refine goes_seq ?_
                refine goes_region ?_
                first
                  | refine lst_run (run_eql_one_int rfl rfl) rfl ?_
                  | refine lst_run (run_eql_no rfl rfl (by first | assumption | omega)) rfl ?_
                  | refine lst_run (run_eql_yes rfl rfl (by omega)) rfl ?_
                  | refine lst_run (rfl) rfl ?_
                refine lst_run (run_assign (by conv => lhs; whnf)) rfl ?_
                refine lst_done ?_
                refine goes_false rfl ?_
                refine goes_seq ?_
                refine goes_region ?_
                first
                  | refine lst_run (run_eql_one_int rfl rfl) rfl ?_
                  | refine lst_run (run_eql_no rfl rfl (by first | assumption | omega)) rfl ?_
                  | refine lst_run (run_eql_yes rfl rfl (by omega)) rfl ?_
                  | refine lst_run (rfl) rfl ?_
                refine lst_run (run_assign (by conv => lhs; whnf)) rfl ?_
                refine lst_done ?_
                refine goes_false rfl ?_
                refine goes_seq ?_
                refine goes_region ?_
                first
                  | refine lst_run (run_eql_one_int rfl rfl) rfl ?_
                  | refine lst_run (run_eql_no rfl rfl (by first | assumption | omega)) rfl ?_
                  | refine lst_run (run_eql_yes rfl rfl (by omega)) rfl ?_
                  | refine lst_run (rfl) rfl ?_
                refine lst_run (run_assign (by conv => lhs; whnf)) rfl ?_
                refine lst_done ?_
                refine goes_true rfl ?_
                refine goes_region ?_
                refine lst_run (run_fieldAddr (off := 2) rfl rfl) rfl ?_
                first
                  | refine lst_run (run_load1_own hS rfl rfl (by first | exact .head | exact .tail .head | exact .tail (.tail .head) | exact .tail (.tail (.tail .head)) | exact .tail (.tail (.tail (.tail .head))) | exact .tail (.tail (.tail (.tail (.tail .head))))) (by repeat constructor)) rfl ?_
                  | refine lst_run (run_load1 rfl rfl (by first | assumption | exact (hcc _ hS).1 | exact (hcc _ hS).2.1 | exact (hcc _ hS).2.2 | exact hS.cell0 (by assumption) | exact lv_next hS | exact lv_list hS)) rfl ?_
                first
                  | refine lst_run (run_neqS_t rfl rfl (by assumption)) rfl ?_
                  | refine lst_run (run_neqS_f rfl rfl (by assumption)) rfl ?_
                  | refine lst_run (run_neq_str rfl rfl) rfl ?_
                  | refine lst_run (rfl) rfl ?_
                refine lst_run (run_move (by conv => lhs; whnf)) rfl ?_
                refine lst_guard rfl rfl ?_
                refine lst_run (run_fieldAddr (off := 1) rfl rfl) rfl ?_
                refine lst_guard rfl rfl ?_
                first
                  | refine lst_run (run_load1_own hS rfl rfl (by first | exact .head | exact .tail .head | exact .tail (.tail .head) | exact .tail (.tail (.tail .head)) | exact .tail (.tail (.tail (.tail .head))) | exact .tail (.tail (.tail (.tail (.tail .head))))) (by repeat constructor)) rfl ?_
                  | refine lst_run (run_load1 rfl rfl (by first | assumption | exact (hcc _ hS).1 | exact (hcc _ hS).2.1 | exact (hcc _ hS).2.2 | exact hS.cell0 (by assumption) | exact lv_next hS | exact lv_list hS)) rfl ?_
                refine lst_guard rfl rfl ?_
                first
                  | refine lst_run (run_geq_yes rfl rfl (by omega)) rfl ?_
                  | refine lst_run (run_geq_no rfl rfl (by omega)) rfl ?_
                  | refine lst_run (rfl) rfl ?_
                first
                  | refine lst_run (run_pick_t rfl (by conv => lhs; whnf)) rfl ?_
                  | refine lst_run (run_pick_f rfl (by conv => lhs; whnf)) rfl ?_
                refine lst_run (run_move (by conv => lhs; whnf)) rfl ?_
                refine lst_pass rfl rfl rfl ?_
                refine lst_pass rfl rfl rfl ?_
                refine lst_pass rfl rfl rfl ?_
                first
                  | refine lst_run (run_pick_t rfl (by conv => lhs; whnf)) rfl ?_
                  | refine lst_run (run_pick_f rfl (by conv => lhs; whnf)) rfl ?_
                refine lst_run (run_move (by conv => lhs; whnf)) rfl ?_
                refine lst_pass rfl rfl rfl ?_
                refine lst_pass rfl rfl rfl ?_
                refine lst_pass rfl rfl rfl ?_
                refine lst_pass rfl rfl rfl ?_
                refine lst_pass rfl rfl rfl ?_
                refine lst_pass rfl rfl rfl ?_
                first
                  | refine lst_run (run_pick_t rfl (by conv => lhs; whnf)) rfl ?_
                  | refine lst_run (run_pick_f rfl (by conv => lhs; whnf)) rfl ?_
                refine lst_run (run_assign (by conv => lhs; whnf)) rfl ?_
                refine lst_done ?_
                refine goes_inBlock ?_
                refine goes_seq ?_
                refine goes_region ?_
                refine lst_run (run_move (by conv => lhs; whnf)) rfl ?_
                refine lst_run (rfl) rfl ?_
                refine lst_done ?_
                refine goes_true rfl ?_
                refine goes_seq ?_
                refine goes_region ?_
                refine lst_run (run_assign (by conv => lhs; whnf)) rfl ?_
                refine lst_done ?_
                refine goes_ret1 Try.func42 rfl (by conv => lhs; whnf) ?_
                exact ⟨by rw [hfalse (by simp [goodL, hgc])], hS.ext.below⟩
          case neg =>
            have hgc : goodC h.cs.length x R.length = false := by unfold goodC; simp [k0, k1, k2, k3]
            refine goes_seq ?_
            refine goes_region ?_
            first
              | refine lst_run (run_lss_yes rfl rfl (by omega)) rfl ?_
              | refine lst_run (run_lss_no rfl rfl (by omega)) rfl ?_
              | refine lst_run (rfl) rfl ?_
            refine lst_done ?_
            refine goes_seq ?_
            refine goes_true rfl ?_
            refine goes_skip ?_
            refine goes_seq ?_
            refine goes_block ?_
            refine goes_seq ?_
            refine goes_region ?_
            refine lst_run (run_move (by conv => lhs; whnf)) rfl ?_
            refine lst_run (run_indexAddr (sz := 3) rfl rfl rfl rfl (by omega) (by omega)) rfl ?_
            first
              | refine lst_run (run_loadN_own (k := 3) hS rfl rfl rfl (by first | exact .head | exact .tail .head | exact .tail (.tail .head) | exact .tail (.tail (.tail .head)) | exact .tail (.tail (.tail (.tail .head))) | exact .tail (.tail (.tail (.tail (.tail .head))))) (by repeat constructor)) rfl ?_
              | refine lst_run (run_load3 rfl rfl rfl (by first | assumption | exact (hcc _ hS).1 | exact (hcc _ hS).2.1 | exact (hcc _ hS).2.2 | exact hS.cell0 (by assumption)) (by first | assumption | exact (hcc _ hS).1 | exact (hcc _ hS).2.1 | exact (hcc _ hS).2.2 | exact hS.cell0 (by assumption)) (by first | assumption | exact (hcc _ hS).1 | exact (hcc _ hS).2.1 | exact (hcc _ hS).2.2 | exact hS.cell0 (by assumption))) rfl ?_
            refine lst_alloc (cs := [_, _, _]) hS rfl rfl rfl ?_
            clear hS
            intro b2 wx2 hS
            refine lst_run (run_assign (by conv => lhs; whnf)) rfl ?_
            refine lst_storeN hS rfl (by conv => lhs; whnf) rfl rfl (by first | exact .head | exact .tail .head | exact .tail (.tail .head) | exact .tail (.tail (.tail .head)) | exact .tail (.tail (.tail (.tail .head))) | exact .tail (.tail (.tail (.tail (.tail .head))))) (by repeat constructor) (by first | exact .head | exact .tail .head | exact .tail (.tail .head) | exact .tail (.tail (.tail .head)) | exact .tail (.tail (.tail (.tail .head))) | exact .tail (.tail (.tail (.tail (.tail .head))))) ?_
            clear hS
            intro wx3 hS
            refine lst_done ?_
            refine goes_seq ?_
            refine goes_region ?_
            refine lst_run (run_assign (by conv => lhs; whnf)) rfl ?_
            refine lst_done ?_
            refine goes_seq ?_
            refine goes_seq ?_
            refine goes_region ?_
            refine lst_run (run_fieldAddr (off := 0) rfl rfl) rfl ?_
            first
              | refine lst_run (run_load1_own hS rfl rfl (by first | exact .head | exact .tail .head | exact .tail (.tail .head) | exact .tail (.tail (.tail .head)) | exact .tail (.tail (.tail (.tail .head))) | exact .tail (.tail (.tail (.tail (.tail .head))))) (by repeat constructor)) rfl ?_
              | refine lst_run (run_load1 rfl rfl (by first | assumption | exact (hcc _ hS).1 | exact (hcc _ hS).2.1 | exact (hcc _ hS).2.2 | exact hS.cell0 (by assumption) | exact lv_next hS | exact lv_list hS)) rfl ?_
            refine lst_done ?_
            refine goes_block ?_
            refine goes_seq ?_
            refine goes_region ?_
            first
              | refine lst_run (run_eql_one_int rfl rfl) rfl ?_
              | refine lst_run (run_eql_no rfl rfl (by first | assumption | omega)) rfl ?_
              | refine lst_run (run_eql_yes rfl rfl (by omega)) rfl ?_
              | refine lst_run (rfl) rfl ?_
            refine lst_run (run_assign (by conv => lhs; whnf)) rfl ?_
            refine lst_done ?_
            refine goes_false rfl ?_
            refine goes_seq ?_
            refine goes_region ?_
            first
              | refine lst_run (run_eql_one_int rfl rfl) rfl ?_
              | refine lst_run (run_eql_no rfl rfl (by first | assumption | omega)) rfl ?_
              | refine lst_run (run_eql_yes rfl rfl (by omega)) rfl ?_
              | refine lst_run (rfl) rfl ?_
            refine lst_run (run_assign (by conv => lhs; whnf)) rfl ?_
            refine lst_done ?_
            refine goes_false rfl ?_
            refine goes_seq ?_
            refine goes_region ?_
            first
              | refine lst_run (run_eql_one_int rfl rfl) rfl ?_
              | refine lst_run (run_eql_no rfl rfl (by first | assumption | omega)) rfl ?_
              | refine lst_run (run_eql_yes rfl rfl (by omega)) rfl ?_
              | refine lst_run (rfl) rfl ?_
            refine lst_run (run_assign (by conv => lhs; whnf)) rfl ?_
            refine lst_done ?_
            refine goes_false rfl ?_
            refine goes_seq ?_
            refine goes_region ?_
            first
              | refine lst_run (run_eql_one_int rfl rfl) rfl ?_
              | refine lst_run (run_eql_no rfl rfl (by first | assumption | omega)) rfl ?_
              | refine lst_run (run_eql_yes rfl rfl (by omega)) rfl ?_
              | refine lst_run (rfl) rfl ?_
            refine lst_run (run_assign (by conv => lhs; whnf)) rfl ?_
            refine lst_done ?_
            refine goes_false rfl ?_
            refine goes_skip ?_
            refine goes_inBlock ?_
            refine goes_seq ?_
            refine goes_region ?_
            refine lst_run (run_move (by conv => lhs; whnf)) rfl ?_
            refine lst_run (rfl) rfl ?_
            refine lst_done ?_
            refine goes_true rfl ?_
            refine goes_seq ?_
            refine goes_region ?_
            refine lst_run (run_assign (by conv => lhs; whnf)) rfl ?_
            refine lst_done ?_
            refine goes_ret1 Try.func42 rfl (by conv => lhs; whnf) ?_
            exact ⟨by rw [hfalse (by simp [goodL, hgc])], hS.ext.below⟩
  | nil =>
    simp only [List.length_nil] at hlen
    have hgH2 : goodH h = h.tr.all (goodTr1 h.cs) := by rw [hgH, hgl]; rfl
    refine goes_seq ?_
    refine goes_region ?_
    first
      | refine lst_run (run_lss_yes rfl rfl (by omega)) rfl ?_
      | refine lst_run (run_lss_no rfl rfl (by omega)) rfl ?_
      | refine lst_run (rfl) rfl ?_
    refine lst_done ?_
    refine goes_seq ?_
    refine goes_false rfl ?_
    refine goes_exit rfl ?_
    refine goes_seq ?_
    refine goes_seq ?_
    refine goes_region ?_
    refine lst_run (run_fieldAddr (off := 1) rfl rfl) rfl ?_
    first
      | refine lst_run (run_load1_own hS rfl rfl (by first | exact .head | exact .tail .head | exact .tail (.tail .head) | exact .tail (.tail (.tail .head)) | exact .tail (.tail (.tail (.tail .head))) | exact .tail (.tail (.tail (.tail (.tail .head))))) (by repeat constructor)) rfl ?_
      | refine lst_run (run_load1 rfl rfl (by first | assumption | exact (hcc _ hS).1 | exact (hcc _ hS).2.1 | exact (hcc _ hS).2.2 | exact hS.cell0 (by assumption) | exact lv_next hS | exact lv_list hS)) rfl ?_
    refine lst_run (run_len_slice rfl rfl rfl) rfl ?_
    refine lst_run (run_move (by conv => lhs; whnf)) rfl ?_
    refine lst_done ?_
    refine goes_block ?_
    refine goes_loop1 90 (91 :: 92 :: 93 :: 8 :: 94 :: 95 :: 96 :: 97 :: 98 :: 99 :: 100 :: 101 :: 102 :: 103 :: 104 :: 105 :: 106 :: 107 :: 108 :: 109 :: 2 :: 110 :: []) (fun (R : List Int) v w' => ∃ D, h.tr = D ++ R ∧ v = .int .i64 (D.length : Nat) ∧ h.tr.all (goodTr1 h.cs) = R.all (goodTr1 h.cs) ∧ St [] w [(b1, hob A h.cs.length c B h.tr.length d)] [HFl h A c B d] w') (fun R => R.length) (h.tr) ?_ (by conv => lhs; whnf) ?_
    · exact ⟨[], rfl, rfl, rfl, hS⟩
    clear hS
    rintro R _ w3 jv2 ⟨E, hE, rfl, hgt, hS⟩ ih
    have hlen2 : h.tr.length = E.length + R.length := by rw [hE]; simp
    cases R with
    | nil =>
      simp only [List.length_nil] at hlen2
      refine goes_seq ?_
      refine goes_region ?_
      first
        | refine lst_run (run_lss_yes rfl rfl (by omega)) rfl ?_
        | refine lst_run (run_lss_no rfl rfl (by omega)) rfl ?_
        | refine lst_run (rfl) rfl ?_
      refine lst_done ?_
      refine goes_seq ?_
      refine goes_false rfl ?_
      refine goes_exit rfl ?_
      refine goes_seq ?_
      refine goes_region ?_
      refine lst_run (run_assign (by conv => lhs; whnf)) rfl ?_
      refine lst_done ?_
      refine goes_ret1 Try.func42 rfl (by conv => lhs; whnf) ?_
      rw [hgH2, hgt]
      exact ⟨rfl, hS.ext.below⟩
    | cons x R =>
      simp only [List.length_cons] at hlen2
      obtain ⟨b, o, rfl⟩ := hT.some_ (by omega)
      have hxt : h.tr[E.length]? = some x := by rw [hE]; simp
      have hct : ∀ {H'} w', St [] w H' [HFl h A c (some ⟨b, o, none⟩) d] w' → _ := fun w' hS => (hS.fact (.head _)).2.int hxt
      by_cases hx0 : x < 0
      · refine goes_seq ?_
        refine goes_region ?_
        first
          | refine lst_run (run_lss_yes rfl rfl (by omega)) rfl ?_
          | refine lst_run (run_lss_no rfl rfl (by omega)) rfl ?_
          | refine lst_run (rfl) rfl ?_
        refine lst_done ?_
        refine goes_seq ?_
        refine goes_true rfl ?_
        refine goes_skip ?_
        refine goes_seq ?_
        refine goes_block ?_
        refine goes_seq ?_
        refine goes_region ?_
        refine lst_run (run_indexAddr (sz := 1) rfl rfl rfl rfl (by omega) (by omega)) rfl ?_
        first
          | refine lst_run (run_load1_own hS rfl rfl (by first | exact .head | exact .tail .head | exact .tail (.tail .head) | exact .tail (.tail (.tail .head)) | exact .tail (.tail (.tail (.tail .head))) | exact .tail (.tail (.tail (.tail (.tail .head))))) (by repeat constructor)) rfl ?_
          | refine lst_run (run_load1 rfl rfl (by first | assumption | exact hct _ hS | exact hS.cell0 (by assumption) | exact lv_next hS | exact lv_list hS)) rfl ?_
        refine lst_run (run_assign (by conv => lhs; whnf)) rfl ?_
        refine lst_done ?_
        refine goes_seq ?_
        refine goes_region ?_
        refine lst_run (run_move (by conv => lhs; whnf)) rfl ?_
        first
          | refine lst_run (run_lss_yes rfl rfl (by omega)) rfl ?_
          | refine lst_run (run_lss_no rfl rfl (by omega)) rfl ?_
          | refine lst_run (rfl) rfl ?_
        refine lst_run (run_move (by conv => lhs; whnf)) rfl ?_
        refine lst_pass rfl rfl rfl ?_
        refine lst_pass rfl rfl rfl ?_
        refine lst_pass rfl rfl rfl ?_
        first
          | refine lst_run (run_pick_t rfl (by conv => lhs; whnf)) rfl ?_
          | refine lst_run (run_pick_f rfl (by conv => lhs; whnf)) rfl ?_
        refine lst_run (run_move (by conv => lhs; whnf)) rfl ?_
        refine lst_pass rfl rfl rfl ?_
        refine lst_pass rfl rfl rfl ?_
        refine lst_pass rfl rfl rfl ?_
        refine lst_pass rfl rfl rfl ?_
        refine lst_pass rfl rfl rfl ?_
        refine lst_pass rfl rfl rfl ?_
        refine lst_pass rfl rfl rfl ?_
        first
          | refine lst_run (run_pick_t rfl (by conv => lhs; whnf)) rfl ?_
          | refine lst_run (run_pick_f rfl (by conv => lhs; whnf)) rfl ?_
        refine lst_done ?_
        refine goes_true rfl ?_
        refine goes_seq ?_
        refine goes_region ?_
        refine lst_run (run_assign (by conv => lhs; whnf)) rfl ?_
        refine lst_done ?_
        refine goes_ret1 Try.func42 rfl (by conv => lhs; whnf) ?_
        rw [hgH2, hgt]
        refine ⟨?_, hS.ext.below⟩
        simp [goodTr1, hat_none (L := h.cs) (a := x) (by omega)]
      by_cases hx1 : x < h.cs.length
      case neg =>
        refine goes_seq ?_
        refine goes_region ?_
        first
          | refine lst_run (run_lss_yes rfl rfl (by omega)) rfl ?_
          | refine lst_run (run_lss_no rfl rfl (by omega)) rfl ?_
          | refine lst_run (rfl) rfl ?_
        refine lst_done ?_
        refine goes_seq ?_
        refine goes_true rfl ?_
        refine goes_skip ?_
        refine goes_seq ?_
        refine goes_block ?_
        refine goes_seq ?_
        refine goes_region ?_
        refine lst_run (run_indexAddr (sz := 1) rfl rfl rfl rfl (by omega) (by omega)) rfl ?_
        first
          | refine lst_run (run_load1_own hS rfl rfl (by first | exact .head | exact .tail .head | exact .tail (.tail .head) | exact .tail (.tail (.tail .head)) | exact .tail (.tail (.tail (.tail .head))) | exact .tail (.tail (.tail (.tail (.tail .head))))) (by repeat constructor)) rfl ?_
          | refine lst_run (run_load1 rfl rfl (by first | assumption | exact hct _ hS | exact hS.cell0 (by assumption) | exact lv_next hS | exact lv_list hS)) rfl ?_
        refine lst_run (run_assign (by conv => lhs; whnf)) rfl ?_
        refine lst_done ?_
        refine goes_seq ?_
        refine goes_region ?_
        refine lst_run (run_move (by conv => lhs; whnf)) rfl ?_
        first
          | refine lst_run (run_lss_yes rfl rfl (by omega)) rfl ?_
          | refine lst_run (run_lss_no rfl rfl (by omega)) rfl ?_
          | refine lst_run (rfl) rfl ?_
        refine lst_run (run_move (by conv => lhs; whnf)) rfl ?_
        refine lst_guard rfl rfl ?_
        refine lst_run (run_move (by conv => lhs; whnf)) rfl ?_
        refine lst_guard rfl rfl ?_
        refine lst_run (run_move (by conv => lhs; whnf)) rfl ?_
        refine lst_guard rfl rfl ?_
        first
          | refine lst_run (run_geq_yes rfl rfl (by omega)) rfl ?_
          | refine lst_run (run_geq_no rfl rfl (by omega)) rfl ?_
          | refine lst_run (rfl) rfl ?_
        first
          | refine lst_run (run_pick_t rfl (by conv => lhs; whnf)) rfl ?_
          | refine lst_run (run_pick_f rfl (by conv => lhs; whnf)) rfl ?_
        refine lst_run (run_move (by conv => lhs; whnf)) rfl ?_
        refine lst_pass rfl rfl rfl ?_
        refine lst_pass rfl rfl rfl ?_
        refine lst_pass rfl rfl rfl ?_
        refine lst_pass rfl rfl rfl ?_
        refine lst_pass rfl rfl rfl ?_
        refine lst_pass rfl rfl rfl ?_
        refine lst_pass rfl rfl rfl ?_
        first
          | refine lst_run (run_pick_t rfl (by conv => lhs; whnf)) rfl ?_
          | refine lst_run (run_pick_f rfl (by conv => lhs; whnf)) rfl ?_
        refine lst_done ?_
        refine goes_true rfl ?_
        refine goes_seq ?_
        refine goes_region ?_
        refine lst_run (run_assign (by conv => lhs; whnf)) rfl ?_
        refine lst_done ?_
        refine goes_ret1 Try.func42 rfl (by conv => lhs; whnf) ?_
        rw [hgH2, hgt]
        refine ⟨?_, hS.ext.below⟩
        simp [goodTr1, hat_none (L := h.cs) (a := x) (by omega)]
      obtain ⟨y, hy, hgy⟩ := hat_some (L := h.cs) (a := x) (by omega) hx1
      obtain ⟨b2, o2, rfl⟩ := hL.some_ (by omega)
      have hcc : ∀ {H'} w', St [] w H' [HFl h (some ⟨b2, o2, none⟩) c (some ⟨b, o, none⟩) d] w' → _ := fun w' hS => (hS.fact (.head _)).1.cell hgy
      by_cases hk : y.k = 0
      · refine goes_seq ?_
        refine goes_region ?_
        first
          | refine lst_run (run_lss_yes rfl rfl (by omega)) rfl ?_
          | refine lst_run (run_lss_no rfl rfl (by omega)) rfl ?_
          | refine lst_run (rfl) rfl ?_
        refine lst_done ?_
        refine goes_seq ?_
        refine goes_true rfl ?_
        refine goes_skip ?_
        refine goes_seq ?_
        refine goes_block ?_
        refine goes_seq ?_
        refine goes_region ?_
        refine lst_run (run_indexAddr (sz := 1) rfl rfl rfl rfl (by omega) (by omega)) rfl ?_
        first
          | refine lst_run (run_load1_own hS rfl rfl (by first | exact .head | exact .tail .head | exact .tail (.tail .head) | exact .tail (.tail (.tail .head)) | exact .tail (.tail (.tail (.tail .head))) | exact .tail (.tail (.tail (.tail (.tail .head))))) (by repeat constructor)) rfl ?_
          | refine lst_run (run_load1 rfl rfl (by first | assumption | exact hct _ hS | exact (hcc _ hS).1 | exact (hcc _ hS).2.1 | exact (hcc _ hS).2.2 | exact hS.cell0 (by assumption) | exact lv_next hS | exact lv_list hS)) rfl ?_
        refine lst_run (run_assign (by conv => lhs; whnf)) rfl ?_
        refine lst_done ?_
        refine goes_seq ?_
        refine goes_region ?_
        refine lst_run (run_move (by conv => lhs; whnf)) rfl ?_
        first
          | refine lst_run (run_lss_yes rfl rfl (by omega)) rfl ?_
          | refine lst_run (run_lss_no rfl rfl (by omega)) rfl ?_
          | refine lst_run (rfl) rfl ?_
        refine lst_run (run_move (by conv => lhs; whnf)) rfl ?_
        refine lst_guard rfl rfl ?_
        refine lst_run (run_move (by conv => lhs; whnf)) rfl ?_
        refine lst_guard rfl rfl ?_
        refine lst_run (run_move (by conv => lhs; whnf)) rfl ?_
        refine lst_guard rfl rfl ?_
        first
          | refine lst_run (run_geq_yes rfl rfl (by omega)) rfl ?_
          | refine lst_run (run_geq_no rfl rfl (by omega)) rfl ?_
          | refine lst_run (rfl) rfl ?_
        first
          | refine lst_run (run_pick_t rfl (by conv => lhs; whnf)) rfl ?_
          | refine lst_run (run_pick_f rfl (by conv => lhs; whnf)) rfl ?_
        refine lst_run (run_move (by conv => lhs; whnf)) rfl ?_
        refine lst_guard rfl rfl ?_
        refine lst_run (run_fieldAddr (off := 0) rfl rfl) rfl ?_
        refine lst_guard rfl rfl ?_
        first
          | refine lst_run (run_load1_own hS rfl rfl (by first | exact .head | exact .tail .head | exact .tail (.tail .head) | exact .tail (.tail (.tail .head)) | exact .tail (.tail (.tail (.tail .head))) | exact .tail (.tail (.tail (.tail (.tail .head))))) (by repeat constructor)) rfl ?_
          | refine lst_run (run_load1 rfl rfl (by first | assumption | exact hct _ hS | exact (hcc _ hS).1 | exact (hcc _ hS).2.1 | exact (hcc _ hS).2.2 | exact hS.cell0 (by assumption) | exact lv_next hS | exact lv_list hS)) rfl ?_
        refine lst_guard rfl rfl ?_
        refine lst_run (run_move (by conv => lhs; whnf)) rfl ?_
        refine lst_guard rfl rfl ?_
        refine lst_run (run_indexAddr (sz := 3) rfl rfl rfl rfl (by omega) (by omega)) rfl ?_
        refine lst_guard rfl rfl ?_
        refine lst_run (run_fieldAddr (off := 0) rfl rfl) rfl ?_
        refine lst_guard rfl rfl ?_
        first
          | refine lst_run (run_load1_own hS rfl rfl (by first | exact .head | exact .tail .head | exact .tail (.tail .head) | exact .tail (.tail (.tail .head)) | exact .tail (.tail (.tail (.tail .head))) | exact .tail (.tail (.tail (.tail (.tail .head))))) (by repeat constructor)) rfl ?_
          | refine lst_run (run_load1 rfl rfl (by first | assumption | exact hct _ hS | exact (hcc _ hS).1 | exact (hcc _ hS).2.1 | exact (hcc _ hS).2.2 | exact hS.cell0 (by assumption) | exact lv_next hS | exact lv_list hS)) rfl ?_
        refine lst_guard rfl rfl ?_
        first
          | refine lst_run (run_neq_one_int rfl rfl) rfl ?_
          | refine lst_run (run_neq_no rfl rfl (by first | assumption | omega)) rfl ?_
          | refine lst_run (run_neq_yes rfl rfl (by omega)) rfl ?_
          | refine lst_run (rfl) rfl ?_
        first
          | refine lst_run (run_pick_t rfl (by conv => lhs; whnf)) rfl ?_
          | refine lst_run (run_pick_f rfl (by conv => lhs; whnf)) rfl ?_
        refine lst_done ?_
        refine goes_false rfl ?_
        refine goes_skip ?_
        refine goes_inBlock ?_
        refine goes_region ?_
        refine lst_run (run_add rfl rfl (by omega) (by omega)) rfl ?_
        refine lst_run (run_move (by conv => lhs; whnf)) rfl ?_
        refine lst_done ?_
        refine ih (R) _ _ _ ?_ ?_ (by conv => lhs; whnf) (by kernel_rfl)
        · simp
        · refine ⟨E ++ [x], by rw [hE]; simp, by simp, ?_, hS⟩
          rw [hgt]; simp [goodTr1, hy, hk]
      · refine goes_seq ?_
        refine goes_region ?_
        first
          | refine lst_run (run_lss_yes rfl rfl (by omega)) rfl ?_
          | refine lst_run (run_lss_no rfl rfl (by omega)) rfl ?_
          | refine lst_run (rfl) rfl ?_
        refine lst_done ?_
        refine goes_seq ?_
        refine goes_true rfl ?_
        refine goes_skip ?_
        refine goes_seq ?_
        refine goes_block ?_
        refine goes_seq ?_
        refine goes_region ?_
        refine lst_run (run_indexAddr (sz := 1) rfl rfl rfl rfl (by omega) (by omega)) rfl ?_
        first
          | refine lst_run (run_load1_own hS rfl rfl (by first | exact .head | exact .tail .head | exact .tail (.tail .head) | exact .tail (.tail (.tail .head)) | exact .tail (.tail (.tail (.tail .head))) | exact .tail (.tail (.tail (.tail (.tail .head))))) (by repeat constructor)) rfl ?_
          | refine lst_run (run_load1 rfl rfl (by first | assumption | exact hct _ hS | exact (hcc _ hS).1 | exact (hcc _ hS).2.1 | exact (hcc _ hS).2.2 | exact hS.cell0 (by assumption) | exact lv_next hS | exact lv_list hS)) rfl ?_
        refine lst_run (run_assign (by conv => lhs; whnf)) rfl ?_
        refine lst_done ?_
        refine goes_seq ?_
        refine goes_region ?_
        refine lst_run (run_move (by conv => lhs; whnf)) rfl ?_
        first
          | refine lst_run (run_lss_yes rfl rfl (by omega)) rfl ?_
          | refine lst_run (run_lss_no rfl rfl (by omega)) rfl ?_
          | refine lst_run (rfl) rfl ?_
        refine lst_run (run_move (by conv => lhs; whnf)) rfl ?_
        refine lst_guard rfl rfl ?_
        refine lst_run (run_move (by conv => lhs; whnf)) rfl ?_
        refine lst_guard rfl rfl ?_
        refine lst_run (run_move (by conv => lhs; whnf)) rfl ?_
        refine lst_guard rfl rfl ?_
        first
          | refine lst_run (run_geq_yes rfl rfl (by omega)) rfl ?_
          | refine lst_run (run_geq_no rfl rfl (by omega)) rfl ?_
          | refine lst_run (rfl) rfl ?_
        first
          | refine lst_run (run_pick_t rfl (by conv => lhs; whnf)) rfl ?_
          | refine lst_run (run_pick_f rfl (by conv => lhs; whnf)) rfl ?_
        refine lst_run (run_move (by conv => lhs; whnf)) rfl ?_
        refine lst_guard rfl rfl ?_
        refine lst_run (run_fieldAddr (off := 0) rfl rfl) rfl ?_
        refine lst_guard rfl rfl ?_
        first
          | refine lst_run (run_load1_own hS rfl rfl (by first | exact .head | exact .tail .head | exact .tail (.tail .head) | exact .tail (.tail (.tail .head)) | exact .tail (.tail (.tail (.tail .head))) | exact .tail (.tail (.tail (.tail (.tail .head))))) (by repeat constructor)) rfl ?_
          | refine lst_run (run_load1 rfl rfl (by first | assumption | exact hct _ hS | exact (hcc _ hS).1 | exact (hcc _ hS).2.1 | exact (hcc _ hS).2.2 | exact hS.cell0 (by assumption) | exact lv_next hS | exact lv_list hS)) rfl ?_
        refine lst_guard rfl rfl ?_
        refine lst_run (run_move (by conv => lhs; whnf)) rfl ?_
        refine lst_guard rfl rfl ?_
        refine lst_run (run_indexAddr (sz := 3) rfl rfl rfl rfl (by omega) (by omega)) rfl ?_
        refine lst_guard rfl rfl ?_
        refine lst_run (run_fieldAddr (off := 0) rfl rfl) rfl ?_
        refine lst_guard rfl rfl ?_
        first
          | refine lst_run (run_load1_own hS rfl rfl (by first | exact .head | exact .tail .head | exact .tail (.tail .head) | exact .tail (.tail (.tail .head)) | exact .tail (.tail (.tail (.tail .head))) | exact .tail (.tail (.tail (.tail (.tail .head))))) (by repeat constructor)) rfl ?_
          | refine lst_run (run_load1 rfl rfl (by first | assumption | exact hct _ hS | exact (hcc _ hS).1 | exact (hcc _ hS).2.1 | exact (hcc _ hS).2.2 | exact hS.cell0 (by assumption) | exact lv_next hS | exact lv_list hS)) rfl ?_
        refine lst_guard rfl rfl ?_
        first
          | refine lst_run (run_neq_one_int rfl rfl) rfl ?_
          | refine lst_run (run_neq_no rfl rfl (by first | assumption | omega)) rfl ?_
          | refine lst_run (run_neq_yes rfl rfl (by omega)) rfl ?_
          | refine lst_run (rfl) rfl ?_
        first
          | refine lst_run (run_pick_t rfl (by conv => lhs; whnf)) rfl ?_
          | refine lst_run (run_pick_f rfl (by conv => lhs; whnf)) rfl ?_
        refine lst_done ?_
        refine goes_true rfl ?_
        refine goes_seq ?_
        refine goes_region ?_
        refine lst_run (run_assign (by conv => lhs; whnf)) rfl ?_
        refine lst_done ?_
        refine goes_ret1 Try.func42 rfl (by conv => lhs; whnf) ?_
        rw [hgH2, hgt]
        refine ⟨?_, hS.ext.below⟩
        simp [goodTr1, hy, hk]
end Go.Proofs.Ytjicoifjgokoiab
