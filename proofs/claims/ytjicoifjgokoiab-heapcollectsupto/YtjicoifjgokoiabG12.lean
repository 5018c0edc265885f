/- LCollects, Open, HOpen: texts that follow one another, laid into one file. -/
import Derived.Test.YtjicoifjgokoiabG6
import Derived.Test.YtjicoifjgokoiabG11
import Derived.Test.YtjicoifjgokoiabG1
import Derived.Test.YtjicoifjgokoiabRows
import Derived.Deep.Slices
import Derived.Deep.Fields
import Derived.JoinedCond
import Derived.OpenShut
namespace Go.Proofs.Ytjicoifjgokoiab
open Go.RowKit
set_option linter.unusedVariables false
set_option linter.unusedSimpArgs false
set_option maxRecDepth 100000
set_option maxHeartbeats 1000000

theorem kept_le {α : Type} (T : List α) : ∀ (m : List Bool), (kept T m).length ≤ T.length := by
  induction T with
  | nil => intro m; simp [kept]
  | cons y T ih =>
    intro m
    cases m with
    | nil => simp [kept]
    | cons b m =>
      simp only [kept]
      have := ih m
      split <;> simp <;> omega
theorem collectH_len (h : HH) (R T K : List Int) : (collectH h R T K).1.cs.length ≤ h.cs.length ∧ (collectH h R T K).1.tr.length ≤ h.tr.length ∧ (collectH h R T K).2.1.length ≤ R.length ∧ (collectH h R T K).2.2.1.length ≤ T.length ∧ (collectH h R T K).2.2.2.1.length ≤ K.length := by
  unfold collectH
  split
  · exact ⟨by simp, by simp, by simp, by simp, by simp⟩
  · split
    · exact ⟨by simp, by simp, by simp, by simp, by simp⟩
    · refine ⟨?_, ?_, by simp, by simp, by simp⟩
      · dsimp only; unfold collL; rw [List.length_map]; exact kept_le _ _
      · dsimp only; unfold collT; rw [List.length_map]; exact kept_le _ _
theorem marksH_len (h : HH) (R : List Int) : (marksH h R).1.length ≤ h.cs.length := by
  unfold marksH
  split
  · simp
  · exact Nat.le_of_eq (marksM_of h.cs R).1
theorem heapCollects_any (h : HH) (R T K : List Int) (A B RA TA KA : Option Addr) (c d rc tc kc : Nat) (w : World) (hH : HFl h A c B d w) (hR : Flat 1 (intsV R) RA R.length rc w) (hT : Flat 1 (intsV T) TA T.length tc w) (hK : Flat 1 (intsV K) KA K.length kc w) (hl1 : h.cs.length ≤ 1048576) (hl2 : h.tr.length ≤ 1048576) (hRl : R.length ≤ 1048576) (hTl : T.length ≤ 1048576) (hKl : K.length ≤ 1048576) :
    Calls Try.prog 6 #[hv h A c B d, .slice RA R.length rc, .slice TA T.length tc, .slice KA K.length kc] w fun e w' => e = .returned (.bool true) ∧ Below w.heap.size w w' := by
  have hS := ((((St.start w).base (φ := HFl h A c B d) fun w' hx => hH.ext hx).flat (M := []) hR).flat (M := []) hT).flat (M := []) hK
  have hHu : Und [Flat 1 (intsV K) KA K.length kc, Flat 1 (intsV T) TA T.length tc, Flat 1 (intsV R) RA R.length rc, HFl h A c B d] (HFl h A c B d) := Und.head.tail.tail.tail
  have hRu : Und [Flat 1 (intsV K) KA K.length kc, Flat 1 (intsV T) TA T.length tc, Flat 1 (intsV R) RA R.length rc, HFl h A c B d] (Flat 1 (intsV R) RA R.length rc) := Und.head.tail.tail
  have hTu : Und [Flat 1 (intsV K) KA K.length kc, Flat 1 (intsV T) TA T.length tc, Flat 1 (intsV R) RA R.length rc, HFl h A c B d] (Flat 1 (intsV T) TA T.length tc) := Und.head.tail
  have hKu : Und [Flat 1 (intsV K) KA K.length kc, Flat 1 (intsV T) TA T.length tc, Flat 1 (intsV R) RA R.length rc, HFl h A c B d] (Flat 1 (intsV K) KA K.length kc) := Und.head
  generalize [Flat 1 (intsV K) KA K.length kc, Flat 1 (intsV T) TA T.length tc, Flat 1 (intsV R) RA R.length rc, HFl h A c B d] = F at *
  have hcl := collectH_len h R T K
  have hmk := marksH_len h R
  refine goes_enter4 Try.func6 rfl Try.ntmps6 rfl ?_
  refine goes_seq ?_
  refine goes_region ?_
  refine lst_box hS rfl rfl ?_
  clear hS
  intro b1 wx1 hS
  refine lst_run (run_assign (by conv => lhs; whnf)) rfl ?_
  refine lst_done ?_
  refine goes_seq ?_
  refine goes_region ?_
  first
    | refine lst_run (run_loadN_own (k := 2) hS rfl rfl rfl (by first | exact .head | exact .tail .head | exact .tail (.tail .head) | exact .tail (.tail (.tail .head)) | exact .tail (.tail (.tail (.tail .head))) | exact .tail (.tail (.tail (.tail (.tail .head))))) (by repeat constructor)) rfl ?_
    | refine lst_run (run_load2 rfl rfl rfl (by first | assumption | exact hS.cell0 (by assumption)) (by first | assumption | exact hS.cell0 (by assumption))) rfl ?_
  refine lst_enter (run_call (by kernel_rfl) (args_1 (by conv => lhs; whnf))) rfl ?_
  refine Calls.mono (copyHeap_kept h A B c d _ hHu (by omega) (by omega) hS) ?_
  rintro _ w2 ⟨A3, c3, B3, d3, F3, rfl, hF3, hH3, hS'⟩
  refine ⟨_, rfl, ?_⟩
  replace hS := hS'
  clear hS'
  refine lst_alloc (cs := [_, _]) hS rfl rfl rfl ?_
  clear hS
  intro b2 wx2 hS
  refine lst_storeN hS rfl (by conv => lhs; whnf) rfl rfl (by first | exact .head | exact .tail .head | exact .tail (.tail .head) | exact .tail (.tail (.tail .head)) | exact .tail (.tail (.tail (.tail .head))) | exact .tail (.tail (.tail (.tail (.tail .head))))) (by repeat constructor) (by first | exact .head | exact .tail .head | exact .tail (.tail .head) | exact .tail (.tail (.tail .head)) | exact .tail (.tail (.tail (.tail .head))) | exact .tail (.tail (.tail (.tail (.tail .head))))) ?_
  clear hS
  intro wx3 hS
  refine lst_done ?_
  refine goes_seq ?_
  refine goes_region ?_
  refine lst_run (run_move (by conv => lhs; whnf)) rfl ?_
  refine lst_appI (xs := []) (O := []) hS (by conv => lhs; whnf) (by conv => lhs; whnf) rfl rfl rfl (hS.und (hRu.mono hF3)) Rw.zero_ (.refl _) (by omega) rfl ?_
  clear hS
  intro v4 O4 w4 hrow4 hS
  rw [Nat.zero_add, List.nil_append] at hrow4
  obtain ⟨A4, c4, rfl, _⟩ := hrow4.form
  replace hS := St.freezeR hrow4 hS
  refine lst_run (run_assign (by conv => lhs; whnf)) rfl ?_
  refine lst_done ?_
  refine goes_seq ?_
  refine goes_region ?_
  first
    | refine lst_run (run_loadN_own (k := 2) hS rfl rfl rfl (by first | exact .head | exact .tail .head | exact .tail (.tail .head) | exact .tail (.tail (.tail .head)) | exact .tail (.tail (.tail (.tail .head))) | exact .tail (.tail (.tail (.tail (.tail .head))))) (by repeat constructor)) rfl ?_
    | refine lst_run (run_load2 rfl rfl rfl (by first | assumption | exact hS.cell0 (by assumption)) (by first | assumption | exact hS.cell0 (by assumption))) rfl ?_
  refine lst_run (run_move (by conv => lhs; whnf)) rfl ?_
  have hO4 : Und (Flat 1 (intsV R) A4 R.length c4 :: F3) (Flat 1 (intsV R) A4 R.length c4) := Und.head
  have hf4 : ∀ φ ∈ F3, φ ∈ (Flat 1 (intsV R) A4 R.length c4 :: F3) := fun φ h => .tail _ h
  generalize (Flat 1 (intsV R) A4 R.length c4 :: F3) = F4 at *
  refine lst_enter (run_call (by kernel_rfl) (args_2 (by conv => lhs; whnf) (by conv => lhs; whnf))) rfl ?_
  refine Calls.mono (marks_any h R A3 B3 A4 c3 d3 c4 _ (hH3.mono hf4) hO4 (by omega) hS) ?_
  rintro _ w5 ⟨A5, c5, F5, rfl, hF5, hM5, hS'⟩
  refine ⟨_, rfl, ?_⟩
  replace hS := hS'
  clear hS'
  have hf5 : ∀ φ ∈ F, φ ∈ F5 := fun φ h => hF5 φ (hf4 φ (hF3 φ h))
  refine lst_run (run_move (by conv => lhs; whnf)) rfl ?_
  refine lst_run (run_extract rfl rfl) rfl ?_
  refine lst_run (run_extract rfl rfl) rfl ?_
  refine lst_run (run_assign (by conv => lhs; whnf)) rfl ?_
  refine lst_run (run_assign (by conv => lhs; whnf)) rfl ?_
  refine lst_done ?_
  refine goes_seq ?_
  refine goes_region ?_
  first
    | refine lst_run (run_loadN_own (k := 2) hS rfl rfl rfl (by first | exact .head | exact .tail .head | exact .tail (.tail .head) | exact .tail (.tail (.tail .head)) | exact .tail (.tail (.tail (.tail .head))) | exact .tail (.tail (.tail (.tail (.tail .head))))) (by repeat constructor)) rfl ?_
    | refine lst_run (run_load2 rfl rfl rfl (by first | assumption | exact hS.cell0 (by assumption)) (by first | assumption | exact hS.cell0 (by assumption))) rfl ?_
  refine lst_run (run_move (by conv => lhs; whnf)) rfl ?_
  refine lst_enter (run_call (by kernel_rfl) (args_2 (by conv => lhs; whnf) (by conv => lhs; whnf))) rfl ?_
  refine Calls.mono (marksOf_any h R A B RA c d rc _ (hHu.mono hf5) (hRu.mono hf5) (by omega) hS) ?_
  rintro _ w6 ⟨A6, c6, F6, rfl, hF6, hM6, hS'⟩
  refine ⟨_, rfl, ?_⟩
  replace hS := hS'
  clear hS'
  have hM56 := hM5.mono hF6
  generalize hmr : marksH h R = mr at *
  obtain ⟨Mk, me⟩ := mr
  dsimp only at *
  have hf6 : ∀ φ ∈ F, φ ∈ F6 := fun φ h => hF6 φ (hf5 φ h)
  refine lst_run (run_move (by conv => lhs; whnf)) rfl ?_
  refine lst_run (run_extract rfl rfl) rfl ?_
  refine lst_run (run_extract rfl rfl) rfl ?_
  refine lst_run (run_assign (by conv => lhs; whnf)) rfl ?_
  refine lst_run (run_assign (by conv => lhs; whnf)) rfl ?_
  refine lst_done ?_
  refine goes_seq ?_
  refine goes_seq ?_
  refine goes_region ?_
  refine lst_run (run_move (by conv => lhs; whnf)) rfl ?_
  refine lst_run (run_len_slice rfl rfl rfl) rfl ?_
  refine lst_run (run_move (by conv => lhs; whnf)) rfl ?_
  refine lst_run (run_len_slice rfl rfl rfl) rfl ?_
  first
    | refine lst_run (run_neq_one_int rfl rfl) rfl ?_
    | refine lst_run (run_neq_no rfl rfl (by first | assumption | omega)) rfl ?_
    | refine lst_run (run_neq_yes rfl rfl (by omega)) rfl ?_
    | refine lst_run (rfl) rfl ?_
  refine lst_run (run_move (by conv => lhs; whnf)) rfl ?_
  refine lst_guard rfl rfl ?_
  refine lst_run (run_move (by conv => lhs; whnf)) rfl ?_
  refine lst_guard rfl rfl ?_
  refine lst_run (run_move (by conv => lhs; whnf)) rfl ?_
  refine lst_guard rfl rfl ?_
  first
    | refine lst_run (run_neq_one_int rfl rfl) rfl ?_
    | refine lst_run (run_neq_no rfl rfl (by first | assumption | omega)) rfl ?_
    | refine lst_run (run_neq_yes rfl rfl (by omega)) rfl ?_
    | refine lst_run (rfl) rfl ?_
  first
    | refine lst_run (run_pick_t rfl (by conv => lhs; whnf)) rfl ?_
    | refine lst_run (run_pick_f rfl (by conv => lhs; whnf)) rfl ?_
  refine lst_done ?_
  refine goes_false rfl ?_
  refine goes_skip ?_
  refine goes_seq ?_
  refine goes_seq ?_
  refine goes_region ?_
  refine lst_run (run_move (by conv => lhs; whnf)) rfl ?_
  refine lst_run (run_len_slice rfl rfl rfl) rfl ?_
  refine lst_run (run_move (by conv => lhs; whnf)) rfl ?_
  refine lst_done ?_
  refine goes_block ?_
  refine goes_loop1 52 (53 :: 54 :: 15 :: 55 :: 56 :: 57 :: 58 :: 59 :: 60 :: 61 :: 62 :: 63 :: 8 :: 64 :: []) (fun (Q : List Bool) v w' => ∃ D : List Bool, Mk = D ++ Q ∧ v = .int .i64 (D.length : Nat) ∧ St [] w ((b2, hob A3 h.cs.length c3 B3 h.tr.length d3) :: (b1, hob A h.cs.length c B h.tr.length d) :: []) F6 w') (fun Q => Q.length) (Mk) ?_ (by conv => lhs; whnf) ?_
  · exact ⟨[], rfl, rfl, hS⟩
  clear hS
  rintro Q _ w7 jv ⟨D, hD, rfl, hS⟩ ih
  have hlen : Mk.length = D.length + Q.length := by rw [hD]; simp
  cases Q with
  | cons x Q =>
    simp only [List.length_cons] at hlen
    have hxi : Mk[D.length]? = some x := by rw [hD]; simp
    obtain ⟨bt, ot, rfl⟩ := (hS.und hM56).some_ (by omega)
    obtain ⟨bu, ou, rfl⟩ := (hS.und hM6).some_ (by omega)
    have hct : ∀ {H'} w', St [] w H' F6 w' → w'.cell? ⟨bt, ot + ((D.length : Nat) : Int).toNat * 1, none⟩ = some (.bool x) := fun w' hS => by
      have := (hS.und hM56).bool hxi
      rw [show ((D.length : Nat) : Int).toNat = D.length by omega]; exact this
    have hcu : ∀ {H'} w', St [] w H' F6 w' → w'.cell? ⟨bu, ou + ((D.length : Nat) : Int).toNat * 1, none⟩ = some (.bool x) := fun w' hS => by
      have := (hS.und hM6).bool hxi
      rw [show ((D.length : Nat) : Int).toNat = D.length by omega]; exact this
    cases x with
    | true =>
      refine goes_seq ?_
      refine goes_region ?_
      first
        | refine lst_run (run_lss_yes rfl rfl (by omega)) rfl ?_
        | refine lst_run (run_lss_no rfl rfl (by omega)) rfl ?_
        | refine lst_run (rfl) rfl ?_
      refine lst_done ?_
      refine goes_seq ?_
      refine goes_true rfl ?_
      refine goes_skip ?_
      refine goes_seq ?_
      refine goes_block ?_
      refine goes_seq ?_
      refine goes_region ?_
      refine lst_run (run_move (by conv => lhs; whnf)) rfl ?_
      refine lst_run (run_assign (by conv => lhs; whnf)) rfl ?_
      refine lst_done ?_
      refine goes_seq ?_
      refine goes_draw (St _ _ _ _) 9 ((0, true) :: (1, true) :: (2, true) :: (3, true) :: (4, true) :: (5, true) :: (6, true) :: (7, true) :: (8, true) :: []) (by kernel_rfl) (by kernel_rfl) (hS.drew) ?_
      replace hS := hS.drew
      refine ord_read rfl (fun _ hS => run_move (by conv => lhs; whnf)) rfl ?_
      refine ord_read rfl (fun _ hS => run_move (by conv => lhs; whnf)) rfl ?_
      refine ord_read rfl (fun _ hS => run_indexAddr (sz := 1) rfl rfl rfl rfl (by omega) (by omega)) rfl ?_
      first
        | refine ord_read rfl (fun _ hS => run_load1_own hS rfl rfl (by first | exact .head | exact .tail .head | exact .tail (.tail .head) | exact .tail (.tail (.tail .head)) | exact .tail (.tail (.tail (.tail .head))) | exact .tail (.tail (.tail (.tail (.tail .head))))) (by repeat constructor)) rfl ?_
        | refine ord_read rfl (fun _ hS => run_load1 rfl rfl (by first | assumption | exact hct _ hS | exact hcu _ hS | exact hS.cell0 (by assumption) | exact lv_next hS | exact lv_list hS)) rfl ?_
      refine ord_read rfl (fun _ hS => run_move (by conv => lhs; whnf)) rfl ?_
      refine ord_read rfl (fun _ hS => run_move (by conv => lhs; whnf)) rfl ?_
      refine ord_read rfl (fun _ hS => run_indexAddr (sz := 1) rfl rfl rfl rfl (by omega) (by omega)) rfl ?_
      first
        | refine ord_read rfl (fun _ hS => run_load1_own hS rfl rfl (by first | exact .head | exact .tail .head | exact .tail (.tail .head) | exact .tail (.tail (.tail .head)) | exact .tail (.tail (.tail (.tail .head))) | exact .tail (.tail (.tail (.tail (.tail .head))))) (by repeat constructor)) rfl ?_
        | refine ord_read rfl (fun _ hS => run_load1 rfl rfl (by first | assumption | exact hct _ hS | exact hcu _ hS | exact hS.cell0 (by assumption) | exact lv_next hS | exact lv_list hS)) rfl ?_
      first
        | refine ord_read rfl (fun _ hS => run_neq_one rfl rfl rfl) rfl ?_
        | refine ord_read rfl (fun _ hS => run_neq_bool rfl rfl rfl) rfl ?_
      refine ord_end ?_
      refine lst_done ?_
      refine goes_false rfl ?_
      refine goes_skip ?_
      refine goes_inBlock ?_
      refine goes_region ?_
      refine lst_run (run_add rfl rfl (by omega) (by omega)) rfl ?_
      refine lst_run (run_move (by conv => lhs; whnf)) rfl ?_
      refine lst_done ?_
      refine ih (Q) _ _ _ ?_ ?_ (by conv => lhs; whnf) (by kernel_rfl)
      · simp
      · exact ⟨D ++ [true], by rw [hD]; simp, by simp, hS⟩
    | false =>
      refine goes_seq ?_
      refine goes_region ?_
      first
        | refine lst_run (run_lss_yes rfl rfl (by omega)) rfl ?_
        | refine lst_run (run_lss_no rfl rfl (by omega)) rfl ?_
        | refine lst_run (rfl) rfl ?_
      refine lst_done ?_
      refine goes_seq ?_
      refine goes_true rfl ?_
      refine goes_skip ?_
      refine goes_seq ?_
      refine goes_block ?_
      refine goes_seq ?_
      refine goes_region ?_
      refine lst_run (run_move (by conv => lhs; whnf)) rfl ?_
      refine lst_run (run_assign (by conv => lhs; whnf)) rfl ?_
      refine lst_done ?_
      refine goes_seq ?_
      refine goes_draw (St _ _ _ _) 9 ((0, true) :: (1, true) :: (2, true) :: (3, true) :: (4, true) :: (5, true) :: (6, true) :: (7, true) :: (8, true) :: []) (by kernel_rfl) (by kernel_rfl) (hS.drew) ?_
      replace hS := hS.drew
      refine ord_read rfl (fun _ hS => run_move (by conv => lhs; whnf)) rfl ?_
      refine ord_read rfl (fun _ hS => run_move (by conv => lhs; whnf)) rfl ?_
      refine ord_read rfl (fun _ hS => run_indexAddr (sz := 1) rfl rfl rfl rfl (by omega) (by omega)) rfl ?_
      first
        | refine ord_read rfl (fun _ hS => run_load1_own hS rfl rfl (by first | exact .head | exact .tail .head | exact .tail (.tail .head) | exact .tail (.tail (.tail .head)) | exact .tail (.tail (.tail (.tail .head))) | exact .tail (.tail (.tail (.tail (.tail .head))))) (by repeat constructor)) rfl ?_
        | refine ord_read rfl (fun _ hS => run_load1 rfl rfl (by first | assumption | exact hct _ hS | exact hcu _ hS | exact hS.cell0 (by assumption) | exact lv_next hS | exact lv_list hS)) rfl ?_
      refine ord_read rfl (fun _ hS => run_move (by conv => lhs; whnf)) rfl ?_
      refine ord_read rfl (fun _ hS => run_move (by conv => lhs; whnf)) rfl ?_
      refine ord_read rfl (fun _ hS => run_indexAddr (sz := 1) rfl rfl rfl rfl (by omega) (by omega)) rfl ?_
      first
        | refine ord_read rfl (fun _ hS => run_load1_own hS rfl rfl (by first | exact .head | exact .tail .head | exact .tail (.tail .head) | exact .tail (.tail (.tail .head)) | exact .tail (.tail (.tail (.tail .head))) | exact .tail (.tail (.tail (.tail (.tail .head))))) (by repeat constructor)) rfl ?_
        | refine ord_read rfl (fun _ hS => run_load1 rfl rfl (by first | assumption | exact hct _ hS | exact hcu _ hS | exact hS.cell0 (by assumption) | exact lv_next hS | exact lv_list hS)) rfl ?_
      first
        | refine ord_read rfl (fun _ hS => run_neq_one rfl rfl rfl) rfl ?_
        | refine ord_read rfl (fun _ hS => run_neq_bool rfl rfl rfl) rfl ?_
      refine ord_end ?_
      refine lst_done ?_
      refine goes_false rfl ?_
      refine goes_skip ?_
      refine goes_inBlock ?_
      refine goes_region ?_
      refine lst_run (run_add rfl rfl (by omega) (by omega)) rfl ?_
      refine lst_run (run_move (by conv => lhs; whnf)) rfl ?_
      refine lst_done ?_
      refine ih (Q) _ _ _ ?_ ?_ (by conv => lhs; whnf) (by kernel_rfl)
      · simp
      · exact ⟨D ++ [false], by rw [hD]; simp, by simp, hS⟩
  | nil =>
    simp only [List.length_nil] at hlen
    have hH36 : Und F6 (HFl h A3 c3 B3 d3) := hH3.mono fun φ h => hF6 φ (hF5 φ (hf4 φ h))
    have hO46 : Und F6 (Flat 1 (intsV R) A4 R.length c4) := hO4.mono fun φ h => hF6 φ (hF5 φ h)
    have hTl6 := hTu.mono hf6
    have hKl6 := hKu.mono hf6
    refine goes_seq ?_
    refine goes_region ?_
    first
      | refine lst_run (run_lss_yes rfl rfl (by omega)) rfl ?_
      | refine lst_run (run_lss_no rfl rfl (by omega)) rfl ?_
      | refine lst_run (rfl) rfl ?_
    refine lst_done ?_
    refine goes_seq ?_
    refine goes_false rfl ?_
    refine goes_exit rfl ?_
    refine goes_seq ?_
    refine goes_meet5 16 17 18 19 12 (66 :: 67 :: 68 :: 69 :: 70 :: 71 :: 72 :: 65 :: 73 :: 74 :: 75 :: 76 :: 77 :: []) (fun v v2 v3 v4 v5 w' => ∃ b3 A9 c9 B9 d9 a1 a2 a3 c91 c92 c93 F9, v = .pointer (some ⟨b3, 0, none⟩) ∧ v2 = .slice a1 (collectH h R T K).2.1.length c91 ∧ v3 = .slice a2 (collectH h R T K).2.2.1.length c92 ∧ v4 = .slice a3 (collectH h R T K).2.2.2.1.length c93 ∧ v5 = .int .i64 (collectH h R T K).2.2.2.2 ∧ (∀ φ ∈ F6, φ ∈ F9) ∧ Und F9 (HFl (collectH h R T K).1 A9 c9 B9 d9) ∧ Und F9 (Flat 1 (intsV (collectH h R T K).2.1) a1 (collectH h R T K).2.1.length c91) ∧ Und F9 (Flat 1 (intsV (collectH h R T K).2.2.1) a2 (collectH h R T K).2.2.1.length c92) ∧ Und F9 (Flat 1 (intsV (collectH h R T K).2.2.2.1) a3 (collectH h R T K).2.2.2.1.length c93) ∧ St [] w ((b3, hob A9 (collectH h R T K).1.cs.length c9 B9 (collectH h R T K).1.tr.length d9) :: (b2, hob A3 h.cs.length c3 B3 h.tr.length d3) :: (b1, hob A h.cs.length c B h.tr.length d) :: []) F9 w') ?_ ?_
    · intro hmeet
      refine goes_plan (St _ _ _ _) 19 (.read 0 (.read 1 (.read 2 (.read 4 (.pick 3 (.pick 5 (.pick 6 (.read 7 (.read 8 (.read 9 (.read 10 (.read 11 (.read 12 (.pick 13 (.pick 14 (.read 15 (.read 16 (.read 17 (.read 18 .tail)))) .none) .none))))))) (.pick 13 (.pick 6 (.read 7 (.read 8 (.read 9 (.read 10 (.read 11 (.read 12 (.pick 14 (.read 15 (.read 16 (.read 17 (.read 18 .tail)))) .none))))))) .none) .none)) (.pick 13 (.pick 5 (.pick 6 (.read 7 (.read 8 (.read 9 (.read 10 (.read 11 (.read 12 (.pick 14 (.read 15 (.read 16 (.read 17 (.read 18 .tail)))) .none))))))) .none) .none) .none)) (.pick 13 (.pick 3 (.pick 5 (.pick 6 (.read 7 (.read 8 (.read 9 (.read 10 (.read 11 (.read 12 (.pick 14 (.read 15 (.read 16 (.read 17 (.read 18 .tail)))) .none))))))) .none) .none) .none) .none)))))) (by kernel_rfl) (by kernel_rfl) hS.drew ?_
      replace hS := hS.drew
      first
        | refine pln_read rfl (fun _ hS => run_loadN_own (k := 2) hS rfl rfl rfl (by first | exact .head | exact .tail .head | exact .tail (.tail .head) | exact .tail (.tail (.tail .head)) | exact .tail (.tail (.tail (.tail .head))) | exact .tail (.tail (.tail (.tail (.tail .head))))) (by repeat constructor)) rfl ?_
        | refine pln_read rfl (fun _ hS => run_load2 rfl rfl rfl (by first | assumption | exact hct _ hS | exact hcu _ hS | exact hS.cell0 (by assumption)) (by first | assumption | exact hct _ hS | exact hcu _ hS | exact hS.cell0 (by assumption))) rfl ?_
      refine pln_read rfl (fun _ hS => run_move (by conv => lhs; whnf)) rfl ?_
      refine pln_read rfl (fun _ hS => run_move (by conv => lhs; whnf)) rfl ?_
      refine pln_read rfl (fun _ hS => run_move (by conv => lhs; whnf)) rfl ?_
      refine pln_pick rfl ?_ ?_
      · refine lst_appI (xs := []) (O := []) hS (by conv => lhs; whnf) (by conv => lhs; whnf) rfl rfl rfl (hS.und hTl6) Rw.zero_ (.refl _) (by omega) rfl ?_
        clear hS
        intro v7 O7 w7 hrow7 hS
        rw [Nat.zero_add, List.nil_append] at hrow7
        obtain ⟨A7, c7, rfl, _⟩ := hrow7.form
        replace hS := St.freezeR hrow7 hS
        refine lst_pln (by first | exact hS | exact hS.drop | exact hS.drop.drop | exact hS.drop.drop.drop | exact hS.unlearn | exact hS.unlearn.drop | exact hS.unlearn.drop.drop | exact hS.forget (fun φ h => hF9 φ (.tail _ (.tail _ h))) | exact hS.drop.forget (fun φ h => hF9 φ (.tail _ (.tail _ h))) | exact hS.unlearn.unlearn | exact hS.unlearn.unlearn.drop) ?_
        refine pln_pick rfl ?_ ?_
        · refine lst_appI (xs := []) (O := []) hS (by conv => lhs; whnf) (by conv => lhs; whnf) rfl rfl rfl (hS.und hKl6.tail) Rw.zero_ (.refl _) (by omega) rfl ?_
          clear hS
          intro v8 O8 w8 hrow8 hS
          rw [Nat.zero_add, List.nil_append] at hrow8
          obtain ⟨A8, c8, rfl, _⟩ := hrow8.form
          replace hS := St.freezeR hrow8 hS
          refine lst_pln (by first | exact hS | exact hS.drop | exact hS.drop.drop | exact hS.drop.drop.drop | exact hS.unlearn | exact hS.unlearn.drop | exact hS.unlearn.drop.drop | exact hS.forget (fun φ h => hF9 φ (.tail _ (.tail _ h))) | exact hS.drop.forget (fun φ h => hF9 φ (.tail _ (.tail _ h))) | exact hS.unlearn.unlearn | exact hS.unlearn.unlearn.drop) ?_
          refine pln_pick rfl ?_ ?_
          · refine lst_enter (run_call (by kernel_rfl) (args_4 (by conv => lhs; whnf) (by conv => lhs; whnf) (by conv => lhs; whnf) (by conv => lhs; whnf))) rfl ?_
            refine Calls.mono (collect_any h R T K A3 B3 A4 A7 A8 c3 d3 c4 c7 c8 _ hH36.tail.tail hO46.tail.tail Und.head.tail Und.head hRl hTl hKl hS) ?_
            rintro _ w9 ⟨A9, c9, B9, d9, a1, a2, a3, c91, c92, c93, F9, rfl, hF9, hH9, hP1, hP2, hP3, hS'⟩
            refine ⟨_, rfl, ?_⟩
            replace hS := hS'
            clear hS'
            refine lst_pln (by first | exact hS | exact hS.drop | exact hS.drop.drop | exact hS.drop.drop.drop | exact hS.unlearn | exact hS.unlearn.drop | exact hS.unlearn.drop.drop | exact hS.forget (fun φ h => hF9 φ (.tail _ (.tail _ h))) | exact hS.drop.forget (fun φ h => hF9 φ (.tail _ (.tail _ h))) | exact hS.unlearn.unlearn | exact hS.unlearn.unlearn.drop) ?_
            refine pln_read rfl (fun _ hS => run_move (by conv => lhs; whnf)) rfl ?_
            refine pln_read rfl (fun _ hS => run_extract rfl rfl) rfl ?_
            refine pln_read rfl (fun _ hS => run_extract rfl rfl) rfl ?_
            refine pln_read rfl (fun _ hS => run_extract rfl rfl) rfl ?_
            refine pln_read rfl (fun _ hS => run_extract rfl rfl) rfl ?_
            refine pln_read rfl (fun _ hS => run_extract rfl rfl) rfl ?_
            refine pln_last rfl ?_
            refine lst_alloc (cs := [_, _]) hS rfl rfl rfl ?_
            clear hS
            intro b3 wx4 hS
            refine lst_pln (by first | exact hS | exact hS.drop | exact hS.drop.drop | exact hS.drop.drop.drop | exact hS.unlearn | exact hS.unlearn.drop | exact hS.unlearn.drop.drop | exact hS.forget (fun φ h => hF9 φ (.tail _ (.tail _ h))) | exact hS.drop.forget (fun φ h => hF9 φ (.tail _ (.tail _ h))) | exact hS.unlearn.unlearn | exact hS.unlearn.unlearn.drop) ?_
            refine pln_last rfl ?_
            refine lst_storeN hS rfl (by conv => lhs; whnf) rfl rfl (by first | exact .head | exact .tail .head | exact .tail (.tail .head) | exact .tail (.tail (.tail .head)) | exact .tail (.tail (.tail (.tail .head))) | exact .tail (.tail (.tail (.tail (.tail .head))))) (by repeat constructor) (by first | exact .head | exact .tail .head | exact .tail (.tail .head) | exact .tail (.tail (.tail .head)) | exact .tail (.tail (.tail (.tail .head))) | exact .tail (.tail (.tail (.tail (.tail .head))))) ?_
            clear hS
            intro wx5 hS
            refine lst_pln (by first | exact hS | exact hS.drop | exact hS.drop.drop | exact hS.drop.drop.drop | exact hS.unlearn | exact hS.unlearn.drop | exact hS.unlearn.drop.drop | exact hS.forget (fun φ h => hF9 φ (.tail _ (.tail _ h))) | exact hS.drop.forget (fun φ h => hF9 φ (.tail _ (.tail _ h))) | exact hS.unlearn.unlearn | exact hS.unlearn.unlearn.drop) ?_
            refine pln_read rfl (fun _ hS => run_assign (by conv => lhs; whnf)) rfl ?_
            refine pln_read rfl (fun _ hS => run_assign (by conv => lhs; whnf)) rfl ?_
            refine pln_read rfl (fun _ hS => run_assign (by conv => lhs; whnf)) rfl ?_
            refine pln_read rfl (fun _ hS => run_assign (by conv => lhs; whnf)) rfl ?_
            refine pln_tail ?_
            refine lst_done ?_
            exact hmeet _ _ _ _ _ _ _ ⟨_, A9, c9, B9, d9, a1, a2, a3, c91, c92, c93, F9, rfl, rfl, rfl, rfl, rfl, fun φ h => hF9 φ (.tail _ (.tail _ h)), hH9, hP1, hP2, hP3, hS⟩ (by conv => lhs; whnf) (by conv => lhs; whnf) (by conv => lhs; whnf) (by conv => lhs; whnf) (by conv => lhs; whnf) (by kernel_rfl)
          refine pln_last rfl ?_
          refine lst_alloc (cs := [_, _]) hS rfl rfl rfl ?_
          clear hS
          intro b4 wx6 hS
          refine lst_pln (by first | exact hS | exact hS.drop | exact hS.drop.drop | exact hS.drop.drop.drop | exact hS.unlearn | exact hS.unlearn.drop | exact hS.unlearn.drop.drop | exact hS.forget (fun φ h => hF9 φ (.tail _ (.tail _ h))) | exact hS.drop.forget (fun φ h => hF9 φ (.tail _ (.tail _ h))) | exact hS.unlearn.unlearn | exact hS.unlearn.unlearn.drop) ?_
          refine pln_last rfl ?_
          refine lst_enter (run_call (by kernel_rfl) (args_4 (by conv => lhs; whnf) (by conv => lhs; whnf) (by conv => lhs; whnf) (by conv => lhs; whnf))) rfl ?_
          refine Calls.mono (collect_any h R T K A3 B3 A4 A7 A8 c3 d3 c4 c7 c8 _ hH36.tail.tail hO46.tail.tail Und.head.tail Und.head hRl hTl hKl hS) ?_
          rintro _ w9 ⟨A9, c9, B9, d9, a1, a2, a3, c91, c92, c93, F9, rfl, hF9, hH9, hP1, hP2, hP3, hS'⟩
          refine ⟨_, rfl, ?_⟩
          replace hS := hS'
          clear hS'
          refine lst_pln (by first | exact hS | exact hS.drop | exact hS.drop.drop | exact hS.drop.drop.drop | exact hS.unlearn | exact hS.unlearn.drop | exact hS.unlearn.drop.drop | exact hS.forget (fun φ h => hF9 φ (.tail _ (.tail _ h))) | exact hS.drop.forget (fun φ h => hF9 φ (.tail _ (.tail _ h))) | exact hS.unlearn.unlearn | exact hS.unlearn.unlearn.drop) ?_
          refine pln_read rfl (fun _ hS => run_move (by conv => lhs; whnf)) rfl ?_
          refine pln_read rfl (fun _ hS => run_extract rfl rfl) rfl ?_
          refine pln_read rfl (fun _ hS => run_extract rfl rfl) rfl ?_
          refine pln_read rfl (fun _ hS => run_extract rfl rfl) rfl ?_
          refine pln_read rfl (fun _ hS => run_extract rfl rfl) rfl ?_
          refine pln_read rfl (fun _ hS => run_extract rfl rfl) rfl ?_
          refine pln_last rfl ?_
          refine lst_storeN hS rfl (by conv => lhs; whnf) rfl rfl (by first | exact .head | exact .tail .head | exact .tail (.tail .head) | exact .tail (.tail (.tail .head)) | exact .tail (.tail (.tail (.tail .head))) | exact .tail (.tail (.tail (.tail (.tail .head))))) (by repeat constructor) (by first | exact .head | exact .tail .head | exact .tail (.tail .head) | exact .tail (.tail (.tail .head)) | exact .tail (.tail (.tail (.tail .head))) | exact .tail (.tail (.tail (.tail (.tail .head))))) ?_
          clear hS
          intro wx7 hS
          refine lst_pln (by first | exact hS | exact hS.drop | exact hS.drop.drop | exact hS.drop.drop.drop | exact hS.unlearn | exact hS.unlearn.drop | exact hS.unlearn.drop.drop | exact hS.forget (fun φ h => hF9 φ (.tail _ (.tail _ h))) | exact hS.drop.forget (fun φ h => hF9 φ (.tail _ (.tail _ h))) | exact hS.unlearn.unlearn | exact hS.unlearn.unlearn.drop) ?_
          refine pln_read rfl (fun _ hS => run_assign (by conv => lhs; whnf)) rfl ?_
          refine pln_read rfl (fun _ hS => run_assign (by conv => lhs; whnf)) rfl ?_
          refine pln_read rfl (fun _ hS => run_assign (by conv => lhs; whnf)) rfl ?_
          refine pln_read rfl (fun _ hS => run_assign (by conv => lhs; whnf)) rfl ?_
          refine pln_tail ?_
          refine lst_done ?_
          exact hmeet _ _ _ _ _ _ _ ⟨_, A9, c9, B9, d9, a1, a2, a3, c91, c92, c93, F9, rfl, rfl, rfl, rfl, rfl, fun φ h => hF9 φ (.tail _ (.tail _ h)), hH9, hP1, hP2, hP3, hS⟩ (by conv => lhs; whnf) (by conv => lhs; whnf) (by conv => lhs; whnf) (by conv => lhs; whnf) (by conv => lhs; whnf) (by kernel_rfl)
        refine pln_last rfl ?_
        refine lst_alloc (cs := [_, _]) hS rfl rfl rfl ?_
        clear hS
        intro b5 wx8 hS
        refine lst_pln (by first | exact hS | exact hS.drop | exact hS.drop.drop | exact hS.drop.drop.drop | exact hS.unlearn | exact hS.unlearn.drop | exact hS.unlearn.drop.drop | exact hS.forget (fun φ h => hF9 φ (.tail _ (.tail _ h))) | exact hS.drop.forget (fun φ h => hF9 φ (.tail _ (.tail _ h))) | exact hS.unlearn.unlearn | exact hS.unlearn.unlearn.drop) ?_
        refine pln_last rfl ?_
        refine lst_appI (xs := []) (O := []) hS (by conv => lhs; whnf) (by conv => lhs; whnf) rfl rfl rfl (hS.und hKl6.tail) Rw.zero_ (.refl _) (by omega) rfl ?_
        clear hS
        intro v8 O8 w8 hrow8 hS
        rw [Nat.zero_add, List.nil_append] at hrow8
        obtain ⟨A8, c8, rfl, _⟩ := hrow8.form
        replace hS := St.freezeR hrow8 hS
        refine lst_pln (by first | exact hS | exact hS.drop | exact hS.drop.drop | exact hS.drop.drop.drop | exact hS.unlearn | exact hS.unlearn.drop | exact hS.unlearn.drop.drop | exact hS.forget (fun φ h => hF9 φ (.tail _ (.tail _ h))) | exact hS.drop.forget (fun φ h => hF9 φ (.tail _ (.tail _ h))) | exact hS.unlearn.unlearn | exact hS.unlearn.unlearn.drop) ?_
        refine pln_last rfl ?_
        refine lst_enter (run_call (by kernel_rfl) (args_4 (by conv => lhs; whnf) (by conv => lhs; whnf) (by conv => lhs; whnf) (by conv => lhs; whnf))) rfl ?_
        refine Calls.mono (collect_any h R T K A3 B3 A4 A7 A8 c3 d3 c4 c7 c8 _ hH36.tail.tail hO46.tail.tail Und.head.tail Und.head hRl hTl hKl hS) ?_
        rintro _ w9 ⟨A9, c9, B9, d9, a1, a2, a3, c91, c92, c93, F9, rfl, hF9, hH9, hP1, hP2, hP3, hS'⟩
        refine ⟨_, rfl, ?_⟩
        replace hS := hS'
        clear hS'
        refine lst_pln (by first | exact hS | exact hS.drop | exact hS.drop.drop | exact hS.drop.drop.drop | exact hS.unlearn | exact hS.unlearn.drop | exact hS.unlearn.drop.drop | exact hS.forget (fun φ h => hF9 φ (.tail _ (.tail _ h))) | exact hS.drop.forget (fun φ h => hF9 φ (.tail _ (.tail _ h))) | exact hS.unlearn.unlearn | exact hS.unlearn.unlearn.drop) ?_
        refine pln_read rfl (fun _ hS => run_move (by conv => lhs; whnf)) rfl ?_
        refine pln_read rfl (fun _ hS => run_extract rfl rfl) rfl ?_
        refine pln_read rfl (fun _ hS => run_extract rfl rfl) rfl ?_
        refine pln_read rfl (fun _ hS => run_extract rfl rfl) rfl ?_
        refine pln_read rfl (fun _ hS => run_extract rfl rfl) rfl ?_
        refine pln_read rfl (fun _ hS => run_extract rfl rfl) rfl ?_
        refine pln_last rfl ?_
        refine lst_storeN hS rfl (by conv => lhs; whnf) rfl rfl (by first | exact .head | exact .tail .head | exact .tail (.tail .head) | exact .tail (.tail (.tail .head)) | exact .tail (.tail (.tail (.tail .head))) | exact .tail (.tail (.tail (.tail (.tail .head))))) (by repeat constructor) (by first | exact .head | exact .tail .head | exact .tail (.tail .head) | exact .tail (.tail (.tail .head)) | exact .tail (.tail (.tail (.tail .head))) | exact .tail (.tail (.tail (.tail (.tail .head))))) ?_
        clear hS
        intro wx9 hS
        refine lst_pln (by first | exact hS | exact hS.drop | exact hS.drop.drop | exact hS.drop.drop.drop | exact hS.unlearn | exact hS.unlearn.drop | exact hS.unlearn.drop.drop | exact hS.forget (fun φ h => hF9 φ (.tail _ (.tail _ h))) | exact hS.drop.forget (fun φ h => hF9 φ (.tail _ (.tail _ h))) | exact hS.unlearn.unlearn | exact hS.unlearn.unlearn.drop) ?_
        refine pln_read rfl (fun _ hS => run_assign (by conv => lhs; whnf)) rfl ?_
        refine pln_read rfl (fun _ hS => run_assign (by conv => lhs; whnf)) rfl ?_
        refine pln_read rfl (fun _ hS => run_assign (by conv => lhs; whnf)) rfl ?_
        refine pln_read rfl (fun _ hS => run_assign (by conv => lhs; whnf)) rfl ?_
        refine pln_tail ?_
        refine lst_done ?_
        exact hmeet _ _ _ _ _ _ _ ⟨_, A9, c9, B9, d9, a1, a2, a3, c91, c92, c93, F9, rfl, rfl, rfl, rfl, rfl, fun φ h => hF9 φ (.tail _ (.tail _ h)), hH9, hP1, hP2, hP3, hS⟩ (by conv => lhs; whnf) (by conv => lhs; whnf) (by conv => lhs; whnf) (by conv => lhs; whnf) (by conv => lhs; whnf) (by kernel_rfl)
      refine pln_last rfl ?_
      refine lst_alloc (cs := [_, _]) hS rfl rfl rfl ?_
      clear hS
      intro b6 wx10 hS
      refine lst_pln (by first | exact hS | exact hS.drop | exact hS.drop.drop | exact hS.drop.drop.drop | exact hS.unlearn | exact hS.unlearn.drop | exact hS.unlearn.drop.drop | exact hS.forget (fun φ h => hF9 φ (.tail _ (.tail _ h))) | exact hS.drop.forget (fun φ h => hF9 φ (.tail _ (.tail _ h))) | exact hS.unlearn.unlearn | exact hS.unlearn.unlearn.drop) ?_
      refine pln_last rfl ?_
      refine lst_appI (xs := []) (O := []) hS (by conv => lhs; whnf) (by conv => lhs; whnf) rfl rfl rfl (hS.und hTl6) Rw.zero_ (.refl _) (by omega) rfl ?_
      clear hS
      intro v7 O7 w7 hrow7 hS
      rw [Nat.zero_add, List.nil_append] at hrow7
      obtain ⟨A7, c7, rfl, _⟩ := hrow7.form
      replace hS := St.freezeR hrow7 hS
      refine lst_pln (by first | exact hS | exact hS.drop | exact hS.drop.drop | exact hS.drop.drop.drop | exact hS.unlearn | exact hS.unlearn.drop | exact hS.unlearn.drop.drop | exact hS.forget (fun φ h => hF9 φ (.tail _ (.tail _ h))) | exact hS.drop.forget (fun φ h => hF9 φ (.tail _ (.tail _ h))) | exact hS.unlearn.unlearn | exact hS.unlearn.unlearn.drop) ?_
      refine pln_last rfl ?_
      refine lst_appI (xs := []) (O := []) hS (by conv => lhs; whnf) (by conv => lhs; whnf) rfl rfl rfl (hS.und hKl6.tail) Rw.zero_ (.refl _) (by omega) rfl ?_
      clear hS
      intro v8 O8 w8 hrow8 hS
      rw [Nat.zero_add, List.nil_append] at hrow8
      obtain ⟨A8, c8, rfl, _⟩ := hrow8.form
      replace hS := St.freezeR hrow8 hS
      refine lst_pln (by first | exact hS | exact hS.drop | exact hS.drop.drop | exact hS.drop.drop.drop | exact hS.unlearn | exact hS.unlearn.drop | exact hS.unlearn.drop.drop | exact hS.forget (fun φ h => hF9 φ (.tail _ (.tail _ h))) | exact hS.drop.forget (fun φ h => hF9 φ (.tail _ (.tail _ h))) | exact hS.unlearn.unlearn | exact hS.unlearn.unlearn.drop) ?_
      refine pln_last rfl ?_
      refine lst_enter (run_call (by kernel_rfl) (args_4 (by conv => lhs; whnf) (by conv => lhs; whnf) (by conv => lhs; whnf) (by conv => lhs; whnf))) rfl ?_
      refine Calls.mono (collect_any h R T K A3 B3 A4 A7 A8 c3 d3 c4 c7 c8 _ hH36.tail.tail hO46.tail.tail Und.head.tail Und.head hRl hTl hKl hS) ?_
      rintro _ w9 ⟨A9, c9, B9, d9, a1, a2, a3, c91, c92, c93, F9, rfl, hF9, hH9, hP1, hP2, hP3, hS'⟩
      refine ⟨_, rfl, ?_⟩
      replace hS := hS'
      clear hS'
      refine lst_pln (by first | exact hS | exact hS.drop | exact hS.drop.drop | exact hS.drop.drop.drop | exact hS.unlearn | exact hS.unlearn.drop | exact hS.unlearn.drop.drop | exact hS.forget (fun φ h => hF9 φ (.tail _ (.tail _ h))) | exact hS.drop.forget (fun φ h => hF9 φ (.tail _ (.tail _ h))) | exact hS.unlearn.unlearn | exact hS.unlearn.unlearn.drop) ?_
      refine pln_read rfl (fun _ hS => run_move (by conv => lhs; whnf)) rfl ?_
      refine pln_read rfl (fun _ hS => run_extract rfl rfl) rfl ?_
      refine pln_read rfl (fun _ hS => run_extract rfl rfl) rfl ?_
      refine pln_read rfl (fun _ hS => run_extract rfl rfl) rfl ?_
      refine pln_read rfl (fun _ hS => run_extract rfl rfl) rfl ?_
      refine pln_read rfl (fun _ hS => run_extract rfl rfl) rfl ?_
      refine pln_last rfl ?_
      refine lst_storeN hS rfl (by conv => lhs; whnf) rfl rfl (by first | exact .head | exact .tail .head | exact .tail (.tail .head) | exact .tail (.tail (.tail .head)) | exact .tail (.tail (.tail (.tail .head))) | exact .tail (.tail (.tail (.tail (.tail .head))))) (by repeat constructor) (by first | exact .head | exact .tail .head | exact .tail (.tail .head) | exact .tail (.tail (.tail .head)) | exact .tail (.tail (.tail (.tail .head))) | exact .tail (.tail (.tail (.tail (.tail .head))))) ?_
      clear hS
      intro wx11 hS
      refine lst_pln (by first | exact hS | exact hS.drop | exact hS.drop.drop | exact hS.drop.drop.drop | exact hS.unlearn | exact hS.unlearn.drop | exact hS.unlearn.drop.drop | exact hS.forget (fun φ h => hF9 φ (.tail _ (.tail _ h))) | exact hS.drop.forget (fun φ h => hF9 φ (.tail _ (.tail _ h))) | exact hS.unlearn.unlearn | exact hS.unlearn.unlearn.drop) ?_
      refine pln_read rfl (fun _ hS => run_assign (by conv => lhs; whnf)) rfl ?_
      refine pln_read rfl (fun _ hS => run_assign (by conv => lhs; whnf)) rfl ?_
      refine pln_read rfl (fun _ hS => run_assign (by conv => lhs; whnf)) rfl ?_
      refine pln_read rfl (fun _ hS => run_assign (by conv => lhs; whnf)) rfl ?_
      refine pln_tail ?_
      refine lst_done ?_
      exact hmeet _ _ _ _ _ _ _ ⟨_, A9, c9, B9, d9, a1, a2, a3, c91, c92, c93, F9, rfl, rfl, rfl, rfl, rfl, fun φ h => hF9 φ (.tail _ (.tail _ h)), hH9, hP1, hP2, hP3, hS⟩ (by conv => lhs; whnf) (by conv => lhs; whnf) (by conv => lhs; whnf) (by conv => lhs; whnf) (by conv => lhs; whnf) (by kernel_rfl)
    clear hS
    rintro jv2 _ _ _ _ _ w9 ⟨b3, A9, c9, B9, d9, a1, a2, a3, c91, c92, c93, F9, rfl, rfl, rfl, rfl, rfl, hF9, hH9, hP1, hP2, hP3, hS⟩
    have hf9 : ∀ φ ∈ F, φ ∈ F9 := fun φ h => hF9 φ (hf6 φ h)
    refine goes_seq ?_
    refine goes_region ?_
    first
      | refine lst_run (run_loadN_own (k := 2) hS rfl rfl rfl (by first | exact .head | exact .tail .head | exact .tail (.tail .head) | exact .tail (.tail (.tail .head)) | exact .tail (.tail (.tail (.tail .head))) | exact .tail (.tail (.tail (.tail (.tail .head))))) (by repeat constructor)) rfl ?_
      | refine lst_run (run_load2 rfl rfl rfl (by first | assumption | exact hct _ hS | exact hcu _ hS | exact hS.cell0 (by assumption)) (by first | assumption | exact hct _ hS | exact hcu _ hS | exact hS.cell0 (by assumption))) rfl ?_
    refine lst_run (run_move (by conv => lhs; whnf)) rfl ?_
    refine lst_run (run_move (by conv => lhs; whnf)) rfl ?_
    refine lst_run (run_move (by conv => lhs; whnf)) rfl ?_
    refine lst_enter (run_call (by kernel_rfl) (args_4 (by conv => lhs; whnf) (by conv => lhs; whnf) (by conv => lhs; whnf) (by conv => lhs; whnf))) rfl ?_
    refine Calls.mono (collectAll_any h R T K A B RA TA KA c d rc tc kc _ (hHu.mono hf9) (hRu.mono hf9) (hTu.mono hf9) (hKu.mono hf9) hRl hTl hKl hS) ?_
    rintro _ w10 ⟨A10, c10, B10, d10, q1, q2, q3, g1, g2, g3, F10, rfl, hF10, hH10, hQ1, hQ2, hQ3, hS'⟩
    refine ⟨_, rfl, ?_⟩
    replace hS := hS'
    clear hS'
    have hH9z := hH9.mono hF10
    have hP1z := hP1.mono hF10
    have hP2z := hP2.mono hF10
    have hP3z := hP3.mono hF10
    clear hH9 hP1 hP2 hP3
    generalize collectH h R T K = r at *
    obtain ⟨X, at_, top, mk, er⟩ := r
    dsimp only at *
    refine lst_run (run_move (by conv => lhs; whnf)) rfl ?_
    refine lst_run (run_extract rfl rfl) rfl ?_
    refine lst_run (run_extract rfl rfl) rfl ?_
    refine lst_run (run_extract rfl rfl) rfl ?_
    refine lst_run (run_extract rfl rfl) rfl ?_
    refine lst_run (run_extract rfl rfl) rfl ?_
    refine lst_alloc (cs := [_, _]) hS rfl rfl rfl ?_
    clear hS
    intro b7 wx12 hS
    refine lst_storeN hS rfl (by conv => lhs; whnf) rfl rfl (by first | exact .head | exact .tail .head | exact .tail (.tail .head) | exact .tail (.tail (.tail .head)) | exact .tail (.tail (.tail (.tail .head))) | exact .tail (.tail (.tail (.tail (.tail .head))))) (by repeat constructor) (by first | exact .head | exact .tail .head | exact .tail (.tail .head) | exact .tail (.tail (.tail .head)) | exact .tail (.tail (.tail (.tail .head))) | exact .tail (.tail (.tail (.tail (.tail .head))))) ?_
    clear hS
    intro wx13 hS
    refine lst_run (run_assign (by conv => lhs; whnf)) rfl ?_
    refine lst_run (run_assign (by conv => lhs; whnf)) rfl ?_
    refine lst_run (run_assign (by conv => lhs; whnf)) rfl ?_
    refine lst_run (run_assign (by conv => lhs; whnf)) rfl ?_
    refine lst_done ?_
    refine goes_seq ?_
    refine goes_region ?_
    first
      | refine lst_run (run_loadN_own (k := 2) hS rfl rfl rfl (by first | exact .head | exact .tail .head | exact .tail (.tail .head) | exact .tail (.tail (.tail .head)) | exact .tail (.tail (.tail (.tail .head))) | exact .tail (.tail (.tail (.tail (.tail .head))))) (by repeat constructor)) rfl ?_
      | refine lst_run (run_load2 rfl rfl rfl (by first | assumption | exact hct _ hS | exact hcu _ hS | exact hS.cell0 (by assumption)) (by first | assumption | exact hct _ hS | exact hcu _ hS | exact hS.cell0 (by assumption))) rfl ?_
    first
      | refine lst_run (run_loadN_own (k := 2) hS rfl rfl rfl (by first | exact .head | exact .tail .head | exact .tail (.tail .head) | exact .tail (.tail (.tail .head)) | exact .tail (.tail (.tail (.tail .head))) | exact .tail (.tail (.tail (.tail (.tail .head))))) (by repeat constructor)) rfl ?_
      | refine lst_run (run_load2 rfl rfl rfl (by first | assumption | exact hct _ hS | exact hcu _ hS | exact hS.cell0 (by assumption)) (by first | assumption | exact hct _ hS | exact hcu _ hS | exact hS.cell0 (by assumption))) rfl ?_
    refine lst_enter (run_call (by kernel_rfl) (args_2 (by conv => lhs; whnf) (by conv => lhs; whnf))) rfl ?_
    refine Calls.mono (sameHeap_eq X A9 B9 A10 B10 c9 d9 c10 d10 _ (hS.und hH9z) (hS.und hH10) (by omega) (by omega)) ?_
    rintro _ w11 ⟨rfl, hb11⟩
    refine ⟨_, rfl, ?_⟩
    replace hS := hS.grow hb11
    refine lst_run (run_move (by conv => lhs; whnf)) rfl ?_
    refine lst_guard rfl rfl ?_
    refine lst_run (run_move (by conv => lhs; whnf)) rfl ?_
    refine lst_guard rfl rfl ?_
    refine lst_run (run_move (by conv => lhs; whnf)) rfl ?_
    refine lst_guard rfl rfl ?_
    refine lst_enter (run_call (by kernel_rfl) (args_2 (by conv => lhs; whnf) (by conv => lhs; whnf))) rfl ?_
    refine Calls.mono (sameNumbersR_eq at_ a1 q1 c91 g1 _ (hS.und hP1z) (hS.und hQ1) (by omega)) ?_
    rintro _ w12 ⟨rfl, hb12⟩
    refine ⟨_, rfl, ?_⟩
    replace hS := hS.grow hb12
    first
      | refine lst_run (run_pick_t rfl (by conv => lhs; whnf)) rfl ?_
      | refine lst_run (run_pick_f rfl (by conv => lhs; whnf)) rfl ?_
    refine lst_run (run_move (by conv => lhs; whnf)) rfl ?_
    refine lst_guard rfl rfl ?_
    refine lst_run (run_move (by conv => lhs; whnf)) rfl ?_
    refine lst_guard rfl rfl ?_
    refine lst_run (run_move (by conv => lhs; whnf)) rfl ?_
    refine lst_guard rfl rfl ?_
    refine lst_enter (run_call (by kernel_rfl) (args_2 (by conv => lhs; whnf) (by conv => lhs; whnf))) rfl ?_
    refine Calls.mono (sameNumbersR_eq top a2 q2 c92 g2 _ (hS.und hP2z) (hS.und hQ2) (by omega)) ?_
    rintro _ w13 ⟨rfl, hb13⟩
    refine ⟨_, rfl, ?_⟩
    replace hS := hS.grow hb13
    first
      | refine lst_run (run_pick_t rfl (by conv => lhs; whnf)) rfl ?_
      | refine lst_run (run_pick_f rfl (by conv => lhs; whnf)) rfl ?_
    refine lst_run (run_move (by conv => lhs; whnf)) rfl ?_
    refine lst_guard rfl rfl ?_
    refine lst_run (run_move (by conv => lhs; whnf)) rfl ?_
    refine lst_guard rfl rfl ?_
    refine lst_run (run_move (by conv => lhs; whnf)) rfl ?_
    refine lst_guard rfl rfl ?_
    refine lst_enter (run_call (by kernel_rfl) (args_2 (by conv => lhs; whnf) (by conv => lhs; whnf))) rfl ?_
    refine Calls.mono (sameNumbersR_eq mk a3 q3 c93 g3 _ (hS.und hP3z) (hS.und hQ3) (by omega)) ?_
    rintro _ w14 ⟨rfl, hb14⟩
    refine ⟨_, rfl, ?_⟩
    replace hS := hS.grow hb14
    first
      | refine lst_run (run_pick_t rfl (by conv => lhs; whnf)) rfl ?_
      | refine lst_run (run_pick_f rfl (by conv => lhs; whnf)) rfl ?_
    refine lst_run (run_move (by conv => lhs; whnf)) rfl ?_
    refine lst_guard rfl rfl ?_
    refine lst_run (run_move (by conv => lhs; whnf)) rfl ?_
    refine lst_guard rfl rfl ?_
    refine lst_run (run_move (by conv => lhs; whnf)) rfl ?_
    refine lst_guard rfl rfl ?_
    first
      | refine lst_run (run_eql_one_int rfl rfl) rfl ?_
      | refine lst_run (run_eql_no rfl rfl (by first | assumption | omega)) rfl ?_
      | refine lst_run (run_eql_yes rfl rfl (by omega)) rfl ?_
      | refine lst_run (rfl) rfl ?_
    first
      | refine lst_run (run_pick_t rfl (by conv => lhs; whnf)) rfl ?_
      | refine lst_run (run_pick_f rfl (by conv => lhs; whnf)) rfl ?_
    refine lst_run (run_move (by conv => lhs; whnf)) rfl ?_
    refine lst_guard rfl rfl ?_
    first
      | refine lst_run (run_loadN_own (k := 2) hS rfl rfl rfl (by first | exact .head | exact .tail .head | exact .tail (.tail .head) | exact .tail (.tail (.tail .head)) | exact .tail (.tail (.tail (.tail .head))) | exact .tail (.tail (.tail (.tail (.tail .head))))) (by repeat constructor)) rfl ?_
      | refine lst_run (run_load2 rfl rfl rfl (by first | assumption | exact hct _ hS | exact hcu _ hS | exact hS.cell0 (by assumption)) (by first | assumption | exact hct _ hS | exact hcu _ hS | exact hS.cell0 (by assumption))) rfl ?_
    refine lst_guard rfl rfl ?_
    first
      | refine lst_run (run_loadN_own (k := 2) hS rfl rfl rfl (by first | exact .head | exact .tail .head | exact .tail (.tail .head) | exact .tail (.tail (.tail .head)) | exact .tail (.tail (.tail (.tail .head))) | exact .tail (.tail (.tail (.tail (.tail .head))))) (by repeat constructor)) rfl ?_
      | refine lst_run (run_load2 rfl rfl rfl (by first | assumption | exact hct _ hS | exact hcu _ hS | exact hS.cell0 (by assumption)) (by first | assumption | exact hct _ hS | exact hcu _ hS | exact hS.cell0 (by assumption))) rfl ?_
    refine lst_guard rfl rfl ?_
    refine lst_enter (run_call (by kernel_rfl) (args_2 (by conv => lhs; whnf) (by conv => lhs; whnf))) rfl ?_
    refine Calls.mono (sameHeap_eq h A3 B3 A B c3 d3 c d _ (hS.und (hH36.mono fun φ h => hF10 φ (hF9 φ h))) (hS.und (hHu.mono fun φ h => hF10 φ (hf9 φ h))) (by omega) (by omega)) ?_
    rintro _ w15 ⟨rfl, hb15⟩
    refine ⟨_, rfl, ?_⟩
    replace hS := hS.grow hb15
    first
      | refine lst_run (run_pick_t rfl (by conv => lhs; whnf)) rfl ?_
      | refine lst_run (run_pick_f rfl (by conv => lhs; whnf)) rfl ?_
    refine lst_run (run_move (by conv => lhs; whnf)) rfl ?_
    refine lst_guard rfl rfl ?_
    refine lst_run (run_move (by conv => lhs; whnf)) rfl ?_
    refine lst_guard rfl rfl ?_
    refine lst_run (run_move (by conv => lhs; whnf)) rfl ?_
    refine lst_guard rfl rfl ?_
    refine lst_enter (run_call (by kernel_rfl) (args_2 (by conv => lhs; whnf) (by conv => lhs; whnf))) rfl ?_
    refine Calls.mono (sameNumbersR_eq R A4 RA c4 rc _ (hS.und (hO46.mono fun φ h => hF10 φ (hF9 φ h))) (hS.und (hRu.mono fun φ h => hF10 φ (hf9 φ h))) (by omega)) ?_
    rintro _ w16 ⟨rfl, hb16⟩
    refine ⟨_, rfl, ?_⟩
    replace hS := hS.grow hb16
    first
      | refine lst_run (run_pick_t rfl (by conv => lhs; whnf)) rfl ?_
      | refine lst_run (run_pick_f rfl (by conv => lhs; whnf)) rfl ?_
    refine lst_run (run_move (by conv => lhs; whnf)) rfl ?_
    refine lst_guard rfl rfl ?_
    refine lst_enter (run_call (by kernel_rfl) args_nil) rfl ?_
    refine Calls.mono (heapsL_any _) ?_
    rintro _ w17 ⟨rfl, hb17⟩
    refine ⟨_, rfl, ?_⟩
    replace hS := hS.grow hb17
    first
      | refine lst_run (run_pick_t rfl (by conv => lhs; whnf)) rfl ?_
      | refine lst_run (run_pick_f rfl (by conv => lhs; whnf)) rfl ?_
    refine lst_run (run_assign (by conv => lhs; whnf)) rfl ?_
    refine lst_done ?_
    refine goes_ret1 Try.func6 rfl (by conv => lhs; whnf) ?_
    exact ⟨rfl, hS.ext.below⟩
end Go.Proofs.Ytjicoifjgokoiab
namespace Go.Proofs.Ytjicoifjgokoiab
open Go.RowKit Go.ChangeShapes Go.WideShapes Go.ChangeAt
set_option maxRecDepth 100000

theorem Try.laidOut : laidOutB Try.prog = true := by kernel_rfl
theorem Try.own : ownKnob Try.prog.godebug = none := by kernel_rfl
theorem cells_term : Try.prog.cellsOf 39 = 4 := by kernel_rfl
theorem cells_int : Try.prog.cellsOf 3 = 1 := by kernel_rfl
theorem cells_string : Try.prog.cellsOf 9 = 1 := by kernel_rfl
theorem cells_terms : Try.prog.cellsOf 37 = 1 := by kernel_rfl

section
variable {H : Type} {enc : TypeId × Value → H} {w : World} {base : Nat} {spare : Nat → Bool} {held : Bool}

theorem bulk_pos (d : DataW H) : 1 ≤ Rows.uptoBulk d := by
  cases d with
  | lit l => cases l <;> simp [Rows.uptoBulk]
  | nil => simp [Rows.uptoBulk]
  | ptr d => simp [Rows.uptoBulk]
  | slice elems spare => simp [Rows.uptoBulk]
  | agg parts => simp [Rows.uptoBulk]
  | iface t d => simp [Rows.uptoBulk]
  | map entries => simp [Rows.uptoBulk]
  | held h => simp [Rows.uptoBulk]
theorem bulk_mem {l : List (DataW H)} : ∀ {i : Nat} {d : DataW H}, l[i]? = some d → Rows.uptoBulk d ≤ Rows.uptoBulkAll l := by
  induction l with
  | nil => intro i d h; simp at h
  | cons x r ih =>
    intro i d h
    cases i with
    | zero => simp at h; subst h; simp [Rows.uptoBulkAll]
    | succ i =>
      have := ih (i := i) (d := d) (by simpa using h)
      simp only [Rows.uptoBulkAll]; omega

/-- The cells of one term, read. -/
theorem open_cells {fuel : Nat} {cs : List Value} {x : DataW H × List MemPlace} (h : DataW.trod enc Try.prog w base spare held fuel 39 cs = some x) :
    ∃ (k n : Int) (s : ByteArray) (v : Value) (y : DataW H × List MemPlace) (m : Nat), cs = [.int .i64 k, .int .i64 n, .string s, v] ∧ DataW.trod enc Try.prog w base spare held m 37 [v] = some y ∧
      Rows.uptoBulk y.1 + 1 ≤ Rows.uptoBulk x.1 ∧ (Lit.int .i64 k).wf = true ∧ (Lit.int .i64 n).wf = true ∧ s.size ≤ maxLen ∧ s.size + Rows.uptoBulk y.1 + 3 ≤ Rows.uptoBulk x.1 := by
  obtain ⟨xs, m, _, hx, hlen, hxl, hf⟩ := DataW.trod_struct Try.underlying39 h
  rw [cells_term] at hlen
  have f0 : DataW.trod enc Try.prog w base spare held m 3 ((cs.drop 0).take (Try.prog.cellsOf 3)) = xs[0]? := hf 0 _ rfl
  have f1 : DataW.trod enc Try.prog w base spare held m 3 ((cs.drop 1).take (Try.prog.cellsOf 3)) = xs[1]? := hf 1 _ rfl
  have f2 : DataW.trod enc Try.prog w base spare held m 9 ((cs.drop 2).take (Try.prog.cellsOf 9)) = xs[2]? := hf 2 _ rfl
  have f3 : DataW.trod enc Try.prog w base spare held m 37 ((cs.drop 3).take (Try.prog.cellsOf 37)) = xs[3]? := hf 3 _ rfl
  rw [cells_int] at f0 f1
  rw [cells_string] at f2
  rw [cells_terms] at f3
  match cs, hlen, xs, hxl, hx with
  | [c0, c1, c2, c3], _, [y0, y1, y2, y3], _, hx =>
    simp only [List.drop_zero, List.drop_succ_cons, List.take_succ_cons, List.take_zero, List.getElem?_cons_zero, List.getElem?_cons_succ] at f0 f1 f2 f3
    obtain ⟨k, e0, r0, w0⟩ := DataW.trod_int Try.underlying3 f0
    obtain ⟨n, e1, r1, w1⟩ := DataW.trod_int Try.underlying3 f1
    obtain ⟨s, e2, r2, w2⟩ := DataW.trod_string Try.underlying9 f2
    simp only [List.cons.injEq, and_true] at e0 e1 e2
    subst e0 e1 e2 hx r0 r1 r2
    have h3 := bulk_pos y3.1
    have hsz : s.data.toList.length = s.size := by rw [Array.length_toList]; rfl
    refine ⟨k, n, s, c3, y3, m, rfl, f3, ?_, w0, w1, w2, ?_⟩
    · simp only [List.map_cons, List.map_nil, Rows.uptoBulk, Rows.uptoBulkAll]; omega
    · simp only [List.map_cons, List.map_nil, Rows.uptoBulk, Rows.uptoBulkAll]; omega

theorem addr_add {a : Addr} {i : Nat} {u : Value} (h : w.cell? (a.add i) = some u) (ha : a.spot = none) : w.cell? ⟨a.block, a.off + i, none⟩ = some u := by
  unfold Addr.add at h
  split at h
  · rename_i e
    subst e
    obtain ⟨b, o, sp⟩ := a
    simp only at ha
    subst ha
    simpa using h
  · exact h

/-- A slice of terms, read: it is a list of terms, of no more nodes than what was read holds. -/
theorem open_terms : ∀ (b fuel : Nat) (v : Value) (x : DataW H × List MemPlace), Rows.uptoBulk x.1 ≤ b → DataW.trod enc Try.prog w base spare held fuel 37 [v] = some x →
    ∃ T : Ts, Sl w (fun _ => True) v T ∧ T.nodes < Rows.uptoBulk x.1 := by
  intro b
  induction b with
  | zero => intro fuel v x hb _; have := bulk_pos x.1; omega
  | succ b ih =>
    intro fuel v x hb h
    rcases Deep.open_slice Try.underlying37 h with ⟨e, rfl⟩ | ⟨a, len, cap, m, n, D, Pl, e, _, hl, _, hm, rfl, hi⟩
    · simp only [List.cons.injEq, and_true] at e
      subst e
      exact ⟨.nil, Sl.nil _ _, by simp [Rows.uptoBulk, Ts.nodes]⟩
    · simp only [List.cons.injEq, and_true] at e
      subst e
      rw [cells_term] at hi
      have hml : len ≤ m := by rw [hm]; split <;> omega
      have hbulk : ∀ j, j < len → Rows.uptoBulk (D j) ≤ Rows.uptoBulkAll ((List.range len).map D) := fun j hj => bulk_mem (i := j) (by simp [hj])
      simp only [Rows.uptoBulk] at hb ⊢
      have hspot : 0 < len → a.spot = none := fun hp => by
        obtain ⟨cs, hc, ht⟩ := hi 0 (by omega)
        obtain ⟨k, n', s, v', y, m', rfl, _⟩ := open_cells ht
        obtain ⟨_, _, hat⟩ := World.cells?_some hc
        have h0 := hat 0 (by omega)
        simp only [Nat.zero_mul, Addr.add, if_true, List.getElem?_cons_zero] at h0
        unfold World.cell? at h0
        split at h0
        · split at h0
          · cases h0
          · rename_i hs; simpa using hs
        · cases h0
      have key : ∀ r j, j + r = len → ∃ T : Ts, T.length = r ∧ Seg w (fun _ => True) T a.block (a.off + j * 4) ∧ T.nodes ≤ Rows.uptoBulkAll ((List.range' j r).map D) := by
        intro r
        induction r with
        | zero => intro j _; exact ⟨.nil, rfl, trivial, Nat.zero_le _⟩
        | succ r ihr =>
          intro j hj
          obtain ⟨T, hT1, hT2, hT3⟩ := ihr (j + 1) (by omega)
          obtain ⟨cs, hc, ht⟩ := hi j (by omega)
          obtain ⟨k, n', s, v', y, m', rfl, hy, hyb, _⟩ := open_cells ht
          obtain ⟨_, _, hat⟩ := World.cells?_some hc
          have hbj := hbulk j (by omega)
          simp only at hyb
          obtain ⟨U, hU1, hU2⟩ := ih m' v' y (by omega) hy
          have hsp := hspot (by omega)
          have hcell : ∀ q u, q < 4 → [Value.int .i64 k, .int .i64 n', .string s, v'][q]? = some u → w.cell? ⟨a.block, a.off + j * 4 + q, none⟩ = some u := fun q u hq hu => by
            have h1 := (hat q hq).trans hu
            rw [Deep.add_add] at h1
            have h2 := addr_add h1 hsp
            rwa [← Nat.add_assoc] at h2
          refine ⟨.cons k n' s U T, by simp [Ts.length, hT1], ?_, ?_⟩
          · refine seg_cons.2 ⟨trivial, by simpa using hcell 0 _ (by omega) rfl, hcell 1 _ (by omega) rfl, hcell 2 _ (by omega) rfl, ⟨v', hcell 3 _ (by omega) rfl, hU1⟩, ?_⟩
            rw [show a.off + j * 4 + 4 = a.off + (j + 1) * 4 by omega]
            exact hT2
          · simp only [List.range'_succ, List.map_cons, Rows.uptoBulkAll, Ts.nodes]
            omega
      obtain ⟨T, h1, h2, h3⟩ := key len 0 (by omega)
      refine ⟨T, ⟨some a, cap, by rw [h1], by omega, fun hp => ⟨a.block, a.off, ?_, by simpa using h2⟩⟩, ?_⟩
      · have := hspot (by omega)
        obtain ⟨b', o', sp⟩ := a
        simp only at this
        rw [this]
      · rw [← List.range_eq_range'] at h3
        omega
end

/-- One term as an argument. -/
theorem open_term {H : Type} {enc : TypeId × Value → H} {W : World} {base0 : Nat} {v : Value} {d : DataW H} {p : List MemPlace} (hv : Value.okWide Try.prog W .any base0 39 v) (h : DataW.Trod enc Try.prog W 0 (fun _ => true) true 39 v d p) :
    ∃ (k n : Int) (s : ByteArray) (u : Value) (T : Ts), v = .agg #[.int .i64 k, .int .i64 n, .string s, u] ∧ Sl W (fun _ => True) u T ∧ T.nodes + 1 < Rows.uptoBulk d ∧ (Lit.int .i64 k).wf = true ∧ (Lit.int .i64 n).wf = true ∧ s.size ≤ maxLen := by
  obtain ⟨cs, rfl, hsz⟩ := okWide_struct Try.underlying39 hv
  obtain ⟨fuel, hf⟩ := h
  obtain ⟨k, n, s, u, y, m, e, hy, hb, w0, w1, w2, _⟩ := open_cells hf
  obtain ⟨T, h1, h2⟩ := open_terms _ m u y (Nat.le_refl _) hy
  refine ⟨k, n, s, u, T, ?_, h1, by simp only at hb; omega, w0, w1, w2⟩
  have e' : cs.toList = [.int .i64 k, .int .i64 n, .string s, u] := e
  rw [← e']
/-- A slice of terms as an argument. -/
theorem open_termsArg {H : Type} {enc : TypeId × Value → H} {W : World} {v : Value} {d : DataW H} {p : List MemPlace} (hv : v.cells.toList = [v]) (h : DataW.Trod enc Try.prog W 0 (fun _ => true) true 37 v d p) :
    ∃ T : Ts, Sl W (fun _ => True) v T ∧ T.nodes < Rows.uptoBulk d := by
  obtain ⟨fuel, hf⟩ := h
  rw [hv] at hf
  exact open_terms _ fuel v _ (Nat.le_refl _) hf

theorem trodAll_below {H : Type} {enc : TypeId × Value → H} {P : Program} (hl : laidOutB P = true) {W W' : World} (hb : Below W.heap.size W W') : ∀ {ts : List TypeId} {vs : List Value} {ds : List (DataW H)} {ps : List MemPlace}, (∀ t ∈ ts, P.readableRec t = true ∧ t < P.types.size) →
    DataW.TrodAll enc P W 0 (fun _ => true) true ts vs ds ps → (∀ x ∈ ps, x.block < W.heap.size) → DataW.TrodAll enc P W' 0 (fun b => decide (b < W.heap.size)) true ts vs ds ps
  | [], [], [], _, _, h, _ => h
  | [], [], _ :: _, _, _, h, _ => h.elim
  | [], _ :: _, _, _, _, h, _ => h.elim
  | _ :: _, [], _, _, _, h, _ => h.elim
  | _ :: _, _ :: _, [], _, _, h, _ => h.elim
  | t :: ts, v :: vs, d :: ds, ps, ht, ⟨p, q, h1, h2, e⟩, hlt => by
    subst e
    obtain ⟨a, b⟩ := ht t (List.mem_cons_self ..)
    exact ⟨p, q, Below.trod hl a b h1 hb fun x hx => hlt x (List.mem_append_left _ hx), trodAll_below hl hb (fun t ht' => ht t (List.mem_cons_of_mem _ ht')) h2 fun x hx => hlt x (List.mem_append_right _ hx), rfl⟩

/-- Behind a law's walk: it answered true, and of what was there nothing has turned. -/
theorem law_post {H : Type} {enc : TypeId × Value → H} {P : Program} {f : Func} {s : ChangeSpec} {W W' : World} {args : Array Value} {ds gs : List (DataW H)} {before : List MemPlace} (hl : laidOutB P = true) {bt : TypeId}
    (hres : f.resultTypes = #[bt]) (hbt : P.underlying bt = some .bool) (ht : (f.params.toList.all fun t => P.readableRec t && decide (t < P.types.size)) = true) (hvars : s.vars = [])
    (hfn : (s.fn H (ds ++ gs)).results = [.lit (.bool true)] ∧ (s.fn H (ds ++ gs)).args = ds ∧ (s.fn H (ds ++ gs)).vars = [])
    (hW : DataW.Whole enc P f.params.toList s.vars false W args.toList ds gs before) (hb : Below W.heap.size W W') :
    s.post enc P f false true false false W args (.bool true) W' := by
  have hlt := hW.lt
  have hW' := hW
  obtain ⟨p, q, hA, hV, rfl, hfz, hnd⟩ := hW
  refine ⟨ds, gs, p ++ q, [], p, [], hW', ?_, ?_, ?_, ?_, fun h => by cases h⟩
  · rw [hfn.1, hres]
    exact trodAll_cons_mk (shut_bool hbt _) trodAll_mk0
  · rw [hfn.2.1]
    exact trodAll_below hl hb (fun t h => by have := List.all_eq_true.1 ht t h; simpa using this) hA fun x hx => hlt x (List.mem_append_left _ hx)
  · rw [hfn.2.2, hvars]
    rfl
  · exact hb.frame _
end Go.Proofs.Ytjicoifjgokoiab
namespace Go.Proofs.Ytjicoifjgokoiab
open Go.RowKit Go.ChangeShapes Go.WideShapes Go.ChangeAt
set_option maxRecDepth 100000
set_option linter.unusedVariables false

theorem cells_cell : Try.prog.cellsOf 59 = 3 := by kernel_rfl
theorem cells_ccells : Try.prog.cellsOf 22 = 1 := by kernel_rfl
theorem cells_ints : Try.prog.cellsOf 23 = 1 := by kernel_rfl
theorem cells_heap : Try.prog.cellsOf 25 = 2 := by kernel_rfl

section
variable {H : Type} {enc : TypeId × Value → H} {w : World} {base : Nat} {spare : Nat → Bool} {held : Bool}
/-- A slice of elements that are read alike. -/
theorem open_flat {α : Type} (f : α → List Value) {sz st el : Nat} (hf : ∀ x, (f x).length = sz) (h0 : 0 < sz) (hst : Try.prog.underlying st = some (.slice el)) (hsz : Try.prog.cellsOf el = sz)
    (hel : ∀ (m : Nat) (cs : List Value) (x : DataW H × List MemPlace), DataW.trod enc Try.prog w base spare held m el cs = some x → ∃ a, cs = f a)
    {fuel : Nat} {v : Value} {x : DataW H × List MemPlace} (h : DataW.trod enc Try.prog w base spare held fuel st [v] = some x) :
    ∃ (L : List α) (A : Option Addr) (c : Nat), v = .slice A L.length c ∧ Flat sz (L.flatMap f) A L.length c w ∧ L.length ≤ 9223372036854775807 ∧ L.length < Rows.uptoBulk x.1 := by
  rcases Deep.open_slice hst h with ⟨e, rfl⟩ | ⟨a, len, cap, m, n, D, Pl, e, _, hl, hcm, hm, rfl, hi⟩
  · simp only [List.cons.injEq, and_true] at e
    subst e
    exact ⟨[], none, 0, rfl, Flat.nil_ _ _ _, by simp, by simp [Rows.uptoBulk]⟩
  · simp only [List.cons.injEq, and_true] at e
    subst e
    rw [hsz] at hi
    have hml : len ≤ m := by rw [hm]; split <;> omega
    have hspot : 0 < len → a.spot = none := fun hp => by
      obtain ⟨cs, hc, ht⟩ := hi 0 (by omega)
      obtain ⟨y, rfl⟩ := hel _ _ _ ht
      obtain ⟨_, _, hat⟩ := World.cells?_some hc
      have h1 := hat 0 (by omega)
      simp only [Nat.zero_mul, Addr.add, if_true] at h1
      rw [List.getElem?_eq_getElem (by rw [hf]; exact h0)] at h1
      unfold World.cell? at h1
      split at h1
      · split at h1
        · cases h1
        · rename_i hs; simpa using hs
      · cases h1
    have key : ∀ r j, j + r = len → ∃ L : List α, L.length = r ∧ (∀ q u, (L.flatMap f)[q]? = some u → w.cell? ⟨a.block, a.off + j * sz + q, none⟩ = some u) ∧ (L.flatMap f).length = r * sz ∧ r ≤ Rows.uptoBulkAll ((List.range' j r).map D) := by
      intro r
      induction r with
      | zero => intro j _; exact ⟨[], rfl, fun q u hq => by simp at hq, by simp, Nat.zero_le _⟩
      | succ r ihr =>
        intro j hj
        obtain ⟨L, hT1, hT2, hT3, hT4⟩ := ihr (j + 1) (by omega)
        obtain ⟨cs, hc, ht⟩ := hi j (by omega)
        obtain ⟨y, rfl⟩ := hel _ _ _ ht
        obtain ⟨_, _, hat⟩ := World.cells?_some hc
        have hsp := hspot (by omega)
        refine ⟨y :: L, by simp [hT1], fun q u hq => ?_, ?_, ?_⟩
        · rw [List.flatMap_cons] at hq
          by_cases hql : q < sz
          · rw [List.getElem?_append_left (by rw [hf]; exact hql)] at hq
            have h1 := (hat q hql).trans hq
            rw [Deep.add_add] at h1
            have h2 := addr_add h1 hsp
            rwa [← Nat.add_assoc] at h2
          · rw [List.getElem?_append_right (by rw [hf]; omega), hf] at hq
            have := hT2 _ _ hq
            rw [Nat.add_mul] at this
            rw [show a.off + j * sz + q = a.off + (j * sz + 1 * sz) + (q - sz) by omega]
            exact this
        · rw [List.flatMap_cons, List.length_append, hT3, hf, Nat.add_mul]; omega
        · simp only [List.range'_succ, List.map_cons, Rows.uptoBulkAll]
          have := bulk_pos (D j)
          omega
    obtain ⟨L, h1, h2, h3, h4⟩ := key len 0 (by omega)
    rw [← List.range_eq_range'] at h4
    refine ⟨L, some a, cap, by rw [h1], ⟨by rw [h3, h1], by omega, fun hp => ⟨a.block, a.off, ?_, by simpa using h2⟩⟩, by rw [h1]; have : maxLen = 9223372036854775807 := rfl; omega, ?_⟩
    · have := hspot (by omega)
      obtain ⟨b', o', sp⟩ := a
      simp only at this
      rw [this]
    · rw [h1]; simp only [Rows.uptoBulk]; omega
theorem open_intC {m : Nat} {cs : List Value} {x : DataW H × List MemPlace} (h : DataW.trod enc Try.prog w base spare held m 3 cs = some x) : ∃ a : Int, cs = [.int .i64 a] := by
  obtain ⟨k, e0, _, _⟩ := DataW.trod_int Try.underlying3 h
  exact ⟨k, e0⟩
theorem open_cellC {m : Nat} {cs : List Value} {x : DataW H × List MemPlace} (h : DataW.trod enc Try.prog w base spare held m 59 cs = some x) : ∃ c : HC, cs = hcs c := by
  obtain ⟨xs, m, _, hx, hlen, hxl, hf⟩ := DataW.trod_struct Try.underlying59 h
  rw [cells_cell] at hlen
  have f0 : DataW.trod enc Try.prog w base spare held m 3 ((cs.drop 0).take (Try.prog.cellsOf 3)) = xs[0]? := hf 0 _ rfl
  have f1 : DataW.trod enc Try.prog w base spare held m 3 ((cs.drop 1).take (Try.prog.cellsOf 3)) = xs[1]? := hf 1 _ rfl
  have f2 : DataW.trod enc Try.prog w base spare held m 9 ((cs.drop 2).take (Try.prog.cellsOf 9)) = xs[2]? := hf 2 _ rfl
  rw [cells_int] at f0 f1
  rw [cells_string] at f2
  match cs, hlen, xs, hxl, hx with
  | [c0, c1, c2], _, [y0, y1, y2], _, hx =>
    simp only [List.drop_zero, List.drop_succ_cons, List.take_succ_cons, List.take_zero, List.getElem?_cons_zero, List.getElem?_cons_succ] at f0 f1 f2
    obtain ⟨k, e0, r0, w0⟩ := DataW.trod_int Try.underlying3 f0
    obtain ⟨n, e1, r1, w1⟩ := DataW.trod_int Try.underlying3 f1
    obtain ⟨s, e2, r2, w2⟩ := DataW.trod_string Try.underlying9 f2
    simp only [List.cons.injEq, and_true] at e0 e1 e2
    subst e0 e1 e2
    exact ⟨⟨k, n, s⟩, rfl⟩
theorem hcsL_flat (L : List HC) : L.flatMap hcs = hcsL L := by
  induction L with
  | nil => rfl
  | cons c r ih => rw [List.flatMap_cons, ih]; rfl
theorem intsV_flat (L : List Int) : (L.flatMap fun x => [Value.int .i64 x]) = intsV L := by
  induction L with
  | nil => rfl
  | cons c r ih => rw [List.flatMap_cons, ih]; rfl
theorem open_intsT {fuel : Nat} {v : Value} {x : DataW H × List MemPlace} (h : DataW.trod enc Try.prog w base spare held fuel 23 [v] = some x) :
    ∃ (L : List Int) (A : Option Addr) (c : Nat), v = .slice A L.length c ∧ Flat 1 (intsV L) A L.length c w ∧ L.length ≤ 9223372036854775807 ∧ L.length < Rows.uptoBulk x.1 := by
  have := open_flat (α := Int) (fun x => [Value.int .i64 x]) (sz := 1) (fun _ => rfl) (by omega) Try.underlying23 cells_int (fun m cs x h => open_intC h) h
  simpa only [intsV_flat] using this
theorem open_cellsT {fuel : Nat} {v : Value} {x : DataW H × List MemPlace} (h : DataW.trod enc Try.prog w base spare held fuel 22 [v] = some x) :
    ∃ (L : List HC) (A : Option Addr) (c : Nat), v = .slice A L.length c ∧ Flat 3 (hcsL L) A L.length c w ∧ L.length ≤ 9223372036854775807 ∧ L.length < Rows.uptoBulk x.1 := by
  have := open_flat (α := HC) hcs (sz := 3) (fun _ => rfl) (by omega) Try.underlying22 cells_cell (fun m cs x h => open_cellC h) h
  simpa only [hcsL_flat] using this
end
/-- A list of numbers, as an argument. -/
theorem open_intsArg {H : Type} {enc : TypeId × Value → H} {W : World} {v : Value} {d : DataW H} {p : List MemPlace} (hv : v.cells.toList = [v]) (h : DataW.Trod enc Try.prog W 0 (fun _ => true) true 23 v d p) :
    ∃ (L : List Int) (A : Option Addr) (c : Nat), v = .slice A L.length c ∧ Flat 1 (intsV L) A L.length c W ∧ L.length ≤ 9223372036854775807 ∧ L.length < Rows.uptoBulk d := by
  obtain ⟨fuel, hf⟩ := h
  rw [hv] at hf
  exact open_intsT hf
/-- A list of cells, as an argument. -/
theorem open_cellsArg {H : Type} {enc : TypeId × Value → H} {W : World} {v : Value} {d : DataW H} {p : List MemPlace} (hv : v.cells.toList = [v]) (h : DataW.Trod enc Try.prog W 0 (fun _ => true) true 22 v d p) :
    ∃ (L : List HC) (A : Option Addr) (c : Nat), v = .slice A L.length c ∧ Flat 3 (hcsL L) A L.length c W ∧ L.length ≤ 9223372036854775807 ∧ L.length < Rows.uptoBulk d := by
  obtain ⟨fuel, hf⟩ := h
  rw [hv] at hf
  exact open_cellsT hf
/-- A heap, as an argument. -/
theorem open_heapArg {H : Type} {enc : TypeId × Value → H} {W : World} {b : Nat} {v : Value} {d : DataW H} {p : List MemPlace} (hok : Value.okWide Try.prog W .any b 25 v) (h : DataW.Trod enc Try.prog W 0 (fun _ => true) true 25 v d p) :
    ∃ (h : HH) (A : Option Addr) (c : Nat) (B : Option Addr) (e : Nat), v = hv h A c B e ∧ HFl h A c B e W ∧ h.cs.length ≤ 9223372036854775807 ∧ h.tr.length ≤ 9223372036854775807 ∧ h.cs.length + h.tr.length < Rows.uptoBulk d := by
  obtain ⟨fuel, h⟩ := h
  obtain ⟨cs, rfl, hsz⟩ := okWide_struct Try.underlying25 hok
  obtain ⟨xs, m, _, hx, hlen, hxl, hf⟩ := DataW.trod_struct Try.underlying25 h
  rw [cells_heap] at hlen
  obtain ⟨cs⟩ := cs
  replace hf : ∀ i fd, _ → _ := hf
  have f0 : DataW.trod enc Try.prog W 0 (fun _ => true) true m 22 ((cs.drop 0).take (Try.prog.cellsOf 22)) = xs[0]? := hf 0 _ rfl
  have f1 : DataW.trod enc Try.prog W 0 (fun _ => true) true m 23 ((cs.drop 1).take (Try.prog.cellsOf 23)) = xs[1]? := hf 1 _ rfl
  rw [cells_ccells] at f0
  rw [cells_ints] at f1
  replace hlen : cs.length = 2 := hlen
  match cs, hlen, xs, hxl, hx with
  | [c0, c1], _, [y0, y1], _, hx =>
    simp only [List.drop_zero, List.drop_succ_cons, List.take_succ_cons, List.take_zero, List.getElem?_cons_zero, List.getElem?_cons_succ] at f0 f1
    obtain ⟨L, A, c, rfl, hL, hl, hlb⟩ := open_cellsT f0
    obtain ⟨T, B, e, rfl, hT, ht, htb⟩ := open_intsT f1
    have hd := congrArg (fun q => Rows.uptoBulk q.1) hx
    simp only [List.map_cons, List.map_nil, Rows.uptoBulk, Rows.uptoBulkAll] at hd
    exact ⟨⟨L, T⟩, A, c, B, e, rfl, ⟨hL, hT⟩, hl, ht, by show L.length + T.length < _; omega⟩
end Go.Proofs.Ytjicoifjgokoiab
