/- SameC, RefC2, RefC3, CTerm, RefC4, CodesL, LCodeB: texts that follow one another, laid into one file. -/
import Derived.Test.YtdflngjfnpbpmabDoorG5
import Derived.Test.YtdflngjfnpbpmabDoorG0
import Derived.Test.YtdflngjfnpbpmabDoorG1
namespace Go.Proofs.YtdflngjfnpbpmabDoor
open Go.RowKit
set_option linter.unusedVariables false
set_option linter.unusedSimpArgs false
set_option maxRecDepth 100000
set_option maxHeartbeats 1000000

theorem sameCells_eq (L : List HC) (A B : Option Addr) (c d : Nat) (w : World) (hL : Flat 3 (hcsL L) A L.length c w) (hK : Flat 3 (hcsL L) B L.length d w) (hl : L.length ≤ 9223372036854775807) :
    Calls Tryd.prog 21 #[.slice A L.length c, .slice B L.length d] w fun e w' => e = .returned (.bool true) ∧ Below w.heap.size w w' := by
  have hS := ((St.start w).flat (M := []) hL).flat (M := []) hK
  refine goes_enter2 Tryd.func21 rfl Tryd.ntmps21 rfl ?_
  refine goes_seq ?_
  refine goes_region ?_
  refine lst_run (run_assign (by conv => lhs; whnf)) rfl ?_
  refine lst_done ?_
  refine goes_seq ?_
  refine goes_seq ?_
  refine goes_region ?_
  refine lst_run (run_move (by conv => lhs; whnf)) rfl ?_
  refine lst_run (run_len_slice rfl rfl rfl) rfl ?_
  refine lst_run (run_move (by conv => lhs; whnf)) rfl ?_
  refine lst_run (run_len_slice rfl rfl rfl) rfl ?_
  first
    | refine lst_run (run_neq_one_int rfl rfl) rfl ?_
    | refine lst_run (run_neq_no rfl rfl (by first | assumption | omega)) rfl ?_
    | refine lst_run (run_neq_yes rfl rfl (by omega)) rfl ?_
    | refine lst_run (rfl) rfl ?_
  refine lst_done ?_
  refine goes_false rfl ?_
  refine goes_skip ?_
  refine goes_seq ?_
  refine goes_seq ?_
  refine goes_region ?_
  refine lst_run (run_move (by conv => lhs; whnf)) rfl ?_
  refine lst_run (run_len_slice rfl rfl rfl) rfl ?_
  refine lst_run (run_move (by conv => lhs; whnf)) rfl ?_
  refine lst_done ?_
  refine goes_block ?_
  refine goes_loop1 13 (14 :: 15 :: 5 :: 16 :: 17 :: 18 :: 19 :: 20 :: 21 :: 22 :: 23 :: 24 :: 4 :: 25 :: []) (fun (R : List HC) v w' => ∃ D, L = D ++ R ∧ v = .int .i64 (D.length : Nat) ∧ St [] w [] [Flat 3 (hcsL L) B L.length d, Flat 3 (hcsL L) A L.length c] w') (fun R => R.length) (L) ?_ (by conv => lhs; whnf) ?_
  · exact ⟨[], rfl, rfl, hS⟩
  clear hS
  rintro R _ w2 jv ⟨D, hD, rfl, hS⟩ ih
  have hlen : L.length = D.length + R.length := by rw [hD]; simp
  cases R with
  | nil =>
    simp only [List.length_nil] at hlen
    refine goes_seq ?_
    refine goes_region ?_
    first
      | refine lst_run (run_lss_yes rfl rfl (by omega)) rfl ?_
      | refine lst_run (run_lss_no rfl rfl (by omega)) rfl ?_
      | refine lst_run (rfl) rfl ?_
    refine lst_done ?_
    refine goes_seq ?_
    refine goes_false rfl ?_
    refine goes_exit rfl ?_
    refine goes_seq ?_
    refine goes_region ?_
    refine lst_run (run_assign (by conv => lhs; whnf)) rfl ?_
    refine lst_done ?_
    refine goes_ret1 Tryd.func21 rfl (by conv => lhs; whnf) ?_
    exact ⟨rfl, hS.ext.below⟩
  | cons x R =>
    simp only [List.length_cons] at hlen
    obtain ⟨b, o, rfl⟩ := hL.some_ (by omega)
    obtain ⟨b2, o2, rfl⟩ := hK.some_ (by omega)
    have hx : L[D.length]? = some x := by rw [hD]; simp
    have hcc : ∀ {H'} w', St [] w H' [Flat 3 (hcsL L) (some ⟨b2, o2, none⟩) L.length d, Flat 3 (hcsL L) (some ⟨b, o, none⟩) L.length c] w' → _ := fun w' hS => (hS.fact (.head _)).cell hx
    have hcd : ∀ {H'} w', St [] w H' [Flat 3 (hcsL L) (some ⟨b2, o2, none⟩) L.length d, Flat 3 (hcsL L) (some ⟨b, o, none⟩) L.length c] w' → _ := fun w' hS => (hS.fact (.tail _ (.head _))).cell hx
    refine goes_seq ?_
    refine goes_region ?_
    first
      | refine lst_run (run_lss_yes rfl rfl (by omega)) rfl ?_
      | refine lst_run (run_lss_no rfl rfl (by omega)) rfl ?_
      | refine lst_run (rfl) rfl ?_
    refine lst_done ?_
    refine goes_seq ?_
    refine goes_true rfl ?_
    refine goes_skip ?_
    refine goes_seq ?_
    refine goes_block ?_
    refine goes_seq ?_
    refine goes_region ?_
    refine lst_run (run_move (by conv => lhs; whnf)) rfl ?_
    refine lst_run (run_assign (by conv => lhs; whnf)) rfl ?_
    refine lst_done ?_
    refine goes_seq ?_
    refine goes_draw (St _ _ _ _) 9 ((0, true) :: (1, true) :: (2, true) :: (3, true) :: (4, true) :: (5, true) :: (6, true) :: (7, true) :: (8, true) :: []) (by kernel_rfl) (by kernel_rfl) (hS.drew) ?_
    replace hS := hS.drew
    refine ord_read rfl (fun _ hS => run_move (by conv => lhs; whnf)) rfl ?_
    refine ord_read rfl (fun _ hS => run_move (by conv => lhs; whnf)) rfl ?_
    refine ord_read rfl (fun _ hS => run_indexAddr (sz := 3) rfl rfl rfl rfl (by omega) (by omega)) rfl ?_
    first
      | refine ord_read rfl (fun _ hS => run_loadN_own (k := 3) hS rfl rfl rfl (by first | exact .head | exact .tail .head | exact .tail (.tail .head) | exact .tail (.tail (.tail .head)) | exact .tail (.tail (.tail (.tail .head))) | exact .tail (.tail (.tail (.tail (.tail .head))))) (by repeat constructor)) rfl ?_
      | refine ord_read rfl (fun _ hS => run_load3 rfl rfl rfl (by first | assumption | exact (hcc _ hS).1 | exact (hcc _ hS).2.1 | exact (hcc _ hS).2.2 | exact (hcd _ hS).1 | exact (hcd _ hS).2.1 | exact (hcd _ hS).2.2 | exact hS.cell0 (by assumption)) (by first | assumption | exact (hcc _ hS).1 | exact (hcc _ hS).2.1 | exact (hcc _ hS).2.2 | exact (hcd _ hS).1 | exact (hcd _ hS).2.1 | exact (hcd _ hS).2.2 | exact hS.cell0 (by assumption)) (by first | assumption | exact (hcc _ hS).1 | exact (hcc _ hS).2.1 | exact (hcc _ hS).2.2 | exact (hcd _ hS).1 | exact (hcd _ hS).2.1 | exact (hcd _ hS).2.2 | exact hS.cell0 (by assumption))) rfl ?_
    refine ord_read rfl (fun _ hS => run_move (by conv => lhs; whnf)) rfl ?_
    refine ord_read rfl (fun _ hS => run_move (by conv => lhs; whnf)) rfl ?_
    refine ord_read rfl (fun _ hS => run_indexAddr (sz := 3) rfl rfl rfl rfl (by omega) (by omega)) rfl ?_
    first
      | refine ord_read rfl (fun _ hS => run_loadN_own (k := 3) hS rfl rfl rfl (by first | exact .head | exact .tail .head | exact .tail (.tail .head) | exact .tail (.tail (.tail .head)) | exact .tail (.tail (.tail (.tail .head))) | exact .tail (.tail (.tail (.tail (.tail .head))))) (by repeat constructor)) rfl ?_
      | refine ord_read rfl (fun _ hS => run_load3 rfl rfl rfl (by first | assumption | exact (hcc _ hS).1 | exact (hcc _ hS).2.1 | exact (hcc _ hS).2.2 | exact (hcd _ hS).1 | exact (hcd _ hS).2.1 | exact (hcd _ hS).2.2 | exact hS.cell0 (by assumption)) (by first | assumption | exact (hcc _ hS).1 | exact (hcc _ hS).2.1 | exact (hcc _ hS).2.2 | exact (hcd _ hS).1 | exact (hcd _ hS).2.1 | exact (hcd _ hS).2.2 | exact hS.cell0 (by assumption)) (by first | assumption | exact (hcc _ hS).1 | exact (hcc _ hS).2.1 | exact (hcc _ hS).2.2 | exact (hcd _ hS).1 | exact (hcd _ hS).2.1 | exact (hcd _ hS).2.2 | exact hS.cell0 (by assumption))) rfl ?_
    refine ord_read rfl (fun _ hS => run_neq_cell rfl rfl) rfl ?_
    refine ord_end ?_
    refine lst_done ?_
    rw [decide_eq_true (rfl : x = x)]
    refine goes_false rfl ?_
    refine goes_skip ?_
    refine goes_inBlock ?_
    refine goes_region ?_
    refine lst_run (run_add rfl rfl (by omega) (by omega)) rfl ?_
    refine lst_run (run_move (by conv => lhs; whnf)) rfl ?_
    refine lst_done ?_
    refine ih (R) _ _ _ ?_ ?_ (by conv => lhs; whnf) (by kernel_rfl)
    · simp
    · exact ⟨D ++ [x], by rw [hD]; simp, by simp, hS⟩
end Go.Proofs.YtdflngjfnpbpmabDoor
namespace Go.Proofs.YtdflngjfnpbpmabDoor
open Go.RowKit
set_option linter.unusedVariables false
set_option linter.unusedSimpArgs false
set_option maxRecDepth 100000
set_option maxHeartbeats 1000000

abbrev bobC (A : Option Addr) (n c : Nat) (vars hd : Int) (B : Option Addr) (m d : Nat) : Obj := .cells [.slice A n c, .int .i64 vars, .int .i64 hd, .slice B m d].toArray 30
section
variable {M : List Nat} {w0 : World} {H : List (Nat × Obj)} {F : List (World → Prop)}
theorem blockOf_any (T : TA) (v : Nat) (A : Option Addr) (c : Nat) (w : World) (hv8 : v ≤ 8) (hA : Und F (ArA A c T)) (hg : T.ts.goals (v : Nat) = true) (hb : 2 * T.ts.nodes ≤ 900000) (hS : St M w0 H F w) :
    Calls Tryd.prog 18 #[.slice A T.len c, .int .i64 (v : Nat)] w fun e w' => ∃ (A' B' : Option Addr) (c' d' : Nat) (O' O2 : List (Nat × Obj)), e = .returned (bv A' (varsB v ++ (layL T.ts (varsB v).length).1).length c' (v : Nat) (-1) B' (layL T.ts (varsB v).length).2.length d') ∧
      Rw 50 3 (.slice A' (varsB v ++ (layL T.ts (varsB v).length).1).length c') (varsB v ++ (layL T.ts (varsB v).length).1).length (hcsL (varsB v ++ (layL T.ts (varsB v).length).1)) O' ∧ Rw 3 1 (.slice B' (layL T.ts (varsB v).length).2.length d') (layL T.ts (varsB v).length).2.length (intsV (layL T.ts (varsB v).length).2) O2 ∧ St M w0 (O' ++ (O2 ++ H)) F w' := by
  have hln := Ts.length_le T.ts
  rw [TA.len_ts] at hln
  refine goes_enter2 Tryd.func18 rfl Tryd.ntmps18 rfl ?_
  refine goes_seq ?_
  refine goes_region ?_
  refine lst_alloc (cs := [_, _, _, _]) hS rfl rfl rfl ?_
  clear hS
  intro b1 wx1 hS
  refine lst_done ?_
  refine goes_seq ?_
  refine goes_region ?_
  refine lst_run (run_move (by conv => lhs; whnf)) rfl ?_
  refine lst_run (run_build (cells := [_, _, _, _]) (.cons (by conv => lhs; whnf) (.cons (by conv => lhs; whnf) .nil)) rfl) rfl ?_
  refine lst_alloc (cs := [_, _, _, _]) hS rfl rfl rfl ?_
  clear hS
  intro b2 wx2 hS
  refine lst_storeN hS rfl (by conv => lhs; whnf) rfl rfl (by first | exact .head | exact .tail .head | exact .tail (.tail .head) | exact .tail (.tail (.tail .head)) | exact .tail (.tail (.tail (.tail .head))) | exact .tail (.tail (.tail (.tail (.tail .head))))) (by repeat constructor) (by first | exact .head | exact .tail .head | exact .tail (.tail .head) | exact .tail (.tail (.tail .head)) | exact .tail (.tail (.tail (.tail .head))) | exact .tail (.tail (.tail (.tail (.tail .head))))) ?_
  clear hS
  intro wx3 hS
  refine lst_done ?_
  refine goes_seq ?_
  refine goes_seq ?_
  refine goes_region ?_
  refine lst_run (run_move (by conv => lhs; whnf)) rfl ?_
  refine lst_run (run_move (by conv => lhs; whnf)) rfl ?_
  refine lst_done ?_
  refine goes_block ?_
  refine goes_loop1 13 (14 :: 15 :: 6 :: 16 :: 17 :: 18 :: 19 :: 20 :: 21 :: 22 :: 23 :: []) (fun (m : Nat) y w' => ∃ (i : Nat) (Au : Option Addr) (cu : Nat) (Ou : List (Nat × Obj)), i + m = v ∧ y = .int .i64 (i : Nat) ∧ Rw 50 3 (.slice Au i cu) i (hcsL (varsF i 0)) Ou ∧ St M w0 ((b2, bobC Au i cu (v : Nat) (-1) none 0 0) :: (b1, bobC none 0 0 0 0 none 0 0) :: (Ou ++ H)) F w') (fun m => m) (v) ?_ (by conv => lhs; whnf) ?_
  · exact ⟨0, none, 0, [], by omega, rfl, Rw.zero_, hS⟩
  clear hS
  rintro m _ w2 jv ⟨i, Au, cu, Ou, him, rfl, hrow, hS⟩ ih
  cases m with
  | succ m =>
    refine goes_seq ?_
    refine goes_region ?_
    first
      | refine lst_run (run_lss_yes rfl rfl (by omega)) rfl ?_
      | refine lst_run (run_lss_no rfl rfl (by omega)) rfl ?_
      | refine lst_run (rfl) rfl ?_
    refine lst_done ?_
    refine goes_seq ?_
    refine goes_true rfl ?_
    refine goes_skip ?_
    refine goes_seq ?_
    refine goes_block ?_
    refine goes_seq ?_
    refine goes_region ?_
    refine lst_run (run_move (by conv => lhs; whnf)) rfl ?_
    refine lst_run (run_assign (by conv => lhs; whnf)) rfl ?_
    refine lst_done ?_
    refine goes_region ?_
    refine lst_run (run_fieldAddr (off := 0) rfl rfl) rfl ?_
    first
      | refine lst_run (run_load1_own hS rfl rfl (by first | exact .head | exact .tail .head | exact .tail (.tail .head) | exact .tail (.tail (.tail .head)) | exact .tail (.tail (.tail (.tail .head))) | exact .tail (.tail (.tail (.tail (.tail .head))))) (by repeat constructor)) rfl ?_
      | refine lst_run (run_load1 rfl rfl (by first | assumption | exact hS.cell0 (by assumption) | exact lv_next hS | exact lv_list hS)) rfl ?_
    refine lst_run (run_move (by conv => lhs; whnf)) rfl ?_
    refine lst_run (run_build (cells := [_, _, _]) (.cons (by conv => lhs; whnf) .nil) rfl) rfl ?_
    refine lst_buildSlice (cells := [_, _, _]) hS (.cons (by conv => lhs; whnf) .nil) rfl rfl ?_
    clear hS
    intro b3 wx4 hS
    refine lst_appC (L := [⟨0, (i : Nat), eS⟩]) hS (by conv => lhs; whnf) (by rfl) rfl rfl rfl (Flat.own (sp := []) (hS.own (_, _) (.head _)) rfl (Nat.le_refl _)) hrow (List.perm_append_comm_assoc [_, _, _] Ou _) (by show _ + 1 ≤ _; omega) rfl ?_
    clear hS
    intro v8 O8 w8 hrow8 hS
    obtain ⟨B8, d8, rfl, _⟩ := hrow8.form
    replace hS := (hS.perm (List.perm_append_comm_assoc O8 [_, _, _] _)).drop
    refine lst_run (run_fieldAddr (off := 0) rfl rfl) rfl ?_
    refine lst_store1 hS rfl (by conv => lhs; whnf) rfl rfl (by first | exact .head | exact .tail .head | exact .tail (.tail .head) | exact .tail (.tail (.tail .head)) | exact .tail (.tail (.tail (.tail .head))) | exact .tail (.tail (.tail (.tail (.tail .head))))) (by repeat constructor) (by first | exact .head | exact .tail .head | exact .tail (.tail .head) | exact .tail (.tail (.tail .head)) | exact .tail (.tail (.tail (.tail .head))) | exact .tail (.tail (.tail (.tail (.tail .head))))) ?_
    clear hS
    intro wx5 hS
    refine lst_done ?_
    refine goes_inBlock ?_
    refine goes_region ?_
    refine lst_run (run_add rfl rfl (by omega) (by omega)) rfl ?_
    refine lst_run (run_move (by conv => lhs; whnf)) rfl ?_
    refine lst_done ?_
    refine ih (m) _ _ _ ?_ ?_ (by conv => lhs; whnf) (by kernel_rfl)
    · omega
    · refine ⟨i + 1, B8, d8, O8, by omega, by simp, ?_, hS⟩
      rw [varsF_snoc, hcsL_app, Nat.zero_add]; exact hrow8
  | zero =>
  obtain rfl : i = v := by omega
  clear ih
  refine goes_seq ?_
  refine goes_region ?_
  first
    | refine lst_run (run_lss_yes rfl rfl (by omega)) rfl ?_
    | refine lst_run (run_lss_no rfl rfl (by omega)) rfl ?_
    | refine lst_run (rfl) rfl ?_
  refine lst_done ?_
  refine goes_seq ?_
  refine goes_false rfl ?_
  refine goes_exit rfl ?_
  refine goes_seq ?_
  refine goes_seq ?_
  refine goes_region ?_
  refine lst_run (run_move (by conv => lhs; whnf)) rfl ?_
  refine lst_run (run_len_slice rfl rfl rfl) rfl ?_
  refine lst_run (run_move (by conv => lhs; whnf)) rfl ?_
  refine lst_done ?_
  refine goes_block ?_
  have hrow0 : Rw 50 3 (.slice Au (varsB i ++ (layL Ts.nil (varsB i).length).1).length cu) (varsB i ++ (layL Ts.nil (varsB i).length).1).length (hcsL (varsB i ++ (layL Ts.nil (varsB i).length).1)) Ou := by
    rw [show varsB i ++ (layL Ts.nil (varsB i).length).1 = varsF i 0 by simp [layL, varsB], varsF_len]; exact hrow
  have hl0 : (varsB i ++ (layL Ts.nil (varsB i).length).1).length = i := by simp [layL, varsB_len]
  refine goes_loop1 26 (27 :: 28 :: 29 :: 8 :: 9 :: 31 :: 32 :: 33 :: 34 :: 30 :: 35 :: 36 :: 37 :: 38 :: 39 :: 40 :: 41 :: 42 :: 43 :: 44 :: []) (fun (R : TA) y w' => ∃ (D : TA) (Au Bu : Option Addr) (cu du : Nat) (Ou Og : List (Nat × Obj)), T = D.app R ∧ y = .int .i64 (D.len : Nat) ∧ Rw 50 3 (.slice Au (varsB i ++ (layL D.ts (varsB i).length).1).length cu) (varsB i ++ (layL D.ts (varsB i).length).1).length (hcsL (varsB i ++ (layL D.ts (varsB i).length).1)) Ou ∧ Rw 3 1 (.slice Bu (layL D.ts (varsB i).length).2.length du) (layL D.ts (varsB i).length).2.length (intsV (layL D.ts (varsB i).length).2) Og ∧ St M w0 ((b2, bobC Au (varsB i ++ (layL D.ts (varsB i).length).1).length cu (i : Nat) (-1) Bu (layL D.ts (varsB i).length).2.length du) :: (b1, bobC none 0 0 0 0 none 0 0) :: (Ou ++ (Og ++ H))) F w') (fun R => R.len) (T) ?_ (by conv => lhs; whnf) ?_
  · exact ⟨.nil, Au, none, cu, 0, Ou, [], rfl, rfl, hrow0, Rw.zero_, by rw [show TA.nil.ts = Ts.nil from rfl, hl0]; exact hS⟩
  clear hS hrow hrow0 hl0
  rintro R _ w3 jv2 ⟨D, Au, Bu, cu, du, Ou, Og, hD, rfl, hrow, hrowg, hS⟩ ih
  have hlen : T.len = D.len + R.len := by rw [hD, TA.len_app]
  have hTn : T.ts.nodes = D.ts.nodes + R.ts.nodes := by rw [hD, TA.app_ts, Ts.nodes_app]
  have hle := layL_le D.ts (varsB i).length
  have hgl := layL_len D.ts (varsB i).length
  have hDl := TA.len_ts D
  have hvl := varsB_len i
  have hXl : (varsB i ++ (layL D.ts (varsB i).length).1).length = (varsB i).length + (layL D.ts (varsB i).length).1.length := List.length_append
  cases R with
  | nil =>
    have hTD : T = D := by rw [hD, TA.app_nil]
    subst hTD
    refine goes_seq ?_
    refine goes_region ?_
    first
      | refine lst_run (run_lss_yes rfl rfl (by omega)) rfl ?_
      | refine lst_run (run_lss_no rfl rfl (by omega)) rfl ?_
      | refine lst_run (rfl) rfl ?_
    refine lst_done ?_
    refine goes_seq ?_
    refine goes_false rfl ?_
    refine goes_exit rfl ?_
    refine goes_seq ?_
    refine goes_region ?_
    first
      | refine lst_run (run_loadN_own (k := 4) hS rfl rfl rfl (by first | exact .head | exact .tail .head | exact .tail (.tail .head) | exact .tail (.tail (.tail .head)) | exact .tail (.tail (.tail (.tail .head))) | exact .tail (.tail (.tail (.tail (.tail .head))))) (by repeat constructor)) rfl ?_
      | refine lst_run (run_load4 rfl rfl rfl (by first | assumption | exact hS.cell0 (by assumption)) (by first | assumption | exact hS.cell0 (by assumption)) (by first | assumption | exact hS.cell0 (by assumption)) (by first | assumption | exact hS.cell0 (by assumption))) rfl ?_
    refine lst_storeN hS rfl (by conv => lhs; whnf) rfl rfl (by first | exact .head | exact .tail .head | exact .tail (.tail .head) | exact .tail (.tail (.tail .head)) | exact .tail (.tail (.tail (.tail .head))) | exact .tail (.tail (.tail (.tail (.tail .head))))) (by repeat constructor) (by first | exact .head | exact .tail .head | exact .tail (.tail .head) | exact .tail (.tail (.tail .head)) | exact .tail (.tail (.tail (.tail .head))) | exact .tail (.tail (.tail (.tail (.tail .head))))) ?_
    clear hS
    intro wx4 hS
    refine lst_done ?_
    refine goes_retC (sz := 4) hS Tryd.func18 rfl rfl rfl rfl (by first | exact .head | exact .tail .head | exact .tail (.tail .head) | exact .tail (.tail (.tail .head)) | exact .tail (.tail (.tail (.tail .head))) | exact .tail (.tail (.tail (.tail (.tail .head))))) (by repeat constructor) ?_
    exact ⟨Au, Bu, cu, du, Ou, Og, rfl, hrow, hrowg, hS.drop.drop⟩
  | cons k1 n1 s1 Aa ca a1 r =>
    have hRl : (TA.cons k1 n1 s1 Aa ca a1 r).len = r.len + 1 := rfl
    have hR1 : (TA.cons k1 n1 s1 Aa ca a1 r).ts.nodes = a1.ts.nodes + r.ts.nodes + 1 := rfl
    have hgg : gB (i : Nat) k1 n1 s1 a1.ts = true := by
      have := hg
      rw [hD, TA.app_ts, Ts.goals_app] at this
      simp only [TA.ts, Ts.goals, Bool.and_eq_true] at this
      exact this.2.1
    have hg1 : (Ts.cons k1 n1 s1 a1.ts .nil).good (i : Nat) = true := by
      simp only [gB, Bool.and_eq_true] at hgg; exact hgg.1.2
    have hk1 : k1 = 1 ∨ k1 = 3 := by
      simp only [gB, goalB, Bool.and_eq_true, Bool.or_eq_true, decide_eq_true_eq] at hgg; exact hgg.1.1
    have hA' : Und F (ArA A c (D.app (.cons k1 n1 s1 Aa ca a1 r))) := by rw [← hD]; exact hA
    obtain ⟨bk, ok, rfl⟩ := (hS.und hA').some_ (by rw [TA.len_app]; simp only [TA.len]; omega)
    have hcc : ∀ {H'} w', St M w0 H' F w' → _ := fun w' hS => (hS.und hA').cells
    have hsub : Und F (ArA Aa ca a1) := fun w hw => (hA' w hw).sub
    refine goes_seq ?_
    refine goes_region ?_
    first
      | refine lst_run (run_lss_yes rfl rfl (by omega)) rfl ?_
      | refine lst_run (run_lss_no rfl rfl (by omega)) rfl ?_
      | refine lst_run (rfl) rfl ?_
    refine lst_done ?_
    refine goes_seq ?_
    refine goes_true rfl ?_
    refine goes_skip ?_
    refine goes_seq ?_
    refine goes_block ?_
    refine goes_seq ?_
    refine goes_region ?_
    refine lst_run (run_indexAddr (sz := 4) rfl rfl rfl rfl (by omega) (by omega)) rfl ?_
    first
      | refine lst_run (run_loadN_own (k := 4) hS rfl rfl rfl (by first | exact .head | exact .tail .head | exact .tail (.tail .head) | exact .tail (.tail (.tail .head)) | exact .tail (.tail (.tail (.tail .head))) | exact .tail (.tail (.tail (.tail (.tail .head))))) (by repeat constructor)) rfl ?_
      | refine lst_run (run_load4 rfl rfl rfl (by first | assumption | exact (hcc _ hS).1 | exact (hcc _ hS).2.1 | exact (hcc _ hS).2.2.1 | exact (hcc _ hS).2.2.2 | exact hS.cell0 (by assumption)) (by first | assumption | exact (hcc _ hS).1 | exact (hcc _ hS).2.1 | exact (hcc _ hS).2.2.1 | exact (hcc _ hS).2.2.2 | exact hS.cell0 (by assumption)) (by first | assumption | exact (hcc _ hS).1 | exact (hcc _ hS).2.1 | exact (hcc _ hS).2.2.1 | exact (hcc _ hS).2.2.2 | exact hS.cell0 (by assumption)) (by first | assumption | exact (hcc _ hS).1 | exact (hcc _ hS).2.1 | exact (hcc _ hS).2.2.1 | exact (hcc _ hS).2.2.2 | exact hS.cell0 (by assumption))) rfl ?_
    refine lst_alloc (cs := [_, _, _, _]) hS rfl rfl rfl ?_
    clear hS
    intro b3 wx4 hS
    refine lst_storeN hS rfl (by conv => lhs; whnf) rfl rfl (by first | exact .head | exact .tail .head | exact .tail (.tail .head) | exact .tail (.tail (.tail .head)) | exact .tail (.tail (.tail (.tail .head))) | exact .tail (.tail (.tail (.tail (.tail .head))))) (by repeat constructor) (by first | exact .head | exact .tail .head | exact .tail (.tail .head) | exact .tail (.tail (.tail .head)) | exact .tail (.tail (.tail (.tail .head))) | exact .tail (.tail (.tail (.tail (.tail .head))))) ?_
    clear hS
    intro wx5 hS
    refine lst_done ?_
    refine goes_seq ?_
    refine goes_region ?_
    refine lst_run (run_assign (by conv => lhs; whnf)) rfl ?_
    refine lst_done ?_
    refine goes_seq ?_
    refine goes_region ?_
    refine lst_run (run_fieldAddr (off := 0) rfl rfl) rfl ?_
    first
      | refine lst_run (run_load1_own hS rfl rfl (by first | exact .head | exact .tail .head | exact .tail (.tail .head) | exact .tail (.tail (.tail .head)) | exact .tail (.tail (.tail (.tail .head))) | exact .tail (.tail (.tail (.tail (.tail .head))))) (by repeat constructor)) rfl ?_
      | refine lst_run (run_load1 rfl rfl (by first | assumption | exact (hcc _ hS).1 | exact (hcc _ hS).2.1 | exact (hcc _ hS).2.2.1 | exact (hcc _ hS).2.2.2 | exact hS.cell0 (by assumption) | exact lv_next hS | exact lv_list hS)) rfl ?_
    first
      | refine lst_run (run_loadN_own (k := 4) hS rfl rfl rfl (by first | exact .head | exact .tail .head | exact .tail (.tail .head) | exact .tail (.tail (.tail .head)) | exact .tail (.tail (.tail (.tail .head))) | exact .tail (.tail (.tail (.tail (.tail .head))))) (by repeat constructor)) rfl ?_
      | refine lst_run (run_load4 rfl rfl rfl (by first | assumption | exact (hcc _ hS).1 | exact (hcc _ hS).2.1 | exact (hcc _ hS).2.2.1 | exact (hcc _ hS).2.2.2 | exact hS.cell0 (by assumption)) (by first | assumption | exact (hcc _ hS).1 | exact (hcc _ hS).2.1 | exact (hcc _ hS).2.2.1 | exact (hcc _ hS).2.2.2 | exact hS.cell0 (by assumption)) (by first | assumption | exact (hcc _ hS).1 | exact (hcc _ hS).2.1 | exact (hcc _ hS).2.2.1 | exact (hcc _ hS).2.2.2 | exact hS.cell0 (by assumption)) (by first | assumption | exact (hcc _ hS).1 | exact (hcc _ hS).2.1 | exact (hcc _ hS).2.2.1 | exact (hcc _ hS).2.2.2 | exact hS.cell0 (by assumption))) rfl ?_
    refine lst_enter (run_call (by kernel_rfl) (args_2 (by conv => lhs; whnf) (by conv => lhs; whnf))) rfl ?_
    refine Calls.mono (laid_said a1 M w0 _ F (i : Nat) k1 n1 s1 Aa ca _ _ _ _ hsub hg1 hk1 (by omega) hrow (hS.perm (List.perm_append_comm_assoc [_, _, _] Ou _))) ?_
    rintro _ w6 ⟨A6, c6, O6, rfl, hrow6, hS'⟩
    refine ⟨_, rfl, ?_⟩
    replace hS := hS'
    clear hS'
    replace hS := hS.perm (List.perm_append_comm_assoc O6 [_, _, _] _)
    refine lst_run (run_move (by conv => lhs; whnf)) rfl ?_
    refine lst_run (run_extract rfl rfl) rfl ?_
    refine lst_run (run_extract rfl rfl) rfl ?_
    refine lst_run (run_fieldAddr (off := 0) rfl rfl) rfl ?_
    refine lst_store1 hS rfl (by conv => lhs; whnf) rfl rfl (by first | exact .head | exact .tail .head | exact .tail (.tail .head) | exact .tail (.tail (.tail .head)) | exact .tail (.tail (.tail (.tail .head))) | exact .tail (.tail (.tail (.tail (.tail .head))))) (by repeat constructor) (by first | exact .head | exact .tail .head | exact .tail (.tail .head) | exact .tail (.tail (.tail .head)) | exact .tail (.tail (.tail (.tail .head))) | exact .tail (.tail (.tail (.tail (.tail .head))))) ?_
    clear hS
    intro wx6 hS
    refine lst_run (run_assign (by conv => lhs; whnf)) rfl ?_
    refine lst_done ?_
    refine goes_region ?_
    refine lst_run (run_fieldAddr (off := 3) rfl rfl) rfl ?_
    first
      | refine lst_run (run_load1_own hS rfl rfl (by first | exact .head | exact .tail .head | exact .tail (.tail .head) | exact .tail (.tail (.tail .head)) | exact .tail (.tail (.tail (.tail .head))) | exact .tail (.tail (.tail (.tail (.tail .head))))) (by repeat constructor)) rfl ?_
      | refine lst_run (run_load1 rfl rfl (by first | assumption | exact (hcc _ hS).1 | exact (hcc _ hS).2.1 | exact (hcc _ hS).2.2.1 | exact (hcc _ hS).2.2.2 | exact hS.cell0 (by assumption) | exact lv_next hS | exact lv_list hS)) rfl ?_
    refine lst_run (run_move (by conv => lhs; whnf)) rfl ?_
    refine lst_buildSlice (cells := [_]) hS (.cons (by conv => lhs; whnf) .nil) rfl rfl ?_
    clear hS
    intro b4 wx7 hS
    refine lst_appI (L := [(((varsB i ++ (layL D.ts (varsB i).length).1).length : Nat) : Int)]) hS (by conv => lhs; whnf) (by rfl) rfl rfl rfl (Flat.own (sp := []) (hS.own (_, _) (.head _)) rfl (Nat.le_refl _)) hrowg (permC [_, _, _, _] O6 Og _) (by show _ + 1 ≤ _; omega) rfl ?_
    clear hS
    intro v7 O7 w7 hrow7 hS
    obtain ⟨B7, d7, rfl, _⟩ := hrow7.form
    replace hS := (hS.perm (permC [_, _, _, _] O6 O7 _).symm).drop.drop
    have e1 : varsB i ++ (layL (D.ts.app (.cons k1 n1 s1 a1.ts .nil)) (varsB i).length).1 = varsB i ++ (layL D.ts (varsB i).length).1 ++ lay1 k1 n1 s1 a1.ts (varsB i ++ (layL D.ts (varsB i).length).1).length := by
      rw [layL_app, List.length_append]; simp [layL]
    have e2 : (layL (D.ts.app (.cons k1 n1 s1 a1.ts .nil)) (varsB i).length).2 = (layL D.ts (varsB i).length).2 ++ [(((varsB i ++ (layL D.ts (varsB i).length).1).length : Nat) : Int)] := by
      rw [layL_app, List.length_append]; simp [layL]
    have eD : (D.app (.cons k1 n1 s1 Aa ca a1 .nil)).ts = D.ts.app (.cons k1 n1 s1 a1.ts .nil) := TA.app_ts _ _
    have e3 : ((layL D.ts (varsB i).length).2 ++ [(((varsB i ++ (layL D.ts (varsB i).length).1).length : Nat) : Int)]).length = (layL D.ts (varsB i).length).2.length + [(((varsB i ++ (layL D.ts (varsB i).length).1).length : Nat) : Int)].length := List.length_append
    have e4 : intsV ((layL D.ts (varsB i).length).2 ++ [(((varsB i ++ (layL D.ts (varsB i).length).1).length : Nat) : Int)]) = intsV (layL D.ts (varsB i).length).2 ++ intsV [(((varsB i ++ (layL D.ts (varsB i).length).1).length : Nat) : Int)] := by simp [intsV]
    refine lst_run (run_fieldAddr (off := 3) rfl rfl) rfl ?_
    refine lst_store1 hS rfl (by conv => lhs; whnf) rfl rfl (by first | exact .head | exact .tail .head | exact .tail (.tail .head) | exact .tail (.tail (.tail .head)) | exact .tail (.tail (.tail (.tail .head))) | exact .tail (.tail (.tail (.tail (.tail .head))))) (by repeat constructor) (by first | exact .head | exact .tail .head | exact .tail (.tail .head) | exact .tail (.tail (.tail .head)) | exact .tail (.tail (.tail (.tail .head))) | exact .tail (.tail (.tail (.tail (.tail .head))))) ?_
    clear hS
    intro wx8 hS
    refine lst_done ?_
    refine goes_inBlock ?_
    refine goes_region ?_
    refine lst_run (run_add rfl rfl (by omega) (by omega)) rfl ?_
    refine lst_run (run_move (by conv => lhs; whnf)) rfl ?_
    refine lst_done ?_
    refine ih (r) _ _ _ ?_ ?_ (by conv => lhs; whnf) (by kernel_rfl)
    · omega
    · refine ⟨D.app (.cons k1 n1 s1 Aa ca a1 .nil), A6, B7, c6, d7, O6, O7, by rw [hD, TA.app_assoc]; rfl, by rw [TA.len_app]; rfl, ?_, ?_, ?_⟩
      · rw [eD, e1]; exact hrow6
      · rw [eD, e2, e3, e4]; exact hrow7
      · rw [eD, e1, e2, e3]; exact hS
end
end Go.Proofs.YtdflngjfnpbpmabDoor
namespace Go.Proofs.YtdflngjfnpbpmabDoor
open Go.RowKit
set_option linter.unusedVariables false
set_option linter.unusedSimpArgs false
set_option maxRecDepth 100000
set_option maxHeartbeats 1000000

/-- A block: cells, goals, variables, the head's place, the error. -/
structure BR where
  K : List HC
  G : List Int
  v : Int
  h : Int
  e : Int
def brC (c : Cl) : BR := if cB c = true then ⟨blockC c, goalsC c, c.vars, c.vars, 0⟩ else ⟨[], [], 0, 0, 1⟩
def brQ (vars : Int) (T : Ts) : BR := if qB vars T = true then ⟨blockQ vars T, goalsQ vars T, vars, -1, 0⟩ else ⟨[], [], 0, 0, 1⟩
def BRes (M : List Nat) (w0 : World) (H : List (Nat × Obj)) (F : List (World → Prop)) (r : BR) (e : Ending) (w : World) : Prop :=
  ∃ (A : Option Addr) (c : Nat) (B : Option Addr) (d : Nat) (F' : List (World → Prop)), e = .returned (.tuple #[bv A r.K.length c r.v r.h B r.G.length d, .int .i64 r.e]) ∧ (∀ φ ∈ F, φ ∈ F') ∧ Und F' (Flat 3 (hcsL r.K) A r.K.length c) ∧ Und F' (Flat 1 (intsV r.G) B r.G.length d) ∧ St M w0 H F' w
theorem Flat.tail1 {x : Int} {G : List Int} {b o c : Nat} {w : World} (h : Flat 1 (intsV (x :: G)) (some ⟨b, o, none⟩) (x :: G).length c w) : Flat 1 (intsV G) (some ⟨b, o + 1, none⟩) G.length (c - 1) w := by
  obtain ⟨h1, h2, h3⟩ := h
  refine ⟨by simp [intsV], by simp at h2; omega, fun hl => ⟨b, o + 1, rfl, fun j v hj => ?_⟩⟩
  obtain ⟨b', o', e, hc⟩ := h3 (by simp)
  simp only [Option.some.injEq, Addr.mk.injEq, and_true] at e
  obtain ⟨rfl, rfl⟩ := e
  rw [show o + 1 + j = o + (j + 1) by omega]
  exact hc (j + 1) v (by simpa [intsV] using hj)
section
variable {M : List Nat} {w0 : World} {H : List (Nat × Obj)} {F : List (World → Prop)}
theorem clauseR_any (k n vars : Int) (s : ByteArray) (hd bd : TA) (A1 A2 : Option Addr) (c1 c2 : Nat) (w : World) (h1 : Und F (ArA A1 c1 hd)) (h2 : Und F (ArA A2 c2 bd)) (h1n : hd.len ≤ 9223372036854775807) (h1w : hd.ts.wide) (h2n : bd.len ≤ 9223372036854775807) (h2w : bd.ts.wide) (hS : St M w0 H F w) :
    Calls Tryd.prog 4 #[.agg #[.int .i64 k, .int .i64 n, .string s, .slice A1 hd.len c1, .slice A2 bd.len c2, .int .i64 vars]] w (BRes M w0 H F (brC ⟨k, n, s, hd.ts, bd.ts, vars⟩)) := by
  cases hc : cB ⟨k, n, s, hd.ts, bd.ts, vars⟩ with
  | false =>
    rw [show brC ⟨k, n, s, hd.ts, bd.ts, vars⟩ = ⟨[], [], 0, 0, 1⟩ by unfold brC; rw [if_neg (by rw [hc]; decide)]]
    exact (clauseC_bad k n vars s hd bd A1 A2 c1 c2 w h1 h2 h1n h1w h2n h2w hc hS).mono fun e w' ⟨he, hS⟩ => ⟨none, 0, none, 0, F, he, fun _ h => h, fun _ _ => Flat.nil_ _ _ _, fun _ _ => Flat.nil_ _ _ _, hS⟩
  | true =>
    rw [show brC ⟨k, n, s, hd.ts, bd.ts, vars⟩ = ⟨blockC ⟨k, n, s, hd.ts, bd.ts, vars⟩, goalsC ⟨k, n, s, hd.ts, bd.ts, vars⟩, vars, vars, 0⟩ by unfold brC; rw [if_pos hc]]
    refine (clauseC_ok k n vars s hd bd A1 A2 c1 c2 w h1 h2 h1n h1w h2n h2w hc hS).mono fun e w' ⟨A', B', c', d', O, O2, he, r1, r2, hS⟩ => ?_
    exact ⟨A', c', B', d', _, he, fun _ h => .tail _ (.tail _ h), Und.head.tail, Und.head, St.freezeR r2 (St.freezeR r1 hS)⟩
theorem queryR_any (vars : Int) (T : TA) (A1 : Option Addr) (c1 : Nat) (w : World) (h1 : Und F (ArA A1 c1 T)) (h1n : T.len ≤ 9223372036854775807) (h1w : T.ts.wide) (hS : St M w0 H F w) :
    Calls Tryd.prog 7 #[.slice A1 T.len c1, .int .i64 vars] w (BRes M w0 H F (brQ vars T.ts)) := by
  cases hc : qB vars T.ts with
  | false =>
    rw [show brQ vars T.ts = ⟨[], [], 0, 0, 1⟩ by unfold brQ; rw [if_neg (by rw [hc]; decide)]]
    exact (queryC_bad vars T A1 c1 w h1 h1n h1w hc hS).mono fun e w' ⟨he, hS⟩ => ⟨none, 0, none, 0, F, he, fun _ h => h, fun _ _ => Flat.nil_ _ _ _, fun _ _ => Flat.nil_ _ _ _, hS⟩
  | true =>
    rw [show brQ vars T.ts = ⟨blockQ vars T.ts, goalsQ vars T.ts, vars, -1, 0⟩ by unfold brQ; rw [if_pos hc]]
    refine (queryC_ok vars T A1 c1 w h1 h1n h1w hc hS).mono fun e w' ⟨A', B', c', d', O, O2, he, r1, r2, hS⟩ => ?_
    exact ⟨A', c', B', d', _, he, fun _ h => .tail _ (.tail _ h), Und.head.tail, Und.head, St.freezeR r2 (St.freezeR r1 hS)⟩
theorem queryBlock_any (vars : Int) (T : TA) (A1 : Option Addr) (c1 : Nat) (w : World) (h1 : Und F (ArA A1 c1 T)) (hn : T.ts.nodes ≤ 1048576) (hS : St M w0 H F w) :
    Calls Tryd.prog 9 #[.slice A1 T.len c1, .int .i64 vars] w (BRes M w0 H F (brQ vars T.ts)) := by
  have hgc := fun w hS => isQuery_any vars T.ts (.slice A1 T.len c1) w hS hn
  refine goes_enter2 Tryd.func9 rfl Tryd.ntmps9 rfl ?_
  cases hc : qB vars T.ts with
  | false =>
    rw [hc] at hgc
    rw [show brQ vars T.ts = ⟨[], [], 0, 0, 1⟩ by unfold brQ; rw [if_neg (by rw [hc]; decide)]]
    refine goes_seq ?_
    refine goes_region ?_
    refine lst_alloc (cs := [_, _, _, _]) hS rfl rfl rfl ?_
    clear hS
    intro b1 wx1 hS
    refine lst_run (run_assign (by conv => lhs; whnf)) rfl ?_
    refine lst_done ?_
    refine goes_seq ?_
    refine goes_seq ?_
    refine goes_region ?_
    refine lst_run (run_move (by conv => lhs; whnf)) rfl ?_
    refine lst_run (run_move (by conv => lhs; whnf)) rfl ?_
    refine lst_enter (run_call (by kernel_rfl) (args_2 (by conv => lhs; whnf) (by conv => lhs; whnf))) rfl ?_
    refine Calls.mono (hgc _ (hS.und h1).sl) ?_
    rintro _ w2 ⟨rfl, hb2⟩
    refine ⟨_, rfl, ?_⟩
    replace hS := hS.grow hb2
    refine lst_run (rfl) rfl ?_
    refine lst_done ?_
    refine goes_true rfl ?_
    refine goes_seq ?_
    refine goes_region ?_
    refine lst_run (run_build (cells := [_, _, _, _]) .nil rfl) rfl ?_
    refine lst_storeN hS rfl (by conv => lhs; whnf) rfl rfl (by first | exact .head | exact .tail .head | exact .tail (.tail .head) | exact .tail (.tail (.tail .head)) | exact .tail (.tail (.tail (.tail .head))) | exact .tail (.tail (.tail (.tail (.tail .head))))) (by repeat constructor) (by first | exact .head | exact .tail .head | exact .tail (.tail .head) | exact .tail (.tail (.tail .head)) | exact .tail (.tail (.tail (.tail .head))) | exact .tail (.tail (.tail (.tail (.tail .head))))) ?_
    clear hS
    intro wx2 hS
    refine lst_run (run_assign (by conv => lhs; whnf)) rfl ?_
    refine lst_done ?_
    refine goes_retC2 (sz := 4) hS Tryd.func9 rfl rfl (by conv => lhs; whnf) rfl rfl (by first | exact .head | exact .tail .head | exact .tail (.tail .head) | exact .tail (.tail (.tail .head)) | exact .tail (.tail (.tail (.tail .head))) | exact .tail (.tail (.tail (.tail (.tail .head))))) (by repeat constructor) ?_
    exact ⟨none, 0, none, 0, F, rfl, fun _ h => h, fun _ _ => Flat.nil_ _ _ _, fun _ _ => Flat.nil_ _ _ _, hS.drop⟩
  | true =>
    rw [hc] at hgc
    obtain ⟨g0, g1, g2, g3⟩ := qB_iff hc
    have g6 := Ts.goals_nodes _ _ g3
    rw [show brQ vars T.ts = ⟨blockQ vars T.ts, goalsQ vars T.ts, vars, -1, 0⟩ by unfold brQ; rw [if_pos hc]]
    obtain ⟨v, rfl⟩ : ∃ v : Nat, vars = (v : Nat) := ⟨vars.toNat, by omega⟩
    have e1 : blockQ ((v : Nat) : Int) T.ts = varsB v ++ (layL T.ts (varsB v).length).1 := by simp only [blockQ, Int.toNat_natCast, varsB_len]
    have e2 : goalsQ ((v : Nat) : Int) T.ts = (layL T.ts (varsB v).length).2 := by simp only [goalsQ, Int.toNat_natCast, varsB_len]
    rw [e1, e2]
    refine goes_seq ?_
    refine goes_region ?_
    refine lst_alloc (cs := [_, _, _, _]) hS rfl rfl rfl ?_
    clear hS
    intro b1 wx1 hS
    refine lst_run (run_assign (by conv => lhs; whnf)) rfl ?_
    refine lst_done ?_
    refine goes_seq ?_
    refine goes_seq ?_
    refine goes_region ?_
    refine lst_run (run_move (by conv => lhs; whnf)) rfl ?_
    refine lst_run (run_move (by conv => lhs; whnf)) rfl ?_
    refine lst_enter (run_call (by kernel_rfl) (args_2 (by conv => lhs; whnf) (by conv => lhs; whnf))) rfl ?_
    refine Calls.mono (hgc _ (hS.und h1).sl) ?_
    rintro _ w2 ⟨rfl, hb2⟩
    refine ⟨_, rfl, ?_⟩
    replace hS := hS.grow hb2
    refine lst_run (rfl) rfl ?_
    refine lst_done ?_
    refine goes_false rfl ?_
    refine goes_skip ?_
    refine goes_seq ?_
    refine goes_region ?_
    refine lst_run (run_move (by conv => lhs; whnf)) rfl ?_
    refine lst_run (run_move (by conv => lhs; whnf)) rfl ?_
    refine lst_enter (run_call (by kernel_rfl) (args_2 (by conv => lhs; whnf) (by conv => lhs; whnf))) rfl ?_
    refine Calls.mono (blockOf_any T v A1 c1 _ (by omega) h1 g3 (by omega) hS) ?_
    rintro _ w5 ⟨A5, B5, c5, d5, O5, O6, rfl, hrow5, hrow6, hS'⟩
    refine ⟨_, rfl, ?_⟩
    replace hS := hS'
    clear hS'
    replace hS := St.freezeR hrow6 (St.freezeR hrow5 hS)
    refine lst_storeN hS rfl (by conv => lhs; whnf) rfl rfl (by first | exact .head | exact .tail .head | exact .tail (.tail .head) | exact .tail (.tail (.tail .head)) | exact .tail (.tail (.tail (.tail .head))) | exact .tail (.tail (.tail (.tail (.tail .head))))) (by repeat constructor) (by first | exact .head | exact .tail .head | exact .tail (.tail .head) | exact .tail (.tail (.tail .head)) | exact .tail (.tail (.tail (.tail .head))) | exact .tail (.tail (.tail (.tail (.tail .head))))) ?_
    clear hS
    intro wx2 hS
    refine lst_run (run_assign (by conv => lhs; whnf)) rfl ?_
    refine lst_done ?_
    refine goes_retC2 (sz := 4) hS Tryd.func9 rfl rfl (by conv => lhs; whnf) rfl rfl (by first | exact .head | exact .tail .head | exact .tail (.tail .head) | exact .tail (.tail (.tail .head)) | exact .tail (.tail (.tail (.tail .head))) | exact .tail (.tail (.tail (.tail (.tail .head))))) (by repeat constructor) ?_
    exact ⟨A5, c5, B5, d5, _, rfl, fun _ h => .tail _ (.tail _ h), Und.head.tail, Und.head, hS.drop⟩
theorem sameBlock_eq (r : BR) (A B A2 B2 : Option Addr) (c d c2 d2 : Nat) (w : World) (h1 : Flat 3 (hcsL r.K) A r.K.length c w) (h2 : Flat 1 (intsV r.G) B r.G.length d w) (h3 : Flat 3 (hcsL r.K) A2 r.K.length c2 w) (h4 : Flat 1 (intsV r.G) B2 r.G.length d2 w) (hl : r.K.length ≤ 9223372036854775807) (hl2 : r.G.length ≤ 9223372036854775807) :
    Calls Tryd.prog 10 #[bv A r.K.length c r.v r.h B r.G.length d, bv A2 r.K.length c2 r.v r.h B2 r.G.length d2] w fun e w' => e = .returned (.bool true) ∧ Below w.heap.size w w' := by
  have hS := ((((St.start w).flat (M := []) h1).flat (M := []) h2).flat (M := []) h3).flat (M := []) h4
  refine goes_enter2 Tryd.func10 rfl Tryd.ntmps10 rfl ?_
  refine goes_seq ?_
  refine goes_region ?_
  refine lst_box hS rfl rfl ?_
  clear hS
  intro b1 wx1 hS
  refine lst_box hS rfl rfl ?_
  clear hS
  intro b2 wx2 hS
  refine lst_run (run_assign (by conv => lhs; whnf)) rfl ?_
  refine lst_done ?_
  refine goes_seq ?_
  refine goes_region ?_
  refine lst_run (run_fieldAddr (off := 0) rfl rfl) rfl ?_
  first
    | refine lst_run (run_load1_own hS rfl rfl (by first | exact .head | exact .tail .head | exact .tail (.tail .head) | exact .tail (.tail (.tail .head)) | exact .tail (.tail (.tail (.tail .head))) | exact .tail (.tail (.tail (.tail (.tail .head))))) (by repeat constructor)) rfl ?_
    | refine lst_run (run_load1 rfl rfl (by first | assumption | exact hS.cell0 (by assumption) | exact lv_next hS | exact lv_list hS)) rfl ?_
  refine lst_run (run_fieldAddr (off := 0) rfl rfl) rfl ?_
  first
    | refine lst_run (run_load1_own hS rfl rfl (by first | exact .head | exact .tail .head | exact .tail (.tail .head) | exact .tail (.tail (.tail .head)) | exact .tail (.tail (.tail (.tail .head))) | exact .tail (.tail (.tail (.tail (.tail .head))))) (by repeat constructor)) rfl ?_
    | refine lst_run (run_load1 rfl rfl (by first | assumption | exact hS.cell0 (by assumption) | exact lv_next hS | exact lv_list hS)) rfl ?_
  refine lst_enter (run_call (by kernel_rfl) (args_2 (by conv => lhs; whnf) (by conv => lhs; whnf))) rfl ?_
  refine Calls.mono (sameCells_eq r.K A A2 c c2 _ (hS.fact (.tail _ (.tail _ (.tail _ (.head _))))) (hS.fact (.tail _ (.head _))) hl) ?_
  rintro _ w3 ⟨rfl, hb3⟩
  refine ⟨_, rfl, ?_⟩
  replace hS := hS.grow hb3
  refine lst_run (run_move (by conv => lhs; whnf)) rfl ?_
  refine lst_guard rfl rfl ?_
  refine lst_run (run_fieldAddr (off := 1) rfl rfl) rfl ?_
  refine lst_guard rfl rfl ?_
  first
    | refine lst_run (run_load1_own hS rfl rfl (by first | exact .head | exact .tail .head | exact .tail (.tail .head) | exact .tail (.tail (.tail .head)) | exact .tail (.tail (.tail (.tail .head))) | exact .tail (.tail (.tail (.tail (.tail .head))))) (by repeat constructor)) rfl ?_
    | refine lst_run (run_load1 rfl rfl (by first | assumption | exact hS.cell0 (by assumption) | exact lv_next hS | exact lv_list hS)) rfl ?_
  refine lst_guard rfl rfl ?_
  refine lst_run (run_fieldAddr (off := 1) rfl rfl) rfl ?_
  refine lst_guard rfl rfl ?_
  first
    | refine lst_run (run_load1_own hS rfl rfl (by first | exact .head | exact .tail .head | exact .tail (.tail .head) | exact .tail (.tail (.tail .head)) | exact .tail (.tail (.tail (.tail .head))) | exact .tail (.tail (.tail (.tail (.tail .head))))) (by repeat constructor)) rfl ?_
    | refine lst_run (run_load1 rfl rfl (by first | assumption | exact hS.cell0 (by assumption) | exact lv_next hS | exact lv_list hS)) rfl ?_
  refine lst_guard rfl rfl ?_
  first
    | refine lst_run (run_eql_one_int rfl rfl) rfl ?_
    | refine lst_run (run_eql_no rfl rfl (by first | assumption | omega)) rfl ?_
    | refine lst_run (run_eql_yes rfl rfl (by omega)) rfl ?_
    | refine lst_run (rfl) rfl ?_
  first
    | refine lst_run (run_pick_t rfl (by conv => lhs; whnf)) rfl ?_
    | refine lst_run (run_pick_f rfl (by conv => lhs; whnf)) rfl ?_
  refine lst_run (run_move (by conv => lhs; whnf)) rfl ?_
  refine lst_guard rfl rfl ?_
  refine lst_run (run_fieldAddr (off := 2) rfl rfl) rfl ?_
  refine lst_guard rfl rfl ?_
  first
    | refine lst_run (run_load1_own hS rfl rfl (by first | exact .head | exact .tail .head | exact .tail (.tail .head) | exact .tail (.tail (.tail .head)) | exact .tail (.tail (.tail (.tail .head))) | exact .tail (.tail (.tail (.tail (.tail .head))))) (by repeat constructor)) rfl ?_
    | refine lst_run (run_load1 rfl rfl (by first | assumption | exact hS.cell0 (by assumption) | exact lv_next hS | exact lv_list hS)) rfl ?_
  refine lst_guard rfl rfl ?_
  refine lst_run (run_fieldAddr (off := 2) rfl rfl) rfl ?_
  refine lst_guard rfl rfl ?_
  first
    | refine lst_run (run_load1_own hS rfl rfl (by first | exact .head | exact .tail .head | exact .tail (.tail .head) | exact .tail (.tail (.tail .head)) | exact .tail (.tail (.tail (.tail .head))) | exact .tail (.tail (.tail (.tail (.tail .head))))) (by repeat constructor)) rfl ?_
    | refine lst_run (run_load1 rfl rfl (by first | assumption | exact hS.cell0 (by assumption) | exact lv_next hS | exact lv_list hS)) rfl ?_
  refine lst_guard rfl rfl ?_
  first
    | refine lst_run (run_eql_one_int rfl rfl) rfl ?_
    | refine lst_run (run_eql_no rfl rfl (by first | assumption | omega)) rfl ?_
    | refine lst_run (run_eql_yes rfl rfl (by omega)) rfl ?_
    | refine lst_run (rfl) rfl ?_
  first
    | refine lst_run (run_pick_t rfl (by conv => lhs; whnf)) rfl ?_
    | refine lst_run (run_pick_f rfl (by conv => lhs; whnf)) rfl ?_
  refine lst_run (run_move (by conv => lhs; whnf)) rfl ?_
  refine lst_guard rfl rfl ?_
  refine lst_run (run_fieldAddr (off := 3) rfl rfl) rfl ?_
  refine lst_guard rfl rfl ?_
  first
    | refine lst_run (run_load1_own hS rfl rfl (by first | exact .head | exact .tail .head | exact .tail (.tail .head) | exact .tail (.tail (.tail .head)) | exact .tail (.tail (.tail (.tail .head))) | exact .tail (.tail (.tail (.tail (.tail .head))))) (by repeat constructor)) rfl ?_
    | refine lst_run (run_load1 rfl rfl (by first | assumption | exact hS.cell0 (by assumption) | exact lv_next hS | exact lv_list hS)) rfl ?_
  refine lst_guard rfl rfl ?_
  refine lst_run (run_fieldAddr (off := 3) rfl rfl) rfl ?_
  refine lst_guard rfl rfl ?_
  first
    | refine lst_run (run_load1_own hS rfl rfl (by first | exact .head | exact .tail .head | exact .tail (.tail .head) | exact .tail (.tail (.tail .head)) | exact .tail (.tail (.tail (.tail .head))) | exact .tail (.tail (.tail (.tail (.tail .head))))) (by repeat constructor)) rfl ?_
    | refine lst_run (run_load1 rfl rfl (by first | assumption | exact hS.cell0 (by assumption) | exact lv_next hS | exact lv_list hS)) rfl ?_
  refine lst_guard rfl rfl ?_
  refine lst_enter (run_call (by kernel_rfl) (args_2 (by conv => lhs; whnf) (by conv => lhs; whnf))) rfl ?_
  refine Calls.mono (sameNumbersR_eq r.G B B2 d d2 _ (hS.fact (.tail _ (.tail _ (.head _)))) (hS.fact (.head _)) hl2) ?_
  rintro _ w4 ⟨rfl, hb4⟩
  refine ⟨_, rfl, ?_⟩
  replace hS := hS.grow hb4
  first
    | refine lst_run (run_pick_t rfl (by conv => lhs; whnf)) rfl ?_
    | refine lst_run (run_pick_f rfl (by conv => lhs; whnf)) rfl ?_
  refine lst_run (run_assign (by conv => lhs; whnf)) rfl ?_
  refine lst_done ?_
  refine goes_ret1 Tryd.func10 rfl (by conv => lhs; whnf) ?_
  exact ⟨rfl, hS.ext.below⟩
end
end Go.Proofs.YtdflngjfnpbpmabDoor
namespace Go.Proofs.YtdflngjfnpbpmabDoor
open Go.RowKit
set_option linter.unusedVariables false
set_option linter.unusedSimpArgs false

section
variable {M : List Nat} {w0 : World} {H : List (Nat × Obj)} {F : List (World → Prop)}
theorem ArA.flat {A : Option Addr} {c : Nat} {T : TA} {w : World} (h : ArA A c T w) : Flat 4 (tcsL T) A T.len c w :=
  ⟨tcsL_len T, h.1, fun hl => by
    obtain ⟨b, o, e, hs⟩ := h.2 hl
    exact ⟨b, o, e, hs.cells.2⟩⟩
theorem ArA.all {A : Option Addr} {c : Nat} {T : TA} {w : World} (h : ArA A c T w) : AllR T w := by
  by_cases hl : 0 < T.len
  · obtain ⟨b, o, e, hs⟩ := h.2 hl
    exact hs.cells.1
  · cases T with
    | nil => trivial
    | cons => simp [TA.len] at hl
/-- append(s, l...), of terms that lie there. -/
theorem lst_appTs {P : Program} {n : Nat} {e : Env} {w : World} {Q : Exit → Act → World → Prop} {ops : Array Oper} {rest : List Oper} {ty : TypeId} {pos : String} {after : Array Edge} {d : Nat} {H' : List (Nat × Obj)} {x y : Operand} {v : Value} {t tx : TypeId} {el len c : Nat} {A : Option Addr} {T : TA} {xs : List Value} {O : List (Nat × Obj)} (hS : St M w0 H F w) (hx : ev n e x = v) (hy : ev n e y = .slice A T.len c)
    (hT : isSliceP P t = some el) (hTx : isSliceP P tx = some el) (hi : rowP P el = some (4, 56)) (hL : Flat 4 (tcsL T) A T.len c w) (hrow : Rw el 4 v len xs O)
    (hP : H.Perm (O ++ H')) (hbig : len + T.len ≤ 1099511627776) (hd : Nat.blt d n = true)
    (h : ∀ v' O' w', Rw el 4 v' (len + T.len) (xs ++ tcsL T) O' → St M w0 (O' ++ H') F w' → Lst P Q ops rest n ((d, v') :: e) w') :
    Lst P Q ops (⟨some d, .call ⟨.builtin .append, #[x, y], #[t, tx]⟩, ty, pos, after, none⟩ :: rest) n e w := by
  obtain ⟨i, z, h2, h3, h4, h5, h6⟩ := rowP_some hi
  refine lst_appendRw hS hx hy hT hTx h2 h3 h4 (by rw [h5]; exact tcsL_len T) (by rw [h5]; exact hL.src hTx (List.all_eq_true.2 (tcsL_one T))) (by rw [h5]; exact hrow) hP (by rw [h6]; omega) (by omega) hd ?_
  rw [h5]; exact h
/-- A row of terms that is never written again. -/
theorem St.freezeT {w : World} {O : List (Nat × Obj)} {el c : Nat} {A : Option Addr} {D : TA} (hr : Rw el 4 (.slice A D.len c) D.len (tcsL D) O) (hA : Und F (AllR D)) (hS : St M w0 (O ++ H) F w) :
    ∃ F', (∀ φ ∈ F, φ ∈ F') ∧ Und F' (ArA A c D) ∧ St M w0 H F' w := by
  have hS2 := St.freezeR hr hS
  refine ⟨_, fun φ h => .tail _ h, fun w' hw => ?_, hS2⟩
  have hf := hw _ (.head _)
  have ha := hA w' fun φ hφ => hw φ (.tail _ hφ)
  refine ⟨hf.2.1, fun hl => ?_⟩
  obtain ⟨b, o, e, hc⟩ := hf.2.2 hl
  exact ⟨b, o, e, segA_of ha fun j u hj => hc j u hj⟩
end
end Go.Proofs.YtdflngjfnpbpmabDoor
namespace Go.Proofs.YtdflngjfnpbpmabDoor
open Go.RowKit
set_option linter.unusedVariables false
set_option linter.unusedSimpArgs false
set_option maxRecDepth 100000
set_option maxHeartbeats 1000000

section
variable {M : List Nat} {w0 : World} {H : List (Nat × Obj)} {F : List (World → Prop)}
theorem clauseBlock_any (k n vars : Int) (s : ByteArray) (hd bd : TA) (A1 A2 : Option Addr) (c1 c2 : Nat) (w : World) (h1 : Und F (ArA A1 c1 hd)) (h2 : Und F (ArA A2 c2 bd)) (h1n : hd.ts.nodes < 1048576) (h2n : bd.ts.nodes ≤ 1048576) (hS : St M w0 H F w) :
    Calls Tryd.prog 6 #[.agg #[.int .i64 k, .int .i64 n, .string s, .slice A1 hd.len c1, .slice A2 bd.len c2, .int .i64 vars]] w (BRes M w0 H F (brC ⟨k, n, s, hd.ts, bd.ts, vars⟩)) := by
  have hgc := fun w (hS : Sl w (fun _ => True) (.slice A1 hd.len c1) hd.ts ∧ Sl w (fun _ => True) (.slice A2 bd.len c2) bd.ts) => isClause_any ⟨k, n, s, hd.ts, bd.ts, vars⟩ (.slice A1 hd.len c1) (.slice A2 bd.len c2) w hS.1 hS.2 h1n h2n
  refine goes_enter1 Tryd.func6 rfl Tryd.ntmps6 rfl ?_
  cases hc : cB ⟨k, n, s, hd.ts, bd.ts, vars⟩ with
  | false =>
    rw [hc] at hgc
    rw [show brC ⟨k, n, s, hd.ts, bd.ts, vars⟩ = ⟨[], [], 0, 0, 1⟩ by unfold brC; rw [if_neg (by rw [hc]; decide)]]
    refine goes_seq ?_
    refine goes_region ?_
    refine lst_box hS rfl rfl ?_
    clear hS
    intro b1 wx1 hS
    refine lst_alloc (cs := [_, _, _, _]) hS rfl rfl rfl ?_
    clear hS
    intro b2 wx2 hS
    refine lst_run (run_assign (by conv => lhs; whnf)) rfl ?_
    refine lst_done ?_
    refine goes_seq ?_
    refine goes_seq ?_
    refine goes_region ?_
    first
      | refine lst_run (run_loadN_own (k := 6) hS rfl rfl rfl (by first | exact .head | exact .tail .head | exact .tail (.tail .head) | exact .tail (.tail (.tail .head)) | exact .tail (.tail (.tail (.tail .head))) | exact .tail (.tail (.tail (.tail (.tail .head))))) (by repeat constructor)) rfl ?_
      | refine lst_run (run_load6 rfl rfl rfl (by first | assumption | exact hS.cell0 (by assumption)) (by first | assumption | exact hS.cell0 (by assumption)) (by first | assumption | exact hS.cell0 (by assumption)) (by first | assumption | exact hS.cell0 (by assumption)) (by first | assumption | exact hS.cell0 (by assumption)) (by first | assumption | exact hS.cell0 (by assumption))) rfl ?_
    refine lst_enter (run_call (by kernel_rfl) (args_1 (by conv => lhs; whnf))) rfl ?_
    refine Calls.mono (hgc _ ⟨(hS.und h1).sl, (hS.und h2).sl⟩) ?_
    rintro _ w2 ⟨rfl, hb2⟩
    refine ⟨_, rfl, ?_⟩
    replace hS := hS.grow hb2
    refine lst_run (rfl) rfl ?_
    refine lst_done ?_
    refine goes_true rfl ?_
    refine goes_seq ?_
    refine goes_region ?_
    refine lst_run (run_build (cells := [_, _, _, _]) .nil rfl) rfl ?_
    refine lst_storeN hS rfl (by conv => lhs; whnf) rfl rfl (by first | exact .head | exact .tail .head | exact .tail (.tail .head) | exact .tail (.tail (.tail .head)) | exact .tail (.tail (.tail (.tail .head))) | exact .tail (.tail (.tail (.tail (.tail .head))))) (by repeat constructor) (by first | exact .head | exact .tail .head | exact .tail (.tail .head) | exact .tail (.tail (.tail .head)) | exact .tail (.tail (.tail (.tail .head))) | exact .tail (.tail (.tail (.tail (.tail .head))))) ?_
    clear hS
    intro wx3 hS
    refine lst_run (run_assign (by conv => lhs; whnf)) rfl ?_
    refine lst_done ?_
    refine goes_retC2 (sz := 4) hS Tryd.func6 rfl rfl (by conv => lhs; whnf) rfl rfl (by first | exact .head | exact .tail .head | exact .tail (.tail .head) | exact .tail (.tail (.tail .head)) | exact .tail (.tail (.tail (.tail .head))) | exact .tail (.tail (.tail (.tail (.tail .head))))) (by repeat constructor) ?_
    exact ⟨none, 0, none, 0, F, rfl, fun _ h => h, fun _ _ => Flat.nil_ _ _ _, fun _ _ => Flat.nil_ _ _ _, hS.drop.drop⟩
  | true =>
    rw [hc] at hgc
    obtain ⟨g0, g1, g2, g3, g4⟩ := cB_iff hc
    dsimp only at g0 g1 g2 g3 g4
    rw [TA.len_ts] at g2
    have g5 := gB_nodes g4
    have g6 := Ts.goals_nodes _ _ g3
    rw [TA.len_ts] at g6
    have g7 : (TA.cons k n s A1 c1 hd bd).ts.goals vars = true := by
      simp only [TA.ts, Ts.goals, Bool.and_eq_true]; exact ⟨g4, g3⟩
    have g8 : (TA.cons k n s A1 c1 hd bd).ts.nodes = hd.ts.nodes + bd.ts.nodes + 1 := rfl
    rw [show brC ⟨k, n, s, hd.ts, bd.ts, vars⟩ = ⟨blockC ⟨k, n, s, hd.ts, bd.ts, vars⟩, goalsC ⟨k, n, s, hd.ts, bd.ts, vars⟩, vars, vars, 0⟩ by unfold brC; rw [if_pos hc]]
    obtain ⟨v, rfl⟩ : ∃ v : Nat, vars = (v : Nat) := ⟨vars.toNat, by omega⟩
    have e1 : blockC ⟨k, n, s, hd.ts, bd.ts, ((v : Nat) : Int)⟩ = varsB v ++ (layL (TA.cons k n s A1 c1 hd bd).ts (varsB v).length).1 := by
      simp only [blockC, Int.toNat_natCast, varsB_len, TA.ts, layL]
    have e2 : ((v : Nat) : Int) :: goalsC ⟨k, n, s, hd.ts, bd.ts, ((v : Nat) : Int)⟩ = (layL (TA.cons k n s A1 c1 hd bd).ts (varsB v).length).2 := by
      simp only [goalsC, Int.toNat_natCast, varsB_len, TA.ts, layL]
    rw [e1]
    refine goes_seq ?_
    refine goes_region ?_
    refine lst_box hS rfl rfl ?_
    clear hS
    intro b1 wx1 hS
    refine lst_alloc (cs := [_, _, _, _]) hS rfl rfl rfl ?_
    clear hS
    intro b2 wx2 hS
    refine lst_run (run_assign (by conv => lhs; whnf)) rfl ?_
    refine lst_done ?_
    refine goes_seq ?_
    refine goes_seq ?_
    refine goes_region ?_
    first
      | refine lst_run (run_loadN_own (k := 6) hS rfl rfl rfl (by first | exact .head | exact .tail .head | exact .tail (.tail .head) | exact .tail (.tail (.tail .head)) | exact .tail (.tail (.tail (.tail .head))) | exact .tail (.tail (.tail (.tail (.tail .head))))) (by repeat constructor)) rfl ?_
      | refine lst_run (run_load6 rfl rfl rfl (by first | assumption | exact hS.cell0 (by assumption)) (by first | assumption | exact hS.cell0 (by assumption)) (by first | assumption | exact hS.cell0 (by assumption)) (by first | assumption | exact hS.cell0 (by assumption)) (by first | assumption | exact hS.cell0 (by assumption)) (by first | assumption | exact hS.cell0 (by assumption))) rfl ?_
    refine lst_enter (run_call (by kernel_rfl) (args_1 (by conv => lhs; whnf))) rfl ?_
    refine Calls.mono (hgc _ ⟨(hS.und h1).sl, (hS.und h2).sl⟩) ?_
    rintro _ w2 ⟨rfl, hb2⟩
    refine ⟨_, rfl, ?_⟩
    replace hS := hS.grow hb2
    refine lst_run (rfl) rfl ?_
    refine lst_done ?_
    refine goes_false rfl ?_
    refine goes_skip ?_
    refine goes_seq ?_
    refine goes_meet1 4 (9 :: 10 :: 11 :: 12 :: 13 :: 14 :: 15 :: 16 :: 17 :: []) (fun y w' => ∃ (b4 : Nat) (A5 B5 : Option Addr) (c5 d5 : Nat) (F8 : List (World → Prop)), y = .pointer (some ⟨b4, 0, none⟩) ∧ (∀ φ ∈ F, φ ∈ F8) ∧ Und F8 (Flat 3 (hcsL (varsB v ++ (layL (TA.cons k n s A1 c1 hd bd).ts (varsB v).length).1)) A5 (varsB v ++ (layL (TA.cons k n s A1 c1 hd bd).ts (varsB v).length).1).length c5) ∧ Und F8 (Flat 1 (intsV (layL (TA.cons k n s A1 c1 hd bd).ts (varsB v).length).2) B5 (layL (TA.cons k n s A1 c1 hd bd).ts (varsB v).length).2.length d5) ∧ St M w0 ((b4, bobC A5 (varsB v ++ (layL (TA.cons k n s A1 c1 hd bd).ts (varsB v).length).1).length c5 (v : Nat) (-1) B5 (layL (TA.cons k n s A1 c1 hd bd).ts (varsB v).length).2.length d5) :: (b2, bobC none 0 0 0 0 none 0 0) :: (b1, .cells [.int .i64 k, .int .i64 n, .string s, .slice A1 hd.len c1, .slice A2 bd.len c2, .int .i64 (v : Nat)].toArray 26) :: H) F8 w') ?_ ?_
    · intro hmeet
      refine goes_plan (St _ _ _ _) 10 (.read 0 (.read 1 (.read 3 (.read 4 (.read 6 (.read 7 (.pick 2 (.pick 5 (.pick 8 (.pick 9 .tail .none) (.pick 9 (.pick 8 .tail .none) .none)) (.pick 9 (.pick 5 (.pick 8 .tail .none) .none) .none)) (.pick 9 (.pick 2 (.pick 5 (.pick 8 .tail .none) .none) .none) .none)))))))) (by kernel_rfl) (by kernel_rfl) hS.drew ?_
      replace hS := hS.drew
      refine pln_read rfl (fun _ hS => run_fieldAddr (off := 0) rfl rfl) rfl ?_
      first
        | refine pln_read rfl (fun _ hS => run_loadN_own (k := 4) hS rfl rfl rfl (by first | exact .head | exact .tail .head | exact .tail (.tail .head) | exact .tail (.tail (.tail .head)) | exact .tail (.tail (.tail (.tail .head))) | exact .tail (.tail (.tail (.tail (.tail .head))))) (by repeat constructor)) rfl ?_
        | refine pln_read rfl (fun _ hS => run_load4 rfl rfl rfl (by first | assumption | exact hS.cell0 (by assumption)) (by first | assumption | exact hS.cell0 (by assumption)) (by first | assumption | exact hS.cell0 (by assumption)) (by first | assumption | exact hS.cell0 (by assumption))) rfl ?_
      refine pln_read rfl (fun _ hS => run_fieldAddr (off := 4) rfl rfl) rfl ?_
      first
        | refine pln_read rfl (fun _ hS => run_load1_own hS rfl rfl (by first | exact .head | exact .tail .head | exact .tail (.tail .head) | exact .tail (.tail (.tail .head)) | exact .tail (.tail (.tail (.tail .head))) | exact .tail (.tail (.tail (.tail (.tail .head))))) (by repeat constructor)) rfl ?_
        | refine pln_read rfl (fun _ hS => run_load1 rfl rfl (by first | assumption | exact hS.cell0 (by assumption) | exact lv_next hS | exact lv_list hS)) rfl ?_
      refine pln_read rfl (fun _ hS => run_fieldAddr (off := 5) rfl rfl) rfl ?_
      first
        | refine pln_read rfl (fun _ hS => run_load1_own hS rfl rfl (by first | exact .head | exact .tail .head | exact .tail (.tail .head) | exact .tail (.tail (.tail .head)) | exact .tail (.tail (.tail (.tail .head))) | exact .tail (.tail (.tail (.tail (.tail .head))))) (by repeat constructor)) rfl ?_
        | refine pln_read rfl (fun _ hS => run_load1 rfl rfl (by first | assumption | exact hS.cell0 (by assumption) | exact lv_next hS | exact lv_list hS)) rfl ?_
      refine pln_pick rfl ?_ ?_
      · refine lst_buildSlice (cells := [_, _, _, _]) hS (.cons (by conv => lhs; whnf) .nil) rfl rfl ?_
        clear hS
        intro b3 wx3 hS
        refine lst_pln (by first | exact hS | exact hS.drop | exact hS.drop.drop | exact hS.drop.drop.drop | exact hS.unlearn | exact hS.unlearn.drop | exact hS.unlearn.drop.drop | exact hS.forget hF7 | exact hS.drop.forget hF7 | exact hS.forget hF8 | exact hS.drop.forget hF8) ?_
        refine pln_pick rfl ?_ ?_
        · refine lst_appTs (T := bd) hS (by rfl) (by rfl) rfl rfl rfl (hS.und h2).flat (Rw.own_ (xs := tcs ⟨k, n, s, A1, c1, hd⟩) (sp := []) rfl rfl (Nat.le_refl _) (by omega)) (by first | exact .refl _ | exact List.perm_append_comm_assoc [_] [_] _) (by omega) rfl ?_
          clear hS
          intro v7 O7 w7 hrow7 hS
          have hw7 : Rw 24 4 v7 (TA.cons k n s A1 c1 hd bd).len (tcsL (.cons k n s A1 c1 hd bd)) O7 := by (rw [show (TA.cons k n s A1 c1 hd bd).len = 1 + bd.len by simp [TA.len]; omega]; exact hrow7)
          obtain ⟨B7, d7, rfl, _⟩ := hw7.form
          obtain ⟨F7, hF7, hA7, hS'⟩ := St.freezeT hw7 (fun w hw => ⟨h1 w hw, (h2 w hw).all⟩) hS
          clear hS
          have hS := hS'
          clear hS'
          refine lst_pln (by first | exact hS | exact hS.drop | exact hS.drop.drop | exact hS.drop.drop.drop | exact hS.unlearn | exact hS.unlearn.drop | exact hS.unlearn.drop.drop | exact hS.forget hF7 | exact hS.drop.forget hF7 | exact hS.forget hF8 | exact hS.drop.forget hF8) ?_
          refine pln_pick rfl ?_ ?_
          · refine lst_enter (run_call (by kernel_rfl) (args_2 (by conv => lhs; whnf) (by conv => lhs; whnf))) rfl ?_
            refine Calls.mono (blockOf_any (TA.cons k n s A1 c1 hd bd) v B7 d7 _ (by omega) hA7 g7 (by omega) hS) ?_
            rintro _ w8 ⟨A5, B5, c5, d5, O5, O6, rfl, hrow5, hrow6, hS'⟩
            refine ⟨_, rfl, ?_⟩
            clear hS
            obtain ⟨F8, hF8, hf3, hf1, hS⟩ : ∃ F8 : List (World → Prop), (∀ φ ∈ F, φ ∈ F8) ∧ Und F8 (Flat 3 _ A5 _ c5) ∧ Und F8 (Flat 1 _ B5 _ d5) ∧ St _ _ _ F8 _ := ⟨_, fun φ h => .tail _ (.tail _ (hF7 φ h)), Und.head.tail, Und.head, St.freezeR hrow6 (St.freezeR hrow5 hS')⟩
            clear hS'
            refine lst_pln (by first | exact hS | exact hS.drop | exact hS.drop.drop | exact hS.drop.drop.drop | exact hS.unlearn | exact hS.unlearn.drop | exact hS.unlearn.drop.drop | exact hS.forget hF7 | exact hS.drop.forget hF7 | exact hS.forget hF8 | exact hS.drop.forget hF8) ?_
            refine pln_last rfl ?_
            refine lst_alloc (cs := [_, _, _, _]) hS rfl rfl rfl ?_
            clear hS
            intro b4 wx4 hS
            refine lst_pln (by first | exact hS | exact hS.drop | exact hS.drop.drop | exact hS.drop.drop.drop | exact hS.unlearn | exact hS.unlearn.drop | exact hS.unlearn.drop.drop | exact hS.forget hF7 | exact hS.drop.forget hF7 | exact hS.forget hF8 | exact hS.drop.forget hF8) ?_
            refine pln_tail ?_
            refine lst_storeN hS rfl (by conv => lhs; whnf) rfl rfl (by first | exact .head | exact .tail .head | exact .tail (.tail .head) | exact .tail (.tail (.tail .head)) | exact .tail (.tail (.tail (.tail .head))) | exact .tail (.tail (.tail (.tail (.tail .head))))) (by repeat constructor) (by first | exact .head | exact .tail .head | exact .tail (.tail .head) | exact .tail (.tail (.tail .head)) | exact .tail (.tail (.tail (.tail .head))) | exact .tail (.tail (.tail (.tail (.tail .head))))) ?_
            clear hS
            intro wx5 hS
            refine lst_done ?_
            exact hmeet _ _ _ ⟨_, A5, B5, c5, d5, F8, rfl, hF8, hf3, hf1, hS⟩ (by conv => lhs; whnf) (by kernel_rfl)
          refine pln_last rfl ?_
          refine lst_alloc (cs := [_, _, _, _]) hS rfl rfl rfl ?_
          clear hS
          intro b5 wx6 hS
          refine lst_pln (by first | exact hS | exact hS.drop | exact hS.drop.drop | exact hS.drop.drop.drop | exact hS.unlearn | exact hS.unlearn.drop | exact hS.unlearn.drop.drop | exact hS.forget hF7 | exact hS.drop.forget hF7 | exact hS.forget hF8 | exact hS.drop.forget hF8) ?_
          refine pln_last rfl ?_
          refine lst_enter (run_call (by kernel_rfl) (args_2 (by conv => lhs; whnf) (by conv => lhs; whnf))) rfl ?_
          refine Calls.mono (blockOf_any (TA.cons k n s A1 c1 hd bd) v B7 d7 _ (by omega) hA7 g7 (by omega) hS) ?_
          rintro _ w8 ⟨A5, B5, c5, d5, O5, O6, rfl, hrow5, hrow6, hS'⟩
          refine ⟨_, rfl, ?_⟩
          clear hS
          obtain ⟨F8, hF8, hf3, hf1, hS⟩ : ∃ F8 : List (World → Prop), (∀ φ ∈ F, φ ∈ F8) ∧ Und F8 (Flat 3 _ A5 _ c5) ∧ Und F8 (Flat 1 _ B5 _ d5) ∧ St _ _ _ F8 _ := ⟨_, fun φ h => .tail _ (.tail _ (hF7 φ h)), Und.head.tail, Und.head, St.freezeR hrow6 (St.freezeR hrow5 hS')⟩
          clear hS'
          refine lst_pln (by first | exact hS | exact hS.drop | exact hS.drop.drop | exact hS.drop.drop.drop | exact hS.unlearn | exact hS.unlearn.drop | exact hS.unlearn.drop.drop | exact hS.forget hF7 | exact hS.drop.forget hF7 | exact hS.forget hF8 | exact hS.drop.forget hF8) ?_
          refine pln_tail ?_
          refine lst_storeN hS rfl (by conv => lhs; whnf) rfl rfl (by first | exact .head | exact .tail .head | exact .tail (.tail .head) | exact .tail (.tail (.tail .head)) | exact .tail (.tail (.tail (.tail .head))) | exact .tail (.tail (.tail (.tail (.tail .head))))) (by repeat constructor) (by first | exact .head | exact .tail .head | exact .tail (.tail .head) | exact .tail (.tail (.tail .head)) | exact .tail (.tail (.tail (.tail .head))) | exact .tail (.tail (.tail (.tail (.tail .head))))) ?_
          clear hS
          intro wx7 hS
          refine lst_done ?_
          exact hmeet _ _ _ ⟨_, A5, B5, c5, d5, F8, rfl, hF8, hf3, hf1, hS⟩ (by conv => lhs; whnf) (by kernel_rfl)
        refine pln_last rfl ?_
        refine lst_alloc (cs := [_, _, _, _]) hS rfl rfl rfl ?_
        clear hS
        intro b6 wx8 hS
        refine lst_pln (by first | exact hS | exact hS.drop | exact hS.drop.drop | exact hS.drop.drop.drop | exact hS.unlearn | exact hS.unlearn.drop | exact hS.unlearn.drop.drop | exact hS.forget hF7 | exact hS.drop.forget hF7 | exact hS.forget hF8 | exact hS.drop.forget hF8) ?_
        refine pln_last rfl ?_
        refine lst_appTs (T := bd) hS (by rfl) (by rfl) rfl rfl rfl (hS.und h2).flat (Rw.own_ (xs := tcs ⟨k, n, s, A1, c1, hd⟩) (sp := []) rfl rfl (Nat.le_refl _) (by omega)) (by first | exact .refl _ | exact List.perm_append_comm_assoc [_] [_] _) (by omega) rfl ?_
        clear hS
        intro v7 O7 w7 hrow7 hS
        have hw7 : Rw 24 4 v7 (TA.cons k n s A1 c1 hd bd).len (tcsL (.cons k n s A1 c1 hd bd)) O7 := by (rw [show (TA.cons k n s A1 c1 hd bd).len = 1 + bd.len by simp [TA.len]; omega]; exact hrow7)
        obtain ⟨B7, d7, rfl, _⟩ := hw7.form
        obtain ⟨F7, hF7, hA7, hS'⟩ := St.freezeT hw7 (fun w hw => ⟨h1 w hw, (h2 w hw).all⟩) hS
        clear hS
        have hS := hS'
        clear hS'
        refine lst_pln (by first | exact hS | exact hS.drop | exact hS.drop.drop | exact hS.drop.drop.drop | exact hS.unlearn | exact hS.unlearn.drop | exact hS.unlearn.drop.drop | exact hS.forget hF7 | exact hS.drop.forget hF7 | exact hS.forget hF8 | exact hS.drop.forget hF8) ?_
        refine pln_last rfl ?_
        refine lst_enter (run_call (by kernel_rfl) (args_2 (by conv => lhs; whnf) (by conv => lhs; whnf))) rfl ?_
        refine Calls.mono (blockOf_any (TA.cons k n s A1 c1 hd bd) v B7 d7 _ (by omega) hA7 g7 (by omega) hS) ?_
        rintro _ w8 ⟨A5, B5, c5, d5, O5, O6, rfl, hrow5, hrow6, hS'⟩
        refine ⟨_, rfl, ?_⟩
        clear hS
        obtain ⟨F8, hF8, hf3, hf1, hS⟩ : ∃ F8 : List (World → Prop), (∀ φ ∈ F, φ ∈ F8) ∧ Und F8 (Flat 3 _ A5 _ c5) ∧ Und F8 (Flat 1 _ B5 _ d5) ∧ St _ _ _ F8 _ := ⟨_, fun φ h => .tail _ (.tail _ (hF7 φ h)), Und.head.tail, Und.head, St.freezeR hrow6 (St.freezeR hrow5 hS')⟩
        clear hS'
        refine lst_pln (by first | exact hS | exact hS.drop | exact hS.drop.drop | exact hS.drop.drop.drop | exact hS.unlearn | exact hS.unlearn.drop | exact hS.unlearn.drop.drop | exact hS.forget hF7 | exact hS.drop.forget hF7 | exact hS.forget hF8 | exact hS.drop.forget hF8) ?_
        refine pln_tail ?_
        refine lst_storeN hS rfl (by conv => lhs; whnf) rfl rfl (by first | exact .head | exact .tail .head | exact .tail (.tail .head) | exact .tail (.tail (.tail .head)) | exact .tail (.tail (.tail (.tail .head))) | exact .tail (.tail (.tail (.tail (.tail .head))))) (by repeat constructor) (by first | exact .head | exact .tail .head | exact .tail (.tail .head) | exact .tail (.tail (.tail .head)) | exact .tail (.tail (.tail (.tail .head))) | exact .tail (.tail (.tail (.tail (.tail .head))))) ?_
        clear hS
        intro wx9 hS
        refine lst_done ?_
        exact hmeet _ _ _ ⟨_, A5, B5, c5, d5, F8, rfl, hF8, hf3, hf1, hS⟩ (by conv => lhs; whnf) (by kernel_rfl)
      refine pln_last rfl ?_
      refine lst_alloc (cs := [_, _, _, _]) hS rfl rfl rfl ?_
      clear hS
      intro b7 wx10 hS
      refine lst_pln (by first | exact hS | exact hS.drop | exact hS.drop.drop | exact hS.drop.drop.drop | exact hS.unlearn | exact hS.unlearn.drop | exact hS.unlearn.drop.drop | exact hS.forget hF7 | exact hS.drop.forget hF7 | exact hS.forget hF8 | exact hS.drop.forget hF8) ?_
      refine pln_last rfl ?_
      refine lst_buildSlice (cells := [_, _, _, _]) hS (.cons (by conv => lhs; whnf) .nil) rfl rfl ?_
      clear hS
      intro b8 wx11 hS
      refine lst_pln (by first | exact hS | exact hS.drop | exact hS.drop.drop | exact hS.drop.drop.drop | exact hS.unlearn | exact hS.unlearn.drop | exact hS.unlearn.drop.drop | exact hS.forget hF7 | exact hS.drop.forget hF7 | exact hS.forget hF8 | exact hS.drop.forget hF8) ?_
      refine pln_last rfl ?_
      refine lst_appTs (T := bd) hS (by rfl) (by rfl) rfl rfl rfl (hS.und h2).flat (Rw.own_ (xs := tcs ⟨k, n, s, A1, c1, hd⟩) (sp := []) rfl rfl (Nat.le_refl _) (by omega)) (by first | exact .refl _ | exact List.perm_append_comm_assoc [_] [_] _) (by omega) rfl ?_
      clear hS
      intro v7 O7 w7 hrow7 hS
      have hw7 : Rw 24 4 v7 (TA.cons k n s A1 c1 hd bd).len (tcsL (.cons k n s A1 c1 hd bd)) O7 := by (rw [show (TA.cons k n s A1 c1 hd bd).len = 1 + bd.len by simp [TA.len]; omega]; exact hrow7)
      obtain ⟨B7, d7, rfl, _⟩ := hw7.form
      obtain ⟨F7, hF7, hA7, hS'⟩ := St.freezeT hw7 (fun w hw => ⟨h1 w hw, (h2 w hw).all⟩) hS
      clear hS
      have hS := hS'
      clear hS'
      refine lst_pln (by first | exact hS | exact hS.drop | exact hS.drop.drop | exact hS.drop.drop.drop | exact hS.unlearn | exact hS.unlearn.drop | exact hS.unlearn.drop.drop | exact hS.forget hF7 | exact hS.drop.forget hF7 | exact hS.forget hF8 | exact hS.drop.forget hF8) ?_
      refine pln_last rfl ?_
      refine lst_enter (run_call (by kernel_rfl) (args_2 (by conv => lhs; whnf) (by conv => lhs; whnf))) rfl ?_
      refine Calls.mono (blockOf_any (TA.cons k n s A1 c1 hd bd) v B7 d7 _ (by omega) hA7 g7 (by omega) hS) ?_
      rintro _ w8 ⟨A5, B5, c5, d5, O5, O6, rfl, hrow5, hrow6, hS'⟩
      refine ⟨_, rfl, ?_⟩
      clear hS
      obtain ⟨F8, hF8, hf3, hf1, hS⟩ : ∃ F8 : List (World → Prop), (∀ φ ∈ F, φ ∈ F8) ∧ Und F8 (Flat 3 _ A5 _ c5) ∧ Und F8 (Flat 1 _ B5 _ d5) ∧ St _ _ _ F8 _ := ⟨_, fun φ h => .tail _ (.tail _ (hF7 φ h)), Und.head.tail, Und.head, St.freezeR hrow6 (St.freezeR hrow5 hS')⟩
      clear hS'
      refine lst_pln (by first | exact hS | exact hS.drop | exact hS.drop.drop | exact hS.drop.drop.drop | exact hS.unlearn | exact hS.unlearn.drop | exact hS.unlearn.drop.drop | exact hS.forget hF7 | exact hS.drop.forget hF7 | exact hS.forget hF8 | exact hS.drop.forget hF8) ?_
      refine pln_tail ?_
      refine lst_storeN hS rfl (by conv => lhs; whnf) rfl rfl (by first | exact .head | exact .tail .head | exact .tail (.tail .head) | exact .tail (.tail (.tail .head)) | exact .tail (.tail (.tail (.tail .head))) | exact .tail (.tail (.tail (.tail (.tail .head))))) (by repeat constructor) (by first | exact .head | exact .tail .head | exact .tail (.tail .head) | exact .tail (.tail (.tail .head)) | exact .tail (.tail (.tail (.tail .head))) | exact .tail (.tail (.tail (.tail (.tail .head))))) ?_
      clear hS
      intro wx12 hS
      refine lst_done ?_
      exact hmeet _ _ _ ⟨_, A5, B5, c5, d5, F8, rfl, hF8, hf3, hf1, hS⟩ (by conv => lhs; whnf) (by kernel_rfl)
    clear hS
    rintro jv y w9 ⟨b4, A5, B5, c5, d5, F8, rfl, hF8, hf3, hf1, hS⟩
    rw [← e2] at hf1 hS
    generalize goalsC ⟨k, n, s, hd.ts, bd.ts, ((v : Nat) : Int)⟩ = G at *
    generalize (varsB v ++ (layL (TA.cons k n s A1 c1 hd bd).ts (varsB v).length).1) = X at *
    obtain ⟨gb, go, rfl⟩ := (hS.und hf1).some_ (by simp)
    have hcl : ((((v : Nat) : Int)) :: G).length = G.length + 1 := rfl
    have hd5 := (hS.und hf1).2.1
    have hct : ∀ {H'} w', St M w0 H' F8 w' → w'.cell? ⟨gb, go + 0 * 1, none⟩ = some (.int .i64 (v : Nat)) := fun w' hS => (hS.und hf1).int (i := 0) rfl
    refine goes_seq ?_
    refine goes_meet1 24 (18 :: 19 :: 20 :: 21 :: 22 :: 23 :: 25 :: 26 :: []) (fun y w' => ∃ Aj : Option Addr, (0 < G.length → Aj = some ⟨gb, go + 1, none⟩) ∧ St M w0 ((b4, bobC A5 X.length c5 (v : Nat) (v : Nat) Aj G.length (d5 - 1)) :: (b2, bobC none 0 0 0 0 none 0 0) :: (b1, .cells [.int .i64 k, .int .i64 n, .string s, .slice A1 hd.len c1, .slice A2 bd.len c2, .int .i64 (v : Nat)].toArray 26) :: H) F8 w') ?_ ?_
    · intro hmeet
      refine goes_plan (fun w => ∃ x : Int, St M w0 ((b4, bobC A5 X.length c5 (v : Nat) x (some ⟨gb, go, none⟩) ((((v : Nat) : Int)) :: G).length d5) :: (b2, bobC none 0 0 0 0 none 0 0) :: (b1, .cells [.int .i64 k, .int .i64 n, .string s, .slice A1 hd.len c1, .slice A2 bd.len c2, .int .i64 (v : Nat)].toArray 26) :: H) F8 w) 10 (.read 0 (.read 1 (.read 2 (.read 3 (.read 4 (.read 5 (.read 6 (.read 7 (.pick 8 (.read 9 .tail) .none))))))))) (by kernel_rfl) (by kernel_rfl) ⟨_, hS.drew⟩ ?_
      replace hS := hS.drew
      refine pln_read rfl (fun _ ⟨_, hS⟩ => run_fieldAddr (off := 3) rfl rfl) rfl ?_
      first
        | refine pln_read rfl (fun _ ⟨_, hS⟩ => run_load1_own hS rfl rfl (by first | exact .head | exact .tail .head | exact .tail (.tail .head) | exact .tail (.tail (.tail .head)) | exact .tail (.tail (.tail (.tail .head))) | exact .tail (.tail (.tail (.tail (.tail .head))))) (by repeat constructor)) rfl ?_
        | refine pln_read rfl (fun _ ⟨_, hS⟩ => run_load1 rfl rfl (by first | assumption | exact hct _ hS | exact hS.cell0 (by assumption) | exact lv_next hS | exact lv_list hS)) rfl ?_
      refine pln_read rfl (fun _ ⟨_, hS⟩ => run_indexAddr (sz := 1) rfl rfl rfl rfl (by omega) (by omega)) rfl ?_
      first
        | refine pln_read rfl (fun _ ⟨_, hS⟩ => run_load1_own hS rfl rfl (by first | exact .head | exact .tail .head | exact .tail (.tail .head) | exact .tail (.tail (.tail .head)) | exact .tail (.tail (.tail (.tail .head))) | exact .tail (.tail (.tail (.tail (.tail .head))))) (by repeat constructor)) rfl ?_
        | refine pln_read rfl (fun _ ⟨_, hS⟩ => run_load1 rfl rfl (by first | assumption | exact hct _ hS | exact hS.cell0 (by assumption) | exact lv_next hS | exact lv_list hS)) rfl ?_
      refine pln_read rfl (fun _ ⟨_, hS⟩ => run_fieldAddr (off := 3) rfl rfl) rfl ?_
      first
        | refine pln_read rfl (fun _ ⟨_, hS⟩ => run_load1_own hS rfl rfl (by first | exact .head | exact .tail .head | exact .tail (.tail .head) | exact .tail (.tail (.tail .head)) | exact .tail (.tail (.tail (.tail .head))) | exact .tail (.tail (.tail (.tail (.tail .head))))) (by repeat constructor)) rfl ?_
        | refine pln_read rfl (fun _ ⟨_, hS⟩ => run_load1 rfl rfl (by first | assumption | exact hct _ hS | exact hS.cell0 (by assumption) | exact lv_next hS | exact lv_list hS)) rfl ?_
      first
        | refine pln_read rfl (fun _ ⟨_, hS⟩ => run_slice_lt (sz := 1) rfl rfl rfl rfl (by omega) (by omega) (by omega)) rfl ?_
        | refine pln_read rfl (fun _ ⟨_, hS⟩ => run_slice_rest (sz := 1) rfl rfl rfl rfl (by omega) (by omega)) rfl ?_
      refine pln_read rfl (fun _ ⟨_, hS⟩ => run_fieldAddr (off := 2) rfl rfl) rfl ?_
      refine pln_last rfl ?_
      refine lst_store1 hS rfl (by conv => lhs; whnf) rfl rfl (by first | exact .head | exact .tail .head | exact .tail (.tail .head) | exact .tail (.tail (.tail .head)) | exact .tail (.tail (.tail (.tail .head))) | exact .tail (.tail (.tail (.tail (.tail .head))))) (by repeat constructor) (by first | exact .head | exact .tail .head | exact .tail (.tail .head) | exact .tail (.tail (.tail .head)) | exact .tail (.tail (.tail (.tail .head))) | exact .tail (.tail (.tail (.tail (.tail .head))))) ?_
      clear hS
      intro wx13 hS
      refine lst_pln (by first | exact ⟨_, hS⟩ | exact ⟨_, hS.drop⟩) ?_
      refine pln_read rfl (fun _ ⟨_, hS⟩ => run_fieldAddr (off := 3) rfl rfl) rfl ?_
      refine pln_tail ?_
      refine lst_store1 hS rfl (by conv => lhs; whnf) rfl rfl (by first | exact .head | exact .tail .head | exact .tail (.tail .head) | exact .tail (.tail (.tail .head)) | exact .tail (.tail (.tail (.tail .head))) | exact .tail (.tail (.tail (.tail (.tail .head))))) (by repeat constructor) (by first | exact .head | exact .tail .head | exact .tail (.tail .head) | exact .tail (.tail (.tail .head)) | exact .tail (.tail (.tail (.tail .head))) | exact .tail (.tail (.tail (.tail (.tail .head))))) ?_
      clear hS
      intro wx14 hS
      refine lst_done ?_
      exact hmeet _ _ _ ⟨_, fun hl => (by rw [if_neg (by show ¬ d5 = 1; omega)]; rfl), hS⟩ (by conv => lhs; whnf) (by kernel_rfl)
    clear hS
    rintro jv2 y w10 ⟨Aj, hAj, hS⟩
    refine goes_seq ?_
    refine goes_region ?_
    first
      | refine lst_run (run_loadN_own (k := 4) hS rfl rfl rfl (by first | exact .head | exact .tail .head | exact .tail (.tail .head) | exact .tail (.tail (.tail .head)) | exact .tail (.tail (.tail (.tail .head))) | exact .tail (.tail (.tail (.tail (.tail .head))))) (by repeat constructor)) rfl ?_
      | refine lst_run (run_load4 rfl rfl rfl (by first | assumption | exact hct _ hS | exact hS.cell0 (by assumption)) (by first | assumption | exact hct _ hS | exact hS.cell0 (by assumption)) (by first | assumption | exact hct _ hS | exact hS.cell0 (by assumption)) (by first | assumption | exact hct _ hS | exact hS.cell0 (by assumption))) rfl ?_
    refine lst_storeN hS rfl (by conv => lhs; whnf) rfl rfl (by first | exact .head | exact .tail .head | exact .tail (.tail .head) | exact .tail (.tail (.tail .head)) | exact .tail (.tail (.tail (.tail .head))) | exact .tail (.tail (.tail (.tail (.tail .head))))) (by repeat constructor) (by first | exact .head | exact .tail .head | exact .tail (.tail .head) | exact .tail (.tail (.tail .head)) | exact .tail (.tail (.tail (.tail .head))) | exact .tail (.tail (.tail (.tail (.tail .head))))) ?_
    clear hS
    intro wx15 hS
    refine lst_run (run_assign (by conv => lhs; whnf)) rfl ?_
    refine lst_done ?_
    refine goes_retC2 (sz := 4) hS Tryd.func6 rfl rfl (by conv => lhs; whnf) rfl rfl (by first | exact .head | exact .tail .head | exact .tail (.tail .head) | exact .tail (.tail (.tail .head)) | exact .tail (.tail (.tail (.tail .head))) | exact .tail (.tail (.tail (.tail (.tail .head))))) (by repeat constructor) ?_
    refine ⟨A5, c5, Aj, d5 - 1, F8, rfl, hF8, hf3, fun w hw => ?_, hS.drop.drop.drop⟩
    by_cases hl : 0 < G.length
    · rw [hAj hl]; exact (hf1 w hw).tail1
    · obtain rfl : G = [] := List.eq_nil_of_length_eq_zero (by omega)
      exact Flat.nil_ _ _ _
end
end Go.Proofs.YtdflngjfnpbpmabDoor
namespace Go.Proofs.YtdflngjfnpbpmabDoor
open Go.RowKit
set_option linter.unusedVariables false
set_option linter.unusedSimpArgs false
set_option maxRecDepth 100000
set_option maxHeartbeats 1000000

def cqTL (b : Nat) : TA := .cons 3 0 ⟨#[102]⟩ (some ⟨b, 0, none⟩) 1 (.cons 0 1 eS none 0 .nil .nil) .nil
def cqSL : Ts := .cons 3 0 ⟨#[102]⟩ (.cons 0 1 eS .nil .nil) .nil
def cqBL : List HC := [⟨0, 0, eS⟩, ⟨0, 1, eS⟩, ⟨3, 1, ⟨#[102]⟩⟩, ⟨0, 1, eS⟩]
theorem cq_qL : qB 2 cqSL = true := by kernel_rfl
theorem cq_bL : blockQ 2 cqSL = cqBL := by kernel_rfl
theorem cq_gL : goalsQ 2 cqSL = [2] := by kernel_rfl
theorem codesL_any (w : World) : Calls Tryd.prog 11 #[] w fun e w' => e = .returned (.bool true) ∧ Below w.heap.size w w' := by
  have hS := St.start w
  refine goes_enter0 Tryd.func11 rfl Tryd.ntmps11 rfl ?_
  refine goes_seq ?_
  refine goes_region ?_
  refine lst_run (run_assign (by conv => lhs; whnf)) rfl ?_
  refine lst_done ?_
  refine goes_seq ?_
  refine goes_region ?_
  refine lst_run (run_build (cells := [_, _, _, _]) (.cons (by conv => lhs; whnf) .nil) rfl) rfl ?_
  refine lst_buildSlice (cells := [_, _, _, _]) hS (.cons (by conv => lhs; whnf) .nil) rfl rfl ?_
  clear hS
  intro b1 wx1 hS
  refine lst_run (run_build (cells := [_, _, _, _]) (.cons (by conv => lhs; whnf) (.cons (by conv => lhs; whnf) (.cons (by conv => lhs; whnf) .nil))) rfl) rfl ?_
  refine lst_buildSlice (cells := [_, _, _, _]) hS (.cons (by conv => lhs; whnf) .nil) rfl rfl ?_
  clear hS
  intro b2 wx2 hS
  replace hS := hS.freeze.freeze
  have hT : Und [fun w => w.heap[b1]? = some (.cells [.int .i64 0, .int .i64 1, .string eS, .slice none 0 0].toArray 24), fun w => w.heap[b2]? = some (.cells [.int .i64 3, .int .i64 0, .string ⟨#[102]⟩, .slice (some ⟨b1, 0, none⟩) 1 1].toArray 24)] (ArA (some ⟨b2, 0, none⟩) 1 (cqTL b1)) := by
    intro w' hw
    have f1 := hw _ (.head _)
    have f2 := hw _ (.tail _ (.head _))
    refine ⟨Nat.le_refl _, fun _ => ⟨b2, 0, rfl, segA_of ⟨⟨Nat.le_refl _, fun _ => ⟨b1, 0, rfl, segA_of ⟨⟨Nat.le_refl _, fun h => absurd h (by simp [TA.len])⟩, trivial⟩ fun j u hu => ?_⟩⟩, trivial⟩ fun j u hu => ?_⟩⟩
    · rw [cell_own f1, Nat.zero_add]; exact hu
    · rw [cell_own f2, Nat.zero_add]; exact hu
  generalize [fun w : World => w.heap[b1]? = some (.cells [.int .i64 0, .int .i64 1, .string eS, .slice none 0 0].toArray 24), fun w => w.heap[b2]? = some (.cells [.int .i64 3, .int .i64 0, .string ⟨#[102]⟩, .slice (some ⟨b1, 0, none⟩) 1 1].toArray 24)] = F at *
  have hq := queryC_ok (M := []) (w0 := w) (H := []) 2 (cqTL b1) (some ⟨b2, 0, none⟩) 1 _ hT (by simp [cqTL, TA.len]) (by simp [cqTL, TA.ts, Ts.wide, Ts.length]) cq_qL hS
  rw [show (cqTL b1).ts = cqSL from rfl, cq_bL, cq_gL] at hq
  refine lst_enter (run_call (by kernel_rfl) (args_2 (by conv => lhs; whnf) (by conv => lhs; whnf))) rfl ?_
  refine Calls.mono (hq) ?_
  rintro _ w2 ⟨A2, B2, c2, d2, O2, O3, rfl, hrow2, hrow3, hS'⟩
  refine ⟨_, rfl, ?_⟩
  replace hS := hS'
  clear hS'
  replace hS := St.freezeR hrow3 (St.freezeR hrow2 hS)
  have hf2 : Und (Flat 1 (intsV [2]) B2 1 d2 :: Flat 3 (hcsL cqBL) A2 cqBL.length c2 :: F) (Flat 3 (hcsL cqBL) A2 cqBL.length c2) := Und.head.tail
  have hf3 : Und (Flat 1 (intsV [2]) B2 1 d2 :: Flat 3 (hcsL cqBL) A2 cqBL.length c2 :: F) (Flat 1 (intsV [2]) B2 1 d2) := Und.head
  have hcl : cqBL.length = 4 := rfl
  have hgl : ([2] : List Int).length = 1 := rfl
  obtain ⟨g, o, rfl⟩ := (hS.und hf2).some_ (by decide)
  obtain ⟨g3, o3, rfl⟩ := (hS.und hf3).some_ (by decide)
  have hc2 : ∀ {H'} w', St [] w H' _ w' → _ := fun {H'} w' hS => (St.und (H := H') hS hf2).cell (i := 2) (x := ⟨3, 1, ⟨#[102]⟩⟩) rfl
  have hc3 : ∀ {H'} w', St [] w H' _ w' → _ := fun {H'} w' hS => (St.und (H := H') hS hf2).cell (i := 3) (x := ⟨0, 1, eS⟩) rfl
  have hc4 : ∀ {H'} w', St [] w H' _ w' → _ := fun {H'} w' hS => (St.und (H := H') hS hf3).int (i := 0) (x := 2) rfl
  refine lst_run (run_move (by conv => lhs; whnf)) rfl ?_
  refine lst_run (run_extract rfl rfl) rfl ?_
  refine lst_run (run_extract rfl rfl) rfl ?_
  refine lst_alloc (cs := [_, _, _, _]) hS rfl rfl rfl ?_
  clear hS
  intro b3 wx3 hS
  refine lst_storeN hS rfl (by conv => lhs; whnf) rfl rfl (by first | exact .head | exact .tail .head | exact .tail (.tail .head) | exact .tail (.tail (.tail .head)) | exact .tail (.tail (.tail (.tail .head))) | exact .tail (.tail (.tail (.tail (.tail .head))))) (by repeat constructor) (by first | exact .head | exact .tail .head | exact .tail (.tail .head) | exact .tail (.tail (.tail .head)) | exact .tail (.tail (.tail (.tail .head))) | exact .tail (.tail (.tail (.tail (.tail .head))))) ?_
  clear hS
  intro wx4 hS
  refine lst_run (run_assign (by conv => lhs; whnf)) rfl ?_
  refine lst_done ?_
  refine goes_seq ?_
  refine goes_region ?_
  refine lst_run (run_move (by conv => lhs; whnf)) rfl ?_
  first
    | refine lst_run (run_eql_one_int rfl rfl) rfl ?_
    | refine lst_run (run_eql_no rfl rfl (by first | assumption | omega)) rfl ?_
    | refine lst_run (run_eql_yes rfl rfl (by omega)) rfl ?_
    | refine lst_run (rfl) rfl ?_
  refine lst_run (run_move (by conv => lhs; whnf)) rfl ?_
  refine lst_guard rfl rfl ?_
  refine lst_run (run_fieldAddr (off := 0) rfl rfl) rfl ?_
  refine lst_guard rfl rfl ?_
  first
    | refine lst_run (run_load1_own hS rfl rfl (by first | exact .head | exact .tail .head | exact .tail (.tail .head) | exact .tail (.tail (.tail .head)) | exact .tail (.tail (.tail (.tail .head))) | exact .tail (.tail (.tail (.tail (.tail .head))))) (by repeat constructor)) rfl ?_
    | refine lst_run (run_load1 rfl rfl (by first | assumption | exact (hc2 _ hS).1 | exact (hc3 _ hS).2.1 | exact hc4 _ hS | exact hS.cell0 (by assumption) | exact lv_next hS | exact lv_list hS)) rfl ?_
  refine lst_guard rfl rfl ?_
  refine lst_run (run_len_slice rfl rfl rfl) rfl ?_
  refine lst_guard rfl rfl ?_
  first
    | refine lst_run (run_eql_one_int rfl rfl) rfl ?_
    | refine lst_run (run_eql_no rfl rfl (by first | assumption | omega)) rfl ?_
    | refine lst_run (run_eql_yes rfl rfl (by omega)) rfl ?_
    | refine lst_run (rfl) rfl ?_
  first
    | refine lst_run (run_pick_t rfl (by conv => lhs; whnf)) rfl ?_
    | refine lst_run (run_pick_f rfl (by conv => lhs; whnf)) rfl ?_
  refine lst_run (run_move (by conv => lhs; whnf)) rfl ?_
  refine lst_guard rfl rfl ?_
  refine lst_run (run_fieldAddr (off := 0) rfl rfl) rfl ?_
  refine lst_guard rfl rfl ?_
  first
    | refine lst_run (run_load1_own hS rfl rfl (by first | exact .head | exact .tail .head | exact .tail (.tail .head) | exact .tail (.tail (.tail .head)) | exact .tail (.tail (.tail (.tail .head))) | exact .tail (.tail (.tail (.tail (.tail .head))))) (by repeat constructor)) rfl ?_
    | refine lst_run (run_load1 rfl rfl (by first | assumption | exact (hc2 _ hS).1 | exact (hc3 _ hS).2.1 | exact hc4 _ hS | exact hS.cell0 (by assumption) | exact lv_next hS | exact lv_list hS)) rfl ?_
  refine lst_guard rfl rfl ?_
  refine lst_run (run_indexAddr (sz := 3) rfl rfl rfl rfl (by omega) (by omega)) rfl ?_
  refine lst_guard rfl rfl ?_
  refine lst_run (run_fieldAddr (off := 0) rfl rfl) rfl ?_
  refine lst_guard rfl rfl ?_
  first
    | refine lst_run (run_load1_own hS rfl rfl (by first | exact .head | exact .tail .head | exact .tail (.tail .head) | exact .tail (.tail (.tail .head)) | exact .tail (.tail (.tail (.tail .head))) | exact .tail (.tail (.tail (.tail (.tail .head))))) (by repeat constructor)) rfl ?_
    | refine lst_run (run_load1 rfl rfl (by first | assumption | exact (hc2 _ hS).1 | exact (hc3 _ hS).2.1 | exact hc4 _ hS | exact hS.cell0 (by assumption) | exact lv_next hS | exact lv_list hS)) rfl ?_
  refine lst_guard rfl rfl ?_
  first
    | refine lst_run (run_eql_one_int rfl rfl) rfl ?_
    | refine lst_run (run_eql_no rfl rfl (by first | assumption | omega)) rfl ?_
    | refine lst_run (run_eql_yes rfl rfl (by omega)) rfl ?_
    | refine lst_run (rfl) rfl ?_
  first
    | refine lst_run (run_pick_t rfl (by conv => lhs; whnf)) rfl ?_
    | refine lst_run (run_pick_f rfl (by conv => lhs; whnf)) rfl ?_
  refine lst_run (run_move (by conv => lhs; whnf)) rfl ?_
  refine lst_guard rfl rfl ?_
  refine lst_run (run_fieldAddr (off := 0) rfl rfl) rfl ?_
  refine lst_guard rfl rfl ?_
  first
    | refine lst_run (run_load1_own hS rfl rfl (by first | exact .head | exact .tail .head | exact .tail (.tail .head) | exact .tail (.tail (.tail .head)) | exact .tail (.tail (.tail (.tail .head))) | exact .tail (.tail (.tail (.tail (.tail .head))))) (by repeat constructor)) rfl ?_
    | refine lst_run (run_load1 rfl rfl (by first | assumption | exact (hc2 _ hS).1 | exact (hc3 _ hS).2.1 | exact hc4 _ hS | exact hS.cell0 (by assumption) | exact lv_next hS | exact lv_list hS)) rfl ?_
  refine lst_guard rfl rfl ?_
  refine lst_run (run_indexAddr (sz := 3) rfl rfl rfl rfl (by omega) (by omega)) rfl ?_
  refine lst_guard rfl rfl ?_
  refine lst_run (run_fieldAddr (off := 1) rfl rfl) rfl ?_
  refine lst_guard rfl rfl ?_
  first
    | refine lst_run (run_load1_own hS rfl rfl (by first | exact .head | exact .tail .head | exact .tail (.tail .head) | exact .tail (.tail (.tail .head)) | exact .tail (.tail (.tail (.tail .head))) | exact .tail (.tail (.tail (.tail (.tail .head))))) (by repeat constructor)) rfl ?_
    | refine lst_run (run_load1 rfl rfl (by first | assumption | exact (hc2 _ hS).1 | exact (hc3 _ hS).2.1 | exact hc4 _ hS | exact hS.cell0 (by assumption) | exact lv_next hS | exact lv_list hS)) rfl ?_
  refine lst_guard rfl rfl ?_
  first
    | refine lst_run (run_eql_one_int rfl rfl) rfl ?_
    | refine lst_run (run_eql_no rfl rfl (by first | assumption | omega)) rfl ?_
    | refine lst_run (run_eql_yes rfl rfl (by omega)) rfl ?_
    | refine lst_run (rfl) rfl ?_
  first
    | refine lst_run (run_pick_t rfl (by conv => lhs; whnf)) rfl ?_
    | refine lst_run (run_pick_f rfl (by conv => lhs; whnf)) rfl ?_
  refine lst_run (run_move (by conv => lhs; whnf)) rfl ?_
  refine lst_guard rfl rfl ?_
  refine lst_run (run_fieldAddr (off := 3) rfl rfl) rfl ?_
  refine lst_guard rfl rfl ?_
  first
    | refine lst_run (run_load1_own hS rfl rfl (by first | exact .head | exact .tail .head | exact .tail (.tail .head) | exact .tail (.tail (.tail .head)) | exact .tail (.tail (.tail (.tail .head))) | exact .tail (.tail (.tail (.tail (.tail .head))))) (by repeat constructor)) rfl ?_
    | refine lst_run (run_load1 rfl rfl (by first | assumption | exact (hc2 _ hS).1 | exact (hc3 _ hS).2.1 | exact hc4 _ hS | exact hS.cell0 (by assumption) | exact lv_next hS | exact lv_list hS)) rfl ?_
  refine lst_guard rfl rfl ?_
  refine lst_run (run_len_slice rfl rfl rfl) rfl ?_
  refine lst_guard rfl rfl ?_
  first
    | refine lst_run (run_eql_one_int rfl rfl) rfl ?_
    | refine lst_run (run_eql_no rfl rfl (by first | assumption | omega)) rfl ?_
    | refine lst_run (run_eql_yes rfl rfl (by omega)) rfl ?_
    | refine lst_run (rfl) rfl ?_
  first
    | refine lst_run (run_pick_t rfl (by conv => lhs; whnf)) rfl ?_
    | refine lst_run (run_pick_f rfl (by conv => lhs; whnf)) rfl ?_
  refine lst_run (run_move (by conv => lhs; whnf)) rfl ?_
  refine lst_guard rfl rfl ?_
  refine lst_run (run_fieldAddr (off := 3) rfl rfl) rfl ?_
  refine lst_guard rfl rfl ?_
  first
    | refine lst_run (run_load1_own hS rfl rfl (by first | exact .head | exact .tail .head | exact .tail (.tail .head) | exact .tail (.tail (.tail .head)) | exact .tail (.tail (.tail (.tail .head))) | exact .tail (.tail (.tail (.tail (.tail .head))))) (by repeat constructor)) rfl ?_
    | refine lst_run (run_load1 rfl rfl (by first | assumption | exact (hc2 _ hS).1 | exact (hc3 _ hS).2.1 | exact hc4 _ hS | exact hS.cell0 (by assumption) | exact lv_next hS | exact lv_list hS)) rfl ?_
  refine lst_guard rfl rfl ?_
  refine lst_run (run_indexAddr (sz := 1) rfl rfl rfl rfl (by omega) (by omega)) rfl ?_
  refine lst_guard rfl rfl ?_
  first
    | refine lst_run (run_load1_own hS rfl rfl (by first | exact .head | exact .tail .head | exact .tail (.tail .head) | exact .tail (.tail (.tail .head)) | exact .tail (.tail (.tail (.tail .head))) | exact .tail (.tail (.tail (.tail (.tail .head))))) (by repeat constructor)) rfl ?_
    | refine lst_run (run_load1 rfl rfl (by first | assumption | exact (hc2 _ hS).1 | exact (hc3 _ hS).2.1 | exact hc4 _ hS | exact hS.cell0 (by assumption) | exact lv_next hS | exact lv_list hS)) rfl ?_
  refine lst_guard rfl rfl ?_
  first
    | refine lst_run (run_eql_one_int rfl rfl) rfl ?_
    | refine lst_run (run_eql_no rfl rfl (by first | assumption | omega)) rfl ?_
    | refine lst_run (run_eql_yes rfl rfl (by omega)) rfl ?_
    | refine lst_run (rfl) rfl ?_
  first
    | refine lst_run (run_pick_t rfl (by conv => lhs; whnf)) rfl ?_
    | refine lst_run (run_pick_f rfl (by conv => lhs; whnf)) rfl ?_
  refine lst_run (run_assign (by conv => lhs; whnf)) rfl ?_
  refine lst_done ?_
  refine goes_ret1 Tryd.func11 rfl (by conv => lhs; whnf) ?_
  exact ⟨rfl, hS.ext.below⟩
end Go.Proofs.YtdflngjfnpbpmabDoor
namespace Go.Proofs.YtdflngjfnpbpmabDoor
open Go.RowKit
set_option linter.unusedVariables false
set_option linter.unusedSimpArgs false
set_option maxRecDepth 100000
set_option maxHeartbeats 1000000

theorem brC_len (c : Cl) : (brC c).K.length ≤ 300 ∧ (brC c).G.length ≤ 300 := by
  unfold brC
  split
  · rename_i h
    refine ⟨blockC_len h, ?_⟩
    have := (cB_iff h).2.2.1
    show (goalsC c).length ≤ 300
    rw [goalsC, layL_len]; omega
  · simp
theorem brQ_len (vars : Int) (T : Ts) : (brQ vars T).K.length ≤ 300 ∧ (brQ vars T).G.length ≤ 300 := by
  unfold brQ
  split
  · rename_i h
    obtain ⟨h0, h1, h2, h3⟩ := qB_iff h
    have h4 := Ts.goals_nodes _ _ h3
    have h5 := layL_le T vars.toNat
    refine ⟨?_, ?_⟩
    · show (blockQ vars T).length ≤ 300
      simp only [blockQ, List.length_append, varsB_len]; omega
    · show (goalsQ vars T).length ≤ 300
      rw [goalsQ, layL_len]; omega
  · simp
theorem codeBlocks_any (cl : Cl) (u x : Value) (w : World) (hu : Sl w (fun _ => True) u cl.hd) (hx : Sl w (fun _ => True) x cl.bd) (h1n : cl.hd.nodes < 1048576) (h2n : cl.bd.nodes ≤ 1048576) :
    Calls Tryd.prog 3 #[.agg #[.int .i64 cl.k, .int .i64 cl.n, .string cl.s, u, x, .int .i64 cl.vars]] w fun e w' => e = .returned (.bool true) ∧ Below w.heap.size w w' := by
  obtain ⟨k, n, s, hdT, bdT, vars⟩ := cl
  dsimp only at hu hx h1n h2n ⊢
  obtain ⟨A1, c1, hd, rfl, rfl, hS1⟩ := (St.start w).located0 hu
  obtain ⟨A2, c2, bd, rfl, rfl, hS⟩ := hS1.located0 hx
  clear hS1 hu hx
  have h1u : Und [ArA A2 c2 bd, ArA A1 c1 hd] (ArA A1 c1 hd) := Und.head.tail
  have h2u : Und [ArA A2 c2 bd, ArA A1 c1 hd] (ArA A2 c2 bd) := Und.head
  generalize [ArA A2 c2 bd, ArA A1 c1 hd] = F at *
  have hwd : ∀ T : Ts, T.nodes ≤ 1048576 → T.length ≤ 9223372036854775807 ∧ T.wide := fun T hT => ⟨by have := Ts.length_le T; omega, Ts.wide_of T (by omega)⟩
  have hlc := brC_len ⟨k, n, s, hd.ts, bd.ts, vars⟩
  have hlq := brQ_len vars bd.ts
  refine goes_enter1 Tryd.func3 rfl Tryd.ntmps3 rfl ?_
  refine goes_seq ?_
  refine goes_region ?_
  refine lst_box hS rfl rfl ?_
  clear hS
  intro b1 wx1 hS
  refine lst_run (run_assign (by conv => lhs; whnf)) rfl ?_
  refine lst_done ?_
  refine goes_seq ?_
  refine goes_region ?_
  first
    | refine lst_run (run_loadN_own (k := 6) hS rfl rfl rfl (by first | exact .head | exact .tail .head | exact .tail (.tail .head) | exact .tail (.tail (.tail .head)) | exact .tail (.tail (.tail (.tail .head))) | exact .tail (.tail (.tail (.tail (.tail .head))))) (by repeat constructor)) rfl ?_
    | refine lst_run (run_load6 rfl rfl rfl (by first | assumption | exact hS.cell0 (by assumption)) (by first | assumption | exact hS.cell0 (by assumption)) (by first | assumption | exact hS.cell0 (by assumption)) (by first | assumption | exact hS.cell0 (by assumption)) (by first | assumption | exact hS.cell0 (by assumption)) (by first | assumption | exact hS.cell0 (by assumption))) rfl ?_
  refine lst_enter (run_call (by kernel_rfl) (args_1 (by conv => lhs; whnf))) rfl ?_
  refine Calls.mono (clause_any ⟨k, n, s, hd.ts, bd.ts, vars⟩ _ _ _ (hS.und h1u).sl (hS.und h2u).sl (by show hd.ts.nodes ≤ _; omega) h2n) ?_
  rintro _ w2 ⟨u2, y2, rfl, hu2, hy2, hb2⟩
  refine ⟨_, rfl, ?_⟩
  dsimp only at hu2 hy2
  obtain ⟨A3, c3, hd3, rfl, e3, hz3⟩ := hu2.locate
  obtain ⟨A4, c4, bd4, rfl, e4, hz4⟩ := hy2.locate
  have hkey := fun (m : Nat) (hm : m ∈ _) => hS.keys_lt (k := m) hm
  replace hS := ((hS.grow hb2).learn (φ := ArA A3 c3 hd3) fun w2 hx => hz3 w2 fun k hk hl => hx.block k hl fun hm => by have := hkey _ hm; omega).learn (φ := ArA A4 c4 bd4) fun w2 hx => hz4 w2 fun k hk hl => hx.block k hl fun hm => by have := hkey _ hm; omega
  clear hz3 hz4 hu2 hy2 hb2 hkey
  have h13 : Und (ArA A4 c4 bd4 :: ArA A3 c3 hd3 :: F) (ArA A3 c3 hd3) := Und.head.tail
  have h24 : Und (ArA A4 c4 bd4 :: ArA A3 c3 hd3 :: F) (ArA A4 c4 bd4) := Und.head
  replace h1u := h1u.tail (φ := ArA A3 c3 hd3) |>.tail (φ := ArA A4 c4 bd4)
  replace h2u := h2u.tail (φ := ArA A3 c3 hd3) |>.tail (φ := ArA A4 c4 bd4)
  generalize ArA A4 c4 bd4 :: ArA A3 c3 hd3 :: F = F2 at *
  have hcr := clauseR_any k n vars s hd3 bd4 A3 A4 c3 c4 _ h13 h24 (by rw [← TA.len_ts, e3]; exact (hwd _ (by omega)).1) (by rw [e3]; exact (hwd _ (by omega)).2) (by rw [← TA.len_ts, e4]; exact (hwd _ h2n).1) (by rw [e4]; exact (hwd _ h2n).2) hS
  rw [e3, e4] at hcr
  refine lst_enter (run_call (by kernel_rfl) (args_1 (by conv => lhs; whnf))) rfl ?_
  refine Calls.mono (hcr) ?_
  rintro _ w3 ⟨A5, c5, B5, d5, F5, rfl, hF5, hK5, hG5, hS'⟩
  refine ⟨_, rfl, ?_⟩
  replace hS := hS'
  clear hS'
  refine lst_run (run_move (by conv => lhs; whnf)) rfl ?_
  refine lst_run (run_extract rfl rfl) rfl ?_
  refine lst_run (run_extract rfl rfl) rfl ?_
  refine lst_alloc (cs := [_, _, _, _]) hS rfl rfl rfl ?_
  clear hS
  intro b2 wx2 hS
  refine lst_storeN hS rfl (by conv => lhs; whnf) rfl rfl (by first | exact .head | exact .tail .head | exact .tail (.tail .head) | exact .tail (.tail (.tail .head)) | exact .tail (.tail (.tail (.tail .head))) | exact .tail (.tail (.tail (.tail (.tail .head))))) (by repeat constructor) (by first | exact .head | exact .tail .head | exact .tail (.tail .head) | exact .tail (.tail (.tail .head)) | exact .tail (.tail (.tail (.tail .head))) | exact .tail (.tail (.tail (.tail (.tail .head))))) ?_
  clear hS
  intro wx3 hS
  refine lst_run (run_assign (by conv => lhs; whnf)) rfl ?_
  refine lst_done ?_
  refine goes_seq ?_
  refine goes_region ?_
  first
    | refine lst_run (run_loadN_own (k := 6) hS rfl rfl rfl (by first | exact .head | exact .tail .head | exact .tail (.tail .head) | exact .tail (.tail (.tail .head)) | exact .tail (.tail (.tail (.tail .head))) | exact .tail (.tail (.tail (.tail (.tail .head))))) (by repeat constructor)) rfl ?_
    | refine lst_run (run_load6 rfl rfl rfl (by first | assumption | exact hS.cell0 (by assumption)) (by first | assumption | exact hS.cell0 (by assumption)) (by first | assumption | exact hS.cell0 (by assumption)) (by first | assumption | exact hS.cell0 (by assumption)) (by first | assumption | exact hS.cell0 (by assumption)) (by first | assumption | exact hS.cell0 (by assumption))) rfl ?_
  refine lst_enter (run_call (by kernel_rfl) (args_1 (by conv => lhs; whnf))) rfl ?_
  refine Calls.mono (clauseBlock_any k n vars s hd bd A1 A2 c1 c2 _ (h1u.mono hF5) (h2u.mono hF5) h1n h2n hS) ?_
  rintro _ w4 ⟨A6, c6, B6, d6, F6, rfl, hF6, hK6, hG6, hS'⟩
  refine ⟨_, rfl, ?_⟩
  replace hS := hS'
  clear hS'
  have h2u6 := (h2u.mono hF5).mono hF6
  have hK56 := hK5.mono hF6
  have hG56 := hG5.mono hF6
  generalize brC ⟨k, n, s, hd.ts, bd.ts, vars⟩ = rC at *
  refine lst_run (run_move (by conv => lhs; whnf)) rfl ?_
  refine lst_run (run_extract rfl rfl) rfl ?_
  refine lst_run (run_extract rfl rfl) rfl ?_
  refine lst_alloc (cs := [_, _, _, _]) hS rfl rfl rfl ?_
  clear hS
  intro b3 wx4 hS
  refine lst_storeN hS rfl (by conv => lhs; whnf) rfl rfl (by first | exact .head | exact .tail .head | exact .tail (.tail .head) | exact .tail (.tail (.tail .head)) | exact .tail (.tail (.tail (.tail .head))) | exact .tail (.tail (.tail (.tail (.tail .head))))) (by repeat constructor) (by first | exact .head | exact .tail .head | exact .tail (.tail .head) | exact .tail (.tail (.tail .head)) | exact .tail (.tail (.tail (.tail .head))) | exact .tail (.tail (.tail (.tail (.tail .head))))) ?_
  clear hS
  intro wx5 hS
  refine lst_run (run_assign (by conv => lhs; whnf)) rfl ?_
  refine lst_done ?_
  refine goes_seq ?_
  refine goes_meet2 7 8 (23 :: 24 :: 25 :: 26 :: 27 :: 28 :: 22 :: 29 :: 30 :: []) (fun y z w' => ∃ (b4 : Nat) (A8 B8 : Option Addr) (c8 d8 : Nat) (F8 : List (World → Prop)), y = .pointer (some ⟨b4, 0, none⟩) ∧ z = .int .i64 (brQ vars bd.ts).e ∧ (∀ φ ∈ F6, φ ∈ F8) ∧ Und F8 (Flat 3 (hcsL (brQ vars bd.ts).K) A8 (brQ vars bd.ts).K.length c8) ∧ Und F8 (Flat 1 (intsV (brQ vars bd.ts).G) B8 (brQ vars bd.ts).G.length d8) ∧ St [] w [(b4, bobC A8 (brQ vars bd.ts).K.length c8 (brQ vars bd.ts).v (brQ vars bd.ts).h B8 (brQ vars bd.ts).G.length d8), (b3, bobC A6 rC.K.length c6 rC.v rC.h B6 rC.G.length d6), (b2, bobC A5 rC.K.length c5 rC.v rC.h B5 rC.G.length d5), (b1, .cells [.int .i64 k, .int .i64 n, .string s, .slice A1 hd.len c1, .slice A2 bd.len c2, .int .i64 vars].toArray 26)] F8 w') ?_ ?_
  · intro hmeet
    refine goes_plan (St _ _ _ _) 12 (.read 0 (.read 1 (.read 3 (.read 4 (.pick 2 (.pick 5 (.read 6 (.read 7 (.read 8 (.pick 9 (.pick 10 (.read 11 .tail) .none) .none)))) (.pick 9 (.pick 5 (.read 6 (.read 7 (.read 8 (.pick 10 (.read 11 .tail) .none)))) .none) .none)) (.pick 9 (.pick 2 (.pick 5 (.read 6 (.read 7 (.read 8 (.pick 10 (.read 11 .tail) .none)))) .none) .none) .none)))))) (by kernel_rfl) (by kernel_rfl) hS.drew ?_
    replace hS := hS.drew
    refine pln_read rfl (fun _ hS => run_fieldAddr (off := 4) rfl rfl) rfl ?_
    first
      | refine pln_read rfl (fun _ hS => run_load1_own hS rfl rfl (by first | exact .head | exact .tail .head | exact .tail (.tail .head) | exact .tail (.tail (.tail .head)) | exact .tail (.tail (.tail (.tail .head))) | exact .tail (.tail (.tail (.tail (.tail .head))))) (by repeat constructor)) rfl ?_
      | refine pln_read rfl (fun _ hS => run_load1 rfl rfl (by first | assumption | exact hS.cell0 (by assumption) | exact lv_next hS | exact lv_list hS)) rfl ?_
    refine pln_read rfl (fun _ hS => run_fieldAddr (off := 5) rfl rfl) rfl ?_
    first
      | refine pln_read rfl (fun _ hS => run_load1_own hS rfl rfl (by first | exact .head | exact .tail .head | exact .tail (.tail .head) | exact .tail (.tail (.tail .head)) | exact .tail (.tail (.tail (.tail .head))) | exact .tail (.tail (.tail (.tail (.tail .head))))) (by repeat constructor)) rfl ?_
      | refine pln_read rfl (fun _ hS => run_load1 rfl rfl (by first | assumption | exact hS.cell0 (by assumption) | exact lv_next hS | exact lv_list hS)) rfl ?_
    refine pln_pick rfl ?_ ?_
    · refine lst_enter (run_call (by kernel_rfl) (args_1 (by conv => lhs; whnf))) rfl ?_
      refine Calls.mono (copy_said bd.ts _ _ (hS.und h2u6).sl h2n) ?_
      rintro _ w7 ⟨v7, rfl, hsl7, hb7⟩
      refine ⟨_, rfl, ?_⟩
      obtain ⟨A7, c7, bd7, rfl, e7, hS'⟩ := hS.located hb7 hsl7
      clear hS
      obtain ⟨F7, hF7, h7u, hS⟩ : ∃ F7 : List (World → Prop), (∀ φ ∈ F6, φ ∈ F7) ∧ Und F7 (ArA A7 c7 bd7) ∧ St _ _ _ F7 _ := ⟨_, fun φ h => .tail _ h, Und.head, hS'⟩
      clear hS'
      refine lst_pln (by first | exact hS | exact hS.drop | exact hS.drop.drop | exact hS.drop.drop.drop | exact hS.unlearn | exact hS.unlearn.drop | exact hS.unlearn.drop.drop | exact hS.forget hF7 | exact hS.drop.forget hF7 | exact hS.forget hF8 | exact hS.drop.forget hF8) ?_
      refine pln_pick rfl ?_ ?_
      · refine lst_enter (run_call (by kernel_rfl) (args_2 (by conv => lhs; whnf) (by conv => lhs; whnf))) rfl ?_
        have hqr := queryR_any vars bd7 A7 c7 _ h7u (by rw [← TA.len_ts, e7]; exact (hwd _ h2n).1) (by rw [e7]; exact (hwd _ h2n).2) hS
        rw [e7] at hqr
        refine Calls.mono hqr ?_
        rintro _ w8 ⟨A8, c8, B8, d8, F8, rfl, hF8', hK8, hG8, hS'⟩
        refine ⟨_, rfl, ?_⟩
        clear hS
        have hS := hS'
        clear hS'
        have hF8 : ∀ φ ∈ F6, φ ∈ F8 := fun φ h => hF8' φ (hF7 φ h)
        refine lst_pln (by first | exact hS | exact hS.drop | exact hS.drop.drop | exact hS.drop.drop.drop | exact hS.unlearn | exact hS.unlearn.drop | exact hS.unlearn.drop.drop | exact hS.forget hF7 | exact hS.drop.forget hF7 | exact hS.forget hF8 | exact hS.drop.forget hF8) ?_
        refine pln_read rfl (fun _ hS => run_move (by conv => lhs; whnf)) rfl ?_
        refine pln_read rfl (fun _ hS => run_extract rfl rfl) rfl ?_
        refine pln_read rfl (fun _ hS => run_extract rfl rfl) rfl ?_
        refine pln_last rfl ?_
        refine lst_alloc (cs := [_, _, _, _]) hS rfl rfl rfl ?_
        clear hS
        intro b4 wx6 hS
        refine lst_pln (by first | exact hS | exact hS.drop | exact hS.drop.drop | exact hS.drop.drop.drop | exact hS.unlearn | exact hS.unlearn.drop | exact hS.unlearn.drop.drop | exact hS.forget hF7 | exact hS.drop.forget hF7 | exact hS.forget hF8 | exact hS.drop.forget hF8) ?_
        refine pln_last rfl ?_
        refine lst_storeN hS rfl (by conv => lhs; whnf) rfl rfl (by first | exact .head | exact .tail .head | exact .tail (.tail .head) | exact .tail (.tail (.tail .head)) | exact .tail (.tail (.tail (.tail .head))) | exact .tail (.tail (.tail (.tail (.tail .head))))) (by repeat constructor) (by first | exact .head | exact .tail .head | exact .tail (.tail .head) | exact .tail (.tail (.tail .head)) | exact .tail (.tail (.tail (.tail .head))) | exact .tail (.tail (.tail (.tail (.tail .head))))) ?_
        clear hS
        intro wx7 hS
        refine lst_pln (by first | exact hS | exact hS.drop | exact hS.drop.drop | exact hS.drop.drop.drop | exact hS.unlearn | exact hS.unlearn.drop | exact hS.unlearn.drop.drop | exact hS.forget hF7 | exact hS.drop.forget hF7 | exact hS.forget hF8 | exact hS.drop.forget hF8) ?_
        refine pln_read rfl (fun _ hS => run_assign (by conv => lhs; whnf)) rfl ?_
        refine pln_tail ?_
        refine lst_done ?_
        exact hmeet _ _ _ _ ⟨_, A8, B8, c8, d8, F8, rfl, rfl, hF8, hK8, hG8, hS⟩ (by conv => lhs; whnf) (by conv => lhs; whnf) (by kernel_rfl)
      refine pln_last rfl ?_
      refine lst_alloc (cs := [_, _, _, _]) hS rfl rfl rfl ?_
      clear hS
      intro b5 wx8 hS
      refine lst_pln (by first | exact hS | exact hS.drop | exact hS.drop.drop | exact hS.drop.drop.drop | exact hS.unlearn | exact hS.unlearn.drop | exact hS.unlearn.drop.drop | exact hS.forget hF7 | exact hS.drop.forget hF7 | exact hS.forget hF8 | exact hS.drop.forget hF8) ?_
      refine pln_last rfl ?_
      refine lst_enter (run_call (by kernel_rfl) (args_2 (by conv => lhs; whnf) (by conv => lhs; whnf))) rfl ?_
      have hqr := queryR_any vars bd7 A7 c7 _ h7u (by rw [← TA.len_ts, e7]; exact (hwd _ h2n).1) (by rw [e7]; exact (hwd _ h2n).2) hS
      rw [e7] at hqr
      refine Calls.mono hqr ?_
      rintro _ w8 ⟨A8, c8, B8, d8, F8, rfl, hF8', hK8, hG8, hS'⟩
      refine ⟨_, rfl, ?_⟩
      clear hS
      have hS := hS'
      clear hS'
      have hF8 : ∀ φ ∈ F6, φ ∈ F8 := fun φ h => hF8' φ (hF7 φ h)
      refine lst_pln (by first | exact hS | exact hS.drop | exact hS.drop.drop | exact hS.drop.drop.drop | exact hS.unlearn | exact hS.unlearn.drop | exact hS.unlearn.drop.drop | exact hS.forget hF7 | exact hS.drop.forget hF7 | exact hS.forget hF8 | exact hS.drop.forget hF8) ?_
      refine pln_read rfl (fun _ hS => run_move (by conv => lhs; whnf)) rfl ?_
      refine pln_read rfl (fun _ hS => run_extract rfl rfl) rfl ?_
      refine pln_read rfl (fun _ hS => run_extract rfl rfl) rfl ?_
      refine pln_last rfl ?_
      refine lst_storeN hS rfl (by conv => lhs; whnf) rfl rfl (by first | exact .head | exact .tail .head | exact .tail (.tail .head) | exact .tail (.tail (.tail .head)) | exact .tail (.tail (.tail (.tail .head))) | exact .tail (.tail (.tail (.tail (.tail .head))))) (by repeat constructor) (by first | exact .head | exact .tail .head | exact .tail (.tail .head) | exact .tail (.tail (.tail .head)) | exact .tail (.tail (.tail (.tail .head))) | exact .tail (.tail (.tail (.tail (.tail .head))))) ?_
      clear hS
      intro wx9 hS
      refine lst_pln (by first | exact hS | exact hS.drop | exact hS.drop.drop | exact hS.drop.drop.drop | exact hS.unlearn | exact hS.unlearn.drop | exact hS.unlearn.drop.drop | exact hS.forget hF7 | exact hS.drop.forget hF7 | exact hS.forget hF8 | exact hS.drop.forget hF8) ?_
      refine pln_read rfl (fun _ hS => run_assign (by conv => lhs; whnf)) rfl ?_
      refine pln_tail ?_
      refine lst_done ?_
      exact hmeet _ _ _ _ ⟨_, A8, B8, c8, d8, F8, rfl, rfl, hF8, hK8, hG8, hS⟩ (by conv => lhs; whnf) (by conv => lhs; whnf) (by kernel_rfl)
    refine pln_last rfl ?_
    refine lst_alloc (cs := [_, _, _, _]) hS rfl rfl rfl ?_
    clear hS
    intro b6 wx10 hS
    refine lst_pln (by first | exact hS | exact hS.drop | exact hS.drop.drop | exact hS.drop.drop.drop | exact hS.unlearn | exact hS.unlearn.drop | exact hS.unlearn.drop.drop | exact hS.forget hF7 | exact hS.drop.forget hF7 | exact hS.forget hF8 | exact hS.drop.forget hF8) ?_
    refine pln_last rfl ?_
    refine lst_enter (run_call (by kernel_rfl) (args_1 (by conv => lhs; whnf))) rfl ?_
    refine Calls.mono (copy_said bd.ts _ _ (hS.und h2u6).sl h2n) ?_
    rintro _ w7 ⟨v7, rfl, hsl7, hb7⟩
    refine ⟨_, rfl, ?_⟩
    obtain ⟨A7, c7, bd7, rfl, e7, hS'⟩ := hS.located hb7 hsl7
    clear hS
    obtain ⟨F7, hF7, h7u, hS⟩ : ∃ F7 : List (World → Prop), (∀ φ ∈ F6, φ ∈ F7) ∧ Und F7 (ArA A7 c7 bd7) ∧ St _ _ _ F7 _ := ⟨_, fun φ h => .tail _ h, Und.head, hS'⟩
    clear hS'
    refine lst_pln (by first | exact hS | exact hS.drop | exact hS.drop.drop | exact hS.drop.drop.drop | exact hS.unlearn | exact hS.unlearn.drop | exact hS.unlearn.drop.drop | exact hS.forget hF7 | exact hS.drop.forget hF7 | exact hS.forget hF8 | exact hS.drop.forget hF8) ?_
    refine pln_last rfl ?_
    refine lst_enter (run_call (by kernel_rfl) (args_2 (by conv => lhs; whnf) (by conv => lhs; whnf))) rfl ?_
    have hqr := queryR_any vars bd7 A7 c7 _ h7u (by rw [← TA.len_ts, e7]; exact (hwd _ h2n).1) (by rw [e7]; exact (hwd _ h2n).2) hS
    rw [e7] at hqr
    refine Calls.mono hqr ?_
    rintro _ w8 ⟨A8, c8, B8, d8, F8, rfl, hF8', hK8, hG8, hS'⟩
    refine ⟨_, rfl, ?_⟩
    clear hS
    have hS := hS'
    clear hS'
    have hF8 : ∀ φ ∈ F6, φ ∈ F8 := fun φ h => hF8' φ (hF7 φ h)
    refine lst_pln (by first | exact hS | exact hS.drop | exact hS.drop.drop | exact hS.drop.drop.drop | exact hS.unlearn | exact hS.unlearn.drop | exact hS.unlearn.drop.drop | exact hS.forget hF7 | exact hS.drop.forget hF7 | exact hS.forget hF8 | exact hS.drop.forget hF8) ?_
    refine pln_read rfl (fun _ hS => run_move (by conv => lhs; whnf)) rfl ?_
    refine pln_read rfl (fun _ hS => run_extract rfl rfl) rfl ?_
    refine pln_read rfl (fun _ hS => run_extract rfl rfl) rfl ?_
    refine pln_last rfl ?_
    refine lst_storeN hS rfl (by conv => lhs; whnf) rfl rfl (by first | exact .head | exact .tail .head | exact .tail (.tail .head) | exact .tail (.tail (.tail .head)) | exact .tail (.tail (.tail (.tail .head))) | exact .tail (.tail (.tail (.tail (.tail .head))))) (by repeat constructor) (by first | exact .head | exact .tail .head | exact .tail (.tail .head) | exact .tail (.tail (.tail .head)) | exact .tail (.tail (.tail (.tail .head))) | exact .tail (.tail (.tail (.tail (.tail .head))))) ?_
    clear hS
    intro wx11 hS
    refine lst_pln (by first | exact hS | exact hS.drop | exact hS.drop.drop | exact hS.drop.drop.drop | exact hS.unlearn | exact hS.unlearn.drop | exact hS.unlearn.drop.drop | exact hS.forget hF7 | exact hS.drop.forget hF7 | exact hS.forget hF8 | exact hS.drop.forget hF8) ?_
    refine pln_read rfl (fun _ hS => run_assign (by conv => lhs; whnf)) rfl ?_
    refine pln_tail ?_
    refine lst_done ?_
    exact hmeet _ _ _ _ ⟨_, A8, B8, c8, d8, F8, rfl, rfl, hF8, hK8, hG8, hS⟩ (by conv => lhs; whnf) (by conv => lhs; whnf) (by kernel_rfl)
  clear hS
  rintro jv y z w9 ⟨b4, A8, B8, c8, d8, F8, rfl, rfl, hF8, hK8, hG8, hS⟩
  refine goes_seq ?_
  refine goes_region ?_
  refine lst_run (run_fieldAddr (off := 4) rfl rfl) rfl ?_
  first
    | refine lst_run (run_load1_own hS rfl rfl (by first | exact .head | exact .tail .head | exact .tail (.tail .head) | exact .tail (.tail (.tail .head)) | exact .tail (.tail (.tail (.tail .head))) | exact .tail (.tail (.tail (.tail (.tail .head))))) (by repeat constructor)) rfl ?_
    | refine lst_run (run_load1 rfl rfl (by first | assumption | exact hS.cell0 (by assumption) | exact lv_next hS | exact lv_list hS)) rfl ?_
  refine lst_run (run_fieldAddr (off := 5) rfl rfl) rfl ?_
  first
    | refine lst_run (run_load1_own hS rfl rfl (by first | exact .head | exact .tail .head | exact .tail (.tail .head) | exact .tail (.tail (.tail .head)) | exact .tail (.tail (.tail (.tail .head))) | exact .tail (.tail (.tail (.tail (.tail .head))))) (by repeat constructor)) rfl ?_
    | refine lst_run (run_load1 rfl rfl (by first | assumption | exact hS.cell0 (by assumption) | exact lv_next hS | exact lv_list hS)) rfl ?_
  refine lst_enter (run_call (by kernel_rfl) (args_2 (by conv => lhs; whnf) (by conv => lhs; whnf))) rfl ?_
  refine Calls.mono (queryBlock_any vars bd A2 c2 _ (h2u6.mono hF8) h2n hS) ?_
  rintro _ w10 ⟨A9, c9, B9, d9, F9, rfl, hF9, hK9, hG9, hS'⟩
  refine ⟨_, rfl, ?_⟩
  replace hS := hS'
  clear hS'
  generalize brQ vars bd.ts = rQ at *
  refine lst_run (run_move (by conv => lhs; whnf)) rfl ?_
  refine lst_run (run_extract rfl rfl) rfl ?_
  refine lst_run (run_extract rfl rfl) rfl ?_
  refine lst_alloc (cs := [_, _, _, _]) hS rfl rfl rfl ?_
  clear hS
  intro b7 wx12 hS
  refine lst_storeN hS rfl (by conv => lhs; whnf) rfl rfl (by first | exact .head | exact .tail .head | exact .tail (.tail .head) | exact .tail (.tail (.tail .head)) | exact .tail (.tail (.tail (.tail .head))) | exact .tail (.tail (.tail (.tail (.tail .head))))) (by repeat constructor) (by first | exact .head | exact .tail .head | exact .tail (.tail .head) | exact .tail (.tail (.tail .head)) | exact .tail (.tail (.tail (.tail .head))) | exact .tail (.tail (.tail (.tail (.tail .head))))) ?_
  clear hS
  intro wx13 hS
  refine lst_run (run_assign (by conv => lhs; whnf)) rfl ?_
  refine lst_done ?_
  refine goes_seq ?_
  refine goes_region ?_
  first
    | refine lst_run (run_loadN_own (k := 4) hS rfl rfl rfl (by first | exact .head | exact .tail .head | exact .tail (.tail .head) | exact .tail (.tail (.tail .head)) | exact .tail (.tail (.tail (.tail .head))) | exact .tail (.tail (.tail (.tail (.tail .head))))) (by repeat constructor)) rfl ?_
    | refine lst_run (run_load4 rfl rfl rfl (by first | assumption | exact hS.cell0 (by assumption)) (by first | assumption | exact hS.cell0 (by assumption)) (by first | assumption | exact hS.cell0 (by assumption)) (by first | assumption | exact hS.cell0 (by assumption))) rfl ?_
  first
    | refine lst_run (run_loadN_own (k := 4) hS rfl rfl rfl (by first | exact .head | exact .tail .head | exact .tail (.tail .head) | exact .tail (.tail (.tail .head)) | exact .tail (.tail (.tail (.tail .head))) | exact .tail (.tail (.tail (.tail (.tail .head))))) (by repeat constructor)) rfl ?_
    | refine lst_run (run_load4 rfl rfl rfl (by first | assumption | exact hS.cell0 (by assumption)) (by first | assumption | exact hS.cell0 (by assumption)) (by first | assumption | exact hS.cell0 (by assumption)) (by first | assumption | exact hS.cell0 (by assumption))) rfl ?_
  refine lst_enter (run_call (by kernel_rfl) (args_2 (by conv => lhs; whnf) (by conv => lhs; whnf))) rfl ?_
  refine Calls.mono (sameBlock_eq rC A5 B5 A6 B6 c5 d5 c6 d6 _ (hS.und ((hK56.mono hF8).mono hF9)) (hS.und ((hG56.mono hF8).mono hF9)) (hS.und ((hK6.mono hF8).mono hF9)) (hS.und ((hG6.mono hF8).mono hF9)) (by omega) (by omega)) ?_
  rintro _ w11 ⟨rfl, hb11⟩
  refine ⟨_, rfl, ?_⟩
  replace hS := hS.grow hb11
  refine lst_run (run_move (by conv => lhs; whnf)) rfl ?_
  refine lst_guard rfl rfl ?_
  refine lst_run (run_move (by conv => lhs; whnf)) rfl ?_
  refine lst_guard rfl rfl ?_
  refine lst_run (run_move (by conv => lhs; whnf)) rfl ?_
  refine lst_guard rfl rfl ?_
  first
    | refine lst_run (run_eql_one_int rfl rfl) rfl ?_
    | refine lst_run (run_eql_no rfl rfl (by first | assumption | omega)) rfl ?_
    | refine lst_run (run_eql_yes rfl rfl (by omega)) rfl ?_
    | refine lst_run (rfl) rfl ?_
  first
    | refine lst_run (run_pick_t rfl (by conv => lhs; whnf)) rfl ?_
    | refine lst_run (run_pick_f rfl (by conv => lhs; whnf)) rfl ?_
  refine lst_run (run_move (by conv => lhs; whnf)) rfl ?_
  refine lst_guard rfl rfl ?_
  first
    | refine lst_run (run_loadN_own (k := 4) hS rfl rfl rfl (by first | exact .head | exact .tail .head | exact .tail (.tail .head) | exact .tail (.tail (.tail .head)) | exact .tail (.tail (.tail (.tail .head))) | exact .tail (.tail (.tail (.tail (.tail .head))))) (by repeat constructor)) rfl ?_
    | refine lst_run (run_load4 rfl rfl rfl (by first | assumption | exact hS.cell0 (by assumption)) (by first | assumption | exact hS.cell0 (by assumption)) (by first | assumption | exact hS.cell0 (by assumption)) (by first | assumption | exact hS.cell0 (by assumption))) rfl ?_
  refine lst_guard rfl rfl ?_
  first
    | refine lst_run (run_loadN_own (k := 4) hS rfl rfl rfl (by first | exact .head | exact .tail .head | exact .tail (.tail .head) | exact .tail (.tail (.tail .head)) | exact .tail (.tail (.tail (.tail .head))) | exact .tail (.tail (.tail (.tail (.tail .head))))) (by repeat constructor)) rfl ?_
    | refine lst_run (run_load4 rfl rfl rfl (by first | assumption | exact hS.cell0 (by assumption)) (by first | assumption | exact hS.cell0 (by assumption)) (by first | assumption | exact hS.cell0 (by assumption)) (by first | assumption | exact hS.cell0 (by assumption))) rfl ?_
  refine lst_guard rfl rfl ?_
  refine lst_enter (run_call (by kernel_rfl) (args_2 (by conv => lhs; whnf) (by conv => lhs; whnf))) rfl ?_
  refine Calls.mono (sameBlock_eq rQ A8 B8 A9 B9 c8 d8 c9 d9 _ (hS.und (hK8.mono hF9)) (hS.und (hG8.mono hF9)) (hS.und hK9) (hS.und hG9) (by omega) (by omega)) ?_
  rintro _ w12 ⟨rfl, hb12⟩
  refine ⟨_, rfl, ?_⟩
  replace hS := hS.grow hb12
  first
    | refine lst_run (run_pick_t rfl (by conv => lhs; whnf)) rfl ?_
    | refine lst_run (run_pick_f rfl (by conv => lhs; whnf)) rfl ?_
  refine lst_run (run_move (by conv => lhs; whnf)) rfl ?_
  refine lst_guard rfl rfl ?_
  refine lst_run (run_move (by conv => lhs; whnf)) rfl ?_
  refine lst_guard rfl rfl ?_
  refine lst_run (run_move (by conv => lhs; whnf)) rfl ?_
  refine lst_guard rfl rfl ?_
  first
    | refine lst_run (run_eql_one_int rfl rfl) rfl ?_
    | refine lst_run (run_eql_no rfl rfl (by first | assumption | omega)) rfl ?_
    | refine lst_run (run_eql_yes rfl rfl (by omega)) rfl ?_
    | refine lst_run (rfl) rfl ?_
  first
    | refine lst_run (run_pick_t rfl (by conv => lhs; whnf)) rfl ?_
    | refine lst_run (run_pick_f rfl (by conv => lhs; whnf)) rfl ?_
  refine lst_run (run_move (by conv => lhs; whnf)) rfl ?_
  refine lst_guard rfl rfl ?_
  refine lst_enter (run_call (by kernel_rfl) args_nil) rfl ?_
  refine Calls.mono (codesL_any _) ?_
  rintro _ w13 ⟨rfl, hb13⟩
  refine ⟨_, rfl, ?_⟩
  replace hS := hS.grow hb13
  first
    | refine lst_run (run_pick_t rfl (by conv => lhs; whnf)) rfl ?_
    | refine lst_run (run_pick_f rfl (by conv => lhs; whnf)) rfl ?_
  refine lst_run (run_assign (by conv => lhs; whnf)) rfl ?_
  refine lst_done ?_
  refine goes_ret1 Tryd.func3 rfl (by conv => lhs; whnf) ?_
  exact ⟨rfl, hS.ext.below⟩
end Go.Proofs.YtdflngjfnpbpmabDoor
