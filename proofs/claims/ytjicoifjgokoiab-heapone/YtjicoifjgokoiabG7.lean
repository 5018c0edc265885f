/- HWalk9, LOne, Open, HOpen: texts that follow one another, laid into one file. -/
import Derived.Test.YtjicoifjgokoiabG6
import Derived.Test.YtjicoifjgokoiabG1
import Derived.Test.YtjicoifjgokoiabRows
import Derived.Deep.Slices
import Derived.Deep.Fields
import Derived.JoinedCond
import Derived.OpenShut
namespace Go.Proofs.Ytjicoifjgokoiab
open Go.RowKit
set_option linter.unusedVariables false
set_option linter.unusedSimpArgs false
set_option maxRecDepth 100000
set_option maxHeartbeats 1000000

def zLT : LT := ⟨0, 0, eS, none, 0, .nil⟩
theorem zLT_rd (w : World) : LRd zLT w := ⟨Nat.le_refl _, fun h => by simp [zLT, TA.len] at h⟩
theorem zLT_tm : zLT.tm = zeroTm := rfl
def BtRes (F' : List (World → Prop)) (e : Ending) (most nd : Int) : Option (Tm × Nat) → Prop
  | none => e = .returned (.tuple #[tv zLT, .bool false])
  | some (u, l) => ∃ u' : LT, u'.tm = u ∧ Und F' (LRd u') ∧ nd = most - (l : Nat) ∧ e = .returned (.tuple #[tv u', .bool true])
def BtSaid (f : Nat) : Prop := ∀ (M : List Nat) (w0 : World) (H : List (Nat × Obj)) (F : List (World → Prop)) (bb pb c m d : Nat) (A B : Option Addr) (L : List HC) (P : List Int) (a nodes most : Int) (l : Nat) (w : World),
  Und F (Flat 3 (hcsL L) A L.length c) → goodL L.length L = true → L.length ≤ 65536 → isAddr L a = true → PInv L P → (most - nodes).toNat = l → l ≤ f → 0 ≤ nodes → most ≤ 65536 → -9223372036854775808 ≤ most → nodes ≤ 65536 →
  St M w0 ((bb, bob A L.length c B m d pb P.length nodes most) :: (pb, iob P) :: H) F w →
    Calls Try.prog 49 #[ptr bb, .int .i64 a] w fun e w' => ∃ (F' : List (World → Prop)) (P' : List Int) (nd : Int), (∀ φ ∈ F, φ ∈ F') ∧ PInv L P' ∧ BtRes F' e most nd (tmAt L f a l) ∧ St M w0 ((bb, bob A L.length c B m d pb P'.length nd most) :: (pb, iob P') :: H) F' w'
theorem listT_succ (g : Int → Nat → Option (Tm × Nat)) (m : Nat) (a : Int) (l : Nat) : listT g (m + 1) a l = (g a l).bind fun p => (listT g m (a + 1) p.2).map fun q => (.cons p.1.k p.1.n p.1.s p.1.ar q.1, q.2) := rfl
theorem bt_step (f : Nat) (iht : ∀ f', f = f' + 1 → BtSaid f') : BtSaid f := by
  intro M w0 H F bb pb c m d A B L P a nodes most l w hL hg hl ha hP hnl hlf hn0 hm1 hm2 hn1 hS
  refine goes_enter2 Try.func49 rfl Try.ntmps49 rfl ?_
  refine goes_seq ?_
  refine goes_region ?_
  refine lst_alloc (cs := [_, _, _, _]) hS rfl rfl rfl ?_
  clear hS
  intro b1 wx1 hS
  refine lst_run (run_assign (by conv => lhs; whnf)) rfl ?_
  refine lst_done ?_
  refine goes_seq ?_
  refine goes_seq ?_
  refine goes_draw (St _ _ _ _) 9 ((0, true) :: (1, true) :: (2, true) :: (3, true) :: (4, true) :: (5, true) :: (6, true) :: (7, true) :: (8, true) :: []) (by kernel_rfl) (by kernel_rfl) (hS.drew) ?_
  replace hS := hS.drew
  refine ord_read rfl (fun _ hS => run_move (by conv => lhs; whnf)) rfl ?_
  refine ord_read rfl (fun _ hS => run_nilCheck rfl) rfl ?_
  refine ord_read rfl (fun _ hS => run_fieldAddr (off := 3) rfl rfl) rfl ?_
  first
    | refine ord_read rfl (fun _ hS => run_load1_own hS rfl rfl (by first | exact .head | exact .tail .head | exact .tail (.tail .head) | exact .tail (.tail (.tail .head)) | exact .tail (.tail (.tail (.tail .head))) | exact .tail (.tail (.tail (.tail (.tail .head))))) (by repeat constructor)) rfl ?_
    | refine ord_read rfl (fun _ hS => run_load1 rfl rfl (by first | assumption | exact hS.cell0 (by assumption) | exact lv_next hS | exact lv_list hS)) rfl ?_
  refine ord_read rfl (fun _ hS => run_move (by conv => lhs; whnf)) rfl ?_
  refine ord_read rfl (fun _ hS => run_nilCheck rfl) rfl ?_
  refine ord_read rfl (fun _ hS => run_fieldAddr (off := 4) rfl rfl) rfl ?_
  first
    | refine ord_read rfl (fun _ hS => run_load1_own hS rfl rfl (by first | exact .head | exact .tail .head | exact .tail (.tail .head) | exact .tail (.tail (.tail .head)) | exact .tail (.tail (.tail (.tail .head))) | exact .tail (.tail (.tail (.tail (.tail .head))))) (by repeat constructor)) rfl ?_
    | refine ord_read rfl (fun _ hS => run_load1 rfl rfl (by first | assumption | exact hS.cell0 (by assumption) | exact lv_next hS | exact lv_list hS)) rfl ?_
  first
    | refine ord_read rfl (fun _ hS => run_geq_yes rfl rfl (by omega)) rfl ?_
    | refine ord_read rfl (fun _ hS => run_geq_no rfl rfl (by omega)) rfl ?_
    | refine ord_read rfl (fun _ hS => rfl) rfl ?_
  refine ord_end ?_
  refine lst_done ?_
  by_cases hge : most ≤ nodes
  · have e : tmAt L f a l = none := by
      obtain rfl : l = 0 := by omega
      cases f with
      | zero => rfl
      | succ f => simp [tmAt]
    rw [e]
    rw [show decide (most ≤ nodes) = true from decide_eq_true hge]
    refine goes_true rfl ?_
    refine goes_seq ?_
    refine goes_region ?_
    refine lst_run (run_build (cells := [_, _, _, _]) .nil rfl) rfl ?_
    refine lst_storeN hS rfl (by conv => lhs; whnf) rfl rfl (by first | exact .head | exact .tail .head | exact .tail (.tail .head) | exact .tail (.tail (.tail .head)) | exact .tail (.tail (.tail (.tail .head))) | exact .tail (.tail (.tail (.tail (.tail .head))))) (by repeat constructor) (by first | exact .head | exact .tail .head | exact .tail (.tail .head) | exact .tail (.tail (.tail .head)) | exact .tail (.tail (.tail (.tail .head))) | exact .tail (.tail (.tail (.tail (.tail .head))))) ?_
    clear hS
    intro wx2 hS
    refine lst_run (run_assign (by conv => lhs; whnf)) rfl ?_
    refine lst_done ?_
    refine goes_retC2 (sz := 4) hS Try.func49 rfl rfl (by conv => lhs; whnf) rfl rfl (by first | exact .head | exact .tail .head | exact .tail (.tail .head) | exact .tail (.tail (.tail .head)) | exact .tail (.tail (.tail (.tail .head))) | exact .tail (.tail (.tail (.tail (.tail .head))))) (by repeat constructor) ?_
    exact ⟨F, P, nodes, fun _ h => h, hP, rfl, hS.drop⟩
  rw [show decide (most ≤ nodes) = false from decide_eq_false hge]
  have hl0 : l ≠ 0 := by omega
  obtain ⟨f, rfl⟩ : ∃ f', f = f' + 1 := ⟨f - 1, by omega⟩
  have iht := iht f rfl
  refine goes_false rfl ?_
  refine goes_skip ?_
  refine goes_seq ?_
  refine goes_region ?_
  refine lst_run (run_move (by conv => lhs; whnf)) rfl ?_
  refine lst_run (run_nilCheck rfl) rfl ?_
  refine lst_run (run_fieldAddr (off := 3) rfl rfl) rfl ?_
  first
    | refine lst_run (run_load1_own hS rfl rfl (by first | exact .head | exact .tail .head | exact .tail (.tail .head) | exact .tail (.tail (.tail .head)) | exact .tail (.tail (.tail (.tail .head))) | exact .tail (.tail (.tail (.tail (.tail .head))))) (by repeat constructor)) rfl ?_
    | refine lst_run (run_load1 rfl rfl (by first | assumption | exact hS.cell0 (by assumption) | exact lv_next hS | exact lv_list hS)) rfl ?_
  refine lst_run (run_add rfl rfl (by omega) (by omega)) rfl ?_
  refine lst_run (run_nilCheck rfl) rfl ?_
  refine lst_run (run_fieldAddr (off := 3) rfl rfl) rfl ?_
  refine lst_store1 hS rfl (by conv => lhs; whnf) rfl rfl (by first | exact .head | exact .tail .head | exact .tail (.tail .head) | exact .tail (.tail (.tail .head)) | exact .tail (.tail (.tail (.tail .head))) | exact .tail (.tail (.tail (.tail (.tail .head))))) (by repeat constructor) (by first | exact .head | exact .tail .head | exact .tail (.tail .head) | exact .tail (.tail (.tail .head)) | exact .tail (.tail (.tail (.tail .head))) | exact .tail (.tail (.tail (.tail (.tail .head))))) ?_
  clear hS
  intro wx2 hS
  refine lst_done ?_
  refine goes_seq ?_
  refine goes_region ?_
  refine lst_run (run_move (by conv => lhs; whnf)) rfl ?_
  refine lst_run (run_move (by conv => lhs; whnf)) rfl ?_
  refine lst_enter (run_call (by kernel_rfl) (args_2 (by conv => lhs; whnf) (by conv => lhs; whnf))) rfl ?_
  refine Calls.mono (blook_any (nodes := nodes + 1) (most := most) P a _ hL hg hl ha hP (hS.perm (List.perm_append_comm_assoc [_] [_, _] _))) ?_
  rintro _ w2 ⟨rfl, P2, hP2, hS'⟩
  refine ⟨_, rfl, ?_⟩
  replace hS := hS'
  clear hS'
  replace hS := hS.perm (List.perm_append_comm_assoc [_, _] [_] _)
  by_cases hneg : hlook L a < 0
  · have e : tmAt L (f + 1) a l = none := tmAt_none hneg
    rw [e]
    refine lst_run (run_assign (by conv => lhs; whnf)) rfl ?_
    refine lst_done ?_
    refine goes_seq ?_
    refine goes_seq ?_
    refine goes_region ?_
    refine lst_run (run_move (by conv => lhs; whnf)) rfl ?_
    first
      | refine lst_run (run_lss_yes rfl rfl (by omega)) rfl ?_
      | refine lst_run (run_lss_no rfl rfl (by omega)) rfl ?_
      | refine lst_run (rfl) rfl ?_
    refine lst_done ?_
    refine goes_true rfl ?_
    refine goes_seq ?_
    refine goes_region ?_
    refine lst_run (run_build (cells := [_, _, _, _]) .nil rfl) rfl ?_
    refine lst_storeN hS rfl (by conv => lhs; whnf) rfl rfl (by first | exact .head | exact .tail .head | exact .tail (.tail .head) | exact .tail (.tail (.tail .head)) | exact .tail (.tail (.tail (.tail .head))) | exact .tail (.tail (.tail (.tail (.tail .head))))) (by repeat constructor) (by first | exact .head | exact .tail .head | exact .tail (.tail .head) | exact .tail (.tail (.tail .head)) | exact .tail (.tail (.tail (.tail .head))) | exact .tail (.tail (.tail (.tail (.tail .head))))) ?_
    clear hS
    intro wx3 hS
    refine lst_run (run_assign (by conv => lhs; whnf)) rfl ?_
    refine lst_done ?_
    refine goes_retC2 (sz := 4) hS Try.func49 rfl rfl (by conv => lhs; whnf) rfl rfl (by first | exact .head | exact .tail .head | exact .tail (.tail .head) | exact .tail (.tail (.tail .head)) | exact .tail (.tail (.tail (.tail .head))) | exact .tail (.tail (.tail (.tail (.tail .head))))) (by repeat constructor) ?_
    exact ⟨F, P2, nodes + 1, fun _ h => h, hP2, rfl, hS.drop⟩
  obtain ⟨x, hx, _⟩ := hlook_end hneg
  obtain ⟨p0, p1, hgx⟩ := hat_get hx
  rw [tmAt_hat hl0 hx]
  generalize hlook L a = p at *
  obtain ⟨b', o', rfl⟩ := (hS.und hL).some_ (by omega)
  have hcc : ∀ {H'} w', St M w0 H' F w' → _ := fun w' hS => (hS.und hL).cell hgx
  have hgc := goodC_iff (good_hat hg hx)
  by_cases k0 : x.k = 0
  · rw [if_pos k0]
    refine lst_run (run_assign (by conv => lhs; whnf)) rfl ?_
    refine lst_done ?_
    refine goes_seq ?_
    refine goes_seq ?_
    refine goes_region ?_
    refine lst_run (run_move (by conv => lhs; whnf)) rfl ?_
    first
      | refine lst_run (run_lss_yes rfl rfl (by omega)) rfl ?_
      | refine lst_run (run_lss_no rfl rfl (by omega)) rfl ?_
      | refine lst_run (rfl) rfl ?_
    refine lst_done ?_
    refine goes_false rfl ?_
    refine goes_skip ?_
    refine goes_seq ?_
    refine goes_region ?_
    refine lst_run (run_move (by conv => lhs; whnf)) rfl ?_
    refine lst_run (run_nilCheck rfl) rfl ?_
    refine lst_run (run_fieldAddr (off := 0) rfl rfl) rfl ?_
    refine lst_run (run_fieldAddr (off := 0) rfl rfl) rfl ?_
    first
      | refine lst_run (run_load1_own hS rfl rfl (by first | exact .head | exact .tail .head | exact .tail (.tail .head) | exact .tail (.tail (.tail .head)) | exact .tail (.tail (.tail (.tail .head))) | exact .tail (.tail (.tail (.tail (.tail .head))))) (by repeat constructor)) rfl ?_
      | refine lst_run (run_load1 rfl rfl (by first | assumption | exact (hcc _ hS).1 | exact (hcc _ hS).2.1 | exact (hcc _ hS).2.2 | exact hS.cell0 (by assumption) | exact lv_next hS | exact lv_list hS)) rfl ?_
    refine lst_run (run_move (by conv => lhs; whnf)) rfl ?_
    refine lst_run (run_indexAddr (sz := 3) rfl rfl rfl rfl (by omega) (by omega)) rfl ?_
    first
      | refine lst_run (run_loadN_own (k := 3) hS rfl rfl rfl (by first | exact .head | exact .tail .head | exact .tail (.tail .head) | exact .tail (.tail (.tail .head)) | exact .tail (.tail (.tail (.tail .head))) | exact .tail (.tail (.tail (.tail (.tail .head))))) (by repeat constructor)) rfl ?_
      | refine lst_run (run_load3 rfl rfl rfl (by first | assumption | exact (hcc _ hS).1 | exact (hcc _ hS).2.1 | exact (hcc _ hS).2.2 | exact hS.cell0 (by assumption)) (by first | assumption | exact (hcc _ hS).1 | exact (hcc _ hS).2.1 | exact (hcc _ hS).2.2 | exact hS.cell0 (by assumption)) (by first | assumption | exact (hcc _ hS).1 | exact (hcc _ hS).2.1 | exact (hcc _ hS).2.2 | exact hS.cell0 (by assumption))) rfl ?_
    refine lst_alloc (cs := [_, _, _]) hS rfl rfl rfl ?_
    clear hS
    intro b2 wx3 hS
    refine lst_storeN hS rfl (by conv => lhs; whnf) rfl rfl (by first | exact .head | exact .tail .head | exact .tail (.tail .head) | exact .tail (.tail (.tail .head)) | exact .tail (.tail (.tail (.tail .head))) | exact .tail (.tail (.tail (.tail (.tail .head))))) (by repeat constructor) (by first | exact .head | exact .tail .head | exact .tail (.tail .head) | exact .tail (.tail (.tail .head)) | exact .tail (.tail (.tail (.tail .head))) | exact .tail (.tail (.tail (.tail (.tail .head))))) ?_
    clear hS
    intro wx4 hS
    refine lst_done ?_
    refine goes_seq ?_
    refine goes_seq ?_
    refine goes_region ?_
    refine lst_run (run_fieldAddr (off := 0) rfl rfl) rfl ?_
    first
      | refine lst_run (run_load1_own hS rfl rfl (by first | exact .head | exact .tail .head | exact .tail (.tail .head) | exact .tail (.tail (.tail .head)) | exact .tail (.tail (.tail (.tail .head))) | exact .tail (.tail (.tail (.tail (.tail .head))))) (by repeat constructor)) rfl ?_
      | refine lst_run (run_load1 rfl rfl (by first | assumption | exact (hcc _ hS).1 | exact (hcc _ hS).2.1 | exact (hcc _ hS).2.2 | exact hS.cell0 (by assumption) | exact lv_next hS | exact lv_list hS)) rfl ?_
    refine lst_done ?_
    refine goes_block ?_
    refine goes_seq ?_
    refine goes_region ?_
    first
      | refine lst_run (run_eql_one_int rfl rfl) rfl ?_
      | refine lst_run (run_eql_no rfl rfl (by first | assumption | omega)) rfl ?_
      | refine lst_run (run_eql_yes rfl rfl (by omega)) rfl ?_
      | refine lst_run (rfl) rfl ?_
    refine lst_run (run_assign (by conv => lhs; whnf)) rfl ?_
    refine lst_done ?_
    refine goes_true rfl ?_
    refine goes_seq ?_
    refine goes_region ?_
    refine lst_run (run_move (by conv => lhs; whnf)) rfl ?_
    refine lst_run (run_build (cells := [_, _, _, _]) (.cons (by conv => lhs; whnf) (.cons (by conv => lhs; whnf) .nil)) rfl) rfl ?_
    refine lst_storeN hS rfl (by conv => lhs; whnf) rfl rfl (by first | exact .head | exact .tail .head | exact .tail (.tail .head) | exact .tail (.tail (.tail .head)) | exact .tail (.tail (.tail (.tail .head))) | exact .tail (.tail (.tail (.tail (.tail .head))))) (by repeat constructor) (by first | exact .head | exact .tail .head | exact .tail (.tail .head) | exact .tail (.tail (.tail .head)) | exact .tail (.tail (.tail (.tail .head))) | exact .tail (.tail (.tail (.tail (.tail .head))))) ?_
    clear hS
    intro wx5 hS
    refine lst_run (run_assign (by conv => lhs; whnf)) rfl ?_
    refine lst_done ?_
    refine goes_retC2 (sz := 4) hS Try.func49 rfl rfl (by conv => lhs; whnf) rfl rfl (by first | exact .head | exact .tail .head | exact .tail (.tail .head) | exact .tail (.tail (.tail .head)) | exact .tail (.tail (.tail (.tail .head))) | exact .tail (.tail (.tail (.tail (.tail .head))))) (by repeat constructor) ?_
    exact ⟨F, P2, nodes + 1, fun _ h => h, hP2, ⟨⟨0, p, eS, none, 0, .nil⟩, rfl, fun w _ => ⟨Nat.le_refl _, fun h => by simp [TA.len] at h⟩, by omega, rfl⟩, hS.drop.drop⟩
  by_cases k1 : x.k = 1
  · rw [if_neg k0, if_pos k1]
    refine lst_run (run_assign (by conv => lhs; whnf)) rfl ?_
    refine lst_done ?_
    refine goes_seq ?_
    refine goes_seq ?_
    refine goes_region ?_
    refine lst_run (run_move (by conv => lhs; whnf)) rfl ?_
    first
      | refine lst_run (run_lss_yes rfl rfl (by omega)) rfl ?_
      | refine lst_run (run_lss_no rfl rfl (by omega)) rfl ?_
      | refine lst_run (rfl) rfl ?_
    refine lst_done ?_
    refine goes_false rfl ?_
    refine goes_skip ?_
    refine goes_seq ?_
    refine goes_region ?_
    refine lst_run (run_move (by conv => lhs; whnf)) rfl ?_
    refine lst_run (run_nilCheck rfl) rfl ?_
    refine lst_run (run_fieldAddr (off := 0) rfl rfl) rfl ?_
    refine lst_run (run_fieldAddr (off := 0) rfl rfl) rfl ?_
    first
      | refine lst_run (run_load1_own hS rfl rfl (by first | exact .head | exact .tail .head | exact .tail (.tail .head) | exact .tail (.tail (.tail .head)) | exact .tail (.tail (.tail (.tail .head))) | exact .tail (.tail (.tail (.tail (.tail .head))))) (by repeat constructor)) rfl ?_
      | refine lst_run (run_load1 rfl rfl (by first | assumption | exact (hcc _ hS).1 | exact (hcc _ hS).2.1 | exact (hcc _ hS).2.2 | exact hS.cell0 (by assumption) | exact lv_next hS | exact lv_list hS)) rfl ?_
    refine lst_run (run_move (by conv => lhs; whnf)) rfl ?_
    refine lst_run (run_indexAddr (sz := 3) rfl rfl rfl rfl (by omega) (by omega)) rfl ?_
    first
      | refine lst_run (run_loadN_own (k := 3) hS rfl rfl rfl (by first | exact .head | exact .tail .head | exact .tail (.tail .head) | exact .tail (.tail (.tail .head)) | exact .tail (.tail (.tail (.tail .head))) | exact .tail (.tail (.tail (.tail (.tail .head))))) (by repeat constructor)) rfl ?_
      | refine lst_run (run_load3 rfl rfl rfl (by first | assumption | exact (hcc _ hS).1 | exact (hcc _ hS).2.1 | exact (hcc _ hS).2.2 | exact hS.cell0 (by assumption)) (by first | assumption | exact (hcc _ hS).1 | exact (hcc _ hS).2.1 | exact (hcc _ hS).2.2 | exact hS.cell0 (by assumption)) (by first | assumption | exact (hcc _ hS).1 | exact (hcc _ hS).2.1 | exact (hcc _ hS).2.2 | exact hS.cell0 (by assumption))) rfl ?_
    refine lst_alloc (cs := [_, _, _]) hS rfl rfl rfl ?_
    clear hS
    intro b2 wx3 hS
    refine lst_storeN hS rfl (by conv => lhs; whnf) rfl rfl (by first | exact .head | exact .tail .head | exact .tail (.tail .head) | exact .tail (.tail (.tail .head)) | exact .tail (.tail (.tail (.tail .head))) | exact .tail (.tail (.tail (.tail (.tail .head))))) (by repeat constructor) (by first | exact .head | exact .tail .head | exact .tail (.tail .head) | exact .tail (.tail (.tail .head)) | exact .tail (.tail (.tail (.tail .head))) | exact .tail (.tail (.tail (.tail (.tail .head))))) ?_
    clear hS
    intro wx4 hS
    refine lst_done ?_
    refine goes_seq ?_
    refine goes_seq ?_
    refine goes_region ?_
    refine lst_run (run_fieldAddr (off := 0) rfl rfl) rfl ?_
    first
      | refine lst_run (run_load1_own hS rfl rfl (by first | exact .head | exact .tail .head | exact .tail (.tail .head) | exact .tail (.tail (.tail .head)) | exact .tail (.tail (.tail (.tail .head))) | exact .tail (.tail (.tail (.tail (.tail .head))))) (by repeat constructor)) rfl ?_
      | refine lst_run (run_load1 rfl rfl (by first | assumption | exact (hcc _ hS).1 | exact (hcc _ hS).2.1 | exact (hcc _ hS).2.2 | exact hS.cell0 (by assumption) | exact lv_next hS | exact lv_list hS)) rfl ?_
    refine lst_done ?_
    refine goes_block ?_
    refine goes_seq ?_
    refine goes_region ?_
    first
      | refine lst_run (run_eql_one_int rfl rfl) rfl ?_
      | refine lst_run (run_eql_no rfl rfl (by first | assumption | omega)) rfl ?_
      | refine lst_run (run_eql_yes rfl rfl (by omega)) rfl ?_
      | refine lst_run (rfl) rfl ?_
    refine lst_run (run_assign (by conv => lhs; whnf)) rfl ?_
    refine lst_done ?_
    refine goes_false rfl ?_
    refine goes_seq ?_
    refine goes_region ?_
    first
      | refine lst_run (run_eql_one_int rfl rfl) rfl ?_
      | refine lst_run (run_eql_no rfl rfl (by first | assumption | omega)) rfl ?_
      | refine lst_run (run_eql_yes rfl rfl (by omega)) rfl ?_
      | refine lst_run (rfl) rfl ?_
    refine lst_run (run_assign (by conv => lhs; whnf)) rfl ?_
    refine lst_done ?_
    refine goes_true rfl ?_
    refine goes_seq ?_
    refine goes_region ?_
    refine lst_run (run_fieldAddr (off := 2) rfl rfl) rfl ?_
    first
      | refine lst_run (run_load1_own hS rfl rfl (by first | exact .head | exact .tail .head | exact .tail (.tail .head) | exact .tail (.tail (.tail .head)) | exact .tail (.tail (.tail (.tail .head))) | exact .tail (.tail (.tail (.tail (.tail .head))))) (by repeat constructor)) rfl ?_
      | refine lst_run (run_load1 rfl rfl (by first | assumption | exact (hcc _ hS).1 | exact (hcc _ hS).2.1 | exact (hcc _ hS).2.2 | exact hS.cell0 (by assumption) | exact lv_next hS | exact lv_list hS)) rfl ?_
    refine lst_run (run_build (cells := [_, _, _, _]) (.cons (by conv => lhs; whnf) (.cons (by conv => lhs; whnf) .nil)) rfl) rfl ?_
    refine lst_storeN hS rfl (by conv => lhs; whnf) rfl rfl (by first | exact .head | exact .tail .head | exact .tail (.tail .head) | exact .tail (.tail (.tail .head)) | exact .tail (.tail (.tail (.tail .head))) | exact .tail (.tail (.tail (.tail (.tail .head))))) (by repeat constructor) (by first | exact .head | exact .tail .head | exact .tail (.tail .head) | exact .tail (.tail (.tail .head)) | exact .tail (.tail (.tail (.tail .head))) | exact .tail (.tail (.tail (.tail (.tail .head))))) ?_
    clear hS
    intro wx5 hS
    refine lst_run (run_assign (by conv => lhs; whnf)) rfl ?_
    refine lst_done ?_
    refine goes_retC2 (sz := 4) hS Try.func49 rfl rfl (by conv => lhs; whnf) rfl rfl (by first | exact .head | exact .tail .head | exact .tail (.tail .head) | exact .tail (.tail (.tail .head)) | exact .tail (.tail (.tail (.tail .head))) | exact .tail (.tail (.tail (.tail (.tail .head))))) (by repeat constructor) ?_
    exact ⟨F, P2, nodes + 1, fun _ h => h, hP2, ⟨⟨1, 0, x.s, none, 0, .nil⟩, rfl, fun w _ => ⟨Nat.le_refl _, fun h => by simp [TA.len] at h⟩, by omega, rfl⟩, hS.drop.drop⟩
  by_cases k2 : x.k = 2
  · rw [if_neg k0, if_neg k1, if_pos k2]
    refine lst_run (run_assign (by conv => lhs; whnf)) rfl ?_
    refine lst_done ?_
    refine goes_seq ?_
    refine goes_seq ?_
    refine goes_region ?_
    refine lst_run (run_move (by conv => lhs; whnf)) rfl ?_
    first
      | refine lst_run (run_lss_yes rfl rfl (by omega)) rfl ?_
      | refine lst_run (run_lss_no rfl rfl (by omega)) rfl ?_
      | refine lst_run (rfl) rfl ?_
    refine lst_done ?_
    refine goes_false rfl ?_
    refine goes_skip ?_
    refine goes_seq ?_
    refine goes_region ?_
    refine lst_run (run_move (by conv => lhs; whnf)) rfl ?_
    refine lst_run (run_nilCheck rfl) rfl ?_
    refine lst_run (run_fieldAddr (off := 0) rfl rfl) rfl ?_
    refine lst_run (run_fieldAddr (off := 0) rfl rfl) rfl ?_
    first
      | refine lst_run (run_load1_own hS rfl rfl (by first | exact .head | exact .tail .head | exact .tail (.tail .head) | exact .tail (.tail (.tail .head)) | exact .tail (.tail (.tail (.tail .head))) | exact .tail (.tail (.tail (.tail (.tail .head))))) (by repeat constructor)) rfl ?_
      | refine lst_run (run_load1 rfl rfl (by first | assumption | exact (hcc _ hS).1 | exact (hcc _ hS).2.1 | exact (hcc _ hS).2.2 | exact hS.cell0 (by assumption) | exact lv_next hS | exact lv_list hS)) rfl ?_
    refine lst_run (run_move (by conv => lhs; whnf)) rfl ?_
    refine lst_run (run_indexAddr (sz := 3) rfl rfl rfl rfl (by omega) (by omega)) rfl ?_
    first
      | refine lst_run (run_loadN_own (k := 3) hS rfl rfl rfl (by first | exact .head | exact .tail .head | exact .tail (.tail .head) | exact .tail (.tail (.tail .head)) | exact .tail (.tail (.tail (.tail .head))) | exact .tail (.tail (.tail (.tail (.tail .head))))) (by repeat constructor)) rfl ?_
      | refine lst_run (run_load3 rfl rfl rfl (by first | assumption | exact (hcc _ hS).1 | exact (hcc _ hS).2.1 | exact (hcc _ hS).2.2 | exact hS.cell0 (by assumption)) (by first | assumption | exact (hcc _ hS).1 | exact (hcc _ hS).2.1 | exact (hcc _ hS).2.2 | exact hS.cell0 (by assumption)) (by first | assumption | exact (hcc _ hS).1 | exact (hcc _ hS).2.1 | exact (hcc _ hS).2.2 | exact hS.cell0 (by assumption))) rfl ?_
    refine lst_alloc (cs := [_, _, _]) hS rfl rfl rfl ?_
    clear hS
    intro b2 wx3 hS
    refine lst_storeN hS rfl (by conv => lhs; whnf) rfl rfl (by first | exact .head | exact .tail .head | exact .tail (.tail .head) | exact .tail (.tail (.tail .head)) | exact .tail (.tail (.tail (.tail .head))) | exact .tail (.tail (.tail (.tail (.tail .head))))) (by repeat constructor) (by first | exact .head | exact .tail .head | exact .tail (.tail .head) | exact .tail (.tail (.tail .head)) | exact .tail (.tail (.tail (.tail .head))) | exact .tail (.tail (.tail (.tail (.tail .head))))) ?_
    clear hS
    intro wx4 hS
    refine lst_done ?_
    refine goes_seq ?_
    refine goes_seq ?_
    refine goes_region ?_
    refine lst_run (run_fieldAddr (off := 0) rfl rfl) rfl ?_
    first
      | refine lst_run (run_load1_own hS rfl rfl (by first | exact .head | exact .tail .head | exact .tail (.tail .head) | exact .tail (.tail (.tail .head)) | exact .tail (.tail (.tail (.tail .head))) | exact .tail (.tail (.tail (.tail (.tail .head))))) (by repeat constructor)) rfl ?_
      | refine lst_run (run_load1 rfl rfl (by first | assumption | exact (hcc _ hS).1 | exact (hcc _ hS).2.1 | exact (hcc _ hS).2.2 | exact hS.cell0 (by assumption) | exact lv_next hS | exact lv_list hS)) rfl ?_
    refine lst_done ?_
    refine goes_block ?_
    refine goes_seq ?_
    refine goes_region ?_
    first
      | refine lst_run (run_eql_one_int rfl rfl) rfl ?_
      | refine lst_run (run_eql_no rfl rfl (by first | assumption | omega)) rfl ?_
      | refine lst_run (run_eql_yes rfl rfl (by omega)) rfl ?_
      | refine lst_run (rfl) rfl ?_
    refine lst_run (run_assign (by conv => lhs; whnf)) rfl ?_
    refine lst_done ?_
    refine goes_false rfl ?_
    refine goes_seq ?_
    refine goes_region ?_
    first
      | refine lst_run (run_eql_one_int rfl rfl) rfl ?_
      | refine lst_run (run_eql_no rfl rfl (by first | assumption | omega)) rfl ?_
      | refine lst_run (run_eql_yes rfl rfl (by omega)) rfl ?_
      | refine lst_run (rfl) rfl ?_
    refine lst_run (run_assign (by conv => lhs; whnf)) rfl ?_
    refine lst_done ?_
    refine goes_false rfl ?_
    refine goes_seq ?_
    refine goes_region ?_
    first
      | refine lst_run (run_eql_one_int rfl rfl) rfl ?_
      | refine lst_run (run_eql_no rfl rfl (by first | assumption | omega)) rfl ?_
      | refine lst_run (run_eql_yes rfl rfl (by omega)) rfl ?_
      | refine lst_run (rfl) rfl ?_
    refine lst_run (run_assign (by conv => lhs; whnf)) rfl ?_
    refine lst_done ?_
    refine goes_true rfl ?_
    refine goes_seq ?_
    refine goes_region ?_
    refine lst_run (run_fieldAddr (off := 1) rfl rfl) rfl ?_
    first
      | refine lst_run (run_load1_own hS rfl rfl (by first | exact .head | exact .tail .head | exact .tail (.tail .head) | exact .tail (.tail (.tail .head)) | exact .tail (.tail (.tail (.tail .head))) | exact .tail (.tail (.tail (.tail (.tail .head))))) (by repeat constructor)) rfl ?_
      | refine lst_run (run_load1 rfl rfl (by first | assumption | exact (hcc _ hS).1 | exact (hcc _ hS).2.1 | exact (hcc _ hS).2.2 | exact hS.cell0 (by assumption) | exact lv_next hS | exact lv_list hS)) rfl ?_
    refine lst_run (run_build (cells := [_, _, _, _]) (.cons (by conv => lhs; whnf) (.cons (by conv => lhs; whnf) .nil)) rfl) rfl ?_
    refine lst_storeN hS rfl (by conv => lhs; whnf) rfl rfl (by first | exact .head | exact .tail .head | exact .tail (.tail .head) | exact .tail (.tail (.tail .head)) | exact .tail (.tail (.tail (.tail .head))) | exact .tail (.tail (.tail (.tail (.tail .head))))) (by repeat constructor) (by first | exact .head | exact .tail .head | exact .tail (.tail .head) | exact .tail (.tail (.tail .head)) | exact .tail (.tail (.tail (.tail .head))) | exact .tail (.tail (.tail (.tail (.tail .head))))) ?_
    clear hS
    intro wx5 hS
    refine lst_run (run_assign (by conv => lhs; whnf)) rfl ?_
    refine lst_done ?_
    refine goes_retC2 (sz := 4) hS Try.func49 rfl rfl (by conv => lhs; whnf) rfl rfl (by first | exact .head | exact .tail .head | exact .tail (.tail .head) | exact .tail (.tail (.tail .head)) | exact .tail (.tail (.tail (.tail .head))) | exact .tail (.tail (.tail (.tail (.tail .head))))) (by repeat constructor) ?_
    exact ⟨F, P2, nodes + 1, fun _ h => h, hP2, ⟨⟨2, x.n, eS, none, 0, .nil⟩, rfl, fun w _ => ⟨Nat.le_refl _, fun h => by simp [TA.len] at h⟩, by omega, rfl⟩, hS.drop.drop⟩
  rw [if_neg k0, if_neg k1, if_neg k2]
  have hA : (argsC x).toNat = x.n.toNat := by unfold argsC; rw [if_pos (by omega)]
  rw [hA]
  obtain ⟨k, hk⟩ : ∃ k : Nat, x.n = (k : Nat) := ⟨x.n.toNat, by omega⟩
  rw [hk, show ((k : Nat) : Int).toNat = k by omega]
  refine lst_run (run_assign (by conv => lhs; whnf)) rfl ?_
  refine lst_done ?_
  refine goes_seq ?_
  refine goes_seq ?_
  refine goes_region ?_
  refine lst_run (run_move (by conv => lhs; whnf)) rfl ?_
  first
    | refine lst_run (run_lss_yes rfl rfl (by omega)) rfl ?_
    | refine lst_run (run_lss_no rfl rfl (by omega)) rfl ?_
    | refine lst_run (rfl) rfl ?_
  refine lst_done ?_
  refine goes_false rfl ?_
  refine goes_skip ?_
  refine goes_seq ?_
  refine goes_region ?_
  refine lst_run (run_move (by conv => lhs; whnf)) rfl ?_
  refine lst_run (run_nilCheck rfl) rfl ?_
  refine lst_run (run_fieldAddr (off := 0) rfl rfl) rfl ?_
  refine lst_run (run_fieldAddr (off := 0) rfl rfl) rfl ?_
  first
    | refine lst_run (run_load1_own hS rfl rfl (by first | exact .head | exact .tail .head | exact .tail (.tail .head) | exact .tail (.tail (.tail .head)) | exact .tail (.tail (.tail (.tail .head))) | exact .tail (.tail (.tail (.tail (.tail .head))))) (by repeat constructor)) rfl ?_
    | refine lst_run (run_load1 rfl rfl (by first | assumption | exact (hcc _ hS).1 | exact (hcc _ hS).2.1 | exact (hcc _ hS).2.2 | exact hS.cell0 (by assumption) | exact lv_next hS | exact lv_list hS)) rfl ?_
  refine lst_run (run_move (by conv => lhs; whnf)) rfl ?_
  refine lst_run (run_indexAddr (sz := 3) rfl rfl rfl rfl (by omega) (by omega)) rfl ?_
  first
    | refine lst_run (run_loadN_own (k := 3) hS rfl rfl rfl (by first | exact .head | exact .tail .head | exact .tail (.tail .head) | exact .tail (.tail (.tail .head)) | exact .tail (.tail (.tail (.tail .head))) | exact .tail (.tail (.tail (.tail (.tail .head))))) (by repeat constructor)) rfl ?_
    | refine lst_run (run_load3 rfl rfl rfl (by first | assumption | exact (hcc _ hS).1 | exact (hcc _ hS).2.1 | exact (hcc _ hS).2.2 | exact hS.cell0 (by assumption)) (by first | assumption | exact (hcc _ hS).1 | exact (hcc _ hS).2.1 | exact (hcc _ hS).2.2 | exact hS.cell0 (by assumption)) (by first | assumption | exact (hcc _ hS).1 | exact (hcc _ hS).2.1 | exact (hcc _ hS).2.2 | exact hS.cell0 (by assumption))) rfl ?_
  refine lst_alloc (cs := [_, _, _]) hS rfl rfl rfl ?_
  clear hS
  intro b2 wx3 hS
  refine lst_storeN hS rfl (by conv => lhs; whnf) rfl rfl (by first | exact .head | exact .tail .head | exact .tail (.tail .head) | exact .tail (.tail (.tail .head)) | exact .tail (.tail (.tail (.tail .head))) | exact .tail (.tail (.tail (.tail (.tail .head))))) (by repeat constructor) (by first | exact .head | exact .tail .head | exact .tail (.tail .head) | exact .tail (.tail (.tail .head)) | exact .tail (.tail (.tail (.tail .head))) | exact .tail (.tail (.tail (.tail (.tail .head))))) ?_
  clear hS
  intro wx4 hS
  refine lst_done ?_
  refine goes_seq ?_
  refine goes_seq ?_
  refine goes_region ?_
  refine lst_run (run_fieldAddr (off := 0) rfl rfl) rfl ?_
  first
    | refine lst_run (run_load1_own hS rfl rfl (by first | exact .head | exact .tail .head | exact .tail (.tail .head) | exact .tail (.tail (.tail .head)) | exact .tail (.tail (.tail (.tail .head))) | exact .tail (.tail (.tail (.tail (.tail .head))))) (by repeat constructor)) rfl ?_
    | refine lst_run (run_load1 rfl rfl (by first | assumption | exact (hcc _ hS).1 | exact (hcc _ hS).2.1 | exact (hcc _ hS).2.2 | exact hS.cell0 (by assumption) | exact lv_next hS | exact lv_list hS)) rfl ?_
  refine lst_done ?_
  refine goes_block ?_
  refine goes_seq ?_
  refine goes_region ?_
  first
    | refine lst_run (run_eql_one_int rfl rfl) rfl ?_
    | refine lst_run (run_eql_no rfl rfl (by first | assumption | omega)) rfl ?_
    | refine lst_run (run_eql_yes rfl rfl (by omega)) rfl ?_
    | refine lst_run (rfl) rfl ?_
  refine lst_run (run_assign (by conv => lhs; whnf)) rfl ?_
  refine lst_done ?_
  refine goes_false rfl ?_
  refine goes_seq ?_
  refine goes_region ?_
  first
    | refine lst_run (run_eql_one_int rfl rfl) rfl ?_
    | refine lst_run (run_eql_no rfl rfl (by first | assumption | omega)) rfl ?_
    | refine lst_run (run_eql_yes rfl rfl (by omega)) rfl ?_
    | refine lst_run (rfl) rfl ?_
  refine lst_run (run_assign (by conv => lhs; whnf)) rfl ?_
  refine lst_done ?_
  refine goes_false rfl ?_
  refine goes_seq ?_
  refine goes_region ?_
  first
    | refine lst_run (run_eql_one_int rfl rfl) rfl ?_
    | refine lst_run (run_eql_no rfl rfl (by first | assumption | omega)) rfl ?_
    | refine lst_run (run_eql_yes rfl rfl (by omega)) rfl ?_
    | refine lst_run (rfl) rfl ?_
  refine lst_run (run_assign (by conv => lhs; whnf)) rfl ?_
  refine lst_done ?_
  refine goes_false rfl ?_
  refine goes_skip ?_
  refine goes_inBlock ?_
  refine goes_seq ?_
  refine goes_region ?_
  refine lst_run (run_fieldAddr (off := 1) rfl rfl) rfl ?_
  first
    | refine lst_run (run_load1_own hS rfl rfl (by first | exact .head | exact .tail .head | exact .tail (.tail .head) | exact .tail (.tail (.tail .head)) | exact .tail (.tail (.tail (.tail .head))) | exact .tail (.tail (.tail (.tail (.tail .head))))) (by repeat constructor)) rfl ?_
    | refine lst_run (run_load1 rfl rfl (by first | assumption | exact (hcc _ hS).1 | exact (hcc _ hS).2.1 | exact (hcc _ hS).2.2 | exact hS.cell0 (by assumption) | exact lv_next hS | exact lv_list hS)) rfl ?_
  refine lst_make (k := k) (sz := 4) (bts := 56) hS (by rw [← hk]; conv => lhs; whnf) (by rw [← hk]; conv => lhs; whnf) rfl rfl (by omega) (by omega) rfl ?_
  clear hS
  intro g w3 cs hce hS
  refine lst_run (run_assign (by conv => lhs; whnf)) rfl ?_
  refine lst_done ?_
  refine goes_seq ?_
  refine goes_seq ?_
  refine goes_region ?_
  refine lst_run (run_move (by conv => lhs; whnf)) rfl ?_
  refine lst_run (run_len_slice rfl rfl rfl) rfl ?_
  refine lst_run (run_move (by conv => lhs; whnf)) rfl ?_
  refine lst_done ?_
  refine goes_block ?_
  refine goes_loop1 64 (65 :: 66 :: 9 :: 68 :: 69 :: 70 :: 71 :: 72 :: 73 :: 67 :: 74 :: 75 :: 10 :: 11 :: 76 :: 77 :: 78 :: 5 :: 79 :: 80 :: 81 :: 82 :: 83 :: []) (fun (j : Nat) v w' => ∃ (D' : TA) (rs : List Value) (li : Nat) (F' : List (World → Prop)) (P' : List Int) (nd : Int), D'.len + j = k ∧ rs.length = j * 4 ∧ v = .int .i64 (D'.len : Nat) ∧ li ≤ f ∧ nd = most - (li : Nat) ∧ nodes ≤ nd ∧ listT (tmAt L f) k (p + 1) (l - 1) = (listT (tmAt L f) j (p + 1 + (D'.len : Nat)) li).map (fun q => (D'.ts.app q.1, q.2)) ∧ (∀ φ ∈ F, φ ∈ F') ∧ Und F' (AllR D') ∧ PInv L P' ∧ St M w0 ((g, .cells (tcsL D' ++ rs).toArray 39) :: (b2, .cells (hcs x).toArray 59) :: (b1, .cells [.int .i64 0, .int .i64 0, .string eS, .slice none 0 0].toArray 39) :: (bb, bob (some ⟨b', o', none⟩) L.length c B m d pb P'.length nd most) :: (pb, iob P') :: H) F' w') (fun j => j) (k) ?_ (by conv => lhs; whnf) ?_
  · exact ⟨.nil, cs, l - 1, F, P2, nodes + 1, by simp [TA.len], hce, rfl, by omega, by omega, by omega, (by show listT (tmAt L f) k (p + 1) (l - 1) = (listT (tmAt L f) k (p + 1 + ((0 : Nat) : Int)) (l - 1)).map _; rw [show p + 1 + ((0 : Nat) : Int) = p + 1 by omega]; cases listT (tmAt L f) k (p + 1) (l - 1) <;> rfl), fun _ h => h, fun _ _ => trivial, hP2, hS⟩
  clear hS
  rintro j _ w6 jv ⟨D', rs, li, F', P', nd, hDm, hrs, rfl, hli, hnd, hnn, hvm, hFF', hAR, hP', hS⟩ ih
  have hD4 := tcsL_len D'
  cases j with
  | zero =>
    obtain rfl : rs = [] := List.eq_nil_of_length_eq_zero (by simpa using hrs)
    have hvm2 : listT (tmAt L f) k (p + 1) (l - 1) = some (D'.ts, li) := by
      rw [hvm]
      show some (D'.ts.app .nil, li) = _
      rw [Ts.app_nil]
    have hDl : D'.len = k := by omega
    rw [hvm2]
    refine goes_seq ?_
    refine goes_region ?_
    first
      | refine lst_run (run_lss_yes rfl rfl (by omega)) rfl ?_
      | refine lst_run (run_lss_no rfl rfl (by omega)) rfl ?_
      | refine lst_run (rfl) rfl ?_
    refine lst_done ?_
    refine goes_seq ?_
    refine goes_false rfl ?_
    refine goes_exit rfl ?_
    refine goes_seq ?_
    refine goes_region ?_
    refine lst_run (run_fieldAddr (off := 2) rfl rfl) rfl ?_
    first
      | refine lst_run (run_load1_own hS rfl rfl (by first | exact .head | exact .tail .head | exact .tail (.tail .head) | exact .tail (.tail (.tail .head)) | exact .tail (.tail (.tail (.tail .head))) | exact .tail (.tail (.tail (.tail (.tail .head))))) (by repeat constructor)) rfl ?_
      | refine lst_run (run_load1 rfl rfl (by first | assumption | exact (hcc _ hS).1 | exact (hcc _ hS).2.1 | exact (hcc _ hS).2.2 | exact hS.cell0 (by assumption) | exact lv_next hS | exact lv_list hS)) rfl ?_
    refine lst_run (run_move (by conv => lhs; whnf)) rfl ?_
    refine lst_run (run_build (cells := [_, _, _, _]) (.cons (by conv => lhs; whnf) (.cons (by conv => lhs; whnf) (.cons (by conv => lhs; whnf) .nil))) rfl) rfl ?_
    refine lst_storeN hS rfl (by conv => lhs; whnf) rfl rfl (by first | exact .head | exact .tail .head | exact .tail (.tail .head) | exact .tail (.tail (.tail .head)) | exact .tail (.tail (.tail (.tail .head))) | exact .tail (.tail (.tail (.tail (.tail .head))))) (by repeat constructor) (by first | exact .head | exact .tail .head | exact .tail (.tail .head) | exact .tail (.tail (.tail .head)) | exact .tail (.tail (.tail (.tail .head))) | exact .tail (.tail (.tail (.tail (.tail .head))))) ?_
    clear hS
    intro wx5 hS
    refine lst_run (run_assign (by conv => lhs; whnf)) rfl ?_
    refine lst_done ?_
    refine goes_retC2 (sz := 4) hS Try.func49 rfl rfl (by conv => lhs; whnf) rfl rfl (by first | exact .head | exact .tail .head | exact .tail (.tail .head) | exact .tail (.tail (.tail .head)) | exact .tail (.tail (.tail (.tail .head))) | exact .tail (.tail (.tail (.tail (.tail .head))))) (by repeat constructor) ?_
    replace hS := (hS.swap.drop).swap.drop.freeze
    refine ⟨_, P', nd, fun φ h => .tail _ (hFF' φ h), hP', ⟨⟨3, 0, x.s, some ⟨g, 0, none⟩, k, D'⟩, rfl, fun w hw => ⟨by show D'.len ≤ k; omega, fun _ => ⟨g, 0, rfl, ?_⟩⟩, hnd, ?_⟩, hS⟩
    · refine segA_of (hAR w fun φ hφ => hw φ (.tail _ hφ)) fun j x hj => ?_
      have hg := hw _ (.head _)
      rw [cell_own hg, Nat.zero_add, List.append_nil]; exact hj
    · dsimp only [tv]; rw [hDl]
  | succ j =>
    obtain ⟨r0, r1, r2, r3, rs, rfl⟩ : ∃ r0 r1 r2 r3 rs', rs = [r0, r1, r2, r3] ++ rs' := by
      match rs, hrs with
      | r0 :: r1 :: r2 :: r3 :: rs', _ => exact ⟨r0, r1, r2, r3, rs', rfl⟩
      | [], h => simp at h
      | [_], h => simp at h; omega
      | [_, _], h => simp at h; omega
      | [_, _, _], h => simp at h; omega
    rw [listT_succ] at hvm
    have hadr : isAddr L (p + 1 + ((D'.len : Nat) : Int)) = true := by
      unfold isAddr; simp; omega
    have hcall := iht M w0 ((g, .cells (tcsL D' ++ ([r0, r1, r2, r3] ++ rs)).toArray 39) :: (b2, .cells (hcs x).toArray 59) :: (b1, .cells [.int .i64 0, .int .i64 0, .string eS, .slice none 0 0].toArray 39) :: H) F' bb pb c m d (some ⟨b', o', none⟩) B L P' (p + 1 + ((D'.len : Nat) : Int)) nd most li
    cases hap : tmAt L f (p + 1 + ((D'.len : Nat) : Int)) li with
    | none =>
      rw [hap, Option.bind_none, Option.map_none] at hvm
      rw [hvm]
      rw [hap] at hcall
      refine goes_seq ?_
      refine goes_region ?_
      first
        | refine lst_run (run_lss_yes rfl rfl (by omega)) rfl ?_
        | refine lst_run (run_lss_no rfl rfl (by omega)) rfl ?_
        | refine lst_run (rfl) rfl ?_
      refine lst_done ?_
      refine goes_seq ?_
      refine goes_true rfl ?_
      refine goes_skip ?_
      refine goes_seq ?_
      refine goes_block ?_
      refine goes_seq ?_
      refine goes_region ?_
      refine lst_run (run_move (by conv => lhs; whnf)) rfl ?_
      refine lst_run (run_assign (by conv => lhs; whnf)) rfl ?_
      refine lst_done ?_
      refine goes_seq ?_
      refine goes_region ?_
      refine lst_run (run_move (by conv => lhs; whnf)) rfl ?_
      refine lst_run (run_move (by conv => lhs; whnf)) rfl ?_
      refine lst_run (run_add rfl rfl (by omega) (by omega)) rfl ?_
      refine lst_run (run_move (by conv => lhs; whnf)) rfl ?_
      refine lst_run (run_add rfl rfl (by omega) (by omega)) rfl ?_
      refine lst_enter (run_call (by kernel_rfl) (args_2 (by conv => lhs; whnf) (by conv => lhs; whnf))) rfl ?_
      refine Calls.mono (hcall _ (hL.mono hFF') hg hl hadr hP' (by omega) (by omega) (by omega) (by omega) (by omega) (by omega) (hS.perm (List.perm_append_comm_assoc [_, _, _] [_, _] _))) ?_
      rintro _ w7 ⟨F2, P3, nd2, hF2, hP3, rfl, hS'⟩
      refine ⟨_, rfl, ?_⟩
      replace hS := hS'
      clear hS'
      replace hS := hS.perm (List.perm_append_comm_assoc [_, _] [_, _, _] _)
      refine lst_run (run_move (by conv => lhs; whnf)) rfl ?_
      refine lst_run (run_extract rfl rfl) rfl ?_
      refine lst_run (run_extract rfl rfl) rfl ?_
      refine lst_alloc (cs := [_, _, _, _]) hS rfl rfl rfl ?_
      clear hS
      intro b3 wx5 hS
      refine lst_storeN hS rfl (by conv => lhs; whnf) rfl rfl (by first | exact .head | exact .tail .head | exact .tail (.tail .head) | exact .tail (.tail (.tail .head)) | exact .tail (.tail (.tail (.tail .head))) | exact .tail (.tail (.tail (.tail (.tail .head))))) (by repeat constructor) (by first | exact .head | exact .tail .head | exact .tail (.tail .head) | exact .tail (.tail (.tail .head)) | exact .tail (.tail (.tail (.tail .head))) | exact .tail (.tail (.tail (.tail (.tail .head))))) ?_
      clear hS
      intro wx6 hS
      refine lst_run (run_assign (by conv => lhs; whnf)) rfl ?_
      refine lst_done ?_
      refine goes_seq ?_
      refine goes_seq ?_
      refine goes_region ?_
      refine lst_run (run_move (by conv => lhs; whnf)) rfl ?_
      refine lst_run (rfl) rfl ?_
      refine lst_done ?_
      refine goes_true rfl ?_
      refine goes_seq ?_
      refine goes_region ?_
      refine lst_run (run_build (cells := [_, _, _, _]) .nil rfl) rfl ?_
      refine lst_storeN hS rfl (by conv => lhs; whnf) rfl rfl (by first | exact .head | exact .tail .head | exact .tail (.tail .head) | exact .tail (.tail (.tail .head)) | exact .tail (.tail (.tail (.tail .head))) | exact .tail (.tail (.tail (.tail (.tail .head))))) (by repeat constructor) (by first | exact .head | exact .tail .head | exact .tail (.tail .head) | exact .tail (.tail (.tail .head)) | exact .tail (.tail (.tail (.tail .head))) | exact .tail (.tail (.tail (.tail (.tail .head))))) ?_
      clear hS
      intro wx7 hS
      refine lst_run (run_assign (by conv => lhs; whnf)) rfl ?_
      refine lst_done ?_
      refine goes_retC2 (sz := 4) hS Try.func49 rfl rfl (by conv => lhs; whnf) rfl rfl (by first | exact .head | exact .tail .head | exact .tail (.tail .head) | exact .tail (.tail (.tail .head)) | exact .tail (.tail (.tail (.tail .head))) | exact .tail (.tail (.tail (.tail (.tail .head))))) (by repeat constructor) ?_
      exact ⟨F2, P3, nd2, fun φ h => hF2 φ (hFF' φ h), hP3, rfl, hS.drop.drop.drop.drop⟩
    | some q =>
      obtain ⟨q1, lq⟩ := q
      have hlq := tmAt_nodes _ _ _ _ hap
      dsimp only at hlq
      rw [hap, Option.bind_some] at hvm
      rw [hap] at hcall
      refine goes_seq ?_
      refine goes_region ?_
      first
        | refine lst_run (run_lss_yes rfl rfl (by omega)) rfl ?_
        | refine lst_run (run_lss_no rfl rfl (by omega)) rfl ?_
        | refine lst_run (rfl) rfl ?_
      refine lst_done ?_
      refine goes_seq ?_
      refine goes_true rfl ?_
      refine goes_skip ?_
      refine goes_seq ?_
      refine goes_block ?_
      refine goes_seq ?_
      refine goes_region ?_
      refine lst_run (run_move (by conv => lhs; whnf)) rfl ?_
      refine lst_run (run_assign (by conv => lhs; whnf)) rfl ?_
      refine lst_done ?_
      refine goes_seq ?_
      refine goes_region ?_
      refine lst_run (run_move (by conv => lhs; whnf)) rfl ?_
      refine lst_run (run_move (by conv => lhs; whnf)) rfl ?_
      refine lst_run (run_add rfl rfl (by omega) (by omega)) rfl ?_
      refine lst_run (run_move (by conv => lhs; whnf)) rfl ?_
      refine lst_run (run_add rfl rfl (by omega) (by omega)) rfl ?_
      refine lst_enter (run_call (by kernel_rfl) (args_2 (by conv => lhs; whnf) (by conv => lhs; whnf))) rfl ?_
      refine Calls.mono (hcall _ (hL.mono hFF') hg hl hadr hP' (by omega) (by omega) (by omega) (by omega) (by omega) (by omega) (hS.perm (List.perm_append_comm_assoc [_, _, _] [_, _] _))) ?_
      rintro _ w7 ⟨F2, P3, nd2, hF2, hP3, ⟨u2, hu2, hru2, hnd2, rfl⟩, hS'⟩
      refine ⟨_, rfl, ?_⟩
      replace hS := hS'
      clear hS'
      replace hS := hS.perm (List.perm_append_comm_assoc [_, _] [_, _, _] _)
      refine lst_run (run_move (by conv => lhs; whnf)) rfl ?_
      refine lst_run (run_extract rfl rfl) rfl ?_
      refine lst_run (run_extract rfl rfl) rfl ?_
      refine lst_alloc (cs := [_, _, _, _]) hS rfl rfl rfl ?_
      clear hS
      intro b3 wx5 hS
      refine lst_storeN hS rfl (by conv => lhs; whnf) rfl rfl (by first | exact .head | exact .tail .head | exact .tail (.tail .head) | exact .tail (.tail (.tail .head)) | exact .tail (.tail (.tail (.tail .head))) | exact .tail (.tail (.tail (.tail (.tail .head))))) (by repeat constructor) (by first | exact .head | exact .tail .head | exact .tail (.tail .head) | exact .tail (.tail (.tail .head)) | exact .tail (.tail (.tail (.tail .head))) | exact .tail (.tail (.tail (.tail (.tail .head))))) ?_
      clear hS
      intro wx6 hS
      refine lst_run (run_assign (by conv => lhs; whnf)) rfl ?_
      refine lst_done ?_
      refine goes_seq ?_
      refine goes_seq ?_
      refine goes_region ?_
      refine lst_run (run_move (by conv => lhs; whnf)) rfl ?_
      refine lst_run (rfl) rfl ?_
      refine lst_done ?_
      refine goes_false rfl ?_
      refine goes_skip ?_
      refine goes_region ?_
      refine lst_run (run_move (by conv => lhs; whnf)) rfl ?_
      refine lst_run (run_move (by conv => lhs; whnf)) rfl ?_
      first
        | refine lst_run (run_loadN_own (k := 4) hS rfl rfl rfl (by first | exact .head | exact .tail .head | exact .tail (.tail .head) | exact .tail (.tail (.tail .head)) | exact .tail (.tail (.tail (.tail .head))) | exact .tail (.tail (.tail (.tail (.tail .head))))) (by repeat constructor)) rfl ?_
        | refine lst_run (run_load4 rfl rfl rfl (by first | assumption | exact (hcc _ hS).1 | exact (hcc _ hS).2.1 | exact (hcc _ hS).2.2 | exact hS.cell0 (by assumption)) (by first | assumption | exact (hcc _ hS).1 | exact (hcc _ hS).2.1 | exact (hcc _ hS).2.2 | exact hS.cell0 (by assumption)) (by first | assumption | exact (hcc _ hS).1 | exact (hcc _ hS).2.1 | exact (hcc _ hS).2.2 | exact hS.cell0 (by assumption)) (by first | assumption | exact (hcc _ hS).1 | exact (hcc _ hS).2.1 | exact (hcc _ hS).2.2 | exact hS.cell0 (by assumption))) rfl ?_
      refine lst_run (run_indexAddr (sz := 4) rfl rfl rfl rfl (by omega) (by omega)) rfl ?_
      refine lst_storeN hS rfl (by conv => lhs; whnf) rfl rfl (.tail .head) (putN_mid (tcsL D') [r0, r1, r2, r3] (tcs u2) rs _ (by omega) rfl) (.tail .head) ?_
      clear hS
      intro w8 hS
      refine lst_done ?_
      refine goes_inBlock ?_
      refine goes_region ?_
      refine lst_run (run_add rfl rfl (by omega) (by omega)) rfl ?_
      refine lst_run (run_move (by conv => lhs; whnf)) rfl ?_
      refine lst_done ?_
      refine ih (j) _ _ _ ?_ ?_ (by conv => lhs; whnf) (by kernel_rfl)
      · omega
      · refine ⟨D'.app (.cons u2.k u2.n u2.s u2.A u2.c u2.ar .nil), rs, lq, F2, P3, nd2, by rw [TA.len_app]; simp only [TA.len]; omega, by simp at hrs; omega, by rw [TA.len_app]; rfl, by omega, hnd2, by omega, ?_, fun φ h => hF2 φ (hFF' φ h), ?_, hP3, ?_⟩
        · rw [hvm, Option.map_map, TA.app_ts, TA.len_app]
          rw [show p + 1 + ((D'.len + (TA.cons u2.k u2.n u2.s u2.A u2.c u2.ar .nil).len : Nat) : Int) = p + 1 + ((D'.len : Nat) : Int) + 1 by simp only [TA.len]; omega]
          congr 1
          funext z
          show (D'.ts.app (.cons q1.k q1.n q1.s q1.ar z.1), z.2) = ((D'.ts.app (.cons u2.k u2.n u2.s u2.ar.ts .nil)).app z.1, z.2)
          rw [← hu2, Ts.app_assoc]; rfl
        · exact fun w hw => AllR.app (U := .cons u2.k u2.n u2.s u2.A u2.c u2.ar .nil) ⟨hru2 w hw, trivial⟩ ((hAR.mono hF2) w hw)
        · rw [tcsL_app, List.append_assoc]
          exact hS.drop
theorem bt_said : ∀ f, BtSaid f
  | 0 => bt_step 0 fun f' h => by omega
  | f + 1 => bt_step (f + 1) fun f' h => by
    obtain rfl : f = f' := by omega
    exact bt_said f
section
variable {M : List Nat} {w0 : World} {H : List (Nat × Obj)} {F : List (World → Prop)}
theorem term_any (h : HH) (a most : Int) (A B : Option Addr) (c d : Nat) (w : World) (hH : Und F (HFl h A c B d)) (hm2 : -9223372036854775808 ≤ most) (hS : St M w0 H F w) :
    Calls Try.prog 22 #[hv h A c B d, .int .i64 a, .int .i64 most] w fun e w' => ∃ (t : LT) (F' : List (World → Prop)), e = .returned (.tuple #[tv t, .int .i64 ((termH h a most).2.1 : Nat), .int .i64 (termH h a most).2.2]) ∧ t.tm = (termH h a most).1 ∧ (∀ φ ∈ F, φ ∈ F') ∧ Und F' (LRd t) ∧ St M w0 H F' w' := by
  have hL : Und F (Flat 3 (hcsL h.cs) A h.cs.length c) := hH.imp fun _ h => h.1
  refine goes_enter3 Try.func22 rfl Try.ntmps22 rfl ?_
  refine goes_seq ?_
  refine goes_region ?_
  refine lst_box hS rfl rfl ?_
  clear hS
  intro b1 wx1 hS
  refine lst_alloc (cs := [_, _, _, _]) hS rfl rfl rfl ?_
  clear hS
  intro b2 wx2 hS
  refine lst_run (run_assign (by conv => lhs; whnf)) rfl ?_
  refine lst_run (run_assign (by conv => lhs; whnf)) rfl ?_
  refine lst_done ?_
  refine goes_seq ?_
  refine goes_seq ?_
  refine goes_region ?_
  first
    | refine lst_run (run_loadN_own (k := 2) hS rfl rfl rfl (by first | exact .head | exact .tail .head | exact .tail (.tail .head) | exact .tail (.tail (.tail .head)) | exact .tail (.tail (.tail (.tail .head))) | exact .tail (.tail (.tail (.tail (.tail .head))))) (by repeat constructor)) rfl ?_
    | refine lst_run (run_load2 rfl rfl rfl (by first | assumption | exact (hcc _ hS).1 | exact (hcc _ hS).2.1 | exact (hcc _ hS).2.2 | exact hS.cell0 (by assumption)) (by first | assumption | exact (hcc _ hS).1 | exact (hcc _ hS).2.1 | exact (hcc _ hS).2.2 | exact hS.cell0 (by assumption))) rfl ?_
  refine lst_enter (run_call (by kernel_rfl) (args_1 (by conv => lhs; whnf))) rfl ?_
  refine Calls.mono (good_any h A B c d _ (hS.und hH)) ?_
  rintro _ w2 ⟨rfl, hb2⟩
  refine ⟨_, rfl, ?_⟩
  replace hS := hS.grow hb2
  cases hg : goodH h with
  | false =>
    have e0 : termH h a most = (zeroTm, 0, 1) := by unfold termH; rw [if_pos hg]
    rw [e0]
    refine lst_run (rfl) rfl ?_
    refine lst_done ?_
    refine goes_true rfl ?_
    refine goes_seq ?_
    refine goes_region ?_
    refine lst_run (run_build (cells := [_, _, _, _]) .nil rfl) rfl ?_
    refine lst_storeN hS rfl (by conv => lhs; whnf) rfl rfl (by first | exact .head | exact .tail .head | exact .tail (.tail .head) | exact .tail (.tail (.tail .head)) | exact .tail (.tail (.tail (.tail .head))) | exact .tail (.tail (.tail (.tail (.tail .head))))) (by repeat constructor) (by first | exact .head | exact .tail .head | exact .tail (.tail .head) | exact .tail (.tail (.tail .head)) | exact .tail (.tail (.tail (.tail .head))) | exact .tail (.tail (.tail (.tail (.tail .head))))) ?_
    clear hS
    intro wx3 hS
    refine lst_run (run_assign (by conv => lhs; whnf)) rfl ?_
    refine lst_run (run_assign (by conv => lhs; whnf)) rfl ?_
    refine lst_done ?_
    refine goes_retC3 (sz := 4) hS Try.func22 rfl rfl (by conv => lhs; whnf) (by conv => lhs; whnf) rfl rfl (by first | exact .head | exact .tail .head | exact .tail (.tail .head) | exact .tail (.tail (.tail .head)) | exact .tail (.tail (.tail (.tail .head))) | exact .tail (.tail (.tail (.tail (.tail .head))))) (by repeat constructor) ?_
    exact ⟨zLT, F, rfl, rfl, fun _ h => h, fun w _ => zLT_rd w, hS.drop.drop⟩
  | true =>
  obtain ⟨hl1, hl2⟩ := good_len hg
  have hgl : goodL h.cs.length h.cs = true := by
    unfold goodH goodCs at hg
    simp only [Bool.and_eq_true] at hg
    exact hg.1.2
  refine lst_run (rfl) rfl ?_
  refine lst_done ?_
  refine goes_false rfl ?_
  refine goes_skip ?_
  refine goes_seq ?_
  refine goes_seq ?_
  refine goes_region ?_
  first
    | refine lst_run (run_loadN_own (k := 2) hS rfl rfl rfl (by first | exact .head | exact .tail .head | exact .tail (.tail .head) | exact .tail (.tail (.tail .head)) | exact .tail (.tail (.tail (.tail .head))) | exact .tail (.tail (.tail (.tail (.tail .head))))) (by repeat constructor)) rfl ?_
    | refine lst_run (run_load2 rfl rfl rfl (by first | assumption | exact (hcc _ hS).1 | exact (hcc _ hS).2.1 | exact (hcc _ hS).2.2 | exact hS.cell0 (by assumption)) (by first | assumption | exact (hcc _ hS).1 | exact (hcc _ hS).2.1 | exact (hcc _ hS).2.2 | exact hS.cell0 (by assumption))) rfl ?_
  refine lst_run (run_move (by conv => lhs; whnf)) rfl ?_
  refine lst_enter (run_call (by kernel_rfl) (args_2 (by conv => lhs; whnf) (by conv => lhs; whnf))) rfl ?_
  refine Calls.mono (address_any h.cs.length c A B h.tr.length d a _) ?_
  rintro _ w3 ⟨rfl, hb3⟩
  refine ⟨_, rfl, ?_⟩
  replace hS := hS.grow hb3
  cases ha : isAddr h.cs a with
  | false =>
    have e0 : termH h a most = (zeroTm, 0, 4) := by unfold termH; rw [if_neg (by rw [hg]; decide), if_pos ha]
    rw [e0, show (decide (0 ≤ a) && decide (a < (h.cs.length : Nat))) = false from ha]
    refine lst_run (rfl) rfl ?_
    refine lst_done ?_
    refine goes_true rfl ?_
    refine goes_seq ?_
    refine goes_region ?_
    refine lst_run (run_build (cells := [_, _, _, _]) .nil rfl) rfl ?_
    refine lst_storeN hS rfl (by conv => lhs; whnf) rfl rfl (by first | exact .head | exact .tail .head | exact .tail (.tail .head) | exact .tail (.tail (.tail .head)) | exact .tail (.tail (.tail (.tail .head))) | exact .tail (.tail (.tail (.tail (.tail .head))))) (by repeat constructor) (by first | exact .head | exact .tail .head | exact .tail (.tail .head) | exact .tail (.tail (.tail .head)) | exact .tail (.tail (.tail (.tail .head))) | exact .tail (.tail (.tail (.tail (.tail .head))))) ?_
    clear hS
    intro wx3 hS
    refine lst_run (run_assign (by conv => lhs; whnf)) rfl ?_
    refine lst_run (run_assign (by conv => lhs; whnf)) rfl ?_
    refine lst_done ?_
    refine goes_retC3 (sz := 4) hS Try.func22 rfl rfl (by conv => lhs; whnf) (by conv => lhs; whnf) rfl rfl (by first | exact .head | exact .tail .head | exact .tail (.tail .head) | exact .tail (.tail (.tail .head)) | exact .tail (.tail (.tail (.tail .head))) | exact .tail (.tail (.tail (.tail (.tail .head))))) (by repeat constructor) ?_
    exact ⟨zLT, F, rfl, rfl, fun _ h => h, fun w _ => zLT_rd w, hS.drop.drop⟩
  | true =>
  rw [show (decide (0 ≤ a) && decide (a < (h.cs.length : Nat))) = true from ha]
  have hpos : 0 < h.cs.length := by
    obtain ⟨x, hx⟩ := isAddr_iff.1 ha
    have := hat_get hx; omega
  obtain ⟨mm, hmm⟩ : ∃ mm : Int, mm = if (65536 : Int) < most then 65536 else most := ⟨_, rfl⟩
  have hmN : mostN most = mm.toNat := by unfold mostN; rw [hmm]; congr 1; split <;> omega
  have hmm1 : mm ≤ 65536 ∧ -9223372036854775808 ≤ mm := by rw [hmm]; split <;> omega
  have e0 : termH h a most = (match tmAt h.cs mm.toNat a mm.toNat with | none => (zeroTm, 0, 3) | some (t, l) => (t, mm.toNat - l, 0)) := by
    unfold termH; rw [if_neg (by rw [hg]; decide), if_neg (by rw [ha]; decide), hmN]; rfl
  rw [e0]
  refine lst_run (rfl) rfl ?_
  refine lst_done ?_
  refine goes_false rfl ?_
  refine goes_skip ?_
  refine goes_seq ?_
  refine goes_draw (St _ _ _ _) 10 ((0, true) :: (1, true) :: (2, true) :: (3, true) :: (5, true) :: (6, true) :: (4, false) :: (7, true) :: (8, false) :: (9, true) :: []) (by kernel_rfl) (by kernel_rfl) (hS.drew) ?_
  replace hS := hS.drew
  first
    | refine ord_read rfl (fun _ hS => run_loadN_own (k := 2) hS rfl rfl rfl (by first | exact .head | exact .tail .head | exact .tail (.tail .head) | exact .tail (.tail (.tail .head)) | exact .tail (.tail (.tail (.tail .head))) | exact .tail (.tail (.tail (.tail (.tail .head))))) (by repeat constructor)) rfl ?_
    | refine ord_read rfl (fun _ hS => run_load2 rfl rfl rfl (by first | assumption | exact (hcc _ hS).1 | exact (hcc _ hS).2.1 | exact (hcc _ hS).2.2 | exact hS.cell0 (by assumption)) (by first | assumption | exact (hcc _ hS).1 | exact (hcc _ hS).2.1 | exact (hcc _ hS).2.2 | exact hS.cell0 (by assumption))) rfl ?_
  refine ord_read rfl (fun _ hS => run_fieldAddr (off := 0) rfl rfl) rfl ?_
  first
    | refine ord_read rfl (fun _ hS => run_load1_own hS rfl rfl (by first | exact .head | exact .tail .head | exact .tail (.tail .head) | exact .tail (.tail (.tail .head)) | exact .tail (.tail (.tail (.tail .head))) | exact .tail (.tail (.tail (.tail (.tail .head))))) (by repeat constructor)) rfl ?_
    | refine ord_read rfl (fun _ hS => run_load1 rfl rfl (by first | assumption | exact (hcc _ hS).1 | exact (hcc _ hS).2.1 | exact (hcc _ hS).2.2 | exact hS.cell0 (by assumption) | exact lv_next hS | exact lv_list hS)) rfl ?_
  refine ord_read rfl (fun _ hS => run_len_slice rfl rfl rfl) rfl ?_
  refine ord_read rfl (fun _ hS => run_move (by conv => lhs; whnf)) rfl ?_
  refine ord_read rfl (fun _ hS => run_min2 rfl rfl (by assumption)) rfl ?_
  refine ord_act rfl ?_
  refine lst_makeZ (k := h.cs.length) (bts := 8) (z := .int .i64 0) hS (by conv => lhs; whnf) (by conv => lhs; whnf) rfl rfl rfl rfl (by omega) (by omega) rfl ?_
  clear hS
  intro pb w5 hS
  rw [show List.replicate h.cs.length (Value.int .i64 0) = intsV (List.replicate h.cs.length 0) by simp [intsV]] at hS
  refine lst_ord (by first | exact hS | exact hS.drop | exact hS.drop.drop | exact hS.drop.drop.drop | exact hS.unlearn | exact hS.unlearn.drop | exact hS.unlearn.drop.drop | exact hS.forget (by assumption) | exact hS.drop.forget (by assumption)) ?_
  refine ord_read rfl (fun _ hS => run_build (cells := [_, _, _, _, _]) (.cons (by conv => lhs; whnf) (.cons (by conv => lhs; whnf) (.cons (by conv => lhs; whnf) .nil))) rfl) rfl ?_
  refine ord_act rfl ?_
  refine lst_box hS rfl rfl ?_
  clear hS
  intro b3 wx3 hS
  refine lst_ord (by first | exact hS | exact hS.drop | exact hS.drop.drop | exact hS.drop.drop.drop | exact hS.unlearn | exact hS.unlearn.drop | exact hS.unlearn.drop.drop | exact hS.forget (by assumption) | exact hS.drop.forget (by assumption)) ?_
  refine ord_read rfl (fun _ hS => run_assign (by conv => lhs; whnf)) rfl ?_
  refine ord_end ?_
  refine lst_done ?_
  refine goes_seq ?_
  refine goes_seq ?_
  refine goes_region ?_
  refine lst_run (run_move (by conv => lhs; whnf)) rfl ?_
  refine lst_run (run_nilCheck rfl) rfl ?_
  refine lst_run (run_fieldAddr (off := 2) rfl rfl) rfl ?_
  first
    | refine lst_run (run_load1_own hS rfl rfl (by first | exact .head | exact .tail .head | exact .tail (.tail .head) | exact .tail (.tail (.tail .head)) | exact .tail (.tail (.tail (.tail .head))) | exact .tail (.tail (.tail (.tail (.tail .head))))) (by repeat constructor)) rfl ?_
    | refine lst_run (run_load1 rfl rfl (by first | assumption | exact (hcc _ hS).1 | exact (hcc _ hS).2.1 | exact (hcc _ hS).2.2 | exact hS.cell0 (by assumption) | exact lv_next hS | exact lv_list hS)) rfl ?_
  refine lst_run (run_len_slice rfl rfl rfl) rfl ?_
  refine lst_run (run_move (by conv => lhs; whnf)) rfl ?_
  refine lst_done ?_
  refine goes_block ?_
  refine goes_loop1 36 (37 :: 38 :: 10 :: 39 :: 40 :: 41 :: 42 :: 43 :: 44 :: 45 :: []) (fun (j : Nat) v w' => ∃ (P : List Int) (i : Nat), i + j = h.cs.length ∧ v = .int .i64 (i : Nat) ∧ P.length = h.cs.length ∧ (∀ (q : Nat), q < i → P[q]? = some (-2)) ∧ St M w0 ((b3, bob A h.cs.length c B h.tr.length d pb h.cs.length 0 mm) :: (pb, iob P) :: (b2, .cells [.int .i64 0, .int .i64 0, .string eS, .slice none 0 0].toArray 39) :: (b1, hob A h.cs.length c B h.tr.length d) :: H) F w') (fun j => j) (h.cs.length) ?_ (by conv => lhs; whnf) ?_
  · exact ⟨List.replicate h.cs.length 0, 0, by omega, rfl, by simp, fun q hq => by omega, hS⟩
  clear hS
  rintro j _ w6 jv ⟨P, i, hi, rfl, hPl, hPi, hS⟩ ih
  cases j with
  | succ j =>
    have hput := intsV_put P i (-2) (by omega)
    refine goes_seq ?_
    refine goes_region ?_
    first
      | refine lst_run (run_lss_yes rfl rfl (by omega)) rfl ?_
      | refine lst_run (run_lss_no rfl rfl (by omega)) rfl ?_
      | refine lst_run (rfl) rfl ?_
    refine lst_done ?_
    refine goes_seq ?_
    refine goes_true rfl ?_
    refine goes_skip ?_
    refine goes_seq ?_
    refine goes_block ?_
    refine goes_seq ?_
    refine goes_region ?_
    refine lst_run (run_move (by conv => lhs; whnf)) rfl ?_
    refine lst_run (run_assign (by conv => lhs; whnf)) rfl ?_
    refine lst_done ?_
    refine goes_region ?_
    refine lst_run (run_move (by conv => lhs; whnf)) rfl ?_
    refine lst_run (run_nilCheck rfl) rfl ?_
    refine lst_run (run_fieldAddr (off := 2) rfl rfl) rfl ?_
    first
      | refine lst_run (run_load1_own hS rfl rfl (by first | exact .head | exact .tail .head | exact .tail (.tail .head) | exact .tail (.tail (.tail .head)) | exact .tail (.tail (.tail (.tail .head))) | exact .tail (.tail (.tail (.tail (.tail .head))))) (by repeat constructor)) rfl ?_
      | refine lst_run (run_load1 rfl rfl (by first | assumption | exact (hcc _ hS).1 | exact (hcc _ hS).2.1 | exact (hcc _ hS).2.2 | exact hS.cell0 (by assumption) | exact lv_next hS | exact lv_list hS)) rfl ?_
    refine lst_run (run_move (by conv => lhs; whnf)) rfl ?_
    refine lst_run (run_indexAddr (sz := 1) rfl rfl rfl rfl (by omega) (by omega)) rfl ?_
    refine lst_store1 hS rfl (by conv => lhs; whnf) rfl rfl (.tail .head) (by rw [Nat.zero_add, Nat.mul_one]; exact hput) (.tail .head) ?_
    clear hS
    intro w7 hS
    refine lst_done ?_
    refine goes_inBlock ?_
    refine goes_region ?_
    refine lst_run (run_add rfl rfl (by omega) (by omega)) rfl ?_
    refine lst_run (run_move (by conv => lhs; whnf)) rfl ?_
    refine lst_done ?_
    refine ih (j) _ _ _ ?_ ?_ (by conv => lhs; whnf) (by kernel_rfl)
    · omega
    · refine ⟨P.set i (-2), i + 1, by omega, by simp, by simpa using hPl, fun q hq => ?_, hS⟩
      rw [List.getElem?_set]
      split
      · rename_i e; rw [if_pos (by omega)]
      · exact hPi q (by omega)
  | zero =>
    have hP : PInv h.cs P := ⟨hPl, fun q v hq => by
      have hql : q < P.length := by
        rcases Nat.lt_or_ge q P.length with g | g
        · exact g
        · rw [List.getElem?_eq_none g] at hq; cases hq
      rw [hPi q (by omega)] at hq
      exact .inl (Option.some.inj hq).symm⟩
    rw [← hPl] at hS
    have hcall := bt_said mm.toNat M w0 ((b2, .cells [.int .i64 0, .int .i64 0, .string eS, .slice none 0 0].toArray 39) :: (b1, hob A h.cs.length c B h.tr.length d) :: H) F b3 pb c h.tr.length d A B h.cs P a 0 mm mm.toNat
    rw [← hPl] at hcall
    have hS2 : St M w0 ((b3, bob A h.cs.length c B h.tr.length d pb P.length 0 mm) :: (pb, iob P) :: (b2, .cells [.int .i64 0, .int .i64 0, .string eS, .slice none 0 0].toArray 39) :: (b1, hob A h.cs.length c B h.tr.length d) :: H) F w6 := by rw [← hPl]; exact hS
    rw [← hPl] at hL hgl hl1
    cases hap : tmAt h.cs mm.toNat a mm.toNat with
    | none =>
      rw [hap] at hcall
      refine goes_seq ?_
      refine goes_region ?_
      first
        | refine lst_run (run_lss_yes rfl rfl (by omega)) rfl ?_
        | refine lst_run (run_lss_no rfl rfl (by omega)) rfl ?_
        | refine lst_run (rfl) rfl ?_
      refine lst_done ?_
      refine goes_seq ?_
      refine goes_false rfl ?_
      refine goes_exit rfl ?_
      refine goes_seq ?_
      refine goes_region ?_
      refine lst_run (run_move (by conv => lhs; whnf)) rfl ?_
      refine lst_run (run_move (by conv => lhs; whnf)) rfl ?_
      refine lst_enter (run_call (by kernel_rfl) (args_2 (by conv => lhs; whnf) (by conv => lhs; whnf))) rfl ?_
      refine Calls.mono (hcall _ hL hgl hl1 ha hP (by omega) (by omega) (by omega) (by omega) (by omega) (by omega) hS) ?_
      rintro _ w7 ⟨F2, P3, nd2, hF2, hP3, rfl, hS'⟩
      refine ⟨_, rfl, ?_⟩
      replace hS := hS'
      clear hS'
      refine lst_run (run_move (by conv => lhs; whnf)) rfl ?_
      refine lst_run (run_extract rfl rfl) rfl ?_
      refine lst_run (run_extract rfl rfl) rfl ?_
      refine lst_alloc (cs := [_, _, _, _]) hS rfl rfl rfl ?_
      clear hS
      intro b4 wx4 hS
      refine lst_storeN hS rfl (by conv => lhs; whnf) rfl rfl (by first | exact .head | exact .tail .head | exact .tail (.tail .head) | exact .tail (.tail (.tail .head)) | exact .tail (.tail (.tail (.tail .head))) | exact .tail (.tail (.tail (.tail (.tail .head))))) (by repeat constructor) (by first | exact .head | exact .tail .head | exact .tail (.tail .head) | exact .tail (.tail (.tail .head)) | exact .tail (.tail (.tail (.tail .head))) | exact .tail (.tail (.tail (.tail (.tail .head))))) ?_
      clear hS
      intro wx5 hS
      refine lst_run (run_assign (by conv => lhs; whnf)) rfl ?_
      refine lst_done ?_
      refine goes_seq ?_
      refine goes_seq ?_
      refine goes_region ?_
      refine lst_run (run_move (by conv => lhs; whnf)) rfl ?_
      refine lst_run (rfl) rfl ?_
      refine lst_done ?_
      refine goes_true rfl ?_
      refine goes_seq ?_
      refine goes_region ?_
      refine lst_run (run_build (cells := [_, _, _, _]) .nil rfl) rfl ?_
      refine lst_storeN hS rfl (by conv => lhs; whnf) rfl rfl (by first | exact .head | exact .tail .head | exact .tail (.tail .head) | exact .tail (.tail (.tail .head)) | exact .tail (.tail (.tail (.tail .head))) | exact .tail (.tail (.tail (.tail (.tail .head))))) (by repeat constructor) (by first | exact .head | exact .tail .head | exact .tail (.tail .head) | exact .tail (.tail (.tail .head)) | exact .tail (.tail (.tail (.tail .head))) | exact .tail (.tail (.tail (.tail (.tail .head))))) ?_
      clear hS
      intro wx6 hS
      refine lst_run (run_assign (by conv => lhs; whnf)) rfl ?_
      refine lst_run (run_assign (by conv => lhs; whnf)) rfl ?_
      refine lst_done ?_
      refine goes_retC3 (sz := 4) hS Try.func22 rfl rfl (by conv => lhs; whnf) (by conv => lhs; whnf) rfl rfl (by first | exact .head | exact .tail .head | exact .tail (.tail .head) | exact .tail (.tail (.tail .head)) | exact .tail (.tail (.tail (.tail .head))) | exact .tail (.tail (.tail (.tail (.tail .head))))) (by repeat constructor) ?_
      exact ⟨zLT, F2, rfl, rfl, hF2, fun w _ => zLT_rd w, hS.drop.drop.drop.drop.drop⟩
    | some q =>
      obtain ⟨q1, lq⟩ := q
      have hlq := tmAt_nodes _ _ _ _ hap
      dsimp only at hlq
      rw [hap] at hcall
      refine goes_seq ?_
      refine goes_region ?_
      first
        | refine lst_run (run_lss_yes rfl rfl (by omega)) rfl ?_
        | refine lst_run (run_lss_no rfl rfl (by omega)) rfl ?_
        | refine lst_run (rfl) rfl ?_
      refine lst_done ?_
      refine goes_seq ?_
      refine goes_false rfl ?_
      refine goes_exit rfl ?_
      refine goes_seq ?_
      refine goes_region ?_
      refine lst_run (run_move (by conv => lhs; whnf)) rfl ?_
      refine lst_run (run_move (by conv => lhs; whnf)) rfl ?_
      refine lst_enter (run_call (by kernel_rfl) (args_2 (by conv => lhs; whnf) (by conv => lhs; whnf))) rfl ?_
      refine Calls.mono (hcall _ hL hgl hl1 ha hP (by omega) (by omega) (by omega) (by omega) (by omega) (by omega) hS) ?_
      rintro _ w7 ⟨F2, P3, nd2, hF2, hP3, ⟨u2, hu2, hru2, hnd2, rfl⟩, hS'⟩
      refine ⟨_, rfl, ?_⟩
      replace hS := hS'
      clear hS'
      refine lst_run (run_move (by conv => lhs; whnf)) rfl ?_
      refine lst_run (run_extract rfl rfl) rfl ?_
      refine lst_run (run_extract rfl rfl) rfl ?_
      refine lst_alloc (cs := [_, _, _, _]) hS rfl rfl rfl ?_
      clear hS
      intro b4 wx4 hS
      refine lst_storeN hS rfl (by conv => lhs; whnf) rfl rfl (by first | exact .head | exact .tail .head | exact .tail (.tail .head) | exact .tail (.tail (.tail .head)) | exact .tail (.tail (.tail (.tail .head))) | exact .tail (.tail (.tail (.tail (.tail .head))))) (by repeat constructor) (by first | exact .head | exact .tail .head | exact .tail (.tail .head) | exact .tail (.tail (.tail .head)) | exact .tail (.tail (.tail (.tail .head))) | exact .tail (.tail (.tail (.tail (.tail .head))))) ?_
      clear hS
      intro wx5 hS
      refine lst_run (run_assign (by conv => lhs; whnf)) rfl ?_
      refine lst_done ?_
      refine goes_seq ?_
      refine goes_seq ?_
      refine goes_region ?_
      refine lst_run (run_move (by conv => lhs; whnf)) rfl ?_
      refine lst_run (rfl) rfl ?_
      refine lst_done ?_
      refine goes_false rfl ?_
      refine goes_skip ?_
      refine goes_seq ?_
      refine goes_draw (St _ w0 [_, _] []) 8 ((0, true) :: (1, true) :: (2, true) :: (3, true) :: (4, true) :: (5, false) :: (6, true) :: (7, true) :: []) (by kernel_rfl) (by kernel_rfl) (hS.drew.bare2) ?_
      replace hS := hS.drew
      first
        | refine ord_read rfl (fun _ hS => run_loadN_own (k := 4) hS rfl rfl rfl (by first | exact .head | exact .tail .head | exact .tail (.tail .head) | exact .tail (.tail (.tail .head)) | exact .tail (.tail (.tail (.tail .head))) | exact .tail (.tail (.tail (.tail (.tail .head))))) (by repeat constructor)) rfl ?_
        | refine ord_read rfl (fun _ hS => run_load4 rfl rfl rfl (by first | assumption | exact (hcc _ hS).1 | exact (hcc _ hS).2.1 | exact (hcc _ hS).2.2 | exact hS.cell0 (by assumption)) (by first | assumption | exact (hcc _ hS).1 | exact (hcc _ hS).2.1 | exact (hcc _ hS).2.2 | exact hS.cell0 (by assumption)) (by first | assumption | exact (hcc _ hS).1 | exact (hcc _ hS).2.1 | exact (hcc _ hS).2.2 | exact hS.cell0 (by assumption)) (by first | assumption | exact (hcc _ hS).1 | exact (hcc _ hS).2.1 | exact (hcc _ hS).2.2 | exact hS.cell0 (by assumption))) rfl ?_
      refine ord_read rfl (fun _ hS => run_move (by conv => lhs; whnf)) rfl ?_
      refine ord_read rfl (fun _ hS => run_nilCheck rfl) rfl ?_
      refine ord_read rfl (fun _ hS => run_fieldAddr (off := 3) rfl rfl) rfl ?_
      first
        | refine ord_read rfl (fun _ hS => run_load1_own hS rfl rfl (by first | exact .head | exact .tail .head | exact .tail (.tail .head) | exact .tail (.tail (.tail .head)) | exact .tail (.tail (.tail (.tail .head))) | exact .tail (.tail (.tail (.tail (.tail .head))))) (by repeat constructor)) rfl ?_
        | refine ord_read rfl (fun _ hS => run_load1 rfl rfl (by first | assumption | exact (hcc _ hS).1 | exact (hcc _ hS).2.1 | exact (hcc _ hS).2.2 | exact hS.cell0 (by assumption) | exact lv_next hS | exact lv_list hS)) rfl ?_
      refine ord_act rfl ?_
      refine lst_storeN hS rfl (by conv => lhs; whnf) rfl rfl (by first | exact .head | exact .tail .head | exact .tail (.tail .head) | exact .tail (.tail (.tail .head)) | exact .tail (.tail (.tail (.tail .head))) | exact .tail (.tail (.tail (.tail (.tail .head))))) (by repeat constructor) (by first | exact .head | exact .tail .head | exact .tail (.tail .head) | exact .tail (.tail (.tail .head)) | exact .tail (.tail (.tail (.tail .head))) | exact .tail (.tail (.tail (.tail (.tail .head))))) ?_
      clear hS
      intro wx6 hS
      refine lst_ord (by first | exact hS.bare2 | exact hS.drop.bare2 | exact hS.drop.drop.bare2) ?_
      refine ord_read rfl (fun _ hS => run_assign (by conv => lhs; whnf)) rfl ?_
      refine ord_read rfl (fun _ hS => run_assign (by conv => lhs; whnf)) rfl ?_
      refine ord_end ?_
      refine lst_done ?_
      refine goes_retC3 (sz := 4) hS Try.func22 rfl rfl (by conv => lhs; whnf) (by conv => lhs; whnf) rfl rfl (by first | exact .head | exact .tail .head | exact .tail (.tail .head) | exact .tail (.tail (.tail .head)) | exact .tail (.tail (.tail (.tail .head))) | exact .tail (.tail (.tail (.tail (.tail .head))))) (by repeat constructor) ?_
      refine ⟨u2, F2, ?_, hu2, hF2, hru2, hS.drop.drop.drop.drop.drop⟩
      dsimp only
      rw [hnd2, show mm - ((lq : Nat) : Int) = ((mm.toNat - lq : Nat) : Int) by omega]
end
end Go.Proofs.Ytjicoifjgokoiab
namespace Go.Proofs.Ytjicoifjgokoiab
open Go.RowKit
set_option linter.unusedVariables false
set_option linter.unusedSimpArgs false
set_option maxRecDepth 100000
set_option maxHeartbeats 1000000

theorem same1_self (k n : Int) (s : ByteArray) (T : Ts) : same1 k n s T k n s T = true := by
  unfold same1; simp [(Ts.same_iff T T).2 rfl]
theorem sameK_eq (t u : LT) (w : World) (ht : LRd t w) (hu : LRd u w) (he : t.tm = u.tm) (hn : t.tm.ar.nodes ≤ 1048576) :
    Calls Try.prog 32 #[tv t, tv u] w fun e w' => e = .returned (.bool true) ∧ Below w.heap.size w w' := by
  have h1 := ArA.sl ht
  have h2 := ArA.sl hu
  have e1 : t.k = u.k := congrArg Tm.k he
  have e2 : t.n = u.n := congrArg Tm.n he
  have e3 : t.s = u.s := congrArg Tm.s he
  have e4 : t.ar.ts = u.ar.ts := congrArg Tm.ar he
  have hs : same1 t.k t.n t.s t.ar.ts u.k u.n u.s u.ar.ts = true := by rw [e1, e2, e3, e4, same1_self]
  have := K.same_said t.ar.ts u.ar.ts t.k t.n t.s _ u.k u.n u.s _ w h1 h2 hn (by rw [← e4]; exact hn)
  rw [hs] at this
  exact this
theorem undo_to {M : List Nat} {w0 : World} {H : List (Nat × Obj)} {F : List (World → Prop)} (u h : HH) (n : Int) (hun : undoH u n = (h, 0)) (A B : Option Addr) (c d : Nat) (w : World) (hH : Und F (HFl u A c B d)) (hS : St M w0 H F w) :
    Calls Try.prog 16 #[hv u A c B d, .int .i64 n] w (HRes M w0 H F h fun A' c' B' d' e => e = .returned (.tuple #[hv h A' c' B' d', .int .i64 0])) := by
  have := undo_any u n A B c d w hH hS
  rw [hun] at this
  exact this
theorem termH_sm {h : HH} {a b most : Int} (hs : Sm h.cs a b) (ha : isAddr h.cs a = true) (hb : isAddr h.cs b = true) : termH h a most = termH h b most := by
  unfold termH
  rw [ha, hb, tmAt_sm _ a b _ hs]
theorem termH_nodes (h : HH) (a most : Int) : (termH h a most).1.ar.nodes ≤ 65536 ∧ (termH h a most).2.1 ≤ 65536 := by
  unfold termH
  have hm : mostN most ≤ 65536 := by unfold mostN; omega
  split
  · exact ⟨by simp [zeroTm, Ts.nodes], by simp⟩
  · split
    · exact ⟨by simp [zeroTm, Ts.nodes], by simp⟩
    · split
      · exact ⟨by simp [zeroTm, Ts.nodes], by simp⟩
      · rename_i t l ht
        have := tmAt_nodes _ _ _ _ ht
        dsimp only at this ⊢
        omega
theorem heapOne_any (h : HH) (a b : Int) (A B : Option Addr) (c d : Nat) (w : World) (hH : HFl h A c B d w) (hl1 : h.cs.length ≤ 9223372036854775807) (hl2 : h.tr.length ≤ 9223372036854775807) :
    Calls Try.prog 7 #[hv h A c B d, .int .i64 a, .int .i64 b] w fun e w' => e = .returned (.bool true) ∧ Below w.heap.size w w' := by
  have hS := (St.start w).base (φ := HFl h A c B d) fun w' hx => hH.ext hx
  refine goes_enter3 Try.func7 rfl Try.ntmps7 rfl ?_
  refine goes_seq ?_
  refine goes_region ?_
  refine lst_box hS rfl rfl ?_
  clear hS
  intro b1 wx1 hS
  refine lst_run (run_assign (by conv => lhs; whnf)) rfl ?_
  refine lst_done ?_
  refine goes_seq ?_
  refine goes_region ?_
  first
    | refine lst_run (run_loadN_own (k := 2) hS rfl rfl rfl (by first | exact .head | exact .tail .head | exact .tail (.tail .head) | exact .tail (.tail (.tail .head)) | exact .tail (.tail (.tail (.tail .head))) | exact .tail (.tail (.tail (.tail (.tail .head))))) (by repeat constructor)) rfl ?_
    | refine lst_run (run_load2 rfl rfl rfl (by first | assumption | exact hS.cell0 (by assumption)) (by first | assumption | exact hS.cell0 (by assumption))) rfl ?_
  refine lst_run (run_move (by conv => lhs; whnf)) rfl ?_
  refine lst_run (run_move (by conv => lhs; whnf)) rfl ?_
  refine lst_enter (run_call (by kernel_rfl) (args_3 (by conv => lhs; whnf) (by conv => lhs; whnf) (by conv => lhs; whnf))) rfl ?_
  refine Calls.mono (unify_any h a b A B c d _ Und.head hS) ?_
  rintro _ w2 ⟨A2, c2, B2, d2, F2, rfl, hF2, hH2, hS'⟩
  refine ⟨_, rfl, ?_⟩
  replace hS := hS'
  clear hS'
  have hH1 : Und F2 (HFl h A c B d) := Und.head.mono hF2
  generalize hu : unifyH h a b = r at *
  obtain ⟨u, ok, e⟩ := r
  dsimp only at *
  cases ok with
  | false =>
    obtain rfl := unify_not hu
    by_cases he : e = 0
    case neg =>
      refine lst_run (run_move (by conv => lhs; whnf)) rfl ?_
      refine lst_run (run_extract rfl rfl) rfl ?_
      refine lst_run (run_extract rfl rfl) rfl ?_
      refine lst_run (run_extract rfl rfl) rfl ?_
      refine lst_alloc (cs := [_, _]) hS rfl rfl rfl ?_
      clear hS
      intro b2 wx2 hS
      refine lst_storeN hS rfl (by conv => lhs; whnf) rfl rfl (by first | exact .head | exact .tail .head | exact .tail (.tail .head) | exact .tail (.tail (.tail .head)) | exact .tail (.tail (.tail (.tail .head))) | exact .tail (.tail (.tail (.tail (.tail .head))))) (by repeat constructor) (by first | exact .head | exact .tail .head | exact .tail (.tail .head) | exact .tail (.tail (.tail .head)) | exact .tail (.tail (.tail (.tail .head))) | exact .tail (.tail (.tail (.tail (.tail .head))))) ?_
      clear hS
      intro wx3 hS
      refine lst_run (run_assign (by conv => lhs; whnf)) rfl ?_
      refine lst_run (run_assign (by conv => lhs; whnf)) rfl ?_
      refine lst_done ?_
      refine goes_seq ?_
      refine goes_seq ?_
      refine goes_region ?_
      refine lst_run (run_move (by conv => lhs; whnf)) rfl ?_
      first
        | refine lst_run (run_neq_one_int rfl rfl) rfl ?_
        | refine lst_run (run_neq_no rfl rfl (by first | assumption | omega)) rfl ?_
        | refine lst_run (run_neq_yes rfl rfl (by omega)) rfl ?_
        | refine lst_run (rfl) rfl ?_
      refine lst_run (run_move (by conv => lhs; whnf)) rfl ?_
      refine lst_pass rfl rfl rfl ?_
      refine lst_pass rfl rfl rfl ?_
      first
        | refine lst_run (run_pick_t rfl (by conv => lhs; whnf)) rfl ?_
        | refine lst_run (run_pick_f rfl (by conv => lhs; whnf)) rfl ?_
      refine lst_run (run_move (by conv => lhs; whnf)) rfl ?_
      refine lst_pass rfl rfl rfl ?_
      refine lst_pass rfl rfl rfl ?_
      first
        | refine lst_run (run_pick_t rfl (by conv => lhs; whnf)) rfl ?_
        | refine lst_run (run_pick_f rfl (by conv => lhs; whnf)) rfl ?_
      refine lst_done ?_
      refine goes_true rfl ?_
      refine goes_seq ?_
      refine goes_region ?_
      first
        | refine lst_run (run_loadN_own (k := 2) hS rfl rfl rfl (by first | exact .head | exact .tail .head | exact .tail (.tail .head) | exact .tail (.tail (.tail .head)) | exact .tail (.tail (.tail (.tail .head))) | exact .tail (.tail (.tail (.tail (.tail .head))))) (by repeat constructor)) rfl ?_
        | refine lst_run (run_load2 rfl rfl rfl (by first | assumption | exact hS.cell0 (by assumption)) (by first | assumption | exact hS.cell0 (by assumption))) rfl ?_
      first
        | refine lst_run (run_loadN_own (k := 2) hS rfl rfl rfl (by first | exact .head | exact .tail .head | exact .tail (.tail .head) | exact .tail (.tail (.tail .head)) | exact .tail (.tail (.tail (.tail .head))) | exact .tail (.tail (.tail (.tail (.tail .head))))) (by repeat constructor)) rfl ?_
        | refine lst_run (run_load2 rfl rfl rfl (by first | assumption | exact hS.cell0 (by assumption)) (by first | assumption | exact hS.cell0 (by assumption))) rfl ?_
      refine lst_enter (run_call (by kernel_rfl) (args_2 (by conv => lhs; whnf) (by conv => lhs; whnf))) rfl ?_
      refine Calls.mono (sameHeapK_eq u A2 B2 A B c2 d2 c d _ (hS.und hH2) (hS.und hH1) hl1 hl2) ?_
      rintro _ w3 ⟨rfl, hb3⟩
      refine ⟨_, rfl, ?_⟩
      replace hS := hS.grow hb3
      refine lst_run (run_move (by conv => lhs; whnf)) rfl ?_
      refine lst_guard rfl rfl ?_
      refine lst_enter (run_call (by kernel_rfl) args_nil) rfl ?_
      refine Calls.mono (heapsK_any _) ?_
      rintro _ w4 ⟨rfl, hb4⟩
      refine ⟨_, rfl, ?_⟩
      replace hS := hS.grow hb4
      first
        | refine lst_run (run_pick_t rfl (by conv => lhs; whnf)) rfl ?_
        | refine lst_run (run_pick_f rfl (by conv => lhs; whnf)) rfl ?_
      refine lst_run (run_assign (by conv => lhs; whnf)) rfl ?_
      refine lst_done ?_
      refine goes_ret1 Try.func7 rfl (by conv => lhs; whnf) ?_
      exact ⟨rfl, hS.ext.below⟩
    refine lst_run (run_move (by conv => lhs; whnf)) rfl ?_
    refine lst_run (run_extract rfl rfl) rfl ?_
    refine lst_run (run_extract rfl rfl) rfl ?_
    refine lst_run (run_extract rfl rfl) rfl ?_
    refine lst_alloc (cs := [_, _]) hS rfl rfl rfl ?_
    clear hS
    intro b2 wx2 hS
    refine lst_storeN hS rfl (by conv => lhs; whnf) rfl rfl (by first | exact .head | exact .tail .head | exact .tail (.tail .head) | exact .tail (.tail (.tail .head)) | exact .tail (.tail (.tail (.tail .head))) | exact .tail (.tail (.tail (.tail (.tail .head))))) (by repeat constructor) (by first | exact .head | exact .tail .head | exact .tail (.tail .head) | exact .tail (.tail (.tail .head)) | exact .tail (.tail (.tail (.tail .head))) | exact .tail (.tail (.tail (.tail (.tail .head))))) ?_
    clear hS
    intro wx3 hS
    refine lst_run (run_assign (by conv => lhs; whnf)) rfl ?_
    refine lst_run (run_assign (by conv => lhs; whnf)) rfl ?_
    refine lst_done ?_
    refine goes_seq ?_
    refine goes_seq ?_
    refine goes_region ?_
    refine lst_run (run_move (by conv => lhs; whnf)) rfl ?_
    first
      | refine lst_run (run_neq_one_int rfl rfl) rfl ?_
      | refine lst_run (run_neq_no rfl rfl (by first | assumption | omega)) rfl ?_
      | refine lst_run (run_neq_yes rfl rfl (by omega)) rfl ?_
      | refine lst_run (rfl) rfl ?_
    refine lst_run (run_move (by conv => lhs; whnf)) rfl ?_
    refine lst_guard rfl rfl ?_
    refine lst_run (run_move (by conv => lhs; whnf)) rfl ?_
    refine lst_guard rfl rfl ?_
    refine lst_run (rfl) rfl ?_
    first
      | refine lst_run (run_pick_t rfl (by conv => lhs; whnf)) rfl ?_
      | refine lst_run (run_pick_f rfl (by conv => lhs; whnf)) rfl ?_
    refine lst_run (run_move (by conv => lhs; whnf)) rfl ?_
    refine lst_pass rfl rfl rfl ?_
    refine lst_pass rfl rfl rfl ?_
    first
      | refine lst_run (run_pick_t rfl (by conv => lhs; whnf)) rfl ?_
      | refine lst_run (run_pick_f rfl (by conv => lhs; whnf)) rfl ?_
    refine lst_done ?_
    refine goes_true rfl ?_
    refine goes_seq ?_
    refine goes_region ?_
    first
      | refine lst_run (run_loadN_own (k := 2) hS rfl rfl rfl (by first | exact .head | exact .tail .head | exact .tail (.tail .head) | exact .tail (.tail (.tail .head)) | exact .tail (.tail (.tail (.tail .head))) | exact .tail (.tail (.tail (.tail (.tail .head))))) (by repeat constructor)) rfl ?_
      | refine lst_run (run_load2 rfl rfl rfl (by first | assumption | exact hS.cell0 (by assumption)) (by first | assumption | exact hS.cell0 (by assumption))) rfl ?_
    first
      | refine lst_run (run_loadN_own (k := 2) hS rfl rfl rfl (by first | exact .head | exact .tail .head | exact .tail (.tail .head) | exact .tail (.tail (.tail .head)) | exact .tail (.tail (.tail (.tail .head))) | exact .tail (.tail (.tail (.tail (.tail .head))))) (by repeat constructor)) rfl ?_
      | refine lst_run (run_load2 rfl rfl rfl (by first | assumption | exact hS.cell0 (by assumption)) (by first | assumption | exact hS.cell0 (by assumption))) rfl ?_
    refine lst_enter (run_call (by kernel_rfl) (args_2 (by conv => lhs; whnf) (by conv => lhs; whnf))) rfl ?_
    refine Calls.mono (sameHeapK_eq u A2 B2 A B c2 d2 c d _ (hS.und hH2) (hS.und hH1) hl1 hl2) ?_
    rintro _ w3 ⟨rfl, hb3⟩
    refine ⟨_, rfl, ?_⟩
    replace hS := hS.grow hb3
    refine lst_run (run_move (by conv => lhs; whnf)) rfl ?_
    refine lst_guard rfl rfl ?_
    refine lst_enter (run_call (by kernel_rfl) args_nil) rfl ?_
    refine Calls.mono (heapsK_any _) ?_
    rintro _ w4 ⟨rfl, hb4⟩
    refine ⟨_, rfl, ?_⟩
    replace hS := hS.grow hb4
    first
      | refine lst_run (run_pick_t rfl (by conv => lhs; whnf)) rfl ?_
      | refine lst_run (run_pick_f rfl (by conv => lhs; whnf)) rfl ?_
    refine lst_run (run_assign (by conv => lhs; whnf)) rfl ?_
    refine lst_done ?_
    refine goes_ret1 Try.func7 rfl (by conv => lhs; whnf) ?_
    exact ⟨rfl, hS.ext.below⟩
  | true =>
  obtain ⟨hg, rfl, hgu, hsm, hun, ha, hb, _⟩ := unify_ok hu
  have hlu := good_len hgu
  have hlh := good_len hg
  have hte := termH_sm (most := 1000) hsm ha hb
  have htn := termH_nodes u a 1000
  refine lst_run (run_move (by conv => lhs; whnf)) rfl ?_
  refine lst_run (run_extract rfl rfl) rfl ?_
  refine lst_run (run_extract rfl rfl) rfl ?_
  refine lst_run (run_extract rfl rfl) rfl ?_
  refine lst_alloc (cs := [_, _]) hS rfl rfl rfl ?_
  clear hS
  intro b2 wx2 hS
  refine lst_storeN hS rfl (by conv => lhs; whnf) rfl rfl (by first | exact .head | exact .tail .head | exact .tail (.tail .head) | exact .tail (.tail (.tail .head)) | exact .tail (.tail (.tail (.tail .head))) | exact .tail (.tail (.tail (.tail (.tail .head))))) (by repeat constructor) (by first | exact .head | exact .tail .head | exact .tail (.tail .head) | exact .tail (.tail (.tail .head)) | exact .tail (.tail (.tail (.tail .head))) | exact .tail (.tail (.tail (.tail (.tail .head))))) ?_
  clear hS
  intro wx3 hS
  refine lst_run (run_assign (by conv => lhs; whnf)) rfl ?_
  refine lst_run (run_assign (by conv => lhs; whnf)) rfl ?_
  refine lst_done ?_
  refine goes_seq ?_
  refine goes_seq ?_
  refine goes_region ?_
  refine lst_run (run_move (by conv => lhs; whnf)) rfl ?_
  first
    | refine lst_run (run_neq_one_int rfl rfl) rfl ?_
    | refine lst_run (run_neq_no rfl rfl (by first | assumption | omega)) rfl ?_
    | refine lst_run (run_neq_yes rfl rfl (by omega)) rfl ?_
    | refine lst_run (rfl) rfl ?_
  refine lst_run (run_move (by conv => lhs; whnf)) rfl ?_
  refine lst_guard rfl rfl ?_
  refine lst_run (run_move (by conv => lhs; whnf)) rfl ?_
  refine lst_guard rfl rfl ?_
  refine lst_run (rfl) rfl ?_
  first
    | refine lst_run (run_pick_t rfl (by conv => lhs; whnf)) rfl ?_
    | refine lst_run (run_pick_f rfl (by conv => lhs; whnf)) rfl ?_
  refine lst_run (run_move (by conv => lhs; whnf)) rfl ?_
  refine lst_guard rfl rfl ?_
  refine lst_enter (run_call (by kernel_rfl) args_nil) rfl ?_
  refine Calls.mono (heapsK_any _) ?_
  rintro _ w3 ⟨rfl, hb3⟩
  refine ⟨_, rfl, ?_⟩
  replace hS := hS.grow hb3
  refine lst_guard rfl rfl ?_
  refine lst_run (rfl) rfl ?_
  first
    | refine lst_run (run_pick_t rfl (by conv => lhs; whnf)) rfl ?_
    | refine lst_run (run_pick_f rfl (by conv => lhs; whnf)) rfl ?_
  refine lst_done ?_
  refine goes_false rfl ?_
  refine goes_skip ?_
  refine goes_seq ?_
  refine goes_region ?_
  first
    | refine lst_run (run_loadN_own (k := 2) hS rfl rfl rfl (by first | exact .head | exact .tail .head | exact .tail (.tail .head) | exact .tail (.tail (.tail .head)) | exact .tail (.tail (.tail (.tail .head))) | exact .tail (.tail (.tail (.tail (.tail .head))))) (by repeat constructor)) rfl ?_
    | refine lst_run (run_load2 rfl rfl rfl (by first | assumption | exact hS.cell0 (by assumption)) (by first | assumption | exact hS.cell0 (by assumption))) rfl ?_
  refine lst_run (run_move (by conv => lhs; whnf)) rfl ?_
  refine lst_enter (run_call (by kernel_rfl) (args_3 (by conv => lhs; whnf) (by conv => lhs; whnf) (by conv => lhs; whnf))) rfl ?_
  refine Calls.mono (term_any u a 1000 A2 B2 c2 d2 _ hH2 (by omega) hS) ?_
  rintro _ w4 ⟨t4, F4, rfl, ht4, hF4, hr4, hS'⟩
  refine ⟨_, rfl, ?_⟩
  replace hS := hS'
  clear hS'
  refine lst_run (run_move (by conv => lhs; whnf)) rfl ?_
  refine lst_run (run_extract rfl rfl) rfl ?_
  refine lst_run (run_extract rfl rfl) rfl ?_
  refine lst_run (run_extract rfl rfl) rfl ?_
  refine lst_alloc (cs := [_, _, _, _]) hS rfl rfl rfl ?_
  clear hS
  intro b3 wx4 hS
  refine lst_storeN hS rfl (by conv => lhs; whnf) rfl rfl (by first | exact .head | exact .tail .head | exact .tail (.tail .head) | exact .tail (.tail (.tail .head)) | exact .tail (.tail (.tail (.tail .head))) | exact .tail (.tail (.tail (.tail (.tail .head))))) (by repeat constructor) (by first | exact .head | exact .tail .head | exact .tail (.tail .head) | exact .tail (.tail (.tail .head)) | exact .tail (.tail (.tail (.tail .head))) | exact .tail (.tail (.tail (.tail (.tail .head))))) ?_
  clear hS
  intro wx5 hS
  refine lst_run (run_assign (by conv => lhs; whnf)) rfl ?_
  refine lst_run (run_assign (by conv => lhs; whnf)) rfl ?_
  refine lst_done ?_
  refine goes_seq ?_
  refine goes_region ?_
  first
    | refine lst_run (run_loadN_own (k := 2) hS rfl rfl rfl (by first | exact .head | exact .tail .head | exact .tail (.tail .head) | exact .tail (.tail (.tail .head)) | exact .tail (.tail (.tail (.tail .head))) | exact .tail (.tail (.tail (.tail (.tail .head))))) (by repeat constructor)) rfl ?_
    | refine lst_run (run_load2 rfl rfl rfl (by first | assumption | exact hS.cell0 (by assumption)) (by first | assumption | exact hS.cell0 (by assumption))) rfl ?_
  refine lst_run (run_move (by conv => lhs; whnf)) rfl ?_
  refine lst_enter (run_call (by kernel_rfl) (args_3 (by conv => lhs; whnf) (by conv => lhs; whnf) (by conv => lhs; whnf))) rfl ?_
  refine Calls.mono (term_any u b 1000 A2 B2 c2 d2 _ (hH2.mono hF4) (by omega) hS) ?_
  rintro _ w5 ⟨t5, F5, rfl, ht5, hF5, hr5, hS'⟩
  refine ⟨_, rfl, ?_⟩
  replace hS := hS'
  clear hS'
  rw [← hte] at ht5
  rw [← hte]
  have hH25 : Und F5 (HFl u A2 c2 B2 d2) := hH2.mono fun φ h => hF5 φ (hF4 φ h)
  refine lst_run (run_move (by conv => lhs; whnf)) rfl ?_
  refine lst_run (run_extract rfl rfl) rfl ?_
  refine lst_run (run_extract rfl rfl) rfl ?_
  refine lst_run (run_extract rfl rfl) rfl ?_
  refine lst_alloc (cs := [_, _, _, _]) hS rfl rfl rfl ?_
  clear hS
  intro b4 wx6 hS
  refine lst_storeN hS rfl (by conv => lhs; whnf) rfl rfl (by first | exact .head | exact .tail .head | exact .tail (.tail .head) | exact .tail (.tail (.tail .head)) | exact .tail (.tail (.tail (.tail .head))) | exact .tail (.tail (.tail (.tail (.tail .head))))) (by repeat constructor) (by first | exact .head | exact .tail .head | exact .tail (.tail .head) | exact .tail (.tail (.tail .head)) | exact .tail (.tail (.tail (.tail .head))) | exact .tail (.tail (.tail (.tail (.tail .head))))) ?_
  clear hS
  intro wx7 hS
  refine lst_run (run_assign (by conv => lhs; whnf)) rfl ?_
  refine lst_run (run_assign (by conv => lhs; whnf)) rfl ?_
  refine lst_done ?_
  refine goes_seq ?_
  refine goes_region ?_
  first
    | refine lst_run (run_loadN_own (k := 2) hS rfl rfl rfl (by first | exact .head | exact .tail .head | exact .tail (.tail .head) | exact .tail (.tail (.tail .head)) | exact .tail (.tail (.tail (.tail .head))) | exact .tail (.tail (.tail (.tail (.tail .head))))) (by repeat constructor)) rfl ?_
    | refine lst_run (run_load2 rfl rfl rfl (by first | assumption | exact hS.cell0 (by assumption)) (by first | assumption | exact hS.cell0 (by assumption))) rfl ?_
  refine lst_run (run_fieldAddr (off := 1) rfl rfl) rfl ?_
  first
    | refine lst_run (run_load1_own hS rfl rfl (by first | exact .head | exact .tail .head | exact .tail (.tail .head) | exact .tail (.tail (.tail .head)) | exact .tail (.tail (.tail (.tail .head))) | exact .tail (.tail (.tail (.tail (.tail .head))))) (by repeat constructor)) rfl ?_
    | refine lst_run (run_load1 rfl rfl (by first | assumption | exact hS.cell0 (by assumption) | exact lv_next hS | exact lv_list hS)) rfl ?_
  refine lst_run (run_len_slice rfl rfl rfl) rfl ?_
  refine lst_enter (run_call (by kernel_rfl) (args_2 (by conv => lhs; whnf) (by conv => lhs; whnf))) rfl ?_
  refine Calls.mono (undo_to u h (h.tr.length : Nat) hun A2 B2 c2 d2 _ hH25 hS) ?_
  rintro _ w6 ⟨A6, c6, B6, d6, F6, rfl, hF6, hH6, hS'⟩
  refine ⟨_, rfl, ?_⟩
  replace hS := hS'
  clear hS'
  refine lst_run (run_move (by conv => lhs; whnf)) rfl ?_
  refine lst_run (run_extract rfl rfl) rfl ?_
  refine lst_run (run_extract rfl rfl) rfl ?_
  refine lst_alloc (cs := [_, _]) hS rfl rfl rfl ?_
  clear hS
  intro b5 wx8 hS
  refine lst_storeN hS rfl (by conv => lhs; whnf) rfl rfl (by first | exact .head | exact .tail .head | exact .tail (.tail .head) | exact .tail (.tail (.tail .head)) | exact .tail (.tail (.tail (.tail .head))) | exact .tail (.tail (.tail (.tail (.tail .head))))) (by repeat constructor) (by first | exact .head | exact .tail .head | exact .tail (.tail .head) | exact .tail (.tail (.tail .head)) | exact .tail (.tail (.tail (.tail .head))) | exact .tail (.tail (.tail (.tail (.tail .head))))) ?_
  clear hS
  intro wx9 hS
  refine lst_run (run_assign (by conv => lhs; whnf)) rfl ?_
  refine lst_done ?_
  refine goes_seq ?_
  refine goes_region ?_
  refine lst_run (run_move (by conv => lhs; whnf)) rfl ?_
  refine lst_run (run_move (by conv => lhs; whnf)) rfl ?_
  first
    | refine lst_run (run_eql_one_int rfl rfl) rfl ?_
    | refine lst_run (run_eql_no rfl rfl (by first | assumption | omega)) rfl ?_
    | refine lst_run (run_eql_yes rfl rfl (by omega)) rfl ?_
    | refine lst_run (rfl) rfl ?_
  refine lst_run (run_move (by conv => lhs; whnf)) rfl ?_
  refine lst_guard rfl rfl ?_
  first
    | refine lst_run (run_loadN_own (k := 4) hS rfl rfl rfl (by first | exact .head | exact .tail .head | exact .tail (.tail .head) | exact .tail (.tail (.tail .head)) | exact .tail (.tail (.tail (.tail .head))) | exact .tail (.tail (.tail (.tail (.tail .head))))) (by repeat constructor)) rfl ?_
    | refine lst_run (run_load4 rfl rfl rfl (by first | assumption | exact hS.cell0 (by assumption)) (by first | assumption | exact hS.cell0 (by assumption)) (by first | assumption | exact hS.cell0 (by assumption)) (by first | assumption | exact hS.cell0 (by assumption))) rfl ?_
  refine lst_guard rfl rfl ?_
  first
    | refine lst_run (run_loadN_own (k := 4) hS rfl rfl rfl (by first | exact .head | exact .tail .head | exact .tail (.tail .head) | exact .tail (.tail (.tail .head)) | exact .tail (.tail (.tail (.tail .head))) | exact .tail (.tail (.tail (.tail (.tail .head))))) (by repeat constructor)) rfl ?_
    | refine lst_run (run_load4 rfl rfl rfl (by first | assumption | exact hS.cell0 (by assumption)) (by first | assumption | exact hS.cell0 (by assumption)) (by first | assumption | exact hS.cell0 (by assumption)) (by first | assumption | exact hS.cell0 (by assumption))) rfl ?_
  refine lst_guard rfl rfl ?_
  refine lst_enter (run_call (by kernel_rfl) (args_2 (by conv => lhs; whnf) (by conv => lhs; whnf))) rfl ?_
  refine Calls.mono (sameK_eq t4 t5 _ (hS.und ((hr4.mono hF5).mono hF6)) (hS.und (hr5.mono hF6)) (by rw [ht4, ht5]) (by rw [ht4]; omega)) ?_
  rintro _ w7 ⟨rfl, hb7⟩
  refine ⟨_, rfl, ?_⟩
  replace hS := hS.grow hb7
  first
    | refine lst_run (run_pick_t rfl (by conv => lhs; whnf)) rfl ?_
    | refine lst_run (run_pick_f rfl (by conv => lhs; whnf)) rfl ?_
  refine lst_run (run_move (by conv => lhs; whnf)) rfl ?_
  refine lst_guard rfl rfl ?_
  refine lst_run (run_move (by conv => lhs; whnf)) rfl ?_
  refine lst_guard rfl rfl ?_
  first
    | refine lst_run (run_eql_one_int rfl rfl) rfl ?_
    | refine lst_run (run_eql_no rfl rfl (by first | assumption | omega)) rfl ?_
    | refine lst_run (run_eql_yes rfl rfl (by omega)) rfl ?_
    | refine lst_run (rfl) rfl ?_
  first
    | refine lst_run (run_pick_t rfl (by conv => lhs; whnf)) rfl ?_
    | refine lst_run (run_pick_f rfl (by conv => lhs; whnf)) rfl ?_
  refine lst_run (run_move (by conv => lhs; whnf)) rfl ?_
  refine lst_guard rfl rfl ?_
  first
    | refine lst_run (run_loadN_own (k := 2) hS rfl rfl rfl (by first | exact .head | exact .tail .head | exact .tail (.tail .head) | exact .tail (.tail (.tail .head)) | exact .tail (.tail (.tail (.tail .head))) | exact .tail (.tail (.tail (.tail (.tail .head))))) (by repeat constructor)) rfl ?_
    | refine lst_run (run_load2 rfl rfl rfl (by first | assumption | exact hS.cell0 (by assumption)) (by first | assumption | exact hS.cell0 (by assumption))) rfl ?_
  refine lst_guard rfl rfl ?_
  first
    | refine lst_run (run_loadN_own (k := 2) hS rfl rfl rfl (by first | exact .head | exact .tail .head | exact .tail (.tail .head) | exact .tail (.tail (.tail .head)) | exact .tail (.tail (.tail (.tail .head))) | exact .tail (.tail (.tail (.tail (.tail .head))))) (by repeat constructor)) rfl ?_
    | refine lst_run (run_load2 rfl rfl rfl (by first | assumption | exact hS.cell0 (by assumption)) (by first | assumption | exact hS.cell0 (by assumption))) rfl ?_
  refine lst_guard rfl rfl ?_
  refine lst_enter (run_call (by kernel_rfl) (args_2 (by conv => lhs; whnf) (by conv => lhs; whnf))) rfl ?_
  refine Calls.mono (sameHeapK_eq h A6 B6 A B c6 d6 c d _ (hS.und hH6) (hS.und (hH1.mono fun φ h => hF6 φ (hF5 φ (hF4 φ h)))) hl1 hl2) ?_
  rintro _ w8 ⟨rfl, hb8⟩
  refine ⟨_, rfl, ?_⟩
  replace hS := hS.grow hb8
  first
    | refine lst_run (run_pick_t rfl (by conv => lhs; whnf)) rfl ?_
    | refine lst_run (run_pick_f rfl (by conv => lhs; whnf)) rfl ?_
  refine lst_run (run_move (by conv => lhs; whnf)) rfl ?_
  refine lst_guard rfl rfl ?_
  first
    | refine lst_run (run_loadN_own (k := 2) hS rfl rfl rfl (by first | exact .head | exact .tail .head | exact .tail (.tail .head) | exact .tail (.tail (.tail .head)) | exact .tail (.tail (.tail (.tail .head))) | exact .tail (.tail (.tail (.tail (.tail .head))))) (by repeat constructor)) rfl ?_
    | refine lst_run (run_load2 rfl rfl rfl (by first | assumption | exact hS.cell0 (by assumption)) (by first | assumption | exact hS.cell0 (by assumption))) rfl ?_
  refine lst_guard rfl rfl ?_
  have hgd := fun w hS => good_any u A2 B2 c2 d2 w hS
  rw [hgu] at hgd
  refine lst_enter (run_call (by kernel_rfl) (args_1 (by conv => lhs; whnf))) rfl ?_
  refine Calls.mono (hgd _ (hS.und (hH25.mono hF6))) ?_
  rintro _ w9 ⟨rfl, hb9⟩
  refine ⟨_, rfl, ?_⟩
  replace hS := hS.grow hb9
  first
    | refine lst_run (run_pick_t rfl (by conv => lhs; whnf)) rfl ?_
    | refine lst_run (run_pick_f rfl (by conv => lhs; whnf)) rfl ?_
  refine lst_run (run_assign (by conv => lhs; whnf)) rfl ?_
  refine lst_done ?_
  refine goes_ret1 Try.func7 rfl (by conv => lhs; whnf) ?_
  exact ⟨rfl, hS.ext.below⟩
end Go.Proofs.Ytjicoifjgokoiab
namespace Go.Proofs.Ytjicoifjgokoiab
open Go.RowKit Go.ChangeShapes Go.WideShapes Go.ChangeAt
set_option maxRecDepth 100000

theorem Try.laidOut : laidOutB Try.prog = true := by kernel_rfl
theorem Try.own : ownKnob Try.prog.godebug = none := by kernel_rfl
theorem cells_term : Try.prog.cellsOf 39 = 4 := by kernel_rfl
theorem cells_int : Try.prog.cellsOf 3 = 1 := by kernel_rfl
theorem cells_string : Try.prog.cellsOf 9 = 1 := by kernel_rfl
theorem cells_terms : Try.prog.cellsOf 37 = 1 := by kernel_rfl

section
variable {H : Type} {enc : TypeId × Value → H} {w : World} {base : Nat} {spare : Nat → Bool} {held : Bool}

theorem bulk_pos (d : DataW H) : 1 ≤ Rows.uptoBulk d := by
  cases d with
  | lit l => cases l <;> simp [Rows.uptoBulk]
  | nil => simp [Rows.uptoBulk]
  | ptr d => simp [Rows.uptoBulk]
  | slice elems spare => simp [Rows.uptoBulk]
  | agg parts => simp [Rows.uptoBulk]
  | iface t d => simp [Rows.uptoBulk]
  | map entries => simp [Rows.uptoBulk]
  | held h => simp [Rows.uptoBulk]
theorem bulk_mem {l : List (DataW H)} : ∀ {i : Nat} {d : DataW H}, l[i]? = some d → Rows.uptoBulk d ≤ Rows.uptoBulkAll l := by
  induction l with
  | nil => intro i d h; simp at h
  | cons x r ih =>
    intro i d h
    cases i with
    | zero => simp at h; subst h; simp [Rows.uptoBulkAll]
    | succ i =>
      have := ih (i := i) (d := d) (by simpa using h)
      simp only [Rows.uptoBulkAll]; omega

/-- The cells of one term, read. -/
theorem open_cells {fuel : Nat} {cs : List Value} {x : DataW H × List MemPlace} (h : DataW.trod enc Try.prog w base spare held fuel 39 cs = some x) :
    ∃ (k n : Int) (s : ByteArray) (v : Value) (y : DataW H × List MemPlace) (m : Nat), cs = [.int .i64 k, .int .i64 n, .string s, v] ∧ DataW.trod enc Try.prog w base spare held m 37 [v] = some y ∧
      Rows.uptoBulk y.1 + 1 ≤ Rows.uptoBulk x.1 ∧ (Lit.int .i64 k).wf = true ∧ (Lit.int .i64 n).wf = true ∧ s.size ≤ maxLen ∧ s.size + Rows.uptoBulk y.1 + 3 ≤ Rows.uptoBulk x.1 := by
  obtain ⟨xs, m, _, hx, hlen, hxl, hf⟩ := DataW.trod_struct Try.underlying39 h
  rw [cells_term] at hlen
  have f0 : DataW.trod enc Try.prog w base spare held m 3 ((cs.drop 0).take (Try.prog.cellsOf 3)) = xs[0]? := hf 0 _ rfl
  have f1 : DataW.trod enc Try.prog w base spare held m 3 ((cs.drop 1).take (Try.prog.cellsOf 3)) = xs[1]? := hf 1 _ rfl
  have f2 : DataW.trod enc Try.prog w base spare held m 9 ((cs.drop 2).take (Try.prog.cellsOf 9)) = xs[2]? := hf 2 _ rfl
  have f3 : DataW.trod enc Try.prog w base spare held m 37 ((cs.drop 3).take (Try.prog.cellsOf 37)) = xs[3]? := hf 3 _ rfl
  rw [cells_int] at f0 f1
  rw [cells_string] at f2
  rw [cells_terms] at f3
  match cs, hlen, xs, hxl, hx with
  | [c0, c1, c2, c3], _, [y0, y1, y2, y3], _, hx =>
    simp only [List.drop_zero, List.drop_succ_cons, List.take_succ_cons, List.take_zero, List.getElem?_cons_zero, List.getElem?_cons_succ] at f0 f1 f2 f3
    obtain ⟨k, e0, r0, w0⟩ := DataW.trod_int Try.underlying3 f0
    obtain ⟨n, e1, r1, w1⟩ := DataW.trod_int Try.underlying3 f1
    obtain ⟨s, e2, r2, w2⟩ := DataW.trod_string Try.underlying9 f2
    simp only [List.cons.injEq, and_true] at e0 e1 e2
    subst e0 e1 e2 hx r0 r1 r2
    have h3 := bulk_pos y3.1
    have hsz : s.data.toList.length = s.size := by rw [Array.length_toList]; rfl
    refine ⟨k, n, s, c3, y3, m, rfl, f3, ?_, w0, w1, w2, ?_⟩
    · simp only [List.map_cons, List.map_nil, Rows.uptoBulk, Rows.uptoBulkAll]; omega
    · simp only [List.map_cons, List.map_nil, Rows.uptoBulk, Rows.uptoBulkAll]; omega

theorem addr_add {a : Addr} {i : Nat} {u : Value} (h : w.cell? (a.add i) = some u) (ha : a.spot = none) : w.cell? ⟨a.block, a.off + i, none⟩ = some u := by
  unfold Addr.add at h
  split at h
  · rename_i e
    subst e
    obtain ⟨b, o, sp⟩ := a
    simp only at ha
    subst ha
    simpa using h
  · exact h

/-- A slice of terms, read: it is a list of terms, of no more nodes than what was read holds. -/
theorem open_terms : ∀ (b fuel : Nat) (v : Value) (x : DataW H × List MemPlace), Rows.uptoBulk x.1 ≤ b → DataW.trod enc Try.prog w base spare held fuel 37 [v] = some x →
    ∃ T : Ts, Sl w (fun _ => True) v T ∧ T.nodes < Rows.uptoBulk x.1 := by
  intro b
  induction b with
  | zero => intro fuel v x hb _; have := bulk_pos x.1; omega
  | succ b ih =>
    intro fuel v x hb h
    rcases Deep.open_slice Try.underlying37 h with ⟨e, rfl⟩ | ⟨a, len, cap, m, n, D, Pl, e, _, hl, _, hm, rfl, hi⟩
    · simp only [List.cons.injEq, and_true] at e
      subst e
      exact ⟨.nil, Sl.nil _ _, by simp [Rows.uptoBulk, Ts.nodes]⟩
    · simp only [List.cons.injEq, and_true] at e
      subst e
      rw [cells_term] at hi
      have hml : len ≤ m := by rw [hm]; split <;> omega
      have hbulk : ∀ j, j < len → Rows.uptoBulk (D j) ≤ Rows.uptoBulkAll ((List.range len).map D) := fun j hj => bulk_mem (i := j) (by simp [hj])
      simp only [Rows.uptoBulk] at hb ⊢
      have hspot : 0 < len → a.spot = none := fun hp => by
        obtain ⟨cs, hc, ht⟩ := hi 0 (by omega)
        obtain ⟨k, n', s, v', y, m', rfl, _⟩ := open_cells ht
        obtain ⟨_, _, hat⟩ := World.cells?_some hc
        have h0 := hat 0 (by omega)
        simp only [Nat.zero_mul, Addr.add, if_true, List.getElem?_cons_zero] at h0
        unfold World.cell? at h0
        split at h0
        · split at h0
          · cases h0
          · rename_i hs; simpa using hs
        · cases h0
      have key : ∀ r j, j + r = len → ∃ T : Ts, T.length = r ∧ Seg w (fun _ => True) T a.block (a.off + j * 4) ∧ T.nodes ≤ Rows.uptoBulkAll ((List.range' j r).map D) := by
        intro r
        induction r with
        | zero => intro j _; exact ⟨.nil, rfl, trivial, Nat.zero_le _⟩
        | succ r ihr =>
          intro j hj
          obtain ⟨T, hT1, hT2, hT3⟩ := ihr (j + 1) (by omega)
          obtain ⟨cs, hc, ht⟩ := hi j (by omega)
          obtain ⟨k, n', s, v', y, m', rfl, hy, hyb, _⟩ := open_cells ht
          obtain ⟨_, _, hat⟩ := World.cells?_some hc
          have hbj := hbulk j (by omega)
          simp only at hyb
          obtain ⟨U, hU1, hU2⟩ := ih m' v' y (by omega) hy
          have hsp := hspot (by omega)
          have hcell : ∀ q u, q < 4 → [Value.int .i64 k, .int .i64 n', .string s, v'][q]? = some u → w.cell? ⟨a.block, a.off + j * 4 + q, none⟩ = some u := fun q u hq hu => by
            have h1 := (hat q hq).trans hu
            rw [Deep.add_add] at h1
            have h2 := addr_add h1 hsp
            rwa [← Nat.add_assoc] at h2
          refine ⟨.cons k n' s U T, by simp [Ts.length, hT1], ?_, ?_⟩
          · refine seg_cons.2 ⟨trivial, by simpa using hcell 0 _ (by omega) rfl, hcell 1 _ (by omega) rfl, hcell 2 _ (by omega) rfl, ⟨v', hcell 3 _ (by omega) rfl, hU1⟩, ?_⟩
            rw [show a.off + j * 4 + 4 = a.off + (j + 1) * 4 by omega]
            exact hT2
          · simp only [List.range'_succ, List.map_cons, Rows.uptoBulkAll, Ts.nodes]
            omega
      obtain ⟨T, h1, h2, h3⟩ := key len 0 (by omega)
      refine ⟨T, ⟨some a, cap, by rw [h1], by omega, fun hp => ⟨a.block, a.off, ?_, by simpa using h2⟩⟩, ?_⟩
      · have := hspot (by omega)
        obtain ⟨b', o', sp⟩ := a
        simp only at this
        rw [this]
      · rw [← List.range_eq_range'] at h3
        omega
end

/-- One term as an argument. -/
theorem open_term {H : Type} {enc : TypeId × Value → H} {W : World} {base0 : Nat} {v : Value} {d : DataW H} {p : List MemPlace} (hv : Value.okWide Try.prog W .any base0 39 v) (h : DataW.Trod enc Try.prog W 0 (fun _ => true) true 39 v d p) :
    ∃ (k n : Int) (s : ByteArray) (u : Value) (T : Ts), v = .agg #[.int .i64 k, .int .i64 n, .string s, u] ∧ Sl W (fun _ => True) u T ∧ T.nodes + 1 < Rows.uptoBulk d ∧ (Lit.int .i64 k).wf = true ∧ (Lit.int .i64 n).wf = true ∧ s.size ≤ maxLen := by
  obtain ⟨cs, rfl, hsz⟩ := okWide_struct Try.underlying39 hv
  obtain ⟨fuel, hf⟩ := h
  obtain ⟨k, n, s, u, y, m, e, hy, hb, w0, w1, w2, _⟩ := open_cells hf
  obtain ⟨T, h1, h2⟩ := open_terms _ m u y (Nat.le_refl _) hy
  refine ⟨k, n, s, u, T, ?_, h1, by simp only at hb; omega, w0, w1, w2⟩
  have e' : cs.toList = [.int .i64 k, .int .i64 n, .string s, u] := e
  rw [← e']
/-- A slice of terms as an argument. -/
theorem open_termsArg {H : Type} {enc : TypeId × Value → H} {W : World} {v : Value} {d : DataW H} {p : List MemPlace} (hv : v.cells.toList = [v]) (h : DataW.Trod enc Try.prog W 0 (fun _ => true) true 37 v d p) :
    ∃ T : Ts, Sl W (fun _ => True) v T ∧ T.nodes < Rows.uptoBulk d := by
  obtain ⟨fuel, hf⟩ := h
  rw [hv] at hf
  exact open_terms _ fuel v _ (Nat.le_refl _) hf

theorem trodAll_below {H : Type} {enc : TypeId × Value → H} {P : Program} (hl : laidOutB P = true) {W W' : World} (hb : Below W.heap.size W W') : ∀ {ts : List TypeId} {vs : List Value} {ds : List (DataW H)} {ps : List MemPlace}, (∀ t ∈ ts, P.readableRec t = true ∧ t < P.types.size) →
    DataW.TrodAll enc P W 0 (fun _ => true) true ts vs ds ps → (∀ x ∈ ps, x.block < W.heap.size) → DataW.TrodAll enc P W' 0 (fun b => decide (b < W.heap.size)) true ts vs ds ps
  | [], [], [], _, _, h, _ => h
  | [], [], _ :: _, _, _, h, _ => h.elim
  | [], _ :: _, _, _, _, h, _ => h.elim
  | _ :: _, [], _, _, _, h, _ => h.elim
  | _ :: _, _ :: _, [], _, _, h, _ => h.elim
  | t :: ts, v :: vs, d :: ds, ps, ht, ⟨p, q, h1, h2, e⟩, hlt => by
    subst e
    obtain ⟨a, b⟩ := ht t (List.mem_cons_self ..)
    exact ⟨p, q, Below.trod hl a b h1 hb fun x hx => hlt x (List.mem_append_left _ hx), trodAll_below hl hb (fun t ht' => ht t (List.mem_cons_of_mem _ ht')) h2 fun x hx => hlt x (List.mem_append_right _ hx), rfl⟩

/-- Behind a law's walk: it answered true, and of what was there nothing has turned. -/
theorem law_post {H : Type} {enc : TypeId × Value → H} {P : Program} {f : Func} {s : ChangeSpec} {W W' : World} {args : Array Value} {ds gs : List (DataW H)} {before : List MemPlace} (hl : laidOutB P = true) {bt : TypeId}
    (hres : f.resultTypes = #[bt]) (hbt : P.underlying bt = some .bool) (ht : (f.params.toList.all fun t => P.readableRec t && decide (t < P.types.size)) = true) (hvars : s.vars = [])
    (hfn : (s.fn H (ds ++ gs)).results = [.lit (.bool true)] ∧ (s.fn H (ds ++ gs)).args = ds ∧ (s.fn H (ds ++ gs)).vars = [])
    (hW : DataW.Whole enc P f.params.toList s.vars false W args.toList ds gs before) (hb : Below W.heap.size W W') :
    s.post enc P f false true false false W args (.bool true) W' := by
  have hlt := hW.lt
  have hW' := hW
  obtain ⟨p, q, hA, hV, rfl, hfz, hnd⟩ := hW
  refine ⟨ds, gs, p ++ q, [], p, [], hW', ?_, ?_, ?_, ?_, fun h => by cases h⟩
  · rw [hfn.1, hres]
    exact trodAll_cons_mk (shut_bool hbt _) trodAll_mk0
  · rw [hfn.2.1]
    exact trodAll_below hl hb (fun t h => by have := List.all_eq_true.1 ht t h; simpa using this) hA fun x hx => hlt x (List.mem_append_left _ hx)
  · rw [hfn.2.2, hvars]
    rfl
  · exact hb.frame _
end Go.Proofs.Ytjicoifjgokoiab
namespace Go.Proofs.Ytjicoifjgokoiab
open Go.RowKit Go.ChangeShapes Go.WideShapes Go.ChangeAt
set_option maxRecDepth 100000
set_option linter.unusedVariables false

theorem cells_cell : Try.prog.cellsOf 59 = 3 := by kernel_rfl
theorem cells_ccells : Try.prog.cellsOf 22 = 1 := by kernel_rfl
theorem cells_ints : Try.prog.cellsOf 23 = 1 := by kernel_rfl
theorem cells_heap : Try.prog.cellsOf 25 = 2 := by kernel_rfl

section
variable {H : Type} {enc : TypeId × Value → H} {w : World} {base : Nat} {spare : Nat → Bool} {held : Bool}
/-- A slice of elements that are read alike. -/
theorem open_flat {α : Type} (f : α → List Value) {sz st el : Nat} (hf : ∀ x, (f x).length = sz) (h0 : 0 < sz) (hst : Try.prog.underlying st = some (.slice el)) (hsz : Try.prog.cellsOf el = sz)
    (hel : ∀ (m : Nat) (cs : List Value) (x : DataW H × List MemPlace), DataW.trod enc Try.prog w base spare held m el cs = some x → ∃ a, cs = f a)
    {fuel : Nat} {v : Value} {x : DataW H × List MemPlace} (h : DataW.trod enc Try.prog w base spare held fuel st [v] = some x) :
    ∃ (L : List α) (A : Option Addr) (c : Nat), v = .slice A L.length c ∧ Flat sz (L.flatMap f) A L.length c w ∧ L.length ≤ 9223372036854775807 ∧ L.length < Rows.uptoBulk x.1 := by
  rcases Deep.open_slice hst h with ⟨e, rfl⟩ | ⟨a, len, cap, m, n, D, Pl, e, _, hl, hcm, hm, rfl, hi⟩
  · simp only [List.cons.injEq, and_true] at e
    subst e
    exact ⟨[], none, 0, rfl, Flat.nil_ _ _ _, by simp, by simp [Rows.uptoBulk]⟩
  · simp only [List.cons.injEq, and_true] at e
    subst e
    rw [hsz] at hi
    have hml : len ≤ m := by rw [hm]; split <;> omega
    have hspot : 0 < len → a.spot = none := fun hp => by
      obtain ⟨cs, hc, ht⟩ := hi 0 (by omega)
      obtain ⟨y, rfl⟩ := hel _ _ _ ht
      obtain ⟨_, _, hat⟩ := World.cells?_some hc
      have h1 := hat 0 (by omega)
      simp only [Nat.zero_mul, Addr.add, if_true] at h1
      rw [List.getElem?_eq_getElem (by rw [hf]; exact h0)] at h1
      unfold World.cell? at h1
      split at h1
      · split at h1
        · cases h1
        · rename_i hs; simpa using hs
      · cases h1
    have key : ∀ r j, j + r = len → ∃ L : List α, L.length = r ∧ (∀ q u, (L.flatMap f)[q]? = some u → w.cell? ⟨a.block, a.off + j * sz + q, none⟩ = some u) ∧ (L.flatMap f).length = r * sz ∧ r ≤ Rows.uptoBulkAll ((List.range' j r).map D) := by
      intro r
      induction r with
      | zero => intro j _; exact ⟨[], rfl, fun q u hq => by simp at hq, by simp, Nat.zero_le _⟩
      | succ r ihr =>
        intro j hj
        obtain ⟨L, hT1, hT2, hT3, hT4⟩ := ihr (j + 1) (by omega)
        obtain ⟨cs, hc, ht⟩ := hi j (by omega)
        obtain ⟨y, rfl⟩ := hel _ _ _ ht
        obtain ⟨_, _, hat⟩ := World.cells?_some hc
        have hsp := hspot (by omega)
        refine ⟨y :: L, by simp [hT1], fun q u hq => ?_, ?_, ?_⟩
        · rw [List.flatMap_cons] at hq
          by_cases hql : q < sz
          · rw [List.getElem?_append_left (by rw [hf]; exact hql)] at hq
            have h1 := (hat q hql).trans hq
            rw [Deep.add_add] at h1
            have h2 := addr_add h1 hsp
            rwa [← Nat.add_assoc] at h2
          · rw [List.getElem?_append_right (by rw [hf]; omega), hf] at hq
            have := hT2 _ _ hq
            rw [Nat.add_mul] at this
            rw [show a.off + j * sz + q = a.off + (j * sz + 1 * sz) + (q - sz) by omega]
            exact this
        · rw [List.flatMap_cons, List.length_append, hT3, hf, Nat.add_mul]; omega
        · simp only [List.range'_succ, List.map_cons, Rows.uptoBulkAll]
          have := bulk_pos (D j)
          omega
    obtain ⟨L, h1, h2, h3, h4⟩ := key len 0 (by omega)
    rw [← List.range_eq_range'] at h4
    refine ⟨L, some a, cap, by rw [h1], ⟨by rw [h3, h1], by omega, fun hp => ⟨a.block, a.off, ?_, by simpa using h2⟩⟩, by rw [h1]; have : maxLen = 9223372036854775807 := rfl; omega, ?_⟩
    · have := hspot (by omega)
      obtain ⟨b', o', sp⟩ := a
      simp only at this
      rw [this]
    · rw [h1]; simp only [Rows.uptoBulk]; omega
theorem open_intC {m : Nat} {cs : List Value} {x : DataW H × List MemPlace} (h : DataW.trod enc Try.prog w base spare held m 3 cs = some x) : ∃ a : Int, cs = [.int .i64 a] := by
  obtain ⟨k, e0, _, _⟩ := DataW.trod_int Try.underlying3 h
  exact ⟨k, e0⟩
theorem open_cellC {m : Nat} {cs : List Value} {x : DataW H × List MemPlace} (h : DataW.trod enc Try.prog w base spare held m 59 cs = some x) : ∃ c : HC, cs = hcs c := by
  obtain ⟨xs, m, _, hx, hlen, hxl, hf⟩ := DataW.trod_struct Try.underlying59 h
  rw [cells_cell] at hlen
  have f0 : DataW.trod enc Try.prog w base spare held m 3 ((cs.drop 0).take (Try.prog.cellsOf 3)) = xs[0]? := hf 0 _ rfl
  have f1 : DataW.trod enc Try.prog w base spare held m 3 ((cs.drop 1).take (Try.prog.cellsOf 3)) = xs[1]? := hf 1 _ rfl
  have f2 : DataW.trod enc Try.prog w base spare held m 9 ((cs.drop 2).take (Try.prog.cellsOf 9)) = xs[2]? := hf 2 _ rfl
  rw [cells_int] at f0 f1
  rw [cells_string] at f2
  match cs, hlen, xs, hxl, hx with
  | [c0, c1, c2], _, [y0, y1, y2], _, hx =>
    simp only [List.drop_zero, List.drop_succ_cons, List.take_succ_cons, List.take_zero, List.getElem?_cons_zero, List.getElem?_cons_succ] at f0 f1 f2
    obtain ⟨k, e0, r0, w0⟩ := DataW.trod_int Try.underlying3 f0
    obtain ⟨n, e1, r1, w1⟩ := DataW.trod_int Try.underlying3 f1
    obtain ⟨s, e2, r2, w2⟩ := DataW.trod_string Try.underlying9 f2
    simp only [List.cons.injEq, and_true] at e0 e1 e2
    subst e0 e1 e2
    exact ⟨⟨k, n, s⟩, rfl⟩
theorem hcsL_flat (L : List HC) : L.flatMap hcs = hcsL L := by
  induction L with
  | nil => rfl
  | cons c r ih => rw [List.flatMap_cons, ih]; rfl
theorem intsV_flat (L : List Int) : (L.flatMap fun x => [Value.int .i64 x]) = intsV L := by
  induction L with
  | nil => rfl
  | cons c r ih => rw [List.flatMap_cons, ih]; rfl
theorem open_intsT {fuel : Nat} {v : Value} {x : DataW H × List MemPlace} (h : DataW.trod enc Try.prog w base spare held fuel 23 [v] = some x) :
    ∃ (L : List Int) (A : Option Addr) (c : Nat), v = .slice A L.length c ∧ Flat 1 (intsV L) A L.length c w ∧ L.length ≤ 9223372036854775807 ∧ L.length < Rows.uptoBulk x.1 := by
  have := open_flat (α := Int) (fun x => [Value.int .i64 x]) (sz := 1) (fun _ => rfl) (by omega) Try.underlying23 cells_int (fun m cs x h => open_intC h) h
  simpa only [intsV_flat] using this
theorem open_cellsT {fuel : Nat} {v : Value} {x : DataW H × List MemPlace} (h : DataW.trod enc Try.prog w base spare held fuel 22 [v] = some x) :
    ∃ (L : List HC) (A : Option Addr) (c : Nat), v = .slice A L.length c ∧ Flat 3 (hcsL L) A L.length c w ∧ L.length ≤ 9223372036854775807 ∧ L.length < Rows.uptoBulk x.1 := by
  have := open_flat (α := HC) hcs (sz := 3) (fun _ => rfl) (by omega) Try.underlying22 cells_cell (fun m cs x h => open_cellC h) h
  simpa only [hcsL_flat] using this
end
/-- A list of numbers, as an argument. -/
theorem open_intsArg {H : Type} {enc : TypeId × Value → H} {W : World} {v : Value} {d : DataW H} {p : List MemPlace} (hv : v.cells.toList = [v]) (h : DataW.Trod enc Try.prog W 0 (fun _ => true) true 23 v d p) :
    ∃ (L : List Int) (A : Option Addr) (c : Nat), v = .slice A L.length c ∧ Flat 1 (intsV L) A L.length c W ∧ L.length ≤ 9223372036854775807 ∧ L.length < Rows.uptoBulk d := by
  obtain ⟨fuel, hf⟩ := h
  rw [hv] at hf
  exact open_intsT hf
/-- A list of cells, as an argument. -/
theorem open_cellsArg {H : Type} {enc : TypeId × Value → H} {W : World} {v : Value} {d : DataW H} {p : List MemPlace} (hv : v.cells.toList = [v]) (h : DataW.Trod enc Try.prog W 0 (fun _ => true) true 22 v d p) :
    ∃ (L : List HC) (A : Option Addr) (c : Nat), v = .slice A L.length c ∧ Flat 3 (hcsL L) A L.length c W ∧ L.length ≤ 9223372036854775807 ∧ L.length < Rows.uptoBulk d := by
  obtain ⟨fuel, hf⟩ := h
  rw [hv] at hf
  exact open_cellsT hf
/-- A heap, as an argument. -/
theorem open_heapArg {H : Type} {enc : TypeId × Value → H} {W : World} {b : Nat} {v : Value} {d : DataW H} {p : List MemPlace} (hok : Value.okWide Try.prog W .any b 25 v) (h : DataW.Trod enc Try.prog W 0 (fun _ => true) true 25 v d p) :
    ∃ (h : HH) (A : Option Addr) (c : Nat) (B : Option Addr) (e : Nat), v = hv h A c B e ∧ HFl h A c B e W ∧ h.cs.length ≤ 9223372036854775807 ∧ h.tr.length ≤ 9223372036854775807 ∧ h.cs.length + h.tr.length < Rows.uptoBulk d := by
  obtain ⟨fuel, h⟩ := h
  obtain ⟨cs, rfl, hsz⟩ := okWide_struct Try.underlying25 hok
  obtain ⟨xs, m, _, hx, hlen, hxl, hf⟩ := DataW.trod_struct Try.underlying25 h
  rw [cells_heap] at hlen
  obtain ⟨cs⟩ := cs
  replace hf : ∀ i fd, _ → _ := hf
  have f0 : DataW.trod enc Try.prog W 0 (fun _ => true) true m 22 ((cs.drop 0).take (Try.prog.cellsOf 22)) = xs[0]? := hf 0 _ rfl
  have f1 : DataW.trod enc Try.prog W 0 (fun _ => true) true m 23 ((cs.drop 1).take (Try.prog.cellsOf 23)) = xs[1]? := hf 1 _ rfl
  rw [cells_ccells] at f0
  rw [cells_ints] at f1
  replace hlen : cs.length = 2 := hlen
  match cs, hlen, xs, hxl, hx with
  | [c0, c1], _, [y0, y1], _, hx =>
    simp only [List.drop_zero, List.drop_succ_cons, List.take_succ_cons, List.take_zero, List.getElem?_cons_zero, List.getElem?_cons_succ] at f0 f1
    obtain ⟨L, A, c, rfl, hL, hl, hlb⟩ := open_cellsT f0
    obtain ⟨T, B, e, rfl, hT, ht, htb⟩ := open_intsT f1
    have hd := congrArg (fun q => Rows.uptoBulk q.1) hx
    simp only [List.map_cons, List.map_nil, Rows.uptoBulk, Rows.uptoBulkAll] at hd
    exact ⟨⟨L, T⟩, A, c, B, e, rfl, ⟨hL, hT⟩, hl, ht, by show L.length + T.length < _; omega⟩
end Go.Proofs.Ytjicoifjgokoiab
