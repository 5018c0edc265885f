/- LSmall, Alike, SameK, HWay, HOne, HUndo, HTerm: texts that follow one another, laid into one file. -/
import Derived.Test.YtjicoifjgokoiabG6
import Derived.Test.YtjicoifjgokoiabG7
import Derived.Test.YtjicoifjgokoiabG1
import Derived.Test.YtjicoifjgokoiabRows
import Derived.Deep.LoopGhost
import Derived.StillTailTactics
namespace Go.Proofs.Ytjicoifjgokoiab
open Go.RowKit
set_option linter.unusedVariables false
set_option linter.unusedSimpArgs false
set_option maxRecDepth 100000
set_option maxHeartbeats 1000000

theorem collect_ok {M : List Nat} {w0 : World} {H : List (Nat × Obj)} {F : List (World → Prop)} (h : HH) (R T K : List Int) (x : HH) (at_ top mk : List Int) (er : Int) (hr : collectH h R T K = (x, at_, top, mk, er)) (A B RA TA KA : Option Addr) (c d rc tc kc : Nat) (w : World) (hH : Und F (HFl h A c B d)) (hR : Und F (Flat 1 (intsV R) RA R.length rc)) (hT : Und F (Flat 1 (intsV T) TA T.length tc)) (hK : Und F (Flat 1 (intsV K) KA K.length kc)) (hRl : R.length ≤ 1048576) (hTl : T.length ≤ 1048576) (hKl : K.length ≤ 1048576) (hS : St M w0 H F w) :
    Calls Try.prog 27 #[hv h A c B d, .slice RA R.length rc, .slice TA T.length tc, .slice KA K.length kc] w fun e w' => ∃ (A' : Option Addr) (c' : Nat) (B' : Option Addr) (d' : Nat) (a1 a2 a3 : Option Addr) (c1 c2 c3 : Nat) (F' : List (World → Prop)),
    e = .returned (.tuple #[hv x A' c' B' d', .slice a1 at_.length c1, .slice a2 top.length c2, .slice a3 mk.length c3, .int .i64 er]) ∧ (∀ φ ∈ F, φ ∈ F') ∧ Und F' (HFl x A' c' B' d') ∧ Und F' (Flat 1 (intsV at_) a1 at_.length c1) ∧ Und F' (Flat 1 (intsV top) a2 top.length c2) ∧ Und F' (Flat 1 (intsV mk) a3 mk.length c3) ∧ St M w0 H F' w' := by
  have := collect_any h R T K A B RA TA KA c d rc tc kc w hH hR hT hK hRl hTl hKl hS
  rw [hr] at this; exact this
theorem heapSmall_any (h : HH) (R T : List Int) (A B RA TA : Option Addr) (c d rc tc : Nat) (w : World) (hH : HFl h A c B d w) (hR : Flat 1 (intsV R) RA R.length rc w) (hT : Flat 1 (intsV T) TA T.length tc w) (hl1 : h.cs.length ≤ 1048576) (hl2 : h.tr.length ≤ 1048576) (hRl : R.length ≤ 1048576) (hTl : T.length ≤ 1048576) :
    Calls Try.prog 10 #[hv h A c B d, .slice RA R.length rc, .slice TA T.length tc] w fun e w' => e = .returned (.bool true) ∧ Below w.heap.size w w' := by
  have hS := (((St.start w).base (φ := HFl h A c B d) fun w' hx => hH.ext hx).flat (M := []) hR).flat (M := []) hT
  have hHu : Und [Flat 1 (intsV T) TA T.length tc, Flat 1 (intsV R) RA R.length rc, HFl h A c B d] (HFl h A c B d) := Und.head.tail.tail
  have hRu : Und [Flat 1 (intsV T) TA T.length tc, Flat 1 (intsV R) RA R.length rc, HFl h A c B d] (Flat 1 (intsV R) RA R.length rc) := Und.head.tail
  have hTu : Und [Flat 1 (intsV T) TA T.length tc, Flat 1 (intsV R) RA R.length rc, HFl h A c B d] (Flat 1 (intsV T) TA T.length tc) := Und.head
  have hz : ∀ {F : List (World → Prop)}, Und F (Flat 1 (intsV []) none 0 0) := fun w _ => Flat.nil_ _ _ _
  generalize [Flat 1 (intsV T) TA T.length tc, Flat 1 (intsV R) RA R.length rc, HFl h A c B d] = F at *
  refine goes_enter3 Try.func10 rfl Try.ntmps10 rfl ?_
  refine goes_seq ?_
  refine goes_region ?_
  refine lst_box hS rfl rfl ?_
  clear hS
  intro b1 wx1 hS
  refine lst_run (run_assign (by conv => lhs; whnf)) rfl ?_
  refine lst_done ?_
  refine goes_seq ?_
  refine goes_region ?_
  first
    | refine lst_run (run_loadN_own (k := 2) hS rfl rfl rfl (by first | exact .head | exact .tail .head | exact .tail (.tail .head) | exact .tail (.tail (.tail .head)) | exact .tail (.tail (.tail (.tail .head))) | exact .tail (.tail (.tail (.tail (.tail .head))))) (by repeat constructor)) rfl ?_
    | refine lst_run (run_load2 rfl rfl rfl (by first | assumption | exact hS.cell0 (by assumption)) (by first | assumption | exact hS.cell0 (by assumption))) rfl ?_
  refine lst_run (run_move (by conv => lhs; whnf)) rfl ?_
  cases hg : goodH h with
  | false =>
    have e0 : collectH h R T [] = (h, [], [], [], 1) := by unfold collectH; rw [if_pos hg]
    refine lst_enter (run_call (by kernel_rfl) (args_2 (by conv => lhs; whnf) (by conv => lhs; whnf))) rfl ?_
    refine Calls.mono (marks_bad h R A B RA c d rc _ hg hHu hRu (by omega) hS) ?_
    rintro _ w2 ⟨A2, c2, F2, rfl, hF2, hS'⟩
    refine ⟨_, rfl, ?_⟩
    replace hS := hS'
    clear hS'
    refine lst_run (run_move (by conv => lhs; whnf)) rfl ?_
    refine lst_run (run_extract rfl rfl) rfl ?_
    refine lst_run (run_extract rfl rfl) rfl ?_
    refine lst_run (run_assign (by conv => lhs; whnf)) rfl ?_
    refine lst_run (run_assign (by conv => lhs; whnf)) rfl ?_
    refine lst_done ?_
    refine goes_seq ?_
    refine goes_region ?_
    first
      | refine lst_run (run_loadN_own (k := 2) hS rfl rfl rfl (by first | exact .head | exact .tail .head | exact .tail (.tail .head) | exact .tail (.tail (.tail .head)) | exact .tail (.tail (.tail (.tail .head))) | exact .tail (.tail (.tail (.tail (.tail .head))))) (by repeat constructor)) rfl ?_
      | refine lst_run (run_load2 rfl rfl rfl (by first | assumption | exact hS.cell0 (by assumption)) (by first | assumption | exact hS.cell0 (by assumption))) rfl ?_
    refine lst_run (run_move (by conv => lhs; whnf)) rfl ?_
    refine lst_run (run_move (by conv => lhs; whnf)) rfl ?_
    refine lst_enter (run_call (by kernel_rfl) (args_4 (by conv => lhs; whnf) (by conv => lhs; whnf) (by conv => lhs; whnf) (by conv => lhs; whnf))) rfl ?_
    refine Calls.mono (collect_ok h R T [] _ _ _ _ _ e0 A B RA TA none c d rc tc 0 _ (hHu.mono hF2) (hRu.mono hF2) (hTu.mono hF2) hz hRl hTl (by simp) hS) ?_
    rintro _ w3 ⟨A3, c3, B3, d3, a1, a2, a3, c31, c32, c33, F3, rfl, hF3, hH3, hA1, hA2, hA3, hS'⟩
    refine ⟨_, rfl, ?_⟩
    replace hS := hS'
    clear hS'
    refine lst_run (run_move (by conv => lhs; whnf)) rfl ?_
    refine lst_run (run_extract rfl rfl) rfl ?_
    refine lst_run (run_extract rfl rfl) rfl ?_
    refine lst_run (run_extract rfl rfl) rfl ?_
    refine lst_run (run_extract rfl rfl) rfl ?_
    refine lst_run (run_extract rfl rfl) rfl ?_
    refine lst_alloc (cs := [_, _]) hS rfl rfl rfl ?_
    clear hS
    intro b2 wx2 hS
    refine lst_storeN hS rfl (by conv => lhs; whnf) rfl rfl (by first | exact .head | exact .tail .head | exact .tail (.tail .head) | exact .tail (.tail (.tail .head)) | exact .tail (.tail (.tail (.tail .head))) | exact .tail (.tail (.tail (.tail (.tail .head))))) (by repeat constructor) (by first | exact .head | exact .tail .head | exact .tail (.tail .head) | exact .tail (.tail (.tail .head)) | exact .tail (.tail (.tail (.tail .head))) | exact .tail (.tail (.tail (.tail (.tail .head))))) ?_
    clear hS
    intro wx3 hS
    refine lst_run (run_assign (by conv => lhs; whnf)) rfl ?_
    refine lst_run (run_assign (by conv => lhs; whnf)) rfl ?_
    refine lst_run (run_assign (by conv => lhs; whnf)) rfl ?_
    refine lst_run (run_assign (by conv => lhs; whnf)) rfl ?_
    refine lst_done ?_
    refine goes_seq ?_
    refine goes_seq ?_
    refine goes_region ?_
    refine lst_run (run_move (by conv => lhs; whnf)) rfl ?_
    first
      | refine lst_run (run_neq_one_int rfl rfl) rfl ?_
      | refine lst_run (run_neq_no rfl rfl (by first | assumption | omega)) rfl ?_
      | refine lst_run (run_neq_yes rfl rfl (by omega)) rfl ?_
      | refine lst_run (rfl) rfl ?_
    refine lst_run (run_move (by conv => lhs; whnf)) rfl ?_
    refine lst_pass rfl rfl rfl ?_
    refine lst_pass rfl rfl rfl ?_
    first
      | refine lst_run (run_pick_t rfl (by conv => lhs; whnf)) rfl ?_
      | refine lst_run (run_pick_f rfl (by conv => lhs; whnf)) rfl ?_
    refine lst_run (run_move (by conv => lhs; whnf)) rfl ?_
    refine lst_pass rfl rfl rfl ?_
    refine lst_pass rfl rfl rfl ?_
    first
      | refine lst_run (run_pick_t rfl (by conv => lhs; whnf)) rfl ?_
      | refine lst_run (run_pick_f rfl (by conv => lhs; whnf)) rfl ?_
    refine lst_done ?_
    refine goes_true rfl ?_
    refine goes_seq ?_
    refine goes_region ?_
    refine lst_enter (run_call (by kernel_rfl) args_nil) rfl ?_
    refine Calls.mono (heapsK_any _) ?_
    rintro _ w4 ⟨rfl, hb4⟩
    refine ⟨_, rfl, ?_⟩
    replace hS := hS.grow hb4
    refine lst_run (run_assign (by conv => lhs; whnf)) rfl ?_
    refine lst_done ?_
    refine goes_ret1 Try.func10 rfl (by conv => lhs; whnf) ?_
    exact ⟨rfl, hS.ext.below⟩
  | true =>
  have hlg := good_len hg
  have C : Cx h R (marksM h.cs R) := ⟨hg, marksM_of h.cs R⟩
  have hml : (marksM h.cs R).length = h.cs.length := C.mks.1
  cases hra : R.all (isAddr h.cs) with
  | false =>
    have e0 : collectH h R T [] = (h, [], [], [], 4) := by unfold collectH; rw [if_neg (by rw [hg]; decide), if_pos hra]
    refine lst_enter (run_call (by kernel_rfl) (args_2 (by conv => lhs; whnf) (by conv => lhs; whnf))) rfl ?_
    refine Calls.mono (marks_good h R A B RA c d rc _ hg hHu hRu (by omega) hS) ?_
    rintro _ w2 ⟨A2, c2, F2, rfl, hF2, hM2, hS'⟩
    refine ⟨_, rfl, ?_⟩
    replace hS := hS'
    clear hS'
    refine lst_run (run_move (by conv => lhs; whnf)) rfl ?_
    refine lst_run (run_extract rfl rfl) rfl ?_
    refine lst_run (run_extract rfl rfl) rfl ?_
    refine lst_run (run_assign (by conv => lhs; whnf)) rfl ?_
    refine lst_run (run_assign (by conv => lhs; whnf)) rfl ?_
    refine lst_done ?_
    refine goes_seq ?_
    refine goes_region ?_
    first
      | refine lst_run (run_loadN_own (k := 2) hS rfl rfl rfl (by first | exact .head | exact .tail .head | exact .tail (.tail .head) | exact .tail (.tail (.tail .head)) | exact .tail (.tail (.tail (.tail .head))) | exact .tail (.tail (.tail (.tail (.tail .head))))) (by repeat constructor)) rfl ?_
      | refine lst_run (run_load2 rfl rfl rfl (by first | assumption | exact hS.cell0 (by assumption)) (by first | assumption | exact hS.cell0 (by assumption))) rfl ?_
    refine lst_run (run_move (by conv => lhs; whnf)) rfl ?_
    refine lst_run (run_move (by conv => lhs; whnf)) rfl ?_
    refine lst_enter (run_call (by kernel_rfl) (args_4 (by conv => lhs; whnf) (by conv => lhs; whnf) (by conv => lhs; whnf) (by conv => lhs; whnf))) rfl ?_
    refine Calls.mono (collect_ok h R T [] _ _ _ _ _ e0 A B RA TA none c d rc tc 0 _ (hHu.mono hF2) (hRu.mono hF2) (hTu.mono hF2) hz hRl hTl (by simp) hS) ?_
    rintro _ w3 ⟨A3, c3, B3, d3, a1, a2, a3, c31, c32, c33, F3, rfl, hF3, hH3, hA1, hA2, hA3, hS'⟩
    refine ⟨_, rfl, ?_⟩
    replace hS := hS'
    clear hS'
    refine lst_run (run_move (by conv => lhs; whnf)) rfl ?_
    refine lst_run (run_extract rfl rfl) rfl ?_
    refine lst_run (run_extract rfl rfl) rfl ?_
    refine lst_run (run_extract rfl rfl) rfl ?_
    refine lst_run (run_extract rfl rfl) rfl ?_
    refine lst_run (run_extract rfl rfl) rfl ?_
    refine lst_alloc (cs := [_, _]) hS rfl rfl rfl ?_
    clear hS
    intro b2 wx2 hS
    refine lst_storeN hS rfl (by conv => lhs; whnf) rfl rfl (by first | exact .head | exact .tail .head | exact .tail (.tail .head) | exact .tail (.tail (.tail .head)) | exact .tail (.tail (.tail (.tail .head))) | exact .tail (.tail (.tail (.tail (.tail .head))))) (by repeat constructor) (by first | exact .head | exact .tail .head | exact .tail (.tail .head) | exact .tail (.tail (.tail .head)) | exact .tail (.tail (.tail (.tail .head))) | exact .tail (.tail (.tail (.tail (.tail .head))))) ?_
    clear hS
    intro wx3 hS
    refine lst_run (run_assign (by conv => lhs; whnf)) rfl ?_
    refine lst_run (run_assign (by conv => lhs; whnf)) rfl ?_
    refine lst_run (run_assign (by conv => lhs; whnf)) rfl ?_
    refine lst_run (run_assign (by conv => lhs; whnf)) rfl ?_
    refine lst_done ?_
    refine goes_seq ?_
    refine goes_seq ?_
    refine goes_region ?_
    refine lst_run (run_move (by conv => lhs; whnf)) rfl ?_
    first
      | refine lst_run (run_neq_one_int rfl rfl) rfl ?_
      | refine lst_run (run_neq_no rfl rfl (by first | assumption | omega)) rfl ?_
      | refine lst_run (run_neq_yes rfl rfl (by omega)) rfl ?_
      | refine lst_run (rfl) rfl ?_
    refine lst_run (run_move (by conv => lhs; whnf)) rfl ?_
    refine lst_guard rfl rfl ?_
    refine lst_run (run_move (by conv => lhs; whnf)) rfl ?_
    refine lst_guard rfl rfl ?_
    first
      | refine lst_run (run_neq_one_int rfl rfl) rfl ?_
      | refine lst_run (run_neq_no rfl rfl (by first | assumption | omega)) rfl ?_
      | refine lst_run (run_neq_yes rfl rfl (by omega)) rfl ?_
      | refine lst_run (rfl) rfl ?_
    first
      | refine lst_run (run_pick_t rfl (by conv => lhs; whnf)) rfl ?_
      | refine lst_run (run_pick_f rfl (by conv => lhs; whnf)) rfl ?_
    refine lst_run (run_move (by conv => lhs; whnf)) rfl ?_
    refine lst_pass rfl rfl rfl ?_
    refine lst_pass rfl rfl rfl ?_
    first
      | refine lst_run (run_pick_t rfl (by conv => lhs; whnf)) rfl ?_
      | refine lst_run (run_pick_f rfl (by conv => lhs; whnf)) rfl ?_
    refine lst_done ?_
    refine goes_true rfl ?_
    refine goes_seq ?_
    refine goes_region ?_
    refine lst_enter (run_call (by kernel_rfl) args_nil) rfl ?_
    refine Calls.mono (heapsK_any _) ?_
    rintro _ w4 ⟨rfl, hb4⟩
    refine ⟨_, rfl, ?_⟩
    replace hS := hS.grow hb4
    refine lst_run (run_assign (by conv => lhs; whnf)) rfl ?_
    refine lst_done ?_
    refine goes_ret1 Try.func10 rfl (by conv => lhs; whnf) ?_
    exact ⟨rfl, hS.ext.below⟩
  | true =>
  have e0 : collectH h R T [] = (⟨collL (marksM h.cs R) h.cs, collT (marksM h.cs R) h.tr⟩, R.map (rkI (marksM h.cs R)), T.map (rkI (marksM h.cs R)), [], 0) := by
    unfold collectH; rw [if_neg (by rw [hg]; decide), if_neg (by rw [hra]; decide)]; rfl
  have hag := C.again (fun r hr => List.all_eq_true.1 hra r hr)
  have hxl := good_len C.kept_good
  have hcl := C.len
  refine lst_enter (run_call (by kernel_rfl) (args_2 (by conv => lhs; whnf) (by conv => lhs; whnf))) rfl ?_
  refine Calls.mono (marks_good h R A B RA c d rc _ hg hHu hRu (by omega) hS) ?_
  rintro _ w2 ⟨A2, c2, F2, rfl, hF2, hM2, hS'⟩
  refine ⟨_, rfl, ?_⟩
  replace hS := hS'
  clear hS'
  refine lst_run (run_move (by conv => lhs; whnf)) rfl ?_
  refine lst_run (run_extract rfl rfl) rfl ?_
  refine lst_run (run_extract rfl rfl) rfl ?_
  refine lst_run (run_assign (by conv => lhs; whnf)) rfl ?_
  refine lst_run (run_assign (by conv => lhs; whnf)) rfl ?_
  refine lst_done ?_
  refine goes_seq ?_
  refine goes_region ?_
  first
    | refine lst_run (run_loadN_own (k := 2) hS rfl rfl rfl (by first | exact .head | exact .tail .head | exact .tail (.tail .head) | exact .tail (.tail (.tail .head)) | exact .tail (.tail (.tail (.tail .head))) | exact .tail (.tail (.tail (.tail (.tail .head))))) (by repeat constructor)) rfl ?_
    | refine lst_run (run_load2 rfl rfl rfl (by first | assumption | exact hS.cell0 (by assumption)) (by first | assumption | exact hS.cell0 (by assumption))) rfl ?_
  refine lst_run (run_move (by conv => lhs; whnf)) rfl ?_
  refine lst_run (run_move (by conv => lhs; whnf)) rfl ?_
  refine lst_enter (run_call (by kernel_rfl) (args_4 (by conv => lhs; whnf) (by conv => lhs; whnf) (by conv => lhs; whnf) (by conv => lhs; whnf))) rfl ?_
  refine Calls.mono (collect_ok h R T [] _ _ _ _ _ e0 A B RA TA none c d rc tc 0 _ (hHu.mono hF2) (hRu.mono hF2) (hTu.mono hF2) hz hRl hTl (by simp) hS) ?_
  rintro _ w3 ⟨A3, c3, B3, d3, a1, a2, a3, c31, c32, c33, F3, rfl, hF3, hH3, hA1, hA2, hA3, hS'⟩
  refine ⟨_, rfl, ?_⟩
  replace hS := hS'
  clear hS'
  have hM3 := hM2.mono hF3
  have hT3 := (hTu.mono hF2).mono hF3
  clear hHu hRu hTu hM2 C e0
  generalize marksM h.cs R = Mk at *
  generalize hX : (⟨collL Mk h.cs, collT Mk h.tr⟩ : HH) = X at *
  have hXc : X.cs.length = rk Mk Mk.length := by rw [← hcl, ← hX]
  refine lst_run (run_move (by conv => lhs; whnf)) rfl ?_
  refine lst_run (run_extract rfl rfl) rfl ?_
  refine lst_run (run_extract rfl rfl) rfl ?_
  refine lst_run (run_extract rfl rfl) rfl ?_
  refine lst_run (run_extract rfl rfl) rfl ?_
  refine lst_run (run_extract rfl rfl) rfl ?_
  refine lst_alloc (cs := [_, _]) hS rfl rfl rfl ?_
  clear hS
  intro b2 wx2 hS
  refine lst_storeN hS rfl (by conv => lhs; whnf) rfl rfl (by first | exact .head | exact .tail .head | exact .tail (.tail .head) | exact .tail (.tail (.tail .head)) | exact .tail (.tail (.tail (.tail .head))) | exact .tail (.tail (.tail (.tail (.tail .head))))) (by repeat constructor) (by first | exact .head | exact .tail .head | exact .tail (.tail .head) | exact .tail (.tail (.tail .head)) | exact .tail (.tail (.tail (.tail .head))) | exact .tail (.tail (.tail (.tail (.tail .head))))) ?_
  clear hS
  intro wx3 hS
  refine lst_run (run_assign (by conv => lhs; whnf)) rfl ?_
  refine lst_run (run_assign (by conv => lhs; whnf)) rfl ?_
  refine lst_run (run_assign (by conv => lhs; whnf)) rfl ?_
  refine lst_run (run_assign (by conv => lhs; whnf)) rfl ?_
  refine lst_done ?_
  refine goes_seq ?_
  refine goes_seq ?_
  refine goes_region ?_
  refine lst_run (run_move (by conv => lhs; whnf)) rfl ?_
  first
    | refine lst_run (run_neq_one_int rfl rfl) rfl ?_
    | refine lst_run (run_neq_no rfl rfl (by first | assumption | omega)) rfl ?_
    | refine lst_run (run_neq_yes rfl rfl (by omega)) rfl ?_
    | refine lst_run (rfl) rfl ?_
  refine lst_run (run_move (by conv => lhs; whnf)) rfl ?_
  refine lst_guard rfl rfl ?_
  refine lst_run (run_move (by conv => lhs; whnf)) rfl ?_
  refine lst_guard rfl rfl ?_
  first
    | refine lst_run (run_neq_one_int rfl rfl) rfl ?_
    | refine lst_run (run_neq_no rfl rfl (by first | assumption | omega)) rfl ?_
    | refine lst_run (run_neq_yes rfl rfl (by omega)) rfl ?_
    | refine lst_run (rfl) rfl ?_
  first
    | refine lst_run (run_pick_t rfl (by conv => lhs; whnf)) rfl ?_
    | refine lst_run (run_pick_f rfl (by conv => lhs; whnf)) rfl ?_
  refine lst_run (run_move (by conv => lhs; whnf)) rfl ?_
  refine lst_guard rfl rfl ?_
  refine lst_enter (run_call (by kernel_rfl) args_nil) rfl ?_
  refine Calls.mono (heapsK_any _) ?_
  rintro _ w4 ⟨rfl, hb4⟩
  refine ⟨_, rfl, ?_⟩
  replace hS := hS.grow hb4
  refine lst_guard rfl rfl ?_
  refine lst_run (rfl) rfl ?_
  first
    | refine lst_run (run_pick_t rfl (by conv => lhs; whnf)) rfl ?_
    | refine lst_run (run_pick_f rfl (by conv => lhs; whnf)) rfl ?_
  refine lst_done ?_
  refine goes_false rfl ?_
  refine goes_skip ?_
  refine goes_seq ?_
  refine goes_region ?_
  refine lst_run (run_assign (by conv => lhs; whnf)) rfl ?_
  refine lst_done ?_
  refine goes_seq ?_
  refine goes_seq ?_
  refine goes_region ?_
  refine lst_run (run_move (by conv => lhs; whnf)) rfl ?_
  refine lst_run (run_len_slice rfl rfl rfl) rfl ?_
  refine lst_run (run_move (by conv => lhs; whnf)) rfl ?_
  refine lst_done ?_
  refine goes_block ?_
  refine goes_loop2 53 14 (54 :: 55 :: 56 :: 16 :: 57 :: 58 :: 59 :: 60 :: []) (fun (Q : List Bool) v u w' => ∃ D : List Bool, Mk = D ++ Q ∧ v = .int .i64 (D.length : Nat) ∧ u = .int .i64 ((D.count true : Nat) : Int) ∧ St [] w ((b2, hob A3 X.cs.length c3 B3 X.tr.length d3) :: (b1, hob A h.cs.length c B h.tr.length d) :: []) F3 w') (fun Q => Q.length) (Mk) ?_ (by conv => lhs; whnf) (by conv => lhs; whnf) ?_
  · exact ⟨[], rfl, rfl, rfl, hS⟩
  clear hS
  rintro Q _ _ w5 jv ⟨D, hD, rfl, rfl, hS⟩ ih
  have hlen : Mk.length = D.length + Q.length := by rw [hD]; simp
  cases Q with
  | cons x Q =>
    simp only [List.length_cons] at hlen
    have hxi : Mk[D.length]? = some x := by rw [hD]; simp
    have hcnt : D.count true ≤ D.length := List.count_le_length
    obtain ⟨bt, ot, rfl⟩ := (hS.und hM3).some_ (by omega)
    have hct : ∀ {H'} w', St [] w H' F3 w' → w'.cell? ⟨bt, ot + ((D.length : Nat) : Int).toNat * 1, none⟩ = some (.bool x) := fun w' hS => by
      have := (hS.und hM3).bool hxi
      rw [show ((D.length : Nat) : Int).toNat = D.length by omega]; exact this
    cases x with
    | true =>
      refine goes_seq ?_
      refine goes_region ?_
      first
        | refine lst_run (run_lss_yes rfl rfl (by omega)) rfl ?_
        | refine lst_run (run_lss_no rfl rfl (by omega)) rfl ?_
        | refine lst_run (rfl) rfl ?_
      refine lst_done ?_
      refine goes_seq ?_
      refine goes_true rfl ?_
      refine goes_skip ?_
      refine goes_seq ?_
      refine goes_block ?_
      refine goes_seq ?_
      refine goes_region ?_
      refine lst_run (run_indexAddr (sz := 1) rfl rfl rfl rfl (by omega) (by omega)) rfl ?_
      first
        | refine lst_run (run_load1_own hS rfl rfl (by first | exact .head | exact .tail .head | exact .tail (.tail .head) | exact .tail (.tail (.tail .head)) | exact .tail (.tail (.tail (.tail .head))) | exact .tail (.tail (.tail (.tail (.tail .head))))) (by repeat constructor)) rfl ?_
        | refine lst_run (run_load1 rfl rfl (by first | assumption | exact hct _ hS | exact hS.cell0 (by assumption) | exact lv_next hS | exact lv_list hS)) rfl ?_
      refine lst_run (run_assign (by conv => lhs; whnf)) rfl ?_
      refine lst_done ?_
      refine goes_seq ?_
      refine goes_region ?_
      refine lst_run (run_move (by conv => lhs; whnf)) rfl ?_
      refine lst_done ?_
      refine goes_true rfl ?_
      refine goes_region ?_
      refine lst_run (run_move (by conv => lhs; whnf)) rfl ?_
      refine lst_run (run_add rfl rfl (by omega) (by omega)) rfl ?_
      refine lst_run (run_assign (by conv => lhs; whnf)) rfl ?_
      refine lst_done ?_
      refine goes_inBlock ?_
      refine goes_region ?_
      refine lst_run (run_add rfl rfl (by omega) (by omega)) rfl ?_
      refine lst_run (run_move (by conv => lhs; whnf)) rfl ?_
      refine lst_done ?_
      refine ih (Q) _ _ _ _ ?_ ?_ (by conv => lhs; whnf) (by conv => lhs; whnf) (by kernel_rfl)
      · simp
      · exact ⟨D ++ [true], by rw [hD]; simp, by simp, by simp, hS⟩
    | false =>
      refine goes_seq ?_
      refine goes_region ?_
      first
        | refine lst_run (run_lss_yes rfl rfl (by omega)) rfl ?_
        | refine lst_run (run_lss_no rfl rfl (by omega)) rfl ?_
        | refine lst_run (rfl) rfl ?_
      refine lst_done ?_
      refine goes_seq ?_
      refine goes_true rfl ?_
      refine goes_skip ?_
      refine goes_seq ?_
      refine goes_block ?_
      refine goes_seq ?_
      refine goes_region ?_
      refine lst_run (run_indexAddr (sz := 1) rfl rfl rfl rfl (by omega) (by omega)) rfl ?_
      first
        | refine lst_run (run_load1_own hS rfl rfl (by first | exact .head | exact .tail .head | exact .tail (.tail .head) | exact .tail (.tail (.tail .head)) | exact .tail (.tail (.tail (.tail .head))) | exact .tail (.tail (.tail (.tail (.tail .head))))) (by repeat constructor)) rfl ?_
        | refine lst_run (run_load1 rfl rfl (by first | assumption | exact hct _ hS | exact hS.cell0 (by assumption) | exact lv_next hS | exact lv_list hS)) rfl ?_
      refine lst_run (run_assign (by conv => lhs; whnf)) rfl ?_
      refine lst_done ?_
      refine goes_seq ?_
      refine goes_region ?_
      refine lst_run (run_move (by conv => lhs; whnf)) rfl ?_
      refine lst_done ?_
      refine goes_false rfl ?_
      refine goes_skip ?_
      refine goes_inBlock ?_
      refine goes_region ?_
      refine lst_run (run_add rfl rfl (by omega) (by omega)) rfl ?_
      refine lst_run (run_move (by conv => lhs; whnf)) rfl ?_
      refine lst_done ?_
      refine ih (Q) _ _ _ _ ?_ ?_ (by conv => lhs; whnf) (by conv => lhs; whnf) (by kernel_rfl)
      · simp
      · exact ⟨D ++ [false], by rw [hD]; simp, by simp, by simp, hS⟩
  | nil =>
    simp only [List.length_nil] at hlen
    have hDM : D = Mk := by simpa using hD.symm
    have hcn : D.count true = X.cs.length := by rw [hDM, hXc]; unfold rk; rw [List.take_length]
    refine goes_seq ?_
    refine goes_region ?_
    first
      | refine lst_run (run_lss_yes rfl rfl (by omega)) rfl ?_
      | refine lst_run (run_lss_no rfl rfl (by omega)) rfl ?_
      | refine lst_run (rfl) rfl ?_
    refine lst_done ?_
    refine goes_seq ?_
    refine goes_false rfl ?_
    refine goes_exit rfl ?_
    refine goes_seq ?_
    refine goes_region ?_
    first
      | refine lst_run (run_loadN_own (k := 2) hS rfl rfl rfl (by first | exact .head | exact .tail .head | exact .tail (.tail .head) | exact .tail (.tail (.tail .head)) | exact .tail (.tail (.tail (.tail .head))) | exact .tail (.tail (.tail (.tail (.tail .head))))) (by repeat constructor)) rfl ?_
      | refine lst_run (run_load2 rfl rfl rfl (by first | assumption | exact hct _ hS | exact hS.cell0 (by assumption)) (by first | assumption | exact hct _ hS | exact hS.cell0 (by assumption))) rfl ?_
    refine lst_run (run_move (by conv => lhs; whnf)) rfl ?_
    rw [hcn]
    have hxg : X.cs.length ≤ 65536 ∧ X.tr.length ≤ 65536 := hxl
    have hA1' : Und F3 (Flat 1 (intsV (R.map (rkI Mk))) a1 (R.map (rkI Mk)).length c31) := hA1
    refine lst_enter (run_call (by kernel_rfl) (args_4 (by conv => lhs; whnf) (by conv => lhs; whnf) (by conv => lhs; whnf) (by conv => lhs; whnf))) rfl ?_
    refine Calls.mono (collect_ok X (R.map (rkI Mk)) [] [] _ _ _ _ _ hag A3 B3 a1 none none c3 d3 c31 0 0 _ hH3 hA1' hz hz (by simpa using hRl) (by simp) (by simp) hS) ?_
    rintro _ w6 ⟨A6, c6, B6, d6, z1, z2, z3, c61, c62, c63, F6, rfl, hF6, hH6, hZ1, hZ2, hZ3, hS'⟩
    refine ⟨_, rfl, ?_⟩
    replace hS := hS'
    clear hS'
    have hTm : (T.map (rkI Mk)).length = T.length := by simp
    refine lst_run (run_move (by conv => lhs; whnf)) rfl ?_
    refine lst_run (run_extract rfl rfl) rfl ?_
    refine lst_run (run_extract rfl rfl) rfl ?_
    refine lst_run (run_extract rfl rfl) rfl ?_
    refine lst_run (run_extract rfl rfl) rfl ?_
    refine lst_run (run_extract rfl rfl) rfl ?_
    refine lst_alloc (cs := [_, _]) hS rfl rfl rfl ?_
    clear hS
    intro b3 wx4 hS
    refine lst_storeN hS rfl (by conv => lhs; whnf) rfl rfl (by first | exact .head | exact .tail .head | exact .tail (.tail .head) | exact .tail (.tail (.tail .head)) | exact .tail (.tail (.tail (.tail .head))) | exact .tail (.tail (.tail (.tail (.tail .head))))) (by repeat constructor) (by first | exact .head | exact .tail .head | exact .tail (.tail .head) | exact .tail (.tail (.tail .head)) | exact .tail (.tail (.tail (.tail .head))) | exact .tail (.tail (.tail (.tail (.tail .head))))) ?_
    clear hS
    intro wx5 hS
    refine lst_run (run_assign (by conv => lhs; whnf)) rfl ?_
    refine lst_run (run_assign (by conv => lhs; whnf)) rfl ?_
    refine lst_run (run_assign (by conv => lhs; whnf)) rfl ?_
    refine lst_run (run_assign (by conv => lhs; whnf)) rfl ?_
    refine lst_done ?_
    refine goes_seq ?_
    refine goes_seq ?_
    refine goes_region ?_
    refine lst_run (run_fieldAddr (off := 0) rfl rfl) rfl ?_
    first
      | refine lst_run (run_load1_own hS rfl rfl (by first | exact .head | exact .tail .head | exact .tail (.tail .head) | exact .tail (.tail (.tail .head)) | exact .tail (.tail (.tail (.tail .head))) | exact .tail (.tail (.tail (.tail (.tail .head))))) (by repeat constructor)) rfl ?_
      | refine lst_run (run_load1 rfl rfl (by first | assumption | exact hct _ hS | exact hS.cell0 (by assumption) | exact lv_next hS | exact lv_list hS)) rfl ?_
    refine lst_run (run_len_slice rfl rfl rfl) rfl ?_
    refine lst_run (run_move (by conv => lhs; whnf)) rfl ?_
    first
      | refine lst_run (run_neq_one_int rfl rfl) rfl ?_
      | refine lst_run (run_neq_no rfl rfl (by first | assumption | omega)) rfl ?_
      | refine lst_run (run_neq_yes rfl rfl (by omega)) rfl ?_
      | refine lst_run (rfl) rfl ?_
    refine lst_run (run_move (by conv => lhs; whnf)) rfl ?_
    refine lst_guard rfl rfl ?_
    refine lst_run (run_move (by conv => lhs; whnf)) rfl ?_
    refine lst_guard rfl rfl ?_
    first
      | refine lst_run (run_neq_one_int rfl rfl) rfl ?_
      | refine lst_run (run_neq_no rfl rfl (by first | assumption | omega)) rfl ?_
      | refine lst_run (run_neq_yes rfl rfl (by omega)) rfl ?_
      | refine lst_run (rfl) rfl ?_
    first
      | refine lst_run (run_pick_t rfl (by conv => lhs; whnf)) rfl ?_
      | refine lst_run (run_pick_f rfl (by conv => lhs; whnf)) rfl ?_
    refine lst_run (run_move (by conv => lhs; whnf)) rfl ?_
    refine lst_guard rfl rfl ?_
    first
      | refine lst_run (run_loadN_own (k := 2) hS rfl rfl rfl (by first | exact .head | exact .tail .head | exact .tail (.tail .head) | exact .tail (.tail (.tail .head)) | exact .tail (.tail (.tail (.tail .head))) | exact .tail (.tail (.tail (.tail (.tail .head))))) (by repeat constructor)) rfl ?_
      | refine lst_run (run_load2 rfl rfl rfl (by first | assumption | exact hct _ hS | exact hS.cell0 (by assumption)) (by first | assumption | exact hct _ hS | exact hS.cell0 (by assumption))) rfl ?_
    refine lst_guard rfl rfl ?_
    first
      | refine lst_run (run_loadN_own (k := 2) hS rfl rfl rfl (by first | exact .head | exact .tail .head | exact .tail (.tail .head) | exact .tail (.tail (.tail .head)) | exact .tail (.tail (.tail (.tail .head))) | exact .tail (.tail (.tail (.tail (.tail .head))))) (by repeat constructor)) rfl ?_
      | refine lst_run (run_load2 rfl rfl rfl (by first | assumption | exact hct _ hS | exact hS.cell0 (by assumption)) (by first | assumption | exact hct _ hS | exact hS.cell0 (by assumption))) rfl ?_
    refine lst_guard rfl rfl ?_
    refine lst_enter (run_call (by kernel_rfl) (args_2 (by conv => lhs; whnf) (by conv => lhs; whnf))) rfl ?_
    refine Calls.mono (sameHeapK_eq X A3 B3 A6 B6 c3 d3 c6 d6 _ (hS.und (hH3.mono hF6)) (hS.und hH6) (by omega) (by omega)) ?_
    rintro _ w7 ⟨rfl, hb7⟩
    refine ⟨_, rfl, ?_⟩
    replace hS := hS.grow hb7
    refine lst_guard rfl rfl ?_
    refine lst_run (rfl) rfl ?_
    first
      | refine lst_run (run_pick_t rfl (by conv => lhs; whnf)) rfl ?_
      | refine lst_run (run_pick_f rfl (by conv => lhs; whnf)) rfl ?_
    refine lst_run (run_move (by conv => lhs; whnf)) rfl ?_
    refine lst_guard rfl rfl ?_
    refine lst_run (run_move (by conv => lhs; whnf)) rfl ?_
    refine lst_guard rfl rfl ?_
    refine lst_run (run_move (by conv => lhs; whnf)) rfl ?_
    refine lst_guard rfl rfl ?_
    refine lst_enter (run_call (by kernel_rfl) (args_2 (by conv => lhs; whnf) (by conv => lhs; whnf))) rfl ?_
    refine Calls.mono (sameNumbersK_eq (R.map (rkI Mk)) a1 z1 c31 c61 _ (hS.und (hA1'.mono hF6)) (hS.und hZ1) (by simp; omega)) ?_
    rintro _ w8 ⟨rfl, hb8⟩
    refine ⟨_, rfl, ?_⟩
    replace hS := hS.grow hb8
    refine lst_guard rfl rfl ?_
    refine lst_run (rfl) rfl ?_
    first
      | refine lst_run (run_pick_t rfl (by conv => lhs; whnf)) rfl ?_
      | refine lst_run (run_pick_f rfl (by conv => lhs; whnf)) rfl ?_
    refine lst_run (run_move (by conv => lhs; whnf)) rfl ?_
    refine lst_guard rfl rfl ?_
    refine lst_run (run_move (by conv => lhs; whnf)) rfl ?_
    refine lst_guard rfl rfl ?_
    refine lst_run (run_len_slice rfl rfl rfl) rfl ?_
    refine lst_guard rfl rfl ?_
    refine lst_run (run_move (by conv => lhs; whnf)) rfl ?_
    refine lst_guard rfl rfl ?_
    refine lst_run (run_len_slice rfl rfl rfl) rfl ?_
    refine lst_guard rfl rfl ?_
    first
      | refine lst_run (run_neq_one_int rfl rfl) rfl ?_
      | refine lst_run (run_neq_no rfl rfl (by first | assumption | omega)) rfl ?_
      | refine lst_run (run_neq_yes rfl rfl (by omega)) rfl ?_
      | refine lst_run (rfl) rfl ?_
    first
      | refine lst_run (run_pick_t rfl (by conv => lhs; whnf)) rfl ?_
      | refine lst_run (run_pick_f rfl (by conv => lhs; whnf)) rfl ?_
    refine lst_done ?_
    refine goes_false rfl ?_
    refine goes_skip ?_
    refine goes_seq ?_
    refine goes_seq ?_
    refine goes_region ?_
    refine lst_run (run_move (by conv => lhs; whnf)) rfl ?_
    refine lst_run (run_len_slice rfl rfl rfl) rfl ?_
    refine lst_run (run_move (by conv => lhs; whnf)) rfl ?_
    refine lst_done ?_
    refine goes_block ?_
    have hT6 := hT3.mono hF6
    have hA26 : Und F6 (Flat 1 (intsV (T.map (rkI Mk))) a2 (T.map (rkI Mk)).length c32) := hA2.mono hF6
    have hmono : ∀ {p q : Int}, p ≤ q → rkI Mk p ≤ rkI Mk q := fun {p q} hpq => by
      have := rk_mono Mk (show p.toNat ≤ q.toNat by omega)
      simp only [rkI]; omega
    have hcells : ∀ {i : Nat} {x : Int}, T[i]? = some x → ∃ bt ot bu ou, TA = some ⟨bt, ot, none⟩ ∧ a2 = some ⟨bu, ou, none⟩ ∧ ∀ {H'} w', St [] w H' F6 w' → w'.cell? ⟨bt, ot + ((i : Nat) : Int).toNat * 1, none⟩ = some (.int .i64 x) ∧ w'.cell? ⟨bu, ou + ((i : Nat) : Int).toNat * 1, none⟩ = some (.int .i64 (rkI Mk x)) := fun {i x} hi => by
      have hil : i < T.length := by
        rcases Nat.lt_or_ge i T.length with g | g
        · exact g
        · rw [List.getElem?_eq_none g] at hi; cases hi
      obtain ⟨bt, ot, e1⟩ := (hS.und hT6).some_ (by omega)
      obtain ⟨bu, ou, e2⟩ := (hS.und hA26).some_ (by omega)
      subst e1 e2
      refine ⟨bt, ot, bu, ou, rfl, rfl, fun {H'} w' hS => ?_⟩
      rw [show ((i : Nat) : Int).toNat = i by omega]
      exact ⟨(hS.und hT6).int hi, (hS.und hA26).int (by rw [List.getElem?_map, hi]; rfl)⟩
    refine goes_loop1 100 (101 :: 102 :: 22 :: 103 :: 104 :: 105 :: 106 :: 107 :: 23 :: 108 :: 109 :: 110 :: 111 :: 112 :: 113 :: 114 :: 115 :: 116 :: 117 :: 118 :: 119 :: 120 :: 121 :: 122 :: 123 :: 124 :: 125 :: 126 :: 127 :: 6 :: 128 :: 129 :: []) (fun (Q : List Int) v w' => ∃ D : List Int, T = D ++ Q ∧ v = .int .i64 (D.length : Nat) ∧ St [] w ((b3, hob A6 X.cs.length c6 B6 X.tr.length d6) :: (b2, hob A3 X.cs.length c3 B3 X.tr.length d3) :: (b1, hob A h.cs.length c B h.tr.length d) :: []) F6 w') (fun Q => Q.length) (T) ?_ (by conv => lhs; whnf) ?_
    · exact ⟨[], rfl, rfl, hS⟩
    clear hS
    rintro Q _ w9 jv2 ⟨E, hE, rfl, hS⟩ ih2
    have hlen2 : T.length = E.length + Q.length := by rw [hE]; simp
    cases Q with
    | nil =>
      simp only [List.length_nil] at hlen2
      refine goes_seq ?_
      refine goes_region ?_
      first
        | refine lst_run (run_lss_yes rfl rfl (by omega)) rfl ?_
        | refine lst_run (run_lss_no rfl rfl (by omega)) rfl ?_
        | refine lst_run (rfl) rfl ?_
      refine lst_done ?_
      refine goes_seq ?_
      refine goes_false rfl ?_
      refine goes_exit rfl ?_
      refine goes_seq ?_
      refine goes_region ?_
      refine lst_run (run_assign (by conv => lhs; whnf)) rfl ?_
      refine lst_done ?_
      refine goes_ret1 Try.func10 rfl (by conv => lhs; whnf) ?_
      exact ⟨rfl, hS.ext.below⟩
    | cons x Q =>
      simp only [List.length_cons] at hlen2
      obtain ⟨bt, ot, bu, ou, rfl, rfl, hc1⟩ := hcells (i := E.length) (x := x) (by rw [hE]; simp)
      refine goes_seq ?_
      refine goes_region ?_
      first
        | refine lst_run (run_lss_yes rfl rfl (by omega)) rfl ?_
        | refine lst_run (run_lss_no rfl rfl (by omega)) rfl ?_
        | refine lst_run (rfl) rfl ?_
      refine lst_done ?_
      refine goes_seq ?_
      refine goes_true rfl ?_
      refine goes_skip ?_
      refine goes_seq ?_
      refine goes_block ?_
      refine goes_seq ?_
      refine goes_region ?_
      refine lst_run (run_move (by conv => lhs; whnf)) rfl ?_
      refine lst_run (run_assign (by conv => lhs; whnf)) rfl ?_
      refine lst_done ?_
      refine goes_seq ?_
      refine goes_region ?_
      refine lst_run (run_move (by conv => lhs; whnf)) rfl ?_
      refine lst_run (run_len_slice rfl rfl rfl) rfl ?_
      refine lst_run (run_move (by conv => lhs; whnf)) rfl ?_
      refine lst_done ?_
      refine goes_block ?_
      refine goes_loop1 105 (106 :: 107 :: 23 :: 108 :: 109 :: 110 :: 111 :: 112 :: 113 :: 114 :: 115 :: 116 :: 117 :: 118 :: 119 :: 120 :: 121 :: 122 :: 123 :: 124 :: 125 :: 126 :: 127 :: 6 :: 128 :: []) (fun (P : List Int) v w' => ∃ D2 : List Int, T = D2 ++ P ∧ v = .int .i64 (D2.length : Nat) ∧ St [] w ((b3, hob A6 X.cs.length c6 B6 X.tr.length d6) :: (b2, hob A3 X.cs.length c3 B3 X.tr.length d3) :: (b1, hob A h.cs.length c B h.tr.length d) :: []) F6 w') (fun P => P.length) (T) ?_ (by conv => lhs; whnf) ?_
      · exact ⟨[], rfl, rfl, hS⟩
      clear hS
      rintro P _ w10 jv3 ⟨D2, hD2, rfl, hS⟩ ih3
      have hlen3 : T.length = D2.length + P.length := by rw [hD2]; simp
      cases P with
      | nil =>
        simp only [List.length_nil] at hlen3
        refine goes_seq ?_
        refine goes_region ?_
        first
          | refine lst_run (run_lss_yes rfl rfl (by omega)) rfl ?_
          | refine lst_run (run_lss_no rfl rfl (by omega)) rfl ?_
          | refine lst_run (rfl) rfl ?_
        refine lst_done ?_
        refine goes_seq ?_
        refine goes_false rfl ?_
        refine goes_exit rfl ?_
        refine goes_inBlock ?_
        refine goes_region ?_
        refine lst_run (run_add rfl rfl (by omega) (by omega)) rfl ?_
        refine lst_run (run_move (by conv => lhs; whnf)) rfl ?_
        refine lst_done ?_
        refine ih2 Q _ _ _ ?_ ?_ (by conv => lhs; whnf) (by kernel_rfl)
        · simp
        · exact ⟨E ++ [x], by rw [hE]; simp, by simp, hS⟩
      | cons y P =>
        simp only [List.length_cons] at hlen3
        obtain ⟨bt', ot', bu', ou', eq1, eq2, hc2⟩ := hcells (i := D2.length) (x := y) (by rw [hD2]; simp)
        simp only [Option.some.injEq, Addr.mk.injEq, and_true] at eq1 eq2
        obtain ⟨rfl, rfl⟩ := eq1
        obtain ⟨rfl, rfl⟩ := eq2
        by_cases hxy : x ≤ y
        · have hle := hmono hxy
          refine goes_seq ?_
          refine goes_region ?_
          first
            | refine lst_run (run_lss_yes rfl rfl (by omega)) rfl ?_
            | refine lst_run (run_lss_no rfl rfl (by omega)) rfl ?_
            | refine lst_run (rfl) rfl ?_
          refine lst_done ?_
          refine goes_seq ?_
          refine goes_true rfl ?_
          refine goes_skip ?_
          refine goes_seq ?_
          refine goes_block ?_
          refine goes_seq ?_
          refine goes_region ?_
          refine lst_run (run_move (by conv => lhs; whnf)) rfl ?_
          refine lst_run (run_assign (by conv => lhs; whnf)) rfl ?_
          refine lst_done ?_
          refine goes_seq ?_
          refine goes_draw (St _ _ _ _) 20 ((0, true) :: (1, true) :: (2, true) :: (3, true) :: (4, true) :: (5, true) :: (6, true) :: (7, true) :: (8, true) :: (9, true) :: (10, true) :: (11, true) :: (12, true) :: (13, true) :: (14, true) :: (15, true) :: (16, true) :: (17, true) :: (18, true) :: (19, true) :: []) (by kernel_rfl) (by kernel_rfl) (hS.drew) ?_
          replace hS := hS.drew
          refine ord_read rfl (fun _ hS => run_move (by conv => lhs; whnf)) rfl ?_
          refine ord_read rfl (fun _ hS => run_move (by conv => lhs; whnf)) rfl ?_
          refine ord_read rfl (fun _ hS => run_indexAddr (sz := 1) rfl rfl rfl rfl (by omega) (by omega)) rfl ?_
          first
            | refine ord_read rfl (fun _ hS => run_load1_own hS rfl rfl (by first | exact .head | exact .tail .head | exact .tail (.tail .head) | exact .tail (.tail (.tail .head)) | exact .tail (.tail (.tail (.tail .head))) | exact .tail (.tail (.tail (.tail (.tail .head))))) (by repeat constructor)) rfl ?_
            | refine ord_read rfl (fun _ hS => run_load1 rfl rfl (by first | assumption | exact (hc1 _ hS).1 | exact (hc1 _ hS).2 | exact (hc2 _ hS).1 | exact (hc2 _ hS).2 | exact hS.cell0 (by assumption) | exact lv_next hS | exact lv_list hS)) rfl ?_
          refine ord_read rfl (fun _ hS => run_move (by conv => lhs; whnf)) rfl ?_
          refine ord_read rfl (fun _ hS => run_move (by conv => lhs; whnf)) rfl ?_
          refine ord_read rfl (fun _ hS => run_indexAddr (sz := 1) rfl rfl rfl rfl (by omega) (by omega)) rfl ?_
          first
            | refine ord_read rfl (fun _ hS => run_load1_own hS rfl rfl (by first | exact .head | exact .tail .head | exact .tail (.tail .head) | exact .tail (.tail (.tail .head)) | exact .tail (.tail (.tail (.tail .head))) | exact .tail (.tail (.tail (.tail (.tail .head))))) (by repeat constructor)) rfl ?_
            | refine ord_read rfl (fun _ hS => run_load1 rfl rfl (by first | assumption | exact (hc1 _ hS).1 | exact (hc1 _ hS).2 | exact (hc2 _ hS).1 | exact (hc2 _ hS).2 | exact hS.cell0 (by assumption) | exact lv_next hS | exact lv_list hS)) rfl ?_
          first
            | refine ord_read rfl (fun _ hS => run_leq_yes rfl rfl (by omega)) rfl ?_
            | refine ord_read rfl (fun _ hS => run_leq_no rfl rfl (by omega)) rfl ?_
            | refine ord_read rfl (fun _ hS => rfl) rfl ?_
          refine ord_read rfl (fun _ hS => run_move (by conv => lhs; whnf)) rfl ?_
          refine ord_readG rfl rfl rfl (fun _ hS => run_move (by conv => lhs; whnf)) rfl ?_
          refine ord_readG rfl rfl rfl (fun _ hS => run_move (by conv => lhs; whnf)) rfl ?_
          refine ord_readG rfl rfl rfl (fun _ hS => run_indexAddr (sz := 1) rfl rfl rfl rfl (by omega) (by omega)) rfl ?_
          first
            | refine ord_readG rfl rfl rfl (fun _ hS => run_load1_own hS rfl rfl (by first | exact .head | exact .tail .head | exact .tail (.tail .head) | exact .tail (.tail (.tail .head)) | exact .tail (.tail (.tail (.tail .head))) | exact .tail (.tail (.tail (.tail (.tail .head))))) (by repeat constructor)) rfl ?_
            | refine ord_readG rfl rfl rfl (fun _ hS => run_load1 rfl rfl (by first | assumption | exact (hc1 _ hS).1 | exact (hc1 _ hS).2 | exact (hc2 _ hS).1 | exact (hc2 _ hS).2 | exact hS.cell0 (by assumption) | exact lv_next hS | exact lv_list hS)) rfl ?_
          refine ord_readG rfl rfl rfl (fun _ hS => run_move (by conv => lhs; whnf)) rfl ?_
          refine ord_readG rfl rfl rfl (fun _ hS => run_move (by conv => lhs; whnf)) rfl ?_
          refine ord_readG rfl rfl rfl (fun _ hS => run_indexAddr (sz := 1) rfl rfl rfl rfl (by omega) (by omega)) rfl ?_
          first
            | refine ord_readG rfl rfl rfl (fun _ hS => run_load1_own hS rfl rfl (by first | exact .head | exact .tail .head | exact .tail (.tail .head) | exact .tail (.tail (.tail .head)) | exact .tail (.tail (.tail (.tail .head))) | exact .tail (.tail (.tail (.tail (.tail .head))))) (by repeat constructor)) rfl ?_
            | refine ord_readG rfl rfl rfl (fun _ hS => run_load1 rfl rfl (by first | assumption | exact (hc1 _ hS).1 | exact (hc1 _ hS).2 | exact (hc2 _ hS).1 | exact (hc2 _ hS).2 | exact hS.cell0 (by assumption) | exact lv_next hS | exact lv_list hS)) rfl ?_
          first
            | refine ord_readG rfl rfl rfl (fun _ hS => run_gtr_yes rfl rfl (by omega)) rfl ?_
            | refine ord_readG rfl rfl rfl (fun _ hS => run_gtr_no rfl rfl (by omega)) rfl ?_
            | refine ord_readG rfl rfl rfl (fun _ hS => rfl) rfl ?_
          first
            | refine ord_read rfl (fun _ hS => run_pick_t rfl (by conv => lhs; whnf)) rfl ?_
            | refine ord_read rfl (fun _ hS => run_pick_f rfl (by conv => lhs; whnf)) rfl ?_
          refine ord_end ?_
          refine lst_done ?_
          refine goes_false rfl ?_
          refine goes_skip ?_
          refine goes_inBlock ?_
          refine goes_region ?_
          refine lst_run (run_add rfl rfl (by omega) (by omega)) rfl ?_
          refine lst_run (run_move (by conv => lhs; whnf)) rfl ?_
          refine lst_done ?_
          refine ih3 P _ _ _ ?_ ?_ (by conv => lhs; whnf) (by kernel_rfl)
          · simp
          · exact ⟨D2 ++ [y], by rw [hD2]; simp, by simp, hS⟩
        · refine goes_seq ?_
          refine goes_region ?_
          first
            | refine lst_run (run_lss_yes rfl rfl (by omega)) rfl ?_
            | refine lst_run (run_lss_no rfl rfl (by omega)) rfl ?_
            | refine lst_run (rfl) rfl ?_
          refine lst_done ?_
          refine goes_seq ?_
          refine goes_true rfl ?_
          refine goes_skip ?_
          refine goes_seq ?_
          refine goes_block ?_
          refine goes_seq ?_
          refine goes_region ?_
          refine lst_run (run_move (by conv => lhs; whnf)) rfl ?_
          refine lst_run (run_assign (by conv => lhs; whnf)) rfl ?_
          refine lst_done ?_
          refine goes_seq ?_
          refine goes_draw (St _ _ _ _) 20 ((0, true) :: (1, true) :: (2, true) :: (3, true) :: (4, true) :: (5, true) :: (6, true) :: (7, true) :: (8, true) :: (9, true) :: (10, true) :: (11, true) :: (12, true) :: (13, true) :: (14, true) :: (15, true) :: (16, true) :: (17, true) :: (18, true) :: (19, true) :: []) (by kernel_rfl) (by kernel_rfl) (hS.drew) ?_
          replace hS := hS.drew
          refine ord_read rfl (fun _ hS => run_move (by conv => lhs; whnf)) rfl ?_
          refine ord_read rfl (fun _ hS => run_move (by conv => lhs; whnf)) rfl ?_
          refine ord_read rfl (fun _ hS => run_indexAddr (sz := 1) rfl rfl rfl rfl (by omega) (by omega)) rfl ?_
          first
            | refine ord_read rfl (fun _ hS => run_load1_own hS rfl rfl (by first | exact .head | exact .tail .head | exact .tail (.tail .head) | exact .tail (.tail (.tail .head)) | exact .tail (.tail (.tail (.tail .head))) | exact .tail (.tail (.tail (.tail (.tail .head))))) (by repeat constructor)) rfl ?_
            | refine ord_read rfl (fun _ hS => run_load1 rfl rfl (by first | assumption | exact (hc1 _ hS).1 | exact (hc1 _ hS).2 | exact (hc2 _ hS).1 | exact (hc2 _ hS).2 | exact hS.cell0 (by assumption) | exact lv_next hS | exact lv_list hS)) rfl ?_
          refine ord_read rfl (fun _ hS => run_move (by conv => lhs; whnf)) rfl ?_
          refine ord_read rfl (fun _ hS => run_move (by conv => lhs; whnf)) rfl ?_
          refine ord_read rfl (fun _ hS => run_indexAddr (sz := 1) rfl rfl rfl rfl (by omega) (by omega)) rfl ?_
          first
            | refine ord_read rfl (fun _ hS => run_load1_own hS rfl rfl (by first | exact .head | exact .tail .head | exact .tail (.tail .head) | exact .tail (.tail (.tail .head)) | exact .tail (.tail (.tail (.tail .head))) | exact .tail (.tail (.tail (.tail (.tail .head))))) (by repeat constructor)) rfl ?_
            | refine ord_read rfl (fun _ hS => run_load1 rfl rfl (by first | assumption | exact (hc1 _ hS).1 | exact (hc1 _ hS).2 | exact (hc2 _ hS).1 | exact (hc2 _ hS).2 | exact hS.cell0 (by assumption) | exact lv_next hS | exact lv_list hS)) rfl ?_
          first
            | refine ord_read rfl (fun _ hS => run_leq_yes rfl rfl (by omega)) rfl ?_
            | refine ord_read rfl (fun _ hS => run_leq_no rfl rfl (by omega)) rfl ?_
            | refine ord_read rfl (fun _ hS => rfl) rfl ?_
          refine ord_read rfl (fun _ hS => run_move (by conv => lhs; whnf)) rfl ?_
          refine ord_pass rfl rfl rfl rfl ?_
          refine ord_pass rfl rfl rfl rfl ?_
          refine ord_pass rfl rfl rfl rfl ?_
          refine ord_pass rfl rfl rfl rfl ?_
          refine ord_pass rfl rfl rfl rfl ?_
          refine ord_pass rfl rfl rfl rfl ?_
          refine ord_pass rfl rfl rfl rfl ?_
          refine ord_pass rfl rfl rfl rfl ?_
          refine ord_pass rfl rfl rfl rfl ?_
          first
            | refine ord_read rfl (fun _ hS => run_pick_t rfl (by conv => lhs; whnf)) rfl ?_
            | refine ord_read rfl (fun _ hS => run_pick_f rfl (by conv => lhs; whnf)) rfl ?_
          refine ord_end ?_
          refine lst_done ?_
          refine goes_false rfl ?_
          refine goes_skip ?_
          refine goes_inBlock ?_
          refine goes_region ?_
          refine lst_run (run_add rfl rfl (by omega) (by omega)) rfl ?_
          refine lst_run (run_move (by conv => lhs; whnf)) rfl ?_
          refine lst_done ?_
          refine ih3 P _ _ _ ?_ ?_ (by conv => lhs; whnf) (by kernel_rfl)
          · simp
          · exact ⟨D2 ++ [y], by rw [hD2]; simp, by simp, hS⟩
end Go.Proofs.Ytjicoifjgokoiab
namespace Go.Proofs.Ytjicoifjgokoiab
open Go.RowKit

/-- Are two lists of terms alike? -/
def Ts.same : Ts → Ts → Bool
  | .nil, .nil => true
  | .cons k n s ar r, .cons k' n' s' ar' r' => decide (k = k') && decide (n = n') && decide (s = s') && ar.same ar' && r.same r'
  | _, _ => false
theorem Ts.same_iff (T : Ts) : ∀ U : Ts, T.same U = true ↔ T = U := by
  induction T with
  | nil => intro U; cases U <;> simp [same]
  | cons k n s ar r iha ihr =>
    intro U
    cases U with
    | nil => simp [same]
    | cons k' n' s' ar' r' => simp [same, iha, ihr, and_assoc]
/-- Are two terms alike? -/
def same1 (k n : Int) (s : ByteArray) (ar : Ts) (k' n' : Int) (s' : ByteArray) (ar' : Ts) : Bool := decide (k = k') && decide (n = n') && decide (s = s') && ar.same ar'

def SameRel (W : World) (T U : Ts) (g : Nat) (s37 : Value) (wr : World) : Prop :=
  ∃ D R R' : Ts, T = D.app R ∧ U = D.app R' ∧ R.length = R'.length ∧ g = R.length ∧ s37 = .int .i64 D.length ∧ Below W.heap.size W wr

theorem same1_iff {k n : Int} {s : ByteArray} {ar : Ts} {k' n' : Int} {s' : ByteArray} {ar' : Ts} : same1 k n s ar k' n' s' ar' = true ↔ k = k' ∧ n = n' ∧ s = s' ∧ ar = ar' := by
  simp [same1, Ts.same_iff, and_assoc]
theorem Ts.app_inj {D R R' : Ts} (h : D.app R = D.app R') : R = R' := by
  induction D with
  | nil => exact h
  | cons k n s ar r _ ih => simp only [Ts.app, Ts.cons.injEq] at h; exact ih h.2.2.2.2
theorem Ts.same_stop {T U D r1 r2 a1 a2 : Ts} {k1 n1 k2 n2 : Int} {s1 s2 : ByteArray} (hT : T = D.app (.cons k1 n1 s1 a1 r1)) (hU : U = D.app (.cons k2 n2 s2 a2 r2))
    (h : same1 k1 n1 s1 a1 k2 n2 s2 a2 = false) : T.same U = false := by
  rw [Bool.eq_false_iff, ne_eq, Ts.same_iff, hT, hU]
  intro e
  have := Ts.app_inj e
  simp only [Ts.cons.injEq] at this
  rw [Bool.eq_false_iff, ne_eq, same1_iff] at h
  exact h ⟨this.1, this.2.1, this.2.2.1, this.2.2.2.1⟩
theorem SameRel.step {W wr w2 : World} {T U D r1 r2 a1 a2 : Ts} {k1 n1 k2 n2 : Int} {s1 s2 : ByteArray} (hT : T = D.app (.cons k1 n1 s1 a1 r1)) (hU : U = D.app (.cons k2 n2 s2 a2 r2))
    (hR : (Ts.cons k1 n1 s1 a1 r1).length = (Ts.cons k2 n2 s2 a2 r2).length) (h : same1 k1 n1 s1 a1 k2 n2 s2 a2 = true) (hb : Below W.heap.size W wr) (hb2 : Below wr.heap.size wr w2) :
    SameRel W T U r1.length (.int .i64 ((D.length : Int) + 1)) w2 := by
  obtain ⟨rfl, rfl, rfl, rfl⟩ := same1_iff.1 h
  refine ⟨D.app (.cons k1 n1 s1 a1 .nil), r1, r2, by rw [hT, Ts.app_assoc]; rfl, by rw [hU, Ts.app_assoc]; rfl, by simpa [Ts.length] using hR, rfl, ?_, hb.trans (hb2.mono hb.size)⟩
  rw [Ts.length_app]; rfl

end Go.Proofs.Ytjicoifjgokoiab
namespace Go.Proofs.Ytjicoifjgokoiab.K
open Go.RowKit
set_option maxRecDepth 100000

def SameSaid (T U : Ts) : Prop := ∀ (k n : Int) (s : ByteArray) (v : Value) (k' n' : Int) (s' : ByteArray) (v' : Value) (w : World), Sl w (fun _ => True) v T → Sl w (fun _ => True) v' U → T.nodes ≤ 1073741824 → U.nodes ≤ 1073741824 →
    Calls Try.prog 32 #[.agg #[.int .i64 k, .int .i64 n, .string s, v], .agg #[.int .i64 k', .int .i64 n', .string s', v']] w fun e w' => e = .returned (.bool (same1 k n s T k' n' s' U)) ∧ Below w.heap.size w w'

set_option maxHeartbeats 400000 in
theorem sameTerm_of (m : Nat) (ih : ∀ T U : Ts, T.nodes < m → SameSaid T U) (T U : Ts) (hm : T.nodes ≤ m) : SameSaid T U := by
  intro k n s v k' n' s' v' w hv hv' hT hU
  obtain ⟨A, c, rfl, hs⟩ := hv.form
  obtain ⟨A', c', rfl, hs'⟩ := hv'.form
  have hle := T.length_le
  by_cases hk : k ≠ k'
  · have r : same1 k n s T k' n' s' U = false := by simp [same1, hk]
    rw [r]
    have hk' : (k != k') = true := by simp [hk]
    clear r hk
    go_enter Try.func32, Try.ntmps32
    go_wp2_with fail
    go_ret
    exact ⟨rfl, ((Below.refl _ _).alloc (Nat.le_refl _) _).alloc (by simp) _⟩
  obtain rfl : k = k' := by simpa using hk
  by_cases hn : n ≠ n'
  · have r : same1 k n s T k n' s' U = false := by simp [same1, hn]
    rw [r]
    have hn' : (n != n') = true := by simp [hn]
    clear r hk hn
    go_enter Try.func32, Try.ntmps32
    go_wp2_with fail
    go_ret
    exact ⟨rfl, ((Below.refl _ _).alloc (Nat.le_refl _) _).alloc (by simp) _⟩
  obtain rfl : n = n' := by simpa using hn
  by_cases hs0 : s ≠ s'
  · have r : same1 k n s T k n s' U = false := by simp [same1, hs0]
    rw [r]
    have hs1 : (s.toList == s'.toList) = false := by simp [str_eq, hs0]
    clear r hk hn hs0
    go_enter Try.func32, Try.ntmps32
    go_wp2_with fail
    go_ret
    exact ⟨rfl, ((Below.refl _ _).alloc (Nat.le_refl _) _).alloc (by simp) _⟩
  obtain rfl : s = s' := by simpa using hs0
  by_cases hl : T.length ≠ U.length
  · have r : same1 k n s T k n s U = false := by
      have : T.same U = false := by
        rw [Bool.eq_false_iff, ne_eq, Ts.same_iff]; exact fun e => hl (by rw [e])
      simp [same1, this]
    rw [r]
    have hl' : ((T.length : Int) != (U.length : Int)) = true := by rw [bne_iff_ne]; omega
    clear r hk hn hs0
    go_enter Try.func32, Try.ntmps32
    go_wp2_with fail
    go_ret
    exact ⟨rfl, ((Below.refl _ _).alloc (Nat.le_refl _) _).alloc (by simp) _⟩
  have hl' : ((T.length : Int) != (U.length : Int)) = false := by rw [bne_eq_false_iff_eq]; omega
  have r : same1 k n s T k n s U = T.same U := by simp [same1]
  rw [r]
  have HL : Hid (T.length = U.length) := Lib.hid (by simpa using hl)
  clear r hk hn hs0 hl
  have h0 : SameRel ((w.alloc (.cells #[.int .i64 k, .int .i64 n, .string s, .slice A T.length c] 39)).alloc (.cells #[.int .i64 k, .int .i64 n, .string s, .slice A' U.length c'] 39)) T U T.length (.int .i64 0)
      ((w.alloc (.cells #[.int .i64 k, .int .i64 n, .string s, .slice A T.length c] 39)).alloc (.cells #[.int .i64 k, .int .i64 n, .string s, .slice A' U.length c'] 39)) :=
    ⟨.nil, T, U, rfl, rfl, HL.out, rfl, rfl, Below.refl _ _⟩
  have hW : Below w.heap.size w ((w.alloc (.cells #[.int .i64 k, .int .i64 n, .string s, .slice A T.length c] 39)).alloc (.cells #[.int .i64 k, .int .i64 n, .string s, .slice A' U.length c'] 39)) :=
    ((Below.refl _ _).alloc (Nat.le_refl _) _).alloc (by simp) _
  go_enter Try.func32, Try.ntmps32
  go_wp2_with fail
  go_loopg [37] T.length (SameRel ((w.alloc (.cells #[.int .i64 k, .int .i64 n, .string s, .slice A T.length c] 39)).alloc (.cells #[.int .i64 k, .int .i64 n, .string s, .slice A' U.length c'] 39)) T U)
  case atStart => exact h0
  case round =>
    clear h0
    obtain ⟨D, R, R', eT, eU, eR, eg, rfl, hb⟩ := hrel
    have hbw : Below w.heap.size w wr := hW.trans (hb.mono (by simp; omega))
    cases R with
    | nil =>
      have e1 : D.length = T.length := by rw [eT, Ts.app_nil]
      have hres : T.same U = true := by
        rw [Ts.same_iff, eT, eU, Ts.nil_of_length (T := R') eR.symm]
      have HS := Lib.hid hres
      clear hres eT eU eR eg
      go_wp2_with fail
      go_ret
      exact ⟨by rw [HS.out]; rfl, hbw⟩
    | cons k1 n1 s1 a1 r1 =>
      cases R' with
      | nil => simp [Ts.length] at eR
      | cons k2 n2 s2 a2 r2 =>
      obtain ⟨f0, f1, f2, f3, ff⟩ := (((Plot.new w 39 #[.int .i64 k, .int .i64 n, .string s, .slice A T.length c]).alloc (.cells #[.int .i64 k, .int .i64 n, .string s, .slice A' U.length c'] 39)).below hb).four
      obtain ⟨g0, g1, g2, g3, gf⟩ := ((Plot.new (w.alloc (.cells #[.int .i64 k, .int .i64 n, .string s, .slice A T.length c] 39)) 39 #[.int .i64 k, .int .i64 n, .string s, .slice A' U.length c']).below hb).four
      simp only [World.size_alloc] at g3
      clear f0 f1 f2 ff g0 g1 g2 gf
      have e1 : D.length < T.length := by rw [eT, Ts.length_app]; simp [Ts.length]
      have e2 : D.length < U.length := by rw [eU, Ts.length_app]; simp [Ts.length]
      have e3 : a1.nodes < m ∧ a1.nodes ≤ 1073741824 := by rw [eT, Ts.nodes_app] at hm hT; simp [Ts.nodes] at hm hT; omega
      have e4 : a2.nodes ≤ 1073741824 := by rw [eU, Ts.nodes_app] at hU; simp [Ts.nodes] at hU; omega
      have hs2 := (hs.below hbw)
      have hs3 := (hs'.below hbw)
      obtain ⟨b1, o1, rfl, hq1⟩ := Sl.at_ (D := D) (R := .cons k1 n1 s1 a1 r1) (by rw [← eT]; exact hs2) (by simp [Ts.length])
      obtain ⟨b2, o2, rfl, hq2⟩ := Sl.at_ (D := D) (R := .cons k2 n2 s2 a2 r2) (by rw [← eU]; exact hs3) (by simp [Ts.length])
      obtain ⟨_, c10, c11, c12, ⟨v1, c13, hv1⟩, _⟩ := seg_cons.1 hq1
      obtain ⟨_, c20, c21, c22, ⟨v2, c23, hv2⟩, _⟩ := seg_cons.1 hq2
      have HT := Lib.hid eT
      have HU := Lib.hid eU
      have HG := Lib.hid eg
      have HR := Lib.hid eR
      clear eT eU eg eR hs2 hs3 hq1 hq2
      go_wp2_with fail
      go_still_tail 10, (by kernel_rfl)
      change wpList _ _ _ _ _ wr.drew
      obtain ⟨A1, d1, rfl, hv1⟩ := hv1.form
      obtain ⟨A2, d2, rfl, hv2⟩ := hv2.form
      go_wp2_with fail
      refine (ih a1 a2 e3.1 k1 n1 s1 _ k2 n2 s2 _ _ ?_ ?_ e3.2 e4).mono ?_
      · exact hv1.below (below_drewN _ wr 1)
      · exact hv2.below (below_drewN _ wr 1)
      rintro e w2 ⟨rfl, hb2⟩
      have hb3 : Below wr.heap.size wr w2 := (below_drewN _ wr 1).trans hb2
      cases hsame : same1 k1 n1 s1 a1 k2 n2 s2 a2 with
      | false =>
        have hres : T.same U = false := Ts.same_stop HT.out HU.out hsame
        have HS := Lib.hid hres
        clear hres hsame
        go_wp2_with fail
        go_ret
        exact ⟨by rw [HS.out]; rfl, hbw.trans (hb3.mono hbw.size)⟩
      | true =>
        have HS := Lib.hid hsame
        clear hsame
        go_wp2_with fail
        go_roundg r1.length
        case measure => rw [HG.out]; simp [Ts.length]
        case rel => exact SameRel.step HT.out HU.out HR.out HS.out hb hb3

theorem same_said (T U : Ts) : SameSaid T U := by
  have : ∀ m, ∀ T U : Ts, T.nodes < m → SameSaid T U := by
    intro m
    induction m with
    | zero => intro T U h; omega
    | succ m ih => intro T U h; exact sameTerm_of m ih T U (by omega)
  exact this _ T U (Nat.lt_succ_self _)

set_option maxHeartbeats 400000 in
theorem sameTerms_any (T U : Ts) (v v' : Value) (w : World) (hv : Sl w (fun _ => True) v T) (hv' : Sl w (fun _ => True) v' U) (hT : T.nodes ≤ 1073741824) (hU : U.nodes ≤ 1073741824) :
    Calls Try.prog 35 #[v, v'] w fun e w' => e = .returned (.bool (T.same U)) ∧ Below w.heap.size w w' := by
  obtain ⟨A, c, rfl, hs⟩ := hv.form
  obtain ⟨A', c', rfl, hs'⟩ := hv'.form
  have hle := T.length_le
  by_cases hl : T.length ≠ U.length
  · have r : T.same U = false := by
      rw [Bool.eq_false_iff, ne_eq, Ts.same_iff]; exact fun e => hl (by rw [e])
    rw [r]
    have hl' : ((T.length : Int) != (U.length : Int)) = true := by rw [bne_iff_ne]; omega
    clear r
    go_enter Try.func35, Try.ntmps35
    go_wp2_with fail
    go_ret
    exact ⟨rfl, Below.refl _ _⟩
  have hl' : ((T.length : Int) != (U.length : Int)) = false := by rw [bne_eq_false_iff_eq]; omega
  have HL : Hid (T.length = U.length) := Lib.hid (by simpa using hl)
  clear hl
  have h0 : SameRel w T U T.length (.int .i64 0) w := ⟨.nil, T, U, rfl, rfl, HL.out, rfl, rfl, Below.refl _ _⟩
  go_enter Try.func35, Try.ntmps35
  go_wp2_with fail
  go_loopg [13] T.length (SameRel w T U)
  case atStart => exact h0
  case round =>
    clear h0
    obtain ⟨D, R, R', eT, eU, eR, eg, rfl, hb⟩ := hrel
    cases R with
    | nil =>
      have e1 : D.length = T.length := by rw [eT, Ts.app_nil]
      have hres : T.same U = true := by
        rw [Ts.same_iff, eT, eU, Ts.nil_of_length (T := R') eR.symm]
      have HS := Lib.hid hres
      clear hres eT eU eR eg
      go_wp2_with fail
      go_ret
      exact ⟨by rw [HS.out]; rfl, hb⟩
    | cons k1 n1 s1 a1 r1 =>
      cases R' with
      | nil => simp [Ts.length] at eR
      | cons k2 n2 s2 a2 r2 =>
      have e1 : D.length < T.length := by rw [eT, Ts.length_app]; simp [Ts.length]
      have e2 : D.length < U.length := by rw [eU, Ts.length_app]; simp [Ts.length]
      have e3 : a1.nodes ≤ 1073741824 := by rw [eT, Ts.nodes_app] at hT; simp [Ts.nodes] at hT; omega
      have e4 : a2.nodes ≤ 1073741824 := by rw [eU, Ts.nodes_app] at hU; simp [Ts.nodes] at hU; omega
      have hs2 := (hs.below hb)
      have hs3 := (hs'.below hb)
      obtain ⟨b1, o1, rfl, hq1⟩ := Sl.at_ (D := D) (R := .cons k1 n1 s1 a1 r1) (by rw [← eT]; exact hs2) (by simp [Ts.length])
      obtain ⟨b2, o2, rfl, hq2⟩ := Sl.at_ (D := D) (R := .cons k2 n2 s2 a2 r2) (by rw [← eU]; exact hs3) (by simp [Ts.length])
      obtain ⟨_, c10, c11, c12, ⟨v1, c13, hv1⟩, _⟩ := seg_cons.1 hq1
      obtain ⟨_, c20, c21, c22, ⟨v2, c23, hv2⟩, _⟩ := seg_cons.1 hq2
      have HT := Lib.hid eT
      have HU := Lib.hid eU
      have HG := Lib.hid eg
      have HR := Lib.hid eR
      clear eT eU eg eR hs2 hs3 hq1 hq2
      go_wp2_with fail
      go_still_tail 8, (by kernel_rfl)
      change wpList _ _ _ _ _ wr.drew
      obtain ⟨A1, d1, rfl, hv1⟩ := hv1.form
      obtain ⟨A2, d2, rfl, hv2⟩ := hv2.form
      go_wp2_with fail
      refine (same_said a1 a2 k1 n1 s1 _ k2 n2 s2 _ _ ?_ ?_ e3 e4).mono ?_
      · exact hv1.below (below_drewN _ wr 1)
      · exact hv2.below (below_drewN _ wr 1)
      rintro e w2 ⟨rfl, hb2⟩
      have hb3 : Below wr.heap.size wr w2 := (below_drewN _ wr 1).trans hb2
      cases hsame : same1 k1 n1 s1 a1 k2 n2 s2 a2 with
      | false =>
        have hres : T.same U = false := Ts.same_stop HT.out HU.out hsame
        have HS := Lib.hid hres
        clear hres hsame
        go_wp2_with fail
        go_ret
        exact ⟨by rw [HS.out]; rfl, hb.trans (hb3.mono hb.size)⟩
      | true =>
        have HS := Lib.hid hsame
        clear hsame
        go_wp2_with fail
        go_roundg r1.length
        case measure => rw [HG.out]; simp [Ts.length]
        case rel => exact SameRel.step HT.out HU.out HR.out HS.out hb hb3
end Go.Proofs.Ytjicoifjgokoiab.K
namespace Go.Proofs.Ytjicoifjgokoiab
open Go.RowKit
set_option linter.unusedVariables false
set_option linter.unusedSimpArgs false

/-- From a one comes to b, over n Refs. -/
inductive WayN (L : List HC) : Nat → Int → Int → Prop
  | refl {a : Int} : WayN L 0 a a
  | step {n : Nat} {a b : Int} {c : HC} : hat L a = some c → c.k = 0 → c.n ≠ a → WayN L n c.n b → WayN L (n + 1) a b
theorem WayN.trans {L : List HC} {n m : Nat} {a b c : Int} (h : WayN L n a b) (g : WayN L m b c) : WayN L (n + m) a c := by
  induction h with
  | refl => rw [Nat.zero_add]; exact g
  | @step n a b d h1 h2 h3 h4 ih => rw [show n + 1 + m = (n + m) + 1 by omega]; exact .step h1 h2 h3 (ih g)
theorem WayN.ends {L : List HC} {n : Nat} {a b : Int} (h : WayN L n a b) {x : Int} : End L a x ↔ End L b x := by
  induction h with
  | refl => exact Iff.rfl
  | step h1 h2 h3 h4 ih =>
    rw [← ih]
    constructor
    · rintro ⟨m, hm⟩
      cases hm with
      | here g0 g1 => rw [h1] at g0; cases g0; exact absurd ⟨h2, h3⟩ g1
      | there g0 g1 g2 g3 => rw [h1] at g0; cases g0; exact ⟨_, g3⟩
    · rintro ⟨m, hm⟩; exact ⟨m + 1, .there h1 h2 h3 hm⟩
theorem WayN.look {L : List HC} {n : Nat} {a b : Int} (h : WayN L n a b) : hlook L a = hlook L b := by
  by_cases he : ∃ x, End L b x
  · obtain ⟨x, hx⟩ := he
    rw [hx.look, (h.ends.2 hx).look]
  · rw [hlook_none he, hlook_none fun ⟨x, hx⟩ => he ⟨x, h.ends.1 hx⟩]
theorem WayN.endsN {L : List HC} {n m : Nat} {a b x : Int} (h : WayN L n a b) (g : EndsN L m b x) : EndsN L (n + m) a x := by
  induction h with
  | refl => rw [Nat.zero_add]; exact g
  | @step n a b d h1 h2 h3 h4 ih => rw [show n + 1 + m = (n + m) + 1 by omega]; exact .there h1 h2 h3 (ih g)
/-- A way round has no end. -/
theorem WayN.round {L : List HC} {n : Nat} {a : Int} (h : WayN L (n + 1) a a) : hlook L a = -1 := by
  refine hlook_none fun ⟨x, m, hm⟩ => ?_
  have := ((h.endsN hm).det hm).1
  omega
theorem hlook_self {L : List HC} {a : Int} {c : HC} (h : hat L a = some c) (hb : ¬ (c.k = 0 ∧ c.n ≠ a)) : hlook L a = a := End.look ⟨0, .here h hb⟩
/-- What is noted of places. -/
def PInv (L : List HC) (P : List Int) : Prop := P.length = L.length ∧ ∀ (i : Nat) (v : Int), P[i]? = some v → v = -2 ∨ v = hlook L (i : Int)
/-- On the way from a, now at e. -/
def PMid (L : List HC) (P : List Int) (a e : Int) : Prop := P.length = L.length ∧ (∃ n, WayN L n a e) ∧ ∀ (i : Nat) (v : Int), P[i]? = some v → v = -2 ∨ v = hlook L (i : Int) ∨ (v = -1 ∧ (∃ n, WayN L n a (i : Int)) ∧ ∃ n, WayN L (n + 1) (i : Int) e)
theorem PInv.mid {L : List HC} {P : List Int} (h : PInv L P) (a : Int) : PMid L P a a := ⟨h.1, ⟨0, .refl⟩, fun i v hv => (h.2 i v hv).imp id .inl⟩
/-- One step on. -/
theorem PMid.next {L : List HC} {P : List Int} {a e : Int} {c : HC} (h : PMid L P a e) (he : hat L e = some c) (hk : c.k = 0) (hn : c.n ≠ e) : PMid L (P.set e.toNat (-1)) a c.n := by
  obtain ⟨n, hw⟩ := h.2.1
  have h1 : WayN L 1 e c.n := .step he hk hn .refl
  refine ⟨by rw [List.length_set]; exact h.1, ⟨n + 1, hw.trans h1⟩, fun i v hv => ?_⟩
  rw [List.getElem?_set] at hv
  split at hv
  · rename_i hi
    split at hv
    · simp only [Option.some.injEq] at hv
      have e0 := (hatS.1 he).1
      rw [show ((i : Nat) : Int) = e by omega]
      exact .inr (.inr ⟨hv.symm, ⟨n, hw⟩, 0, h1⟩)
    · cases hv
  · rcases h.2.2 i v hv with h2 | h2 | ⟨h2, h3, m, h4⟩
    · exact .inl h2
    · exact .inr (.inl h2)
    · exact .inr (.inr ⟨h2, h3, m + 1, h4.trans h1⟩)
/-- Something is noted there. -/
theorem PMid.known {L : List HC} {P : List Int} {a e : Int} {v : Int} (h : PMid L P a e) (e0 : 0 ≤ e) (hv : P[e.toNat]? = some v) (hne : v ≠ -2) : v = hlook L a := by
  obtain ⟨n, hw⟩ := h.2.1
  rw [hw.look]
  have ee : ((e.toNat : Nat) : Int) = e := by omega
  rcases h.2.2 e.toNat v hv with h2 | h2 | ⟨h2, _, m, h4⟩
  · exact absurd h2 hne
  · rw [ee] at h2; exact h2
  · rw [ee] at h4; rw [h4.round]; exact h2
/-- It leads nowhere: all that is on the way is told. -/
theorem PMid.nowhere {L : List HC} {P : List Int} {a e : Int} (h : PMid L P a e) (hn : hlook L a < 0) : PInv L P := by
  obtain ⟨n, hw⟩ := h.2.1
  have hm : hlook L a = -1 := by
    rcases hlookF_end (L := L) L.length a with h1 | ⟨c, h1, _⟩
    · exact h1
    · have := (hatS.1 h1).1; unfold hlook at hn; omega
  refine ⟨h.1, fun i v hv => ?_⟩
  rcases h.2.2 i v hv with h2 | h2 | ⟨h2, ⟨m, h3⟩, _⟩
  · exact .inl h2
  · exact .inr h2
  · right; rw [h2, ← h3.look, hm]
/-- The end is told. -/
theorem PMid.told {L : List HC} {P : List Int} {a e : Int} {c : HC} (h : PMid L P a e) (he : hat L e = some c) (hb : ¬ (c.k = 0 ∧ c.n ≠ e)) : PMid L (P.set e.toNat e) a e := by
  refine ⟨by rw [List.length_set]; exact h.1, h.2.1, fun i v hv => ?_⟩
  rw [List.getElem?_set] at hv
  split at hv
  · rename_i hi
    split at hv
    · simp only [Option.some.injEq] at hv
      have e0 := (hatS.1 he).1
      rw [show ((i : Nat) : Int) = e by omega]
      exact .inr (.inl (by rw [hlook_self he hb]; exact hv.symm))
    · cases hv
  · exact h.2.2 i v hv
/-- From a on to e is left to tell. -/
theorem PMid.fin {L : List HC} {P : List Int} {e : Int} (h : PMid L P e e) (hn : ¬ hlook L e < 0) : PInv L P := by
  refine ⟨h.1, fun i v hv => ?_⟩
  rcases h.2.2 i v hv with h2 | h2 | ⟨h2, ⟨m, h3⟩, k, h4⟩
  · exact .inl h2
  · exact .inr h2
  · have := (h3.trans h4)
    rw [show m + (k + 1) = (m + k) + 1 by omega] at this
    rw [this.round] at hn; exact absurd (by decide) hn
theorem PMid.tell {L : List HC} {P : List Int} {a e : Int} {c : HC} (h : PMid L P a e) (hne : a ≠ e) (ha : hat L a = some c) : c.k = 0 ∧ c.n ≠ a ∧ PMid L (P.set a.toNat (hlook L a)) c.n e := by
  obtain ⟨n, hw⟩ := h.2.1
  cases hw with
  | refl => exact absurd rfl hne
  | step h1 h2 h3 h4 =>
    rw [ha] at h1; cases h1
    refine ⟨h2, h3, by rw [List.length_set]; exact h.1, ⟨_, h4⟩, fun i v hv => ?_⟩
    have a0 := (hatS.1 ha).1
    rw [List.getElem?_set] at hv
    split at hv
    · rename_i hi
      split at hv
      · simp only [Option.some.injEq] at hv
        rw [show ((i : Nat) : Int) = a by omega]
        exact .inr (.inl hv.symm)
      · cases hv
    · rename_i hi
      rcases h.2.2 i v hv with g | g | ⟨g, ⟨m, g3⟩, k, g4⟩
      · exact .inl g
      · exact .inr (.inl g)
      · refine .inr (.inr ⟨g, ?_, k, g4⟩)
        cases g3 with
        | refl => omega
        | step q1 q2 q3 q4 => rw [ha] at q1; cases q1; exact ⟨_, q4⟩
theorem WayN.det {L : List HC} {n m : Nat} {a e : Int} (h : WayN L n a e) (g : WayN L m a e) (hn : ¬ hlook L a < 0) : n = m := by
  obtain ⟨k, hk⟩ := end_look (h.look ▸ hn)
  have h1 := h.endsN hk
  have h2 := g.endsN hk
  have := (h1.det h2).1
  omega
theorem count_set {P : List Int} {i : Nat} {x : Int} (hi : P[i]? = some (-2)) (hx : x ≠ -2) : (P.set i x).count (-2) < P.count (-2) := by
  have hl : i < P.length := by
    rcases Nat.lt_or_ge i P.length with h | h
    · exact h
    · rw [List.getElem?_eq_none h] at hi; cases hi
  have e : P[i] = -2 := by rw [List.getElem?_eq_getElem hl] at hi; simpa using hi
  rw [List.count_set hl, e]
  have hpos : 0 < P.count (-2) := List.count_pos_iff.2 (by rw [← e]; exact List.getElem_mem hl)
  simp [hx]
  omega
end Go.Proofs.Ytjicoifjgokoiab
namespace Go.Proofs.Ytjicoifjgokoiab
open Go.RowKit
set_option linter.unusedVariables false
set_option linter.unusedSimpArgs false

theorem stepLong {u : HU} (h : 400 ≤ u.w) : u.step.lg = true := by
  simp only [HU.step]; rw [decide_eq_true (by omega)]; simp
/-- Two looks, one after the other. -/
theorem looks_ok {u : HU} {a b : Int} (h : ((u.step.look a).2.look b).2.lg = false) :
    u.step.lg = false ∧ (u.step.look a).1 = hlook u.cs a ∧ ((u.step.look a).2.look b).1 = hlook u.cs b ∧ End u.cs a (hlook u.cs a) ∧ End u.cs b (hlook u.cs b) ∧ ((u.step.look a).2.look b).2.cs = u.cs ∧ ((u.step.look a).2.look b).2.tr = u.tr ∧ ((u.step.look a).2.look b).2.w = u.w + 1 := by
  have hwa := look_w u.step a
  have hwb := look_w (u.step.look a).2 b
  obtain ⟨hla, hb1, hb2⟩ := look_ok h
  obtain ⟨hls, ha1, ha2⟩ := look_ok hla
  rw [hwa.2.1] at hb1 hb2
  exact ⟨hls, ha1, hb1, end_look ha2, end_look hb2, by rw [hwb.2.1, hwa.2.1]; rfl, by rw [hwb.2.2, hwa.2.2]; rfl, by rw [hwb.1, hwa.1]; rfl⟩
/-- What a run that comes to an end without being long has made of two places. -/
structure One (a b : Int) (u : HU) (v : HU) : Prop where
  up : Up u.cs v.cs
  sm : ∀ L, Up v.cs L → Sm L a b
theorem all_one {n : Nat} {g : Int → Int → HU → Bool × HU} (hu : ∀ x y u, GU n u → u.lg = false → UU n u (g x y u)) (hg : ∀ x y u, GU n u → u.lg = false → (g x y u).1 = true → One x y u (g x y u).2) :
    ∀ (m : Nat) (x y : Int) (u : HU), GU n u → u.lg = false → (allU g m x y u).1 = true → Up u.cs (allU g m x y u).2.cs ∧ ∀ L, Up (allU g m x y u).2.cs L → ∀ i : Int, 0 ≤ i → i < m → Sm L (x + i) (y + i)
  | 0, x, y, u, h, hl, _ => ⟨Up.refl _, fun L _ i i0 i1 => by omega⟩
  | m + 1, x, y, u, h, hl, hr => by
    have h1 := hu x y u h hl
    simp only [allU] at hr ⊢
    by_cases hok : (g x y u).1 = true
    · rw [if_pos hok] at hr ⊢
      have o1 := hg x y u h hl hok
      obtain ⟨u1, u2⟩ := all_one hu hg m (x + 1) (y + 1) (g x y u).2 h1.gu (h1.ok hok) hr
      refine ⟨o1.up.trans u1, fun L hL i i0 i1 => ?_⟩
      by_cases hi : i = 0
      · subst hi
        have := o1.sm L (u1.trans hL)
        simpa using this
      · have := u2 L hL (i - 1) (by omega) (by omega)
        rw [show x + 1 + (i - 1) = x + i by omega, show y + 1 + (i - 1) = y + i by omega] at this
        exact this
    · rw [if_neg hok] at hr; exact absurd hr hok
theorem asg_one {n : Nat} {u : HU} (h : GU n u) {p q : Int} {x y : HC} (hx : hat u.cs p = some x) (hxk : x.k = 0) (hxe : x.n = p) (hy : hat u.cs q = some y) (hyk : y.k ≠ 0) (hr : (asgU p q u).1 = true) :
    (asgU p q u).2.cs = setN u.cs p.toNat q ∧ (asgU p q u).2.tr = u.tr ++ [p] ∧ q ≠ p := by
  have ho := occ_up (n := n) p 401 q u h.good h.wk
  unfold asgU at hr ⊢
  split at hr
  · cases hr
  · rename_i hn
    rw [if_neg hn]
    refine ⟨by simp only [HU.bind]; rw [ho.cs], by simp only [HU.bind]; rw [ho.tr], fun e => ?_⟩
    rw [e, hx] at hy; cases hy; exact hyk hxk
theorem uni_one {n : Nat} : ∀ (f : Nat) (a b : Int) (u : HU), GU n u → u.lg = false → (uniU f a b u).1 = true → One a b u (uniU f a b u).2
  | 0, a, b, u, h, hl, hr => by simp [uniU] at hr
  | f + 1, a, b, u, h, hl, hr => by
    have hg2 : GU n ((u.step.look a).2.look b).2 := (h.step.look a).look b
    simp only [uniU] at hr ⊢
    by_cases hl2 : ((u.step.look a).2.look b).2.lg = true
    · rw [if_pos hl2] at hr; cases hr
    have hl3 : ((u.step.look a).2.look b).2.lg = false := by simpa using hl2
    rw [if_neg hl2] at hr ⊢
    obtain ⟨_, ha, hb, ea, eb, hcs, htr, _⟩ := looks_ok hl3
    rw [ha, hb] at hr ⊢
    obtain ⟨x, hx, hxe⟩ := ea.last
    obtain ⟨y, hy, hye⟩ := eb.last
    generalize hp : hlook u.cs a = p at *
    generalize hq : hlook u.cs b = q at *
    generalize ((u.step.look a).2.look b).2 = v at *
    rw [show kindAt u.cs p = x.k by unfold kindAt; rw [hx], show kindAt u.cs q = y.k by unfold kindAt; rw [hy]] at hr ⊢
    have fin : ∀ {L1 : List HC} {z : Int}, Up u.cs L1 → End L1 a z → End L1 b z → ∀ {v' : HU}, v'.cs = L1 → One a b u v' := fun hU h1 h2 v' e => ⟨by rw [e]; exact hU, fun L hL => by
      rw [e] at hL
      obtain ⟨s, s1, s2⟩ := hL.ends _ _ h1
      obtain ⟨t, t1, t2⟩ := hL.ends _ _ h2
      have := s2.det t2
      subst this
      exact Sm.meet s1 t1⟩
    have bindOne : ∀ {r z : Int} {c : HC}, hat u.cs r = some c → c.k = 0 → c.n = r → End u.cs z z → z ≠ r → (∀ a', End u.cs a' r ∨ End u.cs a' z → End (setN u.cs r.toNat z) a' z) := fun hr' hk' hn' hz hne a' ha' => by
      obtain ⟨k1, k2⟩ := end_bind hr' hk' hn' hz hne
      rcases ha' with g | g
      · exact k2 _ g
      · exact k1 _ _ g hne
    by_cases hxk : x.k = 0
    · have hxn : x.n = p := Classical.byContradiction fun e => hxe ⟨hxk, e⟩
      rw [if_pos hxk] at hr ⊢
      by_cases hyk : y.k = 0
      · have hyn : y.n = q := Classical.byContradiction fun e => hye ⟨hyk, e⟩
        rw [if_pos hyk] at hr ⊢
        by_cases hpq : p = q
        · rw [if_pos hpq]
          subst hpq
          exact fin (Up.refl _) ea eb hcs
        · rw [if_neg hpq]
          rcases Int.le_total p q with hle | hle
          · rw [Int.max_eq_right hle, Int.min_eq_left hle]
            have := bindOne hy hyk hyn ea.self hpq
            exact fin (up_bind hy hyk hyn ea.self hpq) (this a (.inr ea)) (this b (.inl eb)) (by simp only [HU.bind]; rw [hcs])
          · rw [Int.max_eq_left hle, Int.min_eq_right hle]
            have := bindOne hx hxk hxn eb.self (Ne.symm hpq)
            exact fin (up_bind hx hxk hxn eb.self (Ne.symm hpq)) (this a (.inl ea)) (this b (.inr eb)) (by simp only [HU.bind]; rw [hcs])
      · rw [if_neg hyk] at hr ⊢
        obtain ⟨e1, _, hne⟩ := asg_one hg2 (p := p) (q := q) (by rw [hcs]; exact hx) hxk hxn (by rw [hcs]; exact hy) hyk hr
        rw [hcs] at e1
        have := bindOne hx hxk hxn eb.self hne
        exact fin (up_bind hx hxk hxn eb.self hne) (this a (.inl ea)) (this b (.inr eb)) e1
    · rw [if_neg hxk] at hr ⊢
      by_cases hyk : y.k = 0
      · have hyn : y.n = q := Classical.byContradiction fun e => hye ⟨hyk, e⟩
        rw [if_pos hyk] at hr ⊢
        obtain ⟨e1, _, hne⟩ := asg_one hg2 (p := q) (q := p) (by rw [hcs]; exact hy) hyk hyn (by rw [hcs]; exact hx) hxk hr
        rw [hcs] at e1
        have := bindOne hy hyk hyn ea.self hne
        exact fin (up_bind hy hyk hyn ea.self hne) (this a (.inr ea)) (this b (.inl eb)) e1
      · rw [if_neg hyk] at hr ⊢
        unfold partsU at hr ⊢
        by_cases hxy : hat v.cs p = hat v.cs q
        · rw [if_pos hxy] at hr ⊢
          obtain ⟨u1, u2⟩ := all_one (n := n) (fun x y u => uni_up f x y u) (fun x y u h hl hr => uni_one f x y u h hl hr) _ _ _ v hg2 hl3 hr
          replace u1 : Up u.cs (allU (uniU f) (argsAt v.cs p) (p + 1) (q + 1) v).2.cs := by rw [← hcs]; exact u1
          rw [hcs] at hxy
          rw [hx, hy] at hxy
          obtain rfl := Option.some.inj hxy
          have hA : argsAt v.cs p = (argsC x).toNat := by unfold argsAt; rw [hcs, hx]
          refine ⟨u1, fun L hL => ?_⟩
          have hU := u1.trans hL
          exact Sm.of (hU.nonvar ea hx hxk) (hU.nonvar eb hy hyk) (.inr ⟨x, hU.cell _ _ hx hxk, hU.cell _ _ hy hyk, hxk, fun i i0 i1 => u2 L hL i i0 (by rw [hA]; omega)⟩)
        · rw [if_neg hxy] at hr; cases hr
/-- What is one needs nothing more. -/
def Still (u : HU) (r : Bool × HU) : Prop := r.2.lg = true ∨ (r.1 = true ∧ r.2.cs = u.cs ∧ r.2.tr = u.tr ∧ u.w ≤ r.2.w ∧ r.2.lg = false)
theorem all_still {n : Nat} {g : Int → Int → HU → Bool × HU} {L : List HC} {k : Nat} (hu : ∀ x y u, GU n u → u.lg = false → UU n u (g x y u)) (hg : ∀ x y u, GU n u → u.lg = false → u.cs = L → k ≤ u.w → Sm L x y → Still u (g x y u)) :
    ∀ (m : Nat) (x y : Int) (u : HU), GU n u → u.lg = false → u.cs = L → k ≤ u.w → (∀ i : Int, 0 ≤ i → i < m → Sm L (x + i) (y + i)) → Still u (allU g m x y u)
  | 0, x, y, u, h, hl, hc, hw, _ => .inr ⟨rfl, rfl, rfl, Nat.le_refl _, hl⟩
  | m + 1, x, y, u, h, hl, hc, hw, hs => by
    have h1 := hu x y u h hl
    simp only [allU]
    rcases hg x y u h hl hc hw (by simpa using hs 0 (by omega) (by omega)) with h2 | ⟨h2, h3, h4, h5, h6⟩
    · by_cases hok : (g x y u).1 = true
      · rw [h1.ok hok] at h2; cases h2
      · rw [if_neg hok]; exact .inl h2
    · rw [if_pos h2]
      rcases all_still hu hg m (x + 1) (y + 1) (g x y u).2 h1.gu h6 (h3.trans hc) (by omega) (fun i i0 i1 => by
        have := hs (i + 1) (by omega) (by omega)
        rw [show x + 1 + i = x + (i + 1) by omega, show y + 1 + i = y + (i + 1) by omega]; exact this) with g2 | ⟨g2, g3, g4, g5, g6⟩
      · exact .inl g2
      · exact .inr ⟨g2, g3.trans h3, g4.trans h4, by omega, g6⟩
theorem uni_still {n : Nat} {L : List HC} : ∀ (f : Nat) (a b : Int) (u : HU), GU n u → u.lg = false → u.cs = L → 400 ≤ u.w + f → Sm L a b → Still u (uniU f a b u)
  | 0, a, b, u, h, hl, hc, hw, hs => by
    left
    simp only [uniU]
    cases hq : ((u.step.look a).2.look b).2.lg with
    | true => rfl
    | false => have := (looks_ok hq).1; rw [stepLong (by omega)] at this; cases this
  | f + 1, a, b, u, h, hl, hc, hw, hs => by
    have hg2 : GU n ((u.step.look a).2.look b).2 := (h.step.look a).look b
    simp only [uniU]
    by_cases hl2 : ((u.step.look a).2.look b).2.lg = true
    · rw [if_pos hl2]; exact .inl hl2
    have hl3 : ((u.step.look a).2.look b).2.lg = false := by simpa using hl2
    rw [if_neg hl2]
    obtain ⟨_, ha, hb, ea, eb, hcs, htr, hw2⟩ := looks_ok hl3
    rw [ha, hb]
    obtain ⟨x, hx, hxe⟩ := ea.last
    obtain ⟨y, hy, hye⟩ := eb.last
    have hstep := hs.step (by rw [← hc]; exact ea) (by rw [← hc]; exact eb)
    rw [← hc] at hstep
    generalize hlook u.cs a = p at *
    generalize hlook u.cs b = q at *
    generalize ((u.step.look a).2.look b).2 = v at *
    rw [show kindAt u.cs p = x.k by unfold kindAt; rw [hx], show kindAt u.cs q = y.k by unfold kindAt; rw [hy]]
    have parts : (∀ i : Int, 0 ≤ i → i < argsC x → Sm L (p + 1 + i) (q + 1 + i)) → hat u.cs p = hat u.cs q → Still u (partsU (uniU f) p q v) := fun hch he => by
      unfold partsU
      rw [if_pos (by rw [hcs]; exact he)]
      have hA : argsAt v.cs p = (argsC x).toNat := by unfold argsAt; rw [hcs, hx]
      rcases all_still (n := n) (L := L) (k := v.w) (fun x y u => uni_up f x y u) (fun x y u g1 g2 g3 g4 g5 => uni_still f x y u g1 g2 g3 (by omega) g5) (argsAt v.cs p) (p + 1) (q + 1) v hg2 hl3 (hcs.trans hc) (Nat.le_refl _) (fun i i0 i1 => hch i i0 (by rw [hA] at i1; omega)) with g2 | ⟨g2, g3, g4, g5, g6⟩
      · exact .inl g2
      · exact .inr ⟨g2, g3.trans hcs, g4.trans htr, by omega, g6⟩
    rcases hstep with e | ⟨c, h1, h2, h3, h4⟩
    · subst e
      rw [hx] at hy; cases hy
      by_cases hk : x.k = 0
      · rw [if_pos hk, if_pos hk, if_pos rfl]
        exact .inr ⟨rfl, hcs, htr, by show u.w ≤ v.w; omega, hl3⟩
      · rw [if_neg hk, if_neg hk]
        exact parts (fun i _ _ => Sm.refl L _) rfl
    · rw [hx] at h1; cases h1
      rw [hy] at h2; cases h2
      rw [if_neg h3, if_neg h3]
      exact parts (fun i i0 i1 => by rw [← hc]; exact h4 i i0 i1) (by rw [hx, hy])
end Go.Proofs.Ytjicoifjgokoiab
namespace Go.Proofs.Ytjicoifjgokoiab
open Go.RowKit
set_option linter.unusedVariables false
set_option linter.unusedSimpArgs false

/-- Of the cells of L just those at N, all unbound, have been told another number. -/
def Bd (N : List Int) (L L' : List HC) : Prop := (∀ r ∈ N, 0 ≤ r) ∧ ∀ i : Nat, ((i : Int) ∈ N → ∃ c n, L[i]? = some c ∧ c.k = 0 ∧ c.n = (i : Int) ∧ L'[i]? = some ⟨c.k, n, c.s⟩) ∧ ((i : Int) ∉ N → L'[i]? = L[i]?)
theorem Bd.refl (L : List HC) : Bd [] L L := ⟨fun r h => by simp at h, fun i => ⟨fun h => by simp at h, fun _ => rfl⟩⟩
theorem Bd.trans {N N' : List Int} {L L' L'' : List HC} (h : Bd N L L') (g : Bd N' L' L'') : Bd (N ++ N') L L'' := by
  refine ⟨fun r hr => (List.mem_append.1 hr).elim (h.1 r) (g.1 r), fun i => ⟨fun hi => ?_, fun hi => ?_⟩⟩
  · by_cases h1 : (i : Int) ∈ N
    · obtain ⟨c, n, c1, c2, c3, c4⟩ := (h.2 i).1 h1
      by_cases h2 : (i : Int) ∈ N'
      · obtain ⟨d, m, d1, d2, d3, d4⟩ := (g.2 i).1 h2
        rw [c4] at d1; cases d1
        exact ⟨c, m, c1, c2, c3, d4⟩
      · rw [← (g.2 i).2 h2] at c4
        exact ⟨c, n, c1, c2, c3, c4⟩
    · have h2 : (i : Int) ∈ N' := by rcases List.mem_append.1 hi with h | h; exact absurd h h1; exact h
      obtain ⟨d, m, d1, d2, d3, d4⟩ := (g.2 i).1 h2
      rw [(h.2 i).2 h1] at d1
      exact ⟨d, m, d1, d2, d3, d4⟩
  · rw [(g.2 i).2 (fun h' => hi (List.mem_append_right _ h')), (h.2 i).2 (fun h' => hi (List.mem_append_left _ h'))]
theorem Bd.one {L : List HC} {r y : Int} {c : HC} (hr : hat L r = some c) (hk : c.k = 0) (hn : c.n = r) : Bd [r] L (setN L r.toNat y) := by
  obtain ⟨r0, r1, r2⟩ := hatS.1 hr
  refine ⟨fun s hs => by simp at hs; omega, fun i => ⟨fun hi => ?_, fun hi => ?_⟩⟩
  · simp at hi
    have e : r.toNat = i := by omega
    rw [e] at r2 ⊢
    exact ⟨c, y, r2, hk, by omega, by rw [setN_get, if_pos rfl, r2]; rfl⟩
  · simp at hi
    rw [setN_get, if_neg (by omega)]
theorem undoL_get : ∀ (N : List Int) (L : List HC), (∀ r ∈ N, 0 ≤ r) → ∀ i : Nat, (undoL L N)[i]? = if (i : Int) ∈ N then (L[i]?).map (fun c => ⟨c.k, i, c.s⟩) else L[i]?
  | [], L, _, i => by simp [undoL]
  | r :: N, L, h, i => by
    have r0 := h r (by simp)
    unfold undoL
    rw [undoL_get N _ (fun s hs => h s (.tail _ hs)) i, setN_get]
    by_cases e : r.toNat = i
    · have e2 : (i : Int) = r := by omega
      have hm : (i : Int) ∈ r :: N := by rw [e2]; exact .head _
      rw [if_pos e, if_pos hm]
      by_cases h2 : (i : Int) ∈ N
      · rw [if_pos h2, Option.map_map]; rfl
      · rw [if_neg h2, e2]
    · rw [if_neg e]
      have : (i : Int) ∈ r :: N ↔ (i : Int) ∈ N := by
        simp only [List.mem_cons]
        constructor
        · rintro (h | h)
          · omega
          · exact h
        · exact .inr
      simp only [this]
theorem Bd.undo {N : List Int} {L L' : List HC} (h : Bd N L L') : undoL L' N = L := by
  refine List.ext_getElem? fun i => ?_
  rw [undoL_get N L' h.1 i]
  by_cases hi : (i : Int) ∈ N
  · rw [if_pos hi]
    obtain ⟨c, n, c1, c2, c3, c4⟩ := (h.2 i).1 hi
    rw [c4, c1, Option.map_some, ← c3]
  · rw [if_neg hi]; exact (h.2 i).2 hi
theorem Bd.kind {N : List Int} {L L' : List HC} (h : Bd N L L') {r : Int} {c : HC} (hr : hat L r = some c) : ∃ d, hat L' r = some d ∧ d.k = c.k := by
  obtain ⟨r0, r1, r2⟩ := hatS.1 hr
  have e : ((r.toNat : Nat) : Int) = r := by omega
  have key : ∃ d, L'[r.toNat]? = some d ∧ d.k = c.k := by
    by_cases hi : ((r.toNat : Nat) : Int) ∈ N
    · obtain ⟨d, n, c1, c2, c3, c4⟩ := (h.2 r.toNat).1 hi
      rw [r2] at c1; cases c1
      exact ⟨_, c4, rfl⟩
    · exact ⟨c, by rw [(h.2 r.toNat).2 hi]; exact r2, rfl⟩
  obtain ⟨d, d1, d2⟩ := key
  exact ⟨d, by unfold hat; rw [if_pos r0]; exact d1, d2⟩
/-- The trail says what has been bound. -/
def Trl (u v : HU) : Prop := ∃ N, v.tr = u.tr ++ N ∧ Bd N u.cs v.cs
theorem Trl.same {u v : HU} (h1 : v.cs = u.cs) (h2 : v.tr = u.tr) : Trl u v := ⟨[], by simp [h2], by rw [h1]; exact Bd.refl _⟩
theorem Trl.trans {u v w : HU} (h : Trl u v) (g : Trl v w) : Trl u w := by
  obtain ⟨N, h1, h2⟩ := h
  obtain ⟨N', g1, g2⟩ := g
  exact ⟨N ++ N', by rw [g1, h1, List.append_assoc], h2.trans g2⟩
theorem Trl.bind {u v : HU} {r y : Int} {c : HC} (hr : hat u.cs r = some c) (hk : c.k = 0) (hn : c.n = r) (h1 : v.cs = setN u.cs r.toNat y) (h2 : v.tr = u.tr ++ [r]) : Trl u v := ⟨[r], h2, by rw [h1]; exact Bd.one hr hk hn⟩
theorem all_trl {n : Nat} {g : Int → Int → HU → Bool × HU} (hu : ∀ x y u, GU n u → u.lg = false → UU n u (g x y u)) (hg : ∀ x y u, GU n u → u.lg = false → Trl u (g x y u).2) :
    ∀ (m : Nat) (x y : Int) (u : HU), GU n u → u.lg = false → Trl u (allU g m x y u).2
  | 0, x, y, u, h, hl => Trl.same rfl rfl
  | m + 1, x, y, u, h, hl => by
    have h1 := hu x y u h hl
    simp only [allU]
    split
    · rename_i hok
      exact (hg x y u h hl).trans (all_trl hu hg m (x + 1) (y + 1) _ h1.gu (h1.ok hok))
    · exact hg x y u h hl
theorem asg_trl {n : Nat} {u : HU} (h : GU n u) {p q : Int} {x : HC} (hx : hat u.cs p = some x) (hxk : x.k = 0) (hxe : x.n = p) : Trl u (asgU p q u).2 := by
  have ho := occ_up (n := n) p 401 q u h.good h.wk
  unfold asgU
  split
  · exact Trl.same ho.cs ho.tr
  · exact Trl.bind hx hxk hxe (by simp only [HU.bind]; rw [ho.cs]) (by simp only [HU.bind]; rw [ho.tr])
theorem uni_trl {n : Nat} : ∀ (f : Nat) (a b : Int) (u : HU), GU n u → u.lg = false → Trl u (uniU f a b u).2
  | f, a, b, u, h, hl => by
    have hg2 : GU n ((u.step.look a).2.look b).2 := (h.step.look a).look b
    have hwa := look_w u.step a
    have hwb := look_w (u.step.look a).2 b
    have hcs2 : ((u.step.look a).2.look b).2.cs = u.cs := by rw [hwb.2.1, hwa.2.1]; rfl
    have htr2 : ((u.step.look a).2.look b).2.tr = u.tr := by rw [hwb.2.2, hwa.2.2]; rfl
    have hfail : Trl u ((u.step.look a).2.look b).2 := Trl.same hcs2 htr2
    cases f with
    | zero => exact hfail
    | succ f =>
    simp only [uniU]
    by_cases hl2 : ((u.step.look a).2.look b).2.lg = true
    · rw [if_pos hl2]; exact hfail
    have hl3 : ((u.step.look a).2.look b).2.lg = false := by simpa using hl2
    rw [if_neg hl2]
    obtain ⟨_, ha, hb, ea, eb, hcs, htr, _⟩ := looks_ok hl3
    rw [ha, hb]
    obtain ⟨x, hx, hxe⟩ := ea.last
    obtain ⟨y, hy, hye⟩ := eb.last
    generalize hlook u.cs a = p at *
    generalize hlook u.cs b = q at *
    generalize ((u.step.look a).2.look b).2 = v at *
    rw [show kindAt u.cs p = x.k by unfold kindAt; rw [hx], show kindAt u.cs q = y.k by unfold kindAt; rw [hy]]
    by_cases hxk : x.k = 0
    · have hxn : x.n = p := Classical.byContradiction fun e => hxe ⟨hxk, e⟩
      rw [if_pos hxk]
      by_cases hyk : y.k = 0
      · have hyn : y.n = q := Classical.byContradiction fun e => hye ⟨hyk, e⟩
        rw [if_pos hyk]
        by_cases hpq : p = q
        · rw [if_pos hpq]; exact hfail
        · rw [if_neg hpq]
          rcases Int.le_total p q with hle | hle
          · rw [Int.max_eq_right hle, Int.min_eq_left hle]
            exact Trl.bind hy hyk hyn (by simp only [HU.bind]; rw [hcs]) (by simp only [HU.bind]; rw [htr])
          · rw [Int.max_eq_left hle, Int.min_eq_right hle]
            exact Trl.bind hx hxk hxn (by simp only [HU.bind]; rw [hcs]) (by simp only [HU.bind]; rw [htr])
      · rw [if_neg hyk]
        exact hfail.trans (asg_trl hg2 (by rw [hcs]; exact hx) hxk hxn)
    · rw [if_neg hxk]
      by_cases hyk : y.k = 0
      · have hyn : y.n = q := Classical.byContradiction fun e => hye ⟨hyk, e⟩
        rw [if_pos hyk]
        exact hfail.trans (asg_trl hg2 (by rw [hcs]; exact hy) hyk hyn)
      · rw [if_neg hyk]
        unfold partsU
        split
        · exact hfail.trans (all_trl (n := n) (fun x y u => uni_up f x y u) (fun x y u h hl => uni_trl f x y u h hl) _ _ _ v hg2 hl3)
        · exact hfail
theorem hpure_gu {h : HH} (hg : goodH h = true) : GU h.cs.length ⟨h.cs, h.tr, 0, false⟩ := by
  unfold goodH goodCs goodTr at hg
  simp only [Bool.and_eq_true, decide_eq_true_eq] at hg
  exact ⟨rfl, hg.1.2, fun _ => by show (0 : Nat) ≤ 400; omega, by show h.tr.length ≤ 65536 + 0; omega⟩
/-- What Unify gives when two places could be made one. -/
theorem unify_ok {h u : HH} {a b : Int} {e : Int} (hu : unifyH h a b = (u, true, e)) : goodH h = true ∧ e = 0 ∧ goodH u = true ∧ Sm u.cs a b ∧ undoH u (h.tr.length : Nat) = (h, 0) ∧ isAddr u.cs a = true ∧ isAddr u.cs b = true ∧ u.tr.length ≤ 65536 := by
  unfold unifyH at hu
  by_cases hg : goodH h = false
  · rw [if_pos hg] at hu; simp at hu
  rw [if_neg hg] at hu
  have hg : goodH h = true := by simpa using hg
  by_cases hab : (isAddr h.cs a && isAddr h.cs b) = false
  · rw [if_pos hab] at hu; simp at hu
  rw [if_neg hab] at hu
  have hab : isAddr h.cs a = true ∧ isAddr h.cs b = true := by simpa using hab
  have hG := hpure_gu hg
  have huu := uni_up 401 a b _ hG rfl
  have hone := uni_one 401 a b _ hG rfl
  have htrl := uni_trl 401 a b _ hG rfl
  generalize uniU 401 a b ⟨h.cs, h.tr, 0, false⟩ = r at *
  split at hu
  · simp at hu
  rename_i hn
  split at hu
  · simp at hu
  rename_i hok
  simp only [Prod.mk.injEq, true_and] at hu
  obtain ⟨rfl, rfl⟩ := hu
  have hok : r.1 = true := by simpa using hok
  have hlen : r.2.tr.length ≤ 65536 := by
    rcases Nat.lt_or_ge 65536 r.2.tr.length with h1 | h1
    · exact absurd (.inr ⟨hok, h1⟩) hn
    · exact h1
  obtain ⟨N, t1, t2⟩ := htrl
  replace t1 : r.2.tr = h.tr ++ N := t1
  replace t2 : Bd N h.cs r.2.cs := t2
  have hln := huu.gu.len
  have hgu : goodH ⟨r.2.cs, r.2.tr⟩ = true := by
    have hg' := hg
    unfold goodH goodCs goodTr at hg ⊢
    simp only [Bool.and_eq_true, decide_eq_true_eq, List.all_eq_true] at hg ⊢
    refine ⟨⟨by rw [hln]; exact hg.1.1, by rw [hln]; exact huu.gu.good⟩, hlen, fun s hs => ?_⟩
    rw [t1] at hs
    unfold goodTr1
    rcases List.mem_append.1 hs with hs | hs
    · have := hg.2.2 s hs
      unfold goodTr1 at this
      split at this
      · rename_i c hc
        obtain ⟨d, d1, d2⟩ := t2.kind hc
        rw [d1]; dsimp only; rw [d2]; exact this
      · cases this
    · have s0 := t2.1 s hs
      have e : ((s.toNat : Nat) : Int) = s := by omega
      obtain ⟨c, n, c1, c2, c3, c4⟩ := (t2.2 s.toNat).1 (by rw [e]; exact hs)
      rw [show hat r.2.cs s = some ⟨c.k, n, c.s⟩ by unfold hat; rw [if_pos s0]; exact c4]
      simp [c2]
  refine ⟨hg, rfl, hgu, (hone hok).sm _ (Up.refl _), ?_, ?_, ?_, hlen⟩
  · unfold undoH
    rw [if_neg (by rw [hgu]; decide), if_neg (by dsimp only; rw [t1]; simp; omega)]
    dsimp only
    rw [t1, show ((h.tr.length : Nat) : Int).toNat = h.tr.length by omega, List.drop_left, List.take_left, t2.undo]
  · have := hab.1; unfold isAddr at this ⊢; rw [hln]; exact this
  · have := hab.2; unfold isAddr at this ⊢; rw [hln]; exact this
theorem unify_not {h u : HH} {a b : Int} {e : Int} (hu : unifyH h a b = (u, false, e)) : u = h := by
  unfold unifyH at hu
  by_cases h1 : goodH h = false
  · rw [if_pos h1] at hu; simp at hu; exact hu.1.symm
  rw [if_neg h1] at hu
  by_cases h2 : (isAddr h.cs a && isAddr h.cs b) = false
  · rw [if_pos h2] at hu; simp at hu; exact hu.1.symm
  rw [if_neg h2] at hu
  split at hu
  · simp at hu; exact hu.1.symm
  · split at hu
    · simp at hu; exact hu.1.symm
    · simp at hu
/-- What is one is one again, unless that takes too long. -/
theorem unify_again {u : HH} {a b : Int} (hg : goodH u = true) (ha : isAddr u.cs a = true) (hb : isAddr u.cs b = true) (hs : Sm u.cs a b) : unifyH u a b = (u, false, 3) ∨ unifyH u a b = (u, true, 0) := by
  have hG := hpure_gu hg
  have htl : u.tr.length ≤ 65536 := by
    unfold goodH goodTr at hg
    simp only [Bool.and_eq_true, decide_eq_true_eq] at hg
    exact hg.2.1
  have hst := uni_still (L := u.cs) 401 a b _ hG rfl rfl (by show 400 ≤ 0 + 401; omega) hs
  unfold unifyH
  rw [if_neg (by rw [hg]; decide), ha, hb, if_neg (by decide)]
  generalize uniU 401 a b ⟨u.cs, u.tr, 0, false⟩ = r at *
  rcases hst with h1 | ⟨h1, h2, h3, h4, h5⟩
  · rw [if_pos (.inl h1)]; exact .inl rfl
  · replace h2 : r.2.cs = u.cs := h2
    replace h3 : r.2.tr = u.tr := h3
    rw [if_neg (by rw [h5, h3]; simp; omega), if_neg (by rw [h1]; decide), h2, h3]
    exact .inr rfl
end Go.Proofs.Ytjicoifjgokoiab
namespace Go.Proofs.Ytjicoifjgokoiab
open Go.RowKit
set_option linter.unusedVariables false
set_option linter.unusedSimpArgs false

/-- The terms at m places from a on: g gives the one at a place. -/
def listT (g : Int → Nat → Option (Tm × Nat)) : Nat → Int → Nat → Option (Ts × Nat)
  | 0, _, l => some (.nil, l)
  | m + 1, a, l => (g a l).bind fun p => (listT g m (a + 1) p.2).map fun q => (.cons p.1.k p.1.n p.1.s p.1.ar q.1, q.2)
/-- The term at a place, and how many nodes are left; none: there are not enough, or a Ref leads nowhere. -/
def tmAt (L : List HC) : Nat → Int → Nat → Option (Tm × Nat)
  | 0, _, _ => none
  | f + 1, a, l => if l = 0 then none else match hat L (hlook L a) with
    | none => none
    | some c => if c.k = 0 then some (⟨0, hlook L a, eS, .nil⟩, l - 1)
      else if c.k = 1 then some (⟨1, 0, c.s, .nil⟩, l - 1)
      else if c.k = 2 then some (⟨2, c.n, eS, .nil⟩, l - 1)
      else (listT (tmAt L f) (argsC c).toNat (hlook L a + 1) (l - 1)).map fun p => (⟨3, 0, c.s, p.1⟩, p.2)
def zeroTm : Tm := ⟨0, 0, eS, .nil⟩
def mostN (most : Int) : Nat := (min most 65536).toNat
def termH (h : HH) (a most : Int) : Tm × Nat × Int :=
  if goodH h = false then (zeroTm, 0, 1)
  else if isAddr h.cs a = false then (zeroTm, 0, 4)
  else match tmAt h.cs (mostN most) a (mostN most) with
    | none => (zeroTm, 0, 3)
    | some (t, l) => (t, mostN most - l, 0)
theorem tmAt_hat {L : List HC} {f : Nat} {a : Int} {l : Nat} {c : HC} (hl : l ≠ 0) (hc : hat L (hlook L a) = some c) : tmAt L (f + 1) a l = if c.k = 0 then some (⟨0, hlook L a, eS, .nil⟩, l - 1)
      else if c.k = 1 then some (⟨1, 0, c.s, .nil⟩, l - 1)
      else if c.k = 2 then some (⟨2, c.n, eS, .nil⟩, l - 1)
      else (listT (tmAt L f) (argsC c).toNat (hlook L a + 1) (l - 1)).map fun p => (⟨3, 0, c.s, p.1⟩, p.2) := by
  simp only [tmAt]; rw [if_neg hl, hc]
theorem tmAt_none {L : List HC} {f : Nat} {a : Int} {l : Nat} (hc : hlook L a < 0) : tmAt L f a l = none := by
  cases f with
  | zero => rfl
  | succ f =>
    simp only [tmAt]
    split
    · rfl
    · rw [show hat L (hlook L a) = none by unfold hat; rw [if_neg (by omega)]]
theorem listT_sm {L : List HC} {g : Int → Nat → Option (Tm × Nat)} (hg : ∀ a b l, Sm L a b → g a l = g b l) : ∀ (m : Nat) (a b : Int) (l : Nat), (∀ i : Int, 0 ≤ i → i < m → Sm L (a + i) (b + i)) → listT g m a l = listT g m b l
  | 0, a, b, l, _ => rfl
  | m + 1, a, b, l, h => by
    simp only [listT]
    have h0 := h 0 (by omega) (by omega)
    rw [hg a b l (by simpa using h0)]
    congr 1
    funext p
    rw [listT_sm hg m (a + 1) (b + 1) p.2 fun i i0 i1 => by
      have := h (i + 1) (by omega) (by omega)
      rw [show a + 1 + i = a + (i + 1) by omega, show b + 1 + i = b + (i + 1) by omega]; exact this]
theorem tmAt_sm {L : List HC} : ∀ (f : Nat) (a b : Int) (l : Nat), Sm L a b → tmAt L f a l = tmAt L f b l
  | 0, a, b, l, _ => rfl
  | f + 1, a, b, l, h => by
    by_cases hl : l = 0
    · simp only [tmAt]; rw [if_pos hl, if_pos hl]
    rcases h.ends with e | ⟨x, y, hx, hy, e⟩
    · rw [e]
    obtain ⟨c, c1, _⟩ := hx.last
    obtain ⟨d, d1, _⟩ := hy.last
    rw [tmAt_hat hl (by rw [hx.look]; exact c1), tmAt_hat hl (by rw [hy.look]; exact d1), hx.look, hy.look]
    rcases e with e | ⟨z, z1, z2, z3, z4⟩
    · subst e; rw [c1] at d1; cases d1; rfl
    · rw [c1] at z1; cases z1
      rw [d1] at z2; cases z2
      rw [if_neg z3, if_neg z3]
      by_cases k1 : c.k = 1
      · rw [if_pos k1, if_pos k1]
      by_cases k2 : c.k = 2
      · rw [if_neg k1, if_neg k1, if_pos k2, if_pos k2]
      rw [if_neg k1, if_neg k1, if_neg k2, if_neg k2]
      rw [listT_sm (fun a b l => tmAt_sm f a b l) (argsC c).toNat (x + 1) (y + 1) (l - 1) fun i i0 i1 => z4 i i0 (by omega)]
theorem listT_nodes {g : Int → Nat → Option (Tm × Nat)} (hg : ∀ a l p, g a l = some p → p.1.ar.nodes + 1 + p.2 = l) : ∀ (m : Nat) (a : Int) (l : Nat) (p : Ts × Nat), listT g m a l = some p → p.1.nodes + p.2 = l ∧ p.1.length = m
  | 0, a, l, p, h => by simp only [listT, Option.some.injEq] at h; subst h; simp [Ts.nodes, Ts.length]
  | m + 1, a, l, p, h => by
    simp only [listT] at h
    cases h1 : g a l with
    | none => rw [h1] at h; simp at h
    | some q =>
      rw [h1, Option.bind_some] at h
      cases h2 : listT g m (a + 1) q.2 with
      | none => rw [h2] at h; simp at h
      | some r =>
        rw [h2, Option.map_some, Option.some.injEq] at h
        subst h
        have e1 := hg a l q h1
        obtain ⟨e2, e3⟩ := listT_nodes hg m (a + 1) q.2 r h2
        simp only [Ts.nodes, Ts.length]
        omega
theorem tmAt_nodes {L : List HC} : ∀ (f : Nat) (a : Int) (l : Nat) (p : Tm × Nat), tmAt L f a l = some p → p.1.ar.nodes + 1 + p.2 = l
  | 0, a, l, p, h => by cases h
  | f + 1, a, l, p, h => by
    by_cases hl : l = 0
    · simp only [tmAt] at h; rw [if_pos hl] at h; cases h
    cases hc : hat L (hlook L a) with
    | none => simp only [tmAt] at h; rw [if_neg hl, hc] at h; cases h
    | some c =>
      rw [tmAt_hat hl hc] at h
      split at h
      · cases h; simp only [Ts.nodes]; omega
      split at h
      · cases h; simp only [Ts.nodes]; omega
      split at h
      · cases h; simp only [Ts.nodes]; omega
      cases h2 : listT (tmAt L f) (argsC c).toNat (hlook L a + 1) (l - 1) with
      | none => rw [h2] at h; cases h
      | some r =>
        rw [h2, Option.map_some, Option.some.injEq] at h
        subst h
        have := (listT_nodes (fun a l p => tmAt_nodes f a l p) _ _ _ _ h2).1
        show r.1.nodes + 1 + r.2 = l
        omega
end Go.Proofs.Ytjicoifjgokoiab
