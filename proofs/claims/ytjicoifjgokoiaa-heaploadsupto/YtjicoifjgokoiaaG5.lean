/- HWalk7, HeapsL: texts that follow one another, laid into one file. -/
import Derived.Test.YtjicoifjgokoiaaG4
namespace Go.Proofs.Ytjicoifjgokoiaa
open Go.RowKit
set_option linter.unusedVariables false
set_option linter.unusedSimpArgs false
set_option maxRecDepth 100000
set_option maxHeartbeats 1000000

section
variable {M : List Nat} {w0 : World} {H : List (Nat × Obj)} {F : List (World → Prop)}
/-- Cells that nobody writes again. -/
theorem St.freezeG {g c : Nat} {L : List HC} {sp : List Value} {w : World} (hS : St M w0 ((g, cob L sp) :: H) F w) (hc : L.length ≤ c) : St M w0 H (Flat 3 (hcsL L) (some ⟨g, 0, none⟩) L.length c :: F) w := by
  have ho := hS.own (g, _) (.head _)
  refine hS.drop.learn fun w' hw => Flat.own (sp := sp) (el := 86) ?_ (hcsL_len L) hc
  rw [hw.block g (own_lt ho) fun hm => ?_]
  · exact ho
  · obtain ⟨p, hp, e⟩ := List.mem_map.1 hm
    exact (List.pairwise_cons.1 hS.apart).1 p hp e.symm
theorem meetU {h : HH} {A3 B3 : Option Addr} {c3 d3 ub : Nat} {O3 O4 : List (Nat × Obj)} {w : World} (hr3 : Rw 86 3 (.slice A3 h.cs.length c3) h.cs.length (hcsL h.cs) O3) (hr4 : Rw 3 1 (.slice B3 h.tr.length d3) h.tr.length (intsV h.tr) O4) (hp : 0 < h.cs.length)
    (hS : St M w0 ((ub, .cells [.slice A3 h.cs.length c3, .slice B3 h.tr.length d3, .int .i64 0, .bool false].toArray 110) :: (O4 ++ (O3 ++ H))) F w) :
    ∃ ub' g c sp, ptr ub = ptr ub' ∧ h.cs.length ≤ c ∧ HUSt M w0 H F ub' g c sp ⟨h.cs, h.tr, 0, false⟩ w := by
  obtain ⟨g, sp, rfl, rfl, _, hle, _⟩ := hr3.some_ hp
  exact ⟨ub, g, c3, sp, rfl, hle, B3, d3, O4, hr4, hS.perm (.cons _ (List.perm_append_comm_assoc O4 [_] _))⟩
theorem unify_any (h : HH) (a b : Int) (A B : Option Addr) (c d : Nat) (w : World) (hH : Und F (HFl h A c B d)) (hS : St M w0 H F w) :
    Calls Try.prog 59 #[hv h A c B d, .int .i64 a, .int .i64 b] w (HRes M w0 H F (unifyH h a b).1 fun A' c' B' d' e => e = .returned (.tuple #[hv (unifyH h a b).1 A' c' B' d', .bool (unifyH h a b).2.1, .int .i64 (unifyH h a b).2.2])) := by
  have hL : Und F (Flat 3 (hcsL h.cs) A h.cs.length c) := hH.imp fun _ h => h.1
  have hT : Und F (Flat 1 (intsV h.tr) B h.tr.length d) := hH.imp fun _ h => h.2
  refine goes_enter3 Try.func59 rfl Try.ntmps59 rfl ?_
  refine goes_seq ?_
  refine goes_region ?_
  refine lst_box hS rfl rfl ?_
  clear hS
  intro b1 wx1 hS
  refine lst_alloc (cs := [_, _]) hS rfl rfl rfl ?_
  clear hS
  intro b2 wx2 hS
  refine lst_run (run_assign (by conv => lhs; whnf)) rfl ?_
  refine lst_run (run_assign (by conv => lhs; whnf)) rfl ?_
  refine lst_done ?_
  refine goes_seq ?_
  refine goes_seq ?_
  refine goes_region ?_
  first
    | refine lst_run (run_loadN_own (k := 2) hS rfl rfl rfl (by first | exact .head | exact .tail .head | exact .tail (.tail .head) | exact .tail (.tail (.tail .head)) | exact .tail (.tail (.tail (.tail .head))) | exact .tail (.tail (.tail (.tail (.tail .head))))) (by repeat constructor)) rfl ?_
    | refine lst_run (run_load2 rfl rfl rfl (by first | assumption | exact hS.cell0 (by assumption)) (by first | assumption | exact hS.cell0 (by assumption))) rfl ?_
  refine lst_enter (run_call (by kernel_rfl) (args_1 (by conv => lhs; whnf))) rfl ?_
  refine Calls.mono (good_any h A B c d _ (hS.und hH)) ?_
  rintro _ w2 ⟨rfl, hb2⟩
  refine ⟨_, rfl, ?_⟩
  replace hS := hS.grow hb2
  cases hg : goodH h with
  | false =>
    have e0 : unifyH h a b = (h, false, 1) := by unfold unifyH; rw [if_pos hg]
    rw [e0]
    refine lst_run (rfl) rfl ?_
    refine lst_done ?_
    refine goes_true rfl ?_
    refine goes_seq ?_
    refine goes_region ?_
    first
      | refine lst_run (run_loadN_own (k := 2) hS rfl rfl rfl (by first | exact .head | exact .tail .head | exact .tail (.tail .head) | exact .tail (.tail (.tail .head)) | exact .tail (.tail (.tail (.tail .head))) | exact .tail (.tail (.tail (.tail (.tail .head))))) (by repeat constructor)) rfl ?_
      | refine lst_run (run_load2 rfl rfl rfl (by first | assumption | exact hS.cell0 (by assumption)) (by first | assumption | exact hS.cell0 (by assumption))) rfl ?_
    refine lst_storeN hS rfl (by conv => lhs; whnf) rfl rfl (by first | exact .head | exact .tail .head | exact .tail (.tail .head) | exact .tail (.tail (.tail .head)) | exact .tail (.tail (.tail (.tail .head))) | exact .tail (.tail (.tail (.tail (.tail .head))))) (by repeat constructor) (by first | exact .head | exact .tail .head | exact .tail (.tail .head) | exact .tail (.tail (.tail .head)) | exact .tail (.tail (.tail (.tail .head))) | exact .tail (.tail (.tail (.tail (.tail .head))))) ?_
    clear hS
    intro wx3 hS
    refine lst_run (run_assign (by conv => lhs; whnf)) rfl ?_
    refine lst_run (run_assign (by conv => lhs; whnf)) rfl ?_
    refine lst_done ?_
    refine goes_retC3 (sz := 2) hS Try.func59 rfl rfl (by conv => lhs; whnf) (by conv => lhs; whnf) rfl rfl (by first | exact .head | exact .tail .head | exact .tail (.tail .head) | exact .tail (.tail (.tail .head)) | exact .tail (.tail (.tail (.tail .head))) | exact .tail (.tail (.tail (.tail (.tail .head))))) (by repeat constructor) ?_
    exact ⟨A, c, B, d, F, rfl, fun _ h => h, hH, hS.drop.drop⟩
  | true =>
  obtain ⟨hl1, hl2⟩ := good_len hg
  refine lst_run (rfl) rfl ?_
  refine lst_done ?_
  refine goes_false rfl ?_
  refine goes_skip ?_
  refine goes_seq ?_
  refine goes_seq ?_
  refine goes_region ?_
  first
    | refine lst_run (run_loadN_own (k := 2) hS rfl rfl rfl (by first | exact .head | exact .tail .head | exact .tail (.tail .head) | exact .tail (.tail (.tail .head)) | exact .tail (.tail (.tail (.tail .head))) | exact .tail (.tail (.tail (.tail (.tail .head))))) (by repeat constructor)) rfl ?_
    | refine lst_run (run_load2 rfl rfl rfl (by first | assumption | exact hS.cell0 (by assumption)) (by first | assumption | exact hS.cell0 (by assumption))) rfl ?_
  refine lst_run (run_move (by conv => lhs; whnf)) rfl ?_
  refine lst_enter (run_call (by kernel_rfl) (args_2 (by conv => lhs; whnf) (by conv => lhs; whnf))) rfl ?_
  refine Calls.mono (address_any h.cs.length c A B h.tr.length d a _) ?_
  rintro _ w3 ⟨rfl, hb3⟩
  refine ⟨_, rfl, ?_⟩
  replace hS := hS.grow hb3
  cases ha : isAddr h.cs a with
  | false =>
    have e0 : unifyH h a b = (h, false, 4) := by unfold unifyH; rw [if_neg (by rw [hg]; decide), ha, if_pos (by simp)]
    rw [e0, show (decide (0 ≤ a) && decide (a < (h.cs.length : Nat))) = false from ha]
    refine lst_run (rfl) rfl ?_
    refine lst_run (run_move (by conv => lhs; whnf)) rfl ?_
    refine lst_pass rfl rfl rfl ?_
    refine lst_pass rfl rfl rfl ?_
    refine lst_pass rfl rfl rfl ?_
    refine lst_pass rfl rfl rfl ?_
    first
      | refine lst_run (run_pick_t rfl (by conv => lhs; whnf)) rfl ?_
      | refine lst_run (run_pick_f rfl (by conv => lhs; whnf)) rfl ?_
    refine lst_done ?_
    refine goes_true rfl ?_
    refine goes_seq ?_
    refine goes_region ?_
    first
      | refine lst_run (run_loadN_own (k := 2) hS rfl rfl rfl (by first | exact .head | exact .tail .head | exact .tail (.tail .head) | exact .tail (.tail (.tail .head)) | exact .tail (.tail (.tail (.tail .head))) | exact .tail (.tail (.tail (.tail (.tail .head))))) (by repeat constructor)) rfl ?_
      | refine lst_run (run_load2 rfl rfl rfl (by first | assumption | exact hS.cell0 (by assumption)) (by first | assumption | exact hS.cell0 (by assumption))) rfl ?_
    refine lst_storeN hS rfl (by conv => lhs; whnf) rfl rfl (by first | exact .head | exact .tail .head | exact .tail (.tail .head) | exact .tail (.tail (.tail .head)) | exact .tail (.tail (.tail (.tail .head))) | exact .tail (.tail (.tail (.tail (.tail .head))))) (by repeat constructor) (by first | exact .head | exact .tail .head | exact .tail (.tail .head) | exact .tail (.tail (.tail .head)) | exact .tail (.tail (.tail (.tail .head))) | exact .tail (.tail (.tail (.tail (.tail .head))))) ?_
    clear hS
    intro wx3 hS
    refine lst_run (run_assign (by conv => lhs; whnf)) rfl ?_
    refine lst_run (run_assign (by conv => lhs; whnf)) rfl ?_
    refine lst_done ?_
    refine goes_retC3 (sz := 2) hS Try.func59 rfl rfl (by conv => lhs; whnf) (by conv => lhs; whnf) rfl rfl (by first | exact .head | exact .tail .head | exact .tail (.tail .head) | exact .tail (.tail (.tail .head)) | exact .tail (.tail (.tail (.tail .head))) | exact .tail (.tail (.tail (.tail (.tail .head))))) (by repeat constructor) ?_
    exact ⟨A, c, B, d, F, rfl, fun _ h => h, hH, hS.drop.drop⟩
  | true =>
  rw [show (decide (0 ≤ a) && decide (a < (h.cs.length : Nat))) = true from ha]
  refine lst_run (rfl) rfl ?_
  refine lst_run (run_move (by conv => lhs; whnf)) rfl ?_
  refine lst_guard rfl rfl ?_
  first
    | refine lst_run (run_loadN_own (k := 2) hS rfl rfl rfl (by first | exact .head | exact .tail .head | exact .tail (.tail .head) | exact .tail (.tail (.tail .head)) | exact .tail (.tail (.tail (.tail .head))) | exact .tail (.tail (.tail (.tail (.tail .head))))) (by repeat constructor)) rfl ?_
    | refine lst_run (run_load2 rfl rfl rfl (by first | assumption | exact hS.cell0 (by assumption)) (by first | assumption | exact hS.cell0 (by assumption))) rfl ?_
  refine lst_guard rfl rfl ?_
  refine lst_run (run_move (by conv => lhs; whnf)) rfl ?_
  refine lst_guard rfl rfl ?_
  refine lst_enter (run_call (by kernel_rfl) (args_2 (by conv => lhs; whnf) (by conv => lhs; whnf))) rfl ?_
  refine Calls.mono (address_any h.cs.length c A B h.tr.length d b _) ?_
  rintro _ w4 ⟨rfl, hb4⟩
  refine ⟨_, rfl, ?_⟩
  replace hS := hS.grow hb4
  cases hb : isAddr h.cs b with
  | false =>
    have e0 : unifyH h a b = (h, false, 4) := by unfold unifyH; rw [if_neg (by rw [hg]; decide), ha, hb, if_pos (by simp)]
    rw [e0, show (decide (0 ≤ b) && decide (b < (h.cs.length : Nat))) = false from hb]
    refine lst_guard rfl rfl ?_
    refine lst_run (rfl) rfl ?_
    first
      | refine lst_run (run_pick_t rfl (by conv => lhs; whnf)) rfl ?_
      | refine lst_run (run_pick_f rfl (by conv => lhs; whnf)) rfl ?_
    refine lst_done ?_
    refine goes_true rfl ?_
    refine goes_seq ?_
    refine goes_region ?_
    first
      | refine lst_run (run_loadN_own (k := 2) hS rfl rfl rfl (by first | exact .head | exact .tail .head | exact .tail (.tail .head) | exact .tail (.tail (.tail .head)) | exact .tail (.tail (.tail (.tail .head))) | exact .tail (.tail (.tail (.tail (.tail .head))))) (by repeat constructor)) rfl ?_
      | refine lst_run (run_load2 rfl rfl rfl (by first | assumption | exact hS.cell0 (by assumption)) (by first | assumption | exact hS.cell0 (by assumption))) rfl ?_
    refine lst_storeN hS rfl (by conv => lhs; whnf) rfl rfl (by first | exact .head | exact .tail .head | exact .tail (.tail .head) | exact .tail (.tail (.tail .head)) | exact .tail (.tail (.tail (.tail .head))) | exact .tail (.tail (.tail (.tail (.tail .head))))) (by repeat constructor) (by first | exact .head | exact .tail .head | exact .tail (.tail .head) | exact .tail (.tail (.tail .head)) | exact .tail (.tail (.tail (.tail .head))) | exact .tail (.tail (.tail (.tail (.tail .head))))) ?_
    clear hS
    intro wx3 hS
    refine lst_run (run_assign (by conv => lhs; whnf)) rfl ?_
    refine lst_run (run_assign (by conv => lhs; whnf)) rfl ?_
    refine lst_done ?_
    refine goes_retC3 (sz := 2) hS Try.func59 rfl rfl (by conv => lhs; whnf) (by conv => lhs; whnf) rfl rfl (by first | exact .head | exact .tail .head | exact .tail (.tail .head) | exact .tail (.tail (.tail .head)) | exact .tail (.tail (.tail (.tail .head))) | exact .tail (.tail (.tail (.tail (.tail .head))))) (by repeat constructor) ?_
    exact ⟨A, c, B, d, F, rfl, fun _ h => h, hH, hS.drop.drop⟩
  | true =>
  rw [show (decide (0 ≤ b) && decide (b < (h.cs.length : Nat))) = true from hb]
  have hpos : 0 < h.cs.length := by
    obtain ⟨x, hx⟩ := isAddr_iff.1 ha
    have := hat_get hx; omega
  refine lst_guard rfl rfl ?_
  refine lst_run (rfl) rfl ?_
  first
    | refine lst_run (run_pick_t rfl (by conv => lhs; whnf)) rfl ?_
    | refine lst_run (run_pick_f rfl (by conv => lhs; whnf)) rfl ?_
  refine lst_done ?_
  refine goes_false rfl ?_
  refine goes_skip ?_
  refine goes_seq ?_
  refine goes_meet1 9 (26 :: 27 :: 28 :: 29 :: 30 :: 31 :: 32 :: 33 :: 34 :: []) (fun v w' => ∃ ub g c' sp, v = ptr ub ∧ h.cs.length ≤ c' ∧ HUSt M w0 ((b2, hob none 0 0 none 0 0) :: (b1, hob A h.cs.length c B h.tr.length d) :: H) F ub g c' sp ⟨h.cs, h.tr, 0, false⟩ w') ?_ ?_
  · intro hmeet
    refine goes_plan (St _ _ _ _) 10 (.read 0 (.read 1 (.read 3 (.read 4 (.pick 2 (.pick 5 (.read 6 (.read 7 (.pick 8 (.read 9 .tail) .none))) .none) .none))))) (by kernel_rfl) (by kernel_rfl) hS.drew ?_
    replace hS := hS.drew
    refine pln_read rfl (fun _ hS => run_fieldAddr (off := 0) rfl rfl) rfl ?_
    first
      | refine pln_read rfl (fun _ hS => run_load1_own hS rfl rfl (by first | exact .head | exact .tail .head | exact .tail (.tail .head) | exact .tail (.tail (.tail .head)) | exact .tail (.tail (.tail (.tail .head))) | exact .tail (.tail (.tail (.tail (.tail .head))))) (by repeat constructor)) rfl ?_
      | refine pln_read rfl (fun _ hS => run_load1 rfl rfl (by first | assumption | exact hS.cell0 (by assumption) | exact lv_next hS | exact lv_list hS)) rfl ?_
    refine pln_read rfl (fun _ hS => run_fieldAddr (off := 1) rfl rfl) rfl ?_
    first
      | refine pln_read rfl (fun _ hS => run_load1_own hS rfl rfl (by first | exact .head | exact .tail .head | exact .tail (.tail .head) | exact .tail (.tail (.tail .head)) | exact .tail (.tail (.tail (.tail .head))) | exact .tail (.tail (.tail (.tail (.tail .head))))) (by repeat constructor)) rfl ?_
      | refine pln_read rfl (fun _ hS => run_load1 rfl rfl (by first | assumption | exact hS.cell0 (by assumption) | exact lv_next hS | exact lv_list hS)) rfl ?_
    refine pln_last rfl ?_
    refine lst_enter (run_call (by kernel_rfl) (args_1 (by conv => lhs; whnf))) rfl ?_
    refine Calls.mono (cloneC_any h.cs A c _ hL (by omega) hS) ?_
    rintro _ w5 ⟨A3, c3, O3, rfl, hrow3, hS'⟩
    refine ⟨_, rfl, ?_⟩
    replace hS := hS'
    clear hS'
    refine lst_pln (by first | exact hS | exact hS.drop | exact hS.drop.drop | exact hS.drop.drop.drop | exact hS.unlearn | exact hS.unlearn.drop | exact hS.unlearn.drop.drop | exact hS.dropL | exact hS.dropL.dropL | exact hS.drop.dropL.dropL) ?_
    refine pln_last rfl ?_
    refine lst_enter (run_call (by kernel_rfl) (args_1 (by conv => lhs; whnf))) rfl ?_
    refine Calls.mono (cloneI_any h.tr B d _ hT (by omega) hS) ?_
    rintro _ w6 ⟨B3, d3, O4, rfl, hrow4, hS'⟩
    refine ⟨_, rfl, ?_⟩
    replace hS := hS'
    clear hS'
    refine lst_pln (by first | exact hS | exact hS.drop | exact hS.drop.drop | exact hS.drop.drop.drop | exact hS.unlearn | exact hS.unlearn.drop | exact hS.unlearn.drop.drop | exact hS.dropL | exact hS.dropL.dropL | exact hS.drop.dropL.dropL) ?_
    refine pln_read rfl (fun _ hS => run_build (cells := [_, _]) (.cons (by conv => lhs; whnf) (.cons (by conv => lhs; whnf) .nil)) rfl) rfl ?_
    refine pln_read rfl (fun _ hS => run_build (cells := [_, _, _, _]) (.cons (by conv => lhs; whnf) .nil) rfl) rfl ?_
    refine pln_last rfl ?_
    refine lst_box hS rfl rfl ?_
    clear hS
    intro b3 wx3 hS
    refine lst_pln (by first | exact hS | exact hS.drop | exact hS.drop.drop | exact hS.drop.drop.drop | exact hS.unlearn | exact hS.unlearn.drop | exact hS.unlearn.drop.drop | exact hS.dropL | exact hS.dropL.dropL | exact hS.drop.dropL.dropL) ?_
    refine pln_read rfl (fun _ hS => run_assign (by conv => lhs; whnf)) rfl ?_
    refine pln_tail ?_
    refine lst_done ?_
    exact hmeet _ _ _ (meetU hrow3 hrow4 hpos (by first | exact hS | exact hS.perm (.cons _ (List.perm_append_comm_assoc _ _ _)))) (by conv => lhs; whnf) (by kernel_rfl)
  clear hS
  rintro jv _ w5 ⟨ub, g, c5, sp, rfl, hc5, hs5⟩
  have hG : GU h.cs.length ⟨h.cs, h.tr, 0, false⟩ := by
    refine ⟨rfl, ?_, fun _ => by show (0 : Nat) ≤ 400; omega, by show h.tr.length ≤ 65536 + 0; omega⟩
    unfold goodH goodCs at hg
    simp only [Bool.and_eq_true] at hg
    exact hg.1.2
  have huu := uni_up 401 a b _ hG rfl
  have hun := uni_said h.cs.length 401 M w0 ((b2, hob none 0 0 none 0 0) :: (b1, hob A h.cs.length c B h.tr.length d) :: H) F ub g c5 sp a b ⟨h.cs, h.tr, 0, false⟩
  have e0 : unifyH h a b = if (uniU 401 a b ⟨h.cs, h.tr, 0, false⟩).2.lg = true ∨ (uniU 401 a b ⟨h.cs, h.tr, 0, false⟩).1 = true ∧ 65536 < (uniU 401 a b ⟨h.cs, h.tr, 0, false⟩).2.tr.length then (h, false, 3)
      else if (uniU 401 a b ⟨h.cs, h.tr, 0, false⟩).1 = false then (h, false, 0)
      else (⟨(uniU 401 a b ⟨h.cs, h.tr, 0, false⟩).2.cs, (uniU 401 a b ⟨h.cs, h.tr, 0, false⟩).2.tr⟩, true, 0) := by
    unfold unifyH; rw [if_neg (by rw [hg]; decide), ha, hb, if_neg (by decide)]
  rw [e0]
  refine goes_seq ?_
  refine goes_region ?_
  refine lst_run (run_move (by conv => lhs; whnf)) rfl ?_
  refine lst_run (run_move (by conv => lhs; whnf)) rfl ?_
  refine lst_run (run_move (by conv => lhs; whnf)) rfl ?_
  refine lst_enter (run_call (by kernel_rfl) (args_3 (by conv => lhs; whnf) (by conv => lhs; whnf) (by conv => lhs; whnf))) rfl ?_
  refine Calls.mono (hun _ hG rfl hl1 hc5 (by show 400 ≤ 0 + 401; omega) (by omega) hs5) ?_
  rintro _ w6 ⟨rfl, hs6⟩
  refine ⟨_, rfl, ?_⟩
  have hgu := huu.gu
  have hok := huu.ok
  clear huu hun e0 hs5
  generalize uniU 401 a b ⟨h.cs, h.tr, 0, false⟩ = r at *
  obtain ⟨ok, u⟩ := r
  dsimp only at *
  cases hlg : u.lg with
  | true =>
    rw [if_pos (.inl rfl)]
    obtain ⟨B6, d6, O6, hrow6, hS⟩ := hs6.lgS hlg
    replace hS := hS.perm (.cons _ (.cons _ (List.perm_append_comm_assoc O6 [_, _] _)))
    refine lst_run (run_assign (by conv => lhs; whnf)) rfl ?_
    refine lst_done ?_
    refine goes_seq ?_
    refine goes_seq ?_
    refine goes_region ?_
    refine lst_run (run_move (by conv => lhs; whnf)) rfl ?_
    refine lst_run (run_nilCheck rfl) rfl ?_
    refine lst_run (run_fieldAddr (off := 3) rfl rfl) rfl ?_
    first
      | refine lst_run (run_load1_own hS rfl rfl (by first | exact .head | exact .tail .head | exact .tail (.tail .head) | exact .tail (.tail (.tail .head)) | exact .tail (.tail (.tail (.tail .head))) | exact .tail (.tail (.tail (.tail (.tail .head))))) (by repeat constructor)) rfl ?_
      | refine lst_run (run_load1 rfl rfl (by first | assumption | exact hS.cell0 (by assumption) | exact lv_next hS | exact lv_list hS)) rfl ?_
    refine lst_run (run_move (by conv => lhs; whnf)) rfl ?_
    refine lst_pass rfl rfl rfl ?_
    refine lst_pass rfl rfl rfl ?_
    refine lst_passU rfl rfl ?_
    refine lst_passU rfl rfl ?_
    refine lst_passU rfl rfl ?_
    refine lst_passU rfl rfl ?_
    refine lst_passU rfl rfl ?_
    refine lst_passU rfl rfl ?_
    refine lst_passU rfl rfl ?_
    refine lst_pass rfl rfl rfl ?_
    first
      | refine lst_run (run_pick_t rfl (by conv => lhs; whnf)) rfl ?_
      | refine lst_run (run_pick_f rfl (by conv => lhs; whnf)) rfl ?_
    refine lst_done ?_
    refine goes_true rfl ?_
    refine goes_seq ?_
    refine goes_region ?_
    first
      | refine lst_run (run_loadN_own (k := 2) hS rfl rfl rfl (by first | exact .head | exact .tail .head | exact .tail (.tail .head) | exact .tail (.tail (.tail .head)) | exact .tail (.tail (.tail (.tail .head))) | exact .tail (.tail (.tail (.tail (.tail .head))))) (by repeat constructor)) rfl ?_
      | refine lst_run (run_load2 rfl rfl rfl (by first | assumption | exact hS.cell0 (by assumption)) (by first | assumption | exact hS.cell0 (by assumption))) rfl ?_
    refine lst_storeN hS rfl (by conv => lhs; whnf) rfl rfl (by first | exact .head | exact .tail .head | exact .tail (.tail .head) | exact .tail (.tail (.tail .head)) | exact .tail (.tail (.tail (.tail .head))) | exact .tail (.tail (.tail (.tail (.tail .head))))) (by repeat constructor) (by first | exact .head | exact .tail .head | exact .tail (.tail .head) | exact .tail (.tail (.tail .head)) | exact .tail (.tail (.tail (.tail .head))) | exact .tail (.tail (.tail (.tail (.tail .head))))) ?_
    clear hS
    intro wx4 hS
    refine lst_run (run_assign (by conv => lhs; whnf)) rfl ?_
    refine lst_run (run_assign (by conv => lhs; whnf)) rfl ?_
    refine lst_done ?_
    refine goes_retC3 (sz := 2) hS Try.func59 rfl rfl (by conv => lhs; whnf) (by conv => lhs; whnf) rfl rfl (by first | exact .head | exact .tail .head | exact .tail (.tail .head) | exact .tail (.tail (.tail .head)) | exact .tail (.tail (.tail (.tail .head))) | exact .tail (.tail (.tail (.tail (.tail .head))))) (by repeat constructor) ?_
    exact ⟨A, c, B, d, F, rfl, fun _ h => h, hH, St.dropL (L := O6) hS.drop.drop.drop.drop⟩
  | false =>
    obtain ⟨B6, d6, O6, hrow6, hS⟩ := hs6.lgS hlg
    replace hS := hS.perm (.cons _ (.cons _ (List.perm_append_comm_assoc O6 [_, _] _)))
    cases ok with
    | false =>
      rw [if_neg (by simp), if_pos rfl]
      refine lst_run (run_assign (by conv => lhs; whnf)) rfl ?_
      refine lst_done ?_
      refine goes_seq ?_
      refine goes_seq ?_
      refine goes_region ?_
      refine lst_run (run_move (by conv => lhs; whnf)) rfl ?_
      refine lst_run (run_nilCheck rfl) rfl ?_
      refine lst_run (run_fieldAddr (off := 3) rfl rfl) rfl ?_
      first
        | refine lst_run (run_load1_own hS rfl rfl (by first | exact .head | exact .tail .head | exact .tail (.tail .head) | exact .tail (.tail (.tail .head)) | exact .tail (.tail (.tail (.tail .head))) | exact .tail (.tail (.tail (.tail (.tail .head))))) (by repeat constructor)) rfl ?_
        | refine lst_run (run_load1 rfl rfl (by first | assumption | exact hS.cell0 (by assumption) | exact lv_next hS | exact lv_list hS)) rfl ?_
      refine lst_run (run_move (by conv => lhs; whnf)) rfl ?_
      refine lst_guard rfl rfl ?_
      refine lst_run (run_move (by conv => lhs; whnf)) rfl ?_
      refine lst_guard rfl rfl ?_
      refine lst_run (run_move (by conv => lhs; whnf)) rfl ?_
      refine lst_pass rfl rfl rfl ?_
      refine lst_pass rfl rfl rfl ?_
      refine lst_pass rfl rfl rfl ?_
      refine lst_pass rfl rfl rfl ?_
      refine lst_pass rfl rfl rfl ?_
      refine lst_pass rfl rfl rfl ?_
      refine lst_pass rfl rfl rfl ?_
      refine lst_guard rfl rfl ?_
      first
        | refine lst_run (run_pick_t rfl (by conv => lhs; whnf)) rfl ?_
        | refine lst_run (run_pick_f rfl (by conv => lhs; whnf)) rfl ?_
      first
        | refine lst_run (run_pick_t rfl (by conv => lhs; whnf)) rfl ?_
        | refine lst_run (run_pick_f rfl (by conv => lhs; whnf)) rfl ?_
      refine lst_done ?_
      refine goes_false rfl ?_
      refine goes_skip ?_
      refine goes_seq ?_
      refine goes_seq ?_
      refine goes_region ?_
      refine lst_run (run_move (by conv => lhs; whnf)) rfl ?_
      refine lst_run (rfl) rfl ?_
      refine lst_done ?_
      refine goes_true rfl ?_
      refine goes_seq ?_
      refine goes_region ?_
      first
        | refine lst_run (run_loadN_own (k := 2) hS rfl rfl rfl (by first | exact .head | exact .tail .head | exact .tail (.tail .head) | exact .tail (.tail (.tail .head)) | exact .tail (.tail (.tail (.tail .head))) | exact .tail (.tail (.tail (.tail (.tail .head))))) (by repeat constructor)) rfl ?_
        | refine lst_run (run_load2 rfl rfl rfl (by first | assumption | exact hS.cell0 (by assumption)) (by first | assumption | exact hS.cell0 (by assumption))) rfl ?_
      refine lst_storeN hS rfl (by conv => lhs; whnf) rfl rfl (by first | exact .head | exact .tail .head | exact .tail (.tail .head) | exact .tail (.tail (.tail .head)) | exact .tail (.tail (.tail (.tail .head))) | exact .tail (.tail (.tail (.tail (.tail .head))))) (by repeat constructor) (by first | exact .head | exact .tail .head | exact .tail (.tail .head) | exact .tail (.tail (.tail .head)) | exact .tail (.tail (.tail (.tail .head))) | exact .tail (.tail (.tail (.tail (.tail .head))))) ?_
      clear hS
      intro wx4 hS
      refine lst_run (run_assign (by conv => lhs; whnf)) rfl ?_
      refine lst_run (run_assign (by conv => lhs; whnf)) rfl ?_
      refine lst_done ?_
      refine goes_retC3 (sz := 2) hS Try.func59 rfl rfl (by conv => lhs; whnf) (by conv => lhs; whnf) rfl rfl (by first | exact .head | exact .tail .head | exact .tail (.tail .head) | exact .tail (.tail (.tail .head)) | exact .tail (.tail (.tail (.tail .head))) | exact .tail (.tail (.tail (.tail (.tail .head))))) (by repeat constructor) ?_
      exact ⟨A, c, B, d, F, rfl, fun _ h => h, hH, St.dropL (L := O6) hS.drop.drop.drop.drop⟩
    | true =>
      by_cases htl : 65536 < u.tr.length
      · rw [if_pos (.inr ⟨rfl, htl⟩)]
        refine lst_run (run_assign (by conv => lhs; whnf)) rfl ?_
        refine lst_done ?_
        refine goes_seq ?_
        refine goes_seq ?_
        refine goes_region ?_
        refine lst_run (run_move (by conv => lhs; whnf)) rfl ?_
        refine lst_run (run_nilCheck rfl) rfl ?_
        refine lst_run (run_fieldAddr (off := 3) rfl rfl) rfl ?_
        first
          | refine lst_run (run_load1_own hS rfl rfl (by first | exact .head | exact .tail .head | exact .tail (.tail .head) | exact .tail (.tail (.tail .head)) | exact .tail (.tail (.tail (.tail .head))) | exact .tail (.tail (.tail (.tail (.tail .head))))) (by repeat constructor)) rfl ?_
          | refine lst_run (run_load1 rfl rfl (by first | assumption | exact hS.cell0 (by assumption) | exact lv_next hS | exact lv_list hS)) rfl ?_
        refine lst_run (run_move (by conv => lhs; whnf)) rfl ?_
        refine lst_guard rfl rfl ?_
        refine lst_run (run_move (by conv => lhs; whnf)) rfl ?_
        refine lst_guard rfl rfl ?_
        refine lst_run (run_move (by conv => lhs; whnf)) rfl ?_
        refine lst_guard rfl rfl ?_
        refine lst_run (run_move (by conv => lhs; whnf)) rfl ?_
        refine lst_guard rfl rfl ?_
        refine lst_run (run_nilCheck rfl) rfl ?_
        refine lst_guard rfl rfl ?_
        refine lst_run (run_fieldAddr (off := 0) rfl rfl) rfl ?_
        refine lst_guard rfl rfl ?_
        refine lst_run (run_fieldAddr (off := 1) rfl rfl) rfl ?_
        refine lst_guard rfl rfl ?_
        first
          | refine lst_run (run_load1_own hS rfl rfl (by first | exact .head | exact .tail .head | exact .tail (.tail .head) | exact .tail (.tail (.tail .head)) | exact .tail (.tail (.tail (.tail .head))) | exact .tail (.tail (.tail (.tail (.tail .head))))) (by repeat constructor)) rfl ?_
          | refine lst_run (run_load1 rfl rfl (by first | assumption | exact hS.cell0 (by assumption) | exact lv_next hS | exact lv_list hS)) rfl ?_
        refine lst_guard rfl rfl ?_
        refine lst_run (run_len_slice rfl rfl rfl) rfl ?_
        refine lst_guard rfl rfl ?_
        first
          | refine lst_run (run_gtr_yes rfl rfl (by omega)) rfl ?_
          | refine lst_run (run_gtr_no rfl rfl (by omega)) rfl ?_
          | refine lst_run (rfl) rfl ?_
        refine lst_guard rfl rfl ?_
        first
          | refine lst_run (run_pick_t rfl (by conv => lhs; whnf)) rfl ?_
          | refine lst_run (run_pick_f rfl (by conv => lhs; whnf)) rfl ?_
        first
          | refine lst_run (run_pick_t rfl (by conv => lhs; whnf)) rfl ?_
          | refine lst_run (run_pick_f rfl (by conv => lhs; whnf)) rfl ?_
        refine lst_done ?_
        refine goes_true rfl ?_
        refine goes_seq ?_
        refine goes_region ?_
        first
          | refine lst_run (run_loadN_own (k := 2) hS rfl rfl rfl (by first | exact .head | exact .tail .head | exact .tail (.tail .head) | exact .tail (.tail (.tail .head)) | exact .tail (.tail (.tail (.tail .head))) | exact .tail (.tail (.tail (.tail (.tail .head))))) (by repeat constructor)) rfl ?_
          | refine lst_run (run_load2 rfl rfl rfl (by first | assumption | exact hS.cell0 (by assumption)) (by first | assumption | exact hS.cell0 (by assumption))) rfl ?_
        refine lst_storeN hS rfl (by conv => lhs; whnf) rfl rfl (by first | exact .head | exact .tail .head | exact .tail (.tail .head) | exact .tail (.tail (.tail .head)) | exact .tail (.tail (.tail (.tail .head))) | exact .tail (.tail (.tail (.tail (.tail .head))))) (by repeat constructor) (by first | exact .head | exact .tail .head | exact .tail (.tail .head) | exact .tail (.tail (.tail .head)) | exact .tail (.tail (.tail (.tail .head))) | exact .tail (.tail (.tail (.tail (.tail .head))))) ?_
        clear hS
        intro wx4 hS
        refine lst_run (run_assign (by conv => lhs; whnf)) rfl ?_
        refine lst_run (run_assign (by conv => lhs; whnf)) rfl ?_
        refine lst_done ?_
        refine goes_retC3 (sz := 2) hS Try.func59 rfl rfl (by conv => lhs; whnf) (by conv => lhs; whnf) rfl rfl (by first | exact .head | exact .tail .head | exact .tail (.tail .head) | exact .tail (.tail (.tail .head)) | exact .tail (.tail (.tail (.tail .head))) | exact .tail (.tail (.tail (.tail (.tail .head))))) (by repeat constructor) ?_
        exact ⟨A, c, B, d, F, rfl, fun _ h => h, hH, St.dropL (L := O6) hS.drop.drop.drop.drop⟩
      · rw [if_neg (by simp; omega), if_neg (by decide)]
        refine lst_run (run_assign (by conv => lhs; whnf)) rfl ?_
        refine lst_done ?_
        refine goes_seq ?_
        refine goes_seq ?_
        refine goes_region ?_
        refine lst_run (run_move (by conv => lhs; whnf)) rfl ?_
        refine lst_run (run_nilCheck rfl) rfl ?_
        refine lst_run (run_fieldAddr (off := 3) rfl rfl) rfl ?_
        first
          | refine lst_run (run_load1_own hS rfl rfl (by first | exact .head | exact .tail .head | exact .tail (.tail .head) | exact .tail (.tail (.tail .head)) | exact .tail (.tail (.tail (.tail .head))) | exact .tail (.tail (.tail (.tail (.tail .head))))) (by repeat constructor)) rfl ?_
          | refine lst_run (run_load1 rfl rfl (by first | assumption | exact hS.cell0 (by assumption) | exact lv_next hS | exact lv_list hS)) rfl ?_
        refine lst_run (run_move (by conv => lhs; whnf)) rfl ?_
        refine lst_guard rfl rfl ?_
        refine lst_run (run_move (by conv => lhs; whnf)) rfl ?_
        refine lst_guard rfl rfl ?_
        refine lst_run (run_move (by conv => lhs; whnf)) rfl ?_
        refine lst_guard rfl rfl ?_
        refine lst_run (run_move (by conv => lhs; whnf)) rfl ?_
        refine lst_guard rfl rfl ?_
        refine lst_run (run_nilCheck rfl) rfl ?_
        refine lst_guard rfl rfl ?_
        refine lst_run (run_fieldAddr (off := 0) rfl rfl) rfl ?_
        refine lst_guard rfl rfl ?_
        refine lst_run (run_fieldAddr (off := 1) rfl rfl) rfl ?_
        refine lst_guard rfl rfl ?_
        first
          | refine lst_run (run_load1_own hS rfl rfl (by first | exact .head | exact .tail .head | exact .tail (.tail .head) | exact .tail (.tail (.tail .head)) | exact .tail (.tail (.tail (.tail .head))) | exact .tail (.tail (.tail (.tail (.tail .head))))) (by repeat constructor)) rfl ?_
          | refine lst_run (run_load1 rfl rfl (by first | assumption | exact hS.cell0 (by assumption) | exact lv_next hS | exact lv_list hS)) rfl ?_
        refine lst_guard rfl rfl ?_
        refine lst_run (run_len_slice rfl rfl rfl) rfl ?_
        refine lst_guard rfl rfl ?_
        first
          | refine lst_run (run_gtr_yes rfl rfl (by omega)) rfl ?_
          | refine lst_run (run_gtr_no rfl rfl (by omega)) rfl ?_
          | refine lst_run (rfl) rfl ?_
        refine lst_guard rfl rfl ?_
        first
          | refine lst_run (run_pick_t rfl (by conv => lhs; whnf)) rfl ?_
          | refine lst_run (run_pick_f rfl (by conv => lhs; whnf)) rfl ?_
        first
          | refine lst_run (run_pick_t rfl (by conv => lhs; whnf)) rfl ?_
          | refine lst_run (run_pick_f rfl (by conv => lhs; whnf)) rfl ?_
        refine lst_done ?_
        refine goes_false rfl ?_
        refine goes_skip ?_
        refine goes_seq ?_
        refine goes_seq ?_
        refine goes_region ?_
        refine lst_run (run_move (by conv => lhs; whnf)) rfl ?_
        refine lst_run (rfl) rfl ?_
        refine lst_done ?_
        refine goes_false rfl ?_
        refine goes_skip ?_
        refine goes_seq ?_
        refine goes_region ?_
        refine lst_run (run_move (by conv => lhs; whnf)) rfl ?_
        refine lst_run (run_nilCheck rfl) rfl ?_
        refine lst_run (run_fieldAddr (off := 0) rfl rfl) rfl ?_
        first
          | refine lst_run (run_loadN_own (k := 2) hS rfl rfl rfl (by first | exact .head | exact .tail .head | exact .tail (.tail .head) | exact .tail (.tail (.tail .head)) | exact .tail (.tail (.tail (.tail .head))) | exact .tail (.tail (.tail (.tail (.tail .head))))) (by repeat constructor)) rfl ?_
          | refine lst_run (run_load2 rfl rfl rfl (by first | assumption | exact hS.cell0 (by assumption)) (by first | assumption | exact hS.cell0 (by assumption))) rfl ?_
        refine lst_storeN hS rfl (by conv => lhs; whnf) rfl rfl (by first | exact .head | exact .tail .head | exact .tail (.tail .head) | exact .tail (.tail (.tail .head)) | exact .tail (.tail (.tail (.tail .head))) | exact .tail (.tail (.tail (.tail (.tail .head))))) (by repeat constructor) (by first | exact .head | exact .tail .head | exact .tail (.tail .head) | exact .tail (.tail (.tail .head)) | exact .tail (.tail (.tail (.tail .head))) | exact .tail (.tail (.tail (.tail (.tail .head))))) ?_
        clear hS
        intro wx4 hS
        refine lst_run (run_assign (by conv => lhs; whnf)) rfl ?_
        refine lst_run (run_assign (by conv => lhs; whnf)) rfl ?_
        refine lst_done ?_
        refine goes_retC3 (sz := 2) hS Try.func59 rfl rfl (by conv => lhs; whnf) (by conv => lhs; whnf) rfl rfl (by first | exact .head | exact .tail .head | exact .tail (.tail .head) | exact .tail (.tail (.tail .head)) | exact .tail (.tail (.tail (.tail .head))) | exact .tail (.tail (.tail (.tail (.tail .head))))) (by repeat constructor) ?_
        have hS2 := (hS.drop.perm (List.perm_append_comm_assoc [_] [_, _] _)).drop.drop
        have hS3 := St.freezeG hS2 (c := c5) (by rw [hgu.len]; exact hc5)
        have hS4 := St.freezeR hrow6 hS3
        exact ⟨_, c5, B6, d6, _, rfl, fun φ h => .tail _ (.tail _ h), fun w' hw => ⟨hw _ (.tail _ (.head _)), hw _ (.head _)⟩, hS4⟩
end
end Go.Proofs.Ytjicoifjgokoiaa
namespace Go.Proofs.Ytjicoifjgokoiaa
open Go.RowKit
set_option linter.unusedVariables false
set_option linter.unusedSimpArgs false
set_option maxRecDepth 100000
set_option maxHeartbeats 1000000

def hp0L : List HC := [⟨0, 0, eS⟩, ⟨2, 7, eS⟩]
def hp1L : HH := ⟨[⟨0, 0, eS⟩, ⟨2, 7, eS⟩], []⟩
def hp2L : HH := ⟨[⟨0, 1, eS⟩, ⟨2, 7, eS⟩], [0]⟩
theorem heaps_loadL : loadH ⟨[], []⟩ hp0L = (hp1L, 0, 0) := by kernel_rfl
theorem heaps_uniL : unifyH hp1L 0 1 = (hp2L, true, 0) := by kernel_rfl
theorem heaps_lookL : hlook hp2L.cs 0 = 1 := by kernel_rfl
theorem heapsL_any (w : World) : Calls Try.prog 34 #[] w fun e w' => e = .returned (.bool true) ∧ Below w.heap.size w w' := by
  have hS := St.start w
  refine goes_enter0 Try.func34 rfl Try.ntmps34 rfl ?_
  refine goes_seq ?_
  refine goes_region ?_
  refine lst_run (run_assign (by conv => lhs; whnf)) rfl ?_
  refine lst_done ?_
  refine goes_seq ?_
  refine goes_region ?_
  refine lst_run (run_build (cells := [_, _]) .nil rfl) rfl ?_
  refine lst_run (run_build (cells := [_, _, _]) .nil rfl) rfl ?_
  refine lst_run (run_build (cells := [_, _, _]) (.cons (by conv => lhs; whnf) (.cons (by conv => lhs; whnf) .nil)) rfl) rfl ?_
  refine lst_buildSlice (cells := [_, _, _, _, _, _]) hS (.cons (by conv => lhs; whnf) (.cons (by conv => lhs; whnf) .nil)) rfl rfl ?_
  clear hS
  intro b1 wx1 hS
  replace hS := St.freezeG (L := hp0L) (sp := []) (c := 2) hS (by decide)
  have hz : Und [Flat 3 (hcsL hp0L) (some ⟨b1, 0, none⟩) hp0L.length 2] (HFl ⟨[], []⟩ none 0 none 0) := fun w' _ => ⟨Flat.nil_ _ _ _, Flat.nil_ _ _ _⟩
  have hl := load_any (M := []) (w0 := w) (H := []) ⟨[], []⟩ hp0L none none (some ⟨b1, 0, none⟩) 0 0 2 _ hz Und.head hS
  rw [heaps_loadL] at hl
  refine lst_enter (run_call (by kernel_rfl) (args_2 (by conv => lhs; whnf) (by conv => lhs; whnf))) rfl ?_
  refine Calls.mono (hl) ?_
  rintro _ w2 ⟨A2, c2, B2, d2, F2, rfl, hF2, hH2, hS'⟩
  refine ⟨_, rfl, ?_⟩
  replace hS := hS'
  clear hS'
  refine lst_run (run_move (by conv => lhs; whnf)) rfl ?_
  refine lst_run (run_extract rfl rfl) rfl ?_
  refine lst_run (run_extract rfl rfl) rfl ?_
  refine lst_run (run_extract rfl rfl) rfl ?_
  refine lst_alloc (cs := [_, _]) hS rfl rfl rfl ?_
  clear hS
  intro b2 wx2 hS
  refine lst_storeN hS rfl (by conv => lhs; whnf) rfl rfl (by first | exact .head | exact .tail .head | exact .tail (.tail .head) | exact .tail (.tail (.tail .head)) | exact .tail (.tail (.tail (.tail .head))) | exact .tail (.tail (.tail (.tail (.tail .head))))) (by repeat constructor) (by first | exact .head | exact .tail .head | exact .tail (.tail .head) | exact .tail (.tail (.tail .head)) | exact .tail (.tail (.tail (.tail .head))) | exact .tail (.tail (.tail (.tail (.tail .head))))) ?_
  clear hS
  intro wx3 hS
  refine lst_run (run_assign (by conv => lhs; whnf)) rfl ?_
  refine lst_run (run_assign (by conv => lhs; whnf)) rfl ?_
  refine lst_done ?_
  refine goes_seq ?_
  refine goes_region ?_
  first
    | refine lst_run (run_loadN_own (k := 2) hS rfl rfl rfl (by first | exact .head | exact .tail .head | exact .tail (.tail .head) | exact .tail (.tail (.tail .head)) | exact .tail (.tail (.tail (.tail .head))) | exact .tail (.tail (.tail (.tail (.tail .head))))) (by repeat constructor)) rfl ?_
    | refine lst_run (run_load2 rfl rfl rfl (by first | assumption | exact hS.cell0 (by assumption)) (by first | assumption | exact hS.cell0 (by assumption))) rfl ?_
  have hu := unify_any (M := []) (w0 := w) (F := F2) hp1L 0 1 A2 B2 c2 d2 _ hH2 hS
  rw [heaps_uniL] at hu
  refine lst_enter (run_call (by kernel_rfl) (args_3 (by conv => lhs; whnf) (by conv => lhs; whnf) (by conv => lhs; whnf))) rfl ?_
  refine Calls.mono (hu) ?_
  rintro _ w3 ⟨A3, c3, B3, d3, F3, rfl, hF3, hH3, hS'⟩
  refine ⟨_, rfl, ?_⟩
  replace hS := hS'
  clear hS'
  refine lst_run (run_move (by conv => lhs; whnf)) rfl ?_
  refine lst_run (run_extract rfl rfl) rfl ?_
  refine lst_run (run_extract rfl rfl) rfl ?_
  refine lst_run (run_extract rfl rfl) rfl ?_
  refine lst_alloc (cs := [_, _]) hS rfl rfl rfl ?_
  clear hS
  intro b3 wx4 hS
  refine lst_storeN hS rfl (by conv => lhs; whnf) rfl rfl (by first | exact .head | exact .tail .head | exact .tail (.tail .head) | exact .tail (.tail (.tail .head)) | exact .tail (.tail (.tail (.tail .head))) | exact .tail (.tail (.tail (.tail (.tail .head))))) (by repeat constructor) (by first | exact .head | exact .tail .head | exact .tail (.tail .head) | exact .tail (.tail (.tail .head)) | exact .tail (.tail (.tail (.tail .head))) | exact .tail (.tail (.tail (.tail (.tail .head))))) ?_
  clear hS
  intro wx5 hS
  refine lst_run (run_assign (by conv => lhs; whnf)) rfl ?_
  refine lst_run (run_assign (by conv => lhs; whnf)) rfl ?_
  refine lst_done ?_
  refine goes_seq ?_
  refine goes_region ?_
  refine lst_run (run_move (by conv => lhs; whnf)) rfl ?_
  first
    | refine lst_run (run_eql_one_int rfl rfl) rfl ?_
    | refine lst_run (run_eql_no rfl rfl (by first | assumption | omega)) rfl ?_
    | refine lst_run (run_eql_yes rfl rfl (by omega)) rfl ?_
    | refine lst_run (rfl) rfl ?_
  refine lst_run (run_move (by conv => lhs; whnf)) rfl ?_
  refine lst_guard rfl rfl ?_
  refine lst_run (run_move (by conv => lhs; whnf)) rfl ?_
  refine lst_guard rfl rfl ?_
  first
    | refine lst_run (run_eql_one_int rfl rfl) rfl ?_
    | refine lst_run (run_eql_no rfl rfl (by first | assumption | omega)) rfl ?_
    | refine lst_run (run_eql_yes rfl rfl (by omega)) rfl ?_
    | refine lst_run (rfl) rfl ?_
  first
    | refine lst_run (run_pick_t rfl (by conv => lhs; whnf)) rfl ?_
    | refine lst_run (run_pick_f rfl (by conv => lhs; whnf)) rfl ?_
  refine lst_run (run_move (by conv => lhs; whnf)) rfl ?_
  refine lst_guard rfl rfl ?_
  refine lst_run (run_move (by conv => lhs; whnf)) rfl ?_
  first
    | refine lst_run (run_pick_t rfl (by conv => lhs; whnf)) rfl ?_
    | refine lst_run (run_pick_f rfl (by conv => lhs; whnf)) rfl ?_
  refine lst_run (run_move (by conv => lhs; whnf)) rfl ?_
  refine lst_guard rfl rfl ?_
  refine lst_run (run_move (by conv => lhs; whnf)) rfl ?_
  refine lst_guard rfl rfl ?_
  first
    | refine lst_run (run_eql_one_int rfl rfl) rfl ?_
    | refine lst_run (run_eql_no rfl rfl (by first | assumption | omega)) rfl ?_
    | refine lst_run (run_eql_yes rfl rfl (by omega)) rfl ?_
    | refine lst_run (rfl) rfl ?_
  first
    | refine lst_run (run_pick_t rfl (by conv => lhs; whnf)) rfl ?_
    | refine lst_run (run_pick_f rfl (by conv => lhs; whnf)) rfl ?_
  refine lst_run (run_move (by conv => lhs; whnf)) rfl ?_
  refine lst_guard rfl rfl ?_
  refine lst_run (run_fieldAddr (off := 1) rfl rfl) rfl ?_
  refine lst_guard rfl rfl ?_
  first
    | refine lst_run (run_load1_own hS rfl rfl (by first | exact .head | exact .tail .head | exact .tail (.tail .head) | exact .tail (.tail (.tail .head)) | exact .tail (.tail (.tail (.tail .head))) | exact .tail (.tail (.tail (.tail (.tail .head))))) (by repeat constructor)) rfl ?_
    | refine lst_run (run_load1 rfl rfl (by first | assumption | exact hS.cell0 (by assumption) | exact lv_next hS | exact lv_list hS)) rfl ?_
  refine lst_guard rfl rfl ?_
  refine lst_run (run_len_slice rfl rfl rfl) rfl ?_
  refine lst_guard rfl rfl ?_
  first
    | refine lst_run (run_eql_one_int rfl rfl) rfl ?_
    | refine lst_run (run_eql_no rfl rfl (by first | assumption | omega)) rfl ?_
    | refine lst_run (run_eql_yes rfl rfl (by omega)) rfl ?_
    | refine lst_run (rfl) rfl ?_
  first
    | refine lst_run (run_pick_t rfl (by conv => lhs; whnf)) rfl ?_
    | refine lst_run (run_pick_f rfl (by conv => lhs; whnf)) rfl ?_
  refine lst_run (run_move (by conv => lhs; whnf)) rfl ?_
  refine lst_guard rfl rfl ?_
  first
    | refine lst_run (run_loadN_own (k := 2) hS rfl rfl rfl (by first | exact .head | exact .tail .head | exact .tail (.tail .head) | exact .tail (.tail (.tail .head)) | exact .tail (.tail (.tail (.tail .head))) | exact .tail (.tail (.tail (.tail (.tail .head))))) (by repeat constructor)) rfl ?_
    | refine lst_run (run_load2 rfl rfl rfl (by first | assumption | exact hS.cell0 (by assumption)) (by first | assumption | exact hS.cell0 (by assumption))) rfl ?_
  refine lst_guard rfl rfl ?_
  have hk := look_any hp2L.cs A3 B3 c3 hp2L.tr.length d3 0 _ (hS.und hH3).1 (by decide)
  rw [heaps_lookL] at hk
  refine lst_enter (run_call (by kernel_rfl) (args_2 (by conv => lhs; whnf) (by conv => lhs; whnf))) rfl ?_
  refine Calls.mono (hk) ?_
  rintro _ w4 ⟨rfl, hb4⟩
  refine ⟨_, rfl, ?_⟩
  replace hS := hS.grow hb4
  refine lst_guard rfl rfl ?_
  first
    | refine lst_run (run_eql_one_int rfl rfl) rfl ?_
    | refine lst_run (run_eql_no rfl rfl (by first | assumption | omega)) rfl ?_
    | refine lst_run (run_eql_yes rfl rfl (by omega)) rfl ?_
    | refine lst_run (rfl) rfl ?_
  first
    | refine lst_run (run_pick_t rfl (by conv => lhs; whnf)) rfl ?_
    | refine lst_run (run_pick_f rfl (by conv => lhs; whnf)) rfl ?_
  refine lst_run (run_assign (by conv => lhs; whnf)) rfl ?_
  refine lst_done ?_
  refine goes_ret1 Try.func34 rfl (by conv => lhs; whnf) ?_
  exact ⟨rfl, hS.ext.below⟩
end Go.Proofs.Ytjicoifjgokoiaa
