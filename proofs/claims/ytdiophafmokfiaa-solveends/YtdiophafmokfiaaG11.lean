/- LMore, LEnds, Open, OpenC, OpenW: texts that follow one another, laid into one file. -/
import Derived.Test.YtdiophafmokfiaaG10
import Derived.Test.YtdiophafmokfiaaG1
import Derived.Test.YtdiophafmokfiaaRows
import Derived.Deep.Slices
import Derived.Deep.Fields
import Derived.JoinedCond
import Derived.OpenShut
import Derived.Test.YtdiophafmokfiaaG2
namespace Go.Proofs.Ytdiophafmokfiaa
open Go.RowKit
set_option linter.unusedVariables false
set_option linter.unusedSimpArgs false
set_option maxRecDepth 100000
set_option maxHeartbeats 1000000

theorem ke_ext {a b : List KE} (h : a.map KE.ev = b.map KE.ev) : a.length = b.length := by
  have := congrArg List.length h; simpa using this
/-- Two lists of events that are alike. -/
theorem sameEvents_any (L K : List KE) (A B : Option Addr) (c d : Nat) (w : World) (hL : KER L A c w) (hK : KER K B d w) (he : L.map KE.ev = K.map KE.ev) (hn : ∀ x ∈ L, x.T.ts.nodes ≤ 200) (hl : L.length ≤ 1000) :
    Calls Try.prog 25 #[.slice A L.length c, .slice B K.length d] w fun e w' => e = .returned (.bool true) ∧ Below w.heap.size w w' := by
  have hS := St.start w
  have hlen := ke_ext he
  rw [← hlen]
  refine goes_enter2 Try.func25 rfl Try.ntmps25 rfl ?_
  refine goes_seq ?_
  refine goes_region ?_
  refine lst_run (run_assign (by conv => lhs; whnf)) rfl ?_
  refine lst_done ?_
  refine goes_seq ?_
  refine goes_seq ?_
  refine goes_region ?_
  refine lst_run (run_move (by conv => lhs; whnf)) rfl ?_
  refine lst_run (run_len_slice rfl rfl rfl) rfl ?_
  refine lst_run (run_move (by conv => lhs; whnf)) rfl ?_
  refine lst_run (run_len_slice rfl rfl rfl) rfl ?_
  first
    | refine lst_run (run_neq_one_int rfl rfl) rfl ?_
    | refine lst_run (run_neq_no rfl rfl (by first | assumption | omega)) rfl ?_
    | refine lst_run (run_neq_yes rfl rfl (by omega)) rfl ?_
    | refine lst_run (rfl) rfl ?_
  refine lst_done ?_
  refine goes_false rfl ?_
  refine goes_skip ?_
  refine goes_seq ?_
  refine goes_seq ?_
  refine goes_region ?_
  refine lst_run (run_move (by conv => lhs; whnf)) rfl ?_
  refine lst_run (run_len_slice rfl rfl rfl) rfl ?_
  refine lst_run (run_move (by conv => lhs; whnf)) rfl ?_
  refine lst_done ?_
  refine goes_block ?_
  refine goes_loop1 13 (14 :: 15 :: 5 :: 16 :: 17 :: 18 :: 19 :: 20 :: 21 :: 22 :: 23 :: 24 :: 25 :: 26 :: 27 :: 28 :: 29 :: 30 :: 31 :: 32 :: 33 :: 34 :: 35 :: 36 :: 37 :: 38 :: 39 :: 40 :: 4 :: 41 :: []) (fun (R : List KE) v w' => St [] w [] [] w' ∧ ∃ D, L = D ++ R ∧ v = .int .i64 (D.length : Nat)) (fun R => R.length) (L) ?_ (by conv => lhs; whnf) ?_
  · exact ⟨hS, [], rfl, rfl⟩
  clear hS
  rintro R _ w2 jv ⟨hS, D, hD, rfl⟩ ih
  have hlD : L.length = D.length + R.length := by rw [hD]; simp
  cases R with
  | nil =>
    simp only [List.length_nil] at hlD
    refine goes_seq ?_
    refine goes_region ?_
    first
      | refine lst_run (run_lss_yes rfl rfl (by omega)) rfl ?_
      | refine lst_run (run_lss_no rfl rfl (by omega)) rfl ?_
      | refine lst_run (rfl) rfl ?_
    refine lst_done ?_
    refine goes_seq ?_
    refine goes_false rfl ?_
    refine goes_exit rfl ?_
    refine goes_seq ?_
    refine goes_region ?_
    refine lst_run (run_assign (by conv => lhs; whnf)) rfl ?_
    refine lst_done ?_
    refine goes_ret1 Try.func25 rfl (by conv => lhs; whnf) ?_
    exact ⟨rfl, hS.ext.below⟩
  | cons x R =>
    simp only [List.length_cons] at hlD
    obtain ⟨D2, y, R2, hK2, hDl, hy⟩ : ∃ D2 y R2, K = D2 ++ y :: R2 ∧ D2.length = D.length ∧ y.ev = x.ev := by
      have hk : D.length < K.length := by omega
      refine ⟨K.take D.length, K[D.length], K.drop (D.length + 1), ?_, by simp; omega, ?_⟩
      · rw [← List.drop_eq_getElem_cons hk, List.take_append_drop]
      · have h1 := congrArg (fun l => l[D.length]?) he
        simp only [List.getElem?_map] at h1
        rw [hD, List.getElem?_append_right (Nat.le_refl _), Nat.sub_self] at h1
        simp [hk] at h1
        exact h1.symm
    obtain ⟨xk, xA, xc, xT⟩ := x
    obtain ⟨yk, yA, yc, yT⟩ := y
    simp only [KE.ev, Prod.mk.injEq] at hy
    obtain ⟨rfl, hyT⟩ := hy
    have hnx : xT.ts.nodes ≤ 200 := hn ⟨yk, xA, xc, xT⟩ (by rw [hD]; simp)
    rw [hD] at hL
    rw [hK2] at hK
    obtain ⟨b6, o6, rfl⟩ := hL.some_ (by simp; omega)
    obtain ⟨b8, o8, rfl⟩ := hK.some_ (by simp; omega)
    obtain ⟨p0, p1⟩ := hL.cells
    obtain ⟨q0, q1⟩ := hK.cells
    rw [hDl] at q0 q1
    have hax := hL.2.2 ⟨yk, xA, xc, xT⟩ (by simp)
    have hay := hK.2.2 ⟨yk, yA, yc, yT⟩ (by simp)
    have hsames : ∀ w', St [] w [] [] w' → Calls Try.prog 20 #[.slice xA xT.len xc, .slice yA yT.len yc] w' fun e w'' => e = .returned (.bool true) ∧ Below w'.heap.size w' w'' := by
      intro w' h
      have := _root_.Go.Proofs.Ytdiophafmokfiaa.K.sameTerms_any xT.ts yT.ts _ _ w' (hax.sl.below h.ext.below) (hay.sl.below h.ext.below) (by omega) (by rw [hyT]; omega)
      rw [(Ts.same_iff _ _).2 hyT.symm] at this
      exact this
    refine goes_seq ?_
    refine goes_region ?_
    first
      | refine lst_run (run_lss_yes rfl rfl (by omega)) rfl ?_
      | refine lst_run (run_lss_no rfl rfl (by omega)) rfl ?_
      | refine lst_run (rfl) rfl ?_
    refine lst_done ?_
    refine goes_seq ?_
    refine goes_true rfl ?_
    refine goes_skip ?_
    refine goes_seq ?_
    refine goes_block ?_
    refine goes_seq ?_
    refine goes_region ?_
    refine lst_run (run_move (by conv => lhs; whnf)) rfl ?_
    refine lst_run (run_assign (by conv => lhs; whnf)) rfl ?_
    refine lst_done ?_
    refine goes_seq ?_
    refine goes_draw (St [] w [] []) 25 ((0, true) :: (1, true) :: (2, true) :: (3, true) :: (4, true) :: (5, true) :: (6, true) :: (7, true) :: (8, true) :: (9, true) :: (10, true) :: (11, true) :: (12, true) :: (13, true) :: (14, true) :: (15, true) :: (16, true) :: (17, true) :: (18, true) :: (19, true) :: (20, true) :: (21, true) :: (22, false) :: (23, true) :: (24, true) :: []) (by kernel_rfl) (by kernel_rfl) (hS.drew) ?_
    replace hS := hS.drew
    refine ord_read rfl (fun _ hS => run_move (by conv => lhs; whnf)) rfl ?_
    refine ord_read rfl (fun _ hS => run_move (by conv => lhs; whnf)) rfl ?_
    refine ord_read rfl (fun _ hS => run_indexAddr (sz := 2) rfl rfl rfl rfl (by omega) (by omega)) rfl ?_
    refine ord_read rfl (fun _ hS => run_fieldAddr (off := 0) rfl rfl) rfl ?_
    first
      | refine ord_read rfl (fun _ hS => run_load1_own hS rfl rfl (by first | exact .head | exact .tail .head | exact .tail (.tail .head) | exact .tail (.tail (.tail .head)) | exact .tail (.tail (.tail (.tail .head))) | exact .tail (.tail (.tail (.tail (.tail .head))))) (by repeat constructor)) rfl ?_
      | refine ord_read rfl (fun _ hS => run_load1 rfl rfl (by first | assumption | exact hS.cell0 (by assumption) | exact lv_next hS | exact lv_list hS)) rfl ?_
    refine ord_read rfl (fun _ hS => run_move (by conv => lhs; whnf)) rfl ?_
    refine ord_read rfl (fun _ hS => run_move (by conv => lhs; whnf)) rfl ?_
    refine ord_read rfl (fun _ hS => run_indexAddr (sz := 2) rfl rfl rfl rfl (by omega) (by omega)) rfl ?_
    refine ord_read rfl (fun _ hS => run_fieldAddr (off := 0) rfl rfl) rfl ?_
    first
      | refine ord_read rfl (fun _ hS => run_load1_own hS rfl rfl (by first | exact .head | exact .tail .head | exact .tail (.tail .head) | exact .tail (.tail (.tail .head)) | exact .tail (.tail (.tail (.tail .head))) | exact .tail (.tail (.tail (.tail (.tail .head))))) (by repeat constructor)) rfl ?_
      | refine ord_read rfl (fun _ hS => run_load1 rfl rfl (by first | assumption | exact hS.cell0 (by assumption) | exact lv_next hS | exact lv_list hS)) rfl ?_
    first
      | refine ord_read rfl (fun _ hS => run_neq_one_int rfl rfl) rfl ?_
      | refine ord_read rfl (fun _ hS => run_neq_no rfl rfl (by first | assumption | omega)) rfl ?_
      | refine ord_read rfl (fun _ hS => run_neq_yes rfl rfl (by omega)) rfl ?_
      | refine ord_read rfl (fun _ hS => rfl) rfl ?_
    refine ord_read rfl (fun _ hS => run_move (by conv => lhs; whnf)) rfl ?_
    refine ord_readG rfl rfl rfl (fun _ hS => run_move (by conv => lhs; whnf)) rfl ?_
    refine ord_readG rfl rfl rfl (fun _ hS => run_move (by conv => lhs; whnf)) rfl ?_
    refine ord_readG rfl rfl rfl (fun _ hS => run_indexAddr (sz := 2) rfl rfl rfl rfl (by omega) (by omega)) rfl ?_
    refine ord_readG rfl rfl rfl (fun _ hS => run_fieldAddr (off := 1) rfl rfl) rfl ?_
    first
      | refine ord_readG rfl rfl rfl (fun _ hS => run_load1_own hS rfl rfl (by first | exact .head | exact .tail .head | exact .tail (.tail .head) | exact .tail (.tail (.tail .head)) | exact .tail (.tail (.tail (.tail .head))) | exact .tail (.tail (.tail (.tail (.tail .head))))) (by repeat constructor)) rfl ?_
      | refine ord_readG rfl rfl rfl (fun _ hS => run_load1 rfl rfl (by first | assumption | exact hS.cell0 (by assumption) | exact lv_next hS | exact lv_list hS)) rfl ?_
    refine ord_readG rfl rfl rfl (fun _ hS => run_move (by conv => lhs; whnf)) rfl ?_
    refine ord_readG rfl rfl rfl (fun _ hS => run_move (by conv => lhs; whnf)) rfl ?_
    refine ord_readG rfl rfl rfl (fun _ hS => run_indexAddr (sz := 2) rfl rfl rfl rfl (by omega) (by omega)) rfl ?_
    refine ord_readG rfl rfl rfl (fun _ hS => run_fieldAddr (off := 1) rfl rfl) rfl ?_
    first
      | refine ord_readG rfl rfl rfl (fun _ hS => run_load1_own hS rfl rfl (by first | exact .head | exact .tail .head | exact .tail (.tail .head) | exact .tail (.tail (.tail .head)) | exact .tail (.tail (.tail (.tail .head))) | exact .tail (.tail (.tail (.tail (.tail .head))))) (by repeat constructor)) rfl ?_
      | refine ord_readG rfl rfl rfl (fun _ hS => run_load1 rfl rfl (by first | assumption | exact hS.cell0 (by assumption) | exact lv_next hS | exact lv_list hS)) rfl ?_
    refine ord_act rfl ?_
    refine lst_guard rfl rfl ?_
    refine lst_enter (run_call (by kernel_rfl) (args_2 (by conv => lhs; whnf) (by conv => lhs; whnf))) rfl ?_
    refine Calls.mono (hsames _ hS) ?_
    rintro _ w7 ⟨rfl, hb7⟩
    refine ⟨_, rfl, ?_⟩
    replace hS := hS.grow hb7
    refine lst_ord hS ?_
    refine ord_readG rfl rfl rfl (fun _ hS => rfl) rfl ?_
    first
      | refine ord_read rfl (fun _ hS => run_pick_t rfl (by conv => lhs; whnf)) rfl ?_
      | refine ord_read rfl (fun _ hS => run_pick_f rfl (by conv => lhs; whnf)) rfl ?_
    refine ord_end ?_
    refine lst_done ?_
    refine goes_false rfl ?_
    refine goes_skip ?_
    refine goes_inBlock ?_
    refine goes_region ?_
    refine lst_run (run_add rfl rfl (by omega) (by omega)) rfl ?_
    refine lst_run (run_move (by conv => lhs; whnf)) rfl ?_
    refine lst_done ?_
    refine ih (R) _ _ _ ?_ ?_ (by conv => lhs; whnf) (by kernel_rfl)
    · simp
    · exact ⟨hS, D ++ [⟨yk, xA, xc, xT⟩], by rw [hD]; simp, by simp⟩
theorem KEAt.take {w : World} {b : Nat} {R : List KE} : ∀ {D : List KE} {o : Nat}, KEAt w b (D ++ R) o → KEAt w b D o
  | [], _, _ => trivial
  | _ :: _, _, ⟨h0, h1, h⟩ => ⟨h0, h1, h.take⟩
theorem KER.take {D R : List KE} {A : Option Addr} {c : Nat} {w : World} (h : KER (D ++ R) A c w) : KER D A c w := by
  have h1 := h.1
  simp only [List.length_append] at h1
  refine ⟨by omega, fun hl => ?_, fun x hx => h.2.2 x (List.mem_append_left _ hx)⟩
  obtain ⟨b, o, e, hs⟩ := h.2.1 (by simp; omega)
  exact ⟨b, o, e, hs.take⟩
theorem map_split {L : List KE} {a : List Ev} {b : List Ev} (h : L.map KE.ev = a ++ b) : ∃ D R, L = D ++ R ∧ D.map KE.ev = a ∧ R.map KE.ev = b := by
  obtain ⟨D, R, h1, h2, h3⟩ := List.map_eq_append_iff.1 h
  exact ⟨D, R, h1, h2, h3⟩
theorem pickN_any (k n : Int) (h0 : 0 < n) (h1 : n ≤ 1000) (w : World) : Calls Try.prog 18 #[.int .i64 k, .int .i64 n] w fun e w' => ∃ r : Int, e = .returned (.int .i64 r) ∧ 0 ≤ r ∧ r < n ∧ w = w' := by
  have h2 : -n < k.tmod n ∧ k.tmod n < n := by
    have h3 := Int.emod_lt_of_pos k h0
    have h4 := Int.emod_nonneg k (show n ≠ 0 by omega)
    rw [Int.tmod_eq_emod]
    split <;> omega
  have hne : ¬ n = 0 := by omega
  go_enter Try.func18, Try.ntmps18
  go_wp2_with fail
  all_goals go_ret
  all_goals refine ⟨_, rfl, ?_, ?_, rfl⟩
  all_goals (first | omega | (simp; omega))
section
variable {F : List (World → Prop)}
theorem ev_nodes {vars : Nat} {s : SS} {r : List Ev} {l : List Ts} {k : Int} (h : RunOk vars s r l k) {L : List KE} (hL : L.map KE.ev = r) : (∀ x ∈ L, x.T.ts.nodes ≤ 200) ∧ L.length ≤ 13 := by
  refine ⟨fun x hx => ?_, ?_⟩
  · have : x.ev ∈ r := by rw [← hL]; exact List.mem_map.2 ⟨x, hx, rfl⟩
    rw [h.eq] at this
    rcases List.mem_append.1 this with h1 | h1
    · obtain ⟨T, hT, e⟩ := List.mem_map.1 h1
      have e2 : T = x.T.ts := congrArg Prod.snd e
      rw [← e2]; exact (h.ans T hT).2.1
    · have e : x.ev = (k, .nil) := by simpa using h1
      have e2 : x.T.ts = .nil := congrArg Prod.snd e
      rw [e2]; simp [Ts.nodes]
  · have := congrArg List.length hL
    rw [h.eq] at this
    simp [evsOf] at this
    have := h.six.2
    omega
theorem solveMore_any (P : List Cl) (Q : Ts) (pv qv : Value) (vars fuel more : Int) (w : World) (hp : SlC w (fun _ => True) pv P) (hq : Sl w (fun _ => True) qv Q) (hpl : P.length ≤ 9223372036854775807) (hpw : ClsWide P) (hql : Q.length ≤ 9223372036854775807) (hqw : Q.wide) :
    Calls Try.prog 6 #[pv, qv, .int .i64 vars, .int .i64 fuel, .int .i64 more] w fun e w' => e = .returned (.bool true) ∧ Below w.heap.size w w' := by
  have hS := St.start w
  obtain ⟨pA, pc, X, rfl, hX, hXr⟩ := hp.locate
  obtain ⟨qA, qc, Y, rfl, hY, hYr⟩ := hq.locate
  replace hS := hS.base (φ := ClsR X pA pc) fun w2 hx => hXr w2 fun k hk hl => hx.block k hl (by simp)
  replace hS := hS.base (φ := ArA qA qc Y) fun w2 hx => hYr w2 fun k hk hl => hx.block k hl (by simp)
  have hXl : X.length ≤ 9223372036854775807 := by rw [← hX] at hpl; simpa using hpl
  have hYl : Y.len ≤ 9223372036854775807 := by rw [← TA.len_ts, hY]; exact hql
  rw [← hX] at hpw
  rw [← hY] at hqw
  refine goes_enter5 Try.func6 rfl Try.ntmps6 rfl ?_
  by_cases h1 : fuel < 0
  · refine goes_seq ?_
    refine goes_region ?_
    refine lst_run (run_assign (by conv => lhs; whnf)) rfl ?_
    refine lst_done ?_
    refine goes_seq ?_
    refine goes_seq ?_
    refine goes_region ?_
    refine lst_run (run_move (by conv => lhs; whnf)) rfl ?_
    first
      | refine lst_run (run_lss_yes rfl rfl (by omega)) rfl ?_
      | refine lst_run (run_lss_no rfl rfl (by omega)) rfl ?_
      | refine lst_run (rfl) rfl ?_
    refine lst_run (run_move (by conv => lhs; whnf)) rfl ?_
    refine lst_pass rfl rfl rfl ?_
    refine lst_pass rfl rfl rfl ?_
    first
      | refine lst_run (run_pick_t rfl (by conv => lhs; whnf)) rfl ?_
      | refine lst_run (run_pick_f rfl (by conv => lhs; whnf)) rfl ?_
    refine lst_done ?_
    refine goes_true rfl ?_
    refine goes_seq ?_
    refine goes_region ?_
    refine lst_enter (run_call (by kernel_rfl) args_nil) rfl ?_
    refine Calls.mono (solves_any _) ?_
    rintro _ w3 ⟨rfl, hb3⟩
    refine ⟨_, rfl, ?_⟩
    replace hS := hS.grow hb3
    refine lst_run (run_assign (by conv => lhs; whnf)) rfl ?_
    refine lst_done ?_
    refine goes_ret1 Try.func6 rfl (by conv => lhs; whnf) ?_
    exact ⟨rfl, hS.ext.below⟩
  by_cases h2 : 150 < fuel
  · refine goes_seq ?_
    refine goes_region ?_
    refine lst_run (run_assign (by conv => lhs; whnf)) rfl ?_
    refine lst_done ?_
    refine goes_seq ?_
    refine goes_seq ?_
    refine goes_region ?_
    refine lst_run (run_move (by conv => lhs; whnf)) rfl ?_
    first
      | refine lst_run (run_lss_yes rfl rfl (by omega)) rfl ?_
      | refine lst_run (run_lss_no rfl rfl (by omega)) rfl ?_
      | refine lst_run (rfl) rfl ?_
    refine lst_run (run_move (by conv => lhs; whnf)) rfl ?_
    refine lst_guard rfl rfl ?_
    refine lst_run (run_move (by conv => lhs; whnf)) rfl ?_
    refine lst_guard rfl rfl ?_
    first
      | refine lst_run (run_gtr_yes rfl rfl (by omega)) rfl ?_
      | refine lst_run (run_gtr_no rfl rfl (by omega)) rfl ?_
      | refine lst_run (rfl) rfl ?_
    first
      | refine lst_run (run_pick_t rfl (by conv => lhs; whnf)) rfl ?_
      | refine lst_run (run_pick_f rfl (by conv => lhs; whnf)) rfl ?_
    refine lst_done ?_
    refine goes_true rfl ?_
    refine goes_seq ?_
    refine goes_region ?_
    refine lst_enter (run_call (by kernel_rfl) args_nil) rfl ?_
    refine Calls.mono (solves_any _) ?_
    rintro _ w3 ⟨rfl, hb3⟩
    refine ⟨_, rfl, ?_⟩
    replace hS := hS.grow hb3
    refine lst_run (run_assign (by conv => lhs; whnf)) rfl ?_
    refine lst_done ?_
    refine goes_ret1 Try.func6 rfl (by conv => lhs; whnf) ?_
    exact ⟨rfl, hS.ext.below⟩
  obtain ⟨f, rfl⟩ : ∃ f : Nat, fuel = f := ⟨fuel.toNat, by omega⟩
  refine goes_seq ?_
  refine goes_region ?_
  refine lst_run (run_assign (by conv => lhs; whnf)) rfl ?_
  refine lst_done ?_
  refine goes_seq ?_
  refine goes_seq ?_
  refine goes_region ?_
  refine lst_run (run_move (by conv => lhs; whnf)) rfl ?_
  first
    | refine lst_run (run_lss_yes rfl rfl (by omega)) rfl ?_
    | refine lst_run (run_lss_no rfl rfl (by omega)) rfl ?_
    | refine lst_run (rfl) rfl ?_
  refine lst_run (run_move (by conv => lhs; whnf)) rfl ?_
  refine lst_guard rfl rfl ?_
  refine lst_run (run_move (by conv => lhs; whnf)) rfl ?_
  refine lst_guard rfl rfl ?_
  first
    | refine lst_run (run_gtr_yes rfl rfl (by omega)) rfl ?_
    | refine lst_run (run_gtr_no rfl rfl (by omega)) rfl ?_
    | refine lst_run (rfl) rfl ?_
  first
    | refine lst_run (run_pick_t rfl (by conv => lhs; whnf)) rfl ?_
    | refine lst_run (run_pick_f rfl (by conv => lhs; whnf)) rfl ?_
  refine lst_done ?_
  refine goes_false rfl ?_
  refine goes_skip ?_
  refine goes_seq ?_
  refine goes_region ?_
  refine lst_run (run_move (by conv => lhs; whnf)) rfl ?_
  refine lst_run (run_move (by conv => lhs; whnf)) rfl ?_
  refine lst_run (run_move (by conv => lhs; whnf)) rfl ?_
  refine lst_run (run_move (by conv => lhs; whnf)) rfl ?_
  refine lst_enter (run_call (by kernel_rfl) (args_4 (by conv => lhs; whnf) (by conv => lhs; whnf) (by conv => lhs; whnf) (by conv => lhs; whnf))) rfl ?_
  refine Calls.mono (allW_any X pA pc Y qA qc vars f _ Und.head.tail Und.head hXl hpw hYl hqw hS) ?_
  rintro _ w3 ⟨A1, c1, L1, F1, rfl, hL1, hF1, hK1, hS'⟩
  refine ⟨_, rfl, ?_⟩
  replace hS := hS'
  clear hS'
  refine lst_run (run_move (by conv => lhs; whnf)) rfl ?_
  refine lst_run (run_extract rfl rfl) rfl ?_
  refine lst_run (run_extract rfl rfl) rfl ?_
  refine lst_run (run_assign (by conv => lhs; whnf)) rfl ?_
  refine lst_run (run_assign (by conv => lhs; whnf)) rfl ?_
  refine lst_done ?_
  refine goes_seq ?_
  refine goes_region ?_
  refine lst_run (run_move (by conv => lhs; whnf)) rfl ?_
  refine lst_run (run_move (by conv => lhs; whnf)) rfl ?_
  refine lst_run (run_move (by conv => lhs; whnf)) rfl ?_
  refine lst_run (run_move (by conv => lhs; whnf)) rfl ?_
  refine lst_run (run_move (by conv => lhs; whnf)) rfl ?_
  refine lst_run (run_move (by conv => lhs; whnf)) rfl ?_
  first
    | refine lst_run (run_sub rfl rfl (by omega) (by omega)) rfl ?_
    | refine lst_run (run_sub_u8 rfl rfl) rfl ?_
  refine lst_run (run_add rfl rfl (by omega) (by omega)) rfl ?_
  refine lst_enter (run_call (by kernel_rfl) (args_2 (by conv => lhs; whnf) (by conv => lhs; whnf))) rfl ?_
  refine Calls.mono (pickN_any more _ (by omega) (by omega) _) ?_
  rintro _ w4 ⟨r, rfl, hr0, hr1, rfl⟩
  refine ⟨_, rfl, ?_⟩
  refine lst_run (run_add rfl rfl (by omega) (by omega)) rfl ?_
  obtain ⟨d, rfl⟩ : ∃ d : Nat, r = d := ⟨r.toNat, by omega⟩
  have hfd : ((f : Nat) : Int) + ((d : Nat) : Int) = ((f + d : Nat) : Int) := by omega
  rw [hfd]
  refine lst_enter (run_call (by kernel_rfl) (args_4 (by conv => lhs; whnf) (by conv => lhs; whnf) (by conv => lhs; whnf) (by conv => lhs; whnf))) rfl ?_
  refine Calls.mono (allW_any X pA pc Y qA qc vars ((f + d : Nat) : Int) _ (Und.head.tail.mono hF1) (Und.head.mono hF1) hXl hpw hYl hqw hS) ?_
  rintro _ w5 ⟨A2, c2, L2, F2, rfl, hL2, hF2, hK2, hS'⟩
  refine ⟨_, rfl, ?_⟩
  replace hS := hS'
  clear hS'
  have hfd2 : f + d ≤ 150 := by omega
  generalize hPC : X.map LC.cl = PC at *
  by_cases he : (allM PC Y.ts vars f).2 = 0
  case neg =>
    rw [all_more_err hfd2 he]
    refine lst_run (run_move (by conv => lhs; whnf)) rfl ?_
    refine lst_run (run_extract rfl rfl) rfl ?_
    refine lst_run (run_extract rfl rfl) rfl ?_
    refine lst_run (run_assign (by conv => lhs; whnf)) rfl ?_
    refine lst_run (run_assign (by conv => lhs; whnf)) rfl ?_
    refine lst_done ?_
    refine goes_seq ?_
    refine goes_seq ?_
    refine goes_region ?_
    refine lst_run (run_move (by conv => lhs; whnf)) rfl ?_
    first
      | refine lst_run (run_neq_one_int rfl rfl) rfl ?_
      | refine lst_run (run_neq_no rfl rfl (by first | assumption | omega)) rfl ?_
      | refine lst_run (run_neq_yes rfl rfl (by omega)) rfl ?_
      | refine lst_run (rfl) rfl ?_
    refine lst_run (run_move (by conv => lhs; whnf)) rfl ?_
    refine lst_pass rfl rfl rfl ?_
    refine lst_pass rfl rfl rfl ?_
    first
      | refine lst_run (run_pick_t rfl (by conv => lhs; whnf)) rfl ?_
      | refine lst_run (run_pick_f rfl (by conv => lhs; whnf)) rfl ?_
    refine lst_done ?_
    refine goes_true rfl ?_
    refine goes_seq ?_
    refine goes_region ?_
    refine lst_run (run_move (by conv => lhs; whnf)) rfl ?_
    refine lst_run (run_move (by conv => lhs; whnf)) rfl ?_
    first
      | refine lst_run (run_eql_one_int rfl rfl) rfl ?_
      | refine lst_run (run_eql_no rfl rfl (by first | assumption | omega)) rfl ?_
      | refine lst_run (run_eql_yes rfl rfl (by omega)) rfl ?_
      | refine lst_run (rfl) rfl ?_
    refine lst_run (run_move (by conv => lhs; whnf)) rfl ?_
    refine lst_guard rfl rfl ?_
    refine lst_enter (run_call (by kernel_rfl) args_nil) rfl ?_
    refine Calls.mono (solves_any _) ?_
    rintro _ w6 ⟨rfl, hb6⟩
    refine ⟨_, rfl, ?_⟩
    replace hS := hS.grow hb6
    first
      | refine lst_run (run_pick_t rfl (by conv => lhs; whnf)) rfl ?_
      | refine lst_run (run_pick_f rfl (by conv => lhs; whnf)) rfl ?_
    refine lst_run (run_assign (by conv => lhs; whnf)) rfl ?_
    refine lst_done ?_
    refine goes_ret1 Try.func6 rfl (by conv => lhs; whnf) ?_
    exact ⟨rfl, hS.ext.below⟩
  obtain ⟨he2, l, k, g1, g2, g3⟩ := all_more hfd2 he
  obtain ⟨l1, k1, hr1⟩ := all_events he
  obtain ⟨l2, k2, hr2⟩ := all_events he2
  obtain ⟨hn1, hlen1⟩ := ev_nodes hr1 hL1
  obtain ⟨hn2, hlen2⟩ := ev_nodes hr2 hL2
  rw [he, he2]
  have hK1' : Und F2 (KER L1 A1 c1) := hK1.mono hF2
  obtain ⟨D1, R1, hD1, hDe, hRe⟩ := map_split (hL1.trans g1)
  obtain ⟨x, rfl, hx⟩ : ∃ x, R1 = [x] ∧ x.ev = (k, .nil) := by
    match R1, hRe with
    | [x], h => exact ⟨x, rfl, by simpa using h⟩
    | [], h => simp at h
    | _ :: _ :: _, h => simp at h
  have hxk : x.k = k := congrArg Prod.fst hx
  have hl1 : L1.length = D1.length + 1 := by rw [hD1]; simp
  have hl12 : L1.length ≤ L2.length := by
    have e1 := congrArg List.length (hL1.trans g1)
    by_cases hk3 : k = 3
    · obtain ⟨y, r, e⟩ := g3 hk3
      have e2 := congrArg List.length (hL2.trans e)
      simp [evsOf] at e1 e2; omega
    · have e2 := congrArg List.length (hL2.trans (g2 hk3))
      simp [evsOf] at e1 e2; omega
  have hKw := hS.und hK1'
  rw [hD1] at hKw
  obtain ⟨b6, o6, rfl⟩ := hKw.some_ (by simp)
  obtain ⟨q0, q1⟩ := hKw.cells
  rw [show o6 + D1.length * 2 = o6 + (((L1.length : Nat) : Int) - 1).toNat * 2 by omega, hxk] at q0
  have hcap1 := (hS.und hK1').1
  have hcap2 := (hS.und hK2).1
  have hq : ∀ w', St [] w [] F2 w' → w'.cell? ⟨b6, o6 + (((L1.length : Nat) : Int) - 1).toNat * 2, none⟩ = some (.int .i64 k) := fun w' hS => by
    have h := hS.und hK1'
    rw [hD1] at h
    have q := h.cells.1
    rw [show o6 + D1.length * 2 = o6 + (((L1.length : Nat) : Int) - 1).toNat * 2 by omega, hxk] at q
    exact q
  refine lst_run (run_move (by conv => lhs; whnf)) rfl ?_
  refine lst_run (run_extract rfl rfl) rfl ?_
  refine lst_run (run_extract rfl rfl) rfl ?_
  refine lst_run (run_assign (by conv => lhs; whnf)) rfl ?_
  refine lst_run (run_assign (by conv => lhs; whnf)) rfl ?_
  refine lst_done ?_
  refine goes_seq ?_
  refine goes_seq ?_
  refine goes_region ?_
  refine lst_run (run_move (by conv => lhs; whnf)) rfl ?_
  first
    | refine lst_run (run_neq_one_int rfl rfl) rfl ?_
    | refine lst_run (run_neq_no rfl rfl (by first | assumption | omega)) rfl ?_
    | refine lst_run (run_neq_yes rfl rfl (by omega)) rfl ?_
    | refine lst_run (rfl) rfl ?_
  refine lst_run (run_move (by conv => lhs; whnf)) rfl ?_
  refine lst_guard rfl rfl ?_
  refine lst_enter (run_call (by kernel_rfl) args_nil) rfl ?_
  refine Calls.mono (solves_any _) ?_
  rintro _ w6 ⟨rfl, hb6⟩
  refine ⟨_, rfl, ?_⟩
  replace hS := hS.grow hb6
  refine lst_guard rfl rfl ?_
  refine lst_run (rfl) rfl ?_
  first
    | refine lst_run (run_pick_t rfl (by conv => lhs; whnf)) rfl ?_
    | refine lst_run (run_pick_f rfl (by conv => lhs; whnf)) rfl ?_
  refine lst_done ?_
  refine goes_false rfl ?_
  refine goes_skip ?_
  refine goes_seq ?_
  refine goes_seq ?_
  refine goes_region ?_
  refine lst_run (run_move (by conv => lhs; whnf)) rfl ?_
  refine lst_run (run_len_slice rfl rfl rfl) rfl ?_
  first
    | refine lst_run (run_eql_one_int rfl rfl) rfl ?_
    | refine lst_run (run_eql_no rfl rfl (by first | assumption | omega)) rfl ?_
    | refine lst_run (run_eql_yes rfl rfl (by omega)) rfl ?_
    | refine lst_run (rfl) rfl ?_
  refine lst_run (run_move (by conv => lhs; whnf)) rfl ?_
  refine lst_guard rfl rfl ?_
  refine lst_run (run_move (by conv => lhs; whnf)) rfl ?_
  refine lst_guard rfl rfl ?_
  refine lst_run (run_len_slice rfl rfl rfl) rfl ?_
  refine lst_guard rfl rfl ?_
  refine lst_run (run_move (by conv => lhs; whnf)) rfl ?_
  refine lst_guard rfl rfl ?_
  refine lst_run (run_len_slice rfl rfl rfl) rfl ?_
  refine lst_guard rfl rfl ?_
  first
    | refine lst_run (run_gtr_yes rfl rfl (by omega)) rfl ?_
    | refine lst_run (run_gtr_no rfl rfl (by omega)) rfl ?_
    | refine lst_run (rfl) rfl ?_
  first
    | refine lst_run (run_pick_t rfl (by conv => lhs; whnf)) rfl ?_
    | refine lst_run (run_pick_f rfl (by conv => lhs; whnf)) rfl ?_
  refine lst_done ?_
  by_cases hk3 : k = 3
  · obtain ⟨y, r, e⟩ := g3 hk3
    obtain ⟨D2, R2, hD2, hDe2, _⟩ := map_split (hL2.trans e)
    have hdl : D2.length = D1.length := by
      have a1 := congrArg List.length hDe
      have a2 := congrArg List.length hDe2
      simp at a1 a2; omega
    have t1 : (((L1.length : Nat) : Int) - 1).toNat = D1.length := by omega
    refine goes_false rfl ?_
    refine goes_skip ?_
    refine goes_seq ?_
    refine goes_seq ?_
    refine goes_region ?_
    refine lst_run (run_move (by conv => lhs; whnf)) rfl ?_
    refine lst_run (run_move (by conv => lhs; whnf)) rfl ?_
    refine lst_run (run_len_slice rfl rfl rfl) rfl ?_
    first
      | refine lst_run (run_sub rfl rfl (by omega) (by omega)) rfl ?_
      | refine lst_run (run_sub_u8 rfl rfl) rfl ?_
    refine lst_run (run_indexAddr (sz := 2) rfl rfl rfl rfl (by omega) (by omega)) rfl ?_
    refine lst_run (run_fieldAddr (off := 0) rfl rfl) rfl ?_
    first
      | refine lst_run (run_load1_own hS rfl rfl (by first | exact .head | exact .tail .head | exact .tail (.tail .head) | exact .tail (.tail (.tail .head)) | exact .tail (.tail (.tail (.tail .head))) | exact .tail (.tail (.tail (.tail (.tail .head))))) (by repeat constructor)) rfl ?_
      | refine lst_run (run_load1 rfl rfl (by first | assumption | exact hq _ hS | exact hS.cell0 (by assumption) | exact lv_next hS | exact lv_list hS)) rfl ?_
    first
      | refine lst_run (run_neq_one_int rfl rfl) rfl ?_
      | refine lst_run (run_neq_no rfl rfl (by first | assumption | omega)) rfl ?_
      | refine lst_run (run_neq_yes rfl rfl (by omega)) rfl ?_
      | refine lst_run (rfl) rfl ?_
    refine lst_done ?_
    refine goes_false rfl ?_
    refine goes_skip ?_
    refine goes_seq ?_
    refine goes_draw (St _ _ _ _) 10 ((0, true) :: (1, true) :: (2, true) :: (3, true) :: (4, true) :: (5, true) :: (6, true) :: (7, true) :: (8, true) :: (9, true) :: []) (by kernel_rfl) (by kernel_rfl) (hS.drew) ?_
    replace hS := hS.drew
    refine ord_read rfl (fun _ hS => run_move (by conv => lhs; whnf)) rfl ?_
    refine ord_read rfl (fun _ hS => run_move (by conv => lhs; whnf)) rfl ?_
    refine ord_read rfl (fun _ hS => run_len_slice rfl rfl rfl) rfl ?_
    first
      | refine ord_read rfl (fun _ hS => run_sub rfl rfl (by omega) (by omega)) rfl ?_
      | refine ord_read rfl (fun _ hS => run_sub_u8 rfl rfl) rfl ?_
    refine ord_read rfl (fun _ hS => run_slice_slice (sz := 2) rfl rfl rfl rfl (by omega) (by omega)) rfl ?_
    refine ord_read rfl (fun _ hS => run_move (by conv => lhs; whnf)) rfl ?_
    refine ord_read rfl (fun _ hS => run_move (by conv => lhs; whnf)) rfl ?_
    refine ord_read rfl (fun _ hS => run_len_slice rfl rfl rfl) rfl ?_
    first
      | refine ord_read rfl (fun _ hS => run_sub rfl rfl (by omega) (by omega)) rfl ?_
      | refine ord_read rfl (fun _ hS => run_sub_u8 rfl rfl) rfl ?_
    refine ord_read rfl (fun _ hS => run_slice_slice (sz := 2) rfl rfl rfl rfl (by omega) (by omega)) rfl ?_
    refine ord_end ?_
    rw [t1]
    have hk1 := hS.und hK1'
    rw [hD1] at hk1
    have hk2 := hS.und hK2
    rw [hD2] at hk2
    have hse := sameEvents_any D1 D2 _ _ _ _ _ hk1.take hk2.take (by rw [hDe, hDe2]) (fun z hz => hn1 z (by rw [hD1]; exact List.mem_append_left _ hz)) (by omega)
    rw [hdl] at hse
    refine lst_enter (run_call (by kernel_rfl) (args_2 (by conv => lhs; whnf) (by conv => lhs; whnf))) rfl ?_
    refine Calls.mono (hse) ?_
    rintro _ w7 ⟨rfl, hb7⟩
    refine ⟨_, rfl, ?_⟩
    replace hS := hS.grow hb7
    refine lst_run (run_assign (by conv => lhs; whnf)) rfl ?_
    refine lst_done ?_
    refine goes_ret1 Try.func6 rfl (by conv => lhs; whnf) ?_
    exact ⟨rfl, hS.ext.below⟩
  · refine goes_false rfl ?_
    refine goes_skip ?_
    refine goes_seq ?_
    refine goes_seq ?_
    refine goes_region ?_
    refine lst_run (run_move (by conv => lhs; whnf)) rfl ?_
    refine lst_run (run_move (by conv => lhs; whnf)) rfl ?_
    refine lst_run (run_len_slice rfl rfl rfl) rfl ?_
    first
      | refine lst_run (run_sub rfl rfl (by omega) (by omega)) rfl ?_
      | refine lst_run (run_sub_u8 rfl rfl) rfl ?_
    refine lst_run (run_indexAddr (sz := 2) rfl rfl rfl rfl (by omega) (by omega)) rfl ?_
    refine lst_run (run_fieldAddr (off := 0) rfl rfl) rfl ?_
    first
      | refine lst_run (run_load1_own hS rfl rfl (by first | exact .head | exact .tail .head | exact .tail (.tail .head) | exact .tail (.tail (.tail .head)) | exact .tail (.tail (.tail (.tail .head))) | exact .tail (.tail (.tail (.tail (.tail .head))))) (by repeat constructor)) rfl ?_
      | refine lst_run (run_load1 rfl rfl (by first | assumption | exact hq _ hS | exact hS.cell0 (by assumption) | exact lv_next hS | exact lv_list hS)) rfl ?_
    first
      | refine lst_run (run_neq_one_int rfl rfl) rfl ?_
      | refine lst_run (run_neq_no rfl rfl (by first | assumption | omega)) rfl ?_
      | refine lst_run (run_neq_yes rfl rfl (by omega)) rfl ?_
      | refine lst_run (rfl) rfl ?_
    refine lst_done ?_
    refine goes_true rfl ?_
    refine goes_seq ?_
    refine goes_region ?_
    refine lst_run (run_move (by conv => lhs; whnf)) rfl ?_
    refine lst_run (run_move (by conv => lhs; whnf)) rfl ?_
    refine lst_enter (run_call (by kernel_rfl) (args_2 (by conv => lhs; whnf) (by conv => lhs; whnf))) rfl ?_
    refine Calls.mono (sameEvents_any L1 L2 _ _ _ _ _ (hS.und hK1') (hS.und hK2) (by rw [hL1, hL2, g1, g2 hk3]) hn1 (by omega)) ?_
    rintro _ w7 ⟨rfl, hb7⟩
    refine ⟨_, rfl, ?_⟩
    replace hS := hS.grow hb7
    refine lst_run (run_assign (by conv => lhs; whnf)) rfl ?_
    refine lst_done ?_
    refine goes_ret1 Try.func6 rfl (by conv => lhs; whnf) ?_
    exact ⟨rfl, hS.ext.below⟩
end
end Go.Proofs.Ytdiophafmokfiaa
namespace Go.Proofs.Ytdiophafmokfiaa
open Go.RowKit
set_option linter.unusedVariables false
set_option linter.unusedSimpArgs false
set_option maxRecDepth 100000
set_option maxHeartbeats 1000000

/-- What an event is: an answer, or the end. -/
theorem ev_at {vars : Nat} {s : SS} {r : List Ev} {l : List Ts} {k : Int} (h : RunOk vars s r l k) {L D R : List KE} {x : KE} (hL : L.map KE.ev = r) (hD : L = D ++ x :: R) : (x.k = 1 ∧ AnsOk vars x.T.ts ∧ D.length < l.length) ∨ (x.k = k ∧ x.T = .nil ∧ D.length = l.length) := by
  have hlen : L.length = l.length + 1 := by have := congrArg List.length hL; rw [h.eq] at this; simpa [evsOf] using this
  have h1 : r[D.length]? = some x.ev := by rw [← hL, hD]; simp
  rw [h.eq] at h1
  have hd : D.length ≤ l.length := by have : L.length = D.length + (R.length + 1) := by rw [hD]; simp
                                      omega
  rcases Nat.lt_or_ge D.length l.length with hl | hl
  · left
    rw [List.getElem?_append_left (by simpa [evsOf] using hl)] at h1
    simp only [evsOf, List.getElem?_map, List.getElem?_eq_getElem hl, Option.map_some, Option.some.injEq] at h1
    have e1 : x.k = 1 := (congrArg Prod.fst h1).symm
    have e2 : l[D.length] = x.T.ts := congrArg Prod.snd h1
    exact ⟨e1, by rw [← e2]; exact h.ans _ (List.getElem_mem hl), hl⟩
  · right
    have e0 : D.length = l.length := by omega
    rw [List.getElem?_append_right (by simp [evsOf]; omega)] at h1
    have e3 : D.length - (evsOf l).length = 0 := by simp [evsOf]; omega
    rw [e3] at h1
    simp only [List.getElem?_cons_zero, Option.some.injEq] at h1
    have e1 : x.k = k := (congrArg Prod.fst h1).symm
    have e2 : Ts.nil = x.T.ts := congrArg Prod.snd h1
    refine ⟨e1, ?_, e0⟩
    cases hT : x.T with
    | nil => rfl
    | cons _ _ _ _ _ _ _ => rw [hT] at e2; simp [TA.ts] at e2
theorem good_sub {V : Int} {D r : Ts} {k n : Int} {s : ByteArray} {a : Ts} (h : (D.app (.cons k n s a r)).good V = true) : (Ts.cons k n s a .nil).good V = true := by
  induction D with
  | nil =>
    rw [show Ts.nil.app (.cons k n s a r) = .cons k n s a r from rfl, good_one, Bool.and_eq_true] at h
    exact h.1
  | cons k' n' s' a' r' _ ih =>
    rw [show (Ts.cons k' n' s' a' r').app (.cons k n s a r) = .cons k' n' s' a' (r'.app (.cons k n s a r)) from rfl, good_one, Bool.and_eq_true] at h
    exact ih h.2
theorem solveEnds_any (P : List Cl) (Q : Ts) (pv qv : Value) (vars fuel : Int) (w : World) (hp : SlC w (fun _ => True) pv P) (hq : Sl w (fun _ => True) qv Q) (hpl : P.length ≤ 9223372036854775807) (hpw : ClsWide P) (hql : Q.length ≤ 9223372036854775807) (hqw : Q.wide) :
    Calls Try.prog 5 #[pv, qv, .int .i64 vars, .int .i64 fuel] w fun e w' => e = .returned (.bool true) ∧ Below w.heap.size w w' := by
  have hS := St.start w
  obtain ⟨pA, pc, X, rfl, hX, hXr⟩ := hp.locate
  obtain ⟨qA, qc, Y, rfl, hY, hYr⟩ := hq.locate
  replace hS := hS.base (φ := ClsR X pA pc) fun w2 hx => hXr w2 fun k hk hl => hx.block k hl (by simp)
  replace hS := hS.base (φ := ArA qA qc Y) fun w2 hx => hYr w2 fun k hk hl => hx.block k hl (by simp)
  have hXl : X.length ≤ 9223372036854775807 := by rw [← hX] at hpl; simpa using hpl
  have hYl : Y.len ≤ 9223372036854775807 := by rw [← TA.len_ts, hY]; exact hql
  rw [← hX] at hpw
  rw [← hY] at hqw
  refine goes_enter4 Try.func5 rfl Try.ntmps5 rfl ?_
  refine goes_seq ?_
  refine goes_region ?_
  refine lst_run (run_assign (by conv => lhs; whnf)) rfl ?_
  refine lst_done ?_
  refine goes_seq ?_
  refine goes_region ?_
  refine lst_run (run_move (by conv => lhs; whnf)) rfl ?_
  refine lst_run (run_move (by conv => lhs; whnf)) rfl ?_
  refine lst_run (run_move (by conv => lhs; whnf)) rfl ?_
  refine lst_run (run_move (by conv => lhs; whnf)) rfl ?_
  refine lst_enter (run_call (by kernel_rfl) (args_4 (by conv => lhs; whnf) (by conv => lhs; whnf) (by conv => lhs; whnf) (by conv => lhs; whnf))) rfl ?_
  refine Calls.mono (allW_any X pA pc Y qA qc vars fuel _ Und.head.tail Und.head hXl hpw hYl hqw hS) ?_
  rintro _ w3 ⟨A1, c1, L1, F1, rfl, hL1, hF1, hK1, hS'⟩
  refine ⟨_, rfl, ?_⟩
  replace hS := hS'
  clear hS'
  generalize hPC : X.map LC.cl = PC at *
  by_cases he : (allM PC Y.ts vars fuel).2 = 0
  case neg =>
    have hnil : L1 = [] := by rw [all_err he] at hL1; simpa using hL1
    subst hnil
    refine lst_run (run_move (by conv => lhs; whnf)) rfl ?_
    refine lst_run (run_extract rfl rfl) rfl ?_
    refine lst_run (run_extract rfl rfl) rfl ?_
    refine lst_run (run_assign (by conv => lhs; whnf)) rfl ?_
    refine lst_run (run_assign (by conv => lhs; whnf)) rfl ?_
    refine lst_done ?_
    refine goes_seq ?_
    refine goes_seq ?_
    refine goes_region ?_
    refine lst_run (run_move (by conv => lhs; whnf)) rfl ?_
    first
      | refine lst_run (run_neq_one_int rfl rfl) rfl ?_
      | refine lst_run (run_neq_no rfl rfl (by first | assumption | omega)) rfl ?_
      | refine lst_run (run_neq_yes rfl rfl (by omega)) rfl ?_
      | refine lst_run (rfl) rfl ?_
    refine lst_run (run_move (by conv => lhs; whnf)) rfl ?_
    refine lst_pass rfl rfl rfl ?_
    refine lst_pass rfl rfl rfl ?_
    first
      | refine lst_run (run_pick_t rfl (by conv => lhs; whnf)) rfl ?_
      | refine lst_run (run_pick_f rfl (by conv => lhs; whnf)) rfl ?_
    refine lst_done ?_
    refine goes_true rfl ?_
    refine goes_seq ?_
    refine goes_region ?_
    refine lst_run (run_move (by conv => lhs; whnf)) rfl ?_
    refine lst_run (run_len_slice rfl rfl rfl) rfl ?_
    first
      | refine lst_run (run_eql_one_int rfl rfl) rfl ?_
      | refine lst_run (run_eql_no rfl rfl (by first | assumption | omega)) rfl ?_
      | refine lst_run (run_eql_yes rfl rfl (by omega)) rfl ?_
      | refine lst_run (rfl) rfl ?_
    refine lst_run (run_move (by conv => lhs; whnf)) rfl ?_
    refine lst_guard rfl rfl ?_
    refine lst_enter (run_call (by kernel_rfl) args_nil) rfl ?_
    refine Calls.mono (solves_any _) ?_
    rintro _ w6 ⟨rfl, hb6⟩
    refine ⟨_, rfl, ?_⟩
    replace hS := hS.grow hb6
    first
      | refine lst_run (run_pick_t rfl (by conv => lhs; whnf)) rfl ?_
      | refine lst_run (run_pick_f rfl (by conv => lhs; whnf)) rfl ?_
    refine lst_run (run_assign (by conv => lhs; whnf)) rfl ?_
    refine lst_done ?_
    refine goes_ret1 Try.func5 rfl (by conv => lhs; whnf) ?_
    exact ⟨rfl, hS.ext.below⟩
  obtain ⟨l, k, hr⟩ := all_events he
  obtain ⟨_, _, hv0, hv1, _⟩ := all_ok he
  obtain ⟨hn1, hlen1⟩ := ev_nodes hr hL1
  have hlen : L1.length = l.length + 1 := by have := congrArg List.length hL1; rw [hr.eq] at this; simpa [evsOf] using this
  have hkd := hr.kind
  have hsix := hr.six
  rw [he]
  refine lst_run (run_move (by conv => lhs; whnf)) rfl ?_
  refine lst_run (run_extract rfl rfl) rfl ?_
  refine lst_run (run_extract rfl rfl) rfl ?_
  refine lst_run (run_assign (by conv => lhs; whnf)) rfl ?_
  refine lst_run (run_assign (by conv => lhs; whnf)) rfl ?_
  refine lst_done ?_
  refine goes_seq ?_
  refine goes_seq ?_
  refine goes_region ?_
  refine lst_run (run_move (by conv => lhs; whnf)) rfl ?_
  first
    | refine lst_run (run_neq_one_int rfl rfl) rfl ?_
    | refine lst_run (run_neq_no rfl rfl (by first | assumption | omega)) rfl ?_
    | refine lst_run (run_neq_yes rfl rfl (by omega)) rfl ?_
    | refine lst_run (rfl) rfl ?_
  refine lst_run (run_move (by conv => lhs; whnf)) rfl ?_
  refine lst_guard rfl rfl ?_
  refine lst_enter (run_call (by kernel_rfl) args_nil) rfl ?_
  refine Calls.mono (solves_any _) ?_
  rintro _ w6 ⟨rfl, hb6⟩
  refine ⟨_, rfl, ?_⟩
  replace hS := hS.grow hb6
  refine lst_guard rfl rfl ?_
  refine lst_run (rfl) rfl ?_
  first
    | refine lst_run (run_pick_t rfl (by conv => lhs; whnf)) rfl ?_
    | refine lst_run (run_pick_f rfl (by conv => lhs; whnf)) rfl ?_
  refine lst_done ?_
  refine goes_false rfl ?_
  refine goes_skip ?_
  refine goes_seq ?_
  refine goes_seq ?_
  refine goes_region ?_
  refine lst_run (run_move (by conv => lhs; whnf)) rfl ?_
  refine lst_run (run_len_slice rfl rfl rfl) rfl ?_
  refine lst_run (run_move (by conv => lhs; whnf)) rfl ?_
  refine lst_done ?_
  refine goes_block ?_
  refine goes_loop1 38 (39 :: 40 :: 41 :: 42 :: 12 :: 11 :: 43 :: 44 :: 45 :: 46 :: 47 :: 48 :: 49 :: 50 :: 51 :: 52 :: 53 :: 54 :: 55 :: 56 :: 57 :: 58 :: 59 :: 60 :: 61 :: 8 :: 13 :: 62 :: 63 :: 64 :: 65 :: 66 :: 67 :: 68 :: 15 :: 69 :: 70 :: 71 :: 72 :: 73 :: 74 :: 75 :: 76 :: 77 :: 78 :: 79 :: 80 :: 81 :: 82 :: 83 :: 84 :: 85 :: 86 :: 87 :: 88 :: 89 :: 90 :: 91 :: []) (fun (R : List KE) v w' => ∃ D, L1 = D ++ R ∧ v = .int .i64 (D.length : Nat) ∧ St [] w [] F1 w') (fun R => R.length) (L1) ?_ (by conv => lhs; whnf) ?_
  · exact ⟨[], rfl, rfl, hS⟩
  clear hS
  rintro R _ w7 jv ⟨D, hD, rfl, hS⟩ ih
  have hlD : L1.length = D.length + R.length := by rw [hD]; simp
  cases R with
  | nil =>
    simp only [List.length_nil] at hlD
    obtain ⟨D1, x, hx⟩ : ∃ D1 x, L1 = D1 ++ [x] := by
      have hne : L1 ≠ [] := by intro h; rw [h] at hlen; simp at hlen
      exact ⟨L1.dropLast, L1.getLast hne, (List.dropLast_concat_getLast hne).symm⟩
    have hd1 : L1.length = D1.length + 1 := by rw [hx]; simp
    have hKw := hS.und hK1
    rw [hx] at hKw
    obtain ⟨b6, o6, rfl⟩ := hKw.some_ (by simp)
    obtain ⟨q0, q1⟩ := hKw.cells
    have hxk : x.k = k := by
      rcases ev_at hr hL1 hx with ⟨_, _, h⟩ | ⟨h, _, _⟩
      · omega
      · exact h
    rw [show o6 + D1.length * 2 = o6 + (((L1.length : Nat) : Int) - 1).toNat * 2 by omega, hxk] at q0
    by_cases h6 : k = 6
    · have h12 := hsix.1.1 h6
      refine goes_seq ?_
      refine goes_region ?_
      first
        | refine lst_run (run_lss_yes rfl rfl (by omega)) rfl ?_
        | refine lst_run (run_lss_no rfl rfl (by omega)) rfl ?_
        | refine lst_run (rfl) rfl ?_
      refine lst_done ?_
      refine goes_seq ?_
      refine goes_false rfl ?_
      refine goes_exit rfl ?_
      refine goes_seq ?_
      refine goes_region ?_
      refine lst_run (run_move (by conv => lhs; whnf)) rfl ?_
      refine lst_run (run_len_slice rfl rfl rfl) rfl ?_
      first
        | refine lst_run (run_geq_yes rfl rfl (by omega)) rfl ?_
        | refine lst_run (run_geq_no rfl rfl (by omega)) rfl ?_
        | refine lst_run (rfl) rfl ?_
      refine lst_run (run_move (by conv => lhs; whnf)) rfl ?_
      refine lst_guard rfl rfl ?_
      refine lst_run (run_move (by conv => lhs; whnf)) rfl ?_
      refine lst_guard rfl rfl ?_
      refine lst_run (run_len_slice rfl rfl rfl) rfl ?_
      refine lst_guard rfl rfl ?_
      first
        | refine lst_run (run_leq_yes rfl rfl (by omega)) rfl ?_
        | refine lst_run (run_leq_no rfl rfl (by omega)) rfl ?_
        | refine lst_run (rfl) rfl ?_
      first
        | refine lst_run (run_pick_t rfl (by conv => lhs; whnf)) rfl ?_
        | refine lst_run (run_pick_f rfl (by conv => lhs; whnf)) rfl ?_
      refine lst_run (run_move (by conv => lhs; whnf)) rfl ?_
      refine lst_guard rfl rfl ?_
      refine lst_run (run_move (by conv => lhs; whnf)) rfl ?_
      refine lst_guard rfl rfl ?_
      refine lst_run (run_move (by conv => lhs; whnf)) rfl ?_
      refine lst_guard rfl rfl ?_
      refine lst_run (run_len_slice rfl rfl rfl) rfl ?_
      refine lst_guard rfl rfl ?_
      first
        | refine lst_run (run_sub rfl rfl (by omega) (by omega)) rfl ?_
        | refine lst_run (run_sub_u8 rfl rfl) rfl ?_
      refine lst_guard rfl rfl ?_
      refine lst_run (run_indexAddr (sz := 2) rfl rfl rfl rfl (by omega) (by omega)) rfl ?_
      refine lst_guard rfl rfl ?_
      refine lst_run (run_fieldAddr (off := 0) rfl rfl) rfl ?_
      refine lst_guard rfl rfl ?_
      first
        | refine lst_run (run_load1_own hS rfl rfl (by first | exact .head | exact .tail .head | exact .tail (.tail .head) | exact .tail (.tail (.tail .head)) | exact .tail (.tail (.tail (.tail .head))) | exact .tail (.tail (.tail (.tail (.tail .head))))) (by repeat constructor)) rfl ?_
        | refine lst_run (run_load1 rfl rfl (by first | assumption | exact hS.cell0 (by assumption) | exact lv_next hS | exact lv_list hS)) rfl ?_
      refine lst_guard rfl rfl ?_
      first
        | refine lst_run (run_eql_one_int rfl rfl) rfl ?_
        | refine lst_run (run_eql_no rfl rfl (by first | assumption | omega)) rfl ?_
        | refine lst_run (run_eql_yes rfl rfl (by omega)) rfl ?_
        | refine lst_run (rfl) rfl ?_
      refine lst_guard rfl rfl ?_
      refine lst_run (run_move (by conv => lhs; whnf)) rfl ?_
      refine lst_guard rfl rfl ?_
      refine lst_run (run_len_slice rfl rfl rfl) rfl ?_
      refine lst_guard rfl rfl ?_
      first
        | refine lst_run (run_eql_one_int rfl rfl) rfl ?_
        | refine lst_run (run_eql_no rfl rfl (by first | assumption | omega)) rfl ?_
        | refine lst_run (run_eql_yes rfl rfl (by omega)) rfl ?_
        | refine lst_run (rfl) rfl ?_
      refine lst_guard rfl rfl ?_
      first
        | refine lst_run (run_eql_one rfl rfl rfl) rfl ?_
        | refine lst_run (run_eql_bool rfl rfl rfl) rfl ?_
      first
        | refine lst_run (run_pick_t rfl (by conv => lhs; whnf)) rfl ?_
        | refine lst_run (run_pick_f rfl (by conv => lhs; whnf)) rfl ?_
      refine lst_run (run_assign (by conv => lhs; whnf)) rfl ?_
      refine lst_done ?_
      refine goes_ret1 Try.func5 rfl (by conv => lhs; whnf) ?_
      exact ⟨rfl, hS.ext.below⟩
    · have h12 : l.length ≠ 12 := fun h => h6 (hsix.1.2 h)
      refine goes_seq ?_
      refine goes_region ?_
      first
        | refine lst_run (run_lss_yes rfl rfl (by omega)) rfl ?_
        | refine lst_run (run_lss_no rfl rfl (by omega)) rfl ?_
        | refine lst_run (rfl) rfl ?_
      refine lst_done ?_
      refine goes_seq ?_
      refine goes_false rfl ?_
      refine goes_exit rfl ?_
      refine goes_seq ?_
      refine goes_region ?_
      refine lst_run (run_move (by conv => lhs; whnf)) rfl ?_
      refine lst_run (run_len_slice rfl rfl rfl) rfl ?_
      first
        | refine lst_run (run_geq_yes rfl rfl (by omega)) rfl ?_
        | refine lst_run (run_geq_no rfl rfl (by omega)) rfl ?_
        | refine lst_run (rfl) rfl ?_
      refine lst_run (run_move (by conv => lhs; whnf)) rfl ?_
      refine lst_guard rfl rfl ?_
      refine lst_run (run_move (by conv => lhs; whnf)) rfl ?_
      refine lst_guard rfl rfl ?_
      refine lst_run (run_len_slice rfl rfl rfl) rfl ?_
      refine lst_guard rfl rfl ?_
      first
        | refine lst_run (run_leq_yes rfl rfl (by omega)) rfl ?_
        | refine lst_run (run_leq_no rfl rfl (by omega)) rfl ?_
        | refine lst_run (rfl) rfl ?_
      first
        | refine lst_run (run_pick_t rfl (by conv => lhs; whnf)) rfl ?_
        | refine lst_run (run_pick_f rfl (by conv => lhs; whnf)) rfl ?_
      refine lst_run (run_move (by conv => lhs; whnf)) rfl ?_
      refine lst_guard rfl rfl ?_
      refine lst_run (run_move (by conv => lhs; whnf)) rfl ?_
      refine lst_guard rfl rfl ?_
      refine lst_run (run_move (by conv => lhs; whnf)) rfl ?_
      refine lst_guard rfl rfl ?_
      refine lst_run (run_len_slice rfl rfl rfl) rfl ?_
      refine lst_guard rfl rfl ?_
      first
        | refine lst_run (run_sub rfl rfl (by omega) (by omega)) rfl ?_
        | refine lst_run (run_sub_u8 rfl rfl) rfl ?_
      refine lst_guard rfl rfl ?_
      refine lst_run (run_indexAddr (sz := 2) rfl rfl rfl rfl (by omega) (by omega)) rfl ?_
      refine lst_guard rfl rfl ?_
      refine lst_run (run_fieldAddr (off := 0) rfl rfl) rfl ?_
      refine lst_guard rfl rfl ?_
      first
        | refine lst_run (run_load1_own hS rfl rfl (by first | exact .head | exact .tail .head | exact .tail (.tail .head) | exact .tail (.tail (.tail .head)) | exact .tail (.tail (.tail (.tail .head))) | exact .tail (.tail (.tail (.tail (.tail .head))))) (by repeat constructor)) rfl ?_
        | refine lst_run (run_load1 rfl rfl (by first | assumption | exact hS.cell0 (by assumption) | exact lv_next hS | exact lv_list hS)) rfl ?_
      refine lst_guard rfl rfl ?_
      first
        | refine lst_run (run_eql_one_int rfl rfl) rfl ?_
        | refine lst_run (run_eql_no rfl rfl (by first | assumption | omega)) rfl ?_
        | refine lst_run (run_eql_yes rfl rfl (by omega)) rfl ?_
        | refine lst_run (rfl) rfl ?_
      refine lst_guard rfl rfl ?_
      refine lst_run (run_move (by conv => lhs; whnf)) rfl ?_
      refine lst_guard rfl rfl ?_
      refine lst_run (run_len_slice rfl rfl rfl) rfl ?_
      refine lst_guard rfl rfl ?_
      first
        | refine lst_run (run_eql_one_int rfl rfl) rfl ?_
        | refine lst_run (run_eql_no rfl rfl (by first | assumption | omega)) rfl ?_
        | refine lst_run (run_eql_yes rfl rfl (by omega)) rfl ?_
        | refine lst_run (rfl) rfl ?_
      refine lst_guard rfl rfl ?_
      first
        | refine lst_run (run_eql_one rfl rfl rfl) rfl ?_
        | refine lst_run (run_eql_bool rfl rfl rfl) rfl ?_
      first
        | refine lst_run (run_pick_t rfl (by conv => lhs; whnf)) rfl ?_
        | refine lst_run (run_pick_f rfl (by conv => lhs; whnf)) rfl ?_
      refine lst_run (run_assign (by conv => lhs; whnf)) rfl ?_
      refine lst_done ?_
      refine goes_ret1 Try.func5 rfl (by conv => lhs; whnf) ?_
      exact ⟨rfl, hS.ext.below⟩
  | cons x R =>
    simp only [List.length_cons] at hlD
    have hKw := hS.und hK1
    rw [hD] at hKw
    obtain ⟨b6, o6, rfl⟩ := hKw.some_ (by simp; omega)
    obtain ⟨q0, q1⟩ := hKw.cells
    have hAr : Und F1 (ArA x.A x.c x.T) := hK1.imp fun w h => h.2.2 x (by rw [hD]; simp)
    have hat := ev_at hr hL1 hD
    have hxn : x.T.ts.nodes ≤ 200 := hn1 x (by rw [hD]; simp)
    have hxl := x.T.ts.length_le
    rw [TA.len_ts] at hxl
    have hxg : x.T.ts.good 200 = true := by
      rcases hat with ⟨_, h, _⟩ | ⟨_, h, _⟩
      · exact h.2.2
      · rw [h]; rfl
    obtain ⟨xk, xA, xc, xT⟩ := x
    dsimp only at *
    rcases hat with ⟨hk1, hans, hlt⟩ | ⟨hk1, hT0, heq⟩
    · subst hk1
      have hvl : (xT.len : Int) = vars := by have h1 := hans.1; rw [TA.len_ts] at h1; omega
      refine goes_seq ?_
      refine goes_region ?_
      first
        | refine lst_run (run_lss_yes rfl rfl (by omega)) rfl ?_
        | refine lst_run (run_lss_no rfl rfl (by omega)) rfl ?_
        | refine lst_run (rfl) rfl ?_
      refine lst_done ?_
      refine goes_seq ?_
      refine goes_true rfl ?_
      refine goes_skip ?_
      refine goes_seq ?_
      refine goes_block ?_
      refine goes_seq ?_
      refine goes_region ?_
      refine lst_run (run_move (by conv => lhs; whnf)) rfl ?_
      refine lst_run (run_indexAddr (sz := 2) rfl rfl rfl rfl (by omega) (by omega)) rfl ?_
      first
        | refine lst_run (run_loadN_own (k := 2) hS rfl rfl rfl (by first | exact .head | exact .tail .head | exact .tail (.tail .head) | exact .tail (.tail (.tail .head)) | exact .tail (.tail (.tail (.tail .head))) | exact .tail (.tail (.tail (.tail (.tail .head))))) (by repeat constructor)) rfl ?_
        | refine lst_run (run_load2 rfl rfl rfl (by first | assumption | exact hS.cell0 (by assumption)) (by first | assumption | exact hS.cell0 (by assumption))) rfl ?_
      refine lst_alloc (cs := [_, _]) hS rfl rfl rfl ?_
      clear hS
      intro b1 wx1 hS
      refine lst_run (run_assign (by conv => lhs; whnf)) rfl ?_
      refine lst_storeN hS rfl (by conv => lhs; whnf) rfl rfl (by first | exact .head | exact .tail .head | exact .tail (.tail .head) | exact .tail (.tail (.tail .head)) | exact .tail (.tail (.tail (.tail .head))) | exact .tail (.tail (.tail (.tail (.tail .head))))) (by repeat constructor) (by first | exact .head | exact .tail .head | exact .tail (.tail .head) | exact .tail (.tail (.tail .head)) | exact .tail (.tail (.tail (.tail .head))) | exact .tail (.tail (.tail (.tail (.tail .head))))) ?_
      clear hS
      intro wx2 hS
      refine lst_done ?_
      refine goes_seq ?_
      refine goes_seq ?_
      refine goes_region ?_
      refine lst_run (run_fieldAddr (off := 0) rfl rfl) rfl ?_
      first
        | refine lst_run (run_load1_own hS rfl rfl (by first | exact .head | exact .tail .head | exact .tail (.tail .head) | exact .tail (.tail (.tail .head)) | exact .tail (.tail (.tail (.tail .head))) | exact .tail (.tail (.tail (.tail (.tail .head))))) (by repeat constructor)) rfl ?_
        | refine lst_run (run_load1 rfl rfl (by first | assumption | exact hS.cell0 (by assumption) | exact lv_next hS | exact lv_list hS)) rfl ?_
      first
        | refine lst_run (run_eql_one_int rfl rfl) rfl ?_
        | refine lst_run (run_eql_no rfl rfl (by first | assumption | omega)) rfl ?_
        | refine lst_run (run_eql_yes rfl rfl (by omega)) rfl ?_
        | refine lst_run (rfl) rfl ?_
      refine lst_run (run_move (by conv => lhs; whnf)) rfl ?_
      refine lst_run (run_move (by conv => lhs; whnf)) rfl ?_
      refine lst_run (run_len_slice rfl rfl rfl) rfl ?_
      first
        | refine lst_run (run_sub rfl rfl (by omega) (by omega)) rfl ?_
        | refine lst_run (run_sub_u8 rfl rfl) rfl ?_
      first
        | refine lst_run (run_lss_yes rfl rfl (by omega)) rfl ?_
        | refine lst_run (run_lss_no rfl rfl (by omega)) rfl ?_
        | refine lst_run (rfl) rfl ?_
      first
        | refine lst_run (run_neq_one rfl rfl rfl) rfl ?_
        | refine lst_run (run_neq_bool rfl rfl rfl) rfl ?_
      refine lst_run (run_move (by conv => lhs; whnf)) rfl ?_
      refine lst_guard rfl rfl ?_
      refine lst_run (run_fieldAddr (off := 0) rfl rfl) rfl ?_
      refine lst_guard rfl rfl ?_
      first
        | refine lst_run (run_load1_own hS rfl rfl (by first | exact .head | exact .tail .head | exact .tail (.tail .head) | exact .tail (.tail (.tail .head)) | exact .tail (.tail (.tail (.tail .head))) | exact .tail (.tail (.tail (.tail (.tail .head))))) (by repeat constructor)) rfl ?_
        | refine lst_run (run_load1 rfl rfl (by first | assumption | exact hS.cell0 (by assumption) | exact lv_next hS | exact lv_list hS)) rfl ?_
      refine lst_guard rfl rfl ?_
      first
        | refine lst_run (run_lss_yes rfl rfl (by omega)) rfl ?_
        | refine lst_run (run_lss_no rfl rfl (by omega)) rfl ?_
        | refine lst_run (rfl) rfl ?_
      first
        | refine lst_run (run_pick_t rfl (by conv => lhs; whnf)) rfl ?_
        | refine lst_run (run_pick_f rfl (by conv => lhs; whnf)) rfl ?_
      refine lst_run (run_move (by conv => lhs; whnf)) rfl ?_
      refine lst_guard rfl rfl ?_
      refine lst_run (run_fieldAddr (off := 0) rfl rfl) rfl ?_
      refine lst_guard rfl rfl ?_
      first
        | refine lst_run (run_load1_own hS rfl rfl (by first | exact .head | exact .tail .head | exact .tail (.tail .head) | exact .tail (.tail (.tail .head)) | exact .tail (.tail (.tail (.tail .head))) | exact .tail (.tail (.tail (.tail (.tail .head))))) (by repeat constructor)) rfl ?_
        | refine lst_run (run_load1 rfl rfl (by first | assumption | exact hS.cell0 (by assumption) | exact lv_next hS | exact lv_list hS)) rfl ?_
      refine lst_guard rfl rfl ?_
      first
        | refine lst_run (run_gtr_yes rfl rfl (by omega)) rfl ?_
        | refine lst_run (run_gtr_no rfl rfl (by omega)) rfl ?_
        | refine lst_run (rfl) rfl ?_
      first
        | refine lst_run (run_pick_t rfl (by conv => lhs; whnf)) rfl ?_
        | refine lst_run (run_pick_f rfl (by conv => lhs; whnf)) rfl ?_
      refine lst_done ?_
      refine goes_false rfl ?_
      refine goes_skip ?_
      refine goes_seq ?_
      refine goes_region ?_
      refine lst_run (run_assign (by conv => lhs; whnf)) rfl ?_
      refine lst_done ?_
      refine goes_seq ?_
      refine goes_seq ?_
      refine goes_region ?_
      refine lst_run (run_fieldAddr (off := 1) rfl rfl) rfl ?_
      first
        | refine lst_run (run_load1_own hS rfl rfl (by first | exact .head | exact .tail .head | exact .tail (.tail .head) | exact .tail (.tail (.tail .head)) | exact .tail (.tail (.tail (.tail .head))) | exact .tail (.tail (.tail (.tail (.tail .head))))) (by repeat constructor)) rfl ?_
        | refine lst_run (run_load1 rfl rfl (by first | assumption | exact hS.cell0 (by assumption) | exact lv_next hS | exact lv_list hS)) rfl ?_
      refine lst_run (run_len_slice rfl rfl rfl) rfl ?_
      refine lst_run (run_move (by conv => lhs; whnf)) rfl ?_
      refine lst_done ?_
      refine goes_block ?_
      refine goes_loop2 65 13 (66 :: 67 :: 68 :: 15 :: 69 :: 70 :: 71 :: 72 :: 73 :: 74 :: 75 :: 8 :: 76 :: []) (fun (R2 : TA) v u w' => ∃ (D2 : TA), xT = D2.app R2 ∧ v = .int .i64 (D2.len : Nat) ∧ u = .int .i64 (D2.ts.nodes : Nat) ∧ St [] w [(b1, .cells [.int .i64 1, .slice xA xT.len xc].toArray 41)] F1 w') (fun R2 => R2.len) (xT) ?_ (by conv => lhs; whnf) (by conv => lhs; whnf) ?_
      · exact ⟨.nil, rfl, rfl, rfl, hS⟩
      clear hS
      rintro R2 _ _ w8 jv2 ⟨D2, hD2, rfl, rfl, hS⟩ ih2
      have hl2 : xT.len = D2.len + R2.len := by rw [hD2, TA.len_app]
      cases R2 with
      | nil =>
        rw [TA.app_nil] at hD2
        subst hD2
        simp only [TA.len] at hl2
        refine goes_seq ?_
        refine goes_region ?_
        first
          | refine lst_run (run_lss_yes rfl rfl (by omega)) rfl ?_
          | refine lst_run (run_lss_no rfl rfl (by omega)) rfl ?_
          | refine lst_run (rfl) rfl ?_
        refine lst_done ?_
        refine goes_seq ?_
        refine goes_false rfl ?_
        refine goes_exit rfl ?_
        refine goes_seq ?_
        refine goes_region ?_
        refine lst_run (run_fieldAddr (off := 0) rfl rfl) rfl ?_
        first
          | refine lst_run (run_load1_own hS rfl rfl (by first | exact .head | exact .tail .head | exact .tail (.tail .head) | exact .tail (.tail (.tail .head)) | exact .tail (.tail (.tail (.tail .head))) | exact .tail (.tail (.tail (.tail (.tail .head))))) (by repeat constructor)) rfl ?_
          | refine lst_run (run_load1 rfl rfl (by first | assumption | exact hS.cell0 (by assumption) | exact lv_next hS | exact lv_list hS)) rfl ?_
        first
          | refine lst_run (run_eql_one_int rfl rfl) rfl ?_
          | refine lst_run (run_eql_no rfl rfl (by first | assumption | omega)) rfl ?_
          | refine lst_run (run_eql_yes rfl rfl (by omega)) rfl ?_
          | refine lst_run (rfl) rfl ?_
        refine lst_run (run_move (by conv => lhs; whnf)) rfl ?_
        refine lst_guard rfl rfl ?_
        refine lst_run (run_fieldAddr (off := 1) rfl rfl) rfl ?_
        refine lst_guard rfl rfl ?_
        first
          | refine lst_run (run_load1_own hS rfl rfl (by first | exact .head | exact .tail .head | exact .tail (.tail .head) | exact .tail (.tail (.tail .head)) | exact .tail (.tail (.tail (.tail .head))) | exact .tail (.tail (.tail (.tail (.tail .head))))) (by repeat constructor)) rfl ?_
          | refine lst_run (run_load1 rfl rfl (by first | assumption | exact hS.cell0 (by assumption) | exact lv_next hS | exact lv_list hS)) rfl ?_
        refine lst_guard rfl rfl ?_
        refine lst_run (run_len_slice rfl rfl rfl) rfl ?_
        refine lst_guard rfl rfl ?_
        refine lst_run (run_move (by conv => lhs; whnf)) rfl ?_
        refine lst_guard rfl rfl ?_
        first
          | refine lst_run (run_neq_one_int rfl rfl) rfl ?_
          | refine lst_run (run_neq_no rfl rfl (by first | assumption | omega)) rfl ?_
          | refine lst_run (run_neq_yes rfl rfl (by omega)) rfl ?_
          | refine lst_run (rfl) rfl ?_
        first
          | refine lst_run (run_pick_t rfl (by conv => lhs; whnf)) rfl ?_
          | refine lst_run (run_pick_f rfl (by conv => lhs; whnf)) rfl ?_
        refine lst_run (run_move (by conv => lhs; whnf)) rfl ?_
        refine lst_guard rfl rfl ?_
        refine lst_run (run_move (by conv => lhs; whnf)) rfl ?_
        refine lst_guard rfl rfl ?_
        first
          | refine lst_run (run_gtr_yes rfl rfl (by omega)) rfl ?_
          | refine lst_run (run_gtr_no rfl rfl (by omega)) rfl ?_
          | refine lst_run (rfl) rfl ?_
        first
          | refine lst_run (run_pick_t rfl (by conv => lhs; whnf)) rfl ?_
          | refine lst_run (run_pick_f rfl (by conv => lhs; whnf)) rfl ?_
        refine lst_done ?_
        refine goes_false rfl ?_
        refine goes_skip ?_
        refine goes_inBlock ?_
        refine goes_region ?_
        refine lst_run (run_add rfl rfl (by omega) (by omega)) rfl ?_
        refine lst_run (run_move (by conv => lhs; whnf)) rfl ?_
        refine lst_done ?_
        refine ih (R) _ _ _ ?_ ?_ (by conv => lhs; whnf) (by kernel_rfl)
        · simp
        · exact ⟨D ++ [⟨1, xA, xc, xT⟩], by rw [hD]; simp, by simp, hS.drop⟩
      | cons k2 n2 s2 A2 c2 a2 r2 =>
        simp only [TA.len] at hl2
        have hAr' := hAr
        rw [hD2] at hAr'
        obtain ⟨b7, o7, rfl⟩ := (hS.und hAr').some_ (by rw [TA.len_app]; simp only [TA.len]; omega)
        obtain ⟨r0, r1, r2', r3⟩ := (hS.und hAr').cells
        have hsub : Und F1 (LRd ⟨k2, n2, s2, A2, c2, a2⟩) := hAr'.imp fun w h => h.sub
        have hnod : D2.ts.nodes + (a2.ts.nodes + 1) ≤ 200 := by have h1 := hxn; rw [hD2, TA.app_ts, Ts.nodes_app] at h1; simp only [TA.ts, Ts.nodes] at h1; omega
        have hgd : (Ts.cons k2 n2 s2 a2.ts .nil).good 200 = true := by have h1 := hxg; rw [hD2, TA.app_ts] at h1; exact good_sub h1
        have hgood : ∀ w', St [] w [(b1, .cells [.int .i64 1, .slice (some ⟨b7, o7, none⟩) xT.len xc].toArray 41)] F1 w' → Calls Try.prog 19 #[.agg #[.int .i64 k2, .int .i64 n2, .string s2, .slice A2 a2.len c2], .int .i64 200] w' fun e w'' => e = .returned (.bool true) ∧ Below w'.heap.size w' w'' := fun w' hS => by
          have := good_any k2 n2 200 s2 a2.ts _ w' (hS.und hsub).sl (by omega)
          rw [hgd] at this
          exact this
        refine goes_seq ?_
        refine goes_region ?_
        first
          | refine lst_run (run_lss_yes rfl rfl (by omega)) rfl ?_
          | refine lst_run (run_lss_no rfl rfl (by omega)) rfl ?_
          | refine lst_run (rfl) rfl ?_
        refine lst_done ?_
        refine goes_seq ?_
        refine goes_true rfl ?_
        refine goes_skip ?_
        refine goes_seq ?_
        refine goes_block ?_
        refine goes_seq ?_
        refine goes_region ?_
        refine lst_run (run_indexAddr (sz := 4) rfl rfl rfl rfl (by omega) (by omega)) rfl ?_
        first
          | refine lst_run (run_loadN_own (k := 4) hS rfl rfl rfl (by first | exact .head | exact .tail .head | exact .tail (.tail .head) | exact .tail (.tail (.tail .head)) | exact .tail (.tail (.tail (.tail .head))) | exact .tail (.tail (.tail (.tail (.tail .head))))) (by repeat constructor)) rfl ?_
          | refine lst_run (run_load4 rfl rfl rfl (by first | assumption | exact hS.cell0 (by assumption)) (by first | assumption | exact hS.cell0 (by assumption)) (by first | assumption | exact hS.cell0 (by assumption)) (by first | assumption | exact hS.cell0 (by assumption))) rfl ?_
        refine lst_alloc (cs := [_, _, _, _]) hS rfl rfl rfl ?_
        clear hS
        intro b2 wx3 hS
        refine lst_storeN hS rfl (by conv => lhs; whnf) rfl rfl (by first | exact .head | exact .tail .head | exact .tail (.tail .head) | exact .tail (.tail (.tail .head)) | exact .tail (.tail (.tail (.tail .head))) | exact .tail (.tail (.tail (.tail (.tail .head))))) (by repeat constructor) (by first | exact .head | exact .tail .head | exact .tail (.tail .head) | exact .tail (.tail (.tail .head)) | exact .tail (.tail (.tail (.tail .head))) | exact .tail (.tail (.tail (.tail (.tail .head))))) ?_
        clear hS
        intro wx4 hS
        refine lst_done ?_
        refine goes_seq ?_
        refine goes_region ?_
        refine lst_run (run_move (by conv => lhs; whnf)) rfl ?_
        first
          | refine lst_run (run_loadN_own (k := 4) hS rfl rfl rfl (by first | exact .head | exact .tail .head | exact .tail (.tail .head) | exact .tail (.tail (.tail .head)) | exact .tail (.tail (.tail (.tail .head))) | exact .tail (.tail (.tail (.tail (.tail .head))))) (by repeat constructor)) rfl ?_
          | refine lst_run (run_load4 rfl rfl rfl (by first | assumption | exact hS.cell0 (by assumption)) (by first | assumption | exact hS.cell0 (by assumption)) (by first | assumption | exact hS.cell0 (by assumption)) (by first | assumption | exact hS.cell0 (by assumption))) rfl ?_
        refine lst_enter (run_call (by kernel_rfl) (args_1 (by conv => lhs; whnf))) rfl ?_
        refine Calls.mono (nodes_any k2 n2 s2 a2.ts _ _ (hS.und hsub).sl (by omega)) ?_
        rintro _ w9 ⟨rfl, hb9⟩
        refine ⟨_, rfl, ?_⟩
        replace hS := hS.grow hb9
        refine lst_run (run_add rfl rfl (by omega) (by omega)) rfl ?_
        refine lst_run (run_assign (by conv => lhs; whnf)) rfl ?_
        refine lst_done ?_
        refine goes_seq ?_
        refine goes_region ?_
        first
          | refine lst_run (run_loadN_own (k := 4) hS rfl rfl rfl (by first | exact .head | exact .tail .head | exact .tail (.tail .head) | exact .tail (.tail (.tail .head)) | exact .tail (.tail (.tail (.tail .head))) | exact .tail (.tail (.tail (.tail (.tail .head))))) (by repeat constructor)) rfl ?_
          | refine lst_run (run_load4 rfl rfl rfl (by first | assumption | exact hS.cell0 (by assumption)) (by first | assumption | exact hS.cell0 (by assumption)) (by first | assumption | exact hS.cell0 (by assumption)) (by first | assumption | exact hS.cell0 (by assumption))) rfl ?_
        refine lst_enter (run_call (by kernel_rfl) (args_2 (by conv => lhs; whnf) (by conv => lhs; whnf))) rfl ?_
        refine Calls.mono (hgood _ hS.drop) ?_
        rintro _ w10 ⟨rfl, hb10⟩
        refine ⟨_, rfl, ?_⟩
        replace hS := hS.grow hb10
        refine lst_run (rfl) rfl ?_
        refine lst_done ?_
        refine goes_false rfl ?_
        refine goes_skip ?_
        refine goes_inBlock ?_
        refine goes_region ?_
        refine lst_run (run_add rfl rfl (by omega) (by omega)) rfl ?_
        refine lst_run (run_move (by conv => lhs; whnf)) rfl ?_
        refine lst_done ?_
        refine ih2 r2 _ _ _ _ ?_ ?_ (by conv => lhs; whnf) (by conv => lhs; whnf) (by kernel_rfl)
        · simp [TA.len]
        · refine ⟨D2.app (.cons k2 n2 s2 A2 c2 a2 .nil), by rw [hD2, TA.app_assoc]; rfl, by rw [TA.len_app]; rfl, ?_, hS.drop⟩
          rw [TA.app_ts, Ts.nodes_app]
          simp only [TA.ts, Ts.nodes]
          congr 1
    · subst hk1
      subst hT0
      have hk2 : ¬ xk = 1 := by omega
      refine goes_seq ?_
      refine goes_region ?_
      first
        | refine lst_run (run_lss_yes rfl rfl (by omega)) rfl ?_
        | refine lst_run (run_lss_no rfl rfl (by omega)) rfl ?_
        | refine lst_run (rfl) rfl ?_
      refine lst_done ?_
      refine goes_seq ?_
      refine goes_true rfl ?_
      refine goes_skip ?_
      refine goes_seq ?_
      refine goes_block ?_
      refine goes_seq ?_
      refine goes_region ?_
      refine lst_run (run_move (by conv => lhs; whnf)) rfl ?_
      refine lst_run (run_indexAddr (sz := 2) rfl rfl rfl rfl (by omega) (by omega)) rfl ?_
      first
        | refine lst_run (run_loadN_own (k := 2) hS rfl rfl rfl (by first | exact .head | exact .tail .head | exact .tail (.tail .head) | exact .tail (.tail (.tail .head)) | exact .tail (.tail (.tail (.tail .head))) | exact .tail (.tail (.tail (.tail (.tail .head))))) (by repeat constructor)) rfl ?_
        | refine lst_run (run_load2 rfl rfl rfl (by first | assumption | exact hS.cell0 (by assumption)) (by first | assumption | exact hS.cell0 (by assumption))) rfl ?_
      refine lst_alloc (cs := [_, _]) hS rfl rfl rfl ?_
      clear hS
      intro b1 wx1 hS
      refine lst_run (run_assign (by conv => lhs; whnf)) rfl ?_
      refine lst_storeN hS rfl (by conv => lhs; whnf) rfl rfl (by first | exact .head | exact .tail .head | exact .tail (.tail .head) | exact .tail (.tail (.tail .head)) | exact .tail (.tail (.tail (.tail .head))) | exact .tail (.tail (.tail (.tail (.tail .head))))) (by repeat constructor) (by first | exact .head | exact .tail .head | exact .tail (.tail .head) | exact .tail (.tail (.tail .head)) | exact .tail (.tail (.tail (.tail .head))) | exact .tail (.tail (.tail (.tail (.tail .head))))) ?_
      clear hS
      intro wx2 hS
      refine lst_done ?_
      refine goes_seq ?_
      refine goes_seq ?_
      refine goes_region ?_
      refine lst_run (run_fieldAddr (off := 0) rfl rfl) rfl ?_
      first
        | refine lst_run (run_load1_own hS rfl rfl (by first | exact .head | exact .tail .head | exact .tail (.tail .head) | exact .tail (.tail (.tail .head)) | exact .tail (.tail (.tail (.tail .head))) | exact .tail (.tail (.tail (.tail (.tail .head))))) (by repeat constructor)) rfl ?_
        | refine lst_run (run_load1 rfl rfl (by first | assumption | exact hS.cell0 (by assumption) | exact lv_next hS | exact lv_list hS)) rfl ?_
      first
        | refine lst_run (run_eql_one_int rfl rfl) rfl ?_
        | refine lst_run (run_eql_no rfl rfl (by first | assumption | omega)) rfl ?_
        | refine lst_run (run_eql_yes rfl rfl (by omega)) rfl ?_
        | refine lst_run (rfl) rfl ?_
      refine lst_run (run_move (by conv => lhs; whnf)) rfl ?_
      refine lst_run (run_move (by conv => lhs; whnf)) rfl ?_
      refine lst_run (run_len_slice rfl rfl rfl) rfl ?_
      first
        | refine lst_run (run_sub rfl rfl (by omega) (by omega)) rfl ?_
        | refine lst_run (run_sub_u8 rfl rfl) rfl ?_
      first
        | refine lst_run (run_lss_yes rfl rfl (by omega)) rfl ?_
        | refine lst_run (run_lss_no rfl rfl (by omega)) rfl ?_
        | refine lst_run (rfl) rfl ?_
      first
        | refine lst_run (run_neq_one rfl rfl rfl) rfl ?_
        | refine lst_run (run_neq_bool rfl rfl rfl) rfl ?_
      refine lst_run (run_move (by conv => lhs; whnf)) rfl ?_
      refine lst_guard rfl rfl ?_
      refine lst_run (run_fieldAddr (off := 0) rfl rfl) rfl ?_
      refine lst_guard rfl rfl ?_
      first
        | refine lst_run (run_load1_own hS rfl rfl (by first | exact .head | exact .tail .head | exact .tail (.tail .head) | exact .tail (.tail (.tail .head)) | exact .tail (.tail (.tail (.tail .head))) | exact .tail (.tail (.tail (.tail (.tail .head))))) (by repeat constructor)) rfl ?_
        | refine lst_run (run_load1 rfl rfl (by first | assumption | exact hS.cell0 (by assumption) | exact lv_next hS | exact lv_list hS)) rfl ?_
      refine lst_guard rfl rfl ?_
      first
        | refine lst_run (run_lss_yes rfl rfl (by omega)) rfl ?_
        | refine lst_run (run_lss_no rfl rfl (by omega)) rfl ?_
        | refine lst_run (rfl) rfl ?_
      first
        | refine lst_run (run_pick_t rfl (by conv => lhs; whnf)) rfl ?_
        | refine lst_run (run_pick_f rfl (by conv => lhs; whnf)) rfl ?_
      refine lst_run (run_move (by conv => lhs; whnf)) rfl ?_
      refine lst_guard rfl rfl ?_
      refine lst_run (run_fieldAddr (off := 0) rfl rfl) rfl ?_
      refine lst_guard rfl rfl ?_
      first
        | refine lst_run (run_load1_own hS rfl rfl (by first | exact .head | exact .tail .head | exact .tail (.tail .head) | exact .tail (.tail (.tail .head)) | exact .tail (.tail (.tail (.tail .head))) | exact .tail (.tail (.tail (.tail (.tail .head))))) (by repeat constructor)) rfl ?_
        | refine lst_run (run_load1 rfl rfl (by first | assumption | exact hS.cell0 (by assumption) | exact lv_next hS | exact lv_list hS)) rfl ?_
      refine lst_guard rfl rfl ?_
      first
        | refine lst_run (run_gtr_yes rfl rfl (by omega)) rfl ?_
        | refine lst_run (run_gtr_no rfl rfl (by omega)) rfl ?_
        | refine lst_run (rfl) rfl ?_
      first
        | refine lst_run (run_pick_t rfl (by conv => lhs; whnf)) rfl ?_
        | refine lst_run (run_pick_f rfl (by conv => lhs; whnf)) rfl ?_
      refine lst_done ?_
      refine goes_false rfl ?_
      refine goes_skip ?_
      refine goes_seq ?_
      refine goes_region ?_
      refine lst_run (run_assign (by conv => lhs; whnf)) rfl ?_
      refine lst_done ?_
      refine goes_seq ?_
      refine goes_seq ?_
      refine goes_region ?_
      refine lst_run (run_fieldAddr (off := 1) rfl rfl) rfl ?_
      first
        | refine lst_run (run_load1_own hS rfl rfl (by first | exact .head | exact .tail .head | exact .tail (.tail .head) | exact .tail (.tail (.tail .head)) | exact .tail (.tail (.tail (.tail .head))) | exact .tail (.tail (.tail (.tail (.tail .head))))) (by repeat constructor)) rfl ?_
        | refine lst_run (run_load1 rfl rfl (by first | assumption | exact hS.cell0 (by assumption) | exact lv_next hS | exact lv_list hS)) rfl ?_
      refine lst_run (run_len_slice rfl rfl rfl) rfl ?_
      refine lst_run (run_move (by conv => lhs; whnf)) rfl ?_
      refine lst_done ?_
      refine goes_block ?_
      refine goes_loop2 65 13 (66 :: 67 :: 68 :: 15 :: 69 :: 70 :: 71 :: 72 :: 73 :: 74 :: 75 :: 8 :: 76 :: []) (fun (R2 : TA) v u w' => ∃ (D2 : TA), TA.nil = D2.app R2 ∧ v = .int .i64 (D2.len : Nat) ∧ u = .int .i64 (D2.ts.nodes : Nat) ∧ St [] w [(b1, .cells [.int .i64 xk, .slice xA TA.nil.len xc].toArray 41)] F1 w') (fun R2 => R2.len) (TA.nil) ?_ (by conv => lhs; whnf) (by conv => lhs; whnf) ?_
      · exact ⟨.nil, rfl, rfl, rfl, hS⟩
      clear hS
      rintro R2 _ _ w8 jv2 ⟨D2, hD2, rfl, rfl, hS⟩ ih2
      have hl2 : TA.nil.len = D2.len + R2.len := by rw [hD2, TA.len_app]
      cases R2 with
      | nil =>
        rw [TA.app_nil] at hD2
        subst hD2
        simp only [TA.len] at hl2
        refine goes_seq ?_
        refine goes_region ?_
        first
          | refine lst_run (run_lss_yes rfl rfl (by omega)) rfl ?_
          | refine lst_run (run_lss_no rfl rfl (by omega)) rfl ?_
          | refine lst_run (rfl) rfl ?_
        refine lst_done ?_
        refine goes_seq ?_
        refine goes_false rfl ?_
        refine goes_exit rfl ?_
        refine goes_seq ?_
        refine goes_region ?_
        refine lst_run (run_fieldAddr (off := 0) rfl rfl) rfl ?_
        first
          | refine lst_run (run_load1_own hS rfl rfl (by first | exact .head | exact .tail .head | exact .tail (.tail .head) | exact .tail (.tail (.tail .head)) | exact .tail (.tail (.tail (.tail .head))) | exact .tail (.tail (.tail (.tail (.tail .head))))) (by repeat constructor)) rfl ?_
          | refine lst_run (run_load1 rfl rfl (by first | assumption | exact hS.cell0 (by assumption) | exact lv_next hS | exact lv_list hS)) rfl ?_
        first
          | refine lst_run (run_eql_one_int rfl rfl) rfl ?_
          | refine lst_run (run_eql_no rfl rfl (by first | assumption | omega)) rfl ?_
          | refine lst_run (run_eql_yes rfl rfl (by omega)) rfl ?_
          | refine lst_run (rfl) rfl ?_
        refine lst_run (run_move (by conv => lhs; whnf)) rfl ?_
        refine lst_pass rfl rfl rfl ?_
        refine lst_pass rfl rfl rfl ?_
        refine lst_pass rfl rfl rfl ?_
        refine lst_pass rfl rfl rfl ?_
        refine lst_pass rfl rfl rfl ?_
        first
          | refine lst_run (run_pick_t rfl (by conv => lhs; whnf)) rfl ?_
          | refine lst_run (run_pick_f rfl (by conv => lhs; whnf)) rfl ?_
        refine lst_run (run_move (by conv => lhs; whnf)) rfl ?_
        refine lst_guard rfl rfl ?_
        refine lst_run (run_move (by conv => lhs; whnf)) rfl ?_
        refine lst_guard rfl rfl ?_
        first
          | refine lst_run (run_gtr_yes rfl rfl (by omega)) rfl ?_
          | refine lst_run (run_gtr_no rfl rfl (by omega)) rfl ?_
          | refine lst_run (rfl) rfl ?_
        first
          | refine lst_run (run_pick_t rfl (by conv => lhs; whnf)) rfl ?_
          | refine lst_run (run_pick_f rfl (by conv => lhs; whnf)) rfl ?_
        refine lst_done ?_
        refine goes_false rfl ?_
        refine goes_skip ?_
        refine goes_inBlock ?_
        refine goes_region ?_
        refine lst_run (run_add rfl rfl (by omega) (by omega)) rfl ?_
        refine lst_run (run_move (by conv => lhs; whnf)) rfl ?_
        refine lst_done ?_
        refine ih (R) _ _ _ ?_ ?_ (by conv => lhs; whnf) (by kernel_rfl)
        · simp
        · exact ⟨D ++ [⟨xk, xA, xc, .nil⟩], by rw [hD]; simp, by simp, hS.drop⟩
      | cons k2 n2 s2 A2 c2 a2 r2 =>
        simp only [TA.len] at hl2
        omega
end Go.Proofs.Ytdiophafmokfiaa
namespace Go.Proofs.Ytdiophafmokfiaa
open Go.RowKit Go.ChangeShapes Go.WideShapes Go.ChangeAt
set_option maxRecDepth 100000

theorem Try.laidOut : laidOutB Try.prog = true := by kernel_rfl
theorem Try.own : ownKnob Try.prog.godebug = none := by kernel_rfl
theorem cells_term : Try.prog.cellsOf 24 = 4 := by kernel_rfl
theorem cells_int : Try.prog.cellsOf 3 = 1 := by kernel_rfl
theorem cells_string : Try.prog.cellsOf 9 = 1 := by kernel_rfl
theorem cells_terms : Try.prog.cellsOf 22 = 1 := by kernel_rfl

section
variable {H : Type} {enc : TypeId × Value → H} {w : World} {base : Nat} {spare : Nat → Bool} {held : Bool}

theorem bulk_pos (d : DataW H) : 1 ≤ Rows.uptoBulk d := by
  cases d with
  | lit l => cases l <;> simp [Rows.uptoBulk]
  | nil => simp [Rows.uptoBulk]
  | ptr d => simp [Rows.uptoBulk]
  | slice elems spare => simp [Rows.uptoBulk]
  | agg parts => simp [Rows.uptoBulk]
  | iface t d => simp [Rows.uptoBulk]
  | map entries => simp [Rows.uptoBulk]
  | held h => simp [Rows.uptoBulk]
theorem bulk_mem {l : List (DataW H)} : ∀ {i : Nat} {d : DataW H}, l[i]? = some d → Rows.uptoBulk d ≤ Rows.uptoBulkAll l := by
  induction l with
  | nil => intro i d h; simp at h
  | cons x r ih =>
    intro i d h
    cases i with
    | zero => simp at h; subst h; simp [Rows.uptoBulkAll]
    | succ i =>
      have := ih (i := i) (d := d) (by simpa using h)
      simp only [Rows.uptoBulkAll]; omega

/-- The cells of one term, read. -/
theorem open_cells {fuel : Nat} {cs : List Value} {x : DataW H × List MemPlace} (h : DataW.trod enc Try.prog w base spare held fuel 24 cs = some x) :
    ∃ (k n : Int) (s : ByteArray) (v : Value) (y : DataW H × List MemPlace) (m : Nat), cs = [.int .i64 k, .int .i64 n, .string s, v] ∧ DataW.trod enc Try.prog w base spare held m 22 [v] = some y ∧
      Rows.uptoBulk y.1 + 1 ≤ Rows.uptoBulk x.1 ∧ (Lit.int .i64 k).wf = true ∧ (Lit.int .i64 n).wf = true ∧ s.size ≤ maxLen ∧ s.size ≤ Rows.uptoBulk x.1 := by
  obtain ⟨xs, m, _, hx, hlen, hxl, hf⟩ := DataW.trod_struct Try.underlying24 h
  rw [cells_term] at hlen
  have f0 : DataW.trod enc Try.prog w base spare held m 3 ((cs.drop 0).take (Try.prog.cellsOf 3)) = xs[0]? := hf 0 _ rfl
  have f1 : DataW.trod enc Try.prog w base spare held m 3 ((cs.drop 1).take (Try.prog.cellsOf 3)) = xs[1]? := hf 1 _ rfl
  have f2 : DataW.trod enc Try.prog w base spare held m 9 ((cs.drop 2).take (Try.prog.cellsOf 9)) = xs[2]? := hf 2 _ rfl
  have f3 : DataW.trod enc Try.prog w base spare held m 22 ((cs.drop 3).take (Try.prog.cellsOf 22)) = xs[3]? := hf 3 _ rfl
  rw [cells_int] at f0 f1
  rw [cells_string] at f2
  rw [cells_terms] at f3
  match cs, hlen, xs, hxl, hx with
  | [c0, c1, c2, c3], _, [y0, y1, y2, y3], _, hx =>
    simp only [List.drop_zero, List.drop_succ_cons, List.take_succ_cons, List.take_zero, List.getElem?_cons_zero, List.getElem?_cons_succ] at f0 f1 f2 f3
    obtain ⟨k, e0, r0, w0⟩ := DataW.trod_int Try.underlying3 f0
    obtain ⟨n, e1, r1, w1⟩ := DataW.trod_int Try.underlying3 f1
    obtain ⟨s, e2, r2, w2⟩ := DataW.trod_string Try.underlying9 f2
    simp only [List.cons.injEq, and_true] at e0 e1 e2
    subst e0 e1 e2 hx r0 r1 r2
    have h3 := bulk_pos y3.1
    have hsz : s.data.toList.length = s.size := by rw [Array.length_toList]; rfl
    refine ⟨k, n, s, c3, y3, m, rfl, f3, ?_, w0, w1, w2, ?_⟩
    · simp only [List.map_cons, List.map_nil, Rows.uptoBulk, Rows.uptoBulkAll]; omega
    · simp only [List.map_cons, List.map_nil, Rows.uptoBulk, Rows.uptoBulkAll]; omega

theorem addr_add {a : Addr} {i : Nat} {u : Value} (h : w.cell? (a.add i) = some u) (ha : a.spot = none) : w.cell? ⟨a.block, a.off + i, none⟩ = some u := by
  unfold Addr.add at h
  split at h
  · rename_i e
    subst e
    obtain ⟨b, o, sp⟩ := a
    simp only at ha
    subst ha
    simpa using h
  · exact h

/-- A slice of terms, read: it is a list of terms, of no more nodes than what was read holds. -/
theorem open_terms : ∀ (b fuel : Nat) (v : Value) (x : DataW H × List MemPlace), Rows.uptoBulk x.1 ≤ b → DataW.trod enc Try.prog w base spare held fuel 22 [v] = some x →
    ∃ T : Ts, Sl w (fun _ => True) v T ∧ T.nodes < Rows.uptoBulk x.1 := by
  intro b
  induction b with
  | zero => intro fuel v x hb _; have := bulk_pos x.1; omega
  | succ b ih =>
    intro fuel v x hb h
    rcases Deep.open_slice Try.underlying22 h with ⟨e, rfl⟩ | ⟨a, len, cap, m, n, D, Pl, e, _, hl, _, hm, rfl, hi⟩
    · simp only [List.cons.injEq, and_true] at e
      subst e
      exact ⟨.nil, Sl.nil _ _, by simp [Rows.uptoBulk, Ts.nodes]⟩
    · simp only [List.cons.injEq, and_true] at e
      subst e
      rw [cells_term] at hi
      have hml : len ≤ m := by rw [hm]; split <;> omega
      have hbulk : ∀ j, j < len → Rows.uptoBulk (D j) ≤ Rows.uptoBulkAll ((List.range len).map D) := fun j hj => bulk_mem (i := j) (by simp [hj])
      simp only [Rows.uptoBulk] at hb ⊢
      have hspot : 0 < len → a.spot = none := fun hp => by
        obtain ⟨cs, hc, ht⟩ := hi 0 (by omega)
        obtain ⟨k, n', s, v', y, m', rfl, _⟩ := open_cells ht
        obtain ⟨_, _, hat⟩ := World.cells?_some hc
        have h0 := hat 0 (by omega)
        simp only [Nat.zero_mul, Addr.add, if_true, List.getElem?_cons_zero] at h0
        unfold World.cell? at h0
        split at h0
        · split at h0
          · cases h0
          · rename_i hs; simpa using hs
        · cases h0
      have key : ∀ r j, j + r = len → ∃ T : Ts, T.length = r ∧ Seg w (fun _ => True) T a.block (a.off + j * 4) ∧ T.nodes ≤ Rows.uptoBulkAll ((List.range' j r).map D) := by
        intro r
        induction r with
        | zero => intro j _; exact ⟨.nil, rfl, trivial, Nat.zero_le _⟩
        | succ r ihr =>
          intro j hj
          obtain ⟨T, hT1, hT2, hT3⟩ := ihr (j + 1) (by omega)
          obtain ⟨cs, hc, ht⟩ := hi j (by omega)
          obtain ⟨k, n', s, v', y, m', rfl, hy, hyb, _⟩ := open_cells ht
          obtain ⟨_, _, hat⟩ := World.cells?_some hc
          have hbj := hbulk j (by omega)
          simp only at hyb
          obtain ⟨U, hU1, hU2⟩ := ih m' v' y (by omega) hy
          have hsp := hspot (by omega)
          have hcell : ∀ q u, q < 4 → [Value.int .i64 k, .int .i64 n', .string s, v'][q]? = some u → w.cell? ⟨a.block, a.off + j * 4 + q, none⟩ = some u := fun q u hq hu => by
            have h1 := (hat q hq).trans hu
            rw [Deep.add_add] at h1
            have h2 := addr_add h1 hsp
            rwa [← Nat.add_assoc] at h2
          refine ⟨.cons k n' s U T, by simp [Ts.length, hT1], ?_, ?_⟩
          · refine seg_cons.2 ⟨trivial, by simpa using hcell 0 _ (by omega) rfl, hcell 1 _ (by omega) rfl, hcell 2 _ (by omega) rfl, ⟨v', hcell 3 _ (by omega) rfl, hU1⟩, ?_⟩
            rw [show a.off + j * 4 + 4 = a.off + (j + 1) * 4 by omega]
            exact hT2
          · simp only [List.range'_succ, List.map_cons, Rows.uptoBulkAll, Ts.nodes]
            omega
      obtain ⟨T, h1, h2, h3⟩ := key len 0 (by omega)
      refine ⟨T, ⟨some a, cap, by rw [h1], by omega, fun hp => ⟨a.block, a.off, ?_, by simpa using h2⟩⟩, ?_⟩
      · have := hspot (by omega)
        obtain ⟨b', o', sp⟩ := a
        simp only at this
        rw [this]
      · rw [← List.range_eq_range'] at h3
        omega
end

/-- One term as an argument. -/
theorem open_term {H : Type} {enc : TypeId × Value → H} {W : World} {base0 : Nat} {v : Value} {d : DataW H} {p : List MemPlace} (hv : Value.okWide Try.prog W .any base0 24 v) (h : DataW.Trod enc Try.prog W 0 (fun _ => true) true 24 v d p) :
    ∃ (k n : Int) (s : ByteArray) (u : Value) (T : Ts), v = .agg #[.int .i64 k, .int .i64 n, .string s, u] ∧ Sl W (fun _ => True) u T ∧ T.nodes + 1 < Rows.uptoBulk d ∧ (Lit.int .i64 k).wf = true ∧ (Lit.int .i64 n).wf = true ∧ s.size ≤ maxLen := by
  obtain ⟨cs, rfl, hsz⟩ := okWide_struct Try.underlying24 hv
  obtain ⟨fuel, hf⟩ := h
  obtain ⟨k, n, s, u, y, m, e, hy, hb, w0, w1, w2, _⟩ := open_cells hf
  obtain ⟨T, h1, h2⟩ := open_terms _ m u y (Nat.le_refl _) hy
  refine ⟨k, n, s, u, T, ?_, h1, by simp only at hb; omega, w0, w1, w2⟩
  have e' : cs.toList = [.int .i64 k, .int .i64 n, .string s, u] := e
  rw [← e']
/-- A slice of terms as an argument. -/
theorem open_termsArg {H : Type} {enc : TypeId × Value → H} {W : World} {v : Value} {d : DataW H} {p : List MemPlace} (hv : v.cells.toList = [v]) (h : DataW.Trod enc Try.prog W 0 (fun _ => true) true 22 v d p) :
    ∃ T : Ts, Sl W (fun _ => True) v T ∧ T.nodes < Rows.uptoBulk d := by
  obtain ⟨fuel, hf⟩ := h
  rw [hv] at hf
  exact open_terms _ fuel v _ (Nat.le_refl _) hf

theorem trodAll_below {H : Type} {enc : TypeId × Value → H} {P : Program} (hl : laidOutB P = true) {W W' : World} (hb : Below W.heap.size W W') : ∀ {ts : List TypeId} {vs : List Value} {ds : List (DataW H)} {ps : List MemPlace}, (∀ t ∈ ts, P.readableRec t = true ∧ t < P.types.size) →
    DataW.TrodAll enc P W 0 (fun _ => true) true ts vs ds ps → (∀ x ∈ ps, x.block < W.heap.size) → DataW.TrodAll enc P W' 0 (fun b => decide (b < W.heap.size)) true ts vs ds ps
  | [], [], [], _, _, h, _ => h
  | [], [], _ :: _, _, _, h, _ => h.elim
  | [], _ :: _, _, _, _, h, _ => h.elim
  | _ :: _, [], _, _, _, h, _ => h.elim
  | _ :: _, _ :: _, [], _, _, h, _ => h.elim
  | t :: ts, v :: vs, d :: ds, ps, ht, ⟨p, q, h1, h2, e⟩, hlt => by
    subst e
    obtain ⟨a, b⟩ := ht t (List.mem_cons_self ..)
    exact ⟨p, q, Below.trod hl a b h1 hb fun x hx => hlt x (List.mem_append_left _ hx), trodAll_below hl hb (fun t ht' => ht t (List.mem_cons_of_mem _ ht')) h2 fun x hx => hlt x (List.mem_append_right _ hx), rfl⟩

/-- Behind a law's walk: it answered true, and of what was there nothing has turned. -/
theorem law_post {H : Type} {enc : TypeId × Value → H} {P : Program} {f : Func} {s : ChangeSpec} {W W' : World} {args : Array Value} {ds gs : List (DataW H)} {before : List MemPlace} (hl : laidOutB P = true) {bt : TypeId}
    (hres : f.resultTypes = #[bt]) (hbt : P.underlying bt = some .bool) (ht : (f.params.toList.all fun t => P.readableRec t && decide (t < P.types.size)) = true) (hvars : s.vars = [])
    (hfn : (s.fn H (ds ++ gs)).results = [.lit (.bool true)] ∧ (s.fn H (ds ++ gs)).args = ds ∧ (s.fn H (ds ++ gs)).vars = [])
    (hW : DataW.Whole enc P f.params.toList s.vars false W args.toList ds gs before) (hb : Below W.heap.size W W') :
    s.post enc P f false true false false W args (.bool true) W' := by
  have hlt := hW.lt
  have hW' := hW
  obtain ⟨p, q, hA, hV, rfl, hfz, hnd⟩ := hW
  refine ⟨ds, gs, p ++ q, [], p, [], hW', ?_, ?_, ?_, ?_, fun h => by cases h⟩
  · rw [hfn.1, hres]
    exact trodAll_cons_mk (shut_bool hbt _) trodAll_mk0
  · rw [hfn.2.1]
    exact trodAll_below hl hb (fun t h => by have := List.all_eq_true.1 ht t h; simpa using this) hA fun x hx => hlt x (List.mem_append_left _ hx)
  · rw [hfn.2.2, hvars]
    rfl
  · exact hb.frame _
end Go.Proofs.Ytdiophafmokfiaa
namespace Go.Proofs.Ytdiophafmokfiaa
open Go.RowKit Go.ChangeShapes Go.WideShapes Go.ChangeAt
set_option maxRecDepth 100000

theorem cells_clause : Try.prog.cellsOf 47 = 6 := by kernel_rfl

section
variable {H : Type} {enc : TypeId × Value → H} {w : World} {base : Nat} {spare : Nat → Bool} {held : Bool}

/-- The cells of one clause, read. -/
theorem open_ccells {fuel : Nat} {cs : List Value} {x : DataW H × List MemPlace} (h : DataW.trod enc Try.prog w base spare held fuel 47 cs = some x) :
    ∃ (k n vars : Int) (s : ByteArray) (u v : Value) (T B : Ts), cs = [.int .i64 k, .int .i64 n, .string s, u, v, .int .i64 vars] ∧ Sl w (fun _ => True) u T ∧ Sl w (fun _ => True) v B ∧ T.nodes + B.nodes + 1 < Rows.uptoBulk x.1 := by
  obtain ⟨xs, m, _, hx, hlen, hxl, hf⟩ := DataW.trod_struct Try.underlying47 h
  rw [cells_clause] at hlen
  have f0 : DataW.trod enc Try.prog w base spare held m 24 ((cs.drop 0).take (Try.prog.cellsOf 24)) = xs[0]? := hf 0 _ rfl
  have f1 : DataW.trod enc Try.prog w base spare held m 22 ((cs.drop 4).take (Try.prog.cellsOf 22)) = xs[1]? := hf 1 _ rfl
  have f2 : DataW.trod enc Try.prog w base spare held m 3 ((cs.drop 5).take (Try.prog.cellsOf 3)) = xs[2]? := hf 2 _ rfl
  rw [cells_term] at f0
  rw [cells_terms] at f1
  rw [cells_int] at f2
  match cs, hlen, xs, hxl, hx with
  | [c0, c1, c2, c3, c4, c5], _, [y0, y1, y2], _, hx =>
    simp only [List.drop_zero, List.drop_succ_cons, List.take_succ_cons, List.take_zero, List.getElem?_cons_zero, List.getElem?_cons_succ] at f0 f1 f2
    obtain ⟨k, n, s, u, y, m', e0, hy, hb, _, _, _, _⟩ := open_cells f0
    simp only [List.cons.injEq, and_true] at e0
    obtain ⟨rfl, rfl, rfl, rfl⟩ := e0
    obtain ⟨T, h1, h2⟩ := open_terms _ m' _ y (Nat.le_refl _) hy
    obtain ⟨B, h3, h4⟩ := open_terms _ m _ y1 (Nat.le_refl _) f1
    obtain ⟨vars, e2, _, _⟩ := DataW.trod_int Try.underlying3 f2
    simp only [List.cons.injEq, and_true] at e2
    subst e2 hx
    refine ⟨k, n, vars, s, _, _, T, B, rfl, h1, h3, ?_⟩
    simp only [List.map_cons, List.map_nil, Rows.uptoBulk, Rows.uptoBulkAll]
    omega

/-- A slice of clauses, read. -/
theorem open_clauses {fuel : Nat} {v : Value} {x : DataW H × List MemPlace} (h : DataW.trod enc Try.prog w base spare held fuel 35 [v] = some x) :
    ∃ L : List Cl, SlC w (fun _ => True) v L ∧ nodesC L < Rows.uptoBulk x.1 := by
  rcases Deep.open_slice Try.underlying35 h with ⟨e, rfl⟩ | ⟨a, len, cap, m, n, D, Pl, e, _, hl, _, hm, rfl, hi⟩
  · simp only [List.cons.injEq, and_true] at e
    subst e
    exact ⟨[], ⟨none, 0, rfl, Nat.le_refl _, fun h => absurd h (Nat.lt_irrefl _)⟩, by simp [Rows.uptoBulk, nodesC]⟩
  · simp only [List.cons.injEq, and_true] at e
    subst e
    rw [cells_clause] at hi
    have hml : len ≤ m := by rw [hm]; split <;> omega
    have hspot : 0 < len → a.spot = none := fun hp => by
      obtain ⟨cs, hc, ht⟩ := hi 0 (by omega)
      obtain ⟨k, n', vars, s, u, v', T, B, rfl, _⟩ := open_ccells ht
      obtain ⟨_, _, hat⟩ := World.cells?_some hc
      have h0 := hat 0 (by omega)
      simp only [Nat.zero_mul, Addr.add, if_true, List.getElem?_cons_zero] at h0
      unfold World.cell? at h0
      split at h0
      · split at h0
        · cases h0
        · rename_i hs; simpa using hs
      · cases h0
    have key : ∀ r j, j + r = len → ∃ L : List Cl, L.length = r ∧ SegC w (fun _ => True) L a.block (a.off + j * 6) ∧ nodesC L ≤ Rows.uptoBulkAll ((List.range' j r).map D) := by
      intro r
      induction r with
      | zero => intro j _; exact ⟨[], rfl, trivial, Nat.zero_le _⟩
      | succ r ihr =>
        intro j hj
        obtain ⟨L, hT1, hT2, hT3⟩ := ihr (j + 1) (by omega)
        obtain ⟨cs, hc, ht⟩ := hi j (by omega)
        obtain ⟨k, n', vars, s, u, v', T, B, rfl, h1, h2, h3⟩ := open_ccells ht
        obtain ⟨_, _, hat⟩ := World.cells?_some hc
        have hsp := hspot (by omega)
        have hcell : ∀ q u', q < 6 → [Value.int .i64 k, .int .i64 n', .string s, u, v', .int .i64 vars][q]? = some u' → w.cell? ⟨a.block, a.off + j * 6 + q, none⟩ = some u' := fun q u' hq hu => by
          have h1 := (hat q hq).trans hu
          rw [Deep.add_add] at h1
          have h2 := addr_add h1 hsp
          rwa [← Nat.add_assoc] at h2
        refine ⟨⟨k, n', s, T, B, vars⟩ :: L, by simp [hT1], ?_, ?_⟩
        · refine ⟨trivial, by simpa using hcell 0 _ (by omega) rfl, hcell 1 _ (by omega) rfl, hcell 2 _ (by omega) rfl, ⟨u, hcell 3 _ (by omega) rfl, h1⟩, ⟨v', hcell 4 _ (by omega) rfl, h2⟩, hcell 5 _ (by omega) rfl, ?_⟩
          rw [show a.off + j * 6 + 6 = a.off + (j + 1) * 6 by omega]
          exact hT2
        · simp only [List.range'_succ, List.map_cons, Rows.uptoBulkAll, nodesC, Cl.nodes]
          simp only at h3
          omega
    obtain ⟨L, h1, h2, h3⟩ := key len 0 (by omega)
    refine ⟨L, ⟨some a, cap, by rw [h1], by omega, fun hp => ⟨a.block, a.off, ?_, by simpa using h2⟩⟩, ?_⟩
    · have := hspot (by omega)
      obtain ⟨b', o', sp⟩ := a
      simp only at this
      rw [this]
    · rw [← List.range_eq_range'] at h3
      simp only [Rows.uptoBulk]
      omega
end
/-- A slice of clauses as an argument. -/
theorem open_clausesArg {H : Type} {enc : TypeId × Value → H} {W : World} {v : Value} {d : DataW H} {p : List MemPlace} (hv : v.cells.toList = [v]) (h : DataW.Trod enc Try.prog W 0 (fun _ => true) true 35 v d p) :
    ∃ L : List Cl, SlC W (fun _ => True) v L ∧ nodesC L < Rows.uptoBulk d := by
  obtain ⟨fuel, hf⟩ := h
  rw [hv] at hf
  exact open_clauses hf
end Go.Proofs.Ytdiophafmokfiaa
namespace Go.Proofs.Ytdiophafmokfiaa
open Go.RowKit Go.ChangeShapes Go.WideShapes Go.ChangeAt
set_option maxRecDepth 100000
section
variable {H : Type} {enc : TypeId × Value → H} {w : World} {base : Nat} {spare : Nat → Bool} {held : Bool}
/-- A slice of terms, read: it is a list of terms, of no more nodes than what was read holds. -/
theorem open_termsW : ∀ (b fuel : Nat) (v : Value) (x : DataW H × List MemPlace), Rows.uptoBulk x.1 ≤ b → DataW.trod enc Try.prog w base spare held fuel 22 [v] = some x →
    ∃ T : Ts, Sl w (fun _ => True) v T ∧ T.length ≤ 9223372036854775807 ∧ T.wide := by
  intro b
  induction b with
  | zero => intro fuel v x hb _; have := bulk_pos x.1; omega
  | succ b ih =>
    intro fuel v x hb h
    rcases Deep.open_slice Try.underlying22 h with ⟨e, rfl⟩ | ⟨a, len, cap, m, n, D, Pl, e, _, hl, hcm, hm, rfl, hi⟩
    · simp only [List.cons.injEq, and_true] at e
      subst e
      exact ⟨.nil, Sl.nil _ _, by simp [Ts.length], trivial⟩
    · simp only [List.cons.injEq, and_true] at e
      subst e
      rw [cells_term] at hi
      have hml : len ≤ m := by rw [hm]; split <;> omega
      have hbulk : ∀ j, j < len → Rows.uptoBulk (D j) ≤ Rows.uptoBulkAll ((List.range len).map D) := fun j hj => bulk_mem (i := j) (by simp [hj])
      simp only [Rows.uptoBulk] at hb ⊢
      have hspot : 0 < len → a.spot = none := fun hp => by
        obtain ⟨cs, hc, ht⟩ := hi 0 (by omega)
        obtain ⟨k, n', s, v', y, m', rfl, _⟩ := open_cells ht
        obtain ⟨_, _, hat⟩ := World.cells?_some hc
        have h0 := hat 0 (by omega)
        simp only [Nat.zero_mul, Addr.add, if_true, List.getElem?_cons_zero] at h0
        unfold World.cell? at h0
        split at h0
        · split at h0
          · cases h0
          · rename_i hs; simpa using hs
        · cases h0
      have key : ∀ r j, j + r = len → ∃ T : Ts, T.length = r ∧ Seg w (fun _ => True) T a.block (a.off + j * 4) ∧ T.wide := by
        intro r
        induction r with
        | zero => intro j _; exact ⟨.nil, rfl, trivial, trivial⟩
        | succ r ihr =>
          intro j hj
          obtain ⟨T, hT1, hT2, hT3⟩ := ihr (j + 1) (by omega)
          obtain ⟨cs, hc, ht⟩ := hi j (by omega)
          obtain ⟨k, n', s, v', y, m', rfl, hy, hyb, _⟩ := open_cells ht
          obtain ⟨_, _, hat⟩ := World.cells?_some hc
          have hbj := hbulk j (by omega)
          simp only at hyb
          obtain ⟨U, hU1, hU2, hU3⟩ := ih m' v' y (by omega) hy
          have hsp := hspot (by omega)
          have hcell : ∀ q u, q < 4 → [Value.int .i64 k, .int .i64 n', .string s, v'][q]? = some u → w.cell? ⟨a.block, a.off + j * 4 + q, none⟩ = some u := fun q u hq hu => by
            have h1 := (hat q hq).trans hu
            rw [Deep.add_add] at h1
            have h2 := addr_add h1 hsp
            rwa [← Nat.add_assoc] at h2
          refine ⟨.cons k n' s U T, by simp [Ts.length, hT1], ?_, ?_⟩
          · refine seg_cons.2 ⟨trivial, by simpa using hcell 0 _ (by omega) rfl, hcell 1 _ (by omega) rfl, hcell 2 _ (by omega) rfl, ⟨v', hcell 3 _ (by omega) rfl, hU1⟩, ?_⟩
            rw [show a.off + j * 4 + 4 = a.off + (j + 1) * 4 by omega]
            exact hT2
          · exact ⟨hU2, hU3, hT3⟩
      obtain ⟨T, h1, h2, h3⟩ := key len 0 (by omega)
      refine ⟨T, ⟨some a, cap, by rw [h1], by omega, fun hp => ⟨a.block, a.off, ?_, by simpa using h2⟩⟩, by rw [h1]; have : maxLen = 9223372036854775807 := rfl; omega, h3⟩
      have := hspot (by omega)
      obtain ⟨b', o', sp⟩ := a
      simp only at this
      rw [this]
/-- The cells of one clause, read. -/
theorem open_ccellsW {fuel : Nat} {cs : List Value} {x : DataW H × List MemPlace} (h : DataW.trod enc Try.prog w base spare held fuel 47 cs = some x) :
    ∃ (k n vars : Int) (s : ByteArray) (u v : Value) (T B : Ts), cs = [.int .i64 k, .int .i64 n, .string s, u, v, .int .i64 vars] ∧ Sl w (fun _ => True) u T ∧ Sl w (fun _ => True) v B ∧ T.length ≤ 9223372036854775807 ∧ T.wide ∧ B.length ≤ 9223372036854775807 ∧ B.wide := by
  obtain ⟨xs, m, _, hx, hlen, hxl, hf⟩ := DataW.trod_struct Try.underlying47 h
  rw [cells_clause] at hlen
  have f0 : DataW.trod enc Try.prog w base spare held m 24 ((cs.drop 0).take (Try.prog.cellsOf 24)) = xs[0]? := hf 0 _ rfl
  have f1 : DataW.trod enc Try.prog w base spare held m 22 ((cs.drop 4).take (Try.prog.cellsOf 22)) = xs[1]? := hf 1 _ rfl
  have f2 : DataW.trod enc Try.prog w base spare held m 3 ((cs.drop 5).take (Try.prog.cellsOf 3)) = xs[2]? := hf 2 _ rfl
  rw [cells_term] at f0
  rw [cells_terms] at f1
  rw [cells_int] at f2
  match cs, hlen, xs, hxl, hx with
  | [c0, c1, c2, c3, c4, c5], _, [y0, y1, y2], _, hx =>
    simp only [List.drop_zero, List.drop_succ_cons, List.take_succ_cons, List.take_zero, List.getElem?_cons_zero, List.getElem?_cons_succ] at f0 f1 f2
    obtain ⟨k, n, s, u, y, m', e0, hy, hb, _, _, _, _⟩ := open_cells f0
    simp only [List.cons.injEq, and_true] at e0
    obtain ⟨rfl, rfl, rfl, rfl⟩ := e0
    obtain ⟨T, h1, h2, h2w⟩ := open_termsW _ m' _ y (Nat.le_refl _) hy
    obtain ⟨B, h3, h4, h4w⟩ := open_termsW _ m _ y1 (Nat.le_refl _) f1
    obtain ⟨vars, e2, _, _⟩ := DataW.trod_int Try.underlying3 f2
    simp only [List.cons.injEq, and_true] at e2
    subst e2 hx
    exact ⟨k, n, vars, s, _, _, T, B, rfl, h1, h3, h2, h2w, h4, h4w⟩

/-- A slice of clauses, read. -/
theorem open_clausesW {fuel : Nat} {v : Value} {x : DataW H × List MemPlace} (h : DataW.trod enc Try.prog w base spare held fuel 35 [v] = some x) :
    ∃ L : List Cl, SlC w (fun _ => True) v L ∧ L.length ≤ 9223372036854775807 ∧ ClsWide L := by
  rcases Deep.open_slice Try.underlying35 h with ⟨e, rfl⟩ | ⟨a, len, cap, m, n, D, Pl, e, _, hl, hcm, hm, rfl, hi⟩
  · simp only [List.cons.injEq, and_true] at e
    subst e
    exact ⟨[], ⟨none, 0, rfl, Nat.le_refl _, fun h => absurd h (Nat.lt_irrefl _)⟩, by simp, fun c hc => by cases hc⟩
  · simp only [List.cons.injEq, and_true] at e
    subst e
    rw [cells_clause] at hi
    have hml : len ≤ m := by rw [hm]; split <;> omega
    have hspot : 0 < len → a.spot = none := fun hp => by
      obtain ⟨cs, hc, ht⟩ := hi 0 (by omega)
      obtain ⟨k, n', vars, s, u, v', T, B, rfl, _⟩ := open_ccellsW ht
      obtain ⟨_, _, hat⟩ := World.cells?_some hc
      have h0 := hat 0 (by omega)
      simp only [Nat.zero_mul, Addr.add, if_true, List.getElem?_cons_zero] at h0
      unfold World.cell? at h0
      split at h0
      · split at h0
        · cases h0
        · rename_i hs; simpa using hs
      · cases h0
    have key : ∀ r j, j + r = len → ∃ L : List Cl, L.length = r ∧ SegC w (fun _ => True) L a.block (a.off + j * 6) ∧ ClsWide L := by
      intro r
      induction r with
      | zero => intro j _; exact ⟨[], rfl, trivial, fun c hc => by cases hc⟩
      | succ r ihr =>
        intro j hj
        obtain ⟨L, hT1, hT2, hT3⟩ := ihr (j + 1) (by omega)
        obtain ⟨cs, hc, ht⟩ := hi j (by omega)
        obtain ⟨k, n', vars, s, u, v', T, B, rfl, h1, h2, h3⟩ := open_ccellsW ht
        obtain ⟨_, _, hat⟩ := World.cells?_some hc
        have hsp := hspot (by omega)
        have hcell : ∀ q u', q < 6 → [Value.int .i64 k, .int .i64 n', .string s, u, v', .int .i64 vars][q]? = some u' → w.cell? ⟨a.block, a.off + j * 6 + q, none⟩ = some u' := fun q u' hq hu => by
          have h1 := (hat q hq).trans hu
          rw [Deep.add_add] at h1
          have h2 := addr_add h1 hsp
          rwa [← Nat.add_assoc] at h2
        refine ⟨⟨k, n', s, T, B, vars⟩ :: L, by simp [hT1], ?_, ?_⟩
        · refine ⟨trivial, by simpa using hcell 0 _ (by omega) rfl, hcell 1 _ (by omega) rfl, hcell 2 _ (by omega) rfl, ⟨u, hcell 3 _ (by omega) rfl, h1⟩, ⟨v', hcell 4 _ (by omega) rfl, h2⟩, hcell 5 _ (by omega) rfl, ?_⟩
          rw [show a.off + j * 6 + 6 = a.off + (j + 1) * 6 by omega]
          exact hT2
        · intro c hc
          rcases List.mem_cons.1 hc with rfl | hc
          · exact h3
          · exact hT3 c hc
    obtain ⟨L, h1, h2, h3⟩ := key len 0 (by omega)
    refine ⟨L, ⟨some a, cap, by rw [h1], by omega, fun hp => ⟨a.block, a.off, ?_, by simpa using h2⟩⟩, by rw [h1]; have : maxLen = 9223372036854775807 := rfl; omega, h3⟩
    have := hspot (by omega)
    obtain ⟨b', o', sp⟩ := a
    simp only at this
    rw [this]
end
/-- A slice of clauses, or of terms, as an argument. -/
theorem open_clausesArgW {H : Type} {enc : TypeId × Value → H} {W : World} {v : Value} {d : DataW H} {p : List MemPlace} (hv : v.cells.toList = [v]) (h : DataW.Trod enc Try.prog W 0 (fun _ => true) true 35 v d p) :
    ∃ L : List Cl, SlC W (fun _ => True) v L ∧ L.length ≤ 9223372036854775807 ∧ ClsWide L := by
  obtain ⟨fuel, hf⟩ := h
  rw [hv] at hf
  exact open_clausesW hf
theorem open_termsArgW {H : Type} {enc : TypeId × Value → H} {W : World} {v : Value} {d : DataW H} {p : List MemPlace} (hv : v.cells.toList = [v]) (h : DataW.Trod enc Try.prog W 0 (fun _ => true) true 22 v d p) :
    ∃ T : Ts, Sl W (fun _ => True) v T ∧ T.length ≤ 9223372036854775807 ∧ T.wide := by
  obtain ⟨fuel, hf⟩ := h
  rw [hv] at hf
  exact open_termsW _ fuel v _ (Nat.le_refl _) hf
end Go.Proofs.Ytdiophafmokfiaa
