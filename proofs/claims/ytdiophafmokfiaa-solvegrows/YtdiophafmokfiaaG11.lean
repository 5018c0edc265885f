/- LMore, SGrows, SApp, LGrows, Open: texts that follow one another, laid into one file. -/
import Derived.Test.YtdiophafmokfiaaG10
import Derived.Test.YtdiophafmokfiaaG5
import Derived.Test.YtdiophafmokfiaaG7
import Derived.Test.YtdiophafmokfiaaG1
import Derived.Test.YtdiophafmokfiaaRows
import Derived.Deep.Slices
import Derived.Deep.Fields
import Derived.JoinedCond
import Derived.OpenShut
namespace Go.Proofs.Ytdiophafmokfiaa
open Go.RowKit
set_option linter.unusedVariables false
set_option linter.unusedSimpArgs false
set_option maxRecDepth 100000
set_option maxHeartbeats 1000000

theorem ke_ext {a b : List KE} (h : a.map KE.ev = b.map KE.ev) : a.length = b.length := by
  have := congrArg List.length h; simpa using this
/-- Two lists of events that are alike. -/
theorem sameEvents_any (L K : List KE) (A B : Option Addr) (c d : Nat) (w : World) (hL : KER L A c w) (hK : KER K B d w) (he : L.map KE.ev = K.map KE.ev) (hn : ∀ x ∈ L, x.T.ts.nodes ≤ 200) (hl : L.length ≤ 1000) :
    Calls Try.prog 25 #[.slice A L.length c, .slice B K.length d] w fun e w' => e = .returned (.bool true) ∧ Below w.heap.size w w' := by
  have hS := St.start w
  have hlen := ke_ext he
  rw [← hlen]
  refine goes_enter2 Try.func25 rfl Try.ntmps25 rfl ?_
  refine goes_seq ?_
  refine goes_region ?_
  refine lst_run (run_assign (by conv => lhs; whnf)) rfl ?_
  refine lst_done ?_
  refine goes_seq ?_
  refine goes_seq ?_
  refine goes_region ?_
  refine lst_run (run_move (by conv => lhs; whnf)) rfl ?_
  refine lst_run (run_len_slice rfl rfl rfl) rfl ?_
  refine lst_run (run_move (by conv => lhs; whnf)) rfl ?_
  refine lst_run (run_len_slice rfl rfl rfl) rfl ?_
  first
    | refine lst_run (run_neq_one_int rfl rfl) rfl ?_
    | refine lst_run (run_neq_no rfl rfl (by first | assumption | omega)) rfl ?_
    | refine lst_run (run_neq_yes rfl rfl (by omega)) rfl ?_
    | refine lst_run (rfl) rfl ?_
  refine lst_done ?_
  refine goes_false rfl ?_
  refine goes_skip ?_
  refine goes_seq ?_
  refine goes_seq ?_
  refine goes_region ?_
  refine lst_run (run_move (by conv => lhs; whnf)) rfl ?_
  refine lst_run (run_len_slice rfl rfl rfl) rfl ?_
  refine lst_run (run_move (by conv => lhs; whnf)) rfl ?_
  refine lst_done ?_
  refine goes_block ?_
  refine goes_loop1 13 (14 :: 15 :: 5 :: 16 :: 17 :: 18 :: 19 :: 20 :: 21 :: 22 :: 23 :: 24 :: 25 :: 26 :: 27 :: 28 :: 29 :: 30 :: 31 :: 32 :: 33 :: 34 :: 35 :: 36 :: 37 :: 38 :: 39 :: 40 :: 4 :: 41 :: []) (fun (R : List KE) v w' => St [] w [] [] w' ∧ ∃ D, L = D ++ R ∧ v = .int .i64 (D.length : Nat)) (fun R => R.length) (L) ?_ (by conv => lhs; whnf) ?_
  · exact ⟨hS, [], rfl, rfl⟩
  clear hS
  rintro R _ w2 jv ⟨hS, D, hD, rfl⟩ ih
  have hlD : L.length = D.length + R.length := by rw [hD]; simp
  cases R with
  | nil =>
    simp only [List.length_nil] at hlD
    refine goes_seq ?_
    refine goes_region ?_
    first
      | refine lst_run (run_lss_yes rfl rfl (by omega)) rfl ?_
      | refine lst_run (run_lss_no rfl rfl (by omega)) rfl ?_
      | refine lst_run (rfl) rfl ?_
    refine lst_done ?_
    refine goes_seq ?_
    refine goes_false rfl ?_
    refine goes_exit rfl ?_
    refine goes_seq ?_
    refine goes_region ?_
    refine lst_run (run_assign (by conv => lhs; whnf)) rfl ?_
    refine lst_done ?_
    refine goes_ret1 Try.func25 rfl (by conv => lhs; whnf) ?_
    exact ⟨rfl, hS.ext.below⟩
  | cons x R =>
    simp only [List.length_cons] at hlD
    obtain ⟨D2, y, R2, hK2, hDl, hy⟩ : ∃ D2 y R2, K = D2 ++ y :: R2 ∧ D2.length = D.length ∧ y.ev = x.ev := by
      have hk : D.length < K.length := by omega
      refine ⟨K.take D.length, K[D.length], K.drop (D.length + 1), ?_, by simp; omega, ?_⟩
      · rw [← List.drop_eq_getElem_cons hk, List.take_append_drop]
      · have h1 := congrArg (fun l => l[D.length]?) he
        simp only [List.getElem?_map] at h1
        rw [hD, List.getElem?_append_right (Nat.le_refl _), Nat.sub_self] at h1
        simp [hk] at h1
        exact h1.symm
    obtain ⟨xk, xA, xc, xT⟩ := x
    obtain ⟨yk, yA, yc, yT⟩ := y
    simp only [KE.ev, Prod.mk.injEq] at hy
    obtain ⟨rfl, hyT⟩ := hy
    have hnx : xT.ts.nodes ≤ 200 := hn ⟨yk, xA, xc, xT⟩ (by rw [hD]; simp)
    rw [hD] at hL
    rw [hK2] at hK
    obtain ⟨b6, o6, rfl⟩ := hL.some_ (by simp; omega)
    obtain ⟨b8, o8, rfl⟩ := hK.some_ (by simp; omega)
    obtain ⟨p0, p1⟩ := hL.cells
    obtain ⟨q0, q1⟩ := hK.cells
    rw [hDl] at q0 q1
    have hax := hL.2.2 ⟨yk, xA, xc, xT⟩ (by simp)
    have hay := hK.2.2 ⟨yk, yA, yc, yT⟩ (by simp)
    have hsames : ∀ w', St [] w [] [] w' → Calls Try.prog 20 #[.slice xA xT.len xc, .slice yA yT.len yc] w' fun e w'' => e = .returned (.bool true) ∧ Below w'.heap.size w' w'' := by
      intro w' h
      have := _root_.Go.Proofs.Ytdiophafmokfiaa.K.sameTerms_any xT.ts yT.ts _ _ w' (hax.sl.below h.ext.below) (hay.sl.below h.ext.below) (by omega) (by rw [hyT]; omega)
      rw [(Ts.same_iff _ _).2 hyT.symm] at this
      exact this
    refine goes_seq ?_
    refine goes_region ?_
    first
      | refine lst_run (run_lss_yes rfl rfl (by omega)) rfl ?_
      | refine lst_run (run_lss_no rfl rfl (by omega)) rfl ?_
      | refine lst_run (rfl) rfl ?_
    refine lst_done ?_
    refine goes_seq ?_
    refine goes_true rfl ?_
    refine goes_skip ?_
    refine goes_seq ?_
    refine goes_block ?_
    refine goes_seq ?_
    refine goes_region ?_
    refine lst_run (run_move (by conv => lhs; whnf)) rfl ?_
    refine lst_run (run_assign (by conv => lhs; whnf)) rfl ?_
    refine lst_done ?_
    refine goes_seq ?_
    refine goes_draw (St [] w [] []) 25 ((0, true) :: (1, true) :: (2, true) :: (3, true) :: (4, true) :: (5, true) :: (6, true) :: (7, true) :: (8, true) :: (9, true) :: (10, true) :: (11, true) :: (12, true) :: (13, true) :: (14, true) :: (15, true) :: (16, true) :: (17, true) :: (18, true) :: (19, true) :: (20, true) :: (21, true) :: (22, false) :: (23, true) :: (24, true) :: []) (by kernel_rfl) (by kernel_rfl) (hS.drew) ?_
    replace hS := hS.drew
    refine ord_read rfl (fun _ hS => run_move (by conv => lhs; whnf)) rfl ?_
    refine ord_read rfl (fun _ hS => run_move (by conv => lhs; whnf)) rfl ?_
    refine ord_read rfl (fun _ hS => run_indexAddr (sz := 2) rfl rfl rfl rfl (by omega) (by omega)) rfl ?_
    refine ord_read rfl (fun _ hS => run_fieldAddr (off := 0) rfl rfl) rfl ?_
    first
      | refine ord_read rfl (fun _ hS => run_load1_own hS rfl rfl (by first | exact .head | exact .tail .head | exact .tail (.tail .head) | exact .tail (.tail (.tail .head)) | exact .tail (.tail (.tail (.tail .head))) | exact .tail (.tail (.tail (.tail (.tail .head))))) (by repeat constructor)) rfl ?_
      | refine ord_read rfl (fun _ hS => run_load1 rfl rfl (by first | assumption | exact hS.cell0 (by assumption) | exact lv_next hS | exact lv_list hS)) rfl ?_
    refine ord_read rfl (fun _ hS => run_move (by conv => lhs; whnf)) rfl ?_
    refine ord_read rfl (fun _ hS => run_move (by conv => lhs; whnf)) rfl ?_
    refine ord_read rfl (fun _ hS => run_indexAddr (sz := 2) rfl rfl rfl rfl (by omega) (by omega)) rfl ?_
    refine ord_read rfl (fun _ hS => run_fieldAddr (off := 0) rfl rfl) rfl ?_
    first
      | refine ord_read rfl (fun _ hS => run_load1_own hS rfl rfl (by first | exact .head | exact .tail .head | exact .tail (.tail .head) | exact .tail (.tail (.tail .head)) | exact .tail (.tail (.tail (.tail .head))) | exact .tail (.tail (.tail (.tail (.tail .head))))) (by repeat constructor)) rfl ?_
      | refine ord_read rfl (fun _ hS => run_load1 rfl rfl (by first | assumption | exact hS.cell0 (by assumption) | exact lv_next hS | exact lv_list hS)) rfl ?_
    first
      | refine ord_read rfl (fun _ hS => run_neq_one_int rfl rfl) rfl ?_
      | refine ord_read rfl (fun _ hS => run_neq_no rfl rfl (by first | assumption | omega)) rfl ?_
      | refine ord_read rfl (fun _ hS => run_neq_yes rfl rfl (by omega)) rfl ?_
      | refine ord_read rfl (fun _ hS => rfl) rfl ?_
    refine ord_read rfl (fun _ hS => run_move (by conv => lhs; whnf)) rfl ?_
    refine ord_readG rfl rfl rfl (fun _ hS => run_move (by conv => lhs; whnf)) rfl ?_
    refine ord_readG rfl rfl rfl (fun _ hS => run_move (by conv => lhs; whnf)) rfl ?_
    refine ord_readG rfl rfl rfl (fun _ hS => run_indexAddr (sz := 2) rfl rfl rfl rfl (by omega) (by omega)) rfl ?_
    refine ord_readG rfl rfl rfl (fun _ hS => run_fieldAddr (off := 1) rfl rfl) rfl ?_
    first
      | refine ord_readG rfl rfl rfl (fun _ hS => run_load1_own hS rfl rfl (by first | exact .head | exact .tail .head | exact .tail (.tail .head) | exact .tail (.tail (.tail .head)) | exact .tail (.tail (.tail (.tail .head))) | exact .tail (.tail (.tail (.tail (.tail .head))))) (by repeat constructor)) rfl ?_
      | refine ord_readG rfl rfl rfl (fun _ hS => run_load1 rfl rfl (by first | assumption | exact hS.cell0 (by assumption) | exact lv_next hS | exact lv_list hS)) rfl ?_
    refine ord_readG rfl rfl rfl (fun _ hS => run_move (by conv => lhs; whnf)) rfl ?_
    refine ord_readG rfl rfl rfl (fun _ hS => run_move (by conv => lhs; whnf)) rfl ?_
    refine ord_readG rfl rfl rfl (fun _ hS => run_indexAddr (sz := 2) rfl rfl rfl rfl (by omega) (by omega)) rfl ?_
    refine ord_readG rfl rfl rfl (fun _ hS => run_fieldAddr (off := 1) rfl rfl) rfl ?_
    first
      | refine ord_readG rfl rfl rfl (fun _ hS => run_load1_own hS rfl rfl (by first | exact .head | exact .tail .head | exact .tail (.tail .head) | exact .tail (.tail (.tail .head)) | exact .tail (.tail (.tail (.tail .head))) | exact .tail (.tail (.tail (.tail (.tail .head))))) (by repeat constructor)) rfl ?_
      | refine ord_readG rfl rfl rfl (fun _ hS => run_load1 rfl rfl (by first | assumption | exact hS.cell0 (by assumption) | exact lv_next hS | exact lv_list hS)) rfl ?_
    refine ord_act rfl ?_
    refine lst_guard rfl rfl ?_
    refine lst_enter (run_call (by kernel_rfl) (args_2 (by conv => lhs; whnf) (by conv => lhs; whnf))) rfl ?_
    refine Calls.mono (hsames _ hS) ?_
    rintro _ w7 ⟨rfl, hb7⟩
    refine ⟨_, rfl, ?_⟩
    replace hS := hS.grow hb7
    refine lst_ord hS ?_
    refine ord_readG rfl rfl rfl (fun _ hS => rfl) rfl ?_
    first
      | refine ord_read rfl (fun _ hS => run_pick_t rfl (by conv => lhs; whnf)) rfl ?_
      | refine ord_read rfl (fun _ hS => run_pick_f rfl (by conv => lhs; whnf)) rfl ?_
    refine ord_end ?_
    refine lst_done ?_
    refine goes_false rfl ?_
    refine goes_skip ?_
    refine goes_inBlock ?_
    refine goes_region ?_
    refine lst_run (run_add rfl rfl (by omega) (by omega)) rfl ?_
    refine lst_run (run_move (by conv => lhs; whnf)) rfl ?_
    refine lst_done ?_
    refine ih (R) _ _ _ ?_ ?_ (by conv => lhs; whnf) (by kernel_rfl)
    · simp
    · exact ⟨hS, D ++ [⟨yk, xA, xc, xT⟩], by rw [hD]; simp, by simp⟩
theorem KEAt.take {w : World} {b : Nat} {R : List KE} : ∀ {D : List KE} {o : Nat}, KEAt w b (D ++ R) o → KEAt w b D o
  | [], _, _ => trivial
  | _ :: _, _, ⟨h0, h1, h⟩ => ⟨h0, h1, h.take⟩
theorem KER.take {D R : List KE} {A : Option Addr} {c : Nat} {w : World} (h : KER (D ++ R) A c w) : KER D A c w := by
  have h1 := h.1
  simp only [List.length_append] at h1
  refine ⟨by omega, fun hl => ?_, fun x hx => h.2.2 x (List.mem_append_left _ hx)⟩
  obtain ⟨b, o, e, hs⟩ := h.2.1 (by simp; omega)
  exact ⟨b, o, e, hs.take⟩
theorem map_split {L : List KE} {a : List Ev} {b : List Ev} (h : L.map KE.ev = a ++ b) : ∃ D R, L = D ++ R ∧ D.map KE.ev = a ∧ R.map KE.ev = b := by
  obtain ⟨D, R, h1, h2, h3⟩ := List.map_eq_append_iff.1 h
  exact ⟨D, R, h1, h2, h3⟩
theorem pickN_any (k n : Int) (h0 : 0 < n) (h1 : n ≤ 1000) (w : World) : Calls Try.prog 18 #[.int .i64 k, .int .i64 n] w fun e w' => ∃ r : Int, e = .returned (.int .i64 r) ∧ 0 ≤ r ∧ r < n ∧ w = w' := by
  have h2 : -n < k.tmod n ∧ k.tmod n < n := by
    have h3 := Int.emod_lt_of_pos k h0
    have h4 := Int.emod_nonneg k (show n ≠ 0 by omega)
    rw [Int.tmod_eq_emod]
    split <;> omega
  have hne : ¬ n = 0 := by omega
  go_enter Try.func18, Try.ntmps18
  go_wp2_with fail
  all_goals go_ret
  all_goals refine ⟨_, rfl, ?_, ?_, rfl⟩
  all_goals (first | omega | (simp; omega))
section
variable {F : List (World → Prop)}
theorem ev_nodes {vars : Nat} {s : SS} {r : List Ev} {l : List Ts} {k : Int} (h : RunOk vars s r l k) {L : List KE} (hL : L.map KE.ev = r) : (∀ x ∈ L, x.T.ts.nodes ≤ 200) ∧ L.length ≤ 13 := by
  refine ⟨fun x hx => ?_, ?_⟩
  · have : x.ev ∈ r := by rw [← hL]; exact List.mem_map.2 ⟨x, hx, rfl⟩
    rw [h.eq] at this
    rcases List.mem_append.1 this with h1 | h1
    · obtain ⟨T, hT, e⟩ := List.mem_map.1 h1
      have e2 : T = x.T.ts := congrArg Prod.snd e
      rw [← e2]; exact (h.ans T hT).2.1
    · have e : x.ev = (k, .nil) := by simpa using h1
      have e2 : x.T.ts = .nil := congrArg Prod.snd e
      rw [e2]; simp [Ts.nodes]
  · have := congrArg List.length hL
    rw [h.eq] at this
    simp [evsOf] at this
    have := h.six.2
    omega
theorem solveMore_any (P : List Cl) (Q : Ts) (pv qv : Value) (vars fuel more : Int) (w : World) (hp : SlC w (fun _ => True) pv P) (hq : Sl w (fun _ => True) qv Q) (hpl : P.length ≤ 9223372036854775807) (hpw : ClsWide P) (hql : Q.length ≤ 9223372036854775807) (hqw : Q.wide) :
    Calls Try.prog 6 #[pv, qv, .int .i64 vars, .int .i64 fuel, .int .i64 more] w fun e w' => e = .returned (.bool true) ∧ Below w.heap.size w w' := by
  have hS := St.start w
  obtain ⟨pA, pc, X, rfl, hX, hXr⟩ := hp.locate
  obtain ⟨qA, qc, Y, rfl, hY, hYr⟩ := hq.locate
  replace hS := hS.base (φ := ClsR X pA pc) fun w2 hx => hXr w2 fun k hk hl => hx.block k hl (by simp)
  replace hS := hS.base (φ := ArA qA qc Y) fun w2 hx => hYr w2 fun k hk hl => hx.block k hl (by simp)
  have hXl : X.length ≤ 9223372036854775807 := by rw [← hX] at hpl; simpa using hpl
  have hYl : Y.len ≤ 9223372036854775807 := by rw [← TA.len_ts, hY]; exact hql
  rw [← hX] at hpw
  rw [← hY] at hqw
  refine goes_enter5 Try.func6 rfl Try.ntmps6 rfl ?_
  by_cases h1 : fuel < 0
  · refine goes_seq ?_
    refine goes_region ?_
    refine lst_run (run_assign (by conv => lhs; whnf)) rfl ?_
    refine lst_done ?_
    refine goes_seq ?_
    refine goes_seq ?_
    refine goes_region ?_
    refine lst_run (run_move (by conv => lhs; whnf)) rfl ?_
    first
      | refine lst_run (run_lss_yes rfl rfl (by omega)) rfl ?_
      | refine lst_run (run_lss_no rfl rfl (by omega)) rfl ?_
      | refine lst_run (rfl) rfl ?_
    refine lst_run (run_move (by conv => lhs; whnf)) rfl ?_
    refine lst_pass rfl rfl rfl ?_
    refine lst_pass rfl rfl rfl ?_
    first
      | refine lst_run (run_pick_t rfl (by conv => lhs; whnf)) rfl ?_
      | refine lst_run (run_pick_f rfl (by conv => lhs; whnf)) rfl ?_
    refine lst_done ?_
    refine goes_true rfl ?_
    refine goes_seq ?_
    refine goes_region ?_
    refine lst_enter (run_call (by kernel_rfl) args_nil) rfl ?_
    refine Calls.mono (solves_any _) ?_
    rintro _ w3 ⟨rfl, hb3⟩
    refine ⟨_, rfl, ?_⟩
    replace hS := hS.grow hb3
    refine lst_run (run_assign (by conv => lhs; whnf)) rfl ?_
    refine lst_done ?_
    refine goes_ret1 Try.func6 rfl (by conv => lhs; whnf) ?_
    exact ⟨rfl, hS.ext.below⟩
  by_cases h2 : 150 < fuel
  · refine goes_seq ?_
    refine goes_region ?_
    refine lst_run (run_assign (by conv => lhs; whnf)) rfl ?_
    refine lst_done ?_
    refine goes_seq ?_
    refine goes_seq ?_
    refine goes_region ?_
    refine lst_run (run_move (by conv => lhs; whnf)) rfl ?_
    first
      | refine lst_run (run_lss_yes rfl rfl (by omega)) rfl ?_
      | refine lst_run (run_lss_no rfl rfl (by omega)) rfl ?_
      | refine lst_run (rfl) rfl ?_
    refine lst_run (run_move (by conv => lhs; whnf)) rfl ?_
    refine lst_guard rfl rfl ?_
    refine lst_run (run_move (by conv => lhs; whnf)) rfl ?_
    refine lst_guard rfl rfl ?_
    first
      | refine lst_run (run_gtr_yes rfl rfl (by omega)) rfl ?_
      | refine lst_run (run_gtr_no rfl rfl (by omega)) rfl ?_
      | refine lst_run (rfl) rfl ?_
    first
      | refine lst_run (run_pick_t rfl (by conv => lhs; whnf)) rfl ?_
      | refine lst_run (run_pick_f rfl (by conv => lhs; whnf)) rfl ?_
    refine lst_done ?_
    refine goes_true rfl ?_
    refine goes_seq ?_
    refine goes_region ?_
    refine lst_enter (run_call (by kernel_rfl) args_nil) rfl ?_
    refine Calls.mono (solves_any _) ?_
    rintro _ w3 ⟨rfl, hb3⟩
    refine ⟨_, rfl, ?_⟩
    replace hS := hS.grow hb3
    refine lst_run (run_assign (by conv => lhs; whnf)) rfl ?_
    refine lst_done ?_
    refine goes_ret1 Try.func6 rfl (by conv => lhs; whnf) ?_
    exact ⟨rfl, hS.ext.below⟩
  obtain ⟨f, rfl⟩ : ∃ f : Nat, fuel = f := ⟨fuel.toNat, by omega⟩
  refine goes_seq ?_
  refine goes_region ?_
  refine lst_run (run_assign (by conv => lhs; whnf)) rfl ?_
  refine lst_done ?_
  refine goes_seq ?_
  refine goes_seq ?_
  refine goes_region ?_
  refine lst_run (run_move (by conv => lhs; whnf)) rfl ?_
  first
    | refine lst_run (run_lss_yes rfl rfl (by omega)) rfl ?_
    | refine lst_run (run_lss_no rfl rfl (by omega)) rfl ?_
    | refine lst_run (rfl) rfl ?_
  refine lst_run (run_move (by conv => lhs; whnf)) rfl ?_
  refine lst_guard rfl rfl ?_
  refine lst_run (run_move (by conv => lhs; whnf)) rfl ?_
  refine lst_guard rfl rfl ?_
  first
    | refine lst_run (run_gtr_yes rfl rfl (by omega)) rfl ?_
    | refine lst_run (run_gtr_no rfl rfl (by omega)) rfl ?_
    | refine lst_run (rfl) rfl ?_
  first
    | refine lst_run (run_pick_t rfl (by conv => lhs; whnf)) rfl ?_
    | refine lst_run (run_pick_f rfl (by conv => lhs; whnf)) rfl ?_
  refine lst_done ?_
  refine goes_false rfl ?_
  refine goes_skip ?_
  refine goes_seq ?_
  refine goes_region ?_
  refine lst_run (run_move (by conv => lhs; whnf)) rfl ?_
  refine lst_run (run_move (by conv => lhs; whnf)) rfl ?_
  refine lst_run (run_move (by conv => lhs; whnf)) rfl ?_
  refine lst_run (run_move (by conv => lhs; whnf)) rfl ?_
  refine lst_enter (run_call (by kernel_rfl) (args_4 (by conv => lhs; whnf) (by conv => lhs; whnf) (by conv => lhs; whnf) (by conv => lhs; whnf))) rfl ?_
  refine Calls.mono (allW_any X pA pc Y qA qc vars f _ Und.head.tail Und.head hXl hpw hYl hqw hS) ?_
  rintro _ w3 ⟨A1, c1, L1, F1, rfl, hL1, hF1, hK1, hS'⟩
  refine ⟨_, rfl, ?_⟩
  replace hS := hS'
  clear hS'
  refine lst_run (run_move (by conv => lhs; whnf)) rfl ?_
  refine lst_run (run_extract rfl rfl) rfl ?_
  refine lst_run (run_extract rfl rfl) rfl ?_
  refine lst_run (run_assign (by conv => lhs; whnf)) rfl ?_
  refine lst_run (run_assign (by conv => lhs; whnf)) rfl ?_
  refine lst_done ?_
  refine goes_seq ?_
  refine goes_region ?_
  refine lst_run (run_move (by conv => lhs; whnf)) rfl ?_
  refine lst_run (run_move (by conv => lhs; whnf)) rfl ?_
  refine lst_run (run_move (by conv => lhs; whnf)) rfl ?_
  refine lst_run (run_move (by conv => lhs; whnf)) rfl ?_
  refine lst_run (run_move (by conv => lhs; whnf)) rfl ?_
  refine lst_run (run_move (by conv => lhs; whnf)) rfl ?_
  first
    | refine lst_run (run_sub rfl rfl (by omega) (by omega)) rfl ?_
    | refine lst_run (run_sub_u8 rfl rfl) rfl ?_
  refine lst_run (run_add rfl rfl (by omega) (by omega)) rfl ?_
  refine lst_enter (run_call (by kernel_rfl) (args_2 (by conv => lhs; whnf) (by conv => lhs; whnf))) rfl ?_
  refine Calls.mono (pickN_any more _ (by omega) (by omega) _) ?_
  rintro _ w4 ⟨r, rfl, hr0, hr1, rfl⟩
  refine ⟨_, rfl, ?_⟩
  refine lst_run (run_add rfl rfl (by omega) (by omega)) rfl ?_
  obtain ⟨d, rfl⟩ : ∃ d : Nat, r = d := ⟨r.toNat, by omega⟩
  have hfd : ((f : Nat) : Int) + ((d : Nat) : Int) = ((f + d : Nat) : Int) := by omega
  rw [hfd]
  refine lst_enter (run_call (by kernel_rfl) (args_4 (by conv => lhs; whnf) (by conv => lhs; whnf) (by conv => lhs; whnf) (by conv => lhs; whnf))) rfl ?_
  refine Calls.mono (allW_any X pA pc Y qA qc vars ((f + d : Nat) : Int) _ (Und.head.tail.mono hF1) (Und.head.mono hF1) hXl hpw hYl hqw hS) ?_
  rintro _ w5 ⟨A2, c2, L2, F2, rfl, hL2, hF2, hK2, hS'⟩
  refine ⟨_, rfl, ?_⟩
  replace hS := hS'
  clear hS'
  have hfd2 : f + d ≤ 150 := by omega
  generalize hPC : X.map LC.cl = PC at *
  by_cases he : (allM PC Y.ts vars f).2 = 0
  case neg =>
    rw [all_more_err hfd2 he]
    refine lst_run (run_move (by conv => lhs; whnf)) rfl ?_
    refine lst_run (run_extract rfl rfl) rfl ?_
    refine lst_run (run_extract rfl rfl) rfl ?_
    refine lst_run (run_assign (by conv => lhs; whnf)) rfl ?_
    refine lst_run (run_assign (by conv => lhs; whnf)) rfl ?_
    refine lst_done ?_
    refine goes_seq ?_
    refine goes_seq ?_
    refine goes_region ?_
    refine lst_run (run_move (by conv => lhs; whnf)) rfl ?_
    first
      | refine lst_run (run_neq_one_int rfl rfl) rfl ?_
      | refine lst_run (run_neq_no rfl rfl (by first | assumption | omega)) rfl ?_
      | refine lst_run (run_neq_yes rfl rfl (by omega)) rfl ?_
      | refine lst_run (rfl) rfl ?_
    refine lst_run (run_move (by conv => lhs; whnf)) rfl ?_
    refine lst_pass rfl rfl rfl ?_
    refine lst_pass rfl rfl rfl ?_
    first
      | refine lst_run (run_pick_t rfl (by conv => lhs; whnf)) rfl ?_
      | refine lst_run (run_pick_f rfl (by conv => lhs; whnf)) rfl ?_
    refine lst_done ?_
    refine goes_true rfl ?_
    refine goes_seq ?_
    refine goes_region ?_
    refine lst_run (run_move (by conv => lhs; whnf)) rfl ?_
    refine lst_run (run_move (by conv => lhs; whnf)) rfl ?_
    first
      | refine lst_run (run_eql_one_int rfl rfl) rfl ?_
      | refine lst_run (run_eql_no rfl rfl (by first | assumption | omega)) rfl ?_
      | refine lst_run (run_eql_yes rfl rfl (by omega)) rfl ?_
      | refine lst_run (rfl) rfl ?_
    refine lst_run (run_move (by conv => lhs; whnf)) rfl ?_
    refine lst_guard rfl rfl ?_
    refine lst_enter (run_call (by kernel_rfl) args_nil) rfl ?_
    refine Calls.mono (solves_any _) ?_
    rintro _ w6 ⟨rfl, hb6⟩
    refine ⟨_, rfl, ?_⟩
    replace hS := hS.grow hb6
    first
      | refine lst_run (run_pick_t rfl (by conv => lhs; whnf)) rfl ?_
      | refine lst_run (run_pick_f rfl (by conv => lhs; whnf)) rfl ?_
    refine lst_run (run_assign (by conv => lhs; whnf)) rfl ?_
    refine lst_done ?_
    refine goes_ret1 Try.func6 rfl (by conv => lhs; whnf) ?_
    exact ⟨rfl, hS.ext.below⟩
  obtain ⟨he2, l, k, g1, g2, g3⟩ := all_more hfd2 he
  obtain ⟨l1, k1, hr1⟩ := all_events he
  obtain ⟨l2, k2, hr2⟩ := all_events he2
  obtain ⟨hn1, hlen1⟩ := ev_nodes hr1 hL1
  obtain ⟨hn2, hlen2⟩ := ev_nodes hr2 hL2
  rw [he, he2]
  have hK1' : Und F2 (KER L1 A1 c1) := hK1.mono hF2
  obtain ⟨D1, R1, hD1, hDe, hRe⟩ := map_split (hL1.trans g1)
  obtain ⟨x, rfl, hx⟩ : ∃ x, R1 = [x] ∧ x.ev = (k, .nil) := by
    match R1, hRe with
    | [x], h => exact ⟨x, rfl, by simpa using h⟩
    | [], h => simp at h
    | _ :: _ :: _, h => simp at h
  have hxk : x.k = k := congrArg Prod.fst hx
  have hl1 : L1.length = D1.length + 1 := by rw [hD1]; simp
  have hl12 : L1.length ≤ L2.length := by
    have e1 := congrArg List.length (hL1.trans g1)
    by_cases hk3 : k = 3
    · obtain ⟨y, r, e⟩ := g3 hk3
      have e2 := congrArg List.length (hL2.trans e)
      simp [evsOf] at e1 e2; omega
    · have e2 := congrArg List.length (hL2.trans (g2 hk3))
      simp [evsOf] at e1 e2; omega
  have hKw := hS.und hK1'
  rw [hD1] at hKw
  obtain ⟨b6, o6, rfl⟩ := hKw.some_ (by simp)
  obtain ⟨q0, q1⟩ := hKw.cells
  rw [show o6 + D1.length * 2 = o6 + (((L1.length : Nat) : Int) - 1).toNat * 2 by omega, hxk] at q0
  have hcap1 := (hS.und hK1').1
  have hcap2 := (hS.und hK2).1
  have hq : ∀ w', St [] w [] F2 w' → w'.cell? ⟨b6, o6 + (((L1.length : Nat) : Int) - 1).toNat * 2, none⟩ = some (.int .i64 k) := fun w' hS => by
    have h := hS.und hK1'
    rw [hD1] at h
    have q := h.cells.1
    rw [show o6 + D1.length * 2 = o6 + (((L1.length : Nat) : Int) - 1).toNat * 2 by omega, hxk] at q
    exact q
  refine lst_run (run_move (by conv => lhs; whnf)) rfl ?_
  refine lst_run (run_extract rfl rfl) rfl ?_
  refine lst_run (run_extract rfl rfl) rfl ?_
  refine lst_run (run_assign (by conv => lhs; whnf)) rfl ?_
  refine lst_run (run_assign (by conv => lhs; whnf)) rfl ?_
  refine lst_done ?_
  refine goes_seq ?_
  refine goes_seq ?_
  refine goes_region ?_
  refine lst_run (run_move (by conv => lhs; whnf)) rfl ?_
  first
    | refine lst_run (run_neq_one_int rfl rfl) rfl ?_
    | refine lst_run (run_neq_no rfl rfl (by first | assumption | omega)) rfl ?_
    | refine lst_run (run_neq_yes rfl rfl (by omega)) rfl ?_
    | refine lst_run (rfl) rfl ?_
  refine lst_run (run_move (by conv => lhs; whnf)) rfl ?_
  refine lst_guard rfl rfl ?_
  refine lst_enter (run_call (by kernel_rfl) args_nil) rfl ?_
  refine Calls.mono (solves_any _) ?_
  rintro _ w6 ⟨rfl, hb6⟩
  refine ⟨_, rfl, ?_⟩
  replace hS := hS.grow hb6
  refine lst_guard rfl rfl ?_
  refine lst_run (rfl) rfl ?_
  first
    | refine lst_run (run_pick_t rfl (by conv => lhs; whnf)) rfl ?_
    | refine lst_run (run_pick_f rfl (by conv => lhs; whnf)) rfl ?_
  refine lst_done ?_
  refine goes_false rfl ?_
  refine goes_skip ?_
  refine goes_seq ?_
  refine goes_seq ?_
  refine goes_region ?_
  refine lst_run (run_move (by conv => lhs; whnf)) rfl ?_
  refine lst_run (run_len_slice rfl rfl rfl) rfl ?_
  first
    | refine lst_run (run_eql_one_int rfl rfl) rfl ?_
    | refine lst_run (run_eql_no rfl rfl (by first | assumption | omega)) rfl ?_
    | refine lst_run (run_eql_yes rfl rfl (by omega)) rfl ?_
    | refine lst_run (rfl) rfl ?_
  refine lst_run (run_move (by conv => lhs; whnf)) rfl ?_
  refine lst_guard rfl rfl ?_
  refine lst_run (run_move (by conv => lhs; whnf)) rfl ?_
  refine lst_guard rfl rfl ?_
  refine lst_run (run_len_slice rfl rfl rfl) rfl ?_
  refine lst_guard rfl rfl ?_
  refine lst_run (run_move (by conv => lhs; whnf)) rfl ?_
  refine lst_guard rfl rfl ?_
  refine lst_run (run_len_slice rfl rfl rfl) rfl ?_
  refine lst_guard rfl rfl ?_
  first
    | refine lst_run (run_gtr_yes rfl rfl (by omega)) rfl ?_
    | refine lst_run (run_gtr_no rfl rfl (by omega)) rfl ?_
    | refine lst_run (rfl) rfl ?_
  first
    | refine lst_run (run_pick_t rfl (by conv => lhs; whnf)) rfl ?_
    | refine lst_run (run_pick_f rfl (by conv => lhs; whnf)) rfl ?_
  refine lst_done ?_
  by_cases hk3 : k = 3
  · obtain ⟨y, r, e⟩ := g3 hk3
    obtain ⟨D2, R2, hD2, hDe2, _⟩ := map_split (hL2.trans e)
    have hdl : D2.length = D1.length := by
      have a1 := congrArg List.length hDe
      have a2 := congrArg List.length hDe2
      simp at a1 a2; omega
    have t1 : (((L1.length : Nat) : Int) - 1).toNat = D1.length := by omega
    refine goes_false rfl ?_
    refine goes_skip ?_
    refine goes_seq ?_
    refine goes_seq ?_
    refine goes_region ?_
    refine lst_run (run_move (by conv => lhs; whnf)) rfl ?_
    refine lst_run (run_move (by conv => lhs; whnf)) rfl ?_
    refine lst_run (run_len_slice rfl rfl rfl) rfl ?_
    first
      | refine lst_run (run_sub rfl rfl (by omega) (by omega)) rfl ?_
      | refine lst_run (run_sub_u8 rfl rfl) rfl ?_
    refine lst_run (run_indexAddr (sz := 2) rfl rfl rfl rfl (by omega) (by omega)) rfl ?_
    refine lst_run (run_fieldAddr (off := 0) rfl rfl) rfl ?_
    first
      | refine lst_run (run_load1_own hS rfl rfl (by first | exact .head | exact .tail .head | exact .tail (.tail .head) | exact .tail (.tail (.tail .head)) | exact .tail (.tail (.tail (.tail .head))) | exact .tail (.tail (.tail (.tail (.tail .head))))) (by repeat constructor)) rfl ?_
      | refine lst_run (run_load1 rfl rfl (by first | assumption | exact hq _ hS | exact hS.cell0 (by assumption) | exact lv_next hS | exact lv_list hS)) rfl ?_
    first
      | refine lst_run (run_neq_one_int rfl rfl) rfl ?_
      | refine lst_run (run_neq_no rfl rfl (by first | assumption | omega)) rfl ?_
      | refine lst_run (run_neq_yes rfl rfl (by omega)) rfl ?_
      | refine lst_run (rfl) rfl ?_
    refine lst_done ?_
    refine goes_false rfl ?_
    refine goes_skip ?_
    refine goes_seq ?_
    refine goes_draw (St _ _ _ _) 10 ((0, true) :: (1, true) :: (2, true) :: (3, true) :: (4, true) :: (5, true) :: (6, true) :: (7, true) :: (8, true) :: (9, true) :: []) (by kernel_rfl) (by kernel_rfl) (hS.drew) ?_
    replace hS := hS.drew
    refine ord_read rfl (fun _ hS => run_move (by conv => lhs; whnf)) rfl ?_
    refine ord_read rfl (fun _ hS => run_move (by conv => lhs; whnf)) rfl ?_
    refine ord_read rfl (fun _ hS => run_len_slice rfl rfl rfl) rfl ?_
    first
      | refine ord_read rfl (fun _ hS => run_sub rfl rfl (by omega) (by omega)) rfl ?_
      | refine ord_read rfl (fun _ hS => run_sub_u8 rfl rfl) rfl ?_
    refine ord_read rfl (fun _ hS => run_slice_slice (sz := 2) rfl rfl rfl rfl (by omega) (by omega)) rfl ?_
    refine ord_read rfl (fun _ hS => run_move (by conv => lhs; whnf)) rfl ?_
    refine ord_read rfl (fun _ hS => run_move (by conv => lhs; whnf)) rfl ?_
    refine ord_read rfl (fun _ hS => run_len_slice rfl rfl rfl) rfl ?_
    first
      | refine ord_read rfl (fun _ hS => run_sub rfl rfl (by omega) (by omega)) rfl ?_
      | refine ord_read rfl (fun _ hS => run_sub_u8 rfl rfl) rfl ?_
    refine ord_read rfl (fun _ hS => run_slice_slice (sz := 2) rfl rfl rfl rfl (by omega) (by omega)) rfl ?_
    refine ord_end ?_
    rw [t1]
    have hk1 := hS.und hK1'
    rw [hD1] at hk1
    have hk2 := hS.und hK2
    rw [hD2] at hk2
    have hse := sameEvents_any D1 D2 _ _ _ _ _ hk1.take hk2.take (by rw [hDe, hDe2]) (fun z hz => hn1 z (by rw [hD1]; exact List.mem_append_left _ hz)) (by omega)
    rw [hdl] at hse
    refine lst_enter (run_call (by kernel_rfl) (args_2 (by conv => lhs; whnf) (by conv => lhs; whnf))) rfl ?_
    refine Calls.mono (hse) ?_
    rintro _ w7 ⟨rfl, hb7⟩
    refine ⟨_, rfl, ?_⟩
    replace hS := hS.grow hb7
    refine lst_run (run_assign (by conv => lhs; whnf)) rfl ?_
    refine lst_done ?_
    refine goes_ret1 Try.func6 rfl (by conv => lhs; whnf) ?_
    exact ⟨rfl, hS.ext.below⟩
  · refine goes_false rfl ?_
    refine goes_skip ?_
    refine goes_seq ?_
    refine goes_seq ?_
    refine goes_region ?_
    refine lst_run (run_move (by conv => lhs; whnf)) rfl ?_
    refine lst_run (run_move (by conv => lhs; whnf)) rfl ?_
    refine lst_run (run_len_slice rfl rfl rfl) rfl ?_
    first
      | refine lst_run (run_sub rfl rfl (by omega) (by omega)) rfl ?_
      | refine lst_run (run_sub_u8 rfl rfl) rfl ?_
    refine lst_run (run_indexAddr (sz := 2) rfl rfl rfl rfl (by omega) (by omega)) rfl ?_
    refine lst_run (run_fieldAddr (off := 0) rfl rfl) rfl ?_
    first
      | refine lst_run (run_load1_own hS rfl rfl (by first | exact .head | exact .tail .head | exact .tail (.tail .head) | exact .tail (.tail (.tail .head)) | exact .tail (.tail (.tail (.tail .head))) | exact .tail (.tail (.tail (.tail (.tail .head))))) (by repeat constructor)) rfl ?_
      | refine lst_run (run_load1 rfl rfl (by first | assumption | exact hq _ hS | exact hS.cell0 (by assumption) | exact lv_next hS | exact lv_list hS)) rfl ?_
    first
      | refine lst_run (run_neq_one_int rfl rfl) rfl ?_
      | refine lst_run (run_neq_no rfl rfl (by first | assumption | omega)) rfl ?_
      | refine lst_run (run_neq_yes rfl rfl (by omega)) rfl ?_
      | refine lst_run (rfl) rfl ?_
    refine lst_done ?_
    refine goes_true rfl ?_
    refine goes_seq ?_
    refine goes_region ?_
    refine lst_run (run_move (by conv => lhs; whnf)) rfl ?_
    refine lst_run (run_move (by conv => lhs; whnf)) rfl ?_
    refine lst_enter (run_call (by kernel_rfl) (args_2 (by conv => lhs; whnf) (by conv => lhs; whnf))) rfl ?_
    refine Calls.mono (sameEvents_any L1 L2 _ _ _ _ _ (hS.und hK1') (hS.und hK2) (by rw [hL1, hL2, g1, g2 hk3]) hn1 (by omega)) ?_
    rintro _ w7 ⟨rfl, hb7⟩
    refine ⟨_, rfl, ?_⟩
    replace hS := hS.grow hb7
    refine lst_run (run_assign (by conv => lhs; whnf)) rfl ?_
    refine lst_done ?_
    refine goes_ret1 Try.func6 rfl (by conv => lhs; whnf) ?_
    exact ⟨rfl, hS.ext.below⟩
end
end Go.Proofs.Ytdiophafmokfiaa
namespace Go.Proofs.Ytdiophafmokfiaa
set_option linter.unusedVariables false

/-- None of these goals asks for c. -/
def naG (c : Cl) (l : List Gl) : Prop := ∀ g ∈ l, fitsC g.1 c = false
def naB (c : Cl) (T : Ts) : Prop := ∀ t, T.Mem t → fitsC t c = false
structure Na (c : Cl) (s : SS) : Prop where
  goals : naG c s.goals
  ch : ∀ h ∈ s.ch, naG c h.next ∧ ∀ cl ∈ h.cls, naB c cl.bd
theorem fits_shift (t : Tm) (m : Int) (c : Cl) : fitsC (t.shift m) c = fitsC t c := by
  show (_ && decide (c.hd.length = (t.ar.shift m).length)) = _
  rw [Ts.shift_len]; rfl
theorem body_na {c : Cl} {m : Int} {o : Nat} {rest : List Gl} (hr : naG c rest) : ∀ T : Ts, naB c T → naG c (bodyG T m o rest)
  | .nil, _ => hr
  | .cons k n s a r, h => by
    intro g hg
    rcases List.mem_cons.1 hg with rfl | hg
    · rw [fits_shift]; exact h _ (.inl rfl)
    · exact body_na hr r (fun t ht => h t (.inr ht)) g hg
theorem pop_na {c : Cl} {h : Ch} {cl : Cl} {more : List Cl} {cs : List Ch} (hc : ∀ x ∈ h :: cs, naG c x.next ∧ ∀ cl ∈ x.cls, naB c cl.bd) (h2 : h.cls = cl :: more) : ∀ x ∈ popC h more cs, naG c x.next ∧ ∀ cl ∈ x.cls, naB c cl.bd := by
  intro x hx
  cases more with
  | nil => exact hc x (.tail _ hx)
  | cons m ms =>
    rcases List.mem_cons.1 hx with rfl | hx
    · exact ⟨(hc h (.head _)).1, fun y hy => (hc h (.head _)).2 y (by rw [h2]; exact .tail _ hy)⟩
    · exact hc x (.tail _ hx)
theorem retry_na {c : Cl} : ∀ (n : Nat) (s : SS), Na c s → Na c (retryM n s).2
  | 0, s, h => h
  | n + 1, s, h => by
    cases h1 : s.ch with
    | nil =>
      have e1 : retryM (n + 1) s = (2, s) := by unfold retryM; rw [h1]
      rw [e1]; exact h
    | cons x xs =>
      cases h2 : x.cls with
      | nil =>
        have e1 : retryM (n + 1) s = (2, s) := by unfold retryM; rw [h1]; simp only; rw [h2]
        rw [e1]; exact h
      | cons cl more =>
        have hc := h.ch
        rw [h1] at hc
        have hpop := pop_na hc h2
        rw [retryM_cons h1 h2]
        split
        · exact ⟨h.goals, hpop⟩
        split
        · exact ⟨body_na (hc x (.head _)).1 _ ((hc x (.head _)).2 cl (by rw [h2]; exact .head _)), hpop⟩
        · exact retry_na n _ ⟨h.goals, hpop⟩
theorem again_na {c : Cl} {s : SS} (h : Na c s) : Na c (againM s).2 := retry_na _ s h
theorem equal_na {c : Cl} {s : SS} {a t : Tm} (h : Na c s) : Na c (equalM a t s).2 := by
  unfold equalM
  simp only
  split
  · exact ⟨h.goals, h.ch⟩
  split
  · exact ⟨h.goals, h.ch⟩
  · exact again_na ⟨h.goals, h.ch⟩
theorem built_na {c : Cl} {s : SS} {g : Gl} (h : Na c s) : Na c (builtM g s).2 := by
  unfold builtM
  split
  · exact ⟨h.goals, fun x hx => h.ch x (List.mem_of_mem_drop hx)⟩
  split
  · exact h
  split
  · exact equal_na h
  split
  · unfold lessM
    simp only
    split
    · exact h
    split
    · exact again_na h
    · exact h
  split
  · unfold addM
    simp only
    split
    · exact h
    split
    · exact h
    · exact equal_na h
  · exact again_na h
theorem step_na {p : List Cl} {vars : Nat} {c : Cl} {s : SS} (hp : ∀ x ∈ p, naB c x.bd) (h : Na c s) : Na c (stepM p vars s).2 := by
  unfold stepM
  cases hg : s.goals with
  | nil =>
    simp only
    unfold answerM
    cases varsM s.B vars 0 200 with
    | none => exact h
    | some x =>
      simp only
      split
      · exact ⟨h.goals, h.ch⟩
      · exact again_na ⟨h.goals, h.ch⟩
  | cons g rest =>
    simp only
    have hgs := h.goals
    rw [hg] at hgs
    have hrest : naG c rest := fun x hx => hgs x (.tail _ hx)
    split
    · exact h
    split
    · exact built_na ⟨hrest, h.ch⟩
    · cases hm : p.filter (fitsC g.1) with
      | nil => exact ⟨hrest, h.ch⟩
      | cons x xs =>
        refine again_na ⟨hrest, fun y hy => ?_⟩
        rcases List.mem_cons.1 hy with rfl | hy
        · exact ⟨hrest, fun z hz => hp z (by rw [← hm] at hz; exact (List.mem_filter.1 hz).1)⟩
        · exact h.ch y hy
/-- A program that answers every goal but c's as p does. -/
theorem step_same {p p' : List Cl} {vars : Nat} {c : Cl} {s : SS} (he : ∀ g : Tm, fitsC g c = false → p'.filter (fitsC g) = p.filter (fitsC g)) (h : Na c s) : stepM p' vars s = stepM p vars s := by
  unfold stepM
  cases hg : s.goals with
  | nil => rfl
  | cons g rest =>
    have hgs := h.goals
    rw [hg] at hgs
    simp only
    rw [he g.1 (hgs g (.head _))]
theorem run_same {p p' : List Cl} {vars : Nat} {c : Cl} (hp : ∀ x ∈ p, naB c x.bd) (he : ∀ g : Tm, fitsC g c = false → p'.filter (fitsC g) = p.filter (fitsC g)) : ∀ (n : Nat) (s : SS), Na c s → runM p' vars n s = runM p vars n s
  | 0, _, _ => rfl
  | n + 1, s, h => by
    rw [runM_succ, runM_succ, step_same he h]
    split
    · exact run_same hp he n _ (step_na hp h)
    · rfl
theorem filter_behind {p : List Cl} {c : Cl} (g : Tm) (h : fitsC g c = false) : (p ++ [c]).filter (fitsC g) = p.filter (fitsC g) := by
  rw [List.filter_append]; simp [h]
theorem filter_ahead {p : List Cl} {c : Cl} (g : Tm) (h : fitsC g c = false) : (c :: p).filter (fitsC g) = p.filter (fitsC g) := by simp [h]
theorem all_grows {p p' : List Cl} {q : Ts} {vars fuel : Int} {c : Cl} (h : (allM p q vars fuel).2 = 0) (hp' : pB p' = true) (hp : ∀ x ∈ p, naB c x.bd) (hq : naB c q) (he : ∀ g : Tm, fitsC g c = false → p'.filter (fitsC g) = p.filter (fitsC g)) : allM p' q vars fuel = allM p q vars fuel := by
  obtain ⟨hpB, hqB, v0, v1, f0, f1, e, hI, hm⟩ := all_ok h
  rw [e]
  have e2 : allM p' q vars fuel = (runM p' vars.toNat 4000 (startM q vars.toNat fuel.toNat), 0) := by
    unfold allM
    rw [if_neg (by rw [hp', hqB]; simp), if_neg (by omega)]
  rw [e2, run_same hp he 4000 _ ⟨body_na (fun g hg => by cases hg) q hq, fun x hx => by cases hx⟩]
end Go.Proofs.Ytdiophafmokfiaa
namespace Go.Proofs.Ytdiophafmokfiaa
open Go.RowKit
set_option linter.unusedVariables false
set_option linter.unusedSimpArgs false
section
variable {P : Program} {n : Nat} {e : Env} {w : World} {Q : Exit → Act → World → Prop} {ops : Array Oper} {rest : List Oper} {ty : TypeId} {pos : String} {after : Array Edge} {d : Nat}
variable {M : List Nat} {w0 : World} {H H' : List (Nat × Obj)} {F : List (World → Prop)} {b : Nat} {x y : Operand} {v : Value} {t tx : TypeId}
/-- append(s, x...), where x yields the cells ys. -/
theorem lst_appendSrc {el len k : Nat} {q : Value} {ys xs : List Value} {O : List (Nat × Obj)} {i : TypeInfo} {z : Value} (hS : St M w0 H F w) (hx : ev n e x = v) (hy : ev n e y = q)
    (hT : isSliceP P t = some el) (hTx : isSliceP P tx = some el) (hi : P.info? el = some i) (hz : i.zero = some z) (hzs : z.cells.size = i.size) (hys : ys.length = k * i.size) (hsrc : Src P i.size tx q k ys w) (hrow : Row el i.size v len xs O) (hP : H.Perm (O ++ H')) (hfit : 2 * (len + k) * i.bytes ≤ 281474976710656) (hbig : len + k ≤ 4611686018427387904) (hd : Nat.blt d n = true)
    (h : ∀ v' O' w', Row el i.size v' (len + k) (xs ++ ys) O' → St M w0 (O' ++ H') F w' → Lst P Q ops rest n ((d, v') :: e) w') :
    Lst P Q ops (⟨some d, .call ⟨.builtin .append, #[x, y], #[t, tx]⟩, ty, pos, after, none⟩ :: rest) n e w := by
  have hS := hS.perm hP
  have hlen := hrow.len_
  have hop : ∀ r w2, (Builtin.append_ #[t, tx] ty #[v, q]).run P w = .ok r w2 → (execOp (ev n e) ⟨some d, .call ⟨.builtin .append, #[x, y], #[t, tx]⟩, ty, pos, after, none⟩).run P w = .ok (.value r) w2 := by
    intro r w2 hr
    simp only [execOp, resolve, List.map_toArray, List.map_cons, List.map_nil, hx, hy, bind, pure, Sem.bind, invoke, builtin]
    rw [Sem.run_bind', hr]
    rfl
  have grow : ∀ (A : Option Addr) (cap : Nat), v = .slice A len cap → cap < len + k → (Builtin.firstCells i.size len (.slice A len cap)).run P w.drew = .ok xs.toArray w.drew → Lst P Q ops (⟨some d, .call ⟨.builtin .append, #[x, y], #[t, tx]⟩, ty, pos, after, none⟩ :: rest) n e w := by
    intro A cap hv hcap hold
    have hn := Go.Room.nextslicecap_le' hcap
    have hr := run_append_grow_src (P := P) w t tx ty el i z (sliceP hT) hi hz A len cap xs hold (q) k ys hsrc hcap (by omega) (Nat.le_trans (Nat.mul_le_mul_right _ hn) hfit)
    rw [← hv] at hr
    refine lst_run (hop _ _ hr) hd ?_
    have hcapn : len + k ≤ grownCap w (len + k) cap el := by unfold grownCap Question.cut; exact Nat.le_add_right _ _
    generalize grownCap w (len + k) cap el = nc at hcapn
    have hzc : (Builtin.zeroCells z.cells (nc - (len + k))) = (Builtin.zeroCells z.cells (nc - (len + k))).toList.toArray := by simp
    have hzl : (Builtin.zeroCells z.cells (nc - (len + k))).toList.length = (nc - (len + k)) * i.size := by simp [Builtin.zeroCells, hzs]
    generalize (Builtin.zeroCells z.cells (nc - (len + k))).toList = zl at hzc hzl
    rw [hzc]
    have hS2 := (hS.drew.alloc (.cells ((xs ++ ys) ++ zl).toArray el))
    rw [show (xs ++ ys).toArray ++ zl.toArray = ((xs ++ ys) ++ zl).toArray by simp]
    refine h _ [(w.heap.size, .cells ((xs ++ ys) ++ zl).toArray el)] _ (Row.own_ ?_ ?_ hcapn (by omega)) ?_
    · rw [List.length_append, hlen, hys, Nat.add_mul]
    · rw [List.length_append, List.length_append, hlen, hys, hzl, ← Nat.add_mul, ← Nat.add_mul]; congr 1; omega
    · have h5 : St M w0 ((w.heap.size, .cells ((xs ++ ys) ++ zl).toArray el) :: (O ++ H')) F _ := hS2
      exact St.dropL (L := O) h5.sink
  cases hrow with
  | nil_ =>
    by_cases hk0 : k = 0
    · subst hk0
      have hye : ys = [] := List.eq_nil_of_length_eq_zero (by simpa using hys)
      subst hye
      have hr : (Builtin.append_ #[t, tx] ty #[.slice none 0 0, q]).run P w = .ok (.slice none 0 0) w := by
        have hu := run_underlying (sliceP hT) w
        have hu2 := run_underlying (sliceP hTx) w
        have hs1 := hsrc.len
        have hs2 := hsrc.cells
        have hs0 : (Builtin.lenOf (.slice none 0 0)).run P w = .ok 0 w := rfl
        simp [Builtin.append_, hu, hu2, sizeOf, typeInfo, hi, hs0, hs1, hs2]
      refine lst_run (hop _ _ hr) hd (h _ [] _ Row.nil_ hS)
    · exact grow none 0 rfl (by omega) (by simp [Builtin.firstCells, Sem.run, pure])
  | own_ hx2 hc2 hle hcp =>
    rename_i bl cap sp
    have hbl : w.heap[bl]? = some (.cells (xs ++ sp).toArray el) := hS.own (bl, _) (by simp)
    by_cases hroom : len + k ≤ cap
    · have hcc : (xs ++ sp).length = cap * i.size := hc2
      have hfitc : len * i.size + ys.length ≤ (xs ++ sp).length := by rw [hcc, hys, ← Nat.add_mul]; exact Nat.mul_le_mul_right _ hroom
      have hr := run_append_room_src (P := P) w t tx ty el i (sliceP hT) hi bl 0 len cap (q) k ys hsrc hroom
        (fun j hj => by rw [cell_own hbl, Nat.zero_add]; simp only [Option.isSome_iff_exists]; exact ⟨_, List.getElem?_eq_getElem (by omega)⟩) (fun j hj => by simp [World.frozen?, hbl])
      obtain ⟨hs1, hs2⟩ := setCells_row ys (0 + len * i.size) (xs ++ sp) w hbl (by omega)
      refine lst_run (hop _ _ hr) hd ?_
      have hu : Upd ([(bl, Obj.cells (xs ++ sp).toArray el)] ++ H') bl (.cells (xs ++ sp).toArray el) (.cells ((xs ++ sp).take (0 + len * i.size) ++ ys ++ (xs ++ sp).drop (0 + len * i.size + ys.length)).toArray el)
          ((bl, .cells ((xs ++ sp).take (0 + len * i.size) ++ ys ++ (xs ++ sp).drop (0 + len * i.size + ys.length)).toArray el) :: H') := .head
      have h3 := hS.turn hu hs2 hs1
      have e1 : (xs ++ sp).take (0 + len * i.size) = xs := by rw [Nat.zero_add, ← hx2]; simp
      have e2 : (xs ++ sp).drop (0 + len * i.size + ys.length) = sp.drop ys.length := by
        rw [Nat.zero_add, ← hx2]; simp [List.drop_append]
      rw [e1, e2] at h3
      refine h _ _ _ (Row.own_ (b := bl) (sp := sp.drop ys.length) ?_ ?_ hroom hcp) h3
      · rw [List.length_append, hx2, hys, Nat.add_mul]
      · simp only [List.length_append, List.length_drop] at hcc hfitc ⊢
        omega
    · refine grow _ cap rfl (by omega) ?_
      have := run_firstCells_some (P := P) w.drew i.size len ⟨bl, 0, none⟩ len cap xs hx2 (fun j u hj => ?_)
      · exact this
      · have hjl : j < xs.length := by
          rcases Nat.lt_or_ge j xs.length with hl | hl
          · exact hl
          · rw [List.getElem?_eq_none hl] at hj; cases hj
        rw [addrPlus, cell_own (w := w.drew) hbl, Nat.zero_add, List.getElem?_append_left hjl]; exact hj
theorem ClsAt.get {w : World} {b : Nat} : ∀ {L : List LC} {o j : Nat} {u : Value}, ClsAt w b L o → (lcsL L)[j]? = some u → w.cell? ⟨b, o + j, none⟩ = some u
  | [], _, _, _, _, h => by simp [lcsL] at h
  | c :: r, o, j, u, ⟨h0, h1, h2, h3, h4, h5, h6⟩, h => by
    match j, h with
    | 0, h => simp [lcsL] at h; subst h; simpa using h0
    | 1, h => simp [lcsL] at h; subst h; exact h1
    | 2, h => simp [lcsL] at h; subst h; exact h2
    | 3, h => simp [lcsL] at h; subst h; exact h3
    | 4, h => simp [lcsL] at h; subst h; exact h4
    | 5, h => simp [lcsL] at h; subst h; exact h5
    | j + 6, h => rw [show o + (j + 6) = o + 6 + j by omega]; exact h6.get (by simpa [lcsL] using h)
/-- append(s, p...), where p is a slice of clauses. -/
theorem lst_appCls {el len bts pc : Nat} {pA : Option Addr} {X : List LC} {xs : List Value} {O : List (Nat × Obj)} (hS : St M w0 H F w) (hx : ev n e x = v) (hy : ev n e y = .slice pA X.length pc)
    (hT : isSliceP P t = some el) (hTx : isSliceP P tx = some el) (hi : rowP P el = some (6, bts)) (hX : Und F (ClsR X pA pc)) (hrow : Row el 6 v len xs O)
    (hP : H.Perm (O ++ H')) (hfit : 2 * (len + X.length) * bts ≤ 281474976710656) (hbig : len + X.length ≤ 4611686018427387904) (hd : Nat.blt d n = true)
    (h : ∀ v' O' w', Row el 6 v' (len + X.length) (xs ++ lcsL X) O' → St M w0 (O' ++ H') F w' → Lst P Q ops rest n ((d, v') :: e) w') :
    Lst P Q ops (⟨some d, .call ⟨.builtin .append, #[x, y], #[t, tx]⟩, ty, pos, after, none⟩ :: rest) n e w := by
  obtain ⟨i, z, h2, h3, h4, h5, h6⟩ := rowP_some hi
  have hR := hS.und hX
  have hsrc : Src P 6 tx (.slice pA X.length pc) X.length (lcsL X) w := by
    by_cases hl : 0 < X.length
    · obtain ⟨b, o, rfl, hs⟩ := hR.2.1 hl
      refine Src.ofSlice w (sliceP hTx) ⟨b, o, none⟩ _ _ _ (lcsL_len X) (fun j u hj => ?_) (fun u hu => List.all_eq_true.1 (lcsL_one X) u hu)
      rw [addrPlus]; exact hs.get hj
    · obtain rfl : X = [] := List.eq_nil_of_length_eq_zero (by omega)
      cases pA with
      | none => exact Src.ofNil w (sliceP hTx) _
      | some a => exact Src.ofSlice w (sliceP hTx) a _ _ _ rfl (fun j u hj => by simp [lcsL] at hj) (fun u hu => by cases hu)
  refine lst_appendSrc hS hx hy hT hTx h2 h3 h4 (by rw [h5]; exact lcsL_len X) (by rw [h5]; exact hsrc) (by rw [h5]; exact hrow) hP (by rw [h6]; exact hfit) hbig hd ?_
  rw [h5]; exact h
end
end Go.Proofs.Ytdiophafmokfiaa
namespace Go.Proofs.Ytdiophafmokfiaa
open Go.RowKit
set_option linter.unusedVariables false
set_option linter.unusedSimpArgs false
set_option maxRecDepth 100000
set_option maxHeartbeats 1000000

theorem naB_snoc {c : Cl} {D : Ts} {k n : Int} {s : ByteArray} {a : Ts} (h : naB c D) (h1 : fitsC ⟨k, n, s, a⟩ c = false) : naB c (D.app (.cons k n s a .nil)) := by
  induction D with
  | nil =>
    intro t ht
    rcases ht with rfl | ht
    · exact h1
    · exact ht.elim
  | cons k' n' s' a' r' _ ih =>
    intro t ht
    rcases ht with rfl | ht
    · exact h _ (.inl rfl)
    · exact ih (fun t ht => h t (.inr ht)) t ht
theorem pB_snoc {P : List Cl} {c : Cl} (hp : pB P = true) (hc : cB c = true) (hl : P.length < 24) : pB (P ++ [c]) = true ∧ pB (c :: P) = true := by
  unfold pB at hp ⊢
  simp only [Bool.and_eq_true, decide_eq_true_eq] at hp ⊢
  refine ⟨⟨by simp; omega, ?_⟩, ⟨by simp; omega, ?_⟩⟩
  · rw [List.all_append, hp.2]; simp [hc]
  · simp only [List.all_cons, hp.2, hc]; rfl
abbrev cob (x : LC) : Obj := .cells (lcs x).toArray 47
theorem solveGrows_any (P : List Cl) (Q : Ts) (pv qv : Value) (vars fuel : Int) (c : Cl) (cu cv : Value) (w : World) (hp : SlC w (fun _ => True) pv P) (hq : Sl w (fun _ => True) qv Q) (hcu : Sl w (fun _ => True) cu c.hd) (hcv : Sl w (fun _ => True) cv c.bd) (hpl : P.length ≤ 9223372036854775807) (hpw : ClsWide P) (hql : Q.length ≤ 9223372036854775807) (hqw : Q.wide) (hcw : ClsWide [c]) :
    Calls Try.prog 7 #[pv, qv, .int .i64 vars, .int .i64 fuel, .agg #[.int .i64 c.k, .int .i64 c.n, .string c.s, cu, cv, .int .i64 c.vars]] w fun e w' => e = .returned (.bool true) ∧ Below w.heap.size w w' := by
  have hS := St.start w
  obtain ⟨pA, pc, X, rfl, hX, hXr⟩ := hp.locate
  obtain ⟨qA, qc, Y, rfl, hY, hYr⟩ := hq.locate
  obtain ⟨uA, uc, U, rfl, hU, hUr⟩ := hcu.locate
  obtain ⟨vA, vc, V, rfl, hV, hVr⟩ := hcv.locate
  obtain ⟨x, hx⟩ : ∃ x : LC, x = ⟨⟨c.k, c.n, c.s, uA, uc, U⟩, vA, vc, V, c.vars⟩ := ⟨_, rfl⟩
  have hxc : x.cl = c := by rw [hx]; simp only [LC.cl, hU, hV]
  replace hS := hS.base (φ := ClsR X pA pc) fun w2 hx => hXr w2 fun k hk hl => hx.block k hl (by simp)
  replace hS := hS.base (φ := ArA qA qc Y) fun w2 hx => hYr w2 fun k hk hl => hx.block k hl (by simp)
  replace hS := hS.base (φ := LCRd x) fun w2 hy => by
    subst hx
    exact ⟨hUr w2 fun k hk hl => hy.block k hl (by simp), hVr w2 fun k hk hl => hy.block k hl (by simp)⟩
  have hXl : X.length ≤ 9223372036854775807 := by rw [← hX] at hpl; simpa using hpl
  have hYl : Y.len ≤ 9223372036854775807 := by rw [← TA.len_ts, hY]; exact hql
  obtain ⟨hw1, hw2, hw3, hw4⟩ := hcw c (by simp)
  rw [← hX] at hpw
  rw [← hY] at hqw
  have hargs : (#[Value.int .i64 c.k, .int .i64 c.n, .string c.s, .slice uA U.len uc, .slice vA V.len vc, .int .i64 c.vars] : Array Value) = #[.int .i64 x.hd.k, .int .i64 x.hd.n, .string x.hd.s, .slice x.hd.A x.hd.ar.len x.hd.c, .slice x.bA x.bd.len x.bc, .int .i64 x.vars] := by rw [hx]
  rw [hargs]
  have hgc : ∀ w', LCRd x w' → Calls Try.prog 26 #[.agg #[.int .i64 x.hd.k, .int .i64 x.hd.n, .string x.hd.s, .slice x.hd.A x.hd.ar.len x.hd.c, .slice x.bA x.bd.len x.bc, .int .i64 x.vars]] w' fun e w'' => e = .returned (.bool (cB c)) ∧ Below w'.heap.size w' w'' := fun w' h => by
    have h1 : Sl w' (fun _ => True) (.slice x.hd.A x.hd.ar.len x.hd.c) c.hd := by have := h.1.sl; rw [show x.hd.ar.ts = c.hd by rw [← hxc]; rfl] at this; exact this
    have h2 : Sl w' (fun _ => True) (.slice x.bA x.bd.len x.bc) c.bd := by have := h.2.sl; rw [show x.bd.ts = c.bd by rw [← hxc]; rfl] at this; exact this
    have h3 := goodClauseW_any c _ _ w' h1 h2 hw1 hw2 hw3 hw4
    rw [show (#[Value.int .i64 c.k, .int .i64 c.n, .string c.s, .slice x.hd.A x.hd.ar.len x.hd.c, .slice x.bA x.bd.len x.bc, .int .i64 c.vars] : Array Value) = #[.int .i64 x.hd.k, .int .i64 x.hd.n, .string x.hd.s, .slice x.hd.A x.hd.ar.len x.hd.c, .slice x.bA x.bd.len x.bc, .int .i64 x.vars] by rw [hx]] at h3
    exact h3
  clear hargs hx hp hq hcu hcv hXr hYr hUr hVr
  have hcx : ClsWide ([x].map LC.cl) := by simpa [hxc] using hcw
  refine goes_enter5 Try.func7 rfl Try.ntmps7 rfl ?_
  refine goes_seq ?_
  refine goes_region ?_
  refine lst_box hS rfl rfl ?_
  clear hS
  intro b1 wx1 hS
  refine lst_run (run_assign (by conv => lhs; whnf)) rfl ?_
  refine lst_done ?_
  refine goes_seq ?_
  refine goes_region ?_
  refine lst_run (run_move (by conv => lhs; whnf)) rfl ?_
  refine lst_run (run_move (by conv => lhs; whnf)) rfl ?_
  refine lst_run (run_move (by conv => lhs; whnf)) rfl ?_
  refine lst_run (run_move (by conv => lhs; whnf)) rfl ?_
  refine lst_enter (run_call (by kernel_rfl) (args_4 (by conv => lhs; whnf) (by conv => lhs; whnf) (by conv => lhs; whnf) (by conv => lhs; whnf))) rfl ?_
  refine Calls.mono (allW_any X pA pc Y qA qc vars fuel _ Und.head.tail.tail Und.head.tail hXl hpw hYl hqw hS) ?_
  rintro _ w3 ⟨A1, c1, L1, F1, rfl, hL1, hF1, hK1, hS'⟩
  refine ⟨_, rfl, ?_⟩
  replace hS := hS'
  clear hS'
  have hX1 : Und F1 (ClsR X pA pc) := Und.mono (F := [LCRd x, ArA qA qc Y, ClsR X pA pc]) Und.head.tail.tail hF1
  have hY1 : Und F1 (ArA qA qc Y) := Und.mono (F := [LCRd x, ArA qA qc Y, ClsR X pA pc]) Und.head.tail hF1
  have hx1 : Und F1 (LCRd x) := Und.mono (F := [LCRd x, ArA qA qc Y, ClsR X pA pc]) Und.head hF1
  clear hF1
  by_cases he : (allM (X.map LC.cl) Y.ts vars fuel).2 = 0
  case neg =>
    refine lst_run (run_move (by conv => lhs; whnf)) rfl ?_
    refine lst_run (run_extract rfl rfl) rfl ?_
    refine lst_run (run_extract rfl rfl) rfl ?_
    refine lst_run (run_assign (by conv => lhs; whnf)) rfl ?_
    refine lst_run (run_assign (by conv => lhs; whnf)) rfl ?_
    refine lst_done ?_
    refine goes_seq ?_
    refine goes_seq ?_
    refine goes_region ?_
    refine lst_run (run_move (by conv => lhs; whnf)) rfl ?_
    first
      | refine lst_run (run_neq_one_int rfl rfl) rfl ?_
      | refine lst_run (run_neq_no rfl rfl (by first | assumption | omega)) rfl ?_
      | refine lst_run (run_neq_yes rfl rfl (by omega)) rfl ?_
      | refine lst_run (rfl) rfl ?_
    refine lst_run (run_move (by conv => lhs; whnf)) rfl ?_
    refine lst_pass rfl rfl rfl ?_
    refine lst_pass rfl rfl rfl ?_
    first
      | refine lst_run (run_pick_t rfl (by conv => lhs; whnf)) rfl ?_
      | refine lst_run (run_pick_f rfl (by conv => lhs; whnf)) rfl ?_
    refine lst_run (run_move (by conv => lhs; whnf)) rfl ?_
    refine lst_pass rfl rfl rfl ?_
    refine lst_pass rfl rfl rfl ?_
    refine lst_pass rfl rfl rfl ?_
    first
      | refine lst_run (run_pick_t rfl (by conv => lhs; whnf)) rfl ?_
      | refine lst_run (run_pick_f rfl (by conv => lhs; whnf)) rfl ?_
    refine lst_run (run_move (by conv => lhs; whnf)) rfl ?_
    refine lst_pass rfl rfl rfl ?_
    refine lst_pass rfl rfl rfl ?_
    refine lst_pass rfl rfl rfl ?_
    first
      | refine lst_run (run_pick_t rfl (by conv => lhs; whnf)) rfl ?_
      | refine lst_run (run_pick_f rfl (by conv => lhs; whnf)) rfl ?_
    refine lst_done ?_
    refine goes_true rfl ?_
    refine goes_seq ?_
    refine goes_region ?_
    refine lst_enter (run_call (by kernel_rfl) args_nil) rfl ?_
    refine Calls.mono (solves_any _) ?_
    rintro _ w6 ⟨rfl, hb6⟩
    refine ⟨_, rfl, ?_⟩
    replace hS := hS.grow hb6
    refine lst_run (run_assign (by conv => lhs; whnf)) rfl ?_
    refine lst_done ?_
    refine goes_ret1 Try.func7 rfl (by conv => lhs; whnf) ?_
    exact ⟨rfl, hS.ext.below⟩
  obtain ⟨l, k, hr⟩ := all_events he
  obtain ⟨hpB, _⟩ := all_ok he
  obtain ⟨hn1, hlen1⟩ := ev_nodes hr hL1
  rw [he]
  refine lst_run (run_move (by conv => lhs; whnf)) rfl ?_
  refine lst_run (run_extract rfl rfl) rfl ?_
  refine lst_run (run_extract rfl rfl) rfl ?_
  refine lst_run (run_assign (by conv => lhs; whnf)) rfl ?_
  refine lst_run (run_assign (by conv => lhs; whnf)) rfl ?_
  refine lst_done ?_
  refine goes_seq ?_
  refine goes_seq ?_
  refine goes_region ?_
  refine lst_run (run_move (by conv => lhs; whnf)) rfl ?_
  first
    | refine lst_run (run_neq_one_int rfl rfl) rfl ?_
    | refine lst_run (run_neq_no rfl rfl (by first | assumption | omega)) rfl ?_
    | refine lst_run (run_neq_yes rfl rfl (by omega)) rfl ?_
    | refine lst_run (rfl) rfl ?_
  refine lst_run (run_move (by conv => lhs; whnf)) rfl ?_
  refine lst_guard rfl rfl ?_
  refine lst_enter (run_call (by kernel_rfl) args_nil) rfl ?_
  refine Calls.mono (solves_any _) ?_
  rintro _ w4 ⟨rfl, hb4⟩
  refine ⟨_, rfl, ?_⟩
  replace hS := hS.grow hb4
  refine lst_guard rfl rfl ?_
  refine lst_run (rfl) rfl ?_
  first
    | refine lst_run (run_pick_t rfl (by conv => lhs; whnf)) rfl ?_
    | refine lst_run (run_pick_f rfl (by conv => lhs; whnf)) rfl ?_
  refine lst_run (run_move (by conv => lhs; whnf)) rfl ?_
  refine lst_guard rfl rfl ?_
  first
    | refine lst_run (run_loadN_own (k := 6) hS rfl rfl rfl (by first | exact .head | exact .tail .head | exact .tail (.tail .head) | exact .tail (.tail (.tail .head)) | exact .tail (.tail (.tail (.tail .head))) | exact .tail (.tail (.tail (.tail (.tail .head))))) (by repeat constructor)) rfl ?_
    | refine lst_run (run_load6 rfl rfl rfl (by first | assumption | exact hS.cell0 (by assumption)) (by first | assumption | exact hS.cell0 (by assumption)) (by first | assumption | exact hS.cell0 (by assumption)) (by first | assumption | exact hS.cell0 (by assumption)) (by first | assumption | exact hS.cell0 (by assumption)) (by first | assumption | exact hS.cell0 (by assumption))) rfl ?_
  refine lst_guard rfl rfl ?_
  refine lst_enter (run_call (by kernel_rfl) (args_1 (by conv => lhs; whnf))) rfl ?_
  refine Calls.mono (hgc _ (hS.und hx1)) ?_
  rintro _ w5 ⟨rfl, hb5⟩
  refine ⟨_, rfl, ?_⟩
  replace hS := hS.grow hb5
  cases hcB : cB c with
  | false =>
    refine lst_guard rfl rfl ?_
    refine lst_run (rfl) rfl ?_
    first
      | refine lst_run (run_pick_t rfl (by conv => lhs; whnf)) rfl ?_
      | refine lst_run (run_pick_f rfl (by conv => lhs; whnf)) rfl ?_
    refine lst_run (run_move (by conv => lhs; whnf)) rfl ?_
    refine lst_pass rfl rfl rfl ?_
    refine lst_pass rfl rfl rfl ?_
    refine lst_pass rfl rfl rfl ?_
    first
      | refine lst_run (run_pick_t rfl (by conv => lhs; whnf)) rfl ?_
      | refine lst_run (run_pick_f rfl (by conv => lhs; whnf)) rfl ?_
    refine lst_done ?_
    refine goes_true rfl ?_
    refine goes_seq ?_
    refine goes_region ?_
    refine lst_enter (run_call (by kernel_rfl) args_nil) rfl ?_
    refine Calls.mono (solves_any _) ?_
    rintro _ w6 ⟨rfl, hb6⟩
    refine ⟨_, rfl, ?_⟩
    replace hS := hS.grow hb6
    refine lst_run (run_assign (by conv => lhs; whnf)) rfl ?_
    refine lst_done ?_
    refine goes_ret1 Try.func7 rfl (by conv => lhs; whnf) ?_
    exact ⟨rfl, hS.ext.below⟩
  | true =>
  by_cases hlt : 24 ≤ X.length
  · refine lst_guard rfl rfl ?_
    refine lst_run (rfl) rfl ?_
    first
      | refine lst_run (run_pick_t rfl (by conv => lhs; whnf)) rfl ?_
      | refine lst_run (run_pick_f rfl (by conv => lhs; whnf)) rfl ?_
    refine lst_run (run_move (by conv => lhs; whnf)) rfl ?_
    refine lst_guard rfl rfl ?_
    refine lst_run (run_move (by conv => lhs; whnf)) rfl ?_
    refine lst_guard rfl rfl ?_
    refine lst_run (run_len_slice rfl rfl rfl) rfl ?_
    refine lst_guard rfl rfl ?_
    first
      | refine lst_run (run_geq_yes rfl rfl (by omega)) rfl ?_
      | refine lst_run (run_geq_no rfl rfl (by omega)) rfl ?_
      | refine lst_run (rfl) rfl ?_
    first
      | refine lst_run (run_pick_t rfl (by conv => lhs; whnf)) rfl ?_
      | refine lst_run (run_pick_f rfl (by conv => lhs; whnf)) rfl ?_
    refine lst_done ?_
    refine goes_true rfl ?_
    refine goes_seq ?_
    refine goes_region ?_
    refine lst_enter (run_call (by kernel_rfl) args_nil) rfl ?_
    refine Calls.mono (solves_any _) ?_
    rintro _ w6 ⟨rfl, hb6⟩
    refine ⟨_, rfl, ?_⟩
    replace hS := hS.grow hb6
    refine lst_run (run_assign (by conv => lhs; whnf)) rfl ?_
    refine lst_done ?_
    refine goes_ret1 Try.func7 rfl (by conv => lhs; whnf) ?_
    exact ⟨rfl, hS.ext.below⟩
  refine lst_guard rfl rfl ?_
  refine lst_run (rfl) rfl ?_
  first
    | refine lst_run (run_pick_t rfl (by conv => lhs; whnf)) rfl ?_
    | refine lst_run (run_pick_f rfl (by conv => lhs; whnf)) rfl ?_
  refine lst_run (run_move (by conv => lhs; whnf)) rfl ?_
  refine lst_guard rfl rfl ?_
  refine lst_run (run_move (by conv => lhs; whnf)) rfl ?_
  refine lst_guard rfl rfl ?_
  refine lst_run (run_len_slice rfl rfl rfl) rfl ?_
  refine lst_guard rfl rfl ?_
  first
    | refine lst_run (run_geq_yes rfl rfl (by omega)) rfl ?_
    | refine lst_run (run_geq_no rfl rfl (by omega)) rfl ?_
    | refine lst_run (rfl) rfl ?_
  first
    | refine lst_run (run_pick_t rfl (by conv => lhs; whnf)) rfl ?_
    | refine lst_run (run_pick_f rfl (by conv => lhs; whnf)) rfl ?_
  refine lst_done ?_
  refine goes_false rfl ?_
  refine goes_skip ?_
  refine goes_seq ?_
  refine goes_seq ?_
  refine goes_region ?_
  refine lst_run (run_move (by conv => lhs; whnf)) rfl ?_
  refine lst_run (run_build (cells := [_, _, _, _, _, _]) (.cons (by conv => lhs; whnf) .nil) rfl) rfl ?_
  refine lst_buildSlice (cells := [_, _, _, _, _, _]) hS (.cons (by conv => lhs; whnf) .nil) rfl rfl ?_
  clear hS
  intro b2 wx2 hS
  refine lst_run (run_move (by conv => lhs; whnf)) rfl ?_
  obtain ⟨y0, hy0⟩ : ∃ y0 : LC, y0 = ⟨⟨0, 0, ⟨#[]⟩, none, 0, .nil⟩, qA, qc, Y, 0⟩ := ⟨_, rfl⟩
  refine lst_appCls (bts := 88) hS (by conv => lhs; whnf) rfl rfl rfl rfl hX1 (Row.built (len := 1) (xs := lcs ⟨⟨0, 0, ⟨#[]⟩, none, 0, .nil⟩, qA, qc, Y, 0⟩) rfl (by omega)) (.refl _) (by omega) (by omega) rfl ?_
  clear hS
  intro v4 O4 w6 hrow4 hS
  rw [← hy0] at hrow4
  obtain ⟨L4, hL4⟩ : ∃ L4 : List LC, L4 = y0 :: X := ⟨_, rfl⟩
  rw [show 1 + X.length = L4.length by rw [hL4]; simp; omega, show lcs y0 ++ lcsL X = lcsL L4 by rw [hL4]; rfl] at hrow4
  obtain ⟨A4, c4, rfl⟩ := hrow4.form
  obtain ⟨F2, hF2, hC4, hS'⟩ := St.freezeC hrow4 (fun z hz => by
    rw [hL4] at hz
    rcases List.mem_cons.1 hz with rfl | hz
    · subst hy0; exact fun w' hw => ⟨⟨Nat.le_refl _, fun h => absurd h (Nat.lt_irrefl _)⟩, hY1 w' hw⟩
    · exact hX1.imp fun w' h => h.2.2 z hz) hS
  replace hS := hS'
  clear hS' hrow4
  have hX2 := hX1.mono hF2
  have hY2 := hY1.mono hF2
  have hx2 := hx1.mono hF2
  have hK2 := hK1.mono hF2
  clear hX1 hY1 hx1 hK1 hF2
  obtain ⟨b4, o4, rfl⟩ := (hS.und hC4).some_ (by rw [hL4]; simp)
  have hl4 : L4.length = X.length + 1 := by rw [hL4]; rfl
  refine lst_run (run_len_slice rfl rfl rfl) rfl ?_
  refine lst_run (run_move (by conv => lhs; whnf)) rfl ?_
  refine lst_done ?_
  refine goes_block ?_
  refine goes_loop1 52 (53 :: 54 :: 55 :: 14 :: 56 :: 57 :: 58 :: 59 :: 60 :: 61 :: 62 :: 16 :: 63 :: 64 :: 65 :: 66 :: 67 :: 68 :: 69 :: 70 :: 71 :: 72 :: 73 :: 74 :: 75 :: 76 :: 77 :: 78 :: 10 :: 79 :: 80 :: []) (fun (R : List LC) v w' => ∃ D, L4 = D ++ R ∧ v = .int .i64 (D.length : Nat) ∧ (∀ y ∈ D, naB c y.bd.ts) ∧ St [] w [(b1, cob x)] F2 w') (fun R => R.length) (L4) ?_ (by conv => lhs; whnf) ?_
  · exact ⟨[], rfl, rfl, fun y hy => (by cases hy), hS⟩
  clear hS
  rintro R _ w7 jv ⟨D, hD, rfl, hna, hS⟩ ih
  have hlD : L4.length = D.length + R.length := by rw [hD]; simp
  cases R with
  | cons y R =>
    simp only [List.length_cons] at hlD
    have hcc : ∀ {H'} w', St [] w H' F2 w' → _ := fun w' hS => ClsR.cells (D := D) (R := R) (x := y) (by rw [← hD]; exact hS.und hC4)
    refine goes_seq ?_
    refine goes_region ?_
    first
      | refine lst_run (run_lss_yes rfl rfl (by omega)) rfl ?_
      | refine lst_run (run_lss_no rfl rfl (by omega)) rfl ?_
      | refine lst_run (rfl) rfl ?_
    refine lst_done ?_
    refine goes_seq ?_
    refine goes_true rfl ?_
    refine goes_skip ?_
    refine goes_seq ?_
    refine goes_block ?_
    refine goes_seq ?_
    refine goes_region ?_
    refine lst_run (run_indexAddr (sz := 6) rfl rfl rfl rfl (by omega) (by omega)) rfl ?_
    first
      | refine lst_run (run_loadN_own (k := 6) hS rfl rfl rfl (by first | exact .head | exact .tail .head | exact .tail (.tail .head) | exact .tail (.tail (.tail .head)) | exact .tail (.tail (.tail (.tail .head))) | exact .tail (.tail (.tail (.tail (.tail .head))))) (by repeat constructor)) rfl ?_
      | refine lst_run (run_load6 rfl rfl rfl (by first | assumption | exact (hcc _ hS).1 | exact (hcc _ hS).2.1 | exact (hcc _ hS).2.2.1 | exact (hcc _ hS).2.2.2.1 | exact (hcc _ hS).2.2.2.2.1 | exact (hcc _ hS).2.2.2.2.2 | exact hS.cell0 (by assumption)) (by first | assumption | exact (hcc _ hS).1 | exact (hcc _ hS).2.1 | exact (hcc _ hS).2.2.1 | exact (hcc _ hS).2.2.2.1 | exact (hcc _ hS).2.2.2.2.1 | exact (hcc _ hS).2.2.2.2.2 | exact hS.cell0 (by assumption)) (by first | assumption | exact (hcc _ hS).1 | exact (hcc _ hS).2.1 | exact (hcc _ hS).2.2.1 | exact (hcc _ hS).2.2.2.1 | exact (hcc _ hS).2.2.2.2.1 | exact (hcc _ hS).2.2.2.2.2 | exact hS.cell0 (by assumption)) (by first | assumption | exact (hcc _ hS).1 | exact (hcc _ hS).2.1 | exact (hcc _ hS).2.2.1 | exact (hcc _ hS).2.2.2.1 | exact (hcc _ hS).2.2.2.2.1 | exact (hcc _ hS).2.2.2.2.2 | exact hS.cell0 (by assumption)) (by first | assumption | exact (hcc _ hS).1 | exact (hcc _ hS).2.1 | exact (hcc _ hS).2.2.1 | exact (hcc _ hS).2.2.2.1 | exact (hcc _ hS).2.2.2.2.1 | exact (hcc _ hS).2.2.2.2.2 | exact hS.cell0 (by assumption)) (by first | assumption | exact (hcc _ hS).1 | exact (hcc _ hS).2.1 | exact (hcc _ hS).2.2.1 | exact (hcc _ hS).2.2.2.1 | exact (hcc _ hS).2.2.2.2.1 | exact (hcc _ hS).2.2.2.2.2 | exact hS.cell0 (by assumption))) rfl ?_
    refine lst_alloc (cs := [_, _, _, _, _, _]) hS rfl rfl rfl ?_
    clear hS
    intro b3 wx3 hS
    refine lst_storeN hS rfl (by conv => lhs; whnf) rfl rfl (by first | exact .head | exact .tail .head | exact .tail (.tail .head) | exact .tail (.tail (.tail .head)) | exact .tail (.tail (.tail (.tail .head))) | exact .tail (.tail (.tail (.tail (.tail .head))))) (by repeat constructor) (by first | exact .head | exact .tail .head | exact .tail (.tail .head) | exact .tail (.tail (.tail .head)) | exact .tail (.tail (.tail (.tail .head))) | exact .tail (.tail (.tail (.tail (.tail .head))))) ?_
    clear hS
    intro wx4 hS
    refine lst_done ?_
    refine goes_seq ?_
    refine goes_region ?_
    refine lst_run (run_fieldAddr (off := 4) rfl rfl) rfl ?_
    first
      | refine lst_run (run_load1_own hS rfl rfl (by first | exact .head | exact .tail .head | exact .tail (.tail .head) | exact .tail (.tail (.tail .head)) | exact .tail (.tail (.tail (.tail .head))) | exact .tail (.tail (.tail (.tail (.tail .head))))) (by repeat constructor)) rfl ?_
      | refine lst_run (run_load1 rfl rfl (by first | assumption | exact (hcc _ hS).1 | exact (hcc _ hS).2.1 | exact (hcc _ hS).2.2.1 | exact (hcc _ hS).2.2.2.1 | exact (hcc _ hS).2.2.2.2.1 | exact (hcc _ hS).2.2.2.2.2 | exact hS.cell0 (by assumption) | exact lv_next hS | exact lv_list hS)) rfl ?_
    refine lst_run (run_len_slice rfl rfl rfl) rfl ?_
    refine lst_run (run_move (by conv => lhs; whnf)) rfl ?_
    refine lst_done ?_
    refine goes_block ?_
    refine goes_loop1 59 (60 :: 61 :: 62 :: 16 :: 63 :: 64 :: 65 :: 66 :: 67 :: 68 :: 69 :: 70 :: 71 :: 72 :: 73 :: 74 :: 75 :: 76 :: 77 :: 78 :: 10 :: 79 :: []) (fun (T : TA) v w' => ∃ E : TA, y.bd = E.app T ∧ v = .int .i64 (E.len : Nat) ∧ naB c E.ts ∧ St [] w [(b3, cob y), (b1, cob x)] F2 w') (fun T => T.len) (y.bd) ?_ (by conv => lhs; whnf) ?_
    · exact ⟨.nil, rfl, rfl, fun t ht => ht.elim, hS⟩
    clear hS
    rintro T _ w8 jw ⟨E, hE, rfl, hnE, hS⟩ ih2
    have hlE : y.bd.len = E.len + T.len := by rw [hE, TA.len_app]
    have hbl : y.bd.len ≤ 9223372036854775807 := by
      have hy : y ∈ y0 :: X := by rw [← hL4, hD]; simp
      rcases List.mem_cons.1 hy with h | h
      · rw [h, hy0]; exact hYl
      · have := (hpw y.cl (List.mem_map.2 ⟨y, h, rfl⟩)).2.2.1
        rw [show y.cl.bd = y.bd.ts from rfl, TA.len_ts] at this; exact this
    cases T with
    | nil =>
      simp only [TA.len] at hlE
      refine goes_seq ?_
      refine goes_region ?_
      first
        | refine lst_run (run_lss_yes rfl rfl (by omega)) rfl ?_
        | refine lst_run (run_lss_no rfl rfl (by omega)) rfl ?_
        | refine lst_run (rfl) rfl ?_
      refine lst_done ?_
      refine goes_seq ?_
      refine goes_false rfl ?_
      refine goes_exit rfl ?_
      refine goes_inBlock ?_
      refine goes_region ?_
      refine lst_run (run_add rfl rfl (by omega) (by omega)) rfl ?_
      refine lst_run (run_move (by conv => lhs; whnf)) rfl ?_
      refine lst_done ?_
      refine ih (R) _ _ _ ?_ ?_ (by conv => lhs; whnf) (by kernel_rfl)
      · simp
      · refine ⟨D ++ [y], by rw [hD]; simp, by simp, fun z hz => ?_, hS.drop⟩
        rcases List.mem_append.1 hz with hz | hz
        · exact hna z hz
        · rw [List.mem_singleton.1 hz, hE, TA.app_nil]; exact hnE
    | cons k1 n1 s1 a1 c1' ar T =>
      simp only [TA.len] at hlE
      have hyA : Und F2 (ArA y.bA y.bc y.bd) := hC4.imp fun w' h => (h.2.2 y (by rw [hD]; simp)).2
      rw [hE] at hyA
      obtain ⟨b5, o5, hb5'⟩ := (hS.und hyA).some_ (by rw [TA.len_app]; simp only [TA.len]; omega)
      rw [hb5'] at hyA ih2 ⊢
      have hcd : ∀ {H'} w', St [] w H' F2 w' → _ := fun w' hS => ArA.cells (D := E) (hS.und hyA)
      have ih := ih2
      have hno : ¬ (s1 = x.hd.s ∧ ar.len = x.hd.ar.len) → naB c (E.app (.cons k1 n1 s1 a1 c1' ar .nil)).ts := fun h => by
        rw [TA.app_ts]
        refine naB_snoc hnE ?_
        rw [← hxc]
        show (decide (x.hd.s = s1) && decide (x.hd.ar.ts.length = ar.ts.length)) = false
        rw [Bool.and_eq_false_iff]
        by_cases h1 : s1 = x.hd.s
        · exact .inr (decide_eq_false fun h2 => h ⟨h1, by rw [TA.len_ts, TA.len_ts] at h2; exact h2.symm⟩)
        · exact .inl (decide_eq_false fun h2 => h1 h2.symm)
      by_cases hs1 : s1 = x.hd.s
      · by_cases hs2 : ar.len = x.hd.ar.len
        · refine goes_seq ?_
          refine goes_region ?_
          first
            | refine lst_run (run_lss_yes rfl rfl (by omega)) rfl ?_
            | refine lst_run (run_lss_no rfl rfl (by omega)) rfl ?_
            | refine lst_run (rfl) rfl ?_
          refine lst_done ?_
          refine goes_seq ?_
          refine goes_true rfl ?_
          refine goes_skip ?_
          refine goes_seq ?_
          refine goes_block ?_
          refine goes_seq ?_
          refine goes_region ?_
          refine lst_run (run_indexAddr (sz := 4) rfl rfl rfl rfl (by omega) (by omega)) rfl ?_
          first
            | refine lst_run (run_loadN_own (k := 4) hS rfl rfl rfl (by first | exact .head | exact .tail .head | exact .tail (.tail .head) | exact .tail (.tail (.tail .head)) | exact .tail (.tail (.tail (.tail .head))) | exact .tail (.tail (.tail (.tail (.tail .head))))) (by repeat constructor)) rfl ?_
            | refine lst_run (run_load4 rfl rfl rfl (by first | assumption | exact (hcd _ hS).1 | exact (hcd _ hS).2.1 | exact (hcd _ hS).2.2.1 | exact (hcd _ hS).2.2.2 | exact hS.cell0 (by assumption)) (by first | assumption | exact (hcd _ hS).1 | exact (hcd _ hS).2.1 | exact (hcd _ hS).2.2.1 | exact (hcd _ hS).2.2.2 | exact hS.cell0 (by assumption)) (by first | assumption | exact (hcd _ hS).1 | exact (hcd _ hS).2.1 | exact (hcd _ hS).2.2.1 | exact (hcd _ hS).2.2.2 | exact hS.cell0 (by assumption)) (by first | assumption | exact (hcd _ hS).1 | exact (hcd _ hS).2.1 | exact (hcd _ hS).2.2.1 | exact (hcd _ hS).2.2.2 | exact hS.cell0 (by assumption))) rfl ?_
          refine lst_alloc (cs := [_, _, _, _]) hS rfl rfl rfl ?_
          clear hS
          intro b4 wx5 hS
          refine lst_storeN hS rfl (by conv => lhs; whnf) rfl rfl (by first | exact .head | exact .tail .head | exact .tail (.tail .head) | exact .tail (.tail (.tail .head)) | exact .tail (.tail (.tail (.tail .head))) | exact .tail (.tail (.tail (.tail (.tail .head))))) (by repeat constructor) (by first | exact .head | exact .tail .head | exact .tail (.tail .head) | exact .tail (.tail (.tail .head)) | exact .tail (.tail (.tail (.tail .head))) | exact .tail (.tail (.tail (.tail (.tail .head))))) ?_
          clear hS
          intro wx6 hS
          refine lst_done ?_
          refine goes_seq ?_
          refine goes_region ?_
          refine lst_run (run_fieldAddr (off := 2) rfl rfl) rfl ?_
          first
            | refine lst_run (run_load1_own hS rfl rfl (by first | exact .head | exact .tail .head | exact .tail (.tail .head) | exact .tail (.tail (.tail .head)) | exact .tail (.tail (.tail (.tail .head))) | exact .tail (.tail (.tail (.tail (.tail .head))))) (by repeat constructor)) rfl ?_
            | refine lst_run (run_load1 rfl rfl (by first | assumption | exact (hcd _ hS).1 | exact (hcd _ hS).2.1 | exact (hcd _ hS).2.2.1 | exact (hcd _ hS).2.2.2 | exact hS.cell0 (by assumption) | exact lv_next hS | exact lv_list hS)) rfl ?_
          refine lst_run (run_fieldAddr (off := 0) rfl rfl) rfl ?_
          refine lst_run (run_fieldAddr (off := 2) rfl rfl) rfl ?_
          first
            | refine lst_run (run_load1_own hS rfl rfl (by first | exact .head | exact .tail .head | exact .tail (.tail .head) | exact .tail (.tail (.tail .head)) | exact .tail (.tail (.tail (.tail .head))) | exact .tail (.tail (.tail (.tail (.tail .head))))) (by repeat constructor)) rfl ?_
            | refine lst_run (run_load1 rfl rfl (by first | assumption | exact (hcd _ hS).1 | exact (hcd _ hS).2.1 | exact (hcd _ hS).2.2.1 | exact (hcd _ hS).2.2.2 | exact hS.cell0 (by assumption) | exact lv_next hS | exact lv_list hS)) rfl ?_
          first
            | refine lst_run (run_eqlS_t rfl rfl (by assumption)) rfl ?_
            | refine lst_run (run_eqlS_f rfl rfl (by assumption)) rfl ?_
            | refine lst_run (run_eql_str rfl rfl) rfl ?_
            | refine lst_run (rfl) rfl ?_
          refine lst_run (run_move (by conv => lhs; whnf)) rfl ?_
          refine lst_guard rfl rfl ?_
          refine lst_run (run_fieldAddr (off := 3) rfl rfl) rfl ?_
          refine lst_guard rfl rfl ?_
          first
            | refine lst_run (run_load1_own hS rfl rfl (by first | exact .head | exact .tail .head | exact .tail (.tail .head) | exact .tail (.tail (.tail .head)) | exact .tail (.tail (.tail (.tail .head))) | exact .tail (.tail (.tail (.tail (.tail .head))))) (by repeat constructor)) rfl ?_
            | refine lst_run (run_load1 rfl rfl (by first | assumption | exact (hcd _ hS).1 | exact (hcd _ hS).2.1 | exact (hcd _ hS).2.2.1 | exact (hcd _ hS).2.2.2 | exact hS.cell0 (by assumption) | exact lv_next hS | exact lv_list hS)) rfl ?_
          refine lst_guard rfl rfl ?_
          refine lst_run (run_len_slice rfl rfl rfl) rfl ?_
          refine lst_guard rfl rfl ?_
          refine lst_run (run_fieldAddr (off := 0) rfl rfl) rfl ?_
          refine lst_guard rfl rfl ?_
          refine lst_run (run_fieldAddr (off := 3) rfl rfl) rfl ?_
          refine lst_guard rfl rfl ?_
          first
            | refine lst_run (run_load1_own hS rfl rfl (by first | exact .head | exact .tail .head | exact .tail (.tail .head) | exact .tail (.tail (.tail .head)) | exact .tail (.tail (.tail (.tail .head))) | exact .tail (.tail (.tail (.tail (.tail .head))))) (by repeat constructor)) rfl ?_
            | refine lst_run (run_load1 rfl rfl (by first | assumption | exact (hcd _ hS).1 | exact (hcd _ hS).2.1 | exact (hcd _ hS).2.2.1 | exact (hcd _ hS).2.2.2 | exact hS.cell0 (by assumption) | exact lv_next hS | exact lv_list hS)) rfl ?_
          refine lst_guard rfl rfl ?_
          refine lst_run (run_len_slice rfl rfl rfl) rfl ?_
          refine lst_guard rfl rfl ?_
          first
            | refine lst_run (run_eql_one_int rfl rfl) rfl ?_
            | refine lst_run (run_eql_no rfl rfl (by first | assumption | omega)) rfl ?_
            | refine lst_run (run_eql_yes rfl rfl (by omega)) rfl ?_
            | refine lst_run (rfl) rfl ?_
          first
            | refine lst_run (run_pick_t rfl (by conv => lhs; whnf)) rfl ?_
            | refine lst_run (run_pick_f rfl (by conv => lhs; whnf)) rfl ?_
          refine lst_done ?_
          refine goes_true rfl ?_
          refine goes_seq ?_
          refine goes_region ?_
          refine lst_run (run_assign (by conv => lhs; whnf)) rfl ?_
          refine lst_done ?_
          refine goes_ret1 Try.func7 rfl (by conv => lhs; whnf) ?_
          exact ⟨rfl, hS.ext.below⟩
        · refine goes_seq ?_
          refine goes_region ?_
          first
            | refine lst_run (run_lss_yes rfl rfl (by omega)) rfl ?_
            | refine lst_run (run_lss_no rfl rfl (by omega)) rfl ?_
            | refine lst_run (rfl) rfl ?_
          refine lst_done ?_
          refine goes_seq ?_
          refine goes_true rfl ?_
          refine goes_skip ?_
          refine goes_seq ?_
          refine goes_block ?_
          refine goes_seq ?_
          refine goes_region ?_
          refine lst_run (run_indexAddr (sz := 4) rfl rfl rfl rfl (by omega) (by omega)) rfl ?_
          first
            | refine lst_run (run_loadN_own (k := 4) hS rfl rfl rfl (by first | exact .head | exact .tail .head | exact .tail (.tail .head) | exact .tail (.tail (.tail .head)) | exact .tail (.tail (.tail (.tail .head))) | exact .tail (.tail (.tail (.tail (.tail .head))))) (by repeat constructor)) rfl ?_
            | refine lst_run (run_load4 rfl rfl rfl (by first | assumption | exact (hcd _ hS).1 | exact (hcd _ hS).2.1 | exact (hcd _ hS).2.2.1 | exact (hcd _ hS).2.2.2 | exact hS.cell0 (by assumption)) (by first | assumption | exact (hcd _ hS).1 | exact (hcd _ hS).2.1 | exact (hcd _ hS).2.2.1 | exact (hcd _ hS).2.2.2 | exact hS.cell0 (by assumption)) (by first | assumption | exact (hcd _ hS).1 | exact (hcd _ hS).2.1 | exact (hcd _ hS).2.2.1 | exact (hcd _ hS).2.2.2 | exact hS.cell0 (by assumption)) (by first | assumption | exact (hcd _ hS).1 | exact (hcd _ hS).2.1 | exact (hcd _ hS).2.2.1 | exact (hcd _ hS).2.2.2 | exact hS.cell0 (by assumption))) rfl ?_
          refine lst_alloc (cs := [_, _, _, _]) hS rfl rfl rfl ?_
          clear hS
          intro b4 wx5 hS
          refine lst_storeN hS rfl (by conv => lhs; whnf) rfl rfl (by first | exact .head | exact .tail .head | exact .tail (.tail .head) | exact .tail (.tail (.tail .head)) | exact .tail (.tail (.tail (.tail .head))) | exact .tail (.tail (.tail (.tail (.tail .head))))) (by repeat constructor) (by first | exact .head | exact .tail .head | exact .tail (.tail .head) | exact .tail (.tail (.tail .head)) | exact .tail (.tail (.tail (.tail .head))) | exact .tail (.tail (.tail (.tail (.tail .head))))) ?_
          clear hS
          intro wx6 hS
          refine lst_done ?_
          refine goes_seq ?_
          refine goes_region ?_
          refine lst_run (run_fieldAddr (off := 2) rfl rfl) rfl ?_
          first
            | refine lst_run (run_load1_own hS rfl rfl (by first | exact .head | exact .tail .head | exact .tail (.tail .head) | exact .tail (.tail (.tail .head)) | exact .tail (.tail (.tail (.tail .head))) | exact .tail (.tail (.tail (.tail (.tail .head))))) (by repeat constructor)) rfl ?_
            | refine lst_run (run_load1 rfl rfl (by first | assumption | exact (hcd _ hS).1 | exact (hcd _ hS).2.1 | exact (hcd _ hS).2.2.1 | exact (hcd _ hS).2.2.2 | exact hS.cell0 (by assumption) | exact lv_next hS | exact lv_list hS)) rfl ?_
          refine lst_run (run_fieldAddr (off := 0) rfl rfl) rfl ?_
          refine lst_run (run_fieldAddr (off := 2) rfl rfl) rfl ?_
          first
            | refine lst_run (run_load1_own hS rfl rfl (by first | exact .head | exact .tail .head | exact .tail (.tail .head) | exact .tail (.tail (.tail .head)) | exact .tail (.tail (.tail (.tail .head))) | exact .tail (.tail (.tail (.tail (.tail .head))))) (by repeat constructor)) rfl ?_
            | refine lst_run (run_load1 rfl rfl (by first | assumption | exact (hcd _ hS).1 | exact (hcd _ hS).2.1 | exact (hcd _ hS).2.2.1 | exact (hcd _ hS).2.2.2 | exact hS.cell0 (by assumption) | exact lv_next hS | exact lv_list hS)) rfl ?_
          first
            | refine lst_run (run_eqlS_t rfl rfl (by assumption)) rfl ?_
            | refine lst_run (run_eqlS_f rfl rfl (by assumption)) rfl ?_
            | refine lst_run (run_eql_str rfl rfl) rfl ?_
            | refine lst_run (rfl) rfl ?_
          refine lst_run (run_move (by conv => lhs; whnf)) rfl ?_
          refine lst_guard rfl rfl ?_
          refine lst_run (run_fieldAddr (off := 3) rfl rfl) rfl ?_
          refine lst_guard rfl rfl ?_
          first
            | refine lst_run (run_load1_own hS rfl rfl (by first | exact .head | exact .tail .head | exact .tail (.tail .head) | exact .tail (.tail (.tail .head)) | exact .tail (.tail (.tail (.tail .head))) | exact .tail (.tail (.tail (.tail (.tail .head))))) (by repeat constructor)) rfl ?_
            | refine lst_run (run_load1 rfl rfl (by first | assumption | exact (hcd _ hS).1 | exact (hcd _ hS).2.1 | exact (hcd _ hS).2.2.1 | exact (hcd _ hS).2.2.2 | exact hS.cell0 (by assumption) | exact lv_next hS | exact lv_list hS)) rfl ?_
          refine lst_guard rfl rfl ?_
          refine lst_run (run_len_slice rfl rfl rfl) rfl ?_
          refine lst_guard rfl rfl ?_
          refine lst_run (run_fieldAddr (off := 0) rfl rfl) rfl ?_
          refine lst_guard rfl rfl ?_
          refine lst_run (run_fieldAddr (off := 3) rfl rfl) rfl ?_
          refine lst_guard rfl rfl ?_
          first
            | refine lst_run (run_load1_own hS rfl rfl (by first | exact .head | exact .tail .head | exact .tail (.tail .head) | exact .tail (.tail (.tail .head)) | exact .tail (.tail (.tail (.tail .head))) | exact .tail (.tail (.tail (.tail (.tail .head))))) (by repeat constructor)) rfl ?_
            | refine lst_run (run_load1 rfl rfl (by first | assumption | exact (hcd _ hS).1 | exact (hcd _ hS).2.1 | exact (hcd _ hS).2.2.1 | exact (hcd _ hS).2.2.2 | exact hS.cell0 (by assumption) | exact lv_next hS | exact lv_list hS)) rfl ?_
          refine lst_guard rfl rfl ?_
          refine lst_run (run_len_slice rfl rfl rfl) rfl ?_
          refine lst_guard rfl rfl ?_
          first
            | refine lst_run (run_eql_one_int rfl rfl) rfl ?_
            | refine lst_run (run_eql_no rfl rfl (by first | assumption | omega)) rfl ?_
            | refine lst_run (run_eql_yes rfl rfl (by omega)) rfl ?_
            | refine lst_run (rfl) rfl ?_
          first
            | refine lst_run (run_pick_t rfl (by conv => lhs; whnf)) rfl ?_
            | refine lst_run (run_pick_f rfl (by conv => lhs; whnf)) rfl ?_
          refine lst_done ?_
          refine goes_false rfl ?_
          refine goes_skip ?_
          refine goes_inBlock ?_
          refine goes_region ?_
          refine lst_run (run_add rfl rfl (by omega) (by omega)) rfl ?_
          refine lst_run (run_move (by conv => lhs; whnf)) rfl ?_
          refine lst_done ?_
          refine ih (T) _ _ _ ?_ ?_ (by conv => lhs; whnf) (by kernel_rfl)
          · simp [TA.len]
          · exact ⟨E.app (.cons k1 n1 s1 a1 c1' ar .nil), by rw [TA.app_assoc]; exact hE, by rw [TA.len_app]; simp [TA.len], hno fun h => hs2 h.2, hS.drop⟩
      · have hs3 : s1 ≠ x.hd.s := hs1
        refine goes_seq ?_
        refine goes_region ?_
        first
          | refine lst_run (run_lss_yes rfl rfl (by omega)) rfl ?_
          | refine lst_run (run_lss_no rfl rfl (by omega)) rfl ?_
          | refine lst_run (rfl) rfl ?_
        refine lst_done ?_
        refine goes_seq ?_
        refine goes_true rfl ?_
        refine goes_skip ?_
        refine goes_seq ?_
        refine goes_block ?_
        refine goes_seq ?_
        refine goes_region ?_
        refine lst_run (run_indexAddr (sz := 4) rfl rfl rfl rfl (by omega) (by omega)) rfl ?_
        first
          | refine lst_run (run_loadN_own (k := 4) hS rfl rfl rfl (by first | exact .head | exact .tail .head | exact .tail (.tail .head) | exact .tail (.tail (.tail .head)) | exact .tail (.tail (.tail (.tail .head))) | exact .tail (.tail (.tail (.tail (.tail .head))))) (by repeat constructor)) rfl ?_
          | refine lst_run (run_load4 rfl rfl rfl (by first | assumption | exact (hcd _ hS).1 | exact (hcd _ hS).2.1 | exact (hcd _ hS).2.2.1 | exact (hcd _ hS).2.2.2 | exact hS.cell0 (by assumption)) (by first | assumption | exact (hcd _ hS).1 | exact (hcd _ hS).2.1 | exact (hcd _ hS).2.2.1 | exact (hcd _ hS).2.2.2 | exact hS.cell0 (by assumption)) (by first | assumption | exact (hcd _ hS).1 | exact (hcd _ hS).2.1 | exact (hcd _ hS).2.2.1 | exact (hcd _ hS).2.2.2 | exact hS.cell0 (by assumption)) (by first | assumption | exact (hcd _ hS).1 | exact (hcd _ hS).2.1 | exact (hcd _ hS).2.2.1 | exact (hcd _ hS).2.2.2 | exact hS.cell0 (by assumption))) rfl ?_
        refine lst_alloc (cs := [_, _, _, _]) hS rfl rfl rfl ?_
        clear hS
        intro b4 wx5 hS
        refine lst_storeN hS rfl (by conv => lhs; whnf) rfl rfl (by first | exact .head | exact .tail .head | exact .tail (.tail .head) | exact .tail (.tail (.tail .head)) | exact .tail (.tail (.tail (.tail .head))) | exact .tail (.tail (.tail (.tail (.tail .head))))) (by repeat constructor) (by first | exact .head | exact .tail .head | exact .tail (.tail .head) | exact .tail (.tail (.tail .head)) | exact .tail (.tail (.tail (.tail .head))) | exact .tail (.tail (.tail (.tail (.tail .head))))) ?_
        clear hS
        intro wx6 hS
        refine lst_done ?_
        refine goes_seq ?_
        refine goes_region ?_
        refine lst_run (run_fieldAddr (off := 2) rfl rfl) rfl ?_
        first
          | refine lst_run (run_load1_own hS rfl rfl (by first | exact .head | exact .tail .head | exact .tail (.tail .head) | exact .tail (.tail (.tail .head)) | exact .tail (.tail (.tail (.tail .head))) | exact .tail (.tail (.tail (.tail (.tail .head))))) (by repeat constructor)) rfl ?_
          | refine lst_run (run_load1 rfl rfl (by first | assumption | exact (hcd _ hS).1 | exact (hcd _ hS).2.1 | exact (hcd _ hS).2.2.1 | exact (hcd _ hS).2.2.2 | exact hS.cell0 (by assumption) | exact lv_next hS | exact lv_list hS)) rfl ?_
        refine lst_run (run_fieldAddr (off := 0) rfl rfl) rfl ?_
        refine lst_run (run_fieldAddr (off := 2) rfl rfl) rfl ?_
        first
          | refine lst_run (run_load1_own hS rfl rfl (by first | exact .head | exact .tail .head | exact .tail (.tail .head) | exact .tail (.tail (.tail .head)) | exact .tail (.tail (.tail (.tail .head))) | exact .tail (.tail (.tail (.tail (.tail .head))))) (by repeat constructor)) rfl ?_
          | refine lst_run (run_load1 rfl rfl (by first | assumption | exact (hcd _ hS).1 | exact (hcd _ hS).2.1 | exact (hcd _ hS).2.2.1 | exact (hcd _ hS).2.2.2 | exact hS.cell0 (by assumption) | exact lv_next hS | exact lv_list hS)) rfl ?_
        first
          | refine lst_run (run_eqlS_t rfl rfl (by assumption)) rfl ?_
          | refine lst_run (run_eqlS_f rfl rfl (by assumption)) rfl ?_
          | refine lst_run (run_eql_str rfl rfl) rfl ?_
          | refine lst_run (rfl) rfl ?_
        refine lst_run (run_move (by conv => lhs; whnf)) rfl ?_
        refine lst_pass rfl rfl rfl ?_
        refine lst_pass rfl rfl rfl ?_
        refine lst_pass rfl rfl rfl ?_
        refine lst_pass rfl rfl rfl ?_
        refine lst_pass rfl rfl rfl ?_
        refine lst_pass rfl rfl rfl ?_
        refine lst_pass rfl rfl rfl ?_
        refine lst_pass rfl rfl rfl ?_
        first
          | refine lst_run (run_pick_t rfl (by conv => lhs; whnf)) rfl ?_
          | refine lst_run (run_pick_f rfl (by conv => lhs; whnf)) rfl ?_
        refine lst_done ?_
        refine goes_false rfl ?_
        refine goes_skip ?_
        refine goes_inBlock ?_
        refine goes_region ?_
        refine lst_run (run_add rfl rfl (by omega) (by omega)) rfl ?_
        refine lst_run (run_move (by conv => lhs; whnf)) rfl ?_
        refine lst_done ?_
        refine ih (T) _ _ _ ?_ ?_ (by conv => lhs; whnf) (by kernel_rfl)
        · simp [TA.len]
        · exact ⟨E.app (.cons k1 n1 s1 a1 c1' ar .nil), by rw [TA.app_assoc]; exact hE, by rw [TA.len_app]; simp [TA.len], hno fun h => hs1 h.1, hS.drop⟩
  | nil =>
    simp only [List.length_nil] at hlD
    rw [List.append_nil] at hD
    subst hD
    have hnaX : ∀ z ∈ X.map LC.cl, naB c z.bd := fun z hz => by
      obtain ⟨y, hy, rfl⟩ := List.mem_map.1 hz
      exact hna y (by rw [hL4]; exact .tail _ hy)
    have hnaY : naB c Y.ts := by
      have := hna y0 (by rw [hL4]; exact .head _)
      rw [hy0] at this; exact this
    obtain ⟨hpb1, hpb2⟩ := pB_snoc hpB hcB (by simp; omega)
    have g1 := all_grows he hpb1 hnaX hnaY (fun g h => filter_behind g h)
    have g2 := all_grows he hpb2 hnaX hnaY (fun g h => filter_ahead g h)
    have hm1 : (X ++ [x]).map LC.cl = X.map LC.cl ++ [c] := by simp [hxc]
    have hm2 : (x :: X).map LC.cl = c :: X.map LC.cl := by simp [hxc]
    have hwd1 : ClsWide ((X ++ [x]).map LC.cl) := by
      rw [hm1]; intro z hz
      rcases List.mem_append.1 hz with h | h
      · exact hpw z h
      · exact hcw z h
    have hwd2 : ClsWide ((x :: X).map LC.cl) := by
      rw [hm2]; intro z hz
      rcases List.mem_cons.1 hz with h | h
      · exact hcw z (by rw [h]; simp)
      · exact hpw z h
    have hRd1 : ∀ z ∈ X ++ [x], Und F2 (LCRd z) := fun z hz => by
      rcases List.mem_append.1 hz with h | h
      · exact hX2.imp fun w' g => g.2.2 z h
      · rw [List.mem_singleton.1 h]; exact hx2
    refine goes_seq ?_
    refine goes_region ?_
    first
      | refine lst_run (run_lss_yes rfl rfl (by omega)) rfl ?_
      | refine lst_run (run_lss_no rfl rfl (by omega)) rfl ?_
      | refine lst_run (rfl) rfl ?_
    refine lst_done ?_
    refine goes_seq ?_
    refine goes_false rfl ?_
    refine goes_exit rfl ?_
    refine goes_seq ?_
    refine goes_meet2 17 18 (82 :: 83 :: 84 :: 85 :: 86 :: 87 :: 88 :: 89 :: 90 :: 81 :: 91 :: 92 :: []) (fun v u w' => ∃ (A : Option Addr) (d : Nat) (K : List KE) (F' : List (World → Prop)), v = .slice A K.length d ∧ u = .int .i64 (allM ((X ++ [x]).map LC.cl) Y.ts vars fuel).2 ∧ K.map KE.ev = (allM ((X ++ [x]).map LC.cl) Y.ts vars fuel).1 ∧ (∀ φ ∈ F2, φ ∈ F') ∧ Und F' (KER K A d) ∧ St [] w [(b1, cob x)] F' w') ?_ ?_
    · intro hmeet
      refine goes_plan (St _ _ _ _) 14 (.read 0 (.read 2 (.read 5 (.read 6 (.read 7 (.pick 1 (.pick 3 (.pick 4 (.pick 8 (.read 9 (.read 10 (.read 11 (.read 12 (.read 13 .tail))))) .none) .none) .none) (.pick 3 (.pick 1 (.pick 4 (.pick 8 (.read 9 (.read 10 (.read 11 (.read 12 (.read 13 .tail))))) .none) .none) .none) .none))))))) (by kernel_rfl) (by kernel_rfl) hS.drew ?_
      replace hS := hS.drew
      refine pln_read rfl (fun _ hS => run_move (by conv => lhs; whnf)) rfl ?_
      first
        | refine pln_read rfl (fun _ hS => run_loadN_own (k := 6) hS rfl rfl rfl (by first | exact .head | exact .tail .head | exact .tail (.tail .head) | exact .tail (.tail (.tail .head)) | exact .tail (.tail (.tail (.tail .head))) | exact .tail (.tail (.tail (.tail (.tail .head))))) (by repeat constructor)) rfl ?_
        | refine pln_read rfl (fun _ hS => run_load6 rfl rfl rfl (by first | assumption | exact (hcd _ hS).1 | exact (hcd _ hS).2.1 | exact (hcd _ hS).2.2.1 | exact (hcd _ hS).2.2.2 | exact hS.cell0 (by assumption)) (by first | assumption | exact (hcd _ hS).1 | exact (hcd _ hS).2.1 | exact (hcd _ hS).2.2.1 | exact (hcd _ hS).2.2.2 | exact hS.cell0 (by assumption)) (by first | assumption | exact (hcd _ hS).1 | exact (hcd _ hS).2.1 | exact (hcd _ hS).2.2.1 | exact (hcd _ hS).2.2.2 | exact hS.cell0 (by assumption)) (by first | assumption | exact (hcd _ hS).1 | exact (hcd _ hS).2.1 | exact (hcd _ hS).2.2.1 | exact (hcd _ hS).2.2.2 | exact hS.cell0 (by assumption)) (by first | assumption | exact (hcd _ hS).1 | exact (hcd _ hS).2.1 | exact (hcd _ hS).2.2.1 | exact (hcd _ hS).2.2.2 | exact hS.cell0 (by assumption)) (by first | assumption | exact (hcd _ hS).1 | exact (hcd _ hS).2.1 | exact (hcd _ hS).2.2.1 | exact (hcd _ hS).2.2.2 | exact hS.cell0 (by assumption))) rfl ?_
      refine pln_read rfl (fun _ hS => run_move (by conv => lhs; whnf)) rfl ?_
      refine pln_read rfl (fun _ hS => run_move (by conv => lhs; whnf)) rfl ?_
      refine pln_read rfl (fun _ hS => run_move (by conv => lhs; whnf)) rfl ?_
      refine pln_pick rfl ?_ ?_
      · refine lst_appCls (bts := 88) hS (by conv => lhs; whnf) rfl rfl rfl rfl hX2 Row.nil_ (.refl _) (by omega) (by omega) rfl ?_
        clear hS
        intro v1 O1 w8 hrow1 hS
        rw [Nat.zero_add, List.nil_append] at hrow1
        obtain ⟨A1', c1', rfl⟩ := hrow1.form
        refine lst_pln (by first | exact hS | exact hS.drop | exact hS.drop.drop | exact hS.drop.drop.drop | exact hS.unlearn | exact hS.unlearn.drop | exact hS.unlearn.drop.drop | exact hS.dropL | exact hS.drop.dropL | exact hS.dropL.drop | exact hS.forget hF3 | exact hS.forget fun φ h => hF8 φ (hF3 φ h)) ?_
        refine pln_last rfl ?_
        refine lst_buildSlice (cells := [_, _, _, _, _, _]) hS (.cons (by conv => lhs; whnf) .nil) rfl rfl ?_
        clear hS
        intro b3 wx3 hS
        refine lst_pln (by first | exact hS | exact hS.drop | exact hS.drop.drop | exact hS.drop.drop.drop | exact hS.unlearn | exact hS.unlearn.drop | exact hS.unlearn.drop.drop | exact hS.dropL | exact hS.drop.dropL | exact hS.dropL.drop | exact hS.forget hF3 | exact hS.forget fun φ h => hF8 φ (hF3 φ h)) ?_
        refine pln_last rfl ?_
        refine lst_app (sz := 6) (bts := 88) (ys := lcs x) hS (by conv => lhs; whnf) rfl rfl rfl rfl hrow1 rfl rfl (by first | exact .refl _ | exact List.perm_middle) (by omega) (by omega) rfl ?_
        clear hS
        intro v2 O2 w9 hrow2 hS
        rw [show X.length + 1 = (X ++ [x]).length by simp, show lcsL X ++ lcs x = lcsL (X ++ [x]) by rw [lcsL_app]; rfl] at hrow2
        obtain ⟨A2, c2, rfl⟩ := hrow2.form
        obtain ⟨F3, hF3, hC3, hS'⟩ := St.freezeC hrow2 hRd1 hS
        replace hS := hS'
        clear hS'
        refine lst_pln (by first | exact hS | exact hS.drop | exact hS.drop.drop | exact hS.drop.drop.drop | exact hS.unlearn | exact hS.unlearn.drop | exact hS.unlearn.drop.drop | exact hS.dropL | exact hS.drop.dropL | exact hS.dropL.drop | exact hS.forget hF3 | exact hS.forget fun φ h => hF8 φ (hF3 φ h)) ?_
        refine pln_last rfl ?_
        refine lst_enter (run_call (by kernel_rfl) (args_4 (by conv => lhs; whnf) (by conv => lhs; whnf) (by conv => lhs; whnf) (by conv => lhs; whnf))) rfl ?_
        refine Calls.mono (allW_any (X ++ [x]) _ _ Y qA qc vars fuel _ hC3 (hY2.mono hF3) (by simp; omega) hwd1 hYl hqw hS) ?_
        rintro _ w10 ⟨A8, c8, L8, F8, rfl, hL8, hF8, hK8, hS'⟩
        refine ⟨_, rfl, ?_⟩
        replace hS := hS'
        clear hS'
        refine lst_pln (by first | exact hS | exact hS.drop | exact hS.drop.drop | exact hS.drop.drop.drop | exact hS.unlearn | exact hS.unlearn.drop | exact hS.unlearn.drop.drop | exact hS.dropL | exact hS.drop.dropL | exact hS.dropL.drop | exact hS.forget hF3 | exact hS.forget fun φ h => hF8 φ (hF3 φ h)) ?_
        refine pln_read rfl (fun _ hS => run_move (by conv => lhs; whnf)) rfl ?_
        refine pln_read rfl (fun _ hS => run_extract rfl rfl) rfl ?_
        refine pln_read rfl (fun _ hS => run_extract rfl rfl) rfl ?_
        refine pln_read rfl (fun _ hS => run_assign (by conv => lhs; whnf)) rfl ?_
        refine pln_read rfl (fun _ hS => run_assign (by conv => lhs; whnf)) rfl ?_
        refine pln_tail ?_
        refine lst_done ?_
        exact hmeet _ _ _ _ ⟨A8, c8, L8, F8, rfl, rfl, hL8, fun φ h => hF8 φ (hF3 φ h), hK8, hS⟩ (by conv => lhs; whnf) (by conv => lhs; whnf) (by kernel_rfl)
      refine pln_last rfl ?_
      refine lst_buildSlice (cells := [_, _, _, _, _, _]) hS (.cons (by conv => lhs; whnf) .nil) rfl rfl ?_
      clear hS
      intro b4 wx4 hS
      refine lst_pln (by first | exact hS | exact hS.drop | exact hS.drop.drop | exact hS.drop.drop.drop | exact hS.unlearn | exact hS.unlearn.drop | exact hS.unlearn.drop.drop | exact hS.dropL | exact hS.drop.dropL | exact hS.dropL.drop | exact hS.forget hF3 | exact hS.forget fun φ h => hF8 φ (hF3 φ h)) ?_
      refine pln_last rfl ?_
      refine lst_appCls (bts := 88) hS (by conv => lhs; whnf) rfl rfl rfl rfl hX2 Row.nil_ (.refl _) (by omega) (by omega) rfl ?_
      clear hS
      intro v1 O1 w8 hrow1 hS
      rw [Nat.zero_add, List.nil_append] at hrow1
      obtain ⟨A1', c1', rfl⟩ := hrow1.form
      refine lst_pln (by first | exact hS | exact hS.drop | exact hS.drop.drop | exact hS.drop.drop.drop | exact hS.unlearn | exact hS.unlearn.drop | exact hS.unlearn.drop.drop | exact hS.dropL | exact hS.drop.dropL | exact hS.dropL.drop | exact hS.forget hF3 | exact hS.forget fun φ h => hF8 φ (hF3 φ h)) ?_
      refine pln_last rfl ?_
      refine lst_app (sz := 6) (bts := 88) (ys := lcs x) hS (by conv => lhs; whnf) rfl rfl rfl rfl hrow1 rfl rfl (by first | exact .refl _ | exact List.perm_middle) (by omega) (by omega) rfl ?_
      clear hS
      intro v2 O2 w9 hrow2 hS
      rw [show X.length + 1 = (X ++ [x]).length by simp, show lcsL X ++ lcs x = lcsL (X ++ [x]) by rw [lcsL_app]; rfl] at hrow2
      obtain ⟨A2, c2, rfl⟩ := hrow2.form
      obtain ⟨F3, hF3, hC3, hS'⟩ := St.freezeC hrow2 hRd1 hS
      replace hS := hS'
      clear hS'
      refine lst_pln (by first | exact hS | exact hS.drop | exact hS.drop.drop | exact hS.drop.drop.drop | exact hS.unlearn | exact hS.unlearn.drop | exact hS.unlearn.drop.drop | exact hS.dropL | exact hS.drop.dropL | exact hS.dropL.drop | exact hS.forget hF3 | exact hS.forget fun φ h => hF8 φ (hF3 φ h)) ?_
      refine pln_last rfl ?_
      refine lst_enter (run_call (by kernel_rfl) (args_4 (by conv => lhs; whnf) (by conv => lhs; whnf) (by conv => lhs; whnf) (by conv => lhs; whnf))) rfl ?_
      refine Calls.mono (allW_any (X ++ [x]) _ _ Y qA qc vars fuel _ hC3 (hY2.mono hF3) (by simp; omega) hwd1 hYl hqw hS) ?_
      rintro _ w10 ⟨A8, c8, L8, F8, rfl, hL8, hF8, hK8, hS'⟩
      refine ⟨_, rfl, ?_⟩
      replace hS := hS'
      clear hS'
      refine lst_pln (by first | exact hS | exact hS.drop | exact hS.drop.drop | exact hS.drop.drop.drop | exact hS.unlearn | exact hS.unlearn.drop | exact hS.unlearn.drop.drop | exact hS.dropL | exact hS.drop.dropL | exact hS.dropL.drop | exact hS.forget hF3 | exact hS.forget fun φ h => hF8 φ (hF3 φ h)) ?_
      refine pln_read rfl (fun _ hS => run_move (by conv => lhs; whnf)) rfl ?_
      refine pln_read rfl (fun _ hS => run_extract rfl rfl) rfl ?_
      refine pln_read rfl (fun _ hS => run_extract rfl rfl) rfl ?_
      refine pln_read rfl (fun _ hS => run_assign (by conv => lhs; whnf)) rfl ?_
      refine pln_read rfl (fun _ hS => run_assign (by conv => lhs; whnf)) rfl ?_
      refine pln_tail ?_
      refine lst_done ?_
      exact hmeet _ _ _ _ ⟨A8, c8, L8, F8, rfl, rfl, hL8, fun φ h => hF8 φ (hF3 φ h), hK8, hS⟩ (by conv => lhs; whnf) (by conv => lhs; whnf) (by kernel_rfl)
    clear hS
    rintro jw _ _ w8 ⟨A8, c8, L8, F8, rfl, rfl, hL8, hF8, hK8, hS⟩
    rw [hm1, g1] at hL8 ⊢
    have hX8 := hX2.mono hF8
    have hY8 := hY2.mono hF8
    have hx8 := hx2.mono hF8
    have hK28 := hK2.mono hF8
    refine goes_seq ?_
    refine goes_region ?_
    first
      | refine lst_run (run_loadN_own (k := 6) hS rfl rfl rfl (by first | exact .head | exact .tail .head | exact .tail (.tail .head) | exact .tail (.tail (.tail .head)) | exact .tail (.tail (.tail (.tail .head))) | exact .tail (.tail (.tail (.tail (.tail .head))))) (by repeat constructor)) rfl ?_
      | refine lst_run (run_load6 rfl rfl rfl (by first | assumption | exact hS.cell0 (by assumption)) (by first | assumption | exact hS.cell0 (by assumption)) (by first | assumption | exact hS.cell0 (by assumption)) (by first | assumption | exact hS.cell0 (by assumption)) (by first | assumption | exact hS.cell0 (by assumption)) (by first | assumption | exact hS.cell0 (by assumption))) rfl ?_
    refine lst_buildSlice (cells := [_, _, _, _, _, _]) hS (.cons (by conv => lhs; whnf) .nil) rfl rfl ?_
    clear hS
    intro b5 wx5 hS
    refine lst_run (run_move (by conv => lhs; whnf)) rfl ?_
    refine lst_appCls (bts := 88) hS (by conv => lhs; whnf) rfl rfl rfl rfl hX8 (Row.built (len := 1) (xs := lcs x) rfl (by omega)) (.refl _) (by omega) (by omega) rfl ?_
    clear hS
    intro v9 O9 w9 hrow9 hS
    rw [show 1 + X.length = (x :: X).length by simp; omega, show lcs x ++ lcsL X = lcsL (x :: X) from rfl] at hrow9
    obtain ⟨A9, c9, rfl⟩ := hrow9.form
    obtain ⟨F9, hF9, hC9, hS'⟩ := St.freezeC hrow9 (fun z hz => by
      rcases List.mem_cons.1 hz with h | h
      · rw [h]; exact hx8
      · exact hX8.imp fun w' g => g.2.2 z h) hS
    replace hS := hS'
    clear hS'
    refine lst_run (run_move (by conv => lhs; whnf)) rfl ?_
    refine lst_run (run_move (by conv => lhs; whnf)) rfl ?_
    refine lst_run (run_move (by conv => lhs; whnf)) rfl ?_
    refine lst_enter (run_call (by kernel_rfl) (args_4 (by conv => lhs; whnf) (by conv => lhs; whnf) (by conv => lhs; whnf) (by conv => lhs; whnf))) rfl ?_
    refine Calls.mono (allW_any (x :: X) _ _ Y qA qc vars fuel _ hC9 (hY8.mono hF9) (by simp; omega) hwd2 hYl hqw hS) ?_
    rintro _ w10 ⟨A10, c10, L10, F10, rfl, hL10, hF10, hK10, hS'⟩
    refine ⟨_, rfl, ?_⟩
    replace hS := hS'
    clear hS'
    rw [hm2, g2] at hL10 ⊢
    rw [he]
    have k1 : Und F10 (KER L1 A1 c1) := (hK28.mono hF9).mono hF10
    have k8 : Und F10 (KER L8 A8 c8) := (hK8.mono hF9).mono hF10
    refine lst_run (run_move (by conv => lhs; whnf)) rfl ?_
    refine lst_run (run_extract rfl rfl) rfl ?_
    refine lst_run (run_extract rfl rfl) rfl ?_
    refine lst_run (run_assign (by conv => lhs; whnf)) rfl ?_
    refine lst_run (run_assign (by conv => lhs; whnf)) rfl ?_
    refine lst_done ?_
    refine goes_seq ?_
    refine goes_region ?_
    refine lst_run (run_move (by conv => lhs; whnf)) rfl ?_
    first
      | refine lst_run (run_eql_one_int rfl rfl) rfl ?_
      | refine lst_run (run_eql_no rfl rfl (by first | assumption | omega)) rfl ?_
      | refine lst_run (run_eql_yes rfl rfl (by omega)) rfl ?_
      | refine lst_run (rfl) rfl ?_
    refine lst_run (run_move (by conv => lhs; whnf)) rfl ?_
    refine lst_guard rfl rfl ?_
    refine lst_run (run_move (by conv => lhs; whnf)) rfl ?_
    refine lst_guard rfl rfl ?_
    first
      | refine lst_run (run_eql_one_int rfl rfl) rfl ?_
      | refine lst_run (run_eql_no rfl rfl (by first | assumption | omega)) rfl ?_
      | refine lst_run (run_eql_yes rfl rfl (by omega)) rfl ?_
      | refine lst_run (rfl) rfl ?_
    first
      | refine lst_run (run_pick_t rfl (by conv => lhs; whnf)) rfl ?_
      | refine lst_run (run_pick_f rfl (by conv => lhs; whnf)) rfl ?_
    refine lst_run (run_move (by conv => lhs; whnf)) rfl ?_
    refine lst_guard rfl rfl ?_
    refine lst_run (run_move (by conv => lhs; whnf)) rfl ?_
    refine lst_guard rfl rfl ?_
    refine lst_run (run_move (by conv => lhs; whnf)) rfl ?_
    refine lst_guard rfl rfl ?_
    refine lst_enter (run_call (by kernel_rfl) (args_2 (by conv => lhs; whnf) (by conv => lhs; whnf))) rfl ?_
    refine Calls.mono (sameEvents_any L1 L8 _ _ _ _ _ (hS.und k1) (hS.und k8) (by rw [hL1, hL8]) hn1 (by omega)) ?_
    rintro _ w11 ⟨rfl, hb11⟩
    refine ⟨_, rfl, ?_⟩
    replace hS := hS.grow hb11
    first
      | refine lst_run (run_pick_t rfl (by conv => lhs; whnf)) rfl ?_
      | refine lst_run (run_pick_f rfl (by conv => lhs; whnf)) rfl ?_
    refine lst_run (run_move (by conv => lhs; whnf)) rfl ?_
    refine lst_guard rfl rfl ?_
    refine lst_run (run_move (by conv => lhs; whnf)) rfl ?_
    refine lst_guard rfl rfl ?_
    refine lst_run (run_move (by conv => lhs; whnf)) rfl ?_
    refine lst_guard rfl rfl ?_
    refine lst_enter (run_call (by kernel_rfl) (args_2 (by conv => lhs; whnf) (by conv => lhs; whnf))) rfl ?_
    refine Calls.mono (sameEvents_any L1 L10 _ _ _ _ _ (hS.und k1) (hS.und hK10) (by rw [hL1, hL10]) hn1 (by omega)) ?_
    rintro _ w12 ⟨rfl, hb12⟩
    refine ⟨_, rfl, ?_⟩
    replace hS := hS.grow hb12
    first
      | refine lst_run (run_pick_t rfl (by conv => lhs; whnf)) rfl ?_
      | refine lst_run (run_pick_f rfl (by conv => lhs; whnf)) rfl ?_
    refine lst_run (run_assign (by conv => lhs; whnf)) rfl ?_
    refine lst_done ?_
    refine goes_ret1 Try.func7 rfl (by conv => lhs; whnf) ?_
    exact ⟨rfl, hS.ext.below⟩
end Go.Proofs.Ytdiophafmokfiaa
namespace Go.Proofs.Ytdiophafmokfiaa
open Go.RowKit Go.ChangeShapes Go.WideShapes Go.ChangeAt
set_option maxRecDepth 100000

theorem Try.laidOut : laidOutB Try.prog = true := by kernel_rfl
theorem Try.own : ownKnob Try.prog.godebug = none := by kernel_rfl
theorem cells_term : Try.prog.cellsOf 24 = 4 := by kernel_rfl
theorem cells_int : Try.prog.cellsOf 3 = 1 := by kernel_rfl
theorem cells_string : Try.prog.cellsOf 9 = 1 := by kernel_rfl
theorem cells_terms : Try.prog.cellsOf 22 = 1 := by kernel_rfl

section
variable {H : Type} {enc : TypeId × Value → H} {w : World} {base : Nat} {spare : Nat → Bool} {held : Bool}

theorem bulk_pos (d : DataW H) : 1 ≤ Rows.uptoBulk d := by
  cases d with
  | lit l => cases l <;> simp [Rows.uptoBulk]
  | nil => simp [Rows.uptoBulk]
  | ptr d => simp [Rows.uptoBulk]
  | slice elems spare => simp [Rows.uptoBulk]
  | agg parts => simp [Rows.uptoBulk]
  | iface t d => simp [Rows.uptoBulk]
  | map entries => simp [Rows.uptoBulk]
  | held h => simp [Rows.uptoBulk]
theorem bulk_mem {l : List (DataW H)} : ∀ {i : Nat} {d : DataW H}, l[i]? = some d → Rows.uptoBulk d ≤ Rows.uptoBulkAll l := by
  induction l with
  | nil => intro i d h; simp at h
  | cons x r ih =>
    intro i d h
    cases i with
    | zero => simp at h; subst h; simp [Rows.uptoBulkAll]
    | succ i =>
      have := ih (i := i) (d := d) (by simpa using h)
      simp only [Rows.uptoBulkAll]; omega

/-- The cells of one term, read. -/
theorem open_cells {fuel : Nat} {cs : List Value} {x : DataW H × List MemPlace} (h : DataW.trod enc Try.prog w base spare held fuel 24 cs = some x) :
    ∃ (k n : Int) (s : ByteArray) (v : Value) (y : DataW H × List MemPlace) (m : Nat), cs = [.int .i64 k, .int .i64 n, .string s, v] ∧ DataW.trod enc Try.prog w base spare held m 22 [v] = some y ∧
      Rows.uptoBulk y.1 + 1 ≤ Rows.uptoBulk x.1 ∧ (Lit.int .i64 k).wf = true ∧ (Lit.int .i64 n).wf = true ∧ s.size ≤ maxLen ∧ s.size ≤ Rows.uptoBulk x.1 := by
  obtain ⟨xs, m, _, hx, hlen, hxl, hf⟩ := DataW.trod_struct Try.underlying24 h
  rw [cells_term] at hlen
  have f0 : DataW.trod enc Try.prog w base spare held m 3 ((cs.drop 0).take (Try.prog.cellsOf 3)) = xs[0]? := hf 0 _ rfl
  have f1 : DataW.trod enc Try.prog w base spare held m 3 ((cs.drop 1).take (Try.prog.cellsOf 3)) = xs[1]? := hf 1 _ rfl
  have f2 : DataW.trod enc Try.prog w base spare held m 9 ((cs.drop 2).take (Try.prog.cellsOf 9)) = xs[2]? := hf 2 _ rfl
  have f3 : DataW.trod enc Try.prog w base spare held m 22 ((cs.drop 3).take (Try.prog.cellsOf 22)) = xs[3]? := hf 3 _ rfl
  rw [cells_int] at f0 f1
  rw [cells_string] at f2
  rw [cells_terms] at f3
  match cs, hlen, xs, hxl, hx with
  | [c0, c1, c2, c3], _, [y0, y1, y2, y3], _, hx =>
    simp only [List.drop_zero, List.drop_succ_cons, List.take_succ_cons, List.take_zero, List.getElem?_cons_zero, List.getElem?_cons_succ] at f0 f1 f2 f3
    obtain ⟨k, e0, r0, w0⟩ := DataW.trod_int Try.underlying3 f0
    obtain ⟨n, e1, r1, w1⟩ := DataW.trod_int Try.underlying3 f1
    obtain ⟨s, e2, r2, w2⟩ := DataW.trod_string Try.underlying9 f2
    simp only [List.cons.injEq, and_true] at e0 e1 e2
    subst e0 e1 e2 hx r0 r1 r2
    have h3 := bulk_pos y3.1
    have hsz : s.data.toList.length = s.size := by rw [Array.length_toList]; rfl
    refine ⟨k, n, s, c3, y3, m, rfl, f3, ?_, w0, w1, w2, ?_⟩
    · simp only [List.map_cons, List.map_nil, Rows.uptoBulk, Rows.uptoBulkAll]; omega
    · simp only [List.map_cons, List.map_nil, Rows.uptoBulk, Rows.uptoBulkAll]; omega

theorem addr_add {a : Addr} {i : Nat} {u : Value} (h : w.cell? (a.add i) = some u) (ha : a.spot = none) : w.cell? ⟨a.block, a.off + i, none⟩ = some u := by
  unfold Addr.add at h
  split at h
  · rename_i e
    subst e
    obtain ⟨b, o, sp⟩ := a
    simp only at ha
    subst ha
    simpa using h
  · exact h

/-- A slice of terms, read: it is a list of terms, of no more nodes than what was read holds. -/
theorem open_terms : ∀ (b fuel : Nat) (v : Value) (x : DataW H × List MemPlace), Rows.uptoBulk x.1 ≤ b → DataW.trod enc Try.prog w base spare held fuel 22 [v] = some x →
    ∃ T : Ts, Sl w (fun _ => True) v T ∧ T.nodes < Rows.uptoBulk x.1 := by
  intro b
  induction b with
  | zero => intro fuel v x hb _; have := bulk_pos x.1; omega
  | succ b ih =>
    intro fuel v x hb h
    rcases Deep.open_slice Try.underlying22 h with ⟨e, rfl⟩ | ⟨a, len, cap, m, n, D, Pl, e, _, hl, _, hm, rfl, hi⟩
    · simp only [List.cons.injEq, and_true] at e
      subst e
      exact ⟨.nil, Sl.nil _ _, by simp [Rows.uptoBulk, Ts.nodes]⟩
    · simp only [List.cons.injEq, and_true] at e
      subst e
      rw [cells_term] at hi
      have hml : len ≤ m := by rw [hm]; split <;> omega
      have hbulk : ∀ j, j < len → Rows.uptoBulk (D j) ≤ Rows.uptoBulkAll ((List.range len).map D) := fun j hj => bulk_mem (i := j) (by simp [hj])
      simp only [Rows.uptoBulk] at hb ⊢
      have hspot : 0 < len → a.spot = none := fun hp => by
        obtain ⟨cs, hc, ht⟩ := hi 0 (by omega)
        obtain ⟨k, n', s, v', y, m', rfl, _⟩ := open_cells ht
        obtain ⟨_, _, hat⟩ := World.cells?_some hc
        have h0 := hat 0 (by omega)
        simp only [Nat.zero_mul, Addr.add, if_true, List.getElem?_cons_zero] at h0
        unfold World.cell? at h0
        split at h0
        · split at h0
          · cases h0
          · rename_i hs; simpa using hs
        · cases h0
      have key : ∀ r j, j + r = len → ∃ T : Ts, T.length = r ∧ Seg w (fun _ => True) T a.block (a.off + j * 4) ∧ T.nodes ≤ Rows.uptoBulkAll ((List.range' j r).map D) := by
        intro r
        induction r with
        | zero => intro j _; exact ⟨.nil, rfl, trivial, Nat.zero_le _⟩
        | succ r ihr =>
          intro j hj
          obtain ⟨T, hT1, hT2, hT3⟩ := ihr (j + 1) (by omega)
          obtain ⟨cs, hc, ht⟩ := hi j (by omega)
          obtain ⟨k, n', s, v', y, m', rfl, hy, hyb, _⟩ := open_cells ht
          obtain ⟨_, _, hat⟩ := World.cells?_some hc
          have hbj := hbulk j (by omega)
          simp only at hyb
          obtain ⟨U, hU1, hU2⟩ := ih m' v' y (by omega) hy
          have hsp := hspot (by omega)
          have hcell : ∀ q u, q < 4 → [Value.int .i64 k, .int .i64 n', .string s, v'][q]? = some u → w.cell? ⟨a.block, a.off + j * 4 + q, none⟩ = some u := fun q u hq hu => by
            have h1 := (hat q hq).trans hu
            rw [Deep.add_add] at h1
            have h2 := addr_add h1 hsp
            rwa [← Nat.add_assoc] at h2
          refine ⟨.cons k n' s U T, by simp [Ts.length, hT1], ?_, ?_⟩
          · refine seg_cons.2 ⟨trivial, by simpa using hcell 0 _ (by omega) rfl, hcell 1 _ (by omega) rfl, hcell 2 _ (by omega) rfl, ⟨v', hcell 3 _ (by omega) rfl, hU1⟩, ?_⟩
            rw [show a.off + j * 4 + 4 = a.off + (j + 1) * 4 by omega]
            exact hT2
          · simp only [List.range'_succ, List.map_cons, Rows.uptoBulkAll, Ts.nodes]
            omega
      obtain ⟨T, h1, h2, h3⟩ := key len 0 (by omega)
      refine ⟨T, ⟨some a, cap, by rw [h1], by omega, fun hp => ⟨a.block, a.off, ?_, by simpa using h2⟩⟩, ?_⟩
      · have := hspot (by omega)
        obtain ⟨b', o', sp⟩ := a
        simp only at this
        rw [this]
      · rw [← List.range_eq_range'] at h3
        omega
end

/-- One term as an argument. -/
theorem open_term {H : Type} {enc : TypeId × Value → H} {W : World} {base0 : Nat} {v : Value} {d : DataW H} {p : List MemPlace} (hv : Value.okWide Try.prog W .any base0 24 v) (h : DataW.Trod enc Try.prog W 0 (fun _ => true) true 24 v d p) :
    ∃ (k n : Int) (s : ByteArray) (u : Value) (T : Ts), v = .agg #[.int .i64 k, .int .i64 n, .string s, u] ∧ Sl W (fun _ => True) u T ∧ T.nodes + 1 < Rows.uptoBulk d ∧ (Lit.int .i64 k).wf = true ∧ (Lit.int .i64 n).wf = true ∧ s.size ≤ maxLen := by
  obtain ⟨cs, rfl, hsz⟩ := okWide_struct Try.underlying24 hv
  obtain ⟨fuel, hf⟩ := h
  obtain ⟨k, n, s, u, y, m, e, hy, hb, w0, w1, w2, _⟩ := open_cells hf
  obtain ⟨T, h1, h2⟩ := open_terms _ m u y (Nat.le_refl _) hy
  refine ⟨k, n, s, u, T, ?_, h1, by simp only at hb; omega, w0, w1, w2⟩
  have e' : cs.toList = [.int .i64 k, .int .i64 n, .string s, u] := e
  rw [← e']
/-- A slice of terms as an argument. -/
theorem open_termsArg {H : Type} {enc : TypeId × Value → H} {W : World} {v : Value} {d : DataW H} {p : List MemPlace} (hv : v.cells.toList = [v]) (h : DataW.Trod enc Try.prog W 0 (fun _ => true) true 22 v d p) :
    ∃ T : Ts, Sl W (fun _ => True) v T ∧ T.nodes < Rows.uptoBulk d := by
  obtain ⟨fuel, hf⟩ := h
  rw [hv] at hf
  exact open_terms _ fuel v _ (Nat.le_refl _) hf

theorem trodAll_below {H : Type} {enc : TypeId × Value → H} {P : Program} (hl : laidOutB P = true) {W W' : World} (hb : Below W.heap.size W W') : ∀ {ts : List TypeId} {vs : List Value} {ds : List (DataW H)} {ps : List MemPlace}, (∀ t ∈ ts, P.readableRec t = true ∧ t < P.types.size) →
    DataW.TrodAll enc P W 0 (fun _ => true) true ts vs ds ps → (∀ x ∈ ps, x.block < W.heap.size) → DataW.TrodAll enc P W' 0 (fun b => decide (b < W.heap.size)) true ts vs ds ps
  | [], [], [], _, _, h, _ => h
  | [], [], _ :: _, _, _, h, _ => h.elim
  | [], _ :: _, _, _, _, h, _ => h.elim
  | _ :: _, [], _, _, _, h, _ => h.elim
  | _ :: _, _ :: _, [], _, _, h, _ => h.elim
  | t :: ts, v :: vs, d :: ds, ps, ht, ⟨p, q, h1, h2, e⟩, hlt => by
    subst e
    obtain ⟨a, b⟩ := ht t (List.mem_cons_self ..)
    exact ⟨p, q, Below.trod hl a b h1 hb fun x hx => hlt x (List.mem_append_left _ hx), trodAll_below hl hb (fun t ht' => ht t (List.mem_cons_of_mem _ ht')) h2 fun x hx => hlt x (List.mem_append_right _ hx), rfl⟩

/-- Behind a law's walk: it answered true, and of what was there nothing has turned. -/
theorem law_post {H : Type} {enc : TypeId × Value → H} {P : Program} {f : Func} {s : ChangeSpec} {W W' : World} {args : Array Value} {ds gs : List (DataW H)} {before : List MemPlace} (hl : laidOutB P = true) {bt : TypeId}
    (hres : f.resultTypes = #[bt]) (hbt : P.underlying bt = some .bool) (ht : (f.params.toList.all fun t => P.readableRec t && decide (t < P.types.size)) = true) (hvars : s.vars = [])
    (hfn : (s.fn H (ds ++ gs)).results = [.lit (.bool true)] ∧ (s.fn H (ds ++ gs)).args = ds ∧ (s.fn H (ds ++ gs)).vars = [])
    (hW : DataW.Whole enc P f.params.toList s.vars false W args.toList ds gs before) (hb : Below W.heap.size W W') :
    s.post enc P f false true false false W args (.bool true) W' := by
  have hlt := hW.lt
  have hW' := hW
  obtain ⟨p, q, hA, hV, rfl, hfz, hnd⟩ := hW
  refine ⟨ds, gs, p ++ q, [], p, [], hW', ?_, ?_, ?_, ?_, fun h => by cases h⟩
  · rw [hfn.1, hres]
    exact trodAll_cons_mk (shut_bool hbt _) trodAll_mk0
  · rw [hfn.2.1]
    exact trodAll_below hl hb (fun t h => by have := List.all_eq_true.1 ht t h; simpa using this) hA fun x hx => hlt x (List.mem_append_left _ hx)
  · rw [hfn.2.2, hvars]
    rfl
  · exact hb.frame _
end Go.Proofs.Ytdiophafmokfiaa
