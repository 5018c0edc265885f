/- RefS15, PSim5, PSim6, Alike, SameR, SEv, SEnds, SolvesL, LSAll: texts that follow one another, laid into one file. -/
import Derived.Test.YtehhgmeaggempaaDoorG17
import Derived.Test.YtehhgmeaggempaaDoorG18
import Derived.Test.YtehhgmeaggempaaDoorG10
import Derived.Test.YtehhgmeaggempaaDoorG1
import Derived.Test.YtehhgmeaggempaaDoorRows
import Derived.Deep.LoopGhost
import Derived.StillTailTactics
namespace Go.Proofs.YtehhgmeaggempaaDoor
open Go.RowKit
set_option linter.unusedVariables false
set_option linter.unusedSimpArgs false
set_option maxRecDepth 100000
set_option maxHeartbeats 1000000
def OE.ke (x : OE) : KE := ⟨x.k, x.A, x.c, x.T⟩
theorem oeL_ke : ∀ L : List OE, oeL L = keL (L.map OE.ke)
 | [] => rfl
 | x :: r => by simp only [oeL, List.map_cons, keL, oeL_ke r]; rfl
theorem shift_zeroL {v : Int} (hv : v ≤ 8) : ∀ T : Ts, T.good v = true → T.shift 0 = T
 | .nil, _ => rfl
 | .cons k n s ar r, h => by
  simp only [Ts.good, Bool.and_eq_true] at h
  rw [Ts.shift_cons, shift_zeroL hv ar h.1.2, shift_zeroL hv r h.2]
  have : shiftN k n 0 = n := by
   unfold shiftN
   split
   ·rename_i hk
    have hn := h.1.1
    unfold nodeB at hn
    rw [if_pos hk] at hn
    simp only [Bool.and_eq_true, decide_eq_true_eq] at hn
    rw [low_of hn.1.1.1 (by omega), low_of (n := 0) (by omega) (by omega)]; omega
   ·rfl
  rw [this]
theorem shift_zero {v : Int} (hv : v ≤ 8) {k n : Int} {s : ByteArray} {T : Ts} (h : (Ts.cons k n s T .nil).good v = true) : Tm.shift ⟨k, n, s, T⟩ 0 = ⟨k, n, s, T⟩ := by
 have := shift_zeroL hv _ h
 rw [Ts.shift_cons] at this
 injection this with h1 h2 h3 h4
 unfold Tm.shift
 dsimp only
 rw [h2, h4]
section
variable {M : List Nat} {w0 : World} {H : List (Nat × Obj)} {F : List (World → Prop)}
theorem solved_any (X : List LC) (pA : Option Addr) (pc : Nat) (T : TA) (qA : Option Addr) (qc : Nat) (vars fuel : Int) (w : World) (hX : Und F (ClsR X pA pc)) (hT : Und F (ArA qA qc T)) (hn : nodesC (X.map LC.cl) ≤ 1048576) (hn2 : T.ts.nodes ≤ 1048576) (hS : St M w0 H F w) :
  Calls Tryd.prog 35 #[.slice pA X.length pc, .slice qA T.len qc, .int .i64 vars, .int .i64 fuel] w fun e w' => ∃ (A : Option Addr) (c : Nat) (L : List KE) (F' : List (World → Prop)), e = .returned (.tuple #[.slice A L.length c, .int .i64 (solvedM (X.map LC.cl) T.ts vars fuel).2]) ∧ L.map KE.ev = (solvedM (X.map LC.cl) T.ts vars fuel).1 ∧ (∀ φ ∈ F, φ ∈ F') ∧ Und F' (KER L A c) ∧ St M w0 H F' w' := by
 have hnil : ∀ w : World, KER [] none 0 w := fun w => ⟨Nat.le_refl _, fun h => by simp at h, fun x hx => by cases hx⟩
 have hgp := fun (w' : World) (hS : St M w0 H F w') => isProgram_any (X.map LC.cl) (.slice pA X.length pc) w' (hS.und hX).slC hn
 have hgq := fun (w' : World) (hS : St M w0 H F w') => isQuery_any vars T.ts (.slice qA T.len qc) w' (hS.und hT).sl hn2
 unfold solvedM
 refine goes_enter4 Tryd.func35 rfl Tryd.ntmps35 rfl ?_
 refine goes_seq ?_
 refine goes_region ?_
 refine lst_run (run_assign (by conv=>lhs;whnf)) rfl ?_
 refine lst_run (run_assign (by conv=>lhs;whnf)) rfl ?_
 refine lst_done ?_
 refine goes_seq ?_
 refine goes_seq ?_
 refine goes_region ?_
 refine lst_run (run_move (by conv=>lhs;whnf)) rfl ?_
 refine lst_enter (run_call (by kernel_rfl) (args_1 (by conv=>lhs;whnf))) rfl ?_
 refine Calls.mono (hgp _ hS) ?_
 rintro _ w3 ⟨rfl, hb3⟩
 refine ⟨_, rfl, ?_⟩
 replace hS := hS.grow hb3
 cases hpB : pB (X.map LC.cl) with
 | false =>
  rw [if_pos (.inl rfl)]
  refine lst_run (rfl) rfl ?_
  refine lst_run (run_move (by conv=>lhs;whnf)) rfl ?_
  refine lst_pass rfl rfl rfl ?_
  refine lst_pass rfl rfl rfl ?_
  refine lst_pass rfl rfl rfl ?_
  refine lst_pass rfl rfl rfl ?_
  refine lst_run (run_pick_t rfl (by conv=>lhs;whnf)) rfl ?_
  refine lst_done ?_
  refine goes_true rfl ?_
  refine goes_seq ?_
  refine goes_region ?_
  refine lst_run (run_assign (by conv=>lhs;whnf)) rfl ?_
  refine lst_run (run_assign (by conv=>lhs;whnf)) rfl ?_
  refine lst_done ?_
  refine goes_ret2 Tryd.func35 rfl (by conv=>lhs;whnf) (by conv=>lhs;whnf) ?_
  exact ⟨none, 0, [], F, rfl, rfl, fun _ h => h, fun w _ => hnil w, hS⟩
 | true =>
 refine lst_run (rfl) rfl ?_
 refine lst_run (run_move (by conv=>lhs;whnf)) rfl ?_
 refine lst_guard rfl rfl ?_
 refine lst_run (run_move (by conv=>lhs;whnf)) rfl ?_
 refine lst_guard rfl rfl ?_
 refine lst_run (run_move (by conv=>lhs;whnf)) rfl ?_
 refine lst_guard rfl rfl ?_
 refine lst_enter (run_call (by kernel_rfl) (args_2 (by conv=>lhs;whnf) (by conv=>lhs;whnf))) rfl ?_
 refine Calls.mono (hgq _ hS) ?_
 rintro _ w4 ⟨rfl, hb4⟩
 refine ⟨_, rfl, ?_⟩
 replace hS := hS.grow hb4
 cases hqB : qB vars T.ts with
 | false =>
  rw [if_pos (.inr rfl)]
  refine lst_guard rfl rfl ?_
  refine lst_run (rfl) rfl ?_
  refine lst_run (run_pick_f rfl (by conv=>lhs;whnf)) rfl ?_
  refine lst_done ?_
  refine goes_true rfl ?_
  refine goes_seq ?_
  refine goes_region ?_
  refine lst_run (run_assign (by conv=>lhs;whnf)) rfl ?_
  refine lst_run (run_assign (by conv=>lhs;whnf)) rfl ?_
  refine lst_done ?_
  refine goes_ret2 Tryd.func35 rfl (by conv=>lhs;whnf) (by conv=>lhs;whnf) ?_
  exact ⟨none, 0, [], F, rfl, rfl, fun _ h => h, fun w _ => hnil w, hS⟩
 | true =>
 rw [if_neg (by simp)]
 by_cases hf1 : fuel < 0
 ·rw [if_pos (.inl hf1)]
  refine lst_guard rfl rfl ?_
  refine lst_run (rfl) rfl ?_
  refine lst_run (run_pick_f rfl (by conv=>lhs;whnf)) rfl ?_
  refine lst_done ?_
  refine goes_false rfl ?_
  refine goes_skip ?_
  refine goes_seq ?_
  refine goes_seq ?_
  refine goes_region ?_
  refine lst_run (run_move (by conv=>lhs;whnf)) rfl ?_
  refine lst_run (run_lss_yes rfl rfl (by omega)) rfl ?_
  refine lst_run (run_move (by conv=>lhs;whnf)) rfl ?_
  refine lst_pass rfl rfl rfl ?_
  refine lst_pass rfl rfl rfl ?_
  refine lst_run (run_pick_t rfl (by conv=>lhs;whnf)) rfl ?_
  refine lst_done ?_
  refine goes_true rfl ?_
  refine goes_seq ?_
  refine goes_region ?_
  refine lst_run (run_assign (by conv=>lhs;whnf)) rfl ?_
  refine lst_run (run_assign (by conv=>lhs;whnf)) rfl ?_
  refine lst_done ?_
  refine goes_ret2 Tryd.func35 rfl (by conv=>lhs;whnf) (by conv=>lhs;whnf) ?_
  exact ⟨none, 0, [], F, rfl, rfl, fun _ h => h, fun w _ => hnil w, hS⟩
 by_cases hf2 : 150 < fuel
 ·rw [if_pos (.inr hf2)]
  refine lst_guard rfl rfl ?_
  refine lst_run (rfl) rfl ?_
  refine lst_run (run_pick_f rfl (by conv=>lhs;whnf)) rfl ?_
  refine lst_done ?_
  refine goes_false rfl ?_
  refine goes_skip ?_
  refine goes_seq ?_
  refine goes_seq ?_
  refine goes_region ?_
  refine lst_run (run_move (by conv=>lhs;whnf)) rfl ?_
  refine lst_run (run_lss_no rfl rfl (by omega)) rfl ?_
  refine lst_run (run_move (by conv=>lhs;whnf)) rfl ?_
  refine lst_guard rfl rfl ?_
  refine lst_run (run_move (by conv=>lhs;whnf)) rfl ?_
  refine lst_guard rfl rfl ?_
  refine lst_run (run_gtr_yes rfl rfl (by omega)) rfl ?_
  refine lst_run (run_pick_f rfl (by conv=>lhs;whnf)) rfl ?_
  refine lst_done ?_
  refine goes_true rfl ?_
  refine goes_seq ?_
  refine goes_region ?_
  refine lst_run (run_assign (by conv=>lhs;whnf)) rfl ?_
  refine lst_run (run_assign (by conv=>lhs;whnf)) rfl ?_
  refine lst_done ?_
  refine goes_ret2 Tryd.func35 rfl (by conv=>lhs;whnf) (by conv=>lhs;whnf) ?_
  exact ⟨none, 0, [], F, rfl, rfl, fun _ h => h, fun w _ => hnil w, hS⟩
 rw [if_neg (by rintro (h | h) <;> contradiction)]
 obtain ⟨fuel, rfl⟩ : ∃ f : Nat, fuel = f := ⟨fuel.toNat, by omega⟩
 have hqB2 := hqB
 simp only [qB, Bool.and_eq_true, decide_eq_true_eq] at hqB2
 obtain ⟨vars, rfl⟩ : ∃ v : Nat, vars = v := ⟨vars.toNat, by omega⟩
 simp only [Int.toNat_natCast]
 have hpB2 := hpB
 unfold pB at hpB2
 simp only [Bool.and_eq_true, decide_eq_true_eq, List.all_eq_true, List.length_map] at hpB2
 have hXc : ∀ x ∈ X, cB x.cl = true := fun x hx => hpB2.2 _ (List.mem_map.2 ⟨x, hx, rfl⟩)
 have hnq := goals_nodes _ hqB2.2
 have hTl : T.len ≤ 5 := by have := TA.len_ts T; have := hqB2.1.2; omega
 refine lst_guard rfl rfl ?_
 refine lst_run (rfl) rfl ?_
 refine lst_run (run_pick_f rfl (by conv=>lhs;whnf)) rfl ?_
 refine lst_done ?_
 refine goes_false rfl ?_
 refine goes_skip ?_
 refine goes_seq ?_
 refine goes_seq ?_
 refine goes_region ?_
 refine lst_run (run_move (by conv=>lhs;whnf)) rfl ?_
 refine lst_run (run_lss_no rfl rfl (by omega)) rfl ?_
 refine lst_run (run_move (by conv=>lhs;whnf)) rfl ?_
 refine lst_guard rfl rfl ?_
 refine lst_run (run_move (by conv=>lhs;whnf)) rfl ?_
 refine lst_guard rfl rfl ?_
 refine lst_run (run_gtr_no rfl rfl (by omega)) rfl ?_
 refine lst_run (run_pick_f rfl (by conv=>lhs;whnf)) rfl ?_
 refine lst_done ?_
 refine goes_false rfl ?_
 refine goes_skip ?_
 refine goes_seq ?_
 refine goes_region ?_
 refine lst_run (run_move (by conv=>lhs;whnf)) rfl ?_
 refine lst_run (run_move (by conv=>lhs;whnf)) rfl ?_
 refine lst_run (run_move (by conv=>lhs;whnf)) rfl ?_
 refine lst_run (run_move (by conv=>lhs;whnf)) rfl ?_
 refine lst_run (run_build (cells := [_, _, _, _, _, _, _]) (.cons (by conv=>lhs;whnf) (.cons (by conv=>lhs;whnf) (.cons (by conv=>lhs;whnf) (.cons (by conv=>lhs;whnf) .nil)))) rfl) rfl ?_
 refine lst_box hS rfl rfl ?_
 clear hS
 intro b1 wx1 hS
 refine lst_run (run_assign (by conv=>lhs;whnf)) rfl ?_
 refine lst_done ?_
 refine goes_seq ?_
 refine goes_region ?_
 refine lst_run (run_assign (by conv=>lhs;whnf)) rfl ?_
 refine lst_done ?_
 refine goes_seq ?_
 refine goes_seq ?_
 refine goes_region ?_
 refine lst_run (run_move (by conv=>lhs;whnf)) rfl ?_
 refine lst_run (run_len_slice rfl rfl rfl) rfl ?_
 refine lst_run (run_sub rfl rfl (by omega) (by omega)) rfl ?_
 refine lst_run (run_assign (by conv=>lhs;whnf)) rfl ?_
 refine lst_done ?_
 refine goes_block ?_
 refine goes_loop2 12 11 (37 :: 38 :: 41 :: 42 :: 43 :: 44 :: 45 :: 46 :: 47 :: 39 :: 40 :: []) (fun (j : Nat) v u w' => ∃ (D2 R2 : TA) (gs : List GN) (F3 : List (World → Prop)), T = D2.app R2 ∧ D2.len = j ∧ v = .int .i64 ((j : Nat) - 1) ∧ u = ptrOf gs ∧ glsOf gs = bodyT R2.ts 0 0 [] ∧ (∀ φ ∈ F, φ ∈ F3) ∧ Und F3 (TdR gs) ∧ St M w0 ((b1, .cells (pcsP pA X.length pc vars ⟨fuel, vars, 0, [], false⟩ none 0 0).toArray 101) :: H) F3 w') (fun j => j) (T.len) ?_ (by conv=>lhs;whnf) (by conv=>lhs;whnf) ?_
 ·exact ⟨T, .nil, [], F, by rw [TA.app_nil], rfl, rfl, rfl, rfl, fun _ h => h, fun _ _ => trivial, hS⟩
 clear hS
 rintro j _ _ w10 jy ⟨D2, R2, gs, F3, hDR2, hDj, rfl, rfl, hgs, hF3, hpr3, hS⟩ ih2
 have hlen2 : T.len = D2.len + R2.len := by rw [hDR2, TA.len_app]
 cases j with
 | succ j =>
  obtain ⟨D', k1, n1, s1, A1, c1', a1, rfl, hD'⟩ := TA.snoc D2 j hDj
  have hDR' : T = D'.app (.cons k1 n1 s1 A1 c1' a1 R2) := by rw [hDR2, TA.app_assoc]; rfl
  have hT' := hT.mono hF3
  rw [hDR'] at hT'
  have hnod : (TA.cons k1 n1 s1 A1 c1' a1 .nil).ts.goals ((vars : Nat) : Int) = true := by
   have := hqB2.2
   rw [hDR', TA.app_ts] at this
   have key : ∀ (a b : Ts), (a.app b).goals ((vars : Nat) : Int) = true → b.goals ((vars : Nat) : Int) = true := by
    intro a b
    induction a with
    | nil => exact id
    | cons k n s x r _ ih => intro h; simp only [Ts.app, Ts.goals, Bool.and_eq_true] at h; exact ih h.2
   have := key _ _ this
   simp only [TA.ts, Ts.goals, Bool.and_eq_true] at this ⊢
   exact ⟨this.1, trivial⟩
  have hz0 : (Tm.shift ⟨k1, n1, s1, a1.ts⟩ 0) = ⟨k1, n1, s1, a1.ts⟩ := by
   simp only [TA.ts, Ts.goals, Bool.and_eq_true] at hnod
   have hg := hnod.1
   simp only [gB, Bool.and_eq_true] at hg
   exact shift_zero (v := ((vars : Nat) : Int)) (by omega) hg.1.2
  have hsub : Und F3 (LRd ⟨k1, n1, s1, A1, c1', a1⟩) := hT'.imp fun w h => h.sub
  obtain ⟨b7, o7, hba⟩ := (hS.und hT').some_ (by rw [TA.len_app]; simp only [TA.len]; omega)
  subst hba
  obtain ⟨z0, z1, z2, z3⟩ := (hS.und hT').cells
  rw [show o7 + D'.len * 4 = o7 + (((j + 1 : Nat) : Int) - 1).toNat * 4 by omega] at z0 z1 z2 z3
  refine goes_seq ?_
  refine goes_seq ?_
  refine goes_region ?_
  refine lst_run (run_move (by conv=>lhs;whnf)) rfl ?_
  refine lst_run (run_geq_yes rfl rfl (by omega)) rfl ?_
  refine lst_done ?_
  refine goes_true rfl ?_
  refine goes_skip ?_
  refine goes_seq ?_
  refine goes_block ?_
  refine goes_region ?_
  refine lst_run (run_move (by conv=>lhs;whnf)) rfl ?_
  refine lst_run (run_move (by conv=>lhs;whnf)) rfl ?_
  refine lst_run (run_indexAddr (sz := 4) rfl rfl rfl rfl (by omega) (by omega)) rfl ?_
  refine lst_run (run_load4 rfl rfl rfl (by assumption) (by assumption) (by assumption) (by assumption)) rfl ?_
  refine lst_run (run_move (by conv=>lhs;whnf)) rfl ?_
  refine lst_run (run_build (cells := [_, _, _, _, _, _]) (.cons (by conv=>lhs;whnf) (.cons (by conv=>lhs;whnf) (.cons (by conv=>lhs;whnf) .nil))) rfl) rfl ?_
  refine lst_box hS rfl rfl ?_
  clear hS
  intro b2 wx2 hS
  refine lst_run (run_assign (by conv=>lhs;whnf)) rfl ?_
  refine lst_done ?_
  refine goes_inBlock ?_
  refine goes_region ?_
  refine lst_run (run_move (by conv=>lhs;whnf)) rfl ?_
  refine lst_run (run_sub rfl rfl (by omega) (by omega)) rfl ?_
  refine lst_run (run_assign (by conv=>lhs;whnf)) rfl ?_
  refine lst_done ?_
  replace hS := hS.freeze
  refine ih2 j _ _ _ _ ?_ ?_ (by conv=>lhs;whnf) (by conv=>lhs;whnf) (by kernel_rfl)
  ·omega
  ·refine ⟨D', .cons k1 n1 s1 A1 c1' a1 R2, ⟨⟨k1, n1, s1, A1, c1', a1⟩, 0, _⟩ :: gs, _, hDR', hD', ?_, rfl, ?_, fun φ h => .tail _ (hF3 φ h), ?_, hS⟩
   ·congr 1; omega
   ·show (Tm.mk k1 n1 s1 a1.ts, 0) :: glsOf gs = (Tm.shift ⟨k1, n1, s1, a1.ts⟩ 0, 0) :: bodyT R2.ts 0 0 []
    rw [hz0, hgs]
   ·exact fun w hw => ⟨hw _ (.head _), (hsub.tail) w hw, hpr3 w fun φ hφ => hw φ (.tail _ hφ)⟩
 | zero =>
  have hD2 : D2 = .nil := by cases D2 with
   | nil => rfl
   | cons _ _ _ _ _ _ _ => simp [TA.len] at hDj
  subst hD2
  have hRx : R2 = T := by rw [hDR2]; rfl
  subst hRx
  clear ih2
  have hpr := prove_said (X := X) (pA := pA) (pc := pc) (q := vars) (C := vars + 8 * (fuel + 12)) (D := fuel) hpB2.1 hXc (by omega) (by omega) (by omega) fuel (by omega)
  have hcall := hpr M w0 H F3 gs [] b1 ⟨fuel, vars, 0, [], false⟩
  have hgd2 : ∀ y ∈ gs, tgd y.t.tm := by
   have := body_gd (v := ((vars : Nat) : Int)) (m := 0) (o := 0) (rest := []) (by omega) (by omega) (by omega) (fun y hy => (by cases hy)) R2.ts hqB2.2
   rw [← bodyT_G, ← hgs] at this
   intro y hy
   exact this (y.t.tm, y.o) (List.mem_map.2 ⟨y, hy, rfl⟩)
  have hP24 : ∀ c ∈ X.map LC.cl, c.vars.toNat ≤ 8 := fun c hc => by
   obtain ⟨x, hx, rfl⟩ := List.mem_map.1 hc
   have := (cB_parts (hXc x hx)).2.1
   omega
  have hBI : BdI (vars + 8 * (fuel + 12)) fuel ⟨fuel, vars, 0, [], false⟩ := ⟨by show vars + 8 * (fuel + 12) ≤ vars + 8 * (fuel + 12) + 8 * 0; omega, by show 0 + fuel ≤ fuel; omega, by show 0 < 12; omega, rfl⟩
  have hbdo := prove_bd (q := vars) (C := vars + 8 * (fuel + 12)) (D := fuel) hP24 fuel (glsOf gs) (envB []) _ hBI
  rw [hgs] at hcall hbdo
  have hend : ∀ (pq : PS) (F' : List (World → Prop)) (w' : World), PSt M w0 H F' b1 pA X.length pc vars pq w' → pq.out.length ≤ 100 → Calls Tryd.prog 58 #[.pointer (some ⟨b1, 0, none⟩), .int .i64 2] w' fun e w2 => e = .returned (.int .i64 (-1)) ∧ PSt M w0 H F' b1 pA X.length pc vars (endP 2 pq) w2 := fun pq F' w' hP ho => end_any b1 pA X.length pc vars pq 2 w' ho hP
  rw [show envB [] = ([] : Bnd) from rfl] at hcall hbdo
  generalize proveM (X.map LC.cl) vars fuel (bodyT R2.ts 0 0 []) [] ⟨fuel, vars, 0, [], false⟩ = Q at *
  obtain ⟨kq, pq⟩ := Q
  dsimp only at hcall hbdo ⊢
  have hfin : ∀ (pr : PS) (F' : List (World → Prop)) (w' : World) (K4 : List OE) (oA4 : Option Addr) (oc4 : Nat) (O4 : List (Nat × Obj)), (∀ φ ∈ F, φ ∈ F') → K4.map OE.ev = pr.out → (∀ x ∈ K4, Und F' (ArA x.A x.c x.T)) → Rw 98 2 (.slice oA4 K4.length oc4) K4.length (oeL K4) O4 → St M w0 ((b1, .cells (pcsP pA X.length pc vars pr oA4 K4.length oc4).toArray 101) :: (O4 ++ H)) F' w' →
    ∃ (A : Option Addr) (c : Nat) (L : List KE) (F' : List (World → Prop)), Value.slice oA4 K4.length oc4 = .slice A L.length c ∧ L.map KE.ev = pr.out ∧ (∀ φ ∈ F, φ ∈ F') ∧ Und F' (KER L A c) ∧ St M w0 H F' w' := by
   intro pr F' w' K4 oA4 oc4 O4 hF' e1 e2 e3 h
   have h2 := St.freezeR e3 h.drop
   refine ⟨oA4, oc4, K4.map OE.ke, _, by rw [List.length_map], by rw [List.map_map]; exact e1, fun φ h => .tail _ (hF' φ h), fun w2 hw => ?_, h2⟩
   have hfl := hw _ (.head _)
   refine ⟨by rw [List.length_map]; exact hfl.2.1, fun hl => ?_, fun x hx => ?_⟩
   ·rw [List.length_map] at hl
    obtain ⟨b, o, e, hs⟩ := hfl.2.2 hl
    exact ⟨b, o, e, keAt_of fun j u hu => hs j u (by rw [oeL_ke]; exact hu)⟩
   ·obtain ⟨y, hy, rfl⟩ := List.mem_map.1 hx
    exact e2 y hy w2 fun φ hφ => hw φ (.tail _ hφ)
  refine goes_seq ?_
  refine goes_seq ?_
  refine goes_region ?_
  refine lst_run (run_move (by conv=>lhs;whnf)) rfl ?_
  refine lst_run (run_geq_no rfl rfl (by omega)) rfl ?_
  refine lst_done ?_
  refine goes_false rfl ?_
  refine goes_exit rfl ?_
  refine goes_seq ?_
  refine goes_region ?_
  refine lst_run (run_move (by conv=>lhs;whnf)) rfl ?_
  refine lst_run (run_move (by conv=>lhs;whnf)) rfl ?_
  refine lst_enter (run_call (by kernel_rfl) (args_3 (by conv=>lhs;whnf) (by conv=>lhs;whnf) (by conv=>lhs;whnf))) rfl ?_
  refine Calls.mono (hcall _ (hX.mono hF3) hpr3 hgd2 ⟨fun w _ => trivial, trivial, fun x hx => (by cases hx)⟩ (by show fuel ≤ fuel; omega) hBI ⟨[], none, 0, [], rfl, fun x hx => (by cases hx), Rw.zero_, hS⟩) ?_
  rintro _ w12 ⟨F4, rfl, hF4, hP4⟩
  refine ⟨_, rfl, ?_⟩
  clear hS
  have hFF4 : ∀ φ ∈ F, φ ∈ F4 := fun φ h => hF4 φ (hF3 φ h)
  have hbo := hbdo.o
  obtain ⟨K4, oA4, oc4, O4, hK4, hKr4, hrow4, hS⟩ := hP4
  cases he4 : pq.ended with
  | true =>
   rw [if_pos rfl]
   simp only [pcsP, he4] at hS
   refine lst_done ?_
   refine goes_seq ?_
   refine goes_seq ?_
   refine goes_region ?_
   refine lst_run (run_move (by conv=>lhs;whnf)) rfl ?_
   refine lst_run (run_nilCheck rfl) rfl ?_
   refine lst_run (run_fieldAddr (off := 5) rfl rfl) rfl ?_
   refine lst_run (run_load1_own hS rfl rfl (by exact .head) (by repeat constructor)) rfl ?_
   refine lst_run (rfl) rfl ?_
   refine lst_done ?_
   refine goes_false rfl ?_
   refine goes_skip ?_
   refine goes_seq ?_
   refine goes_region ?_
   refine lst_run (run_move (by conv=>lhs;whnf)) rfl ?_
   refine lst_run (run_nilCheck rfl) rfl ?_
   refine lst_run (run_fieldAddr (off := 4) rfl rfl) rfl ?_
   refine lst_run (run_load1_own hS rfl rfl (by exact .head) (by repeat constructor)) rfl ?_
   refine lst_run (run_assign (by conv=>lhs;whnf)) rfl ?_
   refine lst_run (run_assign (by conv=>lhs;whnf)) rfl ?_
   refine lst_done ?_
   refine goes_ret2 Tryd.func35 rfl (by conv=>lhs;whnf) (by conv=>lhs;whnf) ?_
   obtain ⟨A, c, L, F', g1, g2, g3, g4, g5⟩ := hfin pq F4 _ K4 oA4 oc4 O4 hFF4 hK4 hKr4 hrow4 (by simp only [pcsP, he4]; exact hS)
   exact ⟨A, c, L, F', by rw [g1], g2, g3, g4, g5⟩
  | false =>
   rw [if_neg (by decide)]
   simp only [pcsP, he4] at hS
   refine lst_done ?_
   refine goes_seq ?_
   refine goes_seq ?_
   refine goes_region ?_
   refine lst_run (run_move (by conv=>lhs;whnf)) rfl ?_
   refine lst_run (run_nilCheck rfl) rfl ?_
   refine lst_run (run_fieldAddr (off := 5) rfl rfl) rfl ?_
   refine lst_run (run_load1_own hS rfl rfl (by exact .head) (by repeat constructor)) rfl ?_
   refine lst_run (rfl) rfl ?_
   refine lst_done ?_
   refine goes_true rfl ?_
   refine goes_region ?_
   refine lst_run (run_move (by conv=>lhs;whnf)) rfl ?_
   refine lst_enter (run_call (by kernel_rfl) (args_2 (by conv=>lhs;whnf) (by conv=>lhs;whnf))) rfl ?_
   refine Calls.mono (hend pq F4 _ ⟨K4, oA4, oc4, O4, hK4, hKr4, hrow4, by simp only [pcsP, he4]; exact hS⟩ (by omega)) ?_
   rintro _ w13 ⟨rfl, hP5⟩
   refine ⟨_, rfl, ?_⟩
   clear hS
   obtain ⟨K5, oA5, oc5, O5, hK5, hKr5, hrow5, hS⟩ := hP5
   refine lst_done ?_
   refine goes_seq ?_
   refine goes_region ?_
   refine lst_run (run_move (by conv=>lhs;whnf)) rfl ?_
   refine lst_run (run_nilCheck rfl) rfl ?_
   refine lst_run (run_fieldAddr (off := 4) rfl rfl) rfl ?_
   refine lst_run (run_load1_own hS rfl rfl (by exact .head) (by repeat constructor)) rfl ?_
   refine lst_run (run_assign (by conv=>lhs;whnf)) rfl ?_
   refine lst_run (run_assign (by conv=>lhs;whnf)) rfl ?_
   refine lst_done ?_
   refine goes_ret2 Tryd.func35 rfl (by conv=>lhs;whnf) (by conv=>lhs;whnf) ?_
   obtain ⟨A, c, L, F', g1, g2, g3, g4, g5⟩ := hfin (endP 2 pq) F4 _ K5 oA5 oc5 O5 hFF4 hK5 hKr5 hrow5 hS
   exact ⟨A, c, L, F', by rw [g1], g2, g3, g4, g5⟩
end
end Go.Proofs.YtehhgmeaggempaaDoor
namespace Go.Proofs.YtehhgmeaggempaaDoor
open Go.RowKit
set_option linter.unusedVariables false
set_option linter.unusedSimpArgs false
section
variable {P : List Cl} {q : Nat}
theorem Rl.next {ρ : Int → Int → Prop} {h : Nat → Nat} {s : SS} {g : Gl} {rest : List Gl} {g' : Tg} {r' : List Tg} {e : Bnd} {p : PS} (hR : Rl ρ h q s (g' :: r') e p) (hg : s.goals = g :: rest) (hf : s.fuel ≠ 0) {B' e' : Bnd} {C : List Ch}
  (bm : Bm sysS sysD (TRel ρ) B' e') (fb : FB s.fresh B') (fe : FB p.vars e') (hC : ∀ a ∈ r', h a.2 ≤ C.length) (hI : Inv ⟨B', s.fresh, s.fuel - 1, rest, C, s.ev⟩) :
  Rl ρ h q ⟨B', s.fresh, s.fuel - 1, rest, C, s.ev⟩ r' e' ⟨p.fuel - 1, p.vars, p.calls, p.out, p.ended⟩ := by
 have hgl := hR.gl
 rw [hg] at hgl
 cases hgl with
 | cons h1 h2 =>
  exact ⟨by simp only; rw [hR.fuel], hR.out, hR.ev, hR.ne, bm, fb, fe, hR.rho, hR.le, hR.qv, h2, (List.pairwise_cons.1 hR.srt).2, fun a ha b hb => hR.mono a (List.mem_cons_of_mem _ ha) b (List.mem_cons_of_mem _ hb), fun a ha => ⟨hC a ha, (hR.ht a (List.mem_cons_of_mem _ ha)).2⟩, hI⟩
theorem Rs.step {K K' : List Ev → Prop} {B0 : Bnd} {fr0 : Nat} {C : List Ch} {p p1 p' : PS} (h : Rs P q K B0 fr0 C p1 p') (hv : p.vars ≤ p1.vars) (hc : p.calls ≤ p1.calls) (hf : p1.fuel ≤ p.fuel) {B1 : Bnd} (hB : ∃ N, B0 = N ++ B1) (hk : ∀ L, K L → K' L) : Rs P q K' B1 fr0 C p p' := by
 obtain ⟨a1, a2, a3, a4, a5⟩ := h
 refine ⟨by omega, by omega, by omega, fun hh => hk _ (a4 hh), fun hh => ?_⟩
 obtain ⟨t, b1, b2, b3, b4, b5, ⟨X, b6⟩, b7, b8, b9⟩ := a5 hh
 obtain ⟨N, hN⟩ := hB
 exact ⟨t, b1, b2, b3, b4, b5, ⟨X ++ N, by rw [b6, hN, List.append_assoc]⟩, b7, b8, fun L hL => hk _ (b9 L hL)⟩
theorem Rs.back {s t : SS} {p p1 : PS} {B1 : Bnd} (hst : stepM P q s = againM t) (hI : InvC t) (hf : t.fuel = p1.fuel) (ho : p1.out = evsOf t.ev) (hev : t.ev.length < 12) (hB : ∃ X, t.B = X ++ B1) (hfr : p1.vars ≤ t.fresh) (hne : p1.ended = false) (hv : p.vars ≤ p1.vars) (hc : p.calls ≤ p1.calls) (hfu : p1.fuel ≤ p.fuel) {fr0 : Nat} (h0 : fr0 ≤ t.fresh) : Rs P q (GoesTo P q s) B1 fr0 t.ch p p1 :=
 ⟨hv, hc, hfu, fun hh => (by rw [hne] at hh; cases hh), fun _ => ⟨t, hI, rfl, hf, ho, hev, hB, h0, hfr, fun L hL => goes_retry hst hL⟩⟩
theorem Rs.stop {s s' : SS} {p p1 : PS} {B1 : Bnd} {C : List Ch} {fr0 : Nat} {k : Int} (hst : stepM P q s = (k, s')) (hk : k ≠ 0) (ho : p1.out = evsOf s'.ev) (hv : p.vars ≤ p1.vars) (hc : p.calls ≤ p1.calls) (hfu : p1.fuel ≤ p.fuel) : Rs P q (GoesTo P q s) B1 fr0 C p (endP k p1) :=
 ⟨hv, hc, hfu, fun _ => by show GoesTo P q s (p1.out ++ [(k, .nil)]); rw [ho]; exact goes_stop hst hk, fun hh => (by cases hh)⟩
theorem prove_sim (hp : pB P = true) (hq : q ≤ 8) : ∀ f, PSaid P q f := by
 have hp2 : P.length ≤ 24 ∧ ∀ x ∈ P, cB x = true := by
  unfold pB at hp
  simp only [Bool.and_eq_true, decide_eq_true_eq, List.all_eq_true] at hp
  exact hp
 intro f
 induction f with
 | zero =>
  intro ρ h s g e p hR hfl
  cases g with
  | nil =>
   have := tell_sim (P := P) hq hR
   exact ⟨this.1, fun hh => .inl (this.2 hh)⟩
  | cons g' r' =>
   have hgl := hR.gl
   cases hs : s.goals with
   | nil => rw [hs] at hgl; cases hgl
   | cons g rest =>
    have h0 : s.fuel = 0 := by rw [hR.fuel]; omega
    have hst : stepM P q s = (3, s) := by unfold stepM; rw [hs]; simp only; rw [if_pos h0]
    exact ⟨Rs.stop hst (by decide) hR.out (Nat.le_refl _) (Nat.le_refl _) (Nat.le_refl _), fun hh => (by cases hh)⟩
 | succ f ih =>
  intro ρ h s g e p hR hfl
  cases g with
  | nil =>
   have := tell_sim (P := P) hq hR
   exact ⟨this.1, fun hh => .inl (this.2 hh)⟩
  | cons g' r' =>
   have hgl := hR.gl
   cases hs : s.goals with
   | nil => rw [hs] at hgl; cases hgl
   | cons g rest =>
    rw [hs] at hgl
    obtain ⟨hg1, hg2⟩ : TRel ρ g.1 g'.1 ∧ g.2 = h g'.2 := by cases hgl with | cons h1 _ => exact h1
    have hgl2 : Al (GlR ρ h) rest r' := by cases hgl with | cons _ h2 => exact h2
    by_cases h0 : s.fuel = 0
    ·have hst : stepM P q s = (3, s) := by unfold stepM; rw [hs]; simp only; rw [if_pos h0]
     have e1 : proveM P q (f + 1) (g' :: r') e p = (-1, endP 3 p) := by rw [proveM, if_pos (by rw [← hR.fuel]; exact h0)]
     rw [e1]
     exact ⟨Rs.stop hst (by decide) hR.out (Nat.le_refl _) (Nat.le_refl _) (Nat.le_refl _), fun hh => (by cases hh)⟩
    have hp0 : p.fuel ≠ 0 := by rw [← hR.fuel]; exact h0
    obtain ⟨ts, tl, tr⟩ := hg1.top
    obtain ⟨i1, i2, i3, i4, i5, i6, i7⟩ := popped_inv hR.inv hs h0
    have hsok := (step_ok (vars := q) hR.inv hR.ev hp).1.go
    have hle := hR.le
    have hht := hR.ht g' (List.mem_cons_self ..)
    have hlow : ∀ a ∈ r', a.2 ≤ g'.2 := (List.pairwise_cons.1 hR.srt).1
    have hmn : ∀ a ∈ r', h a.2 ≤ h g'.2 := fun a ha => hR.mono a (List.mem_cons_of_mem _ ha) g' (List.mem_cons_self ..) (hlow a ha)
    by_cases hb : builtB g.1.s.toList g.1.ar.length = true
    ·have hb' : builtB g'.1.s.toList g'.1.ar.length = true := by rw [← ts, ← tl]; exact hb
     have hst : stepM P q s = builtM g ⟨s.B, s.fresh, s.fuel - 1, rest, s.ch, s.ev⟩ := by
      unfold stepM; rw [hs]; simp only; rw [if_neg h0, if_pos hb]
     have e1 : proveM P q (f + 1) (g' :: r') e p = simpleM (proveM P q f) g' r' e ⟨p.fuel - 1, p.vars, p.calls, p.out, p.ended⟩ := by rw [proveM, if_neg hp0, if_pos hb']
     rw [e1]
     have hon : ∀ {s1 : SS} {e' : Bnd}, Rl ρ h q s1 r' e' ⟨p.fuel - 1, p.vars, p.calls, p.out, p.ended⟩ → stepM P q s = (0, s1) → (∃ N, s1.B = N ++ s.B) → s1.fresh = s.fresh → s1.ch = s.ch →
       Rs P q (GoesTo P q s) s.B s.fresh (cutC h s.ch (proveM P q f r' e' ⟨p.fuel - 1, p.vars, p.calls, p.out, p.ended⟩).1) p (proveM P q f r' e' ⟨p.fuel - 1, p.vars, p.calls, p.out, p.ended⟩).2 ∧ ((proveM P q f r' e' ⟨p.fuel - 1, p.vars, p.calls, p.out, p.ended⟩).2.ended = false → (proveM P q f r' e' ⟨p.fuel - 1, p.vars, p.calls, p.out, p.ended⟩).1 = -1 ∨ ∃ a ∈ g' :: r', (proveM P q f r' e' ⟨p.fuel - 1, p.vars, p.calls, p.out, p.ended⟩).1 = (a.2 : Nat)) := by
      intro s1 e' hR1 hs1 hN hfr hch
      obtain ⟨c1, c2⟩ := ih ρ h s1 r' e' _ hR1 (by simp only; omega)
      rw [hfr, hch] at c1
      refine ⟨c1.step (p := p) (Nat.le_refl _) (Nat.le_refl _) (by simp only; omega) hN (fun L hL => goes_step hs1 hL), fun hh => ?_⟩
      rcases c2 hh with c | ⟨a, ha, c⟩
      ·exact .inl c
      ·exact .inr ⟨a, List.mem_cons_of_mem _ ha, c⟩
     have hplain : stepM P q s = (0, ⟨s.B, s.fresh, s.fuel - 1, rest, s.ch, s.ev⟩) → Rl ρ h q ⟨s.B, s.fresh, s.fuel - 1, rest, s.ch, s.ev⟩ r' e ⟨p.fuel - 1, p.vars, p.calls, p.out, p.ended⟩ := fun hs1 => by
      have hI := hsok (by rw [hs1])
      rw [hs1] at hI
      exact hR.next hs h0 hR.bm hR.fb hR.fe (fun a ha => Nat.le_trans (hmn a ha) hht.1) hI.1
     have hfail : stepM P q s = againM ⟨s.B, s.fresh, s.fuel - 1, rest, s.ch, s.ev⟩ → Rs P q (GoesTo P q s) s.B s.fresh (cutC h s.ch (-1)) p ⟨p.fuel - 1, p.vars, p.calls, p.out, p.ended⟩ := fun hs1 =>
      Rs.back (p := p) (p1 := ⟨p.fuel - 1, p.vars, p.calls, p.out, p.ended⟩) (t := ⟨s.B, s.fresh, s.fuel - 1, rest, s.ch, s.ev⟩) hs1 i1 (by simp only; rw [hR.fuel]) hR.out hR.ev ⟨[], rfl⟩ hle hR.ne (Nat.le_refl _) (Nat.le_refl _) (by simp only; omega) (Nat.le_refl _)
     have hequal : ∀ (a b a' b' : Tm), tgd a → tgd b → TRel ρ a a' → TRel ρ b b' → stepM P q s = equalM a b ⟨s.B, s.fresh, s.fuel - 1, rest, s.ch, s.ev⟩ →
       Rs P q (GoesTo P q s) s.B s.fresh (cutC h s.ch (oneP (proveM P q f) r' e ⟨p.fuel - 1, p.vars, p.calls, p.out, p.ended⟩ a' b').1) p (oneP (proveM P q f) r' e ⟨p.fuel - 1, p.vars, p.calls, p.out, p.ended⟩ a' b').2 ∧ ((oneP (proveM P q f) r' e ⟨p.fuel - 1, p.vars, p.calls, p.out, p.ended⟩ a' b').2.ended = false → (oneP (proveM P q f) r' e ⟨p.fuel - 1, p.vars, p.calls, p.out, p.ended⟩ a' b').1 = -1 ∨ ∃ x ∈ g' :: r', (oneP (proveM P q f) r' e ⟨p.fuel - 1, p.vars, p.calls, p.out, p.ended⟩ a' b').1 = (x.2 : Nat)) := by
      intro a b a' b' ta tb ra rb hs1
      obtain ⟨u1, u2, u3, u4, u5⟩ := uni_both hR.bm hR.fb hR.fe hR.rho ra rb
      have hup := (suni_up 401 a b s.B 0 ta.small tb.small hR.inv.c.bok hR.inv.c.sm (by omega)).ext
      have hei := equal_inv i1 i2 ta tb
      unfold equalM at hs1
      simp only at hs1
      unfold oneP
      by_cases hw : 400 < (uniD a' b' e).w
      ·rw [if_pos hw]
       rw [if_pos (by rw [u2]; exact hw)] at hs1
       exact ⟨Rs.stop hs1 (by decide) hR.out (Nat.le_refl _) (Nat.le_refl _) (by simp only; omega), fun hh => (by cases hh)⟩
      rw [if_neg hw]
      rw [if_neg (by rw [u2]; exact hw)] at hs1
      by_cases hok : (uniD a' b' e).ok = true
      ·rw [if_pos hok]
       rw [if_pos (by rw [u1]; exact hok)] at hs1
       have hI := hsok (by rw [hs1])
       rw [hs1] at hI
       exact hon (hR.next hs h0 u3 u4 u5 (fun a ha => Nat.le_trans (hmn a ha) hht.1) hI.1) hs1 hup rfl rfl
      ·rw [if_neg hok]
       rw [if_neg (by rw [u1]; exact hok)] at hs1
       exact ⟨Rs.back (p := p) (p1 := ⟨p.fuel - 1, p.vars, p.calls, p.out, p.ended⟩) hs1 hei (by show s.fuel - 1 = p.fuel - 1; rw [hR.fuel]) hR.out hR.ev hup hle hR.ne (Nat.le_refl _) (Nat.le_refl _) (by simp only; omega) (Nat.le_refl _), fun _ => .inl rfl⟩
     have hd := tgd_down _ i6
     unfold simpleM
     unfold builtM at hst
     rw [← ts]
     unfold builtB at hb
     by_cases k1 : g.1.s.toList = [33]
     ·rw [if_pos k1] at hst ⊢
      have hI := hsok (by rw [hst])
      rw [hst] at hI
      have hcl : (s.ch.drop (s.ch.length - g.2)).length = h g'.2 := by rw [List.length_drop, hg2]; omega
      obtain ⟨c1, c2⟩ := ih ρ h _ r' e _ (hR.next (C := s.ch.drop (s.ch.length - g.2)) hs h0 hR.bm hR.fb hR.fe (fun a ha => by rw [hcl]; exact hmn a ha) hI.1) (by simp only; omega)
      simp only at c1
      generalize proveM P q f r' e ⟨p.fuel - 1, p.vars, p.calls, p.out, p.ended⟩ = res at c1 c2 ⊢
      have c3 := c1.step (p := p) (Nat.le_refl _) (Nat.le_refl _) (by simp only; omega) ⟨[], rfl⟩ (fun L hL => goes_step hst hL)
      cases hen : res.2.ended with
      | true =>
       split
       ·exact ⟨⟨c3.vm, c3.cm, c3.fm, c3.en, fun hh => (by rw [hen] at hh; cases hh)⟩, fun hh => (by rw [hen] at hh; cases hh)⟩
       ·exact ⟨⟨c3.vm, c3.cm, c3.fm, c3.en, fun hh => (by have hh : res.2.ended = false := hh; rw [hen] at hh; cases hh)⟩, fun hh => (by have hh : res.2.ended = false := hh; rw [hen] at hh; cases hh)⟩
      | false =>
       have hkey : ∀ k : Nat, k ≤ h g'.2 → (s.ch.drop (s.ch.length - g.2)).drop ((s.ch.drop (s.ch.length - g.2)).length - k) = s.ch.drop (s.ch.length - k) := fun k hk => by
        rw [hcl, List.drop_drop, hg2]; congr 1; omega
       have hself : s.ch.drop (s.ch.length - g.2) = cutC h s.ch ((g'.2 : Nat) : Int) := by
        unfold cutC; rw [if_neg (by omega), hg2]; rfl
       rcases c2 hen with c | ⟨a, ha, c⟩
       ·rw [if_neg (by rw [c]; omega)]
        refine ⟨?_, fun _ => .inr ⟨g', List.mem_cons_self .., rfl⟩⟩
        have : cutC h (s.ch.drop (s.ch.length - g.2)) res.1 = cutC h s.ch ((g'.2 : Nat) : Int) := by
         rw [← hself, c]; unfold cutC; rw [if_pos (by decide)]
        rw [this] at c3; exact c3
       ·have hal := hlow a ha
        have hc4 : cutC h (s.ch.drop (s.ch.length - g.2)) res.1 = cutC h s.ch res.1 := by
         rw [c]; unfold cutC; rw [if_neg (by omega), if_neg (by omega)]
         exact hkey _ (by rw [Int.toNat_natCast]; exact hmn a ha)
        by_cases hlt : a.2 < g'.2
        ·rw [if_pos ⟨by omega, by omega⟩]
         refine ⟨?_, fun _ => .inr ⟨a, List.mem_cons_of_mem _ ha, c⟩⟩
         rw [hc4] at c3; exact c3
        ·have heq : a.2 = g'.2 := by omega
         rw [if_neg (by rw [c]; omega)]
         refine ⟨?_, fun _ => .inr ⟨g', List.mem_cons_self .., rfl⟩⟩
         rw [hc4, c, heq] at c3; exact c3
     rw [if_neg k1] at hst hb ⊢
     by_cases k2 : g.1.s.toList = [116, 114, 117, 101]
     ·rw [if_pos k2] at hst ⊢
      exact hon (hplain hst) hst ⟨[], rfl⟩ rfl rfl
     rw [if_neg k2] at hst hb ⊢
     by_cases k3 : g.1.s.toList = [102, 97, 105, 108]
     ·rw [if_pos k3]
      rw [if_neg (by rw [k3]; decide), if_neg (by rw [k3]; decide), if_neg (by rw [k3]; decide)] at hst
      exact ⟨hfail hst, fun _ => .inl rfl⟩
     rw [if_neg k3] at hb ⊢
     by_cases k4 : g.1.s.toList = [101, 113]
     ·rw [if_pos k4] at hst hb ⊢
      have hl : g.1.ar.length = 2 := by simpa using hb
      exact hequal _ _ _ _ (hd _ (Ts.at_mem (by omega))) (hd _ (Ts.at_mem (by omega))) (tr.at_ (by omega)) (tr.at_ (by omega)) hst
     rw [if_neg k4] at hst hb ⊢
     have hl2 : 2 ≤ g.1.ar.length := by
      split at hb
      ·have : g.1.ar.length = 2 := by simpa using hb
       omega
      split at hb
      ·have : g.1.ar.length = 3 := by simpa using hb
       omega
      ·cases hb
     have la := look_both hR.bm (tr.at_ (i := 0) (by omega))
     have lb := look_both hR.bm (tr.at_ (i := 1) (by omega))
     by_cases k5 : g.1.s.toList = [108, 101, 115, 115]
     ·rw [if_pos k5] at hst
      unfold lessM at hst
      simp only at hst
      by_cases hkk : (lookM s.B (g.1.ar.at_ 0)).k ≠ 2 ∨ (lookM s.B (g.1.ar.at_ 1)).k ≠ 2
      ·rw [if_pos hkk] at hst
       rw [if_pos (by rcases hkk with hk | hk <;> rcases la with la | la <;> rcases lb with lb | lb <;> omega)]
       exact ⟨Rs.stop hst (by decide) hR.out (Nat.le_refl _) (Nat.le_refl _) (by simp only; omega), fun hh => (by cases hh)⟩
      ·rw [if_neg hkk] at hst
       have hna : ¬ g.1.s.toList = [97, 100, 100] := by rw [k5]; decide
       rw [if_neg (by rintro (hk | hk | hk); (rcases la with la | la <;> omega); (rcases lb with lb | lb <;> omega); exact hna hk.1), if_pos k5]
       have ea : (lookM s.B (g.1.ar.at_ 0)).n = (lookM e (g'.1.ar.at_ 0)).n := by rcases la with la | la <;> omega
       have eb : (lookM s.B (g.1.ar.at_ 1)).n = (lookM e (g'.1.ar.at_ 1)).n := by rcases lb with lb | lb <;> omega
       by_cases hlt : (lookM e (g'.1.ar.at_ 0)).n < (lookM e (g'.1.ar.at_ 1)).n
       ·rw [if_pos hlt]
        rw [if_neg (by omega)] at hst
        exact hon (hplain hst) hst ⟨[], rfl⟩ rfl rfl
       ·rw [if_neg hlt]
        rw [if_pos (by omega)] at hst
        exact ⟨hfail hst, fun _ => .inl rfl⟩
     ·rw [if_neg k5] at hst hb
      have k6 : g.1.s.toList = [97, 100, 100] := by
       by_cases k6 : g.1.s.toList = [97, 100, 100]
       ·exact k6
       ·rw [if_neg k6] at hb; cases hb
      rw [if_pos k6] at hst hb
      have hl3 : g.1.ar.length = 3 := by simpa using hb
      unfold addM at hst
      simp only at hst
      by_cases hkk : (lookM s.B (g.1.ar.at_ 0)).k ≠ 2 ∨ (lookM s.B (g.1.ar.at_ 1)).k ≠ 2
      ·rw [if_pos hkk] at hst
       rw [if_pos (by rcases hkk with hk | hk <;> rcases la with la | la <;> rcases lb with lb | lb <;> omega)]
       exact ⟨Rs.stop hst (by decide) hR.out (Nat.le_refl _) (Nat.le_refl _) (by simp only; omega), fun hh => (by cases hh)⟩
      rw [if_neg hkk] at hst
      have ea : (lookM s.B (g.1.ar.at_ 0)).n = (lookM e (g'.1.ar.at_ 0)).n := by rcases la with la | la <;> omega
      have eb : (lookM s.B (g.1.ar.at_ 1)).n = (lookM e (g'.1.ar.at_ 1)).n := by rcases lb with lb | lb <;> omega
      rw [ea, eb] at hst
      by_cases hrg : (lookM e (g'.1.ar.at_ 0)).n + (lookM e (g'.1.ar.at_ 1)).n < -1099511627776 ∨ 1099511627776 < (lookM e (g'.1.ar.at_ 0)).n + (lookM e (g'.1.ar.at_ 1)).n
      ·rw [if_pos hrg] at hst
       rw [if_pos (.inr (.inr ⟨k6, hrg.symm⟩))]
       exact ⟨Rs.stop hst (by decide) hR.out (Nat.le_refl _) (Nat.le_refl _) (by simp only; omega), fun hh => (by cases hh)⟩
      ·rw [if_neg hrg] at hst
       rw [if_neg (by rintro (hk | hk | hk); (rcases la with la | la <;> omega); (rcases lb with lb | lb <;> omega); exact hrg hk.2.symm), if_neg k5]
       refine hequal _ _ _ _ (hd _ (Ts.at_mem (by omega))) ?_ (tr.at_ (by omega)) (.node (show (2 : Int) ≠ 0 by decide) .nil .nil) hst
       refine ⟨?_, by simp [Ts.nodes]⟩
       simp only [Ts.good, Bool.and_eq_true, and_true]
       unfold nodeB
       rw [if_neg (by decide), if_neg (by decide), if_pos rfl]
       simp only [Bool.and_eq_true, decide_eq_true_eq]
       exact ⟨⟨⟨by omega, by omega⟩, toList_mk []⟩, rfl⟩
    ·have hb' : ¬ builtB g'.1.s.toList g'.1.ar.length = true := by rw [← ts, ← tl]; exact hb
     have hfit : fitsC g'.1 = fitsC g.1 := by funext c; unfold fitsC; rw [ts, tl]
     cases hfl2 : P.filter (fitsC g.1) with
     | nil =>
      have hst : stepM P q s = (5, ⟨s.B, s.fresh, s.fuel - 1, rest, s.ch, s.ev⟩) := by
       unfold stepM; rw [hs]; simp only; rw [if_neg h0, if_neg hb, hfl2]
      have e1 : proveM P q (f + 1) (g' :: r') e p = (-1, endP 5 ⟨p.fuel - 1, p.vars, p.calls, p.out, p.ended⟩) := by rw [proveM, if_neg hp0, if_neg hb', hfit, hfl2]
      rw [e1]
      exact ⟨Rs.stop hst (by decide) hR.out (Nat.le_refl _) (Nat.le_refl _) (by simp only; omega), fun hh => (by cases hh)⟩
     | cons c cs =>
      have hst : stepM P q s = againM ⟨s.B, s.fresh, s.fuel - 1, rest, ⟨g, rest, c :: cs, s.B.length⟩ :: s.ch, s.ev⟩ := by
       unfold stepM; rw [hs]; simp only; rw [if_neg h0, if_neg hb, hfl2]
      have e1 : proveM P q (f + 1) (g' :: r') e p = tryM (proveM P q f) g' r' e (p.calls + 1) (c :: cs) ⟨p.fuel - 1, p.vars, p.calls + 1, p.out, p.ended⟩ := by rw [proveM, if_neg hp0, if_neg hb', hfit, hfl2]
      rw [e1]
      have hmemP : ∀ x ∈ c :: cs, x ∈ P := fun x hx => (List.mem_filter.1 (show x ∈ P.filter (fitsC g.1) by rw [hfl2]; exact hx)).1
      have hlenP : (c :: cs).length ≤ 24 := by
       have := List.length_filter_le (fitsC g.1) P
       rw [hfl2] at this; omega
      have hpush := (push_inv hR.inv hs h0 (fun x hx => hp2.2 x (hmemP x hx)) hlenP).1
      obtain ⟨c1, c2⟩ := try_sim ih (C := s.ch) (call := p.calls + 1) hR.bm hg1 hgl2 (List.pairwise_cons.1 hR.srt).2 (fun a ha b hb => hR.mono a (List.mem_cons_of_mem _ ha) b (List.mem_cons_of_mem _ hb))
       (fun a ha => ⟨Nat.le_trans (hmn a ha) hht.1, by have := (hR.ht a (List.mem_cons_of_mem _ ha)).2; omega⟩) hR.qv (c :: cs) _ ⟨p.fuel - 1, p.vars, p.calls + 1, p.out, p.ended⟩ hpush rfl ⟨[], rfl⟩ (by simp only; rw [hR.fuel]) hR.out hR.ev hR.ne hle hR.fb hR.fe hR.rho (Nat.le_refl _) (by simp only; omega) (fun x hx => hp2.2 x (hmemP x hx))
      refine ⟨c1.step (p := p) (Nat.le_refl _) (by simp only; omega) (by simp only; omega) ⟨[], rfl⟩ (fun L hL => goes_retry hst hL), fun hh => ?_⟩
      rcases c2 hh with c | ⟨a, ha, c⟩
      ·exact .inl c
      ·exact .inr ⟨a, List.mem_cons_of_mem _ ha, c⟩
end
end Go.Proofs.YtehhgmeaggempaaDoor
namespace Go.Proofs.YtehhgmeaggempaaDoor
open Go.RowKit
set_option linter.unusedVariables false
set_option linter.unusedSimpArgs false
theorem run_ne {P : List Cl} {q : Nat} (hp : pB P = true) : ∀ (n : Nat) (s : SS), Inv s → s.ev.length < 12 → mu s < n → runM P q n s ≠ []
 | 0, s, _, _, h => by omega
 | n + 1, s, hI, hev, hm => by
  obtain ⟨h1, h2⟩ := step_ok (vars := q) hI hev hp
  simp only [runM]
  by_cases h0 : (stepM P q s).1 = 0
  ·rw [if_pos h0]
   exact run_ne hp n _ (h1.go h0).1 (h2 h0) (by have := (h1.go h0).2; omega)
  ·rw [if_neg h0]; simp
theorem run_same {P : List Cl} {q : Nat} : ∀ (n m : Nat) (s : SS), runM P q n s ≠ [] → runM P q m s ≠ [] → runM P q n s = runM P q m s
 | 0, _, _, h, _ => absurd rfl h
 | _, 0, _, _, h => absurd rfl h
 | n + 1, m + 1, s, hn, hm => by
  simp only [runM] at hn hm ⊢
  by_cases h0 : (stepM P q s).1 = 0
  ·rw [if_pos h0] at hn hm ⊢
   rw [if_pos h0]
   exact run_same n m _ hn hm
  ·rw [if_neg h0, if_neg h0]
theorem Bm.start (V : Int) : Bm sysS sysD (TRel (addR (fun _ _ => False) 0 0 V)) [] [] := by
 have hl : ∀ t : Tm, lookM [] t = t := fun t => rfl
 refine ⟨trivial, trivial, fun _ => trivial, fun _ => trivial, fun {x y} hr => ?_, ?_⟩
 ·show VwR _ (tvw x) (tvw y)
  by_cases hk : x.k = 0
  ·rcases hr.cases with ⟨a, b, _⟩ | h
   ·unfold tvw; rw [if_pos a, if_pos b]; trivial
   ·exact absurd hk h.1
  ·exact hr.node_vw hk
 ·intro x y x' y' u u' v v' hr hr' e1 e2 e3 e4
  have key : ∀ {x y : Tm} {u v : Int}, TRel (addR (fun _ _ => False) 0 0 V) x y → tview [] x = .var u → tview [] y = .var v → u = v := by
   intro x y u v hr e1 e3
   obtain ⟨a1, a2⟩ := tview_var.1 e1
   obtain ⟨b1, b2⟩ := tview_var.1 e3
   rw [hl] at a1 a2
   rw [hl] at b1 b2
   rcases hr.cases with ⟨_, _, hv, _⟩ | h
   ·rcases hv with hv | ⟨i, _, _, h1, h2⟩
    ·exact hv.elim
    ·omega
   ·exact absurd a1 h.1
  have k1 := key hr e1 e3
  have k2 := key hr' e2 e4
  omega
theorem solved_eq (P : List Cl) (q : Ts) (vars fuel : Int) : solvedM P q vars fuel = allM P q vars fuel := by
 unfold solvedM allM
 by_cases h1 : pB P = false ∨ qB vars q = false
 ·rw [if_pos h1, if_pos h1]
 rw [if_neg h1, if_neg h1]
 by_cases h2 : fuel < 0 ∨ 150 < fuel
 ·rw [if_pos h2, if_pos h2]
 rw [if_neg h2, if_neg h2]
 have hp : pB P = true := by cases hh : pB P with | true => rfl | false => exact absurd (.inl hh) h1
 have hq : qB vars q = true := by cases hh : qB vars q with | true => rfl | false => exact absurd (.inr hh) h1
 have hq' := hq
 simp only [qB, Bool.and_eq_true, decide_eq_true_eq] at hq'
 obtain ⟨⟨⟨v0, v1⟩, v2⟩, v3⟩ := hq'
 obtain ⟨v, rfl⟩ : ∃ v : Nat, vars = (v : Nat) := ⟨vars.toNat, by omega⟩
 obtain ⟨f, rfl⟩ : ∃ f : Nat, fuel = (f : Nat) := ⟨fuel.toNat, by omega⟩
 simp only [Int.toNat_natCast]
 have hq8 : v ≤ 8 := by omega
 obtain ⟨hI, hmu⟩ := start_inv hq (show f ≤ 150 by omega)
 have hne := run_ne (q := v) hp 4000 (startM q v f) hI (by simp [startM]) (by omega)
 have hgoes : ∀ L, GoesTo P v (startM q v f) L → L = runM P v 4000 (startM q v f) := fun L ⟨n, e1, e2⟩ => by
  rw [← e1]; exact run_same n 4000 _ (by rw [e1]; exact e2) hne
 have hmem : ∀ a ∈ bodyT q 0 0 [], a.2 = 0 := fun a ha => by
  rcases body_mem q ha with e | e
  ·exact e
  ·cases e
 have hgl : Al (GlR (addR (fun _ _ => False) 0 0 (v : Nat)) (fun _ => 0)) (bodyG q 0 0 []) (bodyT q 0 0 []) := body_rel (by omega) (by omega) (by omega) (by omega) v1 rfl .nil q v3
 have hRl : Rl (addR (fun _ _ => False) 0 0 (v : Nat)) (fun _ => 0) v (startM q v f) (bodyT q 0 0 []) [] ⟨f, v, 0, [], false⟩ := by
  refine ⟨rfl, rfl, by simp [startM], rfl, Bm.start _, fun x hx => (by cases hx), fun x hx => (by cases hx), ?_, Nat.le_refl _, fun x hx => .inr ⟨x, by omega, by omega, by omega, by omega⟩, hgl, body_srt .nil (fun a ha => (by cases ha)) q, fun _ _ _ _ _ => Nat.le_refl _, fun a ha => ⟨Nat.zero_le _, by rw [hmem a ha]; exact Nat.le_refl _⟩, hI⟩
  rintro u w (hh | ⟨i, i0, i1, rfl, rfl⟩)
  ·exact hh.elim
  ·show i + 0 < ((v : Nat) : Int) ∧ i + 0 < ((v : Nat) : Int); omega
 obtain ⟨hRs, hm⟩ := prove_sim hp hq8 f _ _ _ _ _ _ hRl (Nat.le_refl _)
 generalize proveM P v f (bodyT q 0 0 []) [] ⟨f, v, 0, [], false⟩ = r at hRs hm ⊢
 cases hen : r.2.ended with
 | true =>
  rw [if_pos rfl, hgoes _ (hRs.en hen)]
 | false =>
  rw [if_neg (by decide)]
  obtain ⟨t, b1, b2, b3, b4, b5, b6, b7, b8, b9⟩ := hRs.go hen
  have hch : t.ch = [] := by
   rw [b2]; unfold cutC
   split
   ·rfl
   ·simp [startM]
  have ha : againM t = (2, t) := by
   unfold againM retryM
   rw [hch]
  have hr : Retry P v t (evsOf t.ev ++ [(2, .nil)]) := .inr ⟨by rw [ha]; show (2 : Int) ≠ 0; decide, by rw [ha]⟩
  rw [b4, hgoes _ (b9 _ hr)]
end Go.Proofs.YtehhgmeaggempaaDoor
namespace Go.Proofs.YtehhgmeaggempaaDoor
open Go.RowKit
def Ts.same : Ts → Ts → Bool
 | .nil, .nil => true
 | .cons k n s ar r, .cons k' n' s' ar' r' => decide (k = k') && decide (n = n') && decide (s = s') && ar.same ar' && r.same r'
 | _, _ => false
theorem Ts.same_iff (T : Ts) : ∀ U : Ts, T.same U = true ↔ T = U := by
 induction T with
 | nil => intro U; cases U <;> simp [same]
 | cons k n s ar r iha ihr =>
  intro U
  cases U with
  | nil => simp [same]
  | cons k' n' s' ar' r' => simp [same, iha, ihr, and_assoc]
def same1 (k n : Int) (s : ByteArray) (ar : Ts) (k' n' : Int) (s' : ByteArray) (ar' : Ts) : Bool := decide (k = k') && decide (n = n') && decide (s = s') && ar.same ar'
def SameRel (W : World) (T U : Ts) (g : Nat) (s37 : Value) (wr : World) : Prop :=
 ∃ D R R' : Ts, T = D.app R ∧ U = D.app R' ∧ R.length = R'.length ∧ g = R.length ∧ s37 = .int .i64 D.length ∧ Below W.heap.size W wr
theorem same1_iff {k n : Int} {s : ByteArray} {ar : Ts} {k' n' : Int} {s' : ByteArray} {ar' : Ts} : same1 k n s ar k' n' s' ar' = true ↔ k = k' ∧ n = n' ∧ s = s' ∧ ar = ar' := by
 simp [same1, Ts.same_iff, and_assoc]
theorem Ts.app_inj {D R R' : Ts} (h : D.app R = D.app R') : R = R' := by
 induction D with
 | nil => exact h
 | cons k n s ar r _ ih => simp only [Ts.app, Ts.cons.injEq] at h; exact ih h.2.2.2.2
theorem Ts.same_stop {T U D r1 r2 a1 a2 : Ts} {k1 n1 k2 n2 : Int} {s1 s2 : ByteArray} (hT : T = D.app (.cons k1 n1 s1 a1 r1)) (hU : U = D.app (.cons k2 n2 s2 a2 r2))
  (h : same1 k1 n1 s1 a1 k2 n2 s2 a2 = false) : T.same U = false := by
 rw [Bool.eq_false_iff, ne_eq, Ts.same_iff, hT, hU]
 intro e
 have := Ts.app_inj e
 simp only [Ts.cons.injEq] at this
 rw [Bool.eq_false_iff, ne_eq, same1_iff] at h
 exact h ⟨this.1, this.2.1, this.2.2.1, this.2.2.2.1⟩
theorem SameRel.step {W wr w2 : World} {T U D r1 r2 a1 a2 : Ts} {k1 n1 k2 n2 : Int} {s1 s2 : ByteArray} (hT : T = D.app (.cons k1 n1 s1 a1 r1)) (hU : U = D.app (.cons k2 n2 s2 a2 r2))
  (hR : (Ts.cons k1 n1 s1 a1 r1).length = (Ts.cons k2 n2 s2 a2 r2).length) (h : same1 k1 n1 s1 a1 k2 n2 s2 a2 = true) (hb : Below W.heap.size W wr) (hb2 : Below wr.heap.size wr w2) :
  SameRel W T U r1.length (.int .i64 ((D.length : Int) + 1)) w2 := by
 obtain ⟨rfl, rfl, rfl, rfl⟩ := same1_iff.1 h
 refine ⟨D.app (.cons k1 n1 s1 a1 .nil), r1, r2, by rw [hT, Ts.app_assoc]; rfl, by rw [hU, Ts.app_assoc]; rfl, by simpa [Ts.length] using hR, rfl, ?_, hb.trans (hb2.mono hb.size)⟩
 rw [Ts.length_app]; rfl
end Go.Proofs.YtehhgmeaggempaaDoor
namespace Go.Proofs.YtehhgmeaggempaaDoor.R
open Go.RowKit
set_option maxRecDepth 100000
def SameSaid (T U : Ts) : Prop := ∀ (k n : Int) (s : ByteArray) (v : Value) (k' n' : Int) (s' : ByteArray) (v' : Value) (w : World), Sl w (fun _ => True) v T → Sl w (fun _ => True) v' U → T.nodes ≤ 1073741824 → U.nodes ≤ 1073741824 →
    Calls Tryd.prog 83 #[.agg #[.int .i64 k, .int .i64 n, .string s, v], .agg #[.int .i64 k', .int .i64 n', .string s', v']] w fun e w' => e = .returned (.bool (same1 k n s T k' n' s' U)) ∧ Below w.heap.size w w'
set_option maxHeartbeats 400000 in
theorem sameTerm_of (m : Nat) (ih : ∀ T U : Ts, T.nodes < m → SameSaid T U) (T U : Ts) (hm : T.nodes ≤ m) : SameSaid T U := by
 intro k n s v k' n' s' v' w hv hv' hT hU
 obtain ⟨A, c, rfl, hs⟩ := hv.form
 obtain ⟨A', c', rfl, hs'⟩ := hv'.form
 have hle := T.length_le
 by_cases hk : k ≠ k'
 ·have r : same1 k n s T k' n' s' U = false := by simp [same1, hk]
  rw [r]
  have hk' : (k != k') = true := by simp [hk]
  clear r hk
  go_enter Tryd.func83, Tryd.ntmps83
  go_wp2_with fail
  go_ret
  exact ⟨rfl, ((Below.refl _ _).alloc (Nat.le_refl _) _).alloc (by simp) _⟩
 obtain rfl : k = k' := by simpa using hk
 by_cases hn : n ≠ n'
 ·have r : same1 k n s T k n' s' U = false := by simp [same1, hn]
  rw [r]
  have hn' : (n != n') = true := by simp [hn]
  clear r hk hn
  go_enter Tryd.func83, Tryd.ntmps83
  go_wp2_with fail
  go_ret
  exact ⟨rfl, ((Below.refl _ _).alloc (Nat.le_refl _) _).alloc (by simp) _⟩
 obtain rfl : n = n' := by simpa using hn
 by_cases hs0 : s ≠ s'
 ·have r : same1 k n s T k n s' U = false := by simp [same1, hs0]
  rw [r]
  have hs1 : (s.toList == s'.toList) = false := by simp [str_eq, hs0]
  clear r hk hn hs0
  go_enter Tryd.func83, Tryd.ntmps83
  go_wp2_with fail
  go_ret
  exact ⟨rfl, ((Below.refl _ _).alloc (Nat.le_refl _) _).alloc (by simp) _⟩
 obtain rfl : s = s' := by simpa using hs0
 by_cases hl : T.length ≠ U.length
 ·have r : same1 k n s T k n s U = false := by
   have : T.same U = false := by
    rw [Bool.eq_false_iff, ne_eq, Ts.same_iff]; exact fun e => hl (by rw [e])
   simp [same1, this]
  rw [r]
  have hl' : ((T.length : Int) != (U.length : Int)) = true := by rw [bne_iff_ne]; omega
  clear r hk hn hs0
  go_enter Tryd.func83, Tryd.ntmps83
  go_wp2_with fail
  go_ret
  exact ⟨rfl, ((Below.refl _ _).alloc (Nat.le_refl _) _).alloc (by simp) _⟩
 have hl' : ((T.length : Int) != (U.length : Int)) = false := by rw [bne_eq_false_iff_eq]; omega
 have r : same1 k n s T k n s U = T.same U := by simp [same1]
 rw [r]
 have HL : Hid (T.length = U.length) := Lib.hid (by simpa using hl)
 clear r hk hn hs0 hl
 have h0 : SameRel ((w.alloc (.cells #[.int .i64 k, .int .i64 n, .string s, .slice A T.length c] 24)).alloc (.cells #[.int .i64 k, .int .i64 n, .string s, .slice A' U.length c'] 24)) T U T.length (.int .i64 0)
   ((w.alloc (.cells #[.int .i64 k, .int .i64 n, .string s, .slice A T.length c] 24)).alloc (.cells #[.int .i64 k, .int .i64 n, .string s, .slice A' U.length c'] 24)) :=
  ⟨.nil, T, U, rfl, rfl, HL.out, rfl, rfl, Below.refl _ _⟩
 have hW : Below w.heap.size w ((w.alloc (.cells #[.int .i64 k, .int .i64 n, .string s, .slice A T.length c] 24)).alloc (.cells #[.int .i64 k, .int .i64 n, .string s, .slice A' U.length c'] 24)) :=
  ((Below.refl _ _).alloc (Nat.le_refl _) _).alloc (by simp) _
 go_enter Tryd.func83, Tryd.ntmps83
 go_wp2_with fail
 go_loopg [37] T.length (SameRel ((w.alloc (.cells #[.int .i64 k, .int .i64 n, .string s, .slice A T.length c] 24)).alloc (.cells #[.int .i64 k, .int .i64 n, .string s, .slice A' U.length c'] 24)) T U)
 case atStart => exact h0
 case round =>
  clear h0
  obtain ⟨D, R, R', eT, eU, eR, eg, rfl, hb⟩ := hrel
  have hbw : Below w.heap.size w wr := hW.trans (hb.mono (by simp; omega))
  cases R with
  | nil =>
   have e1 : D.length = T.length := by rw [eT, Ts.app_nil]
   have hres : T.same U = true := by
    rw [Ts.same_iff, eT, eU, Ts.nil_of_length (T := R') eR.symm]
   have HS := Lib.hid hres
   clear hres eT eU eR eg
   go_wp2_with fail
   go_ret
   exact ⟨by rw [HS.out]; rfl, hbw⟩
  | cons k1 n1 s1 a1 r1 =>
   cases R' with
   | nil => simp [Ts.length] at eR
   | cons k2 n2 s2 a2 r2 =>
   obtain ⟨f0, f1, f2, f3, ff⟩ := (((Plot.new w 24 #[.int .i64 k, .int .i64 n, .string s, .slice A T.length c]).alloc (.cells #[.int .i64 k, .int .i64 n, .string s, .slice A' U.length c'] 24)).below hb).four
   obtain ⟨g0, g1, g2, g3, gf⟩ := ((Plot.new (w.alloc (.cells #[.int .i64 k, .int .i64 n, .string s, .slice A T.length c] 24)) 24 #[.int .i64 k, .int .i64 n, .string s, .slice A' U.length c']).below hb).four
   simp only [World.size_alloc] at g3
   clear f0 f1 f2 ff g0 g1 g2 gf
   have e1 : D.length < T.length := by rw [eT, Ts.length_app]; simp [Ts.length]
   have e2 : D.length < U.length := by rw [eU, Ts.length_app]; simp [Ts.length]
   have e3 : a1.nodes < m ∧ a1.nodes ≤ 1073741824 := by rw [eT, Ts.nodes_app] at hm hT; simp [Ts.nodes] at hm hT; omega
   have e4 : a2.nodes ≤ 1073741824 := by rw [eU, Ts.nodes_app] at hU; simp [Ts.nodes] at hU; omega
   have hs2 := (hs.below hbw)
   have hs3 := (hs'.below hbw)
   obtain ⟨b1, o1, rfl, hq1⟩ := Sl.at_ (D := D) (R := .cons k1 n1 s1 a1 r1) (by rw [← eT]; exact hs2) (by simp [Ts.length])
   obtain ⟨b2, o2, rfl, hq2⟩ := Sl.at_ (D := D) (R := .cons k2 n2 s2 a2 r2) (by rw [← eU]; exact hs3) (by simp [Ts.length])
   obtain ⟨_, c10, c11, c12, ⟨v1, c13, hv1⟩, _⟩ := seg_cons.1 hq1
   obtain ⟨_, c20, c21, c22, ⟨v2, c23, hv2⟩, _⟩ := seg_cons.1 hq2
   have HT := Lib.hid eT
   have HU := Lib.hid eU
   have HG := Lib.hid eg
   have HR := Lib.hid eR
   clear eT eU eg eR hs2 hs3 hq1 hq2
   go_wp2_with fail
   go_still_tail 10, (by kernel_rfl)
   change wpList _ _ _ _ _ wr.drew
   obtain ⟨A1, d1, rfl, hv1⟩ := hv1.form
   obtain ⟨A2, d2, rfl, hv2⟩ := hv2.form
   go_wp2_with fail
   refine (ih a1 a2 e3.1 k1 n1 s1 _ k2 n2 s2 _ _ ?_ ?_ e3.2 e4).mono ?_
   ·exact hv1.below (below_drewN _ wr 1)
   ·exact hv2.below (below_drewN _ wr 1)
   rintro e w2 ⟨rfl, hb2⟩
   have hb3 : Below wr.heap.size wr w2 := (below_drewN _ wr 1).trans hb2
   cases hsame : same1 k1 n1 s1 a1 k2 n2 s2 a2 with
   | false =>
    have hres : T.same U = false := Ts.same_stop HT.out HU.out hsame
    have HS := Lib.hid hres
    clear hres hsame
    go_wp2_with fail
    go_ret
    exact ⟨by rw [HS.out]; rfl, hbw.trans (hb3.mono hbw.size)⟩
   | true =>
    have HS := Lib.hid hsame
    clear hsame
    go_wp2_with fail
    go_roundg r1.length
    case measure => rw [HG.out]; simp [Ts.length]
    case rel => exact SameRel.step HT.out HU.out HR.out HS.out hb hb3
theorem same_said (T U : Ts) : SameSaid T U := by
 have : ∀ m, ∀ T U : Ts, T.nodes < m → SameSaid T U := by
  intro m
  induction m with
  | zero => intro T U h; omega
  | succ m ih => intro T U h; exact sameTerm_of m ih T U (by omega)
 exact this _ T U (Nat.lt_succ_self _)
set_option maxHeartbeats 400000 in
theorem sameTerms_any (T U : Ts) (v v' : Value) (w : World) (hv : Sl w (fun _ => True) v T) (hv' : Sl w (fun _ => True) v' U) (hT : T.nodes ≤ 1073741824) (hU : U.nodes ≤ 1073741824) :
  Calls Tryd.prog 59 #[v, v'] w fun e w' => e = .returned (.bool (T.same U)) ∧ Below w.heap.size w w' := by
 obtain ⟨A, c, rfl, hs⟩ := hv.form
 obtain ⟨A', c', rfl, hs'⟩ := hv'.form
 have hle := T.length_le
 by_cases hl : T.length ≠ U.length
 ·have r : T.same U = false := by
   rw [Bool.eq_false_iff, ne_eq, Ts.same_iff]; exact fun e => hl (by rw [e])
  rw [r]
  have hl' : ((T.length : Int) != (U.length : Int)) = true := by rw [bne_iff_ne]; omega
  clear r
  go_enter Tryd.func59, Tryd.ntmps59
  go_wp2_with fail
  go_ret
  exact ⟨rfl, Below.refl _ _⟩
 have hl' : ((T.length : Int) != (U.length : Int)) = false := by rw [bne_eq_false_iff_eq]; omega
 have HL : Hid (T.length = U.length) := Lib.hid (by simpa using hl)
 clear hl
 have h0 : SameRel w T U T.length (.int .i64 0) w := ⟨.nil, T, U, rfl, rfl, HL.out, rfl, rfl, Below.refl _ _⟩
 go_enter Tryd.func59, Tryd.ntmps59
 go_wp2_with fail
 go_loopg [13] T.length (SameRel w T U)
 case atStart => exact h0
 case round =>
  clear h0
  obtain ⟨D, R, R', eT, eU, eR, eg, rfl, hb⟩ := hrel
  cases R with
  | nil =>
   have e1 : D.length = T.length := by rw [eT, Ts.app_nil]
   have hres : T.same U = true := by
    rw [Ts.same_iff, eT, eU, Ts.nil_of_length (T := R') eR.symm]
   have HS := Lib.hid hres
   clear hres eT eU eR eg
   go_wp2_with fail
   go_ret
   exact ⟨by rw [HS.out]; rfl, hb⟩
  | cons k1 n1 s1 a1 r1 =>
   cases R' with
   | nil => simp [Ts.length] at eR
   | cons k2 n2 s2 a2 r2 =>
   have e1 : D.length < T.length := by rw [eT, Ts.length_app]; simp [Ts.length]
   have e2 : D.length < U.length := by rw [eU, Ts.length_app]; simp [Ts.length]
   have e3 : a1.nodes ≤ 1073741824 := by rw [eT, Ts.nodes_app] at hT; simp [Ts.nodes] at hT; omega
   have e4 : a2.nodes ≤ 1073741824 := by rw [eU, Ts.nodes_app] at hU; simp [Ts.nodes] at hU; omega
   have hs2 := (hs.below hb)
   have hs3 := (hs'.below hb)
   obtain ⟨b1, o1, rfl, hq1⟩ := Sl.at_ (D := D) (R := .cons k1 n1 s1 a1 r1) (by rw [← eT]; exact hs2) (by simp [Ts.length])
   obtain ⟨b2, o2, rfl, hq2⟩ := Sl.at_ (D := D) (R := .cons k2 n2 s2 a2 r2) (by rw [← eU]; exact hs3) (by simp [Ts.length])
   obtain ⟨_, c10, c11, c12, ⟨v1, c13, hv1⟩, _⟩ := seg_cons.1 hq1
   obtain ⟨_, c20, c21, c22, ⟨v2, c23, hv2⟩, _⟩ := seg_cons.1 hq2
   have HT := Lib.hid eT
   have HU := Lib.hid eU
   have HG := Lib.hid eg
   have HR := Lib.hid eR
   clear eT eU eg eR hs2 hs3 hq1 hq2
   go_wp2_with fail
   go_still_tail 8, (by kernel_rfl)
   change wpList _ _ _ _ _ wr.drew
   obtain ⟨A1, d1, rfl, hv1⟩ := hv1.form
   obtain ⟨A2, d2, rfl, hv2⟩ := hv2.form
   go_wp2_with fail
   refine (same_said a1 a2 k1 n1 s1 _ k2 n2 s2 _ _ ?_ ?_ e3 e4).mono ?_
   ·exact hv1.below (below_drewN _ wr 1)
   ·exact hv2.below (below_drewN _ wr 1)
   rintro e w2 ⟨rfl, hb2⟩
   have hb3 : Below wr.heap.size wr w2 := (below_drewN _ wr 1).trans hb2
   cases hsame : same1 k1 n1 s1 a1 k2 n2 s2 a2 with
   | false =>
    have hres : T.same U = false := Ts.same_stop HT.out HU.out hsame
    have HS := Lib.hid hres
    clear hres hsame
    go_wp2_with fail
    go_ret
    exact ⟨by rw [HS.out]; rfl, hb.trans (hb3.mono hb.size)⟩
   | true =>
    have HS := Lib.hid hsame
    clear hsame
    go_wp2_with fail
    go_roundg r1.length
    case measure => rw [HG.out]; simp [Ts.length]
    case rel => exact SameRel.step HT.out HU.out HR.out HS.out hb hb3
end Go.Proofs.YtehhgmeaggempaaDoor.R
namespace Go.Proofs.YtehhgmeaggempaaDoor
open Go.RowKit
set_option linter.unusedVariables false
set_option linter.unusedSimpArgs false
set_option maxRecDepth 100000
set_option maxHeartbeats 1000000
theorem sameEvents_any (L K : List KE) (A B : Option Addr) (c d : Nat) (w : World) (hL : KER L A c w) (hK : KER K B d w) (hev : L.map KE.ev = K.map KE.ev) (hl : L.length ≤ 1000) (hn : ∀ x ∈ L, x.T.ts.nodes ≤ 1073741824) :
  Calls Tryd.prog 36 #[.slice A L.length c, .slice B K.length d] w fun e w' => e = .returned (.bool true) ∧ Below w.heap.size w w' := by
 have hS := St.start w
 have hlk : K.length = L.length := by have := congrArg List.length hev; simpa using this.symm
 rw [hlk]
 refine goes_enter2 Tryd.func36 rfl Tryd.ntmps36 rfl ?_
 refine goes_seq ?_
 refine goes_region ?_
 refine lst_run (run_assign (by conv=>lhs;whnf)) rfl ?_
 refine lst_done ?_
 refine goes_seq ?_
 refine goes_seq ?_
 refine goes_region ?_
 refine lst_run (run_move (by conv=>lhs;whnf)) rfl ?_
 refine lst_run (run_len_slice rfl rfl rfl) rfl ?_
 refine lst_run (run_move (by conv=>lhs;whnf)) rfl ?_
 refine lst_run (run_len_slice rfl rfl rfl) rfl ?_
 refine lst_run (run_neq_one_int rfl rfl) rfl ?_
 refine lst_done ?_
 refine goes_false rfl ?_
 refine goes_skip ?_
 refine goes_seq ?_
 refine goes_seq ?_
 refine goes_region ?_
 refine lst_run (run_move (by conv=>lhs;whnf)) rfl ?_
 refine lst_run (run_len_slice rfl rfl rfl) rfl ?_
 refine lst_run (run_move (by conv=>lhs;whnf)) rfl ?_
 refine lst_done ?_
 refine goes_block ?_
 refine goes_loop1 13 (14 :: 15 :: 5 :: 16 :: 17 :: 18 :: 19 :: 20 :: 21 :: 22 :: 23 :: 24 :: 25 :: 26 :: 27 :: 28 :: 29 :: 30 :: 31 :: 32 :: 33 :: 34 :: 35 :: 36 :: 37 :: 38 :: 39 :: 40 :: 4 :: 41 :: []) (fun (R : List KE) v w' => St [] w [] [] w' ∧ ∃ D D' R', L = D ++ R ∧ K = D' ++ R' ∧ D'.length = D.length ∧ R.map KE.ev = R'.map KE.ev ∧ v = .int .i64 (D.length : Nat)) (fun R => R.length) (L) ?_ (by conv=>lhs;whnf) ?_
 ·exact ⟨hS, [], [], K, rfl, rfl, rfl, hev, rfl⟩
 clear hS
 rintro R2 v2 w6 jv2 ⟨hS, D, D', R', hD, hD', hDD, hRR, rfl⟩ ih
 have hlen2 : L.length = D.length + R2.length := by rw [hD]; simp
 cases R2 with
 | nil =>
  simp only [List.length_nil] at hlen2
  refine goes_seq ?_
  refine goes_region ?_
  refine lst_run (run_lss_no rfl rfl (by omega)) rfl ?_
  refine lst_done ?_
  refine goes_seq ?_
  refine goes_false rfl ?_
  refine goes_exit rfl ?_
  refine goes_seq ?_
  refine goes_region ?_
  refine lst_run (run_assign (by conv=>lhs;whnf)) rfl ?_
  refine lst_done ?_
  refine goes_ret1 Tryd.func36 rfl (by conv=>lhs;whnf) ?_
  exact ⟨rfl, hS.ext.below⟩
 | cons x r =>
  cases R' with
  | nil => simp at hRR
  | cons y r' =>
  simp only [List.length_cons] at hlen2
  simp only [List.map_cons, List.cons.injEq] at hRR
  obtain ⟨hxy, hrr⟩ := hRR
  obtain ⟨b6, o6, rfl⟩ := hL.some_ (by omega)
  obtain ⟨b8, o8, rfl⟩ := hK.some_ (by omega)
  have hL' := hL
  have hK' := hK
  rw [hD] at hL'
  rw [hD'] at hK'
  obtain ⟨p0, p1⟩ := hL'.cells
  obtain ⟨q0, q1⟩ := hK'.cells
  have px := hL'.2.2 x (by simp)
  have py := hK'.2.2 y (by simp)
  clear hL' hK'
  rw [hDD] at q0 q1
  have hk : y.k = x.k := (congrArg Prod.fst hxy).symm
  have ht : y.T.ts = x.T.ts := (congrArg Prod.snd hxy).symm
  rw [hk] at q0
  have hno := hn x (by rw [hD]; simp)
  have hsames : ∀ w', St [] w [] [] w' → Calls Tryd.prog 59 #[.slice x.A x.T.len x.c, .slice y.A y.T.len y.c] w' fun e w'' => e = .returned (.bool true) ∧ Below w'.heap.size w' w'' := by
   intro w' h
   have := R.sameTerms_any x.T.ts y.T.ts _ _ w' (px.sl.below h.ext.below) (py.sl.below h.ext.below) hno (by rw [ht]; exact hno)
   rw [(Ts.same_iff _ _).2 ht.symm] at this
   exact this
  refine goes_seq ?_
  refine goes_region ?_
  refine lst_run (run_lss_yes rfl rfl (by omega)) rfl ?_
  refine lst_done ?_
  refine goes_seq ?_
  refine goes_true rfl ?_
  refine goes_skip ?_
  refine goes_seq ?_
  refine goes_block ?_
  refine goes_seq ?_
  refine goes_region ?_
  refine lst_run (run_move (by conv=>lhs;whnf)) rfl ?_
  refine lst_run (run_assign (by conv=>lhs;whnf)) rfl ?_
  refine lst_done ?_
  refine goes_seq ?_
  refine goes_draw (St [] w [] []) 25 ((0, true) :: (1, true) :: (2, true) :: (3, true) :: (4, true) :: (5, true) :: (6, true) :: (7, true) :: (8, true) :: (9, true) :: (10, true) :: (11, true) :: (12, true) :: (13, true) :: (14, true) :: (15, true) :: (16, true) :: (17, true) :: (18, true) :: (19, true) :: (20, true) :: (21, true) :: (22, false) :: (23, true) :: (24, true) :: []) (by kernel_rfl) (by kernel_rfl) (hS.drew) ?_
  replace hS := hS.drew
  refine ord_read rfl (fun _ hS => run_move (by conv=>lhs;whnf)) rfl ?_
  refine ord_read rfl (fun _ hS => run_move (by conv=>lhs;whnf)) rfl ?_
  refine ord_read rfl (fun _ hS => run_indexAddr (sz := 2) rfl rfl rfl rfl (by omega) (by omega)) rfl ?_
  refine ord_read rfl (fun _ hS => run_fieldAddr (off := 0) rfl rfl) rfl ?_
  refine ord_read rfl (fun _ hS => run_load1 rfl rfl (by exact hS.cell0 (by assumption))) rfl ?_
  refine ord_read rfl (fun _ hS => run_move (by conv=>lhs;whnf)) rfl ?_
  refine ord_read rfl (fun _ hS => run_move (by conv=>lhs;whnf)) rfl ?_
  refine ord_read rfl (fun _ hS => run_indexAddr (sz := 2) rfl rfl rfl rfl (by omega) (by omega)) rfl ?_
  refine ord_read rfl (fun _ hS => run_fieldAddr (off := 0) rfl rfl) rfl ?_
  refine ord_read rfl (fun _ hS => run_load1 rfl rfl (by exact hS.cell0 (by assumption))) rfl ?_
  refine ord_read rfl (fun _ hS => run_neq_one_int rfl rfl) rfl ?_
  refine ord_read rfl (fun _ hS => run_move (by conv=>lhs;whnf)) rfl ?_
  refine ord_readG rfl rfl rfl (fun _ hS => run_move (by conv=>lhs;whnf)) rfl ?_
  refine ord_readG rfl rfl rfl (fun _ hS => run_move (by conv=>lhs;whnf)) rfl ?_
  refine ord_readG rfl rfl rfl (fun _ hS => run_indexAddr (sz := 2) rfl rfl rfl rfl (by omega) (by omega)) rfl ?_
  refine ord_readG rfl rfl rfl (fun _ hS => run_fieldAddr (off := 1) rfl rfl) rfl ?_
  refine ord_readG rfl rfl rfl (fun _ hS => run_load1 rfl rfl (by exact hS.cell0 (by assumption))) rfl ?_
  refine ord_readG rfl rfl rfl (fun _ hS => run_move (by conv=>lhs;whnf)) rfl ?_
  refine ord_readG rfl rfl rfl (fun _ hS => run_move (by conv=>lhs;whnf)) rfl ?_
  refine ord_readG rfl rfl rfl (fun _ hS => run_indexAddr (sz := 2) rfl rfl rfl rfl (by omega) (by omega)) rfl ?_
  refine ord_readG rfl rfl rfl (fun _ hS => run_fieldAddr (off := 1) rfl rfl) rfl ?_
  refine ord_readG rfl rfl rfl (fun _ hS => run_load1 rfl rfl (by exact hS.cell0 (by assumption))) rfl ?_
  refine ord_act rfl ?_
  refine lst_guard rfl rfl ?_
  refine lst_enter (run_call (by kernel_rfl) (args_2 (by conv=>lhs;whnf) (by conv=>lhs;whnf))) rfl ?_
  refine Calls.mono (hsames _ hS) ?_
  rintro _ w8 ⟨rfl, hb8⟩
  refine ⟨_, rfl, ?_⟩
  replace hS := hS.grow hb8
  refine lst_ord hS ?_
  refine ord_readG rfl rfl rfl (fun _ hS => rfl) rfl ?_
  refine ord_read rfl (fun _ hS => run_pick_f rfl (by conv=>lhs;whnf)) rfl ?_
  refine ord_end ?_
  refine lst_done ?_
  refine goes_false rfl ?_
  refine goes_skip ?_
  refine goes_inBlock ?_
  refine goes_region ?_
  refine lst_run (run_add rfl rfl (by omega) (by omega)) rfl ?_
  refine lst_run (run_move (by conv=>lhs;whnf)) rfl ?_
  refine lst_done ?_
  refine ih (r) _ _ _ ?_ ?_ (by conv=>lhs;whnf) (by kernel_rfl)
  ·simp
  ·exact ⟨hS, D ++ [x], D' ++ [y], r', by rw [hD, List.append_assoc]; rfl, by rw [hD', List.append_assoc]; rfl, by simp [hDD], hrr, by simp⟩
end Go.Proofs.YtehhgmeaggempaaDoor
namespace Go.Proofs.YtehhgmeaggempaaDoor
set_option linter.unusedVariables false
def okV (V : Int) (t : Tm) : Prop := (Ts.cons t.k t.n t.s t.ar .nil).good V = true
theorem good_one (V : Int) (k n : Int) (s : ByteArray) (a r : Ts) : (Ts.cons k n s a r).good V = ((Ts.cons k n s a .nil).good V && r.good V) := by simp [Ts.good]
theorem mapL_good {V : Int} {g : Tm → Nat → Option (Tm × Nat)} (hg : ∀ t l p, okV V t → g t l = some p → okV V p.1) : ∀ (T : Ts) (l : Nat) (p : Ts × Nat), T.good V = true → mapL g T l = some p → p.1.good V = true ∧ p.1.length = T.length
 | .nil, l, p, _, h => by
  simp only [mapL, Option.some.injEq] at h
  subst h
  exact ⟨rfl, rfl⟩
 | .cons k n s a r, l, p, hT, h => by
  rw [good_one, Bool.and_eq_true] at hT
  rw [mapL_cons] at h
  cases h1 : g ⟨k, n, s, a⟩ l with
  | none => rw [h1] at h; cases h
  | some q =>
   rw [h1, Option.bind_some] at h
   cases h2 : mapL g r q.2 with
   | none => rw [h2] at h; cases h
   | some x =>
    rw [h2, Option.map_some, Option.some.injEq] at h
    subst h
    obtain ⟨i1, i2⟩ := mapL_good hg r q.2 x hT.2 h2
    have := hg ⟨k, n, s, a⟩ l q hT.1 h1
    refine ⟨?_, by simp only [Ts.length, i2]⟩
    rw [good_one, Bool.and_eq_true]; exact ⟨this, i1⟩
theorem app_good {V : Int} {B : Bnd} (hB : ∀ x ∈ B, okV V x.2) : ∀ (f : Nat) (t : Tm) (l : Nat) (p : Tm × Nat), okV V t → appM B f t l = some p → okV V p.1
 | 0, t, l, p, _, h => by cases h
 | f + 1, t, l, p, ht, h => by
  have hl := look_Q (Q := okV V) hB ht
  rw [appM_succ] at h
  by_cases h0 : l = 0
  ·rw [if_pos h0] at h; cases h
  ·rw [if_neg h0] at h
   cases h1 : mapL (appM B f) (lookM B t).ar (l - 1) with
   | none => rw [h1] at h; cases h
   | some q =>
    rw [h1, Option.map_some, Option.some.injEq] at h
    subst h
    unfold okV at hl ⊢
    simp only [Ts.good, Bool.and_eq_true] at hl ⊢
    obtain ⟨i1, i2⟩ := mapL_good (fun t l p h1 h2 => app_good hB f t l p h1 h2) _ _ _ hl.1.2 h1
    exact ⟨⟨by rw [i2]; exact hl.1.1, i1⟩, trivial⟩
theorem varsM_good {B : Bnd} (hB : ∀ x ∈ B, okV 549755813888 x.2) : ∀ (m v l : Nat) (p : Ts × Nat), v + m ≤ 1000 → varsM B m v l = some p → p.1.good 549755813888 = true
 | 0, v, l, p, _, h => by
  simp only [varsM, Option.some.injEq] at h
  subst h
  rfl
 | m + 1, v, l, p, hv, h => by
  rw [varsM_succ] at h
  cases h1 : appM B 201 ⟨0, v, ⟨#[]⟩, .nil⟩ l with
  | none => rw [h1] at h; cases h
  | some q =>
   rw [h1, Option.bind_some] at h
   cases h2 : varsM B m (v + 1) q.2 with
   | none => rw [h2] at h; cases h
   | some x =>
    rw [h2, Option.map_some, Option.some.injEq] at h
    subst h
    have h3 : okV 549755813888 ⟨0, v, ⟨#[]⟩, .nil⟩ := by
     unfold okV
     simp only [Ts.good, Bool.and_eq_true, and_true]
     unfold nodeB
     rw [if_pos rfl]
     simp only [Bool.and_eq_true, decide_eq_true_eq]
     exact ⟨⟨⟨by omega, by omega⟩, toList_mk []⟩, rfl⟩
    have := app_good hB 201 _ l q h3 h1
    show (Ts.cons _ _ _ _ x.1).good _ = true
    rw [good_one, Bool.and_eq_true]
    exact ⟨this, varsM_good hB m (v + 1) q.2 x (by omega) h2⟩
theorem numS_le (ks : List Int) (n : Int) : (numS ks n).length ≤ ks.length + 1 ∧ ks.length ≤ (numS ks n).length := by
 unfold numS
 split
 ·omega
 ·simp
theorem numV_le (ks : List Int) (n : Int) : 0 ≤ numV ks n ∧ numV ks n ≤ ks.length := by
 unfold numV
 cases h : pos n ks with
 | none => simp
 | some j => have := pos_lt h; simp; omega
theorem tidy_good {V : Int} (u : Nat) (T : Ts) : ∀ ks : List Int, T.good V = true → ks.length + T.nodes ≤ u → (T.tidyFrom ks).1.good u = true ∧ (T.tidyFrom ks).2.length ≤ ks.length + T.nodes ∧ (T.tidyFrom ks).1.length = T.length ∧ (T.tidyFrom ks).1.nodes = T.nodes := by
 induction T with
 | nil => intro ks _ _; exact ⟨rfl, Nat.le_refl _, rfl, rfl⟩
 | cons k n s ar r iha ihr =>
  intro ks hg hu
  simp only [Ts.good, Bool.and_eq_true] at hg
  simp only [Ts.nodes] at hu
  have hl : (tS k n ks).length ≤ ks.length + 1 := by
   unfold tS; split
   ·exact (numS_le ks n).1
   ·omega
  obtain ⟨a1, a2, a3, a4⟩ := iha (tS k n ks) hg.1.2 (by omega)
  obtain ⟨b1, b2, b3, b4⟩ := ihr (ar.tidyFrom (tS k n ks)).2 hg.2 (by omega)
  rw [Ts.tidyFrom_cons]
  refine ⟨?_, ?_, ?_, ?_⟩
  ·simp only [Ts.good, Bool.and_eq_true]
   refine ⟨⟨?_, a1⟩, b1⟩
   rw [a3]
   have hn := hg.1.1
   unfold nodeB at hn ⊢
   unfold tV
   by_cases e : k = 0
   ·rw [if_pos e] at hn ⊢
    rw [if_pos e]
    simp only [Bool.and_eq_true, decide_eq_true_eq] at hn ⊢
    have := numV_le ks n
    exact ⟨⟨⟨this.1, by omega⟩, hn.1.2⟩, hn.2⟩
   ·rw [if_neg e] at hn ⊢
    rw [if_neg e]
    exact hn
  ·simp only [Ts.nodes]; omega
  ·simp only [Ts.length, b3]
  ·simp only [Ts.nodes, a4, b4]
def AnsOk (vars : Nat) (T : Ts) : Prop := T.length = vars ∧ T.nodes ≤ 200 ∧ T.good 200 = true
theorem ans_ok {s : SS} {vars : Nat} (hI : InvC s) (hv : vars ≤ 8) {T : Ts} {l : Nat} (h : varsM s.B vars 0 200 = some (T, l)) : AnsOk vars T.tidy := by
 obtain ⟨h1, h2⟩ := varsM_nodes _ _ _ _ h
 have h3 := varsM_good (fun x hx => (hI.gb x hx).1) vars 0 200 _ (by omega) h
 dsimp only at h1 h2 h3
 obtain ⟨g1, g2, g3, g4⟩ := tidy_good 200 T [] h3 (by simp; omega)
 exact ⟨g3.trans h2, by show (T.tidyFrom []).1.nodes ≤ 200; omega, g1⟩
theorem again_kind {s : SS} (h : InvC s) : (againM s).1 = 0 ∨ (againM s).1 = 2 ∨ (againM s).1 = 4 := (again_ok h).2.2
theorem equal_kind {s : SS} {a t : Tm} (hI : InvC s) (hsl : s.B.length + 10100 * (mu s + 1) ≤ 1000000000) (ha : tgd a) (ht : tgd t) : (equalM a t s).1 = 0 ∨ (equalM a t s).1 = 2 ∨ (equalM a t s).1 = 4 := by
 have hi := equal_inv hI hsl ha ht
 unfold equalM
 simp only
 split
 ·exact .inr (.inr rfl)
 split
 ·exact .inl rfl
 ·exact again_kind hi
structure RunOk (vars : Nat) (s : SS) (r : List Ev) (l : List Ts) (k : Int) : Prop where
 eq : r = evsOf l ++ [(k, .nil)]
 ans : ∀ T ∈ l, AnsOk vars T
 kind : 2 ≤ k ∧ k ≤ 6
 more : ∃ m, l = s.ev ++ m
 six : (k = 6 ↔ l.length = 12) ∧ l.length ≤ 12
theorem step_six (p : List Cl) (vars : Nat) (s : SS) (hI : Inv s) (hev : s.ev.length < 12) (hp : pB p = true) : (stepM p vars s).1 = 6 ↔ (stepM p vars s).2.ev.length = 12 := by
 rcases step_ans p vars s hI hp with h | ⟨T, l, hv, h, h6⟩
 ·rw [h]
  constructor
  ·intro e
   exfalso
   -- no step but an answer ends so
   have hp2 : p.length ≤ 24 ∧ ∀ x ∈ p, cB x = true := by
    unfold pB at hp
    simp only [Bool.and_eq_true, decide_eq_true_eq, List.all_eq_true] at hp
    exact hp
   unfold stepM at e h
   cases hg : s.goals with
   | nil =>
    rw [hg] at e h
    simp only at e h
    unfold answerM at e h
    cases hv : varsM s.B vars 0 200 with
    | none => rw [hv] at e; cases e
    | some x =>
     rw [hv] at e h
     simp only at e h
     have hi : InvC ⟨s.B, s.fresh, s.fuel, s.goals, s.ch, s.ev ++ [x.1.tidy]⟩ := ⟨hI.c.bok, hI.c.gb, hI.c.ch, hI.c.fr, hI.c.bl⟩
     split at h
     ·have := congrArg List.length h; simp at this
     ·rw [(again_ok hi).2.1] at h
      have := congrArg List.length h; simp at this
   | cons g rest =>
    rw [hg] at e
    simp only at e
    split at e
    ·cases e
    rename_i hf
    obtain ⟨h1, h2, h3, h4, h5, h6, h7⟩ := popped_inv hI hg hf
    split at e
    ·rename_i hb
     have hd := tgd_down _ h6
     unfold builtB at hb
     unfold builtM at e
     split at e
     ·cases e
     rename_i k1
     rw [if_neg k1] at hb
     split at e
     ·cases e
     rename_i k2
     rw [if_neg k2] at hb
     split at e
     ·rename_i k3
      rw [if_neg (by rw [k3]; decide), if_pos k3] at hb
      have hl : g.1.ar.length = 2 := by simpa using hb
      rcases equal_kind h1 h2 (hd _ (Ts.at_mem (i := 0) (by omega))) (hd _ (Ts.at_mem (i := 1) (by omega))) with q | q | q <;> rw [q] at e <;> cases e
     split at e
     ·unfold lessM at e
      simp only at e
      split at e
      ·cases e
      split at e
      ·rcases again_kind h1 with q | q | q <;> rw [q] at e <;> cases e
      ·cases e
     split at e
     ·rename_i k5
      rw [if_neg (by rw [k5]; decide), if_neg (by rw [k5]; decide), if_neg (by rw [k5]; decide), if_pos k5] at hb
      have hl : g.1.ar.length = 3 := by simpa using hb
      unfold addM at e
      simp only at e
      split at e
      ·cases e
      split at e
      ·cases e
      ·rename_i hr
       have tn : tgd ⟨2, (lookM s.B (g.1.ar.at_ 0)).n + (lookM s.B (g.1.ar.at_ 1)).n, ⟨#[]⟩, .nil⟩ := by
        refine ⟨?_, by simp [Ts.nodes]⟩
        simp only [Ts.good, Bool.and_eq_true, and_true]
        unfold nodeB
        rw [if_neg (by decide), if_neg (by decide), if_pos rfl]
        simp only [Bool.and_eq_true, decide_eq_true_eq]
        exact ⟨⟨⟨by omega, by omega⟩, toList_mk []⟩, rfl⟩
       rcases equal_kind h1 h2 (hd _ (Ts.at_mem (i := 2) (by omega))) tn with q | q | q <;> rw [q] at e <;> cases e
     ·rcases again_kind h1 with q | q | q <;> rw [q] at e <;> cases e
    ·cases hm : p.filter (fitsC g.1) with
     | nil => rw [hm] at e; cases e
     | cons c cs =>
      rw [hm] at e
      simp only at e
      have hsub : ∀ x ∈ c :: cs, cB x = true := fun x hx => hp2.2 x (by rw [← hm] at hx; exact (List.mem_filter.1 hx).1)
      have hlen : (c :: cs).length ≤ 24 := by rw [← hm]; exact Nat.le_trans (List.length_filter_le _ _) hp2.1
      obtain ⟨i1, i2⟩ := push_inv hI hg hf hsub hlen
      rcases again_kind i1 with q | q | q <;> rw [q] at e <;> cases e
  ·intro e; omega
 ·rw [h6, h]; simp
theorem run_ok (p : List Cl) (vars : Nat) (hp : pB p = true) (hv : vars ≤ 8) : ∀ (n : Nat) (s : SS), Inv s → s.ev.length < 12 → mu s < n → (∀ T ∈ s.ev, AnsOk vars T) → ∃ l k, RunOk vars s (runM p vars n s) l k
 | 0, s, _, _, h, _ => by omega
 | n + 1, s, hI, hev, hmu, ha => by
  obtain ⟨hst, hst2⟩ := step_ok (vars := vars) hI hev hp
  have hsix := step_six p vars s hI hev hp
  have hle := step_ev p vars s hI hev hp
  have hext : ∃ m, (stepM p vars s).2.ev = s.ev ++ m := by
   rcases step_ans p vars s hI hp with h | ⟨T, l, _, h, _⟩
   ·exact ⟨[], by rw [h]; simp⟩
   ·exact ⟨[T.tidy], h⟩
  have ha2 : ∀ T ∈ (stepM p vars s).2.ev, AnsOk vars T := by
   rcases step_ans p vars s hI hp with h | ⟨T, l, hT, h, _⟩
   ·rw [h]; exact ha
   ·rw [h]
    intro X hX
    rcases List.mem_append.1 hX with hX | hX
    ·exact ha X hX
    ·obtain rfl : X = T.tidy := by simpa using hX
     exact ans_ok hI.c hv hT
  rw [runM_succ]
  by_cases h0 : (stepM p vars s).1 = 0
  ·rw [if_pos h0]
   obtain ⟨l, k, hr⟩ := run_ok p vars hp hv n _ (hst.go h0).1 (hst2 h0) (by have := (hst.go h0).2; omega) ha2
   obtain ⟨m1, e1⟩ := hext
   obtain ⟨m2, e2⟩ := hr.more
   exact ⟨l, k, hr.eq, hr.ans, hr.kind, ⟨m1 ++ m2, by rw [e2, e1, List.append_assoc]⟩, hr.six⟩
  ·rw [if_neg h0]
   have hk := hst.kind
   exact ⟨_, _, rfl, ha2, by omega, hext, hsix, hle⟩
theorem all_ok {p : List Cl} {q : Ts} {vars fuel : Int} (h : (allM p q vars fuel).2 = 0) : pB p = true ∧ qB vars q = true ∧ 0 ≤ vars ∧ vars ≤ 8 ∧ 0 ≤ fuel ∧ fuel ≤ 150 ∧ allM p q vars fuel = (runM p vars.toNat 4000 (startM q vars.toNat fuel.toNat), 0) ∧ Inv (startM q vars.toNat fuel.toNat) ∧ mu (startM q vars.toNat fuel.toNat) ≤ 3750 := by
 unfold allM at h ⊢
 split at h
 ·cases h
 rename_i h1
 split at h
 ·cases h
 rename_i h2
 have hp : pB p = true := by cases hb : pB p with
  | true => rfl
  | false => exact absurd (.inl hb) h1
 have hq : qB vars q = true := by cases hb : qB vars q with
  | true => rfl
  | false => exact absurd (.inr hb) h1
 have hq2 := hq
 simp only [qB, Bool.and_eq_true, decide_eq_true_eq] at hq2
 rw [if_neg h1, if_neg h2]
 obtain ⟨i1, i2⟩ := start_inv (q := q) (vars := vars.toNat) (fuel := fuel.toNat) (by rw [Int.toNat_of_nonneg hq2.1.1.1]; exact hq) (by omega)
 exact ⟨hp, hq, by omega, by omega, by omega, by omega, rfl, i1, i2⟩
theorem all_events {p : List Cl} {q : Ts} {vars fuel : Int} (h : (allM p q vars fuel).2 = 0) : ∃ l k, RunOk vars.toNat (startM q vars.toNat fuel.toNat) (allM p q vars fuel).1 l k := by
 obtain ⟨hp, hq, v0, v1, f0, f1, e, hI, hm⟩ := all_ok h
 rw [e]
 exact run_ok p vars.toNat hp (by omega) 4000 _ hI (by simp [startM]) (by omega) (fun T hT => by simp [startM] at hT)
theorem all_err {p : List Cl} {q : Ts} {vars fuel : Int} (h : (allM p q vars fuel).2 ≠ 0) : (allM p q vars fuel).1 = [] := by
 unfold allM at h ⊢
 split
 ·rfl
 split
 ·rfl
 ·rename_i h1 h2
  rw [if_neg h1, if_neg h2] at h
  exact absurd rfl h
end Go.Proofs.YtehhgmeaggempaaDoor
namespace Go.Proofs.YtehhgmeaggempaaDoor
open Go.RowKit
set_option linter.unusedVariables false
set_option linter.unusedSimpArgs false
set_option maxRecDepth 100000
set_option maxHeartbeats 1000000
def sPL : List Cl := [⟨3, 0, ⟨#[112]⟩, .cons 2 4 ⟨#[]⟩ .nil .nil, .nil, 0⟩]
def sQL : Ts := .cons 3 0 ⟨#[112]⟩ (.cons 0 0 ⟨#[]⟩ .nil .nil) .nil
theorem solvesL_model : allM sPL sQL 1 9 = ([(1, .cons 2 4 ⟨#[]⟩ .nil .nil), (2, .nil)], 0) := by kernel_rfl
theorem solvesL_any (w : World) : Calls Tryd.prog 37 #[] w fun e w' => e = .returned (.bool true) ∧ Below w.heap.size w w' := by
 have hS := St.start w
 refine goes_enter0 Tryd.func37 rfl Tryd.ntmps37 rfl ?_
 refine goes_seq ?_
 refine goes_region ?_
 refine lst_run (run_assign (by conv=>lhs;whnf)) rfl ?_
 refine lst_done ?_
 refine goes_seq ?_
 refine goes_region ?_
 refine lst_run (run_build (cells := [_, _, _, _]) (.cons (by conv=>lhs;whnf) (.cons (by conv=>lhs;whnf) .nil)) rfl) rfl ?_
 refine lst_buildSlice (cells := [_, _, _, _]) hS (.cons (by conv=>lhs;whnf) .nil) rfl rfl ?_
 clear hS
 intro b1 wx1 hS
 refine lst_run (run_build (cells := [_, _, _, _]) (.cons (by conv=>lhs;whnf) (.cons (by conv=>lhs;whnf) (.cons (by conv=>lhs;whnf) .nil))) rfl) rfl ?_
 refine lst_run (run_build (cells := [_, _, _, _, _, _]) (.cons (by conv=>lhs;whnf) .nil) rfl) rfl ?_
 refine lst_buildSlice (cells := [_, _, _, _, _, _]) hS (.cons (by conv=>lhs;whnf) .nil) rfl rfl ?_
 clear hS
 intro b2 wx2 hS
 refine lst_run (run_assign (by conv=>lhs;whnf)) rfl ?_
 refine lst_done ?_
 refine goes_seq ?_
 refine goes_region ?_
 refine lst_run (run_move (by conv=>lhs;whnf)) rfl ?_
 refine lst_run (run_build (cells := [_, _, _, _]) .nil rfl) rfl ?_
 refine lst_buildSlice (cells := [_, _, _, _]) hS (.cons (by conv=>lhs;whnf) .nil) rfl rfl ?_
 clear hS
 intro b3 wx3 hS
 refine lst_run (run_build (cells := [_, _, _, _]) (.cons (by conv=>lhs;whnf) (.cons (by conv=>lhs;whnf) (.cons (by conv=>lhs;whnf) .nil))) rfl) rfl ?_
 refine lst_buildSlice (cells := [_, _, _, _]) hS (.cons (by conv=>lhs;whnf) .nil) rfl rfl ?_
 clear hS
 intro b4 wx4 hS
 replace hS := hS.freeze.freeze.freeze.freeze
 obtain ⟨F, k1, k2, k3, k4, hS⟩ : ∃ F : List (World → Prop), Und F (fun w => w.heap[b1]? = some (.cells [.int .i64 2, .int .i64 4, .string ⟨#[]⟩, .slice none 0 0].toArray 24)) ∧
   Und F (fun w => w.heap[b2]? = some (.cells [.int .i64 3, .int .i64 0, .string ⟨#[112]⟩, .slice (some ⟨b1, 0, none⟩) 1 1, .slice none 0 0, .int .i64 0].toArray 32)) ∧
   Und F (fun w => w.heap[b3]? = some (.cells [.int .i64 0, .int .i64 0, .string ⟨#[]⟩, .slice none 0 0].toArray 24)) ∧
   Und F (fun w => w.heap[b4]? = some (.cells [.int .i64 3, .int .i64 0, .string ⟨#[112]⟩, .slice (some ⟨b3, 0, none⟩) 1 1].toArray 24)) ∧ St [] w [] F _ := ⟨_, Und.head, Und.head.tail, Und.head.tail.tail, Und.head.tail.tail.tail, hS⟩
 have hz : ∀ w : World, ArA none 0 .nil w := fun w => ⟨Nat.le_refl _, fun h => by simp [TA.len] at h⟩
 have hP : Und F (ClsR [⟨⟨3, 0, ⟨#[112]⟩, some ⟨b1, 0, none⟩, 1, .cons 2 4 ⟨#[]⟩ none 0 .nil .nil⟩, none, 0, .nil, 0⟩] (some ⟨b2, 0, none⟩) 1) := fun w hw => by
  refine ⟨Nat.le_refl _, fun _ => ⟨b2, 0, rfl, ?_, ?_, ?_, ?_, ?_, ?_, trivial⟩, fun x hx => ?_⟩
  iterate 6 (rw [cell_own (k2 w hw)]; rfl)
  obtain rfl : x = _ := by simpa using hx
  refine ⟨⟨Nat.le_refl _, fun _ => ⟨b1, 0, rfl, ?_, ?_, ?_, ?_, hz w, trivial⟩⟩, hz w⟩
  iterate 4 (rw [cell_own (k1 w hw)]; rfl)
 have hq : Und F (ArA (some ⟨b4, 0, none⟩) 1 (.cons 3 0 ⟨#[112]⟩ (some ⟨b3, 0, none⟩) 1 (.cons 0 0 ⟨#[]⟩ none 0 .nil .nil) .nil)) := fun w hw => by
  refine ⟨Nat.le_refl _, fun _ => ⟨b4, 0, rfl, ?_, ?_, ?_, ?_, ⟨Nat.le_refl _, fun _ => ⟨b3, 0, rfl, ?_, ?_, ?_, ?_, hz w, trivial⟩⟩, trivial⟩⟩
  iterate 4 (rw [cell_own (k4 w hw)]; rfl)
  iterate 4 (rw [cell_own (k3 w hw)]; rfl)
 have hcall := allW_any (M := []) (w0 := w) (H := []) (F := F) _ _ _ _ _ _ 1 9 _ hP hq (by simp) (fun c hc => by
  obtain rfl : c = _ := by simpa using hc
  exact ⟨(by decide : 1 ≤ 9223372036854775807), ⟨(by decide : 0 ≤ 9223372036854775807), trivial, trivial⟩, (by decide : 0 ≤ 9223372036854775807), trivial⟩) (by decide : 1 ≤ 9223372036854775807) ⟨(by decide : 1 ≤ 9223372036854775807), ⟨(by decide : 0 ≤ 9223372036854775807), trivial, trivial⟩, trivial⟩ hS
 have hm := solvesL_model
 have e1 : allM ([⟨⟨3, 0, ⟨#[112]⟩, some ⟨b1, 0, none⟩, 1, .cons 2 4 ⟨#[]⟩ none 0 .nil .nil⟩, none, 0, .nil, 0⟩].map LC.cl) (TA.cons 3 0 ⟨#[112]⟩ (some ⟨b3, 0, none⟩) 1 (.cons 0 0 ⟨#[]⟩ none 0 .nil .nil) .nil).ts 1 9 = ([(1, .cons 2 4 ⟨#[]⟩ .nil .nil), (2, .nil)], 0) := hm
 rw [e1] at hcall
 refine lst_enter (run_call (by kernel_rfl) (args_4 (by conv=>lhs;whnf) (by conv=>lhs;whnf) (by conv=>lhs;whnf) (by conv=>lhs;whnf))) rfl ?_
 refine Calls.mono (hcall) ?_
 rintro _ w5 ⟨A, c, L, F2, rfl, hL, hFF, hK, hS'⟩
 refine ⟨_, rfl, ?_⟩
 replace hS := hS'
 clear hS'
 have hlen : L.length = 2 := by have := congrArg List.length hL; simpa using this
 rw [hlen]
 obtain ⟨x0, x1, rfl, h0, h1⟩ : ∃ x0 x1, L = [x0, x1] ∧ x0.ev = (1, .cons 2 4 ⟨#[]⟩ .nil .nil) ∧ x1.ev = (2, .nil) := by
  match L, hL with
  | [x0, x1], hL => simp only [List.map_cons, List.map_nil, List.cons.injEq, and_true] at hL; exact ⟨x0, x1, rfl, hL.1, hL.2⟩
  | [], hL => simp at hL
  | [_], hL => simp at hL
  | _ :: _ :: _ :: _, hL => simp at hL
 obtain ⟨x0k, x0A, x0c, x0T⟩ := x0
 obtain ⟨x1k, x1A, x1c, x1T⟩ := x1
 simp only [KE.ev, Prod.mk.injEq] at h0 h1
 obtain ⟨rfl, h0⟩ := h0
 obtain ⟨rfl, h1⟩ := h1
 obtain ⟨tA, tc, ta, tr, rfl⟩ : ∃ A c ar r, x0T = .cons 2 4 ⟨#[]⟩ A c ar r := by
  cases x0T with
  | nil => simp [TA.ts] at h0
  | cons k n s A c ar r => simp only [TA.ts, Ts.cons.injEq] at h0; obtain ⟨rfl, rfl, rfl, _, _⟩ := h0; exact ⟨A, c, ar, r, rfl⟩
 have htr : tr = .nil := by
  simp only [TA.ts, Ts.cons.injEq] at h0
  cases tr with
  | nil => rfl
  | cons _ _ _ _ _ _ _ => simp [TA.ts] at h0
 subst htr
 obtain ⟨bl, ol, rfl⟩ := (hS.und hK).some_ (by simp)
 obtain ⟨q0, q1⟩ := KER.cells (D := []) (hS.und hK)
 obtain ⟨q2, q3⟩ := KER.cells (D := [_]) (hS.und hK)
 have hA0 := (hS.und hK).2.2 _ (.head _)
 dsimp only at hA0
 obtain ⟨bt, ot, rfl⟩ := hA0.some_ (by simp [TA.len])
 obtain ⟨_, r1, _, _⟩ := ArA.cells (D := .nil) hA0
 replace q1 : _ = some (Value.slice (some ⟨bt, ot, none⟩) 1 x0c) := q1
 refine lst_run (run_move (by conv=>lhs;whnf)) rfl ?_
 refine lst_run (run_extract rfl rfl) rfl ?_
 refine lst_run (run_extract rfl rfl) rfl ?_
 refine lst_run (run_assign (by conv=>lhs;whnf)) rfl ?_
 refine lst_run (run_assign (by conv=>lhs;whnf)) rfl ?_
 refine lst_done ?_
 refine goes_seq ?_
 refine goes_region ?_
 refine lst_run (run_move (by conv=>lhs;whnf)) rfl ?_
 refine lst_run (run_eql_one_int rfl rfl) rfl ?_
 refine lst_run (run_move (by conv=>lhs;whnf)) rfl ?_
 refine lst_guard rfl rfl ?_
 refine lst_run (run_move (by conv=>lhs;whnf)) rfl ?_
 refine lst_guard rfl rfl ?_
 refine lst_run (run_len_slice rfl rfl rfl) rfl ?_
 refine lst_guard rfl rfl ?_
 refine lst_run (run_eql_one_int rfl rfl) rfl ?_
 refine lst_run (run_pick_t rfl (by conv=>lhs;whnf)) rfl ?_
 refine lst_run (run_move (by conv=>lhs;whnf)) rfl ?_
 refine lst_guard rfl rfl ?_
 refine lst_run (run_move (by conv=>lhs;whnf)) rfl ?_
 refine lst_guard rfl rfl ?_
 refine lst_run (run_indexAddr (sz := 2) rfl rfl rfl rfl (by omega) (by omega)) rfl ?_
 refine lst_guard rfl rfl ?_
 refine lst_run (run_fieldAddr (off := 0) rfl rfl) rfl ?_
 refine lst_guard rfl rfl ?_
 refine lst_run (run_load1 rfl rfl (by assumption)) rfl ?_
 refine lst_guard rfl rfl ?_
 refine lst_run (run_eql_one_int rfl rfl) rfl ?_
 refine lst_run (run_pick_t rfl (by conv=>lhs;whnf)) rfl ?_
 refine lst_run (run_move (by conv=>lhs;whnf)) rfl ?_
 refine lst_guard rfl rfl ?_
 refine lst_run (run_move (by conv=>lhs;whnf)) rfl ?_
 refine lst_guard rfl rfl ?_
 refine lst_run (run_indexAddr (sz := 2) rfl rfl rfl rfl (by omega) (by omega)) rfl ?_
 refine lst_guard rfl rfl ?_
 refine lst_run (run_fieldAddr (off := 1) rfl rfl) rfl ?_
 refine lst_guard rfl rfl ?_
 refine lst_run (run_load1 rfl rfl (by assumption)) rfl ?_
 refine lst_guard rfl rfl ?_
 refine lst_run (run_len_slice rfl rfl rfl) rfl ?_
 refine lst_guard rfl rfl ?_
 refine lst_run (run_eql_one_int rfl rfl) rfl ?_
 refine lst_run (run_pick_t rfl (by conv=>lhs;whnf)) rfl ?_
 refine lst_run (run_move (by conv=>lhs;whnf)) rfl ?_
 refine lst_guard rfl rfl ?_
 refine lst_run (run_move (by conv=>lhs;whnf)) rfl ?_
 refine lst_guard rfl rfl ?_
 refine lst_run (run_indexAddr (sz := 2) rfl rfl rfl rfl (by omega) (by omega)) rfl ?_
 refine lst_guard rfl rfl ?_
 refine lst_run (run_fieldAddr (off := 1) rfl rfl) rfl ?_
 refine lst_guard rfl rfl ?_
 refine lst_run (run_load1 rfl rfl (by assumption)) rfl ?_
 refine lst_guard rfl rfl ?_
 refine lst_run (run_indexAddr (sz := 4) rfl rfl rfl rfl (by omega) (by omega)) rfl ?_
 refine lst_guard rfl rfl ?_
 refine lst_run (run_fieldAddr (off := 1) rfl rfl) rfl ?_
 refine lst_guard rfl rfl ?_
 refine lst_run (run_load1 rfl rfl (by assumption)) rfl ?_
 refine lst_guard rfl rfl ?_
 refine lst_run (run_eql_one_int rfl rfl) rfl ?_
 refine lst_run (run_pick_t rfl (by conv=>lhs;whnf)) rfl ?_
 refine lst_run (run_move (by conv=>lhs;whnf)) rfl ?_
 refine lst_guard rfl rfl ?_
 refine lst_run (run_move (by conv=>lhs;whnf)) rfl ?_
 refine lst_guard rfl rfl ?_
 refine lst_run (run_indexAddr (sz := 2) rfl rfl rfl rfl (by omega) (by omega)) rfl ?_
 refine lst_guard rfl rfl ?_
 refine lst_run (run_fieldAddr (off := 0) rfl rfl) rfl ?_
 refine lst_guard rfl rfl ?_
 refine lst_run (run_load1 rfl rfl (by assumption)) rfl ?_
 refine lst_guard rfl rfl ?_
 refine lst_run (run_eql_one_int rfl rfl) rfl ?_
 refine lst_run (run_pick_t rfl (by conv=>lhs;whnf)) rfl ?_
 refine lst_run (run_assign (by conv=>lhs;whnf)) rfl ?_
 refine lst_done ?_
 refine goes_ret1 Tryd.func37 rfl (by conv=>lhs;whnf) ?_
 exact ⟨rfl, hS.ext.below⟩
end Go.Proofs.YtehhgmeaggempaaDoor
namespace Go.Proofs.YtehhgmeaggempaaDoor
open Go.RowKit
set_option linter.unusedVariables false
set_option linter.unusedSimpArgs false
set_option maxRecDepth 100000
set_option maxHeartbeats 1000000
theorem all_few (p : List Cl) (q : Ts) (vars fuel : Int) : (allM p q vars fuel).1.length ≤ 1000 ∧ ∀ x ∈ (allM p q vars fuel).1, x.2.nodes ≤ 1073741824 := by
 by_cases h : (allM p q vars fuel).2 = 0
 ·obtain ⟨l, k, h1⟩ := all_events h
  rw [h1.eq]
  have h6 := h1.six.2
  refine ⟨by simp [evsOf]; omega, fun x hx => ?_⟩
  rcases List.mem_append.1 hx with hx | hx
  ·obtain ⟨T, hT, rfl⟩ := List.mem_map.1 hx
   have := (h1.ans T hT).2.1
   show T.nodes ≤ _; omega
  ·rw [List.mem_singleton.1 hx]; simp [Ts.nodes]
 ·rw [all_err h]
  exact ⟨by simp, fun x hx => by cases hx⟩
theorem St.locatedC {M : List Nat} {w0 w w' : World} {H : List (Nat × Obj)} {F : List (World → Prop)} {v : Value} {L : List Cl} (hS : St M w0 H F w) (hb : Below w.heap.size w w') (h : SlC w' (fun b => w.heap.size ≤ b) v L) : ∃ (A : Option Addr) (c : Nat) (X : List LC), v = .slice A X.length c ∧ X.map LC.cl = L ∧ St M w0 H (ClsR X A c :: F) w' := by
 obtain ⟨A, c, X, h1, h2, h3⟩ := h.locate
 refine ⟨A, c, X, h1, h2, (hS.grow hb).learn fun w2 hx => h3 w2 fun k hk hl => hx.block k hl fun hm => ?_⟩
 have := hS.keys_lt hm
 omega
theorem nodesC_len : ∀ L : List Cl, L.length ≤ nodesC L := nodesC_le
theorem nodes_wide (T : Ts) (h : T.nodes ≤ 1048576) : T.length ≤ 9223372036854775807 ∧ T.wide := ⟨by have := Ts.length_le T; omega, Ts.wide_of T (by omega)⟩
theorem clsWide_of : ∀ L : List Cl, nodesC L ≤ 1048576 → ClsWide L
 | [], _ => fun c hc => by cases hc
 | x :: r, h => by
  simp only [nodesC, Cl.nodes] at h
  intro c hc
  rcases List.mem_cons.1 hc with rfl | hc
  ·obtain ⟨a1, a2⟩ := nodes_wide c.hd (by omega)
   obtain ⟨b1, b2⟩ := nodes_wide c.bd (by omega)
   exact ⟨a1, a2, b1, b2⟩
  ·exact clsWide_of r (by omega) c hc
theorem solveAll_any (L : List Cl) (T : Ts) (u v : Value) (vars fuel : Int) (w : World) (hu : SlC w (fun _ => True) u L) (hv : Sl w (fun _ => True) v T) (hn : nodesC L ≤ 1048576) (hn2 : T.nodes ≤ 1048576) :
  Calls Tryd.prog 6 #[u, v, .int .i64 vars, .int .i64 fuel] w fun e w' => e = .returned (.bool true) ∧ Below w.heap.size w w' := by
 have hS := St.start w
 obtain ⟨pA, pc, X, rfl, rfl, hXr⟩ := hu.locate
 obtain ⟨qA, qc, Y, rfl, rfl, hYr⟩ := hv.locate
 replace hS := hS.base (φ := ClsR X pA pc) fun w2 hx => hXr w2 fun k hk hl => hx.block k hl (by simp)
 replace hS := hS.base (φ := ArA qA qc Y) fun w2 hx => hYr w2 fun k hk hl => hx.block k hl (by simp)
 have hrX : Und [ArA qA qc Y, ClsR X pA pc] (ClsR X pA pc) := Und.head.tail
 have hrY : Und [ArA qA qc Y, ClsR X pA pc] (ArA qA qc Y) := Und.head
 clear hXr hYr hu hv
 generalize [ArA qA qc Y, ClsR X pA pc] = F at *
 obtain ⟨few1, few2⟩ := all_few (X.map LC.cl) Y.ts vars fuel
 refine goes_enter4 Tryd.func6 rfl Tryd.ntmps6 rfl ?_
 refine goes_seq ?_
 refine goes_region ?_
 refine lst_run (run_assign (by conv=>lhs;whnf)) rfl ?_
 refine lst_done ?_
 refine goes_seq ?_
 refine goes_region ?_
 refine lst_run (run_move (by conv=>lhs;whnf)) rfl ?_
 refine lst_enter (run_call (by kernel_rfl) (args_1 (by conv=>lhs;whnf))) rfl ?_
 refine Calls.mono (program_any (X.map LC.cl) _ _ (hS.und hrX).slC hn) ?_
 rintro _ w2 ⟨u2, rfl, hu2, hb2⟩
 refine ⟨_, rfl, ?_⟩
 obtain ⟨A3, c3, X3, rfl, e3, hS3⟩ := hS.locatedC hb2 hu2
 clear hS
 obtain ⟨F3, hF3, hr3, hS⟩ : ∃ F3 : List (World → Prop), (∀ φ ∈ F, φ ∈ F3) ∧ Und F3 (ClsR X3 A3 c3) ∧ St _ _ _ F3 _ := ⟨_, fun φ h => .tail _ h, Und.head, hS3⟩
 clear hS3 hu2 hb2
 refine lst_run (run_move (by conv=>lhs;whnf)) rfl ?_
 refine lst_enter (run_call (by kernel_rfl) (args_1 (by conv=>lhs;whnf))) rfl ?_
 refine Calls.mono (copy_said Y.ts _ _ (hS.und (hrY.mono hF3)).sl hn2) ?_
 rintro _ w7 ⟨v7, rfl, hsl7, hb7⟩
 refine ⟨_, rfl, ?_⟩
 obtain ⟨A7, c7, Y7, rfl, e7, hS'⟩ := hS.located hb7 hsl7
 clear hS
 obtain ⟨F7, hF7, hr7, hS⟩ : ∃ F7 : List (World → Prop), (∀ φ ∈ F3, φ ∈ F7) ∧ Und F7 (ArA A7 c7 Y7) ∧ St _ _ _ F7 _ := ⟨_, fun φ h => .tail _ h, Und.head, hS'⟩
 clear hS' hsl7 hb7
 refine lst_run (run_move (by conv=>lhs;whnf)) rfl ?_
 refine lst_run (run_move (by conv=>lhs;whnf)) rfl ?_
 have hall := allW_any X3 A3 c3 Y7 A7 c7 vars fuel _ (hr3.mono hF7) hr7 (by have := nodesC_len (X.map LC.cl); rw [← e3] at this; simp at this; rw [e3] at this; omega) (by rw [e3]; exact clsWide_of _ hn) (by rw [← TA.len_ts, e7]; exact (nodes_wide _ hn2).1) (by rw [e7]; exact (nodes_wide _ hn2).2) hS
 rw [e3, e7] at hall
 refine lst_enter (run_call (by kernel_rfl) (args_4 (by conv=>lhs;whnf) (by conv=>lhs;whnf) (by conv=>lhs;whnf) (by conv=>lhs;whnf))) rfl ?_
 refine Calls.mono (hall) ?_
 rintro _ w8 ⟨A8, c8, L8, F8, rfl, hL8, hF8, hK8, hS'⟩
 refine ⟨_, rfl, ?_⟩
 replace hS := hS'
 clear hS'
 refine lst_run (run_move (by conv=>lhs;whnf)) rfl ?_
 refine lst_run (run_extract rfl rfl) rfl ?_
 refine lst_run (run_extract rfl rfl) rfl ?_
 refine lst_run (run_assign (by conv=>lhs;whnf)) rfl ?_
 refine lst_run (run_assign (by conv=>lhs;whnf)) rfl ?_
 refine lst_done ?_
 refine goes_seq ?_
 refine goes_region ?_
 refine lst_run (run_move (by conv=>lhs;whnf)) rfl ?_
 refine lst_run (run_move (by conv=>lhs;whnf)) rfl ?_
 refine lst_run (run_move (by conv=>lhs;whnf)) rfl ?_
 refine lst_run (run_move (by conv=>lhs;whnf)) rfl ?_
 have hsolved := solved_any X pA pc Y qA qc vars fuel _ (((hrX.mono hF3).mono hF7).mono hF8) (((hrY.mono hF3).mono hF7).mono hF8) hn hn2 hS
 rw [solved_eq] at hsolved
 refine lst_enter (run_call (by kernel_rfl) (args_4 (by conv=>lhs;whnf) (by conv=>lhs;whnf) (by conv=>lhs;whnf) (by conv=>lhs;whnf))) rfl ?_
 refine Calls.mono (hsolved) ?_
 rintro _ w9 ⟨A9, c9, L9, F9, rfl, hL9, hF9, hK9, hS'⟩
 refine ⟨_, rfl, ?_⟩
 replace hS := hS'
 clear hS'
 refine lst_run (run_move (by conv=>lhs;whnf)) rfl ?_
 refine lst_run (run_extract rfl rfl) rfl ?_
 refine lst_run (run_extract rfl rfl) rfl ?_
 refine lst_run (run_assign (by conv=>lhs;whnf)) rfl ?_
 refine lst_run (run_assign (by conv=>lhs;whnf)) rfl ?_
 refine lst_done ?_
 refine goes_seq ?_
 refine goes_region ?_
 refine lst_run (run_move (by conv=>lhs;whnf)) rfl ?_
 refine lst_run (run_move (by conv=>lhs;whnf)) rfl ?_
 refine lst_enter (run_call (by kernel_rfl) (args_2 (by conv=>lhs;whnf) (by conv=>lhs;whnf))) rfl ?_
 refine Calls.mono (sameEvents_any L8 L9 A8 A9 c8 c9 _ (hS.und (hK8.mono hF9)) (hS.und hK9) (hL8.trans hL9.symm) (by have := congrArg List.length hL8; rw [List.length_map] at this; omega) (fun x hx => few2 x.ev (by rw [← hL8]; exact List.mem_map.2 ⟨x, hx, rfl⟩))) ?_
 rintro _ w10 ⟨rfl, hb10⟩
 refine ⟨_, rfl, ?_⟩
 replace hS := hS.grow hb10
 refine lst_run (run_move (by conv=>lhs;whnf)) rfl ?_
 refine lst_guard rfl rfl ?_
 refine lst_run (run_move (by conv=>lhs;whnf)) rfl ?_
 refine lst_guard rfl rfl ?_
 refine lst_run (run_move (by conv=>lhs;whnf)) rfl ?_
 refine lst_guard rfl rfl ?_
 refine lst_run (run_eql_one_int rfl rfl) rfl ?_
 refine lst_run (run_pick_t rfl (by conv=>lhs;whnf)) rfl ?_
 refine lst_run (run_move (by conv=>lhs;whnf)) rfl ?_
 refine lst_guard rfl rfl ?_
 refine lst_enter (run_call (by kernel_rfl) args_nil) rfl ?_
 refine Calls.mono (solvesL_any _) ?_
 rintro _ w13 ⟨rfl, hb13⟩
 refine ⟨_, rfl, ?_⟩
 replace hS := hS.grow hb13
 refine lst_run (run_pick_t rfl (by conv=>lhs;whnf)) rfl ?_
 refine lst_run (run_assign (by conv=>lhs;whnf)) rfl ?_
 refine lst_done ?_
 refine goes_ret1 Tryd.func6 rfl (by conv=>lhs;whnf) ?_
 exact ⟨rfl, hS.ext.below⟩
end Go.Proofs.YtehhgmeaggempaaDoor
