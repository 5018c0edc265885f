/- SWalk11, SEnds, SMore, Wide, Solves, Alike, SameK: texts that follow one another, laid into one file. -/
import Derived.Test.YtdiophafmokfiaaG9
import Derived.Test.YtdiophafmokfiaaG2
import Derived.KernelRfl
import Derived.Test.YtdiophafmokfiaaG1
import Derived.Test.YtdiophafmokfiaaRows
import Derived.Deep.LoopGhost
import Derived.StillTailTactics
namespace Go.Proofs.Ytdiophafmokfiaa
open Go.RowKit
set_option linter.unusedVariables false
set_option linter.unusedSimpArgs false
set_option maxRecDepth 100000
set_option maxHeartbeats 1000000

/-- An event, and where its terms lie. -/
structure KE where
  k : Int
  A : Option Addr
  c : Nat
  T : TA
def KE.ev (x : KE) : Ev := (x.k, x.T.ts)
abbrev kecs (x : KE) : List Value := [.int .i64 x.k, .slice x.A x.T.len x.c]
def keL : List KE → List Value
  | [] => []
  | x :: r => kecs x ++ keL r
theorem keL_app (a b : List KE) : keL (a ++ b) = keL a ++ keL b := by
  induction a with
  | nil => rfl
  | cons c r ih => simp [keL, ih]
theorem keL_len (a : List KE) : (keL a).length = a.length * 2 := by
  induction a with
  | nil => rfl
  | cons c r ih => simp [keL, ih]; omega
theorem evL_ke (l : List LE) : evL l = keL (l.map fun e => ⟨1, e.A, e.c, e.T⟩) := by
  induction l with
  | nil => rfl
  | cons c r ih => simp [evL, keL, ih]
def KEAt (w : World) (b : Nat) : List KE → Nat → Prop
  | [], _ => True
  | x :: r, o => w.cell? ⟨b, o, none⟩ = some (.int .i64 x.k) ∧ w.cell? ⟨b, o + 1, none⟩ = some (.slice x.A x.T.len x.c) ∧ KEAt w b r (o + 2)
/-- The slice of events L may be read where it is said to lie. -/
def KER (L : List KE) (A : Option Addr) (c : Nat) (w : World) : Prop := L.length ≤ c ∧ (0 < L.length → ∃ b o, A = some ⟨b, o, none⟩ ∧ KEAt w b L o) ∧ ∀ x ∈ L, ArA x.A x.c x.T w
theorem KEAt.skip {w : World} {b : Nat} {R : List KE} : ∀ {D : List KE} {o : Nat}, KEAt w b (D ++ R) o → KEAt w b R (o + D.length * 2)
  | [], o, h => by simpa using h
  | c :: D, o, ⟨_, _, h⟩ => by
    have := KEAt.skip (R := R) (D := D) h
    rwa [show o + 2 + D.length * 2 = o + (c :: D).length * 2 by simp; omega] at this
theorem KER.some_ {L : List KE} {A : Option Addr} {c : Nat} {w : World} (h : KER L A c w) (hl : 0 < L.length) : ∃ b o, A = some ⟨b, o, none⟩ := by
  obtain ⟨b, o, e, _⟩ := h.2.1 hl
  exact ⟨b, o, e⟩
theorem KER.cells {D R : List KE} {x : KE} {b o c : Nat} {w : World} (h : KER (D ++ x :: R) (some ⟨b, o, none⟩) c w) : w.cell? ⟨b, o + D.length * 2, none⟩ = some (.int .i64 x.k) ∧ w.cell? ⟨b, o + D.length * 2 + 1, none⟩ = some (.slice x.A x.T.len x.c) := by
  obtain ⟨b', o', e, hs⟩ := h.2.1 (by simp; omega)
  simp only [Option.some.injEq, Addr.mk.injEq, and_true] at e
  obtain ⟨rfl, rfl⟩ := e
  obtain ⟨h0, h1, _⟩ := hs.skip
  exact ⟨h0, h1⟩
theorem keAt_of {w : World} {b : Nat} : ∀ {L : List KE} {o : Nat}, (∀ j u, (keL L)[j]? = some u → w.cell? ⟨b, o + j, none⟩ = some u) → KEAt w b L o
  | [], _, _ => trivial
  | c :: r, o, h => ⟨h 0 _ rfl, h 1 _ rfl, keAt_of fun j u hu => by
      rw [show o + 2 + j = o + (j + 2) by omega]
      exact h (j + 2) u (by simpa [keL] using hu)⟩
theorem St.freezeK {M : List Nat} {w0 w : World} {H O : List (Nat × Obj)} {F : List (World → Prop)} {el : Nat} {A : Option Addr} {c : Nat} {L : List KE} (hr : Row el 2 (.slice A L.length c) L.length (keL L) O) (hR : ∀ x ∈ L, Und F (ArA x.A x.c x.T)) (hS : St M w0 (O ++ H) F w) :
    ∃ F', (∀ φ ∈ F, φ ∈ F') ∧ Und F' (KER L A c) ∧ St M w0 H F' w := by
  obtain ⟨F', h1, h2, h3⟩ := St.freezeL hS
  refine ⟨F', h1, fun w' hw' => ⟨hr.cap, fun hl => ?_, fun x hx => (hR x hx).mono h1 w' hw'⟩, h3⟩
  obtain ⟨g, sp, rfl, rfl, _⟩ := hr.some_ hl
  refine ⟨g, 0, rfl, keAt_of fun j u hu => ?_⟩
  have hjl : j < (keL L).length := by
    rcases Nat.lt_or_ge j (keL L).length with hh | hh
    · exact hh
    · rw [List.getElem?_eq_none hh] at hu; cases hu
  rw [cell_own (h2 _ (.head _) w' hw'), Nat.zero_add, List.getElem?_append_left hjl]; exact hu
section
variable {M : List Nat} {w0 : World} {H : List (Nat × Obj)} {F : List (World → Prop)}
theorem newSearch_any (P : List LC) (pA : Option Addr) (pc : Nat) (q : TA) (qA : Option Addr) (qc : Nat) (vars fuel : Nat) (w : World) (hP : Und F (ClsR P pA pc)) (hq : Und F (ArA qA qc q)) (hn : q.ts.nodes < 1048576) (hS : St M w0 H F w) :
    Calls Try.prog 42 #[.slice pA P.length pc, .slice qA q.len qc, .int .i64 (vars : Nat), .int .i64 (fuel : Nat)] w fun e w' => ∃ b, e = .returned (pt b) ∧ SSt M w0 H F b P pA pc vars (startM q.ts vars fuel) w' := by
  refine goes_enter4 Try.func42 rfl Try.ntmps42 rfl ?_
  refine goes_seq ?_
  refine goes_region ?_
  refine lst_run (run_assign (by conv => lhs; whnf)) rfl ?_
  refine lst_done ?_
  refine goes_seq ?_
  refine goes_region ?_
  refine lst_makeMap hS rfl ?_
  clear hS
  intro mb w2 hS
  refine lst_run (run_build (cells := [_, _]) (.cons (by conv => lhs; whnf) .nil) rfl) rfl ?_
  refine lst_run (run_move (by conv => lhs; whnf)) rfl ?_
  refine lst_run (run_move (by conv => lhs; whnf)) rfl ?_
  refine lst_run (run_move (by conv => lhs; whnf)) rfl ?_
  refine lst_run (run_move (by conv => lhs; whnf)) rfl ?_
  refine lst_run (run_move (by conv => lhs; whnf)) rfl ?_
  refine lst_enter (run_call (by kernel_rfl) (args_4 (by conv => lhs; whnf) (by conv => lhs; whnf) (by conv => lhs; whnf) (by conv => lhs; whnf))) rfl ?_
  refine Calls.mono (before_any q qA qc 0 0 [] _ hq hn (fun _ _ => trivial) hS) ?_
  rintro _ w3 ⟨gs, F2, rfl, hgs, hF2, hrg, hS'⟩
  refine ⟨_, rfl, ?_⟩
  replace hS := hS'
  clear hS'
  refine lst_run (run_build (cells := [_, _, _, _, _, _, _, _, _]) (.cons (by conv => lhs; whnf) (.cons (by conv => lhs; whnf) (.cons (by conv => lhs; whnf) (.cons (by conv => lhs; whnf) (.cons (by conv => lhs; whnf) (.cons (by conv => lhs; whnf) .nil)))))) rfl) rfl ?_
  refine lst_box hS rfl rfl ?_
  clear hS
  intro b1 wx1 hS
  refine lst_run (run_assign (by conv => lhs; whnf)) rfl ?_
  refine lst_done ?_
  refine goes_ret1 Try.func42 rfl (by conv => lhs; whnf) ?_
  refine ⟨b1, rfl, ⟨[], mb, #[], 0, .slice none 0 0, [], gs, [], .slice none 0 0, [], [], .slice none 0 0, []⟩, F2, hF2, ?_, hS⟩
  exact ⟨⟨rfl, Row.nil_, fun _ _ x hx => (by cases hx), trivial⟩, rfl, hgs, hrg, rfl, fun _ h => (by cases h), Row.nil_, rfl, fun _ h => (by cases h), Row.nil_, hP.mono hF2⟩
theorem runM_succ (p : List Cl) (vars n : Nat) (s : SS) : runM p vars (n + 1) s = if (stepM p vars s).1 = 0 then runM p vars n (stepM p vars s).2 else evsOf (stepM p vars s).2.ev ++ [((stepM p vars s).1, .nil)] := rfl
theorem all_any (P : List LC) (pA : Option Addr) (pc : Nat) (q : TA) (qA : Option Addr) (qc : Nat) (vars fuel : Int) (w : World) (hP : Und F (ClsR P pA pc)) (hq : Und F (ArA qA qc q))
    (hgp : ∀ w', St M w0 H F w' → Calls Try.prog 40 #[.slice pA P.length pc] w' fun e w'' => e = .returned (.bool (pB (P.map LC.cl))) ∧ Below w'.heap.size w' w'')
    (hgq : ∀ w', St M w0 H F w' → Calls Try.prog 41 #[.slice qA q.len qc, .int .i64 vars] w' fun e w'' => e = .returned (.bool (qB vars q.ts)) ∧ Below w'.heap.size w' w'') (hS : St M w0 H F w) :
    Calls Try.prog 22 #[.slice pA P.length pc, .slice qA q.len qc, .int .i64 vars, .int .i64 fuel] w fun e w' => ∃ (A : Option Addr) (c : Nat) (L : List KE) (F' : List (World → Prop)), e = .returned (.tuple #[.slice A L.length c, .int .i64 (allM (P.map LC.cl) q.ts vars fuel).2]) ∧ L.map KE.ev = (allM (P.map LC.cl) q.ts vars fuel).1 ∧ (∀ φ ∈ F, φ ∈ F') ∧ Und F' (KER L A c) ∧ St M w0 H F' w' := by
  have hnil : ∀ w : World, KER [] none 0 w := fun w => ⟨Nat.le_refl _, fun h => by simp at h, fun x hx => by cases hx⟩
  have hall : allM (P.map LC.cl) q.ts vars fuel = if pB (P.map LC.cl) = false ∨ qB vars q.ts = false then ([], 1) else if fuel < 0 ∨ 150 < fuel then ([], 2) else (runM (P.map LC.cl) vars.toNat 4000 (startM q.ts vars.toNat fuel.toNat), 0) := rfl
  refine goes_enter4 Try.func22 rfl Try.ntmps22 rfl ?_
  refine goes_seq ?_
  refine goes_region ?_
  refine lst_run (run_assign (by conv => lhs; whnf)) rfl ?_
  refine lst_run (run_assign (by conv => lhs; whnf)) rfl ?_
  refine lst_done ?_
  refine goes_seq ?_
  refine goes_seq ?_
  refine goes_region ?_
  refine lst_run (run_move (by conv => lhs; whnf)) rfl ?_
  refine lst_enter (run_call (by kernel_rfl) (args_1 (by conv => lhs; whnf))) rfl ?_
  refine Calls.mono (hgp _ hS) ?_
  rintro _ w3 ⟨rfl, hb3⟩
  refine ⟨_, rfl, ?_⟩
  replace hS := hS.grow hb3
  cases hpB : pB (P.map LC.cl) with
  | false =>
    rw [if_pos (.inl hpB)] at hall
    rw [hall]
    refine lst_run (rfl) rfl ?_
    refine lst_run (run_move (by conv => lhs; whnf)) rfl ?_
    refine lst_pass rfl rfl rfl ?_
    refine lst_pass rfl rfl rfl ?_
    refine lst_pass rfl rfl rfl ?_
    refine lst_pass rfl rfl rfl ?_
    first
      | refine lst_run (run_pick_t rfl (by conv => lhs; whnf)) rfl ?_
      | refine lst_run (run_pick_f rfl (by conv => lhs; whnf)) rfl ?_
    refine lst_done ?_
    refine goes_true rfl ?_
    refine goes_seq ?_
    refine goes_region ?_
    refine lst_run (run_assign (by conv => lhs; whnf)) rfl ?_
    refine lst_run (run_assign (by conv => lhs; whnf)) rfl ?_
    refine lst_done ?_
    refine goes_ret2 Try.func22 rfl (by conv => lhs; whnf) (by conv => lhs; whnf) ?_
    exact ⟨none, 0, [], F, rfl, rfl, fun _ h => h, fun w _ => hnil w, hS⟩
  | true =>
  refine lst_run (rfl) rfl ?_
  refine lst_run (run_move (by conv => lhs; whnf)) rfl ?_
  refine lst_guard rfl rfl ?_
  refine lst_run (run_move (by conv => lhs; whnf)) rfl ?_
  refine lst_guard rfl rfl ?_
  refine lst_run (run_move (by conv => lhs; whnf)) rfl ?_
  refine lst_guard rfl rfl ?_
  refine lst_enter (run_call (by kernel_rfl) (args_2 (by conv => lhs; whnf) (by conv => lhs; whnf))) rfl ?_
  refine Calls.mono (hgq _ hS) ?_
  rintro _ w4 ⟨rfl, hb4⟩
  refine ⟨_, rfl, ?_⟩
  replace hS := hS.grow hb4
  cases hqB : qB vars q.ts with
  | false =>
    rw [if_pos (.inr hqB)] at hall
    rw [hall]
    refine lst_guard rfl rfl ?_
    refine lst_run (rfl) rfl ?_
    first
      | refine lst_run (run_pick_t rfl (by conv => lhs; whnf)) rfl ?_
      | refine lst_run (run_pick_f rfl (by conv => lhs; whnf)) rfl ?_
    refine lst_done ?_
    refine goes_true rfl ?_
    refine goes_seq ?_
    refine goes_region ?_
    refine lst_run (run_assign (by conv => lhs; whnf)) rfl ?_
    refine lst_run (run_assign (by conv => lhs; whnf)) rfl ?_
    refine lst_done ?_
    refine goes_ret2 Try.func22 rfl (by conv => lhs; whnf) (by conv => lhs; whnf) ?_
    exact ⟨none, 0, [], F, rfl, rfl, fun _ h => h, fun w _ => hnil w, hS⟩
  | true =>
  rw [if_neg (by rw [hpB, hqB]; simp)] at hall
  by_cases hf1 : fuel < 0
  · rw [if_pos (.inl hf1)] at hall
    rw [hall]
    refine lst_guard rfl rfl ?_
    refine lst_run (rfl) rfl ?_
    first
      | refine lst_run (run_pick_t rfl (by conv => lhs; whnf)) rfl ?_
      | refine lst_run (run_pick_f rfl (by conv => lhs; whnf)) rfl ?_
    refine lst_done ?_
    refine goes_false rfl ?_
    refine goes_skip ?_
    refine goes_seq ?_
    refine goes_seq ?_
    refine goes_region ?_
    refine lst_run (run_move (by conv => lhs; whnf)) rfl ?_
    first
      | refine lst_run (run_lss_yes rfl rfl (by omega)) rfl ?_
      | refine lst_run (run_lss_no rfl rfl (by omega)) rfl ?_
      | refine lst_run (rfl) rfl ?_
    refine lst_run (run_move (by conv => lhs; whnf)) rfl ?_
    refine lst_pass rfl rfl rfl ?_
    refine lst_pass rfl rfl rfl ?_
    first
      | refine lst_run (run_pick_t rfl (by conv => lhs; whnf)) rfl ?_
      | refine lst_run (run_pick_f rfl (by conv => lhs; whnf)) rfl ?_
    refine lst_done ?_
    refine goes_true rfl ?_
    refine goes_seq ?_
    refine goes_region ?_
    refine lst_run (run_assign (by conv => lhs; whnf)) rfl ?_
    refine lst_run (run_assign (by conv => lhs; whnf)) rfl ?_
    refine lst_done ?_
    refine goes_ret2 Try.func22 rfl (by conv => lhs; whnf) (by conv => lhs; whnf) ?_
    exact ⟨none, 0, [], F, rfl, rfl, fun _ h => h, fun w _ => hnil w, hS⟩
  by_cases hf2 : 150 < fuel
  · rw [if_pos (.inr hf2)] at hall
    rw [hall]
    refine lst_guard rfl rfl ?_
    refine lst_run (rfl) rfl ?_
    first
      | refine lst_run (run_pick_t rfl (by conv => lhs; whnf)) rfl ?_
      | refine lst_run (run_pick_f rfl (by conv => lhs; whnf)) rfl ?_
    refine lst_done ?_
    refine goes_false rfl ?_
    refine goes_skip ?_
    refine goes_seq ?_
    refine goes_seq ?_
    refine goes_region ?_
    refine lst_run (run_move (by conv => lhs; whnf)) rfl ?_
    first
      | refine lst_run (run_lss_yes rfl rfl (by omega)) rfl ?_
      | refine lst_run (run_lss_no rfl rfl (by omega)) rfl ?_
      | refine lst_run (rfl) rfl ?_
    refine lst_run (run_move (by conv => lhs; whnf)) rfl ?_
    refine lst_guard rfl rfl ?_
    refine lst_run (run_move (by conv => lhs; whnf)) rfl ?_
    refine lst_guard rfl rfl ?_
    first
      | refine lst_run (run_gtr_yes rfl rfl (by omega)) rfl ?_
      | refine lst_run (run_gtr_no rfl rfl (by omega)) rfl ?_
      | refine lst_run (rfl) rfl ?_
    first
      | refine lst_run (run_pick_t rfl (by conv => lhs; whnf)) rfl ?_
      | refine lst_run (run_pick_f rfl (by conv => lhs; whnf)) rfl ?_
    refine lst_done ?_
    refine goes_true rfl ?_
    refine goes_seq ?_
    refine goes_region ?_
    refine lst_run (run_assign (by conv => lhs; whnf)) rfl ?_
    refine lst_run (run_assign (by conv => lhs; whnf)) rfl ?_
    refine lst_done ?_
    refine goes_ret2 Try.func22 rfl (by conv => lhs; whnf) (by conv => lhs; whnf) ?_
    exact ⟨none, 0, [], F, rfl, rfl, fun _ h => h, fun w _ => hnil w, hS⟩
  rw [if_neg (by rintro (h | h) <;> contradiction)] at hall
  obtain ⟨fuel, rfl⟩ : ∃ f : Nat, fuel = f := ⟨fuel.toNat, by omega⟩
  have hqB2 := hqB
  simp only [qB, Bool.and_eq_true, decide_eq_true_eq] at hqB2
  obtain ⟨vars, rfl⟩ : ∃ v : Nat, vars = v := ⟨vars.toNat, by omega⟩
  simp only [Int.toNat_natCast] at hall
  obtain ⟨hsi, hsm⟩ := start_inv hqB (fuel := fuel) (by omega)
  have hnq : q.ts.nodes < 1048576 := by have := goals_nodes _ hqB2.2; omega
  rw [hall]
  generalize hR0 : runM (P.map LC.cl) vars 4000 (startM q.ts vars fuel) = R0
  refine lst_guard rfl rfl ?_
  refine lst_run (rfl) rfl ?_
  first
    | refine lst_run (run_pick_t rfl (by conv => lhs; whnf)) rfl ?_
    | refine lst_run (run_pick_f rfl (by conv => lhs; whnf)) rfl ?_
  refine lst_done ?_
  refine goes_false rfl ?_
  refine goes_skip ?_
  refine goes_seq ?_
  refine goes_seq ?_
  refine goes_region ?_
  refine lst_run (run_move (by conv => lhs; whnf)) rfl ?_
  first
    | refine lst_run (run_lss_yes rfl rfl (by omega)) rfl ?_
    | refine lst_run (run_lss_no rfl rfl (by omega)) rfl ?_
    | refine lst_run (rfl) rfl ?_
  refine lst_run (run_move (by conv => lhs; whnf)) rfl ?_
  refine lst_guard rfl rfl ?_
  refine lst_run (run_move (by conv => lhs; whnf)) rfl ?_
  refine lst_guard rfl rfl ?_
  first
    | refine lst_run (run_gtr_yes rfl rfl (by omega)) rfl ?_
    | refine lst_run (run_gtr_no rfl rfl (by omega)) rfl ?_
    | refine lst_run (rfl) rfl ?_
  first
    | refine lst_run (run_pick_t rfl (by conv => lhs; whnf)) rfl ?_
    | refine lst_run (run_pick_f rfl (by conv => lhs; whnf)) rfl ?_
  refine lst_done ?_
  refine goes_false rfl ?_
  refine goes_skip ?_
  refine goes_seq ?_
  refine goes_region ?_
  refine lst_run (run_move (by conv => lhs; whnf)) rfl ?_
  refine lst_run (run_move (by conv => lhs; whnf)) rfl ?_
  refine lst_run (run_move (by conv => lhs; whnf)) rfl ?_
  refine lst_run (run_move (by conv => lhs; whnf)) rfl ?_
  refine lst_enter (run_call (by kernel_rfl) (args_4 (by conv => lhs; whnf) (by conv => lhs; whnf) (by conv => lhs; whnf) (by conv => lhs; whnf))) rfl ?_
  refine Calls.mono (newSearch_any P pA pc q qA qc vars fuel _ hP hq hnq hS) ?_
  rintro _ w5 ⟨b, rfl, hs⟩
  refine ⟨_, rfl, ?_⟩
  clear hS
  refine lst_run (run_assign (by conv => lhs; whnf)) rfl ?_
  refine lst_done ?_
  refine goes_seq ?_
  refine goes_region ?_
  refine lst_run (run_assign (by conv => lhs; whnf)) rfl ?_
  refine lst_done ?_
  refine goes_seq ?_
  refine goes_block ?_
  refine goes_loop1 11 (32 :: 33 :: 34 :: 35 :: []) (fun (x : Nat × SS × Int) v w' => v = .int .i64 x.2.2 ∧ SSt M w0 H F b P pA pc vars x.2.1 w' ∧ (x.2.2 = 0 → Inv x.2.1 ∧ x.2.1.ev.length < 12 ∧ mu x.2.1 < x.1 ∧ R0 = runM (P.map LC.cl) vars x.1 x.2.1) ∧ (x.2.2 ≠ 0 → R0 = evsOf x.2.1.ev ++ [(x.2.2, .nil)]) ∧ x.2.1.ev.length ≤ 12) (fun x => if x.2.2 = 0 then mu x.2.1 + 1 else 0) ((4000, startM q.ts vars fuel, 0)) ?_ (by conv => lhs; whnf) ?_
  · exact ⟨rfl, hs, fun _ => ⟨hsi, by simp [startM], by show mu (startM q.ts vars fuel) < 4000; omega, hR0.symm⟩, fun h => absurd rfl h, by simp [startM]⟩
  clear hs
  rintro ⟨n, s, k⟩ _ w6 jv ⟨rfl, hs, h0, h1, hev⟩ ih
  dsimp only at hs h0 h1 hev
  by_cases hk : k = 0
  · subst hk
    obtain ⟨hI, hev2, hmu, hrun⟩ := h0 rfl
    obtain ⟨n, rfl⟩ : ∃ n', n = n' + 1 := ⟨n - 1, by omega⟩
    obtain ⟨hst, hst2⟩ := step_ok (p := P.map LC.cl) (vars := vars) hI hev2 hpB
    have hev3 := step_ev (P.map LC.cl) vars s hI hev2 hpB
    rw [runM_succ] at hrun
    refine goes_seq ?_
    refine goes_seq ?_
    refine goes_region ?_
    refine lst_run (run_move (by conv => lhs; whnf)) rfl ?_
    first
      | refine lst_run (run_eql_one_int rfl rfl) rfl ?_
      | refine lst_run (run_eql_no rfl rfl (by first | assumption | omega)) rfl ?_
      | refine lst_run (run_eql_yes rfl rfl (by omega)) rfl ?_
      | refine lst_run (rfl) rfl ?_
    refine lst_done ?_
    refine goes_true rfl ?_
    refine goes_skip ?_
    refine goes_block ?_
    refine goes_region ?_
    refine lst_run (run_move (by conv => lhs; whnf)) rfl ?_
    refine lst_enter (run_call (by kernel_rfl) (args_1 (by conv => lhs; whnf))) rfl ?_
    refine Calls.mono (step_any s _ hI (by omega) hev2 hpB hs) ?_
    rintro _ w7 ⟨rfl, hs'⟩
    refine ⟨_, rfl, ?_⟩
    refine lst_run (run_assign (by conv => lhs; whnf)) rfl ?_
    refine lst_done ?_
    refine goes_inBlock ?_
    refine ih ((n, (stepM (P.map LC.cl) vars s).2, (stepM (P.map LC.cl) vars s).1)) _ _ _ ?_ ?_ (by conv => lhs; whnf) (by kernel_rfl)
    · dsimp only
      rw [if_pos rfl]
      split
      · rename_i h; have := (hst.go h).2; omega
      · omega
    · refine ⟨rfl, hs', fun h => ⟨(hst.go h).1, hst2 h, by have := (hst.go h).2; dsimp only; omega, ?_⟩, fun h => ?_, hev3⟩
      · rw [hrun, if_pos h]
      · rw [hrun, if_neg h]
  · obtain ⟨d, F2, hFF, hok, hS⟩ := hs
    have hrow3 := hok.row3
    have hle : d.evs.length = s.ev.length := by rw [← hok.he]; simp
    refine goes_seq ?_
    refine goes_seq ?_
    refine goes_region ?_
    refine lst_run (run_move (by conv => lhs; whnf)) rfl ?_
    first
      | refine lst_run (run_eql_one_int rfl rfl) rfl ?_
      | refine lst_run (run_eql_no rfl rfl (by first | assumption | omega)) rfl ?_
      | refine lst_run (run_eql_yes rfl rfl (by omega)) rfl ?_
      | refine lst_run (rfl) rfl ?_
    refine lst_done ?_
    refine goes_false rfl ?_
    refine goes_exit rfl ?_
    refine goes_seq ?_
    refine goes_region ?_
    refine lst_run (run_move (by conv => lhs; whnf)) rfl ?_
    refine lst_run (run_nilCheck rfl) rfl ?_
    refine lst_run (run_fieldAddr (off := 8) rfl rfl) rfl ?_
    first
      | refine lst_run (run_load1_own hS rfl rfl (by first | exact .head | exact .tail .head | exact .tail (.tail .head) | exact .tail (.tail (.tail .head)) | exact .tail (.tail (.tail (.tail .head))) | exact .tail (.tail (.tail (.tail (.tail .head))))) (by repeat constructor)) rfl ?_
      | refine lst_run (run_load1 rfl rfl (by first | assumption | exact hS.cell0 (by assumption) | exact lv_next hS | exact lv_list hS)) rfl ?_
    refine lst_run (run_move (by conv => lhs; whnf)) rfl ?_
    refine lst_run (run_build (cells := [_, _]) (.cons (by conv => lhs; whnf) .nil) rfl) rfl ?_
    refine lst_buildSlice (cells := [_, _]) hS (.cons (by conv => lhs; whnf) .nil) rfl rfl ?_
    clear hS
    intro b1 wx1 hS
    refine lst_app (sz := 2) (bts := 32) hS (by conv => lhs; whnf) rfl rfl rfl rfl (hrow3) rfl rfl (.cons _ (perm_out [_, _] _ _ _ _)) (by omega) (by omega) rfl ?_
    clear hS
    intro v8 O8 w9 hrow8 hS
    obtain ⟨A8, c8, rfl⟩ := hrow8.form
    refine lst_run (run_assign (by conv => lhs; whnf)) rfl ?_
    refine lst_run (run_assign (by conv => lhs; whnf)) rfl ?_
    refine lst_done ?_
    refine goes_ret2 Try.func22 rfl (by conv => lhs; whnf) (by conv => lhs; whnf) ?_
    have hlk : evL d.evs ++ [.int .i64 k, .slice none 0 0] = keL (d.evs.map (fun (e : LE) => (⟨1, e.A, e.c, e.T⟩ : KE)) ++ [(⟨k, none, 0, .nil⟩ : KE)]) := by rw [keL_app, evL_ke]; rfl
    have hll : (d.evs.map (fun (e : LE) => (⟨1, e.A, e.c, e.T⟩ : KE)) ++ [(⟨k, none, 0, .nil⟩ : KE)]).length = d.evs.length + 1 := by simp
    obtain ⟨F3, g1, g2, g3⟩ := St.freezeK (L := List.map (fun (e : LE) => (⟨1, e.A, e.c, e.T⟩ : KE)) d.evs ++ [(⟨k, none, 0, .nil⟩ : KE)]) (A := A8) (c := c8) (by rw [hll, ← hlk]; exact hrow8) (fun x hx => by
      rcases List.mem_append.1 hx with hx | hx
      · obtain ⟨e, he, rfl⟩ := List.mem_map.1 hx
        exact hok.re e he
      · obtain rfl : x = ⟨k, none, 0, .nil⟩ := by simpa using hx
        exact fun w _ => ⟨Nat.le_refl _, fun h => by simp [TA.len] at h⟩) hS
    refine ⟨A8, c8, _, F3, by rw [hll], ?_, fun φ h => g1 φ (hFF φ h), g2, St.dropL (L := d.O2) (St.dropL (L := d.O) g3.drop.drop)⟩
    rw [h1 hk, ← hok.he]
    simp [evsOf, KE.ev, TA.ts]
end
end Go.Proofs.Ytdiophafmokfiaa
namespace Go.Proofs.Ytdiophafmokfiaa
set_option linter.unusedVariables false

/-- Good for so many variables. -/
def okV (V : Int) (t : Tm) : Prop := (Ts.cons t.k t.n t.s t.ar .nil).good V = true
theorem good_one (V : Int) (k n : Int) (s : ByteArray) (a r : Ts) : (Ts.cons k n s a r).good V = ((Ts.cons k n s a .nil).good V && r.good V) := by simp [Ts.good]
theorem mapL_good {V : Int} {g : Tm → Nat → Option (Tm × Nat)} (hg : ∀ t l p, okV V t → g t l = some p → okV V p.1) : ∀ (T : Ts) (l : Nat) (p : Ts × Nat), T.good V = true → mapL g T l = some p → p.1.good V = true ∧ p.1.length = T.length
  | .nil, l, p, _, h => by
    simp only [mapL, Option.some.injEq] at h
    subst h
    exact ⟨rfl, rfl⟩
  | .cons k n s a r, l, p, hT, h => by
    rw [good_one, Bool.and_eq_true] at hT
    rw [mapL_cons] at h
    cases h1 : g ⟨k, n, s, a⟩ l with
    | none => rw [h1] at h; cases h
    | some q =>
      rw [h1, Option.bind_some] at h
      cases h2 : mapL g r q.2 with
      | none => rw [h2] at h; cases h
      | some x =>
        rw [h2, Option.map_some, Option.some.injEq] at h
        subst h
        obtain ⟨i1, i2⟩ := mapL_good hg r q.2 x hT.2 h2
        have := hg ⟨k, n, s, a⟩ l q hT.1 h1
        refine ⟨?_, by simp only [Ts.length, i2]⟩
        rw [good_one, Bool.and_eq_true]; exact ⟨this, i1⟩
theorem app_good {V : Int} {B : Bnd} (hB : ∀ x ∈ B, okV V x.2) : ∀ (f : Nat) (t : Tm) (l : Nat) (p : Tm × Nat), okV V t → appM B f t l = some p → okV V p.1
  | 0, t, l, p, _, h => by cases h
  | f + 1, t, l, p, ht, h => by
    have hl := look_Q (Q := okV V) hB ht
    rw [appM_succ] at h
    by_cases h0 : l = 0
    · rw [if_pos h0] at h; cases h
    · rw [if_neg h0] at h
      cases h1 : mapL (appM B f) (lookM B t).ar (l - 1) with
      | none => rw [h1] at h; cases h
      | some q =>
        rw [h1, Option.map_some, Option.some.injEq] at h
        subst h
        unfold okV at hl ⊢
        simp only [Ts.good, Bool.and_eq_true] at hl ⊢
        obtain ⟨i1, i2⟩ := mapL_good (fun t l p h1 h2 => app_good hB f t l p h1 h2) _ _ _ hl.1.2 h1
        exact ⟨⟨by rw [i2]; exact hl.1.1, i1⟩, trivial⟩
theorem varsM_good {B : Bnd} (hB : ∀ x ∈ B, okV 549755813888 x.2) : ∀ (m v l : Nat) (p : Ts × Nat), v + m ≤ 1000 → varsM B m v l = some p → p.1.good 549755813888 = true
  | 0, v, l, p, _, h => by
    simp only [varsM, Option.some.injEq] at h
    subst h
    rfl
  | m + 1, v, l, p, hv, h => by
    rw [varsM_succ] at h
    cases h1 : appM B 201 ⟨0, v, ⟨#[]⟩, .nil⟩ l with
    | none => rw [h1] at h; cases h
    | some q =>
      rw [h1, Option.bind_some] at h
      cases h2 : varsM B m (v + 1) q.2 with
      | none => rw [h2] at h; cases h
      | some x =>
        rw [h2, Option.map_some, Option.some.injEq] at h
        subst h
        have h3 : okV 549755813888 ⟨0, v, ⟨#[]⟩, .nil⟩ := by
          unfold okV
          simp only [Ts.good, Bool.and_eq_true, and_true]
          unfold nodeB
          rw [if_pos rfl]
          simp only [Bool.and_eq_true, decide_eq_true_eq]
          exact ⟨⟨⟨by omega, by omega⟩, toList_mk []⟩, rfl⟩
        have := app_good hB 201 _ l q h3 h1
        show (Ts.cons _ _ _ _ x.1).good _ = true
        rw [good_one, Bool.and_eq_true]
        exact ⟨this, varsM_good hB m (v + 1) q.2 x (by omega) h2⟩
theorem numS_le (ks : List Int) (n : Int) : (numS ks n).length ≤ ks.length + 1 ∧ ks.length ≤ (numS ks n).length := by
  unfold numS
  split
  · omega
  · simp
theorem numV_le (ks : List Int) (n : Int) : 0 ≤ numV ks n ∧ numV ks n ≤ ks.length := by
  unfold numV
  cases h : pos n ks with
  | none => simp
  | some j => have := pos_lt h; simp; omega
theorem tidy_good {V : Int} (u : Nat) (T : Ts) : ∀ ks : List Int, T.good V = true → ks.length + T.nodes ≤ u → (T.tidyFrom ks).1.good u = true ∧ (T.tidyFrom ks).2.length ≤ ks.length + T.nodes ∧ (T.tidyFrom ks).1.length = T.length ∧ (T.tidyFrom ks).1.nodes = T.nodes := by
  induction T with
  | nil => intro ks _ _; exact ⟨rfl, Nat.le_refl _, rfl, rfl⟩
  | cons k n s ar r iha ihr =>
    intro ks hg hu
    simp only [Ts.good, Bool.and_eq_true] at hg
    simp only [Ts.nodes] at hu
    have hl : (tS k n ks).length ≤ ks.length + 1 := by
      unfold tS; split
      · exact (numS_le ks n).1
      · omega
    obtain ⟨a1, a2, a3, a4⟩ := iha (tS k n ks) hg.1.2 (by omega)
    obtain ⟨b1, b2, b3, b4⟩ := ihr (ar.tidyFrom (tS k n ks)).2 hg.2 (by omega)
    rw [Ts.tidyFrom_cons]
    refine ⟨?_, ?_, ?_, ?_⟩
    · simp only [Ts.good, Bool.and_eq_true]
      refine ⟨⟨?_, a1⟩, b1⟩
      rw [a3]
      have hn := hg.1.1
      unfold nodeB at hn ⊢
      unfold tV
      by_cases e : k = 0
      · rw [if_pos e] at hn ⊢
        rw [if_pos e]
        simp only [Bool.and_eq_true, decide_eq_true_eq] at hn ⊢
        have := numV_le ks n
        exact ⟨⟨⟨this.1, by omega⟩, hn.1.2⟩, hn.2⟩
      · rw [if_neg e] at hn ⊢
        rw [if_neg e]
        exact hn
    · simp only [Ts.nodes]; omega
    · simp only [Ts.length, b3]
    · simp only [Ts.nodes, a4, b4]
/-- An answer: of so many terms, good and not too large. -/
def AnsOk (vars : Nat) (T : Ts) : Prop := T.length = vars ∧ T.nodes ≤ 200 ∧ T.good 200 = true
theorem ans_ok {s : SS} {vars : Nat} (hI : InvC s) (hv : vars ≤ 8) {T : Ts} {l : Nat} (h : varsM s.B vars 0 200 = some (T, l)) : AnsOk vars T.tidy := by
  obtain ⟨h1, h2⟩ := varsM_nodes _ _ _ _ h
  have h3 := varsM_good (fun x hx => (hI.gb x hx).1) vars 0 200 _ (by omega) h
  dsimp only at h1 h2 h3
  obtain ⟨g1, g2, g3, g4⟩ := tidy_good 200 T [] h3 (by simp; omega)
  exact ⟨g3.trans h2, by show (T.tidyFrom []).1.nodes ≤ 200; omega, g1⟩
theorem again_kind {s : SS} (h : InvC s) : (againM s).1 = 0 ∨ (againM s).1 = 2 ∨ (againM s).1 = 4 := (again_ok h).2.2
theorem equal_kind {s : SS} {a t : Tm} (hI : InvC s) (hsl : s.B.length + 10100 * (mu s + 1) ≤ 1000000000) (ha : tgd a) (ht : tgd t) : (equalM a t s).1 = 0 ∨ (equalM a t s).1 = 2 ∨ (equalM a t s).1 = 4 := by
  have hi := equal_inv hI hsl ha ht
  unfold equalM
  simp only
  split
  · exact .inr (.inr rfl)
  split
  · exact .inl rfl
  · exact again_kind hi
/-- The run's events: those there were, answers, one end. -/
structure RunOk (vars : Nat) (s : SS) (r : List Ev) (l : List Ts) (k : Int) : Prop where
  eq : r = evsOf l ++ [(k, .nil)]
  ans : ∀ T ∈ l, AnsOk vars T
  kind : 2 ≤ k ∧ k ≤ 6
  more : ∃ m, l = s.ev ++ m
  six : (k = 6 ↔ l.length = 12) ∧ l.length ≤ 12
theorem step_six (p : List Cl) (vars : Nat) (s : SS) (hI : Inv s) (hev : s.ev.length < 12) (hp : pB p = true) : (stepM p vars s).1 = 6 ↔ (stepM p vars s).2.ev.length = 12 := by
  rcases step_ans p vars s hI hp with h | ⟨T, l, hv, h, h6⟩
  · rw [h]
    constructor
    · intro e
      exfalso
      -- no step but an answer ends so
      have hp2 : p.length ≤ 24 ∧ ∀ x ∈ p, cB x = true := by
        unfold pB at hp
        simp only [Bool.and_eq_true, decide_eq_true_eq, List.all_eq_true] at hp
        exact hp
      unfold stepM at e h
      cases hg : s.goals with
      | nil =>
        rw [hg] at e h
        simp only at e h
        unfold answerM at e h
        cases hv : varsM s.B vars 0 200 with
        | none => rw [hv] at e; cases e
        | some x =>
          rw [hv] at e h
          simp only at e h
          have hi : InvC ⟨s.B, s.fresh, s.fuel, s.goals, s.ch, s.ev ++ [x.1.tidy]⟩ := ⟨hI.c.bok, hI.c.gb, hI.c.ch, hI.c.fr, hI.c.bl⟩
          split at h
          · have := congrArg List.length h; simp at this
          · rw [(again_ok hi).2.1] at h
            have := congrArg List.length h; simp at this
      | cons g rest =>
        rw [hg] at e
        simp only at e
        split at e
        · cases e
        rename_i hf
        obtain ⟨h1, h2, h3, h4, h5, h6, h7⟩ := popped_inv hI hg hf
        split at e
        · rename_i hb
          have hd := tgd_down _ h6
          unfold builtB at hb
          unfold builtM at e
          split at e
          · cases e
          rename_i k1
          rw [if_neg k1] at hb
          split at e
          · cases e
          rename_i k2
          rw [if_neg k2] at hb
          split at e
          · rename_i k3
            rw [if_neg (by rw [k3]; decide), if_pos k3] at hb
            have hl : g.1.ar.length = 2 := by simpa using hb
            rcases equal_kind h1 h2 (hd _ (Ts.at_mem (i := 0) (by omega))) (hd _ (Ts.at_mem (i := 1) (by omega))) with q | q | q <;> rw [q] at e <;> cases e
          split at e
          · unfold lessM at e
            simp only at e
            split at e
            · cases e
            split at e
            · rcases again_kind h1 with q | q | q <;> rw [q] at e <;> cases e
            · cases e
          split at e
          · rename_i k5
            rw [if_neg (by rw [k5]; decide), if_neg (by rw [k5]; decide), if_neg (by rw [k5]; decide), if_pos k5] at hb
            have hl : g.1.ar.length = 3 := by simpa using hb
            unfold addM at e
            simp only at e
            split at e
            · cases e
            split at e
            · cases e
            · rename_i hr
              have tn : tgd ⟨2, (lookM s.B (g.1.ar.at_ 0)).n + (lookM s.B (g.1.ar.at_ 1)).n, ⟨#[]⟩, .nil⟩ := by
                refine ⟨?_, by simp [Ts.nodes]⟩
                simp only [Ts.good, Bool.and_eq_true, and_true]
                unfold nodeB
                rw [if_neg (by decide), if_neg (by decide), if_pos rfl]
                simp only [Bool.and_eq_true, decide_eq_true_eq]
                exact ⟨⟨⟨by omega, by omega⟩, toList_mk []⟩, rfl⟩
              rcases equal_kind h1 h2 (hd _ (Ts.at_mem (i := 2) (by omega))) tn with q | q | q <;> rw [q] at e <;> cases e
          · rcases again_kind h1 with q | q | q <;> rw [q] at e <;> cases e
        · cases hm : p.filter (fitsC g.1) with
          | nil => rw [hm] at e; cases e
          | cons c cs =>
            rw [hm] at e
            simp only at e
            have hsub : ∀ x ∈ c :: cs, cB x = true := fun x hx => hp2.2 x (by rw [← hm] at hx; exact (List.mem_filter.1 hx).1)
            have hlen : (c :: cs).length ≤ 24 := by rw [← hm]; exact Nat.le_trans (List.length_filter_le _ _) hp2.1
            obtain ⟨i1, i2⟩ := push_inv hI hg hf hsub hlen
            rcases again_kind i1 with q | q | q <;> rw [q] at e <;> cases e
    · intro e; omega
  · rw [h6, h]; simp
theorem run_ok (p : List Cl) (vars : Nat) (hp : pB p = true) (hv : vars ≤ 8) : ∀ (n : Nat) (s : SS), Inv s → s.ev.length < 12 → mu s < n → (∀ T ∈ s.ev, AnsOk vars T) → ∃ l k, RunOk vars s (runM p vars n s) l k
  | 0, s, _, _, h, _ => by omega
  | n + 1, s, hI, hev, hmu, ha => by
    obtain ⟨hst, hst2⟩ := step_ok (vars := vars) hI hev hp
    have hsix := step_six p vars s hI hev hp
    have hle := step_ev p vars s hI hev hp
    have hext : ∃ m, (stepM p vars s).2.ev = s.ev ++ m := by
      rcases step_ans p vars s hI hp with h | ⟨T, l, _, h, _⟩
      · exact ⟨[], by rw [h]; simp⟩
      · exact ⟨[T.tidy], h⟩
    have ha2 : ∀ T ∈ (stepM p vars s).2.ev, AnsOk vars T := by
      rcases step_ans p vars s hI hp with h | ⟨T, l, hT, h, _⟩
      · rw [h]; exact ha
      · rw [h]
        intro X hX
        rcases List.mem_append.1 hX with hX | hX
        · exact ha X hX
        · obtain rfl : X = T.tidy := by simpa using hX
          exact ans_ok hI.c hv hT
    rw [runM_succ]
    by_cases h0 : (stepM p vars s).1 = 0
    · rw [if_pos h0]
      obtain ⟨l, k, hr⟩ := run_ok p vars hp hv n _ (hst.go h0).1 (hst2 h0) (by have := (hst.go h0).2; omega) ha2
      obtain ⟨m1, e1⟩ := hext
      obtain ⟨m2, e2⟩ := hr.more
      exact ⟨l, k, hr.eq, hr.ans, hr.kind, ⟨m1 ++ m2, by rw [e2, e1, List.append_assoc]⟩, hr.six⟩
    · rw [if_neg h0]
      have hk := hst.kind
      exact ⟨_, _, rfl, ha2, by omega, hext, hsix, hle⟩
theorem all_ok {p : List Cl} {q : Ts} {vars fuel : Int} (h : (allM p q vars fuel).2 = 0) : pB p = true ∧ qB vars q = true ∧ 0 ≤ vars ∧ vars ≤ 8 ∧ 0 ≤ fuel ∧ fuel ≤ 150 ∧ allM p q vars fuel = (runM p vars.toNat 4000 (startM q vars.toNat fuel.toNat), 0) ∧ Inv (startM q vars.toNat fuel.toNat) ∧ mu (startM q vars.toNat fuel.toNat) ≤ 3750 := by
  unfold allM at h ⊢
  split at h
  · cases h
  rename_i h1
  split at h
  · cases h
  rename_i h2
  have hp : pB p = true := by cases hb : pB p with
    | true => rfl
    | false => exact absurd (.inl hb) h1
  have hq : qB vars q = true := by cases hb : qB vars q with
    | true => rfl
    | false => exact absurd (.inr hb) h1
  have hq2 := hq
  simp only [qB, Bool.and_eq_true, decide_eq_true_eq] at hq2
  rw [if_neg h1, if_neg h2]
  obtain ⟨i1, i2⟩ := start_inv (q := q) (vars := vars.toNat) (fuel := fuel.toNat) (by rw [Int.toNat_of_nonneg hq2.1.1.1]; exact hq) (by omega)
  exact ⟨hp, hq, by omega, by omega, by omega, by omega, rfl, i1, i2⟩
theorem all_events {p : List Cl} {q : Ts} {vars fuel : Int} (h : (allM p q vars fuel).2 = 0) : ∃ l k, RunOk vars.toNat (startM q vars.toNat fuel.toNat) (allM p q vars fuel).1 l k := by
  obtain ⟨hp, hq, v0, v1, f0, f1, e, hI, hm⟩ := all_ok h
  rw [e]
  exact run_ok p vars.toNat hp (by omega) 4000 _ hI (by simp [startM]) (by omega) (fun T hT => by simp [startM] at hT)
theorem all_err {p : List Cl} {q : Ts} {vars fuel : Int} (h : (allM p q vars fuel).2 ≠ 0) : (allM p q vars fuel).1 = [] := by
  unfold allM at h ⊢
  split
  · rfl
  split
  · rfl
  · rename_i h1 h2
    rw [if_neg h1, if_neg h2] at h
    exact absurd rfl h
end Go.Proofs.Ytdiophafmokfiaa
namespace Go.Proofs.Ytdiophafmokfiaa
set_option linter.unusedVariables false

def SS.more (s : SS) (d : Nat) : SS := ⟨s.B, s.fresh, s.fuel + d, s.goals, s.ch, s.ev⟩
def moreP (d : Nat) (r : Int × SS) : Int × SS := (r.1, r.2.more d)
theorem retry_more (d : Nat) : ∀ (n : Nat) (s : SS), retryM n (s.more d) = moreP d (retryM n s)
  | 0, s => rfl
  | n + 1, s => by
    cases h1 : s.ch with
    | nil =>
      have e1 : retryM (n + 1) s = (2, s) := by unfold retryM; rw [h1]
      have e2 : retryM (n + 1) (s.more d) = (2, s.more d) := by
        unfold retryM
        rw [show (s.more d).ch = [] from h1]
      rw [e1, e2]; rfl
    | cons c cs =>
      cases h2 : c.cls with
      | nil =>
        have e1 : retryM (n + 1) s = (2, s) := by unfold retryM; rw [h1]; simp only; rw [h2]
        have e2 : retryM (n + 1) (s.more d) = (2, s.more d) := by
          unfold retryM
          rw [show (s.more d).ch = c :: cs from h1]; simp only; rw [h2]
        rw [e1, e2]; rfl
      | cons cl more =>
        rw [retryM_cons h1 h2, retryM_cons (s := s.more d) (show (s.more d).ch = c :: cs from h1) h2]
        show (if 400 < (uniM 401 (cl.head.shift s.fresh) c.g.1 (undoM s.B c.bound) 0).w then _ else if (uniM 401 (cl.head.shift s.fresh) c.g.1 (undoM s.B c.bound) 0).ok = true then _ else _) = _
        by_cases h4 : 400 < (uniM 401 (cl.head.shift s.fresh) c.g.1 (undoM s.B c.bound) 0).w
        · rw [if_pos h4, if_pos h4]; rfl
        rw [if_neg h4, if_neg h4]
        by_cases h : (uniM 401 (cl.head.shift s.fresh) c.g.1 (undoM s.B c.bound) 0).ok = true
        · rw [if_pos h, if_pos h]; rfl
        · rw [if_neg h, if_neg h]; exact retry_more d n ⟨_, _, s.fuel, _, _, _⟩
theorem again_more (d : Nat) (s : SS) : againM (s.more d) = moreP d (againM s) := retry_more d _ s
theorem equal_more (d : Nat) (a t : Tm) (s : SS) : equalM a t (s.more d) = moreP d (equalM a t s) := by
  show (if 400 < (uniM 401 a t s.B 0).w then _ else if (uniM 401 a t s.B 0).ok = true then _ else _) = moreP d (if 400 < (uniM 401 a t s.B 0).w then _ else if (uniM 401 a t s.B 0).ok = true then _ else _)
  by_cases h4 : 400 < (uniM 401 a t s.B 0).w
  · rw [if_pos h4, if_pos h4]; rfl
  rw [if_neg h4, if_neg h4]
  by_cases h : (uniM 401 a t s.B 0).ok = true
  · rw [if_pos h, if_pos h]; rfl
  · rw [if_neg h, if_neg h]; exact again_more d (s.setB _)
theorem built_more (d : Nat) (g : Gl) (s : SS) : builtM g (s.more d) = moreP d (builtM g s) := by
  unfold builtM
  split
  · rfl
  split
  · rfl
  split
  · exact equal_more d _ _ s
  split
  · show (if (lookM s.B (g.1.ar.at_ 0)).k ≠ 2 ∨ (lookM s.B (g.1.ar.at_ 1)).k ≠ 2 then _ else if (lookM s.B (g.1.ar.at_ 1)).n ≤ (lookM s.B (g.1.ar.at_ 0)).n then _ else _) = moreP d (if (lookM s.B (g.1.ar.at_ 0)).k ≠ 2 ∨ (lookM s.B (g.1.ar.at_ 1)).k ≠ 2 then _ else if (lookM s.B (g.1.ar.at_ 1)).n ≤ (lookM s.B (g.1.ar.at_ 0)).n then _ else _)
    by_cases h4 : (lookM s.B (g.1.ar.at_ 0)).k ≠ 2 ∨ (lookM s.B (g.1.ar.at_ 1)).k ≠ 2
    · rw [if_pos h4, if_pos h4]; rfl
    rw [if_neg h4, if_neg h4]
    by_cases h : (lookM s.B (g.1.ar.at_ 1)).n ≤ (lookM s.B (g.1.ar.at_ 0)).n
    · rw [if_pos h, if_pos h]; exact again_more d s
    · rw [if_neg h, if_neg h]; rfl
  split
  · show (if (lookM s.B (g.1.ar.at_ 0)).k ≠ 2 ∨ (lookM s.B (g.1.ar.at_ 1)).k ≠ 2 then _ else if (lookM s.B (g.1.ar.at_ 0)).n + (lookM s.B (g.1.ar.at_ 1)).n < -1099511627776 ∨ 1099511627776 < (lookM s.B (g.1.ar.at_ 0)).n + (lookM s.B (g.1.ar.at_ 1)).n then _ else _) = moreP d (if (lookM s.B (g.1.ar.at_ 0)).k ≠ 2 ∨ (lookM s.B (g.1.ar.at_ 1)).k ≠ 2 then _ else if (lookM s.B (g.1.ar.at_ 0)).n + (lookM s.B (g.1.ar.at_ 1)).n < -1099511627776 ∨ 1099511627776 < (lookM s.B (g.1.ar.at_ 0)).n + (lookM s.B (g.1.ar.at_ 1)).n then _ else _)
    by_cases h4 : (lookM s.B (g.1.ar.at_ 0)).k ≠ 2 ∨ (lookM s.B (g.1.ar.at_ 1)).k ≠ 2
    · rw [if_pos h4, if_pos h4]; rfl
    rw [if_neg h4, if_neg h4]
    by_cases h : (lookM s.B (g.1.ar.at_ 0)).n + (lookM s.B (g.1.ar.at_ 1)).n < -1099511627776 ∨ 1099511627776 < (lookM s.B (g.1.ar.at_ 0)).n + (lookM s.B (g.1.ar.at_ 1)).n
    · rw [if_pos h, if_pos h]; rfl
    · rw [if_neg h, if_neg h]; exact equal_more d _ _ s
  · exact again_more d s
theorem answer_more (d vars : Nat) (s : SS) : answerM vars (s.more d) = moreP d (answerM vars s) := by
  unfold answerM
  show (match varsM s.B vars 0 200 with | none => _ | some (T, _) => _) = _
  cases varsM s.B vars 0 200 with
  | none => rfl
  | some x =>
    simp only
    show (if (s.ev ++ [x.1.tidy]).length = 12 then _ else _) = _
    split
    · rfl
    · exact again_more d ⟨s.B, s.fresh, s.fuel, s.goals, s.ch, s.ev ++ [x.1.tidy]⟩
theorem step_more (p : List Cl) (vars d : Nat) (s : SS) (h : s.goals = [] ∨ s.fuel ≠ 0) : stepM p vars (s.more d) = moreP d (stepM p vars s) := by
  cases hg : s.goals with
  | nil =>
    have e1 : stepM p vars s = answerM vars s := by unfold stepM; rw [hg]
    have e2 : stepM p vars (s.more d) = answerM vars (s.more d) := by unfold stepM; rw [show (s.more d).goals = [] from hg]
    rw [e1, e2]; exact answer_more d vars s
  | cons g rest =>
    have hf : s.fuel ≠ 0 := by
      rcases h with h | h
      · rw [hg] at h; cases h
      · exact h
    unfold stepM
    rw [hg, show (s.more d).goals = g :: rest from hg]
    simp only
    rw [if_neg hf, if_neg (show ¬ (s.more d).fuel = 0 by show ¬ s.fuel + d = 0; omega)]
    have e1 : (s.more d).fuel - 1 = (s.fuel - 1) + d := by show s.fuel + d - 1 = _; omega
    rw [e1]
    split
    · exact built_more d g ⟨s.B, s.fresh, s.fuel - 1, rest, s.ch, s.ev⟩
    · cases p.filter (fitsC g.1) with
      | nil => rfl
      | cons c cs => exact again_more d ⟨s.B, s.fresh, s.fuel - 1, rest, ⟨g, rest, c :: cs, s.B.length⟩ :: s.ch, s.ev⟩
theorem step_out (p : List Cl) (vars : Nat) (s : SS) {g : Gl} {rest : List Gl} (hg : s.goals = g :: rest) (hf : s.fuel = 0) : stepM p vars s = (3, s) := by
  unfold stepM
  rw [hg]
  simp only
  rw [if_pos hf]
/-- The run with more fuel. -/
theorem run_more (p : List Cl) (vars d : Nat) (hp : pB p = true) (hv : vars ≤ 8) : ∀ (n m : Nat) (s : SS), Inv s → Inv (s.more d) → s.ev.length < 12 → mu s < n → mu (s.more d) < m → (∀ T ∈ s.ev, AnsOk vars T) →
    ∃ l k, runM p vars n s = evsOf l ++ [(k, .nil)] ∧ (k ≠ 3 → runM p vars m (s.more d) = evsOf l ++ [(k, .nil)]) ∧ (k = 3 → ∃ x r, runM p vars m (s.more d) = evsOf l ++ x :: r)
  | 0, m, s, _, _, _, h, _, _ => by omega
  | n + 1, 0, s, _, _, _, _, h, _ => by omega
  | n + 1, m + 1, s, hI, hI2, hev, hmu, hmu2, ha => by
    by_cases hstop : ∃ g rest, s.goals = g :: rest ∧ s.fuel = 0
    · obtain ⟨g, rest, hg, hf⟩ := hstop
      rw [runM_succ, step_out p vars s hg hf]
      refine ⟨s.ev, 3, rfl, fun h => absurd rfl h, fun _ => ?_⟩
      obtain ⟨l, k, hr⟩ := run_ok p vars hp hv (m + 1) (s.more d) hI2 hev hmu2 ha
      obtain ⟨t, e⟩ := hr.more
      have e' : l = s.ev ++ t := e
      rw [hr.eq, e']
      cases t with
      | nil => exact ⟨(k, .nil), [], by simp⟩
      | cons x r => exact ⟨(1, x), evsOf r ++ [(k, .nil)], by simp [evsOf]⟩
    · have hst := step_more p vars d s (by
        cases hg : s.goals with
        | nil => exact .inl rfl
        | cons g rest => exact .inr fun hf => hstop ⟨g, rest, hg, hf⟩)
      obtain ⟨s1, s2⟩ := step_ok (vars := vars) hI hev hp
      obtain ⟨t1, t2⟩ := step_ok (vars := vars) hI2 hev hp
      rw [runM_succ, runM_succ, hst]
      rw [hst] at t1 t2
      by_cases h0 : (stepM p vars s).1 = 0
      · rw [if_pos h0, if_pos (show (moreP d (stepM p vars s)).1 = 0 from h0)]
        have ha2 : ∀ T ∈ (stepM p vars s).2.ev, AnsOk vars T := by
          rcases step_ans p vars s hI hp with h | ⟨T, l, hT, h, _⟩
          · rw [h]; exact ha
          · rw [h]
            intro X hX
            rcases List.mem_append.1 hX with hX | hX
            · exact ha X hX
            · obtain rfl : X = T.tidy := by simpa using hX
              exact ans_ok hI.c hv hT
        exact run_more p vars d hp hv n m _ (s1.go h0).1 (t1.go h0).1 (s2 h0) (by have := (s1.go h0).2; omega) (by have := (t1.go h0).2; exact Nat.lt_of_lt_of_le this (by omega)) ha2
      · rw [if_neg h0, if_neg (show ¬ (moreP d (stepM p vars s)).1 = 0 from h0)]
        refine ⟨_, _, rfl, fun _ => rfl, fun _ => ⟨_, [], rfl⟩⟩
/-- With more fuel there are the same answers, and perhaps more. -/
theorem all_more {p : List Cl} {q : Ts} {vars : Int} {f d : Nat} (hf : f + d ≤ 150) (h : (allM p q vars f).2 = 0) : (allM p q vars ((f + d : Nat) : Int)).2 = 0 ∧ ∃ l k, (allM p q vars f).1 = evsOf l ++ [(k, .nil)] ∧ (k ≠ 3 → (allM p q vars ((f + d : Nat) : Int)).1 = evsOf l ++ [(k, .nil)]) ∧ (k = 3 → ∃ x r, (allM p q vars ((f + d : Nat) : Int)).1 = evsOf l ++ x :: r) := by
  obtain ⟨hp, hq, v0, v1, _, _, e, hI, hm⟩ := all_ok h
  have e2 : allM p q vars ((f + d : Nat) : Int) = (runM p vars.toNat 4000 (startM q vars.toNat (f + d)), 0) := by
    unfold allM
    rw [if_neg (by rw [hp, hq]; simp), if_neg (by omega)]
    rfl
  obtain ⟨i1, i2⟩ := start_inv (q := q) (vars := vars.toNat) (fuel := f + d) (by rw [Int.toNat_of_nonneg v0]; exact hq) hf
  refine ⟨by rw [e2], ?_⟩
  rw [e, e2]
  have e3 : startM q vars.toNat (f + d) = (startM q vars.toNat f).more d := rfl
  rw [e3] at i1 i2 ⊢
  rw [Int.toNat_natCast] at hI hm ⊢
  exact run_more p vars.toNat d hp (by omega) 4000 4000 _ hI i1 (by simp [startM]) (by omega) (by omega) (fun T hT => by simp [startM] at hT)
theorem all_more_err {p : List Cl} {q : Ts} {vars : Int} {f d : Nat} (hf : f + d ≤ 150) (h : (allM p q vars f).2 ≠ 0) : (allM p q vars ((f + d : Nat) : Int)).2 = (allM p q vars f).2 := by
  unfold allM at h ⊢
  split
  · rfl
  rename_i h1
  rw [if_neg h1] at h
  rw [if_neg (by omega)] at h
  exact absurd rfl h
end Go.Proofs.Ytdiophafmokfiaa
namespace Go.Proofs.Ytdiophafmokfiaa
open Go.RowKit

/-- Each list of arguments is no longer than a slice may be. -/
def Ts.wide : Ts → Prop
  | .nil => True
  | .cons _ _ _ ar r => ar.length ≤ 9223372036854775807 ∧ ar.wide ∧ r.wide
theorem Ts.wide_app (D R : Ts) : (D.app R).wide ↔ D.wide ∧ R.wide := by
  induction D with
  | nil => simp [Ts.app, Ts.wide]
  | cons k n s ar r _ ih => simp only [Ts.app, Ts.wide, ih]; constructor <;> (rintro ⟨h1, h2⟩; simp_all)
theorem Ts.wide_of (T : Ts) : T.nodes ≤ 9223372036854775807 → T.wide := by
  induction T with
  | nil => intro _; trivial
  | cons k n s ar r iha ihr =>
    intro h
    simp only [Ts.nodes] at h
    have := ar.length_le
    exact ⟨by omega, iha (by omega), ihr (by omega)⟩
def ClsWide (L : List Cl) : Prop := ∀ c ∈ L, c.hd.length ≤ 9223372036854775807 ∧ c.hd.wide ∧ c.bd.length ≤ 9223372036854775807 ∧ c.bd.wide

def VisitSaidW (T : Ts) : Prop := ∀ (k n : Int) (s : ByteArray) (v : Value) (L lb vb B : Nat) (w : World), Sl w (fun k => k < B) v T → B ≤ lb → VS lb vb L w → L ≤ 24 → T.length ≤ 9223372036854775807 → T.wide →
    Calls Try.prog 61 #[.agg #[.int .i64 k, .int .i64 n, .string s, v], .pointer (some ⟨lb, 0, none⟩), .pointer (some ⟨vb, 0, none⟩)] w fun e w' =>
      e = .returned (.bool (decide (T.nodes + 1 ≤ L))) ∧ (T.nodes + 1 ≤ L → VS lb vb (L - (T.nodes + 1)) w') ∧ Chg (fun k => k = lb) w w'

def VtLoopW (w : World) (T : Ts) (L lb vb : Nat) (g : Nat) (sx : Value) (wr : World) : Prop := ∃ D R : Ts, T = D.app R ∧ g = R.length ∧ sx = .int .i64 D.length ∧ D.nodes + 1 ≤ L ∧ VS lb vb (L - (D.nodes + 1)) wr ∧ Chg (fun k => k = lb) w wr

set_option maxHeartbeats 1000000 in
theorem visitW_of (m : Nat) (ih : ∀ T : Ts, T.nodes < m → VisitSaidW T) (T : Ts) (hm : T.nodes ≤ m) : VisitSaidW T := by
  intro k n s v L lb vb B w hv hBl hvs hL hn hwd
  obtain ⟨A, c, rfl, hs⟩ := hv.form
  have hle := T.length_le
  have hW : Below w.heap.size w (w.alloc (.cells #[.int .i64 k, .int .i64 n, .string s, .slice A T.length c] 24)) := (Below.refl _ _).alloc (Nat.le_refl _) _
  have hvs1 := hvs.far hW
  have hs1 := hs.below hW
  have bA := Plot.new w 24 #[.int .i64 k, .int .i64 n, .string s, .slice A T.length c]
  have l0 := hvs1.left.cell 0
  have lf := hvs1.left.frozen 0
  simp at l0
  have hlt := hvs.left.lt
  by_cases hL0 : L = 0
  · subst hL0
    go_enter Try.func61, Try.ntmps61
    go_wp2_with fail
    go_ret
    exact ⟨rfl, fun h => absurd h (by omega), Chg.of_fresh hW⟩
  have hL1 : 0 < L := by omega
  obtain ⟨p0, p1, p2, p3, _⟩ := bA.four
  have hne : w.heap.size ≠ lb := by omega
  go_enter Try.func61, Try.ntmps61
  go_wp2_with fail
  have hstart : VS lb vb (L - 1) ((w.setCell ⟨lb, 0, none⟩ (.int .i64 ((L : Int) - 1))).alloc (.cells #[.int .i64 k, .int .i64 n, .string s, .slice A T.length c] 24)) := by
    refine ⟨?_, ?_, hvs.ne⟩
    · have h1 := (hvs.left.set_ 0 (.int .i64 ((L : Int) - 1))).alloc (.cells #[.int .i64 k, .int .i64 n, .string s, .slice A T.length c] 24)
      rw [show ((L - 1 : Nat) : Int) = (L : Int) - 1 by omega]
      exact h1
    · exact (hvs.fn.far (p := ⟨lb, 0, none⟩) hvs.ne _).alloc _
  have hchg : Chg (fun k => k = lb) w ((w.setCell ⟨lb, 0, none⟩ (.int .i64 ((L : Int) - 1))).alloc (.cells #[.int .i64 k, .int .i64 n, .string s, .slice A T.length c] 24)) :=
    ((Chg.refl (fun k => k = lb) w).setCell (p := ⟨lb, 0, none⟩) (fun _ => rfl) _).alloc _
  have hcall : ∀ (args : Array Value) (x : World), (callFunc 61 args).run Try.prog x = .ok (.enter 61 args) x := fun args x => by simp [go_sem]
  generalize ((w.setCell ⟨lb, 0, none⟩ (.int .i64 ((L : Int) - 1))).alloc (.cells #[.int .i64 k, .int .i64 n, .string s, .slice A T.length c] 24)) = W at *
  have h0 : VtLoopW w T L lb vb T.length (.int .i64 0) W := ⟨.nil, T, rfl, rfl, rfl, hL1, hstart, hchg⟩
  clear hstart hchg hvs1 bA p0 p1 p2 p3 hne l0 lf hs1 hW
  go_loopg [14] T.length (VtLoopW w T L lb vb)
  case atStart => exact h0
  case round =>
    clear h0
    obtain ⟨D, R, hT, hg, rfl, hD, hvr, hc⟩ := hrel
    have HT := Lib.hid hT
    have HG := Lib.hid hg
    clear hT hg
    have hsr : Sl wr (fun k => k < B) (.slice A T.length c) T := hs.chg hc fun k hk => by omega
    cases R with
    | nil =>
      have eD : D = T := by rw [HT.out, Ts.app_nil]
      subst eD
      go_wp2_with fail
      go_ret
      refine ⟨?_, fun _ => hvr, hc⟩
      rw [decide_eq_true hD]; rfl
    | cons k1 n1 s1 ar r =>
      have e1 : D.length < T.length := by rw [HT.out, Ts.length_app]; simp [Ts.length]
      have hnod : T.nodes = D.nodes + (1 + ar.nodes + r.nodes) := by rw [HT.out, Ts.nodes_app]; simp only [Ts.nodes]; omega
      have hwa : ar.length ≤ 9223372036854775807 ∧ ar.wide ∧ r.wide := by rw [HT.out, Ts.wide_app] at hwd; exact hwd.2
      rw [HT.out] at hsr
      rw [show (D.app (.cons k1 n1 s1 ar r)).length = T.length by rw [← HT.out]] at hsr
      obtain ⟨b1, o1, rfl, hq1⟩ := Sl.at_ hsr (by simp [Ts.length])
      obtain ⟨_, c10, c11, c12, ⟨v1, c13, hv1⟩, _⟩ := seg_cons.1 hq1
      obtain ⟨A1, d1, rfl, hv1⟩ := hv1.form
      clear hq1 hsr
      have hX : Below wr.heap.size wr (wr.alloc (.cells #[.int .i64 k1, .int .i64 n1, .string s1, .slice A1 ar.length d1] 24)) := (Below.refl _ _).alloc (Nat.le_refl _) _
      have hvx := hvr.far hX
      have f0 := hvx.fn.cell 0
      simp at f0
      go_wp2_with fail
      have e2 : ar.nodes < m := by omega
      refine (ih ar e2 k1 n1 s1 _ (L - (D.nodes + 1)) lb vb B _ (hv1.below hX) hBl hvx (by omega) hwa.1 hwa.2.1).mono ?_
      rintro e w2 ⟨rfl, hok, hc2⟩
      have hc3 : Chg (fun k => k = lb) w w2 := (hc.trans (Chg.of_fresh (S := fun k => k = lb) hX) fun _ _ h => h).trans hc2 fun _ _ h => h
      by_cases hx : ar.nodes + 1 ≤ L - (D.nodes + 1)
      · have hok := hok hx
        rw [decide_eq_true hx]
        have hnx : Hid (VS lb vb (L - ((D.app (.cons k1 n1 s1 ar .nil)).nodes + 1)) w2) := Lib.hid (by
          rw [Ts.nodes_app]
          simp only [Ts.nodes]
          rw [show L - (D.nodes + (ar.nodes + 0 + 1) + 1) = L - (D.nodes + 1) - (ar.nodes + 1) by omega]
          exact hok)
        clear hok
        go_wp2_with fail
        go_roundg r.length
        case measure => rw [HG.out]; simp [Ts.length]
        case rel =>
          refine ⟨D.app (.cons k1 n1 s1 ar .nil), r, ?_, rfl, ?_, ?_, hnx.out, hc3⟩
          · rw [HT.out, Ts.app_assoc]; rfl
          · rw [Ts.length_app]; rfl
          · rw [Ts.nodes_app]; simp only [Ts.nodes]; omega
      · rw [decide_eq_false hx]
        have hbig : Hid (¬ T.nodes + 1 ≤ L) := Lib.hid (by omega)
        clear hok
        go_wp2_with fail
        go_ret
        refine ⟨?_, fun h => absurd h hbig.out, hc3⟩
        rw [decide_eq_false hbig.out]; rfl

theorem visitW_said (T : Ts) : VisitSaidW T := by
  have : ∀ m, ∀ T : Ts, T.nodes < m → VisitSaidW T := by
    intro m
    induction m with
    | zero => intro T h; omega
    | succ m ih => intro T h; exact visitW_of m ih T (by omega)
  exact this _ T (Nat.lt_succ_self _)

set_option maxHeartbeats 1000000 in
theorem fitsW_any (k n : Int) (s : ByteArray) (T : Ts) (v : Value) (w : World) (hv : Sl w (fun _ => True) v T) (hn : T.length ≤ 9223372036854775807) (hwd : T.wide) :
    Calls Try.prog 54 #[.agg #[.int .i64 k, .int .i64 n, .string s, v], .int .i64 24] w fun e w' => e = .returned (.bool (decide (T.nodes + 1 ≤ 24))) ∧ Below w.heap.size w w' := by
  obtain ⟨A, c, rfl, hs⟩ := hv.form
  have hs := hs.imp (q := fun k => k < w.heap.size) fun k _ h => h
  have hW : Below w.heap.size w (((w.alloc (.cells #[.int .i64 k, .int .i64 n, .string s, .slice A T.length c] 24)).alloc (.cells #[.int .i64 24] 3)).alloc (.cells #[.func (.func 61) #[] #[.pointer (some ⟨w.heap.size + 1, 0, none⟩), .pointer (some ⟨w.heap.size + 1 + 1, 0, none⟩)]] 73)) := (((Below.refl _ _).alloc (Nat.le_refl _) _).alloc (by simp) _).alloc (by simp; omega) _
  have hst : (store ⟨w.heap.size + 1 + 1, 0, none⟩ (.func (.func 61) #[] #[.pointer (some ⟨w.heap.size + 1, 0, none⟩), .pointer (some ⟨w.heap.size + 1 + 1, 0, none⟩)])).run Try.prog (((w.alloc (.cells #[.int .i64 k, .int .i64 n, .string s, .slice A T.length c] 24)).alloc (.cells #[.int .i64 24] 3)).alloc (.cells #[.nilFunc] 73)) =
      .ok () (((w.alloc (.cells #[.int .i64 k, .int .i64 n, .string s, .slice A T.length c] 24)).alloc (.cells #[.int .i64 24] 3)).alloc (.cells #[.func (.func 61) #[] #[.pointer (some ⟨w.heap.size + 1, 0, none⟩), .pointer (some ⟨w.heap.size + 1 + 1, 0, none⟩)]] 73)) := by
    have hb := Plot.new ((w.alloc (.cells #[.int .i64 k, .int .i64 n, .string s, .slice A T.length c] 24)).alloc (.cells #[.int .i64 24] 3)) 73 #[.nilFunc]
    have e := setCell_new ((w.alloc (.cells #[.int .i64 k, .int .i64 n, .string s, .slice A T.length c] 24)).alloc (.cells #[.int .i64 24] 3)) .nilFunc (.func (.func 61) #[] #[.pointer (some ⟨w.heap.size + 1, 0, none⟩), .pointer (some ⟨w.heap.size + 1 + 1, 0, none⟩)]) 73
    have h := run_store_func (P := Try.prog) (f := .func 61) (x := #[]) (y := #[.pointer (some ⟨w.heap.size + 1, 0, none⟩), .pointer (some ⟨w.heap.size + 1 + 1, 0, none⟩)]) (hb.cell 0) (hb.frozen 0)
    rw [e] at h
    simpa using h
  have hvs : VS (w.heap.size + 1) (w.heap.size + 1 + 1) 24 (((w.alloc (.cells #[.int .i64 k, .int .i64 n, .string s, .slice A T.length c] 24)).alloc (.cells #[.int .i64 24] 3)).alloc (.cells #[.func (.func 61) #[] #[.pointer (some ⟨w.heap.size + 1, 0, none⟩), .pointer (some ⟨w.heap.size + 1 + 1, 0, none⟩)]] 73)) := by
    refine ⟨?_, ?_, by omega⟩
    · have := (Plot.new (w.alloc (.cells #[.int .i64 k, .int .i64 n, .string s, .slice A T.length c] 24)) 3 #[.int .i64 24]).alloc (.cells #[.func (.func 61) #[] #[.pointer (some ⟨w.heap.size + 1, 0, none⟩), .pointer (some ⟨w.heap.size + 1 + 1, 0, none⟩)]] 73)
      simpa using this
    · have := Plot.new ((w.alloc (.cells #[.int .i64 k, .int .i64 n, .string s, .slice A T.length c] 24)).alloc (.cells #[.int .i64 24] 3)) 73 #[.func (.func 61) #[] #[.pointer (some ⟨w.heap.size + 1, 0, none⟩), .pointer (some ⟨w.heap.size + 1 + 1, 0, none⟩)]]
      simpa using this
  have hcall : ∀ (args : Array Value) (x : World), (callFunc 61 args).run Try.prog x = .ok (.enter 61 args) x := fun args x => by simp [go_sem]
  go_enter Try.func54, Try.ntmps54
  go_wp2_with fail
  refine (visitW_said T k n s _ 24 (w.heap.size + 1) (w.heap.size + 1 + 1) w.heap.size _ (hs.below hW) (by omega) hvs (Nat.le_refl _) hn hwd).mono ?_
  rintro e w2 ⟨rfl, _, hc⟩
  generalize hfb : decide (T.nodes + 1 ≤ 24) = fb
  have HFB := Lib.hid hfb
  clear hfb
  go_wp2_with fail
  go_ret
  refine ⟨by rw [HFB.out]; rfl, hW.trans (hc.below (by simp; omega) fun k hk _ => ?_)⟩
  have e : k = w.heap.size + 1 := hk
  omega
set_option maxHeartbeats 1000000 in
theorem goodGoalW_any (vars k n : Int) (s : ByteArray) (T : Ts) (v : Value) (w : World) (hv : Sl w (fun _ => True) v T) (hn : T.length ≤ 9223372036854775807) (hwd : T.wide) :
    Calls Try.prog 44 #[.agg #[.int .i64 k, .int .i64 n, .string s, v], .int .i64 vars] w fun e w' => e = .returned (.bool (gB vars k n s T)) ∧ Below w.heap.size w w' := by
  obtain ⟨A, c, rfl, hs⟩ := hv.form
  generalize hr : gB vars k n s T = rb
  have R := Lib.hid hr
  clear hr
  go_enter Try.func44, Try.ntmps44
  go_wp2_with fail
  have hW0 : Below w.heap.size w (w.alloc (.cells #[.int .i64 k, .int .i64 n, .string s, .slice A T.length c] 24)) := (Below.refl _ _).alloc (Nat.le_refl _) _
  have bA := Plot.new w 24 #[.int .i64 k, .int .i64 n, .string s, .slice A T.length c]
  generalize (w.alloc (.cells #[.int .i64 k, .int .i64 n, .string s, .slice A T.length c] 24)) = W0 at *
  have hs0 := hs.below hW0
  refine (goal_any k n s _ W0).mono ?_
  rintro e w1 ⟨rfl, hb1⟩
  have hW1 := hW0.trans (hb1.mono hW0.size)
  have bA1 := bA.below hb1
  have hs1 := hs0.below hb1
  cases hg : goalB k with
  | false =>
    go_wp2_with fail
    go_ret
    refine ⟨?_, hW1⟩
    rw [← R.out, gB, hg]; rfl
  | true =>
    have HGK := Lib.hid hg
    clear hg
    obtain ⟨p0, p1, p2, p3, _⟩ := bA1.four
    go_wp2_with fail
    refine (fitsW_any k n s T _ _ hs1 hn hwd).mono ?_
    rintro e w2 ⟨rfl, hb2⟩
    have hW2 := hW1.trans (hb2.mono hW1.size)
    have bA2 := bA1.below hb2
    have hs2 := hs1.below hb2
    clear p0 p1 p2 p3
    generalize hf : decide (T.nodes + 1 ≤ 24) = fb
    have HF := Lib.hid hf
    clear hf
    obtain ⟨p0, p1, p2, p3, _⟩ := bA2.four
    cases fb with
    | false =>
      go_wp2_with fail
      go_ret
      refine ⟨?_, hW2⟩
      rw [← R.out, gB, HF.out, Bool.and_false]; rfl
    | true =>
      go_wp2_with fail
      refine (good_any k n vars s T _ _ hs2 (by have := of_decide_eq_true HF.out; omega)).mono ?_
      rintro e w3 ⟨rfl, hb3⟩
      generalize hq : (Ts.cons k n s T .nil).good vars = qb
      have HQ := Lib.hid hq
      clear hq
      go_wp2_with fail
      go_ret
      refine ⟨?_, hW2.trans (hb3.mono hW2.size)⟩
      rw [← R.out, gB, HGK.out, HF.out, HQ.out, Bool.and_true, Bool.true_and]; rfl

set_option maxHeartbeats 1000000 in
theorem goodQueryW_any (vars : Int) (T : Ts) (v : Value) (w : World) (hv : Sl w (fun _ => True) v T) (hn : T.length ≤ 9223372036854775807) (hwd : T.wide) :
    Calls Try.prog 41 #[v, .int .i64 vars] w fun e w' => e = .returned (.bool (qB vars T)) ∧ Below w.heap.size w w' := by
  obtain ⟨A, c, rfl, hs⟩ := hv.form
  have hle := T.length_le
  generalize hr : qB vars T = rb
  have R := Lib.hid hr
  clear hr
  by_cases h1 : vars < 0
  · have hq : Hid (rb = false) := Lib.hid (by rw [← R.out, qB]; simp; omega)
    go_enter Try.func41, Try.ntmps41
    go_wp2_with fail
    go_ret
    exact ⟨by rw [hq.out]; rfl, Below.refl _ _⟩
  by_cases h2 : 8 < vars
  · have hq : Hid (rb = false) := Lib.hid (by rw [← R.out, qB]; simp; omega)
    go_enter Try.func41, Try.ntmps41
    go_wp2_with fail
    go_ret
    exact ⟨by rw [hq.out]; rfl, Below.refl _ _⟩
  by_cases h3 : 5 < T.length
  · have hq : Hid (rb = false) := Lib.hid (by rw [← R.out, qB]; simp; omega)
    go_enter Try.func41, Try.ntmps41
    go_wp2_with fail
    go_ret
    exact ⟨by rw [hq.out]; rfl, Below.refl _ _⟩
  have hq : Hid (rb = T.goals vars) := Lib.hid (by rw [← R.out, qB]; simp; omega)
  have hl5 : T.length ≤ 5 := by omega
  have h0 : GqLoop w T vars T.length (.int .i64 0) w := ⟨.nil, T, rfl, rfl, rfl, rfl, Below.refl _ _⟩
  go_enter Try.func41, Try.ntmps41
  go_wp2_with fail
  go_loopg [20] T.length (GqLoop w T vars)
  case atStart => exact h0
  case round =>
    clear h0
    obtain ⟨D, R', hT, hg, rfl, hD, hb⟩ := hrel
    have HT := Lib.hid hT
    have HG := Lib.hid hg
    have HD := Lib.hid hD
    clear hT hg hD
    have hsr := hs.below hb
    cases R' with
    | nil =>
      have eD : D = T := by rw [HT.out, Ts.app_nil]
      subst eD
      go_wp2_with fail
      go_ret
      exact ⟨by rw [hq.out, HD.out]; rfl, hb⟩
    | cons k1 n1 s1 ar r =>
      have e1 : D.length < T.length := by rw [HT.out, Ts.length_app]; simp [Ts.length]
      have hwa : ar.length ≤ 9223372036854775807 ∧ ar.wide ∧ r.wide := by have := hwd; rw [HT.out, Ts.wide_app] at this; exact this.2
      rw [HT.out] at hsr
      rw [show (D.app (.cons k1 n1 s1 ar r)).length = T.length by rw [← HT.out]] at hsr
      obtain ⟨b1, o1, rfl, hq1⟩ := Sl.at_ hsr (by simp [Ts.length])
      obtain ⟨_, c10, c11, c12, ⟨v1, c13, hv1⟩, _⟩ := seg_cons.1 hq1
      obtain ⟨A1, d1, rfl, hv1⟩ := hv1.form
      clear hq1 hsr
      have hX : Below wr.heap.size wr (wr.alloc (.cells #[.int .i64 k1, .int .i64 n1, .string s1, .slice A1 ar.length d1] 24)) := (Below.refl _ _).alloc (Nat.le_refl _) _
      have hX' := hb.trans (hX.mono hb.size)
      go_wp2_with fail
      refine (goodGoalW_any vars k1 n1 s1 ar _ _ (hv1.below hX) hwa.1 hwa.2.1).mono ?_
      rintro e w2 ⟨rfl, hb2⟩
      have hb3 := hX'.trans (hb2.mono hX'.size)
      generalize hgb : gB vars k1 n1 s1 ar = gb
      have HGB := Lib.hid hgb
      clear hgb
      cases gb with
      | false =>
        go_wp2_with fail
        go_ret
        refine ⟨?_, hb3⟩
        rw [hq.out, HT.out, Ts.goals_app, Ts.goals, HGB.out, Bool.false_and, Bool.and_false]; rfl
      | true =>
        go_wp2_with fail
        go_roundg r.length
        case measure => rw [HG.out]; simp [Ts.length]
        case rel =>
          refine ⟨D.app (.cons k1 n1 s1 ar .nil), r, ?_, rfl, ?_, ?_, hb3⟩
          · rw [HT.out, Ts.app_assoc]; rfl
          · rw [Ts.length_app]; rfl
          · rw [Ts.goals_app, HD.out, Ts.goals, HGB.out]; rfl

set_option maxHeartbeats 1000000 in
theorem goodClauseW_any (c : Cl) (u v : Value) (w : World) (hu : Sl w (fun _ => True) u c.hd) (hv : Sl w (fun _ => True) v c.bd) (h1 : c.hd.length ≤ 9223372036854775807) (h1w : c.hd.wide) (h2 : c.bd.length ≤ 9223372036854775807) (h2w : c.bd.wide) :
    Calls Try.prog 26 #[.agg #[.int .i64 c.k, .int .i64 c.n, .string c.s, u, v, .int .i64 c.vars]] w fun e w' => e = .returned (.bool (cB c)) ∧ Below w.heap.size w w' := by
  obtain ⟨A, d, rfl, hu⟩ := hu.form
  obtain ⟨A', d', rfl, hv⟩ := hv.form
  generalize hr : cB c = rb
  have R := Lib.hid hr
  clear hr
  go_enter Try.func26, Try.ntmps26
  go_wp2_with fail
  have hW0 : Below w.heap.size w (w.alloc (.cells #[.int .i64 c.k, .int .i64 c.n, .string c.s, .slice A c.hd.length d, .slice A' c.bd.length d', .int .i64 c.vars] 47)) := (Below.refl _ _).alloc (Nat.le_refl _) _
  have bA := Plot.new w 47 #[.int .i64 c.k, .int .i64 c.n, .string c.s, .slice A c.hd.length d, .slice A' c.bd.length d', .int .i64 c.vars]
  generalize (w.alloc (.cells #[.int .i64 c.k, .int .i64 c.n, .string c.s, .slice A c.hd.length d, .slice A' c.bd.length d', .int .i64 c.vars] 47)) = W0 at *
  have hu0 := hu.below hW0
  refine (goodQueryW_any c.vars c.bd _ W0 (hv.below hW0) h2 h2w).mono ?_
  rintro e w1 ⟨rfl, hb1⟩
  have hW1 := hW0.trans (hb1.mono hW0.size)
  have bA1 := bA.below hb1
  have hu1 := hu0.below hb1
  generalize hq : qB c.vars c.bd = qb
  have HQ := Lib.hid hq
  clear hq
  cases qb with
  | false =>
    go_wp2_with fail
    go_ret
    refine ⟨?_, hW1⟩
    rw [← R.out, cB, HQ.out]; rfl
  | true =>
    have p0 := bA1.cell 0
    have p1 := bA1.cell 1
    have p2 := bA1.cell 2
    have p3 := bA1.cell 3
    have p5 := bA1.cell 5
    simp at p0 p1 p2 p3 p5
    go_wp2_with fail
    refine (goodGoalW_any c.vars c.k c.n c.s c.hd _ _ hu1 h1 h1w).mono ?_
    rintro e w2 ⟨rfl, hb2⟩
    have hW2 := hW1.trans (hb2.mono hW1.size)
    have bA2 := bA1.below hb2
    clear p0 p1 p2 p3 p5
    generalize hg : gB c.vars c.k c.n c.s c.hd = gb
    have HGB := Lib.hid hg
    clear hg
    cases gb with
    | false =>
      go_wp2_with fail
      go_ret
      refine ⟨?_, hW2⟩
      rw [← R.out, cB, HGB.out, Bool.and_false]; rfl
    | true =>
      have p0 := bA2.cell 0
      have p1 := bA2.cell 1
      have p2 := bA2.cell 2
      have p3 := bA2.cell 3
      simp at p0 p1 p2 p3
      go_wp2_with fail
      refine (builtin_any c.k c.n c.s A c.hd.length d _).mono ?_
      rintro e w3 ⟨rfl, hb3⟩
      generalize hbb : builtB c.s.toList c.hd.length = bb
      have HBT := Lib.hid hbb
      clear hbb
      go_wp2_with fail
      go_ret
      refine ⟨?_, hW2.trans (hb3.mono hW2.size)⟩
      rw [← R.out, cB, HQ.out, HGB.out, HBT.out, Bool.true_and]; rfl

set_option maxHeartbeats 1000000 in
theorem goodProgramW_any (L : List Cl) (v : Value) (w : World) (hv : SlC w (fun _ => True) v L) (hn : L.length ≤ 9223372036854775807) (hwd : ClsWide L) :
    Calls Try.prog 40 #[v] w fun e w' => e = .returned (.bool (pB L)) ∧ Below w.heap.size w w' := by
  obtain ⟨A, d, rfl, hs⟩ := hv.form
  generalize hr : pB L = rb
  have R := Lib.hid hr
  clear hr
  by_cases h3 : 24 < L.length
  · have hq : Hid (rb = false) := Lib.hid (by rw [← R.out, pB]; simp; omega)
    go_enter Try.func40, Try.ntmps40
    go_wp2_with fail
    go_ret
    exact ⟨by rw [hq.out]; rfl, Below.refl _ _⟩
  have hq : Hid (rb = L.all cB) := Lib.hid (by rw [← R.out, pB, decide_eq_true (by omega), Bool.true_and])
  have h0 : GpLoop w L L.length (.int .i64 0) w := ⟨[], L, rfl, rfl, rfl, rfl, Below.refl _ _⟩
  go_enter Try.func40, Try.ntmps40
  go_wp2_with fail
  go_loopg [10] L.length (GpLoop w L)
  case atStart => exact h0
  case round =>
    clear h0
    obtain ⟨D, R', hT, hg, rfl, hD, hb⟩ := hrel
    have HT := Lib.hid hT
    have HG := Lib.hid hg
    have HD := Lib.hid hD
    clear hT hg hD
    have hsr := hs.below hb
    cases R' with
    | nil =>
      have eD : D = L := by rw [HT.out, List.append_nil]
      subst eD
      go_wp2_with fail
      go_ret
      exact ⟨by rw [hq.out, HD.out]; rfl, hb⟩
    | cons c r =>
      have e1 : D.length < L.length := by rw [HT.out, List.length_append]; simp
      have hcw := hwd c (by rw [HT.out]; simp)
      rw [HT.out] at hsr
      rw [show (D ++ c :: r).length = L.length by rw [← HT.out]] at hsr
      obtain ⟨b1, o1, rfl, _, c10, c11, c12, ⟨v1, c13, hv1⟩, ⟨v2, c14, hv2⟩, c15, _⟩ := SlC.at_ hsr (by simp)
      obtain ⟨A1, d1, rfl, hv1⟩ := hv1.form
      obtain ⟨A2, d2, rfl, hv2⟩ := hv2.form
      clear hsr
      have hX : Below wr.heap.size wr (wr.alloc (.cells #[.int .i64 c.k, .int .i64 c.n, .string c.s, .slice A1 c.hd.length d1, .slice A2 c.bd.length d2, .int .i64 c.vars] 47)) := (Below.refl _ _).alloc (Nat.le_refl _) _
      have hX' := hb.trans (hX.mono hb.size)
      go_wp2_with fail
      refine (goodClauseW_any c _ _ _ (hv1.below hX) (hv2.below hX) hcw.1 hcw.2.1 hcw.2.2.1 hcw.2.2.2).mono ?_
      rintro e w2 ⟨rfl, hb2⟩
      have hb3 := hX'.trans (hb2.mono hX'.size)
      generalize hgb : cB c = gb
      have HGB := Lib.hid hgb
      clear hgb
      cases gb with
      | false =>
        go_wp2_with fail
        go_ret
        refine ⟨?_, hb3⟩
        rw [hq.out, HT.out, List.all_append, List.all_cons, HGB.out, Bool.false_and, Bool.and_false]; rfl
      | true =>
        go_wp2_with fail
        go_roundg r.length
        case measure => rw [HG.out]; simp
        case rel =>
          refine ⟨D ++ [c], r, ?_, rfl, ?_, ?_, hb3⟩
          · rw [HT.out, List.append_assoc]; rfl
          · rw [List.length_append]; rfl
          · rw [List.all_append, HD.out, List.all_cons, HGB.out]; rfl

end Go.Proofs.Ytdiophafmokfiaa
namespace Go.Proofs.Ytdiophafmokfiaa
open Go.RowKit
set_option linter.unusedVariables false
set_option linter.unusedSimpArgs false
set_option maxRecDepth 100000
set_option maxHeartbeats 1000000

theorem ClsAt.segC {w : World} {b : Nat} : ∀ {L : List LC} {o : Nat}, ClsAt w b L o → (∀ x ∈ L, LCRd x w) → SegC w (fun _ => True) (L.map LC.cl) b o
  | [], _, _, _ => trivial
  | c :: r, o, ⟨h0, h1, h2, h3, h4, h5, h6⟩, hr => ⟨trivial, h0, h1, h2, ⟨_, h3, (hr c (.head _)).1.sl⟩, ⟨_, h4, (hr c (.head _)).2.sl⟩, h5, h6.segC fun x hx => hr x (.tail _ hx)⟩
theorem ClsR.slC {L : List LC} {A : Option Addr} {c : Nat} {w : World} (h : ClsR L A c w) : SlC w (fun _ => True) (.slice A L.length c) (L.map LC.cl) := by
  refine ⟨A, c, by simp, by simpa using h.1, fun hl => ?_⟩
  obtain ⟨b, o, e, hs⟩ := h.2.1 (by simpa using hl)
  exact ⟨b, o, e, hs.segC h.2.2⟩
section
variable {M : List Nat} {w0 : World} {H : List (Nat × Obj)} {F : List (World → Prop)}
theorem allW_any (P : List LC) (pA : Option Addr) (pc : Nat) (q : TA) (qA : Option Addr) (qc : Nat) (vars fuel : Int) (w : World) (hP : Und F (ClsR P pA pc)) (hq : Und F (ArA qA qc q))
    (hpl : P.length ≤ 9223372036854775807) (hpw : ClsWide (P.map LC.cl)) (hql : q.len ≤ 9223372036854775807) (hqw : q.ts.wide) (hS : St M w0 H F w) :
    Calls Try.prog 22 #[.slice pA P.length pc, .slice qA q.len qc, .int .i64 vars, .int .i64 fuel] w fun e w' => ∃ (A : Option Addr) (c : Nat) (L : List KE) (F' : List (World → Prop)), e = .returned (.tuple #[.slice A L.length c, .int .i64 (allM (P.map LC.cl) q.ts vars fuel).2]) ∧ L.map KE.ev = (allM (P.map LC.cl) q.ts vars fuel).1 ∧ (∀ φ ∈ F, φ ∈ F') ∧ Und F' (KER L A c) ∧ St M w0 H F' w' :=
  all_any P pA pc q qA qc vars fuel w hP hq (fun w' hS => goodProgramW_any _ _ w' (hS.und hP).slC (by simpa using hpl) hpw) (fun w' hS => goodQueryW_any vars _ _ w' (hS.und hq).sl (by rw [TA.len_ts]; exact hql) hqw) hS
end
def sP : List Cl := [⟨3, 0, ⟨#[112]⟩, .cons 2 4 ⟨#[]⟩ .nil .nil, .nil, 0⟩]
def sQ : Ts := .cons 3 0 ⟨#[112]⟩ (.cons 0 0 ⟨#[]⟩ .nil .nil) .nil
theorem solves_model : allM sP sQ 1 9 = ([(1, .cons 2 4 ⟨#[]⟩ .nil .nil), (2, .nil)], 0) := by kernel_rfl
theorem solves_any (w : World) : Calls Try.prog 23 #[] w fun e w' => e = .returned (.bool true) ∧ Below w.heap.size w w' := by
  have hS := St.start w
  refine goes_enter0 Try.func23 rfl Try.ntmps23 rfl ?_
  refine goes_seq ?_
  refine goes_region ?_
  refine lst_run (run_assign (by conv => lhs; whnf)) rfl ?_
  refine lst_done ?_
  refine goes_seq ?_
  refine goes_region ?_
  refine lst_run (run_build (cells := [_, _, _, _]) (.cons (by conv => lhs; whnf) (.cons (by conv => lhs; whnf) .nil)) rfl) rfl ?_
  refine lst_buildSlice (cells := [_, _, _, _]) hS (.cons (by conv => lhs; whnf) .nil) rfl rfl ?_
  clear hS
  intro b1 wx1 hS
  refine lst_run (run_build (cells := [_, _, _, _]) (.cons (by conv => lhs; whnf) (.cons (by conv => lhs; whnf) (.cons (by conv => lhs; whnf) .nil))) rfl) rfl ?_
  refine lst_run (run_build (cells := [_, _, _, _, _, _]) (.cons (by conv => lhs; whnf) .nil) rfl) rfl ?_
  refine lst_buildSlice (cells := [_, _, _, _, _, _]) hS (.cons (by conv => lhs; whnf) .nil) rfl rfl ?_
  clear hS
  intro b2 wx2 hS
  refine lst_run (run_assign (by conv => lhs; whnf)) rfl ?_
  refine lst_done ?_
  refine goes_seq ?_
  refine goes_region ?_
  refine lst_run (run_move (by conv => lhs; whnf)) rfl ?_
  refine lst_run (run_build (cells := [_, _, _, _]) .nil rfl) rfl ?_
  refine lst_buildSlice (cells := [_, _, _, _]) hS (.cons (by conv => lhs; whnf) .nil) rfl rfl ?_
  clear hS
  intro b3 wx3 hS
  refine lst_run (run_build (cells := [_, _, _, _]) (.cons (by conv => lhs; whnf) (.cons (by conv => lhs; whnf) (.cons (by conv => lhs; whnf) .nil))) rfl) rfl ?_
  refine lst_buildSlice (cells := [_, _, _, _]) hS (.cons (by conv => lhs; whnf) .nil) rfl rfl ?_
  clear hS
  intro b4 wx4 hS
  replace hS := hS.freeze.freeze.freeze.freeze
  obtain ⟨F, k1, k2, k3, k4, hS⟩ : ∃ F : List (World → Prop), Und F (fun w => w.heap[b1]? = some (.cells [.int .i64 2, .int .i64 4, .string ⟨#[]⟩, .slice none 0 0].toArray 24)) ∧
      Und F (fun w => w.heap[b2]? = some (.cells [.int .i64 3, .int .i64 0, .string ⟨#[112]⟩, .slice (some ⟨b1, 0, none⟩) 1 1, .slice none 0 0, .int .i64 0].toArray 47)) ∧
      Und F (fun w => w.heap[b3]? = some (.cells [.int .i64 0, .int .i64 0, .string ⟨#[]⟩, .slice none 0 0].toArray 24)) ∧
      Und F (fun w => w.heap[b4]? = some (.cells [.int .i64 3, .int .i64 0, .string ⟨#[112]⟩, .slice (some ⟨b3, 0, none⟩) 1 1].toArray 24)) ∧ St [] w [] F _ := ⟨_, Und.head, Und.head.tail, Und.head.tail.tail, Und.head.tail.tail.tail, hS⟩
  have hz : ∀ w : World, ArA none 0 .nil w := fun w => ⟨Nat.le_refl _, fun h => by simp [TA.len] at h⟩
  have hP : Und F (ClsR [⟨⟨3, 0, ⟨#[112]⟩, some ⟨b1, 0, none⟩, 1, .cons 2 4 ⟨#[]⟩ none 0 .nil .nil⟩, none, 0, .nil, 0⟩] (some ⟨b2, 0, none⟩) 1) := fun w hw => by
    refine ⟨Nat.le_refl _, fun _ => ⟨b2, 0, rfl, ?_, ?_, ?_, ?_, ?_, ?_, trivial⟩, fun x hx => ?_⟩
    iterate 6 (rw [cell_own (k2 w hw)]; rfl)
    obtain rfl : x = _ := by simpa using hx
    refine ⟨⟨Nat.le_refl _, fun _ => ⟨b1, 0, rfl, ?_, ?_, ?_, ?_, hz w, trivial⟩⟩, hz w⟩
    iterate 4 (rw [cell_own (k1 w hw)]; rfl)
  have hq : Und F (ArA (some ⟨b4, 0, none⟩) 1 (.cons 3 0 ⟨#[112]⟩ (some ⟨b3, 0, none⟩) 1 (.cons 0 0 ⟨#[]⟩ none 0 .nil .nil) .nil)) := fun w hw => by
    refine ⟨Nat.le_refl _, fun _ => ⟨b4, 0, rfl, ?_, ?_, ?_, ?_, ⟨Nat.le_refl _, fun _ => ⟨b3, 0, rfl, ?_, ?_, ?_, ?_, hz w, trivial⟩⟩, trivial⟩⟩
    iterate 4 (rw [cell_own (k4 w hw)]; rfl)
    iterate 4 (rw [cell_own (k3 w hw)]; rfl)
  have hcall := allW_any (M := []) (w0 := w) (H := []) (F := F) _ _ _ _ _ _ 1 9 _ hP hq (by simp) (fun c hc => by
    obtain rfl : c = _ := by simpa using hc
    exact ⟨(by decide : 1 ≤ 9223372036854775807), ⟨(by decide : 0 ≤ 9223372036854775807), trivial, trivial⟩, (by decide : 0 ≤ 9223372036854775807), trivial⟩) (by decide : 1 ≤ 9223372036854775807) ⟨(by decide : 1 ≤ 9223372036854775807), ⟨(by decide : 0 ≤ 9223372036854775807), trivial, trivial⟩, trivial⟩ hS
  have hm := solves_model
  have e1 : allM ([⟨⟨3, 0, ⟨#[112]⟩, some ⟨b1, 0, none⟩, 1, .cons 2 4 ⟨#[]⟩ none 0 .nil .nil⟩, none, 0, .nil, 0⟩].map LC.cl) (TA.cons 3 0 ⟨#[112]⟩ (some ⟨b3, 0, none⟩) 1 (.cons 0 0 ⟨#[]⟩ none 0 .nil .nil) .nil).ts 1 9 = ([(1, .cons 2 4 ⟨#[]⟩ .nil .nil), (2, .nil)], 0) := hm
  rw [e1] at hcall
  refine lst_enter (run_call (by kernel_rfl) (args_4 (by conv => lhs; whnf) (by conv => lhs; whnf) (by conv => lhs; whnf) (by conv => lhs; whnf))) rfl ?_
  refine Calls.mono (hcall) ?_
  rintro _ w5 ⟨A, c, L, F2, rfl, hL, hFF, hK, hS'⟩
  refine ⟨_, rfl, ?_⟩
  replace hS := hS'
  clear hS'
  have hlen : L.length = 2 := by have := congrArg List.length hL; simpa using this
  rw [hlen]
  obtain ⟨x0, x1, rfl, h0, h1⟩ : ∃ x0 x1, L = [x0, x1] ∧ x0.ev = (1, .cons 2 4 ⟨#[]⟩ .nil .nil) ∧ x1.ev = (2, .nil) := by
    match L, hL with
    | [x0, x1], hL => simp only [List.map_cons, List.map_nil, List.cons.injEq, and_true] at hL; exact ⟨x0, x1, rfl, hL.1, hL.2⟩
    | [], hL => simp at hL
    | [_], hL => simp at hL
    | _ :: _ :: _ :: _, hL => simp at hL
  obtain ⟨x0k, x0A, x0c, x0T⟩ := x0
  obtain ⟨x1k, x1A, x1c, x1T⟩ := x1
  simp only [KE.ev, Prod.mk.injEq] at h0 h1
  obtain ⟨rfl, h0⟩ := h0
  obtain ⟨rfl, h1⟩ := h1
  obtain ⟨tA, tc, ta, tr, rfl⟩ : ∃ A c ar r, x0T = .cons 2 4 ⟨#[]⟩ A c ar r := by
    cases x0T with
    | nil => simp [TA.ts] at h0
    | cons k n s A c ar r => simp only [TA.ts, Ts.cons.injEq] at h0; obtain ⟨rfl, rfl, rfl, _, _⟩ := h0; exact ⟨A, c, ar, r, rfl⟩
  have htr : tr = .nil := by
    simp only [TA.ts, Ts.cons.injEq] at h0
    cases tr with
    | nil => rfl
    | cons _ _ _ _ _ _ _ => simp [TA.ts] at h0
  subst htr
  obtain ⟨bl, ol, rfl⟩ := (hS.und hK).some_ (by simp)
  obtain ⟨q0, q1⟩ := KER.cells (D := []) (hS.und hK)
  obtain ⟨q2, q3⟩ := KER.cells (D := [_]) (hS.und hK)
  have hA0 := (hS.und hK).2.2 _ (.head _)
  dsimp only at hA0
  obtain ⟨bt, ot, rfl⟩ := hA0.some_ (by simp [TA.len])
  obtain ⟨_, r1, _, _⟩ := ArA.cells (D := .nil) hA0
  replace q1 : _ = some (Value.slice (some ⟨bt, ot, none⟩) 1 x0c) := q1
  refine lst_run (run_move (by conv => lhs; whnf)) rfl ?_
  refine lst_run (run_extract rfl rfl) rfl ?_
  refine lst_run (run_extract rfl rfl) rfl ?_
  refine lst_run (run_assign (by conv => lhs; whnf)) rfl ?_
  refine lst_run (run_assign (by conv => lhs; whnf)) rfl ?_
  refine lst_done ?_
  refine goes_seq ?_
  refine goes_region ?_
  refine lst_run (run_move (by conv => lhs; whnf)) rfl ?_
  first
    | refine lst_run (run_eql_one_int rfl rfl) rfl ?_
    | refine lst_run (run_eql_no rfl rfl (by first | assumption | omega)) rfl ?_
    | refine lst_run (run_eql_yes rfl rfl (by omega)) rfl ?_
    | refine lst_run (rfl) rfl ?_
  refine lst_run (run_move (by conv => lhs; whnf)) rfl ?_
  refine lst_guard rfl rfl ?_
  refine lst_run (run_move (by conv => lhs; whnf)) rfl ?_
  refine lst_guard rfl rfl ?_
  refine lst_run (run_len_slice rfl rfl rfl) rfl ?_
  refine lst_guard rfl rfl ?_
  first
    | refine lst_run (run_eql_one_int rfl rfl) rfl ?_
    | refine lst_run (run_eql_no rfl rfl (by first | assumption | omega)) rfl ?_
    | refine lst_run (run_eql_yes rfl rfl (by omega)) rfl ?_
    | refine lst_run (rfl) rfl ?_
  first
    | refine lst_run (run_pick_t rfl (by conv => lhs; whnf)) rfl ?_
    | refine lst_run (run_pick_f rfl (by conv => lhs; whnf)) rfl ?_
  refine lst_run (run_move (by conv => lhs; whnf)) rfl ?_
  refine lst_guard rfl rfl ?_
  refine lst_run (run_move (by conv => lhs; whnf)) rfl ?_
  refine lst_guard rfl rfl ?_
  refine lst_run (run_indexAddr (sz := 2) rfl rfl rfl rfl (by omega) (by omega)) rfl ?_
  refine lst_guard rfl rfl ?_
  refine lst_run (run_fieldAddr (off := 0) rfl rfl) rfl ?_
  refine lst_guard rfl rfl ?_
  first
    | refine lst_run (run_load1_own hS rfl rfl (by first | exact .head | exact .tail .head | exact .tail (.tail .head) | exact .tail (.tail (.tail .head)) | exact .tail (.tail (.tail (.tail .head))) | exact .tail (.tail (.tail (.tail (.tail .head))))) (by repeat constructor)) rfl ?_
    | refine lst_run (run_load1 rfl rfl (by first | assumption | exact hS.cell0 (by assumption) | exact lv_next hS | exact lv_list hS)) rfl ?_
  refine lst_guard rfl rfl ?_
  first
    | refine lst_run (run_eql_one_int rfl rfl) rfl ?_
    | refine lst_run (run_eql_no rfl rfl (by first | assumption | omega)) rfl ?_
    | refine lst_run (run_eql_yes rfl rfl (by omega)) rfl ?_
    | refine lst_run (rfl) rfl ?_
  first
    | refine lst_run (run_pick_t rfl (by conv => lhs; whnf)) rfl ?_
    | refine lst_run (run_pick_f rfl (by conv => lhs; whnf)) rfl ?_
  refine lst_run (run_move (by conv => lhs; whnf)) rfl ?_
  refine lst_guard rfl rfl ?_
  refine lst_run (run_move (by conv => lhs; whnf)) rfl ?_
  refine lst_guard rfl rfl ?_
  refine lst_run (run_indexAddr (sz := 2) rfl rfl rfl rfl (by omega) (by omega)) rfl ?_
  refine lst_guard rfl rfl ?_
  refine lst_run (run_fieldAddr (off := 1) rfl rfl) rfl ?_
  refine lst_guard rfl rfl ?_
  first
    | refine lst_run (run_load1_own hS rfl rfl (by first | exact .head | exact .tail .head | exact .tail (.tail .head) | exact .tail (.tail (.tail .head)) | exact .tail (.tail (.tail (.tail .head))) | exact .tail (.tail (.tail (.tail (.tail .head))))) (by repeat constructor)) rfl ?_
    | refine lst_run (run_load1 rfl rfl (by first | assumption | exact hS.cell0 (by assumption) | exact lv_next hS | exact lv_list hS)) rfl ?_
  refine lst_guard rfl rfl ?_
  refine lst_run (run_len_slice rfl rfl rfl) rfl ?_
  refine lst_guard rfl rfl ?_
  first
    | refine lst_run (run_eql_one_int rfl rfl) rfl ?_
    | refine lst_run (run_eql_no rfl rfl (by first | assumption | omega)) rfl ?_
    | refine lst_run (run_eql_yes rfl rfl (by omega)) rfl ?_
    | refine lst_run (rfl) rfl ?_
  first
    | refine lst_run (run_pick_t rfl (by conv => lhs; whnf)) rfl ?_
    | refine lst_run (run_pick_f rfl (by conv => lhs; whnf)) rfl ?_
  refine lst_run (run_move (by conv => lhs; whnf)) rfl ?_
  refine lst_guard rfl rfl ?_
  refine lst_run (run_move (by conv => lhs; whnf)) rfl ?_
  refine lst_guard rfl rfl ?_
  refine lst_run (run_indexAddr (sz := 2) rfl rfl rfl rfl (by omega) (by omega)) rfl ?_
  refine lst_guard rfl rfl ?_
  refine lst_run (run_fieldAddr (off := 1) rfl rfl) rfl ?_
  refine lst_guard rfl rfl ?_
  first
    | refine lst_run (run_load1_own hS rfl rfl (by first | exact .head | exact .tail .head | exact .tail (.tail .head) | exact .tail (.tail (.tail .head)) | exact .tail (.tail (.tail (.tail .head))) | exact .tail (.tail (.tail (.tail (.tail .head))))) (by repeat constructor)) rfl ?_
    | refine lst_run (run_load1 rfl rfl (by first | assumption | exact hS.cell0 (by assumption) | exact lv_next hS | exact lv_list hS)) rfl ?_
  refine lst_guard rfl rfl ?_
  refine lst_run (run_indexAddr (sz := 4) rfl rfl rfl rfl (by omega) (by omega)) rfl ?_
  refine lst_guard rfl rfl ?_
  refine lst_run (run_fieldAddr (off := 1) rfl rfl) rfl ?_
  refine lst_guard rfl rfl ?_
  first
    | refine lst_run (run_load1_own hS rfl rfl (by first | exact .head | exact .tail .head | exact .tail (.tail .head) | exact .tail (.tail (.tail .head)) | exact .tail (.tail (.tail (.tail .head))) | exact .tail (.tail (.tail (.tail (.tail .head))))) (by repeat constructor)) rfl ?_
    | refine lst_run (run_load1 rfl rfl (by first | assumption | exact hS.cell0 (by assumption) | exact lv_next hS | exact lv_list hS)) rfl ?_
  refine lst_guard rfl rfl ?_
  first
    | refine lst_run (run_eql_one_int rfl rfl) rfl ?_
    | refine lst_run (run_eql_no rfl rfl (by first | assumption | omega)) rfl ?_
    | refine lst_run (run_eql_yes rfl rfl (by omega)) rfl ?_
    | refine lst_run (rfl) rfl ?_
  first
    | refine lst_run (run_pick_t rfl (by conv => lhs; whnf)) rfl ?_
    | refine lst_run (run_pick_f rfl (by conv => lhs; whnf)) rfl ?_
  refine lst_run (run_move (by conv => lhs; whnf)) rfl ?_
  refine lst_guard rfl rfl ?_
  refine lst_run (run_move (by conv => lhs; whnf)) rfl ?_
  refine lst_guard rfl rfl ?_
  refine lst_run (run_indexAddr (sz := 2) rfl rfl rfl rfl (by omega) (by omega)) rfl ?_
  refine lst_guard rfl rfl ?_
  refine lst_run (run_fieldAddr (off := 0) rfl rfl) rfl ?_
  refine lst_guard rfl rfl ?_
  first
    | refine lst_run (run_load1_own hS rfl rfl (by first | exact .head | exact .tail .head | exact .tail (.tail .head) | exact .tail (.tail (.tail .head)) | exact .tail (.tail (.tail (.tail .head))) | exact .tail (.tail (.tail (.tail (.tail .head))))) (by repeat constructor)) rfl ?_
    | refine lst_run (run_load1 rfl rfl (by first | assumption | exact hS.cell0 (by assumption) | exact lv_next hS | exact lv_list hS)) rfl ?_
  refine lst_guard rfl rfl ?_
  first
    | refine lst_run (run_eql_one_int rfl rfl) rfl ?_
    | refine lst_run (run_eql_no rfl rfl (by first | assumption | omega)) rfl ?_
    | refine lst_run (run_eql_yes rfl rfl (by omega)) rfl ?_
    | refine lst_run (rfl) rfl ?_
  first
    | refine lst_run (run_pick_t rfl (by conv => lhs; whnf)) rfl ?_
    | refine lst_run (run_pick_f rfl (by conv => lhs; whnf)) rfl ?_
  refine lst_run (run_assign (by conv => lhs; whnf)) rfl ?_
  refine lst_done ?_
  refine goes_ret1 Try.func23 rfl (by conv => lhs; whnf) ?_
  exact ⟨rfl, hS.ext.below⟩
end Go.Proofs.Ytdiophafmokfiaa
namespace Go.Proofs.Ytdiophafmokfiaa
open Go.RowKit

/-- Are two lists of terms alike? -/
def Ts.same : Ts → Ts → Bool
  | .nil, .nil => true
  | .cons k n s ar r, .cons k' n' s' ar' r' => decide (k = k') && decide (n = n') && decide (s = s') && ar.same ar' && r.same r'
  | _, _ => false
theorem Ts.same_iff (T : Ts) : ∀ U : Ts, T.same U = true ↔ T = U := by
  induction T with
  | nil => intro U; cases U <;> simp [same]
  | cons k n s ar r iha ihr =>
    intro U
    cases U with
    | nil => simp [same]
    | cons k' n' s' ar' r' => simp [same, iha, ihr, and_assoc]
/-- Are two terms alike? -/
def same1 (k n : Int) (s : ByteArray) (ar : Ts) (k' n' : Int) (s' : ByteArray) (ar' : Ts) : Bool := decide (k = k') && decide (n = n') && decide (s = s') && ar.same ar'

def SameRel (W : World) (T U : Ts) (g : Nat) (s37 : Value) (wr : World) : Prop :=
  ∃ D R R' : Ts, T = D.app R ∧ U = D.app R' ∧ R.length = R'.length ∧ g = R.length ∧ s37 = .int .i64 D.length ∧ Below W.heap.size W wr

theorem same1_iff {k n : Int} {s : ByteArray} {ar : Ts} {k' n' : Int} {s' : ByteArray} {ar' : Ts} : same1 k n s ar k' n' s' ar' = true ↔ k = k' ∧ n = n' ∧ s = s' ∧ ar = ar' := by
  simp [same1, Ts.same_iff, and_assoc]
theorem Ts.app_inj {D R R' : Ts} (h : D.app R = D.app R') : R = R' := by
  induction D with
  | nil => exact h
  | cons k n s ar r _ ih => simp only [Ts.app, Ts.cons.injEq] at h; exact ih h.2.2.2.2
theorem Ts.same_stop {T U D r1 r2 a1 a2 : Ts} {k1 n1 k2 n2 : Int} {s1 s2 : ByteArray} (hT : T = D.app (.cons k1 n1 s1 a1 r1)) (hU : U = D.app (.cons k2 n2 s2 a2 r2))
    (h : same1 k1 n1 s1 a1 k2 n2 s2 a2 = false) : T.same U = false := by
  rw [Bool.eq_false_iff, ne_eq, Ts.same_iff, hT, hU]
  intro e
  have := Ts.app_inj e
  simp only [Ts.cons.injEq] at this
  rw [Bool.eq_false_iff, ne_eq, same1_iff] at h
  exact h ⟨this.1, this.2.1, this.2.2.1, this.2.2.2.1⟩
theorem SameRel.step {W wr w2 : World} {T U D r1 r2 a1 a2 : Ts} {k1 n1 k2 n2 : Int} {s1 s2 : ByteArray} (hT : T = D.app (.cons k1 n1 s1 a1 r1)) (hU : U = D.app (.cons k2 n2 s2 a2 r2))
    (hR : (Ts.cons k1 n1 s1 a1 r1).length = (Ts.cons k2 n2 s2 a2 r2).length) (h : same1 k1 n1 s1 a1 k2 n2 s2 a2 = true) (hb : Below W.heap.size W wr) (hb2 : Below wr.heap.size wr w2) :
    SameRel W T U r1.length (.int .i64 ((D.length : Int) + 1)) w2 := by
  obtain ⟨rfl, rfl, rfl, rfl⟩ := same1_iff.1 h
  refine ⟨D.app (.cons k1 n1 s1 a1 .nil), r1, r2, by rw [hT, Ts.app_assoc]; rfl, by rw [hU, Ts.app_assoc]; rfl, by simpa [Ts.length] using hR, rfl, ?_, hb.trans (hb2.mono hb.size)⟩
  rw [Ts.length_app]; rfl

end Go.Proofs.Ytdiophafmokfiaa
namespace Go.Proofs.Ytdiophafmokfiaa.K
open Go.RowKit
set_option maxRecDepth 100000

def SameSaid (T U : Ts) : Prop := ∀ (k n : Int) (s : ByteArray) (v : Value) (k' n' : Int) (s' : ByteArray) (v' : Value) (w : World), Sl w (fun _ => True) v T → Sl w (fun _ => True) v' U → T.nodes ≤ 1048576 → U.nodes ≤ 1048576 →
    Calls Try.prog 39 #[.agg #[.int .i64 k, .int .i64 n, .string s, v], .agg #[.int .i64 k', .int .i64 n', .string s', v']] w fun e w' => e = .returned (.bool (same1 k n s T k' n' s' U)) ∧ Below w.heap.size w w'

set_option maxHeartbeats 400000 in
theorem sameTerm_of (m : Nat) (ih : ∀ T U : Ts, T.nodes < m → SameSaid T U) (T U : Ts) (hm : T.nodes ≤ m) : SameSaid T U := by
  intro k n s v k' n' s' v' w hv hv' hT hU
  obtain ⟨A, c, rfl, hs⟩ := hv.form
  obtain ⟨A', c', rfl, hs'⟩ := hv'.form
  have hle := T.length_le
  by_cases hk : k ≠ k'
  · have r : same1 k n s T k' n' s' U = false := by simp [same1, hk]
    rw [r]
    have hk' : (k != k') = true := by simp [hk]
    clear r hk
    go_enter Try.func39, Try.ntmps39
    go_wp2_with fail
    go_ret
    exact ⟨rfl, ((Below.refl _ _).alloc (Nat.le_refl _) _).alloc (by simp) _⟩
  obtain rfl : k = k' := by simpa using hk
  by_cases hn : n ≠ n'
  · have r : same1 k n s T k n' s' U = false := by simp [same1, hn]
    rw [r]
    have hn' : (n != n') = true := by simp [hn]
    clear r hk hn
    go_enter Try.func39, Try.ntmps39
    go_wp2_with fail
    go_ret
    exact ⟨rfl, ((Below.refl _ _).alloc (Nat.le_refl _) _).alloc (by simp) _⟩
  obtain rfl : n = n' := by simpa using hn
  by_cases hs0 : s ≠ s'
  · have r : same1 k n s T k n s' U = false := by simp [same1, hs0]
    rw [r]
    have hs1 : (s.toList == s'.toList) = false := by simp [str_eq, hs0]
    clear r hk hn hs0
    go_enter Try.func39, Try.ntmps39
    go_wp2_with fail
    go_ret
    exact ⟨rfl, ((Below.refl _ _).alloc (Nat.le_refl _) _).alloc (by simp) _⟩
  obtain rfl : s = s' := by simpa using hs0
  by_cases hl : T.length ≠ U.length
  · have r : same1 k n s T k n s U = false := by
      have : T.same U = false := by
        rw [Bool.eq_false_iff, ne_eq, Ts.same_iff]; exact fun e => hl (by rw [e])
      simp [same1, this]
    rw [r]
    have hl' : ((T.length : Int) != (U.length : Int)) = true := by rw [bne_iff_ne]; omega
    clear r hk hn hs0
    go_enter Try.func39, Try.ntmps39
    go_wp2_with fail
    go_ret
    exact ⟨rfl, ((Below.refl _ _).alloc (Nat.le_refl _) _).alloc (by simp) _⟩
  have hl' : ((T.length : Int) != (U.length : Int)) = false := by rw [bne_eq_false_iff_eq]; omega
  have r : same1 k n s T k n s U = T.same U := by simp [same1]
  rw [r]
  have HL : Hid (T.length = U.length) := Lib.hid (by simpa using hl)
  clear r hk hn hs0 hl
  have h0 : SameRel ((w.alloc (.cells #[.int .i64 k, .int .i64 n, .string s, .slice A T.length c] 24)).alloc (.cells #[.int .i64 k, .int .i64 n, .string s, .slice A' U.length c'] 24)) T U T.length (.int .i64 0)
      ((w.alloc (.cells #[.int .i64 k, .int .i64 n, .string s, .slice A T.length c] 24)).alloc (.cells #[.int .i64 k, .int .i64 n, .string s, .slice A' U.length c'] 24)) :=
    ⟨.nil, T, U, rfl, rfl, HL.out, rfl, rfl, Below.refl _ _⟩
  have hW : Below w.heap.size w ((w.alloc (.cells #[.int .i64 k, .int .i64 n, .string s, .slice A T.length c] 24)).alloc (.cells #[.int .i64 k, .int .i64 n, .string s, .slice A' U.length c'] 24)) :=
    ((Below.refl _ _).alloc (Nat.le_refl _) _).alloc (by simp) _
  go_enter Try.func39, Try.ntmps39
  go_wp2_with fail
  go_loopg [37] T.length (SameRel ((w.alloc (.cells #[.int .i64 k, .int .i64 n, .string s, .slice A T.length c] 24)).alloc (.cells #[.int .i64 k, .int .i64 n, .string s, .slice A' U.length c'] 24)) T U)
  case atStart => exact h0
  case round =>
    clear h0
    obtain ⟨D, R, R', eT, eU, eR, eg, rfl, hb⟩ := hrel
    have hbw : Below w.heap.size w wr := hW.trans (hb.mono (by simp; omega))
    cases R with
    | nil =>
      have e1 : D.length = T.length := by rw [eT, Ts.app_nil]
      have hres : T.same U = true := by
        rw [Ts.same_iff, eT, eU, Ts.nil_of_length (T := R') eR.symm]
      have HS := Lib.hid hres
      clear hres eT eU eR eg
      go_wp2_with fail
      go_ret
      exact ⟨by rw [HS.out]; rfl, hbw⟩
    | cons k1 n1 s1 a1 r1 =>
      cases R' with
      | nil => simp [Ts.length] at eR
      | cons k2 n2 s2 a2 r2 =>
      obtain ⟨f0, f1, f2, f3, ff⟩ := (((Plot.new w 24 #[.int .i64 k, .int .i64 n, .string s, .slice A T.length c]).alloc (.cells #[.int .i64 k, .int .i64 n, .string s, .slice A' U.length c'] 24)).below hb).four
      obtain ⟨g0, g1, g2, g3, gf⟩ := ((Plot.new (w.alloc (.cells #[.int .i64 k, .int .i64 n, .string s, .slice A T.length c] 24)) 24 #[.int .i64 k, .int .i64 n, .string s, .slice A' U.length c']).below hb).four
      simp only [World.size_alloc] at g3
      clear f0 f1 f2 ff g0 g1 g2 gf
      have e1 : D.length < T.length := by rw [eT, Ts.length_app]; simp [Ts.length]
      have e2 : D.length < U.length := by rw [eU, Ts.length_app]; simp [Ts.length]
      have e3 : a1.nodes < m ∧ a1.nodes ≤ 1048576 := by rw [eT, Ts.nodes_app] at hm hT; simp [Ts.nodes] at hm hT; omega
      have e4 : a2.nodes ≤ 1048576 := by rw [eU, Ts.nodes_app] at hU; simp [Ts.nodes] at hU; omega
      have hs2 := (hs.below hbw)
      have hs3 := (hs'.below hbw)
      obtain ⟨b1, o1, rfl, hq1⟩ := Sl.at_ (D := D) (R := .cons k1 n1 s1 a1 r1) (by rw [← eT]; exact hs2) (by simp [Ts.length])
      obtain ⟨b2, o2, rfl, hq2⟩ := Sl.at_ (D := D) (R := .cons k2 n2 s2 a2 r2) (by rw [← eU]; exact hs3) (by simp [Ts.length])
      obtain ⟨_, c10, c11, c12, ⟨v1, c13, hv1⟩, _⟩ := seg_cons.1 hq1
      obtain ⟨_, c20, c21, c22, ⟨v2, c23, hv2⟩, _⟩ := seg_cons.1 hq2
      have HT := Lib.hid eT
      have HU := Lib.hid eU
      have HG := Lib.hid eg
      have HR := Lib.hid eR
      clear eT eU eg eR hs2 hs3 hq1 hq2
      go_wp2_with fail
      go_still_tail 10, (by kernel_rfl)
      change wpList _ _ _ _ _ wr.drew
      obtain ⟨A1, d1, rfl, hv1⟩ := hv1.form
      obtain ⟨A2, d2, rfl, hv2⟩ := hv2.form
      go_wp2_with fail
      refine (ih a1 a2 e3.1 k1 n1 s1 _ k2 n2 s2 _ _ ?_ ?_ e3.2 e4).mono ?_
      · exact hv1.below (below_drewN _ wr 1)
      · exact hv2.below (below_drewN _ wr 1)
      rintro e w2 ⟨rfl, hb2⟩
      have hb3 : Below wr.heap.size wr w2 := (below_drewN _ wr 1).trans hb2
      cases hsame : same1 k1 n1 s1 a1 k2 n2 s2 a2 with
      | false =>
        have hres : T.same U = false := Ts.same_stop HT.out HU.out hsame
        have HS := Lib.hid hres
        clear hres hsame
        go_wp2_with fail
        go_ret
        exact ⟨by rw [HS.out]; rfl, hbw.trans (hb3.mono hbw.size)⟩
      | true =>
        have HS := Lib.hid hsame
        clear hsame
        go_wp2_with fail
        go_roundg r1.length
        case measure => rw [HG.out]; simp [Ts.length]
        case rel => exact SameRel.step HT.out HU.out HR.out HS.out hb hb3

theorem same_said (T U : Ts) : SameSaid T U := by
  have : ∀ m, ∀ T U : Ts, T.nodes < m → SameSaid T U := by
    intro m
    induction m with
    | zero => intro T U h; omega
    | succ m ih => intro T U h; exact sameTerm_of m ih T U (by omega)
  exact this _ T U (Nat.lt_succ_self _)

set_option maxHeartbeats 400000 in
theorem sameTerms_any (T U : Ts) (v v' : Value) (w : World) (hv : Sl w (fun _ => True) v T) (hv' : Sl w (fun _ => True) v' U) (hT : T.nodes ≤ 1048576) (hU : U.nodes ≤ 1048576) :
    Calls Try.prog 20 #[v, v'] w fun e w' => e = .returned (.bool (T.same U)) ∧ Below w.heap.size w w' := by
  obtain ⟨A, c, rfl, hs⟩ := hv.form
  obtain ⟨A', c', rfl, hs'⟩ := hv'.form
  have hle := T.length_le
  by_cases hl : T.length ≠ U.length
  · have r : T.same U = false := by
      rw [Bool.eq_false_iff, ne_eq, Ts.same_iff]; exact fun e => hl (by rw [e])
    rw [r]
    have hl' : ((T.length : Int) != (U.length : Int)) = true := by rw [bne_iff_ne]; omega
    clear r
    go_enter Try.func20, Try.ntmps20
    go_wp2_with fail
    go_ret
    exact ⟨rfl, Below.refl _ _⟩
  have hl' : ((T.length : Int) != (U.length : Int)) = false := by rw [bne_eq_false_iff_eq]; omega
  have HL : Hid (T.length = U.length) := Lib.hid (by simpa using hl)
  clear hl
  have h0 : SameRel w T U T.length (.int .i64 0) w := ⟨.nil, T, U, rfl, rfl, HL.out, rfl, rfl, Below.refl _ _⟩
  go_enter Try.func20, Try.ntmps20
  go_wp2_with fail
  go_loopg [13] T.length (SameRel w T U)
  case atStart => exact h0
  case round =>
    clear h0
    obtain ⟨D, R, R', eT, eU, eR, eg, rfl, hb⟩ := hrel
    cases R with
    | nil =>
      have e1 : D.length = T.length := by rw [eT, Ts.app_nil]
      have hres : T.same U = true := by
        rw [Ts.same_iff, eT, eU, Ts.nil_of_length (T := R') eR.symm]
      have HS := Lib.hid hres
      clear hres eT eU eR eg
      go_wp2_with fail
      go_ret
      exact ⟨by rw [HS.out]; rfl, hb⟩
    | cons k1 n1 s1 a1 r1 =>
      cases R' with
      | nil => simp [Ts.length] at eR
      | cons k2 n2 s2 a2 r2 =>
      have e1 : D.length < T.length := by rw [eT, Ts.length_app]; simp [Ts.length]
      have e2 : D.length < U.length := by rw [eU, Ts.length_app]; simp [Ts.length]
      have e3 : a1.nodes ≤ 1048576 := by rw [eT, Ts.nodes_app] at hT; simp [Ts.nodes] at hT; omega
      have e4 : a2.nodes ≤ 1048576 := by rw [eU, Ts.nodes_app] at hU; simp [Ts.nodes] at hU; omega
      have hs2 := (hs.below hb)
      have hs3 := (hs'.below hb)
      obtain ⟨b1, o1, rfl, hq1⟩ := Sl.at_ (D := D) (R := .cons k1 n1 s1 a1 r1) (by rw [← eT]; exact hs2) (by simp [Ts.length])
      obtain ⟨b2, o2, rfl, hq2⟩ := Sl.at_ (D := D) (R := .cons k2 n2 s2 a2 r2) (by rw [← eU]; exact hs3) (by simp [Ts.length])
      obtain ⟨_, c10, c11, c12, ⟨v1, c13, hv1⟩, _⟩ := seg_cons.1 hq1
      obtain ⟨_, c20, c21, c22, ⟨v2, c23, hv2⟩, _⟩ := seg_cons.1 hq2
      have HT := Lib.hid eT
      have HU := Lib.hid eU
      have HG := Lib.hid eg
      have HR := Lib.hid eR
      clear eT eU eg eR hs2 hs3 hq1 hq2
      go_wp2_with fail
      go_still_tail 8, (by kernel_rfl)
      change wpList _ _ _ _ _ wr.drew
      obtain ⟨A1, d1, rfl, hv1⟩ := hv1.form
      obtain ⟨A2, d2, rfl, hv2⟩ := hv2.form
      go_wp2_with fail
      refine (same_said a1 a2 k1 n1 s1 _ k2 n2 s2 _ _ ?_ ?_ e3 e4).mono ?_
      · exact hv1.below (below_drewN _ wr 1)
      · exact hv2.below (below_drewN _ wr 1)
      rintro e w2 ⟨rfl, hb2⟩
      have hb3 : Below wr.heap.size wr w2 := (below_drewN _ wr 1).trans hb2
      cases hsame : same1 k1 n1 s1 a1 k2 n2 s2 a2 with
      | false =>
        have hres : T.same U = false := Ts.same_stop HT.out HU.out hsame
        have HS := Lib.hid hres
        clear hres hsame
        go_wp2_with fail
        go_ret
        exact ⟨by rw [HS.out]; rfl, hb.trans (hb3.mono hb.size)⟩
      | true =>
        have HS := Lib.hid hsame
        clear hsame
        go_wp2_with fail
        go_roundg r1.length
        case measure => rw [HG.out]; simp [Ts.length]
        case rel => exact SameRel.step HT.out HU.out HR.out HS.out hb hb3
end Go.Proofs.Ytdiophafmokfiaa.K
