/-
  The document's own reader: programs, walked.
-/
import Derived.Test.YtdiophafmokfiaaGreatDoorG25
import Derived.Test.YtdiophafmokfiaaGreatDoorRefEq2
namespace Go.Proofs.YtdiophafmokfiaaGreatDoor
open Go.RowKit Go.Shelf
set_option linter.unusedVariables false
set_option linter.unusedSimpArgs false
set_option maxRecDepth 100000
set_option maxHeartbeats 1000000

/-- No more nodes than words. -/
def FewN (f : PS → Nd × PS) : Prop := ∀ p, (f p).1.ar.nodes + (f p).2.l.length ≤ p.l.length
theorem refLoop_fewN {f : PS → Nd × PS} (hf : FewN f) : ∀ (n : Nat) (p : PS), (tsOf (refLoop f n p).1).nodes + (refLoop f n p).2.l.length ≤ p.l.length
  | 0, p => by simp [refLoop, tsOf, Ts.nodes]
  | n + 1, p => by
    unfold refLoop
    split
    · rename_i h
      have h1 := (has_pop h.2).1
      have h2 := hf p.pop
      have h3 := refLoop_fewN hf n (f p.pop).2
      simp only [tsOf, Ts.nodes]
      omega
    · simp [tsOf, Ts.nodes]
theorem refTerms_fewN {f : PS → Nd × PS} (hf : FewN f) (t : Str) (p : PS) : (tsOf (refTerms f t p).1).nodes + (refTerms f t p).2.l.length ≤ p.l.length + 1 := by
  have h1 := refLoop_fewN hf (f p).2.l.length (f p).2
  have h2 := hf p
  have h3 := close_le (refLoop f (f p).2.l.length (f p).2).2 t
  simp only [refTerms, tsOf, Ts.nodes]
  omega
theorem refTerm_fewN : ∀ d, FewN (refTerm d)
  | 0, p => by simp [refTerm, Nd.zero, Ts.nodes, PS.spoil]
  | d + 1, p => by
    unfold refTerm
    split
    · simp [Nd.zero, Ts.nodes, PS.spoil]
    · simp [Nd.zero, Ts.nodes, PS.spoil]
    · rename_i c r q hl
      have h1 : p.pop.l.length + 1 = p.l.length := by simp [PS.pop, hl]
      split
      · simp only [Ts.nodes]; omega
      split
      · simp only [Ts.nodes]; rw [(pvar_l _ _).1]; omega
      split
      · simp only [Ts.nodes]; omega
      split
      · simp [Nd.zero, Ts.nodes, PS.spoil]
      split
      · rename_i hp
        have h2 := refTerms_fewN (refTerm_fewN d) [41] p.pop.pop
        have h3 := (has_pop hp).1
        simp only; omega
      · simp only [Ts.nodes]; omega
theorem wordsF_len : ∀ (n : Nat) (l : Str), (wordsF n l).length ≤ l.length
  | 0, l => by simp [wordsF]
  | n + 1, [] => by simp [wordsF]
  | n + 1, c :: r => by
    unfold wordsF
    split
    · have := wordsF_len n r; simp; omega
    split
    · simp
    · rename_i h
      have := wordsF_len n ((c :: r).drop (wordLen (c :: r)))
      rw [List.length_drop] at this
      simp at this ⊢; omega
theorem words_len (l : Str) : (wordsM l).length ≤ l.length := wordsF_len _ _
theorem bodyN (p : PS) : (tsOf (refBody p).1).nodes ≤ p.l.length + 1 := by
  unfold refBody
  split
  · have h1 := refTerms_fewN (refTerm_fewN 24) [46] p.pop
    have h2 := pop_le p
    unfold refGoals
    omega
  · simp [tsOf, Ts.nodes]
section
variable {M : List Nat} {w0 : World} {H : List (Nat × Obj)} {F : List (World → Prop)}
theorem readProgram_any (l : Str) (w : World) (hl0 : l.length ≤ 1125899906842624) (hS : St M w0 H F w) :
    Calls Tryz.prog 6 #[sv l] w fun e w' => ∃ v, e = .returned (.tuple #[v, .int .i64 (refProgramM l).2]) ∧ St M w0 H ((fun w => SlC w (fun _ => True) v (refProgramM l).1) :: F) w' := by
  have hno : ∀ w, SlC w (fun _ => True) (.slice none 0 0) [] := fun w => ⟨none, 0, rfl, Nat.le_refl _, fun h => by cases h⟩
  have hnil : ∀ w : World, Sl w (fun _ => True) (.slice none 0 0) .nil := fun w => ⟨none, 0, rfl, Nat.le_refl _, fun h => by cases h⟩
  by_cases h2000 : 2000 < l.length
  · have e : refProgramM l = ([], 3) := by unfold refProgramM; rw [if_pos h2000]
    rw [e]
    refine goes_enter1 Tryz.func6 rfl Tryz.ntmps6 rfl ?_
    refine goes_seq ?_
    refine goes_region ?_
    refine lst_run (run_assign (by conv => lhs; whnf)) rfl ?_
    refine lst_run (run_assign (by conv => lhs; whnf)) rfl ?_
    refine lst_done ?_
    refine goes_seq ?_
    refine goes_seq ?_
    refine goes_region ?_
    refine lst_run (run_move (by conv => lhs; whnf)) rfl ?_
    refine lst_run (run_len_str rfl rfl rfl) rfl ?_
    first
      | refine lst_run (run_gtr_yes rfl rfl (by omega)) rfl ?_
      | refine lst_run (run_gtr_no rfl rfl (by omega)) rfl ?_
      | refine lst_run (rfl) rfl ?_
    refine lst_done ?_
    refine goes_true rfl ?_
    refine goes_seq ?_
    refine goes_region ?_
    refine lst_run (run_assign (by conv => lhs; whnf)) rfl ?_
    refine lst_run (run_assign (by conv => lhs; whnf)) rfl ?_
    refine lst_done ?_
    refine goes_ret2 Tryz.func6 rfl (by conv => lhs; whnf) (by conv => lhs; whnf) ?_
    exact ⟨_, rfl, hS.learn fun w _ => hno w⟩
  have hwl := words_len l
  refine goes_enter1 Tryz.func6 rfl Tryz.ntmps6 rfl ?_
  refine goes_seq ?_
  refine goes_region ?_
  refine lst_run (run_assign (by conv => lhs; whnf)) rfl ?_
  refine lst_run (run_assign (by conv => lhs; whnf)) rfl ?_
  refine lst_done ?_
  refine goes_seq ?_
  refine goes_seq ?_
  refine goes_region ?_
  refine lst_run (run_move (by conv => lhs; whnf)) rfl ?_
  refine lst_run (run_len_str rfl rfl rfl) rfl ?_
  first
    | refine lst_run (run_gtr_yes rfl rfl (by omega)) rfl ?_
    | refine lst_run (run_gtr_no rfl rfl (by omega)) rfl ?_
    | refine lst_run (rfl) rfl ?_
  refine lst_done ?_
  refine goes_false rfl ?_
  refine goes_skip ?_
  refine goes_seq ?_
  refine goes_region ?_
  refine lst_run (run_move (by conv => lhs; whnf)) rfl ?_
  refine lst_enter (run_call (by kernel_rfl) (args_1 (by conv => lhs; whnf))) rfl ?_
  refine Calls.mono (words_any l _ (by omega) hS) ?_
  rintro _ w1 ⟨v1, O1, rfl, hR1, hS'⟩
  refine ⟨_, rfl, ?_⟩
  obtain ⟨φ, hL1, hS⟩ := St.shutS hR1 hS'
  clear hS' hR1
  obtain ⟨A1, c1, rfl, hc1⟩ := hL1.form
  refine lst_run (run_build (cells := [_, _, _]) (.cons (by conv => lhs; whnf) .nil) rfl) rfl ?_
  refine lst_box hS rfl rfl ?_
  clear hS
  intro b1 wx1 hS
  refine lst_run (run_assign (by conv => lhs; whnf)) rfl ?_
  refine lst_done ?_
  refine goes_seq ?_
  refine goes_region ?_
  refine lst_run (run_assign (by conv => lhs; whnf)) rfl ?_
  refine lst_done ?_
  refine goes_seq ?_
  refine goes_block ?_
  refine goes_loop1 5 (14 :: 15 :: 16 :: 17 :: 18 :: 19 :: 20 :: 21 :: 22 :: 23 :: 24 :: 25 :: 6 :: 26 :: 27 :: 28 :: 29 :: 30 :: 31 :: 32 :: 33 :: 34 :: 35 :: 36 :: 37 :: 38 :: 39 :: 40 :: 41 :: 42 :: 43 :: 44 :: 45 :: 46 :: 47 :: 48 :: 49 :: 50 :: 51 :: 52 :: 53 :: 54 :: 55 :: 56 :: 57 :: 58 :: 59 :: 60 :: 61 :: 62 :: 63 :: 64 :: 2 :: 3 :: 65 :: 66 :: 67 :: 68 :: []) (fun (x : List Cl × PS) v w' => ∃ L V VH O xs, Sx φ L x.2.l ∧ Vars x.2.vars V VH ∧ Row 44 6 v x.1.length xs O ∧ St M w0 ((b1, psr L V false) :: (VH ++ (O ++ H))) ((fun w => ClCells w x.1 xs) :: φ :: F) w' ∧ x.2.bad = false ∧ x.1.length + x.2.l.length ≤ 2000 ∧ refProg (PS.start l).l.length (PS.start l) = (refProg x.2.l.length x.2).map (x.1 ++ ·)) (fun x => x.2.l.length) (([], PS.start l)) ?_ (by conv => lhs; whnf) ?_
  · exact ⟨_, _, [], [], [], hL1, Row.nil_, Row.nil_, hS.learn (fun _ _ => rfl), rfl, by show 0 + (wordsM l).length ≤ _; omega, by simp⟩
  clear hS hL1
  rintro ⟨D, p0⟩ v2 w2 jv ⟨L2, V2, VH2, O2, xs2, hL2, hV2, hR2, hS, hbad, hD1, hi⟩ ih
  obtain ⟨l0, vars0, bad0⟩ := p0
  dsimp only at hL2 hV2 hR2 hS hbad hD1 hi
  subst hbad
  obtain ⟨A2, c2, rfl, hc2⟩ := hL2.form
  obtain ⟨Av, cv, rfl⟩ := hV2.form
  obtain ⟨Ao, co, rfl⟩ := hR2.form
  cases l0 with
  | nil =>
    have hz := refProg_nil (p := ⟨[], vars0, false⟩) rfl
    dsimp only at hz
    rw [hz] at hi
    simp only [Option.map_some, List.append_nil] at hi
    by_cases h24 : 24 < D.length
    · have e : refProgramM l = ([], 3) := by unfold refProgramM; rw [if_neg h2000, hi]; simp only [if_pos h24]
      rw [e]
      refine goes_seq ?_
      refine goes_seq ?_
      refine goes_region ?_
      refine lst_run (run_move (by conv => lhs; whnf)) rfl ?_
      refine lst_run (run_nilCheck rfl) rfl ?_
      refine lst_run (run_fieldAddr (off := 0) rfl rfl) rfl ?_
      first
        | refine lst_run (run_load1_own hS rfl rfl (by first | exact .head | exact .tail .head | exact .tail (.tail .head) | exact .tail (.tail (.tail .head)) | exact .tail (.tail (.tail (.tail .head))) | exact .tail (.tail (.tail (.tail (.tail .head))))) (by repeat constructor)) rfl ?_
        | refine lst_run (run_load1 rfl rfl (by first | assumption | exact hS.cell0 (by assumption) | exact lv_next hS | exact lv_list hS)) rfl ?_
      refine lst_run (run_len_slice rfl rfl rfl) rfl ?_
      first
        | refine lst_run (run_gtr_yes rfl rfl (by omega)) rfl ?_
        | refine lst_run (run_gtr_no rfl rfl (by omega)) rfl ?_
        | refine lst_run (rfl) rfl ?_
      refine lst_done ?_
      refine goes_false rfl ?_
      refine goes_exit rfl ?_
      refine goes_seq ?_
      refine goes_seq ?_
      refine goes_region ?_
      refine lst_run (run_move (by conv => lhs; whnf)) rfl ?_
      refine lst_run (run_len_slice rfl rfl rfl) rfl ?_
      first
        | refine lst_run (run_gtr_yes rfl rfl (by omega)) rfl ?_
        | refine lst_run (run_gtr_no rfl rfl (by omega)) rfl ?_
        | refine lst_run (rfl) rfl ?_
      refine lst_done ?_
      refine goes_true rfl ?_
      refine goes_seq ?_
      refine goes_region ?_
      refine lst_run (run_assign (by conv => lhs; whnf)) rfl ?_
      refine lst_run (run_assign (by conv => lhs; whnf)) rfl ?_
      refine lst_done ?_
      refine goes_ret2 Tryz.func6 rfl (by conv => lhs; whnf) (by conv => lhs; whnf) ?_
      exact ⟨_, rfl, (St.dropL (L := O2) (St.dropL (L := VH2) hS.drop)).unlearn.unlearn.learn fun w _ => hno w⟩
    · have e : refProgramM l = (D, 0) := by unfold refProgramM; rw [if_neg h2000, hi]; simp only [if_neg h24]
      rw [e]
      refine goes_seq ?_
      refine goes_seq ?_
      refine goes_region ?_
      refine lst_run (run_move (by conv => lhs; whnf)) rfl ?_
      refine lst_run (run_nilCheck rfl) rfl ?_
      refine lst_run (run_fieldAddr (off := 0) rfl rfl) rfl ?_
      first
        | refine lst_run (run_load1_own hS rfl rfl (by first | exact .head | exact .tail .head | exact .tail (.tail .head) | exact .tail (.tail (.tail .head)) | exact .tail (.tail (.tail (.tail .head))) | exact .tail (.tail (.tail (.tail (.tail .head))))) (by repeat constructor)) rfl ?_
        | refine lst_run (run_load1 rfl rfl (by first | assumption | exact hS.cell0 (by assumption) | exact lv_next hS | exact lv_list hS)) rfl ?_
      refine lst_run (run_len_slice rfl rfl rfl) rfl ?_
      first
        | refine lst_run (run_gtr_yes rfl rfl (by omega)) rfl ?_
        | refine lst_run (run_gtr_no rfl rfl (by omega)) rfl ?_
        | refine lst_run (rfl) rfl ?_
      refine lst_done ?_
      refine goes_false rfl ?_
      refine goes_exit rfl ?_
      refine goes_seq ?_
      refine goes_seq ?_
      refine goes_region ?_
      refine lst_run (run_move (by conv => lhs; whnf)) rfl ?_
      refine lst_run (run_len_slice rfl rfl rfl) rfl ?_
      first
        | refine lst_run (run_gtr_yes rfl rfl (by omega)) rfl ?_
        | refine lst_run (run_gtr_no rfl rfl (by omega)) rfl ?_
        | refine lst_run (rfl) rfl ?_
      refine lst_done ?_
      refine goes_false rfl ?_
      refine goes_skip ?_
      refine goes_seq ?_
      refine goes_region ?_
      refine lst_run (run_move (by conv => lhs; whnf)) rfl ?_
      refine lst_run (run_assign (by conv => lhs; whnf)) rfl ?_
      refine lst_run (run_assign (by conv => lhs; whnf)) rfl ?_
      refine lst_done ?_
      refine goes_ret2 Tryz.func6 rfl (by conv => lhs; whnf) (by conv => lhs; whnf) ?_
      refine ⟨_, rfl, ?_⟩
      have hq := St.shutC hR2 (St.dropL (L := VH2) hS.drop)
      exact hq.forget fun ψ hψ => by
        rcases List.mem_cons.1 hψ with rfl | hψ
        · exact .head _
        · exact .tail _ (.tail _ hψ)
  | cons x0 r0 =>
    have hne : (PS.mk (x0 :: r0) vars0 false).l ≠ [] := by simp
    simp only [List.length_cons] at hc2
    have hlt0 : (x0 :: r0).length = r0.length + 1 := rfl
    have hcl : refClause ⟨x0 :: r0, vars0, false⟩ = (⟨(refTerm 24 ⟨x0 :: r0, [], false⟩).1.k, (refTerm 24 ⟨x0 :: r0, [], false⟩).1.n, ⟨(refTerm 24 ⟨x0 :: r0, [], false⟩).1.s.toArray⟩, (refTerm 24 ⟨x0 :: r0, [], false⟩).1.ar, tsOf (refBody (refTerm 24 ⟨x0 :: r0, [], false⟩).2).1, ((refBody (refTerm 24 ⟨x0 :: r0, [], false⟩).2).2.vars.length : Nat)⟩, (refBody (refTerm 24 ⟨x0 :: r0, [], false⟩).2).2) := rfl
    have hles := refTerm_le 24 ⟨x0 :: r0, [], false⟩
    have hfew := refTerm_few 24 ⟨x0 :: r0, [], false⟩
    have hfn := refTerm_fewN 24 ⟨x0 :: r0, [], false⟩
    dsimp only at hles hfew hfn
    simp only [List.length_nil, Nat.zero_add] at hfew
    refine goes_seq ?_
    refine goes_seq ?_
    refine goes_region ?_
    refine lst_run (run_move (by conv => lhs; whnf)) rfl ?_
    refine lst_run (run_nilCheck rfl) rfl ?_
    refine lst_run (run_fieldAddr (off := 0) rfl rfl) rfl ?_
    first
      | refine lst_run (run_load1_own hS rfl rfl (by first | exact .head | exact .tail .head | exact .tail (.tail .head) | exact .tail (.tail (.tail .head)) | exact .tail (.tail (.tail (.tail .head))) | exact .tail (.tail (.tail (.tail (.tail .head))))) (by repeat constructor)) rfl ?_
      | refine lst_run (run_load1 rfl rfl (by first | assumption | exact hS.cell0 (by assumption) | exact lv_next hS | exact lv_list hS)) rfl ?_
    refine lst_run (run_len_slice rfl rfl rfl) rfl ?_
    first
      | refine lst_run (run_gtr_yes rfl rfl (by omega)) rfl ?_
      | refine lst_run (run_gtr_no rfl rfl (by omega)) rfl ?_
      | refine lst_run (rfl) rfl ?_
    refine lst_done ?_
    refine goes_true rfl ?_
    refine goes_skip ?_
    refine goes_block ?_
    refine goes_seq ?_
    refine goes_region ?_
    refine lst_run (run_move (by conv => lhs; whnf)) rfl ?_
    refine lst_run (run_nilCheck rfl) rfl ?_
    refine lst_run (run_fieldAddr (off := 1) rfl rfl) rfl ?_
    refine lst_store1 hS rfl (by conv => lhs; whnf) rfl rfl (by first | exact .head | exact .tail .head | exact .tail (.tail .head) | exact .tail (.tail (.tail .head)) | exact .tail (.tail (.tail (.tail .head))) | exact .tail (.tail (.tail (.tail (.tail .head))))) (by repeat constructor) (by first | exact .head | exact .tail .head | exact .tail (.tail .head) | exact .tail (.tail (.tail .head)) | exact .tail (.tail (.tail (.tail .head))) | exact .tail (.tail (.tail (.tail (.tail .head))))) ?_
    clear hS
    intro wx2 hS
    refine lst_done ?_
    refine goes_seq ?_
    refine goes_region ?_
    refine lst_run (run_move (by conv => lhs; whnf)) rfl ?_
    replace hS := St.dropMid (L := VH2) hS
    refine lst_enter (run_call (by kernel_rfl) (args_2 (by conv => lhs; whnf) (by conv => lhs; whnf))) rfl ?_
    refine Calls.mono (pterm24 ⟨x0 :: r0, [], false⟩ _ _ [] M w0 _ (O2 ++ H) _ b1 φ (.tail _ (.head _)) (by show (x0 :: r0).length ≤ _; omega) (by show 0 + (x0 :: r0).length ≤ _; omega) hL2 Row.nil_ hS) ?_
    rintro _ w3 ⟨u, L3, V3, VH3, rfl, hL3, hV3, hS'⟩
    refine ⟨_, rfl, ?_⟩
    replace hS := hS'
    clear hS'
    obtain ⟨A3, c3, rfl, _⟩ := (hS.fact (.head _)).form
    generalize refTerm 24 ⟨x0 :: r0, [], false⟩ = r3 at *
    obtain ⟨nd, p1⟩ := r3
    obtain ⟨l1, vars1, bad1⟩ := p1
    dsimp only at *
    have hbn := bodyN ⟨l1, vars1, bad1⟩
    dsimp only at hbn
    obtain ⟨Av3, cv3, rfl⟩ := hV3.form
    refine lst_run (run_build (cells := [_, _, _, _, _, _]) (.cons (by conv => lhs; whnf) .nil) rfl) rfl ?_
    refine lst_alloc (cs := [_, _, _, _, _, _]) hS rfl rfl rfl ?_
    clear hS
    intro b2 wx3 hS
    refine lst_storeN hS rfl (by conv => lhs; whnf) rfl rfl (by first | exact .head | exact .tail .head | exact .tail (.tail .head) | exact .tail (.tail (.tail .head)) | exact .tail (.tail (.tail (.tail .head))) | exact .tail (.tail (.tail (.tail (.tail .head))))) (by repeat constructor) (by first | exact .head | exact .tail .head | exact .tail (.tail .head) | exact .tail (.tail (.tail .head)) | exact .tail (.tail (.tail (.tail .head))) | exact .tail (.tail (.tail (.tail (.tail .head))))) ?_
    clear hS
    intro wx4 hS
    refine lst_done ?_
    refine goes_seq ?_
    refine goes_seq ?_
    refine goes_region ?_
    refine lst_run (run_move (by conv => lhs; whnf)) rfl ?_
    refine lst_run (run_nilCheck rfl) rfl ?_
    refine lst_run (run_fieldAddr (off := 2) rfl rfl) rfl ?_
    first
      | refine lst_run (run_load1_own hS rfl rfl (by first | exact .head | exact .tail .head | exact .tail (.tail .head) | exact .tail (.tail (.tail .head)) | exact .tail (.tail (.tail (.tail .head))) | exact .tail (.tail (.tail (.tail (.tail .head))))) (by repeat constructor)) rfl ?_
      | refine lst_run (run_load1 rfl rfl (by first | assumption | exact hS.cell0 (by assumption) | exact lv_next hS | exact lv_list hS)) rfl ?_
    refine lst_run (rfl) rfl ?_
    refine lst_run (run_move (by conv => lhs; whnf)) rfl ?_
    cases bad1 with
    | true =>
      have hbd : refBody ⟨l1, vars1, true⟩ = ([], ⟨l1, vars1, true⟩) := rfl
      refine lst_pass rfl rfl rfl ?_
      refine lst_pass rfl rfl rfl ?_
      first
        | refine lst_run (run_pick_t rfl (by conv => lhs; whnf)) rfl ?_
        | refine lst_run (run_pick_f rfl (by conv => lhs; whnf)) rfl ?_
      refine lst_done ?_
      refine goes_false rfl ?_
      refine goes_region ?_
      refine lst_run (run_move (by conv => lhs; whnf)) rfl ?_
      refine lst_run (run_move (by conv => lhs; whnf)) rfl ?_
      refine lst_run (run_nilCheck rfl) rfl ?_
      refine lst_run (run_fieldAddr (off := 2) rfl rfl) rfl ?_
      first
        | refine lst_run (run_load1_own hS rfl rfl (by first | exact .head | exact .tail .head | exact .tail (.tail .head) | exact .tail (.tail (.tail .head)) | exact .tail (.tail (.tail (.tail .head))) | exact .tail (.tail (.tail (.tail (.tail .head))))) (by repeat constructor)) rfl ?_
        | refine lst_run (run_load1 rfl rfl (by first | assumption | exact hS.cell0 (by assumption) | exact lv_next hS | exact lv_list hS)) rfl ?_
      refine lst_run (run_move (by conv => lhs; whnf)) rfl ?_
      refine lst_pass rfl rfl rfl ?_
      refine lst_pass rfl rfl rfl ?_
      refine lst_pass rfl rfl rfl ?_
      first
        | refine lst_run (run_pick_t rfl (by conv => lhs; whnf)) rfl ?_
        | refine lst_run (run_pick_f rfl (by conv => lhs; whnf)) rfl ?_
      refine lst_run (run_nilCheck rfl) rfl ?_
      refine lst_run (run_fieldAddr (off := 2) rfl rfl) rfl ?_
      refine lst_store1 hS rfl (by conv => lhs; whnf) rfl rfl (by first | exact .head | exact .tail .head | exact .tail (.tail .head) | exact .tail (.tail (.tail .head)) | exact .tail (.tail (.tail (.tail .head))) | exact .tail (.tail (.tail (.tail (.tail .head))))) (by repeat constructor) (by first | exact .head | exact .tail .head | exact .tail (.tail .head) | exact .tail (.tail (.tail .head)) | exact .tail (.tail (.tail (.tail .head))) | exact .tail (.tail (.tail (.tail (.tail .head))))) ?_
      clear hS
      intro wx5 hS
      refine lst_done ?_
      refine goes_seq ?_
      refine goes_region ?_
      refine lst_run (run_move (by conv => lhs; whnf)) rfl ?_
      refine lst_run (run_nilCheck rfl) rfl ?_
      refine lst_run (run_fieldAddr (off := 1) rfl rfl) rfl ?_
      first
        | refine lst_run (run_load1_own hS rfl rfl (by first | exact .head | exact .tail .head | exact .tail (.tail .head) | exact .tail (.tail (.tail .head)) | exact .tail (.tail (.tail (.tail .head))) | exact .tail (.tail (.tail (.tail (.tail .head))))) (by repeat constructor)) rfl ?_
        | refine lst_run (run_load1 rfl rfl (by first | assumption | exact hS.cell0 (by assumption) | exact lv_next hS | exact lv_list hS)) rfl ?_
      refine lst_run (run_len_slice rfl rfl rfl) rfl ?_
      refine lst_run (run_fieldAddr (off := 5) rfl rfl) rfl ?_
      refine lst_store1 hS rfl (by conv => lhs; whnf) rfl rfl (by first | exact .head | exact .tail .head | exact .tail (.tail .head) | exact .tail (.tail (.tail .head)) | exact .tail (.tail (.tail (.tail .head))) | exact .tail (.tail (.tail (.tail (.tail .head))))) (by repeat constructor) (by first | exact .head | exact .tail .head | exact .tail (.tail .head) | exact .tail (.tail (.tail .head)) | exact .tail (.tail (.tail (.tail .head))) | exact .tail (.tail (.tail (.tail (.tail .head))))) ?_
      clear hS
      intro wx6 hS
      refine lst_done ?_
      refine goes_seq ?_
      refine goes_seq ?_
      refine goes_region ?_
      refine lst_run (run_move (by conv => lhs; whnf)) rfl ?_
      refine lst_run (run_nilCheck rfl) rfl ?_
      refine lst_run (run_fieldAddr (off := 2) rfl rfl) rfl ?_
      first
        | refine lst_run (run_load1_own hS rfl rfl (by first | exact .head | exact .tail .head | exact .tail (.tail .head) | exact .tail (.tail (.tail .head)) | exact .tail (.tail (.tail (.tail .head))) | exact .tail (.tail (.tail (.tail (.tail .head))))) (by repeat constructor)) rfl ?_
        | refine lst_run (run_load1 rfl rfl (by first | assumption | exact hS.cell0 (by assumption) | exact lv_next hS | exact lv_list hS)) rfl ?_
      refine lst_run (run_move (by conv => lhs; whnf)) rfl ?_
      refine lst_pass rfl rfl rfl ?_
      refine lst_pass rfl rfl rfl ?_
      refine lst_pass rfl rfl rfl ?_
      first
        | refine lst_run (run_pick_t rfl (by conv => lhs; whnf)) rfl ?_
        | refine lst_run (run_pick_f rfl (by conv => lhs; whnf)) rfl ?_
      refine lst_done ?_
      refine goes_true rfl ?_
      refine goes_seq ?_
      refine goes_region ?_
      refine lst_run (run_assign (by conv => lhs; whnf)) rfl ?_
      refine lst_run (run_assign (by conv => lhs; whnf)) rfl ?_
      refine lst_done ?_
      refine goes_ret2 Tryz.func6 rfl (by conv => lhs; whnf) (by conv => lhs; whnf) ?_
      have e : refProgramM l = ([], 1) := by
        unfold refProgramM
        have hz := refProg_none hne (by rw [hcl, hbd]; exact .inl rfl)
        dsimp only at hz
        rw [if_neg h2000, hi, hz]
        rfl
      rw [e]
      exact ⟨_, rfl, ((St.dropL (L := O2) (St.dropL (L := VH3) hS.drop.drop)).forget (F' := F) fun ψ hψ => by simp [hψ]).learn fun w _ => hno w⟩
    | false =>
      cases hcm : PS.has ⟨l1, vars1, false⟩ [58, 45] with
      | true =>
        have hbd : refBody ⟨l1, vars1, false⟩ = refGoals ⟨l1.tail, vars1, false⟩ := by unfold refBody; rw [if_pos ⟨rfl, hcm⟩]; rfl
        have htk := takeP_any ⟨l1, vars1, false⟩ [58, 45] _ _ _ hL3 (.tail _ (.tail _ (.head _))) hS.swap
        rw [hcm] at htk
        simp only [if_true, PS.pop] at htk
        have hrl := (has_pop hcm).1
        dsimp only [PS.pop] at hrl
        have hgn := refTerms_fewN (refTerm_fewN 24) [46] ⟨l1.tail, vars1, false⟩
        have hgn2 : (tsOf (refGoals ⟨l1.tail, vars1, false⟩).1).nodes ≤ l1.tail.length + 1 := by unfold refGoals; dsimp only at hgn; omega
        clear hgn
        refine lst_guard rfl rfl ?_
        refine lst_run (run_move (by conv => lhs; whnf)) rfl ?_
        refine lst_guard rfl rfl ?_
        refine lst_enter (run_call (by kernel_rfl) (args_2 (by conv => lhs; whnf) (by conv => lhs; whnf))) rfl ?_
        refine Calls.mono (htk) ?_
        rintro _ w4 ⟨L5, rfl, hL5, hS'⟩
        refine ⟨_, rfl, ?_⟩
        replace hS := hS'
        clear hS'
        replace hS := hS.swap
        first
          | refine lst_run (run_pick_t rfl (by conv => lhs; whnf)) rfl ?_
          | refine lst_run (run_pick_f rfl (by conv => lhs; whnf)) rfl ?_
        refine lst_done ?_
        refine goes_true rfl ?_
        refine goes_region ?_
        refine lst_run (run_move (by conv => lhs; whnf)) rfl ?_
        refine lst_enter (run_call (by kernel_rfl) (args_1 (by conv => lhs; whnf))) rfl ?_
        refine Calls.mono (goals_any ⟨l1.tail, vars1, false⟩ L5 _ VH3 M w0 _ _ _ b1 φ (.tail _ (.tail _ (.head _))) (by show l1.tail.length ≤ _; omega) (by show vars1.length + l1.tail.length ≤ _; omega) hL5 hV3 hS.sink1) ?_
        rintro _ w5 ⟨v, L7, V7, VH7, rfl, hL7, hV7, hS'⟩
        refine ⟨_, rfl, ?_⟩
        replace hS := hS'.raise1
        clear hS' htk
        obtain ⟨A7, c7, rfl, _⟩ := (hS.fact (.head _)).form
        generalize refGoals ⟨l1.tail, vars1, false⟩ = q7 at *
        obtain ⟨Bl, l7, vars7, bad7⟩ := q7
        dsimp only at *
        obtain ⟨Av7, cv7, rfl⟩ := hV7.form
        cases bad7 with
        | true =>
          refine lst_run (run_fieldAddr (off := 4) rfl rfl) rfl ?_
          refine lst_store1 hS rfl (by conv => lhs; whnf) rfl rfl (by first | exact .head | exact .tail .head | exact .tail (.tail .head) | exact .tail (.tail (.tail .head)) | exact .tail (.tail (.tail (.tail .head))) | exact .tail (.tail (.tail (.tail (.tail .head))))) (by repeat constructor) (by first | exact .head | exact .tail .head | exact .tail (.tail .head) | exact .tail (.tail (.tail .head)) | exact .tail (.tail (.tail (.tail .head))) | exact .tail (.tail (.tail (.tail (.tail .head))))) ?_
          clear hS
          intro wx5 hS
          refine lst_done ?_
          refine goes_seq ?_
          refine goes_region ?_
          refine lst_run (run_move (by conv => lhs; whnf)) rfl ?_
          refine lst_run (run_nilCheck rfl) rfl ?_
          refine lst_run (run_fieldAddr (off := 1) rfl rfl) rfl ?_
          first
            | refine lst_run (run_load1_own hS rfl rfl (by first | exact .head | exact .tail .head | exact .tail (.tail .head) | exact .tail (.tail (.tail .head)) | exact .tail (.tail (.tail (.tail .head))) | exact .tail (.tail (.tail (.tail (.tail .head))))) (by repeat constructor)) rfl ?_
            | refine lst_run (run_load1 rfl rfl (by first | assumption | exact hS.cell0 (by assumption) | exact lv_next hS | exact lv_list hS)) rfl ?_
          refine lst_run (run_len_slice rfl rfl rfl) rfl ?_
          refine lst_run (run_fieldAddr (off := 5) rfl rfl) rfl ?_
          refine lst_store1 hS rfl (by conv => lhs; whnf) rfl rfl (by first | exact .head | exact .tail .head | exact .tail (.tail .head) | exact .tail (.tail (.tail .head)) | exact .tail (.tail (.tail (.tail .head))) | exact .tail (.tail (.tail (.tail (.tail .head))))) (by repeat constructor) (by first | exact .head | exact .tail .head | exact .tail (.tail .head) | exact .tail (.tail (.tail .head)) | exact .tail (.tail (.tail (.tail .head))) | exact .tail (.tail (.tail (.tail (.tail .head))))) ?_
          clear hS
          intro wx6 hS
          refine lst_done ?_
          refine goes_seq ?_
          refine goes_seq ?_
          refine goes_region ?_
          refine lst_run (run_move (by conv => lhs; whnf)) rfl ?_
          refine lst_run (run_nilCheck rfl) rfl ?_
          refine lst_run (run_fieldAddr (off := 2) rfl rfl) rfl ?_
          first
            | refine lst_run (run_load1_own hS rfl rfl (by first | exact .head | exact .tail .head | exact .tail (.tail .head) | exact .tail (.tail (.tail .head)) | exact .tail (.tail (.tail (.tail .head))) | exact .tail (.tail (.tail (.tail (.tail .head))))) (by repeat constructor)) rfl ?_
            | refine lst_run (run_load1 rfl rfl (by first | assumption | exact hS.cell0 (by assumption) | exact lv_next hS | exact lv_list hS)) rfl ?_
          refine lst_run (run_move (by conv => lhs; whnf)) rfl ?_
          refine lst_pass rfl rfl rfl ?_
          refine lst_pass rfl rfl rfl ?_
          refine lst_pass rfl rfl rfl ?_
          first
            | refine lst_run (run_pick_t rfl (by conv => lhs; whnf)) rfl ?_
            | refine lst_run (run_pick_f rfl (by conv => lhs; whnf)) rfl ?_
          refine lst_done ?_
          refine goes_true rfl ?_
          refine goes_seq ?_
          refine goes_region ?_
          refine lst_run (run_assign (by conv => lhs; whnf)) rfl ?_
          refine lst_run (run_assign (by conv => lhs; whnf)) rfl ?_
          refine lst_done ?_
          refine goes_ret2 Tryz.func6 rfl (by conv => lhs; whnf) (by conv => lhs; whnf) ?_
          have e : refProgramM l = ([], 1) := by
            unfold refProgramM
            have hz := refProg_none hne (by rw [hcl, hbd]; exact .inl rfl)
            dsimp only at hz
            rw [if_neg h2000, hi, hz]
            rfl
          rw [e]
          exact ⟨_, rfl, ((St.dropL (L := O2) (St.dropL (L := VH7) hS.drop.drop)).forget (F' := F) fun ψ hψ => by simp [hψ]).learn fun w _ => hno w⟩
        | false =>
          refine lst_run (run_fieldAddr (off := 4) rfl rfl) rfl ?_
          refine lst_store1 hS rfl (by conv => lhs; whnf) rfl rfl (by first | exact .head | exact .tail .head | exact .tail (.tail .head) | exact .tail (.tail (.tail .head)) | exact .tail (.tail (.tail (.tail .head))) | exact .tail (.tail (.tail (.tail (.tail .head))))) (by repeat constructor) (by first | exact .head | exact .tail .head | exact .tail (.tail .head) | exact .tail (.tail (.tail .head)) | exact .tail (.tail (.tail (.tail .head))) | exact .tail (.tail (.tail (.tail (.tail .head))))) ?_
          clear hS
          intro wx5 hS
          refine lst_done ?_
          refine goes_seq ?_
          refine goes_region ?_
          refine lst_run (run_move (by conv => lhs; whnf)) rfl ?_
          refine lst_run (run_nilCheck rfl) rfl ?_
          refine lst_run (run_fieldAddr (off := 1) rfl rfl) rfl ?_
          first
            | refine lst_run (run_load1_own hS rfl rfl (by first | exact .head | exact .tail .head | exact .tail (.tail .head) | exact .tail (.tail (.tail .head)) | exact .tail (.tail (.tail (.tail .head))) | exact .tail (.tail (.tail (.tail (.tail .head))))) (by repeat constructor)) rfl ?_
            | refine lst_run (run_load1 rfl rfl (by first | assumption | exact hS.cell0 (by assumption) | exact lv_next hS | exact lv_list hS)) rfl ?_
          refine lst_run (run_len_slice rfl rfl rfl) rfl ?_
          refine lst_run (run_fieldAddr (off := 5) rfl rfl) rfl ?_
          refine lst_store1 hS rfl (by conv => lhs; whnf) rfl rfl (by first | exact .head | exact .tail .head | exact .tail (.tail .head) | exact .tail (.tail (.tail .head)) | exact .tail (.tail (.tail (.tail .head))) | exact .tail (.tail (.tail (.tail (.tail .head))))) (by repeat constructor) (by first | exact .head | exact .tail .head | exact .tail (.tail .head) | exact .tail (.tail (.tail .head)) | exact .tail (.tail (.tail (.tail .head))) | exact .tail (.tail (.tail (.tail (.tail .head))))) ?_
          clear hS
          intro wx6 hS
          refine lst_done ?_
          refine goes_seq ?_
          refine goes_seq ?_
          refine goes_region ?_
          refine lst_run (run_move (by conv => lhs; whnf)) rfl ?_
          refine lst_run (run_nilCheck rfl) rfl ?_
          refine lst_run (run_fieldAddr (off := 2) rfl rfl) rfl ?_
          first
            | refine lst_run (run_load1_own hS rfl rfl (by first | exact .head | exact .tail .head | exact .tail (.tail .head) | exact .tail (.tail (.tail .head)) | exact .tail (.tail (.tail (.tail .head))) | exact .tail (.tail (.tail (.tail (.tail .head))))) (by repeat constructor)) rfl ?_
            | refine lst_run (run_load1 rfl rfl (by first | assumption | exact hS.cell0 (by assumption) | exact lv_next hS | exact lv_list hS)) rfl ?_
          refine lst_run (run_move (by conv => lhs; whnf)) rfl ?_
          refine lst_guard rfl rfl ?_
          first
            | refine lst_run (run_loadN_own (k := 6) hS rfl rfl rfl (by first | exact .head | exact .tail .head | exact .tail (.tail .head) | exact .tail (.tail (.tail .head)) | exact .tail (.tail (.tail (.tail .head))) | exact .tail (.tail (.tail (.tail (.tail .head))))) (by repeat constructor)) rfl ?_
            | refine lst_run (run_load6 rfl rfl rfl (by first | assumption | exact hS.cell0 (by assumption)) (by first | assumption | exact hS.cell0 (by assumption)) (by first | assumption | exact hS.cell0 (by assumption)) (by first | assumption | exact hS.cell0 (by assumption)) (by first | assumption | exact hS.cell0 (by assumption)) (by first | assumption | exact hS.cell0 (by assumption))) rfl ?_
          refine lst_guard rfl rfl ?_
          have hg := isClause_any ⟨nd.k, nd.n, ⟨nd.s.toArray⟩, nd.ar, (tsOf Bl), (vars7.length : Nat)⟩ _ _ _ (hS.fact (.tail _ (.head _))) (hS.fact (.head _)) (by simp only; omega) (by simp only; omega)
          refine lst_enter (run_call (by kernel_rfl) (args_1 (by conv => lhs; whnf))) rfl ?_
          refine Calls.mono hg ?_
          rintro _ w8 ⟨rfl, hb8⟩
          refine ⟨_, rfl, ?_⟩
          replace hS := hS.grow hb8
          cases hok : cB ⟨nd.k, nd.n, ⟨nd.s.toArray⟩, nd.ar, (tsOf Bl), (vars7.length : Nat)⟩ with
          | false =>
            refine lst_guard rfl rfl ?_
            refine lst_run (rfl) rfl ?_
            first
              | refine lst_run (run_pick_t rfl (by conv => lhs; whnf)) rfl ?_
              | refine lst_run (run_pick_f rfl (by conv => lhs; whnf)) rfl ?_
            refine lst_done ?_
            refine goes_true rfl ?_
            refine goes_seq ?_
            refine goes_region ?_
            refine lst_run (run_assign (by conv => lhs; whnf)) rfl ?_
            refine lst_run (run_assign (by conv => lhs; whnf)) rfl ?_
            refine lst_done ?_
            refine goes_ret2 Tryz.func6 rfl (by conv => lhs; whnf) (by conv => lhs; whnf) ?_
            have e : refProgramM l = ([], 1) := by
              unfold refProgramM
              have hz := refProg_none hne (by rw [hcl, hbd]; exact .inr hok)
              dsimp only at hz
              rw [if_neg h2000, hi, hz]
              rfl
            rw [e]
            exact ⟨_, rfl, ((St.dropL (L := O2) (St.dropL (L := VH7) hS.drop.drop)).forget (F' := F) fun ψ hψ => by simp [hψ]).learn fun w _ => hno w⟩
          | true =>
            have hclt : l7.length < (x0 :: r0).length := by
              have := refClause_lt ⟨x0 :: r0, vars0, false⟩ (by rw [hcl, hbd])
              rw [hcl, hbd] at this
              exact this
            have hst := refProg_step hne (by rw [hcl, hbd]; dsimp only; intro h; rcases h with h | h; cases h; rw [hok] at h; cases h)
            rw [hcl, hbd] at hst
            dsimp only at hst
            refine lst_guard rfl rfl ?_
            refine lst_run (rfl) rfl ?_
            first
              | refine lst_run (run_pick_t rfl (by conv => lhs; whnf)) rfl ?_
              | refine lst_run (run_pick_f rfl (by conv => lhs; whnf)) rfl ?_
            refine lst_done ?_
            refine goes_false rfl ?_
            refine goes_skip ?_
            refine goes_region ?_
            refine lst_run (run_move (by conv => lhs; whnf)) rfl ?_
            first
              | refine lst_run (run_loadN_own (k := 6) hS rfl rfl rfl (by first | exact .head | exact .tail .head | exact .tail (.tail .head) | exact .tail (.tail (.tail .head)) | exact .tail (.tail (.tail (.tail .head))) | exact .tail (.tail (.tail (.tail (.tail .head))))) (by repeat constructor)) rfl ?_
              | refine lst_run (run_load6 rfl rfl rfl (by first | assumption | exact hS.cell0 (by assumption)) (by first | assumption | exact hS.cell0 (by assumption)) (by first | assumption | exact hS.cell0 (by assumption)) (by first | assumption | exact hS.cell0 (by assumption)) (by first | assumption | exact hS.cell0 (by assumption)) (by first | assumption | exact hS.cell0 (by assumption))) rfl ?_
            refine lst_buildSlice (cells := [_, _, _, _, _, _]) hS (.cons (by conv => lhs; whnf) .nil) rfl rfl ?_
            clear hS
            intro b3 wx7 hS
            refine lst_app (sz := 6) (bts := 88) hS (by conv => lhs; whnf) rfl rfl rfl rfl (hR2) rfl rfl (.cons _ (List.perm_append_comm_assoc (_ :: _ :: VH7) O2 H)) (by omega) (by omega) rfl ?_
            clear hS
            intro v9 O9 w9 hR9 hS
            replace hS := (hS.perm (List.perm_append_comm_assoc O9 (_ :: _ :: VH7) H)).conv2 (ψ := fun w => Sl w (fun _ => True) (.slice A3 nd.ar.length c3) nd.ar ∧ Sl w (fun _ => True) (.slice A7 ((tsOf Bl) : Ts).length c7) (tsOf Bl)) fun w h1 h2 => ⟨h2, h1⟩
            replace hS := hS.conv2 (ψ := fun w => ClCells w (D ++ [⟨nd.k, nd.n, ⟨nd.s.toArray⟩, nd.ar, (tsOf Bl), (vars7.length : Nat)⟩]) (xs2 ++ [.int .i64 nd.k, .int .i64 nd.n, sv nd.s, .slice A3 nd.ar.length c3, .slice A7 ((tsOf Bl) : Ts).length c7, .int .i64 (vars7.length : Nat)])) fun w h1 h2 => h2.app ⟨_, _, [], rfl, h1.1, h1.2, rfl⟩
            obtain ⟨A9, c9, rfl⟩ := hR9.form
            refine lst_run (run_assign (by conv => lhs; whnf)) rfl ?_
            refine lst_done ?_
            refine goes_inBlock ?_
            refine ih ((D ++ [⟨nd.k, nd.n, ⟨nd.s.toArray⟩, nd.ar, (tsOf Bl), (vars7.length : Nat)⟩], ⟨l7, vars7, false⟩)) _ _ _ ?_ ?_ (by conv => lhs; whnf) (by kernel_rfl)
            · exact hclt
            · refine ⟨L7, _, VH7, O9, _, hL7, hV7, ?_, hS.drop, rfl, ?_, ?_⟩
              · simp only [List.length_append, List.length_cons, List.length_nil]; exact hR9
              · simp only [List.length_append, List.length_cons, List.length_nil]; omega
              · rw [hi, hst]; simp [Option.map_map, Function.comp_def]
      | false =>
        have hbd0 : refBody ⟨l1, vars1, false⟩ = ([], PS.close ⟨l1, vars1, false⟩ [46]) := by unfold refBody; rw [if_neg (by simp [hcm])]
        have htk := takeP_any ⟨l1, vars1, false⟩ [58, 45] _ _ _ hL3 (.tail _ (.tail _ (.head _))) hS.swap
        rw [hcm] at htk
        simp only [Bool.false_eq_true, if_false] at htk
        refine lst_guard rfl rfl ?_
        refine lst_run (run_move (by conv => lhs; whnf)) rfl ?_
        refine lst_guard rfl rfl ?_
        refine lst_enter (run_call (by kernel_rfl) (args_2 (by conv => lhs; whnf) (by conv => lhs; whnf))) rfl ?_
        refine Calls.mono (htk) ?_
        rintro _ w4 ⟨L5, rfl, hL5, hS'⟩
        refine ⟨_, rfl, ?_⟩
        replace hS := hS'
        clear hS'
        replace hS := hS.swap
        first
          | refine lst_run (run_pick_t rfl (by conv => lhs; whnf)) rfl ?_
          | refine lst_run (run_pick_f rfl (by conv => lhs; whnf)) rfl ?_
        refine lst_done ?_
        refine goes_false rfl ?_
        refine goes_region ?_
        refine lst_run (run_move (by conv => lhs; whnf)) rfl ?_
        refine lst_run (run_move (by conv => lhs; whnf)) rfl ?_
        refine lst_run (run_nilCheck rfl) rfl ?_
        refine lst_run (run_fieldAddr (off := 2) rfl rfl) rfl ?_
        first
          | refine lst_run (run_load1_own hS rfl rfl (by first | exact .head | exact .tail .head | exact .tail (.tail .head) | exact .tail (.tail (.tail .head)) | exact .tail (.tail (.tail (.tail .head))) | exact .tail (.tail (.tail (.tail (.tail .head))))) (by repeat constructor)) rfl ?_
          | refine lst_run (run_load1 rfl rfl (by first | assumption | exact hS.cell0 (by assumption) | exact lv_next hS | exact lv_list hS)) rfl ?_
        refine lst_run (run_move (by conv => lhs; whnf)) rfl ?_
        refine lst_guard rfl rfl ?_
        refine lst_run (run_move (by conv => lhs; whnf)) rfl ?_
        refine lst_guard rfl rfl ?_
        have htk2 := takeP_any ⟨l1, vars1, false⟩ [46] _ _ _ hL5 (.tail _ (.tail _ (.head _))) hS.swap
        cases hcl2 : PS.has ⟨l1, vars1, false⟩ [46] with
        | false =>
          have hbd : refBody ⟨l1, vars1, false⟩ = ([], ⟨l1, vars1, true⟩) := by rw [hbd0]; unfold PS.close; rw [if_neg (by simp), if_neg (by simp [hcl2])]; rfl
          rw [hcl2] at htk2
          simp only [Bool.false_eq_true, if_false] at htk2
          refine lst_enter (run_call (by kernel_rfl) (args_2 (by conv => lhs; whnf) (by conv => lhs; whnf))) rfl ?_
          refine Calls.mono (htk2) ?_
          rintro _ w5 ⟨L7, rfl, hL7, hS'⟩
          refine ⟨_, rfl, ?_⟩
          replace hS := hS'
          clear hS'
          replace hS := hS.swap
          refine lst_guard rfl rfl ?_
          refine lst_run (rfl) rfl ?_
          first
            | refine lst_run (run_pick_t rfl (by conv => lhs; whnf)) rfl ?_
            | refine lst_run (run_pick_f rfl (by conv => lhs; whnf)) rfl ?_
          refine lst_run (run_nilCheck rfl) rfl ?_
          refine lst_run (run_fieldAddr (off := 2) rfl rfl) rfl ?_
          refine lst_store1 hS rfl (by conv => lhs; whnf) rfl rfl (by first | exact .head | exact .tail .head | exact .tail (.tail .head) | exact .tail (.tail (.tail .head)) | exact .tail (.tail (.tail (.tail .head))) | exact .tail (.tail (.tail (.tail (.tail .head))))) (by repeat constructor) (by first | exact .head | exact .tail .head | exact .tail (.tail .head) | exact .tail (.tail (.tail .head)) | exact .tail (.tail (.tail (.tail .head))) | exact .tail (.tail (.tail (.tail (.tail .head))))) ?_
          clear hS
          intro wx5 hS
          refine lst_done ?_
          refine goes_seq ?_
          refine goes_region ?_
          refine lst_run (run_move (by conv => lhs; whnf)) rfl ?_
          refine lst_run (run_nilCheck rfl) rfl ?_
          refine lst_run (run_fieldAddr (off := 1) rfl rfl) rfl ?_
          first
            | refine lst_run (run_load1_own hS rfl rfl (by first | exact .head | exact .tail .head | exact .tail (.tail .head) | exact .tail (.tail (.tail .head)) | exact .tail (.tail (.tail (.tail .head))) | exact .tail (.tail (.tail (.tail (.tail .head))))) (by repeat constructor)) rfl ?_
            | refine lst_run (run_load1 rfl rfl (by first | assumption | exact hS.cell0 (by assumption) | exact lv_next hS | exact lv_list hS)) rfl ?_
          refine lst_run (run_len_slice rfl rfl rfl) rfl ?_
          refine lst_run (run_fieldAddr (off := 5) rfl rfl) rfl ?_
          refine lst_store1 hS rfl (by conv => lhs; whnf) rfl rfl (by first | exact .head | exact .tail .head | exact .tail (.tail .head) | exact .tail (.tail (.tail .head)) | exact .tail (.tail (.tail (.tail .head))) | exact .tail (.tail (.tail (.tail (.tail .head))))) (by repeat constructor) (by first | exact .head | exact .tail .head | exact .tail (.tail .head) | exact .tail (.tail (.tail .head)) | exact .tail (.tail (.tail (.tail .head))) | exact .tail (.tail (.tail (.tail (.tail .head))))) ?_
          clear hS
          intro wx6 hS
          refine lst_done ?_
          refine goes_seq ?_
          refine goes_seq ?_
          refine goes_region ?_
          refine lst_run (run_move (by conv => lhs; whnf)) rfl ?_
          refine lst_run (run_nilCheck rfl) rfl ?_
          refine lst_run (run_fieldAddr (off := 2) rfl rfl) rfl ?_
          first
            | refine lst_run (run_load1_own hS rfl rfl (by first | exact .head | exact .tail .head | exact .tail (.tail .head) | exact .tail (.tail (.tail .head)) | exact .tail (.tail (.tail (.tail .head))) | exact .tail (.tail (.tail (.tail (.tail .head))))) (by repeat constructor)) rfl ?_
            | refine lst_run (run_load1 rfl rfl (by first | assumption | exact hS.cell0 (by assumption) | exact lv_next hS | exact lv_list hS)) rfl ?_
          refine lst_run (run_move (by conv => lhs; whnf)) rfl ?_
          refine lst_pass rfl rfl rfl ?_
          refine lst_pass rfl rfl rfl ?_
          refine lst_pass rfl rfl rfl ?_
          first
            | refine lst_run (run_pick_t rfl (by conv => lhs; whnf)) rfl ?_
            | refine lst_run (run_pick_f rfl (by conv => lhs; whnf)) rfl ?_
          refine lst_done ?_
          refine goes_true rfl ?_
          refine goes_seq ?_
          refine goes_region ?_
          refine lst_run (run_assign (by conv => lhs; whnf)) rfl ?_
          refine lst_run (run_assign (by conv => lhs; whnf)) rfl ?_
          refine lst_done ?_
          refine goes_ret2 Tryz.func6 rfl (by conv => lhs; whnf) (by conv => lhs; whnf) ?_
          have e : refProgramM l = ([], 1) := by
            unfold refProgramM
            have hz := refProg_none hne (by rw [hcl, hbd]; exact .inl rfl)
            dsimp only at hz
            rw [if_neg h2000, hi, hz]
            rfl
          rw [e]
          exact ⟨_, rfl, ((St.dropL (L := O2) (St.dropL (L := VH3) hS.drop.drop)).forget (F' := F) fun ψ hψ => by simp [hψ]).learn fun w _ => hno w⟩
        | true =>
          have hbd : refBody ⟨l1, vars1, false⟩ = ([], ⟨l1.tail, vars1, false⟩) := by rw [hbd0]; unfold PS.close; rw [if_neg (by simp), if_pos hcl2]; rfl
          rw [hcl2] at htk2
          simp only [if_true, PS.pop] at htk2
          have hnn : (tsOf ([] : List Nd)).nodes = 0 := rfl
          refine lst_enter (run_call (by kernel_rfl) (args_2 (by conv => lhs; whnf) (by conv => lhs; whnf))) rfl ?_
          refine Calls.mono (htk2) ?_
          rintro _ w5 ⟨L7, rfl, hL7, hS'⟩
          refine ⟨_, rfl, ?_⟩
          replace hS := hS'
          clear hS'
          replace hS := hS.swap.learn (φ := fun w => Sl w (fun _ => True) (.slice none 0 0) (tsOf [])) fun w _ => hnil w
          refine lst_guard rfl rfl ?_
          refine lst_run (rfl) rfl ?_
          first
            | refine lst_run (run_pick_t rfl (by conv => lhs; whnf)) rfl ?_
            | refine lst_run (run_pick_f rfl (by conv => lhs; whnf)) rfl ?_
          refine lst_run (run_nilCheck rfl) rfl ?_
          refine lst_run (run_fieldAddr (off := 2) rfl rfl) rfl ?_
          refine lst_store1 hS rfl (by conv => lhs; whnf) rfl rfl (by first | exact .head | exact .tail .head | exact .tail (.tail .head) | exact .tail (.tail (.tail .head)) | exact .tail (.tail (.tail (.tail .head))) | exact .tail (.tail (.tail (.tail (.tail .head))))) (by repeat constructor) (by first | exact .head | exact .tail .head | exact .tail (.tail .head) | exact .tail (.tail (.tail .head)) | exact .tail (.tail (.tail (.tail .head))) | exact .tail (.tail (.tail (.tail (.tail .head))))) ?_
          clear hS
          intro wx5 hS
          refine lst_done ?_
          refine goes_seq ?_
          refine goes_region ?_
          refine lst_run (run_move (by conv => lhs; whnf)) rfl ?_
          refine lst_run (run_nilCheck rfl) rfl ?_
          refine lst_run (run_fieldAddr (off := 1) rfl rfl) rfl ?_
          first
            | refine lst_run (run_load1_own hS rfl rfl (by first | exact .head | exact .tail .head | exact .tail (.tail .head) | exact .tail (.tail (.tail .head)) | exact .tail (.tail (.tail (.tail .head))) | exact .tail (.tail (.tail (.tail (.tail .head))))) (by repeat constructor)) rfl ?_
            | refine lst_run (run_load1 rfl rfl (by first | assumption | exact hS.cell0 (by assumption) | exact lv_next hS | exact lv_list hS)) rfl ?_
          refine lst_run (run_len_slice rfl rfl rfl) rfl ?_
          refine lst_run (run_fieldAddr (off := 5) rfl rfl) rfl ?_
          refine lst_store1 hS rfl (by conv => lhs; whnf) rfl rfl (by first | exact .head | exact .tail .head | exact .tail (.tail .head) | exact .tail (.tail (.tail .head)) | exact .tail (.tail (.tail (.tail .head))) | exact .tail (.tail (.tail (.tail (.tail .head))))) (by repeat constructor) (by first | exact .head | exact .tail .head | exact .tail (.tail .head) | exact .tail (.tail (.tail .head)) | exact .tail (.tail (.tail (.tail .head))) | exact .tail (.tail (.tail (.tail (.tail .head))))) ?_
          clear hS
          intro wx6 hS
          refine lst_done ?_
          refine goes_seq ?_
          refine goes_seq ?_
          refine goes_region ?_
          refine lst_run (run_move (by conv => lhs; whnf)) rfl ?_
          refine lst_run (run_nilCheck rfl) rfl ?_
          refine lst_run (run_fieldAddr (off := 2) rfl rfl) rfl ?_
          first
            | refine lst_run (run_load1_own hS rfl rfl (by first | exact .head | exact .tail .head | exact .tail (.tail .head) | exact .tail (.tail (.tail .head)) | exact .tail (.tail (.tail (.tail .head))) | exact .tail (.tail (.tail (.tail (.tail .head))))) (by repeat constructor)) rfl ?_
            | refine lst_run (run_load1 rfl rfl (by first | assumption | exact hS.cell0 (by assumption) | exact lv_next hS | exact lv_list hS)) rfl ?_
          refine lst_run (run_move (by conv => lhs; whnf)) rfl ?_
          refine lst_guard rfl rfl ?_
          first
            | refine lst_run (run_loadN_own (k := 6) hS rfl rfl rfl (by first | exact .head | exact .tail .head | exact .tail (.tail .head) | exact .tail (.tail (.tail .head)) | exact .tail (.tail (.tail (.tail .head))) | exact .tail (.tail (.tail (.tail (.tail .head))))) (by repeat constructor)) rfl ?_
            | refine lst_run (run_load6 rfl rfl rfl (by first | assumption | exact hS.cell0 (by assumption)) (by first | assumption | exact hS.cell0 (by assumption)) (by first | assumption | exact hS.cell0 (by assumption)) (by first | assumption | exact hS.cell0 (by assumption)) (by first | assumption | exact hS.cell0 (by assumption)) (by first | assumption | exact hS.cell0 (by assumption))) rfl ?_
          refine lst_guard rfl rfl ?_
          have hg := isClause_any ⟨nd.k, nd.n, ⟨nd.s.toArray⟩, nd.ar, (tsOf []), (vars1.length : Nat)⟩ _ _ _ (hS.fact (.tail _ (.head _))) (hS.fact (.head _)) (by simp only; omega) (by simp only; omega)
          refine lst_enter (run_call (by kernel_rfl) (args_1 (by conv => lhs; whnf))) rfl ?_
          refine Calls.mono hg ?_
          rintro _ w8 ⟨rfl, hb8⟩
          refine ⟨_, rfl, ?_⟩
          replace hS := hS.grow hb8
          cases hok : cB ⟨nd.k, nd.n, ⟨nd.s.toArray⟩, nd.ar, (tsOf []), (vars1.length : Nat)⟩ with
          | false =>
            refine lst_guard rfl rfl ?_
            refine lst_run (rfl) rfl ?_
            first
              | refine lst_run (run_pick_t rfl (by conv => lhs; whnf)) rfl ?_
              | refine lst_run (run_pick_f rfl (by conv => lhs; whnf)) rfl ?_
            refine lst_done ?_
            refine goes_true rfl ?_
            refine goes_seq ?_
            refine goes_region ?_
            refine lst_run (run_assign (by conv => lhs; whnf)) rfl ?_
            refine lst_run (run_assign (by conv => lhs; whnf)) rfl ?_
            refine lst_done ?_
            refine goes_ret2 Tryz.func6 rfl (by conv => lhs; whnf) (by conv => lhs; whnf) ?_
            have e : refProgramM l = ([], 1) := by
              unfold refProgramM
              have hz := refProg_none hne (by rw [hcl, hbd]; exact .inr hok)
              dsimp only at hz
              rw [if_neg h2000, hi, hz]
              rfl
            rw [e]
            exact ⟨_, rfl, ((St.dropL (L := O2) (St.dropL (L := VH3) hS.drop.drop)).forget (F' := F) fun ψ hψ => by simp [hψ]).learn fun w _ => hno w⟩
          | true =>
            have hclt : l1.tail.length < (x0 :: r0).length := by
              have := refClause_lt ⟨x0 :: r0, vars0, false⟩ (by rw [hcl, hbd])
              rw [hcl, hbd] at this
              exact this
            have hst := refProg_step hne (by rw [hcl, hbd]; dsimp only; intro h; rcases h with h | h; cases h; rw [hok] at h; cases h)
            rw [hcl, hbd] at hst
            dsimp only at hst
            refine lst_guard rfl rfl ?_
            refine lst_run (rfl) rfl ?_
            first
              | refine lst_run (run_pick_t rfl (by conv => lhs; whnf)) rfl ?_
              | refine lst_run (run_pick_f rfl (by conv => lhs; whnf)) rfl ?_
            refine lst_done ?_
            refine goes_false rfl ?_
            refine goes_skip ?_
            refine goes_region ?_
            refine lst_run (run_move (by conv => lhs; whnf)) rfl ?_
            first
              | refine lst_run (run_loadN_own (k := 6) hS rfl rfl rfl (by first | exact .head | exact .tail .head | exact .tail (.tail .head) | exact .tail (.tail (.tail .head)) | exact .tail (.tail (.tail (.tail .head))) | exact .tail (.tail (.tail (.tail (.tail .head))))) (by repeat constructor)) rfl ?_
              | refine lst_run (run_load6 rfl rfl rfl (by first | assumption | exact hS.cell0 (by assumption)) (by first | assumption | exact hS.cell0 (by assumption)) (by first | assumption | exact hS.cell0 (by assumption)) (by first | assumption | exact hS.cell0 (by assumption)) (by first | assumption | exact hS.cell0 (by assumption)) (by first | assumption | exact hS.cell0 (by assumption))) rfl ?_
            refine lst_buildSlice (cells := [_, _, _, _, _, _]) hS (.cons (by conv => lhs; whnf) .nil) rfl rfl ?_
            clear hS
            intro b3 wx7 hS
            refine lst_app (sz := 6) (bts := 88) hS (by conv => lhs; whnf) rfl rfl rfl rfl (hR2) rfl rfl (.cons _ (List.perm_append_comm_assoc (_ :: _ :: VH3) O2 H)) (by omega) (by omega) rfl ?_
            clear hS
            intro v9 O9 w9 hR9 hS
            replace hS := (hS.perm (List.perm_append_comm_assoc O9 (_ :: _ :: VH3) H)).conv2 (ψ := fun w => Sl w (fun _ => True) (.slice A3 nd.ar.length c3) nd.ar ∧ Sl w (fun _ => True) (.slice none ((tsOf []) : Ts).length 0) (tsOf [])) fun w h1 h2 => ⟨h2, h1⟩
            replace hS := hS.conv2 (ψ := fun w => ClCells w (D ++ [⟨nd.k, nd.n, ⟨nd.s.toArray⟩, nd.ar, (tsOf []), (vars1.length : Nat)⟩]) (xs2 ++ [.int .i64 nd.k, .int .i64 nd.n, sv nd.s, .slice A3 nd.ar.length c3, .slice none ((tsOf []) : Ts).length 0, .int .i64 (vars1.length : Nat)])) fun w h1 h2 => h2.app ⟨_, _, [], rfl, h1.1, h1.2, rfl⟩
            obtain ⟨A9, c9, rfl⟩ := hR9.form
            refine lst_run (run_assign (by conv => lhs; whnf)) rfl ?_
            refine lst_done ?_
            refine goes_inBlock ?_
            refine ih ((D ++ [⟨nd.k, nd.n, ⟨nd.s.toArray⟩, nd.ar, (tsOf []), (vars1.length : Nat)⟩], ⟨l1.tail, vars1, false⟩)) _ _ _ ?_ ?_ (by conv => lhs; whnf) (by kernel_rfl)
            · exact hclt
            · refine ⟨L7, _, VH3, O9, _, hL7, hV3, ?_, hS.drop, rfl, ?_, ?_⟩
              · simp only [List.length_append, List.length_cons, List.length_nil]; exact hR9
              · simp only [List.length_append, List.length_cons, List.length_nil]; omega
              · rw [hi, hst]; simp [Option.map_map, Function.comp_def]
end
end Go.Proofs.YtdiophafmokfiaaGreatDoor
