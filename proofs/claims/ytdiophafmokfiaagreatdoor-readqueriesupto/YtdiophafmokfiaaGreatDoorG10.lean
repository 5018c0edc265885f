/- RefW6, RefW7, RefP1, RefP2: texts that follow one another, laid into one file. -/
import Derived.Test.YtdiophafmokfiaaGreatDoorG9
import Derived.Test.YtdiophafmokfiaaGreatDoorG5
import Derived.Lib.ItoaLen
import Derived.Lib.ItoaMem
import Derived.Ground.NamesProg
import Derived.Shelf.Strings.OnBuilder
namespace Go.Proofs.YtdiophafmokfiaaGreatDoor
open Go.RowKit Go.Shelf
set_option linter.unusedVariables false
set_option linter.unusedSimpArgs false
set_option maxRecDepth 100000
set_option maxHeartbeats 1000000

/-- No more nodes than words. -/
def FewN (f : PS → Nd × PS) : Prop := ∀ p, (f p).1.ar.nodes + (f p).2.l.length ≤ p.l.length
theorem refLoop_fewN {f : PS → Nd × PS} (hf : FewN f) : ∀ (n : Nat) (p : PS), (tsOf (refLoop f n p).1).nodes + (refLoop f n p).2.l.length ≤ p.l.length
  | 0, p => by simp [refLoop, tsOf, Ts.nodes]
  | n + 1, p => by
    unfold refLoop
    split
    · rename_i h
      have h1 := (has_pop h.2).1
      have h2 := hf p.pop
      have h3 := refLoop_fewN hf n (f p.pop).2
      simp only [tsOf, Ts.nodes]
      omega
    · simp [tsOf, Ts.nodes]
theorem refTerms_fewN {f : PS → Nd × PS} (hf : FewN f) (t : Str) (p : PS) : (tsOf (refTerms f t p).1).nodes + (refTerms f t p).2.l.length ≤ p.l.length + 1 := by
  have h1 := refLoop_fewN hf (f p).2.l.length (f p).2
  have h2 := hf p
  have h3 := close_le (refLoop f (f p).2.l.length (f p).2).2 t
  simp only [refTerms, tsOf, Ts.nodes]
  omega
theorem refTerm_fewN : ∀ d, FewN (refTerm d)
  | 0, p => by simp [refTerm, Nd.zero, Ts.nodes, PS.spoil]
  | d + 1, p => by
    unfold refTerm
    split
    · simp [Nd.zero, Ts.nodes, PS.spoil]
    · simp [Nd.zero, Ts.nodes, PS.spoil]
    · rename_i c r q hl
      have h1 : p.pop.l.length + 1 = p.l.length := by simp [PS.pop, hl]
      split
      · simp only [Ts.nodes]; omega
      split
      · simp only [Ts.nodes]; rw [(pvar_l _ _).1]; omega
      split
      · simp only [Ts.nodes]; omega
      split
      · simp [Nd.zero, Ts.nodes, PS.spoil]
      split
      · rename_i hp
        have h2 := refTerms_fewN (refTerm_fewN d) [41] p.pop.pop
        have h3 := (has_pop hp).1
        simp only; omega
      · simp only [Ts.nodes]; omega
theorem wordsF_len : ∀ (n : Nat) (l : Str), (wordsF n l).length ≤ l.length
  | 0, l => by simp [wordsF]
  | n + 1, [] => by simp [wordsF]
  | n + 1, c :: r => by
    unfold wordsF
    split
    · have := wordsF_len n r; simp; omega
    split
    · simp
    · rename_i h
      have := wordsF_len n ((c :: r).drop (wordLen (c :: r)))
      rw [List.length_drop] at this
      simp at this ⊢; omega
theorem words_len (l : Str) : (wordsM l).length ≤ l.length := wordsF_len _ _
theorem bodyN (p : PS) : (tsOf (refBody p).1).nodes ≤ p.l.length + 1 := by
  unfold refBody
  split
  · have h1 := refTerms_fewN (refTerm_fewN 24) [46] p.pop
    have h2 := pop_le p
    unfold refGoals
    omega
  · simp [tsOf, Ts.nodes]
section
variable {M : List Nat} {w0 : World} {H : List (Nat × Obj)} {F : List (World → Prop)}
theorem readProgram_any (l : Str) (w : World) (hl0 : l.length ≤ 1125899906842624) (hS : St M w0 H F w) :
    Calls Tryz.prog 6 #[sv l] w fun e w' => ∃ v, e = .returned (.tuple #[v, .int .i64 (refProgramM l).2]) ∧ St M w0 H ((fun w => SlC w (fun _ => True) v (refProgramM l).1) :: F) w' := by
  have hno : ∀ w, SlC w (fun _ => True) (.slice none 0 0) [] := fun w => ⟨none, 0, rfl, Nat.le_refl _, fun h => by cases h⟩
  have hnil : ∀ w : World, Sl w (fun _ => True) (.slice none 0 0) .nil := fun w => ⟨none, 0, rfl, Nat.le_refl _, fun h => by cases h⟩
  by_cases h2000 : 2000 < l.length
  · have e : refProgramM l = ([], 3) := by unfold refProgramM; rw [if_pos h2000]
    rw [e]
    refine goes_enter1 Tryz.func6 rfl Tryz.ntmps6 rfl ?_
    refine goes_seq ?_
    refine goes_region ?_
    refine lst_run (run_assign (by conv => lhs; whnf)) rfl ?_
    refine lst_run (run_assign (by conv => lhs; whnf)) rfl ?_
    refine lst_done ?_
    refine goes_seq ?_
    refine goes_seq ?_
    refine goes_region ?_
    refine lst_run (run_move (by conv => lhs; whnf)) rfl ?_
    refine lst_run (run_len_str rfl rfl rfl) rfl ?_
    first
      | refine lst_run (run_gtr_yes rfl rfl (by omega)) rfl ?_
      | refine lst_run (run_gtr_no rfl rfl (by omega)) rfl ?_
      | refine lst_run (rfl) rfl ?_
    refine lst_done ?_
    refine goes_true rfl ?_
    refine goes_seq ?_
    refine goes_region ?_
    refine lst_run (run_assign (by conv => lhs; whnf)) rfl ?_
    refine lst_run (run_assign (by conv => lhs; whnf)) rfl ?_
    refine lst_done ?_
    refine goes_ret2 Tryz.func6 rfl (by conv => lhs; whnf) (by conv => lhs; whnf) ?_
    exact ⟨_, rfl, hS.learn fun w _ => hno w⟩
  have hwl := words_len l
  refine goes_enter1 Tryz.func6 rfl Tryz.ntmps6 rfl ?_
  refine goes_seq ?_
  refine goes_region ?_
  refine lst_run (run_assign (by conv => lhs; whnf)) rfl ?_
  refine lst_run (run_assign (by conv => lhs; whnf)) rfl ?_
  refine lst_done ?_
  refine goes_seq ?_
  refine goes_seq ?_
  refine goes_region ?_
  refine lst_run (run_move (by conv => lhs; whnf)) rfl ?_
  refine lst_run (run_len_str rfl rfl rfl) rfl ?_
  first
    | refine lst_run (run_gtr_yes rfl rfl (by omega)) rfl ?_
    | refine lst_run (run_gtr_no rfl rfl (by omega)) rfl ?_
    | refine lst_run (rfl) rfl ?_
  refine lst_done ?_
  refine goes_false rfl ?_
  refine goes_skip ?_
  refine goes_seq ?_
  refine goes_region ?_
  refine lst_run (run_move (by conv => lhs; whnf)) rfl ?_
  refine lst_enter (run_call (by kernel_rfl) (args_1 (by conv => lhs; whnf))) rfl ?_
  refine Calls.mono (words_any l _ (by omega) hS) ?_
  rintro _ w1 ⟨v1, O1, rfl, hR1, hS'⟩
  refine ⟨_, rfl, ?_⟩
  obtain ⟨φ, hL1, hS⟩ := St.shutS hR1 hS'
  clear hS' hR1
  obtain ⟨A1, c1, rfl, hc1⟩ := hL1.form
  refine lst_run (run_build (cells := [_, _, _]) (.cons (by conv => lhs; whnf) .nil) rfl) rfl ?_
  refine lst_box hS rfl rfl ?_
  clear hS
  intro b1 wx1 hS
  refine lst_run (run_assign (by conv => lhs; whnf)) rfl ?_
  refine lst_done ?_
  refine goes_seq ?_
  refine goes_region ?_
  refine lst_run (run_assign (by conv => lhs; whnf)) rfl ?_
  refine lst_done ?_
  refine goes_seq ?_
  refine goes_block ?_
  refine goes_loop1 5 (14 :: 15 :: 16 :: 17 :: 18 :: 19 :: 20 :: 21 :: 22 :: 23 :: 24 :: 25 :: 6 :: 26 :: 27 :: 28 :: 29 :: 30 :: 31 :: 32 :: 33 :: 34 :: 35 :: 36 :: 37 :: 38 :: 39 :: 40 :: 41 :: 42 :: 43 :: 44 :: 45 :: 46 :: 47 :: 48 :: 49 :: 50 :: 51 :: 52 :: 53 :: 54 :: 55 :: 56 :: 57 :: 58 :: 59 :: 60 :: 61 :: 62 :: 63 :: 64 :: 2 :: 3 :: 65 :: 66 :: 67 :: 68 :: []) (fun (x : List Cl × PS) v w' => ∃ L V VH O xs, Sx φ L x.2.l ∧ Vars x.2.vars V VH ∧ Row 44 6 v x.1.length xs O ∧ St M w0 ((b1, psr L V false) :: (VH ++ (O ++ H))) ((fun w => ClCells w x.1 xs) :: φ :: F) w' ∧ x.2.bad = false ∧ x.1.length + x.2.l.length ≤ 2000 ∧ refProg (PS.start l).l.length (PS.start l) = (refProg x.2.l.length x.2).map (x.1 ++ ·)) (fun x => x.2.l.length) (([], PS.start l)) ?_ (by conv => lhs; whnf) ?_
  · exact ⟨_, _, [], [], [], hL1, Row.nil_, Row.nil_, hS.learn (fun _ _ => rfl), rfl, by show 0 + (wordsM l).length ≤ _; omega, by simp⟩
  clear hS hL1
  rintro ⟨D, p0⟩ v2 w2 jv ⟨L2, V2, VH2, O2, xs2, hL2, hV2, hR2, hS, hbad, hD1, hi⟩ ih
  obtain ⟨l0, vars0, bad0⟩ := p0
  dsimp only at hL2 hV2 hR2 hS hbad hD1 hi
  subst hbad
  obtain ⟨A2, c2, rfl, hc2⟩ := hL2.form
  obtain ⟨Av, cv, rfl⟩ := hV2.form
  obtain ⟨Ao, co, rfl⟩ := hR2.form
  cases l0 with
  | nil =>
    have hz := refProg_nil (p := ⟨[], vars0, false⟩) rfl
    dsimp only at hz
    rw [hz] at hi
    simp only [Option.map_some, List.append_nil] at hi
    by_cases h24 : 24 < D.length
    · have e : refProgramM l = ([], 3) := by unfold refProgramM; rw [if_neg h2000, hi]; simp only [if_pos h24]
      rw [e]
      refine goes_seq ?_
      refine goes_seq ?_
      refine goes_region ?_
      refine lst_run (run_move (by conv => lhs; whnf)) rfl ?_
      refine lst_run (run_nilCheck rfl) rfl ?_
      refine lst_run (run_fieldAddr (off := 0) rfl rfl) rfl ?_
      first
        | refine lst_run (run_load1_own hS rfl rfl (by first | exact .head | exact .tail .head | exact .tail (.tail .head) | exact .tail (.tail (.tail .head)) | exact .tail (.tail (.tail (.tail .head))) | exact .tail (.tail (.tail (.tail (.tail .head))))) (by repeat constructor)) rfl ?_
        | refine lst_run (run_load1 rfl rfl (by first | assumption | exact hS.cell0 (by assumption) | exact lv_next hS | exact lv_list hS)) rfl ?_
      refine lst_run (run_len_slice rfl rfl rfl) rfl ?_
      first
        | refine lst_run (run_gtr_yes rfl rfl (by omega)) rfl ?_
        | refine lst_run (run_gtr_no rfl rfl (by omega)) rfl ?_
        | refine lst_run (rfl) rfl ?_
      refine lst_done ?_
      refine goes_false rfl ?_
      refine goes_exit rfl ?_
      refine goes_seq ?_
      refine goes_seq ?_
      refine goes_region ?_
      refine lst_run (run_move (by conv => lhs; whnf)) rfl ?_
      refine lst_run (run_len_slice rfl rfl rfl) rfl ?_
      first
        | refine lst_run (run_gtr_yes rfl rfl (by omega)) rfl ?_
        | refine lst_run (run_gtr_no rfl rfl (by omega)) rfl ?_
        | refine lst_run (rfl) rfl ?_
      refine lst_done ?_
      refine goes_true rfl ?_
      refine goes_seq ?_
      refine goes_region ?_
      refine lst_run (run_assign (by conv => lhs; whnf)) rfl ?_
      refine lst_run (run_assign (by conv => lhs; whnf)) rfl ?_
      refine lst_done ?_
      refine goes_ret2 Tryz.func6 rfl (by conv => lhs; whnf) (by conv => lhs; whnf) ?_
      exact ⟨_, rfl, (St.dropL (L := O2) (St.dropL (L := VH2) hS.drop)).unlearn.unlearn.learn fun w _ => hno w⟩
    · have e : refProgramM l = (D, 0) := by unfold refProgramM; rw [if_neg h2000, hi]; simp only [if_neg h24]
      rw [e]
      refine goes_seq ?_
      refine goes_seq ?_
      refine goes_region ?_
      refine lst_run (run_move (by conv => lhs; whnf)) rfl ?_
      refine lst_run (run_nilCheck rfl) rfl ?_
      refine lst_run (run_fieldAddr (off := 0) rfl rfl) rfl ?_
      first
        | refine lst_run (run_load1_own hS rfl rfl (by first | exact .head | exact .tail .head | exact .tail (.tail .head) | exact .tail (.tail (.tail .head)) | exact .tail (.tail (.tail (.tail .head))) | exact .tail (.tail (.tail (.tail (.tail .head))))) (by repeat constructor)) rfl ?_
        | refine lst_run (run_load1 rfl rfl (by first | assumption | exact hS.cell0 (by assumption) | exact lv_next hS | exact lv_list hS)) rfl ?_
      refine lst_run (run_len_slice rfl rfl rfl) rfl ?_
      first
        | refine lst_run (run_gtr_yes rfl rfl (by omega)) rfl ?_
        | refine lst_run (run_gtr_no rfl rfl (by omega)) rfl ?_
        | refine lst_run (rfl) rfl ?_
      refine lst_done ?_
      refine goes_false rfl ?_
      refine goes_exit rfl ?_
      refine goes_seq ?_
      refine goes_seq ?_
      refine goes_region ?_
      refine lst_run (run_move (by conv => lhs; whnf)) rfl ?_
      refine lst_run (run_len_slice rfl rfl rfl) rfl ?_
      first
        | refine lst_run (run_gtr_yes rfl rfl (by omega)) rfl ?_
        | refine lst_run (run_gtr_no rfl rfl (by omega)) rfl ?_
        | refine lst_run (rfl) rfl ?_
      refine lst_done ?_
      refine goes_false rfl ?_
      refine goes_skip ?_
      refine goes_seq ?_
      refine goes_region ?_
      refine lst_run (run_move (by conv => lhs; whnf)) rfl ?_
      refine lst_run (run_assign (by conv => lhs; whnf)) rfl ?_
      refine lst_run (run_assign (by conv => lhs; whnf)) rfl ?_
      refine lst_done ?_
      refine goes_ret2 Tryz.func6 rfl (by conv => lhs; whnf) (by conv => lhs; whnf) ?_
      refine ⟨_, rfl, ?_⟩
      have hq := St.shutC hR2 (St.dropL (L := VH2) hS.drop)
      exact hq.forget fun ψ hψ => by
        rcases List.mem_cons.1 hψ with rfl | hψ
        · exact .head _
        · exact .tail _ (.tail _ hψ)
  | cons x0 r0 =>
    have hne : (PS.mk (x0 :: r0) vars0 false).l ≠ [] := by simp
    simp only [List.length_cons] at hc2
    have hlt0 : (x0 :: r0).length = r0.length + 1 := rfl
    have hcl : refClause ⟨x0 :: r0, vars0, false⟩ = (⟨(refTerm 24 ⟨x0 :: r0, [], false⟩).1.k, (refTerm 24 ⟨x0 :: r0, [], false⟩).1.n, ⟨(refTerm 24 ⟨x0 :: r0, [], false⟩).1.s.toArray⟩, (refTerm 24 ⟨x0 :: r0, [], false⟩).1.ar, tsOf (refBody (refTerm 24 ⟨x0 :: r0, [], false⟩).2).1, ((refBody (refTerm 24 ⟨x0 :: r0, [], false⟩).2).2.vars.length : Nat)⟩, (refBody (refTerm 24 ⟨x0 :: r0, [], false⟩).2).2) := rfl
    have hles := refTerm_le 24 ⟨x0 :: r0, [], false⟩
    have hfew := refTerm_few 24 ⟨x0 :: r0, [], false⟩
    have hfn := refTerm_fewN 24 ⟨x0 :: r0, [], false⟩
    dsimp only at hles hfew hfn
    simp only [List.length_nil, Nat.zero_add] at hfew
    refine goes_seq ?_
    refine goes_seq ?_
    refine goes_region ?_
    refine lst_run (run_move (by conv => lhs; whnf)) rfl ?_
    refine lst_run (run_nilCheck rfl) rfl ?_
    refine lst_run (run_fieldAddr (off := 0) rfl rfl) rfl ?_
    first
      | refine lst_run (run_load1_own hS rfl rfl (by first | exact .head | exact .tail .head | exact .tail (.tail .head) | exact .tail (.tail (.tail .head)) | exact .tail (.tail (.tail (.tail .head))) | exact .tail (.tail (.tail (.tail (.tail .head))))) (by repeat constructor)) rfl ?_
      | refine lst_run (run_load1 rfl rfl (by first | assumption | exact hS.cell0 (by assumption) | exact lv_next hS | exact lv_list hS)) rfl ?_
    refine lst_run (run_len_slice rfl rfl rfl) rfl ?_
    first
      | refine lst_run (run_gtr_yes rfl rfl (by omega)) rfl ?_
      | refine lst_run (run_gtr_no rfl rfl (by omega)) rfl ?_
      | refine lst_run (rfl) rfl ?_
    refine lst_done ?_
    refine goes_true rfl ?_
    refine goes_skip ?_
    refine goes_block ?_
    refine goes_seq ?_
    refine goes_region ?_
    refine lst_run (run_move (by conv => lhs; whnf)) rfl ?_
    refine lst_run (run_nilCheck rfl) rfl ?_
    refine lst_run (run_fieldAddr (off := 1) rfl rfl) rfl ?_
    refine lst_store1 hS rfl (by conv => lhs; whnf) rfl rfl (by first | exact .head | exact .tail .head | exact .tail (.tail .head) | exact .tail (.tail (.tail .head)) | exact .tail (.tail (.tail (.tail .head))) | exact .tail (.tail (.tail (.tail (.tail .head))))) (by repeat constructor) (by first | exact .head | exact .tail .head | exact .tail (.tail .head) | exact .tail (.tail (.tail .head)) | exact .tail (.tail (.tail (.tail .head))) | exact .tail (.tail (.tail (.tail (.tail .head))))) ?_
    clear hS
    intro wx2 hS
    refine lst_done ?_
    refine goes_seq ?_
    refine goes_region ?_
    refine lst_run (run_move (by conv => lhs; whnf)) rfl ?_
    replace hS := St.dropMid (L := VH2) hS
    refine lst_enter (run_call (by kernel_rfl) (args_2 (by conv => lhs; whnf) (by conv => lhs; whnf))) rfl ?_
    refine Calls.mono (pterm24 ⟨x0 :: r0, [], false⟩ _ _ [] M w0 _ (O2 ++ H) _ b1 φ (.tail _ (.head _)) (by show (x0 :: r0).length ≤ _; omega) (by show 0 + (x0 :: r0).length ≤ _; omega) hL2 Row.nil_ hS) ?_
    rintro _ w3 ⟨u, L3, V3, VH3, rfl, hL3, hV3, hS'⟩
    refine ⟨_, rfl, ?_⟩
    replace hS := hS'
    clear hS'
    obtain ⟨A3, c3, rfl, _⟩ := (hS.fact (.head _)).form
    generalize refTerm 24 ⟨x0 :: r0, [], false⟩ = r3 at *
    obtain ⟨nd, p1⟩ := r3
    obtain ⟨l1, vars1, bad1⟩ := p1
    dsimp only at *
    have hbn := bodyN ⟨l1, vars1, bad1⟩
    dsimp only at hbn
    obtain ⟨Av3, cv3, rfl⟩ := hV3.form
    refine lst_run (run_build (cells := [_, _, _, _, _, _]) (.cons (by conv => lhs; whnf) .nil) rfl) rfl ?_
    refine lst_alloc (cs := [_, _, _, _, _, _]) hS rfl rfl rfl ?_
    clear hS
    intro b2 wx3 hS
    refine lst_storeN hS rfl (by conv => lhs; whnf) rfl rfl (by first | exact .head | exact .tail .head | exact .tail (.tail .head) | exact .tail (.tail (.tail .head)) | exact .tail (.tail (.tail (.tail .head))) | exact .tail (.tail (.tail (.tail (.tail .head))))) (by repeat constructor) (by first | exact .head | exact .tail .head | exact .tail (.tail .head) | exact .tail (.tail (.tail .head)) | exact .tail (.tail (.tail (.tail .head))) | exact .tail (.tail (.tail (.tail (.tail .head))))) ?_
    clear hS
    intro wx4 hS
    refine lst_done ?_
    refine goes_seq ?_
    refine goes_seq ?_
    refine goes_region ?_
    refine lst_run (run_move (by conv => lhs; whnf)) rfl ?_
    refine lst_run (run_nilCheck rfl) rfl ?_
    refine lst_run (run_fieldAddr (off := 2) rfl rfl) rfl ?_
    first
      | refine lst_run (run_load1_own hS rfl rfl (by first | exact .head | exact .tail .head | exact .tail (.tail .head) | exact .tail (.tail (.tail .head)) | exact .tail (.tail (.tail (.tail .head))) | exact .tail (.tail (.tail (.tail (.tail .head))))) (by repeat constructor)) rfl ?_
      | refine lst_run (run_load1 rfl rfl (by first | assumption | exact hS.cell0 (by assumption) | exact lv_next hS | exact lv_list hS)) rfl ?_
    refine lst_run (rfl) rfl ?_
    refine lst_run (run_move (by conv => lhs; whnf)) rfl ?_
    cases bad1 with
    | true =>
      have hbd : refBody ⟨l1, vars1, true⟩ = ([], ⟨l1, vars1, true⟩) := rfl
      refine lst_pass rfl rfl rfl ?_
      refine lst_pass rfl rfl rfl ?_
      first
        | refine lst_run (run_pick_t rfl (by conv => lhs; whnf)) rfl ?_
        | refine lst_run (run_pick_f rfl (by conv => lhs; whnf)) rfl ?_
      refine lst_done ?_
      refine goes_false rfl ?_
      refine goes_region ?_
      refine lst_run (run_move (by conv => lhs; whnf)) rfl ?_
      refine lst_run (run_move (by conv => lhs; whnf)) rfl ?_
      refine lst_run (run_nilCheck rfl) rfl ?_
      refine lst_run (run_fieldAddr (off := 2) rfl rfl) rfl ?_
      first
        | refine lst_run (run_load1_own hS rfl rfl (by first | exact .head | exact .tail .head | exact .tail (.tail .head) | exact .tail (.tail (.tail .head)) | exact .tail (.tail (.tail (.tail .head))) | exact .tail (.tail (.tail (.tail (.tail .head))))) (by repeat constructor)) rfl ?_
        | refine lst_run (run_load1 rfl rfl (by first | assumption | exact hS.cell0 (by assumption) | exact lv_next hS | exact lv_list hS)) rfl ?_
      refine lst_run (run_move (by conv => lhs; whnf)) rfl ?_
      refine lst_pass rfl rfl rfl ?_
      refine lst_pass rfl rfl rfl ?_
      refine lst_pass rfl rfl rfl ?_
      first
        | refine lst_run (run_pick_t rfl (by conv => lhs; whnf)) rfl ?_
        | refine lst_run (run_pick_f rfl (by conv => lhs; whnf)) rfl ?_
      refine lst_run (run_nilCheck rfl) rfl ?_
      refine lst_run (run_fieldAddr (off := 2) rfl rfl) rfl ?_
      refine lst_store1 hS rfl (by conv => lhs; whnf) rfl rfl (by first | exact .head | exact .tail .head | exact .tail (.tail .head) | exact .tail (.tail (.tail .head)) | exact .tail (.tail (.tail (.tail .head))) | exact .tail (.tail (.tail (.tail (.tail .head))))) (by repeat constructor) (by first | exact .head | exact .tail .head | exact .tail (.tail .head) | exact .tail (.tail (.tail .head)) | exact .tail (.tail (.tail (.tail .head))) | exact .tail (.tail (.tail (.tail (.tail .head))))) ?_
      clear hS
      intro wx5 hS
      refine lst_done ?_
      refine goes_seq ?_
      refine goes_region ?_
      refine lst_run (run_move (by conv => lhs; whnf)) rfl ?_
      refine lst_run (run_nilCheck rfl) rfl ?_
      refine lst_run (run_fieldAddr (off := 1) rfl rfl) rfl ?_
      first
        | refine lst_run (run_load1_own hS rfl rfl (by first | exact .head | exact .tail .head | exact .tail (.tail .head) | exact .tail (.tail (.tail .head)) | exact .tail (.tail (.tail (.tail .head))) | exact .tail (.tail (.tail (.tail (.tail .head))))) (by repeat constructor)) rfl ?_
        | refine lst_run (run_load1 rfl rfl (by first | assumption | exact hS.cell0 (by assumption) | exact lv_next hS | exact lv_list hS)) rfl ?_
      refine lst_run (run_len_slice rfl rfl rfl) rfl ?_
      refine lst_run (run_fieldAddr (off := 5) rfl rfl) rfl ?_
      refine lst_store1 hS rfl (by conv => lhs; whnf) rfl rfl (by first | exact .head | exact .tail .head | exact .tail (.tail .head) | exact .tail (.tail (.tail .head)) | exact .tail (.tail (.tail (.tail .head))) | exact .tail (.tail (.tail (.tail (.tail .head))))) (by repeat constructor) (by first | exact .head | exact .tail .head | exact .tail (.tail .head) | exact .tail (.tail (.tail .head)) | exact .tail (.tail (.tail (.tail .head))) | exact .tail (.tail (.tail (.tail (.tail .head))))) ?_
      clear hS
      intro wx6 hS
      refine lst_done ?_
      refine goes_seq ?_
      refine goes_seq ?_
      refine goes_region ?_
      refine lst_run (run_move (by conv => lhs; whnf)) rfl ?_
      refine lst_run (run_nilCheck rfl) rfl ?_
      refine lst_run (run_fieldAddr (off := 2) rfl rfl) rfl ?_
      first
        | refine lst_run (run_load1_own hS rfl rfl (by first | exact .head | exact .tail .head | exact .tail (.tail .head) | exact .tail (.tail (.tail .head)) | exact .tail (.tail (.tail (.tail .head))) | exact .tail (.tail (.tail (.tail (.tail .head))))) (by repeat constructor)) rfl ?_
        | refine lst_run (run_load1 rfl rfl (by first | assumption | exact hS.cell0 (by assumption) | exact lv_next hS | exact lv_list hS)) rfl ?_
      refine lst_run (run_move (by conv => lhs; whnf)) rfl ?_
      refine lst_pass rfl rfl rfl ?_
      refine lst_pass rfl rfl rfl ?_
      refine lst_pass rfl rfl rfl ?_
      first
        | refine lst_run (run_pick_t rfl (by conv => lhs; whnf)) rfl ?_
        | refine lst_run (run_pick_f rfl (by conv => lhs; whnf)) rfl ?_
      refine lst_done ?_
      refine goes_true rfl ?_
      refine goes_seq ?_
      refine goes_region ?_
      refine lst_run (run_assign (by conv => lhs; whnf)) rfl ?_
      refine lst_run (run_assign (by conv => lhs; whnf)) rfl ?_
      refine lst_done ?_
      refine goes_ret2 Tryz.func6 rfl (by conv => lhs; whnf) (by conv => lhs; whnf) ?_
      have e : refProgramM l = ([], 1) := by
        unfold refProgramM
        have hz := refProg_none hne (by rw [hcl, hbd]; exact .inl rfl)
        dsimp only at hz
        rw [if_neg h2000, hi, hz]
        rfl
      rw [e]
      exact ⟨_, rfl, ((St.dropL (L := O2) (St.dropL (L := VH3) hS.drop.drop)).forget (F' := F) fun ψ hψ => by simp [hψ]).learn fun w _ => hno w⟩
    | false =>
      cases hcm : PS.has ⟨l1, vars1, false⟩ [58, 45] with
      | true =>
        have hbd : refBody ⟨l1, vars1, false⟩ = refGoals ⟨l1.tail, vars1, false⟩ := by unfold refBody; rw [if_pos ⟨rfl, hcm⟩]; rfl
        have htk := takeP_any ⟨l1, vars1, false⟩ [58, 45] _ _ _ hL3 (.tail _ (.tail _ (.head _))) hS.swap
        rw [hcm] at htk
        simp only [if_true, PS.pop] at htk
        have hrl := (has_pop hcm).1
        dsimp only [PS.pop] at hrl
        have hgn := refTerms_fewN (refTerm_fewN 24) [46] ⟨l1.tail, vars1, false⟩
        have hgn2 : (tsOf (refGoals ⟨l1.tail, vars1, false⟩).1).nodes ≤ l1.tail.length + 1 := by unfold refGoals; dsimp only at hgn; omega
        clear hgn
        refine lst_guard rfl rfl ?_
        refine lst_run (run_move (by conv => lhs; whnf)) rfl ?_
        refine lst_guard rfl rfl ?_
        refine lst_enter (run_call (by kernel_rfl) (args_2 (by conv => lhs; whnf) (by conv => lhs; whnf))) rfl ?_
        refine Calls.mono (htk) ?_
        rintro _ w4 ⟨L5, rfl, hL5, hS'⟩
        refine ⟨_, rfl, ?_⟩
        replace hS := hS'
        clear hS'
        replace hS := hS.swap
        first
          | refine lst_run (run_pick_t rfl (by conv => lhs; whnf)) rfl ?_
          | refine lst_run (run_pick_f rfl (by conv => lhs; whnf)) rfl ?_
        refine lst_done ?_
        refine goes_true rfl ?_
        refine goes_region ?_
        refine lst_run (run_move (by conv => lhs; whnf)) rfl ?_
        refine lst_enter (run_call (by kernel_rfl) (args_1 (by conv => lhs; whnf))) rfl ?_
        refine Calls.mono (goals_any ⟨l1.tail, vars1, false⟩ L5 _ VH3 M w0 _ _ _ b1 φ (.tail _ (.tail _ (.head _))) (by show l1.tail.length ≤ _; omega) (by show vars1.length + l1.tail.length ≤ _; omega) hL5 hV3 hS.sink1) ?_
        rintro _ w5 ⟨v, L7, V7, VH7, rfl, hL7, hV7, hS'⟩
        refine ⟨_, rfl, ?_⟩
        replace hS := hS'.raise1
        clear hS' htk
        obtain ⟨A7, c7, rfl, _⟩ := (hS.fact (.head _)).form
        generalize refGoals ⟨l1.tail, vars1, false⟩ = q7 at *
        obtain ⟨Bl, l7, vars7, bad7⟩ := q7
        dsimp only at *
        obtain ⟨Av7, cv7, rfl⟩ := hV7.form
        cases bad7 with
        | true =>
          refine lst_run (run_fieldAddr (off := 4) rfl rfl) rfl ?_
          refine lst_store1 hS rfl (by conv => lhs; whnf) rfl rfl (by first | exact .head | exact .tail .head | exact .tail (.tail .head) | exact .tail (.tail (.tail .head)) | exact .tail (.tail (.tail (.tail .head))) | exact .tail (.tail (.tail (.tail (.tail .head))))) (by repeat constructor) (by first | exact .head | exact .tail .head | exact .tail (.tail .head) | exact .tail (.tail (.tail .head)) | exact .tail (.tail (.tail (.tail .head))) | exact .tail (.tail (.tail (.tail (.tail .head))))) ?_
          clear hS
          intro wx5 hS
          refine lst_done ?_
          refine goes_seq ?_
          refine goes_region ?_
          refine lst_run (run_move (by conv => lhs; whnf)) rfl ?_
          refine lst_run (run_nilCheck rfl) rfl ?_
          refine lst_run (run_fieldAddr (off := 1) rfl rfl) rfl ?_
          first
            | refine lst_run (run_load1_own hS rfl rfl (by first | exact .head | exact .tail .head | exact .tail (.tail .head) | exact .tail (.tail (.tail .head)) | exact .tail (.tail (.tail (.tail .head))) | exact .tail (.tail (.tail (.tail (.tail .head))))) (by repeat constructor)) rfl ?_
            | refine lst_run (run_load1 rfl rfl (by first | assumption | exact hS.cell0 (by assumption) | exact lv_next hS | exact lv_list hS)) rfl ?_
          refine lst_run (run_len_slice rfl rfl rfl) rfl ?_
          refine lst_run (run_fieldAddr (off := 5) rfl rfl) rfl ?_
          refine lst_store1 hS rfl (by conv => lhs; whnf) rfl rfl (by first | exact .head | exact .tail .head | exact .tail (.tail .head) | exact .tail (.tail (.tail .head)) | exact .tail (.tail (.tail (.tail .head))) | exact .tail (.tail (.tail (.tail (.tail .head))))) (by repeat constructor) (by first | exact .head | exact .tail .head | exact .tail (.tail .head) | exact .tail (.tail (.tail .head)) | exact .tail (.tail (.tail (.tail .head))) | exact .tail (.tail (.tail (.tail (.tail .head))))) ?_
          clear hS
          intro wx6 hS
          refine lst_done ?_
          refine goes_seq ?_
          refine goes_seq ?_
          refine goes_region ?_
          refine lst_run (run_move (by conv => lhs; whnf)) rfl ?_
          refine lst_run (run_nilCheck rfl) rfl ?_
          refine lst_run (run_fieldAddr (off := 2) rfl rfl) rfl ?_
          first
            | refine lst_run (run_load1_own hS rfl rfl (by first | exact .head | exact .tail .head | exact .tail (.tail .head) | exact .tail (.tail (.tail .head)) | exact .tail (.tail (.tail (.tail .head))) | exact .tail (.tail (.tail (.tail (.tail .head))))) (by repeat constructor)) rfl ?_
            | refine lst_run (run_load1 rfl rfl (by first | assumption | exact hS.cell0 (by assumption) | exact lv_next hS | exact lv_list hS)) rfl ?_
          refine lst_run (run_move (by conv => lhs; whnf)) rfl ?_
          refine lst_pass rfl rfl rfl ?_
          refine lst_pass rfl rfl rfl ?_
          refine lst_pass rfl rfl rfl ?_
          first
            | refine lst_run (run_pick_t rfl (by conv => lhs; whnf)) rfl ?_
            | refine lst_run (run_pick_f rfl (by conv => lhs; whnf)) rfl ?_
          refine lst_done ?_
          refine goes_true rfl ?_
          refine goes_seq ?_
          refine goes_region ?_
          refine lst_run (run_assign (by conv => lhs; whnf)) rfl ?_
          refine lst_run (run_assign (by conv => lhs; whnf)) rfl ?_
          refine lst_done ?_
          refine goes_ret2 Tryz.func6 rfl (by conv => lhs; whnf) (by conv => lhs; whnf) ?_
          have e : refProgramM l = ([], 1) := by
            unfold refProgramM
            have hz := refProg_none hne (by rw [hcl, hbd]; exact .inl rfl)
            dsimp only at hz
            rw [if_neg h2000, hi, hz]
            rfl
          rw [e]
          exact ⟨_, rfl, ((St.dropL (L := O2) (St.dropL (L := VH7) hS.drop.drop)).forget (F' := F) fun ψ hψ => by simp [hψ]).learn fun w _ => hno w⟩
        | false =>
          refine lst_run (run_fieldAddr (off := 4) rfl rfl) rfl ?_
          refine lst_store1 hS rfl (by conv => lhs; whnf) rfl rfl (by first | exact .head | exact .tail .head | exact .tail (.tail .head) | exact .tail (.tail (.tail .head)) | exact .tail (.tail (.tail (.tail .head))) | exact .tail (.tail (.tail (.tail (.tail .head))))) (by repeat constructor) (by first | exact .head | exact .tail .head | exact .tail (.tail .head) | exact .tail (.tail (.tail .head)) | exact .tail (.tail (.tail (.tail .head))) | exact .tail (.tail (.tail (.tail (.tail .head))))) ?_
          clear hS
          intro wx5 hS
          refine lst_done ?_
          refine goes_seq ?_
          refine goes_region ?_
          refine lst_run (run_move (by conv => lhs; whnf)) rfl ?_
          refine lst_run (run_nilCheck rfl) rfl ?_
          refine lst_run (run_fieldAddr (off := 1) rfl rfl) rfl ?_
          first
            | refine lst_run (run_load1_own hS rfl rfl (by first | exact .head | exact .tail .head | exact .tail (.tail .head) | exact .tail (.tail (.tail .head)) | exact .tail (.tail (.tail (.tail .head))) | exact .tail (.tail (.tail (.tail (.tail .head))))) (by repeat constructor)) rfl ?_
            | refine lst_run (run_load1 rfl rfl (by first | assumption | exact hS.cell0 (by assumption) | exact lv_next hS | exact lv_list hS)) rfl ?_
          refine lst_run (run_len_slice rfl rfl rfl) rfl ?_
          refine lst_run (run_fieldAddr (off := 5) rfl rfl) rfl ?_
          refine lst_store1 hS rfl (by conv => lhs; whnf) rfl rfl (by first | exact .head | exact .tail .head | exact .tail (.tail .head) | exact .tail (.tail (.tail .head)) | exact .tail (.tail (.tail (.tail .head))) | exact .tail (.tail (.tail (.tail (.tail .head))))) (by repeat constructor) (by first | exact .head | exact .tail .head | exact .tail (.tail .head) | exact .tail (.tail (.tail .head)) | exact .tail (.tail (.tail (.tail .head))) | exact .tail (.tail (.tail (.tail (.tail .head))))) ?_
          clear hS
          intro wx6 hS
          refine lst_done ?_
          refine goes_seq ?_
          refine goes_seq ?_
          refine goes_region ?_
          refine lst_run (run_move (by conv => lhs; whnf)) rfl ?_
          refine lst_run (run_nilCheck rfl) rfl ?_
          refine lst_run (run_fieldAddr (off := 2) rfl rfl) rfl ?_
          first
            | refine lst_run (run_load1_own hS rfl rfl (by first | exact .head | exact .tail .head | exact .tail (.tail .head) | exact .tail (.tail (.tail .head)) | exact .tail (.tail (.tail (.tail .head))) | exact .tail (.tail (.tail (.tail (.tail .head))))) (by repeat constructor)) rfl ?_
            | refine lst_run (run_load1 rfl rfl (by first | assumption | exact hS.cell0 (by assumption) | exact lv_next hS | exact lv_list hS)) rfl ?_
          refine lst_run (run_move (by conv => lhs; whnf)) rfl ?_
          refine lst_guard rfl rfl ?_
          first
            | refine lst_run (run_loadN_own (k := 6) hS rfl rfl rfl (by first | exact .head | exact .tail .head | exact .tail (.tail .head) | exact .tail (.tail (.tail .head)) | exact .tail (.tail (.tail (.tail .head))) | exact .tail (.tail (.tail (.tail (.tail .head))))) (by repeat constructor)) rfl ?_
            | refine lst_run (run_load6 rfl rfl rfl (by first | assumption | exact hS.cell0 (by assumption)) (by first | assumption | exact hS.cell0 (by assumption)) (by first | assumption | exact hS.cell0 (by assumption)) (by first | assumption | exact hS.cell0 (by assumption)) (by first | assumption | exact hS.cell0 (by assumption)) (by first | assumption | exact hS.cell0 (by assumption))) rfl ?_
          refine lst_guard rfl rfl ?_
          have hg := isClause_any ⟨nd.k, nd.n, ⟨nd.s.toArray⟩, nd.ar, (tsOf Bl), (vars7.length : Nat)⟩ _ _ _ (hS.fact (.tail _ (.head _))) (hS.fact (.head _)) (by simp only; omega) (by simp only; omega)
          refine lst_enter (run_call (by kernel_rfl) (args_1 (by conv => lhs; whnf))) rfl ?_
          refine Calls.mono hg ?_
          rintro _ w8 ⟨rfl, hb8⟩
          refine ⟨_, rfl, ?_⟩
          replace hS := hS.grow hb8
          cases hok : cB ⟨nd.k, nd.n, ⟨nd.s.toArray⟩, nd.ar, (tsOf Bl), (vars7.length : Nat)⟩ with
          | false =>
            refine lst_guard rfl rfl ?_
            refine lst_run (rfl) rfl ?_
            first
              | refine lst_run (run_pick_t rfl (by conv => lhs; whnf)) rfl ?_
              | refine lst_run (run_pick_f rfl (by conv => lhs; whnf)) rfl ?_
            refine lst_done ?_
            refine goes_true rfl ?_
            refine goes_seq ?_
            refine goes_region ?_
            refine lst_run (run_assign (by conv => lhs; whnf)) rfl ?_
            refine lst_run (run_assign (by conv => lhs; whnf)) rfl ?_
            refine lst_done ?_
            refine goes_ret2 Tryz.func6 rfl (by conv => lhs; whnf) (by conv => lhs; whnf) ?_
            have e : refProgramM l = ([], 1) := by
              unfold refProgramM
              have hz := refProg_none hne (by rw [hcl, hbd]; exact .inr hok)
              dsimp only at hz
              rw [if_neg h2000, hi, hz]
              rfl
            rw [e]
            exact ⟨_, rfl, ((St.dropL (L := O2) (St.dropL (L := VH7) hS.drop.drop)).forget (F' := F) fun ψ hψ => by simp [hψ]).learn fun w _ => hno w⟩
          | true =>
            have hclt : l7.length < (x0 :: r0).length := by
              have := refClause_lt ⟨x0 :: r0, vars0, false⟩ (by rw [hcl, hbd])
              rw [hcl, hbd] at this
              exact this
            have hst := refProg_step hne (by rw [hcl, hbd]; dsimp only; intro h; rcases h with h | h; cases h; rw [hok] at h; cases h)
            rw [hcl, hbd] at hst
            dsimp only at hst
            refine lst_guard rfl rfl ?_
            refine lst_run (rfl) rfl ?_
            first
              | refine lst_run (run_pick_t rfl (by conv => lhs; whnf)) rfl ?_
              | refine lst_run (run_pick_f rfl (by conv => lhs; whnf)) rfl ?_
            refine lst_done ?_
            refine goes_false rfl ?_
            refine goes_skip ?_
            refine goes_region ?_
            refine lst_run (run_move (by conv => lhs; whnf)) rfl ?_
            first
              | refine lst_run (run_loadN_own (k := 6) hS rfl rfl rfl (by first | exact .head | exact .tail .head | exact .tail (.tail .head) | exact .tail (.tail (.tail .head)) | exact .tail (.tail (.tail (.tail .head))) | exact .tail (.tail (.tail (.tail (.tail .head))))) (by repeat constructor)) rfl ?_
              | refine lst_run (run_load6 rfl rfl rfl (by first | assumption | exact hS.cell0 (by assumption)) (by first | assumption | exact hS.cell0 (by assumption)) (by first | assumption | exact hS.cell0 (by assumption)) (by first | assumption | exact hS.cell0 (by assumption)) (by first | assumption | exact hS.cell0 (by assumption)) (by first | assumption | exact hS.cell0 (by assumption))) rfl ?_
            refine lst_buildSlice (cells := [_, _, _, _, _, _]) hS (.cons (by conv => lhs; whnf) .nil) rfl rfl ?_
            clear hS
            intro b3 wx7 hS
            refine lst_app (sz := 6) (bts := 88) hS (by conv => lhs; whnf) rfl rfl rfl rfl (hR2) rfl rfl (.cons _ (List.perm_append_comm_assoc (_ :: _ :: VH7) O2 H)) (by omega) (by omega) rfl ?_
            clear hS
            intro v9 O9 w9 hR9 hS
            replace hS := (hS.perm (List.perm_append_comm_assoc O9 (_ :: _ :: VH7) H)).conv2 (ψ := fun w => Sl w (fun _ => True) (.slice A3 nd.ar.length c3) nd.ar ∧ Sl w (fun _ => True) (.slice A7 ((tsOf Bl) : Ts).length c7) (tsOf Bl)) fun w h1 h2 => ⟨h2, h1⟩
            replace hS := hS.conv2 (ψ := fun w => ClCells w (D ++ [⟨nd.k, nd.n, ⟨nd.s.toArray⟩, nd.ar, (tsOf Bl), (vars7.length : Nat)⟩]) (xs2 ++ [.int .i64 nd.k, .int .i64 nd.n, sv nd.s, .slice A3 nd.ar.length c3, .slice A7 ((tsOf Bl) : Ts).length c7, .int .i64 (vars7.length : Nat)])) fun w h1 h2 => h2.app ⟨_, _, [], rfl, h1.1, h1.2, rfl⟩
            obtain ⟨A9, c9, rfl⟩ := hR9.form
            refine lst_run (run_assign (by conv => lhs; whnf)) rfl ?_
            refine lst_done ?_
            refine goes_inBlock ?_
            refine ih ((D ++ [⟨nd.k, nd.n, ⟨nd.s.toArray⟩, nd.ar, (tsOf Bl), (vars7.length : Nat)⟩], ⟨l7, vars7, false⟩)) _ _ _ ?_ ?_ (by conv => lhs; whnf) (by kernel_rfl)
            · exact hclt
            · refine ⟨L7, _, VH7, O9, _, hL7, hV7, ?_, hS.drop, rfl, ?_, ?_⟩
              · simp only [List.length_append, List.length_cons, List.length_nil]; exact hR9
              · simp only [List.length_append, List.length_cons, List.length_nil]; omega
              · rw [hi, hst]; simp [Option.map_map, Function.comp_def]
      | false =>
        have hbd0 : refBody ⟨l1, vars1, false⟩ = ([], PS.close ⟨l1, vars1, false⟩ [46]) := by unfold refBody; rw [if_neg (by simp [hcm])]
        have htk := takeP_any ⟨l1, vars1, false⟩ [58, 45] _ _ _ hL3 (.tail _ (.tail _ (.head _))) hS.swap
        rw [hcm] at htk
        simp only [Bool.false_eq_true, if_false] at htk
        refine lst_guard rfl rfl ?_
        refine lst_run (run_move (by conv => lhs; whnf)) rfl ?_
        refine lst_guard rfl rfl ?_
        refine lst_enter (run_call (by kernel_rfl) (args_2 (by conv => lhs; whnf) (by conv => lhs; whnf))) rfl ?_
        refine Calls.mono (htk) ?_
        rintro _ w4 ⟨L5, rfl, hL5, hS'⟩
        refine ⟨_, rfl, ?_⟩
        replace hS := hS'
        clear hS'
        replace hS := hS.swap
        first
          | refine lst_run (run_pick_t rfl (by conv => lhs; whnf)) rfl ?_
          | refine lst_run (run_pick_f rfl (by conv => lhs; whnf)) rfl ?_
        refine lst_done ?_
        refine goes_false rfl ?_
        refine goes_region ?_
        refine lst_run (run_move (by conv => lhs; whnf)) rfl ?_
        refine lst_run (run_move (by conv => lhs; whnf)) rfl ?_
        refine lst_run (run_nilCheck rfl) rfl ?_
        refine lst_run (run_fieldAddr (off := 2) rfl rfl) rfl ?_
        first
          | refine lst_run (run_load1_own hS rfl rfl (by first | exact .head | exact .tail .head | exact .tail (.tail .head) | exact .tail (.tail (.tail .head)) | exact .tail (.tail (.tail (.tail .head))) | exact .tail (.tail (.tail (.tail (.tail .head))))) (by repeat constructor)) rfl ?_
          | refine lst_run (run_load1 rfl rfl (by first | assumption | exact hS.cell0 (by assumption) | exact lv_next hS | exact lv_list hS)) rfl ?_
        refine lst_run (run_move (by conv => lhs; whnf)) rfl ?_
        refine lst_guard rfl rfl ?_
        refine lst_run (run_move (by conv => lhs; whnf)) rfl ?_
        refine lst_guard rfl rfl ?_
        have htk2 := takeP_any ⟨l1, vars1, false⟩ [46] _ _ _ hL5 (.tail _ (.tail _ (.head _))) hS.swap
        cases hcl2 : PS.has ⟨l1, vars1, false⟩ [46] with
        | false =>
          have hbd : refBody ⟨l1, vars1, false⟩ = ([], ⟨l1, vars1, true⟩) := by rw [hbd0]; unfold PS.close; rw [if_neg (by simp), if_neg (by simp [hcl2])]; rfl
          rw [hcl2] at htk2
          simp only [Bool.false_eq_true, if_false] at htk2
          refine lst_enter (run_call (by kernel_rfl) (args_2 (by conv => lhs; whnf) (by conv => lhs; whnf))) rfl ?_
          refine Calls.mono (htk2) ?_
          rintro _ w5 ⟨L7, rfl, hL7, hS'⟩
          refine ⟨_, rfl, ?_⟩
          replace hS := hS'
          clear hS'
          replace hS := hS.swap
          refine lst_guard rfl rfl ?_
          refine lst_run (rfl) rfl ?_
          first
            | refine lst_run (run_pick_t rfl (by conv => lhs; whnf)) rfl ?_
            | refine lst_run (run_pick_f rfl (by conv => lhs; whnf)) rfl ?_
          refine lst_run (run_nilCheck rfl) rfl ?_
          refine lst_run (run_fieldAddr (off := 2) rfl rfl) rfl ?_
          refine lst_store1 hS rfl (by conv => lhs; whnf) rfl rfl (by first | exact .head | exact .tail .head | exact .tail (.tail .head) | exact .tail (.tail (.tail .head)) | exact .tail (.tail (.tail (.tail .head))) | exact .tail (.tail (.tail (.tail (.tail .head))))) (by repeat constructor) (by first | exact .head | exact .tail .head | exact .tail (.tail .head) | exact .tail (.tail (.tail .head)) | exact .tail (.tail (.tail (.tail .head))) | exact .tail (.tail (.tail (.tail (.tail .head))))) ?_
          clear hS
          intro wx5 hS
          refine lst_done ?_
          refine goes_seq ?_
          refine goes_region ?_
          refine lst_run (run_move (by conv => lhs; whnf)) rfl ?_
          refine lst_run (run_nilCheck rfl) rfl ?_
          refine lst_run (run_fieldAddr (off := 1) rfl rfl) rfl ?_
          first
            | refine lst_run (run_load1_own hS rfl rfl (by first | exact .head | exact .tail .head | exact .tail (.tail .head) | exact .tail (.tail (.tail .head)) | exact .tail (.tail (.tail (.tail .head))) | exact .tail (.tail (.tail (.tail (.tail .head))))) (by repeat constructor)) rfl ?_
            | refine lst_run (run_load1 rfl rfl (by first | assumption | exact hS.cell0 (by assumption) | exact lv_next hS | exact lv_list hS)) rfl ?_
          refine lst_run (run_len_slice rfl rfl rfl) rfl ?_
          refine lst_run (run_fieldAddr (off := 5) rfl rfl) rfl ?_
          refine lst_store1 hS rfl (by conv => lhs; whnf) rfl rfl (by first | exact .head | exact .tail .head | exact .tail (.tail .head) | exact .tail (.tail (.tail .head)) | exact .tail (.tail (.tail (.tail .head))) | exact .tail (.tail (.tail (.tail (.tail .head))))) (by repeat constructor) (by first | exact .head | exact .tail .head | exact .tail (.tail .head) | exact .tail (.tail (.tail .head)) | exact .tail (.tail (.tail (.tail .head))) | exact .tail (.tail (.tail (.tail (.tail .head))))) ?_
          clear hS
          intro wx6 hS
          refine lst_done ?_
          refine goes_seq ?_
          refine goes_seq ?_
          refine goes_region ?_
          refine lst_run (run_move (by conv => lhs; whnf)) rfl ?_
          refine lst_run (run_nilCheck rfl) rfl ?_
          refine lst_run (run_fieldAddr (off := 2) rfl rfl) rfl ?_
          first
            | refine lst_run (run_load1_own hS rfl rfl (by first | exact .head | exact .tail .head | exact .tail (.tail .head) | exact .tail (.tail (.tail .head)) | exact .tail (.tail (.tail (.tail .head))) | exact .tail (.tail (.tail (.tail (.tail .head))))) (by repeat constructor)) rfl ?_
            | refine lst_run (run_load1 rfl rfl (by first | assumption | exact hS.cell0 (by assumption) | exact lv_next hS | exact lv_list hS)) rfl ?_
          refine lst_run (run_move (by conv => lhs; whnf)) rfl ?_
          refine lst_pass rfl rfl rfl ?_
          refine lst_pass rfl rfl rfl ?_
          refine lst_pass rfl rfl rfl ?_
          first
            | refine lst_run (run_pick_t rfl (by conv => lhs; whnf)) rfl ?_
            | refine lst_run (run_pick_f rfl (by conv => lhs; whnf)) rfl ?_
          refine lst_done ?_
          refine goes_true rfl ?_
          refine goes_seq ?_
          refine goes_region ?_
          refine lst_run (run_assign (by conv => lhs; whnf)) rfl ?_
          refine lst_run (run_assign (by conv => lhs; whnf)) rfl ?_
          refine lst_done ?_
          refine goes_ret2 Tryz.func6 rfl (by conv => lhs; whnf) (by conv => lhs; whnf) ?_
          have e : refProgramM l = ([], 1) := by
            unfold refProgramM
            have hz := refProg_none hne (by rw [hcl, hbd]; exact .inl rfl)
            dsimp only at hz
            rw [if_neg h2000, hi, hz]
            rfl
          rw [e]
          exact ⟨_, rfl, ((St.dropL (L := O2) (St.dropL (L := VH3) hS.drop.drop)).forget (F' := F) fun ψ hψ => by simp [hψ]).learn fun w _ => hno w⟩
        | true =>
          have hbd : refBody ⟨l1, vars1, false⟩ = ([], ⟨l1.tail, vars1, false⟩) := by rw [hbd0]; unfold PS.close; rw [if_neg (by simp), if_pos hcl2]; rfl
          rw [hcl2] at htk2
          simp only [if_true, PS.pop] at htk2
          have hnn : (tsOf ([] : List Nd)).nodes = 0 := rfl
          refine lst_enter (run_call (by kernel_rfl) (args_2 (by conv => lhs; whnf) (by conv => lhs; whnf))) rfl ?_
          refine Calls.mono (htk2) ?_
          rintro _ w5 ⟨L7, rfl, hL7, hS'⟩
          refine ⟨_, rfl, ?_⟩
          replace hS := hS'
          clear hS'
          replace hS := hS.swap.learn (φ := fun w => Sl w (fun _ => True) (.slice none 0 0) (tsOf [])) fun w _ => hnil w
          refine lst_guard rfl rfl ?_
          refine lst_run (rfl) rfl ?_
          first
            | refine lst_run (run_pick_t rfl (by conv => lhs; whnf)) rfl ?_
            | refine lst_run (run_pick_f rfl (by conv => lhs; whnf)) rfl ?_
          refine lst_run (run_nilCheck rfl) rfl ?_
          refine lst_run (run_fieldAddr (off := 2) rfl rfl) rfl ?_
          refine lst_store1 hS rfl (by conv => lhs; whnf) rfl rfl (by first | exact .head | exact .tail .head | exact .tail (.tail .head) | exact .tail (.tail (.tail .head)) | exact .tail (.tail (.tail (.tail .head))) | exact .tail (.tail (.tail (.tail (.tail .head))))) (by repeat constructor) (by first | exact .head | exact .tail .head | exact .tail (.tail .head) | exact .tail (.tail (.tail .head)) | exact .tail (.tail (.tail (.tail .head))) | exact .tail (.tail (.tail (.tail (.tail .head))))) ?_
          clear hS
          intro wx5 hS
          refine lst_done ?_
          refine goes_seq ?_
          refine goes_region ?_
          refine lst_run (run_move (by conv => lhs; whnf)) rfl ?_
          refine lst_run (run_nilCheck rfl) rfl ?_
          refine lst_run (run_fieldAddr (off := 1) rfl rfl) rfl ?_
          first
            | refine lst_run (run_load1_own hS rfl rfl (by first | exact .head | exact .tail .head | exact .tail (.tail .head) | exact .tail (.tail (.tail .head)) | exact .tail (.tail (.tail (.tail .head))) | exact .tail (.tail (.tail (.tail (.tail .head))))) (by repeat constructor)) rfl ?_
            | refine lst_run (run_load1 rfl rfl (by first | assumption | exact hS.cell0 (by assumption) | exact lv_next hS | exact lv_list hS)) rfl ?_
          refine lst_run (run_len_slice rfl rfl rfl) rfl ?_
          refine lst_run (run_fieldAddr (off := 5) rfl rfl) rfl ?_
          refine lst_store1 hS rfl (by conv => lhs; whnf) rfl rfl (by first | exact .head | exact .tail .head | exact .tail (.tail .head) | exact .tail (.tail (.tail .head)) | exact .tail (.tail (.tail (.tail .head))) | exact .tail (.tail (.tail (.tail (.tail .head))))) (by repeat constructor) (by first | exact .head | exact .tail .head | exact .tail (.tail .head) | exact .tail (.tail (.tail .head)) | exact .tail (.tail (.tail (.tail .head))) | exact .tail (.tail (.tail (.tail (.tail .head))))) ?_
          clear hS
          intro wx6 hS
          refine lst_done ?_
          refine goes_seq ?_
          refine goes_seq ?_
          refine goes_region ?_
          refine lst_run (run_move (by conv => lhs; whnf)) rfl ?_
          refine lst_run (run_nilCheck rfl) rfl ?_
          refine lst_run (run_fieldAddr (off := 2) rfl rfl) rfl ?_
          first
            | refine lst_run (run_load1_own hS rfl rfl (by first | exact .head | exact .tail .head | exact .tail (.tail .head) | exact .tail (.tail (.tail .head)) | exact .tail (.tail (.tail (.tail .head))) | exact .tail (.tail (.tail (.tail (.tail .head))))) (by repeat constructor)) rfl ?_
            | refine lst_run (run_load1 rfl rfl (by first | assumption | exact hS.cell0 (by assumption) | exact lv_next hS | exact lv_list hS)) rfl ?_
          refine lst_run (run_move (by conv => lhs; whnf)) rfl ?_
          refine lst_guard rfl rfl ?_
          first
            | refine lst_run (run_loadN_own (k := 6) hS rfl rfl rfl (by first | exact .head | exact .tail .head | exact .tail (.tail .head) | exact .tail (.tail (.tail .head)) | exact .tail (.tail (.tail (.tail .head))) | exact .tail (.tail (.tail (.tail (.tail .head))))) (by repeat constructor)) rfl ?_
            | refine lst_run (run_load6 rfl rfl rfl (by first | assumption | exact hS.cell0 (by assumption)) (by first | assumption | exact hS.cell0 (by assumption)) (by first | assumption | exact hS.cell0 (by assumption)) (by first | assumption | exact hS.cell0 (by assumption)) (by first | assumption | exact hS.cell0 (by assumption)) (by first | assumption | exact hS.cell0 (by assumption))) rfl ?_
          refine lst_guard rfl rfl ?_
          have hg := isClause_any ⟨nd.k, nd.n, ⟨nd.s.toArray⟩, nd.ar, (tsOf []), (vars1.length : Nat)⟩ _ _ _ (hS.fact (.tail _ (.head _))) (hS.fact (.head _)) (by simp only; omega) (by simp only; omega)
          refine lst_enter (run_call (by kernel_rfl) (args_1 (by conv => lhs; whnf))) rfl ?_
          refine Calls.mono hg ?_
          rintro _ w8 ⟨rfl, hb8⟩
          refine ⟨_, rfl, ?_⟩
          replace hS := hS.grow hb8
          cases hok : cB ⟨nd.k, nd.n, ⟨nd.s.toArray⟩, nd.ar, (tsOf []), (vars1.length : Nat)⟩ with
          | false =>
            refine lst_guard rfl rfl ?_
            refine lst_run (rfl) rfl ?_
            first
              | refine lst_run (run_pick_t rfl (by conv => lhs; whnf)) rfl ?_
              | refine lst_run (run_pick_f rfl (by conv => lhs; whnf)) rfl ?_
            refine lst_done ?_
            refine goes_true rfl ?_
            refine goes_seq ?_
            refine goes_region ?_
            refine lst_run (run_assign (by conv => lhs; whnf)) rfl ?_
            refine lst_run (run_assign (by conv => lhs; whnf)) rfl ?_
            refine lst_done ?_
            refine goes_ret2 Tryz.func6 rfl (by conv => lhs; whnf) (by conv => lhs; whnf) ?_
            have e : refProgramM l = ([], 1) := by
              unfold refProgramM
              have hz := refProg_none hne (by rw [hcl, hbd]; exact .inr hok)
              dsimp only at hz
              rw [if_neg h2000, hi, hz]
              rfl
            rw [e]
            exact ⟨_, rfl, ((St.dropL (L := O2) (St.dropL (L := VH3) hS.drop.drop)).forget (F' := F) fun ψ hψ => by simp [hψ]).learn fun w _ => hno w⟩
          | true =>
            have hclt : l1.tail.length < (x0 :: r0).length := by
              have := refClause_lt ⟨x0 :: r0, vars0, false⟩ (by rw [hcl, hbd])
              rw [hcl, hbd] at this
              exact this
            have hst := refProg_step hne (by rw [hcl, hbd]; dsimp only; intro h; rcases h with h | h; cases h; rw [hok] at h; cases h)
            rw [hcl, hbd] at hst
            dsimp only at hst
            refine lst_guard rfl rfl ?_
            refine lst_run (rfl) rfl ?_
            first
              | refine lst_run (run_pick_t rfl (by conv => lhs; whnf)) rfl ?_
              | refine lst_run (run_pick_f rfl (by conv => lhs; whnf)) rfl ?_
            refine lst_done ?_
            refine goes_false rfl ?_
            refine goes_skip ?_
            refine goes_region ?_
            refine lst_run (run_move (by conv => lhs; whnf)) rfl ?_
            first
              | refine lst_run (run_loadN_own (k := 6) hS rfl rfl rfl (by first | exact .head | exact .tail .head | exact .tail (.tail .head) | exact .tail (.tail (.tail .head)) | exact .tail (.tail (.tail (.tail .head))) | exact .tail (.tail (.tail (.tail (.tail .head))))) (by repeat constructor)) rfl ?_
              | refine lst_run (run_load6 rfl rfl rfl (by first | assumption | exact hS.cell0 (by assumption)) (by first | assumption | exact hS.cell0 (by assumption)) (by first | assumption | exact hS.cell0 (by assumption)) (by first | assumption | exact hS.cell0 (by assumption)) (by first | assumption | exact hS.cell0 (by assumption)) (by first | assumption | exact hS.cell0 (by assumption))) rfl ?_
            refine lst_buildSlice (cells := [_, _, _, _, _, _]) hS (.cons (by conv => lhs; whnf) .nil) rfl rfl ?_
            clear hS
            intro b3 wx7 hS
            refine lst_app (sz := 6) (bts := 88) hS (by conv => lhs; whnf) rfl rfl rfl rfl (hR2) rfl rfl (.cons _ (List.perm_append_comm_assoc (_ :: _ :: VH3) O2 H)) (by omega) (by omega) rfl ?_
            clear hS
            intro v9 O9 w9 hR9 hS
            replace hS := (hS.perm (List.perm_append_comm_assoc O9 (_ :: _ :: VH3) H)).conv2 (ψ := fun w => Sl w (fun _ => True) (.slice A3 nd.ar.length c3) nd.ar ∧ Sl w (fun _ => True) (.slice none ((tsOf []) : Ts).length 0) (tsOf [])) fun w h1 h2 => ⟨h2, h1⟩
            replace hS := hS.conv2 (ψ := fun w => ClCells w (D ++ [⟨nd.k, nd.n, ⟨nd.s.toArray⟩, nd.ar, (tsOf []), (vars1.length : Nat)⟩]) (xs2 ++ [.int .i64 nd.k, .int .i64 nd.n, sv nd.s, .slice A3 nd.ar.length c3, .slice none ((tsOf []) : Ts).length 0, .int .i64 (vars1.length : Nat)])) fun w h1 h2 => h2.app ⟨_, _, [], rfl, h1.1, h1.2, rfl⟩
            obtain ⟨A9, c9, rfl⟩ := hR9.form
            refine lst_run (run_assign (by conv => lhs; whnf)) rfl ?_
            refine lst_done ?_
            refine goes_inBlock ?_
            refine ih ((D ++ [⟨nd.k, nd.n, ⟨nd.s.toArray⟩, nd.ar, (tsOf []), (vars1.length : Nat)⟩], ⟨l1.tail, vars1, false⟩)) _ _ _ ?_ ?_ (by conv => lhs; whnf) (by kernel_rfl)
            · exact hclt
            · refine ⟨L7, _, VH3, O9, _, hL7, hV3, ?_, hS.drop, rfl, ?_, ?_⟩
              · simp only [List.length_append, List.length_cons, List.length_nil]; exact hR9
              · simp only [List.length_append, List.length_cons, List.length_nil]; omega
              · rw [hi, hst]; simp [Option.map_map, Function.comp_def]
end
end Go.Proofs.YtdiophafmokfiaaGreatDoor
namespace Go.Proofs.YtdiophafmokfiaaGreatDoor
open Go.RowKit Go.Shelf
set_option linter.unusedVariables false
set_option linter.unusedSimpArgs false
set_option maxRecDepth 100000
set_option maxHeartbeats 1000000

section
variable {M : List Nat} {w0 : World} {H : List (Nat × Obj)} {F : List (World → Prop)}
theorem readQuery_any (l : Str) (w : World) (hl0 : l.length ≤ 1125899906842624) (hS : St M w0 H F w) :
    Calls Tryz.prog 10 #[sv l] w fun e w' => ∃ v, e = .returned (.tuple #[v, .int .i64 ((refQueryM l).2.1 : Nat), .int .i64 (refQueryM l).2.2]) ∧ St M w0 H ((fun w => Sl w (fun _ => True) v (refQueryM l).1) :: F) w' := by
  have hnil : ∀ w : World, Sl w (fun _ => True) (.slice none 0 0) .nil := fun w => ⟨none, 0, rfl, Nat.le_refl _, fun h => by cases h⟩
  by_cases h2000 : 2000 < l.length
  · have e : refQueryM l = (.nil, 0, 3) := by unfold refQueryM; rw [if_pos h2000]
    rw [e]
    refine goes_enter1 Tryz.func10 rfl Tryz.ntmps10 rfl ?_
    refine goes_seq ?_
    refine goes_region ?_
    refine lst_run (run_assign (by conv => lhs; whnf)) rfl ?_
    refine lst_run (run_assign (by conv => lhs; whnf)) rfl ?_
    refine lst_run (run_assign (by conv => lhs; whnf)) rfl ?_
    refine lst_done ?_
    refine goes_seq ?_
    refine goes_seq ?_
    refine goes_region ?_
    refine lst_run (run_move (by conv => lhs; whnf)) rfl ?_
    refine lst_run (run_len_str rfl rfl rfl) rfl ?_
    first
      | refine lst_run (run_gtr_yes rfl rfl (by omega)) rfl ?_
      | refine lst_run (run_gtr_no rfl rfl (by omega)) rfl ?_
      | refine lst_run (rfl) rfl ?_
    refine lst_done ?_
    refine goes_true rfl ?_
    refine goes_seq ?_
    refine goes_region ?_
    refine lst_run (run_assign (by conv => lhs; whnf)) rfl ?_
    refine lst_run (run_assign (by conv => lhs; whnf)) rfl ?_
    refine lst_run (run_assign (by conv => lhs; whnf)) rfl ?_
    refine lst_done ?_
    refine goes_ret3 Tryz.func10 rfl (by conv => lhs; whnf) (by conv => lhs; whnf) (by conv => lhs; whnf) ?_
    exact ⟨_, rfl, hS.learn fun w _ => hnil w⟩
  have hwl := words_len l
  refine goes_enter1 Tryz.func10 rfl Tryz.ntmps10 rfl ?_
  refine goes_seq ?_
  refine goes_region ?_
  refine lst_run (run_assign (by conv => lhs; whnf)) rfl ?_
  refine lst_run (run_assign (by conv => lhs; whnf)) rfl ?_
  refine lst_run (run_assign (by conv => lhs; whnf)) rfl ?_
  refine lst_done ?_
  refine goes_seq ?_
  refine goes_seq ?_
  refine goes_region ?_
  refine lst_run (run_move (by conv => lhs; whnf)) rfl ?_
  refine lst_run (run_len_str rfl rfl rfl) rfl ?_
  first
    | refine lst_run (run_gtr_yes rfl rfl (by omega)) rfl ?_
    | refine lst_run (run_gtr_no rfl rfl (by omega)) rfl ?_
    | refine lst_run (rfl) rfl ?_
  refine lst_done ?_
  refine goes_false rfl ?_
  refine goes_skip ?_
  refine goes_seq ?_
  refine goes_region ?_
  refine lst_run (run_move (by conv => lhs; whnf)) rfl ?_
  refine lst_enter (run_call (by kernel_rfl) (args_1 (by conv => lhs; whnf))) rfl ?_
  refine Calls.mono (words_any l _ (by omega) hS) ?_
  rintro _ w1 ⟨v1, O1, rfl, hR1, hS'⟩
  refine ⟨_, rfl, ?_⟩
  obtain ⟨φ, hL1, hS⟩ := St.shutS hR1 hS'
  clear hS' hR1
  obtain ⟨A1, c1, rfl, hc1⟩ := hL1.form
  refine lst_run (run_build (cells := [_, _, _]) (.cons (by conv => lhs; whnf) .nil) rfl) rfl ?_
  refine lst_box hS rfl rfl ?_
  clear hS
  intro b1 wx1 hS
  refine lst_run (run_assign (by conv => lhs; whnf)) rfl ?_
  refine lst_done ?_
  refine goes_seq ?_
  refine goes_region ?_
  refine lst_run (run_move (by conv => lhs; whnf)) rfl ?_
  refine lst_enter (run_call (by kernel_rfl) (args_1 (by conv => lhs; whnf))) rfl ?_
  refine Calls.mono (goals_any (PS.start l) _ _ [] M w0 _ H _ b1 φ (.head _) (by show (wordsM l).length ≤ _; omega) (by show 0 + (wordsM l).length ≤ _; omega) hL1 Row.nil_ hS) ?_
  rintro _ w3 ⟨v, L3, V3, VH3, rfl, hL3, hV3, hS'⟩
  refine ⟨_, rfl, ?_⟩
  replace hS := hS'
  clear hS'
  obtain ⟨A3, c3, rfl, _⟩ := (hS.fact (.head _)).form
  have hgn := refTerms_fewN (refTerm_fewN 24) [46] (PS.start l)
  have hgn2 : (tsOf (refGoals (PS.start l)).1).nodes ≤ 2001 := by
    unfold refGoals
    have : (PS.start l).l.length = (wordsM l).length := rfl
    omega
  clear hgn
  have e0 : refQueryM l = if (refGoals (PS.start l)).2.bad = true ∨ (refGoals (PS.start l)).2.l ≠ [] ∨ qB ((refGoals (PS.start l)).2.vars.length : Nat) (tsOf (refGoals (PS.start l)).1) = false then (.nil, 0, 1) else (tsOf (refGoals (PS.start l)).1, (refGoals (PS.start l)).2.vars.length, 0) := by unfold refQueryM; rw [if_neg h2000]
  generalize refGoals (PS.start l) = g at *
  obtain ⟨Bl, l7, vars7, bad7⟩ := g
  dsimp only at *
  obtain ⟨Av7, cv7, rfl⟩ := hV3.form
  obtain ⟨A7, c7, rfl, hc7⟩ := hL3.form
  have hout : ∀ (w' : World) (X : Nat × Obj), St M w0 (X :: (VH3 ++ H)) ((fun w => Sl w (fun _ => True) (.slice A3 (tsOf Bl).length c3) (tsOf Bl)) :: φ :: F) w' → St M w0 H ((fun w => Sl w (fun _ => True) (.slice none 0 0) .nil) :: F) w' := fun w' X h =>
    ((St.dropL (L := VH3) h.drop).forget (F' := F) fun ψ hψ => by simp [hψ]).learn fun w _ => hnil w
  cases bad7 with
  | true =>
    rw [if_pos (.inl rfl)] at e0
    rw [e0]
    refine lst_run (run_assign (by conv => lhs; whnf)) rfl ?_
    refine lst_done ?_
    refine goes_seq ?_
    refine goes_seq ?_
    refine goes_region ?_
    refine lst_run (run_move (by conv => lhs; whnf)) rfl ?_
    refine lst_run (run_nilCheck rfl) rfl ?_
    refine lst_run (run_fieldAddr (off := 2) rfl rfl) rfl ?_
    first
      | refine lst_run (run_load1_own hS rfl rfl (by first | exact .head | exact .tail .head | exact .tail (.tail .head) | exact .tail (.tail (.tail .head)) | exact .tail (.tail (.tail (.tail .head))) | exact .tail (.tail (.tail (.tail (.tail .head))))) (by repeat constructor)) rfl ?_
      | refine lst_run (run_load1 rfl rfl (by first | assumption | exact hS.cell0 (by assumption) | exact lv_next hS | exact lv_list hS)) rfl ?_
    refine lst_run (run_move (by conv => lhs; whnf)) rfl ?_
    refine lst_pass rfl rfl rfl ?_
    refine lst_pass rfl rfl rfl ?_
    refine lst_pass rfl rfl rfl ?_
    refine lst_pass rfl rfl rfl ?_
    refine lst_pass rfl rfl rfl ?_
    refine lst_pass rfl rfl rfl ?_
    first
      | refine lst_run (run_pick_t rfl (by conv => lhs; whnf)) rfl ?_
      | refine lst_run (run_pick_f rfl (by conv => lhs; whnf)) rfl ?_
    refine lst_run (run_move (by conv => lhs; whnf)) rfl ?_
    refine lst_pass rfl rfl rfl ?_
    refine lst_pass rfl rfl rfl ?_
    refine lst_pass rfl rfl rfl ?_
    refine lst_pass rfl rfl rfl ?_
    refine lst_pass rfl rfl rfl ?_
    refine lst_pass rfl rfl rfl ?_
    refine lst_pass rfl rfl rfl ?_
    refine lst_pass rfl rfl rfl ?_
    first
      | refine lst_run (run_pick_t rfl (by conv => lhs; whnf)) rfl ?_
      | refine lst_run (run_pick_f rfl (by conv => lhs; whnf)) rfl ?_
    refine lst_done ?_
    refine goes_true rfl ?_
    refine goes_seq ?_
    refine goes_region ?_
    refine lst_run (run_assign (by conv => lhs; whnf)) rfl ?_
    refine lst_run (run_assign (by conv => lhs; whnf)) rfl ?_
    refine lst_run (run_assign (by conv => lhs; whnf)) rfl ?_
    refine lst_done ?_
    refine goes_ret3 Tryz.func10 rfl (by conv => lhs; whnf) (by conv => lhs; whnf) (by conv => lhs; whnf) ?_
    exact ⟨_, rfl, hout _ _ hS⟩
  | false =>
    cases l7 with
    | cons x r =>
      rw [if_pos (.inr (.inl (by simp)))] at e0
      rw [e0]
      have hlt : (x :: r).length = r.length + 1 := rfl
      refine lst_run (run_assign (by conv => lhs; whnf)) rfl ?_
      refine lst_done ?_
      refine goes_seq ?_
      refine goes_seq ?_
      refine goes_region ?_
      refine lst_run (run_move (by conv => lhs; whnf)) rfl ?_
      refine lst_run (run_nilCheck rfl) rfl ?_
      refine lst_run (run_fieldAddr (off := 2) rfl rfl) rfl ?_
      first
        | refine lst_run (run_load1_own hS rfl rfl (by first | exact .head | exact .tail .head | exact .tail (.tail .head) | exact .tail (.tail (.tail .head)) | exact .tail (.tail (.tail (.tail .head))) | exact .tail (.tail (.tail (.tail (.tail .head))))) (by repeat constructor)) rfl ?_
        | refine lst_run (run_load1 rfl rfl (by first | assumption | exact hS.cell0 (by assumption) | exact lv_next hS | exact lv_list hS)) rfl ?_
      refine lst_run (run_move (by conv => lhs; whnf)) rfl ?_
      refine lst_guard rfl rfl ?_
      refine lst_run (run_move (by conv => lhs; whnf)) rfl ?_
      refine lst_guard rfl rfl ?_
      refine lst_run (run_nilCheck rfl) rfl ?_
      refine lst_guard rfl rfl ?_
      refine lst_run (run_fieldAddr (off := 0) rfl rfl) rfl ?_
      refine lst_guard rfl rfl ?_
      first
        | refine lst_run (run_load1_own hS rfl rfl (by first | exact .head | exact .tail .head | exact .tail (.tail .head) | exact .tail (.tail (.tail .head)) | exact .tail (.tail (.tail (.tail .head))) | exact .tail (.tail (.tail (.tail (.tail .head))))) (by repeat constructor)) rfl ?_
        | refine lst_run (run_load1 rfl rfl (by first | assumption | exact hS.cell0 (by assumption) | exact lv_next hS | exact lv_list hS)) rfl ?_
      refine lst_guard rfl rfl ?_
      refine lst_run (run_len_slice rfl rfl rfl) rfl ?_
      refine lst_guard rfl rfl ?_
      first
        | refine lst_run (run_gtr_yes rfl rfl (by omega)) rfl ?_
        | refine lst_run (run_gtr_no rfl rfl (by omega)) rfl ?_
        | refine lst_run (rfl) rfl ?_
      first
        | refine lst_run (run_pick_t rfl (by conv => lhs; whnf)) rfl ?_
        | refine lst_run (run_pick_f rfl (by conv => lhs; whnf)) rfl ?_
      refine lst_run (run_move (by conv => lhs; whnf)) rfl ?_
      refine lst_pass rfl rfl rfl ?_
      refine lst_pass rfl rfl rfl ?_
      refine lst_pass rfl rfl rfl ?_
      refine lst_pass rfl rfl rfl ?_
      refine lst_pass rfl rfl rfl ?_
      refine lst_pass rfl rfl rfl ?_
      refine lst_pass rfl rfl rfl ?_
      refine lst_pass rfl rfl rfl ?_
      first
        | refine lst_run (run_pick_t rfl (by conv => lhs; whnf)) rfl ?_
        | refine lst_run (run_pick_f rfl (by conv => lhs; whnf)) rfl ?_
      refine lst_done ?_
      refine goes_true rfl ?_
      refine goes_seq ?_
      refine goes_region ?_
      refine lst_run (run_assign (by conv => lhs; whnf)) rfl ?_
      refine lst_run (run_assign (by conv => lhs; whnf)) rfl ?_
      refine lst_run (run_assign (by conv => lhs; whnf)) rfl ?_
      refine lst_done ?_
      refine goes_ret3 Tryz.func10 rfl (by conv => lhs; whnf) (by conv => lhs; whnf) (by conv => lhs; whnf) ?_
      exact ⟨_, rfl, hout _ _ hS⟩
    | nil =>
      have hq := isQuery_any (vars7.length : Nat) (tsOf Bl) _ _ (hS.fact (.head _)) (by omega)
      cases hqb : qB (vars7.length : Nat) (tsOf Bl) with
      | false =>
        rw [if_pos (.inr (.inr hqb))] at e0
        rw [e0]
        rw [hqb] at hq
        refine lst_run (run_assign (by conv => lhs; whnf)) rfl ?_
        refine lst_done ?_
        refine goes_seq ?_
        refine goes_seq ?_
        refine goes_region ?_
        refine lst_run (run_move (by conv => lhs; whnf)) rfl ?_
        refine lst_run (run_nilCheck rfl) rfl ?_
        refine lst_run (run_fieldAddr (off := 2) rfl rfl) rfl ?_
        first
          | refine lst_run (run_load1_own hS rfl rfl (by first | exact .head | exact .tail .head | exact .tail (.tail .head) | exact .tail (.tail (.tail .head)) | exact .tail (.tail (.tail (.tail .head))) | exact .tail (.tail (.tail (.tail (.tail .head))))) (by repeat constructor)) rfl ?_
          | refine lst_run (run_load1 rfl rfl (by first | assumption | exact hS.cell0 (by assumption) | exact lv_next hS | exact lv_list hS)) rfl ?_
        refine lst_run (run_move (by conv => lhs; whnf)) rfl ?_
        refine lst_guard rfl rfl ?_
        refine lst_run (run_move (by conv => lhs; whnf)) rfl ?_
        refine lst_guard rfl rfl ?_
        refine lst_run (run_nilCheck rfl) rfl ?_
        refine lst_guard rfl rfl ?_
        refine lst_run (run_fieldAddr (off := 0) rfl rfl) rfl ?_
        refine lst_guard rfl rfl ?_
        first
          | refine lst_run (run_load1_own hS rfl rfl (by first | exact .head | exact .tail .head | exact .tail (.tail .head) | exact .tail (.tail (.tail .head)) | exact .tail (.tail (.tail (.tail .head))) | exact .tail (.tail (.tail (.tail (.tail .head))))) (by repeat constructor)) rfl ?_
          | refine lst_run (run_load1 rfl rfl (by first | assumption | exact hS.cell0 (by assumption) | exact lv_next hS | exact lv_list hS)) rfl ?_
        refine lst_guard rfl rfl ?_
        refine lst_run (run_len_slice rfl rfl rfl) rfl ?_
        refine lst_guard rfl rfl ?_
        first
          | refine lst_run (run_gtr_yes rfl rfl (by omega)) rfl ?_
          | refine lst_run (run_gtr_no rfl rfl (by omega)) rfl ?_
          | refine lst_run (rfl) rfl ?_
        first
          | refine lst_run (run_pick_t rfl (by conv => lhs; whnf)) rfl ?_
          | refine lst_run (run_pick_f rfl (by conv => lhs; whnf)) rfl ?_
        refine lst_run (run_move (by conv => lhs; whnf)) rfl ?_
        refine lst_guard rfl rfl ?_
        refine lst_run (run_move (by conv => lhs; whnf)) rfl ?_
        refine lst_guard rfl rfl ?_
        refine lst_run (run_move (by conv => lhs; whnf)) rfl ?_
        refine lst_guard rfl rfl ?_
        refine lst_run (run_nilCheck rfl) rfl ?_
        refine lst_guard rfl rfl ?_
        refine lst_run (run_fieldAddr (off := 1) rfl rfl) rfl ?_
        refine lst_guard rfl rfl ?_
        first
          | refine lst_run (run_load1_own hS rfl rfl (by first | exact .head | exact .tail .head | exact .tail (.tail .head) | exact .tail (.tail (.tail .head)) | exact .tail (.tail (.tail (.tail .head))) | exact .tail (.tail (.tail (.tail (.tail .head))))) (by repeat constructor)) rfl ?_
          | refine lst_run (run_load1 rfl rfl (by first | assumption | exact hS.cell0 (by assumption) | exact lv_next hS | exact lv_list hS)) rfl ?_
        refine lst_guard rfl rfl ?_
        refine lst_run (run_len_slice rfl rfl rfl) rfl ?_
        refine lst_guard rfl rfl ?_
        refine lst_enter (run_call (by kernel_rfl) (args_2 (by conv => lhs; whnf) (by conv => lhs; whnf))) rfl ?_
        refine Calls.mono (hq) ?_
        rintro _ w4 ⟨rfl, hb4⟩
        refine ⟨_, rfl, ?_⟩
        replace hS := hS.grow hb4
        refine lst_guard rfl rfl ?_
        refine lst_run (rfl) rfl ?_
        first
          | refine lst_run (run_pick_t rfl (by conv => lhs; whnf)) rfl ?_
          | refine lst_run (run_pick_f rfl (by conv => lhs; whnf)) rfl ?_
        refine lst_done ?_
        refine goes_true rfl ?_
        refine goes_seq ?_
        refine goes_region ?_
        refine lst_run (run_assign (by conv => lhs; whnf)) rfl ?_
        refine lst_run (run_assign (by conv => lhs; whnf)) rfl ?_
        refine lst_run (run_assign (by conv => lhs; whnf)) rfl ?_
        refine lst_done ?_
        refine goes_ret3 Tryz.func10 rfl (by conv => lhs; whnf) (by conv => lhs; whnf) (by conv => lhs; whnf) ?_
        exact ⟨_, rfl, hout _ _ hS⟩
      | true =>
        rw [if_neg (by simp [hqb])] at e0
        rw [e0]
        rw [hqb] at hq
        refine lst_run (run_assign (by conv => lhs; whnf)) rfl ?_
        refine lst_done ?_
        refine goes_seq ?_
        refine goes_seq ?_
        refine goes_region ?_
        refine lst_run (run_move (by conv => lhs; whnf)) rfl ?_
        refine lst_run (run_nilCheck rfl) rfl ?_
        refine lst_run (run_fieldAddr (off := 2) rfl rfl) rfl ?_
        first
          | refine lst_run (run_load1_own hS rfl rfl (by first | exact .head | exact .tail .head | exact .tail (.tail .head) | exact .tail (.tail (.tail .head)) | exact .tail (.tail (.tail (.tail .head))) | exact .tail (.tail (.tail (.tail (.tail .head))))) (by repeat constructor)) rfl ?_
          | refine lst_run (run_load1 rfl rfl (by first | assumption | exact hS.cell0 (by assumption) | exact lv_next hS | exact lv_list hS)) rfl ?_
        refine lst_run (run_move (by conv => lhs; whnf)) rfl ?_
        refine lst_guard rfl rfl ?_
        refine lst_run (run_move (by conv => lhs; whnf)) rfl ?_
        refine lst_guard rfl rfl ?_
        refine lst_run (run_nilCheck rfl) rfl ?_
        refine lst_guard rfl rfl ?_
        refine lst_run (run_fieldAddr (off := 0) rfl rfl) rfl ?_
        refine lst_guard rfl rfl ?_
        first
          | refine lst_run (run_load1_own hS rfl rfl (by first | exact .head | exact .tail .head | exact .tail (.tail .head) | exact .tail (.tail (.tail .head)) | exact .tail (.tail (.tail (.tail .head))) | exact .tail (.tail (.tail (.tail (.tail .head))))) (by repeat constructor)) rfl ?_
          | refine lst_run (run_load1 rfl rfl (by first | assumption | exact hS.cell0 (by assumption) | exact lv_next hS | exact lv_list hS)) rfl ?_
        refine lst_guard rfl rfl ?_
        refine lst_run (run_len_slice rfl rfl rfl) rfl ?_
        refine lst_guard rfl rfl ?_
        first
          | refine lst_run (run_gtr_yes rfl rfl (by omega)) rfl ?_
          | refine lst_run (run_gtr_no rfl rfl (by omega)) rfl ?_
          | refine lst_run (rfl) rfl ?_
        first
          | refine lst_run (run_pick_t rfl (by conv => lhs; whnf)) rfl ?_
          | refine lst_run (run_pick_f rfl (by conv => lhs; whnf)) rfl ?_
        refine lst_run (run_move (by conv => lhs; whnf)) rfl ?_
        refine lst_guard rfl rfl ?_
        refine lst_run (run_move (by conv => lhs; whnf)) rfl ?_
        refine lst_guard rfl rfl ?_
        refine lst_run (run_move (by conv => lhs; whnf)) rfl ?_
        refine lst_guard rfl rfl ?_
        refine lst_run (run_nilCheck rfl) rfl ?_
        refine lst_guard rfl rfl ?_
        refine lst_run (run_fieldAddr (off := 1) rfl rfl) rfl ?_
        refine lst_guard rfl rfl ?_
        first
          | refine lst_run (run_load1_own hS rfl rfl (by first | exact .head | exact .tail .head | exact .tail (.tail .head) | exact .tail (.tail (.tail .head)) | exact .tail (.tail (.tail (.tail .head))) | exact .tail (.tail (.tail (.tail (.tail .head))))) (by repeat constructor)) rfl ?_
          | refine lst_run (run_load1 rfl rfl (by first | assumption | exact hS.cell0 (by assumption) | exact lv_next hS | exact lv_list hS)) rfl ?_
        refine lst_guard rfl rfl ?_
        refine lst_run (run_len_slice rfl rfl rfl) rfl ?_
        refine lst_guard rfl rfl ?_
        refine lst_enter (run_call (by kernel_rfl) (args_2 (by conv => lhs; whnf) (by conv => lhs; whnf))) rfl ?_
        refine Calls.mono (hq) ?_
        rintro _ w4 ⟨rfl, hb4⟩
        refine ⟨_, rfl, ?_⟩
        replace hS := hS.grow hb4
        refine lst_guard rfl rfl ?_
        refine lst_run (rfl) rfl ?_
        first
          | refine lst_run (run_pick_t rfl (by conv => lhs; whnf)) rfl ?_
          | refine lst_run (run_pick_f rfl (by conv => lhs; whnf)) rfl ?_
        refine lst_done ?_
        refine goes_false rfl ?_
        refine goes_skip ?_
        refine goes_seq ?_
        refine goes_draw (St M w0 _ _) 9 ((0, true) :: (1, true) :: (2, true) :: (3, true) :: (4, true) :: (5, true) :: (6, true) :: (7, true) :: (8, true) :: []) (by kernel_rfl) (by kernel_rfl) (hS.drew) ?_
        replace hS := hS.drew
        refine ord_read rfl (fun _ hS => run_move (by conv => lhs; whnf)) rfl ?_
        refine ord_read rfl (fun _ hS => run_move (by conv => lhs; whnf)) rfl ?_
        refine ord_read rfl (fun _ hS => run_nilCheck rfl) rfl ?_
        refine ord_read rfl (fun _ hS => run_fieldAddr (off := 1) rfl rfl) rfl ?_
        first
          | refine ord_read rfl (fun _ hS => run_load1_own hS rfl rfl (by first | exact .head | exact .tail .head | exact .tail (.tail .head) | exact .tail (.tail (.tail .head)) | exact .tail (.tail (.tail (.tail .head))) | exact .tail (.tail (.tail (.tail (.tail .head))))) (by repeat constructor)) rfl ?_
          | refine ord_read rfl (fun _ hS => run_load1 rfl rfl (by first | assumption | exact hS.cell0 (by assumption) | exact lv_next hS | exact lv_list hS)) rfl ?_
        refine ord_read rfl (fun _ hS => run_len_slice rfl rfl rfl) rfl ?_
        refine ord_read rfl (fun _ hS => run_assign (by conv => lhs; whnf)) rfl ?_
        refine ord_read rfl (fun _ hS => run_assign (by conv => lhs; whnf)) rfl ?_
        refine ord_read rfl (fun _ hS => run_assign (by conv => lhs; whnf)) rfl ?_
        refine ord_end ?_
        refine lst_done ?_
        refine goes_ret3 Tryz.func10 rfl (by conv => lhs; whnf) (by conv => lhs; whnf) (by conv => lhs; whnf) ?_
        refine ⟨_, rfl, ?_⟩
        exact (St.dropL (L := VH3) hS.drop).forget fun ψ hψ => by
          rcases List.mem_cons.1 hψ with rfl | hψ
          · exact .head _
          · exact .tail _ (.tail _ hψ)
end
end Go.Proofs.YtdiophafmokfiaaGreatDoor
namespace Go.Proofs.YtdiophafmokfiaaGreatDoor
open Go.RowKit
set_option linter.unusedVariables false
set_option linter.unusedSimpArgs false
set_option maxRecDepth 100000
set_option maxHeartbeats 1000000

section
variable {P : Program} {n : Nat} {e : Env} {w : World} {ty : TypeId} {pos : String} {after : Array Edge} {dst : Option Nat} {x y : Operand} {t t2 : TypeId}
theorem run_max2 {a c m : Int} {ts : Array TypeId} (hx : ev n e x = .int .i64 a) (hy : ev n e y = .int .i64 c) (hm : m = if a < c then c else a) :
    (execOp (ev n e) ⟨dst, .call ⟨.builtin .max, #[x, y], ts⟩, ty, pos, after, none⟩).run P w = .ok (.value (.int .i64 m)) w := by
  subst hm
  simp only [execOp, resolve, List.map_toArray, List.map_cons, List.map_nil, hx, hy, bind, pure, Sem.bind, invoke, builtin, Builtin.max_, List.foldlM, Builtin.max2]
  by_cases h : a < c
  · rw [if_pos h]; simp [h, Sem.run, Sem.bind]; try rfl
  · rw [if_neg h]; simp [h, Sem.run, Sem.bind]; try rfl
theorem run_neg {a : Int} (hx : ev n e x = .int .i64 a) (h1 : -9223372036854775808 ≤ -a) (h2 : -a ≤ 9223372036854775807) :
    (execOp (ev n e) ⟨dst, .unOp .neg t x, ty, pos, after, none⟩).run P w = .ok (.value (.int .i64 (-a))) w := by
  have : (execOp (ev n e) ⟨dst, .unOp .neg t x, ty, pos, after, none⟩).run P w = .ok (.value (.int .i64 (IntKind.i64.wrap (0 - a)))) w := by simp only [execOp, hx]; rfl
  rw [this, Int.zero_sub, wrap_of h1 h2]
theorem run_quo10 {a : Int} (hx : ev n e x = .int .i64 a) (hy : ev n e y = .int .i64 10) (h1 : -9223372036854775808 ≤ a) (h2 : a ≤ 9223372036854775807) :
    (execOp (ev n e) ⟨dst, .binOp .quo t x y t2, ty, pos, after, none⟩).run P w = .ok (.value (.int .i64 (a.tdiv 10))) w := by
  have : (execOp (ev n e) ⟨dst, .binOp .quo t x y t2, ty, pos, after, none⟩).run P w = .ok (.value (.int .i64 (IntKind.i64.wrap (a.tdiv 10)))) w := by simp only [execOp, hx, hy]; rfl
  have h3 : -9223372036854775808 ≤ a.tdiv 10 ∧ a.tdiv 10 ≤ 9223372036854775807 := by
    by_cases h : a < 0
    · obtain ⟨k, rfl⟩ : ∃ k : Nat, a = -(k : Int) := ⟨a.natAbs, by omega⟩
      rw [Int.neg_tdiv, Int.tdiv_eq_ediv_of_nonneg (by omega)]; omega
    · rw [Int.tdiv_eq_ediv_of_nonneg (by omega)]; omega
  rw [this, wrap_of h3.1 h3.2]
theorem run_rem10 {a : Int} (hx : ev n e x = .int .i64 a) (hy : ev n e y = .int .i64 10) :
    (execOp (ev n e) ⟨dst, .binOp .rem t x y t2, ty, pos, after, none⟩).run P w = .ok (.value (.int .i64 (a.tmod 10))) w := by simp only [execOp, hx, hy]; rfl
end
theorem digit_take (m : Nat) (h : m < 10) : (([48, 49, 50, 51, 52, 53, 54, 55, 56, 57] : Str).take (((m : Nat) : Int) + 1).toNat).drop ((m : Nat) : Int).toNat = [UInt8.ofNat (48 + m)] := by
  have hh : ∀ i : Fin 10, (([48, 49, 50, 51, 52, 53, 54, 55, 56, 57] : Str).take (((i.val : Nat) : Int) + 1).toNat).drop ((i.val : Nat) : Int).toNat = [UInt8.ofNat (48 + i.val)] := by decide +kernel
  exact hh ⟨m, h⟩
theorem decimal_small (n : Int) (h0 : -10 < n) (h1 : n < 10) (w : World) : Calls Tryz.prog 32 #[.int .i64 n] w fun e w' => e = .returned (sv (Lib.itoa n)) ∧ w' = w := by
  have hS := St.start w
  obtain ⟨m, hm⟩ : ∃ m : Nat, (m : Int) = if n < -n then -n else n := ⟨n.natAbs, by split <;> omega⟩
  have hm10 : m < 10 := by split at hm <;> omega
  have hd := digit_take m hm10
  have hit : Lib.itoa n = if n < 0 then 45 :: [UInt8.ofNat (48 + m)] else [UInt8.ofNat (48 + m)] := by
    unfold Lib.itoa
    by_cases h : n < 0
    · rw [if_pos h, if_pos h, show n.natAbs = m by split at hm <;> omega, Lib.decDigits_one hm10]
    · rw [if_neg h, if_neg h, show n.toNat = m by split at hm <;> omega, Lib.decDigits_one hm10]
  refine goes_enter1 Tryz.func32 rfl Tryz.ntmps32 rfl ?_
  refine goes_seq ?_
  refine goes_region ?_
  refine lst_run (run_assign (by conv => lhs; whnf)) rfl ?_
  refine lst_done ?_
  refine goes_seq ?_
  refine goes_seq ?_
  refine goes_region ?_
  refine lst_run (run_move (by conv => lhs; whnf)) rfl ?_
  first
    | refine lst_run (run_gtr_yes rfl rfl (by omega)) rfl ?_
    | refine lst_run (run_gtr_no rfl rfl (by omega)) rfl ?_
    | refine lst_run (rfl) rfl ?_
  refine lst_run (run_move (by conv => lhs; whnf)) rfl ?_
  refine lst_guard rfl rfl ?_
  refine lst_run (run_move (by conv => lhs; whnf)) rfl ?_
  refine lst_guard rfl rfl ?_
  first
    | refine lst_run (run_lss_yes rfl rfl (by omega)) rfl ?_
    | refine lst_run (run_lss_no rfl rfl (by omega)) rfl ?_
    | refine lst_run (rfl) rfl ?_
  first
    | refine lst_run (run_pick_t rfl (by conv => lhs; whnf)) rfl ?_
    | refine lst_run (run_pick_f rfl (by conv => lhs; whnf)) rfl ?_
  refine lst_done ?_
  refine goes_true rfl ?_
  refine goes_seq ?_
  refine goes_region ?_
  refine lst_run (run_move (by conv => lhs; whnf)) rfl ?_
  refine lst_run (run_move (by conv => lhs; whnf)) rfl ?_
  first
    | refine lst_run (run_neg rfl (by omega) (by omega)) rfl ?_
    | refine lst_run (rfl) rfl ?_
  refine lst_run (run_max2 (m := (m : Nat)) rfl rfl hm) rfl ?_
  refine lst_run (run_move (by conv => lhs; whnf)) rfl ?_
  refine lst_run (run_move (by conv => lhs; whnf)) rfl ?_
  first
    | refine lst_run (run_neg rfl (by omega) (by omega)) rfl ?_
    | refine lst_run (rfl) rfl ?_
  refine lst_run (run_max2 (m := (m : Nat)) rfl rfl hm) rfl ?_
  by_cases hn : n < 0
  · rw [if_pos hn] at hit
    rw [hit]
    refine lst_run (run_add rfl rfl (by omega) (by omega)) rfl ?_
    refine lst_run (run_slice_both rfl rfl rfl rfl (by omega) (by omega) (by first | omega | (simp; omega))) rfl ?_
    refine lst_run (run_assign (by conv => lhs; whnf)) rfl ?_
    refine lst_done ?_
    refine goes_seq ?_
    refine goes_seq ?_
    refine goes_region ?_
    refine lst_run (run_move (by conv => lhs; whnf)) rfl ?_
    first
      | refine lst_run (run_lss_yes rfl rfl (by omega)) rfl ?_
      | refine lst_run (run_lss_no rfl rfl (by omega)) rfl ?_
      | refine lst_run (rfl) rfl ?_
    refine lst_done ?_
    rw [hd]
    refine goes_true rfl ?_
    refine goes_seq ?_
    refine goes_region ?_
    refine lst_run (run_move (by conv => lhs; whnf)) rfl ?_
    refine lst_run (run_concat rfl rfl (by first | omega | (simp; done) | (simp; omega))) rfl ?_
    refine lst_run (run_assign (by conv => lhs; whnf)) rfl ?_
    refine lst_done ?_
    refine goes_ret1 Tryz.func32 rfl (by conv => lhs; whnf) ?_
    exact ⟨rfl, rfl⟩
  · rw [if_neg hn] at hit
    rw [hit]
    refine lst_run (run_add rfl rfl (by omega) (by omega)) rfl ?_
    refine lst_run (run_slice_both rfl rfl rfl rfl (by omega) (by omega) (by first | omega | (simp; omega))) rfl ?_
    refine lst_run (run_assign (by conv => lhs; whnf)) rfl ?_
    refine lst_done ?_
    refine goes_seq ?_
    refine goes_seq ?_
    refine goes_region ?_
    refine lst_run (run_move (by conv => lhs; whnf)) rfl ?_
    first
      | refine lst_run (run_lss_yes rfl rfl (by omega)) rfl ?_
      | refine lst_run (run_lss_no rfl rfl (by omega)) rfl ?_
      | refine lst_run (rfl) rfl ?_
    refine lst_done ?_
    rw [hd]
    refine goes_false rfl ?_
    refine goes_skip ?_
    refine goes_seq ?_
    refine goes_region ?_
    refine lst_run (run_move (by conv => lhs; whnf)) rfl ?_
    refine lst_run (run_assign (by conv => lhs; whnf)) rfl ?_
    refine lst_done ?_
    refine goes_ret1 Tryz.func32 rfl (by conv => lhs; whnf) ?_
    exact ⟨rfl, rfl⟩
theorem itoa_step (n : Int) (h : n ≤ -10 ∨ 10 ≤ n) : Lib.itoa n = Lib.itoa (n.tdiv 10) ++ Lib.itoa (if n.tmod 10 < -(n.tmod 10) then -(n.tmod 10) else n.tmod 10) := by
  rcases h with h | h
  · obtain ⟨k, rfl⟩ : ∃ k : Nat, n = -(k : Int) := ⟨n.natAbs, by omega⟩
    have hk : 10 ≤ k := by omega
    have e1 : (-(k : Int)).tdiv 10 = -((k / 10 : Nat) : Int) := by rw [Int.neg_tdiv, Int.tdiv_eq_ediv_of_nonneg (by omega)]; simp
    have e2 : (-(k : Int)).tmod 10 = -((k % 10 : Nat) : Int) := by rw [Int.neg_tmod, Int.tmod_eq_emod_of_nonneg (by omega)]; simp
    rw [e1, e2]
    have e3 : (if -((k % 10 : Nat) : Int) < - -((k % 10 : Nat) : Int) then - -((k % 10 : Nat) : Int) else -((k % 10 : Nat) : Int)) = ((k % 10 : Nat) : Int) := by split <;> omega
    rw [e3, Lib.itoa_neg k (by omega), Lib.itoa_neg (k / 10) (by omega), Lib.itoa_nonneg, Lib.decDigits, dif_neg (by omega), Lib.decDigits_one (Nat.mod_lt _ (by omega))]
    simp
  · obtain ⟨k, rfl⟩ : ∃ k : Nat, n = (k : Int) := ⟨n.natAbs, by omega⟩
    have e1 : (k : Int).tdiv 10 = ((k / 10 : Nat) : Int) := by rw [Int.tdiv_eq_ediv_of_nonneg (by omega)]; simp
    have e2 : (k : Int).tmod 10 = ((k % 10 : Nat) : Int) := by rw [Int.tmod_eq_emod_of_nonneg (by omega)]; simp
    rw [e1, e2]
    have e3 : (if ((k % 10 : Nat) : Int) < -((k % 10 : Nat) : Int) then -((k % 10 : Nat) : Int) else ((k % 10 : Nat) : Int)) = ((k % 10 : Nat) : Int) := by split <;> omega
    rw [e3, Lib.itoa_nonneg, Lib.itoa_nonneg, Lib.itoa_nonneg, Lib.decDigits, dif_neg (by omega), Lib.decDigits_one (Nat.mod_lt _ (by omega))]
theorem decimal_any : ∀ (m : Nat) (n : Int), n.natAbs ≤ m → -9223372036854775808 ≤ n → n ≤ 9223372036854775807 → ∀ w : World, Calls Tryz.prog 32 #[.int .i64 n] w fun e w' => e = .returned (sv (Lib.itoa n)) ∧ w' = w := by
  intro m
  induction m with
  | zero => intro n hm _ _ w; exact decimal_small n (by omega) (by omega) w
  | succ m ih =>
    intro n hm h0 h1 w
    by_cases hs : -10 < n ∧ n < 10
    · exact decimal_small n hs.1 hs.2 w
    have hs' : n ≤ -10 ∨ 10 ≤ n := by omega
    have hst := itoa_step n hs'
    have hq : (n.tdiv 10).natAbs ≤ m ∧ -9223372036854775808 ≤ n.tdiv 10 ∧ n.tdiv 10 ≤ 9223372036854775807 := by
      rcases hs' with h | h
      · obtain ⟨k, rfl⟩ : ∃ k : Nat, n = -(k : Int) := ⟨n.natAbs, by omega⟩
        rw [show (-(k : Int)).tdiv 10 = -((k / 10 : Nat) : Int) by rw [Int.neg_tdiv, Int.tdiv_eq_ediv_of_nonneg (by omega)]; simp]; omega
      · rw [Int.tdiv_eq_ediv_of_nonneg (by omega)]; omega
    have hd : -10 < n.tmod 10 ∧ n.tmod 10 < 10 := by
      have h3 := Int.emod_lt_of_pos n (show (0 : Int) < 10 by omega)
      have h4 := Int.emod_nonneg n (show (10 : Int) ≠ 0 by omega)
      rw [Int.tmod_eq_emod]
      split <;> omega
    have hl1 := Lib.itoa_length_le (n.tdiv 10) hq.2.1 hq.2.2
    generalize hdm : (if n.tmod 10 < -(n.tmod 10) then -(n.tmod 10) else n.tmod 10) = dm at hst
    have hdm' : -10 < dm ∧ dm < 10 := by rw [← hdm]; split <;> omega
    have hl2 := Lib.itoa_length_le dm (by omega) (by omega)
    have hi1 := ih (n.tdiv 10) hq.1 hq.2.1 hq.2.2
    have hi2 := decimal_small dm hdm'.1 hdm'.2
    have hdm2 := hdm.symm
    rw [hst]
    generalize Lib.itoa (n.tdiv 10) = L1 at hl1 hi1
    generalize Lib.itoa dm = L2 at hl2 hi2
    have hS := St.start w
    refine goes_enter1 Tryz.func32 rfl Tryz.ntmps32 rfl ?_
    by_cases hn : n < 0
    · refine goes_seq ?_
      refine goes_region ?_
      refine lst_run (run_assign (by conv => lhs; whnf)) rfl ?_
      refine lst_done ?_
      refine goes_seq ?_
      refine goes_seq ?_
      refine goes_region ?_
      refine lst_run (run_move (by conv => lhs; whnf)) rfl ?_
      first
        | refine lst_run (run_gtr_yes rfl rfl (by omega)) rfl ?_
        | refine lst_run (run_gtr_no rfl rfl (by omega)) rfl ?_
        | refine lst_run (rfl) rfl ?_
      refine lst_run (run_move (by conv => lhs; whnf)) rfl ?_
      refine lst_pass rfl rfl rfl ?_
      refine lst_pass rfl rfl rfl ?_
      first
        | refine lst_run (run_pick_t rfl (by conv => lhs; whnf)) rfl ?_
        | refine lst_run (run_pick_f rfl (by conv => lhs; whnf)) rfl ?_
      refine lst_done ?_
      refine goes_false rfl ?_
      refine goes_skip ?_
      refine goes_seq ?_
      refine goes_region ?_
      refine lst_run (run_move (by conv => lhs; whnf)) rfl ?_
      refine lst_run (run_rem10 rfl rfl) rfl ?_
      refine lst_run (run_assign (by conv => lhs; whnf)) rfl ?_
      refine lst_done ?_
      refine goes_seq ?_
      refine goes_region ?_
      refine lst_run (run_move (by conv => lhs; whnf)) rfl ?_
      refine lst_run (run_quo10 rfl rfl (by omega) (by omega)) rfl ?_
      refine lst_enter (run_call (by kernel_rfl) (args_1 (by conv => lhs; whnf))) rfl ?_
      refine Calls.mono (hi1 _) ?_
      rintro _ w1 ⟨rfl, rfl⟩
      refine ⟨_, rfl, ?_⟩
      refine lst_run (run_move (by conv => lhs; whnf)) rfl ?_
      refine lst_run (run_move (by conv => lhs; whnf)) rfl ?_
      first
        | refine lst_run (run_neg rfl (by omega) (by omega)) rfl ?_
        | refine lst_run (rfl) rfl ?_
      refine lst_run (run_max2 (m := dm) rfl rfl hdm2) rfl ?_
      refine lst_enter (run_call (by kernel_rfl) (args_1 (by conv => lhs; whnf))) rfl ?_
      refine Calls.mono (hi2 _) ?_
      rintro _ w2 ⟨rfl, rfl⟩
      refine ⟨_, rfl, ?_⟩
      refine lst_run (run_concat rfl rfl (by first | omega | (simp; done) | (simp; omega))) rfl ?_
      refine lst_run (run_assign (by conv => lhs; whnf)) rfl ?_
      refine lst_done ?_
      refine goes_ret1 Tryz.func32 rfl (by conv => lhs; whnf) ?_
      exact ⟨rfl, rfl⟩
    · refine goes_seq ?_
      refine goes_region ?_
      refine lst_run (run_assign (by conv => lhs; whnf)) rfl ?_
      refine lst_done ?_
      refine goes_seq ?_
      refine goes_seq ?_
      refine goes_region ?_
      refine lst_run (run_move (by conv => lhs; whnf)) rfl ?_
      first
        | refine lst_run (run_gtr_yes rfl rfl (by omega)) rfl ?_
        | refine lst_run (run_gtr_no rfl rfl (by omega)) rfl ?_
        | refine lst_run (rfl) rfl ?_
      refine lst_run (run_move (by conv => lhs; whnf)) rfl ?_
      refine lst_guard rfl rfl ?_
      refine lst_run (run_move (by conv => lhs; whnf)) rfl ?_
      refine lst_guard rfl rfl ?_
      first
        | refine lst_run (run_lss_yes rfl rfl (by omega)) rfl ?_
        | refine lst_run (run_lss_no rfl rfl (by omega)) rfl ?_
        | refine lst_run (rfl) rfl ?_
      first
        | refine lst_run (run_pick_t rfl (by conv => lhs; whnf)) rfl ?_
        | refine lst_run (run_pick_f rfl (by conv => lhs; whnf)) rfl ?_
      refine lst_done ?_
      refine goes_false rfl ?_
      refine goes_skip ?_
      refine goes_seq ?_
      refine goes_region ?_
      refine lst_run (run_move (by conv => lhs; whnf)) rfl ?_
      refine lst_run (run_rem10 rfl rfl) rfl ?_
      refine lst_run (run_assign (by conv => lhs; whnf)) rfl ?_
      refine lst_done ?_
      refine goes_seq ?_
      refine goes_region ?_
      refine lst_run (run_move (by conv => lhs; whnf)) rfl ?_
      refine lst_run (run_quo10 rfl rfl (by omega) (by omega)) rfl ?_
      refine lst_enter (run_call (by kernel_rfl) (args_1 (by conv => lhs; whnf))) rfl ?_
      refine Calls.mono (hi1 _) ?_
      rintro _ w1 ⟨rfl, rfl⟩
      refine ⟨_, rfl, ?_⟩
      refine lst_run (run_move (by conv => lhs; whnf)) rfl ?_
      refine lst_run (run_move (by conv => lhs; whnf)) rfl ?_
      first
        | refine lst_run (run_neg rfl (by omega) (by omega)) rfl ?_
        | refine lst_run (rfl) rfl ?_
      refine lst_run (run_max2 (m := dm) rfl rfl hdm2) rfl ?_
      refine lst_enter (run_call (by kernel_rfl) (args_1 (by conv => lhs; whnf))) rfl ?_
      refine Calls.mono (hi2 _) ?_
      rintro _ w2 ⟨rfl, rfl⟩
      refine ⟨_, rfl, ?_⟩
      refine lst_run (run_concat rfl rfl (by first | omega | (simp; done) | (simp; omega))) rfl ?_
      refine lst_run (run_assign (by conv => lhs; whnf)) rfl ?_
      refine lst_done ?_
      refine goes_ret1 Tryz.func32 rfl (by conv => lhs; whnf) ?_
      exact ⟨rfl, rfl⟩
end Go.Proofs.YtdiophafmokfiaaGreatDoor
namespace Go.Proofs
open Go.Shelf
def Tryz.lays156_ren : Go.Shelf.Ren := ⟨fun | 156 => 33 | 165 => 49 | 166 => 45 | 169 => 30 | 240 => 65 | 241 => 68 | 276 => 85 | 277 => 87 | n => n, fun | 31 => 40 | 9 => 9 | 3 => 3 | 4 => 4 | 0 => 0 | 20 => 20 | 72 => 62 | 76 => 79 | 70 => 59 | 37 => 60 | 75 => 78 | 127 => 85 | 164 => 106 | 5 => 5 | 80 => 67 | n => n, fun | n => n⟩
theorem Tryz.lays156 : Go.Proofs.Lays.n156 Tryz.prog Tryz.lays156_ren := {
  mixed := by kernel_rfl
  f156 := Tryz.func33.trans (congrArg some (by kernel_rfl))
  f165 := Tryz.func49.trans (congrArg some (by kernel_rfl))
  f166 := Tryz.func45.trans (congrArg some (by kernel_rfl))
  f169 := Tryz.func30.trans (congrArg some (by kernel_rfl))
  f240 := Tryz.func65.trans (congrArg some (by kernel_rfl))
  f241 := Tryz.func68.trans (congrArg some (by kernel_rfl))
  f276 := Tryz.func85.trans (congrArg some (by kernel_rfl))
  f277 := Tryz.func87.trans (congrArg some (by kernel_rfl))
  t0 := Tryz.underlying0
  a0 := Tryz.isAgg0
  z0 := Tryz.sizeOf0
  v0 := Tryz.zeroValue0
  t3 := Tryz.underlying3
  a3 := Tryz.isAgg3
  z3 := Tryz.sizeOf3
  v3 := Tryz.zeroValue3
  t4 := Tryz.underlying4
  a4 := Tryz.isAgg4
  z4 := Tryz.sizeOf4
  v4 := Tryz.zeroValue4
  t9 := Tryz.underlying9
  a9 := Tryz.isAgg9
  z9 := Tryz.sizeOf9
  v9 := Tryz.zeroValue9
  t20 := Tryz.underlying20
  a20 := Tryz.isAgg20
  z20 := Tryz.sizeOf20
  v20 := Tryz.zeroValue20
  t31 := Tryz.underlying40
  a31 := Tryz.isAgg40
  z31 := Tryz.sizeOf40
  v31 := Tryz.zeroValue40
  t37 := Tryz.underlying60
  a37 := Tryz.isAgg60
  z37 := Tryz.sizeOf60
  v37 := Tryz.zeroValue60
  t70 := Tryz.underlying59
  a70 := Tryz.isAgg59
  z70 := Tryz.sizeOf59
  v70 := Tryz.zeroValue59
  t72 := Tryz.underlying62
  a72 := Tryz.isAgg62
  z72 := Tryz.sizeOf62
  v72 := Tryz.zeroValue62
  t75 := Tryz.underlying78
  a75 := Tryz.isAgg78
  z75 := Tryz.sizeOf78
  v75 := Tryz.zeroValue78
  t76 := Tryz.underlying79
  a76 := Tryz.isAgg79
  z76 := Tryz.sizeOf79
  v76 := Tryz.zeroValue79
  t127 := Tryz.underlying85
  a127 := Tryz.isAgg85
  z127 := Tryz.sizeOf85
  v127 := Tryz.zeroValue85
  t164 := Tryz.underlying106
  a164 := Tryz.isAgg106
  z164 := Tryz.sizeOf106
  v164 := Tryz.zeroValue106 }
end Go.Proofs
namespace Go.Proofs.YtdiophafmokfiaaGreatDoor
open Go.RowKit Go.Shelf
set_option linter.unusedVariables false
set_option maxRecDepth 100000
set_option maxHeartbeats 1000000
theorem join_extra : Builder.Extra Tryz.prog Tryz.lays156_ren where
  sizeBuilder := by kernel_rfl
  liesBuilder := by kernel_rfl
  t5 := Tryz.underlying5
  a5 := Tryz.isAgg5
  z5 := Tryz.sizeOf5
  v5 := Tryz.zeroValue5
  infoByte := by kernel_rfl
  cellsByte := by kernel_rfl
  sizeByte := by kernel_rfl
  neB5 := by decide
theorem join_any {M : List Nat} {w0 w : World} {H O : List (Nat × Obj)} {F : List (World → Prop)} {el : Nat} {A : Option Addr} {c : Nat} (xs : List Str) (hx : 0 < xs.length) (hrow : Row el 1 (.slice A xs.length c) xs.length (xs.map sv) O) (hn : xs.length ≤ 1048576) (hl : (Lib.join xs [44]).length ≤ 1073741824) (hS : St M w0 (O ++ H) F w) :
    Calls Tryz.prog 33 #[.slice A xs.length c, sv [44]] w fun e w' => e = .returned (sv (Lib.join xs [44])) ∧ Below w.heap.size w w' := by
  have hcap := hrow.cap
  obtain ⟨g, sp, rfl, rfl, _⟩ := hrow.some_ hx
  have hb := hS.own _ (List.mem_cons_self ..)
  have e1 : (xs.map fun l => (⟨l.toArray⟩ : ByteArray)).map (·.data.toList) = xs := by
    rw [List.map_map]; exact List.map_id xs
  have e2 : (⟨#[44]⟩ : ByteArray).data.toList = [44] := rfl
  have h := Any.strings_Join Tryz.lays156 join_extra g 0 c (xs.map fun l => (⟨l.toArray⟩ : ByteArray)) ⟨#[44]⟩ w (fun j x hj => ?_) (own_lt hb) (by simpa using (by omega : xs.length ≤ 140737488355328)) (by simpa using hcap) (by rw [e1, e2]; omega)
  · rw [e1, e2, List.length_map] at h
    exact h
  · rw [cell_own hb, Nat.zero_add]
    rw [List.getElem?_map] at hj
    cases hxj : xs[j]? with
    | none => rw [hxj] at hj; cases hj
    | some l =>
      rw [hxj] at hj
      simp only [Option.map_some, Option.some.injEq] at hj
      subst hj
      rw [List.getElem?_append_left (by have := List.getElem?_eq_some_iff.1 hxj; simp; exact this.1), List.getElem?_map, hxj]
      rfl
def ptM (k n : Int) (s : Str) (a : Ts) : Str := labelM k n s ++ if opens k a then 40 :: (outM false a ++ [41]) else []
def partsM : Ts → List Str
  | .nil => []
  | .cons k n s a r => ptM k n s.data.toList a :: partsM r
theorem parts_len (T : Ts) : (partsM T).length = T.length := by
  induction T with
  | nil => rfl
  | cons k n s a r _ ih => simp only [partsM, List.length_cons, Ts.length, ih]
theorem parts_app (T U : Ts) : partsM (T.app U) = partsM T ++ partsM U := by
  induction T with
  | nil => rfl
  | cons k n s a r _ ih => simp only [Ts.app, partsM, ih, List.cons_append]
theorem parts_tail (T : Ts) : Lib.joinTail [44] (partsM T) = outM true T := by
  induction T with
  | nil => rfl
  | cons k n s a r _ ih =>
    have : Lib.joinTail [44] (partsM (.cons k n s a r)) = [44] ++ ptM k n s.data.toList a ++ Lib.joinTail [44] (partsM r) := by simp [Lib.joinTail, partsM]
    rw [this, ih]
    simp [outM, ptM]
theorem parts_join (T : Ts) : Lib.join (partsM T) [44] = outM false T := by
  cases T with
  | nil => rfl
  | cons k n s a r =>
    rw [partsM, Lib.join_cons, parts_tail]
    simp [outM, ptM]
theorem part_le {D r : Ts} {k n : Int} {s : ByteArray} {a : Ts} (c : Bool) : (ptM k n s.data.toList a).length ≤ (outM c (D.app (.cons k n s a r))).length := by
  induction D generalizing c with
  | nil => simp [Ts.app, outM, ptM]; omega
  | cons k' n' s' a' r' _ ih =>
    have := ih true
    simp only [Ts.app, outM, List.length_append]
    omega
end Go.Proofs.YtdiophafmokfiaaGreatDoor
