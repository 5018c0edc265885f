/-
  The document's own reader of words: a term, walked.
-/
import Derived.Test.YtdiophafmokfiaaGreatDoorG7
import Derived.Test.YtdiophafmokfiaaGreatDoorG5
namespace Go.Proofs.YtdiophafmokfiaaGreatDoor
open Go.RowKit Go.Shelf
set_option linter.unusedVariables false
set_option linter.unusedSimpArgs false
set_option maxRecDepth 100000
set_option maxHeartbeats 1000000

/-- Each variable costs a word. -/
def FewV (f : PS → Nd × PS) : Prop := ∀ p, (f p).2.vars.length + (f p).2.l.length ≤ p.vars.length + p.l.length
theorem pop_vars (p : PS) : p.pop.vars = p.vars := rfl
theorem close_few (p : PS) (t : Str) : (p.close t).vars.length + (p.close t).l.length ≤ p.vars.length + p.l.length := by
  have := close_le p t
  have e : (p.close t).vars = p.vars := by
    unfold PS.close
    split
    · rfl
    split <;> rfl
  rw [e]; omega
theorem refLoop_few {f : PS → Nd × PS} (hf : FewV f) : ∀ (n : Nat) (p : PS), (refLoop f n p).2.vars.length + (refLoop f n p).2.l.length ≤ p.vars.length + p.l.length
  | 0, p => Nat.le_refl _
  | n + 1, p => by
    unfold refLoop
    split
    · have h1 := refLoop_few hf n (f p.pop).2
      have h2 := hf p.pop
      have h3 := pop_le p
      rw [pop_vars] at h2
      simp only
      omega
    · exact Nat.le_refl _
theorem refTerms_few {f : PS → Nd × PS} (hf : FewV f) (t : Str) (p : PS) : (refTerms f t p).2.vars.length + (refTerms f t p).2.l.length ≤ p.vars.length + p.l.length := by
  have h1 := refLoop_few hf (f p).2.l.length (f p).2
  have h2 := hf p
  have h3 := close_few (refLoop f (f p).2.l.length (f p).2).2 t
  simp only [refTerms]
  omega
theorem refTerm_few : ∀ d, FewV (refTerm d)
  | 0, p => Nat.le_refl _
  | d + 1, p => by
    unfold refTerm
    have h1 := pop_le p
    split
    · exact Nat.le_refl _
    · exact Nat.le_refl _
    · rename_i c r q hl
      have h1 : p.pop.l.length + 1 = p.l.length := by simp [PS.pop, hl]
      split
      · simp only [pop_vars]; omega
      split
      · simp only
        rw [(pvar_l _ _).1]
        have : (p.pop.var (c :: r)).2.vars.length ≤ p.vars.length + 1 := by
          unfold PS.var
          split
          · simp [PS.pop]
          · simp [PS.pop]
        omega
      split
      · simp only [pop_vars]; omega
      split
      · exact Nat.le_refl _
      split
      · have h2 := refTerms_few (refTerm_few d) [41] p.pop.pop
        have h3 := pop_le p.pop
        rw [pop_vars, pop_vars] at h2
        simp only; omega
      · simp only [pop_vars]; omega

theorem St.raise3 {M : List Nat} {w0 w : World} {H L O : List (Nat × Obj)} {F : List (World → Prop)} {x y p : Nat × Obj} (h : St M w0 (y :: p :: (L ++ (O ++ x :: H))) F w) : St M w0 (x :: y :: p :: (L ++ (O ++ H))) F w :=
  h.perm (by have := List.perm_middle (a := x) (l₁ := y :: p :: (L ++ O)) (l₂ := H); simpa using this)
/-- A function that reads a term. -/
def PTermSaid (d : Nat) : Prop := ∀ (p : PS) (L V : Value) (VH : List (Nat × Obj)) (M : List Nat) (w0 w : World) (H : List (Nat × Obj)) (F : List (World → Prop)) (b : Nat) (φ : World → Prop), φ ∈ F →
    p.l.length ≤ 2000 → p.vars.length + p.l.length ≤ 4000 → Sx φ L p.l → Vars p.vars V VH → St M w0 ((b, psr L V p.bad) :: (VH ++ H)) F w →
    Calls Tryz.prog 19 #[ptr b, .int .i64 (d : Nat)] w fun e w' => ∃ v L' V' VH', e = .returned (.agg #[.int .i64 (refTerm d p).1.k, .int .i64 (refTerm d p).1.n, sv (refTerm d p).1.s, v]) ∧
      Sx φ L' (refTerm d p).2.l ∧ Vars (refTerm d p).2.vars V' VH' ∧ St M w0 ((b, psr L' V' (refTerm d p).2.bad) :: (VH' ++ H)) ((fun w => Sl w (fun _ => True) v (refTerm d p).1.ar) :: F) w'
theorem pterm_any (d : Nat) (hd : d ≤ 100) (ht : ∀ e, d = e + 1 → PTermSaid e) : PTermSaid d := by
  intro p L V VH M w0 w H F b φ hφ hl hl2 hL hV hS
  obtain ⟨A, vc, rfl⟩ := hV.form
  have hnil : ∀ w : World, Sl w (fun _ => True) (.slice none 0 0) .nil := fun w => ⟨none, 0, rfl, Nat.le_refl _, fun h => by cases h⟩
  obtain ⟨l, vars, bad⟩ := p
  dsimp only at hl hl2 hS hV hL
  by_cases hf : l.headD [] = []
  · have e : refTerm d ⟨l, vars, bad⟩ = (Nd.zero, ⟨l, vars, true⟩) := by
      cases d with
      | zero => rfl
      | succ d =>
        cases l with
        | nil => rfl
        | cons x r => cases x with | nil => rfl | cons c q => simp at hf
    rw [e]
    refine goes_enter2 Tryz.func19 rfl Tryz.ntmps19 rfl ?_
    refine goes_seq ?_
    refine goes_region ?_
    refine lst_alloc (cs := [_, _, _, _]) hS rfl rfl rfl ?_
    clear hS
    intro b1 wx1 hS
    refine lst_done ?_
    refine goes_seq ?_
    refine goes_region ?_
    refine lst_run (run_move (by conv => lhs; whnf)) rfl ?_
    refine lst_enter (run_call (by kernel_rfl) (args_1 (by conv => lhs; whnf))) rfl ?_
    refine Calls.mono (front_any ⟨l, vars, bad⟩ L _ _ hL hφ hS.swap) ?_
    rintro _ w1 ⟨rfl, rfl⟩
    refine ⟨_, rfl, ?_⟩
    rw [hf]
    refine lst_run (run_assign (by conv => lhs; whnf)) rfl ?_
    refine lst_done ?_
    refine goes_seq ?_
    refine goes_seq ?_
    refine goes_region ?_
    refine lst_run (run_move (by conv => lhs; whnf)) rfl ?_
    first
      | refine lst_run (run_eqlS_t rfl rfl (by assumption)) rfl ?_
      | refine lst_run (run_eqlS_f rfl rfl (by assumption)) rfl ?_
      | refine lst_run (run_eql_str rfl rfl) rfl ?_
      | refine lst_run (rfl) rfl ?_
    refine lst_run (run_move (by conv => lhs; whnf)) rfl ?_
    refine lst_pass rfl rfl rfl ?_
    refine lst_pass rfl rfl rfl ?_
    first
      | refine lst_run (run_pick_t rfl (by conv => lhs; whnf)) rfl ?_
      | refine lst_run (run_pick_f rfl (by conv => lhs; whnf)) rfl ?_
    refine lst_done ?_
    refine goes_true rfl ?_
    refine goes_seq ?_
    refine goes_region ?_
    refine lst_run (run_move (by conv => lhs; whnf)) rfl ?_
    refine lst_run (run_nilCheck rfl) rfl ?_
    refine lst_run (run_fieldAddr (off := 2) rfl rfl) rfl ?_
    refine lst_store1 hS rfl (by conv => lhs; whnf) rfl rfl (by first | exact .head | exact .tail .head | exact .tail (.tail .head) | exact .tail (.tail (.tail .head)) | exact .tail (.tail (.tail (.tail .head))) | exact .tail (.tail (.tail (.tail (.tail .head))))) (by repeat constructor) (by first | exact .head | exact .tail .head | exact .tail (.tail .head) | exact .tail (.tail (.tail .head)) | exact .tail (.tail (.tail (.tail .head))) | exact .tail (.tail (.tail (.tail (.tail .head))))) ?_
    clear hS
    intro wx2 hS
    refine lst_done ?_
    refine goes_seq ?_
    refine goes_region ?_
    refine lst_run (run_build (cells := [_, _, _, _]) .nil rfl) rfl ?_
    refine lst_storeN hS rfl (by conv => lhs; whnf) rfl rfl (by first | exact .head | exact .tail .head | exact .tail (.tail .head) | exact .tail (.tail (.tail .head)) | exact .tail (.tail (.tail (.tail .head))) | exact .tail (.tail (.tail (.tail (.tail .head))))) (by repeat constructor) (by first | exact .head | exact .tail .head | exact .tail (.tail .head) | exact .tail (.tail (.tail .head)) | exact .tail (.tail (.tail (.tail .head))) | exact .tail (.tail (.tail (.tail (.tail .head))))) ?_
    clear hS
    intro wx3 hS
    refine lst_done ?_
    refine goes_retC (sz := 4) hS Tryz.func19 rfl rfl rfl rfl (by first | exact .head | exact .tail .head | exact .tail (.tail .head) | exact .tail (.tail (.tail .head)) | exact .tail (.tail (.tail (.tail .head))) | exact .tail (.tail (.tail (.tail (.tail .head))))) (by repeat constructor) ?_
    exact ⟨.slice none 0 0, L, _, VH, rfl, hL, hV, hS.drop.learn fun w _ => hnil w⟩
  cases l with
  | nil => exact absurd rfl hf
  | cons x rest =>
    cases x with
    | nil => exact absurd rfl hf
    | cons c r =>
      clear hf
      obtain ⟨A0, c0, rfl, hc0⟩ := hL.form
      have hlr : ((c :: r) :: rest).length = rest.length + 1 := rfl
      have hLt := hL.tail
      have hfr := fun w (H' : List (Nat × Obj)) => front_any (M := M) (w0 := w0) (H := H') (F := F) (b := b) (φ := φ) ⟨(c :: r) :: rest, vars, bad⟩ (.slice A0 ((c :: r) :: rest).length c0) (.slice A vars.length vc) w hL hφ
      simp only [List.headD_cons] at hfr
      simp only [List.length_cons] at hl hl2 hc0
      cases d with
      | zero =>
        have e : refTerm 0 ⟨(c :: r) :: rest, vars, bad⟩ = (Nd.zero, ⟨(c :: r) :: rest, vars, true⟩) := rfl
        rw [e]
        refine goes_enter2 Tryz.func19 rfl Tryz.ntmps19 rfl ?_
        refine goes_seq ?_
        refine goes_region ?_
        refine lst_alloc (cs := [_, _, _, _]) hS rfl rfl rfl ?_
        clear hS
        intro b1 wx1 hS
        refine lst_done ?_
        refine goes_seq ?_
        refine goes_region ?_
        refine lst_run (run_move (by conv => lhs; whnf)) rfl ?_
        refine lst_enter (run_call (by kernel_rfl) (args_1 (by conv => lhs; whnf))) rfl ?_
        refine Calls.mono (hfr _ _ hS.swap) ?_
        rintro _ w1 ⟨rfl, rfl⟩
        refine ⟨_, rfl, ?_⟩
        refine lst_run (run_assign (by conv => lhs; whnf)) rfl ?_
        refine lst_done ?_
        refine goes_seq ?_
        refine goes_seq ?_
        refine goes_region ?_
        refine lst_run (run_move (by conv => lhs; whnf)) rfl ?_
        first
          | refine lst_run (run_eqlS_t rfl rfl (by assumption)) rfl ?_
          | refine lst_run (run_eqlS_f rfl rfl (by assumption)) rfl ?_
          | refine lst_run (run_eql_str rfl rfl) rfl ?_
          | refine lst_run (rfl) rfl ?_
        refine lst_run (run_move (by conv => lhs; whnf)) rfl ?_
        refine lst_guard rfl rfl ?_
        refine lst_run (run_move (by conv => lhs; whnf)) rfl ?_
        refine lst_guard rfl rfl ?_
        first
          | refine lst_run (run_eql_one_int rfl rfl) rfl ?_
          | refine lst_run (run_eql_no rfl rfl (by first | assumption | omega)) rfl ?_
          | refine lst_run (run_eql_yes rfl rfl (by omega)) rfl ?_
          | refine lst_run (rfl) rfl ?_
        first
          | refine lst_run (run_pick_t rfl (by conv => lhs; whnf)) rfl ?_
          | refine lst_run (run_pick_f rfl (by conv => lhs; whnf)) rfl ?_
        refine lst_done ?_
        refine goes_true rfl ?_
        refine goes_seq ?_
        refine goes_region ?_
        refine lst_run (run_move (by conv => lhs; whnf)) rfl ?_
        refine lst_run (run_nilCheck rfl) rfl ?_
        refine lst_run (run_fieldAddr (off := 2) rfl rfl) rfl ?_
        refine lst_store1 hS rfl (by conv => lhs; whnf) rfl rfl (by first | exact .head | exact .tail .head | exact .tail (.tail .head) | exact .tail (.tail (.tail .head)) | exact .tail (.tail (.tail (.tail .head))) | exact .tail (.tail (.tail (.tail (.tail .head))))) (by repeat constructor) (by first | exact .head | exact .tail .head | exact .tail (.tail .head) | exact .tail (.tail (.tail .head)) | exact .tail (.tail (.tail (.tail .head))) | exact .tail (.tail (.tail (.tail (.tail .head))))) ?_
        clear hS
        intro wx2 hS
        refine lst_done ?_
        refine goes_seq ?_
        refine goes_region ?_
        refine lst_run (run_build (cells := [_, _, _, _]) .nil rfl) rfl ?_
        refine lst_storeN hS rfl (by conv => lhs; whnf) rfl rfl (by first | exact .head | exact .tail .head | exact .tail (.tail .head) | exact .tail (.tail (.tail .head)) | exact .tail (.tail (.tail (.tail .head))) | exact .tail (.tail (.tail (.tail (.tail .head))))) (by repeat constructor) (by first | exact .head | exact .tail .head | exact .tail (.tail .head) | exact .tail (.tail (.tail .head)) | exact .tail (.tail (.tail (.tail .head))) | exact .tail (.tail (.tail (.tail (.tail .head))))) ?_
        clear hS
        intro wx3 hS
        refine lst_done ?_
        refine goes_retC (sz := 4) hS Tryz.func19 rfl rfl rfl rfl (by first | exact .head | exact .tail .head | exact .tail (.tail .head) | exact .tail (.tail (.tail .head)) | exact .tail (.tail (.tail (.tail .head))) | exact .tail (.tail (.tail (.tail (.tail .head))))) (by repeat constructor) ?_
        exact ⟨.slice none 0 0, _, _, VH, rfl, hL, hV, hS.drop.learn fun w _ => hnil w⟩
      | succ d =>
        have e0 : refTerm (d + 1) ⟨(c :: r) :: rest, vars, bad⟩ = if c :: r = [33] then (⟨1, 0, [33], .nil⟩, ⟨rest, vars, bad⟩)
            else if upB c then (⟨0, (PS.var ⟨rest, vars, bad⟩ (c :: r)).1, [], .nil⟩, (PS.var ⟨rest, vars, bad⟩ (c :: r)).2)
            else if (c == 45) || digB c then (⟨2, (valueM (c :: r)).getD 0, [], .nil⟩, ⟨rest, vars, bad || (valueM (c :: r)).isNone⟩)
            else if lowB c = false then (Nd.zero, ⟨(c :: r) :: rest, vars, true⟩)
            else if PS.has ⟨rest, vars, bad⟩ [40] then (⟨3, 0, c :: r, tsOf (refTerms (refTerm d) [41] ⟨rest.tail, vars, bad⟩).1⟩, (refTerms (refTerm d) [41] ⟨rest.tail, vars, bad⟩).2)
            else (⟨1, 0, c :: r, .nil⟩, ⟨rest, vars, bad⟩) := rfl
        have hget : (c :: r)[(0 : Int).toNat]? = some c := rfl
        by_cases h33 : c :: r = [33]
        · have e : refTerm (d + 1) ⟨(c :: r) :: rest, vars, bad⟩ = (⟨1, 0, [33], .nil⟩, ⟨rest, vars, bad⟩) := by rw [e0, if_pos h33]
          rw [e]
          have hb : (c :: r == [33]) = true := by rw [h33]; rfl
          refine goes_enter2 Tryz.func19 rfl Tryz.ntmps19 rfl ?_
          refine goes_seq ?_
          refine goes_region ?_
          refine lst_alloc (cs := [_, _, _, _]) hS rfl rfl rfl ?_
          clear hS
          intro b1 wx1 hS
          refine lst_done ?_
          refine goes_seq ?_
          refine goes_region ?_
          refine lst_run (run_move (by conv => lhs; whnf)) rfl ?_
          refine lst_enter (run_call (by kernel_rfl) (args_1 (by conv => lhs; whnf))) rfl ?_
          refine Calls.mono (hfr _ _ hS.swap) ?_
          rintro _ w1 ⟨rfl, rfl⟩
          refine ⟨_, rfl, ?_⟩
          refine lst_run (run_assign (by conv => lhs; whnf)) rfl ?_
          refine lst_done ?_
          refine goes_seq ?_
          refine goes_seq ?_
          refine goes_region ?_
          refine lst_run (run_move (by conv => lhs; whnf)) rfl ?_
          first
            | refine lst_run (run_eqlS_t rfl rfl (by assumption)) rfl ?_
            | refine lst_run (run_eqlS_f rfl rfl (by assumption)) rfl ?_
            | refine lst_run (run_eql_str rfl rfl) rfl ?_
            | refine lst_run (rfl) rfl ?_
          refine lst_run (run_move (by conv => lhs; whnf)) rfl ?_
          refine lst_guard rfl rfl ?_
          refine lst_run (run_move (by conv => lhs; whnf)) rfl ?_
          refine lst_guard rfl rfl ?_
          first
            | refine lst_run (run_eql_one_int rfl rfl) rfl ?_
            | refine lst_run (run_eql_no rfl rfl (by first | assumption | omega)) rfl ?_
            | refine lst_run (run_eql_yes rfl rfl (by omega)) rfl ?_
            | refine lst_run (rfl) rfl ?_
          first
            | refine lst_run (run_pick_t rfl (by conv => lhs; whnf)) rfl ?_
            | refine lst_run (run_pick_f rfl (by conv => lhs; whnf)) rfl ?_
          refine lst_done ?_
          refine goes_false rfl ?_
          refine goes_skip ?_
          refine goes_seq ?_
          refine goes_region ?_
          refine lst_run (run_move (by conv => lhs; whnf)) rfl ?_
          refine lst_run (run_index_str rfl rfl rfl (by omega) (by first | rfl | assumption)) rfl ?_
          refine lst_run (run_assign (by conv => lhs; whnf)) rfl ?_
          refine lst_done ?_
          refine goes_seq ?_
          refine goes_block ?_
          refine goes_seq ?_
          refine goes_region ?_
          refine lst_run (run_move (by conv => lhs; whnf)) rfl ?_
          first
            | refine lst_run (run_eqlS_t rfl rfl (by assumption)) rfl ?_
            | refine lst_run (run_eqlS_f rfl rfl (by assumption)) rfl ?_
            | refine lst_run (run_eql_str rfl rfl) rfl ?_
            | refine lst_run (rfl) rfl ?_
          refine lst_run (run_assign (by conv => lhs; whnf)) rfl ?_
          refine lst_done ?_
          rw [hb]
          refine goes_true rfl ?_
          refine goes_seq ?_
          refine goes_region ?_
          refine lst_run (run_move (by conv => lhs; whnf)) rfl ?_
          refine lst_run (run_move (by conv => lhs; whnf)) rfl ?_
          refine lst_run (run_nilCheck rfl) rfl ?_
          refine lst_run (run_fieldAddr (off := 0) rfl rfl) rfl ?_
          first
            | refine lst_run (run_load1_own hS rfl rfl (by first | exact .head | exact .tail .head | exact .tail (.tail .head) | exact .tail (.tail (.tail .head)) | exact .tail (.tail (.tail (.tail .head))) | exact .tail (.tail (.tail (.tail (.tail .head))))) (by repeat constructor)) rfl ?_
            | refine lst_run (run_load1 rfl rfl (by first | assumption | exact hS.cell0 (by assumption) | exact lv_next hS | exact lv_list hS)) rfl ?_
          first
            | refine lst_run (run_slice_lt (sz := 1) rfl rfl rfl rfl (by omega) (by omega) (by omega)) rfl ?_
            | refine lst_run (run_slice_rest (sz := 1) rfl rfl rfl rfl (by omega) (by omega)) rfl ?_
          refine lst_run (run_nilCheck rfl) rfl ?_
          refine lst_run (run_fieldAddr (off := 0) rfl rfl) rfl ?_
          refine lst_store1 hS rfl (by conv => lhs; whnf) rfl rfl (by first | exact .head | exact .tail .head | exact .tail (.tail .head) | exact .tail (.tail (.tail .head)) | exact .tail (.tail (.tail (.tail .head))) | exact .tail (.tail (.tail (.tail (.tail .head))))) (by repeat constructor) (by first | exact .head | exact .tail .head | exact .tail (.tail .head) | exact .tail (.tail (.tail .head)) | exact .tail (.tail (.tail (.tail .head))) | exact .tail (.tail (.tail (.tail (.tail .head))))) ?_
          clear hS
          intro wx2 hS
          refine lst_done ?_
          refine goes_seq ?_
          refine goes_region ?_
          refine lst_run (run_build (cells := [_, _, _, _]) (.cons (by conv => lhs; whnf) (.cons (by conv => lhs; whnf) .nil)) rfl) rfl ?_
          refine lst_storeN hS rfl (by conv => lhs; whnf) rfl rfl (by first | exact .head | exact .tail .head | exact .tail (.tail .head) | exact .tail (.tail (.tail .head)) | exact .tail (.tail (.tail (.tail .head))) | exact .tail (.tail (.tail (.tail (.tail .head))))) (by repeat constructor) (by first | exact .head | exact .tail .head | exact .tail (.tail .head) | exact .tail (.tail (.tail .head)) | exact .tail (.tail (.tail (.tail .head))) | exact .tail (.tail (.tail (.tail (.tail .head))))) ?_
          clear hS
          intro wx3 hS
          refine lst_done ?_
          refine goes_retC (sz := 4) hS Tryz.func19 rfl rfl rfl rfl (by first | exact .head | exact .tail .head | exact .tail (.tail .head) | exact .tail (.tail (.tail .head)) | exact .tail (.tail (.tail (.tail .head))) | exact .tail (.tail (.tail (.tail (.tail .head))))) (by repeat constructor) ?_
          exact ⟨.slice none 0 0, _, _, VH, rfl, hLt, hV, hS.drop.learn fun w _ => hnil w⟩
        have hb : (c :: r == [33]) = false := by simpa using h33
        rw [if_neg h33] at e0
        cases hup : upB c with
        | true =>
          rw [if_pos hup] at e0
          have hup1 : 65 ≤ c.toNat ∧ c.toNat ≤ 90 := by simp [upB] at hup; omega
          refine goes_enter2 Tryz.func19 rfl Tryz.ntmps19 rfl ?_
          refine goes_seq ?_
          refine goes_region ?_
          refine lst_alloc (cs := [_, _, _, _]) hS rfl rfl rfl ?_
          clear hS
          intro b1 wx1 hS
          refine lst_done ?_
          refine goes_seq ?_
          refine goes_region ?_
          refine lst_run (run_move (by conv => lhs; whnf)) rfl ?_
          refine lst_enter (run_call (by kernel_rfl) (args_1 (by conv => lhs; whnf))) rfl ?_
          refine Calls.mono (hfr _ _ hS.swap) ?_
          rintro _ w1 ⟨rfl, rfl⟩
          refine ⟨_, rfl, ?_⟩
          refine lst_run (run_assign (by conv => lhs; whnf)) rfl ?_
          refine lst_done ?_
          refine goes_seq ?_
          refine goes_seq ?_
          refine goes_region ?_
          refine lst_run (run_move (by conv => lhs; whnf)) rfl ?_
          first
            | refine lst_run (run_eqlS_t rfl rfl (by assumption)) rfl ?_
            | refine lst_run (run_eqlS_f rfl rfl (by assumption)) rfl ?_
            | refine lst_run (run_eql_str rfl rfl) rfl ?_
            | refine lst_run (rfl) rfl ?_
          refine lst_run (run_move (by conv => lhs; whnf)) rfl ?_
          refine lst_guard rfl rfl ?_
          refine lst_run (run_move (by conv => lhs; whnf)) rfl ?_
          refine lst_guard rfl rfl ?_
          first
            | refine lst_run (run_eql_one_int rfl rfl) rfl ?_
            | refine lst_run (run_eql_no rfl rfl (by first | assumption | omega)) rfl ?_
            | refine lst_run (run_eql_yes rfl rfl (by omega)) rfl ?_
            | refine lst_run (rfl) rfl ?_
          first
            | refine lst_run (run_pick_t rfl (by conv => lhs; whnf)) rfl ?_
            | refine lst_run (run_pick_f rfl (by conv => lhs; whnf)) rfl ?_
          refine lst_done ?_
          refine goes_false rfl ?_
          refine goes_skip ?_
          refine goes_seq ?_
          refine goes_region ?_
          refine lst_run (run_move (by conv => lhs; whnf)) rfl ?_
          refine lst_run (run_index_str rfl rfl rfl (by omega) (by first | rfl | assumption)) rfl ?_
          refine lst_run (run_assign (by conv => lhs; whnf)) rfl ?_
          refine lst_done ?_
          refine goes_seq ?_
          refine goes_block ?_
          refine goes_seq ?_
          refine goes_region ?_
          refine lst_run (run_move (by conv => lhs; whnf)) rfl ?_
          first
            | refine lst_run (run_eqlS_t rfl rfl (by assumption)) rfl ?_
            | refine lst_run (run_eqlS_f rfl rfl (by assumption)) rfl ?_
            | refine lst_run (run_eql_str rfl rfl) rfl ?_
            | refine lst_run (rfl) rfl ?_
          refine lst_run (run_assign (by conv => lhs; whnf)) rfl ?_
          refine lst_done ?_
          rw [hb]
          refine goes_false rfl ?_
          refine goes_seq ?_
          refine goes_region ?_
          refine lst_run (run_move (by conv => lhs; whnf)) rfl ?_
          first
            | refine lst_run (run_geq_yes rfl rfl (by omega)) rfl ?_
            | refine lst_run (run_geq_no rfl rfl (by omega)) rfl ?_
            | refine lst_run (rfl) rfl ?_
          refine lst_run (run_move (by conv => lhs; whnf)) rfl ?_
          refine lst_guard rfl rfl ?_
          refine lst_run (run_move (by conv => lhs; whnf)) rfl ?_
          refine lst_guard rfl rfl ?_
          first
            | refine lst_run (run_leq_yes rfl rfl (by omega)) rfl ?_
            | refine lst_run (run_leq_no rfl rfl (by omega)) rfl ?_
            | refine lst_run (rfl) rfl ?_
          first
            | refine lst_run (run_pick_t rfl (by conv => lhs; whnf)) rfl ?_
            | refine lst_run (run_pick_f rfl (by conv => lhs; whnf)) rfl ?_
          refine lst_run (run_assign (by conv => lhs; whnf)) rfl ?_
          refine lst_done ?_
          refine goes_true rfl ?_
          refine goes_seq ?_
          refine goes_region ?_
          refine lst_run (run_move (by conv => lhs; whnf)) rfl ?_
          refine lst_run (run_move (by conv => lhs; whnf)) rfl ?_
          refine lst_run (run_nilCheck rfl) rfl ?_
          refine lst_run (run_fieldAddr (off := 0) rfl rfl) rfl ?_
          first
            | refine lst_run (run_load1_own hS rfl rfl (by first | exact .head | exact .tail .head | exact .tail (.tail .head) | exact .tail (.tail (.tail .head)) | exact .tail (.tail (.tail (.tail .head))) | exact .tail (.tail (.tail (.tail (.tail .head))))) (by repeat constructor)) rfl ?_
            | refine lst_run (run_load1 rfl rfl (by first | assumption | exact hS.cell0 (by assumption) | exact lv_next hS | exact lv_list hS)) rfl ?_
          first
            | refine lst_run (run_slice_lt (sz := 1) rfl rfl rfl rfl (by omega) (by omega) (by omega)) rfl ?_
            | refine lst_run (run_slice_rest (sz := 1) rfl rfl rfl rfl (by omega) (by omega)) rfl ?_
          refine lst_run (run_nilCheck rfl) rfl ?_
          refine lst_run (run_fieldAddr (off := 0) rfl rfl) rfl ?_
          refine lst_store1 hS rfl (by conv => lhs; whnf) rfl rfl (by first | exact .head | exact .tail .head | exact .tail (.tail .head) | exact .tail (.tail (.tail .head)) | exact .tail (.tail (.tail (.tail .head))) | exact .tail (.tail (.tail (.tail (.tail .head))))) (by repeat constructor) (by first | exact .head | exact .tail .head | exact .tail (.tail .head) | exact .tail (.tail (.tail .head)) | exact .tail (.tail (.tail (.tail .head))) | exact .tail (.tail (.tail (.tail (.tail .head))))) ?_
          clear hS
          intro wx2 hS
          refine lst_done ?_
          refine goes_seq ?_
          refine goes_seq ?_
          refine goes_region ?_
          refine lst_run (run_move (by conv => lhs; whnf)) rfl ?_
          refine lst_run (run_nilCheck rfl) rfl ?_
          refine lst_run (run_fieldAddr (off := 1) rfl rfl) rfl ?_
          first
            | refine lst_run (run_load1_own hS rfl rfl (by first | exact .head | exact .tail .head | exact .tail (.tail .head) | exact .tail (.tail (.tail .head)) | exact .tail (.tail (.tail (.tail .head))) | exact .tail (.tail (.tail (.tail (.tail .head))))) (by repeat constructor)) rfl ?_
            | refine lst_run (run_load1 rfl rfl (by first | assumption | exact hS.cell0 (by assumption) | exact lv_next hS | exact lv_list hS)) rfl ?_
          refine lst_run (run_len_slice rfl rfl rfl) rfl ?_
          refine lst_run (run_move (by conv => lhs; whnf)) rfl ?_
          refine lst_done ?_
          refine goes_block ?_
          refine goes_loopS1 hS 58 (59 :: 60 :: 61 :: 62 :: 7 :: 8 :: 63 :: 64 :: 65 :: 66 :: 67 :: 68 :: []) (fun (R : List Str) v => ∃ D, vars = D ++ R ∧ v = .int .i64 (D.length : Nat) ∧ (c :: r) ∉ D) (fun R => R.length) (vars) ?_ (by conv => lhs; whnf) ?_
          · exact ⟨[], rfl, rfl, by simp⟩
          rintro R _ w3 jv3 ⟨D, hD, rfl, hx⟩ hS ih
          have hlen : vars.length = D.length + R.length := by rw [hD, List.length_append]
          cases R with
          | nil =>
            simp only [List.length_nil] at hlen
            have hnm : (c :: r) ∉ vars := by rw [hD, List.append_nil]; exact hx
            have ev : PS.var ⟨rest, vars, bad⟩ (c :: r) = (vars.length, ⟨rest, vars ++ [c :: r], bad⟩) := by unfold PS.var; rw [if_neg hnm]
            rw [ev] at e0
            rw [e0]
            refine goes_seq ?_
            refine goes_region ?_
            first
              | refine lst_run (run_lss_yes rfl rfl (by omega)) rfl ?_
              | refine lst_run (run_lss_no rfl rfl (by omega)) rfl ?_
              | refine lst_run (rfl) rfl ?_
            refine lst_done ?_
            refine goes_seq ?_
            refine goes_false rfl ?_
            refine goes_exit rfl ?_
            refine goes_seq ?_
            refine goes_region ?_
            refine lst_run (run_move (by conv => lhs; whnf)) rfl ?_
            refine lst_run (run_move (by conv => lhs; whnf)) rfl ?_
            refine lst_run (run_nilCheck rfl) rfl ?_
            refine lst_run (run_fieldAddr (off := 1) rfl rfl) rfl ?_
            first
              | refine lst_run (run_load1_own hS rfl rfl (by first | exact .head | exact .tail .head | exact .tail (.tail .head) | exact .tail (.tail (.tail .head)) | exact .tail (.tail (.tail (.tail .head))) | exact .tail (.tail (.tail (.tail (.tail .head))))) (by repeat constructor)) rfl ?_
              | refine lst_run (run_load1 rfl rfl (by first | assumption | exact hS.cell0 (by assumption) | exact lv_next hS | exact lv_list hS)) rfl ?_
            refine lst_run (run_move (by conv => lhs; whnf)) rfl ?_
            refine lst_buildSlice (cells := [_]) hS (.cons (by conv => lhs; whnf) .nil) rfl rfl ?_
            clear hS
            intro b2 wx3 hS
            refine lst_app (sz := 1) (bts := 16) hS (by conv => lhs; whnf) rfl rfl rfl rfl (hV) rfl rfl (.cons _ (List.perm_append_comm_assoc [_, _] VH H)) (by omega) (by omega) rfl ?_
            clear hS
            intro V' VH' w4 hV' hS
            replace hS := hS.perm (List.perm_append_comm_assoc VH' [_, _] H)
            obtain ⟨A', c', rfl⟩ := hV'.form
            refine lst_run (run_nilCheck rfl) rfl ?_
            refine lst_run (run_fieldAddr (off := 1) rfl rfl) rfl ?_
            refine lst_store1 hS rfl (by conv => lhs; whnf) rfl rfl (by first | exact .head | exact .tail .head | exact .tail (.tail .head) | exact .tail (.tail (.tail .head)) | exact .tail (.tail (.tail (.tail .head))) | exact .tail (.tail (.tail (.tail (.tail .head))))) (by repeat constructor) (by first | exact .head | exact .tail .head | exact .tail (.tail .head) | exact .tail (.tail (.tail .head)) | exact .tail (.tail (.tail (.tail .head))) | exact .tail (.tail (.tail (.tail (.tail .head))))) ?_
            clear hS
            intro wx4 hS
            refine lst_done ?_
            refine goes_seq ?_
            refine goes_region ?_
            refine lst_run (run_move (by conv => lhs; whnf)) rfl ?_
            refine lst_run (run_nilCheck rfl) rfl ?_
            refine lst_run (run_fieldAddr (off := 1) rfl rfl) rfl ?_
            first
              | refine lst_run (run_load1_own hS rfl rfl (by first | exact .head | exact .tail .head | exact .tail (.tail .head) | exact .tail (.tail (.tail .head)) | exact .tail (.tail (.tail (.tail .head))) | exact .tail (.tail (.tail (.tail (.tail .head))))) (by repeat constructor)) rfl ?_
              | refine lst_run (run_load1 rfl rfl (by first | assumption | exact hS.cell0 (by assumption) | exact lv_next hS | exact lv_list hS)) rfl ?_
            refine lst_run (run_len_slice rfl rfl rfl) rfl ?_
            first
              | refine lst_run (run_sub rfl rfl (by omega) (by omega)) rfl ?_
              | refine lst_run (run_sub_u8 rfl rfl) rfl ?_
            refine lst_run (run_build (cells := [_, _, _, _]) (.cons (by conv => lhs; whnf) .nil) rfl) rfl ?_
            refine lst_storeN hS rfl (by conv => lhs; whnf) rfl rfl (by first | exact .head | exact .tail .head | exact .tail (.tail .head) | exact .tail (.tail (.tail .head)) | exact .tail (.tail (.tail (.tail .head))) | exact .tail (.tail (.tail (.tail (.tail .head))))) (by repeat constructor) (by first | exact .head | exact .tail .head | exact .tail (.tail .head) | exact .tail (.tail (.tail .head)) | exact .tail (.tail (.tail (.tail .head))) | exact .tail (.tail (.tail (.tail (.tail .head))))) ?_
            clear hS
            intro wx5 hS
            refine lst_done ?_
            refine goes_retC (sz := 4) hS Tryz.func19 rfl rfl rfl rfl (by first | exact .head | exact .tail .head | exact .tail (.tail .head) | exact .tail (.tail (.tail .head)) | exact .tail (.tail (.tail (.tail .head))) | exact .tail (.tail (.tail (.tail (.tail .head))))) (by repeat constructor) ?_
            refine ⟨.slice none 0 0, _, _, VH', ?_, hLt, ?_, hS.drop.learn fun w _ => hnil w⟩
            · simp
            · show Row _ _ _ (vars ++ [c :: r]).length ((vars ++ [c :: r]).map sv) _
              rw [List.map_append, List.length_append]; exact hV'
          | cons y q =>
            simp only [List.length_cons] at hlen
            have hcell : w3.cell? ⟨A.elim 0 (·.block), 0 + ((D.length : Nat) : Int).toNat * 1, none⟩ = some (sv y) ∧ ∃ g, A = some ⟨g, 0, none⟩ := by
              have hr : Row 9 1 (.slice A vars.length vc) vars.length (vars.map sv) VH := hV
              generalize hxs : vars.map sv = xs at hr
              generalize hvl : vars.length = vl at hr hlen
              cases hr with
              | nil_ => omega
              | own_ h1 h2 h3 hcp =>
                rename_i bl sp _
                refine ⟨?_, bl, rfl⟩
                have hbl : w3.heap[bl]? = some (.cells (xs ++ sp).toArray 9) := hS.own (bl, _) (by simp)
                show w3.cell? ⟨bl, _, none⟩ = _
                rw [cell_own hbl, ← hxs, hD]
                simp
            obtain ⟨hcell, g, rfl⟩ := hcell
            have hcell' : w3.cell? ⟨g, 0 + ((D.length : Nat) : Int).toNat * 1, none⟩ = some (sv y) := hcell
            clear hcell
            refine goes_seq ?_
            refine goes_region ?_
            first
              | refine lst_run (run_lss_yes rfl rfl (by omega)) rfl ?_
              | refine lst_run (run_lss_no rfl rfl (by omega)) rfl ?_
              | refine lst_run (rfl) rfl ?_
            refine lst_done ?_
            refine goes_seq ?_
            refine goes_true rfl ?_
            refine goes_skip ?_
            refine goes_seq ?_
            refine goes_block ?_
            refine goes_seq ?_
            refine goes_region ?_
            refine lst_run (run_move (by conv => lhs; whnf)) rfl ?_
            refine lst_run (run_indexAddr (sz := 1) rfl rfl rfl rfl (by omega) (by omega)) rfl ?_
            first
              | refine lst_run (run_load1_own hS rfl rfl (by first | exact .head | exact .tail .head | exact .tail (.tail .head) | exact .tail (.tail (.tail .head)) | exact .tail (.tail (.tail (.tail .head))) | exact .tail (.tail (.tail (.tail (.tail .head))))) (by repeat constructor)) rfl ?_
              | refine lst_run (run_load1 rfl rfl (by first | assumption | exact hS.cell0 (by assumption) | exact lv_next hS | exact lv_list hS)) rfl ?_
            refine lst_run (run_assign (by conv => lhs; whnf)) rfl ?_
            refine lst_run (run_assign (by conv => lhs; whnf)) rfl ?_
            refine lst_done ?_
            refine goes_seq ?_
            refine goes_region ?_
            refine lst_run (run_move (by conv => lhs; whnf)) rfl ?_
            refine lst_run (run_move (by conv => lhs; whnf)) rfl ?_
            first
              | refine lst_run (run_eqlS_t rfl rfl (by assumption)) rfl ?_
              | refine lst_run (run_eqlS_f rfl rfl (by assumption)) rfl ?_
              | refine lst_run (run_eql_str rfl rfl) rfl ?_
              | refine lst_run (rfl) rfl ?_
            refine lst_done ?_
            refine goes_if rfl (fun h => ?_) (fun h => ?_)
            · obtain rfl : y = c :: r := by simpa using h
              have hm : (c :: r) ∈ vars := by rw [hD]; simp
              have ev : PS.var ⟨rest, vars, bad⟩ (c :: r) = (D.length, ⟨rest, vars, bad⟩) := by unfold PS.var; rw [if_pos hm, hD, idx_app q hx]
              rw [ev] at e0
              rw [e0]
              refine goes_seq ?_
              refine goes_region ?_
              refine lst_run (run_move (by conv => lhs; whnf)) rfl ?_
              refine lst_run (run_build (cells := [_, _, _, _]) (.cons (by conv => lhs; whnf) .nil) rfl) rfl ?_
              refine lst_storeN hS rfl (by conv => lhs; whnf) rfl rfl (by first | exact .head | exact .tail .head | exact .tail (.tail .head) | exact .tail (.tail (.tail .head)) | exact .tail (.tail (.tail (.tail .head))) | exact .tail (.tail (.tail (.tail (.tail .head))))) (by repeat constructor) (by first | exact .head | exact .tail .head | exact .tail (.tail .head) | exact .tail (.tail (.tail .head)) | exact .tail (.tail (.tail (.tail .head))) | exact .tail (.tail (.tail (.tail (.tail .head))))) ?_
              clear hS
              intro wx3 hS
              refine lst_done ?_
              refine goes_retC (sz := 4) hS Tryz.func19 rfl rfl rfl rfl (by first | exact .head | exact .tail .head | exact .tail (.tail .head) | exact .tail (.tail (.tail .head)) | exact .tail (.tail (.tail (.tail .head))) | exact .tail (.tail (.tail (.tail (.tail .head))))) (by repeat constructor) ?_
              exact ⟨.slice none 0 0, _, _, VH, rfl, hLt, hV, hS.drop.learn fun w _ => hnil w⟩
            · have h' : ¬ y = c :: r := by simpa using h
              refine goes_skip ?_
              refine goes_inBlock ?_
              refine goes_region ?_
              refine lst_run (run_add rfl rfl (by omega) (by omega)) rfl ?_
              refine lst_run (run_move (by conv => lhs; whnf)) rfl ?_
              refine lst_done ?_
              refine ih (q) _ _ _ ?_ ?_ ?_ (by conv => lhs; whnf) (by kernel_rfl)
              · simp
              · exact ⟨D ++ [y], by rw [hD, List.append_assoc]; rfl, by simp, by simp [hx]; exact fun e => h' e.symm⟩
              · exact hS
        | false =>
          rw [if_neg (by simp [hup])] at e0
          have hnu : ¬ (65 ≤ c.toNat ∧ c.toNat ≤ 90) := by
            intro h
            have : upB c = true := by simp [upB]; omega
            rw [this] at hup; cases hup
          cases hnb : ((c == 45) || digB c) with
          | true =>
            rw [if_pos hnb] at e0
            rw [e0]
            have hn65 : c.toNat < 65 := by
              have hh : ∀ n : Fin 256, ((UInt8.ofNat n.val == 45) || digB (UInt8.ofNat n.val)) = true → n.val < 65 := by decide +kernel
              have := hh ⟨c.toNat, c.toNat_lt⟩
              simp only [UInt8.ofNat_toNat] at this
              exact this hnb
            by_cases h45 : c = 45
            · have h45' : c.toNat = 45 := by rw [h45]; rfl
              skip
              cases bad with
              | true =>
                refine goes_enter2 Tryz.func19 rfl Tryz.ntmps19 rfl ?_
                refine goes_seq ?_
                refine goes_region ?_
                refine lst_alloc (cs := [_, _, _, _]) hS rfl rfl rfl ?_
                clear hS
                intro b1 wx1 hS
                refine lst_done ?_
                refine goes_seq ?_
                refine goes_region ?_
                refine lst_run (run_move (by conv => lhs; whnf)) rfl ?_
                refine lst_enter (run_call (by kernel_rfl) (args_1 (by conv => lhs; whnf))) rfl ?_
                refine Calls.mono (hfr _ _ hS.swap) ?_
                rintro _ w1 ⟨rfl, rfl⟩
                refine ⟨_, rfl, ?_⟩
                refine lst_run (run_assign (by conv => lhs; whnf)) rfl ?_
                refine lst_done ?_
                refine goes_seq ?_
                refine goes_seq ?_
                refine goes_region ?_
                refine lst_run (run_move (by conv => lhs; whnf)) rfl ?_
                first
                  | refine lst_run (run_eqlS_t rfl rfl (by assumption)) rfl ?_
                  | refine lst_run (run_eqlS_f rfl rfl (by assumption)) rfl ?_
                  | refine lst_run (run_eql_str rfl rfl) rfl ?_
                  | refine lst_run (rfl) rfl ?_
                refine lst_run (run_move (by conv => lhs; whnf)) rfl ?_
                refine lst_guard rfl rfl ?_
                refine lst_run (run_move (by conv => lhs; whnf)) rfl ?_
                refine lst_guard rfl rfl ?_
                first
                  | refine lst_run (run_eql_one_int rfl rfl) rfl ?_
                  | refine lst_run (run_eql_no rfl rfl (by first | assumption | omega)) rfl ?_
                  | refine lst_run (run_eql_yes rfl rfl (by omega)) rfl ?_
                  | refine lst_run (rfl) rfl ?_
                first
                  | refine lst_run (run_pick_t rfl (by conv => lhs; whnf)) rfl ?_
                  | refine lst_run (run_pick_f rfl (by conv => lhs; whnf)) rfl ?_
                refine lst_done ?_
                refine goes_false rfl ?_
                refine goes_skip ?_
                refine goes_seq ?_
                refine goes_region ?_
                refine lst_run (run_move (by conv => lhs; whnf)) rfl ?_
                refine lst_run (run_index_str rfl rfl rfl (by omega) (by first | rfl | assumption)) rfl ?_
                refine lst_run (run_assign (by conv => lhs; whnf)) rfl ?_
                refine lst_done ?_
                refine goes_seq ?_
                refine goes_block ?_
                refine goes_seq ?_
                refine goes_region ?_
                refine lst_run (run_move (by conv => lhs; whnf)) rfl ?_
                first
                  | refine lst_run (run_eqlS_t rfl rfl (by assumption)) rfl ?_
                  | refine lst_run (run_eqlS_f rfl rfl (by assumption)) rfl ?_
                  | refine lst_run (run_eql_str rfl rfl) rfl ?_
                  | refine lst_run (rfl) rfl ?_
                refine lst_run (run_assign (by conv => lhs; whnf)) rfl ?_
                refine lst_done ?_
                rw [hb]
                refine goes_false rfl ?_
                refine goes_seq ?_
                refine goes_region ?_
                refine lst_run (run_move (by conv => lhs; whnf)) rfl ?_
                first
                  | refine lst_run (run_geq_yes rfl rfl (by omega)) rfl ?_
                  | refine lst_run (run_geq_no rfl rfl (by omega)) rfl ?_
                  | refine lst_run (rfl) rfl ?_
                refine lst_run (run_move (by conv => lhs; whnf)) rfl ?_
                refine lst_pass rfl rfl rfl ?_
                refine lst_pass rfl rfl rfl ?_
                first
                  | refine lst_run (run_pick_t rfl (by conv => lhs; whnf)) rfl ?_
                  | refine lst_run (run_pick_f rfl (by conv => lhs; whnf)) rfl ?_
                refine lst_run (run_assign (by conv => lhs; whnf)) rfl ?_
                refine lst_done ?_
                refine goes_false rfl ?_
                refine goes_seq ?_
                refine goes_region ?_
                refine lst_run (run_move (by conv => lhs; whnf)) rfl ?_
                first
                  | refine lst_run (run_eql_one_int rfl rfl) rfl ?_
                  | refine lst_run (run_eql_no rfl rfl (by first | assumption | omega)) rfl ?_
                  | refine lst_run (run_eql_yes rfl rfl (by omega)) rfl ?_
                  | refine lst_run (rfl) rfl ?_
                refine lst_run (run_move (by conv => lhs; whnf)) rfl ?_
                refine lst_pass rfl rfl rfl ?_
                refine lst_pass rfl rfl rfl ?_
                refine lst_pass rfl rfl rfl ?_
                refine lst_passU rfl rfl ?_
                refine lst_passU rfl rfl ?_
                refine lst_pass rfl rfl rfl ?_
                first
                  | refine lst_run (run_pick_t rfl (by conv => lhs; whnf)) rfl ?_
                  | refine lst_run (run_pick_f rfl (by conv => lhs; whnf)) rfl ?_
                refine lst_run (run_assign (by conv => lhs; whnf)) rfl ?_
                refine lst_done ?_
                refine goes_true rfl ?_
                refine goes_seq ?_
                refine goes_region ?_
                refine lst_run (run_move (by conv => lhs; whnf)) rfl ?_
                refine lst_enter (run_call (by kernel_rfl) (args_1 (by conv => lhs; whnf))) rfl ?_
                refine Calls.mono (value_any (c :: r) _) ?_
                rintro _ w3 ⟨rfl, hb3⟩
                refine ⟨_, rfl, ?_⟩
                replace hS := hS.grow hb3
                refine lst_run (run_move (by conv => lhs; whnf)) rfl ?_
                refine lst_run (run_extract rfl rfl) rfl ?_
                refine lst_run (run_extract rfl rfl) rfl ?_
                refine lst_run (run_assign (by conv => lhs; whnf)) rfl ?_
                refine lst_run (run_assign (by conv => lhs; whnf)) rfl ?_
                refine lst_done ?_
                refine goes_seq ?_
                refine goes_region ?_
                refine lst_run (run_move (by conv => lhs; whnf)) rfl ?_
                refine lst_run (run_move (by conv => lhs; whnf)) rfl ?_
                refine lst_run (run_nilCheck rfl) rfl ?_
                refine lst_run (run_fieldAddr (off := 2) rfl rfl) rfl ?_
                first
                  | refine lst_run (run_load1_own hS rfl rfl (by first | exact .head | exact .tail .head | exact .tail (.tail .head) | exact .tail (.tail (.tail .head)) | exact .tail (.tail (.tail (.tail .head))) | exact .tail (.tail (.tail (.tail (.tail .head))))) (by repeat constructor)) rfl ?_
                  | refine lst_run (run_load1 rfl rfl (by first | assumption | exact hS.cell0 (by assumption) | exact lv_next hS | exact lv_list hS)) rfl ?_
                refine lst_run (run_move (by conv => lhs; whnf)) rfl ?_
                refine lst_pass rfl rfl rfl ?_
                refine lst_pass rfl rfl rfl ?_
                first
                  | refine lst_run (run_pick_t rfl (by conv => lhs; whnf)) rfl ?_
                  | refine lst_run (run_pick_f rfl (by conv => lhs; whnf)) rfl ?_
                refine lst_run (run_nilCheck rfl) rfl ?_
                refine lst_run (run_fieldAddr (off := 2) rfl rfl) rfl ?_
                refine lst_store1 hS rfl (by conv => lhs; whnf) rfl rfl (by first | exact .head | exact .tail .head | exact .tail (.tail .head) | exact .tail (.tail (.tail .head)) | exact .tail (.tail (.tail (.tail .head))) | exact .tail (.tail (.tail (.tail (.tail .head))))) (by repeat constructor) (by first | exact .head | exact .tail .head | exact .tail (.tail .head) | exact .tail (.tail (.tail .head)) | exact .tail (.tail (.tail (.tail .head))) | exact .tail (.tail (.tail (.tail (.tail .head))))) ?_
                clear hS
                intro wx2 hS
                refine lst_done ?_
                refine goes_seq ?_
                refine goes_region ?_
                refine lst_run (run_move (by conv => lhs; whnf)) rfl ?_
                refine lst_run (run_move (by conv => lhs; whnf)) rfl ?_
                refine lst_run (run_nilCheck rfl) rfl ?_
                refine lst_run (run_fieldAddr (off := 0) rfl rfl) rfl ?_
                first
                  | refine lst_run (run_load1_own hS rfl rfl (by first | exact .head | exact .tail .head | exact .tail (.tail .head) | exact .tail (.tail (.tail .head)) | exact .tail (.tail (.tail (.tail .head))) | exact .tail (.tail (.tail (.tail (.tail .head))))) (by repeat constructor)) rfl ?_
                  | refine lst_run (run_load1 rfl rfl (by first | assumption | exact hS.cell0 (by assumption) | exact lv_next hS | exact lv_list hS)) rfl ?_
                first
                  | refine lst_run (run_slice_lt (sz := 1) rfl rfl rfl rfl (by omega) (by omega) (by omega)) rfl ?_
                  | refine lst_run (run_slice_rest (sz := 1) rfl rfl rfl rfl (by omega) (by omega)) rfl ?_
                refine lst_run (run_nilCheck rfl) rfl ?_
                refine lst_run (run_fieldAddr (off := 0) rfl rfl) rfl ?_
                refine lst_store1 hS rfl (by conv => lhs; whnf) rfl rfl (by first | exact .head | exact .tail .head | exact .tail (.tail .head) | exact .tail (.tail (.tail .head)) | exact .tail (.tail (.tail (.tail .head))) | exact .tail (.tail (.tail (.tail (.tail .head))))) (by repeat constructor) (by first | exact .head | exact .tail .head | exact .tail (.tail .head) | exact .tail (.tail (.tail .head)) | exact .tail (.tail (.tail (.tail .head))) | exact .tail (.tail (.tail (.tail (.tail .head))))) ?_
                clear hS
                intro wx3 hS
                refine lst_done ?_
                refine goes_seq ?_
                refine goes_region ?_
                refine lst_run (run_move (by conv => lhs; whnf)) rfl ?_
                refine lst_run (run_build (cells := [_, _, _, _]) (.cons (by conv => lhs; whnf) (.cons (by conv => lhs; whnf) .nil)) rfl) rfl ?_
                refine lst_storeN hS rfl (by conv => lhs; whnf) rfl rfl (by first | exact .head | exact .tail .head | exact .tail (.tail .head) | exact .tail (.tail (.tail .head)) | exact .tail (.tail (.tail (.tail .head))) | exact .tail (.tail (.tail (.tail (.tail .head))))) (by repeat constructor) (by first | exact .head | exact .tail .head | exact .tail (.tail .head) | exact .tail (.tail (.tail .head)) | exact .tail (.tail (.tail (.tail .head))) | exact .tail (.tail (.tail (.tail (.tail .head))))) ?_
                clear hS
                intro wx4 hS
                refine lst_done ?_
                refine goes_retC (sz := 4) hS Tryz.func19 rfl rfl rfl rfl (by first | exact .head | exact .tail .head | exact .tail (.tail .head) | exact .tail (.tail (.tail .head)) | exact .tail (.tail (.tail (.tail .head))) | exact .tail (.tail (.tail (.tail (.tail .head))))) (by repeat constructor) ?_
                exact ⟨.slice none 0 0, _, _, VH, rfl, hLt, hV, hS.drop.learn fun w _ => hnil w⟩
              | false =>
                refine goes_enter2 Tryz.func19 rfl Tryz.ntmps19 rfl ?_
                refine goes_seq ?_
                refine goes_region ?_
                refine lst_alloc (cs := [_, _, _, _]) hS rfl rfl rfl ?_
                clear hS
                intro b1 wx1 hS
                refine lst_done ?_
                refine goes_seq ?_
                refine goes_region ?_
                refine lst_run (run_move (by conv => lhs; whnf)) rfl ?_
                refine lst_enter (run_call (by kernel_rfl) (args_1 (by conv => lhs; whnf))) rfl ?_
                refine Calls.mono (hfr _ _ hS.swap) ?_
                rintro _ w1 ⟨rfl, rfl⟩
                refine ⟨_, rfl, ?_⟩
                refine lst_run (run_assign (by conv => lhs; whnf)) rfl ?_
                refine lst_done ?_
                refine goes_seq ?_
                refine goes_seq ?_
                refine goes_region ?_
                refine lst_run (run_move (by conv => lhs; whnf)) rfl ?_
                first
                  | refine lst_run (run_eqlS_t rfl rfl (by assumption)) rfl ?_
                  | refine lst_run (run_eqlS_f rfl rfl (by assumption)) rfl ?_
                  | refine lst_run (run_eql_str rfl rfl) rfl ?_
                  | refine lst_run (rfl) rfl ?_
                refine lst_run (run_move (by conv => lhs; whnf)) rfl ?_
                refine lst_guard rfl rfl ?_
                refine lst_run (run_move (by conv => lhs; whnf)) rfl ?_
                refine lst_guard rfl rfl ?_
                first
                  | refine lst_run (run_eql_one_int rfl rfl) rfl ?_
                  | refine lst_run (run_eql_no rfl rfl (by first | assumption | omega)) rfl ?_
                  | refine lst_run (run_eql_yes rfl rfl (by omega)) rfl ?_
                  | refine lst_run (rfl) rfl ?_
                first
                  | refine lst_run (run_pick_t rfl (by conv => lhs; whnf)) rfl ?_
                  | refine lst_run (run_pick_f rfl (by conv => lhs; whnf)) rfl ?_
                refine lst_done ?_
                refine goes_false rfl ?_
                refine goes_skip ?_
                refine goes_seq ?_
                refine goes_region ?_
                refine lst_run (run_move (by conv => lhs; whnf)) rfl ?_
                refine lst_run (run_index_str rfl rfl rfl (by omega) (by first | rfl | assumption)) rfl ?_
                refine lst_run (run_assign (by conv => lhs; whnf)) rfl ?_
                refine lst_done ?_
                refine goes_seq ?_
                refine goes_block ?_
                refine goes_seq ?_
                refine goes_region ?_
                refine lst_run (run_move (by conv => lhs; whnf)) rfl ?_
                first
                  | refine lst_run (run_eqlS_t rfl rfl (by assumption)) rfl ?_
                  | refine lst_run (run_eqlS_f rfl rfl (by assumption)) rfl ?_
                  | refine lst_run (run_eql_str rfl rfl) rfl ?_
                  | refine lst_run (rfl) rfl ?_
                refine lst_run (run_assign (by conv => lhs; whnf)) rfl ?_
                refine lst_done ?_
                rw [hb]
                refine goes_false rfl ?_
                refine goes_seq ?_
                refine goes_region ?_
                refine lst_run (run_move (by conv => lhs; whnf)) rfl ?_
                first
                  | refine lst_run (run_geq_yes rfl rfl (by omega)) rfl ?_
                  | refine lst_run (run_geq_no rfl rfl (by omega)) rfl ?_
                  | refine lst_run (rfl) rfl ?_
                refine lst_run (run_move (by conv => lhs; whnf)) rfl ?_
                refine lst_pass rfl rfl rfl ?_
                refine lst_pass rfl rfl rfl ?_
                first
                  | refine lst_run (run_pick_t rfl (by conv => lhs; whnf)) rfl ?_
                  | refine lst_run (run_pick_f rfl (by conv => lhs; whnf)) rfl ?_
                refine lst_run (run_assign (by conv => lhs; whnf)) rfl ?_
                refine lst_done ?_
                refine goes_false rfl ?_
                refine goes_seq ?_
                refine goes_region ?_
                refine lst_run (run_move (by conv => lhs; whnf)) rfl ?_
                first
                  | refine lst_run (run_eql_one_int rfl rfl) rfl ?_
                  | refine lst_run (run_eql_no rfl rfl (by first | assumption | omega)) rfl ?_
                  | refine lst_run (run_eql_yes rfl rfl (by omega)) rfl ?_
                  | refine lst_run (rfl) rfl ?_
                refine lst_run (run_move (by conv => lhs; whnf)) rfl ?_
                refine lst_pass rfl rfl rfl ?_
                refine lst_pass rfl rfl rfl ?_
                refine lst_pass rfl rfl rfl ?_
                refine lst_passU rfl rfl ?_
                refine lst_passU rfl rfl ?_
                refine lst_pass rfl rfl rfl ?_
                first
                  | refine lst_run (run_pick_t rfl (by conv => lhs; whnf)) rfl ?_
                  | refine lst_run (run_pick_f rfl (by conv => lhs; whnf)) rfl ?_
                refine lst_run (run_assign (by conv => lhs; whnf)) rfl ?_
                refine lst_done ?_
                refine goes_true rfl ?_
                refine goes_seq ?_
                refine goes_region ?_
                refine lst_run (run_move (by conv => lhs; whnf)) rfl ?_
                refine lst_enter (run_call (by kernel_rfl) (args_1 (by conv => lhs; whnf))) rfl ?_
                refine Calls.mono (value_any (c :: r) _) ?_
                rintro _ w3 ⟨rfl, hb3⟩
                refine ⟨_, rfl, ?_⟩
                replace hS := hS.grow hb3
                refine lst_run (run_move (by conv => lhs; whnf)) rfl ?_
                refine lst_run (run_extract rfl rfl) rfl ?_
                refine lst_run (run_extract rfl rfl) rfl ?_
                refine lst_run (run_assign (by conv => lhs; whnf)) rfl ?_
                refine lst_run (run_assign (by conv => lhs; whnf)) rfl ?_
                refine lst_done ?_
                refine goes_seq ?_
                refine goes_region ?_
                refine lst_run (run_move (by conv => lhs; whnf)) rfl ?_
                refine lst_run (run_move (by conv => lhs; whnf)) rfl ?_
                refine lst_run (run_nilCheck rfl) rfl ?_
                refine lst_run (run_fieldAddr (off := 2) rfl rfl) rfl ?_
                first
                  | refine lst_run (run_load1_own hS rfl rfl (by first | exact .head | exact .tail .head | exact .tail (.tail .head) | exact .tail (.tail (.tail .head)) | exact .tail (.tail (.tail (.tail .head))) | exact .tail (.tail (.tail (.tail (.tail .head))))) (by repeat constructor)) rfl ?_
                  | refine lst_run (run_load1 rfl rfl (by first | assumption | exact hS.cell0 (by assumption) | exact lv_next hS | exact lv_list hS)) rfl ?_
                refine lst_run (run_move (by conv => lhs; whnf)) rfl ?_
                refine lst_guard rfl rfl ?_
                refine lst_run (run_move (by conv => lhs; whnf)) rfl ?_
                refine lst_guard rfl rfl ?_
                refine lst_run (rfl) rfl ?_
                first
                  | refine lst_run (run_pick_t rfl (by conv => lhs; whnf)) rfl ?_
                  | refine lst_run (run_pick_f rfl (by conv => lhs; whnf)) rfl ?_
                refine lst_run (run_nilCheck rfl) rfl ?_
                refine lst_run (run_fieldAddr (off := 2) rfl rfl) rfl ?_
                refine lst_store1 hS rfl (by conv => lhs; whnf) rfl rfl (by first | exact .head | exact .tail .head | exact .tail (.tail .head) | exact .tail (.tail (.tail .head)) | exact .tail (.tail (.tail (.tail .head))) | exact .tail (.tail (.tail (.tail (.tail .head))))) (by repeat constructor) (by first | exact .head | exact .tail .head | exact .tail (.tail .head) | exact .tail (.tail (.tail .head)) | exact .tail (.tail (.tail (.tail .head))) | exact .tail (.tail (.tail (.tail (.tail .head))))) ?_
                clear hS
                intro wx2 hS
                refine lst_done ?_
                refine goes_seq ?_
                refine goes_region ?_
                refine lst_run (run_move (by conv => lhs; whnf)) rfl ?_
                refine lst_run (run_move (by conv => lhs; whnf)) rfl ?_
                refine lst_run (run_nilCheck rfl) rfl ?_
                refine lst_run (run_fieldAddr (off := 0) rfl rfl) rfl ?_
                first
                  | refine lst_run (run_load1_own hS rfl rfl (by first | exact .head | exact .tail .head | exact .tail (.tail .head) | exact .tail (.tail (.tail .head)) | exact .tail (.tail (.tail (.tail .head))) | exact .tail (.tail (.tail (.tail (.tail .head))))) (by repeat constructor)) rfl ?_
                  | refine lst_run (run_load1 rfl rfl (by first | assumption | exact hS.cell0 (by assumption) | exact lv_next hS | exact lv_list hS)) rfl ?_
                first
                  | refine lst_run (run_slice_lt (sz := 1) rfl rfl rfl rfl (by omega) (by omega) (by omega)) rfl ?_
                  | refine lst_run (run_slice_rest (sz := 1) rfl rfl rfl rfl (by omega) (by omega)) rfl ?_
                refine lst_run (run_nilCheck rfl) rfl ?_
                refine lst_run (run_fieldAddr (off := 0) rfl rfl) rfl ?_
                refine lst_store1 hS rfl (by conv => lhs; whnf) rfl rfl (by first | exact .head | exact .tail .head | exact .tail (.tail .head) | exact .tail (.tail (.tail .head)) | exact .tail (.tail (.tail (.tail .head))) | exact .tail (.tail (.tail (.tail (.tail .head))))) (by repeat constructor) (by first | exact .head | exact .tail .head | exact .tail (.tail .head) | exact .tail (.tail (.tail .head)) | exact .tail (.tail (.tail (.tail .head))) | exact .tail (.tail (.tail (.tail (.tail .head))))) ?_
                clear hS
                intro wx3 hS
                refine lst_done ?_
                refine goes_seq ?_
                refine goes_region ?_
                refine lst_run (run_move (by conv => lhs; whnf)) rfl ?_
                refine lst_run (run_build (cells := [_, _, _, _]) (.cons (by conv => lhs; whnf) (.cons (by conv => lhs; whnf) .nil)) rfl) rfl ?_
                refine lst_storeN hS rfl (by conv => lhs; whnf) rfl rfl (by first | exact .head | exact .tail .head | exact .tail (.tail .head) | exact .tail (.tail (.tail .head)) | exact .tail (.tail (.tail (.tail .head))) | exact .tail (.tail (.tail (.tail (.tail .head))))) (by repeat constructor) (by first | exact .head | exact .tail .head | exact .tail (.tail .head) | exact .tail (.tail (.tail .head)) | exact .tail (.tail (.tail (.tail .head))) | exact .tail (.tail (.tail (.tail (.tail .head))))) ?_
                clear hS
                intro wx4 hS
                refine lst_done ?_
                refine goes_retC (sz := 4) hS Tryz.func19 rfl rfl rfl rfl (by first | exact .head | exact .tail .head | exact .tail (.tail .head) | exact .tail (.tail (.tail .head)) | exact .tail (.tail (.tail (.tail .head))) | exact .tail (.tail (.tail (.tail (.tail .head))))) (by repeat constructor) ?_
                refine ⟨.slice none 0 0, _, _, VH, rfl, hLt, hV, ?_⟩
                have hq := hS.drop.learn (φ := fun w => Sl w (fun _ => True) (.slice none 0 0) .nil) fun w _ => hnil w
                simpa using hq
            · have h45' : c.toNat ≠ 45 := fun h => h45 (u8_eq (n := 45) h)
              have hdd : 48 ≤ c.toNat ∧ c.toNat ≤ 57 := by simp [h45, digB] at hnb; omega
              skip
              cases bad with
              | true =>
                refine goes_enter2 Tryz.func19 rfl Tryz.ntmps19 rfl ?_
                refine goes_seq ?_
                refine goes_region ?_
                refine lst_alloc (cs := [_, _, _, _]) hS rfl rfl rfl ?_
                clear hS
                intro b1 wx1 hS
                refine lst_done ?_
                refine goes_seq ?_
                refine goes_region ?_
                refine lst_run (run_move (by conv => lhs; whnf)) rfl ?_
                refine lst_enter (run_call (by kernel_rfl) (args_1 (by conv => lhs; whnf))) rfl ?_
                refine Calls.mono (hfr _ _ hS.swap) ?_
                rintro _ w1 ⟨rfl, rfl⟩
                refine ⟨_, rfl, ?_⟩
                refine lst_run (run_assign (by conv => lhs; whnf)) rfl ?_
                refine lst_done ?_
                refine goes_seq ?_
                refine goes_seq ?_
                refine goes_region ?_
                refine lst_run (run_move (by conv => lhs; whnf)) rfl ?_
                first
                  | refine lst_run (run_eqlS_t rfl rfl (by assumption)) rfl ?_
                  | refine lst_run (run_eqlS_f rfl rfl (by assumption)) rfl ?_
                  | refine lst_run (run_eql_str rfl rfl) rfl ?_
                  | refine lst_run (rfl) rfl ?_
                refine lst_run (run_move (by conv => lhs; whnf)) rfl ?_
                refine lst_guard rfl rfl ?_
                refine lst_run (run_move (by conv => lhs; whnf)) rfl ?_
                refine lst_guard rfl rfl ?_
                first
                  | refine lst_run (run_eql_one_int rfl rfl) rfl ?_
                  | refine lst_run (run_eql_no rfl rfl (by first | assumption | omega)) rfl ?_
                  | refine lst_run (run_eql_yes rfl rfl (by omega)) rfl ?_
                  | refine lst_run (rfl) rfl ?_
                first
                  | refine lst_run (run_pick_t rfl (by conv => lhs; whnf)) rfl ?_
                  | refine lst_run (run_pick_f rfl (by conv => lhs; whnf)) rfl ?_
                refine lst_done ?_
                refine goes_false rfl ?_
                refine goes_skip ?_
                refine goes_seq ?_
                refine goes_region ?_
                refine lst_run (run_move (by conv => lhs; whnf)) rfl ?_
                refine lst_run (run_index_str rfl rfl rfl (by omega) (by first | rfl | assumption)) rfl ?_
                refine lst_run (run_assign (by conv => lhs; whnf)) rfl ?_
                refine lst_done ?_
                refine goes_seq ?_
                refine goes_block ?_
                refine goes_seq ?_
                refine goes_region ?_
                refine lst_run (run_move (by conv => lhs; whnf)) rfl ?_
                first
                  | refine lst_run (run_eqlS_t rfl rfl (by assumption)) rfl ?_
                  | refine lst_run (run_eqlS_f rfl rfl (by assumption)) rfl ?_
                  | refine lst_run (run_eql_str rfl rfl) rfl ?_
                  | refine lst_run (rfl) rfl ?_
                refine lst_run (run_assign (by conv => lhs; whnf)) rfl ?_
                refine lst_done ?_
                rw [hb]
                refine goes_false rfl ?_
                refine goes_seq ?_
                refine goes_region ?_
                refine lst_run (run_move (by conv => lhs; whnf)) rfl ?_
                first
                  | refine lst_run (run_geq_yes rfl rfl (by omega)) rfl ?_
                  | refine lst_run (run_geq_no rfl rfl (by omega)) rfl ?_
                  | refine lst_run (rfl) rfl ?_
                refine lst_run (run_move (by conv => lhs; whnf)) rfl ?_
                refine lst_pass rfl rfl rfl ?_
                refine lst_pass rfl rfl rfl ?_
                first
                  | refine lst_run (run_pick_t rfl (by conv => lhs; whnf)) rfl ?_
                  | refine lst_run (run_pick_f rfl (by conv => lhs; whnf)) rfl ?_
                refine lst_run (run_assign (by conv => lhs; whnf)) rfl ?_
                refine lst_done ?_
                refine goes_false rfl ?_
                refine goes_seq ?_
                refine goes_region ?_
                refine lst_run (run_move (by conv => lhs; whnf)) rfl ?_
                first
                  | refine lst_run (run_eql_one_int rfl rfl) rfl ?_
                  | refine lst_run (run_eql_no rfl rfl (by first | assumption | omega)) rfl ?_
                  | refine lst_run (run_eql_yes rfl rfl (by omega)) rfl ?_
                  | refine lst_run (rfl) rfl ?_
                refine lst_run (run_move (by conv => lhs; whnf)) rfl ?_
                refine lst_guard rfl rfl ?_
                refine lst_run (run_move (by conv => lhs; whnf)) rfl ?_
                refine lst_guard rfl rfl ?_
                first
                  | refine lst_run (run_geq_yes rfl rfl (by omega)) rfl ?_
                  | refine lst_run (run_geq_no rfl rfl (by omega)) rfl ?_
                  | refine lst_run (rfl) rfl ?_
                refine lst_guard rfl rfl ?_
                refine lst_run (run_move (by conv => lhs; whnf)) rfl ?_
                refine lst_guard rfl rfl ?_
                refine lst_run (run_move (by conv => lhs; whnf)) rfl ?_
                refine lst_guard rfl rfl ?_
                first
                  | refine lst_run (run_leq_yes rfl rfl (by omega)) rfl ?_
                  | refine lst_run (run_leq_no rfl rfl (by omega)) rfl ?_
                  | refine lst_run (rfl) rfl ?_
                refine lst_guard rfl rfl ?_
                first
                  | refine lst_run (run_pick_t rfl (by conv => lhs; whnf)) rfl ?_
                  | refine lst_run (run_pick_f rfl (by conv => lhs; whnf)) rfl ?_
                first
                  | refine lst_run (run_pick_t rfl (by conv => lhs; whnf)) rfl ?_
                  | refine lst_run (run_pick_f rfl (by conv => lhs; whnf)) rfl ?_
                refine lst_run (run_assign (by conv => lhs; whnf)) rfl ?_
                refine lst_done ?_
                refine goes_true rfl ?_
                refine goes_seq ?_
                refine goes_region ?_
                refine lst_run (run_move (by conv => lhs; whnf)) rfl ?_
                refine lst_enter (run_call (by kernel_rfl) (args_1 (by conv => lhs; whnf))) rfl ?_
                refine Calls.mono (value_any (c :: r) _) ?_
                rintro _ w3 ⟨rfl, hb3⟩
                refine ⟨_, rfl, ?_⟩
                replace hS := hS.grow hb3
                refine lst_run (run_move (by conv => lhs; whnf)) rfl ?_
                refine lst_run (run_extract rfl rfl) rfl ?_
                refine lst_run (run_extract rfl rfl) rfl ?_
                refine lst_run (run_assign (by conv => lhs; whnf)) rfl ?_
                refine lst_run (run_assign (by conv => lhs; whnf)) rfl ?_
                refine lst_done ?_
                refine goes_seq ?_
                refine goes_region ?_
                refine lst_run (run_move (by conv => lhs; whnf)) rfl ?_
                refine lst_run (run_move (by conv => lhs; whnf)) rfl ?_
                refine lst_run (run_nilCheck rfl) rfl ?_
                refine lst_run (run_fieldAddr (off := 2) rfl rfl) rfl ?_
                first
                  | refine lst_run (run_load1_own hS rfl rfl (by first | exact .head | exact .tail .head | exact .tail (.tail .head) | exact .tail (.tail (.tail .head)) | exact .tail (.tail (.tail (.tail .head))) | exact .tail (.tail (.tail (.tail (.tail .head))))) (by repeat constructor)) rfl ?_
                  | refine lst_run (run_load1 rfl rfl (by first | assumption | exact hS.cell0 (by assumption) | exact lv_next hS | exact lv_list hS)) rfl ?_
                refine lst_run (run_move (by conv => lhs; whnf)) rfl ?_
                refine lst_pass rfl rfl rfl ?_
                refine lst_pass rfl rfl rfl ?_
                first
                  | refine lst_run (run_pick_t rfl (by conv => lhs; whnf)) rfl ?_
                  | refine lst_run (run_pick_f rfl (by conv => lhs; whnf)) rfl ?_
                refine lst_run (run_nilCheck rfl) rfl ?_
                refine lst_run (run_fieldAddr (off := 2) rfl rfl) rfl ?_
                refine lst_store1 hS rfl (by conv => lhs; whnf) rfl rfl (by first | exact .head | exact .tail .head | exact .tail (.tail .head) | exact .tail (.tail (.tail .head)) | exact .tail (.tail (.tail (.tail .head))) | exact .tail (.tail (.tail (.tail (.tail .head))))) (by repeat constructor) (by first | exact .head | exact .tail .head | exact .tail (.tail .head) | exact .tail (.tail (.tail .head)) | exact .tail (.tail (.tail (.tail .head))) | exact .tail (.tail (.tail (.tail (.tail .head))))) ?_
                clear hS
                intro wx2 hS
                refine lst_done ?_
                refine goes_seq ?_
                refine goes_region ?_
                refine lst_run (run_move (by conv => lhs; whnf)) rfl ?_
                refine lst_run (run_move (by conv => lhs; whnf)) rfl ?_
                refine lst_run (run_nilCheck rfl) rfl ?_
                refine lst_run (run_fieldAddr (off := 0) rfl rfl) rfl ?_
                first
                  | refine lst_run (run_load1_own hS rfl rfl (by first | exact .head | exact .tail .head | exact .tail (.tail .head) | exact .tail (.tail (.tail .head)) | exact .tail (.tail (.tail (.tail .head))) | exact .tail (.tail (.tail (.tail (.tail .head))))) (by repeat constructor)) rfl ?_
                  | refine lst_run (run_load1 rfl rfl (by first | assumption | exact hS.cell0 (by assumption) | exact lv_next hS | exact lv_list hS)) rfl ?_
                first
                  | refine lst_run (run_slice_lt (sz := 1) rfl rfl rfl rfl (by omega) (by omega) (by omega)) rfl ?_
                  | refine lst_run (run_slice_rest (sz := 1) rfl rfl rfl rfl (by omega) (by omega)) rfl ?_
                refine lst_run (run_nilCheck rfl) rfl ?_
                refine lst_run (run_fieldAddr (off := 0) rfl rfl) rfl ?_
                refine lst_store1 hS rfl (by conv => lhs; whnf) rfl rfl (by first | exact .head | exact .tail .head | exact .tail (.tail .head) | exact .tail (.tail (.tail .head)) | exact .tail (.tail (.tail (.tail .head))) | exact .tail (.tail (.tail (.tail (.tail .head))))) (by repeat constructor) (by first | exact .head | exact .tail .head | exact .tail (.tail .head) | exact .tail (.tail (.tail .head)) | exact .tail (.tail (.tail (.tail .head))) | exact .tail (.tail (.tail (.tail (.tail .head))))) ?_
                clear hS
                intro wx3 hS
                refine lst_done ?_
                refine goes_seq ?_
                refine goes_region ?_
                refine lst_run (run_move (by conv => lhs; whnf)) rfl ?_
                refine lst_run (run_build (cells := [_, _, _, _]) (.cons (by conv => lhs; whnf) (.cons (by conv => lhs; whnf) .nil)) rfl) rfl ?_
                refine lst_storeN hS rfl (by conv => lhs; whnf) rfl rfl (by first | exact .head | exact .tail .head | exact .tail (.tail .head) | exact .tail (.tail (.tail .head)) | exact .tail (.tail (.tail (.tail .head))) | exact .tail (.tail (.tail (.tail (.tail .head))))) (by repeat constructor) (by first | exact .head | exact .tail .head | exact .tail (.tail .head) | exact .tail (.tail (.tail .head)) | exact .tail (.tail (.tail (.tail .head))) | exact .tail (.tail (.tail (.tail (.tail .head))))) ?_
                clear hS
                intro wx4 hS
                refine lst_done ?_
                refine goes_retC (sz := 4) hS Tryz.func19 rfl rfl rfl rfl (by first | exact .head | exact .tail .head | exact .tail (.tail .head) | exact .tail (.tail (.tail .head)) | exact .tail (.tail (.tail (.tail .head))) | exact .tail (.tail (.tail (.tail (.tail .head))))) (by repeat constructor) ?_
                exact ⟨.slice none 0 0, _, _, VH, rfl, hLt, hV, hS.drop.learn fun w _ => hnil w⟩
              | false =>
                refine goes_enter2 Tryz.func19 rfl Tryz.ntmps19 rfl ?_
                refine goes_seq ?_
                refine goes_region ?_
                refine lst_alloc (cs := [_, _, _, _]) hS rfl rfl rfl ?_
                clear hS
                intro b1 wx1 hS
                refine lst_done ?_
                refine goes_seq ?_
                refine goes_region ?_
                refine lst_run (run_move (by conv => lhs; whnf)) rfl ?_
                refine lst_enter (run_call (by kernel_rfl) (args_1 (by conv => lhs; whnf))) rfl ?_
                refine Calls.mono (hfr _ _ hS.swap) ?_
                rintro _ w1 ⟨rfl, rfl⟩
                refine ⟨_, rfl, ?_⟩
                refine lst_run (run_assign (by conv => lhs; whnf)) rfl ?_
                refine lst_done ?_
                refine goes_seq ?_
                refine goes_seq ?_
                refine goes_region ?_
                refine lst_run (run_move (by conv => lhs; whnf)) rfl ?_
                first
                  | refine lst_run (run_eqlS_t rfl rfl (by assumption)) rfl ?_
                  | refine lst_run (run_eqlS_f rfl rfl (by assumption)) rfl ?_
                  | refine lst_run (run_eql_str rfl rfl) rfl ?_
                  | refine lst_run (rfl) rfl ?_
                refine lst_run (run_move (by conv => lhs; whnf)) rfl ?_
                refine lst_guard rfl rfl ?_
                refine lst_run (run_move (by conv => lhs; whnf)) rfl ?_
                refine lst_guard rfl rfl ?_
                first
                  | refine lst_run (run_eql_one_int rfl rfl) rfl ?_
                  | refine lst_run (run_eql_no rfl rfl (by first | assumption | omega)) rfl ?_
                  | refine lst_run (run_eql_yes rfl rfl (by omega)) rfl ?_
                  | refine lst_run (rfl) rfl ?_
                first
                  | refine lst_run (run_pick_t rfl (by conv => lhs; whnf)) rfl ?_
                  | refine lst_run (run_pick_f rfl (by conv => lhs; whnf)) rfl ?_
                refine lst_done ?_
                refine goes_false rfl ?_
                refine goes_skip ?_
                refine goes_seq ?_
                refine goes_region ?_
                refine lst_run (run_move (by conv => lhs; whnf)) rfl ?_
                refine lst_run (run_index_str rfl rfl rfl (by omega) (by first | rfl | assumption)) rfl ?_
                refine lst_run (run_assign (by conv => lhs; whnf)) rfl ?_
                refine lst_done ?_
                refine goes_seq ?_
                refine goes_block ?_
                refine goes_seq ?_
                refine goes_region ?_
                refine lst_run (run_move (by conv => lhs; whnf)) rfl ?_
                first
                  | refine lst_run (run_eqlS_t rfl rfl (by assumption)) rfl ?_
                  | refine lst_run (run_eqlS_f rfl rfl (by assumption)) rfl ?_
                  | refine lst_run (run_eql_str rfl rfl) rfl ?_
                  | refine lst_run (rfl) rfl ?_
                refine lst_run (run_assign (by conv => lhs; whnf)) rfl ?_
                refine lst_done ?_
                rw [hb]
                refine goes_false rfl ?_
                refine goes_seq ?_
                refine goes_region ?_
                refine lst_run (run_move (by conv => lhs; whnf)) rfl ?_
                first
                  | refine lst_run (run_geq_yes rfl rfl (by omega)) rfl ?_
                  | refine lst_run (run_geq_no rfl rfl (by omega)) rfl ?_
                  | refine lst_run (rfl) rfl ?_
                refine lst_run (run_move (by conv => lhs; whnf)) rfl ?_
                refine lst_pass rfl rfl rfl ?_
                refine lst_pass rfl rfl rfl ?_
                first
                  | refine lst_run (run_pick_t rfl (by conv => lhs; whnf)) rfl ?_
                  | refine lst_run (run_pick_f rfl (by conv => lhs; whnf)) rfl ?_
                refine lst_run (run_assign (by conv => lhs; whnf)) rfl ?_
                refine lst_done ?_
                refine goes_false rfl ?_
                refine goes_seq ?_
                refine goes_region ?_
                refine lst_run (run_move (by conv => lhs; whnf)) rfl ?_
                first
                  | refine lst_run (run_eql_one_int rfl rfl) rfl ?_
                  | refine lst_run (run_eql_no rfl rfl (by first | assumption | omega)) rfl ?_
                  | refine lst_run (run_eql_yes rfl rfl (by omega)) rfl ?_
                  | refine lst_run (rfl) rfl ?_
                refine lst_run (run_move (by conv => lhs; whnf)) rfl ?_
                refine lst_guard rfl rfl ?_
                refine lst_run (run_move (by conv => lhs; whnf)) rfl ?_
                refine lst_guard rfl rfl ?_
                first
                  | refine lst_run (run_geq_yes rfl rfl (by omega)) rfl ?_
                  | refine lst_run (run_geq_no rfl rfl (by omega)) rfl ?_
                  | refine lst_run (rfl) rfl ?_
                refine lst_guard rfl rfl ?_
                refine lst_run (run_move (by conv => lhs; whnf)) rfl ?_
                refine lst_guard rfl rfl ?_
                refine lst_run (run_move (by conv => lhs; whnf)) rfl ?_
                refine lst_guard rfl rfl ?_
                first
                  | refine lst_run (run_leq_yes rfl rfl (by omega)) rfl ?_
                  | refine lst_run (run_leq_no rfl rfl (by omega)) rfl ?_
                  | refine lst_run (rfl) rfl ?_
                refine lst_guard rfl rfl ?_
                first
                  | refine lst_run (run_pick_t rfl (by conv => lhs; whnf)) rfl ?_
                  | refine lst_run (run_pick_f rfl (by conv => lhs; whnf)) rfl ?_
                first
                  | refine lst_run (run_pick_t rfl (by conv => lhs; whnf)) rfl ?_
                  | refine lst_run (run_pick_f rfl (by conv => lhs; whnf)) rfl ?_
                refine lst_run (run_assign (by conv => lhs; whnf)) rfl ?_
                refine lst_done ?_
                refine goes_true rfl ?_
                refine goes_seq ?_
                refine goes_region ?_
                refine lst_run (run_move (by conv => lhs; whnf)) rfl ?_
                refine lst_enter (run_call (by kernel_rfl) (args_1 (by conv => lhs; whnf))) rfl ?_
                refine Calls.mono (value_any (c :: r) _) ?_
                rintro _ w3 ⟨rfl, hb3⟩
                refine ⟨_, rfl, ?_⟩
                replace hS := hS.grow hb3
                refine lst_run (run_move (by conv => lhs; whnf)) rfl ?_
                refine lst_run (run_extract rfl rfl) rfl ?_
                refine lst_run (run_extract rfl rfl) rfl ?_
                refine lst_run (run_assign (by conv => lhs; whnf)) rfl ?_
                refine lst_run (run_assign (by conv => lhs; whnf)) rfl ?_
                refine lst_done ?_
                refine goes_seq ?_
                refine goes_region ?_
                refine lst_run (run_move (by conv => lhs; whnf)) rfl ?_
                refine lst_run (run_move (by conv => lhs; whnf)) rfl ?_
                refine lst_run (run_nilCheck rfl) rfl ?_
                refine lst_run (run_fieldAddr (off := 2) rfl rfl) rfl ?_
                first
                  | refine lst_run (run_load1_own hS rfl rfl (by first | exact .head | exact .tail .head | exact .tail (.tail .head) | exact .tail (.tail (.tail .head)) | exact .tail (.tail (.tail (.tail .head))) | exact .tail (.tail (.tail (.tail (.tail .head))))) (by repeat constructor)) rfl ?_
                  | refine lst_run (run_load1 rfl rfl (by first | assumption | exact hS.cell0 (by assumption) | exact lv_next hS | exact lv_list hS)) rfl ?_
                refine lst_run (run_move (by conv => lhs; whnf)) rfl ?_
                refine lst_guard rfl rfl ?_
                refine lst_run (run_move (by conv => lhs; whnf)) rfl ?_
                refine lst_guard rfl rfl ?_
                refine lst_run (rfl) rfl ?_
                first
                  | refine lst_run (run_pick_t rfl (by conv => lhs; whnf)) rfl ?_
                  | refine lst_run (run_pick_f rfl (by conv => lhs; whnf)) rfl ?_
                refine lst_run (run_nilCheck rfl) rfl ?_
                refine lst_run (run_fieldAddr (off := 2) rfl rfl) rfl ?_
                refine lst_store1 hS rfl (by conv => lhs; whnf) rfl rfl (by first | exact .head | exact .tail .head | exact .tail (.tail .head) | exact .tail (.tail (.tail .head)) | exact .tail (.tail (.tail (.tail .head))) | exact .tail (.tail (.tail (.tail (.tail .head))))) (by repeat constructor) (by first | exact .head | exact .tail .head | exact .tail (.tail .head) | exact .tail (.tail (.tail .head)) | exact .tail (.tail (.tail (.tail .head))) | exact .tail (.tail (.tail (.tail (.tail .head))))) ?_
                clear hS
                intro wx2 hS
                refine lst_done ?_
                refine goes_seq ?_
                refine goes_region ?_
                refine lst_run (run_move (by conv => lhs; whnf)) rfl ?_
                refine lst_run (run_move (by conv => lhs; whnf)) rfl ?_
                refine lst_run (run_nilCheck rfl) rfl ?_
                refine lst_run (run_fieldAddr (off := 0) rfl rfl) rfl ?_
                first
                  | refine lst_run (run_load1_own hS rfl rfl (by first | exact .head | exact .tail .head | exact .tail (.tail .head) | exact .tail (.tail (.tail .head)) | exact .tail (.tail (.tail (.tail .head))) | exact .tail (.tail (.tail (.tail (.tail .head))))) (by repeat constructor)) rfl ?_
                  | refine lst_run (run_load1 rfl rfl (by first | assumption | exact hS.cell0 (by assumption) | exact lv_next hS | exact lv_list hS)) rfl ?_
                first
                  | refine lst_run (run_slice_lt (sz := 1) rfl rfl rfl rfl (by omega) (by omega) (by omega)) rfl ?_
                  | refine lst_run (run_slice_rest (sz := 1) rfl rfl rfl rfl (by omega) (by omega)) rfl ?_
                refine lst_run (run_nilCheck rfl) rfl ?_
                refine lst_run (run_fieldAddr (off := 0) rfl rfl) rfl ?_
                refine lst_store1 hS rfl (by conv => lhs; whnf) rfl rfl (by first | exact .head | exact .tail .head | exact .tail (.tail .head) | exact .tail (.tail (.tail .head)) | exact .tail (.tail (.tail (.tail .head))) | exact .tail (.tail (.tail (.tail (.tail .head))))) (by repeat constructor) (by first | exact .head | exact .tail .head | exact .tail (.tail .head) | exact .tail (.tail (.tail .head)) | exact .tail (.tail (.tail (.tail .head))) | exact .tail (.tail (.tail (.tail (.tail .head))))) ?_
                clear hS
                intro wx3 hS
                refine lst_done ?_
                refine goes_seq ?_
                refine goes_region ?_
                refine lst_run (run_move (by conv => lhs; whnf)) rfl ?_
                refine lst_run (run_build (cells := [_, _, _, _]) (.cons (by conv => lhs; whnf) (.cons (by conv => lhs; whnf) .nil)) rfl) rfl ?_
                refine lst_storeN hS rfl (by conv => lhs; whnf) rfl rfl (by first | exact .head | exact .tail .head | exact .tail (.tail .head) | exact .tail (.tail (.tail .head)) | exact .tail (.tail (.tail (.tail .head))) | exact .tail (.tail (.tail (.tail (.tail .head))))) (by repeat constructor) (by first | exact .head | exact .tail .head | exact .tail (.tail .head) | exact .tail (.tail (.tail .head)) | exact .tail (.tail (.tail (.tail .head))) | exact .tail (.tail (.tail (.tail (.tail .head))))) ?_
                clear hS
                intro wx4 hS
                refine lst_done ?_
                refine goes_retC (sz := 4) hS Tryz.func19 rfl rfl rfl rfl (by first | exact .head | exact .tail .head | exact .tail (.tail .head) | exact .tail (.tail (.tail .head)) | exact .tail (.tail (.tail (.tail .head))) | exact .tail (.tail (.tail (.tail (.tail .head))))) (by repeat constructor) ?_
                refine ⟨.slice none 0 0, _, _, VH, rfl, hLt, hV, ?_⟩
                have hq := hS.drop.learn (φ := fun w => Sl w (fun _ => True) (.slice none 0 0) .nil) fun w _ => hnil w
                simpa using hq
          | false =>
            rw [if_neg (by simp [hnb])] at e0
            have h45 : c ≠ 45 := fun h => by simp [h] at hnb
            have h45' : c.toNat ≠ 45 := fun h => h45 (u8_eq (n := 45) h)
            have hnd : ¬ (48 ≤ c.toNat ∧ c.toNat ≤ 57) := by
              intro h
              have : digB c = true := by simp [digB]; omega
              simp [this] at hnb
            cases hlo : lowB c with
            | false =>
              rw [if_pos hlo] at e0
              rw [e0]
              have hnl : ¬ (97 ≤ c.toNat ∧ c.toNat ≤ 122) := by
                intro h
                have : lowB c = true := by simp [lowB]; omega
                rw [this] at hlo; cases hlo
              by_cases q1 : c.toNat < 48
              · skip
                refine goes_enter2 Tryz.func19 rfl Tryz.ntmps19 rfl ?_
                refine goes_seq ?_
                refine goes_region ?_
                refine lst_alloc (cs := [_, _, _, _]) hS rfl rfl rfl ?_
                clear hS
                intro b1 wx1 hS
                refine lst_done ?_
                refine goes_seq ?_
                refine goes_region ?_
                refine lst_run (run_move (by conv => lhs; whnf)) rfl ?_
                refine lst_enter (run_call (by kernel_rfl) (args_1 (by conv => lhs; whnf))) rfl ?_
                refine Calls.mono (hfr _ _ hS.swap) ?_
                rintro _ w1 ⟨rfl, rfl⟩
                refine ⟨_, rfl, ?_⟩
                refine lst_run (run_assign (by conv => lhs; whnf)) rfl ?_
                refine lst_done ?_
                refine goes_seq ?_
                refine goes_seq ?_
                refine goes_region ?_
                refine lst_run (run_move (by conv => lhs; whnf)) rfl ?_
                first
                  | refine lst_run (run_eqlS_t rfl rfl (by assumption)) rfl ?_
                  | refine lst_run (run_eqlS_f rfl rfl (by assumption)) rfl ?_
                  | refine lst_run (run_eql_str rfl rfl) rfl ?_
                  | refine lst_run (rfl) rfl ?_
                refine lst_run (run_move (by conv => lhs; whnf)) rfl ?_
                refine lst_guard rfl rfl ?_
                refine lst_run (run_move (by conv => lhs; whnf)) rfl ?_
                refine lst_guard rfl rfl ?_
                first
                  | refine lst_run (run_eql_one_int rfl rfl) rfl ?_
                  | refine lst_run (run_eql_no rfl rfl (by first | assumption | omega)) rfl ?_
                  | refine lst_run (run_eql_yes rfl rfl (by omega)) rfl ?_
                  | refine lst_run (rfl) rfl ?_
                first
                  | refine lst_run (run_pick_t rfl (by conv => lhs; whnf)) rfl ?_
                  | refine lst_run (run_pick_f rfl (by conv => lhs; whnf)) rfl ?_
                refine lst_done ?_
                refine goes_false rfl ?_
                refine goes_skip ?_
                refine goes_seq ?_
                refine goes_region ?_
                refine lst_run (run_move (by conv => lhs; whnf)) rfl ?_
                refine lst_run (run_index_str rfl rfl rfl (by omega) (by first | rfl | assumption)) rfl ?_
                refine lst_run (run_assign (by conv => lhs; whnf)) rfl ?_
                refine lst_done ?_
                refine goes_seq ?_
                refine goes_block ?_
                refine goes_seq ?_
                refine goes_region ?_
                refine lst_run (run_move (by conv => lhs; whnf)) rfl ?_
                first
                  | refine lst_run (run_eqlS_t rfl rfl (by assumption)) rfl ?_
                  | refine lst_run (run_eqlS_f rfl rfl (by assumption)) rfl ?_
                  | refine lst_run (run_eql_str rfl rfl) rfl ?_
                  | refine lst_run (rfl) rfl ?_
                refine lst_run (run_assign (by conv => lhs; whnf)) rfl ?_
                refine lst_done ?_
                rw [hb]
                refine goes_false rfl ?_
                refine goes_seq ?_
                refine goes_region ?_
                refine lst_run (run_move (by conv => lhs; whnf)) rfl ?_
                first
                  | refine lst_run (run_geq_yes rfl rfl (by omega)) rfl ?_
                  | refine lst_run (run_geq_no rfl rfl (by omega)) rfl ?_
                  | refine lst_run (rfl) rfl ?_
                refine lst_run (run_move (by conv => lhs; whnf)) rfl ?_
                refine lst_pass rfl rfl rfl ?_
                refine lst_pass rfl rfl rfl ?_
                first
                  | refine lst_run (run_pick_t rfl (by conv => lhs; whnf)) rfl ?_
                  | refine lst_run (run_pick_f rfl (by conv => lhs; whnf)) rfl ?_
                refine lst_run (run_assign (by conv => lhs; whnf)) rfl ?_
                refine lst_done ?_
                refine goes_false rfl ?_
                refine goes_seq ?_
                refine goes_region ?_
                refine lst_run (run_move (by conv => lhs; whnf)) rfl ?_
                first
                  | refine lst_run (run_eql_one_int rfl rfl) rfl ?_
                  | refine lst_run (run_eql_no rfl rfl (by first | assumption | omega)) rfl ?_
                  | refine lst_run (run_eql_yes rfl rfl (by omega)) rfl ?_
                  | refine lst_run (rfl) rfl ?_
                refine lst_run (run_move (by conv => lhs; whnf)) rfl ?_
                refine lst_guard rfl rfl ?_
                refine lst_run (run_move (by conv => lhs; whnf)) rfl ?_
                refine lst_guard rfl rfl ?_
                first
                  | refine lst_run (run_geq_yes rfl rfl (by omega)) rfl ?_
                  | refine lst_run (run_geq_no rfl rfl (by omega)) rfl ?_
                  | refine lst_run (rfl) rfl ?_
                refine lst_guard rfl rfl ?_
                refine lst_run (run_move (by conv => lhs; whnf)) rfl ?_
                refine lst_pass rfl rfl rfl ?_
                refine lst_pass rfl rfl rfl ?_
                refine lst_guard rfl rfl ?_
                first
                  | refine lst_run (run_pick_t rfl (by conv => lhs; whnf)) rfl ?_
                  | refine lst_run (run_pick_f rfl (by conv => lhs; whnf)) rfl ?_
                first
                  | refine lst_run (run_pick_t rfl (by conv => lhs; whnf)) rfl ?_
                  | refine lst_run (run_pick_f rfl (by conv => lhs; whnf)) rfl ?_
                refine lst_run (run_assign (by conv => lhs; whnf)) rfl ?_
                refine lst_done ?_
                refine goes_false rfl ?_
                refine goes_seq ?_
                refine goes_region ?_
                refine lst_run (run_move (by conv => lhs; whnf)) rfl ?_
                first
                  | refine lst_run (run_lss_yes rfl rfl (by omega)) rfl ?_
                  | refine lst_run (run_lss_no rfl rfl (by omega)) rfl ?_
                  | refine lst_run (rfl) rfl ?_
                refine lst_run (run_move (by conv => lhs; whnf)) rfl ?_
                refine lst_pass rfl rfl rfl ?_
                refine lst_pass rfl rfl rfl ?_
                first
                  | refine lst_run (run_pick_t rfl (by conv => lhs; whnf)) rfl ?_
                  | refine lst_run (run_pick_f rfl (by conv => lhs; whnf)) rfl ?_
                refine lst_run (run_assign (by conv => lhs; whnf)) rfl ?_
                refine lst_done ?_
                refine goes_true rfl ?_
                refine goes_seq ?_
                refine goes_region ?_
                refine lst_run (run_move (by conv => lhs; whnf)) rfl ?_
                refine lst_run (run_nilCheck rfl) rfl ?_
                refine lst_run (run_fieldAddr (off := 2) rfl rfl) rfl ?_
                refine lst_store1 hS rfl (by conv => lhs; whnf) rfl rfl (by first | exact .head | exact .tail .head | exact .tail (.tail .head) | exact .tail (.tail (.tail .head)) | exact .tail (.tail (.tail (.tail .head))) | exact .tail (.tail (.tail (.tail (.tail .head))))) (by repeat constructor) (by first | exact .head | exact .tail .head | exact .tail (.tail .head) | exact .tail (.tail (.tail .head)) | exact .tail (.tail (.tail (.tail .head))) | exact .tail (.tail (.tail (.tail (.tail .head))))) ?_
                clear hS
                intro wx2 hS
                refine lst_done ?_
                refine goes_seq ?_
                refine goes_region ?_
                refine lst_run (run_build (cells := [_, _, _, _]) .nil rfl) rfl ?_
                refine lst_storeN hS rfl (by conv => lhs; whnf) rfl rfl (by first | exact .head | exact .tail .head | exact .tail (.tail .head) | exact .tail (.tail (.tail .head)) | exact .tail (.tail (.tail (.tail .head))) | exact .tail (.tail (.tail (.tail (.tail .head))))) (by repeat constructor) (by first | exact .head | exact .tail .head | exact .tail (.tail .head) | exact .tail (.tail (.tail .head)) | exact .tail (.tail (.tail (.tail .head))) | exact .tail (.tail (.tail (.tail (.tail .head))))) ?_
                clear hS
                intro wx3 hS
                refine lst_done ?_
                refine goes_retC (sz := 4) hS Tryz.func19 rfl rfl rfl rfl (by first | exact .head | exact .tail .head | exact .tail (.tail .head) | exact .tail (.tail (.tail .head)) | exact .tail (.tail (.tail (.tail .head))) | exact .tail (.tail (.tail (.tail (.tail .head))))) (by repeat constructor) ?_
                exact ⟨.slice none 0 0, _, _, VH, rfl, hL, hV, hS.drop.learn fun w _ => hnil w⟩
              by_cases q2 : c.toNat < 65
              · skip
                refine goes_enter2 Tryz.func19 rfl Tryz.ntmps19 rfl ?_
                refine goes_seq ?_
                refine goes_region ?_
                refine lst_alloc (cs := [_, _, _, _]) hS rfl rfl rfl ?_
                clear hS
                intro b1 wx1 hS
                refine lst_done ?_
                refine goes_seq ?_
                refine goes_region ?_
                refine lst_run (run_move (by conv => lhs; whnf)) rfl ?_
                refine lst_enter (run_call (by kernel_rfl) (args_1 (by conv => lhs; whnf))) rfl ?_
                refine Calls.mono (hfr _ _ hS.swap) ?_
                rintro _ w1 ⟨rfl, rfl⟩
                refine ⟨_, rfl, ?_⟩
                refine lst_run (run_assign (by conv => lhs; whnf)) rfl ?_
                refine lst_done ?_
                refine goes_seq ?_
                refine goes_seq ?_
                refine goes_region ?_
                refine lst_run (run_move (by conv => lhs; whnf)) rfl ?_
                first
                  | refine lst_run (run_eqlS_t rfl rfl (by assumption)) rfl ?_
                  | refine lst_run (run_eqlS_f rfl rfl (by assumption)) rfl ?_
                  | refine lst_run (run_eql_str rfl rfl) rfl ?_
                  | refine lst_run (rfl) rfl ?_
                refine lst_run (run_move (by conv => lhs; whnf)) rfl ?_
                refine lst_guard rfl rfl ?_
                refine lst_run (run_move (by conv => lhs; whnf)) rfl ?_
                refine lst_guard rfl rfl ?_
                first
                  | refine lst_run (run_eql_one_int rfl rfl) rfl ?_
                  | refine lst_run (run_eql_no rfl rfl (by first | assumption | omega)) rfl ?_
                  | refine lst_run (run_eql_yes rfl rfl (by omega)) rfl ?_
                  | refine lst_run (rfl) rfl ?_
                first
                  | refine lst_run (run_pick_t rfl (by conv => lhs; whnf)) rfl ?_
                  | refine lst_run (run_pick_f rfl (by conv => lhs; whnf)) rfl ?_
                refine lst_done ?_
                refine goes_false rfl ?_
                refine goes_skip ?_
                refine goes_seq ?_
                refine goes_region ?_
                refine lst_run (run_move (by conv => lhs; whnf)) rfl ?_
                refine lst_run (run_index_str rfl rfl rfl (by omega) (by first | rfl | assumption)) rfl ?_
                refine lst_run (run_assign (by conv => lhs; whnf)) rfl ?_
                refine lst_done ?_
                refine goes_seq ?_
                refine goes_block ?_
                refine goes_seq ?_
                refine goes_region ?_
                refine lst_run (run_move (by conv => lhs; whnf)) rfl ?_
                first
                  | refine lst_run (run_eqlS_t rfl rfl (by assumption)) rfl ?_
                  | refine lst_run (run_eqlS_f rfl rfl (by assumption)) rfl ?_
                  | refine lst_run (run_eql_str rfl rfl) rfl ?_
                  | refine lst_run (rfl) rfl ?_
                refine lst_run (run_assign (by conv => lhs; whnf)) rfl ?_
                refine lst_done ?_
                rw [hb]
                refine goes_false rfl ?_
                refine goes_seq ?_
                refine goes_region ?_
                refine lst_run (run_move (by conv => lhs; whnf)) rfl ?_
                first
                  | refine lst_run (run_geq_yes rfl rfl (by omega)) rfl ?_
                  | refine lst_run (run_geq_no rfl rfl (by omega)) rfl ?_
                  | refine lst_run (rfl) rfl ?_
                refine lst_run (run_move (by conv => lhs; whnf)) rfl ?_
                refine lst_pass rfl rfl rfl ?_
                refine lst_pass rfl rfl rfl ?_
                first
                  | refine lst_run (run_pick_t rfl (by conv => lhs; whnf)) rfl ?_
                  | refine lst_run (run_pick_f rfl (by conv => lhs; whnf)) rfl ?_
                refine lst_run (run_assign (by conv => lhs; whnf)) rfl ?_
                refine lst_done ?_
                refine goes_false rfl ?_
                refine goes_seq ?_
                refine goes_region ?_
                refine lst_run (run_move (by conv => lhs; whnf)) rfl ?_
                first
                  | refine lst_run (run_eql_one_int rfl rfl) rfl ?_
                  | refine lst_run (run_eql_no rfl rfl (by first | assumption | omega)) rfl ?_
                  | refine lst_run (run_eql_yes rfl rfl (by omega)) rfl ?_
                  | refine lst_run (rfl) rfl ?_
                refine lst_run (run_move (by conv => lhs; whnf)) rfl ?_
                refine lst_guard rfl rfl ?_
                refine lst_run (run_move (by conv => lhs; whnf)) rfl ?_
                refine lst_guard rfl rfl ?_
                first
                  | refine lst_run (run_geq_yes rfl rfl (by omega)) rfl ?_
                  | refine lst_run (run_geq_no rfl rfl (by omega)) rfl ?_
                  | refine lst_run (rfl) rfl ?_
                refine lst_guard rfl rfl ?_
                refine lst_run (run_move (by conv => lhs; whnf)) rfl ?_
                refine lst_guard rfl rfl ?_
                refine lst_run (run_move (by conv => lhs; whnf)) rfl ?_
                refine lst_guard rfl rfl ?_
                first
                  | refine lst_run (run_leq_yes rfl rfl (by omega)) rfl ?_
                  | refine lst_run (run_leq_no rfl rfl (by omega)) rfl ?_
                  | refine lst_run (rfl) rfl ?_
                refine lst_guard rfl rfl ?_
                first
                  | refine lst_run (run_pick_t rfl (by conv => lhs; whnf)) rfl ?_
                  | refine lst_run (run_pick_f rfl (by conv => lhs; whnf)) rfl ?_
                first
                  | refine lst_run (run_pick_t rfl (by conv => lhs; whnf)) rfl ?_
                  | refine lst_run (run_pick_f rfl (by conv => lhs; whnf)) rfl ?_
                refine lst_run (run_assign (by conv => lhs; whnf)) rfl ?_
                refine lst_done ?_
                refine goes_false rfl ?_
                refine goes_seq ?_
                refine goes_region ?_
                refine lst_run (run_move (by conv => lhs; whnf)) rfl ?_
                first
                  | refine lst_run (run_lss_yes rfl rfl (by omega)) rfl ?_
                  | refine lst_run (run_lss_no rfl rfl (by omega)) rfl ?_
                  | refine lst_run (rfl) rfl ?_
                refine lst_run (run_move (by conv => lhs; whnf)) rfl ?_
                refine lst_pass rfl rfl rfl ?_
                refine lst_pass rfl rfl rfl ?_
                first
                  | refine lst_run (run_pick_t rfl (by conv => lhs; whnf)) rfl ?_
                  | refine lst_run (run_pick_f rfl (by conv => lhs; whnf)) rfl ?_
                refine lst_run (run_assign (by conv => lhs; whnf)) rfl ?_
                refine lst_done ?_
                refine goes_true rfl ?_
                refine goes_seq ?_
                refine goes_region ?_
                refine lst_run (run_move (by conv => lhs; whnf)) rfl ?_
                refine lst_run (run_nilCheck rfl) rfl ?_
                refine lst_run (run_fieldAddr (off := 2) rfl rfl) rfl ?_
                refine lst_store1 hS rfl (by conv => lhs; whnf) rfl rfl (by first | exact .head | exact .tail .head | exact .tail (.tail .head) | exact .tail (.tail (.tail .head)) | exact .tail (.tail (.tail (.tail .head))) | exact .tail (.tail (.tail (.tail (.tail .head))))) (by repeat constructor) (by first | exact .head | exact .tail .head | exact .tail (.tail .head) | exact .tail (.tail (.tail .head)) | exact .tail (.tail (.tail (.tail .head))) | exact .tail (.tail (.tail (.tail (.tail .head))))) ?_
                clear hS
                intro wx2 hS
                refine lst_done ?_
                refine goes_seq ?_
                refine goes_region ?_
                refine lst_run (run_build (cells := [_, _, _, _]) .nil rfl) rfl ?_
                refine lst_storeN hS rfl (by conv => lhs; whnf) rfl rfl (by first | exact .head | exact .tail .head | exact .tail (.tail .head) | exact .tail (.tail (.tail .head)) | exact .tail (.tail (.tail (.tail .head))) | exact .tail (.tail (.tail (.tail (.tail .head))))) (by repeat constructor) (by first | exact .head | exact .tail .head | exact .tail (.tail .head) | exact .tail (.tail (.tail .head)) | exact .tail (.tail (.tail (.tail .head))) | exact .tail (.tail (.tail (.tail (.tail .head))))) ?_
                clear hS
                intro wx3 hS
                refine lst_done ?_
                refine goes_retC (sz := 4) hS Tryz.func19 rfl rfl rfl rfl (by first | exact .head | exact .tail .head | exact .tail (.tail .head) | exact .tail (.tail (.tail .head)) | exact .tail (.tail (.tail (.tail .head))) | exact .tail (.tail (.tail (.tail (.tail .head))))) (by repeat constructor) ?_
                exact ⟨.slice none 0 0, _, _, VH, rfl, hL, hV, hS.drop.learn fun w _ => hnil w⟩
              by_cases q3 : c.toNat < 97
              · skip
                refine goes_enter2 Tryz.func19 rfl Tryz.ntmps19 rfl ?_
                refine goes_seq ?_
                refine goes_region ?_
                refine lst_alloc (cs := [_, _, _, _]) hS rfl rfl rfl ?_
                clear hS
                intro b1 wx1 hS
                refine lst_done ?_
                refine goes_seq ?_
                refine goes_region ?_
                refine lst_run (run_move (by conv => lhs; whnf)) rfl ?_
                refine lst_enter (run_call (by kernel_rfl) (args_1 (by conv => lhs; whnf))) rfl ?_
                refine Calls.mono (hfr _ _ hS.swap) ?_
                rintro _ w1 ⟨rfl, rfl⟩
                refine ⟨_, rfl, ?_⟩
                refine lst_run (run_assign (by conv => lhs; whnf)) rfl ?_
                refine lst_done ?_
                refine goes_seq ?_
                refine goes_seq ?_
                refine goes_region ?_
                refine lst_run (run_move (by conv => lhs; whnf)) rfl ?_
                first
                  | refine lst_run (run_eqlS_t rfl rfl (by assumption)) rfl ?_
                  | refine lst_run (run_eqlS_f rfl rfl (by assumption)) rfl ?_
                  | refine lst_run (run_eql_str rfl rfl) rfl ?_
                  | refine lst_run (rfl) rfl ?_
                refine lst_run (run_move (by conv => lhs; whnf)) rfl ?_
                refine lst_guard rfl rfl ?_
                refine lst_run (run_move (by conv => lhs; whnf)) rfl ?_
                refine lst_guard rfl rfl ?_
                first
                  | refine lst_run (run_eql_one_int rfl rfl) rfl ?_
                  | refine lst_run (run_eql_no rfl rfl (by first | assumption | omega)) rfl ?_
                  | refine lst_run (run_eql_yes rfl rfl (by omega)) rfl ?_
                  | refine lst_run (rfl) rfl ?_
                first
                  | refine lst_run (run_pick_t rfl (by conv => lhs; whnf)) rfl ?_
                  | refine lst_run (run_pick_f rfl (by conv => lhs; whnf)) rfl ?_
                refine lst_done ?_
                refine goes_false rfl ?_
                refine goes_skip ?_
                refine goes_seq ?_
                refine goes_region ?_
                refine lst_run (run_move (by conv => lhs; whnf)) rfl ?_
                refine lst_run (run_index_str rfl rfl rfl (by omega) (by first | rfl | assumption)) rfl ?_
                refine lst_run (run_assign (by conv => lhs; whnf)) rfl ?_
                refine lst_done ?_
                refine goes_seq ?_
                refine goes_block ?_
                refine goes_seq ?_
                refine goes_region ?_
                refine lst_run (run_move (by conv => lhs; whnf)) rfl ?_
                first
                  | refine lst_run (run_eqlS_t rfl rfl (by assumption)) rfl ?_
                  | refine lst_run (run_eqlS_f rfl rfl (by assumption)) rfl ?_
                  | refine lst_run (run_eql_str rfl rfl) rfl ?_
                  | refine lst_run (rfl) rfl ?_
                refine lst_run (run_assign (by conv => lhs; whnf)) rfl ?_
                refine lst_done ?_
                rw [hb]
                refine goes_false rfl ?_
                refine goes_seq ?_
                refine goes_region ?_
                refine lst_run (run_move (by conv => lhs; whnf)) rfl ?_
                first
                  | refine lst_run (run_geq_yes rfl rfl (by omega)) rfl ?_
                  | refine lst_run (run_geq_no rfl rfl (by omega)) rfl ?_
                  | refine lst_run (rfl) rfl ?_
                refine lst_run (run_move (by conv => lhs; whnf)) rfl ?_
                refine lst_guard rfl rfl ?_
                refine lst_run (run_move (by conv => lhs; whnf)) rfl ?_
                refine lst_guard rfl rfl ?_
                first
                  | refine lst_run (run_leq_yes rfl rfl (by omega)) rfl ?_
                  | refine lst_run (run_leq_no rfl rfl (by omega)) rfl ?_
                  | refine lst_run (rfl) rfl ?_
                first
                  | refine lst_run (run_pick_t rfl (by conv => lhs; whnf)) rfl ?_
                  | refine lst_run (run_pick_f rfl (by conv => lhs; whnf)) rfl ?_
                refine lst_run (run_assign (by conv => lhs; whnf)) rfl ?_
                refine lst_done ?_
                refine goes_false rfl ?_
                refine goes_seq ?_
                refine goes_region ?_
                refine lst_run (run_move (by conv => lhs; whnf)) rfl ?_
                first
                  | refine lst_run (run_eql_one_int rfl rfl) rfl ?_
                  | refine lst_run (run_eql_no rfl rfl (by first | assumption | omega)) rfl ?_
                  | refine lst_run (run_eql_yes rfl rfl (by omega)) rfl ?_
                  | refine lst_run (rfl) rfl ?_
                refine lst_run (run_move (by conv => lhs; whnf)) rfl ?_
                refine lst_guard rfl rfl ?_
                refine lst_run (run_move (by conv => lhs; whnf)) rfl ?_
                refine lst_guard rfl rfl ?_
                first
                  | refine lst_run (run_geq_yes rfl rfl (by omega)) rfl ?_
                  | refine lst_run (run_geq_no rfl rfl (by omega)) rfl ?_
                  | refine lst_run (rfl) rfl ?_
                refine lst_guard rfl rfl ?_
                refine lst_run (run_move (by conv => lhs; whnf)) rfl ?_
                refine lst_guard rfl rfl ?_
                refine lst_run (run_move (by conv => lhs; whnf)) rfl ?_
                refine lst_guard rfl rfl ?_
                first
                  | refine lst_run (run_leq_yes rfl rfl (by omega)) rfl ?_
                  | refine lst_run (run_leq_no rfl rfl (by omega)) rfl ?_
                  | refine lst_run (rfl) rfl ?_
                refine lst_guard rfl rfl ?_
                first
                  | refine lst_run (run_pick_t rfl (by conv => lhs; whnf)) rfl ?_
                  | refine lst_run (run_pick_f rfl (by conv => lhs; whnf)) rfl ?_
                first
                  | refine lst_run (run_pick_t rfl (by conv => lhs; whnf)) rfl ?_
                  | refine lst_run (run_pick_f rfl (by conv => lhs; whnf)) rfl ?_
                refine lst_run (run_assign (by conv => lhs; whnf)) rfl ?_
                refine lst_done ?_
                refine goes_false rfl ?_
                refine goes_seq ?_
                refine goes_region ?_
                refine lst_run (run_move (by conv => lhs; whnf)) rfl ?_
                first
                  | refine lst_run (run_lss_yes rfl rfl (by omega)) rfl ?_
                  | refine lst_run (run_lss_no rfl rfl (by omega)) rfl ?_
                  | refine lst_run (rfl) rfl ?_
                refine lst_run (run_move (by conv => lhs; whnf)) rfl ?_
                refine lst_pass rfl rfl rfl ?_
                refine lst_pass rfl rfl rfl ?_
                first
                  | refine lst_run (run_pick_t rfl (by conv => lhs; whnf)) rfl ?_
                  | refine lst_run (run_pick_f rfl (by conv => lhs; whnf)) rfl ?_
                refine lst_run (run_assign (by conv => lhs; whnf)) rfl ?_
                refine lst_done ?_
                refine goes_true rfl ?_
                refine goes_seq ?_
                refine goes_region ?_
                refine lst_run (run_move (by conv => lhs; whnf)) rfl ?_
                refine lst_run (run_nilCheck rfl) rfl ?_
                refine lst_run (run_fieldAddr (off := 2) rfl rfl) rfl ?_
                refine lst_store1 hS rfl (by conv => lhs; whnf) rfl rfl (by first | exact .head | exact .tail .head | exact .tail (.tail .head) | exact .tail (.tail (.tail .head)) | exact .tail (.tail (.tail (.tail .head))) | exact .tail (.tail (.tail (.tail (.tail .head))))) (by repeat constructor) (by first | exact .head | exact .tail .head | exact .tail (.tail .head) | exact .tail (.tail (.tail .head)) | exact .tail (.tail (.tail (.tail .head))) | exact .tail (.tail (.tail (.tail (.tail .head))))) ?_
                clear hS
                intro wx2 hS
                refine lst_done ?_
                refine goes_seq ?_
                refine goes_region ?_
                refine lst_run (run_build (cells := [_, _, _, _]) .nil rfl) rfl ?_
                refine lst_storeN hS rfl (by conv => lhs; whnf) rfl rfl (by first | exact .head | exact .tail .head | exact .tail (.tail .head) | exact .tail (.tail (.tail .head)) | exact .tail (.tail (.tail (.tail .head))) | exact .tail (.tail (.tail (.tail (.tail .head))))) (by repeat constructor) (by first | exact .head | exact .tail .head | exact .tail (.tail .head) | exact .tail (.tail (.tail .head)) | exact .tail (.tail (.tail (.tail .head))) | exact .tail (.tail (.tail (.tail (.tail .head))))) ?_
                clear hS
                intro wx3 hS
                refine lst_done ?_
                refine goes_retC (sz := 4) hS Tryz.func19 rfl rfl rfl rfl (by first | exact .head | exact .tail .head | exact .tail (.tail .head) | exact .tail (.tail (.tail .head)) | exact .tail (.tail (.tail (.tail .head))) | exact .tail (.tail (.tail (.tail (.tail .head))))) (by repeat constructor) ?_
                exact ⟨.slice none 0 0, _, _, VH, rfl, hL, hV, hS.drop.learn fun w _ => hnil w⟩
              have q4 : 122 < c.toNat := by omega
              refine goes_enter2 Tryz.func19 rfl Tryz.ntmps19 rfl ?_
              refine goes_seq ?_
              refine goes_region ?_
              refine lst_alloc (cs := [_, _, _, _]) hS rfl rfl rfl ?_
              clear hS
              intro b1 wx1 hS
              refine lst_done ?_
              refine goes_seq ?_
              refine goes_region ?_
              refine lst_run (run_move (by conv => lhs; whnf)) rfl ?_
              refine lst_enter (run_call (by kernel_rfl) (args_1 (by conv => lhs; whnf))) rfl ?_
              refine Calls.mono (hfr _ _ hS.swap) ?_
              rintro _ w1 ⟨rfl, rfl⟩
              refine ⟨_, rfl, ?_⟩
              refine lst_run (run_assign (by conv => lhs; whnf)) rfl ?_
              refine lst_done ?_
              refine goes_seq ?_
              refine goes_seq ?_
              refine goes_region ?_
              refine lst_run (run_move (by conv => lhs; whnf)) rfl ?_
              first
                | refine lst_run (run_eqlS_t rfl rfl (by assumption)) rfl ?_
                | refine lst_run (run_eqlS_f rfl rfl (by assumption)) rfl ?_
                | refine lst_run (run_eql_str rfl rfl) rfl ?_
                | refine lst_run (rfl) rfl ?_
              refine lst_run (run_move (by conv => lhs; whnf)) rfl ?_
              refine lst_guard rfl rfl ?_
              refine lst_run (run_move (by conv => lhs; whnf)) rfl ?_
              refine lst_guard rfl rfl ?_
              first
                | refine lst_run (run_eql_one_int rfl rfl) rfl ?_
                | refine lst_run (run_eql_no rfl rfl (by first | assumption | omega)) rfl ?_
                | refine lst_run (run_eql_yes rfl rfl (by omega)) rfl ?_
                | refine lst_run (rfl) rfl ?_
              first
                | refine lst_run (run_pick_t rfl (by conv => lhs; whnf)) rfl ?_
                | refine lst_run (run_pick_f rfl (by conv => lhs; whnf)) rfl ?_
              refine lst_done ?_
              refine goes_false rfl ?_
              refine goes_skip ?_
              refine goes_seq ?_
              refine goes_region ?_
              refine lst_run (run_move (by conv => lhs; whnf)) rfl ?_
              refine lst_run (run_index_str rfl rfl rfl (by omega) (by first | rfl | assumption)) rfl ?_
              refine lst_run (run_assign (by conv => lhs; whnf)) rfl ?_
              refine lst_done ?_
              refine goes_seq ?_
              refine goes_block ?_
              refine goes_seq ?_
              refine goes_region ?_
              refine lst_run (run_move (by conv => lhs; whnf)) rfl ?_
              first
                | refine lst_run (run_eqlS_t rfl rfl (by assumption)) rfl ?_
                | refine lst_run (run_eqlS_f rfl rfl (by assumption)) rfl ?_
                | refine lst_run (run_eql_str rfl rfl) rfl ?_
                | refine lst_run (rfl) rfl ?_
              refine lst_run (run_assign (by conv => lhs; whnf)) rfl ?_
              refine lst_done ?_
              rw [hb]
              refine goes_false rfl ?_
              refine goes_seq ?_
              refine goes_region ?_
              refine lst_run (run_move (by conv => lhs; whnf)) rfl ?_
              first
                | refine lst_run (run_geq_yes rfl rfl (by omega)) rfl ?_
                | refine lst_run (run_geq_no rfl rfl (by omega)) rfl ?_
                | refine lst_run (rfl) rfl ?_
              refine lst_run (run_move (by conv => lhs; whnf)) rfl ?_
              refine lst_guard rfl rfl ?_
              refine lst_run (run_move (by conv => lhs; whnf)) rfl ?_
              refine lst_guard rfl rfl ?_
              first
                | refine lst_run (run_leq_yes rfl rfl (by omega)) rfl ?_
                | refine lst_run (run_leq_no rfl rfl (by omega)) rfl ?_
                | refine lst_run (rfl) rfl ?_
              first
                | refine lst_run (run_pick_t rfl (by conv => lhs; whnf)) rfl ?_
                | refine lst_run (run_pick_f rfl (by conv => lhs; whnf)) rfl ?_
              refine lst_run (run_assign (by conv => lhs; whnf)) rfl ?_
              refine lst_done ?_
              refine goes_false rfl ?_
              refine goes_seq ?_
              refine goes_region ?_
              refine lst_run (run_move (by conv => lhs; whnf)) rfl ?_
              first
                | refine lst_run (run_eql_one_int rfl rfl) rfl ?_
                | refine lst_run (run_eql_no rfl rfl (by first | assumption | omega)) rfl ?_
                | refine lst_run (run_eql_yes rfl rfl (by omega)) rfl ?_
                | refine lst_run (rfl) rfl ?_
              refine lst_run (run_move (by conv => lhs; whnf)) rfl ?_
              refine lst_guard rfl rfl ?_
              refine lst_run (run_move (by conv => lhs; whnf)) rfl ?_
              refine lst_guard rfl rfl ?_
              first
                | refine lst_run (run_geq_yes rfl rfl (by omega)) rfl ?_
                | refine lst_run (run_geq_no rfl rfl (by omega)) rfl ?_
                | refine lst_run (rfl) rfl ?_
              refine lst_guard rfl rfl ?_
              refine lst_run (run_move (by conv => lhs; whnf)) rfl ?_
              refine lst_guard rfl rfl ?_
              refine lst_run (run_move (by conv => lhs; whnf)) rfl ?_
              refine lst_guard rfl rfl ?_
              first
                | refine lst_run (run_leq_yes rfl rfl (by omega)) rfl ?_
                | refine lst_run (run_leq_no rfl rfl (by omega)) rfl ?_
                | refine lst_run (rfl) rfl ?_
              refine lst_guard rfl rfl ?_
              first
                | refine lst_run (run_pick_t rfl (by conv => lhs; whnf)) rfl ?_
                | refine lst_run (run_pick_f rfl (by conv => lhs; whnf)) rfl ?_
              first
                | refine lst_run (run_pick_t rfl (by conv => lhs; whnf)) rfl ?_
                | refine lst_run (run_pick_f rfl (by conv => lhs; whnf)) rfl ?_
              refine lst_run (run_assign (by conv => lhs; whnf)) rfl ?_
              refine lst_done ?_
              refine goes_false rfl ?_
              refine goes_seq ?_
              refine goes_region ?_
              refine lst_run (run_move (by conv => lhs; whnf)) rfl ?_
              first
                | refine lst_run (run_lss_yes rfl rfl (by omega)) rfl ?_
                | refine lst_run (run_lss_no rfl rfl (by omega)) rfl ?_
                | refine lst_run (rfl) rfl ?_
              refine lst_run (run_move (by conv => lhs; whnf)) rfl ?_
              refine lst_guard rfl rfl ?_
              refine lst_run (run_move (by conv => lhs; whnf)) rfl ?_
              refine lst_guard rfl rfl ?_
              first
                | refine lst_run (run_gtr_yes rfl rfl (by omega)) rfl ?_
                | refine lst_run (run_gtr_no rfl rfl (by omega)) rfl ?_
                | refine lst_run (rfl) rfl ?_
              first
                | refine lst_run (run_pick_t rfl (by conv => lhs; whnf)) rfl ?_
                | refine lst_run (run_pick_f rfl (by conv => lhs; whnf)) rfl ?_
              refine lst_run (run_assign (by conv => lhs; whnf)) rfl ?_
              refine lst_done ?_
              refine goes_true rfl ?_
              refine goes_seq ?_
              refine goes_region ?_
              refine lst_run (run_move (by conv => lhs; whnf)) rfl ?_
              refine lst_run (run_nilCheck rfl) rfl ?_
              refine lst_run (run_fieldAddr (off := 2) rfl rfl) rfl ?_
              refine lst_store1 hS rfl (by conv => lhs; whnf) rfl rfl (by first | exact .head | exact .tail .head | exact .tail (.tail .head) | exact .tail (.tail (.tail .head)) | exact .tail (.tail (.tail (.tail .head))) | exact .tail (.tail (.tail (.tail (.tail .head))))) (by repeat constructor) (by first | exact .head | exact .tail .head | exact .tail (.tail .head) | exact .tail (.tail (.tail .head)) | exact .tail (.tail (.tail (.tail .head))) | exact .tail (.tail (.tail (.tail (.tail .head))))) ?_
              clear hS
              intro wx2 hS
              refine lst_done ?_
              refine goes_seq ?_
              refine goes_region ?_
              refine lst_run (run_build (cells := [_, _, _, _]) .nil rfl) rfl ?_
              refine lst_storeN hS rfl (by conv => lhs; whnf) rfl rfl (by first | exact .head | exact .tail .head | exact .tail (.tail .head) | exact .tail (.tail (.tail .head)) | exact .tail (.tail (.tail (.tail .head))) | exact .tail (.tail (.tail (.tail (.tail .head))))) (by repeat constructor) (by first | exact .head | exact .tail .head | exact .tail (.tail .head) | exact .tail (.tail (.tail .head)) | exact .tail (.tail (.tail (.tail .head))) | exact .tail (.tail (.tail (.tail (.tail .head))))) ?_
              clear hS
              intro wx3 hS
              refine lst_done ?_
              refine goes_retC (sz := 4) hS Tryz.func19 rfl rfl rfl rfl (by first | exact .head | exact .tail .head | exact .tail (.tail .head) | exact .tail (.tail (.tail .head)) | exact .tail (.tail (.tail (.tail .head))) | exact .tail (.tail (.tail (.tail (.tail .head))))) (by repeat constructor) ?_
              exact ⟨.slice none 0 0, _, _, VH, rfl, hL, hV, hS.drop.learn fun w _ => hnil w⟩
            | true =>
              rw [if_neg (by simp [hlo])] at e0
              have hll : 97 ≤ c.toNat ∧ c.toNat ≤ 122 := by simp [lowB] at hlo; omega
              have hlt0 : ((c :: r) :: rest).length - (1 : Int).toNat = rest.length := rfl
              refine goes_enter2 Tryz.func19 rfl Tryz.ntmps19 rfl ?_
              refine goes_seq ?_
              refine goes_region ?_
              refine lst_alloc (cs := [_, _, _, _]) hS rfl rfl rfl ?_
              clear hS
              intro b1 wx1 hS
              refine lst_done ?_
              refine goes_seq ?_
              refine goes_region ?_
              refine lst_run (run_move (by conv => lhs; whnf)) rfl ?_
              refine lst_enter (run_call (by kernel_rfl) (args_1 (by conv => lhs; whnf))) rfl ?_
              refine Calls.mono (hfr _ _ hS.swap) ?_
              rintro _ w1 ⟨rfl, rfl⟩
              refine ⟨_, rfl, ?_⟩
              refine lst_run (run_assign (by conv => lhs; whnf)) rfl ?_
              refine lst_done ?_
              refine goes_seq ?_
              refine goes_seq ?_
              refine goes_region ?_
              refine lst_run (run_move (by conv => lhs; whnf)) rfl ?_
              first
                | refine lst_run (run_eqlS_t rfl rfl (by assumption)) rfl ?_
                | refine lst_run (run_eqlS_f rfl rfl (by assumption)) rfl ?_
                | refine lst_run (run_eql_str rfl rfl) rfl ?_
                | refine lst_run (rfl) rfl ?_
              refine lst_run (run_move (by conv => lhs; whnf)) rfl ?_
              refine lst_guard rfl rfl ?_
              refine lst_run (run_move (by conv => lhs; whnf)) rfl ?_
              refine lst_guard rfl rfl ?_
              first
                | refine lst_run (run_eql_one_int rfl rfl) rfl ?_
                | refine lst_run (run_eql_no rfl rfl (by first | assumption | omega)) rfl ?_
                | refine lst_run (run_eql_yes rfl rfl (by omega)) rfl ?_
                | refine lst_run (rfl) rfl ?_
              first
                | refine lst_run (run_pick_t rfl (by conv => lhs; whnf)) rfl ?_
                | refine lst_run (run_pick_f rfl (by conv => lhs; whnf)) rfl ?_
              refine lst_done ?_
              refine goes_false rfl ?_
              refine goes_skip ?_
              refine goes_seq ?_
              refine goes_region ?_
              refine lst_run (run_move (by conv => lhs; whnf)) rfl ?_
              refine lst_run (run_index_str rfl rfl rfl (by omega) (by first | rfl | assumption)) rfl ?_
              refine lst_run (run_assign (by conv => lhs; whnf)) rfl ?_
              refine lst_done ?_
              refine goes_seq ?_
              refine goes_block ?_
              refine goes_seq ?_
              refine goes_region ?_
              refine lst_run (run_move (by conv => lhs; whnf)) rfl ?_
              first
                | refine lst_run (run_eqlS_t rfl rfl (by assumption)) rfl ?_
                | refine lst_run (run_eqlS_f rfl rfl (by assumption)) rfl ?_
                | refine lst_run (run_eql_str rfl rfl) rfl ?_
                | refine lst_run (rfl) rfl ?_
              refine lst_run (run_assign (by conv => lhs; whnf)) rfl ?_
              refine lst_done ?_
              rw [hb]
              refine goes_false rfl ?_
              refine goes_seq ?_
              refine goes_region ?_
              refine lst_run (run_move (by conv => lhs; whnf)) rfl ?_
              first
                | refine lst_run (run_geq_yes rfl rfl (by omega)) rfl ?_
                | refine lst_run (run_geq_no rfl rfl (by omega)) rfl ?_
                | refine lst_run (rfl) rfl ?_
              refine lst_run (run_move (by conv => lhs; whnf)) rfl ?_
              refine lst_guard rfl rfl ?_
              refine lst_run (run_move (by conv => lhs; whnf)) rfl ?_
              refine lst_guard rfl rfl ?_
              first
                | refine lst_run (run_leq_yes rfl rfl (by omega)) rfl ?_
                | refine lst_run (run_leq_no rfl rfl (by omega)) rfl ?_
                | refine lst_run (rfl) rfl ?_
              first
                | refine lst_run (run_pick_t rfl (by conv => lhs; whnf)) rfl ?_
                | refine lst_run (run_pick_f rfl (by conv => lhs; whnf)) rfl ?_
              refine lst_run (run_assign (by conv => lhs; whnf)) rfl ?_
              refine lst_done ?_
              refine goes_false rfl ?_
              refine goes_seq ?_
              refine goes_region ?_
              refine lst_run (run_move (by conv => lhs; whnf)) rfl ?_
              first
                | refine lst_run (run_eql_one_int rfl rfl) rfl ?_
                | refine lst_run (run_eql_no rfl rfl (by first | assumption | omega)) rfl ?_
                | refine lst_run (run_eql_yes rfl rfl (by omega)) rfl ?_
                | refine lst_run (rfl) rfl ?_
              refine lst_run (run_move (by conv => lhs; whnf)) rfl ?_
              refine lst_guard rfl rfl ?_
              refine lst_run (run_move (by conv => lhs; whnf)) rfl ?_
              refine lst_guard rfl rfl ?_
              first
                | refine lst_run (run_geq_yes rfl rfl (by omega)) rfl ?_
                | refine lst_run (run_geq_no rfl rfl (by omega)) rfl ?_
                | refine lst_run (rfl) rfl ?_
              refine lst_guard rfl rfl ?_
              refine lst_run (run_move (by conv => lhs; whnf)) rfl ?_
              refine lst_guard rfl rfl ?_
              refine lst_run (run_move (by conv => lhs; whnf)) rfl ?_
              refine lst_guard rfl rfl ?_
              first
                | refine lst_run (run_leq_yes rfl rfl (by omega)) rfl ?_
                | refine lst_run (run_leq_no rfl rfl (by omega)) rfl ?_
                | refine lst_run (rfl) rfl ?_
              refine lst_guard rfl rfl ?_
              first
                | refine lst_run (run_pick_t rfl (by conv => lhs; whnf)) rfl ?_
                | refine lst_run (run_pick_f rfl (by conv => lhs; whnf)) rfl ?_
              first
                | refine lst_run (run_pick_t rfl (by conv => lhs; whnf)) rfl ?_
                | refine lst_run (run_pick_f rfl (by conv => lhs; whnf)) rfl ?_
              refine lst_run (run_assign (by conv => lhs; whnf)) rfl ?_
              refine lst_done ?_
              refine goes_false rfl ?_
              refine goes_seq ?_
              refine goes_region ?_
              refine lst_run (run_move (by conv => lhs; whnf)) rfl ?_
              first
                | refine lst_run (run_lss_yes rfl rfl (by omega)) rfl ?_
                | refine lst_run (run_lss_no rfl rfl (by omega)) rfl ?_
                | refine lst_run (rfl) rfl ?_
              refine lst_run (run_move (by conv => lhs; whnf)) rfl ?_
              replace hS := hS.sink1
              refine lst_guard rfl rfl ?_
              refine lst_run (run_move (by conv => lhs; whnf)) rfl ?_
              refine lst_guard rfl rfl ?_
              first
                | refine lst_run (run_gtr_yes rfl rfl (by omega)) rfl ?_
                | refine lst_run (run_gtr_no rfl rfl (by omega)) rfl ?_
                | refine lst_run (rfl) rfl ?_
              first
                | refine lst_run (run_pick_t rfl (by conv => lhs; whnf)) rfl ?_
                | refine lst_run (run_pick_f rfl (by conv => lhs; whnf)) rfl ?_
              refine lst_run (run_assign (by conv => lhs; whnf)) rfl ?_
              refine lst_done ?_
              refine goes_false rfl ?_
              refine goes_skip ?_
              refine goes_inBlock ?_
              refine goes_seq ?_
              refine goes_region ?_
              refine lst_run (run_move (by conv => lhs; whnf)) rfl ?_
              refine lst_run (run_move (by conv => lhs; whnf)) rfl ?_
              refine lst_run (run_nilCheck rfl) rfl ?_
              refine lst_run (run_fieldAddr (off := 0) rfl rfl) rfl ?_
              first
                | refine lst_run (run_load1_own hS rfl rfl (by first | exact .head | exact .tail .head | exact .tail (.tail .head) | exact .tail (.tail (.tail .head)) | exact .tail (.tail (.tail (.tail .head))) | exact .tail (.tail (.tail (.tail (.tail .head))))) (by repeat constructor)) rfl ?_
                | refine lst_run (run_load1 rfl rfl (by first | assumption | exact hS.cell0 (by assumption) | exact lv_next hS | exact lv_list hS)) rfl ?_
              first
                | refine lst_run (run_slice_lt (sz := 1) rfl rfl rfl rfl (by omega) (by omega) (by omega)) rfl ?_
                | refine lst_run (run_slice_rest (sz := 1) rfl rfl rfl rfl (by omega) (by omega)) rfl ?_
              refine lst_run (run_nilCheck rfl) rfl ?_
              refine lst_run (run_fieldAddr (off := 0) rfl rfl) rfl ?_
              refine lst_store1 hS rfl (by conv => lhs; whnf) rfl rfl (by first | exact .head | exact .tail .head | exact .tail (.tail .head) | exact .tail (.tail (.tail .head)) | exact .tail (.tail (.tail (.tail .head))) | exact .tail (.tail (.tail (.tail (.tail .head))))) (by repeat constructor) (by first | exact .head | exact .tail .head | exact .tail (.tail .head) | exact .tail (.tail (.tail .head)) | exact .tail (.tail (.tail (.tail .head))) | exact .tail (.tail (.tail (.tail (.tail .head))))) ?_
              clear hS
              intro wx2 hS
              refine lst_done ?_
              refine goes_seq ?_
              refine goes_region ?_
              refine lst_run (run_move (by conv => lhs; whnf)) rfl ?_
              refine lst_run (run_build (cells := [_, _, _, _]) (.cons (by conv => lhs; whnf) (.cons (by conv => lhs; whnf) .nil)) rfl) rfl ?_
              refine lst_alloc (cs := [_, _, _, _]) hS rfl rfl rfl ?_
              clear hS
              intro b2 wx3 hS
              refine lst_storeN hS rfl (by conv => lhs; whnf) rfl rfl (by first | exact .head | exact .tail .head | exact .tail (.tail .head) | exact .tail (.tail (.tail .head)) | exact .tail (.tail (.tail (.tail .head))) | exact .tail (.tail (.tail (.tail (.tail .head))))) (by repeat constructor) (by first | exact .head | exact .tail .head | exact .tail (.tail .head) | exact .tail (.tail (.tail .head)) | exact .tail (.tail (.tail (.tail .head))) | exact .tail (.tail (.tail (.tail (.tail .head))))) ?_
              clear hS
              intro wx4 hS
              refine lst_done ?_
              refine goes_seq ?_
              refine goes_seq ?_
              refine goes_region ?_
              refine lst_run (run_move (by conv => lhs; whnf)) rfl ?_
              cases hh : PS.has ⟨rest, vars, bad⟩ [40] with
              | false =>
                have e : refTerm (d + 1) ⟨(c :: r) :: rest, vars, bad⟩ = (⟨1, 0, c :: r, .nil⟩, ⟨rest, vars, bad⟩) := by rw [e0, if_neg (by simp [hh])]
                rw [e]
                have htk := takeP_any ⟨rest, vars, bad⟩ [40] _ _ _ hLt hφ hS.swap
                rw [hh] at htk
                simp only [Bool.false_eq_true, if_false] at htk
                refine lst_enter (run_call (by kernel_rfl) (args_2 (by conv => lhs; whnf) (by conv => lhs; whnf))) rfl ?_
                refine Calls.mono (htk) ?_
                rintro _ w3 ⟨L2, rfl, hL2, hS'⟩
                refine ⟨_, rfl, ?_⟩
                replace hS := hS'
                clear hS'
                replace hS := hS.swap.raise2
                refine lst_done ?_
                refine goes_false rfl ?_
                refine goes_skip ?_
                refine goes_seq ?_
                refine goes_region ?_
                first
                  | refine lst_run (run_loadN_own (k := 4) hS rfl rfl rfl (by first | exact .head | exact .tail .head | exact .tail (.tail .head) | exact .tail (.tail (.tail .head)) | exact .tail (.tail (.tail (.tail .head))) | exact .tail (.tail (.tail (.tail (.tail .head))))) (by repeat constructor)) rfl ?_
                  | refine lst_run (run_load4 rfl rfl rfl (by first | assumption | exact hS.cell0 (by assumption)) (by first | assumption | exact hS.cell0 (by assumption)) (by first | assumption | exact hS.cell0 (by assumption)) (by first | assumption | exact hS.cell0 (by assumption))) rfl ?_
                refine lst_storeN hS rfl (by conv => lhs; whnf) rfl rfl (by first | exact .head | exact .tail .head | exact .tail (.tail .head) | exact .tail (.tail (.tail .head)) | exact .tail (.tail (.tail (.tail .head))) | exact .tail (.tail (.tail (.tail (.tail .head))))) (by repeat constructor) (by first | exact .head | exact .tail .head | exact .tail (.tail .head) | exact .tail (.tail (.tail .head)) | exact .tail (.tail (.tail (.tail .head))) | exact .tail (.tail (.tail (.tail (.tail .head))))) ?_
                clear hS
                intro wx5 hS
                refine lst_done ?_
                refine goes_retC (sz := 4) hS Tryz.func19 rfl rfl rfl rfl (by first | exact .head | exact .tail .head | exact .tail (.tail .head) | exact .tail (.tail (.tail .head)) | exact .tail (.tail (.tail (.tail .head))) | exact .tail (.tail (.tail (.tail (.tail .head))))) (by repeat constructor) ?_
                exact ⟨.slice none 0 0, L2, _, VH, rfl, hL2, hV, hS.drop.drop.learn fun w _ => hnil w⟩
              | true =>
                have e : refTerm (d + 1) ⟨(c :: r) :: rest, vars, bad⟩ = (⟨3, 0, c :: r, tsOf (refTerms (refTerm d) [41] ⟨rest.tail, vars, bad⟩).1⟩, (refTerms (refTerm d) [41] ⟨rest.tail, vars, bad⟩).2) := by rw [e0, if_pos hh]
                have hrl := (has_pop hh).1
                dsimp only [PS.pop] at hrl
                rw [e]
                clear e e0
                have htk := takeP_any ⟨rest, vars, bad⟩ [40] _ _ _ hLt hφ hS.swap
                rw [hh] at htk
                simp only [if_true, PS.pop] at htk
                refine lst_enter (run_call (by kernel_rfl) (args_2 (by conv => lhs; whnf) (by conv => lhs; whnf))) rfl ?_
                refine Calls.mono (htk) ?_
                rintro _ w3 ⟨L2, rfl, hL2, hS'⟩
                refine ⟨_, rfl, ?_⟩
                replace hS := hS'
                clear hS'
                replace hS := hS.swap
                refine lst_done ?_
                refine goes_true rfl ?_
                refine goes_seq ?_
                refine goes_region ?_
                refine lst_run (run_fieldAddr (off := 0) rfl rfl) rfl ?_
                refine lst_store1 hS rfl (by conv => lhs; whnf) rfl rfl (by first | exact .head | exact .tail .head | exact .tail (.tail .head) | exact .tail (.tail (.tail .head)) | exact .tail (.tail (.tail (.tail .head))) | exact .tail (.tail (.tail (.tail (.tail .head))))) (by repeat constructor) (by first | exact .head | exact .tail .head | exact .tail (.tail .head) | exact .tail (.tail (.tail .head)) | exact .tail (.tail (.tail (.tail .head))) | exact .tail (.tail (.tail (.tail (.tail .head))))) ?_
                clear hS
                intro wx5 hS
                refine lst_done ?_
                refine goes_seq ?_
                refine goes_draw (St _ w0 [_] _) 9 ((0, true) :: (1, true) :: (2, true) :: (3, true) :: (4, true) :: (5, false) :: (6, false) :: (7, false) :: (8, true) :: []) (by kernel_rfl) (by kernel_rfl) (hS.drew.only1) ?_
                replace hS := hS.drew
                refine ord_read rfl (fun _ hS => run_fieldAddr (off := 3) rfl rfl) rfl ?_
                first
                  | refine ord_read rfl (fun _ hS => run_load1_own hS rfl rfl (by first | exact .head | exact .tail .head | exact .tail (.tail .head) | exact .tail (.tail (.tail .head)) | exact .tail (.tail (.tail (.tail .head))) | exact .tail (.tail (.tail (.tail (.tail .head))))) (by repeat constructor)) rfl ?_
                  | refine ord_read rfl (fun _ hS => run_load1 rfl rfl (by first | assumption | exact hS.cell0 (by assumption) | exact lv_next hS | exact lv_list hS)) rfl ?_
                refine ord_read rfl (fun _ hS => run_move (by conv => lhs; whnf)) rfl ?_
                refine ord_read rfl (fun _ hS => run_move (by conv => lhs; whnf)) rfl ?_
                first
                  | refine ord_read rfl (fun _ hS => run_sub rfl rfl (by omega) (by omega)) rfl ?_
                  | refine ord_read rfl (fun _ hS => run_sub_u8 rfl rfl) rfl ?_
                refine ord_act rfl ?_
                refine lst_enter (run_call (by kernel_rfl) (args_2 (by conv => lhs; whnf) (by conv => lhs; whnf))) rfl ?_
                have hct := ht d rfl ⟨rest.tail, vars, bad⟩ L2 _ VH M w0 _ _ F b φ hφ (by show rest.tail.length ≤ _; omega) (by show vars.length + rest.tail.length ≤ _; omega) hL2 hV hS.sink1
                rw [show ((d : Nat) : Int) = ((d + 1 : Nat) : Int) - 1 by omega] at hct
                refine Calls.mono hct ?_
                rintro _ w4 ⟨v, L3, V3, VH3, rfl, hL3, hV3, hS'⟩
                refine ⟨_, rfl, ?_⟩
                replace hS := hS'.raise1
                clear hS'
                obtain ⟨A3, c3, rfl, _⟩ := (hS.fact (.head _)).form
                have hf := refTerm_le d
                have hles := hf ⟨rest.tail, vars, bad⟩
                have hfew := refTerm_few d ⟨rest.tail, vars, bad⟩
                dsimp only at hles hfew
                have hi : refTerms (refTerm d) [41] ⟨rest.tail, vars, bad⟩ = ([(refTerm d ⟨rest.tail, vars, bad⟩).1] ++ (refLoop (refTerm d) (refTerm d ⟨rest.tail, vars, bad⟩).2.l.length (refTerm d ⟨rest.tail, vars, bad⟩).2).1, (refLoop (refTerm d) (refTerm d ⟨rest.tail, vars, bad⟩).2.l.length (refTerm d ⟨rest.tail, vars, bad⟩).2).2.close [41]) := rfl
                generalize refTerm d ⟨rest.tail, vars, bad⟩ = r3 at *
                obtain ⟨nd, p3⟩ := r3
                dsimp only at *
                refine lst_ord (by first | exact hS.only1 | exact hS.drop.only1 | exact hS.unlearn.only1 | exact hS.unlearn.drop.only1) ?_
                refine ord_act rfl ?_
                refine lst_buildSlice (cells := [_, _, _, _]) hS (.cons (by conv => lhs; whnf) .nil) rfl rfl ?_
                clear hS
                intro b3 wx6 hS
                refine lst_ord (by first | exact hS.only1 | exact hS.drop.only1 | exact hS.unlearn.only1 | exact hS.unlearn.drop.only1) ?_
                refine ord_act rfl ?_
                refine lst_app (sz := 4) (bts := 56) hS (by conv => lhs; whnf) rfl rfl rfl rfl ((Row.nil_ (el := 31) (sz := 4))) rfl rfl (List.Perm.refl _) (by omega) (by omega) rfl ?_
                clear hS
                intro v4 O4 w5 hR4 hS
                replace hS := (hS.perm (List.perm_append_comm_assoc O4 (_ :: _ :: VH3) (_ :: H))).conv (ψ := fun w => Cs w (fun _ => True) (tsOf [nd]) [.int .i64 nd.k, .int .i64 nd.n, sv nd.s, .slice A3 nd.ar.length c3]) fun w h => ⟨_, [], rfl, h, rfl⟩
                obtain ⟨A4, c4, rfl⟩ := hR4.form
                refine lst_ord (by first | exact hS.only1 | exact hS.drop.only1 | exact hS.unlearn.only1 | exact hS.unlearn.drop.only1) ?_
                refine ord_read rfl (fun _ hS => run_fieldAddr (off := 3) rfl rfl) rfl ?_
                refine ord_end ?_
                refine lst_store1 hS rfl (by conv => lhs; whnf) rfl rfl (by first | exact .head | exact .tail .head | exact .tail (.tail .head) | exact .tail (.tail (.tail .head)) | exact .tail (.tail (.tail (.tail .head))) | exact .tail (.tail (.tail (.tail (.tail .head))))) (by repeat constructor) (by first | exact .head | exact .tail .head | exact .tail (.tail .head) | exact .tail (.tail (.tail .head)) | exact .tail (.tail (.tail (.tail .head))) | exact .tail (.tail (.tail (.tail (.tail .head))))) ?_
                clear hS
                intro wx7 hS
                refine lst_done ?_
                refine goes_seq ?_
                refine goes_block ?_
                clear hc0 hLt hfr htk hct
                refine goes_loop0  (156 :: 157 :: 158 :: 159 :: 160 :: 161 :: 162 :: 163 :: 164 :: 165 :: 166 :: 167 :: 168 :: 169 :: 170 :: 171 :: 172 :: 173 :: []) (fun (x : List Nd × PS) w' => ∃ L V VH Av O xs, Sx φ L x.2.l ∧ Vars x.2.vars V VH ∧ Row 31 4 Av x.1.length xs O ∧ St M w0 ((b2, .cells [.int .i64 3, .int .i64 0, sv (c :: r), Av].toArray 31) :: (b, psr L V x.2.bad) :: (VH ++ (O ++ (b1, .cells [.int .i64 0, .int .i64 0, sv [], .slice none 0 0].toArray 31) :: H))) ((fun w => Cs w (fun _ => True) (tsOf x.1) xs) :: F) w' ∧ x.1.length + x.2.l.length ≤ 2001 ∧ x.2.l.length ≤ 2000 ∧ x.2.vars.length + x.2.l.length ≤ 4000 ∧ refTerms (refTerm d) [41] ⟨rest.tail, vars, bad⟩ = (x.1 ++ (refLoop (refTerm d) x.2.l.length x.2).1, (refLoop (refTerm d) x.2.l.length x.2).2.close [41])) (fun x => x.2.l.length) (([nd], p3)) ?_ ?_
                · exact ⟨L3, V3, VH3, _, O4, _, hL3, hV3, hR4, hS, by show 1 + p3.l.length ≤ _; omega, by show p3.l.length ≤ _; omega, by show p3.vars.length + p3.l.length ≤ _; omega, hi⟩
                clear hS hi hV3 hL3
                rintro ⟨D, p4⟩ w6 jv6 ⟨L4, V4, VH4, Av, O5, xs, hL4, hV4, hR5, hS, hD1, hD2, hD3, hi⟩ ih
                dsimp only at hL4 hV4 hR5 hS hD1 hD2 hD3 hi
                obtain ⟨l4, vars4, bad4⟩ := p4
                dsimp only at hL4 hV4 hR5 hS hD1 hD2 hD3 hi
                obtain ⟨Ao, co, rfl⟩ := hR5.form
                have hfin : ∀ (L : Value) (bd : Bool) (w' : World), St M w0 ((b1, .cells [.int .i64 3, .int .i64 0, sv (c :: r), .slice Ao D.length co].toArray 31) :: (b2, .cells [.int .i64 3, .int .i64 0, sv (c :: r), .slice Ao D.length co].toArray 31) :: (b, psr L V4 bd) :: (VH4 ++ (O5 ++ H))) ((fun w => Cs w (fun _ => True) (tsOf D) xs) :: F) w' → St M w0 ((b, psr L V4 bd) :: (VH4 ++ H)) ((fun w => Sl w (fun _ => True) (.slice Ao D.length co) (tsOf D)) :: F) w' := by
                  intro L bd w' h
                  have h2 := h.drop.drop.perm (List.perm_append_comm_assoc ((b, psr L V4 bd) :: VH4) O5 H)
                  have hR6 := hR5
                  rw [← tsOf_length D] at hR6 ⊢
                  exact St.shut hR6 h2
                cases bad4 with
                | true =>
                  have hst := refLoop_stop (f := refTerm d) (p := ⟨l4, vars4, true⟩) (by simp)
                  dsimp only at hst
                  rw [hst] at hi
                  have ecl : PS.close ⟨l4, vars4, true⟩ [41] = ⟨l4, vars4, true⟩ := rfl
                  simp only [List.append_nil, ecl] at hi
                  rw [hi]
                  replace hS := St.raise3 hS
                  refine goes_seq ?_
                  refine goes_seq ?_
                  refine goes_region ?_
                  refine lst_run (run_move (by conv => lhs; whnf)) rfl ?_
                  refine lst_run (run_nilCheck rfl) rfl ?_
                  refine lst_run (run_fieldAddr (off := 2) rfl rfl) rfl ?_
                  first
                    | refine lst_run (run_load1_own hS rfl rfl (by first | exact .head | exact .tail .head | exact .tail (.tail .head) | exact .tail (.tail (.tail .head)) | exact .tail (.tail (.tail (.tail .head))) | exact .tail (.tail (.tail (.tail (.tail .head))))) (by repeat constructor)) rfl ?_
                    | refine lst_run (run_load1 rfl rfl (by first | assumption | exact hS.cell0 (by assumption) | exact lv_next hS | exact lv_list hS)) rfl ?_
                  refine lst_run (rfl) rfl ?_
                  refine lst_run (run_move (by conv => lhs; whnf)) rfl ?_
                  refine lst_pass rfl rfl rfl ?_
                  refine lst_pass rfl rfl rfl ?_
                  first
                    | refine lst_run (run_pick_t rfl (by conv => lhs; whnf)) rfl ?_
                    | refine lst_run (run_pick_f rfl (by conv => lhs; whnf)) rfl ?_
                  refine lst_done ?_
                  refine goes_false rfl ?_
                  refine goes_exit rfl ?_
                  refine goes_region ?_
                  refine lst_run (run_move (by conv => lhs; whnf)) rfl ?_
                  refine lst_run (run_move (by conv => lhs; whnf)) rfl ?_
                  refine lst_run (run_nilCheck rfl) rfl ?_
                  refine lst_run (run_fieldAddr (off := 2) rfl rfl) rfl ?_
                  first
                    | refine lst_run (run_load1_own hS rfl rfl (by first | exact .head | exact .tail .head | exact .tail (.tail .head) | exact .tail (.tail (.tail .head)) | exact .tail (.tail (.tail (.tail .head))) | exact .tail (.tail (.tail (.tail (.tail .head))))) (by repeat constructor)) rfl ?_
                    | refine lst_run (run_load1 rfl rfl (by first | assumption | exact hS.cell0 (by assumption) | exact lv_next hS | exact lv_list hS)) rfl ?_
                  refine lst_run (run_move (by conv => lhs; whnf)) rfl ?_
                  refine lst_pass rfl rfl rfl ?_
                  refine lst_pass rfl rfl rfl ?_
                  refine lst_pass rfl rfl rfl ?_
                  first
                    | refine lst_run (run_pick_t rfl (by conv => lhs; whnf)) rfl ?_
                    | refine lst_run (run_pick_f rfl (by conv => lhs; whnf)) rfl ?_
                  refine lst_run (run_nilCheck rfl) rfl ?_
                  refine lst_run (run_fieldAddr (off := 2) rfl rfl) rfl ?_
                  refine lst_store1 hS rfl (by conv => lhs; whnf) rfl rfl (by first | exact .head | exact .tail .head | exact .tail (.tail .head) | exact .tail (.tail (.tail .head)) | exact .tail (.tail (.tail (.tail .head))) | exact .tail (.tail (.tail (.tail (.tail .head))))) (by repeat constructor) (by first | exact .head | exact .tail .head | exact .tail (.tail .head) | exact .tail (.tail (.tail .head)) | exact .tail (.tail (.tail (.tail .head))) | exact .tail (.tail (.tail (.tail (.tail .head))))) ?_
                  clear hS
                  intro wx8 hS
                  refine lst_done ?_
                  refine goes_seq ?_
                  refine goes_region ?_
                  first
                    | refine lst_run (run_loadN_own (k := 4) hS rfl rfl rfl (by first | exact .head | exact .tail .head | exact .tail (.tail .head) | exact .tail (.tail (.tail .head)) | exact .tail (.tail (.tail (.tail .head))) | exact .tail (.tail (.tail (.tail (.tail .head))))) (by repeat constructor)) rfl ?_
                    | refine lst_run (run_load4 rfl rfl rfl (by first | assumption | exact hS.cell0 (by assumption)) (by first | assumption | exact hS.cell0 (by assumption)) (by first | assumption | exact hS.cell0 (by assumption)) (by first | assumption | exact hS.cell0 (by assumption))) rfl ?_
                  refine lst_storeN hS rfl (by conv => lhs; whnf) rfl rfl (by first | exact .head | exact .tail .head | exact .tail (.tail .head) | exact .tail (.tail (.tail .head)) | exact .tail (.tail (.tail (.tail .head))) | exact .tail (.tail (.tail (.tail (.tail .head))))) (by repeat constructor) (by first | exact .head | exact .tail .head | exact .tail (.tail .head) | exact .tail (.tail (.tail .head)) | exact .tail (.tail (.tail (.tail .head))) | exact .tail (.tail (.tail (.tail (.tail .head))))) ?_
                  clear hS
                  intro wx9 hS
                  refine lst_done ?_
                  refine goes_retC (sz := 4) hS Tryz.func19 rfl rfl rfl rfl (by first | exact .head | exact .tail .head | exact .tail (.tail .head) | exact .tail (.tail (.tail .head)) | exact .tail (.tail (.tail (.tail .head))) | exact .tail (.tail (.tail (.tail (.tail .head))))) (by repeat constructor) ?_
                  exact ⟨_, L4, V4, VH4, rfl, hL4, hV4, hfin _ _ _ hS⟩
                | false =>
                  cases hcm : PS.has ⟨l4, vars4, false⟩ [44] with
                  | true =>
                    have hst := refLoop_step hf (p := ⟨l4, vars4, false⟩) ⟨rfl, hcm⟩
                    have hrl4 := (has_pop hcm).1
                    dsimp only [PS.pop] at hrl4 hst
                    have htk := takeP_any ⟨l4, vars4, false⟩ [44] _ _ _ hL4 (.tail _ hφ) hS.swap
                    rw [hcm] at htk
                    simp only [if_true, PS.pop] at htk
                    refine goes_seq ?_
                    refine goes_seq ?_
                    refine goes_region ?_
                    refine lst_run (run_move (by conv => lhs; whnf)) rfl ?_
                    refine lst_run (run_nilCheck rfl) rfl ?_
                    refine lst_run (run_fieldAddr (off := 2) rfl rfl) rfl ?_
                    first
                      | refine lst_run (run_load1_own hS rfl rfl (by first | exact .head | exact .tail .head | exact .tail (.tail .head) | exact .tail (.tail (.tail .head)) | exact .tail (.tail (.tail (.tail .head))) | exact .tail (.tail (.tail (.tail (.tail .head))))) (by repeat constructor)) rfl ?_
                      | refine lst_run (run_load1 rfl rfl (by first | assumption | exact hS.cell0 (by assumption) | exact lv_next hS | exact lv_list hS)) rfl ?_
                    refine lst_run (rfl) rfl ?_
                    refine lst_run (run_move (by conv => lhs; whnf)) rfl ?_
                    refine lst_guard rfl rfl ?_
                    refine lst_run (run_move (by conv => lhs; whnf)) rfl ?_
                    refine lst_guard rfl rfl ?_
                    refine lst_enter (run_call (by kernel_rfl) (args_2 (by conv => lhs; whnf) (by conv => lhs; whnf))) rfl ?_
                    refine Calls.mono (htk) ?_
                    rintro _ w7 ⟨L5, rfl, hL5, hS'⟩
                    refine ⟨_, rfl, ?_⟩
                    replace hS := hS'
                    clear hS'
                    replace hS := hS.swap
                    first
                      | refine lst_run (run_pick_t rfl (by conv => lhs; whnf)) rfl ?_
                      | refine lst_run (run_pick_f rfl (by conv => lhs; whnf)) rfl ?_
                    refine lst_done ?_
                    refine goes_true rfl ?_
                    refine goes_skip ?_
                    refine goes_block ?_
                    refine goes_draw (St _ w0 [_] _) 9 ((0, true) :: (1, true) :: (2, true) :: (3, true) :: (4, true) :: (5, false) :: (6, false) :: (7, false) :: (8, true) :: []) (by kernel_rfl) (by kernel_rfl) (hS.drew.only1) ?_
                    replace hS := hS.drew
                    refine ord_read rfl (fun _ hS => run_fieldAddr (off := 3) rfl rfl) rfl ?_
                    first
                      | refine ord_read rfl (fun _ hS => run_load1_own hS rfl rfl (by first | exact .head | exact .tail .head | exact .tail (.tail .head) | exact .tail (.tail (.tail .head)) | exact .tail (.tail (.tail (.tail .head))) | exact .tail (.tail (.tail (.tail (.tail .head))))) (by repeat constructor)) rfl ?_
                      | refine ord_read rfl (fun _ hS => run_load1 rfl rfl (by first | assumption | exact hS.cell0 (by assumption) | exact lv_next hS | exact lv_list hS)) rfl ?_
                    refine ord_read rfl (fun _ hS => run_move (by conv => lhs; whnf)) rfl ?_
                    refine ord_read rfl (fun _ hS => run_move (by conv => lhs; whnf)) rfl ?_
                    first
                      | refine ord_read rfl (fun _ hS => run_sub rfl rfl (by omega) (by omega)) rfl ?_
                      | refine ord_read rfl (fun _ hS => run_sub_u8 rfl rfl) rfl ?_
                    refine ord_act rfl ?_
                    refine lst_enter (run_call (by kernel_rfl) (args_2 (by conv => lhs; whnf) (by conv => lhs; whnf))) rfl ?_
                    have hct := ht d rfl ⟨l4.tail, vars4, false⟩ L5 _ VH4 M w0 _ _ _ b φ (.tail _ hφ) (by show l4.tail.length ≤ _; omega) (by show vars4.length + l4.tail.length ≤ _; omega) hL5 hV4 hS.sink1
                    rw [show ((d : Nat) : Int) = ((d + 1 : Nat) : Int) - 1 by omega] at hct
                    refine Calls.mono hct ?_
                    rintro _ w8 ⟨v, L6, V6, VH6, rfl, hL6, hV6, hS'⟩
                    refine ⟨_, rfl, ?_⟩
                    replace hS := hS'.raise1
                    clear hS' hct htk
                    obtain ⟨A6, c6, rfl, _⟩ := (hS.fact (.head _)).form
                    have hles6 := hf ⟨l4.tail, vars4, false⟩
                    have hfew6 := refTerm_few d ⟨l4.tail, vars4, false⟩
                    dsimp only at hles6 hfew6
                    generalize refTerm d ⟨l4.tail, vars4, false⟩ = r6 at *
                    obtain ⟨nd6, p6⟩ := r6
                    dsimp only at *
                    refine lst_ord (by first | exact hS.only1 | exact hS.drop.only1 | exact hS.unlearn.only1 | exact hS.unlearn.drop.only1) ?_
                    refine ord_act rfl ?_
                    refine lst_buildSlice (cells := [_, _, _, _]) hS (.cons (by conv => lhs; whnf) .nil) rfl rfl ?_
                    clear hS
                    intro b4 wx8 hS
                    refine lst_ord (by first | exact hS.only1 | exact hS.drop.only1 | exact hS.unlearn.only1 | exact hS.unlearn.drop.only1) ?_
                    refine ord_act rfl ?_
                    refine lst_app (sz := 4) (bts := 56) hS (by conv => lhs; whnf) rfl rfl rfl rfl (hR5) rfl rfl (.cons _ (List.perm_append_comm_assoc (_ :: _ :: VH6) O5 (_ :: H))) (by omega) (by omega) rfl ?_
                    clear hS
                    intro v9 O9 w9 hR9 hS
                    replace hS := hS.perm (List.perm_append_comm_assoc O9 (_ :: _ :: VH6) (_ :: H))
                    obtain ⟨A9, c9, rfl⟩ := hR9.form
                    refine lst_ord (by first | exact hS.only1 | exact hS.drop.only1 | exact hS.unlearn.only1 | exact hS.unlearn.drop.only1) ?_
                    refine ord_read rfl (fun _ hS => run_fieldAddr (off := 3) rfl rfl) rfl ?_
                    refine ord_end ?_
                    refine lst_store1 hS rfl (by conv => lhs; whnf) rfl rfl (by first | exact .head | exact .tail .head | exact .tail (.tail .head) | exact .tail (.tail (.tail .head)) | exact .tail (.tail (.tail (.tail .head))) | exact .tail (.tail (.tail (.tail (.tail .head))))) (by repeat constructor) (by first | exact .head | exact .tail .head | exact .tail (.tail .head) | exact .tail (.tail (.tail .head)) | exact .tail (.tail (.tail (.tail .head))) | exact .tail (.tail (.tail (.tail (.tail .head))))) ?_
                    clear hS
                    intro wx9 hS
                    refine lst_done ?_
                    refine goes_inBlock ?_
                    replace hS := St.conv2 hS (ψ := fun w => Cs w (fun _ => True) (tsOf (D ++ [nd6])) (xs ++ [.int .i64 nd6.k, .int .i64 nd6.n, sv nd6.s, .slice A6 nd6.ar.length c6])) fun w h1 h2 => by
                      rw [tsOf_app]; exact Cs.app h2 ⟨_, [], rfl, h1, rfl⟩
                    refine ih ((D ++ [nd6], p6)) _ _ ?_ ?_ (by kernel_rfl)
                    · show p6.l.length < l4.length; omega
                    · refine ⟨L6, V6, VH6, _, O9, _, hL6, hV6, ?_, hS, ?_, ?_, ?_, ?_⟩
                      · simp only [List.length_append, List.length_cons, List.length_nil]; exact hR9
                      · simp only [List.length_append, List.length_cons, List.length_nil]; omega
                      · show p6.l.length ≤ _; omega
                      · show p6.vars.length + p6.l.length ≤ _; omega
                      · rw [hi, hst]; simp
                  | false =>
                    have hst := refLoop_stop (f := refTerm d) (p := ⟨l4, vars4, false⟩) (by simp [hcm])
                    dsimp only at hst
                    rw [hst] at hi
                    simp only [List.append_nil] at hi
                    have htk := takeP_any ⟨l4, vars4, false⟩ [44] _ _ _ hL4 (.tail _ hφ) hS.swap
                    rw [hcm] at htk
                    simp only [Bool.false_eq_true, if_false] at htk
                    refine goes_seq ?_
                    refine goes_seq ?_
                    refine goes_region ?_
                    refine lst_run (run_move (by conv => lhs; whnf)) rfl ?_
                    refine lst_run (run_nilCheck rfl) rfl ?_
                    refine lst_run (run_fieldAddr (off := 2) rfl rfl) rfl ?_
                    first
                      | refine lst_run (run_load1_own hS rfl rfl (by first | exact .head | exact .tail .head | exact .tail (.tail .head) | exact .tail (.tail (.tail .head)) | exact .tail (.tail (.tail (.tail .head))) | exact .tail (.tail (.tail (.tail (.tail .head))))) (by repeat constructor)) rfl ?_
                      | refine lst_run (run_load1 rfl rfl (by first | assumption | exact hS.cell0 (by assumption) | exact lv_next hS | exact lv_list hS)) rfl ?_
                    refine lst_run (rfl) rfl ?_
                    refine lst_run (run_move (by conv => lhs; whnf)) rfl ?_
                    refine lst_guard rfl rfl ?_
                    refine lst_run (run_move (by conv => lhs; whnf)) rfl ?_
                    refine lst_guard rfl rfl ?_
                    refine lst_enter (run_call (by kernel_rfl) (args_2 (by conv => lhs; whnf) (by conv => lhs; whnf))) rfl ?_
                    refine Calls.mono (htk) ?_
                    rintro _ w7 ⟨L5, rfl, hL5, hS'⟩
                    refine ⟨_, rfl, ?_⟩
                    replace hS := hS'
                    clear hS'
                    replace hS := hS.swap
                    first
                      | refine lst_run (run_pick_t rfl (by conv => lhs; whnf)) rfl ?_
                      | refine lst_run (run_pick_f rfl (by conv => lhs; whnf)) rfl ?_
                    refine lst_done ?_
                    refine goes_false rfl ?_
                    refine goes_exit rfl ?_
                    refine goes_region ?_
                    refine lst_run (run_move (by conv => lhs; whnf)) rfl ?_
                    refine lst_run (run_move (by conv => lhs; whnf)) rfl ?_
                    refine lst_run (run_nilCheck rfl) rfl ?_
                    refine lst_run (run_fieldAddr (off := 2) rfl rfl) rfl ?_
                    first
                      | refine lst_run (run_load1_own hS rfl rfl (by first | exact .head | exact .tail .head | exact .tail (.tail .head) | exact .tail (.tail (.tail .head)) | exact .tail (.tail (.tail (.tail .head))) | exact .tail (.tail (.tail (.tail (.tail .head))))) (by repeat constructor)) rfl ?_
                      | refine lst_run (run_load1 rfl rfl (by first | assumption | exact hS.cell0 (by assumption) | exact lv_next hS | exact lv_list hS)) rfl ?_
                    refine lst_run (run_move (by conv => lhs; whnf)) rfl ?_
                    refine lst_guard rfl rfl ?_
                    refine lst_run (run_move (by conv => lhs; whnf)) rfl ?_
                    refine lst_guard rfl rfl ?_
                    have htk2 := takeP_any ⟨l4, vars4, false⟩ [41] _ _ _ hL5 (.tail _ hφ) hS.swap
                    cases hcl : PS.has ⟨l4, vars4, false⟩ [41] with
                    | true =>
                      have ecl : PS.close ⟨l4, vars4, false⟩ [41] = ⟨l4.tail, vars4, false⟩ := by unfold PS.close; rw [if_neg (by simp), if_pos hcl]; rfl
                      rw [ecl] at hi
                      rw [hi]
                      rw [hcl] at htk2
                      simp only [if_true, PS.pop] at htk2
                      refine lst_enter (run_call (by kernel_rfl) (args_2 (by conv => lhs; whnf) (by conv => lhs; whnf))) rfl ?_
                      refine Calls.mono (htk2) ?_
                      rintro _ w8 ⟨L6, rfl, hL6, hS'⟩
                      refine ⟨_, rfl, ?_⟩
                      replace hS := hS'
                      clear hS'
                      replace hS := St.raise3 hS.swap
                      refine lst_guard rfl rfl ?_
                      refine lst_run (rfl) rfl ?_
                      first
                        | refine lst_run (run_pick_t rfl (by conv => lhs; whnf)) rfl ?_
                        | refine lst_run (run_pick_f rfl (by conv => lhs; whnf)) rfl ?_
                      refine lst_run (run_nilCheck rfl) rfl ?_
                      refine lst_run (run_fieldAddr (off := 2) rfl rfl) rfl ?_
                      refine lst_store1 hS rfl (by conv => lhs; whnf) rfl rfl (by first | exact .head | exact .tail .head | exact .tail (.tail .head) | exact .tail (.tail (.tail .head)) | exact .tail (.tail (.tail (.tail .head))) | exact .tail (.tail (.tail (.tail (.tail .head))))) (by repeat constructor) (by first | exact .head | exact .tail .head | exact .tail (.tail .head) | exact .tail (.tail (.tail .head)) | exact .tail (.tail (.tail (.tail .head))) | exact .tail (.tail (.tail (.tail (.tail .head))))) ?_
                      clear hS
                      intro wx8 hS
                      refine lst_done ?_
                      refine goes_seq ?_
                      refine goes_region ?_
                      first
                        | refine lst_run (run_loadN_own (k := 4) hS rfl rfl rfl (by first | exact .head | exact .tail .head | exact .tail (.tail .head) | exact .tail (.tail (.tail .head)) | exact .tail (.tail (.tail (.tail .head))) | exact .tail (.tail (.tail (.tail (.tail .head))))) (by repeat constructor)) rfl ?_
                        | refine lst_run (run_load4 rfl rfl rfl (by first | assumption | exact hS.cell0 (by assumption)) (by first | assumption | exact hS.cell0 (by assumption)) (by first | assumption | exact hS.cell0 (by assumption)) (by first | assumption | exact hS.cell0 (by assumption))) rfl ?_
                      refine lst_storeN hS rfl (by conv => lhs; whnf) rfl rfl (by first | exact .head | exact .tail .head | exact .tail (.tail .head) | exact .tail (.tail (.tail .head)) | exact .tail (.tail (.tail (.tail .head))) | exact .tail (.tail (.tail (.tail (.tail .head))))) (by repeat constructor) (by first | exact .head | exact .tail .head | exact .tail (.tail .head) | exact .tail (.tail (.tail .head)) | exact .tail (.tail (.tail (.tail .head))) | exact .tail (.tail (.tail (.tail (.tail .head))))) ?_
                      clear hS
                      intro wx9 hS
                      refine lst_done ?_
                      refine goes_retC (sz := 4) hS Tryz.func19 rfl rfl rfl rfl (by first | exact .head | exact .tail .head | exact .tail (.tail .head) | exact .tail (.tail (.tail .head)) | exact .tail (.tail (.tail (.tail .head))) | exact .tail (.tail (.tail (.tail (.tail .head))))) (by repeat constructor) ?_
                      exact ⟨_, L6, V4, VH4, rfl, hL6, hV4, hfin _ _ _ hS⟩
                    | false =>
                      have ecl : PS.close ⟨l4, vars4, false⟩ [41] = ⟨l4, vars4, true⟩ := by unfold PS.close; rw [if_neg (by simp), if_neg (by simp [hcl])]; rfl
                      rw [ecl] at hi
                      rw [hi]
                      rw [hcl] at htk2
                      simp only [Bool.false_eq_true, if_false] at htk2
                      refine lst_enter (run_call (by kernel_rfl) (args_2 (by conv => lhs; whnf) (by conv => lhs; whnf))) rfl ?_
                      refine Calls.mono (htk2) ?_
                      rintro _ w8 ⟨L6, rfl, hL6, hS'⟩
                      refine ⟨_, rfl, ?_⟩
                      replace hS := hS'
                      clear hS'
                      replace hS := St.raise3 hS.swap
                      refine lst_guard rfl rfl ?_
                      refine lst_run (rfl) rfl ?_
                      first
                        | refine lst_run (run_pick_t rfl (by conv => lhs; whnf)) rfl ?_
                        | refine lst_run (run_pick_f rfl (by conv => lhs; whnf)) rfl ?_
                      refine lst_run (run_nilCheck rfl) rfl ?_
                      refine lst_run (run_fieldAddr (off := 2) rfl rfl) rfl ?_
                      refine lst_store1 hS rfl (by conv => lhs; whnf) rfl rfl (by first | exact .head | exact .tail .head | exact .tail (.tail .head) | exact .tail (.tail (.tail .head)) | exact .tail (.tail (.tail (.tail .head))) | exact .tail (.tail (.tail (.tail (.tail .head))))) (by repeat constructor) (by first | exact .head | exact .tail .head | exact .tail (.tail .head) | exact .tail (.tail (.tail .head)) | exact .tail (.tail (.tail (.tail .head))) | exact .tail (.tail (.tail (.tail (.tail .head))))) ?_
                      clear hS
                      intro wx8 hS
                      refine lst_done ?_
                      refine goes_seq ?_
                      refine goes_region ?_
                      first
                        | refine lst_run (run_loadN_own (k := 4) hS rfl rfl rfl (by first | exact .head | exact .tail .head | exact .tail (.tail .head) | exact .tail (.tail (.tail .head)) | exact .tail (.tail (.tail (.tail .head))) | exact .tail (.tail (.tail (.tail (.tail .head))))) (by repeat constructor)) rfl ?_
                        | refine lst_run (run_load4 rfl rfl rfl (by first | assumption | exact hS.cell0 (by assumption)) (by first | assumption | exact hS.cell0 (by assumption)) (by first | assumption | exact hS.cell0 (by assumption)) (by first | assumption | exact hS.cell0 (by assumption))) rfl ?_
                      refine lst_storeN hS rfl (by conv => lhs; whnf) rfl rfl (by first | exact .head | exact .tail .head | exact .tail (.tail .head) | exact .tail (.tail (.tail .head)) | exact .tail (.tail (.tail (.tail .head))) | exact .tail (.tail (.tail (.tail (.tail .head))))) (by repeat constructor) (by first | exact .head | exact .tail .head | exact .tail (.tail .head) | exact .tail (.tail (.tail .head)) | exact .tail (.tail (.tail (.tail .head))) | exact .tail (.tail (.tail (.tail (.tail .head))))) ?_
                      clear hS
                      intro wx9 hS
                      refine lst_done ?_
                      refine goes_retC (sz := 4) hS Tryz.func19 rfl rfl rfl rfl (by first | exact .head | exact .tail .head | exact .tail (.tail .head) | exact .tail (.tail (.tail .head)) | exact .tail (.tail (.tail (.tail .head))) | exact .tail (.tail (.tail (.tail (.tail .head))))) (by repeat constructor) ?_
                      exact ⟨_, L6, V4, VH4, rfl, hL6, hV4, hfin _ _ _ hS⟩
end Go.Proofs.YtdiophafmokfiaaGreatDoor
