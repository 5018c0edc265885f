/-
  clause, walked.
-/
import Derived.Test.YtdiophafmokfiaaGreatDoorRWalk4
import Derived.Test.YtdiophafmokfiaaGreatDoorG14
namespace Go.Proofs.YtdiophafmokfiaaGreatDoor
open Go.RowKit
set_option linter.unusedVariables false
set_option maxRecDepth 100000
set_option maxHeartbeats 1000000

/-- No more nodes than bytes that were read. -/
def Few (f : RS → Nd × RS) : Prop := ∀ s, (f s).1.ar.nodes + (f s).2.left ≤ s.left
theorem loop_few {f : RS → Nd × RS} (hf : Few f) : ∀ (n : Nat) (s : RS), (tsOf (loopM f n s).1).nodes + (loopM f n s).2.left ≤ s.left
  | 0, s => by simp [loopM, tsOf, Ts.nodes]
  | n + 1, s => by
    unfold loopM
    split
    · rename_i h
      have h1 := adv_lt s (by rw [h]; simp)
      have h2 := hf s.adv
      have h3 := loop_few hf n (f s.adv).2
      simp only [tsOf, Ts.nodes]
      omega
    · simp [tsOf, Ts.nodes]
theorem terms_few {f : RS → Nd × RS} (hf : Few f) (s : RS) : (tsOf (termsM f s).1).nodes + (termsM f s).2.left ≤ s.left + 1 := by
  unfold termsM
  have h2 := hf s
  have h3 := loop_few hf (f s).2.left (f s).2
  simp only [tsOf, Ts.nodes]
  omega
theorem take_lt (s : RS) {t : Str} (h : s.token = t) (hn : t ≠ []) : (s.take t).left < s.left := by
  unfold RS.take
  rw [if_pos h]
  exact adv_lt s (by rw [h]; exact hn)
theorem term_few (num : Str → Option Int) : ∀ d, Few (termM num d)
  | 0, s => by simp [termM, Nd.zero, Ts.nodes, RS.fail, RS.left]
  | d + 1, s => by
    cases ht : s.token with
    | nil => simp [termM, ht, Nd.zero, Ts.nodes, RS.fail, RS.left]
    | cons c r =>
      have h1 := adv_lt s (by rw [ht]; simp)
      rw [termM_cons num d ht]
      split
      · have := (var_left s.adv (c :: r)).1
        simp only [Ts.nodes]; omega
      split
      · rename_i hp
        have htk : s.adv.token = [40] := by simp at hp; exact hp.2
        have h4 := take_lt s.adv htk (by simp)
        have h6 := terms_few (term_few num d) (s.adv.take [40])
        have h7 := take_left (termsM (termM num d) (s.adv.take [40])).2 [41]
        simp only
        omega
      split
      · simp only [Ts.nodes]; omega
      split
      · have := (number_left num s.adv (c :: r)).1
        simp only [Ts.nodes]; omega
      · simp [Nd.zero, Ts.nodes, RS.fail, RS.left]

section
variable (num : Str → Option Int)
/-- What the clause's body is read out of. -/
def bodyM (s : RS) : List Nd × RS := if s.token = [58, 45] then termsM (termM num 24) s.adv else ([], s)
def clauseM (s : RS) : Cl × RS :=
  let p := termM num 24 { s with vars := [] }
  let q := bodyM num p.2
  let s3 := q.2.take [46]
  let c : Cl := ⟨p.1.k, p.1.n, ⟨p.1.s.toArray⟩, p.1.ar, tsOf q.1, (s3.vars.length : Nat)⟩
  (c, if cB c then s3 else s3.fail 1)
end
theorem rest_le (s : RS) : s.rest.length ≤ s.left := Nat.le_add_left _ _
theorem St.dropMid {M : List Nat} {w0 w : World} {H L : List (Nat × Obj)} {F : List (World → Prop)} {p : Nat × Obj} (h : St M w0 (p :: (L ++ H)) F w) : St M w0 (p :: H) F w :=
  St.dropL (L := L) (h.perm (List.perm_middle (l₁ := L)).symm)
theorem body_few (num : Str → Option Int) (s : RS) : (tsOf (bodyM num s).1).nodes + (bodyM num s).2.left ≤ s.left ∧ (bodyM num s).2.left ≤ s.left ∧ (bodyM num s).2.vars.length + (bodyM num s).2.left ≤ s.vars.length + s.left := by
  unfold bodyM
  split
  · rename_i h
    have h1 := adv_lt s (by rw [h]; simp)
    have h2 := terms_few (term_few num 24) s.adv
    have h3 := terms_less (term_less num 24) s.adv
    rw [adv_vars] at h3
    omega
  · simp [tsOf, Ts.nodes]
theorem clause_r (num : Str → Option Int) (G : World → Prop) (L1 : Lib1) (L2 : Lib2) (L3 : Lib3 num G) (s : RS) (V : Value) (VH : List (Nat × Obj)) (M : List Nat) (w0 w : World) (H : List (Nat × Obj)) (F : List (World → Prop)) (b : Nat) (hG : ∀ w', Ext M w0 w' → G w')
    (hl : s.left < 1048576) (hV : Vars s.vars V VH) (hS : St M w0 ((b, rdr s V) :: (VH ++ H)) F w) :
    Calls Tryz.prog 16 #[ptr b] w fun e w' => ∃ u v V' VH', e = .returned (.agg #[.int .i64 (clauseM num s).1.k, .int .i64 (clauseM num s).1.n, .string (clauseM num s).1.s, u, v, .int .i64 (clauseM num s).1.vars]) ∧
      Vars (clauseM num s).2.vars V' VH' ∧ St M w0 ((b, rdr (clauseM num s).2 V') :: (VH' ++ H)) ((fun w => Sl w (fun _ => True) v (clauseM num s).1.bd) :: (fun w => Sl w (fun _ => True) u (clauseM num s).1.hd) :: F) w' := by
  obtain ⟨A, vc, rfl⟩ := hV.form
  have hnil : ∀ w : World, Sl w (fun _ => True) (.slice none 0 0) .nil := fun w => ⟨none, 0, rfl, Nat.le_refl _, fun h => by cases h⟩
  have hl0 : (RS.mk s.token s.rest [] s.err).left ≤ 1048576 := by unfold RS.left at *; simp only; omega
  have hless := term_less num 24 ⟨s.token, s.rest, [], s.err⟩
  have hfew := term_few num 24 ⟨s.token, s.rest, [], s.err⟩
  have hl1 : (RS.mk s.token s.rest [] s.err).left = s.left := rfl
  refine goes_enter1 Tryz.func16 rfl Tryz.ntmps16 rfl ?_
  refine goes_seq ?_
  refine goes_region ?_
  refine lst_alloc (cs := [_, _, _, _, _, _]) hS rfl rfl rfl ?_
  clear hS
  intro b1 wx1 hS
  refine lst_done ?_
  refine goes_seq ?_
  refine goes_region ?_
  refine lst_run (run_move (by conv => lhs; whnf)) rfl ?_
  refine lst_run (run_nilCheck rfl) rfl ?_
  refine lst_run (run_fieldAddr (off := 2) rfl rfl) rfl ?_
  refine lst_store1 hS rfl (by conv => lhs; whnf) rfl rfl (by first | exact .head | exact .tail .head | exact .tail (.tail .head) | exact .tail (.tail (.tail .head)) | exact .tail (.tail (.tail (.tail .head))) | exact .tail (.tail (.tail (.tail (.tail .head))))) (by repeat constructor) (by first | exact .head | exact .tail .head | exact .tail (.tail .head) | exact .tail (.tail (.tail .head)) | exact .tail (.tail (.tail (.tail .head))) | exact .tail (.tail (.tail (.tail (.tail .head))))) ?_
  clear hS
  intro wx2 hS
  refine lst_done ?_
  refine goes_seq ?_
  refine goes_region ?_
  refine lst_run (run_move (by conv => lhs; whnf)) rfl ?_
  replace hS := hS.sink1
  replace hS := St.dropMid (L := VH) hS
  refine lst_enter (run_call (by kernel_rfl) (args_2 (by conv => lhs; whnf) (by conv => lhs; whnf))) rfl ?_
  refine Calls.mono (term_said num G L1 L2 L3 24 (by omega) ⟨s.token, s.rest, [], s.err⟩ _ [] M w0 _ _ F b hG hl0 (by simp; omega) Row.nil_ hS) ?_
  rintro _ w1 ⟨u, V1, VH1, rfl, hV1, hS'⟩
  refine ⟨_, rfl, ?_⟩
  replace hS := hS'
  clear hS'
  obtain ⟨A1, c1, rfl, _⟩ := (hS.fact (.head _)).form
  refine lst_run (run_build (cells := [_, _, _, _, _, _]) (.cons (by conv => lhs; whnf) .nil) rfl) rfl ?_
  refine lst_alloc (cs := [_, _, _, _, _, _]) hS rfl rfl rfl ?_
  clear hS
  intro b2 wx3 hS
  refine lst_storeN hS rfl (by conv => lhs; whnf) rfl rfl (by first | exact .head | exact .tail .head | exact .tail (.tail .head) | exact .tail (.tail (.tail .head)) | exact .tail (.tail (.tail (.tail .head))) | exact .tail (.tail (.tail (.tail (.tail .head))))) (by repeat constructor) (by first | exact .head | exact .tail .head | exact .tail (.tail .head) | exact .tail (.tail (.tail .head)) | exact .tail (.tail (.tail (.tail .head))) | exact .tail (.tail (.tail (.tail (.tail .head))))) ?_
  clear hS
  intro wx4 hS
  refine lst_done ?_
  refine goes_seq ?_
  refine goes_seq ?_
  refine goes_region ?_
  refine lst_run (run_move (by conv => lhs; whnf)) rfl ?_
  refine lst_run (run_nilCheck rfl) rfl ?_
  refine lst_run (run_fieldAddr (off := 0) rfl rfl) rfl ?_
  first
    | refine lst_run (run_load1_own hS rfl rfl (by first | exact .head | exact .tail .head | exact .tail (.tail .head) | exact .tail (.tail (.tail .head)) | exact .tail (.tail (.tail (.tail .head))) | exact .tail (.tail (.tail (.tail (.tail .head))))) (by repeat constructor)) rfl ?_
    | refine lst_run (run_load1 rfl rfl (by first | assumption | exact hS.cell0 (by assumption) | exact lv_next hS | exact lv_list hS)) rfl ?_
  first
    | refine lst_run (run_eql_str rfl rfl) rfl ?_
    | refine lst_run (rfl) rfl ?_
  refine lst_done ?_
  generalize hp : termM num 24 ⟨s.token, s.rest, [], s.err⟩ = p at *
  obtain ⟨nd, s1⟩ := p
  simp only at *
  have hb1 := body_few num s1
  simp only [List.length_nil, Nat.zero_add] at hless
  have e1 : clauseM num s = (⟨nd.k, nd.n, ⟨nd.s.toArray⟩, nd.ar, tsOf (bodyM num s1).1, (((bodyM num s1).2.take [46]).vars.length : Nat)⟩,
      if cB ⟨nd.k, nd.n, ⟨nd.s.toArray⟩, nd.ar, tsOf (bodyM num s1).1, (((bodyM num s1).2.take [46]).vars.length : Nat)⟩ then (bodyM num s1).2.take [46] else ((bodyM num s1).2.take [46]).fail 1) := by
    simp only [clauseM]; rw [hp]
  simp only [take_vars] at e1
  obtain ⟨Av, cv, rfl⟩ := hV1.form
  refine goes_joinP1 (15 :: 16 :: 17 :: 18 :: 19 :: []) (fun w' => ∃ V VH v, Vars (bodyM num s1).2.vars V VH ∧ St M w0 ((b2, .cells [.int .i64 nd.k, .int .i64 nd.n, sv nd.s, .slice A1 nd.ar.length c1, v, .int .i64 0].toArray 44) :: (b, rdr (bodyM num s1).2 V) :: (VH ++ (b1, .cells [.int .i64 0, .int .i64 0, sv [], .slice none 0 0, .slice none 0 0, .int .i64 0].toArray 44) :: H)) ((fun w => Sl w (fun _ => True) v (tsOf (bodyM num s1).1)) :: (fun w => Sl w (fun _ => True) (.slice A1 nd.ar.length c1) nd.ar) :: F) w') ?_ ?_
  · intro hk
    refine goes_if rfl (fun h => ?_) (fun h => ?_)
    · have h' : s1.token = [58, 45] := by simpa using h
      have eb : bodyM num s1 = termsM (termM num 24) s1.adv := by unfold bodyM; rw [if_pos h']
      have hlt := adv_lt s1 (by rw [h']; simp)
      have hv := adv_vars s1
      have hrest : s1.rest.length ≤ 1048576 := by have := rest_le s1; omega
      replace hS := hS.sink1
      refine goes_seq ?_
      refine goes_region ?_
      refine lst_run (run_move (by conv => lhs; whnf)) rfl ?_
      refine lst_enter (run_call (by kernel_rfl) (args_1 (by conv => lhs; whnf))) rfl ?_
      refine Calls.mono (adv_any L1 L2 s1 _ hrest hS) ?_
      rintro _ w2 ⟨rfl, hS'⟩
      refine ⟨_, rfl, ?_⟩
      replace hS := hS'
      clear hS'
      refine lst_done ?_
      refine goes_region ?_
      refine lst_run (run_move (by conv => lhs; whnf)) rfl ?_
      refine lst_enter (run_call (by kernel_rfl) (args_2 (by conv => lhs; whnf) (by conv => lhs; whnf))) rfl ?_
      refine Calls.mono (terms_said num G L1 L2 L3 24 (by omega) s1.adv _ VH1 M w0 _ _ _ b hG (by omega) (by rw [hv]; omega) (by rw [hv]; exact hV1) hS) ?_
      rintro _ w3 ⟨v, V2, VH2, rfl, hV2, hS'⟩
      refine ⟨_, rfl, ?_⟩
      replace hS := hS'.raise1
      clear hS'
      obtain ⟨A2, c2, rfl, _⟩ := (hS.fact (.head _)).form
      refine lst_run (run_fieldAddr (off := 4) rfl rfl) rfl ?_
      refine lst_store1 hS rfl (by conv => lhs; whnf) rfl rfl (by first | exact .head | exact .tail .head | exact .tail (.tail .head) | exact .tail (.tail (.tail .head)) | exact .tail (.tail (.tail (.tail .head))) | exact .tail (.tail (.tail (.tail (.tail .head))))) (by repeat constructor) (by first | exact .head | exact .tail .head | exact .tail (.tail .head) | exact .tail (.tail (.tail .head)) | exact .tail (.tail (.tail (.tail .head))) | exact .tail (.tail (.tail (.tail (.tail .head))))) ?_
      clear hS
      intro wx5 hS
      refine lst_done ?_
      rw [← eb] at hS hV2
      exact hk _ _ ⟨V2, VH2, _, hV2, hS⟩ (by kernel_rfl)
    · have h' : ¬ s1.token = [58, 45] := by simpa using h
      have eb : bodyM num s1 = ([], s1) := by unfold bodyM; rw [if_neg h']
      refine goes_skip ?_
      refine hk _ _ ?_ (by kernel_rfl)
      rw [eb]
      exact ⟨_, VH1, _, hV1, hS.learn fun w _ => hnil w⟩
  · clear hS hV1
    rintro jv w2 ⟨V, VH2, v, hV2, hS⟩
    generalize bodyM num s1 = q at *
    obtain ⟨B, s2⟩ := q
    simp only at *
    have hrest2 : s2.rest.length ≤ 1048576 := by have := rest_le s2; omega
    obtain ⟨A2, c2, rfl, _⟩ := (hS.fact (.head _)).form
    obtain ⟨Av2, cv2, rfl⟩ := hV2.form
    replace hS := hS.sink1
    refine goes_seq ?_
    refine goes_region ?_
    refine lst_run (run_move (by conv => lhs; whnf)) rfl ?_
    refine lst_enter (run_call (by kernel_rfl) (args_2 (by conv => lhs; whnf) (by conv => lhs; whnf))) rfl ?_
    refine Calls.mono (take_any L1 L2 s2 [46] _ hrest2 hS) ?_
    rintro _ w3 ⟨rfl, hS'⟩
    refine ⟨_, rfl, ?_⟩
    replace hS := hS'
    clear hS'
    replace hS := hS.raise1.raise2
    refine lst_done ?_
    refine goes_seq ?_
    refine goes_region ?_
    refine lst_run (run_move (by conv => lhs; whnf)) rfl ?_
    refine lst_run (run_nilCheck rfl) rfl ?_
    refine lst_run (run_fieldAddr (off := 2) rfl rfl) rfl ?_
    first
      | refine lst_run (run_load1_own hS rfl rfl (by first | exact .head | exact .tail .head | exact .tail (.tail .head) | exact .tail (.tail (.tail .head)) | exact .tail (.tail (.tail (.tail .head))) | exact .tail (.tail (.tail (.tail (.tail .head))))) (by repeat constructor)) rfl ?_
      | refine lst_run (run_load1 rfl rfl (by first | assumption | exact hS.cell0 (by assumption) | exact lv_next hS | exact lv_list hS)) rfl ?_
    refine lst_run (run_len_slice rfl rfl rfl) rfl ?_
    refine lst_run (run_fieldAddr (off := 5) rfl rfl) rfl ?_
    refine lst_store1 hS rfl (by conv => lhs; whnf) rfl rfl (by first | exact .head | exact .tail .head | exact .tail (.tail .head) | exact .tail (.tail (.tail .head)) | exact .tail (.tail (.tail (.tail .head))) | exact .tail (.tail (.tail (.tail (.tail .head))))) (by repeat constructor) (by first | exact .head | exact .tail .head | exact .tail (.tail .head) | exact .tail (.tail (.tail .head)) | exact .tail (.tail (.tail (.tail .head))) | exact .tail (.tail (.tail (.tail (.tail .head))))) ?_
    clear hS
    intro wx5 hS
    refine lst_done ?_
    refine goes_seq ?_
    refine goes_seq ?_
    refine goes_region ?_
    first
      | refine lst_run (run_loadN_own (k := 6) hS rfl rfl rfl (by first | exact .head | exact .tail .head | exact .tail (.tail .head) | exact .tail (.tail (.tail .head)) | exact .tail (.tail (.tail (.tail .head))) | exact .tail (.tail (.tail (.tail (.tail .head))))) (by repeat constructor)) rfl ?_
      | refine lst_run (run_load6 rfl rfl rfl (by first | assumption | exact hS.cell0 (by assumption)) (by first | assumption | exact hS.cell0 (by assumption)) (by first | assumption | exact hS.cell0 (by assumption)) (by first | assumption | exact hS.cell0 (by assumption)) (by first | assumption | exact hS.cell0 (by assumption)) (by first | assumption | exact hS.cell0 (by assumption))) rfl ?_
    have hg := goodClause_any ⟨nd.k, nd.n, ⟨nd.s.toArray⟩, nd.ar, tsOf B, (s2.vars.length : Nat)⟩ _ _ _ (hS.fact (.tail _ (.head _))) (hS.fact (.head _)) (by simp only; omega) (by simp only; omega)
    refine lst_enter (run_call (by kernel_rfl) (args_1 (by conv => lhs; whnf))) rfl ?_
    refine Calls.mono hg ?_
    rintro _ w4 ⟨rfl, hb4⟩
    refine ⟨_, rfl, ?_⟩
    replace hS := hS.grow hb4
    generalize cB ⟨nd.k, nd.n, ⟨nd.s.toArray⟩, nd.ar, tsOf B, (s2.vars.length : Nat)⟩ = ok at *
    cases ok with
    | true =>
      refine lst_run (rfl) rfl ?_
      refine lst_done ?_
      refine goes_false rfl ?_
      refine goes_skip ?_
      refine goes_seq ?_
      refine goes_region ?_
      first
        | refine lst_run (run_loadN_own (k := 6) hS rfl rfl rfl (by first | exact .head | exact .tail .head | exact .tail (.tail .head) | exact .tail (.tail (.tail .head)) | exact .tail (.tail (.tail (.tail .head))) | exact .tail (.tail (.tail (.tail (.tail .head))))) (by repeat constructor)) rfl ?_
        | refine lst_run (run_load6 rfl rfl rfl (by first | assumption | exact hS.cell0 (by assumption)) (by first | assumption | exact hS.cell0 (by assumption)) (by first | assumption | exact hS.cell0 (by assumption)) (by first | assumption | exact hS.cell0 (by assumption)) (by first | assumption | exact hS.cell0 (by assumption)) (by first | assumption | exact hS.cell0 (by assumption))) rfl ?_
      refine lst_storeN hS rfl (by conv => lhs; whnf) rfl rfl (by first | exact .head | exact .tail .head | exact .tail (.tail .head) | exact .tail (.tail (.tail .head)) | exact .tail (.tail (.tail (.tail .head))) | exact .tail (.tail (.tail (.tail (.tail .head))))) (by repeat constructor) (by first | exact .head | exact .tail .head | exact .tail (.tail .head) | exact .tail (.tail (.tail .head)) | exact .tail (.tail (.tail (.tail .head))) | exact .tail (.tail (.tail (.tail (.tail .head))))) ?_
      clear hS
      intro wx6 hS
      refine lst_done ?_
      refine goes_retC (sz := 6) hS Tryz.func16 rfl rfl rfl rfl (by first | exact .head | exact .tail .head | exact .tail (.tail .head) | exact .tail (.tail (.tail .head)) | exact .tail (.tail (.tail (.tail .head))) | exact .tail (.tail (.tail (.tail (.tail .head))))) (by repeat constructor) ?_
      rw [e1]
      exact ⟨_, _, _, VH2, rfl, by simp only [if_true, take_vars]; exact hV2, hS.drop.drop⟩
    | false =>
      refine lst_run (rfl) rfl ?_
      refine lst_done ?_
      refine goes_true rfl ?_
      refine goes_region ?_
      refine lst_run (run_move (by conv => lhs; whnf)) rfl ?_
      replace hS := hS.up3
      refine lst_enter (run_call (by kernel_rfl) (args_2 (by conv => lhs; whnf) (by conv => lhs; whnf))) rfl ?_
      refine Calls.mono (fail_any (s2.take [46]) 1 _ hS) ?_
      rintro _ w5 ⟨rfl, hS'⟩
      refine ⟨_, rfl, ?_⟩
      replace hS := hS'
      clear hS'
      replace hS := hS.down3
      refine lst_done ?_
      refine goes_seq ?_
      refine goes_region ?_
      first
        | refine lst_run (run_loadN_own (k := 6) hS rfl rfl rfl (by first | exact .head | exact .tail .head | exact .tail (.tail .head) | exact .tail (.tail (.tail .head)) | exact .tail (.tail (.tail (.tail .head))) | exact .tail (.tail (.tail (.tail (.tail .head))))) (by repeat constructor)) rfl ?_
        | refine lst_run (run_load6 rfl rfl rfl (by first | assumption | exact hS.cell0 (by assumption)) (by first | assumption | exact hS.cell0 (by assumption)) (by first | assumption | exact hS.cell0 (by assumption)) (by first | assumption | exact hS.cell0 (by assumption)) (by first | assumption | exact hS.cell0 (by assumption)) (by first | assumption | exact hS.cell0 (by assumption))) rfl ?_
      refine lst_storeN hS rfl (by conv => lhs; whnf) rfl rfl (by first | exact .head | exact .tail .head | exact .tail (.tail .head) | exact .tail (.tail (.tail .head)) | exact .tail (.tail (.tail (.tail .head))) | exact .tail (.tail (.tail (.tail (.tail .head))))) (by repeat constructor) (by first | exact .head | exact .tail .head | exact .tail (.tail .head) | exact .tail (.tail (.tail .head)) | exact .tail (.tail (.tail (.tail .head))) | exact .tail (.tail (.tail (.tail (.tail .head))))) ?_
      clear hS
      intro wx6 hS
      refine lst_done ?_
      refine goes_retC (sz := 6) hS Tryz.func16 rfl rfl rfl rfl (by first | exact .head | exact .tail .head | exact .tail (.tail .head) | exact .tail (.tail (.tail .head)) | exact .tail (.tail (.tail (.tail .head))) | exact .tail (.tail (.tail (.tail (.tail .head))))) (by repeat constructor) ?_
      rw [e1]
      exact ⟨_, _, _, VH2, rfl, by simp only [Bool.false_eq_true, if_false, RS.fail, take_vars]; exact hV2, hS.drop.drop⟩
end Go.Proofs.YtdiophafmokfiaaGreatDoor
