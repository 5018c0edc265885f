/- RefW5, RefW6, Alike, SameR, LPrograms, EWalk3, AliveT0: texts that follow one another, laid into one file. -/
import Derived.Test.YthliapbflkfdiacGreatDoorG33
import Derived.Test.YthliapbflkfdiacGreatDoorG6
import Derived.Test.YthliapbflkfdiacGreatDoorG1
import Derived.Test.YthliapbflkfdiacGreatDoorRows
import Derived.Deep.LoopGhost
import Derived.StillTailTactics
import Derived.Test.YthliapbflkfdiacGreatDoorG30
import Derived.Test.YthliapbflkfdiacGreatDoorG14
import Derived.Test.YthliapbflkfdiacGreatDoorG13
import Derived.Test.YthliapbflkfdiacGreatDoorG7
namespace Go.Proofs.YthliapbflkfdiacGreatDoor
open Go.RowKit Go.Shelf
set_option linter.unusedVariables false
set_option linter.unusedSimpArgs false
set_option maxRecDepth 100000
set_option maxHeartbeats 1000000

end Go.Proofs.YthliapbflkfdiacGreatDoor
namespace Go.Proofs.YthliapbflkfdiacGreatDoor
open Go.RowKit Go.Shelf
set_option linter.unusedVariables false
set_option linter.unusedSimpArgs false
set_option maxRecDepth 100000
set_option maxHeartbeats 1000000

/-- No more nodes than words. -/
def FewN (f : PS → Nd × PS) : Prop := ∀ p, (f p).1.ar.nodes + (f p).2.l.length ≤ p.l.length
theorem refLoop_fewN {f : PS → Nd × PS} (hf : FewN f) : ∀ (n : Nat) (p : PS), (tsOf (refLoop f n p).1).nodes + (refLoop f n p).2.l.length ≤ p.l.length
  | 0, p => by simp [refLoop, tsOf, Ts.nodes]
  | n + 1, p => by
    unfold refLoop
    split
    · rename_i h
      have h1 := (has_pop h.2).1
      have h2 := hf p.pop
      have h3 := refLoop_fewN hf n (f p.pop).2
      simp only [tsOf, Ts.nodes]
      omega
    · simp [tsOf, Ts.nodes]
theorem refTerms_fewN {f : PS → Nd × PS} (hf : FewN f) (t : Str) (p : PS) : (tsOf (refTerms f t p).1).nodes + (refTerms f t p).2.l.length ≤ p.l.length + 1 := by
  have h1 := refLoop_fewN hf (f p).2.l.length (f p).2
  have h2 := hf p
  have h3 := close_le (refLoop f (f p).2.l.length (f p).2).2 t
  simp only [refTerms, tsOf, Ts.nodes]
  omega
theorem refTerm_fewN : ∀ d, FewN (refTerm d)
  | 0, p => by simp [refTerm, Nd.zero, Ts.nodes, PS.spoil]
  | d + 1, p => by
    unfold refTerm
    split
    · simp [Nd.zero, Ts.nodes, PS.spoil]
    · simp [Nd.zero, Ts.nodes, PS.spoil]
    · rename_i c r q hl
      have h1 : p.pop.l.length + 1 = p.l.length := by simp [PS.pop, hl]
      split
      · simp only [Ts.nodes]; omega
      split
      · simp only [Ts.nodes]; rw [(pvar_l _ _).1]; omega
      split
      · simp only [Ts.nodes]; omega
      split
      · simp [Nd.zero, Ts.nodes, PS.spoil]
      split
      · rename_i hp
        have h2 := refTerms_fewN (refTerm_fewN d) [41] p.pop.pop
        have h3 := (has_pop hp).1
        simp only; omega
      · simp only [Ts.nodes]; omega
theorem wordsF_len : ∀ (n : Nat) (l : Str), (wordsF n l).length ≤ l.length
  | 0, l => by simp [wordsF]
  | n + 1, [] => by simp [wordsF]
  | n + 1, c :: r => by
    unfold wordsF
    split
    · have := wordsF_len n r; simp; omega
    split
    · simp
    · rename_i h
      have := wordsF_len n ((c :: r).drop (wordLen (c :: r)))
      rw [List.length_drop] at this
      simp at this ⊢; omega
theorem words_len (l : Str) : (wordsM l).length ≤ l.length := wordsF_len _ _
section
variable {M : List Nat} {w0 : World} {H : List (Nat × Obj)} {F : List (World → Prop)}
end
end Go.Proofs.YthliapbflkfdiacGreatDoor
namespace Go.Proofs.YthliapbflkfdiacGreatDoor
open Go.RowKit

end Go.Proofs.YthliapbflkfdiacGreatDoor
namespace Go.Proofs.YthliapbflkfdiacGreatDoor.R
open Go.RowKit
set_option maxRecDepth 100000

end Go.Proofs.YthliapbflkfdiacGreatDoor.R
namespace Go.Proofs.YthliapbflkfdiacGreatDoor
open Go.RowKit Go.Shelf
set_option linter.unusedVariables false
set_option linter.unusedSimpArgs false
set_option maxRecDepth 100000
set_option maxHeartbeats 1000000

theorem clause_nodes (num : Str → Option Int) (s : RS) : (clauseM num s).1.hd.nodes ≤ s.left ∧ (clauseM num s).1.bd.nodes ≤ s.left := by
  have h1 := term_few num 24 { s with vars := [] }
  have h2 := body_few num (termM num 24 { s with vars := [] }).2
  have e : RS.left { s with vars := [] } = s.left := rfl
  rw [e] at h1
  exact ⟨by show (termM num 24 _).1.ar.nodes ≤ _; omega, by show (tsOf (bodyM num _).1).nodes ≤ _; omega⟩
theorem prog_nodes (num : Str → Option Int) : ∀ (n : Nat) (s : RS), ∀ c ∈ (progLoop num n s).1, c.hd.nodes ≤ s.left ∧ c.bd.nodes ≤ s.left
  | 0, s, c, h => by simp [progLoop] at h
  | n + 1, s, c, h => by
    unfold progLoop at h
    split at h
    · simp at h
    · rename_i ht
      have h1 := clause_nodes num s
      rcases List.mem_cons.1 h with rfl | h
      · exact h1
      · have h2 := prog_nodes num n _ c h
        have h3 := clause_lt num s ht
        omega
theorem program_nodes (num : Str → Option Int) (l : Str) : ∀ c ∈ (programM num l).1, c.hd.nodes ≤ 2000 ∧ c.bd.nodes ≤ 2000 := by
  intro c hc
  have h0 := start_short l
  have : c ∈ (progLoop num (RS.start l).left (RS.start l)).1 := by
    unfold programM at hc
    simp only at hc
    split at hc
    · split at hc
      · exact hc
      · simp at hc
    · split at hc
      · exact hc
      · simp at hc
  have := prog_nodes num _ _ c this
  omega
theorem program_len (num : Str → Option Int) (l : Str) : (programM num l).1.length ≤ 24 := by
  unfold programM
  simp only
  generalize progLoop num (RS.start l).left (RS.start l) = p
  by_cases h : 24 < p.1.length
  · have h1 : (p.2.fail 3).err ≠ 0 := by
      simp only [RS.fail]
      split
      · decide
      · assumption
    rw [if_pos h, if_neg h1]; simp
  · rw [if_neg h]
    split
    · simp only; omega
    · simp
end Go.Proofs.YthliapbflkfdiacGreatDoor
namespace Go.Proofs.YthliapbflkfdiacGreatDoor
open Go.RowKit Go.Shelf
set_option linter.unusedVariables false
set_option linter.unusedSimpArgs false
set_option maxRecDepth 100000
set_option maxHeartbeats 1000000

theorem put_row {v u : Value} {R : List Value} : ∀ D : List Value, Put (D ++ u :: R) D.length v (D ++ v :: R)
  | [] => .z
  | d :: D => .s (put_row D)
theorem nodes_wide' (T : Ts) (h : T.nodes ≤ 1048576) : T.length ≤ 9223372036854775807 ∧ T.wide := ⟨by have := Ts.length_le T; omega, Ts.wide_of T (by omega)⟩
theorem query_nodes' (l : Str) : (queryM numM l).1.nodes ≤ 2001 := by
  rw [query_ref]
  have hwl := words_len l
  have hgn := refTerms_fewN (refTerm_fewN 24) [46] (PS.start l)
  unfold refQueryM
  by_cases h : 2000 < l.length
  · rw [if_pos h]; simp [Ts.nodes]
  · rw [if_neg h]
    have hgn2 : (tsOf (refGoals (PS.start l)).1).nodes ≤ 2001 := by
      unfold refGoals
      have : (PS.start l).l.length = (wordsM l).length := rfl
      omega
    generalize refGoals (PS.start l) = g at hgn2 ⊢
    simp only
    split
    · simp [Ts.nodes]
    · exact hgn2
/-- What Ask gives. -/
def AskRes (w0 : World) (r : List Str × Int) (e : Ending) (w' : World) : Prop :=
  ∃ (A : Option Addr) (c : Nat), e = .returned (.tuple #[.slice A r.1.length c, .int .i64 r.2]) ∧ Flat 1 (r.1.map sv) A r.1.length c w' ∧ Below w0.heap.size w0 w'
theorem ask_any (p q : Str) (fuel every : Int) (w0 : World) (hG : ∀ w', Ext [] w0 w' → GVars w') (hW : ∀ w', Ext [] w0 w' → GWords w') (hp : p.length ≤ 1125899906842624) (hq : q.length ≤ 1125899906842624) (hev : every ≤ 9223372036854775807) :
    Calls Tryz.prog 21 #[sv p, sv q, .int .i64 fuel, .int .i64 every] w0 (AskRes w0 (askM p q fuel every)) := by
  have hS := St.start w0
  have hpn := program_nodes numM p
  have hpl := program_len numM p
  have hqn := query_nodes' q
  refine goes_enter4 Tryz.func21 rfl Tryz.ntmps21 rfl ?_
  refine goes_seq ?_
  refine goes_region ?_
  refine lst_run (run_assign (by conv => lhs; whnf)) rfl ?_
  refine lst_run (run_assign (by conv => lhs; whnf)) rfl ?_
  refine lst_done ?_
  refine goes_seq ?_
  refine goes_region ?_
  refine lst_run (run_move (by conv => lhs; whnf)) rfl ?_
  refine lst_enter (run_call (by kernel_rfl) (args_1 (by conv => lhs; whnf))) rfl ?_
  refine Calls.mono (program_r numM GVars lib1 lib2 lib3 p _ hG hp hS) ?_
  rintro _ w3 ⟨v1, rfl, hS'⟩
  refine ⟨_, rfl, ?_⟩
  replace hS := hS'
  clear hS'
  obtain ⟨pA, pc, X, rfl, hX, hXr⟩ := (hS.fact (.head _)).locate
  replace hS := hS.learn (φ := ClsR X pA pc) fun w2 hx => hXr w2 fun k _ hk => hx.block k hk (by simp)
  by_cases h1 : (programM numM p).2 = 0
  case neg =>
    have e : askM p q fuel every = ([], (programM numM p).2) := by unfold askM; rw [if_pos h1]
    rw [e]
    refine lst_run (run_move (by conv => lhs; whnf)) rfl ?_
    refine lst_run (run_extract rfl rfl) rfl ?_
    refine lst_run (run_extract rfl rfl) rfl ?_
    refine lst_run (run_assign (by conv => lhs; whnf)) rfl ?_
    refine lst_run (run_assign (by conv => lhs; whnf)) rfl ?_
    refine lst_done ?_
    refine goes_seq ?_
    refine goes_seq ?_
    refine goes_region ?_
    refine lst_run (run_move (by conv => lhs; whnf)) rfl ?_
    first
      | refine lst_run (run_neq_one_int rfl rfl) rfl ?_
      | refine lst_run (run_neq_no rfl rfl (by first | assumption | omega)) rfl ?_
      | refine lst_run (run_neq_yes rfl rfl (by omega)) rfl ?_
      | refine lst_run (rfl) rfl ?_
    refine lst_done ?_
    refine goes_true rfl ?_
    refine goes_seq ?_
    refine goes_region ?_
    refine lst_run (run_move (by conv => lhs; whnf)) rfl ?_
    refine lst_run (run_assign (by conv => lhs; whnf)) rfl ?_
    refine lst_run (run_assign (by conv => lhs; whnf)) rfl ?_
    refine lst_done ?_
    refine goes_ret2 Tryz.func21 rfl (by conv => lhs; whnf) (by conv => lhs; whnf) ?_
    exact ⟨none, 0, rfl, Flat.nil_ _ _ _, hS.ext.below⟩
  obtain ⟨hpB, hpbr⟩ := program_ok h1
  refine lst_run (run_move (by conv => lhs; whnf)) rfl ?_
  refine lst_run (run_extract rfl rfl) rfl ?_
  refine lst_run (run_extract rfl rfl) rfl ?_
  refine lst_run (run_assign (by conv => lhs; whnf)) rfl ?_
  refine lst_run (run_assign (by conv => lhs; whnf)) rfl ?_
  refine lst_done ?_
  refine goes_seq ?_
  refine goes_seq ?_
  refine goes_region ?_
  refine lst_run (run_move (by conv => lhs; whnf)) rfl ?_
  first
    | refine lst_run (run_neq_one_int rfl rfl) rfl ?_
    | refine lst_run (run_neq_no rfl rfl (by first | assumption | omega)) rfl ?_
    | refine lst_run (run_neq_yes rfl rfl (by omega)) rfl ?_
    | refine lst_run (rfl) rfl ?_
  refine lst_done ?_
  refine goes_false rfl ?_
  refine goes_skip ?_
  refine goes_seq ?_
  refine goes_region ?_
  refine lst_run (run_move (by conv => lhs; whnf)) rfl ?_
  refine lst_enter (run_call (by kernel_rfl) (args_1 (by conv => lhs; whnf))) rfl ?_
  refine Calls.mono (query_r numM GVars lib1 lib2 lib3 q _ hG hq hS) ?_
  rintro _ w4 ⟨v2, rfl, hS'⟩
  refine ⟨_, rfl, ?_⟩
  replace hS := hS'
  clear hS'
  obtain ⟨qA, qc, Y, rfl, hY, hYr⟩ := (hS.fact (.head _)).locate
  replace hS := hS.learn (φ := ArA qA qc Y) fun w2 hx => hYr w2 fun k _ hk => hx.block k hk (by simp)
  by_cases h2 : (queryM numM q).2.2 = 0
  case neg =>
    have e : askM p q fuel every = ([], (queryM numM q).2.2) := by unfold askM; rw [if_neg (fun h => h h1), if_pos h2]
    rw [e]
    refine lst_run (run_move (by conv => lhs; whnf)) rfl ?_
    refine lst_run (run_extract rfl rfl) rfl ?_
    refine lst_run (run_extract rfl rfl) rfl ?_
    refine lst_run (run_extract rfl rfl) rfl ?_
    refine lst_run (run_assign (by conv => lhs; whnf)) rfl ?_
    refine lst_run (run_assign (by conv => lhs; whnf)) rfl ?_
    refine lst_run (run_assign (by conv => lhs; whnf)) rfl ?_
    refine lst_done ?_
    refine goes_seq ?_
    refine goes_seq ?_
    refine goes_region ?_
    refine lst_run (run_move (by conv => lhs; whnf)) rfl ?_
    first
      | refine lst_run (run_neq_one_int rfl rfl) rfl ?_
      | refine lst_run (run_neq_no rfl rfl (by first | assumption | omega)) rfl ?_
      | refine lst_run (run_neq_yes rfl rfl (by omega)) rfl ?_
      | refine lst_run (rfl) rfl ?_
    refine lst_done ?_
    refine goes_true rfl ?_
    refine goes_seq ?_
    refine goes_region ?_
    refine lst_run (run_move (by conv => lhs; whnf)) rfl ?_
    refine lst_run (run_assign (by conv => lhs; whnf)) rfl ?_
    refine lst_run (run_assign (by conv => lhs; whnf)) rfl ?_
    refine lst_done ?_
    refine goes_ret2 Tryz.func21 rfl (by conv => lhs; whnf) (by conv => lhs; whnf) ?_
    exact ⟨none, 0, rfl, Flat.nil_ _ _ _, hS.ext.below⟩
  obtain ⟨hqB, hqbr, hql⟩ := query_ok h2
  have hask : askM p q fuel every = if every < 0 then ([], 2)
      else if (allM (programM numM p).1 (queryM numM q).1 ((queryM numM q).2.1 : Nat) fuel).2 ≠ 0 then ([], (allM (programM numM p).1 (queryM numM q).1 ((queryM numM q).2.1 : Nat) fuel).2)
      else ((allM (programM numM p).1 (queryM numM q).1 ((queryM numM q).2.1 : Nat) fuel).1.map lineE, 0) := by
    unfold askM; rw [if_neg (fun h => h h1), if_neg (fun h => h h2)]
  rw [hask]
  clear hask
  have hevs := ask_events (vars := ((queryM numM q).2.1 : Nat)) (fuel := fuel) hpbr hqbr
  have hfew := ask_few (P := (programM numM p).1) (q := (queryM numM q).1) (vars := ((queryM numM q).2.1 : Nat)) (fuel := fuel)
  generalize (queryM numM q).2.1 = vn at *
  rw [← hX] at hpn hpl hpB hevs hfew ⊢
  rw [← hY] at hqn hqB hevs hfew ⊢
  have hall := runAll_any X pA pc Y qA qc (vn : Nat) fuel every _ Und.head.tail.tail Und.head (by simp at hpl; omega) (fun c hc => by
    obtain ⟨a1, a2⟩ := nodes_wide' c.hd (by have := (hpn c hc).1; omega)
    obtain ⟨b1, b2⟩ := nodes_wide' c.bd (by have := (hpn c hc).2; omega)
    exact ⟨a1, a2, b1, b2⟩) (by rw [← TA.len_ts]; exact (nodes_wide' _ (by omega)).1) (nodes_wide' _ (by omega)).2 hev hS
  refine lst_run (run_move (by conv => lhs; whnf)) rfl ?_
  refine lst_run (run_extract rfl rfl) rfl ?_
  refine lst_run (run_extract rfl rfl) rfl ?_
  refine lst_run (run_extract rfl rfl) rfl ?_
  refine lst_run (run_assign (by conv => lhs; whnf)) rfl ?_
  refine lst_run (run_assign (by conv => lhs; whnf)) rfl ?_
  refine lst_run (run_assign (by conv => lhs; whnf)) rfl ?_
  refine lst_done ?_
  refine goes_seq ?_
  refine goes_seq ?_
  refine goes_region ?_
  refine lst_run (run_move (by conv => lhs; whnf)) rfl ?_
  first
    | refine lst_run (run_neq_one_int rfl rfl) rfl ?_
    | refine lst_run (run_neq_no rfl rfl (by first | assumption | omega)) rfl ?_
    | refine lst_run (run_neq_yes rfl rfl (by omega)) rfl ?_
    | refine lst_run (rfl) rfl ?_
  refine lst_done ?_
  refine goes_false rfl ?_
  refine goes_skip ?_
  refine goes_seq ?_
  refine goes_region ?_
  refine lst_run (run_move (by conv => lhs; whnf)) rfl ?_
  refine lst_run (run_move (by conv => lhs; whnf)) rfl ?_
  refine lst_run (run_move (by conv => lhs; whnf)) rfl ?_
  refine lst_run (run_move (by conv => lhs; whnf)) rfl ?_
  refine lst_run (run_move (by conv => lhs; whnf)) rfl ?_
  refine lst_enter (run_call (by kernel_rfl) (args_5 (by conv => lhs; whnf) (by conv => lhs; whnf) (by conv => lhs; whnf) (by conv => lhs; whnf) (by conv => lhs; whnf))) rfl ?_
  refine Calls.mono (hall) ?_
  rintro _ w5 ⟨A5, c5, L, F5, rfl, hL, hF5, hK, hS'⟩
  refine ⟨_, rfl, ?_⟩
  replace hS := hS'
  clear hS'
  by_cases h3 : every < 0
  · have e : (allX (X.map LC.cl) Y.ts (vn : Nat) fuel every).2 = 2 := by rw [allX_neg _ _ _ _ _ h3, if_neg (by rw [hpB, hqB]; simp)]
    rw [if_pos h3, e]
    refine lst_run (run_move (by conv => lhs; whnf)) rfl ?_
    refine lst_run (run_extract rfl rfl) rfl ?_
    refine lst_run (run_extract rfl rfl) rfl ?_
    refine lst_run (run_assign (by conv => lhs; whnf)) rfl ?_
    refine lst_run (run_assign (by conv => lhs; whnf)) rfl ?_
    refine lst_done ?_
    refine goes_seq ?_
    refine goes_seq ?_
    refine goes_region ?_
    refine lst_run (run_move (by conv => lhs; whnf)) rfl ?_
    first
      | refine lst_run (run_neq_one_int rfl rfl) rfl ?_
      | refine lst_run (run_neq_no rfl rfl (by first | assumption | omega)) rfl ?_
      | refine lst_run (run_neq_yes rfl rfl (by omega)) rfl ?_
      | refine lst_run (rfl) rfl ?_
    refine lst_done ?_
    refine goes_true rfl ?_
    refine goes_seq ?_
    refine goes_region ?_
    refine lst_run (run_move (by conv => lhs; whnf)) rfl ?_
    refine lst_run (run_assign (by conv => lhs; whnf)) rfl ?_
    refine lst_run (run_assign (by conv => lhs; whnf)) rfl ?_
    refine lst_done ?_
    refine goes_ret2 Tryz.func21 rfl (by conv => lhs; whnf) (by conv => lhs; whnf) ?_
    exact ⟨none, 0, rfl, Flat.nil_ _ _ _, hS.ext.below⟩
  rw [if_neg h3]
  rw [allX_eq _ _ _ _ _ (by omega)] at hL ⊢
  by_cases h4 : (allM (X.map LC.cl) Y.ts (vn : Nat) fuel).2 = 0
  case neg =>
    rw [if_pos h4]
    refine lst_run (run_move (by conv => lhs; whnf)) rfl ?_
    refine lst_run (run_extract rfl rfl) rfl ?_
    refine lst_run (run_extract rfl rfl) rfl ?_
    refine lst_run (run_assign (by conv => lhs; whnf)) rfl ?_
    refine lst_run (run_assign (by conv => lhs; whnf)) rfl ?_
    refine lst_done ?_
    refine goes_seq ?_
    refine goes_seq ?_
    refine goes_region ?_
    refine lst_run (run_move (by conv => lhs; whnf)) rfl ?_
    first
      | refine lst_run (run_neq_one_int rfl rfl) rfl ?_
      | refine lst_run (run_neq_no rfl rfl (by first | assumption | omega)) rfl ?_
      | refine lst_run (run_neq_yes rfl rfl (by omega)) rfl ?_
      | refine lst_run (rfl) rfl ?_
    refine lst_done ?_
    refine goes_true rfl ?_
    refine goes_seq ?_
    refine goes_region ?_
    refine lst_run (run_move (by conv => lhs; whnf)) rfl ?_
    refine lst_run (run_assign (by conv => lhs; whnf)) rfl ?_
    refine lst_run (run_assign (by conv => lhs; whnf)) rfl ?_
    refine lst_done ?_
    refine goes_ret2 Tryz.func21 rfl (by conv => lhs; whnf) (by conv => lhs; whnf) ?_
    exact ⟨none, 0, rfl, Flat.nil_ _ _ _, hS.ext.below⟩
  rw [if_neg (fun h => h h4), h4]
  have hLl : L.length ≤ 13 := by have := congrArg List.length hL; rw [List.length_map] at this; omega
  have hmap : (allM (X.map LC.cl) Y.ts (vn : Nat) fuel).1.map lineE = L.map fun x => lineM x.k x.T.ts := by rw [← hL, List.map_map]; rfl
  have hx : ∀ x ∈ L, x.T.ts.nodes ≤ 200 ∧ rng x.T.ts ∧ (lineM x.k x.T.ts).length ≤ 1000000 := fun x hx => by
    have := hevs x.ev (by rw [← hL]; exact List.mem_map.2 ⟨x, hx, rfl⟩)
    exact ⟨this.1, this.2.1, this.2.2.2⟩
  rw [hmap]
  refine lst_run (run_move (by conv => lhs; whnf)) rfl ?_
  refine lst_run (run_extract rfl rfl) rfl ?_
  refine lst_run (run_extract rfl rfl) rfl ?_
  refine lst_run (run_assign (by conv => lhs; whnf)) rfl ?_
  refine lst_run (run_assign (by conv => lhs; whnf)) rfl ?_
  refine lst_done ?_
  refine goes_seq ?_
  refine goes_seq ?_
  refine goes_region ?_
  refine lst_run (run_move (by conv => lhs; whnf)) rfl ?_
  first
    | refine lst_run (run_neq_one_int rfl rfl) rfl ?_
    | refine lst_run (run_neq_no rfl rfl (by first | assumption | omega)) rfl ?_
    | refine lst_run (run_neq_yes rfl rfl (by omega)) rfl ?_
    | refine lst_run (rfl) rfl ?_
  refine lst_done ?_
  refine goes_false rfl ?_
  refine goes_skip ?_
  refine goes_seq ?_
  refine goes_region ?_
  refine lst_run (run_move (by conv => lhs; whnf)) rfl ?_
  refine lst_run (run_len_slice rfl rfl rfl) rfl ?_
  refine lst_makeZ (k := L.length) (bts := 16) (z := .string ⟨#[]⟩) hS (by conv => lhs; whnf) (by conv => lhs; whnf) rfl rfl rfl rfl (by omega) (by omega) rfl ?_
  clear hS
  intro zb w6 hS
  refine lst_run (run_assign (by conv => lhs; whnf)) rfl ?_
  refine lst_done ?_
  refine goes_seq ?_
  refine goes_seq ?_
  refine goes_region ?_
  refine lst_run (run_move (by conv => lhs; whnf)) rfl ?_
  refine lst_run (run_len_slice rfl rfl rfl) rfl ?_
  refine lst_run (run_move (by conv => lhs; whnf)) rfl ?_
  refine lst_done ?_
  refine goes_block ?_
  refine goes_loop1 52 (53 :: 54 :: 55 :: 56 :: 17 :: 16 :: 57 :: 58 :: 59 :: 60 :: 61 :: 62 :: []) (fun (R : List KE) v w' => ∃ D, L = D ++ R ∧ v = .int .i64 (D.length : Nat) ∧ St [] w0 ((zb, .cells (D.map (fun x => sv (lineM x.k x.T.ts)) ++ R.map (fun _ => Value.string ⟨#[]⟩)).toArray 9) :: []) F5 w') (fun R => R.length) (L) ?_ (by conv => lhs; whnf) ?_
  · exact ⟨[], rfl, rfl, by simpa [List.map_const'] using hS⟩
  clear hS
  rintro R _ w7 jv ⟨D, hD, rfl, hS⟩ ih
  have hlD : L.length = D.length + R.length := by rw [hD]; simp
  cases R with
  | nil =>
    rw [List.append_nil] at hD
    subst hD
    simp only [List.length_nil] at hlD
    simp only [List.map_nil, List.append_nil] at hS
    refine goes_seq ?_
    refine goes_region ?_
    first
      | refine lst_run (run_lss_yes rfl rfl (by omega)) rfl ?_
      | refine lst_run (run_lss_no rfl rfl (by omega)) rfl ?_
      | refine lst_run (rfl) rfl ?_
    refine lst_done ?_
    refine goes_seq ?_
    refine goes_false rfl ?_
    refine goes_exit rfl ?_
    refine goes_seq ?_
    refine goes_region ?_
    refine lst_run (run_move (by conv => lhs; whnf)) rfl ?_
    refine lst_run (run_assign (by conv => lhs; whnf)) rfl ?_
    refine lst_run (run_assign (by conv => lhs; whnf)) rfl ?_
    refine lst_done ?_
    refine goes_ret2 Tryz.func21 rfl (by conv => lhs; whnf) (by conv => lhs; whnf) ?_
    have hown := hS.own (zb, _) (.head _)
    refine ⟨some ⟨zb, 0, none⟩, L.length, by simp, ?_, hS.ext.below⟩
    have := Flat.own (xs := (L.map fun x => lineM x.k x.T.ts).map sv) (sp := []) (sz := 1) (len := L.length) (cap := L.length) (b := zb) (el := 9) (w := w7) (by rw [List.append_nil, List.map_map]; exact hown) (by simp) (Nat.le_refl _)
    simpa using this
  | cons x R =>
    simp only [List.length_cons] at hlD
    obtain ⟨hx1, hx2, hx3⟩ := hx x (by rw [hD]; simp)
    have hKw := hS.und hK
    rw [hD] at hKw
    obtain ⟨b6, o6, rfl⟩ := hKw.some_ (by simp; omega)
    obtain ⟨q0, q1⟩ := hKw.cells
    have hAr : Und F5 (ArA x.A x.c x.T) := hK.imp fun w h => h.2.2 x (by rw [hD]; simp)
    have hput : Put (D.map (fun x => sv (lineM x.k x.T.ts)) ++ (x :: R).map (fun _ => Value.string ⟨#[]⟩)) D.length (sv (lineM x.k x.T.ts)) ((D ++ [x]).map (fun x => sv (lineM x.k x.T.ts)) ++ R.map (fun _ => Value.string ⟨#[]⟩)) := by
      have := put_row (v := sv (lineM x.k x.T.ts)) (u := Value.string ⟨#[]⟩) (R := R.map (fun _ => Value.string ⟨#[]⟩)) (D.map (fun x => sv (lineM x.k x.T.ts)))
      simpa using this
    refine goes_seq ?_
    refine goes_region ?_
    first
      | refine lst_run (run_lss_yes rfl rfl (by omega)) rfl ?_
      | refine lst_run (run_lss_no rfl rfl (by omega)) rfl ?_
      | refine lst_run (rfl) rfl ?_
    refine lst_done ?_
    refine goes_seq ?_
    refine goes_true rfl ?_
    refine goes_skip ?_
    refine goes_seq ?_
    refine goes_block ?_
    refine goes_seq ?_
    refine goes_region ?_
    refine lst_run (run_move (by conv => lhs; whnf)) rfl ?_
    refine lst_run (run_indexAddr (sz := 2) rfl rfl rfl rfl (by omega) (by omega)) rfl ?_
    first
      | refine lst_run (run_loadN_own (k := 2) hS rfl rfl rfl (by first | exact .head | exact .tail .head | exact .tail (.tail .head) | exact .tail (.tail (.tail .head)) | exact .tail (.tail (.tail (.tail .head))) | exact .tail (.tail (.tail (.tail (.tail .head))))) (by repeat constructor)) rfl ?_
      | refine lst_run (run_loadN_own (k := 2) hS rfl rfl rfl (by first | exact .head | exact .tail .head | exact .tail (.tail .head) | exact .tail (.tail (.tail .head)) | exact .tail (.tail (.tail (.tail .head))) | exact .tail (.tail (.tail (.tail (.tail .head))))) (by assumption)) rfl ?_
      | refine lst_run (run_load2 rfl rfl rfl (by first | assumption | exact hS.cell0 (by assumption)) (by first | assumption | exact hS.cell0 (by assumption))) rfl ?_
    refine lst_alloc (cs := [_, _]) hS rfl rfl rfl ?_
    clear hS
    intro b1 wx1 hS
    refine lst_run (run_assign (by conv => lhs; whnf)) rfl ?_
    refine lst_storeN hS rfl (by conv => lhs; whnf) rfl rfl (by first | exact .head | exact .tail .head | exact .tail (.tail .head) | exact .tail (.tail (.tail .head)) | exact .tail (.tail (.tail (.tail .head))) | exact .tail (.tail (.tail (.tail (.tail .head))))) (by repeat constructor) (by first | exact .head | exact .tail .head | exact .tail (.tail .head) | exact .tail (.tail (.tail .head)) | exact .tail (.tail (.tail (.tail .head))) | exact .tail (.tail (.tail (.tail (.tail .head))))) ?_
    clear hS
    intro wx2 hS
    refine lst_done ?_
    refine goes_region ?_
    refine lst_run (run_move (by conv => lhs; whnf)) rfl ?_
    refine lst_run (run_move (by conv => lhs; whnf)) rfl ?_
    first
      | refine lst_run (run_loadN_own (k := 2) hS rfl rfl rfl (by first | exact .head | exact .tail .head | exact .tail (.tail .head) | exact .tail (.tail (.tail .head)) | exact .tail (.tail (.tail (.tail .head))) | exact .tail (.tail (.tail (.tail (.tail .head))))) (by repeat constructor)) rfl ?_
      | refine lst_run (run_loadN_own (k := 2) hS rfl rfl rfl (by first | exact .head | exact .tail .head | exact .tail (.tail .head) | exact .tail (.tail (.tail .head)) | exact .tail (.tail (.tail (.tail .head))) | exact .tail (.tail (.tail (.tail (.tail .head))))) (by assumption)) rfl ?_
      | refine lst_run (run_load2 rfl rfl rfl (by first | assumption | exact hS.cell0 (by assumption)) (by first | assumption | exact hS.cell0 (by assumption))) rfl ?_
    refine lst_enter (run_call (by kernel_rfl) (args_1 (by conv => lhs; whnf))) rfl ?_
    refine Calls.mono (line_any x.k x.T.ts _ _ (fun w' h => hG w' (hS.ext.trans h)) (fun w' h => hW w' (hS.ext.trans h)) (hS.und hAr).sl hx2 (by omega) (by omega)) ?_
    rintro _ w8 ⟨rfl, hb8⟩
    refine ⟨_, rfl, ?_⟩
    replace hS := hS.grow hb8
    refine lst_run (run_indexAddr (sz := 1) rfl rfl rfl rfl (by omega) (by omega)) rfl ?_
    refine lst_store1 hS rfl (by conv => lhs; whnf) rfl rfl (.tail .head) (by rw [Nat.zero_add, Nat.mul_one]; exact hput) (.tail .head) ?_
    clear hS
    intro w9 hS
    refine lst_done ?_
    refine goes_inBlock ?_
    refine goes_region ?_
    refine lst_run (run_add rfl rfl (by omega) (by omega)) rfl ?_
    refine lst_run (run_move (by conv => lhs; whnf)) rfl ?_
    refine lst_done ?_
    refine ih (R) _ _ _ ?_ ?_ (by conv => lhs; whnf) (by kernel_rfl)
    · simp
    · exact ⟨D ++ [x], by rw [hD]; simp, by simp, hS.drop⟩
end Go.Proofs.YthliapbflkfdiacGreatDoor
namespace Go.Proofs.YthliapbflkfdiacGreatDoor
open Go.RowKit Go.Shelf
set_option linter.unusedVariables false
set_option linter.unusedSimpArgs false
set_option maxRecDepth 100000
set_option maxHeartbeats 1000000

def avPT : Str := [112, 40, 52, 41, 46, 32, 112, 40, 53, 41, 46, 32, 113, 40, 88, 44, 89, 41, 32, 58, 45, 32, 112, 40, 88, 41, 44, 32, 112, 40, 89, 41, 44, 32, 108, 101, 115, 115, 40, 88, 44, 89, 41, 46]
def avQT : Str := [113, 40, 65, 44, 66, 41, 46]
theorem avT_model : askM avPT avQT 20 1 = ([[121, 101, 115, 32, 48, 61, 52, 32, 49, 61, 53], [100, 111, 110, 101]], 0) := by kernel_rfl
theorem aliveT_any (w : World) (hG : ∀ w', Ext [] w w' → GVars w') (hW : ∀ w', Ext [] w w' → GWords w') : Calls Tryz.prog 23 #[] w fun e w' => e = .returned (.bool true) ∧ Below w.heap.size w w' := by
  have hS := St.start w
  have h : Calls Tryz.prog 21 #[sv avPT, sv avQT, .int .i64 20, .int .i64 1] w fun e w' => ∃ (A : Option Addr) (c : Nat), e = .returned (.tuple #[.slice A 2 c, .int .i64 0]) ∧ Flat 1 [sv [121, 101, 115, 32, 48, 61, 52, 32, 49, 61, 53], sv [100, 111, 110, 101]] A 2 c w' ∧ Below w.heap.size w w' := by
    have h := ask_any avPT avQT 20 1 w hG hW (by decide) (by decide) (by decide)
    rw [avT_model] at h
    exact h
  refine goes_enter0 Tryz.func23 rfl Tryz.ntmps23 rfl ?_
  refine goes_seq ?_
  refine goes_region ?_
  refine lst_run (run_assign (by conv => lhs; whnf)) rfl ?_
  refine lst_done ?_
  refine goes_seq ?_
  refine goes_region ?_
  refine lst_enter (run_call (by kernel_rfl) (args_4 (by conv => lhs; whnf) (by conv => lhs; whnf) (by conv => lhs; whnf) (by conv => lhs; whnf))) rfl ?_
  refine Calls.mono (h) ?_
  rintro _ w1 ⟨A, c, rfl, hf, hb⟩
  refine ⟨_, rfl, ?_⟩
  replace hS := hS.grow hb
  obtain ⟨b5, o5, rfl⟩ := hf.some_ (by decide)
  have q0 := hf.get (j := 0) (v := sv [121, 101, 115, 32, 48, 61, 52, 32, 49, 61, 53]) rfl
  have q1 := hf.get (j := 1) (v := sv [100, 111, 110, 101]) rfl
  have e0 : (⟨([121, 101, 115, 32, 48, 61, 52, 32, 49, 61, 53] : Str).toArray⟩ : ByteArray) = ⟨#[121, 101, 115, 32, 48, 61, 52, 32, 49, 61, 53]⟩ := rfl
  have e1 : (⟨([100, 111, 110, 101] : Str).toArray⟩ : ByteArray) = ⟨#[100, 111, 110, 101]⟩ := rfl
  refine lst_run (run_move (by conv => lhs; whnf)) rfl ?_
  refine lst_run (run_extract rfl rfl) rfl ?_
  refine lst_run (run_extract rfl rfl) rfl ?_
  refine lst_run (run_assign (by conv => lhs; whnf)) rfl ?_
  refine lst_run (run_assign (by conv => lhs; whnf)) rfl ?_
  refine lst_done ?_
  refine goes_seq ?_
  refine goes_region ?_
  refine lst_run (run_move (by conv => lhs; whnf)) rfl ?_
  first
    | refine lst_run (run_eql_one_int rfl rfl) rfl ?_
    | refine lst_run (run_eql_no rfl rfl (by first | assumption | omega)) rfl ?_
    | refine lst_run (run_eql_yes rfl rfl (by omega)) rfl ?_
    | refine lst_run (rfl) rfl ?_
  refine lst_run (run_move (by conv => lhs; whnf)) rfl ?_
  refine lst_guard rfl rfl ?_
  refine lst_run (run_move (by conv => lhs; whnf)) rfl ?_
  refine lst_guard rfl rfl ?_
  refine lst_run (run_len_slice rfl rfl rfl) rfl ?_
  refine lst_guard rfl rfl ?_
  first
    | refine lst_run (run_eql_one_int rfl rfl) rfl ?_
    | refine lst_run (run_eql_no rfl rfl (by first | assumption | omega)) rfl ?_
    | refine lst_run (run_eql_yes rfl rfl (by omega)) rfl ?_
    | refine lst_run (rfl) rfl ?_
  first
    | refine lst_run (run_pick_t rfl (by conv => lhs; whnf)) rfl ?_
    | refine lst_run (run_pick_f rfl (by conv => lhs; whnf)) rfl ?_
  refine lst_run (run_move (by conv => lhs; whnf)) rfl ?_
  refine lst_guard rfl rfl ?_
  refine lst_run (run_move (by conv => lhs; whnf)) rfl ?_
  refine lst_guard rfl rfl ?_
  refine lst_run (run_indexAddr (sz := 1) rfl rfl rfl rfl (by omega) (by omega)) rfl ?_
  refine lst_guard rfl rfl ?_
  first
    | refine lst_run (run_load1_own hS rfl rfl (by first | exact .head | exact .tail .head | exact .tail (.tail .head) | exact .tail (.tail (.tail .head)) | exact .tail (.tail (.tail (.tail .head))) | exact .tail (.tail (.tail (.tail (.tail .head))))) (by repeat constructor)) rfl ?_
    | refine lst_run (run_load1 rfl rfl (by first | assumption | exact hS.cell0 (by assumption) | exact lv_next hS | exact lv_list hS)) rfl ?_
  refine lst_guard rfl rfl ?_
  first
    | refine lst_run (run_eqlS_t rfl rfl (by assumption)) rfl ?_
    | refine lst_run (run_eqlS_f rfl rfl (by assumption)) rfl ?_
    | refine lst_run (run_eql_str rfl rfl) rfl ?_
    | refine lst_run (rfl) rfl ?_
  first
    | refine lst_run (run_pick_t rfl (by conv => lhs; whnf)) rfl ?_
    | refine lst_run (run_pick_f rfl (by conv => lhs; whnf)) rfl ?_
  refine lst_run (run_move (by conv => lhs; whnf)) rfl ?_
  refine lst_guard rfl rfl ?_
  refine lst_run (run_move (by conv => lhs; whnf)) rfl ?_
  refine lst_guard rfl rfl ?_
  refine lst_run (run_indexAddr (sz := 1) rfl rfl rfl rfl (by omega) (by omega)) rfl ?_
  refine lst_guard rfl rfl ?_
  first
    | refine lst_run (run_load1_own hS rfl rfl (by first | exact .head | exact .tail .head | exact .tail (.tail .head) | exact .tail (.tail (.tail .head)) | exact .tail (.tail (.tail (.tail .head))) | exact .tail (.tail (.tail (.tail (.tail .head))))) (by repeat constructor)) rfl ?_
    | refine lst_run (run_load1 rfl rfl (by first | assumption | exact hS.cell0 (by assumption) | exact lv_next hS | exact lv_list hS)) rfl ?_
  refine lst_guard rfl rfl ?_
  first
    | refine lst_run (run_eqlS_t rfl rfl (by assumption)) rfl ?_
    | refine lst_run (run_eqlS_f rfl rfl (by assumption)) rfl ?_
    | refine lst_run (run_eql_str rfl rfl) rfl ?_
    | refine lst_run (rfl) rfl ?_
  first
    | refine lst_run (run_pick_t rfl (by conv => lhs; whnf)) rfl ?_
    | refine lst_run (run_pick_f rfl (by conv => lhs; whnf)) rfl ?_
  refine lst_run (run_assign (by conv => lhs; whnf)) rfl ?_
  refine lst_done ?_
  refine goes_ret1 Tryz.func23 rfl (by conv => lhs; whnf) ?_
  exact ⟨rfl, hS.ext.below⟩
end Go.Proofs.YthliapbflkfdiacGreatDoor
