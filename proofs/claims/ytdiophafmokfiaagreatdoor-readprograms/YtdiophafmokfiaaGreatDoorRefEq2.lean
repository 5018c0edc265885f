/-
  What the program's reader gives for a text is what the document's own gives. No program is named here.
-/
import Derived.Test.YtdiophafmokfiaaGreatDoorRefEq
namespace Go.Proofs.YtdiophafmokfiaaGreatDoor
open Go.RowKit Go.Shelf
set_option linter.unusedVariables false
set_option linter.unusedSimpArgs false
set_option maxRecDepth 100000

/-- Where the document's reader is not spoilt, it has read something. -/
theorem refLoop_bad {f : PS → Nd × PS} : ∀ (n : Nat) (p : PS), (∀ q : PS, q.bad = true → (f q).2.bad = true) → p.bad = true → (refLoop f n p).2.bad = true
  | 0, p, _, h => h
  | n + 1, p, _, h => by unfold refLoop; rw [if_neg (by simp [h])]; exact h
theorem close_bad (p : PS) (t : Str) (h : p.bad = true) : (p.close t).bad = true := by unfold PS.close; rw [if_pos h]; exact h
theorem refTerm_bad : ∀ (d : Nat) (p : PS), p.bad = true → (refTerm d p).2.bad = true
  | 0, p, h => rfl
  | d + 1, p, h => by
    unfold refTerm
    split
    · rfl
    · rfl
    · split
      · exact h
      split
      · rw [(pvar_l _ _).2]; exact h
      split
      · simp [h]
      split
      · rfl
      split
      · exact close_bad _ _ (refLoop_bad _ _ (refTerm_bad d) (refTerm_bad d _ h))
      · exact h
theorem refTerm_lt (d : Nat) (p : PS) (h : (refTerm d p).2.bad = false) : (refTerm d p).2.l.length < p.l.length := by
  cases d with
  | zero => cases h
  | succ d =>
    have hp : ∀ x r, p.l = x :: r → p.pop.l.length < p.l.length := fun x r e => by simp [PS.pop, e]
    unfold refTerm at h ⊢
    split at h
    · cases h
    · cases h
    · rename_i c r q hl
      have h1 := hp _ _ hl
      simp only [hl] at h1 ⊢
      split at h
      · rw [if_pos (by assumption)]; exact h1
      rw [if_neg (by assumption)]
      split at h
      · rw [if_pos (by assumption), (pvar_l _ _).1]; exact h1
      rw [if_neg (by assumption)]
      split at h
      · rw [if_pos (by assumption)]; exact h1
      rw [if_neg (by assumption)]
      split at h
      · cases h
      rw [if_neg (by assumption)]
      split at h
      · rw [if_pos (by assumption)]
        have h2 := refTerms_le (refTerm_le d) [41] p.pop.pop
        have h3 := pop_le p.pop
        simp only
        omega
      · rw [if_neg (by assumption)]; exact h1
theorem refTerms_lt {f : PS → Nd × PS} (t : Str) (p : PS) : (refTerms f t p).2.l.length ≤ (refLoop f (f p).2.l.length (f p).2).2.l.length := close_le _ t
theorem body_le (p : PS) : (refBody p).2.l.length ≤ p.l.length := by
  unfold refBody
  split
  · have h1 := refTerms_le (refTerm_le 24) [46] p.pop
    have h2 := pop_le p
    unfold refGoals
    omega
  · exact close_le p _
theorem body_bad (p : PS) (h : p.bad = true) : (refBody p).2.bad = true := by
  unfold refBody
  rw [if_neg (by simp [h])]
  exact close_bad p _ h
def refClause (p : PS) : Cl × PS :=
  let h := refTerm 24 { p with vars := [] }
  let q := refBody h.2
  (⟨h.1.k, h.1.n, ⟨h.1.s.toArray⟩, h.1.ar, tsOf q.1, (q.2.vars.length : Nat)⟩, q.2)
theorem refClause_lt (p : PS) (h : (refClause p).2.bad = false) : (refClause p).2.l.length < p.l.length := by
  have h1 := body_le (refTerm 24 { p with vars := [] }).2
  have h2 : (refTerm 24 { p with vars := [] }).2.bad = false := by
    cases hb : (refTerm 24 { p with vars := [] }).2.bad with
    | false => rfl
    | true =>
      have := body_bad _ hb
      rw [show (refBody (refTerm 24 { p with vars := [] }).2).2.bad = (refClause p).2.bad from rfl, h] at this
      cases this
  have h3 := refTerm_lt 24 _ h2
  show (refBody (refTerm 24 { p with vars := [] }).2).2.l.length < _
  have e : ({ p with vars := [] } : PS).l = p.l := rfl
  rw [e] at h3
  omega
def refProg : Nat → PS → Option (List Cl)
  | 0, p => some []
  | n + 1, p => if p.l = [] then some [] else
      if (refClause p).2.bad = true ∨ cB (refClause p).1 = false then none
      else (refProg n (refClause p).2).map ((refClause p).1 :: ·)
theorem refProg_fuel : ∀ (n : Nat) (p : PS), p.l.length ≤ n → refProg n p = refProg p.l.length p := by
  intro n
  induction n using Nat.strongRecOn with
  | _ n ih =>
    intro p hn
    cases n with
    | zero => rw [Nat.le_zero.1 hn]
    | succ n =>
      cases hl : p.l with
      | nil => simp [refProg, hl]
      | cons x r =>
        have hne : p.l ≠ [] := by rw [hl]; simp
        rw [hl] at hn
        simp only [List.length_cons] at hn ⊢
        simp only [refProg, hne, if_false]
        split
        · rfl
        · rename_i hb
          have h1 := refClause_lt p (by simp only [not_or] at hb; simpa using hb.1)
          rw [hl] at h1
          simp only [List.length_cons] at h1
          by_cases e : n = r.length
          · rw [e]
          · rw [ih n (by omega) _ (by omega), ih r.length (by omega) _ (by omega)]
theorem refProg_step {p : PS} (hne : p.l ≠ []) (hb : ¬ ((refClause p).2.bad = true ∨ cB (refClause p).1 = false)) : refProg p.l.length p = (refProg (refClause p).2.l.length (refClause p).2).map ((refClause p).1 :: ·) := by
  have h1 := refClause_lt p (by simp only [not_or] at hb; simpa using hb.1)
  cases hl : p.l with
  | nil => exact absurd hl hne
  | cons x r =>
    rw [hl] at h1
    simp only [List.length_cons] at h1 ⊢
    simp only [refProg, hne, if_false, if_neg hb]
    rw [refProg_fuel r.length _ (by omega)]
theorem refProg_none {p : PS} (hne : p.l ≠ []) (hb : (refClause p).2.bad = true ∨ cB (refClause p).1 = false) : refProg p.l.length p = none := by
  cases hl : p.l with
  | nil => exact absurd hl hne
  | cons x r => simp only [List.length_cons, refProg, hne, if_false, if_pos hb]
theorem refProg_nil {p : PS} (h : p.l = []) : refProg p.l.length p = some [] := by rw [h]; rfl

theorem Doom.body {p : PS} (h : Doom p) : Doom (refBody p).2 := by
  unfold refBody
  split
  · rename_i hh; exact Doom.terms (Doom.term 24) [46] (by simp [badW]) _ (h.has hh.2 (by simp [badW]))
  · exact h.close (by simp [badW])
theorem Doom.clause {p : PS} (h : Doom p) : Doom (refClause p).2 := Doom.body (Doom.term 24 _ (show Doom { p with vars := [] } from h))
theorem Doom.prog : ∀ (n : Nat) (p : PS), p.l.length ≤ n → p.bad = false → Doom p → refProg p.l.length p = none := by
  intro n
  induction n with
  | zero =>
    intro p hn hb h
    rcases h with h | ⟨x, hx, _⟩
    · rw [hb] at h; cases h
    · have := List.length_pos_of_mem hx; omega
  | succ n ih =>
    intro p hn hb h
    have hne : p.l ≠ [] := by
      rcases h with h | ⟨x, hx, _⟩
      · rw [hb] at h; cases h
      · intro e; rw [e] at hx; simp at hx
    by_cases hc : (refClause p).2.bad = true ∨ cB (refClause p).1 = false
    · exact refProg_none hne hc
    · have h0 : (refClause p).2.bad = false := by simp only [not_or] at hc; simpa using hc.1
      have h1 := refClause_lt p h0
      rw [refProg_step hne hc, ih _ (by omega) h0 h.clause]
      rfl
theorem Rel.body {s : RS} {p : PS} (h : Rel s p) : Rel ((bodyM numM s).2.take [46]) (refBody p).2 ∧ (((bodyM numM s).2.take [46]).err = 0 → (bodyM numM s).1 = (refBody p).1) := by
  rcases h with h | h
  · by_cases ht : s.token = [58, 45]
    · have hp := (h.tok (by simp)).1 ht
      have e1 : bodyM numM s = termsM (termM numM 24) s.adv := by unfold bodyM; rw [if_pos ht]
      have e2 : refBody p = refTerms (refTerm 24) [46] p.pop := by unfold refBody refGoals; rw [if_pos ⟨h.2.1, hp⟩]
      rw [e1, e2]
      have h5 := (both_term 24).terms (term_less numM 24) (refTerm_le 24) (term_stick numM 24) (Doom.term 24) [46] (by simp [badW]) _ _ (h.adv (by rw [ht]; simp))
      exact ⟨h5.1, fun e => h5.2 (take_stick _ _ e).1⟩
    · have e1 : bodyM numM s = ([], s) := by unfold bodyM; rw [if_neg ht]
      have e2 : refBody p = ([], p.close [46]) := by unfold refBody; rw [if_neg fun e => ht ((h.tok (by simp)).2 e.2)]
      rw [e1, e2]
      exact ⟨Rel.take (.inl h) (by simp [badW]), fun _ => rfl⟩
  · have e1 : bodyM numM s = ([], s) := by unfold bodyM; rw [if_neg (by rw [h.2.1]; simp)]
    rw [e1]
    have h2 := h.2.2.2.body
    have h3 : s.take [46] = (s.fail 1).adv := by unfold RS.take; rw [if_neg (by rw [h.2.1]; simp)]
    rw [h3]
    have h4 := (h.fail 1 h2).adv h2
    exact ⟨.inr h4, fun e => by have := h4.1; omega⟩
theorem prog_dead {s : RS} (h : s.token = []) : progLoop numM s.left s = ([], s) := prog_stop numM h
theorem Rel.fresh {s : RS} {p : PS} (h : Rel s p) : Rel { s with vars := [] } { p with vars := [] } := by
  rcases h with h | h
  · exact .inl ⟨h.1, h.2.1, rfl, h.2.2.2⟩
  · exact .inr ⟨h.1, h.2.1, h.2.2.1, h.2.2.2⟩
theorem Rel.clause {s : RS} {p : PS} (h : Rel s p) : ∃ s3, (clauseM numM s).2 = (if cB (clauseM numM s).1 then s3 else s3.fail 1) ∧ Rel s3 (refClause p).2 ∧ (s3.err = 0 → (clauseM numM s).1 = (refClause p).1) := by
  have h1 := both_term 24 _ _ h.fresh
  have h2 := h1.1.body
  refine ⟨(bodyM numM (termM numM 24 { s with vars := [] }).2).2.take [46], rfl, h2.1, fun e => ?_⟩
  have hl := h2.1.live e
  have e1 := (take_stick _ _ e).1
  have e2 : (termM numM 24 { s with vars := [] }).2.err = 0 := by
    unfold bodyM at e1
    split at e1
    · exact adv_stick _ (term_stick numM 24 _ (terms_stick (term_stick numM 24) _ e1))
    · exact e1
  simp only [clauseM, refClause]
  rw [h1.2 e2, h2.2 e, hl.2.2.1]
theorem prog_ref : ∀ (n : Nat) (s : RS) (p : PS), s.left ≤ n → p.bad = false → Rel s p →
    match refProg p.l.length p with
    | some L => (progLoop numM s.left s).1 = L ∧ (progLoop numM s.left s).2.err = 0
    | none => (progLoop numM s.left s).2.err = 1 := by
  intro n
  induction n with
  | zero =>
    intro s p hn hb h
    have ht : s.token = [] := by unfold RS.left at hn; exact List.eq_nil_of_length_eq_zero (by omega)
    rw [prog_dead ht]
    rcases h with h | h
    · rcases h.2.2.2 with ⟨_, _, h3⟩ | ⟨h1, _⟩
      · rw [refProg_nil h3]; exact ⟨rfl, h.1⟩
      · exact absurd ht h1.1
    · rw [Doom.prog _ p (Nat.le_refl _) hb h.2.2.2]; exact h.1
  | succ n ih =>
    intro s p hn hb h
    by_cases ht : s.token = []
    · rw [prog_dead ht]
      rcases h with h | h
      · rcases h.2.2.2 with ⟨_, _, h3⟩ | ⟨h1, _⟩
        · rw [refProg_nil h3]; exact ⟨rfl, h.1⟩
        · exact absurd ht h1.1
      · rw [Doom.prog _ p (Nat.le_refl _) hb h.2.2.2]; exact h.1
    · rw [prog_step numM ht]
      have hlt := clause_lt numM s ht
      have hne : p.l ≠ [] := by
        rcases h with h | h
        · rcases h.2.2.2 with ⟨h1, _, _⟩ | ⟨_, h3⟩
          · exact absurd h1 ht
          · rw [h3]; simp
        · exact absurd h.2.1 ht
      obtain ⟨s3, e3, hr, heq⟩ := h.clause
      have hdead : ∀ s', s'.token = [] → s'.err = 1 → (progLoop numM s'.left s').2.err = 1 := fun s' h1 h2 => by rw [prog_dead h1]; exact h2
      rcases hr with hl | hd
      · rw [heq hl.1] at e3
        by_cases hc : cB (refClause p).1 = true
        · rw [if_pos hc] at e3
          have hb2 : ¬ ((refClause p).2.bad = true ∨ cB (refClause p).1 = false) := by simp [hl.2.1, hc]
          rw [refProg_step hne hb2, e3]
          have h5 := ih s3 (refClause p).2 (by rw [e3] at hlt; omega) hl.2.1 (.inl hl)
          cases hp : refProg (refClause p).2.l.length (refClause p).2 with
          | none => rw [hp] at h5; exact h5
          | some L =>
            rw [hp] at h5
            simp only [Option.map_some]
            exact ⟨by rw [heq hl.1, h5.1], h5.2⟩
        · have hc' : cB (refClause p).1 = false := by simpa using hc
          rw [if_neg hc] at e3
          rw [refProg_none hne (.inr hc'), e3]
          exact hdead _ rfl (by simp [RS.fail, hl.1])
      · have h6 : (clauseM numM s).2.token = [] ∧ (clauseM numM s).2.err = 1 := by
          rw [e3]
          split
          · exact ⟨hd.2.1, hd.1⟩
          · exact ⟨rfl, by simp [RS.fail, hd.1]⟩
        have h7 := hdead _ h6.1 h6.2
        have h8 : refProg p.l.length p = none := by
          by_cases hc : (refClause p).2.bad = true ∨ cB (refClause p).1 = false
          · exact refProg_none hne hc
          · have h0 : (refClause p).2.bad = false := by simp only [not_or] at hc; simpa using hc.1
            rw [refProg_step hne hc, Doom.prog _ _ (Nat.le_refl _) h0 hd.2.2.2]
            rfl
        rw [h8]
        exact h7
def PS.start (l : Str) : PS := ⟨wordsM l, [], false⟩
theorem start_rel (l : Str) (h : ¬ 2000 < l.length) : Rel (RS.start l) (PS.start l) := by
  unfold RS.start
  rw [if_neg h]
  exact adv_rel rfl rfl rfl rfl
theorem start_long (l : Str) (h : 2000 < l.length) : (RS.start l).token = [] ∧ (RS.start l).err = 3 := by
  unfold RS.start
  rw [if_pos h]
  exact ⟨rfl, rfl⟩
def refProgramM (l : Str) : List Cl × Int :=
  if 2000 < l.length then ([], 3) else
  match refProg (PS.start l).l.length (PS.start l) with
  | none => ([], 1)
  | some L => if 24 < L.length then ([], 3) else (L, 0)
theorem program_ref (l : Str) : programM numM l = refProgramM l := by
  unfold programM refProgramM
  by_cases h : 2000 < l.length
  · obtain ⟨h1, h2⟩ := start_long l h
    rw [if_pos h]
    have e : (if 24 < ([] : List Cl).length then (RS.start l).fail 3 else RS.start l) = RS.start l := if_neg (by decide)
    simp only [prog_dead h1, e]
    rw [if_neg (by rw [h2]; decide), h2]
  · rw [if_neg h]
    have h1 := prog_ref _ (RS.start l) (PS.start l) (Nat.le_refl _) rfl (start_rel l h)
    generalize progLoop numM (RS.start l).left (RS.start l) = q at h1 ⊢
    cases hp : refProg (PS.start l).l.length (PS.start l) with
    | none =>
      rw [hp] at h1
      simp only at h1 ⊢
      have e : (if 24 < q.1.length then q.2.fail 3 else q.2).err = 1 := by
        split
        · simp [RS.fail, h1]
        · exact h1
      rw [if_neg (by rw [e]; decide), e]
    | some L =>
      rw [hp] at h1
      simp only at h1 ⊢
      rw [h1.1]
      by_cases h24 : 24 < L.length
      · rw [if_pos h24, if_pos h24]
        have e : (q.2.fail 3).err = 3 := by simp [RS.fail, h1.2]
        rw [if_neg (by rw [e]; decide), e]
      · rw [if_neg h24, if_neg h24, if_pos h1.2]
def refQueryM (l : Str) : Ts × Nat × Int :=
  if 2000 < l.length then (.nil, 0, 3) else
  let g := refGoals (PS.start l)
  if g.2.bad = true ∨ g.2.l ≠ [] ∨ qB (g.2.vars.length : Nat) (tsOf g.1) = false then (.nil, 0, 1) else (tsOf g.1, g.2.vars.length, 0)
theorem query_ref (l : Str) : queryM numM l = refQueryM l := by
  unfold queryM refQueryM
  by_cases h : 2000 < l.length
  · obtain ⟨h1, h2⟩ := start_long l h
    rw [if_pos h]
    have e1 : (termsM (termM numM 24) (RS.start l)).2.err = 3 := by
      have e0 : (termM numM 24 (RS.start l)).2 = (RS.start l).fail 1 := by unfold termM; rw [if_pos h1]
      unfold termsM
      simp only [e0]
      rw [loop_stop (by simp [RS.fail])]
      simp [RS.fail, h2]
    have e2 : ∀ s : RS, s.err = 3 → (s.take [46]).err = 3 := by
      intro s hs
      unfold RS.take RS.adv
      simp only
      split <;> split <;> simp [RS.fail, hs]
    have e3 := e2 _ e1
    simp only
    generalize (termsM (termM numM 24) (RS.start l)).2.take [46] = s at e3
    have e4 : ∀ b : Prop, ∀ _ : Decidable b, (if b then s else s.fail 1).err = 3 := by
      intro b _
      split
      · exact e3
      · simp [RS.fail, e3]
    rw [if_neg (by rw [e4]; decide), e4]
  · rw [if_neg h]
    have h5 := (both_term 24).terms (term_less numM 24) (refTerm_le 24) (term_stick numM 24) (Doom.term 24) [46] (by simp [badW]) _ _ (start_rel l h)
    have h6 : Rel ((termsM (termM numM 24) (RS.start l)).2.take [46]) (refGoals (PS.start l)).2 := h5.1
    have h7 : ((termsM (termM numM 24) (RS.start l)).2.take [46]).err = 0 → (termsM (termM numM 24) (RS.start l)).1 = (refGoals (PS.start l)).1 := fun e => h5.2 (take_stick _ _ e).1
    clear h5
    simp only
    generalize refGoals (PS.start l) = g at *
    generalize termsM (termM numM 24) (RS.start l) = a at *
    generalize a.2.take [46] = s at *
    rcases h6 with hl | hd
    · rw [h7 hl.1, hl.2.2.1]
      have htk : s.token = [] ↔ g.2.l = [] := by
        rcases hl.2.2.2 with ⟨h1, _, h3⟩ | ⟨h1, h3⟩
        · simp [h1, h3]
        · rw [h3]; simp [h1.1]
      by_cases hq : s.token = [] ∧ qB (g.2.vars.length : Nat) (tsOf g.1) = true
      · rw [if_pos hq, if_pos hl.1, if_neg (by simp [hl.2.1, htk.1 hq.1, hq.2]), hl.2.2.1]
      · have e : (s.fail 1).err = 1 := by simp [RS.fail, hl.1]
        rw [if_neg hq, if_neg (by rw [e]; decide), e, if_pos]
        by_cases ht : s.token = []
        · right; right
          have : ¬ qB (g.2.vars.length : Nat) (tsOf g.1) = true := fun h => hq ⟨ht, h⟩
          simpa using this
        · right; left; exact fun e => ht (htk.2 e)
    · have e4 : ∀ b : Prop, ∀ _ : Decidable b, (if b then s else s.fail 1).err = 1 := by
        intro b _
        split
        · exact hd.1
        · simp [RS.fail, hd.1]
      rw [if_neg (by rw [e4]; decide), e4, if_pos]
      rcases hd.2.2.2 with h | ⟨x, hx, _⟩
      · exact .inl h
      · right; left; intro e; rw [e] at hx; simp at hx
end Go.Proofs.YtdiophafmokfiaaGreatDoor
