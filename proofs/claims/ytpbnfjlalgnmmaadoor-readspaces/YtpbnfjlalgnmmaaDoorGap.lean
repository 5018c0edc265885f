/-
  White space before and behind a text changes nothing of what is read. No program is named here.
-/
import Derived.Test.YtpbnfjlalgnmmaaDoorRWalk6
namespace Go.Proofs.YtpbnfjlalgnmmaaDoor
open Go.RowKit
set_option linter.unusedVariables false
set_option linter.unusedSimpArgs false

theorem white_or {c : UInt8} (h : whiteB c = true) : c = 32 ∨ c = 10 ∨ c = 13 ∨ c = 9 := by simpa [whiteB] using h
theorem white_not {c : UInt8} (h : whiteB c = true) : lowB c = false ∧ digB c = false ∧ c ≠ 45 := by
  rcases white_or h with rfl | rfl | rfl | rfl <;> decide
theorem span_gap {p : UInt8 → Bool} {g : Str} (hg : ∀ c ∈ g, p c = false) : ∀ r : Str, spanN p (r ++ g) = spanN p r
  | [] => by
    cases g with
    | nil => rfl
    | cons c g => simp [spanN, hg c (.head _)]
  | c :: r => by simp only [List.cons_append, spanN]; rw [span_gap hg r]
theorem tok_gap {g : Str} (hg : ∀ c ∈ g, whiteB c = true) (c : UInt8) (r : Str) : tokLen (c :: (r ++ g)) = tokLen (c :: r) := by
  have h1 := span_gap (fun c hc => (white_not (hg c hc)).1) r
  have h2 := span_gap (fun c hc => (white_not (hg c hc)).2.1) r
  have h3 := span_gap (fun c hc => (white_not (hg c hc)).2.1) (c :: r)
  have h4 : ([58, 45] : Str).isPrefixOf (c :: (r ++ g)) = ([58, 45] : Str).isPrefixOf (c :: r) := by
    cases r with
    | cons d r => simp [List.isPrefixOf]
    | nil =>
      cases g with
      | nil => rfl
      | cons d g =>
        have := (white_not (hg d (.head _))).2.2
        simp [List.isPrefixOf, Ne.symm this]
  simp only [List.cons_append] at h3
  simp only [tokLen, h1, h2, h3, h4]
theorem trim_gap {g : Str} (hg : ∀ c ∈ g, whiteB c = true) (r : Str) : trimW (r ++ g) = if trimW r = [] then [] else trimW r ++ g := by
  unfold trimW
  induction r with
  | nil =>
    simp only [List.nil_append, List.dropWhile_nil, if_true]
    induction g with
    | nil => rfl
    | cons c g ih => rw [List.dropWhile_cons, if_pos (hg c (.head _))]; exact ih fun c hc => hg c (.tail _ hc)
  | cons c r ih =>
    rw [List.cons_append, List.dropWhile_cons, List.dropWhile_cons]
    split
    · exact ih
    · simp
structure Gp (s s' : RS) : Prop where
  token : s'.token = s.token
  vars : s'.vars = s.vars
  err : s'.err = s.err
  rest : ∃ g, (∀ c ∈ g, whiteB c = true) ∧ s'.rest = s.rest ++ g
theorem Gp.left {s s' : RS} (h : Gp s s') : s.left ≤ s'.left := by
  obtain ⟨g, _, hr⟩ := h.rest
  unfold RS.left
  rw [h.token, hr]; simp
theorem Gp.fail {s s' : RS} (h : Gp s s') (e : Int) : Gp (s.fail e) (s'.fail e) := ⟨rfl, h.vars, by simp only [RS.fail, h.err], [], by simp, rfl⟩
theorem Gp.adv {s s' : RS} (h : Gp s s') : Gp s.adv s'.adv := by
  obtain ⟨g, hg, hr⟩ := h.rest
  have ht := trim_gap hg s.rest
  rw [← hr] at ht
  unfold RS.adv
  simp only
  cases hc : trimW s.rest with
  | nil =>
    rw [hc, if_pos rfl] at ht
    rw [ht]
    simp only [tokLen, ne_eq, not_true, and_false, if_false]
    exact ⟨rfl, h.vars, h.err, [], by simp, by simp⟩
  | cons c r =>
    rw [hc, if_neg (by simp)] at ht
    rw [ht, List.cons_append, tok_gap hg]
    by_cases h0 : tokLen (c :: r) = 0
    · rw [if_pos ⟨h0, by simp⟩, if_pos ⟨h0, by simp⟩]
      exact h.fail 1
    · rw [if_neg (fun h => h0 h.1), if_neg (fun h => h0 h.1)]
      have hl := tokLen_le (c :: r)
      refine ⟨?_, h.vars, h.err, g, hg, ?_⟩
      · show List.take _ ((c :: r) ++ g) = _
        rw [List.take_append_of_le_length hl]
      · show List.drop _ ((c :: r) ++ g) = _
        rw [List.drop_append_of_le_length hl]
theorem Gp.take {s s' : RS} (h : Gp s s') (t : Str) : Gp (s.take t) (s'.take t) := by
  unfold RS.take
  rw [h.token]
  split
  · exact h.adv
  · exact (h.fail 1).adv
theorem Gp.var {s s' : RS} (h : Gp s s') (x : Str) : (s'.var x).1 = (s.var x).1 ∧ Gp (s.var x).2 (s'.var x).2 := by
  unfold RS.var
  rw [h.vars]
  split
  · exact ⟨rfl, h⟩
  · exact ⟨rfl, h.token, by simp [h.vars], h.err, h.rest⟩
theorem Gp.number {s s' : RS} (h : Gp s s') (num : Str → Option Int) (x : Str) : (s'.number num x).1 = (s.number num x).1 ∧ Gp (s.number num x).2 (s'.number num x).2 := by
  unfold RS.number
  split
  · exact ⟨rfl, h⟩
  · exact ⟨rfl, h.fail 1⟩
def RelF {α : Type} (f : RS → α × RS) : Prop := ∀ s s', Gp s s' → (f s').1 = (f s).1 ∧ Gp (f s).2 (f s').2
theorem loop_gap {f : RS → Nd × RS} (hf : RelF f) : ∀ n, RelF (loopM f n)
  | 0, s, s', h => ⟨rfl, h⟩
  | n + 1, s, s', h => by
    unfold loopM
    rw [h.token]
    split
    · have h1 := hf _ _ h.adv
      have h2 := loop_gap hf n _ _ h1.2
      exact ⟨by simp only [h1.1, h2.1], h2.2⟩
    · exact ⟨rfl, h⟩
theorem terms_gap {f : RS → Nd × RS} (hl : Less f) (hf : RelF f) : RelF (termsM f) := by
  intro s s' h
  have h1 := hf _ _ h
  have h2 := loop_gap hf (f s').2.left _ _ h1.2
  rw [loop_fuel hl _ _ h1.2.left] at h2
  unfold termsM
  exact ⟨by simp only [h1.1, h2.1], h2.2⟩
theorem term_gap (num : Str → Option Int) : ∀ d, RelF (termM num d)
  | 0, s, s', h => ⟨rfl, h.fail 1⟩
  | d + 1, s, s', h => by
    unfold termM
    rw [h.token]
    split
    · exact ⟨rfl, h.fail 1⟩
    simp only [h.adv.token]
    split
    · have := h.adv.var s.token
      exact ⟨by simp only [this.1], this.2⟩
    split
    · have := terms_gap (term_less num d) (term_gap num d) _ _ (h.adv.take [40])
      exact ⟨by simp only [this.1], this.2.take [41]⟩
    split
    · exact ⟨rfl, h.adv⟩
    split
    · have := h.adv.number num s.token
      exact ⟨by simp only [this.1], this.2⟩
    · exact ⟨rfl, h.adv.fail 1⟩
theorem body_gap (num : Str → Option Int) : RelF (bodyM num) := by
  intro s s' h
  unfold bodyM
  rw [h.token]
  split
  · exact terms_gap (term_less num 24) (term_gap num 24) _ _ h.adv
  · exact ⟨rfl, h⟩
theorem clause_gap (num : Str → Option Int) : RelF (clauseM num) := by
  intro s s' h
  have h0 : Gp { s with vars := [] } { s' with vars := [] } := ⟨h.token, rfl, h.err, h.rest⟩
  have h1 := term_gap num 24 _ _ h0
  have h2 := body_gap num _ _ h1.2
  have h3 := h2.2.take [46]
  unfold clauseM
  simp only [h1.1, h2.1, h3.vars]
  split
  · exact ⟨trivial, h3⟩
  · exact ⟨trivial, h3.fail 1⟩
theorem prog_gap (num : Str → Option Int) : ∀ n, RelF (progLoop num n)
  | 0, s, s', h => ⟨rfl, h⟩
  | n + 1, s, s', h => by
    unfold progLoop
    rw [h.token]
    split
    · exact ⟨rfl, h⟩
    · have h1 := clause_gap num _ _ h
      have h2 := prog_gap num n _ _ h1.2
      exact ⟨by simp only [h1.1, h2.1], h2.2⟩
theorem start_gap (l g : Str) (hg : ∀ c ∈ g, whiteB c = true) (hl : l.length + 2 * g.length ≤ 2000) : Gp (RS.start l) (RS.start (g ++ l ++ g)) := by
  have e1 : RS.start l = RS.adv ⟨[], l, [], 0⟩ := by unfold RS.start; rw [if_neg (by omega)]
  have e2 : RS.start (g ++ l ++ g) = RS.adv ⟨[], l ++ g, [], 0⟩ := by
    unfold RS.start
    rw [if_neg (by simp; omega)]
    have : trimW (g ++ l ++ g) = trimW (l ++ g) := by
      rw [List.append_assoc]
      unfold trimW
      clear hl
      generalize l ++ g = r
      induction g with
      | nil => rfl
      | cons c g ih => rw [List.cons_append, List.dropWhile_cons, if_pos (hg c (.head _))]; exact ih fun c hc => hg c (.tail _ hc)
    simp only [RS.adv, this, RS.fail]
  rw [e1, e2]
  exact Gp.adv ⟨rfl, rfl, rfl, g, hg, rfl⟩
theorem program_gap (num : Str → Option Int) (l g : Str) (hg : ∀ c ∈ g, whiteB c = true) (hl : l.length + 2 * g.length ≤ 2000) : programM num (g ++ l ++ g) = programM num l := by
  have h := start_gap l g hg hl
  have h1 := prog_gap num (RS.start (g ++ l ++ g)).left _ _ h
  rw [prog_fuel num _ _ h.left] at h1
  unfold programM
  simp only [h1.1]
  split
  · simp only [(h1.2.fail 3).err]
  · simp only [h1.2.err]
end Go.Proofs.YtpbnfjlalgnmmaaDoor
