/-
  The program's reader and the document's own go together, token by token. No program is named here.
-/
import Derived.Test.YtdiophafmokfiaaGreatDoorG25
namespace Go.Proofs.YtdiophafmokfiaaGreatDoor
open Go.RowKit Go.Shelf
set_option linter.unusedVariables false
set_option linter.unusedSimpArgs false
set_option maxRecDepth 100000

/-- A word at which the document's reader must stop. -/
def badW (x : Str) : Prop := x = [] ∨ x = [45]
def Doom (p : PS) : Prop := p.bad = true ∨ ∃ x ∈ p.l, badW x
/-- A token whose first sign is a digit or a minus is a numeral. -/
def TokOk (t : Str) : Prop := t ≠ [] ∧ ((digB (headC t) || (headC t == 45)) = true → NumTok t) ∧ (headC t = 33 → t = [33])
def Live (s : RS) (p : PS) : Prop := s.err = 0 ∧ p.bad = false ∧ s.vars = p.vars ∧ ((s.token = [] ∧ s.rest = [] ∧ p.l = []) ∨ (TokOk s.token ∧ p.l = s.token :: wordsM s.rest))
def Dead (s : RS) (p : PS) : Prop := s.err = 1 ∧ s.token = [] ∧ s.rest = [] ∧ Doom p
def Rel (s : RS) (p : PS) : Prop := Live s p ∨ Dead s p

theorem Doom.spoil (p : PS) : Doom p.spoil := .inl rfl
theorem Doom.pop {p : PS} {t : Str} {r : List Str} (h : Doom p) (hl : p.l = t :: r) (ht : ¬ badW t) : Doom p.pop := by
  rcases h with h | ⟨x, hx, hb⟩
  · exact .inl h
  · rw [hl] at hx
    rcases List.mem_cons.1 hx with rfl | hx
    · exact absurd hb ht
    · exact .inr ⟨x, by simp [PS.pop, hl, hx], hb⟩
theorem Doom.has {p : PS} {t : Str} (h : Doom p) (hh : p.has t = true) (ht : ¬ badW t) : Doom p.pop := h.pop (has_pop hh).2 ht
theorem Doom.close {p : PS} {t : Str} (h : Doom p) (ht : ¬ badW t) : Doom (p.close t) := by
  unfold PS.close
  split
  · exact h
  split
  · rename_i hh; exact h.has hh ht
  · exact .inl rfl
theorem Doom.var {p : PS} (x : Str) (h : Doom p) : Doom (p.var x).2 := by
  unfold PS.var
  split
  · exact h
  · exact h
def KeepsD (f : PS → Nd × PS) : Prop := ∀ p, Doom p → Doom (f p).2
theorem Doom.loop {f : PS → Nd × PS} (hf : KeepsD f) : ∀ (n : Nat) (p : PS), Doom p → Doom (refLoop f n p).2
  | 0, p, h => h
  | n + 1, p, h => by
    unfold refLoop
    split
    · rename_i hh; exact Doom.loop hf n _ (hf _ (h.has hh.2 (by simp [badW])))
    · exact h
theorem Doom.terms {f : PS → Nd × PS} (hf : KeepsD f) (t : Str) (ht : ¬ badW t) (p : PS) (h : Doom p) : Doom (refTerms f t p).2 := (Doom.loop hf _ _ (hf p h)).close ht
theorem Doom.term : ∀ d, KeepsD (refTerm d)
  | 0, p, h => .inl rfl
  | d + 1, p, h => by
    unfold refTerm
    split
    · exact .inl rfl
    · exact .inl rfl
    · rename_i c r q hl
      split
      · rename_i e; exact h.pop hl (by rw [e]; simp [badW])
      split
      · rename_i hne hu
        refine Doom.var _ (h.pop hl ?_)
        rintro (e | e)
        · cases e
        · cases e; exact absurd hu (by decide)
      split
      · by_cases e : c :: r = [45]
        · left; rw [e, value_minus]; simp
        · rcases h.pop hl (by rintro (e' | e'); cases e'; exact e e') with h' | h'
          · left
            have : p.bad = true := h'
            simp [this]
          · exact .inr h'
      split
      · exact .inl rfl
      · rename_i h45 hlo
        have hb : ¬ badW (c :: r) := by
          rintro (e | e)
          · cases e
          · cases e; exact h45 rfl
        split
        · rename_i hp; exact Doom.terms (Doom.term d) [41] (by simp [badW]) _ ((h.pop hl hb).has hp (by simp [badW]))
        · exact h.pop hl hb
theorem Dead.fail {s : RS} {p q : PS} (h : Dead s p) (e : Int) (hq : Doom q) : Dead (s.fail e) q := ⟨by simp [RS.fail, h.1], rfl, rfl, hq⟩
theorem Dead.adv {s : RS} {p q : PS} (h : Dead s p) (hq : Doom q) : Dead s.adv q := by
  have : s.adv = ⟨[], [], s.vars, s.err⟩ := by
    unfold RS.adv
    rw [h.2.2.1]
    rfl
  rw [this]
  exact ⟨h.1, rfl, rfl, hq⟩
theorem Live.fail {s : RS} {p : PS} (h : Live s p) {q : PS} (hq : Doom q) : Dead (s.fail 1) q := ⟨by simp [RS.fail, h.1], rfl, rfl, hq⟩

theorem span_take {f : UInt8 → Bool} : ∀ (l : Str), ∀ c ∈ l.take (spanN f l), f c = true
  | [], c, h => by simp at h
  | x :: l, c, h => by
    unfold spanN at h
    cases hx : f x with
    | false => rw [hx] at h; simp at h
    | true =>
      rw [hx] at h
      simp only [cond_true, List.take_succ_cons] at h
      rcases List.mem_cons.1 h with rfl | h
      · exact hx
      · exact span_take l c h
theorem up_facts {c : UInt8} (h : (upB c || lowB c) = true) : digB c = false ∧ (c == 45) = false ∧ c ≠ 33 := by
  have hh : ∀ n : Fin 256, (upB (UInt8.ofNat n.val) || lowB (UInt8.ofNat n.val)) = true → digB (UInt8.ofNat n.val) = false ∧ (UInt8.ofNat n.val == 45) = false ∧ UInt8.ofNat n.val ≠ 33 := by decide +kernel
  have := hh ⟨c.toNat, c.toNat_lt⟩
  simp only [UInt8.ofNat_toNat] at this
  exact this h
theorem dig_facts {c : UInt8} (h : digB c = true) : upB c = false ∧ lowB c = false ∧ (c == 45) = false ∧ c ≠ 33 := by
  have hh : ∀ n : Fin 256, digB (UInt8.ofNat n.val) = true → upB (UInt8.ofNat n.val) = false ∧ lowB (UInt8.ofNat n.val) = false ∧ (UInt8.ofNat n.val == 45) = false ∧ UInt8.ofNat n.val ≠ 33 := by decide +kernel
  have := hh ⟨c.toNat, c.toNat_lt⟩
  simp only [UInt8.ofNat_toNat] at this
  exact this h
theorem sign_facts {c : UInt8} (h : signs.contains c = true) : digB c = false ∧ (c == 45) = false := by
  have hh : ∀ n : Fin 256, signs.contains (UInt8.ofNat n.val) = true → digB (UInt8.ofNat n.val) = false ∧ (UInt8.ofNat n.val == 45) = false := by decide +kernel
  have := hh ⟨c.toNat, c.toNat_lt⟩
  simp only [UInt8.ofNat_toNat] at this
  exact this h
/-- Token and word are as long, but for a lone minus. -/
theorem tok_word (c : UInt8) (r : Str) : (tokLen (c :: r) = wordLen (c :: r) ∧ (tokLen (c :: r) ≠ 0 → TokOk ((c :: r).take (tokLen (c :: r))))) ∨ (tokLen (c :: r) = 0 ∧ wordLen (c :: r) = 1 ∧ c = 45) := by
  have hT : ∀ x, 1 + x ≠ 0 := fun x => by omega
  by_cases h1 : (upB c || lowB c) = true
  · left
    have e1 : tokLen (c :: r) = 1 + spanN lowB r := by simp only [tokLen, h1, if_true]
    have e2 : wordLen (c :: r) = 1 + spanN lowB r := by simp only [wordLen, Bool.or_comm (lowB c), h1, if_true]
    rw [e1, e2]
    have hf := up_facts h1
    refine ⟨rfl, fun _ => ⟨by rw [Nat.add_comm, List.take_succ_cons]; simp, fun h => ?_, fun h => ?_⟩⟩
    · rw [Nat.add_comm, List.take_succ_cons] at h
      simp only [headC, hf.1, hf.2.1, Bool.or_self, Bool.false_eq_true] at h
    · rw [Nat.add_comm, List.take_succ_cons] at h
      exact absurd h hf.2.2
  have h1' : (upB c || lowB c) = false := by simpa using h1
  by_cases h2 : digB c = true
  · left
    have hf := dig_facts h2
    have e : spanN digB (c :: r) = 1 + spanN digB r := by simp [spanN, h2]; omega
    have e1 : tokLen (c :: r) = spanN digB (c :: r) := by simp only [tokLen, h1', h2, Bool.false_eq_true, if_false, if_true]
    have e2 : wordLen (c :: r) = 1 + spanN digB r := by simp only [wordLen, Bool.or_comm (lowB c), h1', h2, Bool.true_or, Bool.false_eq_true, if_false, if_true]
    rw [e1, e2]
    refine ⟨e, fun _ => ⟨by rw [e, Nat.add_comm, List.take_succ_cons]; simp, fun h => .inl ⟨by rw [e, Nat.add_comm, List.take_succ_cons]; simp, span_take _⟩, fun h => ?_⟩⟩
    rw [e, Nat.add_comm, List.take_succ_cons] at h
    exact absurd h hf.2.2.2
  have h2' : digB c = false := by simpa using h2
  by_cases h3 : c = 45
  · subst h3
    have e2 : wordLen (45 :: r) = 1 + spanN digB r := by
      have a1 : (lowB 45 || upB 45) = false := by decide
      have a2 : (digB 45 || ((45 : UInt8) == 45)) = true := by decide
      simp only [wordLen, a1, a2, Bool.false_eq_true, if_false, if_true]
    have e1 : tokLen (45 :: r) = if 0 < spanN digB r then 1 + spanN digB r else 0 := by
      simp only [tokLen, h1', h2', Bool.false_eq_true, if_false, if_true]
    by_cases h4 : 0 < spanN digB r
    · left
      rw [e1, e2, if_pos h4]
      refine ⟨rfl, fun _ => ⟨by rw [Nat.add_comm, List.take_succ_cons]; simp, fun h => .inr ⟨r.take (spanN digB r), by rw [Nat.add_comm, List.take_succ_cons], ?_, span_take r⟩, fun h => ?_⟩⟩
      · intro e
        have := congrArg List.length e
        have hle := spanN_le digB r
        simp only [List.length_take, List.length_nil] at this
        omega
      · rw [Nat.add_comm, List.take_succ_cons] at h
        have h' : (45 : UInt8) = 33 := h
        exact absurd h' (by decide)
    · right
      rw [e1, e2, if_neg h4]
      exact ⟨rfl, by omega, rfl⟩
  have h3' : (c == 45) = false := by simp [h3]
  left
  by_cases h5 : ([58, 45] : Str).isPrefixOf (c :: r) = true
  · have e1 : tokLen (c :: r) = 2 := by
      simp only [tokLen, h1', h2', h3, Bool.false_eq_true, if_false]
      rw [if_pos h5]
    have e2 : wordLen (c :: r) = 2 := by
      simp only [wordLen, Bool.or_comm (lowB c), h1', h2', h3', Bool.or_self, Bool.false_eq_true, if_false]
      rw [if_pos h5]
    rw [e1, e2]
    cases r with
    | nil => simp [List.isPrefixOf] at h5
    | cons x r =>
      have : c = 58 := by simp [List.isPrefixOf] at h5; exact h5.1.symm
      subst this
      exact ⟨rfl, fun _ => ⟨by simp, fun h => absurd h (by simp [headC, digB]), fun h => absurd h (by simp [headC])⟩⟩
  have e1 : tokLen (c :: r) = if signs.contains c then 1 else 0 := by
    simp only [tokLen, h1', h2', h3, Bool.false_eq_true, if_false]
    rw [if_neg h5]
  have e2 : wordLen (c :: r) = if signs.contains c then 1 else 0 := by
    simp only [wordLen, Bool.or_comm (lowB c), h1', h2', h3', Bool.or_self, Bool.false_eq_true, if_false]
    rw [if_neg h5]
  rw [e1, e2]
  by_cases h6 : signs.contains c = true
  · rw [if_pos h6]
    have hf := sign_facts h6
    refine ⟨rfl, fun _ => ⟨by simp, fun h => ?_, fun h => ?_⟩⟩
    · have : (digB c || (c == 45)) = true := h
      rw [hf.1, hf.2] at this
      cases this
    · have : c = 33 := h
      rw [this]; rfl
  · rw [if_neg h6]
    exact ⟨rfl, fun h => absurd rfl h⟩
theorem words_trim : ∀ R : Str, wordsM R = wordsM (trimW R)
  | [] => rfl
  | c :: r => by
    unfold trimW
    rw [List.dropWhile_cons]
    split
    · rename_i h; rw [words_white r h]; exact words_trim r
    · rfl
theorem trim_head {R : Str} {c : UInt8} {r : Str} (h : trimW R = c :: r) : whiteB c = false := by
  unfold trimW at h
  induction R with
  | nil => simp at h
  | cons x R ih =>
    rw [List.dropWhile_cons] at h
    split at h
    · exact ih h
    · rename_i hx; cases h; simpa using hx
/-- The next token is the next word. -/
theorem adv_rel {s : RS} {p : PS} (he : s.err = 0) (hb : p.bad = false) (hv : s.vars = p.vars) (hl : p.l = wordsM s.rest) : Rel s.adv p := by
  rw [words_trim] at hl
  unfold RS.adv
  simp only
  cases ht : trimW s.rest with
  | nil =>
    rw [ht] at hl
    rw [if_neg (by simp)]
    exact .inl ⟨he, hb, hv, .inl ⟨rfl, rfl, hl⟩⟩
  | cons c r =>
    have hw := trim_head ht
    rw [ht] at hl
    rcases tok_word c r with ⟨h1, h2⟩ | ⟨h1, h2, h3⟩
    · by_cases h0 : tokLen (c :: r) = 0
      · rw [if_pos ⟨h0, by simp⟩]
        rw [words_bad r hw (by omega)] at hl
        exact .inr ⟨by simp [RS.fail, he], rfl, rfl, .inr ⟨[], by rw [hl]; simp, .inl rfl⟩⟩
      · rw [if_neg (by simp [h0])]
        rw [words_word r hw (by omega), ← h1] at hl
        exact .inl ⟨he, hb, hv, .inr ⟨h2 h0, hl⟩⟩
    · subst h3
      rw [if_pos ⟨h1, by simp⟩]
      rw [words_word r hw (by omega), h2] at hl
      exact .inr ⟨by simp [RS.fail, he], rfl, rfl, .inr ⟨[45], by rw [hl]; simp, .inr rfl⟩⟩
/-- A token of s is the front word of p. -/
theorem Live.tok {s : RS} {p : PS} (h : Live s p) {t : Str} (ht : t ≠ []) : (s.token = t) ↔ p.has t = true := by
  rcases h.2.2.2 with ⟨h1, _, h3⟩ | ⟨h1, h3⟩
  · rw [h1]; unfold PS.has; rw [h3]; simp; exact fun e => ht (by first | exact e | exact e.symm)
  · unfold PS.has; rw [h3]; simp
theorem Live.adv {s : RS} {p : PS} (h : Live s p) (hn : s.token ≠ []) : Rel s.adv p.pop := by
  rcases h.2.2.2 with ⟨h1, _, _⟩ | ⟨h1, h3⟩
  · exact absurd h1 hn
  · exact adv_rel h.1 h.2.1 h.2.2.1 (by simp [PS.pop, h3])
theorem Rel.take {s : RS} {p : PS} (h : Rel s p) {t : Str} (ht : ¬ badW t) : Rel (s.take t) (p.close t) := by
  have hne : t ≠ [] := fun e => ht (.inl e)
  rcases h with h | h
  · have e2 : p.close t = if p.has t then p.pop else p.spoil := by unfold PS.close; rw [if_neg (by simp [h.2.1])]
    rw [e2]
    by_cases e : s.token = t
    · have e1 : s.take t = s.adv := by unfold RS.take; rw [if_pos e]
      rw [e1, if_pos ((h.tok hne).1 e)]
      exact h.adv (by rw [e]; exact hne)
    · have e1 : s.take t = (s.fail 1).adv := by unfold RS.take; rw [if_neg e]
      rw [e1, if_neg fun e' => e ((h.tok hne).2 e')]
      exact .inr ((h.fail (q := p.spoil) (.inl rfl)).adv (.inl rfl))
  · have e1 : s.take t = (s.fail 1).adv := by unfold RS.take; rw [if_neg (by rw [h.2.1]; exact fun e => hne e.symm)]
    rw [e1]
    exact .inr ((h.fail 1 (h.2.2.2.close ht)).adv (h.2.2.2.close ht))
/-- Two readers of one term. -/
def Both (f : RS → Nd × RS) (g : PS → Nd × PS) : Prop := ∀ s p, Rel s p → Rel (f s).2 (g p).2 ∧ ((f s).2.err = 0 → (f s).1 = (g p).1)
theorem Rel.live {s : RS} {p : PS} (h : Rel s p) (he : s.err = 0) : Live s p := by
  rcases h with h | h
  · exact h
  · have := h.1; omega
theorem Both.dead {f : RS → Nd × RS} {g : PS → Nd × PS} (hb : Both f g) {s : RS} {p : PS} (h : Dead s p) : Dead (f s).2 (g p).2 ∨ Live (f s).2 (g p).2 := by
  rcases (hb s p (.inr h)).1 with h | h
  · exact .inr h
  · exact .inl h
/-- An error stays. -/
def Sticks (f : RS → Nd × RS) : Prop := ∀ s, (f s).2.err = 0 → s.err = 0
theorem fail_err (s : RS) (e : Int) (he : e ≠ 0) : (s.fail e).err ≠ 0 := by
  simp only [RS.fail]
  split
  · exact he
  · assumption
theorem adv_stick (s : RS) (h : s.adv.err = 0) : s.err = 0 := by
  unfold RS.adv at h
  simp only at h
  split at h
  · exact absurd h (fail_err s 1 (by decide))
  · exact h
theorem take_stick (s : RS) (t : Str) (h : (s.take t).err = 0) : s.err = 0 ∧ s.token = t := by
  unfold RS.take at h
  split at h
  · rename_i e; exact ⟨adv_stick s h, e⟩
  · exact absurd (adv_stick _ h) (fail_err s 1 (by decide))
theorem loop_stick {f : RS → Nd × RS} (hf : Sticks f) : ∀ (n : Nat) (s : RS), (loopM f n s).2.err = 0 → s.err = 0
  | 0, s, h => h
  | n + 1, s, h => by
    unfold loopM at h
    split at h
    · exact adv_stick s (hf _ (loop_stick hf n _ h))
    · exact h
theorem terms_stick {f : RS → Nd × RS} (hf : Sticks f) : ∀ s : RS, (termsM f s).2.err = 0 → (f s).2.err = 0 := fun s h => loop_stick hf _ _ h
theorem var_err (s : RS) (x : Str) : (s.var x).2.err = s.err := by unfold RS.var; split <;> rfl
theorem term_stick (num : Str → Option Int) : ∀ d, Sticks (termM num d)
  | 0, s, h => absurd h (fail_err s 1 (by decide))
  | d + 1, s, h => by
    unfold termM at h
    split at h
    · exact absurd h (fail_err s 1 (by decide))
    · simp only at h
      split at h
      · rw [var_err] at h; exact adv_stick s h
      split at h
      · have h1 := (take_stick _ _ h).1
        have h2 := term_stick num d _ (terms_stick (term_stick num d) _ h1)
        exact adv_stick s (take_stick _ _ h2).1
      split at h
      · exact adv_stick s h
      split at h
      · simp only [RS.number] at h
        split at h
        · exact adv_stick s h
        · exact absurd h (fail_err _ 1 (by decide))
      · exact absurd h (fail_err _ 1 (by decide))
theorem Both.loop {f : RS → Nd × RS} {g : PS → Nd × PS} (hb : Both f g) (hf : Less f) (hg : LessP g) (hs : Sticks f) (hk : KeepsD g) : ∀ (n : Nat) (s : RS) (p : PS), s.left ≤ n → Rel s p →
    Rel (loopM f s.left s).2 (refLoop g p.l.length p).2 ∧ ((loopM f s.left s).2.err = 0 → (loopM f s.left s).1 = (refLoop g p.l.length p).1) := by
  intro n
  induction n with
  | zero =>
    intro s p hn h
    rcases h with h | h
    · have ht : s.token = [] := by unfold RS.left at hn; exact List.eq_nil_of_length_eq_zero (by omega)
      have h1 : ¬ s.token = [44] := by rw [ht]; simp
      rw [loop_stop h1, refLoop_stop fun e => h1 ((h.tok (by simp)).2 e.2)]
      exact ⟨.inl h, fun _ => rfl⟩
    · have h1 : ¬ s.token = [44] := by rw [h.2.1]; simp
      rw [loop_stop h1]
      exact ⟨.inr ⟨h.1, h.2.1, h.2.2.1, Doom.loop hk _ _ h.2.2.2⟩, fun e => by have := h.1; simp only at e; omega⟩
  | succ n ih =>
    intro s p hn h
    rcases h with h | h
    · by_cases ht : s.token = [44]
      · have hp := (h.tok (by simp)).1 ht
        rw [loop_step hf ht, refLoop_step hg ⟨h.2.1, hp⟩]
        have h1 := adv_lt s (by rw [ht]; simp)
        have h2 := hf s.adv
        have h3 := h.adv (by rw [ht]; simp)
        have h4 := hb _ _ h3
        have h5 := ih (f s.adv).2 (g p.pop).2 (by omega) h4.1
        refine ⟨h5.1, fun e => ?_⟩
        simp only at e ⊢
        rw [h5.2 e, h4.2 (loop_stick hs _ _ e)]
      · rw [loop_stop ht, refLoop_stop fun e => ht ((h.tok (by simp)).2 e.2)]
        exact ⟨.inl h, fun _ => rfl⟩
    · have h1 : ¬ s.token = [44] := by rw [h.2.1]; simp
      rw [loop_stop h1]
      exact ⟨.inr ⟨h.1, h.2.1, h.2.2.1, Doom.loop hk _ _ h.2.2.2⟩, fun e => by have := h.1; simp only at e; omega⟩
theorem Both.terms {f : RS → Nd × RS} {g : PS → Nd × PS} (hb : Both f g) (hf : Less f) (hg : LessP g) (hs : Sticks f) (hk : KeepsD g) (t : Str) (ht : ¬ badW t) (s : RS) (p : PS) (h : Rel s p) :
    Rel ((termsM f s).2.take t) (refTerms g t p).2 ∧ ((termsM f s).2.err = 0 → (termsM f s).1 = (refTerms g t p).1) := by
  have h1 := hb s p h
  have h2 := hb.loop hf hg hs hk _ (f s).2 (g p).2 (Nat.le_refl _) h1.1
  refine ⟨h2.1.take ht, fun e => ?_⟩
  have e1 : (termsM f s).1 = (f s).1 :: (loopM f (f s).2.left (f s).2).1 := rfl
  have e2 : (refTerms g t p).1 = (g p).1 :: (refLoop g (g p).2.l.length (g p).2).1 := rfl
  rw [e1, e2, h1.2 (terms_stick hs s e), h2.2 e]
theorem Live.var {s : RS} {p : PS} (h : Live s p) (x : Str) : (s.var x).1 = (p.var x).1 ∧ Live (s.var x).2 (p.var x).2 := by
  obtain ⟨h1, h2, h3, h4⟩ := h
  unfold RS.var PS.var
  rw [h3]
  split
  · exact ⟨rfl, h1, h2, h3, h4⟩
  · exact ⟨rfl, h1, h2, by simp, h4⟩
theorem Dead.var {s : RS} {p : PS} (h : Dead s p) (x : Str) : Dead (s.var x).2 (p.var x).2 := by
  refine ⟨by rw [var_err]; exact h.1, ?_, ?_, h.2.2.2.var x⟩
  · unfold RS.var; split <;> exact h.2.1
  · unfold RS.var; split <;> exact h.2.2.1
theorem Rel.var {s : RS} {p : PS} (h : Rel s p) (x : Str) : Rel (s.var x).2 (p.var x).2 ∧ ((s.var x).2.err = 0 → (s.var x).1 = (p.var x).1) := by
  rcases h with h | h
  · exact ⟨.inl (h.var x).2, fun _ => (h.var x).1⟩
  · exact ⟨.inr (h.var x), fun e => by rw [var_err] at e; have := h.1; omega⟩
theorem both_term : ∀ d, Both (termM numM d) (refTerm d)
  | 0, s, p, h => by
    refine ⟨?_, fun e => absurd e (fail_err s 1 (by decide))⟩
    rcases h with h | h
    · exact .inr (h.fail (.inl rfl))
    · exact .inr (h.fail 1 (.inl rfl))
  | d + 1, s, p, h => by
    rcases h with h | h
    · rcases h.2.2.2 with ⟨h1, h2, h3⟩ | ⟨h1, h3⟩
      · have e1 : termM numM (d + 1) s = (Nd.zero, s.fail 1) := by unfold termM; rw [if_pos h1]
        have e2 : refTerm (d + 1) p = (Nd.zero, p.spoil) := by unfold refTerm; rw [h3]
        rw [e1, e2]
        exact ⟨.inr (h.fail (.inl rfl)), fun e => absurd e (fail_err s 1 (by decide))⟩
      · obtain ⟨hne, hnum, h33⟩ := h1
        cases ht : s.token with
        | nil => exact absurd ht hne
        | cons c r =>
          rw [ht] at h3 hnum h33
          have hc : headC (c :: r) = c := rfl
          rw [hc] at hnum h33
          have hadv := h.adv (by rw [ht]; simp)
          have e1 := termM_cons numM d ht
          have e2 : refTerm (d + 1) p = if c :: r = [33] then (⟨1, 0, [33], .nil⟩, p.pop)
              else if upB c then (⟨0, (p.pop.var (c :: r)).1, [], .nil⟩, (p.pop.var (c :: r)).2)
              else if (c == 45) || digB c then (⟨2, (valueM (c :: r)).getD 0, [], .nil⟩, { p.pop with bad := p.bad || (valueM (c :: r)).isNone })
              else if lowB c = false then (Nd.zero, p.spoil)
              else if p.pop.has [40] then (⟨3, 0, c :: r, tsOf (refTerms (refTerm d) [41] p.pop.pop).1⟩, (refTerms (refTerm d) [41] p.pop.pop).2)
              else (⟨1, 0, c :: r, .nil⟩, p.pop) := by
            conv => lhs; unfold refTerm
            rw [h3]
          by_cases e33 : c = 33
          · have := h33 e33
            subst e33
            cases this
            have f1 : termM numM (d + 1) s = (⟨1, 0, [33], .nil⟩, s.adv) := e1
            rw [if_pos rfl] at e2
            rw [f1, e2]
            exact ⟨hadv, fun _ => rfl⟩
          rw [if_neg (by intro e; exact e33 (List.cons.inj e).1)] at e2
          by_cases hu : upB c = true
          · rw [if_pos hu] at e1 e2
            rw [e1, e2]
            have hv := hadv.var (c :: r)
            exact ⟨hv.1, fun e => by simp only at e ⊢; rw [hv.2 e]⟩
          rw [if_neg hu] at e1 e2
          by_cases hd : ((c == 45) || digB c) = true
          · rw [if_pos hd] at e2
            have hnt := hnum (by rw [Bool.or_comm]; exact hd)
            have hlo : lowB c = false := by
              have hh : ∀ n : Fin 256, ((UInt8.ofNat n.val == 45) || digB (UInt8.ofNat n.val)) = true → lowB (UInt8.ofNat n.val) = false := by decide +kernel
              have := hh ⟨c.toNat, c.toNat_lt⟩
              simp only [UInt8.ofNat_toNat] at this
              exact this hd
            rw [if_neg (by simp [hlo]), if_neg (by simp [hlo, e33]), if_pos (by rw [Bool.or_comm]; exact hd)] at e1
            rw [e1, e2]
            unfold RS.number
            rw [num_value hnt]
            cases hv : valueM (c :: r) with
            | some v =>
              simp only [Option.getD_some, Option.isNone_some, Bool.or_false]
              refine ⟨?_, fun _ => trivial⟩
              have : ({ p.pop with bad := p.bad } : PS) = p.pop := rfl
              rw [this]; exact hadv
            | none =>
              simp only [Option.getD_none, Option.isNone_none, Bool.or_true]
              refine ⟨?_, fun e => absurd e (fail_err _ 1 (by decide))⟩
              rcases hadv with ha | ha
              · exact .inr (ha.fail (.inl rfl))
              · exact .inr (ha.fail 1 (.inl rfl))
          rw [if_neg hd] at e2
          have hd2 : ¬ (digB c || (c == 45)) = true := by rw [Bool.or_comm]; exact hd
          by_cases hlo : lowB c = true
          · rw [if_neg (by simp [hlo])] at e2
            by_cases hp : s.adv.token = [40]
            · rw [if_pos (by simp [hlo, hp])] at e1
              rcases hadv with ha | ha
              · have hh := (ha.tok (by simp)).1 hp
                rw [if_pos hh] at e2
                have e3 : s.adv.take [40] = s.adv.adv := by unfold RS.take; rw [if_pos hp]
                rw [e3] at e1
                rw [e1, e2]
                have h4 := ha.adv (by rw [hp]; simp)
                have h5 := (both_term d).terms (term_less numM d) (refTerm_le d) (term_stick numM d) (Doom.term d) [41] (by simp [badW]) _ _ h4
                refine ⟨h5.1, fun e => ?_⟩
                simp only at e ⊢
                rw [h5.2 (take_stick _ _ e).1]
              · exact absurd ha.2.1 (by rw [hp]; simp)
            · rw [if_neg (by simp [hp]), if_pos (by simp [hlo])] at e1
              rw [e1]
              rcases hadv with ha | ha
              · rw [if_neg fun e => hp ((ha.tok (by simp)).2 e)] at e2
                rw [e2]
                exact ⟨.inl ha, fun _ => rfl⟩
              · rw [e2]
                refine ⟨.inr ⟨ha.1, ha.2.1, ha.2.2.1, ?_⟩, fun e => by have := ha.1; simp only at e; omega⟩
                split
                · rename_i hh
                  exact Doom.terms (Doom.term d) [41] (by simp [badW]) _ (ha.2.2.2.has hh (by simp [badW]))
                · exact ha.2.2.2
          · have hlo' : lowB c = false := by simpa using hlo
            rw [if_pos hlo'] at e2
            rw [if_neg (by simp [hlo']), if_neg (by simp [hlo', e33]), if_neg hd2] at e1
            rw [e1, e2]
            refine ⟨?_, fun e => absurd e (fail_err _ 1 (by decide))⟩
            rcases hadv with ha | ha
            · exact .inr (ha.fail (.inl rfl))
            · exact .inr (ha.fail 1 (.inl rfl))
    · have e1 : termM numM (d + 1) s = (Nd.zero, s.fail 1) := by unfold termM; rw [if_pos h.2.1]
      rw [e1]
      exact ⟨.inr (h.fail 1 (Doom.term _ _ h.2.2.2)), fun e => absurd e (fail_err s 1 (by decide))⟩
end Go.Proofs.YtdiophafmokfiaaGreatDoor
