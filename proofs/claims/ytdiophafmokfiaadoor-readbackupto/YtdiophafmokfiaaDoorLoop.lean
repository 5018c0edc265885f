/-
  Loops in the calculus of Walk: the slots that the round tells of, the slots that it only uses, and the rest of the frame as it was. No program is named here.
-/
import Derived.Test.YtdiophafmokfiaaDoorDraw
namespace Go.Proofs.YtdiophafmokfiaaDoor
open Go.RowKit
set_option linter.unusedSimpArgs false
set_option linter.unusedVariables false

def has : List Nat → Nat → Bool
  | [], _ => false
  | i :: r, j => Nat.beq i j || has r j
def keep (S : List Nat) : Env → Env
  | [] => []
  | (i, v) :: e => bif has S i then keep S e else (i, v) :: keep S e
def junkE (jv : Nat → Value) : List Nat → Env
  | [] => []
  | i :: r => (i, jv i) :: junkE jv r
theorem lk_keep {S : List Nat} {i : Nat} (h : has S i = false) : ∀ e : Env, lk (keep S e) i = lk e i
  | [] => rfl
  | (j, v) :: e => by
    unfold keep
    cases hj : has S j with
    | true =>
      have hne : Nat.beq j i = false := by
        cases hb : Nat.beq j i with
        | false => rfl
        | true => have := Nat.eq_of_beq_eq_true hb; subst this; rw [hj] at h; cases h
      simp only [cond_true, lk, hne, cond_false]
      exact lk_keep h e
    | false =>
      simp only [cond_false, lk]
      rw [lk_keep h e]
theorem lk_junk (jv : Nat → Value) (e : Env) (i : Nat) : ∀ J : List Nat, lk (junkE jv J ++ e) i = bif has J i then jv i else lk e i
  | [] => rfl
  | j :: J => by
    simp only [junkE, List.cons_append, lk, has]
    cases hb : Nat.beq j i with
    | true => have := Nat.eq_of_beq_eq_true hb; subst this; simp
    | false => simp only [cond_false, Bool.false_or]; exact lk_junk jv e i J
theorem act_congr {n : Nat} {e e' : Env} (h : ∀ i, lk e i = lk e' i) : act n e = act n e' := by
  unfold act arr
  rw [show lk e = lk e' from funext h]
/-- The frame at the loop's head, out of any frame that agrees with the first one outside S. -/
theorem act_round {n : Nat} {S : List Nat} {e e0 : Env} (h : keep S e = keep S e0) : act n e = act n (junkE (lk e) S ++ e0) := by
  refine act_congr fun i => ?_
  rw [lk_junk]
  cases hi : has S i with
  | true => rfl
  | false => rw [cond_false, ← lk_keep hi e, h, lk_keep hi e0]

section
variable {P : Program} {f : FuncId} {R : Ending → World → Prop} {k : List Item} {n : Nat} {e : Env} {w : World} {c : Code} {α : Type}
/-- A loop that tells of nothing but memory. -/
theorem goes_loop0 (J : List Nat) (I : α → World → Prop) (μ : α → Nat) (x : α) (h0 : I x w)
    (round : ∀ (x : α) (w : World) (jv : Nat → Value), I x w → (∀ (y : α) (e' : Env) (w' : World), μ y < μ x → I y w' → keep J e' = keep J e → Goes P f R (.inLoop c :: k) (act n e') w') →
      Goes P f R (.code c :: .inLoop c :: k) (act n (junkE jv J ++ e)) w) : Goes P f R (.code (.loop c) :: k) (act n e) w := by
  refine goes_loop (fun x a w => I x w ∧ ∃ jv, a = act n (junkE jv J ++ e)) μ ⟨h0, lk e, act_round rfl⟩ ?_
  rintro x a w ⟨hI, jv, rfl⟩ ih
  exact round x w jv hI fun y e' w' hy hI' hk => ih y _ w' hy ⟨hI', lk e', act_round hk⟩
theorem goes_loop1 (s : Nat) (J : List Nat) (I : α → Value → World → Prop) (μ : α → Nat) (x : α) {v : Value} (h0 : I x v w) (hv : lk e s = v)
    (round : ∀ (x : α) (v : Value) (w : World) (jv : Nat → Value), I x v w → (∀ (y : α) (v' : Value) (e' : Env) (w' : World), μ y < μ x → I y v' w' → lk e' s = v' → keep (s :: J) e' = keep (s :: J) e → Goes P f R (.inLoop c :: k) (act n e') w') →
      Goes P f R (.code c :: .inLoop c :: k) (act n ((s, v) :: (junkE jv J ++ e))) w) : Goes P f R (.code (.loop c) :: k) (act n e) w := by
  refine goes_loop (fun x a w => ∃ v, I x v w ∧ ∃ jv : Nat → Value, jv s = v ∧ a = act n (junkE jv (s :: J) ++ e)) μ ⟨v, h0, lk e, hv, act_round rfl⟩ ?_
  rintro x a w ⟨v, hI, jv, rfl, rfl⟩ ih
  exact round x _ w jv hI fun y v' e' w' hy hI' h1 hk => ih y _ w' hy ⟨v', hI', lk e', h1, act_round hk⟩
theorem goes_loop2 (s t : Nat) (J : List Nat) (I : α → Value → Value → World → Prop) (μ : α → Nat) (x : α) {v u : Value} (h0 : I x v u w) (hv : lk e s = v) (hu : lk e t = u)
    (round : ∀ (x : α) (v u : Value) (w : World) (jv : Nat → Value), I x v u w → (∀ (y : α) (v' u' : Value) (e' : Env) (w' : World), μ y < μ x → I y v' u' w' → lk e' s = v' → lk e' t = u' → keep (s :: t :: J) e' = keep (s :: t :: J) e → Goes P f R (.inLoop c :: k) (act n e') w') →
      Goes P f R (.code c :: .inLoop c :: k) (act n ((s, v) :: (t, u) :: (junkE jv J ++ e))) w) : Goes P f R (.code (.loop c) :: k) (act n e) w := by
  refine goes_loop (fun x a w => ∃ v u, I x v u w ∧ ∃ jv : Nat → Value, jv s = v ∧ jv t = u ∧ a = act n (junkE jv (s :: t :: J) ++ e)) μ ⟨v, u, h0, lk e, hv, hu, act_round rfl⟩ ?_
  rintro x a w ⟨v, u, hI, jv, rfl, rfl, rfl⟩ ih
  exact round x _ _ w jv hI fun y v' u' e' w' hy hI' h1 h2 hk => ih y _ w' hy ⟨v', u', hI', lk e', h1, h2, act_round hk⟩
theorem goes_loop3 (s t z : Nat) (J : List Nat) (I : α → Value → Value → Value → World → Prop) (μ : α → Nat) (x : α) {v u q : Value} (h0 : I x v u q w) (hv : lk e s = v) (hu : lk e t = u) (hq : lk e z = q)
    (round : ∀ (x : α) (v u q : Value) (w : World) (jv : Nat → Value), I x v u q w → (∀ (y : α) (v' u' q' : Value) (e' : Env) (w' : World), μ y < μ x → I y v' u' q' w' → lk e' s = v' → lk e' t = u' → lk e' z = q' → keep (s :: t :: z :: J) e' = keep (s :: t :: z :: J) e → Goes P f R (.inLoop c :: k) (act n e') w') →
      Goes P f R (.code c :: .inLoop c :: k) (act n ((s, v) :: (t, u) :: (z, q) :: (junkE jv J ++ e))) w) : Goes P f R (.code (.loop c) :: k) (act n e) w := by
  refine goes_loop (fun x a w => ∃ v u q, I x v u q w ∧ ∃ jv : Nat → Value, jv s = v ∧ jv t = u ∧ jv z = q ∧ a = act n (junkE jv (s :: t :: z :: J) ++ e)) μ ⟨v, u, q, h0, lk e, hv, hu, hq, act_round rfl⟩ ?_
  rintro x a w ⟨v, u, q, hI, jv, rfl, rfl, rfl, rfl⟩ ih
  exact round x _ _ _ w jv hI fun y v' u' q' e' w' hy hI' h1 h2 h3 hk => ih y _ w' hy ⟨v', u', q', hI', lk e', h1, h2, h3, act_round hk⟩
variable {M : List Nat} {w0 : World} {H : List (Nat × Obj)} {F : List (World → Prop)}
theorem goes_loopS0 (hS : St M w0 H F w) (J : List Nat) (I : α → Prop) (μ : α → Nat) (x : α)  (h0 : I x ) 
    (round : ∀ (x : α) (w : World) (jv : Nat → Value), I x  → St M w0 H F w → (∀ (y : α) (e' : Env) (w' : World), μ y < μ x → I y  → St M w0 H F w' → keep (J) e' = keep (J) e → Goes P f R (.inLoop c :: k) (act n e') w') →
      Goes P f R (.code c :: .inLoop c :: k) (act n ((junkE jv J ++ e))) w) : Goes P f R (.code (.loop c) :: k) (act n e) w := by
  refine goes_loop0  J (fun x  w => I x  ∧ St M w0 H F w) μ x ⟨h0, hS⟩  ?_
  rintro x  w jv ⟨hI, hS⟩ ih
  exact round x  w jv hI hS fun y  e' w' hy hI' hS' => ih y  e' w' hy ⟨hI', hS'⟩
theorem goes_loopS1 (hS : St M w0 H F w) (s : Nat) (J : List Nat) (I : α → Value → Prop) (μ : α → Nat) (x : α) {v : Value} (h0 : I x v) (hv0 : lk e s = v)
    (round : ∀ (x : α) (v : Value) (w : World) (jv : Nat → Value), I x v → St M w0 H F w → (∀ (y : α) (v' : Value) (e' : Env) (w' : World), μ y < μ x → I y v' → St M w0 H F w' → lk e' s = v' → keep (s :: J) e' = keep (s :: J) e → Goes P f R (.inLoop c :: k) (act n e') w') →
      Goes P f R (.code c :: .inLoop c :: k) (act n ((s, v) :: (junkE jv J ++ e))) w) : Goes P f R (.code (.loop c) :: k) (act n e) w := by
  refine goes_loop1 s J (fun x v w => I x v ∧ St M w0 H F w) μ x ⟨h0, hS⟩ hv0 ?_
  rintro x v w jv ⟨hI, hS⟩ ih
  exact round x v w jv hI hS fun y v' e' w' hy hI' hS' => ih y v' e' w' hy ⟨hI', hS'⟩
theorem goes_loopS2 (hS : St M w0 H F w) (s t : Nat) (J : List Nat) (I : α → Value → Value → Prop) (μ : α → Nat) (x : α) {v u : Value} (h0 : I x v u) (hv0 : lk e s = v) (hu0 : lk e t = u)
    (round : ∀ (x : α) (v u : Value) (w : World) (jv : Nat → Value), I x v u → St M w0 H F w → (∀ (y : α) (v' u' : Value) (e' : Env) (w' : World), μ y < μ x → I y v' u' → St M w0 H F w' → lk e' s = v' → lk e' t = u' → keep (s :: t :: J) e' = keep (s :: t :: J) e → Goes P f R (.inLoop c :: k) (act n e') w') →
      Goes P f R (.code c :: .inLoop c :: k) (act n ((s, v) :: (t, u) :: (junkE jv J ++ e))) w) : Goes P f R (.code (.loop c) :: k) (act n e) w := by
  refine goes_loop2 s t J (fun x v u w => I x v u ∧ St M w0 H F w) μ x ⟨h0, hS⟩ hv0 hu0 ?_
  rintro x v u w jv ⟨hI, hS⟩ ih
  exact round x v u w jv hI hS fun y v' u' e' w' hy hI' hS' => ih y v' u' e' w' hy ⟨hI', hS'⟩
theorem goes_loopS3 (hS : St M w0 H F w) (s t z : Nat) (J : List Nat) (I : α → Value → Value → Value → Prop) (μ : α → Nat) (x : α) {v u q : Value} (h0 : I x v u q) (hv0 : lk e s = v) (hu0 : lk e t = u) (hq0 : lk e z = q)
    (round : ∀ (x : α) (v u q : Value) (w : World) (jv : Nat → Value), I x v u q → St M w0 H F w → (∀ (y : α) (v' u' q' : Value) (e' : Env) (w' : World), μ y < μ x → I y v' u' q' → St M w0 H F w' → lk e' s = v' → lk e' t = u' → lk e' z = q' → keep (s :: t :: z :: J) e' = keep (s :: t :: z :: J) e → Goes P f R (.inLoop c :: k) (act n e') w') →
      Goes P f R (.code c :: .inLoop c :: k) (act n ((s, v) :: (t, u) :: (z, q) :: (junkE jv J ++ e))) w) : Goes P f R (.code (.loop c) :: k) (act n e) w := by
  refine goes_loop3 s t z J (fun x v u q w => I x v u q ∧ St M w0 H F w) μ x ⟨h0, hS⟩ hv0 hu0 hq0 ?_
  rintro x v u q w jv ⟨hI, hS⟩ ih
  exact round x v u q w jv hI hS fun y v' u' q' e' w' hy hI' hS' => ih y v' u' q' e' w' hy ⟨hI', hS'⟩
/-- The ways meet again behind one or two steps; the slots of J may hold whatever. -/
theorem goes_join {k todo : List Item} (J : List Nat) (Φ : World → Prop) (h : (∀ (e' : Env) (w' : World), Φ w' → keep J e' = keep J e → Goes P f R k (act n e') w') → Goes P f R todo (act n e) w)
    (h2 : ∀ (jv : Nat → Value) (w' : World), Φ w' → Goes P f R k (act n (junkE jv J ++ e)) w') : Goes P f R todo (act n e) w :=
  h fun e' w' hΦ hk => by rw [act_round hk]; exact h2 _ w' hΦ
theorem goes_join1 {M : List Nat} {w0 : World} {H : List (Nat × Obj)} {F : List (World → Prop)} {c1 : Item} (hS : St M w0 H F w) (J : List Nat)
    (h : (∀ (e' : Env) (w' : World), St M w0 H F w' → keep J e' = keep J e → Goes P f R k (act n e') w') → Goes P f R (c1 :: k) (act n e) w)
    (h2 : ∀ (jv : Nat → Value) (w' : World), St M w0 H F w' → Goes P f R k (act n (junkE jv J ++ e)) w') : Goes P f R (c1 :: k) (act n e) w := goes_join J _ h h2
theorem goes_join2 {M : List Nat} {w0 : World} {H : List (Nat × Obj)} {F : List (World → Prop)} {c1 c2 : Item} (hS : St M w0 H F w) (J : List Nat)
    (h : (∀ (e' : Env) (w' : World), St M w0 H F w' → keep J e' = keep J e → Goes P f R k (act n e') w') → Goes P f R (c1 :: c2 :: k) (act n e) w)
    (h2 : ∀ (jv : Nat → Value) (w' : World), St M w0 H F w' → Goes P f R k (act n (junkE jv J ++ e)) w') : Goes P f R (c1 :: c2 :: k) (act n e) w := goes_join J _ h h2
theorem goes_join3 {M : List Nat} {w0 : World} {H : List (Nat × Obj)} {F : List (World → Prop)} {c1 c2 c3 : Item} (hS : St M w0 H F w) (J : List Nat)
    (h : (∀ (e' : Env) (w' : World), St M w0 H F w' → keep J e' = keep J e → Goes P f R k (act n e') w') → Goes P f R (c1 :: c2 :: c3 :: k) (act n e) w)
    (h2 : ∀ (jv : Nat → Value) (w' : World), St M w0 H F w' → Goes P f R k (act n (junkE jv J ++ e)) w') : Goes P f R (c1 :: c2 :: c3 :: k) (act n e) w := goes_join J _ h h2
theorem goes_joinP1 {c1 : Item} (J : List Nat) (Φ : World → Prop)
    (h : (∀ (e' : Env) (w' : World), Φ w' → keep J e' = keep J e → Goes P f R k (act n e') w') → Goes P f R (c1 :: k) (act n e) w)
    (h2 : ∀ (jv : Nat → Value) (w' : World), Φ w' → Goes P f R k (act n (junkE jv J ++ e)) w') : Goes P f R (c1 :: k) (act n e) w := goes_join J _ h h2
theorem goes_joinP2 {c1 c2 : Item} (J : List Nat) (Φ : World → Prop)
    (h : (∀ (e' : Env) (w' : World), Φ w' → keep J e' = keep J e → Goes P f R k (act n e') w') → Goes P f R (c1 :: c2 :: k) (act n e) w)
    (h2 : ∀ (jv : Nat → Value) (w' : World), Φ w' → Goes P f R k (act n (junkE jv J ++ e)) w') : Goes P f R (c1 :: c2 :: k) (act n e) w := goes_join J _ h h2
end
end Go.Proofs.YtdiophafmokfiaaDoor
