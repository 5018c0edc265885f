/-
  What is tidy is tidy, and it does not matter which numbers the variables had: of lists of terms, no program is named here.
-/
import Derived.Test.YtjicoifjgokoiaaTidyBy
import Derived.Test.YtjicoifjgokoiaaVisit
namespace Go.Proofs.Ytjicoifjgokoiaa

theorem Ts.shift_by (m : Int) (T : Ts) : T.shift m = T.by_ fun n => low n + low m := by
  induction T with
  | nil => rfl
  | cons k n s ar r iha ihr => rw [Ts.shift_cons, iha, ihr]; rfl

theorem Ts.vars_good {vars : Int} (T : Ts) : T.good vars = true → T.vars fun n => 0 ≤ n ∧ n < vars := by
  induction T with
  | nil => intro _; trivial
  | cons k n s ar r iha ihr =>
    intro h
    simp only [Ts.good, Bool.and_eq_true] at h
    refine ⟨fun e => ?_, iha h.1.2, ihr h.2⟩
    have h1 := h.1.1
    subst e
    simp [nodeB] at h1
    omega

/-- Where the numbers are small, it does not matter which the variables had. -/
theorem Ts.tidy_shift (T : Ts) (m : Int) (h : T.good 1048576 = true) : (T.shift m).tidy = T.tidy := by
  have := (Ts.tidyFrom_by (P := fun n => 0 ≤ n ∧ n < 1048576) (f := fun n => low n + low m) (fun a b ha hb e => by simp only [low] at e; omega) T [] (fun _ hk => by cases hk) (Ts.vars_good T h)).1
  rw [Ts.shift_by]
  have h2 := congrArg Prod.fst this
  exact h2

/-- The numbers from a on. -/
def upFrom (a : Nat) : Nat → List Int
  | 0 => []
  | l + 1 => (a : Int) :: upFrom (a + 1) l
theorem length_up : ∀ (l a : Nat), (upFrom a l).length = l
  | 0, _ => rfl
  | l + 1, a => by simp [upFrom, length_up l (a + 1)]
theorem up_snoc : ∀ (l a : Nat), upFrom a l ++ [((a + l : Nat) : Int)] = upFrom a (l + 1)
  | 0, a => rfl
  | l + 1, a => by
    have := up_snoc l (a + 1)
    rw [show a + 1 + l = a + (l + 1) by omega] at this
    rw [upFrom, List.cons_append, this]; rfl
theorem pos_up : ∀ (l a i : Nat), pos ((a + i : Nat) : Int) (upFrom a l) = if i < l then some i else none
  | 0, a, i => rfl
  | l + 1, a, 0 => by simp [upFrom, pos]
  | l + 1, a, i + 1 => by
    have := pos_up l (a + 1) i
    rw [show a + 1 + i = a + (i + 1) by omega] at this
    rw [upFrom, pos, if_neg (by omega), this]
    by_cases h : i < l
    · rw [if_pos h, if_pos (by omega)]; rfl
    · rw [if_neg h, if_neg (by omega)]; rfl
theorem pos_lt {n : Int} : ∀ {ks : List Int} {j : Nat}, pos n ks = some j → j < ks.length
  | [], _, h => by cases h
  | k :: r, j, h => by
    rw [pos] at h
    by_cases e : n = k
    · rw [if_pos e] at h; cases h; simp
    · rw [if_neg e] at h
      cases hp : pos n r with
      | none => rw [hp] at h; cases h
      | some i =>
        rw [hp] at h
        cases h
        have := pos_lt hp
        simp; omega

theorem num_up (ks : List Int) (n : Int) : numV (upFrom 0 ks.length) (numV ks n) = numV ks n ∧ numS (upFrom 0 ks.length) (numV ks n) = upFrom 0 (numS ks n).length := by
  cases hp : pos n ks with
  | none =>
    have e : numV ks n = ((0 + ks.length : Nat) : Int) := by simp [numV, hp]
    have e2 : numS ks n = ks ++ [n] := by simp [numS, hp]
    have hq := pos_up ks.length 0 ks.length
    rw [if_neg (by omega)] at hq
    rw [e, e2]
    constructor
    · rw [numV, hq, length_up]; simp
    · rw [numS, hq, List.length_append]
      simp only [Option.isSome_none, List.length_cons, List.length_nil]
      exact up_snoc ks.length 0
  | some j =>
    have e : numV ks n = ((0 + j : Nat) : Int) := by simp [numV, hp]
    have e2 : numS ks n = ks := by simp [numS, hp]
    have hq := pos_up ks.length 0 j
    rw [if_pos (pos_lt hp)] at hq
    rw [e, e2]
    constructor
    · rw [numV, hq]; simp
    · rw [numS, hq]; simp

theorem Ts.tidyFrom_twice (T : Ts) : ∀ ks : List Int, (T.tidyFrom ks).1.tidyFrom (upFrom 0 ks.length) = ((T.tidyFrom ks).1, upFrom 0 (T.tidyFrom ks).2.length) := by
  induction T with
  | nil => intro ks; rfl
  | cons k n s ar r iha ihr =>
    intro ks
    have hv : tV k (tV k n ks) (upFrom 0 ks.length) = tV k n ks ∧ tS k (tV k n ks) (upFrom 0 ks.length) = upFrom 0 (tS k n ks).length := by
      by_cases e : k = 0
      · simp only [tV, tS, e, if_true]; exact num_up ks n
      · simp only [tV, tS, e, if_false]; exact ⟨trivial, trivial⟩
    rw [Ts.tidyFrom_cons]
    simp only
    rw [Ts.tidyFrom_cons, hv.1, hv.2, iha]
    simp only
    rw [ihr]

/-- What is tidy is tidy. -/
theorem Ts.tidy_tidy (T : Ts) : T.tidy.tidy = T.tidy := by
  have h := congrArg Prod.fst (Ts.tidyFrom_twice T [])
  exact h
end Go.Proofs.Ytjicoifjgokoiaa
