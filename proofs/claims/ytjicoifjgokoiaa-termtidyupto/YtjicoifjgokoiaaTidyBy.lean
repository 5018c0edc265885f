/-
  It does not matter which numbers the variables of a list of terms had: no program is named here.
-/
import Derived.Test.YtjicoifjgokoiaaTurns
namespace Go.Proofs.Ytjicoifjgokoiaa

/-- Each variable's number is one of P's. -/
def Ts.vars (P : Int → Prop) : Ts → Prop
  | .nil => True
  | .cons k n _ ar r => (k = 0 → P n) ∧ ar.vars P ∧ r.vars P
/-- Each variable's number, by f. -/
def Ts.by_ (f : Int → Int) : Ts → Ts
  | .nil => .nil
  | .cons k n s ar r => .cons k (if k = 0 then f n else n) s (ar.by_ f) (r.by_ f)
theorem pos_by {P : Int → Prop} {f : Int → Int} (hf : ∀ a b, P a → P b → f a = f b → a = b) {n : Int} (hn : P n) : ∀ ks : List Int, (∀ k ∈ ks, P k) → pos (f n) (ks.map f) = pos n ks
  | [], _ => rfl
  | k :: r, h => by
    simp only [List.map_cons, pos]
    rw [pos_by hf hn r fun x hx => h x (List.mem_cons_of_mem _ hx)]
    by_cases e : n = k
    · rw [if_pos e, if_pos (by rw [e])]
    · rw [if_neg e, if_neg fun e2 => e (hf n k hn (h k (List.mem_cons_self ..)) e2)]
theorem numS_mem {P : Int → Prop} {n : Int} {ks : List Int} (hn : P n) (h : ∀ k ∈ ks, P k) : ∀ k ∈ numS ks n, P k := by
  intro k hk
  unfold numS at hk
  split at hk
  · exact h k hk
  · rcases List.mem_append.1 hk with h1 | h1
    · exact h k h1
    · rw [List.mem_singleton.1 h1]; exact hn

theorem Ts.tidyFrom_by {P : Int → Prop} {f : Int → Int} (hf : ∀ a b, P a → P b → f a = f b → a = b) (T : Ts) : ∀ ks : List Int, (∀ k ∈ ks, P k) → T.vars P →
    (T.by_ f).tidyFrom (ks.map f) = ((T.tidyFrom ks).1, (T.tidyFrom ks).2.map f) ∧ ∀ k ∈ (T.tidyFrom ks).2, P k := by
  induction T with
  | nil => intro ks h _; exact ⟨rfl, h⟩
  | cons k n s ar r iha ihr =>
    intro ks h ⟨h0, ha, hr⟩
    have hv : tV k (if k = 0 then f n else n) (ks.map f) = tV k n ks ∧ tS k (if k = 0 then f n else n) (ks.map f) = (tS k n ks).map f ∧ ∀ x ∈ tS k n ks, P x := by
      by_cases e : k = 0
      · have hn := h0 e
        simp only [tV, tS, e, if_true, numV, numS, pos_by hf hn ks h, List.length_map]
        refine ⟨trivial, ?_, ?_⟩
        · split <;> simp
        · have := numS_mem hn h
          unfold numS at this
          exact this
      · simp only [tV, tS, e, if_false]
        exact ⟨trivial, trivial, h⟩
    obtain ⟨i1, i2⟩ := iha _ hv.2.2 ha
    obtain ⟨j1, j2⟩ := ihr _ i2 hr
    refine ⟨?_, j2⟩
    rw [Ts.by_, Ts.tidyFrom_cons, hv.1, hv.2.1, i1, Ts.tidyFrom_cons, j1]

end Go.Proofs.Ytjicoifjgokoiaa
