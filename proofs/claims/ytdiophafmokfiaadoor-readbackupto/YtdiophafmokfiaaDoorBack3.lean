/-
  What is printed of a good query in order is read as it. No program is named here.
-/
import Derived.Test.YtdiophafmokfiaaDoorBack2
namespace Go.Proofs.YtdiophafmokfiaaDoor
open Go.RowKit Go.Shelf
set_option linter.unusedVariables false
set_option linter.unusedSimpArgs false
set_option maxRecDepth 100000

theorem goals_good (v : Int) : ∀ T : Ts, T.goals v = true → T.good v = true ∧ T.nodes ≤ 24 * T.length ∧ T.dep ≤ 24
  | .nil, _ => ⟨rfl, Nat.le_refl _, by decide⟩
  | .cons k n s a r, h => by
    simp only [Ts.goals, gB, Bool.and_eq_true, decide_eq_true_eq] at h
    obtain ⟨⟨⟨h1, h2⟩, h3⟩, h4⟩ := h
    have ih := goals_good v r h4
    have hd := a.dep_le
    simp only [Ts.good, Bool.and_eq_true] at h2
    refine ⟨by simp only [Ts.good, h2.1.1, h2.1.2, ih.1, Bool.and_self], ?_, ?_⟩
    · simp only [Ts.nodes, Ts.length]; omega
    · simp only [Ts.dep]; omega
theorem goals_cnt (v : Int) : ∀ (T : Ts) (c u : Nat), T.goals v = true → T.inOrder c → T.cnt c ≤ u → T.goals u = true
  | .nil, _, _, _, _, _ => rfl
  | .cons k n s a r, c, u, h, ho, hu => by
    simp only [Ts.goals, gB, Bool.and_eq_true, decide_eq_true_eq] at h ⊢
    obtain ⟨⟨⟨h1, h2⟩, h3⟩, h4⟩ := h
    simp only [Ts.cnt] at hu
    have hr := Ts.cnt_ge r (a.cnt (cnt1 k n c))
    exact ⟨⟨⟨h1, Ts.good_cnt v (.cons k n s a .nil) c u h2 ⟨ho.1, ho.2.1, trivial⟩ (by simp only [Ts.cnt]; omega)⟩, h3⟩, goals_cnt v r _ u h4 ho.2.2 hu⟩
theorem q_parts {v : Int} {T : Ts} (h : qB v T = true) : 0 ≤ v ∧ v ≤ 8 ∧ T.length ≤ 5 ∧ T.goals v = true := by
  simp only [qB, Bool.and_eq_true, decide_eq_true_eq] at h
  exact ⟨h.1.1.1, h.1.1.2, h.1.2, h.2⟩
theorem q_le {T : Ts} (ho : T.inOrder 0) {u : Nat} (h : qB u T = true) : T.cnt 0 ≤ u :=
  Ts.cnt_le u T 0 (goals_good _ T (q_parts h).2.2.2).1 ho (Nat.zero_le _)
theorem q_cnt {T : Ts} (ho : T.inOrder 0) {u : Nat} (h : qB u T = true) : qB (T.cnt 0 : Nat) T = true := by
  have h1 := q_le ho h
  obtain ⟨_, h2, h3, h4⟩ := q_parts h
  have h5 := goals_cnt _ T 0 _ h4 ho (Nat.le_refl _)
  simp only [qB, Bool.and_eq_true, decide_eq_true_eq]
  exact ⟨⟨⟨by omega, by omega⟩, h3⟩, h5⟩
theorem query_back {T : Ts} (ho : T.inOrder 0) (hl : 0 < T.length) {u : Nat} (h : qB u T = true) : queryM numM (outM false T ++ [46]) = (T, T.cnt 0, 0) ∧ (outM false T ++ [46]).length ≤ 2000 := by
  have hq := q_cnt ho h
  obtain ⟨_, hu, h5, hg⟩ := q_parts h
  obtain ⟨g1, g2, g3⟩ := goals_good _ T hg
  have hlen : (outM false T ++ [46]).length ≤ 2000 := by
    have := out_len (v := u) (by omega) T false g1
    simp; omega
  refine ⟨?_, hlen⟩
  obtain ⟨L, hL, ht⟩ := (list_back u (by omega) T 24 g1 g3).terms hl 0 [46] (Nat.zero_le _) ho ⟨46, [], rfl, .inr rfl⟩
  have hst : RS.start (outM false T ++ [46]) = atM (outM false T ++ [46]) (letters 0) := by
    unfold RS.start
    rw [if_neg (by omega)]
    rfl
  have e2 : RS.take (atM [46] (letters (T.cnt 0))) [46] = ⟨[], [], letters (T.cnt 0), 0⟩ := by
    rw [at_sign _ _ (by simp)]
    unfold RS.take
    rw [if_pos rfl, adv_at]
    rfl
  unfold queryM
  simp only [rd] at ht
  simp only [hst, ht, e2, hL, letters_len, true_and, hq, if_true, and_self]
theorem out_app : ∀ (D R : Ts) (c : Bool), outM c (D.app R) = outM c D ++ outM (c || decide (0 < D.length)) R
  | .nil, R, c => by simp [Ts.app, outM, Ts.length]
  | .cons k n s a r, R, c => by
    have := out_app r R true
    simp only [Ts.app, out_cons, this]
    simp [Ts.length]
theorem good_rng {v : Nat} (hv : v ≤ 8) : ∀ T : Ts, T.good v = true → rng T
  | .nil, _ => trivial
  | .cons k n s a r, h => by
    simp only [Ts.good, Bool.and_eq_true] at h
    refine ⟨?_, good_rng hv a h.1.2, good_rng hv r h.2⟩
    have := h.1.1
    unfold nodeB at this
    split at this
    · simp only [Bool.and_eq_true, decide_eq_true_eq] at this; omega
    split at this
    · simp only [Bool.and_eq_true, decide_eq_true_eq] at this; omega
    split at this
    · simp only [Bool.and_eq_true, decide_eq_true_eq] at this; omega
    split at this
    · simp only [Bool.and_eq_true, decide_eq_true_eq] at this; omega
    · cases this
theorem Ts.tidy_inOrder (T : Ts) : T.tidy.inOrder 0 := (Ts.tidy_order T []).1
end Go.Proofs.YtdiophafmokfiaaDoor
