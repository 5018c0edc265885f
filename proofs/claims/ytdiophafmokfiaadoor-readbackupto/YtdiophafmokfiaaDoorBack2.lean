/-
  What is printed of good terms is read as them: terms, lists of terms, a query. No program is named here.
-/
import Derived.Test.YtdiophafmokfiaaDoorBack
namespace Go.Proofs.YtdiophafmokfiaaDoor
open Go.RowKit Go.Shelf
set_option linter.unusedVariables false
set_option linter.unusedSimpArgs false
set_option maxRecDepth 100000

def Ts.dep : Ts → Nat
  | .nil => 0
  | .cons _ _ _ a r => max (a.dep + 1) r.dep
theorem Ts.dep_le : ∀ T : Ts, T.dep ≤ T.nodes
  | .nil => Nat.le_refl _
  | .cons _ _ _ a r => by
    have h1 := Ts.dep_le a
    have h2 := Ts.dep_le r
    simp only [Ts.dep, Ts.nodes]; omega
theorem Ts.cnt_le (v : Nat) : ∀ (T : Ts) (c : Nat), T.good v = true → T.inOrder c → c ≤ v → T.cnt c ≤ v
  | .nil, c, _, _, h => h
  | .cons k n s a r, c, hg, ho, h => by
    simp only [Ts.good, Bool.and_eq_true] at hg
    have h1 : cnt1 k n c ≤ v := by
      unfold cnt1
      split
      · rename_i hk
        obtain ⟨rfl, rfl⟩ := hk
        have := hg.1.1
        simp [nodeB] at this
        omega
      · exact h
    exact Ts.cnt_le v r _ hg.2 ho.2.2 (Ts.cnt_le v a _ hg.1.2 ho.2.1 h1)
theorem cnt1_ge (k n : Int) (c : Nat) : c ≤ cnt1 k n c := by unfold cnt1; split <;> omega
theorem Ts.cnt_ge : ∀ (T : Ts) (c : Nat), c ≤ T.cnt c
  | .nil, c => Nat.le_refl _
  | .cons k n s a r, c => by
    have h1 := cnt1_ge k n c
    have h2 := Ts.cnt_ge a (cnt1 k n c)
    have h3 := Ts.cnt_ge r (a.cnt (cnt1 k n c))
    simp only [Ts.cnt]; omega
theorem node_less {v u k n : Int} {s : ByteArray} {l : Nat} (h : nodeB v k n s l = true) (hk : k = 0 → n < u) : nodeB u k n s l = true := by
  unfold nodeB at h ⊢
  split
  · rename_i e
    rw [if_pos e] at h
    simp only [Bool.and_eq_true, decide_eq_true_eq] at h ⊢
    exact ⟨⟨⟨h.1.1.1, hk e⟩, h.1.2⟩, h.2⟩
  · rename_i e
    rw [if_neg e] at h
    exact h
/-- As many variables as there are suffice. -/
theorem Ts.good_cnt (v : Int) : ∀ (T : Ts) (c u : Nat), T.good v = true → T.inOrder c → T.cnt c ≤ u → T.good u = true
  | .nil, c, u, _, _, _ => rfl
  | .cons k n s a r, c, u, hg, ho, hu => by
    simp only [Ts.good, Bool.and_eq_true] at hg ⊢
    simp only [Ts.cnt] at hu
    have h2 := Ts.cnt_ge a (cnt1 k n c)
    have h3 := Ts.cnt_ge r (a.cnt (cnt1 k n c))
    refine ⟨⟨node_less hg.1.1 fun hk => ?_, Ts.good_cnt v a _ u hg.1.2 ho.2.1 (by omega)⟩, Ts.good_cnt v r _ u hg.2 ho.2.2 hu⟩
    have h4 := ho.1 hk
    have h5 : n < (cnt1 k n c : Nat) := by
      unfold cnt1
      split
      · omega
      · rename_i h; have : n ≠ c := fun e => h ⟨hk, e⟩; omega
    omega

/-- The text of one term. -/
def textM (k n : Int) (s : Str) (a : Ts) : Str := labelM k n s ++ if opens k a then 40 :: (outM false a ++ [41]) else []
theorem out_cons (c : Bool) (k n : Int) (s : ByteArray) (a r : Ts) : outM c (.cons k n s a r) = (if c then [44] else []) ++ (textM k n s.data.toList a ++ outM true r) := by
  simp [outM, textM]
/-- What may stand behind a list of terms. -/
def Shut (X : Str) : Prop := ∃ c r, X = c :: r ∧ (c = 41 ∨ c = 46)
theorem Shut.stop {X : Str} (h : Shut X) (T : Ts) : Stop (outM true T ++ X) := by
  obtain ⟨c, r, rfl, h⟩ := h
  cases T with
  | nil => exact ⟨c, r, rfl, by rcases h with rfl | rfl <;> simp⟩
  | cons k n s a r' =>
    rw [out_cons]
    exact ⟨44, _, rfl, by simp⟩
theorem Shut.at {X : Str} (h : Shut X) (vs : List Str) : ∃ c r, X = c :: r ∧ (c = 41 ∨ c = 46) ∧ atM X vs = ⟨[c], r, vs, 0⟩ := by
  obtain ⟨c, r, rfl, h⟩ := h
  exact ⟨c, r, rfl, h, at_sign r vs (by rcases h with rfl | rfl <;> simp)⟩
abbrev rd (d : Nat) : RS → Nd × RS := termM numM d
structure OneBack (v d : Nat) (k n : Int) (s : ByteArray) (a : Ts) : Prop where
  back : ∀ (c : Nat) (X : Str), c ≤ v → (k = 0 → 0 ≤ n ∧ n ≤ c) → a.inOrder (cnt1 k n c) → Stop X → (∀ r, X ≠ 40 :: r) →
    rd d (atM (textM k n s.data.toList a ++ X) (letters c)) = (⟨k, n, s.data.toList, a⟩, atM X (letters (a.cnt (cnt1 k n c))))
structure ListBack (v d : Nat) (T : Ts) : Prop where
  loop : ∀ (c fuel : Nat) (X : Str), c ≤ v → T.inOrder c → Shut X → T.length ≤ fuel →
    ∃ L, tsOf L = T ∧ loopM (rd d) fuel (atM (outM true T ++ X) (letters c)) = (L, atM X (letters (T.cnt c)))
  terms : 0 < T.length → ∀ (c : Nat) (X : Str), c ≤ v → T.inOrder c → Shut X →
    ∃ L, tsOf L = T ∧ termsM (rd d) (atM (outM false T ++ X) (letters c)) = (L, atM X (letters (T.cnt c)))
theorem bytes_eq (s : ByteArray) : (⟨s.data.toList.toArray⟩ : ByteArray) = s := by simp
theorem str_nil {s : ByteArray} (h : s.toList = []) : s.data.toList = [] := by rwa [ByteArray.toList_eq] at h
theorem name_low {s : ByteArray} (h : nameB s = true) : s.data.toList = [33] ∨ ∃ c r, s.data.toList = c :: r ∧ ∀ x ∈ s.data.toList, lowB x = true := by
  simp only [nameB, Bool.or_eq_true, Bool.and_eq_true, decide_eq_true_eq] at h
  rcases h with h | ⟨⟨h1, h2⟩, h3⟩
  · exact .inl h
  · right
    have hlow : ∀ x ∈ s.data.toList, lowB x = true := fun x hx => by
      have := List.all_eq_true.1 h3 x hx
      simp [lowerB] at this
      simp [lowB]; omega
    cases hl : s.data.toList with
    | nil =>
      have : s.size = 0 := by show s.data.size = 0; rw [← Array.length_toList, hl]; rfl
      omega
    | cons c r => rw [hl] at hlow; exact ⟨c, r, rfl, hlow⟩
theorem one_back (v d : Nat) (hv : v ≤ 8) (k n : Int) (s : ByteArray) (a : Ts) (hg : nodeB v k n s a.length = true) (ha : 0 < a.length → ListBack v d a) : OneBack v (d + 1) k n s a := by
  refine ⟨fun c X hc hk ho hX hX40 => ?_⟩
  unfold nodeB at hg
  by_cases h0 : k = 0
  · rw [if_pos h0] at hg
    simp only [Bool.and_eq_true, decide_eq_true_eq] at hg
    obtain ⟨⟨⟨g1, g2⟩, g3⟩, g4⟩ := hg
    subst h0
    obtain rfl : a = .nil := by cases a with | nil => rfl | cons _ _ _ _ _ => simp [Ts.length] at g4
    have g3 := str_nil g3
    obtain ⟨m, rfl⟩ : ∃ m : Nat, n = m := ⟨n.toNat, by omega⟩
    have hm : m ≤ c := by have := (hk rfl).2; omega
    obtain ⟨u, hu, hup, hwh⟩ := letter_up ⟨m, by omega⟩
    simp only at hu
    have e1 : textM 0 m s.data.toList .nil = [u] := by simp [textM, labelM, opens, goalB, hu]
    rw [e1, at_up hup hwh hX, rd, termM_cons numM d (c := u) (r := []) rfl, if_pos hup, adv_at, ← hu]
    rw [var_back (atM X (letters c)) c m (by unfold atM; exact adv_vars _) (by omega) hm]
    simp only [g3, Ts.cnt, cnt1]
    have : ∀ vs vs' : List Str, { atM X vs with vars := vs' } = atM X vs' := by
      intro vs vs'
      unfold atM RS.adv RS.fail
      simp only
      split <;> rfl
    rw [this]
    by_cases e2 : m = c
    · subst e2; simp
    · rw [if_neg e2, if_neg (by omega)]
  rw [if_neg h0] at hg
  have hc1 : cnt1 k n c = c := by simp [cnt1, h0]
  by_cases h1 : k = 1
  · rw [if_pos h1] at hg
    simp only [Bool.and_eq_true, decide_eq_true_eq] at hg
    obtain ⟨⟨rfl, g2⟩, g4⟩ := hg
    subst h1
    obtain rfl : a = .nil := by cases a with | nil => rfl | cons _ _ _ _ _ => simp [Ts.length] at g4
    have e1 : textM 1 0 s.data.toList .nil = s.data.toList := by simp [textM, labelM, opens, Ts.length]
    rw [e1, hc1]
    rcases name_low g2 with h | ⟨x, r, hx, hl⟩
    · rw [h]
      have := at_sign (c := 33) X (letters c) (by simp)
      rw [List.singleton_append, this, rd, termM_cons numM d (c := 33) (r := []) rfl]
      rfl
    · have hlx := hl x (by rw [hx]; exact .head _)
      rw [at_name hx hl hX, rd, termM_cons numM d (c := x) (r := r) hx, adv_at, (low_up hlx).2, hlx]
      have : (atM X (letters c)).token ≠ [40] := by
        obtain ⟨y, q, rfl, hy⟩ := hX
        have hy' : y ≠ 40 := fun e => hX40 q (by rw [e])
        rw [at_sign q _ (by rcases hy with rfl | rfl | rfl | rfl <;> simp)]
        simpa using hy'
      simp [this, hx, Ts.cnt]
  rw [if_neg h1] at hg
  by_cases h2 : k = 2
  · rw [if_pos h2] at hg
    simp only [Bool.and_eq_true, decide_eq_true_eq] at hg
    obtain ⟨⟨⟨g1, g2⟩, g3⟩, g4⟩ := hg
    subst h2
    obtain rfl : a = .nil := by cases a with | nil => rfl | cons _ _ _ _ _ => simp [Ts.length] at g4
    have g3 := str_nil g3
    have e1 : textM 2 n s.data.toList .nil = Lib.itoa n := by simp [textM, labelM, opens, goalB]
    obtain ⟨x, r, hx, p1, p2, p3, p4, p5⟩ := at_num n (vs := letters c) hX
    rw [e1, hc1, p5, rd, termM_cons numM d (c := x) (r := r) hx, adv_at, p1, p2, p3, p4]
    have hnum : RS.number numM (atM X (letters c)) (x :: r) = (n, atM X (letters c)) := by
      unfold RS.number
      rw [← hx, numM_itoa n g1 g2]
    simp [hnum, g3, Ts.cnt]
  rw [if_neg h2] at hg
  by_cases h3 : k = 3
  · rw [if_pos h3] at hg
    simp only [Bool.and_eq_true, decide_eq_true_eq] at hg
    obtain ⟨⟨⟨⟨rfl, g2⟩, g3⟩, g4⟩, g5⟩ := hg
    subst h3
    rcases name_low g2 with h | ⟨x, r, hx, hl⟩
    · rw [ByteArray.toList_eq] at g3; exact absurd h g3
    have hop : opens 3 a = true := by simp [opens, goalB]; omega
    have hlx := hl x (by rw [hx]; exact .head _)
    have e1 : textM 3 0 s.data.toList a ++ X = s.data.toList ++ (40 :: (outM false a ++ (41 :: X))) := by simp [textM, labelM, hop]
    rw [hc1] at ho ⊢
    obtain ⟨L, hL, ht⟩ := (ha (by omega)).terms (by omega) c (41 :: X) hc ho ⟨41, X, rfl, by simp⟩
    rw [e1, at_name hx hl ⟨40, _, rfl, by simp⟩, rd, termM_cons numM d (c := x) (r := r) hx, adv_at, at_sign _ _ (by simp), (low_up hlx).2, hlx]
    have htk : RS.take ⟨[40], outM false a ++ 41 :: X, letters c, 0⟩ [40] = atM (outM false a ++ 41 :: X) (letters c) := by
      unfold RS.take
      rw [if_pos rfl, adv_at]
    have htk2 : RS.take (atM (41 :: X) (letters (a.cnt c))) [41] = atM X (letters (a.cnt c)) := by
      rw [at_sign _ _ (by simp)]
      unfold RS.take
      rw [if_pos rfl, adv_at]
    simp only [Bool.false_eq_true, if_false, Bool.true_and, beq_self_eq_true, if_true, htk]
    rw [ht]
    simp only [htk2, hL, hx]
  · rw [if_neg h3] at hg; cases hg
theorem stop_not40 {X : Str} (h : Shut X) (T : Ts) : ∀ r, outM true T ++ X ≠ 40 :: r := by
  obtain ⟨c, r, rfl, h⟩ := h
  intro q e
  cases T with
  | nil =>
    have : c = 40 := by simp [outM] at e; exact e.1
    subst this
    rcases h with h | h <;> cases h
  | cons k n s a r' => rw [out_cons] at e; simp at e
theorem left_at {X : Str} (h : Stop X) (vs : List Str) : (atM X vs).left = X.length := by
  obtain ⟨c, r, rfl, h⟩ := h
  rw [at_sign r vs (by rcases h with rfl | rfl | rfl | rfl <;> simp)]
  simp [RS.left]; omega
theorem len_out : ∀ T : Ts, T.length ≤ (outM true T).length
  | .nil => Nat.le_refl _
  | .cons k n s a r => by
    have := len_out r
    rw [out_cons]
    simp [Ts.length]; omega
theorem list_back (v : Nat) (hv : v ≤ 8) : ∀ (T : Ts) (d : Nat), T.good v = true → T.dep ≤ d → ListBack v d T
  | .nil, d, _, _ => by
    refine ⟨fun c fuel X hc ho hX hf => ⟨[], rfl, ?_⟩, fun h => by simp [Ts.length] at h⟩
    obtain ⟨x, r, rfl, hx, he⟩ := hX.at (letters c)
    simp only [outM, List.nil_append, Ts.cnt]
    rw [he]
    cases fuel with
    | zero => rfl
    | succ f =>
      unfold loopM
      rw [if_neg (by rcases hx with rfl | rfl <;> simp)]
  | .cons k n s a r, d, hg, hd => by
    simp only [Ts.good, Bool.and_eq_true] at hg
    simp only [Ts.dep] at hd
    obtain ⟨e, rfl⟩ : ∃ e, d = e + 1 := ⟨d - 1, by omega⟩
    have hone := one_back v e hv k n s a hg.1.1 fun _ => list_back v hv a e hg.1.2 (by omega)
    have hrest := list_back v hv r (e + 1) hg.2 (by omega)
    have hcc : ∀ c, c ≤ v → Ts.inOrder (.cons k n s a r) c → a.cnt (cnt1 k n c) ≤ v := by
      intro c hc ho
      have := Ts.cnt_le v (.cons k n s a .nil) c (by simp [Ts.good, hg.1]) ⟨ho.1, ho.2.1, trivial⟩ hc
      exact this
    refine ⟨fun c fuel X hc ho hX hf => ?_, fun _ c X hc ho hX => ?_⟩
    · obtain ⟨f, rfl⟩ : ∃ f, fuel = f + 1 := ⟨fuel - 1, by simp [Ts.length] at hf; omega⟩
      obtain ⟨L, hL, hl⟩ := hrest.loop (a.cnt (cnt1 k n c)) f X (hcc c hc ho) ho.2.2 hX (by simp [Ts.length] at hf; omega)
      refine ⟨⟨k, n, s.data.toList, a⟩ :: L, by simp only [tsOf, hL, bytes_eq], ?_⟩
      have e1 : outM true (.cons k n s a r) ++ X = 44 :: (textM k n s.data.toList a ++ (outM true r ++ X)) := by rw [out_cons]; simp
      rw [e1, at_sign _ _ (by simp)]
      unfold loopM
      rw [if_pos rfl]
      simp only [adv_at]
      rw [hone.back c _ hc ho.1 ho.2.1 (hX.stop r) (stop_not40 hX r)]
      simp only [hl, Ts.cnt]
    · have hlen : r.length ≤ (atM (outM true r ++ X) (letters (a.cnt (cnt1 k n c)))).left := by
        rw [left_at (hX.stop r)]
        have := len_out r
        simp; omega
      obtain ⟨L, hL, hl⟩ := hrest.loop (a.cnt (cnt1 k n c)) _ X (hcc c hc ho) ho.2.2 hX hlen
      refine ⟨⟨k, n, s.data.toList, a⟩ :: L, by simp only [tsOf, hL, bytes_eq], ?_⟩
      have e1 : outM false (.cons k n s a r) ++ X = textM k n s.data.toList a ++ (outM true r ++ X) := by rw [out_cons]; simp
      rw [e1]
      unfold termsM
      simp only
      rw [hone.back c _ hc ho.1 ho.2.1 (hX.stop r) (stop_not40 hX r)]
      simp only [hl, Ts.cnt]
theorem label_len {v : Nat} (hv : v ≤ 8) {k n : Int} {s : ByteArray} {l : Nat} (h : nodeB v k n s l = true) : (labelM k n s.data.toList).length + (if k = 3 then 6 else 0) ≤ 14 := by
  unfold nodeB at h
  have hname : nameB s = true → s.data.toList.length ≤ 8 := by
    intro h
    simp only [nameB, Bool.or_eq_true, Bool.and_eq_true, decide_eq_true_eq] at h
    rcases h with h | h
    · rw [h]; decide
    · have := h.1.2; rw [Array.length_toList]; exact this
  unfold labelM
  split at h
  · rename_i h0
    subst h0
    simp only [Bool.and_eq_true, decide_eq_true_eq] at h
    have : (letterM n).length ≤ 2 := by unfold letterM; split <;> simp
    simp; omega
  · rename_i h0
    rw [if_neg h0]
    split at h
    · rename_i h1
      subst h1
      simp only [Bool.and_eq_true, decide_eq_true_eq] at h
      have := hname h.1.2
      rw [if_neg (by decide), if_pos (.inl rfl), if_neg (by decide)]; omega
    · rename_i h1
      split at h
      · rename_i h2
        subst h2
        simp only [Bool.and_eq_true, decide_eq_true_eq] at h
        have := itoa_len n h.1.1.1 h.1.1.2
        simp; omega
      · rename_i h2
        rw [if_neg h2]
        split at h
        · rename_i h3
          subst h3
          simp only [Bool.and_eq_true, decide_eq_true_eq] at h
          have := hname h.1.1.1.2
          rw [if_pos (.inr rfl), if_pos rfl]; omega
        · cases h
theorem out_len {v : Nat} (hv : v ≤ 8) : ∀ (T : Ts) (c : Bool), T.good v = true → (outM c T).length ≤ 15 * T.nodes
  | .nil, c, _ => by simp [outM]
  | .cons k n s a r, c, hg => by
    simp only [Ts.good, Bool.and_eq_true] at hg
    have h1 := out_len hv a false hg.1.2
    have h2 := out_len hv r true hg.2
    have h3 := label_len hv hg.1.1
    have h4 : (if opens k a then 40 :: (outM false a ++ [41]) else []).length ≤ 15 * a.nodes + (if k = 3 then 6 else 0) := by
      by_cases hk : k = 3
      · rw [if_pos hk]; split <;> simp; omega
      · have : opens k a = false := by
          have := hg.1.1
          unfold nodeB at this
          by_cases k1 : k = 1
          · subst k1
            simp only [Bool.and_eq_true, decide_eq_true_eq] at this
            simp at this
            simp [opens, this.2]
          · simp [opens, goalB, k1, hk]
        rw [this]; simp
    have h5 : (if c then ([44] : Str) else []).length ≤ 1 := by split <;> simp
    simp only [outM, Ts.nodes, List.length_append]
    omega
end Go.Proofs.YtdiophafmokfiaaDoor
