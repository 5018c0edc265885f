/-
  What is printed of good terms is read as them. No program is named here.
-/
import Derived.Test.YtdiophafmokfiaaDoorPrn
import Derived.Test.YtdiophafmokfiaaDoorQuery
import Derived.Test.YtdiophafmokfiaaDoorTurns
namespace Go.Proofs.YtdiophafmokfiaaDoor
open Go.RowKit Go.Shelf
set_option linter.unusedVariables false
set_option linter.unusedSimpArgs false
set_option maxRecDepth 100000

/-! Numbers -/
theorem parse_app : ∀ (l m : Str) (acc a : Nat), Lib.parseUint10 acc l = .ok a → Lib.parseUint10 acc (l ++ m) = Lib.parseUint10 a m
  | [], m, acc, a, h => by
    simp only [Lib.parseUint10, Lib.NumEnd.ok.injEq] at h
    subst h; rfl
  | c :: r, m, acc, a, h => by
    simp only [List.cons_append, Lib.parseUint10] at h ⊢
    split at h
    · rename_i hc
      rw [if_pos hc]
      split at h
      · cases h
      · rename_i h1
        rw [if_neg h1]
        split at h
        · cases h
        · rename_i h2
          rw [if_neg h2]
          exact parse_app r m _ a h
    · cases h
theorem digit_nat (d : Nat) (h : d < 10) : (UInt8.ofNat (48 + d)).toNat = 48 + d := by
  rw [UInt8.toNat_ofNat']; omega
theorem parse_digits (u : Nat) (h : u < 9223372036854775808) : Lib.parseUint10 0 (Lib.decDigits u) = .ok u := by
  induction u using Nat.strongRecOn with
  | ind u ih =>
    by_cases h10 : u < 10
    · rw [Lib.decDigits_one h10]
      have := digit_nat u h10
      simp only [Lib.parseUint10, this]
      rw [if_pos (by omega), if_neg (by omega), if_neg (by omega)]
      simp
    · rw [Lib.decDigits, dif_neg h10, parse_app _ _ _ _ (ih (u / 10) (by omega) (by omega))]
      have := digit_nat (u % 10) (by omega)
      simp only [Lib.parseUint10, this]
      rw [if_pos (by omega), if_neg (by omega), if_neg (by omega)]
      congr 1
      omega
theorem digits_ne (u : Nat) : Lib.decDigits u ≠ [] := by
  rw [Lib.decDigits]
  split <;> simp
theorem digits_all (u : Nat) : ∀ c ∈ Lib.decDigits u, digB c = true := by
  have hd : ∀ d, d < 10 → digB (UInt8.ofNat (48 + d)) = true := fun d h => by
    have := digit_nat d h
    simp only [digB, this]
    simp; omega
  induction u using Nat.strongRecOn with
  | ind u ih =>
    by_cases h10 : u < 10
    · rw [Lib.decDigits_one h10]
      intro c hc
      rw [List.mem_singleton.1 hc]
      exact hd u h10
    · rw [Lib.decDigits, dif_neg h10]
      intro c hc
      rcases List.mem_append.1 hc with hc | hc
      · exact ih (u / 10) (by omega) c hc
      · rw [List.mem_singleton.1 hc]
        exact hd _ (by omega)
theorem ndigits_le : ∀ (k u : Nat), u < 10 ^ (k + 1) → Lib.nDigits u ≤ k + 1
  | 0, u, h => by rw [Lib.nDigits_small (by simpa using h)]; omega
  | k + 1, u, h => by
    by_cases h10 : u < 10
    · rw [Lib.nDigits_small h10]; omega
    · rw [Lib.nDigits_big h10]
      have := ndigits_le k (u / 10) (by rw [Nat.pow_succ] at h; omega)
      omega
theorem dig_not (c : UInt8) (h : digB c = true) : c.toNat ≠ 43 ∧ c.toNat ≠ 45 := by
  simp [digB] at h; omega
theorem atoi_itoa (n : Int) (h0 : -1099511627776 ≤ n) (h1 : n ≤ 1099511627776) : Lib.atoiAll (Lib.itoa n) = .ok n := by
  unfold Lib.itoa
  split
  · have hp := parse_digits n.natAbs (by omega)
    have hne := digits_ne n.natAbs
    simp only [Lib.atoiAll, Lib.parseMag]
    have e1 : (UInt8.toNat 45 = 43 ∨ UInt8.toNat 45 = 45) = True := eq_true (by decide)
    have e2 : (UInt8.toNat 45 = 45) = True := eq_true (by decide)
    simp only [e2, or_true, if_true]
    rw [if_neg hne, hp]
    simp only [not_true_eq_false, false_and, if_false, true_and]
    rw [if_neg (by omega)]
    congr 1; omega
  · have hp := parse_digits n.toNat (by omega)
    cases hl : Lib.decDigits n.toNat with
    | nil => exact absurd hl (digits_ne _)
    | cons c r =>
      have hc := dig_not c (digits_all n.toNat c (by rw [hl]; exact .head _))
      rw [hl] at hp
      simp only [Lib.atoiAll, Lib.parseMag]
      simp only [hc.1, hc.2, or_self, if_false]
      rw [if_neg (by simp), hp]
      simp only [not_false_eq_true, true_and, false_and, if_false]
      rw [if_neg (by omega)]
      congr 1; omega
theorem numM_itoa (n : Int) (h0 : -1099511627776 ≤ n) (h1 : n ≤ 1099511627776) : numM (Lib.itoa n) = some n := by
  unfold numM
  rw [atoi_itoa n h0 h1]
  simp only
  rw [if_pos ⟨trivial, h0, h1⟩]
theorem itoa_len (n : Int) (h0 : -1099511627776 ≤ n) (h1 : n ≤ 1099511627776) : (Lib.itoa n).length ≤ 14 := by
  unfold Lib.itoa
  split
  · have := ndigits_le 12 n.natAbs (by omega)
    simp [Lib.decDigits_length]; omega
  · have := ndigits_le 12 n.toNat (by omega)
    simp [Lib.decDigits_length]; omega

/-! Tokens -/
def atM (X : Str) (vs : List Str) : RS := RS.adv ⟨[], X, vs, 0⟩
theorem adv_at (t r : Str) (vs : List Str) : RS.adv ⟨t, r, vs, 0⟩ = atM r vs := rfl
theorem at_of {X : Str} {vs : List Str} {c : UInt8} {r : Str} (hX : X = c :: r) (hw : whiteB c = false) (h : 0 < tokLen X) : atM X vs = ⟨X.take (tokLen X), X.drop (tokLen X), vs, 0⟩ := by
  have ht : trimW X = X := by rw [hX]; unfold trimW; rw [List.dropWhile_cons, if_neg (by simp [hw])]
  unfold atM RS.adv
  simp only [ht]
  rw [if_neg (by omega)]
theorem at_tok {t X : Str} {vs : List Str} {c : UInt8} {r : Str} (hX : t = c :: r) (hw : whiteB c = false) (h : tokLen (t ++ X) = t.length) : atM (t ++ X) vs = ⟨t, X, vs, 0⟩ := by
  rw [at_of (c := c) (r := r ++ X) (by rw [hX]; rfl) hw (by rw [h, hX]; simp), h]
  simp
theorem at_sign {c : UInt8} (X : Str) (vs : List Str) (h : c = 40 ∨ c = 41 ∨ c = 44 ∨ c = 46 ∨ c = 33) : atM (c :: X) vs = ⟨[c], X, vs, 0⟩ := by
  have : tokLen (c :: X) = 1 := by
    rcases h with rfl | rfl | rfl | rfl | rfl <;> cases X <;> rfl
  have hw : whiteB c = false := by rcases h with rfl | rfl | rfl | rfl | rfl <;> decide
  exact at_tok (t := [c]) rfl hw this
/-- What may stand behind a term. -/
def Stop (X : Str) : Prop := ∃ c r, X = c :: r ∧ (c = 40 ∨ c = 41 ∨ c = 44 ∨ c = 46)
theorem span_all {p : UInt8 → Bool} {X : Str} (hX : ∀ c r, X = c :: r → p c = false) : ∀ {l : Str}, (∀ c ∈ l, p c = true) → spanN p (l ++ X) = l.length
  | [], _ => by
    cases X with
    | nil => rfl
    | cons c r => simp [spanN, hX c r rfl]
  | c :: l, h => by
    simp only [List.cons_append, spanN, h c (.head _), cond_true, List.length_cons]
    rw [span_all hX fun c hc => h c (.tail _ hc)]
theorem Stop.low {X : Str} (h : Stop X) : ∀ c r, X = c :: r → lowB c = false := by
  obtain ⟨c, r, rfl, h⟩ := h
  intro d q e
  cases e
  rcases h with rfl | rfl | rfl | rfl <;> decide
theorem Stop.dig {X : Str} (h : Stop X) : ∀ c r, X = c :: r → digB c = false := by
  obtain ⟨c, r, rfl, h⟩ := h
  intro d q e
  cases e
  rcases h with rfl | rfl | rfl | rfl <;> decide
theorem low_up {c : UInt8} (h : lowB c = true) : whiteB c = false ∧ upB c = false := by
  have hh : ∀ n : Fin 256, lowB (UInt8.ofNat n.val) = true → whiteB (UInt8.ofNat n.val) = false ∧ upB (UInt8.ofNat n.val) = false := by decide +kernel
  have := hh ⟨c.toNat, c.toNat_lt⟩
  simp only [UInt8.ofNat_toNat] at this
  exact this h
theorem dig_up {c : UInt8} (h : digB c = true) : whiteB c = false ∧ upB c = false ∧ lowB c = false ∧ (c == 33) = false := by
  have hh : ∀ n : Fin 256, digB (UInt8.ofNat n.val) = true → whiteB (UInt8.ofNat n.val) = false ∧ upB (UInt8.ofNat n.val) = false ∧ lowB (UInt8.ofNat n.val) = false ∧ (UInt8.ofNat n.val == 33) = false := by decide +kernel
  have := hh ⟨c.toNat, c.toNat_lt⟩
  simp only [UInt8.ofNat_toNat] at this
  exact this h
theorem at_name {t X : Str} {vs : List Str} {c : UInt8} {r : Str} (ht : t = c :: r) (hl : ∀ x ∈ t, lowB x = true) (hX : Stop X) : atM (t ++ X) vs = ⟨t, X, vs, 0⟩ := by
  have hc := hl c (by rw [ht]; exact .head _)
  refine at_tok ht (low_up hc).1 ?_
  rw [ht]
  simp only [List.cons_append, tokLen, hc, Bool.or_true, if_true, List.length_cons]
  rw [span_all hX.low fun x hx => hl x (by rw [ht]; exact .tail _ hx)]
  omega
theorem at_up {c : UInt8} {X : Str} {vs : List Str} (hc : upB c = true) (hw : whiteB c = false) (hX : Stop X) : atM ([c] ++ X) vs = ⟨[c], X, vs, 0⟩ := by
  refine at_tok (c := c) (r := []) rfl hw ?_
  simp only [List.cons_append, tokLen, hc, Bool.true_or, if_true, List.length_cons]
  rw [span_all (l := []) hX.low (by simp)]
  rfl
theorem at_num (n : Int) {X : Str} {vs : List Str} (hX : Stop X) : ∃ c r, Lib.itoa n = c :: r ∧ upB c = false ∧ lowB c = false ∧ (c == 33) = false ∧ (digB c || (c == 45)) = true ∧ atM (Lib.itoa n ++ X) vs = ⟨Lib.itoa n, X, vs, 0⟩ := by
  unfold Lib.itoa
  split
  · refine ⟨45, _, rfl, by decide, by decide, by decide, by decide, at_tok (c := 45) rfl (by decide) ?_⟩
    have hs := span_all hX.dig (digits_all n.natAbs)
    have hne : 0 < (Lib.decDigits n.natAbs).length := by cases hd : Lib.decDigits n.natAbs with | nil => exact absurd hd (digits_ne _) | cons _ _ => simp
    simp only [List.cons_append, tokLen, hs, List.length_cons]
    rw [if_neg (by decide), if_neg (by decide), if_pos trivial, if_pos hne]
    omega
  · have hs := span_all hX.dig (digits_all n.toNat)
    cases hl : Lib.decDigits n.toNat with
    | nil => exact absurd hl (digits_ne _)
    | cons c r =>
      have hc := digits_all n.toNat c (by rw [hl]; exact .head _)
      have hu := dig_up hc
      refine ⟨c, r, rfl, hu.2.1, hu.2.2.1, hu.2.2.2, by simp [hc], ?_⟩
      refine at_tok (c := c) rfl hu.1 ?_
      rw [hl] at hs
      simp only [List.cons_append] at hs ⊢
      simp only [tokLen, hs, hu.2.1, hu.2.2.1, hc]
      rfl

/-! Variables -/
def letters (c : Nat) : List Str := (List.range c).map fun i => letterM (i : Nat)
theorem letters_len (c : Nat) : (letters c).length = c := by simp [letters]
theorem letter_up : ∀ n : Fin 9, ∃ c, letterM (n.val : Nat) = [c] ∧ upB c = true ∧ whiteB c = false := by
  intro n
  have h : ∀ n : Fin 9, letterM (n.val : Nat) = [UInt8.ofNat (65 + n.val)] ∧ upB (UInt8.ofNat (65 + n.val)) = true ∧ whiteB (UInt8.ofNat (65 + n.val)) = false := by decide +kernel
  exact ⟨_, h n⟩
theorem letters_old : ∀ (c : Fin 9) (n : Fin 9), n.val < c.val → letterM (n.val : Nat) ∈ letters c.val ∧ idxOfV (letters c.val) (letterM (n.val : Nat)) = n.val := by decide +kernel
theorem letters_new : ∀ c : Fin 9, letterM (c.val : Nat) ∉ letters c.val ∧ letters c.val ++ [letterM (c.val : Nat)] = letters (c.val + 1) := by decide +kernel
theorem var_back (s : RS) (c n : Nat) (hs : s.vars = letters c) (hc : c ≤ 8) (hn : n ≤ c) : s.var (letterM (n : Nat)) = (n, { s with vars := letters (if n = c then c + 1 else c) }) := by
  unfold RS.var
  rw [hs]
  by_cases h : n = c
  · subst h
    have := letters_new ⟨n, by omega⟩
    rw [if_neg this.1, if_pos rfl, letters_len, this.2]
  · have := letters_old ⟨c, by omega⟩ ⟨n, by omega⟩ (by show n < c; omega)
    rw [if_pos this.1, if_neg h, this.2, ← hs]

/-! Numbered in the order in which they come -/
def cnt1 (k n : Int) (c : Nat) : Nat := if k = 0 ∧ n = c then c + 1 else c
def Ts.cnt : Ts → Nat → Nat
  | .nil, c => c
  | .cons k n _ a r, c => r.cnt (a.cnt (cnt1 k n c))
def Ts.inOrder : Ts → Nat → Prop
  | .nil, _ => True
  | .cons k n _ a r, c => (k = 0 → 0 ≤ n ∧ n ≤ c) ∧ a.inOrder (cnt1 k n c) ∧ r.inOrder (a.cnt (cnt1 k n c))
theorem pos_lt' {n : Int} : ∀ {ks : List Int} {j : Nat}, pos n ks = some j → j < ks.length
  | [], _, h => by cases h
  | k :: r, j, h => by
    rw [pos] at h
    by_cases e : n = k
    · rw [if_pos e] at h; cases h; simp
    · rw [if_neg e] at h
      cases hp : pos n r with
      | none => rw [hp] at h; cases h
      | some i =>
        rw [hp] at h
        cases h
        have := pos_lt' hp
        simp; omega
theorem Ts.tidy_order (T : Ts) : ∀ ks : List Int, (T.tidyFrom ks).1.inOrder ks.length ∧ (T.tidyFrom ks).1.cnt ks.length = (T.tidyFrom ks).2.length := by
  induction T with
  | nil => intro ks; exact ⟨trivial, rfl⟩
  | cons k n s a r iha ihr =>
    intro ks
    rw [Ts.tidyFrom_cons]
    simp only [Ts.inOrder, Ts.cnt]
    have h1 : cnt1 k (tV k n ks) ks.length = (tS k n ks).length ∧ (k = 0 → 0 ≤ tV k n ks ∧ tV k n ks ≤ (ks.length : Nat)) := by
      by_cases e : k = 0
      · simp only [cnt1, tV, tS, e, if_true, true_and, numV, numS]
        cases hp : pos n ks with
        | none => simp
        | some j =>
          have := pos_lt' hp
          simp only [Option.getD_some, Option.isSome_some, if_true]
          refine ⟨by rw [if_neg (by omega)], fun _ => by omega⟩
      · simp [cnt1, tS, e]
    rw [h1.1, (iha _).2, (ihr _).2]
    exact ⟨⟨h1.2, (iha _).1, (ihr _).1⟩, rfl⟩
end Go.Proofs.YtdiophafmokfiaaDoor
