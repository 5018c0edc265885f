/- HPure, HChain, HOne, HRun, HUndo, HTerm, HMark, XSys, Copy: texts that follow one another, laid into one file. -/
import Derived.Test.YthliapbflkfdiabZ0
import Derived.Test.YthliapbflkfdiabG1
import Derived.Test.YthliapbflkfdiabRows
import Derived.Deep.LoopGhost
import Derived.Lib.Hide
namespace Go.Proofs.Ythliapbflkfdiab
open Go.RowKit
set_option linter.unusedVariables false
set_option linter.unusedSimpArgs false
theorem hatS {L : List HC} {a : Int} {c : HC} : hat L a = some c ↔ 0 ≤ a ∧ a < L.length ∧ L[a.toNat]? = some c := by
 unfold hat
 constructor
 ·intro h
  split at h
  ·rename_i h0
   refine ⟨h0, ?_, h⟩
   rcases Nat.lt_or_ge a.toNat L.length with hl | hl
   ·omega
   ·rw [List.getElem?_eq_none hl] at h; cases h
  ·cases h
 ·rintro ⟨h0, h1, h2⟩; rw [if_pos h0]; exact h2
theorem hat_in {L : List HC} {a : Int} (h0 : 0 ≤ a) (h1 : a < L.length) : ∃ c, hat L a = some c := ⟨L[a.toNat]'(by omega), hatS.2 ⟨h0, h1, List.getElem?_eq_getElem _⟩⟩
theorem goodL_get {n : Nat} : ∀ {L : List HC} {i : Nat} {c : HC}, goodL n L = true → L[i]? = some c → goodC n c (L.length - i - 1) = true
 | [], i, c, _, h => by simp at h
 | x :: r, 0, c, hg, h => by
  obtain rfl : x = c := by simpa using h
  simp only [goodL, Bool.and_eq_true] at hg
  simpa using hg.1
 | x :: r, i + 1, c, hg, h => by
  simp only [goodL, Bool.and_eq_true] at hg
  have := goodL_get (i := i) (c := c) hg.2 (by simpa using h)
  rw [List.length_cons, show r.length + 1 - (i + 1) - 1 = r.length - i - 1 by omega]; exact this
theorem goodC_iff {n f : Nat} {c : HC} (h : goodC n c f = true) : (c.k = 0 ∧ 0 ≤ c.n ∧ c.n < n ∧ c.s = eS) ∨ (c.k = 1 ∧ c.n = 0 ∧ c.s ≠ eS) ∨ (c.k = 2 ∧ c.s = eS) ∨ (c.k = 3 ∧ 1 ≤ c.n ∧ c.n ≤ 4 ∧ c.n ≤ f ∧ c.s ≠ eS) := by
 unfold goodC at h
 split at h
 ·simp only [Bool.and_eq_true, decide_eq_true_eq] at h; exact .inl ⟨‹_›, h.1, h.2.1, h.2.2⟩
 ·split at h
  ·simp only [Bool.and_eq_true, decide_eq_true_eq, Bool.not_eq_true', decide_eq_false_iff_not] at h; exact .inr (.inl ⟨‹_›, h.1, h.2⟩)
  ·split at h
   ·simp only [decide_eq_true_eq] at h; exact .inr (.inr (.inl ⟨‹_›, h⟩))
   ·split at h
    ·simp only [Bool.and_eq_true, decide_eq_true_eq, Bool.not_eq_true', decide_eq_false_iff_not] at h; exact .inr (.inr (.inr ⟨‹_›, h.1, h.2.1, h.2.2.1, h.2.2.2⟩))
    ·cases h
theorem good_hat {n : Nat} {L : List HC} {a : Int} {c : HC} (hg : goodL n L = true) (h : hat L a = some c) : goodC n c (L.length - a.toNat - 1) = true := goodL_get hg (hatS.1 h).2.2
theorem good_args {n : Nat} {L : List HC} {a : Int} (hg : goodL n L = true) : argsAt L a ≤ 4 ∧ (argsAt L a = 0 ∨ (0 ≤ a ∧ a + argsAt L a < L.length)) := by
 unfold argsAt
 cases h : hat L a with
 | none => exact ⟨by simp, .inl rfl⟩
 | some c =>
  obtain ⟨h0, h1, _⟩ := hatS.1 h
  have hc := goodC_iff (good_hat hg h)
  simp only [argsC]
  split
  ·rcases hc with hc | hc | hc | hc
   ·omega
   ·omega
   ·omega
   ·refine ⟨by omega, .inr ⟨h0, ?_⟩⟩
    omega
  ·exact ⟨by simp, .inl rfl⟩
theorem good_ref {n : Nat} {L : List HC} {a : Int} {c : HC} (hg : goodL n L = true) (h : hat L a = some c) (hk : c.k = 0) : 0 ≤ c.n ∧ c.n < n := by
 rcases goodC_iff (good_hat hg h) with hc | hc | hc | hc <;> omega
theorem setN_good {n : Nat} {x : Int} (h0 : 0 ≤ x) (h1 : x < n) : ∀ {L : List HC} {i : Nat}, goodL n L = true → (∀ c, L[i]? = some c → c.k = 0) → goodL n (setN L i x) = true
 | [], i, hg, _ => by rw [setN_nil]; rfl
 | y :: r, 0, hg, hk => by
  rw [setN_zero]
  simp only [goodL, Bool.and_eq_true] at hg ⊢
  refine ⟨?_, hg.2⟩
  have hk0 := hk y (by simp)
  have := hg.1
  unfold goodC at this ⊢
  simp only [hk0, if_true] at this ⊢
  simp only [Bool.and_eq_true, decide_eq_true_eq] at this ⊢
  exact ⟨h0, h1, this.2.2⟩
 | y :: r, i + 1, hg, hk => by
  rw [setN_cons]
  simp only [goodL, Bool.and_eq_true] at hg ⊢
  rw [setN_len]
  exact ⟨hg.1, setN_good h0 h1 hg.2 fun c hc => hk c (by simpa using hc)⟩
theorem hlookF_end {L : List HC} : ∀ (f : Nat) (a : Int), hlookF L f a = -1 ∨ ∃ c, hat L (hlookF L f a) = some c ∧ (c.k = 0 → c.n = hlookF L f a)
 | 0, a => .inl rfl
 | f + 1, a => by
  cases h : hat L a with
  | none => left; simp only [hlookF, h]
  | some c =>
   by_cases hb : c.k = 0 ∧ c.n ≠ a
   ·simp only [hlookF, h, if_pos hb]; exact hlookF_end f c.n
   ·right
    simp only [hlookF, h, if_neg hb]
    exact ⟨c, rfl, fun hk => Classical.byContradiction fun hn => hb ⟨hk, hn⟩⟩
theorem hlook_end {L : List HC} {a : Int} (h : ¬ hlook L a < 0) : ∃ c, hat L (hlook L a) = some c ∧ (c.k = 0 → c.n = hlook L a) := by
 rcases hlookF_end (L := L) L.length a with h1 | h1
 ·exact absurd (show hlook L a < 0 by unfold hlook; rw [h1]; decide) h
 ·exact h1
structure GU (n : Nat) (u : HU) : Prop where
 len : u.cs.length = n
 good : goodL n u.cs = true
 wk : u.lg = false → u.w ≤ 400
 trl : u.tr.length ≤ 65536 + u.w
theorem GU.step {n : Nat} {u : HU} (h : GU n u) : GU n u.step := by
 refine ⟨h.len, h.good, fun hl => ?_, ?_⟩
 ·simp only [HU.step, Bool.or_eq_false_iff, decide_eq_false_iff_not] at hl ⊢; omega
 ·have := h.trl; simp only [HU.step]; omega
theorem GU.look {n : Nat} {u : HU} (h : GU n u) (a : Int) : GU n (u.look a).2 := by
 unfold HU.look
 split
 ·exact h
 ·rename_i hl; exact ⟨h.len, h.good, fun _ => h.wk (by simpa using hl), h.trl⟩
theorem look_w (u : HU) (a : Int) : (u.look a).2.w = u.w ∧ (u.look a).2.cs = u.cs ∧ (u.look a).2.tr = u.tr := by
 unfold HU.look
 split <;> exact ⟨rfl, rfl, rfl⟩
theorem look_ok {u : HU} {a : Int} (h : (u.look a).2.lg = false) : u.lg = false ∧ (u.look a).1 = hlook u.cs a ∧ ¬ hlook u.cs a < 0 := by
 unfold HU.look at h ⊢
 split at h
 ·rename_i hl; rw [hl] at h; cases h
 ·rename_i hl
  rw [if_neg hl]
  exact ⟨by simpa using hl, rfl, by simpa using h⟩
theorem GU.bind {n : Nat} {u : HU} (h : GU n u) {a x : Int} {c : HC} (ha : hat u.cs a = some c) (hk : c.k = 0) (h0 : 0 ≤ x) (h1 : x < n) (ht : u.tr.length < 65536 + u.w) : GU n (u.bind a x) := by
 refine ⟨by simp only [HU.bind]; rw [setN_len]; exact h.len, ?_, h.wk, by simp only [HU.bind, List.length_append, List.length_cons, List.length_nil]; omega⟩
 refine setN_good h0 h1 h.good fun c' hc' => ?_
 rw [(hatS.1 ha).2.2] at hc'
 obtain rfl := Option.some.inj hc'
 exact hk
structure OU (n f : Nat) (u v : HU) : Prop where
 cs : v.cs = u.cs
 tr : v.tr = u.tr
 lt : u.w < v.w
 le : v.w ≤ max (u.w + 1) (401 + 4 * f)
 wk : v.lg = false → v.w ≤ 400
 lg : u.lg = true → v.lg = true
theorem any_up {n f : Nat} {g : Int → HU → Bool × HU} {cs : List HC} (hg : ∀ x u, u.cs = cs → (u.lg = false → u.w ≤ 400) → OU n f u (g x u).2) :
  ∀ (m : Nat) (x : Int) (u : HU), u.cs = cs → (u.lg = false → u.w ≤ 400) → (anyU g m x u).2.cs = u.cs ∧ (anyU g m x u).2.tr = u.tr ∧ u.w ≤ (anyU g m x u).2.w ∧ (anyU g m x u).2.w ≤ max (u.w + m) (401 + 4 * f + m) ∧ ((anyU g m x u).2.lg = false → (anyU g m x u).2.w ≤ 400) ∧ (u.lg = true → (anyU g m x u).2.lg = true)
 | 0, x, u, hcs, hu => ⟨rfl, rfl, Nat.le_refl _, by simp only [anyU]; omega, hu, fun h => h⟩
 | m + 1, x, u, hcs, hu => by
  have h1 := hg x u hcs hu
  simp only [anyU]
  split
  ·exact ⟨h1.cs, h1.tr, Nat.le_of_lt h1.lt, by have := h1.le; omega, h1.wk, h1.lg⟩
  ·obtain ⟨a1, a2, a3, a4, a5, a6⟩ := any_up hg m (x + 1) (g x u).2 (h1.cs.trans hcs) h1.wk
   refine ⟨a1.trans h1.cs, a2.trans h1.tr, Nat.le_trans (Nat.le_of_lt h1.lt) a3, ?_, a5, fun h => a6 (h1.lg h)⟩
   have := h1.le
   omega
theorem occ_up {n : Nat} (a : Int) : ∀ (f : Nat) (b : Int) (u : HU), goodL n u.cs = true → (u.lg = false → u.w ≤ 400) → OU n f u (occU a f b u).2
 | f, b, u, hgd, hu => by
  have hs : OU n f u (u.step.look b).2 := by
   have hw := look_w u.step b
   refine ⟨hw.2.1, hw.2.2, ?_, ?_, fun h => ?_, fun h => ?_⟩
   ·rw [hw.1]; exact Nat.lt_succ_self _
   ·rw [hw.1]; show u.w + 1 ≤ _; omega
   ·rw [hw.1]
    have := (look_ok h).1
    simp only [HU.step, Bool.or_eq_false_iff, decide_eq_false_iff_not] at this
    show u.w + 1 ≤ 400
    omega
   ·cases hq : (u.step.look b).2.lg with
    | true => rfl
    | false =>
     have := (look_ok hq).1
     simp only [HU.step, Bool.or_eq_false_iff] at this
     rw [h] at this; cases this.1
  cases f with
  | zero => exact hs
  | succ f =>
   simp only [occU]
   split
   ·exact hs
   ·split
    ·exact hs
    ·rename_i hl _
     have hl' : (u.step.look b).2.lg = false := by simpa using hl
     have hcs0 : (u.step.look b).2.cs = u.cs := (look_w u.step b).2.1
     have hA := (good_args (a := (u.step.look b).1) hgd).1
     obtain ⟨a1, a2, a3, a4, a5, a6⟩ := any_up (n := n) (f := f) (g := occU a f) (cs := u.cs) (fun x v hv hw => occ_up a f x v (by rw [hv]; exact hgd) hw) (argsAt u.cs (u.step.look b).1) ((u.step.look b).1 + 1) (u.step.look b).2 hcs0 hs.wk
     refine ⟨a1.trans hs.cs, a2.trans hs.tr, Nat.lt_of_lt_of_le hs.lt a3, ?_, a5, fun h => a6 (hs.lg h)⟩
     have hwl := hs.wk hl'
     omega
structure UU (n : Nat) (u : HU) (r : Bool × HU) : Prop where
 gu : GU n r.2
 lt : u.w < r.2.w
 le : r.2.w ≤ 3000
 ok : r.1 = true → r.2.lg = false
 ext : u.tr.length + r.2.w ≤ r.2.tr.length + r.2.w ∧ r.2.tr.length ≤ u.tr.length + (r.2.w - u.w)
theorem asg_up {n : Nat} {u : HU} (h : GU n u) (hl : u.lg = false) {a b : Int} {c : HC} (ha : hat u.cs a = some c) (hk : c.k = 0) (h0 : 0 ≤ b) (h1 : b < n) : UU n u (asgU a b u) := by
 have ho := occ_up (n := n) a 401 b u h.good h.wk
 have hw := h.wk hl
 have hle := ho.le
 have hlt := ho.lt
 have ht := h.trl
 have hgu : GU n (occU a 401 b u).2 := ⟨by rw [ho.cs]; exact h.len, by rw [ho.cs]; exact h.good, ho.wk, by rw [ho.tr]; omega⟩
 unfold asgU
 split
 ·exact ⟨hgu, hlt, (by show (occU a 401 b u).2.w ≤ 3000; omega), fun h => (by cases h), (by dsimp only; rw [ho.tr]; constructor <;> omega)⟩
 ·rename_i hn
  have hlg : (occU a 401 b u).2.lg = false := by
   cases hq : (occU a 401 b u).2.lg with
   | false => rfl
   | true => exact absurd (.inr hq) hn
  refine ⟨hgu.bind (by rw [ho.cs]; exact ha) hk h0 h1 (by rw [ho.tr]; omega), hlt, by show (occU a 401 b u).2.w ≤ 3000; omega, fun _ => hlg, ?_⟩
  show u.tr.length + (occU a 401 b u).2.w ≤ ((occU a 401 b u).2.tr ++ [a]).length + (occU a 401 b u).2.w ∧ ((occU a 401 b u).2.tr ++ [a]).length ≤ u.tr.length + ((occU a 401 b u).2.w - u.w)
  rw [ho.tr]
  simp only [List.length_append, List.length_cons, List.length_nil]
  omega
theorem all_up {n : Nat} {g : Int → Int → HU → Bool × HU} (hg : ∀ x y u, GU n u → u.lg = false → UU n u (g x y u)) :
  ∀ (m : Nat) (x y : Int) (u : HU), GU n u → u.lg = false → GU n (allU g m x y u).2 ∧ u.w ≤ (allU g m x y u).2.w ∧ (allU g m x y u).2.w ≤ 3000 ∧ ((allU g m x y u).1 = true → (allU g m x y u).2.lg = false) ∧ u.tr.length ≤ (allU g m x y u).2.tr.length ∧ (allU g m x y u).2.tr.length ≤ u.tr.length + ((allU g m x y u).2.w - u.w)
 | 0, x, y, u, h, hl => ⟨h, Nat.le_refl _, by have := h.wk hl; simp only [allU]; omega, fun _ => hl, Nat.le_refl _, by simp only [allU]; omega⟩
 | m + 1, x, y, u, h, hl => by
  have h1 := hg x y u h hl
  have hx := h1.ext
  simp only [allU]
  split
  ·rename_i hok
   obtain ⟨a1, a2, a3, a4, a5, a6⟩ := all_up hg m (x + 1) (y + 1) (g x y u).2 h1.gu (h1.ok hok)
   have := h1.lt
   exact ⟨a1, by omega, a3, a4, by omega, by omega⟩
  ·exact ⟨h1.gu, Nat.le_of_lt h1.lt, h1.le, h1.ok, by omega, by omega⟩
theorem uni_up {n : Nat} : ∀ (f : Nat) (a b : Int) (u : HU), GU n u → u.lg = false → UU n u (uniU f a b u)
 | f, a, b, u, h, hl => by
  have hw0 := h.wk hl
  have hwa := look_w u.step a
  have hwb := look_w (u.step.look a).2 b
  have hg2 : GU n ((u.step.look a).2.look b).2 := (h.step.look a).look b
  have hw2 : ((u.step.look a).2.look b).2.w = u.w + 1 := by rw [hwb.1, hwa.1]; rfl
  have hcs2 : ((u.step.look a).2.look b).2.cs = u.cs := by rw [hwb.2.1, hwa.2.1]; rfl
  have htr2 : ((u.step.look a).2.look b).2.tr = u.tr := by rw [hwb.2.2, hwa.2.2]; rfl
  have hfail : UU n u (false, ((u.step.look a).2.look b).2) := ⟨hg2, (by show u.w < ((u.step.look a).2.look b).2.w; rw [hw2]; omega), (by show ((u.step.look a).2.look b).2.w ≤ 3000; rw [hw2]; omega), fun h => (by cases h), (by dsimp only; rw [htr2, hw2]; constructor <;> omega)⟩
  cases f with
  | zero => exact hfail
  | succ f =>
   simp only [uniU]
   split
   ·exact hfail
   rename_i hl2
   have hl2' : ((u.step.look a).2.look b).2.lg = false := by simpa using hl2
   obtain ⟨hla, hb1, hb2⟩ := look_ok hl2'
   obtain ⟨_, ha1, ha2⟩ := look_ok hla
   rw [hwa.2.1] at hb1 hb2
   obtain ⟨x, hx, hxe⟩ := hlook_end ha2
   obtain ⟨y, hy, hye⟩ := hlook_end hb2
   rw [← ha1] at hx hxe
   rw [← hb1] at hy hye
   replace hx : hat u.cs (u.step.look a).1 = some x := hx
   replace hy : hat u.cs ((u.step.look a).2.look b).1 = some y := hy
   obtain ⟨x0, x1, _⟩ := hatS.1 hx
   obtain ⟨y0, y1, _⟩ := hatS.1 hy
   rw [h.len] at x1 y1
   have hkx : kindAt u.cs (u.step.look a).1 = x.k := by unfold kindAt; rw [hx]
   have hky : kindAt u.cs ((u.step.look a).2.look b).1 = y.k := by unfold kindAt; rw [hy]
   rw [hkx, hky]
   have hstep : ∀ {r : Bool × HU}, UU n ((u.step.look a).2.look b).2 r → UU n u r := fun {r} hr => by
    have h1 := hr.lt
    have h2 := hr.ext
    rw [hw2] at h1 h2
    rw [htr2] at h2
    exact ⟨hr.gu, by omega, hr.le, hr.ok, by omega, by omega⟩
   split
   ·rename_i hk0
    split
    ·rename_i hk1
     split
     ·exact ⟨hg2, by show u.w < ((u.step.look a).2.look b).2.w; rw [hw2]; omega, by show ((u.step.look a).2.look b).2.w ≤ 3000; rw [hw2]; omega, fun _ => hl2', by dsimp only; rw [htr2, hw2]; constructor <;> omega⟩
     ·have ht := h.trl
      have hbd : GU n (((u.step.look a).2.look b).2.bind (max (u.step.look a).1 ((u.step.look a).2.look b).1) (min (u.step.look a).1 ((u.step.look a).2.look b).1)) := by
       rcases Int.le_total (u.step.look a).1 ((u.step.look a).2.look b).1 with hle | hle
       ·rw [Int.max_eq_right hle, Int.min_eq_left hle]
        exact hg2.bind (by rw [hcs2]; exact hy) hk1 x0 x1 (by rw [htr2, hw2]; omega)
       ·rw [Int.max_eq_left hle, Int.min_eq_right hle]
        exact hg2.bind (by rw [hcs2]; exact hx) hk0 y0 y1 (by rw [htr2, hw2]; omega)
      refine ⟨hbd, by show u.w < ((u.step.look a).2.look b).2.w; rw [hw2]; omega, by show ((u.step.look a).2.look b).2.w ≤ 3000; rw [hw2]; omega, fun _ => hl2', ?_⟩
      simp only [HU.bind, List.length_append, List.length_cons, List.length_nil]
      rw [htr2, hw2]
      constructor <;> omega
    ·exact hstep (asg_up hg2 hl2' (by rw [hcs2]; exact hx) hk0 y0 y1)
   ·split
    ·rename_i hk1
     exact hstep (asg_up hg2 hl2' (by rw [hcs2]; exact hy) hk1 x0 x1)
    ·unfold partsU
     split
     ·obtain ⟨a1, a2, a3, a4, a5, a6⟩ := all_up (fun x y v hv hlv => uni_up f x y v hv hlv) (argsAt ((u.step.look a).2.look b).2.cs (u.step.look a).1) ((u.step.look a).1 + 1) (((u.step.look a).2.look b).1 + 1) _ hg2 hl2'
      rw [hw2] at a2 a6
      rw [htr2] at a5 a6
      exact ⟨a1, by omega, a3, a4, by omega, by omega⟩
     ·exact hfail
end Go.Proofs.Ythliapbflkfdiab
namespace Go.Proofs.Ythliapbflkfdiab
open Go.RowKit
set_option linter.unusedVariables false
set_option linter.unusedSimpArgs false
inductive EndsN (L : List HC) : Nat → Int → Int → Prop
 | here {a : Int} {c : HC} : hat L a = some c → ¬ (c.k = 0 ∧ c.n ≠ a) → EndsN L 0 a a
 | there {n : Nat} {a x : Int} {c : HC} : hat L a = some c → c.k = 0 → c.n ≠ a → EndsN L n c.n x → EndsN L (n + 1) a x
def End (L : List HC) (a x : Int) : Prop := ∃ n, EndsN L n a x
theorem EndsN.det {L : List HC} {n m : Nat} {a x y : Int} (h : EndsN L n a x) : EndsN L m a y → n = m ∧ x = y := by
 induction h generalizing m with
 | here h0 h1 =>
  intro g
  cases g with
  | here g0 g1 => exact ⟨rfl, rfl⟩
  | there g0 g1 g2 _ => rw [h0] at g0; cases g0; exact absurd ⟨g1, g2⟩ h1
 | there h0 h1 h2 _ ih =>
  intro g
  cases g with
  | here g0 g1 => rw [h0] at g0; cases g0; exact absurd ⟨h1, h2⟩ g1
  | there g0 g1 g2 g3 =>
   rw [h0] at g0; cases g0
   obtain ⟨e1, e2⟩ := ih g3
   exact ⟨by omega, e2⟩
theorem End.det {L : List HC} {a x y : Int} (h : End L a x) (g : End L a y) : x = y := by
 obtain ⟨_, h⟩ := h
 obtain ⟨_, g⟩ := g
 exact (h.det g).2
theorem EndsN.last {L : List HC} {n : Nat} {a x : Int} (h : EndsN L n a x) : ∃ c, hat L x = some c ∧ ¬ (c.k = 0 ∧ c.n ≠ x) := by
 induction h with
 | here h0 h1 => exact ⟨_, h0, h1⟩
 | there _ _ _ _ ih => exact ih
theorem End.last {L : List HC} {a x : Int} (h : End L a x) : ∃ c, hat L x = some c ∧ ¬ (c.k = 0 ∧ c.n ≠ x) := by
 obtain ⟨_, h⟩ := h; exact h.last
theorem End.self {L : List HC} {a x : Int} (h : End L a x) : End L x x := by
 obtain ⟨c, h0, h1⟩ := h.last
 exact ⟨0, .here h0 h1⟩
theorem End.first {L : List HC} {a x : Int} (h : End L a x) : ∃ c, hat L a = some c := by
 obtain ⟨_, h⟩ := h
 cases h with
 | here h0 _ => exact ⟨_, h0⟩
 | there h0 _ _ _ => exact ⟨_, h0⟩
theorem nodup_len : ∀ (n : Nat) (l : List Nat), l.Nodup → (∀ y ∈ l, y < n) → l.length ≤ n
 | 0, l, _, h => by
  cases l with
  | nil => simp
  | cons y l => exact absurd (h y (by simp)) (by omega)
 | n + 1, l, hn, h => by
  by_cases hm : n ∈ l
  ·have h1 := nodup_len n (l.erase n) (hn.erase n) fun y hy => by
    have h2 := (hn.mem_erase_iff).1 hy
    have h3 := h y h2.2
    have h4 := h2.1
    omega
   rw [List.length_erase_of_mem hm] at h1
   omega
  ·have := nodup_len n l hn fun y hy => by
    have h3 := h y hy
    have h4 : y ≠ n := fun e => hm (e ▸ hy)
    omega
   omega
theorem EndsN.list {L : List HC} {n : Nat} {a x : Int} (h : EndsN L n a x) : ∃ l : List Nat, l.length = n + 1 ∧ l.Nodup ∧ (∀ y ∈ l, y < L.length) ∧ ∀ y ∈ l, ∃ j, j ≤ n ∧ EndsN L j (y : Int) x := by
 induction h with
 | @here a c h0 h1 =>
  obtain ⟨g0, g1, _⟩ := hatS.1 h0
  refine ⟨[a.toNat], rfl, by simp, fun y hy => ?_, fun y hy => ⟨0, Nat.le_refl _, ?_⟩⟩
  ·simp at hy; omega
  ·simp at hy
   rw [show ((y : Nat) : Int) = a by omega]
   exact .here h0 h1
 | @there n a x c h0 h1 h2 h3 ih =>
  obtain ⟨g0, g1, _⟩ := hatS.1 h0
  obtain ⟨l, l1, l2, l3, l4⟩ := ih
  have ha : ((a.toNat : Nat) : Int) = a := by omega
  refine ⟨a.toNat :: l, by simp [l1], List.nodup_cons.2 ⟨fun hm => ?_, l2⟩, fun y hy => ?_, fun y hy => ?_⟩
  ·obtain ⟨j, hj, he⟩ := l4 _ hm
   rw [ha] at he
   have := (he.det (.there h0 h1 h2 h3)).1
   omega
  ·rcases List.mem_cons.1 hy with rfl | hy
   ·omega
   ·exact l3 y hy
  ·rcases List.mem_cons.1 hy with rfl | hy
   ·rw [ha]; exact ⟨n + 1, Nat.le_refl _, .there h0 h1 h2 h3⟩
   ·obtain ⟨j, hj, he⟩ := l4 y hy
    exact ⟨j, by omega, he⟩
theorem EndsN.lt {L : List HC} {n : Nat} {a x : Int} (h : EndsN L n a x) : n < L.length := by
 obtain ⟨l, l1, l2, l3, _⟩ := h.list
 have := nodup_len L.length l l2 l3
 omega
theorem hlookF_of {L : List HC} {n : Nat} {a x : Int} (h : EndsN L n a x) : ∀ f, n < f → hlookF L f a = x := by
 induction h with
 | here h0 h1 =>
  intro f hf
  obtain ⟨f, rfl⟩ : ∃ g, f = g + 1 := ⟨f - 1, by omega⟩
  simp only [hlookF, h0, if_neg h1]
 | there h0 h1 h2 _ ih =>
  intro f hf
  obtain ⟨f, rfl⟩ : ∃ g, f = g + 1 := ⟨f - 1, by omega⟩
  simp only [hlookF, h0, if_pos (And.intro h1 h2)]
  exact ih f (by omega)
theorem end_of_hlookF {L : List HC} : ∀ (f : Nat) (a : Int), ¬ hlookF L f a < 0 → ∃ n, EndsN L n a (hlookF L f a)
 | 0, a, h => absurd (show hlookF L 0 a < 0 by simp [hlookF]) h
 | f + 1, a, h => by
  cases hc : hat L a with
  | none => simp only [hlookF, hc] at h; exact absurd (by decide) h
  | some c =>
   by_cases hb : c.k = 0 ∧ c.n ≠ a
   ·simp only [hlookF, hc, if_pos hb] at h ⊢
    obtain ⟨n, hn⟩ := end_of_hlookF f c.n h
    exact ⟨n + 1, .there hc hb.1 hb.2 hn⟩
   ·simp only [hlookF, hc, if_neg hb]
    exact ⟨0, .here hc hb⟩
theorem End.look {L : List HC} {a x : Int} (h : End L a x) : hlook L a = x := by
 obtain ⟨n, h⟩ := h
 exact hlookF_of h _ h.lt
theorem end_look {L : List HC} {a : Int} (h : ¬ hlook L a < 0) : End L a (hlook L a) := end_of_hlookF _ _ h
theorem End.nonneg {L : List HC} {a x : Int} (h : End L a x) : 0 ≤ x := by
 obtain ⟨c, h0, _⟩ := h.last; exact (hatS.1 h0).1
theorem hlook_none {L : List HC} {a : Int} (h : ¬ ∃ x, End L a x) : hlook L a = -1 := by
 rcases hlookF_end (L := L) L.length a with h1 | ⟨c, h1, _⟩
 ·exact h1
 ·refine absurd ⟨hlook L a, end_look ?_⟩ h
  have := (hatS.1 h1).1
  unfold hlook; omega
theorem hat_setN {L : List HC} {r : Int} {c : HC} (hr : hat L r = some c) (y a : Int) : hat (setN L r.toNat y) a = if a = r then some ⟨c.k, y, c.s⟩ else hat L a := by
 obtain ⟨r0, r1, r2⟩ := hatS.1 hr
 unfold hat
 by_cases ha : 0 ≤ a
 ·rw [if_pos ha, if_pos ha, setN_get]
  by_cases he : a = r
  ·rw [if_pos he, if_pos (by rw [he]), he, r2]; rfl
  ·rw [if_neg he, if_neg (by omega)]
 ·rw [if_neg ha, if_neg ha, if_neg (by omega)]
structure Up (L L' : List HC) : Prop where
 ends : ∀ a x, End L a x → ∃ y, End L' a y ∧ End L' x y
 cell : ∀ a c, hat L a = some c → c.k ≠ 0 → hat L' a = some c
theorem end_bind {L : List HC} {r y : Int} {c : HC} (hr : hat L r = some c) (hk : c.k = 0) (hn : c.n = r) (hy : End L y y) (hne : y ≠ r) :
  (∀ a x, End L a x → x ≠ r → End (setN L r.toNat y) a x) ∧ (∀ a, End L a r → End (setN L r.toNat y) a y) := by
 have hyy : End (setN L r.toNat y) y y := by
  obtain ⟨d, d0, d1⟩ := hy.last
  exact ⟨0, .here (by rw [hat_setN hr, if_neg hne]; exact d0) d1⟩
 have key : ∀ n a x, EndsN L n a x → End (setN L r.toNat y) a (if x = r then y else x) := by
  intro n a x h
  induction h with
  | @here a d h0 h1 =>
   by_cases ha : a = r
   ·rw [if_pos ha]
    obtain ⟨m, hm⟩ := hyy
    exact ⟨m + 1, .there (c := ⟨c.k, y, c.s⟩) (by rw [hat_setN hr, if_pos ha]) hk (by rw [ha]; exact hne) hm⟩
   ·rw [if_neg ha]
    exact ⟨0, .here (by rw [hat_setN hr, if_neg ha]; exact h0) h1⟩
  | @there n a x d h0 h1 h2 _ ih =>
   have ha : a ≠ r := fun e => by
    rw [e, hr] at h0; cases h0
    rw [e] at h2; exact h2 hn
   obtain ⟨m, hm⟩ := ih
   exact ⟨m + 1, .there (by rw [hat_setN hr, if_neg ha]; exact h0) h1 h2 hm⟩
 refine ⟨fun a x ⟨n, h⟩ hx => ?_, fun a ⟨n, h⟩ => ?_⟩
 ·have := key n a x h; rwa [if_neg hx] at this
 ·have := key n a r h; rwa [if_pos rfl] at this
def Bis (L : List HC) (R : Int → Int → Prop) : Prop := ∀ a b, R a b → a = b ∨ ∃ x y, End L a x ∧ End L b y ∧ (x = y ∨ ∃ c, hat L x = some c ∧ hat L y = some c ∧ c.k ≠ 0 ∧ ∀ i : Int, 0 ≤ i → i < argsC c → R (x + 1 + i) (y + 1 + i))
def Sm (L : List HC) (a b : Int) : Prop := ∃ R, Bis L R ∧ R a b
end Go.Proofs.Ythliapbflkfdiab
namespace Go.Proofs.Ythliapbflkfdiab
open Go.RowKit
set_option linter.unusedVariables false
set_option linter.unusedSimpArgs false
theorem looks_ok {u : HU} {a b : Int} (h : ((u.step.look a).2.look b).2.lg = false) :
  u.step.lg = false ∧ (u.step.look a).1 = hlook u.cs a ∧ ((u.step.look a).2.look b).1 = hlook u.cs b ∧ End u.cs a (hlook u.cs a) ∧ End u.cs b (hlook u.cs b) ∧ ((u.step.look a).2.look b).2.cs = u.cs ∧ ((u.step.look a).2.look b).2.tr = u.tr ∧ ((u.step.look a).2.look b).2.w = u.w + 1 := by
 have hwa := look_w u.step a
 have hwb := look_w (u.step.look a).2 b
 obtain ⟨hla, hb1, hb2⟩ := look_ok h
 obtain ⟨hls, ha1, ha2⟩ := look_ok hla
 rw [hwa.2.1] at hb1 hb2
 exact ⟨hls, ha1, hb1, end_look ha2, end_look hb2, by rw [hwb.2.1, hwa.2.1]; rfl, by rw [hwb.2.2, hwa.2.2]; rfl, by rw [hwb.1, hwa.1]; rfl⟩
structure One (a b : Int) (u : HU) (v : HU) : Prop where
 up : Up u.cs v.cs
 sm : ∀ L, Up v.cs L → Sm L a b
end Go.Proofs.Ythliapbflkfdiab
namespace Go.Proofs.Ythliapbflkfdiab
open Go.RowKit
set_option linter.unusedVariables false
set_option linter.unusedSimpArgs false
def ups (x : Int) : Nat → List Int
 | 0 => []
 | m + 1 => x :: ups (x + 1) m
theorem ups_len (x : Int) (m : Nat) : (ups x m).length = m := by
 induction m generalizing x with
 | zero => rfl
 | succ m ih => simp [ups, ih]
end Go.Proofs.Ythliapbflkfdiab
namespace Go.Proofs.Ythliapbflkfdiab
open Go.RowKit
set_option linter.unusedVariables false
set_option linter.unusedSimpArgs false
def Bd (N : List Int) (L L' : List HC) : Prop := (∀ r ∈ N, 0 ≤ r) ∧ ∀ i : Nat, ((i : Int) ∈ N → ∃ c n, L[i]? = some c ∧ c.k = 0 ∧ c.n = (i : Int) ∧ L'[i]? = some ⟨c.k, n, c.s⟩) ∧ ((i : Int) ∉ N → L'[i]? = L[i]?)
theorem Bd.refl (L : List HC) : Bd [] L L := ⟨fun r h => by simp at h, fun i => ⟨fun h => by simp at h, fun _ => rfl⟩⟩
theorem Bd.trans {N N' : List Int} {L L' L'' : List HC} (h : Bd N L L') (g : Bd N' L' L'') : Bd (N ++ N') L L'' := by
 refine ⟨fun r hr => (List.mem_append.1 hr).elim (h.1 r) (g.1 r), fun i => ⟨fun hi => ?_, fun hi => ?_⟩⟩
 ·by_cases h1 : (i : Int) ∈ N
  ·obtain ⟨c, n, c1, c2, c3, c4⟩ := (h.2 i).1 h1
   by_cases h2 : (i : Int) ∈ N'
   ·obtain ⟨d, m, d1, d2, d3, d4⟩ := (g.2 i).1 h2
    rw [c4] at d1; cases d1
    exact ⟨c, m, c1, c2, c3, d4⟩
   ·rw [← (g.2 i).2 h2] at c4
    exact ⟨c, n, c1, c2, c3, c4⟩
  ·have h2 : (i : Int) ∈ N' := by rcases List.mem_append.1 hi with h | h; exact absurd h h1; exact h
   obtain ⟨d, m, d1, d2, d3, d4⟩ := (g.2 i).1 h2
   rw [(h.2 i).2 h1] at d1
   exact ⟨d, m, d1, d2, d3, d4⟩
 ·rw [(g.2 i).2 (fun h' => hi (List.mem_append_right _ h')), (h.2 i).2 (fun h' => hi (List.mem_append_left _ h'))]
theorem Bd.one {L : List HC} {r y : Int} {c : HC} (hr : hat L r = some c) (hk : c.k = 0) (hn : c.n = r) : Bd [r] L (setN L r.toNat y) := by
 obtain ⟨r0, r1, r2⟩ := hatS.1 hr
 refine ⟨fun s hs => by simp at hs; omega, fun i => ⟨fun hi => ?_, fun hi => ?_⟩⟩
 ·simp at hi
  have e : r.toNat = i := by omega
  rw [e] at r2 ⊢
  exact ⟨c, y, r2, hk, by omega, by rw [setN_get, if_pos rfl, r2]; rfl⟩
 ·simp at hi
  rw [setN_get, if_neg (by omega)]
theorem undoL_get : ∀ (N : List Int) (L : List HC), (∀ r ∈ N, 0 ≤ r) → ∀ i : Nat, (undoL L N)[i]? = if (i : Int) ∈ N then (L[i]?).map (fun c => ⟨c.k, i, c.s⟩) else L[i]?
 | [], L, _, i => by simp [undoL]
 | r :: N, L, h, i => by
  have r0 := h r (by simp)
  unfold undoL
  rw [undoL_get N _ (fun s hs => h s (.tail _ hs)) i, setN_get]
  by_cases e : r.toNat = i
  ·have e2 : (i : Int) = r := by omega
   have hm : (i : Int) ∈ r :: N := by rw [e2]; exact .head _
   rw [if_pos e, if_pos hm]
   by_cases h2 : (i : Int) ∈ N
   ·rw [if_pos h2, Option.map_map]; rfl
   ·rw [if_neg h2, e2]
  ·rw [if_neg e]
   have : (i : Int) ∈ r :: N ↔ (i : Int) ∈ N := by
    simp only [List.mem_cons]
    constructor
    ·rintro (h | h)
     ·omega
     ·exact h
    ·exact .inr
   simp only [this]
theorem Bd.undo {N : List Int} {L L' : List HC} (h : Bd N L L') : undoL L' N = L := by
 refine List.ext_getElem? fun i => ?_
 rw [undoL_get N L' h.1 i]
 by_cases hi : (i : Int) ∈ N
 ·rw [if_pos hi]
  obtain ⟨c, n, c1, c2, c3, c4⟩ := (h.2 i).1 hi
  rw [c4, c1, Option.map_some, ← c3]
 ·rw [if_neg hi]; exact (h.2 i).2 hi
def Trl (u v : HU) : Prop := ∃ N, v.tr = u.tr ++ N ∧ Bd N u.cs v.cs
theorem Trl.same {u v : HU} (h1 : v.cs = u.cs) (h2 : v.tr = u.tr) : Trl u v := ⟨[], by simp [h2], by rw [h1]; exact Bd.refl _⟩
theorem Trl.trans {u v w : HU} (h : Trl u v) (g : Trl v w) : Trl u w := by
 obtain ⟨N, h1, h2⟩ := h
 obtain ⟨N', g1, g2⟩ := g
 exact ⟨N ++ N', by rw [g1, h1, List.append_assoc], h2.trans g2⟩
theorem Trl.bind {u v : HU} {r y : Int} {c : HC} (hr : hat u.cs r = some c) (hk : c.k = 0) (hn : c.n = r) (h1 : v.cs = setN u.cs r.toNat y) (h2 : v.tr = u.tr ++ [r]) : Trl u v := ⟨[r], h2, by rw [h1]; exact Bd.one hr hk hn⟩
theorem all_trl {n : Nat} {g : Int → Int → HU → Bool × HU} (hu : ∀ x y u, GU n u → u.lg = false → UU n u (g x y u)) (hg : ∀ x y u, GU n u → u.lg = false → Trl u (g x y u).2) :
  ∀ (m : Nat) (x y : Int) (u : HU), GU n u → u.lg = false → Trl u (allU g m x y u).2
 | 0, x, y, u, h, hl => Trl.same rfl rfl
 | m + 1, x, y, u, h, hl => by
  have h1 := hu x y u h hl
  simp only [allU]
  split
  ·rename_i hok
   exact (hg x y u h hl).trans (all_trl hu hg m (x + 1) (y + 1) _ h1.gu (h1.ok hok))
  ·exact hg x y u h hl
theorem asg_trl {n : Nat} {u : HU} (h : GU n u) {p q : Int} {x : HC} (hx : hat u.cs p = some x) (hxk : x.k = 0) (hxe : x.n = p) : Trl u (asgU p q u).2 := by
 have ho := occ_up (n := n) p 401 q u h.good h.wk
 unfold asgU
 split
 ·exact Trl.same ho.cs ho.tr
 ·exact Trl.bind hx hxk hxe (by simp only [HU.bind]; rw [ho.cs]) (by simp only [HU.bind]; rw [ho.tr])
theorem uni_trl {n : Nat} : ∀ (f : Nat) (a b : Int) (u : HU), GU n u → u.lg = false → Trl u (uniU f a b u).2
 | f, a, b, u, h, hl => by
  have hg2 : GU n ((u.step.look a).2.look b).2 := (h.step.look a).look b
  have hwa := look_w u.step a
  have hwb := look_w (u.step.look a).2 b
  have hcs2 : ((u.step.look a).2.look b).2.cs = u.cs := by rw [hwb.2.1, hwa.2.1]; rfl
  have htr2 : ((u.step.look a).2.look b).2.tr = u.tr := by rw [hwb.2.2, hwa.2.2]; rfl
  have hfail : Trl u ((u.step.look a).2.look b).2 := Trl.same hcs2 htr2
  cases f with
  | zero => exact hfail
  | succ f =>
  simp only [uniU]
  by_cases hl2 : ((u.step.look a).2.look b).2.lg = true
  ·rw [if_pos hl2]; exact hfail
  have hl3 : ((u.step.look a).2.look b).2.lg = false := by simpa using hl2
  rw [if_neg hl2]
  obtain ⟨_, ha, hb, ea, eb, hcs, htr, _⟩ := looks_ok hl3
  rw [ha, hb]
  obtain ⟨x, hx, hxe⟩ := ea.last
  obtain ⟨y, hy, hye⟩ := eb.last
  generalize hlook u.cs a = p at *
  generalize hlook u.cs b = q at *
  generalize ((u.step.look a).2.look b).2 = v at *
  rw [show kindAt u.cs p = x.k by unfold kindAt; rw [hx], show kindAt u.cs q = y.k by unfold kindAt; rw [hy]]
  by_cases hxk : x.k = 0
  ·have hxn : x.n = p := Classical.byContradiction fun e => hxe ⟨hxk, e⟩
   rw [if_pos hxk]
   by_cases hyk : y.k = 0
   ·have hyn : y.n = q := Classical.byContradiction fun e => hye ⟨hyk, e⟩
    rw [if_pos hyk]
    by_cases hpq : p = q
    ·rw [if_pos hpq]; exact hfail
    ·rw [if_neg hpq]
     rcases Int.le_total p q with hle | hle
     ·rw [Int.max_eq_right hle, Int.min_eq_left hle]
      exact Trl.bind hy hyk hyn (by simp only [HU.bind]; rw [hcs]) (by simp only [HU.bind]; rw [htr])
     ·rw [Int.max_eq_left hle, Int.min_eq_right hle]
      exact Trl.bind hx hxk hxn (by simp only [HU.bind]; rw [hcs]) (by simp only [HU.bind]; rw [htr])
   ·rw [if_neg hyk]
    exact hfail.trans (asg_trl hg2 (by rw [hcs]; exact hx) hxk hxn)
  ·rw [if_neg hxk]
   by_cases hyk : y.k = 0
   ·have hyn : y.n = q := Classical.byContradiction fun e => hye ⟨hyk, e⟩
    rw [if_pos hyk]
    exact hfail.trans (asg_trl hg2 (by rw [hcs]; exact hy) hyk hyn)
   ·rw [if_neg hyk]
    unfold partsU
    split
    ·exact hfail.trans (all_trl (n := n) (fun x y u => uni_up f x y u) (fun x y u h hl => uni_trl f x y u h hl) _ _ _ v hg2 hl3)
    ·exact hfail
theorem hpure_gu {h : HH} (hg : goodH h = true) : GU h.cs.length ⟨h.cs, h.tr, 0, false⟩ := by
 unfold goodH goodCs goodTr at hg
 simp only [Bool.and_eq_true, decide_eq_true_eq] at hg
 exact ⟨rfl, hg.1.2, fun _ => by show (0 : Nat) ≤ 400; omega, by show h.tr.length ≤ 65536 + 0; omega⟩
end Go.Proofs.Ythliapbflkfdiab
namespace Go.Proofs.Ythliapbflkfdiab
open Go.RowKit
set_option linter.unusedVariables false
set_option linter.unusedSimpArgs false
def listT (g : Int → Nat → Option (Tm × Nat)) : Nat → Int → Nat → Option (Ts × Nat)
 | 0, _, l => some (.nil, l)
 | m + 1, a, l => (g a l).bind fun p => (listT g m (a + 1) p.2).map fun q => (.cons p.1.k p.1.n p.1.s p.1.ar q.1, q.2)
def tmAt (L : List HC) : Nat → Int → Nat → Option (Tm × Nat)
 | 0, _, _ => none
 | f + 1, a, l => if l = 0 then none else match hat L (hlook L a) with
  | none => none
  | some c => if c.k = 0 then some (⟨0, hlook L a, eS, .nil⟩, l - 1)
   else if c.k = 1 then some (⟨1, 0, c.s, .nil⟩, l - 1)
   else if c.k = 2 then some (⟨2, c.n, eS, .nil⟩, l - 1)
   else (listT (tmAt L f) (argsC c).toNat (hlook L a + 1) (l - 1)).map fun p => (⟨3, 0, c.s, p.1⟩, p.2)
def zeroTm : Tm := ⟨0, 0, eS, .nil⟩
def mostN (most : Int) : Nat := (min most 65536).toNat
def termH (h : HH) (a most : Int) : Tm × Nat × Int :=
 if goodH h = false then (zeroTm, 0, 1)
 else if isAddr h.cs a = false then (zeroTm, 0, 4)
 else match tmAt h.cs (mostN most) a (mostN most) with
  | none => (zeroTm, 0, 3)
  | some (t, l) => (t, mostN most - l, 0)
theorem tmAt_hat {L : List HC} {f : Nat} {a : Int} {l : Nat} {c : HC} (hl : l ≠ 0) (hc : hat L (hlook L a) = some c) : tmAt L (f + 1) a l = if c.k = 0 then some (⟨0, hlook L a, eS, .nil⟩, l - 1)
   else if c.k = 1 then some (⟨1, 0, c.s, .nil⟩, l - 1)
   else if c.k = 2 then some (⟨2, c.n, eS, .nil⟩, l - 1)
   else (listT (tmAt L f) (argsC c).toNat (hlook L a + 1) (l - 1)).map fun p => (⟨3, 0, c.s, p.1⟩, p.2) := by
 simp only [tmAt]; rw [if_neg hl, hc]
theorem tmAt_none {L : List HC} {f : Nat} {a : Int} {l : Nat} (hc : hlook L a < 0) : tmAt L f a l = none := by
 cases f with
 | zero => rfl
 | succ f =>
  simp only [tmAt]
  split
  ·rfl
  ·rw [show hat L (hlook L a) = none by unfold hat; rw [if_neg (by omega)]]
theorem listT_nodes {g : Int → Nat → Option (Tm × Nat)} (hg : ∀ a l p, g a l = some p → p.1.ar.nodes + 1 + p.2 = l) : ∀ (m : Nat) (a : Int) (l : Nat) (p : Ts × Nat), listT g m a l = some p → p.1.nodes + p.2 = l ∧ p.1.length = m
 | 0, a, l, p, h => by simp only [listT, Option.some.injEq] at h; subst h; simp [Ts.nodes, Ts.length]
 | m + 1, a, l, p, h => by
  simp only [listT] at h
  cases h1 : g a l with
  | none => rw [h1] at h; simp at h
  | some q =>
   rw [h1, Option.bind_some] at h
   cases h2 : listT g m (a + 1) q.2 with
   | none => rw [h2] at h; simp at h
   | some r =>
    rw [h2, Option.map_some, Option.some.injEq] at h
    subst h
    have e1 := hg a l q h1
    obtain ⟨e2, e3⟩ := listT_nodes hg m (a + 1) q.2 r h2
    simp only [Ts.nodes, Ts.length]
    omega
theorem tmAt_nodes {L : List HC} : ∀ (f : Nat) (a : Int) (l : Nat) (p : Tm × Nat), tmAt L f a l = some p → p.1.ar.nodes + 1 + p.2 = l
 | 0, a, l, p, h => by cases h
 | f + 1, a, l, p, h => by
  by_cases hl : l = 0
  ·simp only [tmAt] at h; rw [if_pos hl] at h; cases h
  cases hc : hat L (hlook L a) with
  | none => simp only [tmAt] at h; rw [if_neg hl, hc] at h; cases h
  | some c =>
   rw [tmAt_hat hl hc] at h
   split at h
   ·cases h; simp only [Ts.nodes]; omega
   split at h
   ·cases h; simp only [Ts.nodes]; omega
   split at h
   ·cases h; simp only [Ts.nodes]; omega
   cases h2 : listT (tmAt L f) (argsC c).toNat (hlook L a + 1) (l - 1) with
   | none => rw [h2] at h; cases h
   | some r =>
    rw [h2, Option.map_some, Option.some.injEq] at h
    subst h
    have := (listT_nodes (fun a l p => tmAt_nodes f a l p) _ _ _ _ h2).1
    show r.1.nodes + 1 + r.2 = l
    omega
end Go.Proofs.Ythliapbflkfdiab
namespace Go.Proofs.Ythliapbflkfdiab
open Go.RowKit
set_option linter.unusedVariables false
set_option linter.unusedSimpArgs false
inductive Rc (L : List HC) (R : List Int) : Int → Prop
 | root {a : Int} : a ∈ R → isAddr L a = true → Rc L R a
 | ref {a : Int} {c : HC} : Rc L R a → hat L a = some c → c.k = 0 → Rc L R c.n
 | arg {a : Int} {c : HC} {i : Int} : Rc L R a → hat L a = some c → 0 ≤ i → i < argsC c → Rc L R (a + 1 + i)
theorem isAddr_iff' {L : List HC} {a : Int} : isAddr L a = true ↔ 0 ≤ a ∧ a < L.length := by unfold isAddr; simp
theorem goodL_of {n : Nat} : ∀ {L : List HC}, (∀ i c, L[i]? = some c → goodC n c (L.length - i - 1) = true) → goodL n L = true
 | [], _ => rfl
 | x :: r, h => by
  simp only [goodL, Bool.and_eq_true]
  refine ⟨by have := h 0 x rfl; simpa using this, goodL_of fun i c hc => ?_⟩
  have := h (i + 1) c (by simpa using hc)
  rw [List.length_cons, show r.length + 1 - (i + 1) - 1 = r.length - i - 1 by omega] at this
  exact this
theorem argsC_good {n f : Nat} {c : HC} (h : goodC n c f = true) : 0 ≤ argsC c ∧ argsC c ≤ f ∧ argsC c ≤ 4 := by
 have := goodC_iff h
 unfold argsC
 split <;> omega
theorem Rc.addr {L : List HC} {R : List Int} (hg : goodL L.length L = true) {a : Int} (h : Rc L R a) : isAddr L a = true := by
 induction h with
 | root _ h => exact h
 | ref h hc hk ih =>
  have := good_ref hg hc hk
  rw [isAddr_iff']; exact this
 | arg h hc i0 i1 ih =>
  have h1 := hatS.1 hc
  have h2 := argsC_good (good_hat hg hc)
  rw [isAddr_iff']
  omega
def MarkOf (L : List HC) (R : List Int) (M : List Bool) : Prop := M.length = L.length ∧ ∀ i : Nat, i < L.length → (M[i]? = some true ↔ Rc L R (i : Int))
noncomputable def marksM (L : List HC) (R : List Int) : List Bool := (List.range L.length).map fun i => @decide (Rc L R ((i : Nat) : Int)) (Classical.propDecidable _)
theorem marksM_of (L : List HC) (R : List Int) : MarkOf L R (marksM L R) := by
 refine ⟨by simp [marksM], fun i hi => ?_⟩
 unfold marksM
 rw [List.getElem?_map, List.getElem?_range hi]
 simp
theorem MarkOf.eq {L : List HC} {R : List Int} {M : List Bool} (h : MarkOf L R M) : M = marksM L R := by
 have g := marksM_of L R
 refine List.ext_getElem? fun i => ?_
 by_cases hi : i < L.length
 ·have h1 := h.2 i hi
  have h2 := g.2 i hi
  have e1 : M[i]? = some (M[i]'(by rw [h.1]; exact hi)) := List.getElem?_eq_getElem _
  have e2 : (marksM L R)[i]? = some ((marksM L R)[i]'(by rw [g.1]; exact hi)) := List.getElem?_eq_getElem _
  rw [e1] at h1
  rw [e2] at h2
  rw [e1, e2]
  congr 1
  have h3 := h1.trans h2.symm
  simp only [Option.some.injEq] at h3
  cases hx : M[i]'(by rw [h.1]; exact hi) <;> cases hy : (marksM L R)[i]'(by rw [g.1]; exact hi) <;> simp_all
 ·rw [List.getElem?_eq_none (by rw [h.1]; omega), List.getElem?_eq_none (by rw [g.1]; omega)]
def rk (M : List Bool) (n : Nat) : Nat := (M.take n).count true
abbrev rkI (M : List Bool) (a : Int) : Int := ((rk M a.toNat : Nat) : Int)
theorem rk_zero (M : List Bool) : rk M 0 = 0 := by simp [rk]
theorem rk_succ {M : List Bool} {n : Nat} {b : Bool} (h : M[n]? = some b) : rk M (n + 1) = rk M n + (if b = true then 1 else 0) := by
 unfold rk
 rw [List.take_add_one, h, List.count_append]
 cases b <;> simp
theorem rk_end {M : List Bool} {n : Nat} (h : M.length ≤ n) : rk M n = rk M M.length := by unfold rk; rw [List.take_of_length_le h, List.take_of_length_le (Nat.le_refl _)]
theorem rk_step (M : List Bool) (n : Nat) : rk M n ≤ rk M (n + 1) := by
 by_cases h : n < M.length
 ·rw [rk_succ (List.getElem?_eq_getElem h)]; omega
 ·rw [rk_end (n := n) (by omega), rk_end (n := n + 1) (by omega)]; exact Nat.le_refl _
theorem rk_mono (M : List Bool) {n m : Nat} (h : n ≤ m) : rk M n ≤ rk M m := by
 induction h with
 | refl => exact Nat.le_refl _
 | step _ ih => exact Nat.le_trans ih (rk_step M _)
theorem rk_lt {M : List Bool} {n m : Nat} (hn : M[n]? = some true) (h : n < m) : rk M n < rk M m := by
 have h1 := rk_succ hn
 have h2 := rk_mono M (show n + 1 ≤ m from h)
 simp at h1
 omega
theorem rk_inj {M : List Bool} {n m : Nat} (hn : M[n]? = some true) (hm : M[m]? = some true) (h : rk M n = rk M m) : n = m := by
 rcases Nat.lt_trichotomy n m with h1 | h1 | h1
 ·have := rk_lt hn h1; omega
 ·exact h1
 ·have := rk_lt hm h1; omega
def kept {α : Type} : List α → List Bool → List α
 | x :: r, b :: m => if b = true then x :: kept r m else kept r m
 | _, _ => []
theorem kept_get {α : Type} : ∀ {L : List α} {M : List Bool} {i : Nat} {x : α}, M[i]? = some true → L[i]? = some x → (kept L M)[rk M i]? = some x
 | [], M, i, x, _, h => by simp at h
 | y :: r, [], i, x, h, _ => by simp at h
 | y :: r, b :: m, 0, x, h, g => by
  simp at h g
  subst h g
  simp [kept, rk]
 | y :: r, b :: m, i + 1, x, h, g => by
  have ih := kept_get (L := r) (M := m) (i := i) (x := x) (by simpa using h) (by simpa using g)
  have e : rk (b :: m) (i + 1) = rk m i + (if b = true then 1 else 0) := by unfold rk; rw [List.take_succ_cons]; cases b <;> simp
  rw [e]
  cases b
  ·simpa [kept] using ih
  ·simpa [kept] using ih
theorem kept_len {α : Type} : ∀ {L : List α} {M : List Bool}, M.length = L.length → (kept L M).length = rk M M.length
 | [], [], _ => rfl
 | [], _ :: _, h => by simp at h
 | _ :: _, [], h => by simp at h
 | y :: r, b :: m, h => by
  have ih := kept_len (L := r) (M := m) (by simpa using h)
  have e : rk (b :: m) (m.length + 1) = rk m m.length + (if b = true then 1 else 0) := by unfold rk; rw [List.take_succ_cons]; cases b <;> simp
  rw [List.length_cons, e]
  cases b
  ·simpa [kept] using ih
  ·simpa [kept] using ih
theorem kept_inv {α : Type} : ∀ {L : List α} {M : List Bool} {j : Nat} {x : α}, (kept L M)[j]? = some x → ∃ i, M[i]? = some true ∧ L[i]? = some x ∧ rk M i = j
 | [], M, j, x, h => by simp [kept] at h
 | _ :: _, [], j, x, h => by simp [kept] at h
 | y :: r, b :: m, j, x, h => by
  have e : ∀ i, rk (b :: m) (i + 1) = rk m i + (if b = true then 1 else 0) := fun i => by unfold rk; rw [List.take_succ_cons]; cases b <;> simp
  cases b
  ·obtain ⟨i, h1, h2, h3⟩ := kept_inv (L := r) (M := m) (j := j) (x := x) (by simpa [kept] using h)
   exact ⟨i + 1, by simpa using h1, by simpa using h2, by rw [e]; simpa using h3⟩
  ·cases j with
   | zero => exact ⟨0, rfl, by simpa [kept] using h, rk_zero _⟩
   | succ j =>
    obtain ⟨i, h1, h2, h3⟩ := kept_inv (L := r) (M := m) (j := j) (x := x) (by simpa [kept] using h)
    exact ⟨i + 1, by simpa using h1, by simpa using h2, by rw [e]; simp; omega⟩
def renum (M : List Bool) (c : HC) : HC := if c.k = 0 then ⟨c.k, rkI M c.n, c.s⟩ else c
def markAt (M : List Bool) (a : Int) : Bool := decide (M[a.toNat]? = some true)
def collL (M : List Bool) (L : List HC) : List HC := (kept L M).map (renum M)
def collT (M : List Bool) (T : List Int) : List Int := (kept T (T.map (markAt M))).map (rkI M)
noncomputable def collectH (h : HH) (R T K : List Int) : HH × List Int × List Int × List Int × Int :=
 if goodH h = false then (h, [], [], [], 1)
 else if R.all (isAddr h.cs) = false then (h, [], [], [], 4)
 else (⟨collL (marksM h.cs R) h.cs, collT (marksM h.cs R) h.tr⟩, R.map (rkI (marksM h.cs R)), T.map (rkI (marksM h.cs R)), K.map (rkI (h.tr.map (markAt (marksM h.cs R)))), 0)
structure Cx (h : HH) (R : List Int) (M : List Bool) : Prop where
 good : goodH h = true
 mks : MarkOf h.cs R M
section
variable {h : HH} {R : List Int} {M : List Bool}
theorem Cx.gl (C : Cx h R M) : goodL h.cs.length h.cs = true := by
 have := C.good
 unfold goodH goodCs at this
 simp only [Bool.and_eq_true] at this
 exact this.1.2
theorem Cx.rc (C : Cx h R M) {a : Int} (ha : Rc h.cs R a) : 0 ≤ a ∧ a < h.cs.length ∧ M[a.toNat]? = some true := by
 have h1 := isAddr_iff'.1 (ha.addr C.gl)
 refine ⟨h1.1, h1.2, (C.mks.2 a.toNat (by omega)).2 ?_⟩
 rw [show ((a.toNat : Nat) : Int) = a by omega]; exact ha
theorem Cx.mark (C : Cx h R M) {i : Nat} (hi : M[i]? = some true) : i < h.cs.length ∧ Rc h.cs R (i : Int) := by
 have hl : i < h.cs.length := by
  rw [← C.mks.1]
  rcases Nat.lt_or_ge i M.length with g | g
  ·exact g
  ·rw [List.getElem?_eq_none g] at hi; cases hi
 exact ⟨hl, (C.mks.2 i hl).1 hi⟩
theorem Cx.len (C : Cx h R M) : (collL M h.cs).length = rk M M.length := by unfold collL; rw [List.length_map, kept_len C.mks.1]
theorem Cx.cell (C : Cx h R M) {a : Int} {c : HC} (ha : Rc h.cs R a) (hc : hat h.cs a = some c) : hat (collL M h.cs) (rkI M a) = some (renum M c) := by
 obtain ⟨a0, a1, am⟩ := C.rc ha
 unfold hat
 rw [if_pos (by simp only [rkI]; omega), show (rkI M a).toNat = rk M a.toNat from rfl]
 unfold collL
 rw [List.getElem?_map, kept_get am (hatS.1 hc).2.2]
 rfl
theorem Cx.lt (C : Cx h R M) {a : Int} (ha : Rc h.cs R a) : rk M a.toNat < (collL M h.cs).length := by
 obtain ⟨a0, a1, am⟩ := C.rc ha
 rw [C.len]
 exact rk_lt am (by rw [C.mks.1]; omega)
theorem Cx.back (C : Cx h R M) {j : Nat} {d : HC} (hj : (collL M h.cs)[j]? = some d) : ∃ (i : Nat) (c : HC), Rc h.cs R (i : Int) ∧ hat h.cs (i : Int) = some c ∧ d = renum M c ∧ rk M i = j := by
 unfold collL at hj
 rw [List.getElem?_map] at hj
 cases hk : (kept h.cs M)[j]? with
 | none => rw [hk] at hj; cases hj
 | some c =>
  rw [hk, Option.map_some, Option.some.injEq] at hj
  obtain ⟨i, h1, h2, h3⟩ := kept_inv hk
  obtain ⟨hi, hr⟩ := C.mark h1
  exact ⟨i, c, hr, by unfold hat; rw [if_pos (by omega)]; exact h2, hj.symm, h3⟩
theorem Cx.args (C : Cx h R M) {a : Int} {c : HC} (ha : Rc h.cs R a) (hc : hat h.cs a = some c) : ∀ i : Nat, (i : Int) < argsC c + 1 → rk M (a.toNat + i) = rk M a.toNat + i
 | 0, _ => rfl
 | i + 1, hi => by
  have ih := C.args ha hc i (by omega)
  have am : M[a.toNat + i]? = some true := by
   cases i with
   | zero => exact (C.rc ha).2.2
   | succ i =>
    have h1 := C.rc (Rc.arg (i := (i : Int)) ha hc (by omega) (by omega))
    rw [show (a + 1 + (i : Int)).toNat = a.toNat + (i + 1) by have := (C.rc ha).1; omega] at h1
    exact h1.2.2
  rw [show a.toNat + (i + 1) = (a.toNat + i) + 1 by omega, rk_succ am, ih]
  simp
  omega
theorem Cx.arg (C : Cx h R M) {a : Int} {c : HC} (ha : Rc h.cs R a) (hc : hat h.cs a = some c) {i : Int} (i0 : 0 ≤ i) (i1 : i < argsC c) : rkI M (a + 1 + i) = rkI M a + 1 + i := by
 have := C.args ha hc (i.toNat + 1) (by omega)
 have a0 := (C.rc ha).1
 show ((rk M (a + 1 + i).toNat : Nat) : Int) = ((rk M a.toNat : Nat) : Int) + 1 + i
 rw [show (a + 1 + i).toNat = a.toNat + (i.toNat + 1) by omega, this]
 omega
theorem renum_args (M : List Bool) (c : HC) : argsC (renum M c) = argsC c := by
 unfold renum argsC
 by_cases h : c.k = 0
 ·rw [if_pos h]; simp [h]
 ·rw [if_neg h]
theorem renum_k (M : List Bool) (c : HC) : (renum M c).k = c.k := by
 unfold renum; split <;> rfl
theorem renum_s (M : List Bool) (c : HC) : (renum M c).s = c.s := by
 unfold renum; split <;> rfl
theorem tr_good {h : HH} (hg : goodH h = true) {a : Int} (ha : a ∈ h.tr) : ∃ c, hat h.cs a = some c ∧ c.k = 0 := by
 unfold goodH goodTr at hg
 simp only [Bool.and_eq_true, List.all_eq_true] at hg
 have := hg.2.2 a ha
 unfold goodTr1 at this
 split at this
 ·rename_i c hc; exact ⟨c, hc, by simpa using this⟩
 ·cases this
theorem markAt_iff {M : List Bool} {a : Int} : markAt M a = true ↔ M[a.toNat]? = some true := by unfold markAt; simp
theorem kept_mem {α : Type} {f : α → Bool} {T : List α} {x : α} : x ∈ kept T (T.map f) ↔ x ∈ T ∧ f x = true := by
 induction T with
 | nil => simp [kept]
 | cons y T ih =>
  simp only [List.map_cons, kept]
  cases hf : f y
  ·simp only [Bool.false_eq_true, if_false, ih, List.mem_cons]
   constructor
   ·rintro ⟨h1, h2⟩; exact ⟨.inr h1, h2⟩
   ·rintro ⟨rfl | h1, h2⟩
    ·rw [hf] at h2; cases h2
    ·exact ⟨h1, h2⟩
  ·simp only [if_true, List.mem_cons, ih]
   constructor
   ·rintro (rfl | ⟨h1, h2⟩)
    ·exact ⟨.inl rfl, hf⟩
    ·exact ⟨.inr h1, h2⟩
   ·rintro ⟨rfl | h1, h2⟩
    ·exact .inl rfl
    ·exact .inr ⟨h1, h2⟩
theorem Cx.kept_good (C : Cx h R M) : goodH ⟨collL M h.cs, collT M h.tr⟩ = true := by
 have hg := C.good
 have hgl := C.gl
 have hlen : (collL M h.cs).length ≤ h.cs.length := by
  rw [C.len]; unfold rk; rw [← C.mks.1]
  exact Nat.le_trans List.count_le_length (by simp)
 have hs : h.cs.length ≤ 65536 ∧ h.tr.length ≤ 65536 := by
  unfold goodH goodCs goodTr at hg
  simp only [Bool.and_eq_true, decide_eq_true_eq] at hg
  exact ⟨hg.1.1, hg.2.1⟩
 have hkl : ∀ {α : Type} (T : List α) (m : List Bool), (kept T m).length ≤ T.length := by
  intro α T
  induction T with
  | nil => intro m; simp [kept]
  | cons y T ih =>
   intro m
   cases m with
   | nil => simp [kept]
   | cons b m =>
    simp only [kept]
    have := ih m
    split <;> simp <;> omega
 unfold goodH goodCs goodTr
 simp only [Bool.and_eq_true, decide_eq_true_eq, List.all_eq_true]
 refine ⟨⟨by omega, goodL_of fun j d hd => ?_⟩, ?_, fun x hx => ?_⟩
 ·obtain ⟨i, c, hr, hc, rfl, hj⟩ := C.back hd
  have hgc := good_hat hgl hc
  have hq := goodC_iff hgc
  have hlt := C.lt hr
  rw [show ((i : Nat) : Int).toNat = i by omega] at hlt
  unfold goodC
  rw [renum_k, renum_s]
  rcases hq with ⟨k, n0, n1, s0⟩ | ⟨k, n0, s0⟩ | ⟨k, s0⟩ | ⟨k, n0, n1, n2, s0⟩
  ·have hrn := C.lt (Rc.ref hr hc k)
   rw [if_pos k]
   unfold renum
   rw [if_pos k]
   simp only [Bool.and_eq_true, decide_eq_true_eq]
   exact ⟨by simp only [rkI]; omega, by simp only [rkI]; omega, s0⟩
  ·rw [if_neg (by omega), if_pos k]
   unfold renum
   rw [if_neg (by omega)]
   simp [n0, s0]
  ·rw [if_neg (by omega), if_neg (by omega), if_pos k]
   simp [s0]
  ·have hA : argsC c = c.n := by unfold argsC; rw [if_pos k]
   have h1 := C.lt (Rc.arg (i := c.n - 1) hr hc (by omega) (by omega))
   have h2 := C.args hr hc c.n.toNat (by omega)
   rw [show ((i : Int) + 1 + (c.n - 1)).toNat = ((i : Nat) : Int).toNat + c.n.toNat by omega, h2] at h1
   rw [if_neg (by omega), if_neg (by omega), if_neg (by omega), if_pos k]
   unfold renum
   rw [if_neg (by omega)]
   simp only [Bool.and_eq_true, decide_eq_true_eq, Bool.not_eq_true', decide_eq_false_iff_not]
   rw [show ((i : Nat) : Int).toNat = i by omega] at h1
   exact ⟨n0, n1, by omega, s0⟩
 ·unfold collT; rw [List.length_map]; have := hkl h.tr (h.tr.map (markAt M)); omega
 ·unfold collT at hx
  obtain ⟨a, ha, rfl⟩ := List.mem_map.1 hx
  obtain ⟨h1, h2⟩ := kept_mem.1 ha
  obtain ⟨c, c1, c2⟩ := tr_good hg h1
  have hm := C.mark (markAt_iff.1 h2)
  rw [show ((a.toNat : Nat) : Int) = a by have := (hatS.1 c1).1; omega] at hm
  unfold goodTr1
  rw [C.cell hm.2 c1]
  dsimp only
  rw [renum_k, c2]; rfl
end
end Go.Proofs.Ythliapbflkfdiab
namespace Go.Proofs.Ythliapbflkfdiab
open Go.RowKit
set_option linter.unusedVariables false
set_option linter.unusedSimpArgs false
def ctl (c : HC) : Int := if c.k = 3 then 0 else c.n
def hview (h : HH) (a : Int) : Vw Int := match hat h.cs (hlook h.cs a) with
 | none => .var (-1)
 | some c => if c.k = 0 then .var (hlook h.cs a) else .node c.k (ctl c) c.s (ups (hlook h.cs a + 1) (argsC c).toNat)
section
variable {σ : HH}
structure HOk (h : HH) : Prop where
 gl : goodL h.cs.length h.cs = true
 ends : ∀ a, isAddr h.cs a = true → ∃ x, End h.cs a x
 tr : ∀ a ∈ h.tr, goodTr1 h.cs a = true
def hset (h : HH) (r y : Int) : HH := ⟨setN h.cs r.toNat y, h.tr ++ [r]⟩
def sysH : Sy where
 X := Int
 S := HH
 ok := HOk
 dom := fun h a => isAddr h.cs a = true
 view := hview
 bind := fun h v t => hset h v (hlook h.cs t)
 join := fun h a b => hset h (max (hlook h.cs a) (hlook h.cs b)) (min (hlook h.cs a) (hlook h.cs b))
theorem hset_len (h : HH) (r y : Int) : (hset h r y).cs.length = h.cs.length := setN_len _ _ _
theorem addr_hset {h : HH} {r y a : Int} : isAddr (hset h r y).cs a = isAddr h.cs a := by unfold isAddr; rw [hset_len]
theorem hview_end {h : HH} {a x : Int} {c : HC} (he : End h.cs a x) (hc : hat h.cs x = some c) : hview h a = if c.k = 0 then .var x else .node c.k (ctl c) c.s (ups (x + 1) (argsC c).toNat) := by
 unfold hview; rw [he.look, hc]
theorem HOk.view (h : HOk σ) {a : Int} (ha : isAddr σ.cs a = true) : ∃ x c, End σ.cs a x ∧ hat σ.cs x = some c ∧ (c.k = 0 → c.n = x) ∧ hview σ a = if c.k = 0 then .var x else .node c.k (ctl c) c.s (ups (x + 1) (argsC c).toNat) := by
 obtain ⟨x, hx⟩ := h.ends a ha
 obtain ⟨c, c1, c2⟩ := hx.last
 refine ⟨x, c, hx, c1, fun hk => ?_, hview_end hx c1⟩
 by_cases e : c.n = x
 ·exact e
 ·exact absurd ⟨hk, e⟩ c2
theorem HOk.var (h : HOk σ) {a v : Int} (ha : isAddr σ.cs a = true) (hv : hview σ a = .var v) : End σ.cs a v ∧ ∃ c, hat σ.cs v = some c ∧ c.k = 0 ∧ c.n = v := by
 obtain ⟨x, c, h1, h2, h3, h4⟩ := h.view ha
 rw [h4] at hv
 split at hv
 ·rename_i hk; cases hv; exact ⟨h1, c, h2, hk, h3 hk⟩
 ·cases hv
theorem HOk.node (h : HOk σ) {a k n : Int} {s : ByteArray} {ar : List Int} (ha : isAddr σ.cs a = true) (hv : hview σ a = .node k n s ar) : ∃ x c, End σ.cs a x ∧ hat σ.cs x = some c ∧ c.k ≠ 0 ∧ k = c.k ∧ n = ctl c ∧ s = c.s ∧ ar = ups (x + 1) (argsC c).toNat := by
 obtain ⟨x, c, h1, h2, h3, h4⟩ := h.view ha
 rw [h4] at hv
 split at hv
 ·cases hv
 ·rename_i hk; cases hv; exact ⟨x, c, h1, h2, hk, rfl, rfl, rfl, rfl⟩
theorem addr_hat {L : List HC} {a : Int} : isAddr L a = true ↔ ∃ c, hat L a = some c := by
 rw [isAddr_iff']
 constructor
 ·rintro ⟨h0, h1⟩; exact hat_in h0 h1
 ·rintro ⟨c, hc⟩; exact ⟨(hatS.1 hc).1, (hatS.1 hc).2.1⟩
theorem goodTr1_set {L : List HC} {r y a : Int} {c : HC} (hr : hat L r = some c) (hk : c.k = 0) (h : goodTr1 L a = true) : goodTr1 (setN L r.toNat y) a = true := by
 unfold goodTr1 at h ⊢
 rw [hat_setN hr]
 by_cases e : a = r
 ·rw [if_pos e]; simpa using hk
 ·rw [if_neg e]; exact h
theorem HOk.set (h : HOk σ) {r y : Int} {c : HC} (hr : hat σ.cs r = some c) (hk : c.k = 0) (hn : c.n = r) (hy : End σ.cs y y) (hne : y ≠ r) :
  HOk (hset σ r y) ∧ ∀ a, isAddr σ.cs a = true → hview (hset σ r y) a = (hview σ a).sub r (hview σ y) := by
 obtain ⟨e1, e2⟩ := end_bind hr hk hn hy hne
 obtain ⟨d, hd, _⟩ := hy.last
 have hyl := hatS.1 hd
 refine ⟨⟨?_, fun a ha => ?_, fun a ha => ?_⟩, fun a ha => ?_⟩
 ·rw [hset_len]
  refine setN_good hyl.1 hyl.2.1 h.gl fun c' hc' => ?_
  rw [(hatS.1 hr).2.2] at hc'; cases hc'; exact hk
 ·rw [addr_hset] at ha
  obtain ⟨x, hx⟩ := h.ends a ha
  by_cases hxr : x = r
  ·subst hxr; exact ⟨y, e2 a hx⟩
  ·exact ⟨x, e1 a x hx hxr⟩
 ·rcases List.mem_append.1 ha with ha | ha
  ·exact goodTr1_set hr hk (h.tr a ha)
  ·rw [List.mem_singleton.1 ha]
   unfold goodTr1
   rw [show hat (hset σ r y).cs r = some ⟨c.k, y, c.s⟩ by show hat (setN σ.cs r.toNat y) r = _; rw [hat_setN hr, if_pos rfl]]
   simpa using hk
 ·obtain ⟨x, c', h1, h2, h3, h4⟩ := h.view ha
  by_cases hxr : x = r
  ·subst hxr
   rw [h2] at hr; cases hr
   rw [h4, if_pos hk]
   simp only [Vw.sub, if_true]
   rw [hview_end (e2 a h1) (c := d) (by show hat (setN σ.cs _ y) y = _; rw [hat_setN h2, if_neg hne]; exact hd), hview_end hy hd]
  ·rw [h4, hview_end (e1 a x h1 hxr) (c := c') (by show hat (setN σ.cs _ y) x = _; rw [hat_setN hr, if_neg hxr]; exact h2)]
   split
   ·simp only [Vw.sub]; rw [if_neg hxr]
   ·rfl
theorem hbind_ok {x t v k n : Int} {s : ByteArray} {ar : List Int} (hσ : HOk σ) (hx : isAddr σ.cs x = true) (ht : isAddr σ.cs t = true) (hv : hview σ x = .var v) (htv : hview σ t = .node k n s ar) : HOk (hset σ v (hlook σ.cs t)) ∧ ∀ y, isAddr σ.cs y = true → hview (hset σ v (hlook σ.cs t)) y = (hview σ y).sub v (hview σ t) := by
 obtain ⟨_, c, c1, c2, c3⟩ := hσ.var hx hv
 obtain ⟨z, d, d1, d2, d3, _⟩ := hσ.node ht htv
 have := hσ.set c1 c2 c3 d1.self fun e => by subst e; rw [c1] at d2; cases d2; exact d3 c2
 rw [d1.look]
 refine ⟨this.1, fun y hy => ?_⟩
 rw [this.2 y hy, hview_end d1 d2, hview_end d1.self d2]
theorem hjoin_ok {a b u v : Int} (hσ : HOk σ) (ha : isAddr σ.cs a = true) (hb : isAddr σ.cs b = true) (hu : hview σ a = .var u) (hv : hview σ b = .var v) (hne : u ≠ v) :
  HOk (hset σ (max (hlook σ.cs a) (hlook σ.cs b)) (min (hlook σ.cs a) (hlook σ.cs b))) ∧
  ((∀ y, isAddr σ.cs y = true → hview (hset σ (max (hlook σ.cs a) (hlook σ.cs b)) (min (hlook σ.cs a) (hlook σ.cs b))) y = (hview σ y).sub u (.var v)) ∨ (∀ y, isAddr σ.cs y = true → hview (hset σ (max (hlook σ.cs a) (hlook σ.cs b)) (min (hlook σ.cs a) (hlook σ.cs b))) y = (hview σ y).sub v (.var u))) := by
 obtain ⟨u1, c, c1, c2, c3⟩ := hσ.var ha hu
 obtain ⟨v1, d, d1, d2, d3⟩ := hσ.var hb hv
 have hvu : hview σ u = .var u := by rw [hview_end u1.self c1, if_pos c2]
 have hvv : hview σ v = .var v := by rw [hview_end v1.self d1, if_pos d2]
 rw [u1.look, v1.look]
 rcases Int.lt_or_lt_of_ne hne with hl | hl
 ·rw [show max u v = v by omega, show min u v = u by omega]
  have := hσ.set d1 d2 d3 u1.self hne
  exact ⟨this.1, .inr fun y hy => by rw [this.2 y hy, hvu]⟩
 ·rw [show max u v = u by omega, show min u v = v by omega]
  have := hσ.set c1 c2 c3 v1.self (Ne.symm hne)
  exact ⟨this.1, .inl fun y hy => by rw [this.2 y hy, hvv]⟩
end
theorem sysH_law : sysH.Law where
 bind_ok := fun hσ hx ht hv htv => (hbind_ok hσ hx ht hv htv).1
 bind_dom := fun hy => addr_hset.trans hy
 bind_view := fun hσ hx ht hv htv hy => (hbind_ok hσ hx ht hv htv).2 _ hy
 join_ok := fun hσ ha hb hu hv hne => (hjoin_ok hσ ha hb hu hv hne).1
 join_dom := fun hy => addr_hset.trans hy
 join_view := fun hσ ha hb hu hv hne => (hjoin_ok hσ ha hb hu hv hne).2
theorem args_dom {L : List HC} (hg : goodL L.length L = true) {x : Int} {c : HC} (hc : hat L x = some c) : (∀ i : Int, 0 ≤ i → i < argsC c → isAddr L (x + 1 + i) = true) ∧ 0 ≤ argsC c := by
 have h1 := hatS.1 hc
 have h2 := argsC_good (good_hat hg hc)
 exact ⟨fun i i0 i1 => by rw [isAddr_iff']; omega, h2.1⟩
def toU (h : HH) (w : Nat) : HU := ⟨h.cs, h.tr, w, decide (400 < w)⟩
theorem toU_step (h : HH) (w : Nat) : (toU h w).step = toU h (w + 1) := by
 unfold toU HU.step
 simp only [HU.mk.injEq, true_and]
 by_cases h1 : 400 < w
 ·simp [h1, show 400 < w + 1 by omega]
 ·simp [h1]
theorem toU_look {h : HH} (ho : HOk h) {a : Int} (ha : isAddr h.cs a = true) (w : Nat) : (toU h w).look a = (if 400 < w then -1 else hlook h.cs a, toU h w) := by
 obtain ⟨x, hx⟩ := ho.ends a ha
 have h0 := hx.nonneg
 unfold HU.look toU
 by_cases hw : 400 < w
 ·simp [hw]
 ·simp only [decide_eq_true_eq, hw, if_false, hx.look]
  simp [show ¬ x < 0 by omega]
section
variable {A : Sy}
theorem occG_over {σ : A.S} {v : Int} {f : Nat} {x : A.X} {w : Nat} (h : 400 < w + 1) : occG A σ v (f + 1) x w = (false, w + 1) := by simp only [occG]; rw [if_pos h]
theorem occG_var {σ : A.S} {v u : Int} {f : Nat} {x : A.X} {w : Nat} (h : ¬ 400 < w + 1) (e : A.view σ x = .var u) : occG A σ v (f + 1) x w = (decide (u = v), w + 1) := by simp only [occG]; rw [if_neg h, e]
theorem occG_node {σ : A.S} {v k n : Int} {s : ByteArray} {ar : List A.X} {f : Nat} {x : A.X} {w : Nat} (h : ¬ 400 < w + 1) (e : A.view σ x = .node k n s ar) : occG A σ v (f + 1) x w = anyG (occG A σ v f) ar (w + 1) := by simp only [occG]; rw [if_neg h, e]
theorem occG_same {σ : A.S} {v : Int} (f : Nat) {x y : A.X} (w : Nat) (e : A.view σ x = A.view σ y) : occG A σ v f x w = occG A σ v f y w := by
 cases f with
 | zero => rfl
 | succ f => simp only [occG]; rw [e]
theorem uniG_over {σ : A.S} {f : Nat} {a b : A.X} {w : Nat} (h : 400 < w + 1) : uniG A (f + 1) a b σ w = ⟨false, σ, w + 1⟩ := by simp only [uniG]; rw [if_pos h]
theorem uniG_same {σ : A.S} {f : Nat} {a b : A.X} {w : Nat} {u : Int} (h : ¬ 400 < w + 1) (e1 : A.view σ a = .var u) (e2 : A.view σ b = .var u) : uniG A (f + 1) a b σ w = ⟨true, σ, w + 1⟩ := by simp only [uniG]; rw [if_neg h, e1, e2]; dsimp only; rw [if_pos rfl]
theorem uniG_join {σ : A.S} {f : Nat} {a b : A.X} {w : Nat} {u v : Int} (h : ¬ 400 < w + 1) (e1 : A.view σ a = .var u) (e2 : A.view σ b = .var v) (hne : u ≠ v) : uniG A (f + 1) a b σ w = ⟨true, A.join σ a b, w + 1⟩ := by simp only [uniG]; rw [if_neg h, e1, e2]; dsimp only; rw [if_neg hne]
theorem uniG_vn {σ : A.S} {f : Nat} {a b : A.X} {w : Nat} {u k n : Int} {s : ByteArray} {ar : List A.X} (h : ¬ 400 < w + 1) (e1 : A.view σ a = .var u) (e2 : A.view σ b = .node k n s ar) : uniG A (f + 1) a b σ w = asgG A u b σ (w + 1) := by simp only [uniG]; rw [if_neg h, e1, e2]
theorem uniG_nv {σ : A.S} {f : Nat} {a b : A.X} {w : Nat} {v k n : Int} {s : ByteArray} {ar : List A.X} (h : ¬ 400 < w + 1) (e1 : A.view σ a = .node k n s ar) (e2 : A.view σ b = .var v) : uniG A (f + 1) a b σ w = asgG A v a σ (w + 1) := by simp only [uniG]; rw [if_neg h, e1, e2]
theorem uniG_nn {σ : A.S} {f : Nat} {a b : A.X} {w : Nat} {k n k' n' : Int} {s s' : ByteArray} {ar ar' : List A.X} (h : ¬ 400 < w + 1) (e1 : A.view σ a = .node k n s ar) (e2 : A.view σ b = .node k' n' s' ar') (he : k = k' ∧ n = n' ∧ s = s' ∧ ar.length = ar'.length) : uniG A (f + 1) a b σ w = allG (uniG A f) ar ar' σ (w + 1) := by simp only [uniG]; rw [if_neg h, e1, e2]; dsimp only; rw [if_pos he]
theorem uniG_no {σ : A.S} {f : Nat} {a b : A.X} {w : Nat} {k n k' n' : Int} {s s' : ByteArray} {ar ar' : List A.X} (h : ¬ 400 < w + 1) (e1 : A.view σ a = .node k n s ar) (e2 : A.view σ b = .node k' n' s' ar') (he : ¬ (k = k' ∧ n = n' ∧ s = s' ∧ ar.length = ar'.length)) : uniG A (f + 1) a b σ w = ⟨false, σ, w + 1⟩ := by simp only [uniG]; rw [if_neg h, e1, e2]; dsimp only; rw [if_neg he]
theorem appG_zero {σ : A.S} {f : Nat} {x : A.X} : appG A σ (f + 1) x 0 = none := by simp [appG]
theorem appG_var {σ : A.S} {f : Nat} {x : A.X} {l : Nat} {u : Int} (h : l ≠ 0) (e : A.view σ x = .var u) : appG A σ (f + 1) x l = some (⟨0, u, ⟨#[]⟩, .nil⟩, l - 1) := by simp only [appG]; rw [if_neg h, e]
theorem appG_node {σ : A.S} {f : Nat} {x : A.X} {l : Nat} {k n : Int} {s : ByteArray} {ar : List A.X} (h : l ≠ 0) (e : A.view σ x = .node k n s ar) : appG A σ (f + 1) x l = (mapG (appG A σ f) ar (l - 1)).map fun p => (⟨k, n, s, p.1⟩, p.2) := by
 simp only [appG]; rw [if_neg h, e]
 dsimp only
 cases mapG (appG A σ f) ar (l - 1) <;> rfl
end
def occHH (σ : HH) (v : Int) (f : Nat) (x : Int) (w : Nat) : Bool × Nat := occG sysH σ v f x w
def asgHH (v t : Int) (σ : HH) (w : Nat) : Ug HH := asgG sysH v t σ w
def uniHH (f : Nat) (a b : Int) (σ : HH) (w : Nat) : Ug HH := uniG sysH f a b σ w
def appHH (σ : HH) (f : Nat) (x : Int) (l : Nat) : Option (Tm × Nat) := appG sysH σ f x l
theorem asgHH_eq (v t : Int) (σ : HH) (w : Nat) : asgHH v t σ w = if (occHH σ v 401 t w).1 = true ∨ 400 < (occHH σ v 401 t w).2 then ⟨false, σ, (occHH σ v 401 t w).2⟩ else ⟨true, hset σ v (hlook σ.cs t), (occHH σ v 401 t w).2⟩ := rfl
theorem any_heq {h : HH} {g : Int → HU → Bool × HU} {g' : Int → Nat → Bool × Nat} (hg : ∀ x w, isAddr h.cs x = true → g x (toU h w) = ((g' x w).1, toU h (g' x w).2)) : ∀ (m : Nat) (x : Int) (w : Nat), (∀ i : Int, 0 ≤ i → i < m → isAddr h.cs (x + i) = true) → anyU g m x (toU h w) = ((anyG g' (ups x m) w).1, toU h (anyG g' (ups x m) w).2)
 | 0, x, w, _ => rfl
 | m + 1, x, w, hd => by
  have h0 := hd 0 (by omega) (by omega)
  rw [show x + 0 = x by omega] at h0
  simp only [anyU, ups, anyG]
  rw [hg x w h0]
  dsimp only
  by_cases hc : (g' x w).1 = true
  ·rw [if_pos hc, if_pos hc, hc]
  ·rw [if_neg hc, if_neg hc]
   exact any_heq hg m (x + 1) _ fun i i0 i1 => by rw [show x + 1 + i = x + (i + 1) by omega]; exact hd _ (by omega) (by omega)
theorem occ_heq {h : HH} (ho : HOk h) {v : Int} {c : HC} (hv : hat h.cs v = some c) (hk : c.k = 0) : ∀ (f : Nat) (b : Int) (w : Nat), isAddr h.cs b = true → occU v f b (toU h w) = ((occHH h v f b w).1, toU h (occHH h v f b w).2)
 | 0, b, w, hb => by
  simp only [occU]
  rw [toU_step, toU_look ho hb]; rfl
 | f + 1, b, w, hb => by
  obtain ⟨x, d, h1, h2, h3, h4⟩ := ho.view hb
  simp only [occU]
  rw [toU_step, toU_look ho hb]
  dsimp only
  by_cases hw : 400 < w + 1
  ·rw [if_pos (show (toU h (w + 1)).lg = true by simp [toU, hw]), show occHH h v (f + 1) b w = (false, w + 1) from occG_over (A := sysH) hw]
  ·rw [if_neg (show ¬ (toU h (w + 1)).lg = true by simp [toU]; omega), if_neg hw, h1.look]
   have ha : argsAt (toU h w).cs x = (argsC d).toNat := by show argsAt h.cs x = _; unfold argsAt; rw [h2]
   by_cases hdk : d.k = 0
   ·rw [show occHH h v (f + 1) b w = (decide (x = v), w + 1) from occG_var (A := sysH) hw (h4.trans (if_pos hdk))]
    by_cases e : v = x
    ·rw [if_pos e]; simp [e]
    ·rw [if_neg e, ha, show (argsC d).toNat = 0 by unfold argsC; rw [if_neg (by omega)]; rfl]
     simp only [anyU]
     rw [decide_eq_false (fun e2 : x = v => e e2.symm)]
   ·have e : v ≠ x := fun e => by subst e; rw [hv] at h2; cases h2; exact hdk hk
    rw [show occHH h v (f + 1) b w = anyG (occHH h v f) (ups (x + 1) (argsC d).toNat) (w + 1) from occG_node (A := sysH) hw (h4.trans (if_neg hdk)), if_neg e, ha]
    obtain ⟨g1, g2⟩ := args_dom ho.gl h2
    exact any_heq (fun x w hx => occ_heq ho hv hk f x w hx) _ _ _ fun i i0 i1 => g1 i i0 (by omega)
theorem occ_hlook {h : HH} (ho : HOk h) {v b : Int} (hb : isAddr h.cs b = true) (f w : Nat) : occHH h v f (hlook h.cs b) w = occHH h v f b w := by
 obtain ⟨x, d, h1, h2, h3, h4⟩ := ho.view hb
 refine occG_same (A := sysH) f w ?_
 show hview h (hlook h.cs b) = hview h b
 rw [h1.look]
 exact (hview_end h1.self h2).trans h4.symm
theorem asg_heq {h : HH} (ho : HOk h) {v t : Int} {c : HC} (hv : hat h.cs v = some c) (hk : c.k = 0) (ht : isAddr h.cs t = true) (w : Nat) :
  asgU v (hlook h.cs t) (toU h w) = ((asgHH v t h w).ok, toU (asgHH v t h w).s (asgHH v t h w).w) := by
 obtain ⟨y, hy⟩ := ho.ends t ht
 have hya : isAddr h.cs (hlook h.cs t) = true := by rw [hy.look]; obtain ⟨d, hd, _⟩ := hy.last; exact addr_hat.2 ⟨d, hd⟩
 rw [asgHH_eq]
 unfold asgU
 rw [occ_heq ho hv hk 401 _ w hya, occ_hlook ho ht]
 dsimp only
 by_cases hc : (occHH h v 401 t w).1 = true ∨ 400 < (occHH h v 401 t w).2
 ·rw [if_pos hc, if_pos (by simpa [toU] using hc)]
 ·rw [if_neg hc, if_neg (by simpa [toU] using hc)]
  rfl
theorem all_heq {g : Int → Int → HU → Bool × HU} {g' : Int → Int → HH → Nat → Ug HH} (n : Nat) (hg : ∀ x y σ w, HOk σ → σ.cs.length = n → isAddr σ.cs x = true → isAddr σ.cs y = true → g x y (toU σ w) = ((g' x y σ w).ok, toU (g' x y σ w).s (g' x y σ w).w) ∧ HOk (g' x y σ w).s ∧ (g' x y σ w).s.cs.length = n) :
  ∀ (m : Nat) (x y : Int) (σ : HH) (w : Nat), HOk σ → σ.cs.length = n → (∀ i : Int, 0 ≤ i → i < m → 0 ≤ x + i ∧ x + i < n ∧ 0 ≤ y + i ∧ y + i < n) → allU g m x y (toU σ w) = ((allG g' (ups x m) (ups y m) σ w).ok, toU (allG g' (ups x m) (ups y m) σ w).s (allG g' (ups x m) (ups y m) σ w).w) ∧ HOk (allG g' (ups x m) (ups y m) σ w).s ∧ (allG g' (ups x m) (ups y m) σ w).s.cs.length = n
 | 0, x, y, σ, w, ho, hn, _ => ⟨rfl, ho, hn⟩
 | m + 1, x, y, σ, w, ho, hn, hd => by
  obtain ⟨d0, d1, d2, d3⟩ := hd 0 (by omega) (by omega)
  obtain ⟨e1, e2, e3⟩ := hg x y σ w ho hn (by rw [isAddr_iff']; omega) (by rw [isAddr_iff']; omega)
  simp only [allU, ups, allG]
  rw [e1]
  dsimp only
  split
  ·exact all_heq n hg m (x + 1) (y + 1) _ _ e2 e3 fun i i0 i1 => by
    have := hd (i + 1) (by omega) (by omega)
    omega
  ·exact ⟨rfl, e2, e3⟩
theorem asgG_ok {h : HH} (ho : HOk h) {v t a : Int} (ha : isAddr h.cs a = true) (hv : hview h a = .var v) (ht : isAddr h.cs t = true) {k n : Int} {s : ByteArray} {ar : List Int} (htv : hview h t = .node k n s ar) (w : Nat) : HOk (asgHH v t h w).s ∧ (asgHH v t h w).s.cs.length = h.cs.length := by
 rw [asgHH_eq]
 split
 ·exact ⟨ho, rfl⟩
 ·exact ⟨(hbind_ok ho ha ht hv htv).1, hset_len _ _ _⟩
theorem uni_heq : ∀ (f : Nat) (a b : Int) (σ : HH) (w : Nat), HOk σ → isAddr σ.cs a = true → isAddr σ.cs b = true →
  uniU f a b (toU σ w) = ((uniHH f a b σ w).ok, toU (uniHH f a b σ w).s (uniHH f a b σ w).w) ∧ HOk (uniHH f a b σ w).s ∧ (uniHH f a b σ w).s.cs.length = σ.cs.length
 | 0, a, b, σ, w, ho, ha, hb => by
  refine ⟨?_, ho, rfl⟩
  simp only [uniU]
  rw [toU_step, toU_look ho ha, toU_look ho hb]; rfl
 | f + 1, a, b, σ, w, ho, ha, hb => by
  obtain ⟨x, c, h1, h2, h3, h4⟩ := ho.view ha
  obtain ⟨y, d, g1, g2, g3, g4⟩ := ho.view hb
  have hun : uniU (f + 1) a b (toU σ w) = if 400 < w + 1 then (false, toU σ (w + 1)) else if c.k = 0 then if d.k = 0 then if x = y then (true, toU σ (w + 1)) else (true, (toU σ (w + 1)).bind (max x y) (min x y)) else asgU x y (toU σ (w + 1)) else if d.k = 0 then asgU y x (toU σ (w + 1)) else partsU (uniU f) x y (toU σ (w + 1)) := by
   have kx : kindAt (toU σ w).cs x = c.k := by show kindAt σ.cs x = _; unfold kindAt; rw [h2]
   have ky : kindAt (toU σ w).cs y = d.k := by show kindAt σ.cs y = _; unfold kindAt; rw [g2]
   simp only [uniU]
   rw [toU_step, toU_look ho ha]
   dsimp only
   rw [toU_look ho hb]
   dsimp only
   by_cases hw : 400 < w + 1
   ·rw [if_pos (show (toU σ (w + 1)).lg = true by simp [toU, hw]), if_pos hw]
   ·rw [if_neg (show ¬ (toU σ (w + 1)).lg = true by simp [toU]; omega), if_neg hw, if_neg hw, if_neg hw, h1.look, g1.look, kx, ky]
  rw [hun]
  by_cases hw : 400 < w + 1
  ·rw [if_pos hw, show uniHH (f + 1) a b σ w = ⟨false, σ, w + 1⟩ from uniG_over (A := sysH) hw]
   exact ⟨rfl, ho, rfl⟩
  rw [if_neg hw]
  by_cases hc : c.k = 0
  ·have va : hview σ a = .var x := h4.trans (if_pos hc)
   rw [if_pos hc]
   by_cases hd : d.k = 0
   ·have vb : hview σ b = .var y := g4.trans (if_pos hd)
    rw [if_pos hd]
    by_cases e : x = y
    ·subst e
     rw [if_pos rfl, show uniHH (f + 1) a b σ w = ⟨true, σ, w + 1⟩ from uniG_same (A := sysH) hw va vb]
     exact ⟨rfl, ho, rfl⟩
    ·rw [if_neg e, show uniHH (f + 1) a b σ w = ⟨true, hset σ (max (hlook σ.cs a) (hlook σ.cs b)) (min (hlook σ.cs a) (hlook σ.cs b)), w + 1⟩ from uniG_join (A := sysH) hw va vb e]
     have := (hjoin_ok ho ha hb va vb e).1
     rw [h1.look, g1.look] at this ⊢
     exact ⟨rfl, this, hset_len _ _ _⟩
   ·have vb := g4.trans (if_neg hd)
    rw [if_neg hd, show uniHH (f + 1) a b σ w = asgHH x b σ (w + 1) from uniG_vn (A := sysH) hw va vb]
    refine ⟨?_, asgG_ok ho ha va hb vb _⟩
    have := asg_heq (c := c) ho h2 hc hb (w + 1)
    rw [g1.look] at this; exact this
  ·have va := h4.trans (if_neg hc)
   rw [if_neg hc]
   by_cases hd : d.k = 0
   ·have vb : hview σ b = .var y := g4.trans (if_pos hd)
    rw [if_pos hd, show uniHH (f + 1) a b σ w = asgHH y a σ (w + 1) from uniG_nv (A := sysH) hw va vb]
    refine ⟨?_, asgG_ok ho hb vb ha va _⟩
    have := asg_heq (c := d) ho g2 hd ha (w + 1)
    rw [h1.look] at this; exact this
   ·have vb := g4.trans (if_neg hd)
    rw [if_neg hd]
    obtain ⟨a1, a2⟩ := args_dom ho.gl h2
    obtain ⟨b1, b2⟩ := args_dom ho.gl g2
    have hgc := goodC_iff (good_hat ho.gl h2)
    have hgd := goodC_iff (good_hat ho.gl g2)
    have hiff : (c.k = d.k ∧ ctl c = ctl d ∧ c.s = d.s ∧ (ups (x + 1) (argsC c).toNat).length = (ups (y + 1) (argsC d).toNat).length) ↔ c = d := by
     rw [ups_len, ups_len]
     clear va vb h4 g4 h1 g1 h2 g2 h3 g3 a1 b1 hun
     obtain ⟨ck, cn, cs⟩ := c
     obtain ⟨dk, dn, ds⟩ := d
     simp only [HC.mk.injEq, ctl, argsC] at *
     constructor
     ·rintro ⟨e1, e2, e3, e4⟩
      subst e1
      refine ⟨rfl, ?_, e3⟩
      split at e4 <;> simp_all <;> omega
     ·rintro ⟨rfl, rfl, rfl⟩
      exact ⟨rfl, rfl, rfl, rfl⟩
    unfold partsU
    by_cases hcd : c = d
    ·have he : hat (toU σ (w + 1)).cs x = hat (toU σ (w + 1)).cs y := by show hat σ.cs x = hat σ.cs y; rw [h2, g2, hcd]
     rw [if_pos he, show uniHH (f + 1) a b σ w = allG (uniHH f) (ups (x + 1) (argsC c).toNat) (ups (y + 1) (argsC d).toNat) σ (w + 1) from uniG_nn (A := sysH) hw va vb (hiff.2 hcd)]
     have hargs : argsAt (toU σ (w + 1)).cs x = (argsC c).toNat := by show argsAt σ.cs x = _; unfold argsAt; rw [h2]
     rw [hargs, ← hcd]
     rw [← hcd] at b1 b2
     exact all_heq σ.cs.length (fun p q τ w' hτ hn hp hq => by
      obtain ⟨i1, i2, i3⟩ := uni_heq f p q τ w' hτ hp hq
      exact ⟨i1, i2, i3.trans hn⟩) _ _ _ _ _ ho rfl fun i i0 i1 => by
       have p1 := isAddr_iff'.1 (a1 i i0 (by omega))
       have p2 := isAddr_iff'.1 (b1 i i0 (by omega))
       omega
    ·have he : ¬ hat (toU σ (w + 1)).cs x = hat (toU σ (w + 1)).cs y := by
      show ¬ hat σ.cs x = hat σ.cs y
      rw [h2, g2]; exact fun e => hcd (Option.some.inj e)
     rw [if_neg he, show uniHH (f + 1) a b σ w = ⟨false, σ, w + 1⟩ from uniG_no (A := sysH) hw va vb fun h => hcd (hiff.1 h)]
     exact ⟨rfl, ho, rfl⟩
theorem list_heq {h : HH} {g g' : Int → Nat → Option (Tm × Nat)} (hg : ∀ x l, isAddr h.cs x = true → g x l = g' x l) : ∀ (m : Nat) (x : Int) (l : Nat), (∀ i : Int, 0 ≤ i → i < m → isAddr h.cs (x + i) = true) → listT g m x l = mapG g' (ups x m) l
 | 0, x, l, _ => rfl
 | m + 1, x, l, hd => by
  have h0 := hd 0 (by omega) (by omega)
  rw [show x + 0 = x by omega] at h0
  simp only [listT, ups, mapG]
  rw [hg x l h0]
  cases g' x l with
  | none => rfl
  | some p =>
   obtain ⟨t, l'⟩ := p
   simp only [Option.bind_some]
   rw [list_heq hg m (x + 1) l' fun i i0 i1 => by rw [show x + 1 + i = x + (i + 1) by omega]; exact hd _ (by omega) (by omega)]
   cases mapG g' (ups (x + 1) m) l' <;> rfl
theorem tm_heq {h : HH} (ho : HOk h) : ∀ (f : Nat) (a : Int) (l : Nat), isAddr h.cs a = true → tmAt h.cs f a l = appHH h f a l
 | 0, a, l, _ => rfl
 | f + 1, a, l, ha => by
  by_cases hl : l = 0
  ·subst hl
   rw [show appHH h (f + 1) a 0 = none from appG_zero (A := sysH)]
   simp [tmAt]
  obtain ⟨x, c, h1, h2, h3, h4⟩ := ho.view ha
  rw [tmAt_hat hl (by rw [h1.look]; exact h2), h1.look]
  have hgc := goodC_iff (good_hat ho.gl h2)
  by_cases hk : c.k = 0
  ·rw [if_pos hk]
   exact (appG_var (A := sysH) hl (h4.trans (if_pos hk))).symm
  have hv := h4.trans (if_neg hk)
  rw [if_neg hk, show appHH h (f + 1) a l = (mapG (appHH h f) (ups (x + 1) (argsC c).toNat) (l - 1)).map fun p => (⟨c.k, ctl c, c.s, p.1⟩, p.2) from appG_node (A := sysH) hl hv]
  by_cases k1 : c.k = 1
  ·rw [if_pos k1]
   have e1 : argsC c = 0 := by unfold argsC; rw [if_neg (by omega)]
   have e2 : ctl c = 0 := by unfold ctl; rw [if_neg (by omega)]; omega
   simp only [e1, e2, k1, Int.toNat_zero, ups, mapG, Option.map_some]
  by_cases k2 : c.k = 2
  ·rw [if_neg k1, if_pos k2]
   have e1 : argsC c = 0 := by unfold argsC; rw [if_neg (by omega)]
   have e2 : ctl c = c.n := by unfold ctl; rw [if_neg (by omega)]
   have e3 : c.s = eS := by
    rcases hgc with h | h | h | h
    ·omega
    ·omega
    ·exact h.2
    ·omega
   simp only [e1, e2, k2, e3, Int.toNat_zero, ups, mapG, Option.map_some]
  rw [if_neg k1, if_neg k2]
  have k3 : c.k = 3 := by omega
  have e2 : ctl c = 0 := by unfold ctl; rw [if_pos k3]
  obtain ⟨g1, g2⟩ := args_dom ho.gl h2
  rw [list_heq (fun y l hy => tm_heq ho f y l hy) _ _ _ fun i i0 i1 => g1 i i0 (by omega), e2, k3]
end Go.Proofs.Ythliapbflkfdiab
namespace Go.Proofs.Ythliapbflkfdiab
open Go.RowKit
theorem info_term : (Try.prog.info? 39).map (fun i => (i.zero, i.size, i.bytes)) = some (some (.agg #[.int .i64 0, .int .i64 0, .string .empty, .slice none 0 0]), 4, 56) := by kernel_rfl
end Go.Proofs.Ythliapbflkfdiab
