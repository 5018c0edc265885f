/- Steps of the proof. -/
import Derived.Test.YthliapbflkfdiacGreatDoorG7
namespace Go.Proofs.YthliapbflkfdiacGreatDoor
open Go.RowKit
set_option linter.unusedVariables false
set_option linter.unusedSimpArgs false
set_option maxRecDepth 100000
set_option maxHeartbeats 1000000
section
variable {M : List Nat} {w0 : World} {H : List (Nat × Obj)} {F : List (World → Prop)} {b mb clk : Nat} {es : Array MapEntry} {TR : Value} {rest : List Value} {O : List (Nat × Obj)} {G : List GB}
end
def SmB (B : Bnd) : Prop := ∀ x ∈ B, x.2.ar.nodes ≤ 24
theorem QcO {B : Bnd} (hB : SmB B) {t : Tm} (ht : t.ar.nodes ≤ 24) : (Qe B t).ar.nodes ≤ 24 := by
 rcases QjX (B := B) t with h | ⟨x, hx, h⟩
 ·rw [h]; exact ht
 ·rw [h]; exact hB x hx
theorem QrD {g : Tm → Nat → Bool × Nat} {K : Nat} : ∀ (T : Ts) (w : Nat), (∀ t : Tm, t.ar.nodes < T.nodes → ∀ w, (g t w).2 ≤ max (w + 1) K) → (Qs3 g T w).2 ≤ max w K + T.length
 | .nil, w, _ => by simp [Qs3, Ts.length]; omega
 | .cons k n s a r, w, h => by
  have h1 := h ⟨k, n, s, a⟩ Yi w
  have h2 := QrD r (g ⟨k, n, s, a⟩ w).2 fun t ht => h t Yi
  simp only [Qs3, Ts.length]
  split
  ·simp only; omega
  ·omega
theorem Qtj {B : Bnd} (hB : SmB B) (v : Int) : ∀ (f : Nat) (t : Tm), t.ar.nodes ≤ 24 → ∀ w, (Ql8 B v f t w).2 ≤ max (w + 1) (401 + 24 * f)
 | 0, t, ht, w => by simp only [Ql8]; omega
 | f + 1, t, ht, w => by
  simp only [Ql8]
  split
  ·simp only; omega
  ·split
   ·simp only; omega
   ·have hs := QcO hB ht
    have hl := (Qe B t).ar.length_le
    have := QrD (g := Ql8 B v f) (K := 401 + 24 * f) (Qe B t).ar (w + 1) fun u hu => Qtj hB v f u Ya
    omega
theorem Qtk {B : Bnd} {v : Int} : ∀ (f : Nat) (t : Tm) (w : Nat), w + 1 ≤ (Ql8 B v f t w).2
 | 0, t, w => Nat.le_refl _
 | f + 1, t, w => by
  have key : ∀ (T : Ts) (w : Nat), w ≤ (Qs3 (Ql8 B v f) T w).2 := by
   intro T
   induction T with
   | nil => intro w; exact Nat.le_refl _
   | cons k n s a r _ ih =>
    intro w
    have h1 := Qtk (B := B) (v := v) f ⟨k, n, s, a⟩ w
    have h2 := ih (Ql8 B v f ⟨k, n, s, a⟩ w).2
    simp only [Qs3]
    split
    ·simp only; omega
    ·omega
  simp only [Ql8]
  split
  ·exact Nat.le_refl _
  ·split
   ·exact Nat.le_refl _
   ·exact key _ _
structure UP (B : Bnd) (w : Nat) (r : Us) : Prop where
 bok : Bok r.B
 sm : SmB r.B
 ok : r.ok = true → r.w ≤ 400
 len : r.B.length + w ≤ B.length + r.w
 ext : ∃ N, r.B = N ++ B
theorem SmB.cons {B : Bnd} (h : SmB B) {x : Int × Tm} (hx : x.2.ar.nodes ≤ 24) : SmB (x :: B) := fun y hy => by
 rcases List.mem_cons.1 hy with rfl | hy
 ·exact hx
 ·exact h y hy
theorem QpZ {B : Bnd} {w : Nat} {v : Int} {t : Tm} (hB : Bok B) (hS : SmB B) (hv : Qdn v B = none) (hk : t.k ≠ 0) (ht : t.ar.nodes ≤ 24) : UP B w (Qps v t B w) := by
 have h1 := Qtk (B := B) (v := v) 401 t w
 unfold Qps
 split
 ·exact ⟨hB, hS, fun h => (by cases h), by simp only; omega, [], rfl⟩
 ·rename_i h
  exact ⟨⟨hv, fun h => absurd h hk, hB⟩, hS.cons ht, fun _ => by simp only; omega, by simp; omega, [(v, t)], rfl⟩
theorem Qp0 {g : Tm → Tm → Bnd → Nat → Us} : ∀ (T U : Ts) (B : Bnd) (w : Nat), (∀ a b : Tm, a.ar.nodes < T.nodes → b.ar.nodes < U.nodes → ∀ B w, Bok B → SmB B → w ≤ 400 → UP B w (g a b B w)) → Bok B → SmB B → w ≤ 400 → UP B w (Qma g T U B w)
 | .nil, U, B, w, h, hB, hS, hw => ⟨hB, hS, fun _ => hw, by simp [Qma], [], rfl⟩
 | .cons k n s a r, .nil, B, w, h, hB, hS, hw => ⟨hB, hS, fun _ => hw, by simp [Qma], [], rfl⟩
 | .cons k n s a r, .cons k' n' s' a' r', B, w, h, hB, hS, hw => by
  have h1 := h ⟨k, n, s, a⟩ ⟨k', n', s', a'⟩ Yi Yi B w hB hS hw
  simp only [Qma]
  split
  ·rename_i hok
   have h2 := Qp0 r r' _ _ (fun a b ha hb => h a b Yi Yi) h1.bok h1.sm (h1.ok hok)
   obtain ⟨N1, e1⟩ := h1.ext
   obtain ⟨N2, e2⟩ := h2.ext
   refine ⟨h2.bok, h2.sm, h2.ok, ?_, N2 ++ N1, by rw [e2, e1, List.append_assoc]⟩
   have := h1.len
   have := h2.len
   omega
  ·exact h1
theorem QfR : ∀ (f : Nat) (a b : Tm) (B : Bnd) (w : Nat), a.ar.nodes ≤ 24 → b.ar.nodes ≤ 24 → Bok B → SmB B → w ≤ 400 → UP B w (Qb4 f a b B w)
 | 0, a, b, B, w, ha, hb, hB, hS, hw => ⟨hB, hS, fun h => (by cases h), by simp only [Qb4]; omega, [], rfl⟩
 | f + 1, a, b, B, w, ha, hb, hB, hS, hw => by
  have ea := QcO hS ha
  have eb := QcO hS hb
  have na := Qcv hB a
  have nb := Qcv hB b
  have up1 : ∀ r : Us, UP B (w + 1) r → UP B w r := fun r h => ⟨h.bok, h.sm, h.ok, by have := h.len; omega, h.ext⟩
  simp only [Qb4]
  split
  ·exact ⟨hB, hS, fun h => (by cases h), by simp only; omega, [], rfl⟩
  split
  ·rename_i ha0
   split
   ·rename_i hb0
    by_cases e : (Qe B a).n = (Qe B b).n
    ·rw [if_pos e]
     exact ⟨hB, hS, fun _ => by simp only; omega, by simp only; omega, [], rfl⟩
    ·rw [if_neg e]
     exact ⟨⟨na ha0, fun h => ⟨fun h2 => e h2.symm, nb h⟩, hB⟩, hS.cons eb, fun _ => by simp only; omega, by simp; omega, [_], rfl⟩
   ·rename_i hb0
    exact up1 _ (QpZ hB hS (na ha0) hb0 eb)
  split
  ·rename_i ha0 hb0
   exact up1 _ (QpZ hB hS (nb hb0) ha0 ea)
  split
  ·exact up1 _ (Qp0 _ _ _ _ (fun x y hx hy B w hB hS hw => QfR f x y B w Ya Ya hB hS hw) hB hS Ya)
  ·exact ⟨hB, hS, fun h => (by cases h), by simp only; omega, [], rfl⟩
section
variable {M : List Nat} {w0 : World} {H : List (Nat × Obj)} {F : List (World → Prop)} {b mb clk ub : Nat} {es : Array MapEntry} {TR : Value} {rest : List Value} {O : List (Nat × Obj)} {G : List GB}
end
end Go.Proofs.YthliapbflkfdiacGreatDoor
