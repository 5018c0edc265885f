/- Steps of the proof. -/
import Derived.Test.YthliapbflkfdiacGreatDoorG8
namespace Go.Proofs.YthliapbflkfdiacGreatDoor
open Go.RowKit
set_option linter.unusedVariables false
set_option linter.unusedSimpArgs false
set_option maxRecDepth 100000
set_option maxHeartbeats 1000000
section
variable {M : List Nat} {w0 : World} {H : List (Nat × Obj)} {F : List (World → Prop)} {b mb clk ub : Nat} {es : Array MapEntry} {TR : Value} {rest : List Value} {O : List (Nat × Obj)} {G : List GB}
end
structure LC where
 hd : LT
 bA : Option Addr
 bc : Nat
 bd : TA
 vars : Int
def LC.cl (c : LC) : Cl := ⟨c.hd.k, c.hd.n, c.hd.s, c.hd.ar.ts, c.bd.ts, c.vars⟩
def Qky (w : World) (b : Nat) : List LC → Nat → Prop
 | [], _ => True
 | c :: r, o => w.cell? ⟨b, o, none⟩ = some (.int .i64 c.hd.k) ∧ w.cell? ⟨b, o + 1, none⟩ = some (.int .i64 c.hd.n) ∧ w.cell? ⟨b, o + 2, none⟩ = some (.string c.hd.s) ∧ w.cell? ⟨b, o + 3, none⟩ = some (.slice c.hd.A c.hd.ar.len c.hd.c) ∧
     w.cell? ⟨b, o + 4, none⟩ = some (.slice c.bA c.bd.len c.bc) ∧ w.cell? ⟨b, o + 5, none⟩ = some (.int .i64 c.vars) ∧ Qky w b r (o + 6)
def Qu9 (c : LC) (w : World) : Prop := LRd c.hd w ∧ ArA c.bA c.bc c.bd w
def QrR (L : List LC) (A : Option Addr) (c : Nat) (w : World) : Prop := L.length ≤ c ∧ (0 < L.length → ∃ b o, A = some ⟨b, o, none⟩ ∧ Qky w b L o) ∧ ∀ x ∈ L, Qu9 x w
theorem Qky.skip {w : World} {b : Nat} {R : List LC} : ∀ {D : List LC} {o : Nat}, Qky w b (D ++ R) o → Qky w b R (o + D.length * 6)
 | [], o, h => by simpa using h
 | c :: D, o, ⟨_, _, _, _, _, _, h⟩ => by
  have := Qky.skip (R := R) (D := D) h
  rwa [show o + 6 + D.length * 6 = o + (c :: D).length * 6 by simp; omega] at this
theorem QrR.some_ {L : List LC} {A : Option Addr} {c : Nat} {w : World} (h : QrR L A c w) (hl : 0 < L.length) : ∃ b o, A = some ⟨b, o, none⟩ := by
 obtain ⟨b, o, e, _⟩ := h.2.1 hl
 exact ⟨b, o, e⟩
theorem QrR.cells {D R : List LC} {x : LC} {b o c : Nat} {w : World} (h : QrR (D ++ x :: R) (some ⟨b, o, none⟩) c w) : w.cell? ⟨b, o + D.length * 6, none⟩ = some (.int .i64 x.hd.k) ∧ w.cell? ⟨b, o + D.length * 6 + 1, none⟩ = some (.int .i64 x.hd.n) ∧ w.cell? ⟨b, o + D.length * 6 + 2, none⟩ = some (.string x.hd.s) ∧ w.cell? ⟨b, o + D.length * 6 + 3, none⟩ = some (.slice x.hd.A x.hd.ar.len x.hd.c) ∧
   w.cell? ⟨b, o + D.length * 6 + 4, none⟩ = some (.slice x.bA x.bd.len x.bc) ∧ w.cell? ⟨b, o + D.length * 6 + 5, none⟩ = some (.int .i64 x.vars) := by
 obtain ⟨b', o', e, hs⟩ := h.2.1 Yh
 simp only [Option.some.injEq, Addr.mk.injEq, and_true] at e
 obtain ⟨rfl, rfl⟩ := e
 obtain ⟨h0, h1, h2, h3, h4, h5, _⟩ := hs.skip
 exact ⟨h0, h1, h2, h3, h4, h5⟩
theorem Qm5.locate {w : World} {p : Nat → Prop} : ∀ {L : List Cl} {b o : Nat}, Qm5 w p L b o → ∃ X : List LC, X.map LC.cl = L ∧ ∀ w' : World, (∀ k, p k → k < w.heap.size → w'.heap[k]? = w.heap[k]?) → Qky w' b X o ∧ ∀ x ∈ X, Qu9 x w'
 | [], b, o, _ => ⟨[], rfl, fun _ _ => ⟨trivial, fun x hx => by cases hx⟩⟩
 | c :: r, b, o, ⟨h0, h1, h2, h3, ⟨v, h4, h5⟩, ⟨u, h6, h7⟩, h8, h9⟩ => by
  obtain ⟨X, hX, hX'⟩ := Qm5.locate h9
  obtain ⟨A1, c1, L1, rfl, e1, k1⟩ := h5.locate
  obtain ⟨A2, c2, L2, rfl, e2, k2⟩ := h7.locate
  refine ⟨⟨⟨c.k, c.n, c.s, A1, c1, L1⟩, A2, c2, L2, c.vars⟩ :: X, ?_, fun w' hw => ?_⟩
  ·simp only [List.map_cons, hX, LC.cl, e1, e2]
  ·have hc : ∀ j, w'.cell? ⟨b, j, none⟩ = w.cell? ⟨b, j, none⟩ := fun j => World.cell?_of_block (hw b h0 (Qbe h1))
   obtain ⟨g1, g2⟩ := hX' w' hw
   refine ⟨⟨(hc _).trans h1, (hc _).trans h2, (hc _).trans h3, (hc _).trans h4, (hc _).trans h6, (hc _).trans h8, g1⟩, fun x hx => ?_⟩
   rcases List.mem_cons.1 hx with rfl | hx
   ·exact ⟨k1 w' hw, k2 w' hw⟩
   ·exact g2 x hx
theorem SlC.locate {w : World} {p : Nat → Prop} {L : List Cl} {v : Value} (h : SlC w p v L) : ∃ (A : Option Addr) (c : Nat) (X : List LC), v = .slice A X.length c ∧ X.map LC.cl = L ∧ ∀ w' : World, (∀ k, p k → k < w.heap.size → w'.heap[k]? = w.heap[k]?) → QrR X A c w' := by
 obtain ⟨A, c, rfl, h6, h7⟩ := h
 by_cases hl : 0 < L.length
 ·obtain ⟨b', o', e, h9⟩ := h7 hl
  obtain ⟨X, hX, hX'⟩ := h9.locate
  have e1 : X.length = L.length := by rw [← hX]; simp
  exact ⟨A, c, X, by rw [e1], hX, fun w' hw => ⟨by rw [e1]; exact h6, fun _ => ⟨b', o', e, (hX' w' hw).1⟩, (hX' w' hw).2⟩⟩
 ·have e0 : L = [] := List.eq_nil_of_length_eq_zero Ya
  subst e0
  exact ⟨A, c, [], rfl, rfl, fun w' hw => ⟨Nat.zero_le _, fun h => by simp at h, fun x hx => by cases hx⟩⟩
end Go.Proofs.YthliapbflkfdiacGreatDoor
