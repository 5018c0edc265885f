/- PSim1, PModel, MapM, SMem, SWalk1, SWalk2, SWalk3, SMem2, SWalk4, SWalk5, SMem3, SWalk6, Plan, SWalk7, SWalk8, SInv2, PSim2, PSim3, PSim4: texts that follow one another, laid into one file. -/
import Derived.Test.YthliapbflkfdiabZ0
import Derived.Test.YthliapbflkfdiabG4
import Derived.Test.YthliapbflkfdiabG1
import Derived.Test.YthliapbflkfdiabG3
import Derived.Test.YthliapbflkfdiabG0
namespace Go.Proofs.Ythliapbflkfdiab
open Go.RowKit
set_option linter.unusedVariables false
set_option linter.unusedSimpArgs false
def lowT (m : Int) (t : Tm) : Prop := (t.k = 0 → t.n < m) ∧ t.ar.vars (· < m)
def FB (m : Int) (B : Bnd) : Prop := ∀ x ∈ B, x.1 < m ∧ lowT m x.2
theorem Ts.vars_mono {P Q : Int → Prop} (h : ∀ n, P n → Q n) (T : Ts) : T.vars P → T.vars Q := by
 induction T with
 | nil => exact id
 | cons k n s ar r iha ihr => exact fun ⟨a, b, c⟩ => ⟨fun e => h _ (a e), iha b, ihr c⟩
theorem lowT.mono {m m' : Int} (h : m ≤ m') {t : Tm} (ht : lowT m t) : lowT m' t := ⟨fun e => Int.lt_of_lt_of_le (ht.1 e) h, Ts.vars_mono (fun _ hn => Int.lt_of_lt_of_le hn h) _ ht.2⟩
theorem FB.mono {m m' : Int} (h : m ≤ m') {B : Bnd} (hB : FB m B) : FB m' B := fun x hx => ⟨Int.lt_of_lt_of_le (hB x hx).1 h, (hB x hx).2.mono h⟩
theorem look_low {m : Int} {B : Bnd} (hB : FB m B) {t : Tm} (ht : lowT m t) : lowT m (lookM B t) := by
 rcases look_mem (B := B) t with e | ⟨x, hx, e⟩
 ·rw [e]; exact ht
 ·rw [e]; exact (hB x hx).2
theorem tms_low {m : Int} {T : Ts} (h : T.vars (· < m)) : ∀ x ∈ T.tms, lowT m x := by
 induction T with
 | nil => intro x hx; cases hx
 | cons k n s ar r _ ih =>
  intro x hx
  rcases List.mem_cons.1 hx with rfl | hx
  ·exact ⟨h.1, h.2.1⟩
  ·exact ih h.2.2 x hx
theorem FB.get {m : Int} {B : Bnd} (hB : FB m B) {n : Int} (hn : m ≤ n) : bget n B = none := by
 induction B with
 | nil => rfl
 | cons x r ih =>
  simp only [bget]
  rw [if_neg (by have := (hB x (List.mem_cons_self ..)).1; omega)]
  exact ih fun y hy => hB y (List.mem_cons_of_mem _ hy)
theorem FB.cons {m : Int} {B : Bnd} (hB : FB m B) {v : Int} {t : Tm} (hv : v < m) (ht : lowT m t) : FB m ((v, t) :: B) := fun x hx => by
 rcases List.mem_cons.1 hx with rfl | hx
 ·exact ⟨hv, ht⟩
 ·exact hB x hx
def JoinFB (j : Bnd → Tm → Tm → Bnd) : Prop := ∀ m B a b, FB m B → lowT m a → lowT m b → (lookM B a).k = 0 → (lookM B b).k = 0 → FB m (j B a b)
theorem joinS_fb : JoinFB joinS := fun m B a b hB ha hb ka kb => hB.cons ((look_low hB ha).1 ka) (look_low hB hb)
theorem asg_fb {j : Bnd → Tm → Tm → Bnd} {m : Int} {B : Bnd} (hB : FB m B) {v : Int} {t : Tm} (hv : v < m) (ht : lowT m t) (w : Nat) : FB m (asgG (sysT j) v t B w).s := by
 unfold asgG
 split
 ·exact hB
 ·exact hB.cons hv (look_low hB ht)
theorem all_fb {m : Int} {g : Tm → Tm → Bnd → Nat → Ug Bnd} (hg : ∀ a b B w, FB m B → lowT m a → lowT m b → FB m (g a b B w).s) : ∀ (l l' : List Tm) (B : Bnd) (w : Nat), FB m B → (∀ x ∈ l, lowT m x) → (∀ x ∈ l', lowT m x) → FB m (allG g l l' B w).s
 | [], l', B, w, h, _, _ => by cases l' <;> exact h
 | _ :: _, [], B, w, h, _, _ => h
 | x :: l, y :: l', B, w, h, hl, hl' => by
  simp only [allG]
  have h1 := hg x y B w h (hl x (List.mem_cons_self ..)) (hl' y (List.mem_cons_self ..))
  split
  ·exact all_fb hg l l' _ _ h1 (fun z hz => hl z (List.mem_cons_of_mem _ hz)) (fun z hz => hl' z (List.mem_cons_of_mem _ hz))
  ·exact h1
theorem ite_fb {m : Int} {c : Prop} [Decidable c] {x y : Ug Bnd} (hx : FB m x.s) (hy : FB m y.s) : FB m (if c then x else y).s := by
 split
 ·exact hx
 ·exact hy
theorem uni_fb {j : Bnd → Tm → Tm → Bnd} (hj : JoinFB j) {m : Int} : ∀ (f : Nat) (a b : Tm) (B : Bnd) (w : Nat), FB m B → lowT m a → lowT m b → FB m (uniG (sysT j) f a b B w).s
 | 0, a, b, B, w, h, _, _ => h
 | f + 1, a, b, B, w, h, ha, hb => by
  simp only [uniG]
  split
  ·exact h
  ·have la := look_low h ha
   have lb := look_low h hb
   have va : (sysT j).view B a = tvw (lookM B a) := rfl
   have vb : (sysT j).view B b = tvw (lookM B b) := rfl
   rw [va, vb]
   by_cases ka : (lookM B a).k = 0
   ·rw [show tvw (lookM B a) = .var (lookM B a).n by unfold tvw; rw [if_pos ka]]
    by_cases kb : (lookM B b).k = 0
    ·rw [show tvw (lookM B b) = .var (lookM B b).n by unfold tvw; rw [if_pos kb]]
     show FB m (if (lookM B a).n = (lookM B b).n then B else j B a b)
     split
     ·exact h
     ·exact hj m B a b h ha hb ka kb
    ·rw [show tvw (lookM B b) = .node (lookM B b).k (lookM B b).n (lookM B b).s (lookM B b).ar.tms by unfold tvw; rw [if_neg kb]]
     exact asg_fb h (la.1 ka) hb _
   ·rw [show tvw (lookM B a) = .node (lookM B a).k (lookM B a).n (lookM B a).s (lookM B a).ar.tms by unfold tvw; rw [if_neg ka]]
    by_cases kb : (lookM B b).k = 0
    ·rw [show tvw (lookM B b) = .var (lookM B b).n by unfold tvw; rw [if_pos kb]]
     exact asg_fb h (lb.1 kb) ha _
    ·rw [show tvw (lookM B b) = .node (lookM B b).k (lookM B b).n (lookM B b).s (lookM B b).ar.tms by unfold tvw; rw [if_neg kb]]
     exact ite_fb (all_fb (fun a b B w h ha hb => uni_fb hj f a b B w h ha hb) _ _ _ _ h (tms_low la.2) (tms_low lb.2)) h
theorem tidy_rel {ρ : Int → Int → Prop} (hi : ∀ u v u' v', ρ u v → ρ u' v' → (u = u' ↔ v = v')) {T U : Ts} (h : TsR ρ T U) : ∀ ks ks' : List Int, Al ρ ks ks' → (T.tidyFrom ks).1 = (U.tidyFrom ks').1 ∧ Al ρ (T.tidyFrom ks).2 (U.tidyFrom ks').2 := by
 have hpos : ∀ {n n' : Int}, ρ n n' → ∀ {ks ks' : List Int}, Al ρ ks ks' → pos n ks = pos n' ks' := by
  intro n n' hn ks ks' hk
  induction hk with
  | nil => rfl
  | @cons x y l m hxy _ ih =>
   simp only [pos]
   by_cases e : n = x
   ·rw [if_pos e, if_pos ((hi _ _ _ _ hn hxy).1 e)]
   ·rw [if_neg e, if_neg fun e2 => e ((hi _ _ _ _ hn hxy).2 e2), ih]
 induction h with
 | nil => intro ks ks' hk; exact ⟨rfl, hk⟩
 | @var n n' s r r' hn _ ih =>
  intro ks ks' hk
  rw [Ts.tidyFrom_cons, Ts.tidyFrom_cons]
  have e1 : tV 0 n ks = tV 0 n' ks' := by
   unfold tV numV; rw [if_pos rfl, if_pos rfl, hpos hn hk, hk.len]
  have e2 : Al ρ (tS 0 n ks) (tS 0 n' ks') := by
   unfold tS numS; rw [if_pos rfl, if_pos rfl, hpos hn hk]
   split
   ·exact hk
   ·exact hk.app (.cons hn .nil)
  obtain ⟨i1, i2⟩ := ih _ _ (show Al ρ (Ts.nil.tidyFrom (tS 0 n ks)).2 (Ts.nil.tidyFrom (tS 0 n' ks')).2 from e2)
  refine ⟨?_, i2⟩
  rw [e1, i1]; rfl
 | @node k n s ar ar' r r' hk0 _ _ iha ihr =>
  intro ks ks' hk
  rw [Ts.tidyFrom_cons, Ts.tidyFrom_cons]
  have e1 : tV k n ks = n := by unfold tV; rw [if_neg hk0]
  have e1' : tV k n ks' = n := by unfold tV; rw [if_neg hk0]
  have e2 : tS k n ks = ks := by unfold tS; rw [if_neg hk0]
  have e2' : tS k n ks' = ks' := by unfold tS; rw [if_neg hk0]
  rw [e1, e1', e2, e2']
  obtain ⟨i1, i2⟩ := iha _ _ hk
  obtain ⟨j1, j2⟩ := ihr _ _ i2
  exact ⟨by rw [i1, j1], j2⟩
end Go.Proofs.Ythliapbflkfdiab
namespace Go.Proofs.Ythliapbflkfdiab
open Go.RowKit
set_option linter.unusedVariables false
end Go.Proofs.Ythliapbflkfdiab
namespace Go.Proofs.Ythliapbflkfdiab
open Go.RowKit
set_option linter.unusedVariables false
set_option linter.unusedSimpArgs false
section
variable {P : Program} {n : Nat} {e : Env} {w : World} {Q : Exit → Act → World → Prop} {ops : Array Oper} {rest : List Oper} {ty : TypeId} {pos : String} {after : Array Edge} {d : Nat}
variable {M : List Nat} {w0 : World} {H H' : List (Nat × Obj)} {F : List (World → Prop)} {mb : Nat} {es : Array MapEntry} {clk : Nat} {ents : List (Int × Value)} {x y u : Operand} {v z : Value} {dst : Option Nat} {t kt : TypeId} {i : Int}
end
end Go.Proofs.Ythliapbflkfdiab
namespace Go.Proofs.Ythliapbflkfdiab
open Go.RowKit
set_option linter.unusedVariables false
set_option linter.unusedSimpArgs false
structure GB where
 v : Int
 t : LT
def ents (G : List GB) : List (Int × Value) := (G.map fun x => (x.v, tv x.t)).reverse
end Go.Proofs.Ythliapbflkfdiab
namespace Go.Proofs.Ythliapbflkfdiab
open Go.RowKit
set_option linter.unusedVariables false
set_option linter.unusedSimpArgs false
set_option maxRecDepth 100000
set_option maxHeartbeats 1000000
section
variable {M : List Nat} {w0 : World} {H : List (Nat × Obj)} {F : List (World → Prop)} {b mb clk : Nat} {es : Array MapEntry} {TR : Value} {rest : List Value} {O : List (Nat × Obj)} {G : List GB}
end
end Go.Proofs.Ythliapbflkfdiab
namespace Go.Proofs.Ythliapbflkfdiab
open Go.RowKit
set_option linter.unusedVariables false
set_option linter.unusedSimpArgs false
set_option maxRecDepth 100000
set_option maxHeartbeats 1000000
section
variable {M : List Nat} {w0 : World} {H : List (Nat × Obj)} {F : List (World → Prop)} {b mb clk ub : Nat} {es : Array MapEntry} {TR : Value} {rest : List Value} {O : List (Nat × Obj)} {G : List GB}
end
end Go.Proofs.Ythliapbflkfdiab
namespace Go.Proofs.Ythliapbflkfdiab
open Go.RowKit
set_option linter.unusedVariables false
set_option linter.unusedSimpArgs false
set_option maxRecDepth 100000
set_option maxHeartbeats 1000000
section
variable {M : List Nat} {w0 : World} {H : List (Nat × Obj)} {F : List (World → Prop)} {b mb clk ub : Nat} {es : Array MapEntry} {TR : Value} {rest : List Value} {O : List (Nat × Obj)} {G : List GB}
end
end Go.Proofs.Ythliapbflkfdiab
namespace Go.Proofs.Ythliapbflkfdiab
open Go.RowKit
set_option linter.unusedVariables false
set_option linter.unusedSimpArgs false
structure LC where
 hd : LT
 bA : Option Addr
 bc : Nat
 bd : TA
 vars : Int
def LC.cl (c : LC) : Cl := ⟨c.hd.k, c.hd.n, c.hd.s, c.hd.ar.ts, c.bd.ts, c.vars⟩
def ClsAt (w : World) (b : Nat) : List LC → Nat → Prop
 | [], _ => True
 | c :: r, o => w.cell? ⟨b, o, none⟩ = some (.int .i64 c.hd.k) ∧ w.cell? ⟨b, o + 1, none⟩ = some (.int .i64 c.hd.n) ∧ w.cell? ⟨b, o + 2, none⟩ = some (.string c.hd.s) ∧ w.cell? ⟨b, o + 3, none⟩ = some (.slice c.hd.A c.hd.ar.len c.hd.c) ∧
     w.cell? ⟨b, o + 4, none⟩ = some (.slice c.bA c.bd.len c.bc) ∧ w.cell? ⟨b, o + 5, none⟩ = some (.int .i64 c.vars) ∧ ClsAt w b r (o + 6)
def LCRd (c : LC) (w : World) : Prop := LRd c.hd w ∧ ArA c.bA c.bc c.bd w
def ClsR (L : List LC) (A : Option Addr) (c : Nat) (w : World) : Prop := L.length ≤ c ∧ (0 < L.length → ∃ b o, A = some ⟨b, o, none⟩ ∧ ClsAt w b L o) ∧ ∀ x ∈ L, LCRd x w
theorem ClsAt.skip {w : World} {b : Nat} {R : List LC} : ∀ {D : List LC} {o : Nat}, ClsAt w b (D ++ R) o → ClsAt w b R (o + D.length * 6)
 | [], o, h => by simpa using h
 | c :: D, o, ⟨_, _, _, _, _, _, h⟩ => by
  have := ClsAt.skip (R := R) (D := D) h
  rwa [show o + 6 + D.length * 6 = o + (c :: D).length * 6 by simp; omega] at this
theorem ClsR.some_ {L : List LC} {A : Option Addr} {c : Nat} {w : World} (h : ClsR L A c w) (hl : 0 < L.length) : ∃ b o, A = some ⟨b, o, none⟩ := by
 obtain ⟨b, o, e, _⟩ := h.2.1 hl
 exact ⟨b, o, e⟩
theorem ClsR.cells {D R : List LC} {x : LC} {b o c : Nat} {w : World} (h : ClsR (D ++ x :: R) (some ⟨b, o, none⟩) c w) : w.cell? ⟨b, o + D.length * 6, none⟩ = some (.int .i64 x.hd.k) ∧ w.cell? ⟨b, o + D.length * 6 + 1, none⟩ = some (.int .i64 x.hd.n) ∧ w.cell? ⟨b, o + D.length * 6 + 2, none⟩ = some (.string x.hd.s) ∧ w.cell? ⟨b, o + D.length * 6 + 3, none⟩ = some (.slice x.hd.A x.hd.ar.len x.hd.c) ∧
   w.cell? ⟨b, o + D.length * 6 + 4, none⟩ = some (.slice x.bA x.bd.len x.bc) ∧ w.cell? ⟨b, o + D.length * 6 + 5, none⟩ = some (.int .i64 x.vars) := by
 obtain ⟨b', o', e, hs⟩ := h.2.1 (by simp; omega)
 simp only [Option.some.injEq, Addr.mk.injEq, and_true] at e
 obtain ⟨rfl, rfl⟩ := e
 obtain ⟨h0, h1, h2, h3, h4, h5, _⟩ := hs.skip
 exact ⟨h0, h1, h2, h3, h4, h5⟩
theorem SegC.locate {w : World} {p : Nat → Prop} : ∀ {L : List Cl} {b o : Nat}, SegC w p L b o → ∃ X : List LC, X.map LC.cl = L ∧ ∀ w' : World, (∀ k, p k → k < w.heap.size → w'.heap[k]? = w.heap[k]?) → ClsAt w' b X o ∧ ∀ x ∈ X, LCRd x w'
 | [], b, o, _ => ⟨[], rfl, fun _ _ => ⟨trivial, fun x hx => by cases hx⟩⟩
 | c :: r, b, o, ⟨h0, h1, h2, h3, ⟨v, h4, h5⟩, ⟨u, h6, h7⟩, h8, h9⟩ => by
  obtain ⟨X, hX, hX'⟩ := SegC.locate h9
  obtain ⟨A1, c1, L1, rfl, e1, k1⟩ := h5.locate
  obtain ⟨A2, c2, L2, rfl, e2, k2⟩ := h7.locate
  refine ⟨⟨⟨c.k, c.n, c.s, A1, c1, L1⟩, A2, c2, L2, c.vars⟩ :: X, ?_, fun w' hw => ?_⟩
  ·simp only [List.map_cons, hX, LC.cl, e1, e2]
  ·have hc : ∀ j, w'.cell? ⟨b, j, none⟩ = w.cell? ⟨b, j, none⟩ := fun j => World.cell?_of_block (hw b h0 (lt_of_cell h1))
   obtain ⟨g1, g2⟩ := hX' w' hw
   refine ⟨⟨(hc _).trans h1, (hc _).trans h2, (hc _).trans h3, (hc _).trans h4, (hc _).trans h6, (hc _).trans h8, g1⟩, fun x hx => ?_⟩
   rcases List.mem_cons.1 hx with rfl | hx
   ·exact ⟨k1 w' hw, k2 w' hw⟩
   ·exact g2 x hx
theorem SlC.locate {w : World} {p : Nat → Prop} {L : List Cl} {v : Value} (h : SlC w p v L) : ∃ (A : Option Addr) (c : Nat) (X : List LC), v = .slice A X.length c ∧ X.map LC.cl = L ∧ ∀ w' : World, (∀ k, p k → k < w.heap.size → w'.heap[k]? = w.heap[k]?) → ClsR X A c w' := by
 obtain ⟨A, c, rfl, h6, h7⟩ := h
 by_cases hl : 0 < L.length
 ·obtain ⟨b', o', e, h9⟩ := h7 hl
  obtain ⟨X, hX, hX'⟩ := h9.locate
  have e1 : X.length = L.length := by rw [← hX]; simp
  exact ⟨A, c, X, by rw [e1], hX, fun w' hw => ⟨by rw [e1]; exact h6, fun _ => ⟨b', o', e, (hX' w' hw).1⟩, (hX' w' hw).2⟩⟩
 ·have e0 : L = [] := List.eq_nil_of_length_eq_zero (by omega)
  subst e0
  exact ⟨A, c, [], rfl, rfl, fun w' hw => ⟨Nat.zero_le _, fun h => by simp at h, fun x hx => by cases hx⟩⟩
end Go.Proofs.Ythliapbflkfdiab
namespace Go.Proofs.Ythliapbflkfdiab
open Go.RowKit
set_option linter.unusedVariables false
set_option linter.unusedSimpArgs false
set_option maxRecDepth 100000
set_option maxHeartbeats 1000000
section
variable {M : List Nat} {w0 : World} {H : List (Nat × Obj)} {F : List (World → Prop)}
end
end Go.Proofs.Ythliapbflkfdiab
namespace Go.Proofs.Ythliapbflkfdiab
open Go.RowKit
set_option linter.unusedVariables false
set_option linter.unusedSimpArgs false
set_option maxRecDepth 100000
set_option maxHeartbeats 1000000
theorem mapL_cons (g : Tm → Nat → Option (Tm × Nat)) (k n : Int) (s : ByteArray) (a r : Ts) (l : Nat) : mapL g (.cons k n s a r) l = (g ⟨k, n, s, a⟩ l).bind fun p => (mapL g r p.2).map fun q => (.cons p.1.k p.1.n p.1.s p.1.ar q.1, q.2) := by
 simp only [mapL]
 cases g ⟨k, n, s, a⟩ l with
 | none => rfl
 | some p =>
  simp only [Option.bind_some]
  cases mapL g r p.2 <;> rfl
theorem appM_succ (B : Bnd) (f : Nat) (t : Tm) (l : Nat) : appM B (f + 1) t l = if l = 0 then none else (mapL (appM B f) (lookM B t).ar (l - 1)).map fun p => (⟨(lookM B t).k, (lookM B t).n, (lookM B t).s, p.1⟩, p.2) := by
 simp only [appM]
 split
 ·rfl
 ·cases mapL (appM B f) (lookM B t).ar (l - 1) <;> rfl
theorem mapL_nodes {g : Tm → Nat → Option (Tm × Nat)} (hg : ∀ t l p, g t l = some p → p.1.ar.nodes + 1 + p.2 = l) : ∀ (T : Ts) (l : Nat) (p : Ts × Nat), mapL g T l = some p → p.1.nodes + p.2 = l ∧ p.1.length = T.length
 | .nil, l, p, h => by
  simp only [mapL, Option.some.injEq] at h
  subst h
  exact ⟨by simp [Ts.nodes], rfl⟩
 | .cons k n s a r, l, p, h => by
  rw [mapL_cons] at h
  cases h1 : g ⟨k, n, s, a⟩ l with
  | none => rw [h1] at h; cases h
  | some q =>
   rw [h1, Option.bind_some] at h
   cases h2 : mapL g r q.2 with
   | none => rw [h2] at h; cases h
   | some x =>
    rw [h2, Option.map_some, Option.some.injEq] at h
    subst h
    have := hg _ _ _ h1
    obtain ⟨i1, i2⟩ := mapL_nodes hg r q.2 x h2
    simp only [Ts.nodes, Ts.length]
    omega
theorem app_nodes {B : Bnd} : ∀ (f : Nat) (t : Tm) (l : Nat) (p : Tm × Nat), appM B f t l = some p → p.1.ar.nodes + 1 + p.2 = l
 | 0, t, l, p, h => by cases h
 | f + 1, t, l, p, h => by
  rw [appM_succ] at h
  by_cases h0 : l = 0
  ·rw [if_pos h0] at h; cases h
  ·rw [if_neg h0] at h
   cases h1 : mapL (appM B f) (lookM B t).ar (l - 1) with
   | none => rw [h1] at h; cases h
   | some q =>
    rw [h1, Option.map_some, Option.some.injEq] at h
    subst h
    have := (mapL_nodes (fun t l p h => app_nodes f t l p h) _ _ _ h1).1
    show q.1.nodes + 1 + q.2 = l
    omega
section
variable {M : List Nat} {w0 : World} {H : List (Nat × Obj)} {F : List (World → Prop)}
end
end Go.Proofs.Ythliapbflkfdiab
namespace Go.Proofs.Ythliapbflkfdiab
open Go.RowKit
set_option linter.unusedVariables false
set_option linter.unusedSimpArgs false
structure LE where
 A : Option Addr
 c : Nat
 T : TA
abbrev evcs (k : Int) (e : LE) : List Value := [.int .i64 k, .slice e.A e.T.len e.c]
def evL : List LE → List Value
 | [] => []
 | e :: r => evcs 1 e ++ evL r
theorem evL_app (a b : List LE) : evL (a ++ b) = evL a ++ evL b := by
 induction a with
 | nil => rfl
 | cons c r ih => simp [evL, ih]
end Go.Proofs.Ythliapbflkfdiab
namespace Go.Proofs.Ythliapbflkfdiab
open Go.RowKit
set_option linter.unusedVariables false
set_option linter.unusedSimpArgs false
set_option maxRecDepth 100000
set_option maxHeartbeats 1000000
section
variable {M : List Nat} {w0 : World} {H : List (Nat × Obj)} {F0 : List (World → Prop)} {b : Nat} {P : List LC} {pA : Option Addr} {pc vars : Nat}
end
end Go.Proofs.Ythliapbflkfdiab
namespace Go.Proofs.Ythliapbflkfdiab
open Go.RowKit
set_option linter.unusedSimpArgs false
set_option linter.unusedVariables false
inductive Plan where
 | tail
 | read (i : Nat) (p : Plan)
 | pick (i : Nat) (p more : Plan)
 | none
def Plan.heads : Plan → List Nat
 | .pick i _ more => i :: more.heads
 | _ => []
section
variable {P : Program} {ops : Array Oper} {Q : Exit → Act → World → Prop} {md : Region.Mode} {S : World → Prop} {n : Nat}
def wpPlan (P : Program) (ops : Array Oper) (Q : Exit → Act → World → Prop) (S : World → Prop) (tail : List Oper) : Plan → Act → World → Prop
 | .tail, a, w => wpList P ops Q tail a w
 | .read i p, a, w => ∃ o v, ops[i]? = some o ∧ YieldsIf P ops S o v a ∧ (∀ c a w, Q (.panic c) (a.put o.dst v) w → Q (.panic c) a w) ∧ wpPlan P ops Q S tail p (a.put o.dst v) w
 | .pick i p more, a, w => (∃ o, ops[i]? = some o ∧ wpList P ops (Exit.then (fun a' w' => S w' ∧ wpPlan P ops Q S tail p a' w') Q) [o] a w) ∧ wpPlan P ops Q S tail more a w
 | .none, _, _ => True
def planB (md : Region.Mode) (ops : Array Oper) (n : Nat) : Plan → Nat → Array Bool → Bool → Bool
 | .tail, d, listed, top => top && decide (d = 0) && Region.seqB md ops (ops.size - n) n listed
 | .read i p, d, listed, top => top && decide (0 < d) && (Region.ready md ops listed).contains i && Region.free md ops listed i && decide (i < n) && planB md ops n p (d - 1) (listed.setIfInBounds i true) true
 | .pick i p more, d, listed, top => (!top || decide (Region.ready md ops listed = (Plan.pick i p more).heads)) && decide (0 < d) && decide (i < n) && planB md ops n p (d - 1) (listed.setIfInBounds i true) true && planB md ops n more d listed false
 | .none, _, _, top => !top
theorem plan_pick {tail : List Oper} {a : Act} {w : World} {d : Nat} {listed : Array Bool} : ∀ (pl : Plan), planB md ops n pl d listed false = true → wpPlan P ops Q S tail pl a w → ∀ j ∈ pl.heads, j < n ∧ 0 < d ∧ ∃ p o, ops[j]? = some o ∧ planB md ops n p (d - 1) (listed.setIfInBounds j true) true = true ∧ wpList P ops (Exit.then (fun a' w' => S w' ∧ wpPlan P ops Q S tail p a' w') Q) [o] a w
 | .tail, h, _, j, hj => by simp [Plan.heads] at hj
 | .read i p, h, _, j, hj => by simp [Plan.heads] at hj
 | .none, h, _, j, hj => by simp [Plan.heads] at hj
 | .pick i p more, h, hw, j, hj => by
  simp only [planB, Bool.and_eq_true, decide_eq_true_eq] at h
  obtain ⟨⟨⟨⟨_, hd⟩, hin⟩, h1⟩, h2⟩ := h
  simp only [Plan.heads, List.mem_cons] at hj
  rcases hj with rfl | hj
  ·obtain ⟨⟨o, ho, hl⟩, _⟩ := hw
   exact ⟨hin, hd, p, o, ho, h1, hl⟩
  ·exact plan_pick more h2 hw.2 j hj
theorem wpMix_of_plan (hsel : Region.noSelect ops = true) (tail : List Oper) (htl : ∀ j, tail[j]? = ops[n + j]?) (htn : tail.length = ops.size - n) (hwait : n < ops.size → Region.sinkB md ops n = true ∧ Region.chainB md ops n = true) : ∀ (d : Nat) (pl : Plan) (listed : Array Bool) (a : Act) (w : World), HeadInv md ops n listed → S w →
  planB md ops n pl d listed true = true → wpPlan P ops Q S tail pl a w → wpMix P md ops Q S n (d + tail.length) listed a w := by
 intro d
 induction d with
 | zero =>
  intro pl listed a w hcl hS hB h
  cases pl with
  | tail =>
   simp only [planB, Bool.and_eq_true] at hB
   rw [Nat.zero_add]
   exact wpMix_of_seq tail n listed a w (Nat.le_refl _) htl (by rw [htn]; exact hB.2) h
  | read i p => simp [planB] at hB
  | pick i p more => simp [planB] at hB
  | none => simp [planB] at hB
 | succ d ih =>
  intro pl listed a w hcl hS hB h
  cases pl with
  | tail => simp [planB] at hB
  | none => simp [planB] at hB
  | read i p =>
   simp only [planB, Bool.and_eq_true, decide_eq_true_eq] at hB
   obtain ⟨⟨⟨⟨_, hr⟩, hf⟩, hin⟩, hB'⟩ := hB
   obtain ⟨o, v, ho, hy, hQ, h'⟩ := h
   have hr' : i ∈ Region.ready md ops listed := by simpa using hr
   rw [show d + 1 + tail.length = (d + tail.length) + 1 by omega]
   exact wpMix_first ho (Region.noSelect_spec hsel) hQ hwait hin _ listed a w hcl (Region.free_spec ho hf) hr' hy hS
    (ih p _ _ _ (hcl.set hr' hin) hS hB' h')
  | pick i p more =>
   have hB0 : planB md ops n (.pick i p more) (d + 1) listed false = true := by
    simp only [planB, Bool.and_eq_true, decide_eq_true_eq] at hB ⊢
    obtain ⟨⟨⟨⟨_, hd⟩, hin⟩, h1⟩, h2⟩ := hB
    exact ⟨⟨⟨⟨by simp, hd⟩, hin⟩, h1⟩, h2⟩
   have hr : Region.ready md ops listed = (Plan.pick i p more).heads := by
    simp only [planB, Bool.and_eq_true, decide_eq_true_eq] at hB
    simpa using hB.1.1.1.1
   have hk := plan_pick (P := P) (Q := Q) (S := S) (tail := tail) (a := a) (w := w) _ hB0 h
   rw [show d + 1 + tail.length = (d + tail.length) + 1 by omega]
   refine ⟨fun h1 => (by rw [h1] at hr; cases hr), fun j hj => ?_⟩
   obtain ⟨hjn, _, q, o, ho, hq, hl⟩ := hk j (by rw [← hr]; exact hj)
   exact wpOp_mono (fun a' w' h3 => ⟨fun _ => h3.1, ih q _ _ _ (hcl.set hj hjn) h3.1 hq h3.2⟩) (wpOp_of_list ho hl)
theorem wp_region_plan {id : Nat} {a : Act} {w : World} {l : List Oper} (S : World → Prop) (n : Nat) (pl : Plan) (hm : P.follows .mixedOrders = true)
  (hB : (Region.noSelect l.toArray && decide (n ≤ l.length) && (decide (n = l.length) || (Region.sinkB .any l.toArray n && Region.chainB .any l.toArray n)) && planB .any l.toArray n pl n (Array.replicate l.toArray.size false) true) = true) (hS : S w.drew)
  (h : wpPlan P l.toArray Q S (l.drop n) pl a w.drew) : (Code.region id l.toArray true).wp P Q a w := by
 simp only [Bool.and_eq_true, decide_eq_true_eq] at hB
 obtain ⟨⟨⟨hsel, hle⟩, hwt⟩, hB⟩ := hB
 have hcl : HeadInv .any l.toArray n (Array.replicate l.toArray.size false) :=
  ⟨by simp, fun j oj _ hl => (by rw [getD_replicate_false] at hl; cases hl), fun t _ ht => getD_in (by simpa using ht) (getD_replicate_false _ _)⟩
 have hwait : n < l.toArray.size → Region.sinkB .any l.toArray n = true ∧ Region.chainB .any l.toArray n = true := fun h => by
  simp only [Bool.or_eq_true, Bool.and_eq_true, decide_eq_true_eq] at hwt
  rcases hwt with e | e
  ·simp at h; omega
  ·exact e
 have hdl : (l.drop n).length = l.toArray.size - n := by simp
 have H := wpMix_of_plan (md := .any) (n := n) hsel (l.drop n) (fun j => by simp [List.getElem?_drop]) hdl hwait n pl _ a w.drew hcl hS hB h
 refine wp_region_any hm ?_
 have e : n + (l.drop n).length = l.toArray.size := by rw [hdl]; simp; omega
 rw [e] at H
 exact wpAny_of_mix _ _ _ _ H
end
section
variable {P : Program} {f : FuncId} {R : Ending → World → Prop} {k : List Item} {n : Nat} {e : Env} {w : World} {S : World → Prop} {ops : Array Oper} {tail : List Oper} {r more : Plan}
variable {ty : TypeId} {pos : String} {after : Array Edge} {d i : Nat}
def Pln (P : Program) (f : FuncId) (R : Ending → World → Prop) (k : List Item) (ops : Array Oper) (S : World → Prop) (tail : List Oper) (r : Plan) (n : Nat) (e : Env) (w : World) : Prop :=
 wpPlan P ops (qk P f R k) S tail r (act n e) w
theorem goes_plan {id : Nat} {l : List Oper} (S : World → Prop) (m : Nat) (pl : Plan) (hm : P.follows .mixedOrders = true)
  (hB : (Region.noSelect l.toArray && decide (m ≤ l.length) && (decide (m = l.length) || (Region.sinkB .any l.toArray m && Region.chainB .any l.toArray m)) && planB .any l.toArray m pl m (Array.replicate l.toArray.size false) true) = true)
  (hS : S w.drew) (h : Pln P f R k l.toArray S (l.drop m) pl n e w.drew) : Goes P f R (.code (.region id l.toArray true) :: k) (act n e) w :=
 goes_of_wp (wp_region_plan S m pl hm hB hS h)
theorem pln_read {op : Op} {v : Value} (ho : ops[i]? = some ⟨some d, op, ty, pos, after, none⟩) (hr : ∀ w', S w' → (execOp (ev n e) ⟨some d, op, ty, pos, after, none⟩).run P w' = .ok (.value v) w') (hd : Nat.blt d n = true)
  (h : Pln P f R k ops S tail r n ((d, v) :: e) w) : Pln P f R k ops S tail (.read i r) n e w := by
 refine ⟨_, v, ho, .inl ⟨by simp [Region.wanted], fun w' hw => by rw [act_eval]; exact hr w' hw⟩, fun c a w h => h.elim, ?_⟩
 rw [act_put hd]; exact h
def qp (P : Program) (f : FuncId) (R : Ending → World → Prop) (k : List Item) (ops : Array Oper) (S : World → Prop) (tail : List Oper) (r : Plan) : Exit → Act → World → Prop :=
 Exit.then (fun a' w' => S w' ∧ wpPlan P ops (qk P f R k) S tail r a' w') (qk P f R k)
theorem pln_pick {o : Oper} (ho : ops[i]? = some o) (h : Lst P (qp P f R k ops S tail r) ops [o] n e w) (h2 : Pln P f R k ops S tail more n e w) : Pln P f R k ops S tail (.pick i r more) n e w := by unfold Lst at h; exact ⟨⟨o, ho, h⟩, h2⟩
theorem pln_last {o : Oper} (ho : ops[i]? = some o) (h : Lst P (qp P f R k ops S tail r) ops [o] n e w) : Pln P f R k ops S tail (.pick i r .none) n e w := by unfold Lst at h; exact ⟨⟨o, ho, h⟩, trivial⟩
theorem lst_pln (hS : S w) (h : Pln P f R k ops S tail r n e w) : Lst P (qp P f R k ops S tail r) ops [] n e w := by unfold Lst; exact ⟨hS, h⟩
theorem pln_tail (h : Lst P (qk P f R k) ops tail n e w) : Pln P f R k ops S tail .tail n e w := by unfold Lst at h; exact h
theorem goes_meet2 {c1 : Item} (s t : Nat) (J : List Nat) (Φ : Value → Value → World → Prop)
  (h : (∀ (v u : Value) (e' : Env) (w' : World), Φ v u w' → lk e' s = v → lk e' t = u → keep (s :: t :: J) e' = keep (s :: t :: J) e → Goes P f R k (act n e') w') → Goes P f R (c1 :: k) (act n e) w)
  (h2 : ∀ (jv : Nat → Value) (v u : Value) (w' : World), Φ v u w' → Goes P f R k (act n ((s, v) :: (t, u) :: (junkE jv J ++ e))) w') : Goes P f R (c1 :: k) (act n e) w :=
 h fun v u e' w' hΦ h1 h3 hk => by
  have := h2 (lk e') v u w' hΦ
  rw [act_round hk]
  have e2 : junkE (lk e') (s :: t :: J) ++ e = (s, v) :: (t, u) :: (junkE (lk e') J ++ e) := by simp [junkE, h1, h3]
  rw [e2]; exact this
theorem goes_mb1 {c1 c2 : Item} (s : Nat) (J : List Nat) (Φ : Value → World → Prop)
  (h : (∀ (v : Value) (e' : Env) (w' : World), Φ v w' → lk e' s = v → keep (s :: J) e' = keep (s :: J) e → Goes P f R k (act n e') w') → Goes P f R (c1 :: c2 :: k) (act n e) w)
  (h2 : ∀ (jv : Nat → Value) (v : Value) (w' : World), Φ v w' → Goes P f R k (act n ((s, v) :: (junkE jv J ++ e))) w') : Goes P f R (c1 :: c2 :: k) (act n e) w :=
 h fun v e' w' hΦ h1 hk => by
  have := h2 (lk e') v w' hΦ
  rw [act_round hk]
  have e2 : junkE (lk e') (s :: J) ++ e = (s, v) :: (junkE (lk e') J ++ e) := by simp [junkE, h1]
  rw [e2]; exact this
theorem goes_meet1 {c1 : Item} (s : Nat) (J : List Nat) (Φ : Value → World → Prop)
  (h : (∀ (v : Value) (e' : Env) (w' : World), Φ v w' → lk e' s = v → keep (s :: J) e' = keep (s :: J) e → Goes P f R k (act n e') w') → Goes P f R (c1 :: k) (act n e) w)
  (h2 : ∀ (jv : Nat → Value) (v : Value) (w' : World), Φ v w' → Goes P f R k (act n ((s, v) :: (junkE jv J ++ e))) w') : Goes P f R (c1 :: k) (act n e) w :=
 h fun v e' w' hΦ h1 hk => by
  have := h2 (lk e') v w' hΦ
  rw [act_round hk]
  have e2 : junkE (lk e') (s :: J) ++ e = (s, v) :: (junkE (lk e') J ++ e) := by simp [junkE, h1]
  rw [e2]; exact this
end
attribute [irreducible] Pln
end Go.Proofs.Ythliapbflkfdiab
namespace Go.Proofs.Ythliapbflkfdiab
open Go.RowKit
set_option linter.unusedVariables false
set_option linter.unusedSimpArgs false
set_option maxRecDepth 100000
set_option maxHeartbeats 1000000
theorem equal_inv {s : SS} {a t : Tm} (hI : InvC s) (hsl : s.B.length + 10100 * (mu s + 1) ≤ 1000000000) (ha : tgd a) (ht : tgd t) : InvC (s.setB (uniM 401 a t s.B 0).B) := by
 have hup := suni_up 401 a t s.B 0 ha.small ht.small hI.bok hI.sm (by omega)
 have hw := uni_w 401 a t s.B 0 ha.small ht.small hI.bok hI.sm (by omega)
 have hgb := uni_Q tgd_down 401 a t s.B 0 hI.gb ha ht
 obtain ⟨N, hN⟩ := hup.ext
 have hlen := hup.len
 have hle : s.B.length ≤ (uniM 401 a t s.B 0).B.length := by rw [hN]; simp
 exact ⟨hup.bok, hgb, hI.ch.mono hle, hI.fr, by show (uniM 401 a t s.B 0).B.length + 10100 * mu s ≤ _; omega⟩
section
variable {M : List Nat} {w0 : World} {H : List (Nat × Obj)} {F0 F : List (World → Prop)} {b : Nat} {P : List LC} {pA : Option Addr} {pc vars : Nat}
end
end Go.Proofs.Ythliapbflkfdiab
namespace Go.Proofs.Ythliapbflkfdiab
open Go.RowKit
set_option linter.unusedVariables false
set_option linter.unusedSimpArgs false
set_option maxRecDepth 100000
set_option maxHeartbeats 1000000
theorem toList_iff {s : ByteArray} (l : Str) : s.toList = l ↔ s = ⟨l.toArray⟩ := by
 constructor
 ·intro h; exact str_eq.1 (h.trans (toList_mk l).symm)
 ·intro h; rw [h, toList_mk]
theorem cut_inv {s : SS} (hI : InvC s) (n : Nat) : InvC ⟨s.B, s.fresh, s.fuel, s.goals, s.ch.drop (s.ch.length - n), s.ev⟩ := by
 have hc := cnt_drop s.ch (s.ch.length - n)
 have h1 := hI.fr
 have h2 := hI.bl
 unfold mu at h1 h2
 exact ⟨hI.bok, hI.gb, hI.ch.drop _, by unfold mu; simp only; omega, by unfold mu; simp only; omega⟩
section
variable {M : List Nat} {w0 : World} {H : List (Nat × Obj)} {F0 F : List (World → Prop)} {b : Nat} {P : List LC} {pA : Option Addr} {pc vars : Nat}
end
end Go.Proofs.Ythliapbflkfdiab
namespace Go.Proofs.Ythliapbflkfdiab
set_option linter.unusedVariables false
theorem again_ok {s : SS} (h : InvC s) : ((againM s).1 = 0 → Inv (againM s).2 ∧ mu (againM s).2 < mu s) ∧ (againM s).2.ev = s.ev ∧ ((againM s).1 = 0 ∨ (againM s).1 = 2 ∨ (againM s).1 = 4) := by
 obtain ⟨h1, h2, h3, _⟩ := retry_ok (cntC s.ch + 1) s h
 exact ⟨h1, h2, h3⟩
structure StepOk (s : SS) (r : Int × SS) : Prop where
 go : r.1 = 0 → Inv r.2 ∧ mu r.2 < mu s
 kind : 0 ≤ r.1 ∧ r.1 ≤ 6 ∧ r.1 ≠ 1
theorem popped_inv {s : SS} {g : Gl} {rest : List Gl} (hI : Inv s) (hg : s.goals = g :: rest) (hf : s.fuel ≠ 0) : InvC ⟨s.B, s.fresh, s.fuel - 1, rest, s.ch, s.ev⟩ ∧ s.B.length + 10100 * (mu ⟨s.B, s.fresh, s.fuel - 1, rest, s.ch, s.ev⟩ + 1) ≤ 1000000000 ∧ (∀ g ∈ rest, tgd g.1) ∧ olderOk rest g.2 ∧ g.2 ≤ s.ch.length ∧ tgd g.1 ∧ mu ⟨s.B, s.fresh, s.fuel - 1, rest, s.ch, s.ev⟩ + 25 = mu s := by
 have h1 := hI.c.fr
 have h2 := hI.c.bl
 have h3 := hI.gg
 have h4 := hI.og
 rw [hg] at h3 h4
 have hm : mu ⟨s.B, s.fresh, s.fuel - 1, rest, s.ch, s.ev⟩ + 25 = mu s := by unfold mu; simp only; omega
 exact ⟨⟨hI.c.bok, hI.c.gb, hI.c.ch, by simp only; omega, by simp only; omega⟩, by omega, fun x hx => h3 x (.tail _ hx), h4.2, h4.1, h3 g (.head _), hm⟩
theorem again_step {s s0 : SS} (h : InvC s) (hm : mu s ≤ mu s0) : StepOk s0 (againM s) := by
 obtain ⟨h1, h2, h3⟩ := again_ok h
 exact ⟨fun e => ⟨(h1 e).1, Nat.lt_of_lt_of_le (h1 e).2 hm⟩, by rcases h3 with h | h | h <;> rw [h] <;> decide⟩
theorem equal_step {s s0 : SS} {a t : Tm} (hI : InvC s) (hsl : s.B.length + 10100 * (mu s + 1) ≤ 1000000000) (ha : tgd a) (ht : tgd t) (hgg : ∀ g ∈ s.goals, tgd g.1) (hog : olderOk s.goals s.ch.length) (hm : mu s < mu s0) : StepOk s0 (equalM a t s) := by
 have hi := equal_inv hI hsl ha ht
 unfold equalM
 simp only
 split
 ·exact ⟨fun h => (by cases h), by refine ⟨?_, ?_, ?_⟩ <;> simp only <;> decide⟩
 split
 ·exact ⟨fun _ => ⟨⟨hi, hgg, hog⟩, hm⟩, by refine ⟨?_, ?_, ?_⟩ <;> simp only <;> decide⟩
 ·exact again_step hi (Nat.le_of_lt hm)
theorem Ts.at_mem : ∀ {T : Ts} {i : Nat}, i < T.length → T.Mem (T.at_ i)
 | .nil, _, h => by simp [Ts.length] at h
 | .cons k n s a r, 0, _ => .inl rfl
 | .cons k n s a r, i + 1, h => .inr (Ts.at_mem (T := r) (i := i) (by simp only [Ts.length] at h; omega))
theorem built_step {s s0 : SS} {g : Gl} (hI : InvC s) (hsl : s.B.length + 10100 * (mu s + 1) ≤ 1000000000) (hg : tgd g.1) (hgo : g.2 ≤ s.ch.length) (hgg : ∀ g ∈ s.goals, tgd g.1) (hog : olderOk s.goals g.2) (hb : builtB g.1.s.toList g.1.ar.length = true) (hm : mu s < mu s0) : StepOk s0 (builtM g s) := by
 have hog2 := hog.mono hgo
 have hd := tgd_down _ hg
 unfold builtM
 unfold builtB at hb
 split
 ·refine ⟨fun _ => ⟨⟨cut_inv hI g.2, hgg, ?_⟩, ?_⟩, by refine ⟨?_, ?_, ?_⟩ <;> simp only <;> decide⟩
  ·show olderOk s.goals (s.ch.drop (s.ch.length - g.2)).length
   exact hog.mono (by simp; omega)
  ·have := cnt_drop s.ch (s.ch.length - g.2)
   unfold mu at *; simp only; omega
 rename_i h1
 rw [if_neg h1] at hb
 split
 ·exact ⟨fun _ => ⟨⟨hI, hgg, hog2⟩, hm⟩, by refine ⟨?_, ?_, ?_⟩ <;> simp only <;> decide⟩
 rename_i h2
 rw [if_neg h2] at hb
 split
 ·rename_i h3
  rw [if_neg (by rw [h3]; decide), if_pos h3] at hb
  have hl : g.1.ar.length = 2 := by simpa using hb
  exact equal_step hI hsl (hd _ (Ts.at_mem (by omega))) (hd _ (Ts.at_mem (by omega))) hgg hog2 hm
 rename_i h3
 split
 ·unfold lessM
  simp only
  split
  ·exact ⟨fun h => (by cases h), by refine ⟨?_, ?_, ?_⟩ <;> simp only <;> decide⟩
  split
  ·exact again_step hI (Nat.le_of_lt hm)
  ·exact ⟨fun _ => ⟨⟨hI, hgg, hog2⟩, hm⟩, by refine ⟨?_, ?_, ?_⟩ <;> simp only <;> decide⟩
 rename_i h4
 split
 ·rename_i h5
  rw [if_neg (by rw [h5]; decide), if_neg (by rw [h5]; decide), if_neg (by rw [h5]; decide), if_pos h5] at hb
  have hl : g.1.ar.length = 3 := by simpa using hb
  unfold addM
  simp only
  split
  ·exact ⟨fun h => (by cases h), by refine ⟨?_, ?_, ?_⟩ <;> simp only <;> decide⟩
  split
  ·exact ⟨fun h => (by cases h), by refine ⟨?_, ?_, ?_⟩ <;> simp only <;> decide⟩
  ·rename_i hk hr
   refine equal_step hI hsl (hd _ (Ts.at_mem (by omega))) ?_ hgg hog2 hm
   refine ⟨?_, by simp [Ts.nodes]⟩
   simp only [Ts.good, Bool.and_eq_true, and_true]
   unfold nodeB
   rw [if_neg (by decide), if_neg (by decide), if_pos rfl]
   simp only [Bool.and_eq_true, decide_eq_true_eq]
   exact ⟨⟨⟨by omega, by omega⟩, toList_mk []⟩, rfl⟩
 ·exact again_step hI (Nat.le_of_lt hm)
theorem push_inv {s : SS} {g : Gl} {rest : List Gl} {c : Cl} {cs : List Cl} (hI : Inv s) (hg : s.goals = g :: rest) (hf : s.fuel ≠ 0) (hc : ∀ x ∈ c :: cs, cB x = true) (hl : (c :: cs).length ≤ 24) :
  InvC ⟨s.B, s.fresh, s.fuel - 1, rest, ⟨g, rest, c :: cs, s.B.length⟩ :: s.ch, s.ev⟩ ∧ mu ⟨s.B, s.fresh, s.fuel - 1, rest, ⟨g, rest, c :: cs, s.B.length⟩ :: s.ch, s.ev⟩ < mu s := by
 obtain ⟨h1, h2, h3, h4, h5, h6, h7⟩ := popped_inv hI hg hf
 have hm : mu ⟨s.B, s.fresh, s.fuel - 1, rest, ⟨g, rest, c :: cs, s.B.length⟩ :: s.ch, s.ev⟩ < mu s := by
  unfold mu at *; simp only [cntC] at *; omega
 have a1 := hI.c.fr
 have a2 := hI.c.bl
 refine ⟨⟨hI.c.bok, hI.c.gb, ?_, by simp only; omega, by simp only; omega⟩, hm⟩
 exact ⟨Nat.le_refl _, ⟨h5, h4⟩, fun x hx => by
  rcases List.mem_cons.1 hx with rfl | hx
  ·exact h6
  ·exact h3 x hx, by simp, hc, hI.c.ch⟩
theorem step_ok {p : List Cl} {vars : Nat} {s : SS} (hI : Inv s) (hev : s.ev.length < 12) (hp : pB p = true) : StepOk s (stepM p vars s) ∧ ((stepM p vars s).1 = 0 → (stepM p vars s).2.ev.length < 12) := by
 have hp2 : p.length ≤ 24 ∧ ∀ x ∈ p, cB x = true := by
  unfold pB at hp
  simp only [Bool.and_eq_true, decide_eq_true_eq, List.all_eq_true] at hp
  exact hp
 have hag : ∀ s' : SS, InvC s' → s'.ev.length < 12 → ((againM s').1 = 0 → (againM s').2.ev.length < 12) := fun s' h1 h2 _ => by rw [(again_ok h1).2.1]; exact h2
 have heq : ∀ (s' : SS) (a t : Tm), InvC s' → s'.B.length + 10100 * (mu s' + 1) ≤ 1000000000 → tgd a → tgd t → s'.ev.length < 12 → ((equalM a t s').1 = 0 → (equalM a t s').2.ev.length < 12) := fun s' a t h1 h2 h3 h4 h5 => by
  have hi := equal_inv h1 h2 h3 h4
  unfold equalM
  simp only
  split
  ·intro h; cases h
  split
  ·intro _; exact h5
  ·exact hag _ hi h5
 unfold stepM
 cases hg : s.goals with
 | nil =>
  simp only
  unfold answerM
  cases hv : varsM s.B vars 0 200 with
  | none => exact ⟨⟨fun h => (by cases h), by refine ⟨?_, ?_, ?_⟩ <;> simp only <;> decide⟩, fun h => by cases h⟩
  | some x =>
   simp only
   have hi : InvC ⟨s.B, s.fresh, s.fuel, s.goals, s.ch, s.ev ++ [x.1.tidy]⟩ := ⟨hI.c.bok, hI.c.gb, hI.c.ch, hI.c.fr, hI.c.bl⟩
   split
   ·exact ⟨⟨fun h => (by cases h), by refine ⟨?_, ?_, ?_⟩ <;> simp only <;> decide⟩, fun h => by cases h⟩
   ·rename_i h12
    refine ⟨again_step hi (Nat.le_refl _), hag _ hi ?_⟩
    simp at h12 ⊢; omega
 | cons g rest =>
  simp only
  split
  ·exact ⟨⟨fun h => (by cases h), by refine ⟨?_, ?_, ?_⟩ <;> simp only <;> decide⟩, fun h => by cases h⟩
  rename_i hf
  obtain ⟨h1, h2, h3, h4, h5, h6, h7⟩ := popped_inv hI hg hf
  split
  ·rename_i hb
   refine ⟨built_step h1 h2 h6 h5 h3 h4 hb (by omega), ?_⟩
   have hd := tgd_down _ h6
   unfold builtB at hb
   unfold builtM
   split
   ·intro _; exact hev
   rename_i k1
   rw [if_neg k1] at hb
   split
   ·intro _; exact hev
   rename_i k2
   rw [if_neg k2] at hb
   split
   ·rename_i k3
    rw [if_neg (by rw [k3]; decide), if_pos k3] at hb
    have hl : g.1.ar.length = 2 := by simpa using hb
    exact heq _ _ _ h1 h2 (hd _ (Ts.at_mem (by omega))) (hd _ (Ts.at_mem (by omega))) hev
   split
   ·unfold lessM
    simp only
    split
    ·intro h; cases h
    split
    ·exact hag _ h1 hev
    ·intro _; exact hev
   split
   ·rename_i k5
    rw [if_neg (by rw [k5]; decide), if_neg (by rw [k5]; decide), if_neg (by rw [k5]; decide), if_pos k5] at hb
    have hl : g.1.ar.length = 3 := by simpa using hb
    unfold addM
    simp only
    split
    ·intro h; cases h
    split
    ·intro h; cases h
    ·refine heq _ _ _ h1 h2 (hd _ (Ts.at_mem (by omega))) ?_ hev
     refine ⟨?_, by simp [Ts.nodes]⟩
     simp only [Ts.good, Bool.and_eq_true, and_true]
     unfold nodeB
     rw [if_neg (by decide), if_neg (by decide), if_pos rfl]
     simp only [Bool.and_eq_true, decide_eq_true_eq]
     exact ⟨⟨⟨by omega, by omega⟩, toList_mk []⟩, rfl⟩
   ·exact hag _ h1 hev
  ·cases hm : p.filter (fitsC g.1) with
   | nil => exact ⟨⟨fun h => (by cases h), by refine ⟨?_, ?_, ?_⟩ <;> simp only <;> decide⟩, fun h => by cases h⟩
   | cons c cs =>
    simp only
    have hsub : ∀ x ∈ c :: cs, cB x = true := fun x hx => hp2.2 x (by rw [← hm] at hx; exact (List.mem_filter.1 hx).1)
    have hlen : (c :: cs).length ≤ 24 := by rw [← hm]; exact Nat.le_trans (List.length_filter_le _ _) hp2.1
    obtain ⟨i1, i2⟩ := push_inv hI hg hf hsub hlen
    exact ⟨again_step i1 (Nat.le_of_lt i2), hag _ i1 hev⟩
theorem equal_ev {s : SS} {a t : Tm} (hI : InvC s) (hsl : s.B.length + 10100 * (mu s + 1) ≤ 1000000000) (ha : tgd a) (ht : tgd t) : (equalM a t s).2.ev = s.ev := by
 have hi := equal_inv hI hsl ha ht
 unfold equalM
 simp only
 split
 ·rfl
 split
 ·rfl
 ·exact (again_ok hi).2.1
theorem built_ev {s : SS} {g : Gl} (hI : InvC s) (hsl : s.B.length + 10100 * (mu s + 1) ≤ 1000000000) (hg : tgd g.1) (hb : builtB g.1.s.toList g.1.ar.length = true) : (builtM g s).2.ev = s.ev := by
 have hd := tgd_down _ hg
 unfold builtB at hb
 unfold builtM
 split
 ·rfl
 rename_i k1
 rw [if_neg k1] at hb
 split
 ·rfl
 rename_i k2
 rw [if_neg k2] at hb
 split
 ·rename_i k3
  rw [if_neg (by rw [k3]; decide), if_pos k3] at hb
  have hl : g.1.ar.length = 2 := by simpa using hb
  exact equal_ev hI hsl (hd _ (Ts.at_mem (by omega))) (hd _ (Ts.at_mem (by omega)))
 split
 ·unfold lessM
  simp only
  split
  ·rfl
  split
  ·exact (again_ok hI).2.1
  ·rfl
 split
 ·rename_i k5
  rw [if_neg (by rw [k5]; decide), if_neg (by rw [k5]; decide), if_neg (by rw [k5]; decide), if_pos k5] at hb
  have hl : g.1.ar.length = 3 := by simpa using hb
  unfold addM
  simp only
  split
  ·rfl
  split
  ·rfl
  ·refine equal_ev hI hsl (hd _ (Ts.at_mem (by omega))) ?_
   refine ⟨?_, by simp [Ts.nodes]⟩
   simp only [Ts.good, Bool.and_eq_true, and_true]
   unfold nodeB
   rw [if_neg (by decide), if_neg (by decide), if_pos rfl]
   simp only [Bool.and_eq_true, decide_eq_true_eq]
   exact ⟨⟨⟨by omega, by omega⟩, toList_mk []⟩, rfl⟩
 ·exact (again_ok hI).2.1
theorem step_ans (p : List Cl) (vars : Nat) (s : SS) (hI : Inv s) (hp : pB p = true) : (stepM p vars s).2.ev = s.ev ∨ ∃ T l, varsM s.B vars 0 200 = some (T, l) ∧ (stepM p vars s).2.ev = s.ev ++ [T.tidy] ∧ ((stepM p vars s).1 = 6 ↔ s.ev.length + 1 = 12) := by
 have hp2 : p.length ≤ 24 ∧ ∀ x ∈ p, cB x = true := by
  unfold pB at hp
  simp only [Bool.and_eq_true, decide_eq_true_eq, List.all_eq_true] at hp
  exact hp
 unfold stepM
 cases hg : s.goals with
 | nil =>
  simp only
  unfold answerM
  cases hv : varsM s.B vars 0 200 with
  | none => exact .inl rfl
  | some x =>
   right
   refine ⟨x.1, x.2, rfl, ?_⟩
   simp only
   have hi : InvC ⟨s.B, s.fresh, s.fuel, s.goals, s.ch, s.ev ++ [x.1.tidy]⟩ := ⟨hI.c.bok, hI.c.gb, hI.c.ch, hI.c.fr, hI.c.bl⟩
   obtain ⟨a1, a2, a3⟩ := again_ok hi
   split
   ·rename_i h12
    refine ⟨rfl, fun _ => by simpa using h12, fun _ => rfl⟩
   ·rename_i h12
    refine ⟨a2, fun h => ?_, fun h => absurd (by simpa using h) h12⟩
    rcases a3 with e | e | e <;> rw [e] at h <;> cases h
 | cons g rest =>
  simp only
  split
  ·exact .inl rfl
  rename_i hf
  obtain ⟨h1, h2, h3, h4, h5, h6, h7⟩ := popped_inv hI hg hf
  split
  ·rename_i hb
   exact .inl (built_ev h1 h2 h6 hb)
  ·cases hm : p.filter (fitsC g.1) with
   | nil => exact .inl rfl
   | cons c cs =>
    simp only
    have hsub : ∀ x ∈ c :: cs, cB x = true := fun x hx => hp2.2 x (by rw [← hm] at hx; exact (List.mem_filter.1 hx).1)
    have hlen : (c :: cs).length ≤ 24 := by rw [← hm]; exact Nat.le_trans (List.length_filter_le _ _) hp2.1
    obtain ⟨i1, i2⟩ := push_inv hI hg hf hsub hlen
    exact .inl (again_ok i1).2.1
theorem step_ev (p : List Cl) (vars : Nat) (s : SS) (hI : Inv s) (hev : s.ev.length < 12) (hp : pB p = true) : (stepM p vars s).2.ev.length ≤ 12 := by
 rcases step_ans p vars s hI hp with h | ⟨T, l, _, h, _⟩
 ·rw [h]; omega
 ·rw [h]; simp; omega
theorem start_inv {q : Ts} {vars fuel : Nat} (hq : qB vars q = true) (hf : fuel ≤ 150) : Inv (startM q vars fuel) ∧ mu (startM q vars fuel) ≤ 3750 := by
 simp only [qB, Bool.and_eq_true, decide_eq_true_eq] at hq
 have hv : (vars : Int) ≤ 8 := hq.1.1.2
 refine ⟨⟨⟨trivial, fun x hx => (by cases hx), trivial, by unfold mu startM; simp only [cntC]; omega, by unfold mu startM; simp only [cntC, List.length_nil]; omega⟩, ?_, ?_⟩, by unfold mu startM; simp only [cntC]; omega⟩
 ·exact body_gd hv (by omega) (by omega) (fun g hg => (by cases hg)) q hq.2
 ·exact body_older (rest := []) trivial q
end Go.Proofs.Ythliapbflkfdiab
namespace Go.Proofs.Ythliapbflkfdiab
open Go.RowKit
set_option linter.unusedVariables false
set_option linter.unusedSimpArgs false
section
variable {P : List Cl} {q : Nat}
end
end Go.Proofs.Ythliapbflkfdiab
namespace Go.Proofs.Ythliapbflkfdiab
open Go.RowKit
set_option linter.unusedVariables false
set_option linter.unusedSimpArgs false
section
variable {P : List Cl} {q : Nat}
end
end Go.Proofs.Ythliapbflkfdiab
namespace Go.Proofs.Ythliapbflkfdiab
open Go.RowKit
set_option linter.unusedVariables false
set_option linter.unusedSimpArgs false
theorem map_tms {g : Tm → Nat → Option (Tm × Nat)} : ∀ (T : Ts) (l : Nat), mapL g T l = mapG g T.tms l
 | .nil, l => rfl
 | .cons k n s a r, l => by
  simp only [mapL, Ts.tms, mapG]
  cases g ⟨k, n, s, a⟩ l with
  | none => rfl
  | some p =>
   obtain ⟨t, l'⟩ := p
   dsimp only
   rw [map_tms r]
   all_goals (cases mapG g r.tms l' <;> rfl)
theorem mapG_congr {g g' : Tm → Nat → Option (Tm × Nat)} : ∀ (l : List Tm), (∀ x ∈ l, ∀ m, g x m = g' x m) → ∀ m, mapG g l m = mapG g' l m
 | [], _, m => rfl
 | x :: r, h, m => by
  simp only [mapG]
  rw [h x (List.mem_cons_self ..) m]
  cases g' x m with
  | none => rfl
  | some p =>
   obtain ⟨t, l'⟩ := p
   dsimp only
   rw [mapG_congr r (fun y hy => h y (List.mem_cons_of_mem _ hy))]
theorem tms_Mem {x : Tm} : ∀ {T : Ts}, x ∈ T.tms → T.Mem x
 | .nil, h => by cases h
 | .cons k n s a r, h => by
  rcases List.mem_cons.1 h with rfl | h
  ·exact .inl rfl
  ·exact .inr (tms_Mem h)
theorem tgd_var {t : Tm} (h : tgd t) (hk : t.k = 0) : t.s = ⟨#[]⟩ ∧ t.ar = .nil := by
 have := h.1
 simp only [Ts.good, Bool.and_eq_true] at this
 have hn := this.1.1
 unfold nodeB at hn
 rw [if_pos hk] at hn
 simp only [Bool.and_eq_true, decide_eq_true_eq] at hn
 exact ⟨str_eq.1 (hn.1.2.trans (toList_mk []).symm), Ts.nil_of_length hn.2⟩
theorem app_eq {B : Bnd} (hB : ∀ x ∈ B, tgd x.2) : ∀ (f : Nat) (t : Tm) (l : Nat), tgd t → appM B f t l = appG sysS B f t l
 | 0, t, l, _ => rfl
 | f + 1, t, l, ht => by
  have hl := look_Q hB ht
  simp only [appM, appG]
  split
  ·rfl
  ·rw [show sysS.view B t = tvw (lookM B t) from rfl]
   unfold tvw
   by_cases hk : (lookM B t).k = 0
   ·rw [if_pos hk]
    obtain ⟨h1, h2⟩ := tgd_var hl hk
    rw [h2, h1, hk]; rfl
   ·rw [if_neg hk, map_tms]
    have := mapG_congr (g := appM B f) (g' := appG sysS B f) (lookM B t).ar.tms (fun x hx m => app_eq hB f x m (tgd_down _ hl x (tms_Mem hx))) (l - 1)
    rw [this]; rfl
theorem tgd_q {v : Nat} (hv : v < 1000) : tgd ⟨0, (v : Nat), ⟨#[]⟩, .nil⟩ := by
 refine ⟨?_, by simp [Ts.nodes]⟩
 simp only [Ts.good, Bool.and_eq_true, and_true]
 unfold nodeB
 rw [if_pos rfl]
 simp only [Bool.and_eq_true, decide_eq_true_eq]
 exact ⟨⟨⟨by omega, by omega⟩, toList_mk []⟩, rfl⟩
section
variable {P : List Cl} {q : Nat}
end
end Go.Proofs.Ythliapbflkfdiab
