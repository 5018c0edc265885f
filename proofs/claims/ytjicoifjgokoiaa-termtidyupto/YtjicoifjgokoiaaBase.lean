/-
  Terms in memory: a list of terms as a tree of first child and next sibling, and what it means that a slice of terms in a world reads as such a list. No program is named here.
-/
import Derived.WalkKit
import Derived.ProofKit
import Derived.Below
import Derived.Deep.Draws
import Derived.Maps.AppendAt
import Derived.Lib.Hide
namespace Go.Proofs.Ytjicoifjgokoiaa
open Go.RowKit

/-- A list of terms: the first one's kind, number, name and arguments, and the rest of the list. -/
inductive Ts where
  | nil
  | cons (k n : Int) (s : ByteArray) (ar r : Ts)

def Ts.length : Ts → Nat
  | .nil => 0
  | .cons _ _ _ _ r => r.length + 1
def Ts.nodes : Ts → Nat
  | .nil => 0
  | .cons _ _ _ ar r => ar.nodes + r.nodes + 1
def Ts.app : Ts → Ts → Ts
  | .nil, y => y
  | .cons k n s ar r, y => .cons k n s ar (r.app y)
theorem Ts.length_le (T : Ts) : T.length ≤ T.nodes := by
  induction T with
  | nil => exact Nat.le_refl _
  | cons k n s ar r _ ih => simp only [length, nodes]; omega
theorem Ts.app_nil (T : Ts) : T.app .nil = T := by
  induction T with
  | nil => rfl
  | cons k n s ar r _ ih => simp only [app, ih]
theorem Ts.app_assoc (a b c : Ts) : (a.app b).app c = a.app (b.app c) := by
  induction a with
  | nil => rfl
  | cons k n s ar r _ ih => simp only [app, ih]
theorem Ts.length_app (a b : Ts) : (a.app b).length = a.length + b.length := by
  induction a with
  | nil => simp [app, length]
  | cons k n s ar r _ ih => simp only [app, length, ih]; omega
theorem Ts.nodes_app (a b : Ts) : (a.app b).nodes = a.nodes + b.nodes := by
  induction a with
  | nil => simp [app, nodes]
  | cons k n s ar r _ ih => simp only [app, nodes, ih]; omega
theorem Ts.nil_of_length {T : Ts} (h : T.length = 0) : T = .nil := by
  cases T with
  | nil => rfl
  | cons k n s ar r => simp [length] at h

/-- The terms T lie from cell o of block b on; all blocks that they take are p's. -/
def Seg (w : World) (p : Nat → Prop) : Ts → Nat → Nat → Prop
  | .nil, _, _ => True
  | .cons k n s ar r, b, o => p b ∧ w.cell? ⟨b, o, none⟩ = some (.int .i64 k) ∧ w.cell? ⟨b, o + 1, none⟩ = some (.int .i64 n) ∧ w.cell? ⟨b, o + 2, none⟩ = some (.string s) ∧
      (∃ A c, w.cell? ⟨b, o + 3, none⟩ = some (.slice A ar.length c) ∧ ar.length ≤ c ∧ (0 < ar.length → ∃ b' o', A = some ⟨b', o', none⟩ ∧ Seg w p ar b' o')) ∧ Seg w p r b (o + 4)

/-- The value v is a slice of the terms T. -/
def Sl (w : World) (p : Nat → Prop) (v : Value) (T : Ts) : Prop :=
  ∃ A c, v = .slice A T.length c ∧ T.length ≤ c ∧ (0 < T.length → ∃ b o, A = some ⟨b, o, none⟩ ∧ Seg w p T b o)

theorem seg_cons {w : World} {p : Nat → Prop} {k n : Int} {s : ByteArray} {ar r : Ts} {b o : Nat} : Seg w p (.cons k n s ar r) b o ↔
    p b ∧ w.cell? ⟨b, o, none⟩ = some (.int .i64 k) ∧ w.cell? ⟨b, o + 1, none⟩ = some (.int .i64 n) ∧ w.cell? ⟨b, o + 2, none⟩ = some (.string s) ∧
      (∃ v, w.cell? ⟨b, o + 3, none⟩ = some v ∧ Sl w p v ar) ∧ Seg w p r b (o + 4) := by
  constructor
  · rintro ⟨h1, h2, h3, h4, ⟨A, c, h5, h6, h7⟩, h8⟩
    exact ⟨h1, h2, h3, h4, ⟨_, h5, A, c, rfl, h6, h7⟩, h8⟩
  · rintro ⟨h1, h2, h3, h4, ⟨v, h5, A, c, rfl, h6, h7⟩, h8⟩
    exact ⟨h1, h2, h3, h4, ⟨A, c, h5, h6, h7⟩, h8⟩

theorem lt_of_cell {w : World} {a : Addr} {v : Value} (h : w.cell? a = some v) : a.block < w.heap.size := by
  rcases Nat.lt_or_ge a.block w.heap.size with hl | hg
  · exact hl
  · simp [World.cell?, Array.getElem?_eq_none hg] at h

section
variable {w w' : World} {p q : Nat → Prop}
theorem Seg.imp {T : Ts} : ∀ {b o : Nat}, Seg w p T b o → (∀ k, p k → k < w.heap.size → q k) → Seg w q T b o := by
  induction T with
  | nil => intros; trivial
  | cons k n s ar r iha ihr =>
    intro b o h hq
    obtain ⟨h1, h2, h3, h4, ⟨A, c, h5, h6, h7⟩, h8⟩ := h
    refine ⟨hq _ h1 (lt_of_cell h2), h2, h3, h4, ⟨A, c, h5, h6, fun hl => ?_⟩, ihr h8 hq⟩
    obtain ⟨b', o', e, h9⟩ := h7 hl
    exact ⟨b', o', e, iha h9 hq⟩
/-- As 'imp', for blocks that hold some cell. -/
theorem Seg.imp' {T : Ts} : ∀ {b o : Nat}, Seg w p T b o → (∀ k, p k → (∃ j u, w.cell? ⟨k, j, none⟩ = some u) → q k) → Seg w q T b o := by
  induction T with
  | nil => intros; trivial
  | cons k n s ar r iha ihr =>
    intro b o h hq
    obtain ⟨h1, h2, h3, h4, ⟨A, c, h5, h6, h7⟩, h8⟩ := h
    refine ⟨hq _ h1 ⟨_, _, h2⟩, h2, h3, h4, ⟨A, c, h5, h6, fun hl => ?_⟩, ihr h8 hq⟩
    obtain ⟨b', o', e, h9⟩ := h7 hl
    exact ⟨b', o', e, iha h9 hq⟩
theorem Seg.keep {T : Ts} : ∀ {b o : Nat}, Seg w p T b o → (∀ k, p k → k < w.heap.size → w'.heap[k]? = w.heap[k]?) → Seg w' p T b o := by
  induction T with
  | nil => intros; trivial
  | cons k n s ar r iha ihr =>
    intro b o h hk
    obtain ⟨h1, h2, h3, h4, ⟨A, c, h5, h6, h7⟩, h8⟩ := h
    have e := hk b h1 (lt_of_cell h2)
    refine ⟨h1, ?_, ?_, ?_, ⟨A, c, ?_, h6, fun hl => ?_⟩, ihr h8 hk⟩
    · rw [World.cell?_of_block (w := w) (w' := w') (a := ⟨b, o, none⟩) e]; exact h2
    · rw [World.cell?_of_block (w := w) (w' := w') (a := ⟨b, o + 1, none⟩) e]; exact h3
    · rw [World.cell?_of_block (w := w) (w' := w') (a := ⟨b, o + 2, none⟩) e]; exact h4
    · rw [World.cell?_of_block (w := w) (w' := w') (a := ⟨b, o + 3, none⟩) e]; exact h5
    · obtain ⟨b', o', e', h9⟩ := h7 hl
      exact ⟨b', o', e', iha h9 hk⟩
theorem Sl.imp {T : Ts} {v : Value} (h : Sl w p v T) (hq : ∀ k, p k → k < w.heap.size → q k) : Sl w q v T := by
  obtain ⟨A, c, hv, hc, hs⟩ := h
  refine ⟨A, c, hv, hc, fun hl => ?_⟩
  obtain ⟨b, o, e, h9⟩ := hs hl
  exact ⟨b, o, e, h9.imp hq⟩
theorem Sl.imp' {T : Ts} {v : Value} (h : Sl w p v T) (hq : ∀ k, p k → (∃ j u, w.cell? ⟨k, j, none⟩ = some u) → q k) : Sl w q v T := by
  obtain ⟨A, c, hv, hc, hs⟩ := h
  refine ⟨A, c, hv, hc, fun hl => ?_⟩
  obtain ⟨b, o, e, h9⟩ := hs hl
  exact ⟨b, o, e, h9.imp' hq⟩
theorem Sl.keep {T : Ts} {v : Value} (h : Sl w p v T) (hk : ∀ k, p k → k < w.heap.size → w'.heap[k]? = w.heap[k]?) : Sl w' p v T := by
  obtain ⟨A, c, hv, hc, hs⟩ := h
  refine ⟨A, c, hv, hc, fun hl => ?_⟩
  obtain ⟨b, o, e, h9⟩ := hs hl
  exact ⟨b, o, e, h9.keep hk⟩
theorem Seg.below {T : Ts} {b o : Nat} (h : Seg w p T b o) (hb : Below w.heap.size w w') : Seg w' p T b o := h.keep fun k _ hk => hb.block k hk
theorem Sl.below {T : Ts} {v : Value} (h : Sl w p v T) (hb : Below w.heap.size w w') : Sl w' p v T := h.keep fun k _ hk => hb.block k hk
theorem Sl.any {T : Ts} {v : Value} (h : Sl w p v T) : Sl w (fun _ => True) v T := h.imp fun _ _ _ => trivial
theorem Seg.any {T : Ts} {b o : Nat} (h : Seg w p T b o) : Seg w (fun _ => True) T b o := h.imp fun _ _ _ => trivial
theorem Sl.form {T : Ts} {v : Value} (h : Sl w p v T) : ∃ A c, v = .slice A T.length c ∧ Sl w p (.slice A T.length c) T := by
  obtain ⟨A, c, rfl, h2⟩ := h
  exact ⟨A, c, rfl, A, c, rfl, h2⟩
theorem Sl.nil (w : World) (p : Nat → Prop) : Sl w p (.slice none 0 0) .nil := ⟨none, 0, rfl, Nat.le_refl _, fun h => absurd h (Nat.lt_irrefl _)⟩
end

theorem below_drewN (B : Nat) (w : World) (n : Nat) : Below B w (w.drewN n) := ⟨rfl, rfl, rfl, Nat.le_refl _, fun _ _ => rfl⟩

/-- The terms' own view of a block: it is there whole, of element type t, with the cells cs. -/
def Plot (w : World) (g : Nat) (t : TypeId) (cs : Array Value) : Prop := w.heap[g]? = some (.cells cs t (0, 0))
section
variable {w w' : World} {g : Nat} {t : TypeId} {cs : Array Value}
/-- Where a block has not turned, its plot has not. -/
theorem Plot.move (h : Plot w g t cs) (e : w'.heap[g]? = w.heap[g]?) : Plot w' g t cs := Eq.trans e h
theorem Plot.lt (h : Plot w g t cs) : g < w.heap.size := (Array.getElem?_eq_some_iff.1 h).1
theorem Plot.cell (h : Plot w g t cs) (i : Nat) : w.cell? ⟨g, i, none⟩ = cs[i]? := by
  have := cell_of_row w g i cs t (0, 0) h
  exact this
theorem Plot.frozen (h : Plot w g t cs) (i : Nat) : w.frozen? ⟨g, i, none⟩ = false := by
  have e : w.heap[g]? = some (.cells cs t (0, 0)) := h
  rw [World.frozen?]
  simp only [e]
  simp
theorem Plot.new (w : World) (t : TypeId) (cs : Array Value) : Plot (w.alloc (.cells cs t)) w.heap.size t cs := by
  show (w.alloc _).heap[w.heap.size]? = _
  rw [heap_alloc_new]
theorem Plot.drew (h : Plot w g t cs) : Plot w.drew g t cs := h.move rfl
theorem Plot.drewN (h : Plot w g t cs) (n : Nat) : Plot (w.drewN n) g t cs := h.move rfl
theorem Plot.alloc (h : Plot w g t cs) (o : Obj) : Plot (w.alloc o) g t cs := h.move (Below.heap_alloc w o g h.lt)
theorem Plot.far (h : Plot w g t cs) {p : Addr} (hp : g ≠ p.block) (u : Value) : Plot (w.setCell p u) g t cs := h.move (Below.heap_setCell w p u g hp)
theorem Plot.below (h : Plot w g t cs) (hb : Below w.heap.size w w') : Plot w' g t cs := h.move (hb.block g h.lt)
theorem Plot.grown {row : Option Nat} (h : Plot w g t cs) (hb : w.grownBy w' row) (hg : some g ≠ row) : Plot w' g t cs := h.move (hb.block g h.lt hg)
theorem Plot.set_ (h : Plot w g t cs) (i : Nat) (u : Value) : Plot (w.setCell ⟨g, i, none⟩ u) g t (cs.setIfInBounds i u) := by
  have e : w.heap[g]? = some (.cells cs t (0, 0)) := h
  show (w.setCell _ u).heap[g]? = _
  rw [World.setCell]
  simp [Array.getElem?_modify, e]
theorem Plot.four {a b c d : Value} (h : Plot w g t #[a, b, c, d]) : w.cell? ⟨g, 0, none⟩ = some a ∧ w.cell? ⟨g, 1, none⟩ = some b ∧ w.cell? ⟨g, 2, none⟩ = some c ∧ w.cell? ⟨g, 3, none⟩ = some d ∧ (∀ o, w.frozen? ⟨g, o, none⟩ = false) :=
  ⟨h.cell 0, h.cell 1, h.cell 2, h.cell 3, h.frozen⟩
end

/-- The cells xs, four a term, are the terms T's; what their arguments lie in is p's. -/
def Cs (w : World) (p : Nat → Prop) : Ts → List Value → Prop
  | .nil, xs => xs = []
  | .cons k n s ar r, xs => ∃ v ys, xs = .int .i64 k :: .int .i64 n :: .string s :: v :: ys ∧ Sl w p v ar ∧ Cs w p r ys

section
variable {w w' : World} {p q : Nat → Prop}
theorem Cs.length {T : Ts} : ∀ {xs : List Value}, Cs w p T xs → xs.length = T.length * 4 := by
  induction T with
  | nil => intro xs h; rw [show xs = [] from h]; rfl
  | cons k n s ar r _ ih =>
    rintro xs ⟨v, ys, rfl, _, h⟩
    simp only [List.length_cons, Ts.length, ih h]; omega
theorem Cs.imp {T : Ts} : ∀ {xs : List Value}, Cs w p T xs → (∀ k, p k → k < w.heap.size → q k) → Cs w q T xs := by
  induction T with
  | nil => intro xs h _; exact h
  | cons k n s ar r _ ih =>
    rintro xs ⟨v, ys, rfl, hv, h⟩ hq
    exact ⟨v, ys, rfl, hv.imp hq, ih h hq⟩
theorem Cs.keep {T : Ts} : ∀ {xs : List Value}, Cs w p T xs → (∀ k, p k → k < w.heap.size → w'.heap[k]? = w.heap[k]?) → Cs w' p T xs := by
  induction T with
  | nil => intro xs h _; exact h
  | cons k n s ar r _ ih =>
    rintro xs ⟨v, ys, rfl, hv, h⟩ hk
    exact ⟨v, ys, rfl, hv.keep hk, ih h hk⟩
theorem Cs.below {T : Ts} {xs : List Value} (h : Cs w p T xs) (hb : Below w.heap.size w w') : Cs w' p T xs := h.keep fun k _ hk => hb.block k hk
theorem Cs.app {T : Ts} : ∀ {xs ys : List Value} {U : Ts}, Cs w p T xs → Cs w p U ys → Cs w p (T.app U) (xs ++ ys) := by
  induction T with
  | nil => intro xs ys U h h'; rw [show xs = [] from h]; exact h'
  | cons k n s ar r _ ih =>
    rintro xs ys U ⟨v, zs, rfl, hv, h⟩ h'
    exact ⟨v, zs ++ ys, rfl, hv, ih h h'⟩
theorem Cs.seg {T : Ts} : ∀ {xs : List Value} {b o : Nat}, Cs w p T xs → (0 < T.length → p b) → (∀ j u, xs[j]? = some u → w.cell? ⟨b, o + j, none⟩ = some u) → Seg w p T b o := by
  induction T with
  | nil => intros; trivial
  | cons k n s ar r _ ih =>
    rintro xs b o ⟨v, ys, rfl, hv, h⟩ hp hc
    have hb : p b := hp (by simp [Ts.length])
    refine seg_cons.2 ⟨hb, by simpa using hc 0 _ rfl, hc 1 _ rfl, hc 2 _ rfl, ⟨v, hc 3 _ rfl, hv⟩, ih h (fun _ => hb) fun j u hu => ?_⟩
    have := hc (j + 4) u (by simpa using hu)
    rwa [show o + 4 + j = o + (j + 4) by omega]
theorem Seg.cells {T : Ts} : ∀ {b o : Nat}, Seg w p T b o → ∃ xs, Cs w p T xs ∧ ∀ j u, xs[j]? = some u → w.cell? ⟨b, o + j, none⟩ = some u := by
  induction T with
  | nil => intro b o _; exact ⟨[], rfl, fun j u hu => by simp at hu⟩
  | cons k n s ar r _ ih =>
    intro b o h
    obtain ⟨h1, h2, h3, h4, ⟨v, h5, h6⟩, h8⟩ := seg_cons.1 h
    obtain ⟨ys, hy, hc⟩ := ih h8
    refine ⟨_, ⟨v, ys, rfl, h6, hy⟩, fun j u hu => ?_⟩
    match j, hu with
    | 0, hu => simp at hu; subst hu; simpa using h2
    | 1, hu => simp at hu; subst hu; exact h3
    | 2, hu => simp at hu; subst hu; exact h4
    | 3, hu => simp at hu; subst hu; exact h5
    | j + 4, hu => rw [show o + (j + 4) = o + 4 + j by omega]; exact hc j u (by simpa using hu)
theorem Cs.one {T : Ts} : ∀ {xs : List Value}, Cs w p T xs → ∀ u ∈ xs, u.oneCell' = true := by
  induction T with
  | nil => intro xs h u hu; rw [show xs = [] from h] at hu; cases hu
  | cons k n s ar r _ ih =>
    rintro xs ⟨v, ys, rfl, ⟨A, c, rfl, _⟩, h⟩ u hu
    simp only [List.mem_cons] at hu
    rcases hu with rfl | rfl | rfl | rfl | hu
    · rfl
    · rfl
    · rfl
    · rfl
    · exact ih h u hu
/-- A row of the call's own whose cells are the terms T's is a slice of them. -/
theorem Sl.own {T : Ts} {base : Nat} {e : TypeId} {v : Value} {xs : List Value} (h : w.ownsRow base e 4 v T.length xs) (hc : Cs w p T xs) (hp : ∀ g, v.ownBlock = some g → p g) : Sl w p v T := by
  rcases h.2 with ⟨rfl, hn⟩ | ⟨g, cap, cur, rfl, _, _, hnc, _⟩
  · exact ⟨none, 0, by rw [hn], by omega, fun hl => absurd hl (by omega)⟩
  · refine ⟨_, cap, rfl, hnc, fun _ => ⟨g, 0, rfl, hc.seg (fun _ => hp g rfl) fun j u hu => ?_⟩⟩
    have := h.cells (g := g) rfl j u hu
    simp only [Addr.add] at this
    split at this
    · rename_i h0; subst h0; simpa using this
    · simpa using this
end

theorem run_store_func {P : Program} {w : World} {a : Addr} {f : Fn} {x y : Array Value} {u : Value} (h : w.cell? a = some u) (hf : w.frozen? a = false) : (store a (.func f x y)).run P w = .ok () (w.setCell a (.func f x y)) := by
  simp [store, Sem.run, h, hf]
theorem setCell_new (w : World) (u v : Value) (t : TypeId) : (w.alloc (.cells #[u] t)).setCell ⟨w.heap.size, 0, none⟩ v = w.alloc (.cells #[v] t) := by
  show ({ w with heap := (w.heap.push (.cells #[u] t)).modify w.heap.size _ } : World) = { w with heap := w.heap.push (.cells #[v] t) }
  congr 1
  apply Array.ext_getElem?
  intro j
  rw [Array.getElem?_modify, Array.getElem?_push, Array.getElem?_push]
  by_cases e : w.heap.size = j
  · subst e; simp
  · simp [e, Ne.symm e]
theorem set_same {a : Array Value} {i : Nat} {v : Value} (h : a[i]? = some v) : a.setIfInBounds i v = a := by
  apply Array.ext_getElem?
  intro j
  by_cases hj : i = j
  · subst hj
    rw [Array.getElem?_setIfInBounds_self_of_lt (Array.getElem?_eq_some_iff.1 h).1, h]
  · rw [Array.getElem?_setIfInBounds_ne hj]
theorem own_form {w : World} {base : Nat} {e : TypeId} {size : Nat} {v : Value} {n : Nat} {xs : List Value} (h : w.ownsRow base e size v n xs) : ∃ A cap, v = .slice A n cap := by
  rcases h.2 with ⟨rfl, rfl⟩ | ⟨g, cap, cur, rfl, _⟩
  · exact ⟨_, _, rfl⟩
  · exact ⟨_, _, rfl⟩
theorem own_blk {w : World} {base : Nat} {e : TypeId} {size : Nat} {A : Option Addr} {n c : Nat} {xs : List Value} (h : w.ownsRow base e size (.slice A n c) n xs) :
    n ≤ c ∧ ∃ (g : Nat) (cur : Array Value), 0 < n → A = some ⟨g, 0, none⟩ ∧ base ≤ g ∧ Plot w g e cur ∧ ∀ (j : Nat) u, xs[j]? = some u → cur[j]? = some u := by
  rcases h.2 with ⟨h1, rfl⟩ | ⟨g, cap, cur, h1, hb, hh, hnc, _, _, htk⟩
  · exact ⟨Nat.zero_le _, 0, #[], fun h => absurd h (Nat.lt_irrefl _)⟩
  · simp only [Value.slice.injEq, true_and] at h1
    obtain ⟨rfl, rfl⟩ := h1
    refine ⟨hnc, g, cur, fun _ => ⟨rfl, hb, hh, fun j u hu => ?_⟩⟩
    rw [← htk, List.getElem?_take] at hu
    split at hu
    · simpa using hu
    · cases hu
theorem cell_lit (w : World) (cs : List Value) (t : TypeId) : ∀ j u, cs[j]? = some u → (w.alloc (.cells cs.toArray t)).cell? ((⟨w.heap.size, 0, none⟩ : Addr).add j) = some u := by
  intro j u hu
  have h := (Plot.new w t cs.toArray).cell j
  simp only [List.getElem?_toArray] at h
  by_cases hj : j = 0
  · subst hj; rw [← hu]; exact h
  · simp [Addr.add, hj, h, hu]

theorem own_below {w w' : World} {base : Nat} {e : TypeId} {size : Nat} {v : Value} {n : Nat} {xs : List Value} (h : w.ownsRow base e size v n xs) (hb : Below w.heap.size w w') : w'.ownsRow base e size v n xs :=
  h.kept (row := none) ⟨hb.os, hb.tape, hb.output, hb.size, fun k hk _ => hb.block k hk⟩ (by cases v.ownBlock <;> simp)

/-- An append onto a row of the call's own, as a step of a walk: it also says where the new row lies. -/
theorem wpList_append_at {P : Program} (w : World) {ops : Array Oper} {rest : List Oper} {o : Oper} {a : Act} {Q : Exit → Act → World → Prop} (hgd : o.guard = none) (s x : Operand) (t : TypeId)
    (ho : o.op = .call { callee := .builtin .append, args := #[s, x], argTypes := #[t, t] })
    (base : Nat) (e : TypeId) (i : TypeInfo) (z : Value) (size bytes : Nat) (ht : P.underlying t = some (.slice e)) (hi : P.info? e = some i) (hz : i.zero = some z)
    (hsize : i.size = size) (hby : i.bytes = bytes) (hzs : z.cells.size = size) (hsz : 0 < size)
    (v : Value) (n : Nat) (xs : List Value) (hs : a.eval s = v) (hown : w.ownsRow base e size v n xs)
    (ad : Addr) (m c : Nat) (news : List Value) (hx : a.eval x = .slice (some ad) m c) (hl : news.length = m * size) (hnews : ∀ j u, news[j]? = some u → w.cell? (ad.add j) = some u) (h1 : ∀ u ∈ news, u.oneCell' = true)
    (h63 : n + m ≤ maxLen) (hbytes : (n + m) * bytes ≤ 140737488355328) (hbase : base ≤ w.heap.size)
    (h : ∀ v' w', w'.ownsRow base e size v' (n + m) (xs ++ news) → w.grownBy w' v.ownBlock → (v'.ownBlock = v.ownBlock ∨ v'.ownBlock = some w.heap.size) → wpList P ops Q rest (a.put o.dst v') w') : wpList P ops Q (o :: rest) a w := by
  refine wpList_plain hgd fun K hK => ?_
  obtain ⟨v', w', hr, h2, h3, _, h5⟩ := run_append_own_at (P := P) w base t o.type e i z size bytes ht hi hz hsize hby hzs hsz v n xs hown ad m c news hl hnews h1 h63 hbytes hbase
  unfold Oper.wp execOp
  simp only [ho, resolve, invoke, builtin, Sem.run_bind, Sem.run_pure, Result.andThen_ok, List.map_toArray, List.map_cons, List.map_nil, hs, hx, hr]
  exact hK _ _ (h v' w' h2 h3 h5)
/-- The same in a region that draws its order. -/
theorem step_append_at {P : Program} (w : World) {ops : Array Oper} {o : Oper} {a : Act} {K : Act → World → Prop} {Q : Exit → Act → World → Prop} {E : Prop} (hgd : o.guard = none) (s x : Operand) (t : TypeId)
    (ho : o.op = .call { callee := .builtin .append, args := #[s, x], argTypes := #[t, t] })
    (base : Nat) (e : TypeId) (i : TypeInfo) (z : Value) (size bytes : Nat) (ht : P.underlying t = some (.slice e)) (hi : P.info? e = some i) (hz : i.zero = some z)
    (hsize : i.size = size) (hby : i.bytes = bytes) (hzs : z.cells.size = size) (hsz : 0 < size)
    (v : Value) (n : Nat) (xs : List Value) (hs : a.eval s = v) (hown : w.ownsRow base e size v n xs)
    (ad : Addr) (m c : Nat) (news : List Value) (hx : a.eval x = .slice (some ad) m c) (hl : news.length = m * size) (hnews : ∀ j u, news[j]? = some u → w.cell? (ad.add j) = some u) (h1 : ∀ u ∈ news, u.oneCell' = true)
    (h63 : n + m ≤ maxLen) (hbytes : (n + m) * bytes ≤ 140737488355328) (hbase : base ≤ w.heap.size)
    (h : ∀ v' w', w'.ownsRow base e size v' (n + m) (xs ++ news) → w.grownBy w' v.ownBlock → (v'.ownBlock = v.ownBlock ∨ v'.ownBlock = some w.heap.size) → K (a.put o.dst v') w') :
    if Region.wanted o (yielded ops a.tmps) = true then Oper.wp P o a w K Q else E := by
  have hw : Region.wanted o (yielded ops a.tmps) = true := by simp [Region.wanted, hgd]
  rw [if_pos hw]
  obtain ⟨v', w', hr, h2, h3, _, h5⟩ := run_append_own_at (P := P) w base t o.type e i z size bytes ht hi hz hsize hby hzs hsz v n xs hown ad m c news hl hnews h1 h63 hbytes hbase
  unfold Oper.wp execOp
  simp only [ho, resolve, invoke, builtin, Sem.run_bind, Sem.run_pure, Result.andThen_ok, List.map_toArray, List.map_cons, List.map_nil, hs, hx, hr]
  exact h v' w' h2 h3 h5

theorem str_eq {s t : ByteArray} : s.toList = t.toList ↔ s = t := by
  rw [ByteArray.toList_eq, ByteArray.toList_eq]
  constructor
  · intro h
    have : s.data = t.data := Array.toList_inj.1 h
    cases s; cases t; simp at this; rw [this]
  · intro h; rw [h]

theorem Seg.skip {w : World} {p : Nat → Prop} {R : Ts} {b : Nat} : ∀ {D : Ts} {o : Nat}, Seg w p (D.app R) b o → Seg w p R b (o + D.length * 4) := by
  intro D
  induction D with
  | nil => intro o h; simpa [Ts.length, Ts.app] using h
  | cons k n s ar r _ ih =>
    intro o h
    have := ih (seg_cons.1 h).2.2.2.2.2
    rw [show (Ts.cons k n s ar r).length = r.length + 1 from rfl, show o + (r.length + 1) * 4 = o + 4 + r.length * 4 by omega]
    exact this
theorem Sl.at_ {w : World} {p : Nat → Prop} {A : Option Addr} {len c : Nat} {D R : Ts} (h : Sl w p (.slice A len c) (D.app R)) (hR : 0 < R.length) :
    ∃ b o, A = some ⟨b, o, none⟩ ∧ Seg w p R b (o + D.length * 4) := by
  obtain ⟨A', c', e, _, hs⟩ := h
  simp only [Value.slice.injEq] at e
  obtain ⟨rfl, rfl, rfl⟩ := e
  obtain ⟨b, o, rfl, hseg⟩ := hs (by rw [Ts.length_app]; omega)
  exact ⟨b, o, rfl, hseg.skip⟩


/-- Between two worlds nothing that was there has turned, but for the blocks that S names. -/
structure Chg (S : Nat → Prop) (w w' : World) : Prop where
  os : w'.os = w.os
  tape : w'.tape = w.tape
  output : w'.output = w.output
  size : w.heap.size ≤ w'.heap.size
  block : ∀ k, k < w.heap.size → ¬ S k → w'.heap[k]? = w.heap[k]?
section
variable {S S' : Nat → Prop} {w w' w'' : World}
theorem Chg.refl (S : Nat → Prop) (w : World) : Chg S w w := ⟨rfl, rfl, rfl, Nat.le_refl _, fun _ _ _ => rfl⟩
theorem Chg.trans (h : Chg S w w') (h' : Chg S' w' w'') (hs : ∀ k, k < w.heap.size → S' k → S k) : Chg S w w'' :=
  ⟨h'.os.trans h.os, h'.tape.trans h.tape, h'.output.trans h.output, Nat.le_trans h.size h'.size, fun k hk hS => (h'.block k (Nat.lt_of_lt_of_le hk h.size) fun hs' => hS (hs k hk hs')).trans (h.block k hk hS)⟩
theorem Chg.mono (h : Chg S w w') (hs : ∀ k, k < w.heap.size → S k → S' k) : Chg S' w w' := ⟨h.os, h.tape, h.output, h.size, fun k hk hS => h.block k hk fun hs' => hS (hs k hk hs')⟩
theorem Chg.of_below {B : Nat} (h : Below B w w') : Chg (fun k => B ≤ k) w w' := ⟨h.os, h.tape, h.output, h.size, fun k _ hS => h.block k (by omega)⟩
theorem Chg.of_fresh (h : Below w.heap.size w w') : Chg S w w' := ⟨h.os, h.tape, h.output, h.size, fun k hk _ => h.block k hk⟩
theorem Chg.of_grown {row : Option Nat} (h : w.grownBy w' row) : Chg (fun k => row = some k) w w' := ⟨h.os, h.tape, h.output, h.size, fun k hk hS => h.block k hk fun e => hS e.symm⟩
theorem Chg.below {B : Nat} (h : Chg S w w') (hB : B ≤ w.heap.size) (hs : ∀ k, S k → k < w.heap.size → B ≤ k) : Below B w w' :=
  ⟨h.os, h.tape, h.output, h.size, fun k hk => h.block k (by omega) fun hS => by have := hs k hS (by omega); omega⟩
theorem Chg.setCell (h : Chg S w w') {p : Addr} (hp : p.block < w.heap.size → S p.block) (u : Value) : Chg S w (w'.setCell p u) :=
  ⟨h.os, h.tape, h.output, by simpa [World.setCell] using h.size, fun k hk hS => (Below.heap_setCell w' p u k (fun e => hS (e ▸ hp (e ▸ hk)))).trans (h.block k hk hS)⟩
theorem Chg.alloc (h : Chg S w w') (o : Obj) : Chg S w (w'.alloc o) :=
  ⟨h.os, h.tape, h.output, Nat.le_trans h.size (by simp), fun k hk hS => (Below.heap_alloc w' o k (Nat.lt_of_lt_of_le hk h.size)).trans (h.block k hk hS)⟩
theorem Chg.drew (h : Chg S w w') : Chg S w w'.drew := ⟨h.os, h.tape, h.output, h.size, h.block⟩
theorem Plot.chg {g : Nat} {t : TypeId} {cs : Array Value} (h : Plot w g t cs) (hc : Chg S w w') (hg : ¬ S g) : Plot w' g t cs := (hc.block g h.lt hg).trans h
theorem own_chg {base : Nat} {e : TypeId} {size : Nat} {v : Value} {n : Nat} {xs : List Value} (h : w.ownsRow base e size v n xs) (hc : Chg S w w') (hv : ∀ g, v.ownBlock = some g → ¬ S g) : w'.ownsRow base e size v n xs := by
  obtain ⟨h1, h2⟩ := h
  refine ⟨h1, ?_⟩
  rcases h2 with h2 | ⟨g, cap, cur, rfl, hg, hh, r⟩
  · exact .inl h2
  · have hl : g < w.heap.size := by
      rcases Nat.lt_or_ge g w.heap.size with hl | hl
      · exact hl
      · rw [Array.getElem?_eq_none hl] at hh; cases hh
    exact .inr ⟨g, cap, cur, rfl, hg, (hc.block g hl (hv g rfl)).trans hh, r⟩
theorem Sl.chg {p : Nat → Prop} {T : Ts} {v : Value} (h : Sl w p v T) (hc : Chg S w w') (hp : ∀ k, p k → ¬ S k) : Sl w' p v T := h.keep fun k hk hl => hc.block k hl (hp k hk)
end
end Go.Proofs.Ytjicoifjgokoiaa
