/-
  What a call knows of its memory: blocks of its own with what they hold, and facts that hold as long as nothing but these turns. No program is named here.
-/
import Derived.Test.YtdiophafmokfiaaGreatDoorWalk
namespace Go.Proofs.YtdiophafmokfiaaGreatDoor
open Go.RowKit
set_option linter.unusedSimpArgs false
set_option linter.unusedVariables false

/-- Of the blocks of w at most those of M have turned; the streams are as they were. -/
structure Ext (M : List Nat) (w w' : World) : Prop where
  os : w'.os = w.os
  tape : w'.tape = w.tape
  output : w'.output = w.output
  size : w.heap.size ≤ w'.heap.size
  block : ∀ k, k < w.heap.size → k ∉ M → w'.heap[k]? = w.heap[k]?
theorem Ext.refl (M : List Nat) (w : World) : Ext M w w := ⟨rfl, rfl, rfl, Nat.le_refl _, fun _ _ _ => rfl⟩
theorem Ext.trans {M : List Nat} {a b c : World} (h : Ext M a b) (g : Ext M b c) : Ext M a c :=
  ⟨g.os.trans h.os, g.tape.trans h.tape, g.output.trans h.output, Nat.le_trans h.size g.size, fun k hk hm => (g.block k (Nat.lt_of_lt_of_le hk h.size) hm).trans (h.block k hk hm)⟩
theorem Ext.mono {M M' : List Nat} {a b : World} (h : Ext M a b) (hs : ∀ k, k < a.heap.size → k ∈ M → k ∈ M') : Ext M' a b :=
  ⟨h.os, h.tape, h.output, h.size, fun k hk hm => h.block k hk fun h' => hm (hs k hk h')⟩
theorem Ext.below {a b : World} (h : Ext [] a b) : Below a.heap.size a b := ⟨h.os, h.tape, h.output, h.size, fun k hk => h.block k hk (by simp)⟩
theorem Below.ext {M : List Nat} {a b : World} (h : Below a.heap.size a b) : Ext M a b := ⟨h.os, h.tape, h.output, h.size, fun k hk _ => h.block k hk⟩
theorem Ext.drew {M : List Nat} {a b : World} (h : Ext M a b) : Ext M a b.drew := ⟨h.os, h.tape, h.output, h.size, h.block⟩
theorem Ext.alloc {M : List Nat} {a b : World} (h : Ext M a b) (o : Obj) : Ext M a (b.alloc o) :=
  ⟨h.os, h.tape, h.output, Nat.le_trans h.size (by simp), fun k hk hm => (Below.heap_alloc b o k (Nat.lt_of_lt_of_le hk h.size)).trans (h.block k hk hm)⟩

/-- The call began in w0; it may turn the blocks of M and what it has made; it holds the blocks of H, and knows the facts of F. -/
structure St (M : List Nat) (w0 : World) (H : List (Nat × Obj)) (F : List (World → Prop)) (w : World) : Prop where
  own : ∀ p ∈ H, w.heap[p.1]? = some p.2
  apart : H.Pairwise fun p q => p.1 ≠ q.1
  ext : Ext M w0 w
  new : ∀ p ∈ H, p.1 ∈ M ∨ w0.heap.size ≤ p.1
  facts : ∀ φ ∈ F, ∀ w', Ext (H.map (·.1)) w w' → φ w'

inductive At : List (Nat × Obj) → Nat → Obj → Prop
  | head {H : List (Nat × Obj)} {b : Nat} {o : Obj} : At ((b, o) :: H) b o
  | tail {H : List (Nat × Obj)} {b : Nat} {o : Obj} {p : Nat × Obj} : At H b o → At (p :: H) b o
inductive Upd : List (Nat × Obj) → Nat → Obj → Obj → List (Nat × Obj) → Prop
  | head {H : List (Nat × Obj)} {b : Nat} {o o' : Obj} : Upd ((b, o) :: H) b o o' ((b, o') :: H)
  | tail {H H' : List (Nat × Obj)} {b : Nat} {o o' : Obj} {p : Nat × Obj} : Upd H b o o' H' → Upd (p :: H) b o o' (p :: H')

section
variable {M : List Nat} {w0 w w' : World} {H H' : List (Nat × Obj)} {F : List (World → Prop)} {b : Nat} {o o' : Obj}

theorem own_lt (h : w.heap[b]? = some o) : b < w.heap.size := by
  rcases Nat.lt_or_ge b w.heap.size with hb | hb
  · exact hb
  · rw [Array.getElem?_eq_none hb] at h; cases h
theorem St.start (w : World) : St [] w [] [] w := ⟨by simp, by simp, Ext.refl _ _, by simp, by simp⟩
theorem St.fact (h : St M w0 H F w) {φ : World → Prop} (hm : φ ∈ F) : φ w := h.facts φ hm w (Ext.refl _ _)
theorem St.learn (h : St M w0 H F w) {φ : World → Prop} (hφ : ∀ w', Ext (H.map (·.1)) w w' → φ w') : St M w0 H (φ :: F) w :=
  ⟨h.own, h.apart, h.ext, h.new, fun ψ hψ w' hw => by
    rcases List.mem_cons.1 hψ with rfl | hψ
    · exact hφ w' hw
    · exact h.facts ψ hψ w' hw⟩
theorem St.forget (h : St M w0 H F w) {F' : List (World → Prop)} (hs : ∀ φ ∈ F', φ ∈ F) : St M w0 H F' w := ⟨h.own, h.apart, h.ext, h.new, fun φ hφ => h.facts φ (hs φ hφ)⟩
/-- A fact of the start that hangs on nothing that may turn. -/
theorem St.over (h : St M w0 H F w) (hw : Ext (H.map (·.1)) w w') : Ext M w0 w' :=
  ⟨hw.os.trans h.ext.os, hw.tape.trans h.ext.tape, hw.output.trans h.ext.output, Nat.le_trans h.ext.size hw.size, fun k hk hm => by
    have hkm : k ∉ H.map (·.1) := fun hkm => by
      obtain ⟨p, hp, rfl⟩ := List.mem_map.1 hkm
      rcases h.new p hp with h1 | h1
      · exact hm h1
      · omega
    exact (hw.block k (Nat.lt_of_lt_of_le hk h.ext.size) hkm).trans (h.ext.block k hk hm)⟩
theorem St.base (h : St M w0 H F w) {φ : World → Prop} (hφ : ∀ w', Ext M w0 w' → φ w') : St M w0 H (φ :: F) w := h.learn fun w' hw => hφ w' (h.over hw)
/-- Nothing that is held has turned. -/
theorem St.grow (h : St M w0 H F w) (hb : Below w.heap.size w w') : St M w0 H F w' :=
  ⟨fun p hp => (hb.block _ (own_lt (h.own p hp))).trans (h.own p hp), h.apart, h.ext.trans (Below.ext hb), h.new, fun φ hφ w2 hw => h.facts φ hφ w2 ((Below.ext hb).trans hw)⟩
theorem St.drew (h : St M w0 H F w) : St M w0 H F w.drew := h.grow ⟨rfl, rfl, rfl, Nat.le_refl _, fun _ _ => rfl⟩
/-- A new block. -/
theorem St.alloc (h : St M w0 H F w) (o : Obj) : St M w0 ((w.heap.size, o) :: H) F (w.alloc o) := by
  have hg := h.grow ((Below.refl w.heap.size w).alloc (Nat.le_refl _) o)
  refine ⟨fun p hp => ?_, ?_, hg.ext, fun p hp => ?_, fun φ hφ w2 hw => ?_⟩
  · rcases List.mem_cons.1 hp with rfl | hp
    · show (w.heap.push o)[w.heap.size]? = some o
      simp
    · exact hg.own p hp
  · refine List.pairwise_cons.2 ⟨fun q hq => ?_, h.apart⟩
    have := own_lt (h.own q hq)
    show w.heap.size ≠ q.1
    omega
  · rcases List.mem_cons.1 hp with rfl | hp
    · exact .inr h.ext.size
    · exact h.new p hp
  · refine h.facts φ hφ w2 ⟨hw.os, hw.tape, hw.output, Nat.le_trans (by simp) hw.size, fun k hk hm => ?_⟩
    have := hw.block k (by simp; omega) (by simp at hm ⊢; exact ⟨by omega, hm⟩)
    rw [this]
    exact Below.heap_alloc w o k hk
theorem At.mem (h : At H b o) : (b, o) ∈ H := by
  induction h with
  | head => simp
  | tail _ ih => exact List.mem_cons_of_mem _ ih
theorem St.at_ (h : St M w0 H F w) (ha : At H b o) : w.heap[b]? = some o := h.own _ ha.mem
theorem Upd.at_ (h : Upd H b o o' H') : At H b o := by
  induction h with
  | head => exact .head
  | tail _ ih => exact .tail ih
theorem Upd.keys (h : Upd H b o o' H') : H'.map (·.1) = H.map (·.1) := by
  induction h with
  | head => rfl
  | tail _ ih => simp [ih]
theorem Upd.mem (h : Upd H b o o' H') {q : Nat × Obj} (hq : q ∈ H') (hp : H.Pairwise fun p q => p.1 ≠ q.1) : (q = (b, o')) ∨ (q ∈ H ∧ q.1 ≠ b) := by
  induction h with
  | head =>
    rcases List.mem_cons.1 hq with rfl | hq
    · exact .inl rfl
    · exact .inr ⟨List.mem_cons_of_mem _ hq, Ne.symm ((List.pairwise_cons.1 hp).1 q hq)⟩
  | tail h ih =>
    rcases List.mem_cons.1 hq with rfl | hq
    · exact .inr ⟨by simp, (List.pairwise_cons.1 hp).1 _ h.at_.mem⟩
    · rcases ih hq (List.pairwise_cons.1 hp).2 with h1 | h1
      · exact .inl h1
      · exact .inr ⟨List.mem_cons_of_mem _ h1.1, h1.2⟩
/-- A block, a fact, that is wanted no more. -/
theorem St.drop {p : Nat × Obj} (h : St M w0 (p :: H) F w) : St M w0 H F w :=
  ⟨fun q hq => h.own q (List.mem_cons_of_mem _ hq), (List.pairwise_cons.1 h.apart).2, h.ext, fun q hq => h.new q (List.mem_cons_of_mem _ hq),
    fun φ hφ w2 hw => h.facts φ hφ w2 (hw.mono fun k _ hk => List.mem_cons_of_mem _ hk)⟩
theorem St.unlearn {φ : World → Prop} (h : St M w0 H (φ :: F) w) : St M w0 H F w := h.forget fun ψ hψ => List.mem_cons_of_mem _ hψ
theorem St.cell0 (h : St [] w0 H F w) {a : Addr} {v : Value} (hc : w0.cell? a = some v) : w.cell? a = some v := by
  have hl : a.block < w0.heap.size := by
    rcases Nat.lt_or_ge a.block w0.heap.size with hl | hg
    · exact hl
    · simp [World.cell?, Array.getElem?_eq_none hg] at hc
  rw [h.ext.below.cell hl]; exact hc
/-- One block has turned. -/
theorem St.turn (h : St M w0 H F w) (u : Upd H b o o' H') (hx : Ext [b] w w') (ho : w'.heap[b]? = some o') : St M w0 H' F w' := by
  have hbm : b ∈ H.map (·.1) := List.mem_map.2 ⟨_, u.at_.mem, rfl⟩
  have hx' : Ext (H.map (·.1)) w w' := hx.mono fun k _ hk => by have : k = b := by simpa using hk
                                                                subst this; exact hbm
  refine ⟨fun q hq => ?_, ?_, h.over hx', fun q hq => ?_, fun φ hφ w2 hw => h.facts φ hφ w2 (hx'.trans (by rw [← u.keys]; exact hw))⟩
  · rcases u.mem hq h.apart with rfl | ⟨h1, h2⟩
    · exact ho
    · rw [hx.block q.1 (own_lt (h.own q h1)) (by simpa using h2)]
      exact h.own q h1
  · have hk := List.pairwise_map.2 h.apart
    rw [← u.keys] at hk
    exact List.pairwise_map.1 hk
  · rcases u.mem hq h.apart with rfl | ⟨h1, h2⟩
    · exact h.new (b, o) u.at_.mem
    · exact h.new q h1
end

inductive Nth : List Value → Nat → Value → Prop
  | z {v : Value} {l : List Value} : Nth (v :: l) 0 v
  | s {v u : Value} {l : List Value} {i : Nat} : Nth l i v → Nth (u :: l) (i + 1) v
theorem Nth.get {l : List Value} {i : Nat} {v : Value} (h : Nth l i v) : l[i]? = some v := by
  induction h with
  | z => rfl
  | s _ ih => simpa using ih
inductive Cut : List Value → Nat → Nat → List Value → Prop
  | z {l : List Value} : Cut l 0 0 []
  | t {v : Value} {l vs : List Value} {k : Nat} : Cut l 0 k vs → Cut (v :: l) 0 (k + 1) (v :: vs)
  | s {u : Value} {l vs : List Value} {i k : Nat} : Cut l i k vs → Cut (u :: l) (i + 1) k vs
theorem Cut.length {l : List Value} {i k : Nat} {vs : List Value} (h : Cut l i k vs) : vs.length = k := by
  induction h with
  | z => rfl
  | t _ ih => simp [ih]
  | s _ ih => exact ih
theorem Cut.get {l : List Value} {i k : Nat} {vs : List Value} (h : Cut l i k vs) : ∀ j, j < k → l[i + j]? = vs[j]? := by
  induction h with
  | z => intro j hj; omega
  | t _ ih =>
    intro j hj
    cases j with
    | zero => rfl
    | succ j => have := ih j (by omega); rw [Nat.zero_add] at this ⊢; simpa using this
  | s _ ih => intro j hj; have := ih j hj; rw [show ∀ a, a + 1 + j = (a + j) + 1 by omega]; simpa using this
inductive Put : List Value → Nat → Value → List Value → Prop
  | z {v u : Value} {l : List Value} : Put (u :: l) 0 v (v :: l)
  | s {v u : Value} {l l' : List Value} {i : Nat} : Put l i v l' → Put (u :: l) (i + 1) v (u :: l')
theorem Put.eq {l l' : List Value} {i : Nat} {v : Value} (h : Put l i v l') : l' = l.set i v ∧ i < l.length := by
  induction h with
  | z => simp
  | s _ ih => simp [← ih.1, ih.2]

section
variable {P : Program} {n : Nat} {e : Env} {w : World} {Q : Exit → Act → World → Prop} {ops : Array Oper} {rest : List Oper} {ty : TypeId} {pos : String} {after : Array Edge} {d : Nat}
variable {M : List Nat} {w0 : World} {H H' : List (Nat × Obj)} {F : List (World → Prop)} {b o : Nat} {x : Operand} {v : Value} {dst : Option Nat} {t : TypeId}

def aggOf (P : Program) (t : TypeId) : Option Bool := match P.underlying t with | some (.struct _) => some true | some (.array _ _) => some true | some _ => some false | none => none
def cellsP (P : Program) (t : TypeId) : Option Nat := (P.info? t).map (·.size)
theorem run_isAgg {g : Bool} (h : aggOf P t = some g) : (isAgg t).run P w = .ok g w := by
  unfold aggOf at h
  unfold isAgg underlying
  simp only [Go.program, bind, Sem.bind, Sem.run]
  cases hu : P.underlying t with
  | none => rw [hu] at h; cases h
  | some td => rw [hu] at h; cases td <;> simp_all [pure, Sem.bind]
theorem run_sizeP {s : Nat} (h : cellsP P t = some s) : (sizeOf t).run P w = .ok s w := by
  unfold cellsP at h
  cases hi : P.info? t with
  | none => rw [hi] at h; cases h
  | some i =>
    rw [hi] at h
    simp only [Option.map_some, Option.some.injEq] at h
    simp [sizeOf, typeInfo, Go.program, bind, Sem.bind, Sem.run, hi, pure, h]
theorem run_load1 {a : Addr} (ha : ev n e x = .pointer (some a)) (hA : aggOf P t = some false) (hc : w.cell? a = some v) :
    (execOp (ev n e) ⟨dst, .load t x, ty, pos, after, none⟩).run P w = .ok (.value v) w := by
  have h1 := run_isAgg (w := w) hA
  simp only [execOp, ha, Instr.loadAt, Instr.sureAddr, loadVar, bind, pure, Sem.bind]
  rw [Sem.run_bind', Sem.run_bind', h1]
  simp [Go.load, Sem.run, hc, Sem.bind]
theorem run_loadN {a : Addr} {cs : List Value} (ha : ev n e x = .pointer (some a)) (hA : aggOf P t = some true) (hs : cellsP P t = some cs.length) (hc : ∀ j v, cs[j]? = some v → w.cell? (a.add j) = some v) :
    (execOp (ev n e) ⟨dst, .load t x, ty, pos, after, none⟩).run P w = .ok (.value (.agg cs.toArray)) w := by
  have h1 := run_isAgg (w := w) hA
  have h2 := run_sizeP (w := w) hs
  have h3 := run_loadCells_list (P := P) (w := w) a cs hc
  simp only [execOp, ha, Instr.loadAt, Instr.sureAddr, loadVar, bind, pure, Sem.bind]
  rw [Sem.run_bind', Sem.run_bind', h1]
  simp only [Result.andThen_ok, if_true]
  rw [Sem.run_bind', h2]
  simp only [Result.andThen_ok]
  rw [Sem.run_bind', h3]
  simp [Sem.run]
theorem addrPlus (b o j : Nat) : (⟨b, o, none⟩ : Addr).add j = ⟨b, o + j, none⟩ := by unfold Addr.add; split <;> simp_all
theorem cell_own {cs : List Value} {ct : TypeId} {fz : Nat × Nat} (h : w.heap[b]? = some (.cells cs.toArray ct fz)) (o : Nat) : w.cell? ⟨b, o, none⟩ = cs[o]? := by simp [World.cell?, h]
/-- A load out of a block of the call's own. -/
theorem run_load1_own {cs : List Value} {ct : TypeId} (hS : St M w0 H F w) (ha : ev n e x = .pointer (some ⟨b, o, none⟩)) (hA : aggOf P t = some false) (hb : At H b (.cells cs.toArray ct)) (hn : Nth cs o v) :
    (execOp (ev n e) ⟨dst, .load t x, ty, pos, after, none⟩).run P w = .ok (.value v) w := run_load1 ha hA (by rw [cell_own (hS.at_ hb)]; exact hn.get)
theorem run_loadN_own {cs vs : List Value} {ct : TypeId} {k : Nat} (hS : St M w0 H F w) (ha : ev n e x = .pointer (some ⟨b, o, none⟩)) (hA : aggOf P t = some true) (hs : cellsP P t = some k) (hb : At H b (.cells cs.toArray ct)) (hn : Cut cs o k vs) :
    (execOp (ev n e) ⟨dst, .load t x, ty, pos, after, none⟩).run P w = .ok (.value (.agg vs.toArray)) w := by
  refine run_loadN ha hA (by rw [hn.length]; exact hs) fun j v hj => ?_
  rw [addrPlus, cell_own (hS.at_ hb)]
  have hjk : j < k := by
    rcases Nat.lt_or_ge j k with h | h
    · exact h
    · rw [List.getElem?_eq_none (by rw [hn.length]; exact h)] at hj; cases hj
  rw [hn.get j hjk]; exact hj
/-- A load of one cell, or of several, of what was there. -/
theorem run_load4 {v0 v1 v2 v3 : Value} (ha : ev n e x = .pointer (some ⟨b, o, none⟩)) (hA : aggOf P t = some true) (hs : cellsP P t = some 4)
    (h0 : w.cell? ⟨b, o, none⟩ = some v0) (h1 : w.cell? ⟨b, o + 1, none⟩ = some v1) (h2 : w.cell? ⟨b, o + 2, none⟩ = some v2) (h3 : w.cell? ⟨b, o + 3, none⟩ = some v3) :
    (execOp (ev n e) ⟨dst, .load t x, ty, pos, after, none⟩).run P w = .ok (.value (.agg #[v0, v1, v2, v3])) w := by
  refine run_loadN (cs := [v0, v1, v2, v3]) ha hA hs fun j v hj => ?_
  rw [addrPlus]
  match j, hj with
  | 0, hj => simp at hj; subst hj; exact h0
  | 1, hj => simp at hj; subst hj; exact h1
  | 2, hj => simp at hj; subst hj; exact h2
  | 3, hj => simp at hj; subst hj; exact h3
  | j + 4, hj => simp at hj
theorem run_load2 {v0 v1 : Value} (ha : ev n e x = .pointer (some ⟨b, o, none⟩)) (hA : aggOf P t = some true) (hs : cellsP P t = some 2)
    (h0 : w.cell? ⟨b, o, none⟩ = some v0) (h1 : w.cell? ⟨b, o + 1, none⟩ = some v1) :
    (execOp (ev n e) ⟨dst, .load t x, ty, pos, after, none⟩).run P w = .ok (.value (.agg #[v0, v1])) w := by
  refine run_loadN (cs := [v0, v1]) ha hA hs fun j v hj => ?_
  rw [addrPlus]
  match j, hj with
  | 0, hj => simp at hj; subst hj; exact h0
  | 1, hj => simp at hj; subst hj; exact h1
  | j + 2, hj => simp at hj
theorem run_load3 {v0 v1 v2 : Value} (ha : ev n e x = .pointer (some ⟨b, o, none⟩)) (hA : aggOf P t = some true) (hs : cellsP P t = some 3)
    (h0 : w.cell? ⟨b, o, none⟩ = some v0) (h1 : w.cell? ⟨b, o + 1, none⟩ = some v1) (h2 : w.cell? ⟨b, o + 2, none⟩ = some v2) :
    (execOp (ev n e) ⟨dst, .load t x, ty, pos, after, none⟩).run P w = .ok (.value (.agg #[v0, v1, v2])) w := by
  refine run_loadN (cs := [v0, v1, v2]) ha hA hs fun j v hj => ?_
  rw [addrPlus]
  match j, hj with
  | 0, hj => simp at hj; subst hj; exact h0
  | 1, hj => simp at hj; subst hj; exact h1
  | 2, hj => simp at hj; subst hj; exact h2
  | j + 3, hj => simp at hj
theorem run_load5 {v0 v1 v2 v3 v4 : Value} (ha : ev n e x = .pointer (some ⟨b, o, none⟩)) (hA : aggOf P t = some true) (hs : cellsP P t = some 5)
    (h0 : w.cell? ⟨b, o, none⟩ = some v0) (h1 : w.cell? ⟨b, o + 1, none⟩ = some v1) (h2 : w.cell? ⟨b, o + 2, none⟩ = some v2) (h3 : w.cell? ⟨b, o + 3, none⟩ = some v3) (h4 : w.cell? ⟨b, o + 4, none⟩ = some v4) :
    (execOp (ev n e) ⟨dst, .load t x, ty, pos, after, none⟩).run P w = .ok (.value (.agg #[v0, v1, v2, v3, v4])) w := by
  refine run_loadN (cs := [v0, v1, v2, v3, v4]) ha hA hs fun j v hj => ?_
  rw [addrPlus]
  match j, hj with
  | 0, hj => simp at hj; subst hj; exact h0
  | 1, hj => simp at hj; subst hj; exact h1
  | 2, hj => simp at hj; subst hj; exact h2
  | 3, hj => simp at hj; subst hj; exact h3
  | 4, hj => simp at hj; subst hj; exact h4
  | j + 5, hj => simp at hj
theorem run_load6 {v0 v1 v2 v3 v4 v5 : Value} (ha : ev n e x = .pointer (some ⟨b, o, none⟩)) (hA : aggOf P t = some true) (hs : cellsP P t = some 6)
    (h0 : w.cell? ⟨b, o, none⟩ = some v0) (h1 : w.cell? ⟨b, o + 1, none⟩ = some v1) (h2 : w.cell? ⟨b, o + 2, none⟩ = some v2) (h3 : w.cell? ⟨b, o + 3, none⟩ = some v3) (h4 : w.cell? ⟨b, o + 4, none⟩ = some v4) (h5 : w.cell? ⟨b, o + 5, none⟩ = some v5) :
    (execOp (ev n e) ⟨dst, .load t x, ty, pos, after, none⟩).run P w = .ok (.value (.agg #[v0, v1, v2, v3, v4, v5])) w := by
  refine run_loadN (cs := [v0, v1, v2, v3, v4, v5]) ha hA hs fun j v hj => ?_
  rw [addrPlus]
  match j, hj with
  | 0, hj => simp at hj; subst hj; exact h0
  | 1, hj => simp at hj; subst hj; exact h1
  | 2, hj => simp at hj; subst hj; exact h2
  | 3, hj => simp at hj; subst hj; exact h3
  | 4, hj => simp at hj; subst hj; exact h4
  | 5, hj => simp at hj; subst hj; exact h5
  | j + 6, hj => simp at hj
/-- The address of a field. -/
def foff (P : Program) (s : TypeId) (i : Nat) : Option Nat := match P.underlying s with
  | some (.struct fs) => match fs[i]? with
    | some f => match cellsP P f.type with
      | some 0 => none
      | some _ => some f.offset
      | none => none
    | none => none
  | _ => none
theorem run_fieldAddr {s i off : Nat} (ha : ev n e x = .pointer (some ⟨b, o, none⟩)) (hf : foff P s i = some off) :
    (execOp (ev n e) ⟨dst, .fieldAddr s x i, ty, pos, after, none⟩).run P w = .ok (.value (.pointer (some ⟨b, o + off, none⟩))) w := by
  unfold foff at hf
  split at hf
  · rename_i fs hu
    split at hf
    · rename_i fl hi
      split at hf
      · cases hf
      · rename_i k hk0 hk
        cases hf
        have h1 := run_underlying hu w
        have h2 := run_sizeP (w := w) hk
        have hz : ¬ k = 0 := fun h => hk0 h
        simp only [execOp, ha, Instr.fieldAt, Instr.sureAddr, fieldPlace, bind, pure, Sem.bind]
        rw [Sem.run_bind', Sem.run_bind', h1]
        simp only [Result.andThen_ok, hi]
        rw [Sem.run_bind', Sem.run_bind', h2]
        simp only [Result.andThen_ok, if_neg hz, Sem.run, Sem.bind, addrPlus]
      · cases hf
    · cases hf
  · cases hf
/-- A field of a value. -/
theorem run_field1 {s i off ft : Nat} {cs : List Value} (hx : ev n e x = .agg cs.toArray) (hf : foff P s i = some off) (hft : (match P.underlying s with | some (.struct fs) => fs[i]?.map (·.type) | _ => none) = some ft) (hA : aggOf P ft = some false) (hv : Nth cs off v) :
    (execOp (ev n e) ⟨dst, .field s x i, ty, pos, after, none⟩).run P w = .ok (.value v) w := by
  unfold foff at hf
  split at hf
  · rename_i fs hu
    rw [hu] at hft
    split at hf
    · rename_i fl hi
      split at hf
      · cases hf
      · rename_i k hk0 hk
        cases hf
        simp only [hi, Option.map_some, Option.some.injEq] at hft
        have h1 := run_underlying hu w
        rw [← hft] at hA
        have h2 := run_isAgg (w := w) hA
        simp only [execOp, hx, Instr.field, asAgg, part, bind, pure, Sem.bind]
        rw [Sem.run_bind', Sem.run_bind', h1]
        simp only [Result.andThen_ok, hi]
        rw [Sem.run_bind', h2]
        have := hv.get
        simp [Sem.run, this]
      · cases hf
    · cases hf
  · cases hf
/-- A new variable. -/
theorem lst_box {s : TypeId} {cs : List Value} (hS : St M w0 H F w) (hx : (ev n e x).cells = cs.toArray) (hd : Nat.blt d n = true)
    (h : ∀ b w', St M w0 ((b, .cells cs.toArray s) :: H) F w' → Lst P Q ops rest n ((d, .pointer (some ⟨b, 0, none⟩)) :: e) w') :
    Lst P Q ops (⟨some d, .box s x, ty, pos, after, none⟩ :: rest) n e w := by
  refine lst_run (v := .pointer (some ⟨w.heap.size, 0, none⟩)) (w' := w.alloc (.cells cs.toArray s)) ?_ hd (h _ _ (hS.alloc _))
  simp only [execOp, Instr.box, newVar, newRow, newObj, hx, bind, pure, Sem.bind, Sem.run]
  rfl
def zeroP (P : Program) (t : TypeId) : Option Value := (P.info? t).bind (·.zero)
theorem run_zeroP (h : zeroP P t = some v) : (zeroValue t).run P w = .ok v w := by
  unfold zeroP at h
  cases hi : P.info? t with
  | none => rw [hi] at h; cases h
  | some i =>
    rw [hi] at h
    simp only [Option.bind_some] at h
    simp [zeroValue, typeInfo, Go.program, bind, Sem.bind, Sem.run, hi, pure, h]
theorem lst_alloc {s : TypeId} {cs : List Value} (hS : St M w0 H F w) (hz : zeroP P s = some v) (hx : v.cells = cs.toArray) (hd : Nat.blt d n = true)
    (h : ∀ b w', St M w0 ((b, .cells cs.toArray s) :: H) F w' → Lst P Q ops rest n ((d, .pointer (some ⟨b, 0, none⟩)) :: e) w') :
    Lst P Q ops (⟨some d, .alloc s, ty, pos, after, none⟩ :: rest) n e w := by
  refine lst_run (v := .pointer (some ⟨w.heap.size, 0, none⟩)) (w' := w.alloc (.cells cs.toArray s)) ?_ hd (h _ _ (hS.alloc _))
  have h1 := run_zeroP (w := w) hz
  simp only [execOp, Instr.alloc, bind, pure]
  rw [Sem.run_bind', Sem.run_bind', h1]
  simp only [Result.andThen_ok, newVar, newRow, newObj, hx, bind, pure, Sem.bind, Sem.run]
  rfl
/-- A store into a block of the call's own. -/
theorem setCell_ext (b o : Nat) (v : Value) : Ext [b] w (w.setCell ⟨b, o, none⟩ v) :=
  ⟨rfl, rfl, rfl, by simp [World.setCell], fun k _ hk => Below.heap_setCell _ _ _ _ (by simpa using hk)⟩
theorem setCell_own {cs : List Value} {ct : TypeId} (h : w.heap[b]? = some (.cells cs.toArray ct)) (o : Nat) (v : Value) : (w.setCell ⟨b, o, none⟩ v).heap[b]? = some (.cells (cs.set o v).toArray ct) := by
  simp [World.setCell, Array.getElem?_modify, h]
theorem run_store1 {y : Operand} {u : Value} {a : Addr} (ha : ev n e x = .pointer (some a)) (hy : ev n e y = v) (hs : cellsP P t = some 1) (h1 : v.oneCell' = true) (hc : w.cell? a = some u) (hf : w.frozen? a = false) :
    (execOp (ev n e) ⟨none, .store t x y, ty, pos, after, none⟩).run P w = .ok .skip (w.setCell a v) := by
  have h2 := run_sizeP (w := w) hs
  have hcl : v.cells = #[v] := by cases v <;> simp_all [Value.cells, Value.oneCell']
  have h3 := run_store P w (a.add 0) v .plain h1
  have ha0 : a.add 0 = a := by simp [Addr.add]
  rw [ha0, hc] at h3
  simp only [execOp, ha, hy, Instr.storeAt, Instr.sureAddr, storeVar, bind, pure, Sem.bind]
  rw [Sem.run_bind', Sem.run_bind', h2]
  simp only [Result.andThen_ok, hcl]
  simp only [List.size_toArray, List.length_cons, List.length_nil, Nat.zero_add, ne_eq, not_true_eq_false, if_false, storeCells, bind, pure, ha0]
  rw [Sem.run_bind', h3]
  simp [hf, Sem.run]
theorem lst_store1 {y : Operand} {cs cs' : List Value} {ct : TypeId} (hS : St M w0 H F w) (ha : ev n e x = .pointer (some ⟨b, o, none⟩)) (hy : ev n e y = v) (hs : cellsP P t = some 1) (h1 : v.oneCell' = true)
    (hat : At H b (.cells cs.toArray ct)) (hp : Put cs o v cs') (hu : Upd H b (.cells cs.toArray ct) (.cells cs'.toArray ct) H')
    (h : ∀ w', St M w0 H' F w' → Lst P Q ops rest n e w') : Lst P Q ops (⟨none, .store t x y, ty, pos, after, none⟩ :: rest) n e w := by
  have hb := hS.at_ hu.at_
  have hq := hp.eq
  refine lst_skip0 (run_store1 (u := cs[o]'hq.2) ha hy hs h1 (by rw [cell_own hb]; simp [hq.2]) (by simp [World.frozen?, hb])) (h _ (hS.turn hu (setCell_ext _ _ _) ?_))
  rw [setCell_own hb, hq.1]
end
end Go.Proofs.YtdiophafmokfiaaGreatDoor
