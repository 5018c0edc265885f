/-
  The path through a term (newPath, next, add) is the list of the nodes still to visit.
-/
import Derived.Test.YtjicoifjgokoiaaCopy
import Derived.Test.YtjicoifjgokoiaaRows
import Derived.Deep.LoopGhost
import Derived.StillTailTactics
import Derived.RegionTactic
import Derived.OneCell
namespace Go.Proofs.Ytjicoifjgokoiaa
open Go.RowKit

theorem info_terms : (Try.prog.info? 22).map (fun i => (i.zero, i.size, i.bytes)) = some (some (.slice none 0 0), 1, 24) := by kernel_rfl

theorem run_equalIn_slice_nil {P : Program} (w : World) (d : Nat) (t e : TypeId) (a : Option Addr) (l c : Nat) (h : P.underlying t = some (.slice e)) : (Op.equalIn (d + 1) t (.slice a l c) (.slice none 0 0)).run P w = .ok a.isNone w := by
  cases a <;> simp [Op.equalIn, run_underlying h]
theorem run_equal_slice_nil {P : Program} (w : World) (t e : TypeId) (a : Option Addr) (l c : Nat) (h : P.underlying t = some (.slice e)) : (Op.equal t (.slice a l c) (.slice none 0 0)).run P w = .ok a.isNone w := run_equalIn_slice_nil w 9999 t e a l c h
theorem run_eql_slice_nil {P : Program} (w : World) (t e : TypeId) (a : Option Addr) (l c : Nat) (h : P.underlying t = some (.slice e)) : (binOp .eql t (.slice a l c) (.slice none 0 0)).run P w = .ok (.bool a.isNone) w := by
  simp [binOp, run_equal_slice_nil w t e a l c h]

/-- The variable in block pb is a path: a row of the call's own of the slices xs. -/
structure IsPath (w : World) (B pb : Nat) (pv : Value) (xs : List Value) : Prop where
  var : Plot w pb 61 #[pv]
  own : w.ownsRow B 22 1 pv xs.length xs
  apart : pv.ownBlock ≠ some pb

theorem Plot.ne_ {w : World} {g g' : Nat} {t t' : TypeId} {cs cs' : Array Value} (h : Plot w g t cs) (h' : Plot w g' t' cs') (hne : t ≠ t') : g ≠ g' := by
  rintro rfl
  unfold Plot at h h'
  rw [h] at h'
  injection h' with h'
  injection h' with _ ht
  exact hne ht
theorem IsPath.chg {S : Nat → Prop} {w w' : World} {B pb : Nat} {pv : Value} {xs : List Value} (h : IsPath w B pb pv xs) (hc : Chg S w w') (h1 : ¬ S pb) (h2 : ∀ g, pv.ownBlock = some g → ¬ S g) : IsPath w' B pb pv xs :=
  ⟨h.var.chg hc h1, own_chg h.own hc h2, h.apart⟩
theorem IsPath.other {w : World} {B pb b : Nat} {pv : Value} {xs : List Value} {cur : Array Value} (h : IsPath w B pb pv xs) (hb : Plot w b 24 cur) : b ≠ pb ∧ pv.ownBlock ≠ some b := by
  refine ⟨hb.ne_ h.var (by decide), fun e => ?_⟩
  rcases h.own.2 with ⟨e1, _⟩ | ⟨g, cap, cur', e1, _, hh, _⟩
  · rw [e1] at e; simp [Value.ownBlock] at e
  · rw [e1] at e
    simp only [Value.ownBlock, Option.some.injEq] at e
    subst e
    exact hb.ne_ (t' := 22) hh (by decide) rfl
theorem IsPath.set {w : World} {B pb b i : Nat} {pv u : Value} {xs : List Value} {cur : Array Value} (h : IsPath w B pb pv xs) (hb : Plot w b 24 cur) : IsPath (w.setCell ⟨b, i, none⟩ u) B pb pv xs := by
  obtain ⟨h1, h2⟩ := h.other hb
  exact h.chg ((Chg.refl (fun k => k = b) w).setCell (fun _ => rfl) u) (fun e => h1 e.symm) fun g hg e => h2 (by rw [hg, e])
theorem IsPath.keep {w w' : World} {B pb k : Nat} {pv : Value} {xs : List Value} {cur : Array Value} (h : IsPath w B pb pv xs) (hc : Chg (fun k => k = pb ∨ pv.ownBlock = some k) w w') (hk : Plot w k 24 cur) : Plot w' k 24 cur := by
  obtain ⟨h1, h2⟩ := h.other hk
  exact hk.chg hc fun hS => hS.elim h1 h2

set_option maxHeartbeats 400000 in
theorem newPath_any (k n : Int) (s : ByteArray) (A : Option Addr) (l c : Nat) (w : World) :
    Calls Try.prog 35 #[.agg #[.int .i64 k, .int .i64 n, .string s, .slice A l c]] w fun e w' => e = .returned (.slice (some ⟨w.heap.size + 2, 0, none⟩) 1 1) ∧
      w' = ((w.alloc (.cells #[.int .i64 k, .int .i64 n, .string s, .slice A l c] 24)).alloc (.cells #[.int .i64 k, .int .i64 n, .string s, .slice A l c] 24)).alloc (.cells #[.slice (some ⟨w.heap.size + 1, 0, none⟩) 1 1] 22) := by
  go_enter Try.func35, Try.ntmps35
  go_wp2_with fail
  go_ret
  exact ⟨rfl, rfl⟩

set_option maxHeartbeats 400000 in
theorem next_last {w : World} {B pb : Nat} {pv : Value} {ys : List Value} {b o cap : Nat} (hp : IsPath w B pb pv (ys ++ [.slice (some ⟨b, o, none⟩) 1 cap])) (hn : ys.length ≤ 1073741824) :
    Calls Try.prog 36 #[.pointer (some ⟨pb, 0, none⟩)] w fun e w' => e = .returned (.pointer (some ⟨b, o, none⟩)) ∧
      ∃ pv', IsPath w' B pb pv' ys ∧ pv'.ownBlock = pv.ownBlock ∧ Chg (fun k => k = pb ∨ pv.ownBlock = some k) w w' := by
  obtain ⟨hv, ho, ha⟩ := hp
  rcases ho.2 with ⟨_, h0⟩ | ⟨g, cp, cur, rfl, hg, hh, hnc, hcm, hcs, htk⟩
  · simp at h0
  have c0 : w.cell? ⟨pb, 0, none⟩ = some (.slice (some ⟨g, 0, none⟩) (ys ++ [Value.slice (some ⟨b, o, none⟩) 1 cap]).length cp) := hv.cell 0
  have f0 : w.frozen? ⟨pb, 0, none⟩ = false := hv.frozen 0
  have c1 : w.cell? ⟨g, ys.length, none⟩ = some (.slice (some ⟨b, o, none⟩) 1 cap) := by
    rw [ho.cellAt _ (by simp)]; simp
  simp only [List.length_append, List.length_cons, List.length_nil, Nat.zero_add] at c0 hnc
  have hgp : g ≠ pb := fun e => ha (by rw [e]; rfl)
  have hfin : IsPath (w.setCell ⟨pb, 0, none⟩ (.slice (some ⟨g, 0, none⟩) ys.length cp)) B pb (.slice (some ⟨g, 0, none⟩) ys.length cp) ys := by
    refine ⟨hv.set_ 0 _, ⟨by simp, .inr ⟨g, cp, cur, rfl, hg, (Below.heap_setCell _ _ _ _ hgp).trans hh, by omega, hcm, hcs, ?_⟩⟩, by simpa [Value.ownBlock] using hgp⟩
    have := congrArg (List.take (ys.length * 1)) htk
    rw [List.take_take] at this
    simpa [Nat.min_eq_left] using this
  have hchg : Chg (fun k => k = pb ∨ (Value.slice (some ⟨g, 0, none⟩) (ys ++ [Value.slice (some ⟨b, o, none⟩) 1 cap]).length cp).ownBlock = some k) w (w.setCell ⟨pb, 0, none⟩ (.slice (some ⟨g, 0, none⟩) ys.length cp)) :=
    (Chg.refl _ _).setCell (fun _ => .inl rfl) _
  clear hv ho ha htk
  go_enter Try.func36, Try.ntmps36
  go_wp2_with fail
  go_ret
  exact ⟨rfl, _, hfin, rfl, hchg⟩

set_option maxHeartbeats 400000 in
theorem next_more {w : World} {B pb : Nat} {pv : Value} {ys : List Value} {b o l cap : Nat} (hp : IsPath w B pb pv (ys ++ [.slice (some ⟨b, o, none⟩) (l + 2) cap])) (hn : ys.length ≤ 1073741824) (hl : l ≤ 1073741824) (hc : l + 2 ≤ cap) :
    Calls Try.prog 36 #[.pointer (some ⟨pb, 0, none⟩)] w fun e w' => e = .returned (.pointer (some ⟨b, o, none⟩)) ∧
      ∃ pv', IsPath w' B pb pv' (ys ++ [.slice (some ⟨b, o + 4, none⟩) (l + 1) (cap - 1)]) ∧ pv'.ownBlock = pv.ownBlock ∧ Chg (fun k => k = pb ∨ pv.ownBlock = some k) w w' := by
  obtain ⟨hv, ho, ha⟩ := hp
  rcases ho.2 with ⟨_, h0⟩ | ⟨g, cp, cur, rfl, hg, hh, hnc, hcm, hcs, htk⟩
  · simp at h0
  have c0 : w.cell? ⟨pb, 0, none⟩ = some (.slice (some ⟨g, 0, none⟩) (ys ++ [Value.slice (some ⟨b, o, none⟩) (l + 2) cap]).length cp) := hv.cell 0
  have c1 : w.cell? ⟨g, ys.length, none⟩ = some (.slice (some ⟨b, o, none⟩) (l + 2) cap) := by
    rw [ho.cellAt _ (by simp)]; simp
  have f1 : w.frozen? ⟨g, ys.length, none⟩ = false := ho.frozenAt _
  simp only [List.length_append, List.length_cons, List.length_nil, Nat.zero_add] at c0 hnc
  have hgp : g ≠ pb := fun e => ha (by rw [e]; rfl)
  have hst := (ho.stored ys.length (.slice (some ⟨b, o + 4, none⟩) (l + 1) (cap - 1))).1
  have hfin : IsPath (w.setCell ⟨g, ys.length, none⟩ (.slice (some ⟨b, o + 4, none⟩) (l + 1) (cap - 1))).drew B pb (.slice (some ⟨g, 0, none⟩) (ys.length + 1) cp) (ys ++ [.slice (some ⟨b, o + 4, none⟩) (l + 1) (cap - 1)]) := by
    refine ⟨?_, ?_, by simpa [Value.ownBlock] using hgp⟩
    · have := hv.far (p := ⟨g, ys.length, none⟩) (Ne.symm hgp) (.slice (some ⟨b, o + 4, none⟩) (l + 1) (cap - 1))
      simp only [List.length_append, List.length_cons, List.length_nil, Nat.zero_add] at this
      exact this
    · simp at hst
      have e : (ys ++ [Value.slice (some ⟨b, o + 4, none⟩) (l + 1) (cap - 1)]).length = ys.length + 1 := by simp
      rw [e]
      exact hst
  have hchg : Chg (fun k => k = pb ∨ (Value.slice (some ⟨g, 0, none⟩) (ys ++ [Value.slice (some ⟨b, o, none⟩) (l + 2) cap]).length cp).ownBlock = some k) w (w.setCell ⟨g, ys.length, none⟩ (.slice (some ⟨b, o + 4, none⟩) (l + 1) (cap - 1))).drew :=
    ((Chg.refl _ _).setCell (fun _ => .inr rfl) _).drew
  have hl1 : (((l + 2 : Nat) : Int) == 1) = false := by rw [beq_eq_false_iff_ne]; omega
  clear hv ho ha htk hst
  go_enter Try.func36, Try.ntmps36
  go_wp2_with fail
  go_region
  go_wp2_with fail
  go_ret
  exact ⟨rfl, _, hfin, rfl, hchg⟩

set_option maxHeartbeats 400000 in
theorem add_none {w : World} (v : Value) (A : Option Addr) (c : Nat) : Calls Try.prog 37 #[v, .slice A 0 c] w fun e w' => e = .returned (.tuple #[]) ∧ w = w' := by
  go_enter Try.func37, Try.ntmps37
  go_wp2_with fail
  go_end0
  exact ⟨rfl, rfl⟩

set_option maxHeartbeats 400000 in
theorem add_some {w : World} {B pb : Nat} {pv : Value} {xs : List Value} {A : Option Addr} {l c : Nat} (hp : IsPath w B pb pv xs) (hB : B ≤ w.heap.size) (hn : xs.length ≤ 1073741824) :
    Calls Try.prog 37 #[.pointer (some ⟨pb, 0, none⟩), .slice A (l + 1) c] w fun e w' => e = .returned (.tuple #[]) ∧
      ∃ pv', IsPath w' B pb pv' (xs ++ [.slice A (l + 1) c]) ∧ (pv'.ownBlock = pv.ownBlock ∨ ∃ g, pv'.ownBlock = some g ∧ w.heap.size ≤ g) ∧ Chg (fun k => k = pb ∨ pv.ownBlock = some k) w w' := by
  obtain ⟨hv, ho, ha⟩ := hp
  obtain ⟨i0, hi0, hz0, hz1, hz2⟩ := info_parts info_terms
  have c0 : w.cell? ⟨pb, 0, none⟩ = some pv := hv.cell 0
  have hW : Below w.heap.size w (w.alloc (.cells #[.slice A (l + 1) c] 22)) := (Below.refl _ _).alloc (Nat.le_refl _) _
  have ho' := own_below ho hW
  have hlt := hv.lt
  have HB := Lib.hid ha
  clear ha
  go_enter Try.func37, Try.ntmps37
  go_wp2_with (at_builtin; refine wpList_append_at _ rfl (.tmp 10) (.tmp 12) _ rfl B 22 i0 _ 1 24 Try.underlying61 hi0 hz0 hz1 hz2 rfl (by omega) pv xs.length xs rfl ho' ⟨w.heap.size, 0, none⟩ 1 1 [.slice A (l + 1) c] rfl rfl (cell_lit w [.slice A (l + 1) c] 22) (by simp [Value.oneCell']) (by simp only [maxLen]; omega) (by omega) (by simp; omega) ?next)
  case next =>
    intro v' w' hov hg hat
    have cp : Plot w' pb 61 #[pv] := (hv.alloc _).grown hg (fun e => HB.out e.symm)
    have c1 : w'.cell? ⟨pb, 0, none⟩ = some pv := cp.cell 0
    have f1 : w'.frozen? ⟨pb, 0, none⟩ = false := cp.frozen 0
    rcases hov.2 with ⟨_, h0⟩ | ⟨g, cap, cur, rfl, hgB, hh, hnc, hcm, hcs, htk⟩
    · omega
    have hne : g ≠ pb := by
      rcases hat with e | e
      · intro e2; subst e2; exact HB.out e.symm
      · simp [Value.ownBlock] at e; omega
    have hfin : IsPath (w'.setCell ⟨pb, 0, none⟩ (.slice (some ⟨g, 0, none⟩) (xs.length + 1) cap)) B pb (.slice (some ⟨g, 0, none⟩) (xs.length + 1) cap) (xs ++ [.slice A (l + 1) c]) := by
      refine ⟨cp.set_ 0 _, ?_, by simpa [Value.ownBlock] using hne⟩
      have := ownsRow_setCell_other hov (a := ⟨pb, 0, none⟩) (by simpa [Value.ownBlock] using hne) (.slice (some ⟨g, 0, none⟩) (xs.length + 1) cap)
      simpa using this
    have hat' : (Value.slice (some ⟨g, 0, none⟩) (xs.length + 1) cap).ownBlock = pv.ownBlock ∨ ∃ g', (Value.slice (some ⟨g, 0, none⟩) (xs.length + 1) cap).ownBlock = some g' ∧ w.heap.size ≤ g' := by
      rcases hat with e | e
      · exact .inl e
      · exact .inr ⟨_, e, by omega⟩
    have hchg : Chg (fun k => k = pb ∨ pv.ownBlock = some k) w (w'.setCell ⟨pb, 0, none⟩ (.slice (some ⟨g, 0, none⟩) (xs.length + 1) cap)) := by
      refine Chg.setCell ?_ (fun _ => .inl rfl) _
      exact ((Chg.refl _ w).alloc _).trans (Chg.of_grown hg) fun k _ e => .inr e
    have HX := Lib.hid hat'
    clear hat hat' htk hov
    go_wp2_with fail
    go_end0
    exact ⟨rfl, _, hfin, HX.out, hchg⟩

/-- The value v is a slice whose cells, four an element, are xs. -/
def Raw (w : World) (v : Value) (l : Nat) (xs : List Value) : Prop :=
  ∃ A c, v = .slice A l c ∧ l ≤ c ∧ xs.length = l * 4 ∧ (∀ u ∈ xs, u.oneCell' = true) ∧ (0 < l → ∃ b o, A = some ⟨b, o, none⟩ ∧ ∀ j u, xs[j]? = some u → w.cell? ⟨b, o + j, none⟩ = some u)
theorem Sl.raw {w : World} {p : Nat → Prop} {v : Value} {T : Ts} (h : Sl w p v T) : ∃ xs, Raw w v T.length xs ∧ Cs w p T xs := by
  obtain ⟨A, c, rfl, hc, hs⟩ := h
  rcases Nat.eq_zero_or_pos T.length with h | h
  · rw [Ts.nil_of_length h]
    exact ⟨[], ⟨A, c, rfl, Nat.zero_le _, rfl, fun u hu => (by cases hu), fun h => absurd h (Nat.lt_irrefl _)⟩, rfl⟩
  · obtain ⟨b, o, e, hseg⟩ := hs h
    obtain ⟨xs, h1, h2⟩ := hseg.cells
    exact ⟨xs, ⟨A, c, rfl, hc, h1.length, h1.one, fun _ => ⟨b, o, e, h2⟩⟩, h1⟩

set_option maxHeartbeats 400000 in
theorem clone_raw {w : World} {v : Value} {l : Nat} {xs : List Value} (hv : Raw w v l xs) (hn : l ≤ 1073741824) :
    Calls Try.prog 61 #[v] w fun e w' => ∃ v', e = .returned v' ∧ w'.ownsRow w.heap.size 24 4 v' l xs ∧ Below w.heap.size w w' := by
  obtain ⟨A, c, rfl, hc, hlen, hone, hs⟩ := hv
  have hnil : ∀ W, (binOp .eql 22 (.slice A l c) (.slice none 0 0)).run Try.prog W = .ok (.bool A.isNone) W := fun W => run_eql_slice_nil W _ _ A _ c Try.underlying22
  cases A with
  | none =>
    have hl : l = 0 := by
      rcases Nat.eq_zero_or_pos l with h | h
      · exact h
      · obtain ⟨b, o, e, _⟩ := hs h; cases e
    subst hl
    have hx : xs = [] := List.eq_nil_of_length_eq_zero (by simpa using hlen)
    subst hx
    clear hlen hs hone
    go_enter Try.func61, Try.ntmps61
    go_wp2_with fail
    go_ret
    exact ⟨_, rfl, World.ownsRow_nil _ _ _ _, Below.refl _ _⟩
  | some a =>
    obtain ⟨i0, hi0, hz0, hz1, hz2⟩ := info_parts info_term
    have hcell : ∀ j u, xs[j]? = some u → w.cell? (a.add j) = some u := by
      rcases Nat.eq_zero_or_pos l with h | h
      · have hx : xs = [] := List.eq_nil_of_length_eq_zero (by simpa [h] using hlen)
        subst hx
        intro j u hu; simp at hu
      · obtain ⟨b, o, e, h2⟩ := hs h
        simp only [Option.some.injEq] at e
        subst e
        intro j u hu
        have := h2 j u hu
        by_cases hj : j = 0
        · subst hj; simpa [Addr.add] using this
        · simpa [Addr.add, hj] using this
    have hW : Below w.heap.size w (w.alloc (.cells #[] 24)) := (Below.refl _ _).alloc (Nat.le_refl _) _
    have ho : (w.alloc (.cells #[] 24)).ownsRow w.heap.size 24 4 (.slice (some ⟨w.heap.size, 0, none⟩) 0 0) 0 [] := by
      simpa using World.ownsRow_lit (base := w.heap.size) (e := 24) (size := 4) w #[] 0 (Nat.le_refl _) (by simp [maxLen]) (by simp)
    have hcell' : ∀ j u, xs[j]? = some u → (w.alloc (.cells #[] 24)).cell? (a.add j) = some u := fun j u hu => (hW.cell (lt_of_cell (hcell j u hu))).trans (hcell j u hu)
    have H1 := Lib.hid hcell'
    have H2 := Lib.hid hone
    have H3 := Lib.hid hlen
    clear hcell hcell' hs hone hlen
    go_enter Try.func61, Try.ntmps61
    go_wp2_with (at_builtin; refine wpList_append_at _ rfl (.tmp 5) (.tmp 6) _ rfl w.heap.size 24 i0 _ 4 56 Try.underlying22 hi0 hz0 hz1 hz2 rfl (by omega) _ 0 [] rfl ho a l c xs rfl H3.out H1.out H2.out (by simp only [maxLen]; omega) (by omega) (by simp) ?next)
    case next =>
      intro v' w' hov hg hat
      have hb : Below w.heap.size w w' := by
        refine hW.grown hg (by simp) fun k hk => ?_
        simp [Value.ownBlock] at hk; omega
      go_wp2_with fail
      go_ret
      exact ⟨_, rfl, by simpa using hov, hb⟩

/-- A list of terms that is still to be visited: from cell o of block b on. -/
structure Lev where
  b : Nat
  o : Nat
  T : Ts
def push (T : Ts) (b o : Nat) (L : List Lev) : List Lev := if T.length = 0 then L else ⟨b, o, T⟩ :: L
def nodesOf (L : List Lev) : Nat := (L.map fun l => l.T.nodes).sum
theorem nodesOf_push (T : Ts) (b o : Nat) (L : List Lev) : nodesOf (push T b o L) = T.nodes + nodesOf L := by
  unfold push
  split
  · rename_i h; rw [Ts.nil_of_length h]; simp [Ts.nodes]
  · simp [nodesOf]
/-- The path's slices, the newest last, are the levels, the newest first. -/
def PV : List Lev → List Value → Prop
  | [], xs => xs = []
  | l :: r, xs => ∃ ys cap, xs = ys ++ [.slice (some ⟨l.b, l.o, none⟩) l.T.length cap] ∧ l.T.length ≤ cap ∧ 0 < l.T.length ∧ PV r ys
theorem PV.length : ∀ {L : List Lev} {xs : List Value}, PV L xs → xs.length = L.length
  | [], xs, h => by rw [show xs = [] from h]; rfl
  | l :: r, xs, ⟨ys, cap, e, _, _, h⟩ => by rw [e]; simp [h.length]
theorem PV.le : ∀ {L : List Lev} {xs : List Value}, PV L xs → L.length ≤ nodesOf L
  | [], xs, h => by simp [nodesOf]
  | l :: r, xs, ⟨ys, cap, e, _, h0, h⟩ => by
    have := h.le
    have := l.T.length_le
    simp only [List.length_cons, nodesOf, List.map_cons, List.sum_cons] at *
    omega

theorem next_lev {w : World} {B pb : Nat} {pv : Value} {xs : List Value} {b o : Nat} {k n : Int} {s : ByteArray} {ar r : Ts} {L : List Lev} (hp : IsPath w B pb pv xs) (hv : PV (⟨b, o, .cons k n s ar r⟩ :: L) xs) (hn : nodesOf (⟨b, o, .cons k n s ar r⟩ :: L) ≤ 1073741824) :
    Calls Try.prog 36 #[.pointer (some ⟨pb, 0, none⟩)] w fun e w' => e = .returned (.pointer (some ⟨b, o, none⟩)) ∧
      ∃ pv' xs', IsPath w' B pb pv' xs' ∧ PV (push r b (o + 4) L) xs' ∧ pv'.ownBlock = pv.ownBlock ∧ Chg (fun k => k = pb ∨ pv.ownBlock = some k) w w' := by
  have hle := hv.le
  obtain ⟨ys, cap, rfl, hcap, _, hys⟩ := hv
  have hyl := hys.length
  have hrl := r.length_le
  simp only [List.length_cons, nodesOf, List.map_cons, List.sum_cons, Ts.nodes] at hle hn
  simp only [Ts.length] at hp hcap
  cases hr : r.length with
  | zero =>
    rw [hr] at hp
    refine (next_last hp (by omega)).mono ?_
    rintro e w' ⟨he, pv', h1, h2, h3⟩
    exact ⟨he, pv', ys, h1, by simpa [push, hr] using hys, h2, h3⟩
  | succ l =>
    rw [hr] at hp hcap
    refine (next_more hp (by omega) (by omega) hcap).mono ?_
    rintro e w' ⟨he, pv', h1, h2, h3⟩
    refine ⟨he, pv', _, h1, ?_, h2, h3⟩
    have e : push r b (o + 4) L = ⟨b, o + 4, r⟩ :: L := by simp [push, hr]
    rw [e]
    exact ⟨ys, cap - 1, by rw [hr], by show r.length ≤ _; omega, by show 0 < r.length; omega, hys⟩

theorem add_lev {w : World} {B pb : Nat} {pv : Value} {xs : List Value} {A : Option Addr} {c : Nat} {T : Ts} {b o : Nat} {L : List Lev} (hp : IsPath w B pb pv xs) (hv : PV L xs) (hB : B ≤ w.heap.size) (hn : nodesOf L ≤ 1073741824) (hc : T.length ≤ c) (hA : 0 < T.length → A = some ⟨b, o, none⟩) :
    Calls Try.prog 37 #[.pointer (some ⟨pb, 0, none⟩), .slice A T.length c] w fun e w' => e = .returned (.tuple #[]) ∧
      ∃ pv' xs', IsPath w' B pb pv' xs' ∧ PV (push T b o L) xs' ∧ (pv'.ownBlock = pv.ownBlock ∨ ∃ g, pv'.ownBlock = some g ∧ w.heap.size ≤ g) ∧ Chg (fun k => k = pb ∨ pv.ownBlock = some k) w w' := by
  have hle := hv.le
  have hyl := hv.length
  cases hl : T.length with
  | zero =>
    refine (add_none _ _ _).mono ?_
    rintro e w' ⟨he, rfl⟩
    exact ⟨he, pv, xs, hp, by simpa [push, hl] using hv, .inl rfl, Chg.refl _ _⟩
  | succ l =>
    refine (add_some hp hB (by omega)).mono ?_
    rintro e w' ⟨he, pv', h1, h2, h3⟩
    refine ⟨he, pv', _, h1, ?_, h2, h3⟩
    have e : push T b o L = ⟨b, o, T⟩ :: L := by simp [push, hl]
    rw [e]
    refine ⟨xs, c, ?_, hc, by show 0 < T.length; omega, hv⟩
    rw [hA (by omega), hl]
end Go.Proofs.Ytjicoifjgokoiaa
