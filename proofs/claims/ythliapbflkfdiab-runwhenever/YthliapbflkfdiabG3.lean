/- Path, Named, Node, Visit, Built, Fits, Goals, Query, Clause, CModel, Program, IntMap, Nums, Ren: texts that follow one another, laid into one file. -/
import Derived.Test.YthliapbflkfdiabZ0
import Derived.Test.YthliapbflkfdiabG2
import Derived.Test.YthliapbflkfdiabRows
import Derived.Deep.LoopGhost
import Derived.StillTailTactics
import Derived.RegionTactic
import Derived.OneCell
import Derived.Test.YthliapbflkfdiabG1
import Derived.Test.YthliapbflkfdiabG0
import Derived.Deep.QuietTactic
import Derived.BigQuiet
import Derived.MapKept
import Derived.Maps.OwnOps
import Derived.Deep.RegionLaw
import Derived.Deep.DeepCutAuto
namespace Go.Proofs.Ythliapbflkfdiab
open Go.RowKit
theorem info_terms : (Try.prog.info? 37).map (fun i => (i.zero, i.size, i.bytes)) = some (some (.slice none 0 0), 1, 24) := by kernel_rfl
theorem run_equalIn_slice_nil {P : Program} (w : World) (d : Nat) (t e : TypeId) (a : Option Addr) (l c : Nat) (h : P.underlying t = some (.slice e)) : (Op.equalIn (d + 1) t (.slice a l c) (.slice none 0 0)).run P w = .ok a.isNone w := by
 cases a <;> simp [Op.equalIn, run_underlying h]
theorem run_equal_slice_nil {P : Program} (w : World) (t e : TypeId) (a : Option Addr) (l c : Nat) (h : P.underlying t = some (.slice e)) : (Op.equal t (.slice a l c) (.slice none 0 0)).run P w = .ok a.isNone w := run_equalIn_slice_nil w 9999 t e a l c h
theorem run_eql_slice_nil {P : Program} (w : World) (t e : TypeId) (a : Option Addr) (l c : Nat) (h : P.underlying t = some (.slice e)) : (binOp .eql t (.slice a l c) (.slice none 0 0)).run P w = .ok (.bool a.isNone) w := by
 simp [binOp, run_equal_slice_nil w t e a l c h]
structure IsPath (w : World) (B pb : Nat) (pv : Value) (xs : List Value) : Prop where
 var : Plot w pb 125 #[pv]
 own : w.ownsRow B 37 1 pv xs.length xs
 apart : pv.ownBlock ≠ some pb
theorem Plot.ne_ {w : World} {g g' : Nat} {t t' : TypeId} {cs cs' : Array Value} (h : Plot w g t cs) (h' : Plot w g' t' cs') (hne : t ≠ t') : g ≠ g' := by
 rintro rfl
 unfold Plot at h h'
 rw [h] at h'
 injection h' with h'
 injection h' with _ ht
 exact hne ht
theorem IsPath.chg {S : Nat → Prop} {w w' : World} {B pb : Nat} {pv : Value} {xs : List Value} (h : IsPath w B pb pv xs) (hc : Chg S w w') (h1 : ¬ S pb) (h2 : ∀ g, pv.ownBlock = some g → ¬ S g) : IsPath w' B pb pv xs :=
 ⟨h.var.chg hc h1, own_chg h.own hc h2, h.apart⟩
theorem IsPath.other {w : World} {B pb b : Nat} {pv : Value} {xs : List Value} {cur : Array Value} (h : IsPath w B pb pv xs) (hb : Plot w b 39 cur) : b ≠ pb ∧ pv.ownBlock ≠ some b := by
 refine ⟨hb.ne_ h.var (by decide), fun e => ?_⟩
 rcases h.own.2 with ⟨e1, _⟩ | ⟨g, cap, cur', e1, _, hh, _⟩
 ·rw [e1] at e; simp [Value.ownBlock] at e
 ·rw [e1] at e
  simp only [Value.ownBlock, Option.some.injEq] at e
  subst e
  exact hb.ne_ (t' := 37) hh (by decide) rfl
theorem IsPath.set {w : World} {B pb b i : Nat} {pv u : Value} {xs : List Value} {cur : Array Value} (h : IsPath w B pb pv xs) (hb : Plot w b 39 cur) : IsPath (w.setCell ⟨b, i, none⟩ u) B pb pv xs := by
 obtain ⟨h1, h2⟩ := h.other hb
 exact h.chg ((Chg.refl (fun k => k = b) w).setCell (fun _ => rfl) u) (fun e => h1 e.symm) fun g hg e => h2 (by rw [hg, e])
theorem IsPath.keep {w w' : World} {B pb k : Nat} {pv : Value} {xs : List Value} {cur : Array Value} (h : IsPath w B pb pv xs) (hc : Chg (fun k => k = pb ∨ pv.ownBlock = some k) w w') (hk : Plot w k 39 cur) : Plot w' k 39 cur := by
 obtain ⟨h1, h2⟩ := h.other hk
 exact hk.chg hc fun hS => hS.elim h1 h2
set_option maxHeartbeats 400000 in
theorem newPath_any (k n : Int) (s : ByteArray) (A : Option Addr) (l c : Nat) (w : World) :
  Calls Try.prog 116 #[.agg #[.int .i64 k, .int .i64 n, .string s, .slice A l c]] w fun e w' => e = .returned (.slice (some ⟨w.heap.size + 2, 0, none⟩) 1 1) ∧
   w' = ((w.alloc (.cells #[.int .i64 k, .int .i64 n, .string s, .slice A l c] 39)).alloc (.cells #[.int .i64 k, .int .i64 n, .string s, .slice A l c] 39)).alloc (.cells #[.slice (some ⟨w.heap.size + 1, 0, none⟩) 1 1] 37) := by
 go_enter Try.func116, Try.ntmps116
 go_wp2_with fail
 go_ret
 exact ⟨rfl, rfl⟩
set_option maxHeartbeats 400000 in
theorem next_last {w : World} {B pb : Nat} {pv : Value} {ys : List Value} {b o cap : Nat} (hp : IsPath w B pb pv (ys ++ [.slice (some ⟨b, o, none⟩) 1 cap])) (hn : ys.length ≤ 1073741824) :
  Calls Try.prog 90 #[.pointer (some ⟨pb, 0, none⟩)] w fun e w' => e = .returned (.pointer (some ⟨b, o, none⟩)) ∧
   ∃ pv', IsPath w' B pb pv' ys ∧ pv'.ownBlock = pv.ownBlock ∧ Chg (fun k => k = pb ∨ pv.ownBlock = some k) w w' := by
 obtain ⟨hv, ho, ha⟩ := hp
 rcases ho.2 with ⟨_, h0⟩ | ⟨g, cp, cur, rfl, hg, hh, hnc, hcm, hcs, htk⟩
 ·simp at h0
 have c0 : w.cell? ⟨pb, 0, none⟩ = some (.slice (some ⟨g, 0, none⟩) (ys ++ [Value.slice (some ⟨b, o, none⟩) 1 cap]).length cp) := hv.cell 0
 have f0 : w.frozen? ⟨pb, 0, none⟩ = false := hv.frozen 0
 have c1 : w.cell? ⟨g, ys.length, none⟩ = some (.slice (some ⟨b, o, none⟩) 1 cap) := by
  rw [ho.cellAt _ (by simp)]; simp
 simp only [List.length_append, List.length_cons, List.length_nil, Nat.zero_add] at c0 hnc
 have hgp : g ≠ pb := fun e => ha (by rw [e]; rfl)
 have hfin : IsPath (w.setCell ⟨pb, 0, none⟩ (.slice (some ⟨g, 0, none⟩) ys.length cp)) B pb (.slice (some ⟨g, 0, none⟩) ys.length cp) ys := by
  refine ⟨hv.set_ 0 _, ⟨by simp, .inr ⟨g, cp, cur, rfl, hg, (Below.heap_setCell _ _ _ _ hgp).trans hh, by omega, hcm, hcs, ?_⟩⟩, by simpa [Value.ownBlock] using hgp⟩
  have := congrArg (List.take (ys.length * 1)) htk
  rw [List.take_take] at this
  simpa [Nat.min_eq_left] using this
 have hchg : Chg (fun k => k = pb ∨ (Value.slice (some ⟨g, 0, none⟩) (ys ++ [Value.slice (some ⟨b, o, none⟩) 1 cap]).length cp).ownBlock = some k) w (w.setCell ⟨pb, 0, none⟩ (.slice (some ⟨g, 0, none⟩) ys.length cp)) :=
  (Chg.refl _ _).setCell (fun _ => .inl rfl) _
 clear hv ho ha htk
 go_enter Try.func90, Try.ntmps90
 go_wp2_with fail
 go_ret
 exact ⟨rfl, _, hfin, rfl, hchg⟩
set_option maxHeartbeats 400000 in
theorem next_more {w : World} {B pb : Nat} {pv : Value} {ys : List Value} {b o l cap : Nat} (hp : IsPath w B pb pv (ys ++ [.slice (some ⟨b, o, none⟩) (l + 2) cap])) (hn : ys.length ≤ 1073741824) (hl : l ≤ 1073741824) (hc : l + 2 ≤ cap) :
  Calls Try.prog 90 #[.pointer (some ⟨pb, 0, none⟩)] w fun e w' => e = .returned (.pointer (some ⟨b, o, none⟩)) ∧
   ∃ pv', IsPath w' B pb pv' (ys ++ [.slice (some ⟨b, o + 4, none⟩) (l + 1) (cap - 1)]) ∧ pv'.ownBlock = pv.ownBlock ∧ Chg (fun k => k = pb ∨ pv.ownBlock = some k) w w' := by
 obtain ⟨hv, ho, ha⟩ := hp
 rcases ho.2 with ⟨_, h0⟩ | ⟨g, cp, cur, rfl, hg, hh, hnc, hcm, hcs, htk⟩
 ·simp at h0
 have c0 : w.cell? ⟨pb, 0, none⟩ = some (.slice (some ⟨g, 0, none⟩) (ys ++ [Value.slice (some ⟨b, o, none⟩) (l + 2) cap]).length cp) := hv.cell 0
 have c1 : w.cell? ⟨g, ys.length, none⟩ = some (.slice (some ⟨b, o, none⟩) (l + 2) cap) := by
  rw [ho.cellAt _ (by simp)]; simp
 have f1 : w.frozen? ⟨g, ys.length, none⟩ = false := ho.frozenAt _
 simp only [List.length_append, List.length_cons, List.length_nil, Nat.zero_add] at c0 hnc
 have hgp : g ≠ pb := fun e => ha (by rw [e]; rfl)
 have hst := (ho.stored ys.length (.slice (some ⟨b, o + 4, none⟩) (l + 1) (cap - 1))).1
 have hfin : IsPath (w.setCell ⟨g, ys.length, none⟩ (.slice (some ⟨b, o + 4, none⟩) (l + 1) (cap - 1))).drew B pb (.slice (some ⟨g, 0, none⟩) (ys.length + 1) cp) (ys ++ [.slice (some ⟨b, o + 4, none⟩) (l + 1) (cap - 1)]) := by
  refine ⟨?_, ?_, by simpa [Value.ownBlock] using hgp⟩
  ·have := hv.far (p := ⟨g, ys.length, none⟩) (Ne.symm hgp) (.slice (some ⟨b, o + 4, none⟩) (l + 1) (cap - 1))
   simp only [List.length_append, List.length_cons, List.length_nil, Nat.zero_add] at this
   exact this
  ·simp at hst
   have e : (ys ++ [Value.slice (some ⟨b, o + 4, none⟩) (l + 1) (cap - 1)]).length = ys.length + 1 := by simp
   rw [e]
   exact hst
 have hchg : Chg (fun k => k = pb ∨ (Value.slice (some ⟨g, 0, none⟩) (ys ++ [Value.slice (some ⟨b, o, none⟩) (l + 2) cap]).length cp).ownBlock = some k) w (w.setCell ⟨g, ys.length, none⟩ (.slice (some ⟨b, o + 4, none⟩) (l + 1) (cap - 1))).drew :=
  ((Chg.refl _ _).setCell (fun _ => .inr rfl) _).drew
 have hl1 : (((l + 2 : Nat) : Int) == 1) = false := by rw [beq_eq_false_iff_ne]; omega
 clear hv ho ha htk hst
 go_enter Try.func90, Try.ntmps90
 go_wp2_with fail
 go_region
 go_wp2_with fail
 go_ret
 exact ⟨rfl, _, hfin, rfl, hchg⟩
set_option maxHeartbeats 400000 in
theorem add_none {w : World} (v : Value) (A : Option Addr) (c : Nat) : Calls Try.prog 89 #[v, .slice A 0 c] w fun e w' => e = .returned (.tuple #[]) ∧ w = w' := by
 go_enter Try.func89, Try.ntmps89
 go_wp2_with fail
 go_end0
 exact ⟨rfl, rfl⟩
set_option maxHeartbeats 400000 in
theorem add_some {w : World} {B pb : Nat} {pv : Value} {xs : List Value} {A : Option Addr} {l c : Nat} (hp : IsPath w B pb pv xs) (hB : B ≤ w.heap.size) (hn : xs.length ≤ 1073741824) :
  Calls Try.prog 89 #[.pointer (some ⟨pb, 0, none⟩), .slice A (l + 1) c] w fun e w' => e = .returned (.tuple #[]) ∧
   ∃ pv', IsPath w' B pb pv' (xs ++ [.slice A (l + 1) c]) ∧ (pv'.ownBlock = pv.ownBlock ∨ ∃ g, pv'.ownBlock = some g ∧ w.heap.size ≤ g) ∧ Chg (fun k => k = pb ∨ pv.ownBlock = some k) w w' := by
 obtain ⟨hv, ho, ha⟩ := hp
 obtain ⟨i0, hi0, hz0, hz1, hz2⟩ := info_parts info_terms
 have c0 : w.cell? ⟨pb, 0, none⟩ = some pv := hv.cell 0
 have hW : Below w.heap.size w (w.alloc (.cells #[.slice A (l + 1) c] 37)) := (Below.refl _ _).alloc (Nat.le_refl _) _
 have ho' := own_below ho hW
 have hlt := hv.lt
 have HB := Lib.hid ha
 clear ha
 go_enter Try.func89, Try.ntmps89
 go_wp2_with (at_builtin; refine wpList_append_at _ rfl (.tmp 10) (.tmp 12) _ rfl B 37 i0 _ 1 24 Try.underlying125 hi0 hz0 hz1 hz2 rfl (by omega) pv xs.length xs rfl ho' ⟨w.heap.size, 0, none⟩ 1 1 [.slice A (l + 1) c] rfl rfl (cell_lit w [.slice A (l + 1) c] 37) (by simp [Value.oneCell']) (by simp only [maxLen]; omega) (by omega) (by simp; omega) ?next)
 case next =>
  intro v' w' hov hg hat
  have cp : Plot w' pb 125 #[pv] := (hv.alloc _).grown hg (fun e => HB.out e.symm)
  have c1 : w'.cell? ⟨pb, 0, none⟩ = some pv := cp.cell 0
  have f1 : w'.frozen? ⟨pb, 0, none⟩ = false := cp.frozen 0
  rcases hov.2 with ⟨_, h0⟩ | ⟨g, cap, cur, rfl, hgB, hh, hnc, hcm, hcs, htk⟩
  ·omega
  have hne : g ≠ pb := by
   rcases hat with e | e
   ·intro e2; subst e2; exact HB.out e.symm
   ·simp [Value.ownBlock] at e; omega
  have hfin : IsPath (w'.setCell ⟨pb, 0, none⟩ (.slice (some ⟨g, 0, none⟩) (xs.length + 1) cap)) B pb (.slice (some ⟨g, 0, none⟩) (xs.length + 1) cap) (xs ++ [.slice A (l + 1) c]) := by
   refine ⟨cp.set_ 0 _, ?_, by simpa [Value.ownBlock] using hne⟩
   have := ownsRow_setCell_other hov (a := ⟨pb, 0, none⟩) (by simpa [Value.ownBlock] using hne) (.slice (some ⟨g, 0, none⟩) (xs.length + 1) cap)
   simpa using this
  have hat' : (Value.slice (some ⟨g, 0, none⟩) (xs.length + 1) cap).ownBlock = pv.ownBlock ∨ ∃ g', (Value.slice (some ⟨g, 0, none⟩) (xs.length + 1) cap).ownBlock = some g' ∧ w.heap.size ≤ g' := by
   rcases hat with e | e
   ·exact .inl e
   ·exact .inr ⟨_, e, by omega⟩
  have hchg : Chg (fun k => k = pb ∨ pv.ownBlock = some k) w (w'.setCell ⟨pb, 0, none⟩ (.slice (some ⟨g, 0, none⟩) (xs.length + 1) cap)) := by
   refine Chg.setCell ?_ (fun _ => .inl rfl) _
   exact ((Chg.refl _ w).alloc _).trans (Chg.of_grown hg) fun k _ e => .inr e
  have HX := Lib.hid hat'
  clear hat hat' htk hov
  go_wp2_with fail
  go_end0
  exact ⟨rfl, _, hfin, HX.out, hchg⟩
def Raw (w : World) (v : Value) (l : Nat) (xs : List Value) : Prop :=
 ∃ A c, v = .slice A l c ∧ l ≤ c ∧ xs.length = l * 4 ∧ (∀ u ∈ xs, u.oneCell' = true) ∧ (0 < l → ∃ b o, A = some ⟨b, o, none⟩ ∧ ∀ j u, xs[j]? = some u → w.cell? ⟨b, o + j, none⟩ = some u)
theorem Sl.raw {w : World} {p : Nat → Prop} {v : Value} {T : Ts} (h : Sl w p v T) : ∃ xs, Raw w v T.length xs ∧ Cs w p T xs := by
 obtain ⟨A, c, rfl, hc, hs⟩ := h
 rcases Nat.eq_zero_or_pos T.length with h | h
 ·rw [Ts.nil_of_length h]
  exact ⟨[], ⟨A, c, rfl, Nat.zero_le _, rfl, fun u hu => (by cases hu), fun h => absurd h (Nat.lt_irrefl _)⟩, rfl⟩
 ·obtain ⟨b, o, e, hseg⟩ := hs h
  obtain ⟨xs, h1, h2⟩ := hseg.cells
  exact ⟨xs, ⟨A, c, rfl, hc, h1.length, h1.one, fun _ => ⟨b, o, e, h2⟩⟩, h1⟩
set_option maxHeartbeats 400000 in
theorem clone_raw {w : World} {v : Value} {l : Nat} {xs : List Value} (hv : Raw w v l xs) (hn : l ≤ 1073741824) :
  Calls Try.prog 88 #[v] w fun e w' => ∃ v', e = .returned v' ∧ w'.ownsRow w.heap.size 39 4 v' l xs ∧ Below w.heap.size w w' := by
 obtain ⟨A, c, rfl, hc, hlen, hone, hs⟩ := hv
 have hnil : ∀ W, (binOp .eql 37 (.slice A l c) (.slice none 0 0)).run Try.prog W = .ok (.bool A.isNone) W := fun W => run_eql_slice_nil W _ _ A _ c Try.underlying37
 cases A with
 | none =>
  have hl : l = 0 := by
   rcases Nat.eq_zero_or_pos l with h | h
   ·exact h
   ·obtain ⟨b, o, e, _⟩ := hs h; cases e
  subst hl
  have hx : xs = [] := List.eq_nil_of_length_eq_zero (by simpa using hlen)
  subst hx
  clear hlen hs hone
  go_enter Try.func88, Try.ntmps88
  go_wp2_with fail
  go_ret
  exact ⟨_, rfl, World.ownsRow_nil _ _ _ _, Below.refl _ _⟩
 | some a =>
  obtain ⟨i0, hi0, hz0, hz1, hz2⟩ := info_parts info_term
  have hcell : ∀ j u, xs[j]? = some u → w.cell? (a.add j) = some u := by
   rcases Nat.eq_zero_or_pos l with h | h
   ·have hx : xs = [] := List.eq_nil_of_length_eq_zero (by simpa [h] using hlen)
    subst hx
    intro j u hu; simp at hu
   ·obtain ⟨b, o, e, h2⟩ := hs h
    simp only [Option.some.injEq] at e
    subst e
    intro j u hu
    have := h2 j u hu
    by_cases hj : j = 0
    ·subst hj; simpa [Addr.add] using this
    ·simpa [Addr.add, hj] using this
  have hW : Below w.heap.size w (w.alloc (.cells #[] 39)) := (Below.refl _ _).alloc (Nat.le_refl _) _
  have ho : (w.alloc (.cells #[] 39)).ownsRow w.heap.size 39 4 (.slice (some ⟨w.heap.size, 0, none⟩) 0 0) 0 [] := by
   simpa using World.ownsRow_lit (base := w.heap.size) (e := 39) (size := 4) w #[] 0 (Nat.le_refl _) (by simp [maxLen]) (by simp)
  have hcell' : ∀ j u, xs[j]? = some u → (w.alloc (.cells #[] 39)).cell? (a.add j) = some u := fun j u hu => (hW.cell (lt_of_cell (hcell j u hu))).trans (hcell j u hu)
  have H1 := Lib.hid hcell'
  have H2 := Lib.hid hone
  have H3 := Lib.hid hlen
  clear hcell hcell' hs hone hlen
  go_enter Try.func88, Try.ntmps88
  go_wp2_with (at_builtin; refine wpList_append_at _ rfl (.tmp 5) (.tmp 6) _ rfl w.heap.size 39 i0 _ 4 56 Try.underlying37 hi0 hz0 hz1 hz2 rfl (by omega) _ 0 [] rfl ho a l c xs rfl H3.out H1.out H2.out (by simp only [maxLen]; omega) (by omega) (by simp) ?next)
  case next =>
   intro v' w' hov hg hat
   have hb : Below w.heap.size w w' := by
    refine hW.grown hg (by simp) fun k hk => ?_
    simp [Value.ownBlock] at hk; omega
   go_wp2_with fail
   go_ret
   exact ⟨_, rfl, by simpa using hov, hb⟩
structure Lev where
 b : Nat
 o : Nat
 T : Ts
def push (T : Ts) (b o : Nat) (L : List Lev) : List Lev := if T.length = 0 then L else ⟨b, o, T⟩ :: L
def nodesOf (L : List Lev) : Nat := (L.map fun l => l.T.nodes).sum
theorem nodesOf_push (T : Ts) (b o : Nat) (L : List Lev) : nodesOf (push T b o L) = T.nodes + nodesOf L := by
 unfold push
 split
 ·rename_i h; rw [Ts.nil_of_length h]; simp [Ts.nodes]
 ·simp [nodesOf]
def PV : List Lev → List Value → Prop
 | [], xs => xs = []
 | l :: r, xs => ∃ ys cap, xs = ys ++ [.slice (some ⟨l.b, l.o, none⟩) l.T.length cap] ∧ l.T.length ≤ cap ∧ 0 < l.T.length ∧ PV r ys
theorem PV.length : ∀ {L : List Lev} {xs : List Value}, PV L xs → xs.length = L.length
 | [], xs, h => by rw [show xs = [] from h]; rfl
 | l :: r, xs, ⟨ys, cap, e, _, _, h⟩ => by rw [e]; simp [h.length]
theorem PV.le : ∀ {L : List Lev} {xs : List Value}, PV L xs → L.length ≤ nodesOf L
 | [], xs, h => by simp [nodesOf]
 | l :: r, xs, ⟨ys, cap, e, _, h0, h⟩ => by
  have := h.le
  have := l.T.length_le
  simp only [List.length_cons, nodesOf, List.map_cons, List.sum_cons] at *
  omega
theorem next_lev {w : World} {B pb : Nat} {pv : Value} {xs : List Value} {b o : Nat} {k n : Int} {s : ByteArray} {ar r : Ts} {L : List Lev} (hp : IsPath w B pb pv xs) (hv : PV (⟨b, o, .cons k n s ar r⟩ :: L) xs) (hn : nodesOf (⟨b, o, .cons k n s ar r⟩ :: L) ≤ 1073741824) :
  Calls Try.prog 90 #[.pointer (some ⟨pb, 0, none⟩)] w fun e w' => e = .returned (.pointer (some ⟨b, o, none⟩)) ∧
   ∃ pv' xs', IsPath w' B pb pv' xs' ∧ PV (push r b (o + 4) L) xs' ∧ pv'.ownBlock = pv.ownBlock ∧ Chg (fun k => k = pb ∨ pv.ownBlock = some k) w w' := by
 have hle := hv.le
 obtain ⟨ys, cap, rfl, hcap, _, hys⟩ := hv
 have hyl := hys.length
 have hrl := r.length_le
 simp only [List.length_cons, nodesOf, List.map_cons, List.sum_cons, Ts.nodes] at hle hn
 simp only [Ts.length] at hp hcap
 cases hr : r.length with
 | zero =>
  rw [hr] at hp
  refine (next_last hp (by omega)).mono ?_
  rintro e w' ⟨he, pv', h1, h2, h3⟩
  exact ⟨he, pv', ys, h1, by simpa [push, hr] using hys, h2, h3⟩
 | succ l =>
  rw [hr] at hp hcap
  refine (next_more hp (by omega) (by omega) hcap).mono ?_
  rintro e w' ⟨he, pv', h1, h2, h3⟩
  refine ⟨he, pv', _, h1, ?_, h2, h3⟩
  have e : push r b (o + 4) L = ⟨b, o + 4, r⟩ :: L := by simp [push, hr]
  rw [e]
  exact ⟨ys, cap - 1, by rw [hr], by show r.length ≤ _; omega, by show 0 < r.length; omega, hys⟩
theorem add_lev {w : World} {B pb : Nat} {pv : Value} {xs : List Value} {A : Option Addr} {c : Nat} {T : Ts} {b o : Nat} {L : List Lev} (hp : IsPath w B pb pv xs) (hv : PV L xs) (hB : B ≤ w.heap.size) (hn : nodesOf L ≤ 1073741824) (hc : T.length ≤ c) (hA : 0 < T.length → A = some ⟨b, o, none⟩) :
  Calls Try.prog 89 #[.pointer (some ⟨pb, 0, none⟩), .slice A T.length c] w fun e w' => e = .returned (.tuple #[]) ∧
   ∃ pv' xs', IsPath w' B pb pv' xs' ∧ PV (push T b o L) xs' ∧ (pv'.ownBlock = pv.ownBlock ∨ ∃ g, pv'.ownBlock = some g ∧ w.heap.size ≤ g) ∧ Chg (fun k => k = pb ∨ pv.ownBlock = some k) w w' := by
 have hle := hv.le
 have hyl := hv.length
 cases hl : T.length with
 | zero =>
  refine (add_none _ _ _).mono ?_
  rintro e w' ⟨he, rfl⟩
  exact ⟨he, pv, xs, hp, by simpa [push, hl] using hv, .inl rfl, Chg.refl _ _⟩
 | succ l =>
  refine (add_some hp hB (by omega)).mono ?_
  rintro e w' ⟨he, pv', h1, h2, h3⟩
  refine ⟨he, pv', _, h1, ?_, h2, h3⟩
  have e : push T b o L = ⟨b, o, T⟩ :: L := by simp [push, hl]
  rw [e]
  refine ⟨xs, c, ?_, hc, by show 0 < T.length; omega, hv⟩
  rw [hA (by omega), hl]
end Go.Proofs.Ythliapbflkfdiab
namespace Go.Proofs.Ythliapbflkfdiab
open Go.RowKit
def lowerB (c : UInt8) : Bool := decide (97 ≤ c.toNat) && decide (c.toNat ≤ 122)
def nameB (s : ByteArray) : Bool := decide (s.data.toList = [33]) || (decide (1 ≤ s.size) && decide (s.size ≤ 8) && s.data.toList.all lowerB)
theorem letters_succ (s : ByteArray) (k : Nat) (h : k < s.size) : s.data.toList.take (k + 1) = s.data.toList.take k ++ [s[k]] :=
 List.take_succ_eq_append_getElem (l := s.data.toList) (i := k) (by simpa using h)
theorem all_false {s : ByteArray} {k : Nat} {c : UInt8} (h : s.data.toList.take (k + 1) = s.data.toList.take k ++ [c]) (hc : lowerB c = false) : s.data.toList.all lowerB = false := by
 have e : s.data.toList = s.data.toList.take (k + 1) ++ s.data.toList.drop (k + 1) := (List.take_append_drop _ _).symm
 rw [e, List.all_append, h, List.all_append]
 simp [hc]
set_option maxHeartbeats 400000 in
theorem named_any (s : ByteArray) (w : World) : Calls Try.prog 122 #[.string s] w fun e w' => e = .returned (.bool (nameB s)) ∧ w = w' := by
 by_cases h0 : s.data.toList = [33]
 ·have r : nameB s = true := by simp [nameB, h0]
  have h1 : s.toList = [33] := by rw [ByteArray.toList_eq]; exact h0
  rw [r]
  clear r h0
  go_enter Try.func122, Try.ntmps122
  go_wp2_with fail
  go_ret
  exact ⟨rfl, rfl⟩
 have h1 : (s.toList == [33]) = false := by rw [ByteArray.toList_eq]; simpa using h0
 by_cases h2 : s.size < 1
 ·have r : nameB s = false := by simp [nameB, h0]; omega
  rw [r]
  clear r h0
  go_enter Try.func122, Try.ntmps122
  go_wp2_with fail
  go_ret
  exact ⟨rfl, rfl⟩
 by_cases h3 : 8 < s.size
 ·have r : nameB s = false := by simp [nameB, h0]; omega
  rw [r]
  clear r h0
  go_enter Try.func122, Try.ntmps122
  go_wp2_with fail
  go_ret
  exact ⟨rfl, rfl⟩
 have r : nameB s = s.data.toList.all lowerB := by
  have a : 1 ≤ s.size := by omega
  have b : s.size ≤ 8 := by omega
  simp [nameB, h0, a, b]
 have R := Lib.hid r
 clear r h0
 go_enter Try.func122, Try.ntmps122
 go_wp2_with fail
 go_loopg [16] s.size (fun g i wr => w = wr ∧ ∃ k : Nat, k ≤ s.size ∧ g = s.size - k ∧ i = .int .i64 k ∧ (s.data.toList.take k).all lowerB = true)
 case atStart => exact ⟨rfl, 0, Nat.zero_le _, rfl, rfl, rfl⟩
 case round =>
  obtain ⟨rfl, k, hk, hg, rfl, ha⟩ := hrel
  have HA := Lib.hid ha
  have HG := Lib.hid hg
  clear ha hg
  by_cases hlt : k < s.size
  ·have hts := letters_succ s k hlt
   have hbig := s[k].toNat_lt
   by_cases hlo : (s[k].toNat : Int) < 97
   ·have hf := Lib.hid (all_false hts (show lowerB s[k] = false by simp [lowerB]; omega))
    clear hts
    go_wp2_with fail
    go_ret
    exact ⟨by rw [R.out, hf.out]; rfl, rfl⟩
   by_cases hhi : (122 : Int) < (s[k].toNat : Int)
   ·have hf := Lib.hid (all_false hts (show lowerB s[k] = false by simp [lowerB]; omega))
    clear hts
    go_wp2_with fail
    go_ret
    exact ⟨by rw [R.out, hf.out]; rfl, rfl⟩
   ·have hf : Hid ((s.data.toList.take (k + 1)).all lowerB = true) := Lib.hid (by
     rw [hts, List.all_append, HA.out]
     simp [lowerB]; omega)
    clear hts
    go_wp2_with fail
    go_roundg (s.size - (k + 1))
    case measure => rw [HG.out]; omega
    case rel => exact ⟨rfl, k + 1, by omega, rfl, rfl, hf.out⟩
  ·go_wp2_with fail
   go_ret
   refine ⟨?_, rfl⟩
   have h4 := HA.out
   rw [List.take_of_length_le (by simp; omega)] at h4
   rw [R.out, h4]; rfl
end Go.Proofs.Ythliapbflkfdiab
namespace Go.Proofs.Ythliapbflkfdiab
open Go.RowKit
def nodeB (vars k n : Int) (s : ByteArray) (l : Nat) : Bool :=
 if k = 0 then decide (0 ≤ n) && decide (n < vars) && decide (s.toList = []) && decide (l = 0)
 else if k = 1 then decide (n = 0) && nameB s && decide (l = 0)
 else if k = 2 then decide (-1099511627776 ≤ n) && decide (n ≤ 1099511627776) && decide (s.toList = []) && decide (l = 0)
 else if k = 3 then decide (n = 0) && nameB s && decide (¬ s.toList = [33]) && decide (1 ≤ l) && decide (l ≤ 4)
 else false
theorem ret_bool {a b : Bool} (h : a = b) : Ending.returned (.bool a) = .returned (.bool b) := by rw [h]
set_option maxHeartbeats 1000000 in
theorem goodNode_any (vars k n : Int) (s : ByteArray) (A : Option Addr) (l c : Nat) (w : World) :
  Calls Try.prog 117 #[.agg #[.int .i64 k, .int .i64 n, .string s, .slice A l c], .int .i64 vars] w fun e w' => e = .returned (.bool (nodeB vars k n s l)) ∧ Below w.heap.size w w' := by
 by_cases h0 : k = 0
 ·subst h0
  have R := Lib.hid (show nodeB vars 0 n s l = (decide (0 ≤ n) && decide (n < vars) && decide (s.toList = []) && decide (l = 0)) by simp [nodeB])
  go_enter Try.func117, Try.ntmps117
  go_wp2_with fail
  all_goals go_ret
  all_goals refine ⟨?_, (Below.refl _ _).alloc (Nat.le_refl _) _⟩
  all_goals rw [R.out]
  all_goals refine ret_bool ?_
  all_goals rw [Bool.eq_iff_iff]
  all_goals simp [*]
  all_goals try omega
 have g0 : (k == 0) = false := by simpa using h0
 by_cases h1 : k = 1
 ·subst h1
  have R := Lib.hid (show nodeB vars 1 n s l = (decide (n = 0) && nameB s && decide (l = 0)) by simp [nodeB])
  clear h0 g0
  cases hb : nameB s
  all_goals
   have HB := Lib.hid hb
   clear hb
   go_enter Try.func117, Try.ntmps117
   go_wp2_with (go_at_call 122; refine (named_any _ _).mono ?_; rintro e w' ⟨rfl, rfl⟩; rw [HB.out])
   all_goals go_ret
   all_goals refine ⟨?_, (Below.refl _ _).alloc (Nat.le_refl _) _⟩
   all_goals rw [R.out, HB.out]
   all_goals refine ret_bool ?_
   all_goals rw [Bool.eq_iff_iff]
   all_goals simp [*]
   all_goals try omega
 have g1 : (k == 1) = false := by simpa using h1
 by_cases h2 : k = 2
 ·subst h2
  have R := Lib.hid (show nodeB vars 2 n s l = (decide (-1099511627776 ≤ n) && decide (n ≤ 1099511627776) && decide (s.toList = []) && decide (l = 0)) by simp [nodeB])
  clear h0 g0 h1 g1
  go_enter Try.func117, Try.ntmps117
  go_wp2_with fail
  all_goals go_ret
  all_goals refine ⟨?_, (Below.refl _ _).alloc (Nat.le_refl _) _⟩
  all_goals rw [R.out]
  all_goals refine ret_bool ?_
  all_goals rw [Bool.eq_iff_iff]
  all_goals simp [*]
  all_goals try omega
 have g2 : (k == 2) = false := by simpa using h2
 by_cases h3 : k = 3
 ·subst h3
  clear h0 g0 h1 g1 h2 g2
  by_cases hn : n = 0
  ·subst hn
   have R := Lib.hid (show nodeB vars 3 0 s l = (nameB s && decide (¬ s.toList = [33]) && decide (1 ≤ l) && decide (l ≤ 4)) by simp [nodeB])
   cases hb : nameB s
   all_goals
    have HB := Lib.hid hb
    clear hb
    go_enter Try.func117, Try.ntmps117
    go_wp2_with (go_at_call 122; refine (named_any _ _).mono ?_; rintro e w' ⟨rfl, rfl⟩; rw [HB.out])
    all_goals go_ret
    all_goals refine ⟨?_, (Below.refl _ _).alloc (Nat.le_refl _) _⟩
    all_goals rw [R.out, HB.out]
    all_goals refine ret_bool ?_
    all_goals rw [Bool.eq_iff_iff]
    all_goals simp [*]
    all_goals try omega
  ·have hn' : (n == 0) = false := by simpa using hn
   have R := Lib.hid (show nodeB vars 3 n s l = false by simp [nodeB, hn])
   clear hn
   go_enter Try.func117, Try.ntmps117
   go_wp2_with fail
   go_ret
   exact ⟨by rw [R.out]; rfl, (Below.refl _ _).alloc (Nat.le_refl _) _⟩
 have g3 : (k == 3) = false := by simpa using h3
 have R := Lib.hid (show nodeB vars k n s l = false by simp [nodeB, h0, h1, h2, h3])
 clear h0 h1 h2 h3
 go_enter Try.func117, Try.ntmps117
 go_wp2_with fail
 go_ret
 exact ⟨by rw [R.out]; rfl, (Below.refl _ _).alloc (Nat.le_refl _) _⟩
end Go.Proofs.Ythliapbflkfdiab
namespace Go.Proofs.Ythliapbflkfdiab
open Go.RowKit
def oldOr (w : World) (G : List Nat) (k : Nat) : Prop := k < w.heap.size ∨ k ∈ G
structure V1 (w : World) (G : List Nat) (pb : Nat) (L : List Lev) (pv : Value) (xs : List Value) (wr : World) : Prop where
 path : IsPath wr w.heap.size pb pv xs
 pbl : w.heap.size ≤ pb
 pvs : PV L xs
 lev : ∀ l ∈ L, Seg wr (oldOr w G) l.T l.b l.o
 rows : ∀ g ∈ G, ∃ c, Plot wr g 39 c
 chg : Below w.heap.size w wr
section
variable {w wr w' : World} {G : List Nat} {pb : Nat} {L : List Lev} {pv : Value} {xs : List Value}
theorem V1.keep (h : V1 w G pb L pv xs wr) (hc : Chg (fun k => k = pb ∨ pv.ownBlock = some k) wr w') : ∀ k, oldOr w G k → k < wr.heap.size → w'.heap[k]? = wr.heap[k]? := by
 intro k hk hl
 refine hc.block k hl fun hS => ?_
 rcases hk with hk | hk
 ·rcases hS with e | e
  ·have := h.pbl; omega
  ·have := (h.path.own.lt _ e).1; omega
 ·obtain ⟨c, hb⟩ := h.rows k hk
  obtain ⟨h1, h2⟩ := h.path.other hb
  exact hS.elim h1 h2
theorem V1.chg' (h : V1 w G pb L pv xs wr) (hc : Chg (fun k => k = pb ∨ pv.ownBlock = some k) wr w') : Below w.heap.size w w' ∧ (∀ g ∈ G, ∃ c, Plot w' g 39 c) := by
 refine ⟨h.chg.trans (hc.below h.chg.size fun k hk _ => ?_), fun g hg => ?_⟩
 ·rcases hk with e | e
  ·have := h.pbl; omega
  ·exact (h.path.own.lt _ e).1
 ·obtain ⟨c, hb⟩ := h.rows g hg
  exact ⟨c, h.path.keep hc hb⟩
theorem V1.aside (h : V1 w G pb L pv xs wr) (hb : Below wr.heap.size wr w') : V1 w G pb L pv xs w' where
 path := h.path.chg (Chg.of_fresh (S := fun _ => False) hb) (fun h => h) fun _ _ h => h
 pbl := h.pbl
 pvs := h.pvs
 lev := fun l hl => (h.lev l hl).below hb
 rows := fun g hg => by
  obtain ⟨c, h1⟩ := h.rows g hg
  exact ⟨c, h1.below hb⟩
 chg := h.chg.trans (hb.mono h.chg.size)
theorem lev_push {T : Ts} {b o : Nat} {p : Nat → Prop} (hT : 0 < T.length → Seg wr p T b o) (hL : ∀ l ∈ L, Seg wr p l.T l.b l.o) : ∀ l ∈ push T b o L, Seg wr p l.T l.b l.o := by
 intro l hl
 unfold push at hl
 split at hl
 ·exact hL l hl
 ·rcases List.mem_cons.1 hl with rfl | hl
  ·exact hT (by omega)
  ·exact hL l hl
theorem V1.next {b o : Nat} {k n : Int} {s : ByteArray} {ar r : Ts} (h : V1 w G pb (⟨b, o, .cons k n s ar r⟩ :: L) pv xs wr) (hn : nodesOf (⟨b, o, .cons k n s ar r⟩ :: L) ≤ 1048576) :
  Calls Try.prog 90 #[.pointer (some ⟨pb, 0, none⟩)] wr fun e w' => e = .returned (.pointer (some ⟨b, o, none⟩)) ∧
   ∃ pv' xs', V1 w G pb (push r b (o + 4) L) pv' xs' w' ∧ Seg w' (oldOr w G) (.cons k n s ar r) b o ∧ pv'.ownBlock = pv.ownBlock ∧ Chg (fun k => k = pb ∨ pv.ownBlock = some k) wr w' := by
 refine (next_lev h.path h.pvs (Nat.le_trans hn (by omega))).mono ?_
 rintro e w' ⟨he, pv', xs', h1, h2, h3, h4⟩
 have hk := h.keep h4
 have hs : Seg w' (oldOr w G) (.cons k n s ar r) b o := (h.lev _ (List.mem_cons_self ..)).keep hk
 obtain ⟨h5, h6⟩ := h.chg' h4
 refine ⟨he, pv', xs', ⟨h1, h.pbl, h2, ?_, h6, h5⟩, hs, h3, h4⟩
 exact lev_push (fun _ => (seg_cons.1 hs).2.2.2.2.2) fun l hl => (h.lev l (List.mem_cons_of_mem _ hl)).keep hk
theorem V1.add {T : Ts} {A : Option Addr} {c : Nat} (h : V1 w G pb L pv xs wr) (hv : Sl wr (oldOr w G) (.slice A T.length c) T) (hn : nodesOf L ≤ 1048576) :
  Calls Try.prog 89 #[.pointer (some ⟨pb, 0, none⟩), .slice A T.length c] wr fun e w' => e = .returned (.tuple #[]) ∧
   ∃ pv' xs' b o, V1 w G pb (push T b o L) pv' xs' w' ∧ (pv'.ownBlock = pv.ownBlock ∨ ∃ g, pv'.ownBlock = some g ∧ wr.heap.size ≤ g) ∧ Chg (fun k => k = pb ∨ pv.ownBlock = some k) wr w' := by
 obtain ⟨A', c', e, hc, hs⟩ := hv
 simp only [Value.slice.injEq, true_and] at e
 obtain ⟨rfl, rfl⟩ := e
 obtain ⟨b, o, hA⟩ : ∃ b o, 0 < T.length → A = some ⟨b, o, none⟩ ∧ Seg wr (oldOr w G) T b o := by
  rcases Nat.eq_zero_or_pos T.length with h | h
  ·exact ⟨0, 0, fun h' => absurd h' (by omega)⟩
  ·obtain ⟨b, o, h1, h2⟩ := hs h
   exact ⟨b, o, fun _ => ⟨h1, h2⟩⟩
 refine (add_lev (b := b) (o := o) h.path h.pvs h.chg.size (Nat.le_trans hn (by omega)) hc fun h => (hA h).1).mono ?_
 rintro e w' ⟨he, pv', xs', h1, h2, h3, h4⟩
 have hk := h.keep h4
 obtain ⟨h5, h6⟩ := h.chg' h4
 refine ⟨he, pv', xs', b, o, ⟨h1, h.pbl, h2, ?_, h6, h5⟩, h3, h4⟩
 exact lev_push (fun hp => (hA hp).2.keep hk) fun l hl => (h.lev l hl).keep hk
end
theorem V1.start {w W : World} {G : List Nat} {ga gp pb : Nat} {k n : Int} {s : ByteArray} {A : Option Addr} {c : Nat} {ar : Ts} (hv : Sl w (fun _ => True) (.slice A ar.length c) ar) (hW : Below w.heap.size w W)
  (h1 : Plot W ga 39 #[.int .i64 k, .int .i64 n, .string s, .slice A ar.length c]) (h2 : Plot W gp 37 #[.slice (some ⟨ga, 0, none⟩) 1 1]) (h3 : Plot W pb 125 #[.slice (some ⟨gp, 0, none⟩) 1 1])
  (hG : ga ∈ G) (hr : ∀ g ∈ G, ∃ c, Plot W g 39 c) (hgp : w.heap.size ≤ gp) (hpb : w.heap.size ≤ pb) :
  V1 w G pb [⟨ga, 0, .cons k n s ar .nil⟩] (.slice (some ⟨gp, 0, none⟩) 1 1) [.slice (some ⟨ga, 0, none⟩) 1 1] W := by
 refine ⟨⟨h3, ⟨rfl, .inr ⟨gp, 1, _, rfl, hgp, h2, Nat.le_refl _, by simp [maxLen], rfl, rfl⟩⟩, ?_⟩, hpb, ⟨[], 1, rfl, Nat.le_refl _, Nat.zero_lt_one, rfl⟩, ?_, hr, hW⟩
 ·simp only [Value.ownBlock, ne_eq, Option.some.injEq]
  exact h2.ne_ h3 (by decide)
 ·intro l hl
  have e : l = ⟨ga, 0, .cons k n s ar .nil⟩ := by simpa using hl
  subst e
  refine seg_cons.2 ⟨.inr hG, h1.cell 0, h1.cell 1, h1.cell 2, ⟨_, h1.cell 3, ?_⟩, trivial⟩
  exact (hv.imp (q := oldOr w G) fun k _ h => .inl h).below hW
def Ts.good (vars : Int) : Ts → Bool
 | .nil => true
 | .cons k n s ar r => nodeB vars k n s ar.length && ar.good vars && r.good vars
def goodLv (vars : Int) (L : List Lev) : Bool := L.all fun l => l.T.good vars
theorem goodL_push (vars : Int) (T : Ts) (b o : Nat) (L : List Lev) : goodLv vars (push T b o L) = (T.good vars && goodLv vars L) := by
 unfold push
 split
 ·rename_i h; rw [Ts.nil_of_length h]; simp [Ts.good]
 ·simp [goodLv]
def GoodLoop (w : World) (G : List Nat) (pb : Nat) (T : Ts) (vars : Int) (g : Nat) (wr : World) : Prop :=
 ∃ L pv xs, V1 w G pb L pv xs wr ∧ g = nodesOf L ∧ nodesOf L ≤ T.nodes ∧ T.good vars = goodLv vars L
set_option maxHeartbeats 400000 in
theorem goodTerm_any (k n vars : Int) (s : ByteArray) (ar : Ts) (v : Value) (w : World) (hv : Sl w (fun _ => True) v ar) (hn : ar.nodes < 1048576) :
  Calls Try.prog 107 #[.agg #[.int .i64 k, .int .i64 n, .string s, v], .int .i64 vars] w fun e w' => e = .returned (.bool ((Ts.cons k n s ar .nil).good vars)) ∧ Below w.heap.size w w' := by
 obtain ⟨A, c, rfl, hs⟩ := hv.form
 go_enter Try.func107, Try.ntmps107
 go_wp2_with (go_at_call 116; refine (newPath_any _ _ _ _ _ _ _).mono ?_; rintro e w1 ⟨rfl, rfl⟩)
 have hW : Below w.heap.size w (((((w.alloc (.cells #[.int .i64 k, .int .i64 n, .string s, .slice A ar.length c] 39)).alloc (.cells #[.int .i64 k, .int .i64 n, .string s, .slice A ar.length c] 39)).alloc (.cells #[.int .i64 k, .int .i64 n, .string s, .slice A ar.length c] 39)).alloc (.cells #[.slice (some ⟨w.heap.size + 1 + 1, 0, none⟩) 1 1] 37)).alloc (.cells #[.slice (some ⟨w.heap.size + 1 + 1 + 1, 0, none⟩) 1 1] 125)) := (((((Below.refl _ _).alloc (Nat.le_refl _) _).alloc (by simp) _).alloc (by simp; omega) _).alloc (by simp; omega) _).alloc (by simp; omega) _
 have hv0 : V1 w [w.heap.size + 1 + 1] (w.heap.size + 1 + 1 + 1 + 1) [⟨w.heap.size + 1 + 1, 0, .cons k n s ar .nil⟩] (.slice (some ⟨w.heap.size + 1 + 1 + 1, 0, none⟩) 1 1) [.slice (some ⟨w.heap.size + 1 + 1, 0, none⟩) 1 1] (((((w.alloc (.cells #[.int .i64 k, .int .i64 n, .string s, .slice A ar.length c] 39)).alloc (.cells #[.int .i64 k, .int .i64 n, .string s, .slice A ar.length c] 39)).alloc (.cells #[.int .i64 k, .int .i64 n, .string s, .slice A ar.length c] 39)).alloc (.cells #[.slice (some ⟨w.heap.size + 1 + 1, 0, none⟩) 1 1] 37)).alloc (.cells #[.slice (some ⟨w.heap.size + 1 + 1 + 1, 0, none⟩) 1 1] 125)) := by
  have b1 := ((Plot.new ((w.alloc (.cells #[.int .i64 k, .int .i64 n, .string s, .slice A ar.length c] 39)).alloc (.cells #[.int .i64 k, .int .i64 n, .string s, .slice A ar.length c] 39)) 39 #[.int .i64 k, .int .i64 n, .string s, .slice A ar.length c]).alloc (.cells #[.slice (some ⟨w.heap.size + 1 + 1, 0, none⟩) 1 1] 37)).alloc (.cells #[.slice (some ⟨w.heap.size + 1 + 1 + 1, 0, none⟩) 1 1] 125)
  have b2 := ((Plot.new (((w.alloc (.cells #[.int .i64 k, .int .i64 n, .string s, .slice A ar.length c] 39)).alloc (.cells #[.int .i64 k, .int .i64 n, .string s, .slice A ar.length c] 39)).alloc (.cells #[.int .i64 k, .int .i64 n, .string s, .slice A ar.length c] 39)) 37 #[.slice (some ⟨w.heap.size + 1 + 1, 0, none⟩) 1 1])).alloc (.cells #[.slice (some ⟨w.heap.size + 1 + 1 + 1, 0, none⟩) 1 1] 125)
  have b3 := Plot.new ((((w.alloc (.cells #[.int .i64 k, .int .i64 n, .string s, .slice A ar.length c] 39)).alloc (.cells #[.int .i64 k, .int .i64 n, .string s, .slice A ar.length c] 39)).alloc (.cells #[.int .i64 k, .int .i64 n, .string s, .slice A ar.length c] 39)).alloc (.cells #[.slice (some ⟨w.heap.size + 1 + 1, 0, none⟩) 1 1] 37)) 125 #[.slice (some ⟨w.heap.size + 1 + 1 + 1, 0, none⟩) 1 1]
  simp only [World.size_alloc] at b1 b2 b3
  exact V1.start hs hW b1 b2 b3 (by simp) (fun g hg => by
   have e : g = w.heap.size + 1 + 1 := by simpa using hg
   subst e; exact ⟨_, b1⟩) (by omega) (by omega)
 have h0 : GoodLoop w [w.heap.size + 1 + 1] (w.heap.size + 1 + 1 + 1 + 1) (.cons k n s ar .nil) vars (ar.nodes + 1) (((((w.alloc (.cells #[.int .i64 k, .int .i64 n, .string s, .slice A ar.length c] 39)).alloc (.cells #[.int .i64 k, .int .i64 n, .string s, .slice A ar.length c] 39)).alloc (.cells #[.int .i64 k, .int .i64 n, .string s, .slice A ar.length c] 39)).alloc (.cells #[.slice (some ⟨w.heap.size + 1 + 1, 0, none⟩) 1 1] 37)).alloc (.cells #[.slice (some ⟨w.heap.size + 1 + 1 + 1, 0, none⟩) 1 1] 125)) :=
  ⟨_, _, _, hv0, by simp [nodesOf, Ts.nodes], by simp [nodesOf], by simp [goodLv]⟩
 clear hv0
 go_loopg [] (ar.nodes + 1) (GoodLoop w [w.heap.size + 1 + 1] (w.heap.size + 1 + 1 + 1 + 1) (.cons k n s ar .nil) vars)
 case atStart => exact h0
 case round =>
  clear h0
  obtain ⟨L, pv, xs, hrel, hg, hsm, hgd⟩ := hrel
  have HG := Lib.hid hg
  have HD := Lib.hid hgd
  have hpx := hrel.pvs.length
  simp only [Ts.nodes] at hsm
  obtain ⟨Ap, cp, hpv⟩ := own_form hrel.path.own
  subst hpv
  have cpb : wr.cell? ⟨w.heap.size + 1 + 1 + 1 + 1, 0, none⟩ = some (.slice Ap xs.length cp) := hrel.path.var.cell 0
  clear hg hgd
  cases L with
  | nil =>
   have hx : xs = [] := hrel.pvs
   subst hx
   have hb := hrel.chg
   clear hrel hpx
   go_wp2_with fail
   go_ret
   exact ⟨by rw [HD.out]; rfl, hb⟩
  | cons l Ls =>
   obtain ⟨b, o, T1⟩ := l
   cases T1 with
   | nil => obtain ⟨_, _, _, _, h, _⟩ := hrel.pvs; simp [Ts.length] at h
   | cons k1 n1 s1 a1 r1 =>
   have hxl : 0 < xs.length := by rw [hpx]; simp
   have hn4 : nodesOf (⟨b, o, .cons k1 n1 s1 a1 r1⟩ :: Ls) ≤ 1048576 := by omega
   have hn5 : nodesOf (push r1 b (o + 4) Ls) ≤ 1048576 := by
    rw [nodesOf_push]
    simp only [nodesOf, List.map_cons, List.sum_cons, Ts.nodes] at hn4 ⊢
    omega
   go_wp2_with fail
   refine (hrel.next hn4).mono ?_
   rintro e w2 ⟨rfl, pv2, xs2, h2, hseg, _, _⟩
   obtain ⟨_, c0, c1, c2, ⟨v1, c3, hv1⟩, _⟩ := seg_cons.1 hseg
   obtain ⟨A1, d1, rfl, hv1⟩ := hv1.form
   go_wp2_with fail
   refine (goodNode_any vars k1 n1 s1 A1 a1.length d1 _).mono ?_
   rintro e w3 ⟨rfl, hb3⟩
   have h3 := h2.aside hb3
   have e3 : w3.cell? ⟨b, o + 3, none⟩ = some (.slice A1 a1.length d1) := (hb3.cell (lt_of_cell c3)).trans c3
   have hv3 := hv1.below hb3
   cases hnode : nodeB vars k1 n1 s1 a1.length with
   | false =>
    have hres : Hid ((Ts.cons k n s ar .nil).good vars = false) := Lib.hid (by rw [HD.out]; simp [goodLv, Ts.good, hnode])
    clear hnode
    go_wp2_with fail
    go_ret
    exact ⟨by rw [hres.out]; rfl, h3.chg⟩
   | true =>
    have hres : Hid ((Ts.cons k n s ar .nil).good vars = (a1.good vars && (r1.good vars && goodLv vars Ls))) := Lib.hid (by rw [HD.out]; simp [goodLv, Ts.good, hnode, Bool.and_assoc])
    clear hnode
    go_wp2_with fail
    refine (h3.add hv3 hn5).mono ?_
    rintro e w4 ⟨rfl, pv4, xs4, b4, o4, h4, _, _⟩
    go_wp2_with fail
    go_roundg (nodesOf (push a1 b4 o4 (push r1 b (o + 4) Ls)))
    case measure =>
     rw [HG.out, nodesOf_push, nodesOf_push]
     simp only [nodesOf, List.map_cons, List.sum_cons, Ts.nodes]
     omega
    case rel =>
     refine ⟨_, _, _, h4, rfl, ?_, ?_⟩
     ·rw [nodesOf_push, nodesOf_push]
      simp only [nodesOf, List.map_cons, List.sum_cons, Ts.nodes] at hsm ⊢
      omega
     ·rw [hres.out, goodL_push, goodL_push]
end Go.Proofs.Ythliapbflkfdiab
namespace Go.Proofs.Ythliapbflkfdiab
open Go.RowKit
def goalB (k : Int) : Bool := decide (k = 1) || decide (k = 3)
def builtB (t : List UInt8) (l : Nat) : Bool :=
 if t = [33] then decide (l = 0) else if t = [116, 114, 117, 101] then decide (l = 0) else if t = [102, 97, 105, 108] then decide (l = 0)
 else if t = [101, 113] then decide (l = 2) else if t = [108, 101, 115, 115] then decide (l = 2) else if t = [97, 100, 100] then decide (l = 3) else false
theorem goal_any (k n : Int) (s : ByteArray) (v : Value) (w : World) : Calls Try.prog 105 #[.agg #[.int .i64 k, .int .i64 n, .string s, v]] w fun e w' => e = .returned (.bool (goalB k)) ∧ Below w.heap.size w w' := by
 by_cases h1 : k = 1
 ·subst h1
  go_enter Try.func105, Try.ntmps105
  go_wp2_with fail
  go_ret
  exact ⟨rfl, (Below.refl _ _).alloc (Nat.le_refl _) _⟩
 by_cases h3 : k = 3
 ·subst h3
  go_enter Try.func105, Try.ntmps105
  go_wp2_with fail
  go_ret
  exact ⟨rfl, (Below.refl _ _).alloc (Nat.le_refl _) _⟩
 have R := Lib.hid (show goalB k = false by simp [goalB, h1, h3])
 have g1 : (k == 1) = false := by simpa using h1
 have g3 : (k == 3) = false := by simpa using h3
 clear h1 h3
 go_enter Try.func105, Try.ntmps105
 go_wp2_with fail
 go_ret
 exact ⟨by rw [R.out]; rfl, (Below.refl _ _).alloc (Nat.le_refl _) _⟩
set_option maxHeartbeats 1000000 in
theorem builtin_any (k n : Int) (s : ByteArray) (A : Option Addr) (l c : Nat) (w : World) : Calls Try.prog 92 #[.agg #[.int .i64 k, .int .i64 n, .string s, .slice A l c]] w fun e w' => e = .returned (.bool (builtB s.toList l)) ∧ Below w.heap.size w w' := by
 generalize hr : builtB s.toList l = rb
 have R := Lib.hid hr
 clear hr
 go_enter Try.func92, Try.ntmps92
 go_wp2_with fail
 all_goals go_ret
 all_goals refine ⟨?_, (Below.refl _ _).alloc (Nat.le_refl _) _⟩
 all_goals rw [← R.out]
 all_goals refine ret_bool ?_
 all_goals rw [Bool.eq_iff_iff]
 all_goals simp_all [builtB]
 all_goals try omega
end Go.Proofs.Ythliapbflkfdiab
namespace Go.Proofs.Ythliapbflkfdiab
open Go.RowKit
structure VS (lb vb : Nat) (L : Nat) (w : World) : Prop where
 left : Plot w lb 3 #[.int .i64 L]
 fn : Plot w vb 130 #[.func (.func 115) #[] #[.pointer (some ⟨lb, 0, none⟩), .pointer (some ⟨vb, 0, none⟩)]]
 ne : vb ≠ lb
theorem VS.far {lb vb L : Nat} {w w' : World} (h : VS lb vb L w) (hb : Below w.heap.size w w') : VS lb vb L w' := ⟨h.left.below hb, h.fn.below hb, h.ne⟩
end Go.Proofs.Ythliapbflkfdiab
namespace Go.Proofs.Ythliapbflkfdiab
open Go.RowKit
def gB (vars k n : Int) (s : ByteArray) (T : Ts) : Bool := goalB k && (Ts.cons k n s T .nil).good vars && decide (T.nodes + 1 ≤ 24)
end Go.Proofs.Ythliapbflkfdiab
namespace Go.Proofs.Ythliapbflkfdiab
open Go.RowKit
def Ts.goals (vars : Int) : Ts → Bool
 | .nil => true
 | .cons k n s ar r => gB vars k n s ar && r.goals vars
theorem Ts.goals_app (v : Int) (D R : Ts) : (D.app R).goals v = (D.goals v && R.goals v) := by
 induction D with
 | nil => rfl
 | cons k n b ar r _ ih => simp only [Ts.app, Ts.goals, ih, Bool.and_assoc]
def qB (vars : Int) (T : Ts) : Bool := decide (0 ≤ vars) && decide (vars ≤ 8) && decide (T.length ≤ 5) && T.goals vars
def GqLoop (w : World) (T : Ts) (vars : Int) (g : Nat) (sx : Value) (wr : World) : Prop := ∃ D R : Ts, T = D.app R ∧ g = R.length ∧ sx = .int .i64 D.length ∧ D.goals vars = true ∧ Below w.heap.size w wr
end Go.Proofs.Ythliapbflkfdiab
namespace Go.Proofs.Ythliapbflkfdiab
open Go.RowKit
structure Cl where
 k : Int
 n : Int
 s : ByteArray
 hd : Ts
 bd : Ts
 vars : Int
def cB (c : Cl) : Bool := qB c.vars c.bd && gB c.vars c.k c.n c.s c.hd && !builtB c.s.toList c.hd.length
def SegC (w : World) (p : Nat → Prop) : List Cl → Nat → Nat → Prop
 | [], _, _ => True
 | c :: r, b, o => p b ∧ w.cell? ⟨b, o, none⟩ = some (.int .i64 c.k) ∧ w.cell? ⟨b, o + 1, none⟩ = some (.int .i64 c.n) ∧ w.cell? ⟨b, o + 2, none⟩ = some (.string c.s) ∧
  (∃ v, w.cell? ⟨b, o + 3, none⟩ = some v ∧ Sl w p v c.hd) ∧ (∃ v, w.cell? ⟨b, o + 4, none⟩ = some v ∧ Sl w p v c.bd) ∧ w.cell? ⟨b, o + 5, none⟩ = some (.int .i64 c.vars) ∧ SegC w p r b (o + 6)
def SlC (w : World) (p : Nat → Prop) (v : Value) (L : List Cl) : Prop := ∃ A c, v = .slice A L.length c ∧ L.length ≤ c ∧ (0 < L.length → ∃ b o, A = some ⟨b, o, none⟩ ∧ SegC w p L b o)
section
variable {w w' : World} {p q : Nat → Prop}
theorem SegC.keep {L : List Cl} : ∀ {b o : Nat}, SegC w p L b o → (∀ k, p k → k < w.heap.size → w'.heap[k]? = w.heap[k]?) → SegC w' p L b o := by
 induction L with
 | nil => intro b o _ _; trivial
 | cons c r ih =>
  intro b o ⟨h0, h1, h2, h3, ⟨v, h4, h5⟩, ⟨u, h6, h7⟩, h8, h9⟩ hk
  have hc : ∀ j, w'.cell? ⟨b, j, none⟩ = w.cell? ⟨b, j, none⟩ := fun j => World.cell?_of_block (hk b h0 (lt_of_cell h1))
  exact ⟨h0, (hc _).trans h1, (hc _).trans h2, (hc _).trans h3, ⟨v, (hc _).trans h4, h5.keep hk⟩, ⟨u, (hc _).trans h6, h7.keep hk⟩, (hc _).trans h8, ih h9 hk⟩
theorem SlC.keep {L : List Cl} {v : Value} (h : SlC w p v L) (hk : ∀ k, p k → k < w.heap.size → w'.heap[k]? = w.heap[k]?) : SlC w' p v L := by
 obtain ⟨A, c, e, hl, hs⟩ := h
 exact ⟨A, c, e, hl, fun h => by obtain ⟨b, o, e, h⟩ := hs h; exact ⟨b, o, e, h.keep hk⟩⟩
theorem SlC.below {L : List Cl} {v : Value} (h : SlC w p v L) (hb : Below w.heap.size w w') : SlC w' p v L := h.keep fun k _ hk => hb.block k hk
theorem SlC.form {L : List Cl} {v : Value} (h : SlC w p v L) : ∃ A c, v = .slice A L.length c ∧ SlC w p (.slice A L.length c) L := by
 obtain ⟨A, c, rfl, h2⟩ := h
 exact ⟨A, c, rfl, A, c, rfl, h2⟩
theorem SegC.skip {R : List Cl} {b : Nat} : ∀ {D : List Cl} {o : Nat}, SegC w p (D ++ R) b o → SegC w p R b (o + D.length * 6)
 | [], o, h => by simpa using h
 | c :: D, o, ⟨_, _, _, _, _, _, _, h⟩ => by
  have := SegC.skip (R := R) (D := D) h
  rwa [show o + 6 + D.length * 6 = o + (c :: D).length * 6 by simp; omega] at this
theorem SlC.at_ {A : Option Addr} {len c : Nat} {D R : List Cl} (h : SlC w p (.slice A len c) (D ++ R)) (hR : 0 < R.length) : ∃ b o, A = some ⟨b, o, none⟩ ∧ SegC w p R b (o + D.length * 6) := by
 obtain ⟨A', c', e, hl, hs⟩ := h
 cases e
 obtain ⟨b, o, e, h⟩ := hs (by rw [List.length_append]; omega)
 exact ⟨b, o, e, h.skip⟩
end
end Go.Proofs.Ythliapbflkfdiab
namespace Go.Proofs.Ythliapbflkfdiab
open Go.RowKit
set_option linter.unusedVariables false
set_option linter.unusedSimpArgs false
def single (k n : Int) (s : ByteArray) : HC := if k = 0 then ⟨0, n, eS⟩ else if k = 2 then ⟨2, n, eS⟩ else ⟨1, 0, s⟩
def layA : Ts → Nat → List HC × List HC
 | .nil, _ => ([], [])
 | .cons k n s ar r, p =>
  if k = 3 then
   (⟨0, (p : Nat), eS⟩ :: (layA r (p + (((layA ar (p + 1 + ar.length)).1 ++ (layA ar (p + 1 + ar.length)).2).length + 1))).1,
     (⟨3, (ar.length : Nat), s⟩ :: ((layA ar (p + 1 + ar.length)).1 ++ (layA ar (p + 1 + ar.length)).2)) ++ (layA r (p + (((layA ar (p + 1 + ar.length)).1 ++ (layA ar (p + 1 + ar.length)).2).length + 1))).2)
  else (single k n s :: (layA r p).1, (layA r p).2)
def layS (s : ByteArray) (ar : Ts) (p : Nat) : List HC := ⟨3, (ar.length : Nat), s⟩ :: ((layA ar (p + 1 + ar.length)).1 ++ (layA ar (p + 1 + ar.length)).2)
def lay1 (k n : Int) (s : ByteArray) (ar : Ts) (p : Nat) : List HC := if k = 3 then layS s ar p else [single k n s]
def layL : Ts → Nat → List HC × List Int
 | .nil, _ => ([], [])
 | .cons k n s ar r, p => (lay1 k n s ar p ++ (layL r (p + (lay1 k n s ar p).length)).1, (p : Nat) :: (layL r (p + (lay1 k n s ar p).length)).2)
def varsF : Nat → Nat → List HC
 | 0, _ => []
 | m + 1, i => ⟨0, (i : Nat), eS⟩ :: varsF m (i + 1)
def varsB (n : Nat) : List HC := varsF n 0
theorem varsF_len : ∀ m i, (varsF m i).length = m
 | 0, _ => rfl
 | m + 1, i => by simp [varsF, varsF_len m (i + 1)]
theorem varsB_len (n : Nat) : (varsB n).length = n := varsF_len n 0
theorem varsF_get : ∀ m i j, j < m → (varsF m i)[j]? = some ⟨0, ((i + j : Nat) : Int), eS⟩
 | 0, _, _, h => by omega
 | m + 1, i, 0, h => by simp [varsF]
 | m + 1, i, j + 1, h => by
  have := varsF_get m (i + 1) j (by omega)
  rw [show i + (j + 1) = i + 1 + j by omega]
  simpa [varsF] using this
theorem varsB_get {n j : Nat} (h : j < n) : (varsB n)[j]? = some ⟨0, (j : Nat), eS⟩ := by
 have := varsF_get n 0 j h
 rwa [Nat.zero_add] at this
theorem varsF_snoc : ∀ m i, varsF (m + 1) i = varsF m i ++ [⟨0, ((i + m : Nat) : Int), eS⟩]
 | 0, i => by simp [varsF]
 | m + 1, i => by
  rw [varsF, varsF_snoc m (i + 1), varsF]
  rw [show i + 1 + m = i + (m + 1) by omega]; rfl
theorem layA_comp (n : Int) (s : ByteArray) (ar r : Ts) (p : Nat) : layA (.cons 3 n s ar r) p = (⟨0, (p : Nat), eS⟩ :: (layA r (p + (layS s ar p).length)).1, layS s ar p ++ (layA r (p + (layS s ar p).length)).2) := by
 rw [layA, if_pos rfl]; rfl
theorem layA_one {k : Int} (n : Int) (s : ByteArray) (ar r : Ts) (p : Nat) (h : k ≠ 3) : layA (.cons k n s ar r) p = (single k n s :: (layA r p).1, (layA r p).2) := by
 rw [layA, if_neg h]
theorem layA_len (T : Ts) : ∀ p, (layA T p).1.length = T.length := by
 induction T with
 | nil => intro p; rfl
 | cons k n s ar r _ ih =>
  intro p
  by_cases h : k = 3
  ·subst h; rw [layA_comp]; simp [Ts.length, ih]
  ·rw [layA_one _ _ _ _ _ h]; simp [Ts.length, ih]
theorem layS_len (s : ByteArray) (ar : Ts) (p : Nat) : (layS s ar p).length = 1 + ar.length + (layA ar (p + 1 + ar.length)).2.length := by
 simp only [layS, List.length_cons, List.length_append, layA_len]; omega
theorem layA_app (D R : Ts) : ∀ p, layA (D.app R) p = ((layA D p).1 ++ (layA R (p + (layA D p).2.length)).1, (layA D p).2 ++ (layA R (p + (layA D p).2.length)).2) := by
 induction D with
 | nil => intro p; simp [Ts.app, layA]
 | cons k n s ar r _ ih =>
  intro p
  by_cases h : k = 3
  ·subst h
   rw [Ts.app, layA_comp, layA_comp, ih]
   simp only [List.length_append, List.cons_append, List.append_assoc, Nat.add_assoc]
  ·rw [Ts.app, layA_one _ _ _ _ _ h, layA_one _ _ _ _ _ h, ih]
   simp only [List.cons_append]
theorem layA_le (T : Ts) : ∀ p, (layA T p).2.length + T.length ≤ 2 * T.nodes := by
 induction T with
 | nil => intro p; simp [layA, Ts.length, Ts.nodes]
 | cons k n s ar r iha ihr =>
  intro p
  by_cases h : k = 3
  ·subst h
   rw [layA_comp]
   have h1 := iha (p + 1 + ar.length)
   have h2 := ihr (p + (layS s ar p).length)
   have h3 := layS_len s ar p
   simp only [List.length_append, Ts.length, Ts.nodes]; omega
  ·rw [layA_one _ _ _ _ _ h]
   have h2 := ihr p
   simp only [Ts.length, Ts.nodes]; omega
theorem lay1_le (k n : Int) (s : ByteArray) (ar : Ts) (p : Nat) : (lay1 k n s ar p).length ≤ 1 + 2 * ar.nodes := by
 unfold lay1
 split
 ·have := layA_le ar (p + 1 + ar.length)
  rw [layS_len]; omega
 ·simp
theorem layL_app (D R : Ts) : ∀ p, layL (D.app R) p = ((layL D p).1 ++ (layL R (p + (layL D p).1.length)).1, (layL D p).2 ++ (layL R (p + (layL D p).1.length)).2) := by
 induction D with
 | nil => intro p; simp [Ts.app, layL]
 | cons k n s ar r _ ih =>
  intro p
  simp only [Ts.app, layL, ih, List.length_append, List.cons_append, List.append_assoc, Nat.add_assoc]
theorem layL_le (T : Ts) : ∀ p, (layL T p).1.length ≤ 2 * T.nodes := by
 induction T with
 | nil => intro p; simp [layL]
 | cons k n s ar r iha ihr =>
  intro p
  have h1 := lay1_le k n s ar p
  have h2 := ihr (p + (lay1 k n s ar p).length)
  simp only [layL, List.length_append, Ts.nodes]; omega
theorem layL_len (T : Ts) : ∀ p, (layL T p).2.length = T.length := by
 induction T with
 | nil => intro p; rfl
 | cons k n s ar r iha ihr => intro p; simp only [layL, List.length_cons, ihr, Ts.length]
def blockC (c : Cl) : List HC := varsB c.vars.toNat ++ (lay1 c.k c.n c.s c.hd c.vars.toNat ++ (layL c.bd (c.vars.toNat + (lay1 c.k c.n c.s c.hd c.vars.toNat).length)).1)
def goalsC (c : Cl) : List Int := (layL c.bd (c.vars.toNat + (lay1 c.k c.n c.s c.hd c.vars.toNat).length)).2
def blockQ (vars : Int) (T : Ts) : List HC := varsB vars.toNat ++ (layL T vars.toNat).1
def goalsQ (vars : Int) (T : Ts) : List Int := (layL T vars.toNat).2
theorem Ts.goals_nodes (vars : Int) : ∀ T : Ts, T.goals vars = true → T.nodes ≤ 24 * T.length
 | .nil, _ => by simp [Ts.nodes]
 | .cons k n s ar r, h => by
  simp only [Ts.goals, Bool.and_eq_true, gB, decide_eq_true_eq] at h
  have := Ts.goals_nodes vars r h.2
  simp only [Ts.nodes, Ts.length]; omega
end Go.Proofs.Ythliapbflkfdiab
namespace Go.Proofs.Ythliapbflkfdiab
open Go.RowKit
def pB (L : List Cl) : Bool := decide (L.length ≤ 24) && L.all cB
def GpLoop (w : World) (L : List Cl) (g : Nat) (sx : Value) (wr : World) : Prop := ∃ D R : List Cl, L = D ++ R ∧ g = R.length ∧ sx = .int .i64 D.length ∧ D.all cB = true ∧ Below w.heap.size w wr
section
variable {w w' : World} {p q : Nat → Prop}
end
end Go.Proofs.Ythliapbflkfdiab
namespace Go.Proofs.Ythliapbflkfdiab
open Go.RowKit
def MapIs (w : World) (mb : Nat) (ents : List (Int × Value)) : Prop :=
 ∃ es clock, w.heap[mb]? = some (.map es clock) ∧ es.toList.map (fun e => (e.key, e.val)) = ents.map (fun x => (Value.int .i64 x.1, x.2))
def aget (n : Int) : List (Int × Value) → Option Value
 | [] => none
 | x :: r => if n = x.1 then some x.2 else aget n r
def aput (n : Int) (v : Value) : List (Int × Value) → List (Int × Value)
 | [] => [(n, v)]
 | x :: r => if n = x.1 then (n, v) :: r else x :: aput n v r
def aidx (n : Int) : List (Int × Value) → Nat → Option (Nat × Value)
 | [], _ => none
 | x :: r, i => if n = x.1 then some (i, x.2) else aidx n r (i + 1)
theorem isKey_int (n : Int) : MapKept.IsKey (.int .i64) (.int .i64 n) := by simp [MapKept.IsKey]
theorem findNow_ints (n : Int) : ∀ (es : List MapEntry) (ents : List (Int × Value)) (i : Nat), es.map (fun e => (e.key, e.val)) = ents.map (fun x => (Value.int .i64 x.1, x.2)) →
  Instr.findNow (.int .i64) (.int .i64 n) es i = some (aidx n ents i)
 | [], [], i, _ => rfl
 | [], _ :: _, _, h => by simp at h
 | _ :: _, [], _, h => by simp at h
 | e :: es, x :: ents, i, h => by
  simp only [List.map_cons, List.cons.injEq, Prod.mk.injEq] at h
  obtain ⟨⟨h1, h2⟩, h3⟩ := h
  have ih := findNow_ints n es ents (i + 1) h3
  simp only [Instr.findNow, h1, Instr.sameNow, aidx, if_true]
  by_cases e1 : n = x.1
  ·simp [e1, h2]
  ·have e2 : (n == x.1) = false := by simpa using e1
   rw [e2, if_neg e1, ← ih]
theorem aidx_none {n : Int} : ∀ {ents : List (Int × Value)} {i : Nat}, aidx n ents i = none ↔ aget n ents = none
 | [], _ => by simp [aidx, aget]
 | x :: r, i => by
  simp only [aidx, aget]
  by_cases e : n = x.1
  ·simp [e]
  ·simp only [e, if_false]; exact aidx_none
theorem aidx_some {n : Int} : ∀ {ents : List (Int × Value)} {i j : Nat} {v : Value}, aidx n ents i = some (j, v) → aget n ents = some v
 | [], _, _, _, h => by simp [aidx] at h
 | x :: r, i, j, v, h => by
  simp only [aidx, aget] at *
  by_cases e : n = x.1
  ·simp only [e, if_true, Option.some.injEq, Prod.mk.injEq] at h ⊢; exact h.2
  ·simp only [e, if_false] at h ⊢; exact aidx_some h
theorem aput_none {n : Int} {v : Value} : ∀ {ents : List (Int × Value)}, aget n ents = none → aput n v ents = ents ++ [(n, v)]
 | [], _ => rfl
 | x :: r, h => by
  simp only [aget] at h
  by_cases e : n = x.1
  ·simp [e] at h
  ·simp only [e, if_false] at h
   simp only [aput, e, if_false, aput_none h, List.cons_append]
theorem aput_some {n : Int} {v u : Value} : ∀ {ents : List (Int × Value)} {i j : Nat}, aidx n ents i = some (j, u) → i ≤ j ∧ (ents[j - i]?).map (·.1) = some n ∧ aput n v ents = ents.set (j - i) (n, v)
 | [], _, _, h => by simp [aidx] at h
 | x :: r, i, j, h => by
  simp only [aidx, aput] at *
  by_cases e : n = x.1
  ·simp only [e, if_true, Option.some.injEq, Prod.mk.injEq] at h
   obtain ⟨rfl, _⟩ := h
   simp [e]
  ·simp only [e, if_false] at h ⊢
   obtain ⟨h1, h2, h3⟩ := aput_some (v := v) h
   have e1 : j - i = (j - (i + 1)) + 1 := by omega
   refine ⟨by omega, by rw [e1]; simpa using h2, by rw [h3, e1]; rfl⟩
section
variable {P : Program} {w : World} {mb : Nat} {ents : List (Int × Value)} {t kt et : TypeId}
theorem MapIs.lt (h : MapIs w mb ents) : mb < w.heap.size := by
 obtain ⟨es, clock, hb, _⟩ := h
 exact (Array.getElem?_eq_some_iff.1 hb).1
theorem MapIs.keep {w' : World} (h : MapIs w mb ents) (hk : w'.heap[mb]? = w.heap[mb]?) : MapIs w' mb ents := by
 obtain ⟨es, clock, hb, he⟩ := h
 exact ⟨es, clock, hk.trans hb, he⟩
theorem MapIs.made (w : World) : MapIs (w.alloc (.map #[] 0)) w.heap.size [] := ⟨#[], 0, heap_alloc_new w _, rfl⟩
theorem run_makeMap {P : Program} (t : TypeId) (w : World) : (Instr.makeMap t none).run P w = .ok (.map (some w.heap.size)) (w.alloc (.map #[] 0)) := by
 simp [Instr.makeMap, newObj, Sem.run]
theorem MapIs.lookup (h : MapIs w mb ents) {z : Value} (ht : P.underlying t = some (.map kt et)) (hk : P.underlying kt = some (.int .i64))
  (hz : (zeroValue et).run P w = .ok z w) (n : Int) (c : Bool) :
  (Instr.lookup t (.map (some mb)) (.int .i64 n) c).run P w = .ok (if c then .tuple #[(aget n ents).getD z, .bool (aget n ents).isSome] else (aget n ents).getD z) w := by
 obtain ⟨es, clock, hb, he⟩ := h
 have hf := findNow_ints n es.toList ents 0 he
 cases ha : aidx n ents 0 with
 | none =>
  rw [ha] at hf
  simp [Instr.lookup, run_underlying ht, MapKept.run_getObj_map hb, MapKept.run_checkKey hk (isKey_int n), MapKept.run_findKey hk hf, hz, Result.andThen, aidx_none.1 ha]
 | some x =>
  rw [ha] at hf
  simp [Instr.lookup, run_underlying ht, MapKept.run_getObj_map hb, MapKept.run_checkKey hk (isKey_int n), MapKept.run_findKey hk hf, Result.andThen, aidx_some ha]
theorem MapIs.update (h : MapIs w mb ents) (ht : P.underlying t = some (.map kt et)) (hk : P.underlying kt = some (.int .i64)) (n : Int) (v : Value) :
  ∃ w', (Instr.mapUpdate t (.map (some mb)) (.int .i64 n) v).run P w = .ok () w' ∧ MapIs w' mb (aput n v ents) ∧ Chg (fun k => k = mb) w w' ∧ w'.heap.size = w.heap.size := by
 have hlt := h.lt
 obtain ⟨es, clock, hb, he⟩ := h
 have hf := findNow_ints n es.toList ents 0 he
 cases ha : aidx n ents 0 with
 | none =>
  rw [ha] at hf
  refine ⟨{ w with heap := w.heap.setIfInBounds mb (.map (es.push { key := .int .i64 n, val := v, born := clock }) (clock + 1)) }, ?_, ⟨_, _, (MapKept.heap_set hb).1, ?_⟩, ⟨rfl, rfl, rfl, by simp, fun k _ hn => (MapKept.heap_set hb).2 k hn⟩, by simp⟩
  ·simp [Instr.mapUpdate, run_underlying ht, MapKept.run_getObj_map hb, MapKept.run_checkKey hk (isKey_int n), MapKept.run_findKey hk hf, MapKept.run_setObj_map _ hb, Result.andThen]
  ·rw [aput_none (aidx_none.1 ha), Array.toList_push, List.map_append, List.map_append, he]; rfl
 | some x =>
  obtain ⟨j, u⟩ := x
  rw [ha] at hf
  obtain ⟨_, h2, h3⟩ := aput_some (v := v) ha
  simp only [Nat.sub_zero] at h2 h3
  have hent : ∃ e, es[j]? = some e ∧ e.key = .int .i64 n := by
   have h4 := congrArg (fun l => l[j]?) he
   simp only [List.getElem?_map] at h4
   cases h5 : ents[j]? with
   | none => rw [h5] at h2; simp at h2
   | some y =>
    rw [h5] at h2 h4
    simp only [Option.map_some, Option.some.injEq] at h2
    cases h6 : es[j]? with
    | none => simp [h6] at h4
    | some e =>
     simp [h6] at h4
     exact ⟨e, rfl, by rw [h4.1, h2]⟩
  obtain ⟨e, hj, hkey⟩ := hent
  refine ⟨{ w with heap := w.heap.setIfInBounds mb (.map (es.modify j fun e => { e with key := .int .i64 n, val := v }) clock) }, ?_, ⟨_, _, (MapKept.heap_set hb).1, ?_⟩, ⟨rfl, rfl, rfl, by simp, fun k _ hn => (MapKept.heap_set hb).2 k hn⟩, by simp⟩
  ·simp [Instr.mapUpdate, run_underlying ht, MapKept.run_getObj_map hb, MapKept.run_checkKey hk (isKey_int n), MapKept.run_findKey hk hf, hj, hkey, MapKept.run_keyThatStays (isKey_int n), MapKept.run_setObj_map _ hb, Result.andThen]
  ·rw [h3]
   apply List.ext_getElem?
   intro i
   have h4 := congrArg (fun l => l[i]?) he
   simp only [List.getElem?_map, Array.getElem?_toList] at h4
   simp only [List.getElem?_map, Array.getElem?_toList, Array.getElem?_modify, List.getElem?_set]
   by_cases hij : j = i
   ·subst hij
    have hjl : j < ents.length := by
     rcases Nat.lt_or_ge j ents.length with hl | hl
     ·exact hl
     ·rw [List.getElem?_eq_none hl] at h2; simp at h2
    simp [hj, hjl]
   ·simp [hij, h4]
theorem MapIs.size (h : MapIs w mb ents) : ∃ es clock, w.heap[mb]? = some (.map es clock) ∧ es.size = ents.length := by
 obtain ⟨es, clock, hb, he⟩ := h
 refine ⟨es, clock, hb, ?_⟩
 have := congrArg List.length he
 simpa using this
theorem MapIs.len (h : MapIs w mb ents) (ht : P.underlying t = some (.map kt et)) (ty : TypeId) : (Builtin.len_ #[t] ty #[.map (some mb)]).run P w = .ok (.int .i64 ents.length) w := by
 obtain ⟨es, clock, hb, hs⟩ := h.size
 simp [Builtin.len_, run_underlying ht, MapKept.run_getObj_map hb, Result.andThen, hs, goInt]
end
end Go.Proofs.Ythliapbflkfdiab
namespace Go.Proofs.Ythliapbflkfdiab
open Go.RowKit
def low (n : Int) : Int := n % 1099511627776
def pos (n : Int) : List Int → Option Nat
 | [] => none
 | k :: r => if n = k then some 0 else (pos n r).map (· + 1)
def numV (ks : List Int) (n : Int) : Int := ((pos n ks).getD ks.length : Nat)
def numS (ks : List Int) (n : Int) : List Int := if (pos n ks).isSome then ks else ks ++ [n]
def entsFrom (i : Nat) : List Int → List (Int × Value)
 | [] => []
 | k :: r => (k, .int .i64 i) :: entsFrom (i + 1) r
theorem length_entsFrom : ∀ (ks : List Int) (i : Nat), (entsFrom i ks).length = ks.length
 | [], _ => rfl
 | _ :: r, i => by simp [entsFrom, length_entsFrom r (i + 1)]
theorem aget_entsFrom (n : Int) : ∀ (ks : List Int) (i : Nat), aget n (entsFrom i ks) = (pos n ks).map fun j => Value.int .i64 ((i + j : Nat) : Int)
 | [], _ => rfl
 | k :: r, i => by
  simp only [entsFrom, aget, pos]
  by_cases e : n = k
  ·simp [e]
  ·simp only [e, if_false, aget_entsFrom n r (i + 1), Option.map_map]
   congr 1
   funext j
   simp only [Function.comp]
   congr 2
   omega
theorem entsFrom_snoc (n : Int) : ∀ (ks : List Int) (i : Nat), entsFrom i (ks ++ [n]) = entsFrom i ks ++ [(n, .int .i64 ((i + ks.length : Nat) : Int))]
 | [], i => rfl
 | k :: r, i => by
  simp only [List.cons_append, entsFrom, entsFrom_snoc n r (i + 1), List.length_cons]
  congr 5
  omega
def NumIs (w : World) (mb : Nat) (ks : List Int) : Prop := MapIs w mb (entsFrom 0 ks)
theorem Plot.not_map {w : World} {g mb : Nat} {t : TypeId} {cs : Array Value} {ents : List (Int × Value)} (h : Plot w g t cs) (hm : MapIs w mb ents) : g ≠ mb := by
 rintro rfl
 obtain ⟨es, clock, hb, _⟩ := hm
 unfold Plot at h
 rw [hb] at h
 cases h
theorem info_int : (Try.prog.info? 3).map (fun i => (i.zero, i.size, i.bytes)) = some (some (.int .i64 0), 1, 8) := by kernel_rfl
theorem zero_int (w : World) : (zeroValue 3).run Try.prog w = .ok (.int .i64 0) w := by
 obtain ⟨i0, hi0, hz0, _⟩ := info_parts info_int
 simp [zeroValue, typeInfo, hi0, hz0]
set_option maxHeartbeats 400000 in
theorem tidy1_any (n : Int) (ks : List Int) (vb mb : Nat) (w : World) (hv : Plot w vb 99 #[.map (some mb)]) (hm : NumIs w mb ks) :
  Calls Try.prog 69 #[.int .i64 n, .pointer (some ⟨vb, 0, none⟩)] w fun e w' => e = .returned (.int .i64 (numV ks n)) ∧ NumIs w' mb (numS ks n) ∧ Chg (fun k => k = mb) w w' := by
 have c0 : w.cell? ⟨vb, 0, none⟩ = some (.map (some mb)) := hv.cell 0
 have hlook := MapIs.lookup (P := Try.prog) hm Try.underlying99 Try.underlying3 (zero_int w) n true
 rw [aget_entsFrom] at hlook
 have hlen := MapIs.len (P := Try.prog) hm Try.underlying99
 rw [length_entsFrom] at hlen
 obtain ⟨w1, hup, hm1, hc1, hs1⟩ := MapIs.update (P := Try.prog) hm Try.underlying99 Try.underlying3 n (.int .i64 ks.length)
 cases hp : pos n ks with
 | none =>
  rw [hp] at hlook
  simp only [Option.map_none, Option.getD_none, Option.isSome_none, if_true] at hlook
  have h1 : numV ks n = ks.length := by simp [numV, hp]
  have h2 : NumIs w1 mb (numS ks n) := by
   unfold NumIs numS
   rw [hp]
   simp only [Option.isSome_none, Bool.false_eq_true, if_false]
   rw [entsFrom_snoc]
   rw [aput_none (by rw [aget_entsFrom, hp]; rfl)] at hm1
   simpa using hm1
  have H1 := Lib.hid h1
  clear h1 hp
  go_enter Try.func69, Try.ntmps69
  go_wp2_with fail
  go_ret
  exact ⟨by rw [H1.out]; rfl, h2, hc1⟩
 | some j =>
  rw [hp] at hlook
  simp only [Option.map_some, Option.getD_some, Option.isSome_some, if_true] at hlook
  have h1 : numV ks n = j := by simp [numV, hp]
  have h2 : NumIs w mb (numS ks n) := by
   unfold numS
   rw [hp]
   exact hm
  have H1 := Lib.hid h1
  clear h1 hp
  go_enter Try.func69, Try.ntmps69
  go_wp2_with fail
  go_ret
  exact ⟨by rw [H1.out]; rfl, h2, Chg.refl _ _⟩
end Go.Proofs.Ythliapbflkfdiab
namespace Go.Proofs.Ythliapbflkfdiab
open Go.RowKit
set_option maxRecDepth 100000
structure Num (σ : Type) where
 fid : FuncId
 cap : Array Value
 own : Nat → Prop
 lean : Nat → Prop
 inv : σ → World → Prop
 val : σ → Int → Int
 nxt : σ → Int → σ
structure Num.Ok {σ : Type} (N : Num σ) : Prop where
 keep : ∀ s w w', N.inv s w → (∀ k, N.lean k → w'.heap[k]? = w.heap[k]?) → N.inv s w'
 lt : ∀ s w k, N.inv s w → N.lean k → k < w.heap.size
 sub : ∀ k, N.own k → N.lean k
 bare : ∀ s w k c t f, N.inv s w → N.own k → w.heap[k]? ≠ some (.cells c t f)
 enter : ∀ (args : Array Value) (w : World), (callFunc N.fid args).run Try.prog w = .ok (.enter N.fid args) w
 call : ∀ s n w, N.inv s w → Calls Try.prog N.fid (#[.int .i64 n] ++ N.cap) w fun e w' => e = .returned (.int .i64 (N.val s n)) ∧ N.inv (N.nxt s n) w' ∧ Chg N.own w w'
def Num.v1 {σ : Type} (N : Num σ) (k n : Int) (s : σ) : Int := if k = 0 then N.val s n else n
def Num.s1 {σ : Type} (N : Num σ) (k n : Int) (s : σ) : σ := if k = 0 then N.nxt s n else s
def Ts.ren {σ : Type} (N : Num σ) : Ts → σ → Ts × σ
 | .nil, s => (.nil, s)
 | .cons k n b ar r, s => (.cons k (N.v1 k n s) b (ar.ren N (N.s1 k n s)).1 (r.ren N (ar.ren N (N.s1 k n s)).2).1, (r.ren N (ar.ren N (N.s1 k n s)).2).2)
theorem Ts.length_ren {σ : Type} (N : Num σ) (T : Ts) : ∀ s : σ, (T.ren N s).1.length = T.length := by
 induction T with
 | nil => intro s; rfl
 | cons k n b ar r _ ih => intro s; simp only [Ts.ren, Ts.length, ih]
section
variable {σ : Type} {N : Num σ}
theorem Num.Ok.cell_none (ok : N.Ok) {w : World} {s : σ} {k o : Nat} (hi : N.inv s w) (ho : N.own k) : w.cell? ⟨k, o, none⟩ = none := by
 have := fun c t f => ok.bare s w k c t f hi ho
 unfold World.cell?
 split
 ·rename_i h; exact absurd h (this _ _ _)
 ·rfl
end
end Go.Proofs.Ythliapbflkfdiab
