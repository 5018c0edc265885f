/- Steps of the proof. -/
import Derived.Test.YthliapbflkfdiacGreatDoorG2
import Derived.StillTailTactics
import Derived.Deep.Upon
import Derived.Lib.LazyBuf
import Derived.BigQuiet
namespace Go.Proofs.YthliapbflkfdiacGreatDoor
open Go.RowKit
theorem QoY : (Tryz.prog.info? 23).map (fun i => (i.zero, i.size, i.bytes)) = some (some (.slice none 0 0), 1, 24) := by kernel_rfl
theorem QdG {P : Program} (w : World) (d : Nat) (t e : TypeId) (a : Option Addr) (l c : Nat) (h : P.underlying t = some (.slice e)) : (Op.equalIn (d + 1) t (.slice a l c) (.slice none 0 0)).run P w = .ok a.isNone w := by
 cases a <;> simp [Op.equalIn, run_underlying h]
theorem QeG {P : Program} (w : World) (t e : TypeId) (a : Option Addr) (l c : Nat) (h : P.underlying t = some (.slice e)) : (Op.equal t (.slice a l c) (.slice none 0 0)).run P w = .ok a.isNone w := QdG w 9999 t e a l c h
theorem run_eql_slice_nil {P : Program} (w : World) (t e : TypeId) (a : Option Addr) (l c : Nat) (h : P.underlying t = some (.slice e)) : (binOp .eql t (.slice a l c) (.slice none 0 0)).run P w = .ok (.bool a.isNone) w := by
 simp [binOp, QeG w t e a l c h]
structure Qaj (w : World) (B pb : Nat) (pv : Value) (xs : List Value) : Prop where
 var : Qan w pb 182 #[pv]
 own : w.ownsRow B 23 1 pv xs.length xs
 apart : pv.ownBlock ≠ some pb
theorem Qan.ne_ {w : World} {g g' : Nat} {t t' : TypeId} {cs cs' : Array Value} (h : Qan w g t cs) (h' : Qan w g' t' cs') (hne : t ≠ t') : g ≠ g' := by
 rintro rfl
 unfold Qan at h h'
 rw [h] at h'
 injection h' with h'
 injection h' with _ ht
 exact hne ht
theorem Qaj.chg {S : Nat → Prop} {w w' : World} {B pb : Nat} {pv : Value} {xs : List Value} (h : Qaj w B pb pv xs) (hc : Chg S w w') (h1 : ¬ S pb) (h2 : ∀ g, pv.ownBlock = some g → ¬ S g) : Qaj w' B pb pv xs :=
 ⟨h.var.chg hc h1, Qt7 h.own hc h2, h.apart⟩
theorem Qaj.other {w : World} {B pb b : Nat} {pv : Value} {xs : List Value} {cur : Array Value} (h : Qaj w B pb pv xs) (hb : Qan w b 63 cur) : b ≠ pb ∧ pv.ownBlock ≠ some b := by
 refine ⟨hb.ne_ h.var Yg, fun e => ?_⟩
 rcases h.own.2 with ⟨e1, _⟩ | ⟨g, cap, cur', e1, _, hh, _⟩
 ·rw [e1] at e; simp [Value.ownBlock] at e
 ·rw [e1] at e
  simp only [Value.ownBlock, Option.some.injEq] at e
  subst e
  exact hb.ne_ (t' := 23) hh Yg rfl
theorem Qaj.set {w : World} {B pb b i : Nat} {pv u : Value} {xs : List Value} {cur : Array Value} (h : Qaj w B pb pv xs) (hb : Qan w b 63 cur) : Qaj (w.setCell ⟨b, i, none⟩ u) B pb pv xs := by
 obtain ⟨h1, h2⟩ := h.other hb
 exact h.chg ((Chg.refl (fun k => k = b) w).setCell (fun _ => rfl) u) (fun e => h1 e.symm) fun g hg e => h2 (by rw [hg, e])
theorem Qaj.keep {w w' : World} {B pb k : Nat} {pv : Value} {xs : List Value} {cur : Array Value} (h : Qaj w B pb pv xs) (hc : Chg (fun k => k = pb ∨ pv.ownBlock = some k) w w') (hk : Qan w k 63 cur) : Qan w' k 63 cur := by
 obtain ⟨h1, h2⟩ := h.other hk
 exact hk.chg hc fun hS => hS.elim h1 h2
set_option maxHeartbeats 400000 in
theorem QmD (k n : Int) (s : ByteArray) (A : Option Addr) (l c : Nat) (w : World) :
  Calls Tryz.prog 133 #[.agg #[.int .i64 k, .int .i64 n, .string s, .slice A l c]] w fun e w' => e = .returned (.slice (some ⟨w.heap.size + 2, 0, none⟩) 1 1) ∧
   w' = ((w.alloc (.cells #[.int .i64 k, .int .i64 n, .string s, .slice A l c] 63)).alloc (.cells #[.int .i64 k, .int .i64 n, .string s, .slice A l c] 63)).alloc (.cells #[.slice (some ⟨w.heap.size + 1, 0, none⟩) 1 1] 23) := by
 go_enter Tryz.func133, Tryz.ntmps133
 go_wp2_with fail
 go_ret
 exact ⟨rfl, rfl⟩
set_option maxHeartbeats 400000 in
theorem Qqv {w : World} {B pb : Nat} {pv : Value} {ys : List Value} {b o cap : Nat} (hp : Qaj w B pb pv (ys ++ [.slice (some ⟨b, o, none⟩) 1 cap])) (hn : ys.length ≤ 1073741824) :
  Calls Tryz.prog 134 #[.pointer (some ⟨pb, 0, none⟩)] w fun e w' => e = .returned (.pointer (some ⟨b, o, none⟩)) ∧
   ∃ pv', Qaj w' B pb pv' ys ∧ pv'.ownBlock = pv.ownBlock ∧ Chg (fun k => k = pb ∨ pv.ownBlock = some k) w w' := by
 obtain ⟨hv, ho, ha⟩ := hp
 rcases ho.2 with ⟨_, h0⟩ | ⟨g, cp, cur, rfl, hg, hh, hnc, hcm, hcs, htk⟩
 ·simp at h0
 have c0 : w.cell? ⟨pb, 0, none⟩ = some (.slice (some ⟨g, 0, none⟩) (ys ++ [Value.slice (some ⟨b, o, none⟩) 1 cap]).length cp) := hv.cell 0
 have f0 : w.frozen? ⟨pb, 0, none⟩ = false := hv.frozen 0
 have c1 : w.cell? ⟨g, ys.length, none⟩ = some (.slice (some ⟨b, o, none⟩) 1 cap) := by
  rw [ho.cellAt _ Yd]; simp
 simp only [List.length_append, List.length_cons, List.length_nil, Nat.zero_add] at c0 hnc
 have hgp : g ≠ pb := fun e => ha (by rw [e]; rfl)
 have hfin : Qaj (w.setCell ⟨pb, 0, none⟩ (.slice (some ⟨g, 0, none⟩) ys.length cp)) B pb (.slice (some ⟨g, 0, none⟩) ys.length cp) ys := by
  refine ⟨hv.set_ 0 _, ⟨by simp, .inr ⟨g, cp, cur, rfl, hg, (Below.heap_setCell _ _ _ _ hgp).trans hh, by omega, hcm, hcs, ?_⟩⟩, by simpa [Value.ownBlock] using hgp⟩
  have := congrArg (List.take (ys.length * 1)) htk
  rw [List.take_take] at this
  simpa [Nat.min_eq_left] using this
 have hchg : Chg (fun k => k = pb ∨ (Value.slice (some ⟨g, 0, none⟩) (ys ++ [Value.slice (some ⟨b, o, none⟩) 1 cap]).length cp).ownBlock = some k) w (w.setCell ⟨pb, 0, none⟩ (.slice (some ⟨g, 0, none⟩) ys.length cp)) :=
  (Chg.refl _ _).setCell (fun _ => .inl rfl) _
 clear hv ho ha htk
 go_enter Tryz.func134, Tryz.ntmps134
 go_wp2_with fail
 go_ret
 exact ⟨rfl, _, hfin, rfl, hchg⟩
set_option maxHeartbeats 400000 in
theorem Qqu {w : World} {B pb : Nat} {pv : Value} {ys : List Value} {b o l cap : Nat} (hp : Qaj w B pb pv (ys ++ [.slice (some ⟨b, o, none⟩) (l + 2) cap])) (hn : ys.length ≤ 1073741824) (hl : l ≤ 1073741824) (hc : l + 2 ≤ cap) :
  Calls Tryz.prog 134 #[.pointer (some ⟨pb, 0, none⟩)] w fun e w' => e = .returned (.pointer (some ⟨b, o, none⟩)) ∧
   ∃ pv', Qaj w' B pb pv' (ys ++ [.slice (some ⟨b, o + 4, none⟩) (l + 1) (cap - 1)]) ∧ pv'.ownBlock = pv.ownBlock ∧ Chg (fun k => k = pb ∨ pv.ownBlock = some k) w w' := by
 obtain ⟨hv, ho, ha⟩ := hp
 rcases ho.2 with ⟨_, h0⟩ | ⟨g, cp, cur, rfl, hg, hh, hnc, hcm, hcs, htk⟩
 ·simp at h0
 have c0 : w.cell? ⟨pb, 0, none⟩ = some (.slice (some ⟨g, 0, none⟩) (ys ++ [Value.slice (some ⟨b, o, none⟩) (l + 2) cap]).length cp) := hv.cell 0
 have c1 : w.cell? ⟨g, ys.length, none⟩ = some (.slice (some ⟨b, o, none⟩) (l + 2) cap) := by
  rw [ho.cellAt _ Yd]; simp
 have f1 : w.frozen? ⟨g, ys.length, none⟩ = false := ho.frozenAt _
 simp only [List.length_append, List.length_cons, List.length_nil, Nat.zero_add] at c0 hnc
 have hgp : g ≠ pb := fun e => ha (by rw [e]; rfl)
 have hst := (ho.stored ys.length (.slice (some ⟨b, o + 4, none⟩) (l + 1) (cap - 1))).1
 have hfin : Qaj (w.setCell ⟨g, ys.length, none⟩ (.slice (some ⟨b, o + 4, none⟩) (l + 1) (cap - 1))).drew B pb (.slice (some ⟨g, 0, none⟩) (ys.length + 1) cp) (ys ++ [.slice (some ⟨b, o + 4, none⟩) (l + 1) (cap - 1)]) := by
  refine ⟨?_, ?_, by simpa [Value.ownBlock] using hgp⟩
  ·have := hv.far (p := ⟨g, ys.length, none⟩) (Ne.symm hgp) (.slice (some ⟨b, o + 4, none⟩) (l + 1) (cap - 1))
   simp only [List.length_append, List.length_cons, List.length_nil, Nat.zero_add] at this
   exact this
  ·simp at hst
   have e : (ys ++ [Value.slice (some ⟨b, o + 4, none⟩) (l + 1) (cap - 1)]).length = ys.length + 1 := by simp
   rw [e]
   exact hst
 have hchg : Chg (fun k => k = pb ∨ (Value.slice (some ⟨g, 0, none⟩) (ys ++ [Value.slice (some ⟨b, o, none⟩) (l + 2) cap]).length cp).ownBlock = some k) w (w.setCell ⟨g, ys.length, none⟩ (.slice (some ⟨b, o + 4, none⟩) (l + 1) (cap - 1))).drew :=
  ((Chg.refl _ _).setCell (fun _ => .inr rfl) _).drew
 have hl1 : (((l + 2 : Nat) : Int) == 1) = false := by rw [beq_eq_false_iff_ne]; omega
 clear hv ho ha htk hst
 go_enter Tryz.func134, Tryz.ntmps134
 go_wp2_with fail
 go_region
 go_wp2_with fail
 go_ret
 exact ⟨rfl, _, hfin, rfl, hchg⟩
set_option maxHeartbeats 400000 in
theorem Qs8 {w : World} (v : Value) (A : Option Addr) (c : Nat) : Calls Tryz.prog 136 #[v, .slice A 0 c] w fun e w' => e = .returned (.tuple #[]) ∧ w = w' := by
 go_enter Tryz.func136, Tryz.ntmps136
 go_wp2_with fail
 go_end0
 exact ⟨rfl, rfl⟩
set_option maxHeartbeats 400000 in
theorem Qs7 {w : World} {B pb : Nat} {pv : Value} {xs : List Value} {A : Option Addr} {l c : Nat} (hp : Qaj w B pb pv xs) (hB : B ≤ w.heap.size) (hn : xs.length ≤ 1073741824) :
  Calls Tryz.prog 136 #[.pointer (some ⟨pb, 0, none⟩), .slice A (l + 1) c] w fun e w' => e = .returned (.tuple #[]) ∧
   ∃ pv', Qaj w' B pb pv' (xs ++ [.slice A (l + 1) c]) ∧ (pv'.ownBlock = pv.ownBlock ∨ ∃ g, pv'.ownBlock = some g ∧ w.heap.size ≤ g) ∧ Chg (fun k => k = pb ∨ pv.ownBlock = some k) w w' := by
 obtain ⟨hv, ho, ha⟩ := hp
 obtain ⟨i0, hi0, hz0, hz1, hz2⟩ := info_parts QoY
 have c0 : w.cell? ⟨pb, 0, none⟩ = some pv := hv.cell 0
 have hW : Below w.heap.size w (w.alloc (.cells #[.slice A (l + 1) c] 23)) := (Below.refl _ _).alloc (Nat.le_refl _) _
 have ho' := Qqi ho hW
 have hlt := hv.lt
 have HB := Lib.hid ha
 clear ha
 go_enter Tryz.func136, Tryz.ntmps136
 go_wp2_with (at_builtin; refine Qdi _ rfl (.tmp 10) (.tmp 12) _ rfl B 23 i0 _ 1 24 Tryz.underlying182 hi0 hz0 hz1 hz2 rfl Ya pv xs.length xs rfl ho' ⟨w.heap.size, 0, none⟩ 1 1 [.slice A (l + 1) c] rfl rfl (QsV w [.slice A (l + 1) c] 23) (by simp [Value.oneCell']) (by simp only [maxLen]; omega) Ya Yh ?next)
 case next =>
  intro v' w' hov hg hat
  have cp : Qan w' pb 182 #[pv] := (hv.alloc _).grown hg (fun e => HB.out e.symm)
  have c1 : w'.cell? ⟨pb, 0, none⟩ = some pv := cp.cell 0
  have f1 : w'.frozen? ⟨pb, 0, none⟩ = false := cp.frozen 0
  rcases hov.2 with ⟨_, h0⟩ | ⟨g, cap, cur, rfl, hgB, hh, hnc, hcm, hcs, htk⟩
  ·omega
  have hne : g ≠ pb := by
   rcases hat with e | e
   ·intro e2; subst e2; exact HB.out e.symm
   ·simp [Value.ownBlock] at e; omega
  have hfin : Qaj (w'.setCell ⟨pb, 0, none⟩ (.slice (some ⟨g, 0, none⟩) (xs.length + 1) cap)) B pb (.slice (some ⟨g, 0, none⟩) (xs.length + 1) cap) (xs ++ [.slice A (l + 1) c]) := by
   refine ⟨cp.set_ 0 _, ?_, by simpa [Value.ownBlock] using hne⟩
   have := ownsRow_setCell_other hov (a := ⟨pb, 0, none⟩) (by simpa [Value.ownBlock] using hne) (.slice (some ⟨g, 0, none⟩) (xs.length + 1) cap)
   simpa using this
  have hat' : (Value.slice (some ⟨g, 0, none⟩) (xs.length + 1) cap).ownBlock = pv.ownBlock ∨ ∃ g', (Value.slice (some ⟨g, 0, none⟩) (xs.length + 1) cap).ownBlock = some g' ∧ w.heap.size ≤ g' := by
   rcases hat with e | e
   ·exact .inl e
   ·exact .inr ⟨_, e, by omega⟩
  have hchg : Chg (fun k => k = pb ∨ pv.ownBlock = some k) w (w'.setCell ⟨pb, 0, none⟩ (.slice (some ⟨g, 0, none⟩) (xs.length + 1) cap)) := by
   refine Chg.setCell ?_ (fun _ => .inl rfl) _
   exact ((Chg.refl _ w).alloc _).trans (Chg.of_grown hg) fun k _ e => .inr e
  have HX := Lib.hid hat'
  clear hat hat' htk hov
  go_wp2_with fail
  go_end0
  exact ⟨rfl, _, hfin, HX.out, hchg⟩
def Raw (w : World) (v : Value) (l : Nat) (xs : List Value) : Prop :=
 ∃ A c, v = .slice A l c ∧ l ≤ c ∧ xs.length = l * 4 ∧ (∀ u ∈ xs, u.oneCell' = true) ∧ (0 < l → ∃ b o, A = some ⟨b, o, none⟩ ∧ ∀ j u, xs[j]? = some u → w.cell? ⟨b, o + j, none⟩ = some u)
theorem Sl.raw {w : World} {p : Nat → Prop} {v : Value} {T : Ts} (h : Sl w p v T) : ∃ xs, Raw w v T.length xs ∧ Cs w p T xs := by
 obtain ⟨A, c, rfl, hc, hs⟩ := h
 rcases Nat.eq_zero_or_pos T.length with h | h
 ·rw [Ts.nil_of_length h]
  exact ⟨[], ⟨A, c, rfl, Nat.zero_le _, rfl, fun u hu => (by cases hu), fun h => absurd h (Nat.lt_irrefl _)⟩, rfl⟩
 ·obtain ⟨b, o, e, hseg⟩ := hs h
  obtain ⟨xs, h1, h2⟩ := hseg.cells
  exact ⟨xs, ⟨A, c, rfl, hc, h1.length, h1.one, fun _ => ⟨b, o, e, h2⟩⟩, h1⟩
set_option maxHeartbeats 400000 in
theorem QlO {w : World} {v : Value} {l : Nat} {xs : List Value} (hv : Raw w v l xs) (hn : l ≤ 1073741824) :
  Calls Tryz.prog 179 #[v] w fun e w' => ∃ v', e = .returned v' ∧ w'.ownsRow w.heap.size 63 4 v' l xs ∧ Below w.heap.size w w' := by
 obtain ⟨A, c, rfl, hc, hlen, hone, hs⟩ := hv
 have hnil : ∀ W, (binOp .eql 23 (.slice A l c) (.slice none 0 0)).run Tryz.prog W = .ok (.bool A.isNone) W := fun W => run_eql_slice_nil W _ _ A _ c Tryz.underlying23
 cases A with
 | none =>
  have hl : l = 0 := by
   rcases Nat.eq_zero_or_pos l with h | h
   ·exact h
   ·obtain ⟨b, o, e, _⟩ := hs h; cases e
  subst hl
  have hx : xs = [] := List.eq_nil_of_length_eq_zero (by simpa using hlen)
  subst hx
  clear hlen hs hone
  go_enter Tryz.func179, Tryz.ntmps179
  go_wp2_with fail
  go_ret
  exact ⟨_, rfl, World.ownsRow_nil _ _ _ _, Below.refl _ _⟩
 | some a =>
  obtain ⟨i0, hi0, hz0, hz1, hz2⟩ := info_parts QqV
  have hcell : ∀ j u, xs[j]? = some u → w.cell? (a.add j) = some u := by
   rcases Nat.eq_zero_or_pos l with h | h
   ·have hx : xs = [] := List.eq_nil_of_length_eq_zero (by simpa [h] using hlen)
    subst hx
    intro j u hu; simp at hu
   ·obtain ⟨b, o, e, h2⟩ := hs h
    simp only [Option.some.injEq] at e
    subst e
    intro j u hu
    have := h2 j u hu
    by_cases hj : j = 0
    ·subst hj; simpa [Addr.add] using this
    ·simpa [Addr.add, hj] using this
  have hW : Below w.heap.size w (w.alloc (.cells #[] 63)) := (Below.refl _ _).alloc (Nat.le_refl _) _
  have ho : (w.alloc (.cells #[] 63)).ownsRow w.heap.size 63 4 (.slice (some ⟨w.heap.size, 0, none⟩) 0 0) 0 [] := by
   simpa using World.ownsRow_lit (base := w.heap.size) (e := 63) (size := 4) w #[] 0 (Nat.le_refl _) (by simp [maxLen]) Yd
  have hcell' : ∀ j u, xs[j]? = some u → (w.alloc (.cells #[] 63)).cell? (a.add j) = some u := fun j u hu => (hW.cell (Qbe (hcell j u hu))).trans (hcell j u hu)
  have H1 := Lib.hid hcell'
  have H2 := Lib.hid hone
  have H3 := Lib.hid hlen
  clear hcell hcell' hs hone hlen
  go_enter Tryz.func179, Tryz.ntmps179
  go_wp2_with (at_builtin; refine Qdi _ rfl (.tmp 5) (.tmp 6) _ rfl w.heap.size 63 i0 _ 4 56 Tryz.underlying23 hi0 hz0 hz1 hz2 rfl Ya _ 0 [] rfl ho a l c xs rfl H3.out H1.out H2.out (by simp only [maxLen]; omega) Ya Yd ?next)
  case next =>
   intro v' w' hov hg hat
   have hb : Below w.heap.size w w' := by
    refine hW.grown hg Yd fun k hk => ?_
    simp [Value.ownBlock] at hk; omega
   go_wp2_with fail
   go_ret
   exact ⟨_, rfl, by simpa using hov, hb⟩
structure Lev where
 b : Nat
 o : Nat
 T : Ts
def push (T : Ts) (b o : Nat) (L : List Lev) : List Lev := if T.length = 0 then L else ⟨b, o, T⟩ :: L
def QJ (L : List Lev) : Nat := (L.map fun l => l.T.nodes).sum
theorem QU (T : Ts) (b o : Nat) (L : List Lev) : QJ (push T b o L) = T.nodes + QJ L := by
 unfold push
 split
 ·rename_i h; rw [Ts.nil_of_length h]; simp [Ts.nodes]
 ·simp [QJ]
def PV : List Lev → List Value → Prop
 | [], xs => xs = []
 | l :: r, xs => ∃ ys cap, xs = ys ++ [.slice (some ⟨l.b, l.o, none⟩) l.T.length cap] ∧ l.T.length ≤ cap ∧ 0 < l.T.length ∧ PV r ys
theorem PV.length : ∀ {L : List Lev} {xs : List Value}, PV L xs → xs.length = L.length
 | [], xs, h => by rw [show xs = [] from h]; rfl
 | l :: r, xs, ⟨ys, cap, e, _, _, h⟩ => by rw [e]; simp [h.length]
theorem PV.le : ∀ {L : List Lev} {xs : List Value}, PV L xs → L.length ≤ QJ L
 | [], xs, h => by simp [QJ]
 | l :: r, xs, ⟨ys, cap, e, _, h0, h⟩ => by
  have := h.le
  have := l.T.length_le
  simp only [List.length_cons, QJ, List.map_cons, List.sum_cons] at *
  omega
theorem QnG {w : World} {B pb : Nat} {pv : Value} {xs : List Value} {b o : Nat} {k n : Int} {s : ByteArray} {ar r : Ts} {L : List Lev} (hp : Qaj w B pb pv xs) (hv : PV (⟨b, o, .cons k n s ar r⟩ :: L) xs) (hn : QJ (⟨b, o, .cons k n s ar r⟩ :: L) ≤ 1073741824) :
  Calls Tryz.prog 134 #[.pointer (some ⟨pb, 0, none⟩)] w fun e w' => e = .returned (.pointer (some ⟨b, o, none⟩)) ∧
   ∃ pv' xs', Qaj w' B pb pv' xs' ∧ PV (push r b (o + 4) L) xs' ∧ pv'.ownBlock = pv.ownBlock ∧ Chg (fun k => k = pb ∨ pv.ownBlock = some k) w w' := by
 have hle := hv.le
 obtain ⟨ys, cap, rfl, hcap, _, hys⟩ := hv
 have hyl := hys.length
 have hrl := r.length_le
 simp only [List.length_cons, QJ, List.map_cons, List.sum_cons, Ts.nodes] at hle hn
 simp only [Ts.length] at hp hcap
 cases hr : r.length with
 | zero =>
  rw [hr] at hp
  refine (Qqv hp Ya).mono ?_
  rintro e w' ⟨he, pv', h1, h2, h3⟩
  exact ⟨he, pv', ys, h1, by simpa [push, hr] using hys, h2, h3⟩
 | succ l =>
  rw [hr] at hp hcap
  refine (Qqu hp Ya Ya hcap).mono ?_
  rintro e w' ⟨he, pv', h1, h2, h3⟩
  refine ⟨he, pv', _, h1, ?_, h2, h3⟩
  have e : push r b (o + 4) L = ⟨b, o + 4, r⟩ :: L := by simp [push, hr]
  rw [e]
  exact ⟨ys, cap - 1, by rw [hr], by show r.length ≤ _; omega, by show 0 < r.length; omega, hys⟩
theorem Qm4 {w : World} {B pb : Nat} {pv : Value} {xs : List Value} {A : Option Addr} {c : Nat} {T : Ts} {b o : Nat} {L : List Lev} (hp : Qaj w B pb pv xs) (hv : PV L xs) (hB : B ≤ w.heap.size) (hn : QJ L ≤ 1073741824) (hc : T.length ≤ c) (hA : 0 < T.length → A = some ⟨b, o, none⟩) :
  Calls Tryz.prog 136 #[.pointer (some ⟨pb, 0, none⟩), .slice A T.length c] w fun e w' => e = .returned (.tuple #[]) ∧
   ∃ pv' xs', Qaj w' B pb pv' xs' ∧ PV (push T b o L) xs' ∧ (pv'.ownBlock = pv.ownBlock ∨ ∃ g, pv'.ownBlock = some g ∧ w.heap.size ≤ g) ∧ Chg (fun k => k = pb ∨ pv.ownBlock = some k) w w' := by
 have hle := hv.le
 have hyl := hv.length
 cases hl : T.length with
 | zero =>
  refine (Qs8 _ _ _).mono ?_
  rintro e w' ⟨he, rfl⟩
  exact ⟨he, pv, xs, hp, by simpa [push, hl] using hv, .inl rfl, Chg.refl _ _⟩
 | succ l =>
  refine (Qs7 hp hB Ya).mono ?_
  rintro e w' ⟨he, pv', h1, h2, h3⟩
  refine ⟨he, pv', _, h1, ?_, h2, h3⟩
  have e : push T b o L = ⟨b, o, T⟩ :: L := by simp [push, hl]
  rw [e]
  refine ⟨xs, c, ?_, hc, by show 0 < T.length; omega, hv⟩
  rw [hA Ya, hl]
def Qa1 (vars k n : Int) (s : ByteArray) (l : Nat) : Bool :=
 if k = 0 then decide (0 ≤ n) && decide (n < vars) && decide (s.toList = []) && decide (l = 0)
 else if k = 1 then decide (n = 0) && Qeq s && decide (l = 0)
 else if k = 2 then decide (-1099511627776 ≤ n) && decide (n ≤ 1099511627776) && decide (s.toList = []) && decide (l = 0)
 else if k = 3 then decide (n = 0) && Qeq s && decide (¬ s.toList = [33]) && decide (1 ≤ l) && decide (l ≤ 4)
 else false
theorem Qfe {a b : Bool} (h : a = b) : Ending.returned (.bool a) = .returned (.bool b) := by rw [h]
set_option maxHeartbeats 1000000 in
theorem QlA (vars k n : Int) (s : ByteArray) (A : Option Addr) (l c : Nat) (w : World) :
  Calls Tryz.prog 135 #[.agg #[.int .i64 k, .int .i64 n, .string s, .slice A l c], .int .i64 vars] w fun e w' => e = .returned (.bool (Qa1 vars k n s l)) ∧ Below w.heap.size w w' := by
 by_cases h0 : k = 0
 ·subst h0
  have R := Lib.hid (show Qa1 vars 0 n s l = (decide (0 ≤ n) && decide (n < vars) && decide (s.toList = []) && decide (l = 0)) by simp [Qa1])
  go_enter Tryz.func135, Tryz.ntmps135
  go_wp2_with fail
  all_goals go_ret
  all_goals refine ⟨?_, (Below.refl _ _).alloc (Nat.le_refl _) _⟩
  all_goals rw [R.out]
  all_goals refine Qfe ?_
  all_goals rw [Bool.eq_iff_iff]
  all_goals simp [*]
  all_goals try omega
 have g0 : (k == 0) = false := by simpa using h0
 by_cases h1 : k = 1
 ·subst h1
  have R := Lib.hid (show Qa1 vars 1 n s l = (decide (n = 0) && Qeq s && decide (l = 0)) by simp [Qa1])
  clear h0 g0
  cases hb : Qeq s
  all_goals
   have HB := Lib.hid hb
   clear hb
   go_enter Tryz.func135, Tryz.ntmps135
   go_wp2_with (go_at_call 184; refine (Qld _ _).mono ?_; rintro e w' ⟨rfl, rfl⟩; rw [HB.out])
   all_goals go_ret
   all_goals refine ⟨?_, (Below.refl _ _).alloc (Nat.le_refl _) _⟩
   all_goals rw [R.out, HB.out]
   all_goals refine Qfe ?_
   all_goals rw [Bool.eq_iff_iff]
   all_goals simp [*]
   all_goals try omega
 have g1 : (k == 1) = false := by simpa using h1
 by_cases h2 : k = 2
 ·subst h2
  have R := Lib.hid (show Qa1 vars 2 n s l = (decide (-1099511627776 ≤ n) && decide (n ≤ 1099511627776) && decide (s.toList = []) && decide (l = 0)) by simp [Qa1])
  clear h0 g0 h1 g1
  go_enter Tryz.func135, Tryz.ntmps135
  go_wp2_with fail
  all_goals go_ret
  all_goals refine ⟨?_, (Below.refl _ _).alloc (Nat.le_refl _) _⟩
  all_goals rw [R.out]
  all_goals refine Qfe ?_
  all_goals rw [Bool.eq_iff_iff]
  all_goals simp [*]
  all_goals try omega
 have g2 : (k == 2) = false := by simpa using h2
 by_cases h3 : k = 3
 ·subst h3
  clear h0 g0 h1 g1 h2 g2
  by_cases hn : n = 0
  ·subst hn
   have R := Lib.hid (show Qa1 vars 3 0 s l = (Qeq s && decide (¬ s.toList = [33]) && decide (1 ≤ l) && decide (l ≤ 4)) by simp [Qa1])
   cases hb : Qeq s
   all_goals
    have HB := Lib.hid hb
    clear hb
    go_enter Tryz.func135, Tryz.ntmps135
    go_wp2_with (go_at_call 184; refine (Qld _ _).mono ?_; rintro e w' ⟨rfl, rfl⟩; rw [HB.out])
    all_goals go_ret
    all_goals refine ⟨?_, (Below.refl _ _).alloc (Nat.le_refl _) _⟩
    all_goals rw [R.out, HB.out]
    all_goals refine Qfe ?_
    all_goals rw [Bool.eq_iff_iff]
    all_goals simp [*]
    all_goals try omega
  ·have hn' : (n == 0) = false := by simpa using hn
   have R := Lib.hid (show Qa1 vars 3 n s l = false by simp [Qa1, hn])
   clear hn
   go_enter Tryz.func135, Tryz.ntmps135
   go_wp2_with fail
   go_ret
   exact ⟨by rw [R.out]; rfl, (Below.refl _ _).alloc (Nat.le_refl _) _⟩
 have g3 : (k == 3) = false := by simpa using h3
 have R := Lib.hid (show Qa1 vars k n s l = false by simp [Qa1, h0, h1, h2, h3])
 clear h0 h1 h2 h3
 go_enter Tryz.func135, Tryz.ntmps135
 go_wp2_with fail
 go_ret
 exact ⟨by rw [R.out]; rfl, (Below.refl _ _).alloc (Nat.le_refl _) _⟩
def QmC (w : World) (G : List Nat) (k : Nat) : Prop := k < w.heap.size ∨ k ∈ G
structure V1 (w : World) (G : List Nat) (pb : Nat) (L : List Lev) (pv : Value) (xs : List Value) (wr : World) : Prop where
 path : Qaj wr w.heap.size pb pv xs
 pbl : w.heap.size ≤ pb
 pvs : PV L xs
 lev : ∀ l ∈ L, Seg wr (QmC w G) l.T l.b l.o
 rows : ∀ g ∈ G, ∃ c, Qan wr g 63 c
 chg : Below w.heap.size w wr
section
variable {w wr w' : World} {G : List Nat} {pb : Nat} {L : List Lev} {pv : Value} {xs : List Value}
theorem V1.keep (h : V1 w G pb L pv xs wr) (hc : Chg (fun k => k = pb ∨ pv.ownBlock = some k) wr w') : ∀ k, QmC w G k → k < wr.heap.size → w'.heap[k]? = wr.heap[k]? := by
 intro k hk hl
 refine hc.block k hl fun hS => ?_
 rcases hk with hk | hk
 ·rcases hS with e | e
  ·have := h.pbl; omega
  ·have := (h.path.own.lt _ e).1; omega
 ·obtain ⟨c, hb⟩ := h.rows k hk
  obtain ⟨h1, h2⟩ := h.path.other hb
  exact hS.elim h1 h2
theorem V1.chg' (h : V1 w G pb L pv xs wr) (hc : Chg (fun k => k = pb ∨ pv.ownBlock = some k) wr w') : Below w.heap.size w w' ∧ (∀ g ∈ G, ∃ c, Qan w' g 63 c) := by
 refine ⟨h.chg.trans (hc.below h.chg.size fun k hk _ => ?_), fun g hg => ?_⟩
 ·rcases hk with e | e
  ·have := h.pbl; omega
  ·exact (h.path.own.lt _ e).1
 ·obtain ⟨c, hb⟩ := h.rows g hg
  exact ⟨c, h.path.keep hc hb⟩
theorem V1.aside (h : V1 w G pb L pv xs wr) (hb : Below wr.heap.size wr w') : V1 w G pb L pv xs w' where
 path := h.path.chg (Chg.of_fresh (S := fun _ => False) hb) (fun h => h) fun _ _ h => h
 pbl := h.pbl
 pvs := h.pvs
 lev := fun l hl => (h.lev l hl).below hb
 rows := fun g hg => by
  obtain ⟨c, h1⟩ := h.rows g hg
  exact ⟨c, h1.below hb⟩
 chg := h.chg.trans (hb.mono h.chg.size)
theorem QnO {T : Ts} {b o : Nat} {p : Nat → Prop} (hT : 0 < T.length → Seg wr p T b o) (hL : ∀ l ∈ L, Seg wr p l.T l.b l.o) : ∀ l ∈ push T b o L, Seg wr p l.T l.b l.o := by
 intro l hl
 unfold push at hl
 split at hl
 ·exact hL l hl
 ·rcases List.mem_cons.1 hl with rfl | hl
  ·exact hT Ya
  ·exact hL l hl
theorem V1.next {b o : Nat} {k n : Int} {s : ByteArray} {ar r : Ts} (h : V1 w G pb (⟨b, o, .cons k n s ar r⟩ :: L) pv xs wr) (hn : QJ (⟨b, o, .cons k n s ar r⟩ :: L) ≤ 1048576) :
  Calls Tryz.prog 134 #[.pointer (some ⟨pb, 0, none⟩)] wr fun e w' => e = .returned (.pointer (some ⟨b, o, none⟩)) ∧
   ∃ pv' xs', V1 w G pb (push r b (o + 4) L) pv' xs' w' ∧ Seg w' (QmC w G) (.cons k n s ar r) b o ∧ pv'.ownBlock = pv.ownBlock ∧ Chg (fun k => k = pb ∨ pv.ownBlock = some k) wr w' := by
 refine (QnG h.path h.pvs (Nat.le_trans hn Ya)).mono ?_
 rintro e w' ⟨he, pv', xs', h1, h2, h3, h4⟩
 have hk := h.keep h4
 have hs : Seg w' (QmC w G) (.cons k n s ar r) b o := (h.lev _ (List.mem_cons_self ..)).keep hk
 obtain ⟨h5, h6⟩ := h.chg' h4
 refine ⟨he, pv', xs', ⟨h1, h.pbl, h2, ?_, h6, h5⟩, hs, h3, h4⟩
 exact QnO (fun _ => (QaT.1 hs).2.2.2.2.2) fun l hl => (h.lev l (List.mem_cons_of_mem _ hl)).keep hk
theorem V1.add {T : Ts} {A : Option Addr} {c : Nat} (h : V1 w G pb L pv xs wr) (hv : Sl wr (QmC w G) (.slice A T.length c) T) (hn : QJ L ≤ 1048576) :
  Calls Tryz.prog 136 #[.pointer (some ⟨pb, 0, none⟩), .slice A T.length c] wr fun e w' => e = .returned (.tuple #[]) ∧
   ∃ pv' xs' b o, V1 w G pb (push T b o L) pv' xs' w' ∧ (pv'.ownBlock = pv.ownBlock ∨ ∃ g, pv'.ownBlock = some g ∧ wr.heap.size ≤ g) ∧ Chg (fun k => k = pb ∨ pv.ownBlock = some k) wr w' := by
 obtain ⟨A', c', e, hc, hs⟩ := hv
 simp only [Value.slice.injEq, true_and] at e
 obtain ⟨rfl, rfl⟩ := e
 obtain ⟨b, o, hA⟩ : ∃ b o, 0 < T.length → A = some ⟨b, o, none⟩ ∧ Seg wr (QmC w G) T b o := by
  rcases Nat.eq_zero_or_pos T.length with h | h
  ·exact ⟨0, 0, fun h' => absurd h' Ya⟩
  ·obtain ⟨b, o, h1, h2⟩ := hs h
   exact ⟨b, o, fun _ => ⟨h1, h2⟩⟩
 refine (Qm4 (b := b) (o := o) h.path h.pvs h.chg.size (Nat.le_trans hn Ya) hc fun h => (hA h).1).mono ?_
 rintro e w' ⟨he, pv', xs', h1, h2, h3, h4⟩
 have hk := h.keep h4
 obtain ⟨h5, h6⟩ := h.chg' h4
 refine ⟨he, pv', xs', b, o, ⟨h1, h.pbl, h2, ?_, h6, h5⟩, h3, h4⟩
 exact QnO (fun hp => (hA hp).2.keep hk) fun l hl => (h.lev l hl).keep hk
end
theorem V1.start {w W : World} {G : List Nat} {ga gp pb : Nat} {k n : Int} {s : ByteArray} {A : Option Addr} {c : Nat} {ar : Ts} (hv : Sl w (fun _ => True) (.slice A ar.length c) ar) (hW : Below w.heap.size w W)
  (h1 : Qan W ga 63 #[.int .i64 k, .int .i64 n, .string s, .slice A ar.length c]) (h2 : Qan W gp 23 #[.slice (some ⟨ga, 0, none⟩) 1 1]) (h3 : Qan W pb 182 #[.slice (some ⟨gp, 0, none⟩) 1 1])
  (hG : ga ∈ G) (hr : ∀ g ∈ G, ∃ c, Qan W g 63 c) (hgp : w.heap.size ≤ gp) (hpb : w.heap.size ≤ pb) :
  V1 w G pb [⟨ga, 0, .cons k n s ar .nil⟩] (.slice (some ⟨gp, 0, none⟩) 1 1) [.slice (some ⟨ga, 0, none⟩) 1 1] W := by
 refine ⟨⟨h3, ⟨rfl, .inr ⟨gp, 1, _, rfl, hgp, h2, Nat.le_refl _, by simp [maxLen], rfl, rfl⟩⟩, ?_⟩, hpb, ⟨[], 1, rfl, Nat.le_refl _, Nat.zero_lt_one, rfl⟩, ?_, hr, hW⟩
 ·simp only [Value.ownBlock, ne_eq, Option.some.injEq]
  exact h2.ne_ h3 Yg
 ·intro l hl
  have e : l = ⟨ga, 0, .cons k n s ar .nil⟩ := by simpa using hl
  subst e
  refine QaT.2 ⟨.inr hG, h1.cell 0, h1.cell 1, h1.cell 2, ⟨_, h1.cell 3, ?_⟩, trivial⟩
  exact (hv.imp (q := QmC w G) fun k _ h => .inl h).below hW
def Ts.good (vars : Int) : Ts → Bool
 | .nil => true
 | .cons k n s ar r => Qa1 vars k n s ar.length && ar.good vars && r.good vars
def Qgu (vars : Int) (L : List Lev) : Bool := L.all fun l => l.T.good vars
theorem Qjj (vars : Int) (T : Ts) (b o : Nat) (L : List Lev) : Qgu vars (push T b o L) = (T.good vars && Qgu vars L) := by
 unfold push
 split
 ·rename_i h; rw [Ts.nil_of_length h]; simp [Ts.good]
 ·simp [Qgu]
def Qoo (w : World) (G : List Nat) (pb : Nat) (T : Ts) (vars : Int) (g : Nat) (wr : World) : Prop :=
 ∃ L pv xs, V1 w G pb L pv xs wr ∧ g = QJ L ∧ QJ L ≤ T.nodes ∧ T.good vars = Qgu vars L
set_option maxHeartbeats 400000 in
theorem Qgt (k n vars : Int) (s : ByteArray) (ar : Ts) (v : Value) (w : World) (hv : Sl w (fun _ => True) v ar) (hn : ar.nodes < 1048576) :
  Calls Tryz.prog 86 #[.agg #[.int .i64 k, .int .i64 n, .string s, v], .int .i64 vars] w fun e w' => e = .returned (.bool ((Ts.cons k n s ar .nil).good vars)) ∧ Below w.heap.size w w' := by
 obtain ⟨A, c, rfl, hs⟩ := hv.form
 go_enter Tryz.func86, Tryz.ntmps86
 go_wp2_with (go_at_call 133; refine (QmD _ _ _ _ _ _ _).mono ?_; rintro e w1 ⟨rfl, rfl⟩)
 have hW : Below w.heap.size w (((((w.alloc (.cells #[.int .i64 k, .int .i64 n, .string s, .slice A ar.length c] 63)).alloc (.cells #[.int .i64 k, .int .i64 n, .string s, .slice A ar.length c] 63)).alloc (.cells #[.int .i64 k, .int .i64 n, .string s, .slice A ar.length c] 63)).alloc (.cells #[.slice (some ⟨w.heap.size + 1 + 1, 0, none⟩) 1 1] 23)).alloc (.cells #[.slice (some ⟨w.heap.size + 1 + 1 + 1, 0, none⟩) 1 1] 182)) := (((((Below.refl _ _).alloc (Nat.le_refl _) _).alloc Yd _).alloc Yh _).alloc Yh _).alloc Yh _
 have hv0 : V1 w [w.heap.size + 1 + 1] (w.heap.size + 1 + 1 + 1 + 1) [⟨w.heap.size + 1 + 1, 0, .cons k n s ar .nil⟩] (.slice (some ⟨w.heap.size + 1 + 1 + 1, 0, none⟩) 1 1) [.slice (some ⟨w.heap.size + 1 + 1, 0, none⟩) 1 1] (((((w.alloc (.cells #[.int .i64 k, .int .i64 n, .string s, .slice A ar.length c] 63)).alloc (.cells #[.int .i64 k, .int .i64 n, .string s, .slice A ar.length c] 63)).alloc (.cells #[.int .i64 k, .int .i64 n, .string s, .slice A ar.length c] 63)).alloc (.cells #[.slice (some ⟨w.heap.size + 1 + 1, 0, none⟩) 1 1] 23)).alloc (.cells #[.slice (some ⟨w.heap.size + 1 + 1 + 1, 0, none⟩) 1 1] 182)) := by
  have b1 := ((Qan.new ((w.alloc (.cells #[.int .i64 k, .int .i64 n, .string s, .slice A ar.length c] 63)).alloc (.cells #[.int .i64 k, .int .i64 n, .string s, .slice A ar.length c] 63)) 63 #[.int .i64 k, .int .i64 n, .string s, .slice A ar.length c]).alloc (.cells #[.slice (some ⟨w.heap.size + 1 + 1, 0, none⟩) 1 1] 23)).alloc (.cells #[.slice (some ⟨w.heap.size + 1 + 1 + 1, 0, none⟩) 1 1] 182)
  have b2 := ((Qan.new (((w.alloc (.cells #[.int .i64 k, .int .i64 n, .string s, .slice A ar.length c] 63)).alloc (.cells #[.int .i64 k, .int .i64 n, .string s, .slice A ar.length c] 63)).alloc (.cells #[.int .i64 k, .int .i64 n, .string s, .slice A ar.length c] 63)) 23 #[.slice (some ⟨w.heap.size + 1 + 1, 0, none⟩) 1 1])).alloc (.cells #[.slice (some ⟨w.heap.size + 1 + 1 + 1, 0, none⟩) 1 1] 182)
  have b3 := Qan.new ((((w.alloc (.cells #[.int .i64 k, .int .i64 n, .string s, .slice A ar.length c] 63)).alloc (.cells #[.int .i64 k, .int .i64 n, .string s, .slice A ar.length c] 63)).alloc (.cells #[.int .i64 k, .int .i64 n, .string s, .slice A ar.length c] 63)).alloc (.cells #[.slice (some ⟨w.heap.size + 1 + 1, 0, none⟩) 1 1] 23)) 182 #[.slice (some ⟨w.heap.size + 1 + 1 + 1, 0, none⟩) 1 1]
  simp only [World.size_alloc] at b1 b2 b3
  exact V1.start hs hW b1 b2 b3 Yd (fun g hg => by
   have e : g = w.heap.size + 1 + 1 := by simpa using hg
   subst e; exact ⟨_, b1⟩) Ya Ya
 have h0 : Qoo w [w.heap.size + 1 + 1] (w.heap.size + 1 + 1 + 1 + 1) (.cons k n s ar .nil) vars (ar.nodes + 1) (((((w.alloc (.cells #[.int .i64 k, .int .i64 n, .string s, .slice A ar.length c] 63)).alloc (.cells #[.int .i64 k, .int .i64 n, .string s, .slice A ar.length c] 63)).alloc (.cells #[.int .i64 k, .int .i64 n, .string s, .slice A ar.length c] 63)).alloc (.cells #[.slice (some ⟨w.heap.size + 1 + 1, 0, none⟩) 1 1] 23)).alloc (.cells #[.slice (some ⟨w.heap.size + 1 + 1 + 1, 0, none⟩) 1 1] 182)) :=
  ⟨_, _, _, hv0, by simp [QJ, Ts.nodes], by simp [QJ], by simp [Qgu]⟩
 clear hv0
 go_loopg [] (ar.nodes + 1) (Qoo w [w.heap.size + 1 + 1] (w.heap.size + 1 + 1 + 1 + 1) (.cons k n s ar .nil) vars)
 case atStart => exact h0
 case round =>
  clear h0
  obtain ⟨L, pv, xs, hrel, hg, hsm, hgd⟩ := hrel
  have HG := Lib.hid hg
  have HD := Lib.hid hgd
  have hpx := hrel.pvs.length
  simp only [Ts.nodes] at hsm
  obtain ⟨Ap, cp, hpv⟩ := QgN hrel.path.own
  subst hpv
  have cpb : wr.cell? ⟨w.heap.size + 1 + 1 + 1 + 1, 0, none⟩ = some (.slice Ap xs.length cp) := hrel.path.var.cell 0
  clear hg hgd
  cases L with
  | nil =>
   have hx : xs = [] := hrel.pvs
   subst hx
   have hb := hrel.chg
   clear hrel hpx
   go_wp2_with fail
   go_ret
   exact ⟨by rw [HD.out]; rfl, hb⟩
  | cons l Ls =>
   obtain ⟨b, o, T1⟩ := l
   cases T1 with
   | nil => obtain ⟨_, _, _, _, h, _⟩ := hrel.pvs; simp [Ts.length] at h
   | cons k1 n1 s1 a1 r1 =>
   have hxl : 0 < xs.length := by rw [hpx]; simp
   have hn4 : QJ (⟨b, o, .cons k1 n1 s1 a1 r1⟩ :: Ls) ≤ 1048576 := by omega
   have hn5 : QJ (push r1 b (o + 4) Ls) ≤ 1048576 := by
    rw [QU]
    simp only [QJ, List.map_cons, List.sum_cons, Ts.nodes] at hn4 ⊢
    omega
   go_wp2_with fail
   refine (hrel.next hn4).mono ?_
   rintro e w2 ⟨rfl, pv2, xs2, h2, hseg, _, _⟩
   obtain ⟨_, c0, c1, c2, ⟨v1, c3, hv1⟩, _⟩ := QaT.1 hseg
   obtain ⟨A1, d1, rfl, hv1⟩ := hv1.form
   go_wp2_with fail
   refine (QlA vars k1 n1 s1 A1 a1.length d1 _).mono ?_
   rintro e w3 ⟨rfl, hb3⟩
   have h3 := h2.aside hb3
   have e3 : w3.cell? ⟨b, o + 3, none⟩ = some (.slice A1 a1.length d1) := (hb3.cell (Qbe c3)).trans c3
   have hv3 := hv1.below hb3
   cases hnode : Qa1 vars k1 n1 s1 a1.length with
   | false =>
    have hres : Hid ((Ts.cons k n s ar .nil).good vars = false) := Lib.hid (by rw [HD.out]; simp [Qgu, Ts.good, hnode])
    clear hnode
    go_wp2_with fail
    go_ret
    exact ⟨by rw [hres.out]; rfl, h3.chg⟩
   | true =>
    have hres : Hid ((Ts.cons k n s ar .nil).good vars = (a1.good vars && (r1.good vars && Qgu vars Ls))) := Lib.hid (by rw [HD.out]; simp [Qgu, Ts.good, hnode, Bool.and_assoc])
    clear hnode
    go_wp2_with fail
    refine (h3.add hv3 hn5).mono ?_
    rintro e w4 ⟨rfl, pv4, xs4, b4, o4, h4, _, _⟩
    go_wp2_with fail
    go_roundg (QJ (push a1 b4 o4 (push r1 b (o + 4) Ls)))
    case measure =>
     rw [HG.out, QU, QU]
     simp only [QJ, List.map_cons, List.sum_cons, Ts.nodes]
     omega
    case rel =>
     refine ⟨_, _, _, h4, rfl, ?_, ?_⟩
     ·rw [QU, QU]
      simp only [QJ, List.map_cons, List.sum_cons, Ts.nodes] at hsm ⊢
      omega
     ·rw [hres.out, Qjj, Qjj]
def Qh1 (k : Int) : Bool := decide (k = 1) || decide (k = 3)
def QaG (t : List UInt8) (l : Nat) : Bool :=
 if t = [33] then decide (l = 0) else if t = [116, 114, 117, 101] then decide (l = 0) else if t = [102, 97, 105, 108] then decide (l = 0)
 else if t = [101, 113] then decide (l = 2) else if t = [108, 101, 115, 115] then decide (l = 2) else if t = [97, 100, 100] then decide (l = 3) else false
theorem Qkf (k n : Int) (s : ByteArray) (v : Value) (w : World) : Calls Tryz.prog 84 #[.agg #[.int .i64 k, .int .i64 n, .string s, v]] w fun e w' => e = .returned (.bool (Qh1 k)) ∧ Below w.heap.size w w' := by
 by_cases h1 : k = 1
 ·subst h1
  go_enter Tryz.func84, Tryz.ntmps84
  go_wp2_with fail
  go_ret
  exact ⟨rfl, (Below.refl _ _).alloc (Nat.le_refl _) _⟩
 by_cases h3 : k = 3
 ·subst h3
  go_enter Tryz.func84, Tryz.ntmps84
  go_wp2_with fail
  go_ret
  exact ⟨rfl, (Below.refl _ _).alloc (Nat.le_refl _) _⟩
 have R := Lib.hid (show Qh1 k = false by simp [Qh1, h1, h3])
 have g1 : (k == 1) = false := by simpa using h1
 have g3 : (k == 3) = false := by simpa using h3
 clear h1 h3
 go_enter Tryz.func84, Tryz.ntmps84
 go_wp2_with fail
 go_ret
 exact ⟨by rw [R.out]; rfl, (Below.refl _ _).alloc (Nat.le_refl _) _⟩
set_option maxHeartbeats 1000000 in
theorem QeV (k n : Int) (s : ByteArray) (A : Option Addr) (l c : Nat) (w : World) : Calls Tryz.prog 75 #[.agg #[.int .i64 k, .int .i64 n, .string s, .slice A l c]] w fun e w' => e = .returned (.bool (QaG s.toList l)) ∧ Below w.heap.size w w' := by
 generalize hr : QaG s.toList l = rb
 have R := Lib.hid hr
 clear hr
 go_enter Tryz.func75, Tryz.ntmps75
 go_wp2_with fail
 all_goals go_ret
 all_goals refine ⟨?_, (Below.refl _ _).alloc (Nat.le_refl _) _⟩
 all_goals rw [← R.out]
 all_goals refine Qfe ?_
 all_goals rw [Bool.eq_iff_iff]
 all_goals simp_all [QaG]
 all_goals try omega
structure VS (lb vb : Nat) (L : Nat) (w : World) : Prop where
 left : Qan w lb 3 #[.int .i64 L]
 fn : Qan w vb 130 #[.func (.func 132) #[] #[.pointer (some ⟨lb, 0, none⟩), .pointer (some ⟨vb, 0, none⟩)]]
 ne : vb ≠ lb
theorem VS.far {lb vb L : Nat} {w w' : World} (h : VS lb vb L w) (hb : Below w.heap.size w w') : VS lb vb L w' := ⟨h.left.below hb, h.fn.below hb, h.ne⟩
def QfI (T : Ts) : Prop := ∀ (k n : Int) (s : ByteArray) (v : Value) (L lb vb B : Nat) (w : World), Sl w (fun k => k < B) v T → B ≤ lb → VS lb vb L w → L ≤ 24 → T.nodes ≤ 1048576 →
    Calls Tryz.prog 132 #[.agg #[.int .i64 k, .int .i64 n, .string s, v], .pointer (some ⟨lb, 0, none⟩), .pointer (some ⟨vb, 0, none⟩)] w fun e w' =>
     e = .returned (.bool (decide (T.nodes + 1 ≤ L))) ∧ (T.nodes + 1 ≤ L → VS lb vb (L - (T.nodes + 1)) w') ∧ Chg (fun k => k = lb) w w'
def QtI (w : World) (T : Ts) (L lb vb : Nat) (g : Nat) (sx : Value) (wr : World) : Prop := ∃ D R : Ts, T = D.app R ∧ g = R.length ∧ sx = .int .i64 D.length ∧ D.nodes + 1 ≤ L ∧ VS lb vb (L - (D.nodes + 1)) wr ∧ Chg (fun k => k = lb) w wr
set_option maxHeartbeats 1000000 in
theorem Qr3 (m : Nat) (ih : ∀ T : Ts, T.nodes < m → QfI T) (T : Ts) (hm : T.nodes ≤ m) : QfI T := by
 intro k n s v L lb vb B w hv hBl hvs hL hn
 obtain ⟨A, c, rfl, hs⟩ := hv.form
 have hle := T.length_le
 have hW : Below w.heap.size w (w.alloc (.cells #[.int .i64 k, .int .i64 n, .string s, .slice A T.length c] 63)) := (Below.refl _ _).alloc (Nat.le_refl _) _
 have hvs1 := hvs.far hW
 have hs1 := hs.below hW
 have bA := Qan.new w 63 #[.int .i64 k, .int .i64 n, .string s, .slice A T.length c]
 have l0 := hvs1.left.cell 0
 have lf := hvs1.left.frozen 0
 simp at l0
 have hlt := hvs.left.lt
 by_cases hL0 : L = 0
 ·subst hL0
  go_enter Tryz.func132, Tryz.ntmps132
  go_wp2_with fail
  go_ret
  exact ⟨rfl, fun h => absurd h Ya, Chg.of_fresh hW⟩
 have hL1 : 0 < L := by omega
 obtain ⟨p0, p1, p2, p3, _⟩ := bA.four
 have hne : w.heap.size ≠ lb := by omega
 go_enter Tryz.func132, Tryz.ntmps132
 go_wp2_with fail
 have hstart : VS lb vb (L - 1) ((w.setCell ⟨lb, 0, none⟩ (.int .i64 ((L : Int) - 1))).alloc (.cells #[.int .i64 k, .int .i64 n, .string s, .slice A T.length c] 63)) := by
  refine ⟨?_, ?_, hvs.ne⟩
  ·have h1 := (hvs.left.set_ 0 (.int .i64 ((L : Int) - 1))).alloc (.cells #[.int .i64 k, .int .i64 n, .string s, .slice A T.length c] 63)
   rw [show ((L - 1 : Nat) : Int) = (L : Int) - 1 by omega]
   exact h1
  ·exact (hvs.fn.far (p := ⟨lb, 0, none⟩) hvs.ne _).alloc _
 have hchg : Chg (fun k => k = lb) w ((w.setCell ⟨lb, 0, none⟩ (.int .i64 ((L : Int) - 1))).alloc (.cells #[.int .i64 k, .int .i64 n, .string s, .slice A T.length c] 63)) :=
  ((Chg.refl (fun k => k = lb) w).setCell (p := ⟨lb, 0, none⟩) (fun _ => rfl) _).alloc _
 have hcall : ∀ (args : Array Value) (x : World), (callFunc 132 args).run Tryz.prog x = .ok (.enter 132 args) x := fun args x => by simp [go_sem]
 generalize ((w.setCell ⟨lb, 0, none⟩ (.int .i64 ((L : Int) - 1))).alloc (.cells #[.int .i64 k, .int .i64 n, .string s, .slice A T.length c] 63)) = W at *
 have h0 : QtI w T L lb vb T.length (.int .i64 0) W := ⟨.nil, T, rfl, rfl, rfl, hL1, hstart, hchg⟩
 clear hstart hchg hvs1 bA p0 p1 p2 p3 hne l0 lf hs1 hW
 go_loopg [14] T.length (QtI w T L lb vb)
 case atStart => exact h0
 case round =>
  clear h0
  obtain ⟨D, R, hT, hg, rfl, hD, hvr, hc⟩ := hrel
  have HT := Lib.hid hT
  have HG := Lib.hid hg
  clear hT hg
  have hsr : Sl wr (fun k => k < B) (.slice A T.length c) T := hs.chg hc fun k hk => by omega
  cases R with
  | nil =>
   have eD : D = T := by rw [HT.out, Ts.app_nil]
   subst eD
   go_wp2_with fail
   go_ret
   refine ⟨?_, fun _ => hvr, hc⟩
   rw [decide_eq_true hD]; rfl
  | cons k1 n1 s1 ar r =>
   have e1 : D.length < T.length := by rw [HT.out, Ts.length_app]; simp [Ts.length]
   have hnod : T.nodes = D.nodes + (1 + ar.nodes + r.nodes) := by rw [HT.out, Ts.nodes_app]; simp only [Ts.nodes]; omega
   rw [HT.out] at hsr
   rw [show (D.app (.cons k1 n1 s1 ar r)).length = T.length by rw [← HT.out]] at hsr
   obtain ⟨b1, o1, rfl, hq1⟩ := Sl.at_ hsr (by simp [Ts.length])
   obtain ⟨_, c10, c11, c12, ⟨v1, c13, hv1⟩, _⟩ := QaT.1 hq1
   obtain ⟨A1, d1, rfl, hv1⟩ := hv1.form
   clear hq1 hsr
   have hX : Below wr.heap.size wr (wr.alloc (.cells #[.int .i64 k1, .int .i64 n1, .string s1, .slice A1 ar.length d1] 63)) := (Below.refl _ _).alloc (Nat.le_refl _) _
   have hvx := hvr.far hX
   have f0 := hvx.fn.cell 0
   simp at f0
   go_wp2_with fail
   have e2 : ar.nodes < m := by omega
   refine (ih ar e2 k1 n1 s1 _ (L - (D.nodes + 1)) lb vb B _ (hv1.below hX) hBl hvx Ya Ya).mono ?_
   rintro e w2 ⟨rfl, hok, hc2⟩
   have hc3 : Chg (fun k => k = lb) w w2 := (hc.trans (Chg.of_fresh (S := fun k => k = lb) hX) fun _ _ h => h).trans hc2 fun _ _ h => h
   by_cases hx : ar.nodes + 1 ≤ L - (D.nodes + 1)
   ·have hok := hok hx
    rw [decide_eq_true hx]
    have hnx : Hid (VS lb vb (L - ((D.app (.cons k1 n1 s1 ar .nil)).nodes + 1)) w2) := Lib.hid (by
     rw [Ts.nodes_app]
     simp only [Ts.nodes]
     rw [show L - (D.nodes + (ar.nodes + 0 + 1) + 1) = L - (D.nodes + 1) - (ar.nodes + 1) by omega]
     exact hok)
    clear hok
    go_wp2_with fail
    go_roundg r.length
    case measure => rw [HG.out]; simp [Ts.length]
    case rel =>
     refine ⟨D.app (.cons k1 n1 s1 ar .nil), r, ?_, rfl, ?_, ?_, hnx.out, hc3⟩
     ·rw [HT.out, Ts.app_assoc]; rfl
     ·rw [Ts.length_app]; rfl
     ·rw [Ts.nodes_app]; simp only [Ts.nodes]; omega
   ·rw [decide_eq_false hx]
    have hbig : Hid (¬ T.nodes + 1 ≤ L) := Lib.hid Ya
    clear hok
    go_wp2_with fail
    go_ret
    refine ⟨?_, fun h => absurd h hbig.out, hc3⟩
    rw [decide_eq_false hbig.out]; rfl
theorem Qoq (T : Ts) : QfI T := by
 have : ∀ m, ∀ T : Ts, T.nodes < m → QfI T := by
  intro m
  induction m with
  | zero => intro T h; omega
  | succ m ih => intro T h; exact Qr3 m ih T Ya
 exact this _ T (Nat.lt_succ_self _)
set_option maxHeartbeats 1000000 in
theorem QsR (k n : Int) (s : ByteArray) (T : Ts) (v : Value) (w : World) (hv : Sl w (fun _ => True) v T) (hn : T.nodes ≤ 1048576) :
  Calls Tryz.prog 85 #[.agg #[.int .i64 k, .int .i64 n, .string s, v], .int .i64 24] w fun e w' => e = .returned (.bool (decide (T.nodes + 1 ≤ 24))) ∧ Below w.heap.size w w' := by
 obtain ⟨A, c, rfl, hs⟩ := hv.form
 have hs := hs.imp (q := fun k => k < w.heap.size) fun k _ h => h
 have hW : Below w.heap.size w (((w.alloc (.cells #[.int .i64 k, .int .i64 n, .string s, .slice A T.length c] 63)).alloc (.cells #[.int .i64 24] 3)).alloc (.cells #[.func (.func 132) #[] #[.pointer (some ⟨w.heap.size + 1, 0, none⟩), .pointer (some ⟨w.heap.size + 1 + 1, 0, none⟩)]] 130)) := (((Below.refl _ _).alloc (Nat.le_refl _) _).alloc Yd _).alloc Yh _
 have hst : (store ⟨w.heap.size + 1 + 1, 0, none⟩ (.func (.func 132) #[] #[.pointer (some ⟨w.heap.size + 1, 0, none⟩), .pointer (some ⟨w.heap.size + 1 + 1, 0, none⟩)])).run Tryz.prog (((w.alloc (.cells #[.int .i64 k, .int .i64 n, .string s, .slice A T.length c] 63)).alloc (.cells #[.int .i64 24] 3)).alloc (.cells #[.nilFunc] 130)) =
   .ok () (((w.alloc (.cells #[.int .i64 k, .int .i64 n, .string s, .slice A T.length c] 63)).alloc (.cells #[.int .i64 24] 3)).alloc (.cells #[.func (.func 132) #[] #[.pointer (some ⟨w.heap.size + 1, 0, none⟩), .pointer (some ⟨w.heap.size + 1 + 1, 0, none⟩)]] 130)) := by
  have hb := Qan.new ((w.alloc (.cells #[.int .i64 k, .int .i64 n, .string s, .slice A T.length c] 63)).alloc (.cells #[.int .i64 24] 3)) 130 #[.nilFunc]
  have e := Qhl ((w.alloc (.cells #[.int .i64 k, .int .i64 n, .string s, .slice A T.length c] 63)).alloc (.cells #[.int .i64 24] 3)) .nilFunc (.func (.func 132) #[] #[.pointer (some ⟨w.heap.size + 1, 0, none⟩), .pointer (some ⟨w.heap.size + 1 + 1, 0, none⟩)]) 130
  have h := Qev (P := Tryz.prog) (f := .func 132) (x := #[]) (y := #[.pointer (some ⟨w.heap.size + 1, 0, none⟩), .pointer (some ⟨w.heap.size + 1 + 1, 0, none⟩)]) (hb.cell 0) (hb.frozen 0)
  rw [e] at h
  simpa using h
 have hvs : VS (w.heap.size + 1) (w.heap.size + 1 + 1) 24 (((w.alloc (.cells #[.int .i64 k, .int .i64 n, .string s, .slice A T.length c] 63)).alloc (.cells #[.int .i64 24] 3)).alloc (.cells #[.func (.func 132) #[] #[.pointer (some ⟨w.heap.size + 1, 0, none⟩), .pointer (some ⟨w.heap.size + 1 + 1, 0, none⟩)]] 130)) := by
  refine ⟨?_, ?_, by omega⟩
  ·have := (Qan.new (w.alloc (.cells #[.int .i64 k, .int .i64 n, .string s, .slice A T.length c] 63)) 3 #[.int .i64 24]).alloc (.cells #[.func (.func 132) #[] #[.pointer (some ⟨w.heap.size + 1, 0, none⟩), .pointer (some ⟨w.heap.size + 1 + 1, 0, none⟩)]] 130)
   simpa using this
  ·have := Qan.new ((w.alloc (.cells #[.int .i64 k, .int .i64 n, .string s, .slice A T.length c] 63)).alloc (.cells #[.int .i64 24] 3)) 130 #[.func (.func 132) #[] #[.pointer (some ⟨w.heap.size + 1, 0, none⟩), .pointer (some ⟨w.heap.size + 1 + 1, 0, none⟩)]]
   simpa using this
 have hcall : ∀ (args : Array Value) (x : World), (callFunc 132 args).run Tryz.prog x = .ok (.enter 132 args) x := fun args x => by simp [go_sem]
 go_enter Tryz.func85, Tryz.ntmps85
 go_wp2_with fail
 refine (Qoq T k n s _ 24 (w.heap.size + 1) (w.heap.size + 1 + 1) w.heap.size _ (hs.below hW) Ya hvs (Nat.le_refl _) hn).mono ?_
 rintro e w2 ⟨rfl, _, hc⟩
 generalize hfb : decide (T.nodes + 1 ≤ 24) = fb
 have HFB := Lib.hid hfb
 clear hfb
 go_wp2_with fail
 go_ret
 refine ⟨by rw [HFB.out]; rfl, hW.trans (hc.below Yh fun k hk _ => ?_)⟩
 have e : k = w.heap.size + 1 := hk
 omega
def gB (vars k n : Int) (s : ByteArray) (T : Ts) : Bool := Qh1 k && (Ts.cons k n s T .nil).good vars && decide (T.nodes + 1 ≤ 24)
set_option maxHeartbeats 1000000 in
theorem Qgv (vars k n : Int) (s : ByteArray) (T : Ts) (v : Value) (w : World) (hv : Sl w (fun _ => True) v T) (hn : T.nodes < 1048576) :
  Calls Tryz.prog 50 #[.agg #[.int .i64 k, .int .i64 n, .string s, v], .int .i64 vars] w fun e w' => e = .returned (.bool (gB vars k n s T)) ∧ Below w.heap.size w w' := by
 obtain ⟨A, c, rfl, hs⟩ := hv.form
 generalize hr : gB vars k n s T = rb
 have R := Lib.hid hr
 clear hr
 go_enter Tryz.func50, Tryz.ntmps50
 go_wp2_with fail
 have hW0 : Below w.heap.size w (w.alloc (.cells #[.int .i64 k, .int .i64 n, .string s, .slice A T.length c] 63)) := (Below.refl _ _).alloc (Nat.le_refl _) _
 have bA := Qan.new w 63 #[.int .i64 k, .int .i64 n, .string s, .slice A T.length c]
 generalize (w.alloc (.cells #[.int .i64 k, .int .i64 n, .string s, .slice A T.length c] 63)) = W0 at *
 have hs0 := hs.below hW0
 refine (Qkf k n s _ W0).mono ?_
 rintro e w1 ⟨rfl, hb1⟩
 have hW1 := hW0.trans (hb1.mono hW0.size)
 have bA1 := bA.below hb1
 have hs1 := hs0.below hb1
 cases hg : Qh1 k with
 | false =>
  go_wp2_with fail
  go_ret
  refine ⟨?_, hW1⟩
  rw [← R.out, gB, hg]; rfl
 | true =>
  have HGK := Lib.hid hg
  clear hg
  obtain ⟨p0, p1, p2, p3, _⟩ := bA1.four
  go_wp2_with fail
  refine (QsR k n s T _ _ hs1 Ya).mono ?_
  rintro e w2 ⟨rfl, hb2⟩
  have hW2 := hW1.trans (hb2.mono hW1.size)
  have bA2 := bA1.below hb2
  have hs2 := hs1.below hb2
  clear p0 p1 p2 p3
  generalize hf : decide (T.nodes + 1 ≤ 24) = fb
  have HF := Lib.hid hf
  clear hf
  obtain ⟨p0, p1, p2, p3, _⟩ := bA2.four
  cases fb with
  | false =>
   go_wp2_with fail
   go_ret
   refine ⟨?_, hW2⟩
   rw [← R.out, gB, HF.out, Bool.and_false]; rfl
  | true =>
   go_wp2_with fail
   refine (Qgt k n vars s T _ _ hs2 hn).mono ?_
   rintro e w3 ⟨rfl, hb3⟩
   generalize hq : (Ts.cons k n s T .nil).good vars = qb
   have HQ := Lib.hid hq
   clear hq
   go_wp2_with fail
   go_ret
   refine ⟨?_, hW2.trans (hb3.mono hW2.size)⟩
   rw [← R.out, gB, HGK.out, HF.out, HQ.out, Bool.and_true, Bool.true_and]; rfl
def Ts.goals (vars : Int) : Ts → Bool
 | .nil => true
 | .cons k n s ar r => gB vars k n s ar && r.goals vars
theorem Ts.goals_app (v : Int) (D R : Ts) : (D.app R).goals v = (D.goals v && R.goals v) := by
 induction D with
 | nil => rfl
 | cons k n b ar r _ ih => simp only [Ts.app, Ts.goals, ih, Bool.and_assoc]
def qB (vars : Int) (T : Ts) : Bool := decide (0 ≤ vars) && decide (vars ≤ 8) && decide (T.length ≤ 5) && T.goals vars
def Qon (w : World) (T : Ts) (vars : Int) (g : Nat) (sx : Value) (wr : World) : Prop := ∃ D R : Ts, T = D.app R ∧ g = R.length ∧ sx = .int .i64 D.length ∧ D.goals vars = true ∧ Below w.heap.size w wr
set_option maxHeartbeats 1000000 in
theorem Qfr (vars : Int) (T : Ts) (v : Value) (w : World) (hv : Sl w (fun _ => True) v T) (hn : T.nodes ≤ 1048576) :
  Calls Tryz.prog 29 #[v, .int .i64 vars] w fun e w' => e = .returned (.bool (qB vars T)) ∧ Below w.heap.size w w' := by
 obtain ⟨A, c, rfl, hs⟩ := hv.form
 have hle := T.length_le
 generalize hr : qB vars T = rb
 have R := Lib.hid hr
 clear hr
 by_cases h1 : vars < 0
 ·have hq : Hid (rb = false) := Lib.hid (by rw [← R.out, qB]; simp; omega)
  go_enter Tryz.func29, Tryz.ntmps29
  go_wp2_with fail
  go_ret
  exact ⟨by rw [hq.out]; rfl, Below.refl _ _⟩
 by_cases h2 : 8 < vars
 ·have hq : Hid (rb = false) := Lib.hid (by rw [← R.out, qB]; simp; omega)
  go_enter Tryz.func29, Tryz.ntmps29
  go_wp2_with fail
  go_ret
  exact ⟨by rw [hq.out]; rfl, Below.refl _ _⟩
 by_cases h3 : 5 < T.length
 ·have hq : Hid (rb = false) := Lib.hid (by rw [← R.out, qB]; simp; omega)
  go_enter Tryz.func29, Tryz.ntmps29
  go_wp2_with fail
  go_ret
  exact ⟨by rw [hq.out]; rfl, Below.refl _ _⟩
 have hq : Hid (rb = T.goals vars) := Lib.hid (by rw [← R.out, qB]; simp; omega)
 have hl5 : T.length ≤ 5 := by omega
 have h0 : Qon w T vars T.length (.int .i64 0) w := ⟨.nil, T, rfl, rfl, rfl, rfl, Below.refl _ _⟩
 go_enter Tryz.func29, Tryz.ntmps29
 go_wp2_with fail
 go_loopg [20] T.length (Qon w T vars)
 case atStart => exact h0
 case round =>
  clear h0
  obtain ⟨D, R', hT, hg, rfl, hD, hb⟩ := hrel
  have HT := Lib.hid hT
  have HG := Lib.hid hg
  have HD := Lib.hid hD
  clear hT hg hD
  have hsr := hs.below hb
  cases R' with
  | nil =>
   have eD : D = T := by rw [HT.out, Ts.app_nil]
   subst eD
   go_wp2_with fail
   go_ret
   exact ⟨by rw [hq.out, HD.out]; rfl, hb⟩
  | cons k1 n1 s1 ar r =>
   have e1 : D.length < T.length := by rw [HT.out, Ts.length_app]; simp [Ts.length]
   have hnod : ar.nodes < 1048576 := by have := hn; rw [HT.out, Ts.nodes_app] at this; simp only [Ts.nodes] at this; omega
   rw [HT.out] at hsr
   rw [show (D.app (.cons k1 n1 s1 ar r)).length = T.length by rw [← HT.out]] at hsr
   obtain ⟨b1, o1, rfl, hq1⟩ := Sl.at_ hsr (by simp [Ts.length])
   obtain ⟨_, c10, c11, c12, ⟨v1, c13, hv1⟩, _⟩ := QaT.1 hq1
   obtain ⟨A1, d1, rfl, hv1⟩ := hv1.form
   clear hq1 hsr
   have hX : Below wr.heap.size wr (wr.alloc (.cells #[.int .i64 k1, .int .i64 n1, .string s1, .slice A1 ar.length d1] 63)) := (Below.refl _ _).alloc (Nat.le_refl _) _
   have hX' := hb.trans (hX.mono hb.size)
   go_wp2_with fail
   refine (Qgv vars k1 n1 s1 ar _ _ (hv1.below hX) hnod).mono ?_
   rintro e w2 ⟨rfl, hb2⟩
   have hb3 := hX'.trans (hb2.mono hX'.size)
   generalize hgb : gB vars k1 n1 s1 ar = gb
   have HGB := Lib.hid hgb
   clear hgb
   cases gb with
   | false =>
    go_wp2_with fail
    go_ret
    refine ⟨?_, hb3⟩
    rw [hq.out, HT.out, Ts.goals_app, Ts.goals, HGB.out, Bool.false_and, Bool.and_false]; rfl
   | true =>
    go_wp2_with fail
    go_roundg r.length
    case measure => rw [HG.out]; simp [Ts.length]
    case rel =>
     refine ⟨D.app (.cons k1 n1 s1 ar .nil), r, ?_, rfl, ?_, ?_, hb3⟩
     ·rw [HT.out, Ts.app_assoc]; rfl
     ·rw [Ts.length_app]; rfl
     ·rw [Ts.goals_app, HD.out, Ts.goals, HGB.out]; rfl
end Go.Proofs.YthliapbflkfdiacGreatDoor
