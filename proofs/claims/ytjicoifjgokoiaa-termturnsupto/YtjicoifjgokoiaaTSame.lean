/-
  term.Same answers whether two terms are alike.
-/
import Derived.Test.YtjicoifjgokoiaaVisit
import Derived.Test.YtjicoifjgokoiaaAlike
import Derived.Deep.RegionHeld3
import Derived.Deep.DeepCutAuto
import Derived.BigQuiet
import Derived.Deep.QuietTactic
namespace Go.Proofs.Ytjicoifjgokoiaa
open Go.RowKit

/-- Two paths that share no block. -/
def Cross (pb : Nat) (pv : Value) (qb : Nat) (qv : Value) : Prop := pb ≠ qb ∧ pv.ownBlock ≠ some qb ∧ qv.ownBlock ≠ some pb ∧ ∀ g, pv.ownBlock = some g → qv.ownBlock ≠ some g
theorem Cross.symm {pb qb : Nat} {pv qv : Value} (h : Cross pb pv qb qv) : Cross qb qv pb pv := ⟨h.1.symm, h.2.2.1, h.2.1, fun g h1 h2 => h.2.2.2 g h2 h1⟩
theorem Cross.own {pb qb : Nat} {pv pv' qv qv' : Value} (h : Cross pb pv qb qv) (h1 : pv'.ownBlock = pv.ownBlock) (h2 : qv'.ownBlock = qv.ownBlock) : Cross pb pv' qb qv' := by
  unfold Cross at *; rw [h1, h2]; exact h
section
variable {w wr w' : World} {G : List Nat} {pb qb : Nat} {L M : List Lev} {pv qv pv' : Value} {xs ys : List Value}
theorem V1.cross (hp : V1 w G pb L pv xs wr) (hq : V1 w G qb M qv ys wr) (hX : Cross pb pv qb qv) (hc : Chg (fun k => k = pb ∨ pv.ownBlock = some k) wr w') : V1 w G qb M qv ys w' := by
  obtain ⟨h5, h6⟩ := hp.chg' hc
  have hk := hp.keep hc
  refine ⟨hq.path.chg hc (fun h => ?_) (fun g hg h => ?_), hq.pbl, hq.pvs, fun l hl => (hq.lev l hl).keep hk, h6, h5⟩
  · rcases h with h | h
    · exact hX.1 h.symm
    · exact hX.2.1 h
  · rcases h with h | h
    · subst h; exact hX.2.2.1 hg
    · exact hX.2.2.2 g h hg
theorem Cross.grow (hq : V1 w G qb M qv ys wr) (hX : Cross pb pv qb qv) (h : pv'.ownBlock = pv.ownBlock ∨ ∃ g, pv'.ownBlock = some g ∧ wr.heap.size ≤ g) : Cross pb pv' qb qv := by
  rcases h with h | ⟨g, h, hg⟩
  · exact hX.own h rfl
  · have hl := hq.path.var.lt
    refine ⟨hX.1, ?_, hX.2.2.1, fun g' h1 h2 => ?_⟩
    · rw [h]; intro e; simp at e; omega
    · rw [h] at h1
      simp at h1
      subst h1
      have := (hq.path.own.lt _ h2).2
      omega
end

def Par : List Lev → List Lev → Prop
  | [], [] => True
  | l :: L, m :: M => l.T.length = m.T.length ∧ Par L M
  | _, _ => False
def sameL : List Lev → List Lev → Bool
  | [], [] => true
  | l :: L, m :: M => l.T.same m.T && sameL L M
  | _, _ => false
theorem par_push {T U : Ts} {b o b' o' : Nat} {L M : List Lev} (h : T.length = U.length) (hP : Par L M) : Par (push T b o L) (push U b' o' M) ∧ sameL (push T b o L) (push U b' o' M) = (T.same U && sameL L M) := by
  unfold push
  by_cases e : T.length = 0
  · have e2 : U.length = 0 := by omega
    rw [if_pos e, if_pos e2, Ts.nil_of_length e, Ts.nil_of_length e2]
    exact ⟨hP, by simp [Ts.same]⟩
  · rw [if_neg e, if_neg (by omega)]
    exact ⟨⟨h, hP⟩, rfl⟩

structure V2 (w : World) (G : List Nat) (pb qb : Nat) (L M : List Lev) (pv qv : Value) (xs ys : List Value) (wr : World) : Prop where
  p : V1 w G pb L pv xs wr
  q : V1 w G qb M qv ys wr
  x : Cross pb pv qb qv
  par : Par L M

def SameCut (w : World) (k n : Int) (s : ByteArray) (T : Ts) (k' n' : Int) (s' : ByteArray) (U : Ts) (s5 s6 : Value) (wx : World) : Prop :=
  ∃ (ga gb pb qb : Nat) (pv qv : Value) (xs ys : List Value), s5 = .pointer (some ⟨pb, 0, none⟩) ∧ s6 = .pointer (some ⟨qb, 0, none⟩) ∧ V2 w [ga, gb] pb qb [⟨ga, 0, .cons k n s T .nil⟩] [⟨gb, 0, .cons k' n' s' U .nil⟩] pv qv xs ys wx

def SameLoop (w : World) (G : List Nat) (pb qb : Nat) (res : Bool) (g : Nat) (wr : World) : Prop :=
  ∃ L M pv qv xs ys, V2 w G pb qb L M pv qv xs ys wr ∧ g = nodesOf L ∧ nodesOf L ≤ 1048576 ∧ nodesOf M ≤ 1048576 ∧ sameL L M = res

/-- What newPath makes of a term: where its row and the path's row lie. -/
def Made (W0 w : World) (k n : Int) (s : ByteArray) (x : Value) (t : Value) (g : Nat) : Prop :=
  ∃ ga, t = .slice (some ⟨g, 0, none⟩) 1 1 ∧ Plot w ga 24 #[.int .i64 k, .int .i64 n, .string s, x] ∧ Plot w g 22 #[.slice (some ⟨ga, 0, none⟩) 1 1] ∧ W0.heap.size ≤ ga ∧ W0.heap.size ≤ g
/-- The region that makes the two paths, in whatever order. -/
structure SR (W0 : World) (ba bb : Nat) (k n : Int) (s : ByteArray) (x : Value) (k' n' : Int) (s' : ByteArray) (x' : Value) (va vb : Value) (listed : Array Bool) (a : Act) (w : World) (t5 t6 t9 t10 t11 t12 : Value) (gp gq pb qb : Nat) (y z : Value) : Prop where
  size : listed.size = 8
  frame : a = { tmps := #[va, vb, .pointer (some ⟨ba, 0, none⟩), .pointer (some ⟨bb, 0, none⟩), .bool false, t5, t6, undef, undef, t9, t10, t11, t12, undef, undef, undef, undef, undef, undef, undef, undef, undef, undef, undef, undef, undef, undef, undef, undef, undef, undef, undef, undef, undef, undef, undef, undef, undef, undef, undef, undef, undef, undef, undef, undef, undef, undef, undef, undef, undef, undef, undef, undef, undef, undef, undef, undef, undef, undef, undef, undef, undef, undef, undef, undef, undef, undef, undef, undef, undef, undef, undef], defers := [] }
  chg : Below W0.heap.size W0 w
  l0 : listed.getD 0 false = true → t9 = .agg #[.int .i64 k, .int .i64 n, .string s, x]
  l1 : listed.getD 1 false = true → Made W0 w k n s x t10 gp
  l2 : listed.getD 2 false = true → t11 = .agg #[.int .i64 k', .int .i64 n', .string s', x']
  l3 : listed.getD 3 false = true → Made W0 w k' n' s' x' t12 gq ∧ gp ≠ gq
  l4 : listed.getD 4 false = true → t5 = .pointer (some ⟨pb, 0, none⟩) ∧ W0.heap.size ≤ pb ∧ Plot w pb 61 #[y]
  l5 : listed.getD 5 false = true → t6 = .pointer (some ⟨qb, 0, none⟩) ∧ W0.heap.size ≤ qb ∧ Plot w qb 61 #[z]
  l45 : listed.getD 4 false = true → listed.getD 5 false = true → pb ≠ qb
  l6 : listed.getD 6 false = true → y = t10
  l7 : listed.getD 7 false = true → z = t12
  c6 : listed.getD 6 false = true → listed.getD 1 false = true ∧ listed.getD 4 false = true
  c7 : listed.getD 7 false = true → listed.getD 3 false = true ∧ listed.getD 5 false = true
def SRel (W0 : World) (ba bb : Nat) (k n : Int) (s : ByteArray) (x : Value) (k' n' : Int) (s' : ByteArray) (x' : Value) (va vb : Value) (listed : Array Bool) (a : Act) (w : World) : Prop :=
  ∃ t5 t6 t9 t10 t11 t12 gp gq pb qb y z, SR W0 ba bb k n s x k' n' s' x' va vb listed a w t5 t6 t9 t10 t11 t12 gp gq pb qb y z
theorem Made.alloc {W0 w : World} {k n : Int} {s : ByteArray} {x t : Value} {g : Nat} (h : Made W0 w k n s x t g) (o : Obj) : Made W0 (w.alloc o) k n s x t g := by
  obtain ⟨ga, h1, h2, h3, h4, h5⟩ := h
  exact ⟨ga, h1, h2.alloc o, h3.alloc o, h4, h5⟩
theorem Made.lt {W0 w : World} {k n : Int} {s : ByteArray} {x t : Value} {g : Nat} (h : Made W0 w k n s x t g) : g < w.heap.size := by
  obtain ⟨ga, h1, h2, h3, h4, h5⟩ := h
  exact h3.lt
theorem Made.far {W0 w : World} {k n : Int} {s : ByteArray} {x t : Value} {g pb : Nat} {y u : Value} (h : Made W0 w k n s x t g) (hp : Plot w pb 61 #[y]) : Made W0 (w.setCell ⟨pb, 0, none⟩ u) k n s x t g := by
  obtain ⟨ga, h1, h2, h3, h4, h5⟩ := h
  exact ⟨ga, h1, h2.far (h2.ne_ hp (by decide)) u, h3.far (h3.ne_ hp (by decide)) u, h4, h5⟩
theorem listed_set {listed : Array Bool} {i j : Nat} (h : (listed.setIfInBounds i true).getD j false = true) (hne : i ≠ j) : listed.getD j false = true := by
  rw [getD_set_ne false hne] at h; exact h

theorem two_blks {ws : World} {g g' : Nat} {t t' : TypeId} {a0 a1 a2 a3 b0 b1 b2 b3 : Value} (h : Plot ws g t #[a0, a1, a2, a3]) (h' : Plot ws g' t' #[b0, b1, b2, b3]) :
    ws.cell? ⟨g, 0, none⟩ = some a0 ∧ ws.cell? ⟨g, 1, none⟩ = some a1 ∧ ws.cell? ⟨g, 2, none⟩ = some a2 ∧ ws.cell? ⟨g, 3, none⟩ = some a3 ∧ ws.cell? ⟨g', 0, none⟩ = some b0 ∧ ws.cell? ⟨g', 1, none⟩ = some b1 ∧ ws.cell? ⟨g', 2, none⟩ = some b2 ∧ ws.cell? ⟨g', 3, none⟩ = some b3 :=
  ⟨h.cell 0, h.cell 1, h.cell 2, h.cell 3, h'.cell 0, h'.cell 1, h'.cell 2, h'.cell 3⟩

set_option maxHeartbeats 1000000 in
theorem termSame_any (k n : Int) (s : ByteArray) (T : Ts) (v : Value) (k' n' : Int) (s' : ByteArray) (U : Ts) (v' : Value) (w : World) (hv : Sl w (fun _ => True) v T) (hv' : Sl w (fun _ => True) v' U) (hT : T.nodes < 1048576) (hU : U.nodes < 1048576) :
    Calls Try.prog 9 #[.agg #[.int .i64 k, .int .i64 n, .string s, v], .agg #[.int .i64 k', .int .i64 n', .string s', v']] w fun e w' => e = .returned (.bool (same1 k n s T k' n' s' U)) ∧ Below w.heap.size w w' := by
  obtain ⟨A, c, rfl, hs⟩ := hv.form
  obtain ⟨A', c', rfl, hs'⟩ := hv'.form
  go_enter Try.func9, Try.ntmps9
  go_wp2_with fail
  have hW0 : Below w.heap.size w ((w.alloc (.cells #[.int .i64 k, .int .i64 n, .string s, .slice A T.length c] 24)).alloc (.cells #[.int .i64 k', .int .i64 n', .string s', .slice A' U.length c'] 24)) := ((Below.refl _ _).alloc (Nat.le_refl _) _).alloc (by simp) _
  have bA : Plot ((w.alloc (.cells #[.int .i64 k, .int .i64 n, .string s, .slice A T.length c] 24)).alloc (.cells #[.int .i64 k', .int .i64 n', .string s', .slice A' U.length c'] 24)) w.heap.size 24 #[.int .i64 k, .int .i64 n, .string s, .slice A T.length c] := (Plot.new w _ _).alloc _
  have bB : Plot ((w.alloc (.cells #[.int .i64 k, .int .i64 n, .string s, .slice A T.length c] 24)).alloc (.cells #[.int .i64 k', .int .i64 n', .string s', .slice A' U.length c'] 24)) (w.heap.size + 1) 24 #[.int .i64 k', .int .i64 n', .string s', .slice A' U.length c'] := by
    have := Plot.new (w.alloc (.cells #[.int .i64 k, .int .i64 n, .string s, .slice A T.length c] 24)) 24 #[.int .i64 k', .int .i64 n', .string s', .slice A' U.length c']
    simpa using this
  generalize (w.alloc (.cells #[.int .i64 k, .int .i64 n, .string s, .slice A T.length c] 24)).alloc (.cells #[.int .i64 k', .int .i64 n', .string s', .slice A' U.length c'] 24) = W0 at *
  have hz0 : w.heap.size + 1 < W0.heap.size := bB.lt
  obtain ⟨p0, p1, p2, p3, _⟩ := bA.four
  obtain ⟨q0, q1, q2, q3, _⟩ := bB.four
  go_cut [5, 6] (fun s5 s6 wx => SameCut w k n s T k' n' s' U s5 s6 wx)
  case first =>
    refine wp_region_inv (SRel W0 w.heap.size (w.heap.size + 1) k n s (.slice A T.length c) k' n' s' (.slice A' U.length c') (.agg #[.int .i64 k, .int .i64 n, .string s, .slice A T.length c]) (.agg #[.int .i64 k', .int .i64 n', .string s', .slice A' U.length c'])) (by kernel_rfl) ?S0 ?step ?fin
    case S0 =>
      refine ⟨undef, undef, undef, undef, undef, undef, 0, 0, 0, 0, undef, undef, ⟨rfl, rfl, ⟨rfl, rfl, rfl, Nat.le_refl _, fun _ _ => rfl⟩, ?_, ?_, ?_, ?_, ?_, ?_, ?_, ?_, ?_, ?_, ?_⟩⟩
      all_goals (intro h; try rw [getD_replicate_false] at h; try cases h)
    case step =>
      rintro listed a wr i o ⟨t5, t6, t9, t10, t11, t12, gp, gq, pb, qb, y, z, h⟩ hr ho
      obtain ⟨hun, o', ho', hall⟩ := mem_ready.1 hr
      obtain rfl : o' = o := Option.some.inj (ho'.symm.trans ho)
      have hf := h.frame
      subst hf
      rcases i with _ | _ | _ | _ | _ | _ | _ | _ | i
      · simp only [List.getElem?_toArray, List.getElem?_cons_zero, Option.some.injEq] at ho
        subst ho
        obtain ⟨p0, p1, p2, p3, _⟩ := (bA.below h.chg).four
        go_wp2_with fail
        exact ⟨t5, t6, _, t10, t11, t12, gp, gq, pb, qb, y, z, ⟨by simpa using h.size, rfl, h.chg, fun _ => rfl,
          fun e => h.l1 (listed_set e (by decide)),
          fun e => h.l2 (listed_set e (by decide)),
          fun e => h.l3 (listed_set e (by decide)),
          fun e => h.l4 (listed_set e (by decide)),
          fun e => h.l5 (listed_set e (by decide)),
          fun e e2 => h.l45 (listed_set e (by decide)) (listed_set e2 (by decide)),
          fun e => h.l6 (listed_set e (by decide)),
          fun e => h.l7 (listed_set e (by decide)),
          fun e => ⟨getD_set_true (h.c6 (listed_set e (by decide))).1, getD_set_true (h.c6 (listed_set e (by decide))).2⟩,
          fun e => ⟨getD_set_true (h.c7 (listed_set e (by decide))).1, getD_set_true (h.c7 (listed_set e (by decide))).2⟩⟩⟩
      · simp only [List.getElem?_toArray, List.getElem?_cons_zero, List.getElem?_cons_succ, Option.some.injEq] at ho
        subst ho
        have e9 := h.l0 (hall ⟨0, .data⟩ (by simp) rfl)
        subst e9
        go_wp2_with fail
        refine (newPath_any _ _ _ _ _ _ _).mono ?_
        rintro e w' ⟨rfl, rfl⟩
        have hz := h.chg.size
        have hq : listed.getD 3 false = true → gq < wr.heap.size := fun e => (h.l3 e).1.lt
        have hm : Made W0 (((wr.alloc (.cells #[.int .i64 k, .int .i64 n, .string s, .slice A T.length c] 24)).alloc (.cells #[.int .i64 k, .int .i64 n, .string s, .slice A T.length c] 24)).alloc (.cells #[.slice (some ⟨wr.heap.size + 1, 0, none⟩) 1 1] 22)) k n s (.slice A T.length c) (.slice (some ⟨wr.heap.size + 2, 0, none⟩) 1 1) (wr.heap.size + 2) := by
          have b1 := (Plot.new (wr.alloc (.cells #[.int .i64 k, .int .i64 n, .string s, .slice A T.length c] 24)) 24 #[.int .i64 k, .int .i64 n, .string s, .slice A T.length c]).alloc (.cells #[.slice (some ⟨wr.heap.size + 1, 0, none⟩) 1 1] 22)
          have b2 := Plot.new ((wr.alloc (.cells #[.int .i64 k, .int .i64 n, .string s, .slice A T.length c] 24)).alloc (.cells #[.int .i64 k, .int .i64 n, .string s, .slice A T.length c] 24)) 22 #[.slice (some ⟨wr.heap.size + 1, 0, none⟩) 1 1]
          simp only [World.size_alloc] at b1 b2
          exact ⟨wr.heap.size + 1, rfl, b1, b2, by omega, by omega⟩
        go_wp2_with fail
        exact ⟨t5, t6, _, _, t11, t12, wr.heap.size + 2, gq, pb, qb, y, z, ⟨by simpa using h.size, rfl, ((h.chg.alloc hz _).alloc (by simp; omega) _).alloc (by simp; omega) _, fun e => h.l0 (listed_set e (by decide)),
          fun _ => hm,
          fun e => h.l2 (listed_set e (by decide)),
          fun e => ⟨((((h.l3 (listed_set e (by decide))).1.alloc _).alloc _).alloc _), by have := hq (listed_set e (by decide)); omega⟩,
          fun e => ⟨(h.l4 (listed_set e (by decide))).1, (h.l4 (listed_set e (by decide))).2.1, (((h.l4 (listed_set e (by decide))).2.2.alloc _).alloc _).alloc _⟩,
          fun e => ⟨(h.l5 (listed_set e (by decide))).1, (h.l5 (listed_set e (by decide))).2.1, (((h.l5 (listed_set e (by decide))).2.2.alloc _).alloc _).alloc _⟩,
          fun e e2 => h.l45 (listed_set e (by decide)) (listed_set e2 (by decide)),
          fun e => absurd (h.c6 (listed_set e (by decide))).1 (by rw [getD_both hun]; decide),
          fun e => h.l7 (listed_set e (by decide)),
          fun e => ⟨getD_set_true (h.c6 (listed_set e (by decide))).1, getD_set_true (h.c6 (listed_set e (by decide))).2⟩,
          fun e => ⟨getD_set_true (h.c7 (listed_set e (by decide))).1, getD_set_true (h.c7 (listed_set e (by decide))).2⟩⟩⟩
      · simp only [List.getElem?_toArray, List.getElem?_cons_zero, List.getElem?_cons_succ, Option.some.injEq] at ho
        subst ho
        obtain ⟨p0, p1, p2, p3, _⟩ := (bB.below h.chg).four
        go_wp2_with fail
        exact ⟨t5, t6, t9, t10, _, t12, gp, gq, pb, qb, y, z, ⟨by simpa using h.size, rfl, h.chg, fun e => h.l0 (listed_set e (by decide)),
          fun e => h.l1 (listed_set e (by decide)),
          fun _ => rfl,
          fun e => h.l3 (listed_set e (by decide)),
          fun e => h.l4 (listed_set e (by decide)),
          fun e => h.l5 (listed_set e (by decide)),
          fun e e2 => h.l45 (listed_set e (by decide)) (listed_set e2 (by decide)),
          fun e => h.l6 (listed_set e (by decide)),
          fun e => h.l7 (listed_set e (by decide)),
          fun e => ⟨getD_set_true (h.c6 (listed_set e (by decide))).1, getD_set_true (h.c6 (listed_set e (by decide))).2⟩,
          fun e => ⟨getD_set_true (h.c7 (listed_set e (by decide))).1, getD_set_true (h.c7 (listed_set e (by decide))).2⟩⟩⟩
      · simp only [List.getElem?_toArray, List.getElem?_cons_zero, List.getElem?_cons_succ, Option.some.injEq] at ho
        subst ho
        have e11 := h.l2 (hall ⟨2, .data⟩ (by simp) rfl)
        have hm1 := h.l1 (hall ⟨1, .chain⟩ (by simp) rfl)
        have hgp := hm1.lt
        subst e11
        go_wp2_with fail
        refine (newPath_any _ _ _ _ _ _ _).mono ?_
        rintro e w' ⟨rfl, rfl⟩
        have hz := h.chg.size
        have hm : Made W0 (((wr.alloc (.cells #[.int .i64 k', .int .i64 n', .string s', .slice A' U.length c'] 24)).alloc (.cells #[.int .i64 k', .int .i64 n', .string s', .slice A' U.length c'] 24)).alloc (.cells #[.slice (some ⟨wr.heap.size + 1, 0, none⟩) 1 1] 22)) k' n' s' (.slice A' U.length c') (.slice (some ⟨wr.heap.size + 2, 0, none⟩) 1 1) (wr.heap.size + 2) := by
          have b1 := (Plot.new (wr.alloc (.cells #[.int .i64 k', .int .i64 n', .string s', .slice A' U.length c'] 24)) 24 #[.int .i64 k', .int .i64 n', .string s', .slice A' U.length c']).alloc (.cells #[.slice (some ⟨wr.heap.size + 1, 0, none⟩) 1 1] 22)
          have b2 := Plot.new ((wr.alloc (.cells #[.int .i64 k', .int .i64 n', .string s', .slice A' U.length c'] 24)).alloc (.cells #[.int .i64 k', .int .i64 n', .string s', .slice A' U.length c'] 24)) 22 #[.slice (some ⟨wr.heap.size + 1, 0, none⟩) 1 1]
          simp only [World.size_alloc] at b1 b2
          exact ⟨wr.heap.size + 1, rfl, b1, b2, by omega, by omega⟩
        go_wp2_with fail
        exact ⟨t5, t6, t9, t10, _, _, gp, wr.heap.size + 2, pb, qb, y, z, ⟨by simpa using h.size, rfl, ((h.chg.alloc hz _).alloc (by simp; omega) _).alloc (by simp; omega) _, fun e => h.l0 (listed_set e (by decide)),
          fun _ => ((hm1.alloc _).alloc _).alloc _,
          fun e => h.l2 (listed_set e (by decide)),
          fun e => ⟨hm, by omega⟩,
          fun e => ⟨(h.l4 (listed_set e (by decide))).1, (h.l4 (listed_set e (by decide))).2.1, (((h.l4 (listed_set e (by decide))).2.2.alloc _).alloc _).alloc _⟩,
          fun e => ⟨(h.l5 (listed_set e (by decide))).1, (h.l5 (listed_set e (by decide))).2.1, (((h.l5 (listed_set e (by decide))).2.2.alloc _).alloc _).alloc _⟩,
          fun e e2 => h.l45 (listed_set e (by decide)) (listed_set e2 (by decide)),
          fun e => h.l6 (listed_set e (by decide)),
          fun e => absurd (h.c7 (listed_set e (by decide))).1 (by rw [getD_both hun]; decide),
          fun e => ⟨getD_set_true (h.c6 (listed_set e (by decide))).1, getD_set_true (h.c6 (listed_set e (by decide))).2⟩,
          fun e => ⟨getD_set_true (h.c7 (listed_set e (by decide))).1, getD_set_true (h.c7 (listed_set e (by decide))).2⟩⟩⟩
      · simp only [List.getElem?_toArray, List.getElem?_cons_zero, List.getElem?_cons_succ, Option.some.injEq] at ho
        subst ho
        have hz := h.chg.size
        go_wp2_with fail
        exact ⟨_, t6, t9, t10, t11, t12, gp, gq, wr.heap.size, qb, .slice none 0 0, z, ⟨by simpa using h.size, rfl, h.chg.alloc hz _, fun e => h.l0 (listed_set e (by decide)),
          fun e => (h.l1 (listed_set e (by decide))).alloc _,
          fun e => h.l2 (listed_set e (by decide)),
          fun e => ⟨(h.l3 (listed_set e (by decide))).1.alloc _, (h.l3 (listed_set e (by decide))).2⟩,
          fun _ => ⟨rfl, hz, Plot.new wr _ _⟩,
          fun e => ⟨(h.l5 (listed_set e (by decide))).1, (h.l5 (listed_set e (by decide))).2.1, (h.l5 (listed_set e (by decide))).2.2.alloc _⟩,
          fun _ e => (by have := (h.l5 (listed_set e (by decide))).2.2.lt; omega),
          fun e => absurd (h.c6 (listed_set e (by decide))).2 (by rw [getD_both hun]; decide),
          fun e => h.l7 (listed_set e (by decide)),
          fun e => ⟨getD_set_true (h.c6 (listed_set e (by decide))).1, getD_set_true (h.c6 (listed_set e (by decide))).2⟩,
          fun e => ⟨getD_set_true (h.c7 (listed_set e (by decide))).1, getD_set_true (h.c7 (listed_set e (by decide))).2⟩⟩⟩
      · simp only [List.getElem?_toArray, List.getElem?_cons_zero, List.getElem?_cons_succ, Option.some.injEq] at ho
        subst ho
        have hz := h.chg.size
        go_wp2_with fail
        exact ⟨t5, _, t9, t10, t11, t12, gp, gq, pb, wr.heap.size, y, .slice none 0 0, ⟨by simpa using h.size, rfl, h.chg.alloc hz _, fun e => h.l0 (listed_set e (by decide)),
          fun e => (h.l1 (listed_set e (by decide))).alloc _,
          fun e => h.l2 (listed_set e (by decide)),
          fun e => ⟨(h.l3 (listed_set e (by decide))).1.alloc _, (h.l3 (listed_set e (by decide))).2⟩,
          fun e => ⟨(h.l4 (listed_set e (by decide))).1, (h.l4 (listed_set e (by decide))).2.1, (h.l4 (listed_set e (by decide))).2.2.alloc _⟩,
          fun _ => ⟨rfl, hz, Plot.new wr _ _⟩,
          fun e _ => (by have := (h.l4 (listed_set e (by decide))).2.2.lt; omega),
          fun e => h.l6 (listed_set e (by decide)),
          fun e => absurd (h.c7 (listed_set e (by decide))).2 (by rw [getD_both hun]; decide),
          fun e => ⟨getD_set_true (h.c6 (listed_set e (by decide))).1, getD_set_true (h.c6 (listed_set e (by decide))).2⟩,
          fun e => ⟨getD_set_true (h.c7 (listed_set e (by decide))).1, getD_set_true (h.c7 (listed_set e (by decide))).2⟩⟩⟩
      · simp only [List.getElem?_toArray, List.getElem?_cons_zero, List.getElem?_cons_succ, Option.some.injEq] at ho
        subst ho
        have q1 := hall ⟨1, .data⟩ (by simp) rfl
        have q4 := hall ⟨4, .data⟩ (by simp) rfl
        have q5 := hall ⟨5, .phase⟩ (by simp) rfl
        have hm1 := h.l1 q1
        obtain ⟨e5, hpb, bpb⟩ := h.l4 q4
        have e10 : t10 = .slice (some ⟨gp, 0, none⟩) 1 1 := by obtain ⟨_, e, _⟩ := hm1; exact e
        have hne := h.l45 q4 q5
        subst e5 e10
        have cc : wr.cell? ⟨pb, 0, none⟩ = some y := bpb.cell 0
        have ff : wr.frozen? ⟨pb, 0, none⟩ = false := bpb.frozen 0
        go_wp2_with fail
        exact ⟨_, t6, t9, _, t11, t12, gp, gq, pb, qb, .slice (some ⟨gp, 0, none⟩) 1 1, z, ⟨by simpa using h.size, rfl, h.chg.setCell hpb _, fun e => h.l0 (listed_set e (by decide)),
          fun e => hm1.far bpb,
          fun e => h.l2 (listed_set e (by decide)),
          fun e => ⟨(h.l3 (listed_set e (by decide))).1.far bpb, (h.l3 (listed_set e (by decide))).2⟩,
          fun _ => ⟨rfl, hpb, bpb.set_ 0 _⟩,
          fun e => ⟨(h.l5 (listed_set e (by decide))).1, (h.l5 (listed_set e (by decide))).2.1, (h.l5 (listed_set e (by decide))).2.2.far (Ne.symm hne) _⟩,
          fun e e2 => h.l45 (listed_set e (by decide)) (listed_set e2 (by decide)),
          fun _ => rfl,
          fun e => h.l7 (listed_set e (by decide)),
          fun _ => ⟨getD_set_true q1, getD_set_true q4⟩,
          fun e => ⟨getD_set_true (h.c7 (listed_set e (by decide))).1, getD_set_true (h.c7 (listed_set e (by decide))).2⟩⟩⟩
      · simp only [List.getElem?_toArray, List.getElem?_cons_zero, List.getElem?_cons_succ, Option.some.injEq] at ho
        subst ho
        have q3 := hall ⟨3, .data⟩ (by simp) rfl
        have q4 := hall ⟨4, .phase⟩ (by simp) rfl
        have q5 := hall ⟨5, .data⟩ (by simp) rfl
        have hm3 := h.l3 q3
        obtain ⟨e6, hqb, bqb⟩ := h.l5 q5
        have e12 : t12 = .slice (some ⟨gq, 0, none⟩) 1 1 := by obtain ⟨⟨_, e, _⟩, _⟩ := hm3; exact e
        have hne := h.l45 q4 q5
        subst e6 e12
        have cc : wr.cell? ⟨qb, 0, none⟩ = some z := bqb.cell 0
        have ff : wr.frozen? ⟨qb, 0, none⟩ = false := bqb.frozen 0
        go_wp2_with fail
        exact ⟨t5, _, t9, t10, t11, _, gp, gq, pb, qb, y, .slice (some ⟨gq, 0, none⟩) 1 1, ⟨by simpa using h.size, rfl, h.chg.setCell hqb _, fun e => h.l0 (listed_set e (by decide)),
          fun e => (h.l1 (listed_set e (by decide))).far bqb,
          fun e => h.l2 (listed_set e (by decide)),
          fun e => ⟨hm3.1.far bqb, hm3.2⟩,
          fun e => ⟨(h.l4 (listed_set e (by decide))).1, (h.l4 (listed_set e (by decide))).2.1, (h.l4 (listed_set e (by decide))).2.2.far hne _⟩,
          fun _ => ⟨rfl, hqb, bqb.set_ 0 _⟩,
          fun e e2 => h.l45 (listed_set e (by decide)) (listed_set e2 (by decide)),
          fun e => h.l6 (listed_set e (by decide)),
          fun _ => rfl,
          fun e => ⟨getD_set_true (h.c6 (listed_set e (by decide))).1, getD_set_true (h.c6 (listed_set e (by decide))).2⟩,
          fun _ => ⟨getD_set_true q3, getD_set_true q5⟩⟩⟩
      · simp at ho
    case fin =>
      rintro listed a wr ⟨t5, t6, t9, t10, t11, t12, gp, gq, pb, qb, y, z, h⟩ hr
      have hal := all_listed (by kernel_rfl) h.size hr
      have hf := h.frame
      subst hf
      obtain ⟨ga, e10, m1, m2, m3, m4⟩ := h.l1 (hal 1 (by decide))
      obtain ⟨⟨gb, e12, m5, m6, m7, m8⟩, hgg⟩ := h.l3 (hal 3 (by decide))
      obtain ⟨e5, hpb, bpb⟩ := h.l4 (hal 4 (by decide))
      obtain ⟨e6, hqb, bqb⟩ := h.l5 (hal 5 (by decide))
      have hne := h.l45 (hal 4 (by decide)) (hal 5 (by decide))
      have ey := h.l6 (hal 6 (by decide))
      have ez := h.l7 (hal 7 (by decide))
      subst ey ez e5 e6 e10 e12
      have hWr : Below w.heap.size w wr := hW0.trans (h.chg.mono hW0.size)
      have hrows : ∀ g ∈ [ga, gb], ∃ c, Plot wr g 24 c := by
        intro g hg
        simp only [List.mem_cons, List.not_mem_nil, or_false] at hg
        rcases hg with rfl | rfl
        · exact ⟨_, m1⟩
        · exact ⟨_, m5⟩
      have hV1 := V1.start (G := [ga, gb]) hs hWr m1 m2 bpb (by simp) hrows (by omega) (by omega)
      have hV2 := V1.start (G := [ga, gb]) hs' hWr m5 m6 bqb (by simp) hrows (by omega) (by omega)
      have hX : Cross pb (.slice (some ⟨gp, 0, none⟩) 1 1) qb (.slice (some ⟨gq, 0, none⟩) 1 1) := by
        refine ⟨hne, ?_, ?_, fun g e1 e2 => ?_⟩
        · intro e; simp [Value.ownBlock] at e; exact m2.ne_ bqb (by decide) e
        · intro e; simp [Value.ownBlock] at e; exact m6.ne_ bpb (by decide) e
        · simp [Value.ownBlock] at e1 e2; omega
      clear h hr hal
      go_wp2_with fail
      go_meet
      exact ⟨ga, gb, pb, qb, _, _, _, _, rfl, rfl, ⟨hV1, hV2, hX, ⟨rfl, trivial⟩⟩⟩
  case rest =>
    obtain ⟨ga, gb, pb, qb, pv, qv, xs, ys, rfl, rfl, h2⟩ := hcut
    have h0 : SameLoop w [ga, gb] pb qb (same1 k n s T k' n' s' U) (T.nodes + 1) wc := by
      refine ⟨_, _, _, _, _, _, h2, by simp [nodesOf, Ts.nodes], by simp [nodesOf, Ts.nodes]; omega, by simp [nodesOf, Ts.nodes]; omega, ?_⟩
      simp [sameL, Ts.same, same1]
    clear h2
    go_wp2_with fail
    go_loopg [] (T.nodes + 1) (SameLoop w [ga, gb] pb qb (same1 k n s T k' n' s' U))
    case atStart => exact h0
    case round =>
      clear h0
      obtain ⟨L, M, pv, qv, xs, ys, hrel, hg, hnL, hnM, hres⟩ := hrel
      have HG := Lib.hid hg
      have HR := Lib.hid hres
      have hpx := hrel.p.pvs.length
      obtain ⟨Ap, cp, hpv⟩ := own_form hrel.p.path.own
      subst hpv
      have cpb : wr.cell? ⟨pb, 0, none⟩ = some (.slice Ap xs.length cp) := hrel.p.path.var.cell 0
      clear hg hres
      cases L with
      | nil =>
        have hx : xs = [] := hrel.p.pvs
        subst hx
        have hM : M = [] := by
          have := hrel.par
          cases M with
          | nil => rfl
          | cons m M => exact this.elim
        subst hM
        have hb := hrel.p.chg
        have hfin : Hid ((same1 k n s T k' n' s' U) = true) := Lib.hid HR.out.symm
        clear hrel hpx
        go_wp2_with fail
        go_ret
        exact ⟨by rw [hfin.out]; rfl, hb⟩
      | cons l Ls =>
        obtain ⟨b1, o1, T1⟩ := l
        cases M with
        | nil => exact hrel.par.elim
        | cons m Ms =>
        obtain ⟨b2, o2, T2⟩ := m
        have hpar := hrel.par
        cases T1 with
        | nil => obtain ⟨_, _, _, _, h, _⟩ := hrel.p.pvs; simp [Ts.length] at h
        | cons k1 n1 s1 a1 r1 =>
        cases T2 with
        | nil => obtain ⟨_, _, _, _, h, _⟩ := hrel.q.pvs; simp [Ts.length] at h
        | cons k2 n2 s2 a2 r2 =>
        have hxl : 0 < xs.length := by rw [hpx]; simp
        have hrr : Hid (r1.length = r2.length ∧ Par Ls Ms) := Lib.hid (by simpa [Par, Ts.length] using hpar)
        have hn5 : nodesOf (push r1 b1 (o1 + 4) Ls) ≤ 1048576 := by
          rw [nodesOf_push]
          simp only [nodesOf, List.map_cons, List.sum_cons, Ts.nodes] at hnL ⊢
          omega
        have hn6 : nodesOf (push r2 b2 (o2 + 4) Ms) ≤ 1048576 := by
          rw [nodesOf_push]
          simp only [nodesOf, List.map_cons, List.sum_cons, Ts.nodes] at hnM ⊢
          omega
        clear hpar
        go_wp2_with fail
        refine (hrel.p.next hnL).mono ?_
        rintro e w2 ⟨rfl, pv2, xs2, hp2, hseg1, ho2, hc2⟩
        have hq2 := hrel.p.cross hrel.q hrel.x hc2
        go_wp2_with fail
        refine (hq2.next hnM).mono ?_
        rintro e w3 ⟨rfl, qv3, ys3, hq3, hseg2, ho3, hc3⟩
        have hX2 : Cross qb qv pb pv2 := (hrel.x.own ho2 rfl).symm
        have hp3 := hq2.cross hp2 hX2 hc3
        have hX3 : Cross pb pv2 qb qv3 := hX2.symm.own rfl ho3
        have hseg1' : Seg w3 (oldOr w [ga, gb]) (.cons k1 n1 s1 a1 r1) b1 o1 := hseg1.keep (hq2.keep hc3)
        obtain ⟨_, c10, c11, c12, ⟨v1, c13, hv1⟩, _⟩ := seg_cons.1 hseg1'
        obtain ⟨_, c20, c21, c22, ⟨v2, c23, hv2⟩, _⟩ := seg_cons.1 hseg2
        obtain ⟨A1, d1, rfl, hv1⟩ := hv1.form
        obtain ⟨A2, d2, rfl, hv2⟩ := hv2.form
        have hbw := hp3.chg
        go_wp2_with fail
        by_cases hk : k1 ≠ k2
        · have hk' : (k1 != k2) = true := by simp [hk]
          have hf : Hid ((same1 k n s T k' n' s' U) = false) := Lib.hid (by rw [← HR.out]; simp [sameL, Ts.same, hk])
          clear hk
          go_quiet (fail)
          go_wp2_with fail
          go_ret
          exact ⟨by rw [hf.out]; rfl, hbw.trans (below_drewN _ _ _)⟩
        obtain rfl : k1 = k2 := by simpa using hk
        by_cases hnn : n1 ≠ n2
        · have hn' : (n1 != n2) = true := by simp [hnn]
          have hf : Hid ((same1 k n s T k' n' s' U) = false) := Lib.hid (by rw [← HR.out]; simp [sameL, Ts.same, hnn])
          clear hnn hk
          go_quiet (fail)
          go_wp2_with fail
          go_ret
          exact ⟨by rw [hf.out]; rfl, hbw.trans (below_drewN _ _ _)⟩
        obtain rfl : n1 = n2 := by simpa using hnn
        by_cases hss : s1 ≠ s2
        · have hs1 : (s1.toList == s2.toList) = false := by simp [str_eq, hss]
          have hf : Hid ((same1 k n s T k' n' s' U) = false) := Lib.hid (by rw [← HR.out]; simp [sameL, Ts.same, hss])
          clear hss hnn hk
          go_quiet (fail)
          go_wp2_with fail
          go_ret
          exact ⟨by rw [hf.out]; rfl, hbw.trans (below_drewN _ _ _)⟩
        obtain rfl : s1 = s2 := by simpa using hss
        by_cases hll : a1.length ≠ a2.length
        · have hl' : ((a1.length : Int) != (a2.length : Int)) = true := by rw [bne_iff_ne]; omega
          have hf : Hid ((same1 k n s T k' n' s' U) = false) := Lib.hid (by
            have : a1.same a2 = false := by rw [Bool.eq_false_iff, ne_eq, Ts.same_iff]; exact fun e => hll (by rw [e])
            rw [← HR.out]; simp [sameL, Ts.same, this])
          clear hll hss hnn hk
          go_quiet (fail)
          go_wp2_with fail
          go_ret
          exact ⟨by rw [hf.out]; rfl, hbw.trans (below_drewN _ _ _)⟩
        have hl' : ((a1.length : Int) != (a2.length : Int)) = false := by rw [bne_eq_false_iff_eq]; omega
        have HL : Hid (a1.length = a2.length) := Lib.hid (by simpa using hll)
        clear hll hss hnn hk
        go_quiet (fail)
        have hp4 := hp3.aside (below_drewN _ w3 nq)
        have hq4 := hq3.aside (below_drewN _ w3 nq)
        have hv14 := hv1.below (below_drewN _ w3 nq)
        have hv24 := hv2.below (below_drewN _ w3 nq)
        go_wp2_with fail
        refine (hp4.add hv14 hn5).mono ?_
        rintro e w5 ⟨rfl, pv5, xs5, b5, o5, hp5, hat5, hc5⟩
        have hX5 := Cross.grow hq4 hX3 hat5
        have hq5 := hp4.cross hq4 hX3 hc5
        have hv25 : Sl w5 (oldOr w [ga, gb]) (.slice A2 a2.length d2) a2 := hv24.keep (hp4.keep hc5)
        have c23' : w5.cell? ⟨b2, o2 + 3, none⟩ = some (.slice A2 a2.length d2) := (World.cell?_of_block (w := w3.drewN nq) (a := ⟨b2, o2 + 3, none⟩) (hp4.keep hc5 b2 (seg_cons.1 hseg2).1 (lt_of_cell (w := w3.drewN nq) (a := ⟨b2, o2 + 3, none⟩) c23))).trans c23
        clear hat5
        go_wp2_with fail
        refine (hq5.add hv25 hn6).mono ?_
        rintro e w6 ⟨rfl, qv6, ys6, b6, o6, hq6, hat6, hc6⟩
        have hp6 := hq5.cross hp5 hX5.symm hc6
        have hX6 := (Cross.grow hp5 hX5.symm hat6).symm
        clear hat6
        go_wp2_with fail
        go_roundg (nodesOf (push a1 b5 o5 (push r1 b1 (o1 + 4) Ls)))
        case measure =>
          rw [HG.out, nodesOf_push, nodesOf_push]
          simp only [nodesOf, List.map_cons, List.sum_cons, Ts.nodes]
          omega
        case rel =>
          obtain ⟨e1, e2⟩ := par_push (b := b1) (o := o1 + 4) (b' := b2) (o' := o2 + 4) hrr.out.1 hrr.out.2
          obtain ⟨e3, e4⟩ := par_push (b := b5) (o := o5) (b' := b6) (o' := o6) HL.out e1
          refine ⟨_, _, _, _, _, _, ⟨hp6, hq6, hX6, e3⟩, rfl, ?_, ?_, ?_⟩
          · rw [nodesOf_push, nodesOf_push]
            simp only [nodesOf, List.map_cons, List.sum_cons, Ts.nodes] at hnL ⊢
            omega
          · rw [nodesOf_push, nodesOf_push]
            simp only [nodesOf, List.map_cons, List.sum_cons, Ts.nodes] at hnM ⊢
            omega
          · rw [e4, e2, ← HR.out]
            simp [sameL, Ts.same, Bool.and_assoc]
end Go.Proofs.Ytjicoifjgokoiaa
