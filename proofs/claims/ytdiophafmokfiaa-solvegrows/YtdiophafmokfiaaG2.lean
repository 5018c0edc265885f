/- Visit, Built, Fits, Goals, Query, Clause, Program, Nums, Ren, Rename: texts that follow one another, laid into one file. -/
import Derived.Test.YtdiophafmokfiaaG1
import Derived.Test.YtdiophafmokfiaaG0
import Derived.Test.YtdiophafmokfiaaRows
import Derived.Deep.LoopGhost
import Derived.Deep.QuietTactic
import Derived.BigQuiet
import Derived.StillTailTactics
import Derived.Deep.RegionLaw
import Derived.Deep.DeepCutAuto
namespace Go.Proofs.Ytdiophafmokfiaa
open Go.RowKit

/-- Blocks that were there when the call began, or are one of G. -/
def oldOr (w : World) (G : List Nat) (k : Nat) : Prop := k < w.heap.size ∨ k ∈ G
/-- One path of the call's own, whose levels lie in old blocks or in G's. -/
structure V1 (w : World) (G : List Nat) (pb : Nat) (L : List Lev) (pv : Value) (xs : List Value) (wr : World) : Prop where
  path : IsPath wr w.heap.size pb pv xs
  pbl : w.heap.size ≤ pb
  pvs : PV L xs
  lev : ∀ l ∈ L, Seg wr (oldOr w G) l.T l.b l.o
  rows : ∀ g ∈ G, ∃ c, Plot wr g 24 c
  chg : Below w.heap.size w wr

section
variable {w wr w' : World} {G : List Nat} {pb : Nat} {L : List Lev} {pv : Value} {xs : List Value}
theorem V1.keep (h : V1 w G pb L pv xs wr) (hc : Chg (fun k => k = pb ∨ pv.ownBlock = some k) wr w') : ∀ k, oldOr w G k → k < wr.heap.size → w'.heap[k]? = wr.heap[k]? := by
  intro k hk hl
  refine hc.block k hl fun hS => ?_
  rcases hk with hk | hk
  · rcases hS with e | e
    · have := h.pbl; omega
    · have := (h.path.own.lt _ e).1; omega
  · obtain ⟨c, hb⟩ := h.rows k hk
    obtain ⟨h1, h2⟩ := h.path.other hb
    exact hS.elim h1 h2
theorem V1.chg' (h : V1 w G pb L pv xs wr) (hc : Chg (fun k => k = pb ∨ pv.ownBlock = some k) wr w') : Below w.heap.size w w' ∧ (∀ g ∈ G, ∃ c, Plot w' g 24 c) := by
  refine ⟨h.chg.trans (hc.below h.chg.size fun k hk _ => ?_), fun g hg => ?_⟩
  · rcases hk with e | e
    · have := h.pbl; omega
    · exact (h.path.own.lt _ e).1
  · obtain ⟨c, hb⟩ := h.rows g hg
    exact ⟨c, h.path.keep hc hb⟩
/-- Any other change that leaves the path and the levels alone. -/
theorem V1.aside (h : V1 w G pb L pv xs wr) (hb : Below wr.heap.size wr w') : V1 w G pb L pv xs w' where
  path := h.path.chg (Chg.of_fresh (S := fun _ => False) hb) (fun h => h) fun _ _ h => h
  pbl := h.pbl
  pvs := h.pvs
  lev := fun l hl => (h.lev l hl).below hb
  rows := fun g hg => by
    obtain ⟨c, h1⟩ := h.rows g hg
    exact ⟨c, h1.below hb⟩
  chg := h.chg.trans (hb.mono h.chg.size)

theorem lev_push {T : Ts} {b o : Nat} {p : Nat → Prop} (hT : 0 < T.length → Seg wr p T b o) (hL : ∀ l ∈ L, Seg wr p l.T l.b l.o) : ∀ l ∈ push T b o L, Seg wr p l.T l.b l.o := by
  intro l hl
  unfold push at hl
  split at hl
  · exact hL l hl
  · rcases List.mem_cons.1 hl with rfl | hl
    · exact hT (by omega)
    · exact hL l hl

theorem V1.next {b o : Nat} {k n : Int} {s : ByteArray} {ar r : Ts} (h : V1 w G pb (⟨b, o, .cons k n s ar r⟩ :: L) pv xs wr) (hn : nodesOf (⟨b, o, .cons k n s ar r⟩ :: L) ≤ 1048576) :
    Calls Try.prog 28 #[.pointer (some ⟨pb, 0, none⟩)] wr fun e w' => e = .returned (.pointer (some ⟨b, o, none⟩)) ∧
      ∃ pv' xs', V1 w G pb (push r b (o + 4) L) pv' xs' w' ∧ Seg w' (oldOr w G) (.cons k n s ar r) b o ∧ pv'.ownBlock = pv.ownBlock ∧ Chg (fun k => k = pb ∨ pv.ownBlock = some k) wr w' := by
  refine (next_lev h.path h.pvs hn).mono ?_
  rintro e w' ⟨he, pv', xs', h1, h2, h3, h4⟩
  have hk := h.keep h4
  have hs : Seg w' (oldOr w G) (.cons k n s ar r) b o := (h.lev _ (List.mem_cons_self ..)).keep hk
  obtain ⟨h5, h6⟩ := h.chg' h4
  refine ⟨he, pv', xs', ⟨h1, h.pbl, h2, ?_, h6, h5⟩, hs, h3, h4⟩
  exact lev_push (fun _ => (seg_cons.1 hs).2.2.2.2.2) fun l hl => (h.lev l (List.mem_cons_of_mem _ hl)).keep hk

theorem V1.add {T : Ts} {A : Option Addr} {c : Nat} (h : V1 w G pb L pv xs wr) (hv : Sl wr (oldOr w G) (.slice A T.length c) T) (hn : nodesOf L ≤ 1048576) :
    Calls Try.prog 29 #[.pointer (some ⟨pb, 0, none⟩), .slice A T.length c] wr fun e w' => e = .returned (.tuple #[]) ∧
      ∃ pv' xs' b o, V1 w G pb (push T b o L) pv' xs' w' ∧ (pv'.ownBlock = pv.ownBlock ∨ ∃ g, pv'.ownBlock = some g ∧ wr.heap.size ≤ g) ∧ Chg (fun k => k = pb ∨ pv.ownBlock = some k) wr w' := by
  obtain ⟨A', c', e, hc, hs⟩ := hv
  simp only [Value.slice.injEq, true_and] at e
  obtain ⟨rfl, rfl⟩ := e
  obtain ⟨b, o, hA⟩ : ∃ b o, 0 < T.length → A = some ⟨b, o, none⟩ ∧ Seg wr (oldOr w G) T b o := by
    rcases Nat.eq_zero_or_pos T.length with h | h
    · exact ⟨0, 0, fun h' => absurd h' (by omega)⟩
    · obtain ⟨b, o, h1, h2⟩ := hs h
      exact ⟨b, o, fun _ => ⟨h1, h2⟩⟩
  refine (add_lev (b := b) (o := o) h.path h.pvs h.chg.size hn hc fun h => (hA h).1).mono ?_
  rintro e w' ⟨he, pv', xs', h1, h2, h3, h4⟩
  have hk := h.keep h4
  obtain ⟨h5, h6⟩ := h.chg' h4
  refine ⟨he, pv', xs', b, o, ⟨h1, h.pbl, h2, ?_, h6, h5⟩, h3, h4⟩
  exact lev_push (fun hp => (hA hp).2.keep hk) fun l hl => (h.lev l hl).keep hk
end

theorem V1.start {w W : World} {G : List Nat} {ga gp pb : Nat} {k n : Int} {s : ByteArray} {A : Option Addr} {c : Nat} {ar : Ts} (hv : Sl w (fun _ => True) (.slice A ar.length c) ar) (hW : Below w.heap.size w W)
    (h1 : Plot W ga 24 #[.int .i64 k, .int .i64 n, .string s, .slice A ar.length c]) (h2 : Plot W gp 22 #[.slice (some ⟨ga, 0, none⟩) 1 1]) (h3 : Plot W pb 51 #[.slice (some ⟨gp, 0, none⟩) 1 1])
    (hG : ga ∈ G) (hr : ∀ g ∈ G, ∃ c, Plot W g 24 c) (hgp : w.heap.size ≤ gp) (hpb : w.heap.size ≤ pb) :
    V1 w G pb [⟨ga, 0, .cons k n s ar .nil⟩] (.slice (some ⟨gp, 0, none⟩) 1 1) [.slice (some ⟨ga, 0, none⟩) 1 1] W := by
  refine ⟨⟨h3, ⟨rfl, .inr ⟨gp, 1, _, rfl, hgp, h2, Nat.le_refl _, by simp [maxLen], rfl, rfl⟩⟩, ?_⟩, hpb, ⟨[], 1, rfl, Nat.le_refl _, Nat.zero_lt_one, rfl⟩, ?_, hr, hW⟩
  · simp only [Value.ownBlock, ne_eq, Option.some.injEq]
    exact h2.ne_ h3 (by decide)
  · intro l hl
    have e : l = ⟨ga, 0, .cons k n s ar .nil⟩ := by simpa using hl
    subst e
    refine seg_cons.2 ⟨.inr hG, h1.cell 0, h1.cell 1, h1.cell 2, ⟨_, h1.cell 3, ?_⟩, trivial⟩
    exact (hv.imp (q := oldOr w G) fun k _ h => .inl h).below hW

/-- Is every term good, to the bottom? -/
def Ts.good (vars : Int) : Ts → Bool
  | .nil => true
  | .cons k n s ar r => nodeB vars k n s ar.length && ar.good vars && r.good vars
def goodL (vars : Int) (L : List Lev) : Bool := L.all fun l => l.T.good vars
theorem goodL_push (vars : Int) (T : Ts) (b o : Nat) (L : List Lev) : goodL vars (push T b o L) = (T.good vars && goodL vars L) := by
  unfold push
  split
  · rename_i h; rw [Ts.nil_of_length h]; simp [Ts.good]
  · simp [goodL]

def GoodLoop (w : World) (G : List Nat) (pb : Nat) (T : Ts) (vars : Int) (g : Nat) (wr : World) : Prop :=
  ∃ L pv xs, V1 w G pb L pv xs wr ∧ g = nodesOf L ∧ nodesOf L ≤ T.nodes ∧ T.good vars = goodL vars L

set_option maxHeartbeats 400000 in
theorem good_any (k n vars : Int) (s : ByteArray) (ar : Ts) (v : Value) (w : World) (hv : Sl w (fun _ => True) v ar) (hn : ar.nodes < 1048576) :
    Calls Try.prog 19 #[.agg #[.int .i64 k, .int .i64 n, .string s, v], .int .i64 vars] w fun e w' => e = .returned (.bool ((Ts.cons k n s ar .nil).good vars)) ∧ Below w.heap.size w w' := by
  obtain ⟨A, c, rfl, hs⟩ := hv.form
  go_enter Try.func19, Try.ntmps19
  go_wp2_with (go_at_call 27; refine (newPath_any _ _ _ _ _ _ _).mono ?_; rintro e w1 ⟨rfl, rfl⟩)
  have hW : Below w.heap.size w (((((w.alloc (.cells #[.int .i64 k, .int .i64 n, .string s, .slice A ar.length c] 24)).alloc (.cells #[.int .i64 k, .int .i64 n, .string s, .slice A ar.length c] 24)).alloc (.cells #[.int .i64 k, .int .i64 n, .string s, .slice A ar.length c] 24)).alloc (.cells #[.slice (some ⟨w.heap.size + 1 + 1, 0, none⟩) 1 1] 22)).alloc (.cells #[.slice (some ⟨w.heap.size + 1 + 1 + 1, 0, none⟩) 1 1] 51)) := (((((Below.refl _ _).alloc (Nat.le_refl _) _).alloc (by simp) _).alloc (by simp; omega) _).alloc (by simp; omega) _).alloc (by simp; omega) _
  have hv0 : V1 w [w.heap.size + 1 + 1] (w.heap.size + 1 + 1 + 1 + 1) [⟨w.heap.size + 1 + 1, 0, .cons k n s ar .nil⟩] (.slice (some ⟨w.heap.size + 1 + 1 + 1, 0, none⟩) 1 1) [.slice (some ⟨w.heap.size + 1 + 1, 0, none⟩) 1 1] (((((w.alloc (.cells #[.int .i64 k, .int .i64 n, .string s, .slice A ar.length c] 24)).alloc (.cells #[.int .i64 k, .int .i64 n, .string s, .slice A ar.length c] 24)).alloc (.cells #[.int .i64 k, .int .i64 n, .string s, .slice A ar.length c] 24)).alloc (.cells #[.slice (some ⟨w.heap.size + 1 + 1, 0, none⟩) 1 1] 22)).alloc (.cells #[.slice (some ⟨w.heap.size + 1 + 1 + 1, 0, none⟩) 1 1] 51)) := by
    have b1 := ((Plot.new ((w.alloc (.cells #[.int .i64 k, .int .i64 n, .string s, .slice A ar.length c] 24)).alloc (.cells #[.int .i64 k, .int .i64 n, .string s, .slice A ar.length c] 24)) 24 #[.int .i64 k, .int .i64 n, .string s, .slice A ar.length c]).alloc (.cells #[.slice (some ⟨w.heap.size + 1 + 1, 0, none⟩) 1 1] 22)).alloc (.cells #[.slice (some ⟨w.heap.size + 1 + 1 + 1, 0, none⟩) 1 1] 51)
    have b2 := ((Plot.new (((w.alloc (.cells #[.int .i64 k, .int .i64 n, .string s, .slice A ar.length c] 24)).alloc (.cells #[.int .i64 k, .int .i64 n, .string s, .slice A ar.length c] 24)).alloc (.cells #[.int .i64 k, .int .i64 n, .string s, .slice A ar.length c] 24)) 22 #[.slice (some ⟨w.heap.size + 1 + 1, 0, none⟩) 1 1])).alloc (.cells #[.slice (some ⟨w.heap.size + 1 + 1 + 1, 0, none⟩) 1 1] 51)
    have b3 := Plot.new ((((w.alloc (.cells #[.int .i64 k, .int .i64 n, .string s, .slice A ar.length c] 24)).alloc (.cells #[.int .i64 k, .int .i64 n, .string s, .slice A ar.length c] 24)).alloc (.cells #[.int .i64 k, .int .i64 n, .string s, .slice A ar.length c] 24)).alloc (.cells #[.slice (some ⟨w.heap.size + 1 + 1, 0, none⟩) 1 1] 22)) 51 #[.slice (some ⟨w.heap.size + 1 + 1 + 1, 0, none⟩) 1 1]
    simp only [World.size_alloc] at b1 b2 b3
    exact V1.start hs hW b1 b2 b3 (by simp) (fun g hg => by
      have e : g = w.heap.size + 1 + 1 := by simpa using hg
      subst e; exact ⟨_, b1⟩) (by omega) (by omega)
  have h0 : GoodLoop w [w.heap.size + 1 + 1] (w.heap.size + 1 + 1 + 1 + 1) (.cons k n s ar .nil) vars (ar.nodes + 1) (((((w.alloc (.cells #[.int .i64 k, .int .i64 n, .string s, .slice A ar.length c] 24)).alloc (.cells #[.int .i64 k, .int .i64 n, .string s, .slice A ar.length c] 24)).alloc (.cells #[.int .i64 k, .int .i64 n, .string s, .slice A ar.length c] 24)).alloc (.cells #[.slice (some ⟨w.heap.size + 1 + 1, 0, none⟩) 1 1] 22)).alloc (.cells #[.slice (some ⟨w.heap.size + 1 + 1 + 1, 0, none⟩) 1 1] 51)) :=
    ⟨_, _, _, hv0, by simp [nodesOf, Ts.nodes], by simp [nodesOf], by simp [goodL]⟩
  clear hv0
  go_loopg [] (ar.nodes + 1) (GoodLoop w [w.heap.size + 1 + 1] (w.heap.size + 1 + 1 + 1 + 1) (.cons k n s ar .nil) vars)
  case atStart => exact h0
  case round =>
    clear h0
    obtain ⟨L, pv, xs, hrel, hg, hsm, hgd⟩ := hrel
    have HG := Lib.hid hg
    have HD := Lib.hid hgd
    have hpx := hrel.pvs.length
    simp only [Ts.nodes] at hsm
    obtain ⟨Ap, cp, hpv⟩ := own_form hrel.path.own
    subst hpv
    have cpb : wr.cell? ⟨w.heap.size + 1 + 1 + 1 + 1, 0, none⟩ = some (.slice Ap xs.length cp) := hrel.path.var.cell 0
    clear hg hgd
    cases L with
    | nil =>
      have hx : xs = [] := hrel.pvs
      subst hx
      have hb := hrel.chg
      clear hrel hpx
      go_wp2_with fail
      go_ret
      exact ⟨by rw [HD.out]; rfl, hb⟩
    | cons l Ls =>
      obtain ⟨b, o, T1⟩ := l
      cases T1 with
      | nil => obtain ⟨_, _, _, _, h, _⟩ := hrel.pvs; simp [Ts.length] at h
      | cons k1 n1 s1 a1 r1 =>
      have hxl : 0 < xs.length := by rw [hpx]; simp
      have hn4 : nodesOf (⟨b, o, .cons k1 n1 s1 a1 r1⟩ :: Ls) ≤ 1048576 := by omega
      have hn5 : nodesOf (push r1 b (o + 4) Ls) ≤ 1048576 := by
        rw [nodesOf_push]
        simp only [nodesOf, List.map_cons, List.sum_cons, Ts.nodes] at hn4 ⊢
        omega
      go_wp2_with fail
      refine (hrel.next hn4).mono ?_
      rintro e w2 ⟨rfl, pv2, xs2, h2, hseg, _, _⟩
      obtain ⟨_, c0, c1, c2, ⟨v1, c3, hv1⟩, _⟩ := seg_cons.1 hseg
      obtain ⟨A1, d1, rfl, hv1⟩ := hv1.form
      go_wp2_with fail
      refine (goodNode_any vars k1 n1 s1 A1 a1.length d1 _).mono ?_
      rintro e w3 ⟨rfl, hb3⟩
      have h3 := h2.aside hb3
      have e3 : w3.cell? ⟨b, o + 3, none⟩ = some (.slice A1 a1.length d1) := (hb3.cell (lt_of_cell c3)).trans c3
      have hv3 := hv1.below hb3
      cases hnode : nodeB vars k1 n1 s1 a1.length with
      | false =>
        have hres : Hid ((Ts.cons k n s ar .nil).good vars = false) := Lib.hid (by rw [HD.out]; simp [goodL, Ts.good, hnode])
        clear hnode
        go_wp2_with fail
        go_ret
        exact ⟨by rw [hres.out]; rfl, h3.chg⟩
      | true =>
        have hres : Hid ((Ts.cons k n s ar .nil).good vars = (a1.good vars && (r1.good vars && goodL vars Ls))) := Lib.hid (by rw [HD.out]; simp [goodL, Ts.good, hnode, Bool.and_assoc])
        clear hnode
        go_wp2_with fail
        refine (h3.add hv3 hn5).mono ?_
        rintro e w4 ⟨rfl, pv4, xs4, b4, o4, h4, _, _⟩
        go_wp2_with fail
        go_roundg (nodesOf (push a1 b4 o4 (push r1 b (o + 4) Ls)))
        case measure =>
          rw [HG.out, nodesOf_push, nodesOf_push]
          simp only [nodesOf, List.map_cons, List.sum_cons, Ts.nodes]
          omega
        case rel =>
          refine ⟨_, _, _, h4, rfl, ?_, ?_⟩
          · rw [nodesOf_push, nodesOf_push]
            simp only [nodesOf, List.map_cons, List.sum_cons, Ts.nodes] at hsm ⊢
            omega
          · rw [hres.out, goodL_push, goodL_push]

def NodesLoop (w : World) (G : List Nat) (pb : Nat) (T : Ts) (g : Nat) (s3 : Value) (wr : World) : Prop :=
  ∃ (L : List Lev) (pv : Value) (xs : List Value) (cnt : Nat), V1 w G pb L pv xs wr ∧ g = nodesOf L ∧ T.nodes = cnt + nodesOf L ∧ s3 = .int .i64 cnt

set_option maxHeartbeats 400000 in
theorem nodes_any (k n : Int) (s : ByteArray) (ar : Ts) (v : Value) (w : World) (hv : Sl w (fun _ => True) v ar) (hn : ar.nodes < 1048576) :
    Calls Try.prog 24 #[.agg #[.int .i64 k, .int .i64 n, .string s, v]] w fun e w' => e = .returned (.int .i64 ((ar.nodes : Int) + 1)) ∧ Below w.heap.size w w' := by
  obtain ⟨A, c, rfl, hs⟩ := hv.form
  go_enter Try.func24, Try.ntmps24
  go_wp2_with (go_at_call 27; refine (newPath_any _ _ _ _ _ _ _).mono ?_; rintro e w1 ⟨rfl, rfl⟩)
  have hW : Below w.heap.size w (((((w.alloc (.cells #[.int .i64 k, .int .i64 n, .string s, .slice A ar.length c] 24)).alloc (.cells #[.int .i64 k, .int .i64 n, .string s, .slice A ar.length c] 24)).alloc (.cells #[.int .i64 k, .int .i64 n, .string s, .slice A ar.length c] 24)).alloc (.cells #[.slice (some ⟨w.heap.size + 1 + 1, 0, none⟩) 1 1] 22)).alloc (.cells #[.slice (some ⟨w.heap.size + 1 + 1 + 1, 0, none⟩) 1 1] 51)) := (((((Below.refl _ _).alloc (Nat.le_refl _) _).alloc (by simp) _).alloc (by simp; omega) _).alloc (by simp; omega) _).alloc (by simp; omega) _
  have hv0 : V1 w [w.heap.size + 1 + 1] (w.heap.size + 1 + 1 + 1 + 1) [⟨w.heap.size + 1 + 1, 0, .cons k n s ar .nil⟩] (.slice (some ⟨w.heap.size + 1 + 1 + 1, 0, none⟩) 1 1) [.slice (some ⟨w.heap.size + 1 + 1, 0, none⟩) 1 1] (((((w.alloc (.cells #[.int .i64 k, .int .i64 n, .string s, .slice A ar.length c] 24)).alloc (.cells #[.int .i64 k, .int .i64 n, .string s, .slice A ar.length c] 24)).alloc (.cells #[.int .i64 k, .int .i64 n, .string s, .slice A ar.length c] 24)).alloc (.cells #[.slice (some ⟨w.heap.size + 1 + 1, 0, none⟩) 1 1] 22)).alloc (.cells #[.slice (some ⟨w.heap.size + 1 + 1 + 1, 0, none⟩) 1 1] 51)) := by
    have b1 := ((Plot.new ((w.alloc (.cells #[.int .i64 k, .int .i64 n, .string s, .slice A ar.length c] 24)).alloc (.cells #[.int .i64 k, .int .i64 n, .string s, .slice A ar.length c] 24)) 24 #[.int .i64 k, .int .i64 n, .string s, .slice A ar.length c]).alloc (.cells #[.slice (some ⟨w.heap.size + 1 + 1, 0, none⟩) 1 1] 22)).alloc (.cells #[.slice (some ⟨w.heap.size + 1 + 1 + 1, 0, none⟩) 1 1] 51)
    have b2 := ((Plot.new (((w.alloc (.cells #[.int .i64 k, .int .i64 n, .string s, .slice A ar.length c] 24)).alloc (.cells #[.int .i64 k, .int .i64 n, .string s, .slice A ar.length c] 24)).alloc (.cells #[.int .i64 k, .int .i64 n, .string s, .slice A ar.length c] 24)) 22 #[.slice (some ⟨w.heap.size + 1 + 1, 0, none⟩) 1 1])).alloc (.cells #[.slice (some ⟨w.heap.size + 1 + 1 + 1, 0, none⟩) 1 1] 51)
    have b3 := Plot.new ((((w.alloc (.cells #[.int .i64 k, .int .i64 n, .string s, .slice A ar.length c] 24)).alloc (.cells #[.int .i64 k, .int .i64 n, .string s, .slice A ar.length c] 24)).alloc (.cells #[.int .i64 k, .int .i64 n, .string s, .slice A ar.length c] 24)).alloc (.cells #[.slice (some ⟨w.heap.size + 1 + 1, 0, none⟩) 1 1] 22)) 51 #[.slice (some ⟨w.heap.size + 1 + 1 + 1, 0, none⟩) 1 1]
    simp only [World.size_alloc] at b1 b2 b3
    exact V1.start hs hW b1 b2 b3 (by simp) (fun g hg => by
      have e : g = w.heap.size + 1 + 1 := by simpa using hg
      subst e; exact ⟨_, b1⟩) (by omega) (by omega)
  have h0 : NodesLoop w [w.heap.size + 1 + 1] (w.heap.size + 1 + 1 + 1 + 1) (.cons k n s ar .nil) (ar.nodes + 1) (.int .i64 0) (((((w.alloc (.cells #[.int .i64 k, .int .i64 n, .string s, .slice A ar.length c] 24)).alloc (.cells #[.int .i64 k, .int .i64 n, .string s, .slice A ar.length c] 24)).alloc (.cells #[.int .i64 k, .int .i64 n, .string s, .slice A ar.length c] 24)).alloc (.cells #[.slice (some ⟨w.heap.size + 1 + 1, 0, none⟩) 1 1] 22)).alloc (.cells #[.slice (some ⟨w.heap.size + 1 + 1 + 1, 0, none⟩) 1 1] 51)) :=
    ⟨_, _, _, 0, hv0, by simp [nodesOf, Ts.nodes], by simp [nodesOf], rfl⟩
  clear hv0
  go_loopg [3] (ar.nodes + 1) (NodesLoop w [w.heap.size + 1 + 1] (w.heap.size + 1 + 1 + 1 + 1) (.cons k n s ar .nil))
  case atStart => exact h0
  case round =>
    clear h0
    obtain ⟨L, pv, xs, cnt, hrel, hg, hsm, rfl⟩ := hrel
    have HG := Lib.hid hg
    have hpx := hrel.pvs.length
    simp only [Ts.nodes, Nat.add_zero] at hsm
    have HS := Lib.hid hsm
    have hcnt : cnt ≤ 1048576 := by omega
    obtain ⟨Ap, cp, hpv⟩ := own_form hrel.path.own
    subst hpv
    have cpb : wr.cell? ⟨w.heap.size + 1 + 1 + 1 + 1, 0, none⟩ = some (.slice Ap xs.length cp) := hrel.path.var.cell 0
    cases L with
    | nil =>
      have hx : xs = [] := hrel.pvs
      subst hx
      have hb := hrel.chg
      have hfin : Hid ((cnt : Int) = (ar.nodes : Int) + 1) := Lib.hid (by simp [nodesOf] at hsm; omega)
      clear hrel hpx hg hsm
      go_wp2_with fail
      go_ret
      exact ⟨by rw [← hfin.out]; rfl, hb⟩
    | cons l Ls =>
      obtain ⟨b, o, T1⟩ := l
      cases T1 with
      | nil => obtain ⟨_, _, _, _, h, _⟩ := hrel.pvs; simp [Ts.length] at h
      | cons k1 n1 s1 a1 r1 =>
      have hxl : 0 < xs.length := by rw [hpx]; simp
      have hn4 : nodesOf (⟨b, o, .cons k1 n1 s1 a1 r1⟩ :: Ls) ≤ 1048576 := by omega
      have hn5 : nodesOf (push r1 b (o + 4) Ls) ≤ 1048576 := by
        rw [nodesOf_push]
        simp only [nodesOf, List.map_cons, List.sum_cons, Ts.nodes] at hn4 ⊢
        omega
      clear hg hsm
      go_wp2_with fail
      refine (hrel.next hn4).mono ?_
      rintro e w2 ⟨rfl, pv2, xs2, h2, hseg, _, _⟩
      obtain ⟨_, c0, c1, c2, ⟨v1, c3, hv1⟩, _⟩ := seg_cons.1 hseg
      obtain ⟨A1, d1, rfl, hv1⟩ := hv1.form
      go_wp2_with fail
      refine (h2.add hv1 hn5).mono ?_
      rintro e w4 ⟨rfl, pv4, xs4, b4, o4, h4, _, _⟩
      go_wp2_with fail
      go_roundg (nodesOf (push a1 b4 o4 (push r1 b (o + 4) Ls)))
      case measure =>
        rw [HG.out, nodesOf_push, nodesOf_push]
        simp only [nodesOf, List.map_cons, List.sum_cons, Ts.nodes]
        omega
      case rel =>
        refine ⟨_, _, _, cnt + 1, h4, rfl, ?_, rfl⟩
        have h := HS.out
        rw [nodesOf_push, nodesOf_push]
        simp only [nodesOf, List.map_cons, List.sum_cons, Ts.nodes] at h ⊢
        omega
end Go.Proofs.Ytdiophafmokfiaa
namespace Go.Proofs.Ytdiophafmokfiaa
open Go.RowKit

def goalB (k : Int) : Bool := decide (k = 1) || decide (k = 3)
/-- Is it the S and the number of arguments of a built-in predicate? -/
def builtB (t : List UInt8) (l : Nat) : Bool :=
  if t = [33] then decide (l = 0) else if t = [116, 114, 117, 101] then decide (l = 0) else if t = [102, 97, 105, 108] then decide (l = 0)
  else if t = [101, 113] then decide (l = 2) else if t = [108, 101, 115, 115] then decide (l = 2) else if t = [97, 100, 100] then decide (l = 3) else false

theorem goal_any (k n : Int) (s : ByteArray) (v : Value) (w : World) : Calls Try.prog 53 #[.agg #[.int .i64 k, .int .i64 n, .string s, v]] w fun e w' => e = .returned (.bool (goalB k)) ∧ Below w.heap.size w w' := by
  by_cases h1 : k = 1
  · subst h1
    go_enter Try.func53, Try.ntmps53
    go_wp2_with fail
    go_ret
    exact ⟨rfl, (Below.refl _ _).alloc (Nat.le_refl _) _⟩
  by_cases h3 : k = 3
  · subst h3
    go_enter Try.func53, Try.ntmps53
    go_wp2_with fail
    go_ret
    exact ⟨rfl, (Below.refl _ _).alloc (Nat.le_refl _) _⟩
  have R := Lib.hid (show goalB k = false by simp [goalB, h1, h3])
  have g1 : (k == 1) = false := by simpa using h1
  have g3 : (k == 3) = false := by simpa using h3
  clear h1 h3
  go_enter Try.func53, Try.ntmps53
  go_wp2_with fail
  go_ret
  exact ⟨by rw [R.out]; rfl, (Below.refl _ _).alloc (Nat.le_refl _) _⟩

set_option maxHeartbeats 1000000 in
theorem builtin_any (k n : Int) (s : ByteArray) (A : Option Addr) (l c : Nat) (w : World) : Calls Try.prog 45 #[.agg #[.int .i64 k, .int .i64 n, .string s, .slice A l c]] w fun e w' => e = .returned (.bool (builtB s.toList l)) ∧ Below w.heap.size w w' := by
  generalize hr : builtB s.toList l = rb
  have R := Lib.hid hr
  clear hr
  go_enter Try.func45, Try.ntmps45
  go_wp2_with fail
  all_goals go_ret
  all_goals refine ⟨?_, (Below.refl _ _).alloc (Nat.le_refl _) _⟩
  all_goals rw [← R.out]
  all_goals refine ret_bool ?_
  all_goals rw [Bool.eq_iff_iff]
  all_goals simp_all [builtB]
  all_goals try omega

/-- No entry ahead of number i is what is asked for. -/
def EvLoop (S : World → Prop) (t : List UInt8) (l : Nat) (g : Nat) (s8 : Value) (wr : World) : Prop := ∃ i : Nat, i ≤ 6 ∧ g = 6 - i ∧ s8 = .int .i64 i ∧ S wr ∧
  (0 < i → ¬ (t = [33] ∧ l = 0)) ∧ (1 < i → ¬ (t = [116, 114, 117, 101] ∧ l = 0)) ∧ (2 < i → ¬ (t = [102, 97, 105, 108] ∧ l = 0)) ∧
  (3 < i → ¬ (t = [101, 113] ∧ l = 2)) ∧ (4 < i → ¬ (t = [108, 101, 115, 115] ∧ l = 2)) ∧ (5 < i → ¬ (t = [97, 100, 100] ∧ l = 3))

def EvS (w : World) (k n : Int) (s : ByteArray) (A : Option Addr) (l c : Nat) (x : World) : Prop := Plot x w.heap.size 24 #[.int .i64 k, .int .i64 n, .string s, .slice A l c] ∧
  Plot x (w.heap.size + 1) 9 #[.string ⟨#[33, 47, 48]⟩, .string ⟨#[116, 114, 117, 101, 47, 48]⟩, .string ⟨#[102, 97, 105, 108, 47, 48]⟩, .string ⟨#[101, 113, 47, 50]⟩, .string ⟨#[108, 101, 115, 115, 47, 50]⟩, .string ⟨#[97, 100, 100, 47, 51]⟩] ∧ Below w.heap.size w x
theorem EvS.drewN {w x : World} {k n : Int} {s : ByteArray} {A : Option Addr} {l c : Nat} (h : EvS w k n s A l c x) (q : Nat) : EvS w k n s A l c (x.drewN q) := ⟨h.1.drewN q, h.2.1.drewN q, h.2.2.trans (below_drewN _ _ _)⟩
theorem EvLoop.step0 {S : World → Prop} {W : World} (hS : S W) {t : List UInt8} {l : Nat} (hA : (0 < 0 → ¬ (t = [33] ∧ l = 0)) ∧ (1 < 0 → ¬ (t = [116, 114, 117, 101] ∧ l = 0)) ∧ (2 < 0 → ¬ (t = [102, 97, 105, 108] ∧ l = 0)) ∧ (3 < 0 → ¬ (t = [101, 113] ∧ l = 2)) ∧ (4 < 0 → ¬ (t = [108, 101, 115, 115] ∧ l = 2)) ∧ (5 < 0 → ¬ (t = [97, 100, 100] ∧ l = 3))) (h : ¬ (t = [33] ∧ l = 0)) : EvLoop S t l 5 (.int .i64 1) W := by
  obtain ⟨hA0, hA1, hA2, hA3, hA4, hA5⟩ := hA
  exact ⟨1, by omega, rfl, rfl, hS, fun _ => h, fun hh => absurd hh (by omega), fun hh => absurd hh (by omega), fun hh => absurd hh (by omega), fun hh => absurd hh (by omega), fun hh => absurd hh (by omega)⟩
theorem EvLoop.step1 {S : World → Prop} {W : World} (hS : S W) {t : List UInt8} {l : Nat} (hA : (0 < 1 → ¬ (t = [33] ∧ l = 0)) ∧ (1 < 1 → ¬ (t = [116, 114, 117, 101] ∧ l = 0)) ∧ (2 < 1 → ¬ (t = [102, 97, 105, 108] ∧ l = 0)) ∧ (3 < 1 → ¬ (t = [101, 113] ∧ l = 2)) ∧ (4 < 1 → ¬ (t = [108, 101, 115, 115] ∧ l = 2)) ∧ (5 < 1 → ¬ (t = [97, 100, 100] ∧ l = 3))) (h : ¬ (t = [116, 114, 117, 101] ∧ l = 0)) : EvLoop S t l 4 (.int .i64 2) W := by
  obtain ⟨hA0, hA1, hA2, hA3, hA4, hA5⟩ := hA
  exact ⟨2, by omega, rfl, rfl, hS, fun _ => hA0 (by omega), fun _ => h, fun hh => absurd hh (by omega), fun hh => absurd hh (by omega), fun hh => absurd hh (by omega), fun hh => absurd hh (by omega)⟩
theorem EvLoop.step2 {S : World → Prop} {W : World} (hS : S W) {t : List UInt8} {l : Nat} (hA : (0 < 2 → ¬ (t = [33] ∧ l = 0)) ∧ (1 < 2 → ¬ (t = [116, 114, 117, 101] ∧ l = 0)) ∧ (2 < 2 → ¬ (t = [102, 97, 105, 108] ∧ l = 0)) ∧ (3 < 2 → ¬ (t = [101, 113] ∧ l = 2)) ∧ (4 < 2 → ¬ (t = [108, 101, 115, 115] ∧ l = 2)) ∧ (5 < 2 → ¬ (t = [97, 100, 100] ∧ l = 3))) (h : ¬ (t = [102, 97, 105, 108] ∧ l = 0)) : EvLoop S t l 3 (.int .i64 3) W := by
  obtain ⟨hA0, hA1, hA2, hA3, hA4, hA5⟩ := hA
  exact ⟨3, by omega, rfl, rfl, hS, fun _ => hA0 (by omega), fun _ => hA1 (by omega), fun _ => h, fun hh => absurd hh (by omega), fun hh => absurd hh (by omega), fun hh => absurd hh (by omega)⟩
theorem EvLoop.step3 {S : World → Prop} {W : World} (hS : S W) {t : List UInt8} {l : Nat} (hA : (0 < 3 → ¬ (t = [33] ∧ l = 0)) ∧ (1 < 3 → ¬ (t = [116, 114, 117, 101] ∧ l = 0)) ∧ (2 < 3 → ¬ (t = [102, 97, 105, 108] ∧ l = 0)) ∧ (3 < 3 → ¬ (t = [101, 113] ∧ l = 2)) ∧ (4 < 3 → ¬ (t = [108, 101, 115, 115] ∧ l = 2)) ∧ (5 < 3 → ¬ (t = [97, 100, 100] ∧ l = 3))) (h : ¬ (t = [101, 113] ∧ l = 2)) : EvLoop S t l 2 (.int .i64 4) W := by
  obtain ⟨hA0, hA1, hA2, hA3, hA4, hA5⟩ := hA
  exact ⟨4, by omega, rfl, rfl, hS, fun _ => hA0 (by omega), fun _ => hA1 (by omega), fun _ => hA2 (by omega), fun _ => h, fun hh => absurd hh (by omega), fun hh => absurd hh (by omega)⟩
theorem EvLoop.step4 {S : World → Prop} {W : World} (hS : S W) {t : List UInt8} {l : Nat} (hA : (0 < 4 → ¬ (t = [33] ∧ l = 0)) ∧ (1 < 4 → ¬ (t = [116, 114, 117, 101] ∧ l = 0)) ∧ (2 < 4 → ¬ (t = [102, 97, 105, 108] ∧ l = 0)) ∧ (3 < 4 → ¬ (t = [101, 113] ∧ l = 2)) ∧ (4 < 4 → ¬ (t = [108, 101, 115, 115] ∧ l = 2)) ∧ (5 < 4 → ¬ (t = [97, 100, 100] ∧ l = 3))) (h : ¬ (t = [108, 101, 115, 115] ∧ l = 2)) : EvLoop S t l 1 (.int .i64 5) W := by
  obtain ⟨hA0, hA1, hA2, hA3, hA4, hA5⟩ := hA
  exact ⟨5, by omega, rfl, rfl, hS, fun _ => hA0 (by omega), fun _ => hA1 (by omega), fun _ => hA2 (by omega), fun _ => hA3 (by omega), fun _ => h, fun hh => absurd hh (by omega)⟩
theorem EvLoop.step5 {S : World → Prop} {W : World} (hS : S W) {t : List UInt8} {l : Nat} (hA : (0 < 5 → ¬ (t = [33] ∧ l = 0)) ∧ (1 < 5 → ¬ (t = [116, 114, 117, 101] ∧ l = 0)) ∧ (2 < 5 → ¬ (t = [102, 97, 105, 108] ∧ l = 0)) ∧ (3 < 5 → ¬ (t = [101, 113] ∧ l = 2)) ∧ (4 < 5 → ¬ (t = [108, 101, 115, 115] ∧ l = 2)) ∧ (5 < 5 → ¬ (t = [97, 100, 100] ∧ l = 3))) (h : ¬ (t = [97, 100, 100] ∧ l = 3)) : EvLoop S t l 0 (.int .i64 6) W := by
  obtain ⟨hA0, hA1, hA2, hA3, hA4, hA5⟩ := hA
  exact ⟨6, by omega, rfl, rfl, hS, fun _ => hA0 (by omega), fun _ => hA1 (by omega), fun _ => hA2 (by omega), fun _ => hA3 (by omega), fun _ => hA4 (by omega), fun _ => h⟩
theorem built_none {t : List UInt8} {l : Nat} (hA : (0 < 6 → ¬ (t = [33] ∧ l = 0)) ∧ (1 < 6 → ¬ (t = [116, 114, 117, 101] ∧ l = 0)) ∧ (2 < 6 → ¬ (t = [102, 97, 105, 108] ∧ l = 0)) ∧ (3 < 6 → ¬ (t = [101, 113] ∧ l = 2)) ∧ (4 < 6 → ¬ (t = [108, 101, 115, 115] ∧ l = 2)) ∧ (5 < 6 → ¬ (t = [97, 100, 100] ∧ l = 3))) : builtB t l = false := by
  obtain ⟨h0, h1, h2, h3, h4, h5⟩ := hA
  unfold builtB
  repeat' split
  all_goals simp_all

end Go.Proofs.Ytdiophafmokfiaa
namespace Go.Proofs.Ytdiophafmokfiaa
open Go.RowKit

/-- The two variables that the visitor knows: how many nodes are left, and itself. -/
structure VS (lb vb : Nat) (L : Nat) (w : World) : Prop where
  left : Plot w lb 3 #[.int .i64 L]
  fn : Plot w vb 73 #[.func (.func 61) #[] #[.pointer (some ⟨lb, 0, none⟩), .pointer (some ⟨vb, 0, none⟩)]]
  ne : vb ≠ lb
theorem VS.far {lb vb L : Nat} {w w' : World} (h : VS lb vb L w) (hb : Below w.heap.size w w') : VS lb vb L w' := ⟨h.left.below hb, h.fn.below hb, h.ne⟩

def VisitSaid (T : Ts) : Prop := ∀ (k n : Int) (s : ByteArray) (v : Value) (L lb vb B : Nat) (w : World), Sl w (fun k => k < B) v T → B ≤ lb → VS lb vb L w → L ≤ 24 → T.nodes ≤ 1048576 →
    Calls Try.prog 61 #[.agg #[.int .i64 k, .int .i64 n, .string s, v], .pointer (some ⟨lb, 0, none⟩), .pointer (some ⟨vb, 0, none⟩)] w fun e w' =>
      e = .returned (.bool (decide (T.nodes + 1 ≤ L))) ∧ (T.nodes + 1 ≤ L → VS lb vb (L - (T.nodes + 1)) w') ∧ Chg (fun k => k = lb) w w'

def VtLoop (w : World) (T : Ts) (L lb vb : Nat) (g : Nat) (sx : Value) (wr : World) : Prop := ∃ D R : Ts, T = D.app R ∧ g = R.length ∧ sx = .int .i64 D.length ∧ D.nodes + 1 ≤ L ∧ VS lb vb (L - (D.nodes + 1)) wr ∧ Chg (fun k => k = lb) w wr

set_option maxHeartbeats 1000000 in
theorem visit_of (m : Nat) (ih : ∀ T : Ts, T.nodes < m → VisitSaid T) (T : Ts) (hm : T.nodes ≤ m) : VisitSaid T := by
  intro k n s v L lb vb B w hv hBl hvs hL hn
  obtain ⟨A, c, rfl, hs⟩ := hv.form
  have hle := T.length_le
  have hW : Below w.heap.size w (w.alloc (.cells #[.int .i64 k, .int .i64 n, .string s, .slice A T.length c] 24)) := (Below.refl _ _).alloc (Nat.le_refl _) _
  have hvs1 := hvs.far hW
  have hs1 := hs.below hW
  have bA := Plot.new w 24 #[.int .i64 k, .int .i64 n, .string s, .slice A T.length c]
  have l0 := hvs1.left.cell 0
  have lf := hvs1.left.frozen 0
  simp at l0
  have hlt := hvs.left.lt
  by_cases hL0 : L = 0
  · subst hL0
    go_enter Try.func61, Try.ntmps61
    go_wp2_with fail
    go_ret
    exact ⟨rfl, fun h => absurd h (by omega), Chg.of_fresh hW⟩
  have hL1 : 0 < L := by omega
  obtain ⟨p0, p1, p2, p3, _⟩ := bA.four
  have hne : w.heap.size ≠ lb := by omega
  go_enter Try.func61, Try.ntmps61
  go_wp2_with fail
  have hstart : VS lb vb (L - 1) ((w.setCell ⟨lb, 0, none⟩ (.int .i64 ((L : Int) - 1))).alloc (.cells #[.int .i64 k, .int .i64 n, .string s, .slice A T.length c] 24)) := by
    refine ⟨?_, ?_, hvs.ne⟩
    · have h1 := (hvs.left.set_ 0 (.int .i64 ((L : Int) - 1))).alloc (.cells #[.int .i64 k, .int .i64 n, .string s, .slice A T.length c] 24)
      rw [show ((L - 1 : Nat) : Int) = (L : Int) - 1 by omega]
      exact h1
    · exact (hvs.fn.far (p := ⟨lb, 0, none⟩) hvs.ne _).alloc _
  have hchg : Chg (fun k => k = lb) w ((w.setCell ⟨lb, 0, none⟩ (.int .i64 ((L : Int) - 1))).alloc (.cells #[.int .i64 k, .int .i64 n, .string s, .slice A T.length c] 24)) :=
    ((Chg.refl (fun k => k = lb) w).setCell (p := ⟨lb, 0, none⟩) (fun _ => rfl) _).alloc _
  have hcall : ∀ (args : Array Value) (x : World), (callFunc 61 args).run Try.prog x = .ok (.enter 61 args) x := fun args x => by simp [go_sem]
  generalize ((w.setCell ⟨lb, 0, none⟩ (.int .i64 ((L : Int) - 1))).alloc (.cells #[.int .i64 k, .int .i64 n, .string s, .slice A T.length c] 24)) = W at *
  have h0 : VtLoop w T L lb vb T.length (.int .i64 0) W := ⟨.nil, T, rfl, rfl, rfl, hL1, hstart, hchg⟩
  clear hstart hchg hvs1 bA p0 p1 p2 p3 hne l0 lf hs1 hW
  go_loopg [14] T.length (VtLoop w T L lb vb)
  case atStart => exact h0
  case round =>
    clear h0
    obtain ⟨D, R, hT, hg, rfl, hD, hvr, hc⟩ := hrel
    have HT := Lib.hid hT
    have HG := Lib.hid hg
    clear hT hg
    have hsr : Sl wr (fun k => k < B) (.slice A T.length c) T := hs.chg hc fun k hk => by omega
    cases R with
    | nil =>
      have eD : D = T := by rw [HT.out, Ts.app_nil]
      subst eD
      go_wp2_with fail
      go_ret
      refine ⟨?_, fun _ => hvr, hc⟩
      rw [decide_eq_true hD]; rfl
    | cons k1 n1 s1 ar r =>
      have e1 : D.length < T.length := by rw [HT.out, Ts.length_app]; simp [Ts.length]
      have hnod : T.nodes = D.nodes + (1 + ar.nodes + r.nodes) := by rw [HT.out, Ts.nodes_app]; simp only [Ts.nodes]; omega
      rw [HT.out] at hsr
      rw [show (D.app (.cons k1 n1 s1 ar r)).length = T.length by rw [← HT.out]] at hsr
      obtain ⟨b1, o1, rfl, hq1⟩ := Sl.at_ hsr (by simp [Ts.length])
      obtain ⟨_, c10, c11, c12, ⟨v1, c13, hv1⟩, _⟩ := seg_cons.1 hq1
      obtain ⟨A1, d1, rfl, hv1⟩ := hv1.form
      clear hq1 hsr
      have hX : Below wr.heap.size wr (wr.alloc (.cells #[.int .i64 k1, .int .i64 n1, .string s1, .slice A1 ar.length d1] 24)) := (Below.refl _ _).alloc (Nat.le_refl _) _
      have hvx := hvr.far hX
      have f0 := hvx.fn.cell 0
      simp at f0
      go_wp2_with fail
      have e2 : ar.nodes < m := by omega
      refine (ih ar e2 k1 n1 s1 _ (L - (D.nodes + 1)) lb vb B _ (hv1.below hX) hBl hvx (by omega) (by omega)).mono ?_
      rintro e w2 ⟨rfl, hok, hc2⟩
      have hc3 : Chg (fun k => k = lb) w w2 := (hc.trans (Chg.of_fresh (S := fun k => k = lb) hX) fun _ _ h => h).trans hc2 fun _ _ h => h
      by_cases hx : ar.nodes + 1 ≤ L - (D.nodes + 1)
      · have hok := hok hx
        rw [decide_eq_true hx]
        have hnx : Hid (VS lb vb (L - ((D.app (.cons k1 n1 s1 ar .nil)).nodes + 1)) w2) := Lib.hid (by
          rw [Ts.nodes_app]
          simp only [Ts.nodes]
          rw [show L - (D.nodes + (ar.nodes + 0 + 1) + 1) = L - (D.nodes + 1) - (ar.nodes + 1) by omega]
          exact hok)
        clear hok
        go_wp2_with fail
        go_roundg r.length
        case measure => rw [HG.out]; simp [Ts.length]
        case rel =>
          refine ⟨D.app (.cons k1 n1 s1 ar .nil), r, ?_, rfl, ?_, ?_, hnx.out, hc3⟩
          · rw [HT.out, Ts.app_assoc]; rfl
          · rw [Ts.length_app]; rfl
          · rw [Ts.nodes_app]; simp only [Ts.nodes]; omega
      · rw [decide_eq_false hx]
        have hbig : Hid (¬ T.nodes + 1 ≤ L) := Lib.hid (by omega)
        clear hok
        go_wp2_with fail
        go_ret
        refine ⟨?_, fun h => absurd h hbig.out, hc3⟩
        rw [decide_eq_false hbig.out]; rfl

theorem visit_said (T : Ts) : VisitSaid T := by
  have : ∀ m, ∀ T : Ts, T.nodes < m → VisitSaid T := by
    intro m
    induction m with
    | zero => intro T h; omega
    | succ m ih => intro T h; exact visit_of m ih T (by omega)
  exact this _ T (Nat.lt_succ_self _)

set_option maxHeartbeats 1000000 in
theorem fits_any (k n : Int) (s : ByteArray) (T : Ts) (v : Value) (w : World) (hv : Sl w (fun _ => True) v T) (hn : T.nodes ≤ 1048576) :
    Calls Try.prog 54 #[.agg #[.int .i64 k, .int .i64 n, .string s, v], .int .i64 24] w fun e w' => e = .returned (.bool (decide (T.nodes + 1 ≤ 24))) ∧ Below w.heap.size w w' := by
  obtain ⟨A, c, rfl, hs⟩ := hv.form
  have hs := hs.imp (q := fun k => k < w.heap.size) fun k _ h => h
  have hW : Below w.heap.size w (((w.alloc (.cells #[.int .i64 k, .int .i64 n, .string s, .slice A T.length c] 24)).alloc (.cells #[.int .i64 24] 3)).alloc (.cells #[.func (.func 61) #[] #[.pointer (some ⟨w.heap.size + 1, 0, none⟩), .pointer (some ⟨w.heap.size + 1 + 1, 0, none⟩)]] 73)) := (((Below.refl _ _).alloc (Nat.le_refl _) _).alloc (by simp) _).alloc (by simp; omega) _
  have hst : (store ⟨w.heap.size + 1 + 1, 0, none⟩ (.func (.func 61) #[] #[.pointer (some ⟨w.heap.size + 1, 0, none⟩), .pointer (some ⟨w.heap.size + 1 + 1, 0, none⟩)])).run Try.prog (((w.alloc (.cells #[.int .i64 k, .int .i64 n, .string s, .slice A T.length c] 24)).alloc (.cells #[.int .i64 24] 3)).alloc (.cells #[.nilFunc] 73)) =
      .ok () (((w.alloc (.cells #[.int .i64 k, .int .i64 n, .string s, .slice A T.length c] 24)).alloc (.cells #[.int .i64 24] 3)).alloc (.cells #[.func (.func 61) #[] #[.pointer (some ⟨w.heap.size + 1, 0, none⟩), .pointer (some ⟨w.heap.size + 1 + 1, 0, none⟩)]] 73)) := by
    have hb := Plot.new ((w.alloc (.cells #[.int .i64 k, .int .i64 n, .string s, .slice A T.length c] 24)).alloc (.cells #[.int .i64 24] 3)) 73 #[.nilFunc]
    have e := setCell_new ((w.alloc (.cells #[.int .i64 k, .int .i64 n, .string s, .slice A T.length c] 24)).alloc (.cells #[.int .i64 24] 3)) .nilFunc (.func (.func 61) #[] #[.pointer (some ⟨w.heap.size + 1, 0, none⟩), .pointer (some ⟨w.heap.size + 1 + 1, 0, none⟩)]) 73
    have h := run_store_func (P := Try.prog) (f := .func 61) (x := #[]) (y := #[.pointer (some ⟨w.heap.size + 1, 0, none⟩), .pointer (some ⟨w.heap.size + 1 + 1, 0, none⟩)]) (hb.cell 0) (hb.frozen 0)
    rw [e] at h
    simpa using h
  have hvs : VS (w.heap.size + 1) (w.heap.size + 1 + 1) 24 (((w.alloc (.cells #[.int .i64 k, .int .i64 n, .string s, .slice A T.length c] 24)).alloc (.cells #[.int .i64 24] 3)).alloc (.cells #[.func (.func 61) #[] #[.pointer (some ⟨w.heap.size + 1, 0, none⟩), .pointer (some ⟨w.heap.size + 1 + 1, 0, none⟩)]] 73)) := by
    refine ⟨?_, ?_, by omega⟩
    · have := (Plot.new (w.alloc (.cells #[.int .i64 k, .int .i64 n, .string s, .slice A T.length c] 24)) 3 #[.int .i64 24]).alloc (.cells #[.func (.func 61) #[] #[.pointer (some ⟨w.heap.size + 1, 0, none⟩), .pointer (some ⟨w.heap.size + 1 + 1, 0, none⟩)]] 73)
      simpa using this
    · have := Plot.new ((w.alloc (.cells #[.int .i64 k, .int .i64 n, .string s, .slice A T.length c] 24)).alloc (.cells #[.int .i64 24] 3)) 73 #[.func (.func 61) #[] #[.pointer (some ⟨w.heap.size + 1, 0, none⟩), .pointer (some ⟨w.heap.size + 1 + 1, 0, none⟩)]]
      simpa using this
  have hcall : ∀ (args : Array Value) (x : World), (callFunc 61 args).run Try.prog x = .ok (.enter 61 args) x := fun args x => by simp [go_sem]
  go_enter Try.func54, Try.ntmps54
  go_wp2_with fail
  refine (visit_said T k n s _ 24 (w.heap.size + 1) (w.heap.size + 1 + 1) w.heap.size _ (hs.below hW) (by omega) hvs (Nat.le_refl _) hn).mono ?_
  rintro e w2 ⟨rfl, _, hc⟩
  generalize hfb : decide (T.nodes + 1 ≤ 24) = fb
  have HFB := Lib.hid hfb
  clear hfb
  go_wp2_with fail
  go_ret
  refine ⟨by rw [HFB.out]; rfl, hW.trans (hc.below (by simp; omega) fun k hk _ => ?_)⟩
  have e : k = w.heap.size + 1 := hk
  omega
end Go.Proofs.Ytdiophafmokfiaa
namespace Go.Proofs.Ytdiophafmokfiaa
open Go.RowKit

/-- Is it a good goal? -/
def gB (vars k n : Int) (s : ByteArray) (T : Ts) : Bool := goalB k && (Ts.cons k n s T .nil).good vars && decide (T.nodes + 1 ≤ 24)

set_option maxHeartbeats 1000000 in
theorem goodGoal_any (vars k n : Int) (s : ByteArray) (T : Ts) (v : Value) (w : World) (hv : Sl w (fun _ => True) v T) (hn : T.nodes < 1048576) :
    Calls Try.prog 44 #[.agg #[.int .i64 k, .int .i64 n, .string s, v], .int .i64 vars] w fun e w' => e = .returned (.bool (gB vars k n s T)) ∧ Below w.heap.size w w' := by
  obtain ⟨A, c, rfl, hs⟩ := hv.form
  generalize hr : gB vars k n s T = rb
  have R := Lib.hid hr
  clear hr
  go_enter Try.func44, Try.ntmps44
  go_wp2_with fail
  have hW0 : Below w.heap.size w (w.alloc (.cells #[.int .i64 k, .int .i64 n, .string s, .slice A T.length c] 24)) := (Below.refl _ _).alloc (Nat.le_refl _) _
  have bA := Plot.new w 24 #[.int .i64 k, .int .i64 n, .string s, .slice A T.length c]
  generalize (w.alloc (.cells #[.int .i64 k, .int .i64 n, .string s, .slice A T.length c] 24)) = W0 at *
  have hs0 := hs.below hW0
  refine (goal_any k n s _ W0).mono ?_
  rintro e w1 ⟨rfl, hb1⟩
  have hW1 := hW0.trans (hb1.mono hW0.size)
  have bA1 := bA.below hb1
  have hs1 := hs0.below hb1
  cases hg : goalB k with
  | false =>
    go_wp2_with fail
    go_ret
    refine ⟨?_, hW1⟩
    rw [← R.out, gB, hg]; rfl
  | true =>
    have HGK := Lib.hid hg
    clear hg
    obtain ⟨p0, p1, p2, p3, _⟩ := bA1.four
    go_wp2_with fail
    refine (fits_any k n s T _ _ hs1 (by omega)).mono ?_
    rintro e w2 ⟨rfl, hb2⟩
    have hW2 := hW1.trans (hb2.mono hW1.size)
    have bA2 := bA1.below hb2
    have hs2 := hs1.below hb2
    clear p0 p1 p2 p3
    generalize hf : decide (T.nodes + 1 ≤ 24) = fb
    have HF := Lib.hid hf
    clear hf
    obtain ⟨p0, p1, p2, p3, _⟩ := bA2.four
    cases fb with
    | false =>
      go_wp2_with fail
      go_ret
      refine ⟨?_, hW2⟩
      rw [← R.out, gB, HF.out, Bool.and_false]; rfl
    | true =>
      go_wp2_with fail
      refine (good_any k n vars s T _ _ hs2 hn).mono ?_
      rintro e w3 ⟨rfl, hb3⟩
      generalize hq : (Ts.cons k n s T .nil).good vars = qb
      have HQ := Lib.hid hq
      clear hq
      go_wp2_with fail
      go_ret
      refine ⟨?_, hW2.trans (hb3.mono hW2.size)⟩
      rw [← R.out, gB, HGK.out, HF.out, HQ.out, Bool.and_true, Bool.true_and]; rfl

end Go.Proofs.Ytdiophafmokfiaa
namespace Go.Proofs.Ytdiophafmokfiaa
open Go.RowKit

/-- Are all of them good goals? -/
def Ts.goals (vars : Int) : Ts → Bool
  | .nil => true
  | .cons k n s ar r => gB vars k n s ar && r.goals vars
theorem Ts.goals_app (v : Int) (D R : Ts) : (D.app R).goals v = (D.goals v && R.goals v) := by
  induction D with
  | nil => rfl
  | cons k n b ar r _ ih => simp only [Ts.app, Ts.goals, ih, Bool.and_assoc]
def qB (vars : Int) (T : Ts) : Bool := decide (0 ≤ vars) && decide (vars ≤ 8) && decide (T.length ≤ 5) && T.goals vars

def GqLoop (w : World) (T : Ts) (vars : Int) (g : Nat) (sx : Value) (wr : World) : Prop := ∃ D R : Ts, T = D.app R ∧ g = R.length ∧ sx = .int .i64 D.length ∧ D.goals vars = true ∧ Below w.heap.size w wr
def IqLoop (w : World) (T : Ts) (vars : Int) (b : Bool) (g : Nat) (so sx : Value) (wr : World) : Prop := ∃ D R : Ts, T = D.app R ∧ g = R.length ∧ sx = .int .i64 D.length ∧ so = .bool (b && D.goals vars) ∧ Below w.heap.size w wr

set_option maxHeartbeats 1000000 in
theorem goodQuery_any (vars : Int) (T : Ts) (v : Value) (w : World) (hv : Sl w (fun _ => True) v T) (hn : T.nodes ≤ 1048576) :
    Calls Try.prog 41 #[v, .int .i64 vars] w fun e w' => e = .returned (.bool (qB vars T)) ∧ Below w.heap.size w w' := by
  obtain ⟨A, c, rfl, hs⟩ := hv.form
  have hle := T.length_le
  generalize hr : qB vars T = rb
  have R := Lib.hid hr
  clear hr
  by_cases h1 : vars < 0
  · have hq : Hid (rb = false) := Lib.hid (by rw [← R.out, qB]; simp; omega)
    go_enter Try.func41, Try.ntmps41
    go_wp2_with fail
    go_ret
    exact ⟨by rw [hq.out]; rfl, Below.refl _ _⟩
  by_cases h2 : 8 < vars
  · have hq : Hid (rb = false) := Lib.hid (by rw [← R.out, qB]; simp; omega)
    go_enter Try.func41, Try.ntmps41
    go_wp2_with fail
    go_ret
    exact ⟨by rw [hq.out]; rfl, Below.refl _ _⟩
  by_cases h3 : 5 < T.length
  · have hq : Hid (rb = false) := Lib.hid (by rw [← R.out, qB]; simp; omega)
    go_enter Try.func41, Try.ntmps41
    go_wp2_with fail
    go_ret
    exact ⟨by rw [hq.out]; rfl, Below.refl _ _⟩
  have hq : Hid (rb = T.goals vars) := Lib.hid (by rw [← R.out, qB]; simp; omega)
  have hl5 : T.length ≤ 5 := by omega
  have h0 : GqLoop w T vars T.length (.int .i64 0) w := ⟨.nil, T, rfl, rfl, rfl, rfl, Below.refl _ _⟩
  go_enter Try.func41, Try.ntmps41
  go_wp2_with fail
  go_loopg [20] T.length (GqLoop w T vars)
  case atStart => exact h0
  case round =>
    clear h0
    obtain ⟨D, R', hT, hg, rfl, hD, hb⟩ := hrel
    have HT := Lib.hid hT
    have HG := Lib.hid hg
    have HD := Lib.hid hD
    clear hT hg hD
    have hsr := hs.below hb
    cases R' with
    | nil =>
      have eD : D = T := by rw [HT.out, Ts.app_nil]
      subst eD
      go_wp2_with fail
      go_ret
      exact ⟨by rw [hq.out, HD.out]; rfl, hb⟩
    | cons k1 n1 s1 ar r =>
      have e1 : D.length < T.length := by rw [HT.out, Ts.length_app]; simp [Ts.length]
      have hnod : ar.nodes < 1048576 := by have := hn; rw [HT.out, Ts.nodes_app] at this; simp only [Ts.nodes] at this; omega
      rw [HT.out] at hsr
      rw [show (D.app (.cons k1 n1 s1 ar r)).length = T.length by rw [← HT.out]] at hsr
      obtain ⟨b1, o1, rfl, hq1⟩ := Sl.at_ hsr (by simp [Ts.length])
      obtain ⟨_, c10, c11, c12, ⟨v1, c13, hv1⟩, _⟩ := seg_cons.1 hq1
      obtain ⟨A1, d1, rfl, hv1⟩ := hv1.form
      clear hq1 hsr
      have hX : Below wr.heap.size wr (wr.alloc (.cells #[.int .i64 k1, .int .i64 n1, .string s1, .slice A1 ar.length d1] 24)) := (Below.refl _ _).alloc (Nat.le_refl _) _
      have hX' := hb.trans (hX.mono hb.size)
      go_wp2_with fail
      refine (goodGoal_any vars k1 n1 s1 ar _ _ (hv1.below hX) hnod).mono ?_
      rintro e w2 ⟨rfl, hb2⟩
      have hb3 := hX'.trans (hb2.mono hX'.size)
      generalize hgb : gB vars k1 n1 s1 ar = gb
      have HGB := Lib.hid hgb
      clear hgb
      cases gb with
      | false =>
        go_wp2_with fail
        go_ret
        refine ⟨?_, hb3⟩
        rw [hq.out, HT.out, Ts.goals_app, Ts.goals, HGB.out, Bool.false_and, Bool.and_false]; rfl
      | true =>
        go_wp2_with fail
        go_roundg r.length
        case measure => rw [HG.out]; simp [Ts.length]
        case rel =>
          refine ⟨D.app (.cons k1 n1 s1 ar .nil), r, ?_, rfl, ?_, ?_, hb3⟩
          · rw [HT.out, Ts.app_assoc]; rfl
          · rw [Ts.length_app]; rfl
          · rw [Ts.goals_app, HD.out, Ts.goals, HGB.out]; rfl

end Go.Proofs.Ytdiophafmokfiaa
namespace Go.Proofs.Ytdiophafmokfiaa
open Go.RowKit

/-- A clause. -/
structure Cl where
  k : Int
  n : Int
  s : ByteArray
  hd : Ts
  bd : Ts
  vars : Int
def Cl.nodes (c : Cl) : Nat := c.hd.nodes + c.bd.nodes + 1
def nodesC : List Cl → Nat
  | [] => 0
  | c :: r => c.nodes + nodesC r
/-- Is it a good clause? -/
def cB (c : Cl) : Bool := qB c.vars c.bd && gB c.vars c.k c.n c.s c.hd && !builtB c.s.toList c.hd.length
/-- From cell o of block b on lie the clauses, six cells each; what they lean on is p's. -/
def SegC (w : World) (p : Nat → Prop) : List Cl → Nat → Nat → Prop
  | [], _, _ => True
  | c :: r, b, o => p b ∧ w.cell? ⟨b, o, none⟩ = some (.int .i64 c.k) ∧ w.cell? ⟨b, o + 1, none⟩ = some (.int .i64 c.n) ∧ w.cell? ⟨b, o + 2, none⟩ = some (.string c.s) ∧
    (∃ v, w.cell? ⟨b, o + 3, none⟩ = some v ∧ Sl w p v c.hd) ∧ (∃ v, w.cell? ⟨b, o + 4, none⟩ = some v ∧ Sl w p v c.bd) ∧ w.cell? ⟨b, o + 5, none⟩ = some (.int .i64 c.vars) ∧ SegC w p r b (o + 6)
def SlC (w : World) (p : Nat → Prop) (v : Value) (L : List Cl) : Prop := ∃ A c, v = .slice A L.length c ∧ L.length ≤ c ∧ (0 < L.length → ∃ b o, A = some ⟨b, o, none⟩ ∧ SegC w p L b o)

section
variable {w w' : World} {p q : Nat → Prop}
theorem SegC.keep {L : List Cl} : ∀ {b o : Nat}, SegC w p L b o → (∀ k, p k → k < w.heap.size → w'.heap[k]? = w.heap[k]?) → SegC w' p L b o := by
  induction L with
  | nil => intro b o _ _; trivial
  | cons c r ih =>
    intro b o ⟨h0, h1, h2, h3, ⟨v, h4, h5⟩, ⟨u, h6, h7⟩, h8, h9⟩ hk
    have hc : ∀ j, w'.cell? ⟨b, j, none⟩ = w.cell? ⟨b, j, none⟩ := fun j => World.cell?_of_block (hk b h0 (lt_of_cell h1))
    exact ⟨h0, (hc _).trans h1, (hc _).trans h2, (hc _).trans h3, ⟨v, (hc _).trans h4, h5.keep hk⟩, ⟨u, (hc _).trans h6, h7.keep hk⟩, (hc _).trans h8, ih h9 hk⟩
theorem SegC.imp {L : List Cl} : ∀ {b o : Nat}, SegC w p L b o → (∀ k, p k → k < w.heap.size → q k) → SegC w q L b o := by
  induction L with
  | nil => intro b o _ _; trivial
  | cons c r ih =>
    intro b o ⟨h0, h1, h2, h3, ⟨v, h4, h5⟩, ⟨u, h6, h7⟩, h8, h9⟩ hk
    exact ⟨hk b h0 (lt_of_cell h1), h1, h2, h3, ⟨v, h4, h5.imp hk⟩, ⟨u, h6, h7.imp hk⟩, h8, ih h9 hk⟩
theorem SlC.keep {L : List Cl} {v : Value} (h : SlC w p v L) (hk : ∀ k, p k → k < w.heap.size → w'.heap[k]? = w.heap[k]?) : SlC w' p v L := by
  obtain ⟨A, c, e, hl, hs⟩ := h
  exact ⟨A, c, e, hl, fun h => by obtain ⟨b, o, e, h⟩ := hs h; exact ⟨b, o, e, h.keep hk⟩⟩
theorem SlC.imp {L : List Cl} {v : Value} (h : SlC w p v L) (hk : ∀ k, p k → k < w.heap.size → q k) : SlC w q v L := by
  obtain ⟨A, c, e, hl, hs⟩ := h
  exact ⟨A, c, e, hl, fun h => by obtain ⟨b, o, e, h⟩ := hs h; exact ⟨b, o, e, h.imp hk⟩⟩
theorem SlC.below {L : List Cl} {v : Value} (h : SlC w p v L) (hb : Below w.heap.size w w') : SlC w' p v L := h.keep fun k _ hk => hb.block k hk
theorem SlC.any {L : List Cl} {v : Value} (h : SlC w p v L) : SlC w (fun _ => True) v L := h.imp fun _ _ _ => trivial
theorem SlC.form {L : List Cl} {v : Value} (h : SlC w p v L) : ∃ A c, v = .slice A L.length c ∧ SlC w p (.slice A L.length c) L := by
  obtain ⟨A, c, rfl, h2⟩ := h
  exact ⟨A, c, rfl, A, c, rfl, h2⟩
theorem SegC.skip {R : List Cl} {b : Nat} : ∀ {D : List Cl} {o : Nat}, SegC w p (D ++ R) b o → SegC w p R b (o + D.length * 6)
  | [], o, h => by simpa using h
  | c :: D, o, ⟨_, _, _, _, _, _, _, h⟩ => by
    have := SegC.skip (R := R) (D := D) h
    rwa [show o + 6 + D.length * 6 = o + (c :: D).length * 6 by simp; omega] at this
theorem SlC.at_ {A : Option Addr} {len c : Nat} {D R : List Cl} (h : SlC w p (.slice A len c) (D ++ R)) (hR : 0 < R.length) : ∃ b o, A = some ⟨b, o, none⟩ ∧ SegC w p R b (o + D.length * 6) := by
  obtain ⟨A', c', e, hl, hs⟩ := h
  cases e
  obtain ⟨b, o, e, h⟩ := hs (by rw [List.length_append]; omega)
  exact ⟨b, o, e, h.skip⟩
end

set_option maxHeartbeats 1000000 in
theorem goodClause_any (c : Cl) (u v : Value) (w : World) (hu : Sl w (fun _ => True) u c.hd) (hv : Sl w (fun _ => True) v c.bd) (h1 : c.hd.nodes < 1048576) (h2 : c.bd.nodes ≤ 1048576) :
    Calls Try.prog 26 #[.agg #[.int .i64 c.k, .int .i64 c.n, .string c.s, u, v, .int .i64 c.vars]] w fun e w' => e = .returned (.bool (cB c)) ∧ Below w.heap.size w w' := by
  obtain ⟨A, d, rfl, hu⟩ := hu.form
  obtain ⟨A', d', rfl, hv⟩ := hv.form
  generalize hr : cB c = rb
  have R := Lib.hid hr
  clear hr
  go_enter Try.func26, Try.ntmps26
  go_wp2_with fail
  have hW0 : Below w.heap.size w (w.alloc (.cells #[.int .i64 c.k, .int .i64 c.n, .string c.s, .slice A c.hd.length d, .slice A' c.bd.length d', .int .i64 c.vars] 47)) := (Below.refl _ _).alloc (Nat.le_refl _) _
  have bA := Plot.new w 47 #[.int .i64 c.k, .int .i64 c.n, .string c.s, .slice A c.hd.length d, .slice A' c.bd.length d', .int .i64 c.vars]
  generalize (w.alloc (.cells #[.int .i64 c.k, .int .i64 c.n, .string c.s, .slice A c.hd.length d, .slice A' c.bd.length d', .int .i64 c.vars] 47)) = W0 at *
  have hu0 := hu.below hW0
  refine (goodQuery_any c.vars c.bd _ W0 (hv.below hW0) h2).mono ?_
  rintro e w1 ⟨rfl, hb1⟩
  have hW1 := hW0.trans (hb1.mono hW0.size)
  have bA1 := bA.below hb1
  have hu1 := hu0.below hb1
  generalize hq : qB c.vars c.bd = qb
  have HQ := Lib.hid hq
  clear hq
  cases qb with
  | false =>
    go_wp2_with fail
    go_ret
    refine ⟨?_, hW1⟩
    rw [← R.out, cB, HQ.out]; rfl
  | true =>
    have p0 := bA1.cell 0
    have p1 := bA1.cell 1
    have p2 := bA1.cell 2
    have p3 := bA1.cell 3
    have p5 := bA1.cell 5
    simp at p0 p1 p2 p3 p5
    go_wp2_with fail
    refine (goodGoal_any c.vars c.k c.n c.s c.hd _ _ hu1 h1).mono ?_
    rintro e w2 ⟨rfl, hb2⟩
    have hW2 := hW1.trans (hb2.mono hW1.size)
    have bA2 := bA1.below hb2
    clear p0 p1 p2 p3 p5
    generalize hg : gB c.vars c.k c.n c.s c.hd = gb
    have HGB := Lib.hid hg
    clear hg
    cases gb with
    | false =>
      go_wp2_with fail
      go_ret
      refine ⟨?_, hW2⟩
      rw [← R.out, cB, HGB.out, Bool.and_false]; rfl
    | true =>
      have p0 := bA2.cell 0
      have p1 := bA2.cell 1
      have p2 := bA2.cell 2
      have p3 := bA2.cell 3
      simp at p0 p1 p2 p3
      go_wp2_with fail
      refine (builtin_any c.k c.n c.s A c.hd.length d _).mono ?_
      rintro e w3 ⟨rfl, hb3⟩
      generalize hbb : builtB c.s.toList c.hd.length = bb
      have HBT := Lib.hid hbb
      clear hbb
      go_wp2_with fail
      go_ret
      refine ⟨?_, hW2.trans (hb3.mono hW2.size)⟩
      rw [← R.out, cB, HQ.out, HGB.out, HBT.out, Bool.true_and]; rfl

end Go.Proofs.Ytdiophafmokfiaa
namespace Go.Proofs.Ytdiophafmokfiaa
open Go.RowKit

/-- Is it a program? -/
def pB (L : List Cl) : Bool := decide (L.length ≤ 24) && L.all cB
theorem nodesC_app (a b : List Cl) : nodesC (a ++ b) = nodesC a + nodesC b := by
  induction a with
  | nil => simp [nodesC]
  | cons c r ih => simp only [List.cons_append, nodesC, ih]; omega
theorem nodesC_le (L : List Cl) : L.length ≤ nodesC L := by
  induction L with
  | nil => exact Nat.le_refl _
  | cons c r ih => simp only [List.length_cons, nodesC, Cl.nodes]; omega

def GpLoop (w : World) (L : List Cl) (g : Nat) (sx : Value) (wr : World) : Prop := ∃ D R : List Cl, L = D ++ R ∧ g = R.length ∧ sx = .int .i64 D.length ∧ D.all cB = true ∧ Below w.heap.size w wr
def IpLoop (w : World) (L : List Cl) (b : Bool) (g : Nat) (so sx : Value) (wr : World) : Prop := ∃ D R : List Cl, L = D ++ R ∧ g = R.length ∧ sx = .int .i64 D.length ∧ so = .bool (b && D.all cB) ∧ Below w.heap.size w wr

set_option maxHeartbeats 1000000 in
theorem goodProgram_any (L : List Cl) (v : Value) (w : World) (hv : SlC w (fun _ => True) v L) (hn : nodesC L ≤ 1048576) :
    Calls Try.prog 40 #[v] w fun e w' => e = .returned (.bool (pB L)) ∧ Below w.heap.size w w' := by
  obtain ⟨A, d, rfl, hs⟩ := hv.form
  have hle := nodesC_le L
  generalize hr : pB L = rb
  have R := Lib.hid hr
  clear hr
  by_cases h3 : 24 < L.length
  · have hq : Hid (rb = false) := Lib.hid (by rw [← R.out, pB]; simp; omega)
    go_enter Try.func40, Try.ntmps40
    go_wp2_with fail
    go_ret
    exact ⟨by rw [hq.out]; rfl, Below.refl _ _⟩
  have hq : Hid (rb = L.all cB) := Lib.hid (by rw [← R.out, pB, decide_eq_true (by omega), Bool.true_and])
  have h0 : GpLoop w L L.length (.int .i64 0) w := ⟨[], L, rfl, rfl, rfl, rfl, Below.refl _ _⟩
  go_enter Try.func40, Try.ntmps40
  go_wp2_with fail
  go_loopg [10] L.length (GpLoop w L)
  case atStart => exact h0
  case round =>
    clear h0
    obtain ⟨D, R', hT, hg, rfl, hD, hb⟩ := hrel
    have HT := Lib.hid hT
    have HG := Lib.hid hg
    have HD := Lib.hid hD
    clear hT hg hD
    have hsr := hs.below hb
    cases R' with
    | nil =>
      have eD : D = L := by rw [HT.out, List.append_nil]
      subst eD
      go_wp2_with fail
      go_ret
      exact ⟨by rw [hq.out, HD.out]; rfl, hb⟩
    | cons c r =>
      have e1 : D.length < L.length := by rw [HT.out, List.length_append]; simp
      have hnod : c.nodes ≤ 1048576 := by have := hn; rw [HT.out, nodesC_app] at this; simp only [nodesC] at this; omega
      have hn1 : c.hd.nodes < 1048576 := by simp only [Cl.nodes] at hnod; omega
      have hn2 : c.bd.nodes ≤ 1048576 := by simp only [Cl.nodes] at hnod; omega
      rw [HT.out] at hsr
      rw [show (D ++ c :: r).length = L.length by rw [← HT.out]] at hsr
      obtain ⟨b1, o1, rfl, _, c10, c11, c12, ⟨v1, c13, hv1⟩, ⟨v2, c14, hv2⟩, c15, _⟩ := SlC.at_ hsr (by simp)
      obtain ⟨A1, d1, rfl, hv1⟩ := hv1.form
      obtain ⟨A2, d2, rfl, hv2⟩ := hv2.form
      clear hsr
      have hX : Below wr.heap.size wr (wr.alloc (.cells #[.int .i64 c.k, .int .i64 c.n, .string c.s, .slice A1 c.hd.length d1, .slice A2 c.bd.length d2, .int .i64 c.vars] 47)) := (Below.refl _ _).alloc (Nat.le_refl _) _
      have hX' := hb.trans (hX.mono hb.size)
      go_wp2_with fail
      refine (goodClause_any c _ _ _ (hv1.below hX) (hv2.below hX) hn1 hn2).mono ?_
      rintro e w2 ⟨rfl, hb2⟩
      have hb3 := hX'.trans (hb2.mono hX'.size)
      generalize hgb : cB c = gb
      have HGB := Lib.hid hgb
      clear hgb
      cases gb with
      | false =>
        go_wp2_with fail
        go_ret
        refine ⟨?_, hb3⟩
        rw [hq.out, HT.out, List.all_append, List.all_cons, HGB.out, Bool.false_and, Bool.and_false]; rfl
      | true =>
        go_wp2_with fail
        go_roundg r.length
        case measure => rw [HG.out]; simp
        case rel =>
          refine ⟨D ++ [c], r, ?_, rfl, ?_, ?_, hb3⟩
          · rw [HT.out, List.append_assoc]; rfl
          · rw [List.length_append]; rfl
          · rw [List.all_append, HD.out, List.all_cons, HGB.out]; rfl


theorem info_clause : (Try.prog.info? 47).map (fun i => (i.zero, i.size, i.bytes)) = some (some (.agg #[.int .i64 0, .int .i64 0, .string .empty, .slice none 0 0, .slice none 0 0, .int .i64 0]), 6, 88) := by kernel_rfl

/-- The cells xs, six a clause, are the clauses L's; what they lean on is p's. -/
def CsC (w : World) (p : Nat → Prop) : List Cl → List Value → Prop
  | [], xs => xs = []
  | c :: r, xs => ∃ u v ys, xs = .int .i64 c.k :: .int .i64 c.n :: .string c.s :: u :: v :: .int .i64 c.vars :: ys ∧ Sl w p u c.hd ∧ Sl w p v c.bd ∧ CsC w p r ys
section
variable {w w' : World} {p q : Nat → Prop}
theorem CsC.imp : ∀ {L : List Cl} {xs : List Value}, CsC w p L xs → (∀ k, p k → k < w.heap.size → q k) → CsC w q L xs
  | [], _, h, _ => h
  | _ :: _, _, ⟨u, v, ys, e, h1, h2, h3⟩, hk => ⟨u, v, ys, e, h1.imp hk, h2.imp hk, h3.imp hk⟩
theorem CsC.keep : ∀ {L : List Cl} {xs : List Value}, CsC w p L xs → (∀ k, p k → k < w.heap.size → w'.heap[k]? = w.heap[k]?) → CsC w' p L xs
  | [], _, h, _ => h
  | _ :: _, _, ⟨u, v, ys, e, h1, h2, h3⟩, hk => ⟨u, v, ys, e, h1.keep hk, h2.keep hk, h3.keep hk⟩
theorem CsC.app : ∀ {L : List Cl} {xs ys : List Value} {M : List Cl}, CsC w p L xs → CsC w p M ys → CsC w p (L ++ M) (xs ++ ys)
  | [], _, _, _, h, h' => by cases h; exact h'
  | _ :: _, _, _, _, ⟨u, v, zs, e, h1, h2, h3⟩, h' => ⟨u, v, _, by rw [e]; rfl, h1, h2, h3.app h'⟩
theorem CsC.seg : ∀ {L : List Cl} {xs : List Value} {b o : Nat}, CsC w p L xs → (0 < L.length → p b) → (∀ j u, xs[j]? = some u → w.cell? ⟨b, o + j, none⟩ = some u) → SegC w p L b o
  | [], _, _, _, _, _, _ => trivial
  | c :: r, xs, b, o, ⟨u, v, ys, e, h1, h2, h3⟩, hp, hc => by
    subst e
    have hb := hp (by simp)
    refine ⟨hb, hc 0 _ rfl, hc 1 _ rfl, hc 2 _ rfl, ⟨u, hc 3 _ rfl, h1⟩, ⟨v, hc 4 _ rfl, h2⟩, hc 5 _ rfl, h3.seg (fun _ => hb) fun j x hx => ?_⟩
    rw [show o + 6 + j = o + (j + 6) by omega]
    exact hc (j + 6) x (by simpa using hx)
theorem SlC.own {L : List Cl} {base : Nat} {e : TypeId} {v : Value} {xs : List Value} (h : w.ownsRow base e 6 v L.length xs) (hc : CsC w p L xs) (hp : ∀ g, v.ownBlock = some g → p g) : SlC w p v L := by
  obtain ⟨A, cap, rfl⟩ := own_form h
  obtain ⟨hle, g, cur, hg⟩ := own_blk h
  refine ⟨A, cap, rfl, hle, fun h0 => ?_⟩
  obtain ⟨rfl, _, hpl, hcells⟩ := hg h0
  refine ⟨g, 0, rfl, hc.seg (fun _ => hp g rfl) fun j u hu => ?_⟩
  rw [Nat.zero_add, hpl.cell j]
  exact hcells j u hu
end
structure PrRel (w : World) (L D R : List Cl) (u : Value) (xs : List Value) (wr : World) : Prop where
  split : L = D ++ R
  own : wr.ownsRow w.heap.size 47 6 u D.length xs
  cs : CsC wr (fun k => w.heap.size ≤ k ∧ u.ownBlock ≠ some k) D xs
  chg : Below w.heap.size w wr
def PrLoop (w : World) (L : List Cl) (g : Nat) (s3 s8 : Value) (wr : World) : Prop := ∃ D R xs, PrRel w L D R s3 xs wr ∧ g = R.length ∧ s8 = .int .i64 D.length

theorem PrRel.step {w wr W w3 : World} {L D r : List Cl} {c : Cl} {u v3 y z : Value} {xs : List Value}
    (h : PrRel w L D (c :: r) u xs wr) (hC : Below wr.heap.size wr W) (hy : Sl W (fun k => wr.heap.size ≤ k) y c.hd) (hz' : Sl W (fun k => wr.heap.size ≤ k) z c.bd)
    (ho3 : w3.ownsRow w.heap.size 47 6 v3 (D.length + 1) (xs ++ [.int .i64 c.k, .int .i64 c.n, .string c.s, y, z, .int .i64 c.vars]))
    (hg : W.grownBy w3 u.ownBlock) (hat : v3.ownBlock = u.ownBlock ∨ v3.ownBlock = some W.heap.size) :
    PrRel w L (D ++ [c]) r v3 (xs ++ [.int .i64 c.k, .int .i64 c.n, .string c.s, y, z, .int .i64 c.vars]) w3 := by
  have hlt := h.own.lt
  have hz := h.chg.size
  have hWs := hC.size
  have hu : ∀ k, u.ownBlock = some k → w.heap.size ≤ k ∧ k < wr.heap.size := fun k hk => hlt k hk
  have hnew : ∀ k, wr.heap.size ≤ k → k < W.heap.size → (w.heap.size ≤ k ∧ v3.ownBlock ≠ some k) ∧ u.ownBlock ≠ some k := fun k hk hl => by
    refine ⟨⟨by omega, ?_⟩, ?_⟩
    · rcases hat with e | e <;> rw [e]
      · intro e2; have := hu k e2; omega
      · intro e2; simp at e2; omega
    · intro e2; have := hu k e2; omega
  refine ⟨by rw [h.split, List.append_assoc]; rfl, by rw [List.length_append]; exact ho3, ?_, ?_⟩
  · have h1 : CsC W (fun k => (w.heap.size ≤ k ∧ v3.ownBlock ≠ some k) ∧ u.ownBlock ≠ some k) (D ++ [c]) (xs ++ [.int .i64 c.k, .int .i64 c.n, .string c.s, y, z, .int .i64 c.vars]) := by
      refine CsC.app ?_ ⟨y, z, [], rfl, hy.imp hnew, hz'.imp hnew, rfl⟩
      refine (h.cs.imp (q := fun k => (w.heap.size ≤ k ∧ v3.ownBlock ≠ some k) ∧ u.ownBlock ≠ some k) fun k hk hl => ⟨⟨hk.1, ?_⟩, hk.2⟩).keep fun k hk hl => hC.block k hl
      rcases hat with e | e <;> rw [e]
      · exact hk.2
      · intro e2; simp at e2; omega
    exact (h1.keep (w' := w3) fun k hk hl => hg.block k hl (fun e => hk.2 e.symm)).imp fun k hk _ => hk.1
  · refine (h.chg.trans (hC.mono hz)).grown hg (by omega) fun k hk => by have := hu k hk; omega

end Go.Proofs.Ytdiophafmokfiaa
namespace Go.Proofs.Ytdiophafmokfiaa
open Go.RowKit

/-- The remainder modulo 2^40 that is not negative. -/
def low (n : Int) : Int := n % 1099511627776
theorem low_bounds (n : Int) : 0 ≤ low n ∧ low n < 1099511627776 := by unfold low; omega

/-- Where a number stands in a list. -/
def pos (n : Int) : List Int → Option Nat
  | [] => none
  | k :: r => if n = k then some 0 else (pos n r).map (· + 1)
/-- The number of a variable, by the order in which the variables have come; the variables then. -/
def numV (ks : List Int) (n : Int) : Int := ((pos n ks).getD ks.length : Nat)
def numS (ks : List Int) (n : Int) : List Int := if (pos n ks).isSome then ks else ks ++ [n]
def entsFrom (i : Nat) : List Int → List (Int × Value)
  | [] => []
  | k :: r => (k, .int .i64 i) :: entsFrom (i + 1) r
theorem length_entsFrom : ∀ (ks : List Int) (i : Nat), (entsFrom i ks).length = ks.length
  | [], _ => rfl
  | _ :: r, i => by simp [entsFrom, length_entsFrom r (i + 1)]
theorem aget_entsFrom (n : Int) : ∀ (ks : List Int) (i : Nat), aget n (entsFrom i ks) = (pos n ks).map fun j => Value.int .i64 ((i + j : Nat) : Int)
  | [], _ => rfl
  | k :: r, i => by
    simp only [entsFrom, aget, pos]
    by_cases e : n = k
    · simp [e]
    · simp only [e, if_false, aget_entsFrom n r (i + 1), Option.map_map]
      congr 1
      funext j
      simp only [Function.comp]
      congr 2
      omega
theorem entsFrom_snoc (n : Int) : ∀ (ks : List Int) (i : Nat), entsFrom i (ks ++ [n]) = entsFrom i ks ++ [(n, .int .i64 ((i + ks.length : Nat) : Int))]
  | [], i => rfl
  | k :: r, i => by
    simp only [List.cons_append, entsFrom, entsFrom_snoc n r (i + 1), List.length_cons]
    congr 5
    omega
/-- The map in block mb numbers the variables ks. -/
def NumIs (w : World) (mb : Nat) (ks : List Int) : Prop := MapIs w mb (entsFrom 0 ks)
theorem numS_length (ks : List Int) (n : Int) : (numS ks n).length ≤ ks.length + 1 := by
  unfold numS; split <;> simp

theorem pos_snoc {n : Int} : ∀ {ks : List Int}, pos n ks = none → pos n (ks ++ [n]) = some ks.length
  | [], _ => by simp [pos]
  | k :: r, h => by
    simp only [pos] at h
    by_cases e : n = k
    · simp [e] at h
    · simp only [e, if_false, Option.map_eq_none_iff] at h
      simp [pos, e, pos_snoc h]
theorem Plot.not_map {w : World} {g mb : Nat} {t : TypeId} {cs : Array Value} {ents : List (Int × Value)} (h : Plot w g t cs) (hm : MapIs w mb ents) : g ≠ mb := by
  rintro rfl
  obtain ⟨es, clock, hb, _⟩ := hm
  unfold Plot at h
  rw [hb] at h
  cases h

theorem info_int : (Try.prog.info? 3).map (fun i => (i.zero, i.size, i.bytes)) = some (some (.int .i64 0), 1, 8) := by kernel_rfl
theorem zero_int (w : World) : (zeroValue 3).run Try.prog w = .ok (.int .i64 0) w := by
  obtain ⟨i0, hi0, hz0, _⟩ := info_parts info_int
  simp [zeroValue, typeInfo, hi0, hz0]

theorem tmod_bounds (n : Int) : -1099511627776 < n.tmod 1099511627776 ∧ n.tmod 1099511627776 < 1099511627776 := by
  rcases Int.le_total 0 n with h | h
  · rw [Int.tmod_eq_emod_of_nonneg h]; omega
  · have e : n = -(-n) := by omega
    rw [e, Int.neg_tmod, Int.tmod_eq_emod_of_nonneg (by omega)]; omega
theorem low_of_tmod (n : Int) : low n = if 0 ≤ n.tmod 1099511627776 then n.tmod 1099511627776 else n.tmod 1099511627776 + 1099511627776 := by
  unfold low
  rcases Int.le_total 0 n with h | h
  · rw [Int.tmod_eq_emod_of_nonneg h]; omega
  · have e : n.tmod 1099511627776 = -((-n) % 1099511627776) := by
      have e : n = -(-n) := by omega
      rw [e, Int.neg_tmod, Int.tmod_eq_emod_of_nonneg (by omega)]; simp
    rw [e]; omega

set_option maxHeartbeats 400000 in
theorem remainder_any (n : Int) (w : World) : Calls Try.prog 30 #[.int .i64 n] w fun e w' => e = .returned (.int .i64 (low n)) ∧ w = w' := by
  obtain ⟨hb1, hb2⟩ := tmod_bounds n
  have HL := Lib.hid (low_of_tmod n)
  go_enter Try.func30, Try.ntmps30
  go_wp2_with fail
  all_goals go_ret
  · exact ⟨by rw [HL.out, if_neg (by omega)]; rfl, rfl⟩
  · exact ⟨by rw [HL.out, if_pos (by assumption)]; rfl, rfl⟩

set_option maxHeartbeats 400000 in
theorem shift1_any (n m : Int) (vb : Nat) (w : World) (hv : Plot w vb 3 #[.int .i64 m]) (h0 : 0 ≤ m) (h1 : m < 1099511627776) :
    Calls Try.prog 32 #[.int .i64 n, .pointer (some ⟨vb, 0, none⟩)] w fun e w' => e = .returned (.int .i64 (low n + m)) ∧ ∃ q, w' = w.drewN q := by
  obtain ⟨hb1, hb2⟩ := low_bounds n
  have c0 : w.cell? ⟨vb, 0, none⟩ = some (.int .i64 m) := hv.cell 0
  go_enter Try.func32, Try.ntmps32
  go_wp2_with fail
  go_quiet ((go_at_call 30; exact Calls.quiet_of_same ((remainder_any _ _).mono fun e w' h => ⟨h.1, h.2.symm⟩)))
  go_wp2_with fail
  go_ret
  exact ⟨rfl, _, rfl⟩

theorem low_twice (n : Int) : (n.tmod 1099511627776 + 1099511627776).tmod 1099511627776 = low n := by
  obtain ⟨h1, h2⟩ := tmod_bounds n
  rw [Int.tmod_eq_emod_of_nonneg (by omega), low_of_tmod]
  split <;> omega

set_option maxHeartbeats 400000 in
theorem shifted1_any (n : Int) (w : World) : Calls Try.prog 33 #[.int .i64 n] w fun e w' => e = .returned (.int .i64 (low n)) ∧ w = w' := by
  obtain ⟨hb1, hb2⟩ := tmod_bounds n
  have HL2 := Lib.hid (show (n.tmod 1099511627776 + 1099511627776) % 1099511627776 = low n by rw [← low_twice, Int.tmod_eq_emod_of_nonneg (a := n.tmod 1099511627776 + 1099511627776) (by omega)])
  go_enter Try.func33, Try.ntmps33
  go_wp2_with fail
  go_ret
  refine ⟨?_, rfl⟩
  rw [← HL2.out]; rfl

set_option maxHeartbeats 400000 in
theorem shifted2_any (n m : Int) (fb nb : Nat) (w : World) (hf : Plot w fb 56 #[.func (.func 33) #[] #[]]) (hv : Plot w nb 3 #[.int .i64 m]) :
    Calls Try.prog 35 #[.int .i64 n, .pointer (some ⟨fb, 0, none⟩), .pointer (some ⟨nb, 0, none⟩)] w fun e w' => e = .returned (.int .i64 (low n + low m)) ∧ ∃ q, w' = w.drewN q := by
  obtain ⟨hb1, hb2⟩ := low_bounds n
  obtain ⟨hb3, hb4⟩ := low_bounds m
  have c0 : w.cell? ⟨fb, 0, none⟩ = some (.func (.func 33) #[] #[]) := hf.cell 0
  have c1 : w.cell? ⟨nb, 0, none⟩ = some (.int .i64 m) := hv.cell 0
  go_enter Try.func35, Try.ntmps35
  go_wp2_with fail
  go_quiet ((go_at_call 33; exact Calls.quiet_of_same ((shifted1_any _ _).mono fun e w' h => ⟨h.1, h.2.symm⟩)))
  go_wp2_with fail
  go_ret
  exact ⟨rfl, _, rfl⟩

set_option maxHeartbeats 400000 in
theorem tidy1_any (n : Int) (ks : List Int) (vb mb : Nat) (w : World) (hv : Plot w vb 59 #[.map (some mb)]) (hm : NumIs w mb ks) :
    Calls Try.prog 36 #[.int .i64 n, .pointer (some ⟨vb, 0, none⟩)] w fun e w' => e = .returned (.int .i64 (numV ks n)) ∧ NumIs w' mb (numS ks n) ∧ Chg (fun k => k = mb) w w' := by
  have c0 : w.cell? ⟨vb, 0, none⟩ = some (.map (some mb)) := hv.cell 0
  have hlook := MapIs.lookup (P := Try.prog) hm Try.underlying59 Try.underlying3 (zero_int w) n true
  rw [aget_entsFrom] at hlook
  have hlen := MapIs.len (P := Try.prog) hm Try.underlying59
  rw [length_entsFrom] at hlen
  obtain ⟨w1, hup, hm1, hc1, hs1⟩ := MapIs.update (P := Try.prog) hm Try.underlying59 Try.underlying3 n (.int .i64 ks.length)
  cases hp : pos n ks with
  | none =>
    rw [hp] at hlook
    simp only [Option.map_none, Option.getD_none, Option.isSome_none, if_true] at hlook
    have h1 : numV ks n = ks.length := by simp [numV, hp]
    have h2 : NumIs w1 mb (numS ks n) := by
      unfold NumIs numS
      rw [hp]
      simp only [Option.isSome_none, Bool.false_eq_true, if_false]
      rw [entsFrom_snoc]
      rw [aput_none (by rw [aget_entsFrom, hp]; rfl)] at hm1
      simpa using hm1
    have H1 := Lib.hid h1
    clear h1 hp
    go_enter Try.func36, Try.ntmps36
    go_wp2_with fail
    go_ret
    exact ⟨by rw [H1.out]; rfl, h2, hc1⟩
  | some j =>
    rw [hp] at hlook
    simp only [Option.map_some, Option.getD_some, Option.isSome_some, if_true] at hlook
    have h1 : numV ks n = j := by simp [numV, hp]
    have h2 : NumIs w mb (numS ks n) := by
      unfold numS
      rw [hp]
      exact hm
    have H1 := Lib.hid h1
    clear h1 hp
    go_enter Try.func36, Try.ntmps36
    go_wp2_with fail
    go_ret
    exact ⟨by rw [H1.out]; rfl, h2, Chg.refl _ _⟩

set_option maxHeartbeats 400000 in
theorem tidied1_any (n : Int) (ks : List Int) (vb mb : Nat) (w : World) (hv : Plot w vb 59 #[.map (some mb)]) (hm : NumIs w mb ks) :
    Calls Try.prog 37 #[.int .i64 n, .pointer (some ⟨vb, 0, none⟩)] w fun e w' => e = .returned (.int .i64 (numV ks n)) ∧ NumIs w' mb (numS ks n) ∧ Chg (fun k => k = mb) w w' := by
  have c0 : w.cell? ⟨vb, 0, none⟩ = some (.map (some mb)) := hv.cell 0
  have hlook := MapIs.lookup (P := Try.prog) hm Try.underlying59 Try.underlying3 (zero_int w) n true
  rw [aget_entsFrom] at hlook
  have hlen := MapIs.len (P := Try.prog) hm Try.underlying59
  rw [length_entsFrom] at hlen
  obtain ⟨w1, hup, hm1, hc1, hs1⟩ := MapIs.update (P := Try.prog) hm Try.underlying59 Try.underlying3 n (.int .i64 ks.length)
  cases hp : pos n ks with
  | none =>
    rw [hp] at hlook
    simp only [Option.map_none, Option.getD_none, Option.isSome_none, if_true] at hlook
    have h1 : numV ks n = ks.length := by simp [numV, hp]
    have h2 : NumIs w1 mb (numS ks n) := by
      unfold NumIs numS
      rw [hp]
      simp only [Option.isSome_none, Bool.false_eq_true, if_false]
      rw [entsFrom_snoc]
      rw [aput_none (by rw [aget_entsFrom, hp]; rfl)] at hm1
      simpa using hm1
    have hlk2 := MapIs.lookup (P := Try.prog) h2 Try.underlying59 Try.underlying3 (zero_int w1) n false
    have c1 : w1.cell? ⟨vb, 0, none⟩ = some (.map (some mb)) := (hv.chg hc1 (fun e => Plot.not_map hv hm e)).cell 0
    rw [aget_entsFrom, show pos n (numS ks n) = some ks.length by unfold numS; rw [hp]; simpa using pos_snoc hp] at hlk2
    simp only [Option.map_some, Option.getD_some, Bool.false_eq_true, if_false] at hlk2
    have H1 := Lib.hid h1
    clear h1 hp
    go_enter Try.func37, Try.ntmps37
    go_wp2_with fail
    go_ret
    exact ⟨by rw [H1.out]; rfl, h2, hc1⟩
  | some j =>
    rw [hp] at hlook
    simp only [Option.map_some, Option.getD_some, Option.isSome_some, if_true] at hlook
    have h1 : numV ks n = j := by simp [numV, hp]
    have h2 : NumIs w mb (numS ks n) := by
      unfold numS
      rw [hp]
      exact hm
    have hlk2 := MapIs.lookup (P := Try.prog) hm Try.underlying59 Try.underlying3 (zero_int w) n false
    rw [aget_entsFrom, hp] at hlk2
    simp only [Option.map_some, Option.getD_some, Bool.false_eq_true, if_false] at hlk2
    have H1 := Lib.hid h1
    clear h1 hp
    go_enter Try.func37, Try.ntmps37
    go_wp2_with fail
    go_ret
    exact ⟨by rw [H1.out]; rfl, h2, Chg.refl _ _⟩
end Go.Proofs.Ytdiophafmokfiaa
namespace Go.Proofs.Ytdiophafmokfiaa
open Go.RowKit
set_option maxRecDepth 100000

/-- What gives the variables their numbers: a function value, and what it knows. -/
structure Num (σ : Type) where
  fid : FuncId
  cap : Array Value
  own : Nat → Prop
  lean : Nat → Prop
  inv : σ → World → Prop
  val : σ → Int → Int
  nxt : σ → Int → σ
structure Num.Ok {σ : Type} (N : Num σ) : Prop where
  keep : ∀ s w w', N.inv s w → (∀ k, N.lean k → w'.heap[k]? = w.heap[k]?) → N.inv s w'
  lt : ∀ s w k, N.inv s w → N.lean k → k < w.heap.size
  sub : ∀ k, N.own k → N.lean k
  bare : ∀ s w k c t f, N.inv s w → N.own k → w.heap[k]? ≠ some (.cells c t f)
  enter : ∀ (args : Array Value) (w : World), (callFunc N.fid args).run Try.prog w = .ok (.enter N.fid args) w
  call : ∀ s n w, N.inv s w → Calls Try.prog N.fid (#[.int .i64 n] ++ N.cap) w fun e w' => e = .returned (.int .i64 (N.val s n)) ∧ N.inv (N.nxt s n) w' ∧ Chg N.own w w'

def Num.v1 {σ : Type} (N : Num σ) (k n : Int) (s : σ) : Int := if k = 0 then N.val s n else n
def Num.s1 {σ : Type} (N : Num σ) (k n : Int) (s : σ) : σ := if k = 0 then N.nxt s n else s
/-- Every variable gets its number, each term ahead of its arguments. -/
def Ts.ren {σ : Type} (N : Num σ) : Ts → σ → Ts × σ
  | .nil, s => (.nil, s)
  | .cons k n b ar r, s => (.cons k (N.v1 k n s) b (ar.ren N (N.s1 k n s)).1 (r.ren N (ar.ren N (N.s1 k n s)).2).1, (r.ren N (ar.ren N (N.s1 k n s)).2).2)
theorem Ts.ren_app {σ : Type} (N : Num σ) (D R : Ts) : ∀ s : σ, (D.app R).ren N s = ((D.ren N s).1.app (R.ren N (D.ren N s).2).1, (R.ren N (D.ren N s).2).2) := by
  induction D with
  | nil => intro s; rfl
  | cons k n b ar r _ ih => intro s; simp only [Ts.app, Ts.ren, ih]
theorem Ts.length_ren {σ : Type} (N : Num σ) (T : Ts) : ∀ s : σ, (T.ren N s).1.length = T.length := by
  induction T with
  | nil => intro s; rfl
  | cons k n b ar r _ ih => intro s; simp only [Ts.ren, Ts.length, ih]
theorem Ts.nodes_ren {σ : Type} (N : Num σ) (T : Ts) : ∀ s : σ, (T.ren N s).1.nodes = T.nodes := by
  induction T with
  | nil => intro s; rfl
  | cons k n b ar r iha ih => intro s; simp only [Ts.ren, Ts.nodes, ih, iha]

section
variable {σ : Type} {N : Num σ}
theorem Num.Ok.cell_none (ok : N.Ok) {w : World} {s : σ} {k o : Nat} (hi : N.inv s w) (ho : N.own k) : w.cell? ⟨k, o, none⟩ = none := by
  have := fun c t f => ok.bare s w k c t f hi ho
  unfold World.cell?
  split
  · rename_i h; exact absurd h (this _ _ _)
  · rfl
theorem Num.Ok.sl (ok : N.Ok) {w w' : World} {p : Nat → Prop} {s : σ} {v : Value} {T : Ts} (h : Sl w p v T) (hi : N.inv s w) (hc : Chg N.own w w') : Sl w' p v T := by
  have h1 : Sl w (fun k => p k ∧ ¬ N.own k) v T := h.imp' fun k hk ⟨j, u, hu⟩ => ⟨hk, fun ho => by rw [ok.cell_none hi ho] at hu; cases hu⟩
  exact (h1.chg hc fun k hk => hk.2).imp fun k hk _ => hk.1
end

def RenSaid {σ : Type} (N : Num σ) (ar : Ts) : Prop := ∀ (k n : Int) (b : ByteArray) (v : Value) (s : σ) (w : World), Sl w (fun _ => True) v ar → N.inv s w → ar.nodes ≤ 1048576 →
    Calls Try.prog 34 #[.agg #[.int .i64 k, .int .i64 n, .string b, v], .func (.func N.fid) #[] N.cap] w fun e w' => ∃ v', e = .returned (.agg #[.int .i64 k, .int .i64 (N.v1 k n s), .string b, v']) ∧
      Sl w' (fun k => w.heap.size ≤ k) v' (ar.ren N (N.s1 k n s)).1 ∧ N.inv (ar.ren N (N.s1 k n s)).2 w' ∧ Chg N.own w w'

structure RenCut {σ : Type} (N : Num σ) (w : World) (k n : Int) (b : ByteArray) (v : Value) (s : σ) (wx : World) : Prop where
  t : Plot wx w.heap.size 24 #[.int .i64 k, .int .i64 n, .string b, v]
  r : Plot wx (w.heap.size + 1) 24 #[.int .i64 0, .int .i64 0, .string ⟨#[]⟩, .slice none 0 0]
  inv : N.inv s wx
  chg : Chg N.own w wx

structure RenRel {σ : Type} (N : Num σ) (w : World) (T : Ts) (k n : Int) (b : ByteArray) (s : σ) (u : Value) (D R : Ts) (xs : List Value) (wr : World) : Prop where
  split : T = D.app R
  t : Plot wr w.heap.size 24 #[.int .i64 k, .int .i64 n, .string b, u]
  r : Plot wr (w.heap.size + 1) 24 #[.int .i64 0, .int .i64 0, .string ⟨#[]⟩, .slice none 0 0]
  own : wr.ownsRow (w.heap.size + 2) 24 4 u D.length xs
  cs : Cs wr (fun k => w.heap.size + 2 ≤ k ∧ u.ownBlock ≠ some k) (D.ren N s).1 xs
  inv : N.inv (D.ren N s).2 wr
  chg : Chg N.own w wr
def RenLoop {σ : Type} (N : Num σ) (w : World) (T : Ts) (k n : Int) (b : ByteArray) (s : σ) (g : Nat) (s21 : Value) (wr : World) : Prop :=
  ∃ (u : Value) (D R : Ts) (xs : List Value), RenRel N w T k n b s u D R xs wr ∧ g = R.length ∧ s21 = .int .i64 D.length

theorem RenRel.step {σ : Type} {N : Num σ} (ok : N.Ok) {w wr W w3 : World} {T D r ar : Ts} {k n k1 n1 : Int} {b s1 : ByteArray} {s s0 : σ} {u v3 v : Value} {xs : List Value} (hi : N.inv s0 w)
    (h : RenRel N w T k n b s u D (.cons k1 n1 s1 ar r) xs wr) (hC : Chg N.own wr W)
    (hv : Sl W (fun k => wr.heap.size ≤ k) v (ar.ren N (N.s1 k1 n1 (D.ren N s).2)).1) (hI : N.inv (ar.ren N (N.s1 k1 n1 (D.ren N s).2)).2 W)
    (ho3 : w3.ownsRow (w.heap.size + 2) 24 4 v3 (D.length + 1) (xs ++ [.int .i64 k1, .int .i64 (N.v1 k1 n1 (D.ren N s).2), .string s1, v]))
    (hg : W.grownBy w3 u.ownBlock) (hat : v3.ownBlock = u.ownBlock ∨ v3.ownBlock = some W.heap.size) :
    RenRel N w T k n b s v3 (D.app (.cons k1 n1 s1 ar .nil)) r (xs ++ [.int .i64 k1, .int .i64 (N.v1 k1 n1 (D.ren N s).2), .string s1, v]) (w3.setCell ⟨w.heap.size, 3, none⟩ v3) := by
  have hlt := h.own.lt
  have hle : ∀ k, N.lean k → k < w.heap.size := fun k hk => ok.lt s0 w k hi hk
  have hsz := h.r.lt
  have hown : ∀ k, w.heap.size ≤ k → ¬ N.own k := fun k hk ho => by have := hle k (ok.sub k ho); omega
  have e : (D.app (.cons k1 n1 s1 ar .nil)).ren N s = ((D.ren N s).1.app (.cons k1 (N.v1 k1 n1 (D.ren N s).2) s1 (ar.ren N (N.s1 k1 n1 (D.ren N s).2)).1 .nil), (ar.ren N (N.s1 k1 n1 (D.ren N s).2)).2) := by
    rw [Ts.ren_app]; rfl
  have hu : ∀ k, u.ownBlock = some k → w.heap.size + 2 ≤ k ∧ k < wr.heap.size := fun k hk => hlt k hk
  have hWs := hC.size
  have hv3 : v3.ownBlock ≠ some w.heap.size := by
    rcases hat with e | e <;> rw [e]
    · intro e2; have := hu _ e2; omega
    · intro e2; simp at e2; omega
  have ht3 : Plot w3 w.heap.size 24 #[.int .i64 k, .int .i64 n, .string b, u] := (h.t.chg hC (hown _ (Nat.le_refl _))).grown hg (fun e => by have := hu _ e.symm; omega)
  have hr3 : Plot w3 (w.heap.size + 1) 24 #[.int .i64 0, .int .i64 0, .string ⟨#[]⟩, .slice none 0 0] := (h.r.chg hC (hown _ (by omega))).grown hg (fun e => by have := hu _ e.symm; omega)
  refine ⟨by rw [h.split, Ts.app_assoc]; rfl, ht3.set_ 3 _, hr3.far (by simp) _, ?_, ?_, ?_, ?_⟩
  · rw [Ts.length_app]
    exact ownsRow_setCell_other ho3 hv3 _
  · rw [e]
    have h1 : Cs W (fun k => (w.heap.size + 2 ≤ k ∧ v3.ownBlock ≠ some k) ∧ u.ownBlock ≠ some k) ((D.ren N s).1.app (.cons k1 (N.v1 k1 n1 (D.ren N s).2) s1 (ar.ren N (N.s1 k1 n1 (D.ren N s).2)).1 .nil)) (xs ++ [.int .i64 k1, .int .i64 (N.v1 k1 n1 (D.ren N s).2), .string s1, v]) := by
      refine Cs.app ?_ ⟨v, [], rfl, ?_, rfl⟩
      · refine (h.cs.imp (q := fun k => (w.heap.size + 2 ≤ k ∧ v3.ownBlock ≠ some k) ∧ u.ownBlock ≠ some k) fun k hk hl => ⟨⟨hk.1, ?_⟩, hk.2⟩).keep fun k hk hl => hC.block k hl (hown k (by omega))
        rcases hat with e | e <;> rw [e]
        · exact hk.2
        · intro e2; simp at e2; omega
      · refine hv.imp fun k hk hl => ⟨⟨by omega, ?_⟩, ?_⟩
        · rcases hat with e | e <;> rw [e]
          · intro e2; have := hu k e2; omega
          · intro e2; simp at e2; omega
        · intro e2; have := hu k e2; omega
    refine ((h1.keep (w' := w3) fun k hk hl => hg.block k hl (fun e => hk.2 e.symm)).imp (q := fun k => w.heap.size + 2 ≤ k ∧ v3.ownBlock ≠ some k) fun k hk _ => hk.1).keep fun k hk _ => ?_
    exact Below.heap_setCell _ _ _ _ (by simp; omega)
  · rw [e]
    refine ok.keep _ W _ hI fun k hk => ?_
    have := hle k hk
    rw [Below.heap_setCell _ _ _ _ (by simp; omega)]
    exact hg.block k (by omega) (fun e => by have := hu _ e.symm; omega)
  · refine Chg.setCell (((h.chg.trans hC fun _ _ h => h)).trans (Chg.of_grown hg) fun k hk hk2 => ?_) (fun h => by simp at h) _
    have := hu _ hk2; omega

set_option maxHeartbeats 400000 in
theorem renamed_of {σ : Type} {N : Num σ} (ok : N.Ok) (m : Nat) (ih : ∀ T : Ts, T.nodes < m → RenSaid N T) (T : Ts) (hm : T.nodes ≤ m) : RenSaid N T := by
  intro k n b v s w hv hi hn
  obtain ⟨A, c, rfl, hs⟩ := hv.form
  have hle := T.length_le
  have hen := ok.enter
  obtain ⟨i0, hi0, hz0, hz1, hz2⟩ := info_parts info_term
  have hlt : ∀ k, N.lean k → k < w.heap.size := fun k => ok.lt s w k hi
  have HLT := Lib.hid hlt
  clear hlt
  have hiW : N.inv s ((w.alloc (.cells #[.int .i64 k, .int .i64 n, .string b, .slice A T.length c] 24)).alloc (.cells #[.int .i64 0, .int .i64 0, .string ⟨#[]⟩, .slice none 0 0] 24)) :=
    ok.keep s w _ hi fun k hk => by
      have := HLT.out k hk
      rw [Below.heap_alloc _ _ _ (by simp; omega), Below.heap_alloc _ _ _ this]
  have hcW : Chg N.own w ((w.alloc (.cells #[.int .i64 k, .int .i64 n, .string b, .slice A T.length c] 24)).alloc (.cells #[.int .i64 0, .int .i64 0, .string ⟨#[]⟩, .slice none 0 0] 24)) :=
    ((Chg.refl _ _).alloc _).alloc _
  have b0 : Plot ((w.alloc (.cells #[.int .i64 k, .int .i64 n, .string b, .slice A T.length c] 24)).alloc (.cells #[.int .i64 0, .int .i64 0, .string ⟨#[]⟩, .slice none 0 0] 24)) w.heap.size 24 #[.int .i64 k, .int .i64 n, .string b, .slice A T.length c] :=
    (Plot.new w _ _).alloc _
  have b1 : Plot ((w.alloc (.cells #[.int .i64 k, .int .i64 n, .string b, .slice A T.length c] 24)).alloc (.cells #[.int .i64 0, .int .i64 0, .string ⟨#[]⟩, .slice none 0 0] 24)) (w.heap.size + 1) 24 #[.int .i64 0, .int .i64 0, .string ⟨#[]⟩, .slice none 0 0] := by
    have := Plot.new (w.alloc (.cells #[.int .i64 k, .int .i64 n, .string b, .slice A T.length c] 24)) 24 #[.int .i64 0, .int .i64 0, .string ⟨#[]⟩, .slice none 0 0]
    simpa using this
  go_enter Try.func34, Try.ntmps34
  go_upto_if 10 with fail
  go_cut [] (fun wx => RenCut N w k (N.v1 k n s) b (.slice A T.length c) (N.s1 k n s) wx)
  case first =>
    by_cases hk : k = 0
    · subst hk
      go_wp2_with fail
      refine (ok.call s n _ hiW).mono ?_
      rintro e w1 ⟨rfl, hi1, hc1⟩
      have d0 := b0.chg hc1 fun h => by have := HLT.out _ (ok.sub _ h); omega
      have d1 := b1.chg hc1 fun h => by have := HLT.out _ (ok.sub _ h); omega
      have c1 : w1.cell? ⟨w.heap.size, 1, none⟩ = some (.int .i64 n) := d0.cell 1
      have f1 : w1.frozen? ⟨w.heap.size, 1, none⟩ = false := d0.frozen 1
      go_wp2_with fail
      go_meet
      refine ⟨d0.set_ 1 _, d1.far (by simp) _, ?_, ?_⟩
      · refine ok.keep _ w1 _ (by simpa [Num.s1] using hi1) fun k hk => ?_
        have := HLT.out k hk
        exact Below.heap_setCell _ _ _ _ (by simp; omega)
      · exact (hcW.trans hc1 fun _ _ h => h).setCell (fun h => by simp at h) _
    · have hk' : (k == 0) = false := by simp [hk]
      have e1 : N.v1 k n s = n := by simp [Num.v1, hk]
      have e2 : N.s1 k n s = s := by simp [Num.s1, hk]
      have E1 := Lib.hid e1
      have E2 := Lib.hid e2
      clear e1 e2
      go_wp2_with fail
      go_meet
      rw [E1.out, E2.out]
      exact ⟨b0, b1, hiW, hcW⟩
  case rest =>
    clear hiW hcW b0 b1
    obtain ⟨d0, d1, hi1, hc1⟩ := hcut
    obtain ⟨a0, a1, a2, a3, af⟩ := d0.four
    have h0 : RenLoop N w T k (N.v1 k n s) b (N.s1 k n s) T.length (.int .i64 0) (wc.setCell ⟨w.heap.size, 3, none⟩ (.slice none 0 0)) := by
      refine ⟨.slice none 0 0, .nil, T, [], ⟨rfl, d0.set_ 3 _, d1.far (by simp) _, World.ownsRow_nil _ _ _ _, rfl, ?_, ?_⟩, rfl, rfl⟩
      · refine ok.keep _ wc _ hi1 fun k hk => ?_
        have := HLT.out k hk
        exact Below.heap_setCell _ _ _ _ (by simp; omega)
      · exact hc1.setCell (fun h => by simp at h) _
    clear d0 d1
    go_wp2_with fail
    go_loopg [21] T.length (RenLoop N w T k (N.v1 k n s) b (N.s1 k n s))
    case atStart => exact h0
    case round =>
      clear h0 a0 a1 a2 a3 af
      obtain ⟨u, D, R, xs, hrel, eg, rfl⟩ := hrel
      have hbz : w.heap.size + 1 < wr.heap.size := hrel.r.lt
      cases R with
      | nil =>
        have e1 : D.length = T.length := by rw [hrel.split, Ts.app_nil]
        have eD : D = T := by rw [hrel.split, Ts.app_nil]
        obtain ⟨Au, cu, hu⟩ : ∃ Au cu, u = .slice Au D.length cu := by
          rcases hrel.own.2 with ⟨h1, h2⟩ | ⟨g, cap, cur, h1, _⟩
          · exact ⟨none, 0, by rw [h1, h2]⟩
          · exact ⟨_, _, h1⟩
        subst hu
        subst eD
        have hsl : Sl wr (fun k => w.heap.size + 2 ≤ k) (.slice Au D.length cu) (D.ren N (N.s1 k n s)).1 := by
          have h1 := hrel.own
          rw [← Ts.length_ren N D (N.s1 k n s)] at h1
          have h2 := Sl.own h1 (hrel.cs.imp fun k hk _ => hk.1) fun g hg => (h1.lt g hg).1
          rwa [Ts.length_ren] at h2
        obtain ⟨a0, a1, a2, a3, af⟩ := hrel.t.four
        obtain ⟨b0, b1, b2, b3, bf⟩ := hrel.r.four
        have hI := hrel.inv
        have hC := hrel.chg
        clear eg hrel
        go_wp2_with fail
        refine bodyPost_ret (v := .agg #[.int .i64 k, .int .i64 (N.v1 k n s), .string b, .slice Au D.length cu]) (by simp [results, Try.results34, go_sem, b0, b1, b2, b3]) rfl ⟨_, rfl, ?_, ?_, ?_⟩
        · refine (hsl.keep (w' := _) fun k hk _ => ?_).imp fun k hk _ => by omega
          simp only [World.setCell, Array.getElem?_modify]
          repeat rw [if_neg (by omega)]
        · refine ok.keep _ wr _ hI fun k hk => ?_
          have := HLT.out k hk
          simp only [World.setCell, Array.getElem?_modify]
          repeat rw [if_neg (by omega)]
        · exact (((hC.setCell (fun h => by simp at h; omega) _).setCell (fun h => by simp at h; omega) _).setCell (fun h => by simp at h; omega) _).setCell (fun h => by simp at h; omega) _
      | cons k1 n1 s1 ar r =>
        have e1 : D.length < T.length := by rw [hrel.split, Ts.length_app]; simp [Ts.length]
        have e2 : ar.nodes < m ∧ ar.nodes ≤ 1048576 := by
          have h := hrel.split
          rw [h, Ts.nodes_app] at hm hn
          simp [Ts.nodes] at hm hn
          omega
        have hsl : Sl wr (fun k => k < w.heap.size) (.slice A T.length c) (D.app (.cons k1 n1 s1 ar r)) := by
          rw [← hrel.split]
          exact ok.sl (hs.imp fun k _ h => h) hi hrel.chg
        obtain ⟨b1, o1, rfl, hq1⟩ := Sl.at_ hsl (by simp [Ts.length])
        obtain ⟨_, c10, c11, c12, ⟨v1, c13, hv1⟩, _⟩ := seg_cons.1 hq1
        obtain ⟨A1, d1, rfl, hv1⟩ := hv1.form
        obtain ⟨Au, cu, hu⟩ : ∃ Au cu, u = .slice Au D.length cu := by
          rcases hrel.own.2 with ⟨h1, h2⟩ | ⟨g, cap, cur, h1, _⟩
          · exact ⟨none, 0, by rw [h1, h2]⟩
          · exact ⟨_, _, h1⟩
        subst hu
        obtain ⟨a0, a1, a2, a3, af⟩ := hrel.t.four
        have HG := Lib.hid eg
        clear eg hq1 hsl
        go_wp2_with fail
        refine wp_region_ord (fun ws => ws.cell? ⟨w.heap.size, 3, none⟩ = some (.slice Au D.length cu) ∧ ws.cell? ⟨wr.heap.size, 0, none⟩ = some (.int .i64 k1) ∧ ws.cell? ⟨wr.heap.size, 1, none⟩ = some (.int .i64 n1) ∧ ws.cell? ⟨wr.heap.size, 2, none⟩ = some (.string s1) ∧ ws.cell? ⟨wr.heap.size, 3, none⟩ = some (.slice A1 ar.length d1))
          6 [(0, true), (1, true), (2, true), (3, true), (4, false), (5, false)] (by kernel_rfl) (by kernel_rfl) ?S0 ?rest
        case S0 =>
          have hx := (Plot.new wr 24 #[.int .i64 k1, .int .i64 n1, .string s1, .slice A1 ar.length d1]).four
          have ht := (hrel.t.alloc (.cells #[.int .i64 k1, .int .i64 n1, .string s1, .slice A1 ar.length d1] 24)).cell 3
          exact ⟨ht, hx.1, hx.2.1, hx.2.2.1, hx.2.2.2.1⟩
        case rest =>
          iterate 4
            refine wpOrd_read rfl rfl ⟨?_, fun w' hS => ?_, fun _ _ _ h => h, ?_⟩
            rotate_left
            · obtain ⟨t1, t2, t3, t4, t5⟩ := hS
              go_simp
              exact rfl
          have hI1 : N.inv (D.ren N (N.s1 k n s)).2 (wr.alloc (.cells #[.int .i64 k1, .int .i64 n1, .string s1, .slice A1 ar.length d1] 24)).drew := ok.keep _ wr _ hrel.inv fun k hk => Below.heap_alloc _ _ _ (by have := HLT.out k hk; omega)
          have hsl1 : Sl (wr.alloc (.cells #[.int .i64 k1, .int .i64 n1, .string s1, .slice A1 ar.length d1] 24)).drew (fun _ => True) (.slice A1 ar.length d1) ar := hv1.any.keep fun k _ hk => Below.heap_alloc _ _ _ hk
          refine wpOrd_run rfl ?_
          go_wp2_with fail
          refine (ih ar e2.1 k1 n1 s1 _ _ _ hsl1 hI1 e2.2).mono ?_
          rintro e w2 ⟨v', rfl, hv', hI2, hc2⟩
          obtain ⟨Aw, cw, rfl, hv'⟩ := hv'.form
          have hown : ∀ k, w.heap.size ≤ k → ¬ N.own k := fun k hk ho => by have := HLT.out k (ok.sub k ho); omega
          have ht2 : Plot w2 w.heap.size 24 #[.int .i64 k, .int .i64 (N.v1 k n s), .string b, .slice Au D.length cu] := ((hrel.t.alloc _).drewN 1).chg hc2 (hown _ (Nat.le_refl _))
          have hx2 : Plot w2 wr.heap.size 24 #[.int .i64 k1, .int .i64 n1, .string s1, .slice A1 ar.length d1] := ((Plot.new wr _ _).drewN 1).chg hc2 (hown _ (by omega))
          have hzz : wr.heap.size < w2.heap.size := by have := hc2.size; simp at this; omega
          go_wp2_with fail
          refine ⟨⟨ht2.cell 3, hx2.cell 0, hx2.cell 1, hx2.cell 2, hx2.cell 3⟩, ?_⟩
          refine wpOrd_run rfl ?_
          go_wp2_with fail
          refine ⟨⟨(ht2.alloc _).cell 3, (hx2.alloc _).cell 0, (hx2.alloc _).cell 1, (hx2.alloc _).cell 2, (hx2.alloc _).cell 3⟩, ?_⟩
          simp only [wpOrd, List.drop_succ_cons, List.drop_zero]
          have hC3 : Chg N.own wr (w2.alloc (.cells #[.int .i64 k1, .int .i64 (N.v1 k1 n1 (D.ren N (N.s1 k n s)).2), .string s1, .slice Aw (ar.ren N (N.s1 k1 n1 (D.ren N (N.s1 k n s)).2)).1.length cw] 24)) := (((Chg.refl _ wr).alloc _).drew.trans hc2 fun _ _ h => h).alloc _
          have hI3 : N.inv (ar.ren N (N.s1 k1 n1 (D.ren N (N.s1 k n s)).2)).2 (w2.alloc (.cells #[.int .i64 k1, .int .i64 (N.v1 k1 n1 (D.ren N (N.s1 k n s)).2), .string s1, .slice Aw (ar.ren N (N.s1 k1 n1 (D.ren N (N.s1 k n s)).2)).1.length cw] 24)) := ok.keep _ w2 _ hI2 fun k hk => Below.heap_alloc _ _ _ (by have := HLT.out k hk; omega)
          have hv3 : Sl (w2.alloc (.cells #[.int .i64 k1, .int .i64 (N.v1 k1 n1 (D.ren N (N.s1 k n s)).2), .string s1, .slice Aw (ar.ren N (N.s1 k1 n1 (D.ren N (N.s1 k n s)).2)).1.length cw] 24)) (fun k => wr.heap.size ≤ k) (.slice Aw (ar.ren N (N.s1 k1 n1 (D.ren N (N.s1 k n s)).2)).1.length cw) (ar.ren N (N.s1 k1 n1 (D.ren N (N.s1 k n s)).2)).1 :=
            (hv'.below ((Below.refl _ _).alloc (Nat.le_refl _) _)).imp fun k hk _ => by simp at hk; omega
          have ho3 := own_chg hrel.own hC3 fun g hg => hown g (by have := (hrel.own.lt g hg).1; omega)
          have ht3 := ht2.alloc (.cells #[.int .i64 k1, .int .i64 (N.v1 k1 n1 (D.ren N (N.s1 k n s)).2), .string s1, .slice Aw (ar.ren N (N.s1 k1 n1 (D.ren N (N.s1 k n s)).2)).1.length cw] 24)
          go_wp2_with (at_builtin; refine wpList_append_at _ rfl (.tmp 26) (.tmp 30) _ rfl (w.heap.size + 2) 24 i0 _ 4 56 Try.underlying22 hi0 hz0 hz1 hz2 rfl (by omega) (.slice Au D.length cu) D.length xs rfl ho3 ⟨w2.heap.size, 0, none⟩ 1 1 [.int .i64 k1, .int .i64 (N.v1 k1 n1 (D.ren N (N.s1 k n s)).2), .string s1, .slice Aw (ar.ren N (N.s1 k1 n1 (D.ren N (N.s1 k n s)).2)).1.length cw] rfl rfl (cell_lit w2 _ _) (by simp [Value.oneCell']) (by simp only [maxLen]; omega) (by omega) (by simp; omega) ?next)
          case next =>
            intro v3 w3 hov hg hat
            have hat' : v3.ownBlock = (Value.slice Au D.length cu).ownBlock ∨ v3.ownBlock = some (w2.alloc (.cells #[.int .i64 k1, .int .i64 (N.v1 k1 n1 (D.ren N (N.s1 k n s)).2), .string s1, .slice Aw (ar.ren N (N.s1 k1 n1 (D.ren N (N.s1 k n s)).2)).1.length cw] 24)).heap.size := by simpa using hat
            have hstep := RenRel.step ok hi hrel hC3 hv3 hI3 hov hg hat'
            have ht4 : Plot w3 w.heap.size 24 #[.int .i64 k, .int .i64 (N.v1 k n s), .string b, .slice Au D.length cu] := ht3.grown hg (fun e => by have := (hrel.own.lt _ e.symm).1; omega)
            have c4 : w3.cell? ⟨w.heap.size, 3, none⟩ = some (.slice Au D.length cu) := ht4.cell 3
            have f4 : w3.frozen? ⟨w.heap.size, 3, none⟩ = false := ht4.frozen 3
            obtain ⟨Ag, cap, rfl⟩ := own_form hov
            clear hat hat' hov
            go_wp2_with fail
            go_roundg r.length
            case measure => rw [HG.out]; simp [Ts.length]
            case rel =>
              refine ⟨_, _, _, _, hstep, rfl, ?_⟩
              rw [Ts.length_app]; rfl

theorem ren_said {σ : Type} {N : Num σ} (ok : N.Ok) (T : Ts) : RenSaid N T := by
  have : ∀ m, ∀ T : Ts, T.nodes < m → RenSaid N T := by
    intro m
    induction m with
    | zero => intro T h; omega
    | succ m ih => intro T h; exact renamed_of ok m ih T (by omega)
  exact this _ T (Nat.lt_succ_self _)
end Go.Proofs.Ytdiophafmokfiaa
namespace Go.Proofs.Ytdiophafmokfiaa
open Go.RowKit

/-- Is a cell one of those that are still to be visited? -/
def InS (L : List Lev) (k i : Nat) : Prop := ∃ l ∈ L, l.b = k ∧ l.o ≤ i ∧ i < l.o + 4 * l.T.length
/-- Block k is a row of terms' cells. -/
def T24 (w : World) (k : Nat) : Prop := ∃ cur, Plot w k 24 cur
/-- In w' all levels have been visited, from the state s on to the state sf. -/
def RenL {σ : Type} (N : Num σ) (B : Nat) (w' : World) : List Lev → σ → σ → Prop
  | [], s, sf => sf = s
  | l :: r, s, sf => Seg w' (fun k => B ≤ k) (l.T.ren N s).1 l.b l.o ∧ RenL N B w' r (l.T.ren N s).2 sf
/-- What is not to be visited has not turned. -/
def Fr (L : List Lev) (w w' : World) : Prop := ∀ k i v, T24 w k → ¬ InS L k i → w.cell? ⟨k, i, none⟩ = some v → w'.cell? ⟨k, i, none⟩ = some v

/-- A level's cells are those of terms of the first world. -/
def LevIs (w0 w : World) (B : Nat) (l : Lev) : Prop :=
  B ≤ l.b ∧ ∃ cur xs, Plot w l.b 24 cur ∧ Cs w0 (fun _ => True) l.T xs ∧ ∀ j u, xs[j]? = some u → cur[l.o + j]? = some u

structure RnRel {σ : Type} (N : Num σ) (w0 : World) (s0 : σ) (T : Ts) (out : Value) (pb : Nat) (L : List Lev) (s : σ) (pv : Value) (xs : List Value) (w : World) : Prop where
  path : IsPath w w0.heap.size pb pv xs
  pbl : w0.heap.size ≤ pb
  pvs : PV L xs
  lev : ∀ l ∈ L, LevIs w0 w w0.heap.size l
  dis : (L.map Lev.b).Nodup
  inv : N.inv s w
  chg : Chg N.own w0 w
  small : nodesOf L ≤ T.nodes
  wand : ∀ w' sf, RenL N w0.heap.size w' L s sf → Fr L w w' → Sl w' (fun k => w0.heap.size ≤ k) out (T.ren N s0).1 ∧ sf = (T.ren N s0).2


theorem mem_push {T : Ts} {b o : Nat} {L : List Lev} {l : Lev} (h : l ∈ push T b o L) : (0 < T.length ∧ l = ⟨b, o, T⟩) ∨ l ∈ L := by
  unfold push at h
  split at h
  · exact .inr h
  · rcases List.mem_cons.1 h with h | h
    · exact .inl ⟨by omega, h⟩
    · exact .inr h
theorem inS_push {T : Ts} {b o k i : Nat} {L : List Lev} (h : InS (push T b o L) k i) : (b = k ∧ o ≤ i ∧ i < o + 4 * T.length) ∨ InS L k i := by
  obtain ⟨l, hl, h⟩ := h
  rcases mem_push hl with ⟨_, rfl⟩ | hl
  · exact .inl h
  · exact .inr ⟨l, hl, h⟩
theorem renL_push {σ : Type} {N : Num σ} {B : Nat} {w' : World} {T : Ts} {b o : Nat} {L : List Lev} {s sf : σ} (h : RenL N B w' (push T b o L) s sf) : Seg w' (fun k => B ≤ k) (T.ren N s).1 b o ∧ RenL N B w' L (T.ren N s).2 sf := by
  unfold push at h
  split at h
  · rename_i h0
    rw [Ts.nil_of_length h0]
    exact ⟨trivial, h⟩
  · exact h

theorem RnRel.step {σ : Type} {N : Num σ} {w0 wr w5 : World} {s0 s : σ} {T : Ts} {out : Value} {pb b o g : Nat} {k n : Int} {t : ByteArray} {ar r : Ts} {L : List Lev} {pv pv5 v v4 : Value} {xs xs5 ys xs4 : List Value} {cur curg : Array Value}
    (h : RnRel N w0 s0 T out pb (⟨b, o, .cons k n t ar r⟩ :: L) s pv xs wr)
    (hcur : Plot wr b 24 cur) (c0 : cur[o]? = some (.int .i64 k)) (c1 : cur[o + 1]? = some (.int .i64 n)) (c2 : cur[o + 2]? = some (.string t)) (c3 : cur[o + 3]? = some v) (hys : Cs w0 (fun _ => True) r ys) (cys : ∀ (j : Nat) u, ys[j]? = some u → cur[o + 4 + j]? = some u)
    (hpath : IsPath w5 w0.heap.size pb pv5 xs5) (hpv : PV (push ar g 0 (push r b (o + 4) L)) xs5) (hxs4 : Cs w0 (fun _ => True) ar xs4)
    (hother : ∀ k' cur', k' ≠ b → Plot wr k' 24 cur' → Plot w5 k' 24 cur')
    (hb5 : Plot w5 b 24 ((cur.setIfInBounds (o + 1) (.int .i64 (N.v1 k n s))).setIfInBounds (o + 3) v4))
    (hv4 : ∃ A c, v4 = .slice A ar.length c ∧ ar.length ≤ c ∧ (0 < ar.length → A = some ⟨g, 0, none⟩))
    (hg : 0 < ar.length → wr.heap.size ≤ g ∧ Plot w5 g 24 curg ∧ ∀ (j : Nat) u, xs4[j]? = some u → curg[j]? = some u)
    (hI : N.inv (N.s1 k n s) w5) (hC : Chg N.own w0 w5) :
    RnRel N w0 s0 T out pb (push ar g 0 (push r b (o + 4) L)) (N.s1 k n s) pv5 xs5 w5 := by
  have hd := h.dis
  simp only [List.map_cons, List.nodup_cons] at hd
  have hne : ∀ l ∈ L, l.b ≠ b := fun l hl e => hd.1 (by rw [← e]; exact List.mem_map_of_mem hl)
  have hbl := hcur.lt
  have hlev : ∀ l ∈ L, l.b < wr.heap.size := fun l hl => by
    obtain ⟨_, _, _, h1, _⟩ := h.lev l (List.mem_cons_of_mem _ hl)
    exact h1.lt
  have hB : w0.heap.size ≤ b := (h.lev _ (List.mem_cons_self ..)).1
  have hBr := h.chg.size
  have hsz : ((cur.setIfInBounds (o + 1) (.int .i64 (N.v1 k n s))).setIfInBounds (o + 3) v4).size = cur.size := by simp
  have hlt : ∀ {i : Nat} {u : Value}, cur[i]? = some u → i < cur.size := fun hu => (Array.getElem?_eq_some_iff.1 hu).1
  have hset : ∀ i u, i ≠ o + 1 → i ≠ o + 3 → cur[i]? = some u → ((cur.setIfInBounds (o + 1) (.int .i64 (N.v1 k n s))).setIfInBounds (o + 3) v4)[i]? = some u := fun i u h1 h3 hu => by
    rw [Array.getElem?_setIfInBounds_ne (by omega), Array.getElem?_setIfInBounds_ne (by omega)]; exact hu
  have d1 : ((cur.setIfInBounds (o + 1) (.int .i64 (N.v1 k n s))).setIfInBounds (o + 3) v4)[o + 1]? = some (.int .i64 (N.v1 k n s)) := by
    rw [Array.getElem?_setIfInBounds_ne (by omega), Array.getElem?_setIfInBounds_self_of_lt (hlt c1)]
  have d3 : ((cur.setIfInBounds (o + 1) (.int .i64 (N.v1 k n s))).setIfInBounds (o + 3) v4)[o + 3]? = some v4 := by
    rw [Array.getElem?_setIfInBounds_self_of_lt (by simpa using hlt c3)]
  refine ⟨hpath, h.pbl, hpv, ?_, ?_, hI, hC, ?_, ?_⟩
  · intro l hl
    rcases mem_push hl with ⟨hp, rfl⟩ | hl
    · obtain ⟨h1, h2, h3⟩ := hg hp
      exact ⟨by show _ ≤ g; omega, curg, xs4, h2, hxs4, fun j u hu => by rw [Nat.zero_add]; exact h3 j u hu⟩
    · rcases mem_push hl with ⟨hp, rfl⟩ | hl
      · exact ⟨hB, _, ys, hb5, hys, fun j u hu => hset _ _ (by show o + 4 + j ≠ _; omega) (by show o + 4 + j ≠ _; omega) (cys j u hu)⟩
      · obtain ⟨h1, cur', zs, h2, h3, h4⟩ := h.lev l (List.mem_cons_of_mem _ hl)
        exact ⟨h1, cur', zs, hother _ _ (hne l hl) h2, h3, h4⟩
  · have h1 : ((push r b (o + 4) L).map Lev.b).Nodup ∧ ∀ l ∈ push r b (o + 4) L, l.b < wr.heap.size := by
      constructor
      · unfold push
        split
        · exact hd.2
        · simpa using hd
      · intro l hl
        rcases mem_push hl with ⟨_, rfl⟩ | hl
        · exact hbl
        · exact hlev l hl
    unfold push
    split
    · exact h1.1
    · rename_i h0
      refine List.nodup_cons.2 ⟨fun hm => ?_, h1.1⟩
      obtain ⟨l, hl, e⟩ := List.mem_map.1 hm
      have h2 := h1.2 l hl
      have h3 := (hg (by omega)).1
      have e' : l.b = g := e
      omega
  · have := h.small
    rw [nodesOf_push, nodesOf_push]
    simp only [nodesOf, List.map_cons, List.sum_cons, Ts.nodes] at this ⊢
    omega
  · intro w' sf hR hF
    refine h.wand w' sf ?_ ?_
    · obtain ⟨hR1, hR2⟩ := renL_push hR
      obtain ⟨hR3, hR4⟩ := renL_push hR2
      have hcell : ∀ i u, (∀ l ∈ L, l.b ≠ b) → i < o + 4 → ((cur.setIfInBounds (o + 1) (.int .i64 (N.v1 k n s))).setIfInBounds (o + 3) v4)[i]? = some u → w'.cell? ⟨b, i, none⟩ = some u := by
        intro i u hL hi hu
        refine hF b i u ⟨_, hb5⟩ ?_ ((hb5.cell i).trans hu)
        intro hin
        rcases inS_push hin with ⟨e, h1, h2⟩ | hin
        · have := (hg (by omega)).1; omega
        · rcases inS_push hin with ⟨_, h1, _⟩ | ⟨l, hl, e, _⟩
          · omega
          · exact hL l hl e
      refine ⟨?_, hR4⟩
      refine seg_cons.2 ⟨hB, hcell o _ hne (by omega) (hset o _ (by omega) (by omega) c0), hcell (o + 1) _ hne (by omega) d1, hcell (o + 2) _ hne (by omega) (hset (o + 2) _ (by omega) (by omega) c2), ⟨v4, hcell (o + 3) _ hne (by omega) d3, ?_⟩, hR3⟩
      obtain ⟨A, c, e, hc, hA⟩ := hv4
      refine ⟨A, c, by rw [Ts.length_ren]; exact e, by rw [Ts.length_ren]; exact hc, fun hp => ?_⟩
      rw [Ts.length_ren] at hp
      exact ⟨g, 0, hA hp, hR1⟩
    · intro k' i u hT hin hu
      obtain ⟨cur', hk'⟩ := hT
      have hk'l := hk'.lt
      by_cases e : k' = b
      · subst e
        have hcc : cur' = cur := by
          unfold Plot at hk' hcur
          rw [hk'] at hcur
          injection hcur with hcur
          injection hcur
        subst hcc
        rw [hk'.cell i] at hu
        have hnot : ¬ (o ≤ i ∧ i < o + 4 * (Ts.cons k n t ar r).length) := fun hh => hin ⟨_, List.mem_cons_self .., rfl, hh⟩
        simp only [Ts.length] at hnot
        refine hF k' i u ⟨_, hb5⟩ ?_ ((hb5.cell i).trans (hset i u (by omega) (by omega) hu))
        intro hin2
        rcases inS_push hin2 with ⟨e, h1, h2⟩ | hin2
        · have := (hg (by omega)).1; omega
        · rcases inS_push hin2 with ⟨_, h1, h2⟩ | ⟨l, hl, e, _⟩
          · omega
          · exact hne l hl e
      · have h5 := hother k' cur' e hk'
        refine hF k' i u ⟨_, h5⟩ ?_ ((h5.cell i).trans ((hk'.cell i).symm.trans hu))
        intro hin2
        rcases inS_push hin2 with ⟨e2, h1, h2⟩ | hin2
        · have := (hg (by omega)).1; omega
        · rcases inS_push hin2 with ⟨e2, _, _⟩ | ⟨l, hl, hh⟩
          · exact e e2.symm
          · exact hin ⟨l, List.mem_cons_of_mem _ hl, hh⟩

def RnLoop {σ : Type} (N : Num σ) (w0 : World) (s0 : σ) (T : Ts) (out : Value) (pb : Nat) (g : Nat) (w : World) : Prop :=
  ∃ L s pv xs, RnRel N w0 s0 T out pb L s pv xs w ∧ g = nodesOf L

theorem info_path : (Try.prog.info? 51).map (fun i => (i.zero, i.size, i.bytes)) = some (some (.slice none 0 0), 1, 24) := by kernel_rfl

theorem Num.Ok.raw {σ : Type} {N : Num σ} (ok : N.Ok) {w w' : World} {s : σ} {v : Value} {l : Nat} {xs : List Value} (h : Raw w v l xs) (hi : N.inv s w) (hc : Chg N.own w w') : Raw w' v l xs := by
  obtain ⟨A, c, e, h1, h2, h3, h4⟩ := h
  refine ⟨A, c, e, h1, h2, h3, fun hl => ?_⟩
  obtain ⟨b, o, e2, h5⟩ := h4 hl
  refine ⟨b, o, e2, fun j u hu => ?_⟩
  have h6 := h5 j u hu
  rw [World.cell?_of_block (w := w) (w' := w') (a := ⟨b, o + j, none⟩) (hc.block b (lt_of_cell h6) fun ho => by rw [ok.cell_none hi ho] at h6; cases h6)]
  exact h6

structure RnMid {σ : Type} (N : Num σ) (w0 wr : World) (pb b : Nat) (pv : Value) (xs : List Value) (cur : Array Value) (s : σ) (wx : World) : Prop where
  path : IsPath wx w0.heap.size pb pv xs
  cur : Plot wx b 24 cur
  other : ∀ k' cur', k' ≠ b → Plot wr k' 24 cur' → Plot wx k' 24 cur'
  inv : N.inv s wx
  chg : Chg N.own w0 wx
  size : wr.heap.size ≤ wx.heap.size

set_option maxHeartbeats 400000 in
theorem rename_any {σ : Type} {N : Num σ} (ok : N.Ok) (T : Ts) (v : Value) (s : σ) (w : World) (hv : Sl w (fun _ => True) v T) (hi : N.inv s w) (hn : T.nodes ≤ 1048576) :
    Calls Try.prog 31 #[v, .func (.func N.fid) #[] N.cap] w fun e w' => ∃ v', e = .returned v' ∧ Sl w' (fun k => w.heap.size ≤ k) v' (T.ren N s).1 ∧ N.inv (T.ren N s).2 w' ∧ Chg N.own w w' := by
  obtain ⟨xs0, hraw, hcs0⟩ := hv.raw
  have hle := T.length_le
  have hen := ok.enter
  have HLT : Hid (∀ k, N.lean k → k < w.heap.size) := fun k => ok.lt s w k hi
  go_enter Try.func31, Try.ntmps31
  go_wp2_with fail
  refine (clone_raw hraw (by omega)).mono ?_
  rintro e w1 ⟨v1, rfl, ho1, hb1⟩
  obtain ⟨A1, d1, rfl⟩ := own_form ho1
  obtain ⟨hd1, g, cur, hg⟩ := own_blk ho1
  have hB1 := hb1.size
  have hp0 : IsPath (w1.alloc (.cells #[.slice none 0 0] 51)) w.heap.size w1.heap.size (.slice none 0 0) [] := ⟨Plot.new _ _ _, World.ownsRow_nil _ _ _ _, by simp [Value.ownBlock]⟩
  go_wp2_with fail
  refine (add_lev (b := g) (o := 0) (L := []) hp0 rfl (by simp; omega) (by simp [nodesOf]) hd1 (fun h => (hg h).1)).mono ?_
  rintro e w2 ⟨rfl, pv2, xs2, hp2, hpv2, _, hc2⟩
  have hc02 : Chg N.own w w2 := by
    refine ((Chg.of_fresh hb1).alloc _).trans hc2 fun k hk h => ?_
    rcases h with h | h
    · omega
    · simp [Value.ownBlock] at h
  have h0 : RnLoop N w s T (.slice A1 T.length d1) w1.heap.size T.nodes w2 := by
    refine ⟨push T g 0 [], s, pv2, xs2, ⟨hp2, hB1, hpv2, ?_, ?_, ?_, hc02, ?_, ?_⟩, by rw [nodesOf_push]; simp [nodesOf]⟩
    · intro l hl
      rcases mem_push hl with ⟨h, rfl⟩ | h
      · obtain ⟨h1, h2, h3, h4⟩ := hg h
        refine ⟨h2, cur, xs0, (h3.alloc _).chg hc2 ?_, hcs0, fun j u hu => by rw [Nat.zero_add]; exact h4 j u hu⟩
        have := h3.lt
        intro h; rcases h with h | h
        · omega
        · simp [Value.ownBlock] at h
      · cases h
    · unfold push; split <;> simp
    · refine ok.keep s w _ hi fun k hk => ?_
      have := HLT.out k hk
      rw [hc2.block k (by simp; omega) (by simp [Value.ownBlock]; omega), Below.heap_alloc _ _ _ (by omega), hb1.block k this]
    · rw [nodesOf_push]; simp [nodesOf]
    · intro w' sf hR _
      obtain ⟨h1, h2⟩ := renL_push hR
      refine ⟨⟨A1, d1, by rw [Ts.length_ren], by rw [Ts.length_ren]; exact hd1, fun h => ?_⟩, h2⟩
      rw [Ts.length_ren] at h
      exact ⟨g, 0, (hg h).1, h1⟩
  clear hg ho1 hp0 hp2 hpv2
  go_wp2_with fail
  go_loopg [] T.nodes (RnLoop N w s T (.slice A1 T.length d1) w1.heap.size)
  case atStart => exact h0
  case round =>
    clear h0
    obtain ⟨L, s', pv, xs, hrel, hgk⟩ := hrel
    have hpx := hrel.pvs.length
    have hpl := hrel.pvs.le
    have hsm := hrel.small
    obtain ⟨Ap, cp, hpv⟩ := own_form hrel.path.own
    subst hpv
    have cpb : wr.cell? ⟨w1.heap.size, 0, none⟩ = some (.slice Ap xs.length cp) := hrel.path.var.cell 0
    have HG := Lib.hid hgk
    clear hgk
    cases L with
    | nil =>
      have hx : xs = [] := hrel.pvs
      subst hx
      obtain ⟨hsl, hst⟩ := hrel.wand wr s' rfl (fun _ _ _ _ _ h => h)
      subst hst
      have hI := hrel.inv
      have hC := hrel.chg
      clear hrel hpx
      go_wp2_with fail
      go_ret
      exact ⟨_, rfl, hsl, hI, hC⟩
    | cons l Ls =>
      obtain ⟨b, o, T1⟩ := l
      cases T1 with
      | nil => obtain ⟨_, _, _, _, h, _⟩ := hrel.pvs; simp [Ts.length] at h
      | cons k n t ar r =>
      have hxl : 0 < xs.length := by rw [hpx]; simp
      obtain ⟨hbB, cur, zs, hcur, ⟨v, ys, rfl, hva, hcr⟩, hcells⟩ := hrel.lev _ (List.mem_cons_self ..)
      have c0 : cur[o]? = some (.int .i64 k) := hcells 0 _ rfl
      have c1 : cur[o + 1]? = some (.int .i64 n) := hcells 1 _ rfl
      have c2 : cur[o + 2]? = some (.string t) := hcells 2 _ rfl
      have c3 : cur[o + 3]? = some v := hcells 3 _ rfl
      have cys : ∀ (j : Nat) u, ys[j]? = some u → cur[o + 4 + j]? = some u := fun j u hu => by
        have := hcells (j + 4) u (by simpa using hu)
        rwa [show o + (j + 4) = o + 4 + j by omega] at this
      have CYS := Lib.hid cys
      have C0 := Lib.hid c0
      have C1 := Lib.hid c1
      have C2 := Lib.hid c2
      have C3 := Lib.hid c3
      have hn4 : nodesOf (⟨b, o, .cons k n t ar r⟩ :: Ls) ≤ 1048576 := by omega
      clear cys hcells c0 c1 c2 c3
      go_wp2_with fail
      refine (next_lev hrel.path hrel.pvs hn4).mono ?_
      rintro e w3 ⟨rfl, pv3, xs3, hp3, hpv3, hop3, hc3⟩
      have hb3 : Plot w3 b 24 cur := hrel.path.keep hc3 hcur
      have hoth3 : ∀ k' cur', Plot wr k' 24 cur' → Plot w3 k' 24 cur' := fun k' cur' h => hrel.path.keep hc3 h
      have hpown : ∀ g, (Value.slice Ap xs.length cp).ownBlock = some g → w.heap.size ≤ g ∧ g < wr.heap.size := fun g hg => hrel.path.own.lt g hg
      have hchg3 : Chg N.own w w3 := hrel.chg.trans hc3 fun k hk h => by
        rcases h with h | h
        · omega
        · have := hpown _ h; omega
      have hlean : ∀ k, N.lean k → w3.heap[k]? = wr.heap[k]? := fun k hk => by
        have hk := HLT.out k hk
        refine hc3.block k (by have := hrel.chg.size; omega) fun h => ?_
        rcases h with h | h
        · omega
        · have := hpown _ h; omega
      have hI3 : N.inv s' w3 := ok.keep s' wr _ hrel.inv hlean
      have hz3 := hc3.size
      have a0 : w3.cell? ⟨b, o, none⟩ = some (.int .i64 k) := (hb3.cell o).trans C0.out
      have a1 : w3.cell? ⟨b, o + 1, none⟩ = some (.int .i64 n) := (hb3.cell (o + 1)).trans C1.out
      have HL := Lib.hid hlean
      have HO := Lib.hid hoth3
      have HP := Lib.hid hpown
      clear hlean hoth3 hpown
      go_upto_if 20 with fail
      go_cut [] (fun wx => RnMid N w wr w1.heap.size b pv3 xs3 (cur.setIfInBounds (o + 1) (.int .i64 (N.v1 k n s'))) (N.s1 k n s') wx)
      case first =>
        by_cases hk : k = 0
        · subst hk
          go_wp2_with fail
          refine (ok.call s' n _ hI3).mono ?_
          rintro e w4 ⟨rfl, hI4, hc4⟩
          have hb4 : Plot w4 b 24 cur := hb3.chg hc4 fun ho => ok.bare _ _ _ _ _ _ hI3 ho hb3
          have a2 : w4.cell? ⟨b, o + 1, none⟩ = some (.int .i64 n) := (hb4.cell (o + 1)).trans C1.out
          have f2 : w4.frozen? ⟨b, o + 1, none⟩ = false := hb4.frozen _
          have hp4 : IsPath w4 w.heap.size w1.heap.size pv3 xs3 := hp3.chg hc4 (fun ho => by have := HLT.out _ (ok.sub _ ho); omega) fun g hg ho => by
            have := HLT.out _ (ok.sub _ ho)
            rw [hop3] at hg
            have := HP.out g hg
            omega
          go_wp2_with fail
          go_meet
          refine ⟨hp4.set hb4, hb4.set_ _ _, fun k' cur' hne h => ?_, ?_, ?_, by have := hc4.size; simp [World.setCell]; omega⟩
          · have h3 := HO.out k' cur' h
            exact (h3.chg hc4 fun ho => ok.bare _ _ _ _ _ _ hI3 ho h3).far hne _
          · refine ok.keep _ w4 _ hI4 fun k hk => ?_
            have := HLT.out k hk
            exact Below.heap_setCell _ _ _ _ (by simp; omega)
          · exact (hchg3.trans hc4 fun _ _ h => h).setCell (fun h => by simp at h; omega) _
        · have hk' : (k == 0) = false := by simp [hk]
          have e1 : N.v1 k n s' = n := by simp [Num.v1, hk]
          have e2 : N.s1 k n s' = s' := by simp [Num.s1, hk]
          have E1 := Lib.hid e1
          have E2 := Lib.hid e2
          clear e1 e2
          go_wp2_with fail
          go_meet
          rw [E1.out, E2.out, set_same C1.out]
          exact ⟨hp3, hb3, fun k' cur' _ h => HO.out k' cur' h, hI3, hchg3, hz3⟩
      case rest =>
        obtain ⟨hp5, hb5, ho5, hI5, hc5, hz5⟩ := hcut
        clear hp3 hc3 hb3 hchg3 hI3 a0 a1
        obtain ⟨xs4, hraw4, hcs4⟩ := hva.raw
        obtain ⟨Av, cv, rfl, hva⟩ := hva.form
        have har : ar.length ≤ 1048576 := by
          have := ar.length_le
          simp only [nodesOf, List.map_cons, List.sum_cons, Ts.nodes] at hn4
          omega
        have hn5 : nodesOf (push r b (o + 4) Ls) ≤ 1048576 := by
          rw [nodesOf_push]
          simp only [nodesOf, List.map_cons, List.sum_cons, Ts.nodes] at hn4 ⊢
          omega
        have a3 : wc.cell? ⟨b, o + 3, none⟩ = some (.slice Av ar.length cv) := by
          rw [hb5.cell, Array.getElem?_setIfInBounds_ne (by omega)]; exact C3.out
        go_wp2_with fail
        refine (clone_raw (ok.raw hraw4 hi hc5) har).mono ?_
        rintro e w6 ⟨v4, rfl, ho6, hb6⟩
        obtain ⟨A4, d4, rfl⟩ := own_form ho6
        obtain ⟨hd4, g4, cur4, hg4⟩ := own_blk ho6
        have hz6 := hb6.size
        have hbb6 := hb5.below hb6
        have a6 : w6.cell? ⟨b, o + 3, none⟩ = some (.slice Av ar.length cv) := by
          rw [hbb6.cell, Array.getElem?_setIfInBounds_ne (by omega)]; exact C3.out
        have f6 : w6.frozen? ⟨b, o + 3, none⟩ = false := hbb6.frozen _
        have hp6 : IsPath w6 w.heap.size w1.heap.size pv3 xs3 := hp5.chg (Chg.of_fresh (S := fun _ => False) hb6) (fun h => h) fun _ _ h => h
        have hp7 : IsPath (w6.setCell ⟨b, o + 3, none⟩ (.slice A4 ar.length d4)) w.heap.size w1.heap.size pv3 xs3 := hp6.set hbb6
        have hbb7 := hbb6.set_ (o + 3) (.slice A4 ar.length d4)
        have hwz := hrel.chg.size
        have HG4 := Lib.hid hg4
        clear hg4
        go_wp2_with fail
        refine (add_lev (b := g4) (o := 0) hp7 hpv3 (by simp [World.setCell]; omega) hn5 hd4 (fun h => (HG4.out h).1)).mono ?_
        rintro e w8 ⟨rfl, pv8, xs8, hp8, hpv8, hat8, hc8⟩
        have hpown3 : ∀ g, pv3.ownBlock = some g → w.heap.size ≤ g := fun g hg => by rw [hop3] at hg; exact (HP.out g hg).1
        have hstep := RnRel.step (g := g4) (xs4 := xs4) (v4 := .slice A4 ar.length d4) (curg := cur4) hrel hcur C0.out C1.out C2.out C3.out hcr CYS.out hp8 hpv8 hcs4
          (fun k' cur' hne h => hp7.keep hc8 (((ho5 k' cur' hne h).below hb6).far hne _)) (hp7.keep hc8 hbb7) ⟨A4, d4, rfl, hd4, fun h => (HG4.out h).1⟩
          (fun h => by
            obtain ⟨_, h2, h3, h4⟩ := HG4.out h
            have := h3.lt
            exact ⟨by omega, hp7.keep hc8 (h3.far (by simp; intro e; have := hb5.lt; omega) _), h4⟩)
          (ok.keep _ wc _ hI5 fun k hk => by
            have := HLT.out k hk
            rw [hc8.block k (by simp [World.setCell]; omega) (fun h => by rcases h with h | h
                                                                          · omega
                                                                          · have := hpown3 _ h; omega), Below.heap_setCell _ _ _ _ (by simp; omega), hb6.block k (by omega)])
          (((hc5.trans (Chg.of_fresh (S := fun _ => False) hb6) fun _ _ h => h.elim).setCell (fun h => by simp at h; omega) _).trans hc8 fun k hk h => by
            rcases h with h | h
            · omega
            · have := hpown3 _ h; omega)
        clear hat8
        go_wp2_with fail
        go_roundg (nodesOf (push ar g4 0 (push r b (o + 4) Ls)))
        case measure =>
          rw [HG.out, nodesOf_push, nodesOf_push]
          simp only [nodesOf, List.map_cons, List.sum_cons, Ts.nodes]
          omega
        case rel => exact ⟨_, _, _, _, hstep, rfl⟩
end Go.Proofs.Ytdiophafmokfiaa
