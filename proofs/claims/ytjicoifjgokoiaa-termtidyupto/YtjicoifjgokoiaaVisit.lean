/-
  Good and Nodes walk a term by the path: what they answer of every term.
-/
import Derived.Test.YtjicoifjgokoiaaPath
import Derived.Test.YtjicoifjgokoiaaNode
import Derived.Test.YtjicoifjgokoiaaMix
namespace Go.Proofs.Ytjicoifjgokoiaa
open Go.RowKit

/-- Blocks that were there when the call began, or are one of G. -/
def oldOr (w : World) (G : List Nat) (k : Nat) : Prop := k < w.heap.size ∨ k ∈ G
/-- One path of the call's own, whose levels lie in old blocks or in G's. -/
structure V1 (w : World) (G : List Nat) (pb : Nat) (L : List Lev) (pv : Value) (xs : List Value) (wr : World) : Prop where
  path : IsPath wr w.heap.size pb pv xs
  pbl : w.heap.size ≤ pb
  pvs : PV L xs
  lev : ∀ l ∈ L, Seg wr (oldOr w G) l.T l.b l.o
  rows : ∀ g ∈ G, ∃ c, Plot wr g 24 c
  chg : Below w.heap.size w wr

section
variable {w wr w' : World} {G : List Nat} {pb : Nat} {L : List Lev} {pv : Value} {xs : List Value}
theorem V1.keep (h : V1 w G pb L pv xs wr) (hc : Chg (fun k => k = pb ∨ pv.ownBlock = some k) wr w') : ∀ k, oldOr w G k → k < wr.heap.size → w'.heap[k]? = wr.heap[k]? := by
  intro k hk hl
  refine hc.block k hl fun hS => ?_
  rcases hk with hk | hk
  · rcases hS with e | e
    · have := h.pbl; omega
    · have := (h.path.own.lt _ e).1; omega
  · obtain ⟨c, hb⟩ := h.rows k hk
    obtain ⟨h1, h2⟩ := h.path.other hb
    exact hS.elim h1 h2
theorem V1.chg' (h : V1 w G pb L pv xs wr) (hc : Chg (fun k => k = pb ∨ pv.ownBlock = some k) wr w') : Below w.heap.size w w' ∧ (∀ g ∈ G, ∃ c, Plot w' g 24 c) := by
  refine ⟨h.chg.trans (hc.below h.chg.size fun k hk _ => ?_), fun g hg => ?_⟩
  · rcases hk with e | e
    · have := h.pbl; omega
    · exact (h.path.own.lt _ e).1
  · obtain ⟨c, hb⟩ := h.rows g hg
    exact ⟨c, h.path.keep hc hb⟩
/-- Any other change that leaves the path and the levels alone. -/
theorem V1.aside (h : V1 w G pb L pv xs wr) (hb : Below wr.heap.size wr w') : V1 w G pb L pv xs w' where
  path := h.path.chg (Chg.of_fresh (S := fun _ => False) hb) (fun h => h) fun _ _ h => h
  pbl := h.pbl
  pvs := h.pvs
  lev := fun l hl => (h.lev l hl).below hb
  rows := fun g hg => by
    obtain ⟨c, h1⟩ := h.rows g hg
    exact ⟨c, h1.below hb⟩
  chg := h.chg.trans (hb.mono h.chg.size)

theorem lev_push {T : Ts} {b o : Nat} {p : Nat → Prop} (hT : 0 < T.length → Seg wr p T b o) (hL : ∀ l ∈ L, Seg wr p l.T l.b l.o) : ∀ l ∈ push T b o L, Seg wr p l.T l.b l.o := by
  intro l hl
  unfold push at hl
  split at hl
  · exact hL l hl
  · rcases List.mem_cons.1 hl with rfl | hl
    · exact hT (by omega)
    · exact hL l hl

theorem V1.next {b o : Nat} {k n : Int} {s : ByteArray} {ar r : Ts} (h : V1 w G pb (⟨b, o, .cons k n s ar r⟩ :: L) pv xs wr) (hn : nodesOf (⟨b, o, .cons k n s ar r⟩ :: L) ≤ 1048576) :
    Calls Try.prog 36 #[.pointer (some ⟨pb, 0, none⟩)] wr fun e w' => e = .returned (.pointer (some ⟨b, o, none⟩)) ∧
      ∃ pv' xs', V1 w G pb (push r b (o + 4) L) pv' xs' w' ∧ Seg w' (oldOr w G) (.cons k n s ar r) b o ∧ pv'.ownBlock = pv.ownBlock ∧ Chg (fun k => k = pb ∨ pv.ownBlock = some k) wr w' := by
  refine (next_lev h.path h.pvs (Nat.le_trans hn (by omega))).mono ?_
  rintro e w' ⟨he, pv', xs', h1, h2, h3, h4⟩
  have hk := h.keep h4
  have hs : Seg w' (oldOr w G) (.cons k n s ar r) b o := (h.lev _ (List.mem_cons_self ..)).keep hk
  obtain ⟨h5, h6⟩ := h.chg' h4
  refine ⟨he, pv', xs', ⟨h1, h.pbl, h2, ?_, h6, h5⟩, hs, h3, h4⟩
  exact lev_push (fun _ => (seg_cons.1 hs).2.2.2.2.2) fun l hl => (h.lev l (List.mem_cons_of_mem _ hl)).keep hk

theorem V1.add {T : Ts} {A : Option Addr} {c : Nat} (h : V1 w G pb L pv xs wr) (hv : Sl wr (oldOr w G) (.slice A T.length c) T) (hn : nodesOf L ≤ 1048576) :
    Calls Try.prog 37 #[.pointer (some ⟨pb, 0, none⟩), .slice A T.length c] wr fun e w' => e = .returned (.tuple #[]) ∧
      ∃ pv' xs' b o, V1 w G pb (push T b o L) pv' xs' w' ∧ (pv'.ownBlock = pv.ownBlock ∨ ∃ g, pv'.ownBlock = some g ∧ wr.heap.size ≤ g) ∧ Chg (fun k => k = pb ∨ pv.ownBlock = some k) wr w' := by
  obtain ⟨A', c', e, hc, hs⟩ := hv
  simp only [Value.slice.injEq, true_and] at e
  obtain ⟨rfl, rfl⟩ := e
  obtain ⟨b, o, hA⟩ : ∃ b o, 0 < T.length → A = some ⟨b, o, none⟩ ∧ Seg wr (oldOr w G) T b o := by
    rcases Nat.eq_zero_or_pos T.length with h | h
    · exact ⟨0, 0, fun h' => absurd h' (by omega)⟩
    · obtain ⟨b, o, h1, h2⟩ := hs h
      exact ⟨b, o, fun _ => ⟨h1, h2⟩⟩
  refine (add_lev (b := b) (o := o) h.path h.pvs h.chg.size (Nat.le_trans hn (by omega)) hc fun h => (hA h).1).mono ?_
  rintro e w' ⟨he, pv', xs', h1, h2, h3, h4⟩
  have hk := h.keep h4
  obtain ⟨h5, h6⟩ := h.chg' h4
  refine ⟨he, pv', xs', b, o, ⟨h1, h.pbl, h2, ?_, h6, h5⟩, h3, h4⟩
  exact lev_push (fun hp => (hA hp).2.keep hk) fun l hl => (h.lev l hl).keep hk
end

theorem V1.start {w W : World} {G : List Nat} {ga gp pb : Nat} {k n : Int} {s : ByteArray} {A : Option Addr} {c : Nat} {ar : Ts} (hv : Sl w (fun _ => True) (.slice A ar.length c) ar) (hW : Below w.heap.size w W)
    (h1 : Plot W ga 24 #[.int .i64 k, .int .i64 n, .string s, .slice A ar.length c]) (h2 : Plot W gp 22 #[.slice (some ⟨ga, 0, none⟩) 1 1]) (h3 : Plot W pb 61 #[.slice (some ⟨gp, 0, none⟩) 1 1])
    (hG : ga ∈ G) (hr : ∀ g ∈ G, ∃ c, Plot W g 24 c) (hgp : w.heap.size ≤ gp) (hpb : w.heap.size ≤ pb) :
    V1 w G pb [⟨ga, 0, .cons k n s ar .nil⟩] (.slice (some ⟨gp, 0, none⟩) 1 1) [.slice (some ⟨ga, 0, none⟩) 1 1] W := by
  refine ⟨⟨h3, ⟨rfl, .inr ⟨gp, 1, _, rfl, hgp, h2, Nat.le_refl _, by simp [maxLen], rfl, rfl⟩⟩, ?_⟩, hpb, ⟨[], 1, rfl, Nat.le_refl _, Nat.zero_lt_one, rfl⟩, ?_, hr, hW⟩
  · simp only [Value.ownBlock, ne_eq, Option.some.injEq]
    exact h2.ne_ h3 (by decide)
  · intro l hl
    have e : l = ⟨ga, 0, .cons k n s ar .nil⟩ := by simpa using hl
    subst e
    refine seg_cons.2 ⟨.inr hG, h1.cell 0, h1.cell 1, h1.cell 2, ⟨_, h1.cell 3, ?_⟩, trivial⟩
    exact (hv.imp (q := oldOr w G) fun k _ h => .inl h).below hW

/-- Is every term good, to the bottom? -/
def Ts.good (vars : Int) : Ts → Bool
  | .nil => true
  | .cons k n s ar r => nodeB vars k n s ar.length && ar.good vars && r.good vars
def goodL (vars : Int) (L : List Lev) : Bool := L.all fun l => l.T.good vars
theorem goodL_push (vars : Int) (T : Ts) (b o : Nat) (L : List Lev) : goodL vars (push T b o L) = (T.good vars && goodL vars L) := by
  unfold push
  split
  · rename_i h; rw [Ts.nil_of_length h]; simp [Ts.good]
  · simp [goodL]

def GoodLoop (w : World) (G : List Nat) (pb : Nat) (T : Ts) (vars : Int) (g : Nat) (wr : World) : Prop :=
  ∃ L pv xs, V1 w G pb L pv xs wr ∧ g = nodesOf L ∧ nodesOf L ≤ T.nodes ∧ T.good vars = goodL vars L

set_option maxHeartbeats 400000 in
theorem good_any (k n vars : Int) (s : ByteArray) (ar : Ts) (v : Value) (w : World) (hv : Sl w (fun _ => True) v ar) (hn : ar.nodes < 1048576) :
    Calls Try.prog 20 #[.agg #[.int .i64 k, .int .i64 n, .string s, v], .int .i64 vars] w fun e w' => e = .returned (.bool ((Ts.cons k n s ar .nil).good vars)) ∧ Below w.heap.size w w' := by
  obtain ⟨A, c, rfl, hs⟩ := hv.form
  go_enter Try.func20, Try.ntmps20
  go_wp2_with (go_at_call 35; refine (newPath_any _ _ _ _ _ _ _).mono ?_; rintro e w1 ⟨rfl, rfl⟩)
  have hW : Below w.heap.size w (((((w.alloc (.cells #[.int .i64 k, .int .i64 n, .string s, .slice A ar.length c] 24)).alloc (.cells #[.int .i64 k, .int .i64 n, .string s, .slice A ar.length c] 24)).alloc (.cells #[.int .i64 k, .int .i64 n, .string s, .slice A ar.length c] 24)).alloc (.cells #[.slice (some ⟨w.heap.size + 1 + 1, 0, none⟩) 1 1] 22)).alloc (.cells #[.slice (some ⟨w.heap.size + 1 + 1 + 1, 0, none⟩) 1 1] 61)) := (((((Below.refl _ _).alloc (Nat.le_refl _) _).alloc (by simp) _).alloc (by simp; omega) _).alloc (by simp; omega) _).alloc (by simp; omega) _
  have hv0 : V1 w [w.heap.size + 1 + 1] (w.heap.size + 1 + 1 + 1 + 1) [⟨w.heap.size + 1 + 1, 0, .cons k n s ar .nil⟩] (.slice (some ⟨w.heap.size + 1 + 1 + 1, 0, none⟩) 1 1) [.slice (some ⟨w.heap.size + 1 + 1, 0, none⟩) 1 1] (((((w.alloc (.cells #[.int .i64 k, .int .i64 n, .string s, .slice A ar.length c] 24)).alloc (.cells #[.int .i64 k, .int .i64 n, .string s, .slice A ar.length c] 24)).alloc (.cells #[.int .i64 k, .int .i64 n, .string s, .slice A ar.length c] 24)).alloc (.cells #[.slice (some ⟨w.heap.size + 1 + 1, 0, none⟩) 1 1] 22)).alloc (.cells #[.slice (some ⟨w.heap.size + 1 + 1 + 1, 0, none⟩) 1 1] 61)) := by
    have b1 := ((Plot.new ((w.alloc (.cells #[.int .i64 k, .int .i64 n, .string s, .slice A ar.length c] 24)).alloc (.cells #[.int .i64 k, .int .i64 n, .string s, .slice A ar.length c] 24)) 24 #[.int .i64 k, .int .i64 n, .string s, .slice A ar.length c]).alloc (.cells #[.slice (some ⟨w.heap.size + 1 + 1, 0, none⟩) 1 1] 22)).alloc (.cells #[.slice (some ⟨w.heap.size + 1 + 1 + 1, 0, none⟩) 1 1] 61)
    have b2 := ((Plot.new (((w.alloc (.cells #[.int .i64 k, .int .i64 n, .string s, .slice A ar.length c] 24)).alloc (.cells #[.int .i64 k, .int .i64 n, .string s, .slice A ar.length c] 24)).alloc (.cells #[.int .i64 k, .int .i64 n, .string s, .slice A ar.length c] 24)) 22 #[.slice (some ⟨w.heap.size + 1 + 1, 0, none⟩) 1 1])).alloc (.cells #[.slice (some ⟨w.heap.size + 1 + 1 + 1, 0, none⟩) 1 1] 61)
    have b3 := Plot.new ((((w.alloc (.cells #[.int .i64 k, .int .i64 n, .string s, .slice A ar.length c] 24)).alloc (.cells #[.int .i64 k, .int .i64 n, .string s, .slice A ar.length c] 24)).alloc (.cells #[.int .i64 k, .int .i64 n, .string s, .slice A ar.length c] 24)).alloc (.cells #[.slice (some ⟨w.heap.size + 1 + 1, 0, none⟩) 1 1] 22)) 61 #[.slice (some ⟨w.heap.size + 1 + 1 + 1, 0, none⟩) 1 1]
    simp only [World.size_alloc] at b1 b2 b3
    exact V1.start hs hW b1 b2 b3 (by simp) (fun g hg => by
      have e : g = w.heap.size + 1 + 1 := by simpa using hg
      subst e; exact ⟨_, b1⟩) (by omega) (by omega)
  have h0 : GoodLoop w [w.heap.size + 1 + 1] (w.heap.size + 1 + 1 + 1 + 1) (.cons k n s ar .nil) vars (ar.nodes + 1) (((((w.alloc (.cells #[.int .i64 k, .int .i64 n, .string s, .slice A ar.length c] 24)).alloc (.cells #[.int .i64 k, .int .i64 n, .string s, .slice A ar.length c] 24)).alloc (.cells #[.int .i64 k, .int .i64 n, .string s, .slice A ar.length c] 24)).alloc (.cells #[.slice (some ⟨w.heap.size + 1 + 1, 0, none⟩) 1 1] 22)).alloc (.cells #[.slice (some ⟨w.heap.size + 1 + 1 + 1, 0, none⟩) 1 1] 61)) :=
    ⟨_, _, _, hv0, by simp [nodesOf, Ts.nodes], by simp [nodesOf], by simp [goodL]⟩
  clear hv0
  go_loopg [] (ar.nodes + 1) (GoodLoop w [w.heap.size + 1 + 1] (w.heap.size + 1 + 1 + 1 + 1) (.cons k n s ar .nil) vars)
  case atStart => exact h0
  case round =>
    clear h0
    obtain ⟨L, pv, xs, hrel, hg, hsm, hgd⟩ := hrel
    have HG := Lib.hid hg
    have HD := Lib.hid hgd
    have hpx := hrel.pvs.length
    simp only [Ts.nodes] at hsm
    obtain ⟨Ap, cp, hpv⟩ := own_form hrel.path.own
    subst hpv
    have cpb : wr.cell? ⟨w.heap.size + 1 + 1 + 1 + 1, 0, none⟩ = some (.slice Ap xs.length cp) := hrel.path.var.cell 0
    clear hg hgd
    cases L with
    | nil =>
      have hx : xs = [] := hrel.pvs
      subst hx
      have hb := hrel.chg
      clear hrel hpx
      go_wp2_with fail
      go_ret
      exact ⟨by rw [HD.out]; rfl, hb⟩
    | cons l Ls =>
      obtain ⟨b, o, T1⟩ := l
      cases T1 with
      | nil => obtain ⟨_, _, _, _, h, _⟩ := hrel.pvs; simp [Ts.length] at h
      | cons k1 n1 s1 a1 r1 =>
      have hxl : 0 < xs.length := by rw [hpx]; simp
      have hn4 : nodesOf (⟨b, o, .cons k1 n1 s1 a1 r1⟩ :: Ls) ≤ 1048576 := by omega
      have hn5 : nodesOf (push r1 b (o + 4) Ls) ≤ 1048576 := by
        rw [nodesOf_push]
        simp only [nodesOf, List.map_cons, List.sum_cons, Ts.nodes] at hn4 ⊢
        omega
      go_wp2_with fail
      refine (hrel.next hn4).mono ?_
      rintro e w2 ⟨rfl, pv2, xs2, h2, hseg, _, _⟩
      obtain ⟨_, c0, c1, c2, ⟨v1, c3, hv1⟩, _⟩ := seg_cons.1 hseg
      obtain ⟨A1, d1, rfl, hv1⟩ := hv1.form
      go_wp2_with fail
      refine (goodNode_any vars k1 n1 s1 A1 a1.length d1 _).mono ?_
      rintro e w3 ⟨rfl, hb3⟩
      have h3 := h2.aside hb3
      have e3 : w3.cell? ⟨b, o + 3, none⟩ = some (.slice A1 a1.length d1) := (hb3.cell (lt_of_cell c3)).trans c3
      have hv3 := hv1.below hb3
      cases hnode : nodeB vars k1 n1 s1 a1.length with
      | false =>
        have hres : Hid ((Ts.cons k n s ar .nil).good vars = false) := Lib.hid (by rw [HD.out]; simp [goodL, Ts.good, hnode])
        clear hnode
        go_wp2_with fail
        go_ret
        exact ⟨by rw [hres.out]; rfl, h3.chg⟩
      | true =>
        have hres : Hid ((Ts.cons k n s ar .nil).good vars = (a1.good vars && (r1.good vars && goodL vars Ls))) := Lib.hid (by rw [HD.out]; simp [goodL, Ts.good, hnode, Bool.and_assoc])
        clear hnode
        go_wp2_with fail
        refine (h3.add hv3 hn5).mono ?_
        rintro e w4 ⟨rfl, pv4, xs4, b4, o4, h4, _, _⟩
        go_wp2_with fail
        go_roundg (nodesOf (push a1 b4 o4 (push r1 b (o + 4) Ls)))
        case measure =>
          rw [HG.out, nodesOf_push, nodesOf_push]
          simp only [nodesOf, List.map_cons, List.sum_cons, Ts.nodes]
          omega
        case rel =>
          refine ⟨_, _, _, h4, rfl, ?_, ?_⟩
          · rw [nodesOf_push, nodesOf_push]
            simp only [nodesOf, List.map_cons, List.sum_cons, Ts.nodes] at hsm ⊢
            omega
          · rw [hres.out, goodL_push, goodL_push]

def NodesLoop (w : World) (G : List Nat) (pb : Nat) (T : Ts) (g : Nat) (s3 : Value) (wr : World) : Prop :=
  ∃ (L : List Lev) (pv : Value) (xs : List Value) (cnt : Nat), V1 w G pb L pv xs wr ∧ g = nodesOf L ∧ T.nodes = cnt + nodesOf L ∧ s3 = .int .i64 cnt

set_option maxHeartbeats 400000 in
theorem nodes_any (k n : Int) (s : ByteArray) (ar : Ts) (v : Value) (w : World) (hv : Sl w (fun _ => True) v ar) (hn : ar.nodes < 1048576) :
    Calls Try.prog 25 #[.agg #[.int .i64 k, .int .i64 n, .string s, v]] w fun e w' => e = .returned (.int .i64 ((ar.nodes : Int) + 1)) ∧ Below w.heap.size w w' := by
  obtain ⟨A, c, rfl, hs⟩ := hv.form
  go_enter Try.func25, Try.ntmps25
  go_wp2_with (go_at_call 35; refine (newPath_any _ _ _ _ _ _ _).mono ?_; rintro e w1 ⟨rfl, rfl⟩)
  have hW : Below w.heap.size w (((((w.alloc (.cells #[.int .i64 k, .int .i64 n, .string s, .slice A ar.length c] 24)).alloc (.cells #[.int .i64 k, .int .i64 n, .string s, .slice A ar.length c] 24)).alloc (.cells #[.int .i64 k, .int .i64 n, .string s, .slice A ar.length c] 24)).alloc (.cells #[.slice (some ⟨w.heap.size + 1 + 1, 0, none⟩) 1 1] 22)).alloc (.cells #[.slice (some ⟨w.heap.size + 1 + 1 + 1, 0, none⟩) 1 1] 61)) := (((((Below.refl _ _).alloc (Nat.le_refl _) _).alloc (by simp) _).alloc (by simp; omega) _).alloc (by simp; omega) _).alloc (by simp; omega) _
  have hv0 : V1 w [w.heap.size + 1 + 1] (w.heap.size + 1 + 1 + 1 + 1) [⟨w.heap.size + 1 + 1, 0, .cons k n s ar .nil⟩] (.slice (some ⟨w.heap.size + 1 + 1 + 1, 0, none⟩) 1 1) [.slice (some ⟨w.heap.size + 1 + 1, 0, none⟩) 1 1] (((((w.alloc (.cells #[.int .i64 k, .int .i64 n, .string s, .slice A ar.length c] 24)).alloc (.cells #[.int .i64 k, .int .i64 n, .string s, .slice A ar.length c] 24)).alloc (.cells #[.int .i64 k, .int .i64 n, .string s, .slice A ar.length c] 24)).alloc (.cells #[.slice (some ⟨w.heap.size + 1 + 1, 0, none⟩) 1 1] 22)).alloc (.cells #[.slice (some ⟨w.heap.size + 1 + 1 + 1, 0, none⟩) 1 1] 61)) := by
    have b1 := ((Plot.new ((w.alloc (.cells #[.int .i64 k, .int .i64 n, .string s, .slice A ar.length c] 24)).alloc (.cells #[.int .i64 k, .int .i64 n, .string s, .slice A ar.length c] 24)) 24 #[.int .i64 k, .int .i64 n, .string s, .slice A ar.length c]).alloc (.cells #[.slice (some ⟨w.heap.size + 1 + 1, 0, none⟩) 1 1] 22)).alloc (.cells #[.slice (some ⟨w.heap.size + 1 + 1 + 1, 0, none⟩) 1 1] 61)
    have b2 := ((Plot.new (((w.alloc (.cells #[.int .i64 k, .int .i64 n, .string s, .slice A ar.length c] 24)).alloc (.cells #[.int .i64 k, .int .i64 n, .string s, .slice A ar.length c] 24)).alloc (.cells #[.int .i64 k, .int .i64 n, .string s, .slice A ar.length c] 24)) 22 #[.slice (some ⟨w.heap.size + 1 + 1, 0, none⟩) 1 1])).alloc (.cells #[.slice (some ⟨w.heap.size + 1 + 1 + 1, 0, none⟩) 1 1] 61)
    have b3 := Plot.new ((((w.alloc (.cells #[.int .i64 k, .int .i64 n, .string s, .slice A ar.length c] 24)).alloc (.cells #[.int .i64 k, .int .i64 n, .string s, .slice A ar.length c] 24)).alloc (.cells #[.int .i64 k, .int .i64 n, .string s, .slice A ar.length c] 24)).alloc (.cells #[.slice (some ⟨w.heap.size + 1 + 1, 0, none⟩) 1 1] 22)) 61 #[.slice (some ⟨w.heap.size + 1 + 1 + 1, 0, none⟩) 1 1]
    simp only [World.size_alloc] at b1 b2 b3
    exact V1.start hs hW b1 b2 b3 (by simp) (fun g hg => by
      have e : g = w.heap.size + 1 + 1 := by simpa using hg
      subst e; exact ⟨_, b1⟩) (by omega) (by omega)
  have h0 : NodesLoop w [w.heap.size + 1 + 1] (w.heap.size + 1 + 1 + 1 + 1) (.cons k n s ar .nil) (ar.nodes + 1) (.int .i64 0) (((((w.alloc (.cells #[.int .i64 k, .int .i64 n, .string s, .slice A ar.length c] 24)).alloc (.cells #[.int .i64 k, .int .i64 n, .string s, .slice A ar.length c] 24)).alloc (.cells #[.int .i64 k, .int .i64 n, .string s, .slice A ar.length c] 24)).alloc (.cells #[.slice (some ⟨w.heap.size + 1 + 1, 0, none⟩) 1 1] 22)).alloc (.cells #[.slice (some ⟨w.heap.size + 1 + 1 + 1, 0, none⟩) 1 1] 61)) :=
    ⟨_, _, _, 0, hv0, by simp [nodesOf, Ts.nodes], by simp [nodesOf], rfl⟩
  clear hv0
  go_loopg [3] (ar.nodes + 1) (NodesLoop w [w.heap.size + 1 + 1] (w.heap.size + 1 + 1 + 1 + 1) (.cons k n s ar .nil))
  case atStart => exact h0
  case round =>
    clear h0
    obtain ⟨L, pv, xs, cnt, hrel, hg, hsm, rfl⟩ := hrel
    have HG := Lib.hid hg
    have hpx := hrel.pvs.length
    simp only [Ts.nodes, Nat.add_zero] at hsm
    have HS := Lib.hid hsm
    have hcnt : cnt ≤ 1048576 := by omega
    obtain ⟨Ap, cp, hpv⟩ := own_form hrel.path.own
    subst hpv
    have cpb : wr.cell? ⟨w.heap.size + 1 + 1 + 1 + 1, 0, none⟩ = some (.slice Ap xs.length cp) := hrel.path.var.cell 0
    cases L with
    | nil =>
      have hx : xs = [] := hrel.pvs
      subst hx
      have hb := hrel.chg
      have hfin : Hid ((cnt : Int) = (ar.nodes : Int) + 1) := Lib.hid (by simp [nodesOf] at hsm; omega)
      clear hrel hpx hg hsm
      go_wp2_with fail
      go_ret
      exact ⟨by rw [← hfin.out]; rfl, hb⟩
    | cons l Ls =>
      obtain ⟨b, o, T1⟩ := l
      cases T1 with
      | nil => obtain ⟨_, _, _, _, h, _⟩ := hrel.pvs; simp [Ts.length] at h
      | cons k1 n1 s1 a1 r1 =>
      have hxl : 0 < xs.length := by rw [hpx]; simp
      have hn4 : nodesOf (⟨b, o, .cons k1 n1 s1 a1 r1⟩ :: Ls) ≤ 1048576 := by omega
      have hn5 : nodesOf (push r1 b (o + 4) Ls) ≤ 1048576 := by
        rw [nodesOf_push]
        simp only [nodesOf, List.map_cons, List.sum_cons, Ts.nodes] at hn4 ⊢
        omega
      clear hg hsm
      go_wp2_with fail
      refine (hrel.next hn4).mono ?_
      rintro e w2 ⟨rfl, pv2, xs2, h2, hseg, _, _⟩
      obtain ⟨_, c0, c1, c2, ⟨v1, c3, hv1⟩, _⟩ := seg_cons.1 hseg
      obtain ⟨A1, d1, rfl, hv1⟩ := hv1.form
      go_wp2_with fail
      refine (h2.add hv1 hn5).mono ?_
      rintro e w4 ⟨rfl, pv4, xs4, b4, o4, h4, _, _⟩
      go_wp2_with fail
      go_roundg (nodesOf (push a1 b4 o4 (push r1 b (o + 4) Ls)))
      case measure =>
        rw [HG.out, nodesOf_push, nodesOf_push]
        simp only [nodesOf, List.map_cons, List.sum_cons, Ts.nodes]
        omega
      case rel =>
        refine ⟨_, _, _, cnt + 1, h4, rfl, ?_, rfl⟩
        have h := HS.out
        rw [nodesOf_push, nodesOf_push]
        simp only [nodesOf, List.map_cons, List.sum_cons, Ts.nodes] at h ⊢
        omega
end Go.Proofs.Ytjicoifjgokoiaa
