/- Node, Visit, IsTerm, Queue: texts that follow one another, laid into one file. -/
import Derived.Test.YtdiophafmokfiaaGreatDoorG11
import Derived.Test.YtdiophafmokfiaaGreatDoorG3
import Derived.Deep.LoopGhost
import Derived.Test.YtdiophafmokfiaaGreatDoorG6
import Derived.Deep.Upon
import Derived.Lib.LazyBuf
namespace Go.Proofs.YtdiophafmokfiaaGreatDoor
open Go.RowKit

/-- Is a term good, whatever its arguments are? -/
def nodeB (vars k n : Int) (s : ByteArray) (l : Nat) : Bool :=
  if k = 0 then decide (0 ≤ n) && decide (n < vars) && decide (s.toList = []) && decide (l = 0)
  else if k = 1 then decide (n = 0) && nameB s && decide (l = 0)
  else if k = 2 then decide (-1099511627776 ≤ n) && decide (n ≤ 1099511627776) && decide (s.toList = []) && decide (l = 0)
  else if k = 3 then decide (n = 0) && nameB s && decide (¬ s.toList = [33]) && decide (1 ≤ l) && decide (l ≤ 4)
  else false

theorem ret_bool {a b : Bool} (h : a = b) : Ending.returned (.bool a) = .returned (.bool b) := by rw [h]

set_option maxHeartbeats 1000000 in
theorem goodNode_any (vars k n : Int) (s : ByteArray) (A : Option Addr) (l c : Nat) (w : World) :
    Calls Tryz.prog 83 #[.agg #[.int .i64 k, .int .i64 n, .string s, .slice A l c], .int .i64 vars] w fun e w' => e = .returned (.bool (nodeB vars k n s l)) ∧ Below w.heap.size w w' := by
  by_cases h0 : k = 0
  · subst h0
    have R := Lib.hid (show nodeB vars 0 n s l = (decide (0 ≤ n) && decide (n < vars) && decide (s.toList = []) && decide (l = 0)) by simp [nodeB])
    go_enter Tryz.func83, Tryz.ntmps83
    go_wp2_with fail
    all_goals go_ret
    all_goals refine ⟨?_, (Below.refl _ _).alloc (Nat.le_refl _) _⟩
    all_goals rw [R.out]
    all_goals refine ret_bool ?_
    all_goals rw [Bool.eq_iff_iff]
    all_goals simp [*]
    all_goals try omega
  have g0 : (k == 0) = false := by simpa using h0
  by_cases h1 : k = 1
  · subst h1
    have R := Lib.hid (show nodeB vars 1 n s l = (decide (n = 0) && nameB s && decide (l = 0)) by simp [nodeB])
    clear h0 g0
    cases hb : nameB s
    all_goals
      have HB := Lib.hid hb
      clear hb
      go_enter Tryz.func83, Tryz.ntmps83
      go_wp2_with (go_at_call 95; refine (named_any _ _).mono ?_; rintro e w' ⟨rfl, rfl⟩; rw [HB.out])
      all_goals go_ret
      all_goals refine ⟨?_, (Below.refl _ _).alloc (Nat.le_refl _) _⟩
      all_goals rw [R.out, HB.out]
      all_goals refine ret_bool ?_
      all_goals rw [Bool.eq_iff_iff]
      all_goals simp [*]
      all_goals try omega
  have g1 : (k == 1) = false := by simpa using h1
  by_cases h2 : k = 2
  · subst h2
    have R := Lib.hid (show nodeB vars 2 n s l = (decide (-1099511627776 ≤ n) && decide (n ≤ 1099511627776) && decide (s.toList = []) && decide (l = 0)) by simp [nodeB])
    clear h0 g0 h1 g1
    go_enter Tryz.func83, Tryz.ntmps83
    go_wp2_with fail
    all_goals go_ret
    all_goals refine ⟨?_, (Below.refl _ _).alloc (Nat.le_refl _) _⟩
    all_goals rw [R.out]
    all_goals refine ret_bool ?_
    all_goals rw [Bool.eq_iff_iff]
    all_goals simp [*]
    all_goals try omega
  have g2 : (k == 2) = false := by simpa using h2
  by_cases h3 : k = 3
  · subst h3
    clear h0 g0 h1 g1 h2 g2
    by_cases hn : n = 0
    · subst hn
      have R := Lib.hid (show nodeB vars 3 0 s l = (nameB s && decide (¬ s.toList = [33]) && decide (1 ≤ l) && decide (l ≤ 4)) by simp [nodeB])
      cases hb : nameB s
      all_goals
        have HB := Lib.hid hb
        clear hb
        go_enter Tryz.func83, Tryz.ntmps83
        go_wp2_with (go_at_call 95; refine (named_any _ _).mono ?_; rintro e w' ⟨rfl, rfl⟩; rw [HB.out])
        all_goals go_ret
        all_goals refine ⟨?_, (Below.refl _ _).alloc (Nat.le_refl _) _⟩
        all_goals rw [R.out, HB.out]
        all_goals refine ret_bool ?_
        all_goals rw [Bool.eq_iff_iff]
        all_goals simp [*]
        all_goals try omega
    · have hn' : (n == 0) = false := by simpa using hn
      have R := Lib.hid (show nodeB vars 3 n s l = false by simp [nodeB, hn])
      clear hn
      go_enter Tryz.func83, Tryz.ntmps83
      go_wp2_with fail
      go_ret
      exact ⟨by rw [R.out]; rfl, (Below.refl _ _).alloc (Nat.le_refl _) _⟩
  have g3 : (k == 3) = false := by simpa using h3
  have R := Lib.hid (show nodeB vars k n s l = false by simp [nodeB, h0, h1, h2, h3])
  clear h0 h1 h2 h3
  go_enter Tryz.func83, Tryz.ntmps83
  go_wp2_with fail
  go_ret
  exact ⟨by rw [R.out]; rfl, (Below.refl _ _).alloc (Nat.le_refl _) _⟩
end Go.Proofs.YtdiophafmokfiaaGreatDoor
namespace Go.Proofs.YtdiophafmokfiaaGreatDoor
open Go.RowKit

/-- Blocks that were there when the call began, or are one of G. -/
def oldOr (w : World) (G : List Nat) (k : Nat) : Prop := k < w.heap.size ∨ k ∈ G
/-- One path of the call's own, whose levels lie in old blocks or in G's. -/
structure V1 (w : World) (G : List Nat) (pb : Nat) (L : List Lev) (pv : Value) (xs : List Value) (wr : World) : Prop where
  path : IsPath wr w.heap.size pb pv xs
  pbl : w.heap.size ≤ pb
  pvs : PV L xs
  lev : ∀ l ∈ L, Seg wr (oldOr w G) l.T l.b l.o
  rows : ∀ g ∈ G, ∃ c, Plot wr g 31 c
  chg : Below w.heap.size w wr

section
variable {w wr w' : World} {G : List Nat} {pb : Nat} {L : List Lev} {pv : Value} {xs : List Value}
theorem V1.keep (h : V1 w G pb L pv xs wr) (hc : Chg (fun k => k = pb ∨ pv.ownBlock = some k) wr w') : ∀ k, oldOr w G k → k < wr.heap.size → w'.heap[k]? = wr.heap[k]? := by
  intro k hk hl
  refine hc.block k hl fun hS => ?_
  rcases hk with hk | hk
  · rcases hS with e | e
    · have := h.pbl; omega
    · have := (h.path.own.lt _ e).1; omega
  · obtain ⟨c, hb⟩ := h.rows k hk
    obtain ⟨h1, h2⟩ := h.path.other hb
    exact hS.elim h1 h2
theorem V1.chg' (h : V1 w G pb L pv xs wr) (hc : Chg (fun k => k = pb ∨ pv.ownBlock = some k) wr w') : Below w.heap.size w w' ∧ (∀ g ∈ G, ∃ c, Plot w' g 31 c) := by
  refine ⟨h.chg.trans (hc.below h.chg.size fun k hk _ => ?_), fun g hg => ?_⟩
  · rcases hk with e | e
    · have := h.pbl; omega
    · exact (h.path.own.lt _ e).1
  · obtain ⟨c, hb⟩ := h.rows g hg
    exact ⟨c, h.path.keep hc hb⟩
/-- Any other change that leaves the path and the levels alone. -/
theorem V1.aside (h : V1 w G pb L pv xs wr) (hb : Below wr.heap.size wr w') : V1 w G pb L pv xs w' where
  path := h.path.chg (Chg.of_fresh (S := fun _ => False) hb) (fun h => h) fun _ _ h => h
  pbl := h.pbl
  pvs := h.pvs
  lev := fun l hl => (h.lev l hl).below hb
  rows := fun g hg => by
    obtain ⟨c, h1⟩ := h.rows g hg
    exact ⟨c, h1.below hb⟩
  chg := h.chg.trans (hb.mono h.chg.size)

theorem lev_push {T : Ts} {b o : Nat} {p : Nat → Prop} (hT : 0 < T.length → Seg wr p T b o) (hL : ∀ l ∈ L, Seg wr p l.T l.b l.o) : ∀ l ∈ push T b o L, Seg wr p l.T l.b l.o := by
  intro l hl
  unfold push at hl
  split at hl
  · exact hL l hl
  · rcases List.mem_cons.1 hl with rfl | hl
    · exact hT (by omega)
    · exact hL l hl

theorem V1.next {b o : Nat} {k n : Int} {s : ByteArray} {ar r : Ts} (h : V1 w G pb (⟨b, o, .cons k n s ar r⟩ :: L) pv xs wr) (hn : nodesOf (⟨b, o, .cons k n s ar r⟩ :: L) ≤ 1048576) :
    Calls Tryz.prog 82 #[.pointer (some ⟨pb, 0, none⟩)] wr fun e w' => e = .returned (.pointer (some ⟨b, o, none⟩)) ∧
      ∃ pv' xs', V1 w G pb (push r b (o + 4) L) pv' xs' w' ∧ Seg w' (oldOr w G) (.cons k n s ar r) b o ∧ pv'.ownBlock = pv.ownBlock ∧ Chg (fun k => k = pb ∨ pv.ownBlock = some k) wr w' := by
  refine (next_lev h.path h.pvs hn).mono ?_
  rintro e w' ⟨he, pv', xs', h1, h2, h3, h4⟩
  have hk := h.keep h4
  have hs : Seg w' (oldOr w G) (.cons k n s ar r) b o := (h.lev _ (List.mem_cons_self ..)).keep hk
  obtain ⟨h5, h6⟩ := h.chg' h4
  refine ⟨he, pv', xs', ⟨h1, h.pbl, h2, ?_, h6, h5⟩, hs, h3, h4⟩
  exact lev_push (fun _ => (seg_cons.1 hs).2.2.2.2.2) fun l hl => (h.lev l (List.mem_cons_of_mem _ hl)).keep hk

theorem V1.add {T : Ts} {A : Option Addr} {c : Nat} (h : V1 w G pb L pv xs wr) (hv : Sl wr (oldOr w G) (.slice A T.length c) T) (hn : nodesOf L ≤ 1048576) :
    Calls Tryz.prog 84 #[.pointer (some ⟨pb, 0, none⟩), .slice A T.length c] wr fun e w' => e = .returned (.tuple #[]) ∧
      ∃ pv' xs' b o, V1 w G pb (push T b o L) pv' xs' w' ∧ (pv'.ownBlock = pv.ownBlock ∨ ∃ g, pv'.ownBlock = some g ∧ wr.heap.size ≤ g) ∧ Chg (fun k => k = pb ∨ pv.ownBlock = some k) wr w' := by
  obtain ⟨A', c', e, hc, hs⟩ := hv
  simp only [Value.slice.injEq, true_and] at e
  obtain ⟨rfl, rfl⟩ := e
  obtain ⟨b, o, hA⟩ : ∃ b o, 0 < T.length → A = some ⟨b, o, none⟩ ∧ Seg wr (oldOr w G) T b o := by
    rcases Nat.eq_zero_or_pos T.length with h | h
    · exact ⟨0, 0, fun h' => absurd h' (by omega)⟩
    · obtain ⟨b, o, h1, h2⟩ := hs h
      exact ⟨b, o, fun _ => ⟨h1, h2⟩⟩
  refine (add_lev (b := b) (o := o) h.path h.pvs h.chg.size hn hc fun h => (hA h).1).mono ?_
  rintro e w' ⟨he, pv', xs', h1, h2, h3, h4⟩
  have hk := h.keep h4
  obtain ⟨h5, h6⟩ := h.chg' h4
  refine ⟨he, pv', xs', b, o, ⟨h1, h.pbl, h2, ?_, h6, h5⟩, h3, h4⟩
  exact lev_push (fun hp => (hA hp).2.keep hk) fun l hl => (h.lev l hl).keep hk
end

theorem V1.start {w W : World} {G : List Nat} {ga gp pb : Nat} {k n : Int} {s : ByteArray} {A : Option Addr} {c : Nat} {ar : Ts} (hv : Sl w (fun _ => True) (.slice A ar.length c) ar) (hW : Below w.heap.size w W)
    (h1 : Plot W ga 31 #[.int .i64 k, .int .i64 n, .string s, .slice A ar.length c]) (h2 : Plot W gp 29 #[.slice (some ⟨ga, 0, none⟩) 1 1]) (h3 : Plot W pb 101 #[.slice (some ⟨gp, 0, none⟩) 1 1])
    (hG : ga ∈ G) (hr : ∀ g ∈ G, ∃ c, Plot W g 31 c) (hgp : w.heap.size ≤ gp) (hpb : w.heap.size ≤ pb) :
    V1 w G pb [⟨ga, 0, .cons k n s ar .nil⟩] (.slice (some ⟨gp, 0, none⟩) 1 1) [.slice (some ⟨ga, 0, none⟩) 1 1] W := by
  refine ⟨⟨h3, ⟨rfl, .inr ⟨gp, 1, _, rfl, hgp, h2, Nat.le_refl _, by simp [maxLen], rfl, rfl⟩⟩, ?_⟩, hpb, ⟨[], 1, rfl, Nat.le_refl _, Nat.zero_lt_one, rfl⟩, ?_, hr, hW⟩
  · simp only [Value.ownBlock, ne_eq, Option.some.injEq]
    exact h2.ne_ h3 (by decide)
  · intro l hl
    have e : l = ⟨ga, 0, .cons k n s ar .nil⟩ := by simpa using hl
    subst e
    refine seg_cons.2 ⟨.inr hG, h1.cell 0, h1.cell 1, h1.cell 2, ⟨_, h1.cell 3, ?_⟩, trivial⟩
    exact (hv.imp (q := oldOr w G) fun k _ h => .inl h).below hW

/-- Is every term good, to the bottom? -/
def Ts.good (vars : Int) : Ts → Bool
  | .nil => true
  | .cons k n s ar r => nodeB vars k n s ar.length && ar.good vars && r.good vars
def goodL (vars : Int) (L : List Lev) : Bool := L.all fun l => l.T.good vars
theorem goodL_push (vars : Int) (T : Ts) (b o : Nat) (L : List Lev) : goodL vars (push T b o L) = (T.good vars && goodL vars L) := by
  unfold push
  split
  · rename_i h; rw [Ts.nil_of_length h]; simp [Ts.good]
  · simp [goodL]

def GoodLoop (w : World) (G : List Nat) (pb : Nat) (T : Ts) (vars : Int) (g : Nat) (wr : World) : Prop :=
  ∃ L pv xs, V1 w G pb L pv xs wr ∧ g = nodesOf L ∧ nodesOf L ≤ T.nodes ∧ T.good vars = goodL vars L

set_option maxHeartbeats 400000 in
theorem good_any (k n vars : Int) (s : ByteArray) (ar : Ts) (v : Value) (w : World) (hv : Sl w (fun _ => True) v ar) (hn : ar.nodes < 1048576) :
    Calls Tryz.prog 64 #[.agg #[.int .i64 k, .int .i64 n, .string s, v], .int .i64 vars] w fun e w' => e = .returned (.bool ((Ts.cons k n s ar .nil).good vars)) ∧ Below w.heap.size w w' := by
  obtain ⟨A, c, rfl, hs⟩ := hv.form
  go_enter Tryz.func64, Tryz.ntmps64
  go_wp2_with (go_at_call 81; refine (newPath_any _ _ _ _ _ _ _).mono ?_; rintro e w1 ⟨rfl, rfl⟩)
  have hW : Below w.heap.size w (((((w.alloc (.cells #[.int .i64 k, .int .i64 n, .string s, .slice A ar.length c] 31)).alloc (.cells #[.int .i64 k, .int .i64 n, .string s, .slice A ar.length c] 31)).alloc (.cells #[.int .i64 k, .int .i64 n, .string s, .slice A ar.length c] 31)).alloc (.cells #[.slice (some ⟨w.heap.size + 1 + 1, 0, none⟩) 1 1] 29)).alloc (.cells #[.slice (some ⟨w.heap.size + 1 + 1 + 1, 0, none⟩) 1 1] 101)) := (((((Below.refl _ _).alloc (Nat.le_refl _) _).alloc (by simp) _).alloc (by simp; omega) _).alloc (by simp; omega) _).alloc (by simp; omega) _
  have hv0 : V1 w [w.heap.size + 1 + 1] (w.heap.size + 1 + 1 + 1 + 1) [⟨w.heap.size + 1 + 1, 0, .cons k n s ar .nil⟩] (.slice (some ⟨w.heap.size + 1 + 1 + 1, 0, none⟩) 1 1) [.slice (some ⟨w.heap.size + 1 + 1, 0, none⟩) 1 1] (((((w.alloc (.cells #[.int .i64 k, .int .i64 n, .string s, .slice A ar.length c] 31)).alloc (.cells #[.int .i64 k, .int .i64 n, .string s, .slice A ar.length c] 31)).alloc (.cells #[.int .i64 k, .int .i64 n, .string s, .slice A ar.length c] 31)).alloc (.cells #[.slice (some ⟨w.heap.size + 1 + 1, 0, none⟩) 1 1] 29)).alloc (.cells #[.slice (some ⟨w.heap.size + 1 + 1 + 1, 0, none⟩) 1 1] 101)) := by
    have b1 := ((Plot.new ((w.alloc (.cells #[.int .i64 k, .int .i64 n, .string s, .slice A ar.length c] 31)).alloc (.cells #[.int .i64 k, .int .i64 n, .string s, .slice A ar.length c] 31)) 31 #[.int .i64 k, .int .i64 n, .string s, .slice A ar.length c]).alloc (.cells #[.slice (some ⟨w.heap.size + 1 + 1, 0, none⟩) 1 1] 29)).alloc (.cells #[.slice (some ⟨w.heap.size + 1 + 1 + 1, 0, none⟩) 1 1] 101)
    have b2 := ((Plot.new (((w.alloc (.cells #[.int .i64 k, .int .i64 n, .string s, .slice A ar.length c] 31)).alloc (.cells #[.int .i64 k, .int .i64 n, .string s, .slice A ar.length c] 31)).alloc (.cells #[.int .i64 k, .int .i64 n, .string s, .slice A ar.length c] 31)) 29 #[.slice (some ⟨w.heap.size + 1 + 1, 0, none⟩) 1 1])).alloc (.cells #[.slice (some ⟨w.heap.size + 1 + 1 + 1, 0, none⟩) 1 1] 101)
    have b3 := Plot.new ((((w.alloc (.cells #[.int .i64 k, .int .i64 n, .string s, .slice A ar.length c] 31)).alloc (.cells #[.int .i64 k, .int .i64 n, .string s, .slice A ar.length c] 31)).alloc (.cells #[.int .i64 k, .int .i64 n, .string s, .slice A ar.length c] 31)).alloc (.cells #[.slice (some ⟨w.heap.size + 1 + 1, 0, none⟩) 1 1] 29)) 101 #[.slice (some ⟨w.heap.size + 1 + 1 + 1, 0, none⟩) 1 1]
    simp only [World.size_alloc] at b1 b2 b3
    exact V1.start hs hW b1 b2 b3 (by simp) (fun g hg => by
      have e : g = w.heap.size + 1 + 1 := by simpa using hg
      subst e; exact ⟨_, b1⟩) (by omega) (by omega)
  have h0 : GoodLoop w [w.heap.size + 1 + 1] (w.heap.size + 1 + 1 + 1 + 1) (.cons k n s ar .nil) vars (ar.nodes + 1) (((((w.alloc (.cells #[.int .i64 k, .int .i64 n, .string s, .slice A ar.length c] 31)).alloc (.cells #[.int .i64 k, .int .i64 n, .string s, .slice A ar.length c] 31)).alloc (.cells #[.int .i64 k, .int .i64 n, .string s, .slice A ar.length c] 31)).alloc (.cells #[.slice (some ⟨w.heap.size + 1 + 1, 0, none⟩) 1 1] 29)).alloc (.cells #[.slice (some ⟨w.heap.size + 1 + 1 + 1, 0, none⟩) 1 1] 101)) :=
    ⟨_, _, _, hv0, by simp [nodesOf, Ts.nodes], by simp [nodesOf], by simp [goodL]⟩
  clear hv0
  go_loopg [] (ar.nodes + 1) (GoodLoop w [w.heap.size + 1 + 1] (w.heap.size + 1 + 1 + 1 + 1) (.cons k n s ar .nil) vars)
  case atStart => exact h0
  case round =>
    clear h0
    obtain ⟨L, pv, xs, hrel, hg, hsm, hgd⟩ := hrel
    have HG := Lib.hid hg
    have HD := Lib.hid hgd
    have hpx := hrel.pvs.length
    simp only [Ts.nodes] at hsm
    obtain ⟨Ap, cp, hpv⟩ := own_form hrel.path.own
    subst hpv
    have cpb : wr.cell? ⟨w.heap.size + 1 + 1 + 1 + 1, 0, none⟩ = some (.slice Ap xs.length cp) := hrel.path.var.cell 0
    clear hg hgd
    cases L with
    | nil =>
      have hx : xs = [] := hrel.pvs
      subst hx
      have hb := hrel.chg
      clear hrel hpx
      go_wp2_with fail
      go_ret
      exact ⟨by rw [HD.out]; rfl, hb⟩
    | cons l Ls =>
      obtain ⟨b, o, T1⟩ := l
      cases T1 with
      | nil => obtain ⟨_, _, _, _, h, _⟩ := hrel.pvs; simp [Ts.length] at h
      | cons k1 n1 s1 a1 r1 =>
      have hxl : 0 < xs.length := by rw [hpx]; simp
      have hn4 : nodesOf (⟨b, o, .cons k1 n1 s1 a1 r1⟩ :: Ls) ≤ 1048576 := by omega
      have hn5 : nodesOf (push r1 b (o + 4) Ls) ≤ 1048576 := by
        rw [nodesOf_push]
        simp only [nodesOf, List.map_cons, List.sum_cons, Ts.nodes] at hn4 ⊢
        omega
      go_wp2_with fail
      refine (hrel.next hn4).mono ?_
      rintro e w2 ⟨rfl, pv2, xs2, h2, hseg, _, _⟩
      obtain ⟨_, c0, c1, c2, ⟨v1, c3, hv1⟩, _⟩ := seg_cons.1 hseg
      obtain ⟨A1, d1, rfl, hv1⟩ := hv1.form
      go_wp2_with fail
      refine (goodNode_any vars k1 n1 s1 A1 a1.length d1 _).mono ?_
      rintro e w3 ⟨rfl, hb3⟩
      have h3 := h2.aside hb3
      have e3 : w3.cell? ⟨b, o + 3, none⟩ = some (.slice A1 a1.length d1) := (hb3.cell (lt_of_cell c3)).trans c3
      have hv3 := hv1.below hb3
      cases hnode : nodeB vars k1 n1 s1 a1.length with
      | false =>
        have hres : Hid ((Ts.cons k n s ar .nil).good vars = false) := Lib.hid (by rw [HD.out]; simp [goodL, Ts.good, hnode])
        clear hnode
        go_wp2_with fail
        go_ret
        exact ⟨by rw [hres.out]; rfl, h3.chg⟩
      | true =>
        have hres : Hid ((Ts.cons k n s ar .nil).good vars = (a1.good vars && (r1.good vars && goodL vars Ls))) := Lib.hid (by rw [HD.out]; simp [goodL, Ts.good, hnode, Bool.and_assoc])
        clear hnode
        go_wp2_with fail
        refine (h3.add hv3 hn5).mono ?_
        rintro e w4 ⟨rfl, pv4, xs4, b4, o4, h4, _, _⟩
        go_wp2_with fail
        go_roundg (nodesOf (push a1 b4 o4 (push r1 b (o + 4) Ls)))
        case measure =>
          rw [HG.out, nodesOf_push, nodesOf_push]
          simp only [nodesOf, List.map_cons, List.sum_cons, Ts.nodes]
          omega
        case rel =>
          refine ⟨_, _, _, h4, rfl, ?_, ?_⟩
          · rw [nodesOf_push, nodesOf_push]
            simp only [nodesOf, List.map_cons, List.sum_cons, Ts.nodes] at hsm ⊢
            omega
          · rw [hres.out, goodL_push, goodL_push]

def NodesLoop (w : World) (G : List Nat) (pb : Nat) (T : Ts) (g : Nat) (s3 : Value) (wr : World) : Prop :=
  ∃ (L : List Lev) (pv : Value) (xs : List Value) (cnt : Nat), V1 w G pb L pv xs wr ∧ g = nodesOf L ∧ T.nodes = cnt + nodesOf L ∧ s3 = .int .i64 cnt

end Go.Proofs.YtdiophafmokfiaaGreatDoor
namespace Go.Proofs.YtdiophafmokfiaaGreatDoor
open Go.RowKit

def IsTermSaid (vars : Int) (ar : Ts) : Prop := ∀ (k n : Int) (s : ByteArray) (v : Value) (w : World), Sl w (fun _ => True) v ar → ar.nodes ≤ 1048576 →
    Calls Tryz.prog 61 #[.agg #[.int .i64 k, .int .i64 n, .string s, v], .int .i64 vars] w fun e w' => e = .returned (.bool ((Ts.cons k n s ar .nil).good vars)) ∧ Below w.heap.size w w'

def ItRel (W : World) (T : Ts) (vars : Int) (g : Nat) (s11 : Value) (wr : World) : Prop := ∃ D R : Ts, T = D.app R ∧ D.good vars = true ∧ Below W.heap.size W wr ∧ g = R.length ∧ s11 = .int .i64 D.length
theorem Ts.good_app (v : Int) (D R : Ts) : (D.app R).good v = (D.good v && R.good v) := by
  induction D with
  | nil => rfl
  | cons k n b ar r _ ih => simp only [Ts.app, Ts.good, ih, Bool.and_assoc]
theorem Ts.good_one (v k n : Int) (s : ByteArray) (T : Ts) : (Ts.cons k n s T .nil).good v = (nodeB v k n s T.length && T.good v) := by simp [Ts.good]

set_option maxHeartbeats 1000000 in
theorem isTerm_of (vars : Int) (m : Nat) (ih : ∀ T : Ts, T.nodes < m → IsTermSaid vars T) (T : Ts) (hm : T.nodes ≤ m) : IsTermSaid vars T := by
  intro k n s v w hv hn
  obtain ⟨A, c, rfl, hs⟩ := hv.form
  have hle := T.length_le
  have hl : T.length ≤ 1048576 := by omega
  rw [Ts.good_one]
  generalize hres : (nodeB vars k n s T.length && T.good vars) = res
  have HR := Lib.hid hres
  clear hres
  have HN := Lib.hid hn
  have HM := Lib.hid hm
  clear hn hm
  go_enter Tryz.func61, Tryz.ntmps61
  go_wp2_with fail
  have hW0 : Below w.heap.size w (w.alloc (.cells #[.int .i64 k, .int .i64 n, .string s, .slice A T.length c] 31)) := (Below.refl _ _).alloc (Nat.le_refl _) _
  have bA := Plot.new w 31 #[.int .i64 k, .int .i64 n, .string s, .slice A T.length c]
  generalize w.alloc (.cells #[.int .i64 k, .int .i64 n, .string s, .slice A T.length c] 31) = W at *
  have hs1 := hs.below hW0
  have h0 : ItRel W T vars T.length (.int .i64 0) W := ⟨.nil, T, rfl, rfl, Below.refl _ _, rfl, rfl⟩
  go_loopg [11] T.length (ItRel W T vars)
  case atStart => exact h0
  case round =>
    clear h0
    obtain ⟨D, R, hT, hD, hb, hg, rfl⟩ := hrel
    have HG := Lib.hid hg
    clear hg
    cases R with
    | nil =>
      have eD : D = T := by rw [hT, Ts.app_nil]
      subst eD
      have HD := Lib.hid hD
      clear hD hT
      have bA := bA.below hb
      obtain ⟨p0, p1, p2, p3, _⟩ := bA.four
      have hB : Below w.heap.size w wr := hW0.trans (hb.mono hW0.size)
      clear hb hW0 bA hs1 hs hv hle
      have HE := Lib.hid (show nodeB vars k n s D.length = res by rw [← HR.out, HD.out, Bool.and_true])
      clear HR HD
      generalize D.length = l at *
      by_cases h0 : k = 0
      · subst h0
        have R := Lib.hid (show res = (decide (0 ≤ n) && decide (n < vars) && decide (s.toList = []) && decide (l = 0)) by rw [← HE.out]; simp [nodeB])
        go_wp2_with fail
        all_goals go_ret
        all_goals refine ⟨?_, hB⟩
        all_goals rw [R.out]
        all_goals refine ret_bool ?_
        all_goals rw [Bool.eq_iff_iff]
        all_goals simp [*]
        all_goals try omega
      have g0 : (k == 0) = false := by simpa using h0
      by_cases h1 : k = 1
      · subst h1
        have R := Lib.hid (show res = (decide (n = 0) && nameB s && decide (l = 0)) by rw [← HE.out]; simp [nodeB])
        clear h0 g0
        cases hb : nameB s
        all_goals
          have HB := Lib.hid hb
          clear hb
          go_wp2_with (go_at_call 79; refine (isName_any _ _).mono ?_; rintro e w' ⟨rfl, hB2⟩; rw [HB.out]; have hB := hB.trans (hB2.mono hB.size))
          all_goals go_ret
          all_goals refine ⟨?_, hB⟩
          all_goals rw [R.out, HB.out]
          all_goals refine ret_bool ?_
          all_goals rw [Bool.eq_iff_iff]
          all_goals simp [*]
          all_goals try omega
      have g1 : (k == 1) = false := by simpa using h1
      by_cases h2 : k = 2
      · subst h2
        have R := Lib.hid (show res = (decide (-1099511627776 ≤ n) && decide (n ≤ 1099511627776) && decide (s.toList = []) && decide (l = 0)) by rw [← HE.out]; simp [nodeB])
        clear h0 g0 h1 g1
        go_wp2_with fail
        all_goals go_ret
        all_goals refine ⟨?_, hB⟩
        all_goals rw [R.out]
        all_goals refine ret_bool ?_
        all_goals rw [Bool.eq_iff_iff]
        all_goals simp [*]
        all_goals try omega
      have g2 : (k == 2) = false := by simpa using h2
      by_cases h3 : k = 3
      · subst h3
        clear h0 g0 h1 g1 h2 g2
        have R := Lib.hid (show res = (decide (n = 0) && nameB s && decide (¬ s.toList = [33]) && decide (1 ≤ l) && decide (l ≤ 4)) by rw [← HE.out]; simp [nodeB])
        cases hb : nameB s
        all_goals
          have HB := Lib.hid hb
          clear hb
          go_wp2_with (go_at_call 79; refine (isName_any _ _).mono ?_; rintro e w' ⟨rfl, hB2⟩; rw [HB.out]; have hB := hB.trans (hB2.mono hB.size))
          all_goals go_ret
          all_goals refine ⟨?_, hB⟩
          all_goals rw [R.out, HB.out]
          all_goals refine ret_bool ?_
          all_goals rw [Bool.eq_iff_iff]
          all_goals simp [*]
          all_goals try omega
      have g3 : (k == 3) = false := by simpa using h3
      have R := Lib.hid (show res = false by rw [← HE.out]; simp [nodeB, h0, h1, h2, h3])
      clear h0 h1 h2 h3
      go_wp2_with fail
      go_ret
      exact ⟨by rw [R.out]; rfl, hB⟩
    | cons k1 n1 s1 ar r =>
      have e1 : D.length < T.length := by rw [hT, Ts.length_app]; simp [Ts.length]
      have e2 : ar.nodes < m := by have := HM.out; rw [hT, Ts.nodes_app] at this; simp [Ts.nodes] at this; omega
      have e3 : ar.nodes ≤ 1048576 := by have := HN.out; rw [hT, Ts.nodes_app] at this; simp [Ts.nodes] at this; omega
      have hsl : Sl wr (fun _ => True) (.slice A T.length c) (D.app (.cons k1 n1 s1 ar r)) := by
        rw [← hT]
        exact hs1.below hb
      obtain ⟨b1, o1, rfl, hq1⟩ := Sl.at_ hsl (by simp [Ts.length])
      obtain ⟨_, c10, c11, c12, ⟨v1, c13, hv1⟩, _⟩ := seg_cons.1 hq1
      obtain ⟨A1, d1, rfl, hv1⟩ := hv1.form
      have HT := Lib.hid hT
      have HD := Lib.hid hD
      clear hq1 hsl hT hD
      have hgood : T.good vars = ((Ts.cons k1 n1 s1 ar .nil).good vars && r.good vars) := by
        rw [HT.out, Ts.good_app, HD.out]; simp [Ts.good]
      have hnext : (Ts.cons k1 n1 s1 ar .nil).good vars = true → (D.app (.cons k1 n1 s1 ar .nil)).good vars = true := fun h => by rw [Ts.good_app, HD.out, h]; rfl
      have HGD := Lib.hid hgood
      have HNX := Lib.hid hnext
      clear hgood hnext
      go_wp2_with fail
      refine (ih ar e2 k1 n1 s1 _ _ (hv1.below ((Below.refl _ _).alloc (Nat.le_refl _) _)) e3).mono ?_
      rintro e w2 ⟨rfl, hb2⟩
      have hb3 : Below W.heap.size W w2 := (hb.trans (((Below.refl _ _).alloc (Nat.le_refl _) _).mono hb.size)).trans (hb2.mono (by have := hb.size; simp; omega))
      cases hx : (Ts.cons k1 n1 s1 ar .nil).good vars with
      | false =>
        go_wp2_with fail
        go_ret
        refine ⟨?_, hW0.trans (hb3.mono hW0.size)⟩
        rw [← HR.out, HGD.out, hx]; simp
      | true =>
        go_wp2_with fail
        go_roundg r.length
        case measure => rw [HG.out]; simp [Ts.length]
        case rel =>
          refine ⟨D.app (.cons k1 n1 s1 ar .nil), r, ?_, HNX.out hx, hb3, rfl, ?_⟩
          · rw [HT.out, Ts.app_assoc]; rfl
          · rw [Ts.length_app]; rfl

theorem isTerm_said (vars : Int) (T : Ts) : IsTermSaid vars T := by
  have : ∀ m, ∀ T : Ts, T.nodes < m → IsTermSaid vars T := by
    intro m
    induction m with
    | zero => intro T h; omega
    | succ m ih => intro T h; exact isTerm_of vars m ih T (by omega)
  exact this _ T (Nat.lt_succ_self _)
end Go.Proofs.YtdiophafmokfiaaGreatDoor
namespace Go.Proofs.YtdiophafmokfiaaGreatDoor
open Go.RowKit

theorem below_setCells {B b : Nat} (hb : B ≤ b) : ∀ (vs : List Value) (o : Nat) (w : World), Below B w (w.setCells b o vs)
  | [], _, w => Below.refl _ w
  | v :: r, o, w => ((Below.refl B w).setCell (p := ⟨b, o, none⟩) hb v).trans (below_setCells hb r (o + 1) _)

theorem came_below {W W' : World} {size : Nat} {ao : Option Addr} {b off len cap : Nat} {olds : List Value} (h : Came W size ao b off len cap olds) (hb : Below W.heap.size W W') : Came W' size ao b off len cap olds := by
  have hz := hb.size
  rcases Nat.eq_zero_or_pos cap with h0 | h0
  · have hl := h.le
    have e0 : len = 0 := by omega
    subst h0 e0
    have ho : olds = [] := List.eq_nil_of_length_eq_zero (by simpa using h.oldsLen)
    subst ho
    exact ⟨Nat.le_refl _, fun h => absurd h (Nat.lt_irrefl _), fun h => absurd h (Nat.lt_irrefl _), by simp, fun j u hu => by simp at hu, fun j hj => by simp at hj⟩
  · have hlt := h.lt h0
    refine ⟨h.le, h.addr, fun _ => by omega, h.oldsLen, fun j u hu => ?_, fun j hj => ?_⟩
    · rw [hb.cell (p := ⟨b, off + j, none⟩) hlt]; exact h.olds j u hu
    · rw [hb.cell (p := ⟨b, off + len * size + j, none⟩) hlt, hb.frozen (p := ⟨b, off + len * size + j, none⟩) hlt]; exact h.spare j hj

/-- One append onto a slice of the call's own, wherever it lies in its block. -/
theorem run_append_came {P : Program} {W : World} {e : TypeId} {size : Nat} {ao : Option Addr} {b off len cap : Nat} {olds : List Value} (hc : Came W size ao b off len cap olds)
    (t tx ty : TypeId) (i : TypeInfo) (z : Value) (bytes : Nat) (ht : P.underlying t = some (.slice e)) (hi : P.info? e = some i) (hz : i.zero = some z) (hsize : i.size = size) (hby : i.bytes = bytes) (hzs : z.cells.size = size)
    (x : Value) (n : Nat) (news : List Value) (hs : Src P size tx x n news W) (h63 : len + n ≤ maxLen) (hbytes : (len + n) * bytes ≤ 140737488355328) (B : Nat) (hB : 0 < cap → B ≤ b) (hBW : B ≤ W.heap.size) :
    ∃ ao' b' off' cap' w', (Builtin.append_ #[t, tx] ty #[.slice ao len cap, x]).run P W = .ok (.slice ao' (len + n) cap') w' ∧ Came w' size ao' b' off' (len + n) cap' (olds ++ news) ∧ (0 < cap' → B ≤ b') ∧ Below B W w' := by
  subst hsize hby
  have hol := hc.oldsLen
  have hnl := hs.newsLen
  have hle := hc.le
  have hlen : (olds ++ news).length = (len + n) * i.size := by rw [List.length_append, hol, hnl, Nat.add_mul]
  have hsmall : len + n ≤ 9223372036854775807 := by simp only [maxLen] at h63; omega
  by_cases hfit : len + n ≤ cap
  · rcases Nat.eq_zero_or_pos cap with h0 | hcap
    · subst h0
      obtain rfl : n = 0 := by omega
      obtain rfl : news = [] := List.eq_nil_of_length_eq_zero (by simpa using hnl)
      exact ⟨ao, b, off, 0, W, run_append_nothing (P := P) W t tx ty e i ht hi ao len 0 hle x hs, by simpa using hc, fun h => absurd h (Nat.lt_irrefl _), Below.refl _ _⟩
    · have hao := hc.addr hcap
      subst hao
      have hrc : (len + n) * i.size ≤ cap * i.size := Nat.mul_le_mul_right _ hfit
      have hsp : ∀ j, j < news.length → j < (cap - len) * i.size := fun j hj => by rw [Nat.sub_mul]; rw [Nat.add_mul] at hrc; omega
      have hrun := run_append_room_src (P := P) W t tx ty e i ht hi b off len cap x n news hs hfit (fun j hj => (hc.spare j (hsp j hj)).1) (fun j hj => (hc.spare j (hsp j hj)).2)
      refine ⟨_, b, off, cap, _, hrun, ⟨hfit, fun _ => rfl, fun _ => ?_, hlen, fun j u hu => ?_, fun j hj => ?_⟩, hB, below_setCells (hB hcap) _ _ _⟩
      · have := (below_setCells (Nat.le_refl b) news (off + len * i.size) W).size; have := hc.lt hcap; omega
      · by_cases hj : j < olds.length
        · rw [List.getElem?_append_left hj] at hu
          rw [World.cell?_setCells_out b news _ W ⟨b, off + j, none⟩ (fun _ _ => .inl (by simp; omega))]
          exact hc.olds j u hu
        · rw [List.getElem?_append_right (by omega)] at hu
          obtain ⟨h1, h2⟩ := List.getElem?_eq_some_iff.1 hu
          have := World.cell?_setCells_in b news (off + len * i.size) W (fun j hj => (hc.spare j (hsp j hj)).1) (j - olds.length) h1
          rw [show off + len * i.size + (j - olds.length) = off + j by omega, h2] at this
          exact this
      · have hjj : n * i.size + j < (cap - len) * i.size := by
          rw [Nat.sub_mul] at hj ⊢
          rw [Nat.add_mul] at hj hrc
          omega
        have h1 := hc.spare (n * i.size + j) hjj
        rw [Nat.add_mul]
        rw [World.cell?_setCells_out b news _ W _ (fun _ _ => .inr (by simp; omega)), World.frozen?_setCells]
        rwa [show off + (len * i.size + n * i.size) + j = off + len * i.size + (n * i.size + j) by omega]
  · have hold : (Builtin.firstCells i.size len (.slice ao len cap)).run P W.drew = .ok olds.toArray W.drew := by
      rcases Nat.eq_zero_or_pos cap with h0 | hcap
      · have e0 : len = 0 := by omega
        subst h0 e0
        have ho : olds = [] := List.eq_nil_of_length_eq_zero (by simpa using hol)
        subst ho
        cases ao with
        | none => exact run_firstCells_none W.drew i.size 0 0 0
        | some a => exact run_firstCells_some W.drew i.size 0 a 0 0 [] (by simp) (fun j v hv => by simp at hv)
      · have hao := hc.addr hcap
        subst hao
        refine run_firstCells_some W.drew i.size len _ len cap olds hol fun j v hv => ?_
        rw [Addr.add_lit]
        exact hc.olds j v hv
    have hrun := run_append_grow_src (P := P) W t tx ty e i z ht hi hz ao len cap olds hold x n news hs (by omega) (by omega) (growslice_fits (by omega) hbytes)
    have hge := grownCap_ge W (len + n) cap e
    have hsz : ((olds ++ news).toArray ++ Builtin.zeroCells z.cells (grownCap W (len + n) cap e - (len + n))).size = grownCap W (len + n) cap e * i.size := by
      rw [Array.size_append, List.size_toArray, hlen, size_zeroCells, hzs, ← Nat.add_mul]
      congr 1
      omega
    have hpl := Plot.new W.drew e ((olds ++ news).toArray ++ Builtin.zeroCells z.cells (grownCap W (len + n) cap e - (len + n)))
    refine ⟨_, W.heap.size, 0, _, _, hrun, ⟨hge, fun _ => rfl, fun _ => by simp, hlen, fun j u hu => ?_, fun j hj => ?_⟩, fun _ => hBW, ((Below.refl _ _).drew).alloc hBW _⟩
    · have h1 := hpl.cell (0 + j)
      have h2 := (List.getElem?_eq_some_iff.1 hu).1
      rw [Nat.zero_add, Array.getElem?_append_left (by simpa using h2), List.getElem?_toArray, hu] at h1
      rw [Nat.zero_add]
      exact h1
    · have h1 := hpl.cell (0 + (len + n) * i.size + j)
      refine ⟨?_, hpl.frozen _⟩
      have hj2 : 0 + (len + n) * i.size + j < grownCap W (len + n) cap e * i.size := by
        rw [Nat.sub_mul] at hj
        omega
      rw [Array.getElem?_eq_getElem (by rw [hsz]; exact hj2)] at h1
      exact Option.isSome_iff_exists.2 ⟨_, h1⟩

/-- The same, as a step of a walk. -/
theorem wpList_append_came {P : Program} {ops : Array Oper} {rest : List Oper} {o : Oper} {a : Act} {Q : Exit → Act → World → Prop} (W : World) (hgd : o.guard = none) (s x : Operand) (t tx : TypeId)
    (ho : o.op = .call { callee := .builtin .append, args := #[s, x], argTypes := #[t, tx] }) {e : TypeId} {size : Nat} {ao : Option Addr} {b off len cap : Nat} {olds : List Value} (hc : Came W size ao b off len cap olds)
    (i : TypeInfo) (z : Value) (bytes : Nat) (ht : P.underlying t = some (.slice e)) (hi : P.info? e = some i) (hz : i.zero = some z) (hsize : i.size = size) (hby : i.bytes = bytes) (hzs : z.cells.size = size)
    (hv : a.eval s = .slice ao len cap) (xv : Value) (n : Nat) (news : List Value) (hx : a.eval x = xv) (hs : Src P size tx xv n news W) (h63 : len + n ≤ maxLen) (hbytes : (len + n) * bytes ≤ 140737488355328) (B : Nat) (hB : 0 < cap → B ≤ b) (hBW : B ≤ W.heap.size)
    (hK : ∀ ao' b' off' cap' w', Came w' size ao' b' off' (len + n) cap' (olds ++ news) → (0 < cap' → B ≤ b') → Below B W w' → wpList P ops Q rest (a.put o.dst (.slice ao' (len + n) cap')) w') : wpList P ops Q (o :: rest) a W := by
  refine wpList_plain hgd fun K hK' => ?_
  obtain ⟨ao', b', off', cap', w', hrun, h1, h2, h3⟩ := run_append_came (P := P) hc t tx o.type i z bytes ht hi hz hsize hby hzs xv n news hs h63 hbytes B hB hBW
  unfold Oper.wp
  simp [execOp, ho, resolve, invoke, builtin, hv, hx, hrun, Result.andThen]
  exact hK' _ _ (hK _ _ _ _ _ h1 h2 h3)

/-- What an append takes out of a slice of terms. -/
theorem Sl.src {P : Program} {W : World} {p : Nat → Prop} {A : Option Addr} {c : Nat} {T : Ts} {tx e' : TypeId} (hk : P.underlying tx = some (.slice e')) (h : Sl W p (.slice A T.length c) T) :
    ∃ news, Src P 4 tx (.slice A T.length c) T.length news W ∧ Cs W p T news := by
  obtain ⟨A', c', e, hle, hs⟩ := h
  simp only [Value.slice.injEq, true_and] at e
  obtain ⟨rfl, rfl⟩ := e
  rcases Nat.eq_zero_or_pos T.length with h0 | h0
  · have e := Ts.nil_of_length h0
    subst e
    refine ⟨[], ?_, rfl⟩
    cases A with
    | none => exact Src.ofNil W hk c
    | some a => exact Src.ofSlice W hk a 0 c [] rfl (fun j u hu => by simp at hu) (fun u hu => by cases hu)
  · obtain ⟨b, o, rfl, hq⟩ := hs h0
    obtain ⟨xs, h1, h2⟩ := hq.cells
    refine ⟨xs, Src.ofSlice W hk _ _ c xs h1.length (fun j u hu => ?_) h1.one, h1⟩
    rw [Addr.add_lit]
    exact h2 j u hu
end Go.Proofs.YtdiophafmokfiaaGreatDoor
