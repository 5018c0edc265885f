/- Visit, Built, Fits, Goals, Query, Clause, CModel, CPure, CPure2, HRow, Mk, CRow: texts that follow one another, laid into one file. -/
import Derived.Test.YtdflngjfnpbpmabG2
import Derived.Test.YtdflngjfnpbpmabG0
import Derived.Test.YtdflngjfnpbpmabG1
import Derived.Test.YtdflngjfnpbpmabRows
import Derived.Deep.LoopGhost
import Derived.Deep.QuietTactic
import Derived.BigQuiet
import Derived.Lib.SliceRun
import Derived.Laws.MakeOwn
namespace Go.Proofs.Ytdflngjfnpbpmab
open Go.RowKit

/-- Blocks that were there when the call began, or are one of G. -/
def oldOr (w : World) (G : List Nat) (k : Nat) : Prop := k < w.heap.size ∨ k ∈ G
/-- One path of the call's own, whose levels lie in old blocks or in G's. -/
structure V1 (w : World) (G : List Nat) (pb : Nat) (L : List Lev) (pv : Value) (xs : List Value) (wr : World) : Prop where
  path : IsPath wr w.heap.size pb pv xs
  pbl : w.heap.size ≤ pb
  pvs : PV L xs
  lev : ∀ l ∈ L, Seg wr (oldOr w G) l.T l.b l.o
  rows : ∀ g ∈ G, ∃ c, Plot wr g 39 c
  chg : Below w.heap.size w wr

section
variable {w wr w' : World} {G : List Nat} {pb : Nat} {L : List Lev} {pv : Value} {xs : List Value}
theorem V1.keep (h : V1 w G pb L pv xs wr) (hc : Chg (fun k => k = pb ∨ pv.ownBlock = some k) wr w') : ∀ k, oldOr w G k → k < wr.heap.size → w'.heap[k]? = wr.heap[k]? := by
  intro k hk hl
  refine hc.block k hl fun hS => ?_
  rcases hk with hk | hk
  · rcases hS with e | e
    · have := h.pbl; omega
    · have := (h.path.own.lt _ e).1; omega
  · obtain ⟨c, hb⟩ := h.rows k hk
    obtain ⟨h1, h2⟩ := h.path.other hb
    exact hS.elim h1 h2
theorem V1.chg' (h : V1 w G pb L pv xs wr) (hc : Chg (fun k => k = pb ∨ pv.ownBlock = some k) wr w') : Below w.heap.size w w' ∧ (∀ g ∈ G, ∃ c, Plot w' g 39 c) := by
  refine ⟨h.chg.trans (hc.below h.chg.size fun k hk _ => ?_), fun g hg => ?_⟩
  · rcases hk with e | e
    · have := h.pbl; omega
    · exact (h.path.own.lt _ e).1
  · obtain ⟨c, hb⟩ := h.rows g hg
    exact ⟨c, h.path.keep hc hb⟩
/-- Any other change that leaves the path and the levels alone. -/
theorem V1.aside (h : V1 w G pb L pv xs wr) (hb : Below wr.heap.size wr w') : V1 w G pb L pv xs w' where
  path := h.path.chg (Chg.of_fresh (S := fun _ => False) hb) (fun h => h) fun _ _ h => h
  pbl := h.pbl
  pvs := h.pvs
  lev := fun l hl => (h.lev l hl).below hb
  rows := fun g hg => by
    obtain ⟨c, h1⟩ := h.rows g hg
    exact ⟨c, h1.below hb⟩
  chg := h.chg.trans (hb.mono h.chg.size)

theorem lev_push {T : Ts} {b o : Nat} {p : Nat → Prop} (hT : 0 < T.length → Seg wr p T b o) (hL : ∀ l ∈ L, Seg wr p l.T l.b l.o) : ∀ l ∈ push T b o L, Seg wr p l.T l.b l.o := by
  intro l hl
  unfold push at hl
  split at hl
  · exact hL l hl
  · rcases List.mem_cons.1 hl with rfl | hl
    · exact hT (by omega)
    · exact hL l hl

theorem V1.next {b o : Nat} {k n : Int} {s : ByteArray} {ar r : Ts} (h : V1 w G pb (⟨b, o, .cons k n s ar r⟩ :: L) pv xs wr) (hn : nodesOf (⟨b, o, .cons k n s ar r⟩ :: L) ≤ 1048576) :
    Calls Try.prog 82 #[.pointer (some ⟨pb, 0, none⟩)] wr fun e w' => e = .returned (.pointer (some ⟨b, o, none⟩)) ∧
      ∃ pv' xs', V1 w G pb (push r b (o + 4) L) pv' xs' w' ∧ Seg w' (oldOr w G) (.cons k n s ar r) b o ∧ pv'.ownBlock = pv.ownBlock ∧ Chg (fun k => k = pb ∨ pv.ownBlock = some k) wr w' := by
  refine (next_lev h.path h.pvs (Nat.le_trans hn (by omega))).mono ?_
  rintro e w' ⟨he, pv', xs', h1, h2, h3, h4⟩
  have hk := h.keep h4
  have hs : Seg w' (oldOr w G) (.cons k n s ar r) b o := (h.lev _ (List.mem_cons_self ..)).keep hk
  obtain ⟨h5, h6⟩ := h.chg' h4
  refine ⟨he, pv', xs', ⟨h1, h.pbl, h2, ?_, h6, h5⟩, hs, h3, h4⟩
  exact lev_push (fun _ => (seg_cons.1 hs).2.2.2.2.2) fun l hl => (h.lev l (List.mem_cons_of_mem _ hl)).keep hk

theorem V1.add {T : Ts} {A : Option Addr} {c : Nat} (h : V1 w G pb L pv xs wr) (hv : Sl wr (oldOr w G) (.slice A T.length c) T) (hn : nodesOf L ≤ 1048576) :
    Calls Try.prog 81 #[.pointer (some ⟨pb, 0, none⟩), .slice A T.length c] wr fun e w' => e = .returned (.tuple #[]) ∧
      ∃ pv' xs' b o, V1 w G pb (push T b o L) pv' xs' w' ∧ (pv'.ownBlock = pv.ownBlock ∨ ∃ g, pv'.ownBlock = some g ∧ wr.heap.size ≤ g) ∧ Chg (fun k => k = pb ∨ pv.ownBlock = some k) wr w' := by
  obtain ⟨A', c', e, hc, hs⟩ := hv
  simp only [Value.slice.injEq, true_and] at e
  obtain ⟨rfl, rfl⟩ := e
  obtain ⟨b, o, hA⟩ : ∃ b o, 0 < T.length → A = some ⟨b, o, none⟩ ∧ Seg wr (oldOr w G) T b o := by
    rcases Nat.eq_zero_or_pos T.length with h | h
    · exact ⟨0, 0, fun h' => absurd h' (by omega)⟩
    · obtain ⟨b, o, h1, h2⟩ := hs h
      exact ⟨b, o, fun _ => ⟨h1, h2⟩⟩
  refine (add_lev (b := b) (o := o) h.path h.pvs h.chg.size (Nat.le_trans hn (by omega)) hc fun h => (hA h).1).mono ?_
  rintro e w' ⟨he, pv', xs', h1, h2, h3, h4⟩
  have hk := h.keep h4
  obtain ⟨h5, h6⟩ := h.chg' h4
  refine ⟨he, pv', xs', b, o, ⟨h1, h.pbl, h2, ?_, h6, h5⟩, h3, h4⟩
  exact lev_push (fun hp => (hA hp).2.keep hk) fun l hl => (h.lev l hl).keep hk
end

theorem V1.start {w W : World} {G : List Nat} {ga gp pb : Nat} {k n : Int} {s : ByteArray} {A : Option Addr} {c : Nat} {ar : Ts} (hv : Sl w (fun _ => True) (.slice A ar.length c) ar) (hW : Below w.heap.size w W)
    (h1 : Plot W ga 39 #[.int .i64 k, .int .i64 n, .string s, .slice A ar.length c]) (h2 : Plot W gp 37 #[.slice (some ⟨ga, 0, none⟩) 1 1]) (h3 : Plot W pb 107 #[.slice (some ⟨gp, 0, none⟩) 1 1])
    (hG : ga ∈ G) (hr : ∀ g ∈ G, ∃ c, Plot W g 39 c) (hgp : w.heap.size ≤ gp) (hpb : w.heap.size ≤ pb) :
    V1 w G pb [⟨ga, 0, .cons k n s ar .nil⟩] (.slice (some ⟨gp, 0, none⟩) 1 1) [.slice (some ⟨ga, 0, none⟩) 1 1] W := by
  refine ⟨⟨h3, ⟨rfl, .inr ⟨gp, 1, _, rfl, hgp, h2, Nat.le_refl _, by simp [maxLen], rfl, rfl⟩⟩, ?_⟩, hpb, ⟨[], 1, rfl, Nat.le_refl _, Nat.zero_lt_one, rfl⟩, ?_, hr, hW⟩
  · simp only [Value.ownBlock, ne_eq, Option.some.injEq]
    exact h2.ne_ h3 (by decide)
  · intro l hl
    have e : l = ⟨ga, 0, .cons k n s ar .nil⟩ := by simpa using hl
    subst e
    refine seg_cons.2 ⟨.inr hG, h1.cell 0, h1.cell 1, h1.cell 2, ⟨_, h1.cell 3, ?_⟩, trivial⟩
    exact (hv.imp (q := oldOr w G) fun k _ h => .inl h).below hW

/-- Is every term good, to the bottom? -/
def Ts.good (vars : Int) : Ts → Bool
  | .nil => true
  | .cons k n s ar r => nodeB vars k n s ar.length && ar.good vars && r.good vars
def goodLv (vars : Int) (L : List Lev) : Bool := L.all fun l => l.T.good vars
theorem goodL_push (vars : Int) (T : Ts) (b o : Nat) (L : List Lev) : goodLv vars (push T b o L) = (T.good vars && goodLv vars L) := by
  unfold push
  split
  · rename_i h; rw [Ts.nil_of_length h]; simp [Ts.good]
  · simp [goodLv]

def GoodLoop (w : World) (G : List Nat) (pb : Nat) (T : Ts) (vars : Int) (g : Nat) (wr : World) : Prop :=
  ∃ L pv xs, V1 w G pb L pv xs wr ∧ g = nodesOf L ∧ nodesOf L ≤ T.nodes ∧ T.good vars = goodLv vars L

set_option maxHeartbeats 400000 in
theorem goodTerm_any (k n vars : Int) (s : ByteArray) (ar : Ts) (v : Value) (w : World) (hv : Sl w (fun _ => True) v ar) (hn : ar.nodes < 1048576) :
    Calls Try.prog 93 #[.agg #[.int .i64 k, .int .i64 n, .string s, v], .int .i64 vars] w fun e w' => e = .returned (.bool ((Ts.cons k n s ar .nil).good vars)) ∧ Below w.heap.size w w' := by
  obtain ⟨A, c, rfl, hs⟩ := hv.form
  go_enter Try.func93, Try.ntmps93
  go_wp2_with (go_at_call 95; refine (newPath_any _ _ _ _ _ _ _).mono ?_; rintro e w1 ⟨rfl, rfl⟩)
  have hW : Below w.heap.size w (((((w.alloc (.cells #[.int .i64 k, .int .i64 n, .string s, .slice A ar.length c] 39)).alloc (.cells #[.int .i64 k, .int .i64 n, .string s, .slice A ar.length c] 39)).alloc (.cells #[.int .i64 k, .int .i64 n, .string s, .slice A ar.length c] 39)).alloc (.cells #[.slice (some ⟨w.heap.size + 1 + 1, 0, none⟩) 1 1] 37)).alloc (.cells #[.slice (some ⟨w.heap.size + 1 + 1 + 1, 0, none⟩) 1 1] 107)) := (((((Below.refl _ _).alloc (Nat.le_refl _) _).alloc (by simp) _).alloc (by simp; omega) _).alloc (by simp; omega) _).alloc (by simp; omega) _
  have hv0 : V1 w [w.heap.size + 1 + 1] (w.heap.size + 1 + 1 + 1 + 1) [⟨w.heap.size + 1 + 1, 0, .cons k n s ar .nil⟩] (.slice (some ⟨w.heap.size + 1 + 1 + 1, 0, none⟩) 1 1) [.slice (some ⟨w.heap.size + 1 + 1, 0, none⟩) 1 1] (((((w.alloc (.cells #[.int .i64 k, .int .i64 n, .string s, .slice A ar.length c] 39)).alloc (.cells #[.int .i64 k, .int .i64 n, .string s, .slice A ar.length c] 39)).alloc (.cells #[.int .i64 k, .int .i64 n, .string s, .slice A ar.length c] 39)).alloc (.cells #[.slice (some ⟨w.heap.size + 1 + 1, 0, none⟩) 1 1] 37)).alloc (.cells #[.slice (some ⟨w.heap.size + 1 + 1 + 1, 0, none⟩) 1 1] 107)) := by
    have b1 := ((Plot.new ((w.alloc (.cells #[.int .i64 k, .int .i64 n, .string s, .slice A ar.length c] 39)).alloc (.cells #[.int .i64 k, .int .i64 n, .string s, .slice A ar.length c] 39)) 39 #[.int .i64 k, .int .i64 n, .string s, .slice A ar.length c]).alloc (.cells #[.slice (some ⟨w.heap.size + 1 + 1, 0, none⟩) 1 1] 37)).alloc (.cells #[.slice (some ⟨w.heap.size + 1 + 1 + 1, 0, none⟩) 1 1] 107)
    have b2 := ((Plot.new (((w.alloc (.cells #[.int .i64 k, .int .i64 n, .string s, .slice A ar.length c] 39)).alloc (.cells #[.int .i64 k, .int .i64 n, .string s, .slice A ar.length c] 39)).alloc (.cells #[.int .i64 k, .int .i64 n, .string s, .slice A ar.length c] 39)) 37 #[.slice (some ⟨w.heap.size + 1 + 1, 0, none⟩) 1 1])).alloc (.cells #[.slice (some ⟨w.heap.size + 1 + 1 + 1, 0, none⟩) 1 1] 107)
    have b3 := Plot.new ((((w.alloc (.cells #[.int .i64 k, .int .i64 n, .string s, .slice A ar.length c] 39)).alloc (.cells #[.int .i64 k, .int .i64 n, .string s, .slice A ar.length c] 39)).alloc (.cells #[.int .i64 k, .int .i64 n, .string s, .slice A ar.length c] 39)).alloc (.cells #[.slice (some ⟨w.heap.size + 1 + 1, 0, none⟩) 1 1] 37)) 107 #[.slice (some ⟨w.heap.size + 1 + 1 + 1, 0, none⟩) 1 1]
    simp only [World.size_alloc] at b1 b2 b3
    exact V1.start hs hW b1 b2 b3 (by simp) (fun g hg => by
      have e : g = w.heap.size + 1 + 1 := by simpa using hg
      subst e; exact ⟨_, b1⟩) (by omega) (by omega)
  have h0 : GoodLoop w [w.heap.size + 1 + 1] (w.heap.size + 1 + 1 + 1 + 1) (.cons k n s ar .nil) vars (ar.nodes + 1) (((((w.alloc (.cells #[.int .i64 k, .int .i64 n, .string s, .slice A ar.length c] 39)).alloc (.cells #[.int .i64 k, .int .i64 n, .string s, .slice A ar.length c] 39)).alloc (.cells #[.int .i64 k, .int .i64 n, .string s, .slice A ar.length c] 39)).alloc (.cells #[.slice (some ⟨w.heap.size + 1 + 1, 0, none⟩) 1 1] 37)).alloc (.cells #[.slice (some ⟨w.heap.size + 1 + 1 + 1, 0, none⟩) 1 1] 107)) :=
    ⟨_, _, _, hv0, by simp [nodesOf, Ts.nodes], by simp [nodesOf], by simp [goodLv]⟩
  clear hv0
  go_loopg [] (ar.nodes + 1) (GoodLoop w [w.heap.size + 1 + 1] (w.heap.size + 1 + 1 + 1 + 1) (.cons k n s ar .nil) vars)
  case atStart => exact h0
  case round =>
    clear h0
    obtain ⟨L, pv, xs, hrel, hg, hsm, hgd⟩ := hrel
    have HG := Lib.hid hg
    have HD := Lib.hid hgd
    have hpx := hrel.pvs.length
    simp only [Ts.nodes] at hsm
    obtain ⟨Ap, cp, hpv⟩ := own_form hrel.path.own
    subst hpv
    have cpb : wr.cell? ⟨w.heap.size + 1 + 1 + 1 + 1, 0, none⟩ = some (.slice Ap xs.length cp) := hrel.path.var.cell 0
    clear hg hgd
    cases L with
    | nil =>
      have hx : xs = [] := hrel.pvs
      subst hx
      have hb := hrel.chg
      clear hrel hpx
      go_wp2_with fail
      go_ret
      exact ⟨by rw [HD.out]; rfl, hb⟩
    | cons l Ls =>
      obtain ⟨b, o, T1⟩ := l
      cases T1 with
      | nil => obtain ⟨_, _, _, _, h, _⟩ := hrel.pvs; simp [Ts.length] at h
      | cons k1 n1 s1 a1 r1 =>
      have hxl : 0 < xs.length := by rw [hpx]; simp
      have hn4 : nodesOf (⟨b, o, .cons k1 n1 s1 a1 r1⟩ :: Ls) ≤ 1048576 := by omega
      have hn5 : nodesOf (push r1 b (o + 4) Ls) ≤ 1048576 := by
        rw [nodesOf_push]
        simp only [nodesOf, List.map_cons, List.sum_cons, Ts.nodes] at hn4 ⊢
        omega
      go_wp2_with fail
      refine (hrel.next hn4).mono ?_
      rintro e w2 ⟨rfl, pv2, xs2, h2, hseg, _, _⟩
      obtain ⟨_, c0, c1, c2, ⟨v1, c3, hv1⟩, _⟩ := seg_cons.1 hseg
      obtain ⟨A1, d1, rfl, hv1⟩ := hv1.form
      go_wp2_with fail
      refine (goodNode_any vars k1 n1 s1 A1 a1.length d1 _).mono ?_
      rintro e w3 ⟨rfl, hb3⟩
      have h3 := h2.aside hb3
      have e3 : w3.cell? ⟨b, o + 3, none⟩ = some (.slice A1 a1.length d1) := (hb3.cell (lt_of_cell c3)).trans c3
      have hv3 := hv1.below hb3
      cases hnode : nodeB vars k1 n1 s1 a1.length with
      | false =>
        have hres : Hid ((Ts.cons k n s ar .nil).good vars = false) := Lib.hid (by rw [HD.out]; simp [goodLv, Ts.good, hnode])
        clear hnode
        go_wp2_with fail
        go_ret
        exact ⟨by rw [hres.out]; rfl, h3.chg⟩
      | true =>
        have hres : Hid ((Ts.cons k n s ar .nil).good vars = (a1.good vars && (r1.good vars && goodLv vars Ls))) := Lib.hid (by rw [HD.out]; simp [goodLv, Ts.good, hnode, Bool.and_assoc])
        clear hnode
        go_wp2_with fail
        refine (h3.add hv3 hn5).mono ?_
        rintro e w4 ⟨rfl, pv4, xs4, b4, o4, h4, _, _⟩
        go_wp2_with fail
        go_roundg (nodesOf (push a1 b4 o4 (push r1 b (o + 4) Ls)))
        case measure =>
          rw [HG.out, nodesOf_push, nodesOf_push]
          simp only [nodesOf, List.map_cons, List.sum_cons, Ts.nodes]
          omega
        case rel =>
          refine ⟨_, _, _, h4, rfl, ?_, ?_⟩
          · rw [nodesOf_push, nodesOf_push]
            simp only [nodesOf, List.map_cons, List.sum_cons, Ts.nodes] at hsm ⊢
            omega
          · rw [hres.out, goodL_push, goodL_push]

def NodesLoop (w : World) (G : List Nat) (pb : Nat) (T : Ts) (g : Nat) (s3 : Value) (wr : World) : Prop :=
  ∃ (L : List Lev) (pv : Value) (xs : List Value) (cnt : Nat), V1 w G pb L pv xs wr ∧ g = nodesOf L ∧ T.nodes = cnt + nodesOf L ∧ s3 = .int .i64 cnt

end Go.Proofs.Ytdflngjfnpbpmab
namespace Go.Proofs.Ytdflngjfnpbpmab
open Go.RowKit

def goalB (k : Int) : Bool := decide (k = 1) || decide (k = 3)
/-- Is it the S and the number of arguments of a built-in predicate? -/
def builtB (t : List UInt8) (l : Nat) : Bool :=
  if t = [33] then decide (l = 0) else if t = [116, 114, 117, 101] then decide (l = 0) else if t = [102, 97, 105, 108] then decide (l = 0)
  else if t = [101, 113] then decide (l = 2) else if t = [108, 101, 115, 115] then decide (l = 2) else if t = [97, 100, 100] then decide (l = 3) else false

theorem goal_any (k n : Int) (s : ByteArray) (v : Value) (w : World) : Calls Try.prog 91 #[.agg #[.int .i64 k, .int .i64 n, .string s, v]] w fun e w' => e = .returned (.bool (goalB k)) ∧ Below w.heap.size w w' := by
  by_cases h1 : k = 1
  · subst h1
    go_enter Try.func91, Try.ntmps91
    go_wp2_with fail
    go_ret
    exact ⟨rfl, (Below.refl _ _).alloc (Nat.le_refl _) _⟩
  by_cases h3 : k = 3
  · subst h3
    go_enter Try.func91, Try.ntmps91
    go_wp2_with fail
    go_ret
    exact ⟨rfl, (Below.refl _ _).alloc (Nat.le_refl _) _⟩
  have R := Lib.hid (show goalB k = false by simp [goalB, h1, h3])
  have g1 : (k == 1) = false := by simpa using h1
  have g3 : (k == 3) = false := by simpa using h3
  clear h1 h3
  go_enter Try.func91, Try.ntmps91
  go_wp2_with fail
  go_ret
  exact ⟨by rw [R.out]; rfl, (Below.refl _ _).alloc (Nat.le_refl _) _⟩

set_option maxHeartbeats 1000000 in
theorem builtin_any (k n : Int) (s : ByteArray) (A : Option Addr) (l c : Nat) (w : World) : Calls Try.prog 85 #[.agg #[.int .i64 k, .int .i64 n, .string s, .slice A l c]] w fun e w' => e = .returned (.bool (builtB s.toList l)) ∧ Below w.heap.size w w' := by
  generalize hr : builtB s.toList l = rb
  have R := Lib.hid hr
  clear hr
  go_enter Try.func85, Try.ntmps85
  go_wp2_with fail
  all_goals go_ret
  all_goals refine ⟨?_, (Below.refl _ _).alloc (Nat.le_refl _) _⟩
  all_goals rw [← R.out]
  all_goals refine ret_bool ?_
  all_goals rw [Bool.eq_iff_iff]
  all_goals simp_all [builtB]
  all_goals try omega

/-- No entry ahead of number i is what is asked for. -/
def EvLoop (S : World → Prop) (t : List UInt8) (l : Nat) (g : Nat) (s8 : Value) (wr : World) : Prop := ∃ i : Nat, i ≤ 6 ∧ g = 6 - i ∧ s8 = .int .i64 i ∧ S wr ∧
  (0 < i → ¬ (t = [33] ∧ l = 0)) ∧ (1 < i → ¬ (t = [116, 114, 117, 101] ∧ l = 0)) ∧ (2 < i → ¬ (t = [102, 97, 105, 108] ∧ l = 0)) ∧
  (3 < i → ¬ (t = [101, 113] ∧ l = 2)) ∧ (4 < i → ¬ (t = [108, 101, 115, 115] ∧ l = 2)) ∧ (5 < i → ¬ (t = [97, 100, 100] ∧ l = 3))

def EvS (w : World) (k n : Int) (s : ByteArray) (A : Option Addr) (l c : Nat) (x : World) : Prop := Plot x w.heap.size 39 #[.int .i64 k, .int .i64 n, .string s, .slice A l c] ∧
  Plot x (w.heap.size + 1) 9 #[.string ⟨#[33, 47, 48]⟩, .string ⟨#[116, 114, 117, 101, 47, 48]⟩, .string ⟨#[102, 97, 105, 108, 47, 48]⟩, .string ⟨#[101, 113, 47, 50]⟩, .string ⟨#[108, 101, 115, 115, 47, 50]⟩, .string ⟨#[97, 100, 100, 47, 51]⟩] ∧ Below w.heap.size w x
theorem EvS.drewN {w x : World} {k n : Int} {s : ByteArray} {A : Option Addr} {l c : Nat} (h : EvS w k n s A l c x) (q : Nat) : EvS w k n s A l c (x.drewN q) := ⟨h.1.drewN q, h.2.1.drewN q, h.2.2.trans (below_drewN _ _ _)⟩
theorem EvLoop.step0 {S : World → Prop} {W : World} (hS : S W) {t : List UInt8} {l : Nat} (hA : (0 < 0 → ¬ (t = [33] ∧ l = 0)) ∧ (1 < 0 → ¬ (t = [116, 114, 117, 101] ∧ l = 0)) ∧ (2 < 0 → ¬ (t = [102, 97, 105, 108] ∧ l = 0)) ∧ (3 < 0 → ¬ (t = [101, 113] ∧ l = 2)) ∧ (4 < 0 → ¬ (t = [108, 101, 115, 115] ∧ l = 2)) ∧ (5 < 0 → ¬ (t = [97, 100, 100] ∧ l = 3))) (h : ¬ (t = [33] ∧ l = 0)) : EvLoop S t l 5 (.int .i64 1) W := by
  obtain ⟨hA0, hA1, hA2, hA3, hA4, hA5⟩ := hA
  exact ⟨1, by omega, rfl, rfl, hS, fun _ => h, fun hh => absurd hh (by omega), fun hh => absurd hh (by omega), fun hh => absurd hh (by omega), fun hh => absurd hh (by omega), fun hh => absurd hh (by omega)⟩
theorem EvLoop.step1 {S : World → Prop} {W : World} (hS : S W) {t : List UInt8} {l : Nat} (hA : (0 < 1 → ¬ (t = [33] ∧ l = 0)) ∧ (1 < 1 → ¬ (t = [116, 114, 117, 101] ∧ l = 0)) ∧ (2 < 1 → ¬ (t = [102, 97, 105, 108] ∧ l = 0)) ∧ (3 < 1 → ¬ (t = [101, 113] ∧ l = 2)) ∧ (4 < 1 → ¬ (t = [108, 101, 115, 115] ∧ l = 2)) ∧ (5 < 1 → ¬ (t = [97, 100, 100] ∧ l = 3))) (h : ¬ (t = [116, 114, 117, 101] ∧ l = 0)) : EvLoop S t l 4 (.int .i64 2) W := by
  obtain ⟨hA0, hA1, hA2, hA3, hA4, hA5⟩ := hA
  exact ⟨2, by omega, rfl, rfl, hS, fun _ => hA0 (by omega), fun _ => h, fun hh => absurd hh (by omega), fun hh => absurd hh (by omega), fun hh => absurd hh (by omega), fun hh => absurd hh (by omega)⟩
theorem EvLoop.step2 {S : World → Prop} {W : World} (hS : S W) {t : List UInt8} {l : Nat} (hA : (0 < 2 → ¬ (t = [33] ∧ l = 0)) ∧ (1 < 2 → ¬ (t = [116, 114, 117, 101] ∧ l = 0)) ∧ (2 < 2 → ¬ (t = [102, 97, 105, 108] ∧ l = 0)) ∧ (3 < 2 → ¬ (t = [101, 113] ∧ l = 2)) ∧ (4 < 2 → ¬ (t = [108, 101, 115, 115] ∧ l = 2)) ∧ (5 < 2 → ¬ (t = [97, 100, 100] ∧ l = 3))) (h : ¬ (t = [102, 97, 105, 108] ∧ l = 0)) : EvLoop S t l 3 (.int .i64 3) W := by
  obtain ⟨hA0, hA1, hA2, hA3, hA4, hA5⟩ := hA
  exact ⟨3, by omega, rfl, rfl, hS, fun _ => hA0 (by omega), fun _ => hA1 (by omega), fun _ => h, fun hh => absurd hh (by omega), fun hh => absurd hh (by omega), fun hh => absurd hh (by omega)⟩
theorem EvLoop.step3 {S : World → Prop} {W : World} (hS : S W) {t : List UInt8} {l : Nat} (hA : (0 < 3 → ¬ (t = [33] ∧ l = 0)) ∧ (1 < 3 → ¬ (t = [116, 114, 117, 101] ∧ l = 0)) ∧ (2 < 3 → ¬ (t = [102, 97, 105, 108] ∧ l = 0)) ∧ (3 < 3 → ¬ (t = [101, 113] ∧ l = 2)) ∧ (4 < 3 → ¬ (t = [108, 101, 115, 115] ∧ l = 2)) ∧ (5 < 3 → ¬ (t = [97, 100, 100] ∧ l = 3))) (h : ¬ (t = [101, 113] ∧ l = 2)) : EvLoop S t l 2 (.int .i64 4) W := by
  obtain ⟨hA0, hA1, hA2, hA3, hA4, hA5⟩ := hA
  exact ⟨4, by omega, rfl, rfl, hS, fun _ => hA0 (by omega), fun _ => hA1 (by omega), fun _ => hA2 (by omega), fun _ => h, fun hh => absurd hh (by omega), fun hh => absurd hh (by omega)⟩
theorem EvLoop.step4 {S : World → Prop} {W : World} (hS : S W) {t : List UInt8} {l : Nat} (hA : (0 < 4 → ¬ (t = [33] ∧ l = 0)) ∧ (1 < 4 → ¬ (t = [116, 114, 117, 101] ∧ l = 0)) ∧ (2 < 4 → ¬ (t = [102, 97, 105, 108] ∧ l = 0)) ∧ (3 < 4 → ¬ (t = [101, 113] ∧ l = 2)) ∧ (4 < 4 → ¬ (t = [108, 101, 115, 115] ∧ l = 2)) ∧ (5 < 4 → ¬ (t = [97, 100, 100] ∧ l = 3))) (h : ¬ (t = [108, 101, 115, 115] ∧ l = 2)) : EvLoop S t l 1 (.int .i64 5) W := by
  obtain ⟨hA0, hA1, hA2, hA3, hA4, hA5⟩ := hA
  exact ⟨5, by omega, rfl, rfl, hS, fun _ => hA0 (by omega), fun _ => hA1 (by omega), fun _ => hA2 (by omega), fun _ => hA3 (by omega), fun _ => h, fun hh => absurd hh (by omega)⟩
theorem EvLoop.step5 {S : World → Prop} {W : World} (hS : S W) {t : List UInt8} {l : Nat} (hA : (0 < 5 → ¬ (t = [33] ∧ l = 0)) ∧ (1 < 5 → ¬ (t = [116, 114, 117, 101] ∧ l = 0)) ∧ (2 < 5 → ¬ (t = [102, 97, 105, 108] ∧ l = 0)) ∧ (3 < 5 → ¬ (t = [101, 113] ∧ l = 2)) ∧ (4 < 5 → ¬ (t = [108, 101, 115, 115] ∧ l = 2)) ∧ (5 < 5 → ¬ (t = [97, 100, 100] ∧ l = 3))) (h : ¬ (t = [97, 100, 100] ∧ l = 3)) : EvLoop S t l 0 (.int .i64 6) W := by
  obtain ⟨hA0, hA1, hA2, hA3, hA4, hA5⟩ := hA
  exact ⟨6, by omega, rfl, rfl, hS, fun _ => hA0 (by omega), fun _ => hA1 (by omega), fun _ => hA2 (by omega), fun _ => hA3 (by omega), fun _ => hA4 (by omega), fun _ => h⟩
theorem built_none {t : List UInt8} {l : Nat} (hA : (0 < 6 → ¬ (t = [33] ∧ l = 0)) ∧ (1 < 6 → ¬ (t = [116, 114, 117, 101] ∧ l = 0)) ∧ (2 < 6 → ¬ (t = [102, 97, 105, 108] ∧ l = 0)) ∧ (3 < 6 → ¬ (t = [101, 113] ∧ l = 2)) ∧ (4 < 6 → ¬ (t = [108, 101, 115, 115] ∧ l = 2)) ∧ (5 < 6 → ¬ (t = [97, 100, 100] ∧ l = 3))) : builtB t l = false := by
  obtain ⟨h0, h1, h2, h3, h4, h5⟩ := hA
  unfold builtB
  repeat' split
  all_goals simp_all

end Go.Proofs.Ytdflngjfnpbpmab
namespace Go.Proofs.Ytdflngjfnpbpmab
open Go.RowKit

/-- The two variables that the visitor knows: how many nodes are left, and itself. -/
structure VS (lb vb : Nat) (L : Nat) (w : World) : Prop where
  left : Plot w lb 3 #[.int .i64 L]
  fn : Plot w vb 113 #[.func (.func 94) #[] #[.pointer (some ⟨lb, 0, none⟩), .pointer (some ⟨vb, 0, none⟩)]]
  ne : vb ≠ lb
theorem VS.far {lb vb L : Nat} {w w' : World} (h : VS lb vb L w) (hb : Below w.heap.size w w') : VS lb vb L w' := ⟨h.left.below hb, h.fn.below hb, h.ne⟩

def VisitSaid (T : Ts) : Prop := ∀ (k n : Int) (s : ByteArray) (v : Value) (L lb vb B : Nat) (w : World), Sl w (fun k => k < B) v T → B ≤ lb → VS lb vb L w → L ≤ 24 → T.nodes ≤ 1048576 →
    Calls Try.prog 94 #[.agg #[.int .i64 k, .int .i64 n, .string s, v], .pointer (some ⟨lb, 0, none⟩), .pointer (some ⟨vb, 0, none⟩)] w fun e w' =>
      e = .returned (.bool (decide (T.nodes + 1 ≤ L))) ∧ (T.nodes + 1 ≤ L → VS lb vb (L - (T.nodes + 1)) w') ∧ Chg (fun k => k = lb) w w'

def VtLoop (w : World) (T : Ts) (L lb vb : Nat) (g : Nat) (sx : Value) (wr : World) : Prop := ∃ D R : Ts, T = D.app R ∧ g = R.length ∧ sx = .int .i64 D.length ∧ D.nodes + 1 ≤ L ∧ VS lb vb (L - (D.nodes + 1)) wr ∧ Chg (fun k => k = lb) w wr

set_option maxHeartbeats 1000000 in
theorem visit_of (m : Nat) (ih : ∀ T : Ts, T.nodes < m → VisitSaid T) (T : Ts) (hm : T.nodes ≤ m) : VisitSaid T := by
  intro k n s v L lb vb B w hv hBl hvs hL hn
  obtain ⟨A, c, rfl, hs⟩ := hv.form
  have hle := T.length_le
  have hW : Below w.heap.size w (w.alloc (.cells #[.int .i64 k, .int .i64 n, .string s, .slice A T.length c] 39)) := (Below.refl _ _).alloc (Nat.le_refl _) _
  have hvs1 := hvs.far hW
  have hs1 := hs.below hW
  have bA := Plot.new w 39 #[.int .i64 k, .int .i64 n, .string s, .slice A T.length c]
  have l0 := hvs1.left.cell 0
  have lf := hvs1.left.frozen 0
  simp at l0
  have hlt := hvs.left.lt
  by_cases hL0 : L = 0
  · subst hL0
    go_enter Try.func94, Try.ntmps94
    go_wp2_with fail
    go_ret
    exact ⟨rfl, fun h => absurd h (by omega), Chg.of_fresh hW⟩
  have hL1 : 0 < L := by omega
  obtain ⟨p0, p1, p2, p3, _⟩ := bA.four
  have hne : w.heap.size ≠ lb := by omega
  go_enter Try.func94, Try.ntmps94
  go_wp2_with fail
  have hstart : VS lb vb (L - 1) ((w.setCell ⟨lb, 0, none⟩ (.int .i64 ((L : Int) - 1))).alloc (.cells #[.int .i64 k, .int .i64 n, .string s, .slice A T.length c] 39)) := by
    refine ⟨?_, ?_, hvs.ne⟩
    · have h1 := (hvs.left.set_ 0 (.int .i64 ((L : Int) - 1))).alloc (.cells #[.int .i64 k, .int .i64 n, .string s, .slice A T.length c] 39)
      rw [show ((L - 1 : Nat) : Int) = (L : Int) - 1 by omega]
      exact h1
    · exact (hvs.fn.far (p := ⟨lb, 0, none⟩) hvs.ne _).alloc _
  have hchg : Chg (fun k => k = lb) w ((w.setCell ⟨lb, 0, none⟩ (.int .i64 ((L : Int) - 1))).alloc (.cells #[.int .i64 k, .int .i64 n, .string s, .slice A T.length c] 39)) :=
    ((Chg.refl (fun k => k = lb) w).setCell (p := ⟨lb, 0, none⟩) (fun _ => rfl) _).alloc _
  have hcall : ∀ (args : Array Value) (x : World), (callFunc 94 args).run Try.prog x = .ok (.enter 94 args) x := fun args x => by simp [go_sem]
  generalize ((w.setCell ⟨lb, 0, none⟩ (.int .i64 ((L : Int) - 1))).alloc (.cells #[.int .i64 k, .int .i64 n, .string s, .slice A T.length c] 39)) = W at *
  have h0 : VtLoop w T L lb vb T.length (.int .i64 0) W := ⟨.nil, T, rfl, rfl, rfl, hL1, hstart, hchg⟩
  clear hstart hchg hvs1 bA p0 p1 p2 p3 hne l0 lf hs1 hW
  go_loopg [14] T.length (VtLoop w T L lb vb)
  case atStart => exact h0
  case round =>
    clear h0
    obtain ⟨D, R, hT, hg, rfl, hD, hvr, hc⟩ := hrel
    have HT := Lib.hid hT
    have HG := Lib.hid hg
    clear hT hg
    have hsr : Sl wr (fun k => k < B) (.slice A T.length c) T := hs.chg hc fun k hk => by omega
    cases R with
    | nil =>
      have eD : D = T := by rw [HT.out, Ts.app_nil]
      subst eD
      go_wp2_with fail
      go_ret
      refine ⟨?_, fun _ => hvr, hc⟩
      rw [decide_eq_true hD]; rfl
    | cons k1 n1 s1 ar r =>
      have e1 : D.length < T.length := by rw [HT.out, Ts.length_app]; simp [Ts.length]
      have hnod : T.nodes = D.nodes + (1 + ar.nodes + r.nodes) := by rw [HT.out, Ts.nodes_app]; simp only [Ts.nodes]; omega
      rw [HT.out] at hsr
      rw [show (D.app (.cons k1 n1 s1 ar r)).length = T.length by rw [← HT.out]] at hsr
      obtain ⟨b1, o1, rfl, hq1⟩ := Sl.at_ hsr (by simp [Ts.length])
      obtain ⟨_, c10, c11, c12, ⟨v1, c13, hv1⟩, _⟩ := seg_cons.1 hq1
      obtain ⟨A1, d1, rfl, hv1⟩ := hv1.form
      clear hq1 hsr
      have hX : Below wr.heap.size wr (wr.alloc (.cells #[.int .i64 k1, .int .i64 n1, .string s1, .slice A1 ar.length d1] 39)) := (Below.refl _ _).alloc (Nat.le_refl _) _
      have hvx := hvr.far hX
      have f0 := hvx.fn.cell 0
      simp at f0
      go_wp2_with fail
      have e2 : ar.nodes < m := by omega
      refine (ih ar e2 k1 n1 s1 _ (L - (D.nodes + 1)) lb vb B _ (hv1.below hX) hBl hvx (by omega) (by omega)).mono ?_
      rintro e w2 ⟨rfl, hok, hc2⟩
      have hc3 : Chg (fun k => k = lb) w w2 := (hc.trans (Chg.of_fresh (S := fun k => k = lb) hX) fun _ _ h => h).trans hc2 fun _ _ h => h
      by_cases hx : ar.nodes + 1 ≤ L - (D.nodes + 1)
      · have hok := hok hx
        rw [decide_eq_true hx]
        have hnx : Hid (VS lb vb (L - ((D.app (.cons k1 n1 s1 ar .nil)).nodes + 1)) w2) := Lib.hid (by
          rw [Ts.nodes_app]
          simp only [Ts.nodes]
          rw [show L - (D.nodes + (ar.nodes + 0 + 1) + 1) = L - (D.nodes + 1) - (ar.nodes + 1) by omega]
          exact hok)
        clear hok
        go_wp2_with fail
        go_roundg r.length
        case measure => rw [HG.out]; simp [Ts.length]
        case rel =>
          refine ⟨D.app (.cons k1 n1 s1 ar .nil), r, ?_, rfl, ?_, ?_, hnx.out, hc3⟩
          · rw [HT.out, Ts.app_assoc]; rfl
          · rw [Ts.length_app]; rfl
          · rw [Ts.nodes_app]; simp only [Ts.nodes]; omega
      · rw [decide_eq_false hx]
        have hbig : Hid (¬ T.nodes + 1 ≤ L) := Lib.hid (by omega)
        clear hok
        go_wp2_with fail
        go_ret
        refine ⟨?_, fun h => absurd h hbig.out, hc3⟩
        rw [decide_eq_false hbig.out]; rfl

theorem visit_said (T : Ts) : VisitSaid T := by
  have : ∀ m, ∀ T : Ts, T.nodes < m → VisitSaid T := by
    intro m
    induction m with
    | zero => intro T h; omega
    | succ m ih => intro T h; exact visit_of m ih T (by omega)
  exact this _ T (Nat.lt_succ_self _)

set_option maxHeartbeats 1000000 in
theorem fits_any (k n : Int) (s : ByteArray) (T : Ts) (v : Value) (w : World) (hv : Sl w (fun _ => True) v T) (hn : T.nodes ≤ 1048576) :
    Calls Try.prog 92 #[.agg #[.int .i64 k, .int .i64 n, .string s, v], .int .i64 24] w fun e w' => e = .returned (.bool (decide (T.nodes + 1 ≤ 24))) ∧ Below w.heap.size w w' := by
  obtain ⟨A, c, rfl, hs⟩ := hv.form
  have hs := hs.imp (q := fun k => k < w.heap.size) fun k _ h => h
  have hW : Below w.heap.size w (((w.alloc (.cells #[.int .i64 k, .int .i64 n, .string s, .slice A T.length c] 39)).alloc (.cells #[.int .i64 24] 3)).alloc (.cells #[.func (.func 94) #[] #[.pointer (some ⟨w.heap.size + 1, 0, none⟩), .pointer (some ⟨w.heap.size + 1 + 1, 0, none⟩)]] 113)) := (((Below.refl _ _).alloc (Nat.le_refl _) _).alloc (by simp) _).alloc (by simp; omega) _
  have hst : (store ⟨w.heap.size + 1 + 1, 0, none⟩ (.func (.func 94) #[] #[.pointer (some ⟨w.heap.size + 1, 0, none⟩), .pointer (some ⟨w.heap.size + 1 + 1, 0, none⟩)])).run Try.prog (((w.alloc (.cells #[.int .i64 k, .int .i64 n, .string s, .slice A T.length c] 39)).alloc (.cells #[.int .i64 24] 3)).alloc (.cells #[.nilFunc] 113)) =
      .ok () (((w.alloc (.cells #[.int .i64 k, .int .i64 n, .string s, .slice A T.length c] 39)).alloc (.cells #[.int .i64 24] 3)).alloc (.cells #[.func (.func 94) #[] #[.pointer (some ⟨w.heap.size + 1, 0, none⟩), .pointer (some ⟨w.heap.size + 1 + 1, 0, none⟩)]] 113)) := by
    have hb := Plot.new ((w.alloc (.cells #[.int .i64 k, .int .i64 n, .string s, .slice A T.length c] 39)).alloc (.cells #[.int .i64 24] 3)) 113 #[.nilFunc]
    have e := setCell_new ((w.alloc (.cells #[.int .i64 k, .int .i64 n, .string s, .slice A T.length c] 39)).alloc (.cells #[.int .i64 24] 3)) .nilFunc (.func (.func 94) #[] #[.pointer (some ⟨w.heap.size + 1, 0, none⟩), .pointer (some ⟨w.heap.size + 1 + 1, 0, none⟩)]) 113
    have h := run_store_func (P := Try.prog) (f := .func 94) (x := #[]) (y := #[.pointer (some ⟨w.heap.size + 1, 0, none⟩), .pointer (some ⟨w.heap.size + 1 + 1, 0, none⟩)]) (hb.cell 0) (hb.frozen 0)
    rw [e] at h
    simpa using h
  have hvs : VS (w.heap.size + 1) (w.heap.size + 1 + 1) 24 (((w.alloc (.cells #[.int .i64 k, .int .i64 n, .string s, .slice A T.length c] 39)).alloc (.cells #[.int .i64 24] 3)).alloc (.cells #[.func (.func 94) #[] #[.pointer (some ⟨w.heap.size + 1, 0, none⟩), .pointer (some ⟨w.heap.size + 1 + 1, 0, none⟩)]] 113)) := by
    refine ⟨?_, ?_, by omega⟩
    · have := (Plot.new (w.alloc (.cells #[.int .i64 k, .int .i64 n, .string s, .slice A T.length c] 39)) 3 #[.int .i64 24]).alloc (.cells #[.func (.func 94) #[] #[.pointer (some ⟨w.heap.size + 1, 0, none⟩), .pointer (some ⟨w.heap.size + 1 + 1, 0, none⟩)]] 113)
      simpa using this
    · have := Plot.new ((w.alloc (.cells #[.int .i64 k, .int .i64 n, .string s, .slice A T.length c] 39)).alloc (.cells #[.int .i64 24] 3)) 113 #[.func (.func 94) #[] #[.pointer (some ⟨w.heap.size + 1, 0, none⟩), .pointer (some ⟨w.heap.size + 1 + 1, 0, none⟩)]]
      simpa using this
  have hcall : ∀ (args : Array Value) (x : World), (callFunc 94 args).run Try.prog x = .ok (.enter 94 args) x := fun args x => by simp [go_sem]
  go_enter Try.func92, Try.ntmps92
  go_wp2_with fail
  refine (visit_said T k n s _ 24 (w.heap.size + 1) (w.heap.size + 1 + 1) w.heap.size _ (hs.below hW) (by omega) hvs (Nat.le_refl _) hn).mono ?_
  rintro e w2 ⟨rfl, _, hc⟩
  generalize hfb : decide (T.nodes + 1 ≤ 24) = fb
  have HFB := Lib.hid hfb
  clear hfb
  go_wp2_with fail
  go_ret
  refine ⟨by rw [HFB.out]; rfl, hW.trans (hc.below (by simp; omega) fun k hk _ => ?_)⟩
  have e : k = w.heap.size + 1 := hk
  omega
end Go.Proofs.Ytdflngjfnpbpmab
namespace Go.Proofs.Ytdflngjfnpbpmab
open Go.RowKit

/-- Is it a good goal? -/
def gB (vars k n : Int) (s : ByteArray) (T : Ts) : Bool := goalB k && (Ts.cons k n s T .nil).good vars && decide (T.nodes + 1 ≤ 24)

set_option maxHeartbeats 1000000 in
theorem goodGoal_any (vars k n : Int) (s : ByteArray) (T : Ts) (v : Value) (w : World) (hv : Sl w (fun _ => True) v T) (hn : T.nodes < 1048576) :
    Calls Try.prog 84 #[.agg #[.int .i64 k, .int .i64 n, .string s, v], .int .i64 vars] w fun e w' => e = .returned (.bool (gB vars k n s T)) ∧ Below w.heap.size w w' := by
  obtain ⟨A, c, rfl, hs⟩ := hv.form
  generalize hr : gB vars k n s T = rb
  have R := Lib.hid hr
  clear hr
  go_enter Try.func84, Try.ntmps84
  go_wp2_with fail
  have hW0 : Below w.heap.size w (w.alloc (.cells #[.int .i64 k, .int .i64 n, .string s, .slice A T.length c] 39)) := (Below.refl _ _).alloc (Nat.le_refl _) _
  have bA := Plot.new w 39 #[.int .i64 k, .int .i64 n, .string s, .slice A T.length c]
  generalize (w.alloc (.cells #[.int .i64 k, .int .i64 n, .string s, .slice A T.length c] 39)) = W0 at *
  have hs0 := hs.below hW0
  refine (goal_any k n s _ W0).mono ?_
  rintro e w1 ⟨rfl, hb1⟩
  have hW1 := hW0.trans (hb1.mono hW0.size)
  have bA1 := bA.below hb1
  have hs1 := hs0.below hb1
  cases hg : goalB k with
  | false =>
    go_wp2_with fail
    go_ret
    refine ⟨?_, hW1⟩
    rw [← R.out, gB, hg]; rfl
  | true =>
    have HGK := Lib.hid hg
    clear hg
    obtain ⟨p0, p1, p2, p3, _⟩ := bA1.four
    go_wp2_with fail
    refine (fits_any k n s T _ _ hs1 (by omega)).mono ?_
    rintro e w2 ⟨rfl, hb2⟩
    have hW2 := hW1.trans (hb2.mono hW1.size)
    have bA2 := bA1.below hb2
    have hs2 := hs1.below hb2
    clear p0 p1 p2 p3
    generalize hf : decide (T.nodes + 1 ≤ 24) = fb
    have HF := Lib.hid hf
    clear hf
    obtain ⟨p0, p1, p2, p3, _⟩ := bA2.four
    cases fb with
    | false =>
      go_wp2_with fail
      go_ret
      refine ⟨?_, hW2⟩
      rw [← R.out, gB, HF.out, Bool.and_false]; rfl
    | true =>
      go_wp2_with fail
      refine (goodTerm_any k n vars s T _ _ hs2 hn).mono ?_
      rintro e w3 ⟨rfl, hb3⟩
      generalize hq : (Ts.cons k n s T .nil).good vars = qb
      have HQ := Lib.hid hq
      clear hq
      go_wp2_with fail
      go_ret
      refine ⟨?_, hW2.trans (hb3.mono hW2.size)⟩
      rw [← R.out, gB, HGK.out, HF.out, HQ.out, Bool.and_true, Bool.true_and]; rfl

end Go.Proofs.Ytdflngjfnpbpmab
namespace Go.Proofs.Ytdflngjfnpbpmab
open Go.RowKit

/-- Are all of them good goals? -/
def Ts.goals (vars : Int) : Ts → Bool
  | .nil => true
  | .cons k n s ar r => gB vars k n s ar && r.goals vars
theorem Ts.goals_app (v : Int) (D R : Ts) : (D.app R).goals v = (D.goals v && R.goals v) := by
  induction D with
  | nil => rfl
  | cons k n b ar r _ ih => simp only [Ts.app, Ts.goals, ih, Bool.and_assoc]
def qB (vars : Int) (T : Ts) : Bool := decide (0 ≤ vars) && decide (vars ≤ 8) && decide (T.length ≤ 5) && T.goals vars

def GqLoop (w : World) (T : Ts) (vars : Int) (g : Nat) (sx : Value) (wr : World) : Prop := ∃ D R : Ts, T = D.app R ∧ g = R.length ∧ sx = .int .i64 D.length ∧ D.goals vars = true ∧ Below w.heap.size w wr
def IqLoop (w : World) (T : Ts) (vars : Int) (b : Bool) (g : Nat) (so sx : Value) (wr : World) : Prop := ∃ D R : Ts, T = D.app R ∧ g = R.length ∧ sx = .int .i64 D.length ∧ so = .bool (b && D.goals vars) ∧ Below w.heap.size w wr

set_option maxHeartbeats 1000000 in
theorem goodQuery_any (vars : Int) (T : Ts) (v : Value) (w : World) (hv : Sl w (fun _ => True) v T) (hn : T.nodes ≤ 1048576) :
    Calls Try.prog 83 #[v, .int .i64 vars] w fun e w' => e = .returned (.bool (qB vars T)) ∧ Below w.heap.size w w' := by
  obtain ⟨A, c, rfl, hs⟩ := hv.form
  have hle := T.length_le
  generalize hr : qB vars T = rb
  have R := Lib.hid hr
  clear hr
  by_cases h1 : vars < 0
  · have hq : Hid (rb = false) := Lib.hid (by rw [← R.out, qB]; simp; omega)
    go_enter Try.func83, Try.ntmps83
    go_wp2_with fail
    go_ret
    exact ⟨by rw [hq.out]; rfl, Below.refl _ _⟩
  by_cases h2 : 8 < vars
  · have hq : Hid (rb = false) := Lib.hid (by rw [← R.out, qB]; simp; omega)
    go_enter Try.func83, Try.ntmps83
    go_wp2_with fail
    go_ret
    exact ⟨by rw [hq.out]; rfl, Below.refl _ _⟩
  by_cases h3 : 5 < T.length
  · have hq : Hid (rb = false) := Lib.hid (by rw [← R.out, qB]; simp; omega)
    go_enter Try.func83, Try.ntmps83
    go_wp2_with fail
    go_ret
    exact ⟨by rw [hq.out]; rfl, Below.refl _ _⟩
  have hq : Hid (rb = T.goals vars) := Lib.hid (by rw [← R.out, qB]; simp; omega)
  have hl5 : T.length ≤ 5 := by omega
  have h0 : GqLoop w T vars T.length (.int .i64 0) w := ⟨.nil, T, rfl, rfl, rfl, rfl, Below.refl _ _⟩
  go_enter Try.func83, Try.ntmps83
  go_wp2_with fail
  go_loopg [20] T.length (GqLoop w T vars)
  case atStart => exact h0
  case round =>
    clear h0
    obtain ⟨D, R', hT, hg, rfl, hD, hb⟩ := hrel
    have HT := Lib.hid hT
    have HG := Lib.hid hg
    have HD := Lib.hid hD
    clear hT hg hD
    have hsr := hs.below hb
    cases R' with
    | nil =>
      have eD : D = T := by rw [HT.out, Ts.app_nil]
      subst eD
      go_wp2_with fail
      go_ret
      exact ⟨by rw [hq.out, HD.out]; rfl, hb⟩
    | cons k1 n1 s1 ar r =>
      have e1 : D.length < T.length := by rw [HT.out, Ts.length_app]; simp [Ts.length]
      have hnod : ar.nodes < 1048576 := by have := hn; rw [HT.out, Ts.nodes_app] at this; simp only [Ts.nodes] at this; omega
      rw [HT.out] at hsr
      rw [show (D.app (.cons k1 n1 s1 ar r)).length = T.length by rw [← HT.out]] at hsr
      obtain ⟨b1, o1, rfl, hq1⟩ := Sl.at_ hsr (by simp [Ts.length])
      obtain ⟨_, c10, c11, c12, ⟨v1, c13, hv1⟩, _⟩ := seg_cons.1 hq1
      obtain ⟨A1, d1, rfl, hv1⟩ := hv1.form
      clear hq1 hsr
      have hX : Below wr.heap.size wr (wr.alloc (.cells #[.int .i64 k1, .int .i64 n1, .string s1, .slice A1 ar.length d1] 39)) := (Below.refl _ _).alloc (Nat.le_refl _) _
      have hX' := hb.trans (hX.mono hb.size)
      go_wp2_with fail
      refine (goodGoal_any vars k1 n1 s1 ar _ _ (hv1.below hX) hnod).mono ?_
      rintro e w2 ⟨rfl, hb2⟩
      have hb3 := hX'.trans (hb2.mono hX'.size)
      generalize hgb : gB vars k1 n1 s1 ar = gb
      have HGB := Lib.hid hgb
      clear hgb
      cases gb with
      | false =>
        go_wp2_with fail
        go_ret
        refine ⟨?_, hb3⟩
        rw [hq.out, HT.out, Ts.goals_app, Ts.goals, HGB.out, Bool.false_and, Bool.and_false]; rfl
      | true =>
        go_wp2_with fail
        go_roundg r.length
        case measure => rw [HG.out]; simp [Ts.length]
        case rel =>
          refine ⟨D.app (.cons k1 n1 s1 ar .nil), r, ?_, rfl, ?_, ?_, hb3⟩
          · rw [HT.out, Ts.app_assoc]; rfl
          · rw [Ts.length_app]; rfl
          · rw [Ts.goals_app, HD.out, Ts.goals, HGB.out]; rfl

end Go.Proofs.Ytdflngjfnpbpmab
namespace Go.Proofs.Ytdflngjfnpbpmab
open Go.RowKit

/-- A clause. -/
structure Cl where
  k : Int
  n : Int
  s : ByteArray
  hd : Ts
  bd : Ts
  vars : Int
def Cl.nodes (c : Cl) : Nat := c.hd.nodes + c.bd.nodes + 1
def nodesC : List Cl → Nat
  | [] => 0
  | c :: r => c.nodes + nodesC r
/-- Is it a good clause? -/
def cB (c : Cl) : Bool := qB c.vars c.bd && gB c.vars c.k c.n c.s c.hd && !builtB c.s.toList c.hd.length
/-- From cell o of block b on lie the clauses, six cells each; what they lean on is p's. -/
def SegC (w : World) (p : Nat → Prop) : List Cl → Nat → Nat → Prop
  | [], _, _ => True
  | c :: r, b, o => p b ∧ w.cell? ⟨b, o, none⟩ = some (.int .i64 c.k) ∧ w.cell? ⟨b, o + 1, none⟩ = some (.int .i64 c.n) ∧ w.cell? ⟨b, o + 2, none⟩ = some (.string c.s) ∧
    (∃ v, w.cell? ⟨b, o + 3, none⟩ = some v ∧ Sl w p v c.hd) ∧ (∃ v, w.cell? ⟨b, o + 4, none⟩ = some v ∧ Sl w p v c.bd) ∧ w.cell? ⟨b, o + 5, none⟩ = some (.int .i64 c.vars) ∧ SegC w p r b (o + 6)
def SlC (w : World) (p : Nat → Prop) (v : Value) (L : List Cl) : Prop := ∃ A c, v = .slice A L.length c ∧ L.length ≤ c ∧ (0 < L.length → ∃ b o, A = some ⟨b, o, none⟩ ∧ SegC w p L b o)

section
variable {w w' : World} {p q : Nat → Prop}
theorem SegC.keep {L : List Cl} : ∀ {b o : Nat}, SegC w p L b o → (∀ k, p k → k < w.heap.size → w'.heap[k]? = w.heap[k]?) → SegC w' p L b o := by
  induction L with
  | nil => intro b o _ _; trivial
  | cons c r ih =>
    intro b o ⟨h0, h1, h2, h3, ⟨v, h4, h5⟩, ⟨u, h6, h7⟩, h8, h9⟩ hk
    have hc : ∀ j, w'.cell? ⟨b, j, none⟩ = w.cell? ⟨b, j, none⟩ := fun j => World.cell?_of_block (hk b h0 (lt_of_cell h1))
    exact ⟨h0, (hc _).trans h1, (hc _).trans h2, (hc _).trans h3, ⟨v, (hc _).trans h4, h5.keep hk⟩, ⟨u, (hc _).trans h6, h7.keep hk⟩, (hc _).trans h8, ih h9 hk⟩
theorem SegC.imp {L : List Cl} : ∀ {b o : Nat}, SegC w p L b o → (∀ k, p k → k < w.heap.size → q k) → SegC w q L b o := by
  induction L with
  | nil => intro b o _ _; trivial
  | cons c r ih =>
    intro b o ⟨h0, h1, h2, h3, ⟨v, h4, h5⟩, ⟨u, h6, h7⟩, h8, h9⟩ hk
    exact ⟨hk b h0 (lt_of_cell h1), h1, h2, h3, ⟨v, h4, h5.imp hk⟩, ⟨u, h6, h7.imp hk⟩, h8, ih h9 hk⟩
theorem SlC.keep {L : List Cl} {v : Value} (h : SlC w p v L) (hk : ∀ k, p k → k < w.heap.size → w'.heap[k]? = w.heap[k]?) : SlC w' p v L := by
  obtain ⟨A, c, e, hl, hs⟩ := h
  exact ⟨A, c, e, hl, fun h => by obtain ⟨b, o, e, h⟩ := hs h; exact ⟨b, o, e, h.keep hk⟩⟩
theorem SlC.imp {L : List Cl} {v : Value} (h : SlC w p v L) (hk : ∀ k, p k → k < w.heap.size → q k) : SlC w q v L := by
  obtain ⟨A, c, e, hl, hs⟩ := h
  exact ⟨A, c, e, hl, fun h => by obtain ⟨b, o, e, h⟩ := hs h; exact ⟨b, o, e, h.imp hk⟩⟩
theorem SlC.below {L : List Cl} {v : Value} (h : SlC w p v L) (hb : Below w.heap.size w w') : SlC w' p v L := h.keep fun k _ hk => hb.block k hk
theorem SlC.any {L : List Cl} {v : Value} (h : SlC w p v L) : SlC w (fun _ => True) v L := h.imp fun _ _ _ => trivial
theorem SlC.form {L : List Cl} {v : Value} (h : SlC w p v L) : ∃ A c, v = .slice A L.length c ∧ SlC w p (.slice A L.length c) L := by
  obtain ⟨A, c, rfl, h2⟩ := h
  exact ⟨A, c, rfl, A, c, rfl, h2⟩
theorem SegC.skip {R : List Cl} {b : Nat} : ∀ {D : List Cl} {o : Nat}, SegC w p (D ++ R) b o → SegC w p R b (o + D.length * 6)
  | [], o, h => by simpa using h
  | c :: D, o, ⟨_, _, _, _, _, _, _, h⟩ => by
    have := SegC.skip (R := R) (D := D) h
    rwa [show o + 6 + D.length * 6 = o + (c :: D).length * 6 by simp; omega] at this
theorem SlC.at_ {A : Option Addr} {len c : Nat} {D R : List Cl} (h : SlC w p (.slice A len c) (D ++ R)) (hR : 0 < R.length) : ∃ b o, A = some ⟨b, o, none⟩ ∧ SegC w p R b (o + D.length * 6) := by
  obtain ⟨A', c', e, hl, hs⟩ := h
  cases e
  obtain ⟨b, o, e, h⟩ := hs (by rw [List.length_append]; omega)
  exact ⟨b, o, e, h.skip⟩
end

set_option maxHeartbeats 1000000 in
theorem goodClause_any (c : Cl) (u v : Value) (w : World) (hu : Sl w (fun _ => True) u c.hd) (hv : Sl w (fun _ => True) v c.bd) (h1 : c.hd.nodes < 1048576) (h2 : c.bd.nodes ≤ 1048576) :
    Calls Try.prog 66 #[.agg #[.int .i64 c.k, .int .i64 c.n, .string c.s, u, v, .int .i64 c.vars]] w fun e w' => e = .returned (.bool (cB c)) ∧ Below w.heap.size w w' := by
  obtain ⟨A, d, rfl, hu⟩ := hu.form
  obtain ⟨A', d', rfl, hv⟩ := hv.form
  generalize hr : cB c = rb
  have R := Lib.hid hr
  clear hr
  go_enter Try.func66, Try.ntmps66
  go_wp2_with fail
  have hW0 : Below w.heap.size w (w.alloc (.cells #[.int .i64 c.k, .int .i64 c.n, .string c.s, .slice A c.hd.length d, .slice A' c.bd.length d', .int .i64 c.vars] 57)) := (Below.refl _ _).alloc (Nat.le_refl _) _
  have bA := Plot.new w 57 #[.int .i64 c.k, .int .i64 c.n, .string c.s, .slice A c.hd.length d, .slice A' c.bd.length d', .int .i64 c.vars]
  generalize (w.alloc (.cells #[.int .i64 c.k, .int .i64 c.n, .string c.s, .slice A c.hd.length d, .slice A' c.bd.length d', .int .i64 c.vars] 57)) = W0 at *
  have hu0 := hu.below hW0
  refine (goodQuery_any c.vars c.bd _ W0 (hv.below hW0) h2).mono ?_
  rintro e w1 ⟨rfl, hb1⟩
  have hW1 := hW0.trans (hb1.mono hW0.size)
  have bA1 := bA.below hb1
  have hu1 := hu0.below hb1
  generalize hq : qB c.vars c.bd = qb
  have HQ := Lib.hid hq
  clear hq
  cases qb with
  | false =>
    go_wp2_with fail
    go_ret
    refine ⟨?_, hW1⟩
    rw [← R.out, cB, HQ.out]; rfl
  | true =>
    have p0 := bA1.cell 0
    have p1 := bA1.cell 1
    have p2 := bA1.cell 2
    have p3 := bA1.cell 3
    have p5 := bA1.cell 5
    simp at p0 p1 p2 p3 p5
    go_wp2_with fail
    refine (goodGoal_any c.vars c.k c.n c.s c.hd _ _ hu1 h1).mono ?_
    rintro e w2 ⟨rfl, hb2⟩
    have hW2 := hW1.trans (hb2.mono hW1.size)
    have bA2 := bA1.below hb2
    clear p0 p1 p2 p3 p5
    generalize hg : gB c.vars c.k c.n c.s c.hd = gb
    have HGB := Lib.hid hg
    clear hg
    cases gb with
    | false =>
      go_wp2_with fail
      go_ret
      refine ⟨?_, hW2⟩
      rw [← R.out, cB, HGB.out, Bool.and_false]; rfl
    | true =>
      have p0 := bA2.cell 0
      have p1 := bA2.cell 1
      have p2 := bA2.cell 2
      have p3 := bA2.cell 3
      simp at p0 p1 p2 p3
      go_wp2_with fail
      refine (builtin_any c.k c.n c.s A c.hd.length d _).mono ?_
      rintro e w3 ⟨rfl, hb3⟩
      generalize hbb : builtB c.s.toList c.hd.length = bb
      have HBT := Lib.hid hbb
      clear hbb
      go_wp2_with fail
      go_ret
      refine ⟨?_, hW2.trans (hb3.mono hW2.size)⟩
      rw [← R.out, cB, HQ.out, HGB.out, HBT.out, Bool.true_and]; rfl

end Go.Proofs.Ytdflngjfnpbpmab
namespace Go.Proofs.Ytdflngjfnpbpmab
open Go.RowKit
set_option linter.unusedVariables false
set_option linter.unusedSimpArgs false

/-- The only cell of a term that is not compound. -/
def single (k n : Int) (s : ByteArray) : HC := if k = 0 then ⟨0, n, eS⟩ else if k = 2 then ⟨2, n, eS⟩ else ⟨1, 0, s⟩
/-- The arguments' own cells, and what is stored behind them, from place p on. -/
def layA : Ts → Nat → List HC × List HC
  | .nil, _ => ([], [])
  | .cons k n s ar r, p =>
    if k = 3 then
      (⟨0, (p : Nat), eS⟩ :: (layA r (p + (((layA ar (p + 1 + ar.length)).1 ++ (layA ar (p + 1 + ar.length)).2).length + 1))).1,
        (⟨3, (ar.length : Nat), s⟩ :: ((layA ar (p + 1 + ar.length)).1 ++ (layA ar (p + 1 + ar.length)).2)) ++ (layA r (p + (((layA ar (p + 1 + ar.length)).1 ++ (layA ar (p + 1 + ar.length)).2).length + 1))).2)
    else (single k n s :: (layA r p).1, (layA r p).2)
/-- A compound term stored at p. -/
def layS (s : ByteArray) (ar : Ts) (p : Nat) : List HC := ⟨3, (ar.length : Nat), s⟩ :: ((layA ar (p + 1 + ar.length)).1 ++ (layA ar (p + 1 + ar.length)).2)
def lay1 (k n : Int) (s : ByteArray) (ar : Ts) (p : Nat) : List HC := if k = 3 then layS s ar p else [single k n s]
/-- Terms stored one behind the other, and where. -/
def layL : Ts → Nat → List HC × List Int
  | .nil, _ => ([], [])
  | .cons k n s ar r, p => (lay1 k n s ar p ++ (layL r (p + (lay1 k n s ar p).length)).1, (p : Nat) :: (layL r (p + (lay1 k n s ar p).length)).2)
def varsF : Nat → Nat → List HC
  | 0, _ => []
  | m + 1, i => ⟨0, (i : Nat), eS⟩ :: varsF m (i + 1)
def varsB (n : Nat) : List HC := varsF n 0
theorem varsF_len : ∀ m i, (varsF m i).length = m
  | 0, _ => rfl
  | m + 1, i => by simp [varsF, varsF_len m (i + 1)]
theorem varsB_len (n : Nat) : (varsB n).length = n := varsF_len n 0
theorem varsF_get : ∀ m i j, j < m → (varsF m i)[j]? = some ⟨0, ((i + j : Nat) : Int), eS⟩
  | 0, _, _, h => by omega
  | m + 1, i, 0, h => by simp [varsF]
  | m + 1, i, j + 1, h => by
    have := varsF_get m (i + 1) j (by omega)
    rw [show i + (j + 1) = i + 1 + j by omega]
    simpa [varsF] using this
theorem varsB_get {n j : Nat} (h : j < n) : (varsB n)[j]? = some ⟨0, (j : Nat), eS⟩ := by
  have := varsF_get n 0 j h
  rwa [Nat.zero_add] at this
theorem varsF_snoc : ∀ m i, varsF (m + 1) i = varsF m i ++ [⟨0, ((i + m : Nat) : Int), eS⟩]
  | 0, i => by simp [varsF]
  | m + 1, i => by
    rw [varsF, varsF_snoc m (i + 1), varsF]
    rw [show i + 1 + m = i + (m + 1) by omega]; rfl
theorem layA_comp (n : Int) (s : ByteArray) (ar r : Ts) (p : Nat) : layA (.cons 3 n s ar r) p = (⟨0, (p : Nat), eS⟩ :: (layA r (p + (layS s ar p).length)).1, layS s ar p ++ (layA r (p + (layS s ar p).length)).2) := by
  rw [layA, if_pos rfl]; rfl
theorem layA_one {k : Int} (n : Int) (s : ByteArray) (ar r : Ts) (p : Nat) (h : k ≠ 3) : layA (.cons k n s ar r) p = (single k n s :: (layA r p).1, (layA r p).2) := by
  rw [layA, if_neg h]
theorem layA_len (T : Ts) : ∀ p, (layA T p).1.length = T.length := by
  induction T with
  | nil => intro p; rfl
  | cons k n s ar r _ ih =>
    intro p
    by_cases h : k = 3
    · subst h; rw [layA_comp]; simp [Ts.length, ih]
    · rw [layA_one _ _ _ _ _ h]; simp [Ts.length, ih]
theorem layS_len (s : ByteArray) (ar : Ts) (p : Nat) : (layS s ar p).length = 1 + ar.length + (layA ar (p + 1 + ar.length)).2.length := by
  simp only [layS, List.length_cons, List.length_append, layA_len]; omega
theorem layA_app (D R : Ts) : ∀ p, layA (D.app R) p = ((layA D p).1 ++ (layA R (p + (layA D p).2.length)).1, (layA D p).2 ++ (layA R (p + (layA D p).2.length)).2) := by
  induction D with
  | nil => intro p; simp [Ts.app, layA]
  | cons k n s ar r _ ih =>
    intro p
    by_cases h : k = 3
    · subst h
      rw [Ts.app, layA_comp, layA_comp, ih]
      simp only [List.length_append, List.cons_append, List.append_assoc, Nat.add_assoc]
    · rw [Ts.app, layA_one _ _ _ _ _ h, layA_one _ _ _ _ _ h, ih]
      simp only [List.cons_append]
theorem layA_le (T : Ts) : ∀ p, (layA T p).2.length + T.length ≤ 2 * T.nodes := by
  induction T with
  | nil => intro p; simp [layA, Ts.length, Ts.nodes]
  | cons k n s ar r iha ihr =>
    intro p
    by_cases h : k = 3
    · subst h
      rw [layA_comp]
      have h1 := iha (p + 1 + ar.length)
      have h2 := ihr (p + (layS s ar p).length)
      have h3 := layS_len s ar p
      simp only [List.length_append, Ts.length, Ts.nodes]; omega
    · rw [layA_one _ _ _ _ _ h]
      have h2 := ihr p
      simp only [Ts.length, Ts.nodes]; omega
theorem lay1_le (k n : Int) (s : ByteArray) (ar : Ts) (p : Nat) : (lay1 k n s ar p).length ≤ 1 + 2 * ar.nodes := by
  unfold lay1
  split
  · have := layA_le ar (p + 1 + ar.length)
    rw [layS_len]; omega
  · simp
theorem lay1_pos (k n : Int) (s : ByteArray) (ar : Ts) (p : Nat) : 0 < (lay1 k n s ar p).length := by
  unfold lay1
  split
  · simp [layS]
  · simp
theorem layL_app (D R : Ts) : ∀ p, layL (D.app R) p = ((layL D p).1 ++ (layL R (p + (layL D p).1.length)).1, (layL D p).2 ++ (layL R (p + (layL D p).1.length)).2) := by
  induction D with
  | nil => intro p; simp [Ts.app, layL]
  | cons k n s ar r _ ih =>
    intro p
    simp only [Ts.app, layL, ih, List.length_append, List.cons_append, List.append_assoc, Nat.add_assoc]
theorem layL_le (T : Ts) : ∀ p, (layL T p).1.length ≤ 2 * T.nodes := by
  induction T with
  | nil => intro p; simp [layL]
  | cons k n s ar r iha ihr =>
    intro p
    have h1 := lay1_le k n s ar p
    have h2 := ihr (p + (lay1 k n s ar p).length)
    simp only [layL, List.length_append, Ts.nodes]; omega
theorem layL_len (T : Ts) : ∀ p, (layL T p).2.length = T.length := by
  induction T with
  | nil => intro p; rfl
  | cons k n s ar r iha ihr => intro p; simp only [layL, List.length_cons, ihr, Ts.length]
/-- A clause's block: its cells, the head's place, the goals' places. -/
def blockC (c : Cl) : List HC := varsB c.vars.toNat ++ (lay1 c.k c.n c.s c.hd c.vars.toNat ++ (layL c.bd (c.vars.toNat + (lay1 c.k c.n c.s c.hd c.vars.toNat).length)).1)
def goalsC (c : Cl) : List Int := (layL c.bd (c.vars.toNat + (lay1 c.k c.n c.s c.hd c.vars.toNat).length)).2
def blockQ (vars : Int) (T : Ts) : List HC := varsB vars.toNat ++ (layL T vars.toNat).1
def goalsQ (vars : Int) (T : Ts) : List Int := (layL T vars.toNat).2
/-- A goal's nodes are few. -/
theorem Ts.goals_nodes (vars : Int) : ∀ T : Ts, T.goals vars = true → T.nodes ≤ 24 * T.length
  | .nil, _ => by simp [Ts.nodes]
  | .cons k n s ar r, h => by
    simp only [Ts.goals, Bool.and_eq_true, gB, decide_eq_true_eq] at h
    have := Ts.goals_nodes vars r h.2
    simp only [Ts.nodes, Ts.length]; omega
end Go.Proofs.Ytdflngjfnpbpmab
namespace Go.Proofs.Ytdflngjfnpbpmab
open Go.RowKit
set_option linter.unusedVariables false
set_option linter.unusedSimpArgs false

theorem goodC_mono {n f f' : Nat} {c : HC} (hf : f ≤ f') (h : goodC n c f = true) : goodC n c f' = true := by
  rcases goodC_iff h with ⟨k, a, b, s⟩ | ⟨k, a, s⟩ | ⟨k, s⟩ | ⟨k, a, b, d, s⟩
  · unfold goodC; rw [if_pos k]; simp [a, b, s]
  · unfold goodC; rw [if_neg (by omega), if_pos k]; simp [a, s]
  · unfold goodC; rw [if_neg (by omega), if_neg (by omega), if_pos k]; simp [s]
  · unfold goodC; rw [if_neg (by omega), if_neg (by omega), if_neg (by omega), if_pos k]
    simp only [Bool.and_eq_true, decide_eq_true_eq, Bool.not_eq_true', decide_eq_false_iff_not]
    exact ⟨a, b, by omega, s⟩
theorem goodL_app {n : Nat} {Y : List HC} (hY : goodL n Y = true) : ∀ {X : List HC}, goodL n X = true → goodL n (X ++ Y) = true
  | [], _ => hY
  | c :: r, h => by
    simp only [goodL, Bool.and_eq_true, List.cons_append] at h ⊢
    exact ⟨goodC_mono (by simp) h.1, goodL_app hY h.2⟩
theorem name_some {s : ByteArray} (h : nameB s = true) : s ≠ eS := by
  intro e; subst e; exact absurd h (by decide)
theorem str_nil {s : ByteArray} (h : s.toList = []) : s = eS := by
  apply str_eq.1; rw [h]; kernel_rfl
/-- What a good node is. -/
theorem node_iff {vars k n : Int} {s : ByteArray} {l : Nat} (h : nodeB vars k n s l = true) : (k = 0 ∧ 0 ≤ n ∧ n < vars ∧ s = eS ∧ l = 0) ∨ (k = 1 ∧ n = 0 ∧ s ≠ eS ∧ l = 0) ∨ (k = 2 ∧ s = eS ∧ l = 0) ∨ (k = 3 ∧ n = 0 ∧ s ≠ eS ∧ 1 ≤ l ∧ l ≤ 4) := by
  unfold nodeB at h
  split at h
  · simp only [Bool.and_eq_true, decide_eq_true_eq] at h
    exact .inl ⟨‹_›, h.1.1.1, h.1.1.2, str_nil h.1.2, h.2⟩
  split at h
  · simp only [Bool.and_eq_true, decide_eq_true_eq] at h
    exact .inr (.inl ⟨‹_›, h.1.1, name_some h.1.2, h.2⟩)
  split at h
  · simp only [Bool.and_eq_true, decide_eq_true_eq] at h
    exact .inr (.inr (.inl ⟨‹_›, str_nil h.1.2, h.2⟩))
  split at h
  · simp only [Bool.and_eq_true, decide_eq_true_eq] at h
    exact .inr (.inr (.inr ⟨‹_›, h.1.1.1.1, name_some h.1.1.1.2, h.1.2, h.2⟩))
  · cases h
theorem good_cons {vars k n : Int} {s : ByteArray} {ar r : Ts} (h : (Ts.cons k n s ar r).good vars = true) : nodeB vars k n s ar.length = true ∧ ar.good vars = true ∧ r.good vars = true := by
  simp only [Ts.good, Bool.and_eq_true] at h
  exact ⟨h.1.1, h.1.2, h.2⟩
theorem Ts.good_ap (v : Int) (D R : Ts) : (D.app R).good v = (D.good v && R.good v) := by
  induction D with
  | nil => rfl
  | cons k n b ar r _ ih => simp only [Ts.app, Ts.good, ih, Bool.and_assoc]
theorem goodC_ref {n f : Nat} {i : Int} (h0 : 0 ≤ i) (h : i < n) : goodC n ⟨0, i, eS⟩ f = true := by unfold goodC; simp [h, h0]
theorem goodC_name {n f : Nat} {s : ByteArray} (h : s ≠ eS) : goodC n ⟨1, 0, s⟩ f = true := by unfold goodC; simp [h]
theorem goodC_num {n f : Nat} {i : Int} : goodC n ⟨2, i, eS⟩ f = true := by unfold goodC; simp
theorem goodC_frame {n f l : Nat} {s : ByteArray} (h : s ≠ eS) (h1 : 1 ≤ l) (h2 : l ≤ 4) (h3 : l ≤ f) : goodC n ⟨3, (l : Nat), s⟩ f = true := by
  unfold goodC; simp [h]; omega
theorem layA_good {vars : Int} {all : Nat} (hv : vars ≤ all) (T : Ts) : ∀ p, T.good vars = true → p + (layA T p).2.length ≤ all → goodL all (layA T p).1 = true ∧ goodL all (layA T p).2 = true := by
  induction T with
  | nil => intro p _ _; exact ⟨rfl, rfl⟩
  | cons k n s ar r iha ihr =>
    intro p hg hp
    obtain ⟨hn, ha, hr⟩ := good_cons hg
    rcases node_iff hn with ⟨rfl, h0, h1, h2, h3⟩ | ⟨rfl, h0, h1, h2⟩ | ⟨rfl, h0, h1⟩ | ⟨rfl, h0, h1, h2, h3⟩
    · rw [layA_one _ _ _ _ _ (by decide)] at hp ⊢
      obtain ⟨i1, i2⟩ := ihr p hr hp
      refine ⟨?_, i2⟩
      simp only [goodL, Bool.and_eq_true]
      exact ⟨goodC_ref h0 (by omega), i1⟩
    · rw [layA_one _ _ _ _ _ (by decide)] at hp ⊢
      obtain ⟨i1, i2⟩ := ihr p hr hp
      refine ⟨?_, i2⟩
      simp only [goodL, Bool.and_eq_true]
      exact ⟨goodC_name h1, i1⟩
    · rw [layA_one _ _ _ _ _ (by decide)] at hp ⊢
      obtain ⟨i1, i2⟩ := ihr p hr hp
      refine ⟨?_, i2⟩
      simp only [goodL, Bool.and_eq_true]
      exact ⟨goodC_num, i1⟩
    · rw [layA_comp] at hp ⊢
      have hls := layS_len s ar p
      simp only [List.length_append] at hp
      obtain ⟨a1, a2⟩ := iha (p + 1 + ar.length) ha (by omega)
      obtain ⟨i1, i2⟩ := ihr (p + (layS s ar p).length) hr (by omega)
      refine ⟨?_, goodL_app i2 ?_⟩
      · simp only [goodL, Bool.and_eq_true]
        exact ⟨goodC_ref (by omega) (by omega), i1⟩
      · unfold layS
        simp only [goodL, Bool.and_eq_true]
        exact ⟨goodC_frame h1 h2 h3 (by rw [List.length_append, layA_len]; omega), goodL_app a2 a1⟩
theorem lay1_good {vars k n : Int} {s : ByteArray} {ar : Ts} {all p : Nat} (hv : vars ≤ all) (h : gB vars k n s ar = true) (hp : p + (lay1 k n s ar p).length ≤ all) : goodL all (lay1 k n s ar p) = true := by
  simp only [gB, goalB, Bool.and_eq_true, Bool.or_eq_true, decide_eq_true_eq] at h
  obtain ⟨hn, ha, _⟩ := good_cons h.1.2
  rcases node_iff hn with ⟨rfl, _⟩ | ⟨rfl, h0, h1, h2⟩ | ⟨rfl, _⟩ | ⟨rfl, h0, h1, h2, h3⟩
  · rcases h.1.1 with h | h <;> omega
  · unfold lay1
    rw [if_neg (by decide)]
    simp only [goodL, Bool.and_eq_true, and_true]
    exact goodC_name h1
  · rcases h.1.1 with h | h <;> omega
  · unfold lay1 at hp ⊢
    rw [if_pos rfl] at hp ⊢
    have hls := layS_len s ar p
    obtain ⟨a1, a2⟩ := layA_good hv ar (p + 1 + ar.length) ha (by omega)
    unfold layS
    simp only [goodL, Bool.and_eq_true]
    exact ⟨goodC_frame h1 h2 h3 (by rw [List.length_append, layA_len]; omega), goodL_app a2 a1⟩
theorem layL_good {vars : Int} {all : Nat} (hv : vars ≤ all) (T : Ts) : ∀ p, T.goals vars = true → p + (layL T p).1.length ≤ all → goodL all (layL T p).1 = true := by
  induction T with
  | nil => intro p _ _; rfl
  | cons k n s ar r _ ihr =>
    intro p hg hp
    simp only [Ts.goals, Bool.and_eq_true] at hg
    simp only [layL, List.length_append] at hp ⊢
    exact goodL_app (ihr _ hg.2 (by omega)) (lay1_good hv hg.1 (by omega))
theorem varsF_good {all : Nat} : ∀ m i, i + m ≤ all → goodL all (varsF m i) = true
  | 0, i, _ => rfl
  | m + 1, i, h => by
    simp only [varsF, goodL, Bool.and_eq_true]
    exact ⟨goodC_ref (by omega) (by omega), varsF_good m (i + 1) (by omega)⟩
/-- What a good clause is. -/
theorem cB_iff {c : Cl} (h : cB c = true) : 0 ≤ c.vars ∧ c.vars ≤ 8 ∧ c.bd.length ≤ 5 ∧ c.bd.goals c.vars = true ∧ gB c.vars c.k c.n c.s c.hd = true := by
  simp only [cB, qB, Bool.and_eq_true, decide_eq_true_eq] at h
  exact ⟨h.1.1.1.1.1, h.1.1.1.1.2, h.1.1.1.2, h.1.1.2, h.1.2⟩
theorem gB_nodes {vars k n : Int} {s : ByteArray} {ar : Ts} (h : gB vars k n s ar = true) : ar.nodes + 1 ≤ 24 := by
  simp only [gB, Bool.and_eq_true, decide_eq_true_eq] at h
  exact h.2
theorem blockC_len {c : Cl} (h : cB c = true) : (blockC c).length ≤ 300 := by
  obtain ⟨h0, h1, h2, h3, h4⟩ := cB_iff h
  have h5 := gB_nodes h4
  have h6 := Ts.goals_nodes _ _ h3
  have h7 := lay1_le c.k c.n c.s c.hd c.vars.toNat
  have h8 := layL_le c.bd (c.vars.toNat + (lay1 c.k c.n c.s c.hd c.vars.toNat).length)
  simp only [blockC, List.length_append, varsB_len]
  omega
theorem blockC_good {c : Cl} (h : cB c = true) : goodCs (blockC c) = true := by
  obtain ⟨h0, h1, h2, h3, h4⟩ := cB_iff h
  have hl := blockC_len h
  unfold goodCs
  simp only [Bool.and_eq_true, decide_eq_true_eq]
  refine ⟨by omega, ?_⟩
  have he : (blockC c).length = c.vars.toNat + ((lay1 c.k c.n c.s c.hd c.vars.toNat).length + (layL c.bd (c.vars.toNat + (lay1 c.k c.n c.s c.hd c.vars.toNat).length)).1.length) := by
    simp only [blockC, List.length_append, varsB_len]
  unfold blockC
  refine goodL_app (goodL_app (layL_good (vars := c.vars) (by unfold blockC at he; omega) _ _ h3 (by unfold blockC at he; omega)) (lay1_good (vars := c.vars) (by unfold blockC at he; omega) h4 (by unfold blockC at he; omega))) (varsF_good _ _ (by unfold blockC at he; omega))

/-- The cells X lie in L from place q on, moved by base. -/
def Sits (L : List HC) (base : Nat) (q : Nat) (X : List HC) : Prop := ∀ i c, X[i]? = some c → hat L ((base + (q + i) : Nat) : Int) = some (moved base c)
theorem Sits.app {L : List HC} {base q : Nat} {X Y : List HC} (h : Sits L base q (X ++ Y)) : Sits L base q X ∧ Sits L base (q + X.length) Y := by
  refine ⟨fun i c hi => h i c ?_, fun i c hi => ?_⟩
  · rw [List.getElem?_append_left]
    · exact hi
    · rcases Nat.lt_or_ge i X.length with hl | hl
      · exact hl
      · rw [List.getElem?_eq_none hl] at hi; cases hi
  · have := h (X.length + i) c (by rw [List.getElem?_append_right (by omega)]; simpa using hi)
    rw [show q + X.length + i = q + (X.length + i) by omega]; exact this
theorem Sits.head {L : List HC} {base q : Nat} {c : HC} {X : List HC} (h : Sits L base q (c :: X)) : hat L ((base + q : Nat) : Int) = some (moved base c) ∧ Sits L base (q + 1) X := by
  refine ⟨h 0 c rfl, fun i d hi => ?_⟩
  rw [show q + 1 + i = q + (i + 1) by omega]
  exact h (i + 1) d (by simpa using hi)
theorem hlook_self {L : List HC} {a : Int} {c : HC} (h : hat L a = some c) (hc : ¬ (c.k = 0 ∧ c.n ≠ a)) : hlook L a = a := by
  obtain ⟨h0, h1, _⟩ := hatS.1 h
  unfold hlook
  obtain ⟨m, hm⟩ : ∃ m, L.length = m + 1 := ⟨L.length - 1, by omega⟩
  rw [hm]
  simp only [hlookF, h, if_neg hc]
theorem hlook_one {L : List HC} {a : Int} {c d : HC} (h : hat L a = some c) (hk : c.k = 0) (hn : c.n ≠ a) (h2 : hat L c.n = some d) (hd : ¬ (d.k = 0 ∧ d.n ≠ c.n)) : hlook L a = c.n := by
  obtain ⟨h0, h1, _⟩ := hatS.1 h
  obtain ⟨g0, g1, _⟩ := hatS.1 h2
  unfold hlook
  obtain ⟨m, hm⟩ : ∃ m, L.length = m + 2 := ⟨L.length - 2, by omega⟩
  rw [hm]
  simp only [hlookF, h, if_pos (show c.k = 0 ∧ c.n ≠ a from ⟨hk, hn⟩), h2, if_neg hd]
/-- A renaming of the variables by where the block was loaded. -/
def up (base : Nat) (n : Int) : Int := n + base
def Tm.upBy (base : Nat) (t : Tm) : Tm := ⟨t.k, if t.k = 0 then up base t.n else t.n, t.s, t.ar.by_ (up base)⟩
theorem nil_of_len {T : Ts} (h : T.length = 0) : T = .nil := Ts.nil_of_length h
theorem lay_told {L : List HC} {base : Nat} {vars : Int} (hv : ∀ v : Int, 0 ≤ v → v < vars → hat L (v + base) = some ⟨0, v + base, eS⟩) (T : Ts) : ∀ (a p f l : Nat), T.good vars = true → vars ≤ a → vars ≤ p → a + T.length ≤ p → T.nodes ≤ l → T.nodes ≤ f → Sits L base a (layA T p).1 → Sits L base p (layA T p).2 →
    listT (tmAt L f) T.length ((base + a : Nat) : Int) l = some (T.by_ (up base), l - T.nodes) := by
  induction T with
  | nil => intro a p f l _ _ _ _ _ _ _ _; simp [listT, Ts.length, Ts.by_, Ts.nodes]
  | cons k n s ar r iha ihr =>
    intro a p f l hg hav hpv hap hl hf hs1 hs2
    obtain ⟨hn, ha, hr⟩ := good_cons hg
    simp only [Ts.length] at hap
    simp only [Ts.nodes] at hl hf
    obtain ⟨f, rfl⟩ : ∃ f', f = f' + 1 := ⟨f - 1, by omega⟩
    have hl0 : l ≠ 0 := by omega
    simp only [Ts.length, listT]
    rcases node_iff hn with ⟨rfl, h0, h1, h2, h3⟩ | ⟨rfl, h0, h1, h2⟩ | ⟨rfl, h0, h1⟩ | ⟨rfl, h0, h1, h2, h3⟩
    · rw [layA_one _ _ _ _ _ (by decide)] at hs1 hs2
      obtain ⟨q1, q2⟩ := hs1.head
      obtain rfl := nil_of_len h3
      subst h2
      have e1 : hat L ((base + a : Nat) : Int) = some ⟨0, n + base, eS⟩ := q1
      have e2 : hlook L ((base + a : Nat) : Int) = n + base := by
        exact hlook_one (c := ⟨0, n + base, eS⟩) e1 rfl (by show n + (base : Int) ≠ _; omega) (hv n h0 h1) (by simp)
      have e3 : tmAt L (f + 1) ((base + a : Nat) : Int) l = some (⟨0, n + base, eS, .nil⟩, l - 1) := by
        rw [tmAt_hat hl0 (by rw [e2]; exact hv n h0 h1), if_pos rfl, e2]
      rw [e3, Option.bind_some]
      have := ihr (a + 1) p (f + 1) (l - 1) hr (by omega) hpv (by omega) (by simp only [Ts.nodes] at hl; omega) (by simp only [Ts.nodes] at hf; omega) q2 hs2
      rw [show ((base + a : Nat) : Int) + 1 = ((base + (a + 1) : Nat) : Int) by omega, this]
      simp only [Option.map_some, Ts.by_, up, if_true, Ts.nodes]
      congr 2
      omega
    · rw [layA_one _ _ _ _ _ (by decide)] at hs1 hs2
      obtain ⟨q1, q2⟩ := hs1.head
      obtain rfl := nil_of_len h2
      subst h0
      have e1 : hat L ((base + a : Nat) : Int) = some ⟨1, 0, s⟩ := q1
      have e2 : hlook L ((base + a : Nat) : Int) = ((base + a : Nat) : Int) := hlook_self e1 (by simp)
      have e3 : tmAt L (f + 1) ((base + a : Nat) : Int) l = some (⟨1, 0, s, .nil⟩, l - 1) := by
        rw [tmAt_hat hl0 (by rw [e2]; exact e1), if_neg (by simp), if_pos rfl]
      rw [e3, Option.bind_some]
      have := ihr (a + 1) p (f + 1) (l - 1) hr (by omega) hpv (by omega) (by simp only [Ts.nodes] at hl; omega) (by simp only [Ts.nodes] at hf; omega) q2 hs2
      rw [show ((base + a : Nat) : Int) + 1 = ((base + (a + 1) : Nat) : Int) by omega, this]
      simp only [Option.map_some, Ts.by_, Ts.nodes]
      congr 2
      omega
    · rw [layA_one _ _ _ _ _ (by decide)] at hs1 hs2
      obtain ⟨q1, q2⟩ := hs1.head
      obtain rfl := nil_of_len h1
      subst h0
      have e1 : hat L ((base + a : Nat) : Int) = some ⟨2, n, eS⟩ := q1
      have e2 : hlook L ((base + a : Nat) : Int) = ((base + a : Nat) : Int) := hlook_self e1 (by simp)
      have e3 : tmAt L (f + 1) ((base + a : Nat) : Int) l = some (⟨2, n, eS, .nil⟩, l - 1) := by
        rw [tmAt_hat hl0 (by rw [e2]; exact e1), if_neg (by simp), if_neg (by simp), if_pos rfl]
      rw [e3, Option.bind_some]
      have := ihr (a + 1) p (f + 1) (l - 1) hr (by omega) hpv (by omega) (by simp only [Ts.nodes] at hl; omega) (by simp only [Ts.nodes] at hf; omega) q2 hs2
      rw [show ((base + a : Nat) : Int) + 1 = ((base + (a + 1) : Nat) : Int) by omega, this]
      simp only [Option.map_some, Ts.by_, Ts.nodes]
      congr 2
      omega
    · rw [layA_comp] at hs1 hs2
      obtain ⟨q1, q2⟩ := hs1.head
      obtain ⟨q3, q4⟩ := Sits.app (X := layS s ar p) hs2
      obtain ⟨q5, q6⟩ := Sits.head (c := ⟨3, (ar.length : Nat), s⟩) q3
      obtain ⟨q7, q8⟩ := q6.app
      rw [layA_len] at q8
      subst h0
      have e1 : hat L ((base + a : Nat) : Int) = some ⟨0, ((p : Nat) : Int) + base, eS⟩ := q1
      have e5 : hat L (((p : Nat) : Int) + base) = some ⟨3, (ar.length : Nat), s⟩ := by
        rw [show ((p : Nat) : Int) + base = ((base + p : Nat) : Int) by omega]; exact q5
      have e2 : hlook L ((base + a : Nat) : Int) = ((p : Nat) : Int) + base :=
        hlook_one (c := ⟨0, ((p : Nat) : Int) + base, eS⟩) e1 rfl (by show ((p : Nat) : Int) + (base : Int) ≠ _; omega) e5 (by simp)
      have e6 := iha (p + 1) (p + 1 + ar.length) f (l - 1) ha (by omega) (by omega) (by omega) (by omega) (by omega) q7 q8
      have e3 : tmAt L (f + 1) ((base + a : Nat) : Int) l = some (⟨3, 0, s, ar.by_ (up base)⟩, l - 1 - ar.nodes) := by
        rw [tmAt_hat hl0 (by rw [e2]; exact e5), if_neg (by simp), if_neg (by simp), if_neg (by simp), e2]
        have e7 : (argsC ⟨3, (ar.length : Nat), s⟩).toNat = ar.length := by simp [argsC]
        rw [e7, show ((p : Nat) : Int) + base + 1 = ((base + (p + 1) : Nat) : Int) by omega, e6]
        rfl
      rw [e3, Option.bind_some]
      have := ihr (a + 1) (p + (layS s ar p).length) (f + 1) (l - 1 - ar.nodes) hr (by omega) (by omega) (by omega) (by omega) (by omega) q2 q4
      rw [show ((base + a : Nat) : Int) + 1 = ((base + (a + 1) : Nat) : Int) by omega, this]
      simp only [Option.map_some, Ts.by_, Ts.nodes]
      congr 2
      omega
theorem lay1_told {L : List HC} {base : Nat} {vars : Int} (hv : ∀ v : Int, 0 ≤ v → v < vars → hat L (v + base) = some ⟨0, v + base, eS⟩) {k n : Int} {s : ByteArray} {ar : Ts} {p f l : Nat} (h : gB vars k n s ar = true) (hpv : vars ≤ p) (hl : ar.nodes + 1 ≤ l) (hf : ar.nodes + 1 ≤ f) (hs : Sits L base p (lay1 k n s ar p)) :
    tmAt L f ((base + p : Nat) : Int) l = some (Tm.upBy base ⟨k, n, s, ar⟩, l - (ar.nodes + 1)) := by
  simp only [gB, goalB, Bool.and_eq_true, Bool.or_eq_true, decide_eq_true_eq] at h
  obtain ⟨hn, ha, _⟩ := good_cons h.1.2
  obtain ⟨f, rfl⟩ : ∃ f', f = f' + 1 := ⟨f - 1, by omega⟩
  have hl0 : l ≠ 0 := by omega
  rcases node_iff hn with ⟨rfl, _⟩ | ⟨rfl, h0, h1, h2⟩ | ⟨rfl, _⟩ | ⟨rfl, h0, h1, h2, h3⟩
  · rcases h.1.1 with h | h <;> omega
  · obtain rfl := nil_of_len h2
    subst h0
    unfold lay1 at hs
    rw [if_neg (by decide)] at hs
    have e1 : hat L ((base + p : Nat) : Int) = some ⟨1, 0, s⟩ := hs.head.1
    have e2 : hlook L ((base + p : Nat) : Int) = ((base + p : Nat) : Int) := hlook_self e1 (by simp)
    rw [tmAt_hat hl0 (by rw [e2]; exact e1), if_neg (by simp), if_pos rfl]
    rfl
  · rcases h.1.1 with h | h <;> omega
  · subst h0
    unfold lay1 at hs
    rw [if_pos rfl] at hs
    obtain ⟨q5, q6⟩ := Sits.head (c := ⟨3, (ar.length : Nat), s⟩) hs
    obtain ⟨q7, q8⟩ := q6.app
    rw [layA_len] at q8
    have e1 : hat L ((base + p : Nat) : Int) = some ⟨3, (ar.length : Nat), s⟩ := q5
    have e2 : hlook L ((base + p : Nat) : Int) = ((base + p : Nat) : Int) := hlook_self e1 (by simp)
    have e6 := lay_told hv ar (p + 1) (p + 1 + ar.length) f (l - 1) ha (by omega) (by omega) (by omega) (by omega) (by omega) q7 q8
    rw [tmAt_hat hl0 (by rw [e2]; exact e1), if_neg (by simp), if_neg (by simp), if_neg (by simp), e2]
    have e7 : (argsC ⟨3, (ar.length : Nat), s⟩).toNat = ar.length := by simp [argsC]
    rw [e7, show ((base + p : Nat) : Int) + 1 = ((base + (p + 1) : Nat) : Int) by omega, e6]
    show some (_, _) = some (_, _)
    congr 2
    omega
/-- A loaded block. -/
theorem load_sits (h : HH) (B : List HC) : Sits (h.cs ++ B.map (moved h.cs.length)) h.cs.length 0 B := by
  intro i c hi
  refine hatS.2 ⟨by omega, ?_, ?_⟩
  · have : i < B.length := by
      rcases Nat.lt_or_ge i B.length with hl | hl
      · exact hl
      · rw [List.getElem?_eq_none hl] at hi; cases hi
    simp; omega
  · rw [show ((h.cs.length + (0 + i) : Nat) : Int).toNat = h.cs.length + i by omega, List.getElem?_append_right (by omega)]
    simp [hi]
end Go.Proofs.Ytdflngjfnpbpmab
namespace Go.Proofs.Ytdflngjfnpbpmab
open Go.RowKit
set_option linter.unusedVariables false
set_option linter.unusedSimpArgs false

theorem goodC_wide {n m f : Nat} {c : HC} (hn : n ≤ m) (h : goodC n c f = true) : goodC m c f = true := by
  rcases goodC_iff h with ⟨k, a, b, s⟩ | ⟨k, a, s⟩ | ⟨k, s⟩ | ⟨k, a, b, d, s⟩
  · unfold goodC; rw [if_pos k]; simp [a, s]; omega
  · unfold goodC; rw [if_neg (by omega), if_pos k]; simp [a, s]
  · unfold goodC; rw [if_neg (by omega), if_neg (by omega), if_pos k]; simp [s]
  · unfold goodC; rw [if_neg (by omega), if_neg (by omega), if_neg (by omega), if_pos k]; simp [a, b, d, s]
theorem goodL_wide {n m : Nat} (hn : n ≤ m) : ∀ {L : List HC}, goodL n L = true → goodL m L = true
  | [], _ => rfl
  | c :: r, h => by
    simp only [goodL, Bool.and_eq_true] at h ⊢
    exact ⟨goodC_wide hn h.1, goodL_wide hn h.2⟩
theorem goodC_moved {n m f base : Nat} {c : HC} (hn : base + n ≤ m) (h : goodC n c f = true) : goodC m (moved base c) f = true := by
  unfold moved
  split
  · rename_i h0
    rcases goodC_iff h with ⟨k, a, b, s⟩ | ⟨k, a, s⟩ | ⟨k, s⟩ | ⟨k, a, b, d, s⟩
    · unfold goodC; dsimp only; rw [if_pos h0]; simp [s]; omega
    · omega
    · omega
    · omega
  · rename_i h0
    rcases goodC_iff h with ⟨k, a, b, s⟩ | ⟨k, a, s⟩ | ⟨k, s⟩ | ⟨k, a, b, d, s⟩
    · omega
    · unfold goodC; rw [if_neg (by omega), if_pos k]; simp [a, s]
    · unfold goodC; rw [if_neg (by omega), if_neg (by omega), if_pos k]; simp [s]
    · unfold goodC; rw [if_neg (by omega), if_neg (by omega), if_neg (by omega), if_pos k]; simp [a, b, d, s]
theorem goodL_moved {n m base : Nat} (hn : base + n ≤ m) : ∀ {L : List HC}, goodL n L = true → goodL m (L.map (moved base)) = true
  | [], _ => rfl
  | c :: r, h => by
    simp only [goodL, Bool.and_eq_true, List.map_cons, List.length_map] at h ⊢
    exact ⟨goodC_moved hn h.1, goodL_moved hn h.2⟩
theorem load_goodH {h : HH} {K : List HC} (hg : goodH h = true) (hk : goodCs K = true) (hl : h.cs.length + K.length ≤ 65536) : goodH ⟨h.cs ++ K.map (moved h.cs.length), h.tr⟩ = true := by
  simp only [goodH, goodCs, goodTr, Bool.and_eq_true, decide_eq_true_eq, List.length_append, List.length_map] at hg hk ⊢
  obtain ⟨⟨h1, h2⟩, h3, h4⟩ := hg
  refine ⟨⟨hl, goodL_app (goodL_moved (by omega) hk.2) (goodL_wide (by omega) h2)⟩, h3, ?_⟩
  rw [List.all_eq_true] at h4 ⊢
  intro a ha
  have := h4 a ha
  unfold goodTr1 at this ⊢
  cases hq : hat h.cs a with
  | none => rw [hq] at this; cases this
  | some x =>
    rw [hq] at this
    obtain ⟨q0, q1, q2⟩ := hatS.1 hq
    have : hat (h.cs ++ K.map (moved h.cs.length)) a = some x := hatS.2 ⟨q0, by simp; omega, by rw [List.getElem?_append_left (by omega)]; exact q2⟩
    rw [this]; assumption
theorem load_eq {h : HH} {K : List HC} (hg : goodH h = true) (hk : goodCs K = true) (hl : h.cs.length + K.length ≤ 65536) : loadH h K = (⟨h.cs ++ K.map (moved h.cs.length), h.tr⟩, h.cs.length, 0) := by
  unfold loadH; rw [hg, hk, if_neg (by decide), if_neg (by omega)]
/-- At each of these places of the heap X lies the term. -/
inductive ToldL (X : HH) (base : Nat) : Ts → List Int → Prop
  | nil : ToldL X base .nil []
  | cons {k n : Int} {s : ByteArray} {ar r : Ts} {x : Int} {P : List Int} : (∃ m, termH X (base + x) 24 = (Tm.upBy base ⟨k, n, s, ar⟩, m, 0)) → 0 ≤ x → x ≤ 100000 → ar.nodes + 1 ≤ 24 → ToldL X base r P → ToldL X base (.cons k n s ar r) (x :: P)
theorem told_one {X : HH} {base : Nat} {vars : Int} (hX : goodH X = true) (hv : ∀ v : Int, 0 ≤ v → v < vars → hat X.cs (v + base) = some ⟨0, v + base, eS⟩) {k n : Int} {s : ByteArray} {ar : Ts} {p : Nat} (h : gB vars k n s ar = true) (hpv : vars ≤ p) (hs : Sits X.cs base p (lay1 k n s ar p)) : ∃ m, termH X ((base : Int) + (p : Nat)) 24 = (Tm.upBy base ⟨k, n, s, ar⟩, m, 0) := by
  have hn := gB_nodes h
  have ha : isAddr X.cs ((base : Int) + (p : Nat)) = true := by
    obtain ⟨c, r, e⟩ : ∃ c r, lay1 k n s ar p = c :: r := by
      have := lay1_pos k n s ar p
      cases hh : lay1 k n s ar p with
      | nil => rw [hh] at this; simp at this
      | cons c r => exact ⟨c, r, rfl⟩
    rw [e] at hs
    obtain ⟨q0, q1, _⟩ := hatS.1 hs.head.1
    unfold isAddr
    simp only [Bool.and_eq_true, decide_eq_true_eq]
    constructor <;> omega
  have ht := lay1_told hv (f := 24) (l := 24) h hpv hn hn hs
  refine ⟨24 - (24 - (ar.nodes + 1)), ?_⟩
  unfold termH
  rw [if_neg (by rw [hX]; decide), if_neg (by rw [ha]; decide)]
  have e2 : mostN 24 = 24 := by decide
  rw [e2, show (base : Int) + (p : Nat) = ((base + p : Nat) : Int) by omega, ht]
theorem told_list {X : HH} {base : Nat} {vars : Int} (hX : goodH X = true) (hv : ∀ v : Int, 0 ≤ v → v < vars → hat X.cs (v + base) = some ⟨0, v + base, eS⟩) (T : Ts) : ∀ p : Nat, T.goals vars = true → vars ≤ p → p + (layL T p).1.length ≤ 100000 → Sits X.cs base p (layL T p).1 → ToldL X base T (layL T p).2 := by
  induction T with
  | nil => intro p _ _ _ _; exact .nil
  | cons k n s ar r _ ih =>
    intro p hg hpv hl hs
    simp only [Ts.goals, Bool.and_eq_true] at hg
    simp only [layL] at hs hl ⊢
    rw [List.length_append] at hl
    obtain ⟨h1, h2⟩ := hs.app
    exact .cons (told_one hX hv hg.1 hpv h1) (by omega) (by omega) (gB_nodes hg.1) (ih _ hg.2 (by omega) (by omega) h2)
theorem told_clause {h : HH} {c : Cl} (hg : goodH h = true) (hc : cB c = true) (hl : h.cs.length ≤ 1000) : ToldL ⟨h.cs ++ (blockC c).map (moved h.cs.length), h.tr⟩ h.cs.length (.cons c.k c.n c.s c.hd c.bd) (c.vars :: goalsC c) := by
  obtain ⟨h0, h1, h2, h3, h4⟩ := cB_iff hc
  have hbl := blockC_len hc
  have hX := load_goodH hg (blockC_good hc) (by omega)
  have hs := load_sits h (blockC c)
  have he : (blockC c).length = c.vars.toNat + ((lay1 c.k c.n c.s c.hd c.vars.toNat).length + (layL c.bd (c.vars.toNat + (lay1 c.k c.n c.s c.hd c.vars.toNat).length)).1.length) := by
    simp only [blockC, List.length_append, varsB_len]
  obtain ⟨s1, s2⟩ := Sits.app (X := varsB c.vars.toNat) hs
  obtain ⟨s3, s4⟩ := s2.app
  rw [varsB_len, Nat.zero_add] at s3 s4
  have hv : ∀ v : Int, 0 ≤ v → v < c.vars → hat (h.cs ++ (blockC c).map (moved h.cs.length)) (v + h.cs.length) = some ⟨0, v + h.cs.length, eS⟩ := by
    intro v v0 v1
    have := s1 v.toNat _ (varsB_get (by omega))
    rw [show ((h.cs.length + (0 + v.toNat) : Nat) : Int) = v + h.cs.length by omega] at this
    rw [this]
    unfold moved
    rw [if_pos rfl]
    dsimp only
    rw [show ((v.toNat : Nat) : Int) = v by omega]
  have t1 := told_one hX hv h4 (p := c.vars.toNat) (by omega) s3
  rw [show ((c.vars.toNat : Nat) : Int) = c.vars by omega] at t1
  exact .cons t1 h0 (by omega) (gB_nodes h4) (told_list hX hv c.bd _ h3 (by omega) (by omega) s4)
theorem up_tidy (base : Nat) (T : Ts) : (T.by_ (up base)).tidy = T.tidy := by
  have hv : ∀ T : Ts, T.vars fun _ => True := by
    intro T
    induction T with
    | nil => trivial
    | cons k n s ar r iha ihr => exact ⟨fun _ => trivial, iha, ihr⟩
  have := (Ts.tidyFrom_by (P := fun _ => True) (f := up base) (fun a b _ _ e => by unfold up at e; omega) T [] (fun _ hk => by cases hk) (hv T)).1
  have h2 := congrArg Prod.fst this
  exact h2
end Go.Proofs.Ytdflngjfnpbpmab
namespace Go.Proofs.Ytdflngjfnpbpmab
open Go.RowKit
set_option linter.unusedVariables false
set_option linter.unusedSimpArgs false

/-- The value v is a slice of the call's own, or one without room: of len elements of sz cells each: the cells xs; O: its block. -/
inductive Rw (el sz : Nat) : Value → Nat → List Value → List (Nat × Obj) → Prop
  | zero_ {A : Option Addr} : Rw el sz (.slice A 0 0) 0 [] []
  | own_ {b len cap : Nat} {xs sp : List Value} (hx : xs.length = len * sz) (hc : (xs ++ sp).length = cap * sz) (hle : len ≤ cap) (hcp : 0 < cap) : Rw el sz (.slice (some ⟨b, 0, none⟩) len cap) len xs [(b, .cells (xs ++ sp).toArray el)]
theorem Rw.len_ {el sz len : Nat} {v : Value} {xs : List Value} {O : List (Nat × Obj)} (h : Rw el sz v len xs O) : xs.length = len * sz := by
  cases h with
  | zero_ => simp
  | own_ hx _ _ _ => exact hx
theorem Rw.form {el sz len : Nat} {v : Value} {xs : List Value} {O : List (Nat × Obj)} (h : Rw el sz v len xs O) : ∃ A c, v = .slice A len c ∧ len ≤ c := by
  cases h with
  | zero_ => exact ⟨_, _, rfl, Nat.le_refl _⟩
  | own_ _ _ hle _ => exact ⟨_, _, rfl, hle⟩
theorem Rw.some_ {el sz len cap l2 : Nat} {A : Option Addr} {xs : List Value} {O : List (Nat × Obj)} (h : Rw el sz (.slice A l2 cap) len xs O) (hl : 0 < len) : ∃ g sp, A = some ⟨g, 0, none⟩ ∧ O = [(g, .cells (xs ++ sp).toArray el)] ∧ (xs ++ sp).length = cap * sz ∧ len ≤ cap ∧ l2 = len := by
  cases h with
  | zero_ => omega
  | own_ hx hc hle hcp => exact ⟨_, _, rfl, rfl, hc, hle, rfl⟩
/-- What is held lies there. -/
theorem Rw.flat {el sz len cap : Nat} {A : Option Addr} {xs : List Value} {O H : List (Nat × Obj)} {M : List Nat} {w0 w : World} {F : List (World → Prop)} (h : Rw el sz (.slice A len cap) len xs O) (hS : St M w0 (O ++ H) F w) : Flat sz xs A len cap w := by
  cases h with
  | zero_ => exact Flat.nil_ _ _ _
  | own_ hx hc hle hcp => exact Flat.own (hS.own (_, _) (.head _)) hx hle
theorem Flat.src {P : Program} {sz len cap : Nat} {xs : List Value} {A : Option Addr} {w : World} {t el : TypeId} (h : Flat sz xs A len cap w) (hT : isSliceP P t = some el) (h1 : xs.all (·.oneCell') = true) : Src P sz t (.slice A len cap) len xs w := by
  by_cases hl : 0 < len
  · obtain ⟨b, o, rfl, hs⟩ := h.2.2 hl
    exact Src.ofSlice w (sliceP hT) ⟨b, o, none⟩ _ _ _ h.1 (fun j u hj => by rw [addrPlus]; exact hs j u hj) (fun u hu => List.all_eq_true.1 h1 u hu)
  · have hl0 : len = 0 := by omega
    subst hl0
    obtain rfl : xs = [] := List.eq_nil_of_length_eq_zero (by rw [h.1]; simp)
    cases A with
    | none => exact Src.ofNil w (sliceP hT) _
    | some a => exact Src.ofSlice w (sliceP hT) a _ _ _ (by simp) (fun j u hj => by simp at hj) (fun u hu => by cases hu)
section
variable {P : Program} {n : Nat} {e : Env} {w : World} {Q : Exit → Act → World → Prop} {ops : Array Oper} {rest : List Oper} {ty : TypeId} {pos : String} {after : Array Edge} {d : Nat}
variable {M : List Nat} {w0 : World} {H H' : List (Nat × Obj)} {F : List (World → Prop)} {b : Nat} {x y : Operand} {v : Value} {t tx : TypeId} {dst : Option Nat}
theorem run_eql_slice {A : Option Addr} {l c el : Nat} {t2 : TypeId} (hx : ev n e x = .slice A l c) (hy : ev n e y = .slice none 0 0) (hT : isSliceP P t = some el) :
    (execOp (ev n e) ⟨dst, .binOp .eql t x y t2, ty, pos, after, none⟩).run P w = .ok (.value (.bool A.isNone)) w := by
  have h := Lib.run_eql_slice_nil w t el A l c 0 0 (sliceP hT)
  simp only [execOp, hx, hy, bind, pure]
  rw [Sem.run_bind', Sem.run_bind']
  rw [show (eqGuard .eql t x y (.slice A l c) (.slice none 0 0)).run P w = .ok () w from by cases A <;> simp [eqGuard, Sem.run, pure]]
  simp only [Result.andThen_ok]
  rw [h]; rfl
/-- s[:len(s):len(s)]. -/
theorem run_slice_clip {A : Option Addr} {len cap el sz : Nat} {i : Int} {j : Int} {z : Operand} (hx : ev n e x = .slice A len cap) (hy : ev n e y = .int .i64 i) (hz : ev n e z = .int .i64 j) (hT : isSliceP P t = some el) (hs : cellsP P el = some sz) (hi : i = (len : Nat)) (hj : j = (len : Nat)) (hl : len ≤ cap) :
    (execOp (ev n e) ⟨dst, .slice t x none (some y) (some z), ty, pos, after, none⟩).run P w = .ok (.value (.slice A len len)) w := by
  subst hi hj
  have h2 := run_underlying (sliceP hT) w
  have h3 := run_sizeP (w := w) hs
  simp only [execOp, Instr.sliceAt, Instr.slice, hx, hy, hz, Option.map_some, Option.map_none, bind, pure, Sem.bind]
  rw [Sem.run_bind', Sem.run_bind', h2]
  simp only [Result.andThen_ok]
  rw [Sem.run_bind', h2]
  simp only [Result.andThen_ok, Instr.sliceBounds, Option.isSome_some, if_true, bind, pure, Sem.bind]
  rw [Sem.run_bind', Sem.run_bind', run_bound rfl (by omega) (by omega)]
  simp only [Result.andThen_ok]
  rw [Sem.run_bind', run_bound rfl (by omega) (by omega)]
  simp only [Result.andThen_ok]
  rw [show ∀ (l : Nat), Sem.run P (Sem.pure (0, l, l)) w = .ok (0, l, l) w from fun _ => rfl]
  simp only [Result.andThen_ok]
  rw [Sem.run_bind', h3]
  simp [Sem.run, Addr.add]
/-- append(s[:cap(s)], make(n)...) of a slice without room. -/
theorem lst_appendMake {el sz bts k : Nat} {A : Option Addr} {ki : IntKind} (hS : St M w0 H F w) (hx : ev n e x = .slice A 0 0) (hy : ev n e y = .int .i64 (k : Nat)) (hT : isSliceP P t = some el) (hTx : P.underlying tx = some (.int ki)) (hi : rowP P el = some (sz, bts)) (hsz : 0 < sz) (hk : 0 < k)
    (hfit : 2 * k * bts ≤ 281474976710656) (hbig : k ≤ 4611686018427387904) (hd : Nat.blt d n = true)
    (h : ∀ (b cap : Nat) (zs : List Value) w', k ≤ cap → zs.length = cap * sz → St M w0 ((b, .cells zs.toArray el) :: H) F w' → Lst P Q ops rest n ((d, .slice (some ⟨b, 0, none⟩) k cap) :: e) w') :
    Lst P Q ops (⟨some d, .call ⟨.builtin .append, #[x, y], #[t, tx]⟩, ty, pos, after, none⟩ :: rest) n e w := by
  obtain ⟨i, z, h2, h3, h4, rfl, rfl⟩ := rowP_some hi
  have hn := Go.Room.nextslicecap_le' (show 0 < 0 + k by omega)
  have hcapn : 0 + k ≤ grownCap w (0 + k) 0 el := by unfold grownCap Question.cut; exact Nat.le_add_right _ _
  have h48 : ¬ (281474976710656 < Builtin.nextslicecap k 0 * i.bytes) := by
    have := Nat.le_trans (Nat.mul_le_mul_right i.bytes hn) (by rw [Nat.zero_add]; exact hfit)
    rw [Nat.zero_add] at this; omega
  have h49 : ¬ ((281474976710656 : Int) < (k : Int) * (i.bytes : Int)) := by
    have : k * i.bytes ≤ 2 * k * i.bytes := Nat.mul_le_mul_right _ (by omega)
    have h5 : ((k * i.bytes : Nat) : Int) ≤ 281474976710656 := by omega
    rw [Int.natCast_mul] at h5; omega
  have hw : IntKind.i64.wrap (k : Int) = k := wrap_of (by omega) (by omega)
  have h63 : ¬ (9223372036854775807 < (k : Int)) := by omega
  have hk0 : ¬ k = 0 := by omega
  have hr : ∃ zs : List Value, zs.length = grownCap w (0 + k) 0 el * i.size ∧ (Builtin.append_ #[t, tx] ty #[.slice A 0 0, .int .i64 (k : Nat)]).run P w = .ok (.slice (some ⟨w.heap.size, 0, none⟩) k (grownCap w (0 + k) 0 el)) (w.drew.alloc (.cells zs.toArray el)) := by
    have hf : ∀ w, (Builtin.firstCells i.size 0 (.slice A 0 0)).run P w = .ok #[] w := fun w => by cases A <;> simp [Builtin.firstCells, Sem.run, pure, loadCells, loadCellsFrom]
    have hz0 : ¬ ((k : Int) < 0) := by omega
    have hz1 : ¬ (k ≤ 0) := by omega
    rw [Nat.zero_add] at hcapn ⊢
    have hai : ∀ w, (asInt (.int .i64 (k : Nat))).run P w = .ok (k : Int) w := fun w => rfl
    have hs1 : ¬ i.size = 0 := by omega
    refine ⟨(Builtin.zeroCells z.cells k ++ Builtin.zeroCells z.cells (grownCap w k 0 el - k)).toList, ?_, ?_⟩
    · simp only [Array.length_toList, Array.size_append, Builtin.zeroCells, Array.size_map, Array.size_range, h4]
      rw [← Nat.add_mul]; congr 1; omega
    · simp [Builtin.append_, run_underlying (sliceP hT), run_underlying hTx, sizeOf, typeInfo, zeroValue, h2, h3, hw, hai, hz0, h49, hz1, h63, h48, Question.forced, hf, newRow, grownCap, hk0, hs1]
      rw [if_neg (by intro h0; rcases Nat.mul_eq_zero.1 h0 with h | h <;> omega)]
      congr 3
      apply Array.ext'
      simp
  obtain ⟨zs, hzs, hr⟩ := hr
  refine lst_run (v := .slice (some ⟨w.heap.size, 0, none⟩) k (grownCap w (0 + k) 0 el)) (w' := w.drew.alloc (.cells zs.toArray el)) ?_ hd (h _ _ zs _ (by omega) hzs (hS.drew.alloc _))
  simp only [execOp, resolve, List.map_toArray, List.map_cons, List.map_nil, hx, hy, bind, pure, Sem.bind, invoke, builtin]
  rw [Sem.run_bind', hr]
  rfl
/-- append(s, x...), where x yields the cells ys. -/
theorem lst_appendRw {el len k : Nat} {q : Value} {ys xs : List Value} {O : List (Nat × Obj)} {i : TypeInfo} {z : Value} (hS : St M w0 H F w) (hx : ev n e x = v) (hy : ev n e y = q)
    (hT : isSliceP P t = some el) (hTx : isSliceP P tx = some el) (hi : P.info? el = some i) (hz : i.zero = some z) (hzs : z.cells.size = i.size) (hys : ys.length = k * i.size) (hsrc : Src P i.size tx q k ys w) (hrow : Rw el i.size v len xs O) (hP : H.Perm (O ++ H')) (hfit : 2 * (len + k) * i.bytes ≤ 281474976710656) (hbig : len + k ≤ 4611686018427387904) (hd : Nat.blt d n = true)
    (h : ∀ v' O' w', Rw el i.size v' (len + k) (xs ++ ys) O' → St M w0 (O' ++ H') F w' → Lst P Q ops rest n ((d, v') :: e) w') :
    Lst P Q ops (⟨some d, .call ⟨.builtin .append, #[x, y], #[t, tx]⟩, ty, pos, after, none⟩ :: rest) n e w := by
  have hS := hS.perm hP
  have hlen := hrow.len_
  have hop : ∀ r w2, (Builtin.append_ #[t, tx] ty #[v, q]).run P w = .ok r w2 → (execOp (ev n e) ⟨some d, .call ⟨.builtin .append, #[x, y], #[t, tx]⟩, ty, pos, after, none⟩).run P w = .ok (.value r) w2 := by
    intro r w2 hr
    simp only [execOp, resolve, List.map_toArray, List.map_cons, List.map_nil, hx, hy, bind, pure, Sem.bind, invoke, builtin]
    rw [Sem.run_bind', hr]
    rfl
  have grow : ∀ (A : Option Addr) (cap : Nat), v = .slice A len cap → cap < len + k → (Builtin.firstCells i.size len (.slice A len cap)).run P w.drew = .ok xs.toArray w.drew → Lst P Q ops (⟨some d, .call ⟨.builtin .append, #[x, y], #[t, tx]⟩, ty, pos, after, none⟩ :: rest) n e w := by
    intro A cap hv hcap hold
    have hn := Go.Room.nextslicecap_le' hcap
    have hr := run_append_grow_src (P := P) w t tx ty el i z (sliceP hT) hi hz A len cap xs hold (q) k ys hsrc hcap (by omega) (Nat.le_trans (Nat.mul_le_mul_right _ hn) hfit)
    rw [← hv] at hr
    refine lst_run (hop _ _ hr) hd ?_
    have hcapn : len + k ≤ grownCap w (len + k) cap el := by unfold grownCap Question.cut; exact Nat.le_add_right _ _
    generalize grownCap w (len + k) cap el = nc at hcapn
    have hzc : (Builtin.zeroCells z.cells (nc - (len + k))) = (Builtin.zeroCells z.cells (nc - (len + k))).toList.toArray := by simp
    have hzl : (Builtin.zeroCells z.cells (nc - (len + k))).toList.length = (nc - (len + k)) * i.size := by simp [Builtin.zeroCells, hzs]
    generalize (Builtin.zeroCells z.cells (nc - (len + k))).toList = zl at hzc hzl
    rw [hzc]
    have hS2 := (hS.drew.alloc (.cells ((xs ++ ys) ++ zl).toArray el))
    rw [show (xs ++ ys).toArray ++ zl.toArray = ((xs ++ ys) ++ zl).toArray by simp]
    refine h _ [(w.heap.size, .cells ((xs ++ ys) ++ zl).toArray el)] _ (Rw.own_ ?_ ?_ hcapn (by omega)) ?_
    · rw [List.length_append, hlen, hys, Nat.add_mul]
    · rw [List.length_append, List.length_append, hlen, hys, hzl, ← Nat.add_mul, ← Nat.add_mul]; congr 1; omega
    · have h5 : St M w0 ((w.heap.size, .cells ((xs ++ ys) ++ zl).toArray el) :: (O ++ H')) F _ := hS2
      exact St.dropL (L := O) h5.sink
  cases hrow with
  | zero_ =>
    rename_i A0
    by_cases hk0 : k = 0
    · subst hk0
      have hye : ys = [] := List.eq_nil_of_length_eq_zero (by simpa using hys)
      subst hye
      have hr : (Builtin.append_ #[t, tx] ty #[.slice A0 0 0, q]).run P w = .ok (.slice A0 0 0) w := by
        have hu := run_underlying (sliceP hT) w
        have hu2 := run_underlying (sliceP hTx) w
        have hs1 := hsrc.len
        have hs2 := hsrc.cells
        have hs0 : (Builtin.lenOf (.slice A0 0 0)).run P w = .ok 0 w := rfl
        cases A0 <;> simp [Builtin.append_, hu, hu2, sizeOf, typeInfo, hi, hs0, hs1, hs2, storeCells]
      refine lst_run (hop _ _ hr) hd (h _ [] _ Rw.zero_ hS)
    · exact grow A0 0 rfl (by omega) (by cases A0 <;> simp [Builtin.firstCells, Sem.run, pure, loadCells, loadCellsFrom])
  | own_ hx2 hc2 hle hcp =>
    rename_i bl cap sp
    have hbl : w.heap[bl]? = some (.cells (xs ++ sp).toArray el) := hS.own (bl, _) (by simp)
    by_cases hroom : len + k ≤ cap
    · have hcc : (xs ++ sp).length = cap * i.size := hc2
      have hfitc : len * i.size + ys.length ≤ (xs ++ sp).length := by rw [hcc, hys, ← Nat.add_mul]; exact Nat.mul_le_mul_right _ hroom
      have hr := run_append_room_src (P := P) w t tx ty el i (sliceP hT) hi bl 0 len cap (q) k ys hsrc hroom
        (fun j hj => by rw [cell_own hbl, Nat.zero_add]; simp only [Option.isSome_iff_exists]; exact ⟨_, List.getElem?_eq_getElem (by omega)⟩) (fun j hj => by simp [World.frozen?, hbl])
      obtain ⟨hs1, hs2⟩ := setCells_row ys (0 + len * i.size) (xs ++ sp) w hbl (by omega)
      refine lst_run (hop _ _ hr) hd ?_
      have hu : Upd ([(bl, Obj.cells (xs ++ sp).toArray el)] ++ H') bl (.cells (xs ++ sp).toArray el) (.cells ((xs ++ sp).take (0 + len * i.size) ++ ys ++ (xs ++ sp).drop (0 + len * i.size + ys.length)).toArray el)
          ((bl, .cells ((xs ++ sp).take (0 + len * i.size) ++ ys ++ (xs ++ sp).drop (0 + len * i.size + ys.length)).toArray el) :: H') := .head
      have h3 := hS.turn hu hs2 hs1
      have e1 : (xs ++ sp).take (0 + len * i.size) = xs := by rw [Nat.zero_add, ← hx2]; simp
      have e2 : (xs ++ sp).drop (0 + len * i.size + ys.length) = sp.drop ys.length := by
        rw [Nat.zero_add, ← hx2]; simp [List.drop_append]
      rw [e1, e2] at h3
      refine h _ _ _ (Rw.own_ (b := bl) (sp := sp.drop ys.length) ?_ ?_ hroom hcp) h3
      · rw [List.length_append, hx2, hys, Nat.add_mul]
      · simp only [List.length_append, List.length_drop] at hcc hfitc ⊢
        omega
    · refine grow _ cap rfl (by omega) ?_
      have := run_firstCells_some (P := P) w.drew i.size len ⟨bl, 0, none⟩ len cap xs hx2 (fun j u hj => ?_)
      · exact this
      · have hjl : j < xs.length := by
          rcases Nat.lt_or_ge j xs.length with hl | hl
          · exact hl
          · rw [List.getElem?_eq_none hl] at hj; cases hj
        rw [addrPlus, cell_own (w := w.drew) hbl, Nat.zero_add, List.getElem?_append_left hjl]; exact hj
/-- An empty slice that is written out. -/
theorem lst_buildSlice0 {el sz : Nat} (hS : St M w0 H F w) (hT : isSliceP P t = some el) (hs : cellsP P el = some sz) (hd : Nat.blt d n = true)
    (hk : ∀ b w', St M w0 ((b, .cells [].toArray el) :: H) F w' → Lst P Q ops rest n ((d, .slice (some ⟨b, 0, none⟩) 0 0) :: e) w') :
    Lst P Q ops (⟨some d, .buildSlice t 0 #[], ty, pos, after, none⟩ :: rest) n e w := by
  refine lst_run (v := .slice (some ⟨w.heap.size, 0, none⟩) 0 0) (w' := w.alloc (.cells [].toArray el)) ?_ hd (hk _ _ (hS.alloc _))
  have h1 := run_underlying (sliceP hT) w
  have h2 := run_sizeP (w := w) hs
  simp only [execOp, Instr.buildSlice, bind, pure, Array.map_empty]
  rw [Sem.run_bind', Sem.run_bind', h1]
  simp only [Result.andThen_ok]
  rw [Sem.run_bind', h2]
  have hr0 : ∀ g : Nat → Value, Array.map g (Array.range 0) = #[] := fun g => by simp
  simp only [Result.andThen_ok, Nat.zero_mul, if_neg (show ¬ (0 : Nat) > 2 ^ 24 by omega), if_true, hr0]
  rfl
theorem yielded_undef {j : Nat} (h : yd ops n e j = some undef) : yielded ops (arr n e) j = none := by
  unfold yd at h
  unfold yielded
  cases ho : ops[j]? with
  | none => rfl
  | some o =>
    rw [ho] at h
    simp only [Option.bind_some] at h ⊢
    cases hd : o.dst with
    | none => rfl
    | some t =>
      rw [hd] at h
      simp only [Option.bind_some] at h ⊢
      by_cases ht : t < n
      · have h' : Nat.blt t n = true := by simpa [Nat.blt_eq] using ht
        rw [h', cond_true] at h
        have hl : (arr n e)[t]? = some (lk e t) := by simp [arr, ht]
        rw [hl, Option.some.inj h]
        rfl
      · have h' : Nat.blt t n = false := blt_no ht
        rw [h', cond_false] at h; cases h
/-- A guard that hangs on what was passed over. -/
theorem lst_passU {op : Op} {j : Nat} {g : Bool} (hy : yd ops n e j = some undef) (hd : Nat.blt d n = true)
    (h : Lst P Q ops rest n ((d, undef) :: e) w) : Lst P Q ops (⟨some d, op, ty, pos, after, some (j, g)⟩ :: rest) n e w := by
  unfold Lst at h ⊢
  unfold wpList
  rw [if_neg (by simp [Region.wanted, act, yielded_undef hy]), act_put hd]
  exact h
theorem run_cap_slice {el : TypeId} {A : Option Addr} {l c : Nat} {ts : Array TypeId} (hx : ev n e x = .slice A l c) (ht : ts[0]? = some t) (hT : isSliceP P t = some el) :
    (execOp (ev n e) ⟨dst, .call ⟨.builtin .cap, #[x], ts⟩, ty, pos, after, none⟩).run P w = .ok (.value (.int .i64 c)) w := by
  have h1 := run_underlying (sliceP hT) w
  simp only [execOp, resolve, List.map_toArray, List.map_cons, List.map_nil, hx, bind, pure, Sem.bind, invoke, builtin, Builtin.cap_, ht, List.getElem?_toArray, List.getElem?_cons_zero]
  first
    | rfl
    | (rw [Sem.run_bind', Sem.run_bind', h1]; rfl)
end
/-- A result of two parts, of which the first lies in a block of the call's own. -/
theorem goes_retC2 {P : Program} {n : Nat} {e : Env} {w : World} {M : List Nat} {w0 : World} {H : List (Nat × Obj)} {F : List (World → Prop)} {b : Nat} {t : TypeId} {f : FuncId} {R : Ending → World → Prop} {k : List Item} {fn : Func} {a u sz : Nat} {o : Nat} {cs vs : List Value} {ct : TypeId} {v2 : Value} (hS : St M w0 H F w) (hf : P.funcs[f]? = some fn) (hr : fn.results = #[.cell a t, .tmp u]) (hv : ev n e (.tmp a) = .pointer (some ⟨b, o, none⟩))
    (h2 : ev n e (.tmp u) = v2) (hA : aggOf P t = some true) (hs : cellsP P t = some sz) (hb : At H b (.cells cs.toArray ct)) (hc : Cut cs o sz vs) (hR : R (.returned (.tuple #[.agg vs.toArray, v2])) w) : Goes P f R (.code .ret :: k) (act n e) w := by
  unfold Goes
  intro fr cs' hb' hk
  refine ⟨.returned (.tuple #[.agg vs.toArray, v2]), w, { fr.at (act n e) (.code .ret :: k) with mode := .returning }, hR, Steps.one step_ret, hb', rfl, rfl, hk, fn, ?_, ?_⟩
  · show P.funcs[fr.fn]? = some fn
    rw [hb']; exact hf
  · show (results fn (arr n e)).run P w = _
    have h1 := run_isAgg (w := w) hA
    have h4 := run_sizeP (w := w) hs
    have h5 := run_loadCells_list (P := P) (w := w) ⟨b, o, none⟩ vs (fun j v hj => by
      rw [addrPlus, cell_own (hS.at_ hb)]
      have hjk : j < sz := by
        rcases Nat.lt_or_ge j sz with h | h
        · exact h
        · rw [List.getElem?_eq_none (by rw [hc.length]; exact h)] at hj; cases hj
      rw [hc.get j hjk]; exact hj)
    rw [hc.length] at h5
    have hv' : (arr n e).getD a undef = .pointer (some ⟨b, o, none⟩) := by rw [arr_getD]; exact hv
    have hu' : (arr n e).getD u undef = v2 := by rw [arr_getD]; exact h2
    simp only [Array.getD_eq_getD_getElem?] at hv' hu'
    simp only [results, hr]
    simp [hv', hu', asAddr, loadVar, h1, h4, h5]
/-- A result of five parts, of which the first lies in a block of the call's own. -/
theorem goes_retC5 {P : Program} {n : Nat} {e : Env} {w : World} {M : List Nat} {w0 : World} {H : List (Nat × Obj)} {F : List (World → Prop)} {b : Nat} {t : TypeId} {f : FuncId} {R : Ending → World → Prop} {k : List Item} {fn : Func} {a u x y z sz : Nat} {o : Nat} {cs vs : List Value} {ct : TypeId} {v2 v3 v4 v5 : Value} (hS : St M w0 H F w) (hf : P.funcs[f]? = some fn) (hr : fn.results = #[.cell a t, .tmp u, .tmp x, .tmp y, .tmp z]) (hv : ev n e (.tmp a) = .pointer (some ⟨b, o, none⟩))
    (h2 : ev n e (.tmp u) = v2) (h3 : ev n e (.tmp x) = v3) (hy4 : ev n e (.tmp y) = v4) (hz5 : ev n e (.tmp z) = v5) (hA : aggOf P t = some true) (hs : cellsP P t = some sz) (hb : At H b (.cells cs.toArray ct)) (hc : Cut cs o sz vs) (hR : R (.returned (.tuple #[.agg vs.toArray, v2, v3, v4, v5])) w) : Goes P f R (.code .ret :: k) (act n e) w := by
  unfold Goes
  intro fr cs' hb' hk
  refine ⟨.returned (.tuple #[.agg vs.toArray, v2, v3, v4, v5]), w, { fr.at (act n e) (.code .ret :: k) with mode := .returning }, hR, Steps.one step_ret, hb', rfl, rfl, hk, fn, ?_, ?_⟩
  · show P.funcs[fr.fn]? = some fn
    rw [hb']; exact hf
  · show (results fn (arr n e)).run P w = _
    have h1 := run_isAgg (w := w) hA
    have h4 := run_sizeP (w := w) hs
    have h5 := run_loadCells_list (P := P) (w := w) ⟨b, o, none⟩ vs (fun j v hj => by
      rw [addrPlus, cell_own (hS.at_ hb)]
      have hjk : j < sz := by
        rcases Nat.lt_or_ge j sz with h | h
        · exact h
        · rw [List.getElem?_eq_none (by rw [hc.length]; exact h)] at hj; cases hj
      rw [hc.get j hjk]; exact hj)
    rw [hc.length] at h5
    have hv' : (arr n e).getD a undef = .pointer (some ⟨b, o, none⟩) := by rw [arr_getD]; exact hv
    have hu' : (arr n e).getD u undef = v2 := by rw [arr_getD]; exact h2
    have hx' : (arr n e).getD x undef = v3 := by rw [arr_getD]; exact h3
    have hy' : (arr n e).getD y undef = v4 := by rw [arr_getD]; exact hy4
    have hz' : (arr n e).getD z undef = v5 := by rw [arr_getD]; exact hz5
    simp only [Array.getD_eq_getD_getElem?] at hv' hu' hx' hy' hz'
    simp only [results, hr]
    simp [hv', hu', hx', hy', hz', asAddr, loadVar, h1, h4, h5]
/-- A row that nobody writes again. -/
theorem St.freezeR {M : List Nat} {w0 w : World} {H O : List (Nat × Obj)} {F : List (World → Prop)} {el sz len cap : Nat} {A : Option Addr} {xs : List Value} (hr : Rw el sz (.slice A len cap) len xs O) (hS : St M w0 (O ++ H) F w) : St M w0 H (Flat sz xs A len cap :: F) w := by
  cases hr with
  | zero_ => exact hS.learn fun w' _ => Flat.nil_ _ _ _
  | own_ hx hc hle hcp =>
    rename_i b sp
    have hS' : St M w0 ((b, Obj.cells (xs ++ sp).toArray el) :: H) F w := hS
    have ho := hS'.own (b, _) (.head _)
    refine hS'.drop.learn fun w' hw => Flat.own (sp := sp) (el := el) ?_ hx hle
    rw [hw.block b (own_lt ho) fun hm => ?_]
    · exact ho
    · obtain ⟨p, hp, e⟩ := List.mem_map.1 hm
      exact (List.pairwise_cons.1 hS'.apart).1 p hp e.symm
end Go.Proofs.Ytdflngjfnpbpmab
namespace Go.Proofs.Ytdflngjfnpbpmab
open Go.RowKit
set_option linter.unusedVariables false
set_option linter.unusedSimpArgs false

section
variable {P : Program} {n : Nat} {e : Env} {w : World} {Q : Exit → Act → World → Prop} {ops : Array Oper} {rest : List Oper} {ty : TypeId} {pos : String} {after : Array Edge} {d : Nat}
variable {M : List Nat} {w0 : World} {H : List (Nat × Obj)} {F : List (World → Prop)} {x y : Operand} {t : TypeId}
theorem lst_make {el sz bts k : Nat} (hS : St M w0 H F w) (hx : ev n e x = .int .i64 (k : Nat)) (hy : ev n e y = .int .i64 (k : Nat)) (hT : isSliceP P t = some el) (hi : rowP P el = some (sz, bts)) (hb : bts * k ≤ 281474976710656) (hk : k ≤ 4611686018427387904) (hd : Nat.blt d n = true)
    (h : ∀ (b : Nat) (w' : World) (cs : List Value), cs.length = k * sz → St M w0 ((b, .cells cs.toArray el) :: H) F w' → Lst P Q ops rest n ((d, .slice (some ⟨b, 0, none⟩) k k) :: e) w') :
    Lst P Q ops (⟨some d, .makeSlice t x y, ty, pos, after, none⟩ :: rest) n e w := by
  obtain ⟨i, z, h2, h3, h4, rfl, rfl⟩ := rowP_some hi
  have hb2 : (i.bytes : Int) * (k : Int) ≤ 281474976710656 := by rw [← Int.natCast_mul]; omega
  have hr := run_make (P := P) w t el i z (sliceP hT) h2 h3 .i64 .i64 (k : Int) (k : Int) (by omega) (by omega) hb2 (by omega)
  refine lst_run (v := .slice (some ⟨w.heap.size, 0, none⟩) k k) (w' := w.alloc (.cells (madeCells z.cells (k * i.size)) el)) ?_ hd ?_
  · simp only [execOp, hx, hy, bind, pure]
    rw [Sem.run_bind', hr]
    rfl
  · have e1 : madeCells z.cells (k * i.size) = (madeCells z.cells (k * i.size)).toList.toArray := by simp
    rw [e1]
    exact h _ _ _ (by rw [Array.length_toList, size_madeCells]) (hS.alloc _)
theorem made_one (v : Value) (k : Nat) : madeCells #[v] (k * 1) = (List.replicate k v).toArray := by
  apply Array.ext'
  simp only [madeCells, Array.toList_map, Array.toList_range, Nat.mul_one]
  refine List.ext_getElem? fun i => ?_
  rw [List.getElem?_map, List.getElem?_replicate]
  by_cases hi : i < k
  · rw [List.getElem?_range hi, if_pos hi]
    simp [Nat.mod_one]
  · rw [List.getElem?_eq_none (by simpa using hi), if_neg hi]; rfl
/-- make of k elements of one cell, all zero. -/
theorem lst_makeZ {el bts k : Nat} {z : Value} (hS : St M w0 H F w) (hx : ev n e x = .int .i64 (k : Nat)) (hy : ev n e y = .int .i64 (k : Nat)) (hT : isSliceP P t = some el) (hi : rowP P el = some (1, bts)) (hz : zeroP P el = some z) (hz1 : z.cells = #[z]) (hb : bts * k ≤ 281474976710656) (hk : k ≤ 4611686018427387904) (hd : Nat.blt d n = true)
    (h : ∀ (b : Nat) (w' : World), St M w0 ((b, .cells (List.replicate k z).toArray el) :: H) F w' → Lst P Q ops rest n ((d, .slice (some ⟨b, 0, none⟩) k k) :: e) w') :
    Lst P Q ops (⟨some d, .makeSlice t x y, ty, pos, after, none⟩ :: rest) n e w := by
  obtain ⟨i, z', h2, h3, h4, h5, rfl⟩ := rowP_some hi
  obtain rfl : z' = z := by unfold zeroP at hz; rw [h2] at hz; simp only [Option.bind_some] at hz; rw [h3] at hz; exact Option.some.inj hz
  have hb2 : (i.bytes : Int) * (k : Int) ≤ 281474976710656 := by rw [← Int.natCast_mul]; omega
  have hr := run_make (P := P) w t el i z' (sliceP hT) h2 h3 .i64 .i64 (k : Int) (k : Int) (by omega) (by omega) hb2 (by omega)
  refine lst_run (v := .slice (some ⟨w.heap.size, 0, none⟩) k k) (w' := w.alloc (.cells (madeCells z'.cells (k * i.size)) el)) ?_ hd ?_
  · simp only [execOp, hx, hy, bind, pure]
    rw [Sem.run_bind', hr]
    rfl
  · rw [h5, hz1, made_one]
    exact h _ _ (hS.alloc _)
end
end Go.Proofs.Ytdflngjfnpbpmab
namespace Go.Proofs.Ytdflngjfnpbpmab
open Go.RowKit
set_option linter.unusedVariables false
set_option linter.unusedSimpArgs false

section
variable {P : Program} {n : Nat} {e : Env} {w : World} {Q : Exit → Act → World → Prop} {ops : Array Oper} {rest : List Oper} {ty : TypeId} {pos : String} {after : Array Edge} {d : Nat}
variable {M : List Nat} {w0 : World} {H H' : List (Nat × Obj)} {F : List (World → Prop)} {x y : Operand} {v : Value} {t tx : TypeId}
/-- append(s, make(k)...) of a slice of the call's own. -/
theorem lst_appZ {el len k : Nat} {xs zs : List Value} {O : List (Nat × Obj)} {i : TypeInfo} {z : Value} {ki : IntKind} (hS : St M w0 H F w) (hx : ev n e x = v) (hy : ev n e y = .int .i64 (k : Nat)) (hT : isSliceP P t = some el) (hTx : P.underlying tx = some (.int ki)) (hi : P.info? el = some i) (hz : i.zero = some z) (hzs : z.cells.size = i.size) (hsz : 0 < i.size)
    (hzl : (Builtin.zeroCells z.cells k).toList = zs) (h1 : ∀ u ∈ zs, u.oneCell' = true) (hrow : Rw el i.size v len xs O) (hl : 0 < len) (hk : 0 < k) (hP : H.Perm (O ++ H')) (hfit : 2 * (len + k) * i.bytes ≤ 281474976710656) (hbig : len + k ≤ 4611686018427387904) (hd : Nat.blt d n = true)
    (h : ∀ v' O' w', Rw el i.size v' (len + k) (xs ++ zs) O' → St M w0 (O' ++ H') F w' → Lst P Q ops rest n ((d, v') :: e) w') :
    Lst P Q ops (⟨some d, .call ⟨.builtin .append, #[x, y], #[t, tx]⟩, ty, pos, after, none⟩ :: rest) n e w := by
  have hS := hS.perm hP
  have hys : zs.length = k * i.size := by rw [← hzl]; simp [Builtin.zeroCells, hzs]
  have hza : Builtin.zeroCells z.cells k = zs.toArray := by rw [← hzl]
  have hop : ∀ r w2, (Builtin.append_ #[t, tx] ty #[v, .int .i64 (k : Nat)]).run P w = .ok r w2 → (execOp (ev n e) ⟨some d, .call ⟨.builtin .append, #[x, y], #[t, tx]⟩, ty, pos, after, none⟩).run P w = .ok (.value r) w2 := by
    intro r w2 hr
    simp only [execOp, resolve, List.map_toArray, List.map_cons, List.map_nil, hx, hy, bind, pure, Sem.bind, invoke, builtin]
    rw [Sem.run_bind', hr]
    rfl
  have hw : IntKind.i64.wrap (k : Int) = k := wrap_of (by omega) (by omega)
  have hai : ∀ w, (asInt (.int .i64 (k : Nat))).run P w = .ok (k : Int) w := fun w => rfl
  have hz0 : ¬ ((k : Int) < 0) := by omega
  have h49 : ¬ ((281474976710656 : Int) < (k : Int) * (i.bytes : Int)) := by
    have : k * i.bytes ≤ 2 * (len + k) * i.bytes := Nat.mul_le_mul_right _ (by omega)
    have h5 : ((k * i.bytes : Nat) : Int) ≤ 281474976710656 := by omega
    rw [Int.natCast_mul] at h5; omega
  have hs1 : ¬ i.size = 0 := by omega
  have hk0 : ¬ k = 0 := by omega
  have hks : ¬ k * i.size = 0 := fun h0 => by rcases Nat.mul_eq_zero.1 h0 with h | h <;> omega
  cases hrow with
  | zero_ => omega
  | own_ hx2 hc2 hle hcp =>
    rename_i bl cap sp
    have hbl : w.heap[bl]? = some (.cells (xs ++ sp).toArray el) := hS.own (bl, _) (by simp)
    by_cases hroom : len + k ≤ cap
    · have hcc : (xs ++ sp).length = cap * i.size := hc2
      have hfitc : len * i.size + zs.length ≤ (xs ++ sp).length := by rw [hcc, hys, ← Nat.add_mul]; exact Nat.mul_le_mul_right _ hroom
      have hst := run_storeCells_cells (P := P) bl (0 + len * i.size) zs 0 w
        (fun j hj => by rw [cell_own hbl, Nat.zero_add]; simp only [Option.isSome_iff_exists]; exact ⟨_, List.getElem?_eq_getElem (by omega)⟩) (fun j hj => by simp [World.frozen?, hbl]) h1
      simp only [Nat.add_zero] at hst
      have hr : (Builtin.append_ #[t, tx] ty #[.slice (some ⟨bl, 0, none⟩) len cap, .int .i64 (k : Nat)]).run P w = .ok (.slice (some ⟨bl, 0, none⟩) (len + k) cap) (w.setCells bl (0 + len * i.size) zs) := by
        simp [Builtin.append_, run_underlying (sliceP hT), run_underlying hTx, sizeOf, typeInfo, zeroValue, hi, hz, hw, hai, hz0, h49, hroom, hza, hk0, hs1, Addr.add_lit]
        rw [if_neg hks]
        rw [Nat.zero_add] at hst
        rw [hst]; rfl
      obtain ⟨hs1, hs2⟩ := setCells_row zs (0 + len * i.size) (xs ++ sp) w hbl (by omega)
      refine lst_run (hop _ _ hr) hd ?_
      have hu : Upd ([(bl, Obj.cells (xs ++ sp).toArray el)] ++ H') bl (.cells (xs ++ sp).toArray el) (.cells ((xs ++ sp).take (0 + len * i.size) ++ zs ++ (xs ++ sp).drop (0 + len * i.size + zs.length)).toArray el)
          ((bl, .cells ((xs ++ sp).take (0 + len * i.size) ++ zs ++ (xs ++ sp).drop (0 + len * i.size + zs.length)).toArray el) :: H') := .head
      have h3 := hS.turn hu hs2 hs1
      have e1 : (xs ++ sp).take (0 + len * i.size) = xs := by rw [Nat.zero_add, ← hx2]; simp
      have e2 : (xs ++ sp).drop (0 + len * i.size + zs.length) = sp.drop zs.length := by
        rw [Nat.zero_add, ← hx2]; simp [List.drop_append]
      rw [e1, e2] at h3
      refine h _ _ _ (Rw.own_ (b := bl) (sp := sp.drop zs.length) ?_ ?_ hroom hcp) h3
      · rw [List.length_append, hx2, hys, Nat.add_mul]
      · simp only [List.length_append, List.length_drop] at hcc hfitc ⊢
        omega
    · have hn := Go.Room.nextslicecap_le' (show cap < len + k by omega)
      have h48 : ¬ (281474976710656 < Builtin.nextslicecap (len + k) cap * i.bytes) := by
        have := Nat.le_trans (Nat.mul_le_mul_right i.bytes hn) hfit
        omega
      have h63 : ¬ (9223372036854775807 < ((len : Int) + (k : Int))) := by omega
      have hf := run_firstCells_some (P := P) w.drew i.size len ⟨bl, 0, none⟩ len cap xs hx2 (fun j u hj => by
        have hjl : j < xs.length := by
          rcases Nat.lt_or_ge j xs.length with hl | hl
          · exact hl
          · rw [List.getElem?_eq_none hl] at hj; cases hj
        rw [addrPlus, cell_own (w := w.drew) hbl, Nat.zero_add, List.getElem?_append_left hjl]; exact hj)
      have hcapn : len + k ≤ grownCap w (len + k) cap el := by unfold grownCap Question.cut; exact Nat.le_add_right _ _
      have hr : (Builtin.append_ #[t, tx] ty #[.slice (some ⟨bl, 0, none⟩) len cap, .int .i64 (k : Nat)]).run P w = .ok (.slice (some ⟨w.heap.size, 0, none⟩) (len + k) (grownCap w (len + k) cap el)) (w.drew.alloc (.cells ((xs ++ zs).toArray ++ Builtin.zeroCells z.cells (grownCap w (len + k) cap el - (len + k))) el)) := by
        simp [Builtin.append_, run_underlying (sliceP hT), run_underlying hTx, sizeOf, typeInfo, zeroValue, hi, hz, hw, hai, hz0, h49, hroom, hza, hk0, hs1, h63, h48, Question.forced, hf, newRow, grownCap]
        first | rw [if_neg hks] | skip
        congr 3
        apply Array.ext'
        simp [List.append_assoc]
      refine lst_run (hop _ _ hr) hd ?_
      generalize grownCap w (len + k) cap el = nc at hcapn
      have hzc : (Builtin.zeroCells z.cells (nc - (len + k))) = (Builtin.zeroCells z.cells (nc - (len + k))).toList.toArray := by simp
      have hzl2 : (Builtin.zeroCells z.cells (nc - (len + k))).toList.length = (nc - (len + k)) * i.size := by simp [Builtin.zeroCells, hzs]
      generalize (Builtin.zeroCells z.cells (nc - (len + k))).toList = zl at hzc hzl2
      rw [hzc]
      have hS2 := (hS.drew.alloc (.cells ((xs ++ zs) ++ zl).toArray el))
      rw [show (xs ++ zs).toArray ++ zl.toArray = ((xs ++ zs) ++ zl).toArray by simp]
      refine h _ [(w.heap.size, .cells ((xs ++ zs) ++ zl).toArray el)] _ (Rw.own_ ?_ ?_ hcapn (by omega)) ?_
      · rw [List.length_append, hx2, hys, Nat.add_mul]
      · rw [List.length_append, List.length_append, hx2, hys, hzl2, ← Nat.add_mul, ← Nat.add_mul]; congr 1; omega
      · have h5 : St M w0 ((w.heap.size, .cells ((xs ++ zs) ++ zl).toArray el) :: ([(bl, Obj.cells (xs ++ sp).toArray el)] ++ H')) F _ := hS2
        exact St.dropL (L := [(bl, Obj.cells (xs ++ sp).toArray el)]) h5.sink
end
abbrev zC : HC := ⟨0, 0, eS⟩
theorem zero_hcs : ∀ k : Nat, (Builtin.zeroCells #[.int .i64 0, .int .i64 0, .string eS] k).toList = hcsL (List.replicate k zC)
  | 0 => by simp [Builtin.zeroCells, hcsL]
  | k + 1 => by
    have ih := zero_hcs k
    simp only [Builtin.zeroCells, Array.toList_map, Array.toList_range] at ih ⊢
    rw [List.replicate_succ', hcsL_app, ← ih]
    rw [show (k + 1) * (#[Value.int .i64 0, .int .i64 0, .string eS] : Array Value).size = k * 3 + 1 + 1 + 1 by simp; omega]
    rw [show k * (#[Value.int .i64 0, .int .i64 0, .string eS] : Array Value).size = k * 3 by simp]
    rw [List.range_succ, List.range_succ, List.range_succ]
    simp [hcsL, Nat.mul_mod_left, Nat.add_mod]
/-- A cell set, in the list and in its block. -/
theorem hcsL_setC : ∀ (L : List HC) (i : Nat) (c : HC), i < L.length → ∃ X Z : List Value, ∃ ys : List Value, hcsL L = X ++ (ys ++ Z) ∧ X.length = i * 3 ∧ ys.length = 3 ∧ hcsL (L.set i c) = X ++ (hcs c ++ Z)
  | [], i, c, h => by simp at h
  | x :: r, 0, c, h => ⟨[], hcsL r, hcs x, rfl, rfl, rfl, rfl⟩
  | x :: r, i + 1, c, h => by
    obtain ⟨X, Z, ys, h1, h2, h3, h4⟩ := hcsL_setC r i c (by simpa using h)
    refine ⟨hcs x ++ X, Z, ys, ?_, ?_, h3, ?_⟩
    · show hcs x ++ hcsL r = _
      rw [h1]; simp
    · simp [hcs, h2]; omega
    · show hcs x ++ hcsL (r.set i c) = _
      rw [h4]; simp
theorem hcsL_putC (L : List HC) (sp : List Value) (i : Nat) (c : HC) (hi : i < L.length) : PutN (hcsL L ++ sp) (i * 3) (hcs c) (hcsL (L.set i c) ++ sp) := by
  obtain ⟨X, Z, ys, h1, h2, h3, h4⟩ := hcsL_setC L i c hi
  rw [h1, h4]
  have := putN_mid X ys (hcs c) (Z ++ sp) (i * 3) h2 (by rw [h3]; rfl)
  simpa using this
end Go.Proofs.Ytdflngjfnpbpmab
