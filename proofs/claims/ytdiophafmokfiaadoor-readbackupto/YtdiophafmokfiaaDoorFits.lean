/-
  fits says of every term whether it has at most so many nodes.
-/
import Derived.Test.YtdiophafmokfiaaDoorCopy
import Derived.Test.YtdiophafmokfiaaDoorNode
import Derived.Deep.LoopGhost
import Derived.Deep.QuietTactic
import Derived.BigQuiet
namespace Go.Proofs.YtdiophafmokfiaaDoor
open Go.RowKit

/-- The two variables that the visitor knows: how many nodes are left, and itself. -/
structure VS (lb vb : Nat) (L : Nat) (w : World) : Prop where
  left : Plot w lb 3 #[.int .i64 L]
  fn : Plot w vb 30 #[.func (.func 88) #[] #[.pointer (some ⟨lb, 0, none⟩), .pointer (some ⟨vb, 0, none⟩)]]
  ne : vb ≠ lb
theorem VS.far {lb vb L : Nat} {w w' : World} (h : VS lb vb L w) (hb : Below w.heap.size w w') : VS lb vb L w' := ⟨h.left.below hb, h.fn.below hb, h.ne⟩

def VisitSaid (T : Ts) : Prop := ∀ (k n : Int) (s : ByteArray) (v : Value) (L lb vb B : Nat) (w : World), Sl w (fun k => k < B) v T → B ≤ lb → VS lb vb L w → L ≤ 24 → T.nodes ≤ 1048576 →
    Calls Tryd.prog 88 #[.agg #[.int .i64 k, .int .i64 n, .string s, v], .pointer (some ⟨lb, 0, none⟩), .pointer (some ⟨vb, 0, none⟩)] w fun e w' =>
      e = .returned (.bool (decide (T.nodes + 1 ≤ L))) ∧ (T.nodes + 1 ≤ L → VS lb vb (L - (T.nodes + 1)) w') ∧ Chg (fun k => k = lb) w w'

def VtLoop (w : World) (T : Ts) (L lb vb : Nat) (g : Nat) (sx : Value) (wr : World) : Prop := ∃ D R : Ts, T = D.app R ∧ g = R.length ∧ sx = .int .i64 D.length ∧ D.nodes + 1 ≤ L ∧ VS lb vb (L - (D.nodes + 1)) wr ∧ Chg (fun k => k = lb) w wr

set_option maxHeartbeats 1000000 in
theorem visit_of (m : Nat) (ih : ∀ T : Ts, T.nodes < m → VisitSaid T) (T : Ts) (hm : T.nodes ≤ m) : VisitSaid T := by
  intro k n s v L lb vb B w hv hBl hvs hL hn
  obtain ⟨A, c, rfl, hs⟩ := hv.form
  have hle := T.length_le
  have hW : Below w.heap.size w (w.alloc (.cells #[.int .i64 k, .int .i64 n, .string s, .slice A T.length c] 24)) := (Below.refl _ _).alloc (Nat.le_refl _) _
  have hvs1 := hvs.far hW
  have hs1 := hs.below hW
  have bA := Plot.new w 24 #[.int .i64 k, .int .i64 n, .string s, .slice A T.length c]
  have l0 := hvs1.left.cell 0
  have lf := hvs1.left.frozen 0
  simp at l0
  have hlt := hvs.left.lt
  by_cases hL0 : L = 0
  · subst hL0
    go_enter Tryd.func88, Tryd.ntmps88
    go_wp2_with fail
    go_ret
    exact ⟨rfl, fun h => absurd h (by omega), Chg.of_fresh hW⟩
  have hL1 : 0 < L := by omega
  obtain ⟨p0, p1, p2, p3, _⟩ := bA.four
  have hne : w.heap.size ≠ lb := by omega
  go_enter Tryd.func88, Tryd.ntmps88
  go_wp2_with fail
  have hstart : VS lb vb (L - 1) ((w.setCell ⟨lb, 0, none⟩ (.int .i64 ((L : Int) - 1))).alloc (.cells #[.int .i64 k, .int .i64 n, .string s, .slice A T.length c] 24)) := by
    refine ⟨?_, ?_, hvs.ne⟩
    · have h1 := (hvs.left.set_ 0 (.int .i64 ((L : Int) - 1))).alloc (.cells #[.int .i64 k, .int .i64 n, .string s, .slice A T.length c] 24)
      rw [show ((L - 1 : Nat) : Int) = (L : Int) - 1 by omega]
      exact h1
    · exact (hvs.fn.far (p := ⟨lb, 0, none⟩) hvs.ne _).alloc _
  have hchg : Chg (fun k => k = lb) w ((w.setCell ⟨lb, 0, none⟩ (.int .i64 ((L : Int) - 1))).alloc (.cells #[.int .i64 k, .int .i64 n, .string s, .slice A T.length c] 24)) :=
    ((Chg.refl (fun k => k = lb) w).setCell (p := ⟨lb, 0, none⟩) (fun _ => rfl) _).alloc _
  have hcall : ∀ (args : Array Value) (x : World), (callFunc 88 args).run Tryd.prog x = .ok (.enter 88 args) x := fun args x => by simp [go_sem]
  generalize ((w.setCell ⟨lb, 0, none⟩ (.int .i64 ((L : Int) - 1))).alloc (.cells #[.int .i64 k, .int .i64 n, .string s, .slice A T.length c] 24)) = W at *
  have h0 : VtLoop w T L lb vb T.length (.int .i64 0) W := ⟨.nil, T, rfl, rfl, rfl, hL1, hstart, hchg⟩
  clear hstart hchg hvs1 bA p0 p1 p2 p3 hne l0 lf hs1 hW
  go_loopg [14] T.length (VtLoop w T L lb vb)
  case atStart => exact h0
  case round =>
    clear h0
    obtain ⟨D, R, hT, hg, rfl, hD, hvr, hc⟩ := hrel
    have HT := Lib.hid hT
    have HG := Lib.hid hg
    clear hT hg
    have hsr : Sl wr (fun k => k < B) (.slice A T.length c) T := hs.chg hc fun k hk => by omega
    cases R with
    | nil =>
      have eD : D = T := by rw [HT.out, Ts.app_nil]
      subst eD
      go_wp2_with fail
      go_ret
      refine ⟨?_, fun _ => hvr, hc⟩
      rw [decide_eq_true hD]; rfl
    | cons k1 n1 s1 ar r =>
      have e1 : D.length < T.length := by rw [HT.out, Ts.length_app]; simp [Ts.length]
      have hnod : T.nodes = D.nodes + (1 + ar.nodes + r.nodes) := by rw [HT.out, Ts.nodes_app]; simp only [Ts.nodes]; omega
      rw [HT.out] at hsr
      rw [show (D.app (.cons k1 n1 s1 ar r)).length = T.length by rw [← HT.out]] at hsr
      obtain ⟨b1, o1, rfl, hq1⟩ := Sl.at_ hsr (by simp [Ts.length])
      obtain ⟨_, c10, c11, c12, ⟨v1, c13, hv1⟩, _⟩ := seg_cons.1 hq1
      obtain ⟨A1, d1, rfl, hv1⟩ := hv1.form
      clear hq1 hsr
      have hX : Below wr.heap.size wr (wr.alloc (.cells #[.int .i64 k1, .int .i64 n1, .string s1, .slice A1 ar.length d1] 24)) := (Below.refl _ _).alloc (Nat.le_refl _) _
      have hvx := hvr.far hX
      have f0 := hvx.fn.cell 0
      simp at f0
      go_wp2_with fail
      have e2 : ar.nodes < m := by omega
      refine (ih ar e2 k1 n1 s1 _ (L - (D.nodes + 1)) lb vb B _ (hv1.below hX) hBl hvx (by omega) (by omega)).mono ?_
      rintro e w2 ⟨rfl, hok, hc2⟩
      have hc3 : Chg (fun k => k = lb) w w2 := (hc.trans (Chg.of_fresh (S := fun k => k = lb) hX) fun _ _ h => h).trans hc2 fun _ _ h => h
      by_cases hx : ar.nodes + 1 ≤ L - (D.nodes + 1)
      · have hok := hok hx
        rw [decide_eq_true hx]
        have hnx : Hid (VS lb vb (L - ((D.app (.cons k1 n1 s1 ar .nil)).nodes + 1)) w2) := Lib.hid (by
          rw [Ts.nodes_app]
          simp only [Ts.nodes]
          rw [show L - (D.nodes + (ar.nodes + 0 + 1) + 1) = L - (D.nodes + 1) - (ar.nodes + 1) by omega]
          exact hok)
        clear hok
        go_wp2_with fail
        go_roundg r.length
        case measure => rw [HG.out]; simp [Ts.length]
        case rel =>
          refine ⟨D.app (.cons k1 n1 s1 ar .nil), r, ?_, rfl, ?_, ?_, hnx.out, hc3⟩
          · rw [HT.out, Ts.app_assoc]; rfl
          · rw [Ts.length_app]; rfl
          · rw [Ts.nodes_app]; simp only [Ts.nodes]; omega
      · rw [decide_eq_false hx]
        have hbig : Hid (¬ T.nodes + 1 ≤ L) := Lib.hid (by omega)
        clear hok
        go_wp2_with fail
        go_ret
        refine ⟨?_, fun h => absurd h hbig.out, hc3⟩
        rw [decide_eq_false hbig.out]; rfl

theorem visit_said (T : Ts) : VisitSaid T := by
  have : ∀ m, ∀ T : Ts, T.nodes < m → VisitSaid T := by
    intro m
    induction m with
    | zero => intro T h; omega
    | succ m ih => intro T h; exact visit_of m ih T (by omega)
  exact this _ T (Nat.lt_succ_self _)

set_option maxHeartbeats 1000000 in
theorem fits_any (k n : Int) (s : ByteArray) (T : Ts) (v : Value) (w : World) (hv : Sl w (fun _ => True) v T) (hn : T.nodes ≤ 1048576) :
    Calls Tryd.prog 67 #[.agg #[.int .i64 k, .int .i64 n, .string s, v], .int .i64 24] w fun e w' => e = .returned (.bool (decide (T.nodes + 1 ≤ 24))) ∧ Below w.heap.size w w' := by
  obtain ⟨A, c, rfl, hs⟩ := hv.form
  have hs := hs.imp (q := fun k => k < w.heap.size) fun k _ h => h
  have hW : Below w.heap.size w (((w.alloc (.cells #[.int .i64 k, .int .i64 n, .string s, .slice A T.length c] 24)).alloc (.cells #[.int .i64 24] 3)).alloc (.cells #[.func (.func 88) #[] #[.pointer (some ⟨w.heap.size + 1, 0, none⟩), .pointer (some ⟨w.heap.size + 1 + 1, 0, none⟩)]] 30)) := (((Below.refl _ _).alloc (Nat.le_refl _) _).alloc (by simp) _).alloc (by simp; omega) _
  have hst : (store ⟨w.heap.size + 1 + 1, 0, none⟩ (.func (.func 88) #[] #[.pointer (some ⟨w.heap.size + 1, 0, none⟩), .pointer (some ⟨w.heap.size + 1 + 1, 0, none⟩)])).run Tryd.prog (((w.alloc (.cells #[.int .i64 k, .int .i64 n, .string s, .slice A T.length c] 24)).alloc (.cells #[.int .i64 24] 3)).alloc (.cells #[.nilFunc] 30)) =
      .ok () (((w.alloc (.cells #[.int .i64 k, .int .i64 n, .string s, .slice A T.length c] 24)).alloc (.cells #[.int .i64 24] 3)).alloc (.cells #[.func (.func 88) #[] #[.pointer (some ⟨w.heap.size + 1, 0, none⟩), .pointer (some ⟨w.heap.size + 1 + 1, 0, none⟩)]] 30)) := by
    have hb := Plot.new ((w.alloc (.cells #[.int .i64 k, .int .i64 n, .string s, .slice A T.length c] 24)).alloc (.cells #[.int .i64 24] 3)) 30 #[.nilFunc]
    have e := setCell_new ((w.alloc (.cells #[.int .i64 k, .int .i64 n, .string s, .slice A T.length c] 24)).alloc (.cells #[.int .i64 24] 3)) .nilFunc (.func (.func 88) #[] #[.pointer (some ⟨w.heap.size + 1, 0, none⟩), .pointer (some ⟨w.heap.size + 1 + 1, 0, none⟩)]) 30
    have h := run_store_func (P := Tryd.prog) (f := .func 88) (x := #[]) (y := #[.pointer (some ⟨w.heap.size + 1, 0, none⟩), .pointer (some ⟨w.heap.size + 1 + 1, 0, none⟩)]) (hb.cell 0) (hb.frozen 0)
    rw [e] at h
    simpa using h
  have hvs : VS (w.heap.size + 1) (w.heap.size + 1 + 1) 24 (((w.alloc (.cells #[.int .i64 k, .int .i64 n, .string s, .slice A T.length c] 24)).alloc (.cells #[.int .i64 24] 3)).alloc (.cells #[.func (.func 88) #[] #[.pointer (some ⟨w.heap.size + 1, 0, none⟩), .pointer (some ⟨w.heap.size + 1 + 1, 0, none⟩)]] 30)) := by
    refine ⟨?_, ?_, by omega⟩
    · have := (Plot.new (w.alloc (.cells #[.int .i64 k, .int .i64 n, .string s, .slice A T.length c] 24)) 3 #[.int .i64 24]).alloc (.cells #[.func (.func 88) #[] #[.pointer (some ⟨w.heap.size + 1, 0, none⟩), .pointer (some ⟨w.heap.size + 1 + 1, 0, none⟩)]] 30)
      simpa using this
    · have := Plot.new ((w.alloc (.cells #[.int .i64 k, .int .i64 n, .string s, .slice A T.length c] 24)).alloc (.cells #[.int .i64 24] 3)) 30 #[.func (.func 88) #[] #[.pointer (some ⟨w.heap.size + 1, 0, none⟩), .pointer (some ⟨w.heap.size + 1 + 1, 0, none⟩)]]
      simpa using this
  have hcall : ∀ (args : Array Value) (x : World), (callFunc 88 args).run Tryd.prog x = .ok (.enter 88 args) x := fun args x => by simp [go_sem]
  go_enter Tryd.func67, Tryd.ntmps67
  go_wp2_with fail
  refine (visit_said T k n s _ 24 (w.heap.size + 1) (w.heap.size + 1 + 1) w.heap.size _ (hs.below hW) (by omega) hvs (Nat.le_refl _) hn).mono ?_
  rintro e w2 ⟨rfl, _, hc⟩
  generalize hfb : decide (T.nodes + 1 ≤ 24) = fb
  have HFB := Lib.hid hfb
  clear hfb
  go_wp2_with fail
  go_ret
  refine ⟨by rw [HFB.out]; rfl, hW.trans (hc.below (by simp; omega) fun k hk _ => ?_)⟩
  have e : k = w.heap.size + 1 := hk
  omega
end Go.Proofs.YtdiophafmokfiaaDoor
