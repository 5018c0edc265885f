/-
  GoodQuery and the reference's IsQuery say of every list of terms whether it is a query.
-/
import Derived.Test.YtdiophafmokfiaaDoorGoals
namespace Go.Proofs.YtdiophafmokfiaaDoor
open Go.RowKit

/-- Are all of them good goals? -/
def Ts.goals (vars : Int) : Ts → Bool
  | .nil => true
  | .cons k n s ar r => gB vars k n s ar && r.goals vars
theorem Ts.goals_app (v : Int) (D R : Ts) : (D.app R).goals v = (D.goals v && R.goals v) := by
  induction D with
  | nil => rfl
  | cons k n b ar r _ ih => simp only [Ts.app, Ts.goals, ih, Bool.and_assoc]
def qB (vars : Int) (T : Ts) : Bool := decide (0 ≤ vars) && decide (vars ≤ 8) && decide (T.length ≤ 5) && T.goals vars

def GqLoop (w : World) (T : Ts) (vars : Int) (g : Nat) (sx : Value) (wr : World) : Prop := ∃ D R : Ts, T = D.app R ∧ g = R.length ∧ sx = .int .i64 D.length ∧ D.goals vars = true ∧ Below w.heap.size w wr
def IqLoop (w : World) (T : Ts) (vars : Int) (b : Bool) (g : Nat) (so sx : Value) (wr : World) : Prop := ∃ D R : Ts, T = D.app R ∧ g = R.length ∧ sx = .int .i64 D.length ∧ so = .bool (b && D.goals vars) ∧ Below w.heap.size w wr

set_option maxHeartbeats 1000000 in
theorem goodQuery_any (vars : Int) (T : Ts) (v : Value) (w : World) (hv : Sl w (fun _ => True) v T) (hn : T.nodes ≤ 1048576) :
    Calls Tryd.prog 20 #[v, .int .i64 vars] w fun e w' => e = .returned (.bool (qB vars T)) ∧ Below w.heap.size w w' := by
  obtain ⟨A, c, rfl, hs⟩ := hv.form
  have hle := T.length_le
  generalize hr : qB vars T = rb
  have R := Lib.hid hr
  clear hr
  by_cases h1 : vars < 0
  · have hq : Hid (rb = false) := Lib.hid (by rw [← R.out, qB]; simp; omega)
    go_enter Tryd.func20, Tryd.ntmps20
    go_wp2_with fail
    go_ret
    exact ⟨by rw [hq.out]; rfl, Below.refl _ _⟩
  by_cases h2 : 8 < vars
  · have hq : Hid (rb = false) := Lib.hid (by rw [← R.out, qB]; simp; omega)
    go_enter Tryd.func20, Tryd.ntmps20
    go_wp2_with fail
    go_ret
    exact ⟨by rw [hq.out]; rfl, Below.refl _ _⟩
  by_cases h3 : 5 < T.length
  · have hq : Hid (rb = false) := Lib.hid (by rw [← R.out, qB]; simp; omega)
    go_enter Tryd.func20, Tryd.ntmps20
    go_wp2_with fail
    go_ret
    exact ⟨by rw [hq.out]; rfl, Below.refl _ _⟩
  have hq : Hid (rb = T.goals vars) := Lib.hid (by rw [← R.out, qB]; simp; omega)
  have hl5 : T.length ≤ 5 := by omega
  have h0 : GqLoop w T vars T.length (.int .i64 0) w := ⟨.nil, T, rfl, rfl, rfl, rfl, Below.refl _ _⟩
  go_enter Tryd.func20, Tryd.ntmps20
  go_wp2_with fail
  go_loopg [20] T.length (GqLoop w T vars)
  case atStart => exact h0
  case round =>
    clear h0
    obtain ⟨D, R', hT, hg, rfl, hD, hb⟩ := hrel
    have HT := Lib.hid hT
    have HG := Lib.hid hg
    have HD := Lib.hid hD
    clear hT hg hD
    have hsr := hs.below hb
    cases R' with
    | nil =>
      have eD : D = T := by rw [HT.out, Ts.app_nil]
      subst eD
      go_wp2_with fail
      go_ret
      exact ⟨by rw [hq.out, HD.out]; rfl, hb⟩
    | cons k1 n1 s1 ar r =>
      have e1 : D.length < T.length := by rw [HT.out, Ts.length_app]; simp [Ts.length]
      have hnod : ar.nodes < 1048576 := by have := hn; rw [HT.out, Ts.nodes_app] at this; simp only [Ts.nodes] at this; omega
      rw [HT.out] at hsr
      rw [show (D.app (.cons k1 n1 s1 ar r)).length = T.length by rw [← HT.out]] at hsr
      obtain ⟨b1, o1, rfl, hq1⟩ := Sl.at_ hsr (by simp [Ts.length])
      obtain ⟨_, c10, c11, c12, ⟨v1, c13, hv1⟩, _⟩ := seg_cons.1 hq1
      obtain ⟨A1, d1, rfl, hv1⟩ := hv1.form
      clear hq1 hsr
      have hX : Below wr.heap.size wr (wr.alloc (.cells #[.int .i64 k1, .int .i64 n1, .string s1, .slice A1 ar.length d1] 24)) := (Below.refl _ _).alloc (Nat.le_refl _) _
      have hX' := hb.trans (hX.mono hb.size)
      go_wp2_with fail
      refine (goodGoal_any vars k1 n1 s1 ar _ _ (hv1.below hX) hnod).mono ?_
      rintro e w2 ⟨rfl, hb2⟩
      have hb3 := hX'.trans (hb2.mono hX'.size)
      generalize hgb : gB vars k1 n1 s1 ar = gb
      have HGB := Lib.hid hgb
      clear hgb
      cases gb with
      | false =>
        go_wp2_with fail
        go_ret
        refine ⟨?_, hb3⟩
        rw [hq.out, HT.out, Ts.goals_app, Ts.goals, HGB.out, Bool.false_and, Bool.and_false]; rfl
      | true =>
        go_wp2_with fail
        go_roundg r.length
        case measure => rw [HG.out]; simp [Ts.length]
        case rel =>
          refine ⟨D.app (.cons k1 n1 s1 ar .nil), r, ?_, rfl, ?_, ?_, hb3⟩
          · rw [HT.out, Ts.app_assoc]; rfl
          · rw [Ts.length_app]; rfl
          · rw [Ts.goals_app, HD.out, Ts.goals, HGB.out]; rfl

set_option maxHeartbeats 1000000 in
theorem isQuery_any (vars : Int) (T : Ts) (v : Value) (w : World) (hv : Sl w (fun _ => True) v T) (hn : T.nodes ≤ 1048576) :
    Calls Tryd.prog 22 #[v, .int .i64 vars] w fun e w' => e = .returned (.bool (qB vars T)) ∧ Below w.heap.size w w' := by
  obtain ⟨A, c, rfl, hs⟩ := hv.form
  have hle := T.length_le
  generalize hr : qB vars T = rb
  have R := Lib.hid hr
  clear hr
  have hF : IqLoop w T vars false T.length (.bool false) (.int .i64 0) w := ⟨.nil, T, rfl, rfl, rfl, rfl, Below.refl _ _⟩
  by_cases h1 : vars < 0
  · have hq : Hid (rb = (false && T.goals vars)) := Lib.hid (by rw [← R.out, qB]; simp; omega)
    have h0 := hF
    go_enter Tryd.func22, Tryd.ntmps22
    go_wp2_with fail
    go_loopg [5, 21] T.length (IqLoop w T vars false)
    case atStart => exact h0
    case round =>
      clear h0
      obtain ⟨D, R', hT, hg, rfl, rfl, hb⟩ := hrel
      have HT := Lib.hid hT
      have HG := Lib.hid hg
      clear hT hg
      have hsr := hs.below hb
      generalize hgd : (false && D.goals vars) = db
      have HD := Lib.hid hgd
      clear hgd
      cases R' with
      | nil =>
        have eD : D = T := by rw [HT.out, Ts.app_nil]
        subst eD
        go_wp2_with fail
        go_ret
        exact ⟨by rw [hq.out, ← HD.out]; rfl, hb⟩
      | cons k1 n1 s1 ar r =>
        have e1 : D.length < T.length := by rw [HT.out, Ts.length_app]; simp [Ts.length]
        have hnod : ar.nodes < 1048576 := by have := hn; rw [HT.out, Ts.nodes_app] at this; simp only [Ts.nodes] at this; omega
        rw [HT.out] at hsr
        rw [show (D.app (.cons k1 n1 s1 ar r)).length = T.length by rw [← HT.out]] at hsr
        obtain ⟨b1, o1, rfl, hq1⟩ := Sl.at_ hsr (by simp [Ts.length])
        obtain ⟨_, c10, c11, c12, ⟨v1, c13, hv1⟩, _⟩ := seg_cons.1 hq1
        obtain ⟨A1, d1, rfl, hv1⟩ := hv1.form
        clear hq1 hsr
        have hX : Below wr.heap.size wr (wr.alloc (.cells #[.int .i64 k1, .int .i64 n1, .string s1, .slice A1 ar.length d1] 24)) := (Below.refl _ _).alloc (Nat.le_refl _) _
        have hX' := hb.trans (hX.mono hb.size)
        cases db with
        | false =>
          go_wp2_with fail
          go_roundg r.length
          case measure => rw [HG.out]; simp [Ts.length]
          case rel =>
            refine ⟨D.app (.cons k1 n1 s1 ar .nil), r, ?_, rfl, ?_, ?_, hX'⟩
            · rw [HT.out, Ts.app_assoc]; rfl
            · rw [Ts.length_app]; rfl
            · rw [Ts.goals_app, ← Bool.and_assoc, HD.out]; rfl
        | true =>
          go_wp2_with fail
          refine (small_any vars k1 n1 s1 ar _ _ (hv1.below hX) hnod).mono ?_
          rintro e w2 ⟨rfl, hb2⟩
          have hb3 := hX'.trans (hb2.mono hX'.size)
          generalize hgb : gB vars k1 n1 s1 ar = gb
          have HGB := Lib.hid hgb
          clear hgb
          go_wp2_with fail
          go_roundg r.length
          case measure => rw [HG.out]; simp [Ts.length]
          case rel =>
            refine ⟨D.app (.cons k1 n1 s1 ar .nil), r, ?_, rfl, ?_, ?_, hb3⟩
            · rw [HT.out, Ts.app_assoc]; rfl
            · rw [Ts.length_app]; rfl
            · rw [Ts.goals_app, ← Bool.and_assoc, HD.out, Ts.goals, Ts.goals, HGB.out, Bool.and_true, Bool.true_and]
  by_cases h2 : 8 < vars
  · have hq : Hid (rb = (false && T.goals vars)) := Lib.hid (by rw [← R.out, qB]; simp; omega)
    have h0 := hF
    go_enter Tryd.func22, Tryd.ntmps22
    go_wp2_with fail
    go_loopg [5, 21] T.length (IqLoop w T vars false)
    case atStart => exact h0
    case round =>
      clear h0
      obtain ⟨D, R', hT, hg, rfl, rfl, hb⟩ := hrel
      have HT := Lib.hid hT
      have HG := Lib.hid hg
      clear hT hg
      have hsr := hs.below hb
      generalize hgd : (false && D.goals vars) = db
      have HD := Lib.hid hgd
      clear hgd
      cases R' with
      | nil =>
        have eD : D = T := by rw [HT.out, Ts.app_nil]
        subst eD
        go_wp2_with fail
        go_ret
        exact ⟨by rw [hq.out, ← HD.out]; rfl, hb⟩
      | cons k1 n1 s1 ar r =>
        have e1 : D.length < T.length := by rw [HT.out, Ts.length_app]; simp [Ts.length]
        have hnod : ar.nodes < 1048576 := by have := hn; rw [HT.out, Ts.nodes_app] at this; simp only [Ts.nodes] at this; omega
        rw [HT.out] at hsr
        rw [show (D.app (.cons k1 n1 s1 ar r)).length = T.length by rw [← HT.out]] at hsr
        obtain ⟨b1, o1, rfl, hq1⟩ := Sl.at_ hsr (by simp [Ts.length])
        obtain ⟨_, c10, c11, c12, ⟨v1, c13, hv1⟩, _⟩ := seg_cons.1 hq1
        obtain ⟨A1, d1, rfl, hv1⟩ := hv1.form
        clear hq1 hsr
        have hX : Below wr.heap.size wr (wr.alloc (.cells #[.int .i64 k1, .int .i64 n1, .string s1, .slice A1 ar.length d1] 24)) := (Below.refl _ _).alloc (Nat.le_refl _) _
        have hX' := hb.trans (hX.mono hb.size)
        cases db with
        | false =>
          go_wp2_with fail
          go_roundg r.length
          case measure => rw [HG.out]; simp [Ts.length]
          case rel =>
            refine ⟨D.app (.cons k1 n1 s1 ar .nil), r, ?_, rfl, ?_, ?_, hX'⟩
            · rw [HT.out, Ts.app_assoc]; rfl
            · rw [Ts.length_app]; rfl
            · rw [Ts.goals_app, ← Bool.and_assoc, HD.out]; rfl
        | true =>
          go_wp2_with fail
          refine (small_any vars k1 n1 s1 ar _ _ (hv1.below hX) hnod).mono ?_
          rintro e w2 ⟨rfl, hb2⟩
          have hb3 := hX'.trans (hb2.mono hX'.size)
          generalize hgb : gB vars k1 n1 s1 ar = gb
          have HGB := Lib.hid hgb
          clear hgb
          go_wp2_with fail
          go_roundg r.length
          case measure => rw [HG.out]; simp [Ts.length]
          case rel =>
            refine ⟨D.app (.cons k1 n1 s1 ar .nil), r, ?_, rfl, ?_, ?_, hb3⟩
            · rw [HT.out, Ts.app_assoc]; rfl
            · rw [Ts.length_app]; rfl
            · rw [Ts.goals_app, ← Bool.and_assoc, HD.out, Ts.goals, Ts.goals, HGB.out, Bool.and_true, Bool.true_and]
  by_cases h3 : 5 < T.length
  · have hq : Hid (rb = (false && T.goals vars)) := Lib.hid (by rw [← R.out, qB]; simp; omega)
    have hd : decide ((T.length : Int) ≤ 5) = false := by simp; omega
    have h0 := hF
    go_enter Tryd.func22, Tryd.ntmps22
    go_wp2_with fail
    go_loopg [5, 21] T.length (IqLoop w T vars false)
    case atStart => exact h0
    case round =>
      clear h0
      obtain ⟨D, R', hT, hg, rfl, rfl, hb⟩ := hrel
      have HT := Lib.hid hT
      have HG := Lib.hid hg
      clear hT hg
      have hsr := hs.below hb
      generalize hgd : (false && D.goals vars) = db
      have HD := Lib.hid hgd
      clear hgd
      cases R' with
      | nil =>
        have eD : D = T := by rw [HT.out, Ts.app_nil]
        subst eD
        go_wp2_with fail
        go_ret
        exact ⟨by rw [hq.out, ← HD.out]; rfl, hb⟩
      | cons k1 n1 s1 ar r =>
        have e1 : D.length < T.length := by rw [HT.out, Ts.length_app]; simp [Ts.length]
        have hnod : ar.nodes < 1048576 := by have := hn; rw [HT.out, Ts.nodes_app] at this; simp only [Ts.nodes] at this; omega
        rw [HT.out] at hsr
        rw [show (D.app (.cons k1 n1 s1 ar r)).length = T.length by rw [← HT.out]] at hsr
        obtain ⟨b1, o1, rfl, hq1⟩ := Sl.at_ hsr (by simp [Ts.length])
        obtain ⟨_, c10, c11, c12, ⟨v1, c13, hv1⟩, _⟩ := seg_cons.1 hq1
        obtain ⟨A1, d1, rfl, hv1⟩ := hv1.form
        clear hq1 hsr
        have hX : Below wr.heap.size wr (wr.alloc (.cells #[.int .i64 k1, .int .i64 n1, .string s1, .slice A1 ar.length d1] 24)) := (Below.refl _ _).alloc (Nat.le_refl _) _
        have hX' := hb.trans (hX.mono hb.size)
        cases db with
        | false =>
          go_wp2_with fail
          go_roundg r.length
          case measure => rw [HG.out]; simp [Ts.length]
          case rel =>
            refine ⟨D.app (.cons k1 n1 s1 ar .nil), r, ?_, rfl, ?_, ?_, hX'⟩
            · rw [HT.out, Ts.app_assoc]; rfl
            · rw [Ts.length_app]; rfl
            · rw [Ts.goals_app, ← Bool.and_assoc, HD.out]; rfl
        | true =>
          go_wp2_with fail
          refine (small_any vars k1 n1 s1 ar _ _ (hv1.below hX) hnod).mono ?_
          rintro e w2 ⟨rfl, hb2⟩
          have hb3 := hX'.trans (hb2.mono hX'.size)
          generalize hgb : gB vars k1 n1 s1 ar = gb
          have HGB := Lib.hid hgb
          clear hgb
          go_wp2_with fail
          go_roundg r.length
          case measure => rw [HG.out]; simp [Ts.length]
          case rel =>
            refine ⟨D.app (.cons k1 n1 s1 ar .nil), r, ?_, rfl, ?_, ?_, hb3⟩
            · rw [HT.out, Ts.app_assoc]; rfl
            · rw [Ts.length_app]; rfl
            · rw [Ts.goals_app, ← Bool.and_assoc, HD.out, Ts.goals, Ts.goals, HGB.out, Bool.and_true, Bool.true_and]
  have hq : Hid (rb = (true && T.goals vars)) := Lib.hid (by rw [← R.out, qB]; simp; omega)
  have hd : decide ((T.length : Int) ≤ 5) = true := by simp; omega
  have h0 : IqLoop w T vars true T.length (.bool true) (.int .i64 0) w := ⟨.nil, T, rfl, rfl, rfl, rfl, Below.refl _ _⟩
  clear hF
  go_enter Tryd.func22, Tryd.ntmps22
  go_wp2_with fail
  go_loopg [5, 21] T.length (IqLoop w T vars true)
  case atStart => exact h0
  case round =>
    clear h0
    obtain ⟨D, R', hT, hg, rfl, rfl, hb⟩ := hrel
    have HT := Lib.hid hT
    have HG := Lib.hid hg
    clear hT hg
    have hsr := hs.below hb
    generalize hgd : (true && D.goals vars) = db
    have HD := Lib.hid hgd
    clear hgd
    cases R' with
    | nil =>
      have eD : D = T := by rw [HT.out, Ts.app_nil]
      subst eD
      go_wp2_with fail
      go_ret
      exact ⟨by rw [hq.out, ← HD.out]; rfl, hb⟩
    | cons k1 n1 s1 ar r =>
      have e1 : D.length < T.length := by rw [HT.out, Ts.length_app]; simp [Ts.length]
      have hnod : ar.nodes < 1048576 := by have := hn; rw [HT.out, Ts.nodes_app] at this; simp only [Ts.nodes] at this; omega
      rw [HT.out] at hsr
      rw [show (D.app (.cons k1 n1 s1 ar r)).length = T.length by rw [← HT.out]] at hsr
      obtain ⟨b1, o1, rfl, hq1⟩ := Sl.at_ hsr (by simp [Ts.length])
      obtain ⟨_, c10, c11, c12, ⟨v1, c13, hv1⟩, _⟩ := seg_cons.1 hq1
      obtain ⟨A1, d1, rfl, hv1⟩ := hv1.form
      clear hq1 hsr
      have hX : Below wr.heap.size wr (wr.alloc (.cells #[.int .i64 k1, .int .i64 n1, .string s1, .slice A1 ar.length d1] 24)) := (Below.refl _ _).alloc (Nat.le_refl _) _
      have hX' := hb.trans (hX.mono hb.size)
      cases db with
      | false =>
        go_wp2_with fail
        go_roundg r.length
        case measure => rw [HG.out]; simp [Ts.length]
        case rel =>
          refine ⟨D.app (.cons k1 n1 s1 ar .nil), r, ?_, rfl, ?_, ?_, hX'⟩
          · rw [HT.out, Ts.app_assoc]; rfl
          · rw [Ts.length_app]; rfl
          · rw [Ts.goals_app, ← Bool.and_assoc, HD.out]; rfl
      | true =>
        go_wp2_with fail
        refine (small_any vars k1 n1 s1 ar _ _ (hv1.below hX) hnod).mono ?_
        rintro e w2 ⟨rfl, hb2⟩
        have hb3 := hX'.trans (hb2.mono hX'.size)
        generalize hgb : gB vars k1 n1 s1 ar = gb
        have HGB := Lib.hid hgb
        clear hgb
        go_wp2_with fail
        go_roundg r.length
        case measure => rw [HG.out]; simp [Ts.length]
        case rel =>
          refine ⟨D.app (.cons k1 n1 s1 ar .nil), r, ?_, rfl, ?_, ?_, hb3⟩
          · rw [HT.out, Ts.app_assoc]; rfl
          · rw [Ts.length_app]; rfl
          · rw [Ts.goals_app, ← Bool.and_assoc, HD.out, Ts.goals, Ts.goals, HGB.out, Bool.and_true, Bool.true_and]
end Go.Proofs.YtdiophafmokfiaaDoor
