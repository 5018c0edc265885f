/- Goals, Query, Clause: texts that follow one another, laid into one file. -/
import Derived.Test.YtdiophafmokfiaaGreatDoorG12
import Derived.Test.YtdiophafmokfiaaGreatDoorG13
namespace Go.Proofs.YtdiophafmokfiaaGreatDoor
open Go.RowKit

/-- Is it a good goal? -/
def gB (vars k n : Int) (s : ByteArray) (T : Ts) : Bool := goalB k && (Ts.cons k n s T .nil).good vars && decide (T.nodes + 1 ≤ 24)

set_option maxHeartbeats 1000000 in
theorem goodGoal_any (vars k n : Int) (s : ByteArray) (T : Ts) (v : Value) (w : World) (hv : Sl w (fun _ => True) v T) (hn : T.nodes < 1048576) :
    Calls Tryz.prog 44 #[.agg #[.int .i64 k, .int .i64 n, .string s, v], .int .i64 vars] w fun e w' => e = .returned (.bool (gB vars k n s T)) ∧ Below w.heap.size w w' := by
  obtain ⟨A, c, rfl, hs⟩ := hv.form
  generalize hr : gB vars k n s T = rb
  have R := Lib.hid hr
  clear hr
  go_enter Tryz.func44, Tryz.ntmps44
  go_wp2_with fail
  have hW0 : Below w.heap.size w (w.alloc (.cells #[.int .i64 k, .int .i64 n, .string s, .slice A T.length c] 31)) := (Below.refl _ _).alloc (Nat.le_refl _) _
  have bA := Plot.new w 31 #[.int .i64 k, .int .i64 n, .string s, .slice A T.length c]
  generalize (w.alloc (.cells #[.int .i64 k, .int .i64 n, .string s, .slice A T.length c] 31)) = W0 at *
  have hs0 := hs.below hW0
  refine (goal_any k n s _ W0).mono ?_
  rintro e w1 ⟨rfl, hb1⟩
  have hW1 := hW0.trans (hb1.mono hW0.size)
  have bA1 := bA.below hb1
  have hs1 := hs0.below hb1
  cases hg : goalB k with
  | false =>
    go_wp2_with fail
    go_ret
    refine ⟨?_, hW1⟩
    rw [← R.out, gB, hg]; rfl
  | true =>
    have HGK := Lib.hid hg
    clear hg
    obtain ⟨p0, p1, p2, p3, _⟩ := bA1.four
    go_wp2_with fail
    refine (fits_any k n s T _ _ hs1 (by omega)).mono ?_
    rintro e w2 ⟨rfl, hb2⟩
    have hW2 := hW1.trans (hb2.mono hW1.size)
    have bA2 := bA1.below hb2
    have hs2 := hs1.below hb2
    clear p0 p1 p2 p3
    generalize hf : decide (T.nodes + 1 ≤ 24) = fb
    have HF := Lib.hid hf
    clear hf
    obtain ⟨p0, p1, p2, p3, _⟩ := bA2.four
    cases fb with
    | false =>
      go_wp2_with fail
      go_ret
      refine ⟨?_, hW2⟩
      rw [← R.out, gB, HF.out, Bool.and_false]; rfl
    | true =>
      go_wp2_with fail
      refine (good_any k n vars s T _ _ hs2 hn).mono ?_
      rintro e w3 ⟨rfl, hb3⟩
      generalize hq : (Ts.cons k n s T .nil).good vars = qb
      have HQ := Lib.hid hq
      clear hq
      go_wp2_with fail
      go_ret
      refine ⟨?_, hW2.trans (hb3.mono hW2.size)⟩
      rw [← R.out, gB, HGK.out, HF.out, HQ.out, Bool.and_true, Bool.true_and]; rfl

set_option maxHeartbeats 1000000 in
theorem small_any (vars k n : Int) (s : ByteArray) (T : Ts) (v : Value) (w : World) (hv : Sl w (fun _ => True) v T) (hn : T.nodes < 1048576) :
    Calls Tryz.prog 42 #[.agg #[.int .i64 k, .int .i64 n, .string s, v], .int .i64 vars] w fun e w' => e = .returned (.bool (gB vars k n s T)) ∧ Below w.heap.size w w' := by
  obtain ⟨A, c, rfl, hs⟩ := hv.form
  generalize hr : gB vars k n s T = rb
  have R := Lib.hid hr
  clear hr
  have hW0 : Below w.heap.size w (w.alloc (.cells #[.int .i64 k, .int .i64 n, .string s, .slice A T.length c] 31)) := (Below.refl _ _).alloc (Nat.le_refl _) _
  have hs0 := hs.below hW0
  by_cases hg : goalB k = true
  · have hk : k = 1 ∨ k = 3 := by simpa [goalB] using hg
    have HGK := Lib.hid hg
    clear hg
    have hk' : ((k == 1) = true ∧ True) ∨ ((k == 1) = false ∧ (k == 3) = true) := by
      rcases hk with rfl | rfl
      · exact .inl ⟨rfl, trivial⟩
      · exact .inr ⟨rfl, rfl⟩
    clear hk
    rcases hk' with ⟨g1, g3⟩ | ⟨g1, g3⟩
    all_goals
      have bA := Plot.new w 31 #[.int .i64 k, .int .i64 n, .string s, .slice A T.length c]
      go_enter Tryz.func42, Tryz.ntmps42
      go_wp2_with fail
      refine (isTerm_said vars T k n s _ _ hs0 (by omega)).mono ?_
      rintro e w1 ⟨rfl, hb1⟩
      have hW1 := hW0.trans (hb1.mono hW0.size)
      have bA1 := bA.below hb1
      have hs1 := hs0.below hb1
      generalize hq : (Ts.cons k n s T .nil).good vars = qb
      have HQ := Lib.hid hq
      clear hq
      obtain ⟨p0, p1, p2, p3, _⟩ := bA1.four
      cases qb with
      | false =>
        go_wp2_with fail
        go_ret
        refine ⟨?_, hW1⟩
        rw [← R.out, gB, HQ.out, Bool.and_false, Bool.false_and]; rfl
      | true =>
        go_wp2_with fail
        refine (nodesOf_any k n s T _ _ hs1 hn).mono ?_
        rintro e w2 ⟨rfl, hb2⟩
        generalize hN : T.nodes + 1 = N
        have HN := Lib.hid hN
        clear hN
        go_wp2_with fail
        go_ret
        refine ⟨?_, hW1.trans (hb2.mono hW1.size)⟩
        rw [← R.out, gB, HGK.out, HQ.out, HN.out, Bool.true_and, Bool.true_and]
        refine ret_bool ?_
        rw [Bool.eq_iff_iff]
        simp
        try omega
  · have hk : ¬ k = 1 ∧ ¬ k = 3 := by simpa [goalB] using hg
    have g1 : (k == 1) = false := by simpa using hk.1
    have g3 : (k == 3) = false := by simpa using hk.2
    have HGK : Hid (goalB k = false) := Lib.hid (by simpa using hg)
    clear hg hk
    go_enter Tryz.func42, Tryz.ntmps42
    go_wp2_with fail
    go_ret
    refine ⟨?_, hW0⟩
    rw [← R.out, gB, HGK.out]; rfl
end Go.Proofs.YtdiophafmokfiaaGreatDoor
namespace Go.Proofs.YtdiophafmokfiaaGreatDoor
open Go.RowKit

/-- Are all of them good goals? -/
def Ts.goals (vars : Int) : Ts → Bool
  | .nil => true
  | .cons k n s ar r => gB vars k n s ar && r.goals vars
theorem Ts.goals_app (v : Int) (D R : Ts) : (D.app R).goals v = (D.goals v && R.goals v) := by
  induction D with
  | nil => rfl
  | cons k n b ar r _ ih => simp only [Ts.app, Ts.goals, ih, Bool.and_assoc]
def qB (vars : Int) (T : Ts) : Bool := decide (0 ≤ vars) && decide (vars ≤ 8) && decide (T.length ≤ 5) && T.goals vars

def GqLoop (w : World) (T : Ts) (vars : Int) (g : Nat) (sx : Value) (wr : World) : Prop := ∃ D R : Ts, T = D.app R ∧ g = R.length ∧ sx = .int .i64 D.length ∧ D.goals vars = true ∧ Below w.heap.size w wr
def IqLoop (w : World) (T : Ts) (vars : Int) (b : Bool) (g : Nat) (so sx : Value) (wr : World) : Prop := ∃ D R : Ts, T = D.app R ∧ g = R.length ∧ sx = .int .i64 D.length ∧ so = .bool (b && D.goals vars) ∧ Below w.heap.size w wr

set_option maxHeartbeats 1000000 in
theorem goodQuery_any (vars : Int) (T : Ts) (v : Value) (w : World) (hv : Sl w (fun _ => True) v T) (hn : T.nodes ≤ 1048576) :
    Calls Tryz.prog 26 #[v, .int .i64 vars] w fun e w' => e = .returned (.bool (qB vars T)) ∧ Below w.heap.size w w' := by
  obtain ⟨A, c, rfl, hs⟩ := hv.form
  have hle := T.length_le
  generalize hr : qB vars T = rb
  have R := Lib.hid hr
  clear hr
  by_cases h1 : vars < 0
  · have hq : Hid (rb = false) := Lib.hid (by rw [← R.out, qB]; simp; omega)
    go_enter Tryz.func26, Tryz.ntmps26
    go_wp2_with fail
    go_ret
    exact ⟨by rw [hq.out]; rfl, Below.refl _ _⟩
  by_cases h2 : 8 < vars
  · have hq : Hid (rb = false) := Lib.hid (by rw [← R.out, qB]; simp; omega)
    go_enter Tryz.func26, Tryz.ntmps26
    go_wp2_with fail
    go_ret
    exact ⟨by rw [hq.out]; rfl, Below.refl _ _⟩
  by_cases h3 : 5 < T.length
  · have hq : Hid (rb = false) := Lib.hid (by rw [← R.out, qB]; simp; omega)
    go_enter Tryz.func26, Tryz.ntmps26
    go_wp2_with fail
    go_ret
    exact ⟨by rw [hq.out]; rfl, Below.refl _ _⟩
  have hq : Hid (rb = T.goals vars) := Lib.hid (by rw [← R.out, qB]; simp; omega)
  have hl5 : T.length ≤ 5 := by omega
  have h0 : GqLoop w T vars T.length (.int .i64 0) w := ⟨.nil, T, rfl, rfl, rfl, rfl, Below.refl _ _⟩
  go_enter Tryz.func26, Tryz.ntmps26
  go_wp2_with fail
  go_loopg [20] T.length (GqLoop w T vars)
  case atStart => exact h0
  case round =>
    clear h0
    obtain ⟨D, R', hT, hg, rfl, hD, hb⟩ := hrel
    have HT := Lib.hid hT
    have HG := Lib.hid hg
    have HD := Lib.hid hD
    clear hT hg hD
    have hsr := hs.below hb
    cases R' with
    | nil =>
      have eD : D = T := by rw [HT.out, Ts.app_nil]
      subst eD
      go_wp2_with fail
      go_ret
      exact ⟨by rw [hq.out, HD.out]; rfl, hb⟩
    | cons k1 n1 s1 ar r =>
      have e1 : D.length < T.length := by rw [HT.out, Ts.length_app]; simp [Ts.length]
      have hnod : ar.nodes < 1048576 := by have := hn; rw [HT.out, Ts.nodes_app] at this; simp only [Ts.nodes] at this; omega
      rw [HT.out] at hsr
      rw [show (D.app (.cons k1 n1 s1 ar r)).length = T.length by rw [← HT.out]] at hsr
      obtain ⟨b1, o1, rfl, hq1⟩ := Sl.at_ hsr (by simp [Ts.length])
      obtain ⟨_, c10, c11, c12, ⟨v1, c13, hv1⟩, _⟩ := seg_cons.1 hq1
      obtain ⟨A1, d1, rfl, hv1⟩ := hv1.form
      clear hq1 hsr
      have hX : Below wr.heap.size wr (wr.alloc (.cells #[.int .i64 k1, .int .i64 n1, .string s1, .slice A1 ar.length d1] 31)) := (Below.refl _ _).alloc (Nat.le_refl _) _
      have hX' := hb.trans (hX.mono hb.size)
      go_wp2_with fail
      refine (goodGoal_any vars k1 n1 s1 ar _ _ (hv1.below hX) hnod).mono ?_
      rintro e w2 ⟨rfl, hb2⟩
      have hb3 := hX'.trans (hb2.mono hX'.size)
      generalize hgb : gB vars k1 n1 s1 ar = gb
      have HGB := Lib.hid hgb
      clear hgb
      cases gb with
      | false =>
        go_wp2_with fail
        go_ret
        refine ⟨?_, hb3⟩
        rw [hq.out, HT.out, Ts.goals_app, Ts.goals, HGB.out, Bool.false_and, Bool.and_false]; rfl
      | true =>
        go_wp2_with fail
        go_roundg r.length
        case measure => rw [HG.out]; simp [Ts.length]
        case rel =>
          refine ⟨D.app (.cons k1 n1 s1 ar .nil), r, ?_, rfl, ?_, ?_, hb3⟩
          · rw [HT.out, Ts.app_assoc]; rfl
          · rw [Ts.length_app]; rfl
          · rw [Ts.goals_app, HD.out, Ts.goals, HGB.out]; rfl

set_option maxHeartbeats 1000000 in
theorem isQuery_any (vars : Int) (T : Ts) (v : Value) (w : World) (hv : Sl w (fun _ => True) v T) (hn : T.nodes ≤ 1048576) :
    Calls Tryz.prog 27 #[v, .int .i64 vars] w fun e w' => e = .returned (.bool (qB vars T)) ∧ Below w.heap.size w w' := by
  obtain ⟨A, c, rfl, hs⟩ := hv.form
  have hle := T.length_le
  generalize hr : qB vars T = rb
  have R := Lib.hid hr
  clear hr
  have hF : IqLoop w T vars false T.length (.bool false) (.int .i64 0) w := ⟨.nil, T, rfl, rfl, rfl, rfl, Below.refl _ _⟩
  by_cases h1 : vars < 0
  · have hq : Hid (rb = (false && T.goals vars)) := Lib.hid (by rw [← R.out, qB]; simp; omega)
    have h0 := hF
    go_enter Tryz.func27, Tryz.ntmps27
    go_wp2_with fail
    go_loopg [5, 21] T.length (IqLoop w T vars false)
    case atStart => exact h0
    case round =>
      clear h0
      obtain ⟨D, R', hT, hg, rfl, rfl, hb⟩ := hrel
      have HT := Lib.hid hT
      have HG := Lib.hid hg
      clear hT hg
      have hsr := hs.below hb
      generalize hgd : (false && D.goals vars) = db
      have HD := Lib.hid hgd
      clear hgd
      cases R' with
      | nil =>
        have eD : D = T := by rw [HT.out, Ts.app_nil]
        subst eD
        go_wp2_with fail
        go_ret
        exact ⟨by rw [hq.out, ← HD.out]; rfl, hb⟩
      | cons k1 n1 s1 ar r =>
        have e1 : D.length < T.length := by rw [HT.out, Ts.length_app]; simp [Ts.length]
        have hnod : ar.nodes < 1048576 := by have := hn; rw [HT.out, Ts.nodes_app] at this; simp only [Ts.nodes] at this; omega
        rw [HT.out] at hsr
        rw [show (D.app (.cons k1 n1 s1 ar r)).length = T.length by rw [← HT.out]] at hsr
        obtain ⟨b1, o1, rfl, hq1⟩ := Sl.at_ hsr (by simp [Ts.length])
        obtain ⟨_, c10, c11, c12, ⟨v1, c13, hv1⟩, _⟩ := seg_cons.1 hq1
        obtain ⟨A1, d1, rfl, hv1⟩ := hv1.form
        clear hq1 hsr
        have hX : Below wr.heap.size wr (wr.alloc (.cells #[.int .i64 k1, .int .i64 n1, .string s1, .slice A1 ar.length d1] 31)) := (Below.refl _ _).alloc (Nat.le_refl _) _
        have hX' := hb.trans (hX.mono hb.size)
        cases db with
        | false =>
          go_wp2_with fail
          go_roundg r.length
          case measure => rw [HG.out]; simp [Ts.length]
          case rel =>
            refine ⟨D.app (.cons k1 n1 s1 ar .nil), r, ?_, rfl, ?_, ?_, hX'⟩
            · rw [HT.out, Ts.app_assoc]; rfl
            · rw [Ts.length_app]; rfl
            · rw [Ts.goals_app, ← Bool.and_assoc, HD.out]; rfl
        | true =>
          go_wp2_with fail
          refine (small_any vars k1 n1 s1 ar _ _ (hv1.below hX) hnod).mono ?_
          rintro e w2 ⟨rfl, hb2⟩
          have hb3 := hX'.trans (hb2.mono hX'.size)
          generalize hgb : gB vars k1 n1 s1 ar = gb
          have HGB := Lib.hid hgb
          clear hgb
          go_wp2_with fail
          go_roundg r.length
          case measure => rw [HG.out]; simp [Ts.length]
          case rel =>
            refine ⟨D.app (.cons k1 n1 s1 ar .nil), r, ?_, rfl, ?_, ?_, hb3⟩
            · rw [HT.out, Ts.app_assoc]; rfl
            · rw [Ts.length_app]; rfl
            · rw [Ts.goals_app, ← Bool.and_assoc, HD.out, Ts.goals, Ts.goals, HGB.out, Bool.and_true, Bool.true_and]
  by_cases h2 : 8 < vars
  · have hq : Hid (rb = (false && T.goals vars)) := Lib.hid (by rw [← R.out, qB]; simp; omega)
    have h0 := hF
    go_enter Tryz.func27, Tryz.ntmps27
    go_wp2_with fail
    go_loopg [5, 21] T.length (IqLoop w T vars false)
    case atStart => exact h0
    case round =>
      clear h0
      obtain ⟨D, R', hT, hg, rfl, rfl, hb⟩ := hrel
      have HT := Lib.hid hT
      have HG := Lib.hid hg
      clear hT hg
      have hsr := hs.below hb
      generalize hgd : (false && D.goals vars) = db
      have HD := Lib.hid hgd
      clear hgd
      cases R' with
      | nil =>
        have eD : D = T := by rw [HT.out, Ts.app_nil]
        subst eD
        go_wp2_with fail
        go_ret
        exact ⟨by rw [hq.out, ← HD.out]; rfl, hb⟩
      | cons k1 n1 s1 ar r =>
        have e1 : D.length < T.length := by rw [HT.out, Ts.length_app]; simp [Ts.length]
        have hnod : ar.nodes < 1048576 := by have := hn; rw [HT.out, Ts.nodes_app] at this; simp only [Ts.nodes] at this; omega
        rw [HT.out] at hsr
        rw [show (D.app (.cons k1 n1 s1 ar r)).length = T.length by rw [← HT.out]] at hsr
        obtain ⟨b1, o1, rfl, hq1⟩ := Sl.at_ hsr (by simp [Ts.length])
        obtain ⟨_, c10, c11, c12, ⟨v1, c13, hv1⟩, _⟩ := seg_cons.1 hq1
        obtain ⟨A1, d1, rfl, hv1⟩ := hv1.form
        clear hq1 hsr
        have hX : Below wr.heap.size wr (wr.alloc (.cells #[.int .i64 k1, .int .i64 n1, .string s1, .slice A1 ar.length d1] 31)) := (Below.refl _ _).alloc (Nat.le_refl _) _
        have hX' := hb.trans (hX.mono hb.size)
        cases db with
        | false =>
          go_wp2_with fail
          go_roundg r.length
          case measure => rw [HG.out]; simp [Ts.length]
          case rel =>
            refine ⟨D.app (.cons k1 n1 s1 ar .nil), r, ?_, rfl, ?_, ?_, hX'⟩
            · rw [HT.out, Ts.app_assoc]; rfl
            · rw [Ts.length_app]; rfl
            · rw [Ts.goals_app, ← Bool.and_assoc, HD.out]; rfl
        | true =>
          go_wp2_with fail
          refine (small_any vars k1 n1 s1 ar _ _ (hv1.below hX) hnod).mono ?_
          rintro e w2 ⟨rfl, hb2⟩
          have hb3 := hX'.trans (hb2.mono hX'.size)
          generalize hgb : gB vars k1 n1 s1 ar = gb
          have HGB := Lib.hid hgb
          clear hgb
          go_wp2_with fail
          go_roundg r.length
          case measure => rw [HG.out]; simp [Ts.length]
          case rel =>
            refine ⟨D.app (.cons k1 n1 s1 ar .nil), r, ?_, rfl, ?_, ?_, hb3⟩
            · rw [HT.out, Ts.app_assoc]; rfl
            · rw [Ts.length_app]; rfl
            · rw [Ts.goals_app, ← Bool.and_assoc, HD.out, Ts.goals, Ts.goals, HGB.out, Bool.and_true, Bool.true_and]
  by_cases h3 : 5 < T.length
  · have hq : Hid (rb = (false && T.goals vars)) := Lib.hid (by rw [← R.out, qB]; simp; omega)
    have hd : decide ((T.length : Int) ≤ 5) = false := by simp; omega
    have h0 := hF
    go_enter Tryz.func27, Tryz.ntmps27
    go_wp2_with fail
    go_loopg [5, 21] T.length (IqLoop w T vars false)
    case atStart => exact h0
    case round =>
      clear h0
      obtain ⟨D, R', hT, hg, rfl, rfl, hb⟩ := hrel
      have HT := Lib.hid hT
      have HG := Lib.hid hg
      clear hT hg
      have hsr := hs.below hb
      generalize hgd : (false && D.goals vars) = db
      have HD := Lib.hid hgd
      clear hgd
      cases R' with
      | nil =>
        have eD : D = T := by rw [HT.out, Ts.app_nil]
        subst eD
        go_wp2_with fail
        go_ret
        exact ⟨by rw [hq.out, ← HD.out]; rfl, hb⟩
      | cons k1 n1 s1 ar r =>
        have e1 : D.length < T.length := by rw [HT.out, Ts.length_app]; simp [Ts.length]
        have hnod : ar.nodes < 1048576 := by have := hn; rw [HT.out, Ts.nodes_app] at this; simp only [Ts.nodes] at this; omega
        rw [HT.out] at hsr
        rw [show (D.app (.cons k1 n1 s1 ar r)).length = T.length by rw [← HT.out]] at hsr
        obtain ⟨b1, o1, rfl, hq1⟩ := Sl.at_ hsr (by simp [Ts.length])
        obtain ⟨_, c10, c11, c12, ⟨v1, c13, hv1⟩, _⟩ := seg_cons.1 hq1
        obtain ⟨A1, d1, rfl, hv1⟩ := hv1.form
        clear hq1 hsr
        have hX : Below wr.heap.size wr (wr.alloc (.cells #[.int .i64 k1, .int .i64 n1, .string s1, .slice A1 ar.length d1] 31)) := (Below.refl _ _).alloc (Nat.le_refl _) _
        have hX' := hb.trans (hX.mono hb.size)
        cases db with
        | false =>
          go_wp2_with fail
          go_roundg r.length
          case measure => rw [HG.out]; simp [Ts.length]
          case rel =>
            refine ⟨D.app (.cons k1 n1 s1 ar .nil), r, ?_, rfl, ?_, ?_, hX'⟩
            · rw [HT.out, Ts.app_assoc]; rfl
            · rw [Ts.length_app]; rfl
            · rw [Ts.goals_app, ← Bool.and_assoc, HD.out]; rfl
        | true =>
          go_wp2_with fail
          refine (small_any vars k1 n1 s1 ar _ _ (hv1.below hX) hnod).mono ?_
          rintro e w2 ⟨rfl, hb2⟩
          have hb3 := hX'.trans (hb2.mono hX'.size)
          generalize hgb : gB vars k1 n1 s1 ar = gb
          have HGB := Lib.hid hgb
          clear hgb
          go_wp2_with fail
          go_roundg r.length
          case measure => rw [HG.out]; simp [Ts.length]
          case rel =>
            refine ⟨D.app (.cons k1 n1 s1 ar .nil), r, ?_, rfl, ?_, ?_, hb3⟩
            · rw [HT.out, Ts.app_assoc]; rfl
            · rw [Ts.length_app]; rfl
            · rw [Ts.goals_app, ← Bool.and_assoc, HD.out, Ts.goals, Ts.goals, HGB.out, Bool.and_true, Bool.true_and]
  have hq : Hid (rb = (true && T.goals vars)) := Lib.hid (by rw [← R.out, qB]; simp; omega)
  have hd : decide ((T.length : Int) ≤ 5) = true := by simp; omega
  have h0 : IqLoop w T vars true T.length (.bool true) (.int .i64 0) w := ⟨.nil, T, rfl, rfl, rfl, rfl, Below.refl _ _⟩
  clear hF
  go_enter Tryz.func27, Tryz.ntmps27
  go_wp2_with fail
  go_loopg [5, 21] T.length (IqLoop w T vars true)
  case atStart => exact h0
  case round =>
    clear h0
    obtain ⟨D, R', hT, hg, rfl, rfl, hb⟩ := hrel
    have HT := Lib.hid hT
    have HG := Lib.hid hg
    clear hT hg
    have hsr := hs.below hb
    generalize hgd : (true && D.goals vars) = db
    have HD := Lib.hid hgd
    clear hgd
    cases R' with
    | nil =>
      have eD : D = T := by rw [HT.out, Ts.app_nil]
      subst eD
      go_wp2_with fail
      go_ret
      exact ⟨by rw [hq.out, ← HD.out]; rfl, hb⟩
    | cons k1 n1 s1 ar r =>
      have e1 : D.length < T.length := by rw [HT.out, Ts.length_app]; simp [Ts.length]
      have hnod : ar.nodes < 1048576 := by have := hn; rw [HT.out, Ts.nodes_app] at this; simp only [Ts.nodes] at this; omega
      rw [HT.out] at hsr
      rw [show (D.app (.cons k1 n1 s1 ar r)).length = T.length by rw [← HT.out]] at hsr
      obtain ⟨b1, o1, rfl, hq1⟩ := Sl.at_ hsr (by simp [Ts.length])
      obtain ⟨_, c10, c11, c12, ⟨v1, c13, hv1⟩, _⟩ := seg_cons.1 hq1
      obtain ⟨A1, d1, rfl, hv1⟩ := hv1.form
      clear hq1 hsr
      have hX : Below wr.heap.size wr (wr.alloc (.cells #[.int .i64 k1, .int .i64 n1, .string s1, .slice A1 ar.length d1] 31)) := (Below.refl _ _).alloc (Nat.le_refl _) _
      have hX' := hb.trans (hX.mono hb.size)
      cases db with
      | false =>
        go_wp2_with fail
        go_roundg r.length
        case measure => rw [HG.out]; simp [Ts.length]
        case rel =>
          refine ⟨D.app (.cons k1 n1 s1 ar .nil), r, ?_, rfl, ?_, ?_, hX'⟩
          · rw [HT.out, Ts.app_assoc]; rfl
          · rw [Ts.length_app]; rfl
          · rw [Ts.goals_app, ← Bool.and_assoc, HD.out]; rfl
      | true =>
        go_wp2_with fail
        refine (small_any vars k1 n1 s1 ar _ _ (hv1.below hX) hnod).mono ?_
        rintro e w2 ⟨rfl, hb2⟩
        have hb3 := hX'.trans (hb2.mono hX'.size)
        generalize hgb : gB vars k1 n1 s1 ar = gb
        have HGB := Lib.hid hgb
        clear hgb
        go_wp2_with fail
        go_roundg r.length
        case measure => rw [HG.out]; simp [Ts.length]
        case rel =>
          refine ⟨D.app (.cons k1 n1 s1 ar .nil), r, ?_, rfl, ?_, ?_, hb3⟩
          · rw [HT.out, Ts.app_assoc]; rfl
          · rw [Ts.length_app]; rfl
          · rw [Ts.goals_app, ← Bool.and_assoc, HD.out, Ts.goals, Ts.goals, HGB.out, Bool.and_true, Bool.true_and]
end Go.Proofs.YtdiophafmokfiaaGreatDoor
namespace Go.Proofs.YtdiophafmokfiaaGreatDoor
open Go.RowKit

/-- A clause. -/
structure Cl where
  k : Int
  n : Int
  s : ByteArray
  hd : Ts
  bd : Ts
  vars : Int
def Cl.nodes (c : Cl) : Nat := c.hd.nodes + c.bd.nodes + 1
def nodesC : List Cl → Nat
  | [] => 0
  | c :: r => c.nodes + nodesC r
/-- Is it a good clause? -/
def cB (c : Cl) : Bool := qB c.vars c.bd && gB c.vars c.k c.n c.s c.hd && !builtB c.s.toList c.hd.length
/-- From cell o of block b on lie the clauses, six cells each; what they lean on is p's. -/
def SegC (w : World) (p : Nat → Prop) : List Cl → Nat → Nat → Prop
  | [], _, _ => True
  | c :: r, b, o => p b ∧ w.cell? ⟨b, o, none⟩ = some (.int .i64 c.k) ∧ w.cell? ⟨b, o + 1, none⟩ = some (.int .i64 c.n) ∧ w.cell? ⟨b, o + 2, none⟩ = some (.string c.s) ∧
    (∃ v, w.cell? ⟨b, o + 3, none⟩ = some v ∧ Sl w p v c.hd) ∧ (∃ v, w.cell? ⟨b, o + 4, none⟩ = some v ∧ Sl w p v c.bd) ∧ w.cell? ⟨b, o + 5, none⟩ = some (.int .i64 c.vars) ∧ SegC w p r b (o + 6)
def SlC (w : World) (p : Nat → Prop) (v : Value) (L : List Cl) : Prop := ∃ A c, v = .slice A L.length c ∧ L.length ≤ c ∧ (0 < L.length → ∃ b o, A = some ⟨b, o, none⟩ ∧ SegC w p L b o)

section
variable {w w' : World} {p q : Nat → Prop}
theorem SegC.keep {L : List Cl} : ∀ {b o : Nat}, SegC w p L b o → (∀ k, p k → k < w.heap.size → w'.heap[k]? = w.heap[k]?) → SegC w' p L b o := by
  induction L with
  | nil => intro b o _ _; trivial
  | cons c r ih =>
    intro b o ⟨h0, h1, h2, h3, ⟨v, h4, h5⟩, ⟨u, h6, h7⟩, h8, h9⟩ hk
    have hc : ∀ j, w'.cell? ⟨b, j, none⟩ = w.cell? ⟨b, j, none⟩ := fun j => World.cell?_of_block (hk b h0 (lt_of_cell h1))
    exact ⟨h0, (hc _).trans h1, (hc _).trans h2, (hc _).trans h3, ⟨v, (hc _).trans h4, h5.keep hk⟩, ⟨u, (hc _).trans h6, h7.keep hk⟩, (hc _).trans h8, ih h9 hk⟩
theorem SegC.imp {L : List Cl} : ∀ {b o : Nat}, SegC w p L b o → (∀ k, p k → k < w.heap.size → q k) → SegC w q L b o := by
  induction L with
  | nil => intro b o _ _; trivial
  | cons c r ih =>
    intro b o ⟨h0, h1, h2, h3, ⟨v, h4, h5⟩, ⟨u, h6, h7⟩, h8, h9⟩ hk
    exact ⟨hk b h0 (lt_of_cell h1), h1, h2, h3, ⟨v, h4, h5.imp hk⟩, ⟨u, h6, h7.imp hk⟩, h8, ih h9 hk⟩
theorem SlC.keep {L : List Cl} {v : Value} (h : SlC w p v L) (hk : ∀ k, p k → k < w.heap.size → w'.heap[k]? = w.heap[k]?) : SlC w' p v L := by
  obtain ⟨A, c, e, hl, hs⟩ := h
  exact ⟨A, c, e, hl, fun h => by obtain ⟨b, o, e, h⟩ := hs h; exact ⟨b, o, e, h.keep hk⟩⟩
theorem SlC.imp {L : List Cl} {v : Value} (h : SlC w p v L) (hk : ∀ k, p k → k < w.heap.size → q k) : SlC w q v L := by
  obtain ⟨A, c, e, hl, hs⟩ := h
  exact ⟨A, c, e, hl, fun h => by obtain ⟨b, o, e, h⟩ := hs h; exact ⟨b, o, e, h.imp hk⟩⟩
theorem SlC.below {L : List Cl} {v : Value} (h : SlC w p v L) (hb : Below w.heap.size w w') : SlC w' p v L := h.keep fun k _ hk => hb.block k hk
theorem SlC.any {L : List Cl} {v : Value} (h : SlC w p v L) : SlC w (fun _ => True) v L := h.imp fun _ _ _ => trivial
theorem SlC.form {L : List Cl} {v : Value} (h : SlC w p v L) : ∃ A c, v = .slice A L.length c ∧ SlC w p (.slice A L.length c) L := by
  obtain ⟨A, c, rfl, h2⟩ := h
  exact ⟨A, c, rfl, A, c, rfl, h2⟩
theorem SegC.skip {R : List Cl} {b : Nat} : ∀ {D : List Cl} {o : Nat}, SegC w p (D ++ R) b o → SegC w p R b (o + D.length * 6)
  | [], o, h => by simpa using h
  | c :: D, o, ⟨_, _, _, _, _, _, _, h⟩ => by
    have := SegC.skip (R := R) (D := D) h
    rwa [show o + 6 + D.length * 6 = o + (c :: D).length * 6 by simp; omega] at this
theorem SlC.at_ {A : Option Addr} {len c : Nat} {D R : List Cl} (h : SlC w p (.slice A len c) (D ++ R)) (hR : 0 < R.length) : ∃ b o, A = some ⟨b, o, none⟩ ∧ SegC w p R b (o + D.length * 6) := by
  obtain ⟨A', c', e, hl, hs⟩ := h
  cases e
  obtain ⟨b, o, e, h⟩ := hs (by rw [List.length_append]; omega)
  exact ⟨b, o, e, h.skip⟩
end

set_option maxHeartbeats 1000000 in
theorem goodClause_any (c : Cl) (u v : Value) (w : World) (hu : Sl w (fun _ => True) u c.hd) (hv : Sl w (fun _ => True) v c.bd) (h1 : c.hd.nodes < 1048576) (h2 : c.bd.nodes ≤ 1048576) :
    Calls Tryz.prog 36 #[.agg #[.int .i64 c.k, .int .i64 c.n, .string c.s, u, v, .int .i64 c.vars]] w fun e w' => e = .returned (.bool (cB c)) ∧ Below w.heap.size w w' := by
  obtain ⟨A, d, rfl, hu⟩ := hu.form
  obtain ⟨A', d', rfl, hv⟩ := hv.form
  generalize hr : cB c = rb
  have R := Lib.hid hr
  clear hr
  go_enter Tryz.func36, Tryz.ntmps36
  go_wp2_with fail
  have hW0 : Below w.heap.size w (w.alloc (.cells #[.int .i64 c.k, .int .i64 c.n, .string c.s, .slice A c.hd.length d, .slice A' c.bd.length d', .int .i64 c.vars] 44)) := (Below.refl _ _).alloc (Nat.le_refl _) _
  have bA := Plot.new w 44 #[.int .i64 c.k, .int .i64 c.n, .string c.s, .slice A c.hd.length d, .slice A' c.bd.length d', .int .i64 c.vars]
  generalize (w.alloc (.cells #[.int .i64 c.k, .int .i64 c.n, .string c.s, .slice A c.hd.length d, .slice A' c.bd.length d', .int .i64 c.vars] 44)) = W0 at *
  have hu0 := hu.below hW0
  refine (goodQuery_any c.vars c.bd _ W0 (hv.below hW0) h2).mono ?_
  rintro e w1 ⟨rfl, hb1⟩
  have hW1 := hW0.trans (hb1.mono hW0.size)
  have bA1 := bA.below hb1
  have hu1 := hu0.below hb1
  generalize hq : qB c.vars c.bd = qb
  have HQ := Lib.hid hq
  clear hq
  cases qb with
  | false =>
    go_wp2_with fail
    go_ret
    refine ⟨?_, hW1⟩
    rw [← R.out, cB, HQ.out]; rfl
  | true =>
    have p0 := bA1.cell 0
    have p1 := bA1.cell 1
    have p2 := bA1.cell 2
    have p3 := bA1.cell 3
    have p5 := bA1.cell 5
    simp at p0 p1 p2 p3 p5
    go_wp2_with fail
    refine (goodGoal_any c.vars c.k c.n c.s c.hd _ _ hu1 h1).mono ?_
    rintro e w2 ⟨rfl, hb2⟩
    have hW2 := hW1.trans (hb2.mono hW1.size)
    have bA2 := bA1.below hb2
    clear p0 p1 p2 p3 p5
    generalize hg : gB c.vars c.k c.n c.s c.hd = gb
    have HGB := Lib.hid hg
    clear hg
    cases gb with
    | false =>
      go_wp2_with fail
      go_ret
      refine ⟨?_, hW2⟩
      rw [← R.out, cB, HGB.out, Bool.and_false]; rfl
    | true =>
      have p0 := bA2.cell 0
      have p1 := bA2.cell 1
      have p2 := bA2.cell 2
      have p3 := bA2.cell 3
      simp at p0 p1 p2 p3
      go_wp2_with fail
      refine (builtin_any c.k c.n c.s A c.hd.length d _).mono ?_
      rintro e w3 ⟨rfl, hb3⟩
      generalize hbb : builtB c.s.toList c.hd.length = bb
      have HBT := Lib.hid hbb
      clear hbb
      go_wp2_with fail
      go_ret
      refine ⟨?_, hW2.trans (hb3.mono hW2.size)⟩
      rw [← R.out, cB, HQ.out, HGB.out, HBT.out, Bool.true_and]; rfl

set_option maxHeartbeats 1000000 in
theorem isClause_any (c : Cl) (u v : Value) (w : World) (hu : Sl w (fun _ => True) u c.hd) (hv : Sl w (fun _ => True) v c.bd) (h1 : c.hd.nodes < 1048576) (h2 : c.bd.nodes ≤ 1048576) :
    Calls Tryz.prog 22 #[.agg #[.int .i64 c.k, .int .i64 c.n, .string c.s, u, v, .int .i64 c.vars]] w fun e w' => e = .returned (.bool (cB c)) ∧ Below w.heap.size w w' := by
  obtain ⟨A, d, rfl, hu⟩ := hu.form
  obtain ⟨A', d', rfl, hv⟩ := hv.form
  generalize hr : cB c = rb
  have R := Lib.hid hr
  clear hr
  go_enter Tryz.func22, Tryz.ntmps22
  go_wp2_with fail
  have hW0 : Below w.heap.size w (w.alloc (.cells #[.int .i64 c.k, .int .i64 c.n, .string c.s, .slice A c.hd.length d, .slice A' c.bd.length d', .int .i64 c.vars] 44)) := (Below.refl _ _).alloc (Nat.le_refl _) _
  have bA := Plot.new w 44 #[.int .i64 c.k, .int .i64 c.n, .string c.s, .slice A c.hd.length d, .slice A' c.bd.length d', .int .i64 c.vars]
  generalize (w.alloc (.cells #[.int .i64 c.k, .int .i64 c.n, .string c.s, .slice A c.hd.length d, .slice A' c.bd.length d', .int .i64 c.vars] 44)) = W0 at *
  have hu0 := hu.below hW0
  refine (isQuery_any c.vars c.bd _ W0 (hv.below hW0) h2).mono ?_
  rintro e w1 ⟨rfl, hb1⟩
  have hW1 := hW0.trans (hb1.mono hW0.size)
  have bA1 := bA.below hb1
  have hu1 := hu0.below hb1
  generalize hq : qB c.vars c.bd = qb
  have HQ := Lib.hid hq
  clear hq
  cases qb with
  | false =>
    go_wp2_with fail
    go_ret
    refine ⟨?_, hW1⟩
    rw [← R.out, cB, HQ.out]; rfl
  | true =>
    have p0 := bA1.cell 0
    have p1 := bA1.cell 1
    have p2 := bA1.cell 2
    have p3 := bA1.cell 3
    have p5 := bA1.cell 5
    simp at p0 p1 p2 p3 p5
    go_wp2_with fail
    refine (small_any c.vars c.k c.n c.s c.hd _ _ hu1 h1).mono ?_
    rintro e w2 ⟨rfl, hb2⟩
    have hW2 := hW1.trans (hb2.mono hW1.size)
    have bA2 := bA1.below hb2
    clear p0 p1 p2 p3 p5
    generalize hg : gB c.vars c.k c.n c.s c.hd = gb
    have HGB := Lib.hid hg
    clear hg
    cases gb with
    | false =>
      go_wp2_with fail
      go_ret
      refine ⟨?_, hW2⟩
      rw [← R.out, cB, HGB.out, Bool.and_false]; rfl
    | true =>
      have p0 := bA2.cell 0
      have p1 := bA2.cell 1
      have p2 := bA2.cell 2
      have p3 := bA2.cell 3
      simp at p0 p1 p2 p3
      go_wp2_with fail
      refine (everybody_any c.k c.n c.s A c.hd.length d _).mono ?_
      rintro e w3 ⟨rfl, hb3⟩
      generalize hbb : builtB c.s.toList c.hd.length = bb
      have HBT := Lib.hid hbb
      clear hbb
      go_wp2_with fail
      go_ret
      refine ⟨?_, hW2.trans (hb3.mono hW2.size)⟩
      rw [← R.out, cB, HQ.out, HGB.out, HBT.out, Bool.true_and]; rfl
end Go.Proofs.YtdiophafmokfiaaGreatDoor
