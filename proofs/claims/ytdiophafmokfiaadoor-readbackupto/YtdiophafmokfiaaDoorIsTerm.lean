/-
  The reference's IsTerm says of every term whether it is good, to the bottom.
-/
import Derived.Test.YtdiophafmokfiaaDoorIsName
import Derived.Test.YtdiophafmokfiaaDoorVisit
import Derived.Deep.LoopGhost
namespace Go.Proofs.YtdiophafmokfiaaDoor
open Go.RowKit

def IsTermSaid (vars : Int) (ar : Ts) : Prop := ∀ (k n : Int) (s : ByteArray) (v : Value) (w : World), Sl w (fun _ => True) v ar → ar.nodes ≤ 1048576 →
    Calls Tryd.prog 11 #[.agg #[.int .i64 k, .int .i64 n, .string s, v], .int .i64 vars] w fun e w' => e = .returned (.bool ((Ts.cons k n s ar .nil).good vars)) ∧ Below w.heap.size w w'

def ItRel (W : World) (T : Ts) (vars : Int) (g : Nat) (s11 : Value) (wr : World) : Prop := ∃ D R : Ts, T = D.app R ∧ D.good vars = true ∧ Below W.heap.size W wr ∧ g = R.length ∧ s11 = .int .i64 D.length
theorem Ts.good_app (v : Int) (D R : Ts) : (D.app R).good v = (D.good v && R.good v) := by
  induction D with
  | nil => rfl
  | cons k n b ar r _ ih => simp only [Ts.app, Ts.good, ih, Bool.and_assoc]
theorem Ts.good_one (v k n : Int) (s : ByteArray) (T : Ts) : (Ts.cons k n s T .nil).good v = (nodeB v k n s T.length && T.good v) := by simp [Ts.good]

set_option maxHeartbeats 1000000 in
theorem isTerm_of (vars : Int) (m : Nat) (ih : ∀ T : Ts, T.nodes < m → IsTermSaid vars T) (T : Ts) (hm : T.nodes ≤ m) : IsTermSaid vars T := by
  intro k n s v w hv hn
  obtain ⟨A, c, rfl, hs⟩ := hv.form
  have hle := T.length_le
  have hl : T.length ≤ 1048576 := by omega
  rw [Ts.good_one]
  generalize hres : (nodeB vars k n s T.length && T.good vars) = res
  have HR := Lib.hid hres
  clear hres
  have HN := Lib.hid hn
  have HM := Lib.hid hm
  clear hn hm
  go_enter Tryd.func11, Tryd.ntmps11
  go_wp2_with fail
  have hW0 : Below w.heap.size w (w.alloc (.cells #[.int .i64 k, .int .i64 n, .string s, .slice A T.length c] 24)) := (Below.refl _ _).alloc (Nat.le_refl _) _
  have bA := Plot.new w 24 #[.int .i64 k, .int .i64 n, .string s, .slice A T.length c]
  generalize w.alloc (.cells #[.int .i64 k, .int .i64 n, .string s, .slice A T.length c] 24) = W at *
  have hs1 := hs.below hW0
  have h0 : ItRel W T vars T.length (.int .i64 0) W := ⟨.nil, T, rfl, rfl, Below.refl _ _, rfl, rfl⟩
  go_loopg [11] T.length (ItRel W T vars)
  case atStart => exact h0
  case round =>
    clear h0
    obtain ⟨D, R, hT, hD, hb, hg, rfl⟩ := hrel
    have HG := Lib.hid hg
    clear hg
    cases R with
    | nil =>
      have eD : D = T := by rw [hT, Ts.app_nil]
      subst eD
      have HD := Lib.hid hD
      clear hD hT
      have bA := bA.below hb
      obtain ⟨p0, p1, p2, p3, _⟩ := bA.four
      have hB : Below w.heap.size w wr := hW0.trans (hb.mono hW0.size)
      clear hb hW0 bA hs1 hs hv hle
      have HE := Lib.hid (show nodeB vars k n s D.length = res by rw [← HR.out, HD.out, Bool.and_true])
      clear HR HD
      generalize D.length = l at *
      by_cases h0 : k = 0
      · subst h0
        have R := Lib.hid (show res = (decide (0 ≤ n) && decide (n < vars) && decide (s.toList = []) && decide (l = 0)) by rw [← HE.out]; simp [nodeB])
        go_wp2_with fail
        all_goals go_ret
        all_goals refine ⟨?_, hB⟩
        all_goals rw [R.out]
        all_goals refine ret_bool ?_
        all_goals rw [Bool.eq_iff_iff]
        all_goals simp [*]
        all_goals try omega
      have g0 : (k == 0) = false := by simpa using h0
      by_cases h1 : k = 1
      · subst h1
        have R := Lib.hid (show res = (decide (n = 0) && nameB s && decide (l = 0)) by rw [← HE.out]; simp [nodeB])
        clear h0 g0
        cases hb : nameB s
        all_goals
          have HB := Lib.hid hb
          clear hb
          go_wp2_with (go_at_call 9; refine (isName_any _ _).mono ?_; rintro e w' ⟨rfl, hB2⟩; rw [HB.out]; have hB := hB.trans (hB2.mono hB.size))
          all_goals go_ret
          all_goals refine ⟨?_, hB⟩
          all_goals rw [R.out, HB.out]
          all_goals refine ret_bool ?_
          all_goals rw [Bool.eq_iff_iff]
          all_goals simp [*]
          all_goals try omega
      have g1 : (k == 1) = false := by simpa using h1
      by_cases h2 : k = 2
      · subst h2
        have R := Lib.hid (show res = (decide (-1099511627776 ≤ n) && decide (n ≤ 1099511627776) && decide (s.toList = []) && decide (l = 0)) by rw [← HE.out]; simp [nodeB])
        clear h0 g0 h1 g1
        go_wp2_with fail
        all_goals go_ret
        all_goals refine ⟨?_, hB⟩
        all_goals rw [R.out]
        all_goals refine ret_bool ?_
        all_goals rw [Bool.eq_iff_iff]
        all_goals simp [*]
        all_goals try omega
      have g2 : (k == 2) = false := by simpa using h2
      by_cases h3 : k = 3
      · subst h3
        clear h0 g0 h1 g1 h2 g2
        have R := Lib.hid (show res = (decide (n = 0) && nameB s && decide (¬ s.toList = [33]) && decide (1 ≤ l) && decide (l ≤ 4)) by rw [← HE.out]; simp [nodeB])
        cases hb : nameB s
        all_goals
          have HB := Lib.hid hb
          clear hb
          go_wp2_with (go_at_call 9; refine (isName_any _ _).mono ?_; rintro e w' ⟨rfl, hB2⟩; rw [HB.out]; have hB := hB.trans (hB2.mono hB.size))
          all_goals go_ret
          all_goals refine ⟨?_, hB⟩
          all_goals rw [R.out, HB.out]
          all_goals refine ret_bool ?_
          all_goals rw [Bool.eq_iff_iff]
          all_goals simp [*]
          all_goals try omega
      have g3 : (k == 3) = false := by simpa using h3
      have R := Lib.hid (show res = false by rw [← HE.out]; simp [nodeB, h0, h1, h2, h3])
      clear h0 h1 h2 h3
      go_wp2_with fail
      go_ret
      exact ⟨by rw [R.out]; rfl, hB⟩
    | cons k1 n1 s1 ar r =>
      have e1 : D.length < T.length := by rw [hT, Ts.length_app]; simp [Ts.length]
      have e2 : ar.nodes < m := by have := HM.out; rw [hT, Ts.nodes_app] at this; simp [Ts.nodes] at this; omega
      have e3 : ar.nodes ≤ 1048576 := by have := HN.out; rw [hT, Ts.nodes_app] at this; simp [Ts.nodes] at this; omega
      have hsl : Sl wr (fun _ => True) (.slice A T.length c) (D.app (.cons k1 n1 s1 ar r)) := by
        rw [← hT]
        exact hs1.below hb
      obtain ⟨b1, o1, rfl, hq1⟩ := Sl.at_ hsl (by simp [Ts.length])
      obtain ⟨_, c10, c11, c12, ⟨v1, c13, hv1⟩, _⟩ := seg_cons.1 hq1
      obtain ⟨A1, d1, rfl, hv1⟩ := hv1.form
      have HT := Lib.hid hT
      have HD := Lib.hid hD
      clear hq1 hsl hT hD
      have hgood : T.good vars = ((Ts.cons k1 n1 s1 ar .nil).good vars && r.good vars) := by
        rw [HT.out, Ts.good_app, HD.out]; simp [Ts.good]
      have hnext : (Ts.cons k1 n1 s1 ar .nil).good vars = true → (D.app (.cons k1 n1 s1 ar .nil)).good vars = true := fun h => by rw [Ts.good_app, HD.out, h]; rfl
      have HGD := Lib.hid hgood
      have HNX := Lib.hid hnext
      clear hgood hnext
      go_wp2_with fail
      refine (ih ar e2 k1 n1 s1 _ _ (hv1.below ((Below.refl _ _).alloc (Nat.le_refl _) _)) e3).mono ?_
      rintro e w2 ⟨rfl, hb2⟩
      have hb3 : Below W.heap.size W w2 := (hb.trans (((Below.refl _ _).alloc (Nat.le_refl _) _).mono hb.size)).trans (hb2.mono (by have := hb.size; simp; omega))
      cases hx : (Ts.cons k1 n1 s1 ar .nil).good vars with
      | false =>
        go_wp2_with fail
        go_ret
        refine ⟨?_, hW0.trans (hb3.mono hW0.size)⟩
        rw [← HR.out, HGD.out, hx]; simp
      | true =>
        go_wp2_with fail
        go_roundg r.length
        case measure => rw [HG.out]; simp [Ts.length]
        case rel =>
          refine ⟨D.app (.cons k1 n1 s1 ar .nil), r, ?_, HNX.out hx, hb3, rfl, ?_⟩
          · rw [HT.out, Ts.app_assoc]; rfl
          · rw [Ts.length_app]; rfl

theorem isTerm_said (vars : Int) (T : Ts) : IsTermSaid vars T := by
  have : ∀ m, ∀ T : Ts, T.nodes < m → IsTermSaid vars T := by
    intro m
    induction m with
    | zero => intro T h; omega
    | succ m ih => intro T h; exact isTerm_of vars m ih T (by omega)
  exact this _ T (Nat.lt_succ_self _)
end Go.Proofs.YtdiophafmokfiaaDoor
