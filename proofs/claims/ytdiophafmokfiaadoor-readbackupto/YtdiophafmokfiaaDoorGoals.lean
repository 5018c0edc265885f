/-
  goodGoal and the reference's small say of every term whether it is a good goal; GoodQuery and IsQuery of every list of terms whether it is a query.
-/
import Derived.Test.YtdiophafmokfiaaDoorIsTerm
import Derived.Test.YtdiophafmokfiaaDoorNodesOf
import Derived.Test.YtdiophafmokfiaaDoorBuilt
import Derived.Test.YtdiophafmokfiaaDoorFits
namespace Go.Proofs.YtdiophafmokfiaaDoor
open Go.RowKit

/-- Is it a good goal? -/
def gB (vars k n : Int) (s : ByteArray) (T : Ts) : Bool := goalB k && (Ts.cons k n s T .nil).good vars && decide (T.nodes + 1 ≤ 24)

set_option maxHeartbeats 1000000 in
theorem goodGoal_any (vars k n : Int) (s : ByteArray) (T : Ts) (v : Value) (w : World) (hv : Sl w (fun _ => True) v T) (hn : T.nodes < 1048576) :
    Calls Tryd.prog 43 #[.agg #[.int .i64 k, .int .i64 n, .string s, v], .int .i64 vars] w fun e w' => e = .returned (.bool (gB vars k n s T)) ∧ Below w.heap.size w w' := by
  obtain ⟨A, c, rfl, hs⟩ := hv.form
  generalize hr : gB vars k n s T = rb
  have R := Lib.hid hr
  clear hr
  go_enter Tryd.func43, Tryd.ntmps43
  go_wp2_with fail
  have hW0 : Below w.heap.size w (w.alloc (.cells #[.int .i64 k, .int .i64 n, .string s, .slice A T.length c] 24)) := (Below.refl _ _).alloc (Nat.le_refl _) _
  have bA := Plot.new w 24 #[.int .i64 k, .int .i64 n, .string s, .slice A T.length c]
  generalize (w.alloc (.cells #[.int .i64 k, .int .i64 n, .string s, .slice A T.length c] 24)) = W0 at *
  have hs0 := hs.below hW0
  refine (goal_any k n s _ W0).mono ?_
  rintro e w1 ⟨rfl, hb1⟩
  have hW1 := hW0.trans (hb1.mono hW0.size)
  have bA1 := bA.below hb1
  have hs1 := hs0.below hb1
  cases hg : goalB k with
  | false =>
    go_wp2_with fail
    go_ret
    refine ⟨?_, hW1⟩
    rw [← R.out, gB, hg]; rfl
  | true =>
    have HGK := Lib.hid hg
    clear hg
    obtain ⟨p0, p1, p2, p3, _⟩ := bA1.four
    go_wp2_with fail
    refine (fits_any k n s T _ _ hs1 (by omega)).mono ?_
    rintro e w2 ⟨rfl, hb2⟩
    have hW2 := hW1.trans (hb2.mono hW1.size)
    have bA2 := bA1.below hb2
    have hs2 := hs1.below hb2
    clear p0 p1 p2 p3
    generalize hf : decide (T.nodes + 1 ≤ 24) = fb
    have HF := Lib.hid hf
    clear hf
    obtain ⟨p0, p1, p2, p3, _⟩ := bA2.four
    cases fb with
    | false =>
      go_wp2_with fail
      go_ret
      refine ⟨?_, hW2⟩
      rw [← R.out, gB, HF.out, Bool.and_false]; rfl
    | true =>
      go_wp2_with fail
      refine (good_any k n vars s T _ _ hs2 hn).mono ?_
      rintro e w3 ⟨rfl, hb3⟩
      generalize hq : (Ts.cons k n s T .nil).good vars = qb
      have HQ := Lib.hid hq
      clear hq
      go_wp2_with fail
      go_ret
      refine ⟨?_, hW2.trans (hb3.mono hW2.size)⟩
      rw [← R.out, gB, HGK.out, HF.out, HQ.out, Bool.and_true, Bool.true_and]; rfl

set_option maxHeartbeats 1000000 in
theorem small_any (vars k n : Int) (s : ByteArray) (T : Ts) (v : Value) (w : World) (hv : Sl w (fun _ => True) v T) (hn : T.nodes < 1048576) :
    Calls Tryd.prog 44 #[.agg #[.int .i64 k, .int .i64 n, .string s, v], .int .i64 vars] w fun e w' => e = .returned (.bool (gB vars k n s T)) ∧ Below w.heap.size w w' := by
  obtain ⟨A, c, rfl, hs⟩ := hv.form
  generalize hr : gB vars k n s T = rb
  have R := Lib.hid hr
  clear hr
  have hW0 : Below w.heap.size w (w.alloc (.cells #[.int .i64 k, .int .i64 n, .string s, .slice A T.length c] 24)) := (Below.refl _ _).alloc (Nat.le_refl _) _
  have hs0 := hs.below hW0
  by_cases hg : goalB k = true
  · have hk : k = 1 ∨ k = 3 := by simpa [goalB] using hg
    have HGK := Lib.hid hg
    clear hg
    have hk' : ((k == 1) = true ∧ True) ∨ ((k == 1) = false ∧ (k == 3) = true) := by
      rcases hk with rfl | rfl
      · exact .inl ⟨rfl, trivial⟩
      · exact .inr ⟨rfl, rfl⟩
    clear hk
    rcases hk' with ⟨g1, g3⟩ | ⟨g1, g3⟩
    all_goals
      have bA := Plot.new w 24 #[.int .i64 k, .int .i64 n, .string s, .slice A T.length c]
      go_enter Tryd.func44, Tryd.ntmps44
      go_wp2_with fail
      refine (isTerm_said vars T k n s _ _ hs0 (by omega)).mono ?_
      rintro e w1 ⟨rfl, hb1⟩
      have hW1 := hW0.trans (hb1.mono hW0.size)
      have bA1 := bA.below hb1
      have hs1 := hs0.below hb1
      generalize hq : (Ts.cons k n s T .nil).good vars = qb
      have HQ := Lib.hid hq
      clear hq
      obtain ⟨p0, p1, p2, p3, _⟩ := bA1.four
      cases qb with
      | false =>
        go_wp2_with fail
        go_ret
        refine ⟨?_, hW1⟩
        rw [← R.out, gB, HQ.out, Bool.and_false, Bool.false_and]; rfl
      | true =>
        go_wp2_with fail
        refine (nodesOf_any k n s T _ _ hs1 hn).mono ?_
        rintro e w2 ⟨rfl, hb2⟩
        generalize hN : T.nodes + 1 = N
        have HN := Lib.hid hN
        clear hN
        go_wp2_with fail
        go_ret
        refine ⟨?_, hW1.trans (hb2.mono hW1.size)⟩
        rw [← R.out, gB, HGK.out, HQ.out, HN.out, Bool.true_and, Bool.true_and]
        refine ret_bool ?_
        rw [Bool.eq_iff_iff]
        simp
        try omega
  · have hk : ¬ k = 1 ∧ ¬ k = 3 := by simpa [goalB] using hg
    have g1 : (k == 1) = false := by simpa using hk.1
    have g3 : (k == 3) = false := by simpa using hk.2
    have HGK : Hid (goalB k = false) := Lib.hid (by simpa using hg)
    clear hg hk
    go_enter Tryd.func44, Tryd.ntmps44
    go_wp2_with fail
    go_ret
    refine ⟨?_, hW0⟩
    rw [← R.out, gB, HGK.out]; rfl
end Go.Proofs.YtdiophafmokfiaaDoor
