/-
  goodNode says of one node of a term whether it may stand.
-/
import Derived.Test.YtjicoifjgokoiaaNamed
namespace Go.Proofs.Ytjicoifjgokoiaa
open Go.RowKit

/-- Is a term good, whatever its arguments are? -/
def nodeB (vars k n : Int) (s : ByteArray) (l : Nat) : Bool :=
  if k = 0 then decide (0 ≤ n) && decide (n < vars) && decide (s.toList = []) && decide (l = 0)
  else if k = 1 then decide (n = 0) && nameB s && decide (l = 0)
  else if k = 2 then decide (-1099511627776 ≤ n) && decide (n ≤ 1099511627776) && decide (s.toList = []) && decide (l = 0)
  else if k = 3 then decide (n = 0) && nameB s && decide (¬ s.toList = [33]) && decide (1 ≤ l) && decide (l ≤ 4)
  else false

theorem ret_bool {a b : Bool} (h : a = b) : Ending.returned (.bool a) = .returned (.bool b) := by rw [h]

set_option maxHeartbeats 1000000 in
theorem goodNode_any (vars k n : Int) (s : ByteArray) (A : Option Addr) (l c : Nat) (w : World) :
    Calls Try.prog 46 #[.agg #[.int .i64 k, .int .i64 n, .string s, .slice A l c], .int .i64 vars] w fun e w' => e = .returned (.bool (nodeB vars k n s l)) ∧ Below w.heap.size w w' := by
  by_cases h0 : k = 0
  · subst h0
    have R := Lib.hid (show nodeB vars 0 n s l = (decide (0 ≤ n) && decide (n < vars) && decide (s.toList = []) && decide (l = 0)) by simp [nodeB])
    go_enter Try.func46, Try.ntmps46
    go_wp2_with fail
    all_goals go_ret
    all_goals refine ⟨?_, (Below.refl _ _).alloc (Nat.le_refl _) _⟩
    all_goals rw [R.out]
    all_goals refine ret_bool ?_
    all_goals rw [Bool.eq_iff_iff]
    all_goals simp [*]
    all_goals try omega
  have g0 : (k == 0) = false := by simpa using h0
  by_cases h1 : k = 1
  · subst h1
    have R := Lib.hid (show nodeB vars 1 n s l = (decide (n = 0) && nameB s && decide (l = 0)) by simp [nodeB])
    clear h0 g0
    cases hb : nameB s
    all_goals
      have HB := Lib.hid hb
      clear hb
      go_enter Try.func46, Try.ntmps46
      go_wp2_with (go_at_call 62; refine (named_any _ _).mono ?_; rintro e w' ⟨rfl, rfl⟩; rw [HB.out])
      all_goals go_ret
      all_goals refine ⟨?_, (Below.refl _ _).alloc (Nat.le_refl _) _⟩
      all_goals rw [R.out, HB.out]
      all_goals refine ret_bool ?_
      all_goals rw [Bool.eq_iff_iff]
      all_goals simp [*]
      all_goals try omega
  have g1 : (k == 1) = false := by simpa using h1
  by_cases h2 : k = 2
  · subst h2
    have R := Lib.hid (show nodeB vars 2 n s l = (decide (-1099511627776 ≤ n) && decide (n ≤ 1099511627776) && decide (s.toList = []) && decide (l = 0)) by simp [nodeB])
    clear h0 g0 h1 g1
    go_enter Try.func46, Try.ntmps46
    go_wp2_with fail
    all_goals go_ret
    all_goals refine ⟨?_, (Below.refl _ _).alloc (Nat.le_refl _) _⟩
    all_goals rw [R.out]
    all_goals refine ret_bool ?_
    all_goals rw [Bool.eq_iff_iff]
    all_goals simp [*]
    all_goals try omega
  have g2 : (k == 2) = false := by simpa using h2
  by_cases h3 : k = 3
  · subst h3
    clear h0 g0 h1 g1 h2 g2
    by_cases hn : n = 0
    · subst hn
      have R := Lib.hid (show nodeB vars 3 0 s l = (nameB s && decide (¬ s.toList = [33]) && decide (1 ≤ l) && decide (l ≤ 4)) by simp [nodeB])
      cases hb : nameB s
      all_goals
        have HB := Lib.hid hb
        clear hb
        go_enter Try.func46, Try.ntmps46
        go_wp2_with (go_at_call 62; refine (named_any _ _).mono ?_; rintro e w' ⟨rfl, rfl⟩; rw [HB.out])
        all_goals go_ret
        all_goals refine ⟨?_, (Below.refl _ _).alloc (Nat.le_refl _) _⟩
        all_goals rw [R.out, HB.out]
        all_goals refine ret_bool ?_
        all_goals rw [Bool.eq_iff_iff]
        all_goals simp [*]
        all_goals try omega
    · have hn' : (n == 0) = false := by simpa using hn
      have R := Lib.hid (show nodeB vars 3 n s l = false by simp [nodeB, hn])
      clear hn
      go_enter Try.func46, Try.ntmps46
      go_wp2_with fail
      go_ret
      exact ⟨by rw [R.out]; rfl, (Below.refl _ _).alloc (Nat.le_refl _) _⟩
  have g3 : (k == 3) = false := by simpa using h3
  have R := Lib.hid (show nodeB vars k n s l = false by simp [nodeB, h0, h1, h2, h3])
  clear h0 h1 h2 h3
  go_enter Try.func46, Try.ntmps46
  go_wp2_with fail
  go_ret
  exact ⟨by rw [R.out]; rfl, (Below.refl _ _).alloc (Nat.le_refl _) _⟩
end Go.Proofs.Ytjicoifjgokoiaa
