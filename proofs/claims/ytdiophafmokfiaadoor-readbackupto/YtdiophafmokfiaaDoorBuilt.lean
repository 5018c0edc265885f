/-
  Goal, Builtin and the reference's Everybody answer of every term what kind of goal it is.
-/
import Derived.Test.YtdiophafmokfiaaDoorBase
import Derived.Test.YtdiophafmokfiaaDoorNode
import Derived.Test.YtdiophafmokfiaaDoorRows
import Derived.Deep.LoopGhost
import Derived.Deep.QuietTactic
import Derived.BigQuiet
namespace Go.Proofs.YtdiophafmokfiaaDoor
open Go.RowKit

def goalB (k : Int) : Bool := decide (k = 1) || decide (k = 3)
/-- Is it the S and the number of arguments of a built-in predicate? -/
def builtB (t : List UInt8) (l : Nat) : Bool :=
  if t = [33] then decide (l = 0) else if t = [116, 114, 117, 101] then decide (l = 0) else if t = [102, 97, 105, 108] then decide (l = 0)
  else if t = [101, 113] then decide (l = 2) else if t = [108, 101, 115, 115] then decide (l = 2) else if t = [97, 100, 100] then decide (l = 3) else false

theorem goal_any (k n : Int) (s : ByteArray) (v : Value) (w : World) : Calls Tryd.prog 14 #[.agg #[.int .i64 k, .int .i64 n, .string s, v]] w fun e w' => e = .returned (.bool (goalB k)) ∧ Below w.heap.size w w' := by
  by_cases h1 : k = 1
  · subst h1
    go_enter Tryd.func14, Tryd.ntmps14
    go_wp2_with fail
    go_ret
    exact ⟨rfl, (Below.refl _ _).alloc (Nat.le_refl _) _⟩
  by_cases h3 : k = 3
  · subst h3
    go_enter Tryd.func14, Tryd.ntmps14
    go_wp2_with fail
    go_ret
    exact ⟨rfl, (Below.refl _ _).alloc (Nat.le_refl _) _⟩
  have R := Lib.hid (show goalB k = false by simp [goalB, h1, h3])
  have g1 : (k == 1) = false := by simpa using h1
  have g3 : (k == 3) = false := by simpa using h3
  clear h1 h3
  go_enter Tryd.func14, Tryd.ntmps14
  go_wp2_with fail
  go_ret
  exact ⟨by rw [R.out]; rfl, (Below.refl _ _).alloc (Nat.le_refl _) _⟩

set_option maxHeartbeats 1000000 in
theorem builtin_any (k n : Int) (s : ByteArray) (A : Option Addr) (l c : Nat) (w : World) : Calls Tryd.prog 15 #[.agg #[.int .i64 k, .int .i64 n, .string s, .slice A l c]] w fun e w' => e = .returned (.bool (builtB s.toList l)) ∧ Below w.heap.size w w' := by
  generalize hr : builtB s.toList l = rb
  have R := Lib.hid hr
  clear hr
  go_enter Tryd.func15, Tryd.ntmps15
  go_wp2_with fail
  all_goals go_ret
  all_goals refine ⟨?_, (Below.refl _ _).alloc (Nat.le_refl _) _⟩
  all_goals rw [← R.out]
  all_goals refine ret_bool ?_
  all_goals rw [Bool.eq_iff_iff]
  all_goals simp_all [builtB]
  all_goals try omega

/-- No entry ahead of number i is what is asked for. -/
def EvLoop (S : World → Prop) (t : List UInt8) (l : Nat) (g : Nat) (s8 : Value) (wr : World) : Prop := ∃ i : Nat, i ≤ 6 ∧ g = 6 - i ∧ s8 = .int .i64 i ∧ S wr ∧
  (0 < i → ¬ (t = [33] ∧ l = 0)) ∧ (1 < i → ¬ (t = [116, 114, 117, 101] ∧ l = 0)) ∧ (2 < i → ¬ (t = [102, 97, 105, 108] ∧ l = 0)) ∧
  (3 < i → ¬ (t = [101, 113] ∧ l = 2)) ∧ (4 < i → ¬ (t = [108, 101, 115, 115] ∧ l = 2)) ∧ (5 < i → ¬ (t = [97, 100, 100] ∧ l = 3))

def EvS (w : World) (k n : Int) (s : ByteArray) (A : Option Addr) (l c : Nat) (x : World) : Prop := Plot x w.heap.size 24 #[.int .i64 k, .int .i64 n, .string s, .slice A l c] ∧
  Plot x (w.heap.size + 1) 9 #[.string ⟨#[33, 47, 48]⟩, .string ⟨#[116, 114, 117, 101, 47, 48]⟩, .string ⟨#[102, 97, 105, 108, 47, 48]⟩, .string ⟨#[101, 113, 47, 50]⟩, .string ⟨#[108, 101, 115, 115, 47, 50]⟩, .string ⟨#[97, 100, 100, 47, 51]⟩] ∧ Below w.heap.size w x
theorem EvS.drewN {w x : World} {k n : Int} {s : ByteArray} {A : Option Addr} {l c : Nat} (h : EvS w k n s A l c x) (q : Nat) : EvS w k n s A l c (x.drewN q) := ⟨h.1.drewN q, h.2.1.drewN q, h.2.2.trans (below_drewN _ _ _)⟩
theorem EvLoop.step0 {S : World → Prop} {W : World} (hS : S W) {t : List UInt8} {l : Nat} (hA : (0 < 0 → ¬ (t = [33] ∧ l = 0)) ∧ (1 < 0 → ¬ (t = [116, 114, 117, 101] ∧ l = 0)) ∧ (2 < 0 → ¬ (t = [102, 97, 105, 108] ∧ l = 0)) ∧ (3 < 0 → ¬ (t = [101, 113] ∧ l = 2)) ∧ (4 < 0 → ¬ (t = [108, 101, 115, 115] ∧ l = 2)) ∧ (5 < 0 → ¬ (t = [97, 100, 100] ∧ l = 3))) (h : ¬ (t = [33] ∧ l = 0)) : EvLoop S t l 5 (.int .i64 1) W := by
  obtain ⟨hA0, hA1, hA2, hA3, hA4, hA5⟩ := hA
  exact ⟨1, by omega, rfl, rfl, hS, fun _ => h, fun hh => absurd hh (by omega), fun hh => absurd hh (by omega), fun hh => absurd hh (by omega), fun hh => absurd hh (by omega), fun hh => absurd hh (by omega)⟩
theorem EvLoop.step1 {S : World → Prop} {W : World} (hS : S W) {t : List UInt8} {l : Nat} (hA : (0 < 1 → ¬ (t = [33] ∧ l = 0)) ∧ (1 < 1 → ¬ (t = [116, 114, 117, 101] ∧ l = 0)) ∧ (2 < 1 → ¬ (t = [102, 97, 105, 108] ∧ l = 0)) ∧ (3 < 1 → ¬ (t = [101, 113] ∧ l = 2)) ∧ (4 < 1 → ¬ (t = [108, 101, 115, 115] ∧ l = 2)) ∧ (5 < 1 → ¬ (t = [97, 100, 100] ∧ l = 3))) (h : ¬ (t = [116, 114, 117, 101] ∧ l = 0)) : EvLoop S t l 4 (.int .i64 2) W := by
  obtain ⟨hA0, hA1, hA2, hA3, hA4, hA5⟩ := hA
  exact ⟨2, by omega, rfl, rfl, hS, fun _ => hA0 (by omega), fun _ => h, fun hh => absurd hh (by omega), fun hh => absurd hh (by omega), fun hh => absurd hh (by omega), fun hh => absurd hh (by omega)⟩
theorem EvLoop.step2 {S : World → Prop} {W : World} (hS : S W) {t : List UInt8} {l : Nat} (hA : (0 < 2 → ¬ (t = [33] ∧ l = 0)) ∧ (1 < 2 → ¬ (t = [116, 114, 117, 101] ∧ l = 0)) ∧ (2 < 2 → ¬ (t = [102, 97, 105, 108] ∧ l = 0)) ∧ (3 < 2 → ¬ (t = [101, 113] ∧ l = 2)) ∧ (4 < 2 → ¬ (t = [108, 101, 115, 115] ∧ l = 2)) ∧ (5 < 2 → ¬ (t = [97, 100, 100] ∧ l = 3))) (h : ¬ (t = [102, 97, 105, 108] ∧ l = 0)) : EvLoop S t l 3 (.int .i64 3) W := by
  obtain ⟨hA0, hA1, hA2, hA3, hA4, hA5⟩ := hA
  exact ⟨3, by omega, rfl, rfl, hS, fun _ => hA0 (by omega), fun _ => hA1 (by omega), fun _ => h, fun hh => absurd hh (by omega), fun hh => absurd hh (by omega), fun hh => absurd hh (by omega)⟩
theorem EvLoop.step3 {S : World → Prop} {W : World} (hS : S W) {t : List UInt8} {l : Nat} (hA : (0 < 3 → ¬ (t = [33] ∧ l = 0)) ∧ (1 < 3 → ¬ (t = [116, 114, 117, 101] ∧ l = 0)) ∧ (2 < 3 → ¬ (t = [102, 97, 105, 108] ∧ l = 0)) ∧ (3 < 3 → ¬ (t = [101, 113] ∧ l = 2)) ∧ (4 < 3 → ¬ (t = [108, 101, 115, 115] ∧ l = 2)) ∧ (5 < 3 → ¬ (t = [97, 100, 100] ∧ l = 3))) (h : ¬ (t = [101, 113] ∧ l = 2)) : EvLoop S t l 2 (.int .i64 4) W := by
  obtain ⟨hA0, hA1, hA2, hA3, hA4, hA5⟩ := hA
  exact ⟨4, by omega, rfl, rfl, hS, fun _ => hA0 (by omega), fun _ => hA1 (by omega), fun _ => hA2 (by omega), fun _ => h, fun hh => absurd hh (by omega), fun hh => absurd hh (by omega)⟩
theorem EvLoop.step4 {S : World → Prop} {W : World} (hS : S W) {t : List UInt8} {l : Nat} (hA : (0 < 4 → ¬ (t = [33] ∧ l = 0)) ∧ (1 < 4 → ¬ (t = [116, 114, 117, 101] ∧ l = 0)) ∧ (2 < 4 → ¬ (t = [102, 97, 105, 108] ∧ l = 0)) ∧ (3 < 4 → ¬ (t = [101, 113] ∧ l = 2)) ∧ (4 < 4 → ¬ (t = [108, 101, 115, 115] ∧ l = 2)) ∧ (5 < 4 → ¬ (t = [97, 100, 100] ∧ l = 3))) (h : ¬ (t = [108, 101, 115, 115] ∧ l = 2)) : EvLoop S t l 1 (.int .i64 5) W := by
  obtain ⟨hA0, hA1, hA2, hA3, hA4, hA5⟩ := hA
  exact ⟨5, by omega, rfl, rfl, hS, fun _ => hA0 (by omega), fun _ => hA1 (by omega), fun _ => hA2 (by omega), fun _ => hA3 (by omega), fun _ => h, fun hh => absurd hh (by omega)⟩
theorem EvLoop.step5 {S : World → Prop} {W : World} (hS : S W) {t : List UInt8} {l : Nat} (hA : (0 < 5 → ¬ (t = [33] ∧ l = 0)) ∧ (1 < 5 → ¬ (t = [116, 114, 117, 101] ∧ l = 0)) ∧ (2 < 5 → ¬ (t = [102, 97, 105, 108] ∧ l = 0)) ∧ (3 < 5 → ¬ (t = [101, 113] ∧ l = 2)) ∧ (4 < 5 → ¬ (t = [108, 101, 115, 115] ∧ l = 2)) ∧ (5 < 5 → ¬ (t = [97, 100, 100] ∧ l = 3))) (h : ¬ (t = [97, 100, 100] ∧ l = 3)) : EvLoop S t l 0 (.int .i64 6) W := by
  obtain ⟨hA0, hA1, hA2, hA3, hA4, hA5⟩ := hA
  exact ⟨6, by omega, rfl, rfl, hS, fun _ => hA0 (by omega), fun _ => hA1 (by omega), fun _ => hA2 (by omega), fun _ => hA3 (by omega), fun _ => hA4 (by omega), fun _ => h⟩
theorem built_none {t : List UInt8} {l : Nat} (hA : (0 < 6 → ¬ (t = [33] ∧ l = 0)) ∧ (1 < 6 → ¬ (t = [116, 114, 117, 101] ∧ l = 0)) ∧ (2 < 6 → ¬ (t = [102, 97, 105, 108] ∧ l = 0)) ∧ (3 < 6 → ¬ (t = [101, 113] ∧ l = 2)) ∧ (4 < 6 → ¬ (t = [108, 101, 115, 115] ∧ l = 2)) ∧ (5 < 6 → ¬ (t = [97, 100, 100] ∧ l = 3))) : builtB t l = false := by
  obtain ⟨h0, h1, h2, h3, h4, h5⟩ := hA
  unfold builtB
  repeat' split
  all_goals simp_all

set_option maxHeartbeats 2000000 in
theorem everybody_any (k n : Int) (s : ByteArray) (A : Option Addr) (l c : Nat) (w : World) : Calls Tryd.prog 16 #[.agg #[.int .i64 k, .int .i64 n, .string s, .slice A l c]] w fun e w' => e = .returned (.bool (builtB s.toList l)) ∧ Below w.heap.size w w' := by
  generalize hr : builtB s.toList l = rb
  have R := Lib.hid hr
  clear hr
  go_enter Tryd.func16, Tryd.ntmps16
  go_wp2_with fail
  have bT := (Plot.new w 24 #[.int .i64 k, .int .i64 n, .string s, .slice A l c]).alloc (.cells #[.string ⟨#[33, 47, 48]⟩, .string ⟨#[116, 114, 117, 101, 47, 48]⟩, .string ⟨#[102, 97, 105, 108, 47, 48]⟩, .string ⟨#[101, 113, 47, 50]⟩, .string ⟨#[108, 101, 115, 115, 47, 50]⟩, .string ⟨#[97, 100, 100, 47, 51]⟩] 9)
  have bS := Plot.new (w.alloc (.cells #[.int .i64 k, .int .i64 n, .string s, .slice A l c] 24)) 9 #[.string ⟨#[33, 47, 48]⟩, .string ⟨#[116, 114, 117, 101, 47, 48]⟩, .string ⟨#[102, 97, 105, 108, 47, 48]⟩, .string ⟨#[101, 113, 47, 50]⟩, .string ⟨#[108, 101, 115, 115, 47, 50]⟩, .string ⟨#[97, 100, 100, 47, 51]⟩]
  have hB : Below w.heap.size w ((w.alloc (.cells #[.int .i64 k, .int .i64 n, .string s, .slice A l c] 24)).alloc (.cells #[.string ⟨#[33, 47, 48]⟩, .string ⟨#[116, 114, 117, 101, 47, 48]⟩, .string ⟨#[102, 97, 105, 108, 47, 48]⟩, .string ⟨#[101, 113, 47, 50]⟩, .string ⟨#[108, 101, 115, 115, 47, 50]⟩, .string ⟨#[97, 100, 100, 47, 51]⟩] 9)) := ((Below.refl _ _).alloc (Nat.le_refl _) _).alloc (by simp) _
  simp only [World.size_alloc] at bS
  generalize ((w.alloc (.cells #[.int .i64 k, .int .i64 n, .string s, .slice A l c] 24)).alloc (.cells #[.string ⟨#[33, 47, 48]⟩, .string ⟨#[116, 114, 117, 101, 47, 48]⟩, .string ⟨#[102, 97, 105, 108, 47, 48]⟩, .string ⟨#[101, 113, 47, 50]⟩, .string ⟨#[108, 101, 115, 115, 47, 50]⟩, .string ⟨#[97, 100, 100, 47, 51]⟩] 9)) = W at *
  have h0 : EvLoop (EvS w k n s A l c) s.toList l 6 (.int .i64 0) W := ⟨0, Nat.zero_le _, rfl, rfl, ⟨bT, bS, hB⟩, fun h => absurd h (by omega), fun h => absurd h (by omega), fun h => absurd h (by omega), fun h => absurd h (by omega), fun h => absurd h (by omega), fun h => absurd h (by omega)⟩
  clear bT bS hB
  go_loopg [8] 6 (EvLoop (EvS w k n s A l c) s.toList l)
  case atStart => exact h0
  case round =>
    obtain ⟨i, hi, hg, rfl, hS, hA⟩ := hrel
    have HA := Lib.hid hA
    have HG := Lib.hid hg
    clear hA hg h0
    have hB := hS.2.2
    obtain ⟨p0, p1, p2, p3, _⟩ := hS.1.four
    have q0 := hS.2.1.cell 0
    have q1 := hS.2.1.cell 1
    have q2 := hS.2.1.cell 2
    have q3 := hS.2.1.cell 3
    have q4 := hS.2.1.cell 4
    have q5 := hS.2.1.cell 5
    simp at q0 q1 q2 q3 q4 q5
    have HS := Lib.hid hS
    clear hS
    have x0 : ((⟨#[33, 47, 48]⟩ : ByteArray).extract 0 1).toList = [33] := by rw [ByteArray.toList_eq]; rfl
    have x1 : ((⟨#[116, 114, 117, 101, 47, 48]⟩ : ByteArray).extract 0 4).toList = [116, 114, 117, 101] := by rw [ByteArray.toList_eq]; rfl
    have x2 : ((⟨#[102, 97, 105, 108, 47, 48]⟩ : ByteArray).extract 0 4).toList = [102, 97, 105, 108] := by rw [ByteArray.toList_eq]; rfl
    have x3 : ((⟨#[101, 113, 47, 50]⟩ : ByteArray).extract 0 2).toList = [101, 113] := by rw [ByteArray.toList_eq]; rfl
    have x4 : ((⟨#[108, 101, 115, 115, 47, 50]⟩ : ByteArray).extract 0 4).toList = [108, 101, 115, 115] := by rw [ByteArray.toList_eq]; rfl
    have x5 : ((⟨#[97, 100, 100, 47, 51]⟩ : ByteArray).extract 0 3).toList = [97, 100, 100] := by rw [ByteArray.toList_eq]; rfl
    have y0 : ((⟨#[33, 47, 48]⟩ : ByteArray)[2]'(by decide)).toNat = 48 := rfl
    have y1 : ((⟨#[116, 114, 117, 101, 47, 48]⟩ : ByteArray)[5]'(by decide)).toNat = 48 := rfl
    have y2 : ((⟨#[102, 97, 105, 108, 47, 48]⟩ : ByteArray)[5]'(by decide)).toNat = 48 := rfl
    have y3 : ((⟨#[101, 113, 47, 50]⟩ : ByteArray)[3]'(by decide)).toNat = 50 := rfl
    have y4 : ((⟨#[108, 101, 115, 115, 47, 50]⟩ : ByteArray)[5]'(by decide)).toNat = 50 := rfl
    have y5 : ((⟨#[97, 100, 100, 47, 51]⟩ : ByteArray)[4]'(by decide)).toNat = 51 := rfl
    have hi' : i = 0 ∨ i = 1 ∨ i = 2 ∨ i = 3 ∨ i = 4 ∨ i = 5 ∨ i = 6 := by omega
    rcases hi' with rfl | rfl | rfl | rfl | rfl | rfl | rfl
    · by_cases ht : s.toList = [33]
      · have hte : (s.toList == [33]) = true := by simpa using ht
        by_cases hl : l = 0
        · subst hl
          have HT := Lib.hid ht
          go_wp2_with fail
          go_quiet (fail)
          go_wp2_with fail
          go_ret
          exact ⟨by rw [← R.out, HT.out]; rfl, hB.trans (below_drewN _ _ _)⟩
        · have hlz : ((l : Int) == 0) = false := by simp; omega
          have HN : Hid (¬ (s.toList = [33] ∧ l = 0)) := Lib.hid fun h => hl h.2
          clear hl
          go_wp2_with fail
          go_quiet (fail)
          go_wp2_with fail
          go_roundg 5
          case measure => rw [HG.out]; omega
          case rel => exact EvLoop.step0 (HS.out.drewN _) HA.out HN.out
      · have hte : (s.toList == [33]) = false := by simpa using ht
        have HN : Hid (¬ (s.toList = [33] ∧ l = 0)) := Lib.hid fun h => ht h.1
        clear ht
        go_wp2_with fail
        go_quiet (fail)
        go_wp2_with fail
        go_roundg 5
        case measure => rw [HG.out]; omega
        case rel => exact EvLoop.step0 (HS.out.drewN _) HA.out HN.out
    · by_cases ht : s.toList = [116, 114, 117, 101]
      · have hte : (s.toList == [116, 114, 117, 101]) = true := by simpa using ht
        by_cases hl : l = 0
        · subst hl
          have HT := Lib.hid ht
          go_wp2_with fail
          go_quiet (fail)
          go_wp2_with fail
          go_ret
          exact ⟨by rw [← R.out, HT.out]; rfl, hB.trans (below_drewN _ _ _)⟩
        · have hlz : ((l : Int) == 0) = false := by simp; omega
          have HN : Hid (¬ (s.toList = [116, 114, 117, 101] ∧ l = 0)) := Lib.hid fun h => hl h.2
          clear hl
          go_wp2_with fail
          go_quiet (fail)
          go_wp2_with fail
          go_roundg 4
          case measure => rw [HG.out]; omega
          case rel => exact EvLoop.step1 (HS.out.drewN _) HA.out HN.out
      · have hte : (s.toList == [116, 114, 117, 101]) = false := by simpa using ht
        have HN : Hid (¬ (s.toList = [116, 114, 117, 101] ∧ l = 0)) := Lib.hid fun h => ht h.1
        clear ht
        go_wp2_with fail
        go_quiet (fail)
        go_wp2_with fail
        go_roundg 4
        case measure => rw [HG.out]; omega
        case rel => exact EvLoop.step1 (HS.out.drewN _) HA.out HN.out
    · by_cases ht : s.toList = [102, 97, 105, 108]
      · have hte : (s.toList == [102, 97, 105, 108]) = true := by simpa using ht
        by_cases hl : l = 0
        · subst hl
          have HT := Lib.hid ht
          go_wp2_with fail
          go_quiet (fail)
          go_wp2_with fail
          go_ret
          exact ⟨by rw [← R.out, HT.out]; rfl, hB.trans (below_drewN _ _ _)⟩
        · have hlz : ((l : Int) == 0) = false := by simp; omega
          have HN : Hid (¬ (s.toList = [102, 97, 105, 108] ∧ l = 0)) := Lib.hid fun h => hl h.2
          clear hl
          go_wp2_with fail
          go_quiet (fail)
          go_wp2_with fail
          go_roundg 3
          case measure => rw [HG.out]; omega
          case rel => exact EvLoop.step2 (HS.out.drewN _) HA.out HN.out
      · have hte : (s.toList == [102, 97, 105, 108]) = false := by simpa using ht
        have HN : Hid (¬ (s.toList = [102, 97, 105, 108] ∧ l = 0)) := Lib.hid fun h => ht h.1
        clear ht
        go_wp2_with fail
        go_quiet (fail)
        go_wp2_with fail
        go_roundg 3
        case measure => rw [HG.out]; omega
        case rel => exact EvLoop.step2 (HS.out.drewN _) HA.out HN.out
    · by_cases ht : s.toList = [101, 113]
      · have hte : (s.toList == [101, 113]) = true := by simpa using ht
        by_cases hl : l = 2
        · subst hl
          have HT := Lib.hid ht
          go_wp2_with fail
          go_quiet (fail)
          go_wp2_with fail
          go_ret
          exact ⟨by rw [← R.out, HT.out]; rfl, hB.trans (below_drewN _ _ _)⟩
        · have hlz : ((l : Int) == 2) = false := by simp; omega
          have HN : Hid (¬ (s.toList = [101, 113] ∧ l = 2)) := Lib.hid fun h => hl h.2
          clear hl
          go_wp2_with fail
          go_quiet (fail)
          go_wp2_with fail
          go_roundg 2
          case measure => rw [HG.out]; omega
          case rel => exact EvLoop.step3 (HS.out.drewN _) HA.out HN.out
      · have hte : (s.toList == [101, 113]) = false := by simpa using ht
        have HN : Hid (¬ (s.toList = [101, 113] ∧ l = 2)) := Lib.hid fun h => ht h.1
        clear ht
        go_wp2_with fail
        go_quiet (fail)
        go_wp2_with fail
        go_roundg 2
        case measure => rw [HG.out]; omega
        case rel => exact EvLoop.step3 (HS.out.drewN _) HA.out HN.out
    · by_cases ht : s.toList = [108, 101, 115, 115]
      · have hte : (s.toList == [108, 101, 115, 115]) = true := by simpa using ht
        by_cases hl : l = 2
        · subst hl
          have HT := Lib.hid ht
          go_wp2_with fail
          go_quiet (fail)
          go_wp2_with fail
          go_ret
          exact ⟨by rw [← R.out, HT.out]; rfl, hB.trans (below_drewN _ _ _)⟩
        · have hlz : ((l : Int) == 2) = false := by simp; omega
          have HN : Hid (¬ (s.toList = [108, 101, 115, 115] ∧ l = 2)) := Lib.hid fun h => hl h.2
          clear hl
          go_wp2_with fail
          go_quiet (fail)
          go_wp2_with fail
          go_roundg 1
          case measure => rw [HG.out]; omega
          case rel => exact EvLoop.step4 (HS.out.drewN _) HA.out HN.out
      · have hte : (s.toList == [108, 101, 115, 115]) = false := by simpa using ht
        have HN : Hid (¬ (s.toList = [108, 101, 115, 115] ∧ l = 2)) := Lib.hid fun h => ht h.1
        clear ht
        go_wp2_with fail
        go_quiet (fail)
        go_wp2_with fail
        go_roundg 1
        case measure => rw [HG.out]; omega
        case rel => exact EvLoop.step4 (HS.out.drewN _) HA.out HN.out
    · by_cases ht : s.toList = [97, 100, 100]
      · have hte : (s.toList == [97, 100, 100]) = true := by simpa using ht
        by_cases hl : l = 3
        · subst hl
          have HT := Lib.hid ht
          go_wp2_with fail
          go_quiet (fail)
          go_wp2_with fail
          go_ret
          exact ⟨by rw [← R.out, HT.out]; rfl, hB.trans (below_drewN _ _ _)⟩
        · have hlz : ((l : Int) == 3) = false := by simp; omega
          have HN : Hid (¬ (s.toList = [97, 100, 100] ∧ l = 3)) := Lib.hid fun h => hl h.2
          clear hl
          go_wp2_with fail
          go_quiet (fail)
          go_wp2_with fail
          go_roundg 0
          case measure => rw [HG.out]; omega
          case rel => exact EvLoop.step5 (HS.out.drewN _) HA.out HN.out
      · have hte : (s.toList == [97, 100, 100]) = false := by simpa using ht
        have HN : Hid (¬ (s.toList = [97, 100, 100] ∧ l = 3)) := Lib.hid fun h => ht h.1
        clear ht
        go_wp2_with fail
        go_quiet (fail)
        go_wp2_with fail
        go_roundg 0
        case measure => rw [HG.out]; omega
        case rel => exact EvLoop.step5 (HS.out.drewN _) HA.out HN.out
    · go_wp2_with fail
      go_ret
      refine ⟨?_, hB⟩
      rw [← R.out, built_none HA.out]; rfl
end Go.Proofs.YtdiophafmokfiaaDoor
