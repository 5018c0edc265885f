/-
  term.Named says of every string whether it is a name.
-/
import Derived.Test.YtjicoifjgokoiaaBase
import Derived.Test.YtjicoifjgokoiaaRows
import Derived.Deep.LoopGhost
namespace Go.Proofs.Ytjicoifjgokoiaa
open Go.RowKit

def lowerB (c : UInt8) : Bool := decide (97 ≤ c.toNat) && decide (c.toNat ≤ 122)
/-- Is it a name? -/
def nameB (s : ByteArray) : Bool := decide (s.data.toList = [33]) || (decide (1 ≤ s.size) && decide (s.size ≤ 8) && s.data.toList.all lowerB)
/-- The first k + 1 letters are the first k and the next one. -/
theorem letters_succ (s : ByteArray) (k : Nat) (h : k < s.size) : s.data.toList.take (k + 1) = s.data.toList.take k ++ [s[k]] :=
  List.take_succ_eq_append_getElem (l := s.data.toList) (i := k) (by simpa using h)

theorem all_false {s : ByteArray} {k : Nat} {c : UInt8} (h : s.data.toList.take (k + 1) = s.data.toList.take k ++ [c]) (hc : lowerB c = false) : s.data.toList.all lowerB = false := by
  have e : s.data.toList = s.data.toList.take (k + 1) ++ s.data.toList.drop (k + 1) := (List.take_append_drop _ _).symm
  rw [e, List.all_append, h, List.all_append]
  simp [hc]

set_option maxHeartbeats 400000 in
theorem named_any (s : ByteArray) (w : World) : Calls Try.prog 62 #[.string s] w fun e w' => e = .returned (.bool (nameB s)) ∧ w = w' := by
  by_cases h0 : s.data.toList = [33]
  · have r : nameB s = true := by simp [nameB, h0]
    have h1 : s.toList = [33] := by rw [ByteArray.toList_eq]; exact h0
    rw [r]
    clear r h0
    go_enter Try.func62, Try.ntmps62
    go_wp2_with fail
    go_ret
    exact ⟨rfl, rfl⟩
  have h1 : (s.toList == [33]) = false := by rw [ByteArray.toList_eq]; simpa using h0
  by_cases h2 : s.size < 1
  · have r : nameB s = false := by simp [nameB, h0]; omega
    rw [r]
    clear r h0
    go_enter Try.func62, Try.ntmps62
    go_wp2_with fail
    go_ret
    exact ⟨rfl, rfl⟩
  by_cases h3 : 8 < s.size
  · have r : nameB s = false := by simp [nameB, h0]; omega
    rw [r]
    clear r h0
    go_enter Try.func62, Try.ntmps62
    go_wp2_with fail
    go_ret
    exact ⟨rfl, rfl⟩
  have r : nameB s = s.data.toList.all lowerB := by
    have a : 1 ≤ s.size := by omega
    have b : s.size ≤ 8 := by omega
    simp [nameB, h0, a, b]
  have R := Lib.hid r
  clear r h0
  go_enter Try.func62, Try.ntmps62
  go_wp2_with fail
  go_loopg [16] s.size (fun g i wr => w = wr ∧ ∃ k : Nat, k ≤ s.size ∧ g = s.size - k ∧ i = .int .i64 k ∧ (s.data.toList.take k).all lowerB = true)
  case atStart => exact ⟨rfl, 0, Nat.zero_le _, rfl, rfl, rfl⟩
  case round =>
    obtain ⟨rfl, k, hk, hg, rfl, ha⟩ := hrel
    have HA := Lib.hid ha
    have HG := Lib.hid hg
    clear ha hg
    by_cases hlt : k < s.size
    · have hts := letters_succ s k hlt
      have hbig := s[k].toNat_lt
      by_cases hlo : (s[k].toNat : Int) < 97
      · have hf := Lib.hid (all_false hts (show lowerB s[k] = false by simp [lowerB]; omega))
        clear hts
        go_wp2_with fail
        go_ret
        exact ⟨by rw [R.out, hf.out]; rfl, rfl⟩
      by_cases hhi : (122 : Int) < (s[k].toNat : Int)
      · have hf := Lib.hid (all_false hts (show lowerB s[k] = false by simp [lowerB]; omega))
        clear hts
        go_wp2_with fail
        go_ret
        exact ⟨by rw [R.out, hf.out]; rfl, rfl⟩
      · have hf : Hid ((s.data.toList.take (k + 1)).all lowerB = true) := Lib.hid (by
          rw [hts, List.all_append, HA.out]
          simp [lowerB]; omega)
        clear hts
        go_wp2_with fail
        go_roundg (s.size - (k + 1))
        case measure => rw [HG.out]; omega
        case rel => exact ⟨rfl, k + 1, by omega, rfl, rfl, hf.out⟩
    · go_wp2_with fail
      go_ret
      refine ⟨?_, rfl⟩
      have h4 := HA.out
      rw [List.take_of_length_le (by simp; omega)] at h4
      rw [R.out, h4]; rfl
end Go.Proofs.Ytjicoifjgokoiaa
