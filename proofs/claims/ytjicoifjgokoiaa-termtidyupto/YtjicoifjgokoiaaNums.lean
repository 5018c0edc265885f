/-
  The closures that renumber variables (of Shift, Shifted, Tidy, Tidied) and remainder answer as their numberings say.
-/
import Derived.Test.YtjicoifjgokoiaaIntMap
import Derived.Test.YtjicoifjgokoiaaRows
import Derived.StillTailTactics
import Derived.Deep.QuietTactic
import Derived.BigQuiet
namespace Go.Proofs.Ytjicoifjgokoiaa
open Go.RowKit

/-- The remainder modulo 2^40 that is not negative. -/
def low (n : Int) : Int := n % 1099511627776
theorem low_bounds (n : Int) : 0 ≤ low n ∧ low n < 1099511627776 := by unfold low; omega

/-- Where a number stands in a list. -/
def pos (n : Int) : List Int → Option Nat
  | [] => none
  | k :: r => if n = k then some 0 else (pos n r).map (· + 1)
/-- The number of a variable, by the order in which the variables have come; the variables then. -/
def numV (ks : List Int) (n : Int) : Int := ((pos n ks).getD ks.length : Nat)
def numS (ks : List Int) (n : Int) : List Int := if (pos n ks).isSome then ks else ks ++ [n]
def entsFrom (i : Nat) : List Int → List (Int × Value)
  | [] => []
  | k :: r => (k, .int .i64 i) :: entsFrom (i + 1) r
theorem length_entsFrom : ∀ (ks : List Int) (i : Nat), (entsFrom i ks).length = ks.length
  | [], _ => rfl
  | _ :: r, i => by simp [entsFrom, length_entsFrom r (i + 1)]
theorem aget_entsFrom (n : Int) : ∀ (ks : List Int) (i : Nat), aget n (entsFrom i ks) = (pos n ks).map fun j => Value.int .i64 ((i + j : Nat) : Int)
  | [], _ => rfl
  | k :: r, i => by
    simp only [entsFrom, aget, pos]
    by_cases e : n = k
    · simp [e]
    · simp only [e, if_false, aget_entsFrom n r (i + 1), Option.map_map]
      congr 1
      funext j
      simp only [Function.comp]
      congr 2
      omega
theorem entsFrom_snoc (n : Int) : ∀ (ks : List Int) (i : Nat), entsFrom i (ks ++ [n]) = entsFrom i ks ++ [(n, .int .i64 ((i + ks.length : Nat) : Int))]
  | [], i => rfl
  | k :: r, i => by
    simp only [List.cons_append, entsFrom, entsFrom_snoc n r (i + 1), List.length_cons]
    congr 5
    omega
/-- The map in block mb numbers the variables ks. -/
def NumIs (w : World) (mb : Nat) (ks : List Int) : Prop := MapIs w mb (entsFrom 0 ks)
theorem numS_length (ks : List Int) (n : Int) : (numS ks n).length ≤ ks.length + 1 := by
  unfold numS; split <;> simp

theorem pos_snoc {n : Int} : ∀ {ks : List Int}, pos n ks = none → pos n (ks ++ [n]) = some ks.length
  | [], _ => by simp [pos]
  | k :: r, h => by
    simp only [pos] at h
    by_cases e : n = k
    · simp [e] at h
    · simp only [e, if_false, Option.map_eq_none_iff] at h
      simp [pos, e, pos_snoc h]
theorem Plot.not_map {w : World} {g mb : Nat} {t : TypeId} {cs : Array Value} {ents : List (Int × Value)} (h : Plot w g t cs) (hm : MapIs w mb ents) : g ≠ mb := by
  rintro rfl
  obtain ⟨es, clock, hb, _⟩ := hm
  unfold Plot at h
  rw [hb] at h
  cases h

theorem info_int : (Try.prog.info? 3).map (fun i => (i.zero, i.size, i.bytes)) = some (some (.int .i64 0), 1, 8) := by kernel_rfl
theorem zero_int (w : World) : (zeroValue 3).run Try.prog w = .ok (.int .i64 0) w := by
  obtain ⟨i0, hi0, hz0, _⟩ := info_parts info_int
  simp [zeroValue, typeInfo, hi0, hz0]

theorem tmod_bounds (n : Int) : -1099511627776 < n.tmod 1099511627776 ∧ n.tmod 1099511627776 < 1099511627776 := by
  rcases Int.le_total 0 n with h | h
  · rw [Int.tmod_eq_emod_of_nonneg h]; omega
  · have e : n = -(-n) := by omega
    rw [e, Int.neg_tmod, Int.tmod_eq_emod_of_nonneg (by omega)]; omega
theorem low_of_tmod (n : Int) : low n = if 0 ≤ n.tmod 1099511627776 then n.tmod 1099511627776 else n.tmod 1099511627776 + 1099511627776 := by
  unfold low
  rcases Int.le_total 0 n with h | h
  · rw [Int.tmod_eq_emod_of_nonneg h]; omega
  · have e : n.tmod 1099511627776 = -((-n) % 1099511627776) := by
      have e : n = -(-n) := by omega
      rw [e, Int.neg_tmod, Int.tmod_eq_emod_of_nonneg (by omega)]; simp
    rw [e]; omega

set_option maxHeartbeats 400000 in
theorem remainder_any (n : Int) (w : World) : Calls Try.prog 38 #[.int .i64 n] w fun e w' => e = .returned (.int .i64 (low n)) ∧ w = w' := by
  obtain ⟨hb1, hb2⟩ := tmod_bounds n
  have HL := Lib.hid (low_of_tmod n)
  go_enter Try.func38, Try.ntmps38
  go_wp2_with fail
  all_goals go_ret
  · exact ⟨by rw [HL.out, if_neg (by omega)]; rfl, rfl⟩
  · exact ⟨by rw [HL.out, if_pos (by assumption)]; rfl, rfl⟩

set_option maxHeartbeats 400000 in
theorem shift1_any (n m : Int) (vb : Nat) (w : World) (hv : Plot w vb 3 #[.int .i64 m]) (h0 : 0 ≤ m) (h1 : m < 1099511627776) :
    Calls Try.prog 40 #[.int .i64 n, .pointer (some ⟨vb, 0, none⟩)] w fun e w' => e = .returned (.int .i64 (low n + m)) ∧ ∃ q, w' = w.drewN q := by
  obtain ⟨hb1, hb2⟩ := low_bounds n
  have c0 : w.cell? ⟨vb, 0, none⟩ = some (.int .i64 m) := hv.cell 0
  go_enter Try.func40, Try.ntmps40
  go_wp2_with fail
  go_quiet ((go_at_call 38; exact Calls.quiet_of_same ((remainder_any _ _).mono fun e w' h => ⟨h.1, h.2.symm⟩)))
  go_wp2_with fail
  go_ret
  exact ⟨rfl, _, rfl⟩

theorem low_twice (n : Int) : (n.tmod 1099511627776 + 1099511627776).tmod 1099511627776 = low n := by
  obtain ⟨h1, h2⟩ := tmod_bounds n
  rw [Int.tmod_eq_emod_of_nonneg (by omega), low_of_tmod]
  split <;> omega

set_option maxHeartbeats 400000 in
theorem shifted1_any (n : Int) (w : World) : Calls Try.prog 41 #[.int .i64 n] w fun e w' => e = .returned (.int .i64 (low n)) ∧ w = w' := by
  obtain ⟨hb1, hb2⟩ := tmod_bounds n
  have HL2 := Lib.hid (show (n.tmod 1099511627776 + 1099511627776) % 1099511627776 = low n by rw [← low_twice, Int.tmod_eq_emod_of_nonneg (a := n.tmod 1099511627776 + 1099511627776) (by omega)])
  go_enter Try.func41, Try.ntmps41
  go_wp2_with fail
  go_ret
  refine ⟨?_, rfl⟩
  rw [← HL2.out]; rfl

set_option maxHeartbeats 400000 in
theorem shifted2_any (n m : Int) (fb nb : Nat) (w : World) (hf : Plot w fb 66 #[.func (.func 41) #[] #[]]) (hv : Plot w nb 3 #[.int .i64 m]) :
    Calls Try.prog 43 #[.int .i64 n, .pointer (some ⟨fb, 0, none⟩), .pointer (some ⟨nb, 0, none⟩)] w fun e w' => e = .returned (.int .i64 (low n + low m)) ∧ ∃ q, w' = w.drewN q := by
  obtain ⟨hb1, hb2⟩ := low_bounds n
  obtain ⟨hb3, hb4⟩ := low_bounds m
  have c0 : w.cell? ⟨fb, 0, none⟩ = some (.func (.func 41) #[] #[]) := hf.cell 0
  have c1 : w.cell? ⟨nb, 0, none⟩ = some (.int .i64 m) := hv.cell 0
  go_enter Try.func43, Try.ntmps43
  go_wp2_with fail
  go_quiet ((go_at_call 41; exact Calls.quiet_of_same ((shifted1_any _ _).mono fun e w' h => ⟨h.1, h.2.symm⟩)))
  go_wp2_with fail
  go_ret
  exact ⟨rfl, _, rfl⟩

set_option maxHeartbeats 400000 in
theorem tidy1_any (n : Int) (ks : List Int) (vb mb : Nat) (w : World) (hv : Plot w vb 69 #[.map (some mb)]) (hm : NumIs w mb ks) :
    Calls Try.prog 44 #[.int .i64 n, .pointer (some ⟨vb, 0, none⟩)] w fun e w' => e = .returned (.int .i64 (numV ks n)) ∧ NumIs w' mb (numS ks n) ∧ Chg (fun k => k = mb) w w' := by
  have c0 : w.cell? ⟨vb, 0, none⟩ = some (.map (some mb)) := hv.cell 0
  have hlook := MapIs.lookup (P := Try.prog) hm Try.underlying69 Try.underlying3 (zero_int w) n true
  rw [aget_entsFrom] at hlook
  have hlen := MapIs.len (P := Try.prog) hm Try.underlying69
  rw [length_entsFrom] at hlen
  obtain ⟨w1, hup, hm1, hc1, hs1⟩ := MapIs.update (P := Try.prog) hm Try.underlying69 Try.underlying3 n (.int .i64 ks.length)
  cases hp : pos n ks with
  | none =>
    rw [hp] at hlook
    simp only [Option.map_none, Option.getD_none, Option.isSome_none, if_true] at hlook
    have h1 : numV ks n = ks.length := by simp [numV, hp]
    have h2 : NumIs w1 mb (numS ks n) := by
      unfold NumIs numS
      rw [hp]
      simp only [Option.isSome_none, Bool.false_eq_true, if_false]
      rw [entsFrom_snoc]
      rw [aput_none (by rw [aget_entsFrom, hp]; rfl)] at hm1
      simpa using hm1
    have H1 := Lib.hid h1
    clear h1 hp
    go_enter Try.func44, Try.ntmps44
    go_wp2_with fail
    go_ret
    exact ⟨by rw [H1.out]; rfl, h2, hc1⟩
  | some j =>
    rw [hp] at hlook
    simp only [Option.map_some, Option.getD_some, Option.isSome_some, if_true] at hlook
    have h1 : numV ks n = j := by simp [numV, hp]
    have h2 : NumIs w mb (numS ks n) := by
      unfold numS
      rw [hp]
      exact hm
    have H1 := Lib.hid h1
    clear h1 hp
    go_enter Try.func44, Try.ntmps44
    go_wp2_with fail
    go_ret
    exact ⟨by rw [H1.out]; rfl, h2, Chg.refl _ _⟩

set_option maxHeartbeats 400000 in
theorem tidied1_any (n : Int) (ks : List Int) (vb mb : Nat) (w : World) (hv : Plot w vb 69 #[.map (some mb)]) (hm : NumIs w mb ks) :
    Calls Try.prog 45 #[.int .i64 n, .pointer (some ⟨vb, 0, none⟩)] w fun e w' => e = .returned (.int .i64 (numV ks n)) ∧ NumIs w' mb (numS ks n) ∧ Chg (fun k => k = mb) w w' := by
  have c0 : w.cell? ⟨vb, 0, none⟩ = some (.map (some mb)) := hv.cell 0
  have hlook := MapIs.lookup (P := Try.prog) hm Try.underlying69 Try.underlying3 (zero_int w) n true
  rw [aget_entsFrom] at hlook
  have hlen := MapIs.len (P := Try.prog) hm Try.underlying69
  rw [length_entsFrom] at hlen
  obtain ⟨w1, hup, hm1, hc1, hs1⟩ := MapIs.update (P := Try.prog) hm Try.underlying69 Try.underlying3 n (.int .i64 ks.length)
  cases hp : pos n ks with
  | none =>
    rw [hp] at hlook
    simp only [Option.map_none, Option.getD_none, Option.isSome_none, if_true] at hlook
    have h1 : numV ks n = ks.length := by simp [numV, hp]
    have h2 : NumIs w1 mb (numS ks n) := by
      unfold NumIs numS
      rw [hp]
      simp only [Option.isSome_none, Bool.false_eq_true, if_false]
      rw [entsFrom_snoc]
      rw [aput_none (by rw [aget_entsFrom, hp]; rfl)] at hm1
      simpa using hm1
    have hlk2 := MapIs.lookup (P := Try.prog) h2 Try.underlying69 Try.underlying3 (zero_int w1) n false
    have c1 : w1.cell? ⟨vb, 0, none⟩ = some (.map (some mb)) := (hv.chg hc1 (fun e => Plot.not_map hv hm e)).cell 0
    rw [aget_entsFrom, show pos n (numS ks n) = some ks.length by unfold numS; rw [hp]; simpa using pos_snoc hp] at hlk2
    simp only [Option.map_some, Option.getD_some, Bool.false_eq_true, if_false] at hlk2
    have H1 := Lib.hid h1
    clear h1 hp
    go_enter Try.func45, Try.ntmps45
    go_wp2_with fail
    go_ret
    exact ⟨by rw [H1.out]; rfl, h2, hc1⟩
  | some j =>
    rw [hp] at hlook
    simp only [Option.map_some, Option.getD_some, Option.isSome_some, if_true] at hlook
    have h1 : numV ks n = j := by simp [numV, hp]
    have h2 : NumIs w mb (numS ks n) := by
      unfold numS
      rw [hp]
      exact hm
    have hlk2 := MapIs.lookup (P := Try.prog) hm Try.underlying69 Try.underlying3 (zero_int w) n false
    rw [aget_entsFrom, hp] at hlk2
    simp only [Option.map_some, Option.getD_some, Bool.false_eq_true, if_false] at hlk2
    have H1 := Lib.hid h1
    clear h1 hp
    go_enter Try.func45, Try.ntmps45
    go_wp2_with fail
    go_ret
    exact ⟨by rw [H1.out]; rfl, h2, Chg.refl _ _⟩
end Go.Proofs.Ytjicoifjgokoiaa
