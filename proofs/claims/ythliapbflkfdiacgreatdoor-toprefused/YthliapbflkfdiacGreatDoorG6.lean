/- EWalk2, NumB, RefM, RefN, RefEq, RefEq2, IntMap, MapM, Program: texts that follow one another, laid into one file. -/
import Derived.Test.YthliapbflkfdiacGreatDoorG5
import Derived.Test.YthliapbflkfdiacGreatDoorG4
import Derived.Test.YthliapbflkfdiacGreatDoorG1
import Derived.MapKept
import Derived.Maps.OwnOps
import Derived.Test.YthliapbflkfdiacGreatDoorG2
namespace Go.Proofs.YthliapbflkfdiacGreatDoor
open Go.RowKit Go.Shelf
set_option linter.unusedVariables false
set_option linter.unusedSimpArgs false
set_option maxRecDepth 100000
set_option maxHeartbeats 1000000

/-- The words of the events are as the program lays them. -/
def GWords (w : World) : Prop := ∀ i : Nat, i < 7 → w.cell? ⟨0, i, none⟩ = some (sv (wordM (i : Nat)))
theorem word_len (k : Int) : (wordM k).length ≤ 6 := by
  unfold wordM
  repeat' split
  all_goals decide
theorem line_any (k : Int) (T : Ts) (v : Value) (w0 : World) (hG : ∀ w', Ext [] w0 w' → GVars w') (hW : ∀ w', Ext [] w0 w' → GWords w') (hv : Sl w0 (fun _ => True) v T) (hr : rng T) (hN : T.nodes ≤ 1048576) (hl : (lineM k T).length ≤ 1073741824) :
    Calls Tryz.prog 18 #[.agg #[.int .i64 k, v]] w0 fun e w' => e = .returned (sv (lineM k T)) ∧ Below w0.heap.size w0 w' := by
  have hS := St.start w0
  obtain ⟨A, c, rfl, hv⟩ := hv.form
  refine goes_enter1 Tryz.func18 rfl Tryz.ntmps18 rfl ?_
  by_cases h0 : k < 0
  · have e : lineM k T = [] := by unfold lineM wordM; repeat' rw [if_neg (by omega)]
    rw [e]
    refine goes_seq ?_
    refine goes_region ?_
    refine lst_box hS rfl rfl ?_
    clear hS
    intro b1 wx1 hS
    refine lst_run (run_assign (by conv => lhs; whnf)) rfl ?_
    refine lst_done ?_
    refine goes_seq ?_
    refine goes_seq ?_
    refine goes_region ?_
    refine lst_run (run_fieldAddr (off := 0) rfl rfl) rfl ?_
    first
      | refine lst_run (run_load1_own hS rfl rfl (by first | exact .head | exact .tail .head | exact .tail (.tail .head) | exact .tail (.tail (.tail .head)) | exact .tail (.tail (.tail (.tail .head))) | exact .tail (.tail (.tail (.tail (.tail .head))))) (by repeat constructor)) rfl ?_
      | refine lst_run (run_load1 rfl rfl (by first | assumption | exact hS.cell0 (by assumption) | exact lv_next hS | exact lv_list hS)) rfl ?_
    first
      | refine lst_run (run_lss_yes rfl rfl (by omega)) rfl ?_
      | refine lst_run (run_lss_no rfl rfl (by omega)) rfl ?_
      | refine lst_run (rfl) rfl ?_
    refine lst_run (run_move (by conv => lhs; whnf)) rfl ?_
    refine lst_pass rfl rfl rfl ?_
    refine lst_pass rfl rfl rfl ?_
    refine lst_pass rfl rfl rfl ?_
    first
      | refine lst_run (run_pick_t rfl (by conv => lhs; whnf)) rfl ?_
      | refine lst_run (run_pick_f rfl (by conv => lhs; whnf)) rfl ?_
    refine lst_done ?_
    refine goes_true rfl ?_
    refine goes_seq ?_
    refine goes_region ?_
    refine lst_run (run_assign (by conv => lhs; whnf)) rfl ?_
    refine lst_done ?_
    refine goes_ret1 Tryz.func18 rfl (by conv => lhs; whnf) ?_
    exact ⟨rfl, hS.ext.below⟩
  by_cases h7 : 7 ≤ k
  · have e : lineM k T = [] := by unfold lineM wordM; repeat' rw [if_neg (by omega)]
    rw [e]
    refine goes_seq ?_
    refine goes_region ?_
    refine lst_box hS rfl rfl ?_
    clear hS
    intro b1 wx1 hS
    refine lst_run (run_assign (by conv => lhs; whnf)) rfl ?_
    refine lst_done ?_
    refine goes_seq ?_
    refine goes_seq ?_
    refine goes_region ?_
    refine lst_run (run_fieldAddr (off := 0) rfl rfl) rfl ?_
    first
      | refine lst_run (run_load1_own hS rfl rfl (by first | exact .head | exact .tail .head | exact .tail (.tail .head) | exact .tail (.tail (.tail .head)) | exact .tail (.tail (.tail (.tail .head))) | exact .tail (.tail (.tail (.tail (.tail .head))))) (by repeat constructor)) rfl ?_
      | refine lst_run (run_load1 rfl rfl (by first | assumption | exact hS.cell0 (by assumption) | exact lv_next hS | exact lv_list hS)) rfl ?_
    first
      | refine lst_run (run_lss_yes rfl rfl (by omega)) rfl ?_
      | refine lst_run (run_lss_no rfl rfl (by omega)) rfl ?_
      | refine lst_run (rfl) rfl ?_
    refine lst_run (run_move (by conv => lhs; whnf)) rfl ?_
    refine lst_guard rfl rfl ?_
    refine lst_run (run_fieldAddr (off := 0) rfl rfl) rfl ?_
    refine lst_guard rfl rfl ?_
    first
      | refine lst_run (run_load1_own hS rfl rfl (by first | exact .head | exact .tail .head | exact .tail (.tail .head) | exact .tail (.tail (.tail .head)) | exact .tail (.tail (.tail (.tail .head))) | exact .tail (.tail (.tail (.tail (.tail .head))))) (by repeat constructor)) rfl ?_
      | refine lst_run (run_load1 rfl rfl (by first | assumption | exact hS.cell0 (by assumption) | exact lv_next hS | exact lv_list hS)) rfl ?_
    refine lst_guard rfl rfl ?_
    first
      | refine lst_run (run_geq_yes rfl rfl (by omega)) rfl ?_
      | refine lst_run (run_geq_no rfl rfl (by omega)) rfl ?_
      | refine lst_run (rfl) rfl ?_
    first
      | refine lst_run (run_pick_t rfl (by conv => lhs; whnf)) rfl ?_
      | refine lst_run (run_pick_f rfl (by conv => lhs; whnf)) rfl ?_
    refine lst_done ?_
    refine goes_true rfl ?_
    refine goes_seq ?_
    refine goes_region ?_
    refine lst_run (run_assign (by conv => lhs; whnf)) rfl ?_
    refine lst_done ?_
    refine goes_ret1 Tryz.func18 rfl (by conv => lhs; whnf) ?_
    exact ⟨rfl, hS.ext.below⟩
  obtain ⟨i, rfl⟩ : ∃ i : Nat, k = i := ⟨k.toNat, by omega⟩
  have hwc : ∀ w', Ext [] w0 w' → w'.cell? ⟨0, 0 + ((i : Nat) : Int).toNat * 1, none⟩ = some (sv (wordM (i : Nat))) := fun w' h => by
    have := hW w' h i (by omega)
    rwa [show 0 + ((i : Nat) : Int).toNat * 1 = i by omega]
  have hwl := word_len (i : Nat)
  by_cases h1 : ((i : Nat) : Int) = 1
  · have e : lineM (i : Nat) T = wordM (i : Nat) ++ valsM 0 T := by unfold lineM; rw [if_pos h1, h1]; rfl
    rw [e] at hl ⊢
    rw [List.length_append] at hl
    refine goes_seq ?_
    refine goes_region ?_
    refine lst_box hS rfl rfl ?_
    clear hS
    intro b1 wx1 hS
    refine lst_run (run_assign (by conv => lhs; whnf)) rfl ?_
    refine lst_done ?_
    refine goes_seq ?_
    refine goes_seq ?_
    refine goes_region ?_
    refine lst_run (run_fieldAddr (off := 0) rfl rfl) rfl ?_
    first
      | refine lst_run (run_load1_own hS rfl rfl (by first | exact .head | exact .tail .head | exact .tail (.tail .head) | exact .tail (.tail (.tail .head)) | exact .tail (.tail (.tail (.tail .head))) | exact .tail (.tail (.tail (.tail (.tail .head))))) (by repeat constructor)) rfl ?_
      | refine lst_run (run_load1 rfl rfl (by first | assumption | exact hwc _ hS.ext | exact hS.cell0 (by assumption) | exact lv_next hS | exact lv_list hS)) rfl ?_
    first
      | refine lst_run (run_lss_yes rfl rfl (by omega)) rfl ?_
      | refine lst_run (run_lss_no rfl rfl (by omega)) rfl ?_
      | refine lst_run (rfl) rfl ?_
    refine lst_run (run_move (by conv => lhs; whnf)) rfl ?_
    refine lst_guard rfl rfl ?_
    refine lst_run (run_fieldAddr (off := 0) rfl rfl) rfl ?_
    refine lst_guard rfl rfl ?_
    first
      | refine lst_run (run_load1_own hS rfl rfl (by first | exact .head | exact .tail .head | exact .tail (.tail .head) | exact .tail (.tail (.tail .head)) | exact .tail (.tail (.tail (.tail .head))) | exact .tail (.tail (.tail (.tail (.tail .head))))) (by repeat constructor)) rfl ?_
      | refine lst_run (run_load1 rfl rfl (by first | assumption | exact hwc _ hS.ext | exact hS.cell0 (by assumption) | exact lv_next hS | exact lv_list hS)) rfl ?_
    refine lst_guard rfl rfl ?_
    first
      | refine lst_run (run_geq_yes rfl rfl (by omega)) rfl ?_
      | refine lst_run (run_geq_no rfl rfl (by omega)) rfl ?_
      | refine lst_run (rfl) rfl ?_
    first
      | refine lst_run (run_pick_t rfl (by conv => lhs; whnf)) rfl ?_
      | refine lst_run (run_pick_f rfl (by conv => lhs; whnf)) rfl ?_
    refine lst_done ?_
    refine goes_false rfl ?_
    refine goes_skip ?_
    refine goes_seq ?_
    refine goes_region ?_
    refine lst_run (run_fieldAddr (off := 0) rfl rfl) rfl ?_
    first
      | refine lst_run (run_load1_own hS rfl rfl (by first | exact .head | exact .tail .head | exact .tail (.tail .head) | exact .tail (.tail (.tail .head)) | exact .tail (.tail (.tail (.tail .head))) | exact .tail (.tail (.tail (.tail (.tail .head))))) (by repeat constructor)) rfl ?_
      | refine lst_run (run_load1 rfl rfl (by first | assumption | exact hwc _ hS.ext | exact hS.cell0 (by assumption) | exact lv_next hS | exact lv_list hS)) rfl ?_
    refine lst_run (run_indexArr (len := 7) (el := 9) (sz := 1) rfl rfl rfl rfl (by omega) (by omega)) rfl ?_
    first
      | refine lst_run (run_load1_own hS rfl rfl (by first | exact .head | exact .tail .head | exact .tail (.tail .head) | exact .tail (.tail (.tail .head)) | exact .tail (.tail (.tail (.tail .head))) | exact .tail (.tail (.tail (.tail (.tail .head))))) (by repeat constructor)) rfl ?_
      | refine lst_run (run_load1 rfl rfl (by first | assumption | exact hwc _ hS.ext | exact hS.cell0 (by assumption) | exact lv_next hS | exact lv_list hS)) rfl ?_
    refine lst_run (run_assign (by conv => lhs; whnf)) rfl ?_
    refine lst_done ?_
    refine goes_seq ?_
    refine goes_seq ?_
    refine goes_region ?_
    refine lst_run (run_fieldAddr (off := 0) rfl rfl) rfl ?_
    first
      | refine lst_run (run_load1_own hS rfl rfl (by first | exact .head | exact .tail .head | exact .tail (.tail .head) | exact .tail (.tail (.tail .head)) | exact .tail (.tail (.tail (.tail .head))) | exact .tail (.tail (.tail (.tail (.tail .head))))) (by repeat constructor)) rfl ?_
      | refine lst_run (run_load1 rfl rfl (by first | assumption | exact hwc _ hS.ext | exact hS.cell0 (by assumption) | exact lv_next hS | exact lv_list hS)) rfl ?_
    first
      | refine lst_run (run_eql_one_int rfl rfl) rfl ?_
      | refine lst_run (run_eql_no rfl rfl (by first | assumption | omega)) rfl ?_
      | refine lst_run (run_eql_yes rfl rfl (by omega)) rfl ?_
      | refine lst_run (rfl) rfl ?_
    refine lst_done ?_
    refine goes_true rfl ?_
    refine goes_seq ?_
    refine goes_region ?_
    refine lst_run (run_move (by conv => lhs; whnf)) rfl ?_
    refine lst_run (run_fieldAddr (off := 1) rfl rfl) rfl ?_
    first
      | refine lst_run (run_load1_own hS rfl rfl (by first | exact .head | exact .tail .head | exact .tail (.tail .head) | exact .tail (.tail (.tail .head)) | exact .tail (.tail (.tail (.tail .head))) | exact .tail (.tail (.tail (.tail (.tail .head))))) (by repeat constructor)) rfl ?_
      | refine lst_run (run_load1 rfl rfl (by first | assumption | exact hwc _ hS.ext | exact hS.cell0 (by assumption) | exact lv_next hS | exact lv_list hS)) rfl ?_
    refine lst_enter (run_call (by kernel_rfl) (args_1 (by conv => lhs; whnf))) rfl ?_
    refine Calls.mono (values_any T _ _ (fun w' h => hG w' (hS.ext.trans h)) (hv.below hS.ext.below) hr hN (by omega)) ?_
    rintro _ w3 ⟨rfl, hb3⟩
    refine ⟨_, rfl, ?_⟩
    replace hS := hS.grow hb3
    refine lst_run (run_concat rfl rfl (by first | omega | (simp; done) | (simp; omega))) rfl ?_
    refine lst_run (run_assign (by conv => lhs; whnf)) rfl ?_
    refine lst_done ?_
    refine goes_ret1 Tryz.func18 rfl (by conv => lhs; whnf) ?_
    exact ⟨rfl, hS.ext.below⟩
  · have e : lineM (i : Nat) T = wordM (i : Nat) := by unfold lineM; rw [if_neg h1]
    rw [e]
    refine goes_seq ?_
    refine goes_region ?_
    refine lst_box hS rfl rfl ?_
    clear hS
    intro b1 wx1 hS
    refine lst_run (run_assign (by conv => lhs; whnf)) rfl ?_
    refine lst_done ?_
    refine goes_seq ?_
    refine goes_seq ?_
    refine goes_region ?_
    refine lst_run (run_fieldAddr (off := 0) rfl rfl) rfl ?_
    first
      | refine lst_run (run_load1_own hS rfl rfl (by first | exact .head | exact .tail .head | exact .tail (.tail .head) | exact .tail (.tail (.tail .head)) | exact .tail (.tail (.tail (.tail .head))) | exact .tail (.tail (.tail (.tail (.tail .head))))) (by repeat constructor)) rfl ?_
      | refine lst_run (run_load1 rfl rfl (by first | assumption | exact hwc _ hS.ext | exact hS.cell0 (by assumption) | exact lv_next hS | exact lv_list hS)) rfl ?_
    first
      | refine lst_run (run_lss_yes rfl rfl (by omega)) rfl ?_
      | refine lst_run (run_lss_no rfl rfl (by omega)) rfl ?_
      | refine lst_run (rfl) rfl ?_
    refine lst_run (run_move (by conv => lhs; whnf)) rfl ?_
    refine lst_guard rfl rfl ?_
    refine lst_run (run_fieldAddr (off := 0) rfl rfl) rfl ?_
    refine lst_guard rfl rfl ?_
    first
      | refine lst_run (run_load1_own hS rfl rfl (by first | exact .head | exact .tail .head | exact .tail (.tail .head) | exact .tail (.tail (.tail .head)) | exact .tail (.tail (.tail (.tail .head))) | exact .tail (.tail (.tail (.tail (.tail .head))))) (by repeat constructor)) rfl ?_
      | refine lst_run (run_load1 rfl rfl (by first | assumption | exact hwc _ hS.ext | exact hS.cell0 (by assumption) | exact lv_next hS | exact lv_list hS)) rfl ?_
    refine lst_guard rfl rfl ?_
    first
      | refine lst_run (run_geq_yes rfl rfl (by omega)) rfl ?_
      | refine lst_run (run_geq_no rfl rfl (by omega)) rfl ?_
      | refine lst_run (rfl) rfl ?_
    first
      | refine lst_run (run_pick_t rfl (by conv => lhs; whnf)) rfl ?_
      | refine lst_run (run_pick_f rfl (by conv => lhs; whnf)) rfl ?_
    refine lst_done ?_
    refine goes_false rfl ?_
    refine goes_skip ?_
    refine goes_seq ?_
    refine goes_region ?_
    refine lst_run (run_fieldAddr (off := 0) rfl rfl) rfl ?_
    first
      | refine lst_run (run_load1_own hS rfl rfl (by first | exact .head | exact .tail .head | exact .tail (.tail .head) | exact .tail (.tail (.tail .head)) | exact .tail (.tail (.tail (.tail .head))) | exact .tail (.tail (.tail (.tail (.tail .head))))) (by repeat constructor)) rfl ?_
      | refine lst_run (run_load1 rfl rfl (by first | assumption | exact hwc _ hS.ext | exact hS.cell0 (by assumption) | exact lv_next hS | exact lv_list hS)) rfl ?_
    refine lst_run (run_indexArr (len := 7) (el := 9) (sz := 1) rfl rfl rfl rfl (by omega) (by omega)) rfl ?_
    first
      | refine lst_run (run_load1_own hS rfl rfl (by first | exact .head | exact .tail .head | exact .tail (.tail .head) | exact .tail (.tail (.tail .head)) | exact .tail (.tail (.tail (.tail .head))) | exact .tail (.tail (.tail (.tail (.tail .head))))) (by repeat constructor)) rfl ?_
      | refine lst_run (run_load1 rfl rfl (by first | assumption | exact hwc _ hS.ext | exact hS.cell0 (by assumption) | exact lv_next hS | exact lv_list hS)) rfl ?_
    refine lst_run (run_assign (by conv => lhs; whnf)) rfl ?_
    refine lst_done ?_
    refine goes_seq ?_
    refine goes_seq ?_
    refine goes_region ?_
    refine lst_run (run_fieldAddr (off := 0) rfl rfl) rfl ?_
    first
      | refine lst_run (run_load1_own hS rfl rfl (by first | exact .head | exact .tail .head | exact .tail (.tail .head) | exact .tail (.tail (.tail .head)) | exact .tail (.tail (.tail (.tail .head))) | exact .tail (.tail (.tail (.tail (.tail .head))))) (by repeat constructor)) rfl ?_
      | refine lst_run (run_load1 rfl rfl (by first | assumption | exact hwc _ hS.ext | exact hS.cell0 (by assumption) | exact lv_next hS | exact lv_list hS)) rfl ?_
    first
      | refine lst_run (run_eql_one_int rfl rfl) rfl ?_
      | refine lst_run (run_eql_no rfl rfl (by first | assumption | omega)) rfl ?_
      | refine lst_run (run_eql_yes rfl rfl (by omega)) rfl ?_
      | refine lst_run (rfl) rfl ?_
    refine lst_done ?_
    refine goes_false rfl ?_
    refine goes_skip ?_
    refine goes_seq ?_
    refine goes_region ?_
    refine lst_run (run_move (by conv => lhs; whnf)) rfl ?_
    refine lst_run (run_assign (by conv => lhs; whnf)) rfl ?_
    refine lst_done ?_
    refine goes_ret1 Tryz.func18 rfl (by conv => lhs; whnf) ?_
    exact ⟨rfl, hS.ext.below⟩
end Go.Proofs.YthliapbflkfdiacGreatDoor
namespace Go.Proofs.YthliapbflkfdiacGreatDoor
open Go.RowKit Go.Shelf
set_option linter.unusedVariables false
set_option linter.unusedSimpArgs false
set_option maxRecDepth 100000

/-! Numbers -/
theorem parse_app : ∀ (l m : Str) (acc a : Nat), Lib.parseUint10 acc l = .ok a → Lib.parseUint10 acc (l ++ m) = Lib.parseUint10 a m
  | [], m, acc, a, h => by
    simp only [Lib.parseUint10, Lib.NumEnd.ok.injEq] at h
    subst h; rfl
  | c :: r, m, acc, a, h => by
    simp only [List.cons_append, Lib.parseUint10] at h ⊢
    split at h
    · rename_i hc
      rw [if_pos hc]
      split at h
      · cases h
      · rename_i h1
        rw [if_neg h1]
        split at h
        · cases h
        · rename_i h2
          rw [if_neg h2]
          exact parse_app r m _ a h
    · cases h
theorem digit_nat (d : Nat) (h : d < 10) : (UInt8.ofNat (48 + d)).toNat = 48 + d := by
  rw [UInt8.toNat_ofNat']; omega
theorem parse_digits (u : Nat) (h : u < 9223372036854775808) : Lib.parseUint10 0 (Lib.decDigits u) = .ok u := by
  induction u using Nat.strongRecOn with
  | ind u ih =>
    by_cases h10 : u < 10
    · rw [Lib.decDigits_one h10]
      have := digit_nat u h10
      simp only [Lib.parseUint10, this]
      rw [if_pos (by omega), if_neg (by omega), if_neg (by omega)]
      simp
    · rw [Lib.decDigits, dif_neg h10, parse_app _ _ _ _ (ih (u / 10) (by omega) (by omega))]
      have := digit_nat (u % 10) (by omega)
      simp only [Lib.parseUint10, this]
      rw [if_pos (by omega), if_neg (by omega), if_neg (by omega)]
      congr 1
      omega
theorem digits_ne (u : Nat) : Lib.decDigits u ≠ [] := by
  rw [Lib.decDigits]
  split <;> simp
theorem digits_all (u : Nat) : ∀ c ∈ Lib.decDigits u, digB c = true := by
  have hd : ∀ d, d < 10 → digB (UInt8.ofNat (48 + d)) = true := fun d h => by
    have := digit_nat d h
    simp only [digB, this]
    simp; omega
  induction u using Nat.strongRecOn with
  | ind u ih =>
    by_cases h10 : u < 10
    · rw [Lib.decDigits_one h10]
      intro c hc
      rw [List.mem_singleton.1 hc]
      exact hd u h10
    · rw [Lib.decDigits, dif_neg h10]
      intro c hc
      rcases List.mem_append.1 hc with hc | hc
      · exact ih (u / 10) (by omega) c hc
      · rw [List.mem_singleton.1 hc]
        exact hd _ (by omega)
theorem ndigits_le : ∀ (k u : Nat), u < 10 ^ (k + 1) → Lib.nDigits u ≤ k + 1
  | 0, u, h => by rw [Lib.nDigits_small (by simpa using h)]; omega
  | k + 1, u, h => by
    by_cases h10 : u < 10
    · rw [Lib.nDigits_small h10]; omega
    · rw [Lib.nDigits_big h10]
      have := ndigits_le k (u / 10) (by rw [Nat.pow_succ] at h; omega)
      omega
theorem dig_not (c : UInt8) (h : digB c = true) : c.toNat ≠ 43 ∧ c.toNat ≠ 45 := by
  simp [digB] at h; omega
theorem atoi_itoa (n : Int) (h0 : -1099511627776 ≤ n) (h1 : n ≤ 1099511627776) : Lib.atoiAll (Lib.itoa n) = .ok n := by
  unfold Lib.itoa
  split
  · have hp := parse_digits n.natAbs (by omega)
    have hne := digits_ne n.natAbs
    simp only [Lib.atoiAll, Lib.parseMag]
    have e1 : (UInt8.toNat 45 = 43 ∨ UInt8.toNat 45 = 45) = True := eq_true (by decide)
    have e2 : (UInt8.toNat 45 = 45) = True := eq_true (by decide)
    simp only [e2, or_true, if_true]
    rw [if_neg hne, hp]
    simp only [not_true_eq_false, false_and, if_false, true_and]
    rw [if_neg (by omega)]
    congr 1; omega
  · have hp := parse_digits n.toNat (by omega)
    cases hl : Lib.decDigits n.toNat with
    | nil => exact absurd hl (digits_ne _)
    | cons c r =>
      have hc := dig_not c (digits_all n.toNat c (by rw [hl]; exact .head _))
      rw [hl] at hp
      simp only [Lib.atoiAll, Lib.parseMag]
      simp only [hc.1, hc.2, or_self, if_false]
      rw [if_neg (by simp), hp]
      simp only [not_false_eq_true, true_and, false_and, if_false]
      rw [if_neg (by omega)]
      congr 1; omega
theorem numM_itoa (n : Int) (h0 : -1099511627776 ≤ n) (h1 : n ≤ 1099511627776) : numM (Lib.itoa n) = some n := by
  unfold numM
  rw [atoi_itoa n h0 h1]
  simp only
  rw [if_pos ⟨trivial, h0, h1⟩]
end Go.Proofs.YthliapbflkfdiacGreatDoor
namespace Go.Proofs.YthliapbflkfdiacGreatDoor
open Go.RowKit
set_option linter.unusedVariables false

/-! Words -/
def wordLen : Str → Nat
  | [] => 0
  | c :: r =>
    if lowB c || upB c then 1 + spanN lowB r
    else if digB c || (c == 45) then 1 + spanN digB r
    else if ([58, 45] : Str).isPrefixOf (c :: r) then 2
    else if signs.contains c then 1
    else 0
def wordsF : Nat → Str → List Str
  | 0, _ => []
  | f + 1, [] => []
  | f + 1, c :: r =>
    if whiteB c then wordsF f r
    else if wordLen (c :: r) = 0 then [[]]
    else (c :: r).take (wordLen (c :: r)) :: wordsF f ((c :: r).drop (wordLen (c :: r)))
def wordsM (l : Str) : List Str := wordsF l.length l
theorem words_fuel : ∀ (n : Nat) (l : Str), l.length ≤ n → wordsF n l = wordsM l := by
  intro n
  induction n using Nat.strongRecOn with
  | _ n ih =>
    intro l hn
    cases l with
    | nil => cases n <;> rfl
    | cons c r =>
      obtain ⟨m, rfl⟩ : ∃ m, n = m + 1 := ⟨n - 1, by simp at hn; omega⟩
      unfold wordsM
      simp only [List.length_cons] at hn ⊢
      simp only [wordsF]
      split
      · rw [ih m (by omega) r (by omega)]; rfl
      split
      · rfl
      · rename_i hw
        have hl : ((c :: r).drop (wordLen (c :: r))).length ≤ r.length := by
          rw [List.length_drop]; simp; omega
        rw [ih m (by omega) _ (by omega)]
        by_cases e : m = r.length
        · rw [e] at ih; rw [← ih r.length (by omega) _ hl]
        · rw [← ih r.length (by omega) _ hl]
theorem words_white {c : UInt8} (r : Str) (h : whiteB c = true) : wordsM (c :: r) = wordsM r := by
  rw [← words_fuel (r.length + 1) (c :: r) (by simp), wordsF, if_pos h, words_fuel _ r (Nat.le_refl _)]
theorem words_bad {c : UInt8} (r : Str) (h : whiteB c = false) (hw : wordLen (c :: r) = 0) : wordsM (c :: r) = [[]] := by
  rw [← words_fuel (r.length + 1) (c :: r) (by simp), wordsF, if_neg (by simp [h]), if_pos hw]
theorem words_word {c : UInt8} (r : Str) (h : whiteB c = false) (hw : wordLen (c :: r) ≠ 0) : wordsM (c :: r) = (c :: r).take (wordLen (c :: r)) :: wordsM ((c :: r).drop (wordLen (c :: r))) := by
  rw [← words_fuel (r.length + 1) (c :: r) (by simp), wordsF, if_neg (by simp [h]), if_neg hw, words_fuel _ _ (by rw [List.length_drop]; simp; omega)]

/-! The reader of words -/
structure PS where
  l : List Str
  vars : List Str
  bad : Bool
def PS.has (p : PS) (t : Str) : Bool := p.l.head? == some t
def PS.pop (p : PS) : PS := { p with l := p.l.tail }
def PS.spoil (p : PS) : PS := { p with bad := true }
/-- Behind a list: the word t is wanted. -/
def PS.close (p : PS) (t : Str) : PS := if p.bad then p else if p.has t then p.pop else p.spoil
def PS.var (p : PS) (x : Str) : Nat × PS := if x ∈ p.vars then (idxOfV p.vars x, p) else (p.vars.length, { p with vars := p.vars ++ [x] })
def dval (d : Str) : Nat := d.foldl (fun n c => 10 * n + (c - 48).toNat) 0
def bareM (s : Str) : Str := match s with | 45 :: r => r | _ => s
def valueM (s : Str) : Option Int :=
  let d := bareM s
  if d = [] ∨ 13 < d.length ∨ (headC d = 48 ∧ s ≠ [48]) then none
  else if 1099511627776 < dval d then none
  else some (if d = s then (dval d : Int) else -(dval d : Int))
def refLoop (f : PS → Nd × PS) : Nat → PS → List Nd × PS
  | 0, p => ([], p)
  | fuel + 1, p => if p.bad = false ∧ p.has [44] = true then
      let a := f p.pop
      let q := refLoop f fuel a.2
      (a.1 :: q.1, q.2)
    else ([], p)
def refTerms (f : PS → Nd × PS) (t : Str) (p : PS) : List Nd × PS :=
  let a := f p
  let q := refLoop f a.2.l.length a.2
  (a.1 :: q.1, q.2.close t)
def refTerm : Nat → PS → Nd × PS
  | 0, p => (Nd.zero, p.spoil)
  | d + 1, p => match p.l with
    | [] => (Nd.zero, p.spoil)
    | [] :: _ => (Nd.zero, p.spoil)
    | (c :: r) :: _ =>
      if c :: r = [33] then (⟨1, 0, [33], .nil⟩, p.pop)
      else if upB c then (⟨0, (p.pop.var (c :: r)).1, [], .nil⟩, (p.pop.var (c :: r)).2)
      else if (c == 45) || digB c then (⟨2, (valueM (c :: r)).getD 0, [], .nil⟩, { p.pop with bad := p.bad || (valueM (c :: r)).isNone })
      else if lowB c = false then (Nd.zero, p.spoil)
      else if p.pop.has [40] then
        (⟨3, 0, c :: r, tsOf (refTerms (refTerm d) [41] p.pop.pop).1⟩, (refTerms (refTerm d) [41] p.pop.pop).2)
      else (⟨1, 0, c :: r, .nil⟩, p.pop)
def refGoals (p : PS) : List Nd × PS := refTerms (refTerm 24) [46] p
def refBody (p : PS) : List Nd × PS := if p.bad = false ∧ p.has [58, 45] = true then refGoals p.pop else ([], p.close [46])

/-! Nothing comes back that was read. -/
theorem pop_le (p : PS) : p.pop.l.length ≤ p.l.length := by simp [PS.pop]
theorem close_le (p : PS) (t : Str) : (p.close t).l.length ≤ p.l.length := by
  unfold PS.close
  split
  · exact Nat.le_refl _
  split
  · exact pop_le p
  · exact Nat.le_refl _
theorem has_pop {p : PS} {t : Str} (h : p.has t = true) : p.pop.l.length < p.l.length ∧ p.l = t :: p.pop.l := by
  unfold PS.has at h
  cases hl : p.l with
  | nil => rw [hl] at h; simp at h
  | cons x r => rw [hl] at h; simp at h; simp [PS.pop, hl, h]
def LessP (f : PS → Nd × PS) : Prop := ∀ p, (f p).2.l.length ≤ p.l.length
theorem refLoop_le {f : PS → Nd × PS} (hf : LessP f) : ∀ (n : Nat) (p : PS), (refLoop f n p).2.l.length ≤ p.l.length
  | 0, p => Nat.le_refl _
  | n + 1, p => by
    unfold refLoop
    split
    · have h1 := refLoop_le hf n (f p.pop).2
      have h2 := hf p.pop
      have h3 := pop_le p
      simp only
      omega
    · exact Nat.le_refl _
theorem refTerms_le {f : PS → Nd × PS} (hf : LessP f) (t : Str) (p : PS) : (refTerms f t p).2.l.length ≤ p.l.length := by
  have h1 := refLoop_le hf (f p).2.l.length (f p).2
  have h2 := hf p
  have h3 := close_le (refLoop f (f p).2.l.length (f p).2).2 t
  simp only [refTerms]
  omega
theorem pvar_l (p : PS) (x : Str) : (p.var x).2.l = p.l ∧ (p.var x).2.bad = p.bad := by
  unfold PS.var
  split <;> exact ⟨rfl, rfl⟩
theorem refTerm_le : ∀ d, LessP (refTerm d)
  | 0, p => Nat.le_refl _
  | d + 1, p => by
    unfold refTerm
    have h1 := pop_le p
    split
    · exact Nat.le_refl _
    · exact Nat.le_refl _
    · rename_i c r q hl
      split
      · exact h1
      split
      · rw [(pvar_l _ _).1]; exact h1
      split
      · exact h1
      split
      · exact Nat.le_refl _
      split
      · have h2 := refTerms_le (refTerm_le d) [41] p.pop.pop
        have h3 := pop_le p.pop
        simp only; omega
      · exact h1
theorem refLoop_fuel {f : PS → Nd × PS} (hf : LessP f) : ∀ (n : Nat) (p : PS), p.l.length ≤ n → refLoop f n p = refLoop f p.l.length p := by
  intro n
  induction n using Nat.strongRecOn with
  | _ n ih =>
    intro p hn
    by_cases ht : p.bad = false ∧ p.has [44] = true
    · have h1 := (has_pop ht.2).1
      have h2 := hf p.pop
      obtain ⟨m, rfl⟩ : ∃ m, n = m + 1 := ⟨n - 1, by omega⟩
      obtain ⟨l, hl⟩ : ∃ l, p.l.length = l + 1 := ⟨p.l.length - 1, by omega⟩
      rw [hl]
      simp only [refLoop, if_pos ht]
      rw [ih m (by omega) (f p.pop).2 (by omega), ih l (by omega) (f p.pop).2 (by omega)]
    · have h0 : ∀ k, refLoop f k p = ([], p) := fun k => by cases k with | zero => rfl | succ k => simp only [refLoop, if_neg ht]
      rw [h0, h0]
theorem refLoop_step {f : PS → Nd × PS} (hf : LessP f) {p : PS} (ht : p.bad = false ∧ p.has [44] = true) : refLoop f p.l.length p = ((f p.pop).1 :: (refLoop f (f p.pop).2.l.length (f p.pop).2).1, (refLoop f (f p.pop).2.l.length (f p.pop).2).2) := by
  have h1 := (has_pop ht.2).1
  have h2 := hf p.pop
  obtain ⟨l, hl⟩ : ∃ l, p.l.length = l + 1 := ⟨p.l.length - 1, by omega⟩
  rw [hl]
  simp only [refLoop, if_pos ht]
  rw [refLoop_fuel hf l (f p.pop).2 (by omega)]
theorem refLoop_stop {f : PS → Nd × PS} {p : PS} (ht : ¬ (p.bad = false ∧ p.has [44] = true)) : refLoop f p.l.length p = ([], p) := by
  cases p.l.length with
  | zero => rfl
  | succ k => simp only [refLoop, if_neg ht]
end Go.Proofs.YthliapbflkfdiacGreatDoor
namespace Go.Proofs.YthliapbflkfdiacGreatDoor
open Go.RowKit Go.Shelf
set_option linter.unusedVariables false
set_option linter.unusedSimpArgs false
set_option maxRecDepth 100000

theorem dval_snoc (d : Str) (c : UInt8) : dval (d ++ [c]) = 10 * dval d + (c - 48).toNat := by simp [dval, List.foldl_append]
theorem dig_sub {c : UInt8} (h : digB c = true) : (c - 48).toNat < 10 ∧ UInt8.ofNat (48 + (c - 48).toNat) = c := by
  have hh : ∀ n : Fin 256, digB (UInt8.ofNat n.val) = true → (UInt8.ofNat n.val - 48).toNat < 10 ∧ UInt8.ofNat (48 + (UInt8.ofNat n.val - 48).toNat) = UInt8.ofNat n.val := by decide +kernel
  have := hh ⟨c.toNat, c.toNat_lt⟩
  simp only [UInt8.ofNat_toNat] at this
  exact this h
theorem sub_dig (d : Nat) (h : d < 10) : (UInt8.ofNat (48 + d) - 48).toNat = d := by
  have hh : ∀ n : Fin 10, (UInt8.ofNat (48 + n.val) - 48).toNat = n.val := by decide +kernel
  exact hh ⟨d, h⟩
theorem dval_digits (u : Nat) : dval (Lib.decDigits u) = u := by
  induction u using Nat.strongRecOn with
  | ind u ih =>
    by_cases h10 : u < 10
    · rw [Lib.decDigits_one h10]
      have := sub_dig u h10
      simp only [dval, List.foldl_cons, List.foldl_nil]
      omega
    · rw [Lib.decDigits, dif_neg h10, dval_snoc, ih (u / 10) (by omega), sub_dig _ (by omega)]
      omega
theorem snoc_cases : ∀ (l : Str), l = [] ∨ ∃ e c, l = e ++ [c] := fun l => by
  rcases List.eq_nil_or_concat l with h | ⟨e, c, h⟩
  · exact .inl h
  · exact .inr ⟨e, c, by simpa using h⟩
/-- Without a zero ahead, the digits are the number's. -/
theorem digits_dval : ∀ (n : Nat) (d : Str), d.length = n → (∀ c ∈ d, digB c = true) → d ≠ [] → headC d ≠ 48 → Lib.decDigits (dval d) = d ∧ 0 < dval d := by
  intro n
  induction n with
  | zero => intro d hl _ hne; exact absurd (List.eq_nil_of_length_eq_zero hl) hne
  | succ n ih =>
    intro d hl hd hne h48
    rcases snoc_cases d with rfl | ⟨e, c, rfl⟩
    · exact absurd rfl hne
    have hc := dig_sub (hd c (by simp))
    rw [dval_snoc]
    cases e with
    | nil =>
      have h0 : (c - 48).toNat ≠ 0 := fun h0 => by
        have := hc.2
        rw [h0] at this
        exact h48 (by show c = 48; rw [← this]; rfl)
      have e0 : dval [] = 0 := rfl
      rw [e0, Nat.mul_zero, Nat.zero_add, Lib.decDigits_one hc.1, hc.2]
      exact ⟨rfl, by omega⟩
    | cons x e =>
      have h1 := ih (x :: e) (by simp at hl ⊢; omega) (fun y hy => hd y (List.mem_append_left _ hy)) (by simp) h48
      have h2 : ¬ 10 * dval (x :: e) + (c - 48).toNat < 10 := by omega
      have h3 : (10 * dval (x :: e) + (c - 48).toNat) / 10 = dval (x :: e) := by omega
      have h4 : (10 * dval (x :: e) + (c - 48).toNat) % 10 = (c - 48).toNat := by omega
      rw [Lib.decDigits, dif_neg h2, h3, h4, hc.2, h1.1]
      exact ⟨rfl, by omega⟩
theorem dval_zero : dval [48] = 0 := rfl
theorem digits_zero : Lib.decDigits 0 = [48] := by rw [Lib.decDigits_one (by omega)]; rfl
/-- The first digit of a number is no zero. -/
theorem digits_head (u : Nat) (h : 0 < u) : headC (Lib.decDigits u) ≠ 48 := by
  induction u using Nat.strongRecOn with
  | ind u ih =>
    by_cases h10 : u < 10
    · rw [Lib.decDigits_one h10]
      intro e
      have := sub_dig u h10
      rw [show UInt8.ofNat (48 + u) = 48 from e] at this
      have h0 : ((48 : UInt8) - 48).toNat = 0 := by decide
      omega
    · rw [Lib.decDigits, dif_neg h10]
      have h1 := ih (u / 10) (by omega) (by omega)
      have h2 := digits_ne (u / 10)
      cases hl : Lib.decDigits (u / 10) with
      | nil => exact absurd hl h2
      | cons x r => rw [hl] at h1; exact h1
theorem bare_dig {c : UInt8} {r : Str} (h : digB c = true) : bareM (c :: r) = c :: r := by
  unfold bareM
  split
  · rename_i e; cases e; exact absurd h (by decide)
  · rfl
/-- A word of digits, perhaps behind a sign. -/
def NumTok (t : Str) : Prop := (t ≠ [] ∧ ∀ c ∈ t, digB c = true) ∨ ∃ r, t = 45 :: r ∧ r ≠ [] ∧ ∀ c ∈ r, digB c = true
theorem value_some {t : Str} {v : Int} (ht : NumTok t) (h : valueM t = some v) : t = Lib.itoa v ∧ -1099511627776 ≤ v ∧ v ≤ 1099511627776 := by
  unfold valueM at h
  simp only at h
  split at h
  · cases h
  rename_i h1
  split at h
  · cases h
  rename_i h2
  simp only [not_or, not_and] at h1
  obtain ⟨h11, h12, h13⟩ := h1
  rcases ht with ⟨hne, hd⟩ | ⟨r, rfl, hne, hd⟩
  · cases t with
    | nil => exact absurd rfl hne
    | cons c r =>
      have hb := bare_dig (r := r) (hd c (.head _))
      rw [hb] at h h13 h2
      rw [if_pos rfl] at h
      cases h
      refine ⟨?_, by omega, by omega⟩
      unfold Lib.itoa
      rw [if_neg (by omega), Int.toNat_natCast]
      by_cases h48 : headC (c :: r) = 48
      · have := h13 h48
        have h5 : c :: r = [48] := by simpa using this
        rw [h5, dval_zero, digits_zero]
      · exact (digits_dval _ _ rfl hd (by simp) h48).1.symm
  · have hb : bareM (45 :: r) = r := rfl
    rw [hb] at h h13 h2
    have hner : r ≠ 45 :: r := fun e => by have := congrArg List.length e; simp at this
    rw [if_neg hner] at h
    cases h
    have h48 : headC r ≠ 48 := fun e => absurd (h13 e) (by simp)
    have h5 := digits_dval _ _ rfl hd hne h48
    refine ⟨?_, by omega, by omega⟩
    unfold Lib.itoa
    rw [if_pos (by omega), Int.natAbs_neg, Int.natAbs_natCast, h5.1]
theorem value_itoa (v : Int) (h0 : -1099511627776 ≤ v) (h1 : v ≤ 1099511627776) : valueM (Lib.itoa v) = some v := by
  unfold Lib.itoa
  split
  · have hd := dval_digits v.natAbs
    have hh := digits_head v.natAbs (by omega)
    have hn := digits_ne v.natAbs
    have hl := ndigits_le 12 v.natAbs (by omega)
    rw [← Lib.decDigits_length] at hl
    generalize Lib.decDigits v.natAbs = d at *
    have hner : d ≠ 45 :: d := fun e => by have := congrArg List.length e; simp at this
    have hb : bareM (45 :: d) = d := rfl
    unfold valueM
    simp only [hb]
    rw [if_neg (by simp [hn, hh]; omega), hd, if_neg (by omega), if_neg hner]
    congr 1; omega
  · have hd := dval_digits v.toNat
    have hn := digits_ne v.toNat
    have hl := ndigits_le 12 v.toNat (by omega)
    rw [← Lib.decDigits_length] at hl
    have hh : headC (Lib.decDigits v.toNat) = 48 → Lib.decDigits v.toNat = [48] := fun e => by
      by_cases hz : v.toNat = 0
      · rw [hz]; exact digits_zero
      · exact absurd e (digits_head _ (by omega))
    have hall := digits_all v.toNat
    generalize Lib.decDigits v.toNat = d at *
    cases d with
    | nil => exact absurd rfl hn
    | cons c r =>
      have hb := bare_dig (r := r) (hall c (.head _))
      unfold valueM
      simp only [hb]
      rw [if_neg (by
        rintro (h | h | ⟨h, h'⟩)
        · exact hn h
        · omega
        · exact h' (hh h)), hd, if_neg (by omega), if_pos trivial]
      congr 1; omega
theorem num_value {t : Str} (ht : NumTok t) : numM t = valueM t := by
  cases hv : valueM t with
  | some v =>
    obtain ⟨e, h0, h1⟩ := value_some ht hv
    rw [e]; exact numM_itoa v h0 h1
  | none =>
    cases hn : numM t with
    | none => rfl
    | some v =>
      unfold numM at hn
      split at hn
      · split at hn
        · rename_i h
          cases hn
          rw [← h.1, value_itoa _ h.2.1 h.2.2] at hv
          cases hv
        · cases hn
      · cases hn
theorem value_minus : valueM [45] = none := by decide
end Go.Proofs.YthliapbflkfdiacGreatDoor
namespace Go.Proofs.YthliapbflkfdiacGreatDoor
open Go.RowKit Go.Shelf
set_option linter.unusedVariables false
set_option linter.unusedSimpArgs false
set_option maxRecDepth 100000

/-- A word at which the document's reader must stop. -/
def badW (x : Str) : Prop := x = [] ∨ x = [45]
def Doom (p : PS) : Prop := p.bad = true ∨ ∃ x ∈ p.l, badW x
/-- A token whose first sign is a digit or a minus is a numeral. -/
def TokOk (t : Str) : Prop := t ≠ [] ∧ ((digB (headC t) || (headC t == 45)) = true → NumTok t) ∧ (headC t = 33 → t = [33])
def LiveP (s : RS) (p : PS) : Prop := s.err = 0 ∧ p.bad = false ∧ s.vars = p.vars ∧ ((s.token = [] ∧ s.rest = [] ∧ p.l = []) ∨ (TokOk s.token ∧ p.l = s.token :: wordsM s.rest))
def Dead (s : RS) (p : PS) : Prop := s.err = 1 ∧ s.token = [] ∧ s.rest = [] ∧ Doom p
def Rel (s : RS) (p : PS) : Prop := LiveP s p ∨ Dead s p

theorem Doom.pop {p : PS} {t : Str} {r : List Str} (h : Doom p) (hl : p.l = t :: r) (ht : ¬ badW t) : Doom p.pop := by
  rcases h with h | ⟨x, hx, hb⟩
  · exact .inl h
  · rw [hl] at hx
    rcases List.mem_cons.1 hx with rfl | hx
    · exact absurd hb ht
    · exact .inr ⟨x, by simp [PS.pop, hl, hx], hb⟩
theorem Doom.has {p : PS} {t : Str} (h : Doom p) (hh : p.has t = true) (ht : ¬ badW t) : Doom p.pop := h.pop (has_pop hh).2 ht
theorem Doom.close {p : PS} {t : Str} (h : Doom p) (ht : ¬ badW t) : Doom (p.close t) := by
  unfold PS.close
  split
  · exact h
  split
  · rename_i hh; exact h.has hh ht
  · exact .inl rfl
theorem Doom.var {p : PS} (x : Str) (h : Doom p) : Doom (p.var x).2 := by
  unfold PS.var
  split
  · exact h
  · exact h
def KeepsD (f : PS → Nd × PS) : Prop := ∀ p, Doom p → Doom (f p).2
theorem Doom.loop {f : PS → Nd × PS} (hf : KeepsD f) : ∀ (n : Nat) (p : PS), Doom p → Doom (refLoop f n p).2
  | 0, p, h => h
  | n + 1, p, h => by
    unfold refLoop
    split
    · rename_i hh; exact Doom.loop hf n _ (hf _ (h.has hh.2 (by simp [badW])))
    · exact h
theorem Doom.terms {f : PS → Nd × PS} (hf : KeepsD f) (t : Str) (ht : ¬ badW t) (p : PS) (h : Doom p) : Doom (refTerms f t p).2 := (Doom.loop hf _ _ (hf p h)).close ht
theorem Doom.term : ∀ d, KeepsD (refTerm d)
  | 0, p, h => .inl rfl
  | d + 1, p, h => by
    unfold refTerm
    split
    · exact .inl rfl
    · exact .inl rfl
    · rename_i c r q hl
      split
      · rename_i e; exact h.pop hl (by rw [e]; simp [badW])
      split
      · rename_i hne hu
        refine Doom.var _ (h.pop hl ?_)
        rintro (e | e)
        · cases e
        · cases e; exact absurd hu (by decide)
      split
      · by_cases e : c :: r = [45]
        · left; rw [e, value_minus]; simp
        · rcases h.pop hl (by rintro (e' | e'); cases e'; exact e e') with h' | h'
          · left
            have : p.bad = true := h'
            simp [this]
          · exact .inr h'
      split
      · exact .inl rfl
      · rename_i h45 hlo
        have hb : ¬ badW (c :: r) := by
          rintro (e | e)
          · cases e
          · cases e; exact h45 rfl
        split
        · rename_i hp; exact Doom.terms (Doom.term d) [41] (by simp [badW]) _ ((h.pop hl hb).has hp (by simp [badW]))
        · exact h.pop hl hb
theorem Dead.fail {s : RS} {p q : PS} (h : Dead s p) (e : Int) (hq : Doom q) : Dead (s.fail e) q := ⟨by simp [RS.fail, h.1], rfl, rfl, hq⟩
theorem Dead.adv {s : RS} {p q : PS} (h : Dead s p) (hq : Doom q) : Dead s.adv q := by
  have : s.adv = ⟨[], [], s.vars, s.err⟩ := by
    unfold RS.adv
    rw [h.2.2.1]
    rfl
  rw [this]
  exact ⟨h.1, rfl, rfl, hq⟩
theorem LiveP.fail {s : RS} {p : PS} (h : LiveP s p) {q : PS} (hq : Doom q) : Dead (s.fail 1) q := ⟨by simp [RS.fail, h.1], rfl, rfl, hq⟩

theorem span_take {f : UInt8 → Bool} : ∀ (l : Str), ∀ c ∈ l.take (spanN f l), f c = true
  | [], c, h => by simp at h
  | x :: l, c, h => by
    unfold spanN at h
    cases hx : f x with
    | false => rw [hx] at h; simp at h
    | true =>
      rw [hx] at h
      simp only [cond_true, List.take_succ_cons] at h
      rcases List.mem_cons.1 h with rfl | h
      · exact hx
      · exact span_take l c h
theorem up_facts {c : UInt8} (h : (upB c || lowB c) = true) : digB c = false ∧ (c == 45) = false ∧ c ≠ 33 := by
  have hh : ∀ n : Fin 256, (upB (UInt8.ofNat n.val) || lowB (UInt8.ofNat n.val)) = true → digB (UInt8.ofNat n.val) = false ∧ (UInt8.ofNat n.val == 45) = false ∧ UInt8.ofNat n.val ≠ 33 := by decide +kernel
  have := hh ⟨c.toNat, c.toNat_lt⟩
  simp only [UInt8.ofNat_toNat] at this
  exact this h
theorem dig_facts {c : UInt8} (h : digB c = true) : upB c = false ∧ lowB c = false ∧ (c == 45) = false ∧ c ≠ 33 := by
  have hh : ∀ n : Fin 256, digB (UInt8.ofNat n.val) = true → upB (UInt8.ofNat n.val) = false ∧ lowB (UInt8.ofNat n.val) = false ∧ (UInt8.ofNat n.val == 45) = false ∧ UInt8.ofNat n.val ≠ 33 := by decide +kernel
  have := hh ⟨c.toNat, c.toNat_lt⟩
  simp only [UInt8.ofNat_toNat] at this
  exact this h
theorem sign_facts {c : UInt8} (h : signs.contains c = true) : digB c = false ∧ (c == 45) = false := by
  have hh : ∀ n : Fin 256, signs.contains (UInt8.ofNat n.val) = true → digB (UInt8.ofNat n.val) = false ∧ (UInt8.ofNat n.val == 45) = false := by decide +kernel
  have := hh ⟨c.toNat, c.toNat_lt⟩
  simp only [UInt8.ofNat_toNat] at this
  exact this h
/-- Token and word are as long, but for a lone minus. -/
theorem tok_word (c : UInt8) (r : Str) : (tokLen (c :: r) = wordLen (c :: r) ∧ (tokLen (c :: r) ≠ 0 → TokOk ((c :: r).take (tokLen (c :: r))))) ∨ (tokLen (c :: r) = 0 ∧ wordLen (c :: r) = 1 ∧ c = 45) := by
  have hT : ∀ x, 1 + x ≠ 0 := fun x => by omega
  by_cases h1 : (upB c || lowB c) = true
  · left
    have e1 : tokLen (c :: r) = 1 + spanN lowB r := by simp only [tokLen, h1, if_true]
    have e2 : wordLen (c :: r) = 1 + spanN lowB r := by simp only [wordLen, Bool.or_comm (lowB c), h1, if_true]
    rw [e1, e2]
    have hf := up_facts h1
    refine ⟨rfl, fun _ => ⟨by rw [Nat.add_comm, List.take_succ_cons]; simp, fun h => ?_, fun h => ?_⟩⟩
    · rw [Nat.add_comm, List.take_succ_cons] at h
      simp only [headC, hf.1, hf.2.1, Bool.or_self, Bool.false_eq_true] at h
    · rw [Nat.add_comm, List.take_succ_cons] at h
      exact absurd h hf.2.2
  have h1' : (upB c || lowB c) = false := by simpa using h1
  by_cases h2 : digB c = true
  · left
    have hf := dig_facts h2
    have e : spanN digB (c :: r) = 1 + spanN digB r := by simp [spanN, h2]; omega
    have e1 : tokLen (c :: r) = spanN digB (c :: r) := by simp only [tokLen, h1', h2, Bool.false_eq_true, if_false, if_true]
    have e2 : wordLen (c :: r) = 1 + spanN digB r := by simp only [wordLen, Bool.or_comm (lowB c), h1', h2, Bool.true_or, Bool.false_eq_true, if_false, if_true]
    rw [e1, e2]
    refine ⟨e, fun _ => ⟨by rw [e, Nat.add_comm, List.take_succ_cons]; simp, fun h => .inl ⟨by rw [e, Nat.add_comm, List.take_succ_cons]; simp, span_take _⟩, fun h => ?_⟩⟩
    rw [e, Nat.add_comm, List.take_succ_cons] at h
    exact absurd h hf.2.2.2
  have h2' : digB c = false := by simpa using h2
  by_cases h3 : c = 45
  · subst h3
    have e2 : wordLen (45 :: r) = 1 + spanN digB r := by
      have a1 : (lowB 45 || upB 45) = false := by decide
      have a2 : (digB 45 || ((45 : UInt8) == 45)) = true := by decide
      simp only [wordLen, a1, a2, Bool.false_eq_true, if_false, if_true]
    have e1 : tokLen (45 :: r) = if 0 < spanN digB r then 1 + spanN digB r else 0 := by
      simp only [tokLen, h1', h2', Bool.false_eq_true, if_false, if_true]
    by_cases h4 : 0 < spanN digB r
    · left
      rw [e1, e2, if_pos h4]
      refine ⟨rfl, fun _ => ⟨by rw [Nat.add_comm, List.take_succ_cons]; simp, fun h => .inr ⟨r.take (spanN digB r), by rw [Nat.add_comm, List.take_succ_cons], ?_, span_take r⟩, fun h => ?_⟩⟩
      · intro e
        have := congrArg List.length e
        have hle := spanN_le digB r
        simp only [List.length_take, List.length_nil] at this
        omega
      · rw [Nat.add_comm, List.take_succ_cons] at h
        have h' : (45 : UInt8) = 33 := h
        exact absurd h' (by decide)
    · right
      rw [e1, e2, if_neg h4]
      exact ⟨rfl, by omega, rfl⟩
  have h3' : (c == 45) = false := by simp [h3]
  left
  by_cases h5 : ([58, 45] : Str).isPrefixOf (c :: r) = true
  · have e1 : tokLen (c :: r) = 2 := by
      simp only [tokLen, h1', h2', h3, Bool.false_eq_true, if_false]
      rw [if_pos h5]
    have e2 : wordLen (c :: r) = 2 := by
      simp only [wordLen, Bool.or_comm (lowB c), h1', h2', h3', Bool.or_self, Bool.false_eq_true, if_false]
      rw [if_pos h5]
    rw [e1, e2]
    cases r with
    | nil => simp [List.isPrefixOf] at h5
    | cons x r =>
      have : c = 58 := by simp [List.isPrefixOf] at h5; exact h5.1.symm
      subst this
      exact ⟨rfl, fun _ => ⟨by simp, fun h => absurd h (by simp [headC, digB]), fun h => absurd h (by simp [headC])⟩⟩
  have e1 : tokLen (c :: r) = if signs.contains c then 1 else 0 := by
    simp only [tokLen, h1', h2', h3, Bool.false_eq_true, if_false]
    rw [if_neg h5]
  have e2 : wordLen (c :: r) = if signs.contains c then 1 else 0 := by
    simp only [wordLen, Bool.or_comm (lowB c), h1', h2', h3', Bool.or_self, Bool.false_eq_true, if_false]
    rw [if_neg h5]
  rw [e1, e2]
  by_cases h6 : signs.contains c = true
  · rw [if_pos h6]
    have hf := sign_facts h6
    refine ⟨rfl, fun _ => ⟨by simp, fun h => ?_, fun h => ?_⟩⟩
    · have : (digB c || (c == 45)) = true := h
      rw [hf.1, hf.2] at this
      cases this
    · have : c = 33 := h
      rw [this]; rfl
  · rw [if_neg h6]
    exact ⟨rfl, fun h => absurd rfl h⟩
theorem words_trim : ∀ R : Str, wordsM R = wordsM (trimW R)
  | [] => rfl
  | c :: r => by
    unfold trimW
    rw [List.dropWhile_cons]
    split
    · rename_i h; rw [words_white r h]; exact words_trim r
    · rfl
theorem trim_head {R : Str} {c : UInt8} {r : Str} (h : trimW R = c :: r) : whiteB c = false := by
  unfold trimW at h
  induction R with
  | nil => simp at h
  | cons x R ih =>
    rw [List.dropWhile_cons] at h
    split at h
    · exact ih h
    · rename_i hx; cases h; simpa using hx
/-- The next token is the next word. -/
theorem adv_rel {s : RS} {p : PS} (he : s.err = 0) (hb : p.bad = false) (hv : s.vars = p.vars) (hl : p.l = wordsM s.rest) : Rel s.adv p := by
  rw [words_trim] at hl
  unfold RS.adv
  simp only
  cases ht : trimW s.rest with
  | nil =>
    rw [ht] at hl
    rw [if_neg (by simp)]
    exact .inl ⟨he, hb, hv, .inl ⟨rfl, rfl, hl⟩⟩
  | cons c r =>
    have hw := trim_head ht
    rw [ht] at hl
    rcases tok_word c r with ⟨h1, h2⟩ | ⟨h1, h2, h3⟩
    · by_cases h0 : tokLen (c :: r) = 0
      · rw [if_pos ⟨h0, by simp⟩]
        rw [words_bad r hw (by omega)] at hl
        exact .inr ⟨by simp [RS.fail, he], rfl, rfl, .inr ⟨[], by rw [hl]; simp, .inl rfl⟩⟩
      · rw [if_neg (by simp [h0])]
        rw [words_word r hw (by omega), ← h1] at hl
        exact .inl ⟨he, hb, hv, .inr ⟨h2 h0, hl⟩⟩
    · subst h3
      rw [if_pos ⟨h1, by simp⟩]
      rw [words_word r hw (by omega), h2] at hl
      exact .inr ⟨by simp [RS.fail, he], rfl, rfl, .inr ⟨[45], by rw [hl]; simp, .inr rfl⟩⟩
/-- A token of s is the front word of p. -/
theorem LiveP.tok {s : RS} {p : PS} (h : LiveP s p) {t : Str} (ht : t ≠ []) : (s.token = t) ↔ p.has t = true := by
  rcases h.2.2.2 with ⟨h1, _, h3⟩ | ⟨h1, h3⟩
  · rw [h1]; unfold PS.has; rw [h3]; simp; exact fun e => ht (by first | exact e | exact e.symm)
  · unfold PS.has; rw [h3]; simp
theorem LiveP.adv {s : RS} {p : PS} (h : LiveP s p) (hn : s.token ≠ []) : Rel s.adv p.pop := by
  rcases h.2.2.2 with ⟨h1, _, _⟩ | ⟨h1, h3⟩
  · exact absurd h1 hn
  · exact adv_rel h.1 h.2.1 h.2.2.1 (by simp [PS.pop, h3])
theorem Rel.take {s : RS} {p : PS} (h : Rel s p) {t : Str} (ht : ¬ badW t) : Rel (s.take t) (p.close t) := by
  have hne : t ≠ [] := fun e => ht (.inl e)
  rcases h with h | h
  · have e2 : p.close t = if p.has t then p.pop else p.spoil := by unfold PS.close; rw [if_neg (by simp [h.2.1])]
    rw [e2]
    by_cases e : s.token = t
    · have e1 : s.take t = s.adv := by unfold RS.take; rw [if_pos e]
      rw [e1, if_pos ((h.tok hne).1 e)]
      exact h.adv (by rw [e]; exact hne)
    · have e1 : s.take t = (s.fail 1).adv := by unfold RS.take; rw [if_neg e]
      rw [e1, if_neg fun e' => e ((h.tok hne).2 e')]
      exact .inr ((h.fail (q := p.spoil) (.inl rfl)).adv (.inl rfl))
  · have e1 : s.take t = (s.fail 1).adv := by unfold RS.take; rw [if_neg (by rw [h.2.1]; exact fun e => hne e.symm)]
    rw [e1]
    exact .inr ((h.fail 1 (h.2.2.2.close ht)).adv (h.2.2.2.close ht))
/-- Two readers of one term. -/
def Both (f : RS → Nd × RS) (g : PS → Nd × PS) : Prop := ∀ s p, Rel s p → Rel (f s).2 (g p).2 ∧ ((f s).2.err = 0 → (f s).1 = (g p).1)
theorem Rel.live {s : RS} {p : PS} (h : Rel s p) (he : s.err = 0) : LiveP s p := by
  rcases h with h | h
  · exact h
  · have := h.1; omega
/-- An error stays. -/
def Sticks (f : RS → Nd × RS) : Prop := ∀ s, (f s).2.err = 0 → s.err = 0
theorem fail_err (s : RS) (e : Int) (he : e ≠ 0) : (s.fail e).err ≠ 0 := by
  simp only [RS.fail]
  split
  · exact he
  · assumption
theorem adv_stick (s : RS) (h : s.adv.err = 0) : s.err = 0 := by
  unfold RS.adv at h
  simp only at h
  split at h
  · exact absurd h (fail_err s 1 (by decide))
  · exact h
theorem take_stick (s : RS) (t : Str) (h : (s.take t).err = 0) : s.err = 0 ∧ s.token = t := by
  unfold RS.take at h
  split at h
  · rename_i e; exact ⟨adv_stick s h, e⟩
  · exact absurd (adv_stick _ h) (fail_err s 1 (by decide))
theorem loop_stick {f : RS → Nd × RS} (hf : Sticks f) : ∀ (n : Nat) (s : RS), (loopM f n s).2.err = 0 → s.err = 0
  | 0, s, h => h
  | n + 1, s, h => by
    unfold loopM at h
    split at h
    · exact adv_stick s (hf _ (loop_stick hf n _ h))
    · exact h
theorem terms_stick {f : RS → Nd × RS} (hf : Sticks f) : ∀ s : RS, (termsM f s).2.err = 0 → (f s).2.err = 0 := fun s h => loop_stick hf _ _ h
theorem var_err (s : RS) (x : Str) : (s.var x).2.err = s.err := by unfold RS.var; split <;> rfl
theorem term_stick (num : Str → Option Int) : ∀ d, Sticks (termM num d)
  | 0, s, h => absurd h (fail_err s 1 (by decide))
  | d + 1, s, h => by
    unfold termM at h
    split at h
    · exact absurd h (fail_err s 1 (by decide))
    · simp only at h
      split at h
      · rw [var_err] at h; exact adv_stick s h
      split at h
      · have h1 := (take_stick _ _ h).1
        have h2 := term_stick num d _ (terms_stick (term_stick num d) _ h1)
        exact adv_stick s (take_stick _ _ h2).1
      split at h
      · exact adv_stick s h
      split at h
      · simp only [RS.number] at h
        split at h
        · exact adv_stick s h
        · exact absurd h (fail_err _ 1 (by decide))
      · exact absurd h (fail_err _ 1 (by decide))
theorem Both.loop {f : RS → Nd × RS} {g : PS → Nd × PS} (hb : Both f g) (hf : Less f) (hg : LessP g) (hs : Sticks f) (hk : KeepsD g) : ∀ (n : Nat) (s : RS) (p : PS), s.left ≤ n → Rel s p →
    Rel (loopM f s.left s).2 (refLoop g p.l.length p).2 ∧ ((loopM f s.left s).2.err = 0 → (loopM f s.left s).1 = (refLoop g p.l.length p).1) := by
  intro n
  induction n with
  | zero =>
    intro s p hn h
    rcases h with h | h
    · have ht : s.token = [] := by unfold RS.left at hn; exact List.eq_nil_of_length_eq_zero (by omega)
      have h1 : ¬ s.token = [44] := by rw [ht]; simp
      rw [loop_stop h1, refLoop_stop fun e => h1 ((h.tok (by simp)).2 e.2)]
      exact ⟨.inl h, fun _ => rfl⟩
    · have h1 : ¬ s.token = [44] := by rw [h.2.1]; simp
      rw [loop_stop h1]
      exact ⟨.inr ⟨h.1, h.2.1, h.2.2.1, Doom.loop hk _ _ h.2.2.2⟩, fun e => by have := h.1; simp only at e; omega⟩
  | succ n ih =>
    intro s p hn h
    rcases h with h | h
    · by_cases ht : s.token = [44]
      · have hp := (h.tok (by simp)).1 ht
        rw [loop_step hf ht, refLoop_step hg ⟨h.2.1, hp⟩]
        have h1 := adv_lt s (by rw [ht]; simp)
        have h2 := hf s.adv
        have h3 := h.adv (by rw [ht]; simp)
        have h4 := hb _ _ h3
        have h5 := ih (f s.adv).2 (g p.pop).2 (by omega) h4.1
        refine ⟨h5.1, fun e => ?_⟩
        simp only at e ⊢
        rw [h5.2 e, h4.2 (loop_stick hs _ _ e)]
      · rw [loop_stop ht, refLoop_stop fun e => ht ((h.tok (by simp)).2 e.2)]
        exact ⟨.inl h, fun _ => rfl⟩
    · have h1 : ¬ s.token = [44] := by rw [h.2.1]; simp
      rw [loop_stop h1]
      exact ⟨.inr ⟨h.1, h.2.1, h.2.2.1, Doom.loop hk _ _ h.2.2.2⟩, fun e => by have := h.1; simp only at e; omega⟩
theorem Both.terms {f : RS → Nd × RS} {g : PS → Nd × PS} (hb : Both f g) (hf : Less f) (hg : LessP g) (hs : Sticks f) (hk : KeepsD g) (t : Str) (ht : ¬ badW t) (s : RS) (p : PS) (h : Rel s p) :
    Rel ((termsM f s).2.take t) (refTerms g t p).2 ∧ ((termsM f s).2.err = 0 → (termsM f s).1 = (refTerms g t p).1) := by
  have h1 := hb s p h
  have h2 := hb.loop hf hg hs hk _ (f s).2 (g p).2 (Nat.le_refl _) h1.1
  refine ⟨h2.1.take ht, fun e => ?_⟩
  have e1 : (termsM f s).1 = (f s).1 :: (loopM f (f s).2.left (f s).2).1 := rfl
  have e2 : (refTerms g t p).1 = (g p).1 :: (refLoop g (g p).2.l.length (g p).2).1 := rfl
  rw [e1, e2, h1.2 (terms_stick hs s e), h2.2 e]
theorem LiveP.var {s : RS} {p : PS} (h : LiveP s p) (x : Str) : (s.var x).1 = (p.var x).1 ∧ LiveP (s.var x).2 (p.var x).2 := by
  obtain ⟨h1, h2, h3, h4⟩ := h
  unfold RS.var PS.var
  rw [h3]
  split
  · exact ⟨rfl, h1, h2, h3, h4⟩
  · exact ⟨rfl, h1, h2, by simp, h4⟩
theorem Dead.var {s : RS} {p : PS} (h : Dead s p) (x : Str) : Dead (s.var x).2 (p.var x).2 := by
  refine ⟨by rw [var_err]; exact h.1, ?_, ?_, h.2.2.2.var x⟩
  · unfold RS.var; split <;> exact h.2.1
  · unfold RS.var; split <;> exact h.2.2.1
theorem Rel.var {s : RS} {p : PS} (h : Rel s p) (x : Str) : Rel (s.var x).2 (p.var x).2 ∧ ((s.var x).2.err = 0 → (s.var x).1 = (p.var x).1) := by
  rcases h with h | h
  · exact ⟨.inl (h.var x).2, fun _ => (h.var x).1⟩
  · exact ⟨.inr (h.var x), fun e => by rw [var_err] at e; have := h.1; omega⟩
theorem both_term : ∀ d, Both (termM numM d) (refTerm d)
  | 0, s, p, h => by
    refine ⟨?_, fun e => absurd e (fail_err s 1 (by decide))⟩
    rcases h with h | h
    · exact .inr (h.fail (.inl rfl))
    · exact .inr (h.fail 1 (.inl rfl))
  | d + 1, s, p, h => by
    rcases h with h | h
    · rcases h.2.2.2 with ⟨h1, h2, h3⟩ | ⟨h1, h3⟩
      · have e1 : termM numM (d + 1) s = (Nd.zero, s.fail 1) := by unfold termM; rw [if_pos h1]
        have e2 : refTerm (d + 1) p = (Nd.zero, p.spoil) := by unfold refTerm; rw [h3]
        rw [e1, e2]
        exact ⟨.inr (h.fail (.inl rfl)), fun e => absurd e (fail_err s 1 (by decide))⟩
      · obtain ⟨hne, hnum, h33⟩ := h1
        cases ht : s.token with
        | nil => exact absurd ht hne
        | cons c r =>
          rw [ht] at h3 hnum h33
          have hc : headC (c :: r) = c := rfl
          rw [hc] at hnum h33
          have hadv := h.adv (by rw [ht]; simp)
          have e1 := termM_cons numM d ht
          have e2 : refTerm (d + 1) p = if c :: r = [33] then (⟨1, 0, [33], .nil⟩, p.pop)
              else if upB c then (⟨0, (p.pop.var (c :: r)).1, [], .nil⟩, (p.pop.var (c :: r)).2)
              else if (c == 45) || digB c then (⟨2, (valueM (c :: r)).getD 0, [], .nil⟩, { p.pop with bad := p.bad || (valueM (c :: r)).isNone })
              else if lowB c = false then (Nd.zero, p.spoil)
              else if p.pop.has [40] then (⟨3, 0, c :: r, tsOf (refTerms (refTerm d) [41] p.pop.pop).1⟩, (refTerms (refTerm d) [41] p.pop.pop).2)
              else (⟨1, 0, c :: r, .nil⟩, p.pop) := by
            conv => lhs; unfold refTerm
            rw [h3]
          by_cases e33 : c = 33
          · have := h33 e33
            subst e33
            cases this
            have f1 : termM numM (d + 1) s = (⟨1, 0, [33], .nil⟩, s.adv) := e1
            rw [if_pos rfl] at e2
            rw [f1, e2]
            exact ⟨hadv, fun _ => rfl⟩
          rw [if_neg (by intro e; exact e33 (List.cons.inj e).1)] at e2
          by_cases hu : upB c = true
          · rw [if_pos hu] at e1 e2
            rw [e1, e2]
            have hv := hadv.var (c :: r)
            exact ⟨hv.1, fun e => by simp only at e ⊢; rw [hv.2 e]⟩
          rw [if_neg hu] at e1 e2
          by_cases hd : ((c == 45) || digB c) = true
          · rw [if_pos hd] at e2
            have hnt := hnum (by rw [Bool.or_comm]; exact hd)
            have hlo : lowB c = false := by
              have hh : ∀ n : Fin 256, ((UInt8.ofNat n.val == 45) || digB (UInt8.ofNat n.val)) = true → lowB (UInt8.ofNat n.val) = false := by decide +kernel
              have := hh ⟨c.toNat, c.toNat_lt⟩
              simp only [UInt8.ofNat_toNat] at this
              exact this hd
            rw [if_neg (by simp [hlo]), if_neg (by simp [hlo, e33]), if_pos (by rw [Bool.or_comm]; exact hd)] at e1
            rw [e1, e2]
            unfold RS.number
            rw [num_value hnt]
            cases hv : valueM (c :: r) with
            | some v =>
              simp only [Option.getD_some, Option.isNone_some, Bool.or_false]
              refine ⟨?_, fun _ => trivial⟩
              have : ({ p.pop with bad := p.bad } : PS) = p.pop := rfl
              rw [this]; exact hadv
            | none =>
              simp only [Option.getD_none, Option.isNone_none, Bool.or_true]
              refine ⟨?_, fun e => absurd e (fail_err _ 1 (by decide))⟩
              rcases hadv with ha | ha
              · exact .inr (ha.fail (.inl rfl))
              · exact .inr (ha.fail 1 (.inl rfl))
          rw [if_neg hd] at e2
          have hd2 : ¬ (digB c || (c == 45)) = true := by rw [Bool.or_comm]; exact hd
          by_cases hlo : lowB c = true
          · rw [if_neg (by simp [hlo])] at e2
            by_cases hp : s.adv.token = [40]
            · rw [if_pos (by simp [hlo, hp])] at e1
              rcases hadv with ha | ha
              · have hh := (ha.tok (by simp)).1 hp
                rw [if_pos hh] at e2
                have e3 : s.adv.take [40] = s.adv.adv := by unfold RS.take; rw [if_pos hp]
                rw [e3] at e1
                rw [e1, e2]
                have h4 := ha.adv (by rw [hp]; simp)
                have h5 := (both_term d).terms (term_less numM d) (refTerm_le d) (term_stick numM d) (Doom.term d) [41] (by simp [badW]) _ _ h4
                refine ⟨h5.1, fun e => ?_⟩
                simp only at e ⊢
                rw [h5.2 (take_stick _ _ e).1]
              · exact absurd ha.2.1 (by rw [hp]; simp)
            · rw [if_neg (by simp [hp]), if_pos (by simp [hlo])] at e1
              rw [e1]
              rcases hadv with ha | ha
              · rw [if_neg fun e => hp ((ha.tok (by simp)).2 e)] at e2
                rw [e2]
                exact ⟨.inl ha, fun _ => rfl⟩
              · rw [e2]
                refine ⟨.inr ⟨ha.1, ha.2.1, ha.2.2.1, ?_⟩, fun e => by have := ha.1; simp only at e; omega⟩
                split
                · rename_i hh
                  exact Doom.terms (Doom.term d) [41] (by simp [badW]) _ (ha.2.2.2.has hh (by simp [badW]))
                · exact ha.2.2.2
          · have hlo' : lowB c = false := by simpa using hlo
            rw [if_pos hlo'] at e2
            rw [if_neg (by simp [hlo']), if_neg (by simp [hlo', e33]), if_neg hd2] at e1
            rw [e1, e2]
            refine ⟨?_, fun e => absurd e (fail_err _ 1 (by decide))⟩
            rcases hadv with ha | ha
            · exact .inr (ha.fail (.inl rfl))
            · exact .inr (ha.fail 1 (.inl rfl))
    · have e1 : termM numM (d + 1) s = (Nd.zero, s.fail 1) := by unfold termM; rw [if_pos h.2.1]
      rw [e1]
      exact ⟨.inr (h.fail 1 (Doom.term _ _ h.2.2.2)), fun e => absurd e (fail_err s 1 (by decide))⟩
end Go.Proofs.YthliapbflkfdiacGreatDoor
namespace Go.Proofs.YthliapbflkfdiacGreatDoor
open Go.RowKit Go.Shelf
set_option linter.unusedVariables false
set_option linter.unusedSimpArgs false
set_option maxRecDepth 100000

theorem close_bad (p : PS) (t : Str) (h : p.bad = true) : (p.close t).bad = true := by unfold PS.close; rw [if_pos h]; exact h
theorem refTerm_lt (d : Nat) (p : PS) (h : (refTerm d p).2.bad = false) : (refTerm d p).2.l.length < p.l.length := by
  cases d with
  | zero => cases h
  | succ d =>
    have hp : ∀ x r, p.l = x :: r → p.pop.l.length < p.l.length := fun x r e => by simp [PS.pop, e]
    unfold refTerm at h ⊢
    split at h
    · cases h
    · cases h
    · rename_i c r q hl
      have h1 := hp _ _ hl
      simp only [hl] at h1 ⊢
      split at h
      · rw [if_pos (by assumption)]; exact h1
      rw [if_neg (by assumption)]
      split at h
      · rw [if_pos (by assumption), (pvar_l _ _).1]; exact h1
      rw [if_neg (by assumption)]
      split at h
      · rw [if_pos (by assumption)]; exact h1
      rw [if_neg (by assumption)]
      split at h
      · cases h
      rw [if_neg (by assumption)]
      split at h
      · rw [if_pos (by assumption)]
        have h2 := refTerms_le (refTerm_le d) [41] p.pop.pop
        have h3 := pop_le p.pop
        simp only
        omega
      · rw [if_neg (by assumption)]; exact h1
theorem body_le (p : PS) : (refBody p).2.l.length ≤ p.l.length := by
  unfold refBody
  split
  · have h1 := refTerms_le (refTerm_le 24) [46] p.pop
    have h2 := pop_le p
    unfold refGoals
    omega
  · exact close_le p _
theorem body_bad (p : PS) (h : p.bad = true) : (refBody p).2.bad = true := by
  unfold refBody
  rw [if_neg (by simp [h])]
  exact close_bad p _ h
def refClause (p : PS) : Cl × PS :=
  let h := refTerm 24 { p with vars := [] }
  let q := refBody h.2
  (⟨h.1.k, h.1.n, ⟨h.1.s.toArray⟩, h.1.ar, tsOf q.1, (q.2.vars.length : Nat)⟩, q.2)
theorem refClause_lt (p : PS) (h : (refClause p).2.bad = false) : (refClause p).2.l.length < p.l.length := by
  have h1 := body_le (refTerm 24 { p with vars := [] }).2
  have h2 : (refTerm 24 { p with vars := [] }).2.bad = false := by
    cases hb : (refTerm 24 { p with vars := [] }).2.bad with
    | false => rfl
    | true =>
      have := body_bad _ hb
      rw [show (refBody (refTerm 24 { p with vars := [] }).2).2.bad = (refClause p).2.bad from rfl, h] at this
      cases this
  have h3 := refTerm_lt 24 _ h2
  show (refBody (refTerm 24 { p with vars := [] }).2).2.l.length < _
  have e : ({ p with vars := [] } : PS).l = p.l := rfl
  rw [e] at h3
  omega
def refProg : Nat → PS → Option (List Cl)
  | 0, p => some []
  | n + 1, p => if p.l = [] then some [] else
      if (refClause p).2.bad = true ∨ cB (refClause p).1 = false then none
      else (refProg n (refClause p).2).map ((refClause p).1 :: ·)
theorem refProg_fuel : ∀ (n : Nat) (p : PS), p.l.length ≤ n → refProg n p = refProg p.l.length p := by
  intro n
  induction n using Nat.strongRecOn with
  | _ n ih =>
    intro p hn
    cases n with
    | zero => rw [Nat.le_zero.1 hn]
    | succ n =>
      cases hl : p.l with
      | nil => simp [refProg, hl]
      | cons x r =>
        have hne : p.l ≠ [] := by rw [hl]; simp
        rw [hl] at hn
        simp only [List.length_cons] at hn ⊢
        simp only [refProg, hne, if_false]
        split
        · rfl
        · rename_i hb
          have h1 := refClause_lt p (by simp only [not_or] at hb; simpa using hb.1)
          rw [hl] at h1
          simp only [List.length_cons] at h1
          by_cases e : n = r.length
          · rw [e]
          · rw [ih n (by omega) _ (by omega), ih r.length (by omega) _ (by omega)]
theorem refProg_step {p : PS} (hne : p.l ≠ []) (hb : ¬ ((refClause p).2.bad = true ∨ cB (refClause p).1 = false)) : refProg p.l.length p = (refProg (refClause p).2.l.length (refClause p).2).map ((refClause p).1 :: ·) := by
  have h1 := refClause_lt p (by simp only [not_or] at hb; simpa using hb.1)
  cases hl : p.l with
  | nil => exact absurd hl hne
  | cons x r =>
    rw [hl] at h1
    simp only [List.length_cons] at h1 ⊢
    simp only [refProg, hne, if_false, if_neg hb]
    rw [refProg_fuel r.length _ (by omega)]
theorem refProg_none {p : PS} (hne : p.l ≠ []) (hb : (refClause p).2.bad = true ∨ cB (refClause p).1 = false) : refProg p.l.length p = none := by
  cases hl : p.l with
  | nil => exact absurd hl hne
  | cons x r => simp only [List.length_cons, refProg, hne, if_false, if_pos hb]
theorem refProg_nil {p : PS} (h : p.l = []) : refProg p.l.length p = some [] := by rw [h]; rfl

theorem Doom.body {p : PS} (h : Doom p) : Doom (refBody p).2 := by
  unfold refBody
  split
  · rename_i hh; exact Doom.terms (Doom.term 24) [46] (by simp [badW]) _ (h.has hh.2 (by simp [badW]))
  · exact h.close (by simp [badW])
theorem Doom.clause {p : PS} (h : Doom p) : Doom (refClause p).2 := Doom.body (Doom.term 24 _ (show Doom { p with vars := [] } from h))
theorem Doom.prog : ∀ (n : Nat) (p : PS), p.l.length ≤ n → p.bad = false → Doom p → refProg p.l.length p = none := by
  intro n
  induction n with
  | zero =>
    intro p hn hb h
    rcases h with h | ⟨x, hx, _⟩
    · rw [hb] at h; cases h
    · have := List.length_pos_of_mem hx; omega
  | succ n ih =>
    intro p hn hb h
    have hne : p.l ≠ [] := by
      rcases h with h | ⟨x, hx, _⟩
      · rw [hb] at h; cases h
      · intro e; rw [e] at hx; simp at hx
    by_cases hc : (refClause p).2.bad = true ∨ cB (refClause p).1 = false
    · exact refProg_none hne hc
    · have h0 : (refClause p).2.bad = false := by simp only [not_or] at hc; simpa using hc.1
      have h1 := refClause_lt p h0
      rw [refProg_step hne hc, ih _ (by omega) h0 h.clause]
      rfl
theorem Rel.body {s : RS} {p : PS} (h : Rel s p) : Rel ((bodyM numM s).2.take [46]) (refBody p).2 ∧ (((bodyM numM s).2.take [46]).err = 0 → (bodyM numM s).1 = (refBody p).1) := by
  rcases h with h | h
  · by_cases ht : s.token = [58, 45]
    · have hp := (h.tok (by simp)).1 ht
      have e1 : bodyM numM s = termsM (termM numM 24) s.adv := by unfold bodyM; rw [if_pos ht]
      have e2 : refBody p = refTerms (refTerm 24) [46] p.pop := by unfold refBody refGoals; rw [if_pos ⟨h.2.1, hp⟩]
      rw [e1, e2]
      have h5 := (both_term 24).terms (term_less numM 24) (refTerm_le 24) (term_stick numM 24) (Doom.term 24) [46] (by simp [badW]) _ _ (h.adv (by rw [ht]; simp))
      exact ⟨h5.1, fun e => h5.2 (take_stick _ _ e).1⟩
    · have e1 : bodyM numM s = ([], s) := by unfold bodyM; rw [if_neg ht]
      have e2 : refBody p = ([], p.close [46]) := by unfold refBody; rw [if_neg fun e => ht ((h.tok (by simp)).2 e.2)]
      rw [e1, e2]
      exact ⟨Rel.take (.inl h) (by simp [badW]), fun _ => rfl⟩
  · have e1 : bodyM numM s = ([], s) := by unfold bodyM; rw [if_neg (by rw [h.2.1]; simp)]
    rw [e1]
    have h2 := h.2.2.2.body
    have h3 : s.take [46] = (s.fail 1).adv := by unfold RS.take; rw [if_neg (by rw [h.2.1]; simp)]
    rw [h3]
    have h4 := (h.fail 1 h2).adv h2
    exact ⟨.inr h4, fun e => by have := h4.1; omega⟩
theorem prog_dead {s : RS} (h : s.token = []) : progLoop numM s.left s = ([], s) := prog_stop numM h
theorem Rel.fresh {s : RS} {p : PS} (h : Rel s p) : Rel { s with vars := [] } { p with vars := [] } := by
  rcases h with h | h
  · exact .inl ⟨h.1, h.2.1, rfl, h.2.2.2⟩
  · exact .inr ⟨h.1, h.2.1, h.2.2.1, h.2.2.2⟩
theorem Rel.clause {s : RS} {p : PS} (h : Rel s p) : ∃ s3, (clauseM numM s).2 = (if cB (clauseM numM s).1 then s3 else s3.fail 1) ∧ Rel s3 (refClause p).2 ∧ (s3.err = 0 → (clauseM numM s).1 = (refClause p).1) := by
  have h1 := both_term 24 _ _ h.fresh
  have h2 := h1.1.body
  refine ⟨(bodyM numM (termM numM 24 { s with vars := [] }).2).2.take [46], rfl, h2.1, fun e => ?_⟩
  have hl := h2.1.live e
  have e1 := (take_stick _ _ e).1
  have e2 : (termM numM 24 { s with vars := [] }).2.err = 0 := by
    unfold bodyM at e1
    split at e1
    · exact adv_stick _ (term_stick numM 24 _ (terms_stick (term_stick numM 24) _ e1))
    · exact e1
  simp only [clauseM, refClause]
  rw [h1.2 e2, h2.2 e, hl.2.2.1]
theorem prog_ref : ∀ (n : Nat) (s : RS) (p : PS), s.left ≤ n → p.bad = false → Rel s p →
    match refProg p.l.length p with
    | some L => (progLoop numM s.left s).1 = L ∧ (progLoop numM s.left s).2.err = 0
    | none => (progLoop numM s.left s).2.err = 1 := by
  intro n
  induction n with
  | zero =>
    intro s p hn hb h
    have ht : s.token = [] := by unfold RS.left at hn; exact List.eq_nil_of_length_eq_zero (by omega)
    rw [prog_dead ht]
    rcases h with h | h
    · rcases h.2.2.2 with ⟨_, _, h3⟩ | ⟨h1, _⟩
      · rw [refProg_nil h3]; exact ⟨rfl, h.1⟩
      · exact absurd ht h1.1
    · rw [Doom.prog _ p (Nat.le_refl _) hb h.2.2.2]; exact h.1
  | succ n ih =>
    intro s p hn hb h
    by_cases ht : s.token = []
    · rw [prog_dead ht]
      rcases h with h | h
      · rcases h.2.2.2 with ⟨_, _, h3⟩ | ⟨h1, _⟩
        · rw [refProg_nil h3]; exact ⟨rfl, h.1⟩
        · exact absurd ht h1.1
      · rw [Doom.prog _ p (Nat.le_refl _) hb h.2.2.2]; exact h.1
    · rw [prog_step numM ht]
      have hlt := clause_lt numM s ht
      have hne : p.l ≠ [] := by
        rcases h with h | h
        · rcases h.2.2.2 with ⟨h1, _, _⟩ | ⟨_, h3⟩
          · exact absurd h1 ht
          · rw [h3]; simp
        · exact absurd h.2.1 ht
      obtain ⟨s3, e3, hr, heq⟩ := h.clause
      have hdead : ∀ s', s'.token = [] → s'.err = 1 → (progLoop numM s'.left s').2.err = 1 := fun s' h1 h2 => by rw [prog_dead h1]; exact h2
      rcases hr with hl | hd
      · rw [heq hl.1] at e3
        by_cases hc : cB (refClause p).1 = true
        · rw [if_pos hc] at e3
          have hb2 : ¬ ((refClause p).2.bad = true ∨ cB (refClause p).1 = false) := by simp [hl.2.1, hc]
          rw [refProg_step hne hb2, e3]
          have h5 := ih s3 (refClause p).2 (by rw [e3] at hlt; omega) hl.2.1 (.inl hl)
          cases hp : refProg (refClause p).2.l.length (refClause p).2 with
          | none => rw [hp] at h5; exact h5
          | some L =>
            rw [hp] at h5
            simp only [Option.map_some]
            exact ⟨by rw [heq hl.1, h5.1], h5.2⟩
        · have hc' : cB (refClause p).1 = false := by simpa using hc
          rw [if_neg hc] at e3
          rw [refProg_none hne (.inr hc'), e3]
          exact hdead _ rfl (by simp [RS.fail, hl.1])
      · have h6 : (clauseM numM s).2.token = [] ∧ (clauseM numM s).2.err = 1 := by
          rw [e3]
          split
          · exact ⟨hd.2.1, hd.1⟩
          · exact ⟨rfl, by simp [RS.fail, hd.1]⟩
        have h7 := hdead _ h6.1 h6.2
        have h8 : refProg p.l.length p = none := by
          by_cases hc : (refClause p).2.bad = true ∨ cB (refClause p).1 = false
          · exact refProg_none hne hc
          · have h0 : (refClause p).2.bad = false := by simp only [not_or] at hc; simpa using hc.1
            rw [refProg_step hne hc, Doom.prog _ _ (Nat.le_refl _) h0 hd.2.2.2]
            rfl
        rw [h8]
        exact h7
def PS.start (l : Str) : PS := ⟨wordsM l, [], false⟩
theorem start_rel (l : Str) (h : ¬ 2000 < l.length) : Rel (RS.start l) (PS.start l) := by
  unfold RS.start
  rw [if_neg h]
  exact adv_rel rfl rfl rfl rfl
theorem start_long (l : Str) (h : 2000 < l.length) : (RS.start l).token = [] ∧ (RS.start l).err = 3 := by
  unfold RS.start
  rw [if_pos h]
  exact ⟨rfl, rfl⟩
def refProgramM (l : Str) : List Cl × Int :=
  if 2000 < l.length then ([], 3) else
  match refProg (PS.start l).l.length (PS.start l) with
  | none => ([], 1)
  | some L => if 24 < L.length then ([], 3) else (L, 0)
theorem program_ref (l : Str) : programM numM l = refProgramM l := by
  unfold programM refProgramM
  by_cases h : 2000 < l.length
  · obtain ⟨h1, h2⟩ := start_long l h
    rw [if_pos h]
    have e : (if 24 < ([] : List Cl).length then (RS.start l).fail 3 else RS.start l) = RS.start l := if_neg (by decide)
    simp only [prog_dead h1, e]
    rw [if_neg (by rw [h2]; decide), h2]
  · rw [if_neg h]
    have h1 := prog_ref _ (RS.start l) (PS.start l) (Nat.le_refl _) rfl (start_rel l h)
    generalize progLoop numM (RS.start l).left (RS.start l) = q at h1 ⊢
    cases hp : refProg (PS.start l).l.length (PS.start l) with
    | none =>
      rw [hp] at h1
      simp only at h1 ⊢
      have e : (if 24 < q.1.length then q.2.fail 3 else q.2).err = 1 := by
        split
        · simp [RS.fail, h1]
        · exact h1
      rw [if_neg (by rw [e]; decide), e]
    | some L =>
      rw [hp] at h1
      simp only at h1 ⊢
      rw [h1.1]
      by_cases h24 : 24 < L.length
      · rw [if_pos h24, if_pos h24]
        have e : (q.2.fail 3).err = 3 := by simp [RS.fail, h1.2]
        rw [if_neg (by rw [e]; decide), e]
      · rw [if_neg h24, if_neg h24, if_pos h1.2]
def refQueryM (l : Str) : Ts × Nat × Int :=
  if 2000 < l.length then (.nil, 0, 3) else
  let g := refGoals (PS.start l)
  if g.2.bad = true ∨ g.2.l ≠ [] ∨ qB (g.2.vars.length : Nat) (tsOf g.1) = false then (.nil, 0, 1) else (tsOf g.1, g.2.vars.length, 0)
theorem query_ref (l : Str) : queryM numM l = refQueryM l := by
  unfold queryM refQueryM
  by_cases h : 2000 < l.length
  · obtain ⟨h1, h2⟩ := start_long l h
    rw [if_pos h]
    have e1 : (termsM (termM numM 24) (RS.start l)).2.err = 3 := by
      have e0 : (termM numM 24 (RS.start l)).2 = (RS.start l).fail 1 := by unfold termM; rw [if_pos h1]
      unfold termsM
      simp only [e0]
      rw [loop_stop (by simp [RS.fail])]
      simp [RS.fail, h2]
    have e2 : ∀ s : RS, s.err = 3 → (s.take [46]).err = 3 := by
      intro s hs
      unfold RS.take RS.adv
      simp only
      split <;> split <;> simp [RS.fail, hs]
    have e3 := e2 _ e1
    simp only
    generalize (termsM (termM numM 24) (RS.start l)).2.take [46] = s at e3
    have e4 : ∀ b : Prop, ∀ _ : Decidable b, (if b then s else s.fail 1).err = 3 := by
      intro b _
      split
      · exact e3
      · simp [RS.fail, e3]
    rw [if_neg (by rw [e4]; decide), e4]
  · rw [if_neg h]
    have h5 := (both_term 24).terms (term_less numM 24) (refTerm_le 24) (term_stick numM 24) (Doom.term 24) [46] (by simp [badW]) _ _ (start_rel l h)
    have h6 : Rel ((termsM (termM numM 24) (RS.start l)).2.take [46]) (refGoals (PS.start l)).2 := h5.1
    have h7 : ((termsM (termM numM 24) (RS.start l)).2.take [46]).err = 0 → (termsM (termM numM 24) (RS.start l)).1 = (refGoals (PS.start l)).1 := fun e => h5.2 (take_stick _ _ e).1
    clear h5
    simp only
    generalize refGoals (PS.start l) = g at *
    generalize termsM (termM numM 24) (RS.start l) = a at *
    generalize a.2.take [46] = s at *
    rcases h6 with hl | hd
    · rw [h7 hl.1, hl.2.2.1]
      have htk : s.token = [] ↔ g.2.l = [] := by
        rcases hl.2.2.2 with ⟨h1, _, h3⟩ | ⟨h1, h3⟩
        · simp [h1, h3]
        · rw [h3]; simp [h1.1]
      by_cases hq : s.token = [] ∧ qB (g.2.vars.length : Nat) (tsOf g.1) = true
      · rw [if_pos hq, if_pos hl.1, if_neg (by simp [hl.2.1, htk.1 hq.1, hq.2]), hl.2.2.1]
      · have e : (s.fail 1).err = 1 := by simp [RS.fail, hl.1]
        rw [if_neg hq, if_neg (by rw [e]; decide), e, if_pos]
        by_cases ht : s.token = []
        · right; right
          have : ¬ qB (g.2.vars.length : Nat) (tsOf g.1) = true := fun h => hq ⟨ht, h⟩
          simpa using this
        · right; left; exact fun e => ht (htk.2 e)
    · have e4 : ∀ b : Prop, ∀ _ : Decidable b, (if b then s else s.fail 1).err = 1 := by
        intro b _
        split
        · exact hd.1
        · simp [RS.fail, hd.1]
      rw [if_neg (by rw [e4]; decide), e4, if_pos]
      rcases hd.2.2.2 with h | ⟨x, hx, _⟩
      · exact .inl h
      · right; left; intro e; rw [e] at hx; simp at hx
end Go.Proofs.YthliapbflkfdiacGreatDoor
namespace Go.Proofs.YthliapbflkfdiacGreatDoor
open Go.RowKit

/-- Block mb is a map with these pairs. -/
def MapIs (w : World) (mb : Nat) (ents : List (Int × Value)) : Prop :=
  ∃ es clock, w.heap[mb]? = some (.map es clock) ∧ es.toList.map (fun e => (e.key, e.val)) = ents.map (fun x => (Value.int .i64 x.1, x.2))

def aget (n : Int) : List (Int × Value) → Option Value
  | [] => none
  | x :: r => if n = x.1 then some x.2 else aget n r
def aput (n : Int) (v : Value) : List (Int × Value) → List (Int × Value)
  | [] => [(n, v)]
  | x :: r => if n = x.1 then (n, v) :: r else x :: aput n v r
def aidx (n : Int) : List (Int × Value) → Nat → Option (Nat × Value)
  | [], _ => none
  | x :: r, i => if n = x.1 then some (i, x.2) else aidx n r (i + 1)

theorem isKey_int (n : Int) : MapKept.IsKey (.int .i64) (.int .i64 n) := by simp [MapKept.IsKey]

theorem findNow_ints (n : Int) : ∀ (es : List MapEntry) (ents : List (Int × Value)) (i : Nat), es.map (fun e => (e.key, e.val)) = ents.map (fun x => (Value.int .i64 x.1, x.2)) →
    Instr.findNow (.int .i64) (.int .i64 n) es i = some (aidx n ents i)
  | [], [], i, _ => rfl
  | [], _ :: _, _, h => by simp at h
  | _ :: _, [], _, h => by simp at h
  | e :: es, x :: ents, i, h => by
    simp only [List.map_cons, List.cons.injEq, Prod.mk.injEq] at h
    obtain ⟨⟨h1, h2⟩, h3⟩ := h
    have ih := findNow_ints n es ents (i + 1) h3
    simp only [Instr.findNow, h1, Instr.sameNow, aidx, if_true]
    by_cases e1 : n = x.1
    · simp [e1, h2]
    · have e2 : (n == x.1) = false := by simpa using e1
      rw [e2, if_neg e1, ← ih]

theorem aidx_none {n : Int} : ∀ {ents : List (Int × Value)} {i : Nat}, aidx n ents i = none ↔ aget n ents = none
  | [], _ => by simp [aidx, aget]
  | x :: r, i => by
    simp only [aidx, aget]
    by_cases e : n = x.1
    · simp [e]
    · simp only [e, if_false]; exact aidx_none
theorem aidx_some {n : Int} : ∀ {ents : List (Int × Value)} {i j : Nat} {v : Value}, aidx n ents i = some (j, v) → aget n ents = some v
  | [], _, _, _, h => by simp [aidx] at h
  | x :: r, i, j, v, h => by
    simp only [aidx, aget] at *
    by_cases e : n = x.1
    · simp only [e, if_true, Option.some.injEq, Prod.mk.injEq] at h ⊢; exact h.2
    · simp only [e, if_false] at h ⊢; exact aidx_some h
theorem aput_none {n : Int} {v : Value} : ∀ {ents : List (Int × Value)}, aget n ents = none → aput n v ents = ents ++ [(n, v)]
  | [], _ => rfl
  | x :: r, h => by
    simp only [aget] at h
    by_cases e : n = x.1
    · simp [e] at h
    · simp only [e, if_false] at h
      simp only [aput, e, if_false, aput_none h, List.cons_append]
theorem aput_some {n : Int} {v u : Value} : ∀ {ents : List (Int × Value)} {i j : Nat}, aidx n ents i = some (j, u) → i ≤ j ∧ (ents[j - i]?).map (·.1) = some n ∧ aput n v ents = ents.set (j - i) (n, v)
  | [], _, _, h => by simp [aidx] at h
  | x :: r, i, j, h => by
    simp only [aidx, aput] at *
    by_cases e : n = x.1
    · simp only [e, if_true, Option.some.injEq, Prod.mk.injEq] at h
      obtain ⟨rfl, _⟩ := h
      simp [e]
    · simp only [e, if_false] at h ⊢
      obtain ⟨h1, h2, h3⟩ := aput_some (v := v) h
      have e1 : j - i = (j - (i + 1)) + 1 := by omega
      refine ⟨by omega, by rw [e1]; simpa using h2, by rw [h3, e1]; rfl⟩

section
variable {P : Program} {w : World} {mb : Nat} {ents : List (Int × Value)} {t kt et : TypeId}
theorem MapIs.lt (h : MapIs w mb ents) : mb < w.heap.size := by
  obtain ⟨es, clock, hb, _⟩ := h
  exact (Array.getElem?_eq_some_iff.1 hb).1
theorem MapIs.keep {w' : World} (h : MapIs w mb ents) (hk : w'.heap[mb]? = w.heap[mb]?) : MapIs w' mb ents := by
  obtain ⟨es, clock, hb, he⟩ := h
  exact ⟨es, clock, hk.trans hb, he⟩
theorem MapIs.made (w : World) : MapIs (w.alloc (.map #[] 0)) w.heap.size [] := ⟨#[], 0, heap_alloc_new w _, rfl⟩

theorem run_makeMap {P : Program} (t : TypeId) (w : World) : (Instr.makeMap t none).run P w = .ok (.map (some w.heap.size)) (w.alloc (.map #[] 0)) := by
  simp [Instr.makeMap, newObj, Sem.run]
theorem MapIs.lookup (h : MapIs w mb ents) {z : Value} (ht : P.underlying t = some (.map kt et)) (hk : P.underlying kt = some (.int .i64))
    (hz : (zeroValue et).run P w = .ok z w) (n : Int) (c : Bool) :
    (Instr.lookup t (.map (some mb)) (.int .i64 n) c).run P w = .ok (if c then .tuple #[(aget n ents).getD z, .bool (aget n ents).isSome] else (aget n ents).getD z) w := by
  obtain ⟨es, clock, hb, he⟩ := h
  have hf := findNow_ints n es.toList ents 0 he
  cases ha : aidx n ents 0 with
  | none =>
    rw [ha] at hf
    simp [Instr.lookup, run_underlying ht, MapKept.run_getObj_map hb, MapKept.run_checkKey hk (isKey_int n), MapKept.run_findKey hk hf, hz, Result.andThen, aidx_none.1 ha]
  | some x =>
    rw [ha] at hf
    simp [Instr.lookup, run_underlying ht, MapKept.run_getObj_map hb, MapKept.run_checkKey hk (isKey_int n), MapKept.run_findKey hk hf, Result.andThen, aidx_some ha]

theorem MapIs.update (h : MapIs w mb ents) (ht : P.underlying t = some (.map kt et)) (hk : P.underlying kt = some (.int .i64)) (n : Int) (v : Value) :
    ∃ w', (Instr.mapUpdate t (.map (some mb)) (.int .i64 n) v).run P w = .ok () w' ∧ MapIs w' mb (aput n v ents) ∧ Chg (fun k => k = mb) w w' ∧ w'.heap.size = w.heap.size := by
  have hlt := h.lt
  obtain ⟨es, clock, hb, he⟩ := h
  have hf := findNow_ints n es.toList ents 0 he
  cases ha : aidx n ents 0 with
  | none =>
    rw [ha] at hf
    refine ⟨{ w with heap := w.heap.setIfInBounds mb (.map (es.push { key := .int .i64 n, val := v, born := clock }) (clock + 1)) }, ?_, ⟨_, _, (MapKept.heap_set hb).1, ?_⟩, ⟨rfl, rfl, rfl, by simp, fun k _ hn => (MapKept.heap_set hb).2 k hn⟩, by simp⟩
    · simp [Instr.mapUpdate, run_underlying ht, MapKept.run_getObj_map hb, MapKept.run_checkKey hk (isKey_int n), MapKept.run_findKey hk hf, MapKept.run_setObj_map _ hb, Result.andThen]
    · rw [aput_none (aidx_none.1 ha), Array.toList_push, List.map_append, List.map_append, he]; rfl
  | some x =>
    obtain ⟨j, u⟩ := x
    rw [ha] at hf
    obtain ⟨_, h2, h3⟩ := aput_some (v := v) ha
    simp only [Nat.sub_zero] at h2 h3
    have hent : ∃ e, es[j]? = some e ∧ e.key = .int .i64 n := by
      have h4 := congrArg (fun l => l[j]?) he
      simp only [List.getElem?_map] at h4
      cases h5 : ents[j]? with
      | none => rw [h5] at h2; simp at h2
      | some y =>
        rw [h5] at h2 h4
        simp only [Option.map_some, Option.some.injEq] at h2
        cases h6 : es[j]? with
        | none => simp [h6] at h4
        | some e =>
          simp [h6] at h4
          exact ⟨e, rfl, by rw [h4.1, h2]⟩
    obtain ⟨e, hj, hkey⟩ := hent
    refine ⟨{ w with heap := w.heap.setIfInBounds mb (.map (es.modify j fun e => { e with key := .int .i64 n, val := v }) clock) }, ?_, ⟨_, _, (MapKept.heap_set hb).1, ?_⟩, ⟨rfl, rfl, rfl, by simp, fun k _ hn => (MapKept.heap_set hb).2 k hn⟩, by simp⟩
    · simp [Instr.mapUpdate, run_underlying ht, MapKept.run_getObj_map hb, MapKept.run_checkKey hk (isKey_int n), MapKept.run_findKey hk hf, hj, hkey, MapKept.run_keyThatStays (isKey_int n), MapKept.run_setObj_map _ hb, Result.andThen]
    · rw [h3]
      apply List.ext_getElem?
      intro i
      have h4 := congrArg (fun l => l[i]?) he
      simp only [List.getElem?_map, Array.getElem?_toList] at h4
      simp only [List.getElem?_map, Array.getElem?_toList, Array.getElem?_modify, List.getElem?_set]
      by_cases hij : j = i
      · subst hij
        have hjl : j < ents.length := by
          rcases Nat.lt_or_ge j ents.length with hl | hl
          · exact hl
          · rw [List.getElem?_eq_none hl] at h2; simp at h2
        simp [hj, hjl]
      · simp [hij, h4]
theorem MapIs.size (h : MapIs w mb ents) : ∃ es clock, w.heap[mb]? = some (.map es clock) ∧ es.size = ents.length := by
  obtain ⟨es, clock, hb, he⟩ := h
  refine ⟨es, clock, hb, ?_⟩
  have := congrArg List.length he
  simpa using this
theorem MapIs.len (h : MapIs w mb ents) (ht : P.underlying t = some (.map kt et)) (ty : TypeId) : (Builtin.len_ #[t] ty #[.map (some mb)]).run P w = .ok (.int .i64 ents.length) w := by
  obtain ⟨es, clock, hb, hs⟩ := h.size
  simp [Builtin.len_, run_underlying ht, MapKept.run_getObj_map hb, Result.andThen, hs, goInt]
end
end Go.Proofs.YthliapbflkfdiacGreatDoor
namespace Go.Proofs.YthliapbflkfdiacGreatDoor
open Go.RowKit
set_option linter.unusedVariables false
set_option linter.unusedSimpArgs false

section
variable {P : Program} {n : Nat} {e : Env} {w : World} {Q : Exit → Act → World → Prop} {ops : Array Oper} {rest : List Oper} {ty : TypeId} {pos : String} {after : Array Edge} {d : Nat}
variable {M : List Nat} {w0 : World} {H H' : List (Nat × Obj)} {F : List (World → Prop)} {mb : Nat} {es : Array MapEntry} {clk : Nat} {ents : List (Int × Value)} {x y u : Operand} {v z : Value} {dst : Option Nat} {t kt : TypeId} {i : Int}
end

end Go.Proofs.YthliapbflkfdiacGreatDoor
namespace Go.Proofs.YthliapbflkfdiacGreatDoor
open Go.RowKit

/-- Is it a program? -/
def pB (L : List Cl) : Bool := decide (L.length ≤ 24) && L.all cB
def GpLoop (w : World) (L : List Cl) (g : Nat) (sx : Value) (wr : World) : Prop := ∃ D R : List Cl, L = D ++ R ∧ g = R.length ∧ sx = .int .i64 D.length ∧ D.all cB = true ∧ Below w.heap.size w wr
section
variable {w w' : World} {p q : Nat → Prop}
end
end Go.Proofs.YthliapbflkfdiacGreatDoor
