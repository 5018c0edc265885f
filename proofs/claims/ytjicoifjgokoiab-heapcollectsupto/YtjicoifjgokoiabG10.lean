/- HWalk11, HWalk12: texts that follow one another, laid into one file. -/
import Derived.Test.YtjicoifjgokoiabG8
import Derived.Test.YtjicoifjgokoiabG3
namespace Go.Proofs.Ytjicoifjgokoiab
open Go.RowKit
set_option linter.unusedVariables false
set_option linter.unusedSimpArgs false
set_option maxRecDepth 100000
set_option maxHeartbeats 1000000

def sumsM (M : List Bool) : List Int := (List.range (M.length + 1)).map fun i => ((rk M i : Nat) : Int)
theorem sumsM_len (M : List Bool) : (sumsM M).length = M.length + 1 := by simp [sumsM]
theorem sumsM_get {M : List Bool} {i : Nat} (h : i ≤ M.length) : (sumsM M)[i]? = some ((rk M i : Nat) : Int) := by
  unfold sumsM
  rw [List.getElem?_map, List.getElem?_range (by omega)]; rfl
theorem rk_le (M : List Bool) (n : Nat) : rk M n ≤ n := by
  unfold rk
  exact Nat.le_trans List.count_le_length (by simp; omega)
abbrev iobN (P : List Int) : Obj := .cells (intsV P).toArray 3
theorem intsV_putN (P : List Int) (i : Nat) (x : Int) (h : i < P.length) : Put (intsV P) i (.int .i64 x) (intsV (P.set i x)) := by
  have := put_of (l := intsV P) (v := .int .i64 x) (i := i) (by simpa [intsV] using h)
  rwa [show (intsV P).set i (.int .i64 x) = intsV (P.set i x) by simp [intsV, List.map_set]] at this
section
variable {M : List Nat} {w0 : World} {H : List (Nat × Obj)} {F : List (World → Prop)}
theorem nums_at {P : List Int} {g : Nat} {H' : List (Nat × Obj)} {F' : List (World → Prop)} {w' : World} (hS : St M w0 ((g, iobN P) :: H') F' w') {i : Nat} {v : Int} (hv : P[i]? = some v) : w'.cell? ⟨g, i, none⟩ = some (.int .i64 v) := by
  rw [cell_own (hS.own (g, _) (.head _))]
  simp [intsV, hv]
/-- Numbers that nobody writes again. -/
theorem St.freezeI {P : List Int} {g : Nat} {w : World} (hS : St M w0 ((g, iobN P) :: H) F w) : St M w0 H (Flat 1 (intsV P) (some ⟨g, 0, none⟩) P.length P.length :: F) w := by
  have ho := hS.own (g, _) (.head _)
  refine hS.drop.learn fun w' hw => Flat.own (sp := []) (el := 3) ?_ (intsV_len P) (Nat.le_refl _)
  rw [hw.block g (own_lt ho) fun hm => ?_, List.append_nil]
  · exact ho
  · obtain ⟨p, hp, e⟩ := List.mem_map.1 hm
    exact (List.pairwise_cons.1 hS.apart).1 p hp e.symm
theorem sums_any (Mk : List Bool) (A : Option Addr) (c : Nat) (w : World) (hM : Und F (Flat 1 (boolsV Mk) A Mk.length c)) (hl : Mk.length ≤ 1048576) (hS : St M w0 H F w) :
    Calls Try.prog 53 #[.slice A Mk.length c] w fun e w' => ∃ (A' : Option Addr) (c' : Nat) (F' : List (World → Prop)), e = .returned (.slice A' (Mk.length + 1) c') ∧ (∀ φ ∈ F, φ ∈ F') ∧ Und F' (Flat 1 (intsV (sumsM Mk)) A' (sumsM Mk).length c') ∧ St M w0 H F' w' := by
  refine goes_enter1 Try.func53 rfl Try.ntmps53 rfl ?_
  refine goes_seq ?_
  refine goes_region ?_
  refine lst_run (run_assign (by conv => lhs; whnf)) rfl ?_
  refine lst_done ?_
  refine goes_seq ?_
  refine goes_region ?_
  refine lst_run (run_move (by conv => lhs; whnf)) rfl ?_
  refine lst_run (run_len_slice rfl rfl rfl) rfl ?_
  refine lst_run (run_add rfl rfl (by omega) (by omega)) rfl ?_
  refine lst_makeZ (k := Mk.length + 1) (bts := 8) (z := .int .i64 0) hS (by show Value.int .i64 ((Mk.length : Int) + 1) = _; rw [show (Mk.length : Int) + 1 = ((Mk.length + 1 : Nat) : Int) by omega]) (by show Value.int .i64 ((Mk.length : Int) + 1) = _; rw [show (Mk.length : Int) + 1 = ((Mk.length + 1 : Nat) : Int) by omega]) rfl rfl rfl rfl (by omega) (by omega) rfl ?_
  clear hS
  intro g w3 hS
  rw [show List.replicate (Mk.length + 1) (Value.int .i64 0) = intsV (List.replicate (Mk.length + 1) 0) by simp [intsV]] at hS
  refine lst_run (run_assign (by conv => lhs; whnf)) rfl ?_
  refine lst_done ?_
  refine goes_seq ?_
  refine goes_seq ?_
  refine goes_region ?_
  refine lst_run (run_move (by conv => lhs; whnf)) rfl ?_
  refine lst_run (run_len_slice rfl rfl rfl) rfl ?_
  refine lst_run (run_move (by conv => lhs; whnf)) rfl ?_
  refine lst_done ?_
  refine goes_block ?_
  refine goes_loop1 12 (13 :: 14 :: 15 :: 16 :: 4 :: 5 :: 17 :: 18 :: 19 :: 20 :: 21 :: 22 :: 23 :: 24 :: 25 :: 26 :: 27 :: 28 :: 29 :: 30 :: 31 :: 32 :: 33 :: []) (fun (R : List Bool) v w' => ∃ (D : List Bool) (P : List Int), Mk = D ++ R ∧ v = .int .i64 (D.length : Nat) ∧ P.length = Mk.length + 1 ∧ (∀ q : Nat, q ≤ D.length → P[q]? = some ((rk Mk q : Nat) : Int)) ∧ St M w0 ((g, iobN P) :: H) F w') (fun R => R.length) (Mk) ?_ (by conv => lhs; whnf) ?_
  · refine ⟨[], List.replicate (Mk.length + 1) 0, rfl, rfl, by simp, fun q hq => ?_, hS⟩
    obtain rfl : q = 0 := by simpa using hq
    rw [rk_zero]; simp
  clear hS
  rintro R _ w4 jv ⟨D, P, hD, rfl, hPl, hP, hS⟩ ih
  have hlen : Mk.length = D.length + R.length := by rw [hD]; simp
  cases R with
  | nil =>
    simp only [List.length_nil] at hlen
    refine goes_seq ?_
    refine goes_region ?_
    first
      | refine lst_run (run_lss_yes rfl rfl (by omega)) rfl ?_
      | refine lst_run (run_lss_no rfl rfl (by omega)) rfl ?_
      | refine lst_run (rfl) rfl ?_
    refine lst_done ?_
    refine goes_seq ?_
    refine goes_false rfl ?_
    refine goes_exit rfl ?_
    refine goes_seq ?_
    refine goes_region ?_
    refine lst_run (run_move (by conv => lhs; whnf)) rfl ?_
    refine lst_run (run_assign (by conv => lhs; whnf)) rfl ?_
    refine lst_done ?_
    refine goes_ret1 Try.func53 rfl (by conv => lhs; whnf) ?_
    have hPe : P = sumsM Mk := by
      refine List.ext_getElem? fun q => ?_
      by_cases hq : q ≤ Mk.length
      · rw [hP q (by omega), sumsM_get hq]
      · rw [List.getElem?_eq_none (by omega), List.getElem?_eq_none (by rw [sumsM_len]; omega)]
    replace hS := St.freezeI hS
    rw [hPl, hPe] at hS
    exact ⟨some ⟨g, 0, none⟩, Mk.length + 1, _, rfl, fun φ h => .tail _ h, by rw [sumsM_len]; exact Und.head, hS⟩
  | cons x R =>
    simp only [List.length_cons] at hlen
    have hxi : Mk[D.length]? = some x := by rw [hD]; simp
    obtain ⟨bt, ot, rfl⟩ := (hS.und hM).some_ (by omega)
    have hct : ∀ {H'} w', St M w0 H' F w' → w'.cell? ⟨bt, ot + ((D.length : Nat) : Int).toNat * 1, none⟩ = some (.bool x) := fun w' hS => by
      have := (hS.und hM).bool hxi
      rw [show ((D.length : Nat) : Int).toNat = D.length by omega]; exact this
    have hpa : ∀ {H' F'} w', St M w0 ((g, iobN P) :: H') F' w' → w'.cell? ⟨g, 0 + ((D.length : Nat) : Int).toNat * 1, none⟩ = some (.int .i64 ((rk Mk D.length : Nat) : Int)) := fun w' hS => by
      rw [show 0 + ((D.length : Nat) : Int).toNat * 1 = D.length by omega]
      exact nums_at hS (hP D.length (Nat.le_refl _))
    have hi1 : (((D.length : Nat) : Int) + 1).toNat = D.length + 1 := by omega
    have hput := intsV_putN P (D.length + 1) ((rk Mk D.length : Nat) : Int) (by omega)
    have hrk := rk_succ hxi
    have hrl := rk_le Mk D.length
    have hP2l : (P.set (D.length + 1) ((rk Mk D.length : Nat) : Int)).length = Mk.length + 1 := by simpa using hPl
    have hpb : ∀ {H' F'} w', St M w0 ((g, iobN (P.set (D.length + 1) ((rk Mk D.length : Nat) : Int))) :: H') F' w' → w'.cell? ⟨g, 0 + (((D.length : Nat) : Int) + 1).toNat * 1, none⟩ = some (.int .i64 ((rk Mk D.length : Nat) : Int)) := fun w' hS => by
      rw [show 0 + (((D.length : Nat) : Int) + 1).toNat * 1 = D.length + 1 by omega]
      exact nums_at hS (List.getElem?_set_self (by omega))
    have hput2 := intsV_putN (P.set (D.length + 1) ((rk Mk D.length : Nat) : Int)) (D.length + 1) (((rk Mk D.length : Nat) : Int) + 1) (by rw [hP2l]; omega)
    cases x with
    | false =>
      simp only [Bool.false_eq_true, if_false, Nat.add_zero] at hrk
      refine goes_seq ?_
      refine goes_region ?_
      first
        | refine lst_run (run_lss_yes rfl rfl (by omega)) rfl ?_
        | refine lst_run (run_lss_no rfl rfl (by omega)) rfl ?_
        | refine lst_run (rfl) rfl ?_
      refine lst_done ?_
      refine goes_seq ?_
      refine goes_true rfl ?_
      refine goes_skip ?_
      refine goes_seq ?_
      refine goes_block ?_
      refine goes_seq ?_
      refine goes_region ?_
      refine lst_run (run_move (by conv => lhs; whnf)) rfl ?_
      refine lst_run (run_indexAddr (sz := 1) rfl rfl rfl rfl (by omega) (by omega)) rfl ?_
      first
        | refine lst_run (run_load1_own hS rfl rfl (by first | exact .head | exact .tail .head | exact .tail (.tail .head) | exact .tail (.tail (.tail .head)) | exact .tail (.tail (.tail (.tail .head))) | exact .tail (.tail (.tail (.tail (.tail .head))))) (by repeat constructor)) rfl ?_
        | refine lst_run (run_load1 rfl rfl (by first | assumption | exact hct _ hS | exact hpa _ hS | exact hpb _ hS | exact hS.cell0 (by assumption) | exact lv_next hS | exact lv_list hS)) rfl ?_
      refine lst_run (run_assign (by conv => lhs; whnf)) rfl ?_
      refine lst_run (run_assign (by conv => lhs; whnf)) rfl ?_
      refine lst_done ?_
      refine goes_seq ?_
      refine goes_region ?_
      refine lst_run (run_move (by conv => lhs; whnf)) rfl ?_
      refine lst_run (run_move (by conv => lhs; whnf)) rfl ?_
      refine lst_run (run_add rfl rfl (by omega) (by omega)) rfl ?_
      refine lst_run (run_move (by conv => lhs; whnf)) rfl ?_
      refine lst_run (run_move (by conv => lhs; whnf)) rfl ?_
      refine lst_run (run_indexAddr (sz := 1) rfl rfl rfl rfl (by omega) (by omega)) rfl ?_
      first
        | refine lst_run (run_load1_own hS rfl rfl (by first | exact .head | exact .tail .head | exact .tail (.tail .head) | exact .tail (.tail (.tail .head)) | exact .tail (.tail (.tail (.tail .head))) | exact .tail (.tail (.tail (.tail (.tail .head))))) (by repeat constructor)) rfl ?_
        | refine lst_run (run_load1 rfl rfl (by first | assumption | exact hct _ hS | exact hpa _ hS | exact hpb _ hS | exact hS.cell0 (by assumption) | exact lv_next hS | exact lv_list hS)) rfl ?_
      refine lst_run (run_indexAddr (sz := 1) rfl rfl rfl rfl (by omega) (by omega)) rfl ?_
      refine lst_store1 hS rfl (by conv => lhs; whnf) rfl rfl .head (by rw [hi1, Nat.zero_add, Nat.mul_one]; exact hput) .head ?_
      clear hS
      intro w6 hS
      refine lst_done ?_
      refine goes_seq ?_
      refine goes_region ?_
      refine lst_run (run_move (by conv => lhs; whnf)) rfl ?_
      refine lst_done ?_
      refine goes_false rfl ?_
      refine goes_skip ?_
      refine goes_inBlock ?_
      refine goes_region ?_
      refine lst_run (run_add rfl rfl (by omega) (by omega)) rfl ?_
      refine lst_run (run_move (by conv => lhs; whnf)) rfl ?_
      refine lst_done ?_
      refine ih (R) _ _ _ ?_ ?_ (by conv => lhs; whnf) (by kernel_rfl)
      · simp
      · refine ⟨D ++ [false], _, by rw [hD]; simp, by simp, hP2l, fun q hq => ?_, hS⟩
        rw [List.length_append] at hq
        simp only [List.length_cons, List.length_nil] at hq
        rw [List.getElem?_set]
        split
        · rename_i e; rw [if_pos (by omega), ← e, hrk]
        · exact hP q (by omega)
    | true =>
      simp only [if_true] at hrk
      refine goes_seq ?_
      refine goes_region ?_
      first
        | refine lst_run (run_lss_yes rfl rfl (by omega)) rfl ?_
        | refine lst_run (run_lss_no rfl rfl (by omega)) rfl ?_
        | refine lst_run (rfl) rfl ?_
      refine lst_done ?_
      refine goes_seq ?_
      refine goes_true rfl ?_
      refine goes_skip ?_
      refine goes_seq ?_
      refine goes_block ?_
      refine goes_seq ?_
      refine goes_region ?_
      refine lst_run (run_move (by conv => lhs; whnf)) rfl ?_
      refine lst_run (run_indexAddr (sz := 1) rfl rfl rfl rfl (by omega) (by omega)) rfl ?_
      first
        | refine lst_run (run_load1_own hS rfl rfl (by first | exact .head | exact .tail .head | exact .tail (.tail .head) | exact .tail (.tail (.tail .head)) | exact .tail (.tail (.tail (.tail .head))) | exact .tail (.tail (.tail (.tail (.tail .head))))) (by repeat constructor)) rfl ?_
        | refine lst_run (run_load1 rfl rfl (by first | assumption | exact hct _ hS | exact hpa _ hS | exact hpb _ hS | exact hS.cell0 (by assumption) | exact lv_next hS | exact lv_list hS)) rfl ?_
      refine lst_run (run_assign (by conv => lhs; whnf)) rfl ?_
      refine lst_run (run_assign (by conv => lhs; whnf)) rfl ?_
      refine lst_done ?_
      refine goes_seq ?_
      refine goes_region ?_
      refine lst_run (run_move (by conv => lhs; whnf)) rfl ?_
      refine lst_run (run_move (by conv => lhs; whnf)) rfl ?_
      refine lst_run (run_add rfl rfl (by omega) (by omega)) rfl ?_
      refine lst_run (run_move (by conv => lhs; whnf)) rfl ?_
      refine lst_run (run_move (by conv => lhs; whnf)) rfl ?_
      refine lst_run (run_indexAddr (sz := 1) rfl rfl rfl rfl (by omega) (by omega)) rfl ?_
      first
        | refine lst_run (run_load1_own hS rfl rfl (by first | exact .head | exact .tail .head | exact .tail (.tail .head) | exact .tail (.tail (.tail .head)) | exact .tail (.tail (.tail (.tail .head))) | exact .tail (.tail (.tail (.tail (.tail .head))))) (by repeat constructor)) rfl ?_
        | refine lst_run (run_load1 rfl rfl (by first | assumption | exact hct _ hS | exact hpa _ hS | exact hpb _ hS | exact hS.cell0 (by assumption) | exact lv_next hS | exact lv_list hS)) rfl ?_
      refine lst_run (run_indexAddr (sz := 1) rfl rfl rfl rfl (by omega) (by omega)) rfl ?_
      refine lst_store1 hS rfl (by conv => lhs; whnf) rfl rfl .head (by rw [hi1, Nat.zero_add, Nat.mul_one]; exact hput) .head ?_
      clear hS
      intro w6 hS
      refine lst_done ?_
      refine goes_seq ?_
      refine goes_region ?_
      refine lst_run (run_move (by conv => lhs; whnf)) rfl ?_
      refine lst_done ?_
      refine goes_true rfl ?_
      refine goes_region ?_
      refine lst_run (run_move (by conv => lhs; whnf)) rfl ?_
      refine lst_run (run_move (by conv => lhs; whnf)) rfl ?_
      refine lst_run (run_add rfl rfl (by omega) (by omega)) rfl ?_
      refine lst_run (run_indexAddr (sz := 1) rfl rfl rfl rfl (by omega) (by omega)) rfl ?_
      first
        | refine lst_run (run_load1_own hS rfl rfl (by first | exact .head | exact .tail .head | exact .tail (.tail .head) | exact .tail (.tail (.tail .head)) | exact .tail (.tail (.tail (.tail .head))) | exact .tail (.tail (.tail (.tail (.tail .head))))) (by repeat constructor)) rfl ?_
        | refine lst_run (run_load1 rfl rfl (by first | assumption | exact hct _ hS | exact hpa _ hS | exact hpb _ hS | exact hS.cell0 (by assumption) | exact lv_next hS | exact lv_list hS)) rfl ?_
      refine lst_run (run_add rfl rfl (by omega) (by omega)) rfl ?_
      refine lst_run (run_indexAddr (sz := 1) rfl rfl rfl rfl (by omega) (by omega)) rfl ?_
      refine lst_store1 hS rfl (by conv => lhs; whnf) rfl rfl .head (by rw [hi1, Nat.zero_add, Nat.mul_one]; exact hput2) .head ?_
      clear hS
      intro w7 hS
      refine lst_done ?_
      refine goes_inBlock ?_
      refine goes_region ?_
      refine lst_run (run_add rfl rfl (by omega) (by omega)) rfl ?_
      refine lst_run (run_move (by conv => lhs; whnf)) rfl ?_
      refine lst_done ?_
      refine ih (R) _ _ _ ?_ ?_ (by conv => lhs; whnf) (by kernel_rfl)
      · simp
      · refine ⟨D ++ [true], _, by rw [hD]; simp, by simp, by simpa using hPl, fun q hq => ?_, hS⟩
        rw [List.length_append] at hq
        simp only [List.length_cons, List.length_nil] at hq
        rw [List.set_set, List.getElem?_set]
        split
        · rename_i e; rw [if_pos (by omega), ← e, hrk]; simp
        · exact hP q (by omega)
theorem counts_any (Mk : List Bool) (I : List Int) (A B : Option Addr) (c d : Nat) (w : World) (hM : Und F (Flat 1 (intsV (sumsM Mk)) A (sumsM Mk).length c)) (hI : Und F (Flat 1 (intsV I) B I.length d)) (hl : Mk.length ≤ 1048576) (hl2 : I.length ≤ 1048576) (hS : St M w0 H F w) :
    Calls Try.prog 56 #[.slice A (Mk.length + 1) c, .slice B I.length d] w fun e w' => ∃ (A' : Option Addr) (c' : Nat) (F' : List (World → Prop)), e = .returned (.slice A' (I.map (rkI Mk)).length c') ∧ (∀ φ ∈ F, φ ∈ F') ∧ Und F' (Flat 1 (intsV (I.map (rkI Mk))) A' (I.map (rkI Mk)).length c') ∧ St M w0 H F' w' := by
  refine goes_enter2 Try.func56 rfl Try.ntmps56 rfl ?_
  refine goes_seq ?_
  refine goes_region ?_
  refine lst_run (run_assign (by conv => lhs; whnf)) rfl ?_
  refine lst_done ?_
  refine goes_seq ?_
  refine goes_region ?_
  refine lst_run (run_move (by conv => lhs; whnf)) rfl ?_
  refine lst_run (run_len_slice rfl rfl rfl) rfl ?_
  refine lst_makeZ (k := I.length) (bts := 8) (z := .int .i64 0) hS (by conv => lhs; whnf) (by conv => lhs; whnf) rfl rfl rfl rfl (by omega) (by omega) rfl ?_
  clear hS
  intro g w3 hS
  rw [show List.replicate I.length (Value.int .i64 0) = intsV (List.replicate I.length 0) by simp [intsV]] at hS
  refine lst_run (run_assign (by conv => lhs; whnf)) rfl ?_
  refine lst_done ?_
  refine goes_seq ?_
  refine goes_seq ?_
  refine goes_region ?_
  refine lst_run (run_move (by conv => lhs; whnf)) rfl ?_
  refine lst_run (run_len_slice rfl rfl rfl) rfl ?_
  refine lst_run (run_move (by conv => lhs; whnf)) rfl ?_
  refine lst_done ?_
  refine goes_block ?_
  refine goes_loop1 13 (14 :: 15 :: 16 :: 17 :: 6 :: 7 :: 18 :: 19 :: 20 :: 21 :: 22 :: 23 :: 24 :: 25 :: 26 :: 27 :: 28 :: 29 :: 30 :: []) (fun (R : List Int) v w' => ∃ (D : List Int) (P : List Int), I = D ++ R ∧ v = .int .i64 (D.length : Nat) ∧ P.length = I.length ∧ (∀ (q : Nat) (x : Int), q < D.length → I[q]? = some x → P[q]? = some (rkI Mk x)) ∧ St M w0 ((g, iobN P) :: H) F w') (fun R => R.length) (I) ?_ (by conv => lhs; whnf) ?_
  · exact ⟨[], List.replicate I.length 0, rfl, rfl, by simp, fun q x hq => by simp at hq, hS⟩
  clear hS
  rintro R _ w4 jv ⟨D, P, hD, rfl, hPl, hP, hS⟩ ih
  have hlen : I.length = D.length + R.length := by rw [hD]; simp
  cases R with
  | nil =>
    simp only [List.length_nil] at hlen
    refine goes_seq ?_
    refine goes_region ?_
    first
      | refine lst_run (run_lss_yes rfl rfl (by omega)) rfl ?_
      | refine lst_run (run_lss_no rfl rfl (by omega)) rfl ?_
      | refine lst_run (rfl) rfl ?_
    refine lst_done ?_
    refine goes_seq ?_
    refine goes_false rfl ?_
    refine goes_exit rfl ?_
    refine goes_seq ?_
    refine goes_region ?_
    refine lst_run (run_move (by conv => lhs; whnf)) rfl ?_
    refine lst_run (run_assign (by conv => lhs; whnf)) rfl ?_
    refine lst_done ?_
    refine goes_ret1 Try.func56 rfl (by conv => lhs; whnf) ?_
    have hPe : P = I.map (rkI Mk) := by
      refine List.ext_getElem? fun q => ?_
      rw [List.getElem?_map]
      cases hq : I[q]? with
      | none =>
        have : I.length ≤ q := by
          rcases Nat.lt_or_ge q I.length with g | g
          · rw [List.getElem?_eq_getElem g] at hq; cases hq
          · exact g
        rw [List.getElem?_eq_none (by omega)]; rfl
      | some x =>
        have : q < I.length := by
          rcases Nat.lt_or_ge q I.length with g | g
          · exact g
          · rw [List.getElem?_eq_none g] at hq; cases hq
        rw [hP q x (by omega) hq]; rfl
    replace hS := St.freezeI hS
    rw [hPe] at hS
    refine ⟨some ⟨g, 0, none⟩, I.length, _, by rw [List.length_map], fun φ h => .tail _ h, ?_, hS⟩
    have := Und.head (F := F) (φ := Flat 1 (intsV (I.map (rkI Mk))) (some ⟨g, 0, none⟩) (I.map (rkI Mk)).length (I.map (rkI Mk)).length)
    rw [show I.length = (I.map (rkI Mk)).length by simp]
    exact this
  | cons x R =>
    simp only [List.length_cons] at hlen
    have hxi : I[D.length]? = some x := by rw [hD]; simp
    obtain ⟨bt, ot, rfl⟩ := (hS.und hI).some_ (by omega)
    obtain ⟨bs, os, rfl⟩ := (hS.und hM).some_ (by rw [sumsM_len]; omega)
    obtain ⟨mx, hmx⟩ : ∃ mx : Int, mx = if x < (0 : Int) then 0 else x := ⟨_, rfl⟩
    obtain ⟨mn, hmn⟩ : ∃ mn : Int, mn = if ((Mk.length + 1 : Nat) : Int) - 1 < mx then ((Mk.length + 1 : Nat) : Int) - 1 else mx := ⟨_, rfl⟩
    have hmb : 0 ≤ mn ∧ mn ≤ Mk.length ∧ rk Mk mn.toNat = rk Mk x.toNat := by
      refine ⟨by rw [hmn, hmx]; split <;> split <;> omega, by rw [hmn, hmx]; split <;> split <;> omega, ?_⟩
      by_cases hx : (Mk.length : Int) ≤ x
      · rw [show mn.toNat = Mk.length by rw [hmn, hmx]; split <;> split <;> omega]
        exact (rk_end (by omega)).symm
      · rw [show mn.toNat = x.toNat by rw [hmn, hmx]; split <;> split <;> omega]
    have hct : ∀ {H'} w', St M w0 H' F w' → w'.cell? ⟨bt, ot + ((D.length : Nat) : Int).toNat * 1, none⟩ = some (.int .i64 x) := fun w' hS => by
      have := (hS.und hI).int hxi
      rw [show ((D.length : Nat) : Int).toNat = D.length by omega]; exact this
    have hcs : ∀ {H'} w', St M w0 H' F w' → w'.cell? ⟨bs, os + mn.toNat * 1, none⟩ = some (.int .i64 (rkI Mk x)) := fun w' hS => by
      have h1 : (sumsM Mk)[mn.toNat]? = some (rkI Mk x) := by rw [sumsM_get (by omega), hmb.2.2]
      exact (hS.und hM).int h1
    have hput := intsV_putN P D.length (rkI Mk x) (by omega)
    refine goes_seq ?_
    refine goes_region ?_
    first
      | refine lst_run (run_lss_yes rfl rfl (by omega)) rfl ?_
      | refine lst_run (run_lss_no rfl rfl (by omega)) rfl ?_
      | refine lst_run (rfl) rfl ?_
    refine lst_done ?_
    refine goes_seq ?_
    refine goes_true rfl ?_
    refine goes_skip ?_
    refine goes_seq ?_
    refine goes_block ?_
    refine goes_seq ?_
    refine goes_region ?_
    refine lst_run (run_move (by conv => lhs; whnf)) rfl ?_
    refine lst_run (run_indexAddr (sz := 1) rfl rfl rfl rfl (by omega) (by omega)) rfl ?_
    first
      | refine lst_run (run_load1_own hS rfl rfl (by first | exact .head | exact .tail .head | exact .tail (.tail .head) | exact .tail (.tail (.tail .head)) | exact .tail (.tail (.tail (.tail .head))) | exact .tail (.tail (.tail (.tail (.tail .head))))) (by repeat constructor)) rfl ?_
      | refine lst_run (run_load1 rfl rfl (by first | assumption | exact hct _ hS | exact hcs _ hS | exact hS.cell0 (by assumption) | exact lv_next hS | exact lv_list hS)) rfl ?_
    refine lst_run (run_assign (by conv => lhs; whnf)) rfl ?_
    refine lst_run (run_assign (by conv => lhs; whnf)) rfl ?_
    refine lst_done ?_
    refine goes_region ?_
    refine lst_run (run_move (by conv => lhs; whnf)) rfl ?_
    refine lst_run (run_move (by conv => lhs; whnf)) rfl ?_
    refine lst_run (run_move (by conv => lhs; whnf)) rfl ?_
    refine lst_run (run_move (by conv => lhs; whnf)) rfl ?_
    refine lst_run (run_max2 rfl rfl (by assumption)) rfl ?_
    refine lst_run (run_move (by conv => lhs; whnf)) rfl ?_
    refine lst_run (run_len_slice rfl rfl rfl) rfl ?_
    first
      | refine lst_run (run_sub rfl rfl (by omega) (by omega)) rfl ?_
      | refine lst_run (run_sub_u8 rfl rfl) rfl ?_
    refine lst_run (run_min2 rfl rfl (by assumption)) rfl ?_
    refine lst_run (run_indexAddr (sz := 1) rfl rfl rfl rfl (by omega) (by omega)) rfl ?_
    first
      | refine lst_run (run_load1_own hS rfl rfl (by first | exact .head | exact .tail .head | exact .tail (.tail .head) | exact .tail (.tail (.tail .head)) | exact .tail (.tail (.tail (.tail .head))) | exact .tail (.tail (.tail (.tail (.tail .head))))) (by repeat constructor)) rfl ?_
      | refine lst_run (run_load1 rfl rfl (by first | assumption | exact hct _ hS | exact hcs _ hS | exact hS.cell0 (by assumption) | exact lv_next hS | exact lv_list hS)) rfl ?_
    refine lst_run (run_indexAddr (sz := 1) rfl rfl rfl rfl (by omega) (by omega)) rfl ?_
    refine lst_store1 hS rfl (by conv => lhs; whnf) rfl rfl .head (by rw [show ((D.length : Nat) : Int).toNat = D.length by omega, Nat.zero_add, Nat.mul_one]; exact hput) .head ?_
    clear hS
    intro w6 hS
    refine lst_done ?_
    refine goes_inBlock ?_
    refine goes_region ?_
    refine lst_run (run_add rfl rfl (by omega) (by omega)) rfl ?_
    refine lst_run (run_move (by conv => lhs; whnf)) rfl ?_
    refine lst_done ?_
    refine ih (R) _ _ _ ?_ ?_ (by conv => lhs; whnf) (by kernel_rfl)
    · simp
    · refine ⟨D ++ [x], _, by rw [hD]; simp, by simp, by simpa using hPl, fun q y hq hy => ?_, hS⟩
      rw [List.length_append] at hq
      simp only [List.length_cons, List.length_nil] at hq
      rw [List.getElem?_set]
      split
      · rename_i e
        rw [if_pos (by omega)]
        rw [← e, hxi] at hy
        rw [Option.some.inj hy]
      · exact hP q y (by omega) hy
theorem kept_app {α : Type} : ∀ {D : List α} {m : List Bool} {R : List α} {n : List Bool}, m.length = D.length → kept (D ++ R) (m ++ n) = kept D m ++ kept R n
  | [], [], R, n, _ => rfl
  | [], _ :: _, _, _, h => by simp at h
  | _ :: _, [], _, _, h => by simp at h
  | x :: D, b :: m, R, n, h => by
    have ih := kept_app (D := D) (m := m) (R := R) (n := n) (by simpa using h)
    simp only [List.cons_append, kept, ih]
    split <;> rfl
theorem keepCells_any (L : List HC) (Mk : List Bool) (A B S : Option Addr) (c d e : Nat) (w : World) (hL : Und F (Flat 3 (hcsL L) A L.length c)) (hM : Und F (Flat 1 (boolsV Mk) B Mk.length d)) (hs : Und F (Flat 1 (intsV (sumsM Mk)) S (sumsM Mk).length e)) (hg : goodL L.length L = true) (hl : L.length ≤ 65536) (hml : Mk.length = L.length) (hS : St M w0 H F w) :
    Calls Try.prog 54 #[.slice A L.length c, .slice B Mk.length d, .slice S (Mk.length + 1) e] w fun e w' => ∃ (A' : Option Addr) (c' : Nat) (F' : List (World → Prop)), e = .returned (.slice A' (collL Mk L).length c') ∧ (∀ φ ∈ F, φ ∈ F') ∧ Und F' (Flat 3 (hcsL (collL Mk L)) A' (collL Mk L).length c') ∧ St M w0 H F' w' := by
  refine goes_enter3 Try.func54 rfl Try.ntmps54 rfl ?_
  refine goes_seq ?_
  refine goes_region ?_
  refine lst_run (run_assign (by conv => lhs; whnf)) rfl ?_
  refine lst_done ?_
  refine goes_seq ?_
  refine goes_region ?_
  refine lst_run (run_assign (by conv => lhs; whnf)) rfl ?_
  refine lst_done ?_
  refine goes_seq ?_
  refine goes_seq ?_
  refine goes_region ?_
  refine lst_run (run_move (by conv => lhs; whnf)) rfl ?_
  refine lst_run (run_len_slice rfl rfl rfl) rfl ?_
  refine lst_run (run_move (by conv => lhs; whnf)) rfl ?_
  refine lst_done ?_
  refine goes_block ?_
  refine goes_loop2 12 7 (13 :: 14 :: 15 :: 16 :: 9 :: 8 :: 17 :: 18 :: 19 :: 20 :: 21 :: 22 :: 23 :: 24 :: 25 :: 26 :: 27 :: 28 :: 29 :: 30 :: 31 :: 32 :: 33 :: 34 :: 35 :: []) (fun (R : List HC) v u w' => ∃ (D : List HC) (m1 m2 : List Bool) (X : List HC) (Aa : Option Addr) (ca : Nat) (O : List (Nat × Obj)), L = D ++ R ∧ Mk = m1 ++ m2 ∧ m1.length = D.length ∧ v = .int .i64 (D.length : Nat) ∧ u = .slice Aa X.length ca ∧ X.length ≤ D.length ∧ collL Mk L = X ++ (kept R m2).map (renum Mk) ∧ Rw 59 3 (.slice Aa X.length ca) X.length (hcsL X) O ∧ St M w0 (O ++ H) F w') (fun R => R.length) (L) ?_ (by conv => lhs; whnf) (by conv => lhs; whnf) ?_
  · exact ⟨[], [], Mk, [], none, 0, [], rfl, rfl, rfl, rfl, rfl, by simp, rfl, Rw.zero_, hS⟩
  clear hS
  rintro R _ _ w4 jv ⟨D, m1, m2, X, Aa, ca, O, hD, hm, hml1, rfl, rfl, hXl, hcol, hrow, hS⟩ ih
  have hlen : L.length = D.length + R.length := by rw [hD]; simp
  have hlm : m2.length = R.length := by
    have : Mk.length = m1.length + m2.length := by rw [hm]; simp
    omega
  cases R with
  | nil =>
    simp only [List.length_nil] at hlen
    have hX : collL Mk L = X := by rw [hcol]; simp [kept]
    refine goes_seq ?_
    refine goes_region ?_
    first
      | refine lst_run (run_lss_yes rfl rfl (by omega)) rfl ?_
      | refine lst_run (run_lss_no rfl rfl (by omega)) rfl ?_
      | refine lst_run (rfl) rfl ?_
    refine lst_done ?_
    refine goes_seq ?_
    refine goes_false rfl ?_
    refine goes_exit rfl ?_
    refine goes_seq ?_
    refine goes_region ?_
    refine lst_run (run_move (by conv => lhs; whnf)) rfl ?_
    refine lst_run (run_assign (by conv => lhs; whnf)) rfl ?_
    refine lst_done ?_
    refine goes_ret1 Try.func54 rfl (by conv => lhs; whnf) ?_
    rw [hX]
    exact ⟨Aa, ca, _, rfl, fun φ h => .tail _ h, Und.head, St.freezeR hrow hS⟩
  | cons x R =>
    simp only [List.length_cons] at hlen hlm
    obtain ⟨b, m2, rfl⟩ : ∃ b m2', m2 = b :: m2' := by
      cases m2 with
      | nil => simp at hlm
      | cons b m2 => exact ⟨b, m2, rfl⟩
    have hxi : L[D.length]? = some x := by rw [hD]; simp
    have hbi : Mk[D.length]? = some b := by rw [hm, ← hml1]; simp
    obtain ⟨bt, ot, rfl⟩ := (hS.und hL).some_ (by omega)
    obtain ⟨bm, om, rfl⟩ := (hS.und hM).some_ (by omega)
    obtain ⟨bs, os, rfl⟩ := (hS.und hs).some_ (by rw [sumsM_len]; omega)
    have hcc : ∀ {H'} w', St M w0 H' F w' → _ := fun w' hS => (hS.und hL).cell hxi
    have hcb : ∀ {H'} w', St M w0 H' F w' → w'.cell? ⟨bm, om + ((D.length : Nat) : Int).toNat * 1, none⟩ = some (.bool b) := fun w' hS => by
      have := (hS.und hM).bool hbi
      rw [show ((D.length : Nat) : Int).toNat = D.length by omega]; exact this
    rw [show D.length = ((D.length : Nat) : Int).toNat by omega] at hcc
    cases b with
    | false =>
      refine goes_seq ?_
      refine goes_region ?_
      first
        | refine lst_run (run_lss_yes rfl rfl (by omega)) rfl ?_
        | refine lst_run (run_lss_no rfl rfl (by omega)) rfl ?_
        | refine lst_run (rfl) rfl ?_
      refine lst_done ?_
      refine goes_seq ?_
      refine goes_true rfl ?_
      refine goes_skip ?_
      refine goes_seq ?_
      refine goes_block ?_
      refine goes_seq ?_
      refine goes_region ?_
      refine lst_run (run_move (by conv => lhs; whnf)) rfl ?_
      refine lst_run (run_indexAddr (sz := 3) rfl rfl rfl rfl (by omega) (by omega)) rfl ?_
      first
        | refine lst_run (run_loadN_own (k := 3) hS rfl rfl rfl (by first | exact .head | exact .tail .head | exact .tail (.tail .head) | exact .tail (.tail (.tail .head)) | exact .tail (.tail (.tail (.tail .head))) | exact .tail (.tail (.tail (.tail (.tail .head))))) (by repeat constructor)) rfl ?_
        | refine lst_run (run_load3 rfl rfl rfl (by first | assumption | exact (hcc _ hS).1 | exact (hcc _ hS).2.1 | exact (hcc _ hS).2.2 | exact hcb _ hS | exact hS.cell0 (by assumption)) (by first | assumption | exact (hcc _ hS).1 | exact (hcc _ hS).2.1 | exact (hcc _ hS).2.2 | exact hcb _ hS | exact hS.cell0 (by assumption)) (by first | assumption | exact (hcc _ hS).1 | exact (hcc _ hS).2.1 | exact (hcc _ hS).2.2 | exact hcb _ hS | exact hS.cell0 (by assumption))) rfl ?_
      refine lst_alloc (cs := [_, _, _]) hS rfl rfl rfl ?_
      clear hS
      intro b1 wx1 hS
      refine lst_run (run_assign (by conv => lhs; whnf)) rfl ?_
      refine lst_storeN hS rfl (by conv => lhs; whnf) rfl rfl (by first | exact .head | exact .tail .head | exact .tail (.tail .head) | exact .tail (.tail (.tail .head)) | exact .tail (.tail (.tail (.tail .head))) | exact .tail (.tail (.tail (.tail (.tail .head))))) (by repeat constructor) (by first | exact .head | exact .tail .head | exact .tail (.tail .head) | exact .tail (.tail (.tail .head)) | exact .tail (.tail (.tail (.tail .head))) | exact .tail (.tail (.tail (.tail (.tail .head))))) ?_
      clear hS
      intro wx2 hS
      refine lst_done ?_
      refine goes_seq ?_
      refine goes_seq ?_
      refine goes_region ?_
      refine lst_run (run_move (by conv => lhs; whnf)) rfl ?_
      refine lst_run (run_move (by conv => lhs; whnf)) rfl ?_
      refine lst_run (run_indexAddr (sz := 1) rfl rfl rfl rfl (by omega) (by omega)) rfl ?_
      first
        | refine lst_run (run_load1_own hS rfl rfl (by first | exact .head | exact .tail .head | exact .tail (.tail .head) | exact .tail (.tail (.tail .head)) | exact .tail (.tail (.tail (.tail .head))) | exact .tail (.tail (.tail (.tail (.tail .head))))) (by repeat constructor)) rfl ?_
        | refine lst_run (run_load1 rfl rfl (by first | assumption | exact (hcc _ hS).1 | exact (hcc _ hS).2.1 | exact (hcc _ hS).2.2 | exact hcb _ hS | exact hS.cell0 (by assumption) | exact lv_next hS | exact lv_list hS)) rfl ?_
      refine lst_run (rfl) rfl ?_
      refine lst_done ?_
      refine goes_true rfl ?_
      refine goes_exit rfl ?_
      refine goes_region ?_
      refine lst_run (run_add rfl rfl (by omega) (by omega)) rfl ?_
      refine lst_run (run_move (by conv => lhs; whnf)) rfl ?_
      refine lst_done ?_
      refine ih R _ _ _ _ ?_ ?_ (by conv => lhs; whnf) (by conv => lhs; whnf) (by kernel_rfl)
      · simp
      · refine ⟨D ++ [x], m1 ++ [false], m2, X, Aa, ca, O, by rw [hD]; simp, by rw [hm]; simp, by simp [hml1], by simp, rfl, by simp; omega, ?_, hrow, hS.drop⟩
        rw [hcol]; simp [kept]
    | true =>
      have hgx : goodC L.length x R.length = true := by
        cases hq : goodC L.length x R.length with
        | true => rfl
        | false => have := goodL_false (D := D) hq; rw [← hD, hg] at this; cases this
      have hgc := goodC_iff hgx
      by_cases hk : x.k = 0
      · have hxn : 0 ≤ x.n ∧ x.n < L.length := by omega
        have hcs : ∀ {H'} w', St M w0 H' F w' → w'.cell? ⟨bs, os + x.n.toNat * 1, none⟩ = some (.int .i64 (rkI Mk x.n)) := fun w' hS => by
          have h1 : (sumsM Mk)[x.n.toNat]? = some (rkI Mk x.n) := by rw [sumsM_get (by omega)]
          exact (hS.und hs).int h1
        have hrn : renum Mk x = ⟨x.k, rkI Mk x.n, x.s⟩ := by unfold renum; rw [if_pos hk]
        refine goes_seq ?_
        refine goes_region ?_
        first
          | refine lst_run (run_lss_yes rfl rfl (by omega)) rfl ?_
          | refine lst_run (run_lss_no rfl rfl (by omega)) rfl ?_
          | refine lst_run (rfl) rfl ?_
        refine lst_done ?_
        refine goes_seq ?_
        refine goes_true rfl ?_
        refine goes_skip ?_
        refine goes_seq ?_
        refine goes_block ?_
        refine goes_seq ?_
        refine goes_region ?_
        refine lst_run (run_move (by conv => lhs; whnf)) rfl ?_
        refine lst_run (run_indexAddr (sz := 3) rfl rfl rfl rfl (by omega) (by omega)) rfl ?_
        first
          | refine lst_run (run_loadN_own (k := 3) hS rfl rfl rfl (by first | exact .head | exact .tail .head | exact .tail (.tail .head) | exact .tail (.tail (.tail .head)) | exact .tail (.tail (.tail (.tail .head))) | exact .tail (.tail (.tail (.tail (.tail .head))))) (by repeat constructor)) rfl ?_
          | refine lst_run (run_load3 rfl rfl rfl (by first | assumption | exact (hcc _ hS).1 | exact (hcc _ hS).2.1 | exact (hcc _ hS).2.2 | exact hcb _ hS | exact hcs _ hS | exact hS.cell0 (by assumption)) (by first | assumption | exact (hcc _ hS).1 | exact (hcc _ hS).2.1 | exact (hcc _ hS).2.2 | exact hcb _ hS | exact hcs _ hS | exact hS.cell0 (by assumption)) (by first | assumption | exact (hcc _ hS).1 | exact (hcc _ hS).2.1 | exact (hcc _ hS).2.2 | exact hcb _ hS | exact hcs _ hS | exact hS.cell0 (by assumption))) rfl ?_
        refine lst_alloc (cs := [_, _, _]) hS rfl rfl rfl ?_
        clear hS
        intro b1 wx1 hS
        refine lst_run (run_assign (by conv => lhs; whnf)) rfl ?_
        refine lst_storeN hS rfl (by conv => lhs; whnf) rfl rfl (by first | exact .head | exact .tail .head | exact .tail (.tail .head) | exact .tail (.tail (.tail .head)) | exact .tail (.tail (.tail (.tail .head))) | exact .tail (.tail (.tail (.tail (.tail .head))))) (by repeat constructor) (by first | exact .head | exact .tail .head | exact .tail (.tail .head) | exact .tail (.tail (.tail .head)) | exact .tail (.tail (.tail (.tail .head))) | exact .tail (.tail (.tail (.tail (.tail .head))))) ?_
        clear hS
        intro wx2 hS
        refine lst_done ?_
        refine goes_seq ?_
        refine goes_seq ?_
        refine goes_region ?_
        refine lst_run (run_move (by conv => lhs; whnf)) rfl ?_
        refine lst_run (run_move (by conv => lhs; whnf)) rfl ?_
        refine lst_run (run_indexAddr (sz := 1) rfl rfl rfl rfl (by omega) (by omega)) rfl ?_
        first
          | refine lst_run (run_load1_own hS rfl rfl (by first | exact .head | exact .tail .head | exact .tail (.tail .head) | exact .tail (.tail (.tail .head)) | exact .tail (.tail (.tail (.tail .head))) | exact .tail (.tail (.tail (.tail (.tail .head))))) (by repeat constructor)) rfl ?_
          | refine lst_run (run_load1 rfl rfl (by first | assumption | exact (hcc _ hS).1 | exact (hcc _ hS).2.1 | exact (hcc _ hS).2.2 | exact hcb _ hS | exact hcs _ hS | exact hS.cell0 (by assumption) | exact lv_next hS | exact lv_list hS)) rfl ?_
        refine lst_run (rfl) rfl ?_
        refine lst_done ?_
        refine goes_false rfl ?_
        refine goes_skip ?_
        refine goes_seq ?_
        refine goes_seq ?_
        refine goes_region ?_
        refine lst_run (run_fieldAddr (off := 0) rfl rfl) rfl ?_
        first
          | refine lst_run (run_load1_own hS rfl rfl (by first | exact .head | exact .tail .head | exact .tail (.tail .head) | exact .tail (.tail (.tail .head)) | exact .tail (.tail (.tail (.tail .head))) | exact .tail (.tail (.tail (.tail (.tail .head))))) (by repeat constructor)) rfl ?_
          | refine lst_run (run_load1 rfl rfl (by first | assumption | exact (hcc _ hS).1 | exact (hcc _ hS).2.1 | exact (hcc _ hS).2.2 | exact hcb _ hS | exact hcs _ hS | exact hS.cell0 (by assumption) | exact lv_next hS | exact lv_list hS)) rfl ?_
        first
          | refine lst_run (run_eql_one_int rfl rfl) rfl ?_
          | refine lst_run (run_eql_no rfl rfl (by first | assumption | omega)) rfl ?_
          | refine lst_run (run_eql_yes rfl rfl (by omega)) rfl ?_
          | refine lst_run (rfl) rfl ?_
        refine lst_done ?_
        refine goes_true rfl ?_
        refine goes_region ?_
        refine lst_run (run_move (by conv => lhs; whnf)) rfl ?_
        refine lst_run (run_fieldAddr (off := 1) rfl rfl) rfl ?_
        first
          | refine lst_run (run_load1_own hS rfl rfl (by first | exact .head | exact .tail .head | exact .tail (.tail .head) | exact .tail (.tail (.tail .head)) | exact .tail (.tail (.tail (.tail .head))) | exact .tail (.tail (.tail (.tail (.tail .head))))) (by repeat constructor)) rfl ?_
          | refine lst_run (run_load1 rfl rfl (by first | assumption | exact (hcc _ hS).1 | exact (hcc _ hS).2.1 | exact (hcc _ hS).2.2 | exact hcb _ hS | exact hcs _ hS | exact hS.cell0 (by assumption) | exact lv_next hS | exact lv_list hS)) rfl ?_
        refine lst_run (run_indexAddr (sz := 1) rfl rfl rfl rfl (by omega) (by omega)) rfl ?_
        first
          | refine lst_run (run_load1_own hS rfl rfl (by first | exact .head | exact .tail .head | exact .tail (.tail .head) | exact .tail (.tail (.tail .head)) | exact .tail (.tail (.tail (.tail .head))) | exact .tail (.tail (.tail (.tail (.tail .head))))) (by repeat constructor)) rfl ?_
          | refine lst_run (run_load1 rfl rfl (by first | assumption | exact (hcc _ hS).1 | exact (hcc _ hS).2.1 | exact (hcc _ hS).2.2 | exact hcb _ hS | exact hcs _ hS | exact hS.cell0 (by assumption) | exact lv_next hS | exact lv_list hS)) rfl ?_
        refine lst_run (run_fieldAddr (off := 1) rfl rfl) rfl ?_
        refine lst_store1 hS rfl (by conv => lhs; whnf) rfl rfl (by first | exact .head | exact .tail .head | exact .tail (.tail .head) | exact .tail (.tail (.tail .head)) | exact .tail (.tail (.tail (.tail .head))) | exact .tail (.tail (.tail (.tail (.tail .head))))) (by repeat constructor) (by first | exact .head | exact .tail .head | exact .tail (.tail .head) | exact .tail (.tail (.tail .head)) | exact .tail (.tail (.tail (.tail .head))) | exact .tail (.tail (.tail (.tail (.tail .head))))) ?_
        clear hS
        intro wx3 hS
        refine lst_done ?_
        refine goes_region ?_
        refine lst_run (run_move (by conv => lhs; whnf)) rfl ?_
        first
          | refine lst_run (run_loadN_own (k := 3) hS rfl rfl rfl (by first | exact .head | exact .tail .head | exact .tail (.tail .head) | exact .tail (.tail (.tail .head)) | exact .tail (.tail (.tail (.tail .head))) | exact .tail (.tail (.tail (.tail (.tail .head))))) (by repeat constructor)) rfl ?_
          | refine lst_run (run_load3 rfl rfl rfl (by first | assumption | exact (hcc _ hS).1 | exact (hcc _ hS).2.1 | exact (hcc _ hS).2.2 | exact hcb _ hS | exact hcs _ hS | exact hS.cell0 (by assumption)) (by first | assumption | exact (hcc _ hS).1 | exact (hcc _ hS).2.1 | exact (hcc _ hS).2.2 | exact hcb _ hS | exact hcs _ hS | exact hS.cell0 (by assumption)) (by first | assumption | exact (hcc _ hS).1 | exact (hcc _ hS).2.1 | exact (hcc _ hS).2.2 | exact hcb _ hS | exact hcs _ hS | exact hS.cell0 (by assumption))) rfl ?_
        refine lst_buildSlice (cells := [_, _, _]) hS (.cons (by conv => lhs; whnf) .nil) rfl rfl ?_
        clear hS
        intro b2 wx4 hS
        refine lst_appC (L := [⟨x.k, rkI Mk x.n, x.s⟩]) hS (by conv => lhs; whnf) (by rfl) rfl rfl rfl (Flat.own (sp := []) (hS.own (_, _) (.head _)) rfl (Nat.le_refl _)) hrow (List.perm_append_comm_assoc [_, _] O _) (by simp; omega) rfl ?_
        clear hS
        intro v7 O7 w7 hrow7 hS
        obtain ⟨B7, d7, rfl, _⟩ := hrow7.form
        refine lst_run (run_assign (by conv => lhs; whnf)) rfl ?_
        refine lst_done ?_
        refine goes_inBlock ?_
        refine goes_region ?_
        refine lst_run (run_add rfl rfl (by omega) (by omega)) rfl ?_
        refine lst_run (run_move (by conv => lhs; whnf)) rfl ?_
        refine lst_done ?_
        refine ih R _ _ _ _ ?_ ?_ (by conv => lhs; whnf) (by conv => lhs; whnf) (by kernel_rfl)
        · simp
        · refine ⟨D ++ [x], m1 ++ [true], m2, X ++ [⟨x.k, rkI Mk x.n, x.s⟩], B7, d7, O7, by rw [hD]; simp, by rw [hm]; simp, by simp [hml1], by simp, by rw [List.length_append], by simp; omega, ?_, ?_, (hS.perm (List.perm_append_comm_assoc O7 [_, _] _)).drop.drop⟩
          · rw [hcol]; simp [kept, hrn]
          · rw [List.length_append, hcsL_app]; exact hrow7
      · have hrn : renum Mk x = x := by unfold renum; rw [if_neg hk]
        refine goes_seq ?_
        refine goes_region ?_
        first
          | refine lst_run (run_lss_yes rfl rfl (by omega)) rfl ?_
          | refine lst_run (run_lss_no rfl rfl (by omega)) rfl ?_
          | refine lst_run (rfl) rfl ?_
        refine lst_done ?_
        refine goes_seq ?_
        refine goes_true rfl ?_
        refine goes_skip ?_
        refine goes_seq ?_
        refine goes_block ?_
        refine goes_seq ?_
        refine goes_region ?_
        refine lst_run (run_move (by conv => lhs; whnf)) rfl ?_
        refine lst_run (run_indexAddr (sz := 3) rfl rfl rfl rfl (by omega) (by omega)) rfl ?_
        first
          | refine lst_run (run_loadN_own (k := 3) hS rfl rfl rfl (by first | exact .head | exact .tail .head | exact .tail (.tail .head) | exact .tail (.tail (.tail .head)) | exact .tail (.tail (.tail (.tail .head))) | exact .tail (.tail (.tail (.tail (.tail .head))))) (by repeat constructor)) rfl ?_
          | refine lst_run (run_load3 rfl rfl rfl (by first | assumption | exact (hcc _ hS).1 | exact (hcc _ hS).2.1 | exact (hcc _ hS).2.2 | exact hcb _ hS | exact hcs _ hS | exact hS.cell0 (by assumption)) (by first | assumption | exact (hcc _ hS).1 | exact (hcc _ hS).2.1 | exact (hcc _ hS).2.2 | exact hcb _ hS | exact hcs _ hS | exact hS.cell0 (by assumption)) (by first | assumption | exact (hcc _ hS).1 | exact (hcc _ hS).2.1 | exact (hcc _ hS).2.2 | exact hcb _ hS | exact hcs _ hS | exact hS.cell0 (by assumption))) rfl ?_
        refine lst_alloc (cs := [_, _, _]) hS rfl rfl rfl ?_
        clear hS
        intro b1 wx1 hS
        refine lst_run (run_assign (by conv => lhs; whnf)) rfl ?_
        refine lst_storeN hS rfl (by conv => lhs; whnf) rfl rfl (by first | exact .head | exact .tail .head | exact .tail (.tail .head) | exact .tail (.tail (.tail .head)) | exact .tail (.tail (.tail (.tail .head))) | exact .tail (.tail (.tail (.tail (.tail .head))))) (by repeat constructor) (by first | exact .head | exact .tail .head | exact .tail (.tail .head) | exact .tail (.tail (.tail .head)) | exact .tail (.tail (.tail (.tail .head))) | exact .tail (.tail (.tail (.tail (.tail .head))))) ?_
        clear hS
        intro wx2 hS
        refine lst_done ?_
        refine goes_seq ?_
        refine goes_seq ?_
        refine goes_region ?_
        refine lst_run (run_move (by conv => lhs; whnf)) rfl ?_
        refine lst_run (run_move (by conv => lhs; whnf)) rfl ?_
        refine lst_run (run_indexAddr (sz := 1) rfl rfl rfl rfl (by omega) (by omega)) rfl ?_
        first
          | refine lst_run (run_load1_own hS rfl rfl (by first | exact .head | exact .tail .head | exact .tail (.tail .head) | exact .tail (.tail (.tail .head)) | exact .tail (.tail (.tail (.tail .head))) | exact .tail (.tail (.tail (.tail (.tail .head))))) (by repeat constructor)) rfl ?_
          | refine lst_run (run_load1 rfl rfl (by first | assumption | exact (hcc _ hS).1 | exact (hcc _ hS).2.1 | exact (hcc _ hS).2.2 | exact hcb _ hS | exact hcs _ hS | exact hS.cell0 (by assumption) | exact lv_next hS | exact lv_list hS)) rfl ?_
        refine lst_run (rfl) rfl ?_
        refine lst_done ?_
        refine goes_false rfl ?_
        refine goes_skip ?_
        refine goes_seq ?_
        refine goes_seq ?_
        refine goes_region ?_
        refine lst_run (run_fieldAddr (off := 0) rfl rfl) rfl ?_
        first
          | refine lst_run (run_load1_own hS rfl rfl (by first | exact .head | exact .tail .head | exact .tail (.tail .head) | exact .tail (.tail (.tail .head)) | exact .tail (.tail (.tail (.tail .head))) | exact .tail (.tail (.tail (.tail (.tail .head))))) (by repeat constructor)) rfl ?_
          | refine lst_run (run_load1 rfl rfl (by first | assumption | exact (hcc _ hS).1 | exact (hcc _ hS).2.1 | exact (hcc _ hS).2.2 | exact hcb _ hS | exact hcs _ hS | exact hS.cell0 (by assumption) | exact lv_next hS | exact lv_list hS)) rfl ?_
        first
          | refine lst_run (run_eql_one_int rfl rfl) rfl ?_
          | refine lst_run (run_eql_no rfl rfl (by first | assumption | omega)) rfl ?_
          | refine lst_run (run_eql_yes rfl rfl (by omega)) rfl ?_
          | refine lst_run (rfl) rfl ?_
        refine lst_done ?_
        refine goes_false rfl ?_
        refine goes_skip ?_
        refine goes_region ?_
        refine lst_run (run_move (by conv => lhs; whnf)) rfl ?_
        first
          | refine lst_run (run_loadN_own (k := 3) hS rfl rfl rfl (by first | exact .head | exact .tail .head | exact .tail (.tail .head) | exact .tail (.tail (.tail .head)) | exact .tail (.tail (.tail (.tail .head))) | exact .tail (.tail (.tail (.tail (.tail .head))))) (by repeat constructor)) rfl ?_
          | refine lst_run (run_load3 rfl rfl rfl (by first | assumption | exact (hcc _ hS).1 | exact (hcc _ hS).2.1 | exact (hcc _ hS).2.2 | exact hcb _ hS | exact hcs _ hS | exact hS.cell0 (by assumption)) (by first | assumption | exact (hcc _ hS).1 | exact (hcc _ hS).2.1 | exact (hcc _ hS).2.2 | exact hcb _ hS | exact hcs _ hS | exact hS.cell0 (by assumption)) (by first | assumption | exact (hcc _ hS).1 | exact (hcc _ hS).2.1 | exact (hcc _ hS).2.2 | exact hcb _ hS | exact hcs _ hS | exact hS.cell0 (by assumption))) rfl ?_
        refine lst_buildSlice (cells := [_, _, _]) hS (.cons (by conv => lhs; whnf) .nil) rfl rfl ?_
        clear hS
        intro b2 wx3 hS
        refine lst_appC (L := [x]) hS (by conv => lhs; whnf) (by rfl) rfl rfl rfl (Flat.own (sp := []) (hS.own (_, _) (.head _)) rfl (Nat.le_refl _)) hrow (List.perm_append_comm_assoc [_, _] O _) (by simp; omega) rfl ?_
        clear hS
        intro v7 O7 w7 hrow7 hS
        obtain ⟨B7, d7, rfl, _⟩ := hrow7.form
        refine lst_run (run_assign (by conv => lhs; whnf)) rfl ?_
        refine lst_done ?_
        refine goes_inBlock ?_
        refine goes_region ?_
        refine lst_run (run_add rfl rfl (by omega) (by omega)) rfl ?_
        refine lst_run (run_move (by conv => lhs; whnf)) rfl ?_
        refine lst_done ?_
        refine ih R _ _ _ _ ?_ ?_ (by conv => lhs; whnf) (by conv => lhs; whnf) (by kernel_rfl)
        · simp
        · refine ⟨D ++ [x], m1 ++ [true], m2, X ++ [x], B7, d7, O7, by rw [hD]; simp, by rw [hm]; simp, by simp [hml1], by simp, by rw [List.length_append], by simp; omega, ?_, ?_, (hS.perm (List.perm_append_comm_assoc O7 [_, _] _)).drop.drop⟩
          · rw [hcol]; simp [kept, hrn]
          · rw [List.length_append, hcsL_app]; exact hrow7
theorem keepTrail_any (T : List Int) (N Mk : List Bool) (A B S : Option Addr) (c d e : Nat) (w : World) (hT : Und F (Flat 1 (intsV T) A T.length c)) (hM : Und F (Flat 1 (boolsV N) B N.length d)) (hs : Und F (Flat 1 (intsV (sumsM Mk)) S (sumsM Mk).length e)) (hg : ∀ a ∈ T, 0 ≤ a ∧ a < Mk.length) (hl : T.length ≤ 65536) (hml : N.length = T.length) (hS : St M w0 H F w) :
    Calls Try.prog 55 #[.slice A T.length c, .slice B N.length d, .slice S (Mk.length + 1) e] w fun e w' => ∃ (A' : Option Addr) (c' : Nat) (F' : List (World → Prop)), e = .returned (.slice A' ((kept T N).map (rkI Mk)).length c') ∧ (∀ φ ∈ F, φ ∈ F') ∧ Und F' (Flat 1 (intsV ((kept T N).map (rkI Mk))) A' ((kept T N).map (rkI Mk)).length c') ∧ St M w0 H F' w' := by
  refine goes_enter3 Try.func55 rfl Try.ntmps55 rfl ?_
  refine goes_seq ?_
  refine goes_region ?_
  refine lst_run (run_assign (by conv => lhs; whnf)) rfl ?_
  refine lst_done ?_
  refine goes_seq ?_
  refine goes_region ?_
  refine lst_run (run_assign (by conv => lhs; whnf)) rfl ?_
  refine lst_done ?_
  refine goes_seq ?_
  refine goes_seq ?_
  refine goes_region ?_
  refine lst_run (run_move (by conv => lhs; whnf)) rfl ?_
  refine lst_run (run_len_slice rfl rfl rfl) rfl ?_
  refine lst_run (run_move (by conv => lhs; whnf)) rfl ?_
  refine lst_done ?_
  refine goes_block ?_
  refine goes_loop2 12 7 (13 :: 14 :: 15 :: 16 :: 8 :: 9 :: 17 :: 18 :: 19 :: 20 :: 21 :: 22 :: 23 :: 24 :: 25 :: 26 :: 27 :: 28 :: []) (fun (R : List Int) v u w' => ∃ (D : List Int) (m1 m2 : List Bool) (X : List Int) (Aa : Option Addr) (ca : Nat) (O : List (Nat × Obj)), T = D ++ R ∧ N = m1 ++ m2 ∧ m1.length = D.length ∧ v = .int .i64 (D.length : Nat) ∧ u = .slice Aa X.length ca ∧ X.length ≤ D.length ∧ (kept T N).map (rkI Mk) = X ++ (kept R m2).map (rkI Mk) ∧ Rw 3 1 (.slice Aa X.length ca) X.length (intsV X) O ∧ St M w0 (O ++ H) F w') (fun R => R.length) (T) ?_ (by conv => lhs; whnf) (by conv => lhs; whnf) ?_
  · exact ⟨[], [], N, [], none, 0, [], rfl, rfl, rfl, rfl, rfl, by simp, rfl, Rw.zero_, hS⟩
  clear hS
  rintro R _ _ w4 jv ⟨D, m1, m2, X, Aa, ca, O, hD, hm, hml1, rfl, rfl, hXl, hcol, hrow, hS⟩ ih
  have hlen : T.length = D.length + R.length := by rw [hD]; simp
  have hlm : m2.length = R.length := by
    have : N.length = m1.length + m2.length := by rw [hm]; simp
    omega
  cases R with
  | nil =>
    simp only [List.length_nil] at hlen
    have hX : (kept T N).map (rkI Mk) = X := by rw [hcol]; simp [kept]
    refine goes_seq ?_
    refine goes_region ?_
    first
      | refine lst_run (run_lss_yes rfl rfl (by omega)) rfl ?_
      | refine lst_run (run_lss_no rfl rfl (by omega)) rfl ?_
      | refine lst_run (rfl) rfl ?_
    refine lst_done ?_
    refine goes_seq ?_
    refine goes_false rfl ?_
    refine goes_exit rfl ?_
    refine goes_seq ?_
    refine goes_region ?_
    refine lst_run (run_move (by conv => lhs; whnf)) rfl ?_
    refine lst_run (run_assign (by conv => lhs; whnf)) rfl ?_
    refine lst_done ?_
    refine goes_ret1 Try.func55 rfl (by conv => lhs; whnf) ?_
    rw [hX]
    exact ⟨Aa, ca, _, rfl, fun φ h => .tail _ h, Und.head, St.freezeR hrow hS⟩
  | cons x R =>
    simp only [List.length_cons] at hlen hlm
    obtain ⟨b, m2, rfl⟩ : ∃ b m2', m2 = b :: m2' := by
      cases m2 with
      | nil => simp at hlm
      | cons b m2 => exact ⟨b, m2, rfl⟩
    have hxi : T[D.length]? = some x := by rw [hD]; simp
    have hbi : N[D.length]? = some b := by rw [hm, ← hml1]; simp
    obtain ⟨hx0, hx1⟩ := hg x (by rw [hD]; simp)
    obtain ⟨bt, ot, rfl⟩ := (hS.und hT).some_ (by omega)
    obtain ⟨bm, om, rfl⟩ := (hS.und hM).some_ (by omega)
    obtain ⟨bs, os, rfl⟩ := (hS.und hs).some_ (by rw [sumsM_len]; omega)
    have hcc : ∀ {H'} w', St M w0 H' F w' → w'.cell? ⟨bt, ot + ((D.length : Nat) : Int).toNat * 1, none⟩ = some (.int .i64 x) := fun w' hS => by
      have := (hS.und hT).int hxi
      rw [show ((D.length : Nat) : Int).toNat = D.length by omega]; exact this
    have hcb : ∀ {H'} w', St M w0 H' F w' → w'.cell? ⟨bm, om + ((D.length : Nat) : Int).toNat * 1, none⟩ = some (.bool b) := fun w' hS => by
      have := (hS.und hM).bool hbi
      rw [show ((D.length : Nat) : Int).toNat = D.length by omega]; exact this
    have hcs : ∀ {H'} w', St M w0 H' F w' → w'.cell? ⟨bs, os + x.toNat * 1, none⟩ = some (.int .i64 (rkI Mk x)) := fun w' hS => by
      have h1 : (sumsM Mk)[x.toNat]? = some (rkI Mk x) := by rw [sumsM_get (by omega)]
      exact (hS.und hs).int h1
    cases b with
    | false =>
      refine goes_seq ?_
      refine goes_region ?_
      first
        | refine lst_run (run_lss_yes rfl rfl (by omega)) rfl ?_
        | refine lst_run (run_lss_no rfl rfl (by omega)) rfl ?_
        | refine lst_run (rfl) rfl ?_
      refine lst_done ?_
      refine goes_seq ?_
      refine goes_true rfl ?_
      refine goes_skip ?_
      refine goes_seq ?_
      refine goes_block ?_
      refine goes_seq ?_
      refine goes_region ?_
      refine lst_run (run_move (by conv => lhs; whnf)) rfl ?_
      refine lst_run (run_indexAddr (sz := 1) rfl rfl rfl rfl (by omega) (by omega)) rfl ?_
      first
        | refine lst_run (run_load1_own hS rfl rfl (by first | exact .head | exact .tail .head | exact .tail (.tail .head) | exact .tail (.tail (.tail .head)) | exact .tail (.tail (.tail (.tail .head))) | exact .tail (.tail (.tail (.tail (.tail .head))))) (by repeat constructor)) rfl ?_
        | refine lst_run (run_load1 rfl rfl (by first | assumption | exact hcc _ hS | exact hcb _ hS | exact hcs _ hS | exact hS.cell0 (by assumption) | exact lv_next hS | exact lv_list hS)) rfl ?_
      refine lst_run (run_assign (by conv => lhs; whnf)) rfl ?_
      refine lst_run (run_assign (by conv => lhs; whnf)) rfl ?_
      refine lst_done ?_
      refine goes_seq ?_
      refine goes_region ?_
      refine lst_run (run_move (by conv => lhs; whnf)) rfl ?_
      refine lst_run (run_move (by conv => lhs; whnf)) rfl ?_
      refine lst_run (run_indexAddr (sz := 1) rfl rfl rfl rfl (by omega) (by omega)) rfl ?_
      first
        | refine lst_run (run_load1_own hS rfl rfl (by first | exact .head | exact .tail .head | exact .tail (.tail .head) | exact .tail (.tail (.tail .head)) | exact .tail (.tail (.tail (.tail .head))) | exact .tail (.tail (.tail (.tail (.tail .head))))) (by repeat constructor)) rfl ?_
        | refine lst_run (run_load1 rfl rfl (by first | assumption | exact hcc _ hS | exact hcb _ hS | exact hcs _ hS | exact hS.cell0 (by assumption) | exact lv_next hS | exact lv_list hS)) rfl ?_
      refine lst_done ?_
      refine goes_false rfl ?_
      refine goes_skip ?_
      refine goes_inBlock ?_
      refine goes_region ?_
      refine lst_run (run_add rfl rfl (by omega) (by omega)) rfl ?_
      refine lst_run (run_move (by conv => lhs; whnf)) rfl ?_
      refine lst_done ?_
      refine ih R _ _ _ _ ?_ ?_ (by conv => lhs; whnf) (by conv => lhs; whnf) (by kernel_rfl)
      · simp
      · refine ⟨D ++ [x], m1 ++ [false], m2, X, Aa, ca, O, by rw [hD]; simp, by rw [hm]; simp, by simp [hml1], by simp, rfl, by simp; omega, ?_, hrow, hS⟩
        rw [hcol]; simp [kept]
    | true =>
      refine goes_seq ?_
      refine goes_region ?_
      first
        | refine lst_run (run_lss_yes rfl rfl (by omega)) rfl ?_
        | refine lst_run (run_lss_no rfl rfl (by omega)) rfl ?_
        | refine lst_run (rfl) rfl ?_
      refine lst_done ?_
      refine goes_seq ?_
      refine goes_true rfl ?_
      refine goes_skip ?_
      refine goes_seq ?_
      refine goes_block ?_
      refine goes_seq ?_
      refine goes_region ?_
      refine lst_run (run_move (by conv => lhs; whnf)) rfl ?_
      refine lst_run (run_indexAddr (sz := 1) rfl rfl rfl rfl (by omega) (by omega)) rfl ?_
      first
        | refine lst_run (run_load1_own hS rfl rfl (by first | exact .head | exact .tail .head | exact .tail (.tail .head) | exact .tail (.tail (.tail .head)) | exact .tail (.tail (.tail (.tail .head))) | exact .tail (.tail (.tail (.tail (.tail .head))))) (by repeat constructor)) rfl ?_
        | refine lst_run (run_load1 rfl rfl (by first | assumption | exact hcc _ hS | exact hcb _ hS | exact hcs _ hS | exact hS.cell0 (by assumption) | exact lv_next hS | exact lv_list hS)) rfl ?_
      refine lst_run (run_assign (by conv => lhs; whnf)) rfl ?_
      refine lst_run (run_assign (by conv => lhs; whnf)) rfl ?_
      refine lst_done ?_
      refine goes_seq ?_
      refine goes_region ?_
      refine lst_run (run_move (by conv => lhs; whnf)) rfl ?_
      refine lst_run (run_move (by conv => lhs; whnf)) rfl ?_
      refine lst_run (run_indexAddr (sz := 1) rfl rfl rfl rfl (by omega) (by omega)) rfl ?_
      first
        | refine lst_run (run_load1_own hS rfl rfl (by first | exact .head | exact .tail .head | exact .tail (.tail .head) | exact .tail (.tail (.tail .head)) | exact .tail (.tail (.tail (.tail .head))) | exact .tail (.tail (.tail (.tail (.tail .head))))) (by repeat constructor)) rfl ?_
        | refine lst_run (run_load1 rfl rfl (by first | assumption | exact hcc _ hS | exact hcb _ hS | exact hcs _ hS | exact hS.cell0 (by assumption) | exact lv_next hS | exact lv_list hS)) rfl ?_
      refine lst_done ?_
      refine goes_true rfl ?_
      refine goes_region ?_
      refine lst_run (run_move (by conv => lhs; whnf)) rfl ?_
      refine lst_run (run_move (by conv => lhs; whnf)) rfl ?_
      refine lst_run (run_move (by conv => lhs; whnf)) rfl ?_
      refine lst_run (run_indexAddr (sz := 1) rfl rfl rfl rfl (by omega) (by omega)) rfl ?_
      first
        | refine lst_run (run_load1_own hS rfl rfl (by first | exact .head | exact .tail .head | exact .tail (.tail .head) | exact .tail (.tail (.tail .head)) | exact .tail (.tail (.tail (.tail .head))) | exact .tail (.tail (.tail (.tail (.tail .head))))) (by repeat constructor)) rfl ?_
        | refine lst_run (run_load1 rfl rfl (by first | assumption | exact hcc _ hS | exact hcb _ hS | exact hcs _ hS | exact hS.cell0 (by assumption) | exact lv_next hS | exact lv_list hS)) rfl ?_
      refine lst_buildSlice (cells := [_]) hS (.cons (by conv => lhs; whnf) .nil) rfl rfl ?_
      clear hS
      intro b1 wx1 hS
      refine lst_appI (L := [rkI Mk x]) hS (by conv => lhs; whnf) (by rfl) rfl rfl rfl (Flat.own (sp := []) (hS.own (_, _) (.head _)) rfl (Nat.le_refl _)) hrow (List.perm_append_comm_assoc [_] O _) (by simp; omega) rfl ?_
      clear hS
      intro v7 O7 w7 hrow7 hS
      obtain ⟨B7, d7, rfl, _⟩ := hrow7.form
      refine lst_run (run_assign (by conv => lhs; whnf)) rfl ?_
      refine lst_done ?_
      refine goes_inBlock ?_
      refine goes_region ?_
      refine lst_run (run_add rfl rfl (by omega) (by omega)) rfl ?_
      refine lst_run (run_move (by conv => lhs; whnf)) rfl ?_
      refine lst_done ?_
      refine ih R _ _ _ _ ?_ ?_ (by conv => lhs; whnf) (by conv => lhs; whnf) (by kernel_rfl)
      · simp
      · refine ⟨D ++ [x], m1 ++ [true], m2, X ++ [rkI Mk x], B7, d7, O7, by rw [hD]; simp, by rw [hm]; simp, by simp [hml1], by simp, by rw [List.length_append], by simp; omega, ?_, ?_, (hS.perm (List.perm_append_comm_assoc O7 [_] _)).drop⟩
        · rw [hcol]; simp [kept]
        · rw [List.length_append, show intsV (X ++ [rkI Mk x]) = intsV X ++ intsV [rkI Mk x] by simp [intsV]]; exact hrow7
end
end Go.Proofs.Ytjicoifjgokoiab
namespace Go.Proofs.Ytjicoifjgokoiab
open Go.RowKit
set_option linter.unusedVariables false
set_option linter.unusedSimpArgs false
set_option maxRecDepth 100000
set_option maxHeartbeats 1000000

theorem markAt_get {M : List Bool} {x : Int} {v : Bool} (h : M[x.toNat]? = some v) : markAt M x = v := by
  unfold markAt; rw [h]; cases v <;> simp
section
variable {M : List Nat} {w0 : World} {H : List (Nat × Obj)} {F : List (World → Prop)}
theorem St.freezeB {P : List Bool} {g : Nat} {w : World} (hS : St M w0 ((g, bbob P) :: H) F w) : St M w0 H (Flat 1 (boolsV P) (some ⟨g, 0, none⟩) P.length P.length :: F) w := by
  have ho := hS.own (g, _) (.head _)
  refine hS.drop.learn fun w' hw => Flat.own (sp := []) (el := 4) ?_ (boolsV_len P) (Nat.le_refl _)
  rw [hw.block g (own_lt ho) fun hm => ?_, List.append_nil]
  · exact ho
  · obtain ⟨p, hp, e⟩ := List.mem_map.1 hm
    exact (List.pairwise_cons.1 hS.apart).1 p hp e.symm
theorem marks_good (h : HH) (R : List Int) (A B RA : Option Addr) (c d rc : Nat) (w : World) (hg : goodH h = true) (hH : Und F (HFl h A c B d)) (hR : Und F (Flat 1 (intsV R) RA R.length rc)) (hRl : R.length ≤ 9223372036854775807) (hS : St M w0 H F w) :
    Calls Try.prog 25 #[hv h A c B d, .slice RA R.length rc] w fun e w' => ∃ (A' : Option Addr) (c' : Nat) (F' : List (World → Prop)), e = .returned (.tuple #[.slice A' (marksM h.cs R).length c', .int .i64 0]) ∧ (∀ φ ∈ F, φ ∈ F') ∧ Und F' (Flat 1 (boolsV (marksM h.cs R)) A' (marksM h.cs R).length c') ∧ St M w0 H F' w' := by
  have := marks_any h R A B RA c d rc w hH hR hRl hS
  rw [show marksH h R = (marksM h.cs R, 0) by unfold marksH; rw [if_neg (by rw [hg]; decide)]] at this
  exact this
theorem marks_bad (h : HH) (R : List Int) (A B RA : Option Addr) (c d rc : Nat) (w : World) (hg : goodH h = false) (hH : Und F (HFl h A c B d)) (hR : Und F (Flat 1 (intsV R) RA R.length rc)) (hRl : R.length ≤ 9223372036854775807) (hS : St M w0 H F w) :
    Calls Try.prog 25 #[hv h A c B d, .slice RA R.length rc] w fun e w' => ∃ (A' : Option Addr) (c' : Nat) (F' : List (World → Prop)), e = .returned (.tuple #[.slice A' 0 c', .int .i64 1]) ∧ (∀ φ ∈ F, φ ∈ F') ∧ St M w0 H F' w' := by
  have := marks_any h R A B RA c d rc w hH hR hRl hS
  rw [show marksH h R = ([], 1) by unfold marksH; rw [if_pos hg]] at this
  exact this.mono fun e w' ⟨A', c', F', h1, h2, _, h4⟩ => ⟨A', c', F', h1, h2, h4⟩
theorem sums_n (Mk : List Bool) (n : Nat) (hn : Mk.length = n) (A : Option Addr) (c : Nat) (w : World) (hM : Und F (Flat 1 (boolsV Mk) A n c)) (hl : n ≤ 1048576) (hS : St M w0 H F w) :
    Calls Try.prog 53 #[.slice A n c] w fun e w' => ∃ (A' : Option Addr) (c' : Nat) (F' : List (World → Prop)), e = .returned (.slice A' (n + 1) c') ∧ (∀ φ ∈ F, φ ∈ F') ∧ Und F' (Flat 1 (intsV (sumsM Mk)) A' (sumsM Mk).length c') ∧ St M w0 H F' w' := by
  subst hn; exact sums_any Mk A c w hM hl hS
theorem keepTrail_n (T : List Int) (N Mk : List Bool) (n : Nat) (hn : N.length = n) (A B S : Option Addr) (c d e : Nat) (w : World) (hT : Und F (Flat 1 (intsV T) A T.length c)) (hM : Und F (Flat 1 (boolsV N) B n d)) (hs : Und F (Flat 1 (intsV (sumsM Mk)) S (sumsM Mk).length e)) (hg : ∀ a ∈ T, 0 ≤ a ∧ a < Mk.length) (hl : T.length ≤ 65536) (hml : n = T.length) (hS : St M w0 H F w) :
    Calls Try.prog 55 #[.slice A T.length c, .slice B n d, .slice S (Mk.length + 1) e] w fun e w' => ∃ (A' : Option Addr) (c' : Nat) (F' : List (World → Prop)), e = .returned (.slice A' ((kept T N).map (rkI Mk)).length c') ∧ (∀ φ ∈ F, φ ∈ F') ∧ Und F' (Flat 1 (intsV ((kept T N).map (rkI Mk))) A' ((kept T N).map (rkI Mk)).length c') ∧ St M w0 H F' w' := by
  subst hn; exact keepTrail_any T N Mk A B S c d e w hT hM hs hg hl hml hS
theorem counts_n (Mk : List Bool) (n : Nat) (hn : Mk.length = n) (I : List Int) (A B : Option Addr) (c d : Nat) (w : World) (hM : Und F (Flat 1 (intsV (sumsM Mk)) A (sumsM Mk).length c)) (hI : Und F (Flat 1 (intsV I) B I.length d)) (hl : n ≤ 1048576) (hl2 : I.length ≤ 1048576) (hS : St M w0 H F w) :
    Calls Try.prog 56 #[.slice A (n + 1) c, .slice B I.length d] w fun e w' => ∃ (A' : Option Addr) (c' : Nat) (F' : List (World → Prop)), e = .returned (.slice A' (I.map (rkI Mk)).length c') ∧ (∀ φ ∈ F, φ ∈ F') ∧ Und F' (Flat 1 (intsV (I.map (rkI Mk))) A' (I.map (rkI Mk)).length c') ∧ St M w0 H F' w' := by
  subst hn; exact counts_any Mk I A B c d w hM hI hl hl2 hS
/-- What Collect gives. -/
def CRes (M : List Nat) (w0 : World) (H : List (Nat × Obj)) (F : List (World → Prop)) (r : HH × List Int × List Int × List Int × Int) (e : Ending) (w' : World) : Prop :=
  ∃ (A' : Option Addr) (c' : Nat) (B' : Option Addr) (d' : Nat) (a1 a2 a3 : Option Addr) (c1 c2 c3 : Nat) (F' : List (World → Prop)),
    e = .returned (.tuple #[hv r.1 A' c' B' d', .slice a1 r.2.1.length c1, .slice a2 r.2.2.1.length c2, .slice a3 r.2.2.2.1.length c3, .int .i64 r.2.2.2.2]) ∧ (∀ φ ∈ F, φ ∈ F') ∧ Und F' (HFl r.1 A' c' B' d') ∧ Und F' (Flat 1 (intsV r.2.1) a1 r.2.1.length c1) ∧ Und F' (Flat 1 (intsV r.2.2.1) a2 r.2.2.1.length c2) ∧ Und F' (Flat 1 (intsV r.2.2.2.1) a3 r.2.2.2.1.length c3) ∧ St M w0 H F' w'
theorem collect_any (h : HH) (R T K : List Int) (A B RA TA KA : Option Addr) (c d rc tc kc : Nat) (w : World) (hH : Und F (HFl h A c B d)) (hR : Und F (Flat 1 (intsV R) RA R.length rc)) (hT : Und F (Flat 1 (intsV T) TA T.length tc)) (hK : Und F (Flat 1 (intsV K) KA K.length kc)) (hRl : R.length ≤ 1048576) (hTl : T.length ≤ 1048576) (hKl : K.length ≤ 1048576) (hS : St M w0 H F w) :
    Calls Try.prog 27 #[hv h A c B d, .slice RA R.length rc, .slice TA T.length tc, .slice KA K.length kc] w (CRes M w0 H F (collectH h R T K)) := by
  refine goes_enter4 Try.func27 rfl Try.ntmps27 rfl ?_
  refine goes_seq ?_
  refine goes_region ?_
  refine lst_box hS rfl rfl ?_
  clear hS
  intro b1 wx1 hS
  refine lst_alloc (cs := [_, _]) hS rfl rfl rfl ?_
  clear hS
  intro b2 wx2 hS
  refine lst_run (run_assign (by conv => lhs; whnf)) rfl ?_
  refine lst_run (run_assign (by conv => lhs; whnf)) rfl ?_
  refine lst_run (run_assign (by conv => lhs; whnf)) rfl ?_
  refine lst_run (run_assign (by conv => lhs; whnf)) rfl ?_
  refine lst_done ?_
  refine goes_seq ?_
  refine goes_region ?_
  first
    | refine lst_run (run_loadN_own (k := 2) hS rfl rfl rfl (by first | exact .head | exact .tail .head | exact .tail (.tail .head) | exact .tail (.tail (.tail .head)) | exact .tail (.tail (.tail (.tail .head))) | exact .tail (.tail (.tail (.tail (.tail .head))))) (by repeat constructor)) rfl ?_
    | refine lst_run (run_load2 rfl rfl rfl (by first | assumption | exact hS.cell0 (by assumption)) (by first | assumption | exact hS.cell0 (by assumption))) rfl ?_
  refine lst_run (run_move (by conv => lhs; whnf)) rfl ?_
  cases hg : goodH h with
  | false =>
    have e0 : collectH h R T K = (h, [], [], [], 1) := by unfold collectH; rw [if_pos hg]
    rw [e0]
    refine lst_enter (run_call (by kernel_rfl) (args_2 (by conv => lhs; whnf) (by conv => lhs; whnf))) rfl ?_
    refine Calls.mono (marks_bad h R A B RA c d rc _ hg hH hR (by omega) hS) ?_
    rintro _ w2 ⟨A2, c2, F2, rfl, hF2, hS'⟩
    refine ⟨_, rfl, ?_⟩
    replace hS := hS'
    clear hS'
    refine lst_run (run_move (by conv => lhs; whnf)) rfl ?_
    refine lst_run (run_extract rfl rfl) rfl ?_
    refine lst_run (run_extract rfl rfl) rfl ?_
    refine lst_run (run_assign (by conv => lhs; whnf)) rfl ?_
    refine lst_run (run_assign (by conv => lhs; whnf)) rfl ?_
    refine lst_done ?_
    refine goes_seq ?_
    refine goes_seq ?_
    refine goes_region ?_
    refine lst_run (run_move (by conv => lhs; whnf)) rfl ?_
    first
      | refine lst_run (run_neq_one_int rfl rfl) rfl ?_
      | refine lst_run (run_neq_no rfl rfl (by first | assumption | omega)) rfl ?_
      | refine lst_run (run_neq_yes rfl rfl (by omega)) rfl ?_
      | refine lst_run (rfl) rfl ?_
    refine lst_done ?_
    refine goes_true rfl ?_
    refine goes_seq ?_
    refine goes_region ?_
    first
      | refine lst_run (run_loadN_own (k := 2) hS rfl rfl rfl (by first | exact .head | exact .tail .head | exact .tail (.tail .head) | exact .tail (.tail (.tail .head)) | exact .tail (.tail (.tail (.tail .head))) | exact .tail (.tail (.tail (.tail (.tail .head))))) (by repeat constructor)) rfl ?_
      | refine lst_run (run_load2 rfl rfl rfl (by first | assumption | exact hS.cell0 (by assumption)) (by first | assumption | exact hS.cell0 (by assumption))) rfl ?_
    refine lst_run (run_move (by conv => lhs; whnf)) rfl ?_
    refine lst_storeN hS rfl (by conv => lhs; whnf) rfl rfl (by first | exact .head | exact .tail .head | exact .tail (.tail .head) | exact .tail (.tail (.tail .head)) | exact .tail (.tail (.tail (.tail .head))) | exact .tail (.tail (.tail (.tail (.tail .head))))) (by repeat constructor) (by first | exact .head | exact .tail .head | exact .tail (.tail .head) | exact .tail (.tail (.tail .head)) | exact .tail (.tail (.tail (.tail .head))) | exact .tail (.tail (.tail (.tail (.tail .head))))) ?_
    clear hS
    intro wx3 hS
    refine lst_run (run_assign (by conv => lhs; whnf)) rfl ?_
    refine lst_run (run_assign (by conv => lhs; whnf)) rfl ?_
    refine lst_run (run_assign (by conv => lhs; whnf)) rfl ?_
    refine lst_run (run_assign (by conv => lhs; whnf)) rfl ?_
    refine lst_done ?_
    refine goes_retC5 (sz := 2) hS Try.func27 rfl rfl (by conv => lhs; whnf) (by conv => lhs; whnf) (by conv => lhs; whnf) (by conv => lhs; whnf) rfl rfl (by first | exact .head | exact .tail .head | exact .tail (.tail .head) | exact .tail (.tail (.tail .head)) | exact .tail (.tail (.tail (.tail .head))) | exact .tail (.tail (.tail (.tail (.tail .head))))) (by repeat constructor) ?_
    exact ⟨A, c, B, d, none, none, none, 0, 0, 0, F2, rfl, hF2, hH.mono hF2, fun w _ => Flat.nil_ _ _ _, fun w _ => Flat.nil_ _ _ _, fun w _ => Flat.nil_ _ _ _, hS.drop.drop⟩
  | true =>
  obtain ⟨hl1, hl2⟩ := good_len hg
  have hgl : goodL h.cs.length h.cs = true := by
    unfold goodH goodCs at hg
    simp only [Bool.and_eq_true] at hg
    exact hg.1.2
  have hml : (marksM h.cs R).length = h.cs.length := (marksM_of h.cs R).1
  have htr : ∀ a ∈ h.tr, 0 ≤ a ∧ a < h.cs.length := fun a ha => by
    obtain ⟨x, hx, _⟩ := tr_good hg ha
    have := hatS.1 hx
    exact ⟨this.1, this.2.1⟩
  have e0 : collectH h R T K = if R.all (isAddr h.cs) = false then (h, [], [], [], 4)
    else (⟨collL (marksM h.cs R) h.cs, collT (marksM h.cs R) h.tr⟩, R.map (rkI (marksM h.cs R)), T.map (rkI (marksM h.cs R)), K.map (rkI (h.tr.map (markAt (marksM h.cs R)))), 0) := by unfold collectH; rw [if_neg (by rw [hg]; decide)]
  rw [e0]
  clear e0
  refine lst_enter (run_call (by kernel_rfl) (args_2 (by conv => lhs; whnf) (by conv => lhs; whnf))) rfl ?_
  refine Calls.mono (marks_good h R A B RA c d rc _ hg hH hR (by omega) hS) ?_
  rintro _ w2 ⟨A2, c2, F2, rfl, hF2, hM2, hS'⟩
  refine ⟨_, rfl, ?_⟩
  replace hS := hS'
  clear hS'
  generalize marksM h.cs R = Mk at *
  have hH2 := hH.mono hF2
  have hR2 := hR.mono hF2
  refine lst_run (run_move (by conv => lhs; whnf)) rfl ?_
  refine lst_run (run_extract rfl rfl) rfl ?_
  refine lst_run (run_extract rfl rfl) rfl ?_
  refine lst_run (run_assign (by conv => lhs; whnf)) rfl ?_
  refine lst_run (run_assign (by conv => lhs; whnf)) rfl ?_
  refine lst_done ?_
  refine goes_seq ?_
  refine goes_seq ?_
  refine goes_region ?_
  refine lst_run (run_move (by conv => lhs; whnf)) rfl ?_
  first
    | refine lst_run (run_neq_one_int rfl rfl) rfl ?_
    | refine lst_run (run_neq_no rfl rfl (by first | assumption | omega)) rfl ?_
    | refine lst_run (run_neq_yes rfl rfl (by omega)) rfl ?_
    | refine lst_run (rfl) rfl ?_
  refine lst_done ?_
  refine goes_false rfl ?_
  refine goes_skip ?_
  refine goes_seq ?_
  refine goes_seq ?_
  refine goes_region ?_
  refine lst_run (run_move (by conv => lhs; whnf)) rfl ?_
  refine lst_run (run_len_slice rfl rfl rfl) rfl ?_
  refine lst_run (run_move (by conv => lhs; whnf)) rfl ?_
  refine lst_done ?_
  refine goes_block ?_
  refine goes_loop1 35 (36 :: 37 :: 38 :: 16 :: 39 :: 40 :: 41 :: 42 :: 43 :: 9 :: 10 :: 11 :: 12 :: 44 :: []) (fun (Q : List Int) v w' => ∃ (D : List Int), R = D ++ Q ∧ v = .int .i64 (D.length : Nat) ∧ (∀ r ∈ D, isAddr h.cs r = true) ∧ St M w0 ((b2, hob none 0 0 none 0 0) :: (b1, hob A h.cs.length c B h.tr.length d) :: H) F2 w') (fun Q => Q.length) (R) ?_ (by conv => lhs; whnf) ?_
  · exact ⟨[], rfl, rfl, fun r hr => by simp at hr, hS⟩
  clear hS
  rintro Q _ w4 jv ⟨D, hD, rfl, hrt, hS⟩ ih
  have hlen : R.length = D.length + Q.length := by rw [hD]; simp
  cases Q with
  | cons x Q =>
    simp only [List.length_cons] at hlen
    have hxi : R[D.length]? = some x := by rw [hD]; simp
    obtain ⟨bt, ot, rfl⟩ := (hS.und hR2).some_ (by omega)
    have hct : ∀ {H'} w', St M w0 H' F2 w' → w'.cell? ⟨bt, ot + ((D.length : Nat) : Int).toNat * 1, none⟩ = some (.int .i64 x) := fun w' hS => by
      have := (hS.und hR2).int hxi
      rw [show ((D.length : Nat) : Int).toNat = D.length by omega]; exact this
    refine goes_seq ?_
    refine goes_region ?_
    first
      | refine lst_run (run_lss_yes rfl rfl (by omega)) rfl ?_
      | refine lst_run (run_lss_no rfl rfl (by omega)) rfl ?_
      | refine lst_run (rfl) rfl ?_
    refine lst_done ?_
    refine goes_seq ?_
    refine goes_true rfl ?_
    refine goes_skip ?_
    refine goes_seq ?_
    refine goes_block ?_
    refine goes_seq ?_
    refine goes_region ?_
    refine lst_run (run_indexAddr (sz := 1) rfl rfl rfl rfl (by omega) (by omega)) rfl ?_
    first
      | refine lst_run (run_load1_own hS rfl rfl (by first | exact .head | exact .tail .head | exact .tail (.tail .head) | exact .tail (.tail (.tail .head)) | exact .tail (.tail (.tail (.tail .head))) | exact .tail (.tail (.tail (.tail (.tail .head))))) (by repeat constructor)) rfl ?_
      | refine lst_run (run_load1 rfl rfl (by first | assumption | exact hct _ hS | exact hS.cell0 (by assumption) | exact lv_next hS | exact lv_list hS)) rfl ?_
    refine lst_run (run_assign (by conv => lhs; whnf)) rfl ?_
    refine lst_done ?_
    refine goes_seq ?_
    refine goes_region ?_
    first
      | refine lst_run (run_loadN_own (k := 2) hS rfl rfl rfl (by first | exact .head | exact .tail .head | exact .tail (.tail .head) | exact .tail (.tail (.tail .head)) | exact .tail (.tail (.tail (.tail .head))) | exact .tail (.tail (.tail (.tail (.tail .head))))) (by repeat constructor)) rfl ?_
      | refine lst_run (run_load2 rfl rfl rfl (by first | assumption | exact hct _ hS | exact hS.cell0 (by assumption)) (by first | assumption | exact hct _ hS | exact hS.cell0 (by assumption))) rfl ?_
    refine lst_run (run_move (by conv => lhs; whnf)) rfl ?_
    refine lst_enter (run_call (by kernel_rfl) (args_2 (by conv => lhs; whnf) (by conv => lhs; whnf))) rfl ?_
    refine Calls.mono (address_any h.cs.length c A B h.tr.length d x _) ?_
    rintro _ w5 ⟨rfl, hb5⟩
    refine ⟨_, rfl, ?_⟩
    replace hS := hS.grow hb5
    cases hx : isAddr h.cs x with
    | false =>
      rw [show (decide (0 ≤ x) && decide (x < (h.cs.length : Nat))) = false from hx]
      rw [if_pos (by rw [List.all_eq_false]; exact ⟨x, by rw [hD]; simp, by rw [hx]; decide⟩)]
      refine lst_run (rfl) rfl ?_
      refine lst_done ?_
      refine goes_true rfl ?_
      refine goes_seq ?_
      refine goes_region ?_
      first
        | refine lst_run (run_loadN_own (k := 2) hS rfl rfl rfl (by first | exact .head | exact .tail .head | exact .tail (.tail .head) | exact .tail (.tail (.tail .head)) | exact .tail (.tail (.tail (.tail .head))) | exact .tail (.tail (.tail (.tail (.tail .head))))) (by repeat constructor)) rfl ?_
        | refine lst_run (run_load2 rfl rfl rfl (by first | assumption | exact hct _ hS | exact hS.cell0 (by assumption)) (by first | assumption | exact hct _ hS | exact hS.cell0 (by assumption))) rfl ?_
      refine lst_storeN hS rfl (by conv => lhs; whnf) rfl rfl (by first | exact .head | exact .tail .head | exact .tail (.tail .head) | exact .tail (.tail (.tail .head)) | exact .tail (.tail (.tail (.tail .head))) | exact .tail (.tail (.tail (.tail (.tail .head))))) (by repeat constructor) (by first | exact .head | exact .tail .head | exact .tail (.tail .head) | exact .tail (.tail (.tail .head)) | exact .tail (.tail (.tail (.tail .head))) | exact .tail (.tail (.tail (.tail (.tail .head))))) ?_
      clear hS
      intro wx3 hS
      refine lst_run (run_assign (by conv => lhs; whnf)) rfl ?_
      refine lst_run (run_assign (by conv => lhs; whnf)) rfl ?_
      refine lst_run (run_assign (by conv => lhs; whnf)) rfl ?_
      refine lst_run (run_assign (by conv => lhs; whnf)) rfl ?_
      refine lst_done ?_
      refine goes_retC5 (sz := 2) hS Try.func27 rfl rfl (by conv => lhs; whnf) (by conv => lhs; whnf) (by conv => lhs; whnf) (by conv => lhs; whnf) rfl rfl (by first | exact .head | exact .tail .head | exact .tail (.tail .head) | exact .tail (.tail (.tail .head)) | exact .tail (.tail (.tail (.tail .head))) | exact .tail (.tail (.tail (.tail (.tail .head))))) (by repeat constructor) ?_
      exact ⟨A, c, B, d, none, none, none, 0, 0, 0, F2, rfl, hF2, hH2, fun w _ => Flat.nil_ _ _ _, fun w _ => Flat.nil_ _ _ _, fun w _ => Flat.nil_ _ _ _, hS.drop.drop⟩
    | true =>
      rw [show (decide (0 ≤ x) && decide (x < (h.cs.length : Nat))) = true from hx]
      refine lst_run (rfl) rfl ?_
      refine lst_done ?_
      refine goes_false rfl ?_
      refine goes_skip ?_
      refine goes_inBlock ?_
      refine goes_region ?_
      refine lst_run (run_add rfl rfl (by omega) (by omega)) rfl ?_
      refine lst_run (run_move (by conv => lhs; whnf)) rfl ?_
      refine lst_done ?_
      refine ih (Q) _ _ _ ?_ ?_ (by conv => lhs; whnf) (by kernel_rfl)
      · simp
      · refine ⟨D ++ [x], by rw [hD]; simp, by simp, fun r hr => ?_, hS⟩
        rcases List.mem_append.1 hr with hr | hr
        · exact hrt r hr
        · rw [List.mem_singleton.1 hr]; exact hx
  | nil =>
    simp only [List.length_nil] at hlen
    have hRD : R = D := by simpa using hD
    rw [← hRD] at hrt
    rw [if_neg (by rw [show R.all (isAddr h.cs) = true from List.all_eq_true.2 hrt]; decide)]
    clear hD
    have hTr : Und F2 (Flat 1 (intsV h.tr) B h.tr.length d) := hH2.imp fun _ h => h.2
    have hCs : Und F2 (Flat 3 (hcsL h.cs) A h.cs.length c) := hH2.imp fun _ h => h.1
    refine goes_seq ?_
    refine goes_region ?_
    first
      | refine lst_run (run_lss_yes rfl rfl (by omega)) rfl ?_
      | refine lst_run (run_lss_no rfl rfl (by omega)) rfl ?_
      | refine lst_run (rfl) rfl ?_
    refine lst_done ?_
    refine goes_seq ?_
    refine goes_false rfl ?_
    refine goes_exit rfl ?_
    refine goes_seq ?_
    refine goes_region ?_
    refine lst_run (run_fieldAddr (off := 1) rfl rfl) rfl ?_
    first
      | refine lst_run (run_load1_own hS rfl rfl (by first | exact .head | exact .tail .head | exact .tail (.tail .head) | exact .tail (.tail (.tail .head)) | exact .tail (.tail (.tail (.tail .head))) | exact .tail (.tail (.tail (.tail (.tail .head))))) (by repeat constructor)) rfl ?_
      | refine lst_run (run_load1 rfl rfl (by first | assumption | exact hct _ hS | exact hS.cell0 (by assumption) | exact lv_next hS | exact lv_list hS)) rfl ?_
    refine lst_run (run_len_slice rfl rfl rfl) rfl ?_
    refine lst_makeZ (k := h.tr.length) (bts := 1) (z := .bool false) hS (by conv => lhs; whnf) (by conv => lhs; whnf) rfl rfl rfl rfl (by omega) (by omega) rfl ?_
    clear hS
    intro kb w3 hS
    rw [show List.replicate h.tr.length (Value.bool false) = boolsV (List.replicate h.tr.length false) by simp [boolsV]] at hS
    refine lst_run (run_assign (by conv => lhs; whnf)) rfl ?_
    refine lst_done ?_
    refine goes_seq ?_
    refine goes_seq ?_
    refine goes_region ?_
    refine lst_run (run_fieldAddr (off := 1) rfl rfl) rfl ?_
    first
      | refine lst_run (run_load1_own hS rfl rfl (by first | exact .head | exact .tail .head | exact .tail (.tail .head) | exact .tail (.tail (.tail .head)) | exact .tail (.tail (.tail (.tail .head))) | exact .tail (.tail (.tail (.tail (.tail .head))))) (by repeat constructor)) rfl ?_
      | refine lst_run (run_load1 rfl rfl (by first | assumption | exact hct _ hS | exact hS.cell0 (by assumption) | exact lv_next hS | exact lv_list hS)) rfl ?_
    refine lst_run (run_len_slice rfl rfl rfl) rfl ?_
    refine lst_run (run_move (by conv => lhs; whnf)) rfl ?_
    refine lst_done ?_
    refine goes_block ?_
    refine goes_loop1 52 (53 :: 54 :: 55 :: 56 :: 18 :: 19 :: 57 :: 58 :: 59 :: 60 :: 61 :: 62 :: 63 :: 64 :: []) (fun (Q : List Int) v w' => ∃ (E : List Int) (P : List Bool), h.tr = E ++ Q ∧ v = .int .i64 (E.length : Nat) ∧ P.length = h.tr.length ∧ (∀ (q : Nat) (x : Int), q < E.length → h.tr[q]? = some x → P[q]? = some (markAt Mk x)) ∧ St M w0 ((kb, bbob P) :: (b2, hob none 0 0 none 0 0) :: (b1, hob A h.cs.length c B h.tr.length d) :: H) F2 w') (fun Q => Q.length) (h.tr) ?_ (by conv => lhs; whnf) ?_
    · exact ⟨[], List.replicate h.tr.length false, rfl, rfl, by simp, fun q x hq => by simp at hq, hS⟩
    clear hS
    rintro Q _ w5 jv2 ⟨E, P, hE, rfl, hPl, hP, hS⟩ ih2
    have hlen2 : h.tr.length = E.length + Q.length := by rw [hE]; simp
    cases Q with
    | cons x Q =>
      simp only [List.length_cons] at hlen2
      have hxi : h.tr[E.length]? = some x := by rw [hE]; simp
      obtain ⟨hx0, hx1⟩ := htr x (List.mem_of_getElem? hxi)
      obtain ⟨v, hv⟩ : ∃ v, Mk[x.toNat]? = some v := ⟨Mk[x.toNat]'(by omega), List.getElem?_eq_getElem _⟩
      have hvm := markAt_get hv
      obtain ⟨bt, ot, rfl⟩ := (hS.und hTr).some_ (by omega)
      obtain ⟨bm, om, rfl⟩ := (hS.und hM2).some_ (by omega)
      have hct : ∀ {H'} w', St M w0 H' F2 w' → w'.cell? ⟨bt, ot + ((E.length : Nat) : Int).toNat * 1, none⟩ = some (.int .i64 x) := fun w' hS => by
        have := (hS.und hTr).int hxi
        rw [show ((E.length : Nat) : Int).toNat = E.length by omega]; exact this
      have hcm : ∀ {H'} w', St M w0 H' F2 w' → w'.cell? ⟨bm, om + x.toNat * 1, none⟩ = some (.bool v) := fun w' hS => (hS.und hM2).bool hv
      have hput := boolsV_put P E.length v (by omega)
      refine goes_seq ?_
      refine goes_region ?_
      first
        | refine lst_run (run_lss_yes rfl rfl (by omega)) rfl ?_
        | refine lst_run (run_lss_no rfl rfl (by omega)) rfl ?_
        | refine lst_run (rfl) rfl ?_
      refine lst_done ?_
      refine goes_seq ?_
      refine goes_true rfl ?_
      refine goes_skip ?_
      refine goes_seq ?_
      refine goes_block ?_
      refine goes_seq ?_
      refine goes_region ?_
      refine lst_run (run_move (by conv => lhs; whnf)) rfl ?_
      refine lst_run (run_indexAddr (sz := 1) rfl rfl rfl rfl (by omega) (by omega)) rfl ?_
      first
        | refine lst_run (run_load1_own hS rfl rfl (by first | exact .head | exact .tail .head | exact .tail (.tail .head) | exact .tail (.tail (.tail .head)) | exact .tail (.tail (.tail (.tail .head))) | exact .tail (.tail (.tail (.tail (.tail .head))))) (by repeat constructor)) rfl ?_
        | refine lst_run (run_load1 rfl rfl (by first | assumption | exact hct _ hS | exact hcm _ hS | exact hS.cell0 (by assumption) | exact lv_next hS | exact lv_list hS)) rfl ?_
      refine lst_run (run_assign (by conv => lhs; whnf)) rfl ?_
      refine lst_run (run_assign (by conv => lhs; whnf)) rfl ?_
      refine lst_done ?_
      refine goes_region ?_
      refine lst_run (run_move (by conv => lhs; whnf)) rfl ?_
      refine lst_run (run_move (by conv => lhs; whnf)) rfl ?_
      refine lst_run (run_move (by conv => lhs; whnf)) rfl ?_
      refine lst_run (run_move (by conv => lhs; whnf)) rfl ?_
      refine lst_run (run_indexAddr (sz := 1) rfl rfl rfl rfl (by omega) (by omega)) rfl ?_
      first
        | refine lst_run (run_load1_own hS rfl rfl (by first | exact .head | exact .tail .head | exact .tail (.tail .head) | exact .tail (.tail (.tail .head)) | exact .tail (.tail (.tail (.tail .head))) | exact .tail (.tail (.tail (.tail (.tail .head))))) (by repeat constructor)) rfl ?_
        | refine lst_run (run_load1 rfl rfl (by first | assumption | exact hct _ hS | exact hcm _ hS | exact hS.cell0 (by assumption) | exact lv_next hS | exact lv_list hS)) rfl ?_
      refine lst_run (run_indexAddr (sz := 1) rfl rfl rfl rfl (by omega) (by omega)) rfl ?_
      refine lst_store1 hS rfl (by conv => lhs; whnf) rfl rfl .head (by rw [show ((E.length : Nat) : Int).toNat = E.length by omega, Nat.zero_add, Nat.mul_one]; exact hput) .head ?_
      clear hS
      intro w6 hS
      refine lst_done ?_
      refine goes_inBlock ?_
      refine goes_region ?_
      refine lst_run (run_add rfl rfl (by omega) (by omega)) rfl ?_
      refine lst_run (run_move (by conv => lhs; whnf)) rfl ?_
      refine lst_done ?_
      refine ih2 Q _ _ _ ?_ ?_ (by conv => lhs; whnf) (by kernel_rfl)
      · simp
      · refine ⟨E ++ [x], _, by rw [hE]; simp, by simp, by simpa using hPl, fun q y hq hy => ?_, hS⟩
        rw [List.length_append] at hq
        simp only [List.length_cons, List.length_nil] at hq
        rw [List.getElem?_set]
        split
        · rename_i e
          rw [if_pos (by omega)]
          rw [← e, hxi] at hy
          rw [← Option.some.inj hy, hvm]
        · exact hP q y (by omega) hy
    | nil =>
      simp only [List.length_nil] at hlen2
      have hPe : P = h.tr.map (markAt Mk) := by
        refine List.ext_getElem? fun q => ?_
        rw [List.getElem?_map]
        cases hq : h.tr[q]? with
        | none =>
          have : h.tr.length ≤ q := by
            rcases Nat.lt_or_ge q h.tr.length with g | g
            · rw [List.getElem?_eq_getElem g] at hq; cases hq
            · exact g
          rw [List.getElem?_eq_none (by omega)]; rfl
        | some x =>
          have : q < h.tr.length := by
            rcases Nat.lt_or_ge q h.tr.length with g | g
            · exact g
            · rw [List.getElem?_eq_none g] at hq; cases hq
          rw [hP q x (by omega) hq]; rfl
      replace hS := St.freezeB hS
      rw [hPe] at hS
      have hNl : (h.tr.map (markAt Mk)).length = h.tr.length := by simp
      have hN : Und (Flat 1 (boolsV (h.tr.map (markAt Mk))) (some ⟨kb, 0, none⟩) (h.tr.map (markAt Mk)).length (h.tr.map (markAt Mk)).length :: F2) (Flat 1 (boolsV (h.tr.map (markAt Mk))) (some ⟨kb, 0, none⟩) (h.tr.map (markAt Mk)).length (h.tr.map (markAt Mk)).length) := Und.head
      have hFa : ∀ φ ∈ F2, φ ∈ (Flat 1 (boolsV (h.tr.map (markAt Mk))) (some ⟨kb, 0, none⟩) (h.tr.map (markAt Mk)).length (h.tr.map (markAt Mk)).length :: F2) := fun φ h => .tail _ h
      generalize (Flat 1 (boolsV (h.tr.map (markAt Mk))) (some ⟨kb, 0, none⟩) (h.tr.map (markAt Mk)).length (h.tr.map (markAt Mk)).length :: F2) = F3 at *
      rw [show collT Mk h.tr = (kept h.tr (h.tr.map (markAt Mk))).map (rkI Mk) from rfl]
      rw [hNl] at hN
      generalize hNg : h.tr.map (markAt Mk) = N at *
      refine goes_seq ?_
      refine goes_region ?_
      first
        | refine lst_run (run_lss_yes rfl rfl (by omega)) rfl ?_
        | refine lst_run (run_lss_no rfl rfl (by omega)) rfl ?_
        | refine lst_run (rfl) rfl ?_
      refine lst_done ?_
      refine goes_seq ?_
      refine goes_false rfl ?_
      refine goes_exit rfl ?_
      refine goes_seq ?_
      refine goes_region ?_
      refine lst_run (run_move (by conv => lhs; whnf)) rfl ?_
      refine lst_enter (run_call (by kernel_rfl) (args_1 (by conv => lhs; whnf))) rfl ?_
      refine Calls.mono (sums_any Mk A2 c2 _ (hM2.mono hFa) (by omega) hS) ?_
      rintro _ w6 ⟨A6, c6, F6, rfl, hF6, hS6, hS'⟩
      refine ⟨_, rfl, ?_⟩
      replace hS := hS'
      clear hS'
      refine lst_run (run_move (by conv => lhs; whnf)) rfl ?_
      refine lst_enter (run_call (by kernel_rfl) (args_1 (by conv => lhs; whnf))) rfl ?_
      refine Calls.mono (sums_n N h.tr.length hNl _ _ _ (hN.mono hF6) (by omega) hS) ?_
      rintro _ w7 ⟨A7, c7, F7, rfl, hF7, hS7, hS'⟩
      refine ⟨_, rfl, ?_⟩
      replace hS := hS'
      clear hS'
      have hF27 : ∀ φ ∈ F2, φ ∈ F7 := fun φ h => hF7 φ (hF6 φ (hFa φ h))
      have hS6' := hS6.mono hF7
      refine lst_run (run_assign (by conv => lhs; whnf)) rfl ?_
      refine lst_run (run_assign (by conv => lhs; whnf)) rfl ?_
      refine lst_done ?_
      refine goes_seq ?_
      refine goes_meet1 22 (69 :: 70 :: 71 :: 72 :: 73 :: 74 :: 75 :: 76 :: 77 :: 78 :: 79 :: []) (fun v w' => ∃ b3 A8 c8 A9 c9 F9, v = .pointer (some ⟨b3, 0, none⟩) ∧ (∀ φ ∈ F7, φ ∈ F9) ∧ Und F9 (Flat 3 (hcsL (collL Mk h.cs)) A8 (collL Mk h.cs).length c8) ∧ Und F9 (Flat 1 (intsV ((kept h.tr N).map (rkI Mk))) A9 ((kept h.tr N).map (rkI Mk)).length c9) ∧ St M w0 ((b3, hob A8 (collL Mk h.cs).length c8 A9 ((kept h.tr N).map (rkI Mk)).length c9) :: (b2, hob none 0 0 none 0 0) :: (b1, hob A h.cs.length c B h.tr.length d) :: H) F9 w') ?_ ?_
      · intro hmeet
        refine goes_plan (St _ _ _ _) 12 (.read 0 (.read 1 (.read 2 (.read 3 (.read 5 (.read 6 (.read 7 (.read 8 (.pick 4 (.pick 9 (.read 10 (.pick 11 .tail .none)) (.pick 11 (.pick 9 (.read 10 .tail) .none) .none)) (.pick 11 (.pick 4 (.pick 9 (.read 10 .tail) .none) .none) .none)))))))))) (by kernel_rfl) (by kernel_rfl) hS.drew ?_
        replace hS := hS.drew
        refine pln_read rfl (fun _ hS => run_fieldAddr (off := 0) rfl rfl) rfl ?_
        first
          | refine pln_read rfl (fun _ hS => run_load1_own hS rfl rfl (by first | exact .head | exact .tail .head | exact .tail (.tail .head) | exact .tail (.tail (.tail .head)) | exact .tail (.tail (.tail (.tail .head))) | exact .tail (.tail (.tail (.tail (.tail .head))))) (by repeat constructor)) rfl ?_
          | refine pln_read rfl (fun _ hS => run_load1 rfl rfl (by first | assumption | exact hct _ hS | exact hcm _ hS | exact hS.cell0 (by assumption) | exact lv_next hS | exact lv_list hS)) rfl ?_
        refine pln_read rfl (fun _ hS => run_move (by conv => lhs; whnf)) rfl ?_
        refine pln_read rfl (fun _ hS => run_move (by conv => lhs; whnf)) rfl ?_
        refine pln_read rfl (fun _ hS => run_fieldAddr (off := 1) rfl rfl) rfl ?_
        first
          | refine pln_read rfl (fun _ hS => run_load1_own hS rfl rfl (by first | exact .head | exact .tail .head | exact .tail (.tail .head) | exact .tail (.tail (.tail .head)) | exact .tail (.tail (.tail (.tail .head))) | exact .tail (.tail (.tail (.tail (.tail .head))))) (by repeat constructor)) rfl ?_
          | refine pln_read rfl (fun _ hS => run_load1 rfl rfl (by first | assumption | exact hct _ hS | exact hcm _ hS | exact hS.cell0 (by assumption) | exact lv_next hS | exact lv_list hS)) rfl ?_
        refine pln_read rfl (fun _ hS => run_move (by conv => lhs; whnf)) rfl ?_
        refine pln_read rfl (fun _ hS => run_move (by conv => lhs; whnf)) rfl ?_
        refine pln_pick rfl ?_ ?_
        · refine lst_enter (run_call (by kernel_rfl) (args_3 (by conv => lhs; whnf) (by conv => lhs; whnf) (by conv => lhs; whnf))) rfl ?_
          refine Calls.mono (keepCells_any h.cs Mk A A2 A6 c c2 c6 _ (hCs.mono hF27) (hM2.mono hF27) hS6' hgl hl1 hml hS) ?_
          rintro _ w8 ⟨A8, c8, F8, rfl, hF8, hC8, hS'⟩
          refine ⟨_, rfl, ?_⟩
          replace hS := hS'
          clear hS'
          refine lst_pln (by first | exact hS | exact hS.drop | exact hS.drop.drop | exact hS.drop.drop.drop | exact hS.unlearn | exact hS.unlearn.drop | exact hS.unlearn.drop.drop | exact hS.forget hF8 | exact hS.drop.forget hF8 | exact hS.forget (fun φ h => hF9 φ (hF8 φ h)) | exact hS.drop.forget (fun φ h => hF9 φ (hF8 φ h))) ?_
          refine pln_pick rfl ?_ ?_
          · refine lst_enter (run_call (by kernel_rfl) (args_3 (by conv => lhs; whnf) (by conv => lhs; whnf) (by conv => lhs; whnf))) rfl ?_
            refine Calls.mono (keepTrail_n h.tr N Mk h.tr.length hNl B _ A6 d _ c6 _ ((hTr.mono hF27).mono hF8) ((hN.mono (fun φ h => hF7 φ (hF6 φ h))).mono hF8) (hS6'.mono hF8) (fun a ha => by rw [hml]; exact htr a ha) hl2 rfl hS) ?_
            rintro _ w9 ⟨A9, c9, F9, rfl, hF9, hC9, hS'⟩
            refine ⟨_, rfl, ?_⟩
            replace hS := hS'
            clear hS'
            refine lst_pln (by first | exact hS | exact hS.drop | exact hS.drop.drop | exact hS.drop.drop.drop | exact hS.unlearn | exact hS.unlearn.drop | exact hS.unlearn.drop.drop | exact hS.forget hF8 | exact hS.drop.forget hF8 | exact hS.forget (fun φ h => hF9 φ (hF8 φ h)) | exact hS.drop.forget (fun φ h => hF9 φ (hF8 φ h))) ?_
            refine pln_read rfl (fun _ hS => run_build (cells := [_, _]) (.cons (by conv => lhs; whnf) (.cons (by conv => lhs; whnf) .nil)) rfl) rfl ?_
            refine pln_last rfl ?_
            refine lst_alloc (cs := [_, _]) hS rfl rfl rfl ?_
            clear hS
            intro b3 wx3 hS
            refine lst_pln (by first | exact hS | exact hS.drop | exact hS.drop.drop | exact hS.drop.drop.drop | exact hS.unlearn | exact hS.unlearn.drop | exact hS.unlearn.drop.drop | exact hS.forget hF8 | exact hS.drop.forget hF8 | exact hS.forget (fun φ h => hF9 φ (hF8 φ h)) | exact hS.drop.forget (fun φ h => hF9 φ (hF8 φ h))) ?_
            refine pln_tail ?_
            refine lst_storeN hS rfl (by conv => lhs; whnf) rfl rfl (by first | exact .head | exact .tail .head | exact .tail (.tail .head) | exact .tail (.tail (.tail .head)) | exact .tail (.tail (.tail (.tail .head))) | exact .tail (.tail (.tail (.tail (.tail .head))))) (by repeat constructor) (by first | exact .head | exact .tail .head | exact .tail (.tail .head) | exact .tail (.tail (.tail .head)) | exact .tail (.tail (.tail (.tail .head))) | exact .tail (.tail (.tail (.tail (.tail .head))))) ?_
            clear hS
            intro wx4 hS
            refine lst_done ?_
            exact hmeet _ _ _ ⟨_, A8, c8, A9, c9, F9, rfl, fun φ h => hF9 φ (hF8 φ h), hC8.mono hF9, hC9, hS⟩ (by conv => lhs; whnf) (by kernel_rfl)
          refine pln_last rfl ?_
          refine lst_alloc (cs := [_, _]) hS rfl rfl rfl ?_
          clear hS
          intro b4 wx5 hS
          refine lst_pln (by first | exact hS | exact hS.drop | exact hS.drop.drop | exact hS.drop.drop.drop | exact hS.unlearn | exact hS.unlearn.drop | exact hS.unlearn.drop.drop | exact hS.forget hF8 | exact hS.drop.forget hF8 | exact hS.forget (fun φ h => hF9 φ (hF8 φ h)) | exact hS.drop.forget (fun φ h => hF9 φ (hF8 φ h))) ?_
          refine pln_last rfl ?_
          refine lst_enter (run_call (by kernel_rfl) (args_3 (by conv => lhs; whnf) (by conv => lhs; whnf) (by conv => lhs; whnf))) rfl ?_
          refine Calls.mono (keepTrail_n h.tr N Mk h.tr.length hNl B _ A6 d _ c6 _ ((hTr.mono hF27).mono hF8) ((hN.mono (fun φ h => hF7 φ (hF6 φ h))).mono hF8) (hS6'.mono hF8) (fun a ha => by rw [hml]; exact htr a ha) hl2 rfl hS) ?_
          rintro _ w9 ⟨A9, c9, F9, rfl, hF9, hC9, hS'⟩
          refine ⟨_, rfl, ?_⟩
          replace hS := hS'
          clear hS'
          refine lst_pln (by first | exact hS | exact hS.drop | exact hS.drop.drop | exact hS.drop.drop.drop | exact hS.unlearn | exact hS.unlearn.drop | exact hS.unlearn.drop.drop | exact hS.forget hF8 | exact hS.drop.forget hF8 | exact hS.forget (fun φ h => hF9 φ (hF8 φ h)) | exact hS.drop.forget (fun φ h => hF9 φ (hF8 φ h))) ?_
          refine pln_read rfl (fun _ hS => run_build (cells := [_, _]) (.cons (by conv => lhs; whnf) (.cons (by conv => lhs; whnf) .nil)) rfl) rfl ?_
          refine pln_tail ?_
          refine lst_storeN hS rfl (by conv => lhs; whnf) rfl rfl (by first | exact .head | exact .tail .head | exact .tail (.tail .head) | exact .tail (.tail (.tail .head)) | exact .tail (.tail (.tail (.tail .head))) | exact .tail (.tail (.tail (.tail (.tail .head))))) (by repeat constructor) (by first | exact .head | exact .tail .head | exact .tail (.tail .head) | exact .tail (.tail (.tail .head)) | exact .tail (.tail (.tail (.tail .head))) | exact .tail (.tail (.tail (.tail (.tail .head))))) ?_
          clear hS
          intro wx6 hS
          refine lst_done ?_
          exact hmeet _ _ _ ⟨_, A8, c8, A9, c9, F9, rfl, fun φ h => hF9 φ (hF8 φ h), hC8.mono hF9, hC9, hS⟩ (by conv => lhs; whnf) (by kernel_rfl)
        refine pln_last rfl ?_
        refine lst_alloc (cs := [_, _]) hS rfl rfl rfl ?_
        clear hS
        intro b5 wx7 hS
        refine lst_pln (by first | exact hS | exact hS.drop | exact hS.drop.drop | exact hS.drop.drop.drop | exact hS.unlearn | exact hS.unlearn.drop | exact hS.unlearn.drop.drop | exact hS.forget hF8 | exact hS.drop.forget hF8 | exact hS.forget (fun φ h => hF9 φ (hF8 φ h)) | exact hS.drop.forget (fun φ h => hF9 φ (hF8 φ h))) ?_
        refine pln_last rfl ?_
        refine lst_enter (run_call (by kernel_rfl) (args_3 (by conv => lhs; whnf) (by conv => lhs; whnf) (by conv => lhs; whnf))) rfl ?_
        refine Calls.mono (keepCells_any h.cs Mk A A2 A6 c c2 c6 _ (hCs.mono hF27) (hM2.mono hF27) hS6' hgl hl1 hml hS) ?_
        rintro _ w8 ⟨A8, c8, F8, rfl, hF8, hC8, hS'⟩
        refine ⟨_, rfl, ?_⟩
        replace hS := hS'
        clear hS'
        refine lst_pln (by first | exact hS | exact hS.drop | exact hS.drop.drop | exact hS.drop.drop.drop | exact hS.unlearn | exact hS.unlearn.drop | exact hS.unlearn.drop.drop | exact hS.forget hF8 | exact hS.drop.forget hF8 | exact hS.forget (fun φ h => hF9 φ (hF8 φ h)) | exact hS.drop.forget (fun φ h => hF9 φ (hF8 φ h))) ?_
        refine pln_last rfl ?_
        refine lst_enter (run_call (by kernel_rfl) (args_3 (by conv => lhs; whnf) (by conv => lhs; whnf) (by conv => lhs; whnf))) rfl ?_
        refine Calls.mono (keepTrail_n h.tr N Mk h.tr.length hNl B _ A6 d _ c6 _ ((hTr.mono hF27).mono hF8) ((hN.mono (fun φ h => hF7 φ (hF6 φ h))).mono hF8) (hS6'.mono hF8) (fun a ha => by rw [hml]; exact htr a ha) hl2 rfl hS) ?_
        rintro _ w9 ⟨A9, c9, F9, rfl, hF9, hC9, hS'⟩
        refine ⟨_, rfl, ?_⟩
        replace hS := hS'
        clear hS'
        refine lst_pln (by first | exact hS | exact hS.drop | exact hS.drop.drop | exact hS.drop.drop.drop | exact hS.unlearn | exact hS.unlearn.drop | exact hS.unlearn.drop.drop | exact hS.forget hF8 | exact hS.drop.forget hF8 | exact hS.forget (fun φ h => hF9 φ (hF8 φ h)) | exact hS.drop.forget (fun φ h => hF9 φ (hF8 φ h))) ?_
        refine pln_read rfl (fun _ hS => run_build (cells := [_, _]) (.cons (by conv => lhs; whnf) (.cons (by conv => lhs; whnf) .nil)) rfl) rfl ?_
        refine pln_tail ?_
        refine lst_storeN hS rfl (by conv => lhs; whnf) rfl rfl (by first | exact .head | exact .tail .head | exact .tail (.tail .head) | exact .tail (.tail (.tail .head)) | exact .tail (.tail (.tail (.tail .head))) | exact .tail (.tail (.tail (.tail (.tail .head))))) (by repeat constructor) (by first | exact .head | exact .tail .head | exact .tail (.tail .head) | exact .tail (.tail (.tail .head)) | exact .tail (.tail (.tail (.tail .head))) | exact .tail (.tail (.tail (.tail (.tail .head))))) ?_
        clear hS
        intro wx8 hS
        refine lst_done ?_
        exact hmeet _ _ _ ⟨_, A8, c8, A9, c9, F9, rfl, fun φ h => hF9 φ (hF8 φ h), hC8.mono hF9, hC9, hS⟩ (by conv => lhs; whnf) (by kernel_rfl)
      clear hS
      rintro jv3 _ w9 ⟨b3, A8, c8, A9, c9, F9, rfl, hF9, hC8, hC9, hS⟩
      have hF29 : ∀ φ ∈ F2, φ ∈ F9 := fun φ h => hF9 φ (hF27 φ h)
      refine goes_seq ?_
      refine goes_draw (St _ w0 [_] []) 15 ((0, true) :: (1, true) :: (2, true) :: (4, true) :: (5, true) :: (7, true) :: (8, true) :: (3, false) :: (6, false) :: (9, false) :: (10, false) :: (11, true) :: (12, true) :: (13, true) :: (14, true) :: []) (by kernel_rfl) (by kernel_rfl) (hS.drew.bare1) ?_
      replace hS := hS.drew
      first
        | refine ord_read rfl (fun _ hS => run_loadN_own (k := 2) hS rfl rfl rfl (by first | exact .head | exact .tail .head | exact .tail (.tail .head) | exact .tail (.tail (.tail .head)) | exact .tail (.tail (.tail (.tail .head))) | exact .tail (.tail (.tail (.tail (.tail .head))))) (by repeat constructor)) rfl ?_
        | refine ord_read rfl (fun _ hS => run_load2 rfl rfl rfl (by first | assumption | exact hct _ hS | exact hcm _ hS | exact hS.cell0 (by assumption)) (by first | assumption | exact hct _ hS | exact hcm _ hS | exact hS.cell0 (by assumption))) rfl ?_
      refine ord_read rfl (fun _ hS => run_move (by conv => lhs; whnf)) rfl ?_
      refine ord_read rfl (fun _ hS => run_move (by conv => lhs; whnf)) rfl ?_
      refine ord_read rfl (fun _ hS => run_move (by conv => lhs; whnf)) rfl ?_
      refine ord_read rfl (fun _ hS => run_move (by conv => lhs; whnf)) rfl ?_
      refine ord_read rfl (fun _ hS => run_move (by conv => lhs; whnf)) rfl ?_
      refine ord_read rfl (fun _ hS => run_move (by conv => lhs; whnf)) rfl ?_
      refine ord_act rfl ?_
      refine lst_enter (run_call (by kernel_rfl) (args_2 (by conv => lhs; whnf) (by conv => lhs; whnf))) rfl ?_
      refine Calls.mono (counts_any Mk R A6 RA c6 rc _ (hS6'.mono hF9) (hR2.mono hF29) (by omega) hRl hS) ?_
      rintro _ w10 ⟨A10, c10, F10, rfl, hF10, hC10, hS'⟩
      refine ⟨_, rfl, ?_⟩
      replace hS := hS'
      clear hS'
      refine lst_ord (by first | exact hS.bare1 | exact hS.drop.bare1 | exact hS.drop.drop.bare1) ?_
      refine ord_act rfl ?_
      refine lst_enter (run_call (by kernel_rfl) (args_2 (by conv => lhs; whnf) (by conv => lhs; whnf))) rfl ?_
      refine Calls.mono (counts_any Mk T A6 TA c6 tc _ ((hS6'.mono hF9).mono hF10) (hT.mono fun φ h => hF10 φ (hF29 φ (hF2 φ h))) (by omega) hTl hS) ?_
      rintro _ w11 ⟨A11, c11, F11, rfl, hF11, hC11, hS'⟩
      refine ⟨_, rfl, ?_⟩
      replace hS := hS'
      clear hS'
      refine lst_ord (by first | exact hS.bare1 | exact hS.drop.bare1 | exact hS.drop.drop.bare1) ?_
      refine ord_act rfl ?_
      refine lst_enter (run_call (by kernel_rfl) (args_2 (by conv => lhs; whnf) (by conv => lhs; whnf))) rfl ?_
      refine Calls.mono (counts_n N h.tr.length hNl K A7 KA c7 kc _ (hS7.mono fun φ h => hF11 φ (hF10 φ (hF9 φ h))) (hK.mono fun φ h => hF11 φ (hF10 φ (hF29 φ (hF2 φ h)))) (by omega) hKl hS) ?_
      rintro _ w12 ⟨A12, c12, F12, rfl, hF12, hC12, hS'⟩
      refine ⟨_, rfl, ?_⟩
      replace hS := hS'
      clear hS'
      refine lst_ord (by first | exact hS.bare1 | exact hS.drop.bare1 | exact hS.drop.drop.bare1) ?_
      refine ord_act rfl ?_
      refine lst_storeN hS rfl (by conv => lhs; whnf) rfl rfl (by first | exact .head | exact .tail .head | exact .tail (.tail .head) | exact .tail (.tail (.tail .head)) | exact .tail (.tail (.tail (.tail .head))) | exact .tail (.tail (.tail (.tail (.tail .head))))) (by repeat constructor) (by first | exact .head | exact .tail .head | exact .tail (.tail .head) | exact .tail (.tail (.tail .head)) | exact .tail (.tail (.tail (.tail .head))) | exact .tail (.tail (.tail (.tail (.tail .head))))) ?_
      clear hS
      intro wx9 hS
      refine lst_ord (by first | exact hS.bare1 | exact hS.drop.bare1 | exact hS.drop.drop.bare1) ?_
      refine ord_read rfl (fun _ hS => run_assign (by conv => lhs; whnf)) rfl ?_
      refine ord_read rfl (fun _ hS => run_assign (by conv => lhs; whnf)) rfl ?_
      refine ord_read rfl (fun _ hS => run_assign (by conv => lhs; whnf)) rfl ?_
      refine ord_read rfl (fun _ hS => run_assign (by conv => lhs; whnf)) rfl ?_
      refine ord_end ?_
      refine lst_done ?_
      refine goes_retC5 (sz := 2) hS Try.func27 rfl rfl (by conv => lhs; whnf) (by conv => lhs; whnf) (by conv => lhs; whnf) (by conv => lhs; whnf) rfl rfl (by first | exact .head | exact .tail .head | exact .tail (.tail .head) | exact .tail (.tail (.tail .head)) | exact .tail (.tail (.tail (.tail .head))) | exact .tail (.tail (.tail (.tail (.tail .head))))) (by repeat constructor) ?_
      refine ⟨A8, c8, A9, c9, A10, A11, A12, c10, c11, c12, F12, rfl, fun φ h => hF12 φ (hF11 φ (hF10 φ (hF29 φ (hF2 φ h)))), ?_, hC10.mono (fun φ h => hF12 φ (hF11 φ h)), hC11.mono hF12, hC12, hS.drop.drop.drop⟩
      exact fun w' hw => ⟨(hC8.mono fun φ h => hF12 φ (hF11 φ (hF10 φ h))) w' hw, (hC9.mono fun φ h => hF12 φ (hF11 φ (hF10 φ h))) w' hw⟩
end
end Go.Proofs.Ytjicoifjgokoiab
