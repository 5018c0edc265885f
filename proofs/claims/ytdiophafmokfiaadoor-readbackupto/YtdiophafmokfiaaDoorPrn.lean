/-
  Print, walked: the text of a term, out of the printer's list of what is open.
-/
import Derived.Test.YtdiophafmokfiaaDoorPWalk
namespace Go.Proofs.YtdiophafmokfiaaDoor
open Go.RowKit Go.Shelf
set_option linter.unusedVariables false
set_option linter.unusedSimpArgs false
set_option maxRecDepth 100000
set_option maxHeartbeats 1000000

/-- The text of a list of terms; c says whether one stands before it. -/
def outM (c : Bool) : Ts → Str
  | .nil => []
  | .cons k n s a r => (if c then [44] else []) ++ labelM k n s.data.toList ++ (if opens k a then 40 :: (outM false a ++ [41]) else []) ++ outM true r
def rng : Ts → Prop
  | .nil => True
  | .cons k n s a r => (-9223372036854775808 ≤ n ∧ n ≤ 9223372036854775807) ∧ rng a ∧ rng r
abbrev Lw := Value × Ts × Ts
def lev : List Lw → List Lv
  | [] => []
  | (v, D, R) :: K => lev K ++ [⟨v, D.app R, D.length⟩]
def closing : List Lw → Str
  | [] => []
  | (v, D, R) :: K => outM (decide (0 < D.length)) R ++ 41 :: closing K
def work : List Lw → Nat
  | [] => 0
  | (v, D, R) :: K => 1 + 2 * R.nodes + work K
theorem lev_len : ∀ K : List Lw, (lev K).length ≤ (closing K).length
  | [] => Nat.le_refl _
  | (v, D, R) :: K => by have := lev_len K; simp [lev, closing]; omega
theorem app1_len (D : Ts) (k n : Int) (s : ByteArray) (a : Ts) : (D.app (.cons k n s a .nil)).length = D.length + 1 := by rw [Ts.length_app]; rfl
def LevOk (w0 : World) (N : Nat) (x : Lw) : Prop := Sl w0 (fun _ => True) x.1 (x.2.1.app x.2.2) ∧ (x.2.1.app x.2.2).nodes ≤ N ∧ rng x.2.2
theorem print_any (k n : Int) (s : Str) (a : Ts) (v : Value) (w0 : World) (hG : ∀ w', Ext [] w0 w' → GVars w') (hv : Sl w0 (fun _ => True) v a) (hn : -9223372036854775808 ≤ n ∧ n ≤ 9223372036854775807) (hr : rng a) (hN : a.nodes ≤ 1048576)
    (hlen : (outM false (.cons k n ⟨s.toArray⟩ a .nil)).length ≤ 1048576) :
    Calls Tryd.prog 29 #[.agg #[.int .i64 k, .int .i64 n, sv s, v]] w0 fun e w' => e = .returned (sv (outM false (.cons k n ⟨s.toArray⟩ a .nil))) ∧ Below w0.heap.size w0 w' := by
  have hS := St.start w0
  have e0 : outM false (.cons k n ⟨s.toArray⟩ a .nil) = labelM k n s ++ if opens k a then 40 :: (outM false a ++ [41]) else [] := by simp [outM]
  rw [e0] at hlen ⊢
  have hlab : (labelM k n s).length ≤ 1048576 := by simp at hlen; omega
  obtain ⟨A, c, rfl, hv⟩ := hv.form
  refine goes_enter1 Tryd.func29 rfl Tryd.ntmps29 rfl ?_
  refine goes_seq ?_
  refine goes_region ?_
  refine lst_box hS rfl rfl ?_
  clear hS
  intro b1 wx1 hS
  refine lst_run (run_assign (by conv => lhs; whnf)) rfl ?_
  refine lst_done ?_
  refine goes_seq ?_
  refine goes_region ?_
  refine lst_run (run_build (cells := [_, _, _]) .nil rfl) rfl ?_
  refine lst_box hS rfl rfl ?_
  clear hS
  intro b2 wx2 hS
  refine lst_run (run_assign (by conv => lhs; whnf)) rfl ?_
  refine lst_done ?_
  refine goes_seq ?_
  refine goes_region ?_
  refine lst_run (run_move (by conv => lhs; whnf)) rfl ?_
  first
    | refine lst_run (run_loadN_own (k := 4) hS rfl rfl rfl (by first | exact .head | exact .tail .head | exact .tail (.tail .head) | exact .tail (.tail (.tail .head)) | exact .tail (.tail (.tail (.tail .head))) | exact .tail (.tail (.tail (.tail (.tail .head))))) (by repeat constructor)) rfl ?_
    | refine lst_run (run_load4 rfl rfl rfl (by first | assumption | exact hS.cell0 (by assumption)) (by first | assumption | exact hS.cell0 (by assumption)) (by first | assumption | exact hS.cell0 (by assumption)) (by first | assumption | exact hS.cell0 (by assumption))) rfl ?_
  refine lst_enter (run_call (by kernel_rfl) (args_2 (by conv => lhs; whnf) (by conv => lhs; whnf))) rfl ?_
  refine Calls.mono (begin_any (.pointer none) _ _ [] s k n a [] [] [] _ _ (.inl rfl) .nil_ .nil_ hn hG (hv.below hS.ext.below) (by simp; omega) (by simp) hS) ?_
  rintro _ w1 ⟨B1, V1, O1, O2, rfl, hB1, hV1, hS'⟩
  refine ⟨_, rfl, ?_⟩
  replace hS := hS'
  clear hS'
  generalize htot : labelM k n s ++ (if opens k a then 40 :: (outM false a ++ [41]) else []) = tot at hlen ⊢
  obtain ⟨H, hS⟩ : ∃ H, St [] w0 ((b2, prn (pptr b2) B1 V1) :: (O1 ++ (O2 ++ H))) [] w1 := ⟨_, hS⟩
  refine lst_done ?_
  refine goes_seq ?_
  refine goes_block ?_
  refine goes_loop0  (9 :: 10 :: 11 :: 12 :: 13 :: 14 :: 15 :: 16 :: []) (fun (x : Str × List Lw) w' => ∃ B V O O2, Buf x.1 B O ∧ Opn (lev x.2) V O2 ∧ St [] w0 ((b2, prn (pptr b2) B V) :: (O ++ (O2 ++ H))) [] w' ∧ x.1 ++ closing x.2 = tot ∧ ∀ y ∈ x.2, LevOk w0 a.nodes y) (fun x => work x.2) ((labelM k n s ++ (if opens k a then [40] else []), if opens k a then [(.slice A a.length c, .nil, a)] else [])) ?_ ?_
  · refine ⟨B1, V1, O1, O2, hB1, ?_, hS, ?_, ?_⟩
    · generalize opens k a = g at hV1 ⊢
      cases g <;> exact hV1
    · rw [← htot]
      generalize opens k a = g
      cases g <;> simp [closing, Ts.length]
    · generalize opens k a = g
      cases g with
      | false => simp
      | true =>
        intro y hy
        obtain rfl : y = _ := by simpa using hy
        exact ⟨hv, Nat.le_refl _, hr⟩
  clear hS hB1 hV1
  rintro ⟨l, K⟩ w2 jv ⟨B, V, O, O2, hB, hV, hS, htl, hK⟩ ih
  simp only at hB hV hS htl hK ih
  obtain ⟨A1, c1, rfl⟩ := hB.form
  cases K with
  | nil =>
    obtain ⟨A2, c2, hVe⟩ := Row.form hV
    obtain rfl : V = .slice A2 0 c2 := hVe
    refine goes_seq ?_
    refine goes_seq ?_
    refine goes_region ?_
    refine lst_run (run_move (by conv => lhs; whnf)) rfl ?_
    refine lst_run (run_nilCheck rfl) rfl ?_
    refine lst_run (run_fieldAddr (off := 2) rfl rfl) rfl ?_
    first
      | refine lst_run (run_load1_own hS rfl rfl (by first | exact .head | exact .tail .head | exact .tail (.tail .head) | exact .tail (.tail (.tail .head)) | exact .tail (.tail (.tail (.tail .head))) | exact .tail (.tail (.tail (.tail (.tail .head))))) (by repeat constructor)) rfl ?_
      | refine lst_run (run_load1 rfl rfl (by first | assumption | exact hS.cell0 (by assumption) | exact lv_next hS | exact lv_list hS)) rfl ?_
    refine lst_run (run_len_slice rfl rfl rfl) rfl ?_
    first
      | refine lst_run (run_gtr_yes rfl rfl (by omega)) rfl ?_
      | refine lst_run (run_gtr_no rfl rfl (by omega)) rfl ?_
      | refine lst_run (rfl) rfl ?_
    refine lst_done ?_
    refine goes_false rfl ?_
    refine goes_exit rfl ?_
    refine goes_seq ?_
    refine goes_region ?_
    refine lst_run (run_move (by conv => lhs; whnf)) rfl ?_
    refine lst_run (run_nilCheck rfl) rfl ?_
    refine lst_run (run_fieldAddr (off := 0) rfl rfl) rfl ?_
    have hl : l.length ≤ 1099511627776 := by rw [← htl] at hlen; simp at hlen; omega
    refine lst_enter (run_call (by kernel_rfl) (args_1 (by conv => lhs; whnf))) rfl ?_
    refine Calls.mono (string_any (pptr b2) _ _ l O A2 0 c2 rfl _ hB hl hS) ?_
    rintro _ w3 ⟨rfl, hS'⟩
    refine ⟨_, rfl, ?_⟩
    replace hS := hS'
    clear hS'
    refine lst_run (run_assign (by conv => lhs; whnf)) rfl ?_
    refine lst_done ?_
    refine goes_ret1 Tryd.func29 rfl (by conv => lhs; whnf) ?_
    exact ⟨by rw [← htl]; simp [closing], hS.ext.below⟩
  | cons x K =>
    obtain ⟨u, D, R⟩ := x
    have hV' : Opn (lev K ++ [⟨u, D.app R, D.length⟩]) V O2 := hV
    obtain ⟨hu, hN1, hR⟩ := hK (u, D, R) (.head _)
    simp only at hu hN1 hR
    have hlk := lev_len K
    have hkl : l.length + ((outM (decide (0 < D.length)) R).length + (closing K).length + 1) ≤ 1048576 := by rw [← htl] at hlen; simp [closing] at hlen; omega
    have hDn := D.length_le
    rw [Ts.nodes_app] at hN1
    obtain ⟨g, cap, sp, rfl, _, hcap, _⟩ := hV'.top
    cases R with
    | nil =>
      rw [Ts.app_nil] at hV' hu
      obtain ⟨A3, c3, rfl, _⟩ := hu.form
      refine goes_seq ?_
      refine goes_seq ?_
      refine goes_region ?_
      refine lst_run (run_move (by conv => lhs; whnf)) rfl ?_
      refine lst_run (run_nilCheck rfl) rfl ?_
      refine lst_run (run_fieldAddr (off := 2) rfl rfl) rfl ?_
      first
        | refine lst_run (run_load1_own hS rfl rfl (by first | exact .head | exact .tail .head | exact .tail (.tail .head) | exact .tail (.tail (.tail .head)) | exact .tail (.tail (.tail (.tail .head))) | exact .tail (.tail (.tail (.tail (.tail .head))))) (by repeat constructor)) rfl ?_
        | refine lst_run (run_load1 rfl rfl (by first | assumption | exact hS.cell0 (by assumption) | exact lv_next hS | exact lv_list hS)) rfl ?_
      refine lst_run (run_len_slice rfl rfl rfl) rfl ?_
      first
        | refine lst_run (run_gtr_yes rfl rfl (by omega)) rfl ?_
        | refine lst_run (run_gtr_no rfl rfl (by omega)) rfl ?_
        | refine lst_run (rfl) rfl ?_
      refine lst_done ?_
      refine goes_true rfl ?_
      refine goes_skip ?_
      refine goes_block ?_
      refine goes_region ?_
      refine lst_run (run_move (by conv => lhs; whnf)) rfl ?_
      refine lst_enter (run_call (by kernel_rfl) (args_1 (by conv => lhs; whnf))) rfl ?_
      refine Calls.mono (step_close _ _ _ l D (lev K) O O2 A3 c3 _ hB hV' rfl (by omega) (by omega) hS) ?_
      rintro _ w3 ⟨B', V', O', rfl, hB', hV2, hS'⟩
      refine ⟨_, rfl, ?_⟩
      replace hS := hS'
      clear hS'
      refine lst_done ?_
      refine goes_inBlock ?_
      refine ih ((l ++ [41], K)) _ _ ?_ ?_ (by kernel_rfl)
      · simp only [work]; omega
      · exact ⟨B', V', O', O2, hB', hV2, hS, by rw [← htl]; simp [closing, outM], fun y hy => hK y (.tail _ hy)⟩
    | cons k1 n1 s1 a1 r1 =>
      obtain ⟨s1, rfl⟩ := str_of s1
      refine goes_seq ?_
      refine goes_seq ?_
      refine goes_region ?_
      refine lst_run (run_move (by conv => lhs; whnf)) rfl ?_
      refine lst_run (run_nilCheck rfl) rfl ?_
      refine lst_run (run_fieldAddr (off := 2) rfl rfl) rfl ?_
      first
        | refine lst_run (run_load1_own hS rfl rfl (by first | exact .head | exact .tail .head | exact .tail (.tail .head) | exact .tail (.tail (.tail .head)) | exact .tail (.tail (.tail (.tail .head))) | exact .tail (.tail (.tail (.tail (.tail .head))))) (by repeat constructor)) rfl ?_
        | refine lst_run (run_load1 rfl rfl (by first | assumption | exact hS.cell0 (by assumption) | exact lv_next hS | exact lv_list hS)) rfl ?_
      refine lst_run (run_len_slice rfl rfl rfl) rfl ?_
      first
        | refine lst_run (run_gtr_yes rfl rfl (by omega)) rfl ?_
        | refine lst_run (run_gtr_no rfl rfl (by omega)) rfl ?_
        | refine lst_run (rfl) rfl ?_
      refine lst_done ?_
      refine goes_true rfl ?_
      refine goes_skip ?_
      refine goes_block ?_
      refine goes_region ?_
      refine lst_run (run_move (by conv => lhs; whnf)) rfl ?_
      have hlab1 : (labelM k1 n1 s1).length ≤ (outM (decide (0 < D.length)) (.cons k1 n1 ⟨s1.toArray⟩ a1 r1)).length := by simp [outM]; omega
      refine lst_enter (run_call (by kernel_rfl) (args_1 (by conv => lhs; whnf))) rfl ?_
      refine Calls.mono (step_next _ _ _ l k1 n1 s1 D a1 r1 (lev K) O O2 _ hB hV' hu hR.1 hG (by omega) (by omega) (by omega) hS) ?_
      rintro _ w3 ⟨va, B', V', O', O3, rfl, hva, hB', hV2, hS'⟩
      refine ⟨_, rfl, ?_⟩
      replace hS := hS'
      clear hS'
      refine lst_done ?_
      refine goes_inBlock ?_
      have hD1 : (D.app (.cons k1 n1 ⟨s1.toArray⟩ a1 .nil)).app r1 = D.app (.cons k1 n1 ⟨s1.toArray⟩ a1 r1) := by rw [Ts.app_assoc]; rfl
      have hD2 := app1_len D k1 n1 ⟨s1.toArray⟩ a1
      generalize D.app (.cons k1 n1 ⟨s1.toArray⟩ a1 .nil) = D1 at hD1 hD2
      have hu1 : LevOk w0 a.nodes (u, D1, r1) := ⟨by rw [hD1]; exact hu, by show (D1.app r1).nodes ≤ _; rw [hD1, Ts.nodes_app]; exact hN1, hR.2.2⟩
      have hnod : (Ts.cons k1 n1 ⟨s1.toArray⟩ a1 r1).nodes = a1.nodes + r1.nodes + 1 := rfl
      have hL1 : lev ((u, D1, r1) :: K) = lev K ++ [⟨u, D.app (.cons k1 n1 ⟨s1.toArray⟩ a1 r1), D.length + 1⟩] := by simp only [lev]; rw [hD1, hD2]
      have hpos : decide (0 < D1.length) = true := by simp; omega
      generalize hg : opens k1 a1 = g1 at hV2 hB'
      have htl' : l ++ (outM (decide (0 < D.length)) (.cons k1 n1 ⟨s1.toArray⟩ a1 r1) ++ 41 :: closing K) = tot := htl
      cases g1 with
      | true =>
        refine ih ((l ++ (if 0 < D.length then [44] else []) ++ labelM k1 n1 s1 ++ [40], (va, .nil, a1) :: (u, D1, r1) :: K)) _ _ ?_ ?_ (by kernel_rfl)
        · simp only [work, hnod]; omega
        · refine ⟨B', V', O', O3, hB', ?_, hS, ?_, ?_⟩
          · show Opn (lev ((u, D1, r1) :: K) ++ [_]) V' O3
            rw [hL1]; exact hV2
          · rw [← htl']; simp only [closing, hpos, outM, hg]; simp [Ts.length]
          · intro y hy
            rcases List.mem_cons.1 hy with rfl | hy
            · exact ⟨hva, by show a1.nodes ≤ _; omega, hR.2.1⟩
            rcases List.mem_cons.1 hy with rfl | hy
            · exact hu1
            · exact hK y (.tail _ hy)
      | false =>
        refine ih ((l ++ (if 0 < D.length then [44] else []) ++ labelM k1 n1 s1, (u, D1, r1) :: K)) _ _ ?_ ?_ (by kernel_rfl)
        · simp only [work, hnod]; omega
        · refine ⟨B', V', O', O3, ?_, ?_, hS, ?_, ?_⟩
          · simpa only [Bool.false_eq_true, if_false, List.append_nil] using hB'
          · show Opn (lev ((u, D1, r1) :: K)) V' O3
            rw [hL1]; exact hV2
          · rw [← htl']; simp only [closing, hpos, outM, hg]; simp [Ts.length]
          · intro y hy
            rcases List.mem_cons.1 hy with rfl | hy
            · exact hu1
            · exact hK y (.tail _ hy)
end Go.Proofs.YtdiophafmokfiaaDoor
