/- Prn, ReadsL, RefM: texts that follow one another, laid into one file. -/
import Derived.Test.YtdiophafmokfiaaGreatDoorPWalk
import Derived.Test.YtdiophafmokfiaaGreatDoorG6
namespace Go.Proofs.YtdiophafmokfiaaGreatDoor
open Go.RowKit Go.Shelf
set_option linter.unusedVariables false
set_option linter.unusedSimpArgs false
set_option maxRecDepth 100000
set_option maxHeartbeats 1000000

/-- The text of a list of terms; c says whether one stands before it. -/
def outM (c : Bool) : Ts → Str
  | .nil => []
  | .cons k n s a r => (if c then [44] else []) ++ labelM k n s.data.toList ++ (if opens k a then 40 :: (outM false a ++ [41]) else []) ++ outM true r
def rng : Ts → Prop
  | .nil => True
  | .cons k n s a r => (-9223372036854775808 ≤ n ∧ n ≤ 9223372036854775807) ∧ rng a ∧ rng r
abbrev Lw := Value × Ts × Ts
def lev : List Lw → List Lv
  | [] => []
  | (v, D, R) :: K => lev K ++ [⟨v, D.app R, D.length⟩]
def closing : List Lw → Str
  | [] => []
  | (v, D, R) :: K => outM (decide (0 < D.length)) R ++ 41 :: closing K
def work : List Lw → Nat
  | [] => 0
  | (v, D, R) :: K => 1 + 2 * R.nodes + work K
theorem lev_len : ∀ K : List Lw, (lev K).length ≤ (closing K).length
  | [] => Nat.le_refl _
  | (v, D, R) :: K => by have := lev_len K; simp [lev, closing]; omega
theorem app1_len (D : Ts) (k n : Int) (s : ByteArray) (a : Ts) : (D.app (.cons k n s a .nil)).length = D.length + 1 := by rw [Ts.length_app]; rfl
def LevOk (w0 : World) (N : Nat) (x : Lw) : Prop := Sl w0 (fun _ => True) x.1 (x.2.1.app x.2.2) ∧ (x.2.1.app x.2.2).nodes ≤ N ∧ rng x.2.2
theorem print_any (k n : Int) (s : Str) (a : Ts) (v : Value) (w0 : World) (hG : ∀ w', Ext [] w0 w' → GVars w') (hv : Sl w0 (fun _ => True) v a) (hn : -9223372036854775808 ≤ n ∧ n ≤ 9223372036854775807) (hr : rng a) (hN : a.nodes ≤ 1048576)
    (hlen : (outM false (.cons k n ⟨s.toArray⟩ a .nil)).length ≤ 1048576) :
    Calls Tryz.prog 12 #[.agg #[.int .i64 k, .int .i64 n, sv s, v]] w0 fun e w' => e = .returned (sv (outM false (.cons k n ⟨s.toArray⟩ a .nil))) ∧ Below w0.heap.size w0 w' := by
  have hS := St.start w0
  have e0 : outM false (.cons k n ⟨s.toArray⟩ a .nil) = labelM k n s ++ if opens k a then 40 :: (outM false a ++ [41]) else [] := by simp [outM]
  rw [e0] at hlen ⊢
  have hlab : (labelM k n s).length ≤ 1048576 := by simp at hlen; omega
  obtain ⟨A, c, rfl, hv⟩ := hv.form
  refine goes_enter1 Tryz.func12 rfl Tryz.ntmps12 rfl ?_
  refine goes_seq ?_
  refine goes_region ?_
  refine lst_box hS rfl rfl ?_
  clear hS
  intro b1 wx1 hS
  refine lst_run (run_assign (by conv => lhs; whnf)) rfl ?_
  refine lst_done ?_
  refine goes_seq ?_
  refine goes_region ?_
  refine lst_run (run_build (cells := [_, _, _]) .nil rfl) rfl ?_
  refine lst_box hS rfl rfl ?_
  clear hS
  intro b2 wx2 hS
  refine lst_run (run_assign (by conv => lhs; whnf)) rfl ?_
  refine lst_done ?_
  refine goes_seq ?_
  refine goes_region ?_
  refine lst_run (run_move (by conv => lhs; whnf)) rfl ?_
  first
    | refine lst_run (run_loadN_own (k := 4) hS rfl rfl rfl (by first | exact .head | exact .tail .head | exact .tail (.tail .head) | exact .tail (.tail (.tail .head)) | exact .tail (.tail (.tail (.tail .head))) | exact .tail (.tail (.tail (.tail (.tail .head))))) (by repeat constructor)) rfl ?_
    | refine lst_run (run_load4 rfl rfl rfl (by first | assumption | exact hS.cell0 (by assumption)) (by first | assumption | exact hS.cell0 (by assumption)) (by first | assumption | exact hS.cell0 (by assumption)) (by first | assumption | exact hS.cell0 (by assumption))) rfl ?_
  refine lst_enter (run_call (by kernel_rfl) (args_2 (by conv => lhs; whnf) (by conv => lhs; whnf))) rfl ?_
  refine Calls.mono (begin_any (.pointer none) _ _ [] s k n a [] [] [] _ _ (.inl rfl) .nil_ .nil_ hn hG (hv.below hS.ext.below) (by simp; omega) (by simp) hS) ?_
  rintro _ w1 ⟨B1, V1, O1, O2, rfl, hB1, hV1, hS'⟩
  refine ⟨_, rfl, ?_⟩
  replace hS := hS'
  clear hS'
  generalize htot : labelM k n s ++ (if opens k a then 40 :: (outM false a ++ [41]) else []) = tot at hlen ⊢
  obtain ⟨H, hS⟩ : ∃ H, St [] w0 ((b2, prn (pptr b2) B1 V1) :: (O1 ++ (O2 ++ H))) [] w1 := ⟨_, hS⟩
  refine lst_done ?_
  refine goes_seq ?_
  refine goes_block ?_
  refine goes_loop0  (9 :: 10 :: 11 :: 12 :: 13 :: 14 :: 15 :: 16 :: []) (fun (x : Str × List Lw) w' => ∃ B V O O2, Buf x.1 B O ∧ Opn (lev x.2) V O2 ∧ St [] w0 ((b2, prn (pptr b2) B V) :: (O ++ (O2 ++ H))) [] w' ∧ x.1 ++ closing x.2 = tot ∧ ∀ y ∈ x.2, LevOk w0 a.nodes y) (fun x => work x.2) ((labelM k n s ++ (if opens k a then [40] else []), if opens k a then [(.slice A a.length c, .nil, a)] else [])) ?_ ?_
  · refine ⟨B1, V1, O1, O2, hB1, ?_, hS, ?_, ?_⟩
    · generalize opens k a = g at hV1 ⊢
      cases g <;> exact hV1
    · rw [← htot]
      generalize opens k a = g
      cases g <;> simp [closing, Ts.length]
    · generalize opens k a = g
      cases g with
      | false => simp
      | true =>
        intro y hy
        obtain rfl : y = _ := by simpa using hy
        exact ⟨hv, Nat.le_refl _, hr⟩
  clear hS hB1 hV1
  rintro ⟨l, K⟩ w2 jv ⟨B, V, O, O2, hB, hV, hS, htl, hK⟩ ih
  simp only at hB hV hS htl hK ih
  obtain ⟨A1, c1, rfl⟩ := hB.form
  cases K with
  | nil =>
    obtain ⟨A2, c2, hVe⟩ := Row.form hV
    obtain rfl : V = .slice A2 0 c2 := hVe
    refine goes_seq ?_
    refine goes_seq ?_
    refine goes_region ?_
    refine lst_run (run_move (by conv => lhs; whnf)) rfl ?_
    refine lst_run (run_nilCheck rfl) rfl ?_
    refine lst_run (run_fieldAddr (off := 2) rfl rfl) rfl ?_
    first
      | refine lst_run (run_load1_own hS rfl rfl (by first | exact .head | exact .tail .head | exact .tail (.tail .head) | exact .tail (.tail (.tail .head)) | exact .tail (.tail (.tail (.tail .head))) | exact .tail (.tail (.tail (.tail (.tail .head))))) (by repeat constructor)) rfl ?_
      | refine lst_run (run_load1 rfl rfl (by first | assumption | exact hS.cell0 (by assumption) | exact lv_next hS | exact lv_list hS)) rfl ?_
    refine lst_run (run_len_slice rfl rfl rfl) rfl ?_
    first
      | refine lst_run (run_gtr_yes rfl rfl (by omega)) rfl ?_
      | refine lst_run (run_gtr_no rfl rfl (by omega)) rfl ?_
      | refine lst_run (rfl) rfl ?_
    refine lst_done ?_
    refine goes_false rfl ?_
    refine goes_exit rfl ?_
    refine goes_seq ?_
    refine goes_region ?_
    refine lst_run (run_move (by conv => lhs; whnf)) rfl ?_
    refine lst_run (run_nilCheck rfl) rfl ?_
    refine lst_run (run_fieldAddr (off := 0) rfl rfl) rfl ?_
    have hl : l.length ≤ 1099511627776 := by rw [← htl] at hlen; simp at hlen; omega
    refine lst_enter (run_call (by kernel_rfl) (args_1 (by conv => lhs; whnf))) rfl ?_
    refine Calls.mono (string_any (pptr b2) _ _ l O A2 0 c2 rfl _ hB hl hS) ?_
    rintro _ w3 ⟨rfl, hS'⟩
    refine ⟨_, rfl, ?_⟩
    replace hS := hS'
    clear hS'
    refine lst_run (run_assign (by conv => lhs; whnf)) rfl ?_
    refine lst_done ?_
    refine goes_ret1 Tryz.func12 rfl (by conv => lhs; whnf) ?_
    exact ⟨by rw [← htl]; simp [closing], hS.ext.below⟩
  | cons x K =>
    obtain ⟨u, D, R⟩ := x
    have hV' : Opn (lev K ++ [⟨u, D.app R, D.length⟩]) V O2 := hV
    obtain ⟨hu, hN1, hR⟩ := hK (u, D, R) (.head _)
    simp only at hu hN1 hR
    have hlk := lev_len K
    have hkl : l.length + ((outM (decide (0 < D.length)) R).length + (closing K).length + 1) ≤ 1048576 := by rw [← htl] at hlen; simp [closing] at hlen; omega
    have hDn := D.length_le
    rw [Ts.nodes_app] at hN1
    obtain ⟨g, cap, sp, rfl, _, hcap, _⟩ := hV'.top
    cases R with
    | nil =>
      rw [Ts.app_nil] at hV' hu
      obtain ⟨A3, c3, rfl, _⟩ := hu.form
      refine goes_seq ?_
      refine goes_seq ?_
      refine goes_region ?_
      refine lst_run (run_move (by conv => lhs; whnf)) rfl ?_
      refine lst_run (run_nilCheck rfl) rfl ?_
      refine lst_run (run_fieldAddr (off := 2) rfl rfl) rfl ?_
      first
        | refine lst_run (run_load1_own hS rfl rfl (by first | exact .head | exact .tail .head | exact .tail (.tail .head) | exact .tail (.tail (.tail .head)) | exact .tail (.tail (.tail (.tail .head))) | exact .tail (.tail (.tail (.tail (.tail .head))))) (by repeat constructor)) rfl ?_
        | refine lst_run (run_load1 rfl rfl (by first | assumption | exact hS.cell0 (by assumption) | exact lv_next hS | exact lv_list hS)) rfl ?_
      refine lst_run (run_len_slice rfl rfl rfl) rfl ?_
      first
        | refine lst_run (run_gtr_yes rfl rfl (by omega)) rfl ?_
        | refine lst_run (run_gtr_no rfl rfl (by omega)) rfl ?_
        | refine lst_run (rfl) rfl ?_
      refine lst_done ?_
      refine goes_true rfl ?_
      refine goes_skip ?_
      refine goes_block ?_
      refine goes_region ?_
      refine lst_run (run_move (by conv => lhs; whnf)) rfl ?_
      refine lst_enter (run_call (by kernel_rfl) (args_1 (by conv => lhs; whnf))) rfl ?_
      refine Calls.mono (step_close _ _ _ l D (lev K) O O2 A3 c3 _ hB hV' rfl (by omega) (by omega) hS) ?_
      rintro _ w3 ⟨B', V', O', rfl, hB', hV2, hS'⟩
      refine ⟨_, rfl, ?_⟩
      replace hS := hS'
      clear hS'
      refine lst_done ?_
      refine goes_inBlock ?_
      refine ih ((l ++ [41], K)) _ _ ?_ ?_ (by kernel_rfl)
      · simp only [work]; omega
      · exact ⟨B', V', O', O2, hB', hV2, hS, by rw [← htl]; simp [closing, outM], fun y hy => hK y (.tail _ hy)⟩
    | cons k1 n1 s1 a1 r1 =>
      obtain ⟨s1, rfl⟩ := str_of s1
      refine goes_seq ?_
      refine goes_seq ?_
      refine goes_region ?_
      refine lst_run (run_move (by conv => lhs; whnf)) rfl ?_
      refine lst_run (run_nilCheck rfl) rfl ?_
      refine lst_run (run_fieldAddr (off := 2) rfl rfl) rfl ?_
      first
        | refine lst_run (run_load1_own hS rfl rfl (by first | exact .head | exact .tail .head | exact .tail (.tail .head) | exact .tail (.tail (.tail .head)) | exact .tail (.tail (.tail (.tail .head))) | exact .tail (.tail (.tail (.tail (.tail .head))))) (by repeat constructor)) rfl ?_
        | refine lst_run (run_load1 rfl rfl (by first | assumption | exact hS.cell0 (by assumption) | exact lv_next hS | exact lv_list hS)) rfl ?_
      refine lst_run (run_len_slice rfl rfl rfl) rfl ?_
      first
        | refine lst_run (run_gtr_yes rfl rfl (by omega)) rfl ?_
        | refine lst_run (run_gtr_no rfl rfl (by omega)) rfl ?_
        | refine lst_run (rfl) rfl ?_
      refine lst_done ?_
      refine goes_true rfl ?_
      refine goes_skip ?_
      refine goes_block ?_
      refine goes_region ?_
      refine lst_run (run_move (by conv => lhs; whnf)) rfl ?_
      have hlab1 : (labelM k1 n1 s1).length ≤ (outM (decide (0 < D.length)) (.cons k1 n1 ⟨s1.toArray⟩ a1 r1)).length := by simp [outM]; omega
      refine lst_enter (run_call (by kernel_rfl) (args_1 (by conv => lhs; whnf))) rfl ?_
      refine Calls.mono (step_next _ _ _ l k1 n1 s1 D a1 r1 (lev K) O O2 _ hB hV' hu hR.1 hG (by omega) (by omega) (by omega) hS) ?_
      rintro _ w3 ⟨va, B', V', O', O3, rfl, hva, hB', hV2, hS'⟩
      refine ⟨_, rfl, ?_⟩
      replace hS := hS'
      clear hS'
      refine lst_done ?_
      refine goes_inBlock ?_
      have hD1 : (D.app (.cons k1 n1 ⟨s1.toArray⟩ a1 .nil)).app r1 = D.app (.cons k1 n1 ⟨s1.toArray⟩ a1 r1) := by rw [Ts.app_assoc]; rfl
      have hD2 := app1_len D k1 n1 ⟨s1.toArray⟩ a1
      generalize D.app (.cons k1 n1 ⟨s1.toArray⟩ a1 .nil) = D1 at hD1 hD2
      have hu1 : LevOk w0 a.nodes (u, D1, r1) := ⟨by rw [hD1]; exact hu, by show (D1.app r1).nodes ≤ _; rw [hD1, Ts.nodes_app]; exact hN1, hR.2.2⟩
      have hnod : (Ts.cons k1 n1 ⟨s1.toArray⟩ a1 r1).nodes = a1.nodes + r1.nodes + 1 := rfl
      have hL1 : lev ((u, D1, r1) :: K) = lev K ++ [⟨u, D.app (.cons k1 n1 ⟨s1.toArray⟩ a1 r1), D.length + 1⟩] := by simp only [lev]; rw [hD1, hD2]
      have hpos : decide (0 < D1.length) = true := by simp; omega
      generalize hg : opens k1 a1 = g1 at hV2 hB'
      have htl' : l ++ (outM (decide (0 < D.length)) (.cons k1 n1 ⟨s1.toArray⟩ a1 r1) ++ 41 :: closing K) = tot := htl
      cases g1 with
      | true =>
        refine ih ((l ++ (if 0 < D.length then [44] else []) ++ labelM k1 n1 s1 ++ [40], (va, .nil, a1) :: (u, D1, r1) :: K)) _ _ ?_ ?_ (by kernel_rfl)
        · simp only [work, hnod]; omega
        · refine ⟨B', V', O', O3, hB', ?_, hS, ?_, ?_⟩
          · show Opn (lev ((u, D1, r1) :: K) ++ [_]) V' O3
            rw [hL1]; exact hV2
          · rw [← htl']; simp only [closing, hpos, outM, hg]; simp [Ts.length]
          · intro y hy
            rcases List.mem_cons.1 hy with rfl | hy
            · exact ⟨hva, by show a1.nodes ≤ _; omega, hR.2.1⟩
            rcases List.mem_cons.1 hy with rfl | hy
            · exact hu1
            · exact hK y (.tail _ hy)
      | false =>
        refine ih ((l ++ (if 0 < D.length then [44] else []) ++ labelM k1 n1 s1, (u, D1, r1) :: K)) _ _ ?_ ?_ (by kernel_rfl)
        · simp only [work, hnod]; omega
        · refine ⟨B', V', O', O3, ?_, ?_, hS, ?_, ?_⟩
          · simpa only [Bool.false_eq_true, if_false, List.append_nil] using hB'
          · show Opn (lev ((u, D1, r1) :: K)) V' O3
            rw [hL1]; exact hV2
          · rw [← htl']; simp only [closing, hpos, outM, hg]; simp [Ts.length]
          · intro y hy
            rcases List.mem_cons.1 hy with rfl | hy
            · exact hu1
            · exact hK y (.tail _ hy)
end Go.Proofs.YtdiophafmokfiaaGreatDoor
namespace Go.Proofs.YtdiophafmokfiaaGreatDoor
open Go.RowKit Go.Shelf
set_option linter.unusedVariables false
set_option linter.unusedSimpArgs false
set_option maxRecDepth 100000
set_option maxHeartbeats 1000000

def rdText : Str := [112, 40, 88, 41, 32, 58, 45, 32, 113, 40, 88, 41, 44, 32, 33, 46, 32, 113, 40, 45, 51, 41, 46]
def rdHead : Ts := .cons 2 (-3) ⟨([] : Str).toArray⟩ .nil .nil
def rdCl : List Cl := [⟨3, 0, ⟨([112] : Str).toArray⟩, .cons 0 0 ⟨([] : Str).toArray⟩ .nil .nil, .cons 3 0 ⟨([113] : Str).toArray⟩ (.cons 0 0 ⟨([] : Str).toArray⟩ .nil .nil) (.cons 1 0 ⟨([33] : Str).toArray⟩ .nil .nil), 1⟩, ⟨3, 0, ⟨([113] : Str).toArray⟩, rdHead, .nil, 0⟩]
theorem numM_three : numM [45, 51] = some (-3) := by kernel_rfl
theorem rd_model : programM numM rdText = (rdCl, 0) := by kernel_rfl
theorem rd_out : outM false (.cons 3 0 ⟨([113] : Str).toArray⟩ rdHead .nil) = [113, 40, 45, 51, 41] := by kernel_rfl
theorem rd_program {M : List Nat} {w0 w : World} {H : List (Nat × Obj)} {F : List (World → Prop)} (hG : ∀ w', Ext M w0 w' → GVars w') (hS : St M w0 H F w) :
    Calls Tryz.prog 5 #[sv rdText] w fun e w' => ∃ v, e = .returned (.tuple #[v, .int .i64 0]) ∧ St M w0 H ((fun w => SlC w (fun _ => True) v rdCl) :: F) w' := by
  have h := program_r numM GVars lib1 lib2 lib3 rdText w hG (by decide) hS
  rw [rd_model] at h
  exact h
theorem reads_any (w : World) (hG : ∀ w', Ext [] w w' → GVars w') : Calls Tryz.prog 8 #[] w fun e w' => e = .returned (.bool true) ∧ Below w.heap.size w w' := by
  have hS := St.start w
  refine goes_enter0 Tryz.func8 rfl Tryz.ntmps8 rfl ?_
  refine goes_seq ?_
  refine goes_region ?_
  refine lst_run (run_assign (by conv => lhs; whnf)) rfl ?_
  refine lst_done ?_
  refine goes_seq ?_
  refine goes_region ?_
  refine lst_enter (run_call (by kernel_rfl) (args_1 (by conv => lhs; whnf))) rfl ?_
  refine Calls.mono (rd_program hG hS) ?_
  rintro _ w1 ⟨v, rfl, hS'⟩
  refine ⟨_, rfl, ?_⟩
  replace hS := hS'
  clear hS'
  obtain ⟨A, c, rfl, hsl⟩ := (hS.fact (.head _)).form
  obtain ⟨_, _, e1, hc2, hsg⟩ := hsl
  simp only [Value.slice.injEq] at e1
  obtain ⟨rfl, _, rfl⟩ := e1
  obtain ⟨bb, o, rfl, _, a0, a1, a2, ⟨u3, a3, a3'⟩, ⟨u4, a4, a4'⟩, a5, _, b0, b1, b2, ⟨v3, b3, b3'⟩, _⟩ := hsg (by decide)
  obtain ⟨A4, c4, rfl, _⟩ := a4'.form
  obtain ⟨A5, c5, rfl, _⟩ := b3'.form
  have hcl : rdCl.length = 2 := rfl
  refine lst_run (run_move (by conv => lhs; whnf)) rfl ?_
  refine lst_run (run_extract rfl rfl) rfl ?_
  refine lst_run (run_extract rfl rfl) rfl ?_
  refine lst_run (run_assign (by conv => lhs; whnf)) rfl ?_
  refine lst_run (run_assign (by conv => lhs; whnf)) rfl ?_
  refine lst_done ?_
  refine goes_seq ?_
  refine goes_region ?_
  refine lst_run (run_move (by conv => lhs; whnf)) rfl ?_
  first
    | refine lst_run (run_eql_one_int rfl rfl) rfl ?_
    | refine lst_run (run_eql_no rfl rfl (by first | assumption | omega)) rfl ?_
    | refine lst_run (run_eql_yes rfl rfl (by omega)) rfl ?_
    | refine lst_run (rfl) rfl ?_
  refine lst_run (run_move (by conv => lhs; whnf)) rfl ?_
  refine lst_guard rfl rfl ?_
  refine lst_run (run_move (by conv => lhs; whnf)) rfl ?_
  refine lst_guard rfl rfl ?_
  refine lst_run (run_len_slice rfl rfl rfl) rfl ?_
  refine lst_guard rfl rfl ?_
  first
    | refine lst_run (run_eql_one_int rfl rfl) rfl ?_
    | refine lst_run (run_eql_no rfl rfl (by first | assumption | omega)) rfl ?_
    | refine lst_run (run_eql_yes rfl rfl (by omega)) rfl ?_
    | refine lst_run (rfl) rfl ?_
  first
    | refine lst_run (run_pick_t rfl (by conv => lhs; whnf)) rfl ?_
    | refine lst_run (run_pick_f rfl (by conv => lhs; whnf)) rfl ?_
  refine lst_run (run_move (by conv => lhs; whnf)) rfl ?_
  refine lst_guard rfl rfl ?_
  refine lst_run (run_move (by conv => lhs; whnf)) rfl ?_
  refine lst_guard rfl rfl ?_
  refine lst_run (run_indexAddr (sz := 6) rfl rfl rfl rfl (by omega) (by omega)) rfl ?_
  refine lst_guard rfl rfl ?_
  refine lst_run (run_fieldAddr (off := 4) rfl rfl) rfl ?_
  refine lst_guard rfl rfl ?_
  first
    | refine lst_run (run_load1_own hS rfl rfl (by first | exact .head | exact .tail .head | exact .tail (.tail .head) | exact .tail (.tail (.tail .head)) | exact .tail (.tail (.tail (.tail .head))) | exact .tail (.tail (.tail (.tail (.tail .head))))) (by repeat constructor)) rfl ?_
    | refine lst_run (run_load1 rfl rfl (by first | assumption | exact hS.cell0 (by assumption) | exact lv_next hS | exact lv_list hS)) rfl ?_
  refine lst_guard rfl rfl ?_
  refine lst_run (run_len_slice rfl rfl rfl) rfl ?_
  refine lst_guard rfl rfl ?_
  first
    | refine lst_run (run_eql_one_int rfl rfl) rfl ?_
    | refine lst_run (run_eql_no rfl rfl (by first | assumption | omega)) rfl ?_
    | refine lst_run (run_eql_yes rfl rfl (by omega)) rfl ?_
    | refine lst_run (rfl) rfl ?_
  first
    | refine lst_run (run_pick_t rfl (by conv => lhs; whnf)) rfl ?_
    | refine lst_run (run_pick_f rfl (by conv => lhs; whnf)) rfl ?_
  refine lst_run (run_move (by conv => lhs; whnf)) rfl ?_
  refine lst_guard rfl rfl ?_
  refine lst_run (run_move (by conv => lhs; whnf)) rfl ?_
  refine lst_guard rfl rfl ?_
  refine lst_run (run_indexAddr (sz := 6) rfl rfl rfl rfl (by omega) (by omega)) rfl ?_
  refine lst_guard rfl rfl ?_
  refine lst_run (run_fieldAddr (off := 5) rfl rfl) rfl ?_
  refine lst_guard rfl rfl ?_
  first
    | refine lst_run (run_load1_own hS rfl rfl (by first | exact .head | exact .tail .head | exact .tail (.tail .head) | exact .tail (.tail (.tail .head)) | exact .tail (.tail (.tail (.tail .head))) | exact .tail (.tail (.tail (.tail (.tail .head))))) (by repeat constructor)) rfl ?_
    | refine lst_run (run_load1 rfl rfl (by first | assumption | exact hS.cell0 (by assumption) | exact lv_next hS | exact lv_list hS)) rfl ?_
  refine lst_guard rfl rfl ?_
  first
    | refine lst_run (run_eql_one_int rfl rfl) rfl ?_
    | refine lst_run (run_eql_no rfl rfl (by first | assumption | omega)) rfl ?_
    | refine lst_run (run_eql_yes rfl rfl (by omega)) rfl ?_
    | refine lst_run (rfl) rfl ?_
  first
    | refine lst_run (run_pick_t rfl (by conv => lhs; whnf)) rfl ?_
    | refine lst_run (run_pick_f rfl (by conv => lhs; whnf)) rfl ?_
  refine lst_run (run_move (by conv => lhs; whnf)) rfl ?_
  refine lst_guard rfl rfl ?_
  refine lst_run (run_move (by conv => lhs; whnf)) rfl ?_
  refine lst_guard rfl rfl ?_
  refine lst_run (run_indexAddr (sz := 6) rfl rfl rfl rfl (by omega) (by omega)) rfl ?_
  refine lst_guard rfl rfl ?_
  refine lst_run (run_fieldAddr (off := 0) rfl rfl) rfl ?_
  refine lst_guard rfl rfl ?_
  first
    | refine lst_run (run_loadN_own (k := 4) hS rfl rfl rfl (by first | exact .head | exact .tail .head | exact .tail (.tail .head) | exact .tail (.tail (.tail .head)) | exact .tail (.tail (.tail (.tail .head))) | exact .tail (.tail (.tail (.tail (.tail .head))))) (by repeat constructor)) rfl ?_
    | refine lst_run (run_load4 rfl rfl rfl (by first | assumption | exact hS.cell0 (by assumption)) (by first | assumption | exact hS.cell0 (by assumption)) (by first | assumption | exact hS.cell0 (by assumption)) (by first | assumption | exact hS.cell0 (by assumption))) rfl ?_
  refine lst_guard rfl rfl ?_
  have hp := print_any 3 0 [113] rdHead _ w1 (fun w' hw => hG w' (hS.ext.trans hw)) b3' (by decide) ⟨by decide, trivial, trivial⟩ (by decide) (by rw [rd_out]; decide)
  rw [rd_out] at hp
  refine lst_enter (run_call (by kernel_rfl) (args_1 (by conv => lhs; whnf))) rfl ?_
  refine Calls.mono (hp) ?_
  rintro _ w2 ⟨rfl, hb2⟩
  refine ⟨_, rfl, ?_⟩
  replace hS := hS.grow hb2
  refine lst_guard rfl rfl ?_
  first
    | refine lst_run (run_eql_str rfl rfl) rfl ?_
    | refine lst_run (rfl) rfl ?_
  first
    | refine lst_run (run_pick_t rfl (by conv => lhs; whnf)) rfl ?_
    | refine lst_run (run_pick_f rfl (by conv => lhs; whnf)) rfl ?_
  refine lst_run (run_assign (by conv => lhs; whnf)) rfl ?_
  refine lst_done ?_
  refine goes_ret1 Tryz.func8 rfl (by conv => lhs; whnf) ?_
  exact ⟨rfl, hS.ext.below⟩
end Go.Proofs.YtdiophafmokfiaaGreatDoor
namespace Go.Proofs.YtdiophafmokfiaaGreatDoor
open Go.RowKit
set_option linter.unusedVariables false

/-! Words -/
def wordLen : Str → Nat
  | [] => 0
  | c :: r =>
    if lowB c || upB c then 1 + spanN lowB r
    else if digB c || (c == 45) then 1 + spanN digB r
    else if ([58, 45] : Str).isPrefixOf (c :: r) then 2
    else if signs.contains c then 1
    else 0
def wordsF : Nat → Str → List Str
  | 0, _ => []
  | f + 1, [] => []
  | f + 1, c :: r =>
    if whiteB c then wordsF f r
    else if wordLen (c :: r) = 0 then [[]]
    else (c :: r).take (wordLen (c :: r)) :: wordsF f ((c :: r).drop (wordLen (c :: r)))
def wordsM (l : Str) : List Str := wordsF l.length l
theorem wordLen_le (l : Str) : wordLen l ≤ l.length := by
  cases l with
  | nil => exact Nat.le_refl _
  | cons c r =>
    have h1 := spanN_le lowB r
    have h2 := spanN_le digB r
    simp only [wordLen]
    split
    · simp; omega
    split
    · simp; omega
    split
    · rename_i h
      cases r with
      | nil => simp [List.isPrefixOf] at h
      | cons d r => simp
    split
    · simp
    · simp
theorem words_fuel : ∀ (n : Nat) (l : Str), l.length ≤ n → wordsF n l = wordsM l := by
  intro n
  induction n using Nat.strongRecOn with
  | _ n ih =>
    intro l hn
    cases l with
    | nil => cases n <;> rfl
    | cons c r =>
      obtain ⟨m, rfl⟩ : ∃ m, n = m + 1 := ⟨n - 1, by simp at hn; omega⟩
      unfold wordsM
      simp only [List.length_cons] at hn ⊢
      simp only [wordsF]
      split
      · rw [ih m (by omega) r (by omega)]; rfl
      split
      · rfl
      · rename_i hw
        have hl : ((c :: r).drop (wordLen (c :: r))).length ≤ r.length := by
          rw [List.length_drop]; simp; omega
        rw [ih m (by omega) _ (by omega)]
        by_cases e : m = r.length
        · rw [e] at ih; rw [← ih r.length (by omega) _ hl]
        · rw [← ih r.length (by omega) _ hl]
theorem words_nil : wordsM [] = [] := rfl
theorem words_white {c : UInt8} (r : Str) (h : whiteB c = true) : wordsM (c :: r) = wordsM r := by
  rw [← words_fuel (r.length + 1) (c :: r) (by simp), wordsF, if_pos h, words_fuel _ r (Nat.le_refl _)]
theorem words_bad {c : UInt8} (r : Str) (h : whiteB c = false) (hw : wordLen (c :: r) = 0) : wordsM (c :: r) = [[]] := by
  rw [← words_fuel (r.length + 1) (c :: r) (by simp), wordsF, if_neg (by simp [h]), if_pos hw]
theorem words_word {c : UInt8} (r : Str) (h : whiteB c = false) (hw : wordLen (c :: r) ≠ 0) : wordsM (c :: r) = (c :: r).take (wordLen (c :: r)) :: wordsM ((c :: r).drop (wordLen (c :: r))) := by
  rw [← words_fuel (r.length + 1) (c :: r) (by simp), wordsF, if_neg (by simp [h]), if_neg hw, words_fuel _ _ (by rw [List.length_drop]; simp; omega)]

/-! The reader of words -/
structure PS where
  l : List Str
  vars : List Str
  bad : Bool
def PS.has (p : PS) (t : Str) : Bool := p.l.head? == some t
def PS.pop (p : PS) : PS := { p with l := p.l.tail }
def PS.spoil (p : PS) : PS := { p with bad := true }
/-- Behind a list: the word t is wanted. -/
def PS.close (p : PS) (t : Str) : PS := if p.bad then p else if p.has t then p.pop else p.spoil
def PS.var (p : PS) (x : Str) : Nat × PS := if x ∈ p.vars then (idxOfV p.vars x, p) else (p.vars.length, { p with vars := p.vars ++ [x] })
def dval (d : Str) : Nat := d.foldl (fun n c => 10 * n + (c - 48).toNat) 0
def bareM (s : Str) : Str := match s with | 45 :: r => r | _ => s
def valueM (s : Str) : Option Int :=
  let d := bareM s
  if d = [] ∨ 13 < d.length ∨ (headC d = 48 ∧ s ≠ [48]) then none
  else if 1099511627776 < dval d then none
  else some (if d = s then (dval d : Int) else -(dval d : Int))
def refLoop (f : PS → Nd × PS) : Nat → PS → List Nd × PS
  | 0, p => ([], p)
  | fuel + 1, p => if p.bad = false ∧ p.has [44] = true then
      let a := f p.pop
      let q := refLoop f fuel a.2
      (a.1 :: q.1, q.2)
    else ([], p)
def refTerms (f : PS → Nd × PS) (t : Str) (p : PS) : List Nd × PS :=
  let a := f p
  let q := refLoop f a.2.l.length a.2
  (a.1 :: q.1, q.2.close t)
def refTerm : Nat → PS → Nd × PS
  | 0, p => (Nd.zero, p.spoil)
  | d + 1, p => match p.l with
    | [] => (Nd.zero, p.spoil)
    | [] :: _ => (Nd.zero, p.spoil)
    | (c :: r) :: _ =>
      if c :: r = [33] then (⟨1, 0, [33], .nil⟩, p.pop)
      else if upB c then (⟨0, (p.pop.var (c :: r)).1, [], .nil⟩, (p.pop.var (c :: r)).2)
      else if (c == 45) || digB c then (⟨2, (valueM (c :: r)).getD 0, [], .nil⟩, { p.pop with bad := p.bad || (valueM (c :: r)).isNone })
      else if lowB c = false then (Nd.zero, p.spoil)
      else if p.pop.has [40] then
        (⟨3, 0, c :: r, tsOf (refTerms (refTerm d) [41] p.pop.pop).1⟩, (refTerms (refTerm d) [41] p.pop.pop).2)
      else (⟨1, 0, c :: r, .nil⟩, p.pop)
def refGoals (p : PS) : List Nd × PS := refTerms (refTerm 24) [46] p
def refBody (p : PS) : List Nd × PS := if p.bad = false ∧ p.has [58, 45] = true then refGoals p.pop else ([], p.close [46])

/-! Nothing comes back that was read. -/
theorem pop_le (p : PS) : p.pop.l.length ≤ p.l.length := by simp [PS.pop]
theorem close_le (p : PS) (t : Str) : (p.close t).l.length ≤ p.l.length := by
  unfold PS.close
  split
  · exact Nat.le_refl _
  split
  · exact pop_le p
  · exact Nat.le_refl _
theorem has_pop {p : PS} {t : Str} (h : p.has t = true) : p.pop.l.length < p.l.length ∧ p.l = t :: p.pop.l := by
  unfold PS.has at h
  cases hl : p.l with
  | nil => rw [hl] at h; simp at h
  | cons x r => rw [hl] at h; simp at h; simp [PS.pop, hl, h]
def LessP (f : PS → Nd × PS) : Prop := ∀ p, (f p).2.l.length ≤ p.l.length
theorem refLoop_le {f : PS → Nd × PS} (hf : LessP f) : ∀ (n : Nat) (p : PS), (refLoop f n p).2.l.length ≤ p.l.length
  | 0, p => Nat.le_refl _
  | n + 1, p => by
    unfold refLoop
    split
    · have h1 := refLoop_le hf n (f p.pop).2
      have h2 := hf p.pop
      have h3 := pop_le p
      simp only
      omega
    · exact Nat.le_refl _
theorem refTerms_le {f : PS → Nd × PS} (hf : LessP f) (t : Str) (p : PS) : (refTerms f t p).2.l.length ≤ p.l.length := by
  have h1 := refLoop_le hf (f p).2.l.length (f p).2
  have h2 := hf p
  have h3 := close_le (refLoop f (f p).2.l.length (f p).2).2 t
  simp only [refTerms]
  omega
theorem pvar_l (p : PS) (x : Str) : (p.var x).2.l = p.l ∧ (p.var x).2.bad = p.bad := by
  unfold PS.var
  split <;> exact ⟨rfl, rfl⟩
theorem refTerm_le : ∀ d, LessP (refTerm d)
  | 0, p => Nat.le_refl _
  | d + 1, p => by
    unfold refTerm
    have h1 := pop_le p
    split
    · exact Nat.le_refl _
    · exact Nat.le_refl _
    · rename_i c r q hl
      split
      · exact h1
      split
      · rw [(pvar_l _ _).1]; exact h1
      split
      · exact h1
      split
      · exact Nat.le_refl _
      split
      · have h2 := refTerms_le (refTerm_le d) [41] p.pop.pop
        have h3 := pop_le p.pop
        simp only; omega
      · exact h1
theorem refLoop_fuel {f : PS → Nd × PS} (hf : LessP f) : ∀ (n : Nat) (p : PS), p.l.length ≤ n → refLoop f n p = refLoop f p.l.length p := by
  intro n
  induction n using Nat.strongRecOn with
  | _ n ih =>
    intro p hn
    by_cases ht : p.bad = false ∧ p.has [44] = true
    · have h1 := (has_pop ht.2).1
      have h2 := hf p.pop
      obtain ⟨m, rfl⟩ : ∃ m, n = m + 1 := ⟨n - 1, by omega⟩
      obtain ⟨l, hl⟩ : ∃ l, p.l.length = l + 1 := ⟨p.l.length - 1, by omega⟩
      rw [hl]
      simp only [refLoop, if_pos ht]
      rw [ih m (by omega) (f p.pop).2 (by omega), ih l (by omega) (f p.pop).2 (by omega)]
    · have h0 : ∀ k, refLoop f k p = ([], p) := fun k => by cases k with | zero => rfl | succ k => simp only [refLoop, if_neg ht]
      rw [h0, h0]
theorem refLoop_step {f : PS → Nd × PS} (hf : LessP f) {p : PS} (ht : p.bad = false ∧ p.has [44] = true) : refLoop f p.l.length p = ((f p.pop).1 :: (refLoop f (f p.pop).2.l.length (f p.pop).2).1, (refLoop f (f p.pop).2.l.length (f p.pop).2).2) := by
  have h1 := (has_pop ht.2).1
  have h2 := hf p.pop
  obtain ⟨l, hl⟩ : ∃ l, p.l.length = l + 1 := ⟨p.l.length - 1, by omega⟩
  rw [hl]
  simp only [refLoop, if_pos ht]
  rw [refLoop_fuel hf l (f p.pop).2 (by omega)]
theorem refLoop_stop {f : PS → Nd × PS} {p : PS} (ht : ¬ (p.bad = false ∧ p.has [44] = true)) : refLoop f p.l.length p = ([], p) := by
  cases p.l.length with
  | zero => rfl
  | succ k => simp only [refLoop, if_neg ht]
end Go.Proofs.YtdiophafmokfiaaGreatDoor
