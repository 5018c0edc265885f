/- HWalk4, HPure: texts that follow one another, laid into one file. -/
import Derived.Test.YtjicoifjgokoiabG3
import Derived.Test.YtjicoifjgokoiabG0
namespace Go.Proofs.Ytjicoifjgokoiab
open Go.RowKit
set_option linter.unusedVariables false
set_option linter.unusedSimpArgs false
set_option maxRecDepth 100000
set_option maxHeartbeats 1000000

section
variable {M : List Nat} {w0 : World} {H : List (Nat × Obj)} {F : List (World → Prop)}
/-- What a function that gives a heap leaves. -/
def HRes (M : List Nat) (w0 : World) (H : List (Nat × Obj)) (F : List (World → Prop)) (h : HH) (k : Option Addr → Nat → Option Addr → Nat → Ending → Prop) (e : Ending) (w : World) : Prop :=
  ∃ (A : Option Addr) (c : Nat) (B : Option Addr) (d : Nat) (F' : List (World → Prop)), k A c B d e ∧ (∀ φ ∈ F, φ ∈ F') ∧ Und F' (HFl h A c B d) ∧ St M w0 H F' w
theorem load_any (h : HH) (K : List HC) (A B A2 : Option Addr) (c d c2 : Nat) (w : World) (hH : Und F (HFl h A c B d)) (hK : Und F (Flat 3 (hcsL K) A2 K.length c2)) (hS : St M w0 H F w) :
    Calls Try.prog 45 #[hv h A c B d, .slice A2 K.length c2] w (HRes M w0 H F (loadH h K).1 fun A' c' B' d' e => e = .returned (.tuple #[hv (loadH h K).1 A' c' B' d', .int .i64 ((loadH h K).2.1 : Nat), .int .i64 (loadH h K).2.2])) := by
  refine goes_enter2 Try.func45 rfl Try.ntmps45 rfl ?_
  refine goes_seq ?_
  refine goes_region ?_
  refine lst_box hS rfl rfl ?_
  clear hS
  intro b1 wx1 hS
  refine lst_alloc (cs := [_, _]) hS rfl rfl rfl ?_
  clear hS
  intro b2 wx2 hS
  refine lst_run (run_assign (by conv => lhs; whnf)) rfl ?_
  refine lst_run (run_assign (by conv => lhs; whnf)) rfl ?_
  refine lst_done ?_
  refine goes_seq ?_
  refine goes_seq ?_
  refine goes_region ?_
  first
    | refine lst_run (run_loadN_own (k := 2) hS rfl rfl rfl (by first | exact .head | exact .tail .head | exact .tail (.tail .head) | exact .tail (.tail (.tail .head)) | exact .tail (.tail (.tail (.tail .head))) | exact .tail (.tail (.tail (.tail (.tail .head))))) (by repeat constructor)) rfl ?_
    | refine lst_run (run_load2 rfl rfl rfl (by first | assumption | exact hS.cell0 (by assumption)) (by first | assumption | exact hS.cell0 (by assumption))) rfl ?_
  refine lst_enter (run_call (by kernel_rfl) (args_1 (by conv => lhs; whnf))) rfl ?_
  refine Calls.mono (good_any h A B c d _ (hS.und hH)) ?_
  rintro _ w2 ⟨rfl, hb2⟩
  refine ⟨_, rfl, ?_⟩
  replace hS := hS.grow hb2
  cases hg : goodH h with
  | false =>
    have e0 : loadH h K = (h, 0, 1) := by unfold loadH; rw [hg]; rfl
    rw [e0]
    refine lst_run (rfl) rfl ?_
    refine lst_run (run_move (by conv => lhs; whnf)) rfl ?_
    refine lst_pass rfl rfl rfl ?_
    refine lst_pass rfl rfl rfl ?_
    refine lst_pass rfl rfl rfl ?_
    first
      | refine lst_run (run_pick_t rfl (by conv => lhs; whnf)) rfl ?_
      | refine lst_run (run_pick_f rfl (by conv => lhs; whnf)) rfl ?_
    refine lst_done ?_
    refine goes_true rfl ?_
    refine goes_seq ?_
    refine goes_region ?_
    first
      | refine lst_run (run_loadN_own (k := 2) hS rfl rfl rfl (by first | exact .head | exact .tail .head | exact .tail (.tail .head) | exact .tail (.tail (.tail .head)) | exact .tail (.tail (.tail (.tail .head))) | exact .tail (.tail (.tail (.tail (.tail .head))))) (by repeat constructor)) rfl ?_
      | refine lst_run (run_load2 rfl rfl rfl (by first | assumption | exact hS.cell0 (by assumption)) (by first | assumption | exact hS.cell0 (by assumption))) rfl ?_
    refine lst_storeN hS rfl (by conv => lhs; whnf) rfl rfl (by first | exact .head | exact .tail .head | exact .tail (.tail .head) | exact .tail (.tail (.tail .head)) | exact .tail (.tail (.tail (.tail .head))) | exact .tail (.tail (.tail (.tail (.tail .head))))) (by repeat constructor) (by first | exact .head | exact .tail .head | exact .tail (.tail .head) | exact .tail (.tail (.tail .head)) | exact .tail (.tail (.tail (.tail .head))) | exact .tail (.tail (.tail (.tail (.tail .head))))) ?_
    clear hS
    intro wx3 hS
    refine lst_run (run_assign (by conv => lhs; whnf)) rfl ?_
    refine lst_run (run_assign (by conv => lhs; whnf)) rfl ?_
    refine lst_done ?_
    refine goes_retC3 (sz := 2) hS Try.func45 rfl rfl (by conv => lhs; whnf) (by conv => lhs; whnf) rfl rfl (by first | exact .head | exact .tail .head | exact .tail (.tail .head) | exact .tail (.tail (.tail .head)) | exact .tail (.tail (.tail (.tail .head))) | exact .tail (.tail (.tail (.tail (.tail .head))))) (by repeat constructor) ?_
    exact ⟨A, c, B, d, F, rfl, fun _ h => h, hH, hS.drop.drop⟩
  | true =>
  obtain ⟨hl1, hl2⟩ := good_len hg
  refine lst_run (rfl) rfl ?_
  refine lst_run (run_move (by conv => lhs; whnf)) rfl ?_
  refine lst_guard rfl rfl ?_
  refine lst_run (run_move (by conv => lhs; whnf)) rfl ?_
  refine lst_guard rfl rfl ?_
  refine lst_enter (run_call (by kernel_rfl) (args_1 (by conv => lhs; whnf))) rfl ?_
  refine Calls.mono (goodCells_any K A2 c2 _ (hS.und hK)) ?_
  rintro _ w3 ⟨rfl, hb3⟩
  refine ⟨_, rfl, ?_⟩
  replace hS := hS.grow hb3
  cases hgk : goodCs K with
  | false =>
    have e0 : loadH h K = (h, 0, 1) := by unfold loadH; rw [hg, hgk]; rfl
    rw [e0]
    refine lst_guard rfl rfl ?_
    refine lst_run (rfl) rfl ?_
    first
      | refine lst_run (run_pick_t rfl (by conv => lhs; whnf)) rfl ?_
      | refine lst_run (run_pick_f rfl (by conv => lhs; whnf)) rfl ?_
    refine lst_done ?_
    refine goes_true rfl ?_
    refine goes_seq ?_
    refine goes_region ?_
    first
      | refine lst_run (run_loadN_own (k := 2) hS rfl rfl rfl (by first | exact .head | exact .tail .head | exact .tail (.tail .head) | exact .tail (.tail (.tail .head)) | exact .tail (.tail (.tail (.tail .head))) | exact .tail (.tail (.tail (.tail (.tail .head))))) (by repeat constructor)) rfl ?_
      | refine lst_run (run_load2 rfl rfl rfl (by first | assumption | exact hS.cell0 (by assumption)) (by first | assumption | exact hS.cell0 (by assumption))) rfl ?_
    refine lst_storeN hS rfl (by conv => lhs; whnf) rfl rfl (by first | exact .head | exact .tail .head | exact .tail (.tail .head) | exact .tail (.tail (.tail .head)) | exact .tail (.tail (.tail (.tail .head))) | exact .tail (.tail (.tail (.tail (.tail .head))))) (by repeat constructor) (by first | exact .head | exact .tail .head | exact .tail (.tail .head) | exact .tail (.tail (.tail .head)) | exact .tail (.tail (.tail (.tail .head))) | exact .tail (.tail (.tail (.tail (.tail .head))))) ?_
    clear hS
    intro wx3 hS
    refine lst_run (run_assign (by conv => lhs; whnf)) rfl ?_
    refine lst_run (run_assign (by conv => lhs; whnf)) rfl ?_
    refine lst_done ?_
    refine goes_retC3 (sz := 2) hS Try.func45 rfl rfl (by conv => lhs; whnf) (by conv => lhs; whnf) rfl rfl (by first | exact .head | exact .tail .head | exact .tail (.tail .head) | exact .tail (.tail (.tail .head)) | exact .tail (.tail (.tail (.tail .head))) | exact .tail (.tail (.tail (.tail (.tail .head))))) (by repeat constructor) ?_
    exact ⟨A, c, B, d, F, rfl, fun _ h => h, hH, hS.drop.drop⟩
  | true =>
  have hlk : K.length ≤ 65536 := by
    unfold goodCs at hgk
    simp only [Bool.and_eq_true, decide_eq_true_eq] at hgk
    exact hgk.1
  by_cases hlong : 65536 < h.cs.length + K.length
  · have e0 : loadH h K = (h, 0, 3) := by unfold loadH; rw [hg, hgk, if_neg (by decide), if_pos hlong]
    rw [e0]
    refine lst_guard rfl rfl ?_
    refine lst_run (rfl) rfl ?_
    first
      | refine lst_run (run_pick_t rfl (by conv => lhs; whnf)) rfl ?_
      | refine lst_run (run_pick_f rfl (by conv => lhs; whnf)) rfl ?_
    refine lst_done ?_
    refine goes_false rfl ?_
    refine goes_skip ?_
    refine goes_seq ?_
    refine goes_region ?_
    refine lst_run (run_fieldAddr (off := 0) rfl rfl) rfl ?_
    first
      | refine lst_run (run_load1_own hS rfl rfl (by first | exact .head | exact .tail .head | exact .tail (.tail .head) | exact .tail (.tail (.tail .head)) | exact .tail (.tail (.tail (.tail .head))) | exact .tail (.tail (.tail (.tail (.tail .head))))) (by repeat constructor)) rfl ?_
      | refine lst_run (run_load1 rfl rfl (by first | assumption | exact hS.cell0 (by assumption) | exact lv_next hS | exact lv_list hS)) rfl ?_
    refine lst_run (run_len_slice rfl rfl rfl) rfl ?_
    refine lst_run (run_assign (by conv => lhs; whnf)) rfl ?_
    refine lst_done ?_
    refine goes_seq ?_
    refine goes_seq ?_
    refine goes_region ?_
    refine lst_run (run_move (by conv => lhs; whnf)) rfl ?_
    refine lst_run (run_move (by conv => lhs; whnf)) rfl ?_
    refine lst_run (run_len_slice rfl rfl rfl) rfl ?_
    refine lst_run (run_add rfl rfl (by omega) (by omega)) rfl ?_
    first
      | refine lst_run (run_gtr_yes rfl rfl (by omega)) rfl ?_
      | refine lst_run (run_gtr_no rfl rfl (by omega)) rfl ?_
      | refine lst_run (rfl) rfl ?_
    refine lst_done ?_
    refine goes_true rfl ?_
    refine goes_seq ?_
    refine goes_region ?_
    first
      | refine lst_run (run_loadN_own (k := 2) hS rfl rfl rfl (by first | exact .head | exact .tail .head | exact .tail (.tail .head) | exact .tail (.tail (.tail .head)) | exact .tail (.tail (.tail (.tail .head))) | exact .tail (.tail (.tail (.tail (.tail .head))))) (by repeat constructor)) rfl ?_
      | refine lst_run (run_load2 rfl rfl rfl (by first | assumption | exact hS.cell0 (by assumption)) (by first | assumption | exact hS.cell0 (by assumption))) rfl ?_
    refine lst_storeN hS rfl (by conv => lhs; whnf) rfl rfl (by first | exact .head | exact .tail .head | exact .tail (.tail .head) | exact .tail (.tail (.tail .head)) | exact .tail (.tail (.tail (.tail .head))) | exact .tail (.tail (.tail (.tail (.tail .head))))) (by repeat constructor) (by first | exact .head | exact .tail .head | exact .tail (.tail .head) | exact .tail (.tail (.tail .head)) | exact .tail (.tail (.tail (.tail .head))) | exact .tail (.tail (.tail (.tail (.tail .head))))) ?_
    clear hS
    intro wx3 hS
    refine lst_run (run_assign (by conv => lhs; whnf)) rfl ?_
    refine lst_run (run_assign (by conv => lhs; whnf)) rfl ?_
    refine lst_done ?_
    refine goes_retC3 (sz := 2) hS Try.func45 rfl rfl (by conv => lhs; whnf) (by conv => lhs; whnf) rfl rfl (by first | exact .head | exact .tail .head | exact .tail (.tail .head) | exact .tail (.tail (.tail .head)) | exact .tail (.tail (.tail (.tail .head))) | exact .tail (.tail (.tail (.tail (.tail .head))))) (by repeat constructor) ?_
    exact ⟨A, c, B, d, F, rfl, fun _ h => h, hH, hS.drop.drop⟩
  have e0 : loadH h K = (⟨h.cs ++ K.map (moved h.cs.length), h.tr⟩, h.cs.length, 0) := by unfold loadH; rw [hg, hgk, if_neg (by decide), if_neg hlong]
  rw [e0]
  refine lst_guard rfl rfl ?_
  refine lst_run (rfl) rfl ?_
  first
    | refine lst_run (run_pick_t rfl (by conv => lhs; whnf)) rfl ?_
    | refine lst_run (run_pick_f rfl (by conv => lhs; whnf)) rfl ?_
  refine lst_done ?_
  refine goes_false rfl ?_
  refine goes_skip ?_
  refine goes_seq ?_
  refine goes_region ?_
  refine lst_run (run_fieldAddr (off := 0) rfl rfl) rfl ?_
  first
    | refine lst_run (run_load1_own hS rfl rfl (by first | exact .head | exact .tail .head | exact .tail (.tail .head) | exact .tail (.tail (.tail .head)) | exact .tail (.tail (.tail (.tail .head))) | exact .tail (.tail (.tail (.tail (.tail .head))))) (by repeat constructor)) rfl ?_
    | refine lst_run (run_load1 rfl rfl (by first | assumption | exact hS.cell0 (by assumption) | exact lv_next hS | exact lv_list hS)) rfl ?_
  refine lst_run (run_len_slice rfl rfl rfl) rfl ?_
  refine lst_run (run_assign (by conv => lhs; whnf)) rfl ?_
  refine lst_done ?_
  refine goes_seq ?_
  refine goes_seq ?_
  refine goes_region ?_
  refine lst_run (run_move (by conv => lhs; whnf)) rfl ?_
  refine lst_run (run_move (by conv => lhs; whnf)) rfl ?_
  refine lst_run (run_len_slice rfl rfl rfl) rfl ?_
  refine lst_run (run_add rfl rfl (by omega) (by omega)) rfl ?_
  first
    | refine lst_run (run_gtr_yes rfl rfl (by omega)) rfl ?_
    | refine lst_run (run_gtr_no rfl rfl (by omega)) rfl ?_
    | refine lst_run (rfl) rfl ?_
  refine lst_done ?_
  refine goes_false rfl ?_
  refine goes_skip ?_
  refine goes_seq ?_
  refine goes_region ?_
  refine lst_run (run_fieldAddr (off := 0) rfl rfl) rfl ?_
  first
    | refine lst_run (run_load1_own hS rfl rfl (by first | exact .head | exact .tail .head | exact .tail (.tail .head) | exact .tail (.tail (.tail .head)) | exact .tail (.tail (.tail (.tail .head))) | exact .tail (.tail (.tail (.tail (.tail .head))))) (by repeat constructor)) rfl ?_
    | refine lst_run (run_load1 rfl rfl (by first | assumption | exact hS.cell0 (by assumption) | exact lv_next hS | exact lv_list hS)) rfl ?_
  refine lst_run (run_move (by conv => lhs; whnf)) rfl ?_
  refine lst_buildSlice (cells := [_, _]) hS (.cons (by conv => lhs; whnf) (.cons (by conv => lhs; whnf) .nil)) rfl rfl ?_
  clear hS
  intro b3 wx3 hS
  refine lst_enter (run_call (by kernel_rfl) (args_1 (by conv => lhs; whnf))) rfl ?_
  refine Calls.mono (concat_any h.cs K A A2 c c2 _ _ (hH.imp fun _ h => h.1) hK (by omega) hS) ?_
  rintro _ w4 ⟨A4, c4, O4, rfl, hrow4, hS'⟩
  refine ⟨_, rfl, ?_⟩
  replace hS := hS'
  clear hS'
  have hcl : (h.cs ++ K).length = h.cs.length + K.length := by simp
  have hc4 : h.cs.length ≤ c4 := by obtain ⟨_, _, e, hle⟩ := hrow4.form; cases e; omega
  have hn : (((h.cs ++ K).length - ((h.cs.length : Nat) : Int).toNat : Nat) : Int) = ((K.length : Nat) : Int) := by rw [hcl]; omega
  refine lst_run (run_assign (by conv => lhs; whnf)) rfl ?_
  refine lst_done ?_
  refine goes_seq ?_
  refine goes_seq ?_
  refine goes_region ?_
  refine lst_run (run_move (by conv => lhs; whnf)) rfl ?_
  refine lst_run (run_move (by conv => lhs; whnf)) rfl ?_
  first
    | refine lst_run (run_slice_lt (sz := 3) rfl rfl rfl rfl (by omega) (by omega) (by omega)) rfl ?_
    | refine lst_run (run_slice_rest (sz := 3) rfl rfl rfl rfl (by omega) (by omega)) rfl ?_
  refine lst_run (run_len_slice rfl rfl rfl) rfl ?_
  refine lst_run (run_move (by conv => lhs; whnf)) rfl ?_
  refine lst_done ?_
  refine goes_block ?_
  rw [hn]
  refine goes_loop1 38 (39 :: 40 :: 9 :: 41 :: 42 :: 43 :: 44 :: 45 :: 10 :: 46 :: 47 :: 48 :: 49 :: 50 :: 51 :: 52 :: 53 :: 54 :: 55 :: 56 :: 57 :: 58 :: 59 :: []) (fun (R : List HC) v w' => ∃ (D : List HC) (O : List (Nat × Obj)), K = D ++ R ∧ v = .int .i64 (D.length : Nat) ∧ Rw 59 3 (.slice A4 (h.cs ++ K).length c4) (h.cs ++ K).length (hcsL ((h.cs ++ D.map (moved h.cs.length)) ++ R)) O ∧ St M w0 (O ++ (b2, hob none 0 0 none 0 0) :: (b1, hob A h.cs.length c B h.tr.length d) :: H) F w') (fun R => R.length) (K) ?_ (by conv => lhs; whnf) ?_
  · exact ⟨[], O4, rfl, rfl, by simpa using hrow4, hS⟩
  clear hS
  rintro R _ w5 jv ⟨D, O, hD, rfl, hrow, hS⟩ ih
  have hlen : K.length = D.length + R.length := by rw [hD]; simp
  cases R with
  | nil =>
    simp only [List.length_nil] at hlen
    have hKD : K = D := by simpa using hD
    subst hKD
    rw [List.append_nil] at hrow
    have hS2 := St.freezeR hrow hS
    have hl5 : (h.cs ++ K.map (moved h.cs.length)).length = (h.cs ++ K).length := by simp
    replace hS := hS2
    clear hS2
    refine goes_seq ?_
    refine goes_region ?_
    first
      | refine lst_run (run_lss_yes rfl rfl (by omega)) rfl ?_
      | refine lst_run (run_lss_no rfl rfl (by omega)) rfl ?_
      | refine lst_run (rfl) rfl ?_
    refine lst_done ?_
    refine goes_seq ?_
    refine goes_false rfl ?_
    refine goes_exit rfl ?_
    refine goes_seq ?_
    refine goes_region ?_
    refine lst_run (run_move (by conv => lhs; whnf)) rfl ?_
    refine lst_run (run_fieldAddr (off := 1) rfl rfl) rfl ?_
    first
      | refine lst_run (run_load1_own hS rfl rfl (by first | exact .head | exact .tail .head | exact .tail (.tail .head) | exact .tail (.tail (.tail .head)) | exact .tail (.tail (.tail (.tail .head))) | exact .tail (.tail (.tail (.tail (.tail .head))))) (by repeat constructor)) rfl ?_
      | refine lst_run (run_load1 rfl rfl (by first | assumption | exact hS.cell0 (by assumption) | exact lv_next hS | exact lv_list hS)) rfl ?_
    refine lst_run (run_build (cells := [_, _]) (.cons (by conv => lhs; whnf) (.cons (by conv => lhs; whnf) .nil)) rfl) rfl ?_
    refine lst_run (run_move (by conv => lhs; whnf)) rfl ?_
    refine lst_storeN hS rfl (by conv => lhs; whnf) rfl rfl (by first | exact .head | exact .tail .head | exact .tail (.tail .head) | exact .tail (.tail (.tail .head)) | exact .tail (.tail (.tail (.tail .head))) | exact .tail (.tail (.tail (.tail (.tail .head))))) (by repeat constructor) (by first | exact .head | exact .tail .head | exact .tail (.tail .head) | exact .tail (.tail (.tail .head)) | exact .tail (.tail (.tail (.tail .head))) | exact .tail (.tail (.tail (.tail (.tail .head))))) ?_
    clear hS
    intro wx4 hS
    refine lst_run (run_assign (by conv => lhs; whnf)) rfl ?_
    refine lst_run (run_assign (by conv => lhs; whnf)) rfl ?_
    refine lst_done ?_
    refine goes_retC3 (sz := 2) hS Try.func45 rfl rfl (by conv => lhs; whnf) (by conv => lhs; whnf) rfl rfl (by first | exact .head | exact .tail .head | exact .tail (.tail .head) | exact .tail (.tail (.tail .head)) | exact .tail (.tail (.tail (.tail .head))) | exact .tail (.tail (.tail (.tail (.tail .head))))) (by repeat constructor) ?_
    refine ⟨A4, c4, B, d, _, ?_, fun φ h => .tail _ h, ?_, hS.drop.drop⟩
    · dsimp only [hv, heapV]; rw [hl5]
    · intro w' hw
      refine ⟨?_, ((hH.tail) w' hw).2⟩
      have := hw _ (.head _)
      rw [← hl5] at this
      exact this
  | cons x R =>
    simp only [List.length_cons] at hlen
    obtain ⟨g, sp, hA4, hO, hcap, hle, _⟩ := hrow.some_ (by omega)
    subst hA4 hO
    have hi : ((h.cs ++ D.map (moved h.cs.length)) ++ x :: R)[((h.cs.length : Int) + ((D.length : Nat) : Int)).toNat]? = some x := by
      rw [show ((h.cs.length : Int) + ((D.length : Nat) : Int)).toNat = (h.cs ++ D.map (moved h.cs.length)).length by simp; omega]; simp
    have hcc : ∀ w', St M w0 ([(g, .cells (hcsL ((h.cs ++ D.map (moved h.cs.length)) ++ x :: R) ++ sp).toArray 59)] ++ (b2, hob none 0 0 none 0 0) :: (b1, hob A h.cs.length c B h.tr.length d) :: H) F w' → _ := fun w' hS => Flat.cell (b := g) (o := 0) (L := (h.cs ++ D.map (moved h.cs.length)) ++ x :: R) (cap := c4) (by have := hrow.flat hS; rw [show (h.cs ++ K).length = ((h.cs ++ D.map (moved h.cs.length)) ++ x :: R).length by rw [hD]; simp] at this; exact this) hi
    by_cases hk : x.k = 0
    · have hxn : 0 ≤ x.n ∧ x.n ≤ 65536 := by
        unfold goodCs at hgk
        simp only [Bool.and_eq_true, decide_eq_true_eq] at hgk
        have hgc : goodC K.length x R.length = true := by
          cases hq : goodC K.length x R.length with
          | true => rfl
          | false => have := goodL_false (D := D) hq; rw [← hD, hgk.2] at this; cases this
        unfold goodC at hgc
        rw [if_pos hk] at hgc
        simp only [Bool.and_eq_true, decide_eq_true_eq] at hgc
        omega
      refine goes_seq ?_
      refine goes_region ?_
      first
        | refine lst_run (run_lss_yes rfl rfl (by omega)) rfl ?_
        | refine lst_run (run_lss_no rfl rfl (by omega)) rfl ?_
        | refine lst_run (rfl) rfl ?_
      refine lst_done ?_
      refine goes_seq ?_
      refine goes_true rfl ?_
      refine goes_skip ?_
      refine goes_seq ?_
      refine goes_block ?_
      refine goes_seq ?_
      refine goes_region ?_
      refine lst_run (run_move (by conv => lhs; whnf)) rfl ?_
      refine lst_run (run_assign (by conv => lhs; whnf)) rfl ?_
      refine lst_done ?_
      refine goes_seq ?_
      refine goes_region ?_
      refine lst_run (run_move (by conv => lhs; whnf)) rfl ?_
      refine lst_run (run_move (by conv => lhs; whnf)) rfl ?_
      refine lst_run (run_move (by conv => lhs; whnf)) rfl ?_
      refine lst_run (run_add rfl rfl (by omega) (by omega)) rfl ?_
      refine lst_run (run_indexAddr (sz := 3) rfl rfl rfl rfl (by omega) (by omega)) rfl ?_
      refine lst_run (run_assign (by conv => lhs; whnf)) rfl ?_
      refine lst_done ?_
      refine goes_seq ?_
      refine goes_region ?_
      refine lst_run (run_move (by conv => lhs; whnf)) rfl ?_
      refine lst_run (run_nilCheck rfl) rfl ?_
      refine lst_run (run_fieldAddr (off := 0) rfl rfl) rfl ?_
      first
        | refine lst_run (run_load1_own hS rfl rfl (by first | exact .head | exact .tail .head | exact .tail (.tail .head) | exact .tail (.tail (.tail .head)) | exact .tail (.tail (.tail (.tail .head))) | exact .tail (.tail (.tail (.tail (.tail .head))))) (by repeat constructor)) rfl ?_
        | refine lst_run (run_load1 rfl rfl (by first | assumption | exact (hcc _ hS).1 | exact (hcc _ hS).2.1 | exact (hcc _ hS).2.2 | exact hS.cell0 (by assumption) | exact lv_next hS | exact lv_list hS)) rfl ?_
      first
        | refine lst_run (run_eql_one_int rfl rfl) rfl ?_
        | refine lst_run (run_eql_no rfl rfl (by first | assumption | omega)) rfl ?_
        | refine lst_run (run_eql_yes rfl rfl (by omega)) rfl ?_
        | refine lst_run (rfl) rfl ?_
      refine lst_done ?_
      refine goes_true rfl ?_
      refine goes_region ?_
      refine lst_run (run_move (by conv => lhs; whnf)) rfl ?_
      refine lst_run (run_nilCheck rfl) rfl ?_
      refine lst_run (run_fieldAddr (off := 1) rfl rfl) rfl ?_
      first
        | refine lst_run (run_load1_own hS rfl rfl (by first | exact .head | exact .tail .head | exact .tail (.tail .head) | exact .tail (.tail (.tail .head)) | exact .tail (.tail (.tail (.tail .head))) | exact .tail (.tail (.tail (.tail (.tail .head))))) (by repeat constructor)) rfl ?_
        | refine lst_run (run_load1 rfl rfl (by first | assumption | exact (hcc _ hS).1 | exact (hcc _ hS).2.1 | exact (hcc _ hS).2.2 | exact hS.cell0 (by assumption) | exact lv_next hS | exact lv_list hS)) rfl ?_
      refine lst_run (run_move (by conv => lhs; whnf)) rfl ?_
      refine lst_run (run_add rfl rfl (by omega) (by omega)) rfl ?_
      refine lst_run (run_nilCheck rfl) rfl ?_
      refine lst_run (run_fieldAddr (off := 1) rfl rfl) rfl ?_
      have hput := hcsL_put ((h.cs ++ D.map (moved h.cs.length)) ++ x :: R) sp ((h.cs.length : Int) + ((D.length : Nat) : Int)).toNat (x.n + (h.cs.length : Nat)) (by simp; omega)
      rw [show setN ((h.cs ++ D.map (moved h.cs.length)) ++ x :: R) ((h.cs.length : Int) + ((D.length : Nat) : Int)).toNat (x.n + (h.cs.length : Nat)) = (h.cs ++ D.map (moved h.cs.length)) ++ (moved h.cs.length x) :: R by
        rw [show ((h.cs.length : Int) + ((D.length : Nat) : Int)).toNat = (h.cs ++ D.map (moved h.cs.length)).length by simp; omega, setN_app]
        unfold moved; rw [if_pos hk]] at hput
      refine lst_store1 hS rfl (by conv => lhs; whnf) rfl rfl .head (by rw [Nat.zero_add]; exact hput) .head ?_
      clear hS
      intro w6 hS
      refine lst_done ?_
      refine goes_inBlock ?_
      refine goes_region ?_
      refine lst_run (run_add rfl rfl (by omega) (by omega)) rfl ?_
      refine lst_run (run_move (by conv => lhs; whnf)) rfl ?_
      refine lst_done ?_
      refine ih (R) _ _ _ ?_ ?_ (by conv => lhs; whnf) (by kernel_rfl)
      · simp
      · refine ⟨D ++ [x], [(g, .cells (hcsL ((h.cs ++ D.map (moved h.cs.length)) ++ (moved h.cs.length x) :: R) ++ sp).toArray 59)], by rw [hD]; simp, by simp, ?_, hS⟩
        rw [show h.cs ++ (D ++ [x]).map (moved h.cs.length) ++ R = (h.cs ++ D.map (moved h.cs.length)) ++ (moved h.cs.length x) :: R by simp]
        refine Rw.own_ ?_ ?_ hle (by omega)
        · rw [hcsL_len]; congr 1; rw [hD]; simp
        · rw [← hcap]; simp only [List.length_append, hcsL_len, List.length_cons]
    · refine goes_seq ?_
      refine goes_region ?_
      first
        | refine lst_run (run_lss_yes rfl rfl (by omega)) rfl ?_
        | refine lst_run (run_lss_no rfl rfl (by omega)) rfl ?_
        | refine lst_run (rfl) rfl ?_
      refine lst_done ?_
      refine goes_seq ?_
      refine goes_true rfl ?_
      refine goes_skip ?_
      refine goes_seq ?_
      refine goes_block ?_
      refine goes_seq ?_
      refine goes_region ?_
      refine lst_run (run_move (by conv => lhs; whnf)) rfl ?_
      refine lst_run (run_assign (by conv => lhs; whnf)) rfl ?_
      refine lst_done ?_
      refine goes_seq ?_
      refine goes_region ?_
      refine lst_run (run_move (by conv => lhs; whnf)) rfl ?_
      refine lst_run (run_move (by conv => lhs; whnf)) rfl ?_
      refine lst_run (run_move (by conv => lhs; whnf)) rfl ?_
      refine lst_run (run_add rfl rfl (by omega) (by omega)) rfl ?_
      refine lst_run (run_indexAddr (sz := 3) rfl rfl rfl rfl (by omega) (by omega)) rfl ?_
      refine lst_run (run_assign (by conv => lhs; whnf)) rfl ?_
      refine lst_done ?_
      refine goes_seq ?_
      refine goes_region ?_
      refine lst_run (run_move (by conv => lhs; whnf)) rfl ?_
      refine lst_run (run_nilCheck rfl) rfl ?_
      refine lst_run (run_fieldAddr (off := 0) rfl rfl) rfl ?_
      first
        | refine lst_run (run_load1_own hS rfl rfl (by first | exact .head | exact .tail .head | exact .tail (.tail .head) | exact .tail (.tail (.tail .head)) | exact .tail (.tail (.tail (.tail .head))) | exact .tail (.tail (.tail (.tail (.tail .head))))) (by repeat constructor)) rfl ?_
        | refine lst_run (run_load1 rfl rfl (by first | assumption | exact (hcc _ hS).1 | exact (hcc _ hS).2.1 | exact (hcc _ hS).2.2 | exact hS.cell0 (by assumption) | exact lv_next hS | exact lv_list hS)) rfl ?_
      first
        | refine lst_run (run_eql_one_int rfl rfl) rfl ?_
        | refine lst_run (run_eql_no rfl rfl (by first | assumption | omega)) rfl ?_
        | refine lst_run (run_eql_yes rfl rfl (by omega)) rfl ?_
        | refine lst_run (rfl) rfl ?_
      refine lst_done ?_
      refine goes_false rfl ?_
      refine goes_skip ?_
      refine goes_inBlock ?_
      refine goes_region ?_
      refine lst_run (run_add rfl rfl (by omega) (by omega)) rfl ?_
      refine lst_run (run_move (by conv => lhs; whnf)) rfl ?_
      refine lst_done ?_
      refine ih (R) _ _ _ ?_ ?_ (by conv => lhs; whnf) (by kernel_rfl)
      · simp
      · refine ⟨D ++ [x], _, by rw [hD]; simp, by simp, ?_, hS⟩
        rw [show h.cs ++ (D ++ [x]).map (moved h.cs.length) ++ R = (h.cs ++ D.map (moved h.cs.length)) ++ x :: R by simp [moved, hk]]
        exact hrow
theorem undoL_len : ∀ (T : List Int) (L : List HC), (undoL L T).length = L.length
  | [], L => rfl
  | a :: r, L => by unfold undoL; rw [undoL_len r, setN_len]
theorem undo_any (h : HH) (n : Int) (A B : Option Addr) (c d : Nat) (w : World) (hH : Und F (HFl h A c B d)) (hS : St M w0 H F w) :
    Calls Try.prog 16 #[hv h A c B d, .int .i64 n] w (HRes M w0 H F (undoH h n).1 fun A' c' B' d' e => e = .returned (.tuple #[hv (undoH h n).1 A' c' B' d', .int .i64 (undoH h n).2])) := by
  refine goes_enter2 Try.func16 rfl Try.ntmps16 rfl ?_
  refine goes_seq ?_
  refine goes_region ?_
  refine lst_box hS rfl rfl ?_
  clear hS
  intro b1 wx1 hS
  refine lst_alloc (cs := [_, _]) hS rfl rfl rfl ?_
  clear hS
  intro b2 wx2 hS
  refine lst_run (run_assign (by conv => lhs; whnf)) rfl ?_
  refine lst_done ?_
  refine goes_seq ?_
  refine goes_seq ?_
  refine goes_region ?_
  first
    | refine lst_run (run_loadN_own (k := 2) hS rfl rfl rfl (by first | exact .head | exact .tail .head | exact .tail (.tail .head) | exact .tail (.tail (.tail .head)) | exact .tail (.tail (.tail (.tail .head))) | exact .tail (.tail (.tail (.tail (.tail .head))))) (by repeat constructor)) rfl ?_
    | refine lst_run (run_load2 rfl rfl rfl (by first | assumption | exact (hcc _ hS).1 | exact (hcc _ hS).2.1 | exact (hcc _ hS).2.2 | exact hS.cell0 (by assumption)) (by first | assumption | exact (hcc _ hS).1 | exact (hcc _ hS).2.1 | exact (hcc _ hS).2.2 | exact hS.cell0 (by assumption))) rfl ?_
  refine lst_enter (run_call (by kernel_rfl) (args_1 (by conv => lhs; whnf))) rfl ?_
  refine Calls.mono (good_any h A B c d _ (hS.und hH)) ?_
  rintro _ w2 ⟨rfl, hb2⟩
  refine ⟨_, rfl, ?_⟩
  replace hS := hS.grow hb2
  cases hg : goodH h with
  | false =>
    have e0 : undoH h n = (h, 1) := by unfold undoH; rw [if_pos hg]
    rw [e0]
    refine lst_run (rfl) rfl ?_
    refine lst_done ?_
    refine goes_true rfl ?_
    refine goes_seq ?_
    refine goes_region ?_
    first
      | refine lst_run (run_loadN_own (k := 2) hS rfl rfl rfl (by first | exact .head | exact .tail .head | exact .tail (.tail .head) | exact .tail (.tail (.tail .head)) | exact .tail (.tail (.tail (.tail .head))) | exact .tail (.tail (.tail (.tail (.tail .head))))) (by repeat constructor)) rfl ?_
      | refine lst_run (run_load2 rfl rfl rfl (by first | assumption | exact (hcc _ hS).1 | exact (hcc _ hS).2.1 | exact (hcc _ hS).2.2 | exact hS.cell0 (by assumption)) (by first | assumption | exact (hcc _ hS).1 | exact (hcc _ hS).2.1 | exact (hcc _ hS).2.2 | exact hS.cell0 (by assumption))) rfl ?_
    refine lst_storeN hS rfl (by conv => lhs; whnf) rfl rfl (by first | exact .head | exact .tail .head | exact .tail (.tail .head) | exact .tail (.tail (.tail .head)) | exact .tail (.tail (.tail (.tail .head))) | exact .tail (.tail (.tail (.tail (.tail .head))))) (by repeat constructor) (by first | exact .head | exact .tail .head | exact .tail (.tail .head) | exact .tail (.tail (.tail .head)) | exact .tail (.tail (.tail (.tail .head))) | exact .tail (.tail (.tail (.tail (.tail .head))))) ?_
    clear hS
    intro wx3 hS
    refine lst_run (run_assign (by conv => lhs; whnf)) rfl ?_
    refine lst_done ?_
    refine goes_retC2 (sz := 2) hS Try.func16 rfl rfl (by conv => lhs; whnf) rfl rfl (by first | exact .head | exact .tail .head | exact .tail (.tail .head) | exact .tail (.tail (.tail .head)) | exact .tail (.tail (.tail (.tail .head))) | exact .tail (.tail (.tail (.tail (.tail .head))))) (by repeat constructor) ?_
    exact ⟨A, c, B, d, F, rfl, fun _ h => h, hH, hS.drop.drop⟩
  | true =>
  obtain ⟨hl1, hl2⟩ := good_len hg
  by_cases hn0 : n < 0
  · have e0 : undoH h n = (h, 2) := by unfold undoH; rw [if_neg (by rw [hg]; decide), if_pos (.inl hn0)]
    rw [e0]
    refine lst_run (rfl) rfl ?_
    refine lst_done ?_
    refine goes_false rfl ?_
    refine goes_skip ?_
    refine goes_seq ?_
    refine goes_seq ?_
    refine goes_region ?_
    refine lst_run (run_move (by conv => lhs; whnf)) rfl ?_
    first
      | refine lst_run (run_lss_yes rfl rfl (by omega)) rfl ?_
      | refine lst_run (run_lss_no rfl rfl (by omega)) rfl ?_
      | refine lst_run (rfl) rfl ?_
    refine lst_run (run_move (by conv => lhs; whnf)) rfl ?_
    refine lst_pass rfl rfl rfl ?_
    refine lst_pass rfl rfl rfl ?_
    refine lst_pass rfl rfl rfl ?_
    refine lst_pass rfl rfl rfl ?_
    refine lst_pass rfl rfl rfl ?_
    first
      | refine lst_run (run_pick_t rfl (by conv => lhs; whnf)) rfl ?_
      | refine lst_run (run_pick_f rfl (by conv => lhs; whnf)) rfl ?_
    refine lst_done ?_
    refine goes_true rfl ?_
    refine goes_seq ?_
    refine goes_region ?_
    first
      | refine lst_run (run_loadN_own (k := 2) hS rfl rfl rfl (by first | exact .head | exact .tail .head | exact .tail (.tail .head) | exact .tail (.tail (.tail .head)) | exact .tail (.tail (.tail (.tail .head))) | exact .tail (.tail (.tail (.tail (.tail .head))))) (by repeat constructor)) rfl ?_
      | refine lst_run (run_load2 rfl rfl rfl (by first | assumption | exact (hcc _ hS).1 | exact (hcc _ hS).2.1 | exact (hcc _ hS).2.2 | exact hS.cell0 (by assumption)) (by first | assumption | exact (hcc _ hS).1 | exact (hcc _ hS).2.1 | exact (hcc _ hS).2.2 | exact hS.cell0 (by assumption))) rfl ?_
    refine lst_storeN hS rfl (by conv => lhs; whnf) rfl rfl (by first | exact .head | exact .tail .head | exact .tail (.tail .head) | exact .tail (.tail (.tail .head)) | exact .tail (.tail (.tail (.tail .head))) | exact .tail (.tail (.tail (.tail (.tail .head))))) (by repeat constructor) (by first | exact .head | exact .tail .head | exact .tail (.tail .head) | exact .tail (.tail (.tail .head)) | exact .tail (.tail (.tail (.tail .head))) | exact .tail (.tail (.tail (.tail (.tail .head))))) ?_
    clear hS
    intro wx3 hS
    refine lst_run (run_assign (by conv => lhs; whnf)) rfl ?_
    refine lst_done ?_
    refine goes_retC2 (sz := 2) hS Try.func16 rfl rfl (by conv => lhs; whnf) rfl rfl (by first | exact .head | exact .tail .head | exact .tail (.tail .head) | exact .tail (.tail (.tail .head)) | exact .tail (.tail (.tail (.tail .head))) | exact .tail (.tail (.tail (.tail (.tail .head))))) (by repeat constructor) ?_
    exact ⟨A, c, B, d, F, rfl, fun _ h => h, hH, hS.drop.drop⟩
  by_cases hn1 : (h.tr.length : Int) < n
  · have e0 : undoH h n = (h, 2) := by unfold undoH; rw [if_neg (by rw [hg]; decide), if_pos (.inr hn1)]
    rw [e0]
    refine lst_run (rfl) rfl ?_
    refine lst_done ?_
    refine goes_false rfl ?_
    refine goes_skip ?_
    refine goes_seq ?_
    refine goes_seq ?_
    refine goes_region ?_
    refine lst_run (run_move (by conv => lhs; whnf)) rfl ?_
    first
      | refine lst_run (run_lss_yes rfl rfl (by omega)) rfl ?_
      | refine lst_run (run_lss_no rfl rfl (by omega)) rfl ?_
      | refine lst_run (rfl) rfl ?_
    refine lst_run (run_move (by conv => lhs; whnf)) rfl ?_
    refine lst_guard rfl rfl ?_
    refine lst_run (run_move (by conv => lhs; whnf)) rfl ?_
    refine lst_guard rfl rfl ?_
    refine lst_run (run_fieldAddr (off := 1) rfl rfl) rfl ?_
    refine lst_guard rfl rfl ?_
    first
      | refine lst_run (run_load1_own hS rfl rfl (by first | exact .head | exact .tail .head | exact .tail (.tail .head) | exact .tail (.tail (.tail .head)) | exact .tail (.tail (.tail (.tail .head))) | exact .tail (.tail (.tail (.tail (.tail .head))))) (by repeat constructor)) rfl ?_
      | refine lst_run (run_load1 rfl rfl (by first | assumption | exact (hcc _ hS).1 | exact (hcc _ hS).2.1 | exact (hcc _ hS).2.2 | exact hS.cell0 (by assumption) | exact lv_next hS | exact lv_list hS)) rfl ?_
    refine lst_guard rfl rfl ?_
    refine lst_run (run_len_slice rfl rfl rfl) rfl ?_
    refine lst_guard rfl rfl ?_
    first
      | refine lst_run (run_gtr_yes rfl rfl (by omega)) rfl ?_
      | refine lst_run (run_gtr_no rfl rfl (by omega)) rfl ?_
      | refine lst_run (rfl) rfl ?_
    first
      | refine lst_run (run_pick_t rfl (by conv => lhs; whnf)) rfl ?_
      | refine lst_run (run_pick_f rfl (by conv => lhs; whnf)) rfl ?_
    refine lst_done ?_
    refine goes_true rfl ?_
    refine goes_seq ?_
    refine goes_region ?_
    first
      | refine lst_run (run_loadN_own (k := 2) hS rfl rfl rfl (by first | exact .head | exact .tail .head | exact .tail (.tail .head) | exact .tail (.tail (.tail .head)) | exact .tail (.tail (.tail (.tail .head))) | exact .tail (.tail (.tail (.tail (.tail .head))))) (by repeat constructor)) rfl ?_
      | refine lst_run (run_load2 rfl rfl rfl (by first | assumption | exact (hcc _ hS).1 | exact (hcc _ hS).2.1 | exact (hcc _ hS).2.2 | exact hS.cell0 (by assumption)) (by first | assumption | exact (hcc _ hS).1 | exact (hcc _ hS).2.1 | exact (hcc _ hS).2.2 | exact hS.cell0 (by assumption))) rfl ?_
    refine lst_storeN hS rfl (by conv => lhs; whnf) rfl rfl (by first | exact .head | exact .tail .head | exact .tail (.tail .head) | exact .tail (.tail (.tail .head)) | exact .tail (.tail (.tail (.tail .head))) | exact .tail (.tail (.tail (.tail (.tail .head))))) (by repeat constructor) (by first | exact .head | exact .tail .head | exact .tail (.tail .head) | exact .tail (.tail (.tail .head)) | exact .tail (.tail (.tail (.tail .head))) | exact .tail (.tail (.tail (.tail (.tail .head))))) ?_
    clear hS
    intro wx3 hS
    refine lst_run (run_assign (by conv => lhs; whnf)) rfl ?_
    refine lst_done ?_
    refine goes_retC2 (sz := 2) hS Try.func16 rfl rfl (by conv => lhs; whnf) rfl rfl (by first | exact .head | exact .tail .head | exact .tail (.tail .head) | exact .tail (.tail (.tail .head)) | exact .tail (.tail (.tail (.tail .head))) | exact .tail (.tail (.tail (.tail (.tail .head))))) (by repeat constructor) ?_
    exact ⟨A, c, B, d, F, rfl, fun _ h => h, hH, hS.drop.drop⟩
  have e0 : undoH h n = (⟨undoL h.cs (h.tr.drop n.toNat), h.tr.take n.toNat⟩, 0) := by unfold undoH; rw [if_neg (by rw [hg]; decide), if_neg (by omega)]
  rw [e0]
  have hd : h.tr.length ≤ d := by have := (hS.und hH).2.2.1; exact this
  have hT : Und F (Flat 1 (intsV h.tr) B h.tr.length d) := hH.imp fun _ h => h.2
  have htr : ∀ a ∈ h.tr, 0 ≤ a ∧ a < h.cs.length := by
    unfold goodH goodTr at hg
    simp only [Bool.and_eq_true, List.all_eq_true] at hg
    intro a ha
    have := hg.2.2 a ha
    unfold goodTr1 at this
    split at this
    · rename_i x hx; have := hat_get hx; exact ⟨this.1, this.2.1⟩
    · cases this
  refine lst_run (rfl) rfl ?_
  refine lst_done ?_
  refine goes_false rfl ?_
  refine goes_skip ?_
  refine goes_seq ?_
  refine goes_seq ?_
  refine goes_region ?_
  refine lst_run (run_move (by conv => lhs; whnf)) rfl ?_
  first
    | refine lst_run (run_lss_yes rfl rfl (by omega)) rfl ?_
    | refine lst_run (run_lss_no rfl rfl (by omega)) rfl ?_
    | refine lst_run (rfl) rfl ?_
  refine lst_run (run_move (by conv => lhs; whnf)) rfl ?_
  refine lst_guard rfl rfl ?_
  refine lst_run (run_move (by conv => lhs; whnf)) rfl ?_
  refine lst_guard rfl rfl ?_
  refine lst_run (run_fieldAddr (off := 1) rfl rfl) rfl ?_
  refine lst_guard rfl rfl ?_
  first
    | refine lst_run (run_load1_own hS rfl rfl (by first | exact .head | exact .tail .head | exact .tail (.tail .head) | exact .tail (.tail (.tail .head)) | exact .tail (.tail (.tail (.tail .head))) | exact .tail (.tail (.tail (.tail (.tail .head))))) (by repeat constructor)) rfl ?_
    | refine lst_run (run_load1 rfl rfl (by first | assumption | exact (hcc _ hS).1 | exact (hcc _ hS).2.1 | exact (hcc _ hS).2.2 | exact hS.cell0 (by assumption) | exact lv_next hS | exact lv_list hS)) rfl ?_
  refine lst_guard rfl rfl ?_
  refine lst_run (run_len_slice rfl rfl rfl) rfl ?_
  refine lst_guard rfl rfl ?_
  first
    | refine lst_run (run_gtr_yes rfl rfl (by omega)) rfl ?_
    | refine lst_run (run_gtr_no rfl rfl (by omega)) rfl ?_
    | refine lst_run (rfl) rfl ?_
  first
    | refine lst_run (run_pick_t rfl (by conv => lhs; whnf)) rfl ?_
    | refine lst_run (run_pick_f rfl (by conv => lhs; whnf)) rfl ?_
  refine lst_done ?_
  refine goes_false rfl ?_
  refine goes_skip ?_
  refine goes_seq ?_
  refine goes_region ?_
  refine lst_run (run_fieldAddr (off := 0) rfl rfl) rfl ?_
  first
    | refine lst_run (run_load1_own hS rfl rfl (by first | exact .head | exact .tail .head | exact .tail (.tail .head) | exact .tail (.tail (.tail .head)) | exact .tail (.tail (.tail (.tail .head))) | exact .tail (.tail (.tail (.tail (.tail .head))))) (by repeat constructor)) rfl ?_
    | refine lst_run (run_load1 rfl rfl (by first | assumption | exact (hcc _ hS).1 | exact (hcc _ hS).2.1 | exact (hcc _ hS).2.2 | exact hS.cell0 (by assumption) | exact lv_next hS | exact lv_list hS)) rfl ?_
  refine lst_enter (run_call (by kernel_rfl) (args_1 (by conv => lhs; whnf))) rfl ?_
  refine Calls.mono (cloneC_any h.cs A c _ (hH.imp fun _ h => h.1) (by omega) hS) ?_
  rintro _ w3 ⟨A3, c3, O3, rfl, hrow3, hS'⟩
  refine ⟨_, rfl, ?_⟩
  replace hS := hS'
  clear hS'
  replace hS := hS.perm (List.perm_append_comm_assoc O3 [_, _] _)
  have hnn : ((h.tr.length - n.toNat : Nat) : Int) = (((h.tr.drop n.toNat).length : Nat) : Int) := by simp
  refine lst_run (run_assign (by conv => lhs; whnf)) rfl ?_
  refine lst_done ?_
  refine goes_seq ?_
  refine goes_seq ?_
  refine goes_region ?_
  refine lst_run (run_fieldAddr (off := 1) rfl rfl) rfl ?_
  first
    | refine lst_run (run_load1_own hS rfl rfl (by first | exact .head | exact .tail .head | exact .tail (.tail .head) | exact .tail (.tail (.tail .head)) | exact .tail (.tail (.tail (.tail .head))) | exact .tail (.tail (.tail (.tail (.tail .head))))) (by repeat constructor)) rfl ?_
    | refine lst_run (run_load1 rfl rfl (by first | assumption | exact (hcc _ hS).1 | exact (hcc _ hS).2.1 | exact (hcc _ hS).2.2 | exact hS.cell0 (by assumption) | exact lv_next hS | exact lv_list hS)) rfl ?_
  refine lst_run (run_move (by conv => lhs; whnf)) rfl ?_
  first
    | refine lst_run (run_slice_lt (sz := 1) rfl rfl rfl rfl (by omega) (by omega) (by omega)) rfl ?_
    | refine lst_run (run_slice_rest (sz := 1) rfl rfl rfl rfl (by omega) (by omega)) rfl ?_
  refine lst_run (run_len_slice rfl rfl rfl) rfl ?_
  refine lst_run (run_move (by conv => lhs; whnf)) rfl ?_
  refine lst_done ?_
  refine goes_block ?_
  rw [hnn]
  refine goes_loop1 31 (32 :: 33 :: 34 :: 8 :: 35 :: 36 :: 37 :: 38 :: 39 :: 40 :: []) (fun (R : List Int) v w' => ∃ (D : List Int) (L : List HC) (O : List (Nat × Obj)), h.tr.drop n.toNat = D ++ R ∧ v = .int .i64 (D.length : Nat) ∧ L.length = h.cs.length ∧ undoL h.cs (h.tr.drop n.toNat) = undoL L R ∧ Rw 59 3 (.slice A3 h.cs.length c3) h.cs.length (hcsL L) O ∧ St M w0 ((b2, hob none 0 0 none 0 0) :: (b1, hob A h.cs.length c B h.tr.length d) :: (O ++ H)) F w') (fun R => R.length) (h.tr.drop n.toNat) ?_ (by conv => lhs; whnf) ?_
  · exact ⟨[], h.cs, O3, rfl, rfl, rfl, rfl, hrow3, hS⟩
  clear hS
  rintro R _ w5 jv ⟨D, L, O, hD, rfl, hLl, hund, hrow, hS⟩ ih
  have hlen : (h.tr.drop n.toNat).length = D.length + R.length := by rw [hD]; simp
  cases R with
  | nil =>
    simp only [List.length_nil] at hlen
    have hS2 := St.freezeR hrow (hS.perm (List.perm_append_comm_assoc [_, _] O _))
    replace hS := hS2
    clear hS2
    have hul := undoL_len (h.tr.drop n.toNat) h.cs
    refine goes_seq ?_
    refine goes_region ?_
    first
      | refine lst_run (run_lss_yes rfl rfl (by omega)) rfl ?_
      | refine lst_run (run_lss_no rfl rfl (by omega)) rfl ?_
      | refine lst_run (rfl) rfl ?_
    refine lst_done ?_
    refine goes_seq ?_
    refine goes_false rfl ?_
    refine goes_exit rfl ?_
    refine goes_seq ?_
    refine goes_region ?_
    refine lst_run (run_move (by conv => lhs; whnf)) rfl ?_
    refine lst_run (run_fieldAddr (off := 1) rfl rfl) rfl ?_
    first
      | refine lst_run (run_load1_own hS rfl rfl (by first | exact .head | exact .tail .head | exact .tail (.tail .head) | exact .tail (.tail (.tail .head)) | exact .tail (.tail (.tail (.tail .head))) | exact .tail (.tail (.tail (.tail (.tail .head))))) (by repeat constructor)) rfl ?_
      | refine lst_run (run_load1 rfl rfl (by first | assumption | exact (hcc _ hS).1 | exact (hcc _ hS).2.1 | exact (hcc _ hS).2.2 | exact hS.cell0 (by assumption) | exact lv_next hS | exact lv_list hS)) rfl ?_
    refine lst_run (run_move (by conv => lhs; whnf)) rfl ?_
    refine lst_run (run_slice_slice (sz := 1) rfl rfl rfl rfl (by omega) (by omega)) rfl ?_
    refine lst_enter (run_call (by kernel_rfl) (args_1 (by conv => lhs; whnf))) rfl ?_
    refine Calls.mono (clipI_any n.toNat d B _ (by omega)) ?_
    rintro _ w6 ⟨rfl, hb6⟩
    refine ⟨_, rfl, ?_⟩
    replace hS := hS.grow hb6
    refine lst_run (run_build (cells := [_, _]) (.cons (by conv => lhs; whnf) (.cons (by conv => lhs; whnf) .nil)) rfl) rfl ?_
    refine lst_storeN hS rfl (by conv => lhs; whnf) rfl rfl (by first | exact .head | exact .tail .head | exact .tail (.tail .head) | exact .tail (.tail (.tail .head)) | exact .tail (.tail (.tail (.tail .head))) | exact .tail (.tail (.tail (.tail (.tail .head))))) (by repeat constructor) (by first | exact .head | exact .tail .head | exact .tail (.tail .head) | exact .tail (.tail (.tail .head)) | exact .tail (.tail (.tail (.tail .head))) | exact .tail (.tail (.tail (.tail (.tail .head))))) ?_
    clear hS
    intro wx3 hS
    refine lst_run (run_assign (by conv => lhs; whnf)) rfl ?_
    refine lst_done ?_
    refine goes_retC2 (sz := 2) hS Try.func16 rfl rfl (by conv => lhs; whnf) rfl rfl (by first | exact .head | exact .tail .head | exact .tail (.tail .head) | exact .tail (.tail (.tail .head)) | exact .tail (.tail (.tail (.tail .head))) | exact .tail (.tail (.tail (.tail (.tail .head))))) (by repeat constructor) ?_
    refine ⟨A3, c3, B, n.toNat, _, ?_, fun φ h => .tail _ h, ?_, hS.drop.drop⟩
    · dsimp only [hv, heapV]; rw [hul, List.length_take, Nat.min_eq_left (by omega)]
    · intro w' hw
      refine ⟨?_, ?_⟩
      · have := hw _ (.head _)
        show Flat 3 (hcsL (undoL h.cs (h.tr.drop n.toNat))) A3 (undoL h.cs (h.tr.drop n.toNat)).length c3 w'
        rw [hul, hund]; exact this
      · have := ((hT.tail) w' hw).take (m := n.toNat) (c' := n.toNat) (by omega) (Nat.le_refl _)
        show Flat 1 (intsV (h.tr.take n.toNat)) B (h.tr.take n.toNat).length n.toNat w'
        rw [List.length_take, Nat.min_eq_left (by omega), show intsV (h.tr.take n.toNat) = (intsV h.tr).take (n.toNat * 1) by simp [intsV, List.map_take]]
        exact this
  | cons x R =>
    simp only [List.length_cons] at hlen
    have hxm : x ∈ h.tr := List.mem_of_mem_drop (i := n.toNat) (by rw [hD]; simp)
    obtain ⟨hx0, hx1⟩ := htr x hxm
    obtain ⟨g, sp, hA4, hO, hcap, hle, _⟩ := hrow.some_ (by omega)
    subst hA4 hO
    obtain ⟨bt, ot, rfl⟩ := (hS.und hT).some_ (by simp at hlen; omega)
    have hlt : n < (d : Int) := by simp at hlen; omega
    have hxi : h.tr[n.toNat + D.length]? = some x := by
      have : (h.tr.drop n.toNat)[D.length]? = some x := by rw [hD]; simp
      rwa [List.getElem?_drop] at this
    have hct : ∀ {H'} w', St M w0 H' F w' → w'.cell? ⟨bt, ot + n.toNat * 1 + ((D.length : Nat) : Int).toNat * 1, none⟩ = some (.int .i64 x) := fun w' hS => by
      have := (hS.und hT).int hxi
      rw [show ot + n.toNat * 1 + ((D.length : Nat) : Int).toNat * 1 = ot + (n.toNat + D.length) * 1 by omega]; exact this
    rw [if_neg (show ¬ d = n.toNat by omega), Option.map_some, addrPlus] at ih ⊢
    have hput := hcsL_put L sp x.toNat x (by omega)
    refine goes_seq ?_
    refine goes_region ?_
    first
      | refine lst_run (run_lss_yes rfl rfl (by omega)) rfl ?_
      | refine lst_run (run_lss_no rfl rfl (by omega)) rfl ?_
      | refine lst_run (rfl) rfl ?_
    refine lst_done ?_
    refine goes_seq ?_
    refine goes_true rfl ?_
    refine goes_skip ?_
    refine goes_seq ?_
    refine goes_block ?_
    refine goes_seq ?_
    refine goes_region ?_
    refine lst_run (run_indexAddr (sz := 1) rfl rfl rfl rfl (by omega) (by omega)) rfl ?_
    first
      | refine lst_run (run_load1_own hS rfl rfl (by first | exact .head | exact .tail .head | exact .tail (.tail .head) | exact .tail (.tail (.tail .head)) | exact .tail (.tail (.tail (.tail .head))) | exact .tail (.tail (.tail (.tail (.tail .head))))) (by repeat constructor)) rfl ?_
      | refine lst_run (run_load1 rfl rfl (by first | assumption | exact hct _ hS | exact hS.cell0 (by assumption) | exact lv_next hS | exact lv_list hS)) rfl ?_
    refine lst_run (run_assign (by conv => lhs; whnf)) rfl ?_
    refine lst_done ?_
    refine goes_region ?_
    refine lst_run (run_move (by conv => lhs; whnf)) rfl ?_
    refine lst_run (run_move (by conv => lhs; whnf)) rfl ?_
    refine lst_run (run_move (by conv => lhs; whnf)) rfl ?_
    refine lst_run (run_indexAddr (sz := 3) rfl rfl rfl rfl (by omega) (by omega)) rfl ?_
    refine lst_run (run_fieldAddr (off := 1) rfl rfl) rfl ?_
    refine lst_store1 hS rfl (by conv => lhs; whnf) rfl rfl (.tail (.tail .head)) (by rw [Nat.zero_add]; exact hput) (.tail (.tail .head)) ?_
    clear hS
    intro w6 hS
    refine lst_done ?_
    refine goes_inBlock ?_
    refine goes_region ?_
    refine lst_run (run_add rfl rfl (by omega) (by omega)) rfl ?_
    refine lst_run (run_move (by conv => lhs; whnf)) rfl ?_
    refine lst_done ?_
    refine ih (R) _ _ _ ?_ ?_ (by conv => lhs; whnf) (by kernel_rfl)
    · simp
    · refine ⟨D ++ [x], setN L x.toNat x, [(g, .cells (hcsL (setN L x.toNat x) ++ sp).toArray 59)], by rw [hD]; simp, by simp, by rw [setN_len, hLl], by rw [hund]; rfl, ?_, hS⟩
      refine Rw.own_ ?_ ?_ hle (by omega)
      · rw [hcsL_len, setN_len, hLl]
      · rw [← hcap]; simp only [List.length_append, hcsL_len, setN_len]
theorem cut_any (h : HH) (n : Int) (A B : Option Addr) (c d : Nat) (w : World) (hH : Und F (HFl h A c B d)) (hS : St M w0 H F w) :
    Calls Try.prog 18 #[hv h A c B d, .int .i64 n] w (HRes M w0 H F (cutH h n).1 fun A' c' B' d' e => e = .returned (.tuple #[hv (cutH h n).1 A' c' B' d', .int .i64 (cutH h n).2])) := by
  refine goes_enter2 Try.func18 rfl Try.ntmps18 rfl ?_
  refine goes_seq ?_
  refine goes_region ?_
  refine lst_box hS rfl rfl ?_
  clear hS
  intro b1 wx1 hS
  refine lst_alloc (cs := [_, _]) hS rfl rfl rfl ?_
  clear hS
  intro b2 wx2 hS
  refine lst_run (run_assign (by conv => lhs; whnf)) rfl ?_
  refine lst_done ?_
  refine goes_seq ?_
  refine goes_seq ?_
  refine goes_region ?_
  first
    | refine lst_run (run_loadN_own (k := 2) hS rfl rfl rfl (by first | exact .head | exact .tail .head | exact .tail (.tail .head) | exact .tail (.tail (.tail .head)) | exact .tail (.tail (.tail (.tail .head))) | exact .tail (.tail (.tail (.tail (.tail .head))))) (by repeat constructor)) rfl ?_
    | refine lst_run (run_load2 rfl rfl rfl (by first | assumption | exact hct _ hS | exact hS.cell0 (by assumption)) (by first | assumption | exact hct _ hS | exact hS.cell0 (by assumption))) rfl ?_
  refine lst_enter (run_call (by kernel_rfl) (args_1 (by conv => lhs; whnf))) rfl ?_
  refine Calls.mono (good_any h A B c d _ (hS.und hH)) ?_
  rintro _ w2 ⟨rfl, hb2⟩
  refine ⟨_, rfl, ?_⟩
  replace hS := hS.grow hb2
  cases hg : goodH h with
  | false =>
    have e0 : cutH h n = (h, 1) := by unfold cutH; rw [if_pos hg]
    rw [e0]
    refine lst_run (rfl) rfl ?_
    refine lst_done ?_
    refine goes_true rfl ?_
    refine goes_seq ?_
    refine goes_region ?_
    first
      | refine lst_run (run_loadN_own (k := 2) hS rfl rfl rfl (by first | exact .head | exact .tail .head | exact .tail (.tail .head) | exact .tail (.tail (.tail .head)) | exact .tail (.tail (.tail (.tail .head))) | exact .tail (.tail (.tail (.tail (.tail .head))))) (by repeat constructor)) rfl ?_
      | refine lst_run (run_load2 rfl rfl rfl (by first | assumption | exact hct _ hS | exact hS.cell0 (by assumption)) (by first | assumption | exact hct _ hS | exact hS.cell0 (by assumption))) rfl ?_
    refine lst_storeN hS rfl (by conv => lhs; whnf) rfl rfl (by first | exact .head | exact .tail .head | exact .tail (.tail .head) | exact .tail (.tail (.tail .head)) | exact .tail (.tail (.tail (.tail .head))) | exact .tail (.tail (.tail (.tail (.tail .head))))) (by repeat constructor) (by first | exact .head | exact .tail .head | exact .tail (.tail .head) | exact .tail (.tail (.tail .head)) | exact .tail (.tail (.tail (.tail .head))) | exact .tail (.tail (.tail (.tail (.tail .head))))) ?_
    clear hS
    intro wx3 hS
    refine lst_run (run_assign (by conv => lhs; whnf)) rfl ?_
    refine lst_done ?_
    refine goes_retC2 (sz := 2) hS Try.func18 rfl rfl (by conv => lhs; whnf) rfl rfl (by first | exact .head | exact .tail .head | exact .tail (.tail .head) | exact .tail (.tail (.tail .head)) | exact .tail (.tail (.tail (.tail .head))) | exact .tail (.tail (.tail (.tail (.tail .head))))) (by repeat constructor) ?_
    exact ⟨A, c, B, d, F, rfl, fun _ h => h, hH, hS.drop.drop⟩
  | true =>
  obtain ⟨hl1, hl2⟩ := good_len hg
  by_cases hn0 : n < 0
  · have e0 : cutH h n = (h, 2) := by unfold cutH; rw [if_neg (by rw [hg]; decide), if_pos (.inl hn0)]
    rw [e0]
    refine lst_run (rfl) rfl ?_
    refine lst_done ?_
    refine goes_false rfl ?_
    refine goes_skip ?_
    refine goes_seq ?_
    refine goes_seq ?_
    refine goes_region ?_
    refine lst_run (run_move (by conv => lhs; whnf)) rfl ?_
    first
      | refine lst_run (run_lss_yes rfl rfl (by omega)) rfl ?_
      | refine lst_run (run_lss_no rfl rfl (by omega)) rfl ?_
      | refine lst_run (rfl) rfl ?_
    refine lst_run (run_move (by conv => lhs; whnf)) rfl ?_
    refine lst_pass rfl rfl rfl ?_
    refine lst_pass rfl rfl rfl ?_
    refine lst_pass rfl rfl rfl ?_
    refine lst_pass rfl rfl rfl ?_
    refine lst_pass rfl rfl rfl ?_
    first
      | refine lst_run (run_pick_t rfl (by conv => lhs; whnf)) rfl ?_
      | refine lst_run (run_pick_f rfl (by conv => lhs; whnf)) rfl ?_
    refine lst_done ?_
    refine goes_true rfl ?_
    refine goes_seq ?_
    refine goes_region ?_
    first
      | refine lst_run (run_loadN_own (k := 2) hS rfl rfl rfl (by first | exact .head | exact .tail .head | exact .tail (.tail .head) | exact .tail (.tail (.tail .head)) | exact .tail (.tail (.tail (.tail .head))) | exact .tail (.tail (.tail (.tail (.tail .head))))) (by repeat constructor)) rfl ?_
      | refine lst_run (run_load2 rfl rfl rfl (by first | assumption | exact hct _ hS | exact hS.cell0 (by assumption)) (by first | assumption | exact hct _ hS | exact hS.cell0 (by assumption))) rfl ?_
    refine lst_storeN hS rfl (by conv => lhs; whnf) rfl rfl (by first | exact .head | exact .tail .head | exact .tail (.tail .head) | exact .tail (.tail (.tail .head)) | exact .tail (.tail (.tail (.tail .head))) | exact .tail (.tail (.tail (.tail (.tail .head))))) (by repeat constructor) (by first | exact .head | exact .tail .head | exact .tail (.tail .head) | exact .tail (.tail (.tail .head)) | exact .tail (.tail (.tail (.tail .head))) | exact .tail (.tail (.tail (.tail (.tail .head))))) ?_
    clear hS
    intro wx3 hS
    refine lst_run (run_assign (by conv => lhs; whnf)) rfl ?_
    refine lst_done ?_
    refine goes_retC2 (sz := 2) hS Try.func18 rfl rfl (by conv => lhs; whnf) rfl rfl (by first | exact .head | exact .tail .head | exact .tail (.tail .head) | exact .tail (.tail (.tail .head)) | exact .tail (.tail (.tail (.tail .head))) | exact .tail (.tail (.tail (.tail (.tail .head))))) (by repeat constructor) ?_
    exact ⟨A, c, B, d, F, rfl, fun _ h => h, hH, hS.drop.drop⟩
  by_cases hn1 : (h.cs.length : Int) < n
  · have e0 : cutH h n = (h, 2) := by unfold cutH; rw [if_neg (by rw [hg]; decide), if_pos (.inr hn1)]
    rw [e0]
    refine lst_run (rfl) rfl ?_
    refine lst_done ?_
    refine goes_false rfl ?_
    refine goes_skip ?_
    refine goes_seq ?_
    refine goes_seq ?_
    refine goes_region ?_
    refine lst_run (run_move (by conv => lhs; whnf)) rfl ?_
    first
      | refine lst_run (run_lss_yes rfl rfl (by omega)) rfl ?_
      | refine lst_run (run_lss_no rfl rfl (by omega)) rfl ?_
      | refine lst_run (rfl) rfl ?_
    refine lst_run (run_move (by conv => lhs; whnf)) rfl ?_
    refine lst_guard rfl rfl ?_
    refine lst_run (run_move (by conv => lhs; whnf)) rfl ?_
    refine lst_guard rfl rfl ?_
    refine lst_run (run_fieldAddr (off := 0) rfl rfl) rfl ?_
    refine lst_guard rfl rfl ?_
    first
      | refine lst_run (run_load1_own hS rfl rfl (by first | exact .head | exact .tail .head | exact .tail (.tail .head) | exact .tail (.tail (.tail .head)) | exact .tail (.tail (.tail (.tail .head))) | exact .tail (.tail (.tail (.tail (.tail .head))))) (by repeat constructor)) rfl ?_
      | refine lst_run (run_load1 rfl rfl (by first | assumption | exact hct _ hS | exact hS.cell0 (by assumption) | exact lv_next hS | exact lv_list hS)) rfl ?_
    refine lst_guard rfl rfl ?_
    refine lst_run (run_len_slice rfl rfl rfl) rfl ?_
    refine lst_guard rfl rfl ?_
    first
      | refine lst_run (run_gtr_yes rfl rfl (by omega)) rfl ?_
      | refine lst_run (run_gtr_no rfl rfl (by omega)) rfl ?_
      | refine lst_run (rfl) rfl ?_
    first
      | refine lst_run (run_pick_t rfl (by conv => lhs; whnf)) rfl ?_
      | refine lst_run (run_pick_f rfl (by conv => lhs; whnf)) rfl ?_
    refine lst_done ?_
    refine goes_true rfl ?_
    refine goes_seq ?_
    refine goes_region ?_
    first
      | refine lst_run (run_loadN_own (k := 2) hS rfl rfl rfl (by first | exact .head | exact .tail .head | exact .tail (.tail .head) | exact .tail (.tail (.tail .head)) | exact .tail (.tail (.tail (.tail .head))) | exact .tail (.tail (.tail (.tail (.tail .head))))) (by repeat constructor)) rfl ?_
      | refine lst_run (run_load2 rfl rfl rfl (by first | assumption | exact hct _ hS | exact hS.cell0 (by assumption)) (by first | assumption | exact hct _ hS | exact hS.cell0 (by assumption))) rfl ?_
    refine lst_storeN hS rfl (by conv => lhs; whnf) rfl rfl (by first | exact .head | exact .tail .head | exact .tail (.tail .head) | exact .tail (.tail (.tail .head)) | exact .tail (.tail (.tail (.tail .head))) | exact .tail (.tail (.tail (.tail (.tail .head))))) (by repeat constructor) (by first | exact .head | exact .tail .head | exact .tail (.tail .head) | exact .tail (.tail (.tail .head)) | exact .tail (.tail (.tail (.tail .head))) | exact .tail (.tail (.tail (.tail (.tail .head))))) ?_
    clear hS
    intro wx3 hS
    refine lst_run (run_assign (by conv => lhs; whnf)) rfl ?_
    refine lst_done ?_
    refine goes_retC2 (sz := 2) hS Try.func18 rfl rfl (by conv => lhs; whnf) rfl rfl (by first | exact .head | exact .tail .head | exact .tail (.tail .head) | exact .tail (.tail (.tail .head)) | exact .tail (.tail (.tail (.tail .head))) | exact .tail (.tail (.tail (.tail (.tail .head))))) (by repeat constructor) ?_
    exact ⟨A, c, B, d, F, rfl, fun _ h => h, hH, hS.drop.drop⟩
  have hc : h.cs.length ≤ c := (hS.und hH).1.2.1
  have hCut : Und F (HFl ⟨h.cs.take n.toNat, h.tr⟩ A n.toNat B d) := hH.imp fun w' h1 => by
    refine ⟨?_, h1.2⟩
    have := h1.1.take (m := n.toNat) (c' := n.toNat) (by omega) (Nat.le_refl _)
    show Flat 3 (hcsL (h.cs.take n.toNat)) A (h.cs.take n.toNat).length n.toNat w'
    rw [List.length_take, Nat.min_eq_left (by omega)]
    rw [show hcsL (h.cs.take n.toNat) = (hcsL h.cs).take (n.toNat * 3) by
      rw [← List.take_append_drop n.toNat h.cs, hcsL_app, List.take_append_drop]
      rw [show n.toNat * 3 = (hcsL (h.cs.take n.toNat)).length by rw [hcsL_len, List.length_take, Nat.min_eq_left (by omega)]]
      simp]
    exact this
  have hln : (h.cs.take n.toNat).length = n.toNat := by rw [List.length_take, Nat.min_eq_left (by omega)]
  refine lst_run (rfl) rfl ?_
  refine lst_done ?_
  refine goes_false rfl ?_
  refine goes_skip ?_
  refine goes_seq ?_
  refine goes_seq ?_
  refine goes_region ?_
  refine lst_run (run_move (by conv => lhs; whnf)) rfl ?_
  first
    | refine lst_run (run_lss_yes rfl rfl (by omega)) rfl ?_
    | refine lst_run (run_lss_no rfl rfl (by omega)) rfl ?_
    | refine lst_run (rfl) rfl ?_
  refine lst_run (run_move (by conv => lhs; whnf)) rfl ?_
  refine lst_guard rfl rfl ?_
  refine lst_run (run_move (by conv => lhs; whnf)) rfl ?_
  refine lst_guard rfl rfl ?_
  refine lst_run (run_fieldAddr (off := 0) rfl rfl) rfl ?_
  refine lst_guard rfl rfl ?_
  first
    | refine lst_run (run_load1_own hS rfl rfl (by first | exact .head | exact .tail .head | exact .tail (.tail .head) | exact .tail (.tail (.tail .head)) | exact .tail (.tail (.tail (.tail .head))) | exact .tail (.tail (.tail (.tail (.tail .head))))) (by repeat constructor)) rfl ?_
    | refine lst_run (run_load1 rfl rfl (by first | assumption | exact hct _ hS | exact hS.cell0 (by assumption) | exact lv_next hS | exact lv_list hS)) rfl ?_
  refine lst_guard rfl rfl ?_
  refine lst_run (run_len_slice rfl rfl rfl) rfl ?_
  refine lst_guard rfl rfl ?_
  first
    | refine lst_run (run_gtr_yes rfl rfl (by omega)) rfl ?_
    | refine lst_run (run_gtr_no rfl rfl (by omega)) rfl ?_
    | refine lst_run (rfl) rfl ?_
  first
    | refine lst_run (run_pick_t rfl (by conv => lhs; whnf)) rfl ?_
    | refine lst_run (run_pick_f rfl (by conv => lhs; whnf)) rfl ?_
  refine lst_done ?_
  refine goes_false rfl ?_
  refine goes_skip ?_
  refine goes_seq ?_
  refine goes_meet1 6 (21 :: 22 :: 23 :: 24 :: 25 :: 26 :: 27 :: 28 :: []) (fun v w' => ∃ b3, v = .pointer (some ⟨b3, 0, none⟩) ∧ St M w0 ((b3, hob A n.toNat n.toNat B h.tr.length d) :: (b2, hob none 0 0 none 0 0) :: (b1, hob A h.cs.length c B h.tr.length d) :: H) F w') ?_ ?_
  · intro hmeet
    refine goes_plan (St _ _ _ _) 9 (.read 0 (.read 1 (.read 2 (.read 3 (.read 5 (.read 6 (.pick 4 (.read 7 (.pick 8 .tail .none)) (.pick 8 (.pick 4 (.read 7 .tail) .none) .none)))))))) (by kernel_rfl) (by kernel_rfl) hS.drew ?_
    replace hS := hS.drew
    refine pln_read rfl (fun _ hS => run_fieldAddr (off := 0) rfl rfl) rfl ?_
    first
      | refine pln_read rfl (fun _ hS => run_load1_own hS rfl rfl (by first | exact .head | exact .tail .head | exact .tail (.tail .head) | exact .tail (.tail (.tail .head)) | exact .tail (.tail (.tail (.tail .head))) | exact .tail (.tail (.tail (.tail (.tail .head))))) (by repeat constructor)) rfl ?_
      | refine pln_read rfl (fun _ hS => run_load1 rfl rfl (by first | assumption | exact hct _ hS | exact hS.cell0 (by assumption) | exact lv_next hS | exact lv_list hS)) rfl ?_
    refine pln_read rfl (fun _ hS => run_move (by conv => lhs; whnf)) rfl ?_
    refine pln_read rfl (fun _ hS => run_slice_slice (sz := 3) rfl rfl rfl rfl (by omega) (by omega)) rfl ?_
    refine pln_read rfl (fun _ hS => run_fieldAddr (off := 1) rfl rfl) rfl ?_
    first
      | refine pln_read rfl (fun _ hS => run_load1_own hS rfl rfl (by first | exact .head | exact .tail .head | exact .tail (.tail .head) | exact .tail (.tail (.tail .head)) | exact .tail (.tail (.tail (.tail .head))) | exact .tail (.tail (.tail (.tail (.tail .head))))) (by repeat constructor)) rfl ?_
      | refine pln_read rfl (fun _ hS => run_load1 rfl rfl (by first | assumption | exact hct _ hS | exact hS.cell0 (by assumption) | exact lv_next hS | exact lv_list hS)) rfl ?_
    refine pln_pick rfl ?_ ?_
    · refine lst_enter (run_call (by kernel_rfl) (args_1 (by conv => lhs; whnf))) rfl ?_
      refine Calls.mono (clipC_st n.toNat c A _ (by omega) hS) ?_
      rintro _ w3 ⟨rfl, hS'⟩
      refine ⟨_, rfl, ?_⟩
      replace hS := hS'
      clear hS'
      refine lst_pln (by first | exact hS | exact hS.drop | exact hS.drop.drop | exact hS.drop.drop.drop | exact hS.unlearn | exact hS.unlearn.drop | exact hS.unlearn.drop.drop) ?_
      refine pln_read rfl (fun _ hS => run_build (cells := [_, _]) (.cons (by conv => lhs; whnf) (.cons (by conv => lhs; whnf) .nil)) rfl) rfl ?_
      refine pln_last rfl ?_
      refine lst_alloc (cs := [_, _]) hS rfl rfl rfl ?_
      clear hS
      intro b3 wx3 hS
      refine lst_pln (by first | exact hS | exact hS.drop | exact hS.drop.drop | exact hS.drop.drop.drop | exact hS.unlearn | exact hS.unlearn.drop | exact hS.unlearn.drop.drop) ?_
      refine pln_tail ?_
      refine lst_storeN hS rfl (by conv => lhs; whnf) rfl rfl (by first | exact .head | exact .tail .head | exact .tail (.tail .head) | exact .tail (.tail (.tail .head)) | exact .tail (.tail (.tail (.tail .head))) | exact .tail (.tail (.tail (.tail (.tail .head))))) (by repeat constructor) (by first | exact .head | exact .tail .head | exact .tail (.tail .head) | exact .tail (.tail (.tail .head)) | exact .tail (.tail (.tail (.tail .head))) | exact .tail (.tail (.tail (.tail (.tail .head))))) ?_
      clear hS
      intro wx4 hS
      refine lst_done ?_
      exact hmeet _ _ _ ⟨_, rfl, hS⟩ (by conv => lhs; whnf) (by kernel_rfl)
    refine pln_last rfl ?_
    refine lst_alloc (cs := [_, _]) hS rfl rfl rfl ?_
    clear hS
    intro b4 wx5 hS
    refine lst_pln (by first | exact hS | exact hS.drop | exact hS.drop.drop | exact hS.drop.drop.drop | exact hS.unlearn | exact hS.unlearn.drop | exact hS.unlearn.drop.drop) ?_
    refine pln_last rfl ?_
    refine lst_enter (run_call (by kernel_rfl) (args_1 (by conv => lhs; whnf))) rfl ?_
    refine Calls.mono (clipC_st n.toNat c A _ (by omega) hS) ?_
    rintro _ w3 ⟨rfl, hS'⟩
    refine ⟨_, rfl, ?_⟩
    replace hS := hS'
    clear hS'
    refine lst_pln (by first | exact hS | exact hS.drop | exact hS.drop.drop | exact hS.drop.drop.drop | exact hS.unlearn | exact hS.unlearn.drop | exact hS.unlearn.drop.drop) ?_
    refine pln_read rfl (fun _ hS => run_build (cells := [_, _]) (.cons (by conv => lhs; whnf) (.cons (by conv => lhs; whnf) .nil)) rfl) rfl ?_
    refine pln_tail ?_
    refine lst_storeN hS rfl (by conv => lhs; whnf) rfl rfl (by first | exact .head | exact .tail .head | exact .tail (.tail .head) | exact .tail (.tail (.tail .head)) | exact .tail (.tail (.tail (.tail .head))) | exact .tail (.tail (.tail (.tail (.tail .head))))) (by repeat constructor) (by first | exact .head | exact .tail .head | exact .tail (.tail .head) | exact .tail (.tail (.tail .head)) | exact .tail (.tail (.tail (.tail .head))) | exact .tail (.tail (.tail (.tail (.tail .head))))) ?_
    clear hS
    intro wx6 hS
    refine lst_done ?_
    exact hmeet _ _ _ ⟨_, rfl, hS⟩ (by conv => lhs; whnf) (by kernel_rfl)
  clear hS
  rintro jv _ w3 ⟨b3, rfl, hS⟩
  have hgc := good_any ⟨h.cs.take n.toNat, h.tr⟩ A B n.toNat d
  dsimp only [hv, heapV] at hgc
  rw [hln] at hgc
  refine goes_seq ?_
  refine goes_seq ?_
  refine goes_region ?_
  first
    | refine lst_run (run_loadN_own (k := 2) hS rfl rfl rfl (by first | exact .head | exact .tail .head | exact .tail (.tail .head) | exact .tail (.tail (.tail .head)) | exact .tail (.tail (.tail (.tail .head))) | exact .tail (.tail (.tail (.tail (.tail .head))))) (by repeat constructor)) rfl ?_
    | refine lst_run (run_load2 rfl rfl rfl (by first | assumption | exact hct _ hS | exact hS.cell0 (by assumption)) (by first | assumption | exact hct _ hS | exact hS.cell0 (by assumption))) rfl ?_
  refine lst_enter (run_call (by kernel_rfl) (args_1 (by conv => lhs; whnf))) rfl ?_
  refine Calls.mono (hgc _ (hS.und hCut)) ?_
  rintro _ w4 ⟨rfl, hb4⟩
  refine ⟨_, rfl, ?_⟩
  replace hS := hS.grow hb4
  cases hg2 : goodH ⟨h.cs.take n.toNat, h.tr⟩ with
  | false =>
    have e0 : cutH h n = (h, 1) := by unfold cutH; rw [if_neg (by rw [hg]; decide), if_neg (by omega), if_pos hg2]
    rw [e0]
    refine lst_run (rfl) rfl ?_
    refine lst_done ?_
    refine goes_true rfl ?_
    refine goes_seq ?_
    refine goes_region ?_
    first
      | refine lst_run (run_loadN_own (k := 2) hS rfl rfl rfl (by first | exact .head | exact .tail .head | exact .tail (.tail .head) | exact .tail (.tail (.tail .head)) | exact .tail (.tail (.tail (.tail .head))) | exact .tail (.tail (.tail (.tail (.tail .head))))) (by repeat constructor)) rfl ?_
      | refine lst_run (run_load2 rfl rfl rfl (by first | assumption | exact hct _ hS | exact hS.cell0 (by assumption)) (by first | assumption | exact hct _ hS | exact hS.cell0 (by assumption))) rfl ?_
    refine lst_storeN hS rfl (by conv => lhs; whnf) rfl rfl (by first | exact .head | exact .tail .head | exact .tail (.tail .head) | exact .tail (.tail (.tail .head)) | exact .tail (.tail (.tail (.tail .head))) | exact .tail (.tail (.tail (.tail (.tail .head))))) (by repeat constructor) (by first | exact .head | exact .tail .head | exact .tail (.tail .head) | exact .tail (.tail (.tail .head)) | exact .tail (.tail (.tail (.tail .head))) | exact .tail (.tail (.tail (.tail (.tail .head))))) ?_
    clear hS
    intro wx7 hS
    refine lst_run (run_assign (by conv => lhs; whnf)) rfl ?_
    refine lst_done ?_
    refine goes_retC2 (sz := 2) hS Try.func18 rfl rfl (by conv => lhs; whnf) rfl rfl (by first | exact .head | exact .tail .head | exact .tail (.tail .head) | exact .tail (.tail (.tail .head)) | exact .tail (.tail (.tail (.tail .head))) | exact .tail (.tail (.tail (.tail (.tail .head))))) (by repeat constructor) ?_
    exact ⟨A, c, B, d, F, rfl, fun _ h => h, hH, hS.drop.drop.drop⟩
  | true =>
    have e0 : cutH h n = (⟨h.cs.take n.toNat, h.tr⟩, 0) := by unfold cutH; rw [if_neg (by rw [hg]; decide), if_neg (by omega), if_neg (by rw [hg2]; decide)]
    rw [e0]
    refine lst_run (rfl) rfl ?_
    refine lst_done ?_
    refine goes_false rfl ?_
    refine goes_skip ?_
    refine goes_seq ?_
    refine goes_region ?_
    first
      | refine lst_run (run_loadN_own (k := 2) hS rfl rfl rfl (by first | exact .head | exact .tail .head | exact .tail (.tail .head) | exact .tail (.tail (.tail .head)) | exact .tail (.tail (.tail (.tail .head))) | exact .tail (.tail (.tail (.tail (.tail .head))))) (by repeat constructor)) rfl ?_
      | refine lst_run (run_load2 rfl rfl rfl (by first | assumption | exact hct _ hS | exact hS.cell0 (by assumption)) (by first | assumption | exact hct _ hS | exact hS.cell0 (by assumption))) rfl ?_
    refine lst_storeN hS rfl (by conv => lhs; whnf) rfl rfl (by first | exact .head | exact .tail .head | exact .tail (.tail .head) | exact .tail (.tail (.tail .head)) | exact .tail (.tail (.tail (.tail .head))) | exact .tail (.tail (.tail (.tail (.tail .head))))) (by repeat constructor) (by first | exact .head | exact .tail .head | exact .tail (.tail .head) | exact .tail (.tail (.tail .head)) | exact .tail (.tail (.tail (.tail .head))) | exact .tail (.tail (.tail (.tail (.tail .head))))) ?_
    clear hS
    intro wx7 hS
    refine lst_run (run_assign (by conv => lhs; whnf)) rfl ?_
    refine lst_done ?_
    refine goes_retC2 (sz := 2) hS Try.func18 rfl rfl (by conv => lhs; whnf) rfl rfl (by first | exact .head | exact .tail .head | exact .tail (.tail .head) | exact .tail (.tail (.tail .head)) | exact .tail (.tail (.tail (.tail .head))) | exact .tail (.tail (.tail (.tail (.tail .head))))) (by repeat constructor) ?_
    refine ⟨A, n.toNat, B, d, F, ?_, fun _ h => h, hCut, hS.drop.drop.drop⟩
    dsimp only [hv, heapV]; rw [hln]
end
end Go.Proofs.Ytjicoifjgokoiab
namespace Go.Proofs.Ytjicoifjgokoiab
open Go.RowKit
set_option linter.unusedVariables false
set_option linter.unusedSimpArgs false

theorem hatS {L : List HC} {a : Int} {c : HC} : hat L a = some c ↔ 0 ≤ a ∧ a < L.length ∧ L[a.toNat]? = some c := by
  unfold hat
  constructor
  · intro h
    split at h
    · rename_i h0
      refine ⟨h0, ?_, h⟩
      rcases Nat.lt_or_ge a.toNat L.length with hl | hl
      · omega
      · rw [List.getElem?_eq_none hl] at h; cases h
    · cases h
  · rintro ⟨h0, h1, h2⟩; rw [if_pos h0]; exact h2
theorem hat_in {L : List HC} {a : Int} (h0 : 0 ≤ a) (h1 : a < L.length) : ∃ c, hat L a = some c := ⟨L[a.toNat]'(by omega), hatS.2 ⟨h0, h1, List.getElem?_eq_getElem _⟩⟩
theorem goodL_get {n : Nat} : ∀ {L : List HC} {i : Nat} {c : HC}, goodL n L = true → L[i]? = some c → goodC n c (L.length - i - 1) = true
  | [], i, c, _, h => by simp at h
  | x :: r, 0, c, hg, h => by
    obtain rfl : x = c := by simpa using h
    simp only [goodL, Bool.and_eq_true] at hg
    simpa using hg.1
  | x :: r, i + 1, c, hg, h => by
    simp only [goodL, Bool.and_eq_true] at hg
    have := goodL_get (i := i) (c := c) hg.2 (by simpa using h)
    rw [List.length_cons, show r.length + 1 - (i + 1) - 1 = r.length - i - 1 by omega]; exact this
/-- What a good cell is. -/
theorem goodC_iff {n f : Nat} {c : HC} (h : goodC n c f = true) : (c.k = 0 ∧ 0 ≤ c.n ∧ c.n < n ∧ c.s = eS) ∨ (c.k = 1 ∧ c.n = 0 ∧ c.s ≠ eS) ∨ (c.k = 2 ∧ c.s = eS) ∨ (c.k = 3 ∧ 1 ≤ c.n ∧ c.n ≤ 4 ∧ c.n ≤ f ∧ c.s ≠ eS) := by
  unfold goodC at h
  split at h
  · simp only [Bool.and_eq_true, decide_eq_true_eq] at h; exact .inl ⟨‹_›, h.1, h.2.1, h.2.2⟩
  · split at h
    · simp only [Bool.and_eq_true, decide_eq_true_eq, Bool.not_eq_true', decide_eq_false_iff_not] at h; exact .inr (.inl ⟨‹_›, h.1, h.2⟩)
    · split at h
      · simp only [decide_eq_true_eq] at h; exact .inr (.inr (.inl ⟨‹_›, h⟩))
      · split at h
        · simp only [Bool.and_eq_true, decide_eq_true_eq, Bool.not_eq_true', decide_eq_false_iff_not] at h; exact .inr (.inr (.inr ⟨‹_›, h.1, h.2.1, h.2.2.1, h.2.2.2⟩))
        · cases h
theorem good_hat {n : Nat} {L : List HC} {a : Int} {c : HC} (hg : goodL n L = true) (h : hat L a = some c) : goodC n c (L.length - a.toNat - 1) = true := goodL_get hg (hatS.1 h).2.2
theorem good_args {n : Nat} {L : List HC} {a : Int} (hg : goodL n L = true) : argsAt L a ≤ 4 ∧ (argsAt L a = 0 ∨ (0 ≤ a ∧ a + argsAt L a < L.length)) := by
  unfold argsAt
  cases h : hat L a with
  | none => exact ⟨by simp, .inl rfl⟩
  | some c =>
    obtain ⟨h0, h1, _⟩ := hatS.1 h
    have hc := goodC_iff (good_hat hg h)
    simp only [argsC]
    split
    · rcases hc with hc | hc | hc | hc
      · omega
      · omega
      · omega
      · refine ⟨by omega, .inr ⟨h0, ?_⟩⟩
        omega
    · exact ⟨by simp, .inl rfl⟩
theorem good_ref {n : Nat} {L : List HC} {a : Int} {c : HC} (hg : goodL n L = true) (h : hat L a = some c) (hk : c.k = 0) : 0 ≤ c.n ∧ c.n < n := by
  rcases goodC_iff (good_hat hg h) with hc | hc | hc | hc <;> omega
theorem setN_good {n : Nat} {x : Int} (h0 : 0 ≤ x) (h1 : x < n) : ∀ {L : List HC} {i : Nat}, goodL n L = true → (∀ c, L[i]? = some c → c.k = 0) → goodL n (setN L i x) = true
  | [], i, hg, _ => by rw [setN_nil]; rfl
  | y :: r, 0, hg, hk => by
    rw [setN_zero]
    simp only [goodL, Bool.and_eq_true] at hg ⊢
    refine ⟨?_, hg.2⟩
    have hk0 := hk y (by simp)
    have := hg.1
    unfold goodC at this ⊢
    simp only [hk0, if_true] at this ⊢
    simp only [Bool.and_eq_true, decide_eq_true_eq] at this ⊢
    exact ⟨h0, h1, this.2.2⟩
  | y :: r, i + 1, hg, hk => by
    rw [setN_cons]
    simp only [goodL, Bool.and_eq_true] at hg ⊢
    rw [setN_len]
    exact ⟨hg.1, setN_good h0 h1 hg.2 fun c hc => hk c (by simpa using hc)⟩
/-- Where Look ends. -/
theorem hlookF_end {L : List HC} : ∀ (f : Nat) (a : Int), hlookF L f a = -1 ∨ ∃ c, hat L (hlookF L f a) = some c ∧ (c.k = 0 → c.n = hlookF L f a)
  | 0, a => .inl rfl
  | f + 1, a => by
    cases h : hat L a with
    | none => left; simp only [hlookF, h]
    | some c =>
      by_cases hb : c.k = 0 ∧ c.n ≠ a
      · simp only [hlookF, h, if_pos hb]; exact hlookF_end f c.n
      · right
        simp only [hlookF, h, if_neg hb]
        exact ⟨c, rfl, fun hk => Classical.byContradiction fun hn => hb ⟨hk, hn⟩⟩
theorem hlook_end {L : List HC} {a : Int} (h : ¬ hlook L a < 0) : ∃ c, hat L (hlook L a) = some c ∧ (c.k = 0 → c.n = hlook L a) := by
  rcases hlookF_end (L := L) L.length a with h1 | h1
  · exact absurd (show hlook L a < 0 by unfold hlook; rw [h1]; decide) h
  · exact h1
/-- A unifier over a good heap of n cells. -/
structure GU (n : Nat) (u : HU) : Prop where
  len : u.cs.length = n
  good : goodL n u.cs = true
  wk : u.lg = false → u.w ≤ 400
  trl : u.tr.length ≤ 65536 + u.w
theorem GU.step {n : Nat} {u : HU} (h : GU n u) : GU n u.step := by
  refine ⟨h.len, h.good, fun hl => ?_, ?_⟩
  · simp only [HU.step, Bool.or_eq_false_iff, decide_eq_false_iff_not] at hl ⊢; omega
  · have := h.trl; simp only [HU.step]; omega
theorem GU.look {n : Nat} {u : HU} (h : GU n u) (a : Int) : GU n (u.look a).2 := by
  unfold HU.look
  split
  · exact h
  · rename_i hl; exact ⟨h.len, h.good, fun _ => h.wk (by simpa using hl), h.trl⟩
theorem look_w (u : HU) (a : Int) : (u.look a).2.w = u.w ∧ (u.look a).2.cs = u.cs ∧ (u.look a).2.tr = u.tr := by
  unfold HU.look
  split <;> exact ⟨rfl, rfl, rfl⟩
theorem look_ok {u : HU} {a : Int} (h : (u.look a).2.lg = false) : u.lg = false ∧ (u.look a).1 = hlook u.cs a ∧ ¬ hlook u.cs a < 0 := by
  unfold HU.look at h ⊢
  split at h
  · rename_i hl; rw [hl] at h; cases h
  · rename_i hl
    rw [if_neg hl]
    exact ⟨by simpa using hl, rfl, by simpa using h⟩
theorem GU.bind {n : Nat} {u : HU} (h : GU n u) {a x : Int} {c : HC} (ha : hat u.cs a = some c) (hk : c.k = 0) (h0 : 0 ≤ x) (h1 : x < n) (ht : u.tr.length < 65536 + u.w) : GU n (u.bind a x) := by
  refine ⟨by simp only [HU.bind]; rw [setN_len]; exact h.len, ?_, h.wk, by simp only [HU.bind, List.length_append, List.length_cons, List.length_nil]; omega⟩
  refine setN_good h0 h1 h.good fun c' hc' => ?_
  rw [(hatS.1 ha).2.2] at hc'
  obtain rfl := Option.some.inj hc'
  exact hk
/-- Occurs: nothing is bound; the work. -/
structure OU (n f : Nat) (u v : HU) : Prop where
  cs : v.cs = u.cs
  tr : v.tr = u.tr
  lt : u.w < v.w
  le : v.w ≤ max (u.w + 1) (401 + 4 * f)
  wk : v.lg = false → v.w ≤ 400
  lg : u.lg = true → v.lg = true
theorem any_up {n f : Nat} {g : Int → HU → Bool × HU} {cs : List HC} (hg : ∀ x u, u.cs = cs → (u.lg = false → u.w ≤ 400) → OU n f u (g x u).2) :
    ∀ (m : Nat) (x : Int) (u : HU), u.cs = cs → (u.lg = false → u.w ≤ 400) → (anyU g m x u).2.cs = u.cs ∧ (anyU g m x u).2.tr = u.tr ∧ u.w ≤ (anyU g m x u).2.w ∧ (anyU g m x u).2.w ≤ max (u.w + m) (401 + 4 * f + m) ∧ ((anyU g m x u).2.lg = false → (anyU g m x u).2.w ≤ 400) ∧ (u.lg = true → (anyU g m x u).2.lg = true)
  | 0, x, u, hcs, hu => ⟨rfl, rfl, Nat.le_refl _, by simp only [anyU]; omega, hu, fun h => h⟩
  | m + 1, x, u, hcs, hu => by
    have h1 := hg x u hcs hu
    simp only [anyU]
    split
    · exact ⟨h1.cs, h1.tr, Nat.le_of_lt h1.lt, by have := h1.le; omega, h1.wk, h1.lg⟩
    · obtain ⟨a1, a2, a3, a4, a5, a6⟩ := any_up hg m (x + 1) (g x u).2 (h1.cs.trans hcs) h1.wk
      refine ⟨a1.trans h1.cs, a2.trans h1.tr, Nat.le_trans (Nat.le_of_lt h1.lt) a3, ?_, a5, fun h => a6 (h1.lg h)⟩
      have := h1.le
      omega
theorem occ_up {n : Nat} (a : Int) : ∀ (f : Nat) (b : Int) (u : HU), goodL n u.cs = true → (u.lg = false → u.w ≤ 400) → OU n f u (occU a f b u).2
  | f, b, u, hgd, hu => by
    have hs : OU n f u (u.step.look b).2 := by
      have hw := look_w u.step b
      refine ⟨hw.2.1, hw.2.2, ?_, ?_, fun h => ?_, fun h => ?_⟩
      · rw [hw.1]; exact Nat.lt_succ_self _
      · rw [hw.1]; show u.w + 1 ≤ _; omega
      · rw [hw.1]
        have := (look_ok h).1
        simp only [HU.step, Bool.or_eq_false_iff, decide_eq_false_iff_not] at this
        show u.w + 1 ≤ 400
        omega
      · cases hq : (u.step.look b).2.lg with
        | true => rfl
        | false =>
          have := (look_ok hq).1
          simp only [HU.step, Bool.or_eq_false_iff] at this
          rw [h] at this; cases this.1
    cases f with
    | zero => exact hs
    | succ f =>
      simp only [occU]
      split
      · exact hs
      · split
        · exact hs
        · rename_i hl _
          have hl' : (u.step.look b).2.lg = false := by simpa using hl
          have hcs0 : (u.step.look b).2.cs = u.cs := (look_w u.step b).2.1
          have hA := (good_args (a := (u.step.look b).1) hgd).1
          obtain ⟨a1, a2, a3, a4, a5, a6⟩ := any_up (n := n) (f := f) (g := occU a f) (cs := u.cs) (fun x v hv hw => occ_up a f x v (by rw [hv]; exact hgd) hw) (argsAt u.cs (u.step.look b).1) ((u.step.look b).1 + 1) (u.step.look b).2 hcs0 hs.wk
          refine ⟨a1.trans hs.cs, a2.trans hs.tr, Nat.lt_of_lt_of_le hs.lt a3, ?_, a5, fun h => a6 (hs.lg h)⟩
          have hwl := hs.wk hl'
          omega
/-- What unification leaves. -/
structure UU (n : Nat) (u : HU) (r : Bool × HU) : Prop where
  gu : GU n r.2
  lt : u.w < r.2.w
  le : r.2.w ≤ 3000
  ok : r.1 = true → r.2.lg = false
  ext : u.tr.length + r.2.w ≤ r.2.tr.length + r.2.w ∧ r.2.tr.length ≤ u.tr.length + (r.2.w - u.w)
theorem asg_up {n : Nat} {u : HU} (h : GU n u) (hl : u.lg = false) {a b : Int} {c : HC} (ha : hat u.cs a = some c) (hk : c.k = 0) (h0 : 0 ≤ b) (h1 : b < n) : UU n u (asgU a b u) := by
  have ho := occ_up (n := n) a 401 b u h.good h.wk
  have hw := h.wk hl
  have hle := ho.le
  have hlt := ho.lt
  have ht := h.trl
  have hgu : GU n (occU a 401 b u).2 := ⟨by rw [ho.cs]; exact h.len, by rw [ho.cs]; exact h.good, ho.wk, by rw [ho.tr]; omega⟩
  unfold asgU
  split
  · exact ⟨hgu, hlt, (by show (occU a 401 b u).2.w ≤ 3000; omega), fun h => (by cases h), (by dsimp only; rw [ho.tr]; constructor <;> omega)⟩
  · rename_i hn
    have hlg : (occU a 401 b u).2.lg = false := by
      cases hq : (occU a 401 b u).2.lg with
      | false => rfl
      | true => exact absurd (.inr hq) hn
    refine ⟨hgu.bind (by rw [ho.cs]; exact ha) hk h0 h1 (by rw [ho.tr]; omega), hlt, by show (occU a 401 b u).2.w ≤ 3000; omega, fun _ => hlg, ?_⟩
    show u.tr.length + (occU a 401 b u).2.w ≤ ((occU a 401 b u).2.tr ++ [a]).length + (occU a 401 b u).2.w ∧ ((occU a 401 b u).2.tr ++ [a]).length ≤ u.tr.length + ((occU a 401 b u).2.w - u.w)
    rw [ho.tr]
    simp only [List.length_append, List.length_cons, List.length_nil]
    omega
theorem all_up {n : Nat} {g : Int → Int → HU → Bool × HU} (hg : ∀ x y u, GU n u → u.lg = false → UU n u (g x y u)) :
    ∀ (m : Nat) (x y : Int) (u : HU), GU n u → u.lg = false → GU n (allU g m x y u).2 ∧ u.w ≤ (allU g m x y u).2.w ∧ (allU g m x y u).2.w ≤ 3000 ∧ ((allU g m x y u).1 = true → (allU g m x y u).2.lg = false) ∧ u.tr.length ≤ (allU g m x y u).2.tr.length ∧ (allU g m x y u).2.tr.length ≤ u.tr.length + ((allU g m x y u).2.w - u.w)
  | 0, x, y, u, h, hl => ⟨h, Nat.le_refl _, by have := h.wk hl; simp only [allU]; omega, fun _ => hl, Nat.le_refl _, by simp only [allU]; omega⟩
  | m + 1, x, y, u, h, hl => by
    have h1 := hg x y u h hl
    have hx := h1.ext
    simp only [allU]
    split
    · rename_i hok
      obtain ⟨a1, a2, a3, a4, a5, a6⟩ := all_up hg m (x + 1) (y + 1) (g x y u).2 h1.gu (h1.ok hok)
      have := h1.lt
      exact ⟨a1, by omega, a3, a4, by omega, by omega⟩
    · exact ⟨h1.gu, Nat.le_of_lt h1.lt, h1.le, h1.ok, by omega, by omega⟩
theorem uni_up {n : Nat} : ∀ (f : Nat) (a b : Int) (u : HU), GU n u → u.lg = false → UU n u (uniU f a b u)
  | f, a, b, u, h, hl => by
    have hw0 := h.wk hl
    have hwa := look_w u.step a
    have hwb := look_w (u.step.look a).2 b
    have hg2 : GU n ((u.step.look a).2.look b).2 := (h.step.look a).look b
    have hw2 : ((u.step.look a).2.look b).2.w = u.w + 1 := by rw [hwb.1, hwa.1]; rfl
    have hcs2 : ((u.step.look a).2.look b).2.cs = u.cs := by rw [hwb.2.1, hwa.2.1]; rfl
    have htr2 : ((u.step.look a).2.look b).2.tr = u.tr := by rw [hwb.2.2, hwa.2.2]; rfl
    have hfail : UU n u (false, ((u.step.look a).2.look b).2) := ⟨hg2, (by show u.w < ((u.step.look a).2.look b).2.w; rw [hw2]; omega), (by show ((u.step.look a).2.look b).2.w ≤ 3000; rw [hw2]; omega), fun h => (by cases h), (by dsimp only; rw [htr2, hw2]; constructor <;> omega)⟩
    cases f with
    | zero => exact hfail
    | succ f =>
      simp only [uniU]
      split
      · exact hfail
      rename_i hl2
      have hl2' : ((u.step.look a).2.look b).2.lg = false := by simpa using hl2
      obtain ⟨hla, hb1, hb2⟩ := look_ok hl2'
      obtain ⟨_, ha1, ha2⟩ := look_ok hla
      rw [hwa.2.1] at hb1 hb2
      obtain ⟨x, hx, hxe⟩ := hlook_end ha2
      obtain ⟨y, hy, hye⟩ := hlook_end hb2
      rw [← ha1] at hx hxe
      rw [← hb1] at hy hye
      replace hx : hat u.cs (u.step.look a).1 = some x := hx
      replace hy : hat u.cs ((u.step.look a).2.look b).1 = some y := hy
      obtain ⟨x0, x1, _⟩ := hatS.1 hx
      obtain ⟨y0, y1, _⟩ := hatS.1 hy
      rw [h.len] at x1 y1
      have hkx : kindAt u.cs (u.step.look a).1 = x.k := by unfold kindAt; rw [hx]
      have hky : kindAt u.cs ((u.step.look a).2.look b).1 = y.k := by unfold kindAt; rw [hy]
      rw [hkx, hky]
      have hstep : ∀ {r : Bool × HU}, UU n ((u.step.look a).2.look b).2 r → UU n u r := fun {r} hr => by
        have h1 := hr.lt
        have h2 := hr.ext
        rw [hw2] at h1 h2
        rw [htr2] at h2
        exact ⟨hr.gu, by omega, hr.le, hr.ok, by omega, by omega⟩
      split
      · rename_i hk0
        split
        · rename_i hk1
          split
          · exact ⟨hg2, by show u.w < ((u.step.look a).2.look b).2.w; rw [hw2]; omega, by show ((u.step.look a).2.look b).2.w ≤ 3000; rw [hw2]; omega, fun _ => hl2', by dsimp only; rw [htr2, hw2]; constructor <;> omega⟩
          · have ht := h.trl
            have hbd : GU n (((u.step.look a).2.look b).2.bind (max (u.step.look a).1 ((u.step.look a).2.look b).1) (min (u.step.look a).1 ((u.step.look a).2.look b).1)) := by
              rcases Int.le_total (u.step.look a).1 ((u.step.look a).2.look b).1 with hle | hle
              · rw [Int.max_eq_right hle, Int.min_eq_left hle]
                exact hg2.bind (by rw [hcs2]; exact hy) hk1 x0 x1 (by rw [htr2, hw2]; omega)
              · rw [Int.max_eq_left hle, Int.min_eq_right hle]
                exact hg2.bind (by rw [hcs2]; exact hx) hk0 y0 y1 (by rw [htr2, hw2]; omega)
            refine ⟨hbd, by show u.w < ((u.step.look a).2.look b).2.w; rw [hw2]; omega, by show ((u.step.look a).2.look b).2.w ≤ 3000; rw [hw2]; omega, fun _ => hl2', ?_⟩
            simp only [HU.bind, List.length_append, List.length_cons, List.length_nil]
            rw [htr2, hw2]
            constructor <;> omega
        · exact hstep (asg_up hg2 hl2' (by rw [hcs2]; exact hx) hk0 y0 y1)
      · split
        · rename_i hk1
          exact hstep (asg_up hg2 hl2' (by rw [hcs2]; exact hy) hk1 x0 x1)
        · unfold partsU
          split
          · obtain ⟨a1, a2, a3, a4, a5, a6⟩ := all_up (fun x y v hv hlv => uni_up f x y v hv hlv) (argsAt ((u.step.look a).2.look b).2.cs (u.step.look a).1) ((u.step.look a).1 + 1) (((u.step.look a).2.look b).1 + 1) _ hg2 hl2'
            rw [hw2] at a2 a6
            rw [htr2] at a5 a6
            exact ⟨a1, by omega, a3, a4, by omega, by omega⟩
          · exact hfail
end Go.Proofs.Ytjicoifjgokoiab
