/- HWalk4, HPure, HWalk5, HWalk6: texts that follow one another, laid into one file. -/
import Derived.Test.YtjicoifjgokoiaaG3
import Derived.Test.YtjicoifjgokoiaaG0
namespace Go.Proofs.Ytjicoifjgokoiaa
open Go.RowKit
set_option linter.unusedVariables false
set_option linter.unusedSimpArgs false
set_option maxRecDepth 100000
set_option maxHeartbeats 1000000

section
variable {M : List Nat} {w0 : World} {H : List (Nat × Obj)} {F : List (World → Prop)}
/-- What a function that gives a heap leaves. -/
def HRes (M : List Nat) (w0 : World) (H : List (Nat × Obj)) (F : List (World → Prop)) (h : HH) (k : Option Addr → Nat → Option Addr → Nat → Ending → Prop) (e : Ending) (w : World) : Prop :=
  ∃ (A : Option Addr) (c : Nat) (B : Option Addr) (d : Nat) (F' : List (World → Prop)), k A c B d e ∧ (∀ φ ∈ F, φ ∈ F') ∧ Und F' (HFl h A c B d) ∧ St M w0 H F' w
theorem load_any (h : HH) (K : List HC) (A B A2 : Option Addr) (c d c2 : Nat) (w : World) (hH : Und F (HFl h A c B d)) (hK : Und F (Flat 3 (hcsL K) A2 K.length c2)) (hS : St M w0 H F w) :
    Calls Try.prog 29 #[hv h A c B d, .slice A2 K.length c2] w (HRes M w0 H F (loadH h K).1 fun A' c' B' d' e => e = .returned (.tuple #[hv (loadH h K).1 A' c' B' d', .int .i64 ((loadH h K).2.1 : Nat), .int .i64 (loadH h K).2.2])) := by
  refine goes_enter2 Try.func29 rfl Try.ntmps29 rfl ?_
  refine goes_seq ?_
  refine goes_region ?_
  refine lst_box hS rfl rfl ?_
  clear hS
  intro b1 wx1 hS
  refine lst_alloc (cs := [_, _]) hS rfl rfl rfl ?_
  clear hS
  intro b2 wx2 hS
  refine lst_run (run_assign (by conv => lhs; whnf)) rfl ?_
  refine lst_run (run_assign (by conv => lhs; whnf)) rfl ?_
  refine lst_done ?_
  refine goes_seq ?_
  refine goes_seq ?_
  refine goes_region ?_
  first
    | refine lst_run (run_loadN_own (k := 2) hS rfl rfl rfl (by first | exact .head | exact .tail .head | exact .tail (.tail .head) | exact .tail (.tail (.tail .head)) | exact .tail (.tail (.tail (.tail .head))) | exact .tail (.tail (.tail (.tail (.tail .head))))) (by repeat constructor)) rfl ?_
    | refine lst_run (run_load2 rfl rfl rfl (by first | assumption | exact hS.cell0 (by assumption)) (by first | assumption | exact hS.cell0 (by assumption))) rfl ?_
  refine lst_enter (run_call (by kernel_rfl) (args_1 (by conv => lhs; whnf))) rfl ?_
  refine Calls.mono (good_any h A B c d _ (hS.und hH)) ?_
  rintro _ w2 ⟨rfl, hb2⟩
  refine ⟨_, rfl, ?_⟩
  replace hS := hS.grow hb2
  cases hg : goodH h with
  | false =>
    have e0 : loadH h K = (h, 0, 1) := by unfold loadH; rw [hg]; rfl
    rw [e0]
    refine lst_run (rfl) rfl ?_
    refine lst_run (run_move (by conv => lhs; whnf)) rfl ?_
    refine lst_pass rfl rfl rfl ?_
    refine lst_pass rfl rfl rfl ?_
    refine lst_pass rfl rfl rfl ?_
    first
      | refine lst_run (run_pick_t rfl (by conv => lhs; whnf)) rfl ?_
      | refine lst_run (run_pick_f rfl (by conv => lhs; whnf)) rfl ?_
    refine lst_done ?_
    refine goes_true rfl ?_
    refine goes_seq ?_
    refine goes_region ?_
    first
      | refine lst_run (run_loadN_own (k := 2) hS rfl rfl rfl (by first | exact .head | exact .tail .head | exact .tail (.tail .head) | exact .tail (.tail (.tail .head)) | exact .tail (.tail (.tail (.tail .head))) | exact .tail (.tail (.tail (.tail (.tail .head))))) (by repeat constructor)) rfl ?_
      | refine lst_run (run_load2 rfl rfl rfl (by first | assumption | exact hS.cell0 (by assumption)) (by first | assumption | exact hS.cell0 (by assumption))) rfl ?_
    refine lst_storeN hS rfl (by conv => lhs; whnf) rfl rfl (by first | exact .head | exact .tail .head | exact .tail (.tail .head) | exact .tail (.tail (.tail .head)) | exact .tail (.tail (.tail (.tail .head))) | exact .tail (.tail (.tail (.tail (.tail .head))))) (by repeat constructor) (by first | exact .head | exact .tail .head | exact .tail (.tail .head) | exact .tail (.tail (.tail .head)) | exact .tail (.tail (.tail (.tail .head))) | exact .tail (.tail (.tail (.tail (.tail .head))))) ?_
    clear hS
    intro wx3 hS
    refine lst_run (run_assign (by conv => lhs; whnf)) rfl ?_
    refine lst_run (run_assign (by conv => lhs; whnf)) rfl ?_
    refine lst_done ?_
    refine goes_retC3 (sz := 2) hS Try.func29 rfl rfl (by conv => lhs; whnf) (by conv => lhs; whnf) rfl rfl (by first | exact .head | exact .tail .head | exact .tail (.tail .head) | exact .tail (.tail (.tail .head)) | exact .tail (.tail (.tail (.tail .head))) | exact .tail (.tail (.tail (.tail (.tail .head))))) (by repeat constructor) ?_
    exact ⟨A, c, B, d, F, rfl, fun _ h => h, hH, hS.drop.drop⟩
  | true =>
  obtain ⟨hl1, hl2⟩ := good_len hg
  refine lst_run (rfl) rfl ?_
  refine lst_run (run_move (by conv => lhs; whnf)) rfl ?_
  refine lst_guard rfl rfl ?_
  refine lst_run (run_move (by conv => lhs; whnf)) rfl ?_
  refine lst_guard rfl rfl ?_
  refine lst_enter (run_call (by kernel_rfl) (args_1 (by conv => lhs; whnf))) rfl ?_
  refine Calls.mono (goodCells_any K A2 c2 _ (hS.und hK)) ?_
  rintro _ w3 ⟨rfl, hb3⟩
  refine ⟨_, rfl, ?_⟩
  replace hS := hS.grow hb3
  cases hgk : goodCs K with
  | false =>
    have e0 : loadH h K = (h, 0, 1) := by unfold loadH; rw [hg, hgk]; rfl
    rw [e0]
    refine lst_guard rfl rfl ?_
    refine lst_run (rfl) rfl ?_
    first
      | refine lst_run (run_pick_t rfl (by conv => lhs; whnf)) rfl ?_
      | refine lst_run (run_pick_f rfl (by conv => lhs; whnf)) rfl ?_
    refine lst_done ?_
    refine goes_true rfl ?_
    refine goes_seq ?_
    refine goes_region ?_
    first
      | refine lst_run (run_loadN_own (k := 2) hS rfl rfl rfl (by first | exact .head | exact .tail .head | exact .tail (.tail .head) | exact .tail (.tail (.tail .head)) | exact .tail (.tail (.tail (.tail .head))) | exact .tail (.tail (.tail (.tail (.tail .head))))) (by repeat constructor)) rfl ?_
      | refine lst_run (run_load2 rfl rfl rfl (by first | assumption | exact hS.cell0 (by assumption)) (by first | assumption | exact hS.cell0 (by assumption))) rfl ?_
    refine lst_storeN hS rfl (by conv => lhs; whnf) rfl rfl (by first | exact .head | exact .tail .head | exact .tail (.tail .head) | exact .tail (.tail (.tail .head)) | exact .tail (.tail (.tail (.tail .head))) | exact .tail (.tail (.tail (.tail (.tail .head))))) (by repeat constructor) (by first | exact .head | exact .tail .head | exact .tail (.tail .head) | exact .tail (.tail (.tail .head)) | exact .tail (.tail (.tail (.tail .head))) | exact .tail (.tail (.tail (.tail (.tail .head))))) ?_
    clear hS
    intro wx3 hS
    refine lst_run (run_assign (by conv => lhs; whnf)) rfl ?_
    refine lst_run (run_assign (by conv => lhs; whnf)) rfl ?_
    refine lst_done ?_
    refine goes_retC3 (sz := 2) hS Try.func29 rfl rfl (by conv => lhs; whnf) (by conv => lhs; whnf) rfl rfl (by first | exact .head | exact .tail .head | exact .tail (.tail .head) | exact .tail (.tail (.tail .head)) | exact .tail (.tail (.tail (.tail .head))) | exact .tail (.tail (.tail (.tail (.tail .head))))) (by repeat constructor) ?_
    exact ⟨A, c, B, d, F, rfl, fun _ h => h, hH, hS.drop.drop⟩
  | true =>
  have hlk : K.length ≤ 65536 := by
    unfold goodCs at hgk
    simp only [Bool.and_eq_true, decide_eq_true_eq] at hgk
    exact hgk.1
  by_cases hlong : 65536 < h.cs.length + K.length
  · have e0 : loadH h K = (h, 0, 3) := by unfold loadH; rw [hg, hgk, if_neg (by decide), if_pos hlong]
    rw [e0]
    refine lst_guard rfl rfl ?_
    refine lst_run (rfl) rfl ?_
    first
      | refine lst_run (run_pick_t rfl (by conv => lhs; whnf)) rfl ?_
      | refine lst_run (run_pick_f rfl (by conv => lhs; whnf)) rfl ?_
    refine lst_done ?_
    refine goes_false rfl ?_
    refine goes_skip ?_
    refine goes_seq ?_
    refine goes_region ?_
    refine lst_run (run_fieldAddr (off := 0) rfl rfl) rfl ?_
    first
      | refine lst_run (run_load1_own hS rfl rfl (by first | exact .head | exact .tail .head | exact .tail (.tail .head) | exact .tail (.tail (.tail .head)) | exact .tail (.tail (.tail (.tail .head))) | exact .tail (.tail (.tail (.tail (.tail .head))))) (by repeat constructor)) rfl ?_
      | refine lst_run (run_load1 rfl rfl (by first | assumption | exact hS.cell0 (by assumption) | exact lv_next hS | exact lv_list hS)) rfl ?_
    refine lst_run (run_len_slice rfl rfl rfl) rfl ?_
    refine lst_run (run_assign (by conv => lhs; whnf)) rfl ?_
    refine lst_done ?_
    refine goes_seq ?_
    refine goes_seq ?_
    refine goes_region ?_
    refine lst_run (run_move (by conv => lhs; whnf)) rfl ?_
    refine lst_run (run_move (by conv => lhs; whnf)) rfl ?_
    refine lst_run (run_len_slice rfl rfl rfl) rfl ?_
    refine lst_run (run_add rfl rfl (by omega) (by omega)) rfl ?_
    first
      | refine lst_run (run_gtr_yes rfl rfl (by omega)) rfl ?_
      | refine lst_run (run_gtr_no rfl rfl (by omega)) rfl ?_
      | refine lst_run (rfl) rfl ?_
    refine lst_done ?_
    refine goes_true rfl ?_
    refine goes_seq ?_
    refine goes_region ?_
    first
      | refine lst_run (run_loadN_own (k := 2) hS rfl rfl rfl (by first | exact .head | exact .tail .head | exact .tail (.tail .head) | exact .tail (.tail (.tail .head)) | exact .tail (.tail (.tail (.tail .head))) | exact .tail (.tail (.tail (.tail (.tail .head))))) (by repeat constructor)) rfl ?_
      | refine lst_run (run_load2 rfl rfl rfl (by first | assumption | exact hS.cell0 (by assumption)) (by first | assumption | exact hS.cell0 (by assumption))) rfl ?_
    refine lst_storeN hS rfl (by conv => lhs; whnf) rfl rfl (by first | exact .head | exact .tail .head | exact .tail (.tail .head) | exact .tail (.tail (.tail .head)) | exact .tail (.tail (.tail (.tail .head))) | exact .tail (.tail (.tail (.tail (.tail .head))))) (by repeat constructor) (by first | exact .head | exact .tail .head | exact .tail (.tail .head) | exact .tail (.tail (.tail .head)) | exact .tail (.tail (.tail (.tail .head))) | exact .tail (.tail (.tail (.tail (.tail .head))))) ?_
    clear hS
    intro wx3 hS
    refine lst_run (run_assign (by conv => lhs; whnf)) rfl ?_
    refine lst_run (run_assign (by conv => lhs; whnf)) rfl ?_
    refine lst_done ?_
    refine goes_retC3 (sz := 2) hS Try.func29 rfl rfl (by conv => lhs; whnf) (by conv => lhs; whnf) rfl rfl (by first | exact .head | exact .tail .head | exact .tail (.tail .head) | exact .tail (.tail (.tail .head)) | exact .tail (.tail (.tail (.tail .head))) | exact .tail (.tail (.tail (.tail (.tail .head))))) (by repeat constructor) ?_
    exact ⟨A, c, B, d, F, rfl, fun _ h => h, hH, hS.drop.drop⟩
  have e0 : loadH h K = (⟨h.cs ++ K.map (moved h.cs.length), h.tr⟩, h.cs.length, 0) := by unfold loadH; rw [hg, hgk, if_neg (by decide), if_neg hlong]
  rw [e0]
  refine lst_guard rfl rfl ?_
  refine lst_run (rfl) rfl ?_
  first
    | refine lst_run (run_pick_t rfl (by conv => lhs; whnf)) rfl ?_
    | refine lst_run (run_pick_f rfl (by conv => lhs; whnf)) rfl ?_
  refine lst_done ?_
  refine goes_false rfl ?_
  refine goes_skip ?_
  refine goes_seq ?_
  refine goes_region ?_
  refine lst_run (run_fieldAddr (off := 0) rfl rfl) rfl ?_
  first
    | refine lst_run (run_load1_own hS rfl rfl (by first | exact .head | exact .tail .head | exact .tail (.tail .head) | exact .tail (.tail (.tail .head)) | exact .tail (.tail (.tail (.tail .head))) | exact .tail (.tail (.tail (.tail (.tail .head))))) (by repeat constructor)) rfl ?_
    | refine lst_run (run_load1 rfl rfl (by first | assumption | exact hS.cell0 (by assumption) | exact lv_next hS | exact lv_list hS)) rfl ?_
  refine lst_run (run_len_slice rfl rfl rfl) rfl ?_
  refine lst_run (run_assign (by conv => lhs; whnf)) rfl ?_
  refine lst_done ?_
  refine goes_seq ?_
  refine goes_seq ?_
  refine goes_region ?_
  refine lst_run (run_move (by conv => lhs; whnf)) rfl ?_
  refine lst_run (run_move (by conv => lhs; whnf)) rfl ?_
  refine lst_run (run_len_slice rfl rfl rfl) rfl ?_
  refine lst_run (run_add rfl rfl (by omega) (by omega)) rfl ?_
  first
    | refine lst_run (run_gtr_yes rfl rfl (by omega)) rfl ?_
    | refine lst_run (run_gtr_no rfl rfl (by omega)) rfl ?_
    | refine lst_run (rfl) rfl ?_
  refine lst_done ?_
  refine goes_false rfl ?_
  refine goes_skip ?_
  refine goes_seq ?_
  refine goes_region ?_
  refine lst_run (run_fieldAddr (off := 0) rfl rfl) rfl ?_
  first
    | refine lst_run (run_load1_own hS rfl rfl (by first | exact .head | exact .tail .head | exact .tail (.tail .head) | exact .tail (.tail (.tail .head)) | exact .tail (.tail (.tail (.tail .head))) | exact .tail (.tail (.tail (.tail (.tail .head))))) (by repeat constructor)) rfl ?_
    | refine lst_run (run_load1 rfl rfl (by first | assumption | exact hS.cell0 (by assumption) | exact lv_next hS | exact lv_list hS)) rfl ?_
  refine lst_run (run_move (by conv => lhs; whnf)) rfl ?_
  refine lst_buildSlice (cells := [_, _]) hS (.cons (by conv => lhs; whnf) (.cons (by conv => lhs; whnf) .nil)) rfl rfl ?_
  clear hS
  intro b3 wx3 hS
  refine lst_enter (run_call (by kernel_rfl) (args_1 (by conv => lhs; whnf))) rfl ?_
  refine Calls.mono (concat_any h.cs K A A2 c c2 _ _ (hH.imp fun _ h => h.1) hK (by omega) hS) ?_
  rintro _ w4 ⟨A4, c4, O4, rfl, hrow4, hS'⟩
  refine ⟨_, rfl, ?_⟩
  replace hS := hS'
  clear hS'
  have hcl : (h.cs ++ K).length = h.cs.length + K.length := by simp
  have hc4 : h.cs.length ≤ c4 := by obtain ⟨_, _, e, hle⟩ := hrow4.form; cases e; omega
  have hn : (((h.cs ++ K).length - ((h.cs.length : Nat) : Int).toNat : Nat) : Int) = ((K.length : Nat) : Int) := by rw [hcl]; omega
  refine lst_run (run_assign (by conv => lhs; whnf)) rfl ?_
  refine lst_done ?_
  refine goes_seq ?_
  refine goes_seq ?_
  refine goes_region ?_
  refine lst_run (run_move (by conv => lhs; whnf)) rfl ?_
  refine lst_run (run_move (by conv => lhs; whnf)) rfl ?_
  first
    | refine lst_run (run_slice_lt (sz := 3) rfl rfl rfl rfl (by omega) (by omega) (by omega)) rfl ?_
    | refine lst_run (run_slice_rest (sz := 3) rfl rfl rfl rfl (by omega) (by omega)) rfl ?_
  refine lst_run (run_len_slice rfl rfl rfl) rfl ?_
  refine lst_run (run_move (by conv => lhs; whnf)) rfl ?_
  refine lst_done ?_
  refine goes_block ?_
  rw [hn]
  refine goes_loop1 38 (39 :: 40 :: 9 :: 41 :: 42 :: 43 :: 44 :: 45 :: 10 :: 46 :: 47 :: 48 :: 49 :: 50 :: 51 :: 52 :: 53 :: 54 :: 55 :: 56 :: 57 :: 58 :: 59 :: []) (fun (R : List HC) v w' => ∃ (D : List HC) (O : List (Nat × Obj)), K = D ++ R ∧ v = .int .i64 (D.length : Nat) ∧ Rw 86 3 (.slice A4 (h.cs ++ K).length c4) (h.cs ++ K).length (hcsL ((h.cs ++ D.map (moved h.cs.length)) ++ R)) O ∧ St M w0 (O ++ (b2, hob none 0 0 none 0 0) :: (b1, hob A h.cs.length c B h.tr.length d) :: H) F w') (fun R => R.length) (K) ?_ (by conv => lhs; whnf) ?_
  · exact ⟨[], O4, rfl, rfl, by simpa using hrow4, hS⟩
  clear hS
  rintro R _ w5 jv ⟨D, O, hD, rfl, hrow, hS⟩ ih
  have hlen : K.length = D.length + R.length := by rw [hD]; simp
  cases R with
  | nil =>
    simp only [List.length_nil] at hlen
    have hKD : K = D := by simpa using hD
    subst hKD
    rw [List.append_nil] at hrow
    have hS2 := St.freezeR hrow hS
    have hl5 : (h.cs ++ K.map (moved h.cs.length)).length = (h.cs ++ K).length := by simp
    replace hS := hS2
    clear hS2
    refine goes_seq ?_
    refine goes_region ?_
    first
      | refine lst_run (run_lss_yes rfl rfl (by omega)) rfl ?_
      | refine lst_run (run_lss_no rfl rfl (by omega)) rfl ?_
      | refine lst_run (rfl) rfl ?_
    refine lst_done ?_
    refine goes_seq ?_
    refine goes_false rfl ?_
    refine goes_exit rfl ?_
    refine goes_seq ?_
    refine goes_region ?_
    refine lst_run (run_move (by conv => lhs; whnf)) rfl ?_
    refine lst_run (run_fieldAddr (off := 1) rfl rfl) rfl ?_
    first
      | refine lst_run (run_load1_own hS rfl rfl (by first | exact .head | exact .tail .head | exact .tail (.tail .head) | exact .tail (.tail (.tail .head)) | exact .tail (.tail (.tail (.tail .head))) | exact .tail (.tail (.tail (.tail (.tail .head))))) (by repeat constructor)) rfl ?_
      | refine lst_run (run_load1 rfl rfl (by first | assumption | exact hS.cell0 (by assumption) | exact lv_next hS | exact lv_list hS)) rfl ?_
    refine lst_run (run_build (cells := [_, _]) (.cons (by conv => lhs; whnf) (.cons (by conv => lhs; whnf) .nil)) rfl) rfl ?_
    refine lst_run (run_move (by conv => lhs; whnf)) rfl ?_
    refine lst_storeN hS rfl (by conv => lhs; whnf) rfl rfl (by first | exact .head | exact .tail .head | exact .tail (.tail .head) | exact .tail (.tail (.tail .head)) | exact .tail (.tail (.tail (.tail .head))) | exact .tail (.tail (.tail (.tail (.tail .head))))) (by repeat constructor) (by first | exact .head | exact .tail .head | exact .tail (.tail .head) | exact .tail (.tail (.tail .head)) | exact .tail (.tail (.tail (.tail .head))) | exact .tail (.tail (.tail (.tail (.tail .head))))) ?_
    clear hS
    intro wx4 hS
    refine lst_run (run_assign (by conv => lhs; whnf)) rfl ?_
    refine lst_run (run_assign (by conv => lhs; whnf)) rfl ?_
    refine lst_done ?_
    refine goes_retC3 (sz := 2) hS Try.func29 rfl rfl (by conv => lhs; whnf) (by conv => lhs; whnf) rfl rfl (by first | exact .head | exact .tail .head | exact .tail (.tail .head) | exact .tail (.tail (.tail .head)) | exact .tail (.tail (.tail (.tail .head))) | exact .tail (.tail (.tail (.tail (.tail .head))))) (by repeat constructor) ?_
    refine ⟨A4, c4, B, d, _, ?_, fun φ h => .tail _ h, ?_, hS.drop.drop⟩
    · dsimp only [hv, heapV]; rw [hl5]
    · intro w' hw
      refine ⟨?_, ((hH.tail) w' hw).2⟩
      have := hw _ (.head _)
      rw [← hl5] at this
      exact this
  | cons x R =>
    simp only [List.length_cons] at hlen
    obtain ⟨g, sp, hA4, hO, hcap, hle, _⟩ := hrow.some_ (by omega)
    subst hA4 hO
    have hi : ((h.cs ++ D.map (moved h.cs.length)) ++ x :: R)[((h.cs.length : Int) + ((D.length : Nat) : Int)).toNat]? = some x := by
      rw [show ((h.cs.length : Int) + ((D.length : Nat) : Int)).toNat = (h.cs ++ D.map (moved h.cs.length)).length by simp; omega]; simp
    have hcc : ∀ w', St M w0 ([(g, .cells (hcsL ((h.cs ++ D.map (moved h.cs.length)) ++ x :: R) ++ sp).toArray 86)] ++ (b2, hob none 0 0 none 0 0) :: (b1, hob A h.cs.length c B h.tr.length d) :: H) F w' → _ := fun w' hS => Flat.cell (b := g) (o := 0) (L := (h.cs ++ D.map (moved h.cs.length)) ++ x :: R) (cap := c4) (by have := hrow.flat hS; rw [show (h.cs ++ K).length = ((h.cs ++ D.map (moved h.cs.length)) ++ x :: R).length by rw [hD]; simp] at this; exact this) hi
    by_cases hk : x.k = 0
    · have hxn : 0 ≤ x.n ∧ x.n ≤ 65536 := by
        unfold goodCs at hgk
        simp only [Bool.and_eq_true, decide_eq_true_eq] at hgk
        have hgc : goodC K.length x R.length = true := by
          cases hq : goodC K.length x R.length with
          | true => rfl
          | false => have := goodL_false (D := D) hq; rw [← hD, hgk.2] at this; cases this
        unfold goodC at hgc
        rw [if_pos hk] at hgc
        simp only [Bool.and_eq_true, decide_eq_true_eq] at hgc
        omega
      refine goes_seq ?_
      refine goes_region ?_
      first
        | refine lst_run (run_lss_yes rfl rfl (by omega)) rfl ?_
        | refine lst_run (run_lss_no rfl rfl (by omega)) rfl ?_
        | refine lst_run (rfl) rfl ?_
      refine lst_done ?_
      refine goes_seq ?_
      refine goes_true rfl ?_
      refine goes_skip ?_
      refine goes_seq ?_
      refine goes_block ?_
      refine goes_seq ?_
      refine goes_region ?_
      refine lst_run (run_move (by conv => lhs; whnf)) rfl ?_
      refine lst_run (run_assign (by conv => lhs; whnf)) rfl ?_
      refine lst_done ?_
      refine goes_seq ?_
      refine goes_region ?_
      refine lst_run (run_move (by conv => lhs; whnf)) rfl ?_
      refine lst_run (run_move (by conv => lhs; whnf)) rfl ?_
      refine lst_run (run_move (by conv => lhs; whnf)) rfl ?_
      refine lst_run (run_add rfl rfl (by omega) (by omega)) rfl ?_
      refine lst_run (run_indexAddr (sz := 3) rfl rfl rfl rfl (by omega) (by omega)) rfl ?_
      refine lst_run (run_assign (by conv => lhs; whnf)) rfl ?_
      refine lst_done ?_
      refine goes_seq ?_
      refine goes_region ?_
      refine lst_run (run_move (by conv => lhs; whnf)) rfl ?_
      refine lst_run (run_nilCheck rfl) rfl ?_
      refine lst_run (run_fieldAddr (off := 0) rfl rfl) rfl ?_
      first
        | refine lst_run (run_load1_own hS rfl rfl (by first | exact .head | exact .tail .head | exact .tail (.tail .head) | exact .tail (.tail (.tail .head)) | exact .tail (.tail (.tail (.tail .head))) | exact .tail (.tail (.tail (.tail (.tail .head))))) (by repeat constructor)) rfl ?_
        | refine lst_run (run_load1 rfl rfl (by first | assumption | exact (hcc _ hS).1 | exact (hcc _ hS).2.1 | exact (hcc _ hS).2.2 | exact hS.cell0 (by assumption) | exact lv_next hS | exact lv_list hS)) rfl ?_
      first
        | refine lst_run (run_eql_one_int rfl rfl) rfl ?_
        | refine lst_run (run_eql_no rfl rfl (by first | assumption | omega)) rfl ?_
        | refine lst_run (run_eql_yes rfl rfl (by omega)) rfl ?_
        | refine lst_run (rfl) rfl ?_
      refine lst_done ?_
      refine goes_true rfl ?_
      refine goes_region ?_
      refine lst_run (run_move (by conv => lhs; whnf)) rfl ?_
      refine lst_run (run_nilCheck rfl) rfl ?_
      refine lst_run (run_fieldAddr (off := 1) rfl rfl) rfl ?_
      first
        | refine lst_run (run_load1_own hS rfl rfl (by first | exact .head | exact .tail .head | exact .tail (.tail .head) | exact .tail (.tail (.tail .head)) | exact .tail (.tail (.tail (.tail .head))) | exact .tail (.tail (.tail (.tail (.tail .head))))) (by repeat constructor)) rfl ?_
        | refine lst_run (run_load1 rfl rfl (by first | assumption | exact (hcc _ hS).1 | exact (hcc _ hS).2.1 | exact (hcc _ hS).2.2 | exact hS.cell0 (by assumption) | exact lv_next hS | exact lv_list hS)) rfl ?_
      refine lst_run (run_move (by conv => lhs; whnf)) rfl ?_
      refine lst_run (run_add rfl rfl (by omega) (by omega)) rfl ?_
      refine lst_run (run_nilCheck rfl) rfl ?_
      refine lst_run (run_fieldAddr (off := 1) rfl rfl) rfl ?_
      have hput := hcsL_put ((h.cs ++ D.map (moved h.cs.length)) ++ x :: R) sp ((h.cs.length : Int) + ((D.length : Nat) : Int)).toNat (x.n + (h.cs.length : Nat)) (by simp; omega)
      rw [show setN ((h.cs ++ D.map (moved h.cs.length)) ++ x :: R) ((h.cs.length : Int) + ((D.length : Nat) : Int)).toNat (x.n + (h.cs.length : Nat)) = (h.cs ++ D.map (moved h.cs.length)) ++ (moved h.cs.length x) :: R by
        rw [show ((h.cs.length : Int) + ((D.length : Nat) : Int)).toNat = (h.cs ++ D.map (moved h.cs.length)).length by simp; omega, setN_app]
        unfold moved; rw [if_pos hk]] at hput
      refine lst_store1 hS rfl (by conv => lhs; whnf) rfl rfl .head (by rw [Nat.zero_add]; exact hput) .head ?_
      clear hS
      intro w6 hS
      refine lst_done ?_
      refine goes_inBlock ?_
      refine goes_region ?_
      refine lst_run (run_add rfl rfl (by omega) (by omega)) rfl ?_
      refine lst_run (run_move (by conv => lhs; whnf)) rfl ?_
      refine lst_done ?_
      refine ih (R) _ _ _ ?_ ?_ (by conv => lhs; whnf) (by kernel_rfl)
      · simp
      · refine ⟨D ++ [x], [(g, .cells (hcsL ((h.cs ++ D.map (moved h.cs.length)) ++ (moved h.cs.length x) :: R) ++ sp).toArray 86)], by rw [hD]; simp, by simp, ?_, hS⟩
        rw [show h.cs ++ (D ++ [x]).map (moved h.cs.length) ++ R = (h.cs ++ D.map (moved h.cs.length)) ++ (moved h.cs.length x) :: R by simp]
        refine Rw.own_ ?_ ?_ hle (by omega)
        · rw [hcsL_len]; congr 1; rw [hD]; simp
        · rw [← hcap]; simp only [List.length_append, hcsL_len, List.length_cons]
    · refine goes_seq ?_
      refine goes_region ?_
      first
        | refine lst_run (run_lss_yes rfl rfl (by omega)) rfl ?_
        | refine lst_run (run_lss_no rfl rfl (by omega)) rfl ?_
        | refine lst_run (rfl) rfl ?_
      refine lst_done ?_
      refine goes_seq ?_
      refine goes_true rfl ?_
      refine goes_skip ?_
      refine goes_seq ?_
      refine goes_block ?_
      refine goes_seq ?_
      refine goes_region ?_
      refine lst_run (run_move (by conv => lhs; whnf)) rfl ?_
      refine lst_run (run_assign (by conv => lhs; whnf)) rfl ?_
      refine lst_done ?_
      refine goes_seq ?_
      refine goes_region ?_
      refine lst_run (run_move (by conv => lhs; whnf)) rfl ?_
      refine lst_run (run_move (by conv => lhs; whnf)) rfl ?_
      refine lst_run (run_move (by conv => lhs; whnf)) rfl ?_
      refine lst_run (run_add rfl rfl (by omega) (by omega)) rfl ?_
      refine lst_run (run_indexAddr (sz := 3) rfl rfl rfl rfl (by omega) (by omega)) rfl ?_
      refine lst_run (run_assign (by conv => lhs; whnf)) rfl ?_
      refine lst_done ?_
      refine goes_seq ?_
      refine goes_region ?_
      refine lst_run (run_move (by conv => lhs; whnf)) rfl ?_
      refine lst_run (run_nilCheck rfl) rfl ?_
      refine lst_run (run_fieldAddr (off := 0) rfl rfl) rfl ?_
      first
        | refine lst_run (run_load1_own hS rfl rfl (by first | exact .head | exact .tail .head | exact .tail (.tail .head) | exact .tail (.tail (.tail .head)) | exact .tail (.tail (.tail (.tail .head))) | exact .tail (.tail (.tail (.tail (.tail .head))))) (by repeat constructor)) rfl ?_
        | refine lst_run (run_load1 rfl rfl (by first | assumption | exact (hcc _ hS).1 | exact (hcc _ hS).2.1 | exact (hcc _ hS).2.2 | exact hS.cell0 (by assumption) | exact lv_next hS | exact lv_list hS)) rfl ?_
      first
        | refine lst_run (run_eql_one_int rfl rfl) rfl ?_
        | refine lst_run (run_eql_no rfl rfl (by first | assumption | omega)) rfl ?_
        | refine lst_run (run_eql_yes rfl rfl (by omega)) rfl ?_
        | refine lst_run (rfl) rfl ?_
      refine lst_done ?_
      refine goes_false rfl ?_
      refine goes_skip ?_
      refine goes_inBlock ?_
      refine goes_region ?_
      refine lst_run (run_add rfl rfl (by omega) (by omega)) rfl ?_
      refine lst_run (run_move (by conv => lhs; whnf)) rfl ?_
      refine lst_done ?_
      refine ih (R) _ _ _ ?_ ?_ (by conv => lhs; whnf) (by kernel_rfl)
      · simp
      · refine ⟨D ++ [x], _, by rw [hD]; simp, by simp, ?_, hS⟩
        rw [show h.cs ++ (D ++ [x]).map (moved h.cs.length) ++ R = (h.cs ++ D.map (moved h.cs.length)) ++ x :: R by simp [moved, hk]]
        exact hrow
theorem undoL_len : ∀ (T : List Int) (L : List HC), (undoL L T).length = L.length
  | [], L => rfl
  | a :: r, L => by unfold undoL; rw [undoL_len r, setN_len]
end
end Go.Proofs.Ytjicoifjgokoiaa
namespace Go.Proofs.Ytjicoifjgokoiaa
open Go.RowKit
set_option linter.unusedVariables false
set_option linter.unusedSimpArgs false

theorem hatS {L : List HC} {a : Int} {c : HC} : hat L a = some c ↔ 0 ≤ a ∧ a < L.length ∧ L[a.toNat]? = some c := by
  unfold hat
  constructor
  · intro h
    split at h
    · rename_i h0
      refine ⟨h0, ?_, h⟩
      rcases Nat.lt_or_ge a.toNat L.length with hl | hl
      · omega
      · rw [List.getElem?_eq_none hl] at h; cases h
    · cases h
  · rintro ⟨h0, h1, h2⟩; rw [if_pos h0]; exact h2
theorem hat_in {L : List HC} {a : Int} (h0 : 0 ≤ a) (h1 : a < L.length) : ∃ c, hat L a = some c := ⟨L[a.toNat]'(by omega), hatS.2 ⟨h0, h1, List.getElem?_eq_getElem _⟩⟩
theorem goodL_get {n : Nat} : ∀ {L : List HC} {i : Nat} {c : HC}, goodL n L = true → L[i]? = some c → goodC n c (L.length - i - 1) = true
  | [], i, c, _, h => by simp at h
  | x :: r, 0, c, hg, h => by
    obtain rfl : x = c := by simpa using h
    simp only [goodL, Bool.and_eq_true] at hg
    simpa using hg.1
  | x :: r, i + 1, c, hg, h => by
    simp only [goodL, Bool.and_eq_true] at hg
    have := goodL_get (i := i) (c := c) hg.2 (by simpa using h)
    rw [List.length_cons, show r.length + 1 - (i + 1) - 1 = r.length - i - 1 by omega]; exact this
/-- What a good cell is. -/
theorem goodC_iff {n f : Nat} {c : HC} (h : goodC n c f = true) : (c.k = 0 ∧ 0 ≤ c.n ∧ c.n < n ∧ c.s = eS) ∨ (c.k = 1 ∧ c.n = 0 ∧ c.s ≠ eS) ∨ (c.k = 2 ∧ c.s = eS) ∨ (c.k = 3 ∧ 1 ≤ c.n ∧ c.n ≤ 4 ∧ c.n ≤ f ∧ c.s ≠ eS) := by
  unfold goodC at h
  split at h
  · simp only [Bool.and_eq_true, decide_eq_true_eq] at h; exact .inl ⟨‹_›, h.1, h.2.1, h.2.2⟩
  · split at h
    · simp only [Bool.and_eq_true, decide_eq_true_eq, Bool.not_eq_true', decide_eq_false_iff_not] at h; exact .inr (.inl ⟨‹_›, h.1, h.2⟩)
    · split at h
      · simp only [decide_eq_true_eq] at h; exact .inr (.inr (.inl ⟨‹_›, h⟩))
      · split at h
        · simp only [Bool.and_eq_true, decide_eq_true_eq, Bool.not_eq_true', decide_eq_false_iff_not] at h; exact .inr (.inr (.inr ⟨‹_›, h.1, h.2.1, h.2.2.1, h.2.2.2⟩))
        · cases h
theorem good_hat {n : Nat} {L : List HC} {a : Int} {c : HC} (hg : goodL n L = true) (h : hat L a = some c) : goodC n c (L.length - a.toNat - 1) = true := goodL_get hg (hatS.1 h).2.2
theorem good_args {n : Nat} {L : List HC} {a : Int} (hg : goodL n L = true) : argsAt L a ≤ 4 ∧ (argsAt L a = 0 ∨ (0 ≤ a ∧ a + argsAt L a < L.length)) := by
  unfold argsAt
  cases h : hat L a with
  | none => exact ⟨by simp, .inl rfl⟩
  | some c =>
    obtain ⟨h0, h1, _⟩ := hatS.1 h
    have hc := goodC_iff (good_hat hg h)
    simp only [argsC]
    split
    · rcases hc with hc | hc | hc | hc
      · omega
      · omega
      · omega
      · refine ⟨by omega, .inr ⟨h0, ?_⟩⟩
        omega
    · exact ⟨by simp, .inl rfl⟩
theorem good_ref {n : Nat} {L : List HC} {a : Int} {c : HC} (hg : goodL n L = true) (h : hat L a = some c) (hk : c.k = 0) : 0 ≤ c.n ∧ c.n < n := by
  rcases goodC_iff (good_hat hg h) with hc | hc | hc | hc <;> omega
theorem setN_good {n : Nat} {x : Int} (h0 : 0 ≤ x) (h1 : x < n) : ∀ {L : List HC} {i : Nat}, goodL n L = true → (∀ c, L[i]? = some c → c.k = 0) → goodL n (setN L i x) = true
  | [], i, hg, _ => by rw [setN_nil]; rfl
  | y :: r, 0, hg, hk => by
    rw [setN_zero]
    simp only [goodL, Bool.and_eq_true] at hg ⊢
    refine ⟨?_, hg.2⟩
    have hk0 := hk y (by simp)
    have := hg.1
    unfold goodC at this ⊢
    simp only [hk0, if_true] at this ⊢
    simp only [Bool.and_eq_true, decide_eq_true_eq] at this ⊢
    exact ⟨h0, h1, this.2.2⟩
  | y :: r, i + 1, hg, hk => by
    rw [setN_cons]
    simp only [goodL, Bool.and_eq_true] at hg ⊢
    rw [setN_len]
    exact ⟨hg.1, setN_good h0 h1 hg.2 fun c hc => hk c (by simpa using hc)⟩
/-- Where Look ends. -/
theorem hlookF_end {L : List HC} : ∀ (f : Nat) (a : Int), hlookF L f a = -1 ∨ ∃ c, hat L (hlookF L f a) = some c ∧ (c.k = 0 → c.n = hlookF L f a)
  | 0, a => .inl rfl
  | f + 1, a => by
    cases h : hat L a with
    | none => left; simp only [hlookF, h]
    | some c =>
      by_cases hb : c.k = 0 ∧ c.n ≠ a
      · simp only [hlookF, h, if_pos hb]; exact hlookF_end f c.n
      · right
        simp only [hlookF, h, if_neg hb]
        exact ⟨c, rfl, fun hk => Classical.byContradiction fun hn => hb ⟨hk, hn⟩⟩
theorem hlook_end {L : List HC} {a : Int} (h : ¬ hlook L a < 0) : ∃ c, hat L (hlook L a) = some c ∧ (c.k = 0 → c.n = hlook L a) := by
  rcases hlookF_end (L := L) L.length a with h1 | h1
  · exact absurd (show hlook L a < 0 by unfold hlook; rw [h1]; decide) h
  · exact h1
/-- A unifier over a good heap of n cells. -/
structure GU (n : Nat) (u : HU) : Prop where
  len : u.cs.length = n
  good : goodL n u.cs = true
  wk : u.lg = false → u.w ≤ 400
  trl : u.tr.length ≤ 65536 + u.w
theorem GU.step {n : Nat} {u : HU} (h : GU n u) : GU n u.step := by
  refine ⟨h.len, h.good, fun hl => ?_, ?_⟩
  · simp only [HU.step, Bool.or_eq_false_iff, decide_eq_false_iff_not] at hl ⊢; omega
  · have := h.trl; simp only [HU.step]; omega
theorem GU.look {n : Nat} {u : HU} (h : GU n u) (a : Int) : GU n (u.look a).2 := by
  unfold HU.look
  split
  · exact h
  · rename_i hl; exact ⟨h.len, h.good, fun _ => h.wk (by simpa using hl), h.trl⟩
theorem look_w (u : HU) (a : Int) : (u.look a).2.w = u.w ∧ (u.look a).2.cs = u.cs ∧ (u.look a).2.tr = u.tr := by
  unfold HU.look
  split <;> exact ⟨rfl, rfl, rfl⟩
theorem look_ok {u : HU} {a : Int} (h : (u.look a).2.lg = false) : u.lg = false ∧ (u.look a).1 = hlook u.cs a ∧ ¬ hlook u.cs a < 0 := by
  unfold HU.look at h ⊢
  split at h
  · rename_i hl; rw [hl] at h; cases h
  · rename_i hl
    rw [if_neg hl]
    exact ⟨by simpa using hl, rfl, by simpa using h⟩
theorem GU.bind {n : Nat} {u : HU} (h : GU n u) {a x : Int} {c : HC} (ha : hat u.cs a = some c) (hk : c.k = 0) (h0 : 0 ≤ x) (h1 : x < n) (ht : u.tr.length < 65536 + u.w) : GU n (u.bind a x) := by
  refine ⟨by simp only [HU.bind]; rw [setN_len]; exact h.len, ?_, h.wk, by simp only [HU.bind, List.length_append, List.length_cons, List.length_nil]; omega⟩
  refine setN_good h0 h1 h.good fun c' hc' => ?_
  rw [(hatS.1 ha).2.2] at hc'
  obtain rfl := Option.some.inj hc'
  exact hk
/-- Occurs: nothing is bound; the work. -/
structure OU (n f : Nat) (u v : HU) : Prop where
  cs : v.cs = u.cs
  tr : v.tr = u.tr
  lt : u.w < v.w
  le : v.w ≤ max (u.w + 1) (401 + 4 * f)
  wk : v.lg = false → v.w ≤ 400
  lg : u.lg = true → v.lg = true
theorem any_up {n f : Nat} {g : Int → HU → Bool × HU} {cs : List HC} (hg : ∀ x u, u.cs = cs → (u.lg = false → u.w ≤ 400) → OU n f u (g x u).2) :
    ∀ (m : Nat) (x : Int) (u : HU), u.cs = cs → (u.lg = false → u.w ≤ 400) → (anyU g m x u).2.cs = u.cs ∧ (anyU g m x u).2.tr = u.tr ∧ u.w ≤ (anyU g m x u).2.w ∧ (anyU g m x u).2.w ≤ max (u.w + m) (401 + 4 * f + m) ∧ ((anyU g m x u).2.lg = false → (anyU g m x u).2.w ≤ 400) ∧ (u.lg = true → (anyU g m x u).2.lg = true)
  | 0, x, u, hcs, hu => ⟨rfl, rfl, Nat.le_refl _, by simp only [anyU]; omega, hu, fun h => h⟩
  | m + 1, x, u, hcs, hu => by
    have h1 := hg x u hcs hu
    simp only [anyU]
    split
    · exact ⟨h1.cs, h1.tr, Nat.le_of_lt h1.lt, by have := h1.le; omega, h1.wk, h1.lg⟩
    · obtain ⟨a1, a2, a3, a4, a5, a6⟩ := any_up hg m (x + 1) (g x u).2 (h1.cs.trans hcs) h1.wk
      refine ⟨a1.trans h1.cs, a2.trans h1.tr, Nat.le_trans (Nat.le_of_lt h1.lt) a3, ?_, a5, fun h => a6 (h1.lg h)⟩
      have := h1.le
      omega
theorem occ_up {n : Nat} (a : Int) : ∀ (f : Nat) (b : Int) (u : HU), goodL n u.cs = true → (u.lg = false → u.w ≤ 400) → OU n f u (occU a f b u).2
  | f, b, u, hgd, hu => by
    have hs : OU n f u (u.step.look b).2 := by
      have hw := look_w u.step b
      refine ⟨hw.2.1, hw.2.2, ?_, ?_, fun h => ?_, fun h => ?_⟩
      · rw [hw.1]; exact Nat.lt_succ_self _
      · rw [hw.1]; show u.w + 1 ≤ _; omega
      · rw [hw.1]
        have := (look_ok h).1
        simp only [HU.step, Bool.or_eq_false_iff, decide_eq_false_iff_not] at this
        show u.w + 1 ≤ 400
        omega
      · cases hq : (u.step.look b).2.lg with
        | true => rfl
        | false =>
          have := (look_ok hq).1
          simp only [HU.step, Bool.or_eq_false_iff] at this
          rw [h] at this; cases this.1
    cases f with
    | zero => exact hs
    | succ f =>
      simp only [occU]
      split
      · exact hs
      · split
        · exact hs
        · rename_i hl _
          have hl' : (u.step.look b).2.lg = false := by simpa using hl
          have hcs0 : (u.step.look b).2.cs = u.cs := (look_w u.step b).2.1
          have hA := (good_args (a := (u.step.look b).1) hgd).1
          obtain ⟨a1, a2, a3, a4, a5, a6⟩ := any_up (n := n) (f := f) (g := occU a f) (cs := u.cs) (fun x v hv hw => occ_up a f x v (by rw [hv]; exact hgd) hw) (argsAt u.cs (u.step.look b).1) ((u.step.look b).1 + 1) (u.step.look b).2 hcs0 hs.wk
          refine ⟨a1.trans hs.cs, a2.trans hs.tr, Nat.lt_of_lt_of_le hs.lt a3, ?_, a5, fun h => a6 (hs.lg h)⟩
          have hwl := hs.wk hl'
          omega
/-- What unification leaves. -/
structure UU (n : Nat) (u : HU) (r : Bool × HU) : Prop where
  gu : GU n r.2
  lt : u.w < r.2.w
  le : r.2.w ≤ 3000
  ok : r.1 = true → r.2.lg = false
  ext : u.tr.length + r.2.w ≤ r.2.tr.length + r.2.w ∧ r.2.tr.length ≤ u.tr.length + (r.2.w - u.w)
theorem asg_up {n : Nat} {u : HU} (h : GU n u) (hl : u.lg = false) {a b : Int} {c : HC} (ha : hat u.cs a = some c) (hk : c.k = 0) (h0 : 0 ≤ b) (h1 : b < n) : UU n u (asgU a b u) := by
  have ho := occ_up (n := n) a 401 b u h.good h.wk
  have hw := h.wk hl
  have hle := ho.le
  have hlt := ho.lt
  have ht := h.trl
  have hgu : GU n (occU a 401 b u).2 := ⟨by rw [ho.cs]; exact h.len, by rw [ho.cs]; exact h.good, ho.wk, by rw [ho.tr]; omega⟩
  unfold asgU
  split
  · exact ⟨hgu, hlt, (by show (occU a 401 b u).2.w ≤ 3000; omega), fun h => (by cases h), (by dsimp only; rw [ho.tr]; constructor <;> omega)⟩
  · rename_i hn
    have hlg : (occU a 401 b u).2.lg = false := by
      cases hq : (occU a 401 b u).2.lg with
      | false => rfl
      | true => exact absurd (.inr hq) hn
    refine ⟨hgu.bind (by rw [ho.cs]; exact ha) hk h0 h1 (by rw [ho.tr]; omega), hlt, by show (occU a 401 b u).2.w ≤ 3000; omega, fun _ => hlg, ?_⟩
    show u.tr.length + (occU a 401 b u).2.w ≤ ((occU a 401 b u).2.tr ++ [a]).length + (occU a 401 b u).2.w ∧ ((occU a 401 b u).2.tr ++ [a]).length ≤ u.tr.length + ((occU a 401 b u).2.w - u.w)
    rw [ho.tr]
    simp only [List.length_append, List.length_cons, List.length_nil]
    omega
theorem all_up {n : Nat} {g : Int → Int → HU → Bool × HU} (hg : ∀ x y u, GU n u → u.lg = false → UU n u (g x y u)) :
    ∀ (m : Nat) (x y : Int) (u : HU), GU n u → u.lg = false → GU n (allU g m x y u).2 ∧ u.w ≤ (allU g m x y u).2.w ∧ (allU g m x y u).2.w ≤ 3000 ∧ ((allU g m x y u).1 = true → (allU g m x y u).2.lg = false) ∧ u.tr.length ≤ (allU g m x y u).2.tr.length ∧ (allU g m x y u).2.tr.length ≤ u.tr.length + ((allU g m x y u).2.w - u.w)
  | 0, x, y, u, h, hl => ⟨h, Nat.le_refl _, by have := h.wk hl; simp only [allU]; omega, fun _ => hl, Nat.le_refl _, by simp only [allU]; omega⟩
  | m + 1, x, y, u, h, hl => by
    have h1 := hg x y u h hl
    have hx := h1.ext
    simp only [allU]
    split
    · rename_i hok
      obtain ⟨a1, a2, a3, a4, a5, a6⟩ := all_up hg m (x + 1) (y + 1) (g x y u).2 h1.gu (h1.ok hok)
      have := h1.lt
      exact ⟨a1, by omega, a3, a4, by omega, by omega⟩
    · exact ⟨h1.gu, Nat.le_of_lt h1.lt, h1.le, h1.ok, by omega, by omega⟩
theorem uni_up {n : Nat} : ∀ (f : Nat) (a b : Int) (u : HU), GU n u → u.lg = false → UU n u (uniU f a b u)
  | f, a, b, u, h, hl => by
    have hw0 := h.wk hl
    have hwa := look_w u.step a
    have hwb := look_w (u.step.look a).2 b
    have hg2 : GU n ((u.step.look a).2.look b).2 := (h.step.look a).look b
    have hw2 : ((u.step.look a).2.look b).2.w = u.w + 1 := by rw [hwb.1, hwa.1]; rfl
    have hcs2 : ((u.step.look a).2.look b).2.cs = u.cs := by rw [hwb.2.1, hwa.2.1]; rfl
    have htr2 : ((u.step.look a).2.look b).2.tr = u.tr := by rw [hwb.2.2, hwa.2.2]; rfl
    have hfail : UU n u (false, ((u.step.look a).2.look b).2) := ⟨hg2, (by show u.w < ((u.step.look a).2.look b).2.w; rw [hw2]; omega), (by show ((u.step.look a).2.look b).2.w ≤ 3000; rw [hw2]; omega), fun h => (by cases h), (by dsimp only; rw [htr2, hw2]; constructor <;> omega)⟩
    cases f with
    | zero => exact hfail
    | succ f =>
      simp only [uniU]
      split
      · exact hfail
      rename_i hl2
      have hl2' : ((u.step.look a).2.look b).2.lg = false := by simpa using hl2
      obtain ⟨hla, hb1, hb2⟩ := look_ok hl2'
      obtain ⟨_, ha1, ha2⟩ := look_ok hla
      rw [hwa.2.1] at hb1 hb2
      obtain ⟨x, hx, hxe⟩ := hlook_end ha2
      obtain ⟨y, hy, hye⟩ := hlook_end hb2
      rw [← ha1] at hx hxe
      rw [← hb1] at hy hye
      replace hx : hat u.cs (u.step.look a).1 = some x := hx
      replace hy : hat u.cs ((u.step.look a).2.look b).1 = some y := hy
      obtain ⟨x0, x1, _⟩ := hatS.1 hx
      obtain ⟨y0, y1, _⟩ := hatS.1 hy
      rw [h.len] at x1 y1
      have hkx : kindAt u.cs (u.step.look a).1 = x.k := by unfold kindAt; rw [hx]
      have hky : kindAt u.cs ((u.step.look a).2.look b).1 = y.k := by unfold kindAt; rw [hy]
      rw [hkx, hky]
      have hstep : ∀ {r : Bool × HU}, UU n ((u.step.look a).2.look b).2 r → UU n u r := fun {r} hr => by
        have h1 := hr.lt
        have h2 := hr.ext
        rw [hw2] at h1 h2
        rw [htr2] at h2
        exact ⟨hr.gu, by omega, hr.le, hr.ok, by omega, by omega⟩
      split
      · rename_i hk0
        split
        · rename_i hk1
          split
          · exact ⟨hg2, by show u.w < ((u.step.look a).2.look b).2.w; rw [hw2]; omega, by show ((u.step.look a).2.look b).2.w ≤ 3000; rw [hw2]; omega, fun _ => hl2', by dsimp only; rw [htr2, hw2]; constructor <;> omega⟩
          · have ht := h.trl
            have hbd : GU n (((u.step.look a).2.look b).2.bind (max (u.step.look a).1 ((u.step.look a).2.look b).1) (min (u.step.look a).1 ((u.step.look a).2.look b).1)) := by
              rcases Int.le_total (u.step.look a).1 ((u.step.look a).2.look b).1 with hle | hle
              · rw [Int.max_eq_right hle, Int.min_eq_left hle]
                exact hg2.bind (by rw [hcs2]; exact hy) hk1 x0 x1 (by rw [htr2, hw2]; omega)
              · rw [Int.max_eq_left hle, Int.min_eq_right hle]
                exact hg2.bind (by rw [hcs2]; exact hx) hk0 y0 y1 (by rw [htr2, hw2]; omega)
            refine ⟨hbd, by show u.w < ((u.step.look a).2.look b).2.w; rw [hw2]; omega, by show ((u.step.look a).2.look b).2.w ≤ 3000; rw [hw2]; omega, fun _ => hl2', ?_⟩
            simp only [HU.bind, List.length_append, List.length_cons, List.length_nil]
            rw [htr2, hw2]
            constructor <;> omega
        · exact hstep (asg_up hg2 hl2' (by rw [hcs2]; exact hx) hk0 y0 y1)
      · split
        · rename_i hk1
          exact hstep (asg_up hg2 hl2' (by rw [hcs2]; exact hy) hk1 x0 x1)
        · unfold partsU
          split
          · obtain ⟨a1, a2, a3, a4, a5, a6⟩ := all_up (fun x y v hv hlv => uni_up f x y v hv hlv) (argsAt ((u.step.look a).2.look b).2.cs (u.step.look a).1) ((u.step.look a).1 + 1) (((u.step.look a).2.look b).1 + 1) _ hg2 hl2'
            rw [hw2] at a2 a6
            rw [htr2] at a5 a6
            exact ⟨a1, by omega, a3, a4, by omega, by omega⟩
          · exact hfail
end Go.Proofs.Ytjicoifjgokoiaa
namespace Go.Proofs.Ytjicoifjgokoiaa
open Go.RowKit
set_option linter.unusedVariables false
set_option linter.unusedSimpArgs false
set_option maxRecDepth 100000
set_option maxHeartbeats 1000000

abbrev ptr (b : Nat) : Value := .pointer (some ⟨b, 0, none⟩)
abbrev uob (g n c : Nat) (B : Option Addr) (m d w : Nat) (lg : Bool) : Obj := .cells [.slice (some ⟨g, 0, none⟩) n c, .slice B m d, .int .i64 (w : Nat), .bool lg].toArray 110
abbrev cob (L : List HC) (sp : List Value) : Obj := .cells (hcsL L ++ sp).toArray 86
/-- A unifier in memory. -/
def HUSt (M : List Nat) (w0 : World) (H : List (Nat × Obj)) (F : List (World → Prop)) (ub g c : Nat) (sp : List Value) (u : HU) (w : World) : Prop :=
  ∃ (B : Option Addr) (d : Nat) (O : List (Nat × Obj)), Rw 3 1 (.slice B u.tr.length d) u.tr.length (intsV u.tr) O ∧ St M w0 ((ub, uob g u.cs.length c B u.tr.length d u.w u.lg) :: (g, cob u.cs sp) :: (O ++ H)) F w
section
variable {M : List Nat} {w0 : World} {H : List (Nat × Obj)} {F : List (World → Prop)} {ub g c : Nat} {sp : List Value}
theorem step_any (u : HU) (w : World) (hw : u.w ≤ 100000) (hs : HUSt M w0 H F ub g c sp u w) :
    Calls Try.prog 84 #[ptr ub] w fun e w' => e = .returned (.tuple #[]) ∧ HUSt M w0 H F ub g c sp u.step w' := by
  obtain ⟨B, d, O, hrow, hS⟩ := hs
  refine goes_enter1 Try.func84 rfl Try.ntmps84 rfl ?_
  by_cases h4 : 400 < u.w + 1
  · refine goes_seq ?_
    refine goes_region ?_
    refine lst_run (run_move (by conv => lhs; whnf)) rfl ?_
    refine lst_run (run_nilCheck rfl) rfl ?_
    refine lst_run (run_fieldAddr (off := 2) rfl rfl) rfl ?_
    first
      | refine lst_run (run_load1_own hS rfl rfl (by first | exact .head | exact .tail .head | exact .tail (.tail .head) | exact .tail (.tail (.tail .head)) | exact .tail (.tail (.tail (.tail .head))) | exact .tail (.tail (.tail (.tail (.tail .head))))) (by repeat constructor)) rfl ?_
      | refine lst_run (run_load1 rfl rfl (by first | assumption | exact hS.cell0 (by assumption) | exact lv_next hS | exact lv_list hS)) rfl ?_
    refine lst_run (run_add rfl rfl (by omega) (by omega)) rfl ?_
    refine lst_run (run_nilCheck rfl) rfl ?_
    refine lst_run (run_fieldAddr (off := 2) rfl rfl) rfl ?_
    refine lst_store1 hS rfl (by conv => lhs; whnf) rfl rfl (by first | exact .head | exact .tail .head | exact .tail (.tail .head) | exact .tail (.tail (.tail .head)) | exact .tail (.tail (.tail (.tail .head))) | exact .tail (.tail (.tail (.tail (.tail .head))))) (by repeat constructor) (by first | exact .head | exact .tail .head | exact .tail (.tail .head) | exact .tail (.tail (.tail .head)) | exact .tail (.tail (.tail (.tail .head))) | exact .tail (.tail (.tail (.tail (.tail .head))))) ?_
    clear hS
    intro wx1 hS
    refine lst_done ?_
    refine goes_seq ?_
    refine goes_region ?_
    refine lst_run (run_move (by conv => lhs; whnf)) rfl ?_
    refine lst_run (run_nilCheck rfl) rfl ?_
    refine lst_run (run_fieldAddr (off := 2) rfl rfl) rfl ?_
    first
      | refine lst_run (run_load1_own hS rfl rfl (by first | exact .head | exact .tail .head | exact .tail (.tail .head) | exact .tail (.tail (.tail .head)) | exact .tail (.tail (.tail (.tail .head))) | exact .tail (.tail (.tail (.tail (.tail .head))))) (by repeat constructor)) rfl ?_
      | refine lst_run (run_load1 rfl rfl (by first | assumption | exact hS.cell0 (by assumption) | exact lv_next hS | exact lv_list hS)) rfl ?_
    first
      | refine lst_run (run_gtr_yes rfl rfl (by omega)) rfl ?_
      | refine lst_run (run_gtr_no rfl rfl (by omega)) rfl ?_
      | refine lst_run (rfl) rfl ?_
    refine lst_done ?_
    refine goes_true rfl ?_
    refine goes_region ?_
    refine lst_run (run_move (by conv => lhs; whnf)) rfl ?_
    refine lst_run (run_nilCheck rfl) rfl ?_
    refine lst_run (run_fieldAddr (off := 3) rfl rfl) rfl ?_
    refine lst_store1 hS rfl (by conv => lhs; whnf) rfl rfl (by first | exact .head | exact .tail .head | exact .tail (.tail .head) | exact .tail (.tail (.tail .head)) | exact .tail (.tail (.tail (.tail .head))) | exact .tail (.tail (.tail (.tail (.tail .head))))) (by repeat constructor) (by first | exact .head | exact .tail .head | exact .tail (.tail .head) | exact .tail (.tail (.tail .head)) | exact .tail (.tail (.tail (.tail .head))) | exact .tail (.tail (.tail (.tail (.tail .head))))) ?_
    clear hS
    intro wx2 hS
    refine lst_done ?_
    refine goes_end0 Try.func84 rfl ?_
    exact ⟨rfl, B, d, O, hrow, by simp only [HU.step, decide_eq_true h4, Bool.or_true]; exact hS⟩
  · refine goes_seq ?_
    refine goes_region ?_
    refine lst_run (run_move (by conv => lhs; whnf)) rfl ?_
    refine lst_run (run_nilCheck rfl) rfl ?_
    refine lst_run (run_fieldAddr (off := 2) rfl rfl) rfl ?_
    first
      | refine lst_run (run_load1_own hS rfl rfl (by first | exact .head | exact .tail .head | exact .tail (.tail .head) | exact .tail (.tail (.tail .head)) | exact .tail (.tail (.tail (.tail .head))) | exact .tail (.tail (.tail (.tail (.tail .head))))) (by repeat constructor)) rfl ?_
      | refine lst_run (run_load1 rfl rfl (by first | assumption | exact hS.cell0 (by assumption) | exact lv_next hS | exact lv_list hS)) rfl ?_
    refine lst_run (run_add rfl rfl (by omega) (by omega)) rfl ?_
    refine lst_run (run_nilCheck rfl) rfl ?_
    refine lst_run (run_fieldAddr (off := 2) rfl rfl) rfl ?_
    refine lst_store1 hS rfl (by conv => lhs; whnf) rfl rfl (by first | exact .head | exact .tail .head | exact .tail (.tail .head) | exact .tail (.tail (.tail .head)) | exact .tail (.tail (.tail (.tail .head))) | exact .tail (.tail (.tail (.tail (.tail .head))))) (by repeat constructor) (by first | exact .head | exact .tail .head | exact .tail (.tail .head) | exact .tail (.tail (.tail .head)) | exact .tail (.tail (.tail (.tail .head))) | exact .tail (.tail (.tail (.tail (.tail .head))))) ?_
    clear hS
    intro wx1 hS
    refine lst_done ?_
    refine goes_seq ?_
    refine goes_region ?_
    refine lst_run (run_move (by conv => lhs; whnf)) rfl ?_
    refine lst_run (run_nilCheck rfl) rfl ?_
    refine lst_run (run_fieldAddr (off := 2) rfl rfl) rfl ?_
    first
      | refine lst_run (run_load1_own hS rfl rfl (by first | exact .head | exact .tail .head | exact .tail (.tail .head) | exact .tail (.tail (.tail .head)) | exact .tail (.tail (.tail (.tail .head))) | exact .tail (.tail (.tail (.tail (.tail .head))))) (by repeat constructor)) rfl ?_
      | refine lst_run (run_load1 rfl rfl (by first | assumption | exact hS.cell0 (by assumption) | exact lv_next hS | exact lv_list hS)) rfl ?_
    first
      | refine lst_run (run_gtr_yes rfl rfl (by omega)) rfl ?_
      | refine lst_run (run_gtr_no rfl rfl (by omega)) rfl ?_
      | refine lst_run (rfl) rfl ?_
    refine lst_done ?_
    refine goes_false rfl ?_
    refine goes_skip ?_
    refine goes_end0 Try.func84 rfl ?_
    exact ⟨rfl, B, d, O, hrow, by simp only [HU.step, decide_eq_false h4, Bool.or_false]; exact hS⟩
theorem ulook_any (u : HU) (a : Int) (w : World) (hl : u.cs.length ≤ 65536) (hc : u.cs.length ≤ c) (hs : HUSt M w0 H F ub g c sp u w) :
    Calls Try.prog 85 #[ptr ub, .int .i64 a] w fun e w' => e = .returned (.int .i64 (u.look a).1) ∧ HUSt M w0 H F ub g c sp (u.look a).2 w' := by
  obtain ⟨B, d, O, hrow, hS⟩ := hs
  refine goes_enter2 Try.func85 rfl Try.ntmps85 rfl ?_
  cases hg : u.lg with
  | true =>
    rw [hg] at hS
    have e0 : u.look a = (-1, u) := by unfold HU.look; rw [if_pos hg]
    rw [e0]
    refine goes_seq ?_
    refine goes_region ?_
    refine lst_run (run_assign (by conv => lhs; whnf)) rfl ?_
    refine lst_done ?_
    refine goes_seq ?_
    refine goes_seq ?_
    refine goes_region ?_
    refine lst_run (run_move (by conv => lhs; whnf)) rfl ?_
    refine lst_run (run_nilCheck rfl) rfl ?_
    refine lst_run (run_fieldAddr (off := 3) rfl rfl) rfl ?_
    first
      | refine lst_run (run_load1_own hS rfl rfl (by first | exact .head | exact .tail .head | exact .tail (.tail .head) | exact .tail (.tail (.tail .head)) | exact .tail (.tail (.tail (.tail .head))) | exact .tail (.tail (.tail (.tail (.tail .head))))) (by repeat constructor)) rfl ?_
      | refine lst_run (run_load1 rfl rfl (by first | assumption | exact hS.cell0 (by assumption) | exact lv_next hS | exact lv_list hS)) rfl ?_
    refine lst_done ?_
    refine goes_true rfl ?_
    refine goes_seq ?_
    refine goes_region ?_
    refine lst_run (run_assign (by conv => lhs; whnf)) rfl ?_
    refine lst_done ?_
    refine goes_ret1 Try.func85 rfl (by conv => lhs; whnf) ?_
    exact ⟨rfl, B, d, O, hrow, by rw [hg]; exact hS⟩
  | false =>
    rw [hg] at hS
    have e0 : u.look a = (hlook u.cs a, ⟨u.cs, u.tr, u.w, decide (hlook u.cs a < 0)⟩) := by unfold HU.look; rw [if_neg (by rw [hg]; decide)]
    rw [e0]
    have hfl : ∀ {o H' F'} w', St M w0 ((ub, o) :: (g, cob u.cs sp) :: H') F' w' → Flat 3 (hcsL u.cs) (some ⟨g, 0, none⟩) u.cs.length c w' := fun w' hS => Flat.own (hS.own (g, _) (.tail _ (.head _))) (hcsL_len _) hc
    by_cases hn : hlook u.cs a < 0
    · rw [decide_eq_true hn]
      refine goes_seq ?_
      refine goes_region ?_
      refine lst_run (run_assign (by conv => lhs; whnf)) rfl ?_
      refine lst_done ?_
      refine goes_seq ?_
      refine goes_seq ?_
      refine goes_region ?_
      refine lst_run (run_move (by conv => lhs; whnf)) rfl ?_
      refine lst_run (run_nilCheck rfl) rfl ?_
      refine lst_run (run_fieldAddr (off := 3) rfl rfl) rfl ?_
      first
        | refine lst_run (run_load1_own hS rfl rfl (by first | exact .head | exact .tail .head | exact .tail (.tail .head) | exact .tail (.tail (.tail .head)) | exact .tail (.tail (.tail (.tail .head))) | exact .tail (.tail (.tail (.tail (.tail .head))))) (by repeat constructor)) rfl ?_
        | refine lst_run (run_load1 rfl rfl (by first | assumption | exact hS.cell0 (by assumption) | exact lv_next hS | exact lv_list hS)) rfl ?_
      refine lst_done ?_
      refine goes_false rfl ?_
      refine goes_skip ?_
      refine goes_seq ?_
      refine goes_region ?_
      refine lst_run (run_move (by conv => lhs; whnf)) rfl ?_
      refine lst_run (run_nilCheck rfl) rfl ?_
      refine lst_run (run_fieldAddr (off := 0) rfl rfl) rfl ?_
      first
        | refine lst_run (run_loadN_own (k := 2) hS rfl rfl rfl (by first | exact .head | exact .tail .head | exact .tail (.tail .head) | exact .tail (.tail (.tail .head)) | exact .tail (.tail (.tail (.tail .head))) | exact .tail (.tail (.tail (.tail (.tail .head))))) (by repeat constructor)) rfl ?_
        | refine lst_run (run_load2 rfl rfl rfl (by first | assumption | exact hS.cell0 (by assumption)) (by first | assumption | exact hS.cell0 (by assumption))) rfl ?_
      refine lst_run (run_move (by conv => lhs; whnf)) rfl ?_
      refine lst_enter (run_call (by kernel_rfl) (args_2 (by conv => lhs; whnf) (by conv => lhs; whnf))) rfl ?_
      refine Calls.mono (look_any u.cs _ B c u.tr.length d a _ (hfl _ hS) (by omega)) ?_
      rintro _ w3 ⟨rfl, hb3⟩
      refine ⟨_, rfl, ?_⟩
      replace hS := hS.grow hb3
      refine lst_run (run_assign (by conv => lhs; whnf)) rfl ?_
      refine lst_done ?_
      refine goes_seq ?_
      refine goes_seq ?_
      refine goes_region ?_
      refine lst_run (run_move (by conv => lhs; whnf)) rfl ?_
      first
        | refine lst_run (run_lss_yes rfl rfl (by omega)) rfl ?_
        | refine lst_run (run_lss_no rfl rfl (by omega)) rfl ?_
        | refine lst_run (rfl) rfl ?_
      refine lst_done ?_
      refine goes_true rfl ?_
      refine goes_region ?_
      refine lst_run (run_move (by conv => lhs; whnf)) rfl ?_
      refine lst_run (run_nilCheck rfl) rfl ?_
      refine lst_run (run_fieldAddr (off := 3) rfl rfl) rfl ?_
      refine lst_store1 hS rfl (by conv => lhs; whnf) rfl rfl (by first | exact .head | exact .tail .head | exact .tail (.tail .head) | exact .tail (.tail (.tail .head)) | exact .tail (.tail (.tail (.tail .head))) | exact .tail (.tail (.tail (.tail (.tail .head))))) (by repeat constructor) (by first | exact .head | exact .tail .head | exact .tail (.tail .head) | exact .tail (.tail (.tail .head)) | exact .tail (.tail (.tail (.tail .head))) | exact .tail (.tail (.tail (.tail (.tail .head))))) ?_
      clear hS
      intro wx1 hS
      refine lst_done ?_
      refine goes_seq ?_
      refine goes_region ?_
      refine lst_run (run_move (by conv => lhs; whnf)) rfl ?_
      refine lst_run (run_assign (by conv => lhs; whnf)) rfl ?_
      refine lst_done ?_
      refine goes_ret1 Try.func85 rfl (by conv => lhs; whnf) ?_
      exact ⟨rfl, B, d, O, hrow, hS⟩
    · rw [decide_eq_false hn]
      refine goes_seq ?_
      refine goes_region ?_
      refine lst_run (run_assign (by conv => lhs; whnf)) rfl ?_
      refine lst_done ?_
      refine goes_seq ?_
      refine goes_seq ?_
      refine goes_region ?_
      refine lst_run (run_move (by conv => lhs; whnf)) rfl ?_
      refine lst_run (run_nilCheck rfl) rfl ?_
      refine lst_run (run_fieldAddr (off := 3) rfl rfl) rfl ?_
      first
        | refine lst_run (run_load1_own hS rfl rfl (by first | exact .head | exact .tail .head | exact .tail (.tail .head) | exact .tail (.tail (.tail .head)) | exact .tail (.tail (.tail (.tail .head))) | exact .tail (.tail (.tail (.tail (.tail .head))))) (by repeat constructor)) rfl ?_
        | refine lst_run (run_load1 rfl rfl (by first | assumption | exact hS.cell0 (by assumption) | exact lv_next hS | exact lv_list hS)) rfl ?_
      refine lst_done ?_
      refine goes_false rfl ?_
      refine goes_skip ?_
      refine goes_seq ?_
      refine goes_region ?_
      refine lst_run (run_move (by conv => lhs; whnf)) rfl ?_
      refine lst_run (run_nilCheck rfl) rfl ?_
      refine lst_run (run_fieldAddr (off := 0) rfl rfl) rfl ?_
      first
        | refine lst_run (run_loadN_own (k := 2) hS rfl rfl rfl (by first | exact .head | exact .tail .head | exact .tail (.tail .head) | exact .tail (.tail (.tail .head)) | exact .tail (.tail (.tail (.tail .head))) | exact .tail (.tail (.tail (.tail (.tail .head))))) (by repeat constructor)) rfl ?_
        | refine lst_run (run_load2 rfl rfl rfl (by first | assumption | exact hS.cell0 (by assumption)) (by first | assumption | exact hS.cell0 (by assumption))) rfl ?_
      refine lst_run (run_move (by conv => lhs; whnf)) rfl ?_
      refine lst_enter (run_call (by kernel_rfl) (args_2 (by conv => lhs; whnf) (by conv => lhs; whnf))) rfl ?_
      refine Calls.mono (look_any u.cs _ B c u.tr.length d a _ (hfl _ hS) (by omega)) ?_
      rintro _ w3 ⟨rfl, hb3⟩
      refine ⟨_, rfl, ?_⟩
      replace hS := hS.grow hb3
      refine lst_run (run_assign (by conv => lhs; whnf)) rfl ?_
      refine lst_done ?_
      refine goes_seq ?_
      refine goes_seq ?_
      refine goes_region ?_
      refine lst_run (run_move (by conv => lhs; whnf)) rfl ?_
      first
        | refine lst_run (run_lss_yes rfl rfl (by omega)) rfl ?_
        | refine lst_run (run_lss_no rfl rfl (by omega)) rfl ?_
        | refine lst_run (rfl) rfl ?_
      refine lst_done ?_
      refine goes_false rfl ?_
      refine goes_skip ?_
      refine goes_seq ?_
      refine goes_region ?_
      refine lst_run (run_move (by conv => lhs; whnf)) rfl ?_
      refine lst_run (run_assign (by conv => lhs; whnf)) rfl ?_
      refine lst_done ?_
      refine goes_ret1 Try.func85 rfl (by conv => lhs; whnf) ?_
      exact ⟨rfl, B, d, O, hrow, hS⟩
theorem unbound_any (u : HU) (a : Int) (x : HC) (w : World) (hx : hat u.cs a = some x) (hs : HUSt M w0 H F ub g c sp u w) :
    Calls Try.prog 86 #[ptr ub, .int .i64 a] w fun e w' => e = .returned (.bool (decide (x.k = 0))) ∧ HUSt M w0 H F ub g c sp u w' := by
  obtain ⟨B, d, O, hrow, hS⟩ := hs
  obtain ⟨h0, h1, hg⟩ := hatS.1 hx
  have hcc : ∀ {o H' F'} w', St M w0 ((ub, o) :: (g, cob u.cs sp) :: H') F' w' → _ := fun w' hS => (Flat.own (cap := u.cs.length) (hS.own (g, _) (.tail _ (.head _))) (hcsL_len u.cs) (Nat.le_refl _)).cell hg
  refine goes_enter2 Try.func86 rfl Try.ntmps86 rfl ?_
  by_cases hk : x.k = 0
  · rw [decide_eq_true hk]
    refine goes_seq ?_
    refine goes_region ?_
    refine lst_run (run_assign (by conv => lhs; whnf)) rfl ?_
    refine lst_done ?_
    refine goes_seq ?_
    refine goes_region ?_
    refine lst_run (run_move (by conv => lhs; whnf)) rfl ?_
    refine lst_run (run_nilCheck rfl) rfl ?_
    refine lst_run (run_fieldAddr (off := 0) rfl rfl) rfl ?_
    refine lst_run (run_fieldAddr (off := 0) rfl rfl) rfl ?_
    first
      | refine lst_run (run_load1_own hS rfl rfl (by first | exact .head | exact .tail .head | exact .tail (.tail .head) | exact .tail (.tail (.tail .head)) | exact .tail (.tail (.tail (.tail .head))) | exact .tail (.tail (.tail (.tail (.tail .head))))) (by repeat constructor)) rfl ?_
      | refine lst_run (run_load1 rfl rfl (by first | assumption | exact (hcc _ hS).1 | exact (hcc _ hS).2.1 | exact (hcc _ hS).2.2 | exact hS.cell0 (by assumption) | exact lv_next hS | exact lv_list hS)) rfl ?_
    refine lst_run (run_move (by conv => lhs; whnf)) rfl ?_
    refine lst_run (run_indexAddr (sz := 3) rfl rfl rfl rfl (by omega) (by omega)) rfl ?_
    refine lst_run (run_fieldAddr (off := 0) rfl rfl) rfl ?_
    first
      | refine lst_run (run_load1_own hS rfl rfl (by first | exact .head | exact .tail .head | exact .tail (.tail .head) | exact .tail (.tail (.tail .head)) | exact .tail (.tail (.tail (.tail .head))) | exact .tail (.tail (.tail (.tail (.tail .head))))) (by repeat constructor)) rfl ?_
      | refine lst_run (run_load1 rfl rfl (by first | assumption | exact (hcc _ hS).1 | exact (hcc _ hS).2.1 | exact (hcc _ hS).2.2 | exact hS.cell0 (by assumption) | exact lv_next hS | exact lv_list hS)) rfl ?_
    first
      | refine lst_run (run_eql_one_int rfl rfl) rfl ?_
      | refine lst_run (run_eql_no rfl rfl (by first | assumption | omega)) rfl ?_
      | refine lst_run (run_eql_yes rfl rfl (by omega)) rfl ?_
      | refine lst_run (rfl) rfl ?_
    refine lst_run (run_assign (by conv => lhs; whnf)) rfl ?_
    refine lst_done ?_
    refine goes_ret1 Try.func86 rfl (by conv => lhs; whnf) ?_
    exact ⟨rfl, B, d, O, hrow, hS⟩
  · rw [decide_eq_false hk]
    refine goes_seq ?_
    refine goes_region ?_
    refine lst_run (run_assign (by conv => lhs; whnf)) rfl ?_
    refine lst_done ?_
    refine goes_seq ?_
    refine goes_region ?_
    refine lst_run (run_move (by conv => lhs; whnf)) rfl ?_
    refine lst_run (run_nilCheck rfl) rfl ?_
    refine lst_run (run_fieldAddr (off := 0) rfl rfl) rfl ?_
    refine lst_run (run_fieldAddr (off := 0) rfl rfl) rfl ?_
    first
      | refine lst_run (run_load1_own hS rfl rfl (by first | exact .head | exact .tail .head | exact .tail (.tail .head) | exact .tail (.tail (.tail .head)) | exact .tail (.tail (.tail (.tail .head))) | exact .tail (.tail (.tail (.tail (.tail .head))))) (by repeat constructor)) rfl ?_
      | refine lst_run (run_load1 rfl rfl (by first | assumption | exact (hcc _ hS).1 | exact (hcc _ hS).2.1 | exact (hcc _ hS).2.2 | exact hS.cell0 (by assumption) | exact lv_next hS | exact lv_list hS)) rfl ?_
    refine lst_run (run_move (by conv => lhs; whnf)) rfl ?_
    refine lst_run (run_indexAddr (sz := 3) rfl rfl rfl rfl (by omega) (by omega)) rfl ?_
    refine lst_run (run_fieldAddr (off := 0) rfl rfl) rfl ?_
    first
      | refine lst_run (run_load1_own hS rfl rfl (by first | exact .head | exact .tail .head | exact .tail (.tail .head) | exact .tail (.tail (.tail .head)) | exact .tail (.tail (.tail (.tail .head))) | exact .tail (.tail (.tail (.tail (.tail .head))))) (by repeat constructor)) rfl ?_
      | refine lst_run (run_load1 rfl rfl (by first | assumption | exact (hcc _ hS).1 | exact (hcc _ hS).2.1 | exact (hcc _ hS).2.2 | exact hS.cell0 (by assumption) | exact lv_next hS | exact lv_list hS)) rfl ?_
    first
      | refine lst_run (run_eql_one_int rfl rfl) rfl ?_
      | refine lst_run (run_eql_no rfl rfl (by first | assumption | omega)) rfl ?_
      | refine lst_run (run_eql_yes rfl rfl (by omega)) rfl ?_
      | refine lst_run (rfl) rfl ?_
    refine lst_run (run_assign (by conv => lhs; whnf)) rfl ?_
    refine lst_done ?_
    refine goes_ret1 Try.func86 rfl (by conv => lhs; whnf) ?_
    exact ⟨rfl, B, d, O, hrow, hS⟩
theorem uargs_any (u : HU) (a : Int) (x : HC) (w : World) (hx : hat u.cs a = some x) (hs : HUSt M w0 H F ub g c sp u w) :
    Calls Try.prog 94 #[ptr ub, .int .i64 a] w fun e w' => e = .returned (.int .i64 (argsC x)) ∧ HUSt M w0 H F ub g c sp u w' := by
  obtain ⟨B, d, O, hrow, hS⟩ := hs
  obtain ⟨h0, h1, hg⟩ := hatS.1 hx
  have hcc : ∀ {o H' F'} w', St M w0 ((ub, o) :: (g, cob u.cs sp) :: H') F' w' → _ := fun w' hS => (Flat.own (cap := u.cs.length) (hS.own (g, _) (.tail _ (.head _))) (hcsL_len u.cs) (Nat.le_refl _)).cell hg
  refine goes_enter2 Try.func94 rfl Try.ntmps94 rfl ?_
  refine goes_seq ?_
  refine goes_region ?_
  refine lst_run (run_assign (by conv => lhs; whnf)) rfl ?_
  refine lst_done ?_
  refine goes_seq ?_
  refine goes_region ?_
  refine lst_run (run_move (by conv => lhs; whnf)) rfl ?_
  refine lst_run (run_nilCheck rfl) rfl ?_
  refine lst_run (run_fieldAddr (off := 0) rfl rfl) rfl ?_
  refine lst_run (run_fieldAddr (off := 0) rfl rfl) rfl ?_
  first
    | refine lst_run (run_load1_own hS rfl rfl (by first | exact .head | exact .tail .head | exact .tail (.tail .head) | exact .tail (.tail (.tail .head)) | exact .tail (.tail (.tail (.tail .head))) | exact .tail (.tail (.tail (.tail (.tail .head))))) (by repeat constructor)) rfl ?_
    | refine lst_run (run_load1 rfl rfl (by first | assumption | exact (hcc _ hS).1 | exact (hcc _ hS).2.1 | exact (hcc _ hS).2.2 | exact hS.cell0 (by assumption) | exact lv_next hS | exact lv_list hS)) rfl ?_
  refine lst_run (run_move (by conv => lhs; whnf)) rfl ?_
  refine lst_run (run_indexAddr (sz := 3) rfl rfl rfl rfl (by omega) (by omega)) rfl ?_
  first
    | refine lst_run (run_loadN_own (k := 3) hS rfl rfl rfl (by first | exact .head | exact .tail .head | exact .tail (.tail .head) | exact .tail (.tail (.tail .head)) | exact .tail (.tail (.tail (.tail .head))) | exact .tail (.tail (.tail (.tail (.tail .head))))) (by repeat constructor)) rfl ?_
    | refine lst_run (run_load3 rfl rfl rfl (by first | assumption | exact (hcc _ hS).1 | exact (hcc _ hS).2.1 | exact (hcc _ hS).2.2 | exact hS.cell0 (by assumption)) (by first | assumption | exact (hcc _ hS).1 | exact (hcc _ hS).2.1 | exact (hcc _ hS).2.2 | exact hS.cell0 (by assumption)) (by first | assumption | exact (hcc _ hS).1 | exact (hcc _ hS).2.1 | exact (hcc _ hS).2.2 | exact hS.cell0 (by assumption))) rfl ?_
  refine lst_enter (run_call (by kernel_rfl) (args_1 (by conv => lhs; whnf))) rfl ?_
  refine Calls.mono (args_any x _) ?_
  rintro _ w3 ⟨rfl, hb3⟩
  refine ⟨_, rfl, ?_⟩
  replace hS := hS.grow hb3
  refine lst_run (run_assign (by conv => lhs; whnf)) rfl ?_
  refine lst_done ?_
  refine goes_ret1 Try.func94 rfl (by conv => lhs; whnf) ?_
  exact ⟨rfl, B, d, O, hrow, hS⟩
theorem ubind_any (u : HU) (a x : Int) (y : HC) (w : World) (hy : hat u.cs a = some y) (ht : u.tr.length ≤ 1000000) (hs : HUSt M w0 H F ub g c sp u w) :
    Calls Try.prog 87 #[ptr ub, .int .i64 a, .int .i64 x] w fun e w' => e = .returned (.tuple #[]) ∧ HUSt M w0 H F ub g c sp (u.bind a x) w' := by
  obtain ⟨B, d, O, hrow, hS⟩ := hs
  obtain ⟨h0, h1, hg⟩ := hatS.1 hy
  have hput := hcsL_put u.cs sp a.toNat x (by omega)
  refine goes_enter3 Try.func87 rfl Try.ntmps87 rfl ?_
  refine goes_seq ?_
  refine goes_region ?_
  refine lst_run (run_move (by conv => lhs; whnf)) rfl ?_
  refine lst_run (run_nilCheck rfl) rfl ?_
  refine lst_run (run_fieldAddr (off := 0) rfl rfl) rfl ?_
  refine lst_run (run_fieldAddr (off := 0) rfl rfl) rfl ?_
  first
    | refine lst_run (run_load1_own hS rfl rfl (by first | exact .head | exact .tail .head | exact .tail (.tail .head) | exact .tail (.tail (.tail .head)) | exact .tail (.tail (.tail (.tail .head))) | exact .tail (.tail (.tail (.tail (.tail .head))))) (by repeat constructor)) rfl ?_
    | refine lst_run (run_load1 rfl rfl (by first | assumption | exact (hcc _ hS).1 | exact (hcc _ hS).2.1 | exact (hcc _ hS).2.2 | exact hS.cell0 (by assumption) | exact lv_next hS | exact lv_list hS)) rfl ?_
  refine lst_run (run_move (by conv => lhs; whnf)) rfl ?_
  refine lst_run (run_move (by conv => lhs; whnf)) rfl ?_
  refine lst_run (run_indexAddr (sz := 3) rfl rfl rfl rfl (by omega) (by omega)) rfl ?_
  refine lst_run (run_fieldAddr (off := 1) rfl rfl) rfl ?_
  refine lst_store1 hS rfl (by conv => lhs; whnf) rfl rfl (.tail .head) (by rw [Nat.zero_add]; exact hput) (.tail .head) ?_
  clear hS
  intro w6 hS
  refine lst_done ?_
  refine goes_region ?_
  refine lst_run (run_move (by conv => lhs; whnf)) rfl ?_
  refine lst_run (run_move (by conv => lhs; whnf)) rfl ?_
  refine lst_run (run_nilCheck rfl) rfl ?_
  refine lst_run (run_fieldAddr (off := 0) rfl rfl) rfl ?_
  refine lst_run (run_fieldAddr (off := 1) rfl rfl) rfl ?_
  first
    | refine lst_run (run_load1_own hS rfl rfl (by first | exact .head | exact .tail .head | exact .tail (.tail .head) | exact .tail (.tail (.tail .head)) | exact .tail (.tail (.tail (.tail .head))) | exact .tail (.tail (.tail (.tail (.tail .head))))) (by repeat constructor)) rfl ?_
    | refine lst_run (run_load1 rfl rfl (by first | assumption | exact (hcc _ hS).1 | exact (hcc _ hS).2.1 | exact (hcc _ hS).2.2 | exact hS.cell0 (by assumption) | exact lv_next hS | exact lv_list hS)) rfl ?_
  refine lst_run (run_move (by conv => lhs; whnf)) rfl ?_
  refine lst_buildSlice (cells := [_]) hS (.cons (by conv => lhs; whnf) .nil) rfl rfl ?_
  clear hS
  intro b1 wx1 hS
  refine lst_appI (L := [a]) hS (by conv => lhs; whnf) (by rfl) rfl rfl rfl (Flat.own (sp := []) (hS.own (_, _) (.head _)) rfl (Nat.le_refl _)) hrow (List.perm_append_comm_assoc [_, _, _] O _) (by simp; omega) rfl ?_
  clear hS
  intro v7 O7 w7 hrow7 hS
  obtain ⟨B7, d7, rfl, _⟩ := hrow7.form
  replace hS := (hS.perm (List.perm_append_comm_assoc O7 [_, _, _] _)).drop
  refine lst_run (run_nilCheck rfl) rfl ?_
  refine lst_run (run_fieldAddr (off := 0) rfl rfl) rfl ?_
  refine lst_run (run_fieldAddr (off := 1) rfl rfl) rfl ?_
  refine lst_store1 hS rfl (by conv => lhs; whnf) rfl rfl (by first | exact .head | exact .tail .head | exact .tail (.tail .head) | exact .tail (.tail (.tail .head)) | exact .tail (.tail (.tail (.tail .head))) | exact .tail (.tail (.tail (.tail (.tail .head))))) (by repeat constructor) (by first | exact .head | exact .tail .head | exact .tail (.tail .head) | exact .tail (.tail (.tail .head)) | exact .tail (.tail (.tail (.tail .head))) | exact .tail (.tail (.tail (.tail (.tail .head))))) ?_
  clear hS
  intro wx2 hS
  refine lst_done ?_
  refine goes_end0 Try.func87 rfl ?_
  refine ⟨rfl, B7, d7, O7, ?_, ?_⟩
  · simp only [HU.bind, List.length_append, intsV, List.map_append] at hrow7 ⊢; exact hrow7
  · simp only [HU.bind, List.length_append, setN_len]; exact hS
def OccSaid (n f : Nat) : Prop := ∀ (M : List Nat) (w0 : World) (H : List (Nat × Obj)) (F : List (World → Prop)) (ub g c : Nat) (sp : List Value) (a b : Int) (u : HU) (w : World),
  GU n u → n ≤ 65536 → n ≤ c → 400 ≤ u.w + f → u.w ≤ 20000 → f ≤ 401 → -1 ≤ b → b ≤ 100000 → HUSt M w0 H F ub g c sp u w →
    Calls Try.prog 93 #[ptr ub, .int .i64 a, .int .i64 b] w fun e w' => e = .returned (.bool (occU a f b u).1) ∧ HUSt M w0 H F ub g c sp (occU a f b u).2 w'
theorem step_lg {u : HU} (h : 400 ≤ u.w) : u.step.lg = true := by simp only [HU.step, decide_eq_true (show 400 < u.w + 1 by omega), Bool.or_true]
theorem look_lg {u : HU} (h : u.lg = true) (a : Int) : u.look a = (-1, u) := by unfold HU.look; rw [if_pos h]
theorem HUSt.lgS {u : HU} {w : World} {b : Bool} (h : HUSt M w0 H F ub g c sp u w) (hb : u.lg = b) : ∃ (B : Option Addr) (d : Nat) (O : List (Nat × Obj)), Rw 3 1 (.slice B u.tr.length d) u.tr.length (intsV u.tr) O ∧ St M w0 ((ub, uob g u.cs.length c B u.tr.length d u.w b) :: (g, cob u.cs sp) :: (O ++ H)) F w := by
  obtain ⟨B, d, O, h1, h2⟩ := h
  rw [hb] at h2
  exact ⟨B, d, O, h1, h2⟩
theorem occ_step (n f : Nat) (ih : ∀ f', f = f' + 1 → OccSaid n f') : OccSaid n f := by
  intro M w0 H F ub g c sp a b u w hG hn hc hkf hk hf hb0 hb1 hs
  have hsl : (occU a f b u).1 = (occU a f b u).1 := rfl
  refine goes_enter3 Try.func93 rfl Try.ntmps93 rfl ?_
  refine goes_seq ?_
  refine goes_region ?_
  refine lst_run (run_assign (by conv => lhs; whnf)) rfl ?_
  refine lst_done ?_
  refine goes_seq ?_
  refine goes_region ?_
  refine lst_run (run_move (by conv => lhs; whnf)) rfl ?_
  refine lst_enter (run_call (by kernel_rfl) (args_1 (by conv => lhs; whnf))) rfl ?_
  refine Calls.mono (step_any u _ (by omega) hs) ?_
  rintro _ w2 ⟨rfl, hs2⟩
  refine ⟨_, rfl, ?_⟩
  refine lst_done ?_
  refine goes_seq ?_
  refine goes_region ?_
  refine lst_run (run_move (by conv => lhs; whnf)) rfl ?_
  refine lst_run (run_move (by conv => lhs; whnf)) rfl ?_
  refine lst_enter (run_call (by kernel_rfl) (args_2 (by conv => lhs; whnf) (by conv => lhs; whnf))) rfl ?_
  refine Calls.mono (ulook_any u.step b _ (by rw [hG.step.len]; exact hn) (by rw [hG.step.len]; exact hc) hs2) ?_
  rintro _ w3 ⟨rfl, hs3⟩
  refine ⟨_, rfl, ?_⟩
  have hG3 := hG.step.look b
  have hcs3 : (u.step.look b).2.cs = u.cs := (look_w u.step b).2.1
  have hw3 : (u.step.look b).2.w = u.w + 1 := (look_w u.step b).1
  cases hlg : (u.step.look b).2.lg with
  | true =>
    have e0 : occU a f b u = (false, (u.step.look b).2) := by
      cases f with
      | zero => rfl
      | succ f => simp only [occU]; rw [if_pos hlg]
    rw [e0]
    obtain ⟨B, d, O, hrow, hS⟩ := hs3.lgS hlg
    refine lst_run (run_assign (by conv => lhs; whnf)) rfl ?_
    refine lst_done ?_
    refine goes_seq ?_
    refine goes_seq ?_
    refine goes_region ?_
    refine lst_run (run_move (by conv => lhs; whnf)) rfl ?_
    refine lst_run (run_nilCheck rfl) rfl ?_
    refine lst_run (run_fieldAddr (off := 3) rfl rfl) rfl ?_
    first
      | refine lst_run (run_load1_own hS rfl rfl (by first | exact .head | exact .tail .head | exact .tail (.tail .head) | exact .tail (.tail (.tail .head)) | exact .tail (.tail (.tail (.tail .head))) | exact .tail (.tail (.tail (.tail (.tail .head))))) (by repeat constructor)) rfl ?_
      | refine lst_run (run_load1 rfl rfl (by first | assumption | exact (hcc _ hS).1 | exact (hcc _ hS).2.1 | exact (hcc _ hS).2.2 | exact hS.cell0 (by assumption) | exact lv_next hS | exact lv_list hS)) rfl ?_
    refine lst_done ?_
    refine goes_true rfl ?_
    refine goes_seq ?_
    refine goes_region ?_
    refine lst_run (run_assign (by conv => lhs; whnf)) rfl ?_
    refine lst_done ?_
    refine goes_ret1 Try.func93 rfl (by conv => lhs; whnf) ?_
    exact ⟨rfl, B, d, O, hrow, by rw [hlg]; exact hS⟩
  | false =>
    obtain ⟨f, rfl⟩ : ∃ f', f = f' + 1 := by
      cases f with
      | succ f => exact ⟨f, rfl⟩
      | zero =>
        have := (look_ok hlg).1
        rw [step_lg (by omega)] at this; cases this
    have ih := ih f rfl
    obtain ⟨hl1, hp1, hp2⟩ := look_ok hlg
    obtain ⟨x, hx, hxe⟩ := hlook_end hp2
    rw [← hp1] at hx
    replace hx : hat u.cs (u.step.look b).1 = some x := hx
    have hx3 : hat (u.step.look b).2.cs (u.step.look b).1 = some x := by rw [hcs3]; exact hx
    obtain ⟨hx0, hx1, _⟩ := hatS.1 hx
    rw [hG.len] at hx1
    have e0 : occU a (f + 1) b u = if a = (u.step.look b).1 then (true, (u.step.look b).2) else anyU (occU a f) (argsAt u.cs (u.step.look b).1) ((u.step.look b).1 + 1) (u.step.look b).2 := by
      simp only [occU]; rw [if_neg (by rw [hlg]; decide)]
    rw [e0]
    have hw4 := hG3.wk hlg
    have hgA := (good_args (a := (u.step.look b).1) hG.good).1
    have hA : argsC x = ((argsAt u.cs (u.step.look b).1 : Nat) : Int) := by
      have : argsAt u.cs (u.step.look b).1 = (argsC x).toNat := by unfold argsAt; rw [hx]
      rw [this]
      have := goodC_iff (good_hat hG.good hx)
      unfold argsC
      split <;> omega
    generalize hq : (u.step.look b).1 = q at *
    obtain ⟨B, d, O, hrow, hS⟩ := hs3.lgS hlg
    by_cases haq : a = q
    · rw [if_pos haq]
      refine lst_run (run_assign (by conv => lhs; whnf)) rfl ?_
      refine lst_done ?_
      refine goes_seq ?_
      refine goes_seq ?_
      refine goes_region ?_
      refine lst_run (run_move (by conv => lhs; whnf)) rfl ?_
      refine lst_run (run_nilCheck rfl) rfl ?_
      refine lst_run (run_fieldAddr (off := 3) rfl rfl) rfl ?_
      first
        | refine lst_run (run_load1_own hS rfl rfl (by first | exact .head | exact .tail .head | exact .tail (.tail .head) | exact .tail (.tail (.tail .head)) | exact .tail (.tail (.tail (.tail .head))) | exact .tail (.tail (.tail (.tail (.tail .head))))) (by repeat constructor)) rfl ?_
        | refine lst_run (run_load1 rfl rfl (by first | assumption | exact (hcc _ hS).1 | exact (hcc _ hS).2.1 | exact (hcc _ hS).2.2 | exact hS.cell0 (by assumption) | exact lv_next hS | exact lv_list hS)) rfl ?_
      refine lst_done ?_
      refine goes_false rfl ?_
      refine goes_skip ?_
      refine goes_seq ?_
      refine goes_seq ?_
      refine goes_region ?_
      refine lst_run (run_move (by conv => lhs; whnf)) rfl ?_
      refine lst_run (run_move (by conv => lhs; whnf)) rfl ?_
      first
        | refine lst_run (run_eql_one_int rfl rfl) rfl ?_
        | refine lst_run (run_eql_no rfl rfl (by first | assumption | omega)) rfl ?_
        | refine lst_run (run_eql_yes rfl rfl (by omega)) rfl ?_
        | refine lst_run (rfl) rfl ?_
      refine lst_done ?_
      refine goes_true rfl ?_
      refine goes_seq ?_
      refine goes_region ?_
      refine lst_run (run_assign (by conv => lhs; whnf)) rfl ?_
      refine lst_done ?_
      refine goes_ret1 Try.func93 rfl (by conv => lhs; whnf) ?_
      exact ⟨rfl, B, d, O, hrow, by rw [hlg]; exact hS⟩
    · rw [if_neg haq]
      refine lst_run (run_assign (by conv => lhs; whnf)) rfl ?_
      refine lst_done ?_
      refine goes_seq ?_
      refine goes_seq ?_
      refine goes_region ?_
      refine lst_run (run_move (by conv => lhs; whnf)) rfl ?_
      refine lst_run (run_nilCheck rfl) rfl ?_
      refine lst_run (run_fieldAddr (off := 3) rfl rfl) rfl ?_
      first
        | refine lst_run (run_load1_own hS rfl rfl (by first | exact .head | exact .tail .head | exact .tail (.tail .head) | exact .tail (.tail (.tail .head)) | exact .tail (.tail (.tail (.tail .head))) | exact .tail (.tail (.tail (.tail (.tail .head))))) (by repeat constructor)) rfl ?_
        | refine lst_run (run_load1 rfl rfl (by first | assumption | exact (hcc _ hS).1 | exact (hcc _ hS).2.1 | exact (hcc _ hS).2.2 | exact hS.cell0 (by assumption) | exact lv_next hS | exact lv_list hS)) rfl ?_
      refine lst_done ?_
      refine goes_false rfl ?_
      refine goes_skip ?_
      refine goes_seq ?_
      refine goes_seq ?_
      refine goes_region ?_
      refine lst_run (run_move (by conv => lhs; whnf)) rfl ?_
      refine lst_run (run_move (by conv => lhs; whnf)) rfl ?_
      first
        | refine lst_run (run_eql_one_int rfl rfl) rfl ?_
        | refine lst_run (run_eql_no rfl rfl (by first | assumption | omega)) rfl ?_
        | refine lst_run (run_eql_yes rfl rfl (by omega)) rfl ?_
        | refine lst_run (rfl) rfl ?_
      refine lst_done ?_
      refine goes_false rfl ?_
      refine goes_skip ?_
      refine goes_seq ?_
      refine goes_seq ?_
      refine goes_region ?_
      refine lst_run (run_move (by conv => lhs; whnf)) rfl ?_
      refine lst_run (run_move (by conv => lhs; whnf)) rfl ?_
      refine lst_enter (run_call (by kernel_rfl) (args_2 (by conv => lhs; whnf) (by conv => lhs; whnf))) rfl ?_
      refine Calls.mono (uargs_any (u.step.look b).2 q x _ hx3 ⟨B, d, O, hrow, by rw [hlg]; exact hS⟩) ?_
      rintro _ w4 ⟨rfl, hs4⟩
      refine ⟨_, rfl, ?_⟩
      rw [hA]
      clear hS hrow
      refine lst_run (run_move (by conv => lhs; whnf)) rfl ?_
      refine lst_done ?_
      refine goes_block ?_
      refine goes_loop1 23 (24 :: 25 :: 7 :: 26 :: 27 :: 28 :: 29 :: 30 :: 31 :: 32 :: 6 :: 33 :: []) (fun (m : Nat) v w' => ∃ (i : Nat) (u' : HU), i + m = argsAt u.cs q ∧ v = .int .i64 (i : Nat) ∧ GU n u' ∧ u'.cs = u.cs ∧ u.w + 1 ≤ u'.w ∧ u'.w ≤ 401 + 4 * f + i ∧ anyU (occU a f) (argsAt u.cs q) (q + 1) (u.step.look b).2 = anyU (occU a f) m (q + 1 + (i : Nat)) u' ∧ HUSt M w0 H F ub g c sp u' w') (fun m => m) (argsAt u.cs q) ?_ (by conv => lhs; whnf) ?_
      · exact ⟨0, (u.step.look b).2, by omega, rfl, hG3, hcs3, by omega, by omega, by simp, hs4⟩
      clear hs4 hs3
      rintro m _ w5 jv ⟨i, u', hi, rfl, hG', hcs', hwl, hwu, hany, hs'⟩ ihl
      cases m with
      | zero =>
        refine goes_seq ?_
        refine goes_region ?_
        first
          | refine lst_run (run_lss_yes rfl rfl (by omega)) rfl ?_
          | refine lst_run (run_lss_no rfl rfl (by omega)) rfl ?_
          | refine lst_run (rfl) rfl ?_
        refine lst_done ?_
        refine goes_seq ?_
        refine goes_false rfl ?_
        refine goes_exit rfl ?_
        refine goes_seq ?_
        refine goes_region ?_
        refine lst_run (run_assign (by conv => lhs; whnf)) rfl ?_
        refine lst_done ?_
        refine goes_ret1 Try.func93 rfl (by conv => lhs; whnf) ?_
        rw [hany]
        exact ⟨rfl, hs'⟩
      | succ m =>
        have hou := occ_up (n := n) a f (q + 1 + (i : Nat)) u' hG'.good hG'.wk
        have hle := hou.le
        have hlt := hou.lt
        have htl := hG'.trl
        have hstep : anyU (occU a f) (m + 1) (q + 1 + (i : Nat)) u' = if (occU a f (q + 1 + (i : Nat)) u').1 = true then occU a f (q + 1 + (i : Nat)) u' else anyU (occU a f) m (q + 1 + (i : Nat) + 1) (occU a f (q + 1 + (i : Nat)) u').2 := rfl
        refine goes_seq ?_
        refine goes_region ?_
        first
          | refine lst_run (run_lss_yes rfl rfl (by omega)) rfl ?_
          | refine lst_run (run_lss_no rfl rfl (by omega)) rfl ?_
          | refine lst_run (rfl) rfl ?_
        refine lst_done ?_
        refine goes_seq ?_
        refine goes_true rfl ?_
        refine goes_skip ?_
        refine goes_seq ?_
        refine goes_block ?_
        refine goes_seq ?_
        refine goes_region ?_
        refine lst_run (run_move (by conv => lhs; whnf)) rfl ?_
        refine lst_run (run_assign (by conv => lhs; whnf)) rfl ?_
        refine lst_done ?_
        refine goes_seq ?_
        refine goes_region ?_
        refine lst_run (run_move (by conv => lhs; whnf)) rfl ?_
        refine lst_run (run_move (by conv => lhs; whnf)) rfl ?_
        refine lst_run (run_move (by conv => lhs; whnf)) rfl ?_
        refine lst_run (run_add rfl rfl (by omega) (by omega)) rfl ?_
        refine lst_run (run_move (by conv => lhs; whnf)) rfl ?_
        refine lst_run (run_add rfl rfl (by omega) (by omega)) rfl ?_
        refine lst_enter (run_call (by kernel_rfl) (args_3 (by conv => lhs; whnf) (by conv => lhs; whnf) (by conv => lhs; whnf))) rfl ?_
        refine Calls.mono (ih M w0 H F ub g c sp a (q + 1 + (i : Nat)) u' _ hG' hn hc (by omega) (by omega) (by omega) (by omega) (by omega) hs') ?_
        rintro _ w6 ⟨rfl, hs6⟩
        refine ⟨_, rfl, ?_⟩
        cases hr : (occU a f (q + 1 + (i : Nat)) u').1 with
        | true =>
          refine lst_done ?_
          refine goes_true rfl ?_
          refine goes_seq ?_
          refine goes_region ?_
          refine lst_run (run_assign (by conv => lhs; whnf)) rfl ?_
          refine lst_done ?_
          refine goes_ret1 Try.func93 rfl (by conv => lhs; whnf) ?_
          rw [hany, hstep, if_pos hr, hr]
          exact ⟨rfl, hs6⟩
        | false =>
          refine lst_done ?_
          refine goes_false rfl ?_
          refine goes_skip ?_
          refine goes_inBlock ?_
          refine goes_region ?_
          refine lst_run (run_add rfl rfl (by omega) (by omega)) rfl ?_
          refine lst_run (run_move (by conv => lhs; whnf)) rfl ?_
          refine lst_done ?_
          refine ihl m _ _ _ ?_ ?_ (by conv => lhs; whnf) (by kernel_rfl)
          · omega
          · refine ⟨i + 1, (occU a f (q + 1 + (i : Nat)) u').2, by omega, by simp, ⟨by rw [hou.cs]; exact hG'.len, by rw [hou.cs]; exact hG'.good, hou.wk, by rw [hou.tr]; omega⟩, by rw [hou.cs]; exact hcs', by omega, by omega, ?_, hs6⟩
            rw [hany, hstep, if_neg (by rw [hr]; decide)]
            congr 1
            omega
theorem occ_said (n : Nat) : ∀ f, OccSaid n f
  | 0 => occ_step n 0 fun f' h => by omega
  | f + 1 => occ_step n (f + 1) fun f' h => by
    obtain rfl : f = f' := by omega
    exact occ_said n f
theorem assign_any (n : Nat) (a b : Int) (y : HC) (u : HU) (w : World) (hG : GU n u) (hn : n ≤ 65536) (hc : n ≤ c) (hlg : u.lg = false) (hy : hat u.cs a = some y) (hb0 : 0 ≤ b) (hb1 : b < n) (hs : HUSt M w0 H F ub g c sp u w) :
    Calls Try.prog 88 #[ptr ub, .int .i64 a, .int .i64 b] w fun e w' => e = .returned (.bool (asgU a b u).1) ∧ HUSt M w0 H F ub g c sp (asgU a b u).2 w' := by
  have hw := hG.wk hlg
  have hou := occ_up (n := n) a 401 b u hG.good hG.wk
  have htl := hG.trl
  have e0 : asgU a b u = if (occU a 401 b u).1 = true ∨ (occU a 401 b u).2.lg = true then (false, (occU a 401 b u).2) else (true, (occU a 401 b u).2.bind a b) := rfl
  rw [e0]
  refine goes_enter3 Try.func88 rfl Try.ntmps88 rfl ?_
  refine goes_seq ?_
  refine goes_region ?_
  refine lst_run (run_assign (by conv => lhs; whnf)) rfl ?_
  refine lst_done ?_
  refine goes_seq ?_
  refine goes_seq ?_
  refine goes_region ?_
  refine lst_run (run_move (by conv => lhs; whnf)) rfl ?_
  refine lst_run (run_move (by conv => lhs; whnf)) rfl ?_
  refine lst_run (run_move (by conv => lhs; whnf)) rfl ?_
  refine lst_enter (run_call (by kernel_rfl) (args_3 (by conv => lhs; whnf) (by conv => lhs; whnf) (by conv => lhs; whnf))) rfl ?_
  refine Calls.mono (occ_said n 401 M w0 H F ub g c sp a b u _ hG hn hc (by omega) (by omega) (by omega) (by omega) (by omega) hs) ?_
  rintro _ w3 ⟨rfl, hs3⟩
  refine ⟨_, rfl, ?_⟩
  cases ho : (occU a 401 b u).1 with
  | true =>
    rw [if_pos (.inl rfl)]
    refine lst_run (run_move (by conv => lhs; whnf)) rfl ?_
    refine lst_pass rfl rfl rfl ?_
    refine lst_pass rfl rfl rfl ?_
    refine lst_pass rfl rfl rfl ?_
    refine lst_pass rfl rfl rfl ?_
    first
      | refine lst_run (run_pick_t rfl (by conv => lhs; whnf)) rfl ?_
      | refine lst_run (run_pick_f rfl (by conv => lhs; whnf)) rfl ?_
    refine lst_done ?_
    refine goes_true rfl ?_
    refine goes_seq ?_
    refine goes_region ?_
    refine lst_run (run_assign (by conv => lhs; whnf)) rfl ?_
    refine lst_done ?_
    refine goes_ret1 Try.func88 rfl (by conv => lhs; whnf) ?_
    exact ⟨rfl, hs3⟩
  | false =>
    cases hl : (occU a 401 b u).2.lg with
    | true =>
      rw [if_pos (.inr rfl)]
      obtain ⟨B, d, O, hrow, hS⟩ := hs3.lgS hl
      refine lst_run (run_move (by conv => lhs; whnf)) rfl ?_
      refine lst_guard rfl rfl ?_
      refine lst_run (run_move (by conv => lhs; whnf)) rfl ?_
      refine lst_guard rfl rfl ?_
      refine lst_run (run_nilCheck rfl) rfl ?_
      refine lst_guard rfl rfl ?_
      refine lst_run (run_fieldAddr (off := 3) rfl rfl) rfl ?_
      refine lst_guard rfl rfl ?_
      first
        | refine lst_run (run_load1_own hS rfl rfl (by first | exact .head | exact .tail .head | exact .tail (.tail .head) | exact .tail (.tail (.tail .head)) | exact .tail (.tail (.tail (.tail .head))) | exact .tail (.tail (.tail (.tail (.tail .head))))) (by repeat constructor)) rfl ?_
        | refine lst_run (run_load1 rfl rfl (by first | assumption | exact (hcc _ hS).1 | exact (hcc _ hS).2.1 | exact (hcc _ hS).2.2 | exact hS.cell0 (by assumption) | exact lv_next hS | exact lv_list hS)) rfl ?_
      first
        | refine lst_run (run_pick_t rfl (by conv => lhs; whnf)) rfl ?_
        | refine lst_run (run_pick_f rfl (by conv => lhs; whnf)) rfl ?_
      refine lst_done ?_
      refine goes_true rfl ?_
      refine goes_seq ?_
      refine goes_region ?_
      refine lst_run (run_assign (by conv => lhs; whnf)) rfl ?_
      refine lst_done ?_
      refine goes_ret1 Try.func88 rfl (by conv => lhs; whnf) ?_
      exact ⟨rfl, B, d, O, hrow, by rw [hl]; exact hS⟩
    | false =>
      rw [if_neg (by decide)]
      obtain ⟨B, d, O, hrow, hS⟩ := hs3.lgS hl
      refine lst_run (run_move (by conv => lhs; whnf)) rfl ?_
      refine lst_guard rfl rfl ?_
      refine lst_run (run_move (by conv => lhs; whnf)) rfl ?_
      refine lst_guard rfl rfl ?_
      refine lst_run (run_nilCheck rfl) rfl ?_
      refine lst_guard rfl rfl ?_
      refine lst_run (run_fieldAddr (off := 3) rfl rfl) rfl ?_
      refine lst_guard rfl rfl ?_
      first
        | refine lst_run (run_load1_own hS rfl rfl (by first | exact .head | exact .tail .head | exact .tail (.tail .head) | exact .tail (.tail (.tail .head)) | exact .tail (.tail (.tail (.tail .head))) | exact .tail (.tail (.tail (.tail (.tail .head))))) (by repeat constructor)) rfl ?_
        | refine lst_run (run_load1 rfl rfl (by first | assumption | exact (hcc _ hS).1 | exact (hcc _ hS).2.1 | exact (hcc _ hS).2.2 | exact hS.cell0 (by assumption) | exact lv_next hS | exact lv_list hS)) rfl ?_
      first
        | refine lst_run (run_pick_t rfl (by conv => lhs; whnf)) rfl ?_
        | refine lst_run (run_pick_f rfl (by conv => lhs; whnf)) rfl ?_
      refine lst_done ?_
      refine goes_false rfl ?_
      refine goes_skip ?_
      refine goes_seq ?_
      refine goes_region ?_
      refine lst_run (run_move (by conv => lhs; whnf)) rfl ?_
      refine lst_run (run_move (by conv => lhs; whnf)) rfl ?_
      refine lst_run (run_move (by conv => lhs; whnf)) rfl ?_
      refine lst_enter (run_call (by kernel_rfl) (args_3 (by conv => lhs; whnf) (by conv => lhs; whnf) (by conv => lhs; whnf))) rfl ?_
      refine Calls.mono (ubind_any (occU a 401 b u).2 a b y _ (by rw [hou.cs]; exact hy) (by rw [hou.tr]; omega) ⟨B, d, O, hrow, by rw [hl]; exact hS⟩) ?_
      rintro _ w4 ⟨rfl, hs4⟩
      refine ⟨_, rfl, ?_⟩
      refine lst_done ?_
      refine goes_seq ?_
      refine goes_region ?_
      refine lst_run (run_assign (by conv => lhs; whnf)) rfl ?_
      refine lst_done ?_
      refine goes_ret1 Try.func88 rfl (by conv => lhs; whnf) ?_
      exact ⟨rfl, hs4⟩
end
end Go.Proofs.Ytjicoifjgokoiaa
namespace Go.Proofs.Ytjicoifjgokoiaa
open Go.RowKit
set_option linter.unusedVariables false
set_option linter.unusedSimpArgs false
set_option maxRecDepth 100000
set_option maxHeartbeats 1000000

def UniSaid (n f : Nat) : Prop := ∀ (M : List Nat) (w0 : World) (H : List (Nat × Obj)) (F : List (World → Prop)) (ub g c : Nat) (sp : List Value) (a b : Int) (u : HU) (w : World),
  GU n u → u.lg = false → n ≤ 65536 → n ≤ c → 400 ≤ u.w + f → f ≤ 401 → HUSt M w0 H F ub g c sp u w →
    Calls Try.prog 75 #[ptr ub, .int .i64 a, .int .i64 b] w fun e w' => e = .returned (.bool (uniU f a b u).1) ∧ HUSt M w0 H F ub g c sp (uniU f a b u).2 w'
section
variable {M : List Nat} {w0 : World} {H : List (Nat × Obj)} {F : List (World → Prop)} {ub g c : Nat} {sp : List Value}
theorem parts_any (n f : Nat) (ih : UniSaid n f) (a b : Int) (x y : HC) (u : HU) (w : World) (hG : GU n u) (hlg : u.lg = false) (hn : n ≤ 65536) (hc : n ≤ c) (hkf : 400 ≤ u.w + f) (hf : f ≤ 401) (hx : hat u.cs a = some x) (hy : hat u.cs b = some y) (hs : HUSt M w0 H F ub g c sp u w) :
    Calls Try.prog 89 #[ptr ub, .int .i64 a, .int .i64 b] w fun e w' => e = .returned (.bool (partsU (uniU f) a b u).1) ∧ HUSt M w0 H F ub g c sp (partsU (uniU f) a b u).2 w' := by
  have hw := hG.wk hlg
  obtain ⟨hx0, hx1, hgx⟩ := hatS.1 hx
  obtain ⟨hy0, hy1, hgy⟩ := hatS.1 hy
  have hlen := hG.len
  have hcx : ∀ {o H' F'} w', St M w0 ((ub, o) :: (g, cob u.cs sp) :: H') F' w' → _ := fun w' hS => (Flat.own (cap := u.cs.length) (hS.own (g, _) (.tail _ (.head _))) (hcsL_len u.cs) (Nat.le_refl _)).cell hgx
  have hcy : ∀ {o H' F'} w', St M w0 ((ub, o) :: (g, cob u.cs sp) :: H') F' w' → _ := fun w' hS => (Flat.own (cap := u.cs.length) (hS.own (g, _) (.tail _ (.head _))) (hcsL_len u.cs) (Nat.le_refl _)).cell hgy
  have hA : argsC x = ((argsAt u.cs a : Nat) : Int) := by
    have : argsAt u.cs a = (argsC x).toNat := by unfold argsAt; rw [hx]
    rw [this]
    have := goodC_iff (good_hat hG.good hx)
    unfold argsC
    split <;> omega
  have hgA := (good_args (a := a) hG.good).1
  obtain ⟨B, d, O, hrow, hS⟩ := hs.lgS hlg
  refine goes_enter3 Try.func89 rfl Try.ntmps89 rfl ?_
  refine goes_seq ?_
  refine goes_region ?_
  refine lst_run (run_assign (by conv => lhs; whnf)) rfl ?_
  refine lst_done ?_
  refine goes_seq ?_
  refine goes_seq ?_
  refine goes_draw (St _ _ _ _) 17 ((0, true) :: (1, true) :: (2, true) :: (3, true) :: (4, true) :: (5, true) :: (6, true) :: (7, true) :: (8, true) :: (9, true) :: (10, true) :: (11, true) :: (12, true) :: (13, true) :: (14, true) :: (15, true) :: (16, true) :: []) (by kernel_rfl) (by kernel_rfl) (hS.drew) ?_
  replace hS := hS.drew
  refine ord_read rfl (fun _ hS => run_move (by conv => lhs; whnf)) rfl ?_
  refine ord_read rfl (fun _ hS => run_nilCheck rfl) rfl ?_
  refine ord_read rfl (fun _ hS => run_fieldAddr (off := 0) rfl rfl) rfl ?_
  refine ord_read rfl (fun _ hS => run_fieldAddr (off := 0) rfl rfl) rfl ?_
  first
    | refine ord_read rfl (fun _ hS => run_load1_own hS rfl rfl (by first | exact .head | exact .tail .head | exact .tail (.tail .head) | exact .tail (.tail (.tail .head)) | exact .tail (.tail (.tail (.tail .head))) | exact .tail (.tail (.tail (.tail (.tail .head))))) (by repeat constructor)) rfl ?_
    | refine ord_read rfl (fun _ hS => run_load1 rfl rfl (by first | assumption | exact (hcx _ hS).1 | exact (hcx _ hS).2.1 | exact (hcx _ hS).2.2 | exact (hcy _ hS).1 | exact (hcy _ hS).2.1 | exact (hcy _ hS).2.2 | exact hS.cell0 (by assumption) | exact lv_next hS | exact lv_list hS)) rfl ?_
  refine ord_read rfl (fun _ hS => run_move (by conv => lhs; whnf)) rfl ?_
  refine ord_read rfl (fun _ hS => run_indexAddr (sz := 3) rfl rfl rfl rfl (by omega) (by omega)) rfl ?_
  first
    | refine ord_read rfl (fun _ hS => run_loadN_own (k := 3) hS rfl rfl rfl (by first | exact .head | exact .tail .head | exact .tail (.tail .head) | exact .tail (.tail (.tail .head)) | exact .tail (.tail (.tail (.tail .head))) | exact .tail (.tail (.tail (.tail (.tail .head))))) (by repeat constructor)) rfl ?_
    | refine ord_read rfl (fun _ hS => run_load3 rfl rfl rfl (by first | assumption | exact (hcx _ hS).1 | exact (hcx _ hS).2.1 | exact (hcx _ hS).2.2 | exact (hcy _ hS).1 | exact (hcy _ hS).2.1 | exact (hcy _ hS).2.2 | exact hS.cell0 (by assumption)) (by first | assumption | exact (hcx _ hS).1 | exact (hcx _ hS).2.1 | exact (hcx _ hS).2.2 | exact (hcy _ hS).1 | exact (hcy _ hS).2.1 | exact (hcy _ hS).2.2 | exact hS.cell0 (by assumption)) (by first | assumption | exact (hcx _ hS).1 | exact (hcx _ hS).2.1 | exact (hcx _ hS).2.2 | exact (hcy _ hS).1 | exact (hcy _ hS).2.1 | exact (hcy _ hS).2.2 | exact hS.cell0 (by assumption))) rfl ?_
  refine ord_read rfl (fun _ hS => run_move (by conv => lhs; whnf)) rfl ?_
  refine ord_read rfl (fun _ hS => run_nilCheck rfl) rfl ?_
  refine ord_read rfl (fun _ hS => run_fieldAddr (off := 0) rfl rfl) rfl ?_
  refine ord_read rfl (fun _ hS => run_fieldAddr (off := 0) rfl rfl) rfl ?_
  first
    | refine ord_read rfl (fun _ hS => run_load1_own hS rfl rfl (by first | exact .head | exact .tail .head | exact .tail (.tail .head) | exact .tail (.tail (.tail .head)) | exact .tail (.tail (.tail (.tail .head))) | exact .tail (.tail (.tail (.tail (.tail .head))))) (by repeat constructor)) rfl ?_
    | refine ord_read rfl (fun _ hS => run_load1 rfl rfl (by first | assumption | exact (hcx _ hS).1 | exact (hcx _ hS).2.1 | exact (hcx _ hS).2.2 | exact (hcy _ hS).1 | exact (hcy _ hS).2.1 | exact (hcy _ hS).2.2 | exact hS.cell0 (by assumption) | exact lv_next hS | exact lv_list hS)) rfl ?_
  refine ord_read rfl (fun _ hS => run_move (by conv => lhs; whnf)) rfl ?_
  refine ord_read rfl (fun _ hS => run_indexAddr (sz := 3) rfl rfl rfl rfl (by omega) (by omega)) rfl ?_
  first
    | refine ord_read rfl (fun _ hS => run_loadN_own (k := 3) hS rfl rfl rfl (by first | exact .head | exact .tail .head | exact .tail (.tail .head) | exact .tail (.tail (.tail .head)) | exact .tail (.tail (.tail (.tail .head))) | exact .tail (.tail (.tail (.tail (.tail .head))))) (by repeat constructor)) rfl ?_
    | refine ord_read rfl (fun _ hS => run_load3 rfl rfl rfl (by first | assumption | exact (hcx _ hS).1 | exact (hcx _ hS).2.1 | exact (hcx _ hS).2.2 | exact (hcy _ hS).1 | exact (hcy _ hS).2.1 | exact (hcy _ hS).2.2 | exact hS.cell0 (by assumption)) (by first | assumption | exact (hcx _ hS).1 | exact (hcx _ hS).2.1 | exact (hcx _ hS).2.2 | exact (hcy _ hS).1 | exact (hcy _ hS).2.1 | exact (hcy _ hS).2.2 | exact hS.cell0 (by assumption)) (by first | assumption | exact (hcx _ hS).1 | exact (hcx _ hS).2.1 | exact (hcx _ hS).2.2 | exact (hcy _ hS).1 | exact (hcy _ hS).2.1 | exact (hcy _ hS).2.2 | exact hS.cell0 (by assumption))) rfl ?_
  refine ord_read rfl (fun _ hS => run_neq_cell rfl rfl) rfl ?_
  refine ord_end ?_
  refine lst_done ?_
  by_cases hxy : x = y
  case neg =>
    have e0 : partsU (uniU f) a b u = (false, u) := by unfold partsU; rw [hx, hy, if_neg (by simpa using hxy)]
    rw [e0, decide_eq_false hxy]
    refine goes_true rfl ?_
    refine goes_seq ?_
    refine goes_region ?_
    refine lst_run (run_assign (by conv => lhs; whnf)) rfl ?_
    refine lst_done ?_
    refine goes_ret1 Try.func89 rfl (by conv => lhs; whnf) ?_
    exact ⟨rfl, B, d, O, hrow, by rw [hlg]; exact hS⟩
  have e0 : partsU (uniU f) a b u = allU (uniU f) (argsAt u.cs a) (a + 1) (b + 1) u := by unfold partsU; rw [hx, hy, if_pos (by rw [hxy])]
  rw [e0, decide_eq_true hxy]
  refine goes_false rfl ?_
  refine goes_skip ?_
  refine goes_seq ?_
  refine goes_seq ?_
  refine goes_region ?_
  refine lst_run (run_move (by conv => lhs; whnf)) rfl ?_
  refine lst_run (run_move (by conv => lhs; whnf)) rfl ?_
  refine lst_enter (run_call (by kernel_rfl) (args_2 (by conv => lhs; whnf) (by conv => lhs; whnf))) rfl ?_
  refine Calls.mono (uargs_any u a x _ hx ⟨B, d, O, hrow, by rw [hlg]; exact hS⟩) ?_
  rintro _ w4 ⟨rfl, hs4⟩
  refine ⟨_, rfl, ?_⟩
  rw [hA]
  clear hS hrow
  refine lst_run (run_move (by conv => lhs; whnf)) rfl ?_
  refine lst_done ?_
  refine goes_block ?_
  refine goes_loop1 28 (29 :: 30 :: 7 :: 31 :: 32 :: 33 :: 34 :: 35 :: 36 :: 37 :: 38 :: 39 :: 40 :: 41 :: 6 :: 42 :: []) (fun (m : Nat) v w' => ∃ (i : Nat) (u' : HU), i + m = argsAt u.cs a ∧ v = .int .i64 (i : Nat) ∧ GU n u' ∧ u'.lg = false ∧ u.w ≤ u'.w ∧ allU (uniU f) (argsAt u.cs a) (a + 1) (b + 1) u = allU (uniU f) m (a + 1 + (i : Nat)) (b + 1 + (i : Nat)) u' ∧ HUSt M w0 H F ub g c sp u' w') (fun m => m) (argsAt u.cs a) ?_ (by conv => lhs; whnf) ?_
  · exact ⟨0, u, by omega, rfl, hG, hlg, Nat.le_refl _, by simp, hs4⟩
  clear hs4
  rintro m _ w5 jv ⟨i, u', hi, rfl, hG', hl', hwl, hall, hs'⟩ ihl
  cases m with
  | zero =>
    refine goes_seq ?_
    refine goes_region ?_
    first
      | refine lst_run (run_lss_yes rfl rfl (by omega)) rfl ?_
      | refine lst_run (run_lss_no rfl rfl (by omega)) rfl ?_
      | refine lst_run (rfl) rfl ?_
    refine lst_done ?_
    refine goes_seq ?_
    refine goes_false rfl ?_
    refine goes_exit rfl ?_
    refine goes_seq ?_
    refine goes_region ?_
    refine lst_run (run_assign (by conv => lhs; whnf)) rfl ?_
    refine lst_done ?_
    refine goes_ret1 Try.func89 rfl (by conv => lhs; whnf) ?_
    rw [hall]
    exact ⟨rfl, hs'⟩
  | succ m =>
    have huu := uni_up (n := n) f (a + 1 + (i : Nat)) (b + 1 + (i : Nat)) u' hG' hl'
    have hstep : allU (uniU f) (m + 1) (a + 1 + (i : Nat)) (b + 1 + (i : Nat)) u' = if (uniU f (a + 1 + (i : Nat)) (b + 1 + (i : Nat)) u').1 = true then allU (uniU f) m (a + 1 + (i : Nat) + 1) (b + 1 + (i : Nat) + 1) (uniU f (a + 1 + (i : Nat)) (b + 1 + (i : Nat)) u').2 else uniU f (a + 1 + (i : Nat)) (b + 1 + (i : Nat)) u' := rfl
    refine goes_seq ?_
    refine goes_region ?_
    first
      | refine lst_run (run_lss_yes rfl rfl (by omega)) rfl ?_
      | refine lst_run (run_lss_no rfl rfl (by omega)) rfl ?_
      | refine lst_run (rfl) rfl ?_
    refine lst_done ?_
    refine goes_seq ?_
    refine goes_true rfl ?_
    refine goes_skip ?_
    refine goes_seq ?_
    refine goes_block ?_
    refine goes_seq ?_
    refine goes_region ?_
    refine lst_run (run_move (by conv => lhs; whnf)) rfl ?_
    refine lst_run (run_assign (by conv => lhs; whnf)) rfl ?_
    refine lst_done ?_
    refine goes_seq ?_
    refine goes_region ?_
    refine lst_run (run_move (by conv => lhs; whnf)) rfl ?_
    refine lst_run (run_move (by conv => lhs; whnf)) rfl ?_
    refine lst_run (run_add rfl rfl (by omega) (by omega)) rfl ?_
    refine lst_run (run_move (by conv => lhs; whnf)) rfl ?_
    refine lst_run (run_add rfl rfl (by omega) (by omega)) rfl ?_
    refine lst_run (run_move (by conv => lhs; whnf)) rfl ?_
    refine lst_run (run_add rfl rfl (by omega) (by omega)) rfl ?_
    refine lst_run (run_move (by conv => lhs; whnf)) rfl ?_
    refine lst_run (run_add rfl rfl (by omega) (by omega)) rfl ?_
    refine lst_enter (run_call (by kernel_rfl) (args_3 (by conv => lhs; whnf) (by conv => lhs; whnf) (by conv => lhs; whnf))) rfl ?_
    refine Calls.mono (ih M w0 H F ub g c sp (a + 1 + (i : Nat)) (b + 1 + (i : Nat)) u' _ hG' hl' hn hc (by omega) hf hs') ?_
    rintro _ w6 ⟨rfl, hs6⟩
    refine ⟨_, rfl, ?_⟩
    cases hr : (uniU f (a + 1 + (i : Nat)) (b + 1 + (i : Nat)) u').1 with
    | true =>
      refine lst_run (rfl) rfl ?_
      refine lst_done ?_
      refine goes_false rfl ?_
      refine goes_skip ?_
      refine goes_inBlock ?_
      refine goes_region ?_
      refine lst_run (run_add rfl rfl (by omega) (by omega)) rfl ?_
      refine lst_run (run_move (by conv => lhs; whnf)) rfl ?_
      refine lst_done ?_
      refine ihl m _ _ _ ?_ ?_ (by conv => lhs; whnf) (by kernel_rfl)
      · omega
      · have hlt := huu.lt
        refine ⟨i + 1, (uniU f (a + 1 + (i : Nat)) (b + 1 + (i : Nat)) u').2, by omega, by simp, huu.gu, huu.ok hr, by omega, ?_, hs6⟩
        rw [hall, hstep, if_pos hr]
        congr 1 <;> omega
    | false =>
      refine lst_run (rfl) rfl ?_
      refine lst_done ?_
      refine goes_true rfl ?_
      refine goes_seq ?_
      refine goes_region ?_
      refine lst_run (run_assign (by conv => lhs; whnf)) rfl ?_
      refine lst_done ?_
      refine goes_ret1 Try.func89 rfl (by conv => lhs; whnf) ?_
      rw [hall, hstep, if_neg (by rw [hr]; decide), hr]
      exact ⟨rfl, hs6⟩
theorem uni_step (n f : Nat) (ih : ∀ f', f = f' + 1 → UniSaid n f') : UniSaid n f := by
  intro M w0 H F ub g c sp a b u w hG hlg hn hc hkf hf hs
  have hw := hG.wk hlg
  refine goes_enter3 Try.func75 rfl Try.ntmps75 rfl ?_
  refine goes_seq ?_
  refine goes_region ?_
  refine lst_run (run_assign (by conv => lhs; whnf)) rfl ?_
  refine lst_done ?_
  refine goes_seq ?_
  refine goes_region ?_
  refine lst_run (run_move (by conv => lhs; whnf)) rfl ?_
  refine lst_enter (run_call (by kernel_rfl) (args_1 (by conv => lhs; whnf))) rfl ?_
  refine Calls.mono (step_any u _ (by omega) hs) ?_
  rintro _ w2 ⟨rfl, hs2⟩
  refine ⟨_, rfl, ?_⟩
  refine lst_done ?_
  refine goes_seq ?_
  refine goes_region ?_
  refine lst_run (run_move (by conv => lhs; whnf)) rfl ?_
  refine lst_run (run_move (by conv => lhs; whnf)) rfl ?_
  refine lst_enter (run_call (by kernel_rfl) (args_2 (by conv => lhs; whnf) (by conv => lhs; whnf))) rfl ?_
  refine Calls.mono (ulook_any u.step a _ (by rw [hG.step.len]; exact hn) (by rw [hG.step.len]; exact hc) hs2) ?_
  rintro _ w3 ⟨rfl, hs3⟩
  refine ⟨_, rfl, ?_⟩
  have hGa := hG.step.look a
  refine lst_run (run_move (by conv => lhs; whnf)) rfl ?_
  refine lst_run (run_move (by conv => lhs; whnf)) rfl ?_
  refine lst_enter (run_call (by kernel_rfl) (args_2 (by conv => lhs; whnf) (by conv => lhs; whnf))) rfl ?_
  refine Calls.mono (ulook_any (u.step.look a).2 b _ (by rw [hGa.len]; exact hn) (by rw [hGa.len]; exact hc) hs3) ?_
  rintro _ w4 ⟨rfl, hs4⟩
  refine ⟨_, rfl, ?_⟩
  have hwa := look_w u.step a
  have hwb := look_w (u.step.look a).2 b
  have hG2 : GU n ((u.step.look a).2.look b).2 := hGa.look b
  have hw2 : ((u.step.look a).2.look b).2.w = u.w + 1 := by rw [hwb.1, hwa.1]; rfl
  have hcs2 : ((u.step.look a).2.look b).2.cs = u.cs := by rw [hwb.2.1, hwa.2.1]; rfl
  cases hl2 : ((u.step.look a).2.look b).2.lg with
  | true =>
    have e0 : uniU f a b u = (false, ((u.step.look a).2.look b).2) := by
      cases f with
      | zero => rfl
      | succ f => simp only [uniU]; rw [if_pos hl2]
    rw [e0]
    obtain ⟨B, d, O, hrow, hS⟩ := hs4.lgS hl2
    refine lst_run (run_assign (by conv => lhs; whnf)) rfl ?_
    refine lst_run (run_assign (by conv => lhs; whnf)) rfl ?_
    refine lst_done ?_
    refine goes_seq ?_
    refine goes_seq ?_
    refine goes_region ?_
    refine lst_run (run_move (by conv => lhs; whnf)) rfl ?_
    refine lst_run (run_nilCheck rfl) rfl ?_
    refine lst_run (run_fieldAddr (off := 3) rfl rfl) rfl ?_
    first
      | refine lst_run (run_load1_own hS rfl rfl (by first | exact .head | exact .tail .head | exact .tail (.tail .head) | exact .tail (.tail (.tail .head)) | exact .tail (.tail (.tail (.tail .head))) | exact .tail (.tail (.tail (.tail (.tail .head))))) (by repeat constructor)) rfl ?_
      | refine lst_run (run_load1 rfl rfl (by first | assumption | exact (hcx _ hS).1 | exact (hcx _ hS).2.1 | exact (hcx _ hS).2.2 | exact (hcy _ hS).1 | exact (hcy _ hS).2.1 | exact (hcy _ hS).2.2 | exact hS.cell0 (by assumption) | exact lv_next hS | exact lv_list hS)) rfl ?_
    refine lst_done ?_
    refine goes_true rfl ?_
    refine goes_seq ?_
    refine goes_region ?_
    refine lst_run (run_assign (by conv => lhs; whnf)) rfl ?_
    refine lst_done ?_
    refine goes_ret1 Try.func75 rfl (by conv => lhs; whnf) ?_
    exact ⟨rfl, B, d, O, hrow, by rw [hl2]; exact hS⟩
  | false =>
    obtain ⟨hla, hb1, hb2⟩ := look_ok hl2
    obtain ⟨hls, ha1, ha2⟩ := look_ok hla
    obtain ⟨f, rfl⟩ : ∃ f', f = f' + 1 := by
      cases f with
      | succ f => exact ⟨f, rfl⟩
      | zero => rw [step_lg (by omega)] at hls; cases hls
    have ih := ih f rfl
    rw [hwa.2.1] at hb1 hb2
    obtain ⟨x, hx, hxe⟩ := hlook_end ha2
    obtain ⟨y, hy, hye⟩ := hlook_end hb2
    rw [← ha1] at hx hxe
    rw [← hb1] at hy hye
    replace hx : hat u.cs (u.step.look a).1 = some x := hx
    replace hy : hat u.cs ((u.step.look a).2.look b).1 = some y := hy
    obtain ⟨x0, x1, _⟩ := hatS.1 hx
    obtain ⟨y0, y1, _⟩ := hatS.1 hy
    rw [hG.len] at x1 y1
    have htl := hG2.trl
    have e0 : uniU (f + 1) a b u = if x.k = 0 then (if y.k = 0 then (if (u.step.look a).1 = ((u.step.look a).2.look b).1 then (true, ((u.step.look a).2.look b).2) else (true, ((u.step.look a).2.look b).2.bind (max (u.step.look a).1 ((u.step.look a).2.look b).1) (min (u.step.look a).1 ((u.step.look a).2.look b).1))) else asgU (u.step.look a).1 ((u.step.look a).2.look b).1 ((u.step.look a).2.look b).2)
        else if y.k = 0 then asgU ((u.step.look a).2.look b).1 (u.step.look a).1 ((u.step.look a).2.look b).2 else partsU (uniU f) (u.step.look a).1 ((u.step.look a).2.look b).1 ((u.step.look a).2.look b).2 := by
      simp only [uniU]
      rw [if_neg (by rw [hl2]; decide), show kindAt u.cs (u.step.look a).1 = x.k by unfold kindAt; rw [hx], show kindAt u.cs ((u.step.look a).2.look b).1 = y.k by unfold kindAt; rw [hy]]
    rw [e0]
    have hx' : hat ((u.step.look a).2.look b).2.cs (u.step.look a).1 = some x := by rw [hcs2]; exact hx
    have hy' : hat ((u.step.look a).2.look b).2.cs ((u.step.look a).2.look b).1 = some y := by rw [hcs2]; exact hy
    clear hs3 hs2 e0 hwb hb1 ha1 hxe hye hx hy
    generalize ((u.step.look a).2.look b).2 = v at *
    generalize ((u.step.look a).2.look b).1 = q at *
    generalize (u.step.look a).1 = p at *
    obtain ⟨B, d, O, hrow, hS⟩ := hs4.lgS hl2
    refine lst_run (run_assign (by conv => lhs; whnf)) rfl ?_
    refine lst_run (run_assign (by conv => lhs; whnf)) rfl ?_
    refine lst_done ?_
    refine goes_seq ?_
    refine goes_seq ?_
    refine goes_region ?_
    refine lst_run (run_move (by conv => lhs; whnf)) rfl ?_
    refine lst_run (run_nilCheck rfl) rfl ?_
    refine lst_run (run_fieldAddr (off := 3) rfl rfl) rfl ?_
    first
      | refine lst_run (run_load1_own hS rfl rfl (by first | exact .head | exact .tail .head | exact .tail (.tail .head) | exact .tail (.tail (.tail .head)) | exact .tail (.tail (.tail (.tail .head))) | exact .tail (.tail (.tail (.tail (.tail .head))))) (by repeat constructor)) rfl ?_
      | refine lst_run (run_load1 rfl rfl (by first | assumption | exact (hcx _ hS).1 | exact (hcx _ hS).2.1 | exact (hcx _ hS).2.2 | exact (hcy _ hS).1 | exact (hcy _ hS).2.1 | exact (hcy _ hS).2.2 | exact hS.cell0 (by assumption) | exact lv_next hS | exact lv_list hS)) rfl ?_
    refine lst_done ?_
    refine goes_false rfl ?_
    refine goes_skip ?_
    refine goes_seq ?_
    refine goes_region ?_
    refine lst_run (run_move (by conv => lhs; whnf)) rfl ?_
    refine lst_run (run_move (by conv => lhs; whnf)) rfl ?_
    clear hs4
    have hs5 : HUSt M w0 H F ub g c sp v _ := ⟨B, d, O, hrow, by rw [hl2]; exact hS⟩
    clear hrow hS
    refine lst_enter (run_call (by kernel_rfl) (args_2 (by conv => lhs; whnf) (by conv => lhs; whnf))) rfl ?_
    refine Calls.mono (unbound_any v p x _ hx' hs5) ?_
    rintro _ w5 ⟨rfl, hs6⟩
    refine ⟨_, rfl, ?_⟩
    clear hs5
    refine lst_run (run_move (by conv => lhs; whnf)) rfl ?_
    refine lst_run (run_move (by conv => lhs; whnf)) rfl ?_
    refine lst_enter (run_call (by kernel_rfl) (args_2 (by conv => lhs; whnf) (by conv => lhs; whnf))) rfl ?_
    refine Calls.mono (unbound_any v q y _ hy' hs6) ?_
    rintro _ w6 ⟨rfl, hs7⟩
    refine ⟨_, rfl, ?_⟩
    by_cases hxk : x.k = 0
    · rw [if_pos hxk, decide_eq_true hxk]
      by_cases hyk : y.k = 0
      · rw [if_pos hyk, decide_eq_true hyk]
        by_cases hpq : p = q
        · rw [if_pos hpq]
          refine lst_run (run_assign (by conv => lhs; whnf)) rfl ?_
          refine lst_run (run_assign (by conv => lhs; whnf)) rfl ?_
          refine lst_done ?_
          refine goes_seq ?_
          refine goes_block ?_
          refine goes_seq ?_
          refine goes_region ?_
          refine lst_run (run_move (by conv => lhs; whnf)) rfl ?_
          refine lst_run (run_move (by conv => lhs; whnf)) rfl ?_
          refine lst_guard rfl rfl ?_
          refine lst_run (run_move (by conv => lhs; whnf)) rfl ?_
          first
            | refine lst_run (run_pick_t rfl (by conv => lhs; whnf)) rfl ?_
            | refine lst_run (run_pick_f rfl (by conv => lhs; whnf)) rfl ?_
          refine lst_run (run_assign (by conv => lhs; whnf)) rfl ?_
          refine lst_done ?_
          refine goes_true rfl ?_
          refine goes_seq ?_
          refine goes_seq ?_
          refine goes_region ?_
          refine lst_run (run_move (by conv => lhs; whnf)) rfl ?_
          refine lst_run (run_move (by conv => lhs; whnf)) rfl ?_
          first
            | refine lst_run (run_neq_one_int rfl rfl) rfl ?_
            | refine lst_run (run_neq_no rfl rfl (by first | assumption | omega)) rfl ?_
            | refine lst_run (run_neq_yes rfl rfl (by omega)) rfl ?_
            | refine lst_run (rfl) rfl ?_
          refine lst_done ?_
          refine goes_false rfl ?_
          refine goes_skip ?_
          refine goes_seq ?_
          refine goes_region ?_
          refine lst_run (run_assign (by conv => lhs; whnf)) rfl ?_
          refine lst_done ?_
          refine goes_ret1 Try.func75 rfl (by conv => lhs; whnf) ?_
          exact ⟨rfl, hs7⟩
        · rw [if_neg hpq]
          have hbnd := ubind_any (M := M) (w0 := w0) (H := H) (F := F) (ub := ub) (g := g) (c := c) (sp := sp) v (max p q) (min p q)
          have hmx : (if p < q then q else p) = max p q := by omega
          have hmn : (if q < p then q else p) = min p q := by omega
          have hhat : ∃ z, hat v.cs (max p q) = some z := by
            rcases Int.le_total p q with hle | hle
            · rw [Int.max_eq_right hle]; exact ⟨y, hy'⟩
            · rw [Int.max_eq_left hle]; exact ⟨x, hx'⟩
          obtain ⟨z, hz⟩ := hhat
          refine lst_run (run_assign (by conv => lhs; whnf)) rfl ?_
          refine lst_run (run_assign (by conv => lhs; whnf)) rfl ?_
          refine lst_done ?_
          refine goes_seq ?_
          refine goes_block ?_
          refine goes_seq ?_
          refine goes_region ?_
          refine lst_run (run_move (by conv => lhs; whnf)) rfl ?_
          refine lst_run (run_move (by conv => lhs; whnf)) rfl ?_
          refine lst_guard rfl rfl ?_
          refine lst_run (run_move (by conv => lhs; whnf)) rfl ?_
          first
            | refine lst_run (run_pick_t rfl (by conv => lhs; whnf)) rfl ?_
            | refine lst_run (run_pick_f rfl (by conv => lhs; whnf)) rfl ?_
          refine lst_run (run_assign (by conv => lhs; whnf)) rfl ?_
          refine lst_done ?_
          refine goes_true rfl ?_
          refine goes_seq ?_
          refine goes_seq ?_
          refine goes_region ?_
          refine lst_run (run_move (by conv => lhs; whnf)) rfl ?_
          refine lst_run (run_move (by conv => lhs; whnf)) rfl ?_
          first
            | refine lst_run (run_neq_one_int rfl rfl) rfl ?_
            | refine lst_run (run_neq_no rfl rfl (by first | assumption | omega)) rfl ?_
            | refine lst_run (run_neq_yes rfl rfl (by omega)) rfl ?_
            | refine lst_run (rfl) rfl ?_
          refine lst_done ?_
          refine goes_true rfl ?_
          refine goes_region ?_
          refine lst_run (run_move (by conv => lhs; whnf)) rfl ?_
          refine lst_run (run_move (by conv => lhs; whnf)) rfl ?_
          refine lst_run (run_move (by conv => lhs; whnf)) rfl ?_
          refine lst_run (run_max2 rfl rfl hmx.symm) rfl ?_
          refine lst_run (run_move (by conv => lhs; whnf)) rfl ?_
          refine lst_run (run_move (by conv => lhs; whnf)) rfl ?_
          refine lst_run (run_min2 rfl rfl hmn.symm) rfl ?_
          refine lst_enter (run_call (by kernel_rfl) (args_3 (by conv => lhs; whnf) (by conv => lhs; whnf) (by conv => lhs; whnf))) rfl ?_
          refine Calls.mono (hbnd z _ hz (by omega) hs7) ?_
          rintro _ w8 ⟨rfl, hs8⟩
          refine ⟨_, rfl, ?_⟩
          refine lst_done ?_
          refine goes_seq ?_
          refine goes_region ?_
          refine lst_run (run_assign (by conv => lhs; whnf)) rfl ?_
          refine lst_done ?_
          refine goes_ret1 Try.func75 rfl (by conv => lhs; whnf) ?_
          exact ⟨rfl, hs8⟩
      · rw [if_neg hyk, decide_eq_false hyk]
        refine lst_run (run_assign (by conv => lhs; whnf)) rfl ?_
        refine lst_run (run_assign (by conv => lhs; whnf)) rfl ?_
        refine lst_done ?_
        refine goes_seq ?_
        refine goes_block ?_
        refine goes_seq ?_
        refine goes_region ?_
        refine lst_run (run_move (by conv => lhs; whnf)) rfl ?_
        refine lst_run (run_move (by conv => lhs; whnf)) rfl ?_
        refine lst_guard rfl rfl ?_
        refine lst_run (run_move (by conv => lhs; whnf)) rfl ?_
        first
          | refine lst_run (run_pick_t rfl (by conv => lhs; whnf)) rfl ?_
          | refine lst_run (run_pick_f rfl (by conv => lhs; whnf)) rfl ?_
        refine lst_run (run_assign (by conv => lhs; whnf)) rfl ?_
        refine lst_done ?_
        refine goes_false rfl ?_
        refine goes_seq ?_
        refine goes_region ?_
        refine lst_run (run_move (by conv => lhs; whnf)) rfl ?_
        refine lst_run (run_assign (by conv => lhs; whnf)) rfl ?_
        refine lst_done ?_
        refine goes_true rfl ?_
        refine goes_seq ?_
        refine goes_region ?_
        refine lst_run (run_move (by conv => lhs; whnf)) rfl ?_
        refine lst_run (run_move (by conv => lhs; whnf)) rfl ?_
        refine lst_run (run_move (by conv => lhs; whnf)) rfl ?_
        refine lst_enter (run_call (by kernel_rfl) (args_3 (by conv => lhs; whnf) (by conv => lhs; whnf) (by conv => lhs; whnf))) rfl ?_
        refine Calls.mono (assign_any n p q x v _ hG2 hn hc hl2 hx' y0 y1 hs7) ?_
        rintro _ w8 ⟨rfl, hs8⟩
        refine ⟨_, rfl, ?_⟩
        refine lst_run (run_assign (by conv => lhs; whnf)) rfl ?_
        refine lst_done ?_
        refine goes_ret1 Try.func75 rfl (by conv => lhs; whnf) ?_
        exact ⟨rfl, hs8⟩
    · rw [if_neg hxk, decide_eq_false hxk]
      by_cases hyk : y.k = 0
      · rw [if_pos hyk, decide_eq_true hyk]
        refine lst_run (run_assign (by conv => lhs; whnf)) rfl ?_
        refine lst_run (run_assign (by conv => lhs; whnf)) rfl ?_
        refine lst_done ?_
        refine goes_seq ?_
        refine goes_block ?_
        refine goes_seq ?_
        refine goes_region ?_
        refine lst_run (run_move (by conv => lhs; whnf)) rfl ?_
        refine lst_run (run_move (by conv => lhs; whnf)) rfl ?_
        refine lst_pass rfl rfl rfl ?_
        first
          | refine lst_run (run_pick_t rfl (by conv => lhs; whnf)) rfl ?_
          | refine lst_run (run_pick_f rfl (by conv => lhs; whnf)) rfl ?_
        refine lst_run (run_assign (by conv => lhs; whnf)) rfl ?_
        refine lst_done ?_
        refine goes_false rfl ?_
        refine goes_seq ?_
        refine goes_region ?_
        refine lst_run (run_move (by conv => lhs; whnf)) rfl ?_
        refine lst_run (run_assign (by conv => lhs; whnf)) rfl ?_
        refine lst_done ?_
        refine goes_false rfl ?_
        refine goes_seq ?_
        refine goes_region ?_
        refine lst_run (run_move (by conv => lhs; whnf)) rfl ?_
        refine lst_run (run_assign (by conv => lhs; whnf)) rfl ?_
        refine lst_done ?_
        refine goes_true rfl ?_
        refine goes_seq ?_
        refine goes_region ?_
        refine lst_run (run_move (by conv => lhs; whnf)) rfl ?_
        refine lst_run (run_move (by conv => lhs; whnf)) rfl ?_
        refine lst_run (run_move (by conv => lhs; whnf)) rfl ?_
        refine lst_enter (run_call (by kernel_rfl) (args_3 (by conv => lhs; whnf) (by conv => lhs; whnf) (by conv => lhs; whnf))) rfl ?_
        refine Calls.mono (assign_any n q p y v _ hG2 hn hc hl2 hy' x0 x1 hs7) ?_
        rintro _ w8 ⟨rfl, hs8⟩
        refine ⟨_, rfl, ?_⟩
        refine lst_run (run_assign (by conv => lhs; whnf)) rfl ?_
        refine lst_done ?_
        refine goes_ret1 Try.func75 rfl (by conv => lhs; whnf) ?_
        exact ⟨rfl, hs8⟩
      · rw [if_neg hyk, decide_eq_false hyk]
        refine lst_run (run_assign (by conv => lhs; whnf)) rfl ?_
        refine lst_run (run_assign (by conv => lhs; whnf)) rfl ?_
        refine lst_done ?_
        refine goes_seq ?_
        refine goes_block ?_
        refine goes_seq ?_
        refine goes_region ?_
        refine lst_run (run_move (by conv => lhs; whnf)) rfl ?_
        refine lst_run (run_move (by conv => lhs; whnf)) rfl ?_
        refine lst_pass rfl rfl rfl ?_
        first
          | refine lst_run (run_pick_t rfl (by conv => lhs; whnf)) rfl ?_
          | refine lst_run (run_pick_f rfl (by conv => lhs; whnf)) rfl ?_
        refine lst_run (run_assign (by conv => lhs; whnf)) rfl ?_
        refine lst_done ?_
        refine goes_false rfl ?_
        refine goes_seq ?_
        refine goes_region ?_
        refine lst_run (run_move (by conv => lhs; whnf)) rfl ?_
        refine lst_run (run_assign (by conv => lhs; whnf)) rfl ?_
        refine lst_done ?_
        refine goes_false rfl ?_
        refine goes_seq ?_
        refine goes_region ?_
        refine lst_run (run_move (by conv => lhs; whnf)) rfl ?_
        refine lst_run (run_assign (by conv => lhs; whnf)) rfl ?_
        refine lst_done ?_
        refine goes_false rfl ?_
        refine goes_skip ?_
        refine goes_inBlock ?_
        refine goes_seq ?_
        refine goes_region ?_
        refine lst_run (run_move (by conv => lhs; whnf)) rfl ?_
        refine lst_run (run_move (by conv => lhs; whnf)) rfl ?_
        refine lst_run (run_move (by conv => lhs; whnf)) rfl ?_
        refine lst_enter (run_call (by kernel_rfl) (args_3 (by conv => lhs; whnf) (by conv => lhs; whnf) (by conv => lhs; whnf))) rfl ?_
        refine Calls.mono (parts_any n f ih p q x y v _ hG2 hl2 hn hc (by omega) (by omega) hx' hy' hs7) ?_
        rintro _ w8 ⟨rfl, hs8⟩
        refine ⟨_, rfl, ?_⟩
        refine lst_run (run_assign (by conv => lhs; whnf)) rfl ?_
        refine lst_done ?_
        refine goes_ret1 Try.func75 rfl (by conv => lhs; whnf) ?_
        exact ⟨rfl, hs8⟩
theorem uni_said (n : Nat) : ∀ f, UniSaid n f
  | 0 => uni_step n 0 fun f' h => by omega
  | f + 1 => uni_step n (f + 1) fun f' h => by
    obtain rfl : f = f' := by omega
    exact uni_said n f
end
end Go.Proofs.Ytjicoifjgokoiaa
