/- PWalk, Prn, ReadsL, RefM, Cuts: texts that follow one another, laid into one file. -/
import Derived.Test.YtdiophafmokfiaaGreatDoorG1
import Derived.Test.YtdiophafmokfiaaGreatDoorG4
import Derived.Laws.Runes
import Derived.Test.YtdiophafmokfiaaGreatDoorG2
import Derived.Lib.ConvBytes
namespace Go.Proofs.YtdiophafmokfiaaGreatDoor
open Go.RowKit Go.Shelf
set_option linter.unusedVariables false
set_option linter.unusedSimpArgs false
set_option maxRecDepth 100000
set_option maxHeartbeats 1000000

def letterM (n : Int) : Str := if n < 0 ∨ 25 < n then [90, 122] else [UInt8.ofNat (65 + n.toNat)]
def labelM (k n : Int) (s : Str) : Str := if k = 0 then letterM n else if k = 2 then Lib.itoa n else if k = 1 ∨ k = 3 then s else []
theorem enc_letter (n : Int) (h0 : 0 ≤ n) (h1 : n ≤ 25) : Value.string (Utf8.encode (IntKind.i32.wrap (65 + n))) = sv (letterM n) := by
  obtain ⟨m, rfl⟩ : ∃ m : Nat, n = m := ⟨n.toNat, by omega⟩
  have h : ∀ i : Fin 26, Utf8.encode (IntKind.i32.wrap (65 + ((i.val : Nat) : Int))) = ⟨(letterM (i.val : Nat)).toArray⟩ := by decide +kernel
  rw [h ⟨m, by omega⟩]
section
variable {M : List Nat} {w0 : World} {H : List (Nat × Obj)} {F : List (World → Prop)} {b : Nat}
theorem letter_any (n : Int) (w : World) (hn : -9223372036854775808 ≤ n ∧ n ≤ 9223372036854775807) : Calls Tryz.prog 66 #[.int .i64 n] w fun e w' => e = .returned (sv (letterM n)) ∧ w' = w := by
  by_cases h0 : n < 0
  · have e1 : letterM n = [90, 122] := by simp [letterM, h0]
    rw [e1]
    refine goes_enter1 Tryz.func66 rfl Tryz.ntmps66 rfl ?_
    refine goes_seq ?_
    refine goes_region ?_
    refine lst_run (run_assign (by conv => lhs; whnf)) rfl ?_
    refine lst_done ?_
    refine goes_seq ?_
    refine goes_seq ?_
    refine goes_region ?_
    refine lst_run (run_move (by conv => lhs; whnf)) rfl ?_
    first
      | refine lst_run (run_lss_yes rfl rfl (by omega)) rfl ?_
      | refine lst_run (run_lss_no rfl rfl (by omega)) rfl ?_
      | refine lst_run (rfl) rfl ?_
    refine lst_run (run_move (by conv => lhs; whnf)) rfl ?_
    refine lst_pass rfl rfl rfl ?_
    refine lst_pass rfl rfl rfl ?_
    first
      | refine lst_run (run_pick_t rfl (by conv => lhs; whnf)) rfl ?_
      | refine lst_run (run_pick_f rfl (by conv => lhs; whnf)) rfl ?_
    refine lst_done ?_
    refine goes_true rfl ?_
    refine goes_seq ?_
    refine goes_region ?_
    refine lst_run (run_assign (by conv => lhs; whnf)) rfl ?_
    refine lst_done ?_
    refine goes_ret1 Tryz.func66 rfl (by conv => lhs; whnf) ?_
    exact ⟨rfl, rfl⟩
  · by_cases h1 : n > 25
    · have e1 : letterM n = [90, 122] := by simp [letterM]; omega
      rw [e1]
      refine goes_enter1 Tryz.func66 rfl Tryz.ntmps66 rfl ?_
      refine goes_seq ?_
      refine goes_region ?_
      refine lst_run (run_assign (by conv => lhs; whnf)) rfl ?_
      refine lst_done ?_
      refine goes_seq ?_
      refine goes_seq ?_
      refine goes_region ?_
      refine lst_run (run_move (by conv => lhs; whnf)) rfl ?_
      first
        | refine lst_run (run_lss_yes rfl rfl (by omega)) rfl ?_
        | refine lst_run (run_lss_no rfl rfl (by omega)) rfl ?_
        | refine lst_run (rfl) rfl ?_
      refine lst_run (run_move (by conv => lhs; whnf)) rfl ?_
      refine lst_guard rfl rfl ?_
      refine lst_run (run_move (by conv => lhs; whnf)) rfl ?_
      refine lst_guard rfl rfl ?_
      first
        | refine lst_run (run_gtr_yes rfl rfl (by omega)) rfl ?_
        | refine lst_run (run_gtr_no rfl rfl (by omega)) rfl ?_
        | refine lst_run (rfl) rfl ?_
      first
        | refine lst_run (run_pick_t rfl (by conv => lhs; whnf)) rfl ?_
        | refine lst_run (run_pick_f rfl (by conv => lhs; whnf)) rfl ?_
      refine lst_done ?_
      refine goes_true rfl ?_
      refine goes_seq ?_
      refine goes_region ?_
      refine lst_run (run_assign (by conv => lhs; whnf)) rfl ?_
      refine lst_done ?_
      refine goes_ret1 Tryz.func66 rfl (by conv => lhs; whnf) ?_
      exact ⟨rfl, rfl⟩
    · refine goes_enter1 Tryz.func66 rfl Tryz.ntmps66 rfl ?_
      refine goes_seq ?_
      refine goes_region ?_
      refine lst_run (run_assign (by conv => lhs; whnf)) rfl ?_
      refine lst_done ?_
      refine goes_seq ?_
      refine goes_seq ?_
      refine goes_region ?_
      refine lst_run (run_move (by conv => lhs; whnf)) rfl ?_
      first
        | refine lst_run (run_lss_yes rfl rfl (by omega)) rfl ?_
        | refine lst_run (run_lss_no rfl rfl (by omega)) rfl ?_
        | refine lst_run (rfl) rfl ?_
      refine lst_run (run_move (by conv => lhs; whnf)) rfl ?_
      refine lst_guard rfl rfl ?_
      refine lst_run (run_move (by conv => lhs; whnf)) rfl ?_
      refine lst_guard rfl rfl ?_
      first
        | refine lst_run (run_gtr_yes rfl rfl (by omega)) rfl ?_
        | refine lst_run (run_gtr_no rfl rfl (by omega)) rfl ?_
        | refine lst_run (rfl) rfl ?_
      first
        | refine lst_run (run_pick_t rfl (by conv => lhs; whnf)) rfl ?_
        | refine lst_run (run_pick_f rfl (by conv => lhs; whnf)) rfl ?_
      refine lst_done ?_
      refine goes_false rfl ?_
      refine goes_skip ?_
      refine goes_seq ?_
      refine goes_region ?_
      refine lst_run (run_move (by conv => lhs; whnf)) rfl ?_
      refine lst_run (run_add rfl rfl (by omega) (by omega)) rfl ?_
      first
        | refine lst_run (run_convert_u8 rfl rfl rfl) rfl ?_
        | refine lst_run (rfl) rfl ?_
      first
        | refine lst_run (run_convert_u8 rfl rfl rfl) rfl ?_
        | refine lst_run (rfl) rfl ?_
      refine lst_run (run_assign (by conv => lhs; whnf)) rfl ?_
      refine lst_done ?_
      refine goes_ret1 Tryz.func66 rfl (by conv => lhs; whnf) ?_
      exact ⟨by rw [enc_letter n (by omega) (by omega)], rfl⟩
/-- What the printer needs of a number. -/
def ItoaAt (n : Int) (w : World) : Prop := Calls Tryz.prog 67 #[.int .i64 n] w fun e w' => e = .returned (sv (Lib.itoa n)) ∧ Below w.heap.size w w'
theorem itoaAt (n : Int) (w : World) (hn : -9223372036854775808 ≤ n ∧ n ≤ 9223372036854775807) (g : GVars w) : ItoaAt n w := by
  refine Calls.mono (Any.strconv_Itoa Tryz.laysM171 n hn.1 hn.2 w g.tab) ?_
  rintro e w'' ⟨rfl, k, os, rfl⟩
  exact ⟨rfl, grow_below _ _ _⟩
theorem label_any (k n : Int) (s : Str) (v : Value) (w : World) (hn : -9223372036854775808 ≤ n ∧ n ≤ 9223372036854775807) (hG : ∀ w', Ext M w0 w' → GVars w') (hS : St M w0 H F w) :
    Calls Tryz.prog 46 #[.agg #[.int .i64 k, .int .i64 n, sv s, v]] w fun e w' => e = .returned (sv (labelM k n s)) ∧ St M w0 H F w' := by
  by_cases h0 : k = 0
  · subst h0
    rw [show labelM 0 n s = letterM n by simp [labelM]]
    refine goes_enter1 Tryz.func46 rfl Tryz.ntmps46 rfl ?_
    refine goes_seq ?_
    refine goes_region ?_
    refine lst_box hS rfl rfl ?_
    clear hS
    intro b1 wx1 hS
    refine lst_run (run_assign (by conv => lhs; whnf)) rfl ?_
    refine lst_done ?_
    refine goes_seq ?_
    refine goes_seq ?_
    refine goes_region ?_
    refine lst_run (run_fieldAddr (off := 0) rfl rfl) rfl ?_
    first
      | refine lst_run (run_load1_own hS rfl rfl (by first | exact .head | exact .tail .head | exact .tail (.tail .head) | exact .tail (.tail (.tail .head)) | exact .tail (.tail (.tail (.tail .head))) | exact .tail (.tail (.tail (.tail (.tail .head))))) (by repeat constructor)) rfl ?_
      | refine lst_run (run_load1 rfl rfl (by first | assumption | exact hS.cell0 (by assumption) | exact lv_next hS | exact lv_list hS)) rfl ?_
    refine lst_done ?_
    refine goes_block ?_
    refine goes_seq ?_
    refine goes_region ?_
    first
      | refine lst_run (run_eql_one_int rfl rfl) rfl ?_
      | refine lst_run (run_eql_no rfl rfl (by first | assumption | omega)) rfl ?_
      | refine lst_run (run_eql_yes rfl rfl (by omega)) rfl ?_
      | refine lst_run (rfl) rfl ?_
    refine lst_run (run_assign (by conv => lhs; whnf)) rfl ?_
    refine lst_done ?_
    refine goes_true rfl ?_
    refine goes_seq ?_
    refine goes_region ?_
    refine lst_run (run_fieldAddr (off := 1) rfl rfl) rfl ?_
    first
      | refine lst_run (run_load1_own hS rfl rfl (by first | exact .head | exact .tail .head | exact .tail (.tail .head) | exact .tail (.tail (.tail .head)) | exact .tail (.tail (.tail (.tail .head))) | exact .tail (.tail (.tail (.tail (.tail .head))))) (by repeat constructor)) rfl ?_
      | refine lst_run (run_load1 rfl rfl (by first | assumption | exact hS.cell0 (by assumption) | exact lv_next hS | exact lv_list hS)) rfl ?_
    refine lst_enter (run_call (by kernel_rfl) (args_1 (by conv => lhs; whnf))) rfl ?_
    refine Calls.mono (letter_any n _ hn) ?_
    rintro _ w1 ⟨rfl, rfl⟩
    refine ⟨_, rfl, ?_⟩
    refine lst_run (run_assign (by conv => lhs; whnf)) rfl ?_
    refine lst_done ?_
    refine goes_ret1 Tryz.func46 rfl (by conv => lhs; whnf) ?_
    exact ⟨rfl, hS.drop⟩
  by_cases h2 : k = 2
  · subst h2
    rw [show labelM 2 n s = Lib.itoa n by simp [labelM]]
    refine goes_enter1 Tryz.func46 rfl Tryz.ntmps46 rfl ?_
    refine goes_seq ?_
    refine goes_region ?_
    refine lst_box hS rfl rfl ?_
    clear hS
    intro b1 wx1 hS
    refine lst_run (run_assign (by conv => lhs; whnf)) rfl ?_
    refine lst_done ?_
    refine goes_seq ?_
    refine goes_seq ?_
    refine goes_region ?_
    refine lst_run (run_fieldAddr (off := 0) rfl rfl) rfl ?_
    first
      | refine lst_run (run_load1_own hS rfl rfl (by first | exact .head | exact .tail .head | exact .tail (.tail .head) | exact .tail (.tail (.tail .head)) | exact .tail (.tail (.tail (.tail .head))) | exact .tail (.tail (.tail (.tail (.tail .head))))) (by repeat constructor)) rfl ?_
      | refine lst_run (run_load1 rfl rfl (by first | assumption | exact hS.cell0 (by assumption) | exact lv_next hS | exact lv_list hS)) rfl ?_
    refine lst_done ?_
    refine goes_block ?_
    refine goes_seq ?_
    refine goes_region ?_
    first
      | refine lst_run (run_eql_one_int rfl rfl) rfl ?_
      | refine lst_run (run_eql_no rfl rfl (by first | assumption | omega)) rfl ?_
      | refine lst_run (run_eql_yes rfl rfl (by omega)) rfl ?_
      | refine lst_run (rfl) rfl ?_
    refine lst_run (run_assign (by conv => lhs; whnf)) rfl ?_
    refine lst_done ?_
    refine goes_false rfl ?_
    refine goes_seq ?_
    refine goes_region ?_
    first
      | refine lst_run (run_eql_one_int rfl rfl) rfl ?_
      | refine lst_run (run_eql_no rfl rfl (by first | assumption | omega)) rfl ?_
      | refine lst_run (run_eql_yes rfl rfl (by omega)) rfl ?_
      | refine lst_run (rfl) rfl ?_
    refine lst_run (run_assign (by conv => lhs; whnf)) rfl ?_
    refine lst_done ?_
    refine goes_true rfl ?_
    refine goes_seq ?_
    refine goes_region ?_
    refine lst_run (run_fieldAddr (off := 1) rfl rfl) rfl ?_
    first
      | refine lst_run (run_load1_own hS rfl rfl (by first | exact .head | exact .tail .head | exact .tail (.tail .head) | exact .tail (.tail (.tail .head)) | exact .tail (.tail (.tail (.tail .head))) | exact .tail (.tail (.tail (.tail (.tail .head))))) (by repeat constructor)) rfl ?_
      | refine lst_run (run_load1 rfl rfl (by first | assumption | exact hS.cell0 (by assumption) | exact lv_next hS | exact lv_list hS)) rfl ?_
    refine lst_enter (run_call (by kernel_rfl) (args_1 (by conv => lhs; whnf))) rfl ?_
    refine Calls.mono (itoaAt n _ hn (hG _ hS.ext)) ?_
    rintro _ w1 ⟨rfl, hb1⟩
    refine ⟨_, rfl, ?_⟩
    replace hS := hS.grow hb1
    refine lst_run (run_assign (by conv => lhs; whnf)) rfl ?_
    refine lst_done ?_
    refine goes_ret1 Tryz.func46 rfl (by conv => lhs; whnf) ?_
    exact ⟨rfl, hS.drop⟩
  by_cases h1 : k = 1
  · subst h1
    rw [show labelM 1 n s = s by simp [labelM]]
    refine goes_enter1 Tryz.func46 rfl Tryz.ntmps46 rfl ?_
    refine goes_seq ?_
    refine goes_region ?_
    refine lst_box hS rfl rfl ?_
    clear hS
    intro b1 wx1 hS
    refine lst_run (run_assign (by conv => lhs; whnf)) rfl ?_
    refine lst_done ?_
    refine goes_seq ?_
    refine goes_seq ?_
    refine goes_region ?_
    refine lst_run (run_fieldAddr (off := 0) rfl rfl) rfl ?_
    first
      | refine lst_run (run_load1_own hS rfl rfl (by first | exact .head | exact .tail .head | exact .tail (.tail .head) | exact .tail (.tail (.tail .head)) | exact .tail (.tail (.tail (.tail .head))) | exact .tail (.tail (.tail (.tail (.tail .head))))) (by repeat constructor)) rfl ?_
      | refine lst_run (run_load1 rfl rfl (by first | assumption | exact hS.cell0 (by assumption) | exact lv_next hS | exact lv_list hS)) rfl ?_
    refine lst_done ?_
    refine goes_block ?_
    refine goes_seq ?_
    refine goes_region ?_
    first
      | refine lst_run (run_eql_one_int rfl rfl) rfl ?_
      | refine lst_run (run_eql_no rfl rfl (by first | assumption | omega)) rfl ?_
      | refine lst_run (run_eql_yes rfl rfl (by omega)) rfl ?_
      | refine lst_run (rfl) rfl ?_
    refine lst_run (run_assign (by conv => lhs; whnf)) rfl ?_
    refine lst_done ?_
    refine goes_false rfl ?_
    refine goes_seq ?_
    refine goes_region ?_
    first
      | refine lst_run (run_eql_one_int rfl rfl) rfl ?_
      | refine lst_run (run_eql_no rfl rfl (by first | assumption | omega)) rfl ?_
      | refine lst_run (run_eql_yes rfl rfl (by omega)) rfl ?_
      | refine lst_run (rfl) rfl ?_
    refine lst_run (run_assign (by conv => lhs; whnf)) rfl ?_
    refine lst_done ?_
    refine goes_false rfl ?_
    refine goes_seq ?_
    refine goes_seq ?_
    refine goes_region ?_
    first
      | refine lst_run (run_eql_one_int rfl rfl) rfl ?_
      | refine lst_run (run_eql_no rfl rfl (by first | assumption | omega)) rfl ?_
      | refine lst_run (run_eql_yes rfl rfl (by omega)) rfl ?_
      | refine lst_run (rfl) rfl ?_
    refine lst_run (run_assign (by conv => lhs; whnf)) rfl ?_
    refine lst_done ?_
    refine goes_true rfl ?_
    refine goes_skip ?_
    refine goes_true rfl ?_
    refine goes_seq ?_
    refine goes_region ?_
    refine lst_run (run_fieldAddr (off := 2) rfl rfl) rfl ?_
    first
      | refine lst_run (run_load1_own hS rfl rfl (by first | exact .head | exact .tail .head | exact .tail (.tail .head) | exact .tail (.tail (.tail .head)) | exact .tail (.tail (.tail (.tail .head))) | exact .tail (.tail (.tail (.tail (.tail .head))))) (by repeat constructor)) rfl ?_
      | refine lst_run (run_load1 rfl rfl (by first | assumption | exact hS.cell0 (by assumption) | exact lv_next hS | exact lv_list hS)) rfl ?_
    refine lst_run (run_assign (by conv => lhs; whnf)) rfl ?_
    refine lst_done ?_
    refine goes_ret1 Tryz.func46 rfl (by conv => lhs; whnf) ?_
    exact ⟨rfl, hS.drop⟩
  by_cases h3 : k = 3
  · subst h3
    rw [show labelM 3 n s = s by simp [labelM]]
    refine goes_enter1 Tryz.func46 rfl Tryz.ntmps46 rfl ?_
    refine goes_seq ?_
    refine goes_region ?_
    refine lst_box hS rfl rfl ?_
    clear hS
    intro b1 wx1 hS
    refine lst_run (run_assign (by conv => lhs; whnf)) rfl ?_
    refine lst_done ?_
    refine goes_seq ?_
    refine goes_seq ?_
    refine goes_region ?_
    refine lst_run (run_fieldAddr (off := 0) rfl rfl) rfl ?_
    first
      | refine lst_run (run_load1_own hS rfl rfl (by first | exact .head | exact .tail .head | exact .tail (.tail .head) | exact .tail (.tail (.tail .head)) | exact .tail (.tail (.tail (.tail .head))) | exact .tail (.tail (.tail (.tail (.tail .head))))) (by repeat constructor)) rfl ?_
      | refine lst_run (run_load1 rfl rfl (by first | assumption | exact hS.cell0 (by assumption) | exact lv_next hS | exact lv_list hS)) rfl ?_
    refine lst_done ?_
    refine goes_block ?_
    refine goes_seq ?_
    refine goes_region ?_
    first
      | refine lst_run (run_eql_one_int rfl rfl) rfl ?_
      | refine lst_run (run_eql_no rfl rfl (by first | assumption | omega)) rfl ?_
      | refine lst_run (run_eql_yes rfl rfl (by omega)) rfl ?_
      | refine lst_run (rfl) rfl ?_
    refine lst_run (run_assign (by conv => lhs; whnf)) rfl ?_
    refine lst_done ?_
    refine goes_false rfl ?_
    refine goes_seq ?_
    refine goes_region ?_
    first
      | refine lst_run (run_eql_one_int rfl rfl) rfl ?_
      | refine lst_run (run_eql_no rfl rfl (by first | assumption | omega)) rfl ?_
      | refine lst_run (run_eql_yes rfl rfl (by omega)) rfl ?_
      | refine lst_run (rfl) rfl ?_
    refine lst_run (run_assign (by conv => lhs; whnf)) rfl ?_
    refine lst_done ?_
    refine goes_false rfl ?_
    refine goes_seq ?_
    refine goes_seq ?_
    refine goes_region ?_
    first
      | refine lst_run (run_eql_one_int rfl rfl) rfl ?_
      | refine lst_run (run_eql_no rfl rfl (by first | assumption | omega)) rfl ?_
      | refine lst_run (run_eql_yes rfl rfl (by omega)) rfl ?_
      | refine lst_run (rfl) rfl ?_
    refine lst_run (run_assign (by conv => lhs; whnf)) rfl ?_
    refine lst_done ?_
    refine goes_false rfl ?_
    refine goes_region ?_
    first
      | refine lst_run (run_eql_one_int rfl rfl) rfl ?_
      | refine lst_run (run_eql_no rfl rfl (by first | assumption | omega)) rfl ?_
      | refine lst_run (run_eql_yes rfl rfl (by omega)) rfl ?_
      | refine lst_run (rfl) rfl ?_
    refine lst_run (run_assign (by conv => lhs; whnf)) rfl ?_
    refine lst_done ?_
    refine goes_true rfl ?_
    refine goes_seq ?_
    refine goes_region ?_
    refine lst_run (run_fieldAddr (off := 2) rfl rfl) rfl ?_
    first
      | refine lst_run (run_load1_own hS rfl rfl (by first | exact .head | exact .tail .head | exact .tail (.tail .head) | exact .tail (.tail (.tail .head)) | exact .tail (.tail (.tail (.tail .head))) | exact .tail (.tail (.tail (.tail (.tail .head))))) (by repeat constructor)) rfl ?_
      | refine lst_run (run_load1 rfl rfl (by first | assumption | exact hS.cell0 (by assumption) | exact lv_next hS | exact lv_list hS)) rfl ?_
    refine lst_run (run_assign (by conv => lhs; whnf)) rfl ?_
    refine lst_done ?_
    refine goes_ret1 Tryz.func46 rfl (by conv => lhs; whnf) ?_
    exact ⟨rfl, hS.drop⟩
  rw [show labelM k n s = [] by simp [labelM, h0, h1, h2, h3]]
  refine goes_enter1 Tryz.func46 rfl Tryz.ntmps46 rfl ?_
  refine goes_seq ?_
  refine goes_region ?_
  refine lst_box hS rfl rfl ?_
  clear hS
  intro b1 wx1 hS
  refine lst_run (run_assign (by conv => lhs; whnf)) rfl ?_
  refine lst_done ?_
  refine goes_seq ?_
  refine goes_seq ?_
  refine goes_region ?_
  refine lst_run (run_fieldAddr (off := 0) rfl rfl) rfl ?_
  first
    | refine lst_run (run_load1_own hS rfl rfl (by first | exact .head | exact .tail .head | exact .tail (.tail .head) | exact .tail (.tail (.tail .head)) | exact .tail (.tail (.tail (.tail .head))) | exact .tail (.tail (.tail (.tail (.tail .head))))) (by repeat constructor)) rfl ?_
    | refine lst_run (run_load1 rfl rfl (by first | assumption | exact hS.cell0 (by assumption) | exact lv_next hS | exact lv_list hS)) rfl ?_
  refine lst_done ?_
  refine goes_block ?_
  refine goes_seq ?_
  refine goes_region ?_
  first
    | refine lst_run (run_eql_one_int rfl rfl) rfl ?_
    | refine lst_run (run_eql_no rfl rfl (by first | assumption | omega)) rfl ?_
    | refine lst_run (run_eql_yes rfl rfl (by omega)) rfl ?_
    | refine lst_run (rfl) rfl ?_
  refine lst_run (run_assign (by conv => lhs; whnf)) rfl ?_
  refine lst_done ?_
  refine goes_false rfl ?_
  refine goes_seq ?_
  refine goes_region ?_
  first
    | refine lst_run (run_eql_one_int rfl rfl) rfl ?_
    | refine lst_run (run_eql_no rfl rfl (by first | assumption | omega)) rfl ?_
    | refine lst_run (run_eql_yes rfl rfl (by omega)) rfl ?_
    | refine lst_run (rfl) rfl ?_
  refine lst_run (run_assign (by conv => lhs; whnf)) rfl ?_
  refine lst_done ?_
  refine goes_false rfl ?_
  refine goes_seq ?_
  refine goes_seq ?_
  refine goes_region ?_
  first
    | refine lst_run (run_eql_one_int rfl rfl) rfl ?_
    | refine lst_run (run_eql_no rfl rfl (by first | assumption | omega)) rfl ?_
    | refine lst_run (run_eql_yes rfl rfl (by omega)) rfl ?_
    | refine lst_run (rfl) rfl ?_
  refine lst_run (run_assign (by conv => lhs; whnf)) rfl ?_
  refine lst_done ?_
  refine goes_false rfl ?_
  refine goes_region ?_
  first
    | refine lst_run (run_eql_one_int rfl rfl) rfl ?_
    | refine lst_run (run_eql_no rfl rfl (by first | assumption | omega)) rfl ?_
    | refine lst_run (run_eql_yes rfl rfl (by omega)) rfl ?_
    | refine lst_run (rfl) rfl ?_
  refine lst_run (run_assign (by conv => lhs; whnf)) rfl ?_
  refine lst_done ?_
  refine goes_false rfl ?_
  refine goes_skip ?_
  refine goes_inBlock ?_
  refine goes_seq ?_
  refine goes_region ?_
  refine lst_run (run_assign (by conv => lhs; whnf)) rfl ?_
  refine lst_done ?_
  refine goes_ret1 Tryz.func46 rfl (by conv => lhs; whnf) ?_
  exact ⟨rfl, hS.drop⟩
/-- What is open: a list of arguments, and how many of them are begun. -/
structure Lv where
  v : Value
  T : Ts
  i : Nat
def lvs (L : List Lv) : List Value := L.flatMap fun x => [x.v, .int .i64 (x.i : Nat)]
theorem lvs_app (L L' : List Lv) : lvs (L ++ L') = lvs L ++ lvs L' := by simp [lvs]
theorem lvs_len (L : List Lv) : (lvs L).length = L.length * 2 := by
  induction L with
  | nil => rfl
  | cons x L ih => simp [lvs] at ih ⊢; omega
abbrev Opn (L : List Lv) (V : Value) (O : List (Nat × Obj)) : Prop := Row 83 2 V L.length (lvs L) O
def opens (k : Int) (T : Ts) : Bool := goalB k && decide (0 < T.length)
theorem begin_any (p B V : Value) (l s : Str) (k n : Int) (T : Ts) (L : List Lv) (O O2 : List (Nat × Obj)) (v : Value) (w : World) (hp : Fresh b p) (hB : Buf l B O) (hV : Opn L V O2) (hn : -9223372036854775808 ≤ n ∧ n ≤ 9223372036854775807)
    (hG : ∀ w', Ext M w0 w' → GVars w') (hv : Sl w (fun _ => True) v T) (hl : l.length + (labelM k n s).length + 1 ≤ 1099511627776) (hL : L.length + 1 ≤ 1099511627776) (hS : St M w0 ((b, prn p B V) :: (O ++ (O2 ++ H))) F w) :
    Calls Tryz.prog 28 #[pptr b, .agg #[.int .i64 k, .int .i64 n, sv s, v]] w fun e w' => ∃ B' V' O' O2', e = .returned (.tuple #[]) ∧ Buf (l ++ labelM k n s ++ if opens k T then [40] else []) B' O' ∧ Opn (if opens k T then L ++ [⟨v, T, 0⟩] else L) V' O2' ∧
      St M w0 ((b, prn (pptr b) B' V') :: (O' ++ (O2' ++ H))) F w' := by
  obtain ⟨A, c, rfl, _⟩ := hv.form
  clear hv
  obtain ⟨A2, c2, rfl⟩ := hV.form
  obtain ⟨A1, c1, rfl⟩ := hB.form
  refine goes_enter2 Tryz.func28 rfl Tryz.ntmps28 rfl ?_
  refine goes_seq ?_
  refine goes_region ?_
  refine lst_box hS rfl rfl ?_
  clear hS
  intro b1 wx1 hS
  refine lst_done ?_
  refine goes_seq ?_
  refine goes_draw (St _ w0 [_] _) 6 ((0, true) :: (1, true) :: (2, true) :: (3, true) :: (4, false) :: (5, false) :: []) (by kernel_rfl) (by kernel_rfl) (hS.drew.only1) ?_
  replace hS := hS.drew
  refine ord_read rfl (fun _ hS => run_move (by conv => lhs; whnf)) rfl ?_
  refine ord_read rfl (fun _ hS => run_nilCheck rfl) rfl ?_
  refine ord_read rfl (fun _ hS => run_fieldAddr (off := 0) rfl rfl) rfl ?_
  first
    | refine ord_read rfl (fun _ hS => run_loadN_own (k := 4) hS rfl rfl rfl (by first | exact .head | exact .tail .head | exact .tail (.tail .head) | exact .tail (.tail (.tail .head)) | exact .tail (.tail (.tail (.tail .head))) | exact .tail (.tail (.tail (.tail (.tail .head))))) (by repeat constructor)) rfl ?_
    | refine ord_read rfl (fun _ hS => run_load4 rfl rfl rfl (by first | assumption | exact hS.cell0 (by assumption)) (by first | assumption | exact hS.cell0 (by assumption)) (by first | assumption | exact hS.cell0 (by assumption)) (by first | assumption | exact hS.cell0 (by assumption))) rfl ?_
  refine ord_act rfl ?_
  refine lst_enter (run_call (by kernel_rfl) (args_1 (by conv => lhs; whnf))) rfl ?_
  refine Calls.mono (label_any k n s _ _ hn hG hS) ?_
  rintro _ w1 ⟨rfl, hS'⟩
  refine ⟨_, rfl, ?_⟩
  replace hS := hS'
  clear hS'
  refine lst_ord (by first | exact hS.only1 | exact hS.drop.only1 | exact hS.unlearn.only1 | exact hS.unlearn.drop.only1) ?_
  refine ord_act rfl ?_
  refine lst_enter (run_call (by kernel_rfl) (args_2 (by conv => lhs; whnf) (by conv => lhs; whnf))) rfl ?_
  refine Calls.mono (writeString_any p _ _ l _ O A2 _ c2 rfl _ hp hB (by omega) hS.sink1) ?_
  rintro _ w2 ⟨B', O', rfl, hB', hS'⟩
  refine ⟨_, rfl, ?_⟩
  replace hS := hS'
  clear hS'
  replace hS := hS.raise1
  refine lst_ord (by first | exact hS.only1 | exact hS.drop.only1 | exact hS.unlearn.only1 | exact hS.unlearn.drop.only1) ?_
  refine ord_end ?_
  refine lst_done ?_
  refine goes_seq ?_
  refine goes_region ?_
  first
    | refine lst_run (run_loadN_own (k := 4) hS rfl rfl rfl (by first | exact .head | exact .tail .head | exact .tail (.tail .head) | exact .tail (.tail (.tail .head)) | exact .tail (.tail (.tail (.tail .head))) | exact .tail (.tail (.tail (.tail (.tail .head))))) (by repeat constructor)) rfl ?_
    | refine lst_run (run_load4 rfl rfl rfl (by first | assumption | exact hS.cell0 (by assumption)) (by first | assumption | exact hS.cell0 (by assumption)) (by first | assumption | exact hS.cell0 (by assumption)) (by first | assumption | exact hS.cell0 (by assumption))) rfl ?_
  refine lst_enter (run_call (by kernel_rfl) (args_1 (by conv => lhs; whnf))) rfl ?_
  refine Calls.mono (goal_any k n ⟨s.toArray⟩ _ _) ?_
  rintro _ w3 ⟨rfl, hb3⟩
  refine ⟨_, rfl, ?_⟩
  replace hS := hS.grow hb3
  refine lst_run (run_move (by conv => lhs; whnf)) rfl ?_
  generalize hg : goalB k = g
  cases g with
  | false =>
    have e1 : opens k T = false := by simp [opens, hg]
    refine lst_pass rfl rfl rfl ?_
    refine lst_pass rfl rfl rfl ?_
    refine lst_pass rfl rfl rfl ?_
    refine lst_pass rfl rfl rfl ?_
    first
      | refine lst_run (run_pick_t rfl (by conv => lhs; whnf)) rfl ?_
      | refine lst_run (run_pick_f rfl (by conv => lhs; whnf)) rfl ?_
    refine lst_done ?_
    refine goes_false rfl ?_
    refine goes_skip ?_
    refine goes_end0 Tryz.func28 rfl ?_
    exact ⟨_, _, O', O2, rfl, by rw [e1, if_neg (by simp), List.append_nil]; exact hB', by rw [e1, if_neg (by simp)]; exact hV, hS.drop⟩
  | true =>
    by_cases hT : 0 < T.length
    · have e1 : opens k T = true := by simp [opens, hg, hT]
      refine lst_guard rfl rfl ?_
      refine lst_run (run_fieldAddr (off := 3) rfl rfl) rfl ?_
      refine lst_guard rfl rfl ?_
      first
        | refine lst_run (run_load1_own hS rfl rfl (by first | exact .head | exact .tail .head | exact .tail (.tail .head) | exact .tail (.tail (.tail .head)) | exact .tail (.tail (.tail (.tail .head))) | exact .tail (.tail (.tail (.tail (.tail .head))))) (by repeat constructor)) rfl ?_
        | refine lst_run (run_load1 rfl rfl (by first | assumption | exact hS.cell0 (by assumption) | exact lv_next hS | exact lv_list hS)) rfl ?_
      refine lst_guard rfl rfl ?_
      refine lst_run (run_len_slice rfl rfl rfl) rfl ?_
      refine lst_guard rfl rfl ?_
      first
        | refine lst_run (run_gtr_yes rfl rfl (by omega)) rfl ?_
        | refine lst_run (run_gtr_no rfl rfl (by omega)) rfl ?_
        | refine lst_run (rfl) rfl ?_
      first
        | refine lst_run (run_pick_t rfl (by conv => lhs; whnf)) rfl ?_
        | refine lst_run (run_pick_f rfl (by conv => lhs; whnf)) rfl ?_
      refine lst_done ?_
      refine goes_true rfl ?_
      refine goes_seq ?_
      refine goes_region ?_
      refine lst_run (run_move (by conv => lhs; whnf)) rfl ?_
      refine lst_run (run_nilCheck rfl) rfl ?_
      refine lst_run (run_fieldAddr (off := 0) rfl rfl) rfl ?_
      refine lst_enter (run_call (by kernel_rfl) (args_2 (by conv => lhs; whnf) (by conv => lhs; whnf))) rfl ?_
      refine Calls.mono (writeByte_any (pptr b) _ _ _ 40 O' A2 _ c2 rfl _ (.inr rfl) hB' (by simp; omega) hS.sink1) ?_
      rintro _ w4 ⟨B2, O3, rfl, hB2, hS'⟩
      refine ⟨_, rfl, ?_⟩
      replace hS := hS'
      clear hS'
      replace hS := hS.raise1
      refine lst_done ?_
      refine goes_draw (St _ w0 [_, _] _) 12 ((0, true) :: (1, true) :: (2, true) :: (3, true) :: (4, true) :: (5, true) :: (6, true) :: (7, true) :: (8, false) :: (9, false) :: (10, true) :: (11, true) :: []) (by kernel_rfl) (by kernel_rfl) (hS.drew.only2) ?_
      replace hS := hS.drew
      refine ord_read rfl (fun _ hS => run_move (by conv => lhs; whnf)) rfl ?_
      refine ord_read rfl (fun _ hS => run_move (by conv => lhs; whnf)) rfl ?_
      refine ord_read rfl (fun _ hS => run_nilCheck rfl) rfl ?_
      refine ord_read rfl (fun _ hS => run_fieldAddr (off := 2) rfl rfl) rfl ?_
      first
        | refine ord_read rfl (fun _ hS => run_load1_own hS rfl rfl (by first | exact .head | exact .tail .head | exact .tail (.tail .head) | exact .tail (.tail (.tail .head)) | exact .tail (.tail (.tail (.tail .head))) | exact .tail (.tail (.tail (.tail (.tail .head))))) (by repeat constructor)) rfl ?_
        | refine ord_read rfl (fun _ hS => run_load1 rfl rfl (by first | assumption | exact hS.cell0 (by assumption) | exact lv_next hS | exact lv_list hS)) rfl ?_
      refine ord_read rfl (fun _ hS => run_fieldAddr (off := 3) rfl rfl) rfl ?_
      first
        | refine ord_read rfl (fun _ hS => run_load1_own hS rfl rfl (by first | exact .head | exact .tail .head | exact .tail (.tail .head) | exact .tail (.tail (.tail .head)) | exact .tail (.tail (.tail (.tail .head))) | exact .tail (.tail (.tail (.tail (.tail .head))))) (by repeat constructor)) rfl ?_
        | refine ord_read rfl (fun _ hS => run_load1 rfl rfl (by first | assumption | exact hS.cell0 (by assumption) | exact lv_next hS | exact lv_list hS)) rfl ?_
      refine ord_read rfl (fun _ hS => run_build (cells := [_, _]) (.cons (by conv => lhs; whnf) .nil) rfl) rfl ?_
      refine ord_act rfl ?_
      refine lst_buildSlice (cells := [_, _]) hS (.cons (by conv => lhs; whnf) .nil) rfl rfl ?_
      clear hS
      intro b2 wx2 hS
      refine lst_ord (by first | exact hS.only2 | exact hS.drop.only2 | exact hS.unlearn.only2 | exact hS.unlearn.drop.only2) ?_
      refine ord_act rfl ?_
      refine lst_app (sz := 2) (bts := 32) hS (by conv => lhs; whnf) rfl rfl rfl rfl (hV) rfl rfl (.cons _ (List.perm_append_comm_assoc (_ :: _ :: O3) O2 H)) (by omega) (by omega) rfl ?_
      clear hS
      intro V2 O4 w5 hV2 hS
      replace hS := hS.perm (List.perm_append_comm_assoc O4 (_ :: _ :: O3) H)
      obtain ⟨A3, c3, rfl⟩ := hV2.form
      refine lst_ord (by first | exact hS.only2 | exact hS.drop.only2 | exact hS.unlearn.only2 | exact hS.unlearn.drop.only2) ?_
      refine ord_read rfl (fun _ hS => run_nilCheck rfl) rfl ?_
      refine ord_read rfl (fun _ hS => run_fieldAddr (off := 2) rfl rfl) rfl ?_
      refine ord_end ?_
      refine lst_store1 hS rfl (by conv => lhs; whnf) rfl rfl (by first | exact .head | exact .tail .head | exact .tail (.tail .head) | exact .tail (.tail (.tail .head)) | exact .tail (.tail (.tail (.tail .head))) | exact .tail (.tail (.tail (.tail (.tail .head))))) (by repeat constructor) (by first | exact .head | exact .tail .head | exact .tail (.tail .head) | exact .tail (.tail (.tail .head)) | exact .tail (.tail (.tail (.tail .head))) | exact .tail (.tail (.tail (.tail (.tail .head))))) ?_
      clear hS
      intro wx3 hS
      refine lst_done ?_
      refine goes_end0 Tryz.func28 rfl ?_
      exact ⟨_, _, O3, O4, rfl, by rw [e1, if_pos rfl]; exact hB2, by rw [e1, if_pos rfl]; show Row _ _ _ (L ++ [_]).length (lvs (L ++ [_])) _; rw [List.length_append, lvs_app]; exact hV2, hS.drop⟩
    · have e1 : opens k T = false := by simp [opens, hT]
      refine lst_guard rfl rfl ?_
      refine lst_run (run_fieldAddr (off := 3) rfl rfl) rfl ?_
      refine lst_guard rfl rfl ?_
      first
        | refine lst_run (run_load1_own hS rfl rfl (by first | exact .head | exact .tail .head | exact .tail (.tail .head) | exact .tail (.tail (.tail .head)) | exact .tail (.tail (.tail (.tail .head))) | exact .tail (.tail (.tail (.tail (.tail .head))))) (by repeat constructor)) rfl ?_
        | refine lst_run (run_load1 rfl rfl (by first | assumption | exact hS.cell0 (by assumption) | exact lv_next hS | exact lv_list hS)) rfl ?_
      refine lst_guard rfl rfl ?_
      refine lst_run (run_len_slice rfl rfl rfl) rfl ?_
      refine lst_guard rfl rfl ?_
      first
        | refine lst_run (run_gtr_yes rfl rfl (by omega)) rfl ?_
        | refine lst_run (run_gtr_no rfl rfl (by omega)) rfl ?_
        | refine lst_run (rfl) rfl ?_
      first
        | refine lst_run (run_pick_t rfl (by conv => lhs; whnf)) rfl ?_
        | refine lst_run (run_pick_f rfl (by conv => lhs; whnf)) rfl ?_
      refine lst_done ?_
      refine goes_false rfl ?_
      refine goes_skip ?_
      refine goes_end0 Tryz.func28 rfl ?_
      exact ⟨_, _, O', O2, rfl, by rw [e1, if_neg (by simp), List.append_nil]; exact hB', by rw [e1, if_neg (by simp)]; exact hV, hS.drop⟩
theorem lv_off (L0 : List Lv) : 0 + ((((L0.length + 1 : Nat) : Int)) - 1).toNat * 2 = (lvs L0).length := by rw [lvs_len]; omega
theorem lv_list {g : Nat} {ct : TypeId} {w : World} {L0 : List Lv} {v i : Value} {sp : List Value} (hS : St M w0 ((g, .cells (lvs L0 ++ v :: i :: sp).toArray ct) :: H) F w) : w.cell? ⟨g, 0 + ((((L0.length + 1 : Nat) : Int)) - 1).toNat * 2, none⟩ = some v := by
  rw [lv_off, cell_own (hS.at_ .head)]
  simp
theorem lv_next {g : Nat} {ct : TypeId} {w : World} {L0 : List Lv} {v i : Value} {sp : List Value} (hS : St M w0 ((g, .cells (lvs L0 ++ v :: i :: sp).toArray ct) :: H) F w) : w.cell? ⟨g, 0 + ((((L0.length + 1 : Nat) : Int)) - 1).toNat * 2 + 1, none⟩ = some i := by
  rw [lv_off, cell_own (hS.at_ .head)]
  simp
theorem Put.at_ {i v u : Value} {sp : List Value} : ∀ (l : List Value), Put (l ++ v :: i :: sp) (l.length + 1) u (l ++ v :: u :: sp)
  | [] => .s .z
  | x :: l => .s (Put.at_ l)
theorem put_lv {v i u : Value} {sp : List Value} (L0 : List Lv) : Put (lvs L0 ++ v :: i :: sp) (0 + ((((L0.length + 1 : Nat) : Int)) - 1).toNat * 2 + 1) u (lvs L0 ++ v :: u :: sp) := by
  rw [lv_off]; exact Put.at_ _
theorem Opn.top {L0 : List Lv} {v V : Value} {T : Ts} {i : Nat} {O2 : List (Nat × Obj)} (h : Opn (L0 ++ [⟨v, T, i⟩]) V O2) : ∃ g cap sp, V = .slice (some ⟨g, 0, none⟩) (L0.length + 1) cap ∧ O2 = [(g, .cells (lvs L0 ++ v :: .int .i64 (i : Nat) :: sp).toArray 83)] ∧ L0.length + 1 ≤ cap ∧
    (∀ j : Nat, Opn (L0 ++ [⟨v, T, j⟩]) V [(g, .cells (lvs L0 ++ v :: .int .i64 (j : Nat) :: sp).toArray 83)]) ∧ Opn L0 (.slice (some ⟨g, 0, none⟩) L0.length cap) O2 := by
  have h' : Row 83 2 V (L0.length + 1) (lvs L0 ++ [v, .int .i64 (i : Nat)]) O2 := by
    have := h; unfold Opn at this; rw [List.length_append, lvs_app] at this; exact this
  clear h
  generalize hn : L0.length + 1 = nn at h'
  generalize hx : lvs L0 ++ [v, .int .i64 (i : Nat)] = xs at h'
  cases h' with
  | nil_ => omega
  | own_ h1 h2 h3 h4 =>
    rename_i g cap sp
    subst hx
    have hl := lvs_len L0
    refine ⟨g, cap, sp, by first | rfl | rw [hn], by simp, h3, fun j => ?_, ?_⟩
    · have : Row 83 2 (.slice (some ⟨g, 0, none⟩) nn cap) nn (lvs L0 ++ [v, .int .i64 (j : Nat)]) [(g, .cells ((lvs L0 ++ [v, .int .i64 (j : Nat)]) ++ sp).toArray 83)] := .own_ (by simp; omega) (by simp at h2 ⊢; omega) h3 h4
      show Row _ _ _ (L0 ++ [_]).length (lvs (L0 ++ [_])) _
      rw [List.length_append, lvs_app, show L0.length + [Lv.mk v T j].length = nn from hn]
      simpa [lvs] using this
    · have : Row 83 2 (.slice (some ⟨g, 0, none⟩) L0.length cap) L0.length (lvs L0) [(g, .cells (lvs L0 ++ (v :: .int .i64 (i : Nat) :: sp)).toArray 83)] := .own_ hl (by simp at h2 ⊢; omega) (by omega) h4
      simpa using this
theorem step_close (B V v : Value) (l : Str) (T : Ts) (L0 : List Lv) (O O2 : List (Nat × Obj)) (A : Option Addr) (c : Nat) (w : World) (hB : Buf l B O) (hV : Opn (L0 ++ [⟨v, T, T.length⟩]) V O2) (hv : v = .slice A T.length c) (hl : l.length + 1 ≤ 1099511627776) (hL : L0.length + 1 ≤ 1099511627776)
    (hS : St M w0 ((b, prn (pptr b) B V) :: (O ++ (O2 ++ H))) F w) :
    Calls Tryz.prog 29 #[pptr b] w fun e w' => ∃ B' V' O', e = .returned (.tuple #[]) ∧ Buf (l ++ [41]) B' O' ∧ Opn L0 V' O2 ∧ St M w0 ((b, prn (pptr b) B' V') :: (O' ++ (O2 ++ H))) F w' := by
  subst hv
  obtain ⟨g, cap, sp, rfl, rfl, hcap, _, hV0⟩ := hV.top
  obtain ⟨A1, c1, rfl⟩ := hB.form
  replace hS := St.raise1 hS
  refine goes_enter1 Tryz.func29 rfl Tryz.ntmps29 rfl ?_
  refine goes_seq ?_
  refine goes_region ?_
  refine lst_run (run_move (by conv => lhs; whnf)) rfl ?_
  refine lst_run (run_nilCheck rfl) rfl ?_
  refine lst_run (run_fieldAddr (off := 2) rfl rfl) rfl ?_
  first
    | refine lst_run (run_load1_own hS rfl rfl (by first | exact .head | exact .tail .head | exact .tail (.tail .head) | exact .tail (.tail (.tail .head)) | exact .tail (.tail (.tail (.tail .head))) | exact .tail (.tail (.tail (.tail (.tail .head))))) (by repeat constructor)) rfl ?_
    | refine lst_run (run_load1 rfl rfl (by first | assumption | exact hS.cell0 (by assumption) | exact lv_next hS | exact lv_list hS)) rfl ?_
  refine lst_run (run_len_slice rfl rfl rfl) rfl ?_
  first
    | refine lst_run (run_sub rfl rfl (by omega) (by omega)) rfl ?_
    | refine lst_run (run_sub_u8 rfl rfl) rfl ?_
  refine lst_run (run_assign (by conv => lhs; whnf)) rfl ?_
  refine lst_done ?_
  refine goes_seq ?_
  refine goes_region ?_
  refine lst_run (run_move (by conv => lhs; whnf)) rfl ?_
  refine lst_run (run_nilCheck rfl) rfl ?_
  refine lst_run (run_fieldAddr (off := 2) rfl rfl) rfl ?_
  first
    | refine lst_run (run_load1_own hS rfl rfl (by first | exact .head | exact .tail .head | exact .tail (.tail .head) | exact .tail (.tail (.tail .head)) | exact .tail (.tail (.tail (.tail .head))) | exact .tail (.tail (.tail (.tail (.tail .head))))) (by repeat constructor)) rfl ?_
    | refine lst_run (run_load1 rfl rfl (by first | assumption | exact hS.cell0 (by assumption) | exact lv_next hS | exact lv_list hS)) rfl ?_
  refine lst_run (run_move (by conv => lhs; whnf)) rfl ?_
  refine lst_run (run_indexAddr (sz := 2) rfl rfl rfl rfl (by omega) (by omega)) rfl ?_
  refine lst_run (run_assign (by conv => lhs; whnf)) rfl ?_
  refine lst_done ?_
  refine goes_seq ?_
  refine goes_seq ?_
  refine goes_draw (St _ w0 [_] _) 10 ((0, true) :: (1, true) :: (2, true) :: (3, true) :: (4, true) :: (5, true) :: (6, true) :: (7, true) :: (8, true) :: (9, true) :: []) (by kernel_rfl) (by kernel_rfl) (hS.drew.only1) ?_
  replace hS := hS.drew
  refine ord_read rfl (fun _ hS => run_move (by conv => lhs; whnf)) rfl ?_
  refine ord_read rfl (fun _ hS => run_nilCheck rfl) rfl ?_
  refine ord_read rfl (fun _ hS => run_fieldAddr (off := 1) rfl rfl) rfl ?_
  first
    | refine ord_read rfl (fun _ hS => run_load1_own hS rfl rfl (by first | exact .head | exact .tail .head | exact .tail (.tail .head) | exact .tail (.tail (.tail .head)) | exact .tail (.tail (.tail (.tail .head))) | exact .tail (.tail (.tail (.tail (.tail .head))))) (by repeat constructor)) rfl ?_
    | refine ord_read rfl (fun _ hS => run_load1 rfl rfl (by first | assumption | exact hS.cell0 (by assumption) | exact lv_next hS | exact lv_list hS)) rfl ?_
  refine ord_read rfl (fun _ hS => run_move (by conv => lhs; whnf)) rfl ?_
  refine ord_read rfl (fun _ hS => run_nilCheck rfl) rfl ?_
  refine ord_read rfl (fun _ hS => run_fieldAddr (off := 0) rfl rfl) rfl ?_
  first
    | refine ord_read rfl (fun _ hS => run_load1_own hS rfl rfl (by first | exact .head | exact .tail .head | exact .tail (.tail .head) | exact .tail (.tail (.tail .head)) | exact .tail (.tail (.tail (.tail .head))) | exact .tail (.tail (.tail (.tail (.tail .head))))) (by repeat constructor)) rfl ?_
    | refine ord_read rfl (fun _ hS => run_load1 rfl rfl (by first | assumption | exact hS.cell0 (by assumption) | exact lv_next hS | exact lv_list hS)) rfl ?_
  refine ord_read rfl (fun _ hS => run_len_slice rfl rfl rfl) rfl ?_
  first
    | refine ord_read rfl (fun _ hS => run_eql_one_int rfl rfl) rfl ?_
    | refine ord_read rfl (fun _ hS => run_eql_no rfl rfl (by first | assumption | omega)) rfl ?_
    | refine ord_read rfl (fun _ hS => run_eql_yes rfl rfl (by omega)) rfl ?_
    | refine ord_read rfl (fun _ hS => rfl) rfl ?_
  refine ord_end ?_
  refine lst_done ?_
  refine goes_true rfl ?_
  refine goes_seq ?_
  refine goes_region ?_
  refine lst_run (run_move (by conv => lhs; whnf)) rfl ?_
  refine lst_run (run_nilCheck rfl) rfl ?_
  refine lst_run (run_fieldAddr (off := 0) rfl rfl) rfl ?_
  refine lst_enter (run_call (by kernel_rfl) (args_2 (by conv => lhs; whnf) (by conv => lhs; whnf))) rfl ?_
  refine Calls.mono (writeByte_any (pptr b) _ _ l 41 O _ _ _ rfl _ (.inr rfl) hB (by omega) hS.sink1) ?_
  rintro _ w4 ⟨B2, O3, rfl, hB2, hS'⟩
  refine ⟨_, rfl, ?_⟩
  replace hS := hS'
  clear hS'
  replace hS := hS.raise1
  refine lst_done ?_
  refine goes_seq ?_
  refine goes_region ?_
  refine lst_run (run_move (by conv => lhs; whnf)) rfl ?_
  refine lst_run (run_move (by conv => lhs; whnf)) rfl ?_
  refine lst_run (run_nilCheck rfl) rfl ?_
  refine lst_run (run_fieldAddr (off := 2) rfl rfl) rfl ?_
  first
    | refine lst_run (run_load1_own hS rfl rfl (by first | exact .head | exact .tail .head | exact .tail (.tail .head) | exact .tail (.tail (.tail .head)) | exact .tail (.tail (.tail (.tail .head))) | exact .tail (.tail (.tail (.tail (.tail .head))))) (by repeat constructor)) rfl ?_
    | refine lst_run (run_load1 rfl rfl (by first | assumption | exact hS.cell0 (by assumption) | exact lv_next hS | exact lv_list hS)) rfl ?_
  refine lst_run (run_move (by conv => lhs; whnf)) rfl ?_
  refine lst_run (run_slice_slice (sz := 2) rfl rfl rfl rfl (by omega) (by omega)) rfl ?_
  refine lst_run (run_nilCheck rfl) rfl ?_
  refine lst_run (run_fieldAddr (off := 2) rfl rfl) rfl ?_
  refine lst_store1 hS rfl (by conv => lhs; whnf) rfl rfl (by first | exact .head | exact .tail .head | exact .tail (.tail .head) | exact .tail (.tail (.tail .head)) | exact .tail (.tail (.tail (.tail .head))) | exact .tail (.tail (.tail (.tail (.tail .head))))) (by repeat constructor) (by first | exact .head | exact .tail .head | exact .tail (.tail .head) | exact .tail (.tail (.tail .head)) | exact .tail (.tail (.tail (.tail .head))) | exact .tail (.tail (.tail (.tail (.tail .head))))) ?_
  clear hS
  intro wx1 hS
  refine lst_done ?_
  refine goes_ret0 Tryz.func29 rfl  ?_
  rw [show ((((L0.length + 1 : Nat) : Int)) - 1).toNat = L0.length by omega] at hS
  exact ⟨_, _, O3, rfl, hB2, hV0, hS.sink1⟩
theorem step_next (B V v : Value) (l : Str) (k n : Int) (s : Str) (D a r : Ts) (L0 : List Lv) (O O2 : List (Nat × Obj)) (w : World) (hB : Buf l B O) (hV : Opn (L0 ++ [⟨v, D.app (.cons k n ⟨s.toArray⟩ a r), D.length⟩]) V O2) (hv : Sl w0 (fun _ => True) v (D.app (.cons k n ⟨s.toArray⟩ a r)))
    (hn : -9223372036854775808 ≤ n ∧ n ≤ 9223372036854775807) (hG : ∀ w', Ext [] w0 w' → GVars w') (hl : l.length + (labelM k n s).length + 2 ≤ 1099511627776) (hL : L0.length + 2 ≤ 1099511627776) (hD : D.length + 1 ≤ 1099511627776)
    (hS : St [] w0 ((b, prn (pptr b) B V) :: (O ++ (O2 ++ H))) F w) :
    Calls Tryz.prog 29 #[pptr b] w fun e w' => ∃ va B' V' O' O2', e = .returned (.tuple #[]) ∧ Sl w0 (fun _ => True) va a ∧ Buf (l ++ (if 0 < D.length then [44] else []) ++ labelM k n s ++ if opens k a then [40] else []) B' O' ∧
      Opn (if opens k a then (L0 ++ [⟨v, D.app (.cons k n ⟨s.toArray⟩ a r), D.length + 1⟩]) ++ [⟨va, a, 0⟩] else L0 ++ [⟨v, D.app (.cons k n ⟨s.toArray⟩ a r), D.length + 1⟩]) V' O2' ∧ St [] w0 ((b, prn (pptr b) B' V') :: (O' ++ (O2' ++ H))) F w' := by
  obtain ⟨A, c, rfl, hv⟩ := hv.form
  obtain ⟨bb, o, rfl, hseg⟩ := Sl.at_ hv (by simp [Ts.length])
  obtain ⟨_, q0, q1, q2, ⟨va, q3, hva⟩, _⟩ := seg_cons.1 hseg
  have hlen : (D.app (.cons k n ⟨s.toArray⟩ a r)).length = D.length + (r.length + 1) := by rw [Ts.length_app]; rfl
  rw [show o + D.length * 4 = o + (((D.length : Nat) : Int) + 1 - 1).toNat * 4 by omega] at q0 q1 q2 q3
  obtain ⟨g, cap, sp, rfl, rfl, hcap, hup, _⟩ := hV.top
  obtain ⟨A1, c1, rfl⟩ := hB.form
  replace hS := St.raise1 hS
  by_cases hD0 : 0 < D.length
  · rw [if_pos hD0]
    refine goes_enter1 Tryz.func29 rfl Tryz.ntmps29 rfl ?_
    refine goes_seq ?_
    refine goes_region ?_
    refine lst_run (run_move (by conv => lhs; whnf)) rfl ?_
    refine lst_run (run_nilCheck rfl) rfl ?_
    refine lst_run (run_fieldAddr (off := 2) rfl rfl) rfl ?_
    first
      | refine lst_run (run_load1_own hS rfl rfl (by first | exact .head | exact .tail .head | exact .tail (.tail .head) | exact .tail (.tail (.tail .head)) | exact .tail (.tail (.tail (.tail .head))) | exact .tail (.tail (.tail (.tail (.tail .head))))) (by repeat constructor)) rfl ?_
      | refine lst_run (run_load1 rfl rfl (by first | assumption | exact hS.cell0 (by assumption) | exact lv_next hS | exact lv_list hS)) rfl ?_
    refine lst_run (run_len_slice rfl rfl rfl) rfl ?_
    first
      | refine lst_run (run_sub rfl rfl (by omega) (by omega)) rfl ?_
      | refine lst_run (run_sub_u8 rfl rfl) rfl ?_
    refine lst_run (run_assign (by conv => lhs; whnf)) rfl ?_
    refine lst_done ?_
    refine goes_seq ?_
    refine goes_region ?_
    refine lst_run (run_move (by conv => lhs; whnf)) rfl ?_
    refine lst_run (run_nilCheck rfl) rfl ?_
    refine lst_run (run_fieldAddr (off := 2) rfl rfl) rfl ?_
    first
      | refine lst_run (run_load1_own hS rfl rfl (by first | exact .head | exact .tail .head | exact .tail (.tail .head) | exact .tail (.tail (.tail .head)) | exact .tail (.tail (.tail (.tail .head))) | exact .tail (.tail (.tail (.tail (.tail .head))))) (by repeat constructor)) rfl ?_
      | refine lst_run (run_load1 rfl rfl (by first | assumption | exact hS.cell0 (by assumption) | exact lv_next hS | exact lv_list hS)) rfl ?_
    refine lst_run (run_move (by conv => lhs; whnf)) rfl ?_
    refine lst_run (run_indexAddr (sz := 2) rfl rfl rfl rfl (by omega) (by omega)) rfl ?_
    refine lst_run (run_assign (by conv => lhs; whnf)) rfl ?_
    refine lst_done ?_
    refine goes_seq ?_
    refine goes_seq ?_
    refine goes_draw (St _ w0 [_] _) 10 ((0, true) :: (1, true) :: (2, true) :: (3, true) :: (4, true) :: (5, true) :: (6, true) :: (7, true) :: (8, true) :: (9, true) :: []) (by kernel_rfl) (by kernel_rfl) (hS.drew.only1) ?_
    replace hS := hS.drew
    refine ord_read rfl (fun _ hS => run_move (by conv => lhs; whnf)) rfl ?_
    refine ord_read rfl (fun _ hS => run_nilCheck rfl) rfl ?_
    refine ord_read rfl (fun _ hS => run_fieldAddr (off := 1) rfl rfl) rfl ?_
    first
      | refine ord_read rfl (fun _ hS => run_load1_own hS rfl rfl (by first | exact .head | exact .tail .head | exact .tail (.tail .head) | exact .tail (.tail (.tail .head)) | exact .tail (.tail (.tail (.tail .head))) | exact .tail (.tail (.tail (.tail (.tail .head))))) (by repeat constructor)) rfl ?_
      | refine ord_read rfl (fun _ hS => run_load1 rfl rfl (by first | assumption | exact hS.cell0 (by assumption) | exact lv_next hS | exact lv_list hS)) rfl ?_
    refine ord_read rfl (fun _ hS => run_move (by conv => lhs; whnf)) rfl ?_
    refine ord_read rfl (fun _ hS => run_nilCheck rfl) rfl ?_
    refine ord_read rfl (fun _ hS => run_fieldAddr (off := 0) rfl rfl) rfl ?_
    first
      | refine ord_read rfl (fun _ hS => run_load1_own hS rfl rfl (by first | exact .head | exact .tail .head | exact .tail (.tail .head) | exact .tail (.tail (.tail .head)) | exact .tail (.tail (.tail (.tail .head))) | exact .tail (.tail (.tail (.tail (.tail .head))))) (by repeat constructor)) rfl ?_
      | refine ord_read rfl (fun _ hS => run_load1 rfl rfl (by first | assumption | exact hS.cell0 (by assumption) | exact lv_next hS | exact lv_list hS)) rfl ?_
    refine ord_read rfl (fun _ hS => run_len_slice rfl rfl rfl) rfl ?_
    first
      | refine ord_read rfl (fun _ hS => run_eql_one_int rfl rfl) rfl ?_
      | refine ord_read rfl (fun _ hS => run_eql_no rfl rfl (by first | assumption | omega)) rfl ?_
      | refine ord_read rfl (fun _ hS => run_eql_yes rfl rfl (by omega)) rfl ?_
      | refine ord_read rfl (fun _ hS => rfl) rfl ?_
    refine ord_end ?_
    refine lst_done ?_
    refine goes_false rfl ?_
    refine goes_skip ?_
    refine goes_seq ?_
    refine goes_seq ?_
    refine goes_region ?_
    refine lst_run (run_move (by conv => lhs; whnf)) rfl ?_
    refine lst_run (run_nilCheck rfl) rfl ?_
    refine lst_run (run_fieldAddr (off := 1) rfl rfl) rfl ?_
    first
      | refine lst_run (run_load1_own hS rfl rfl (by first | exact .head | exact .tail .head | exact .tail (.tail .head) | exact .tail (.tail (.tail .head)) | exact .tail (.tail (.tail (.tail .head))) | exact .tail (.tail (.tail (.tail (.tail .head))))) (by repeat constructor)) rfl ?_
      | refine lst_run (run_load1 rfl rfl (by first | assumption | exact hS.cell0 (by assumption) | exact lv_next hS | exact lv_list hS)) rfl ?_
    first
      | refine lst_run (run_gtr_yes rfl rfl (by omega)) rfl ?_
      | refine lst_run (run_gtr_no rfl rfl (by omega)) rfl ?_
      | refine lst_run (rfl) rfl ?_
    refine lst_done ?_
    refine goes_true rfl ?_
    refine goes_region ?_
    refine lst_run (run_move (by conv => lhs; whnf)) rfl ?_
    refine lst_run (run_nilCheck rfl) rfl ?_
    refine lst_run (run_fieldAddr (off := 0) rfl rfl) rfl ?_
    refine lst_enter (run_call (by kernel_rfl) (args_2 (by conv => lhs; whnf) (by conv => lhs; whnf))) rfl ?_
    refine Calls.mono (writeByte_any (pptr b) _ _ l 44 O _ _ _ rfl _ (.inr rfl) hB (by omega) hS.sink1) ?_
    rintro _ w4 ⟨B2, O3, rfl, hB2, hS'⟩
    refine ⟨_, rfl, ?_⟩
    replace hS := hS'
    clear hS'
    replace hS := hS.raise1
    obtain ⟨A2, c2, rfl⟩ := hB2.form
    refine lst_done ?_
    refine goes_seq ?_
    refine goes_region ?_
    refine lst_run (run_move (by conv => lhs; whnf)) rfl ?_
    refine lst_run (run_nilCheck rfl) rfl ?_
    refine lst_run (run_fieldAddr (off := 1) rfl rfl) rfl ?_
    first
      | refine lst_run (run_load1_own hS rfl rfl (by first | exact .head | exact .tail .head | exact .tail (.tail .head) | exact .tail (.tail (.tail .head)) | exact .tail (.tail (.tail (.tail .head))) | exact .tail (.tail (.tail (.tail (.tail .head))))) (by repeat constructor)) rfl ?_
      | refine lst_run (run_load1 rfl rfl (by first | assumption | exact hS.cell0 (by assumption) | exact lv_next hS | exact lv_list hS)) rfl ?_
    refine lst_run (run_add rfl rfl (by omega) (by omega)) rfl ?_
    refine lst_run (run_nilCheck rfl) rfl ?_
    refine lst_run (run_fieldAddr (off := 1) rfl rfl) rfl ?_
    refine lst_store1 hS rfl (by conv => lhs; whnf) rfl rfl .head (put_lv L0) .head ?_
    clear hS
    intro w5 hS
    refine lst_done ?_
    refine goes_draw (St _ w0 [_] _) 12 ((0, true) :: (1, true) :: (2, true) :: (3, true) :: (4, true) :: (5, true) :: (6, true) :: (7, true) :: (8, true) :: (9, true) :: (10, true) :: (11, true) :: []) (by kernel_rfl) (by kernel_rfl) (hS.drew.only1) ?_
    replace hS := hS.drew
    refine ord_read rfl (fun _ hS => run_move (by conv => lhs; whnf)) rfl ?_
    refine ord_read rfl (fun _ hS => run_move (by conv => lhs; whnf)) rfl ?_
    refine ord_read rfl (fun _ hS => run_nilCheck rfl) rfl ?_
    refine ord_read rfl (fun _ hS => run_fieldAddr (off := 0) rfl rfl) rfl ?_
    first
      | refine ord_read rfl (fun _ hS => run_load1_own hS rfl rfl (by first | exact .head | exact .tail .head | exact .tail (.tail .head) | exact .tail (.tail (.tail .head)) | exact .tail (.tail (.tail (.tail .head))) | exact .tail (.tail (.tail (.tail (.tail .head))))) (by repeat constructor)) rfl ?_
      | refine ord_read rfl (fun _ hS => run_load1 rfl rfl (by first | assumption | exact hS.cell0 (by assumption) | exact lv_next hS | exact lv_list hS)) rfl ?_
    refine ord_read rfl (fun _ hS => run_move (by conv => lhs; whnf)) rfl ?_
    refine ord_read rfl (fun _ hS => run_nilCheck rfl) rfl ?_
    refine ord_read rfl (fun _ hS => run_fieldAddr (off := 1) rfl rfl) rfl ?_
    first
      | refine ord_read rfl (fun _ hS => run_load1_own hS rfl rfl (by first | exact .head | exact .tail .head | exact .tail (.tail .head) | exact .tail (.tail (.tail .head)) | exact .tail (.tail (.tail (.tail .head))) | exact .tail (.tail (.tail (.tail (.tail .head))))) (by repeat constructor)) rfl ?_
      | refine ord_read rfl (fun _ hS => run_load1 rfl rfl (by first | assumption | exact hS.cell0 (by assumption) | exact lv_next hS | exact lv_list hS)) rfl ?_
    first
      | refine ord_read rfl (fun _ hS => run_sub rfl rfl (by omega) (by omega)) rfl ?_
      | refine ord_read rfl (fun _ hS => run_sub_u8 rfl rfl) rfl ?_
    refine ord_read rfl (fun _ hS => run_indexAddr (sz := 4) rfl rfl rfl rfl (by omega) (by omega)) rfl ?_
    first
      | refine ord_read rfl (fun _ hS => run_loadN_own (k := 4) hS rfl rfl rfl (by first | exact .head | exact .tail .head | exact .tail (.tail .head) | exact .tail (.tail (.tail .head)) | exact .tail (.tail (.tail (.tail .head))) | exact .tail (.tail (.tail (.tail (.tail .head))))) (by repeat constructor)) rfl ?_
      | refine ord_read rfl (fun _ hS => run_load4 rfl rfl rfl (by first | assumption | exact hS.cell0 (by assumption)) (by first | assumption | exact hS.cell0 (by assumption)) (by first | assumption | exact hS.cell0 (by assumption)) (by first | assumption | exact hS.cell0 (by assumption))) rfl ?_
    refine ord_end ?_
    refine lst_enter (run_call (by kernel_rfl) (args_2 (by conv => lhs; whnf) (by conv => lhs; whnf))) rfl ?_
    refine Calls.mono (begin_any (pptr b) _ _ _ s k n a _ O3 _ va _ (.inr rfl) hB2 (hup (D.length + 1)) hn hG (hva.below hS.ext.below) (by simp; omega) (by simp; omega) hS.sink1) ?_
    rintro _ w6 ⟨B3, V3, O4, O5, rfl, hB3, hV3, hS'⟩
    refine ⟨_, rfl, ?_⟩
    replace hS := hS'
    clear hS'
    refine lst_done ?_
    refine goes_end0 Tryz.func29 rfl ?_
    refine ⟨va, B3, V3, O4, O5, rfl, hva, ?_, hV3, hS⟩
    exact hB3
  · rw [if_neg hD0, List.append_nil]
    refine goes_enter1 Tryz.func29 rfl Tryz.ntmps29 rfl ?_
    refine goes_seq ?_
    refine goes_region ?_
    refine lst_run (run_move (by conv => lhs; whnf)) rfl ?_
    refine lst_run (run_nilCheck rfl) rfl ?_
    refine lst_run (run_fieldAddr (off := 2) rfl rfl) rfl ?_
    first
      | refine lst_run (run_load1_own hS rfl rfl (by first | exact .head | exact .tail .head | exact .tail (.tail .head) | exact .tail (.tail (.tail .head)) | exact .tail (.tail (.tail (.tail .head))) | exact .tail (.tail (.tail (.tail (.tail .head))))) (by repeat constructor)) rfl ?_
      | refine lst_run (run_load1 rfl rfl (by first | assumption | exact hS.cell0 (by assumption) | exact lv_next hS | exact lv_list hS)) rfl ?_
    refine lst_run (run_len_slice rfl rfl rfl) rfl ?_
    first
      | refine lst_run (run_sub rfl rfl (by omega) (by omega)) rfl ?_
      | refine lst_run (run_sub_u8 rfl rfl) rfl ?_
    refine lst_run (run_assign (by conv => lhs; whnf)) rfl ?_
    refine lst_done ?_
    refine goes_seq ?_
    refine goes_region ?_
    refine lst_run (run_move (by conv => lhs; whnf)) rfl ?_
    refine lst_run (run_nilCheck rfl) rfl ?_
    refine lst_run (run_fieldAddr (off := 2) rfl rfl) rfl ?_
    first
      | refine lst_run (run_load1_own hS rfl rfl (by first | exact .head | exact .tail .head | exact .tail (.tail .head) | exact .tail (.tail (.tail .head)) | exact .tail (.tail (.tail (.tail .head))) | exact .tail (.tail (.tail (.tail (.tail .head))))) (by repeat constructor)) rfl ?_
      | refine lst_run (run_load1 rfl rfl (by first | assumption | exact hS.cell0 (by assumption) | exact lv_next hS | exact lv_list hS)) rfl ?_
    refine lst_run (run_move (by conv => lhs; whnf)) rfl ?_
    refine lst_run (run_indexAddr (sz := 2) rfl rfl rfl rfl (by omega) (by omega)) rfl ?_
    refine lst_run (run_assign (by conv => lhs; whnf)) rfl ?_
    refine lst_done ?_
    refine goes_seq ?_
    refine goes_seq ?_
    refine goes_draw (St _ w0 [_] _) 10 ((0, true) :: (1, true) :: (2, true) :: (3, true) :: (4, true) :: (5, true) :: (6, true) :: (7, true) :: (8, true) :: (9, true) :: []) (by kernel_rfl) (by kernel_rfl) (hS.drew.only1) ?_
    replace hS := hS.drew
    refine ord_read rfl (fun _ hS => run_move (by conv => lhs; whnf)) rfl ?_
    refine ord_read rfl (fun _ hS => run_nilCheck rfl) rfl ?_
    refine ord_read rfl (fun _ hS => run_fieldAddr (off := 1) rfl rfl) rfl ?_
    first
      | refine ord_read rfl (fun _ hS => run_load1_own hS rfl rfl (by first | exact .head | exact .tail .head | exact .tail (.tail .head) | exact .tail (.tail (.tail .head)) | exact .tail (.tail (.tail (.tail .head))) | exact .tail (.tail (.tail (.tail (.tail .head))))) (by repeat constructor)) rfl ?_
      | refine ord_read rfl (fun _ hS => run_load1 rfl rfl (by first | assumption | exact hS.cell0 (by assumption) | exact lv_next hS | exact lv_list hS)) rfl ?_
    refine ord_read rfl (fun _ hS => run_move (by conv => lhs; whnf)) rfl ?_
    refine ord_read rfl (fun _ hS => run_nilCheck rfl) rfl ?_
    refine ord_read rfl (fun _ hS => run_fieldAddr (off := 0) rfl rfl) rfl ?_
    first
      | refine ord_read rfl (fun _ hS => run_load1_own hS rfl rfl (by first | exact .head | exact .tail .head | exact .tail (.tail .head) | exact .tail (.tail (.tail .head)) | exact .tail (.tail (.tail (.tail .head))) | exact .tail (.tail (.tail (.tail (.tail .head))))) (by repeat constructor)) rfl ?_
      | refine ord_read rfl (fun _ hS => run_load1 rfl rfl (by first | assumption | exact hS.cell0 (by assumption) | exact lv_next hS | exact lv_list hS)) rfl ?_
    refine ord_read rfl (fun _ hS => run_len_slice rfl rfl rfl) rfl ?_
    first
      | refine ord_read rfl (fun _ hS => run_eql_one_int rfl rfl) rfl ?_
      | refine ord_read rfl (fun _ hS => run_eql_no rfl rfl (by first | assumption | omega)) rfl ?_
      | refine ord_read rfl (fun _ hS => run_eql_yes rfl rfl (by omega)) rfl ?_
      | refine ord_read rfl (fun _ hS => rfl) rfl ?_
    refine ord_end ?_
    refine lst_done ?_
    refine goes_false rfl ?_
    refine goes_skip ?_
    refine goes_seq ?_
    refine goes_seq ?_
    refine goes_region ?_
    refine lst_run (run_move (by conv => lhs; whnf)) rfl ?_
    refine lst_run (run_nilCheck rfl) rfl ?_
    refine lst_run (run_fieldAddr (off := 1) rfl rfl) rfl ?_
    first
      | refine lst_run (run_load1_own hS rfl rfl (by first | exact .head | exact .tail .head | exact .tail (.tail .head) | exact .tail (.tail (.tail .head)) | exact .tail (.tail (.tail (.tail .head))) | exact .tail (.tail (.tail (.tail (.tail .head))))) (by repeat constructor)) rfl ?_
      | refine lst_run (run_load1 rfl rfl (by first | assumption | exact hS.cell0 (by assumption) | exact lv_next hS | exact lv_list hS)) rfl ?_
    first
      | refine lst_run (run_gtr_yes rfl rfl (by omega)) rfl ?_
      | refine lst_run (run_gtr_no rfl rfl (by omega)) rfl ?_
      | refine lst_run (rfl) rfl ?_
    refine lst_done ?_
    refine goes_false rfl ?_
    refine goes_skip ?_
    refine goes_seq ?_
    refine goes_region ?_
    refine lst_run (run_move (by conv => lhs; whnf)) rfl ?_
    refine lst_run (run_nilCheck rfl) rfl ?_
    refine lst_run (run_fieldAddr (off := 1) rfl rfl) rfl ?_
    first
      | refine lst_run (run_load1_own hS rfl rfl (by first | exact .head | exact .tail .head | exact .tail (.tail .head) | exact .tail (.tail (.tail .head)) | exact .tail (.tail (.tail (.tail .head))) | exact .tail (.tail (.tail (.tail (.tail .head))))) (by repeat constructor)) rfl ?_
      | refine lst_run (run_load1 rfl rfl (by first | assumption | exact hS.cell0 (by assumption) | exact lv_next hS | exact lv_list hS)) rfl ?_
    refine lst_run (run_add rfl rfl (by omega) (by omega)) rfl ?_
    refine lst_run (run_nilCheck rfl) rfl ?_
    refine lst_run (run_fieldAddr (off := 1) rfl rfl) rfl ?_
    refine lst_store1 hS rfl (by conv => lhs; whnf) rfl rfl .head (put_lv L0) .head ?_
    clear hS
    intro w5 hS
    refine lst_done ?_
    refine goes_draw (St _ w0 [_] _) 12 ((0, true) :: (1, true) :: (2, true) :: (3, true) :: (4, true) :: (5, true) :: (6, true) :: (7, true) :: (8, true) :: (9, true) :: (10, true) :: (11, true) :: []) (by kernel_rfl) (by kernel_rfl) (hS.drew.only1) ?_
    replace hS := hS.drew
    refine ord_read rfl (fun _ hS => run_move (by conv => lhs; whnf)) rfl ?_
    refine ord_read rfl (fun _ hS => run_move (by conv => lhs; whnf)) rfl ?_
    refine ord_read rfl (fun _ hS => run_nilCheck rfl) rfl ?_
    refine ord_read rfl (fun _ hS => run_fieldAddr (off := 0) rfl rfl) rfl ?_
    first
      | refine ord_read rfl (fun _ hS => run_load1_own hS rfl rfl (by first | exact .head | exact .tail .head | exact .tail (.tail .head) | exact .tail (.tail (.tail .head)) | exact .tail (.tail (.tail (.tail .head))) | exact .tail (.tail (.tail (.tail (.tail .head))))) (by repeat constructor)) rfl ?_
      | refine ord_read rfl (fun _ hS => run_load1 rfl rfl (by first | assumption | exact hS.cell0 (by assumption) | exact lv_next hS | exact lv_list hS)) rfl ?_
    refine ord_read rfl (fun _ hS => run_move (by conv => lhs; whnf)) rfl ?_
    refine ord_read rfl (fun _ hS => run_nilCheck rfl) rfl ?_
    refine ord_read rfl (fun _ hS => run_fieldAddr (off := 1) rfl rfl) rfl ?_
    first
      | refine ord_read rfl (fun _ hS => run_load1_own hS rfl rfl (by first | exact .head | exact .tail .head | exact .tail (.tail .head) | exact .tail (.tail (.tail .head)) | exact .tail (.tail (.tail (.tail .head))) | exact .tail (.tail (.tail (.tail (.tail .head))))) (by repeat constructor)) rfl ?_
      | refine ord_read rfl (fun _ hS => run_load1 rfl rfl (by first | assumption | exact hS.cell0 (by assumption) | exact lv_next hS | exact lv_list hS)) rfl ?_
    first
      | refine ord_read rfl (fun _ hS => run_sub rfl rfl (by omega) (by omega)) rfl ?_
      | refine ord_read rfl (fun _ hS => run_sub_u8 rfl rfl) rfl ?_
    refine ord_read rfl (fun _ hS => run_indexAddr (sz := 4) rfl rfl rfl rfl (by omega) (by omega)) rfl ?_
    first
      | refine ord_read rfl (fun _ hS => run_loadN_own (k := 4) hS rfl rfl rfl (by first | exact .head | exact .tail .head | exact .tail (.tail .head) | exact .tail (.tail (.tail .head)) | exact .tail (.tail (.tail (.tail .head))) | exact .tail (.tail (.tail (.tail (.tail .head))))) (by repeat constructor)) rfl ?_
      | refine ord_read rfl (fun _ hS => run_load4 rfl rfl rfl (by first | assumption | exact hS.cell0 (by assumption)) (by first | assumption | exact hS.cell0 (by assumption)) (by first | assumption | exact hS.cell0 (by assumption)) (by first | assumption | exact hS.cell0 (by assumption))) rfl ?_
    refine ord_end ?_
    refine lst_enter (run_call (by kernel_rfl) (args_2 (by conv => lhs; whnf) (by conv => lhs; whnf))) rfl ?_
    refine Calls.mono (begin_any (pptr b) _ _ _ s k n a _ O _ va _ (.inr rfl) hB (hup (D.length + 1)) hn hG (hva.below hS.ext.below) (by simp; omega) (by simp; omega) hS.sink1) ?_
    rintro _ w6 ⟨B3, V3, O4, O5, rfl, hB3, hV3, hS'⟩
    refine ⟨_, rfl, ?_⟩
    replace hS := hS'
    clear hS'
    refine lst_done ?_
    refine goes_end0 Tryz.func29 rfl ?_
    refine ⟨va, B3, V3, O4, O5, rfl, hva, ?_, hV3, hS⟩
    exact hB3
end
end Go.Proofs.YtdiophafmokfiaaGreatDoor
namespace Go.Proofs.YtdiophafmokfiaaGreatDoor
open Go.RowKit Go.Shelf
set_option linter.unusedVariables false
set_option linter.unusedSimpArgs false
set_option maxRecDepth 100000
set_option maxHeartbeats 1000000

/-- The text of a list of terms; c says whether one stands before it. -/
def outM (c : Bool) : Ts → Str
  | .nil => []
  | .cons k n s a r => (if c then [44] else []) ++ labelM k n s.data.toList ++ (if opens k a then 40 :: (outM false a ++ [41]) else []) ++ outM true r
def rng : Ts → Prop
  | .nil => True
  | .cons k n s a r => (-9223372036854775808 ≤ n ∧ n ≤ 9223372036854775807) ∧ rng a ∧ rng r
abbrev Lw := Value × Ts × Ts
def lev : List Lw → List Lv
  | [] => []
  | (v, D, R) :: K => lev K ++ [⟨v, D.app R, D.length⟩]
def closing : List Lw → Str
  | [] => []
  | (v, D, R) :: K => outM (decide (0 < D.length)) R ++ 41 :: closing K
def work : List Lw → Nat
  | [] => 0
  | (v, D, R) :: K => 1 + 2 * R.nodes + work K
theorem lev_len : ∀ K : List Lw, (lev K).length ≤ (closing K).length
  | [] => Nat.le_refl _
  | (v, D, R) :: K => by have := lev_len K; simp [lev, closing]; omega
theorem app1_len (D : Ts) (k n : Int) (s : ByteArray) (a : Ts) : (D.app (.cons k n s a .nil)).length = D.length + 1 := by rw [Ts.length_app]; rfl
def LevOk (w0 : World) (N : Nat) (x : Lw) : Prop := Sl w0 (fun _ => True) x.1 (x.2.1.app x.2.2) ∧ (x.2.1.app x.2.2).nodes ≤ N ∧ rng x.2.2
theorem print_any (k n : Int) (s : Str) (a : Ts) (v : Value) (w0 : World) (hG : ∀ w', Ext [] w0 w' → GVars w') (hv : Sl w0 (fun _ => True) v a) (hn : -9223372036854775808 ≤ n ∧ n ≤ 9223372036854775807) (hr : rng a) (hN : a.nodes ≤ 1048576)
    (hlen : (outM false (.cons k n ⟨s.toArray⟩ a .nil)).length ≤ 1073741824) :
    Calls Tryz.prog 12 #[.agg #[.int .i64 k, .int .i64 n, sv s, v]] w0 fun e w' => e = .returned (sv (outM false (.cons k n ⟨s.toArray⟩ a .nil))) ∧ Below w0.heap.size w0 w' := by
  have hS := St.start w0
  have e0 : outM false (.cons k n ⟨s.toArray⟩ a .nil) = labelM k n s ++ if opens k a then 40 :: (outM false a ++ [41]) else [] := by simp [outM]
  rw [e0] at hlen ⊢
  have hlab : (labelM k n s).length ≤ 1073741824 := by simp at hlen; omega
  obtain ⟨A, c, rfl, hv⟩ := hv.form
  refine goes_enter1 Tryz.func12 rfl Tryz.ntmps12 rfl ?_
  refine goes_seq ?_
  refine goes_region ?_
  refine lst_box hS rfl rfl ?_
  clear hS
  intro b1 wx1 hS
  refine lst_run (run_assign (by conv => lhs; whnf)) rfl ?_
  refine lst_done ?_
  refine goes_seq ?_
  refine goes_region ?_
  refine lst_run (run_build (cells := [_, _, _]) .nil rfl) rfl ?_
  refine lst_box hS rfl rfl ?_
  clear hS
  intro b2 wx2 hS
  refine lst_run (run_assign (by conv => lhs; whnf)) rfl ?_
  refine lst_done ?_
  refine goes_seq ?_
  refine goes_region ?_
  refine lst_run (run_move (by conv => lhs; whnf)) rfl ?_
  first
    | refine lst_run (run_loadN_own (k := 4) hS rfl rfl rfl (by first | exact .head | exact .tail .head | exact .tail (.tail .head) | exact .tail (.tail (.tail .head)) | exact .tail (.tail (.tail (.tail .head))) | exact .tail (.tail (.tail (.tail (.tail .head))))) (by repeat constructor)) rfl ?_
    | refine lst_run (run_load4 rfl rfl rfl (by first | assumption | exact hS.cell0 (by assumption)) (by first | assumption | exact hS.cell0 (by assumption)) (by first | assumption | exact hS.cell0 (by assumption)) (by first | assumption | exact hS.cell0 (by assumption))) rfl ?_
  refine lst_enter (run_call (by kernel_rfl) (args_2 (by conv => lhs; whnf) (by conv => lhs; whnf))) rfl ?_
  refine Calls.mono (begin_any (.pointer none) _ _ [] s k n a [] [] [] _ _ (.inl rfl) .nil_ .nil_ hn hG (hv.below hS.ext.below) (by simp; omega) (by simp) hS) ?_
  rintro _ w1 ⟨B1, V1, O1, O2, rfl, hB1, hV1, hS'⟩
  refine ⟨_, rfl, ?_⟩
  replace hS := hS'
  clear hS'
  generalize htot : labelM k n s ++ (if opens k a then 40 :: (outM false a ++ [41]) else []) = tot at hlen ⊢
  obtain ⟨H, hS⟩ : ∃ H, St [] w0 ((b2, prn (pptr b2) B1 V1) :: (O1 ++ (O2 ++ H))) [] w1 := ⟨_, hS⟩
  refine lst_done ?_
  refine goes_seq ?_
  refine goes_block ?_
  refine goes_loop0  (9 :: 10 :: 11 :: 12 :: 13 :: 14 :: 15 :: 16 :: []) (fun (x : Str × List Lw) w' => ∃ B V O O2, Buf x.1 B O ∧ Opn (lev x.2) V O2 ∧ St [] w0 ((b2, prn (pptr b2) B V) :: (O ++ (O2 ++ H))) [] w' ∧ x.1 ++ closing x.2 = tot ∧ ∀ y ∈ x.2, LevOk w0 a.nodes y) (fun x => work x.2) ((labelM k n s ++ (if opens k a then [40] else []), if opens k a then [(.slice A a.length c, .nil, a)] else [])) ?_ ?_
  · refine ⟨B1, V1, O1, O2, hB1, ?_, hS, ?_, ?_⟩
    · generalize opens k a = g at hV1 ⊢
      cases g <;> exact hV1
    · rw [← htot]
      generalize opens k a = g
      cases g <;> simp [closing, Ts.length]
    · generalize opens k a = g
      cases g with
      | false => simp
      | true =>
        intro y hy
        obtain rfl : y = _ := by simpa using hy
        exact ⟨hv, Nat.le_refl _, hr⟩
  clear hS hB1 hV1
  rintro ⟨l, K⟩ w2 jv ⟨B, V, O, O2, hB, hV, hS, htl, hK⟩ ih
  simp only at hB hV hS htl hK ih
  obtain ⟨A1, c1, rfl⟩ := hB.form
  cases K with
  | nil =>
    obtain ⟨A2, c2, hVe⟩ := Row.form hV
    obtain rfl : V = .slice A2 0 c2 := hVe
    refine goes_seq ?_
    refine goes_seq ?_
    refine goes_region ?_
    refine lst_run (run_move (by conv => lhs; whnf)) rfl ?_
    refine lst_run (run_nilCheck rfl) rfl ?_
    refine lst_run (run_fieldAddr (off := 2) rfl rfl) rfl ?_
    first
      | refine lst_run (run_load1_own hS rfl rfl (by first | exact .head | exact .tail .head | exact .tail (.tail .head) | exact .tail (.tail (.tail .head)) | exact .tail (.tail (.tail (.tail .head))) | exact .tail (.tail (.tail (.tail (.tail .head))))) (by repeat constructor)) rfl ?_
      | refine lst_run (run_load1 rfl rfl (by first | assumption | exact hS.cell0 (by assumption) | exact lv_next hS | exact lv_list hS)) rfl ?_
    refine lst_run (run_len_slice rfl rfl rfl) rfl ?_
    first
      | refine lst_run (run_gtr_yes rfl rfl (by omega)) rfl ?_
      | refine lst_run (run_gtr_no rfl rfl (by omega)) rfl ?_
      | refine lst_run (rfl) rfl ?_
    refine lst_done ?_
    refine goes_false rfl ?_
    refine goes_exit rfl ?_
    refine goes_seq ?_
    refine goes_region ?_
    refine lst_run (run_move (by conv => lhs; whnf)) rfl ?_
    refine lst_run (run_nilCheck rfl) rfl ?_
    refine lst_run (run_fieldAddr (off := 0) rfl rfl) rfl ?_
    have hl : l.length ≤ 1099511627776 := by rw [← htl] at hlen; simp at hlen; omega
    refine lst_enter (run_call (by kernel_rfl) (args_1 (by conv => lhs; whnf))) rfl ?_
    refine Calls.mono (string_any (pptr b2) _ _ l O A2 0 c2 rfl _ hB hl hS) ?_
    rintro _ w3 ⟨rfl, hS'⟩
    refine ⟨_, rfl, ?_⟩
    replace hS := hS'
    clear hS'
    refine lst_run (run_assign (by conv => lhs; whnf)) rfl ?_
    refine lst_done ?_
    refine goes_ret1 Tryz.func12 rfl (by conv => lhs; whnf) ?_
    exact ⟨by rw [← htl]; simp [closing], hS.ext.below⟩
  | cons x K =>
    obtain ⟨u, D, R⟩ := x
    have hV' : Opn (lev K ++ [⟨u, D.app R, D.length⟩]) V O2 := hV
    obtain ⟨hu, hN1, hR⟩ := hK (u, D, R) (.head _)
    simp only at hu hN1 hR
    have hlk := lev_len K
    have hkl : l.length + ((outM (decide (0 < D.length)) R).length + (closing K).length + 1) ≤ 1073741824 := by rw [← htl] at hlen; simp [closing] at hlen; omega
    have hDn := D.length_le
    rw [Ts.nodes_app] at hN1
    obtain ⟨g, cap, sp, rfl, _, hcap, _⟩ := hV'.top
    cases R with
    | nil =>
      rw [Ts.app_nil] at hV' hu
      obtain ⟨A3, c3, rfl, _⟩ := hu.form
      refine goes_seq ?_
      refine goes_seq ?_
      refine goes_region ?_
      refine lst_run (run_move (by conv => lhs; whnf)) rfl ?_
      refine lst_run (run_nilCheck rfl) rfl ?_
      refine lst_run (run_fieldAddr (off := 2) rfl rfl) rfl ?_
      first
        | refine lst_run (run_load1_own hS rfl rfl (by first | exact .head | exact .tail .head | exact .tail (.tail .head) | exact .tail (.tail (.tail .head)) | exact .tail (.tail (.tail (.tail .head))) | exact .tail (.tail (.tail (.tail (.tail .head))))) (by repeat constructor)) rfl ?_
        | refine lst_run (run_load1 rfl rfl (by first | assumption | exact hS.cell0 (by assumption) | exact lv_next hS | exact lv_list hS)) rfl ?_
      refine lst_run (run_len_slice rfl rfl rfl) rfl ?_
      first
        | refine lst_run (run_gtr_yes rfl rfl (by omega)) rfl ?_
        | refine lst_run (run_gtr_no rfl rfl (by omega)) rfl ?_
        | refine lst_run (rfl) rfl ?_
      refine lst_done ?_
      refine goes_true rfl ?_
      refine goes_skip ?_
      refine goes_block ?_
      refine goes_region ?_
      refine lst_run (run_move (by conv => lhs; whnf)) rfl ?_
      refine lst_enter (run_call (by kernel_rfl) (args_1 (by conv => lhs; whnf))) rfl ?_
      refine Calls.mono (step_close _ _ _ l D (lev K) O O2 A3 c3 _ hB hV' rfl (by omega) (by omega) hS) ?_
      rintro _ w3 ⟨B', V', O', rfl, hB', hV2, hS'⟩
      refine ⟨_, rfl, ?_⟩
      replace hS := hS'
      clear hS'
      refine lst_done ?_
      refine goes_inBlock ?_
      refine ih ((l ++ [41], K)) _ _ ?_ ?_ (by kernel_rfl)
      · simp only [work]; omega
      · exact ⟨B', V', O', O2, hB', hV2, hS, by rw [← htl]; simp [closing, outM], fun y hy => hK y (.tail _ hy)⟩
    | cons k1 n1 s1 a1 r1 =>
      obtain ⟨s1, rfl⟩ := str_of s1
      refine goes_seq ?_
      refine goes_seq ?_
      refine goes_region ?_
      refine lst_run (run_move (by conv => lhs; whnf)) rfl ?_
      refine lst_run (run_nilCheck rfl) rfl ?_
      refine lst_run (run_fieldAddr (off := 2) rfl rfl) rfl ?_
      first
        | refine lst_run (run_load1_own hS rfl rfl (by first | exact .head | exact .tail .head | exact .tail (.tail .head) | exact .tail (.tail (.tail .head)) | exact .tail (.tail (.tail (.tail .head))) | exact .tail (.tail (.tail (.tail (.tail .head))))) (by repeat constructor)) rfl ?_
        | refine lst_run (run_load1 rfl rfl (by first | assumption | exact hS.cell0 (by assumption) | exact lv_next hS | exact lv_list hS)) rfl ?_
      refine lst_run (run_len_slice rfl rfl rfl) rfl ?_
      first
        | refine lst_run (run_gtr_yes rfl rfl (by omega)) rfl ?_
        | refine lst_run (run_gtr_no rfl rfl (by omega)) rfl ?_
        | refine lst_run (rfl) rfl ?_
      refine lst_done ?_
      refine goes_true rfl ?_
      refine goes_skip ?_
      refine goes_block ?_
      refine goes_region ?_
      refine lst_run (run_move (by conv => lhs; whnf)) rfl ?_
      have hlab1 : (labelM k1 n1 s1).length ≤ (outM (decide (0 < D.length)) (.cons k1 n1 ⟨s1.toArray⟩ a1 r1)).length := by simp [outM]; omega
      refine lst_enter (run_call (by kernel_rfl) (args_1 (by conv => lhs; whnf))) rfl ?_
      refine Calls.mono (step_next _ _ _ l k1 n1 s1 D a1 r1 (lev K) O O2 _ hB hV' hu hR.1 hG (by omega) (by omega) (by omega) hS) ?_
      rintro _ w3 ⟨va, B', V', O', O3, rfl, hva, hB', hV2, hS'⟩
      refine ⟨_, rfl, ?_⟩
      replace hS := hS'
      clear hS'
      refine lst_done ?_
      refine goes_inBlock ?_
      have hD1 : (D.app (.cons k1 n1 ⟨s1.toArray⟩ a1 .nil)).app r1 = D.app (.cons k1 n1 ⟨s1.toArray⟩ a1 r1) := by rw [Ts.app_assoc]; rfl
      have hD2 := app1_len D k1 n1 ⟨s1.toArray⟩ a1
      generalize D.app (.cons k1 n1 ⟨s1.toArray⟩ a1 .nil) = D1 at hD1 hD2
      have hu1 : LevOk w0 a.nodes (u, D1, r1) := ⟨by rw [hD1]; exact hu, by show (D1.app r1).nodes ≤ _; rw [hD1, Ts.nodes_app]; exact hN1, hR.2.2⟩
      have hnod : (Ts.cons k1 n1 ⟨s1.toArray⟩ a1 r1).nodes = a1.nodes + r1.nodes + 1 := rfl
      have hL1 : lev ((u, D1, r1) :: K) = lev K ++ [⟨u, D.app (.cons k1 n1 ⟨s1.toArray⟩ a1 r1), D.length + 1⟩] := by simp only [lev]; rw [hD1, hD2]
      have hpos : decide (0 < D1.length) = true := by simp; omega
      generalize hg : opens k1 a1 = g1 at hV2 hB'
      have htl' : l ++ (outM (decide (0 < D.length)) (.cons k1 n1 ⟨s1.toArray⟩ a1 r1) ++ 41 :: closing K) = tot := htl
      cases g1 with
      | true =>
        refine ih ((l ++ (if 0 < D.length then [44] else []) ++ labelM k1 n1 s1 ++ [40], (va, .nil, a1) :: (u, D1, r1) :: K)) _ _ ?_ ?_ (by kernel_rfl)
        · simp only [work, hnod]; omega
        · refine ⟨B', V', O', O3, hB', ?_, hS, ?_, ?_⟩
          · show Opn (lev ((u, D1, r1) :: K) ++ [_]) V' O3
            rw [hL1]; exact hV2
          · rw [← htl']; simp only [closing, hpos, outM, hg]; simp [Ts.length]
          · intro y hy
            rcases List.mem_cons.1 hy with rfl | hy
            · exact ⟨hva, by show a1.nodes ≤ _; omega, hR.2.1⟩
            rcases List.mem_cons.1 hy with rfl | hy
            · exact hu1
            · exact hK y (.tail _ hy)
      | false =>
        refine ih ((l ++ (if 0 < D.length then [44] else []) ++ labelM k1 n1 s1, (u, D1, r1) :: K)) _ _ ?_ ?_ (by kernel_rfl)
        · simp only [work, hnod]; omega
        · refine ⟨B', V', O', O3, ?_, ?_, hS, ?_, ?_⟩
          · simpa only [Bool.false_eq_true, if_false, List.append_nil] using hB'
          · show Opn (lev ((u, D1, r1) :: K)) V' O3
            rw [hL1]; exact hV2
          · rw [← htl']; simp only [closing, hpos, outM, hg]; simp [Ts.length]
          · intro y hy
            rcases List.mem_cons.1 hy with rfl | hy
            · exact hu1
            · exact hK y (.tail _ hy)
end Go.Proofs.YtdiophafmokfiaaGreatDoor
namespace Go.Proofs.YtdiophafmokfiaaGreatDoor
open Go.RowKit Go.Shelf
set_option linter.unusedVariables false
set_option linter.unusedSimpArgs false
set_option maxRecDepth 100000
set_option maxHeartbeats 1000000

def rdText : Str := [112, 40, 88, 41, 32, 58, 45, 32, 113, 40, 88, 41, 44, 32, 33, 46, 32, 113, 40, 45, 51, 41, 46]
def rdHead : Ts := .cons 2 (-3) ⟨([] : Str).toArray⟩ .nil .nil
def rdCl : List Cl := [⟨3, 0, ⟨([112] : Str).toArray⟩, .cons 0 0 ⟨([] : Str).toArray⟩ .nil .nil, .cons 3 0 ⟨([113] : Str).toArray⟩ (.cons 0 0 ⟨([] : Str).toArray⟩ .nil .nil) (.cons 1 0 ⟨([33] : Str).toArray⟩ .nil .nil), 1⟩, ⟨3, 0, ⟨([113] : Str).toArray⟩, rdHead, .nil, 0⟩]
theorem numM_three : numM [45, 51] = some (-3) := by kernel_rfl
theorem rd_model : programM numM rdText = (rdCl, 0) := by kernel_rfl
theorem rd_out : outM false (.cons 3 0 ⟨([113] : Str).toArray⟩ rdHead .nil) = [113, 40, 45, 51, 41] := by kernel_rfl
theorem rd_program {M : List Nat} {w0 w : World} {H : List (Nat × Obj)} {F : List (World → Prop)} (hG : ∀ w', Ext M w0 w' → GVars w') (hS : St M w0 H F w) :
    Calls Tryz.prog 5 #[sv rdText] w fun e w' => ∃ v, e = .returned (.tuple #[v, .int .i64 0]) ∧ St M w0 H ((fun w => SlC w (fun _ => True) v rdCl) :: F) w' := by
  have h := program_r numM GVars lib1 lib2 lib3 rdText w hG (by decide) hS
  rw [rd_model] at h
  exact h
theorem reads_any (w : World) (hG : ∀ w', Ext [] w w' → GVars w') : Calls Tryz.prog 8 #[] w fun e w' => e = .returned (.bool true) ∧ Below w.heap.size w w' := by
  have hS := St.start w
  refine goes_enter0 Tryz.func8 rfl Tryz.ntmps8 rfl ?_
  refine goes_seq ?_
  refine goes_region ?_
  refine lst_run (run_assign (by conv => lhs; whnf)) rfl ?_
  refine lst_done ?_
  refine goes_seq ?_
  refine goes_region ?_
  refine lst_enter (run_call (by kernel_rfl) (args_1 (by conv => lhs; whnf))) rfl ?_
  refine Calls.mono (rd_program hG hS) ?_
  rintro _ w1 ⟨v, rfl, hS'⟩
  refine ⟨_, rfl, ?_⟩
  replace hS := hS'
  clear hS'
  obtain ⟨A, c, rfl, hsl⟩ := (hS.fact (.head _)).form
  obtain ⟨_, _, e1, hc2, hsg⟩ := hsl
  simp only [Value.slice.injEq] at e1
  obtain ⟨rfl, _, rfl⟩ := e1
  obtain ⟨bb, o, rfl, _, a0, a1, a2, ⟨u3, a3, a3'⟩, ⟨u4, a4, a4'⟩, a5, _, b0, b1, b2, ⟨v3, b3, b3'⟩, _⟩ := hsg (by decide)
  obtain ⟨A4, c4, rfl, _⟩ := a4'.form
  obtain ⟨A5, c5, rfl, _⟩ := b3'.form
  have hcl : rdCl.length = 2 := rfl
  refine lst_run (run_move (by conv => lhs; whnf)) rfl ?_
  refine lst_run (run_extract rfl rfl) rfl ?_
  refine lst_run (run_extract rfl rfl) rfl ?_
  refine lst_run (run_assign (by conv => lhs; whnf)) rfl ?_
  refine lst_run (run_assign (by conv => lhs; whnf)) rfl ?_
  refine lst_done ?_
  refine goes_seq ?_
  refine goes_region ?_
  refine lst_run (run_move (by conv => lhs; whnf)) rfl ?_
  first
    | refine lst_run (run_eql_one_int rfl rfl) rfl ?_
    | refine lst_run (run_eql_no rfl rfl (by first | assumption | omega)) rfl ?_
    | refine lst_run (run_eql_yes rfl rfl (by omega)) rfl ?_
    | refine lst_run (rfl) rfl ?_
  refine lst_run (run_move (by conv => lhs; whnf)) rfl ?_
  refine lst_guard rfl rfl ?_
  refine lst_run (run_move (by conv => lhs; whnf)) rfl ?_
  refine lst_guard rfl rfl ?_
  refine lst_run (run_len_slice rfl rfl rfl) rfl ?_
  refine lst_guard rfl rfl ?_
  first
    | refine lst_run (run_eql_one_int rfl rfl) rfl ?_
    | refine lst_run (run_eql_no rfl rfl (by first | assumption | omega)) rfl ?_
    | refine lst_run (run_eql_yes rfl rfl (by omega)) rfl ?_
    | refine lst_run (rfl) rfl ?_
  first
    | refine lst_run (run_pick_t rfl (by conv => lhs; whnf)) rfl ?_
    | refine lst_run (run_pick_f rfl (by conv => lhs; whnf)) rfl ?_
  refine lst_run (run_move (by conv => lhs; whnf)) rfl ?_
  refine lst_guard rfl rfl ?_
  refine lst_run (run_move (by conv => lhs; whnf)) rfl ?_
  refine lst_guard rfl rfl ?_
  refine lst_run (run_indexAddr (sz := 6) rfl rfl rfl rfl (by omega) (by omega)) rfl ?_
  refine lst_guard rfl rfl ?_
  refine lst_run (run_fieldAddr (off := 4) rfl rfl) rfl ?_
  refine lst_guard rfl rfl ?_
  first
    | refine lst_run (run_load1_own hS rfl rfl (by first | exact .head | exact .tail .head | exact .tail (.tail .head) | exact .tail (.tail (.tail .head)) | exact .tail (.tail (.tail (.tail .head))) | exact .tail (.tail (.tail (.tail (.tail .head))))) (by repeat constructor)) rfl ?_
    | refine lst_run (run_load1 rfl rfl (by first | assumption | exact hS.cell0 (by assumption) | exact lv_next hS | exact lv_list hS)) rfl ?_
  refine lst_guard rfl rfl ?_
  refine lst_run (run_len_slice rfl rfl rfl) rfl ?_
  refine lst_guard rfl rfl ?_
  first
    | refine lst_run (run_eql_one_int rfl rfl) rfl ?_
    | refine lst_run (run_eql_no rfl rfl (by first | assumption | omega)) rfl ?_
    | refine lst_run (run_eql_yes rfl rfl (by omega)) rfl ?_
    | refine lst_run (rfl) rfl ?_
  first
    | refine lst_run (run_pick_t rfl (by conv => lhs; whnf)) rfl ?_
    | refine lst_run (run_pick_f rfl (by conv => lhs; whnf)) rfl ?_
  refine lst_run (run_move (by conv => lhs; whnf)) rfl ?_
  refine lst_guard rfl rfl ?_
  refine lst_run (run_move (by conv => lhs; whnf)) rfl ?_
  refine lst_guard rfl rfl ?_
  refine lst_run (run_indexAddr (sz := 6) rfl rfl rfl rfl (by omega) (by omega)) rfl ?_
  refine lst_guard rfl rfl ?_
  refine lst_run (run_fieldAddr (off := 5) rfl rfl) rfl ?_
  refine lst_guard rfl rfl ?_
  first
    | refine lst_run (run_load1_own hS rfl rfl (by first | exact .head | exact .tail .head | exact .tail (.tail .head) | exact .tail (.tail (.tail .head)) | exact .tail (.tail (.tail (.tail .head))) | exact .tail (.tail (.tail (.tail (.tail .head))))) (by repeat constructor)) rfl ?_
    | refine lst_run (run_load1 rfl rfl (by first | assumption | exact hS.cell0 (by assumption) | exact lv_next hS | exact lv_list hS)) rfl ?_
  refine lst_guard rfl rfl ?_
  first
    | refine lst_run (run_eql_one_int rfl rfl) rfl ?_
    | refine lst_run (run_eql_no rfl rfl (by first | assumption | omega)) rfl ?_
    | refine lst_run (run_eql_yes rfl rfl (by omega)) rfl ?_
    | refine lst_run (rfl) rfl ?_
  first
    | refine lst_run (run_pick_t rfl (by conv => lhs; whnf)) rfl ?_
    | refine lst_run (run_pick_f rfl (by conv => lhs; whnf)) rfl ?_
  refine lst_run (run_move (by conv => lhs; whnf)) rfl ?_
  refine lst_guard rfl rfl ?_
  refine lst_run (run_move (by conv => lhs; whnf)) rfl ?_
  refine lst_guard rfl rfl ?_
  refine lst_run (run_indexAddr (sz := 6) rfl rfl rfl rfl (by omega) (by omega)) rfl ?_
  refine lst_guard rfl rfl ?_
  refine lst_run (run_fieldAddr (off := 0) rfl rfl) rfl ?_
  refine lst_guard rfl rfl ?_
  first
    | refine lst_run (run_loadN_own (k := 4) hS rfl rfl rfl (by first | exact .head | exact .tail .head | exact .tail (.tail .head) | exact .tail (.tail (.tail .head)) | exact .tail (.tail (.tail (.tail .head))) | exact .tail (.tail (.tail (.tail (.tail .head))))) (by repeat constructor)) rfl ?_
    | refine lst_run (run_load4 rfl rfl rfl (by first | assumption | exact hS.cell0 (by assumption)) (by first | assumption | exact hS.cell0 (by assumption)) (by first | assumption | exact hS.cell0 (by assumption)) (by first | assumption | exact hS.cell0 (by assumption))) rfl ?_
  refine lst_guard rfl rfl ?_
  have hp := print_any 3 0 [113] rdHead _ w1 (fun w' hw => hG w' (hS.ext.trans hw)) b3' (by decide) ⟨by decide, trivial, trivial⟩ (by decide) (by rw [rd_out]; decide)
  rw [rd_out] at hp
  refine lst_enter (run_call (by kernel_rfl) (args_1 (by conv => lhs; whnf))) rfl ?_
  refine Calls.mono (hp) ?_
  rintro _ w2 ⟨rfl, hb2⟩
  refine ⟨_, rfl, ?_⟩
  replace hS := hS.grow hb2
  refine lst_guard rfl rfl ?_
  first
    | refine lst_run (run_eqlS_t rfl rfl (by assumption)) rfl ?_
    | refine lst_run (run_eqlS_f rfl rfl (by assumption)) rfl ?_
    | refine lst_run (run_eql_str rfl rfl) rfl ?_
    | refine lst_run (rfl) rfl ?_
  first
    | refine lst_run (run_pick_t rfl (by conv => lhs; whnf)) rfl ?_
    | refine lst_run (run_pick_f rfl (by conv => lhs; whnf)) rfl ?_
  refine lst_run (run_assign (by conv => lhs; whnf)) rfl ?_
  refine lst_done ?_
  refine goes_ret1 Tryz.func8 rfl (by conv => lhs; whnf) ?_
  exact ⟨rfl, hS.ext.below⟩
end Go.Proofs.YtdiophafmokfiaaGreatDoor
namespace Go.Proofs.YtdiophafmokfiaaGreatDoor
open Go.RowKit
set_option linter.unusedVariables false

/-! Words -/
def wordLen : Str → Nat
  | [] => 0
  | c :: r =>
    if lowB c || upB c then 1 + spanN lowB r
    else if digB c || (c == 45) then 1 + spanN digB r
    else if ([58, 45] : Str).isPrefixOf (c :: r) then 2
    else if signs.contains c then 1
    else 0
def wordsF : Nat → Str → List Str
  | 0, _ => []
  | f + 1, [] => []
  | f + 1, c :: r =>
    if whiteB c then wordsF f r
    else if wordLen (c :: r) = 0 then [[]]
    else (c :: r).take (wordLen (c :: r)) :: wordsF f ((c :: r).drop (wordLen (c :: r)))
def wordsM (l : Str) : List Str := wordsF l.length l
theorem wordLen_le (l : Str) : wordLen l ≤ l.length := by
  cases l with
  | nil => exact Nat.le_refl _
  | cons c r =>
    have h1 := spanN_le lowB r
    have h2 := spanN_le digB r
    simp only [wordLen]
    split
    · simp; omega
    split
    · simp; omega
    split
    · rename_i h
      cases r with
      | nil => simp [List.isPrefixOf] at h
      | cons d r => simp
    split
    · simp
    · simp
theorem words_fuel : ∀ (n : Nat) (l : Str), l.length ≤ n → wordsF n l = wordsM l := by
  intro n
  induction n using Nat.strongRecOn with
  | _ n ih =>
    intro l hn
    cases l with
    | nil => cases n <;> rfl
    | cons c r =>
      obtain ⟨m, rfl⟩ : ∃ m, n = m + 1 := ⟨n - 1, by simp at hn; omega⟩
      unfold wordsM
      simp only [List.length_cons] at hn ⊢
      simp only [wordsF]
      split
      · rw [ih m (by omega) r (by omega)]; rfl
      split
      · rfl
      · rename_i hw
        have hl : ((c :: r).drop (wordLen (c :: r))).length ≤ r.length := by
          rw [List.length_drop]; simp; omega
        rw [ih m (by omega) _ (by omega)]
        by_cases e : m = r.length
        · rw [e] at ih; rw [← ih r.length (by omega) _ hl]
        · rw [← ih r.length (by omega) _ hl]
theorem words_nil : wordsM [] = [] := rfl
theorem words_white {c : UInt8} (r : Str) (h : whiteB c = true) : wordsM (c :: r) = wordsM r := by
  rw [← words_fuel (r.length + 1) (c :: r) (by simp), wordsF, if_pos h, words_fuel _ r (Nat.le_refl _)]
theorem words_bad {c : UInt8} (r : Str) (h : whiteB c = false) (hw : wordLen (c :: r) = 0) : wordsM (c :: r) = [[]] := by
  rw [← words_fuel (r.length + 1) (c :: r) (by simp), wordsF, if_neg (by simp [h]), if_pos hw]
theorem words_word {c : UInt8} (r : Str) (h : whiteB c = false) (hw : wordLen (c :: r) ≠ 0) : wordsM (c :: r) = (c :: r).take (wordLen (c :: r)) :: wordsM ((c :: r).drop (wordLen (c :: r))) := by
  rw [← words_fuel (r.length + 1) (c :: r) (by simp), wordsF, if_neg (by simp [h]), if_neg hw, words_fuel _ _ (by rw [List.length_drop]; simp; omega)]

/-! The reader of words -/
structure PS where
  l : List Str
  vars : List Str
  bad : Bool
def PS.has (p : PS) (t : Str) : Bool := p.l.head? == some t
def PS.pop (p : PS) : PS := { p with l := p.l.tail }
def PS.spoil (p : PS) : PS := { p with bad := true }
/-- Behind a list: the word t is wanted. -/
def PS.close (p : PS) (t : Str) : PS := if p.bad then p else if p.has t then p.pop else p.spoil
def PS.var (p : PS) (x : Str) : Nat × PS := if x ∈ p.vars then (idxOfV p.vars x, p) else (p.vars.length, { p with vars := p.vars ++ [x] })
def dval (d : Str) : Nat := d.foldl (fun n c => 10 * n + (c - 48).toNat) 0
def bareM (s : Str) : Str := match s with | 45 :: r => r | _ => s
def valueM (s : Str) : Option Int :=
  let d := bareM s
  if d = [] ∨ 13 < d.length ∨ (headC d = 48 ∧ s ≠ [48]) then none
  else if 1099511627776 < dval d then none
  else some (if d = s then (dval d : Int) else -(dval d : Int))
def refLoop (f : PS → Nd × PS) : Nat → PS → List Nd × PS
  | 0, p => ([], p)
  | fuel + 1, p => if p.bad = false ∧ p.has [44] = true then
      let a := f p.pop
      let q := refLoop f fuel a.2
      (a.1 :: q.1, q.2)
    else ([], p)
def refTerms (f : PS → Nd × PS) (t : Str) (p : PS) : List Nd × PS :=
  let a := f p
  let q := refLoop f a.2.l.length a.2
  (a.1 :: q.1, q.2.close t)
def refTerm : Nat → PS → Nd × PS
  | 0, p => (Nd.zero, p.spoil)
  | d + 1, p => match p.l with
    | [] => (Nd.zero, p.spoil)
    | [] :: _ => (Nd.zero, p.spoil)
    | (c :: r) :: _ =>
      if c :: r = [33] then (⟨1, 0, [33], .nil⟩, p.pop)
      else if upB c then (⟨0, (p.pop.var (c :: r)).1, [], .nil⟩, (p.pop.var (c :: r)).2)
      else if (c == 45) || digB c then (⟨2, (valueM (c :: r)).getD 0, [], .nil⟩, { p.pop with bad := p.bad || (valueM (c :: r)).isNone })
      else if lowB c = false then (Nd.zero, p.spoil)
      else if p.pop.has [40] then
        (⟨3, 0, c :: r, tsOf (refTerms (refTerm d) [41] p.pop.pop).1⟩, (refTerms (refTerm d) [41] p.pop.pop).2)
      else (⟨1, 0, c :: r, .nil⟩, p.pop)
def refGoals (p : PS) : List Nd × PS := refTerms (refTerm 24) [46] p
def refBody (p : PS) : List Nd × PS := if p.bad = false ∧ p.has [58, 45] = true then refGoals p.pop else ([], p.close [46])

/-! Nothing comes back that was read. -/
theorem pop_le (p : PS) : p.pop.l.length ≤ p.l.length := by simp [PS.pop]
theorem close_le (p : PS) (t : Str) : (p.close t).l.length ≤ p.l.length := by
  unfold PS.close
  split
  · exact Nat.le_refl _
  split
  · exact pop_le p
  · exact Nat.le_refl _
theorem has_pop {p : PS} {t : Str} (h : p.has t = true) : p.pop.l.length < p.l.length ∧ p.l = t :: p.pop.l := by
  unfold PS.has at h
  cases hl : p.l with
  | nil => rw [hl] at h; simp at h
  | cons x r => rw [hl] at h; simp at h; simp [PS.pop, hl, h]
def LessP (f : PS → Nd × PS) : Prop := ∀ p, (f p).2.l.length ≤ p.l.length
theorem refLoop_le {f : PS → Nd × PS} (hf : LessP f) : ∀ (n : Nat) (p : PS), (refLoop f n p).2.l.length ≤ p.l.length
  | 0, p => Nat.le_refl _
  | n + 1, p => by
    unfold refLoop
    split
    · have h1 := refLoop_le hf n (f p.pop).2
      have h2 := hf p.pop
      have h3 := pop_le p
      simp only
      omega
    · exact Nat.le_refl _
theorem refTerms_le {f : PS → Nd × PS} (hf : LessP f) (t : Str) (p : PS) : (refTerms f t p).2.l.length ≤ p.l.length := by
  have h1 := refLoop_le hf (f p).2.l.length (f p).2
  have h2 := hf p
  have h3 := close_le (refLoop f (f p).2.l.length (f p).2).2 t
  simp only [refTerms]
  omega
theorem pvar_l (p : PS) (x : Str) : (p.var x).2.l = p.l ∧ (p.var x).2.bad = p.bad := by
  unfold PS.var
  split <;> exact ⟨rfl, rfl⟩
theorem refTerm_le : ∀ d, LessP (refTerm d)
  | 0, p => Nat.le_refl _
  | d + 1, p => by
    unfold refTerm
    have h1 := pop_le p
    split
    · exact Nat.le_refl _
    · exact Nat.le_refl _
    · rename_i c r q hl
      split
      · exact h1
      split
      · rw [(pvar_l _ _).1]; exact h1
      split
      · exact h1
      split
      · exact Nat.le_refl _
      split
      · have h2 := refTerms_le (refTerm_le d) [41] p.pop.pop
        have h3 := pop_le p.pop
        simp only; omega
      · exact h1
theorem refLoop_fuel {f : PS → Nd × PS} (hf : LessP f) : ∀ (n : Nat) (p : PS), p.l.length ≤ n → refLoop f n p = refLoop f p.l.length p := by
  intro n
  induction n using Nat.strongRecOn with
  | _ n ih =>
    intro p hn
    by_cases ht : p.bad = false ∧ p.has [44] = true
    · have h1 := (has_pop ht.2).1
      have h2 := hf p.pop
      obtain ⟨m, rfl⟩ : ∃ m, n = m + 1 := ⟨n - 1, by omega⟩
      obtain ⟨l, hl⟩ : ∃ l, p.l.length = l + 1 := ⟨p.l.length - 1, by omega⟩
      rw [hl]
      simp only [refLoop, if_pos ht]
      rw [ih m (by omega) (f p.pop).2 (by omega), ih l (by omega) (f p.pop).2 (by omega)]
    · have h0 : ∀ k, refLoop f k p = ([], p) := fun k => by cases k with | zero => rfl | succ k => simp only [refLoop, if_neg ht]
      rw [h0, h0]
theorem refLoop_step {f : PS → Nd × PS} (hf : LessP f) {p : PS} (ht : p.bad = false ∧ p.has [44] = true) : refLoop f p.l.length p = ((f p.pop).1 :: (refLoop f (f p.pop).2.l.length (f p.pop).2).1, (refLoop f (f p.pop).2.l.length (f p.pop).2).2) := by
  have h1 := (has_pop ht.2).1
  have h2 := hf p.pop
  obtain ⟨l, hl⟩ : ∃ l, p.l.length = l + 1 := ⟨p.l.length - 1, by omega⟩
  rw [hl]
  simp only [refLoop, if_pos ht]
  rw [refLoop_fuel hf l (f p.pop).2 (by omega)]
theorem refLoop_stop {f : PS → Nd × PS} {p : PS} (ht : ¬ (p.bad = false ∧ p.has [44] = true)) : refLoop f p.l.length p = ([], p) := by
  cases p.l.length with
  | zero => rfl
  | succ k => simp only [refLoop, if_neg ht]
end Go.Proofs.YtdiophafmokfiaaGreatDoor
namespace Go.Proofs.YtdiophafmokfiaaGreatDoor
open Go.RowKit
set_option linter.unusedVariables false
set_option linter.unusedSimpArgs false
section
variable {P : Program} {n : Nat} {e : Env} {w : World} {ty : TypeId} {pos : String} {after : Array Edge} {x y z : Operand} {dst : Option Nat} {t : TypeId}
theorem run_slice_both {i j : Int} {l : Str} (hx : ev n e x = sv l) (hy : ev n e y = .int .i64 i) (hz : ev n e z = .int .i64 j) (hT : isStringP P t = true) (h0 : 0 ≤ i) (h1 : i ≤ j) (h2 : j.toNat ≤ l.length) :
    (execOp (ev n e) ⟨dst, .slice t x (some y) (some z) none, ty, pos, after, none⟩).run P w = .ok (.value (sv ((l.take j.toNat).drop i.toNat))) w := by
  have hu := run_underlying (stringP hT) w
  have hs : (⟨l.toArray⟩ : ByteArray).size = l.length := size_mk l
  simp only [execOp, Instr.sliceAt, Instr.slice, hx, hy, hz, sv, Option.map_some, Option.map_none, bind, pure, Sem.bind]
  rw [Sem.run_bind', Sem.run_bind', hu]
  simp only [Result.andThen_ok]
  rw [Sem.run_bind', hu]
  simp only [Result.andThen_ok, Instr.sliceBounds, Option.isSome_none, Bool.false_eq_true, if_false, bind, pure, Sem.bind]
  rw [Sem.run_bind', Sem.run_bind', run_bound rfl (by omega) (by rw [hs]; omega)]
  simp only [Result.andThen_ok]
  rw [Sem.run_bind', run_bound rfl h0 (by omega)]
  simp only [Result.andThen_ok]
  have : ∀ a b c : Nat, Sem.run P (Sem.pure (a, b, c)) w = .ok (a, b, c) w := fun _ _ _ => rfl
  rw [this]
  simp only [Result.andThen_ok, Sem.run, extract_mk]
end
section
variable {P : Program} {n : Nat} {e : Env} {w w' : World} {ty : TypeId} {pos : String} {after : Array Edge} {x y z : Operand} {dst : Option Nat} {t t2 : TypeId}
theorem run_mul {a c : Int} (hx : ev n e x = .int .i64 a) (hy : ev n e y = .int .i64 c) (h1 : -9223372036854775808 ≤ a * c) (h2 : a * c ≤ 9223372036854775807) :
    (execOp (ev n e) ⟨dst, .binOp .mul t x y t2, ty, pos, after, none⟩).run P w = .ok (.value (.int .i64 (a * c))) w := by
  have : (execOp (ev n e) ⟨dst, .binOp .mul t x y t2, ty, pos, after, none⟩).run P w = .ok (.value (.int .i64 (IntKind.i64.wrap (a * c)))) w := by simp only [execOp, hx, hy]; rfl
  rw [this, wrap_of h1 h2]
theorem sub48 (c : UInt8) : IntKind.u8.wrap ((c.toNat : Int) - 48) = ((c - 48).toNat : Int) := by
  have h : ∀ k : Fin 256, IntKind.u8.wrap (((UInt8.ofNat k.val).toNat : Int) - 48) = ((UInt8.ofNat k.val - 48).toNat : Int) := by decide +kernel
  have := h ⟨c.toNat, c.toNat_lt⟩
  simpa using this
theorem run_sub_u8 {c : UInt8} (hx : ev n e x = .int .u8 c.toNat) (hy : ev n e y = .int .u8 48) :
    (execOp (ev n e) ⟨dst, .binOp .sub t x y t2, ty, pos, after, none⟩).run P w = .ok (.value (.int .u8 ((c - 48).toNat : Nat))) w := by
  have : (execOp (ev n e) ⟨dst, .binOp .sub t x y t2, ty, pos, after, none⟩).run P w = .ok (.value (.int .u8 (IntKind.u8.wrap ((c.toNat : Int) - 48)))) w := by simp only [execOp, hx, hy]; rfl
  rw [this, sub48]
def isIntP (P : Program) (t : TypeId) (k : IntKind) : Bool := match P.underlying t with | some (.int q) => q == k | _ => false
theorem intP {k : IntKind} (h : isIntP P t k = true) : P.underlying t = some (.int k) := by
  unfold isIntP at h
  split at h
  · rename_i q hq; rw [hq, eq_of_beq h]
  · cases h
theorem run_convert_to {u v : Value} {src dt : TypeId} (hx : ev n e x = u) (h : (convert src dt u).run P w = .ok v w') : (execOp (ev n e) ⟨dst, .convert src dt x, ty, pos, after, none⟩).run P w = .ok (.value v) w' := by
  subst hx
  show (Sem.bind (convert _ _ _) _).run _ _ = _
  rw [Sem.run_bind', h]
  rfl
theorem run_convert_u8 {c : UInt8} {src dt : TypeId} (hx : ev n e x = .int .u8 (c.toNat : Nat)) (hs : isIntP P src .u8 = true) (hd : isIntP P dt .i64 = true) :
    (execOp (ev n e) ⟨dst, .convert src dt x, ty, pos, after, none⟩).run P w = .ok (.value (.int .i64 (c.toNat : Nat))) w := by
  refine run_convert_to hx ?_
  have := c.toNat_lt
  simp [convert, run_underlying (intP hs), run_underlying (intP hd), Conv.intToInt]
  exact wrap_of (by omega) (by omega)
end
section
variable {P : Program} {Q : Exit → Act → World → Prop} {ops : Array Oper} {rest : List Oper} {n d : Nat} {e : Env} {w : World} {ty : TypeId} {pos : String} {after : Array Edge}
theorem yielded_undef {j : Nat} (h : yd ops n e j = some undef) : yielded ops (arr n e) j = none := by
  unfold yd at h
  unfold yielded
  cases ho : ops[j]? with
  | none => rfl
  | some o =>
    rw [ho] at h
    simp only [Option.bind_some] at h ⊢
    cases hd : o.dst with
    | none => rfl
    | some t =>
      rw [hd] at h
      simp only [Option.bind_some] at h ⊢
      by_cases ht : t < n
      · have h' : Nat.blt t n = true := by simpa [Nat.blt_eq] using ht
        rw [h', cond_true] at h
        have hl : (arr n e)[t]? = some (lk e t) := by simp [arr, ht]
        rw [hl, Option.some.inj h]
        rfl
      · have h' : Nat.blt t n = false := blt_no ht
        rw [h', cond_false] at h; cases h
/-- A guard that hangs on what was passed over. -/
theorem lst_passU {op : Op} {j : Nat} {g : Bool} (hy : yd ops n e j = some undef) (hd : Nat.blt d n = true)
    (h : Lst P Q ops rest n ((d, undef) :: e) w) : Lst P Q ops (⟨some d, op, ty, pos, after, some (j, g)⟩ :: rest) n e w := by
  unfold Lst at h ⊢
  unfold wpList
  rw [if_neg (by simp [Region.wanted, act, yielded_undef hy]), act_put hd]
  exact h
end
/-- A slice of strings. -/
def Ss (w : World) (v : Value) (l : List Str) : Prop :=
  ∃ A c, v = .slice A l.length c ∧ l.length ≤ c ∧ (0 < l.length → ∃ b o, A = some ⟨b, o, none⟩ ∧ ∀ (j : Nat) (x : Str), l[j]? = some x → w.cell? ⟨b, o + j, none⟩ = some (sv x))
/-- Wherever φ holds. -/
def Sx (φ : World → Prop) (v : Value) (l : List Str) : Prop := ∃ A c, v = .slice A l.length c ∧ l.length ≤ c ∧ (0 < l.length → ∃ b o, A = some ⟨b, o, none⟩ ∧ ∀ w, φ w → ∀ (j : Nat) (x : Str), l[j]? = some x → w.cell? ⟨b, o + j, none⟩ = some (sv x))
theorem Sx.tail {φ : World → Prop} {A : Option Addr} {c len : Nat} {x : Str} {r : List Str} (h : Sx φ (.slice A len c) (x :: r)) : Sx φ (.slice (if c = 1 then A else A.map (·.add 1)) (len - 1) (c - 1)) r := by
  obtain ⟨A', c', e, hc, hs⟩ := h
  simp only [Value.slice.injEq] at e
  obtain ⟨rfl, rfl, rfl⟩ := e
  simp only [List.length_cons] at hc hs ⊢
  refine ⟨_, _, by rw [Nat.add_sub_cancel], by omega, fun hr => ?_⟩
  obtain ⟨b, o, rfl, hj⟩ := hs (by omega)
  rw [if_neg (by omega)]
  refine ⟨b, o + 1, by simp [addrPlus], fun w hw j y hy => ?_⟩
  have := hj w hw (j + 1) y (by simpa using hy)
  rwa [show o + (j + 1) = o + 1 + j by omega] at this
theorem Sx.head {φ : World → Prop} {A : Option Addr} {c len : Nat} {x : Str} {r : List Str} (h : Sx φ (.slice A len c) (x :: r)) : len = r.length + 1 ∧ len ≤ c ∧ ∃ b o, A = some ⟨b, o, none⟩ ∧ ∀ w, φ w → w.cell? ⟨b, o, none⟩ = some (sv x) := by
  obtain ⟨A', c', e, hc, hs⟩ := h
  simp only [Value.slice.injEq] at e
  obtain ⟨rfl, rfl, rfl⟩ := e
  obtain ⟨b, o, rfl, hj⟩ := hs (by simp)
  exact ⟨by simp, hc, b, o, rfl, fun w hw => hj w hw 0 x rfl⟩
theorem Sx.form {φ : World → Prop} {v : Value} {l : List Str} (h : Sx φ v l) : ∃ A c, v = .slice A l.length c ∧ l.length ≤ c := by
  obtain ⟨A, c, rfl, hc, _⟩ := h
  exact ⟨A, c, rfl, hc⟩
section
variable {M : List Nat} {w0 : World} {H : List (Nat × Obj)} {F : List (World → Prop)}
/-- A row of strings of the call's own, that is never turned again. -/
theorem St.shutS {v : Value} {O : List (Nat × Obj)} {l : List Str} {w : World} {el : Nat} (hr : Row el 1 v l.length (l.map sv) O) (hS : St M w0 (O ++ H) F w) :
    ∃ φ, Sx φ v l ∧ St M w0 H (φ :: F) w := by
  generalize hl : l.length = ll at hr
  generalize hx : l.map sv = xs at hr
  cases hr with
  | nil_ =>
    refine ⟨fun _ => True, ⟨none, 0, by rw [hl], by omega, fun h => by omega⟩, ?_⟩
    exact hS.learn fun _ _ => trivial
  | own_ h1 h2 h3 hcp =>
    rename_i bl cap sp
    subst hx
    refine ⟨fun w' => w'.heap[bl]? = some (.cells (l.map sv ++ sp).toArray el), ⟨_, cap, by rw [hl], by omega, fun _ => ⟨bl, 0, rfl, fun w' hw' j x hj => ?_⟩⟩, ?_⟩
    · rw [cell_own hw', Nat.zero_add, List.getElem?_append_left (by
        have : j < l.length := by
          rcases Nat.lt_or_ge j l.length with h | h
          · exact h
          · rw [List.getElem?_eq_none h] at hj; cases hj
        simpa using this), List.getElem?_map, hj]
      rfl
    · have hbl : w.heap[bl]? = some (.cells (l.map sv ++ sp).toArray el) := hS.own (bl, _) (by simp)
      have hnk : bl ∉ H.map (·.1) := fun hk => by
        obtain ⟨q, hq, e⟩ := List.mem_map.1 hk
        exact (List.pairwise_cons.1 hS.apart).1 q hq e.symm
      exact (St.dropL hS).learn fun w' hx => by rw [hx.block bl (own_lt hbl) hnk]; exact hbl
end
end Go.Proofs.YtdiophafmokfiaaGreatDoor
