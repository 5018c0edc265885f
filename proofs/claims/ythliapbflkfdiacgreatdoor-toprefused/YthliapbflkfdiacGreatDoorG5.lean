/- PWalk, Prn, EModel, EBld, EWalk1, Arr: texts that follow one another, laid into one file. -/
import Derived.Test.YthliapbflkfdiacGreatDoorG1
import Derived.Test.YthliapbflkfdiacGreatDoorG4
import Derived.Laws.Runes
import Derived.Lib.ItoaLen
import Derived.Test.YthliapbflkfdiacGreatDoorG0
namespace Go.Proofs.YthliapbflkfdiacGreatDoor
open Go.RowKit Go.Shelf
set_option linter.unusedVariables false
set_option linter.unusedSimpArgs false
set_option maxRecDepth 100000
set_option maxHeartbeats 1000000

def letterM (n : Int) : Str := if n < 0 ∨ 25 < n then [90, 122] else [UInt8.ofNat (65 + n.toNat)]
def labelM (k n : Int) (s : Str) : Str := if k = 0 then letterM n else if k = 2 then Lib.itoa n else if k = 1 ∨ k = 3 then s else []
theorem enc_letter (n : Int) (h0 : 0 ≤ n) (h1 : n ≤ 25) : Value.string (Utf8.encode (IntKind.i32.wrap (65 + n))) = sv (letterM n) := by
  obtain ⟨m, rfl⟩ : ∃ m : Nat, n = m := ⟨n.toNat, by omega⟩
  have h : ∀ i : Fin 26, Utf8.encode (IntKind.i32.wrap (65 + ((i.val : Nat) : Int))) = ⟨(letterM (i.val : Nat)).toArray⟩ := by decide +kernel
  rw [h ⟨m, by omega⟩]
section
variable {M : List Nat} {w0 : World} {H : List (Nat × Obj)} {F : List (World → Prop)} {b : Nat}
theorem letter_any (n : Int) (w : World) (hn : -9223372036854775808 ≤ n ∧ n ≤ 9223372036854775807) : Calls Tryz.prog 203 #[.int .i64 n] w fun e w' => e = .returned (sv (letterM n)) ∧ w' = w := by
  by_cases h0 : n < 0
  · have e1 : letterM n = [90, 122] := by simp [letterM, h0]
    rw [e1]
    refine goes_enter1 Tryz.func203 rfl Tryz.ntmps203 rfl ?_
    refine goes_seq ?_
    refine goes_region ?_
    refine lst_run (run_assign (by conv => lhs; whnf)) rfl ?_
    refine lst_done ?_
    refine goes_seq ?_
    refine goes_seq ?_
    refine goes_region ?_
    refine lst_run (run_move (by conv => lhs; whnf)) rfl ?_
    first
      | refine lst_run (run_lss_yes rfl rfl (by omega)) rfl ?_
      | refine lst_run (run_lss_no rfl rfl (by omega)) rfl ?_
      | refine lst_run (rfl) rfl ?_
    refine lst_run (run_move (by conv => lhs; whnf)) rfl ?_
    refine lst_pass rfl rfl rfl ?_
    refine lst_pass rfl rfl rfl ?_
    first
      | refine lst_run (run_pick_t rfl (by conv => lhs; whnf)) rfl ?_
      | refine lst_run (run_pick_f rfl (by conv => lhs; whnf)) rfl ?_
    refine lst_done ?_
    refine goes_true rfl ?_
    refine goes_seq ?_
    refine goes_region ?_
    refine lst_run (run_assign (by conv => lhs; whnf)) rfl ?_
    refine lst_done ?_
    refine goes_ret1 Tryz.func203 rfl (by conv => lhs; whnf) ?_
    exact ⟨rfl, rfl⟩
  · by_cases h1 : n > 25
    · have e1 : letterM n = [90, 122] := by simp [letterM]; omega
      rw [e1]
      refine goes_enter1 Tryz.func203 rfl Tryz.ntmps203 rfl ?_
      refine goes_seq ?_
      refine goes_region ?_
      refine lst_run (run_assign (by conv => lhs; whnf)) rfl ?_
      refine lst_done ?_
      refine goes_seq ?_
      refine goes_seq ?_
      refine goes_region ?_
      refine lst_run (run_move (by conv => lhs; whnf)) rfl ?_
      first
        | refine lst_run (run_lss_yes rfl rfl (by omega)) rfl ?_
        | refine lst_run (run_lss_no rfl rfl (by omega)) rfl ?_
        | refine lst_run (rfl) rfl ?_
      refine lst_run (run_move (by conv => lhs; whnf)) rfl ?_
      refine lst_guard rfl rfl ?_
      refine lst_run (run_move (by conv => lhs; whnf)) rfl ?_
      refine lst_guard rfl rfl ?_
      first
        | refine lst_run (run_gtr_yes rfl rfl (by omega)) rfl ?_
        | refine lst_run (run_gtr_no rfl rfl (by omega)) rfl ?_
        | refine lst_run (rfl) rfl ?_
      first
        | refine lst_run (run_pick_t rfl (by conv => lhs; whnf)) rfl ?_
        | refine lst_run (run_pick_f rfl (by conv => lhs; whnf)) rfl ?_
      refine lst_done ?_
      refine goes_true rfl ?_
      refine goes_seq ?_
      refine goes_region ?_
      refine lst_run (run_assign (by conv => lhs; whnf)) rfl ?_
      refine lst_done ?_
      refine goes_ret1 Tryz.func203 rfl (by conv => lhs; whnf) ?_
      exact ⟨rfl, rfl⟩
    · refine goes_enter1 Tryz.func203 rfl Tryz.ntmps203 rfl ?_
      refine goes_seq ?_
      refine goes_region ?_
      refine lst_run (run_assign (by conv => lhs; whnf)) rfl ?_
      refine lst_done ?_
      refine goes_seq ?_
      refine goes_seq ?_
      refine goes_region ?_
      refine lst_run (run_move (by conv => lhs; whnf)) rfl ?_
      first
        | refine lst_run (run_lss_yes rfl rfl (by omega)) rfl ?_
        | refine lst_run (run_lss_no rfl rfl (by omega)) rfl ?_
        | refine lst_run (rfl) rfl ?_
      refine lst_run (run_move (by conv => lhs; whnf)) rfl ?_
      refine lst_guard rfl rfl ?_
      refine lst_run (run_move (by conv => lhs; whnf)) rfl ?_
      refine lst_guard rfl rfl ?_
      first
        | refine lst_run (run_gtr_yes rfl rfl (by omega)) rfl ?_
        | refine lst_run (run_gtr_no rfl rfl (by omega)) rfl ?_
        | refine lst_run (rfl) rfl ?_
      first
        | refine lst_run (run_pick_t rfl (by conv => lhs; whnf)) rfl ?_
        | refine lst_run (run_pick_f rfl (by conv => lhs; whnf)) rfl ?_
      refine lst_done ?_
      refine goes_false rfl ?_
      refine goes_skip ?_
      refine goes_seq ?_
      refine goes_region ?_
      refine lst_run (run_move (by conv => lhs; whnf)) rfl ?_
      refine lst_run (run_add rfl rfl (by omega) (by omega)) rfl ?_
      first
        | refine lst_run (run_convert_u8 rfl rfl rfl) rfl ?_
        | refine lst_run (rfl) rfl ?_
      first
        | refine lst_run (run_convert_u8 rfl rfl rfl) rfl ?_
        | refine lst_run (rfl) rfl ?_
      refine lst_run (run_assign (by conv => lhs; whnf)) rfl ?_
      refine lst_done ?_
      refine goes_ret1 Tryz.func203 rfl (by conv => lhs; whnf) ?_
      exact ⟨by rw [enc_letter n (by omega) (by omega)], rfl⟩
/-- What the printer needs of a number. -/
def ItoaAt (n : Int) (w : World) : Prop := Calls Tryz.prog 67 #[.int .i64 n] w fun e w' => e = .returned (sv (Lib.itoa n)) ∧ Below w.heap.size w w'
theorem itoaAt (n : Int) (w : World) (hn : -9223372036854775808 ≤ n ∧ n ≤ 9223372036854775807) (g : GVars w) : ItoaAt n w := by
  refine Calls.mono (Any.strconv_Itoa Tryz.laysM171 n hn.1 hn.2 w g.tab) ?_
  rintro e w'' ⟨rfl, k, os, rfl⟩
  exact ⟨rfl, grow_below _ _ _⟩
theorem label_any (k n : Int) (s : Str) (v : Value) (w : World) (hn : -9223372036854775808 ≤ n ∧ n ≤ 9223372036854775807) (hG : ∀ w', Ext M w0 w' → GVars w') (hS : St M w0 H F w) :
    Calls Tryz.prog 166 #[.agg #[.int .i64 k, .int .i64 n, sv s, v]] w fun e w' => e = .returned (sv (labelM k n s)) ∧ St M w0 H F w' := by
  by_cases h0 : k = 0
  · subst h0
    rw [show labelM 0 n s = letterM n by simp [labelM]]
    refine goes_enter1 Tryz.func166 rfl Tryz.ntmps166 rfl ?_
    refine goes_seq ?_
    refine goes_region ?_
    refine lst_box hS rfl rfl ?_
    clear hS
    intro b1 wx1 hS
    refine lst_run (run_assign (by conv => lhs; whnf)) rfl ?_
    refine lst_done ?_
    refine goes_seq ?_
    refine goes_seq ?_
    refine goes_region ?_
    refine lst_run (run_fieldAddr (off := 0) rfl rfl) rfl ?_
    first
      | refine lst_run (run_load1_own hS rfl rfl (by first | exact .head | exact .tail .head | exact .tail (.tail .head) | exact .tail (.tail (.tail .head)) | exact .tail (.tail (.tail (.tail .head))) | exact .tail (.tail (.tail (.tail (.tail .head))))) (by repeat constructor)) rfl ?_
      | refine lst_run (run_load1 rfl rfl (by first | assumption | exact hS.cell0 (by assumption) | exact lv_next hS | exact lv_list hS)) rfl ?_
    refine lst_done ?_
    refine goes_block ?_
    refine goes_seq ?_
    refine goes_region ?_
    first
      | refine lst_run (run_eql_one_int rfl rfl) rfl ?_
      | refine lst_run (run_eql_no rfl rfl (by first | assumption | omega)) rfl ?_
      | refine lst_run (run_eql_yes rfl rfl (by omega)) rfl ?_
      | refine lst_run (rfl) rfl ?_
    refine lst_run (run_assign (by conv => lhs; whnf)) rfl ?_
    refine lst_done ?_
    refine goes_true rfl ?_
    refine goes_seq ?_
    refine goes_region ?_
    refine lst_run (run_fieldAddr (off := 1) rfl rfl) rfl ?_
    first
      | refine lst_run (run_load1_own hS rfl rfl (by first | exact .head | exact .tail .head | exact .tail (.tail .head) | exact .tail (.tail (.tail .head)) | exact .tail (.tail (.tail (.tail .head))) | exact .tail (.tail (.tail (.tail (.tail .head))))) (by repeat constructor)) rfl ?_
      | refine lst_run (run_load1 rfl rfl (by first | assumption | exact hS.cell0 (by assumption) | exact lv_next hS | exact lv_list hS)) rfl ?_
    refine lst_enter (run_call (by kernel_rfl) (args_1 (by conv => lhs; whnf))) rfl ?_
    refine Calls.mono (letter_any n _ hn) ?_
    rintro _ w1 ⟨rfl, rfl⟩
    refine ⟨_, rfl, ?_⟩
    refine lst_run (run_assign (by conv => lhs; whnf)) rfl ?_
    refine lst_done ?_
    refine goes_ret1 Tryz.func166 rfl (by conv => lhs; whnf) ?_
    exact ⟨rfl, hS.drop⟩
  by_cases h2 : k = 2
  · subst h2
    rw [show labelM 2 n s = Lib.itoa n by simp [labelM]]
    refine goes_enter1 Tryz.func166 rfl Tryz.ntmps166 rfl ?_
    refine goes_seq ?_
    refine goes_region ?_
    refine lst_box hS rfl rfl ?_
    clear hS
    intro b1 wx1 hS
    refine lst_run (run_assign (by conv => lhs; whnf)) rfl ?_
    refine lst_done ?_
    refine goes_seq ?_
    refine goes_seq ?_
    refine goes_region ?_
    refine lst_run (run_fieldAddr (off := 0) rfl rfl) rfl ?_
    first
      | refine lst_run (run_load1_own hS rfl rfl (by first | exact .head | exact .tail .head | exact .tail (.tail .head) | exact .tail (.tail (.tail .head)) | exact .tail (.tail (.tail (.tail .head))) | exact .tail (.tail (.tail (.tail (.tail .head))))) (by repeat constructor)) rfl ?_
      | refine lst_run (run_load1 rfl rfl (by first | assumption | exact hS.cell0 (by assumption) | exact lv_next hS | exact lv_list hS)) rfl ?_
    refine lst_done ?_
    refine goes_block ?_
    refine goes_seq ?_
    refine goes_region ?_
    first
      | refine lst_run (run_eql_one_int rfl rfl) rfl ?_
      | refine lst_run (run_eql_no rfl rfl (by first | assumption | omega)) rfl ?_
      | refine lst_run (run_eql_yes rfl rfl (by omega)) rfl ?_
      | refine lst_run (rfl) rfl ?_
    refine lst_run (run_assign (by conv => lhs; whnf)) rfl ?_
    refine lst_done ?_
    refine goes_false rfl ?_
    refine goes_seq ?_
    refine goes_region ?_
    first
      | refine lst_run (run_eql_one_int rfl rfl) rfl ?_
      | refine lst_run (run_eql_no rfl rfl (by first | assumption | omega)) rfl ?_
      | refine lst_run (run_eql_yes rfl rfl (by omega)) rfl ?_
      | refine lst_run (rfl) rfl ?_
    refine lst_run (run_assign (by conv => lhs; whnf)) rfl ?_
    refine lst_done ?_
    refine goes_true rfl ?_
    refine goes_seq ?_
    refine goes_region ?_
    refine lst_run (run_fieldAddr (off := 1) rfl rfl) rfl ?_
    first
      | refine lst_run (run_load1_own hS rfl rfl (by first | exact .head | exact .tail .head | exact .tail (.tail .head) | exact .tail (.tail (.tail .head)) | exact .tail (.tail (.tail (.tail .head))) | exact .tail (.tail (.tail (.tail (.tail .head))))) (by repeat constructor)) rfl ?_
      | refine lst_run (run_load1 rfl rfl (by first | assumption | exact hS.cell0 (by assumption) | exact lv_next hS | exact lv_list hS)) rfl ?_
    refine lst_enter (run_call (by kernel_rfl) (args_1 (by conv => lhs; whnf))) rfl ?_
    refine Calls.mono (itoaAt n _ hn (hG _ hS.ext)) ?_
    rintro _ w1 ⟨rfl, hb1⟩
    refine ⟨_, rfl, ?_⟩
    replace hS := hS.grow hb1
    refine lst_run (run_assign (by conv => lhs; whnf)) rfl ?_
    refine lst_done ?_
    refine goes_ret1 Tryz.func166 rfl (by conv => lhs; whnf) ?_
    exact ⟨rfl, hS.drop⟩
  by_cases h1 : k = 1
  · subst h1
    rw [show labelM 1 n s = s by simp [labelM]]
    refine goes_enter1 Tryz.func166 rfl Tryz.ntmps166 rfl ?_
    refine goes_seq ?_
    refine goes_region ?_
    refine lst_box hS rfl rfl ?_
    clear hS
    intro b1 wx1 hS
    refine lst_run (run_assign (by conv => lhs; whnf)) rfl ?_
    refine lst_done ?_
    refine goes_seq ?_
    refine goes_seq ?_
    refine goes_region ?_
    refine lst_run (run_fieldAddr (off := 0) rfl rfl) rfl ?_
    first
      | refine lst_run (run_load1_own hS rfl rfl (by first | exact .head | exact .tail .head | exact .tail (.tail .head) | exact .tail (.tail (.tail .head)) | exact .tail (.tail (.tail (.tail .head))) | exact .tail (.tail (.tail (.tail (.tail .head))))) (by repeat constructor)) rfl ?_
      | refine lst_run (run_load1 rfl rfl (by first | assumption | exact hS.cell0 (by assumption) | exact lv_next hS | exact lv_list hS)) rfl ?_
    refine lst_done ?_
    refine goes_block ?_
    refine goes_seq ?_
    refine goes_region ?_
    first
      | refine lst_run (run_eql_one_int rfl rfl) rfl ?_
      | refine lst_run (run_eql_no rfl rfl (by first | assumption | omega)) rfl ?_
      | refine lst_run (run_eql_yes rfl rfl (by omega)) rfl ?_
      | refine lst_run (rfl) rfl ?_
    refine lst_run (run_assign (by conv => lhs; whnf)) rfl ?_
    refine lst_done ?_
    refine goes_false rfl ?_
    refine goes_seq ?_
    refine goes_region ?_
    first
      | refine lst_run (run_eql_one_int rfl rfl) rfl ?_
      | refine lst_run (run_eql_no rfl rfl (by first | assumption | omega)) rfl ?_
      | refine lst_run (run_eql_yes rfl rfl (by omega)) rfl ?_
      | refine lst_run (rfl) rfl ?_
    refine lst_run (run_assign (by conv => lhs; whnf)) rfl ?_
    refine lst_done ?_
    refine goes_false rfl ?_
    refine goes_seq ?_
    refine goes_seq ?_
    refine goes_region ?_
    first
      | refine lst_run (run_eql_one_int rfl rfl) rfl ?_
      | refine lst_run (run_eql_no rfl rfl (by first | assumption | omega)) rfl ?_
      | refine lst_run (run_eql_yes rfl rfl (by omega)) rfl ?_
      | refine lst_run (rfl) rfl ?_
    refine lst_run (run_assign (by conv => lhs; whnf)) rfl ?_
    refine lst_done ?_
    refine goes_true rfl ?_
    refine goes_skip ?_
    refine goes_true rfl ?_
    refine goes_seq ?_
    refine goes_region ?_
    refine lst_run (run_fieldAddr (off := 2) rfl rfl) rfl ?_
    first
      | refine lst_run (run_load1_own hS rfl rfl (by first | exact .head | exact .tail .head | exact .tail (.tail .head) | exact .tail (.tail (.tail .head)) | exact .tail (.tail (.tail (.tail .head))) | exact .tail (.tail (.tail (.tail (.tail .head))))) (by repeat constructor)) rfl ?_
      | refine lst_run (run_load1 rfl rfl (by first | assumption | exact hS.cell0 (by assumption) | exact lv_next hS | exact lv_list hS)) rfl ?_
    refine lst_run (run_assign (by conv => lhs; whnf)) rfl ?_
    refine lst_done ?_
    refine goes_ret1 Tryz.func166 rfl (by conv => lhs; whnf) ?_
    exact ⟨rfl, hS.drop⟩
  by_cases h3 : k = 3
  · subst h3
    rw [show labelM 3 n s = s by simp [labelM]]
    refine goes_enter1 Tryz.func166 rfl Tryz.ntmps166 rfl ?_
    refine goes_seq ?_
    refine goes_region ?_
    refine lst_box hS rfl rfl ?_
    clear hS
    intro b1 wx1 hS
    refine lst_run (run_assign (by conv => lhs; whnf)) rfl ?_
    refine lst_done ?_
    refine goes_seq ?_
    refine goes_seq ?_
    refine goes_region ?_
    refine lst_run (run_fieldAddr (off := 0) rfl rfl) rfl ?_
    first
      | refine lst_run (run_load1_own hS rfl rfl (by first | exact .head | exact .tail .head | exact .tail (.tail .head) | exact .tail (.tail (.tail .head)) | exact .tail (.tail (.tail (.tail .head))) | exact .tail (.tail (.tail (.tail (.tail .head))))) (by repeat constructor)) rfl ?_
      | refine lst_run (run_load1 rfl rfl (by first | assumption | exact hS.cell0 (by assumption) | exact lv_next hS | exact lv_list hS)) rfl ?_
    refine lst_done ?_
    refine goes_block ?_
    refine goes_seq ?_
    refine goes_region ?_
    first
      | refine lst_run (run_eql_one_int rfl rfl) rfl ?_
      | refine lst_run (run_eql_no rfl rfl (by first | assumption | omega)) rfl ?_
      | refine lst_run (run_eql_yes rfl rfl (by omega)) rfl ?_
      | refine lst_run (rfl) rfl ?_
    refine lst_run (run_assign (by conv => lhs; whnf)) rfl ?_
    refine lst_done ?_
    refine goes_false rfl ?_
    refine goes_seq ?_
    refine goes_region ?_
    first
      | refine lst_run (run_eql_one_int rfl rfl) rfl ?_
      | refine lst_run (run_eql_no rfl rfl (by first | assumption | omega)) rfl ?_
      | refine lst_run (run_eql_yes rfl rfl (by omega)) rfl ?_
      | refine lst_run (rfl) rfl ?_
    refine lst_run (run_assign (by conv => lhs; whnf)) rfl ?_
    refine lst_done ?_
    refine goes_false rfl ?_
    refine goes_seq ?_
    refine goes_seq ?_
    refine goes_region ?_
    first
      | refine lst_run (run_eql_one_int rfl rfl) rfl ?_
      | refine lst_run (run_eql_no rfl rfl (by first | assumption | omega)) rfl ?_
      | refine lst_run (run_eql_yes rfl rfl (by omega)) rfl ?_
      | refine lst_run (rfl) rfl ?_
    refine lst_run (run_assign (by conv => lhs; whnf)) rfl ?_
    refine lst_done ?_
    refine goes_false rfl ?_
    refine goes_region ?_
    first
      | refine lst_run (run_eql_one_int rfl rfl) rfl ?_
      | refine lst_run (run_eql_no rfl rfl (by first | assumption | omega)) rfl ?_
      | refine lst_run (run_eql_yes rfl rfl (by omega)) rfl ?_
      | refine lst_run (rfl) rfl ?_
    refine lst_run (run_assign (by conv => lhs; whnf)) rfl ?_
    refine lst_done ?_
    refine goes_true rfl ?_
    refine goes_seq ?_
    refine goes_region ?_
    refine lst_run (run_fieldAddr (off := 2) rfl rfl) rfl ?_
    first
      | refine lst_run (run_load1_own hS rfl rfl (by first | exact .head | exact .tail .head | exact .tail (.tail .head) | exact .tail (.tail (.tail .head)) | exact .tail (.tail (.tail (.tail .head))) | exact .tail (.tail (.tail (.tail (.tail .head))))) (by repeat constructor)) rfl ?_
      | refine lst_run (run_load1 rfl rfl (by first | assumption | exact hS.cell0 (by assumption) | exact lv_next hS | exact lv_list hS)) rfl ?_
    refine lst_run (run_assign (by conv => lhs; whnf)) rfl ?_
    refine lst_done ?_
    refine goes_ret1 Tryz.func166 rfl (by conv => lhs; whnf) ?_
    exact ⟨rfl, hS.drop⟩
  rw [show labelM k n s = [] by simp [labelM, h0, h1, h2, h3]]
  refine goes_enter1 Tryz.func166 rfl Tryz.ntmps166 rfl ?_
  refine goes_seq ?_
  refine goes_region ?_
  refine lst_box hS rfl rfl ?_
  clear hS
  intro b1 wx1 hS
  refine lst_run (run_assign (by conv => lhs; whnf)) rfl ?_
  refine lst_done ?_
  refine goes_seq ?_
  refine goes_seq ?_
  refine goes_region ?_
  refine lst_run (run_fieldAddr (off := 0) rfl rfl) rfl ?_
  first
    | refine lst_run (run_load1_own hS rfl rfl (by first | exact .head | exact .tail .head | exact .tail (.tail .head) | exact .tail (.tail (.tail .head)) | exact .tail (.tail (.tail (.tail .head))) | exact .tail (.tail (.tail (.tail (.tail .head))))) (by repeat constructor)) rfl ?_
    | refine lst_run (run_load1 rfl rfl (by first | assumption | exact hS.cell0 (by assumption) | exact lv_next hS | exact lv_list hS)) rfl ?_
  refine lst_done ?_
  refine goes_block ?_
  refine goes_seq ?_
  refine goes_region ?_
  first
    | refine lst_run (run_eql_one_int rfl rfl) rfl ?_
    | refine lst_run (run_eql_no rfl rfl (by first | assumption | omega)) rfl ?_
    | refine lst_run (run_eql_yes rfl rfl (by omega)) rfl ?_
    | refine lst_run (rfl) rfl ?_
  refine lst_run (run_assign (by conv => lhs; whnf)) rfl ?_
  refine lst_done ?_
  refine goes_false rfl ?_
  refine goes_seq ?_
  refine goes_region ?_
  first
    | refine lst_run (run_eql_one_int rfl rfl) rfl ?_
    | refine lst_run (run_eql_no rfl rfl (by first | assumption | omega)) rfl ?_
    | refine lst_run (run_eql_yes rfl rfl (by omega)) rfl ?_
    | refine lst_run (rfl) rfl ?_
  refine lst_run (run_assign (by conv => lhs; whnf)) rfl ?_
  refine lst_done ?_
  refine goes_false rfl ?_
  refine goes_seq ?_
  refine goes_seq ?_
  refine goes_region ?_
  first
    | refine lst_run (run_eql_one_int rfl rfl) rfl ?_
    | refine lst_run (run_eql_no rfl rfl (by first | assumption | omega)) rfl ?_
    | refine lst_run (run_eql_yes rfl rfl (by omega)) rfl ?_
    | refine lst_run (rfl) rfl ?_
  refine lst_run (run_assign (by conv => lhs; whnf)) rfl ?_
  refine lst_done ?_
  refine goes_false rfl ?_
  refine goes_region ?_
  first
    | refine lst_run (run_eql_one_int rfl rfl) rfl ?_
    | refine lst_run (run_eql_no rfl rfl (by first | assumption | omega)) rfl ?_
    | refine lst_run (run_eql_yes rfl rfl (by omega)) rfl ?_
    | refine lst_run (rfl) rfl ?_
  refine lst_run (run_assign (by conv => lhs; whnf)) rfl ?_
  refine lst_done ?_
  refine goes_false rfl ?_
  refine goes_skip ?_
  refine goes_inBlock ?_
  refine goes_seq ?_
  refine goes_region ?_
  refine lst_run (run_assign (by conv => lhs; whnf)) rfl ?_
  refine lst_done ?_
  refine goes_ret1 Tryz.func166 rfl (by conv => lhs; whnf) ?_
  exact ⟨rfl, hS.drop⟩
/-- What is open: a list of arguments, and how many of them are begun. -/
structure Lv where
  v : Value
  T : Ts
  i : Nat
def lvs (L : List Lv) : List Value := L.flatMap fun x => [x.v, .int .i64 (x.i : Nat)]
theorem lvs_app (L L' : List Lv) : lvs (L ++ L') = lvs L ++ lvs L' := by simp [lvs]
theorem lvs_len (L : List Lv) : (lvs L).length = L.length * 2 := by
  induction L with
  | nil => rfl
  | cons x L ih => simp [lvs] at ih ⊢; omega
abbrev Opn (L : List Lv) (V : Value) (O : List (Nat × Obj)) : Prop := Row 227 2 V L.length (lvs L) O
def opens (k : Int) (T : Ts) : Bool := goalB k && decide (0 < T.length)
theorem begin_any (p B V : Value) (l s : Str) (k n : Int) (T : Ts) (L : List Lv) (O O2 : List (Nat × Obj)) (v : Value) (w : World) (hp : Fresh b p) (hB : Buf l B O) (hV : Opn L V O2) (hn : -9223372036854775808 ≤ n ∧ n ≤ 9223372036854775807)
    (hG : ∀ w', Ext M w0 w' → GVars w') (hv : Sl w (fun _ => True) v T) (hl : l.length + (labelM k n s).length + 1 ≤ 1099511627776) (hL : L.length + 1 ≤ 1099511627776) (hS : St M w0 ((b, prn p B V) :: (O ++ (O2 ++ H))) F w) :
    Calls Tryz.prog 109 #[pptr b, .agg #[.int .i64 k, .int .i64 n, sv s, v]] w fun e w' => ∃ B' V' O' O2', e = .returned (.tuple #[]) ∧ Buf (l ++ labelM k n s ++ if opens k T then [40] else []) B' O' ∧ Opn (if opens k T then L ++ [⟨v, T, 0⟩] else L) V' O2' ∧
      St M w0 ((b, prn (pptr b) B' V') :: (O' ++ (O2' ++ H))) F w' := by
  obtain ⟨A, c, rfl, _⟩ := hv.form
  clear hv
  obtain ⟨A2, c2, rfl⟩ := hV.form
  obtain ⟨A1, c1, rfl⟩ := hB.form
  refine goes_enter2 Tryz.func109 rfl Tryz.ntmps109 rfl ?_
  refine goes_seq ?_
  refine goes_region ?_
  refine lst_box hS rfl rfl ?_
  clear hS
  intro b1 wx1 hS
  refine lst_done ?_
  refine goes_seq ?_
  refine goes_draw (St _ w0 [_] _) 6 ((0, true) :: (1, true) :: (2, true) :: (3, true) :: (4, false) :: (5, false) :: []) (by kernel_rfl) (by kernel_rfl) (hS.drew.only1) ?_
  replace hS := hS.drew
  refine ord_read rfl (fun _ hS => run_move (by conv => lhs; whnf)) rfl ?_
  refine ord_read rfl (fun _ hS => run_nilCheck rfl) rfl ?_
  refine ord_read rfl (fun _ hS => run_fieldAddr (off := 0) rfl rfl) rfl ?_
  first
    | refine ord_read rfl (fun _ hS => run_loadN_own (k := 4) hS rfl rfl rfl (by first | exact .head | exact .tail .head | exact .tail (.tail .head) | exact .tail (.tail (.tail .head)) | exact .tail (.tail (.tail (.tail .head))) | exact .tail (.tail (.tail (.tail (.tail .head))))) (by repeat constructor)) rfl ?_
    | refine ord_read rfl (fun _ hS => run_loadN_own (k := 4) hS rfl rfl rfl (by first | exact .head | exact .tail .head | exact .tail (.tail .head) | exact .tail (.tail (.tail .head)) | exact .tail (.tail (.tail (.tail .head))) | exact .tail (.tail (.tail (.tail (.tail .head))))) (by assumption)) rfl ?_
    | refine ord_read rfl (fun _ hS => run_load4 rfl rfl rfl (by first | assumption | exact hS.cell0 (by assumption)) (by first | assumption | exact hS.cell0 (by assumption)) (by first | assumption | exact hS.cell0 (by assumption)) (by first | assumption | exact hS.cell0 (by assumption))) rfl ?_
  refine ord_act rfl ?_
  refine lst_enter (run_call (by kernel_rfl) (args_1 (by conv => lhs; whnf))) rfl ?_
  refine Calls.mono (label_any k n s _ _ hn hG hS) ?_
  rintro _ w1 ⟨rfl, hS'⟩
  refine ⟨_, rfl, ?_⟩
  replace hS := hS'
  clear hS'
  refine lst_ord (by first | exact hS.only1 | exact hS.drop.only1 | exact hS.unlearn.only1 | exact hS.unlearn.drop.only1) ?_
  refine ord_act rfl ?_
  refine lst_enter (run_call (by kernel_rfl) (args_2 (by conv => lhs; whnf) (by conv => lhs; whnf))) rfl ?_
  refine Calls.mono (writeString_any p _ _ l _ O A2 _ c2 rfl _ hp hB (by omega) hS.sink1) ?_
  rintro _ w2 ⟨B', O', rfl, hB', hS'⟩
  refine ⟨_, rfl, ?_⟩
  replace hS := hS'
  clear hS'
  replace hS := hS.raise1
  refine lst_ord (by first | exact hS.only1 | exact hS.drop.only1 | exact hS.unlearn.only1 | exact hS.unlearn.drop.only1) ?_
  refine ord_end ?_
  refine lst_done ?_
  refine goes_seq ?_
  refine goes_region ?_
  first
    | refine lst_run (run_loadN_own (k := 4) hS rfl rfl rfl (by first | exact .head | exact .tail .head | exact .tail (.tail .head) | exact .tail (.tail (.tail .head)) | exact .tail (.tail (.tail (.tail .head))) | exact .tail (.tail (.tail (.tail (.tail .head))))) (by repeat constructor)) rfl ?_
    | refine lst_run (run_loadN_own (k := 4) hS rfl rfl rfl (by first | exact .head | exact .tail .head | exact .tail (.tail .head) | exact .tail (.tail (.tail .head)) | exact .tail (.tail (.tail (.tail .head))) | exact .tail (.tail (.tail (.tail (.tail .head))))) (by assumption)) rfl ?_
    | refine lst_run (run_load4 rfl rfl rfl (by first | assumption | exact hS.cell0 (by assumption)) (by first | assumption | exact hS.cell0 (by assumption)) (by first | assumption | exact hS.cell0 (by assumption)) (by first | assumption | exact hS.cell0 (by assumption))) rfl ?_
  refine lst_enter (run_call (by kernel_rfl) (args_1 (by conv => lhs; whnf))) rfl ?_
  refine Calls.mono (goal_any k n ⟨s.toArray⟩ _ _) ?_
  rintro _ w3 ⟨rfl, hb3⟩
  refine ⟨_, rfl, ?_⟩
  replace hS := hS.grow hb3
  refine lst_run (run_move (by conv => lhs; whnf)) rfl ?_
  generalize hg : goalB k = g
  cases g with
  | false =>
    have e1 : opens k T = false := by simp [opens, hg]
    refine lst_pass rfl rfl rfl ?_
    refine lst_pass rfl rfl rfl ?_
    refine lst_pass rfl rfl rfl ?_
    refine lst_pass rfl rfl rfl ?_
    first
      | refine lst_run (run_pick_t rfl (by conv => lhs; whnf)) rfl ?_
      | refine lst_run (run_pick_f rfl (by conv => lhs; whnf)) rfl ?_
    refine lst_done ?_
    refine goes_false rfl ?_
    refine goes_skip ?_
    refine goes_end0 Tryz.func109 rfl ?_
    exact ⟨_, _, O', O2, rfl, by rw [e1, if_neg (by simp), List.append_nil]; exact hB', by rw [e1, if_neg (by simp)]; exact hV, hS.drop⟩
  | true =>
    by_cases hT : 0 < T.length
    · have e1 : opens k T = true := by simp [opens, hg, hT]
      refine lst_guard rfl rfl ?_
      refine lst_run (run_fieldAddr (off := 3) rfl rfl) rfl ?_
      refine lst_guard rfl rfl ?_
      first
        | refine lst_run (run_load1_own hS rfl rfl (by first | exact .head | exact .tail .head | exact .tail (.tail .head) | exact .tail (.tail (.tail .head)) | exact .tail (.tail (.tail (.tail .head))) | exact .tail (.tail (.tail (.tail (.tail .head))))) (by repeat constructor)) rfl ?_
        | refine lst_run (run_load1 rfl rfl (by first | assumption | exact hS.cell0 (by assumption) | exact lv_next hS | exact lv_list hS)) rfl ?_
      refine lst_guard rfl rfl ?_
      refine lst_run (run_len_slice rfl rfl rfl) rfl ?_
      refine lst_guard rfl rfl ?_
      first
        | refine lst_run (run_gtr_yes rfl rfl (by omega)) rfl ?_
        | refine lst_run (run_gtr_no rfl rfl (by omega)) rfl ?_
        | refine lst_run (rfl) rfl ?_
      first
        | refine lst_run (run_pick_t rfl (by conv => lhs; whnf)) rfl ?_
        | refine lst_run (run_pick_f rfl (by conv => lhs; whnf)) rfl ?_
      refine lst_done ?_
      refine goes_true rfl ?_
      refine goes_seq ?_
      refine goes_region ?_
      refine lst_run (run_move (by conv => lhs; whnf)) rfl ?_
      refine lst_run (run_nilCheck rfl) rfl ?_
      refine lst_run (run_fieldAddr (off := 0) rfl rfl) rfl ?_
      refine lst_enter (run_call (by kernel_rfl) (args_2 (by conv => lhs; whnf) (by conv => lhs; whnf))) rfl ?_
      refine Calls.mono (writeByte_any (pptr b) _ _ _ 40 O' A2 _ c2 rfl _ (.inr rfl) hB' (by simp; omega) hS.sink1) ?_
      rintro _ w4 ⟨B2, O3, rfl, hB2, hS'⟩
      refine ⟨_, rfl, ?_⟩
      replace hS := hS'
      clear hS'
      replace hS := hS.raise1
      refine lst_done ?_
      refine goes_draw (St _ w0 [_, _] _) 12 ((0, true) :: (1, true) :: (2, true) :: (3, true) :: (4, true) :: (5, true) :: (6, true) :: (7, true) :: (8, false) :: (9, false) :: (10, true) :: (11, true) :: []) (by kernel_rfl) (by kernel_rfl) (hS.drew.only2) ?_
      replace hS := hS.drew
      refine ord_read rfl (fun _ hS => run_move (by conv => lhs; whnf)) rfl ?_
      refine ord_read rfl (fun _ hS => run_move (by conv => lhs; whnf)) rfl ?_
      refine ord_read rfl (fun _ hS => run_nilCheck rfl) rfl ?_
      refine ord_read rfl (fun _ hS => run_fieldAddr (off := 2) rfl rfl) rfl ?_
      first
        | refine ord_read rfl (fun _ hS => run_load1_own hS rfl rfl (by first | exact .head | exact .tail .head | exact .tail (.tail .head) | exact .tail (.tail (.tail .head)) | exact .tail (.tail (.tail (.tail .head))) | exact .tail (.tail (.tail (.tail (.tail .head))))) (by repeat constructor)) rfl ?_
        | refine ord_read rfl (fun _ hS => run_load1 rfl rfl (by first | assumption | exact hS.cell0 (by assumption) | exact lv_next hS | exact lv_list hS)) rfl ?_
      refine ord_read rfl (fun _ hS => run_fieldAddr (off := 3) rfl rfl) rfl ?_
      first
        | refine ord_read rfl (fun _ hS => run_load1_own hS rfl rfl (by first | exact .head | exact .tail .head | exact .tail (.tail .head) | exact .tail (.tail (.tail .head)) | exact .tail (.tail (.tail (.tail .head))) | exact .tail (.tail (.tail (.tail (.tail .head))))) (by repeat constructor)) rfl ?_
        | refine ord_read rfl (fun _ hS => run_load1 rfl rfl (by first | assumption | exact hS.cell0 (by assumption) | exact lv_next hS | exact lv_list hS)) rfl ?_
      refine ord_read rfl (fun _ hS => run_build (cells := [_, _]) (.cons (by conv => lhs; whnf) .nil) rfl) rfl ?_
      refine ord_act rfl ?_
      refine lst_buildSlice (cells := [_, _]) hS (.cons (by conv => lhs; whnf) .nil) rfl rfl ?_
      clear hS
      intro b2 wx2 hS
      refine lst_ord (by first | exact hS.only2 | exact hS.drop.only2 | exact hS.unlearn.only2 | exact hS.unlearn.drop.only2) ?_
      refine ord_act rfl ?_
      refine lst_app (sz := 2) (bts := 32) hS (by conv => lhs; whnf) rfl rfl rfl rfl (hV) rfl rfl (.cons _ (List.perm_append_comm_assoc (_ :: _ :: O3) O2 H)) (by omega) (by omega) rfl ?_
      clear hS
      intro V2 O4 w5 hV2 hS
      replace hS := hS.perm (List.perm_append_comm_assoc O4 (_ :: _ :: O3) H)
      obtain ⟨A3, c3, rfl⟩ := hV2.form
      refine lst_ord (by first | exact hS.only2 | exact hS.drop.only2 | exact hS.unlearn.only2 | exact hS.unlearn.drop.only2) ?_
      refine ord_read rfl (fun _ hS => run_nilCheck rfl) rfl ?_
      refine ord_read rfl (fun _ hS => run_fieldAddr (off := 2) rfl rfl) rfl ?_
      refine ord_end ?_
      refine lst_store1 hS rfl (by conv => lhs; whnf) rfl rfl (by first | exact .head | exact .tail .head | exact .tail (.tail .head) | exact .tail (.tail (.tail .head)) | exact .tail (.tail (.tail (.tail .head))) | exact .tail (.tail (.tail (.tail (.tail .head))))) (by repeat constructor) (by first | exact .head | exact .tail .head | exact .tail (.tail .head) | exact .tail (.tail (.tail .head)) | exact .tail (.tail (.tail (.tail .head))) | exact .tail (.tail (.tail (.tail (.tail .head))))) ?_
      clear hS
      intro wx3 hS
      refine lst_done ?_
      refine goes_end0 Tryz.func109 rfl ?_
      exact ⟨_, _, O3, O4, rfl, by rw [e1, if_pos rfl]; exact hB2, by rw [e1, if_pos rfl]; show Row _ _ _ (L ++ [_]).length (lvs (L ++ [_])) _; rw [List.length_append, lvs_app]; exact hV2, hS.drop⟩
    · have e1 : opens k T = false := by simp [opens, hT]
      refine lst_guard rfl rfl ?_
      refine lst_run (run_fieldAddr (off := 3) rfl rfl) rfl ?_
      refine lst_guard rfl rfl ?_
      first
        | refine lst_run (run_load1_own hS rfl rfl (by first | exact .head | exact .tail .head | exact .tail (.tail .head) | exact .tail (.tail (.tail .head)) | exact .tail (.tail (.tail (.tail .head))) | exact .tail (.tail (.tail (.tail (.tail .head))))) (by repeat constructor)) rfl ?_
        | refine lst_run (run_load1 rfl rfl (by first | assumption | exact hS.cell0 (by assumption) | exact lv_next hS | exact lv_list hS)) rfl ?_
      refine lst_guard rfl rfl ?_
      refine lst_run (run_len_slice rfl rfl rfl) rfl ?_
      refine lst_guard rfl rfl ?_
      first
        | refine lst_run (run_gtr_yes rfl rfl (by omega)) rfl ?_
        | refine lst_run (run_gtr_no rfl rfl (by omega)) rfl ?_
        | refine lst_run (rfl) rfl ?_
      first
        | refine lst_run (run_pick_t rfl (by conv => lhs; whnf)) rfl ?_
        | refine lst_run (run_pick_f rfl (by conv => lhs; whnf)) rfl ?_
      refine lst_done ?_
      refine goes_false rfl ?_
      refine goes_skip ?_
      refine goes_end0 Tryz.func109 rfl ?_
      exact ⟨_, _, O', O2, rfl, by rw [e1, if_neg (by simp), List.append_nil]; exact hB', by rw [e1, if_neg (by simp)]; exact hV, hS.drop⟩
theorem lv_off (L0 : List Lv) : 0 + ((((L0.length + 1 : Nat) : Int)) - 1).toNat * 2 = (lvs L0).length := by rw [lvs_len]; omega
theorem lv_list {g : Nat} {ct : TypeId} {w : World} {L0 : List Lv} {v i : Value} {sp : List Value} (hS : St M w0 ((g, .cells (lvs L0 ++ v :: i :: sp).toArray ct) :: H) F w) : w.cell? ⟨g, 0 + ((((L0.length + 1 : Nat) : Int)) - 1).toNat * 2, none⟩ = some v := by
  rw [lv_off, cell_own (hS.at_ .head)]
  simp
theorem lv_next {g : Nat} {ct : TypeId} {w : World} {L0 : List Lv} {v i : Value} {sp : List Value} (hS : St M w0 ((g, .cells (lvs L0 ++ v :: i :: sp).toArray ct) :: H) F w) : w.cell? ⟨g, 0 + ((((L0.length + 1 : Nat) : Int)) - 1).toNat * 2 + 1, none⟩ = some i := by
  rw [lv_off, cell_own (hS.at_ .head)]
  simp
theorem Put.at_ {i v u : Value} {sp : List Value} : ∀ (l : List Value), Put (l ++ v :: i :: sp) (l.length + 1) u (l ++ v :: u :: sp)
  | [] => .s .z
  | x :: l => .s (Put.at_ l)
theorem put_lv {v i u : Value} {sp : List Value} (L0 : List Lv) : Put (lvs L0 ++ v :: i :: sp) (0 + ((((L0.length + 1 : Nat) : Int)) - 1).toNat * 2 + 1) u (lvs L0 ++ v :: u :: sp) := by
  rw [lv_off]; exact Put.at_ _
theorem Opn.top {L0 : List Lv} {v V : Value} {T : Ts} {i : Nat} {O2 : List (Nat × Obj)} (h : Opn (L0 ++ [⟨v, T, i⟩]) V O2) : ∃ g cap sp, V = .slice (some ⟨g, 0, none⟩) (L0.length + 1) cap ∧ O2 = [(g, .cells (lvs L0 ++ v :: .int .i64 (i : Nat) :: sp).toArray 227)] ∧ L0.length + 1 ≤ cap ∧
    (∀ j : Nat, Opn (L0 ++ [⟨v, T, j⟩]) V [(g, .cells (lvs L0 ++ v :: .int .i64 (j : Nat) :: sp).toArray 227)]) ∧ Opn L0 (.slice (some ⟨g, 0, none⟩) L0.length cap) O2 := by
  have h' : Row 227 2 V (L0.length + 1) (lvs L0 ++ [v, .int .i64 (i : Nat)]) O2 := by
    have := h; unfold Opn at this; rw [List.length_append, lvs_app] at this; exact this
  clear h
  generalize hn : L0.length + 1 = nn at h'
  generalize hx : lvs L0 ++ [v, .int .i64 (i : Nat)] = xs at h'
  cases h' with
  | nil_ => omega
  | own_ h1 h2 h3 h4 =>
    rename_i g cap sp
    subst hx
    have hl := lvs_len L0
    refine ⟨g, cap, sp, by first | rfl | rw [hn], by simp, h3, fun j => ?_, ?_⟩
    · have : Row 227 2 (.slice (some ⟨g, 0, none⟩) nn cap) nn (lvs L0 ++ [v, .int .i64 (j : Nat)]) [(g, .cells ((lvs L0 ++ [v, .int .i64 (j : Nat)]) ++ sp).toArray 227)] := .own_ (by simp; omega) (by simp at h2 ⊢; omega) h3 h4
      show Row _ _ _ (L0 ++ [_]).length (lvs (L0 ++ [_])) _
      rw [List.length_append, lvs_app, show L0.length + [Lv.mk v T j].length = nn from hn]
      simpa [lvs] using this
    · have : Row 227 2 (.slice (some ⟨g, 0, none⟩) L0.length cap) L0.length (lvs L0) [(g, .cells (lvs L0 ++ (v :: .int .i64 (i : Nat) :: sp)).toArray 227)] := .own_ hl (by simp at h2 ⊢; omega) (by omega) h4
      simpa using this
theorem step_close (B V v : Value) (l : Str) (T : Ts) (L0 : List Lv) (O O2 : List (Nat × Obj)) (A : Option Addr) (c : Nat) (w : World) (hB : Buf l B O) (hV : Opn (L0 ++ [⟨v, T, T.length⟩]) V O2) (hv : v = .slice A T.length c) (hl : l.length + 1 ≤ 1099511627776) (hL : L0.length + 1 ≤ 1099511627776)
    (hS : St M w0 ((b, prn (pptr b) B V) :: (O ++ (O2 ++ H))) F w) :
    Calls Tryz.prog 110 #[pptr b] w fun e w' => ∃ B' V' O', e = .returned (.tuple #[]) ∧ Buf (l ++ [41]) B' O' ∧ Opn L0 V' O2 ∧ St M w0 ((b, prn (pptr b) B' V') :: (O' ++ (O2 ++ H))) F w' := by
  subst hv
  obtain ⟨g, cap, sp, rfl, rfl, hcap, _, hV0⟩ := hV.top
  obtain ⟨A1, c1, rfl⟩ := hB.form
  replace hS := St.raise1 hS
  refine goes_enter1 Tryz.func110 rfl Tryz.ntmps110 rfl ?_
  refine goes_seq ?_
  refine goes_region ?_
  refine lst_run (run_move (by conv => lhs; whnf)) rfl ?_
  refine lst_run (run_nilCheck rfl) rfl ?_
  refine lst_run (run_fieldAddr (off := 2) rfl rfl) rfl ?_
  first
    | refine lst_run (run_load1_own hS rfl rfl (by first | exact .head | exact .tail .head | exact .tail (.tail .head) | exact .tail (.tail (.tail .head)) | exact .tail (.tail (.tail (.tail .head))) | exact .tail (.tail (.tail (.tail (.tail .head))))) (by repeat constructor)) rfl ?_
    | refine lst_run (run_load1 rfl rfl (by first | assumption | exact hS.cell0 (by assumption) | exact lv_next hS | exact lv_list hS)) rfl ?_
  refine lst_run (run_len_slice rfl rfl rfl) rfl ?_
  first
    | refine lst_run (run_sub rfl rfl (by omega) (by omega)) rfl ?_
    | refine lst_run (run_sub_u8 rfl rfl) rfl ?_
  refine lst_run (run_assign (by conv => lhs; whnf)) rfl ?_
  refine lst_done ?_
  refine goes_seq ?_
  refine goes_region ?_
  refine lst_run (run_move (by conv => lhs; whnf)) rfl ?_
  refine lst_run (run_nilCheck rfl) rfl ?_
  refine lst_run (run_fieldAddr (off := 2) rfl rfl) rfl ?_
  first
    | refine lst_run (run_load1_own hS rfl rfl (by first | exact .head | exact .tail .head | exact .tail (.tail .head) | exact .tail (.tail (.tail .head)) | exact .tail (.tail (.tail (.tail .head))) | exact .tail (.tail (.tail (.tail (.tail .head))))) (by repeat constructor)) rfl ?_
    | refine lst_run (run_load1 rfl rfl (by first | assumption | exact hS.cell0 (by assumption) | exact lv_next hS | exact lv_list hS)) rfl ?_
  refine lst_run (run_move (by conv => lhs; whnf)) rfl ?_
  refine lst_run (run_indexAddr (sz := 2) rfl rfl rfl rfl (by omega) (by omega)) rfl ?_
  refine lst_run (run_assign (by conv => lhs; whnf)) rfl ?_
  refine lst_done ?_
  refine goes_seq ?_
  refine goes_seq ?_
  refine goes_draw (St _ w0 [_] _) 10 ((0, true) :: (1, true) :: (2, true) :: (3, true) :: (4, true) :: (5, true) :: (6, true) :: (7, true) :: (8, true) :: (9, true) :: []) (by kernel_rfl) (by kernel_rfl) (hS.drew.only1) ?_
  replace hS := hS.drew
  refine ord_read rfl (fun _ hS => run_move (by conv => lhs; whnf)) rfl ?_
  refine ord_read rfl (fun _ hS => run_nilCheck rfl) rfl ?_
  refine ord_read rfl (fun _ hS => run_fieldAddr (off := 1) rfl rfl) rfl ?_
  first
    | refine ord_read rfl (fun _ hS => run_load1_own hS rfl rfl (by first | exact .head | exact .tail .head | exact .tail (.tail .head) | exact .tail (.tail (.tail .head)) | exact .tail (.tail (.tail (.tail .head))) | exact .tail (.tail (.tail (.tail (.tail .head))))) (by repeat constructor)) rfl ?_
    | refine ord_read rfl (fun _ hS => run_load1 rfl rfl (by first | assumption | exact hS.cell0 (by assumption) | exact lv_next hS | exact lv_list hS)) rfl ?_
  refine ord_read rfl (fun _ hS => run_move (by conv => lhs; whnf)) rfl ?_
  refine ord_read rfl (fun _ hS => run_nilCheck rfl) rfl ?_
  refine ord_read rfl (fun _ hS => run_fieldAddr (off := 0) rfl rfl) rfl ?_
  first
    | refine ord_read rfl (fun _ hS => run_load1_own hS rfl rfl (by first | exact .head | exact .tail .head | exact .tail (.tail .head) | exact .tail (.tail (.tail .head)) | exact .tail (.tail (.tail (.tail .head))) | exact .tail (.tail (.tail (.tail (.tail .head))))) (by repeat constructor)) rfl ?_
    | refine ord_read rfl (fun _ hS => run_load1 rfl rfl (by first | assumption | exact hS.cell0 (by assumption) | exact lv_next hS | exact lv_list hS)) rfl ?_
  refine ord_read rfl (fun _ hS => run_len_slice rfl rfl rfl) rfl ?_
  first
    | refine ord_read rfl (fun _ hS => run_eql_one_int rfl rfl) rfl ?_
    | refine ord_read rfl (fun _ hS => run_eql_no rfl rfl (by first | assumption | omega)) rfl ?_
    | refine ord_read rfl (fun _ hS => run_eql_yes rfl rfl (by omega)) rfl ?_
    | refine ord_read rfl (fun _ hS => rfl) rfl ?_
  refine ord_end ?_
  refine lst_done ?_
  refine goes_true rfl ?_
  refine goes_seq ?_
  refine goes_region ?_
  refine lst_run (run_move (by conv => lhs; whnf)) rfl ?_
  refine lst_run (run_nilCheck rfl) rfl ?_
  refine lst_run (run_fieldAddr (off := 0) rfl rfl) rfl ?_
  refine lst_enter (run_call (by kernel_rfl) (args_2 (by conv => lhs; whnf) (by conv => lhs; whnf))) rfl ?_
  refine Calls.mono (writeByte_any (pptr b) _ _ l 41 O _ _ _ rfl _ (.inr rfl) hB (by omega) hS.sink1) ?_
  rintro _ w4 ⟨B2, O3, rfl, hB2, hS'⟩
  refine ⟨_, rfl, ?_⟩
  replace hS := hS'
  clear hS'
  replace hS := hS.raise1
  refine lst_done ?_
  refine goes_seq ?_
  refine goes_region ?_
  refine lst_run (run_move (by conv => lhs; whnf)) rfl ?_
  refine lst_run (run_move (by conv => lhs; whnf)) rfl ?_
  refine lst_run (run_nilCheck rfl) rfl ?_
  refine lst_run (run_fieldAddr (off := 2) rfl rfl) rfl ?_
  first
    | refine lst_run (run_load1_own hS rfl rfl (by first | exact .head | exact .tail .head | exact .tail (.tail .head) | exact .tail (.tail (.tail .head)) | exact .tail (.tail (.tail (.tail .head))) | exact .tail (.tail (.tail (.tail (.tail .head))))) (by repeat constructor)) rfl ?_
    | refine lst_run (run_load1 rfl rfl (by first | assumption | exact hS.cell0 (by assumption) | exact lv_next hS | exact lv_list hS)) rfl ?_
  refine lst_run (run_move (by conv => lhs; whnf)) rfl ?_
  refine lst_run (run_slice_slice (sz := 2) rfl rfl rfl rfl (by omega) (by omega)) rfl ?_
  refine lst_run (run_nilCheck rfl) rfl ?_
  refine lst_run (run_fieldAddr (off := 2) rfl rfl) rfl ?_
  refine lst_store1 hS rfl (by conv => lhs; whnf) rfl rfl (by first | exact .head | exact .tail .head | exact .tail (.tail .head) | exact .tail (.tail (.tail .head)) | exact .tail (.tail (.tail (.tail .head))) | exact .tail (.tail (.tail (.tail (.tail .head))))) (by repeat constructor) (by first | exact .head | exact .tail .head | exact .tail (.tail .head) | exact .tail (.tail (.tail .head)) | exact .tail (.tail (.tail (.tail .head))) | exact .tail (.tail (.tail (.tail (.tail .head))))) ?_
  clear hS
  intro wx1 hS
  refine lst_done ?_
  refine goes_ret0 Tryz.func110 rfl  ?_
  rw [show ((((L0.length + 1 : Nat) : Int)) - 1).toNat = L0.length by omega] at hS
  exact ⟨_, _, O3, rfl, hB2, hV0, hS.sink1⟩
theorem step_next (B V v : Value) (l : Str) (k n : Int) (s : Str) (D a r : Ts) (L0 : List Lv) (O O2 : List (Nat × Obj)) (w : World) (hB : Buf l B O) (hV : Opn (L0 ++ [⟨v, D.app (.cons k n ⟨s.toArray⟩ a r), D.length⟩]) V O2) (hv : Sl w0 (fun _ => True) v (D.app (.cons k n ⟨s.toArray⟩ a r)))
    (hn : -9223372036854775808 ≤ n ∧ n ≤ 9223372036854775807) (hG : ∀ w', Ext [] w0 w' → GVars w') (hl : l.length + (labelM k n s).length + 2 ≤ 1099511627776) (hL : L0.length + 2 ≤ 1099511627776) (hD : D.length + 1 ≤ 1099511627776)
    (hS : St [] w0 ((b, prn (pptr b) B V) :: (O ++ (O2 ++ H))) F w) :
    Calls Tryz.prog 110 #[pptr b] w fun e w' => ∃ va B' V' O' O2', e = .returned (.tuple #[]) ∧ Sl w0 (fun _ => True) va a ∧ Buf (l ++ (if 0 < D.length then [44] else []) ++ labelM k n s ++ if opens k a then [40] else []) B' O' ∧
      Opn (if opens k a then (L0 ++ [⟨v, D.app (.cons k n ⟨s.toArray⟩ a r), D.length + 1⟩]) ++ [⟨va, a, 0⟩] else L0 ++ [⟨v, D.app (.cons k n ⟨s.toArray⟩ a r), D.length + 1⟩]) V' O2' ∧ St [] w0 ((b, prn (pptr b) B' V') :: (O' ++ (O2' ++ H))) F w' := by
  obtain ⟨A, c, rfl, hv⟩ := hv.form
  obtain ⟨bb, o, rfl, hseg⟩ := Sl.at_ hv (by simp [Ts.length])
  obtain ⟨_, q0, q1, q2, ⟨va, q3, hva⟩, _⟩ := seg_cons.1 hseg
  have hlen : (D.app (.cons k n ⟨s.toArray⟩ a r)).length = D.length + (r.length + 1) := by rw [Ts.length_app]; rfl
  rw [show o + D.length * 4 = o + (((D.length : Nat) : Int) + 1 - 1).toNat * 4 by omega] at q0 q1 q2 q3
  obtain ⟨g, cap, sp, rfl, rfl, hcap, hup, _⟩ := hV.top
  obtain ⟨A1, c1, rfl⟩ := hB.form
  replace hS := St.raise1 hS
  by_cases hD0 : 0 < D.length
  · rw [if_pos hD0]
    refine goes_enter1 Tryz.func110 rfl Tryz.ntmps110 rfl ?_
    refine goes_seq ?_
    refine goes_region ?_
    refine lst_run (run_move (by conv => lhs; whnf)) rfl ?_
    refine lst_run (run_nilCheck rfl) rfl ?_
    refine lst_run (run_fieldAddr (off := 2) rfl rfl) rfl ?_
    first
      | refine lst_run (run_load1_own hS rfl rfl (by first | exact .head | exact .tail .head | exact .tail (.tail .head) | exact .tail (.tail (.tail .head)) | exact .tail (.tail (.tail (.tail .head))) | exact .tail (.tail (.tail (.tail (.tail .head))))) (by repeat constructor)) rfl ?_
      | refine lst_run (run_load1 rfl rfl (by first | assumption | exact hS.cell0 (by assumption) | exact lv_next hS | exact lv_list hS)) rfl ?_
    refine lst_run (run_len_slice rfl rfl rfl) rfl ?_
    first
      | refine lst_run (run_sub rfl rfl (by omega) (by omega)) rfl ?_
      | refine lst_run (run_sub_u8 rfl rfl) rfl ?_
    refine lst_run (run_assign (by conv => lhs; whnf)) rfl ?_
    refine lst_done ?_
    refine goes_seq ?_
    refine goes_region ?_
    refine lst_run (run_move (by conv => lhs; whnf)) rfl ?_
    refine lst_run (run_nilCheck rfl) rfl ?_
    refine lst_run (run_fieldAddr (off := 2) rfl rfl) rfl ?_
    first
      | refine lst_run (run_load1_own hS rfl rfl (by first | exact .head | exact .tail .head | exact .tail (.tail .head) | exact .tail (.tail (.tail .head)) | exact .tail (.tail (.tail (.tail .head))) | exact .tail (.tail (.tail (.tail (.tail .head))))) (by repeat constructor)) rfl ?_
      | refine lst_run (run_load1 rfl rfl (by first | assumption | exact hS.cell0 (by assumption) | exact lv_next hS | exact lv_list hS)) rfl ?_
    refine lst_run (run_move (by conv => lhs; whnf)) rfl ?_
    refine lst_run (run_indexAddr (sz := 2) rfl rfl rfl rfl (by omega) (by omega)) rfl ?_
    refine lst_run (run_assign (by conv => lhs; whnf)) rfl ?_
    refine lst_done ?_
    refine goes_seq ?_
    refine goes_seq ?_
    refine goes_draw (St _ w0 [_] _) 10 ((0, true) :: (1, true) :: (2, true) :: (3, true) :: (4, true) :: (5, true) :: (6, true) :: (7, true) :: (8, true) :: (9, true) :: []) (by kernel_rfl) (by kernel_rfl) (hS.drew.only1) ?_
    replace hS := hS.drew
    refine ord_read rfl (fun _ hS => run_move (by conv => lhs; whnf)) rfl ?_
    refine ord_read rfl (fun _ hS => run_nilCheck rfl) rfl ?_
    refine ord_read rfl (fun _ hS => run_fieldAddr (off := 1) rfl rfl) rfl ?_
    first
      | refine ord_read rfl (fun _ hS => run_load1_own hS rfl rfl (by first | exact .head | exact .tail .head | exact .tail (.tail .head) | exact .tail (.tail (.tail .head)) | exact .tail (.tail (.tail (.tail .head))) | exact .tail (.tail (.tail (.tail (.tail .head))))) (by repeat constructor)) rfl ?_
      | refine ord_read rfl (fun _ hS => run_load1 rfl rfl (by first | assumption | exact hS.cell0 (by assumption) | exact lv_next hS | exact lv_list hS)) rfl ?_
    refine ord_read rfl (fun _ hS => run_move (by conv => lhs; whnf)) rfl ?_
    refine ord_read rfl (fun _ hS => run_nilCheck rfl) rfl ?_
    refine ord_read rfl (fun _ hS => run_fieldAddr (off := 0) rfl rfl) rfl ?_
    first
      | refine ord_read rfl (fun _ hS => run_load1_own hS rfl rfl (by first | exact .head | exact .tail .head | exact .tail (.tail .head) | exact .tail (.tail (.tail .head)) | exact .tail (.tail (.tail (.tail .head))) | exact .tail (.tail (.tail (.tail (.tail .head))))) (by repeat constructor)) rfl ?_
      | refine ord_read rfl (fun _ hS => run_load1 rfl rfl (by first | assumption | exact hS.cell0 (by assumption) | exact lv_next hS | exact lv_list hS)) rfl ?_
    refine ord_read rfl (fun _ hS => run_len_slice rfl rfl rfl) rfl ?_
    first
      | refine ord_read rfl (fun _ hS => run_eql_one_int rfl rfl) rfl ?_
      | refine ord_read rfl (fun _ hS => run_eql_no rfl rfl (by first | assumption | omega)) rfl ?_
      | refine ord_read rfl (fun _ hS => run_eql_yes rfl rfl (by omega)) rfl ?_
      | refine ord_read rfl (fun _ hS => rfl) rfl ?_
    refine ord_end ?_
    refine lst_done ?_
    refine goes_false rfl ?_
    refine goes_skip ?_
    refine goes_seq ?_
    refine goes_seq ?_
    refine goes_region ?_
    refine lst_run (run_move (by conv => lhs; whnf)) rfl ?_
    refine lst_run (run_nilCheck rfl) rfl ?_
    refine lst_run (run_fieldAddr (off := 1) rfl rfl) rfl ?_
    first
      | refine lst_run (run_load1_own hS rfl rfl (by first | exact .head | exact .tail .head | exact .tail (.tail .head) | exact .tail (.tail (.tail .head)) | exact .tail (.tail (.tail (.tail .head))) | exact .tail (.tail (.tail (.tail (.tail .head))))) (by repeat constructor)) rfl ?_
      | refine lst_run (run_load1 rfl rfl (by first | assumption | exact hS.cell0 (by assumption) | exact lv_next hS | exact lv_list hS)) rfl ?_
    first
      | refine lst_run (run_gtr_yes rfl rfl (by omega)) rfl ?_
      | refine lst_run (run_gtr_no rfl rfl (by omega)) rfl ?_
      | refine lst_run (rfl) rfl ?_
    refine lst_done ?_
    refine goes_true rfl ?_
    refine goes_region ?_
    refine lst_run (run_move (by conv => lhs; whnf)) rfl ?_
    refine lst_run (run_nilCheck rfl) rfl ?_
    refine lst_run (run_fieldAddr (off := 0) rfl rfl) rfl ?_
    refine lst_enter (run_call (by kernel_rfl) (args_2 (by conv => lhs; whnf) (by conv => lhs; whnf))) rfl ?_
    refine Calls.mono (writeByte_any (pptr b) _ _ l 44 O _ _ _ rfl _ (.inr rfl) hB (by omega) hS.sink1) ?_
    rintro _ w4 ⟨B2, O3, rfl, hB2, hS'⟩
    refine ⟨_, rfl, ?_⟩
    replace hS := hS'
    clear hS'
    replace hS := hS.raise1
    obtain ⟨A2, c2, rfl⟩ := hB2.form
    refine lst_done ?_
    refine goes_seq ?_
    refine goes_region ?_
    refine lst_run (run_move (by conv => lhs; whnf)) rfl ?_
    refine lst_run (run_nilCheck rfl) rfl ?_
    refine lst_run (run_fieldAddr (off := 1) rfl rfl) rfl ?_
    first
      | refine lst_run (run_load1_own hS rfl rfl (by first | exact .head | exact .tail .head | exact .tail (.tail .head) | exact .tail (.tail (.tail .head)) | exact .tail (.tail (.tail (.tail .head))) | exact .tail (.tail (.tail (.tail (.tail .head))))) (by repeat constructor)) rfl ?_
      | refine lst_run (run_load1 rfl rfl (by first | assumption | exact hS.cell0 (by assumption) | exact lv_next hS | exact lv_list hS)) rfl ?_
    refine lst_run (run_add rfl rfl (by omega) (by omega)) rfl ?_
    refine lst_run (run_nilCheck rfl) rfl ?_
    refine lst_run (run_fieldAddr (off := 1) rfl rfl) rfl ?_
    refine lst_store1 hS rfl (by conv => lhs; whnf) rfl rfl .head (put_lv L0) .head ?_
    clear hS
    intro w5 hS
    refine lst_done ?_
    refine goes_draw (St _ w0 [_] _) 12 ((0, true) :: (1, true) :: (2, true) :: (3, true) :: (4, true) :: (5, true) :: (6, true) :: (7, true) :: (8, true) :: (9, true) :: (10, true) :: (11, true) :: []) (by kernel_rfl) (by kernel_rfl) (hS.drew.only1) ?_
    replace hS := hS.drew
    refine ord_read rfl (fun _ hS => run_move (by conv => lhs; whnf)) rfl ?_
    refine ord_read rfl (fun _ hS => run_move (by conv => lhs; whnf)) rfl ?_
    refine ord_read rfl (fun _ hS => run_nilCheck rfl) rfl ?_
    refine ord_read rfl (fun _ hS => run_fieldAddr (off := 0) rfl rfl) rfl ?_
    first
      | refine ord_read rfl (fun _ hS => run_load1_own hS rfl rfl (by first | exact .head | exact .tail .head | exact .tail (.tail .head) | exact .tail (.tail (.tail .head)) | exact .tail (.tail (.tail (.tail .head))) | exact .tail (.tail (.tail (.tail (.tail .head))))) (by repeat constructor)) rfl ?_
      | refine ord_read rfl (fun _ hS => run_load1 rfl rfl (by first | assumption | exact hS.cell0 (by assumption) | exact lv_next hS | exact lv_list hS)) rfl ?_
    refine ord_read rfl (fun _ hS => run_move (by conv => lhs; whnf)) rfl ?_
    refine ord_read rfl (fun _ hS => run_nilCheck rfl) rfl ?_
    refine ord_read rfl (fun _ hS => run_fieldAddr (off := 1) rfl rfl) rfl ?_
    first
      | refine ord_read rfl (fun _ hS => run_load1_own hS rfl rfl (by first | exact .head | exact .tail .head | exact .tail (.tail .head) | exact .tail (.tail (.tail .head)) | exact .tail (.tail (.tail (.tail .head))) | exact .tail (.tail (.tail (.tail (.tail .head))))) (by repeat constructor)) rfl ?_
      | refine ord_read rfl (fun _ hS => run_load1 rfl rfl (by first | assumption | exact hS.cell0 (by assumption) | exact lv_next hS | exact lv_list hS)) rfl ?_
    first
      | refine ord_read rfl (fun _ hS => run_sub rfl rfl (by omega) (by omega)) rfl ?_
      | refine ord_read rfl (fun _ hS => run_sub_u8 rfl rfl) rfl ?_
    refine ord_read rfl (fun _ hS => run_indexAddr (sz := 4) rfl rfl rfl rfl (by omega) (by omega)) rfl ?_
    first
      | refine ord_read rfl (fun _ hS => run_loadN_own (k := 4) hS rfl rfl rfl (by first | exact .head | exact .tail .head | exact .tail (.tail .head) | exact .tail (.tail (.tail .head)) | exact .tail (.tail (.tail (.tail .head))) | exact .tail (.tail (.tail (.tail (.tail .head))))) (by repeat constructor)) rfl ?_
      | refine ord_read rfl (fun _ hS => run_loadN_own (k := 4) hS rfl rfl rfl (by first | exact .head | exact .tail .head | exact .tail (.tail .head) | exact .tail (.tail (.tail .head)) | exact .tail (.tail (.tail (.tail .head))) | exact .tail (.tail (.tail (.tail (.tail .head))))) (by assumption)) rfl ?_
      | refine ord_read rfl (fun _ hS => run_load4 rfl rfl rfl (by first | assumption | exact hS.cell0 (by assumption)) (by first | assumption | exact hS.cell0 (by assumption)) (by first | assumption | exact hS.cell0 (by assumption)) (by first | assumption | exact hS.cell0 (by assumption))) rfl ?_
    refine ord_end ?_
    refine lst_enter (run_call (by kernel_rfl) (args_2 (by conv => lhs; whnf) (by conv => lhs; whnf))) rfl ?_
    refine Calls.mono (begin_any (pptr b) _ _ _ s k n a _ O3 _ va _ (.inr rfl) hB2 (hup (D.length + 1)) hn hG (hva.below hS.ext.below) (by simp; omega) (by simp; omega) hS.sink1) ?_
    rintro _ w6 ⟨B3, V3, O4, O5, rfl, hB3, hV3, hS'⟩
    refine ⟨_, rfl, ?_⟩
    replace hS := hS'
    clear hS'
    refine lst_done ?_
    refine goes_end0 Tryz.func110 rfl ?_
    refine ⟨va, B3, V3, O4, O5, rfl, hva, ?_, hV3, hS⟩
    exact hB3
  · rw [if_neg hD0, List.append_nil]
    refine goes_enter1 Tryz.func110 rfl Tryz.ntmps110 rfl ?_
    refine goes_seq ?_
    refine goes_region ?_
    refine lst_run (run_move (by conv => lhs; whnf)) rfl ?_
    refine lst_run (run_nilCheck rfl) rfl ?_
    refine lst_run (run_fieldAddr (off := 2) rfl rfl) rfl ?_
    first
      | refine lst_run (run_load1_own hS rfl rfl (by first | exact .head | exact .tail .head | exact .tail (.tail .head) | exact .tail (.tail (.tail .head)) | exact .tail (.tail (.tail (.tail .head))) | exact .tail (.tail (.tail (.tail (.tail .head))))) (by repeat constructor)) rfl ?_
      | refine lst_run (run_load1 rfl rfl (by first | assumption | exact hS.cell0 (by assumption) | exact lv_next hS | exact lv_list hS)) rfl ?_
    refine lst_run (run_len_slice rfl rfl rfl) rfl ?_
    first
      | refine lst_run (run_sub rfl rfl (by omega) (by omega)) rfl ?_
      | refine lst_run (run_sub_u8 rfl rfl) rfl ?_
    refine lst_run (run_assign (by conv => lhs; whnf)) rfl ?_
    refine lst_done ?_
    refine goes_seq ?_
    refine goes_region ?_
    refine lst_run (run_move (by conv => lhs; whnf)) rfl ?_
    refine lst_run (run_nilCheck rfl) rfl ?_
    refine lst_run (run_fieldAddr (off := 2) rfl rfl) rfl ?_
    first
      | refine lst_run (run_load1_own hS rfl rfl (by first | exact .head | exact .tail .head | exact .tail (.tail .head) | exact .tail (.tail (.tail .head)) | exact .tail (.tail (.tail (.tail .head))) | exact .tail (.tail (.tail (.tail (.tail .head))))) (by repeat constructor)) rfl ?_
      | refine lst_run (run_load1 rfl rfl (by first | assumption | exact hS.cell0 (by assumption) | exact lv_next hS | exact lv_list hS)) rfl ?_
    refine lst_run (run_move (by conv => lhs; whnf)) rfl ?_
    refine lst_run (run_indexAddr (sz := 2) rfl rfl rfl rfl (by omega) (by omega)) rfl ?_
    refine lst_run (run_assign (by conv => lhs; whnf)) rfl ?_
    refine lst_done ?_
    refine goes_seq ?_
    refine goes_seq ?_
    refine goes_draw (St _ w0 [_] _) 10 ((0, true) :: (1, true) :: (2, true) :: (3, true) :: (4, true) :: (5, true) :: (6, true) :: (7, true) :: (8, true) :: (9, true) :: []) (by kernel_rfl) (by kernel_rfl) (hS.drew.only1) ?_
    replace hS := hS.drew
    refine ord_read rfl (fun _ hS => run_move (by conv => lhs; whnf)) rfl ?_
    refine ord_read rfl (fun _ hS => run_nilCheck rfl) rfl ?_
    refine ord_read rfl (fun _ hS => run_fieldAddr (off := 1) rfl rfl) rfl ?_
    first
      | refine ord_read rfl (fun _ hS => run_load1_own hS rfl rfl (by first | exact .head | exact .tail .head | exact .tail (.tail .head) | exact .tail (.tail (.tail .head)) | exact .tail (.tail (.tail (.tail .head))) | exact .tail (.tail (.tail (.tail (.tail .head))))) (by repeat constructor)) rfl ?_
      | refine ord_read rfl (fun _ hS => run_load1 rfl rfl (by first | assumption | exact hS.cell0 (by assumption) | exact lv_next hS | exact lv_list hS)) rfl ?_
    refine ord_read rfl (fun _ hS => run_move (by conv => lhs; whnf)) rfl ?_
    refine ord_read rfl (fun _ hS => run_nilCheck rfl) rfl ?_
    refine ord_read rfl (fun _ hS => run_fieldAddr (off := 0) rfl rfl) rfl ?_
    first
      | refine ord_read rfl (fun _ hS => run_load1_own hS rfl rfl (by first | exact .head | exact .tail .head | exact .tail (.tail .head) | exact .tail (.tail (.tail .head)) | exact .tail (.tail (.tail (.tail .head))) | exact .tail (.tail (.tail (.tail (.tail .head))))) (by repeat constructor)) rfl ?_
      | refine ord_read rfl (fun _ hS => run_load1 rfl rfl (by first | assumption | exact hS.cell0 (by assumption) | exact lv_next hS | exact lv_list hS)) rfl ?_
    refine ord_read rfl (fun _ hS => run_len_slice rfl rfl rfl) rfl ?_
    first
      | refine ord_read rfl (fun _ hS => run_eql_one_int rfl rfl) rfl ?_
      | refine ord_read rfl (fun _ hS => run_eql_no rfl rfl (by first | assumption | omega)) rfl ?_
      | refine ord_read rfl (fun _ hS => run_eql_yes rfl rfl (by omega)) rfl ?_
      | refine ord_read rfl (fun _ hS => rfl) rfl ?_
    refine ord_end ?_
    refine lst_done ?_
    refine goes_false rfl ?_
    refine goes_skip ?_
    refine goes_seq ?_
    refine goes_seq ?_
    refine goes_region ?_
    refine lst_run (run_move (by conv => lhs; whnf)) rfl ?_
    refine lst_run (run_nilCheck rfl) rfl ?_
    refine lst_run (run_fieldAddr (off := 1) rfl rfl) rfl ?_
    first
      | refine lst_run (run_load1_own hS rfl rfl (by first | exact .head | exact .tail .head | exact .tail (.tail .head) | exact .tail (.tail (.tail .head)) | exact .tail (.tail (.tail (.tail .head))) | exact .tail (.tail (.tail (.tail (.tail .head))))) (by repeat constructor)) rfl ?_
      | refine lst_run (run_load1 rfl rfl (by first | assumption | exact hS.cell0 (by assumption) | exact lv_next hS | exact lv_list hS)) rfl ?_
    first
      | refine lst_run (run_gtr_yes rfl rfl (by omega)) rfl ?_
      | refine lst_run (run_gtr_no rfl rfl (by omega)) rfl ?_
      | refine lst_run (rfl) rfl ?_
    refine lst_done ?_
    refine goes_false rfl ?_
    refine goes_skip ?_
    refine goes_seq ?_
    refine goes_region ?_
    refine lst_run (run_move (by conv => lhs; whnf)) rfl ?_
    refine lst_run (run_nilCheck rfl) rfl ?_
    refine lst_run (run_fieldAddr (off := 1) rfl rfl) rfl ?_
    first
      | refine lst_run (run_load1_own hS rfl rfl (by first | exact .head | exact .tail .head | exact .tail (.tail .head) | exact .tail (.tail (.tail .head)) | exact .tail (.tail (.tail (.tail .head))) | exact .tail (.tail (.tail (.tail (.tail .head))))) (by repeat constructor)) rfl ?_
      | refine lst_run (run_load1 rfl rfl (by first | assumption | exact hS.cell0 (by assumption) | exact lv_next hS | exact lv_list hS)) rfl ?_
    refine lst_run (run_add rfl rfl (by omega) (by omega)) rfl ?_
    refine lst_run (run_nilCheck rfl) rfl ?_
    refine lst_run (run_fieldAddr (off := 1) rfl rfl) rfl ?_
    refine lst_store1 hS rfl (by conv => lhs; whnf) rfl rfl .head (put_lv L0) .head ?_
    clear hS
    intro w5 hS
    refine lst_done ?_
    refine goes_draw (St _ w0 [_] _) 12 ((0, true) :: (1, true) :: (2, true) :: (3, true) :: (4, true) :: (5, true) :: (6, true) :: (7, true) :: (8, true) :: (9, true) :: (10, true) :: (11, true) :: []) (by kernel_rfl) (by kernel_rfl) (hS.drew.only1) ?_
    replace hS := hS.drew
    refine ord_read rfl (fun _ hS => run_move (by conv => lhs; whnf)) rfl ?_
    refine ord_read rfl (fun _ hS => run_move (by conv => lhs; whnf)) rfl ?_
    refine ord_read rfl (fun _ hS => run_nilCheck rfl) rfl ?_
    refine ord_read rfl (fun _ hS => run_fieldAddr (off := 0) rfl rfl) rfl ?_
    first
      | refine ord_read rfl (fun _ hS => run_load1_own hS rfl rfl (by first | exact .head | exact .tail .head | exact .tail (.tail .head) | exact .tail (.tail (.tail .head)) | exact .tail (.tail (.tail (.tail .head))) | exact .tail (.tail (.tail (.tail (.tail .head))))) (by repeat constructor)) rfl ?_
      | refine ord_read rfl (fun _ hS => run_load1 rfl rfl (by first | assumption | exact hS.cell0 (by assumption) | exact lv_next hS | exact lv_list hS)) rfl ?_
    refine ord_read rfl (fun _ hS => run_move (by conv => lhs; whnf)) rfl ?_
    refine ord_read rfl (fun _ hS => run_nilCheck rfl) rfl ?_
    refine ord_read rfl (fun _ hS => run_fieldAddr (off := 1) rfl rfl) rfl ?_
    first
      | refine ord_read rfl (fun _ hS => run_load1_own hS rfl rfl (by first | exact .head | exact .tail .head | exact .tail (.tail .head) | exact .tail (.tail (.tail .head)) | exact .tail (.tail (.tail (.tail .head))) | exact .tail (.tail (.tail (.tail (.tail .head))))) (by repeat constructor)) rfl ?_
      | refine ord_read rfl (fun _ hS => run_load1 rfl rfl (by first | assumption | exact hS.cell0 (by assumption) | exact lv_next hS | exact lv_list hS)) rfl ?_
    first
      | refine ord_read rfl (fun _ hS => run_sub rfl rfl (by omega) (by omega)) rfl ?_
      | refine ord_read rfl (fun _ hS => run_sub_u8 rfl rfl) rfl ?_
    refine ord_read rfl (fun _ hS => run_indexAddr (sz := 4) rfl rfl rfl rfl (by omega) (by omega)) rfl ?_
    first
      | refine ord_read rfl (fun _ hS => run_loadN_own (k := 4) hS rfl rfl rfl (by first | exact .head | exact .tail .head | exact .tail (.tail .head) | exact .tail (.tail (.tail .head)) | exact .tail (.tail (.tail (.tail .head))) | exact .tail (.tail (.tail (.tail (.tail .head))))) (by repeat constructor)) rfl ?_
      | refine ord_read rfl (fun _ hS => run_loadN_own (k := 4) hS rfl rfl rfl (by first | exact .head | exact .tail .head | exact .tail (.tail .head) | exact .tail (.tail (.tail .head)) | exact .tail (.tail (.tail (.tail .head))) | exact .tail (.tail (.tail (.tail (.tail .head))))) (by assumption)) rfl ?_
      | refine ord_read rfl (fun _ hS => run_load4 rfl rfl rfl (by first | assumption | exact hS.cell0 (by assumption)) (by first | assumption | exact hS.cell0 (by assumption)) (by first | assumption | exact hS.cell0 (by assumption)) (by first | assumption | exact hS.cell0 (by assumption))) rfl ?_
    refine ord_end ?_
    refine lst_enter (run_call (by kernel_rfl) (args_2 (by conv => lhs; whnf) (by conv => lhs; whnf))) rfl ?_
    refine Calls.mono (begin_any (pptr b) _ _ _ s k n a _ O _ va _ (.inr rfl) hB (hup (D.length + 1)) hn hG (hva.below hS.ext.below) (by simp; omega) (by simp; omega) hS.sink1) ?_
    rintro _ w6 ⟨B3, V3, O4, O5, rfl, hB3, hV3, hS'⟩
    refine ⟨_, rfl, ?_⟩
    replace hS := hS'
    clear hS'
    refine lst_done ?_
    refine goes_end0 Tryz.func110 rfl ?_
    refine ⟨va, B3, V3, O4, O5, rfl, hva, ?_, hV3, hS⟩
    exact hB3
end
end Go.Proofs.YthliapbflkfdiacGreatDoor
namespace Go.Proofs.YthliapbflkfdiacGreatDoor
open Go.RowKit Go.Shelf
set_option linter.unusedVariables false
set_option linter.unusedSimpArgs false
set_option maxRecDepth 100000
set_option maxHeartbeats 1000000

/-- The text of a list of terms; c says whether one stands before it. -/
def outM (c : Bool) : Ts → Str
  | .nil => []
  | .cons k n s a r => (if c then [44] else []) ++ labelM k n s.data.toList ++ (if opens k a then 40 :: (outM false a ++ [41]) else []) ++ outM true r
def rng : Ts → Prop
  | .nil => True
  | .cons k n s a r => (-9223372036854775808 ≤ n ∧ n ≤ 9223372036854775807) ∧ rng a ∧ rng r
abbrev Lw := Value × Ts × Ts
def lev : List Lw → List Lv
  | [] => []
  | (v, D, R) :: K => lev K ++ [⟨v, D.app R, D.length⟩]
def closing : List Lw → Str
  | [] => []
  | (v, D, R) :: K => outM (decide (0 < D.length)) R ++ 41 :: closing K
def work : List Lw → Nat
  | [] => 0
  | (v, D, R) :: K => 1 + 2 * R.nodes + work K
theorem lev_len : ∀ K : List Lw, (lev K).length ≤ (closing K).length
  | [] => Nat.le_refl _
  | (v, D, R) :: K => by have := lev_len K; simp [lev, closing]; omega
theorem app1_len (D : Ts) (k n : Int) (s : ByteArray) (a : Ts) : (D.app (.cons k n s a .nil)).length = D.length + 1 := by rw [Ts.length_app]; rfl
def LevOk (w0 : World) (N : Nat) (x : Lw) : Prop := Sl w0 (fun _ => True) x.1 (x.2.1.app x.2.2) ∧ (x.2.1.app x.2.2).nodes ≤ N ∧ rng x.2.2
theorem print_any (k n : Int) (s : Str) (a : Ts) (v : Value) (w0 : World) (hG : ∀ w', Ext [] w0 w' → GVars w') (hv : Sl w0 (fun _ => True) v a) (hn : -9223372036854775808 ≤ n ∧ n ≤ 9223372036854775807) (hr : rng a) (hN : a.nodes ≤ 1048576)
    (hlen : (outM false (.cons k n ⟨s.toArray⟩ a .nil)).length ≤ 1073741824) :
    Calls Tryz.prog 68 #[.agg #[.int .i64 k, .int .i64 n, sv s, v]] w0 fun e w' => e = .returned (sv (outM false (.cons k n ⟨s.toArray⟩ a .nil))) ∧ Below w0.heap.size w0 w' := by
  have hS := St.start w0
  have e0 : outM false (.cons k n ⟨s.toArray⟩ a .nil) = labelM k n s ++ if opens k a then 40 :: (outM false a ++ [41]) else [] := by simp [outM]
  rw [e0] at hlen ⊢
  have hlab : (labelM k n s).length ≤ 1073741824 := by simp at hlen; omega
  obtain ⟨A, c, rfl, hv⟩ := hv.form
  refine goes_enter1 Tryz.func68 rfl Tryz.ntmps68 rfl ?_
  refine goes_seq ?_
  refine goes_region ?_
  refine lst_box hS rfl rfl ?_
  clear hS
  intro b1 wx1 hS
  refine lst_run (run_assign (by conv => lhs; whnf)) rfl ?_
  refine lst_done ?_
  refine goes_seq ?_
  refine goes_region ?_
  refine lst_run (run_build (cells := [_, _, _]) .nil rfl) rfl ?_
  refine lst_box hS rfl rfl ?_
  clear hS
  intro b2 wx2 hS
  refine lst_run (run_assign (by conv => lhs; whnf)) rfl ?_
  refine lst_done ?_
  refine goes_seq ?_
  refine goes_region ?_
  refine lst_run (run_move (by conv => lhs; whnf)) rfl ?_
  first
    | refine lst_run (run_loadN_own (k := 4) hS rfl rfl rfl (by first | exact .head | exact .tail .head | exact .tail (.tail .head) | exact .tail (.tail (.tail .head)) | exact .tail (.tail (.tail (.tail .head))) | exact .tail (.tail (.tail (.tail (.tail .head))))) (by repeat constructor)) rfl ?_
    | refine lst_run (run_loadN_own (k := 4) hS rfl rfl rfl (by first | exact .head | exact .tail .head | exact .tail (.tail .head) | exact .tail (.tail (.tail .head)) | exact .tail (.tail (.tail (.tail .head))) | exact .tail (.tail (.tail (.tail (.tail .head))))) (by assumption)) rfl ?_
    | refine lst_run (run_load4 rfl rfl rfl (by first | assumption | exact hS.cell0 (by assumption)) (by first | assumption | exact hS.cell0 (by assumption)) (by first | assumption | exact hS.cell0 (by assumption)) (by first | assumption | exact hS.cell0 (by assumption))) rfl ?_
  refine lst_enter (run_call (by kernel_rfl) (args_2 (by conv => lhs; whnf) (by conv => lhs; whnf))) rfl ?_
  refine Calls.mono (begin_any (.pointer none) _ _ [] s k n a [] [] [] _ _ (.inl rfl) .nil_ .nil_ hn hG (hv.below hS.ext.below) (by simp; omega) (by simp) hS) ?_
  rintro _ w1 ⟨B1, V1, O1, O2, rfl, hB1, hV1, hS'⟩
  refine ⟨_, rfl, ?_⟩
  replace hS := hS'
  clear hS'
  generalize htot : labelM k n s ++ (if opens k a then 40 :: (outM false a ++ [41]) else []) = tot at hlen ⊢
  obtain ⟨H, hS⟩ : ∃ H, St [] w0 ((b2, prn (pptr b2) B1 V1) :: (O1 ++ (O2 ++ H))) [] w1 := ⟨_, hS⟩
  refine lst_done ?_
  refine goes_seq ?_
  refine goes_block ?_
  refine goes_loop0  (9 :: 10 :: 11 :: 12 :: 13 :: 14 :: 15 :: 16 :: []) (fun (x : Str × List Lw) w' => ∃ B V O O2, Buf x.1 B O ∧ Opn (lev x.2) V O2 ∧ St [] w0 ((b2, prn (pptr b2) B V) :: (O ++ (O2 ++ H))) [] w' ∧ x.1 ++ closing x.2 = tot ∧ ∀ y ∈ x.2, LevOk w0 a.nodes y) (fun x => work x.2) ((labelM k n s ++ (if opens k a then [40] else []), if opens k a then [(.slice A a.length c, .nil, a)] else [])) ?_ ?_
  · refine ⟨B1, V1, O1, O2, hB1, ?_, hS, ?_, ?_⟩
    · generalize opens k a = g at hV1 ⊢
      cases g <;> exact hV1
    · rw [← htot]
      generalize opens k a = g
      cases g <;> simp [closing, Ts.length]
    · generalize opens k a = g
      cases g with
      | false => simp
      | true =>
        intro y hy
        obtain rfl : y = _ := by simpa using hy
        exact ⟨hv, Nat.le_refl _, hr⟩
  clear hS hB1 hV1
  rintro ⟨l, K⟩ w2 jv ⟨B, V, O, O2, hB, hV, hS, htl, hK⟩ ih
  simp only at hB hV hS htl hK ih
  obtain ⟨A1, c1, rfl⟩ := hB.form
  cases K with
  | nil =>
    obtain ⟨A2, c2, hVe⟩ := Row.form hV
    obtain rfl : V = .slice A2 0 c2 := hVe
    refine goes_seq ?_
    refine goes_seq ?_
    refine goes_region ?_
    refine lst_run (run_move (by conv => lhs; whnf)) rfl ?_
    refine lst_run (run_nilCheck rfl) rfl ?_
    refine lst_run (run_fieldAddr (off := 2) rfl rfl) rfl ?_
    first
      | refine lst_run (run_load1_own hS rfl rfl (by first | exact .head | exact .tail .head | exact .tail (.tail .head) | exact .tail (.tail (.tail .head)) | exact .tail (.tail (.tail (.tail .head))) | exact .tail (.tail (.tail (.tail (.tail .head))))) (by repeat constructor)) rfl ?_
      | refine lst_run (run_load1 rfl rfl (by first | assumption | exact hS.cell0 (by assumption) | exact lv_next hS | exact lv_list hS)) rfl ?_
    refine lst_run (run_len_slice rfl rfl rfl) rfl ?_
    first
      | refine lst_run (run_gtr_yes rfl rfl (by omega)) rfl ?_
      | refine lst_run (run_gtr_no rfl rfl (by omega)) rfl ?_
      | refine lst_run (rfl) rfl ?_
    refine lst_done ?_
    refine goes_false rfl ?_
    refine goes_exit rfl ?_
    refine goes_seq ?_
    refine goes_region ?_
    refine lst_run (run_move (by conv => lhs; whnf)) rfl ?_
    refine lst_run (run_nilCheck rfl) rfl ?_
    refine lst_run (run_fieldAddr (off := 0) rfl rfl) rfl ?_
    have hl : l.length ≤ 1099511627776 := by rw [← htl] at hlen; simp at hlen; omega
    refine lst_enter (run_call (by kernel_rfl) (args_1 (by conv => lhs; whnf))) rfl ?_
    refine Calls.mono (string_any (pptr b2) _ _ l O A2 0 c2 rfl _ hB hl hS) ?_
    rintro _ w3 ⟨rfl, hS'⟩
    refine ⟨_, rfl, ?_⟩
    replace hS := hS'
    clear hS'
    refine lst_run (run_assign (by conv => lhs; whnf)) rfl ?_
    refine lst_done ?_
    refine goes_ret1 Tryz.func68 rfl (by conv => lhs; whnf) ?_
    exact ⟨by rw [← htl]; simp [closing], hS.ext.below⟩
  | cons x K =>
    obtain ⟨u, D, R⟩ := x
    have hV' : Opn (lev K ++ [⟨u, D.app R, D.length⟩]) V O2 := hV
    obtain ⟨hu, hN1, hR⟩ := hK (u, D, R) (.head _)
    simp only at hu hN1 hR
    have hlk := lev_len K
    have hkl : l.length + ((outM (decide (0 < D.length)) R).length + (closing K).length + 1) ≤ 1073741824 := by rw [← htl] at hlen; simp [closing] at hlen; omega
    have hDn := D.length_le
    rw [Ts.nodes_app] at hN1
    obtain ⟨g, cap, sp, rfl, _, hcap, _⟩ := hV'.top
    cases R with
    | nil =>
      rw [Ts.app_nil] at hV' hu
      obtain ⟨A3, c3, rfl, _⟩ := hu.form
      refine goes_seq ?_
      refine goes_seq ?_
      refine goes_region ?_
      refine lst_run (run_move (by conv => lhs; whnf)) rfl ?_
      refine lst_run (run_nilCheck rfl) rfl ?_
      refine lst_run (run_fieldAddr (off := 2) rfl rfl) rfl ?_
      first
        | refine lst_run (run_load1_own hS rfl rfl (by first | exact .head | exact .tail .head | exact .tail (.tail .head) | exact .tail (.tail (.tail .head)) | exact .tail (.tail (.tail (.tail .head))) | exact .tail (.tail (.tail (.tail (.tail .head))))) (by repeat constructor)) rfl ?_
        | refine lst_run (run_load1 rfl rfl (by first | assumption | exact hS.cell0 (by assumption) | exact lv_next hS | exact lv_list hS)) rfl ?_
      refine lst_run (run_len_slice rfl rfl rfl) rfl ?_
      first
        | refine lst_run (run_gtr_yes rfl rfl (by omega)) rfl ?_
        | refine lst_run (run_gtr_no rfl rfl (by omega)) rfl ?_
        | refine lst_run (rfl) rfl ?_
      refine lst_done ?_
      refine goes_true rfl ?_
      refine goes_skip ?_
      refine goes_block ?_
      refine goes_region ?_
      refine lst_run (run_move (by conv => lhs; whnf)) rfl ?_
      refine lst_enter (run_call (by kernel_rfl) (args_1 (by conv => lhs; whnf))) rfl ?_
      refine Calls.mono (step_close _ _ _ l D (lev K) O O2 A3 c3 _ hB hV' rfl (by omega) (by omega) hS) ?_
      rintro _ w3 ⟨B', V', O', rfl, hB', hV2, hS'⟩
      refine ⟨_, rfl, ?_⟩
      replace hS := hS'
      clear hS'
      refine lst_done ?_
      refine goes_inBlock ?_
      refine ih ((l ++ [41], K)) _ _ ?_ ?_ (by kernel_rfl)
      · simp only [work]; omega
      · exact ⟨B', V', O', O2, hB', hV2, hS, by rw [← htl]; simp [closing, outM], fun y hy => hK y (.tail _ hy)⟩
    | cons k1 n1 s1 a1 r1 =>
      obtain ⟨s1, rfl⟩ := str_of s1
      refine goes_seq ?_
      refine goes_seq ?_
      refine goes_region ?_
      refine lst_run (run_move (by conv => lhs; whnf)) rfl ?_
      refine lst_run (run_nilCheck rfl) rfl ?_
      refine lst_run (run_fieldAddr (off := 2) rfl rfl) rfl ?_
      first
        | refine lst_run (run_load1_own hS rfl rfl (by first | exact .head | exact .tail .head | exact .tail (.tail .head) | exact .tail (.tail (.tail .head)) | exact .tail (.tail (.tail (.tail .head))) | exact .tail (.tail (.tail (.tail (.tail .head))))) (by repeat constructor)) rfl ?_
        | refine lst_run (run_load1 rfl rfl (by first | assumption | exact hS.cell0 (by assumption) | exact lv_next hS | exact lv_list hS)) rfl ?_
      refine lst_run (run_len_slice rfl rfl rfl) rfl ?_
      first
        | refine lst_run (run_gtr_yes rfl rfl (by omega)) rfl ?_
        | refine lst_run (run_gtr_no rfl rfl (by omega)) rfl ?_
        | refine lst_run (rfl) rfl ?_
      refine lst_done ?_
      refine goes_true rfl ?_
      refine goes_skip ?_
      refine goes_block ?_
      refine goes_region ?_
      refine lst_run (run_move (by conv => lhs; whnf)) rfl ?_
      have hlab1 : (labelM k1 n1 s1).length ≤ (outM (decide (0 < D.length)) (.cons k1 n1 ⟨s1.toArray⟩ a1 r1)).length := by simp [outM]; omega
      refine lst_enter (run_call (by kernel_rfl) (args_1 (by conv => lhs; whnf))) rfl ?_
      refine Calls.mono (step_next _ _ _ l k1 n1 s1 D a1 r1 (lev K) O O2 _ hB hV' hu hR.1 hG (by omega) (by omega) (by omega) hS) ?_
      rintro _ w3 ⟨va, B', V', O', O3, rfl, hva, hB', hV2, hS'⟩
      refine ⟨_, rfl, ?_⟩
      replace hS := hS'
      clear hS'
      refine lst_done ?_
      refine goes_inBlock ?_
      have hD1 : (D.app (.cons k1 n1 ⟨s1.toArray⟩ a1 .nil)).app r1 = D.app (.cons k1 n1 ⟨s1.toArray⟩ a1 r1) := by rw [Ts.app_assoc]; rfl
      have hD2 := app1_len D k1 n1 ⟨s1.toArray⟩ a1
      generalize D.app (.cons k1 n1 ⟨s1.toArray⟩ a1 .nil) = D1 at hD1 hD2
      have hu1 : LevOk w0 a.nodes (u, D1, r1) := ⟨by rw [hD1]; exact hu, by show (D1.app r1).nodes ≤ _; rw [hD1, Ts.nodes_app]; exact hN1, hR.2.2⟩
      have hnod : (Ts.cons k1 n1 ⟨s1.toArray⟩ a1 r1).nodes = a1.nodes + r1.nodes + 1 := rfl
      have hL1 : lev ((u, D1, r1) :: K) = lev K ++ [⟨u, D.app (.cons k1 n1 ⟨s1.toArray⟩ a1 r1), D.length + 1⟩] := by simp only [lev]; rw [hD1, hD2]
      have hpos : decide (0 < D1.length) = true := by simp; omega
      generalize hg : opens k1 a1 = g1 at hV2 hB'
      have htl' : l ++ (outM (decide (0 < D.length)) (.cons k1 n1 ⟨s1.toArray⟩ a1 r1) ++ 41 :: closing K) = tot := htl
      cases g1 with
      | true =>
        refine ih ((l ++ (if 0 < D.length then [44] else []) ++ labelM k1 n1 s1 ++ [40], (va, .nil, a1) :: (u, D1, r1) :: K)) _ _ ?_ ?_ (by kernel_rfl)
        · simp only [work, hnod]; omega
        · refine ⟨B', V', O', O3, hB', ?_, hS, ?_, ?_⟩
          · show Opn (lev ((u, D1, r1) :: K) ++ [_]) V' O3
            rw [hL1]; exact hV2
          · rw [← htl']; simp only [closing, hpos, outM, hg]; simp [Ts.length]
          · intro y hy
            rcases List.mem_cons.1 hy with rfl | hy
            · exact ⟨hva, by show a1.nodes ≤ _; omega, hR.2.1⟩
            rcases List.mem_cons.1 hy with rfl | hy
            · exact hu1
            · exact hK y (.tail _ hy)
      | false =>
        refine ih ((l ++ (if 0 < D.length then [44] else []) ++ labelM k1 n1 s1, (u, D1, r1) :: K)) _ _ ?_ ?_ (by kernel_rfl)
        · simp only [work, hnod]; omega
        · refine ⟨B', V', O', O3, ?_, ?_, hS, ?_, ?_⟩
          · simpa only [Bool.false_eq_true, if_false, List.append_nil] using hB'
          · show Opn (lev ((u, D1, r1) :: K)) V' O3
            rw [hL1]; exact hV2
          · rw [← htl']; simp only [closing, hpos, outM, hg]; simp [Ts.length]
          · intro y hy
            rcases List.mem_cons.1 hy with rfl | hy
            · exact hu1
            · exact hK y (.tail _ hy)
end Go.Proofs.YthliapbflkfdiacGreatDoor
namespace Go.Proofs.YthliapbflkfdiacGreatDoor
open Go.RowKit Go.Shelf
set_option linter.unusedVariables false

/-- The terms of an answer, each behind its index. -/
def valsM : Nat → Ts → Str
  | _, .nil => []
  | i, .cons k n s a r => (([32] ++ Lib.itoa (i : Nat)) ++ [61]) ++ outM false (.cons k n s a .nil) ++ valsM (i + 1) r
def wordM (k : Int) : Str :=
  if k = 1 then [121, 101, 115] else if k = 2 then [100, 111, 110, 101] else if k = 3 then [102, 117, 101, 108] else if k = 4 then [108, 97, 114, 103, 101] else if k = 5 then [102, 97, 117, 108, 116] else if k = 6 then [101, 110, 111, 117, 103, 104] else []
/-- An event as a line. -/
def lineM (k : Int) (T : Ts) : Str := if k = 1 then [121, 101, 115] ++ valsM 0 T else wordM k
theorem vals_app : ∀ (i : Nat) (D R : Ts), valsM i (D.app R) = valsM i D ++ valsM (i + D.length) R
  | i, .nil, R => by simp [Ts.app, valsM, Ts.length]
  | i, .cons k n s a r, R => by
    have := vals_app (i + 1) r R
    simp only [Ts.app, valsM, this, Ts.length]
    rw [show i + 1 + r.length = i + (r.length + 1) by omega]
    simp
theorem vals_one (i : Nat) (k n : Int) (s : ByteArray) (a : Ts) : valsM i (.cons k n s a .nil) = (([32] ++ Lib.itoa (i : Nat)) ++ [61]) ++ outM false (.cons k n s a .nil) := by simp [valsM]
end Go.Proofs.YthliapbflkfdiacGreatDoor
namespace Go.Proofs.YthliapbflkfdiacGreatDoor
open Go.RowKit
set_option linter.unusedVariables false
set_option maxRecDepth 100000
set_option maxHeartbeats 1000000

/-- A Builder's block. -/
abbrev bldo (p B : Value) : Obj := .cells [p, B].toArray 118
section
variable {M : List Nat} {w0 : World} {H : List (Nat × Obj)} {F : List (World → Prop)} {b : Nat}
theorem copyCheckO_any (p : Value) (A : Option Addr) (l c : Nat) (w : World) (hp : Fresh b p) (hS : St M w0 ((b, bldo p (.slice A l c)) :: H) F w) :
    Calls Tryz.prog 107 #[pptr b] w fun e w' => e = .returned (.tuple #[]) ∧ St M w0 ((b, bldo (pptr b) (.slice A l c)) :: H) F w' := by
  have hsh := shape_own (hS.at_ .head)
  rcases hp with rfl | rfl
  · refine goes_enter1 Tryz.func107 rfl Tryz.ntmps107 rfl ?_
    refine goes_seq ?_
    refine goes_region ?_
    refine lst_run (run_move (by conv => lhs; whnf)) rfl ?_
    refine lst_run (run_nilCheck rfl) rfl ?_
    refine lst_run (run_fieldAddr (off := 0) rfl rfl) rfl ?_
    first
      | refine lst_run (run_load1_own hS rfl rfl (by first | exact .head | exact .tail .head | exact .tail (.tail .head) | exact .tail (.tail (.tail .head)) | exact .tail (.tail (.tail (.tail .head))) | exact .tail (.tail (.tail (.tail (.tail .head))))) (by repeat constructor)) rfl ?_
      | refine lst_run (run_load1 rfl rfl (by first | assumption | exact hS.cell0 (by assumption) | exact lv_next hS | exact lv_list hS)) rfl ?_
    first
      | refine lst_run (run_eql_ptr_yes rfl rfl rfl) rfl ?_
      | refine lst_run (run_eql_ptr_no rfl rfl rfl) rfl ?_
    refine lst_done ?_
    refine goes_true rfl ?_
    refine goes_region ?_
    refine lst_run (run_move (by conv => lhs; whnf)) rfl ?_
    refine lst_run (run_move (by conv => lhs; whnf)) rfl ?_
    refine lst_run (run_convert_by rfl (Lib.run_to_unsafe (P := Tryz.prog) w (t := 118) ⟨b, 0, none⟩ rfl rfl rfl (by decide) hsh (by simp))) rfl ?_
    refine lst_run (run_extern1 (ex := Extern.AbiNoEscape.same) (args_1 rfl) Tryz.func164 (by kernel_rfl) (by kernel_rfl) (by kernel_rfl) (by kernel_rfl) (Lib.run_noEscape w _)) rfl ?_
    refine lst_run (run_convert_by rfl (Lib.run_from_unsafe (P := Tryz.prog) w (u := 118) ⟨b, 0, none⟩ rfl rfl rfl hsh (by kernel_rfl))) rfl ?_
    refine lst_run (run_nilCheck rfl) rfl ?_
    refine lst_run (run_fieldAddr (off := 0) rfl rfl) rfl ?_
    refine lst_store1 hS rfl (by conv => lhs; whnf) rfl rfl (by first | exact .head | exact .tail .head | exact .tail (.tail .head) | exact .tail (.tail (.tail .head)) | exact .tail (.tail (.tail (.tail .head))) | exact .tail (.tail (.tail (.tail (.tail .head))))) (by repeat constructor) (by first | exact .head | exact .tail .head | exact .tail (.tail .head) | exact .tail (.tail (.tail .head)) | exact .tail (.tail (.tail (.tail .head))) | exact .tail (.tail (.tail (.tail (.tail .head))))) ?_
    clear hS
    intro wx1 hS
    refine lst_done ?_
    refine goes_end0 Tryz.func107 rfl ?_
    exact ⟨rfl, hS⟩
  · refine goes_enter1 Tryz.func107 rfl Tryz.ntmps107 rfl ?_
    refine goes_seq ?_
    refine goes_region ?_
    refine lst_run (run_move (by conv => lhs; whnf)) rfl ?_
    refine lst_run (run_nilCheck rfl) rfl ?_
    refine lst_run (run_fieldAddr (off := 0) rfl rfl) rfl ?_
    first
      | refine lst_run (run_load1_own hS rfl rfl (by first | exact .head | exact .tail .head | exact .tail (.tail .head) | exact .tail (.tail (.tail .head)) | exact .tail (.tail (.tail (.tail .head))) | exact .tail (.tail (.tail (.tail (.tail .head))))) (by repeat constructor)) rfl ?_
      | refine lst_run (run_load1 rfl rfl (by first | assumption | exact hS.cell0 (by assumption) | exact lv_next hS | exact lv_list hS)) rfl ?_
    first
      | refine lst_run (run_eql_ptr_yes rfl rfl rfl) rfl ?_
      | refine lst_run (run_eql_ptr_no rfl rfl rfl) rfl ?_
    refine lst_done ?_
    refine goes_false rfl ?_
    refine goes_seq ?_
    refine goes_region ?_
    refine lst_run (run_move (by conv => lhs; whnf)) rfl ?_
    refine lst_run (run_nilCheck rfl) rfl ?_
    refine lst_run (run_fieldAddr (off := 0) rfl rfl) rfl ?_
    first
      | refine lst_run (run_load1_own hS rfl rfl (by first | exact .head | exact .tail .head | exact .tail (.tail .head) | exact .tail (.tail (.tail .head)) | exact .tail (.tail (.tail (.tail .head))) | exact .tail (.tail (.tail (.tail (.tail .head))))) (by repeat constructor)) rfl ?_
      | refine lst_run (run_load1 rfl rfl (by first | assumption | exact hS.cell0 (by assumption) | exact lv_next hS | exact lv_list hS)) rfl ?_
    refine lst_run (run_move (by conv => lhs; whnf)) rfl ?_
    first
      | refine lst_run (run_neq_nil_no rfl rfl rfl) rfl ?_
      | refine lst_run (run_neq_nil_yes rfl rfl rfl) rfl ?_
      | refine lst_run (run_neq_ptr_self rfl rfl rfl rfl) rfl ?_
    refine lst_done ?_
    refine goes_false rfl ?_
    refine goes_skip ?_
    refine goes_end0 Tryz.func107 rfl ?_
    exact ⟨rfl, hS⟩
theorem writeStringO_any (p B : Value) (l x : Str) (O : List (Nat × Obj)) (w : World) (hp : Fresh b p) (hB : Buf l B O) (hl : l.length + x.length ≤ 1099511627776) (hS : St M w0 ((b, bldo p B) :: (O ++ H)) F w) :
    Calls Tryz.prog 66 #[pptr b, sv x] w fun e w' => ∃ B' O', e = .returned (.tuple #[.int .i64 (x.length : Nat), .nilIface]) ∧ Buf (l ++ x) B' O' ∧ St M w0 ((b, bldo (pptr b) B') :: (O' ++ H)) F w' := by
  obtain ⟨A, c, rfl⟩ := hB.form
  refine goes_enter2 Tryz.func66 rfl Tryz.ntmps66 rfl ?_
  refine goes_seq ?_
  refine goes_region ?_
  refine lst_run (run_assign (by conv => lhs; whnf)) rfl ?_
  refine lst_run (run_assign (by conv => lhs; whnf)) rfl ?_
  refine lst_done ?_
  refine goes_seq ?_
  refine goes_region ?_
  refine lst_run (run_move (by conv => lhs; whnf)) rfl ?_
  refine lst_enter (run_call (by kernel_rfl) (args_1 (by conv => lhs; whnf))) rfl ?_
  refine Calls.mono (copyCheckO_any p A _ c _ hp hS) ?_
  rintro _ w1 ⟨rfl, hS'⟩
  refine ⟨_, rfl, ?_⟩
  replace hS := hS'
  clear hS'
  refine lst_done ?_
  refine goes_seq ?_
  refine goes_region ?_
  refine lst_run (run_move (by conv => lhs; whnf)) rfl ?_
  refine lst_run (run_move (by conv => lhs; whnf)) rfl ?_
  refine lst_run (run_nilCheck rfl) rfl ?_
  refine lst_run (run_fieldAddr (off := 1) rfl rfl) rfl ?_
  first
    | refine lst_run (run_load1_own hS rfl rfl (by first | exact .head | exact .tail .head | exact .tail (.tail .head) | exact .tail (.tail (.tail .head)) | exact .tail (.tail (.tail (.tail .head))) | exact .tail (.tail (.tail (.tail (.tail .head))))) (by repeat constructor)) rfl ?_
    | refine lst_run (run_load1 rfl rfl (by first | assumption | exact hS.cell0 (by assumption) | exact lv_next hS | exact lv_list hS)) rfl ?_
  refine lst_run (run_move (by conv => lhs; whnf)) rfl ?_
  refine lst_appStr hS (by conv => lhs; whnf) rfl rfl rfl rfl hB List.perm_middle.symm (by omega) rfl ?_
  clear hS
  intro B' O' w2 hB' hS
  replace hS := hS.raise
  obtain ⟨A', c', rfl⟩ := hB'.form
  refine lst_run (run_nilCheck rfl) rfl ?_
  refine lst_run (run_fieldAddr (off := 1) rfl rfl) rfl ?_
  refine lst_store1 hS rfl (by conv => lhs; whnf) rfl rfl (by first | exact .head | exact .tail .head | exact .tail (.tail .head) | exact .tail (.tail (.tail .head)) | exact .tail (.tail (.tail (.tail .head))) | exact .tail (.tail (.tail (.tail (.tail .head))))) (by repeat constructor) (by first | exact .head | exact .tail .head | exact .tail (.tail .head) | exact .tail (.tail (.tail .head)) | exact .tail (.tail (.tail (.tail .head))) | exact .tail (.tail (.tail (.tail (.tail .head))))) ?_
  clear hS
  intro wx1 hS
  refine lst_done ?_
  refine goes_seq ?_
  refine goes_region ?_
  refine lst_run (run_move (by conv => lhs; whnf)) rfl ?_
  refine lst_run (run_len_str rfl rfl rfl) rfl ?_
  refine lst_run (run_assign (by conv => lhs; whnf)) rfl ?_
  refine lst_run (run_assign (by conv => lhs; whnf)) rfl ?_
  refine lst_done ?_
  refine goes_ret2 Tryz.func66 rfl (by conv => lhs; whnf) (by conv => lhs; whnf) ?_
  refine ⟨_, O', rfl, ?_, hS⟩
  show Row _ _ _ (l ++ x).length (bytesV (l ++ x)) _
  rw [List.length_append, show bytesV (l ++ x) = bytesV l ++ bytesV x by simp [bytesV]]; exact hB'
theorem writeByteO_any (p B : Value) (l : Str) (c : UInt8) (O : List (Nat × Obj)) (w : World) (hp : Fresh b p) (hB : Buf l B O) (hl : l.length + 1 ≤ 1099511627776) (hS : St M w0 ((b, bldo p B) :: (O ++ H)) F w) :
    Calls Tryz.prog 65 #[pptr b, .int .u8 c.toNat] w fun e w' => ∃ B' O', e = .returned .nilIface ∧ Buf (l ++ [c]) B' O' ∧ St M w0 ((b, bldo (pptr b) B') :: (O' ++ H)) F w' := by
  obtain ⟨A, cc, rfl⟩ := hB.form
  refine goes_enter2 Tryz.func65 rfl Tryz.ntmps65 rfl ?_
  refine goes_seq ?_
  refine goes_region ?_
  refine lst_run (run_assign (by conv => lhs; whnf)) rfl ?_
  refine lst_done ?_
  refine goes_seq ?_
  refine goes_region ?_
  refine lst_run (run_move (by conv => lhs; whnf)) rfl ?_
  refine lst_enter (run_call (by kernel_rfl) (args_1 (by conv => lhs; whnf))) rfl ?_
  refine Calls.mono (copyCheckO_any p A _ cc _ hp hS) ?_
  rintro _ w1 ⟨rfl, hS'⟩
  refine ⟨_, rfl, ?_⟩
  replace hS := hS'
  clear hS'
  refine lst_done ?_
  refine goes_seq ?_
  refine goes_region ?_
  refine lst_run (run_move (by conv => lhs; whnf)) rfl ?_
  refine lst_run (run_move (by conv => lhs; whnf)) rfl ?_
  refine lst_run (run_nilCheck rfl) rfl ?_
  refine lst_run (run_fieldAddr (off := 1) rfl rfl) rfl ?_
  first
    | refine lst_run (run_load1_own hS rfl rfl (by first | exact .head | exact .tail .head | exact .tail (.tail .head) | exact .tail (.tail (.tail .head)) | exact .tail (.tail (.tail (.tail .head))) | exact .tail (.tail (.tail (.tail (.tail .head))))) (by repeat constructor)) rfl ?_
    | refine lst_run (run_load1 rfl rfl (by first | assumption | exact hS.cell0 (by assumption) | exact lv_next hS | exact lv_list hS)) rfl ?_
  refine lst_run (run_move (by conv => lhs; whnf)) rfl ?_
  refine lst_buildSlice (cells := [_]) hS (.cons (by conv => lhs; whnf) .nil) rfl rfl ?_
  clear hS
  intro b1 wx1 hS
  refine lst_app (sz := 1) (bts := 1) hS (by conv => lhs; whnf) rfl rfl rfl rfl (hB) rfl rfl (.cons _ List.perm_middle.symm) (by omega) (by omega) rfl ?_
  clear hS
  intro B' O' w2 hB' hS
  replace hS := hS.raise
  obtain ⟨A', c', rfl⟩ := hB'.form
  refine lst_run (run_nilCheck rfl) rfl ?_
  refine lst_run (run_fieldAddr (off := 1) rfl rfl) rfl ?_
  refine lst_store1 hS rfl (by conv => lhs; whnf) rfl rfl (by first | exact .head | exact .tail .head | exact .tail (.tail .head) | exact .tail (.tail (.tail .head)) | exact .tail (.tail (.tail (.tail .head))) | exact .tail (.tail (.tail (.tail (.tail .head))))) (by repeat constructor) (by first | exact .head | exact .tail .head | exact .tail (.tail .head) | exact .tail (.tail (.tail .head)) | exact .tail (.tail (.tail (.tail .head))) | exact .tail (.tail (.tail (.tail (.tail .head))))) ?_
  clear hS
  intro wx2 hS
  refine lst_done ?_
  refine goes_seq ?_
  refine goes_region ?_
  refine lst_run (run_assign (by conv => lhs; whnf)) rfl ?_
  refine lst_done ?_
  refine goes_ret1 Tryz.func65 rfl (by conv => lhs; whnf) ?_
  refine ⟨_, O', rfl, ?_, hS⟩
  show Row _ _ _ (l ++ [c]).length (bytesV (l ++ [c])) _
  rw [List.length_append, show bytesV (l ++ [c]) = bytesV l ++ bytesV [c] by simp [bytesV]]; exact hB'
theorem stringO_any (p B : Value) (l : Str) (O : List (Nat × Obj)) (w : World) (hB : Buf l B O) (hl : l.length ≤ 1099511627776) (hS : St M w0 ((b, bldo p B) :: (O ++ H)) F w) :
    Calls Tryz.prog 69 #[pptr b] w fun e w' => e = .returned (sv l) ∧ St M w0 H F w' := by
  have hF := hS
  have hB2 : Row 5 1 B l.length (bytesV l) O := hB
  clear hB
  generalize hll : l.length = ll at hB2
  generalize hbl : bytesV l = bl at hB2
  cases hB2 with
  | nil_ =>
    obtain rfl : l = [] := List.eq_nil_of_length_eq_zero hll
    clear hF
    refine goes_enter1 Tryz.func69 rfl Tryz.ntmps69 rfl ?_
    refine goes_seq ?_
    refine goes_region ?_
    refine lst_run (run_assign (by conv => lhs; whnf)) rfl ?_
    refine lst_done ?_
    refine goes_seq ?_
    refine goes_draw (St M w0 _ _) 12 ((0, true) :: (1, true) :: (2, true) :: (3, true) :: (5, true) :: (6, true) :: (7, true) :: (8, true) :: (9, true) :: (4, false) :: (10, false) :: (11, true) :: []) (by kernel_rfl) (by kernel_rfl) (hS.drew) ?_
    replace hS := hS.drew
    refine ord_read rfl (fun _ hS => run_move (by conv => lhs; whnf)) rfl ?_
    refine ord_read rfl (fun _ hS => run_nilCheck rfl) rfl ?_
    refine ord_read rfl (fun _ hS => run_fieldAddr (off := 1) rfl rfl) rfl ?_
    first
      | refine ord_read rfl (fun _ hS => run_load1_own hS rfl rfl (by first | exact .head | exact .tail .head | exact .tail (.tail .head) | exact .tail (.tail (.tail .head)) | exact .tail (.tail (.tail (.tail .head))) | exact .tail (.tail (.tail (.tail (.tail .head))))) (by repeat constructor)) rfl ?_
      | refine ord_read rfl (fun _ hS => run_load1 rfl rfl (by first | assumption | exact hS.cell0 (by assumption) | exact lv_next hS | exact lv_list hS)) rfl ?_
    refine ord_read rfl (fun _ hS => run_move (by conv => lhs; whnf)) rfl ?_
    refine ord_read rfl (fun _ hS => run_nilCheck rfl) rfl ?_
    refine ord_read rfl (fun _ hS => run_fieldAddr (off := 1) rfl rfl) rfl ?_
    first
      | refine ord_read rfl (fun _ hS => run_load1_own hS rfl rfl (by first | exact .head | exact .tail .head | exact .tail (.tail .head) | exact .tail (.tail (.tail .head)) | exact .tail (.tail (.tail (.tail .head))) | exact .tail (.tail (.tail (.tail (.tail .head))))) (by repeat constructor)) rfl ?_
      | refine ord_read rfl (fun _ hS => run_load1 rfl rfl (by first | assumption | exact hS.cell0 (by assumption) | exact lv_next hS | exact lv_list hS)) rfl ?_
    refine ord_read rfl (fun _ hS => run_len_slice rfl rfl rfl) rfl ?_
    refine ord_act rfl ?_
    refine lst_run (run_sliceData rfl rfl) rfl ?_
    refine lst_ord hS ?_
    refine ord_act rfl ?_
    refine lst_run (run_unsafeStr rfl rfl (Lib.run_unsafeString_none _ _ _ _ _)) rfl ?_
    refine lst_ord hS ?_
    refine ord_read rfl (fun _ hS => run_assign (by conv => lhs; whnf)) rfl ?_
    refine ord_end ?_
    refine lst_done ?_
    refine goes_ret1 Tryz.func69 rfl (by conv => lhs; whnf) ?_
    exact ⟨rfl, hS.drop⟩
  | own_ h1 h2 h3 h4 =>
    rename_i g cap sp
    have hg : w.heap[g]? = some (.cells (bl ++ sp).toArray 5) := hF.own (g, _) (by simp)
    replace hS := St.dropMid' hS
    refine goes_enter1 Tryz.func69 rfl Tryz.ntmps69 rfl ?_
    refine goes_seq ?_
    refine goes_region ?_
    refine lst_run (run_assign (by conv => lhs; whnf)) rfl ?_
    refine lst_done ?_
    refine goes_seq ?_
    refine goes_draw (St M w0 _ _) 12 ((0, true) :: (1, true) :: (2, true) :: (3, true) :: (5, true) :: (6, true) :: (7, true) :: (8, true) :: (9, true) :: (4, false) :: (10, false) :: (11, true) :: []) (by kernel_rfl) (by kernel_rfl) (hS.drew) ?_
    replace hS := hS.drew
    refine ord_read rfl (fun _ hS => run_move (by conv => lhs; whnf)) rfl ?_
    refine ord_read rfl (fun _ hS => run_nilCheck rfl) rfl ?_
    refine ord_read rfl (fun _ hS => run_fieldAddr (off := 1) rfl rfl) rfl ?_
    first
      | refine ord_read rfl (fun _ hS => run_load1_own hS rfl rfl (by first | exact .head | exact .tail .head | exact .tail (.tail .head) | exact .tail (.tail (.tail .head)) | exact .tail (.tail (.tail (.tail .head))) | exact .tail (.tail (.tail (.tail (.tail .head))))) (by repeat constructor)) rfl ?_
      | refine ord_read rfl (fun _ hS => run_load1 rfl rfl (by first | assumption | exact hS.cell0 (by assumption) | exact lv_next hS | exact lv_list hS)) rfl ?_
    refine ord_read rfl (fun _ hS => run_move (by conv => lhs; whnf)) rfl ?_
    refine ord_read rfl (fun _ hS => run_nilCheck rfl) rfl ?_
    refine ord_read rfl (fun _ hS => run_fieldAddr (off := 1) rfl rfl) rfl ?_
    first
      | refine ord_read rfl (fun _ hS => run_load1_own hS rfl rfl (by first | exact .head | exact .tail .head | exact .tail (.tail .head) | exact .tail (.tail (.tail .head)) | exact .tail (.tail (.tail (.tail .head))) | exact .tail (.tail (.tail (.tail (.tail .head))))) (by repeat constructor)) rfl ?_
      | refine ord_read rfl (fun _ hS => run_load1 rfl rfl (by first | assumption | exact hS.cell0 (by assumption) | exact lv_next hS | exact lv_list hS)) rfl ?_
    refine ord_read rfl (fun _ hS => run_len_slice rfl rfl rfl) rfl ?_
    refine ord_act rfl ?_
    refine lst_run (run_sliceData rfl (Lib.run_unsafeSliceData_row _ _ _ _ _ _ (by omega))) rfl ?_
    refine lst_ord hS ?_
    refine ord_act rfl ?_
    by_cases hl0 : l = []
    · subst hl0
      obtain rfl : 0 = ll := hll
      refine lst_run (run_unsafeStr rfl rfl (Lib.run_unsafeString_none _ _ _ _ _)) rfl ?_
      refine lst_ord hS ?_
      refine ord_read rfl (fun _ hS => run_assign (by conv => lhs; whnf)) rfl ?_
      refine ord_end ?_
      refine lst_done ?_
      refine goes_ret1 Tryz.func69 rfl (by conv => lhs; whnf) ?_
      exact ⟨rfl, hS.drop⟩
    · have hus := Lib.run_unsafeString_row (P := Tryz.prog) w.drew 167 3 9 5 (by kernel_rfl) (by kernel_rfl) g (bl ++ sp).length (shape_own (w := w.drew) hg) l hl0 (by simp at h2 ⊢; omega) (by omega) ?_
      · rw [hll] at hus
        replace hS := (St.swap hF.drew).lose (freeze_ext _ g ll)
        refine lst_run (run_unsafeStr rfl rfl hus) rfl ?_
        refine lst_ord hS ?_
        refine ord_read rfl (fun _ hS => run_assign (by conv => lhs; whnf)) rfl ?_
        refine ord_end ?_
        refine lst_done ?_
        refine goes_ret1 Tryz.func69 rfl (by conv => lhs; whnf) ?_
        exact ⟨rfl, hS.drop⟩
      · intro j x hx
        subst hbl
        have hj : j < l.length := (List.getElem?_eq_some_iff.1 hx).1
        have : (bytesV l ++ sp)[j]? = some (.int .u8 x.toNat) := by
          rw [List.getElem?_append_left (by simp [bytesV]; omega)]
          simp [bytesV, hx]
        rw [← this, ← cell_own (w := w.drew) hg j]
        simp only [Addr.add]
        split
        · rename_i h0; subst h0; rfl
        · simp
end
end Go.Proofs.YthliapbflkfdiacGreatDoor
namespace Go.Proofs.YthliapbflkfdiacGreatDoor
open Go.RowKit Go.Shelf
set_option linter.unusedVariables false
set_option linter.unusedSimpArgs false
set_option maxRecDepth 100000
set_option maxHeartbeats 1000000

theorem perm_bo {α : Type} (a b : α) (O H : List α) : (a :: b :: (O ++ H)).Perm (b :: (O ++ a :: H)) := (List.Perm.swap b a _).trans (.cons b List.perm_middle.symm)
theorem rng_app' {D R : Ts} (h : rng (D.app R)) : rng R := by
  induction D with
  | nil => exact h
  | cons k n s a r _ ih => exact ih h.2.2
theorem values_any (T : Ts) (v : Value) (w0 : World) (hG : ∀ w', Ext [] w0 w' → GVars w') (hv : Sl w0 (fun _ => True) v T) (hr : rng T) (hN : T.nodes ≤ 1048576) (hl : (valsM 0 T).length ≤ 1073741824) :
    Calls Tryz.prog 36 #[v] w0 fun e w' => e = .returned (sv (valsM 0 T)) ∧ Below w0.heap.size w0 w' := by
  have hS := St.start w0
  obtain ⟨A, c, rfl, hv⟩ := hv.form
  have hTl := T.length_le
  refine goes_enter1 Tryz.func36 rfl Tryz.ntmps36 rfl ?_
  refine goes_seq ?_
  refine goes_region ?_
  refine lst_run (run_assign (by conv => lhs; whnf)) rfl ?_
  refine lst_done ?_
  refine goes_seq ?_
  refine goes_region ?_
  refine lst_alloc (cs := [_, _]) hS rfl rfl rfl ?_
  clear hS
  intro b1 wx1 hS
  refine lst_done ?_
  refine goes_seq ?_
  refine goes_seq ?_
  refine goes_region ?_
  refine lst_run (run_move (by conv => lhs; whnf)) rfl ?_
  refine lst_run (run_len_slice rfl rfl rfl) rfl ?_
  refine lst_run (run_move (by conv => lhs; whnf)) rfl ?_
  refine lst_done ?_
  refine goes_block ?_
  refine goes_loop1 8 (9 :: 10 :: 11 :: 12 :: 5 :: 4 :: 13 :: 14 :: 15 :: 16 :: 17 :: 18 :: 19 :: 20 :: 21 :: []) (fun (R : Ts) v w' => ∃ (D : Ts) (p B : Value) (O : List (Nat × Obj)), T = D.app R ∧ v = .int .i64 (D.length : Nat) ∧ Fresh b1 p ∧ Buf (valsM 0 D) B O ∧ St [] w0 ((b1, bldo p B) :: (O ++ [])) [] w') (fun R => R.length) (T) ?_ (by conv => lhs; whnf) ?_
  · exact ⟨.nil, _, _, [], rfl, rfl, .inl rfl, Row.nil_, hS⟩
  clear hS
  rintro R _ w2 jv ⟨D, p, B, O, hD, rfl, hp, hB, hS⟩ ih
  have hlD : T.length = D.length + R.length := by rw [hD, Ts.length_app]
  cases R with
  | nil =>
    rw [Ts.app_nil] at hD
    subst hD
    simp only [Ts.length] at hlD
    refine goes_seq ?_
    refine goes_region ?_
    first
      | refine lst_run (run_lss_yes rfl rfl (by omega)) rfl ?_
      | refine lst_run (run_lss_no rfl rfl (by omega)) rfl ?_
      | refine lst_run (rfl) rfl ?_
    refine lst_done ?_
    refine goes_seq ?_
    refine goes_false rfl ?_
    refine goes_exit rfl ?_
    refine goes_seq ?_
    refine goes_region ?_
    refine lst_enter (run_call (by kernel_rfl) (args_1 (by conv => lhs; whnf))) rfl ?_
    refine Calls.mono (stringO_any p B (valsM 0 T) O _ hB (by omega) hS) ?_
    rintro _ w3 ⟨rfl, hS'⟩
    refine ⟨_, rfl, ?_⟩
    replace hS := hS'
    clear hS'
    refine lst_run (run_assign (by conv => lhs; whnf)) rfl ?_
    refine lst_done ?_
    refine goes_ret1 Tryz.func36 rfl (by conv => lhs; whnf) ?_
    exact ⟨rfl, hS.ext.below⟩
  | cons k n s a R =>
    obtain ⟨s, rfl⟩ := str_of s
    simp only [Ts.length] at hlD
    obtain ⟨b5, o5, rfl, hsq⟩ := Sl.at_ (D := D) (R := .cons k n ⟨s.toArray⟩ a R) (by rw [← hD]; exact hv) (by simp [Ts.length])
    obtain ⟨_, p0, p1, p2, ⟨v', p3, hsl⟩, _⟩ := seg_cons.1 hsq
    obtain ⟨A6, c6, rfl, hsl⟩ := hsl.form
    have hrr : rng (.cons k n ⟨s.toArray⟩ a R) := rng_app' (D := D) (by rw [← hD]; exact hr)
    have hnod : T.nodes = D.nodes + (Ts.cons k n ⟨s.toArray⟩ a R).nodes := by rw [hD, Ts.nodes_app]
    simp only [Ts.nodes] at hnod
    have hvl : (valsM 0 T).length = (valsM 0 D).length + (valsM (0 + D.length) (.cons k n ⟨s.toArray⟩ a R)).length := by rw [hD, vals_app, List.length_append]
    simp only [valsM, List.length_append, List.length_cons, List.length_nil, Nat.zero_add] at hvl
    have hbyte : (Value.int .u8 32) = .int .u8 ((32 : UInt8).toNat : Nat) := rfl
    have hbyte2 : (Value.int .u8 61) = .int .u8 ((61 : UInt8).toNat : Nat) := rfl
    refine goes_seq ?_
    refine goes_region ?_
    first
      | refine lst_run (run_lss_yes rfl rfl (by omega)) rfl ?_
      | refine lst_run (run_lss_no rfl rfl (by omega)) rfl ?_
      | refine lst_run (rfl) rfl ?_
    refine lst_done ?_
    refine goes_seq ?_
    refine goes_true rfl ?_
    refine goes_skip ?_
    refine goes_seq ?_
    refine goes_block ?_
    refine goes_seq ?_
    refine goes_region ?_
    refine lst_run (run_move (by conv => lhs; whnf)) rfl ?_
    refine lst_run (run_indexAddr (sz := 4) rfl rfl rfl rfl (by omega) (by omega)) rfl ?_
    first
      | refine lst_run (run_loadN_own (k := 4) hS rfl rfl rfl (by first | exact .head | exact .tail .head | exact .tail (.tail .head) | exact .tail (.tail (.tail .head)) | exact .tail (.tail (.tail (.tail .head))) | exact .tail (.tail (.tail (.tail (.tail .head))))) (by repeat constructor)) rfl ?_
      | refine lst_run (run_loadN_own (k := 4) hS rfl rfl rfl (by first | exact .head | exact .tail .head | exact .tail (.tail .head) | exact .tail (.tail (.tail .head)) | exact .tail (.tail (.tail (.tail .head))) | exact .tail (.tail (.tail (.tail (.tail .head))))) (by assumption)) rfl ?_
      | refine lst_run (run_load4 rfl rfl rfl (by first | assumption | exact hS.cell0 (by assumption)) (by first | assumption | exact hS.cell0 (by assumption)) (by first | assumption | exact hS.cell0 (by assumption)) (by first | assumption | exact hS.cell0 (by assumption))) rfl ?_
    refine lst_alloc (cs := [_, _, _, _]) hS rfl rfl rfl ?_
    clear hS
    intro b2 wx2 hS
    refine lst_run (run_assign (by conv => lhs; whnf)) rfl ?_
    refine lst_storeN hS rfl (by conv => lhs; whnf) rfl rfl (by first | exact .head | exact .tail .head | exact .tail (.tail .head) | exact .tail (.tail (.tail .head)) | exact .tail (.tail (.tail (.tail .head))) | exact .tail (.tail (.tail (.tail (.tail .head))))) (by repeat constructor) (by first | exact .head | exact .tail .head | exact .tail (.tail .head) | exact .tail (.tail (.tail .head)) | exact .tail (.tail (.tail (.tail .head))) | exact .tail (.tail (.tail (.tail (.tail .head))))) ?_
    clear hS
    intro wx3 hS
    refine lst_done ?_
    refine goes_seq ?_
    refine goes_region ?_
    refine lst_enter (run_call (by kernel_rfl) (args_2 (by conv => lhs; whnf) (by conv => lhs; whnf))) rfl ?_
    refine Calls.mono (writeByteO_any p B (valsM 0 D) 32 O _ hp hB (by omega) (hS.perm (perm_bo _ _ _ _))) ?_
    rintro _ w3 ⟨B3, O3, rfl, hB3, hS'⟩
    refine ⟨_, rfl, ?_⟩
    replace hS := hS'
    clear hS'
    replace hS := hS.perm (perm_bo _ _ _ _).symm
    refine lst_done ?_
    refine goes_seq ?_
    refine goes_region ?_
    refine lst_run (run_move (by conv => lhs; whnf)) rfl ?_
    refine lst_enter (run_call (by kernel_rfl) (args_1 (by conv => lhs; whnf))) rfl ?_
    refine Calls.mono (itoaAt (D.length : Nat) _ (by omega) (hG _ hS.ext)) ?_
    rintro _ w4 ⟨rfl, hb4⟩
    refine ⟨_, rfl, ?_⟩
    replace hS := hS.grow hb4
    refine lst_enter (run_call (by kernel_rfl) (args_2 (by conv => lhs; whnf) (by conv => lhs; whnf))) rfl ?_
    refine Calls.mono (writeStringO_any _ B3 (valsM 0 D ++ [32]) (Lib.itoa (D.length : Nat)) O3 _ (.inr rfl) hB3 (by simp only [List.length_append, List.length_cons, List.length_nil]; omega) (hS.perm (perm_bo _ _ _ _))) ?_
    rintro _ w5 ⟨B5, O5, rfl, hB5, hS'⟩
    refine ⟨_, rfl, ?_⟩
    replace hS := hS'
    clear hS'
    replace hS := hS.perm (perm_bo _ _ _ _).symm
    refine lst_done ?_
    refine goes_seq ?_
    refine goes_region ?_
    refine lst_enter (run_call (by kernel_rfl) (args_2 (by conv => lhs; whnf) (by conv => lhs; whnf))) rfl ?_
    refine Calls.mono (writeByteO_any _ B5 ((valsM 0 D ++ [32]) ++ Lib.itoa (D.length : Nat)) 61 O5 _ (.inr rfl) hB5 (by simp only [List.length_append, List.length_cons, List.length_nil]; omega) (hS.perm (perm_bo _ _ _ _))) ?_
    rintro _ w6 ⟨B6, O6, rfl, hB6, hS'⟩
    refine ⟨_, rfl, ?_⟩
    replace hS := hS'
    clear hS'
    replace hS := hS.perm (perm_bo _ _ _ _).symm
    refine lst_done ?_
    refine goes_region ?_
    first
      | refine lst_run (run_loadN_own (k := 4) hS rfl rfl rfl (by first | exact .head | exact .tail .head | exact .tail (.tail .head) | exact .tail (.tail (.tail .head)) | exact .tail (.tail (.tail (.tail .head))) | exact .tail (.tail (.tail (.tail (.tail .head))))) (by repeat constructor)) rfl ?_
      | refine lst_run (run_loadN_own (k := 4) hS rfl rfl rfl (by first | exact .head | exact .tail .head | exact .tail (.tail .head) | exact .tail (.tail (.tail .head)) | exact .tail (.tail (.tail (.tail .head))) | exact .tail (.tail (.tail (.tail (.tail .head))))) (by assumption)) rfl ?_
      | refine lst_run (run_load4 rfl rfl rfl (by first | assumption | exact hS.cell0 (by assumption)) (by first | assumption | exact hS.cell0 (by assumption)) (by first | assumption | exact hS.cell0 (by assumption)) (by first | assumption | exact hS.cell0 (by assumption))) rfl ?_
    refine lst_enter (run_call (by kernel_rfl) (args_1 (by conv => lhs; whnf))) rfl ?_
    refine Calls.mono (print_any k n s a _ w6 (fun w' h => hG w' (hS.ext.trans h)) (hsl.below hS.ext.below) hrr.1 hrr.2.1 (by omega) (by omega)) ?_
    rintro _ w7 ⟨rfl, hb7⟩
    refine ⟨_, rfl, ?_⟩
    replace hS := hS.grow hb7
    refine lst_enter (run_call (by kernel_rfl) (args_2 (by conv => lhs; whnf) (by conv => lhs; whnf))) rfl ?_
    refine Calls.mono (writeStringO_any _ B6 ((valsM 0 D ++ [32]) ++ Lib.itoa (D.length : Nat) ++ [61]) (outM false (.cons k n ⟨s.toArray⟩ a .nil)) O6 _ (.inr rfl) hB6 (by simp only [List.length_append, List.length_cons, List.length_nil]; omega) (hS.perm (perm_bo _ _ _ _))) ?_
    rintro _ w8 ⟨B8, O8, rfl, hB8, hS'⟩
    refine ⟨_, rfl, ?_⟩
    replace hS := hS'
    clear hS'
    replace hS := (hS.perm (perm_bo _ _ _ _).symm).drop
    refine lst_done ?_
    refine goes_inBlock ?_
    refine goes_region ?_
    refine lst_run (run_add rfl rfl (by omega) (by omega)) rfl ?_
    refine lst_run (run_move (by conv => lhs; whnf)) rfl ?_
    refine lst_done ?_
    refine ih (R) _ _ _ ?_ ?_ (by conv => lhs; whnf) (by kernel_rfl)
    · simp [Ts.length]
    · refine ⟨D.app (.cons k n ⟨s.toArray⟩ a .nil), _, B8, O8, by rw [Ts.app_assoc]; exact hD, by rw [Ts.length_app]; simp [Ts.length], .inr rfl, ?_, hS⟩
      rw [vals_app, Nat.zero_add, vals_one]
      simpa using hB8
end Go.Proofs.YthliapbflkfdiacGreatDoor
namespace Go.Proofs.YthliapbflkfdiacGreatDoor
open Go.RowKit
set_option linter.unusedVariables false
section
variable {P : Program} {n : Nat} {e : Env} {w : World} {ty : TypeId} {pos : String} {after : Array Edge} {x y : Operand} {dst : Option Nat} {t : TypeId} {b o : Nat}
def isArrP (P : Program) (t : TypeId) : Option (Nat × TypeId) := match P.underlying t with | some (.array n el) => some (n, el) | _ => none
theorem run_indexArr {el sz len : Nat} {i : Int} (hx : ev n e x = .pointer (some ⟨b, o, none⟩)) (hy : ev n e y = .int .i64 i) (hT : isArrP P t = some (len, el)) (hs : cellsP P el = some sz) (h0 : 0 ≤ i) (h1 : i < len) :
    (execOp (ev n e) ⟨dst, .indexAddr t x y, ty, pos, after, none⟩).run P w = .ok (.value (.pointer (some ⟨b, o + i.toNat * sz, none⟩))) w := by
  have hu : P.underlying t = some (.array len el) := by
    unfold isArrP at hT
    split at hT
    · rename_i h; simp only [Option.some.injEq, Prod.mk.injEq] at hT; rw [h, hT.1, hT.2]
    · cases hT
  have h2 := run_underlying hu w
  have h3 := run_sizeP (w := w) hs
  simp only [execOp, Instr.indexAt, Instr.sureAddr, hx, hy, asIntOf, bind, pure, Sem.bind]
  rw [Sem.run_bind', Sem.run_bind', h2]
  simp only [Result.andThen_ok, Sem.bind]
  rw [Sem.run_bind', h2]
  simp only [Result.andThen_ok, if_pos (And.intro h0 h1)]
  rw [Sem.run_bind', h3]
  simp only [Result.andThen_ok, addrPlus, Sem.run]
end
end Go.Proofs.YthliapbflkfdiacGreatDoor
