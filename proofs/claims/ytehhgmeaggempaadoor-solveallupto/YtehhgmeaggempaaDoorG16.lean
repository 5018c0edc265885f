/- RefS12, RefS13: texts that follow one another, laid into one file. -/
import Derived.Test.YtehhgmeaggempaaDoorG15
namespace Go.Proofs.YtehhgmeaggempaaDoor
open Go.RowKit
set_option linter.unusedVariables false
set_option linter.unusedSimpArgs false
set_option maxRecDepth 100000
set_option maxHeartbeats 1000000
section
variable {M : List Nat} {w0 : World} {H : List (Nat × Obj)} {F : List (World → Prop)} {X : List LC} {pA : Option Addr} {pc q C D f : Nat}
theorem prove_none (g : GN) (r : List GN) (E : List EN) (pb : Nat) (p : PS) (w : World) (hX : Und F (ClsR X pA pc)) (hXl : X.length ≤ 24) (hr : Und F (TdR (g :: r))) (h0 : p.fuel ≠ 0) (h1 : p.fuel ≤ 1000) (hB : BdI C D p) (hbt : builtB g.t.s.toList g.t.ar.len = false) (hn : X.filter (fitL g.t) = []) (hP : PSt M w0 H F pb pA X.length pc q p w) :
  Calls Tryd.prog 57 #[.pointer (some ⟨pb, 0, none⟩), ptrOf (g :: r), eptr E] w fun e w' => e = .returned (.int .i64 (-1)) ∧ PSt M w0 H F pb pA X.length pc q (endP 5 ⟨p.fuel - 1, p.vars, p.calls, p.out, p.ended⟩) w' := by
 have h0' : ((p.fuel : Nat) : Int) ≠ 0 := by omega
 have ho := hB.o
 have hc := fun w' hP => end_any (M := M) (w0 := w0) (H := H) (F := F) pb pA X.length pc q ⟨p.fuel - 1, p.vars, p.calls, p.out, p.ended⟩ 5 w' (by show p.out.length ≤ 100; omega) hP
 have hpc : ∀ {H'} w', St M w0 H' F w' → _ := fun w' hS => (hS.und hr).cells
 have hfu : ((p.fuel : Nat) : Int) - 1 = ((p.fuel - 1 : Nat) : Int) := by omega
 have hnx : ∀ x ∈ X, fitL g.t x = false := fun x hx => by
  cases h : fitL g.t x with
  | false => rfl
  | true => have := List.mem_filter.2 ⟨hx, h⟩; rw [hn] at this; cases this
 obtain ⟨K, oA, oc, O, hK, hKr, hrow, hS⟩ := hP
 refine goes_enter3 Tryd.func57 rfl Tryd.ntmps57 rfl ?_
 refine goes_seq ?_
 refine goes_region ?_
 refine lst_run (run_assign (by conv=>lhs;whnf)) rfl ?_
 refine lst_done ?_
 refine goes_seq ?_
 refine goes_seq ?_
 refine goes_region ?_
 refine lst_run (run_move (by conv=>lhs;whnf)) rfl ?_
 refine lst_run (run_eql_ptr_no rfl rfl rfl) rfl ?_
 refine lst_done ?_
 refine goes_false rfl ?_
 refine goes_skip ?_
 refine goes_seq ?_
 refine goes_seq ?_
 refine goes_region ?_
 refine lst_run (run_move (by conv=>lhs;whnf)) rfl ?_
 refine lst_run (run_nilCheck rfl) rfl ?_
 refine lst_run (run_fieldAddr (off := 2) rfl rfl) rfl ?_
 refine lst_run (run_load1_own hS rfl rfl (by exact .head) (by repeat constructor)) rfl ?_
 refine lst_run (run_eql_no rfl rfl (by assumption)) rfl ?_
 refine lst_done ?_
 refine goes_false rfl ?_
 refine goes_skip ?_
 refine goes_seq ?_
 refine goes_region ?_
 refine lst_run (run_move (by conv=>lhs;whnf)) rfl ?_
 refine lst_run (run_nilCheck rfl) rfl ?_
 refine lst_run (run_fieldAddr (off := 2) rfl rfl) rfl ?_
 refine lst_run (run_load1_own hS rfl rfl (by exact .head) (by repeat constructor)) rfl ?_
 refine lst_run (run_sub rfl rfl (by omega) (by omega)) rfl ?_
 refine lst_run (run_nilCheck rfl) rfl ?_
 refine lst_run (run_fieldAddr (off := 2) rfl rfl) rfl ?_
 refine lst_store1 hS rfl (by conv=>lhs;whnf) rfl rfl (by exact .head) (by repeat constructor) (by exact .head) ?_
 clear hS
 intro wx1 hS
 refine lst_done ?_
 refine goes_seq ?_
 refine goes_seq ?_
 refine goes_region ?_
 refine lst_run (run_move (by conv=>lhs;whnf)) rfl ?_
 refine lst_run (run_nilCheck rfl) rfl ?_
 refine lst_run (run_fieldAddr (off := 0) rfl rfl) rfl ?_
 refine lst_run (run_load4 rfl rfl rfl (by exact (hpc _ hS).1) (by exact (hpc _ hS).2.1) (by exact (hpc _ hS).2.2.1) (by exact (hpc _ hS).2.2.2.1)) rfl ?_
 refine lst_enter (run_call (by kernel_rfl) (args_1 (by conv=>lhs;whnf))) rfl ?_
 refine Calls.mono (everybody_any _ _ _ _ _ _ _) ?_
 rintro _ w4 ⟨rfl, hb4⟩
 refine ⟨_, rfl, ?_⟩
 replace hS := hS.grow hb4
 refine lst_done ?_
 rw [hbt]
 refine goes_false rfl ?_
 refine goes_skip ?_
 refine goes_seq ?_
 refine goes_region ?_
 refine lst_run (run_assign (by conv=>lhs;whnf)) rfl ?_
 refine lst_done ?_
 refine goes_seq ?_
 refine goes_seq ?_
 refine goes_region ?_
 refine lst_run (run_move (by conv=>lhs;whnf)) rfl ?_
 refine lst_run (run_nilCheck rfl) rfl ?_
 refine lst_run (run_fieldAddr (off := 0) rfl rfl) rfl ?_
 refine lst_run (run_load1_own hS rfl rfl (by exact .head) (by repeat constructor)) rfl ?_
 refine lst_run (run_len_slice rfl rfl rfl) rfl ?_
 refine lst_run (run_move (by conv=>lhs;whnf)) rfl ?_
 refine lst_done ?_
 refine goes_block ?_
 rw [hfu] at hS
 refine goes_loop2 53 7 (54 :: 55 :: 56 :: 9 :: 57 :: 58 :: 59 :: 60 :: 61 :: 62 :: 63 :: 64 :: 65 :: 66 :: 67 :: 68 :: 69 :: 70 :: 71 :: 72 :: 73 :: 74 :: 75 :: 76 :: 77 :: 78 :: 79 :: 80 :: 81 :: 82 :: 83 :: []) (fun (R : List LC) v u w' => u = .slice none 0 0 ∧ ∃ (D : List LC), X = D ++ R ∧ v = .int .i64 (D.length : Nat) ∧ St M w0 ((pb, .cells (pcsP pA X.length pc q ⟨p.fuel - 1, p.vars, p.calls, p.out, p.ended⟩ oA K.length oc).toArray 101) :: (O ++ H)) F w') (fun R => R.length) (X) ?_ (by conv=>lhs;whnf) (by conv=>lhs;whnf) ?_
 ·exact ⟨rfl, [], rfl, rfl, hS⟩
 clear hS
 rintro R _ _ w5 jv ⟨rfl, D, hDR, rfl, hS⟩ ih
 have hlen : X.length = D.length + R.length := by rw [hDR]; simp
 cases R with
 | nil =>
  simp only [List.length_nil] at hlen
  refine goes_seq ?_
  refine goes_region ?_
  refine lst_run (run_lss_no rfl rfl (by omega)) rfl ?_
  refine lst_done ?_
  refine goes_seq ?_
  refine goes_false rfl ?_
  refine goes_exit rfl ?_
  refine goes_seq ?_
  refine goes_seq ?_
  refine goes_region ?_
  refine lst_run (run_move (by conv=>lhs;whnf)) rfl ?_
  refine lst_run (run_len_slice rfl rfl rfl) rfl ?_
  refine lst_run (run_eql_one_int rfl rfl) rfl ?_
  refine lst_done ?_
  refine goes_true rfl ?_
  refine goes_seq ?_
  refine goes_region ?_
  refine lst_run (run_move (by conv=>lhs;whnf)) rfl ?_
  refine lst_enter (run_call (by kernel_rfl) (args_2 (by conv=>lhs;whnf) (by conv=>lhs;whnf))) rfl ?_
  refine Calls.mono (hc _ ⟨K, oA, oc, O, hK, hKr, hrow, hS⟩) ?_
  rintro _ w6 ⟨rfl, hP'⟩
  refine ⟨_, rfl, ?_⟩
  refine lst_run (run_assign (by conv=>lhs;whnf)) rfl ?_
  refine lst_done ?_
  refine goes_ret1 Tryd.func57 rfl (by conv=>lhs;whnf) ?_
  exact ⟨rfl, hP'⟩
 | cons x R =>
  simp only [List.length_cons] at hlen
  have hX' := hX
  rw [hDR] at hX'
  obtain ⟨b6, o6, rfl⟩ := (hS.und hX').some_ (by simp; omega)
  obtain ⟨q0, q1, q2, q3, q4, q5⟩ := (hS.und hX').cells
  have hfx := hnx x (by rw [hDR]; simp)
  by_cases hs : x.hd.s = g.t.s
  ·have hal : ¬ x.hd.ar.len = g.t.ar.len := fun h => by simp [fitL, hs, h] at hfx
   have hal' : ((x.hd.ar.len : Nat) : Int) ≠ ((g.t.ar.len : Nat) : Int) := by omega
   refine goes_seq ?_
   refine goes_region ?_
   refine lst_run (run_lss_yes rfl rfl (by omega)) rfl ?_
   refine lst_done ?_
   refine goes_seq ?_
   refine goes_true rfl ?_
   refine goes_skip ?_
   refine goes_seq ?_
   refine goes_block ?_
   refine goes_seq ?_
   refine goes_region ?_
   refine lst_run (run_indexAddr (sz := 6) rfl rfl rfl rfl (by omega) (by omega)) rfl ?_
   refine lst_run (run_load6 rfl rfl rfl (by assumption) (by assumption) (by assumption) (by assumption) (by assumption) (by assumption)) rfl ?_
   refine lst_alloc (cs := [_, _, _, _, _, _]) hS rfl rfl rfl ?_
   clear hS
   intro b1 wx2 hS
   refine lst_storeN hS rfl (by conv=>lhs;whnf) rfl rfl (by exact .head) (by repeat constructor) (by exact .head) ?_
   clear hS
   intro wx3 hS
   refine lst_done ?_
   refine goes_seq ?_
   refine goes_draw (St _ _ _ _) 22 ((0, true) :: (1, true) :: (2, true) :: (3, true) :: (4, true) :: (5, true) :: (6, true) :: (7, true) :: (8, true) :: (9, true) :: (10, true) :: (11, true) :: (12, true) :: (13, true) :: (14, true) :: (15, true) :: (16, true) :: (17, true) :: (18, true) :: (19, true) :: (20, true) :: (21, true) :: []) (by kernel_rfl) (by kernel_rfl) (hS.drew) ?_
   replace hS := hS.drew
   refine ord_read rfl (fun _ hS => run_fieldAddr (off := 0) rfl rfl) rfl ?_
   refine ord_read rfl (fun _ hS => run_fieldAddr (off := 2) rfl rfl) rfl ?_
   refine ord_read rfl (fun _ hS => run_load1_own hS rfl rfl (by exact .head) (by repeat constructor)) rfl ?_
   refine ord_read rfl (fun _ hS => run_move (by conv=>lhs;whnf)) rfl ?_
   refine ord_read rfl (fun _ hS => run_nilCheck rfl) rfl ?_
   refine ord_read rfl (fun _ hS => run_fieldAddr (off := 0) rfl rfl) rfl ?_
   refine ord_read rfl (fun _ hS => run_fieldAddr (off := 2) rfl rfl) rfl ?_
   refine ord_read rfl (fun _ hS => run_load1 rfl rfl (by exact (hpc _ hS).2.2.1)) rfl ?_
   refine ord_read rfl (fun _ hS => run_eqlS_t rfl rfl (by assumption)) rfl ?_
   refine ord_read rfl (fun _ hS => run_move (by conv=>lhs;whnf)) rfl ?_
   refine ord_readG rfl rfl rfl (fun _ hS => run_fieldAddr (off := 0) rfl rfl) rfl ?_
   refine ord_readG rfl rfl rfl (fun _ hS => run_fieldAddr (off := 3) rfl rfl) rfl ?_
   refine ord_readG rfl rfl rfl (fun _ hS => run_load1_own hS rfl rfl (by exact .head) (by repeat constructor)) rfl ?_
   refine ord_readG rfl rfl rfl (fun _ hS => run_len_slice rfl rfl rfl) rfl ?_
   refine ord_readG rfl rfl rfl (fun _ hS => run_move (by conv=>lhs;whnf)) rfl ?_
   refine ord_readG rfl rfl rfl (fun _ hS => run_nilCheck rfl) rfl ?_
   refine ord_readG rfl rfl rfl (fun _ hS => run_fieldAddr (off := 0) rfl rfl) rfl ?_
   refine ord_readG rfl rfl rfl (fun _ hS => run_fieldAddr (off := 3) rfl rfl) rfl ?_
   refine ord_readG rfl rfl rfl (fun _ hS => run_load1 rfl rfl (by exact (hpc _ hS).2.2.2.1)) rfl ?_
   refine ord_readG rfl rfl rfl (fun _ hS => run_len_slice rfl rfl rfl) rfl ?_
   refine ord_readG rfl rfl rfl (fun _ hS => run_eql_no rfl rfl (by assumption)) rfl ?_
   refine ord_read rfl (fun _ hS => run_pick_t rfl (by conv=>lhs;whnf)) rfl ?_
   refine ord_end ?_
   refine lst_done ?_
   refine goes_false rfl ?_
   refine goes_skip ?_
   refine goes_inBlock ?_
   refine goes_region ?_
   refine lst_run (run_add rfl rfl (by omega) (by omega)) rfl ?_
   refine lst_run (run_move (by conv=>lhs;whnf)) rfl ?_
   refine lst_done ?_
   refine ih (R) _ _ _ _ ?_ ?_ (by conv=>lhs;whnf) (by conv=>lhs;whnf) (by kernel_rfl)
   ·simp
   ·exact ⟨rfl, D ++ [x], by rw [hDR]; simp, by simp, hS.drop⟩
  ·refine goes_seq ?_
   refine goes_region ?_
   refine lst_run (run_lss_yes rfl rfl (by omega)) rfl ?_
   refine lst_done ?_
   refine goes_seq ?_
   refine goes_true rfl ?_
   refine goes_skip ?_
   refine goes_seq ?_
   refine goes_block ?_
   refine goes_seq ?_
   refine goes_region ?_
   refine lst_run (run_indexAddr (sz := 6) rfl rfl rfl rfl (by omega) (by omega)) rfl ?_
   refine lst_run (run_load6 rfl rfl rfl (by assumption) (by assumption) (by assumption) (by assumption) (by assumption) (by assumption)) rfl ?_
   refine lst_alloc (cs := [_, _, _, _, _, _]) hS rfl rfl rfl ?_
   clear hS
   intro b1 wx2 hS
   refine lst_storeN hS rfl (by conv=>lhs;whnf) rfl rfl (by exact .head) (by repeat constructor) (by exact .head) ?_
   clear hS
   intro wx3 hS
   refine lst_done ?_
   refine goes_seq ?_
   refine goes_draw (St _ _ _ _) 22 ((0, true) :: (1, true) :: (2, true) :: (3, true) :: (4, true) :: (5, true) :: (6, true) :: (7, true) :: (8, true) :: (9, true) :: (10, true) :: (11, true) :: (12, true) :: (13, true) :: (14, true) :: (15, true) :: (16, true) :: (17, true) :: (18, true) :: (19, true) :: (20, true) :: (21, true) :: []) (by kernel_rfl) (by kernel_rfl) (hS.drew) ?_
   replace hS := hS.drew
   refine ord_read rfl (fun _ hS => run_fieldAddr (off := 0) rfl rfl) rfl ?_
   refine ord_read rfl (fun _ hS => run_fieldAddr (off := 2) rfl rfl) rfl ?_
   refine ord_read rfl (fun _ hS => run_load1_own hS rfl rfl (by exact .head) (by repeat constructor)) rfl ?_
   refine ord_read rfl (fun _ hS => run_move (by conv=>lhs;whnf)) rfl ?_
   refine ord_read rfl (fun _ hS => run_nilCheck rfl) rfl ?_
   refine ord_read rfl (fun _ hS => run_fieldAddr (off := 0) rfl rfl) rfl ?_
   refine ord_read rfl (fun _ hS => run_fieldAddr (off := 2) rfl rfl) rfl ?_
   refine ord_read rfl (fun _ hS => run_load1 rfl rfl (by exact (hpc _ hS).2.2.1)) rfl ?_
   refine ord_read rfl (fun _ hS => run_eqlS_f rfl rfl (by assumption)) rfl ?_
   refine ord_read rfl (fun _ hS => run_move (by conv=>lhs;whnf)) rfl ?_
   refine ord_pass rfl rfl rfl rfl ?_
   refine ord_pass rfl rfl rfl rfl ?_
   refine ord_pass rfl rfl rfl rfl ?_
   refine ord_pass rfl rfl rfl rfl ?_
   refine ord_pass rfl rfl rfl rfl ?_
   refine ord_pass rfl rfl rfl rfl ?_
   refine ord_pass rfl rfl rfl rfl ?_
   refine ord_pass rfl rfl rfl rfl ?_
   refine ord_pass rfl rfl rfl rfl ?_
   refine ord_pass rfl rfl rfl rfl ?_
   refine ord_pass rfl rfl rfl rfl ?_
   refine ord_read rfl (fun _ hS => run_pick_f rfl (by conv=>lhs;whnf)) rfl ?_
   refine ord_end ?_
   refine lst_done ?_
   refine goes_false rfl ?_
   refine goes_skip ?_
   refine goes_inBlock ?_
   refine goes_region ?_
   refine lst_run (run_add rfl rfl (by omega) (by omega)) rfl ?_
   refine lst_run (run_move (by conv=>lhs;whnf)) rfl ?_
   refine lst_done ?_
   refine ih (R) _ _ _ _ ?_ ?_ (by conv=>lhs;whnf) (by conv=>lhs;whnf) (by kernel_rfl)
   ·simp
   ·exact ⟨rfl, D ++ [x], by rw [hDR]; simp, by simp, hS.drop⟩
end
end Go.Proofs.YtehhgmeaggempaaDoor
namespace Go.Proofs.YtehhgmeaggempaaDoor
open Go.RowKit
set_option maxHeartbeats 400000 in
theorem shiftedN_any (k n m : Int) (b : ByteArray) (ar : Ts) (v : Value) (w : World) (hv : Sl w (fun _ => True) v ar) (hn : ar.nodes ≤ 1048576) :
  Calls Tryd.prog 82 #[.agg #[.int .i64 k, .int .i64 n, .string b, v], .int .i64 m] w fun e w' => ∃ v', e = .returned (.agg #[.int .i64 k, .int .i64 (shiftN k n m), .string b, v']) ∧ Sl w' (fun k => w.heap.size ≤ k) v' (ar.shift m) ∧ Below w.heap.size w w' := by
 obtain ⟨A, c, rfl, hs⟩ := hv.form
 have hW : Below w.heap.size w ((((w.alloc (.cells #[.int .i64 k, .int .i64 n, .string b, .slice A ar.length c] 24)).alloc (.cells #[.int .i64 m] 3)).alloc (.cells #[.int .i64 0, .int .i64 0, .string ⟨#[]⟩, .slice none 0 0] 24)).alloc (.cells #[.func (.func 110) #[] #[]] 67)) := ((((Below.refl _ _).alloc (Nat.le_refl _) _).alloc (by simp) _).alloc (by simp; omega) _).alloc (by simp; omega) _
 have b3 : Plot ((((w.alloc (.cells #[.int .i64 k, .int .i64 n, .string b, .slice A ar.length c] 24)).alloc (.cells #[.int .i64 m] 3)).alloc (.cells #[.int .i64 0, .int .i64 0, .string ⟨#[]⟩, .slice none 0 0] 24)).alloc (.cells #[.func (.func 110) #[] #[]] 67)) (w.heap.size + 1 + 1) 24 #[.int .i64 0, .int .i64 0, .string ⟨#[]⟩, .slice none 0 0] := by
  have := ((Plot.new ((w.alloc (.cells #[.int .i64 k, .int .i64 n, .string b, .slice A ar.length c] 24)).alloc (.cells #[.int .i64 m] 3)) 24 #[.int .i64 0, .int .i64 0, .string ⟨#[]⟩, .slice none 0 0])).alloc (.cells #[.func (.func 110) #[] #[]] 67)
  simpa using this
 have hi : (numShifted (w.heap.size + 1 + 1 + 1) (w.heap.size + 1) m).inv () ((((w.alloc (.cells #[.int .i64 k, .int .i64 n, .string b, .slice A ar.length c] 24)).alloc (.cells #[.int .i64 m] 3)).alloc (.cells #[.int .i64 0, .int .i64 0, .string ⟨#[]⟩, .slice none 0 0] 24)).alloc (.cells #[.func (.func 110) #[] #[]] 67)) := by
  constructor
  ·have := Plot.new (((w.alloc (.cells #[.int .i64 k, .int .i64 n, .string b, .slice A ar.length c] 24)).alloc (.cells #[.int .i64 m] 3)).alloc (.cells #[.int .i64 0, .int .i64 0, .string ⟨#[]⟩, .slice none 0 0] 24)) 67 #[.func (.func 110) #[] #[]]
   simpa using this
  ·have := ((Plot.new (w.alloc (.cells #[.int .i64 k, .int .i64 n, .string b, .slice A ar.length c] 24)) 3 #[.int .i64 m]).alloc (.cells #[.int .i64 0, .int .i64 0, .string ⟨#[]⟩, .slice none 0 0] 24)).alloc (.cells #[.func (.func 110) #[] #[]] 67)
   simpa using this
 have hst : (store ⟨w.heap.size + 1 + 1 + 1, 0, none⟩ (.func (.func 110) #[] #[])).run Tryd.prog ((((w.alloc (.cells #[.int .i64 k, .int .i64 n, .string b, .slice A ar.length c] 24)).alloc (.cells #[.int .i64 m] 3)).alloc (.cells #[.int .i64 0, .int .i64 0, .string ⟨#[]⟩, .slice none 0 0] 24)).alloc (.cells #[.nilFunc] 67)) = .ok () ((((w.alloc (.cells #[.int .i64 k, .int .i64 n, .string b, .slice A ar.length c] 24)).alloc (.cells #[.int .i64 m] 3)).alloc (.cells #[.int .i64 0, .int .i64 0, .string ⟨#[]⟩, .slice none 0 0] 24)).alloc (.cells #[.func (.func 110) #[] #[]] 67)) := by
  have hb := Plot.new (((w.alloc (.cells #[.int .i64 k, .int .i64 n, .string b, .slice A ar.length c] 24)).alloc (.cells #[.int .i64 m] 3)).alloc (.cells #[.int .i64 0, .int .i64 0, .string ⟨#[]⟩, .slice none 0 0] 24)) 67 #[.nilFunc]
  have e := setCell_new (((w.alloc (.cells #[.int .i64 k, .int .i64 n, .string b, .slice A ar.length c] 24)).alloc (.cells #[.int .i64 m] 3)).alloc (.cells #[.int .i64 0, .int .i64 0, .string ⟨#[]⟩, .slice none 0 0] 24)) .nilFunc (.func (.func 110) #[] #[]) 67
  have h := run_store_func (P := Tryd.prog) (f := .func 110) (x := #[]) (y := #[]) (hb.cell 0) (hb.frozen 0)
  rw [e] at h
  simpa using h
 go_enter Tryd.func82, Tryd.ntmps82
 go_wp2_with fail
 refine (ren_said (numShifted_ok (w.heap.size + 1 + 1 + 1) (w.heap.size + 1) m) ar k n b _ () _ (hs.below hW) hi hn).mono ?_
 rintro e w1 ⟨v', rfl, h1, _, h3⟩
 rw [show (numShifted (w.heap.size + 1 + 1 + 1) (w.heap.size + 1) m).s1 k n () = () from rfl, ren_shifted] at h1
 rw [show (numShifted (w.heap.size + 1 + 1 + 1) (w.heap.size + 1) m).v1 k n () = shiftN k n m from rfl]
 obtain ⟨A5, c5, rfl, h5⟩ := h1.form
 have b5 := b3.chg h3 (fun h => h.elim)
 obtain ⟨d0, d1, d2, d3, df⟩ := b5.four
 have hz1 := h3.size
 go_wp2_with fail
 refine bodyPost_ret (v := .agg #[.int .i64 k, .int .i64 (shiftN k n m), .string b, .slice A5 (ar.shift m).length c5]) (by simp [results, Tryd.results82, go_sem, d0, d1, d2, d3]) rfl ⟨_, rfl, ?_, ?_⟩
 ·refine (h5.keep (w' := _) fun k hk _ => ?_).imp fun k hk _ => by simp at hk; omega
  simp at hk
  simp only [World.setCell, Array.getElem?_modify]
  repeat rw [if_neg (by omega)]
 ·refine (((Below.setCell ?_ (by simp; omega) _).setCell (by simp; omega) _).setCell (by simp; omega) _).setCell (by simp; omega) _
  exact hW.trans (h3.below (by simp; omega) fun _ h _ => h.elim)
set_option linter.unusedVariables false
set_option maxRecDepth 100000
theorem bodyT_G (T : Ts) (m : Int) (o : Nat) (r : List Tg) : bodyT T m o r = bodyG T m o r := by
 induction T with
 | nil => rfl
 | cons k n s a R _ ih => simp only [bodyT, bodyG, ih]
section
variable {M : List Nat} {w0 : World} {H : List (Nat × Obj)} {F : List (World → Prop)}
theorem shiftedL_any (t : LT) (m : Int) (w : World) (hA : Und F (LRd t)) (hn : t.tm.ar.nodes < 1048576) (hS : St M w0 H F w) :
  Calls Tryd.prog 82 #[tv t, .int .i64 m] w fun e w' => ∃ u : LT, e = .returned (tv u) ∧ u.tm = t.tm.shift m ∧ St M w0 H (LRd u :: F) w' := by
 have h1 := (hS.und hA).sl
 refine (shiftedN_any t.k t.n m t.s t.ar.ts _ w h1 (Nat.le_of_lt hn)).mono ?_
 rintro e w' ⟨v', rfl, h2, h3⟩
 obtain ⟨A, c, L, rfl, e2, h4⟩ := hS.located h3 h2
 exact ⟨⟨t.k, shiftN t.k t.n m, t.s, A, c, L⟩, rfl, by simp only [LT.tm, Tm.shift, e2], h4⟩
end
end Go.Proofs.YtehhgmeaggempaaDoor
