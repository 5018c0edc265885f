/- RefC1, Wide, CWalk3, HOps, SameNR: texts that follow one another, laid into one file. -/
import Derived.Test.YtdflngjfnpbpmabDoorG4
import Derived.Test.YtdflngjfnpbpmabDoorG3
import Derived.Test.YtdflngjfnpbpmabDoorG1
import Derived.Test.YtdflngjfnpbpmabDoorProg
import Derived.Laws.StructEq
import Derived.Test.YtdflngjfnpbpmabDoorG0
namespace Go.Proofs.YtdflngjfnpbpmabDoor
open Go.RowKit
set_option linter.unusedVariables false
set_option linter.unusedSimpArgs false
set_option maxRecDepth 100000
set_option maxHeartbeats 1000000

def rawC (k n : Int) (s : ByteArray) : HC := if k = 3 then ⟨0, -1, eS⟩ else ⟨k, n, s⟩
def rawA : Ts → List HC
  | .nil => []
  | .cons k n s _ r => rawC k n s :: rawA r
theorem rawA_len (T : Ts) : (rawA T).length = T.length := by
  induction T with
  | nil => rfl
  | cons k n s ar r _ ih => simp only [rawA, List.length_cons, ih, Ts.length]
theorem rawA_app (D R : Ts) : rawA (D.app R) = rawA D ++ rawA R := by
  induction D with
  | nil => rfl
  | cons k n s ar r _ ih => simp only [Ts.app, rawA, ih, List.cons_append]
/-- The cells as they are when the arguments D are laid, and R are not. -/
def midR (cs : List HC) (s : ByteArray) (l : Nat) (D R : Ts) : List HC := cs ++ (⟨3, (l : Nat), s⟩ :: ((layA D (cs.length + 1 + l)).1 ++ (rawA R ++ (layA D (cs.length + 1 + l)).2)))
theorem midR_len (cs : List HC) (s : ByteArray) (l : Nat) (D R : Ts) : (midR cs s l D R).length = cs.length + 1 + D.length + R.length + (layA D (cs.length + 1 + l)).2.length := by
  simp only [midR, List.length_append, List.length_cons, rawA_len, layA_len]; omega
theorem midR_start (cs : List HC) (s : ByteArray) (T : Ts) (l : Nat) : midR cs s l .nil T = (cs ++ [⟨3, (l : Nat), s⟩]) ++ rawA T := by simp [midR, layA]
theorem midR_end (cs : List HC) (n : Int) (s : ByteArray) (T : Ts) : midR cs s T.length T .nil = cs ++ lay1 3 n s T cs.length := by
  unfold midR lay1 layS
  rw [if_pos rfl]
  simp [rawA]
theorem single_raw {vars k n : Int} {s : ByteArray} {l : Nat} (h : nodeB vars k n s l = true) (hk : k ≠ 3) : rawC k n s = single k n s := by
  unfold rawC
  rw [if_neg hk]
  rcases node_iff h with ⟨rfl, h0, h1, h2, h3⟩ | ⟨rfl, h0, h1, h2⟩ | ⟨rfl, h0, h1⟩ | ⟨rfl, _⟩
  · subst h2; rfl
  · subst h0; rfl
  · subst h0; rfl
  · exact absurd rfl hk
theorem midR_one (cs : List HC) (s1 : ByteArray) (l : Nat) (D r : Ts) {k : Int} (n : Int) (s : ByteArray) (ar : Ts) (hk : k ≠ 3) (h : rawC k n s = single k n s) : midR cs s1 l D (.cons k n s ar r) = midR cs s1 l (D.app (.cons k n s ar .nil)) r := by
  unfold midR
  rw [layA_app, layA_one _ _ _ _ _ hk]
  simp [layA, rawA, h]
theorem midR_comp (cs : List HC) (s1 : ByteArray) (l : Nat) (D r : Ts) (n : Int) (s : ByteArray) (ar : Ts) (hl : l = D.length + (r.length + 1)) : setN (midR cs s1 l D (.cons 3 n s ar r)) (cs.length + 1 + D.length) ((midR cs s1 l D (.cons 3 n s ar r)).length : Nat) ++ lay1 3 n s ar (midR cs s1 l D (.cons 3 n s ar r)).length = midR cs s1 l (D.app (.cons 3 n s ar .nil)) r := by
  have hp : (midR cs s1 l D (.cons 3 n s ar r)).length = cs.length + 1 + l + (layA D (cs.length + 1 + l)).2.length := by rw [midR_len]; simp only [Ts.length]; omega
  rw [hp]
  have h := setN_app (cs ++ (⟨3, (l : Nat), s1⟩ :: (layA D (cs.length + 1 + l)).1)) ⟨0, -1, eS⟩ (rawA r ++ (layA D (cs.length + 1 + l)).2) ((cs.length + 1 + l + (layA D (cs.length + 1 + l)).2.length : Nat) : Int)
  have hl2 : (cs ++ (⟨3, (l : Nat), s1⟩ :: (layA D (cs.length + 1 + l)).1)).length = cs.length + 1 + D.length := by simp only [List.length_append, List.length_cons, layA_len]; omega
  rw [hl2] at h
  have e1 : midR cs s1 l D (.cons 3 n s ar r) = (cs ++ (⟨3, (l : Nat), s1⟩ :: (layA D (cs.length + 1 + l)).1)) ++ ⟨0, -1, eS⟩ :: (rawA r ++ (layA D (cs.length + 1 + l)).2) := by
    simp only [midR, rawA, rawC, if_true, List.append_assoc, List.cons_append]
  rw [e1, h]
  unfold midR lay1
  rw [layA_app, layA_comp, if_pos rfl]
  simp [layA]
def LaidSaid (T : TA) : Prop := ∀ (M : List Nat) (w0 : World) (H : List (Nat × Obj)) (F : List (World → Prop)) (vars k n : Int) (s : ByteArray) (A : Option Addr) (c : Nat) (cs : List HC) (v : Value) (O : List (Nat × Obj)) (w : World),
  Und F (ArA A c T) → (Ts.cons k n s T.ts .nil).good vars = true → (k = 1 ∨ k = 3) → cs.length + 2 * T.ts.nodes + 2 ≤ 1000000 → Rw 50 3 v cs.length (hcsL cs) O → St M w0 (O ++ H) F w →
    Calls Tryd.prog 29 #[v, .agg #[.int .i64 k, .int .i64 n, .string s, .slice A T.len c]] w fun e w' => ∃ (A' : Option Addr) (c' : Nat) (O' : List (Nat × Obj)), e = .returned (.tuple #[.slice A' (cs ++ lay1 k n s T.ts cs.length).length c', .int .i64 (cs.length : Nat)]) ∧
      Rw 50 3 (.slice A' (cs ++ lay1 k n s T.ts cs.length).length c') (cs ++ lay1 k n s T.ts cs.length).length (hcsL (cs ++ lay1 k n s T.ts cs.length)) O' ∧ St M w0 (O' ++ H) F w'
theorem laid_of (T : TA) (ihT : ∀ U : TA, U.ts.nodes < T.ts.nodes → LaidSaid U) : LaidSaid T := by
  intro M w0 H F vars k n s A c cs v O w hA hg hk13 hb hrow hS
  obtain ⟨A1, c1, rfl, hc1⟩ := hrow.form
  have hln := Ts.length_le T.ts
  rw [TA.len_ts] at hln
  refine goes_enter2 Tryd.func29 rfl Tryd.ntmps29 rfl ?_
  rcases hk13 with rfl | rfl
  · have e : lay1 1 n s T.ts cs.length = [⟨1, 0, s⟩] := rfl
    refine goes_seq ?_
    refine goes_region ?_
    refine lst_box hS rfl rfl ?_
    clear hS
    intro b1 wx1 hS
    refine lst_run (run_assign (by conv => lhs; whnf)) rfl ?_
    refine lst_run (run_assign (by conv => lhs; whnf)) rfl ?_
    refine lst_done ?_
    refine goes_seq ?_
    refine goes_region ?_
    refine lst_run (run_move (by conv => lhs; whnf)) rfl ?_
    refine lst_run (run_len_slice rfl rfl rfl) rfl ?_
    refine lst_run (run_assign (by conv => lhs; whnf)) rfl ?_
    refine lst_done ?_
    refine goes_seq ?_
    refine goes_seq ?_
    refine goes_region ?_
    refine lst_run (run_fieldAddr (off := 0) rfl rfl) rfl ?_
    first
      | refine lst_run (run_load1_own hS rfl rfl (by first | exact .head | exact .tail .head | exact .tail (.tail .head) | exact .tail (.tail (.tail .head)) | exact .tail (.tail (.tail (.tail .head))) | exact .tail (.tail (.tail (.tail (.tail .head))))) (by repeat constructor)) rfl ?_
      | refine lst_run (run_load1 rfl rfl (by first | assumption | exact hS.cell0 (by assumption) | exact lv_next hS | exact lv_list hS)) rfl ?_
    refine lst_done ?_
    refine goes_block ?_
    refine goes_seq ?_
    refine goes_region ?_
    first
      | refine lst_run (run_eql_one_int rfl rfl) rfl ?_
      | refine lst_run (run_eql_no rfl rfl (by first | assumption | omega)) rfl ?_
      | refine lst_run (run_eql_yes rfl rfl (by omega)) rfl ?_
      | refine lst_run (rfl) rfl ?_
    refine lst_run (run_assign (by conv => lhs; whnf)) rfl ?_
    refine lst_done ?_
    refine goes_true rfl ?_
    refine goes_seq ?_
    refine goes_region ?_
    refine lst_run (run_move (by conv => lhs; whnf)) rfl ?_
    refine lst_run (run_fieldAddr (off := 2) rfl rfl) rfl ?_
    first
      | refine lst_run (run_load1_own hS rfl rfl (by first | exact .head | exact .tail .head | exact .tail (.tail .head) | exact .tail (.tail (.tail .head)) | exact .tail (.tail (.tail (.tail .head))) | exact .tail (.tail (.tail (.tail (.tail .head))))) (by repeat constructor)) rfl ?_
      | refine lst_run (run_load1 rfl rfl (by first | assumption | exact hS.cell0 (by assumption) | exact lv_next hS | exact lv_list hS)) rfl ?_
    refine lst_run (run_build (cells := [_, _, _]) (.cons (by conv => lhs; whnf) (.cons (by conv => lhs; whnf) .nil)) rfl) rfl ?_
    refine lst_buildSlice (cells := [_, _, _]) hS (.cons (by conv => lhs; whnf) .nil) rfl rfl ?_
    clear hS
    intro b2 wx2 hS
    refine lst_appC (L := [⟨1, 0, s⟩]) hS (by conv => lhs; whnf) (by rfl) rfl rfl rfl (Flat.own (sp := []) (hS.own (_, _) (.head _)) rfl (Nat.le_refl _)) hrow (List.perm_append_comm_assoc [_, _] O _) (by simp; omega) rfl ?_
    clear hS
    intro v7 O7 w7 hrow7 hS
    obtain ⟨B7, d7, rfl, _⟩ := hrow7.form
    replace hS := hS.perm (List.perm_append_comm_assoc O7 [_, _] _)
    refine lst_run (run_move (by conv => lhs; whnf)) rfl ?_
    refine lst_run (run_assign (by conv => lhs; whnf)) rfl ?_
    refine lst_run (run_assign (by conv => lhs; whnf)) rfl ?_
    refine lst_done ?_
    refine goes_ret2 Tryd.func29 rfl (by conv => lhs; whnf) (by conv => lhs; whnf) ?_
    rw [e]
    refine ⟨B7, d7, O7, by simp, ?_, hS.drop.drop⟩
    rw [List.length_append, hcsL_app]; exact hrow7
  · have hTl : 1 ≤ T.len := by
      rcases node_iff (good_cons hg).1 with h | h | h | h
      · omega
      · omega
      · omega
      · rw [← TA.len_ts]; omega
    refine goes_seq ?_
    refine goes_region ?_
    refine lst_box hS rfl rfl ?_
    clear hS
    intro b1 wx1 hS
    refine lst_run (run_assign (by conv => lhs; whnf)) rfl ?_
    refine lst_run (run_assign (by conv => lhs; whnf)) rfl ?_
    refine lst_done ?_
    refine goes_seq ?_
    refine goes_region ?_
    refine lst_run (run_move (by conv => lhs; whnf)) rfl ?_
    refine lst_run (run_len_slice rfl rfl rfl) rfl ?_
    refine lst_run (run_assign (by conv => lhs; whnf)) rfl ?_
    refine lst_done ?_
    refine goes_seq ?_
    refine goes_seq ?_
    refine goes_region ?_
    refine lst_run (run_fieldAddr (off := 0) rfl rfl) rfl ?_
    first
      | refine lst_run (run_load1_own hS rfl rfl (by first | exact .head | exact .tail .head | exact .tail (.tail .head) | exact .tail (.tail (.tail .head)) | exact .tail (.tail (.tail (.tail .head))) | exact .tail (.tail (.tail (.tail (.tail .head))))) (by repeat constructor)) rfl ?_
      | refine lst_run (run_load1 rfl rfl (by first | assumption | exact hS.cell0 (by assumption) | exact lv_next hS | exact lv_list hS)) rfl ?_
    refine lst_done ?_
    refine goes_block ?_
    refine goes_seq ?_
    refine goes_region ?_
    first
      | refine lst_run (run_eql_one_int rfl rfl) rfl ?_
      | refine lst_run (run_eql_no rfl rfl (by first | assumption | omega)) rfl ?_
      | refine lst_run (run_eql_yes rfl rfl (by omega)) rfl ?_
      | refine lst_run (rfl) rfl ?_
    refine lst_run (run_assign (by conv => lhs; whnf)) rfl ?_
    refine lst_done ?_
    refine goes_false rfl ?_
    refine goes_seq ?_
    refine goes_region ?_
    first
      | refine lst_run (run_eql_one_int rfl rfl) rfl ?_
      | refine lst_run (run_eql_no rfl rfl (by first | assumption | omega)) rfl ?_
      | refine lst_run (run_eql_yes rfl rfl (by omega)) rfl ?_
      | refine lst_run (rfl) rfl ?_
    refine lst_run (run_assign (by conv => lhs; whnf)) rfl ?_
    refine lst_done ?_
    refine goes_false rfl ?_
    refine goes_skip ?_
    refine goes_inBlock ?_
    refine goes_seq ?_
    refine goes_region ?_
    refine lst_run (run_move (by conv => lhs; whnf)) rfl ?_
    refine lst_run (run_fieldAddr (off := 3) rfl rfl) rfl ?_
    first
      | refine lst_run (run_load1_own hS rfl rfl (by first | exact .head | exact .tail .head | exact .tail (.tail .head) | exact .tail (.tail (.tail .head)) | exact .tail (.tail (.tail (.tail .head))) | exact .tail (.tail (.tail (.tail (.tail .head))))) (by repeat constructor)) rfl ?_
      | refine lst_run (run_load1 rfl rfl (by first | assumption | exact hS.cell0 (by assumption) | exact lv_next hS | exact lv_list hS)) rfl ?_
    refine lst_run (run_len_slice rfl rfl rfl) rfl ?_
    refine lst_run (run_fieldAddr (off := 2) rfl rfl) rfl ?_
    first
      | refine lst_run (run_load1_own hS rfl rfl (by first | exact .head | exact .tail .head | exact .tail (.tail .head) | exact .tail (.tail (.tail .head)) | exact .tail (.tail (.tail (.tail .head))) | exact .tail (.tail (.tail (.tail (.tail .head))))) (by repeat constructor)) rfl ?_
      | refine lst_run (run_load1 rfl rfl (by first | assumption | exact hS.cell0 (by assumption) | exact lv_next hS | exact lv_list hS)) rfl ?_
    refine lst_run (run_build (cells := [_, _, _]) (.cons (by conv => lhs; whnf) (.cons (by conv => lhs; whnf) (.cons (by conv => lhs; whnf) .nil))) rfl) rfl ?_
    refine lst_buildSlice (cells := [_, _, _]) hS (.cons (by conv => lhs; whnf) .nil) rfl rfl ?_
    clear hS
    intro b2 wx2 hS
    refine lst_appC (L := [⟨3, (T.len : Nat), s⟩]) hS (by conv => lhs; whnf) (by rfl) rfl rfl rfl (Flat.own (sp := []) (hS.own (_, _) (.head _)) rfl (Nat.le_refl _)) hrow (List.perm_append_comm_assoc [_, _] O _) (by simp; omega) rfl ?_
    clear hS
    intro v7 O7 w7 hrow7 hS
    change Rw _ _ _ (cs.length + 1) _ _ at hrow7
    obtain ⟨B7, d7, rfl, _⟩ := hrow7.form
    replace hS := (hS.perm (List.perm_append_comm_assoc O7 [_, _] _)).drop
    refine lst_run (run_assign (by conv => lhs; whnf)) rfl ?_
    refine lst_done ?_
    refine goes_seq ?_
    refine goes_seq ?_
    refine goes_region ?_
    refine lst_run (run_fieldAddr (off := 3) rfl rfl) rfl ?_
    first
      | refine lst_run (run_load1_own hS rfl rfl (by first | exact .head | exact .tail .head | exact .tail (.tail .head) | exact .tail (.tail (.tail .head)) | exact .tail (.tail (.tail (.tail .head))) | exact .tail (.tail (.tail (.tail (.tail .head))))) (by repeat constructor)) rfl ?_
      | refine lst_run (run_load1 rfl rfl (by first | assumption | exact hS.cell0 (by assumption) | exact lv_next hS | exact lv_list hS)) rfl ?_
    refine lst_run (run_len_slice rfl rfl rfl) rfl ?_
    refine lst_run (run_move (by conv => lhs; whnf)) rfl ?_
    refine lst_done ?_
    refine goes_block ?_
    have hbm : ∀ D : TA, (cs ++ [(⟨3, (T.len : Nat), s⟩ : HC)] ++ rawA D.ts).length = cs.length + 1 + D.len := fun D => by
      simp only [List.length_append, List.length_cons, List.length_nil, rawA_len, TA.len_ts]
    refine goes_loop2 46 0 (47 :: 48 :: 49 :: 8 :: 50 :: 51 :: 52 :: 53 :: 54 :: 55 :: 56 :: 9 :: 57 :: 58 :: 59 :: 60 :: 61 :: 62 :: 63 :: 64 :: 65 :: []) (fun (R : TA) y u w' => ∃ (D : TA) (Au : Option Addr) (cu : Nat) (Ou : List (Nat × Obj)), T = D.app R ∧ y = .int .i64 (D.len : Nat) ∧ u = .slice Au (cs ++ [(⟨3, (T.len : Nat), s⟩ : HC)] ++ rawA D.ts).length cu ∧ Rw 50 3 (.slice Au (cs ++ [(⟨3, (T.len : Nat), s⟩ : HC)] ++ rawA D.ts).length cu) (cs ++ [(⟨3, (T.len : Nat), s⟩ : HC)] ++ rawA D.ts).length (hcsL (cs ++ [(⟨3, (T.len : Nat), s⟩ : HC)] ++ rawA D.ts)) Ou ∧ St M w0 ((b1, .cells [.int .i64 3, .int .i64 n, .string s, .slice A T.len c].toArray 24) :: (Ou ++ H)) F w') (fun R => R.len) (T) ?_ (by conv => lhs; whnf) (by conv => lhs; whnf) ?_
    · refine ⟨.nil, B7, d7, O7, rfl, rfl, by rw [hbm]; rfl, ?_, hS⟩
      rw [hbm, show TA.nil.ts = Ts.nil from rfl, rawA, List.append_nil, hcsL_app]; exact hrow7
    clear hS hrow7
    rintro R _ _ w3 jv ⟨D, Au, cu, Ou, hD, rfl, rfl, hrow, hS⟩ ih
    have hlen : T.len = D.len + R.len := by rw [hD, TA.len_app]
    have hTn : T.ts.nodes = D.ts.nodes + R.ts.nodes := by rw [hD, TA.app_ts, Ts.nodes_app]
    have hml := hbm D
    have hgT := (good_cons hg).2.1
    cases R with
    | cons k1 n1 s1 Aa ca a1 r =>
      have hRl : (TA.cons k1 n1 s1 Aa ca a1 r).len = r.len + 1 := rfl
      have hA' : Und F (ArA A c (D.app (.cons k1 n1 s1 Aa ca a1 r))) := by rw [← hD]; exact hA
      obtain ⟨bk, ok, rfl⟩ := (hS.und hA').some_ (by rw [TA.len_app]; simp only [TA.len]; omega)
      have hcc : ∀ {H'} w', St M w0 H' F w' → _ := fun w' hS => (hS.und hA').cells
      have eD : rawA (D.app (.cons k1 n1 s1 Aa ca a1 .nil)).ts = rawA D.ts ++ [rawC k1 n1 s1] := by rw [TA.app_ts, rawA_app]; rfl
      have eL : cs ++ [(⟨3, (T.len : Nat), s⟩ : HC)] ++ rawA (D.app (.cons k1 n1 s1 Aa ca a1 .nil)).ts = (cs ++ [(⟨3, (T.len : Nat), s⟩ : HC)] ++ rawA D.ts) ++ [rawC k1 n1 s1] := by rw [eD]; simp
      by_cases hk1 : k1 = 3
      · subst hk1
        refine goes_seq ?_
        refine goes_region ?_
        first
          | refine lst_run (run_lss_yes rfl rfl (by omega)) rfl ?_
          | refine lst_run (run_lss_no rfl rfl (by omega)) rfl ?_
          | refine lst_run (rfl) rfl ?_
        refine lst_done ?_
        refine goes_seq ?_
        refine goes_true rfl ?_
        refine goes_skip ?_
        refine goes_seq ?_
        refine goes_block ?_
        refine goes_seq ?_
        refine goes_region ?_
        refine lst_run (run_indexAddr (sz := 4) rfl rfl rfl rfl (by omega) (by omega)) rfl ?_
        first
          | refine lst_run (run_loadN_own (k := 4) hS rfl rfl rfl (by first | exact .head | exact .tail .head | exact .tail (.tail .head) | exact .tail (.tail (.tail .head)) | exact .tail (.tail (.tail (.tail .head))) | exact .tail (.tail (.tail (.tail (.tail .head))))) (by repeat constructor)) rfl ?_
          | refine lst_run (run_load4 rfl rfl rfl (by first | assumption | exact (hcc _ hS).1 | exact (hcc _ hS).2.1 | exact (hcc _ hS).2.2.1 | exact (hcc _ hS).2.2.2 | exact hS.cell0 (by assumption)) (by first | assumption | exact (hcc _ hS).1 | exact (hcc _ hS).2.1 | exact (hcc _ hS).2.2.1 | exact (hcc _ hS).2.2.2 | exact hS.cell0 (by assumption)) (by first | assumption | exact (hcc _ hS).1 | exact (hcc _ hS).2.1 | exact (hcc _ hS).2.2.1 | exact (hcc _ hS).2.2.2 | exact hS.cell0 (by assumption)) (by first | assumption | exact (hcc _ hS).1 | exact (hcc _ hS).2.1 | exact (hcc _ hS).2.2.1 | exact (hcc _ hS).2.2.2 | exact hS.cell0 (by assumption))) rfl ?_
        refine lst_alloc (cs := [_, _, _, _]) hS rfl rfl rfl ?_
        clear hS
        intro b3 wx3 hS
        refine lst_storeN hS rfl (by conv => lhs; whnf) rfl rfl (by first | exact .head | exact .tail .head | exact .tail (.tail .head) | exact .tail (.tail (.tail .head)) | exact .tail (.tail (.tail (.tail .head))) | exact .tail (.tail (.tail (.tail (.tail .head))))) (by repeat constructor) (by first | exact .head | exact .tail .head | exact .tail (.tail .head) | exact .tail (.tail (.tail .head)) | exact .tail (.tail (.tail (.tail .head))) | exact .tail (.tail (.tail (.tail (.tail .head))))) ?_
        clear hS
        intro wx4 hS
        refine lst_done ?_
        refine goes_seq ?_
        refine goes_region ?_
        refine lst_run (run_fieldAddr (off := 0) rfl rfl) rfl ?_
        first
          | refine lst_run (run_load1_own hS rfl rfl (by first | exact .head | exact .tail .head | exact .tail (.tail .head) | exact .tail (.tail (.tail .head)) | exact .tail (.tail (.tail (.tail .head))) | exact .tail (.tail (.tail (.tail (.tail .head))))) (by repeat constructor)) rfl ?_
          | refine lst_run (run_load1 rfl rfl (by first | assumption | exact (hcc _ hS).1 | exact (hcc _ hS).2.1 | exact (hcc _ hS).2.2.1 | exact (hcc _ hS).2.2.2 | exact hS.cell0 (by assumption) | exact lv_next hS | exact lv_list hS)) rfl ?_
        refine lst_run (run_fieldAddr (off := 1) rfl rfl) rfl ?_
        first
          | refine lst_run (run_load1_own hS rfl rfl (by first | exact .head | exact .tail .head | exact .tail (.tail .head) | exact .tail (.tail (.tail .head)) | exact .tail (.tail (.tail (.tail .head))) | exact .tail (.tail (.tail (.tail (.tail .head))))) (by repeat constructor)) rfl ?_
          | refine lst_run (run_load1 rfl rfl (by first | assumption | exact (hcc _ hS).1 | exact (hcc _ hS).2.1 | exact (hcc _ hS).2.2.1 | exact (hcc _ hS).2.2.2 | exact hS.cell0 (by assumption) | exact lv_next hS | exact lv_list hS)) rfl ?_
        refine lst_run (run_fieldAddr (off := 2) rfl rfl) rfl ?_
        first
          | refine lst_run (run_load1_own hS rfl rfl (by first | exact .head | exact .tail .head | exact .tail (.tail .head) | exact .tail (.tail (.tail .head)) | exact .tail (.tail (.tail (.tail .head))) | exact .tail (.tail (.tail (.tail (.tail .head))))) (by repeat constructor)) rfl ?_
          | refine lst_run (run_load1 rfl rfl (by first | assumption | exact (hcc _ hS).1 | exact (hcc _ hS).2.1 | exact (hcc _ hS).2.2.1 | exact (hcc _ hS).2.2.2 | exact hS.cell0 (by assumption) | exact lv_next hS | exact lv_list hS)) rfl ?_
        refine lst_run (run_build (cells := [_, _, _]) (.cons (by conv => lhs; whnf) (.cons (by conv => lhs; whnf) (.cons (by conv => lhs; whnf) .nil))) rfl) rfl ?_
        refine lst_alloc (cs := [_, _, _]) hS rfl rfl rfl ?_
        clear hS
        intro b4 wx5 hS
        refine lst_storeN hS rfl (by conv => lhs; whnf) rfl rfl (by first | exact .head | exact .tail .head | exact .tail (.tail .head) | exact .tail (.tail (.tail .head)) | exact .tail (.tail (.tail (.tail .head))) | exact .tail (.tail (.tail (.tail (.tail .head))))) (by repeat constructor) (by first | exact .head | exact .tail .head | exact .tail (.tail .head) | exact .tail (.tail (.tail .head)) | exact .tail (.tail (.tail (.tail .head))) | exact .tail (.tail (.tail (.tail (.tail .head))))) ?_
        clear hS
        intro wx6 hS
        refine lst_done ?_
        refine goes_seq ?_
        refine goes_seq ?_
        refine goes_region ?_
        refine lst_run (run_fieldAddr (off := 0) rfl rfl) rfl ?_
        first
          | refine lst_run (run_load1_own hS rfl rfl (by first | exact .head | exact .tail .head | exact .tail (.tail .head) | exact .tail (.tail (.tail .head)) | exact .tail (.tail (.tail (.tail .head))) | exact .tail (.tail (.tail (.tail (.tail .head))))) (by repeat constructor)) rfl ?_
          | refine lst_run (run_load1 rfl rfl (by first | assumption | exact (hcc _ hS).1 | exact (hcc _ hS).2.1 | exact (hcc _ hS).2.2.1 | exact (hcc _ hS).2.2.2 | exact hS.cell0 (by assumption) | exact lv_next hS | exact lv_list hS)) rfl ?_
        first
          | refine lst_run (run_eql_one_int rfl rfl) rfl ?_
          | refine lst_run (run_eql_no rfl rfl (by first | assumption | omega)) rfl ?_
          | refine lst_run (run_eql_yes rfl rfl (by omega)) rfl ?_
          | refine lst_run (rfl) rfl ?_
        refine lst_done ?_
        refine goes_true rfl ?_
        refine goes_region ?_
        refine lst_run (run_build (cells := [_, _, _]) (.cons (by conv => lhs; whnf) .nil) rfl) rfl ?_
        refine lst_storeN hS rfl (by conv => lhs; whnf) rfl rfl (by first | exact .head | exact .tail .head | exact .tail (.tail .head) | exact .tail (.tail (.tail .head)) | exact .tail (.tail (.tail (.tail .head))) | exact .tail (.tail (.tail (.tail (.tail .head))))) (by repeat constructor) (by first | exact .head | exact .tail .head | exact .tail (.tail .head) | exact .tail (.tail (.tail .head)) | exact .tail (.tail (.tail (.tail .head))) | exact .tail (.tail (.tail (.tail (.tail .head))))) ?_
        clear hS
        intro wx7 hS
        refine lst_done ?_
        refine goes_region ?_
        refine lst_run (run_move (by conv => lhs; whnf)) rfl ?_
        first
          | refine lst_run (run_loadN_own (k := 3) hS rfl rfl rfl (by first | exact .head | exact .tail .head | exact .tail (.tail .head) | exact .tail (.tail (.tail .head)) | exact .tail (.tail (.tail (.tail .head))) | exact .tail (.tail (.tail (.tail (.tail .head))))) (by repeat constructor)) rfl ?_
          | refine lst_run (run_load3 rfl rfl rfl (by first | assumption | exact (hcc _ hS).1 | exact (hcc _ hS).2.1 | exact (hcc _ hS).2.2.1 | exact (hcc _ hS).2.2.2 | exact hS.cell0 (by assumption)) (by first | assumption | exact (hcc _ hS).1 | exact (hcc _ hS).2.1 | exact (hcc _ hS).2.2.1 | exact (hcc _ hS).2.2.2 | exact hS.cell0 (by assumption)) (by first | assumption | exact (hcc _ hS).1 | exact (hcc _ hS).2.1 | exact (hcc _ hS).2.2.1 | exact (hcc _ hS).2.2.2 | exact hS.cell0 (by assumption))) rfl ?_
        refine lst_buildSlice (cells := [_, _, _]) hS (.cons (by conv => lhs; whnf) .nil) rfl rfl ?_
        clear hS
        intro b5 wx8 hS
        refine lst_appC (L := [⟨0, -1, eS⟩]) hS (by conv => lhs; whnf) (by rfl) rfl rfl rfl (Flat.own (sp := []) (hS.own (_, _) (.head _)) rfl (Nat.le_refl _)) hrow (List.perm_append_comm_assoc [_, _, _, _] Ou _) (by show _ + 1 ≤ _; omega) rfl ?_
        clear hS
        intro v8 O8 w8 hrow8 hS
        obtain ⟨B8, d8, rfl, _⟩ := hrow8.form
        replace hS := (hS.perm (List.perm_append_comm_assoc O8 [_, _, _, _] _)).drop.drop.drop
        refine lst_run (run_assign (by conv => lhs; whnf)) rfl ?_
        refine lst_done ?_
        refine goes_inBlock ?_
        refine goes_region ?_
        refine lst_run (run_add rfl rfl (by omega) (by omega)) rfl ?_
        refine lst_run (run_move (by conv => lhs; whnf)) rfl ?_
        refine lst_done ?_
        refine ih (r) _ _ _ _ ?_ ?_ (by conv => lhs; whnf) (by conv => lhs; whnf) (by kernel_rfl)
        · omega
        · refine ⟨D.app (.cons 3 n1 s1 Aa ca a1 .nil), B8, d8, O8, by rw [hD, TA.app_assoc]; rfl, by rw [TA.len_app]; rfl, ?_, ?_, hS⟩
          · rw [eL]; simp only [List.length_append, List.length_cons, List.length_nil]
          · rw [eL, List.length_append, hcsL_app]; exact hrow8
      · have e1 : rawC k1 n1 s1 = ⟨k1, n1, s1⟩ := by unfold rawC; rw [if_neg hk1]
        rw [e1] at eL
        refine goes_seq ?_
        refine goes_region ?_
        first
          | refine lst_run (run_lss_yes rfl rfl (by omega)) rfl ?_
          | refine lst_run (run_lss_no rfl rfl (by omega)) rfl ?_
          | refine lst_run (rfl) rfl ?_
        refine lst_done ?_
        refine goes_seq ?_
        refine goes_true rfl ?_
        refine goes_skip ?_
        refine goes_seq ?_
        refine goes_block ?_
        refine goes_seq ?_
        refine goes_region ?_
        refine lst_run (run_indexAddr (sz := 4) rfl rfl rfl rfl (by omega) (by omega)) rfl ?_
        first
          | refine lst_run (run_loadN_own (k := 4) hS rfl rfl rfl (by first | exact .head | exact .tail .head | exact .tail (.tail .head) | exact .tail (.tail (.tail .head)) | exact .tail (.tail (.tail (.tail .head))) | exact .tail (.tail (.tail (.tail (.tail .head))))) (by repeat constructor)) rfl ?_
          | refine lst_run (run_load4 rfl rfl rfl (by first | assumption | exact (hcc _ hS).1 | exact (hcc _ hS).2.1 | exact (hcc _ hS).2.2.1 | exact (hcc _ hS).2.2.2 | exact hS.cell0 (by assumption)) (by first | assumption | exact (hcc _ hS).1 | exact (hcc _ hS).2.1 | exact (hcc _ hS).2.2.1 | exact (hcc _ hS).2.2.2 | exact hS.cell0 (by assumption)) (by first | assumption | exact (hcc _ hS).1 | exact (hcc _ hS).2.1 | exact (hcc _ hS).2.2.1 | exact (hcc _ hS).2.2.2 | exact hS.cell0 (by assumption)) (by first | assumption | exact (hcc _ hS).1 | exact (hcc _ hS).2.1 | exact (hcc _ hS).2.2.1 | exact (hcc _ hS).2.2.2 | exact hS.cell0 (by assumption))) rfl ?_
        refine lst_alloc (cs := [_, _, _, _]) hS rfl rfl rfl ?_
        clear hS
        intro b3 wx3 hS
        refine lst_storeN hS rfl (by conv => lhs; whnf) rfl rfl (by first | exact .head | exact .tail .head | exact .tail (.tail .head) | exact .tail (.tail (.tail .head)) | exact .tail (.tail (.tail (.tail .head))) | exact .tail (.tail (.tail (.tail (.tail .head))))) (by repeat constructor) (by first | exact .head | exact .tail .head | exact .tail (.tail .head) | exact .tail (.tail (.tail .head)) | exact .tail (.tail (.tail (.tail .head))) | exact .tail (.tail (.tail (.tail (.tail .head))))) ?_
        clear hS
        intro wx4 hS
        refine lst_done ?_
        refine goes_seq ?_
        refine goes_region ?_
        refine lst_run (run_fieldAddr (off := 0) rfl rfl) rfl ?_
        first
          | refine lst_run (run_load1_own hS rfl rfl (by first | exact .head | exact .tail .head | exact .tail (.tail .head) | exact .tail (.tail (.tail .head)) | exact .tail (.tail (.tail (.tail .head))) | exact .tail (.tail (.tail (.tail (.tail .head))))) (by repeat constructor)) rfl ?_
          | refine lst_run (run_load1 rfl rfl (by first | assumption | exact (hcc _ hS).1 | exact (hcc _ hS).2.1 | exact (hcc _ hS).2.2.1 | exact (hcc _ hS).2.2.2 | exact hS.cell0 (by assumption) | exact lv_next hS | exact lv_list hS)) rfl ?_
        refine lst_run (run_fieldAddr (off := 1) rfl rfl) rfl ?_
        first
          | refine lst_run (run_load1_own hS rfl rfl (by first | exact .head | exact .tail .head | exact .tail (.tail .head) | exact .tail (.tail (.tail .head)) | exact .tail (.tail (.tail (.tail .head))) | exact .tail (.tail (.tail (.tail (.tail .head))))) (by repeat constructor)) rfl ?_
          | refine lst_run (run_load1 rfl rfl (by first | assumption | exact (hcc _ hS).1 | exact (hcc _ hS).2.1 | exact (hcc _ hS).2.2.1 | exact (hcc _ hS).2.2.2 | exact hS.cell0 (by assumption) | exact lv_next hS | exact lv_list hS)) rfl ?_
        refine lst_run (run_fieldAddr (off := 2) rfl rfl) rfl ?_
        first
          | refine lst_run (run_load1_own hS rfl rfl (by first | exact .head | exact .tail .head | exact .tail (.tail .head) | exact .tail (.tail (.tail .head)) | exact .tail (.tail (.tail (.tail .head))) | exact .tail (.tail (.tail (.tail (.tail .head))))) (by repeat constructor)) rfl ?_
          | refine lst_run (run_load1 rfl rfl (by first | assumption | exact (hcc _ hS).1 | exact (hcc _ hS).2.1 | exact (hcc _ hS).2.2.1 | exact (hcc _ hS).2.2.2 | exact hS.cell0 (by assumption) | exact lv_next hS | exact lv_list hS)) rfl ?_
        refine lst_run (run_build (cells := [_, _, _]) (.cons (by conv => lhs; whnf) (.cons (by conv => lhs; whnf) (.cons (by conv => lhs; whnf) .nil))) rfl) rfl ?_
        refine lst_alloc (cs := [_, _, _]) hS rfl rfl rfl ?_
        clear hS
        intro b4 wx5 hS
        refine lst_storeN hS rfl (by conv => lhs; whnf) rfl rfl (by first | exact .head | exact .tail .head | exact .tail (.tail .head) | exact .tail (.tail (.tail .head)) | exact .tail (.tail (.tail (.tail .head))) | exact .tail (.tail (.tail (.tail (.tail .head))))) (by repeat constructor) (by first | exact .head | exact .tail .head | exact .tail (.tail .head) | exact .tail (.tail (.tail .head)) | exact .tail (.tail (.tail (.tail .head))) | exact .tail (.tail (.tail (.tail (.tail .head))))) ?_
        clear hS
        intro wx6 hS
        refine lst_done ?_
        refine goes_seq ?_
        refine goes_seq ?_
        refine goes_region ?_
        refine lst_run (run_fieldAddr (off := 0) rfl rfl) rfl ?_
        first
          | refine lst_run (run_load1_own hS rfl rfl (by first | exact .head | exact .tail .head | exact .tail (.tail .head) | exact .tail (.tail (.tail .head)) | exact .tail (.tail (.tail (.tail .head))) | exact .tail (.tail (.tail (.tail (.tail .head))))) (by repeat constructor)) rfl ?_
          | refine lst_run (run_load1 rfl rfl (by first | assumption | exact (hcc _ hS).1 | exact (hcc _ hS).2.1 | exact (hcc _ hS).2.2.1 | exact (hcc _ hS).2.2.2 | exact hS.cell0 (by assumption) | exact lv_next hS | exact lv_list hS)) rfl ?_
        first
          | refine lst_run (run_eql_one_int rfl rfl) rfl ?_
          | refine lst_run (run_eql_no rfl rfl (by first | assumption | omega)) rfl ?_
          | refine lst_run (run_eql_yes rfl rfl (by omega)) rfl ?_
          | refine lst_run (rfl) rfl ?_
        refine lst_done ?_
        refine goes_false rfl ?_
        refine goes_skip ?_
        refine goes_region ?_
        refine lst_run (run_move (by conv => lhs; whnf)) rfl ?_
        first
          | refine lst_run (run_loadN_own (k := 3) hS rfl rfl rfl (by first | exact .head | exact .tail .head | exact .tail (.tail .head) | exact .tail (.tail (.tail .head)) | exact .tail (.tail (.tail (.tail .head))) | exact .tail (.tail (.tail (.tail (.tail .head))))) (by repeat constructor)) rfl ?_
          | refine lst_run (run_load3 rfl rfl rfl (by first | assumption | exact (hcc _ hS).1 | exact (hcc _ hS).2.1 | exact (hcc _ hS).2.2.1 | exact (hcc _ hS).2.2.2 | exact hS.cell0 (by assumption)) (by first | assumption | exact (hcc _ hS).1 | exact (hcc _ hS).2.1 | exact (hcc _ hS).2.2.1 | exact (hcc _ hS).2.2.2 | exact hS.cell0 (by assumption)) (by first | assumption | exact (hcc _ hS).1 | exact (hcc _ hS).2.1 | exact (hcc _ hS).2.2.1 | exact (hcc _ hS).2.2.2 | exact hS.cell0 (by assumption))) rfl ?_
        refine lst_buildSlice (cells := [_, _, _]) hS (.cons (by conv => lhs; whnf) .nil) rfl rfl ?_
        clear hS
        intro b5 wx7 hS
        refine lst_appC (L := [⟨k1, n1, s1⟩]) hS (by conv => lhs; whnf) (by rfl) rfl rfl rfl (Flat.own (sp := []) (hS.own (_, _) (.head _)) rfl (Nat.le_refl _)) hrow (List.perm_append_comm_assoc [_, _, _, _] Ou _) (by show _ + 1 ≤ _; omega) rfl ?_
        clear hS
        intro v8 O8 w8 hrow8 hS
        obtain ⟨B8, d8, rfl, _⟩ := hrow8.form
        replace hS := (hS.perm (List.perm_append_comm_assoc O8 [_, _, _, _] _)).drop.drop.drop
        refine lst_run (run_assign (by conv => lhs; whnf)) rfl ?_
        refine lst_done ?_
        refine goes_inBlock ?_
        refine goes_region ?_
        refine lst_run (run_add rfl rfl (by omega) (by omega)) rfl ?_
        refine lst_run (run_move (by conv => lhs; whnf)) rfl ?_
        refine lst_done ?_
        refine ih (r) _ _ _ _ ?_ ?_ (by conv => lhs; whnf) (by conv => lhs; whnf) (by kernel_rfl)
        · omega
        · refine ⟨D.app (.cons k1 n1 s1 Aa ca a1 .nil), B8, d8, O8, by rw [hD, TA.app_assoc]; rfl, by rw [TA.len_app]; rfl, ?_, ?_, hS⟩
          · rw [eL]; simp only [List.length_append, List.length_cons, List.length_nil]
          · rw [eL, List.length_append, hcsL_app]; exact hrow8
    | nil =>
    clear ih hbm
    have hTD : T = D := by rw [hD, TA.app_nil]
    subst hTD
    clear hD
    rw [← midR_start cs s T.ts T.len] at hrow hml
    refine goes_seq ?_
    refine goes_region ?_
    first
      | refine lst_run (run_lss_yes rfl rfl (by omega)) rfl ?_
      | refine lst_run (run_lss_no rfl rfl (by omega)) rfl ?_
      | refine lst_run (rfl) rfl ?_
    refine lst_done ?_
    refine goes_seq ?_
    refine goes_false rfl ?_
    refine goes_exit rfl ?_
    refine goes_seq ?_
    refine goes_seq ?_
    refine goes_region ?_
    refine lst_run (run_fieldAddr (off := 3) rfl rfl) rfl ?_
    first
      | refine lst_run (run_load1_own hS rfl rfl (by first | exact .head | exact .tail .head | exact .tail (.tail .head) | exact .tail (.tail (.tail .head)) | exact .tail (.tail (.tail (.tail .head))) | exact .tail (.tail (.tail (.tail (.tail .head))))) (by repeat constructor)) rfl ?_
      | refine lst_run (run_load1 rfl rfl (by first | assumption | exact (hcc _ hS).1 | exact (hcc _ hS).2.1 | exact (hcc _ hS).2.2.1 | exact (hcc _ hS).2.2.2 | exact hS.cell0 (by assumption) | exact lv_next hS | exact lv_list hS)) rfl ?_
    refine lst_run (run_len_slice rfl rfl rfl) rfl ?_
    refine lst_run (run_move (by conv => lhs; whnf)) rfl ?_
    refine lst_done ?_
    refine goes_block ?_
    rw [← midR_start cs s T.ts T.len]
    refine goes_loop2 69 0 (70 :: 71 :: 72 :: 73 :: 11 :: 10 :: 74 :: 75 :: 76 :: 77 :: 78 :: 79 :: 80 :: 81 :: 82 :: 83 :: 84 :: 85 :: 87 :: 88 :: 89 :: 86 :: 90 :: 91 :: 92 :: []) (fun (R : TA) y u w' => ∃ (D : TA) (Au : Option Addr) (cu : Nat) (Ou : List (Nat × Obj)), T = D.app R ∧ y = .int .i64 (D.len : Nat) ∧ u = .slice Au (midR cs s T.len D.ts R.ts).length cu ∧ Rw 50 3 (.slice Au (midR cs s T.len D.ts R.ts).length cu) (midR cs s T.len D.ts R.ts).length (hcsL (midR cs s T.len D.ts R.ts)) Ou ∧ St M w0 ((b1, .cells [.int .i64 3, .int .i64 n, .string s, .slice A T.len c].toArray 24) :: (Ou ++ H)) F w') (fun R => R.len) (T) ?_ (by conv => lhs; whnf) (by conv => lhs; whnf) ?_
    · exact ⟨.nil, Au, cu, Ou, rfl, rfl, rfl, hrow, hS⟩
    clear hS hrow hml hTn hlen
    rintro R _ _ w4 jv2 ⟨D, Au, cu, Ou, hD, rfl, rfl, hrow, hS⟩ ih
    have hlen : T.len = D.len + R.len := by rw [hD, TA.len_app]
    have hml := midR_len cs s T.len D.ts R.ts
    rw [TA.len_ts, TA.len_ts] at hml
    have hTn : T.ts.nodes = D.ts.nodes + R.ts.nodes := by rw [hD, TA.app_ts, Ts.nodes_app]
    have hle := layA_le D.ts (cs.length + 1 + T.len)
    have hDl := TA.len_ts D
    cases R with
    | nil =>
      have hTD : T = D := by rw [hD, TA.app_nil]
      subst hTD
      refine goes_seq ?_
      refine goes_region ?_
      first
        | refine lst_run (run_lss_yes rfl rfl (by omega)) rfl ?_
        | refine lst_run (run_lss_no rfl rfl (by omega)) rfl ?_
        | refine lst_run (rfl) rfl ?_
      refine lst_done ?_
      refine goes_seq ?_
      refine goes_false rfl ?_
      refine goes_exit rfl ?_
      refine goes_seq ?_
      refine goes_region ?_
      refine lst_run (run_move (by conv => lhs; whnf)) rfl ?_
      refine lst_run (run_move (by conv => lhs; whnf)) rfl ?_
      refine lst_run (run_assign (by conv => lhs; whnf)) rfl ?_
      refine lst_run (run_assign (by conv => lhs; whnf)) rfl ?_
      refine lst_done ?_
      refine goes_ret2 Tryd.func29 rfl (by conv => lhs; whnf) (by conv => lhs; whnf) ?_
      have em : midR cs s T.len T.ts TA.nil.ts = cs ++ lay1 3 n s T.ts cs.length := by rw [← TA.len_ts]; exact midR_end cs n s T.ts
      rw [em] at hrow
      rw [em]
      exact ⟨Au, cu, Ou, rfl, hrow, hS.drop⟩
    | cons k1 n1 s1 Aa ca a1 r =>
      have hRl : (TA.cons k1 n1 s1 Aa ca a1 r).len = r.len + 1 := rfl
      have hR1 : (TA.cons k1 n1 s1 Aa ca a1 r).ts.nodes = a1.ts.nodes + r.ts.nodes + 1 := rfl
      have hrl := Ts.length_le r.ts
      rw [TA.len_ts] at hrl
      have hg1 : (Ts.cons k1 n1 s1 a1.ts .nil).good vars = true := by
        have := hgT
        rw [hD, TA.app_ts, Ts.good_ap] at this
        simp only [Bool.and_eq_true] at this
        obtain ⟨x1, x2, _⟩ := good_cons this.2
        simp only [Ts.good, Bool.and_eq_true, and_true]
        exact ⟨x1, x2⟩
      have hA' : Und F (ArA A c (D.app (.cons k1 n1 s1 Aa ca a1 r))) := by rw [← hD]; exact hA
      obtain ⟨bk, ok, rfl⟩ := (hS.und hA').some_ (by rw [TA.len_app]; simp only [TA.len]; omega)
      have hcc : ∀ {H'} w', St M w0 H' F w' → _ := fun w' hS => (hS.und hA').cells
      have hsub : Und F (ArA Aa ca a1) := fun w hw => (hA' w hw).sub
      obtain ⟨g, sp, rfl, rfl, hcap, hlc, _⟩ := hrow.some_ (by omega)
      by_cases hk1 : k1 = 3
      · subst hk1
        have hin : (((cs.length : Nat) : Int) + 1 + ((D.len : Nat) : Int)).toNat = cs.length + 1 + D.ts.length := by rw [TA.len_ts]; omega
        have hput := hcsL_put (midR cs s T.len D.ts (TA.cons 3 n1 s1 Aa ca a1 r).ts) sp (((cs.length : Nat) : Int) + 1 + ((D.len : Nat) : Int)).toNat ((midR cs s T.len D.ts (TA.cons 3 n1 s1 Aa ca a1 r).ts).length : Nat) (by omega)
        refine goes_seq ?_
        refine goes_region ?_
        first
          | refine lst_run (run_lss_yes rfl rfl (by omega)) rfl ?_
          | refine lst_run (run_lss_no rfl rfl (by omega)) rfl ?_
          | refine lst_run (rfl) rfl ?_
        refine lst_done ?_
        refine goes_seq ?_
        refine goes_true rfl ?_
        refine goes_skip ?_
        refine goes_seq ?_
        refine goes_block ?_
        refine goes_seq ?_
        refine goes_region ?_
        refine lst_run (run_move (by conv => lhs; whnf)) rfl ?_
        refine lst_run (run_indexAddr (sz := 4) rfl rfl rfl rfl (by omega) (by omega)) rfl ?_
        first
          | refine lst_run (run_loadN_own (k := 4) hS rfl rfl rfl (by first | exact .head | exact .tail .head | exact .tail (.tail .head) | exact .tail (.tail (.tail .head)) | exact .tail (.tail (.tail (.tail .head))) | exact .tail (.tail (.tail (.tail (.tail .head))))) (by repeat constructor)) rfl ?_
          | refine lst_run (run_load4 rfl rfl rfl (by first | assumption | exact (hcc _ hS).1 | exact (hcc _ hS).2.1 | exact (hcc _ hS).2.2.1 | exact (hcc _ hS).2.2.2 | exact hS.cell0 (by assumption)) (by first | assumption | exact (hcc _ hS).1 | exact (hcc _ hS).2.1 | exact (hcc _ hS).2.2.1 | exact (hcc _ hS).2.2.2 | exact hS.cell0 (by assumption)) (by first | assumption | exact (hcc _ hS).1 | exact (hcc _ hS).2.1 | exact (hcc _ hS).2.2.1 | exact (hcc _ hS).2.2.2 | exact hS.cell0 (by assumption)) (by first | assumption | exact (hcc _ hS).1 | exact (hcc _ hS).2.1 | exact (hcc _ hS).2.2.1 | exact (hcc _ hS).2.2.2 | exact hS.cell0 (by assumption))) rfl ?_
        refine lst_alloc (cs := [_, _, _, _]) hS rfl rfl rfl ?_
        clear hS
        intro b3 wx3 hS
        refine lst_run (run_assign (by conv => lhs; whnf)) rfl ?_
        refine lst_storeN hS rfl (by conv => lhs; whnf) rfl rfl (by first | exact .head | exact .tail .head | exact .tail (.tail .head) | exact .tail (.tail (.tail .head)) | exact .tail (.tail (.tail (.tail .head))) | exact .tail (.tail (.tail (.tail (.tail .head))))) (by repeat constructor) (by first | exact .head | exact .tail .head | exact .tail (.tail .head) | exact .tail (.tail (.tail .head)) | exact .tail (.tail (.tail (.tail .head))) | exact .tail (.tail (.tail (.tail (.tail .head))))) ?_
        clear hS
        intro wx4 hS
        refine lst_done ?_
        refine goes_seq ?_
        refine goes_region ?_
        refine lst_run (run_fieldAddr (off := 0) rfl rfl) rfl ?_
        first
          | refine lst_run (run_load1_own hS rfl rfl (by first | exact .head | exact .tail .head | exact .tail (.tail .head) | exact .tail (.tail (.tail .head)) | exact .tail (.tail (.tail (.tail .head))) | exact .tail (.tail (.tail (.tail (.tail .head))))) (by repeat constructor)) rfl ?_
          | refine lst_run (run_load1 rfl rfl (by first | assumption | exact (hcc _ hS).1 | exact (hcc _ hS).2.1 | exact (hcc _ hS).2.2.1 | exact (hcc _ hS).2.2.2 | exact hS.cell0 (by assumption) | exact lv_next hS | exact lv_list hS)) rfl ?_
        first
          | refine lst_run (run_eql_one_int rfl rfl) rfl ?_
          | refine lst_run (run_eql_no rfl rfl (by first | assumption | omega)) rfl ?_
          | refine lst_run (run_eql_yes rfl rfl (by omega)) rfl ?_
          | refine lst_run (rfl) rfl ?_
        refine lst_done ?_
        refine goes_true rfl ?_
        refine goes_seq ?_
        refine goes_region ?_
        refine lst_run (run_move (by conv => lhs; whnf)) rfl ?_
        refine lst_run (run_move (by conv => lhs; whnf)) rfl ?_
        refine lst_run (run_add rfl rfl (by omega) (by omega)) rfl ?_
        refine lst_run (run_move (by conv => lhs; whnf)) rfl ?_
        refine lst_run (run_add rfl rfl (by omega) (by omega)) rfl ?_
        refine lst_run (run_move (by conv => lhs; whnf)) rfl ?_
        refine lst_run (run_len_slice rfl rfl rfl) rfl ?_
        refine lst_run (run_indexAddr (sz := 3) rfl rfl rfl rfl (by omega) (by omega)) rfl ?_
        refine lst_run (run_fieldAddr (off := 1) rfl rfl) rfl ?_
        refine lst_store1 hS rfl (by conv => lhs; whnf) rfl rfl (.tail (.tail .head)) (by rw [Nat.zero_add]; exact hput) (.tail (.tail .head)) ?_
        clear hS
        intro w5 hS
        refine lst_done ?_
        refine goes_region ?_
        refine lst_run (run_move (by conv => lhs; whnf)) rfl ?_
        first
          | refine lst_run (run_loadN_own (k := 4) hS rfl rfl rfl (by first | exact .head | exact .tail .head | exact .tail (.tail .head) | exact .tail (.tail (.tail .head)) | exact .tail (.tail (.tail (.tail .head))) | exact .tail (.tail (.tail (.tail (.tail .head))))) (by repeat constructor)) rfl ?_
          | refine lst_run (run_load4 rfl rfl rfl (by first | assumption | exact (hcc _ hS).1 | exact (hcc _ hS).2.1 | exact (hcc _ hS).2.2.1 | exact (hcc _ hS).2.2.2 | exact hS.cell0 (by assumption)) (by first | assumption | exact (hcc _ hS).1 | exact (hcc _ hS).2.1 | exact (hcc _ hS).2.2.1 | exact (hcc _ hS).2.2.2 | exact hS.cell0 (by assumption)) (by first | assumption | exact (hcc _ hS).1 | exact (hcc _ hS).2.1 | exact (hcc _ hS).2.2.1 | exact (hcc _ hS).2.2.2 | exact hS.cell0 (by assumption)) (by first | assumption | exact (hcc _ hS).1 | exact (hcc _ hS).2.1 | exact (hcc _ hS).2.2.1 | exact (hcc _ hS).2.2.2 | exact hS.cell0 (by assumption))) rfl ?_
        have hX : (setN (midR cs s T.len D.ts (TA.cons 3 n1 s1 Aa ca a1 r).ts) (((cs.length : Nat) : Int) + 1 + ((D.len : Nat) : Int)).toNat ((midR cs s T.len D.ts (TA.cons 3 n1 s1 Aa ca a1 r).ts).length : Nat)).length = (midR cs s T.len D.ts (TA.cons 3 n1 s1 Aa ca a1 r).ts).length := setN_len _ _ _
        have hcomp := midR_comp cs s T.len D.ts r.ts n1 s1 a1.ts (by rw [TA.len_ts, TA.len_ts]; omega)
        rw [← hin] at hcomp
        have hrowX : Rw 50 3 (.slice (some ⟨g, 0, none⟩) (setN (midR cs s T.len D.ts (TA.cons 3 n1 s1 Aa ca a1 r).ts) (((cs.length : Nat) : Int) + 1 + ((D.len : Nat) : Int)).toNat ((midR cs s T.len D.ts (TA.cons 3 n1 s1 Aa ca a1 r).ts).length : Nat)).length cu) _ (hcsL (setN (midR cs s T.len D.ts (TA.cons 3 n1 s1 Aa ca a1 r).ts) (((cs.length : Nat) : Int) + 1 + ((D.len : Nat) : Int)).toNat ((midR cs s T.len D.ts (TA.cons 3 n1 s1 Aa ca a1 r).ts).length : Nat))) _ := Rw.own_ (sp := sp) (hcsL_len _) (by rw [← hcap]; simp only [List.length_append, hcsL_len, hX]) (by omega) (by omega)
        have hcall := ihT a1 (by omega) M w0 ((b3, .cells [.int .i64 3, .int .i64 n1, .string s1, .slice Aa a1.len ca].toArray 24) :: (b1, .cells [.int .i64 3, .int .i64 n, .string s, .slice (some ⟨bk, ok, none⟩) T.len c].toArray 24) :: H) F vars 3 n1 s1 Aa ca _ _ _ _ hsub hg1 (.inr rfl) (by rw [hX]; omega) hrowX (hS.perm (List.perm_append_comm_assoc [_, _] [_] _))
        rw [hX] at hcall
        rw [show (TA.cons 3 n1 s1 Aa ca a1 r).ts = .cons 3 n1 s1 a1.ts r.ts from rfl, hcomp] at hcall
        refine lst_enter (run_call (by kernel_rfl) (args_2 (by conv => lhs; whnf) (by conv => lhs; whnf))) rfl ?_
        refine Calls.mono (hcall) ?_
        rintro _ w6 ⟨A6, c6, O6, rfl, hrow6, hS'⟩
        refine ⟨_, rfl, ?_⟩
        replace hS := hS'
        clear hS'
        replace hS := (hS.perm (List.perm_append_comm_assoc O6 [_, _] _)).drop
        refine lst_run (run_move (by conv => lhs; whnf)) rfl ?_
        refine lst_run (run_extract rfl rfl) rfl ?_
        refine lst_run (run_extract rfl rfl) rfl ?_
        refine lst_run (run_assign (by conv => lhs; whnf)) rfl ?_
        refine lst_done ?_
        refine goes_inBlock ?_
        refine goes_region ?_
        refine lst_run (run_add rfl rfl (by omega) (by omega)) rfl ?_
        refine lst_run (run_move (by conv => lhs; whnf)) rfl ?_
        refine lst_done ?_
        refine ih (r) _ _ _ _ ?_ ?_ (by conv => lhs; whnf) (by conv => lhs; whnf) (by kernel_rfl)
        · omega
        · exact ⟨D.app (.cons 3 n1 s1 Aa ca a1 .nil), A6, c6, O6, by rw [hD, TA.app_assoc]; rfl, by rw [TA.len_app]; rfl, by rw [TA.app_ts]; rfl, by rw [TA.app_ts]; exact hrow6, hS⟩
      · have hone := midR_one cs s T.len D.ts r.ts n1 s1 a1.ts hk1 (single_raw (good_cons hg1).1 hk1)
        refine goes_seq ?_
        refine goes_region ?_
        first
          | refine lst_run (run_lss_yes rfl rfl (by omega)) rfl ?_
          | refine lst_run (run_lss_no rfl rfl (by omega)) rfl ?_
          | refine lst_run (rfl) rfl ?_
        refine lst_done ?_
        refine goes_seq ?_
        refine goes_true rfl ?_
        refine goes_skip ?_
        refine goes_seq ?_
        refine goes_block ?_
        refine goes_seq ?_
        refine goes_region ?_
        refine lst_run (run_move (by conv => lhs; whnf)) rfl ?_
        refine lst_run (run_indexAddr (sz := 4) rfl rfl rfl rfl (by omega) (by omega)) rfl ?_
        first
          | refine lst_run (run_loadN_own (k := 4) hS rfl rfl rfl (by first | exact .head | exact .tail .head | exact .tail (.tail .head) | exact .tail (.tail (.tail .head)) | exact .tail (.tail (.tail (.tail .head))) | exact .tail (.tail (.tail (.tail (.tail .head))))) (by repeat constructor)) rfl ?_
          | refine lst_run (run_load4 rfl rfl rfl (by first | assumption | exact (hcc _ hS).1 | exact (hcc _ hS).2.1 | exact (hcc _ hS).2.2.1 | exact (hcc _ hS).2.2.2 | exact hS.cell0 (by assumption)) (by first | assumption | exact (hcc _ hS).1 | exact (hcc _ hS).2.1 | exact (hcc _ hS).2.2.1 | exact (hcc _ hS).2.2.2 | exact hS.cell0 (by assumption)) (by first | assumption | exact (hcc _ hS).1 | exact (hcc _ hS).2.1 | exact (hcc _ hS).2.2.1 | exact (hcc _ hS).2.2.2 | exact hS.cell0 (by assumption)) (by first | assumption | exact (hcc _ hS).1 | exact (hcc _ hS).2.1 | exact (hcc _ hS).2.2.1 | exact (hcc _ hS).2.2.2 | exact hS.cell0 (by assumption))) rfl ?_
        refine lst_alloc (cs := [_, _, _, _]) hS rfl rfl rfl ?_
        clear hS
        intro b3 wx3 hS
        refine lst_run (run_assign (by conv => lhs; whnf)) rfl ?_
        refine lst_storeN hS rfl (by conv => lhs; whnf) rfl rfl (by first | exact .head | exact .tail .head | exact .tail (.tail .head) | exact .tail (.tail (.tail .head)) | exact .tail (.tail (.tail (.tail .head))) | exact .tail (.tail (.tail (.tail (.tail .head))))) (by repeat constructor) (by first | exact .head | exact .tail .head | exact .tail (.tail .head) | exact .tail (.tail (.tail .head)) | exact .tail (.tail (.tail (.tail .head))) | exact .tail (.tail (.tail (.tail (.tail .head))))) ?_
        clear hS
        intro wx4 hS
        refine lst_done ?_
        refine goes_seq ?_
        refine goes_region ?_
        refine lst_run (run_fieldAddr (off := 0) rfl rfl) rfl ?_
        first
          | refine lst_run (run_load1_own hS rfl rfl (by first | exact .head | exact .tail .head | exact .tail (.tail .head) | exact .tail (.tail (.tail .head)) | exact .tail (.tail (.tail (.tail .head))) | exact .tail (.tail (.tail (.tail (.tail .head))))) (by repeat constructor)) rfl ?_
          | refine lst_run (run_load1 rfl rfl (by first | assumption | exact (hcc _ hS).1 | exact (hcc _ hS).2.1 | exact (hcc _ hS).2.2.1 | exact (hcc _ hS).2.2.2 | exact hS.cell0 (by assumption) | exact lv_next hS | exact lv_list hS)) rfl ?_
        first
          | refine lst_run (run_eql_one_int rfl rfl) rfl ?_
          | refine lst_run (run_eql_no rfl rfl (by first | assumption | omega)) rfl ?_
          | refine lst_run (run_eql_yes rfl rfl (by omega)) rfl ?_
          | refine lst_run (rfl) rfl ?_
        refine lst_done ?_
        refine goes_false rfl ?_
        refine goes_skip ?_
        refine goes_inBlock ?_
        refine goes_region ?_
        refine lst_run (run_add rfl rfl (by omega) (by omega)) rfl ?_
        refine lst_run (run_move (by conv => lhs; whnf)) rfl ?_
        refine lst_done ?_
        rw [show (TA.cons k1 n1 s1 Aa ca a1 r).ts = .cons k1 n1 s1 a1.ts r.ts from rfl, hone] at hrow hS
        refine ih (r) _ _ _ _ ?_ ?_ (by conv => lhs; whnf) (by conv => lhs; whnf) (by kernel_rfl)
        · omega
        · refine ⟨D.app (.cons k1 n1 s1 Aa ca a1 .nil), some ⟨g, 0, none⟩, cu, _, by rw [hD, TA.app_assoc]; rfl, by rw [TA.len_app]; rfl, ?_, by rw [TA.app_ts]; exact hrow, hS.drop⟩
          rw [TA.app_ts]
          show _ = Value.slice _ (midR cs s T.len (D.ts.app (.cons k1 n1 s1 a1.ts .nil)) r.ts).length _
          rw [← hone]; rfl
theorem laid_said (T : TA) : LaidSaid T := by
  have key : ∀ m, ∀ U : TA, U.ts.nodes ≤ m → LaidSaid U := by
    intro m
    induction m with
    | zero => exact fun U hU => laid_of U fun V hV => by omega
    | succ m ih => exact fun U hU => laid_of U fun V hV => ih V (by omega)
  exact key _ T (Nat.le_refl _)
end Go.Proofs.YtdflngjfnpbpmabDoor
namespace Go.Proofs.YtdflngjfnpbpmabDoor
open Go.RowKit

/-- Each list of arguments is no longer than a slice may be. -/
def Ts.wide : Ts → Prop
  | .nil => True
  | .cons _ _ _ ar r => ar.length ≤ 9223372036854775807 ∧ ar.wide ∧ r.wide
theorem Ts.wide_app (D R : Ts) : (D.app R).wide ↔ D.wide ∧ R.wide := by
  induction D with
  | nil => simp [Ts.app, Ts.wide]
  | cons k n s ar r _ ih => simp only [Ts.app, Ts.wide, ih]; constructor <;> (rintro ⟨h1, h2⟩; simp_all)
theorem Ts.wide_of (T : Ts) : T.nodes ≤ 9223372036854775807 → T.wide := by
  induction T with
  | nil => intro _; trivial
  | cons k n s ar r iha ihr =>
    intro h
    simp only [Ts.nodes] at h
    have := ar.length_le
    exact ⟨by omega, iha (by omega), ihr (by omega)⟩
def ClsWide (L : List Cl) : Prop := ∀ c ∈ L, c.hd.length ≤ 9223372036854775807 ∧ c.hd.wide ∧ c.bd.length ≤ 9223372036854775807 ∧ c.bd.wide

def VisitSaidW (T : Ts) : Prop := ∀ (k n : Int) (s : ByteArray) (v : Value) (L lb vb B : Nat) (w : World), Sl w (fun k => k < B) v T → B ≤ lb → VS lb vb L w → L ≤ 24 → T.length ≤ 9223372036854775807 → T.wide →
    Calls Tryd.prog 35 #[.agg #[.int .i64 k, .int .i64 n, .string s, v], .pointer (some ⟨lb, 0, none⟩), .pointer (some ⟨vb, 0, none⟩)] w fun e w' =>
      e = .returned (.bool (decide (T.nodes + 1 ≤ L))) ∧ (T.nodes + 1 ≤ L → VS lb vb (L - (T.nodes + 1)) w') ∧ Chg (fun k => k = lb) w w'

def VtLoopW (w : World) (T : Ts) (L lb vb : Nat) (g : Nat) (sx : Value) (wr : World) : Prop := ∃ D R : Ts, T = D.app R ∧ g = R.length ∧ sx = .int .i64 D.length ∧ D.nodes + 1 ≤ L ∧ VS lb vb (L - (D.nodes + 1)) wr ∧ Chg (fun k => k = lb) w wr

set_option maxHeartbeats 1000000 in
theorem visitW_of (m : Nat) (ih : ∀ T : Ts, T.nodes < m → VisitSaidW T) (T : Ts) (hm : T.nodes ≤ m) : VisitSaidW T := by
  intro k n s v L lb vb B w hv hBl hvs hL hn hwd
  obtain ⟨A, c, rfl, hs⟩ := hv.form
  have hle := T.length_le
  have hW : Below w.heap.size w (w.alloc (.cells #[.int .i64 k, .int .i64 n, .string s, .slice A T.length c] 24)) := (Below.refl _ _).alloc (Nat.le_refl _) _
  have hvs1 := hvs.far hW
  have hs1 := hs.below hW
  have bA := Plot.new w 24 #[.int .i64 k, .int .i64 n, .string s, .slice A T.length c]
  have l0 := hvs1.left.cell 0
  have lf := hvs1.left.frozen 0
  simp at l0
  have hlt := hvs.left.lt
  by_cases hL0 : L = 0
  · subst hL0
    go_enter Tryd.func35, Tryd.ntmps35
    go_wp2_with fail
    go_ret
    exact ⟨rfl, fun h => absurd h (by omega), Chg.of_fresh hW⟩
  have hL1 : 0 < L := by omega
  obtain ⟨p0, p1, p2, p3, _⟩ := bA.four
  have hne : w.heap.size ≠ lb := by omega
  go_enter Tryd.func35, Tryd.ntmps35
  go_wp2_with fail
  have hstart : VS lb vb (L - 1) ((w.setCell ⟨lb, 0, none⟩ (.int .i64 ((L : Int) - 1))).alloc (.cells #[.int .i64 k, .int .i64 n, .string s, .slice A T.length c] 24)) := by
    refine ⟨?_, ?_, hvs.ne⟩
    · have h1 := (hvs.left.set_ 0 (.int .i64 ((L : Int) - 1))).alloc (.cells #[.int .i64 k, .int .i64 n, .string s, .slice A T.length c] 24)
      rw [show ((L - 1 : Nat) : Int) = (L : Int) - 1 by omega]
      exact h1
    · exact (hvs.fn.far (p := ⟨lb, 0, none⟩) hvs.ne _).alloc _
  have hchg : Chg (fun k => k = lb) w ((w.setCell ⟨lb, 0, none⟩ (.int .i64 ((L : Int) - 1))).alloc (.cells #[.int .i64 k, .int .i64 n, .string s, .slice A T.length c] 24)) :=
    ((Chg.refl (fun k => k = lb) w).setCell (p := ⟨lb, 0, none⟩) (fun _ => rfl) _).alloc _
  have hcall : ∀ (args : Array Value) (x : World), (callFunc 35 args).run Tryd.prog x = .ok (.enter 35 args) x := fun args x => by simp [go_sem]
  generalize ((w.setCell ⟨lb, 0, none⟩ (.int .i64 ((L : Int) - 1))).alloc (.cells #[.int .i64 k, .int .i64 n, .string s, .slice A T.length c] 24)) = W at *
  have h0 : VtLoopW w T L lb vb T.length (.int .i64 0) W := ⟨.nil, T, rfl, rfl, rfl, hL1, hstart, hchg⟩
  clear hstart hchg hvs1 bA p0 p1 p2 p3 hne l0 lf hs1 hW
  go_loopg [14] T.length (VtLoopW w T L lb vb)
  case atStart => exact h0
  case round =>
    clear h0
    obtain ⟨D, R, hT, hg, rfl, hD, hvr, hc⟩ := hrel
    have HT := Lib.hid hT
    have HG := Lib.hid hg
    clear hT hg
    have hsr : Sl wr (fun k => k < B) (.slice A T.length c) T := hs.chg hc fun k hk => by omega
    cases R with
    | nil =>
      have eD : D = T := by rw [HT.out, Ts.app_nil]
      subst eD
      go_wp2_with fail
      go_ret
      refine ⟨?_, fun _ => hvr, hc⟩
      rw [decide_eq_true hD]; rfl
    | cons k1 n1 s1 ar r =>
      have e1 : D.length < T.length := by rw [HT.out, Ts.length_app]; simp [Ts.length]
      have hnod : T.nodes = D.nodes + (1 + ar.nodes + r.nodes) := by rw [HT.out, Ts.nodes_app]; simp only [Ts.nodes]; omega
      have hwa : ar.length ≤ 9223372036854775807 ∧ ar.wide ∧ r.wide := by rw [HT.out, Ts.wide_app] at hwd; exact hwd.2
      rw [HT.out] at hsr
      rw [show (D.app (.cons k1 n1 s1 ar r)).length = T.length by rw [← HT.out]] at hsr
      obtain ⟨b1, o1, rfl, hq1⟩ := Sl.at_ hsr (by simp [Ts.length])
      obtain ⟨_, c10, c11, c12, ⟨v1, c13, hv1⟩, _⟩ := seg_cons.1 hq1
      obtain ⟨A1, d1, rfl, hv1⟩ := hv1.form
      clear hq1 hsr
      have hX : Below wr.heap.size wr (wr.alloc (.cells #[.int .i64 k1, .int .i64 n1, .string s1, .slice A1 ar.length d1] 24)) := (Below.refl _ _).alloc (Nat.le_refl _) _
      have hvx := hvr.far hX
      have f0 := hvx.fn.cell 0
      simp at f0
      go_wp2_with fail
      have e2 : ar.nodes < m := by omega
      refine (ih ar e2 k1 n1 s1 _ (L - (D.nodes + 1)) lb vb B _ (hv1.below hX) hBl hvx (by omega) hwa.1 hwa.2.1).mono ?_
      rintro e w2 ⟨rfl, hok, hc2⟩
      have hc3 : Chg (fun k => k = lb) w w2 := (hc.trans (Chg.of_fresh (S := fun k => k = lb) hX) fun _ _ h => h).trans hc2 fun _ _ h => h
      by_cases hx : ar.nodes + 1 ≤ L - (D.nodes + 1)
      · have hok := hok hx
        rw [decide_eq_true hx]
        have hnx : Hid (VS lb vb (L - ((D.app (.cons k1 n1 s1 ar .nil)).nodes + 1)) w2) := Lib.hid (by
          rw [Ts.nodes_app]
          simp only [Ts.nodes]
          rw [show L - (D.nodes + (ar.nodes + 0 + 1) + 1) = L - (D.nodes + 1) - (ar.nodes + 1) by omega]
          exact hok)
        clear hok
        go_wp2_with fail
        go_roundg r.length
        case measure => rw [HG.out]; simp [Ts.length]
        case rel =>
          refine ⟨D.app (.cons k1 n1 s1 ar .nil), r, ?_, rfl, ?_, ?_, hnx.out, hc3⟩
          · rw [HT.out, Ts.app_assoc]; rfl
          · rw [Ts.length_app]; rfl
          · rw [Ts.nodes_app]; simp only [Ts.nodes]; omega
      · rw [decide_eq_false hx]
        have hbig : Hid (¬ T.nodes + 1 ≤ L) := Lib.hid (by omega)
        clear hok
        go_wp2_with fail
        go_ret
        refine ⟨?_, fun h => absurd h hbig.out, hc3⟩
        rw [decide_eq_false hbig.out]; rfl

theorem visitW_said (T : Ts) : VisitSaidW T := by
  have : ∀ m, ∀ T : Ts, T.nodes < m → VisitSaidW T := by
    intro m
    induction m with
    | zero => intro T h; omega
    | succ m ih => intro T h; exact visitW_of m ih T (by omega)
  exact this _ T (Nat.lt_succ_self _)

set_option maxHeartbeats 1000000 in
theorem fitsW_any (k n : Int) (s : ByteArray) (T : Ts) (v : Value) (w : World) (hv : Sl w (fun _ => True) v T) (hn : T.length ≤ 9223372036854775807) (hwd : T.wide) :
    Calls Tryd.prog 31 #[.agg #[.int .i64 k, .int .i64 n, .string s, v], .int .i64 24] w fun e w' => e = .returned (.bool (decide (T.nodes + 1 ≤ 24))) ∧ Below w.heap.size w w' := by
  obtain ⟨A, c, rfl, hs⟩ := hv.form
  have hs := hs.imp (q := fun k => k < w.heap.size) fun k _ h => h
  have hW : Below w.heap.size w (((w.alloc (.cells #[.int .i64 k, .int .i64 n, .string s, .slice A T.length c] 24)).alloc (.cells #[.int .i64 24] 3)).alloc (.cells #[.func (.func 35) #[] #[.pointer (some ⟨w.heap.size + 1, 0, none⟩), .pointer (some ⟨w.heap.size + 1 + 1, 0, none⟩)]] 52)) := (((Below.refl _ _).alloc (Nat.le_refl _) _).alloc (by simp) _).alloc (by simp; omega) _
  have hst : (store ⟨w.heap.size + 1 + 1, 0, none⟩ (.func (.func 35) #[] #[.pointer (some ⟨w.heap.size + 1, 0, none⟩), .pointer (some ⟨w.heap.size + 1 + 1, 0, none⟩)])).run Tryd.prog (((w.alloc (.cells #[.int .i64 k, .int .i64 n, .string s, .slice A T.length c] 24)).alloc (.cells #[.int .i64 24] 3)).alloc (.cells #[.nilFunc] 52)) =
      .ok () (((w.alloc (.cells #[.int .i64 k, .int .i64 n, .string s, .slice A T.length c] 24)).alloc (.cells #[.int .i64 24] 3)).alloc (.cells #[.func (.func 35) #[] #[.pointer (some ⟨w.heap.size + 1, 0, none⟩), .pointer (some ⟨w.heap.size + 1 + 1, 0, none⟩)]] 52)) := by
    have hb := Plot.new ((w.alloc (.cells #[.int .i64 k, .int .i64 n, .string s, .slice A T.length c] 24)).alloc (.cells #[.int .i64 24] 3)) 52 #[.nilFunc]
    have e := setCell_new ((w.alloc (.cells #[.int .i64 k, .int .i64 n, .string s, .slice A T.length c] 24)).alloc (.cells #[.int .i64 24] 3)) .nilFunc (.func (.func 35) #[] #[.pointer (some ⟨w.heap.size + 1, 0, none⟩), .pointer (some ⟨w.heap.size + 1 + 1, 0, none⟩)]) 52
    have h := run_store_func (P := Tryd.prog) (f := .func 35) (x := #[]) (y := #[.pointer (some ⟨w.heap.size + 1, 0, none⟩), .pointer (some ⟨w.heap.size + 1 + 1, 0, none⟩)]) (hb.cell 0) (hb.frozen 0)
    rw [e] at h
    simpa using h
  have hvs : VS (w.heap.size + 1) (w.heap.size + 1 + 1) 24 (((w.alloc (.cells #[.int .i64 k, .int .i64 n, .string s, .slice A T.length c] 24)).alloc (.cells #[.int .i64 24] 3)).alloc (.cells #[.func (.func 35) #[] #[.pointer (some ⟨w.heap.size + 1, 0, none⟩), .pointer (some ⟨w.heap.size + 1 + 1, 0, none⟩)]] 52)) := by
    refine ⟨?_, ?_, by omega⟩
    · have := (Plot.new (w.alloc (.cells #[.int .i64 k, .int .i64 n, .string s, .slice A T.length c] 24)) 3 #[.int .i64 24]).alloc (.cells #[.func (.func 35) #[] #[.pointer (some ⟨w.heap.size + 1, 0, none⟩), .pointer (some ⟨w.heap.size + 1 + 1, 0, none⟩)]] 52)
      simpa using this
    · have := Plot.new ((w.alloc (.cells #[.int .i64 k, .int .i64 n, .string s, .slice A T.length c] 24)).alloc (.cells #[.int .i64 24] 3)) 52 #[.func (.func 35) #[] #[.pointer (some ⟨w.heap.size + 1, 0, none⟩), .pointer (some ⟨w.heap.size + 1 + 1, 0, none⟩)]]
      simpa using this
  have hcall : ∀ (args : Array Value) (x : World), (callFunc 35 args).run Tryd.prog x = .ok (.enter 35 args) x := fun args x => by simp [go_sem]
  go_enter Tryd.func31, Tryd.ntmps31
  go_wp2_with fail
  refine (visitW_said T k n s _ 24 (w.heap.size + 1) (w.heap.size + 1 + 1) w.heap.size _ (hs.below hW) (by omega) hvs (Nat.le_refl _) hn hwd).mono ?_
  rintro e w2 ⟨rfl, _, hc⟩
  generalize hfb : decide (T.nodes + 1 ≤ 24) = fb
  have HFB := Lib.hid hfb
  clear hfb
  go_wp2_with fail
  go_ret
  refine ⟨by rw [HFB.out]; rfl, hW.trans (hc.below (by simp; omega) fun k hk _ => ?_)⟩
  have e : k = w.heap.size + 1 := hk
  omega
set_option maxHeartbeats 1000000 in
theorem goodGoalW_any (vars k n : Int) (s : ByteArray) (T : Ts) (v : Value) (w : World) (hv : Sl w (fun _ => True) v T) (hn : T.length ≤ 9223372036854775807) (hwd : T.wide) :
    Calls Tryd.prog 23 #[.agg #[.int .i64 k, .int .i64 n, .string s, v], .int .i64 vars] w fun e w' => e = .returned (.bool (gB vars k n s T)) ∧ Below w.heap.size w w' := by
  obtain ⟨A, c, rfl, hs⟩ := hv.form
  generalize hr : gB vars k n s T = rb
  have R := Lib.hid hr
  clear hr
  go_enter Tryd.func23, Tryd.ntmps23
  go_wp2_with fail
  have hW0 : Below w.heap.size w (w.alloc (.cells #[.int .i64 k, .int .i64 n, .string s, .slice A T.length c] 24)) := (Below.refl _ _).alloc (Nat.le_refl _) _
  have bA := Plot.new w 24 #[.int .i64 k, .int .i64 n, .string s, .slice A T.length c]
  generalize (w.alloc (.cells #[.int .i64 k, .int .i64 n, .string s, .slice A T.length c] 24)) = W0 at *
  have hs0 := hs.below hW0
  refine (goal_any k n s _ W0).mono ?_
  rintro e w1 ⟨rfl, hb1⟩
  have hW1 := hW0.trans (hb1.mono hW0.size)
  have bA1 := bA.below hb1
  have hs1 := hs0.below hb1
  cases hg : goalB k with
  | false =>
    go_wp2_with fail
    go_ret
    refine ⟨?_, hW1⟩
    rw [← R.out, gB, hg]; rfl
  | true =>
    have HGK := Lib.hid hg
    clear hg
    obtain ⟨p0, p1, p2, p3, _⟩ := bA1.four
    go_wp2_with fail
    refine (fitsW_any k n s T _ _ hs1 hn hwd).mono ?_
    rintro e w2 ⟨rfl, hb2⟩
    have hW2 := hW1.trans (hb2.mono hW1.size)
    have bA2 := bA1.below hb2
    have hs2 := hs1.below hb2
    clear p0 p1 p2 p3
    generalize hf : decide (T.nodes + 1 ≤ 24) = fb
    have HF := Lib.hid hf
    clear hf
    obtain ⟨p0, p1, p2, p3, _⟩ := bA2.four
    cases fb with
    | false =>
      go_wp2_with fail
      go_ret
      refine ⟨?_, hW2⟩
      rw [← R.out, gB, HF.out, Bool.and_false]; rfl
    | true =>
      go_wp2_with fail
      refine (goodTerm_any k n vars s T _ _ hs2 (by have := of_decide_eq_true HF.out; omega)).mono ?_
      rintro e w3 ⟨rfl, hb3⟩
      generalize hq : (Ts.cons k n s T .nil).good vars = qb
      have HQ := Lib.hid hq
      clear hq
      go_wp2_with fail
      go_ret
      refine ⟨?_, hW2.trans (hb3.mono hW2.size)⟩
      rw [← R.out, gB, HGK.out, HF.out, HQ.out, Bool.and_true, Bool.true_and]; rfl

set_option maxHeartbeats 1000000 in
theorem goodQueryW_any (vars : Int) (T : Ts) (v : Value) (w : World) (hv : Sl w (fun _ => True) v T) (hn : T.length ≤ 9223372036854775807) (hwd : T.wide) :
    Calls Tryd.prog 19 #[v, .int .i64 vars] w fun e w' => e = .returned (.bool (qB vars T)) ∧ Below w.heap.size w w' := by
  obtain ⟨A, c, rfl, hs⟩ := hv.form
  have hle := T.length_le
  generalize hr : qB vars T = rb
  have R := Lib.hid hr
  clear hr
  by_cases h1 : vars < 0
  · have hq : Hid (rb = false) := Lib.hid (by rw [← R.out, qB]; simp; omega)
    go_enter Tryd.func19, Tryd.ntmps19
    go_wp2_with fail
    go_ret
    exact ⟨by rw [hq.out]; rfl, Below.refl _ _⟩
  by_cases h2 : 8 < vars
  · have hq : Hid (rb = false) := Lib.hid (by rw [← R.out, qB]; simp; omega)
    go_enter Tryd.func19, Tryd.ntmps19
    go_wp2_with fail
    go_ret
    exact ⟨by rw [hq.out]; rfl, Below.refl _ _⟩
  by_cases h3 : 5 < T.length
  · have hq : Hid (rb = false) := Lib.hid (by rw [← R.out, qB]; simp; omega)
    go_enter Tryd.func19, Tryd.ntmps19
    go_wp2_with fail
    go_ret
    exact ⟨by rw [hq.out]; rfl, Below.refl _ _⟩
  have hq : Hid (rb = T.goals vars) := Lib.hid (by rw [← R.out, qB]; simp; omega)
  have hl5 : T.length ≤ 5 := by omega
  have h0 : GqLoop w T vars T.length (.int .i64 0) w := ⟨.nil, T, rfl, rfl, rfl, rfl, Below.refl _ _⟩
  go_enter Tryd.func19, Tryd.ntmps19
  go_wp2_with fail
  go_loopg [20] T.length (GqLoop w T vars)
  case atStart => exact h0
  case round =>
    clear h0
    obtain ⟨D, R', hT, hg, rfl, hD, hb⟩ := hrel
    have HT := Lib.hid hT
    have HG := Lib.hid hg
    have HD := Lib.hid hD
    clear hT hg hD
    have hsr := hs.below hb
    cases R' with
    | nil =>
      have eD : D = T := by rw [HT.out, Ts.app_nil]
      subst eD
      go_wp2_with fail
      go_ret
      exact ⟨by rw [hq.out, HD.out]; rfl, hb⟩
    | cons k1 n1 s1 ar r =>
      have e1 : D.length < T.length := by rw [HT.out, Ts.length_app]; simp [Ts.length]
      have hwa : ar.length ≤ 9223372036854775807 ∧ ar.wide ∧ r.wide := by have := hwd; rw [HT.out, Ts.wide_app] at this; exact this.2
      rw [HT.out] at hsr
      rw [show (D.app (.cons k1 n1 s1 ar r)).length = T.length by rw [← HT.out]] at hsr
      obtain ⟨b1, o1, rfl, hq1⟩ := Sl.at_ hsr (by simp [Ts.length])
      obtain ⟨_, c10, c11, c12, ⟨v1, c13, hv1⟩, _⟩ := seg_cons.1 hq1
      obtain ⟨A1, d1, rfl, hv1⟩ := hv1.form
      clear hq1 hsr
      have hX : Below wr.heap.size wr (wr.alloc (.cells #[.int .i64 k1, .int .i64 n1, .string s1, .slice A1 ar.length d1] 24)) := (Below.refl _ _).alloc (Nat.le_refl _) _
      have hX' := hb.trans (hX.mono hb.size)
      go_wp2_with fail
      refine (goodGoalW_any vars k1 n1 s1 ar _ _ (hv1.below hX) hwa.1 hwa.2.1).mono ?_
      rintro e w2 ⟨rfl, hb2⟩
      have hb3 := hX'.trans (hb2.mono hX'.size)
      generalize hgb : gB vars k1 n1 s1 ar = gb
      have HGB := Lib.hid hgb
      clear hgb
      cases gb with
      | false =>
        go_wp2_with fail
        go_ret
        refine ⟨?_, hb3⟩
        rw [hq.out, HT.out, Ts.goals_app, Ts.goals, HGB.out, Bool.false_and, Bool.and_false]; rfl
      | true =>
        go_wp2_with fail
        go_roundg r.length
        case measure => rw [HG.out]; simp [Ts.length]
        case rel =>
          refine ⟨D.app (.cons k1 n1 s1 ar .nil), r, ?_, rfl, ?_, ?_, hb3⟩
          · rw [HT.out, Ts.app_assoc]; rfl
          · rw [Ts.length_app]; rfl
          · rw [Ts.goals_app, HD.out, Ts.goals, HGB.out]; rfl

set_option maxHeartbeats 1000000 in
theorem goodClauseW_any (c : Cl) (u v : Value) (w : World) (hu : Sl w (fun _ => True) u c.hd) (hv : Sl w (fun _ => True) v c.bd) (h1 : c.hd.length ≤ 9223372036854775807) (h1w : c.hd.wide) (h2 : c.bd.length ≤ 9223372036854775807) (h2w : c.bd.wide) :
    Calls Tryd.prog 12 #[.agg #[.int .i64 c.k, .int .i64 c.n, .string c.s, u, v, .int .i64 c.vars]] w fun e w' => e = .returned (.bool (cB c)) ∧ Below w.heap.size w w' := by
  obtain ⟨A, d, rfl, hu⟩ := hu.form
  obtain ⟨A', d', rfl, hv⟩ := hv.form
  generalize hr : cB c = rb
  have R := Lib.hid hr
  clear hr
  go_enter Tryd.func12, Tryd.ntmps12
  go_wp2_with fail
  have hW0 : Below w.heap.size w (w.alloc (.cells #[.int .i64 c.k, .int .i64 c.n, .string c.s, .slice A c.hd.length d, .slice A' c.bd.length d', .int .i64 c.vars] 26)) := (Below.refl _ _).alloc (Nat.le_refl _) _
  have bA := Plot.new w 26 #[.int .i64 c.k, .int .i64 c.n, .string c.s, .slice A c.hd.length d, .slice A' c.bd.length d', .int .i64 c.vars]
  generalize (w.alloc (.cells #[.int .i64 c.k, .int .i64 c.n, .string c.s, .slice A c.hd.length d, .slice A' c.bd.length d', .int .i64 c.vars] 26)) = W0 at *
  have hu0 := hu.below hW0
  refine (goodQueryW_any c.vars c.bd _ W0 (hv.below hW0) h2 h2w).mono ?_
  rintro e w1 ⟨rfl, hb1⟩
  have hW1 := hW0.trans (hb1.mono hW0.size)
  have bA1 := bA.below hb1
  have hu1 := hu0.below hb1
  generalize hq : qB c.vars c.bd = qb
  have HQ := Lib.hid hq
  clear hq
  cases qb with
  | false =>
    go_wp2_with fail
    go_ret
    refine ⟨?_, hW1⟩
    rw [← R.out, cB, HQ.out]; rfl
  | true =>
    have p0 := bA1.cell 0
    have p1 := bA1.cell 1
    have p2 := bA1.cell 2
    have p3 := bA1.cell 3
    have p5 := bA1.cell 5
    simp at p0 p1 p2 p3 p5
    go_wp2_with fail
    refine (goodGoalW_any c.vars c.k c.n c.s c.hd _ _ hu1 h1 h1w).mono ?_
    rintro e w2 ⟨rfl, hb2⟩
    have hW2 := hW1.trans (hb2.mono hW1.size)
    have bA2 := bA1.below hb2
    clear p0 p1 p2 p3 p5
    generalize hg : gB c.vars c.k c.n c.s c.hd = gb
    have HGB := Lib.hid hg
    clear hg
    cases gb with
    | false =>
      go_wp2_with fail
      go_ret
      refine ⟨?_, hW2⟩
      rw [← R.out, cB, HGB.out, Bool.and_false]; rfl
    | true =>
      have p0 := bA2.cell 0
      have p1 := bA2.cell 1
      have p2 := bA2.cell 2
      have p3 := bA2.cell 3
      simp at p0 p1 p2 p3
      go_wp2_with fail
      refine (builtin_any c.k c.n c.s A c.hd.length d _).mono ?_
      rintro e w3 ⟨rfl, hb3⟩
      generalize hbb : builtB c.s.toList c.hd.length = bb
      have HBT := Lib.hid hbb
      clear hbb
      go_wp2_with fail
      go_ret
      refine ⟨?_, hW2.trans (hb3.mono hW2.size)⟩
      rw [← R.out, cB, HQ.out, HGB.out, HBT.out, Bool.true_and]; rfl

end Go.Proofs.YtdflngjfnpbpmabDoor
namespace Go.Proofs.YtdflngjfnpbpmabDoor
open Go.RowKit
set_option linter.unusedVariables false
set_option linter.unusedSimpArgs false
set_option maxRecDepth 100000
set_option maxHeartbeats 1000000

theorem permC {α : Type} (L O O2 H : List α) : (L ++ (O ++ (O2 ++ H))).Perm (O2 ++ (L ++ (O ++ H))) :=
  (List.Perm.append_left L (List.perm_append_comm_assoc O O2 H)).trans (List.perm_append_comm_assoc L O2 _)
section
variable {M : List Nat} {w0 : World} {H : List (Nat × Obj)} {F : List (World → Prop)}
theorem storeAll_any (T : TA) (vars : Int) (A : Option Addr) (c : Nat) (cs : List HC) (v : Value) (O : List (Nat × Obj)) (w : World) (hA : Und F (ArA A c T)) (hg : T.ts.goals vars = true) (hb : cs.length + 2 * T.ts.nodes + 2 ≤ 1000000) (hrow : Rw 50 3 v cs.length (hcsL cs) O) (hS : St M w0 (O ++ H) F w) :
    Calls Tryd.prog 15 #[v, .slice A T.len c] w fun e w' => ∃ (A' B' : Option Addr) (c' d' : Nat) (O' O2 : List (Nat × Obj)), e = .returned (.tuple #[.slice A' (cs ++ (layL T.ts cs.length).1).length c', .slice B' (layL T.ts cs.length).2.length d']) ∧
      Rw 50 3 (.slice A' (cs ++ (layL T.ts cs.length).1).length c') (cs ++ (layL T.ts cs.length).1).length (hcsL (cs ++ (layL T.ts cs.length).1)) O' ∧ Rw 3 1 (.slice B' (layL T.ts cs.length).2.length d') (layL T.ts cs.length).2.length (intsV (layL T.ts cs.length).2) O2 ∧ St M w0 (O' ++ (O2 ++ H)) F w' := by
  obtain ⟨A1, c1, rfl, hc1⟩ := hrow.form
  have hln := Ts.length_le T.ts
  rw [TA.len_ts] at hln
  refine goes_enter2 Tryd.func15 rfl Tryd.ntmps15 rfl ?_
  refine goes_seq ?_
  refine goes_region ?_
  refine lst_run (run_assign (by conv => lhs; whnf)) rfl ?_
  refine lst_run (run_assign (by conv => lhs; whnf)) rfl ?_
  refine lst_done ?_
  refine goes_seq ?_
  refine goes_region ?_
  refine lst_run (run_assign (by conv => lhs; whnf)) rfl ?_
  refine lst_done ?_
  refine goes_seq ?_
  refine goes_seq ?_
  refine goes_region ?_
  refine lst_run (run_move (by conv => lhs; whnf)) rfl ?_
  refine lst_run (run_len_slice rfl rfl rfl) rfl ?_
  refine lst_run (run_move (by conv => lhs; whnf)) rfl ?_
  refine lst_done ?_
  refine goes_block ?_
  refine goes_loop3 11 0 6 (12 :: 13 :: 14 :: 8 :: 15 :: 16 :: 17 :: 18 :: 19 :: 20 :: 21 :: 22 :: 23 :: []) (fun (R : TA) y u z w' => ∃ (D : TA) (Au Bu : Option Addr) (cu du : Nat) (Ou Og : List (Nat × Obj)), T = D.app R ∧ y = .int .i64 (D.len : Nat) ∧ u = .slice Au (cs ++ (layL D.ts cs.length).1).length cu ∧ z = .slice Bu (layL D.ts cs.length).2.length du ∧ Rw 50 3 (.slice Au (cs ++ (layL D.ts cs.length).1).length cu) (cs ++ (layL D.ts cs.length).1).length (hcsL (cs ++ (layL D.ts cs.length).1)) Ou ∧ Rw 3 1 (.slice Bu (layL D.ts cs.length).2.length du) (layL D.ts cs.length).2.length (intsV (layL D.ts cs.length).2) Og ∧ St M w0 (Ou ++ (Og ++ H)) F w') (fun R => R.len) (T) ?_ (by conv => lhs; whnf) (by conv => lhs; whnf) (by conv => lhs; whnf) ?_
  · exact ⟨.nil, A1, none, c1, 0, O, [], rfl, rfl, by simp [TA.ts, layL], rfl, by simpa [TA.ts, layL] using hrow, Rw.zero_, hS⟩
  clear hS hrow
  rintro R _ _ _ w3 jv ⟨D, Au, Bu, cu, du, Ou, Og, hD, rfl, rfl, rfl, hrow, hrowg, hS⟩ ih
  have hlen : T.len = D.len + R.len := by rw [hD, TA.len_app]
  have hTn : T.ts.nodes = D.ts.nodes + R.ts.nodes := by rw [hD, TA.app_ts, Ts.nodes_app]
  have hle := layL_le D.ts cs.length
  have hgl := layL_len D.ts cs.length
  have hDl := TA.len_ts D
  have hXl : (cs ++ (layL D.ts cs.length).1).length = cs.length + (layL D.ts cs.length).1.length := List.length_append
  cases R with
  | nil =>
    have hTD : T = D := by rw [hD, TA.app_nil]
    subst hTD
    refine goes_seq ?_
    refine goes_region ?_
    first
      | refine lst_run (run_lss_yes rfl rfl (by omega)) rfl ?_
      | refine lst_run (run_lss_no rfl rfl (by omega)) rfl ?_
      | refine lst_run (rfl) rfl ?_
    refine lst_done ?_
    refine goes_seq ?_
    refine goes_false rfl ?_
    refine goes_exit rfl ?_
    refine goes_seq ?_
    refine goes_region ?_
    refine lst_run (run_move (by conv => lhs; whnf)) rfl ?_
    refine lst_run (run_move (by conv => lhs; whnf)) rfl ?_
    refine lst_run (run_assign (by conv => lhs; whnf)) rfl ?_
    refine lst_run (run_assign (by conv => lhs; whnf)) rfl ?_
    refine lst_done ?_
    refine goes_ret2 Tryd.func15 rfl (by conv => lhs; whnf) (by conv => lhs; whnf) ?_
    exact ⟨Au, Bu, cu, du, Ou, Og, rfl, hrow, hrowg, hS⟩
  | cons k1 n1 s1 Aa ca a1 r =>
    have hRl : (TA.cons k1 n1 s1 Aa ca a1 r).len = r.len + 1 := rfl
    have hR1 : (TA.cons k1 n1 s1 Aa ca a1 r).ts.nodes = a1.ts.nodes + r.ts.nodes + 1 := rfl
    have hg1 : (Ts.cons k1 n1 s1 a1.ts .nil).good vars = true := by
      have := hg
      rw [hD, TA.app_ts, Ts.goals_app] at this
      simp only [TA.ts, Ts.goals, gB, Bool.and_eq_true] at this
      exact this.2.1.1.2
    have hA' : Und F (ArA A c (D.app (.cons k1 n1 s1 Aa ca a1 r))) := by rw [← hD]; exact hA
    obtain ⟨bk, ok, rfl⟩ := (hS.und hA').some_ (by rw [TA.len_app]; simp only [TA.len]; omega)
    have hcc : ∀ {H'} w', St M w0 H' F w' → _ := fun w' hS => (hS.und hA').cells
    have hsub : Und F (ArA Aa ca a1) := fun w hw => (hA' w hw).sub
    refine goes_seq ?_
    refine goes_region ?_
    first
      | refine lst_run (run_lss_yes rfl rfl (by omega)) rfl ?_
      | refine lst_run (run_lss_no rfl rfl (by omega)) rfl ?_
      | refine lst_run (rfl) rfl ?_
    refine lst_done ?_
    refine goes_seq ?_
    refine goes_true rfl ?_
    refine goes_skip ?_
    refine goes_seq ?_
    refine goes_block ?_
    refine goes_seq ?_
    refine goes_region ?_
    refine lst_run (run_indexAddr (sz := 4) rfl rfl rfl rfl (by omega) (by omega)) rfl ?_
    first
      | refine lst_run (run_loadN_own (k := 4) hS rfl rfl rfl (by first | exact .head | exact .tail .head | exact .tail (.tail .head) | exact .tail (.tail (.tail .head)) | exact .tail (.tail (.tail (.tail .head))) | exact .tail (.tail (.tail (.tail (.tail .head))))) (by repeat constructor)) rfl ?_
      | refine lst_run (run_load4 rfl rfl rfl (by first | assumption | exact (hcc _ hS).1 | exact (hcc _ hS).2.1 | exact (hcc _ hS).2.2.1 | exact (hcc _ hS).2.2.2 | exact hS.cell0 (by assumption)) (by first | assumption | exact (hcc _ hS).1 | exact (hcc _ hS).2.1 | exact (hcc _ hS).2.2.1 | exact (hcc _ hS).2.2.2 | exact hS.cell0 (by assumption)) (by first | assumption | exact (hcc _ hS).1 | exact (hcc _ hS).2.1 | exact (hcc _ hS).2.2.1 | exact (hcc _ hS).2.2.2 | exact hS.cell0 (by assumption)) (by first | assumption | exact (hcc _ hS).1 | exact (hcc _ hS).2.1 | exact (hcc _ hS).2.2.1 | exact (hcc _ hS).2.2.2 | exact hS.cell0 (by assumption))) rfl ?_
    refine lst_alloc (cs := [_, _, _, _]) hS rfl rfl rfl ?_
    clear hS
    intro b1 wx1 hS
    refine lst_storeN hS rfl (by conv => lhs; whnf) rfl rfl (by first | exact .head | exact .tail .head | exact .tail (.tail .head) | exact .tail (.tail (.tail .head)) | exact .tail (.tail (.tail (.tail .head))) | exact .tail (.tail (.tail (.tail (.tail .head))))) (by repeat constructor) (by first | exact .head | exact .tail .head | exact .tail (.tail .head) | exact .tail (.tail (.tail .head)) | exact .tail (.tail (.tail (.tail .head))) | exact .tail (.tail (.tail (.tail (.tail .head))))) ?_
    clear hS
    intro wx2 hS
    refine lst_done ?_
    refine goes_seq ?_
    refine goes_region ?_
    refine lst_run (run_move (by conv => lhs; whnf)) rfl ?_
    refine lst_run (run_move (by conv => lhs; whnf)) rfl ?_
    refine lst_run (run_len_slice rfl rfl rfl) rfl ?_
    refine lst_buildSlice (cells := [_]) hS (.cons (by conv => lhs; whnf) .nil) rfl rfl ?_
    clear hS
    intro b2 wx3 hS
    refine lst_appI (L := [(((cs ++ (layL D.ts cs.length).1).length : Nat) : Int)]) hS (by conv => lhs; whnf) (by rfl) rfl rfl rfl (Flat.own (sp := []) (hS.own (_, _) (.head _)) rfl (Nat.le_refl _)) hrowg (permC [_, _] Ou Og _) (by simp; omega) rfl ?_
    clear hS
    intro v7 O7 w7 hrow7 hS
    obtain ⟨B7, d7, rfl, _⟩ := hrow7.form
    replace hS := (hS.perm (permC [_, _] Ou O7 _).symm).drop
    refine lst_run (run_assign (by conv => lhs; whnf)) rfl ?_
    refine lst_done ?_
    refine goes_region ?_
    refine lst_run (run_move (by conv => lhs; whnf)) rfl ?_
    first
      | refine lst_run (run_loadN_own (k := 4) hS rfl rfl rfl (by first | exact .head | exact .tail .head | exact .tail (.tail .head) | exact .tail (.tail (.tail .head)) | exact .tail (.tail (.tail (.tail .head))) | exact .tail (.tail (.tail (.tail (.tail .head))))) (by repeat constructor)) rfl ?_
      | refine lst_run (run_load4 rfl rfl rfl (by first | assumption | exact (hcc _ hS).1 | exact (hcc _ hS).2.1 | exact (hcc _ hS).2.2.1 | exact (hcc _ hS).2.2.2 | exact hS.cell0 (by assumption)) (by first | assumption | exact (hcc _ hS).1 | exact (hcc _ hS).2.1 | exact (hcc _ hS).2.2.1 | exact (hcc _ hS).2.2.2 | exact hS.cell0 (by assumption)) (by first | assumption | exact (hcc _ hS).1 | exact (hcc _ hS).2.1 | exact (hcc _ hS).2.2.1 | exact (hcc _ hS).2.2.2 | exact hS.cell0 (by assumption)) (by first | assumption | exact (hcc _ hS).1 | exact (hcc _ hS).2.1 | exact (hcc _ hS).2.2.1 | exact (hcc _ hS).2.2.2 | exact hS.cell0 (by assumption))) rfl ?_
    refine lst_enter (run_call (by kernel_rfl) (args_2 (by conv => lhs; whnf) (by conv => lhs; whnf))) rfl ?_
    refine Calls.mono (store_said a1 M w0 _ F vars k1 n1 s1 Aa ca _ _ _ _ hsub hg1 (by omega) hrow (hS.perm (List.perm_append_comm_assoc [_] Ou _))) ?_
    rintro _ w6 ⟨A6, c6, O6, rfl, hrow6, hS'⟩
    refine ⟨_, rfl, ?_⟩
    replace hS := hS'
    clear hS'
    replace hS := (hS.perm (List.perm_append_comm_assoc O6 [_] _)).drop
    have e1 : cs ++ (layL (D.ts.app (.cons k1 n1 s1 a1.ts .nil)) cs.length).1 = cs ++ (layL D.ts cs.length).1 ++ lay1 k1 n1 s1 a1.ts (cs ++ (layL D.ts cs.length).1).length := by
      rw [layL_app, List.length_append]; simp [layL]
    have e2 : (layL (D.ts.app (.cons k1 n1 s1 a1.ts .nil)) cs.length).2 = (layL D.ts cs.length).2 ++ [(((cs ++ (layL D.ts cs.length).1).length : Nat) : Int)] := by
      rw [layL_app, List.length_append]; simp [layL]
    refine lst_run (run_assign (by conv => lhs; whnf)) rfl ?_
    refine lst_done ?_
    refine goes_inBlock ?_
    refine goes_region ?_
    refine lst_run (run_add rfl rfl (by omega) (by omega)) rfl ?_
    refine lst_run (run_move (by conv => lhs; whnf)) rfl ?_
    refine lst_done ?_
    refine ih (r) _ _ _ _ _ ?_ ?_ (by conv => lhs; whnf) (by conv => lhs; whnf) (by conv => lhs; whnf) (by kernel_rfl)
    · omega
    · refine ⟨D.app (.cons k1 n1 s1 Aa ca a1 .nil), A6, B7, c6, d7, O6, O7, by rw [hD, TA.app_assoc]; rfl, by rw [TA.len_app]; rfl, ?_, ?_, ?_, ?_, hS⟩
      · rw [TA.app_ts]; show _ = Value.slice _ (cs ++ (layL (D.ts.app (.cons k1 n1 s1 a1.ts .nil)) cs.length).1).length _; rw [e1]
      · rw [TA.app_ts]; show _ = Value.slice _ (layL (D.ts.app (.cons k1 n1 s1 a1.ts .nil)) cs.length).2.length _; rw [e2]; simp
      · rw [TA.app_ts]
        show Rw _ _ (Value.slice _ (cs ++ (layL (D.ts.app (.cons k1 n1 s1 a1.ts .nil)) cs.length).1).length _) (cs ++ (layL (D.ts.app (.cons k1 n1 s1 a1.ts .nil)) cs.length).1).length (hcsL (cs ++ (layL (D.ts.app (.cons k1 n1 s1 a1.ts .nil)) cs.length).1)) _
        rw [e1]; exact hrow6
      · rw [TA.app_ts]
        show Rw _ _ (Value.slice _ (layL (D.ts.app (.cons k1 n1 s1 a1.ts .nil)) cs.length).2.length _) (layL (D.ts.app (.cons k1 n1 s1 a1.ts .nil)) cs.length).2.length (intsV (layL (D.ts.app (.cons k1 n1 s1 a1.ts .nil)) cs.length).2) _
        rw [e2, List.length_append]
        have : intsV ((layL D.ts cs.length).2 ++ [(((cs ++ (layL D.ts cs.length).1).length : Nat) : Int)]) = intsV (layL D.ts cs.length).2 ++ intsV [(((cs ++ (layL D.ts cs.length).1).length : Nat) : Int)] := by simp [intsV]
        rw [this]; exact hrow7
/-- A block's value. -/
abbrev bv (A : Option Addr) (n c : Nat) (vars hd : Int) (B : Option Addr) (m d : Nat) : Value := .agg #[.slice A n c, .int .i64 vars, .int .i64 hd, .slice B m d]
def headC (c : Cl) : Int := c.vars.toNat
theorem clauseC_bad (k n vars : Int) (s : ByteArray) (hd bd : TA) (A1 A2 : Option Addr) (c1 c2 : Nat) (w : World) (h1 : Und F (ArA A1 c1 hd)) (h2 : Und F (ArA A2 c2 bd)) (h1n : hd.len ≤ 9223372036854775807) (h1w : hd.ts.wide) (h2n : bd.len ≤ 9223372036854775807) (h2w : bd.ts.wide)
    (hc : cB ⟨k, n, s, hd.ts, bd.ts, vars⟩ = false) (hS : St M w0 H F w) :
    Calls Tryd.prog 4 #[.agg #[.int .i64 k, .int .i64 n, .string s, .slice A1 hd.len c1, .slice A2 bd.len c2, .int .i64 vars]] w fun e w' => e = .returned (.tuple #[bv none 0 0 0 0 none 0 0, .int .i64 1]) ∧ St M w0 H F w' := by
  have hgc := fun w (hS : Sl w (fun _ => True) (.slice A1 hd.len c1) hd.ts ∧ Sl w (fun _ => True) (.slice A2 bd.len c2) bd.ts) => goodClauseW_any ⟨k, n, s, hd.ts, bd.ts, vars⟩ (.slice A1 hd.len c1) (.slice A2 bd.len c2) w hS.1 hS.2 (by rw [TA.len_ts]; exact h1n) h1w (by rw [TA.len_ts]; exact h2n) h2w
  rw [hc] at hgc
  refine goes_enter1 Tryd.func4 rfl Tryd.ntmps4 rfl ?_
  refine goes_seq ?_
  refine goes_region ?_
  refine lst_box hS rfl rfl ?_
  clear hS
  intro b1 wx1 hS
  refine lst_alloc (cs := [_, _, _, _]) hS rfl rfl rfl ?_
  clear hS
  intro b2 wx2 hS
  refine lst_run (run_assign (by conv => lhs; whnf)) rfl ?_
  refine lst_done ?_
  refine goes_seq ?_
  refine goes_seq ?_
  refine goes_region ?_
  first
    | refine lst_run (run_loadN_own (k := 6) hS rfl rfl rfl (by first | exact .head | exact .tail .head | exact .tail (.tail .head) | exact .tail (.tail (.tail .head)) | exact .tail (.tail (.tail (.tail .head))) | exact .tail (.tail (.tail (.tail (.tail .head))))) (by repeat constructor)) rfl ?_
    | refine lst_run (run_load6 rfl rfl rfl (by first | assumption | exact (hcc _ hS).1 | exact (hcc _ hS).2.1 | exact (hcc _ hS).2.2.1 | exact (hcc _ hS).2.2.2 | exact hS.cell0 (by assumption)) (by first | assumption | exact (hcc _ hS).1 | exact (hcc _ hS).2.1 | exact (hcc _ hS).2.2.1 | exact (hcc _ hS).2.2.2 | exact hS.cell0 (by assumption)) (by first | assumption | exact (hcc _ hS).1 | exact (hcc _ hS).2.1 | exact (hcc _ hS).2.2.1 | exact (hcc _ hS).2.2.2 | exact hS.cell0 (by assumption)) (by first | assumption | exact (hcc _ hS).1 | exact (hcc _ hS).2.1 | exact (hcc _ hS).2.2.1 | exact (hcc _ hS).2.2.2 | exact hS.cell0 (by assumption)) (by first | assumption | exact (hcc _ hS).1 | exact (hcc _ hS).2.1 | exact (hcc _ hS).2.2.1 | exact (hcc _ hS).2.2.2 | exact hS.cell0 (by assumption)) (by first | assumption | exact (hcc _ hS).1 | exact (hcc _ hS).2.1 | exact (hcc _ hS).2.2.1 | exact (hcc _ hS).2.2.2 | exact hS.cell0 (by assumption))) rfl ?_
  refine lst_enter (run_call (by kernel_rfl) (args_1 (by conv => lhs; whnf))) rfl ?_
  refine Calls.mono (hgc _ ⟨(hS.und h1).sl, (hS.und h2).sl⟩) ?_
  rintro _ w2 ⟨rfl, hb2⟩
  refine ⟨_, rfl, ?_⟩
  replace hS := hS.grow hb2
  refine lst_run (rfl) rfl ?_
  refine lst_done ?_
  refine goes_true rfl ?_
  refine goes_seq ?_
  refine goes_region ?_
  refine lst_run (run_build (cells := [_, _, _, _]) .nil rfl) rfl ?_
  refine lst_storeN hS rfl (by conv => lhs; whnf) rfl rfl (by first | exact .head | exact .tail .head | exact .tail (.tail .head) | exact .tail (.tail (.tail .head)) | exact .tail (.tail (.tail (.tail .head))) | exact .tail (.tail (.tail (.tail (.tail .head))))) (by repeat constructor) (by first | exact .head | exact .tail .head | exact .tail (.tail .head) | exact .tail (.tail (.tail .head)) | exact .tail (.tail (.tail (.tail .head))) | exact .tail (.tail (.tail (.tail (.tail .head))))) ?_
  clear hS
  intro wx3 hS
  refine lst_run (run_assign (by conv => lhs; whnf)) rfl ?_
  refine lst_done ?_
  refine goes_retC2 (sz := 4) hS Tryd.func4 rfl rfl (by conv => lhs; whnf) rfl rfl (by first | exact .head | exact .tail .head | exact .tail (.tail .head) | exact .tail (.tail (.tail .head)) | exact .tail (.tail (.tail (.tail .head))) | exact .tail (.tail (.tail (.tail (.tail .head))))) (by repeat constructor) ?_
  exact ⟨rfl, hS.drop.drop⟩
theorem clauseC_ok (k n vars : Int) (s : ByteArray) (hd bd : TA) (A1 A2 : Option Addr) (c1 c2 : Nat) (w : World) (h1 : Und F (ArA A1 c1 hd)) (h2 : Und F (ArA A2 c2 bd)) (h1n : hd.len ≤ 9223372036854775807) (h1w : hd.ts.wide) (h2n : bd.len ≤ 9223372036854775807) (h2w : bd.ts.wide)
    (hc : cB ⟨k, n, s, hd.ts, bd.ts, vars⟩ = true) (hS : St M w0 H F w) :
    Calls Tryd.prog 4 #[.agg #[.int .i64 k, .int .i64 n, .string s, .slice A1 hd.len c1, .slice A2 bd.len c2, .int .i64 vars]] w fun e w' => ∃ (A' B' : Option Addr) (c' d' : Nat) (O O2 : List (Nat × Obj)), e = .returned (.tuple #[bv A' (blockC ⟨k, n, s, hd.ts, bd.ts, vars⟩).length c' vars vars B' (goalsC ⟨k, n, s, hd.ts, bd.ts, vars⟩).length d', .int .i64 0]) ∧
      Rw 50 3 (.slice A' (blockC ⟨k, n, s, hd.ts, bd.ts, vars⟩).length c') (blockC ⟨k, n, s, hd.ts, bd.ts, vars⟩).length (hcsL (blockC ⟨k, n, s, hd.ts, bd.ts, vars⟩)) O ∧ Rw 3 1 (.slice B' (goalsC ⟨k, n, s, hd.ts, bd.ts, vars⟩).length d') (goalsC ⟨k, n, s, hd.ts, bd.ts, vars⟩).length (intsV (goalsC ⟨k, n, s, hd.ts, bd.ts, vars⟩)) O2 ∧ St M w0 (O ++ (O2 ++ H)) F w' := by
  have hgc := fun w (hS : Sl w (fun _ => True) (.slice A1 hd.len c1) hd.ts ∧ Sl w (fun _ => True) (.slice A2 bd.len c2) bd.ts) => goodClauseW_any ⟨k, n, s, hd.ts, bd.ts, vars⟩ (.slice A1 hd.len c1) (.slice A2 bd.len c2) w hS.1 hS.2 (by rw [TA.len_ts]; exact h1n) h1w (by rw [TA.len_ts]; exact h2n) h2w
  rw [hc] at hgc
  obtain ⟨g0, g1, g2, g3, g4⟩ := cB_iff hc
  dsimp only at g0 g1 g2 g3 g4
  have g5 := gB_nodes g4
  have g6 := Ts.goals_nodes _ _ g3
  have g7 : (Ts.cons k n s hd.ts .nil).good vars = true := by
    simp only [gB, Bool.and_eq_true] at g4; exact g4.1.2
  obtain ⟨v, rfl⟩ : ∃ v : Nat, vars = (v : Nat) := ⟨vars.toNat, by omega⟩
  have e1 : blockC ⟨k, n, s, hd.ts, bd.ts, ((v : Nat) : Int)⟩ = (varsB v ++ lay1 k n s hd.ts (varsB v).length) ++ (layL bd.ts (varsB v ++ lay1 k n s hd.ts (varsB v).length).length).1 := by
    simp only [blockC, Int.toNat_natCast, varsB_len, List.length_append, List.append_assoc]
  have e2 : goalsC ⟨k, n, s, hd.ts, bd.ts, ((v : Nat) : Int)⟩ = (layL bd.ts (varsB v ++ lay1 k n s hd.ts (varsB v).length).length).2 := by
    simp only [goalsC, Int.toNat_natCast, varsB_len, List.length_append]
  rw [e1, e2]
  have hle := lay1_le k n s hd.ts (varsB v).length
  have hvl := varsB_len v
  have hal : (varsB v ++ lay1 k n s hd.ts (varsB v).length).length = v + (lay1 k n s hd.ts (varsB v).length).length := by rw [List.length_append, hvl]
  refine goes_enter1 Tryd.func4 rfl Tryd.ntmps4 rfl ?_
  refine goes_seq ?_
  refine goes_region ?_
  refine lst_box hS rfl rfl ?_
  clear hS
  intro b1 wx1 hS
  refine lst_alloc (cs := [_, _, _, _]) hS rfl rfl rfl ?_
  clear hS
  intro b2 wx2 hS
  refine lst_run (run_assign (by conv => lhs; whnf)) rfl ?_
  refine lst_done ?_
  refine goes_seq ?_
  refine goes_seq ?_
  refine goes_region ?_
  first
    | refine lst_run (run_loadN_own (k := 6) hS rfl rfl rfl (by first | exact .head | exact .tail .head | exact .tail (.tail .head) | exact .tail (.tail (.tail .head)) | exact .tail (.tail (.tail (.tail .head))) | exact .tail (.tail (.tail (.tail (.tail .head))))) (by repeat constructor)) rfl ?_
    | refine lst_run (run_load6 rfl rfl rfl (by first | assumption | exact (hcc _ hS).1 | exact (hcc _ hS).2.1 | exact (hcc _ hS).2.2.1 | exact (hcc _ hS).2.2.2 | exact hS.cell0 (by assumption)) (by first | assumption | exact (hcc _ hS).1 | exact (hcc _ hS).2.1 | exact (hcc _ hS).2.2.1 | exact (hcc _ hS).2.2.2 | exact hS.cell0 (by assumption)) (by first | assumption | exact (hcc _ hS).1 | exact (hcc _ hS).2.1 | exact (hcc _ hS).2.2.1 | exact (hcc _ hS).2.2.2 | exact hS.cell0 (by assumption)) (by first | assumption | exact (hcc _ hS).1 | exact (hcc _ hS).2.1 | exact (hcc _ hS).2.2.1 | exact (hcc _ hS).2.2.2 | exact hS.cell0 (by assumption)) (by first | assumption | exact (hcc _ hS).1 | exact (hcc _ hS).2.1 | exact (hcc _ hS).2.2.1 | exact (hcc _ hS).2.2.2 | exact hS.cell0 (by assumption)) (by first | assumption | exact (hcc _ hS).1 | exact (hcc _ hS).2.1 | exact (hcc _ hS).2.2.1 | exact (hcc _ hS).2.2.2 | exact hS.cell0 (by assumption))) rfl ?_
  refine lst_enter (run_call (by kernel_rfl) (args_1 (by conv => lhs; whnf))) rfl ?_
  refine Calls.mono (hgc _ ⟨(hS.und h1).sl, (hS.und h2).sl⟩) ?_
  rintro _ w2 ⟨rfl, hb2⟩
  refine ⟨_, rfl, ?_⟩
  replace hS := hS.grow hb2
  refine lst_run (rfl) rfl ?_
  refine lst_done ?_
  refine goes_false rfl ?_
  refine goes_skip ?_
  refine goes_seq ?_
  refine goes_region ?_
  refine lst_run (run_fieldAddr (off := 5) rfl rfl) rfl ?_
  first
    | refine lst_run (run_load1_own hS rfl rfl (by first | exact .head | exact .tail .head | exact .tail (.tail .head) | exact .tail (.tail (.tail .head)) | exact .tail (.tail (.tail (.tail .head))) | exact .tail (.tail (.tail (.tail (.tail .head))))) (by repeat constructor)) rfl ?_
    | refine lst_run (run_load1 rfl rfl (by first | assumption | exact (hcc _ hS).1 | exact (hcc _ hS).2.1 | exact (hcc _ hS).2.2.1 | exact (hcc _ hS).2.2.2 | exact hS.cell0 (by assumption) | exact lv_next hS | exact lv_list hS)) rfl ?_
  refine lst_enter (run_call (by kernel_rfl) (args_1 (by conv => lhs; whnf))) rfl ?_
  refine Calls.mono (variables_any v (by omega) _ hS) ?_
  rintro _ w3 ⟨A3, c3, O3, rfl, hrow3, hS'⟩
  refine ⟨_, rfl, ?_⟩
  replace hS := hS'
  clear hS'
  replace hS := hS.perm (List.perm_append_comm_assoc O3 [_, _] _)
  refine lst_run (run_assign (by conv => lhs; whnf)) rfl ?_
  refine lst_done ?_
  refine goes_seq ?_
  refine goes_region ?_
  refine lst_run (run_move (by conv => lhs; whnf)) rfl ?_
  refine lst_run (run_len_slice rfl rfl rfl) rfl ?_
  refine lst_run (run_assign (by conv => lhs; whnf)) rfl ?_
  refine lst_done ?_
  refine goes_seq ?_
  refine goes_region ?_
  refine lst_run (run_move (by conv => lhs; whnf)) rfl ?_
  refine lst_run (run_fieldAddr (off := 0) rfl rfl) rfl ?_
  first
    | refine lst_run (run_loadN_own (k := 4) hS rfl rfl rfl (by first | exact .head | exact .tail .head | exact .tail (.tail .head) | exact .tail (.tail (.tail .head)) | exact .tail (.tail (.tail (.tail .head))) | exact .tail (.tail (.tail (.tail (.tail .head))))) (by repeat constructor)) rfl ?_
    | refine lst_run (run_load4 rfl rfl rfl (by first | assumption | exact (hcc _ hS).1 | exact (hcc _ hS).2.1 | exact (hcc _ hS).2.2.1 | exact (hcc _ hS).2.2.2 | exact hS.cell0 (by assumption)) (by first | assumption | exact (hcc _ hS).1 | exact (hcc _ hS).2.1 | exact (hcc _ hS).2.2.1 | exact (hcc _ hS).2.2.2 | exact hS.cell0 (by assumption)) (by first | assumption | exact (hcc _ hS).1 | exact (hcc _ hS).2.1 | exact (hcc _ hS).2.2.1 | exact (hcc _ hS).2.2.2 | exact hS.cell0 (by assumption)) (by first | assumption | exact (hcc _ hS).1 | exact (hcc _ hS).2.1 | exact (hcc _ hS).2.2.1 | exact (hcc _ hS).2.2.2 | exact hS.cell0 (by assumption))) rfl ?_
  refine lst_enter (run_call (by kernel_rfl) (args_2 (by conv => lhs; whnf) (by conv => lhs; whnf))) rfl ?_
  refine Calls.mono (store_said hd M w0 _ F ((v : Nat) : Int) k n s A1 c1 _ _ _ _ h1 g7 (by omega) hrow3 (hS.perm (List.perm_append_comm_assoc [_, _] O3 _))) ?_
  rintro _ w4 ⟨A4, c4, O4, rfl, hrow4, hS'⟩
  refine ⟨_, rfl, ?_⟩
  replace hS := hS'
  clear hS'
  replace hS := hS.perm (List.perm_append_comm_assoc O4 [_, _] _)
  refine lst_run (run_assign (by conv => lhs; whnf)) rfl ?_
  refine lst_done ?_
  refine goes_seq ?_
  refine goes_region ?_
  refine lst_run (run_move (by conv => lhs; whnf)) rfl ?_
  refine lst_run (run_fieldAddr (off := 4) rfl rfl) rfl ?_
  first
    | refine lst_run (run_load1_own hS rfl rfl (by first | exact .head | exact .tail .head | exact .tail (.tail .head) | exact .tail (.tail (.tail .head)) | exact .tail (.tail (.tail (.tail .head))) | exact .tail (.tail (.tail (.tail (.tail .head))))) (by repeat constructor)) rfl ?_
    | refine lst_run (run_load1 rfl rfl (by first | assumption | exact (hcc _ hS).1 | exact (hcc _ hS).2.1 | exact (hcc _ hS).2.2.1 | exact (hcc _ hS).2.2.2 | exact hS.cell0 (by assumption) | exact lv_next hS | exact lv_list hS)) rfl ?_
  refine lst_enter (run_call (by kernel_rfl) (args_2 (by conv => lhs; whnf) (by conv => lhs; whnf))) rfl ?_
  refine Calls.mono (storeAll_any bd ((v : Nat) : Int) A2 c2 _ _ O4 _ h2 g3 (by omega) hrow4 (hS.perm (List.perm_append_comm_assoc [_, _] O4 _))) ?_
  rintro _ w5 ⟨A5, B5, c5, d5, O5, O6, rfl, hrow5, hrow6, hS'⟩
  refine ⟨_, rfl, ?_⟩
  replace hS := hS'
  clear hS'
  replace hS := hS.perm ((List.Perm.append_left O5 (List.perm_append_comm_assoc O6 [_, _] H)).trans (List.perm_append_comm_assoc O5 [_, _] _))
  refine lst_run (run_move (by conv => lhs; whnf)) rfl ?_
  refine lst_run (run_extract rfl rfl) rfl ?_
  refine lst_run (run_extract rfl rfl) rfl ?_
  refine lst_run (run_assign (by conv => lhs; whnf)) rfl ?_
  refine lst_run (run_assign (by conv => lhs; whnf)) rfl ?_
  refine lst_done ?_
  refine goes_seq ?_
  refine goes_region ?_
  refine lst_run (run_move (by conv => lhs; whnf)) rfl ?_
  refine lst_run (run_fieldAddr (off := 5) rfl rfl) rfl ?_
  first
    | refine lst_run (run_load1_own hS rfl rfl (by first | exact .head | exact .tail .head | exact .tail (.tail .head) | exact .tail (.tail (.tail .head)) | exact .tail (.tail (.tail (.tail .head))) | exact .tail (.tail (.tail (.tail (.tail .head))))) (by repeat constructor)) rfl ?_
    | refine lst_run (run_load1 rfl rfl (by first | assumption | exact (hcc _ hS).1 | exact (hcc _ hS).2.1 | exact (hcc _ hS).2.2.1 | exact (hcc _ hS).2.2.2 | exact hS.cell0 (by assumption) | exact lv_next hS | exact lv_list hS)) rfl ?_
  refine lst_run (run_move (by conv => lhs; whnf)) rfl ?_
  refine lst_run (run_move (by conv => lhs; whnf)) rfl ?_
  refine lst_run (run_build (cells := [_, _, _, _]) (.cons (by conv => lhs; whnf) (.cons (by conv => lhs; whnf) (.cons (by conv => lhs; whnf) (.cons (by conv => lhs; whnf) .nil)))) rfl) rfl ?_
  refine lst_storeN hS rfl (by conv => lhs; whnf) rfl rfl (by first | exact .head | exact .tail .head | exact .tail (.tail .head) | exact .tail (.tail (.tail .head)) | exact .tail (.tail (.tail (.tail .head))) | exact .tail (.tail (.tail (.tail (.tail .head))))) (by repeat constructor) (by first | exact .head | exact .tail .head | exact .tail (.tail .head) | exact .tail (.tail (.tail .head)) | exact .tail (.tail (.tail (.tail .head))) | exact .tail (.tail (.tail (.tail (.tail .head))))) ?_
  clear hS
  intro wx3 hS
  refine lst_run (run_assign (by conv => lhs; whnf)) rfl ?_
  refine lst_done ?_
  refine goes_retC2 (sz := 4) hS Tryd.func4 rfl rfl (by conv => lhs; whnf) rfl rfl (by first | exact .head | exact .tail .head | exact .tail (.tail .head) | exact .tail (.tail (.tail .head)) | exact .tail (.tail (.tail (.tail .head))) | exact .tail (.tail (.tail (.tail (.tail .head))))) (by repeat constructor) ?_
  refine ⟨A5, B5, c5, d5, O5, O6, ?_, hrow5, hrow6, hS.drop.drop⟩
  rw [hvl]
theorem queryC_bad (vars : Int) (T : TA) (A1 : Option Addr) (c1 : Nat) (w : World) (h1 : Und F (ArA A1 c1 T)) (h1n : T.len ≤ 9223372036854775807) (h1w : T.ts.wide) (hc : qB vars T.ts = false) (hS : St M w0 H F w) :
    Calls Tryd.prog 7 #[.slice A1 T.len c1, .int .i64 vars] w fun e w' => e = .returned (.tuple #[bv none 0 0 0 0 none 0 0, .int .i64 1]) ∧ St M w0 H F w' := by
  have hgc := fun w hS => goodQueryW_any vars T.ts (.slice A1 T.len c1) w hS (by rw [TA.len_ts]; exact h1n) h1w
  rw [hc] at hgc
  refine goes_enter2 Tryd.func7 rfl Tryd.ntmps7 rfl ?_
  refine goes_seq ?_
  refine goes_region ?_
  refine lst_alloc (cs := [_, _, _, _]) hS rfl rfl rfl ?_
  clear hS
  intro b1 wx1 hS
  refine lst_run (run_assign (by conv => lhs; whnf)) rfl ?_
  refine lst_done ?_
  refine goes_seq ?_
  refine goes_seq ?_
  refine goes_region ?_
  refine lst_run (run_move (by conv => lhs; whnf)) rfl ?_
  refine lst_run (run_move (by conv => lhs; whnf)) rfl ?_
  refine lst_enter (run_call (by kernel_rfl) (args_2 (by conv => lhs; whnf) (by conv => lhs; whnf))) rfl ?_
  refine Calls.mono (hgc _ (hS.und h1).sl) ?_
  rintro _ w2 ⟨rfl, hb2⟩
  refine ⟨_, rfl, ?_⟩
  replace hS := hS.grow hb2
  refine lst_run (rfl) rfl ?_
  refine lst_done ?_
  refine goes_true rfl ?_
  refine goes_seq ?_
  refine goes_region ?_
  refine lst_run (run_build (cells := [_, _, _, _]) .nil rfl) rfl ?_
  refine lst_storeN hS rfl (by conv => lhs; whnf) rfl rfl (by first | exact .head | exact .tail .head | exact .tail (.tail .head) | exact .tail (.tail (.tail .head)) | exact .tail (.tail (.tail (.tail .head))) | exact .tail (.tail (.tail (.tail (.tail .head))))) (by repeat constructor) (by first | exact .head | exact .tail .head | exact .tail (.tail .head) | exact .tail (.tail (.tail .head)) | exact .tail (.tail (.tail (.tail .head))) | exact .tail (.tail (.tail (.tail (.tail .head))))) ?_
  clear hS
  intro wx2 hS
  refine lst_run (run_assign (by conv => lhs; whnf)) rfl ?_
  refine lst_done ?_
  refine goes_retC2 (sz := 4) hS Tryd.func7 rfl rfl (by conv => lhs; whnf) rfl rfl (by first | exact .head | exact .tail .head | exact .tail (.tail .head) | exact .tail (.tail (.tail .head)) | exact .tail (.tail (.tail (.tail .head))) | exact .tail (.tail (.tail (.tail (.tail .head))))) (by repeat constructor) ?_
  exact ⟨rfl, hS.drop⟩
theorem qB_iff {vars : Int} {T : Ts} (h : qB vars T = true) : 0 ≤ vars ∧ vars ≤ 8 ∧ T.length ≤ 5 ∧ T.goals vars = true := by
  simp only [qB, Bool.and_eq_true, decide_eq_true_eq] at h
  exact ⟨h.1.1.1, h.1.1.2, h.1.2, h.2⟩
theorem queryC_ok (vars : Int) (T : TA) (A1 : Option Addr) (c1 : Nat) (w : World) (h1 : Und F (ArA A1 c1 T)) (h1n : T.len ≤ 9223372036854775807) (h1w : T.ts.wide) (hc : qB vars T.ts = true) (hS : St M w0 H F w) :
    Calls Tryd.prog 7 #[.slice A1 T.len c1, .int .i64 vars] w fun e w' => ∃ (A' B' : Option Addr) (c' d' : Nat) (O O2 : List (Nat × Obj)), e = .returned (.tuple #[bv A' (blockQ vars T.ts).length c' vars (-1) B' (goalsQ vars T.ts).length d', .int .i64 0]) ∧
      Rw 50 3 (.slice A' (blockQ vars T.ts).length c') (blockQ vars T.ts).length (hcsL (blockQ vars T.ts)) O ∧ Rw 3 1 (.slice B' (goalsQ vars T.ts).length d') (goalsQ vars T.ts).length (intsV (goalsQ vars T.ts)) O2 ∧ St M w0 (O ++ (O2 ++ H)) F w' := by
  have hgc := fun w hS => goodQueryW_any vars T.ts (.slice A1 T.len c1) w hS (by rw [TA.len_ts]; exact h1n) h1w
  rw [hc] at hgc
  obtain ⟨g0, g1, g2, g3⟩ := qB_iff hc
  have g6 := Ts.goals_nodes _ _ g3
  obtain ⟨v, rfl⟩ : ∃ v : Nat, vars = (v : Nat) := ⟨vars.toNat, by omega⟩
  have hvl := varsB_len v
  have e1 : blockQ ((v : Nat) : Int) T.ts = varsB v ++ (layL T.ts (varsB v).length).1 := by simp only [blockQ, Int.toNat_natCast, varsB_len]
  have e2 : goalsQ ((v : Nat) : Int) T.ts = (layL T.ts (varsB v).length).2 := by simp only [goalsQ, Int.toNat_natCast, varsB_len]
  rw [e1, e2]
  refine goes_enter2 Tryd.func7 rfl Tryd.ntmps7 rfl ?_
  refine goes_seq ?_
  refine goes_region ?_
  refine lst_alloc (cs := [_, _, _, _]) hS rfl rfl rfl ?_
  clear hS
  intro b1 wx1 hS
  refine lst_run (run_assign (by conv => lhs; whnf)) rfl ?_
  refine lst_done ?_
  refine goes_seq ?_
  refine goes_seq ?_
  refine goes_region ?_
  refine lst_run (run_move (by conv => lhs; whnf)) rfl ?_
  refine lst_run (run_move (by conv => lhs; whnf)) rfl ?_
  refine lst_enter (run_call (by kernel_rfl) (args_2 (by conv => lhs; whnf) (by conv => lhs; whnf))) rfl ?_
  refine Calls.mono (hgc _ (hS.und h1).sl) ?_
  rintro _ w2 ⟨rfl, hb2⟩
  refine ⟨_, rfl, ?_⟩
  replace hS := hS.grow hb2
  refine lst_run (rfl) rfl ?_
  refine lst_done ?_
  refine goes_false rfl ?_
  refine goes_skip ?_
  refine goes_seq ?_
  refine goes_region ?_
  refine lst_run (run_move (by conv => lhs; whnf)) rfl ?_
  refine lst_enter (run_call (by kernel_rfl) (args_1 (by conv => lhs; whnf))) rfl ?_
  refine Calls.mono (variables_any v (by omega) _ hS) ?_
  rintro _ w3 ⟨A3, c3, O3, rfl, hrow3, hS'⟩
  refine ⟨_, rfl, ?_⟩
  replace hS := hS'
  clear hS'
  replace hS := hS.perm (List.perm_append_comm_assoc O3 [_] _)
  refine lst_run (run_move (by conv => lhs; whnf)) rfl ?_
  refine lst_enter (run_call (by kernel_rfl) (args_2 (by conv => lhs; whnf) (by conv => lhs; whnf))) rfl ?_
  refine Calls.mono (storeAll_any T ((v : Nat) : Int) A1 c1 _ _ O3 _ h1 g3 (by omega) hrow3 (hS.perm (List.perm_append_comm_assoc [_] O3 _))) ?_
  rintro _ w5 ⟨A5, B5, c5, d5, O5, O6, rfl, hrow5, hrow6, hS'⟩
  refine ⟨_, rfl, ?_⟩
  replace hS := hS'
  clear hS'
  replace hS := hS.perm ((List.Perm.append_left O5 (List.perm_append_comm_assoc O6 [_] H)).trans (List.perm_append_comm_assoc O5 [_] _))
  refine lst_run (run_move (by conv => lhs; whnf)) rfl ?_
  refine lst_run (run_extract rfl rfl) rfl ?_
  refine lst_run (run_extract rfl rfl) rfl ?_
  refine lst_run (run_assign (by conv => lhs; whnf)) rfl ?_
  refine lst_run (run_assign (by conv => lhs; whnf)) rfl ?_
  refine lst_done ?_
  refine goes_seq ?_
  refine goes_region ?_
  refine lst_run (run_move (by conv => lhs; whnf)) rfl ?_
  refine lst_run (run_move (by conv => lhs; whnf)) rfl ?_
  refine lst_run (run_move (by conv => lhs; whnf)) rfl ?_
  refine lst_run (run_build (cells := [_, _, _, _]) (.cons (by conv => lhs; whnf) (.cons (by conv => lhs; whnf) (.cons (by conv => lhs; whnf) (.cons (by conv => lhs; whnf) .nil)))) rfl) rfl ?_
  refine lst_storeN hS rfl (by conv => lhs; whnf) rfl rfl (by first | exact .head | exact .tail .head | exact .tail (.tail .head) | exact .tail (.tail (.tail .head)) | exact .tail (.tail (.tail (.tail .head))) | exact .tail (.tail (.tail (.tail (.tail .head))))) (by repeat constructor) (by first | exact .head | exact .tail .head | exact .tail (.tail .head) | exact .tail (.tail (.tail .head)) | exact .tail (.tail (.tail (.tail .head))) | exact .tail (.tail (.tail (.tail (.tail .head))))) ?_
  clear hS
  intro wx2 hS
  refine lst_run (run_assign (by conv => lhs; whnf)) rfl ?_
  refine lst_done ?_
  refine goes_retC2 (sz := 4) hS Tryd.func7 rfl rfl (by conv => lhs; whnf) rfl rfl (by first | exact .head | exact .tail .head | exact .tail (.tail .head) | exact .tail (.tail (.tail .head)) | exact .tail (.tail (.tail (.tail .head))) | exact .tail (.tail (.tail (.tail (.tail .head))))) (by repeat constructor) ?_
  exact ⟨A5, B5, c5, d5, O5, O6, rfl, hrow5, hrow6, hS.drop⟩
end
end Go.Proofs.YtdflngjfnpbpmabDoor
namespace Go.Proofs.YtdflngjfnpbpmabDoor
open Go.RowKit
set_option linter.unusedVariables false
set_option linter.unusedSimpArgs false
set_option maxRecDepth 100000

section
variable {P : Program} {n : Nat} {e : Env} {w : World} {ty : TypeId} {pos : String} {after : Array Edge} {dst : Option Nat} {x y : Operand} {t t2 : TypeId}
theorem run_max2 {a c m : Int} {ts : Array TypeId} (hx : ev n e x = .int .i64 a) (hy : ev n e y = .int .i64 c) (hm : m = if a < c then c else a) :
    (execOp (ev n e) ⟨dst, .call ⟨.builtin .max, #[x, y], ts⟩, ty, pos, after, none⟩).run P w = .ok (.value (.int .i64 m)) w := by
  subst hm
  simp only [execOp, resolve, List.map_toArray, List.map_cons, List.map_nil, hx, hy, bind, pure, Sem.bind, invoke, builtin, Builtin.max_, List.foldlM, Builtin.max2]
  by_cases h : a < c
  · rw [if_pos h]; simp [h, Sem.run, Sem.bind]; try rfl
  · rw [if_neg h]; simp [h, Sem.run, Sem.bind]; try rfl
theorem run_min2 {a c m : Int} {ts : Array TypeId} (hx : ev n e x = .int .i64 a) (hy : ev n e y = .int .i64 c) (hm : m = if c < a then c else a) :
    (execOp (ev n e) ⟨dst, .call ⟨.builtin .min, #[x, y], ts⟩, ty, pos, after, none⟩).run P w = .ok (.value (.int .i64 m)) w := by
  subst hm
  simp only [execOp, resolve, List.map_toArray, List.map_cons, List.map_nil, hx, hy, bind, pure, Sem.bind, invoke, builtin, Builtin.min_, List.foldlM, Builtin.min2]
  by_cases h : c < a
  · rw [if_pos h]; simp [h, Sem.run, Sem.bind]; try rfl
  · rw [if_neg h]; simp [h, Sem.run, Sem.bind]; try rfl
theorem run_part3 {vs : List Value} {v : Value} {o t : Nat} (hA : aggOf P t = some false) (h : vs[o]? = some v) (w : World) : (part t vs.toArray o).run P w = .ok v w := by
  simp only [part, bind]
  rw [Sem.run_bind', run_isAgg hA]
  simp [Sem.run, h, pure]
theorem run_cell_eq (a b : HC) (w : World) : (Op.equalIn 10000 50 (.agg (hcs a).toArray) (.agg (hcs b).toArray)).run Tryd.prog w = .ok (decide (a = b)) w := by
  rw [run_equalIn_agg w 9999 _ _ _ (by kernel_rfl) (by kernel_rfl)]
  have hf : (Tryd.prog.fieldsOf 50).toList = [⟨ "Kind", 3, 0, false, "", "", 0⟩, ⟨ "N", 3, 1, false, "", "", 8⟩, ⟨ "S", 9, 2, false, "", "", 16⟩] := by kernel_rfl
  have p0 := fun (c : HC) w => run_part3 (P := Tryd.prog) (vs := hcs c) (v := .int .i64 c.k) (o := 0) (t := 3) rfl rfl w
  have p1 := fun (c : HC) w => run_part3 (P := Tryd.prog) (vs := hcs c) (v := .int .i64 c.n) (o := 1) (t := 3) rfl rfl w
  have p2 := fun (c : HC) w => run_part3 (P := Tryd.prog) (vs := hcs c) (v := .string c.s) (o := 2) (t := 9) rfl rfl w
  have q0 : ∀ (a b : Int) w, (Op.equalIn 9999 3 (.int .i64 a) (.int .i64 b)).run Tryd.prog w = .ok (a == b) w := fun a b w => run_equalIn_int w 9998 _ _ .i64 _ _ (by kernel_rfl)
  have q2 : ∀ (a b : ByteArray) w, (Op.equalIn 9999 9 (.string a) (.string b)).run Tryd.prog w = .ok (a.toList == b.toList) w := fun a b w => run_equalIn_string w 9998 _ _ _ (by kernel_rfl)
  rw [hf]
  obtain ⟨ak, an, az⟩ := a
  obtain ⟨bk, bn, bz⟩ := b
  simp only [Op.eqFields, Sem.run_bind, p0, p1, p2, q0, q2, Result.andThen_ok, Sem.run_ite, Sem.run_pure, HC.mk.injEq]
  by_cases h0 : ak = bk
  · by_cases h1 : an = bn
    · by_cases h2 : az = bz
      · simp [h0, h1, h2, Sem.run]
      · have h2' : ¬ az.toList = bz.toList := fun e => h2 (str_eq.1 e)
        simp [h0, h1, h2, h2', Sem.run]
    · simp [h0, h1, Sem.run]
  · simp [h0, Sem.run]
theorem run_neq_cell {a b : HC} (hx : ev n e x = .agg (hcs a).toArray) (hy : ev n e y = .agg (hcs b).toArray) :
    (execOp (ev n e) ⟨dst, .binOp .neq 50 x y 50, ty, pos, after, none⟩).run Tryd.prog w = .ok (.value (.bool (!decide (a = b)))) w := by
  simp only [execOp, hx, hy, bind, pure]
  rw [Sem.run_bind', Sem.run_bind', run_eqGuard_agg w _ _ _ _ _ _ (by kernel_rfl)]
  simp only [Result.andThen_ok]
  rw [run_neq_struct, run_cell_eq]
  rfl
end
end Go.Proofs.YtdflngjfnpbpmabDoor
namespace Go.Proofs.YtdflngjfnpbpmabDoor
open Go.RowKit
set_option linter.unusedVariables false
set_option linter.unusedSimpArgs false
set_option maxRecDepth 100000
set_option maxHeartbeats 1000000

theorem sameNumbersR_eq (L : List Int) (A B : Option Addr) (c d : Nat) (w : World) (hL : Flat 1 (intsV L) A L.length c w) (hK : Flat 1 (intsV L) B L.length d w) (hl : L.length ≤ 9223372036854775807) :
    Calls Tryd.prog 22 #[.slice A L.length c, .slice B L.length d] w fun e w' => e = .returned (.bool true) ∧ Below w.heap.size w w' := by
  have hS := ((St.start w).flat (M := []) hL).flat (M := []) hK
  refine goes_enter2 Tryd.func22 rfl Tryd.ntmps22 rfl ?_
  refine goes_seq ?_
  refine goes_region ?_
  refine lst_run (run_assign (by conv => lhs; whnf)) rfl ?_
  refine lst_done ?_
  refine goes_seq ?_
  refine goes_seq ?_
  refine goes_region ?_
  refine lst_run (run_move (by conv => lhs; whnf)) rfl ?_
  refine lst_run (run_len_slice rfl rfl rfl) rfl ?_
  refine lst_run (run_move (by conv => lhs; whnf)) rfl ?_
  refine lst_run (run_len_slice rfl rfl rfl) rfl ?_
  first
    | refine lst_run (run_neq_one_int rfl rfl) rfl ?_
    | refine lst_run (run_neq_no rfl rfl (by first | assumption | omega)) rfl ?_
    | refine lst_run (run_neq_yes rfl rfl (by omega)) rfl ?_
    | refine lst_run (rfl) rfl ?_
  refine lst_done ?_
  refine goes_false rfl ?_
  refine goes_skip ?_
  refine goes_seq ?_
  refine goes_seq ?_
  refine goes_region ?_
  refine lst_run (run_move (by conv => lhs; whnf)) rfl ?_
  refine lst_run (run_len_slice rfl rfl rfl) rfl ?_
  refine lst_run (run_move (by conv => lhs; whnf)) rfl ?_
  refine lst_done ?_
  refine goes_block ?_
  refine goes_loop1 13 (14 :: 15 :: 5 :: 16 :: 17 :: 18 :: 19 :: 20 :: 21 :: 22 :: 23 :: 24 :: 4 :: 25 :: []) (fun (R : List Int) v w' => ∃ D, L = D ++ R ∧ v = .int .i64 (D.length : Nat) ∧ St [] w [] [Flat 1 (intsV L) B L.length d, Flat 1 (intsV L) A L.length c] w') (fun R => R.length) (L) ?_ (by conv => lhs; whnf) ?_
  · exact ⟨[], rfl, rfl, hS⟩
  clear hS
  rintro R _ w2 jv ⟨D, hD, rfl, hS⟩ ih
  have hlen : L.length = D.length + R.length := by rw [hD]; simp
  cases R with
  | nil =>
    simp only [List.length_nil] at hlen
    refine goes_seq ?_
    refine goes_region ?_
    first
      | refine lst_run (run_lss_yes rfl rfl (by omega)) rfl ?_
      | refine lst_run (run_lss_no rfl rfl (by omega)) rfl ?_
      | refine lst_run (rfl) rfl ?_
    refine lst_done ?_
    refine goes_seq ?_
    refine goes_false rfl ?_
    refine goes_exit rfl ?_
    refine goes_seq ?_
    refine goes_region ?_
    refine lst_run (run_assign (by conv => lhs; whnf)) rfl ?_
    refine lst_done ?_
    refine goes_ret1 Tryd.func22 rfl (by conv => lhs; whnf) ?_
    exact ⟨rfl, hS.ext.below⟩
  | cons x R =>
    simp only [List.length_cons] at hlen
    obtain ⟨b, o, rfl⟩ := hL.some_ (by omega)
    obtain ⟨b2, o2, rfl⟩ := hK.some_ (by omega)
    have hx : L[D.length]? = some x := by rw [hD]; simp
    have hcc : ∀ {H'} w', St [] w H' [Flat 1 (intsV L) (some ⟨b2, o2, none⟩) L.length d, Flat 1 (intsV L) (some ⟨b, o, none⟩) L.length c] w' → _ := fun w' hS => (hS.fact (.head _)).int hx
    have hcd : ∀ {H'} w', St [] w H' [Flat 1 (intsV L) (some ⟨b2, o2, none⟩) L.length d, Flat 1 (intsV L) (some ⟨b, o, none⟩) L.length c] w' → _ := fun w' hS => (hS.fact (.tail _ (.head _))).int hx
    refine goes_seq ?_
    refine goes_region ?_
    first
      | refine lst_run (run_lss_yes rfl rfl (by omega)) rfl ?_
      | refine lst_run (run_lss_no rfl rfl (by omega)) rfl ?_
      | refine lst_run (rfl) rfl ?_
    refine lst_done ?_
    refine goes_seq ?_
    refine goes_true rfl ?_
    refine goes_skip ?_
    refine goes_seq ?_
    refine goes_block ?_
    refine goes_seq ?_
    refine goes_region ?_
    refine lst_run (run_move (by conv => lhs; whnf)) rfl ?_
    refine lst_run (run_assign (by conv => lhs; whnf)) rfl ?_
    refine lst_done ?_
    refine goes_seq ?_
    refine goes_draw (St _ _ _ _) 9 ((0, true) :: (1, true) :: (2, true) :: (3, true) :: (4, true) :: (5, true) :: (6, true) :: (7, true) :: (8, true) :: []) (by kernel_rfl) (by kernel_rfl) (hS.drew) ?_
    replace hS := hS.drew
    refine ord_read rfl (fun _ hS => run_move (by conv => lhs; whnf)) rfl ?_
    refine ord_read rfl (fun _ hS => run_move (by conv => lhs; whnf)) rfl ?_
    refine ord_read rfl (fun _ hS => run_indexAddr (sz := 1) rfl rfl rfl rfl (by omega) (by omega)) rfl ?_
    first
      | refine ord_read rfl (fun _ hS => run_load1_own hS rfl rfl (by first | exact .head | exact .tail .head | exact .tail (.tail .head) | exact .tail (.tail (.tail .head)) | exact .tail (.tail (.tail (.tail .head))) | exact .tail (.tail (.tail (.tail (.tail .head))))) (by repeat constructor)) rfl ?_
      | refine ord_read rfl (fun _ hS => run_load1 rfl rfl (by first | assumption | exact hcc _ hS | exact hcd _ hS | exact hS.cell0 (by assumption) | exact lv_next hS | exact lv_list hS)) rfl ?_
    refine ord_read rfl (fun _ hS => run_move (by conv => lhs; whnf)) rfl ?_
    refine ord_read rfl (fun _ hS => run_move (by conv => lhs; whnf)) rfl ?_
    refine ord_read rfl (fun _ hS => run_indexAddr (sz := 1) rfl rfl rfl rfl (by omega) (by omega)) rfl ?_
    first
      | refine ord_read rfl (fun _ hS => run_load1_own hS rfl rfl (by first | exact .head | exact .tail .head | exact .tail (.tail .head) | exact .tail (.tail (.tail .head)) | exact .tail (.tail (.tail (.tail .head))) | exact .tail (.tail (.tail (.tail (.tail .head))))) (by repeat constructor)) rfl ?_
      | refine ord_read rfl (fun _ hS => run_load1 rfl rfl (by first | assumption | exact hcc _ hS | exact hcd _ hS | exact hS.cell0 (by assumption) | exact lv_next hS | exact lv_list hS)) rfl ?_
    first
      | refine ord_read rfl (fun _ hS => run_neq_one_int rfl rfl) rfl ?_
      | refine ord_read rfl (fun _ hS => run_neq_no rfl rfl (by first | assumption | omega)) rfl ?_
      | refine ord_read rfl (fun _ hS => run_neq_yes rfl rfl (by omega)) rfl ?_
      | refine ord_read rfl (fun _ hS => rfl) rfl ?_
    refine ord_end ?_
    refine lst_done ?_
    refine goes_false rfl ?_
    refine goes_skip ?_
    refine goes_inBlock ?_
    refine goes_region ?_
    refine lst_run (run_add rfl rfl (by omega) (by omega)) rfl ?_
    refine lst_run (run_move (by conv => lhs; whnf)) rfl ?_
    refine lst_done ?_
    refine ih (R) _ _ _ ?_ ?_ (by conv => lhs; whnf) (by kernel_rfl)
    · simp
    · exact ⟨D ++ [x], by rw [hD]; simp, by simp, hS⟩
end Go.Proofs.YtdflngjfnpbpmabDoor
