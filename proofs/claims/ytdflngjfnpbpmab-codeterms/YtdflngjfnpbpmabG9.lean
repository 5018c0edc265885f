/- LCodeT, Open, HOpen, OpenC, OpenW, OpenCl: texts that follow one another, laid into one file. -/
import Derived.Test.YtdflngjfnpbpmabG3
import Derived.Test.YtdflngjfnpbpmabG4
import Derived.Test.YtdflngjfnpbpmabG5
import Derived.Test.YtdflngjfnpbpmabG7
import Derived.Test.YtdflngjfnpbpmabG8
import Derived.Test.YtdflngjfnpbpmabG1
import Derived.Test.YtdflngjfnpbpmabRows
import Derived.Deep.Slices
import Derived.Deep.Fields
import Derived.JoinedCond
import Derived.OpenShut
import Derived.Test.YtdflngjfnpbpmabG2
import Derived.JoinedOf
namespace Go.Proofs.Ytdflngjfnpbpmab
open Go.RowKit
set_option linter.unusedVariables false
set_option linter.unusedSimpArgs false
set_option maxRecDepth 100000
set_option maxHeartbeats 1000000

section
variable {M : List Nat} {w0 : World} {H : List (Nat × Obj)} {F : List (World → Prop)}
theorem ArA.flat {A : Option Addr} {c : Nat} {T : TA} {w : World} (h : ArA A c T w) : Flat 4 (tcsL T) A T.len c w :=
  ⟨tcsL_len T, h.1, fun hl => by
    obtain ⟨b, o, e, hs⟩ := h.2 hl
    exact ⟨b, o, e, hs.cells.2⟩⟩
theorem ArA.all {A : Option Addr} {c : Nat} {T : TA} {w : World} (h : ArA A c T w) : AllR T w := by
  by_cases hl : 0 < T.len
  · obtain ⟨b, o, e, hs⟩ := h.2 hl
    exact hs.cells.1
  · cases T with
    | nil => trivial
    | cons => simp [TA.len] at hl
/-- append(s, l...), of terms that lie there. -/
theorem lst_appTs {P : Program} {n : Nat} {e : Env} {w : World} {Q : Exit → Act → World → Prop} {ops : Array Oper} {rest : List Oper} {ty : TypeId} {pos : String} {after : Array Edge} {d : Nat} {H' : List (Nat × Obj)} {x y : Operand} {v : Value} {t tx : TypeId} {el len c : Nat} {A : Option Addr} {T : TA} {xs : List Value} {O : List (Nat × Obj)} (hS : St M w0 H F w) (hx : ev n e x = v) (hy : ev n e y = .slice A T.len c)
    (hT : isSliceP P t = some el) (hTx : isSliceP P tx = some el) (hi : rowP P el = some (4, 56)) (hL : Flat 4 (tcsL T) A T.len c w) (hrow : Rw el 4 v len xs O)
    (hP : H.Perm (O ++ H')) (hbig : len + T.len ≤ 1099511627776) (hd : Nat.blt d n = true)
    (h : ∀ v' O' w', Rw el 4 v' (len + T.len) (xs ++ tcsL T) O' → St M w0 (O' ++ H') F w' → Lst P Q ops rest n ((d, v') :: e) w') :
    Lst P Q ops (⟨some d, .call ⟨.builtin .append, #[x, y], #[t, tx]⟩, ty, pos, after, none⟩ :: rest) n e w := by
  obtain ⟨i, z, h2, h3, h4, h5, h6⟩ := rowP_some hi
  refine lst_appendRw hS hx hy hT hTx h2 h3 h4 (by rw [h5]; exact tcsL_len T) (by rw [h5]; exact hL.src hTx (List.all_eq_true.2 (tcsL_one T))) (by rw [h5]; exact hrow) hP (by rw [h6]; omega) (by omega) hd ?_
  rw [h5]; exact h
/-- A row of terms that is never written again. -/
theorem St.freezeT {w : World} {O : List (Nat × Obj)} {el c : Nat} {A : Option Addr} {D : TA} (hr : Rw el 4 (.slice A D.len c) D.len (tcsL D) O) (hA : Und F (AllR D)) (hS : St M w0 (O ++ H) F w) :
    ∃ F', (∀ φ ∈ F, φ ∈ F') ∧ Und F' (ArA A c D) ∧ St M w0 H F' w := by
  have hS2 := St.freezeR hr hS
  refine ⟨_, fun φ h => .tail _ h, fun w' hw => ?_, hS2⟩
  have hf := hw _ (.head _)
  have ha := hA w' fun φ hφ => hw φ (.tail _ hφ)
  refine ⟨hf.2.1, fun hl => ?_⟩
  obtain ⟨b, o, e, hc⟩ := hf.2.2 hl
  exact ⟨b, o, e, segA_of ha fun j u hj => hc j u hj⟩
end
theorem term_at {M : List Nat} {w0 : World} {H : List (Nat × Obj)} {F : List (World → Prop)} (h : HH) (a most : Int) (tm : Tm) (n : Nat) (er : Int) (he : termH h a most = (tm, n, er)) (A B : Option Addr) (c d : Nat) (w : World) (hH : Und F (HFl h A c B d)) (hS : St M w0 H F w) :
    Calls Try.prog 23 #[hv h A c B d, .int .i64 a, .int .i64 most] w fun e w' => ∃ (t : LT) (F' : List (World → Prop)), e = .returned (.tuple #[tv t, .int .i64 (n : Nat), .int .i64 er]) ∧ t.tm = tm ∧ (∀ φ ∈ F, φ ∈ F') ∧ Und F' (LRd t) ∧ St M w0 H F' w' := by
  have := term_any h a most A B c d w hH hS
  rw [he] at this
  exact this
theorem Ts.by_ap (f : Int → Int) (D U : Ts) : (D.app U).by_ f = (D.by_ f).app (U.by_ f) := by
  induction D with
  | nil => rfl
  | cons k n s ar r _ ih => simp only [Ts.app, Ts.by_, ih]
theorem Ts.nodes_by' (f : Int → Int) (T : Ts) : (T.by_ f).nodes = T.nodes := by
  induction T with
  | nil => rfl
  | cons k n s ar r iha ihr => simp only [Ts.by_, Ts.nodes, iha, ihr]
theorem ToldL.len {X : HH} {base : Nat} {T : Ts} {P : List Int} (h : ToldL X base T P) : P.length = T.length := by
  induction h with
  | nil => rfl
  | cons _ _ _ _ _ ih => simp only [List.length_cons, Ts.length, ih]
theorem ToldL.nodes {X : HH} {base : Nat} {T : Ts} {P : List Int} (h : ToldL X base T P) : T.nodes ≤ 24 * T.length := by
  induction h with
  | nil => simp [Ts.nodes]
  | cons _ _ _ hn _ ih => simp only [Ts.nodes, Ts.length]; omega
theorem codeTerms_any (cl : Cl) (h : HH) (u x : Value) (A B : Option Addr) (c d : Nat) (w : World) (hu : Sl w (fun _ => True) u cl.hd) (hx : Sl w (fun _ => True) x cl.bd) (hwd : ClsWide [cl]) (hH : HFl h A c B d w) :
    Calls Try.prog 11 #[.agg #[.int .i64 cl.k, .int .i64 cl.n, .string cl.s, u, x, .int .i64 cl.vars], hv h A c B d] w fun e w' => e = .returned (.bool true) ∧ Below w.heap.size w w' := by
  obtain ⟨k, n, s, hdT, bdT, vars⟩ := cl
  dsimp only at hu hx ⊢
  obtain ⟨hw1, hw2, hw3, hw4⟩ := hwd _ (List.mem_singleton.2 rfl)
  dsimp only at hw1 hw2 hw3 hw4
  have hS0 := (St.start w).base (φ := HFl h A c B d) fun w' hx => hH.ext hx
  obtain ⟨A1, c1, hd, rfl, rfl, hS1⟩ := hS0.located0 hu
  obtain ⟨A2, c2, bd, rfl, rfl, hS⟩ := hS1.located0 hx
  clear hS0 hS1 hu hx hH
  have hHu : Und [ArA A2 c2 bd, ArA A1 c1 hd, HFl h A c B d] (HFl h A c B d) := Und.head.tail.tail
  have h1u : Und [ArA A2 c2 bd, ArA A1 c1 hd, HFl h A c B d] (ArA A1 c1 hd) := Und.head.tail
  have h2u : Und [ArA A2 c2 bd, ArA A1 c1 hd, HFl h A c B d] (ArA A2 c2 bd) := Und.head
  generalize [ArA A2 c2 bd, ArA A1 c1 hd, HFl h A c B d] = F at *
  rw [TA.len_ts] at hw1 hw3
  cases hcb : cB ⟨k, n, s, hd.ts, bd.ts, vars⟩ with
  | false =>
    refine goes_enter2 Try.func11 rfl Try.ntmps11 rfl ?_
    refine goes_seq ?_
    refine goes_region ?_
    refine lst_box hS rfl rfl ?_
    clear hS
    intro b1 wx1 hS
    refine lst_box hS rfl rfl ?_
    clear hS
    intro b2 wx2 hS
    refine lst_run (run_assign (by conv => lhs; whnf)) rfl ?_
    refine lst_done ?_
    refine goes_seq ?_
    refine goes_region ?_
    first
      | refine lst_run (run_loadN_own (k := 6) hS rfl rfl rfl (by first | exact .head | exact .tail .head | exact .tail (.tail .head) | exact .tail (.tail (.tail .head)) | exact .tail (.tail (.tail (.tail .head))) | exact .tail (.tail (.tail (.tail (.tail .head))))) (by repeat constructor)) rfl ?_
      | refine lst_run (run_load6 rfl rfl rfl (by first | assumption | exact hS.cell0 (by assumption)) (by first | assumption | exact hS.cell0 (by assumption)) (by first | assumption | exact hS.cell0 (by assumption)) (by first | assumption | exact hS.cell0 (by assumption)) (by first | assumption | exact hS.cell0 (by assumption)) (by first | assumption | exact hS.cell0 (by assumption))) rfl ?_
    refine lst_enter (run_call (by kernel_rfl) (args_1 (by conv => lhs; whnf))) rfl ?_
    refine Calls.mono (clauseC_bad k n vars s hd bd A1 A2 c1 c2 _ h1u h2u hw1 hw2 hw3 hw4 hcb hS) ?_
    rintro _ w2 ⟨rfl, hS'⟩
    refine ⟨_, rfl, ?_⟩
    replace hS := hS'
    clear hS'
    refine lst_run (run_move (by conv => lhs; whnf)) rfl ?_
    refine lst_run (run_extract rfl rfl) rfl ?_
    refine lst_run (run_extract rfl rfl) rfl ?_
    refine lst_alloc (cs := [_, _, _, _]) hS rfl rfl rfl ?_
    clear hS
    intro b3 wx3 hS
    refine lst_storeN hS rfl (by conv => lhs; whnf) rfl rfl (by first | exact .head | exact .tail .head | exact .tail (.tail .head) | exact .tail (.tail (.tail .head)) | exact .tail (.tail (.tail (.tail .head))) | exact .tail (.tail (.tail (.tail (.tail .head))))) (by repeat constructor) (by first | exact .head | exact .tail .head | exact .tail (.tail .head) | exact .tail (.tail (.tail .head)) | exact .tail (.tail (.tail (.tail .head))) | exact .tail (.tail (.tail (.tail (.tail .head))))) ?_
    clear hS
    intro wx4 hS
    refine lst_run (run_assign (by conv => lhs; whnf)) rfl ?_
    refine lst_done ?_
    refine goes_seq ?_
    refine goes_seq ?_
    refine goes_region ?_
    refine lst_run (run_move (by conv => lhs; whnf)) rfl ?_
    first
      | refine lst_run (run_neq_one_int rfl rfl) rfl ?_
      | refine lst_run (run_neq_no rfl rfl (by first | assumption | omega)) rfl ?_
      | refine lst_run (run_neq_yes rfl rfl (by omega)) rfl ?_
      | refine lst_run (rfl) rfl ?_
    refine lst_run (run_move (by conv => lhs; whnf)) rfl ?_
    refine lst_pass rfl rfl rfl ?_
    refine lst_pass rfl rfl rfl ?_
    first
      | refine lst_run (run_pick_t rfl (by conv => lhs; whnf)) rfl ?_
      | refine lst_run (run_pick_f rfl (by conv => lhs; whnf)) rfl ?_
    refine lst_run (run_move (by conv => lhs; whnf)) rfl ?_
    refine lst_pass rfl rfl rfl ?_
    refine lst_pass rfl rfl rfl ?_
    refine lst_pass rfl rfl rfl ?_
    first
      | refine lst_run (run_pick_t rfl (by conv => lhs; whnf)) rfl ?_
      | refine lst_run (run_pick_f rfl (by conv => lhs; whnf)) rfl ?_
    refine lst_run (run_move (by conv => lhs; whnf)) rfl ?_
    refine lst_pass rfl rfl rfl ?_
    refine lst_pass rfl rfl rfl ?_
    refine lst_pass rfl rfl rfl ?_
    refine lst_pass rfl rfl rfl ?_
    first
      | refine lst_run (run_pick_t rfl (by conv => lhs; whnf)) rfl ?_
      | refine lst_run (run_pick_f rfl (by conv => lhs; whnf)) rfl ?_
    refine lst_done ?_
    refine goes_true rfl ?_
    refine goes_seq ?_
    refine goes_region ?_
    refine lst_enter (run_call (by kernel_rfl) args_nil) rfl ?_
    refine Calls.mono (codesK_any _) ?_
    rintro _ w3 ⟨rfl, hb3⟩
    refine ⟨_, rfl, ?_⟩
    replace hS := hS.grow hb3
    refine lst_run (run_assign (by conv => lhs; whnf)) rfl ?_
    refine lst_done ?_
    refine goes_ret1 Try.func11 rfl (by conv => lhs; whnf) ?_
    exact ⟨rfl, hS.ext.below⟩
  | true =>
  have hgl := blockC_len hcb
  obtain ⟨g0, g1, g2, g3, g4⟩ := cB_iff hcb
  dsimp only at g0 g1 g2 g3 g4
  rw [TA.len_ts] at g2
  have hgoal : (goalsC ⟨k, n, s, hd.ts, bd.ts, vars⟩).length = bd.len := by rw [goalsC, layL_len, TA.len_ts]
  refine goes_enter2 Try.func11 rfl Try.ntmps11 rfl ?_
  refine goes_seq ?_
  refine goes_region ?_
  refine lst_box hS rfl rfl ?_
  clear hS
  intro b1 wx1 hS
  refine lst_box hS rfl rfl ?_
  clear hS
  intro b2 wx2 hS
  refine lst_run (run_assign (by conv => lhs; whnf)) rfl ?_
  refine lst_done ?_
  refine goes_seq ?_
  refine goes_region ?_
  first
    | refine lst_run (run_loadN_own (k := 6) hS rfl rfl rfl (by first | exact .head | exact .tail .head | exact .tail (.tail .head) | exact .tail (.tail (.tail .head)) | exact .tail (.tail (.tail (.tail .head))) | exact .tail (.tail (.tail (.tail (.tail .head))))) (by repeat constructor)) rfl ?_
    | refine lst_run (run_load6 rfl rfl rfl (by first | assumption | exact hS.cell0 (by assumption)) (by first | assumption | exact hS.cell0 (by assumption)) (by first | assumption | exact hS.cell0 (by assumption)) (by first | assumption | exact hS.cell0 (by assumption)) (by first | assumption | exact hS.cell0 (by assumption)) (by first | assumption | exact hS.cell0 (by assumption))) rfl ?_
  refine lst_enter (run_call (by kernel_rfl) (args_1 (by conv => lhs; whnf))) rfl ?_
  refine Calls.mono (clauseC_ok k n vars s hd bd A1 A2 c1 c2 _ h1u h2u hw1 hw2 hw3 hw4 hcb hS) ?_
  rintro _ w2 ⟨A3, B3, c3, d3, O3, O4, rfl, hrow3, hrow4, hS'⟩
  refine ⟨_, rfl, ?_⟩
  replace hS := hS'
  clear hS'
  replace hS := St.freezeR hrow4 (St.freezeR hrow3 hS)
  have hf3 : Und (Flat 1 (intsV (goalsC ⟨k, n, s, hd.ts, bd.ts, vars⟩)) B3 (goalsC ⟨k, n, s, hd.ts, bd.ts, vars⟩).length d3 :: Flat 3 (hcsL (blockC ⟨k, n, s, hd.ts, bd.ts, vars⟩)) A3 (blockC ⟨k, n, s, hd.ts, bd.ts, vars⟩).length c3 :: F) (Flat 3 (hcsL (blockC ⟨k, n, s, hd.ts, bd.ts, vars⟩)) A3 (blockC ⟨k, n, s, hd.ts, bd.ts, vars⟩).length c3) := Und.head.tail
  have hf4 : Und (Flat 1 (intsV (goalsC ⟨k, n, s, hd.ts, bd.ts, vars⟩)) B3 (goalsC ⟨k, n, s, hd.ts, bd.ts, vars⟩).length d3 :: Flat 3 (hcsL (blockC ⟨k, n, s, hd.ts, bd.ts, vars⟩)) A3 (blockC ⟨k, n, s, hd.ts, bd.ts, vars⟩).length c3 :: F) (Flat 1 (intsV (goalsC ⟨k, n, s, hd.ts, bd.ts, vars⟩)) B3 (goalsC ⟨k, n, s, hd.ts, bd.ts, vars⟩).length d3) := Und.head
  replace hHu := hHu.tail (φ := Flat 3 (hcsL (blockC ⟨k, n, s, hd.ts, bd.ts, vars⟩)) A3 (blockC ⟨k, n, s, hd.ts, bd.ts, vars⟩).length c3) |>.tail (φ := Flat 1 (intsV (goalsC ⟨k, n, s, hd.ts, bd.ts, vars⟩)) B3 (goalsC ⟨k, n, s, hd.ts, bd.ts, vars⟩).length d3)
  replace h1u := h1u.tail (φ := Flat 3 (hcsL (blockC ⟨k, n, s, hd.ts, bd.ts, vars⟩)) A3 (blockC ⟨k, n, s, hd.ts, bd.ts, vars⟩).length c3) |>.tail (φ := Flat 1 (intsV (goalsC ⟨k, n, s, hd.ts, bd.ts, vars⟩)) B3 (goalsC ⟨k, n, s, hd.ts, bd.ts, vars⟩).length d3)
  replace h2u := h2u.tail (φ := Flat 3 (hcsL (blockC ⟨k, n, s, hd.ts, bd.ts, vars⟩)) A3 (blockC ⟨k, n, s, hd.ts, bd.ts, vars⟩).length c3) |>.tail (φ := Flat 1 (intsV (goalsC ⟨k, n, s, hd.ts, bd.ts, vars⟩)) B3 (goalsC ⟨k, n, s, hd.ts, bd.ts, vars⟩).length d3)
  generalize Flat 1 (intsV (goalsC ⟨k, n, s, hd.ts, bd.ts, vars⟩)) B3 (goalsC ⟨k, n, s, hd.ts, bd.ts, vars⟩).length d3 :: Flat 3 (hcsL (blockC ⟨k, n, s, hd.ts, bd.ts, vars⟩)) A3 (blockC ⟨k, n, s, hd.ts, bd.ts, vars⟩).length c3 :: F = F2 at *
  refine lst_run (run_move (by conv => lhs; whnf)) rfl ?_
  refine lst_run (run_extract rfl rfl) rfl ?_
  refine lst_run (run_extract rfl rfl) rfl ?_
  refine lst_alloc (cs := [_, _, _, _]) hS rfl rfl rfl ?_
  clear hS
  intro b3 wx3 hS
  refine lst_storeN hS rfl (by conv => lhs; whnf) rfl rfl (by first | exact .head | exact .tail .head | exact .tail (.tail .head) | exact .tail (.tail (.tail .head)) | exact .tail (.tail (.tail (.tail .head))) | exact .tail (.tail (.tail (.tail (.tail .head))))) (by repeat constructor) (by first | exact .head | exact .tail .head | exact .tail (.tail .head) | exact .tail (.tail (.tail .head)) | exact .tail (.tail (.tail (.tail .head))) | exact .tail (.tail (.tail (.tail (.tail .head))))) ?_
  clear hS
  intro wx4 hS
  refine lst_run (run_assign (by conv => lhs; whnf)) rfl ?_
  refine lst_done ?_
  refine goes_seq ?_
  refine goes_seq ?_
  refine goes_region ?_
  refine lst_run (run_move (by conv => lhs; whnf)) rfl ?_
  first
    | refine lst_run (run_neq_one_int rfl rfl) rfl ?_
    | refine lst_run (run_neq_no rfl rfl (by first | assumption | omega)) rfl ?_
    | refine lst_run (run_neq_yes rfl rfl (by omega)) rfl ?_
    | refine lst_run (rfl) rfl ?_
  refine lst_run (run_move (by conv => lhs; whnf)) rfl ?_
  refine lst_guard rfl rfl ?_
  refine lst_enter (run_call (by kernel_rfl) args_nil) rfl ?_
  refine Calls.mono (codesK_any _) ?_
  rintro _ w3 ⟨rfl, hb3⟩
  refine ⟨_, rfl, ?_⟩
  replace hS := hS.grow hb3
  refine lst_guard rfl rfl ?_
  refine lst_run (rfl) rfl ?_
  first
    | refine lst_run (run_pick_t rfl (by conv => lhs; whnf)) rfl ?_
    | refine lst_run (run_pick_f rfl (by conv => lhs; whnf)) rfl ?_
  refine lst_run (run_move (by conv => lhs; whnf)) rfl ?_
  refine lst_guard rfl rfl ?_
  first
    | refine lst_run (run_loadN_own (k := 2) hS rfl rfl rfl (by first | exact .head | exact .tail .head | exact .tail (.tail .head) | exact .tail (.tail (.tail .head)) | exact .tail (.tail (.tail (.tail .head))) | exact .tail (.tail (.tail (.tail (.tail .head))))) (by repeat constructor)) rfl ?_
    | refine lst_run (run_load2 rfl rfl rfl (by first | assumption | exact hS.cell0 (by assumption)) (by first | assumption | exact hS.cell0 (by assumption))) rfl ?_
  refine lst_guard rfl rfl ?_
  cases hgh : goodH h with
  | false =>
    have hgd := fun w hS => good_any h A B c d w hS
    rw [hgh] at hgd
    refine lst_enter (run_call (by kernel_rfl) (args_1 (by conv => lhs; whnf))) rfl ?_
    refine Calls.mono (hgd _ (hS.und hHu)) ?_
    rintro _ w4 ⟨rfl, hb4⟩
    refine ⟨_, rfl, ?_⟩
    replace hS := hS.grow hb4
    refine lst_guard rfl rfl ?_
    refine lst_run (rfl) rfl ?_
    first
      | refine lst_run (run_pick_t rfl (by conv => lhs; whnf)) rfl ?_
      | refine lst_run (run_pick_f rfl (by conv => lhs; whnf)) rfl ?_
    refine lst_run (run_move (by conv => lhs; whnf)) rfl ?_
    refine lst_pass rfl rfl rfl ?_
    refine lst_pass rfl rfl rfl ?_
    refine lst_pass rfl rfl rfl ?_
    refine lst_pass rfl rfl rfl ?_
    first
      | refine lst_run (run_pick_t rfl (by conv => lhs; whnf)) rfl ?_
      | refine lst_run (run_pick_f rfl (by conv => lhs; whnf)) rfl ?_
    refine lst_done ?_
    refine goes_true rfl ?_
    refine goes_seq ?_
    refine goes_region ?_
    refine lst_enter (run_call (by kernel_rfl) args_nil) rfl ?_
    refine Calls.mono (codesK_any _) ?_
    rintro _ w5 ⟨rfl, hb5⟩
    refine ⟨_, rfl, ?_⟩
    replace hS := hS.grow hb5
    refine lst_run (run_assign (by conv => lhs; whnf)) rfl ?_
    refine lst_done ?_
    refine goes_ret1 Try.func11 rfl (by conv => lhs; whnf) ?_
    exact ⟨rfl, hS.ext.below⟩
  | true =>
  have hgd := fun w hS => good_any h A B c d w hS
  rw [hgh] at hgd
  by_cases hbig : 1000 < h.cs.length
  · refine lst_enter (run_call (by kernel_rfl) (args_1 (by conv => lhs; whnf))) rfl ?_
    refine Calls.mono (hgd _ (hS.und hHu)) ?_
    rintro _ w4 ⟨rfl, hb4⟩
    refine ⟨_, rfl, ?_⟩
    replace hS := hS.grow hb4
    refine lst_guard rfl rfl ?_
    refine lst_run (rfl) rfl ?_
    first
      | refine lst_run (run_pick_t rfl (by conv => lhs; whnf)) rfl ?_
      | refine lst_run (run_pick_f rfl (by conv => lhs; whnf)) rfl ?_
    refine lst_run (run_move (by conv => lhs; whnf)) rfl ?_
    refine lst_guard rfl rfl ?_
    refine lst_run (run_fieldAddr (off := 0) rfl rfl) rfl ?_
    refine lst_guard rfl rfl ?_
    first
      | refine lst_run (run_load1_own hS rfl rfl (by first | exact .head | exact .tail .head | exact .tail (.tail .head) | exact .tail (.tail (.tail .head)) | exact .tail (.tail (.tail (.tail .head))) | exact .tail (.tail (.tail (.tail (.tail .head))))) (by repeat constructor)) rfl ?_
      | refine lst_run (run_load1 rfl rfl (by first | assumption | exact hS.cell0 (by assumption) | exact lv_next hS | exact lv_list hS)) rfl ?_
    refine lst_guard rfl rfl ?_
    refine lst_run (run_len_slice rfl rfl rfl) rfl ?_
    refine lst_guard rfl rfl ?_
    first
      | refine lst_run (run_gtr_yes rfl rfl (by omega)) rfl ?_
      | refine lst_run (run_gtr_no rfl rfl (by omega)) rfl ?_
      | refine lst_run (rfl) rfl ?_
    first
      | refine lst_run (run_pick_t rfl (by conv => lhs; whnf)) rfl ?_
      | refine lst_run (run_pick_f rfl (by conv => lhs; whnf)) rfl ?_
    refine lst_done ?_
    refine goes_true rfl ?_
    refine goes_seq ?_
    refine goes_region ?_
    refine lst_enter (run_call (by kernel_rfl) args_nil) rfl ?_
    refine Calls.mono (codesK_any _) ?_
    rintro _ w5 ⟨rfl, hb5⟩
    refine ⟨_, rfl, ?_⟩
    replace hS := hS.grow hb5
    refine lst_run (run_assign (by conv => lhs; whnf)) rfl ?_
    refine lst_done ?_
    refine goes_ret1 Try.func11 rfl (by conv => lhs; whnf) ?_
    exact ⟨rfl, hS.ext.below⟩
  have htold := told_clause hgh hcb (by omega)
  refine lst_enter (run_call (by kernel_rfl) (args_1 (by conv => lhs; whnf))) rfl ?_
  refine Calls.mono (hgd _ (hS.und hHu)) ?_
  rintro _ w4 ⟨rfl, hb4⟩
  refine ⟨_, rfl, ?_⟩
  replace hS := hS.grow hb4
  refine lst_guard rfl rfl ?_
  refine lst_run (rfl) rfl ?_
  first
    | refine lst_run (run_pick_t rfl (by conv => lhs; whnf)) rfl ?_
    | refine lst_run (run_pick_f rfl (by conv => lhs; whnf)) rfl ?_
  refine lst_run (run_move (by conv => lhs; whnf)) rfl ?_
  refine lst_guard rfl rfl ?_
  refine lst_run (run_fieldAddr (off := 0) rfl rfl) rfl ?_
  refine lst_guard rfl rfl ?_
  first
    | refine lst_run (run_load1_own hS rfl rfl (by first | exact .head | exact .tail .head | exact .tail (.tail .head) | exact .tail (.tail (.tail .head)) | exact .tail (.tail (.tail (.tail .head))) | exact .tail (.tail (.tail (.tail (.tail .head))))) (by repeat constructor)) rfl ?_
    | refine lst_run (run_load1 rfl rfl (by first | assumption | exact hS.cell0 (by assumption) | exact lv_next hS | exact lv_list hS)) rfl ?_
  refine lst_guard rfl rfl ?_
  refine lst_run (run_len_slice rfl rfl rfl) rfl ?_
  refine lst_guard rfl rfl ?_
  first
    | refine lst_run (run_gtr_yes rfl rfl (by omega)) rfl ?_
    | refine lst_run (run_gtr_no rfl rfl (by omega)) rfl ?_
    | refine lst_run (rfl) rfl ?_
  first
    | refine lst_run (run_pick_t rfl (by conv => lhs; whnf)) rfl ?_
    | refine lst_run (run_pick_f rfl (by conv => lhs; whnf)) rfl ?_
  refine lst_done ?_
  refine goes_false rfl ?_
  refine goes_skip ?_
  refine goes_seq ?_
  refine goes_region ?_
  first
    | refine lst_run (run_loadN_own (k := 2) hS rfl rfl rfl (by first | exact .head | exact .tail .head | exact .tail (.tail .head) | exact .tail (.tail (.tail .head)) | exact .tail (.tail (.tail (.tail .head))) | exact .tail (.tail (.tail (.tail (.tail .head))))) (by repeat constructor)) rfl ?_
    | refine lst_run (run_load2 rfl rfl rfl (by first | assumption | exact hS.cell0 (by assumption)) (by first | assumption | exact hS.cell0 (by assumption))) rfl ?_
  refine lst_run (run_fieldAddr (off := 0) rfl rfl) rfl ?_
  first
    | refine lst_run (run_load1_own hS rfl rfl (by first | exact .head | exact .tail .head | exact .tail (.tail .head) | exact .tail (.tail (.tail .head)) | exact .tail (.tail (.tail (.tail .head))) | exact .tail (.tail (.tail (.tail (.tail .head))))) (by repeat constructor)) rfl ?_
    | refine lst_run (run_load1 rfl rfl (by first | assumption | exact hS.cell0 (by assumption) | exact lv_next hS | exact lv_list hS)) rfl ?_
  have hload := load_any (M := []) (w0 := w) h (blockC ⟨k, n, s, hd.ts, bd.ts, vars⟩) A B A3 c d c3 _ hHu hf3 hS
  rw [load_eq hgh (blockC_good hcb) (by omega)] at hload
  dsimp only at hload
  refine lst_enter (run_call (by kernel_rfl) (args_2 (by conv => lhs; whnf) (by conv => lhs; whnf))) rfl ?_
  refine Calls.mono (hload) ?_
  rintro _ w5 ⟨A5, c5, B5, d5, F5, rfl, hF5, hH5, hS'⟩
  refine ⟨_, rfl, ?_⟩
  replace hS := hS'
  clear hS'
  have hXl : (⟨h.cs ++ (blockC ⟨k, n, s, hd.ts, bd.ts, vars⟩).map (moved h.cs.length), h.tr⟩ : HH).cs.length ≤ 1300 := by simp; omega
  generalize (⟨h.cs ++ (blockC ⟨k, n, s, hd.ts, bd.ts, vars⟩).map (moved h.cs.length), h.tr⟩ : HH) = X at *
  have h15 := h1u.mono hF5
  have h25 := h2u.mono hF5
  have hf45 := hf4.mono hF5
  have hHX := hH5
  generalize hG : goalsC ⟨k, n, s, hd.ts, bd.ts, vars⟩ = G at *
  generalize blockC ⟨k, n, s, hd.ts, bd.ts, vars⟩ = Kb at *
  dsimp only at htold
  refine lst_run (run_move (by conv => lhs; whnf)) rfl ?_
  refine lst_run (run_extract rfl rfl) rfl ?_
  refine lst_run (run_extract rfl rfl) rfl ?_
  refine lst_run (run_extract rfl rfl) rfl ?_
  refine lst_alloc (cs := [_, _]) hS rfl rfl rfl ?_
  clear hS
  intro b4 wx5 hS
  refine lst_storeN hS rfl (by conv => lhs; whnf) rfl rfl (by first | exact .head | exact .tail .head | exact .tail (.tail .head) | exact .tail (.tail (.tail .head)) | exact .tail (.tail (.tail (.tail .head))) | exact .tail (.tail (.tail (.tail (.tail .head))))) (by repeat constructor) (by first | exact .head | exact .tail .head | exact .tail (.tail .head) | exact .tail (.tail (.tail .head)) | exact .tail (.tail (.tail (.tail .head))) | exact .tail (.tail (.tail (.tail (.tail .head))))) ?_
  clear hS
  intro wx6 hS
  refine lst_run (run_assign (by conv => lhs; whnf)) rfl ?_
  refine lst_run (run_assign (by conv => lhs; whnf)) rfl ?_
  refine lst_done ?_
  refine goes_seq ?_
  refine goes_seq ?_
  refine goes_region ?_
  refine lst_run (run_move (by conv => lhs; whnf)) rfl ?_
  first
    | refine lst_run (run_neq_one_int rfl rfl) rfl ?_
    | refine lst_run (run_neq_no rfl rfl (by first | assumption | omega)) rfl ?_
    | refine lst_run (run_neq_yes rfl rfl (by omega)) rfl ?_
    | refine lst_run (rfl) rfl ?_
  refine lst_run (run_move (by conv => lhs; whnf)) rfl ?_
  refine lst_guard rfl rfl ?_
  refine lst_run (run_fieldAddr (off := 3) rfl rfl) rfl ?_
  refine lst_guard rfl rfl ?_
  first
    | refine lst_run (run_load1_own hS rfl rfl (by first | exact .head | exact .tail .head | exact .tail (.tail .head) | exact .tail (.tail (.tail .head)) | exact .tail (.tail (.tail (.tail .head))) | exact .tail (.tail (.tail (.tail (.tail .head))))) (by repeat constructor)) rfl ?_
    | refine lst_run (run_load1 rfl rfl (by first | assumption | exact hS.cell0 (by assumption) | exact lv_next hS | exact lv_list hS)) rfl ?_
  refine lst_guard rfl rfl ?_
  refine lst_run (run_len_slice rfl rfl rfl) rfl ?_
  refine lst_guard rfl rfl ?_
  refine lst_run (run_fieldAddr (off := 4) rfl rfl) rfl ?_
  refine lst_guard rfl rfl ?_
  first
    | refine lst_run (run_load1_own hS rfl rfl (by first | exact .head | exact .tail .head | exact .tail (.tail .head) | exact .tail (.tail (.tail .head)) | exact .tail (.tail (.tail (.tail .head))) | exact .tail (.tail (.tail (.tail (.tail .head))))) (by repeat constructor)) rfl ?_
    | refine lst_run (run_load1 rfl rfl (by first | assumption | exact hS.cell0 (by assumption) | exact lv_next hS | exact lv_list hS)) rfl ?_
  refine lst_guard rfl rfl ?_
  refine lst_run (run_len_slice rfl rfl rfl) rfl ?_
  refine lst_guard rfl rfl ?_
  first
    | refine lst_run (run_neq_one_int rfl rfl) rfl ?_
    | refine lst_run (run_neq_no rfl rfl (by first | assumption | omega)) rfl ?_
    | refine lst_run (run_neq_yes rfl rfl (by omega)) rfl ?_
    | refine lst_run (rfl) rfl ?_
  first
    | refine lst_run (run_pick_t rfl (by conv => lhs; whnf)) rfl ?_
    | refine lst_run (run_pick_f rfl (by conv => lhs; whnf)) rfl ?_
  refine lst_run (run_move (by conv => lhs; whnf)) rfl ?_
  refine lst_guard rfl rfl ?_
  refine lst_run (run_fieldAddr (off := 1) rfl rfl) rfl ?_
  refine lst_guard rfl rfl ?_
  first
    | refine lst_run (run_load1_own hS rfl rfl (by first | exact .head | exact .tail .head | exact .tail (.tail .head) | exact .tail (.tail (.tail .head)) | exact .tail (.tail (.tail (.tail .head))) | exact .tail (.tail (.tail (.tail (.tail .head))))) (by repeat constructor)) rfl ?_
    | refine lst_run (run_load1 rfl rfl (by first | assumption | exact hS.cell0 (by assumption) | exact lv_next hS | exact lv_list hS)) rfl ?_
  refine lst_guard rfl rfl ?_
  refine lst_run (run_fieldAddr (off := 5) rfl rfl) rfl ?_
  refine lst_guard rfl rfl ?_
  first
    | refine lst_run (run_load1_own hS rfl rfl (by first | exact .head | exact .tail .head | exact .tail (.tail .head) | exact .tail (.tail (.tail .head)) | exact .tail (.tail (.tail (.tail .head))) | exact .tail (.tail (.tail (.tail (.tail .head))))) (by repeat constructor)) rfl ?_
    | refine lst_run (run_load1 rfl rfl (by first | assumption | exact hS.cell0 (by assumption) | exact lv_next hS | exact lv_list hS)) rfl ?_
  refine lst_guard rfl rfl ?_
  first
    | refine lst_run (run_neq_one_int rfl rfl) rfl ?_
    | refine lst_run (run_neq_no rfl rfl (by first | assumption | omega)) rfl ?_
    | refine lst_run (run_neq_yes rfl rfl (by omega)) rfl ?_
    | refine lst_run (rfl) rfl ?_
  first
    | refine lst_run (run_pick_t rfl (by conv => lhs; whnf)) rfl ?_
    | refine lst_run (run_pick_f rfl (by conv => lhs; whnf)) rfl ?_
  refine lst_done ?_
  refine goes_false rfl ?_
  refine goes_skip ?_
  refine goes_seq ?_
  refine goes_region ?_
  refine lst_run (run_fieldAddr (off := 0) rfl rfl) rfl ?_
  first
    | refine lst_run (run_loadN_own (k := 4) hS rfl rfl rfl (by first | exact .head | exact .tail .head | exact .tail (.tail .head) | exact .tail (.tail (.tail .head)) | exact .tail (.tail (.tail (.tail .head))) | exact .tail (.tail (.tail (.tail (.tail .head))))) (by repeat constructor)) rfl ?_
    | refine lst_run (run_load4 rfl rfl rfl (by first | assumption | exact hS.cell0 (by assumption)) (by first | assumption | exact hS.cell0 (by assumption)) (by first | assumption | exact hS.cell0 (by assumption)) (by first | assumption | exact hS.cell0 (by assumption))) rfl ?_
  refine lst_buildSlice (cells := [_, _, _, _]) hS (.cons (by conv => lhs; whnf) .nil) rfl rfl ?_
  clear hS
  intro b5 wx7 hS
  refine lst_run (run_fieldAddr (off := 4) rfl rfl) rfl ?_
  first
    | refine lst_run (run_load1_own hS rfl rfl (by first | exact .head | exact .tail .head | exact .tail (.tail .head) | exact .tail (.tail (.tail .head)) | exact .tail (.tail (.tail (.tail .head))) | exact .tail (.tail (.tail (.tail (.tail .head))))) (by repeat constructor)) rfl ?_
    | refine lst_run (run_load1 rfl rfl (by first | assumption | exact hS.cell0 (by assumption) | exact lv_next hS | exact lv_list hS)) rfl ?_
  refine lst_appTs (T := bd) hS (by rfl) (by rfl) rfl rfl rfl (hS.und h25).flat (Rw.own_ (xs := tcs ⟨k, n, s, A1, c1, hd⟩) (sp := []) rfl rfl (Nat.le_refl _) (by omega)) (.refl _) (by omega) rfl ?_
  clear hS
  intro v7 O7 w7 hrow7 hS
  obtain ⟨B7, d7, rfl, _⟩ := hrow7.form
  have hw7 : Rw 39 4 (.slice B7 (TA.cons k n s A1 c1 hd bd).len d7) (TA.cons k n s A1 c1 hd bd).len (tcsL (.cons k n s A1 c1 hd bd)) O7 := by
    rw [show (TA.cons k n s A1 c1 hd bd).len = 1 + bd.len by simp [TA.len]; omega]; exact hrow7
  obtain ⟨F7, hF7, hA7, hS'⟩ := St.freezeT hw7 (fun w hw => ⟨h15 w hw, (h25 w hw).all⟩) hS
  clear hS
  have hS := hS'
  clear hS'
  refine lst_run (run_assign (by conv => lhs; whnf)) rfl ?_
  refine lst_done ?_
  refine goes_seq ?_
  refine goes_region ?_
  refine lst_run (run_assign (by conv => lhs; whnf)) rfl ?_
  refine lst_done ?_
  refine goes_seq ?_
  refine goes_seq ?_
  refine goes_region ?_
  refine lst_run (run_fieldAddr (off := 2) rfl rfl) rfl ?_
  first
    | refine lst_run (run_load1_own hS rfl rfl (by first | exact .head | exact .tail .head | exact .tail (.tail .head) | exact .tail (.tail (.tail .head)) | exact .tail (.tail (.tail (.tail .head))) | exact .tail (.tail (.tail (.tail (.tail .head))))) (by repeat constructor)) rfl ?_
    | refine lst_run (run_load1 rfl rfl (by first | assumption | exact hS.cell0 (by assumption) | exact lv_next hS | exact lv_list hS)) rfl ?_
  refine lst_buildSlice (cells := [_]) hS (.cons (by conv => lhs; whnf) .nil) rfl rfl ?_
  clear hS
  intro b6 wx8 hS
  refine lst_run (run_fieldAddr (off := 3) rfl rfl) rfl ?_
  first
    | refine lst_run (run_load1_own hS rfl rfl (by first | exact .head | exact .tail .head | exact .tail (.tail .head) | exact .tail (.tail (.tail .head)) | exact .tail (.tail (.tail (.tail .head))) | exact .tail (.tail (.tail (.tail (.tail .head))))) (by repeat constructor)) rfl ?_
    | refine lst_run (run_load1 rfl rfl (by first | assumption | exact hS.cell0 (by assumption) | exact lv_next hS | exact lv_list hS)) rfl ?_
  refine lst_appI (L := G) hS (by rfl) (by rfl) rfl rfl rfl (hS.und (hf45.mono hF7)) (Rw.own_ (xs := intsV [vars]) (sp := []) rfl rfl (Nat.le_refl _) (by omega)) (.refl _) (by omega) rfl ?_
  clear hS
  intro v8 O8 w8 hrow8 hS
  obtain ⟨B8, d8, rfl, _⟩ := hrow8.form
  have hw8 : Rw 3 1 (.slice B8 (1 + G.length) d8) (1 + G.length) (intsV (vars :: G)) O8 := hrow8
  have hS := St.freezeR hw8 hS
  have hf8 : Und (Flat 1 (intsV (vars :: G)) B8 (1 + G.length) d8 :: F7) (Flat 1 (intsV (vars :: G)) B8 (1 + G.length) d8) := Und.head
  have hA8 := hA7.tail (φ := Flat 1 (intsV (vars :: G)) B8 (1 + G.length) d8)
  have hH8 := (hHX.mono hF7).tail (φ := Flat 1 (intsV (vars :: G)) B8 (1 + G.length) d8)
  generalize Flat 1 (intsV (vars :: G)) B8 (1 + G.length) d8 :: F7 = F8 at *
  refine lst_run (run_len_slice rfl rfl rfl) rfl ?_
  refine lst_run (run_move (by conv => lhs; whnf)) rfl ?_
  refine lst_done ?_
  refine goes_block ?_
  generalize hT0 : Ts.cons k n s hd.ts bd.ts = T0 at *
  have hTn := htold.nodes
  have hTl := htold.len
  simp only [List.length_cons] at hTl
  refine goes_loop2 79 11 (80 :: 81 :: 82 :: 13 :: 84 :: 85 :: 86 :: 87 :: 88 :: 83 :: 89 :: 90 :: 91 :: 14 :: 15 :: 16 :: 92 :: 93 :: 4 :: 94 :: 95 :: 96 :: 97 :: 98 :: []) (fun (Q : List Int) v y w' => ∃ (D : List Int) (E R : Ts) (Td : TA) (Aa : Option Addr) (ca : Nat) (Oa : List (Nat × Obj)) (F' : List (World → Prop)), vars :: G = D ++ Q ∧ T0 = E.app R ∧ E.length = D.length ∧ ToldL X h.cs.length R Q ∧ v = .int .i64 (D.length : Nat) ∧ y = .slice Aa Td.len ca ∧ Td.ts = E.by_ (up h.cs.length) ∧ (∀ φ ∈ F8, φ ∈ F') ∧ Und F' (AllR Td) ∧ Rw 39 4 (.slice Aa Td.len ca) Td.len (tcsL Td) Oa ∧ St [] w ((b4, hob A5 X.cs.length c5 B5 X.tr.length d5) :: (b3, .cells [.slice A3 Kb.length c3, .int .i64 vars, .int .i64 vars, .slice B3 G.length d3].toArray 59) :: (b2, hob A h.cs.length c B h.tr.length d) :: (b1, .cells [.int .i64 k, .int .i64 n, .string s, .slice A1 hd.len c1, .slice A2 bd.len c2, .int .i64 vars].toArray 57) :: (Oa ++ [])) F' w') (fun Q => Q.length) (vars :: G) ?_ (by conv => lhs; whnf) (by conv => lhs; whnf) ?_
  · exact ⟨[], .nil, T0, .nil, none, 0, [], F8, rfl, rfl, rfl, htold, rfl, rfl, rfl, fun _ h => h, fun _ _ => trivial, Rw.zero_, hS⟩
  clear hS
  rintro Q _ _ w9 jv ⟨D, E, R, Td, Aa, ca, Oa, F', hD, hER, hEl, htR, rfl, rfl, hTd, hFF, hAT, hrow, hS⟩ ih
  have hlen : 1 + G.length = D.length + Q.length := by have := congrArg List.length hD; simp at this; omega
  have hTdl : Td.len = D.length := by
    have : (E.by_ (up h.cs.length)).length = E.length := by
      clear hTd hER hEl
      induction E with
      | nil => rfl
      | cons k n s ar r _ ih => simp only [Ts.by_, Ts.length, ih]
    rw [← TA.len_ts, hTd, this, hEl]
  cases htR with
  | nil =>
    obtain rfl : T0 = E := by rw [hER, Ts.app_nil]
    obtain ⟨F9, hF9, hA9, hS'⟩ := St.freezeT hrow hAT (hS.perm (List.perm_append_comm_assoc [_, _, _, _] Oa _))
    clear hS
    have hS := hS'
    clear hS'
    have hnb : Td.ts.nodes = T0.nodes := by rw [hTd, Ts.nodes_by']
    have hnt : T0.tidy.nodes = T0.nodes := Ts.nodes_ren _ T0 []
    have hw0 : (TA.cons k n s A1 c1 hd bd).ts = T0 := hT0
    refine goes_seq ?_
    refine goes_region ?_
    first
      | refine lst_run (run_lss_yes rfl rfl (by omega)) rfl ?_
      | refine lst_run (run_lss_no rfl rfl (by omega)) rfl ?_
      | refine lst_run (rfl) rfl ?_
    refine lst_done ?_
    refine goes_seq ?_
    refine goes_false rfl ?_
    refine goes_exit rfl ?_
    refine goes_seq ?_
    refine goes_region ?_
    refine lst_run (run_move (by conv => lhs; whnf)) rfl ?_
    have htd1 := fun w hS => tidy_any T0 (.slice B7 (1 + bd.len) d7) w hS (by omega)
    refine lst_enter (run_call (by kernel_rfl) (args_1 (by conv => lhs; whnf))) rfl ?_
    refine Calls.mono (htd1 _ (by have := ((hS.und ((hA8.mono hFF).mono hF9)).sl); rw [hw0, show (TA.cons k n s A1 c1 hd bd).len = 1 + bd.len by simp [TA.len]; omega] at this; exact this)) ?_
    rintro _ w10 ⟨v10, rfl, hsl10, hlow10⟩
    refine ⟨_, rfl, ?_⟩
    obtain ⟨A10, c10, L10, rfl, hL10, hS'⟩ := hS.located hlow10 hsl10
    replace hS := hS'
    clear hS'
    refine lst_run (run_move (by conv => lhs; whnf)) rfl ?_
    refine lst_enter (run_call (by kernel_rfl) (args_1 (by conv => lhs; whnf))) rfl ?_
    refine Calls.mono (tidy_any Td.ts (.slice Aa Td.len ca) _ ((hS.und hA9.tail).sl) (by omega)) ?_
    rintro _ w11 ⟨v11, rfl, hsl11, hlow11⟩
    refine ⟨_, rfl, ?_⟩
    obtain ⟨A11, c11, L11, rfl, hL11, hS'⟩ := hS.located hlow11 hsl11
    replace hS := hS'
    clear hS'
    have htd : Td.ts.tidy = T0.tidy := by rw [hTd]; exact up_tidy _ _
    have hsm := K.sameTerms_any L10.ts L11.ts (.slice A10 L10.len c10) (.slice A11 L11.len c11) _ ((hS.fact (.tail _ (.head _))).sl) ((hS.fact (.head _)).sl) (by rw [hL10, hnt]; omega) (by rw [hL11, htd, hnt]; omega)
    rw [show L10.ts.same L11.ts = true by rw [hL10, hL11, htd]; exact (Ts.same_iff _ _).2 rfl] at hsm
    refine lst_enter (run_call (by kernel_rfl) (args_2 (by conv => lhs; whnf) (by conv => lhs; whnf))) rfl ?_
    refine Calls.mono (hsm) ?_
    rintro _ w12 ⟨rfl, hb12⟩
    refine ⟨_, rfl, ?_⟩
    replace hS := hS.grow hb12
    refine lst_run (run_assign (by conv => lhs; whnf)) rfl ?_
    refine lst_done ?_
    refine goes_ret1 Try.func11 rfl (by conv => lhs; whnf) ?_
    exact ⟨rfl, hS.ext.below⟩
  | @cons k1 n1 s1 ar r x Q htm hx0 hx1 hnd htr =>
    obtain ⟨m, htm⟩ := htm
    simp only [List.length_cons] at hlen
    have hxi : (vars :: G)[D.length]? = some x := by rw [hD]; simp
    obtain ⟨bt, ot, rfl⟩ := (hS.und (hf8.mono hFF)).some_ (by omega)
    have hct : ∀ {H'} w', St [] w H' F' w' → w'.cell? ⟨bt, ot + ((D.length : Nat) : Int).toNat * 1, none⟩ = some (.int .i64 x) := fun w' hS => by
      have := (show Flat 1 (intsV (vars :: G)) (some ⟨bt, ot, none⟩) (vars :: G).length d8 w' by rw [show (vars :: G).length = 1 + G.length by simp; omega]; exact hS.und (hf8.mono hFF)).int hxi
      rw [show ((D.length : Nat) : Int).toNat = D.length by omega]; exact this
    refine goes_seq ?_
    refine goes_region ?_
    first
      | refine lst_run (run_lss_yes rfl rfl (by omega)) rfl ?_
      | refine lst_run (run_lss_no rfl rfl (by omega)) rfl ?_
      | refine lst_run (rfl) rfl ?_
    refine lst_done ?_
    refine goes_seq ?_
    refine goes_true rfl ?_
    refine goes_skip ?_
    refine goes_seq ?_
    refine goes_block ?_
    refine goes_seq ?_
    refine goes_region ?_
    refine lst_run (run_indexAddr (sz := 1) rfl rfl rfl rfl (by omega) (by omega)) rfl ?_
    first
      | refine lst_run (run_load1_own hS rfl rfl (by first | exact .head | exact .tail .head | exact .tail (.tail .head) | exact .tail (.tail (.tail .head)) | exact .tail (.tail (.tail (.tail .head))) | exact .tail (.tail (.tail (.tail (.tail .head))))) (by repeat constructor)) rfl ?_
      | refine lst_run (run_load1 rfl rfl (by first | assumption | exact hct _ hS | exact hS.cell0 (by assumption) | exact lv_next hS | exact lv_list hS)) rfl ?_
    refine lst_run (run_assign (by conv => lhs; whnf)) rfl ?_
    refine lst_done ?_
    refine goes_seq ?_
    refine goes_region ?_
    first
      | refine lst_run (run_loadN_own (k := 2) hS rfl rfl rfl (by first | exact .head | exact .tail .head | exact .tail (.tail .head) | exact .tail (.tail (.tail .head)) | exact .tail (.tail (.tail (.tail .head))) | exact .tail (.tail (.tail (.tail (.tail .head))))) (by repeat constructor)) rfl ?_
      | refine lst_run (run_load2 rfl rfl rfl (by first | assumption | exact hct _ hS | exact hS.cell0 (by assumption)) (by first | assumption | exact hct _ hS | exact hS.cell0 (by assumption))) rfl ?_
    refine lst_run (run_move (by conv => lhs; whnf)) rfl ?_
    refine lst_run (run_move (by conv => lhs; whnf)) rfl ?_
    refine lst_run (run_add rfl rfl (by omega) (by omega)) rfl ?_
    refine lst_enter (run_call (by kernel_rfl) (args_3 (by conv => lhs; whnf) (by conv => lhs; whnf) (by conv => lhs; whnf))) rfl ?_
    refine Calls.mono (term_at X (h.cs.length + x) 24 _ _ _ htm A5 B5 c5 d5 _ (hH8.mono hFF) hS) ?_
    rintro _ w10 ⟨t7, F7', rfl, ht7, hF7', hr7, hS'⟩
    refine ⟨_, rfl, ?_⟩
    replace hS := hS'
    clear hS'
    refine lst_run (run_move (by conv => lhs; whnf)) rfl ?_
    refine lst_run (run_extract rfl rfl) rfl ?_
    refine lst_run (run_extract rfl rfl) rfl ?_
    refine lst_run (run_extract rfl rfl) rfl ?_
    refine lst_alloc (cs := [_, _, _, _]) hS rfl rfl rfl ?_
    clear hS
    intro b7 wx9 hS
    refine lst_storeN hS rfl (by conv => lhs; whnf) rfl rfl (by first | exact .head | exact .tail .head | exact .tail (.tail .head) | exact .tail (.tail (.tail .head)) | exact .tail (.tail (.tail (.tail .head))) | exact .tail (.tail (.tail (.tail (.tail .head))))) (by repeat constructor) (by first | exact .head | exact .tail .head | exact .tail (.tail .head) | exact .tail (.tail (.tail .head)) | exact .tail (.tail (.tail (.tail .head))) | exact .tail (.tail (.tail (.tail (.tail .head))))) ?_
    clear hS
    intro wx10 hS
    refine lst_run (run_assign (by conv => lhs; whnf)) rfl ?_
    refine lst_run (run_assign (by conv => lhs; whnf)) rfl ?_
    refine lst_done ?_
    refine goes_seq ?_
    refine goes_seq ?_
    refine goes_region ?_
    refine lst_run (run_move (by conv => lhs; whnf)) rfl ?_
    first
      | refine lst_run (run_neq_one_int rfl rfl) rfl ?_
      | refine lst_run (run_neq_no rfl rfl (by first | assumption | omega)) rfl ?_
      | refine lst_run (run_neq_yes rfl rfl (by omega)) rfl ?_
      | refine lst_run (rfl) rfl ?_
    refine lst_done ?_
    refine goes_false rfl ?_
    refine goes_skip ?_
    refine goes_region ?_
    refine lst_run (run_move (by conv => lhs; whnf)) rfl ?_
    first
      | refine lst_run (run_loadN_own (k := 4) hS rfl rfl rfl (by first | exact .head | exact .tail .head | exact .tail (.tail .head) | exact .tail (.tail (.tail .head)) | exact .tail (.tail (.tail (.tail .head))) | exact .tail (.tail (.tail (.tail (.tail .head))))) (by repeat constructor)) rfl ?_
      | refine lst_run (run_load4 rfl rfl rfl (by first | assumption | exact hct _ hS | exact hS.cell0 (by assumption)) (by first | assumption | exact hct _ hS | exact hS.cell0 (by assumption)) (by first | assumption | exact hct _ hS | exact hS.cell0 (by assumption)) (by first | assumption | exact hct _ hS | exact hS.cell0 (by assumption))) rfl ?_
    refine lst_buildSlice (cells := [_, _, _, _]) hS (.cons (by conv => lhs; whnf) .nil) rfl rfl ?_
    clear hS
    intro b8 wx11 hS
    refine lst_appTs (T := .cons t7.k t7.n t7.s t7.A t7.c t7.ar .nil) hS (by conv => lhs; whnf) (by rfl) rfl rfl rfl (Flat.own (sp := []) (hS.own (_, _) (.head _)) rfl (Nat.le_refl _)) hrow (List.perm_append_comm_assoc [_, _, _, _, _, _] Oa _) (by simp only [TA.len]; omega) rfl ?_
    clear hS
    intro v9 O9 w11 hrow9 hS
    obtain ⟨A9, c9, rfl, _⟩ := hrow9.form
    replace hS := hS.perm (List.perm_append_comm_assoc O9 [_, _, _, _, _, _] _)
    have e1 : (Td.app (.cons t7.k t7.n t7.s t7.A t7.c t7.ar .nil)).len = Td.len + (TA.cons t7.k t7.n t7.s t7.A t7.c t7.ar .nil).len := TA.len_app _ _
    refine lst_run (run_assign (by conv => lhs; whnf)) rfl ?_
    refine lst_done ?_
    refine goes_inBlock ?_
    refine goes_region ?_
    refine lst_run (run_add rfl rfl (by omega) (by omega)) rfl ?_
    refine lst_run (run_move (by conv => lhs; whnf)) rfl ?_
    refine lst_done ?_
    refine ih (Q) _ _ _ _ ?_ ?_ (by conv => lhs; whnf) (by conv => lhs; whnf) (by kernel_rfl)
    · simp
    · refine ⟨D ++ [x], E.app (.cons k1 n1 s1 ar .nil), r, Td.app (.cons t7.k t7.n t7.s t7.A t7.c t7.ar .nil), A9, c9, O9, F7', by rw [hD]; simp, by rw [hER, Ts.app_assoc]; rfl, by rw [Ts.length_app, hEl]; simp [Ts.length], htr, by simp, by rw [e1], ?_, fun φ h => hF7' φ (hFF φ h), ?_, ?_, hS.drop.drop⟩
      · rw [TA.app_ts, Ts.by_ap, hTd]
        congr 1
        show Ts.cons t7.tm.k t7.tm.n t7.tm.s t7.tm.ar .nil = _
        rw [ht7]; rfl
      · exact fun w hw => AllR.app (U := .cons t7.k t7.n t7.s t7.A t7.c t7.ar .nil) ⟨hr7 w hw, trivial⟩ ((hAT.mono hF7') w hw)
      · rw [e1, tcsL_app]; exact hrow9
end Go.Proofs.Ytdflngjfnpbpmab
namespace Go.Proofs.Ytdflngjfnpbpmab
open Go.RowKit Go.ChangeShapes Go.WideShapes Go.ChangeAt
set_option maxRecDepth 100000

theorem Try.laidOut : laidOutB Try.prog = true := by kernel_rfl
theorem Try.own : ownKnob Try.prog.godebug = none := by kernel_rfl
theorem cells_term : Try.prog.cellsOf 39 = 4 := by kernel_rfl
theorem cells_int : Try.prog.cellsOf 3 = 1 := by kernel_rfl
theorem cells_string : Try.prog.cellsOf 9 = 1 := by kernel_rfl
theorem cells_terms : Try.prog.cellsOf 37 = 1 := by kernel_rfl

section
variable {H : Type} {enc : TypeId × Value → H} {w : World} {base : Nat} {spare : Nat → Bool} {held : Bool}

theorem bulk_pos (d : DataW H) : 1 ≤ Rows.uptoBulk d := by
  cases d with
  | lit l => cases l <;> simp [Rows.uptoBulk]
  | nil => simp [Rows.uptoBulk]
  | ptr d => simp [Rows.uptoBulk]
  | slice elems spare => simp [Rows.uptoBulk]
  | agg parts => simp [Rows.uptoBulk]
  | iface t d => simp [Rows.uptoBulk]
  | map entries => simp [Rows.uptoBulk]
  | held h => simp [Rows.uptoBulk]
theorem bulk_mem {l : List (DataW H)} : ∀ {i : Nat} {d : DataW H}, l[i]? = some d → Rows.uptoBulk d ≤ Rows.uptoBulkAll l := by
  induction l with
  | nil => intro i d h; simp at h
  | cons x r ih =>
    intro i d h
    cases i with
    | zero => simp at h; subst h; simp [Rows.uptoBulkAll]
    | succ i =>
      have := ih (i := i) (d := d) (by simpa using h)
      simp only [Rows.uptoBulkAll]; omega

/-- The cells of one term, read. -/
theorem open_cells {fuel : Nat} {cs : List Value} {x : DataW H × List MemPlace} (h : DataW.trod enc Try.prog w base spare held fuel 39 cs = some x) :
    ∃ (k n : Int) (s : ByteArray) (v : Value) (y : DataW H × List MemPlace) (m : Nat), cs = [.int .i64 k, .int .i64 n, .string s, v] ∧ DataW.trod enc Try.prog w base spare held m 37 [v] = some y ∧
      Rows.uptoBulk y.1 + 1 ≤ Rows.uptoBulk x.1 ∧ (Lit.int .i64 k).wf = true ∧ (Lit.int .i64 n).wf = true ∧ s.size ≤ maxLen ∧ s.size + Rows.uptoBulk y.1 + 3 ≤ Rows.uptoBulk x.1 := by
  obtain ⟨xs, m, _, hx, hlen, hxl, hf⟩ := DataW.trod_struct Try.underlying39 h
  rw [cells_term] at hlen
  have f0 : DataW.trod enc Try.prog w base spare held m 3 ((cs.drop 0).take (Try.prog.cellsOf 3)) = xs[0]? := hf 0 _ rfl
  have f1 : DataW.trod enc Try.prog w base spare held m 3 ((cs.drop 1).take (Try.prog.cellsOf 3)) = xs[1]? := hf 1 _ rfl
  have f2 : DataW.trod enc Try.prog w base spare held m 9 ((cs.drop 2).take (Try.prog.cellsOf 9)) = xs[2]? := hf 2 _ rfl
  have f3 : DataW.trod enc Try.prog w base spare held m 37 ((cs.drop 3).take (Try.prog.cellsOf 37)) = xs[3]? := hf 3 _ rfl
  rw [cells_int] at f0 f1
  rw [cells_string] at f2
  rw [cells_terms] at f3
  match cs, hlen, xs, hxl, hx with
  | [c0, c1, c2, c3], _, [y0, y1, y2, y3], _, hx =>
    simp only [List.drop_zero, List.drop_succ_cons, List.take_succ_cons, List.take_zero, List.getElem?_cons_zero, List.getElem?_cons_succ] at f0 f1 f2 f3
    obtain ⟨k, e0, r0, w0⟩ := DataW.trod_int Try.underlying3 f0
    obtain ⟨n, e1, r1, w1⟩ := DataW.trod_int Try.underlying3 f1
    obtain ⟨s, e2, r2, w2⟩ := DataW.trod_string Try.underlying9 f2
    simp only [List.cons.injEq, and_true] at e0 e1 e2
    subst e0 e1 e2 hx r0 r1 r2
    have h3 := bulk_pos y3.1
    have hsz : s.data.toList.length = s.size := by rw [Array.length_toList]; rfl
    refine ⟨k, n, s, c3, y3, m, rfl, f3, ?_, w0, w1, w2, ?_⟩
    · simp only [List.map_cons, List.map_nil, Rows.uptoBulk, Rows.uptoBulkAll]; omega
    · simp only [List.map_cons, List.map_nil, Rows.uptoBulk, Rows.uptoBulkAll]; omega

theorem addr_add {a : Addr} {i : Nat} {u : Value} (h : w.cell? (a.add i) = some u) (ha : a.spot = none) : w.cell? ⟨a.block, a.off + i, none⟩ = some u := by
  unfold Addr.add at h
  split at h
  · rename_i e
    subst e
    obtain ⟨b, o, sp⟩ := a
    simp only at ha
    subst ha
    simpa using h
  · exact h

/-- A slice of terms, read: it is a list of terms, of no more nodes than what was read holds. -/
theorem open_terms : ∀ (b fuel : Nat) (v : Value) (x : DataW H × List MemPlace), Rows.uptoBulk x.1 ≤ b → DataW.trod enc Try.prog w base spare held fuel 37 [v] = some x →
    ∃ T : Ts, Sl w (fun _ => True) v T ∧ T.nodes < Rows.uptoBulk x.1 := by
  intro b
  induction b with
  | zero => intro fuel v x hb _; have := bulk_pos x.1; omega
  | succ b ih =>
    intro fuel v x hb h
    rcases Deep.open_slice Try.underlying37 h with ⟨e, rfl⟩ | ⟨a, len, cap, m, n, D, Pl, e, _, hl, _, hm, rfl, hi⟩
    · simp only [List.cons.injEq, and_true] at e
      subst e
      exact ⟨.nil, Sl.nil _ _, by simp [Rows.uptoBulk, Ts.nodes]⟩
    · simp only [List.cons.injEq, and_true] at e
      subst e
      rw [cells_term] at hi
      have hml : len ≤ m := by rw [hm]; split <;> omega
      have hbulk : ∀ j, j < len → Rows.uptoBulk (D j) ≤ Rows.uptoBulkAll ((List.range len).map D) := fun j hj => bulk_mem (i := j) (by simp [hj])
      simp only [Rows.uptoBulk] at hb ⊢
      have hspot : 0 < len → a.spot = none := fun hp => by
        obtain ⟨cs, hc, ht⟩ := hi 0 (by omega)
        obtain ⟨k, n', s, v', y, m', rfl, _⟩ := open_cells ht
        obtain ⟨_, _, hat⟩ := World.cells?_some hc
        have h0 := hat 0 (by omega)
        simp only [Nat.zero_mul, Addr.add, if_true, List.getElem?_cons_zero] at h0
        unfold World.cell? at h0
        split at h0
        · split at h0
          · cases h0
          · rename_i hs; simpa using hs
        · cases h0
      have key : ∀ r j, j + r = len → ∃ T : Ts, T.length = r ∧ Seg w (fun _ => True) T a.block (a.off + j * 4) ∧ T.nodes ≤ Rows.uptoBulkAll ((List.range' j r).map D) := by
        intro r
        induction r with
        | zero => intro j _; exact ⟨.nil, rfl, trivial, Nat.zero_le _⟩
        | succ r ihr =>
          intro j hj
          obtain ⟨T, hT1, hT2, hT3⟩ := ihr (j + 1) (by omega)
          obtain ⟨cs, hc, ht⟩ := hi j (by omega)
          obtain ⟨k, n', s, v', y, m', rfl, hy, hyb, _⟩ := open_cells ht
          obtain ⟨_, _, hat⟩ := World.cells?_some hc
          have hbj := hbulk j (by omega)
          simp only at hyb
          obtain ⟨U, hU1, hU2⟩ := ih m' v' y (by omega) hy
          have hsp := hspot (by omega)
          have hcell : ∀ q u, q < 4 → [Value.int .i64 k, .int .i64 n', .string s, v'][q]? = some u → w.cell? ⟨a.block, a.off + j * 4 + q, none⟩ = some u := fun q u hq hu => by
            have h1 := (hat q hq).trans hu
            rw [Deep.add_add] at h1
            have h2 := addr_add h1 hsp
            rwa [← Nat.add_assoc] at h2
          refine ⟨.cons k n' s U T, by simp [Ts.length, hT1], ?_, ?_⟩
          · refine seg_cons.2 ⟨trivial, by simpa using hcell 0 _ (by omega) rfl, hcell 1 _ (by omega) rfl, hcell 2 _ (by omega) rfl, ⟨v', hcell 3 _ (by omega) rfl, hU1⟩, ?_⟩
            rw [show a.off + j * 4 + 4 = a.off + (j + 1) * 4 by omega]
            exact hT2
          · simp only [List.range'_succ, List.map_cons, Rows.uptoBulkAll, Ts.nodes]
            omega
      obtain ⟨T, h1, h2, h3⟩ := key len 0 (by omega)
      refine ⟨T, ⟨some a, cap, by rw [h1], by omega, fun hp => ⟨a.block, a.off, ?_, by simpa using h2⟩⟩, ?_⟩
      · have := hspot (by omega)
        obtain ⟨b', o', sp⟩ := a
        simp only at this
        rw [this]
      · rw [← List.range_eq_range'] at h3
        omega
end

/-- One term as an argument. -/
theorem open_term {H : Type} {enc : TypeId × Value → H} {W : World} {base0 : Nat} {v : Value} {d : DataW H} {p : List MemPlace} (hv : Value.okWide Try.prog W .any base0 39 v) (h : DataW.Trod enc Try.prog W 0 (fun _ => true) true 39 v d p) :
    ∃ (k n : Int) (s : ByteArray) (u : Value) (T : Ts), v = .agg #[.int .i64 k, .int .i64 n, .string s, u] ∧ Sl W (fun _ => True) u T ∧ T.nodes + 1 < Rows.uptoBulk d ∧ (Lit.int .i64 k).wf = true ∧ (Lit.int .i64 n).wf = true ∧ s.size ≤ maxLen := by
  obtain ⟨cs, rfl, hsz⟩ := okWide_struct Try.underlying39 hv
  obtain ⟨fuel, hf⟩ := h
  obtain ⟨k, n, s, u, y, m, e, hy, hb, w0, w1, w2, _⟩ := open_cells hf
  obtain ⟨T, h1, h2⟩ := open_terms _ m u y (Nat.le_refl _) hy
  refine ⟨k, n, s, u, T, ?_, h1, by simp only at hb; omega, w0, w1, w2⟩
  have e' : cs.toList = [.int .i64 k, .int .i64 n, .string s, u] := e
  rw [← e']
/-- A slice of terms as an argument. -/
theorem open_termsArg {H : Type} {enc : TypeId × Value → H} {W : World} {v : Value} {d : DataW H} {p : List MemPlace} (hv : v.cells.toList = [v]) (h : DataW.Trod enc Try.prog W 0 (fun _ => true) true 37 v d p) :
    ∃ T : Ts, Sl W (fun _ => True) v T ∧ T.nodes < Rows.uptoBulk d := by
  obtain ⟨fuel, hf⟩ := h
  rw [hv] at hf
  exact open_terms _ fuel v _ (Nat.le_refl _) hf

theorem trodAll_below {H : Type} {enc : TypeId × Value → H} {P : Program} (hl : laidOutB P = true) {W W' : World} (hb : Below W.heap.size W W') : ∀ {ts : List TypeId} {vs : List Value} {ds : List (DataW H)} {ps : List MemPlace}, (∀ t ∈ ts, P.readableRec t = true ∧ t < P.types.size) →
    DataW.TrodAll enc P W 0 (fun _ => true) true ts vs ds ps → (∀ x ∈ ps, x.block < W.heap.size) → DataW.TrodAll enc P W' 0 (fun b => decide (b < W.heap.size)) true ts vs ds ps
  | [], [], [], _, _, h, _ => h
  | [], [], _ :: _, _, _, h, _ => h.elim
  | [], _ :: _, _, _, _, h, _ => h.elim
  | _ :: _, [], _, _, _, h, _ => h.elim
  | _ :: _, _ :: _, [], _, _, h, _ => h.elim
  | t :: ts, v :: vs, d :: ds, ps, ht, ⟨p, q, h1, h2, e⟩, hlt => by
    subst e
    obtain ⟨a, b⟩ := ht t (List.mem_cons_self ..)
    exact ⟨p, q, Below.trod hl a b h1 hb fun x hx => hlt x (List.mem_append_left _ hx), trodAll_below hl hb (fun t ht' => ht t (List.mem_cons_of_mem _ ht')) h2 fun x hx => hlt x (List.mem_append_right _ hx), rfl⟩

/-- Behind a law's walk: it answered true, and of what was there nothing has turned. -/
theorem law_post {H : Type} {enc : TypeId × Value → H} {P : Program} {f : Func} {s : ChangeSpec} {W W' : World} {args : Array Value} {ds gs : List (DataW H)} {before : List MemPlace} (hl : laidOutB P = true) {bt : TypeId}
    (hres : f.resultTypes = #[bt]) (hbt : P.underlying bt = some .bool) (ht : (f.params.toList.all fun t => P.readableRec t && decide (t < P.types.size)) = true) (hvars : s.vars = [])
    (hfn : (s.fn H (ds ++ gs)).results = [.lit (.bool true)] ∧ (s.fn H (ds ++ gs)).args = ds ∧ (s.fn H (ds ++ gs)).vars = [])
    (hW : DataW.Whole enc P f.params.toList s.vars false W args.toList ds gs before) (hb : Below W.heap.size W W') :
    s.post enc P f false true false false W args (.bool true) W' := by
  have hlt := hW.lt
  have hW' := hW
  obtain ⟨p, q, hA, hV, rfl, hfz, hnd⟩ := hW
  refine ⟨ds, gs, p ++ q, [], p, [], hW', ?_, ?_, ?_, ?_, fun h => by cases h⟩
  · rw [hfn.1, hres]
    exact trodAll_cons_mk (shut_bool hbt _) trodAll_mk0
  · rw [hfn.2.1]
    exact trodAll_below hl hb (fun t h => by have := List.all_eq_true.1 ht t h; simpa using this) hA fun x hx => hlt x (List.mem_append_left _ hx)
  · rw [hfn.2.2, hvars]
    rfl
  · exact hb.frame _
end Go.Proofs.Ytdflngjfnpbpmab
namespace Go.Proofs.Ytdflngjfnpbpmab
open Go.RowKit Go.ChangeShapes Go.WideShapes Go.ChangeAt
set_option maxRecDepth 100000
set_option linter.unusedVariables false

theorem cells_cell : Try.prog.cellsOf 68 = 3 := by kernel_rfl
theorem cells_ccells : Try.prog.cellsOf 22 = 1 := by kernel_rfl
theorem cells_ints : Try.prog.cellsOf 23 = 1 := by kernel_rfl
theorem cells_heap : Try.prog.cellsOf 25 = 2 := by kernel_rfl

section
variable {H : Type} {enc : TypeId × Value → H} {w : World} {base : Nat} {spare : Nat → Bool} {held : Bool}
/-- A slice of elements that are read alike. -/
theorem open_flat {α : Type} (f : α → List Value) {sz st el : Nat} (hf : ∀ x, (f x).length = sz) (h0 : 0 < sz) (hst : Try.prog.underlying st = some (.slice el)) (hsz : Try.prog.cellsOf el = sz)
    (hel : ∀ (m : Nat) (cs : List Value) (x : DataW H × List MemPlace), DataW.trod enc Try.prog w base spare held m el cs = some x → ∃ a, cs = f a)
    {fuel : Nat} {v : Value} {x : DataW H × List MemPlace} (h : DataW.trod enc Try.prog w base spare held fuel st [v] = some x) :
    ∃ (L : List α) (A : Option Addr) (c : Nat), v = .slice A L.length c ∧ Flat sz (L.flatMap f) A L.length c w ∧ L.length ≤ 9223372036854775807 ∧ L.length < Rows.uptoBulk x.1 := by
  rcases Deep.open_slice hst h with ⟨e, rfl⟩ | ⟨a, len, cap, m, n, D, Pl, e, _, hl, hcm, hm, rfl, hi⟩
  · simp only [List.cons.injEq, and_true] at e
    subst e
    exact ⟨[], none, 0, rfl, Flat.nil_ _ _ _, by simp, by simp [Rows.uptoBulk]⟩
  · simp only [List.cons.injEq, and_true] at e
    subst e
    rw [hsz] at hi
    have hml : len ≤ m := by rw [hm]; split <;> omega
    have hspot : 0 < len → a.spot = none := fun hp => by
      obtain ⟨cs, hc, ht⟩ := hi 0 (by omega)
      obtain ⟨y, rfl⟩ := hel _ _ _ ht
      obtain ⟨_, _, hat⟩ := World.cells?_some hc
      have h1 := hat 0 (by omega)
      simp only [Nat.zero_mul, Addr.add, if_true] at h1
      rw [List.getElem?_eq_getElem (by rw [hf]; exact h0)] at h1
      unfold World.cell? at h1
      split at h1
      · split at h1
        · cases h1
        · rename_i hs; simpa using hs
      · cases h1
    have key : ∀ r j, j + r = len → ∃ L : List α, L.length = r ∧ (∀ q u, (L.flatMap f)[q]? = some u → w.cell? ⟨a.block, a.off + j * sz + q, none⟩ = some u) ∧ (L.flatMap f).length = r * sz ∧ r ≤ Rows.uptoBulkAll ((List.range' j r).map D) := by
      intro r
      induction r with
      | zero => intro j _; exact ⟨[], rfl, fun q u hq => by simp at hq, by simp, Nat.zero_le _⟩
      | succ r ihr =>
        intro j hj
        obtain ⟨L, hT1, hT2, hT3, hT4⟩ := ihr (j + 1) (by omega)
        obtain ⟨cs, hc, ht⟩ := hi j (by omega)
        obtain ⟨y, rfl⟩ := hel _ _ _ ht
        obtain ⟨_, _, hat⟩ := World.cells?_some hc
        have hsp := hspot (by omega)
        refine ⟨y :: L, by simp [hT1], fun q u hq => ?_, ?_, ?_⟩
        · rw [List.flatMap_cons] at hq
          by_cases hql : q < sz
          · rw [List.getElem?_append_left (by rw [hf]; exact hql)] at hq
            have h1 := (hat q hql).trans hq
            rw [Deep.add_add] at h1
            have h2 := addr_add h1 hsp
            rwa [← Nat.add_assoc] at h2
          · rw [List.getElem?_append_right (by rw [hf]; omega), hf] at hq
            have := hT2 _ _ hq
            rw [Nat.add_mul] at this
            rw [show a.off + j * sz + q = a.off + (j * sz + 1 * sz) + (q - sz) by omega]
            exact this
        · rw [List.flatMap_cons, List.length_append, hT3, hf, Nat.add_mul]; omega
        · simp only [List.range'_succ, List.map_cons, Rows.uptoBulkAll]
          have := bulk_pos (D j)
          omega
    obtain ⟨L, h1, h2, h3, h4⟩ := key len 0 (by omega)
    rw [← List.range_eq_range'] at h4
    refine ⟨L, some a, cap, by rw [h1], ⟨by rw [h3, h1], by omega, fun hp => ⟨a.block, a.off, ?_, by simpa using h2⟩⟩, by rw [h1]; have : maxLen = 9223372036854775807 := rfl; omega, ?_⟩
    · have := hspot (by omega)
      obtain ⟨b', o', sp⟩ := a
      simp only at this
      rw [this]
    · rw [h1]; simp only [Rows.uptoBulk]; omega
theorem open_intC {m : Nat} {cs : List Value} {x : DataW H × List MemPlace} (h : DataW.trod enc Try.prog w base spare held m 3 cs = some x) : ∃ a : Int, cs = [.int .i64 a] := by
  obtain ⟨k, e0, _, _⟩ := DataW.trod_int Try.underlying3 h
  exact ⟨k, e0⟩
theorem open_cellC {m : Nat} {cs : List Value} {x : DataW H × List MemPlace} (h : DataW.trod enc Try.prog w base spare held m 68 cs = some x) : ∃ c : HC, cs = hcs c := by
  obtain ⟨xs, m, _, hx, hlen, hxl, hf⟩ := DataW.trod_struct Try.underlying68 h
  rw [cells_cell] at hlen
  have f0 : DataW.trod enc Try.prog w base spare held m 3 ((cs.drop 0).take (Try.prog.cellsOf 3)) = xs[0]? := hf 0 _ rfl
  have f1 : DataW.trod enc Try.prog w base spare held m 3 ((cs.drop 1).take (Try.prog.cellsOf 3)) = xs[1]? := hf 1 _ rfl
  have f2 : DataW.trod enc Try.prog w base spare held m 9 ((cs.drop 2).take (Try.prog.cellsOf 9)) = xs[2]? := hf 2 _ rfl
  rw [cells_int] at f0 f1
  rw [cells_string] at f2
  match cs, hlen, xs, hxl, hx with
  | [c0, c1, c2], _, [y0, y1, y2], _, hx =>
    simp only [List.drop_zero, List.drop_succ_cons, List.take_succ_cons, List.take_zero, List.getElem?_cons_zero, List.getElem?_cons_succ] at f0 f1 f2
    obtain ⟨k, e0, r0, w0⟩ := DataW.trod_int Try.underlying3 f0
    obtain ⟨n, e1, r1, w1⟩ := DataW.trod_int Try.underlying3 f1
    obtain ⟨s, e2, r2, w2⟩ := DataW.trod_string Try.underlying9 f2
    simp only [List.cons.injEq, and_true] at e0 e1 e2
    subst e0 e1 e2
    exact ⟨⟨k, n, s⟩, rfl⟩
theorem hcsL_flat (L : List HC) : L.flatMap hcs = hcsL L := by
  induction L with
  | nil => rfl
  | cons c r ih => rw [List.flatMap_cons, ih]; rfl
theorem intsV_flat (L : List Int) : (L.flatMap fun x => [Value.int .i64 x]) = intsV L := by
  induction L with
  | nil => rfl
  | cons c r ih => rw [List.flatMap_cons, ih]; rfl
theorem open_intsT {fuel : Nat} {v : Value} {x : DataW H × List MemPlace} (h : DataW.trod enc Try.prog w base spare held fuel 23 [v] = some x) :
    ∃ (L : List Int) (A : Option Addr) (c : Nat), v = .slice A L.length c ∧ Flat 1 (intsV L) A L.length c w ∧ L.length ≤ 9223372036854775807 ∧ L.length < Rows.uptoBulk x.1 := by
  have := open_flat (α := Int) (fun x => [Value.int .i64 x]) (sz := 1) (fun _ => rfl) (by omega) Try.underlying23 cells_int (fun m cs x h => open_intC h) h
  simpa only [intsV_flat] using this
theorem open_cellsT {fuel : Nat} {v : Value} {x : DataW H × List MemPlace} (h : DataW.trod enc Try.prog w base spare held fuel 22 [v] = some x) :
    ∃ (L : List HC) (A : Option Addr) (c : Nat), v = .slice A L.length c ∧ Flat 3 (hcsL L) A L.length c w ∧ L.length ≤ 9223372036854775807 ∧ L.length < Rows.uptoBulk x.1 := by
  have := open_flat (α := HC) hcs (sz := 3) (fun _ => rfl) (by omega) Try.underlying22 cells_cell (fun m cs x h => open_cellC h) h
  simpa only [hcsL_flat] using this
end
/-- A list of numbers, as an argument. -/
theorem open_intsArg {H : Type} {enc : TypeId × Value → H} {W : World} {v : Value} {d : DataW H} {p : List MemPlace} (hv : v.cells.toList = [v]) (h : DataW.Trod enc Try.prog W 0 (fun _ => true) true 23 v d p) :
    ∃ (L : List Int) (A : Option Addr) (c : Nat), v = .slice A L.length c ∧ Flat 1 (intsV L) A L.length c W ∧ L.length ≤ 9223372036854775807 ∧ L.length < Rows.uptoBulk d := by
  obtain ⟨fuel, hf⟩ := h
  rw [hv] at hf
  exact open_intsT hf
/-- A list of cells, as an argument. -/
theorem open_cellsArg {H : Type} {enc : TypeId × Value → H} {W : World} {v : Value} {d : DataW H} {p : List MemPlace} (hv : v.cells.toList = [v]) (h : DataW.Trod enc Try.prog W 0 (fun _ => true) true 22 v d p) :
    ∃ (L : List HC) (A : Option Addr) (c : Nat), v = .slice A L.length c ∧ Flat 3 (hcsL L) A L.length c W ∧ L.length ≤ 9223372036854775807 ∧ L.length < Rows.uptoBulk d := by
  obtain ⟨fuel, hf⟩ := h
  rw [hv] at hf
  exact open_cellsT hf
/-- A heap, as an argument. -/
theorem open_heapArg {H : Type} {enc : TypeId × Value → H} {W : World} {b : Nat} {v : Value} {d : DataW H} {p : List MemPlace} (hok : Value.okWide Try.prog W .any b 25 v) (h : DataW.Trod enc Try.prog W 0 (fun _ => true) true 25 v d p) :
    ∃ (h : HH) (A : Option Addr) (c : Nat) (B : Option Addr) (e : Nat), v = hv h A c B e ∧ HFl h A c B e W ∧ h.cs.length ≤ 9223372036854775807 ∧ h.tr.length ≤ 9223372036854775807 ∧ h.cs.length + h.tr.length < Rows.uptoBulk d := by
  obtain ⟨fuel, h⟩ := h
  obtain ⟨cs, rfl, hsz⟩ := okWide_struct Try.underlying25 hok
  obtain ⟨xs, m, _, hx, hlen, hxl, hf⟩ := DataW.trod_struct Try.underlying25 h
  rw [cells_heap] at hlen
  obtain ⟨cs⟩ := cs
  replace hf : ∀ i fd, _ → _ := hf
  have f0 : DataW.trod enc Try.prog W 0 (fun _ => true) true m 22 ((cs.drop 0).take (Try.prog.cellsOf 22)) = xs[0]? := hf 0 _ rfl
  have f1 : DataW.trod enc Try.prog W 0 (fun _ => true) true m 23 ((cs.drop 1).take (Try.prog.cellsOf 23)) = xs[1]? := hf 1 _ rfl
  rw [cells_ccells] at f0
  rw [cells_ints] at f1
  replace hlen : cs.length = 2 := hlen
  match cs, hlen, xs, hxl, hx with
  | [c0, c1], _, [y0, y1], _, hx =>
    simp only [List.drop_zero, List.drop_succ_cons, List.take_succ_cons, List.take_zero, List.getElem?_cons_zero, List.getElem?_cons_succ] at f0 f1
    obtain ⟨L, A, c, rfl, hL, hl, hlb⟩ := open_cellsT f0
    obtain ⟨T, B, e, rfl, hT, ht, htb⟩ := open_intsT f1
    have hd := congrArg (fun q => Rows.uptoBulk q.1) hx
    simp only [List.map_cons, List.map_nil, Rows.uptoBulk, Rows.uptoBulkAll] at hd
    exact ⟨⟨L, T⟩, A, c, B, e, rfl, ⟨hL, hT⟩, hl, ht, by show L.length + T.length < _; omega⟩
end Go.Proofs.Ytdflngjfnpbpmab
namespace Go.Proofs.Ytdflngjfnpbpmab
open Go.RowKit Go.ChangeShapes Go.WideShapes Go.ChangeAt
set_option maxRecDepth 100000

theorem cells_clause : Try.prog.cellsOf 57 = 6 := by kernel_rfl

section
variable {H : Type} {enc : TypeId × Value → H} {w : World} {base : Nat} {spare : Nat → Bool} {held : Bool}

/-- The cells of one clause, read. -/
theorem open_ccells {fuel : Nat} {cs : List Value} {x : DataW H × List MemPlace} (h : DataW.trod enc Try.prog w base spare held fuel 57 cs = some x) :
    ∃ (k n vars : Int) (s : ByteArray) (u v : Value) (T B : Ts), cs = [.int .i64 k, .int .i64 n, .string s, u, v, .int .i64 vars] ∧ Sl w (fun _ => True) u T ∧ Sl w (fun _ => True) v B ∧ T.nodes + B.nodes + 1 < Rows.uptoBulk x.1 := by
  obtain ⟨xs, m, _, hx, hlen, hxl, hf⟩ := DataW.trod_struct Try.underlying57 h
  rw [cells_clause] at hlen
  have f0 : DataW.trod enc Try.prog w base spare held m 39 ((cs.drop 0).take (Try.prog.cellsOf 39)) = xs[0]? := hf 0 _ rfl
  have f1 : DataW.trod enc Try.prog w base spare held m 37 ((cs.drop 4).take (Try.prog.cellsOf 37)) = xs[1]? := hf 1 _ rfl
  have f2 : DataW.trod enc Try.prog w base spare held m 3 ((cs.drop 5).take (Try.prog.cellsOf 3)) = xs[2]? := hf 2 _ rfl
  rw [cells_term] at f0
  rw [cells_terms] at f1
  rw [cells_int] at f2
  match cs, hlen, xs, hxl, hx with
  | [c0, c1, c2, c3, c4, c5], _, [y0, y1, y2], _, hx =>
    simp only [List.drop_zero, List.drop_succ_cons, List.take_succ_cons, List.take_zero, List.getElem?_cons_zero, List.getElem?_cons_succ] at f0 f1 f2
    obtain ⟨k, n, s, u, y, m', e0, hy, hb, _, _, _, _⟩ := open_cells f0
    simp only [List.cons.injEq, and_true] at e0
    obtain ⟨rfl, rfl, rfl, rfl⟩ := e0
    obtain ⟨T, h1, h2⟩ := open_terms _ m' _ y (Nat.le_refl _) hy
    obtain ⟨B, h3, h4⟩ := open_terms _ m _ y1 (Nat.le_refl _) f1
    obtain ⟨vars, e2, _, _⟩ := DataW.trod_int Try.underlying3 f2
    simp only [List.cons.injEq, and_true] at e2
    subst e2 hx
    refine ⟨k, n, vars, s, _, _, T, B, rfl, h1, h3, ?_⟩
    simp only [List.map_cons, List.map_nil, Rows.uptoBulk, Rows.uptoBulkAll]
    omega

end
end Go.Proofs.Ytdflngjfnpbpmab
namespace Go.Proofs.Ytdflngjfnpbpmab
open Go.RowKit Go.ChangeShapes Go.WideShapes Go.ChangeAt
set_option maxRecDepth 100000
section
variable {H : Type} {enc : TypeId × Value → H} {w : World} {base : Nat} {spare : Nat → Bool} {held : Bool}
/-- A slice of terms, read: it is a list of terms, of no more nodes than what was read holds. -/
theorem open_termsW : ∀ (b fuel : Nat) (v : Value) (x : DataW H × List MemPlace), Rows.uptoBulk x.1 ≤ b → DataW.trod enc Try.prog w base spare held fuel 37 [v] = some x →
    ∃ T : Ts, Sl w (fun _ => True) v T ∧ T.length ≤ 9223372036854775807 ∧ T.wide := by
  intro b
  induction b with
  | zero => intro fuel v x hb _; have := bulk_pos x.1; omega
  | succ b ih =>
    intro fuel v x hb h
    rcases Deep.open_slice Try.underlying37 h with ⟨e, rfl⟩ | ⟨a, len, cap, m, n, D, Pl, e, _, hl, hcm, hm, rfl, hi⟩
    · simp only [List.cons.injEq, and_true] at e
      subst e
      exact ⟨.nil, Sl.nil _ _, by simp [Ts.length], trivial⟩
    · simp only [List.cons.injEq, and_true] at e
      subst e
      rw [cells_term] at hi
      have hml : len ≤ m := by rw [hm]; split <;> omega
      have hbulk : ∀ j, j < len → Rows.uptoBulk (D j) ≤ Rows.uptoBulkAll ((List.range len).map D) := fun j hj => bulk_mem (i := j) (by simp [hj])
      simp only [Rows.uptoBulk] at hb ⊢
      have hspot : 0 < len → a.spot = none := fun hp => by
        obtain ⟨cs, hc, ht⟩ := hi 0 (by omega)
        obtain ⟨k, n', s, v', y, m', rfl, _⟩ := open_cells ht
        obtain ⟨_, _, hat⟩ := World.cells?_some hc
        have h0 := hat 0 (by omega)
        simp only [Nat.zero_mul, Addr.add, if_true, List.getElem?_cons_zero] at h0
        unfold World.cell? at h0
        split at h0
        · split at h0
          · cases h0
          · rename_i hs; simpa using hs
        · cases h0
      have key : ∀ r j, j + r = len → ∃ T : Ts, T.length = r ∧ Seg w (fun _ => True) T a.block (a.off + j * 4) ∧ T.wide := by
        intro r
        induction r with
        | zero => intro j _; exact ⟨.nil, rfl, trivial, trivial⟩
        | succ r ihr =>
          intro j hj
          obtain ⟨T, hT1, hT2, hT3⟩ := ihr (j + 1) (by omega)
          obtain ⟨cs, hc, ht⟩ := hi j (by omega)
          obtain ⟨k, n', s, v', y, m', rfl, hy, hyb, _⟩ := open_cells ht
          obtain ⟨_, _, hat⟩ := World.cells?_some hc
          have hbj := hbulk j (by omega)
          simp only at hyb
          obtain ⟨U, hU1, hU2, hU3⟩ := ih m' v' y (by omega) hy
          have hsp := hspot (by omega)
          have hcell : ∀ q u, q < 4 → [Value.int .i64 k, .int .i64 n', .string s, v'][q]? = some u → w.cell? ⟨a.block, a.off + j * 4 + q, none⟩ = some u := fun q u hq hu => by
            have h1 := (hat q hq).trans hu
            rw [Deep.add_add] at h1
            have h2 := addr_add h1 hsp
            rwa [← Nat.add_assoc] at h2
          refine ⟨.cons k n' s U T, by simp [Ts.length, hT1], ?_, ?_⟩
          · refine seg_cons.2 ⟨trivial, by simpa using hcell 0 _ (by omega) rfl, hcell 1 _ (by omega) rfl, hcell 2 _ (by omega) rfl, ⟨v', hcell 3 _ (by omega) rfl, hU1⟩, ?_⟩
            rw [show a.off + j * 4 + 4 = a.off + (j + 1) * 4 by omega]
            exact hT2
          · exact ⟨hU2, hU3, hT3⟩
      obtain ⟨T, h1, h2, h3⟩ := key len 0 (by omega)
      refine ⟨T, ⟨some a, cap, by rw [h1], by omega, fun hp => ⟨a.block, a.off, ?_, by simpa using h2⟩⟩, by rw [h1]; have : maxLen = 9223372036854775807 := rfl; omega, h3⟩
      have := hspot (by omega)
      obtain ⟨b', o', sp⟩ := a
      simp only at this
      rw [this]
/-- The cells of one clause, read. -/
theorem open_ccellsW {fuel : Nat} {cs : List Value} {x : DataW H × List MemPlace} (h : DataW.trod enc Try.prog w base spare held fuel 57 cs = some x) :
    ∃ (k n vars : Int) (s : ByteArray) (u v : Value) (T B : Ts), cs = [.int .i64 k, .int .i64 n, .string s, u, v, .int .i64 vars] ∧ Sl w (fun _ => True) u T ∧ Sl w (fun _ => True) v B ∧ T.length ≤ 9223372036854775807 ∧ T.wide ∧ B.length ≤ 9223372036854775807 ∧ B.wide := by
  obtain ⟨xs, m, _, hx, hlen, hxl, hf⟩ := DataW.trod_struct Try.underlying57 h
  rw [cells_clause] at hlen
  have f0 : DataW.trod enc Try.prog w base spare held m 39 ((cs.drop 0).take (Try.prog.cellsOf 39)) = xs[0]? := hf 0 _ rfl
  have f1 : DataW.trod enc Try.prog w base spare held m 37 ((cs.drop 4).take (Try.prog.cellsOf 37)) = xs[1]? := hf 1 _ rfl
  have f2 : DataW.trod enc Try.prog w base spare held m 3 ((cs.drop 5).take (Try.prog.cellsOf 3)) = xs[2]? := hf 2 _ rfl
  rw [cells_term] at f0
  rw [cells_terms] at f1
  rw [cells_int] at f2
  match cs, hlen, xs, hxl, hx with
  | [c0, c1, c2, c3, c4, c5], _, [y0, y1, y2], _, hx =>
    simp only [List.drop_zero, List.drop_succ_cons, List.take_succ_cons, List.take_zero, List.getElem?_cons_zero, List.getElem?_cons_succ] at f0 f1 f2
    obtain ⟨k, n, s, u, y, m', e0, hy, hb, _, _, _, _⟩ := open_cells f0
    simp only [List.cons.injEq, and_true] at e0
    obtain ⟨rfl, rfl, rfl, rfl⟩ := e0
    obtain ⟨T, h1, h2, h2w⟩ := open_termsW _ m' _ y (Nat.le_refl _) hy
    obtain ⟨B, h3, h4, h4w⟩ := open_termsW _ m _ y1 (Nat.le_refl _) f1
    obtain ⟨vars, e2, _, _⟩ := DataW.trod_int Try.underlying3 f2
    simp only [List.cons.injEq, and_true] at e2
    subst e2 hx
    exact ⟨k, n, vars, s, _, _, T, B, rfl, h1, h3, h2, h2w, h4, h4w⟩

end
theorem open_termsArgW {H : Type} {enc : TypeId × Value → H} {W : World} {v : Value} {d : DataW H} {p : List MemPlace} (hv : v.cells.toList = [v]) (h : DataW.Trod enc Try.prog W 0 (fun _ => true) true 37 v d p) :
    ∃ T : Ts, Sl W (fun _ => True) v T ∧ T.length ≤ 9223372036854775807 ∧ T.wide := by
  obtain ⟨fuel, hf⟩ := h
  rw [hv] at hf
  exact open_termsW _ fuel v _ (Nat.le_refl _) hf
end Go.Proofs.Ytdflngjfnpbpmab
namespace Go.Proofs.Ytdflngjfnpbpmab
open Go.RowKit Go.ChangeShapes Go.WideShapes Go.ChangeAt
set_option maxRecDepth 100000

/-- A clause, as an argument. -/
theorem open_clauseArgW {H : Type} {enc : TypeId × Value → H} {W : World} {b : Nat} {v : Value} {d : DataW H} {p : List MemPlace} (hv : Value.okWide Try.prog W .any b 57 v) (h : DataW.Trod enc Try.prog W 0 (fun _ => true) true 57 v d p) :
    ∃ (c : Cl) (u x : Value), v = .agg #[.int .i64 c.k, .int .i64 c.n, .string c.s, u, x, .int .i64 c.vars] ∧ Sl W (fun _ => True) u c.hd ∧ Sl W (fun _ => True) x c.bd ∧ ClsWide [c] := by
  obtain ⟨fuel, h⟩ := h
  obtain ⟨cs, rfl, hsz⟩ := okWide_struct Try.underlying57 hv
  obtain ⟨k, n, vars, s, u, x, T, B, e, h1, h2, h3⟩ := open_ccellsW h
  refine ⟨⟨k, n, s, T, B, vars⟩, u, x, ?_, h1, h2, fun c hc => ?_⟩
  · congr 1
    exact Array.toList_inj.1 e
  · rw [List.mem_singleton.1 hc]; exact h3
end Go.Proofs.Ytdflngjfnpbpmab
