/-
  Program and Query, walked: what is read of every text.
-/
import Derived.Test.YtdiophafmokfiaaGreatDoorRWalk5
namespace Go.Proofs.YtdiophafmokfiaaGreatDoor
open Go.RowKit
set_option linter.unusedVariables false
set_option maxRecDepth 100000
set_option maxHeartbeats 1000000

theorem term_lt (num : Str → Option Int) (d : Nat) (s : RS) (h : s.token ≠ []) : (termM num (d + 1) s).2.left < s.left := by
  cases ht : s.token with
  | nil => exact absurd ht h
  | cons c r =>
    have h1 := adv_lt s h
    rw [termM_cons num d ht]
    split
    · have := (var_left s.adv (c :: r)).1
      simp only; omega
    split
    · have h4 := take_left s.adv [40]
      have h6 := (terms_less (term_less num d) (s.adv.take [40])).1
      have h7 := take_left (termsM (termM num d) (s.adv.take [40])).2 [41]
      simp only; omega
    split
    · simp only; omega
    split
    · have := (number_left num s.adv (c :: r)).1
      simp only; omega
    · simp only [fail_left]; omega
theorem clause_lt (num : Str → Option Int) (s : RS) (h : s.token ≠ []) : (clauseM num s).2.left < s.left := by
  have h1 : (termM num 24 ⟨s.token, s.rest, [], s.err⟩).2.left < _ := term_lt num 23 ⟨s.token, s.rest, [], s.err⟩ h
  have h2 : (RS.mk s.token s.rest [] s.err).left = s.left := rfl
  simp only [clauseM]
  have h3 := (body_few num (termM num 24 ⟨s.token, s.rest, [], s.err⟩).2).2.1
  have h4 := take_left (bodyM num (termM num 24 ⟨s.token, s.rest, [], s.err⟩).2).2 [46]
  split
  · omega
  · simp only [fail_left]; omega
section
variable (num : Str → Option Int)
def progLoop : Nat → RS → List Cl × RS
  | 0, s => ([], s)
  | n + 1, s => if s.token = [] then ([], s) else ((clauseM num s).1 :: (progLoop n (clauseM num s).2).1, (progLoop n (clauseM num s).2).2)
theorem prog_fuel : ∀ (n : Nat) (s : RS), s.left ≤ n → progLoop num n s = progLoop num s.left s := by
  intro n
  induction n using Nat.strongRecOn with
  | _ n ih =>
    intro s hn
    by_cases ht : s.token = []
    · have h0 : ∀ k, progLoop num k s = ([], s) := fun k => by cases k <;> simp [progLoop, ht]
      rw [h0, h0]
    · have h1 := clause_lt num s ht
      obtain ⟨m, rfl⟩ : ∃ m, n = m + 1 := ⟨n - 1, by omega⟩
      obtain ⟨l, hl⟩ : ∃ l, s.left = l + 1 := ⟨s.left - 1, by omega⟩
      rw [hl]
      simp only [progLoop, if_neg ht]
      rw [ih m (by omega) _ (by omega), ih l (by omega) _ (by omega)]
theorem prog_step {s : RS} (ht : ¬ s.token = []) : progLoop num s.left s = ((clauseM num s).1 :: (progLoop num (clauseM num s).2.left (clauseM num s).2).1, (progLoop num (clauseM num s).2.left (clauseM num s).2).2) := by
  have h1 := clause_lt num s ht
  obtain ⟨l, hl⟩ : ∃ l, s.left = l + 1 := ⟨s.left - 1, by omega⟩
  rw [hl]
  simp only [progLoop, if_neg ht]
  rw [prog_fuel num l _ (by omega)]
theorem prog_stop {s : RS} (ht : s.token = []) : progLoop num s.left s = ([], s) := by
  cases s.left <;> simp [progLoop, ht]
def programM (l : Str) : List Cl × Int :=
  let p := progLoop num (RS.start l).left (RS.start l)
  let s := if 24 < p.1.length then p.2.fail 3 else p.2
  if s.err = 0 then (p.1, 0) else ([], s.err)
end
theorem start_left (l : Str) : (RS.start l).left ≤ l.length ∧ (RS.start l).vars = [] := by
  unfold RS.start
  split
  · have := adv_left (RS.fail ⟨[], l, [], 0⟩ 3)
    rw [adv_vars]
    exact ⟨by simp [RS.fail] at this ⊢; omega, rfl⟩
  · have := adv_left ⟨[], l, [], 0⟩
    rw [adv_vars]
    exact ⟨this, rfl⟩
theorem start_short (l : Str) : (RS.start l).left ≤ 2000 := by
  have h1 := (start_left l).1
  by_cases h : 2000 < l.length
  · have h2 : (RS.start l).left = 0 := by unfold RS.start; rw [if_pos h]; rfl
    omega
  · omega
/-- Clauses as cells. -/
def ClCells (w : World) : List Cl → List Value → Prop
  | [], xs => xs = []
  | c :: r, xs => ∃ u v ys, xs = .int .i64 c.k :: .int .i64 c.n :: .string c.s :: u :: v :: .int .i64 c.vars :: ys ∧ Sl w (fun _ => True) u c.hd ∧ Sl w (fun _ => True) v c.bd ∧ ClCells w r ys
theorem ClCells.app {w : World} : ∀ {a b : List Cl} {xs ys : List Value}, ClCells w a xs → ClCells w b ys → ClCells w (a ++ b) (xs ++ ys)
  | [], b, xs, ys, h, h2 => by rw [show xs = [] from h]; exact h2
  | c :: a, b, xs, ys, ⟨u, v, zs, e, h3, h4, h5⟩, h2 => ⟨u, v, zs ++ ys, by rw [e]; rfl, h3, h4, h5.app h2⟩
theorem ClCells.seg {w : World} : ∀ {L : List Cl} {xs : List Value} {b o : Nat}, ClCells w L xs → (∀ j u, xs[j]? = some u → w.cell? ⟨b, o + j, none⟩ = some u) → SegC w (fun _ => True) L b o
  | [], _, _, _, _, _ => trivial
  | c :: r, xs, b, o, ⟨u, v, ys, e, h3, h4, h5⟩, hc => by
    subst e
    refine ⟨trivial, hc 0 _ rfl, hc 1 _ rfl, hc 2 _ rfl, ⟨u, hc 3 _ rfl, h3⟩, ⟨v, hc 4 _ rfl, h4⟩, hc 5 _ rfl, ClCells.seg h5 fun j x hj => ?_⟩
    have := hc (j + 6) x (by simpa using hj)
    rwa [show o + (j + 6) = o + 6 + j by omega] at this
section
variable {M : List Nat} {w0 : World} {H : List (Nat × Obj)} {F : List (World → Prop)}
theorem St.shutC {v : Value} {xs : List Value} {O : List (Nat × Obj)} {L : List Cl} {w : World} {el : Nat} (hr : Row el 6 v L.length xs O) (hS : St M w0 (O ++ H) ((fun w => ClCells w L xs) :: F) w) :
    St M w0 H ((fun w => SlC w (fun _ => True) v L) :: F) w := by
  have hC := hS.facts _ (List.mem_cons_self ..)
  have hb := (hS.unlearn.dropL).learn (φ := fun w => SlC w (fun _ => True) v L) fun w' hx => ?_
  · exact hb
  generalize hl : L.length = tl at hr
  cases hr with
  | nil_ => exact ⟨none, 0, by rw [hl], by omega, fun h => by omega⟩
  | own_ h1 h2 h3 hcp =>
    rename_i bl cap sp
    have hbl : w.heap[bl]? = some (.cells (xs ++ sp).toArray el) := hS.own (bl, _) (by simp)
    have hnk : bl ∉ H.map (·.1) := fun hk => by
      obtain ⟨q, hq, e⟩ := List.mem_map.1 hk
      exact (List.pairwise_cons.1 hS.apart).1 q hq e.symm
    have hbl' : w'.heap[bl]? = some (.cells (xs ++ sp).toArray el) := by rw [hx.block bl (own_lt hbl) hnk]; exact hbl
    have hcs := hC w' (hx.mono fun k _ hk => by simp at hk ⊢; exact .inr hk)
    refine ⟨_, cap, by rw [hl], by omega, fun _ => ⟨bl, 0, rfl, ClCells.seg hcs fun j u hj => ?_⟩⟩
    have hjl : j < xs.length := by
      rcases Nat.lt_or_ge j xs.length with h | h
      · exact h
      · rw [List.getElem?_eq_none h] at hj; cases hj
    rw [cell_own hbl', Nat.zero_add, List.getElem?_append_left hjl]; exact hj
theorem program_r (num : Str → Option Int) (G : World → Prop) (L1 : Lib1) (L2 : Lib2) (L3 : Lib3 num G) (l : Str) (w : World) (hG : ∀ w', Ext M w0 w' → G w') (hl : l.length ≤ 1125899906842624) (hS : St M w0 H F w) :
    Calls Tryz.prog 5 #[sv l] w fun e w' => ∃ v, e = .returned (.tuple #[v, .int .i64 (programM num l).2]) ∧ St M w0 H ((fun w => SlC w (fun _ => True) v (programM num l).1) :: F) w' := by
  have hst := start_left l
  have hsh := start_short l
  refine goes_enter1 Tryz.func5 rfl Tryz.ntmps5 rfl ?_
  refine goes_seq ?_
  refine goes_region ?_
  refine lst_run (run_assign (by conv => lhs; whnf)) rfl ?_
  refine lst_run (run_assign (by conv => lhs; whnf)) rfl ?_
  refine lst_done ?_
  refine goes_seq ?_
  refine goes_region ?_
  refine lst_run (run_move (by conv => lhs; whnf)) rfl ?_
  refine lst_enter (run_call (by kernel_rfl) (args_1 (by conv => lhs; whnf))) rfl ?_
  refine Calls.mono (newReader_any L1 L2 l _ (by omega) hS) ?_
  rintro _ w1 ⟨b, rfl, hS'⟩
  refine ⟨_, rfl, ?_⟩
  replace hS := hS'
  clear hS'
  refine lst_run (run_assign (by conv => lhs; whnf)) rfl ?_
  refine lst_done ?_
  refine goes_seq ?_
  refine goes_region ?_
  refine lst_run (run_assign (by conv => lhs; whnf)) rfl ?_
  refine lst_done ?_
  refine goes_seq ?_
  refine goes_block ?_
  refine goes_loop1 5 (8 :: 9 :: 10 :: 11 :: 12 :: 13 :: 14 :: 15 :: 16 :: 17 :: []) (fun (x : List Cl × RS) v w' => ∃ V VH O xs, Vars x.2.vars V VH ∧ Row 44 6 v x.1.length xs O ∧ St M w0 ((b, rdr x.2 V) :: (VH ++ (O ++ H))) ((fun w => ClCells w x.1 xs) :: F) w' ∧ x.1.length + x.2.left < 1048576 ∧ progLoop num (RS.start l).left (RS.start l) = (x.1 ++ (progLoop num x.2.left x.2).1, (progLoop num x.2.left x.2).2)) (fun x => x.2.left) (([], RS.start l)) ?_ (by conv => lhs; whnf) ?_
  · exact ⟨_, [], [], [], by rw [hst.2]; exact Row.nil_, Row.nil_, hS.learn (fun _ _ => rfl), by simp; omega, rfl⟩
  clear hS
  rintro ⟨D, s2⟩ v2 w2 jv ⟨V2, VH2, O2, xs2, hV2, hR2, hS, hD1, hi⟩ ih
  simp only at hV2 hR2 hS hD1 hi
  obtain ⟨A2, c2, rfl⟩ := hV2.form
  obtain ⟨Ao, co, rfl⟩ := hR2.form
  refine goes_seq ?_
  refine goes_seq ?_
  refine goes_region ?_
  refine lst_run (run_move (by conv => lhs; whnf)) rfl ?_
  refine lst_run (run_nilCheck rfl) rfl ?_
  refine lst_run (run_fieldAddr (off := 0) rfl rfl) rfl ?_
  first
    | refine lst_run (run_load1_own hS rfl rfl (by first | exact .head | exact .tail .head | exact .tail (.tail .head) | exact .tail (.tail (.tail .head)) | exact .tail (.tail (.tail (.tail .head))) | exact .tail (.tail (.tail (.tail (.tail .head))))) (by repeat constructor)) rfl ?_
    | refine lst_run (run_load1 rfl rfl (by first | assumption | exact hS.cell0 (by assumption) | exact lv_next hS | exact lv_list hS)) rfl ?_
  first
    | refine lst_run (run_neq_str rfl rfl) rfl ?_
    | refine lst_run (rfl) rfl ?_
  refine lst_done ?_
  refine goes_if rfl (fun h => ?_) (fun h => ?_)
  · have h' : ¬ s2.token = [] := by simpa using h
    have hlt := clause_lt num s2 h'
    have hst2 := prog_step num h'
    refine goes_skip ?_
    refine goes_block ?_
    refine goes_region ?_
    refine lst_run (run_move (by conv => lhs; whnf)) rfl ?_
    refine lst_run (run_move (by conv => lhs; whnf)) rfl ?_
    refine lst_enter (run_call (by kernel_rfl) (args_1 (by conv => lhs; whnf))) rfl ?_
    refine Calls.mono (clause_r num G L1 L2 L3 s2 _ VH2 M w0 _ (O2 ++ H) _ b hG (by omega) hV2 hS) ?_
    rintro _ w4 ⟨u, v, V3, VH3, rfl, hV3, hS'⟩
    refine ⟨_, rfl, ?_⟩
    replace hS := hS'
    clear hS'
    obtain ⟨A3, c3, rfl, _⟩ := (hS.fact (.head _)).form
    obtain ⟨A4, c4, rfl, _⟩ := (hS.fact (.tail _ (.head _))).form
    generalize clauseM num s2 = r3 at *
    obtain ⟨cl3, s3⟩ := r3
    simp only at *
    refine lst_buildSlice (cells := [_, _, _, _, _, _]) hS (.cons (by conv => lhs; whnf) .nil) rfl rfl ?_
    clear hS
    intro b1 wx1 hS
    refine lst_app (sz := 6) (bts := 88) hS (by conv => lhs; whnf) rfl rfl rfl rfl (hR2) rfl rfl (.cons _ (List.perm_append_comm_assoc (_ :: VH3) O2 H)) (by omega) (by omega) rfl ?_
    clear hS
    intro v4 O4 w5 hR4 hS
    replace hS := (hS.perm (List.perm_append_comm_assoc O4 ((b, rdr s3 V3) :: VH3) H)).conv2 (ψ := fun w => Sl w (fun _ => True) (.slice A4 cl3.hd.length c4) cl3.hd ∧ Sl w (fun _ => True) (.slice A3 cl3.bd.length c3) cl3.bd) fun w h1 h2 => ⟨h2, h1⟩
    replace hS := hS.conv2 (ψ := fun w => ClCells w (D ++ [cl3]) (xs2 ++ [.int .i64 cl3.k, .int .i64 cl3.n, .string cl3.s, .slice A4 cl3.hd.length c4, .slice A3 cl3.bd.length c3, .int .i64 cl3.vars])) fun w h1 h2 => h2.app ⟨_, _, [], rfl, h1.1, h1.2, rfl⟩
    obtain ⟨A5, c5, rfl⟩ := hR4.form
    refine lst_run (run_assign (by conv => lhs; whnf)) rfl ?_
    refine lst_done ?_
    refine goes_inBlock ?_
    refine ih ((D ++ [cl3], s3)) _ _ _ ?_ ?_ (by conv => lhs; whnf) (by kernel_rfl)
    · simp only; omega
    · refine ⟨V3, VH3, O4, _, hV3, ?_, hS, ?_, ?_⟩
      · simp only [List.length_append, List.length_cons, List.length_nil]; exact hR4
      · simp only [List.length_append, List.length_cons, List.length_nil]; omega
      · simp only; rw [hi, hst2]; simp
  · have h' : s2.token = [] := by simpa using h
    rw [prog_stop num h', List.append_nil] at hi
    simp only at hi
    have hno : ∀ w, SlC w (fun _ => True) (.slice none 0 0) [] := fun w => ⟨none, 0, rfl, Nat.le_refl _, fun h => by cases h⟩
    by_cases h24 : 24 < D.length
    · have herr : (s2.fail 3).err ≠ 0 := by simp only [RS.fail]; split <;> omega
      have e : programM num l = ([], (s2.fail 3).err) := by
        simp only [programM]; rw [hi]; simp only [if_pos h24]; rw [if_neg herr]
      refine goes_exit rfl ?_
      refine goes_seq ?_
      refine goes_seq ?_
      refine goes_region ?_
      refine lst_run (run_move (by conv => lhs; whnf)) rfl ?_
      refine lst_run (run_len_slice rfl rfl rfl) rfl ?_
      first
        | refine lst_run (run_gtr_yes rfl rfl (by omega)) rfl ?_
        | refine lst_run (run_gtr_no rfl rfl (by omega)) rfl ?_
        | refine lst_run (rfl) rfl ?_
      refine lst_done ?_
      refine goes_true rfl ?_
      refine goes_region ?_
      refine lst_run (run_move (by conv => lhs; whnf)) rfl ?_
      refine lst_enter (run_call (by kernel_rfl) (args_2 (by conv => lhs; whnf) (by conv => lhs; whnf))) rfl ?_
      refine Calls.mono (fail_any s2 3 _ hS) ?_
      rintro _ w3 ⟨rfl, hS'⟩
      refine ⟨_, rfl, ?_⟩
      replace hS := hS'
      clear hS'
      refine lst_done ?_
      refine goes_seq ?_
      refine goes_seq ?_
      refine goes_region ?_
      refine lst_run (run_move (by conv => lhs; whnf)) rfl ?_
      refine lst_run (run_nilCheck rfl) rfl ?_
      refine lst_run (run_fieldAddr (off := 3) rfl rfl) rfl ?_
      first
        | refine lst_run (run_load1_own hS rfl rfl (by first | exact .head | exact .tail .head | exact .tail (.tail .head) | exact .tail (.tail (.tail .head)) | exact .tail (.tail (.tail (.tail .head))) | exact .tail (.tail (.tail (.tail (.tail .head))))) (by repeat constructor)) rfl ?_
        | refine lst_run (run_load1 rfl rfl (by first | assumption | exact hS.cell0 (by assumption) | exact lv_next hS | exact lv_list hS)) rfl ?_
      first
        | refine lst_run (run_neq_one_int rfl rfl) rfl ?_
        | refine lst_run (run_neq_no rfl rfl (by first | assumption | omega)) rfl ?_
        | refine lst_run (run_neq_yes rfl rfl (by omega)) rfl ?_
        | refine lst_run (rfl) rfl ?_
      refine lst_done ?_
      refine goes_true rfl ?_
      refine goes_seq ?_
      refine goes_draw (St M w0 _ _) 6 ((0, true) :: (1, true) :: (2, true) :: (3, true) :: (4, true) :: (5, true) :: []) (by kernel_rfl) (by kernel_rfl) hS.drew ?_
      replace hS := hS.drew
      refine ord_read rfl (fun _ hS => run_move (by conv => lhs; whnf)) rfl ?_
      refine ord_read rfl (fun _ hS => run_nilCheck rfl) rfl ?_
      refine ord_read rfl (fun _ hS => run_fieldAddr (off := 3) rfl rfl) rfl ?_
      first
        | refine ord_read rfl (fun _ hS => run_load1_own hS rfl rfl (by first | exact .head | exact .tail .head | exact .tail (.tail .head) | exact .tail (.tail (.tail .head)) | exact .tail (.tail (.tail (.tail .head))) | exact .tail (.tail (.tail (.tail (.tail .head))))) (by repeat constructor)) rfl ?_
        | refine ord_read rfl (fun _ hS => run_load1 rfl rfl (by first | assumption | exact hS.cell0 (by assumption) | exact lv_next hS | exact lv_list hS)) rfl ?_
      refine ord_read rfl (fun _ hS => run_assign (by conv => lhs; whnf)) rfl ?_
      refine ord_read rfl (fun _ hS => run_assign (by conv => lhs; whnf)) rfl ?_
      refine ord_end ?_
      refine lst_done ?_
      refine goes_ret2 Tryz.func5 rfl (by conv => lhs; whnf) (by conv => lhs; whnf) ?_
      rw [e]
      exact ⟨_, rfl, (St.dropL (L := O2) (St.dropL (L := VH2) hS.drop)).unlearn.learn fun w _ => hno w⟩
    · by_cases herr : s2.err = 0
      · have e : programM num l = (D, 0) := by
          simp only [programM]; rw [hi]; simp only [if_neg h24]; rw [if_pos herr]
        refine goes_exit rfl ?_
        refine goes_seq ?_
        refine goes_seq ?_
        refine goes_region ?_
        refine lst_run (run_move (by conv => lhs; whnf)) rfl ?_
        refine lst_run (run_len_slice rfl rfl rfl) rfl ?_
        first
          | refine lst_run (run_gtr_yes rfl rfl (by omega)) rfl ?_
          | refine lst_run (run_gtr_no rfl rfl (by omega)) rfl ?_
          | refine lst_run (rfl) rfl ?_
        refine lst_done ?_
        refine goes_false rfl ?_
        refine goes_skip ?_
        refine goes_seq ?_
        refine goes_seq ?_
        refine goes_region ?_
        refine lst_run (run_move (by conv => lhs; whnf)) rfl ?_
        refine lst_run (run_nilCheck rfl) rfl ?_
        refine lst_run (run_fieldAddr (off := 3) rfl rfl) rfl ?_
        first
          | refine lst_run (run_load1_own hS rfl rfl (by first | exact .head | exact .tail .head | exact .tail (.tail .head) | exact .tail (.tail (.tail .head)) | exact .tail (.tail (.tail (.tail .head))) | exact .tail (.tail (.tail (.tail (.tail .head))))) (by repeat constructor)) rfl ?_
          | refine lst_run (run_load1 rfl rfl (by first | assumption | exact hS.cell0 (by assumption) | exact lv_next hS | exact lv_list hS)) rfl ?_
        first
          | refine lst_run (run_neq_one_int rfl rfl) rfl ?_
          | refine lst_run (run_neq_no rfl rfl (by first | assumption | omega)) rfl ?_
          | refine lst_run (run_neq_yes rfl rfl (by omega)) rfl ?_
          | refine lst_run (rfl) rfl ?_
        refine lst_done ?_
        refine goes_false rfl ?_
        refine goes_skip ?_
        refine goes_seq ?_
        refine goes_region ?_
        refine lst_run (run_move (by conv => lhs; whnf)) rfl ?_
        refine lst_run (run_assign (by conv => lhs; whnf)) rfl ?_
        refine lst_run (run_assign (by conv => lhs; whnf)) rfl ?_
        refine lst_done ?_
        refine goes_ret2 Tryz.func5 rfl (by conv => lhs; whnf) (by conv => lhs; whnf) ?_
        rw [e]
        refine ⟨_, rfl, ?_⟩
        exact St.shutC hR2 (St.dropL (L := VH2) hS.drop)
      · have e : programM num l = ([], s2.err) := by
          simp only [programM]; rw [hi]; simp only [if_neg h24]; rw [if_neg herr]
        refine goes_exit rfl ?_
        refine goes_seq ?_
        refine goes_seq ?_
        refine goes_region ?_
        refine lst_run (run_move (by conv => lhs; whnf)) rfl ?_
        refine lst_run (run_len_slice rfl rfl rfl) rfl ?_
        first
          | refine lst_run (run_gtr_yes rfl rfl (by omega)) rfl ?_
          | refine lst_run (run_gtr_no rfl rfl (by omega)) rfl ?_
          | refine lst_run (rfl) rfl ?_
        refine lst_done ?_
        refine goes_false rfl ?_
        refine goes_skip ?_
        refine goes_seq ?_
        refine goes_seq ?_
        refine goes_region ?_
        refine lst_run (run_move (by conv => lhs; whnf)) rfl ?_
        refine lst_run (run_nilCheck rfl) rfl ?_
        refine lst_run (run_fieldAddr (off := 3) rfl rfl) rfl ?_
        first
          | refine lst_run (run_load1_own hS rfl rfl (by first | exact .head | exact .tail .head | exact .tail (.tail .head) | exact .tail (.tail (.tail .head)) | exact .tail (.tail (.tail (.tail .head))) | exact .tail (.tail (.tail (.tail (.tail .head))))) (by repeat constructor)) rfl ?_
          | refine lst_run (run_load1 rfl rfl (by first | assumption | exact hS.cell0 (by assumption) | exact lv_next hS | exact lv_list hS)) rfl ?_
        first
          | refine lst_run (run_neq_one_int rfl rfl) rfl ?_
          | refine lst_run (run_neq_no rfl rfl (by first | assumption | omega)) rfl ?_
          | refine lst_run (run_neq_yes rfl rfl (by omega)) rfl ?_
          | refine lst_run (rfl) rfl ?_
        refine lst_done ?_
        refine goes_true rfl ?_
        refine goes_seq ?_
        refine goes_draw (St M w0 _ _) 6 ((0, true) :: (1, true) :: (2, true) :: (3, true) :: (4, true) :: (5, true) :: []) (by kernel_rfl) (by kernel_rfl) hS.drew ?_
        replace hS := hS.drew
        refine ord_read rfl (fun _ hS => run_move (by conv => lhs; whnf)) rfl ?_
        refine ord_read rfl (fun _ hS => run_nilCheck rfl) rfl ?_
        refine ord_read rfl (fun _ hS => run_fieldAddr (off := 3) rfl rfl) rfl ?_
        first
          | refine ord_read rfl (fun _ hS => run_load1_own hS rfl rfl (by first | exact .head | exact .tail .head | exact .tail (.tail .head) | exact .tail (.tail (.tail .head)) | exact .tail (.tail (.tail (.tail .head))) | exact .tail (.tail (.tail (.tail (.tail .head))))) (by repeat constructor)) rfl ?_
          | refine ord_read rfl (fun _ hS => run_load1 rfl rfl (by first | assumption | exact hS.cell0 (by assumption) | exact lv_next hS | exact lv_list hS)) rfl ?_
        refine ord_read rfl (fun _ hS => run_assign (by conv => lhs; whnf)) rfl ?_
        refine ord_read rfl (fun _ hS => run_assign (by conv => lhs; whnf)) rfl ?_
        refine ord_end ?_
        refine lst_done ?_
        refine goes_ret2 Tryz.func5 rfl (by conv => lhs; whnf) (by conv => lhs; whnf) ?_
        rw [e]
        exact ⟨_, rfl, (St.dropL (L := O2) (St.dropL (L := VH2) hS.drop)).unlearn.learn fun w _ => hno w⟩
def queryM (num : Str → Option Int) (l : Str) : Ts × Nat × Int :=
  let p := termsM (termM num 24) (RS.start l)
  let s := p.2.take [46]
  let s' := if s.token = [] ∧ qB (s.vars.length : Nat) (tsOf p.1) = true then s else s.fail 1
  if s'.err = 0 then (tsOf p.1, s'.vars.length, 0) else (.nil, 0, s'.err)
theorem query_r (num : Str → Option Int) (G : World → Prop) (L1 : Lib1) (L2 : Lib2) (L3 : Lib3 num G) (l : Str) (w : World) (hG : ∀ w', Ext M w0 w' → G w') (hl : l.length ≤ 1125899906842624) (hS : St M w0 H F w) :
    Calls Tryz.prog 9 #[sv l] w fun e w' => ∃ v, e = .returned (.tuple #[v, .int .i64 ((queryM num l).2.1 : Nat), .int .i64 (queryM num l).2.2]) ∧ St M w0 H ((fun w => Sl w (fun _ => True) v (queryM num l).1) :: F) w' := by
  have hst := start_left l
  have hsh := start_short l
  have hless := terms_less (term_less num 24) (RS.start l)
  have hfew := terms_few (term_few num 24) (RS.start l)
  rw [hst.2, List.length_nil, Nat.zero_add] at hless
  have hnil : ∀ w : World, Sl w (fun _ => True) (.slice none 0 0) .nil := fun w => ⟨none, 0, rfl, Nat.le_refl _, fun h => by cases h⟩
  refine goes_enter1 Tryz.func9 rfl Tryz.ntmps9 rfl ?_
  refine goes_seq ?_
  refine goes_region ?_
  refine lst_run (run_assign (by conv => lhs; whnf)) rfl ?_
  refine lst_run (run_assign (by conv => lhs; whnf)) rfl ?_
  refine lst_run (run_assign (by conv => lhs; whnf)) rfl ?_
  refine lst_done ?_
  refine goes_seq ?_
  refine goes_region ?_
  refine lst_run (run_move (by conv => lhs; whnf)) rfl ?_
  refine lst_enter (run_call (by kernel_rfl) (args_1 (by conv => lhs; whnf))) rfl ?_
  refine Calls.mono (newReader_any L1 L2 l _ (by omega) hS) ?_
  rintro _ w1 ⟨b, rfl, hS'⟩
  refine ⟨_, rfl, ?_⟩
  replace hS := hS'
  clear hS'
  refine lst_run (run_assign (by conv => lhs; whnf)) rfl ?_
  refine lst_done ?_
  refine goes_seq ?_
  refine goes_region ?_
  refine lst_run (run_move (by conv => lhs; whnf)) rfl ?_
  refine lst_enter (run_call (by kernel_rfl) (args_2 (by conv => lhs; whnf) (by conv => lhs; whnf))) rfl ?_
  refine Calls.mono (terms_said num G L1 L2 L3 24 (by omega) (RS.start l) _ [] M w0 _ H F b hG (by omega) (by rw [hst.2]; simp; omega) (by rw [hst.2]; exact Row.nil_) hS) ?_
  rintro _ w2 ⟨v, V1, VH1, rfl, hV1, hS'⟩
  refine ⟨_, rfl, ?_⟩
  replace hS := hS'
  clear hS'
  obtain ⟨A1, c1, rfl, _⟩ := (hS.fact (.head _)).form
  obtain ⟨Av, cv, rfl⟩ := hV1.form
  have e0 : queryM num l = queryM num l := rfl
  conv at e0 => rhs; unfold queryM
  generalize hp : termsM (termM num 24) (RS.start l) = p at *
  obtain ⟨B, s1⟩ := p
  simp only at *
  rw [e0]
  clear e0
  have hrest : s1.rest.length ≤ 1048576 := by have := rest_le s1; omega
  refine lst_run (run_assign (by conv => lhs; whnf)) rfl ?_
  refine lst_done ?_
  refine goes_seq ?_
  refine goes_region ?_
  refine lst_run (run_move (by conv => lhs; whnf)) rfl ?_
  refine lst_enter (run_call (by kernel_rfl) (args_2 (by conv => lhs; whnf) (by conv => lhs; whnf))) rfl ?_
  refine Calls.mono (take_any L1 L2 s1 [46] _ hrest hS) ?_
  rintro _ w3 ⟨rfl, hS'⟩
  refine ⟨_, rfl, ?_⟩
  replace hS := hS'
  clear hS'
  refine lst_done ?_
  refine goes_seq ?_
  have hv2 := take_vars s1 [46]
  generalize s1.take [46] = s2 at *
  rw [← hv2] at hV1
  generalize hs3 : (if s2.token = [] ∧ qB (s2.vars.length : Nat) (tsOf B) = true then s2 else s2.fail 1) = s3 at *
  have hv3 : s3.vars = s2.vars := by rw [← hs3]; split <;> rfl
  have hlv : s1.vars.length = s2.vars.length := by rw [hv2]
  rw [hlv] at hS
  refine goes_joinP1 (13 :: 14 :: 15 :: 16 :: 17 :: 18 :: 19 :: 20 :: 21 :: 22 :: 23 :: 24 :: 25 :: 26 :: 27 :: 28 :: 29 :: []) (fun w' => St M w0 ((b, rdr s3 (.slice Av s2.vars.length cv)) :: (VH1 ++ H)) ((fun w => Sl w (fun _ => True) (.slice A1 (tsOf B).length c1) (tsOf B)) :: F) w') ?_ ?_
  · intro hk
    refine goes_seq ?_
    refine goes_region ?_
    refine lst_run (run_move (by conv => lhs; whnf)) rfl ?_
    refine lst_run (run_nilCheck rfl) rfl ?_
    refine lst_run (run_fieldAddr (off := 0) rfl rfl) rfl ?_
    first
      | refine lst_run (run_load1_own hS rfl rfl (by first | exact .head | exact .tail .head | exact .tail (.tail .head) | exact .tail (.tail (.tail .head)) | exact .tail (.tail (.tail (.tail .head))) | exact .tail (.tail (.tail (.tail (.tail .head))))) (by repeat constructor)) rfl ?_
      | refine lst_run (run_load1 rfl rfl (by first | assumption | exact hS.cell0 (by assumption) | exact lv_next hS | exact lv_list hS)) rfl ?_
    first
      | refine lst_run (run_neq_str rfl rfl) rfl ?_
      | refine lst_run (rfl) rfl ?_
    refine lst_run (run_move (by conv => lhs; whnf)) rfl ?_
    generalize htb : (s2.token != []) = tb
    cases tb with
    | false =>
      have ht : s2.token = [] := by simpa using htb
      have hgq := goodQuery_any (s2.vars.length : Nat) (tsOf B) _ w3 (hS.fact (.head _)) (by omega)
      generalize hq : qB (s2.vars.length : Nat) (tsOf B) = q at *
      refine lst_guard rfl rfl ?_
      refine lst_run (run_move (by conv => lhs; whnf)) rfl ?_
      refine lst_guard rfl rfl ?_
      refine lst_run (run_move (by conv => lhs; whnf)) rfl ?_
      refine lst_guard rfl rfl ?_
      refine lst_run (run_nilCheck rfl) rfl ?_
      refine lst_guard rfl rfl ?_
      refine lst_run (run_fieldAddr (off := 2) rfl rfl) rfl ?_
      refine lst_guard rfl rfl ?_
      first
        | refine lst_run (run_load1_own hS rfl rfl (by first | exact .head | exact .tail .head | exact .tail (.tail .head) | exact .tail (.tail (.tail .head)) | exact .tail (.tail (.tail (.tail .head))) | exact .tail (.tail (.tail (.tail (.tail .head))))) (by repeat constructor)) rfl ?_
        | refine lst_run (run_load1 rfl rfl (by first | assumption | exact hS.cell0 (by assumption) | exact lv_next hS | exact lv_list hS)) rfl ?_
      refine lst_guard rfl rfl ?_
      refine lst_run (run_len_slice rfl rfl rfl) rfl ?_
      refine lst_guard rfl rfl ?_
      refine lst_enter (run_call (by kernel_rfl) (args_2 (by conv => lhs; whnf) (by conv => lhs; whnf))) rfl ?_
      refine Calls.mono (hgq) ?_
      rintro _ w4 ⟨rfl, hb4⟩
      refine ⟨_, rfl, ?_⟩
      replace hS := hS.grow hb4
      refine lst_guard rfl rfl ?_
      refine lst_run (rfl) rfl ?_
      first
        | refine lst_run (run_pick_t rfl (by conv => lhs; whnf)) rfl ?_
        | refine lst_run (run_pick_f rfl (by conv => lhs; whnf)) rfl ?_
      refine lst_done ?_
      cases q with
      | true =>
        have e3 : s3 = s2 := by rw [← hs3, if_pos ⟨ht, rfl⟩]
        refine goes_false rfl ?_
        refine goes_skip ?_
        exact hk _ _ (by rw [e3]; exact hS) (by kernel_rfl)
      | false =>
        have e3 : s3 = s2.fail 1 := by rw [← hs3, if_neg (by simp)]
        refine goes_true rfl ?_
        refine goes_region ?_
        refine lst_run (run_move (by conv => lhs; whnf)) rfl ?_
        refine lst_enter (run_call (by kernel_rfl) (args_2 (by conv => lhs; whnf) (by conv => lhs; whnf))) rfl ?_
        refine Calls.mono (fail_any s2 1 _ hS) ?_
        rintro _ w5 ⟨rfl, hS'⟩
        refine ⟨_, rfl, ?_⟩
        replace hS := hS'
        clear hS'
        refine lst_done ?_
        exact hk _ _ (by rw [e3]; exact hS) (by kernel_rfl)
    | true =>
      have ht : ¬ s2.token = [] := by simpa using htb
      have e3 : s3 = s2.fail 1 := by rw [← hs3, if_neg (fun h => ht h.1)]
      refine lst_pass rfl rfl rfl ?_
      refine lst_pass rfl rfl rfl ?_
      refine lst_pass rfl rfl rfl ?_
      refine lst_pass rfl rfl rfl ?_
      refine lst_pass rfl rfl rfl ?_
      refine lst_pass rfl rfl rfl ?_
      refine lst_pass rfl rfl rfl ?_
      refine lst_pass rfl rfl rfl ?_
      first
        | refine lst_run (run_pick_t rfl (by conv => lhs; whnf)) rfl ?_
        | refine lst_run (run_pick_f rfl (by conv => lhs; whnf)) rfl ?_
      refine lst_done ?_
      refine goes_true rfl ?_
      refine goes_region ?_
      refine lst_run (run_move (by conv => lhs; whnf)) rfl ?_
      refine lst_enter (run_call (by kernel_rfl) (args_2 (by conv => lhs; whnf) (by conv => lhs; whnf))) rfl ?_
      refine Calls.mono (fail_any s2 1 _ hS) ?_
      rintro _ w5 ⟨rfl, hS'⟩
      refine ⟨_, rfl, ?_⟩
      replace hS := hS'
      clear hS'
      refine lst_done ?_
      exact hk _ _ (by rw [e3]; exact hS) (by kernel_rfl)
  · intro jv w4 hS
    clear hs3
    by_cases herr : s3.err = 0
    · refine goes_seq ?_
      refine goes_seq ?_
      refine goes_region ?_
      refine lst_run (run_move (by conv => lhs; whnf)) rfl ?_
      refine lst_run (run_nilCheck rfl) rfl ?_
      refine lst_run (run_fieldAddr (off := 3) rfl rfl) rfl ?_
      first
        | refine lst_run (run_load1_own hS rfl rfl (by first | exact .head | exact .tail .head | exact .tail (.tail .head) | exact .tail (.tail (.tail .head)) | exact .tail (.tail (.tail (.tail .head))) | exact .tail (.tail (.tail (.tail (.tail .head))))) (by repeat constructor)) rfl ?_
        | refine lst_run (run_load1 rfl rfl (by first | assumption | exact hS.cell0 (by assumption) | exact lv_next hS | exact lv_list hS)) rfl ?_
      first
        | refine lst_run (run_neq_one_int rfl rfl) rfl ?_
        | refine lst_run (run_neq_no rfl rfl (by first | assumption | omega)) rfl ?_
        | refine lst_run (run_neq_yes rfl rfl (by omega)) rfl ?_
        | refine lst_run (rfl) rfl ?_
      refine lst_done ?_
      refine goes_false rfl ?_
      refine goes_skip ?_
      refine goes_seq ?_
      refine goes_draw (St M w0 _ _) 9 ((0, true) :: (1, true) :: (2, true) :: (3, true) :: (4, true) :: (5, true) :: (6, true) :: (7, true) :: (8, true) :: []) (by kernel_rfl) (by kernel_rfl) hS.drew ?_
      replace hS := hS.drew
      refine ord_read rfl (fun _ hS => run_move (by conv => lhs; whnf)) rfl ?_
      refine ord_read rfl (fun _ hS => run_move (by conv => lhs; whnf)) rfl ?_
      refine ord_read rfl (fun _ hS => run_nilCheck rfl) rfl ?_
      refine ord_read rfl (fun _ hS => run_fieldAddr (off := 2) rfl rfl) rfl ?_
      first
        | refine ord_read rfl (fun _ hS => run_load1_own hS rfl rfl (by first | exact .head | exact .tail .head | exact .tail (.tail .head) | exact .tail (.tail (.tail .head)) | exact .tail (.tail (.tail (.tail .head))) | exact .tail (.tail (.tail (.tail (.tail .head))))) (by repeat constructor)) rfl ?_
        | refine ord_read rfl (fun _ hS => run_load1 rfl rfl (by first | assumption | exact hS.cell0 (by assumption) | exact lv_next hS | exact lv_list hS)) rfl ?_
      refine ord_read rfl (fun _ hS => run_len_slice rfl rfl rfl) rfl ?_
      refine ord_read rfl (fun _ hS => run_assign (by conv => lhs; whnf)) rfl ?_
      refine ord_read rfl (fun _ hS => run_assign (by conv => lhs; whnf)) rfl ?_
      refine ord_read rfl (fun _ hS => run_assign (by conv => lhs; whnf)) rfl ?_
      refine ord_end ?_
      refine lst_done ?_
      refine goes_ret3 Tryz.func9 rfl (by conv => lhs; whnf) (by conv => lhs; whnf) (by conv => lhs; whnf) ?_
      rw [if_pos herr]
      exact ⟨_, by rw [hv3], St.dropL (L := VH1) hS.drop⟩
    · refine goes_seq ?_
      refine goes_seq ?_
      refine goes_region ?_
      refine lst_run (run_move (by conv => lhs; whnf)) rfl ?_
      refine lst_run (run_nilCheck rfl) rfl ?_
      refine lst_run (run_fieldAddr (off := 3) rfl rfl) rfl ?_
      first
        | refine lst_run (run_load1_own hS rfl rfl (by first | exact .head | exact .tail .head | exact .tail (.tail .head) | exact .tail (.tail (.tail .head)) | exact .tail (.tail (.tail (.tail .head))) | exact .tail (.tail (.tail (.tail (.tail .head))))) (by repeat constructor)) rfl ?_
        | refine lst_run (run_load1 rfl rfl (by first | assumption | exact hS.cell0 (by assumption) | exact lv_next hS | exact lv_list hS)) rfl ?_
      first
        | refine lst_run (run_neq_one_int rfl rfl) rfl ?_
        | refine lst_run (run_neq_no rfl rfl (by first | assumption | omega)) rfl ?_
        | refine lst_run (run_neq_yes rfl rfl (by omega)) rfl ?_
        | refine lst_run (rfl) rfl ?_
      refine lst_done ?_
      refine goes_true rfl ?_
      refine goes_seq ?_
      refine goes_draw (St M w0 _ _) 7 ((0, true) :: (1, true) :: (2, true) :: (3, true) :: (4, true) :: (5, true) :: (6, true) :: []) (by kernel_rfl) (by kernel_rfl) hS.drew ?_
      replace hS := hS.drew
      refine ord_read rfl (fun _ hS => run_move (by conv => lhs; whnf)) rfl ?_
      refine ord_read rfl (fun _ hS => run_nilCheck rfl) rfl ?_
      refine ord_read rfl (fun _ hS => run_fieldAddr (off := 3) rfl rfl) rfl ?_
      first
        | refine ord_read rfl (fun _ hS => run_load1_own hS rfl rfl (by first | exact .head | exact .tail .head | exact .tail (.tail .head) | exact .tail (.tail (.tail .head)) | exact .tail (.tail (.tail (.tail .head))) | exact .tail (.tail (.tail (.tail (.tail .head))))) (by repeat constructor)) rfl ?_
        | refine ord_read rfl (fun _ hS => run_load1 rfl rfl (by first | assumption | exact hS.cell0 (by assumption) | exact lv_next hS | exact lv_list hS)) rfl ?_
      refine ord_read rfl (fun _ hS => run_assign (by conv => lhs; whnf)) rfl ?_
      refine ord_read rfl (fun _ hS => run_assign (by conv => lhs; whnf)) rfl ?_
      refine ord_read rfl (fun _ hS => run_assign (by conv => lhs; whnf)) rfl ?_
      refine ord_end ?_
      refine lst_done ?_
      refine goes_ret3 Tryz.func9 rfl (by conv => lhs; whnf) (by conv => lhs; whnf) (by conv => lhs; whnf) ?_
      rw [if_neg herr]
      exact ⟨_, rfl, (St.dropL (L := VH1) hS.drop).unlearn.learn fun w _ => hnil w⟩
end
end Go.Proofs.YtdiophafmokfiaaGreatDoor
