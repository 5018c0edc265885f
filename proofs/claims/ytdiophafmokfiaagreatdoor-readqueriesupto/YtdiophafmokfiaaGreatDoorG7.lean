/- RefW2, RefW3: texts that follow one another, laid into one file. -/
import Derived.Test.YtdiophafmokfiaaGreatDoorG6
import Derived.Test.YtdiophafmokfiaaGreatDoorG2
namespace Go.Proofs.YtdiophafmokfiaaGreatDoor
open Go.RowKit Go.Shelf
set_option linter.unusedVariables false
set_option linter.unusedSimpArgs false
set_option maxRecDepth 100000
set_option maxHeartbeats 1000000

theorem trimPrefix0_any (l : Str) (w : World) : Calls Tryz.prog 78 #[sv l, sv [45]] w fun e w' => e = .returned (sv (bareM l)) ∧ w' = w := by
  cases hp : ([45] : Str).isPrefixOf l with
  | true =>
    have hl : 1 ≤ l.length := by
      cases l with
      | nil => simp [List.isPrefixOf] at hp
      | cons c r => simp
    have e1 : bareM l = l.drop 1 := by
      cases l with
      | nil => rfl
      | cons c r => simp [List.isPrefixOf] at hp; subst hp; rfl
    refine goes_enter2 Tryz.func78 rfl Tryz.ntmps78 rfl ?_
    refine goes_seq ?_
    refine goes_region ?_
    refine lst_run (run_assign (by conv => lhs; whnf)) rfl ?_
    refine lst_done ?_
    refine goes_seq ?_
    refine goes_seq ?_
    refine goes_region ?_
    refine lst_run (run_move (by conv => lhs; whnf)) rfl ?_
    refine lst_run (run_move (by conv => lhs; whnf)) rfl ?_
    refine lst_enter (run_call (by kernel_rfl) (args_2 (by conv => lhs; whnf) (by conv => lhs; whnf))) rfl ?_
    refine Calls.mono (hasPrefix0_any l [45] _) ?_
    rintro _ w1 ⟨rfl, rfl⟩
    refine ⟨_, rfl, ?_⟩
    rw [hp]
    refine lst_done ?_
    refine goes_true rfl ?_
    refine goes_seq ?_
    refine goes_region ?_
    refine lst_run (run_move (by conv => lhs; whnf)) rfl ?_
    refine lst_run (run_move (by conv => lhs; whnf)) rfl ?_
    refine lst_run (run_len_str rfl rfl rfl) rfl ?_
    refine lst_run (run_slice_from rfl rfl rfl (by omega) (by first | omega | (simp; done) | (simp; omega))) rfl ?_
    refine lst_run (run_assign (by conv => lhs; whnf)) rfl ?_
    refine lst_done ?_
    refine goes_ret1 Tryz.func78 rfl (by conv => lhs; whnf) ?_
    exact ⟨by rw [e1]; rfl, rfl⟩
  | false =>
    have e1 : bareM l = l := by
      unfold bareM
      split
      · simp [List.isPrefixOf] at hp
      · rfl
    refine goes_enter2 Tryz.func78 rfl Tryz.ntmps78 rfl ?_
    refine goes_seq ?_
    refine goes_region ?_
    refine lst_run (run_assign (by conv => lhs; whnf)) rfl ?_
    refine lst_done ?_
    refine goes_seq ?_
    refine goes_seq ?_
    refine goes_region ?_
    refine lst_run (run_move (by conv => lhs; whnf)) rfl ?_
    refine lst_run (run_move (by conv => lhs; whnf)) rfl ?_
    refine lst_enter (run_call (by kernel_rfl) (args_2 (by conv => lhs; whnf) (by conv => lhs; whnf))) rfl ?_
    refine Calls.mono (hasPrefix0_any l [45] _) ?_
    rintro _ w1 ⟨rfl, rfl⟩
    refine ⟨_, rfl, ?_⟩
    rw [hp]
    refine lst_done ?_
    refine goes_false rfl ?_
    refine goes_skip ?_
    refine goes_seq ?_
    refine goes_region ?_
    refine lst_run (run_move (by conv => lhs; whnf)) rfl ?_
    refine lst_run (run_assign (by conv => lhs; whnf)) rfl ?_
    refine lst_done ?_
    refine goes_ret1 Tryz.func78 rfl (by conv => lhs; whnf) ?_
    exact ⟨by rw [e1], rfl⟩
theorem trimPrefix_any (l : Str) (w : World) : Calls Tryz.prog 60 #[sv l, sv [45]] w fun e w' => e = .returned (sv (bareM l)) ∧ w' = w := by
  refine goes_enter2 Tryz.func60 rfl Tryz.ntmps60 rfl ?_
  refine goes_seq ?_
  refine goes_region ?_
  refine lst_run (run_assign (by conv => lhs; whnf)) rfl ?_
  refine lst_done ?_
  refine goes_seq ?_
  refine goes_region ?_
  refine lst_run (run_move (by conv => lhs; whnf)) rfl ?_
  refine lst_run (run_move (by conv => lhs; whnf)) rfl ?_
  refine lst_enter (run_call (by kernel_rfl) (args_2 (by conv => lhs; whnf) (by conv => lhs; whnf))) rfl ?_
  refine Calls.mono (trimPrefix0_any l _) ?_
  rintro _ w1 ⟨rfl, rfl⟩
  refine ⟨_, rfl, ?_⟩
  refine lst_run (run_assign (by conv => lhs; whnf)) rfl ?_
  refine lst_done ?_
  refine goes_ret1 Tryz.func60 rfl (by conv => lhs; whnf) ?_
  exact ⟨rfl, rfl⟩
theorem dval_snoc' (d : Str) (c : UInt8) : dval (d ++ [c]) = 10 * dval d + (c - 48).toNat := by simp [dval, List.foldl_append]
theorem dval_bound : ∀ (n : Nat) (d : Str), d.length = n → 9 * dval d + 255 ≤ 255 * 10 ^ n := by
  intro n
  induction n with
  | zero => intro d h; rw [List.eq_nil_of_length_eq_zero h]; decide
  | succ n ih =>
    intro d h
    rcases List.eq_nil_or_concat d with rfl | ⟨e, c, rfl⟩
    · simp at h
    have h1 := ih e (by simpa using h)
    have h2 : (c - 48).toNat < 256 := (c - 48).toNat_lt
    rw [List.concat_eq_append, dval_snoc', Nat.pow_succ]
    omega
theorem value_any (l : Str) (w : World) : Calls Tryz.prog 41 #[sv l] w fun e w' => e = .returned (.tuple #[.int .i64 ((valueM l).getD 0), .bool (valueM l).isSome]) ∧ Below w.heap.size w w' := by
  have hbl : (bareM l).length ≤ l.length := by unfold bareM; split <;> simp
  have hS := St.start w
  by_cases h1 : bareM l = []
  · have ev : valueM l = none := by simp [valueM, h1]
    rw [ev]
    refine goes_enter1 Tryz.func41 rfl Tryz.ntmps41 rfl ?_
    refine goes_seq ?_
    refine goes_region ?_
    refine lst_run (run_assign (by conv => lhs; whnf)) rfl ?_
    refine lst_run (run_assign (by conv => lhs; whnf)) rfl ?_
    refine lst_done ?_
    refine goes_seq ?_
    refine goes_region ?_
    refine lst_run (run_move (by conv => lhs; whnf)) rfl ?_
    refine lst_enter (run_call (by kernel_rfl) (args_2 (by conv => lhs; whnf) (by conv => lhs; whnf))) rfl ?_
    refine Calls.mono (trimPrefix_any l _) ?_
    rintro _ w1 ⟨rfl, rfl⟩
    refine ⟨_, rfl, ?_⟩
    rw [h1]
    refine lst_run (run_assign (by conv => lhs; whnf)) rfl ?_
    refine lst_done ?_
    refine goes_seq ?_
    refine goes_seq ?_
    refine goes_region ?_
    refine lst_run (run_move (by conv => lhs; whnf)) rfl ?_
    first
      | refine lst_run (run_eqlS_t rfl rfl (by assumption)) rfl ?_
      | refine lst_run (run_eqlS_f rfl rfl (by assumption)) rfl ?_
      | refine lst_run (run_eql_str rfl rfl) rfl ?_
      | refine lst_run (rfl) rfl ?_
    refine lst_run (run_move (by conv => lhs; whnf)) rfl ?_
    refine lst_pass rfl rfl rfl ?_
    refine lst_pass rfl rfl rfl ?_
    refine lst_pass rfl rfl rfl ?_
    first
      | refine lst_run (run_pick_t rfl (by conv => lhs; whnf)) rfl ?_
      | refine lst_run (run_pick_f rfl (by conv => lhs; whnf)) rfl ?_
    refine lst_run (run_move (by conv => lhs; whnf)) rfl ?_
    refine lst_pass rfl rfl rfl ?_
    refine lst_pass rfl rfl rfl ?_
    refine lst_pass rfl rfl rfl ?_
    refine lst_pass rfl rfl rfl ?_
    refine lst_passU rfl rfl ?_
    refine lst_passU rfl rfl ?_
    refine lst_pass rfl rfl rfl ?_
    first
      | refine lst_run (run_pick_t rfl (by conv => lhs; whnf)) rfl ?_
      | refine lst_run (run_pick_f rfl (by conv => lhs; whnf)) rfl ?_
    refine lst_done ?_
    refine goes_true rfl ?_
    refine goes_seq ?_
    refine goes_region ?_
    refine lst_run (run_assign (by conv => lhs; whnf)) rfl ?_
    refine lst_run (run_assign (by conv => lhs; whnf)) rfl ?_
    refine lst_done ?_
    refine goes_ret2 Tryz.func41 rfl (by conv => lhs; whnf) (by conv => lhs; whnf) ?_
    exact ⟨rfl, hS.ext.below⟩
  by_cases h13 : 13 < (bareM l).length
  · have ev : valueM l = none := by simp [valueM, h13]
    rw [ev]
    generalize hd : bareM l = d at *
    have hde : (d == []) = false := by cases d with | nil => exact absurd rfl h1 | cons _ _ => rfl
    refine goes_enter1 Tryz.func41 rfl Tryz.ntmps41 rfl ?_
    refine goes_seq ?_
    refine goes_region ?_
    refine lst_run (run_assign (by conv => lhs; whnf)) rfl ?_
    refine lst_run (run_assign (by conv => lhs; whnf)) rfl ?_
    refine lst_done ?_
    refine goes_seq ?_
    refine goes_region ?_
    refine lst_run (run_move (by conv => lhs; whnf)) rfl ?_
    refine lst_enter (run_call (by kernel_rfl) (args_2 (by conv => lhs; whnf) (by conv => lhs; whnf))) rfl ?_
    refine Calls.mono (trimPrefix_any l _) ?_
    rintro _ w1 ⟨rfl, rfl⟩
    refine ⟨_, rfl, ?_⟩
    rw [hd]
    refine lst_run (run_assign (by conv => lhs; whnf)) rfl ?_
    refine lst_done ?_
    refine goes_seq ?_
    refine goes_seq ?_
    refine goes_region ?_
    refine lst_run (run_move (by conv => lhs; whnf)) rfl ?_
    first
      | refine lst_run (run_eqlS_t rfl rfl (by assumption)) rfl ?_
      | refine lst_run (run_eqlS_f rfl rfl (by assumption)) rfl ?_
      | refine lst_run (run_eql_str rfl rfl) rfl ?_
      | refine lst_run (rfl) rfl ?_
    refine lst_run (run_move (by conv => lhs; whnf)) rfl ?_
    rw [hde]
    refine lst_guard rfl rfl ?_
    refine lst_run (run_move (by conv => lhs; whnf)) rfl ?_
    refine lst_guard rfl rfl ?_
    refine lst_run (run_len_str rfl rfl rfl) rfl ?_
    refine lst_guard rfl rfl ?_
    first
      | refine lst_run (run_gtr_yes rfl rfl (by omega)) rfl ?_
      | refine lst_run (run_gtr_no rfl rfl (by omega)) rfl ?_
      | refine lst_run (rfl) rfl ?_
    first
      | refine lst_run (run_pick_t rfl (by conv => lhs; whnf)) rfl ?_
      | refine lst_run (run_pick_f rfl (by conv => lhs; whnf)) rfl ?_
    refine lst_run (run_move (by conv => lhs; whnf)) rfl ?_
    refine lst_pass rfl rfl rfl ?_
    refine lst_pass rfl rfl rfl ?_
    refine lst_pass rfl rfl rfl ?_
    refine lst_pass rfl rfl rfl ?_
    refine lst_passU rfl rfl ?_
    refine lst_passU rfl rfl ?_
    refine lst_pass rfl rfl rfl ?_
    first
      | refine lst_run (run_pick_t rfl (by conv => lhs; whnf)) rfl ?_
      | refine lst_run (run_pick_f rfl (by conv => lhs; whnf)) rfl ?_
    refine lst_done ?_
    refine goes_true rfl ?_
    refine goes_seq ?_
    refine goes_region ?_
    refine lst_run (run_assign (by conv => lhs; whnf)) rfl ?_
    refine lst_run (run_assign (by conv => lhs; whnf)) rfl ?_
    refine lst_done ?_
    refine goes_ret2 Tryz.func41 rfl (by conv => lhs; whnf) (by conv => lhs; whnf) ?_
    exact ⟨rfl, hS.ext.below⟩
  have htail : ∀ w1 : World, St [] w [] [] w1 → True := fun _ _ => trivial
  have hc : ∀ x, headC (bareM l) = x → x = 48 → l ≠ [48] → valueM l = none := fun x e1 e2 e3 => by simp [valueM, e1, e2, e3]
  have hv : (headC (bareM l) = 48 → l = [48]) → valueM l = if 1099511627776 < dval (bareM l) then none else some (if bareM l = l then (dval (bareM l) : Int) else -(dval (bareM l) : Int)) := fun e => by
    unfold valueM
    simp only
    rw [if_neg]
    rintro (h | h | ⟨h, h'⟩)
    · exact h1 h
    · exact h13 h
    · exact h' (e h)
  have hbd := dval_bound _ (bareM l) rfl
  have hpow : ∀ k, k ≤ 13 → (10 : Nat) ^ k ≤ 10000000000000 := fun k hk => by
    have := Nat.pow_le_pow_right (n := 10) (by decide) hk
    simpa using this
  generalize hd : bareM l = d at *
  cases d with
  | nil => exact absurd rfl h1
  | cons x q =>
    have hhx : headC (x :: q) = x := rfl
    rw [hhx] at hv
    by_cases h48 : x = 48
    · by_cases hl48 : l = [48]
      · rw [hv fun _ => hl48]
        have hln : (l != [48]) = false := by simp [hl48]
        subst h48
        refine goes_enter1 Tryz.func41 rfl Tryz.ntmps41 rfl ?_
        refine goes_seq ?_
        refine goes_region ?_
        refine lst_run (run_assign (by conv => lhs; whnf)) rfl ?_
        refine lst_run (run_assign (by conv => lhs; whnf)) rfl ?_
        refine lst_done ?_
        refine goes_seq ?_
        refine goes_region ?_
        refine lst_run (run_move (by conv => lhs; whnf)) rfl ?_
        refine lst_enter (run_call (by kernel_rfl) (args_2 (by conv => lhs; whnf) (by conv => lhs; whnf))) rfl ?_
        refine Calls.mono (trimPrefix_any l _) ?_
        rintro _ w1 ⟨rfl, rfl⟩
        refine ⟨_, rfl, ?_⟩
        rw [hd]
        refine lst_run (run_assign (by conv => lhs; whnf)) rfl ?_
        refine lst_done ?_
        refine goes_seq ?_
        refine goes_seq ?_
        refine goes_region ?_
        refine lst_run (run_move (by conv => lhs; whnf)) rfl ?_
        first
          | refine lst_run (run_eqlS_t rfl rfl (by assumption)) rfl ?_
          | refine lst_run (run_eqlS_f rfl rfl (by assumption)) rfl ?_
          | refine lst_run (run_eql_str rfl rfl) rfl ?_
          | refine lst_run (rfl) rfl ?_
        refine lst_run (run_move (by conv => lhs; whnf)) rfl ?_
        refine lst_guard rfl rfl ?_
        refine lst_run (run_move (by conv => lhs; whnf)) rfl ?_
        refine lst_guard rfl rfl ?_
        refine lst_run (run_len_str rfl rfl rfl) rfl ?_
        refine lst_guard rfl rfl ?_
        first
          | refine lst_run (run_gtr_yes rfl rfl (by omega)) rfl ?_
          | refine lst_run (run_gtr_no rfl rfl (by omega)) rfl ?_
          | refine lst_run (rfl) rfl ?_
        first
          | refine lst_run (run_pick_t rfl (by conv => lhs; whnf)) rfl ?_
          | refine lst_run (run_pick_f rfl (by conv => lhs; whnf)) rfl ?_
        refine lst_run (run_move (by conv => lhs; whnf)) rfl ?_
        refine lst_guard rfl rfl ?_
        refine lst_run (run_move (by conv => lhs; whnf)) rfl ?_
        refine lst_guard rfl rfl ?_
        refine lst_run (run_index_str rfl rfl rfl (by omega) (by first | rfl | assumption)) rfl ?_
        refine lst_guard rfl rfl ?_
        first
          | refine lst_run (run_eql_one_int rfl rfl) rfl ?_
          | refine lst_run (run_eql_no rfl rfl (by first | assumption | omega)) rfl ?_
          | refine lst_run (run_eql_yes rfl rfl (by omega)) rfl ?_
          | refine lst_run (rfl) rfl ?_
        refine lst_guard rfl rfl ?_
        refine lst_run (run_move (by conv => lhs; whnf)) rfl ?_
        refine lst_guard rfl rfl ?_
        refine lst_run (run_move (by conv => lhs; whnf)) rfl ?_
        refine lst_guard rfl rfl ?_
        first
          | refine lst_run (run_neqS_t rfl rfl (by assumption)) rfl ?_
          | refine lst_run (run_neqS_f rfl rfl (by assumption)) rfl ?_
          | refine lst_run (run_neq_str rfl rfl) rfl ?_
          | refine lst_run (rfl) rfl ?_
        refine lst_guard rfl rfl ?_
        first
          | refine lst_run (run_pick_t rfl (by conv => lhs; whnf)) rfl ?_
          | refine lst_run (run_pick_f rfl (by conv => lhs; whnf)) rfl ?_
        first
          | refine lst_run (run_pick_t rfl (by conv => lhs; whnf)) rfl ?_
          | refine lst_run (run_pick_f rfl (by conv => lhs; whnf)) rfl ?_
        refine lst_done ?_
        rw [hln]
        refine goes_false rfl ?_
        refine goes_skip ?_
        refine goes_seq ?_
        refine goes_region ?_
        refine lst_run (run_assign (by conv => lhs; whnf)) rfl ?_
        refine lst_done ?_
        refine goes_seq ?_
        refine goes_seq ?_
        refine goes_region ?_
        refine lst_run (run_move (by conv => lhs; whnf)) rfl ?_
        refine lst_run (run_convert_to rfl (Lib.run_convert_string_bytes _ _ _ 5 _ (u := .string) (by kernel_rfl) (by kernel_rfl) (by kernel_rfl))) rfl ?_
        have hB : Below w1.heap.size w1 (Lib.bytesWorld w1 5 ⟨(48 :: q : Str).toArray⟩) := ⟨rfl, rfl, rfl, by rw [Lib.bytesWorld_size]; omega, fun k hk => Lib.bytesWorld_at_old w1 _ _ k hk⟩
        have hcell : ∀ (E : Str) (y : UInt8) (Q : Str), 48 :: q = E ++ y :: Q → (Lib.bytesWorld w1 5 ⟨(48 :: q : Str).toArray⟩).cell? ⟨w1.heap.size, 0 + (((E.length : Nat) : Int)).toNat * 1, none⟩ = some (.int .u8 y.toNat) := by
          intro E y Q e
          have h0 : 0 + (((E.length : Nat) : Int)).toNat * 1 = E.length := by omega
          have h2 : (48 :: q : Str).length = E.length + (Q.length + 1) := by rw [e]; simp
          rw [h0, Lib.bytesWorld_cell w1 _ _ E.length (by rw [size_mk]; omega), data_mk, e]
          simp
        have hcap : grownCap w1 (48 :: q : Str).length 0 5 = grownCap w1 (48 :: q : Str).length 0 5 := rfl
        generalize Lib.bytesWorld w1 5 ⟨(48 :: q : Str).toArray⟩ = W at *
        rw [size_mk]
        generalize grownCap w1 (48 :: q : Str).length 0 5 = gc at *
        refine lst_run (run_len_slice rfl rfl rfl) rfl ?_
        refine lst_run (run_move (by conv => lhs; whnf)) rfl ?_
        refine lst_done ?_
        refine goes_block ?_
        refine goes_loop2 5 29 (30 :: 31 :: 32 :: 7 :: 33 :: 34 :: 35 :: 36 :: 37 :: 38 :: 39 :: []) (fun (Q : Str) n i w' => w' = W ∧ ∃ E, 48 :: q = E ++ Q ∧ n = .int .i64 (dval E : Nat) ∧ i = .int .i64 (E.length : Nat)) (fun Q => Q.length) (48 :: q) ?_ (by conv => lhs; whnf) (by conv => lhs; whnf) ?_
        · exact ⟨rfl, [], rfl, rfl, rfl⟩
        rintro Q n3 i3 w3 jv3 ⟨rfl, E, hE, rfl, rfl⟩ ih
        have hlE : (48 :: q : Str).length = E.length + Q.length := by rw [hE, List.length_append]
        have hbE := dval_bound _ E rfl
        have hpE := hpow E.length (by omega)
        cases Q with
        | cons y Q =>
          have hcy := hcell E y Q hE
          have hlt2 := hlE
          simp only [List.length_cons (a := y)] at hlt2
          have hy := (y - 48).toNat_lt
          simp only [List.length_cons] at hlE
          refine goes_seq ?_
          refine goes_region ?_
          first
            | refine lst_run (run_lss_yes rfl rfl (by omega)) rfl ?_
            | refine lst_run (run_lss_no rfl rfl (by omega)) rfl ?_
            | refine lst_run (rfl) rfl ?_
          refine lst_done ?_
          refine goes_seq ?_
          refine goes_true rfl ?_
          refine goes_skip ?_
          refine goes_seq ?_
          refine goes_block ?_
          refine goes_seq ?_
          refine goes_region ?_
          refine lst_run (run_indexAddr (sz := 1) rfl rfl rfl rfl (by omega) (by omega)) rfl ?_
          first
            | refine lst_run (run_load1_own hS rfl rfl (by first | exact .head | exact .tail .head | exact .tail (.tail .head) | exact .tail (.tail (.tail .head)) | exact .tail (.tail (.tail (.tail .head))) | exact .tail (.tail (.tail (.tail (.tail .head))))) (by repeat constructor)) rfl ?_
            | refine lst_run (run_load1 rfl rfl (by first | assumption | exact hS.cell0 (by assumption) | exact lv_next hS | exact lv_list hS)) rfl ?_
          refine lst_run (run_assign (by conv => lhs; whnf)) rfl ?_
          refine lst_done ?_
          refine goes_region ?_
          refine lst_run (run_move (by conv => lhs; whnf)) rfl ?_
          first
            | refine lst_run (run_mul rfl rfl (by omega) (by omega)) rfl ?_
            | refine lst_run (rfl) rfl ?_
          refine lst_run (run_move (by conv => lhs; whnf)) rfl ?_
          first
            | refine lst_run (run_sub rfl rfl (by omega) (by omega)) rfl ?_
            | refine lst_run (run_sub_u8 rfl rfl) rfl ?_
          first
            | refine lst_run (run_convert_u8 rfl rfl rfl) rfl ?_
            | refine lst_run (rfl) rfl ?_
          refine lst_run (run_add rfl rfl (by omega) (by omega)) rfl ?_
          refine lst_run (run_assign (by conv => lhs; whnf)) rfl ?_
          refine lst_done ?_
          refine goes_inBlock ?_
          refine goes_region ?_
          refine lst_run (run_add rfl rfl (by omega) (by omega)) rfl ?_
          refine lst_run (run_move (by conv => lhs; whnf)) rfl ?_
          refine lst_done ?_
          refine ih (Q) _ _ _ _ ?_ ?_ (by conv => lhs; whnf) (by conv => lhs; whnf) (by kernel_rfl)
          · simp
          · exact ⟨rfl, E ++ [y], by rw [hE]; simp, by rw [dval_snoc']; simp, by simp⟩
        | nil =>
          rw [List.append_nil] at hE
          subst hE
          by_cases hbig : 1099511627776 < dval (48 :: q)
          · rw [if_pos hbig]
            refine goes_seq ?_
            refine goes_region ?_
            first
              | refine lst_run (run_lss_yes rfl rfl (by omega)) rfl ?_
              | refine lst_run (run_lss_no rfl rfl (by omega)) rfl ?_
              | refine lst_run (rfl) rfl ?_
            refine lst_done ?_
            refine goes_seq ?_
            refine goes_false rfl ?_
            refine goes_exit rfl ?_
            refine goes_seq ?_
            refine goes_seq ?_
            refine goes_region ?_
            refine lst_run (run_move (by conv => lhs; whnf)) rfl ?_
            first
              | refine lst_run (run_gtr_yes rfl rfl (by omega)) rfl ?_
              | refine lst_run (run_gtr_no rfl rfl (by omega)) rfl ?_
              | refine lst_run (rfl) rfl ?_
            refine lst_done ?_
            refine goes_true rfl ?_
            refine goes_seq ?_
            refine goes_region ?_
            refine lst_run (run_assign (by conv => lhs; whnf)) rfl ?_
            refine lst_run (run_assign (by conv => lhs; whnf)) rfl ?_
            refine lst_done ?_
            refine goes_ret2 Tryz.func41 rfl (by conv => lhs; whnf) (by conv => lhs; whnf) ?_
            exact ⟨rfl, hB⟩
          · rw [if_neg hbig]
            by_cases hdl : 48 :: q = l
            · have hnn : (48 :: q != l) = false := by simp [hdl]
              rw [if_pos hdl]
              refine goes_seq ?_
              refine goes_region ?_
              first
                | refine lst_run (run_lss_yes rfl rfl (by omega)) rfl ?_
                | refine lst_run (run_lss_no rfl rfl (by omega)) rfl ?_
                | refine lst_run (rfl) rfl ?_
              refine lst_done ?_
              refine goes_seq ?_
              refine goes_false rfl ?_
              refine goes_exit rfl ?_
              refine goes_seq ?_
              refine goes_seq ?_
              refine goes_region ?_
              refine lst_run (run_move (by conv => lhs; whnf)) rfl ?_
              first
                | refine lst_run (run_gtr_yes rfl rfl (by omega)) rfl ?_
                | refine lst_run (run_gtr_no rfl rfl (by omega)) rfl ?_
                | refine lst_run (rfl) rfl ?_
              refine lst_done ?_
              refine goes_false rfl ?_
              refine goes_skip ?_
              refine goes_seq ?_
              refine goes_seq ?_
              refine goes_region ?_
              refine lst_run (run_move (by conv => lhs; whnf)) rfl ?_
              refine lst_run (run_move (by conv => lhs; whnf)) rfl ?_
              first
                | refine lst_run (run_neqS_t rfl rfl (by assumption)) rfl ?_
                | refine lst_run (run_neqS_f rfl rfl (by assumption)) rfl ?_
                | refine lst_run (run_neq_str rfl rfl) rfl ?_
                | refine lst_run (rfl) rfl ?_
              refine lst_done ?_
              rw [hnn]
              refine goes_false rfl ?_
              refine goes_skip ?_
              refine goes_seq ?_
              refine goes_region ?_
              refine lst_run (run_move (by conv => lhs; whnf)) rfl ?_
              refine lst_run (run_assign (by conv => lhs; whnf)) rfl ?_
              refine lst_run (run_assign (by conv => lhs; whnf)) rfl ?_
              refine lst_done ?_
              refine goes_ret2 Tryz.func41 rfl (by conv => lhs; whnf) (by conv => lhs; whnf) ?_
              exact ⟨rfl, hB⟩
            · have hnn : (48 :: q != l) = true := by simp [hdl]
              rw [if_neg hdl]
              refine goes_seq ?_
              refine goes_region ?_
              first
                | refine lst_run (run_lss_yes rfl rfl (by omega)) rfl ?_
                | refine lst_run (run_lss_no rfl rfl (by omega)) rfl ?_
                | refine lst_run (rfl) rfl ?_
              refine lst_done ?_
              refine goes_seq ?_
              refine goes_false rfl ?_
              refine goes_exit rfl ?_
              refine goes_seq ?_
              refine goes_seq ?_
              refine goes_region ?_
              refine lst_run (run_move (by conv => lhs; whnf)) rfl ?_
              first
                | refine lst_run (run_gtr_yes rfl rfl (by omega)) rfl ?_
                | refine lst_run (run_gtr_no rfl rfl (by omega)) rfl ?_
                | refine lst_run (rfl) rfl ?_
              refine lst_done ?_
              refine goes_false rfl ?_
              refine goes_skip ?_
              refine goes_seq ?_
              refine goes_seq ?_
              refine goes_region ?_
              refine lst_run (run_move (by conv => lhs; whnf)) rfl ?_
              refine lst_run (run_move (by conv => lhs; whnf)) rfl ?_
              first
                | refine lst_run (run_neqS_t rfl rfl (by assumption)) rfl ?_
                | refine lst_run (run_neqS_f rfl rfl (by assumption)) rfl ?_
                | refine lst_run (run_neq_str rfl rfl) rfl ?_
                | refine lst_run (rfl) rfl ?_
              refine lst_done ?_
              rw [hnn]
              refine goes_true rfl ?_
              refine goes_region ?_
              refine lst_run (run_move (by conv => lhs; whnf)) rfl ?_
              refine lst_run (rfl) rfl ?_
              refine lst_run (run_assign (by conv => lhs; whnf)) rfl ?_
              refine lst_done ?_
              refine goes_seq ?_
              refine goes_region ?_
              refine lst_run (run_move (by conv => lhs; whnf)) rfl ?_
              refine lst_run (run_assign (by conv => lhs; whnf)) rfl ?_
              refine lst_run (run_assign (by conv => lhs; whnf)) rfl ?_
              refine lst_done ?_
              refine goes_ret2 Tryz.func41 rfl (by conv => lhs; whnf) (by conv => lhs; whnf) ?_
              refine ⟨?_, hB⟩
              show Ending.returned (.tuple #[.int .i64 (IntKind.i64.wrap (0 - ((dval (48 :: q) : Nat) : Int))), .bool true]) = _
              rw [wrap_of (by omega) (by omega), Int.zero_sub]
              rfl
      · have hln : (l != [48]) = true := by simp [hl48]
        rw [hc x rfl h48 hl48]
        subst h48
        refine goes_enter1 Tryz.func41 rfl Tryz.ntmps41 rfl ?_
        refine goes_seq ?_
        refine goes_region ?_
        refine lst_run (run_assign (by conv => lhs; whnf)) rfl ?_
        refine lst_run (run_assign (by conv => lhs; whnf)) rfl ?_
        refine lst_done ?_
        refine goes_seq ?_
        refine goes_region ?_
        refine lst_run (run_move (by conv => lhs; whnf)) rfl ?_
        refine lst_enter (run_call (by kernel_rfl) (args_2 (by conv => lhs; whnf) (by conv => lhs; whnf))) rfl ?_
        refine Calls.mono (trimPrefix_any l _) ?_
        rintro _ w1 ⟨rfl, rfl⟩
        refine ⟨_, rfl, ?_⟩
        rw [hd]
        refine lst_run (run_assign (by conv => lhs; whnf)) rfl ?_
        refine lst_done ?_
        refine goes_seq ?_
        refine goes_seq ?_
        refine goes_region ?_
        refine lst_run (run_move (by conv => lhs; whnf)) rfl ?_
        first
          | refine lst_run (run_eqlS_t rfl rfl (by assumption)) rfl ?_
          | refine lst_run (run_eqlS_f rfl rfl (by assumption)) rfl ?_
          | refine lst_run (run_eql_str rfl rfl) rfl ?_
          | refine lst_run (rfl) rfl ?_
        refine lst_run (run_move (by conv => lhs; whnf)) rfl ?_
        refine lst_guard rfl rfl ?_
        refine lst_run (run_move (by conv => lhs; whnf)) rfl ?_
        refine lst_guard rfl rfl ?_
        refine lst_run (run_len_str rfl rfl rfl) rfl ?_
        refine lst_guard rfl rfl ?_
        first
          | refine lst_run (run_gtr_yes rfl rfl (by omega)) rfl ?_
          | refine lst_run (run_gtr_no rfl rfl (by omega)) rfl ?_
          | refine lst_run (rfl) rfl ?_
        first
          | refine lst_run (run_pick_t rfl (by conv => lhs; whnf)) rfl ?_
          | refine lst_run (run_pick_f rfl (by conv => lhs; whnf)) rfl ?_
        refine lst_run (run_move (by conv => lhs; whnf)) rfl ?_
        refine lst_guard rfl rfl ?_
        refine lst_run (run_move (by conv => lhs; whnf)) rfl ?_
        refine lst_guard rfl rfl ?_
        refine lst_run (run_index_str rfl rfl rfl (by omega) (by first | rfl | assumption)) rfl ?_
        refine lst_guard rfl rfl ?_
        first
          | refine lst_run (run_eql_one_int rfl rfl) rfl ?_
          | refine lst_run (run_eql_no rfl rfl (by first | assumption | omega)) rfl ?_
          | refine lst_run (run_eql_yes rfl rfl (by omega)) rfl ?_
          | refine lst_run (rfl) rfl ?_
        refine lst_guard rfl rfl ?_
        refine lst_run (run_move (by conv => lhs; whnf)) rfl ?_
        refine lst_guard rfl rfl ?_
        refine lst_run (run_move (by conv => lhs; whnf)) rfl ?_
        refine lst_guard rfl rfl ?_
        first
          | refine lst_run (run_neqS_t rfl rfl (by assumption)) rfl ?_
          | refine lst_run (run_neqS_f rfl rfl (by assumption)) rfl ?_
          | refine lst_run (run_neq_str rfl rfl) rfl ?_
          | refine lst_run (rfl) rfl ?_
        refine lst_guard rfl rfl ?_
        first
          | refine lst_run (run_pick_t rfl (by conv => lhs; whnf)) rfl ?_
          | refine lst_run (run_pick_f rfl (by conv => lhs; whnf)) rfl ?_
        first
          | refine lst_run (run_pick_t rfl (by conv => lhs; whnf)) rfl ?_
          | refine lst_run (run_pick_f rfl (by conv => lhs; whnf)) rfl ?_
        refine lst_done ?_
        rw [hln]
        refine goes_true rfl ?_
        refine goes_seq ?_
        refine goes_region ?_
        refine lst_run (run_assign (by conv => lhs; whnf)) rfl ?_
        refine lst_run (run_assign (by conv => lhs; whnf)) rfl ?_
        refine lst_done ?_
        refine goes_ret2 Tryz.func41 rfl (by conv => lhs; whnf) (by conv => lhs; whnf) ?_
        exact ⟨rfl, hS.ext.below⟩
    · have h48' : x.toNat ≠ 48 := fun h => h48 (u8_eq (n := 48) h)
      rw [hv fun h => absurd h h48]
      refine goes_enter1 Tryz.func41 rfl Tryz.ntmps41 rfl ?_
      refine goes_seq ?_
      refine goes_region ?_
      refine lst_run (run_assign (by conv => lhs; whnf)) rfl ?_
      refine lst_run (run_assign (by conv => lhs; whnf)) rfl ?_
      refine lst_done ?_
      refine goes_seq ?_
      refine goes_region ?_
      refine lst_run (run_move (by conv => lhs; whnf)) rfl ?_
      refine lst_enter (run_call (by kernel_rfl) (args_2 (by conv => lhs; whnf) (by conv => lhs; whnf))) rfl ?_
      refine Calls.mono (trimPrefix_any l _) ?_
      rintro _ w1 ⟨rfl, rfl⟩
      refine ⟨_, rfl, ?_⟩
      rw [hd]
      refine lst_run (run_assign (by conv => lhs; whnf)) rfl ?_
      refine lst_done ?_
      refine goes_seq ?_
      refine goes_seq ?_
      refine goes_region ?_
      refine lst_run (run_move (by conv => lhs; whnf)) rfl ?_
      first
        | refine lst_run (run_eqlS_t rfl rfl (by assumption)) rfl ?_
        | refine lst_run (run_eqlS_f rfl rfl (by assumption)) rfl ?_
        | refine lst_run (run_eql_str rfl rfl) rfl ?_
        | refine lst_run (rfl) rfl ?_
      refine lst_run (run_move (by conv => lhs; whnf)) rfl ?_
      refine lst_guard rfl rfl ?_
      refine lst_run (run_move (by conv => lhs; whnf)) rfl ?_
      refine lst_guard rfl rfl ?_
      refine lst_run (run_len_str rfl rfl rfl) rfl ?_
      refine lst_guard rfl rfl ?_
      first
        | refine lst_run (run_gtr_yes rfl rfl (by omega)) rfl ?_
        | refine lst_run (run_gtr_no rfl rfl (by omega)) rfl ?_
        | refine lst_run (rfl) rfl ?_
      first
        | refine lst_run (run_pick_t rfl (by conv => lhs; whnf)) rfl ?_
        | refine lst_run (run_pick_f rfl (by conv => lhs; whnf)) rfl ?_
      refine lst_run (run_move (by conv => lhs; whnf)) rfl ?_
      refine lst_guard rfl rfl ?_
      refine lst_run (run_move (by conv => lhs; whnf)) rfl ?_
      refine lst_guard rfl rfl ?_
      refine lst_run (run_index_str rfl rfl rfl (by omega) (by first | rfl | assumption)) rfl ?_
      refine lst_guard rfl rfl ?_
      first
        | refine lst_run (run_eql_one_int rfl rfl) rfl ?_
        | refine lst_run (run_eql_no rfl rfl (by first | assumption | omega)) rfl ?_
        | refine lst_run (run_eql_yes rfl rfl (by omega)) rfl ?_
        | refine lst_run (rfl) rfl ?_
      refine lst_guard rfl rfl ?_
      refine lst_run (run_move (by conv => lhs; whnf)) rfl ?_
      refine lst_pass rfl rfl rfl ?_
      refine lst_pass rfl rfl rfl ?_
      refine lst_guard rfl rfl ?_
      first
        | refine lst_run (run_pick_t rfl (by conv => lhs; whnf)) rfl ?_
        | refine lst_run (run_pick_f rfl (by conv => lhs; whnf)) rfl ?_
      first
        | refine lst_run (run_pick_t rfl (by conv => lhs; whnf)) rfl ?_
        | refine lst_run (run_pick_f rfl (by conv => lhs; whnf)) rfl ?_
      refine lst_done ?_
      refine goes_false rfl ?_
      refine goes_skip ?_
      refine goes_seq ?_
      refine goes_region ?_
      refine lst_run (run_assign (by conv => lhs; whnf)) rfl ?_
      refine lst_done ?_
      refine goes_seq ?_
      refine goes_seq ?_
      refine goes_region ?_
      refine lst_run (run_move (by conv => lhs; whnf)) rfl ?_
      refine lst_run (run_convert_to rfl (Lib.run_convert_string_bytes _ _ _ 5 _ (u := .string) (by kernel_rfl) (by kernel_rfl) (by kernel_rfl))) rfl ?_
      have hB : Below w1.heap.size w1 (Lib.bytesWorld w1 5 ⟨(x :: q : Str).toArray⟩) := ⟨rfl, rfl, rfl, by rw [Lib.bytesWorld_size]; omega, fun k hk => Lib.bytesWorld_at_old w1 _ _ k hk⟩
      have hcell : ∀ (E : Str) (y : UInt8) (Q : Str), x :: q = E ++ y :: Q → (Lib.bytesWorld w1 5 ⟨(x :: q : Str).toArray⟩).cell? ⟨w1.heap.size, 0 + (((E.length : Nat) : Int)).toNat * 1, none⟩ = some (.int .u8 y.toNat) := by
        intro E y Q e
        have h0 : 0 + (((E.length : Nat) : Int)).toNat * 1 = E.length := by omega
        have h2 : (x :: q : Str).length = E.length + (Q.length + 1) := by rw [e]; simp
        rw [h0, Lib.bytesWorld_cell w1 _ _ E.length (by rw [size_mk]; omega), data_mk, e]
        simp
      have hcap : grownCap w1 (x :: q : Str).length 0 5 = grownCap w1 (x :: q : Str).length 0 5 := rfl
      generalize Lib.bytesWorld w1 5 ⟨(x :: q : Str).toArray⟩ = W at *
      rw [size_mk]
      generalize grownCap w1 (x :: q : Str).length 0 5 = gc at *
      refine lst_run (run_len_slice rfl rfl rfl) rfl ?_
      refine lst_run (run_move (by conv => lhs; whnf)) rfl ?_
      refine lst_done ?_
      refine goes_block ?_
      refine goes_loop2 5 29 (30 :: 31 :: 32 :: 7 :: 33 :: 34 :: 35 :: 36 :: 37 :: 38 :: 39 :: []) (fun (Q : Str) n i w' => w' = W ∧ ∃ E, x :: q = E ++ Q ∧ n = .int .i64 (dval E : Nat) ∧ i = .int .i64 (E.length : Nat)) (fun Q => Q.length) (x :: q) ?_ (by conv => lhs; whnf) (by conv => lhs; whnf) ?_
      · exact ⟨rfl, [], rfl, rfl, rfl⟩
      rintro Q n3 i3 w3 jv3 ⟨rfl, E, hE, rfl, rfl⟩ ih
      have hlE : (x :: q : Str).length = E.length + Q.length := by rw [hE, List.length_append]
      have hbE := dval_bound _ E rfl
      have hpE := hpow E.length (by omega)
      cases Q with
      | cons y Q =>
        have hcy := hcell E y Q hE
        have hlt2 := hlE
        simp only [List.length_cons (a := y)] at hlt2
        have hy := (y - 48).toNat_lt
        simp only [List.length_cons] at hlE
        refine goes_seq ?_
        refine goes_region ?_
        first
          | refine lst_run (run_lss_yes rfl rfl (by omega)) rfl ?_
          | refine lst_run (run_lss_no rfl rfl (by omega)) rfl ?_
          | refine lst_run (rfl) rfl ?_
        refine lst_done ?_
        refine goes_seq ?_
        refine goes_true rfl ?_
        refine goes_skip ?_
        refine goes_seq ?_
        refine goes_block ?_
        refine goes_seq ?_
        refine goes_region ?_
        refine lst_run (run_indexAddr (sz := 1) rfl rfl rfl rfl (by omega) (by omega)) rfl ?_
        first
          | refine lst_run (run_load1_own hS rfl rfl (by first | exact .head | exact .tail .head | exact .tail (.tail .head) | exact .tail (.tail (.tail .head)) | exact .tail (.tail (.tail (.tail .head))) | exact .tail (.tail (.tail (.tail (.tail .head))))) (by repeat constructor)) rfl ?_
          | refine lst_run (run_load1 rfl rfl (by first | assumption | exact hS.cell0 (by assumption) | exact lv_next hS | exact lv_list hS)) rfl ?_
        refine lst_run (run_assign (by conv => lhs; whnf)) rfl ?_
        refine lst_done ?_
        refine goes_region ?_
        refine lst_run (run_move (by conv => lhs; whnf)) rfl ?_
        first
          | refine lst_run (run_mul rfl rfl (by omega) (by omega)) rfl ?_
          | refine lst_run (rfl) rfl ?_
        refine lst_run (run_move (by conv => lhs; whnf)) rfl ?_
        first
          | refine lst_run (run_sub rfl rfl (by omega) (by omega)) rfl ?_
          | refine lst_run (run_sub_u8 rfl rfl) rfl ?_
        first
          | refine lst_run (run_convert_u8 rfl rfl rfl) rfl ?_
          | refine lst_run (rfl) rfl ?_
        refine lst_run (run_add rfl rfl (by omega) (by omega)) rfl ?_
        refine lst_run (run_assign (by conv => lhs; whnf)) rfl ?_
        refine lst_done ?_
        refine goes_inBlock ?_
        refine goes_region ?_
        refine lst_run (run_add rfl rfl (by omega) (by omega)) rfl ?_
        refine lst_run (run_move (by conv => lhs; whnf)) rfl ?_
        refine lst_done ?_
        refine ih (Q) _ _ _ _ ?_ ?_ (by conv => lhs; whnf) (by conv => lhs; whnf) (by kernel_rfl)
        · simp
        · exact ⟨rfl, E ++ [y], by rw [hE]; simp, by rw [dval_snoc']; simp, by simp⟩
      | nil =>
        rw [List.append_nil] at hE
        subst hE
        by_cases hbig : 1099511627776 < dval (x :: q)
        · rw [if_pos hbig]
          refine goes_seq ?_
          refine goes_region ?_
          first
            | refine lst_run (run_lss_yes rfl rfl (by omega)) rfl ?_
            | refine lst_run (run_lss_no rfl rfl (by omega)) rfl ?_
            | refine lst_run (rfl) rfl ?_
          refine lst_done ?_
          refine goes_seq ?_
          refine goes_false rfl ?_
          refine goes_exit rfl ?_
          refine goes_seq ?_
          refine goes_seq ?_
          refine goes_region ?_
          refine lst_run (run_move (by conv => lhs; whnf)) rfl ?_
          first
            | refine lst_run (run_gtr_yes rfl rfl (by omega)) rfl ?_
            | refine lst_run (run_gtr_no rfl rfl (by omega)) rfl ?_
            | refine lst_run (rfl) rfl ?_
          refine lst_done ?_
          refine goes_true rfl ?_
          refine goes_seq ?_
          refine goes_region ?_
          refine lst_run (run_assign (by conv => lhs; whnf)) rfl ?_
          refine lst_run (run_assign (by conv => lhs; whnf)) rfl ?_
          refine lst_done ?_
          refine goes_ret2 Tryz.func41 rfl (by conv => lhs; whnf) (by conv => lhs; whnf) ?_
          exact ⟨rfl, hB⟩
        · rw [if_neg hbig]
          by_cases hdl : x :: q = l
          · have hnn : (x :: q != l) = false := by simp [hdl]
            rw [if_pos hdl]
            refine goes_seq ?_
            refine goes_region ?_
            first
              | refine lst_run (run_lss_yes rfl rfl (by omega)) rfl ?_
              | refine lst_run (run_lss_no rfl rfl (by omega)) rfl ?_
              | refine lst_run (rfl) rfl ?_
            refine lst_done ?_
            refine goes_seq ?_
            refine goes_false rfl ?_
            refine goes_exit rfl ?_
            refine goes_seq ?_
            refine goes_seq ?_
            refine goes_region ?_
            refine lst_run (run_move (by conv => lhs; whnf)) rfl ?_
            first
              | refine lst_run (run_gtr_yes rfl rfl (by omega)) rfl ?_
              | refine lst_run (run_gtr_no rfl rfl (by omega)) rfl ?_
              | refine lst_run (rfl) rfl ?_
            refine lst_done ?_
            refine goes_false rfl ?_
            refine goes_skip ?_
            refine goes_seq ?_
            refine goes_seq ?_
            refine goes_region ?_
            refine lst_run (run_move (by conv => lhs; whnf)) rfl ?_
            refine lst_run (run_move (by conv => lhs; whnf)) rfl ?_
            first
              | refine lst_run (run_neqS_t rfl rfl (by assumption)) rfl ?_
              | refine lst_run (run_neqS_f rfl rfl (by assumption)) rfl ?_
              | refine lst_run (run_neq_str rfl rfl) rfl ?_
              | refine lst_run (rfl) rfl ?_
            refine lst_done ?_
            rw [hnn]
            refine goes_false rfl ?_
            refine goes_skip ?_
            refine goes_seq ?_
            refine goes_region ?_
            refine lst_run (run_move (by conv => lhs; whnf)) rfl ?_
            refine lst_run (run_assign (by conv => lhs; whnf)) rfl ?_
            refine lst_run (run_assign (by conv => lhs; whnf)) rfl ?_
            refine lst_done ?_
            refine goes_ret2 Tryz.func41 rfl (by conv => lhs; whnf) (by conv => lhs; whnf) ?_
            exact ⟨rfl, hB⟩
          · have hnn : (x :: q != l) = true := by simp [hdl]
            rw [if_neg hdl]
            refine goes_seq ?_
            refine goes_region ?_
            first
              | refine lst_run (run_lss_yes rfl rfl (by omega)) rfl ?_
              | refine lst_run (run_lss_no rfl rfl (by omega)) rfl ?_
              | refine lst_run (rfl) rfl ?_
            refine lst_done ?_
            refine goes_seq ?_
            refine goes_false rfl ?_
            refine goes_exit rfl ?_
            refine goes_seq ?_
            refine goes_seq ?_
            refine goes_region ?_
            refine lst_run (run_move (by conv => lhs; whnf)) rfl ?_
            first
              | refine lst_run (run_gtr_yes rfl rfl (by omega)) rfl ?_
              | refine lst_run (run_gtr_no rfl rfl (by omega)) rfl ?_
              | refine lst_run (rfl) rfl ?_
            refine lst_done ?_
            refine goes_false rfl ?_
            refine goes_skip ?_
            refine goes_seq ?_
            refine goes_seq ?_
            refine goes_region ?_
            refine lst_run (run_move (by conv => lhs; whnf)) rfl ?_
            refine lst_run (run_move (by conv => lhs; whnf)) rfl ?_
            first
              | refine lst_run (run_neqS_t rfl rfl (by assumption)) rfl ?_
              | refine lst_run (run_neqS_f rfl rfl (by assumption)) rfl ?_
              | refine lst_run (run_neq_str rfl rfl) rfl ?_
              | refine lst_run (rfl) rfl ?_
            refine lst_done ?_
            rw [hnn]
            refine goes_true rfl ?_
            refine goes_region ?_
            refine lst_run (run_move (by conv => lhs; whnf)) rfl ?_
            refine lst_run (rfl) rfl ?_
            refine lst_run (run_assign (by conv => lhs; whnf)) rfl ?_
            refine lst_done ?_
            refine goes_seq ?_
            refine goes_region ?_
            refine lst_run (run_move (by conv => lhs; whnf)) rfl ?_
            refine lst_run (run_assign (by conv => lhs; whnf)) rfl ?_
            refine lst_run (run_assign (by conv => lhs; whnf)) rfl ?_
            refine lst_done ?_
            refine goes_ret2 Tryz.func41 rfl (by conv => lhs; whnf) (by conv => lhs; whnf) ?_
            refine ⟨?_, hB⟩
            show Ending.returned (.tuple #[.int .i64 (IntKind.i64.wrap (0 - ((dval (x :: q) : Nat) : Int))), .bool true]) = _
            rw [wrap_of (by omega) (by omega), Int.zero_sub]
            rfl
end Go.Proofs.YtdiophafmokfiaaGreatDoor
namespace Go.Proofs.YtdiophafmokfiaaGreatDoor
open Go.RowKit Go.Shelf
set_option linter.unusedVariables false
set_option linter.unusedSimpArgs false
set_option maxRecDepth 100000
set_option maxHeartbeats 1000000

/-- The parser's block. -/
abbrev psr (L V : Value) (bad : Bool) : Obj := .cells [L, V, .bool bad].toArray 50
section
variable {M : List Nat} {w0 : World} {H : List (Nat × Obj)} {F : List (World → Prop)} {b : Nat} {φ : World → Prop}
theorem front_any (p : PS) (L V : Value) (w : World) (hL : Sx φ L p.l) (hφ : φ ∈ F) (hS : St M w0 ((b, psr L V p.bad) :: H) F w) :
    Calls Tryz.prog 40 #[ptr b] w fun e w' => e = .returned (sv (p.l.headD [])) ∧ w' = w := by
  obtain ⟨l, vars, bad⟩ := p
  cases l with
  | nil =>
    obtain ⟨A, c, rfl, hc⟩ := hL.form
    refine goes_enter1 Tryz.func40 rfl Tryz.ntmps40 rfl ?_
    refine goes_seq ?_
    refine goes_region ?_
    refine lst_run (run_assign (by conv => lhs; whnf)) rfl ?_
    refine lst_done ?_
    refine goes_seq ?_
    refine goes_seq ?_
    refine goes_region ?_
    refine lst_run (run_move (by conv => lhs; whnf)) rfl ?_
    refine lst_run (run_nilCheck rfl) rfl ?_
    refine lst_run (run_fieldAddr (off := 0) rfl rfl) rfl ?_
    first
      | refine lst_run (run_load1_own hS rfl rfl (by first | exact .head | exact .tail .head | exact .tail (.tail .head) | exact .tail (.tail (.tail .head)) | exact .tail (.tail (.tail (.tail .head))) | exact .tail (.tail (.tail (.tail (.tail .head))))) (by repeat constructor)) rfl ?_
      | refine lst_run (run_load1 rfl rfl (by first | assumption | exact hS.cell0 (by assumption) | exact lv_next hS | exact lv_list hS)) rfl ?_
    refine lst_run (run_len_slice rfl rfl rfl) rfl ?_
    first
      | refine lst_run (run_eql_one_int rfl rfl) rfl ?_
      | refine lst_run (run_eql_no rfl rfl (by first | assumption | omega)) rfl ?_
      | refine lst_run (run_eql_yes rfl rfl (by omega)) rfl ?_
      | refine lst_run (rfl) rfl ?_
    refine lst_done ?_
    refine goes_true rfl ?_
    refine goes_seq ?_
    refine goes_region ?_
    refine lst_run (run_assign (by conv => lhs; whnf)) rfl ?_
    refine lst_done ?_
    refine goes_ret1 Tryz.func40 rfl (by conv => lhs; whnf) ?_
    exact ⟨rfl, rfl⟩
  | cons x r =>
    obtain ⟨A, c, rfl, hc⟩ := hL.form
    obtain ⟨_, _, b1, o1, rfl, hcell⟩ := hL.head
    have hc0 := hcell w (hS.fact hφ)
    have hc1 : w.cell? ⟨b1, o1 + (0 : Int).toNat * 1, none⟩ = some (sv x) := hc0
    simp only [List.length_cons] at hc
    refine goes_enter1 Tryz.func40 rfl Tryz.ntmps40 rfl ?_
    refine goes_seq ?_
    refine goes_region ?_
    refine lst_run (run_assign (by conv => lhs; whnf)) rfl ?_
    refine lst_done ?_
    refine goes_seq ?_
    refine goes_seq ?_
    refine goes_region ?_
    refine lst_run (run_move (by conv => lhs; whnf)) rfl ?_
    refine lst_run (run_nilCheck rfl) rfl ?_
    refine lst_run (run_fieldAddr (off := 0) rfl rfl) rfl ?_
    first
      | refine lst_run (run_load1_own hS rfl rfl (by first | exact .head | exact .tail .head | exact .tail (.tail .head) | exact .tail (.tail (.tail .head)) | exact .tail (.tail (.tail (.tail .head))) | exact .tail (.tail (.tail (.tail (.tail .head))))) (by repeat constructor)) rfl ?_
      | refine lst_run (run_load1 rfl rfl (by first | assumption | exact hS.cell0 (by assumption) | exact lv_next hS | exact lv_list hS)) rfl ?_
    refine lst_run (run_len_slice rfl rfl rfl) rfl ?_
    first
      | refine lst_run (run_eql_one_int rfl rfl) rfl ?_
      | refine lst_run (run_eql_no rfl rfl (by first | assumption | omega)) rfl ?_
      | refine lst_run (run_eql_yes rfl rfl (by omega)) rfl ?_
      | refine lst_run (rfl) rfl ?_
    refine lst_done ?_
    refine goes_false rfl ?_
    refine goes_skip ?_
    refine goes_seq ?_
    refine goes_region ?_
    refine lst_run (run_move (by conv => lhs; whnf)) rfl ?_
    refine lst_run (run_nilCheck rfl) rfl ?_
    refine lst_run (run_fieldAddr (off := 0) rfl rfl) rfl ?_
    first
      | refine lst_run (run_load1_own hS rfl rfl (by first | exact .head | exact .tail .head | exact .tail (.tail .head) | exact .tail (.tail (.tail .head)) | exact .tail (.tail (.tail (.tail .head))) | exact .tail (.tail (.tail (.tail (.tail .head))))) (by repeat constructor)) rfl ?_
      | refine lst_run (run_load1 rfl rfl (by first | assumption | exact hS.cell0 (by assumption) | exact lv_next hS | exact lv_list hS)) rfl ?_
    refine lst_run (run_indexAddr (sz := 1) rfl rfl rfl rfl (by omega) (by omega)) rfl ?_
    first
      | refine lst_run (run_load1_own hS rfl rfl (by first | exact .head | exact .tail .head | exact .tail (.tail .head) | exact .tail (.tail (.tail .head)) | exact .tail (.tail (.tail (.tail .head))) | exact .tail (.tail (.tail (.tail (.tail .head))))) (by repeat constructor)) rfl ?_
      | refine lst_run (run_load1 rfl rfl (by first | assumption | exact hS.cell0 (by assumption) | exact lv_next hS | exact lv_list hS)) rfl ?_
    refine lst_run (run_assign (by conv => lhs; whnf)) rfl ?_
    refine lst_done ?_
    refine goes_ret1 Tryz.func40 rfl (by conv => lhs; whnf) ?_
    exact ⟨rfl, rfl⟩
theorem takeP_any (p : PS) (t : Str) (L V : Value) (w : World) (hL : Sx φ L p.l) (hφ : φ ∈ F) (hS : St M w0 ((b, psr L V p.bad) :: H) F w) :
    Calls Tryz.prog 20 #[ptr b, sv t] w fun e w' => ∃ L', e = .returned (.bool (p.has t)) ∧ Sx φ L' (if p.has t then p.pop else p).l ∧ St M w0 ((b, psr L' V p.bad) :: H) F w' := by
  obtain ⟨l, vars, bad⟩ := p
  cases l with
  | nil =>
    obtain ⟨A, c, rfl, hc⟩ := hL.form
    refine goes_enter2 Tryz.func20 rfl Tryz.ntmps20 rfl ?_
    refine goes_seq ?_
    refine goes_region ?_
    refine lst_run (run_assign (by conv => lhs; whnf)) rfl ?_
    refine lst_done ?_
    refine goes_seq ?_
    refine goes_seq ?_
    refine goes_region ?_
    refine lst_run (run_move (by conv => lhs; whnf)) rfl ?_
    refine lst_run (run_nilCheck rfl) rfl ?_
    refine lst_run (run_fieldAddr (off := 0) rfl rfl) rfl ?_
    first
      | refine lst_run (run_load1_own hS rfl rfl (by first | exact .head | exact .tail .head | exact .tail (.tail .head) | exact .tail (.tail (.tail .head)) | exact .tail (.tail (.tail (.tail .head))) | exact .tail (.tail (.tail (.tail (.tail .head))))) (by repeat constructor)) rfl ?_
      | refine lst_run (run_load1 rfl rfl (by first | assumption | exact hS.cell0 (by assumption) | exact lv_next hS | exact lv_list hS)) rfl ?_
    refine lst_run (run_len_slice rfl rfl rfl) rfl ?_
    first
      | refine lst_run (run_gtr_yes rfl rfl (by omega)) rfl ?_
      | refine lst_run (run_gtr_no rfl rfl (by omega)) rfl ?_
      | refine lst_run (rfl) rfl ?_
    refine lst_run (run_move (by conv => lhs; whnf)) rfl ?_
    refine lst_pass rfl rfl rfl ?_
    refine lst_pass rfl rfl rfl ?_
    refine lst_pass rfl rfl rfl ?_
    refine lst_pass rfl rfl rfl ?_
    refine lst_pass rfl rfl rfl ?_
    refine lst_pass rfl rfl rfl ?_
    refine lst_pass rfl rfl rfl ?_
    refine lst_pass rfl rfl rfl ?_
    first
      | refine lst_run (run_pick_t rfl (by conv => lhs; whnf)) rfl ?_
      | refine lst_run (run_pick_f rfl (by conv => lhs; whnf)) rfl ?_
    refine lst_done ?_
    refine goes_false rfl ?_
    refine goes_skip ?_
    refine goes_seq ?_
    refine goes_region ?_
    refine lst_run (run_assign (by conv => lhs; whnf)) rfl ?_
    refine lst_done ?_
    refine goes_ret1 Tryz.func20 rfl (by conv => lhs; whnf) ?_
    exact ⟨_, rfl, hL, hS⟩
  | cons x r =>
    obtain ⟨A, c, rfl, hc⟩ := hL.form
    obtain ⟨_, _, b1, o1, rfl, hcell⟩ := hL.head
    have hc0 := hcell w (hS.fact hφ)
    have hc1 : w.cell? ⟨b1, o1 + (0 : Int).toNat * 1, none⟩ = some (sv x) := hc0
    simp only [List.length_cons] at hc
    have hx : (x == t) = (PS.mk (x :: r) vars bad).has t := by simp [PS.has]
    cases hh : (PS.mk (x :: r) vars bad).has t with
    | true =>
      rw [hh] at hx
      refine goes_enter2 Tryz.func20 rfl Tryz.ntmps20 rfl ?_
      refine goes_seq ?_
      refine goes_region ?_
      refine lst_run (run_assign (by conv => lhs; whnf)) rfl ?_
      refine lst_done ?_
      refine goes_seq ?_
      refine goes_seq ?_
      refine goes_region ?_
      refine lst_run (run_move (by conv => lhs; whnf)) rfl ?_
      refine lst_run (run_nilCheck rfl) rfl ?_
      refine lst_run (run_fieldAddr (off := 0) rfl rfl) rfl ?_
      first
        | refine lst_run (run_load1_own hS rfl rfl (by first | exact .head | exact .tail .head | exact .tail (.tail .head) | exact .tail (.tail (.tail .head)) | exact .tail (.tail (.tail (.tail .head))) | exact .tail (.tail (.tail (.tail (.tail .head))))) (by repeat constructor)) rfl ?_
        | refine lst_run (run_load1 rfl rfl (by first | assumption | exact hS.cell0 (by assumption) | exact lv_next hS | exact lv_list hS)) rfl ?_
      refine lst_run (run_len_slice rfl rfl rfl) rfl ?_
      first
        | refine lst_run (run_gtr_yes rfl rfl (by omega)) rfl ?_
        | refine lst_run (run_gtr_no rfl rfl (by omega)) rfl ?_
        | refine lst_run (rfl) rfl ?_
      refine lst_run (run_move (by conv => lhs; whnf)) rfl ?_
      refine lst_guard rfl rfl ?_
      refine lst_run (run_move (by conv => lhs; whnf)) rfl ?_
      refine lst_guard rfl rfl ?_
      refine lst_run (run_nilCheck rfl) rfl ?_
      refine lst_guard rfl rfl ?_
      refine lst_run (run_fieldAddr (off := 0) rfl rfl) rfl ?_
      refine lst_guard rfl rfl ?_
      first
        | refine lst_run (run_load1_own hS rfl rfl (by first | exact .head | exact .tail .head | exact .tail (.tail .head) | exact .tail (.tail (.tail .head)) | exact .tail (.tail (.tail (.tail .head))) | exact .tail (.tail (.tail (.tail (.tail .head))))) (by repeat constructor)) rfl ?_
        | refine lst_run (run_load1 rfl rfl (by first | assumption | exact hS.cell0 (by assumption) | exact lv_next hS | exact lv_list hS)) rfl ?_
      refine lst_guard rfl rfl ?_
      refine lst_run (run_indexAddr (sz := 1) rfl rfl rfl rfl (by omega) (by omega)) rfl ?_
      refine lst_guard rfl rfl ?_
      first
        | refine lst_run (run_load1_own hS rfl rfl (by first | exact .head | exact .tail .head | exact .tail (.tail .head) | exact .tail (.tail (.tail .head)) | exact .tail (.tail (.tail (.tail .head))) | exact .tail (.tail (.tail (.tail (.tail .head))))) (by repeat constructor)) rfl ?_
        | refine lst_run (run_load1 rfl rfl (by first | assumption | exact hS.cell0 (by assumption) | exact lv_next hS | exact lv_list hS)) rfl ?_
      refine lst_guard rfl rfl ?_
      refine lst_run (run_move (by conv => lhs; whnf)) rfl ?_
      refine lst_guard rfl rfl ?_
      first
        | refine lst_run (run_eqlS_t rfl rfl (by assumption)) rfl ?_
        | refine lst_run (run_eqlS_f rfl rfl (by assumption)) rfl ?_
        | refine lst_run (run_eql_str rfl rfl) rfl ?_
        | refine lst_run (rfl) rfl ?_
      first
        | refine lst_run (run_pick_t rfl (by conv => lhs; whnf)) rfl ?_
        | refine lst_run (run_pick_f rfl (by conv => lhs; whnf)) rfl ?_
      refine lst_done ?_
      rw [hx]
      refine goes_true rfl ?_
      refine goes_seq ?_
      refine goes_region ?_
      refine lst_run (run_move (by conv => lhs; whnf)) rfl ?_
      refine lst_run (run_move (by conv => lhs; whnf)) rfl ?_
      refine lst_run (run_nilCheck rfl) rfl ?_
      refine lst_run (run_fieldAddr (off := 0) rfl rfl) rfl ?_
      first
        | refine lst_run (run_load1_own hS rfl rfl (by first | exact .head | exact .tail .head | exact .tail (.tail .head) | exact .tail (.tail (.tail .head)) | exact .tail (.tail (.tail (.tail .head))) | exact .tail (.tail (.tail (.tail (.tail .head))))) (by repeat constructor)) rfl ?_
        | refine lst_run (run_load1 rfl rfl (by first | assumption | exact hS.cell0 (by assumption) | exact lv_next hS | exact lv_list hS)) rfl ?_
      first
        | refine lst_run (run_slice_lt (sz := 1) rfl rfl rfl rfl (by omega) (by omega) (by omega)) rfl ?_
        | refine lst_run (run_slice_rest (sz := 1) rfl rfl rfl rfl (by omega) (by omega)) rfl ?_
      refine lst_run (run_nilCheck rfl) rfl ?_
      refine lst_run (run_fieldAddr (off := 0) rfl rfl) rfl ?_
      refine lst_store1 hS rfl (by conv => lhs; whnf) rfl rfl (by first | exact .head | exact .tail .head | exact .tail (.tail .head) | exact .tail (.tail (.tail .head)) | exact .tail (.tail (.tail (.tail .head))) | exact .tail (.tail (.tail (.tail (.tail .head))))) (by repeat constructor) (by first | exact .head | exact .tail .head | exact .tail (.tail .head) | exact .tail (.tail (.tail .head)) | exact .tail (.tail (.tail (.tail .head))) | exact .tail (.tail (.tail (.tail (.tail .head))))) ?_
      clear hS
      intro wx1 hS
      refine lst_done ?_
      refine goes_seq ?_
      refine goes_region ?_
      refine lst_run (run_assign (by conv => lhs; whnf)) rfl ?_
      refine lst_done ?_
      refine goes_ret1 Tryz.func20 rfl (by conv => lhs; whnf) ?_
      exact ⟨_, rfl, hL.tail, hS⟩
    | false =>
      rw [hh] at hx
      refine goes_enter2 Tryz.func20 rfl Tryz.ntmps20 rfl ?_
      refine goes_seq ?_
      refine goes_region ?_
      refine lst_run (run_assign (by conv => lhs; whnf)) rfl ?_
      refine lst_done ?_
      refine goes_seq ?_
      refine goes_seq ?_
      refine goes_region ?_
      refine lst_run (run_move (by conv => lhs; whnf)) rfl ?_
      refine lst_run (run_nilCheck rfl) rfl ?_
      refine lst_run (run_fieldAddr (off := 0) rfl rfl) rfl ?_
      first
        | refine lst_run (run_load1_own hS rfl rfl (by first | exact .head | exact .tail .head | exact .tail (.tail .head) | exact .tail (.tail (.tail .head)) | exact .tail (.tail (.tail (.tail .head))) | exact .tail (.tail (.tail (.tail (.tail .head))))) (by repeat constructor)) rfl ?_
        | refine lst_run (run_load1 rfl rfl (by first | assumption | exact hS.cell0 (by assumption) | exact lv_next hS | exact lv_list hS)) rfl ?_
      refine lst_run (run_len_slice rfl rfl rfl) rfl ?_
      first
        | refine lst_run (run_gtr_yes rfl rfl (by omega)) rfl ?_
        | refine lst_run (run_gtr_no rfl rfl (by omega)) rfl ?_
        | refine lst_run (rfl) rfl ?_
      refine lst_run (run_move (by conv => lhs; whnf)) rfl ?_
      refine lst_guard rfl rfl ?_
      refine lst_run (run_move (by conv => lhs; whnf)) rfl ?_
      refine lst_guard rfl rfl ?_
      refine lst_run (run_nilCheck rfl) rfl ?_
      refine lst_guard rfl rfl ?_
      refine lst_run (run_fieldAddr (off := 0) rfl rfl) rfl ?_
      refine lst_guard rfl rfl ?_
      first
        | refine lst_run (run_load1_own hS rfl rfl (by first | exact .head | exact .tail .head | exact .tail (.tail .head) | exact .tail (.tail (.tail .head)) | exact .tail (.tail (.tail (.tail .head))) | exact .tail (.tail (.tail (.tail (.tail .head))))) (by repeat constructor)) rfl ?_
        | refine lst_run (run_load1 rfl rfl (by first | assumption | exact hS.cell0 (by assumption) | exact lv_next hS | exact lv_list hS)) rfl ?_
      refine lst_guard rfl rfl ?_
      refine lst_run (run_indexAddr (sz := 1) rfl rfl rfl rfl (by omega) (by omega)) rfl ?_
      refine lst_guard rfl rfl ?_
      first
        | refine lst_run (run_load1_own hS rfl rfl (by first | exact .head | exact .tail .head | exact .tail (.tail .head) | exact .tail (.tail (.tail .head)) | exact .tail (.tail (.tail (.tail .head))) | exact .tail (.tail (.tail (.tail (.tail .head))))) (by repeat constructor)) rfl ?_
        | refine lst_run (run_load1 rfl rfl (by first | assumption | exact hS.cell0 (by assumption) | exact lv_next hS | exact lv_list hS)) rfl ?_
      refine lst_guard rfl rfl ?_
      refine lst_run (run_move (by conv => lhs; whnf)) rfl ?_
      refine lst_guard rfl rfl ?_
      first
        | refine lst_run (run_eqlS_t rfl rfl (by assumption)) rfl ?_
        | refine lst_run (run_eqlS_f rfl rfl (by assumption)) rfl ?_
        | refine lst_run (run_eql_str rfl rfl) rfl ?_
        | refine lst_run (rfl) rfl ?_
      first
        | refine lst_run (run_pick_t rfl (by conv => lhs; whnf)) rfl ?_
        | refine lst_run (run_pick_f rfl (by conv => lhs; whnf)) rfl ?_
      refine lst_done ?_
      rw [hx]
      refine goes_false rfl ?_
      refine goes_skip ?_
      refine goes_seq ?_
      refine goes_region ?_
      refine lst_run (run_assign (by conv => lhs; whnf)) rfl ?_
      refine lst_done ?_
      refine goes_ret1 Tryz.func20 rfl (by conv => lhs; whnf) ?_
      exact ⟨_, rfl, hL, hS⟩
end
end Go.Proofs.YtdiophafmokfiaaGreatDoor
