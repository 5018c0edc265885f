/-
  The document's own words of a text, walked.
-/
import Derived.Test.YtdiophafmokfiaaGreatDoorG5
import Derived.Test.YtdiophafmokfiaaGreatDoorG4
namespace Go.Proofs.YtdiophafmokfiaaGreatDoor
open Go.RowKit Go.Shelf
set_option linter.unusedVariables false
set_option linter.unusedSimpArgs false
set_option maxRecDepth 100000
set_option maxHeartbeats 1000000

theorem words1_any (c : UInt8) (w : World) : Calls Tryz.prog 37 #[.int .u8 c.toNat] w fun e w' => e = .returned (.bool (lowB c)) ∧ w' = w := by
  refine goes_enter1 Tryz.func37 rfl Tryz.ntmps37 rfl ?_
  refine goes_seq ?_
  refine goes_region ?_
  refine lst_run (run_assign (by conv => lhs; whnf)) rfl ?_
  refine lst_done ?_
  refine goes_seq ?_
  refine goes_region ?_
  refine lst_run (run_move (by conv => lhs; whnf)) rfl ?_
  first
    | refine lst_run (run_geq_yes rfl rfl (by omega)) rfl ?_
    | refine lst_run (run_geq_no rfl rfl (by omega)) rfl ?_
    | refine lst_run (rfl) rfl ?_
  refine lst_run (run_move (by conv => lhs; whnf)) rfl ?_
  unfold lowB
  cases decide ((c.toNat : Int) ≥ 97)
  · refine lst_pass rfl rfl rfl ?_
    refine lst_pass rfl rfl rfl ?_
    first
      | refine lst_run (run_pick_t rfl (by conv => lhs; whnf)) rfl ?_
      | refine lst_run (run_pick_f rfl (by conv => lhs; whnf)) rfl ?_
    refine lst_run (run_assign (by conv => lhs; whnf)) rfl ?_
    refine lst_done ?_
    refine goes_ret1 Tryz.func37 rfl (by conv => lhs; whnf) ?_
    exact ⟨rfl, rfl⟩
  · refine lst_guard rfl rfl ?_
    refine lst_run (run_move (by conv => lhs; whnf)) rfl ?_
    refine lst_guard rfl rfl ?_
    first
      | refine lst_run (run_leq_yes rfl rfl (by omega)) rfl ?_
      | refine lst_run (run_leq_no rfl rfl (by omega)) rfl ?_
      | refine lst_run (rfl) rfl ?_
    first
      | refine lst_run (run_pick_t rfl (by conv => lhs; whnf)) rfl ?_
      | refine lst_run (run_pick_f rfl (by conv => lhs; whnf)) rfl ?_
    refine lst_run (run_assign (by conv => lhs; whnf)) rfl ?_
    refine lst_done ?_
    refine goes_ret1 Tryz.func37 rfl (by conv => lhs; whnf) ?_
    exact ⟨rfl, rfl⟩
theorem words2_any (c : UInt8) (w : World) : Calls Tryz.prog 38 #[.int .u8 c.toNat] w fun e w' => e = .returned (.bool (digB c)) ∧ w' = w := by
  refine goes_enter1 Tryz.func38 rfl Tryz.ntmps38 rfl ?_
  refine goes_seq ?_
  refine goes_region ?_
  refine lst_run (run_assign (by conv => lhs; whnf)) rfl ?_
  refine lst_done ?_
  refine goes_seq ?_
  refine goes_region ?_
  refine lst_run (run_move (by conv => lhs; whnf)) rfl ?_
  first
    | refine lst_run (run_geq_yes rfl rfl (by omega)) rfl ?_
    | refine lst_run (run_geq_no rfl rfl (by omega)) rfl ?_
    | refine lst_run (rfl) rfl ?_
  refine lst_run (run_move (by conv => lhs; whnf)) rfl ?_
  unfold digB
  cases decide ((c.toNat : Int) ≥ 48)
  · refine lst_pass rfl rfl rfl ?_
    refine lst_pass rfl rfl rfl ?_
    first
      | refine lst_run (run_pick_t rfl (by conv => lhs; whnf)) rfl ?_
      | refine lst_run (run_pick_f rfl (by conv => lhs; whnf)) rfl ?_
    refine lst_run (run_assign (by conv => lhs; whnf)) rfl ?_
    refine lst_done ?_
    refine goes_ret1 Tryz.func38 rfl (by conv => lhs; whnf) ?_
    exact ⟨rfl, rfl⟩
  · refine lst_guard rfl rfl ?_
    refine lst_run (run_move (by conv => lhs; whnf)) rfl ?_
    refine lst_guard rfl rfl ?_
    first
      | refine lst_run (run_leq_yes rfl rfl (by omega)) rfl ?_
      | refine lst_run (run_leq_no rfl rfl (by omega)) rfl ?_
      | refine lst_run (rfl) rfl ?_
    first
      | refine lst_run (run_pick_t rfl (by conv => lhs; whnf)) rfl ?_
      | refine lst_run (run_pick_f rfl (by conv => lhs; whnf)) rfl ?_
    refine lst_run (run_assign (by conv => lhs; whnf)) rfl ?_
    refine lst_done ?_
    refine goes_ret1 Tryz.func38 rfl (by conv => lhs; whnf) ?_
    exact ⟨rfl, rfl⟩
theorem idx_any (set : Str) (c : UInt8) (w : World) : Calls Tryz.prog 39 #[sv set, .int .u8 c.toNat] w fun e w' => e = .returned (.int .i64 (Lib.indexByte set c)) ∧ w' = w := by
  have h := Any.strings_IndexByte Tryz.lays137 ⟨set.toArray⟩ (c.toNat : Int) w
  refine Calls.mono h ?_
  rintro e w' ⟨rfl, hw⟩
  refine ⟨?_, hw⟩
  rw [data_mk]
  have : ((c.toNat : Nat) : Int).toNat.toUInt8 = c := by simp
  rw [this]
def whites : Str := [32, 10, 9, 13]
theorem white_of (c : UInt8) : decide ((Lib.indexByte whites c) ≥ 0) = whiteB c := by
  have h : ∀ n : Fin 256, decide ((Lib.indexByte whites (UInt8.ofNat n.val)) ≥ 0) = whiteB (UInt8.ofNat n.val) := by decide +kernel
  have := h ⟨c.toNat, c.toNat_lt⟩
  simpa using this
theorem white_any (c : UInt8) (w : World) : Calls Tryz.prog 39 #[sv [32, 10, 9, 13], .int .u8 c.toNat] w fun e w' => (∃ i : Int, e = .returned (.int .i64 i) ∧ decide (i ≥ 0) = whiteB c) ∧ w' = w := by
  refine Calls.mono (idx_any whites c w) ?_
  rintro e w' ⟨rfl, rfl⟩
  exact ⟨⟨_, rfl, white_of c⟩, rfl⟩
theorem spanN_app {p : UInt8 → Bool} : ∀ (E Q : Str), (∀ c ∈ E, p c = true) → spanN p (E ++ Q) = E.length + spanN p Q
  | [], Q, _ => by simp
  | c :: E, Q, h => by
    simp only [List.cons_append, spanN, h c (.head _), cond_true, List.length_cons]
    rw [spanN_app E Q fun x hx => h x (.tail _ hx)]
    omega
theorem all_snoc' {p : UInt8 → Bool} {D : Str} {c : UInt8} (h : ∀ x ∈ D, p x = true) (hc : p c = true) : ∀ x ∈ D ++ [c], p x = true := by
  intro x hx
  rcases List.mem_append.1 hx with hx | hx
  · exact h x hx
  · rw [List.mem_singleton.1 hx]; exact hc
theorem cut_mid (D R : Str) (n : Nat) (i j : Int) (hi : i = (D.length : Nat)) (hj : j = (D.length : Nat) + (n : Nat)) : ((D ++ R).take j.toNat).drop i.toNat = R.take n := by
  have e1 : i.toNat = D.length := by omega
  have e2 : j.toNat = D.length + n := by omega
  rw [e1, e2, List.take_length_add_append, List.drop_left]
section
variable {M : List Nat} {w0 : World} {H : List (Nat × Obj)} {F : List (World → Prop)}
theorem words_any (l : Str) (w : World) (hl : l.length ≤ 2000) (hS : St M w0 H F w) :
    Calls Tryz.prog 18 #[sv l] w fun e w' => ∃ v O, e = .returned v ∧ Row 9 1 v (wordsM l).length ((wordsM l).map sv) O ∧ St M w0 (O ++ H) F w' := by
  refine goes_enter1 Tryz.func18 rfl Tryz.ntmps18 rfl ?_
  refine goes_seq ?_
  refine goes_region ?_
  refine lst_run (run_assign (by conv => lhs; whnf)) rfl ?_
  refine lst_done ?_
  refine goes_seq ?_
  refine goes_region ?_
  refine lst_run (run_assign (by conv => lhs; whnf)) rfl ?_
  refine lst_done ?_
  refine goes_seq ?_
  refine goes_region ?_
  refine lst_run (run_assign (by conv => lhs; whnf)) rfl ?_
  refine lst_done ?_
  refine goes_seq ?_
  refine goes_region ?_
  refine lst_run (run_assign (by conv => lhs; whnf)) rfl ?_
  refine lst_done ?_
  refine goes_seq ?_
  refine goes_seq ?_
  refine goes_region ?_
  refine lst_run (run_assign (by conv => lhs; whnf)) rfl ?_
  refine lst_done ?_
  refine goes_block ?_
  refine goes_loop2 3 6 (9 :: 10 :: 11 :: 12 :: 13 :: 14 :: 15 :: 7 :: 8 :: 20 :: 21 :: 22 :: 19 :: 23 :: 24 :: 26 :: 27 :: 28 :: 29 :: 30 :: 31 :: 32 :: 33 :: 34 :: 35 :: 36 :: 25 :: 37 :: 38 :: 39 :: 40 :: 41 :: 42 :: 43 :: 44 :: 45 :: 46 :: 47 :: 48 :: 49 :: 50 :: 51 :: 52 :: 53 :: 55 :: 56 :: 57 :: 58 :: 59 :: 60 :: 61 :: 54 :: 62 :: 63 :: 64 :: 65 :: 66 :: 67 :: 68 :: 69 :: 70 :: 71 :: 72 :: 73 :: 74 :: 75 :: 76 :: 77 :: 78 :: 80 :: 81 :: 82 :: 83 :: 84 :: 85 :: 86 :: 87 :: 88 :: 89 :: 90 :: 91 :: 92 :: 93 :: 94 :: 95 :: 79 :: 97 :: 98 :: 99 :: 96 :: 16 :: 17 :: 18 :: 2 :: 100 :: 101 :: 102 :: 103 :: 104 :: 105 :: 106 :: 107 :: 108 :: 109 :: 110 :: 111 :: []) (fun (R : Str) v i w' => ∃ D acc O, l = D ++ R ∧ i = .int .i64 (D.length : Nat) ∧ Row 9 1 v acc.length (acc.map sv) O ∧ St M w0 (O ++ H) F w' ∧ wordsM l = acc ++ wordsM R ∧ acc.length ≤ D.length) (fun R => R.length) (l) ?_ (by conv => lhs; whnf) (by conv => lhs; whnf) ?_
  · exact ⟨[], [], [], rfl, rfl, Row.nil_, hS, rfl, Nat.le_refl _⟩
  clear hS
  rintro R v2 i2 w2 jv ⟨D, acc, O, hD, rfl, hR, hS, hW, hacc⟩ ih
  have hlen : l.length = D.length + R.length := by rw [hD, List.length_append]
  obtain ⟨A, cp, rfl⟩ := hR.form
  cases R with
  | nil =>
    simp only [List.length_nil] at hlen
    rw [words_nil, List.append_nil] at hW
    refine goes_seq ?_
    refine goes_seq ?_
    refine goes_region ?_
    refine lst_run (run_move (by conv => lhs; whnf)) rfl ?_
    refine lst_run (run_move (by conv => lhs; whnf)) rfl ?_
    refine lst_run (run_len_str rfl rfl rfl) rfl ?_
    first
      | refine lst_run (run_lss_yes rfl rfl (by omega)) rfl ?_
      | refine lst_run (run_lss_no rfl rfl (by omega)) rfl ?_
      | refine lst_run (rfl) rfl ?_
    refine lst_done ?_
    refine goes_false rfl ?_
    refine goes_exit rfl ?_
    refine goes_seq ?_
    refine goes_region ?_
    refine lst_run (run_move (by conv => lhs; whnf)) rfl ?_
    refine lst_run (run_assign (by conv => lhs; whnf)) rfl ?_
    refine lst_done ?_
    refine goes_ret1 Tryz.func18 rfl (by conv => lhs; whnf) ?_
    rw [hW]
    exact ⟨_, O, rfl, hR, hS⟩
  | cons c r =>
    simp only [List.length_cons] at hlen
    have hget : l[((D.length : Nat) : Int).toNat]? = some c := by rw [hD]; simp
    have hwl := wordLen_le (c :: r)
    simp only [List.length_cons] at hwl
    cases hw : whiteB c with
    | true =>
      refine goes_seq ?_
      refine goes_seq ?_
      refine goes_region ?_
      refine lst_run (run_move (by conv => lhs; whnf)) rfl ?_
      refine lst_run (run_move (by conv => lhs; whnf)) rfl ?_
      refine lst_run (run_len_str rfl rfl rfl) rfl ?_
      first
        | refine lst_run (run_lss_yes rfl rfl (by omega)) rfl ?_
        | refine lst_run (run_lss_no rfl rfl (by omega)) rfl ?_
        | refine lst_run (rfl) rfl ?_
      refine lst_done ?_
      refine goes_true rfl ?_
      refine goes_skip ?_
      refine goes_block ?_
      refine goes_seq ?_
      refine goes_region ?_
      refine lst_run (run_move (by conv => lhs; whnf)) rfl ?_
      refine lst_run (run_move (by conv => lhs; whnf)) rfl ?_
      refine lst_run (run_index_str rfl rfl rfl (by omega) (by first | rfl | assumption)) rfl ?_
      refine lst_run (run_assign (by conv => lhs; whnf)) rfl ?_
      refine lst_done ?_
      refine goes_seq ?_
      refine goes_region ?_
      refine lst_run (run_assign (by conv => lhs; whnf)) rfl ?_
      refine lst_done ?_
      refine goes_seq ?_
      refine goes_block ?_
      refine goes_seq ?_
      refine goes_region ?_
      refine lst_run (run_move (by conv => lhs; whnf)) rfl ?_
      refine lst_enter (run_call (by kernel_rfl) (args_2 (by conv => lhs; whnf) (by conv => lhs; whnf))) rfl ?_
      refine Calls.mono (white_any c _) ?_
      rintro _ w3 ⟨⟨i, rfl, hi⟩, rfl⟩
      refine ⟨_, rfl, ?_⟩
      have hi0 : 0 ≤ i := by rw [hw] at hi; exact of_decide_eq_true hi
      first
        | refine lst_run (run_geq_yes rfl rfl (by omega)) rfl ?_
        | refine lst_run (run_geq_no rfl rfl (by omega)) rfl ?_
        | refine lst_run (rfl) rfl ?_
      refine lst_run (run_assign (by conv => lhs; whnf)) rfl ?_
      refine lst_done ?_
      refine goes_true rfl ?_
      refine goes_seq ?_
      refine goes_region ?_
      refine lst_run (run_move (by conv => lhs; whnf)) rfl ?_
      refine lst_run (run_add rfl rfl (by omega) (by omega)) rfl ?_
      refine lst_run (run_assign (by conv => lhs; whnf)) rfl ?_
      refine lst_done ?_
      refine goes_exit rfl ?_
      refine ih (r) _ _ _ _ ?_ ?_ (by conv => lhs; whnf) (by conv => lhs; whnf) (by kernel_rfl)
      · simp
      · exact ⟨D ++ [c], acc, O, by rw [hD, List.append_assoc]; rfl, by simp, hR, hS, by rw [hW, words_white r hw], by simp; omega⟩
    | false =>
      subst hD
      cases hlo : lowB c with
      | true =>
        refine goes_seq ?_
        refine goes_seq ?_
        refine goes_region ?_
        refine lst_run (run_move (by conv => lhs; whnf)) rfl ?_
        refine lst_run (run_move (by conv => lhs; whnf)) rfl ?_
        refine lst_run (run_len_str rfl rfl rfl) rfl ?_
        first
          | refine lst_run (run_lss_yes rfl rfl (by omega)) rfl ?_
          | refine lst_run (run_lss_no rfl rfl (by omega)) rfl ?_
          | refine lst_run (rfl) rfl ?_
        refine lst_done ?_
        refine goes_true rfl ?_
        refine goes_skip ?_
        refine goes_block ?_
        refine goes_seq ?_
        refine goes_region ?_
        refine lst_run (run_move (by conv => lhs; whnf)) rfl ?_
        refine lst_run (run_move (by conv => lhs; whnf)) rfl ?_
        refine lst_run (run_index_str rfl rfl rfl (by omega) (by first | rfl | assumption)) rfl ?_
        refine lst_run (run_assign (by conv => lhs; whnf)) rfl ?_
        refine lst_done ?_
        refine goes_seq ?_
        refine goes_region ?_
        refine lst_run (run_assign (by conv => lhs; whnf)) rfl ?_
        refine lst_done ?_
        refine goes_seq ?_
        refine goes_block ?_
        refine goes_seq ?_
        refine goes_region ?_
        refine lst_run (run_move (by conv => lhs; whnf)) rfl ?_
        refine lst_enter (run_call (by kernel_rfl) (args_2 (by conv => lhs; whnf) (by conv => lhs; whnf))) rfl ?_
        refine Calls.mono (white_any c _) ?_
        rintro _ w3 ⟨⟨i, rfl, hi⟩, rfl⟩
        refine ⟨_, rfl, ?_⟩
        have hi0 : i < 0 := by rw [hw] at hi; have := of_decide_eq_false hi; omega
        first
          | refine lst_run (run_geq_yes rfl rfl (by omega)) rfl ?_
          | refine lst_run (run_geq_no rfl rfl (by omega)) rfl ?_
          | refine lst_run (rfl) rfl ?_
        refine lst_run (run_assign (by conv => lhs; whnf)) rfl ?_
        refine lst_done ?_
        refine goes_false rfl ?_
        refine goes_seq ?_
        refine goes_region ?_
        refine lst_run (run_move (by conv => lhs; whnf)) rfl ?_
        refine lst_run (run_move (by conv => lhs; whnf)) rfl ?_
        refine lst_enter (run_callv rfl (by kernel_rfl) (args_1 (by conv => lhs; whnf))) rfl ?_
        refine Calls.mono (words1_any c _) ?_
        rintro _ w4 ⟨rfl, rfl⟩
        refine ⟨_, rfl, ?_⟩
        refine lst_run (run_move (by conv => lhs; whnf)) rfl ?_
        rw [hlo]
        refine lst_pass rfl rfl rfl ?_
        refine lst_pass rfl rfl rfl ?_
        refine lst_pass rfl rfl rfl ?_
        refine lst_passU rfl rfl ?_
        refine lst_passU rfl rfl ?_
        refine lst_pass rfl rfl rfl ?_
        first
          | refine lst_run (run_pick_t rfl (by conv => lhs; whnf)) rfl ?_
          | refine lst_run (run_pick_f rfl (by conv => lhs; whnf)) rfl ?_
        refine lst_run (run_assign (by conv => lhs; whnf)) rfl ?_
        refine lst_done ?_
        refine goes_true rfl ?_
        refine goes_block ?_
        refine goes_loop1 8 (37 :: 38 :: 39 :: 40 :: 41 :: 42 :: 43 :: 44 :: 45 :: 46 :: 47 :: 48 :: 49 :: 50 :: 51 :: 52 :: 53 :: []) (fun (Q : Str) v w' => w' = w4 ∧ ∃ E, r = E ++ Q ∧ v = .int .i64 ((1 + E.length : Nat) : Int) ∧ ∀ x ∈ E, lowB x = true) (fun Q => Q.length) (r) ?_ (by conv => lhs; whnf) ?_
        · exact ⟨rfl, [], rfl, rfl, by simp⟩
        rintro Q vq w6 jv4 ⟨rfl, E, hE, rfl, hall⟩ ih2
        have hlE : r.length = E.length + Q.length := by rw [hE, List.length_append]
        have hsp : spanN lowB r = E.length + spanN lowB Q := by rw [hE]; exact spanN_app E Q hall
        cases Q with
        | nil =>
          simp only [List.length_nil] at hlE
          refine goes_seq ?_
          refine goes_seq ?_
          refine goes_region ?_
          refine lst_run (run_move (by conv => lhs; whnf)) rfl ?_
          refine lst_run (run_move (by conv => lhs; whnf)) rfl ?_
          refine lst_run (run_add rfl rfl (by omega) (by omega)) rfl ?_
          refine lst_run (run_move (by conv => lhs; whnf)) rfl ?_
          refine lst_run (run_len_str rfl rfl rfl) rfl ?_
          first
            | refine lst_run (run_lss_yes rfl rfl (by omega)) rfl ?_
            | refine lst_run (run_lss_no rfl rfl (by omega)) rfl ?_
            | refine lst_run (rfl) rfl ?_
          refine lst_run (run_move (by conv => lhs; whnf)) rfl ?_
          refine lst_pass rfl rfl rfl ?_
          refine lst_pass rfl rfl rfl ?_
          refine lst_pass rfl rfl rfl ?_
          refine lst_pass rfl rfl rfl ?_
          refine lst_pass rfl rfl rfl ?_
          refine lst_pass rfl rfl rfl ?_
          refine lst_pass rfl rfl rfl ?_
          first
            | refine lst_run (run_pick_t rfl (by conv => lhs; whnf)) rfl ?_
            | refine lst_run (run_pick_f rfl (by conv => lhs; whnf)) rfl ?_
          refine lst_done ?_
          refine goes_false rfl ?_
          refine goes_exit rfl ?_
          refine goes_inBlock ?_
          refine goes_seq ?_
          refine goes_region ?_
          refine lst_run (run_move (by conv => lhs; whnf)) rfl ?_
          refine lst_run (run_move (by conv => lhs; whnf)) rfl ?_
          refine lst_run (run_move (by conv => lhs; whnf)) rfl ?_
          refine lst_run (run_move (by conv => lhs; whnf)) rfl ?_
          refine lst_run (run_move (by conv => lhs; whnf)) rfl ?_
          refine lst_run (run_add rfl rfl (by omega) (by omega)) rfl ?_
          refine lst_run (run_slice_both rfl rfl rfl rfl (by omega) (by omega) (by omega)) rfl ?_
          refine lst_buildSlice (cells := [_]) hS (.cons (by conv => lhs; whnf) .nil) rfl rfl ?_
          clear hS
          intro b1 wx1 hS
          refine lst_app (sz := 1) (bts := 16) hS (by conv => lhs; whnf) rfl rfl rfl rfl (hR) rfl rfl (List.Perm.refl _) (by omega) (by omega) rfl ?_
          clear hS
          intro v5 O5 w5 hR5 hS
          rw [cut_mid D (c :: r) (1 + E.length) _ _ rfl] at hR5
          · obtain ⟨A5, c5, rfl⟩ := hR5.form
            refine lst_run (run_assign (by conv => lhs; whnf)) rfl ?_
            refine lst_done ?_
            refine goes_region ?_
            refine lst_run (run_move (by conv => lhs; whnf)) rfl ?_
            refine lst_run (run_move (by conv => lhs; whnf)) rfl ?_
            refine lst_run (run_add rfl rfl (by omega) (by omega)) rfl ?_
            refine lst_run (run_assign (by conv => lhs; whnf)) rfl ?_
            refine lst_done ?_
            refine goes_inBlock ?_
            refine ih (((c :: r).drop (1 + E.length))) _ _ _ _ ?_ ?_ (by conv => lhs; whnf) (by conv => lhs; whnf) (by kernel_rfl)
            · simp <;> omega
            · have hwl2 : wordLen (c :: r) = 1 + E.length := by have e0 : spanN lowB ([] : Str) = 0 := rfl; simp only [wordLen, hlo, Bool.true_or, if_true]; rw [hsp, e0]; rfl
              refine ⟨D ++ (c :: r).take (1 + E.length), acc ++ [(c :: r).take (1 + E.length)], O5, ?_, ?_, ?_, hS, ?_, ?_⟩
              · rw [List.append_assoc, List.take_append_drop]
              · rw [hwl2] at hwl; simp <;> omega
              · rw [List.map_append, List.length_append]; exact hR5
              · rw [hW, words_word r hw (by omega), hwl2]; simp
              · rw [hwl2] at hwl; simp <;> omega
          · omega
        | cons x q =>
          simp only [List.length_cons] at hlE
          have hget2 : (D ++ c :: r)[(((D.length : Nat) : Int) + ((1 + E.length : Nat) : Int)).toNat]? = some x := by
            have e1 : (((D.length : Nat) : Int) + ((1 + E.length : Nat) : Int)).toNat = (D ++ c :: E).length := by simp; omega
            rw [e1, hE, show D ++ c :: (E ++ x :: q) = (D ++ c :: E) ++ x :: q by simp]
            simp
          cases hx : lowB x with
          | true =>
            refine goes_seq ?_
            refine goes_seq ?_
            refine goes_region ?_
            refine lst_run (run_move (by conv => lhs; whnf)) rfl ?_
            refine lst_run (run_move (by conv => lhs; whnf)) rfl ?_
            refine lst_run (run_add rfl rfl (by omega) (by omega)) rfl ?_
            refine lst_run (run_move (by conv => lhs; whnf)) rfl ?_
            refine lst_run (run_len_str rfl rfl rfl) rfl ?_
            first
              | refine lst_run (run_lss_yes rfl rfl (by omega)) rfl ?_
              | refine lst_run (run_lss_no rfl rfl (by omega)) rfl ?_
              | refine lst_run (rfl) rfl ?_
            refine lst_run (run_move (by conv => lhs; whnf)) rfl ?_
            refine lst_guard rfl rfl ?_
            refine lst_run (run_move (by conv => lhs; whnf)) rfl ?_
            refine lst_guard rfl rfl ?_
            refine lst_run (run_move (by conv => lhs; whnf)) rfl ?_
            refine lst_guard rfl rfl ?_
            refine lst_run (run_move (by conv => lhs; whnf)) rfl ?_
            refine lst_guard rfl rfl ?_
            refine lst_run (run_move (by conv => lhs; whnf)) rfl ?_
            refine lst_guard rfl rfl ?_
            refine lst_run (run_add rfl rfl (by omega) (by omega)) rfl ?_
            refine lst_guard rfl rfl ?_
            refine lst_run (run_index_str rfl rfl rfl (by omega) (by first | rfl | assumption)) rfl ?_
            refine lst_guard rfl rfl ?_
            refine lst_enter (run_callv rfl (by kernel_rfl) (args_1 (by conv => lhs; whnf))) rfl ?_
            refine Calls.mono (words1_any x _) ?_
            rintro _ w5 ⟨rfl, rfl⟩
            refine ⟨_, rfl, ?_⟩
            first
              | refine lst_run (run_pick_t rfl (by conv => lhs; whnf)) rfl ?_
              | refine lst_run (run_pick_f rfl (by conv => lhs; whnf)) rfl ?_
            refine lst_done ?_
            rw [hx]
            refine goes_true rfl ?_
            refine goes_skip ?_
            refine goes_block ?_
            refine goes_region ?_
            refine lst_run (run_move (by conv => lhs; whnf)) rfl ?_
            refine lst_run (run_add rfl rfl (by omega) (by omega)) rfl ?_
            refine lst_run (run_assign (by conv => lhs; whnf)) rfl ?_
            refine lst_done ?_
            refine goes_inBlock ?_
            refine ih2 q _ _ _ ?_ ⟨rfl, E ++ [x], by rw [hE]; simp, rfl, all_snoc' hall hx⟩ (by first | (conv => lhs; whnf); done | (show Value.int .i64 _ = Value.int .i64 _; congr 1; simp; omega)) (by kernel_rfl)
            simp
          | false =>
            refine goes_seq ?_
            refine goes_seq ?_
            refine goes_region ?_
            refine lst_run (run_move (by conv => lhs; whnf)) rfl ?_
            refine lst_run (run_move (by conv => lhs; whnf)) rfl ?_
            refine lst_run (run_add rfl rfl (by omega) (by omega)) rfl ?_
            refine lst_run (run_move (by conv => lhs; whnf)) rfl ?_
            refine lst_run (run_len_str rfl rfl rfl) rfl ?_
            first
              | refine lst_run (run_lss_yes rfl rfl (by omega)) rfl ?_
              | refine lst_run (run_lss_no rfl rfl (by omega)) rfl ?_
              | refine lst_run (rfl) rfl ?_
            refine lst_run (run_move (by conv => lhs; whnf)) rfl ?_
            refine lst_guard rfl rfl ?_
            refine lst_run (run_move (by conv => lhs; whnf)) rfl ?_
            refine lst_guard rfl rfl ?_
            refine lst_run (run_move (by conv => lhs; whnf)) rfl ?_
            refine lst_guard rfl rfl ?_
            refine lst_run (run_move (by conv => lhs; whnf)) rfl ?_
            refine lst_guard rfl rfl ?_
            refine lst_run (run_move (by conv => lhs; whnf)) rfl ?_
            refine lst_guard rfl rfl ?_
            refine lst_run (run_add rfl rfl (by omega) (by omega)) rfl ?_
            refine lst_guard rfl rfl ?_
            refine lst_run (run_index_str rfl rfl rfl (by omega) (by first | rfl | assumption)) rfl ?_
            refine lst_guard rfl rfl ?_
            refine lst_enter (run_callv rfl (by kernel_rfl) (args_1 (by conv => lhs; whnf))) rfl ?_
            refine Calls.mono (words1_any x _) ?_
            rintro _ w5 ⟨rfl, rfl⟩
            refine ⟨_, rfl, ?_⟩
            first
              | refine lst_run (run_pick_t rfl (by conv => lhs; whnf)) rfl ?_
              | refine lst_run (run_pick_f rfl (by conv => lhs; whnf)) rfl ?_
            refine lst_done ?_
            rw [hx]
            refine goes_false rfl ?_
            refine goes_exit rfl ?_
            refine goes_inBlock ?_
            refine goes_seq ?_
            refine goes_region ?_
            refine lst_run (run_move (by conv => lhs; whnf)) rfl ?_
            refine lst_run (run_move (by conv => lhs; whnf)) rfl ?_
            refine lst_run (run_move (by conv => lhs; whnf)) rfl ?_
            refine lst_run (run_move (by conv => lhs; whnf)) rfl ?_
            refine lst_run (run_move (by conv => lhs; whnf)) rfl ?_
            refine lst_run (run_add rfl rfl (by omega) (by omega)) rfl ?_
            refine lst_run (run_slice_both rfl rfl rfl rfl (by omega) (by omega) (by omega)) rfl ?_
            refine lst_buildSlice (cells := [_]) hS (.cons (by conv => lhs; whnf) .nil) rfl rfl ?_
            clear hS
            intro b1 wx1 hS
            refine lst_app (sz := 1) (bts := 16) hS (by conv => lhs; whnf) rfl rfl rfl rfl (hR) rfl rfl (List.Perm.refl _) (by omega) (by omega) rfl ?_
            clear hS
            intro v5 O5 w5 hR5 hS
            rw [cut_mid D (c :: r) (1 + E.length) _ _ rfl] at hR5
            · obtain ⟨A5, c5, rfl⟩ := hR5.form
              refine lst_run (run_assign (by conv => lhs; whnf)) rfl ?_
              refine lst_done ?_
              refine goes_region ?_
              refine lst_run (run_move (by conv => lhs; whnf)) rfl ?_
              refine lst_run (run_move (by conv => lhs; whnf)) rfl ?_
              refine lst_run (run_add rfl rfl (by omega) (by omega)) rfl ?_
              refine lst_run (run_assign (by conv => lhs; whnf)) rfl ?_
              refine lst_done ?_
              refine goes_inBlock ?_
              refine ih (((c :: r).drop (1 + E.length))) _ _ _ _ ?_ ?_ (by conv => lhs; whnf) (by conv => lhs; whnf) (by kernel_rfl)
              · simp <;> omega
              · have hwl2 : wordLen (c :: r) = 1 + E.length := by have e0 : spanN lowB (x :: q) = 0 := (by simp [spanN, hx]); simp only [wordLen, hlo, Bool.true_or, if_true]; rw [hsp, e0]; rfl
                refine ⟨D ++ (c :: r).take (1 + E.length), acc ++ [(c :: r).take (1 + E.length)], O5, ?_, ?_, ?_, hS, ?_, ?_⟩
                · rw [List.append_assoc, List.take_append_drop]
                · rw [hwl2] at hwl; simp <;> omega
                · rw [List.map_append, List.length_append]; exact hR5
                · rw [hW, words_word r hw (by omega), hwl2]; simp
                · rw [hwl2] at hwl; simp <;> omega
            · omega
      | false =>
        cases hup : upB c with
        | true =>
          have hup1 : 65 ≤ c.toNat ∧ c.toNat ≤ 90 := by simp [upB] at hup; omega
          refine goes_seq ?_
          refine goes_seq ?_
          refine goes_region ?_
          refine lst_run (run_move (by conv => lhs; whnf)) rfl ?_
          refine lst_run (run_move (by conv => lhs; whnf)) rfl ?_
          refine lst_run (run_len_str rfl rfl rfl) rfl ?_
          first
            | refine lst_run (run_lss_yes rfl rfl (by omega)) rfl ?_
            | refine lst_run (run_lss_no rfl rfl (by omega)) rfl ?_
            | refine lst_run (rfl) rfl ?_
          refine lst_done ?_
          refine goes_true rfl ?_
          refine goes_skip ?_
          refine goes_block ?_
          refine goes_seq ?_
          refine goes_region ?_
          refine lst_run (run_move (by conv => lhs; whnf)) rfl ?_
          refine lst_run (run_move (by conv => lhs; whnf)) rfl ?_
          refine lst_run (run_index_str rfl rfl rfl (by omega) (by first | rfl | assumption)) rfl ?_
          refine lst_run (run_assign (by conv => lhs; whnf)) rfl ?_
          refine lst_done ?_
          refine goes_seq ?_
          refine goes_region ?_
          refine lst_run (run_assign (by conv => lhs; whnf)) rfl ?_
          refine lst_done ?_
          refine goes_seq ?_
          refine goes_block ?_
          refine goes_seq ?_
          refine goes_region ?_
          refine lst_run (run_move (by conv => lhs; whnf)) rfl ?_
          refine lst_enter (run_call (by kernel_rfl) (args_2 (by conv => lhs; whnf) (by conv => lhs; whnf))) rfl ?_
          refine Calls.mono (white_any c _) ?_
          rintro _ w3 ⟨⟨i, rfl, hi⟩, rfl⟩
          refine ⟨_, rfl, ?_⟩
          have hi0 : i < 0 := by rw [hw] at hi; have := of_decide_eq_false hi; omega
          first
            | refine lst_run (run_geq_yes rfl rfl (by omega)) rfl ?_
            | refine lst_run (run_geq_no rfl rfl (by omega)) rfl ?_
            | refine lst_run (rfl) rfl ?_
          refine lst_run (run_assign (by conv => lhs; whnf)) rfl ?_
          refine lst_done ?_
          refine goes_false rfl ?_
          refine goes_seq ?_
          refine goes_region ?_
          refine lst_run (run_move (by conv => lhs; whnf)) rfl ?_
          refine lst_run (run_move (by conv => lhs; whnf)) rfl ?_
          refine lst_enter (run_callv rfl (by kernel_rfl) (args_1 (by conv => lhs; whnf))) rfl ?_
          refine Calls.mono (words1_any c _) ?_
          rintro _ w4 ⟨rfl, rfl⟩
          refine ⟨_, rfl, ?_⟩
          refine lst_run (run_move (by conv => lhs; whnf)) rfl ?_
          rw [hlo]
          refine lst_guard rfl rfl ?_
          refine lst_run (run_move (by conv => lhs; whnf)) rfl ?_
          refine lst_guard rfl rfl ?_
          first
            | refine lst_run (run_geq_yes rfl rfl (by omega)) rfl ?_
            | refine lst_run (run_geq_no rfl rfl (by omega)) rfl ?_
            | refine lst_run (rfl) rfl ?_
          refine lst_guard rfl rfl ?_
          refine lst_run (run_move (by conv => lhs; whnf)) rfl ?_
          refine lst_guard rfl rfl ?_
          refine lst_run (run_move (by conv => lhs; whnf)) rfl ?_
          refine lst_guard rfl rfl ?_
          first
            | refine lst_run (run_leq_yes rfl rfl (by omega)) rfl ?_
            | refine lst_run (run_leq_no rfl rfl (by omega)) rfl ?_
            | refine lst_run (rfl) rfl ?_
          refine lst_guard rfl rfl ?_
          first
            | refine lst_run (run_pick_t rfl (by conv => lhs; whnf)) rfl ?_
            | refine lst_run (run_pick_f rfl (by conv => lhs; whnf)) rfl ?_
          first
            | refine lst_run (run_pick_t rfl (by conv => lhs; whnf)) rfl ?_
            | refine lst_run (run_pick_f rfl (by conv => lhs; whnf)) rfl ?_
          refine lst_run (run_assign (by conv => lhs; whnf)) rfl ?_
          refine lst_done ?_
          refine goes_true rfl ?_
          refine goes_block ?_
          refine goes_loop1 8 (37 :: 38 :: 39 :: 40 :: 41 :: 42 :: 43 :: 44 :: 45 :: 46 :: 47 :: 48 :: 49 :: 50 :: 51 :: 52 :: 53 :: []) (fun (Q : Str) v w' => w' = w4 ∧ ∃ E, r = E ++ Q ∧ v = .int .i64 ((1 + E.length : Nat) : Int) ∧ ∀ x ∈ E, lowB x = true) (fun Q => Q.length) (r) ?_ (by conv => lhs; whnf) ?_
          · exact ⟨rfl, [], rfl, rfl, by simp⟩
          rintro Q vq w6 jv4 ⟨rfl, E, hE, rfl, hall⟩ ih2
          have hlE : r.length = E.length + Q.length := by rw [hE, List.length_append]
          have hsp : spanN lowB r = E.length + spanN lowB Q := by rw [hE]; exact spanN_app E Q hall
          cases Q with
          | nil =>
            simp only [List.length_nil] at hlE
            refine goes_seq ?_
            refine goes_seq ?_
            refine goes_region ?_
            refine lst_run (run_move (by conv => lhs; whnf)) rfl ?_
            refine lst_run (run_move (by conv => lhs; whnf)) rfl ?_
            refine lst_run (run_add rfl rfl (by omega) (by omega)) rfl ?_
            refine lst_run (run_move (by conv => lhs; whnf)) rfl ?_
            refine lst_run (run_len_str rfl rfl rfl) rfl ?_
            first
              | refine lst_run (run_lss_yes rfl rfl (by omega)) rfl ?_
              | refine lst_run (run_lss_no rfl rfl (by omega)) rfl ?_
              | refine lst_run (rfl) rfl ?_
            refine lst_run (run_move (by conv => lhs; whnf)) rfl ?_
            refine lst_pass rfl rfl rfl ?_
            refine lst_pass rfl rfl rfl ?_
            refine lst_pass rfl rfl rfl ?_
            refine lst_pass rfl rfl rfl ?_
            refine lst_pass rfl rfl rfl ?_
            refine lst_pass rfl rfl rfl ?_
            refine lst_pass rfl rfl rfl ?_
            first
              | refine lst_run (run_pick_t rfl (by conv => lhs; whnf)) rfl ?_
              | refine lst_run (run_pick_f rfl (by conv => lhs; whnf)) rfl ?_
            refine lst_done ?_
            refine goes_false rfl ?_
            refine goes_exit rfl ?_
            refine goes_inBlock ?_
            refine goes_seq ?_
            refine goes_region ?_
            refine lst_run (run_move (by conv => lhs; whnf)) rfl ?_
            refine lst_run (run_move (by conv => lhs; whnf)) rfl ?_
            refine lst_run (run_move (by conv => lhs; whnf)) rfl ?_
            refine lst_run (run_move (by conv => lhs; whnf)) rfl ?_
            refine lst_run (run_move (by conv => lhs; whnf)) rfl ?_
            refine lst_run (run_add rfl rfl (by omega) (by omega)) rfl ?_
            refine lst_run (run_slice_both rfl rfl rfl rfl (by omega) (by omega) (by omega)) rfl ?_
            refine lst_buildSlice (cells := [_]) hS (.cons (by conv => lhs; whnf) .nil) rfl rfl ?_
            clear hS
            intro b1 wx1 hS
            refine lst_app (sz := 1) (bts := 16) hS (by conv => lhs; whnf) rfl rfl rfl rfl (hR) rfl rfl (List.Perm.refl _) (by omega) (by omega) rfl ?_
            clear hS
            intro v5 O5 w5 hR5 hS
            rw [cut_mid D (c :: r) (1 + E.length) _ _ rfl] at hR5
            · obtain ⟨A5, c5, rfl⟩ := hR5.form
              refine lst_run (run_assign (by conv => lhs; whnf)) rfl ?_
              refine lst_done ?_
              refine goes_region ?_
              refine lst_run (run_move (by conv => lhs; whnf)) rfl ?_
              refine lst_run (run_move (by conv => lhs; whnf)) rfl ?_
              refine lst_run (run_add rfl rfl (by omega) (by omega)) rfl ?_
              refine lst_run (run_assign (by conv => lhs; whnf)) rfl ?_
              refine lst_done ?_
              refine goes_inBlock ?_
              refine ih (((c :: r).drop (1 + E.length))) _ _ _ _ ?_ ?_ (by conv => lhs; whnf) (by conv => lhs; whnf) (by kernel_rfl)
              · simp <;> omega
              · have hwl2 : wordLen (c :: r) = 1 + E.length := by have e0 : spanN lowB ([] : Str) = 0 := rfl; simp only [wordLen, hlo, hup, Bool.or_true, if_true]; rw [hsp, e0]; rfl
                refine ⟨D ++ (c :: r).take (1 + E.length), acc ++ [(c :: r).take (1 + E.length)], O5, ?_, ?_, ?_, hS, ?_, ?_⟩
                · rw [List.append_assoc, List.take_append_drop]
                · rw [hwl2] at hwl; simp <;> omega
                · rw [List.map_append, List.length_append]; exact hR5
                · rw [hW, words_word r hw (by omega), hwl2]; simp
                · rw [hwl2] at hwl; simp <;> omega
            · omega
          | cons x q =>
            simp only [List.length_cons] at hlE
            have hget2 : (D ++ c :: r)[(((D.length : Nat) : Int) + ((1 + E.length : Nat) : Int)).toNat]? = some x := by
              have e1 : (((D.length : Nat) : Int) + ((1 + E.length : Nat) : Int)).toNat = (D ++ c :: E).length := by simp; omega
              rw [e1, hE, show D ++ c :: (E ++ x :: q) = (D ++ c :: E) ++ x :: q by simp]
              simp
            cases hx : lowB x with
            | true =>
              refine goes_seq ?_
              refine goes_seq ?_
              refine goes_region ?_
              refine lst_run (run_move (by conv => lhs; whnf)) rfl ?_
              refine lst_run (run_move (by conv => lhs; whnf)) rfl ?_
              refine lst_run (run_add rfl rfl (by omega) (by omega)) rfl ?_
              refine lst_run (run_move (by conv => lhs; whnf)) rfl ?_
              refine lst_run (run_len_str rfl rfl rfl) rfl ?_
              first
                | refine lst_run (run_lss_yes rfl rfl (by omega)) rfl ?_
                | refine lst_run (run_lss_no rfl rfl (by omega)) rfl ?_
                | refine lst_run (rfl) rfl ?_
              refine lst_run (run_move (by conv => lhs; whnf)) rfl ?_
              refine lst_guard rfl rfl ?_
              refine lst_run (run_move (by conv => lhs; whnf)) rfl ?_
              refine lst_guard rfl rfl ?_
              refine lst_run (run_move (by conv => lhs; whnf)) rfl ?_
              refine lst_guard rfl rfl ?_
              refine lst_run (run_move (by conv => lhs; whnf)) rfl ?_
              refine lst_guard rfl rfl ?_
              refine lst_run (run_move (by conv => lhs; whnf)) rfl ?_
              refine lst_guard rfl rfl ?_
              refine lst_run (run_add rfl rfl (by omega) (by omega)) rfl ?_
              refine lst_guard rfl rfl ?_
              refine lst_run (run_index_str rfl rfl rfl (by omega) (by first | rfl | assumption)) rfl ?_
              refine lst_guard rfl rfl ?_
              refine lst_enter (run_callv rfl (by kernel_rfl) (args_1 (by conv => lhs; whnf))) rfl ?_
              refine Calls.mono (words1_any x _) ?_
              rintro _ w5 ⟨rfl, rfl⟩
              refine ⟨_, rfl, ?_⟩
              first
                | refine lst_run (run_pick_t rfl (by conv => lhs; whnf)) rfl ?_
                | refine lst_run (run_pick_f rfl (by conv => lhs; whnf)) rfl ?_
              refine lst_done ?_
              rw [hx]
              refine goes_true rfl ?_
              refine goes_skip ?_
              refine goes_block ?_
              refine goes_region ?_
              refine lst_run (run_move (by conv => lhs; whnf)) rfl ?_
              refine lst_run (run_add rfl rfl (by omega) (by omega)) rfl ?_
              refine lst_run (run_assign (by conv => lhs; whnf)) rfl ?_
              refine lst_done ?_
              refine goes_inBlock ?_
              refine ih2 q _ _ _ ?_ ⟨rfl, E ++ [x], by rw [hE]; simp, rfl, all_snoc' hall hx⟩ (by first | (conv => lhs; whnf); done | (show Value.int .i64 _ = Value.int .i64 _; congr 1; simp; omega)) (by kernel_rfl)
              simp
            | false =>
              refine goes_seq ?_
              refine goes_seq ?_
              refine goes_region ?_
              refine lst_run (run_move (by conv => lhs; whnf)) rfl ?_
              refine lst_run (run_move (by conv => lhs; whnf)) rfl ?_
              refine lst_run (run_add rfl rfl (by omega) (by omega)) rfl ?_
              refine lst_run (run_move (by conv => lhs; whnf)) rfl ?_
              refine lst_run (run_len_str rfl rfl rfl) rfl ?_
              first
                | refine lst_run (run_lss_yes rfl rfl (by omega)) rfl ?_
                | refine lst_run (run_lss_no rfl rfl (by omega)) rfl ?_
                | refine lst_run (rfl) rfl ?_
              refine lst_run (run_move (by conv => lhs; whnf)) rfl ?_
              refine lst_guard rfl rfl ?_
              refine lst_run (run_move (by conv => lhs; whnf)) rfl ?_
              refine lst_guard rfl rfl ?_
              refine lst_run (run_move (by conv => lhs; whnf)) rfl ?_
              refine lst_guard rfl rfl ?_
              refine lst_run (run_move (by conv => lhs; whnf)) rfl ?_
              refine lst_guard rfl rfl ?_
              refine lst_run (run_move (by conv => lhs; whnf)) rfl ?_
              refine lst_guard rfl rfl ?_
              refine lst_run (run_add rfl rfl (by omega) (by omega)) rfl ?_
              refine lst_guard rfl rfl ?_
              refine lst_run (run_index_str rfl rfl rfl (by omega) (by first | rfl | assumption)) rfl ?_
              refine lst_guard rfl rfl ?_
              refine lst_enter (run_callv rfl (by kernel_rfl) (args_1 (by conv => lhs; whnf))) rfl ?_
              refine Calls.mono (words1_any x _) ?_
              rintro _ w5 ⟨rfl, rfl⟩
              refine ⟨_, rfl, ?_⟩
              first
                | refine lst_run (run_pick_t rfl (by conv => lhs; whnf)) rfl ?_
                | refine lst_run (run_pick_f rfl (by conv => lhs; whnf)) rfl ?_
              refine lst_done ?_
              rw [hx]
              refine goes_false rfl ?_
              refine goes_exit rfl ?_
              refine goes_inBlock ?_
              refine goes_seq ?_
              refine goes_region ?_
              refine lst_run (run_move (by conv => lhs; whnf)) rfl ?_
              refine lst_run (run_move (by conv => lhs; whnf)) rfl ?_
              refine lst_run (run_move (by conv => lhs; whnf)) rfl ?_
              refine lst_run (run_move (by conv => lhs; whnf)) rfl ?_
              refine lst_run (run_move (by conv => lhs; whnf)) rfl ?_
              refine lst_run (run_add rfl rfl (by omega) (by omega)) rfl ?_
              refine lst_run (run_slice_both rfl rfl rfl rfl (by omega) (by omega) (by omega)) rfl ?_
              refine lst_buildSlice (cells := [_]) hS (.cons (by conv => lhs; whnf) .nil) rfl rfl ?_
              clear hS
              intro b1 wx1 hS
              refine lst_app (sz := 1) (bts := 16) hS (by conv => lhs; whnf) rfl rfl rfl rfl (hR) rfl rfl (List.Perm.refl _) (by omega) (by omega) rfl ?_
              clear hS
              intro v5 O5 w5 hR5 hS
              rw [cut_mid D (c :: r) (1 + E.length) _ _ rfl] at hR5
              · obtain ⟨A5, c5, rfl⟩ := hR5.form
                refine lst_run (run_assign (by conv => lhs; whnf)) rfl ?_
                refine lst_done ?_
                refine goes_region ?_
                refine lst_run (run_move (by conv => lhs; whnf)) rfl ?_
                refine lst_run (run_move (by conv => lhs; whnf)) rfl ?_
                refine lst_run (run_add rfl rfl (by omega) (by omega)) rfl ?_
                refine lst_run (run_assign (by conv => lhs; whnf)) rfl ?_
                refine lst_done ?_
                refine goes_inBlock ?_
                refine ih (((c :: r).drop (1 + E.length))) _ _ _ _ ?_ ?_ (by conv => lhs; whnf) (by conv => lhs; whnf) (by kernel_rfl)
                · simp <;> omega
                · have hwl2 : wordLen (c :: r) = 1 + E.length := by have e0 : spanN lowB (x :: q) = 0 := (by simp [spanN, hx]); simp only [wordLen, hlo, hup, Bool.or_true, if_true]; rw [hsp, e0]; rfl
                  refine ⟨D ++ (c :: r).take (1 + E.length), acc ++ [(c :: r).take (1 + E.length)], O5, ?_, ?_, ?_, hS, ?_, ?_⟩
                  · rw [List.append_assoc, List.take_append_drop]
                  · rw [hwl2] at hwl; simp <;> omega
                  · rw [List.map_append, List.length_append]; exact hR5
                  · rw [hW, words_word r hw (by omega), hwl2]; simp
                  · rw [hwl2] at hwl; simp <;> omega
              · omega
        | false =>
          have hnu : ¬ (65 ≤ c.toNat ∧ c.toNat ≤ 90) := by
            intro h
            have : upB c = true := by simp [upB]; omega
            rw [this] at hup; cases hup
          cases hdg : digB c with
          | true =>
            have hd1 : 48 ≤ c.toNat ∧ c.toNat ≤ 57 := by simp [digB] at hdg; omega
            refine goes_seq ?_
            refine goes_seq ?_
            refine goes_region ?_
            refine lst_run (run_move (by conv => lhs; whnf)) rfl ?_
            refine lst_run (run_move (by conv => lhs; whnf)) rfl ?_
            refine lst_run (run_len_str rfl rfl rfl) rfl ?_
            first
              | refine lst_run (run_lss_yes rfl rfl (by omega)) rfl ?_
              | refine lst_run (run_lss_no rfl rfl (by omega)) rfl ?_
              | refine lst_run (rfl) rfl ?_
            refine lst_done ?_
            refine goes_true rfl ?_
            refine goes_skip ?_
            refine goes_block ?_
            refine goes_seq ?_
            refine goes_region ?_
            refine lst_run (run_move (by conv => lhs; whnf)) rfl ?_
            refine lst_run (run_move (by conv => lhs; whnf)) rfl ?_
            refine lst_run (run_index_str rfl rfl rfl (by omega) (by first | rfl | assumption)) rfl ?_
            refine lst_run (run_assign (by conv => lhs; whnf)) rfl ?_
            refine lst_done ?_
            refine goes_seq ?_
            refine goes_region ?_
            refine lst_run (run_assign (by conv => lhs; whnf)) rfl ?_
            refine lst_done ?_
            refine goes_seq ?_
            refine goes_block ?_
            refine goes_seq ?_
            refine goes_region ?_
            refine lst_run (run_move (by conv => lhs; whnf)) rfl ?_
            refine lst_enter (run_call (by kernel_rfl) (args_2 (by conv => lhs; whnf) (by conv => lhs; whnf))) rfl ?_
            refine Calls.mono (white_any c _) ?_
            rintro _ w3 ⟨⟨i, rfl, hi⟩, rfl⟩
            refine ⟨_, rfl, ?_⟩
            have hi0 : i < 0 := by rw [hw] at hi; have := of_decide_eq_false hi; omega
            first
              | refine lst_run (run_geq_yes rfl rfl (by omega)) rfl ?_
              | refine lst_run (run_geq_no rfl rfl (by omega)) rfl ?_
              | refine lst_run (rfl) rfl ?_
            refine lst_run (run_assign (by conv => lhs; whnf)) rfl ?_
            refine lst_done ?_
            refine goes_false rfl ?_
            refine goes_seq ?_
            refine goes_region ?_
            refine lst_run (run_move (by conv => lhs; whnf)) rfl ?_
            refine lst_run (run_move (by conv => lhs; whnf)) rfl ?_
            refine lst_enter (run_callv rfl (by kernel_rfl) (args_1 (by conv => lhs; whnf))) rfl ?_
            refine Calls.mono (words1_any c _) ?_
            rintro _ w4 ⟨rfl, rfl⟩
            refine ⟨_, rfl, ?_⟩
            refine lst_run (run_move (by conv => lhs; whnf)) rfl ?_
            rw [hlo]
            refine lst_guard rfl rfl ?_
            refine lst_run (run_move (by conv => lhs; whnf)) rfl ?_
            refine lst_guard rfl rfl ?_
            first
              | refine lst_run (run_geq_yes rfl rfl (by omega)) rfl ?_
              | refine lst_run (run_geq_no rfl rfl (by omega)) rfl ?_
              | refine lst_run (rfl) rfl ?_
            refine lst_guard rfl rfl ?_
            refine lst_run (run_move (by conv => lhs; whnf)) rfl ?_
            refine lst_pass rfl rfl rfl ?_
            refine lst_pass rfl rfl rfl ?_
            refine lst_guard rfl rfl ?_
            first
              | refine lst_run (run_pick_t rfl (by conv => lhs; whnf)) rfl ?_
              | refine lst_run (run_pick_f rfl (by conv => lhs; whnf)) rfl ?_
            first
              | refine lst_run (run_pick_t rfl (by conv => lhs; whnf)) rfl ?_
              | refine lst_run (run_pick_f rfl (by conv => lhs; whnf)) rfl ?_
            refine lst_run (run_assign (by conv => lhs; whnf)) rfl ?_
            refine lst_done ?_
            refine goes_false rfl ?_
            refine goes_seq ?_
            refine goes_region ?_
            refine lst_run (run_move (by conv => lhs; whnf)) rfl ?_
            refine lst_run (run_move (by conv => lhs; whnf)) rfl ?_
            refine lst_enter (run_callv rfl (by kernel_rfl) (args_1 (by conv => lhs; whnf))) rfl ?_
            refine Calls.mono (words2_any c _) ?_
            rintro _ w4 ⟨rfl, rfl⟩
            refine ⟨_, rfl, ?_⟩
            refine lst_run (run_move (by conv => lhs; whnf)) rfl ?_
            rw [hdg]
            refine lst_pass rfl rfl rfl ?_
            refine lst_pass rfl rfl rfl ?_
            first
              | refine lst_run (run_pick_t rfl (by conv => lhs; whnf)) rfl ?_
              | refine lst_run (run_pick_f rfl (by conv => lhs; whnf)) rfl ?_
            refine lst_run (run_assign (by conv => lhs; whnf)) rfl ?_
            refine lst_done ?_
            refine goes_true rfl ?_
            refine goes_block ?_
            refine goes_loop1 8 (62 :: 63 :: 64 :: 65 :: 66 :: 67 :: 68 :: 69 :: 70 :: 71 :: 72 :: 73 :: 74 :: 75 :: 76 :: 77 :: 78 :: []) (fun (Q : Str) v w' => w' = w4 ∧ ∃ E, r = E ++ Q ∧ v = .int .i64 ((1 + E.length : Nat) : Int) ∧ ∀ x ∈ E, digB x = true) (fun Q => Q.length) (r) ?_ (by conv => lhs; whnf) ?_
            · exact ⟨rfl, [], rfl, rfl, by simp⟩
            rintro Q vq w6 jv4 ⟨rfl, E, hE, rfl, hall⟩ ih2
            have hlE : r.length = E.length + Q.length := by rw [hE, List.length_append]
            have hsp : spanN digB r = E.length + spanN digB Q := by rw [hE]; exact spanN_app E Q hall
            cases Q with
            | nil =>
              simp only [List.length_nil] at hlE
              refine goes_seq ?_
              refine goes_seq ?_
              refine goes_region ?_
              refine lst_run (run_move (by conv => lhs; whnf)) rfl ?_
              refine lst_run (run_move (by conv => lhs; whnf)) rfl ?_
              refine lst_run (run_add rfl rfl (by omega) (by omega)) rfl ?_
              refine lst_run (run_move (by conv => lhs; whnf)) rfl ?_
              refine lst_run (run_len_str rfl rfl rfl) rfl ?_
              first
                | refine lst_run (run_lss_yes rfl rfl (by omega)) rfl ?_
                | refine lst_run (run_lss_no rfl rfl (by omega)) rfl ?_
                | refine lst_run (rfl) rfl ?_
              refine lst_run (run_move (by conv => lhs; whnf)) rfl ?_
              refine lst_pass rfl rfl rfl ?_
              refine lst_pass rfl rfl rfl ?_
              refine lst_pass rfl rfl rfl ?_
              refine lst_pass rfl rfl rfl ?_
              refine lst_pass rfl rfl rfl ?_
              refine lst_pass rfl rfl rfl ?_
              refine lst_pass rfl rfl rfl ?_
              first
                | refine lst_run (run_pick_t rfl (by conv => lhs; whnf)) rfl ?_
                | refine lst_run (run_pick_f rfl (by conv => lhs; whnf)) rfl ?_
              refine lst_done ?_
              refine goes_false rfl ?_
              refine goes_exit rfl ?_
              refine goes_inBlock ?_
              refine goes_seq ?_
              refine goes_region ?_
              refine lst_run (run_move (by conv => lhs; whnf)) rfl ?_
              refine lst_run (run_move (by conv => lhs; whnf)) rfl ?_
              refine lst_run (run_move (by conv => lhs; whnf)) rfl ?_
              refine lst_run (run_move (by conv => lhs; whnf)) rfl ?_
              refine lst_run (run_move (by conv => lhs; whnf)) rfl ?_
              refine lst_run (run_add rfl rfl (by omega) (by omega)) rfl ?_
              refine lst_run (run_slice_both rfl rfl rfl rfl (by omega) (by omega) (by omega)) rfl ?_
              refine lst_buildSlice (cells := [_]) hS (.cons (by conv => lhs; whnf) .nil) rfl rfl ?_
              clear hS
              intro b1 wx1 hS
              refine lst_app (sz := 1) (bts := 16) hS (by conv => lhs; whnf) rfl rfl rfl rfl (hR) rfl rfl (List.Perm.refl _) (by omega) (by omega) rfl ?_
              clear hS
              intro v5 O5 w5 hR5 hS
              rw [cut_mid D (c :: r) (1 + E.length) _ _ rfl] at hR5
              · obtain ⟨A5, c5, rfl⟩ := hR5.form
                refine lst_run (run_assign (by conv => lhs; whnf)) rfl ?_
                refine lst_done ?_
                refine goes_region ?_
                refine lst_run (run_move (by conv => lhs; whnf)) rfl ?_
                refine lst_run (run_move (by conv => lhs; whnf)) rfl ?_
                refine lst_run (run_add rfl rfl (by omega) (by omega)) rfl ?_
                refine lst_run (run_assign (by conv => lhs; whnf)) rfl ?_
                refine lst_done ?_
                refine goes_inBlock ?_
                refine ih (((c :: r).drop (1 + E.length))) _ _ _ _ ?_ ?_ (by conv => lhs; whnf) (by conv => lhs; whnf) (by kernel_rfl)
                · simp <;> omega
                · have hwl2 : wordLen (c :: r) = 1 + E.length := by have e0 : spanN digB ([] : Str) = 0 := rfl; simp only [wordLen, hlo, hup, hdg, Bool.or_self, Bool.false_eq_true, if_false, Bool.true_or, if_true]; rw [hsp, e0]; rfl
                  refine ⟨D ++ (c :: r).take (1 + E.length), acc ++ [(c :: r).take (1 + E.length)], O5, ?_, ?_, ?_, hS, ?_, ?_⟩
                  · rw [List.append_assoc, List.take_append_drop]
                  · rw [hwl2] at hwl; simp <;> omega
                  · rw [List.map_append, List.length_append]; exact hR5
                  · rw [hW, words_word r hw (by omega), hwl2]; simp
                  · rw [hwl2] at hwl; simp <;> omega
              · omega
            | cons x q =>
              simp only [List.length_cons] at hlE
              have hget2 : (D ++ c :: r)[(((D.length : Nat) : Int) + ((1 + E.length : Nat) : Int)).toNat]? = some x := by
                have e1 : (((D.length : Nat) : Int) + ((1 + E.length : Nat) : Int)).toNat = (D ++ c :: E).length := by simp; omega
                rw [e1, hE, show D ++ c :: (E ++ x :: q) = (D ++ c :: E) ++ x :: q by simp]
                simp
              cases hx : digB x with
              | true =>
                refine goes_seq ?_
                refine goes_seq ?_
                refine goes_region ?_
                refine lst_run (run_move (by conv => lhs; whnf)) rfl ?_
                refine lst_run (run_move (by conv => lhs; whnf)) rfl ?_
                refine lst_run (run_add rfl rfl (by omega) (by omega)) rfl ?_
                refine lst_run (run_move (by conv => lhs; whnf)) rfl ?_
                refine lst_run (run_len_str rfl rfl rfl) rfl ?_
                first
                  | refine lst_run (run_lss_yes rfl rfl (by omega)) rfl ?_
                  | refine lst_run (run_lss_no rfl rfl (by omega)) rfl ?_
                  | refine lst_run (rfl) rfl ?_
                refine lst_run (run_move (by conv => lhs; whnf)) rfl ?_
                refine lst_guard rfl rfl ?_
                refine lst_run (run_move (by conv => lhs; whnf)) rfl ?_
                refine lst_guard rfl rfl ?_
                refine lst_run (run_move (by conv => lhs; whnf)) rfl ?_
                refine lst_guard rfl rfl ?_
                refine lst_run (run_move (by conv => lhs; whnf)) rfl ?_
                refine lst_guard rfl rfl ?_
                refine lst_run (run_move (by conv => lhs; whnf)) rfl ?_
                refine lst_guard rfl rfl ?_
                refine lst_run (run_add rfl rfl (by omega) (by omega)) rfl ?_
                refine lst_guard rfl rfl ?_
                refine lst_run (run_index_str rfl rfl rfl (by omega) (by first | rfl | assumption)) rfl ?_
                refine lst_guard rfl rfl ?_
                refine lst_enter (run_callv rfl (by kernel_rfl) (args_1 (by conv => lhs; whnf))) rfl ?_
                refine Calls.mono (words2_any x _) ?_
                rintro _ w5 ⟨rfl, rfl⟩
                refine ⟨_, rfl, ?_⟩
                first
                  | refine lst_run (run_pick_t rfl (by conv => lhs; whnf)) rfl ?_
                  | refine lst_run (run_pick_f rfl (by conv => lhs; whnf)) rfl ?_
                refine lst_done ?_
                rw [hx]
                refine goes_true rfl ?_
                refine goes_skip ?_
                refine goes_block ?_
                refine goes_region ?_
                refine lst_run (run_move (by conv => lhs; whnf)) rfl ?_
                refine lst_run (run_add rfl rfl (by omega) (by omega)) rfl ?_
                refine lst_run (run_assign (by conv => lhs; whnf)) rfl ?_
                refine lst_done ?_
                refine goes_inBlock ?_
                refine ih2 q _ _ _ ?_ ⟨rfl, E ++ [x], by rw [hE]; simp, rfl, all_snoc' hall hx⟩ (by first | (conv => lhs; whnf); done | (show Value.int .i64 _ = Value.int .i64 _; congr 1; simp; omega)) (by kernel_rfl)
                simp
              | false =>
                refine goes_seq ?_
                refine goes_seq ?_
                refine goes_region ?_
                refine lst_run (run_move (by conv => lhs; whnf)) rfl ?_
                refine lst_run (run_move (by conv => lhs; whnf)) rfl ?_
                refine lst_run (run_add rfl rfl (by omega) (by omega)) rfl ?_
                refine lst_run (run_move (by conv => lhs; whnf)) rfl ?_
                refine lst_run (run_len_str rfl rfl rfl) rfl ?_
                first
                  | refine lst_run (run_lss_yes rfl rfl (by omega)) rfl ?_
                  | refine lst_run (run_lss_no rfl rfl (by omega)) rfl ?_
                  | refine lst_run (rfl) rfl ?_
                refine lst_run (run_move (by conv => lhs; whnf)) rfl ?_
                refine lst_guard rfl rfl ?_
                refine lst_run (run_move (by conv => lhs; whnf)) rfl ?_
                refine lst_guard rfl rfl ?_
                refine lst_run (run_move (by conv => lhs; whnf)) rfl ?_
                refine lst_guard rfl rfl ?_
                refine lst_run (run_move (by conv => lhs; whnf)) rfl ?_
                refine lst_guard rfl rfl ?_
                refine lst_run (run_move (by conv => lhs; whnf)) rfl ?_
                refine lst_guard rfl rfl ?_
                refine lst_run (run_add rfl rfl (by omega) (by omega)) rfl ?_
                refine lst_guard rfl rfl ?_
                refine lst_run (run_index_str rfl rfl rfl (by omega) (by first | rfl | assumption)) rfl ?_
                refine lst_guard rfl rfl ?_
                refine lst_enter (run_callv rfl (by kernel_rfl) (args_1 (by conv => lhs; whnf))) rfl ?_
                refine Calls.mono (words2_any x _) ?_
                rintro _ w5 ⟨rfl, rfl⟩
                refine ⟨_, rfl, ?_⟩
                first
                  | refine lst_run (run_pick_t rfl (by conv => lhs; whnf)) rfl ?_
                  | refine lst_run (run_pick_f rfl (by conv => lhs; whnf)) rfl ?_
                refine lst_done ?_
                rw [hx]
                refine goes_false rfl ?_
                refine goes_exit rfl ?_
                refine goes_inBlock ?_
                refine goes_seq ?_
                refine goes_region ?_
                refine lst_run (run_move (by conv => lhs; whnf)) rfl ?_
                refine lst_run (run_move (by conv => lhs; whnf)) rfl ?_
                refine lst_run (run_move (by conv => lhs; whnf)) rfl ?_
                refine lst_run (run_move (by conv => lhs; whnf)) rfl ?_
                refine lst_run (run_move (by conv => lhs; whnf)) rfl ?_
                refine lst_run (run_add rfl rfl (by omega) (by omega)) rfl ?_
                refine lst_run (run_slice_both rfl rfl rfl rfl (by omega) (by omega) (by omega)) rfl ?_
                refine lst_buildSlice (cells := [_]) hS (.cons (by conv => lhs; whnf) .nil) rfl rfl ?_
                clear hS
                intro b1 wx1 hS
                refine lst_app (sz := 1) (bts := 16) hS (by conv => lhs; whnf) rfl rfl rfl rfl (hR) rfl rfl (List.Perm.refl _) (by omega) (by omega) rfl ?_
                clear hS
                intro v5 O5 w5 hR5 hS
                rw [cut_mid D (c :: r) (1 + E.length) _ _ rfl] at hR5
                · obtain ⟨A5, c5, rfl⟩ := hR5.form
                  refine lst_run (run_assign (by conv => lhs; whnf)) rfl ?_
                  refine lst_done ?_
                  refine goes_region ?_
                  refine lst_run (run_move (by conv => lhs; whnf)) rfl ?_
                  refine lst_run (run_move (by conv => lhs; whnf)) rfl ?_
                  refine lst_run (run_add rfl rfl (by omega) (by omega)) rfl ?_
                  refine lst_run (run_assign (by conv => lhs; whnf)) rfl ?_
                  refine lst_done ?_
                  refine goes_inBlock ?_
                  refine ih (((c :: r).drop (1 + E.length))) _ _ _ _ ?_ ?_ (by conv => lhs; whnf) (by conv => lhs; whnf) (by kernel_rfl)
                  · simp <;> omega
                  · have hwl2 : wordLen (c :: r) = 1 + E.length := by have e0 : spanN digB (x :: q) = 0 := (by simp [spanN, hx]); simp only [wordLen, hlo, hup, hdg, Bool.or_self, Bool.false_eq_true, if_false, Bool.true_or, if_true]; rw [hsp, e0]; rfl
                    refine ⟨D ++ (c :: r).take (1 + E.length), acc ++ [(c :: r).take (1 + E.length)], O5, ?_, ?_, ?_, hS, ?_, ?_⟩
                    · rw [List.append_assoc, List.take_append_drop]
                    · rw [hwl2] at hwl; simp <;> omega
                    · rw [List.map_append, List.length_append]; exact hR5
                    · rw [hW, words_word r hw (by omega), hwl2]; simp
                    · rw [hwl2] at hwl; simp <;> omega
                · omega
          | false =>
            by_cases h45 : c = 45
            · have h45' : c.toNat = 45 := by rw [h45]; rfl
              have hb45 : (c == 45) = true := by simp [h45]
              refine goes_seq ?_
              refine goes_seq ?_
              refine goes_region ?_
              refine lst_run (run_move (by conv => lhs; whnf)) rfl ?_
              refine lst_run (run_move (by conv => lhs; whnf)) rfl ?_
              refine lst_run (run_len_str rfl rfl rfl) rfl ?_
              first
                | refine lst_run (run_lss_yes rfl rfl (by omega)) rfl ?_
                | refine lst_run (run_lss_no rfl rfl (by omega)) rfl ?_
                | refine lst_run (rfl) rfl ?_
              refine lst_done ?_
              refine goes_true rfl ?_
              refine goes_skip ?_
              refine goes_block ?_
              refine goes_seq ?_
              refine goes_region ?_
              refine lst_run (run_move (by conv => lhs; whnf)) rfl ?_
              refine lst_run (run_move (by conv => lhs; whnf)) rfl ?_
              refine lst_run (run_index_str rfl rfl rfl (by omega) (by first | rfl | assumption)) rfl ?_
              refine lst_run (run_assign (by conv => lhs; whnf)) rfl ?_
              refine lst_done ?_
              refine goes_seq ?_
              refine goes_region ?_
              refine lst_run (run_assign (by conv => lhs; whnf)) rfl ?_
              refine lst_done ?_
              refine goes_seq ?_
              refine goes_block ?_
              refine goes_seq ?_
              refine goes_region ?_
              refine lst_run (run_move (by conv => lhs; whnf)) rfl ?_
              refine lst_enter (run_call (by kernel_rfl) (args_2 (by conv => lhs; whnf) (by conv => lhs; whnf))) rfl ?_
              refine Calls.mono (white_any c _) ?_
              rintro _ w3 ⟨⟨i, rfl, hi⟩, rfl⟩
              refine ⟨_, rfl, ?_⟩
              have hi0 : i < 0 := by rw [hw] at hi; have := of_decide_eq_false hi; omega
              first
                | refine lst_run (run_geq_yes rfl rfl (by omega)) rfl ?_
                | refine lst_run (run_geq_no rfl rfl (by omega)) rfl ?_
                | refine lst_run (rfl) rfl ?_
              refine lst_run (run_assign (by conv => lhs; whnf)) rfl ?_
              refine lst_done ?_
              refine goes_false rfl ?_
              refine goes_seq ?_
              refine goes_region ?_
              refine lst_run (run_move (by conv => lhs; whnf)) rfl ?_
              refine lst_run (run_move (by conv => lhs; whnf)) rfl ?_
              refine lst_enter (run_callv rfl (by kernel_rfl) (args_1 (by conv => lhs; whnf))) rfl ?_
              refine Calls.mono (words1_any c _) ?_
              rintro _ w4 ⟨rfl, rfl⟩
              refine ⟨_, rfl, ?_⟩
              refine lst_run (run_move (by conv => lhs; whnf)) rfl ?_
              rw [hlo]
              refine lst_guard rfl rfl ?_
              refine lst_run (run_move (by conv => lhs; whnf)) rfl ?_
              refine lst_guard rfl rfl ?_
              first
                | refine lst_run (run_geq_yes rfl rfl (by omega)) rfl ?_
                | refine lst_run (run_geq_no rfl rfl (by omega)) rfl ?_
                | refine lst_run (rfl) rfl ?_
              refine lst_guard rfl rfl ?_
              refine lst_run (run_move (by conv => lhs; whnf)) rfl ?_
              refine lst_pass rfl rfl rfl ?_
              refine lst_pass rfl rfl rfl ?_
              refine lst_guard rfl rfl ?_
              first
                | refine lst_run (run_pick_t rfl (by conv => lhs; whnf)) rfl ?_
                | refine lst_run (run_pick_f rfl (by conv => lhs; whnf)) rfl ?_
              first
                | refine lst_run (run_pick_t rfl (by conv => lhs; whnf)) rfl ?_
                | refine lst_run (run_pick_f rfl (by conv => lhs; whnf)) rfl ?_
              refine lst_run (run_assign (by conv => lhs; whnf)) rfl ?_
              refine lst_done ?_
              refine goes_false rfl ?_
              refine goes_seq ?_
              refine goes_region ?_
              refine lst_run (run_move (by conv => lhs; whnf)) rfl ?_
              refine lst_run (run_move (by conv => lhs; whnf)) rfl ?_
              refine lst_enter (run_callv rfl (by kernel_rfl) (args_1 (by conv => lhs; whnf))) rfl ?_
              refine Calls.mono (words2_any c _) ?_
              rintro _ w4 ⟨rfl, rfl⟩
              refine ⟨_, rfl, ?_⟩
              refine lst_run (run_move (by conv => lhs; whnf)) rfl ?_
              rw [hdg]
              refine lst_guard rfl rfl ?_
              refine lst_run (run_move (by conv => lhs; whnf)) rfl ?_
              refine lst_guard rfl rfl ?_
              first
                | refine lst_run (run_eql_one_int rfl rfl) rfl ?_
                | refine lst_run (run_eql_no rfl rfl (by first | assumption | omega)) rfl ?_
                | refine lst_run (run_eql_yes rfl rfl (by omega)) rfl ?_
                | refine lst_run (rfl) rfl ?_
              first
                | refine lst_run (run_pick_t rfl (by conv => lhs; whnf)) rfl ?_
                | refine lst_run (run_pick_f rfl (by conv => lhs; whnf)) rfl ?_
              refine lst_run (run_assign (by conv => lhs; whnf)) rfl ?_
              refine lst_done ?_
              refine goes_true rfl ?_
              refine goes_block ?_
              refine goes_loop1 8 (62 :: 63 :: 64 :: 65 :: 66 :: 67 :: 68 :: 69 :: 70 :: 71 :: 72 :: 73 :: 74 :: 75 :: 76 :: 77 :: 78 :: []) (fun (Q : Str) v w' => w' = w4 ∧ ∃ E, r = E ++ Q ∧ v = .int .i64 ((1 + E.length : Nat) : Int) ∧ ∀ x ∈ E, digB x = true) (fun Q => Q.length) (r) ?_ (by conv => lhs; whnf) ?_
              · exact ⟨rfl, [], rfl, rfl, by simp⟩
              rintro Q vq w6 jv4 ⟨rfl, E, hE, rfl, hall⟩ ih2
              have hlE : r.length = E.length + Q.length := by rw [hE, List.length_append]
              have hsp : spanN digB r = E.length + spanN digB Q := by rw [hE]; exact spanN_app E Q hall
              cases Q with
              | nil =>
                simp only [List.length_nil] at hlE
                refine goes_seq ?_
                refine goes_seq ?_
                refine goes_region ?_
                refine lst_run (run_move (by conv => lhs; whnf)) rfl ?_
                refine lst_run (run_move (by conv => lhs; whnf)) rfl ?_
                refine lst_run (run_add rfl rfl (by omega) (by omega)) rfl ?_
                refine lst_run (run_move (by conv => lhs; whnf)) rfl ?_
                refine lst_run (run_len_str rfl rfl rfl) rfl ?_
                first
                  | refine lst_run (run_lss_yes rfl rfl (by omega)) rfl ?_
                  | refine lst_run (run_lss_no rfl rfl (by omega)) rfl ?_
                  | refine lst_run (rfl) rfl ?_
                refine lst_run (run_move (by conv => lhs; whnf)) rfl ?_
                refine lst_pass rfl rfl rfl ?_
                refine lst_pass rfl rfl rfl ?_
                refine lst_pass rfl rfl rfl ?_
                refine lst_pass rfl rfl rfl ?_
                refine lst_pass rfl rfl rfl ?_
                refine lst_pass rfl rfl rfl ?_
                refine lst_pass rfl rfl rfl ?_
                first
                  | refine lst_run (run_pick_t rfl (by conv => lhs; whnf)) rfl ?_
                  | refine lst_run (run_pick_f rfl (by conv => lhs; whnf)) rfl ?_
                refine lst_done ?_
                refine goes_false rfl ?_
                refine goes_exit rfl ?_
                refine goes_inBlock ?_
                refine goes_seq ?_
                refine goes_region ?_
                refine lst_run (run_move (by conv => lhs; whnf)) rfl ?_
                refine lst_run (run_move (by conv => lhs; whnf)) rfl ?_
                refine lst_run (run_move (by conv => lhs; whnf)) rfl ?_
                refine lst_run (run_move (by conv => lhs; whnf)) rfl ?_
                refine lst_run (run_move (by conv => lhs; whnf)) rfl ?_
                refine lst_run (run_add rfl rfl (by omega) (by omega)) rfl ?_
                refine lst_run (run_slice_both rfl rfl rfl rfl (by omega) (by omega) (by omega)) rfl ?_
                refine lst_buildSlice (cells := [_]) hS (.cons (by conv => lhs; whnf) .nil) rfl rfl ?_
                clear hS
                intro b1 wx1 hS
                refine lst_app (sz := 1) (bts := 16) hS (by conv => lhs; whnf) rfl rfl rfl rfl (hR) rfl rfl (List.Perm.refl _) (by omega) (by omega) rfl ?_
                clear hS
                intro v5 O5 w5 hR5 hS
                rw [cut_mid D (c :: r) (1 + E.length) _ _ rfl] at hR5
                · obtain ⟨A5, c5, rfl⟩ := hR5.form
                  refine lst_run (run_assign (by conv => lhs; whnf)) rfl ?_
                  refine lst_done ?_
                  refine goes_region ?_
                  refine lst_run (run_move (by conv => lhs; whnf)) rfl ?_
                  refine lst_run (run_move (by conv => lhs; whnf)) rfl ?_
                  refine lst_run (run_add rfl rfl (by omega) (by omega)) rfl ?_
                  refine lst_run (run_assign (by conv => lhs; whnf)) rfl ?_
                  refine lst_done ?_
                  refine goes_inBlock ?_
                  refine ih (((c :: r).drop (1 + E.length))) _ _ _ _ ?_ ?_ (by conv => lhs; whnf) (by conv => lhs; whnf) (by kernel_rfl)
                  · simp <;> omega
                  · have hwl2 : wordLen (c :: r) = 1 + E.length := by have e0 : spanN digB ([] : Str) = 0 := rfl; simp only [wordLen, hlo, hup, hdg, hb45, Bool.or_self, Bool.false_eq_true, if_false, Bool.false_or, if_true]; rw [hsp, e0]; rfl
                    refine ⟨D ++ (c :: r).take (1 + E.length), acc ++ [(c :: r).take (1 + E.length)], O5, ?_, ?_, ?_, hS, ?_, ?_⟩
                    · rw [List.append_assoc, List.take_append_drop]
                    · rw [hwl2] at hwl; simp <;> omega
                    · rw [List.map_append, List.length_append]; exact hR5
                    · rw [hW, words_word r hw (by omega), hwl2]; simp
                    · rw [hwl2] at hwl; simp <;> omega
                · omega
              | cons x q =>
                simp only [List.length_cons] at hlE
                have hget2 : (D ++ c :: r)[(((D.length : Nat) : Int) + ((1 + E.length : Nat) : Int)).toNat]? = some x := by
                  have e1 : (((D.length : Nat) : Int) + ((1 + E.length : Nat) : Int)).toNat = (D ++ c :: E).length := by simp; omega
                  rw [e1, hE, show D ++ c :: (E ++ x :: q) = (D ++ c :: E) ++ x :: q by simp]
                  simp
                cases hx : digB x with
                | true =>
                  refine goes_seq ?_
                  refine goes_seq ?_
                  refine goes_region ?_
                  refine lst_run (run_move (by conv => lhs; whnf)) rfl ?_
                  refine lst_run (run_move (by conv => lhs; whnf)) rfl ?_
                  refine lst_run (run_add rfl rfl (by omega) (by omega)) rfl ?_
                  refine lst_run (run_move (by conv => lhs; whnf)) rfl ?_
                  refine lst_run (run_len_str rfl rfl rfl) rfl ?_
                  first
                    | refine lst_run (run_lss_yes rfl rfl (by omega)) rfl ?_
                    | refine lst_run (run_lss_no rfl rfl (by omega)) rfl ?_
                    | refine lst_run (rfl) rfl ?_
                  refine lst_run (run_move (by conv => lhs; whnf)) rfl ?_
                  refine lst_guard rfl rfl ?_
                  refine lst_run (run_move (by conv => lhs; whnf)) rfl ?_
                  refine lst_guard rfl rfl ?_
                  refine lst_run (run_move (by conv => lhs; whnf)) rfl ?_
                  refine lst_guard rfl rfl ?_
                  refine lst_run (run_move (by conv => lhs; whnf)) rfl ?_
                  refine lst_guard rfl rfl ?_
                  refine lst_run (run_move (by conv => lhs; whnf)) rfl ?_
                  refine lst_guard rfl rfl ?_
                  refine lst_run (run_add rfl rfl (by omega) (by omega)) rfl ?_
                  refine lst_guard rfl rfl ?_
                  refine lst_run (run_index_str rfl rfl rfl (by omega) (by first | rfl | assumption)) rfl ?_
                  refine lst_guard rfl rfl ?_
                  refine lst_enter (run_callv rfl (by kernel_rfl) (args_1 (by conv => lhs; whnf))) rfl ?_
                  refine Calls.mono (words2_any x _) ?_
                  rintro _ w5 ⟨rfl, rfl⟩
                  refine ⟨_, rfl, ?_⟩
                  first
                    | refine lst_run (run_pick_t rfl (by conv => lhs; whnf)) rfl ?_
                    | refine lst_run (run_pick_f rfl (by conv => lhs; whnf)) rfl ?_
                  refine lst_done ?_
                  rw [hx]
                  refine goes_true rfl ?_
                  refine goes_skip ?_
                  refine goes_block ?_
                  refine goes_region ?_
                  refine lst_run (run_move (by conv => lhs; whnf)) rfl ?_
                  refine lst_run (run_add rfl rfl (by omega) (by omega)) rfl ?_
                  refine lst_run (run_assign (by conv => lhs; whnf)) rfl ?_
                  refine lst_done ?_
                  refine goes_inBlock ?_
                  refine ih2 q _ _ _ ?_ ⟨rfl, E ++ [x], by rw [hE]; simp, rfl, all_snoc' hall hx⟩ (by first | (conv => lhs; whnf); done | (show Value.int .i64 _ = Value.int .i64 _; congr 1; simp; omega)) (by kernel_rfl)
                  simp
                | false =>
                  refine goes_seq ?_
                  refine goes_seq ?_
                  refine goes_region ?_
                  refine lst_run (run_move (by conv => lhs; whnf)) rfl ?_
                  refine lst_run (run_move (by conv => lhs; whnf)) rfl ?_
                  refine lst_run (run_add rfl rfl (by omega) (by omega)) rfl ?_
                  refine lst_run (run_move (by conv => lhs; whnf)) rfl ?_
                  refine lst_run (run_len_str rfl rfl rfl) rfl ?_
                  first
                    | refine lst_run (run_lss_yes rfl rfl (by omega)) rfl ?_
                    | refine lst_run (run_lss_no rfl rfl (by omega)) rfl ?_
                    | refine lst_run (rfl) rfl ?_
                  refine lst_run (run_move (by conv => lhs; whnf)) rfl ?_
                  refine lst_guard rfl rfl ?_
                  refine lst_run (run_move (by conv => lhs; whnf)) rfl ?_
                  refine lst_guard rfl rfl ?_
                  refine lst_run (run_move (by conv => lhs; whnf)) rfl ?_
                  refine lst_guard rfl rfl ?_
                  refine lst_run (run_move (by conv => lhs; whnf)) rfl ?_
                  refine lst_guard rfl rfl ?_
                  refine lst_run (run_move (by conv => lhs; whnf)) rfl ?_
                  refine lst_guard rfl rfl ?_
                  refine lst_run (run_add rfl rfl (by omega) (by omega)) rfl ?_
                  refine lst_guard rfl rfl ?_
                  refine lst_run (run_index_str rfl rfl rfl (by omega) (by first | rfl | assumption)) rfl ?_
                  refine lst_guard rfl rfl ?_
                  refine lst_enter (run_callv rfl (by kernel_rfl) (args_1 (by conv => lhs; whnf))) rfl ?_
                  refine Calls.mono (words2_any x _) ?_
                  rintro _ w5 ⟨rfl, rfl⟩
                  refine ⟨_, rfl, ?_⟩
                  first
                    | refine lst_run (run_pick_t rfl (by conv => lhs; whnf)) rfl ?_
                    | refine lst_run (run_pick_f rfl (by conv => lhs; whnf)) rfl ?_
                  refine lst_done ?_
                  rw [hx]
                  refine goes_false rfl ?_
                  refine goes_exit rfl ?_
                  refine goes_inBlock ?_
                  refine goes_seq ?_
                  refine goes_region ?_
                  refine lst_run (run_move (by conv => lhs; whnf)) rfl ?_
                  refine lst_run (run_move (by conv => lhs; whnf)) rfl ?_
                  refine lst_run (run_move (by conv => lhs; whnf)) rfl ?_
                  refine lst_run (run_move (by conv => lhs; whnf)) rfl ?_
                  refine lst_run (run_move (by conv => lhs; whnf)) rfl ?_
                  refine lst_run (run_add rfl rfl (by omega) (by omega)) rfl ?_
                  refine lst_run (run_slice_both rfl rfl rfl rfl (by omega) (by omega) (by omega)) rfl ?_
                  refine lst_buildSlice (cells := [_]) hS (.cons (by conv => lhs; whnf) .nil) rfl rfl ?_
                  clear hS
                  intro b1 wx1 hS
                  refine lst_app (sz := 1) (bts := 16) hS (by conv => lhs; whnf) rfl rfl rfl rfl (hR) rfl rfl (List.Perm.refl _) (by omega) (by omega) rfl ?_
                  clear hS
                  intro v5 O5 w5 hR5 hS
                  rw [cut_mid D (c :: r) (1 + E.length) _ _ rfl] at hR5
                  · obtain ⟨A5, c5, rfl⟩ := hR5.form
                    refine lst_run (run_assign (by conv => lhs; whnf)) rfl ?_
                    refine lst_done ?_
                    refine goes_region ?_
                    refine lst_run (run_move (by conv => lhs; whnf)) rfl ?_
                    refine lst_run (run_move (by conv => lhs; whnf)) rfl ?_
                    refine lst_run (run_add rfl rfl (by omega) (by omega)) rfl ?_
                    refine lst_run (run_assign (by conv => lhs; whnf)) rfl ?_
                    refine lst_done ?_
                    refine goes_inBlock ?_
                    refine ih (((c :: r).drop (1 + E.length))) _ _ _ _ ?_ ?_ (by conv => lhs; whnf) (by conv => lhs; whnf) (by kernel_rfl)
                    · simp <;> omega
                    · have hwl2 : wordLen (c :: r) = 1 + E.length := by have e0 : spanN digB (x :: q) = 0 := (by simp [spanN, hx]); simp only [wordLen, hlo, hup, hdg, hb45, Bool.or_self, Bool.false_eq_true, if_false, Bool.false_or, if_true]; rw [hsp, e0]; rfl
                      refine ⟨D ++ (c :: r).take (1 + E.length), acc ++ [(c :: r).take (1 + E.length)], O5, ?_, ?_, ?_, hS, ?_, ?_⟩
                      · rw [List.append_assoc, List.take_append_drop]
                      · rw [hwl2] at hwl; simp <;> omega
                      · rw [List.map_append, List.length_append]; exact hR5
                      · rw [hW, words_word r hw (by omega), hwl2]; simp
                      · rw [hwl2] at hwl; simp <;> omega
                  · omega
            have h45' : c.toNat ≠ 45 := fun h => h45 (u8_eq (n := 45) h)
            have hb45 : (c == 45) = false := by simp [h45]
            have hsg := sign_of c
            by_cases h58 : c = 58
            · have h58' : c.toNat = 58 := by rw [h58]; rfl
              have hs0 : signs.contains c = false := by rw [h58]; decide
              rw [hs0] at hsg
              have hsn : Lib.indexByte signs c < 0 := by have := of_decide_eq_false hsg; omega
              have hnp : ([58, 45] : Str).isPrefixOf (c :: r) = true ∨ wordLen (c :: r) = 0 := by
                cases hp : ([58, 45] : Str).isPrefixOf (c :: r) with
                | true => exact .inl rfl
                | false => right; simp only [wordLen, hlo, hup, hdg, hb45, hp, hs0, Bool.or_self, Bool.false_eq_true, if_false]
              cases r with
              | nil =>
                have hbad : wordLen [c] = 0 := by
                  rcases hnp with h | h
                  · simp [List.isPrefixOf] at h
                  · exact h
                simp only [List.length_nil] at hlen
                refine goes_seq ?_
                refine goes_seq ?_
                refine goes_region ?_
                refine lst_run (run_move (by conv => lhs; whnf)) rfl ?_
                refine lst_run (run_move (by conv => lhs; whnf)) rfl ?_
                refine lst_run (run_len_str rfl rfl rfl) rfl ?_
                first
                  | refine lst_run (run_lss_yes rfl rfl (by omega)) rfl ?_
                  | refine lst_run (run_lss_no rfl rfl (by omega)) rfl ?_
                  | refine lst_run (rfl) rfl ?_
                refine lst_done ?_
                refine goes_true rfl ?_
                refine goes_skip ?_
                refine goes_block ?_
                refine goes_seq ?_
                refine goes_region ?_
                refine lst_run (run_move (by conv => lhs; whnf)) rfl ?_
                refine lst_run (run_move (by conv => lhs; whnf)) rfl ?_
                refine lst_run (run_index_str rfl rfl rfl (by omega) (by first | rfl | assumption)) rfl ?_
                refine lst_run (run_assign (by conv => lhs; whnf)) rfl ?_
                refine lst_done ?_
                refine goes_seq ?_
                refine goes_region ?_
                refine lst_run (run_assign (by conv => lhs; whnf)) rfl ?_
                refine lst_done ?_
                refine goes_seq ?_
                refine goes_block ?_
                refine goes_seq ?_
                refine goes_region ?_
                refine lst_run (run_move (by conv => lhs; whnf)) rfl ?_
                refine lst_enter (run_call (by kernel_rfl) (args_2 (by conv => lhs; whnf) (by conv => lhs; whnf))) rfl ?_
                refine Calls.mono (white_any c _) ?_
                rintro _ w3 ⟨⟨i, rfl, hi⟩, rfl⟩
                refine ⟨_, rfl, ?_⟩
                have hi0 : i < 0 := by rw [hw] at hi; have := of_decide_eq_false hi; omega
                first
                  | refine lst_run (run_geq_yes rfl rfl (by omega)) rfl ?_
                  | refine lst_run (run_geq_no rfl rfl (by omega)) rfl ?_
                  | refine lst_run (rfl) rfl ?_
                refine lst_run (run_assign (by conv => lhs; whnf)) rfl ?_
                refine lst_done ?_
                refine goes_false rfl ?_
                refine goes_seq ?_
                refine goes_region ?_
                refine lst_run (run_move (by conv => lhs; whnf)) rfl ?_
                refine lst_run (run_move (by conv => lhs; whnf)) rfl ?_
                refine lst_enter (run_callv rfl (by kernel_rfl) (args_1 (by conv => lhs; whnf))) rfl ?_
                refine Calls.mono (words1_any c _) ?_
                rintro _ w4 ⟨rfl, rfl⟩
                refine ⟨_, rfl, ?_⟩
                refine lst_run (run_move (by conv => lhs; whnf)) rfl ?_
                rw [hlo]
                refine lst_guard rfl rfl ?_
                refine lst_run (run_move (by conv => lhs; whnf)) rfl ?_
                refine lst_guard rfl rfl ?_
                first
                  | refine lst_run (run_geq_yes rfl rfl (by omega)) rfl ?_
                  | refine lst_run (run_geq_no rfl rfl (by omega)) rfl ?_
                  | refine lst_run (rfl) rfl ?_
                refine lst_guard rfl rfl ?_
                refine lst_run (run_move (by conv => lhs; whnf)) rfl ?_
                refine lst_pass rfl rfl rfl ?_
                refine lst_pass rfl rfl rfl ?_
                refine lst_guard rfl rfl ?_
                first
                  | refine lst_run (run_pick_t rfl (by conv => lhs; whnf)) rfl ?_
                  | refine lst_run (run_pick_f rfl (by conv => lhs; whnf)) rfl ?_
                first
                  | refine lst_run (run_pick_t rfl (by conv => lhs; whnf)) rfl ?_
                  | refine lst_run (run_pick_f rfl (by conv => lhs; whnf)) rfl ?_
                refine lst_run (run_assign (by conv => lhs; whnf)) rfl ?_
                refine lst_done ?_
                refine goes_false rfl ?_
                refine goes_seq ?_
                refine goes_region ?_
                refine lst_run (run_move (by conv => lhs; whnf)) rfl ?_
                refine lst_run (run_move (by conv => lhs; whnf)) rfl ?_
                refine lst_enter (run_callv rfl (by kernel_rfl) (args_1 (by conv => lhs; whnf))) rfl ?_
                refine Calls.mono (words2_any c _) ?_
                rintro _ w4 ⟨rfl, rfl⟩
                refine ⟨_, rfl, ?_⟩
                refine lst_run (run_move (by conv => lhs; whnf)) rfl ?_
                rw [hdg]
                refine lst_guard rfl rfl ?_
                refine lst_run (run_move (by conv => lhs; whnf)) rfl ?_
                refine lst_guard rfl rfl ?_
                first
                  | refine lst_run (run_eql_one_int rfl rfl) rfl ?_
                  | refine lst_run (run_eql_no rfl rfl (by first | assumption | omega)) rfl ?_
                  | refine lst_run (run_eql_yes rfl rfl (by omega)) rfl ?_
                  | refine lst_run (rfl) rfl ?_
                first
                  | refine lst_run (run_pick_t rfl (by conv => lhs; whnf)) rfl ?_
                  | refine lst_run (run_pick_f rfl (by conv => lhs; whnf)) rfl ?_
                refine lst_run (run_assign (by conv => lhs; whnf)) rfl ?_
                refine lst_done ?_
                refine goes_false rfl ?_
                refine goes_seq ?_
                refine goes_region ?_
                refine lst_run (run_move (by conv => lhs; whnf)) rfl ?_
                first
                  | refine lst_run (run_eql_one_int rfl rfl) rfl ?_
                  | refine lst_run (run_eql_no rfl rfl (by first | assumption | omega)) rfl ?_
                  | refine lst_run (run_eql_yes rfl rfl (by omega)) rfl ?_
                  | refine lst_run (rfl) rfl ?_
                refine lst_run (run_move (by conv => lhs; whnf)) rfl ?_
                refine lst_guard rfl rfl ?_
                refine lst_run (run_move (by conv => lhs; whnf)) rfl ?_
                refine lst_guard rfl rfl ?_
                refine lst_run (run_add rfl rfl (by omega) (by omega)) rfl ?_
                refine lst_guard rfl rfl ?_
                refine lst_run (run_move (by conv => lhs; whnf)) rfl ?_
                refine lst_guard rfl rfl ?_
                refine lst_run (run_len_str rfl rfl rfl) rfl ?_
                refine lst_guard rfl rfl ?_
                first
                  | refine lst_run (run_lss_yes rfl rfl (by omega)) rfl ?_
                  | refine lst_run (run_lss_no rfl rfl (by omega)) rfl ?_
                  | refine lst_run (rfl) rfl ?_
                first
                  | refine lst_run (run_pick_t rfl (by conv => lhs; whnf)) rfl ?_
                  | refine lst_run (run_pick_f rfl (by conv => lhs; whnf)) rfl ?_
                refine lst_run (run_move (by conv => lhs; whnf)) rfl ?_
                refine lst_pass rfl rfl rfl ?_
                refine lst_pass rfl rfl rfl ?_
                refine lst_pass rfl rfl rfl ?_
                refine lst_pass rfl rfl rfl ?_
                refine lst_pass rfl rfl rfl ?_
                first
                  | refine lst_run (run_pick_t rfl (by conv => lhs; whnf)) rfl ?_
                  | refine lst_run (run_pick_f rfl (by conv => lhs; whnf)) rfl ?_
                refine lst_run (run_assign (by conv => lhs; whnf)) rfl ?_
                refine lst_done ?_
                refine goes_false rfl ?_
                refine goes_seq ?_
                refine goes_region ?_
                refine lst_run (run_move (by conv => lhs; whnf)) rfl ?_
                refine lst_enter (run_call (by kernel_rfl) (args_2 (by conv => lhs; whnf) (by conv => lhs; whnf))) rfl ?_
                refine Calls.mono (idx_any signs c _) ?_
                rintro _ w5 ⟨rfl, rfl⟩
                refine ⟨_, rfl, ?_⟩
                generalize Lib.indexByte signs c = si at *
                first
                  | refine lst_run (run_geq_yes rfl rfl (by omega)) rfl ?_
                  | refine lst_run (run_geq_no rfl rfl (by omega)) rfl ?_
                  | refine lst_run (rfl) rfl ?_
                refine lst_run (run_assign (by conv => lhs; whnf)) rfl ?_
                refine lst_done ?_
                refine goes_false rfl ?_
                refine goes_seq ?_
                refine goes_region ?_
                refine lst_run (run_move (by conv => lhs; whnf)) rfl ?_
                refine lst_buildSlice (cells := [_]) hS (.cons (by conv => lhs; whnf) .nil) rfl rfl ?_
                clear hS
                intro b1 wx1 hS
                refine lst_app (sz := 1) (bts := 16) hS (by conv => lhs; whnf) rfl rfl rfl rfl (hR) rfl rfl (List.Perm.refl _) (by omega) (by omega) rfl ?_
                clear hS
                intro v5 O5 w5 hR5 hS
                obtain ⟨A5, c5, rfl⟩ := hR5.form
                refine lst_run (run_assign (by conv => lhs; whnf)) rfl ?_
                refine lst_done ?_
                refine goes_ret1 Tryz.func18 rfl (by conv => lhs; whnf) ?_
                refine ⟨_, O5, rfl, ?_, hS⟩
                rw [hW, words_bad [] hw hbad, List.map_append, List.length_append]
                exact hR5
              | cons x q =>
                simp only [List.length_cons] at hlen
                have hget3 : (D ++ c :: x :: q)[(((D.length : Nat) : Int) + 1).toNat]? = some x := by
                  have e1 : (((D.length : Nat) : Int) + 1).toNat = (D ++ [c]).length := by simp <;> omega
                  rw [e1, show D ++ c :: x :: q = (D ++ [c]) ++ x :: q by simp]
                  simp
                by_cases hx : x = 45
                · have hx' : x.toNat = 45 := by rw [hx]; rfl
                  refine goes_seq ?_
                  refine goes_seq ?_
                  refine goes_region ?_
                  refine lst_run (run_move (by conv => lhs; whnf)) rfl ?_
                  refine lst_run (run_move (by conv => lhs; whnf)) rfl ?_
                  refine lst_run (run_len_str rfl rfl rfl) rfl ?_
                  first
                    | refine lst_run (run_lss_yes rfl rfl (by omega)) rfl ?_
                    | refine lst_run (run_lss_no rfl rfl (by omega)) rfl ?_
                    | refine lst_run (rfl) rfl ?_
                  refine lst_done ?_
                  refine goes_true rfl ?_
                  refine goes_skip ?_
                  refine goes_block ?_
                  refine goes_seq ?_
                  refine goes_region ?_
                  refine lst_run (run_move (by conv => lhs; whnf)) rfl ?_
                  refine lst_run (run_move (by conv => lhs; whnf)) rfl ?_
                  refine lst_run (run_index_str rfl rfl rfl (by omega) (by first | rfl | assumption)) rfl ?_
                  refine lst_run (run_assign (by conv => lhs; whnf)) rfl ?_
                  refine lst_done ?_
                  refine goes_seq ?_
                  refine goes_region ?_
                  refine lst_run (run_assign (by conv => lhs; whnf)) rfl ?_
                  refine lst_done ?_
                  refine goes_seq ?_
                  refine goes_block ?_
                  refine goes_seq ?_
                  refine goes_region ?_
                  refine lst_run (run_move (by conv => lhs; whnf)) rfl ?_
                  refine lst_enter (run_call (by kernel_rfl) (args_2 (by conv => lhs; whnf) (by conv => lhs; whnf))) rfl ?_
                  refine Calls.mono (white_any c _) ?_
                  rintro _ w3 ⟨⟨i, rfl, hi⟩, rfl⟩
                  refine ⟨_, rfl, ?_⟩
                  have hi0 : i < 0 := by rw [hw] at hi; have := of_decide_eq_false hi; omega
                  first
                    | refine lst_run (run_geq_yes rfl rfl (by omega)) rfl ?_
                    | refine lst_run (run_geq_no rfl rfl (by omega)) rfl ?_
                    | refine lst_run (rfl) rfl ?_
                  refine lst_run (run_assign (by conv => lhs; whnf)) rfl ?_
                  refine lst_done ?_
                  refine goes_false rfl ?_
                  refine goes_seq ?_
                  refine goes_region ?_
                  refine lst_run (run_move (by conv => lhs; whnf)) rfl ?_
                  refine lst_run (run_move (by conv => lhs; whnf)) rfl ?_
                  refine lst_enter (run_callv rfl (by kernel_rfl) (args_1 (by conv => lhs; whnf))) rfl ?_
                  refine Calls.mono (words1_any c _) ?_
                  rintro _ w4 ⟨rfl, rfl⟩
                  refine ⟨_, rfl, ?_⟩
                  refine lst_run (run_move (by conv => lhs; whnf)) rfl ?_
                  rw [hlo]
                  refine lst_guard rfl rfl ?_
                  refine lst_run (run_move (by conv => lhs; whnf)) rfl ?_
                  refine lst_guard rfl rfl ?_
                  first
                    | refine lst_run (run_geq_yes rfl rfl (by omega)) rfl ?_
                    | refine lst_run (run_geq_no rfl rfl (by omega)) rfl ?_
                    | refine lst_run (rfl) rfl ?_
                  refine lst_guard rfl rfl ?_
                  refine lst_run (run_move (by conv => lhs; whnf)) rfl ?_
                  refine lst_pass rfl rfl rfl ?_
                  refine lst_pass rfl rfl rfl ?_
                  refine lst_guard rfl rfl ?_
                  first
                    | refine lst_run (run_pick_t rfl (by conv => lhs; whnf)) rfl ?_
                    | refine lst_run (run_pick_f rfl (by conv => lhs; whnf)) rfl ?_
                  first
                    | refine lst_run (run_pick_t rfl (by conv => lhs; whnf)) rfl ?_
                    | refine lst_run (run_pick_f rfl (by conv => lhs; whnf)) rfl ?_
                  refine lst_run (run_assign (by conv => lhs; whnf)) rfl ?_
                  refine lst_done ?_
                  refine goes_false rfl ?_
                  refine goes_seq ?_
                  refine goes_region ?_
                  refine lst_run (run_move (by conv => lhs; whnf)) rfl ?_
                  refine lst_run (run_move (by conv => lhs; whnf)) rfl ?_
                  refine lst_enter (run_callv rfl (by kernel_rfl) (args_1 (by conv => lhs; whnf))) rfl ?_
                  refine Calls.mono (words2_any c _) ?_
                  rintro _ w4 ⟨rfl, rfl⟩
                  refine ⟨_, rfl, ?_⟩
                  refine lst_run (run_move (by conv => lhs; whnf)) rfl ?_
                  rw [hdg]
                  refine lst_guard rfl rfl ?_
                  refine lst_run (run_move (by conv => lhs; whnf)) rfl ?_
                  refine lst_guard rfl rfl ?_
                  first
                    | refine lst_run (run_eql_one_int rfl rfl) rfl ?_
                    | refine lst_run (run_eql_no rfl rfl (by first | assumption | omega)) rfl ?_
                    | refine lst_run (run_eql_yes rfl rfl (by omega)) rfl ?_
                    | refine lst_run (rfl) rfl ?_
                  first
                    | refine lst_run (run_pick_t rfl (by conv => lhs; whnf)) rfl ?_
                    | refine lst_run (run_pick_f rfl (by conv => lhs; whnf)) rfl ?_
                  refine lst_run (run_assign (by conv => lhs; whnf)) rfl ?_
                  refine lst_done ?_
                  refine goes_false rfl ?_
                  refine goes_seq ?_
                  refine goes_region ?_
                  refine lst_run (run_move (by conv => lhs; whnf)) rfl ?_
                  first
                    | refine lst_run (run_eql_one_int rfl rfl) rfl ?_
                    | refine lst_run (run_eql_no rfl rfl (by first | assumption | omega)) rfl ?_
                    | refine lst_run (run_eql_yes rfl rfl (by omega)) rfl ?_
                    | refine lst_run (rfl) rfl ?_
                  refine lst_run (run_move (by conv => lhs; whnf)) rfl ?_
                  refine lst_guard rfl rfl ?_
                  refine lst_run (run_move (by conv => lhs; whnf)) rfl ?_
                  refine lst_guard rfl rfl ?_
                  refine lst_run (run_add rfl rfl (by omega) (by omega)) rfl ?_
                  refine lst_guard rfl rfl ?_
                  refine lst_run (run_move (by conv => lhs; whnf)) rfl ?_
                  refine lst_guard rfl rfl ?_
                  refine lst_run (run_len_str rfl rfl rfl) rfl ?_
                  refine lst_guard rfl rfl ?_
                  first
                    | refine lst_run (run_lss_yes rfl rfl (by omega)) rfl ?_
                    | refine lst_run (run_lss_no rfl rfl (by omega)) rfl ?_
                    | refine lst_run (rfl) rfl ?_
                  first
                    | refine lst_run (run_pick_t rfl (by conv => lhs; whnf)) rfl ?_
                    | refine lst_run (run_pick_f rfl (by conv => lhs; whnf)) rfl ?_
                  refine lst_run (run_move (by conv => lhs; whnf)) rfl ?_
                  refine lst_guard rfl rfl ?_
                  refine lst_run (run_move (by conv => lhs; whnf)) rfl ?_
                  refine lst_guard rfl rfl ?_
                  refine lst_run (run_move (by conv => lhs; whnf)) rfl ?_
                  refine lst_guard rfl rfl ?_
                  refine lst_run (run_add rfl rfl (by omega) (by omega)) rfl ?_
                  refine lst_guard rfl rfl ?_
                  refine lst_run (run_index_str rfl rfl rfl (by omega) (by first | rfl | assumption)) rfl ?_
                  refine lst_guard rfl rfl ?_
                  first
                    | refine lst_run (run_eql_one_int rfl rfl) rfl ?_
                    | refine lst_run (run_eql_no rfl rfl (by first | assumption | omega)) rfl ?_
                    | refine lst_run (run_eql_yes rfl rfl (by omega)) rfl ?_
                    | refine lst_run (rfl) rfl ?_
                  first
                    | refine lst_run (run_pick_t rfl (by conv => lhs; whnf)) rfl ?_
                    | refine lst_run (run_pick_f rfl (by conv => lhs; whnf)) rfl ?_
                  refine lst_run (run_assign (by conv => lhs; whnf)) rfl ?_
                  refine lst_done ?_
                  refine goes_true rfl ?_
                  refine goes_region ?_
                  refine lst_run (run_assign (by conv => lhs; whnf)) rfl ?_
                  refine lst_done ?_
                  refine goes_inBlock ?_
                  refine goes_seq ?_
                  refine goes_region ?_
                  refine lst_run (run_move (by conv => lhs; whnf)) rfl ?_
                  refine lst_run (run_move (by conv => lhs; whnf)) rfl ?_
                  refine lst_run (run_move (by conv => lhs; whnf)) rfl ?_
                  refine lst_run (run_move (by conv => lhs; whnf)) rfl ?_
                  refine lst_run (run_move (by conv => lhs; whnf)) rfl ?_
                  refine lst_run (run_add rfl rfl (by omega) (by omega)) rfl ?_
                  refine lst_run (run_slice_both rfl rfl rfl rfl (by omega) (by omega) (by omega)) rfl ?_
                  refine lst_buildSlice (cells := [_]) hS (.cons (by conv => lhs; whnf) .nil) rfl rfl ?_
                  clear hS
                  intro b1 wx1 hS
                  refine lst_app (sz := 1) (bts := 16) hS (by conv => lhs; whnf) rfl rfl rfl rfl (hR) rfl rfl (List.Perm.refl _) (by omega) (by omega) rfl ?_
                  clear hS
                  intro v5 O5 w5 hR5 hS
                  rw [cut_mid D (c :: x :: q) (2) _ _ rfl] at hR5
                  · obtain ⟨A5, c5, rfl⟩ := hR5.form
                    refine lst_run (run_assign (by conv => lhs; whnf)) rfl ?_
                    refine lst_done ?_
                    refine goes_region ?_
                    refine lst_run (run_move (by conv => lhs; whnf)) rfl ?_
                    refine lst_run (run_move (by conv => lhs; whnf)) rfl ?_
                    refine lst_run (run_add rfl rfl (by omega) (by omega)) rfl ?_
                    refine lst_run (run_assign (by conv => lhs; whnf)) rfl ?_
                    refine lst_done ?_
                    refine goes_inBlock ?_
                    refine ih (((c :: x :: q).drop (2))) _ _ _ _ ?_ ?_ (by conv => lhs; whnf) (by conv => lhs; whnf) (by kernel_rfl)
                    · simp <;> omega
                    · have hwl2 : wordLen (c :: x :: q) = 2 := by subst h58 hx; rfl
                      refine ⟨D ++ (c :: x :: q).take (2), acc ++ [(c :: x :: q).take (2)], O5, ?_, ?_, ?_, hS, ?_, ?_⟩
                      · rw [List.append_assoc, List.take_append_drop]
                      · rw [hwl2] at hwl; simp <;> omega
                      · rw [List.map_append, List.length_append]; exact hR5
                      · rw [hW, words_word (x :: q) hw (by omega), hwl2]; simp
                      · rw [hwl2] at hwl; simp <;> omega
                  · omega
                · have hx' : x.toNat ≠ 45 := fun h => hx (u8_eq (n := 45) h)
                  have hbad : wordLen (c :: x :: q) = 0 := by
                    rcases hnp with h | h
                    · exfalso; simp [List.isPrefixOf] at h; exact hx h.2.symm
                    · exact h
                  refine goes_seq ?_
                  refine goes_seq ?_
                  refine goes_region ?_
                  refine lst_run (run_move (by conv => lhs; whnf)) rfl ?_
                  refine lst_run (run_move (by conv => lhs; whnf)) rfl ?_
                  refine lst_run (run_len_str rfl rfl rfl) rfl ?_
                  first
                    | refine lst_run (run_lss_yes rfl rfl (by omega)) rfl ?_
                    | refine lst_run (run_lss_no rfl rfl (by omega)) rfl ?_
                    | refine lst_run (rfl) rfl ?_
                  refine lst_done ?_
                  refine goes_true rfl ?_
                  refine goes_skip ?_
                  refine goes_block ?_
                  refine goes_seq ?_
                  refine goes_region ?_
                  refine lst_run (run_move (by conv => lhs; whnf)) rfl ?_
                  refine lst_run (run_move (by conv => lhs; whnf)) rfl ?_
                  refine lst_run (run_index_str rfl rfl rfl (by omega) (by first | rfl | assumption)) rfl ?_
                  refine lst_run (run_assign (by conv => lhs; whnf)) rfl ?_
                  refine lst_done ?_
                  refine goes_seq ?_
                  refine goes_region ?_
                  refine lst_run (run_assign (by conv => lhs; whnf)) rfl ?_
                  refine lst_done ?_
                  refine goes_seq ?_
                  refine goes_block ?_
                  refine goes_seq ?_
                  refine goes_region ?_
                  refine lst_run (run_move (by conv => lhs; whnf)) rfl ?_
                  refine lst_enter (run_call (by kernel_rfl) (args_2 (by conv => lhs; whnf) (by conv => lhs; whnf))) rfl ?_
                  refine Calls.mono (white_any c _) ?_
                  rintro _ w3 ⟨⟨i, rfl, hi⟩, rfl⟩
                  refine ⟨_, rfl, ?_⟩
                  have hi0 : i < 0 := by rw [hw] at hi; have := of_decide_eq_false hi; omega
                  first
                    | refine lst_run (run_geq_yes rfl rfl (by omega)) rfl ?_
                    | refine lst_run (run_geq_no rfl rfl (by omega)) rfl ?_
                    | refine lst_run (rfl) rfl ?_
                  refine lst_run (run_assign (by conv => lhs; whnf)) rfl ?_
                  refine lst_done ?_
                  refine goes_false rfl ?_
                  refine goes_seq ?_
                  refine goes_region ?_
                  refine lst_run (run_move (by conv => lhs; whnf)) rfl ?_
                  refine lst_run (run_move (by conv => lhs; whnf)) rfl ?_
                  refine lst_enter (run_callv rfl (by kernel_rfl) (args_1 (by conv => lhs; whnf))) rfl ?_
                  refine Calls.mono (words1_any c _) ?_
                  rintro _ w4 ⟨rfl, rfl⟩
                  refine ⟨_, rfl, ?_⟩
                  refine lst_run (run_move (by conv => lhs; whnf)) rfl ?_
                  rw [hlo]
                  refine lst_guard rfl rfl ?_
                  refine lst_run (run_move (by conv => lhs; whnf)) rfl ?_
                  refine lst_guard rfl rfl ?_
                  first
                    | refine lst_run (run_geq_yes rfl rfl (by omega)) rfl ?_
                    | refine lst_run (run_geq_no rfl rfl (by omega)) rfl ?_
                    | refine lst_run (rfl) rfl ?_
                  refine lst_guard rfl rfl ?_
                  refine lst_run (run_move (by conv => lhs; whnf)) rfl ?_
                  refine lst_pass rfl rfl rfl ?_
                  refine lst_pass rfl rfl rfl ?_
                  refine lst_guard rfl rfl ?_
                  first
                    | refine lst_run (run_pick_t rfl (by conv => lhs; whnf)) rfl ?_
                    | refine lst_run (run_pick_f rfl (by conv => lhs; whnf)) rfl ?_
                  first
                    | refine lst_run (run_pick_t rfl (by conv => lhs; whnf)) rfl ?_
                    | refine lst_run (run_pick_f rfl (by conv => lhs; whnf)) rfl ?_
                  refine lst_run (run_assign (by conv => lhs; whnf)) rfl ?_
                  refine lst_done ?_
                  refine goes_false rfl ?_
                  refine goes_seq ?_
                  refine goes_region ?_
                  refine lst_run (run_move (by conv => lhs; whnf)) rfl ?_
                  refine lst_run (run_move (by conv => lhs; whnf)) rfl ?_
                  refine lst_enter (run_callv rfl (by kernel_rfl) (args_1 (by conv => lhs; whnf))) rfl ?_
                  refine Calls.mono (words2_any c _) ?_
                  rintro _ w4 ⟨rfl, rfl⟩
                  refine ⟨_, rfl, ?_⟩
                  refine lst_run (run_move (by conv => lhs; whnf)) rfl ?_
                  rw [hdg]
                  refine lst_guard rfl rfl ?_
                  refine lst_run (run_move (by conv => lhs; whnf)) rfl ?_
                  refine lst_guard rfl rfl ?_
                  first
                    | refine lst_run (run_eql_one_int rfl rfl) rfl ?_
                    | refine lst_run (run_eql_no rfl rfl (by first | assumption | omega)) rfl ?_
                    | refine lst_run (run_eql_yes rfl rfl (by omega)) rfl ?_
                    | refine lst_run (rfl) rfl ?_
                  first
                    | refine lst_run (run_pick_t rfl (by conv => lhs; whnf)) rfl ?_
                    | refine lst_run (run_pick_f rfl (by conv => lhs; whnf)) rfl ?_
                  refine lst_run (run_assign (by conv => lhs; whnf)) rfl ?_
                  refine lst_done ?_
                  refine goes_false rfl ?_
                  refine goes_seq ?_
                  refine goes_region ?_
                  refine lst_run (run_move (by conv => lhs; whnf)) rfl ?_
                  first
                    | refine lst_run (run_eql_one_int rfl rfl) rfl ?_
                    | refine lst_run (run_eql_no rfl rfl (by first | assumption | omega)) rfl ?_
                    | refine lst_run (run_eql_yes rfl rfl (by omega)) rfl ?_
                    | refine lst_run (rfl) rfl ?_
                  refine lst_run (run_move (by conv => lhs; whnf)) rfl ?_
                  refine lst_guard rfl rfl ?_
                  refine lst_run (run_move (by conv => lhs; whnf)) rfl ?_
                  refine lst_guard rfl rfl ?_
                  refine lst_run (run_add rfl rfl (by omega) (by omega)) rfl ?_
                  refine lst_guard rfl rfl ?_
                  refine lst_run (run_move (by conv => lhs; whnf)) rfl ?_
                  refine lst_guard rfl rfl ?_
                  refine lst_run (run_len_str rfl rfl rfl) rfl ?_
                  refine lst_guard rfl rfl ?_
                  first
                    | refine lst_run (run_lss_yes rfl rfl (by omega)) rfl ?_
                    | refine lst_run (run_lss_no rfl rfl (by omega)) rfl ?_
                    | refine lst_run (rfl) rfl ?_
                  first
                    | refine lst_run (run_pick_t rfl (by conv => lhs; whnf)) rfl ?_
                    | refine lst_run (run_pick_f rfl (by conv => lhs; whnf)) rfl ?_
                  refine lst_run (run_move (by conv => lhs; whnf)) rfl ?_
                  refine lst_guard rfl rfl ?_
                  refine lst_run (run_move (by conv => lhs; whnf)) rfl ?_
                  refine lst_guard rfl rfl ?_
                  refine lst_run (run_move (by conv => lhs; whnf)) rfl ?_
                  refine lst_guard rfl rfl ?_
                  refine lst_run (run_add rfl rfl (by omega) (by omega)) rfl ?_
                  refine lst_guard rfl rfl ?_
                  refine lst_run (run_index_str rfl rfl rfl (by omega) (by first | rfl | assumption)) rfl ?_
                  refine lst_guard rfl rfl ?_
                  first
                    | refine lst_run (run_eql_one_int rfl rfl) rfl ?_
                    | refine lst_run (run_eql_no rfl rfl (by first | assumption | omega)) rfl ?_
                    | refine lst_run (run_eql_yes rfl rfl (by omega)) rfl ?_
                    | refine lst_run (rfl) rfl ?_
                  first
                    | refine lst_run (run_pick_t rfl (by conv => lhs; whnf)) rfl ?_
                    | refine lst_run (run_pick_f rfl (by conv => lhs; whnf)) rfl ?_
                  refine lst_run (run_assign (by conv => lhs; whnf)) rfl ?_
                  refine lst_done ?_
                  refine goes_false rfl ?_
                  refine goes_seq ?_
                  refine goes_region ?_
                  refine lst_run (run_move (by conv => lhs; whnf)) rfl ?_
                  refine lst_enter (run_call (by kernel_rfl) (args_2 (by conv => lhs; whnf) (by conv => lhs; whnf))) rfl ?_
                  refine Calls.mono (idx_any signs c _) ?_
                  rintro _ w5 ⟨rfl, rfl⟩
                  refine ⟨_, rfl, ?_⟩
                  generalize Lib.indexByte signs c = si at *
                  first
                    | refine lst_run (run_geq_yes rfl rfl (by omega)) rfl ?_
                    | refine lst_run (run_geq_no rfl rfl (by omega)) rfl ?_
                    | refine lst_run (rfl) rfl ?_
                  refine lst_run (run_assign (by conv => lhs; whnf)) rfl ?_
                  refine lst_done ?_
                  refine goes_false rfl ?_
                  refine goes_seq ?_
                  refine goes_region ?_
                  refine lst_run (run_move (by conv => lhs; whnf)) rfl ?_
                  refine lst_buildSlice (cells := [_]) hS (.cons (by conv => lhs; whnf) .nil) rfl rfl ?_
                  clear hS
                  intro b1 wx1 hS
                  refine lst_app (sz := 1) (bts := 16) hS (by conv => lhs; whnf) rfl rfl rfl rfl (hR) rfl rfl (List.Perm.refl _) (by omega) (by omega) rfl ?_
                  clear hS
                  intro v5 O5 w5 hR5 hS
                  obtain ⟨A5, c5, rfl⟩ := hR5.form
                  refine lst_run (run_assign (by conv => lhs; whnf)) rfl ?_
                  refine lst_done ?_
                  refine goes_ret1 Tryz.func18 rfl (by conv => lhs; whnf) ?_
                  refine ⟨_, O5, rfl, ?_, hS⟩
                  rw [hW, words_bad (x :: q) hw hbad, List.map_append, List.length_append]
                  exact hR5
            · have h58' : c.toNat ≠ 58 := fun h => h58 (u8_eq (n := 58) h)
              have hp : ([58, 45] : Str).isPrefixOf (c :: r) = false := by simp [List.isPrefixOf, Ne.symm h58]
              cases hs0 : signs.contains c with
              | true =>
                rw [hs0] at hsg
                have hsn : 0 ≤ Lib.indexByte signs c := of_decide_eq_true hsg
                have hc65 : c.toNat < 65 := by
                  have hh : ∀ n : Fin 256, signs.contains (UInt8.ofNat n.val) = true → n.val < 65 := by decide +kernel
                  have := hh ⟨c.toNat, c.toNat_lt⟩
                  simp only [UInt8.ofNat_toNat] at this
                  exact this hs0
                refine goes_seq ?_
                refine goes_seq ?_
                refine goes_region ?_
                refine lst_run (run_move (by conv => lhs; whnf)) rfl ?_
                refine lst_run (run_move (by conv => lhs; whnf)) rfl ?_
                refine lst_run (run_len_str rfl rfl rfl) rfl ?_
                first
                  | refine lst_run (run_lss_yes rfl rfl (by omega)) rfl ?_
                  | refine lst_run (run_lss_no rfl rfl (by omega)) rfl ?_
                  | refine lst_run (rfl) rfl ?_
                refine lst_done ?_
                refine goes_true rfl ?_
                refine goes_skip ?_
                refine goes_block ?_
                refine goes_seq ?_
                refine goes_region ?_
                refine lst_run (run_move (by conv => lhs; whnf)) rfl ?_
                refine lst_run (run_move (by conv => lhs; whnf)) rfl ?_
                refine lst_run (run_index_str rfl rfl rfl (by omega) (by first | rfl | assumption)) rfl ?_
                refine lst_run (run_assign (by conv => lhs; whnf)) rfl ?_
                refine lst_done ?_
                refine goes_seq ?_
                refine goes_region ?_
                refine lst_run (run_assign (by conv => lhs; whnf)) rfl ?_
                refine lst_done ?_
                refine goes_seq ?_
                refine goes_block ?_
                refine goes_seq ?_
                refine goes_region ?_
                refine lst_run (run_move (by conv => lhs; whnf)) rfl ?_
                refine lst_enter (run_call (by kernel_rfl) (args_2 (by conv => lhs; whnf) (by conv => lhs; whnf))) rfl ?_
                refine Calls.mono (white_any c _) ?_
                rintro _ w3 ⟨⟨i, rfl, hi⟩, rfl⟩
                refine ⟨_, rfl, ?_⟩
                have hi0 : i < 0 := by rw [hw] at hi; have := of_decide_eq_false hi; omega
                first
                  | refine lst_run (run_geq_yes rfl rfl (by omega)) rfl ?_
                  | refine lst_run (run_geq_no rfl rfl (by omega)) rfl ?_
                  | refine lst_run (rfl) rfl ?_
                refine lst_run (run_assign (by conv => lhs; whnf)) rfl ?_
                refine lst_done ?_
                refine goes_false rfl ?_
                refine goes_seq ?_
                refine goes_region ?_
                refine lst_run (run_move (by conv => lhs; whnf)) rfl ?_
                refine lst_run (run_move (by conv => lhs; whnf)) rfl ?_
                refine lst_enter (run_callv rfl (by kernel_rfl) (args_1 (by conv => lhs; whnf))) rfl ?_
                refine Calls.mono (words1_any c _) ?_
                rintro _ w4 ⟨rfl, rfl⟩
                refine ⟨_, rfl, ?_⟩
                refine lst_run (run_move (by conv => lhs; whnf)) rfl ?_
                rw [hlo]
                refine lst_guard rfl rfl ?_
                refine lst_run (run_move (by conv => lhs; whnf)) rfl ?_
                refine lst_guard rfl rfl ?_
                first
                  | refine lst_run (run_geq_yes rfl rfl (by omega)) rfl ?_
                  | refine lst_run (run_geq_no rfl rfl (by omega)) rfl ?_
                  | refine lst_run (rfl) rfl ?_
                refine lst_guard rfl rfl ?_
                refine lst_run (run_move (by conv => lhs; whnf)) rfl ?_
                refine lst_pass rfl rfl rfl ?_
                refine lst_pass rfl rfl rfl ?_
                refine lst_guard rfl rfl ?_
                first
                  | refine lst_run (run_pick_t rfl (by conv => lhs; whnf)) rfl ?_
                  | refine lst_run (run_pick_f rfl (by conv => lhs; whnf)) rfl ?_
                first
                  | refine lst_run (run_pick_t rfl (by conv => lhs; whnf)) rfl ?_
                  | refine lst_run (run_pick_f rfl (by conv => lhs; whnf)) rfl ?_
                refine lst_run (run_assign (by conv => lhs; whnf)) rfl ?_
                refine lst_done ?_
                refine goes_false rfl ?_
                refine goes_seq ?_
                refine goes_region ?_
                refine lst_run (run_move (by conv => lhs; whnf)) rfl ?_
                refine lst_run (run_move (by conv => lhs; whnf)) rfl ?_
                refine lst_enter (run_callv rfl (by kernel_rfl) (args_1 (by conv => lhs; whnf))) rfl ?_
                refine Calls.mono (words2_any c _) ?_
                rintro _ w4 ⟨rfl, rfl⟩
                refine ⟨_, rfl, ?_⟩
                refine lst_run (run_move (by conv => lhs; whnf)) rfl ?_
                rw [hdg]
                refine lst_guard rfl rfl ?_
                refine lst_run (run_move (by conv => lhs; whnf)) rfl ?_
                refine lst_guard rfl rfl ?_
                first
                  | refine lst_run (run_eql_one_int rfl rfl) rfl ?_
                  | refine lst_run (run_eql_no rfl rfl (by first | assumption | omega)) rfl ?_
                  | refine lst_run (run_eql_yes rfl rfl (by omega)) rfl ?_
                  | refine lst_run (rfl) rfl ?_
                first
                  | refine lst_run (run_pick_t rfl (by conv => lhs; whnf)) rfl ?_
                  | refine lst_run (run_pick_f rfl (by conv => lhs; whnf)) rfl ?_
                refine lst_run (run_assign (by conv => lhs; whnf)) rfl ?_
                refine lst_done ?_
                refine goes_false rfl ?_
                refine goes_seq ?_
                refine goes_region ?_
                refine lst_run (run_move (by conv => lhs; whnf)) rfl ?_
                first
                  | refine lst_run (run_eql_one_int rfl rfl) rfl ?_
                  | refine lst_run (run_eql_no rfl rfl (by first | assumption | omega)) rfl ?_
                  | refine lst_run (run_eql_yes rfl rfl (by omega)) rfl ?_
                  | refine lst_run (rfl) rfl ?_
                refine lst_run (run_move (by conv => lhs; whnf)) rfl ?_
                refine lst_pass rfl rfl rfl ?_
                refine lst_pass rfl rfl rfl ?_
                refine lst_pass rfl rfl rfl ?_
                refine lst_pass rfl rfl rfl ?_
                refine lst_pass rfl rfl rfl ?_
                first
                  | refine lst_run (run_pick_t rfl (by conv => lhs; whnf)) rfl ?_
                  | refine lst_run (run_pick_f rfl (by conv => lhs; whnf)) rfl ?_
                refine lst_run (run_move (by conv => lhs; whnf)) rfl ?_
                refine lst_pass rfl rfl rfl ?_
                refine lst_pass rfl rfl rfl ?_
                refine lst_pass rfl rfl rfl ?_
                refine lst_pass rfl rfl rfl ?_
                refine lst_pass rfl rfl rfl ?_
                first
                  | refine lst_run (run_pick_t rfl (by conv => lhs; whnf)) rfl ?_
                  | refine lst_run (run_pick_f rfl (by conv => lhs; whnf)) rfl ?_
                refine lst_run (run_assign (by conv => lhs; whnf)) rfl ?_
                refine lst_done ?_
                refine goes_false rfl ?_
                refine goes_seq ?_
                refine goes_region ?_
                refine lst_run (run_move (by conv => lhs; whnf)) rfl ?_
                refine lst_enter (run_call (by kernel_rfl) (args_2 (by conv => lhs; whnf) (by conv => lhs; whnf))) rfl ?_
                refine Calls.mono (idx_any signs c _) ?_
                rintro _ w5 ⟨rfl, rfl⟩
                refine ⟨_, rfl, ?_⟩
                generalize Lib.indexByte signs c = si at *
                first
                  | refine lst_run (run_geq_yes rfl rfl (by omega)) rfl ?_
                  | refine lst_run (run_geq_no rfl rfl (by omega)) rfl ?_
                  | refine lst_run (rfl) rfl ?_
                refine lst_run (run_assign (by conv => lhs; whnf)) rfl ?_
                refine lst_done ?_
                refine goes_true rfl ?_
                refine goes_skip ?_
                refine goes_inBlock ?_
                refine goes_seq ?_
                refine goes_region ?_
                refine lst_run (run_move (by conv => lhs; whnf)) rfl ?_
                refine lst_run (run_move (by conv => lhs; whnf)) rfl ?_
                refine lst_run (run_move (by conv => lhs; whnf)) rfl ?_
                refine lst_run (run_move (by conv => lhs; whnf)) rfl ?_
                refine lst_run (run_move (by conv => lhs; whnf)) rfl ?_
                refine lst_run (run_add rfl rfl (by omega) (by omega)) rfl ?_
                refine lst_run (run_slice_both rfl rfl rfl rfl (by omega) (by omega) (by omega)) rfl ?_
                refine lst_buildSlice (cells := [_]) hS (.cons (by conv => lhs; whnf) .nil) rfl rfl ?_
                clear hS
                intro b1 wx1 hS
                refine lst_app (sz := 1) (bts := 16) hS (by conv => lhs; whnf) rfl rfl rfl rfl (hR) rfl rfl (List.Perm.refl _) (by omega) (by omega) rfl ?_
                clear hS
                intro v5 O5 w5 hR5 hS
                rw [cut_mid D (c :: r) (1) _ _ rfl] at hR5
                · obtain ⟨A5, c5, rfl⟩ := hR5.form
                  refine lst_run (run_assign (by conv => lhs; whnf)) rfl ?_
                  refine lst_done ?_
                  refine goes_region ?_
                  refine lst_run (run_move (by conv => lhs; whnf)) rfl ?_
                  refine lst_run (run_move (by conv => lhs; whnf)) rfl ?_
                  refine lst_run (run_add rfl rfl (by omega) (by omega)) rfl ?_
                  refine lst_run (run_assign (by conv => lhs; whnf)) rfl ?_
                  refine lst_done ?_
                  refine goes_inBlock ?_
                  refine ih (((c :: r).drop (1))) _ _ _ _ ?_ ?_ (by conv => lhs; whnf) (by conv => lhs; whnf) (by kernel_rfl)
                  · simp <;> omega
                  · have hwl2 : wordLen (c :: r) = 1 := by simp only [wordLen, hlo, hup, hdg, hb45, hp, hs0, Bool.or_self, Bool.false_eq_true, if_false, if_true]
                    refine ⟨D ++ (c :: r).take (1), acc ++ [(c :: r).take (1)], O5, ?_, ?_, ?_, hS, ?_, ?_⟩
                    · rw [List.append_assoc, List.take_append_drop]
                    · rw [hwl2] at hwl; simp <;> omega
                    · rw [List.map_append, List.length_append]; exact hR5
                    · rw [hW, words_word r hw (by omega), hwl2]; simp
                    · rw [hwl2] at hwl; simp <;> omega
                · omega
              | false =>
                rw [hs0] at hsg
                have hsn : Lib.indexByte signs c < 0 := by have := of_decide_eq_false hsg; omega
                have hbad : wordLen (c :: r) = 0 := by simp only [wordLen, hlo, hup, hdg, hb45, hp, hs0, Bool.or_self, Bool.false_eq_true, if_false]
                by_cases h65 : 65 ≤ c.toNat
                · have h90 : 90 < c.toNat := by omega
                  refine goes_seq ?_
                  refine goes_seq ?_
                  refine goes_region ?_
                  refine lst_run (run_move (by conv => lhs; whnf)) rfl ?_
                  refine lst_run (run_move (by conv => lhs; whnf)) rfl ?_
                  refine lst_run (run_len_str rfl rfl rfl) rfl ?_
                  first
                    | refine lst_run (run_lss_yes rfl rfl (by omega)) rfl ?_
                    | refine lst_run (run_lss_no rfl rfl (by omega)) rfl ?_
                    | refine lst_run (rfl) rfl ?_
                  refine lst_done ?_
                  refine goes_true rfl ?_
                  refine goes_skip ?_
                  refine goes_block ?_
                  refine goes_seq ?_
                  refine goes_region ?_
                  refine lst_run (run_move (by conv => lhs; whnf)) rfl ?_
                  refine lst_run (run_move (by conv => lhs; whnf)) rfl ?_
                  refine lst_run (run_index_str rfl rfl rfl (by omega) (by first | rfl | assumption)) rfl ?_
                  refine lst_run (run_assign (by conv => lhs; whnf)) rfl ?_
                  refine lst_done ?_
                  refine goes_seq ?_
                  refine goes_region ?_
                  refine lst_run (run_assign (by conv => lhs; whnf)) rfl ?_
                  refine lst_done ?_
                  refine goes_seq ?_
                  refine goes_block ?_
                  refine goes_seq ?_
                  refine goes_region ?_
                  refine lst_run (run_move (by conv => lhs; whnf)) rfl ?_
                  refine lst_enter (run_call (by kernel_rfl) (args_2 (by conv => lhs; whnf) (by conv => lhs; whnf))) rfl ?_
                  refine Calls.mono (white_any c _) ?_
                  rintro _ w3 ⟨⟨i, rfl, hi⟩, rfl⟩
                  refine ⟨_, rfl, ?_⟩
                  have hi0 : i < 0 := by rw [hw] at hi; have := of_decide_eq_false hi; omega
                  first
                    | refine lst_run (run_geq_yes rfl rfl (by omega)) rfl ?_
                    | refine lst_run (run_geq_no rfl rfl (by omega)) rfl ?_
                    | refine lst_run (rfl) rfl ?_
                  refine lst_run (run_assign (by conv => lhs; whnf)) rfl ?_
                  refine lst_done ?_
                  refine goes_false rfl ?_
                  refine goes_seq ?_
                  refine goes_region ?_
                  refine lst_run (run_move (by conv => lhs; whnf)) rfl ?_
                  refine lst_run (run_move (by conv => lhs; whnf)) rfl ?_
                  refine lst_enter (run_callv rfl (by kernel_rfl) (args_1 (by conv => lhs; whnf))) rfl ?_
                  refine Calls.mono (words1_any c _) ?_
                  rintro _ w4 ⟨rfl, rfl⟩
                  refine ⟨_, rfl, ?_⟩
                  refine lst_run (run_move (by conv => lhs; whnf)) rfl ?_
                  rw [hlo]
                  refine lst_guard rfl rfl ?_
                  refine lst_run (run_move (by conv => lhs; whnf)) rfl ?_
                  refine lst_guard rfl rfl ?_
                  first
                    | refine lst_run (run_geq_yes rfl rfl (by omega)) rfl ?_
                    | refine lst_run (run_geq_no rfl rfl (by omega)) rfl ?_
                    | refine lst_run (rfl) rfl ?_
                  refine lst_guard rfl rfl ?_
                  refine lst_run (run_move (by conv => lhs; whnf)) rfl ?_
                  refine lst_guard rfl rfl ?_
                  refine lst_run (run_move (by conv => lhs; whnf)) rfl ?_
                  refine lst_guard rfl rfl ?_
                  first
                    | refine lst_run (run_leq_yes rfl rfl (by omega)) rfl ?_
                    | refine lst_run (run_leq_no rfl rfl (by omega)) rfl ?_
                    | refine lst_run (rfl) rfl ?_
                  refine lst_guard rfl rfl ?_
                  first
                    | refine lst_run (run_pick_t rfl (by conv => lhs; whnf)) rfl ?_
                    | refine lst_run (run_pick_f rfl (by conv => lhs; whnf)) rfl ?_
                  first
                    | refine lst_run (run_pick_t rfl (by conv => lhs; whnf)) rfl ?_
                    | refine lst_run (run_pick_f rfl (by conv => lhs; whnf)) rfl ?_
                  refine lst_run (run_assign (by conv => lhs; whnf)) rfl ?_
                  refine lst_done ?_
                  refine goes_false rfl ?_
                  refine goes_seq ?_
                  refine goes_region ?_
                  refine lst_run (run_move (by conv => lhs; whnf)) rfl ?_
                  refine lst_run (run_move (by conv => lhs; whnf)) rfl ?_
                  refine lst_enter (run_callv rfl (by kernel_rfl) (args_1 (by conv => lhs; whnf))) rfl ?_
                  refine Calls.mono (words2_any c _) ?_
                  rintro _ w4 ⟨rfl, rfl⟩
                  refine ⟨_, rfl, ?_⟩
                  refine lst_run (run_move (by conv => lhs; whnf)) rfl ?_
                  rw [hdg]
                  refine lst_guard rfl rfl ?_
                  refine lst_run (run_move (by conv => lhs; whnf)) rfl ?_
                  refine lst_guard rfl rfl ?_
                  first
                    | refine lst_run (run_eql_one_int rfl rfl) rfl ?_
                    | refine lst_run (run_eql_no rfl rfl (by first | assumption | omega)) rfl ?_
                    | refine lst_run (run_eql_yes rfl rfl (by omega)) rfl ?_
                    | refine lst_run (rfl) rfl ?_
                  first
                    | refine lst_run (run_pick_t rfl (by conv => lhs; whnf)) rfl ?_
                    | refine lst_run (run_pick_f rfl (by conv => lhs; whnf)) rfl ?_
                  refine lst_run (run_assign (by conv => lhs; whnf)) rfl ?_
                  refine lst_done ?_
                  refine goes_false rfl ?_
                  refine goes_seq ?_
                  refine goes_region ?_
                  refine lst_run (run_move (by conv => lhs; whnf)) rfl ?_
                  first
                    | refine lst_run (run_eql_one_int rfl rfl) rfl ?_
                    | refine lst_run (run_eql_no rfl rfl (by first | assumption | omega)) rfl ?_
                    | refine lst_run (run_eql_yes rfl rfl (by omega)) rfl ?_
                    | refine lst_run (rfl) rfl ?_
                  refine lst_run (run_move (by conv => lhs; whnf)) rfl ?_
                  refine lst_pass rfl rfl rfl ?_
                  refine lst_pass rfl rfl rfl ?_
                  refine lst_pass rfl rfl rfl ?_
                  refine lst_pass rfl rfl rfl ?_
                  refine lst_pass rfl rfl rfl ?_
                  first
                    | refine lst_run (run_pick_t rfl (by conv => lhs; whnf)) rfl ?_
                    | refine lst_run (run_pick_f rfl (by conv => lhs; whnf)) rfl ?_
                  refine lst_run (run_move (by conv => lhs; whnf)) rfl ?_
                  refine lst_pass rfl rfl rfl ?_
                  refine lst_pass rfl rfl rfl ?_
                  refine lst_pass rfl rfl rfl ?_
                  refine lst_pass rfl rfl rfl ?_
                  refine lst_pass rfl rfl rfl ?_
                  first
                    | refine lst_run (run_pick_t rfl (by conv => lhs; whnf)) rfl ?_
                    | refine lst_run (run_pick_f rfl (by conv => lhs; whnf)) rfl ?_
                  refine lst_run (run_assign (by conv => lhs; whnf)) rfl ?_
                  refine lst_done ?_
                  refine goes_false rfl ?_
                  refine goes_seq ?_
                  refine goes_region ?_
                  refine lst_run (run_move (by conv => lhs; whnf)) rfl ?_
                  refine lst_enter (run_call (by kernel_rfl) (args_2 (by conv => lhs; whnf) (by conv => lhs; whnf))) rfl ?_
                  refine Calls.mono (idx_any signs c _) ?_
                  rintro _ w5 ⟨rfl, rfl⟩
                  refine ⟨_, rfl, ?_⟩
                  generalize Lib.indexByte signs c = si at *
                  first
                    | refine lst_run (run_geq_yes rfl rfl (by omega)) rfl ?_
                    | refine lst_run (run_geq_no rfl rfl (by omega)) rfl ?_
                    | refine lst_run (rfl) rfl ?_
                  refine lst_run (run_assign (by conv => lhs; whnf)) rfl ?_
                  refine lst_done ?_
                  refine goes_false rfl ?_
                  refine goes_seq ?_
                  refine goes_region ?_
                  refine lst_run (run_move (by conv => lhs; whnf)) rfl ?_
                  refine lst_buildSlice (cells := [_]) hS (.cons (by conv => lhs; whnf) .nil) rfl rfl ?_
                  clear hS
                  intro b1 wx1 hS
                  refine lst_app (sz := 1) (bts := 16) hS (by conv => lhs; whnf) rfl rfl rfl rfl (hR) rfl rfl (List.Perm.refl _) (by omega) (by omega) rfl ?_
                  clear hS
                  intro v5 O5 w5 hR5 hS
                  obtain ⟨A5, c5, rfl⟩ := hR5.form
                  refine lst_run (run_assign (by conv => lhs; whnf)) rfl ?_
                  refine lst_done ?_
                  refine goes_ret1 Tryz.func18 rfl (by conv => lhs; whnf) ?_
                  refine ⟨_, O5, rfl, ?_, hS⟩
                  rw [hW, words_bad r hw hbad, List.map_append, List.length_append]
                  exact hR5
                · have h64 : c.toNat < 65 := by omega
                  refine goes_seq ?_
                  refine goes_seq ?_
                  refine goes_region ?_
                  refine lst_run (run_move (by conv => lhs; whnf)) rfl ?_
                  refine lst_run (run_move (by conv => lhs; whnf)) rfl ?_
                  refine lst_run (run_len_str rfl rfl rfl) rfl ?_
                  first
                    | refine lst_run (run_lss_yes rfl rfl (by omega)) rfl ?_
                    | refine lst_run (run_lss_no rfl rfl (by omega)) rfl ?_
                    | refine lst_run (rfl) rfl ?_
                  refine lst_done ?_
                  refine goes_true rfl ?_
                  refine goes_skip ?_
                  refine goes_block ?_
                  refine goes_seq ?_
                  refine goes_region ?_
                  refine lst_run (run_move (by conv => lhs; whnf)) rfl ?_
                  refine lst_run (run_move (by conv => lhs; whnf)) rfl ?_
                  refine lst_run (run_index_str rfl rfl rfl (by omega) (by first | rfl | assumption)) rfl ?_
                  refine lst_run (run_assign (by conv => lhs; whnf)) rfl ?_
                  refine lst_done ?_
                  refine goes_seq ?_
                  refine goes_region ?_
                  refine lst_run (run_assign (by conv => lhs; whnf)) rfl ?_
                  refine lst_done ?_
                  refine goes_seq ?_
                  refine goes_block ?_
                  refine goes_seq ?_
                  refine goes_region ?_
                  refine lst_run (run_move (by conv => lhs; whnf)) rfl ?_
                  refine lst_enter (run_call (by kernel_rfl) (args_2 (by conv => lhs; whnf) (by conv => lhs; whnf))) rfl ?_
                  refine Calls.mono (white_any c _) ?_
                  rintro _ w3 ⟨⟨i, rfl, hi⟩, rfl⟩
                  refine ⟨_, rfl, ?_⟩
                  have hi0 : i < 0 := by rw [hw] at hi; have := of_decide_eq_false hi; omega
                  first
                    | refine lst_run (run_geq_yes rfl rfl (by omega)) rfl ?_
                    | refine lst_run (run_geq_no rfl rfl (by omega)) rfl ?_
                    | refine lst_run (rfl) rfl ?_
                  refine lst_run (run_assign (by conv => lhs; whnf)) rfl ?_
                  refine lst_done ?_
                  refine goes_false rfl ?_
                  refine goes_seq ?_
                  refine goes_region ?_
                  refine lst_run (run_move (by conv => lhs; whnf)) rfl ?_
                  refine lst_run (run_move (by conv => lhs; whnf)) rfl ?_
                  refine lst_enter (run_callv rfl (by kernel_rfl) (args_1 (by conv => lhs; whnf))) rfl ?_
                  refine Calls.mono (words1_any c _) ?_
                  rintro _ w4 ⟨rfl, rfl⟩
                  refine ⟨_, rfl, ?_⟩
                  refine lst_run (run_move (by conv => lhs; whnf)) rfl ?_
                  rw [hlo]
                  refine lst_guard rfl rfl ?_
                  refine lst_run (run_move (by conv => lhs; whnf)) rfl ?_
                  refine lst_guard rfl rfl ?_
                  first
                    | refine lst_run (run_geq_yes rfl rfl (by omega)) rfl ?_
                    | refine lst_run (run_geq_no rfl rfl (by omega)) rfl ?_
                    | refine lst_run (rfl) rfl ?_
                  refine lst_guard rfl rfl ?_
                  refine lst_run (run_move (by conv => lhs; whnf)) rfl ?_
                  refine lst_pass rfl rfl rfl ?_
                  refine lst_pass rfl rfl rfl ?_
                  refine lst_guard rfl rfl ?_
                  first
                    | refine lst_run (run_pick_t rfl (by conv => lhs; whnf)) rfl ?_
                    | refine lst_run (run_pick_f rfl (by conv => lhs; whnf)) rfl ?_
                  first
                    | refine lst_run (run_pick_t rfl (by conv => lhs; whnf)) rfl ?_
                    | refine lst_run (run_pick_f rfl (by conv => lhs; whnf)) rfl ?_
                  refine lst_run (run_assign (by conv => lhs; whnf)) rfl ?_
                  refine lst_done ?_
                  refine goes_false rfl ?_
                  refine goes_seq ?_
                  refine goes_region ?_
                  refine lst_run (run_move (by conv => lhs; whnf)) rfl ?_
                  refine lst_run (run_move (by conv => lhs; whnf)) rfl ?_
                  refine lst_enter (run_callv rfl (by kernel_rfl) (args_1 (by conv => lhs; whnf))) rfl ?_
                  refine Calls.mono (words2_any c _) ?_
                  rintro _ w4 ⟨rfl, rfl⟩
                  refine ⟨_, rfl, ?_⟩
                  refine lst_run (run_move (by conv => lhs; whnf)) rfl ?_
                  rw [hdg]
                  refine lst_guard rfl rfl ?_
                  refine lst_run (run_move (by conv => lhs; whnf)) rfl ?_
                  refine lst_guard rfl rfl ?_
                  first
                    | refine lst_run (run_eql_one_int rfl rfl) rfl ?_
                    | refine lst_run (run_eql_no rfl rfl (by first | assumption | omega)) rfl ?_
                    | refine lst_run (run_eql_yes rfl rfl (by omega)) rfl ?_
                    | refine lst_run (rfl) rfl ?_
                  first
                    | refine lst_run (run_pick_t rfl (by conv => lhs; whnf)) rfl ?_
                    | refine lst_run (run_pick_f rfl (by conv => lhs; whnf)) rfl ?_
                  refine lst_run (run_assign (by conv => lhs; whnf)) rfl ?_
                  refine lst_done ?_
                  refine goes_false rfl ?_
                  refine goes_seq ?_
                  refine goes_region ?_
                  refine lst_run (run_move (by conv => lhs; whnf)) rfl ?_
                  first
                    | refine lst_run (run_eql_one_int rfl rfl) rfl ?_
                    | refine lst_run (run_eql_no rfl rfl (by first | assumption | omega)) rfl ?_
                    | refine lst_run (run_eql_yes rfl rfl (by omega)) rfl ?_
                    | refine lst_run (rfl) rfl ?_
                  refine lst_run (run_move (by conv => lhs; whnf)) rfl ?_
                  refine lst_pass rfl rfl rfl ?_
                  refine lst_pass rfl rfl rfl ?_
                  refine lst_pass rfl rfl rfl ?_
                  refine lst_pass rfl rfl rfl ?_
                  refine lst_pass rfl rfl rfl ?_
                  first
                    | refine lst_run (run_pick_t rfl (by conv => lhs; whnf)) rfl ?_
                    | refine lst_run (run_pick_f rfl (by conv => lhs; whnf)) rfl ?_
                  refine lst_run (run_move (by conv => lhs; whnf)) rfl ?_
                  refine lst_pass rfl rfl rfl ?_
                  refine lst_pass rfl rfl rfl ?_
                  refine lst_pass rfl rfl rfl ?_
                  refine lst_pass rfl rfl rfl ?_
                  refine lst_pass rfl rfl rfl ?_
                  first
                    | refine lst_run (run_pick_t rfl (by conv => lhs; whnf)) rfl ?_
                    | refine lst_run (run_pick_f rfl (by conv => lhs; whnf)) rfl ?_
                  refine lst_run (run_assign (by conv => lhs; whnf)) rfl ?_
                  refine lst_done ?_
                  refine goes_false rfl ?_
                  refine goes_seq ?_
                  refine goes_region ?_
                  refine lst_run (run_move (by conv => lhs; whnf)) rfl ?_
                  refine lst_enter (run_call (by kernel_rfl) (args_2 (by conv => lhs; whnf) (by conv => lhs; whnf))) rfl ?_
                  refine Calls.mono (idx_any signs c _) ?_
                  rintro _ w5 ⟨rfl, rfl⟩
                  refine ⟨_, rfl, ?_⟩
                  generalize Lib.indexByte signs c = si at *
                  first
                    | refine lst_run (run_geq_yes rfl rfl (by omega)) rfl ?_
                    | refine lst_run (run_geq_no rfl rfl (by omega)) rfl ?_
                    | refine lst_run (rfl) rfl ?_
                  refine lst_run (run_assign (by conv => lhs; whnf)) rfl ?_
                  refine lst_done ?_
                  refine goes_false rfl ?_
                  refine goes_seq ?_
                  refine goes_region ?_
                  refine lst_run (run_move (by conv => lhs; whnf)) rfl ?_
                  refine lst_buildSlice (cells := [_]) hS (.cons (by conv => lhs; whnf) .nil) rfl rfl ?_
                  clear hS
                  intro b1 wx1 hS
                  refine lst_app (sz := 1) (bts := 16) hS (by conv => lhs; whnf) rfl rfl rfl rfl (hR) rfl rfl (List.Perm.refl _) (by omega) (by omega) rfl ?_
                  clear hS
                  intro v5 O5 w5 hR5 hS
                  obtain ⟨A5, c5, rfl⟩ := hR5.form
                  refine lst_run (run_assign (by conv => lhs; whnf)) rfl ?_
                  refine lst_done ?_
                  refine goes_ret1 Tryz.func18 rfl (by conv => lhs; whnf) ?_
                  refine ⟨_, O5, rfl, ?_, hS⟩
                  rw [hW, words_bad r hw hbad, List.map_append, List.length_append]
                  exact hR5
end
end Go.Proofs.YtdiophafmokfiaaGreatDoor
