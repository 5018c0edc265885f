/-
  The law ReadSpaces: white space before and behind a program changes nothing of what Program gives.
-/
import Derived.Test.YtpbnfjlalgnmmaaDoorReads
import Derived.Test.YtpbnfjlalgnmmaaDoorGap
import Derived.Test.YtpbnfjlalgnmmaaDoorSameK
namespace Go.Proofs.YtpbnfjlalgnmmaaDoor
open Go.RowKit Go.Shelf
set_option linter.unusedVariables false
set_option linter.unusedSimpArgs false
set_option maxRecDepth 100000
set_option maxHeartbeats 1000000

section
variable {P : Program} {n : Nat} {e : Env} {w : World} {ty : TypeId} {pos : String} {after : Array Edge} {x y : Operand} {dst : Option Nat} {t t2 : TypeId}
theorem run_mul {a c : Int} (hx : ev n e x = .int .i64 a) (hy : ev n e y = .int .i64 c) (h1 : -9223372036854775808 ≤ a * c) (h2 : a * c ≤ 9223372036854775807) :
    (execOp (ev n e) ⟨dst, .binOp .mul t x y t2, ty, pos, after, none⟩).run P w = .ok (.value (.int .i64 (a * c))) w := by
  have : (execOp (ev n e) ⟨dst, .binOp .mul t x y t2, ty, pos, after, none⟩).run P w = .ok (.value (.int .i64 (IntKind.i64.wrap (a * c)))) w := by simp only [execOp, hx, hy]; rfl
  rw [this, wrap_of h1 h2]
end
theorem clause_nodes (num : Str → Option Int) (s : RS) : (clauseM num s).1.hd.nodes ≤ s.left ∧ (clauseM num s).1.bd.nodes ≤ s.left := by
  have h1 := term_few num 24 { s with vars := [] }
  have h2 := body_few num (termM num 24 { s with vars := [] }).2
  have e : RS.left { s with vars := [] } = s.left := rfl
  rw [e] at h1
  exact ⟨by show (termM num 24 _).1.ar.nodes ≤ _; omega, by show (tsOf (bodyM num _).1).nodes ≤ _; omega⟩
theorem prog_nodes (num : Str → Option Int) : ∀ (n : Nat) (s : RS), ∀ c ∈ (progLoop num n s).1, c.hd.nodes ≤ s.left ∧ c.bd.nodes ≤ s.left
  | 0, s, c, h => by simp [progLoop] at h
  | n + 1, s, c, h => by
    unfold progLoop at h
    split at h
    · simp at h
    · rename_i ht
      have h1 := clause_nodes num s
      rcases List.mem_cons.1 h with rfl | h
      · exact h1
      · have h2 := prog_nodes num n _ c h
        have h3 := clause_lt num s ht
        omega
theorem program_nodes (num : Str → Option Int) (l : Str) (hl : l.length ≤ 1048576) : ∀ c ∈ (programM num l).1, c.hd.nodes ≤ 1048576 ∧ c.bd.nodes ≤ 1048576 := by
  intro c hc
  have h0 := (start_left l).1
  have : c ∈ (progLoop num (RS.start l).left (RS.start l)).1 := by
    unfold programM at hc
    simp only at hc
    split at hc
    · split at hc
      · exact hc
      · simp at hc
    · split at hc
      · exact hc
      · simp at hc
  have := prog_nodes num _ _ c this
  omega
theorem program_len (num : Str → Option Int) (l : Str) : (programM num l).1.length ≤ 24 := by
  unfold programM
  simp only
  generalize progLoop num (RS.start l).left (RS.start l) = p
  by_cases h : 24 < p.1.length
  · have h1 : (p.2.fail 3).err ≠ 0 := by
      simp only [RS.fail]
      split
      · decide
      · assumption
    rw [if_pos h, if_neg h1]; simp
  · rw [if_neg h]
    split
    · simp only; omega
    · simp
theorem white_false {c : UInt8} (h32 : c ≠ 32) (h10 : c ≠ 10) (h9 : c ≠ 9) (h13 : c ≠ 13) : whiteB c = false := by simp [whiteB, h32, h10, h9, h13]
theorem byte_ne {c d : UInt8} (h : c ≠ d) : ((c.toNat : Nat) : Int) ≠ ((d.toNat : Nat) : Int) := fun e => h (UInt8.toNat_inj.1 (by exact_mod_cast e))
theorem all_snoc {D : Str} {c : UInt8} (h : ∀ x ∈ D, whiteB x = true) (hc : whiteB c = true) : ∀ x ∈ D ++ [c], whiteB x = true := by
  intro x hx
  rcases List.mem_append.1 hx with hx | hx
  · exact h x hx
  · obtain rfl : x = c := by simpa using hx
    exact hc
theorem program_sp {M : List Nat} {w0 w : World} {H : List (Nat × Obj)} {F : List (World → Prop)} (l g : Str) (hg : ∀ c ∈ g, whiteB c = true) (hl : l.length + 2 * g.length ≤ 2000) (hG : ∀ w', Ext M w0 w' → GVars w') (hS : St M w0 H F w) :
    Calls Tryd.prog 31 #[sv (g ++ l ++ g)] w fun e w' => ∃ v, e = .returned (.tuple #[v, .int .i64 (programM numM l).2]) ∧ St M w0 H ((fun w => SlC w (fun _ => True) v (programM numM l).1) :: F) w' := by
  have h := program_r numM GVars lib1 lib2 lib3 (g ++ l ++ g) w hG (by simp; omega) hS
  rw [program_gap numM l g hg hl] at h
  exact h
theorem spaces_any (l g : Str) (w : World) (hG : ∀ w', Ext [] w w' → GVars w') (hl : l.length ≤ 1125899906842624) (hgl : g.length ≤ 1125899906842624) :
    Calls Tryd.prog 5 #[sv l, sv g] w fun e w' => e = .returned (.bool true) ∧ Below w.heap.size w w' := by
  have hS := St.start w
  refine goes_enter2 Tryd.func5 rfl Tryd.ntmps5 rfl ?_
  refine goes_seq ?_
  refine goes_region ?_
  refine lst_run (run_assign (by conv => lhs; whnf)) rfl ?_
  refine lst_done ?_
  refine goes_seq ?_
  refine goes_seq ?_
  refine goes_region ?_
  refine lst_run (run_move (by conv => lhs; whnf)) rfl ?_
  refine lst_run (run_len_str rfl rfl rfl) rfl ?_
  refine lst_run (run_move (by conv => lhs; whnf)) rfl ?_
  refine lst_done ?_
  refine goes_block ?_
  refine goes_loop1 13 (14 :: 15 :: 5 :: 16 :: 17 :: 18 :: 19 :: 20 :: 21 :: 22 :: 23 :: 24 :: 25 :: 26 :: 27 :: 28 :: 29 :: 30 :: 31 :: 32 :: 33 :: 34 :: 35 :: 36 :: 37 :: 38 :: 4 :: 39 :: []) (fun (R : Str) v w' => w' = w ∧ ∃ D, g = D ++ R ∧ v = .int .i64 (D.length : Nat) ∧ ∀ c ∈ D, whiteB c = true) (fun R => R.length) (g) ?_ (by conv => lhs; whnf) ?_
  · exact ⟨rfl, [], rfl, rfl, by simp⟩
  rintro R v2 w2 jv ⟨rfl, D, hD, rfl, hwh⟩ ih
  have hlen : g.length = D.length + R.length := by rw [hD]; simp
  cases R with
  | cons c r =>
    simp only [List.length_cons] at hlen
    have hget : g[((D.length : Nat) : Int).toNat]? = some c := by rw [hD]; simp
    by_cases h32 : c = 32
    · subst h32
      refine goes_seq ?_
      refine goes_region ?_
      first
        | refine lst_run (run_lss_yes rfl rfl (by omega)) rfl ?_
        | refine lst_run (run_lss_no rfl rfl (by omega)) rfl ?_
        | refine lst_run (rfl) rfl ?_
      refine lst_done ?_
      refine goes_seq ?_
      refine goes_true rfl ?_
      refine goes_skip ?_
      refine goes_seq ?_
      refine goes_block ?_
      refine goes_seq ?_
      refine goes_region ?_
      refine lst_run (run_move (by conv => lhs; whnf)) rfl ?_
      refine lst_run (run_assign (by conv => lhs; whnf)) rfl ?_
      refine lst_done ?_
      refine goes_seq ?_
      refine goes_region ?_
      refine lst_run (run_move (by conv => lhs; whnf)) rfl ?_
      refine lst_run (run_move (by conv => lhs; whnf)) rfl ?_
      refine lst_run (run_index_str rfl rfl rfl (by omega) (by first | rfl | assumption)) rfl ?_
      first
        | refine lst_run (run_neq_one_int rfl rfl) rfl ?_
        | refine lst_run (run_neq_no rfl rfl (by first | assumption | omega)) rfl ?_
        | refine lst_run (run_neq_yes rfl rfl (by omega)) rfl ?_
        | refine lst_run (rfl) rfl ?_
      refine lst_run (run_move (by conv => lhs; whnf)) rfl ?_
      refine lst_pass rfl rfl rfl ?_
      refine lst_pass rfl rfl rfl ?_
      refine lst_pass rfl rfl rfl ?_
      refine lst_pass rfl rfl rfl ?_
      first
        | refine lst_run (run_pick_t rfl (by conv => lhs; whnf)) rfl ?_
        | refine lst_run (run_pick_f rfl (by conv => lhs; whnf)) rfl ?_
      refine lst_run (run_move (by conv => lhs; whnf)) rfl ?_
      refine lst_pass rfl rfl rfl ?_
      refine lst_pass rfl rfl rfl ?_
      refine lst_pass rfl rfl rfl ?_
      refine lst_pass rfl rfl rfl ?_
      first
        | refine lst_run (run_pick_t rfl (by conv => lhs; whnf)) rfl ?_
        | refine lst_run (run_pick_f rfl (by conv => lhs; whnf)) rfl ?_
      refine lst_run (run_move (by conv => lhs; whnf)) rfl ?_
      refine lst_pass rfl rfl rfl ?_
      refine lst_pass rfl rfl rfl ?_
      refine lst_pass rfl rfl rfl ?_
      refine lst_pass rfl rfl rfl ?_
      first
        | refine lst_run (run_pick_t rfl (by conv => lhs; whnf)) rfl ?_
        | refine lst_run (run_pick_f rfl (by conv => lhs; whnf)) rfl ?_
      refine lst_done ?_
      refine goes_false rfl ?_
      refine goes_skip ?_
      refine goes_inBlock ?_
      refine goes_region ?_
      refine lst_run (run_add rfl rfl (by omega) (by omega)) rfl ?_
      refine lst_run (run_move (by conv => lhs; whnf)) rfl ?_
      refine lst_done ?_
      refine ih (r) _ _ _ ?_ ?_ (by conv => lhs; whnf) (by kernel_rfl)
      · simp
      · exact ⟨rfl, D ++ [32], by rw [hD, List.append_assoc]; rfl, by simp, all_snoc hwh (by decide)⟩
    have n32 : ((c.toNat : Nat) : Int) ≠ 32 := byte_ne (d := 32) h32
    by_cases h10 : c = 10
    · subst h10
      refine goes_seq ?_
      refine goes_region ?_
      first
        | refine lst_run (run_lss_yes rfl rfl (by omega)) rfl ?_
        | refine lst_run (run_lss_no rfl rfl (by omega)) rfl ?_
        | refine lst_run (rfl) rfl ?_
      refine lst_done ?_
      refine goes_seq ?_
      refine goes_true rfl ?_
      refine goes_skip ?_
      refine goes_seq ?_
      refine goes_block ?_
      refine goes_seq ?_
      refine goes_region ?_
      refine lst_run (run_move (by conv => lhs; whnf)) rfl ?_
      refine lst_run (run_assign (by conv => lhs; whnf)) rfl ?_
      refine lst_done ?_
      refine goes_seq ?_
      refine goes_region ?_
      refine lst_run (run_move (by conv => lhs; whnf)) rfl ?_
      refine lst_run (run_move (by conv => lhs; whnf)) rfl ?_
      refine lst_run (run_index_str rfl rfl rfl (by omega) (by first | rfl | assumption)) rfl ?_
      first
        | refine lst_run (run_neq_one_int rfl rfl) rfl ?_
        | refine lst_run (run_neq_no rfl rfl (by first | assumption | omega)) rfl ?_
        | refine lst_run (run_neq_yes rfl rfl (by omega)) rfl ?_
        | refine lst_run (rfl) rfl ?_
      refine lst_run (run_move (by conv => lhs; whnf)) rfl ?_
      refine lst_guard rfl rfl ?_
      refine lst_run (run_move (by conv => lhs; whnf)) rfl ?_
      refine lst_guard rfl rfl ?_
      refine lst_run (run_move (by conv => lhs; whnf)) rfl ?_
      refine lst_guard rfl rfl ?_
      refine lst_run (run_index_str rfl rfl rfl (by omega) (by first | rfl | assumption)) rfl ?_
      refine lst_guard rfl rfl ?_
      first
        | refine lst_run (run_neq_one_int rfl rfl) rfl ?_
        | refine lst_run (run_neq_no rfl rfl (by first | assumption | omega)) rfl ?_
        | refine lst_run (run_neq_yes rfl rfl (by omega)) rfl ?_
        | refine lst_run (rfl) rfl ?_
      first
        | refine lst_run (run_pick_t rfl (by conv => lhs; whnf)) rfl ?_
        | refine lst_run (run_pick_f rfl (by conv => lhs; whnf)) rfl ?_
      refine lst_run (run_move (by conv => lhs; whnf)) rfl ?_
      refine lst_pass rfl rfl rfl ?_
      refine lst_pass rfl rfl rfl ?_
      refine lst_pass rfl rfl rfl ?_
      refine lst_pass rfl rfl rfl ?_
      first
        | refine lst_run (run_pick_t rfl (by conv => lhs; whnf)) rfl ?_
        | refine lst_run (run_pick_f rfl (by conv => lhs; whnf)) rfl ?_
      refine lst_run (run_move (by conv => lhs; whnf)) rfl ?_
      refine lst_pass rfl rfl rfl ?_
      refine lst_pass rfl rfl rfl ?_
      refine lst_pass rfl rfl rfl ?_
      refine lst_pass rfl rfl rfl ?_
      first
        | refine lst_run (run_pick_t rfl (by conv => lhs; whnf)) rfl ?_
        | refine lst_run (run_pick_f rfl (by conv => lhs; whnf)) rfl ?_
      refine lst_done ?_
      refine goes_false rfl ?_
      refine goes_skip ?_
      refine goes_inBlock ?_
      refine goes_region ?_
      refine lst_run (run_add rfl rfl (by omega) (by omega)) rfl ?_
      refine lst_run (run_move (by conv => lhs; whnf)) rfl ?_
      refine lst_done ?_
      refine ih (r) _ _ _ ?_ ?_ (by conv => lhs; whnf) (by kernel_rfl)
      · simp
      · exact ⟨rfl, D ++ [10], by rw [hD, List.append_assoc]; rfl, by simp, all_snoc hwh (by decide)⟩
    have n10 : ((c.toNat : Nat) : Int) ≠ 10 := byte_ne (d := 10) h10
    by_cases h9 : c = 9
    · subst h9
      refine goes_seq ?_
      refine goes_region ?_
      first
        | refine lst_run (run_lss_yes rfl rfl (by omega)) rfl ?_
        | refine lst_run (run_lss_no rfl rfl (by omega)) rfl ?_
        | refine lst_run (rfl) rfl ?_
      refine lst_done ?_
      refine goes_seq ?_
      refine goes_true rfl ?_
      refine goes_skip ?_
      refine goes_seq ?_
      refine goes_block ?_
      refine goes_seq ?_
      refine goes_region ?_
      refine lst_run (run_move (by conv => lhs; whnf)) rfl ?_
      refine lst_run (run_assign (by conv => lhs; whnf)) rfl ?_
      refine lst_done ?_
      refine goes_seq ?_
      refine goes_region ?_
      refine lst_run (run_move (by conv => lhs; whnf)) rfl ?_
      refine lst_run (run_move (by conv => lhs; whnf)) rfl ?_
      refine lst_run (run_index_str rfl rfl rfl (by omega) (by first | rfl | assumption)) rfl ?_
      first
        | refine lst_run (run_neq_one_int rfl rfl) rfl ?_
        | refine lst_run (run_neq_no rfl rfl (by first | assumption | omega)) rfl ?_
        | refine lst_run (run_neq_yes rfl rfl (by omega)) rfl ?_
        | refine lst_run (rfl) rfl ?_
      refine lst_run (run_move (by conv => lhs; whnf)) rfl ?_
      refine lst_guard rfl rfl ?_
      refine lst_run (run_move (by conv => lhs; whnf)) rfl ?_
      refine lst_guard rfl rfl ?_
      refine lst_run (run_move (by conv => lhs; whnf)) rfl ?_
      refine lst_guard rfl rfl ?_
      refine lst_run (run_index_str rfl rfl rfl (by omega) (by first | rfl | assumption)) rfl ?_
      refine lst_guard rfl rfl ?_
      first
        | refine lst_run (run_neq_one_int rfl rfl) rfl ?_
        | refine lst_run (run_neq_no rfl rfl (by first | assumption | omega)) rfl ?_
        | refine lst_run (run_neq_yes rfl rfl (by omega)) rfl ?_
        | refine lst_run (rfl) rfl ?_
      first
        | refine lst_run (run_pick_t rfl (by conv => lhs; whnf)) rfl ?_
        | refine lst_run (run_pick_f rfl (by conv => lhs; whnf)) rfl ?_
      refine lst_run (run_move (by conv => lhs; whnf)) rfl ?_
      refine lst_guard rfl rfl ?_
      refine lst_run (run_move (by conv => lhs; whnf)) rfl ?_
      refine lst_guard rfl rfl ?_
      refine lst_run (run_move (by conv => lhs; whnf)) rfl ?_
      refine lst_guard rfl rfl ?_
      refine lst_run (run_index_str rfl rfl rfl (by omega) (by first | rfl | assumption)) rfl ?_
      refine lst_guard rfl rfl ?_
      first
        | refine lst_run (run_neq_one_int rfl rfl) rfl ?_
        | refine lst_run (run_neq_no rfl rfl (by first | assumption | omega)) rfl ?_
        | refine lst_run (run_neq_yes rfl rfl (by omega)) rfl ?_
        | refine lst_run (rfl) rfl ?_
      first
        | refine lst_run (run_pick_t rfl (by conv => lhs; whnf)) rfl ?_
        | refine lst_run (run_pick_f rfl (by conv => lhs; whnf)) rfl ?_
      refine lst_run (run_move (by conv => lhs; whnf)) rfl ?_
      refine lst_pass rfl rfl rfl ?_
      refine lst_pass rfl rfl rfl ?_
      refine lst_pass rfl rfl rfl ?_
      refine lst_pass rfl rfl rfl ?_
      first
        | refine lst_run (run_pick_t rfl (by conv => lhs; whnf)) rfl ?_
        | refine lst_run (run_pick_f rfl (by conv => lhs; whnf)) rfl ?_
      refine lst_done ?_
      refine goes_false rfl ?_
      refine goes_skip ?_
      refine goes_inBlock ?_
      refine goes_region ?_
      refine lst_run (run_add rfl rfl (by omega) (by omega)) rfl ?_
      refine lst_run (run_move (by conv => lhs; whnf)) rfl ?_
      refine lst_done ?_
      refine ih (r) _ _ _ ?_ ?_ (by conv => lhs; whnf) (by kernel_rfl)
      · simp
      · exact ⟨rfl, D ++ [9], by rw [hD, List.append_assoc]; rfl, by simp, all_snoc hwh (by decide)⟩
    have n9 : ((c.toNat : Nat) : Int) ≠ 9 := byte_ne (d := 9) h9
    by_cases h13 : c = 13
    · subst h13
      refine goes_seq ?_
      refine goes_region ?_
      first
        | refine lst_run (run_lss_yes rfl rfl (by omega)) rfl ?_
        | refine lst_run (run_lss_no rfl rfl (by omega)) rfl ?_
        | refine lst_run (rfl) rfl ?_
      refine lst_done ?_
      refine goes_seq ?_
      refine goes_true rfl ?_
      refine goes_skip ?_
      refine goes_seq ?_
      refine goes_block ?_
      refine goes_seq ?_
      refine goes_region ?_
      refine lst_run (run_move (by conv => lhs; whnf)) rfl ?_
      refine lst_run (run_assign (by conv => lhs; whnf)) rfl ?_
      refine lst_done ?_
      refine goes_seq ?_
      refine goes_region ?_
      refine lst_run (run_move (by conv => lhs; whnf)) rfl ?_
      refine lst_run (run_move (by conv => lhs; whnf)) rfl ?_
      refine lst_run (run_index_str rfl rfl rfl (by omega) (by first | rfl | assumption)) rfl ?_
      first
        | refine lst_run (run_neq_one_int rfl rfl) rfl ?_
        | refine lst_run (run_neq_no rfl rfl (by first | assumption | omega)) rfl ?_
        | refine lst_run (run_neq_yes rfl rfl (by omega)) rfl ?_
        | refine lst_run (rfl) rfl ?_
      refine lst_run (run_move (by conv => lhs; whnf)) rfl ?_
      refine lst_guard rfl rfl ?_
      refine lst_run (run_move (by conv => lhs; whnf)) rfl ?_
      refine lst_guard rfl rfl ?_
      refine lst_run (run_move (by conv => lhs; whnf)) rfl ?_
      refine lst_guard rfl rfl ?_
      refine lst_run (run_index_str rfl rfl rfl (by omega) (by first | rfl | assumption)) rfl ?_
      refine lst_guard rfl rfl ?_
      first
        | refine lst_run (run_neq_one_int rfl rfl) rfl ?_
        | refine lst_run (run_neq_no rfl rfl (by first | assumption | omega)) rfl ?_
        | refine lst_run (run_neq_yes rfl rfl (by omega)) rfl ?_
        | refine lst_run (rfl) rfl ?_
      first
        | refine lst_run (run_pick_t rfl (by conv => lhs; whnf)) rfl ?_
        | refine lst_run (run_pick_f rfl (by conv => lhs; whnf)) rfl ?_
      refine lst_run (run_move (by conv => lhs; whnf)) rfl ?_
      refine lst_guard rfl rfl ?_
      refine lst_run (run_move (by conv => lhs; whnf)) rfl ?_
      refine lst_guard rfl rfl ?_
      refine lst_run (run_move (by conv => lhs; whnf)) rfl ?_
      refine lst_guard rfl rfl ?_
      refine lst_run (run_index_str rfl rfl rfl (by omega) (by first | rfl | assumption)) rfl ?_
      refine lst_guard rfl rfl ?_
      first
        | refine lst_run (run_neq_one_int rfl rfl) rfl ?_
        | refine lst_run (run_neq_no rfl rfl (by first | assumption | omega)) rfl ?_
        | refine lst_run (run_neq_yes rfl rfl (by omega)) rfl ?_
        | refine lst_run (rfl) rfl ?_
      first
        | refine lst_run (run_pick_t rfl (by conv => lhs; whnf)) rfl ?_
        | refine lst_run (run_pick_f rfl (by conv => lhs; whnf)) rfl ?_
      refine lst_run (run_move (by conv => lhs; whnf)) rfl ?_
      refine lst_guard rfl rfl ?_
      refine lst_run (run_move (by conv => lhs; whnf)) rfl ?_
      refine lst_guard rfl rfl ?_
      refine lst_run (run_move (by conv => lhs; whnf)) rfl ?_
      refine lst_guard rfl rfl ?_
      refine lst_run (run_index_str rfl rfl rfl (by omega) (by first | rfl | assumption)) rfl ?_
      refine lst_guard rfl rfl ?_
      first
        | refine lst_run (run_neq_one_int rfl rfl) rfl ?_
        | refine lst_run (run_neq_no rfl rfl (by first | assumption | omega)) rfl ?_
        | refine lst_run (run_neq_yes rfl rfl (by omega)) rfl ?_
        | refine lst_run (rfl) rfl ?_
      first
        | refine lst_run (run_pick_t rfl (by conv => lhs; whnf)) rfl ?_
        | refine lst_run (run_pick_f rfl (by conv => lhs; whnf)) rfl ?_
      refine lst_done ?_
      refine goes_false rfl ?_
      refine goes_skip ?_
      refine goes_inBlock ?_
      refine goes_region ?_
      refine lst_run (run_add rfl rfl (by omega) (by omega)) rfl ?_
      refine lst_run (run_move (by conv => lhs; whnf)) rfl ?_
      refine lst_done ?_
      refine ih (r) _ _ _ ?_ ?_ (by conv => lhs; whnf) (by kernel_rfl)
      · simp
      · exact ⟨rfl, D ++ [13], by rw [hD, List.append_assoc]; rfl, by simp, all_snoc hwh (by decide)⟩
    have n13 : ((c.toNat : Nat) : Int) ≠ 13 := byte_ne (d := 13) h13
    refine goes_seq ?_
    refine goes_region ?_
    first
      | refine lst_run (run_lss_yes rfl rfl (by omega)) rfl ?_
      | refine lst_run (run_lss_no rfl rfl (by omega)) rfl ?_
      | refine lst_run (rfl) rfl ?_
    refine lst_done ?_
    refine goes_seq ?_
    refine goes_true rfl ?_
    refine goes_skip ?_
    refine goes_seq ?_
    refine goes_block ?_
    refine goes_seq ?_
    refine goes_region ?_
    refine lst_run (run_move (by conv => lhs; whnf)) rfl ?_
    refine lst_run (run_assign (by conv => lhs; whnf)) rfl ?_
    refine lst_done ?_
    refine goes_seq ?_
    refine goes_region ?_
    refine lst_run (run_move (by conv => lhs; whnf)) rfl ?_
    refine lst_run (run_move (by conv => lhs; whnf)) rfl ?_
    refine lst_run (run_index_str rfl rfl rfl (by omega) (by first | rfl | assumption)) rfl ?_
    first
      | refine lst_run (run_neq_one_int rfl rfl) rfl ?_
      | refine lst_run (run_neq_no rfl rfl (by first | assumption | omega)) rfl ?_
      | refine lst_run (run_neq_yes rfl rfl (by omega)) rfl ?_
      | refine lst_run (rfl) rfl ?_
    refine lst_run (run_move (by conv => lhs; whnf)) rfl ?_
    refine lst_guard rfl rfl ?_
    refine lst_run (run_move (by conv => lhs; whnf)) rfl ?_
    refine lst_guard rfl rfl ?_
    refine lst_run (run_move (by conv => lhs; whnf)) rfl ?_
    refine lst_guard rfl rfl ?_
    refine lst_run (run_index_str rfl rfl rfl (by omega) (by first | rfl | assumption)) rfl ?_
    refine lst_guard rfl rfl ?_
    first
      | refine lst_run (run_neq_one_int rfl rfl) rfl ?_
      | refine lst_run (run_neq_no rfl rfl (by first | assumption | omega)) rfl ?_
      | refine lst_run (run_neq_yes rfl rfl (by omega)) rfl ?_
      | refine lst_run (rfl) rfl ?_
    first
      | refine lst_run (run_pick_t rfl (by conv => lhs; whnf)) rfl ?_
      | refine lst_run (run_pick_f rfl (by conv => lhs; whnf)) rfl ?_
    refine lst_run (run_move (by conv => lhs; whnf)) rfl ?_
    refine lst_guard rfl rfl ?_
    refine lst_run (run_move (by conv => lhs; whnf)) rfl ?_
    refine lst_guard rfl rfl ?_
    refine lst_run (run_move (by conv => lhs; whnf)) rfl ?_
    refine lst_guard rfl rfl ?_
    refine lst_run (run_index_str rfl rfl rfl (by omega) (by first | rfl | assumption)) rfl ?_
    refine lst_guard rfl rfl ?_
    first
      | refine lst_run (run_neq_one_int rfl rfl) rfl ?_
      | refine lst_run (run_neq_no rfl rfl (by first | assumption | omega)) rfl ?_
      | refine lst_run (run_neq_yes rfl rfl (by omega)) rfl ?_
      | refine lst_run (rfl) rfl ?_
    first
      | refine lst_run (run_pick_t rfl (by conv => lhs; whnf)) rfl ?_
      | refine lst_run (run_pick_f rfl (by conv => lhs; whnf)) rfl ?_
    refine lst_run (run_move (by conv => lhs; whnf)) rfl ?_
    refine lst_guard rfl rfl ?_
    refine lst_run (run_move (by conv => lhs; whnf)) rfl ?_
    refine lst_guard rfl rfl ?_
    refine lst_run (run_move (by conv => lhs; whnf)) rfl ?_
    refine lst_guard rfl rfl ?_
    refine lst_run (run_index_str rfl rfl rfl (by omega) (by first | rfl | assumption)) rfl ?_
    refine lst_guard rfl rfl ?_
    first
      | refine lst_run (run_neq_one_int rfl rfl) rfl ?_
      | refine lst_run (run_neq_no rfl rfl (by first | assumption | omega)) rfl ?_
      | refine lst_run (run_neq_yes rfl rfl (by omega)) rfl ?_
      | refine lst_run (rfl) rfl ?_
    first
      | refine lst_run (run_pick_t rfl (by conv => lhs; whnf)) rfl ?_
      | refine lst_run (run_pick_f rfl (by conv => lhs; whnf)) rfl ?_
    refine lst_done ?_
    refine goes_true rfl ?_
    refine goes_seq ?_
    refine goes_region ?_
    refine lst_enter (run_call (by kernel_rfl) args_nil) rfl ?_
    refine Calls.mono (reads_any _ hG) ?_
    rintro _ w3 ⟨rfl, hb3⟩
    refine ⟨_, rfl, ?_⟩
    replace hS := hS.grow hb3
    refine lst_run (run_assign (by conv => lhs; whnf)) rfl ?_
    refine lst_done ?_
    refine goes_ret1 Tryd.func5 rfl (by conv => lhs; whnf) ?_
    exact ⟨rfl, hb3⟩
  | nil =>
    simp only [List.length_nil] at hlen
    rw [List.append_nil] at hD
    subst hD
    by_cases hbig : 2000 < l.length + 2 * g.length
    · refine goes_seq ?_
      refine goes_region ?_
      first
        | refine lst_run (run_lss_yes rfl rfl (by omega)) rfl ?_
        | refine lst_run (run_lss_no rfl rfl (by omega)) rfl ?_
        | refine lst_run (rfl) rfl ?_
      refine lst_done ?_
      refine goes_seq ?_
      refine goes_false rfl ?_
      refine goes_exit rfl ?_
      refine goes_seq ?_
      refine goes_seq ?_
      refine goes_region ?_
      refine lst_run (run_move (by conv => lhs; whnf)) rfl ?_
      refine lst_run (run_len_str rfl rfl rfl) rfl ?_
      refine lst_run (run_move (by conv => lhs; whnf)) rfl ?_
      refine lst_run (run_len_str rfl rfl rfl) rfl ?_
      first
        | refine lst_run (run_mul rfl rfl (by omega) (by omega)) rfl ?_
        | refine lst_run (rfl) rfl ?_
      refine lst_run (run_add rfl rfl (by omega) (by omega)) rfl ?_
      first
        | refine lst_run (run_gtr_yes rfl rfl (by omega)) rfl ?_
        | refine lst_run (run_gtr_no rfl rfl (by omega)) rfl ?_
        | refine lst_run (rfl) rfl ?_
      refine lst_done ?_
      refine goes_true rfl ?_
      refine goes_seq ?_
      refine goes_region ?_
      refine lst_enter (run_call (by kernel_rfl) args_nil) rfl ?_
      refine Calls.mono (reads_any _ hG) ?_
      rintro _ w3 ⟨rfl, hb3⟩
      refine ⟨_, rfl, ?_⟩
      replace hS := hS.grow hb3
      refine lst_run (run_assign (by conv => lhs; whnf)) rfl ?_
      refine lst_done ?_
      refine goes_ret1 Tryd.func5 rfl (by conv => lhs; whnf) ?_
      exact ⟨rfl, hb3⟩
    · refine goes_seq ?_
      refine goes_region ?_
      first
        | refine lst_run (run_lss_yes rfl rfl (by omega)) rfl ?_
        | refine lst_run (run_lss_no rfl rfl (by omega)) rfl ?_
        | refine lst_run (rfl) rfl ?_
      refine lst_done ?_
      refine goes_seq ?_
      refine goes_false rfl ?_
      refine goes_exit rfl ?_
      refine goes_seq ?_
      refine goes_seq ?_
      refine goes_region ?_
      refine lst_run (run_move (by conv => lhs; whnf)) rfl ?_
      refine lst_run (run_len_str rfl rfl rfl) rfl ?_
      refine lst_run (run_move (by conv => lhs; whnf)) rfl ?_
      refine lst_run (run_len_str rfl rfl rfl) rfl ?_
      first
        | refine lst_run (run_mul rfl rfl (by omega) (by omega)) rfl ?_
        | refine lst_run (rfl) rfl ?_
      refine lst_run (run_add rfl rfl (by omega) (by omega)) rfl ?_
      first
        | refine lst_run (run_gtr_yes rfl rfl (by omega)) rfl ?_
        | refine lst_run (run_gtr_no rfl rfl (by omega)) rfl ?_
        | refine lst_run (rfl) rfl ?_
      refine lst_done ?_
      refine goes_false rfl ?_
      refine goes_skip ?_
      refine goes_seq ?_
      refine goes_region ?_
      refine lst_run (run_move (by conv => lhs; whnf)) rfl ?_
      have hnod := program_nodes numM l (by omega)
      have hcl := program_len numM l
      refine lst_enter (run_call (by kernel_rfl) (args_1 (by conv => lhs; whnf))) rfl ?_
      refine Calls.mono (program_r numM GVars lib1 lib2 lib3 l _ hG (by omega) hS) ?_
      rintro _ w3 ⟨v6, rfl, hS'⟩
      refine ⟨_, rfl, ?_⟩
      replace hS := hS'
      clear hS'
      refine lst_run (run_move (by conv => lhs; whnf)) rfl ?_
      refine lst_run (run_extract rfl rfl) rfl ?_
      refine lst_run (run_extract rfl rfl) rfl ?_
      refine lst_run (run_assign (by conv => lhs; whnf)) rfl ?_
      refine lst_run (run_assign (by conv => lhs; whnf)) rfl ?_
      refine lst_done ?_
      refine goes_seq ?_
      refine goes_region ?_
      refine lst_run (run_move (by conv => lhs; whnf)) rfl ?_
      refine lst_run (run_move (by conv => lhs; whnf)) rfl ?_
      refine lst_run (run_concat rfl rfl (by first | omega | (simp; omega))) rfl ?_
      refine lst_run (run_move (by conv => lhs; whnf)) rfl ?_
      refine lst_run (run_concat rfl rfl (by first | omega | (simp; omega))) rfl ?_
      refine lst_enter (run_call (by kernel_rfl) (args_1 (by conv => lhs; whnf))) rfl ?_
      refine Calls.mono (program_sp l g hwh (by omega) hG hS) ?_
      rintro _ w4 ⟨v8, rfl, hS'⟩
      refine ⟨_, rfl, ?_⟩
      replace hS := hS'
      clear hS'
      have f8 := hS.fact (.head _)
      have f6 := hS.fact (.tail _ (.head _))
      have hxw := hS.ext
      clear hS
      generalize programM numM l = pr at f6 f8 hnod hcl ⊢
      obtain ⟨CL, er⟩ := pr
      simp only at f6 f8 hnod hcl
      obtain ⟨A6, c6, rfl, f6⟩ := f6.form
      obtain ⟨A8, c8, rfl, f8⟩ := f8.form
      have hS := St.start w4
      have hG4 : ∀ w', Ext [] w4 w' → GVars w' := fun w' h => hG w' (hxw.trans h)
      refine lst_run (run_move (by conv => lhs; whnf)) rfl ?_
      refine lst_run (run_extract rfl rfl) rfl ?_
      refine lst_run (run_extract rfl rfl) rfl ?_
      refine lst_run (run_assign (by conv => lhs; whnf)) rfl ?_
      refine lst_run (run_assign (by conv => lhs; whnf)) rfl ?_
      refine lst_done ?_
      refine goes_seq ?_
      refine goes_seq ?_
      refine goes_region ?_
      refine lst_run (run_move (by conv => lhs; whnf)) rfl ?_
      refine lst_run (run_move (by conv => lhs; whnf)) rfl ?_
      first
        | refine lst_run (run_neq_one_int rfl rfl) rfl ?_
        | refine lst_run (run_neq_no rfl rfl (by first | assumption | omega)) rfl ?_
        | refine lst_run (run_neq_yes rfl rfl (by omega)) rfl ?_
        | refine lst_run (rfl) rfl ?_
      refine lst_run (run_move (by conv => lhs; whnf)) rfl ?_
      refine lst_guard rfl rfl ?_
      refine lst_run (run_move (by conv => lhs; whnf)) rfl ?_
      refine lst_guard rfl rfl ?_
      refine lst_run (run_len_slice rfl rfl rfl) rfl ?_
      refine lst_guard rfl rfl ?_
      refine lst_run (run_move (by conv => lhs; whnf)) rfl ?_
      refine lst_guard rfl rfl ?_
      refine lst_run (run_len_slice rfl rfl rfl) rfl ?_
      refine lst_guard rfl rfl ?_
      first
        | refine lst_run (run_neq_one_int rfl rfl) rfl ?_
        | refine lst_run (run_neq_no rfl rfl (by first | assumption | omega)) rfl ?_
        | refine lst_run (run_neq_yes rfl rfl (by omega)) rfl ?_
        | refine lst_run (rfl) rfl ?_
      first
        | refine lst_run (run_pick_t rfl (by conv => lhs; whnf)) rfl ?_
        | refine lst_run (run_pick_f rfl (by conv => lhs; whnf)) rfl ?_
      refine lst_run (run_move (by conv => lhs; whnf)) rfl ?_
      refine lst_guard rfl rfl ?_
      refine lst_enter (run_call (by kernel_rfl) args_nil) rfl ?_
      refine Calls.mono (reads_any _ hG4) ?_
      rintro _ w5 ⟨rfl, hb5⟩
      refine ⟨_, rfl, ?_⟩
      replace hS := hS.grow hb5
      refine lst_guard rfl rfl ?_
      refine lst_run (rfl) rfl ?_
      first
        | refine lst_run (run_pick_t rfl (by conv => lhs; whnf)) rfl ?_
        | refine lst_run (run_pick_f rfl (by conv => lhs; whnf)) rfl ?_
      refine lst_done ?_
      refine goes_false rfl ?_
      refine goes_skip ?_
      refine goes_seq ?_
      refine goes_seq ?_
      refine goes_region ?_
      refine lst_run (run_move (by conv => lhs; whnf)) rfl ?_
      refine lst_run (run_len_slice rfl rfl rfl) rfl ?_
      refine lst_run (run_move (by conv => lhs; whnf)) rfl ?_
      refine lst_done ?_
      refine goes_block ?_
      clear ih
      refine goes_loop1 78 (79 :: 80 :: 10 :: 81 :: 82 :: 83 :: 84 :: 85 :: 86 :: 87 :: 88 :: 89 :: 90 :: 91 :: 92 :: 93 :: 94 :: 95 :: 96 :: 97 :: 98 :: 99 :: 100 :: 101 :: 102 :: 103 :: 104 :: 105 :: 106 :: 107 :: 108 :: 109 :: 110 :: 111 :: 112 :: 113 :: 114 :: 115 :: 116 :: 117 :: 118 :: 119 :: 4 :: 120 :: []) (fun (R : List Cl) v w' => St [] w4 [] [] w' ∧ ∃ D, CL = D ++ R ∧ v = .int .i64 (D.length : Nat)) (fun R => R.length) (CL) ?_ (by conv => lhs; whnf) ?_
      · exact ⟨hS, [], rfl, rfl⟩
      clear hS
      rintro R2 v2 w6 jv2 ⟨hS, D2, hD2, rfl⟩ ih
      have hlen2 : CL.length = D2.length + R2.length := by rw [hD2]; simp
      cases R2 with
      | nil =>
        simp only [List.length_nil] at hlen2
        refine goes_seq ?_
        refine goes_region ?_
        first
          | refine lst_run (run_lss_yes rfl rfl (by omega)) rfl ?_
          | refine lst_run (run_lss_no rfl rfl (by omega)) rfl ?_
          | refine lst_run (rfl) rfl ?_
        refine lst_done ?_
        refine goes_seq ?_
        refine goes_false rfl ?_
        refine goes_exit rfl ?_
        refine goes_seq ?_
        refine goes_region ?_
        refine lst_run (run_assign (by conv => lhs; whnf)) rfl ?_
        refine lst_done ?_
        refine goes_ret1 Tryd.func5 rfl (by conv => lhs; whnf) ?_
        exact ⟨rfl, (hxw.trans hS.ext).below⟩
      | cons c r =>
        simp only [List.length_cons] at hlen2
        have f6' := f6
        have f8' := f8
        rw [hD2] at f6' f8'
        obtain ⟨b6, o6, rfl, _, p0, p1, p2, ⟨p3v, p3, p3'⟩, ⟨p4v, p4, p4'⟩, p5, _⟩ := SlC.at_ f6' (by simp)
        obtain ⟨b8, o8, rfl, _, q0, q1, q2, ⟨q3v, q3, q3'⟩, ⟨q4v, q4, q4'⟩, q5, _⟩ := SlC.at_ f8' (by simp)
        have hno := hnod c (by rw [hD2]; simp)
        have hsame : ∀ w', St [] w4 [] [] w' → Calls Tryd.prog 32 #[.agg #[.int .i64 c.k, .int .i64 c.n, .string c.s, p3v], .agg #[.int .i64 c.k, .int .i64 c.n, .string c.s, q3v]] w' fun e w'' => e = .returned (.bool true) ∧ Below w'.heap.size w' w'' := by
          intro w' h
          have := K.same_said c.hd c.hd c.k c.n c.s p3v c.k c.n c.s q3v w' (p3'.below h.ext.below) (q3'.below h.ext.below) hno.1 hno.1
          rw [same1_iff.2 ⟨rfl, rfl, rfl, rfl⟩] at this
          exact this
        have hsames : ∀ w', St [] w4 [] [] w' → Calls Tryd.prog 30 #[p4v, q4v] w' fun e w'' => e = .returned (.bool true) ∧ Below w'.heap.size w' w'' := by
          intro w' h
          have := K.sameTerms_any c.bd c.bd p4v q4v w' (p4'.below h.ext.below) (q4'.below h.ext.below) hno.2 hno.2
          rw [(Ts.same_iff _ _).2 rfl] at this
          exact this
        refine goes_seq ?_
        refine goes_region ?_
        first
          | refine lst_run (run_lss_yes rfl rfl (by omega)) rfl ?_
          | refine lst_run (run_lss_no rfl rfl (by omega)) rfl ?_
          | refine lst_run (rfl) rfl ?_
        refine lst_done ?_
        refine goes_seq ?_
        refine goes_true rfl ?_
        refine goes_skip ?_
        refine goes_seq ?_
        refine goes_block ?_
        refine goes_seq ?_
        refine goes_region ?_
        refine lst_run (run_move (by conv => lhs; whnf)) rfl ?_
        refine lst_run (run_assign (by conv => lhs; whnf)) rfl ?_
        refine lst_done ?_
        refine goes_seq ?_
        refine goes_draw (St [] w4 [] []) 39 ((0, true) :: (1, true) :: (2, true) :: (3, true) :: (4, true) :: (5, true) :: (6, true) :: (7, true) :: (8, true) :: (9, true) :: (10, true) :: (11, true) :: (12, true) :: (13, true) :: (14, true) :: (15, true) :: (16, true) :: (17, true) :: (18, true) :: (19, true) :: (20, true) :: (21, true) :: (22, false) :: (23, true) :: (24, true) :: (25, true) :: (26, true) :: (27, true) :: (28, true) :: (29, true) :: (30, true) :: (31, true) :: (32, true) :: (33, true) :: (34, true) :: (35, true) :: (36, false) :: (37, true) :: (38, true) :: []) (by kernel_rfl) (by kernel_rfl) hS.drew ?_
        replace hS := hS.drew
        refine ord_read rfl (fun _ hS => run_move (by conv => lhs; whnf)) rfl ?_
        refine ord_read rfl (fun _ hS => run_move (by conv => lhs; whnf)) rfl ?_
        refine ord_read rfl (fun _ hS => run_indexAddr (sz := 6) rfl rfl rfl rfl (by omega) (by omega)) rfl ?_
        refine ord_read rfl (fun _ hS => run_fieldAddr (off := 5) rfl rfl) rfl ?_
        first
          | refine ord_read rfl (fun _ hS => run_load1_own hS rfl rfl (by first | exact .head | exact .tail .head | exact .tail (.tail .head) | exact .tail (.tail (.tail .head)) | exact .tail (.tail (.tail (.tail .head))) | exact .tail (.tail (.tail (.tail (.tail .head))))) (by repeat constructor)) rfl ?_
          | refine ord_read rfl (fun _ hS => run_load1 rfl rfl (by first | assumption | exact hS.cell0 (by assumption) | exact lv_next hS | exact lv_list hS)) rfl ?_
        refine ord_read rfl (fun _ hS => run_move (by conv => lhs; whnf)) rfl ?_
        refine ord_read rfl (fun _ hS => run_move (by conv => lhs; whnf)) rfl ?_
        refine ord_read rfl (fun _ hS => run_indexAddr (sz := 6) rfl rfl rfl rfl (by omega) (by omega)) rfl ?_
        refine ord_read rfl (fun _ hS => run_fieldAddr (off := 5) rfl rfl) rfl ?_
        first
          | refine ord_read rfl (fun _ hS => run_load1_own hS rfl rfl (by first | exact .head | exact .tail .head | exact .tail (.tail .head) | exact .tail (.tail (.tail .head)) | exact .tail (.tail (.tail (.tail .head))) | exact .tail (.tail (.tail (.tail (.tail .head))))) (by repeat constructor)) rfl ?_
          | refine ord_read rfl (fun _ hS => run_load1 rfl rfl (by first | assumption | exact hS.cell0 (by assumption) | exact lv_next hS | exact lv_list hS)) rfl ?_
        first
          | refine ord_read rfl (fun _ hS => run_neq_one_int rfl rfl) rfl ?_
          | refine ord_read rfl (fun _ hS => run_neq_no rfl rfl (by first | assumption | omega)) rfl ?_
          | refine ord_read rfl (fun _ hS => run_neq_yes rfl rfl (by omega)) rfl ?_
          | refine ord_read rfl (fun _ hS => rfl) rfl ?_
        refine ord_read rfl (fun _ hS => run_move (by conv => lhs; whnf)) rfl ?_
        refine ord_readG rfl rfl rfl (fun _ hS => run_move (by conv => lhs; whnf)) rfl ?_
        refine ord_readG rfl rfl rfl (fun _ hS => run_move (by conv => lhs; whnf)) rfl ?_
        refine ord_readG rfl rfl rfl (fun _ hS => run_indexAddr (sz := 6) rfl rfl rfl rfl (by omega) (by omega)) rfl ?_
        refine ord_readG rfl rfl rfl (fun _ hS => run_fieldAddr (off := 0) rfl rfl) rfl ?_
        first
          | refine ord_readG rfl rfl rfl (fun _ hS => run_loadN_own (k := 4) hS rfl rfl rfl (by first | exact .head | exact .tail .head | exact .tail (.tail .head) | exact .tail (.tail (.tail .head)) | exact .tail (.tail (.tail (.tail .head))) | exact .tail (.tail (.tail (.tail (.tail .head))))) (by repeat constructor)) rfl ?_
          | refine ord_readG rfl rfl rfl (fun _ hS => run_load4 rfl rfl rfl (by first | assumption | exact hS.cell0 (by assumption)) (by first | assumption | exact hS.cell0 (by assumption)) (by first | assumption | exact hS.cell0 (by assumption)) (by first | assumption | exact hS.cell0 (by assumption))) rfl ?_
        refine ord_readG rfl rfl rfl (fun _ hS => run_move (by conv => lhs; whnf)) rfl ?_
        refine ord_readG rfl rfl rfl (fun _ hS => run_move (by conv => lhs; whnf)) rfl ?_
        refine ord_readG rfl rfl rfl (fun _ hS => run_indexAddr (sz := 6) rfl rfl rfl rfl (by omega) (by omega)) rfl ?_
        refine ord_readG rfl rfl rfl (fun _ hS => run_fieldAddr (off := 0) rfl rfl) rfl ?_
        first
          | refine ord_readG rfl rfl rfl (fun _ hS => run_loadN_own (k := 4) hS rfl rfl rfl (by first | exact .head | exact .tail .head | exact .tail (.tail .head) | exact .tail (.tail (.tail .head)) | exact .tail (.tail (.tail (.tail .head))) | exact .tail (.tail (.tail (.tail (.tail .head))))) (by repeat constructor)) rfl ?_
          | refine ord_readG rfl rfl rfl (fun _ hS => run_load4 rfl rfl rfl (by first | assumption | exact hS.cell0 (by assumption)) (by first | assumption | exact hS.cell0 (by assumption)) (by first | assumption | exact hS.cell0 (by assumption)) (by first | assumption | exact hS.cell0 (by assumption))) rfl ?_
        refine ord_act rfl ?_
        refine lst_guard rfl rfl ?_
        refine lst_enter (run_call (by kernel_rfl) (args_2 (by conv => lhs; whnf) (by conv => lhs; whnf))) rfl ?_
        refine Calls.mono (hsame _ hS) ?_
        rintro _ w7 ⟨rfl, hb7⟩
        refine ⟨_, rfl, ?_⟩
        replace hS := hS.grow hb7
        refine lst_ord hS ?_
        refine ord_readG rfl rfl rfl (fun _ hS => rfl) rfl ?_
        first
          | refine ord_read rfl (fun _ hS => run_pick_t rfl (by conv => lhs; whnf)) rfl ?_
          | refine ord_read rfl (fun _ hS => run_pick_f rfl (by conv => lhs; whnf)) rfl ?_
        refine ord_read rfl (fun _ hS => run_move (by conv => lhs; whnf)) rfl ?_
        refine ord_readG rfl rfl rfl (fun _ hS => run_move (by conv => lhs; whnf)) rfl ?_
        refine ord_readG rfl rfl rfl (fun _ hS => run_move (by conv => lhs; whnf)) rfl ?_
        refine ord_readG rfl rfl rfl (fun _ hS => run_indexAddr (sz := 6) rfl rfl rfl rfl (by omega) (by omega)) rfl ?_
        refine ord_readG rfl rfl rfl (fun _ hS => run_fieldAddr (off := 4) rfl rfl) rfl ?_
        first
          | refine ord_readG rfl rfl rfl (fun _ hS => run_load1_own hS rfl rfl (by first | exact .head | exact .tail .head | exact .tail (.tail .head) | exact .tail (.tail (.tail .head)) | exact .tail (.tail (.tail (.tail .head))) | exact .tail (.tail (.tail (.tail (.tail .head))))) (by repeat constructor)) rfl ?_
          | refine ord_readG rfl rfl rfl (fun _ hS => run_load1 rfl rfl (by first | assumption | exact hS.cell0 (by assumption) | exact lv_next hS | exact lv_list hS)) rfl ?_
        refine ord_readG rfl rfl rfl (fun _ hS => run_move (by conv => lhs; whnf)) rfl ?_
        refine ord_readG rfl rfl rfl (fun _ hS => run_move (by conv => lhs; whnf)) rfl ?_
        refine ord_readG rfl rfl rfl (fun _ hS => run_indexAddr (sz := 6) rfl rfl rfl rfl (by omega) (by omega)) rfl ?_
        refine ord_readG rfl rfl rfl (fun _ hS => run_fieldAddr (off := 4) rfl rfl) rfl ?_
        first
          | refine ord_readG rfl rfl rfl (fun _ hS => run_load1_own hS rfl rfl (by first | exact .head | exact .tail .head | exact .tail (.tail .head) | exact .tail (.tail (.tail .head)) | exact .tail (.tail (.tail (.tail .head))) | exact .tail (.tail (.tail (.tail (.tail .head))))) (by repeat constructor)) rfl ?_
          | refine ord_readG rfl rfl rfl (fun _ hS => run_load1 rfl rfl (by first | assumption | exact hS.cell0 (by assumption) | exact lv_next hS | exact lv_list hS)) rfl ?_
        refine ord_act rfl ?_
        refine lst_guard rfl rfl ?_
        refine lst_enter (run_call (by kernel_rfl) (args_2 (by conv => lhs; whnf) (by conv => lhs; whnf))) rfl ?_
        refine Calls.mono (hsames _ hS) ?_
        rintro _ w8 ⟨rfl, hb8⟩
        refine ⟨_, rfl, ?_⟩
        replace hS := hS.grow hb8
        refine lst_ord hS ?_
        refine ord_readG rfl rfl rfl (fun _ hS => rfl) rfl ?_
        first
          | refine ord_read rfl (fun _ hS => run_pick_t rfl (by conv => lhs; whnf)) rfl ?_
          | refine ord_read rfl (fun _ hS => run_pick_f rfl (by conv => lhs; whnf)) rfl ?_
        refine ord_end ?_
        refine lst_done ?_
        refine goes_false rfl ?_
        refine goes_skip ?_
        refine goes_inBlock ?_
        refine goes_region ?_
        refine lst_run (run_add rfl rfl (by omega) (by omega)) rfl ?_
        refine lst_run (run_move (by conv => lhs; whnf)) rfl ?_
        refine lst_done ?_
        refine ih (r) _ _ _ ?_ ?_ (by conv => lhs; whnf) (by kernel_rfl)
        · simp
        · exact ⟨hS, D2 ++ [c], by rw [hD2, List.append_assoc]; rfl, by simp⟩
end Go.Proofs.YtpbnfjlalgnmmaaDoor
