/-
  The reader's terms, walked: variable, number, term, terms, arguments.
-/
import Derived.Test.YtdiophafmokfiaaGreatDoorG8
namespace Go.Proofs.YtdiophafmokfiaaGreatDoor
open Go.RowKit
set_option linter.unusedVariables false
set_option maxRecDepth 100000
set_option maxHeartbeats 1000000

/-- The names of the variables, in memory. -/
abbrev Vars (vs : List Str) (V : Value) (VH : List (Nat × Obj)) : Prop := Row 9 1 V vs.length (vs.map sv) VH
section
variable {M : List Nat} {w0 : World} {H : List (Nat × Obj)} {F : List (World → Prop)} {b : Nat}
theorem variable_any (s : RS) (x : Str) (V : Value) (VH : List (Nat × Obj)) (w : World) (hV : Vars s.vars V VH) (hb : s.vars.length ≤ 1048576) (hS : St M w0 ((b, rdr s V) :: (VH ++ H)) F w) :
    Calls Tryz.prog 53 #[ptr b, sv x] w fun e w' => ∃ V' VH', e = .returned (.int .i64 ((s.var x).1 : Nat)) ∧ Vars (s.var x).2.vars V' VH' ∧ St M w0 ((b, rdr (s.var x).2 V') :: (VH' ++ H)) F w' := by
  obtain ⟨A, c, rfl⟩ := hV.form
  by_cases hx : x ∈ s.vars
  · have hI : idxI s.vars x = (idxOfV s.vars x : Nat) := by simp only [idxI, if_pos hx]
    have e : s.var x = (idxOfV s.vars x, s) := by simp only [RS.var, if_pos hx]
    have hc := index_any s.vars x _ VH w hV hS.drop hb
    rw [hI] at hc
    rw [e]
    refine goes_enter2 Tryz.func53 rfl Tryz.ntmps53 rfl ?_
    refine goes_seq ?_
    refine goes_region ?_
    refine lst_run (run_assign (by conv => lhs; whnf)) rfl ?_
    refine lst_done ?_
    refine goes_seq ?_
    refine goes_region ?_
    refine lst_run (run_move (by conv => lhs; whnf)) rfl ?_
    refine lst_run (run_nilCheck rfl) rfl ?_
    refine lst_run (run_fieldAddr (off := 2) rfl rfl) rfl ?_
    first
      | refine lst_run (run_load1_own hS rfl rfl (by first | exact .head | exact .tail .head | exact .tail (.tail .head) | exact .tail (.tail (.tail .head)) | exact .tail (.tail (.tail (.tail .head))) | exact .tail (.tail (.tail (.tail (.tail .head))))) (by repeat constructor)) rfl ?_
      | refine lst_run (run_load1 rfl rfl (by first | assumption | exact hS.cell0 (by assumption) | exact lv_next hS | exact lv_list hS)) rfl ?_
    refine lst_run (run_move (by conv => lhs; whnf)) rfl ?_
    refine lst_enter (run_call (by kernel_rfl) (args_2 (by conv => lhs; whnf) (by conv => lhs; whnf))) rfl ?_
    refine Calls.mono (hc) ?_
    rintro _ w1 ⟨rfl, rfl⟩
    refine ⟨_, rfl, ?_⟩
    refine lst_run (run_assign (by conv => lhs; whnf)) rfl ?_
    refine lst_done ?_
    refine goes_seq ?_
    refine goes_seq ?_
    refine goes_region ?_
    refine lst_run (run_move (by conv => lhs; whnf)) rfl ?_
    first
      | refine lst_run (run_lss_yes rfl rfl (by omega)) rfl ?_
      | refine lst_run (run_lss_no rfl rfl (by omega)) rfl ?_
      | refine lst_run (rfl) rfl ?_
    refine lst_done ?_
    refine goes_false rfl ?_
    refine goes_skip ?_
    refine goes_seq ?_
    refine goes_region ?_
    refine lst_run (run_move (by conv => lhs; whnf)) rfl ?_
    refine lst_run (run_assign (by conv => lhs; whnf)) rfl ?_
    refine lst_done ?_
    refine goes_ret1 Tryz.func53 rfl (by conv => lhs; whnf) ?_
    exact ⟨_, _, rfl, hV, hS⟩
  · have hI : idxI s.vars x = -1 := by simp only [idxI, if_neg hx]
    have e : s.var x = (s.vars.length, { s with vars := s.vars ++ [x] }) := by simp only [RS.var, if_neg hx]
    have hc := index_any s.vars x _ VH w hV hS.drop hb
    rw [hI] at hc
    rw [e]
    refine goes_enter2 Tryz.func53 rfl Tryz.ntmps53 rfl ?_
    refine goes_seq ?_
    refine goes_region ?_
    refine lst_run (run_assign (by conv => lhs; whnf)) rfl ?_
    refine lst_done ?_
    refine goes_seq ?_
    refine goes_region ?_
    refine lst_run (run_move (by conv => lhs; whnf)) rfl ?_
    refine lst_run (run_nilCheck rfl) rfl ?_
    refine lst_run (run_fieldAddr (off := 2) rfl rfl) rfl ?_
    first
      | refine lst_run (run_load1_own hS rfl rfl (by first | exact .head | exact .tail .head | exact .tail (.tail .head) | exact .tail (.tail (.tail .head)) | exact .tail (.tail (.tail (.tail .head))) | exact .tail (.tail (.tail (.tail (.tail .head))))) (by repeat constructor)) rfl ?_
      | refine lst_run (run_load1 rfl rfl (by first | assumption | exact hS.cell0 (by assumption) | exact lv_next hS | exact lv_list hS)) rfl ?_
    refine lst_run (run_move (by conv => lhs; whnf)) rfl ?_
    refine lst_enter (run_call (by kernel_rfl) (args_2 (by conv => lhs; whnf) (by conv => lhs; whnf))) rfl ?_
    refine Calls.mono (hc) ?_
    rintro _ w1 ⟨rfl, rfl⟩
    refine ⟨_, rfl, ?_⟩
    refine lst_run (run_assign (by conv => lhs; whnf)) rfl ?_
    refine lst_done ?_
    refine goes_seq ?_
    refine goes_seq ?_
    refine goes_region ?_
    refine lst_run (run_move (by conv => lhs; whnf)) rfl ?_
    first
      | refine lst_run (run_lss_yes rfl rfl (by omega)) rfl ?_
      | refine lst_run (run_lss_no rfl rfl (by omega)) rfl ?_
      | refine lst_run (rfl) rfl ?_
    refine lst_done ?_
    refine goes_true rfl ?_
    refine goes_seq ?_
    refine goes_region ?_
    refine lst_run (run_move (by conv => lhs; whnf)) rfl ?_
    refine lst_run (run_nilCheck rfl) rfl ?_
    refine lst_run (run_fieldAddr (off := 2) rfl rfl) rfl ?_
    first
      | refine lst_run (run_load1_own hS rfl rfl (by first | exact .head | exact .tail .head | exact .tail (.tail .head) | exact .tail (.tail (.tail .head)) | exact .tail (.tail (.tail (.tail .head))) | exact .tail (.tail (.tail (.tail (.tail .head))))) (by repeat constructor)) rfl ?_
      | refine lst_run (run_load1 rfl rfl (by first | assumption | exact hS.cell0 (by assumption) | exact lv_next hS | exact lv_list hS)) rfl ?_
    refine lst_run (run_len_slice rfl rfl rfl) rfl ?_
    refine lst_run (run_assign (by conv => lhs; whnf)) rfl ?_
    refine lst_done ?_
    refine goes_region ?_
    refine lst_run (run_move (by conv => lhs; whnf)) rfl ?_
    refine lst_run (run_move (by conv => lhs; whnf)) rfl ?_
    refine lst_run (run_nilCheck rfl) rfl ?_
    refine lst_run (run_fieldAddr (off := 2) rfl rfl) rfl ?_
    first
      | refine lst_run (run_load1_own hS rfl rfl (by first | exact .head | exact .tail .head | exact .tail (.tail .head) | exact .tail (.tail (.tail .head)) | exact .tail (.tail (.tail (.tail .head))) | exact .tail (.tail (.tail (.tail (.tail .head))))) (by repeat constructor)) rfl ?_
      | refine lst_run (run_load1 rfl rfl (by first | assumption | exact hS.cell0 (by assumption) | exact lv_next hS | exact lv_list hS)) rfl ?_
    refine lst_run (run_move (by conv => lhs; whnf)) rfl ?_
    refine lst_buildSlice (cells := [_]) hS (.cons (by conv => lhs; whnf) .nil) rfl rfl ?_
    clear hS
    intro b1 wx1 hS
    refine lst_app (sz := 1) (bts := 16) hS (by conv => lhs; whnf) rfl rfl rfl rfl (hV) rfl rfl (.cons _ List.perm_middle.symm) (by omega) (by omega) rfl ?_
    clear hS
    intro V' VH' w2 hV' hS
    replace hS := hS.raise
    obtain ⟨A', c', rfl⟩ := hV'.form
    refine lst_run (run_nilCheck rfl) rfl ?_
    refine lst_run (run_fieldAddr (off := 2) rfl rfl) rfl ?_
    refine lst_store1 hS rfl (by conv => lhs; whnf) rfl rfl (by first | exact .head | exact .tail .head | exact .tail (.tail .head) | exact .tail (.tail (.tail .head)) | exact .tail (.tail (.tail (.tail .head))) | exact .tail (.tail (.tail (.tail (.tail .head))))) (by repeat constructor) (by first | exact .head | exact .tail .head | exact .tail (.tail .head) | exact .tail (.tail (.tail .head)) | exact .tail (.tail (.tail (.tail .head))) | exact .tail (.tail (.tail (.tail (.tail .head))))) ?_
    clear hS
    intro wx2 hS
    refine lst_done ?_
    refine goes_seq ?_
    refine goes_region ?_
    refine lst_run (run_move (by conv => lhs; whnf)) rfl ?_
    refine lst_run (run_assign (by conv => lhs; whnf)) rfl ?_
    refine lst_done ?_
    refine goes_ret1 Tryz.func53 rfl (by conv => lhs; whnf) ?_
    refine ⟨_, VH', rfl, ?_, hS⟩
    show Row _ _ _ (s.vars ++ [x]).length ((s.vars ++ [x]).map sv) _
    rw [List.map_append, List.length_append]; exact hV'
/-- What a token of digits stands for: what is asked of the library. -/
def Lib3 (num : Str → Option Int) (G : World → Prop) : Prop := ∀ (tok : Str) (s : RS) (A : Option Addr) (vl vc : Nat) (M : List Nat) (w0 w : World) (H : List (Nat × Obj)) (F : List (World → Prop)) (b : Nat), (∀ w', Ext M w0 w' → G w') → tok.length ≤ 1048576 → St M w0 ((b, rdr s (.slice A vl vc)) :: H) F w →
    Calls Tryz.prog 57 #[ptr b, sv tok] w fun e w' => e = .returned (.int .i64 (s.number num tok).1) ∧ St M w0 ((b, rdr (s.number num tok).2 (.slice A vl vc)) :: H) F w'

/-- A function that reads a term, and one that reads terms. -/
def TermSaid (num : Str → Option Int) (G : World → Prop) (d : Nat) : Prop := ∀ (s : RS) (V : Value) (VH : List (Nat × Obj)) (M : List Nat) (w0 w : World) (H : List (Nat × Obj)) (F : List (World → Prop)) (b : Nat), (∀ w', Ext M w0 w' → G w') →
    s.left ≤ 1048576 → s.vars.length + s.left ≤ 1048576 → Vars s.vars V VH → St M w0 ((b, rdr s V) :: (VH ++ H)) F w →
    Calls Tryz.prog 35 #[ptr b, .int .i64 (d : Nat)] w fun e w' => ∃ v V' VH', e = .returned (.agg #[.int .i64 (termM num d s).1.k, .int .i64 (termM num d s).1.n, sv (termM num d s).1.s, v]) ∧
      Vars (termM num d s).2.vars V' VH' ∧ St M w0 ((b, rdr (termM num d s).2 V') :: (VH' ++ H)) ((fun w => Sl w (fun _ => True) v (termM num d s).1.ar) :: F) w'
def TermsSaid (num : Str → Option Int) (G : World → Prop) (d : Nat) : Prop := ∀ (s : RS) (V : Value) (VH : List (Nat × Obj)) (M : List Nat) (w0 w : World) (H : List (Nat × Obj)) (F : List (World → Prop)) (b : Nat), (∀ w', Ext M w0 w' → G w') →
    s.left ≤ 1048576 → s.vars.length + s.left ≤ 1048576 → Vars s.vars V VH → St M w0 ((b, rdr s V) :: (VH ++ H)) F w →
    Calls Tryz.prog 24 #[ptr b, .int .i64 (d : Nat)] w fun e w' => ∃ v V' VH', e = .returned v ∧
      Vars (termsM (termM num d) s).2.vars V' VH' ∧ St M w0 ((b, rdr (termsM (termM num d) s).2 V') :: (VH' ++ H)) ((fun w => Sl w (fun _ => True) v (tsOf (termsM (termM num d) s).1)) :: F) w'
theorem var_left (s : RS) (x : Str) : (s.var x).2.left = s.left ∧ (s.var x).2.vars.length ≤ s.vars.length + 1 := by
  unfold RS.var RS.left
  split
  · simp
  · simp
theorem number_left (num : Str → Option Int) (s : RS) (x : Str) : (s.number num x).2.left ≤ s.left ∧ (s.number num x).2.vars = s.vars := by
  unfold RS.number
  split
  · simp
  · simp [RS.fail, RS.left]
theorem adv_vars (s : RS) : s.adv.vars = s.vars := by
  unfold RS.adv
  simp only
  split <;> rfl
theorem take_vars (s : RS) (t : Str) : (s.take t).vars = s.vars := by
  unfold RS.take
  split
  · exact adv_vars s
  · rw [adv_vars]; rfl
/-- Nothing comes back that was read; each variable costs a token. -/
def Less (f : RS → Nd × RS) : Prop := ∀ s, (f s).2.left ≤ s.left ∧ (f s).2.vars.length + (f s).2.left ≤ s.vars.length + s.left
theorem loop_less {f : RS → Nd × RS} (hf : Less f) : ∀ (n : Nat) (s : RS), (loopM f n s).2.left ≤ s.left ∧ (loopM f n s).2.vars.length + (loopM f n s).2.left ≤ s.vars.length + s.left
  | 0, s => by simp [loopM]
  | n + 1, s => by
    unfold loopM
    split
    · rename_i h
      have h1 := adv_lt s (by rw [h]; simp)
      have h2 := hf s.adv
      have h3 := loop_less hf n (f s.adv).2
      rw [adv_vars] at h2
      simp only
      omega
    · simp
theorem terms_less {f : RS → Nd × RS} (hf : Less f) (s : RS) : (termsM f s).2.left ≤ s.left ∧ (termsM f s).2.vars.length + (termsM f s).2.left ≤ s.vars.length + s.left := by
  unfold termsM
  have h2 := hf s
  have h3 := loop_less hf (f s).2.left (f s).2
  simp only
  omega
theorem term_less (num : Str → Option Int) : ∀ d, Less (termM num d)
  | 0, s => by simp [termM, RS.fail, RS.left]
  | d + 1, s => by
    unfold termM
    split
    · simp [RS.fail, RS.left]
    · rename_i ht
      have h1 := adv_lt s ht
      have hv := adv_vars s
      simp only
      split
      · have := var_left s.adv s.token
        rw [hv] at this
        simp only
        omega
      split
      · have h4 := take_left s.adv [40]
        have h5 := take_vars s.adv [40]
        have h6 := terms_less (term_less num d) (s.adv.take [40])
        have h7 := take_left (termsM (termM num d) (s.adv.take [40])).2 [41]
        have h8 := take_vars (termsM (termM num d) (s.adv.take [40])).2 [41]
        rw [h5, hv] at h6
        simp only
        rw [h8]
        omega
      split
      · simp only
        rw [hv]; omega
      split
      · have := number_left num s.adv s.token
        simp only
        rw [this.2, hv]
        omega
      · simp [RS.fail, RS.left, hv]

theorem loop_fuel {f : RS → Nd × RS} (hf : Less f) : ∀ (n : Nat) (s : RS), s.left ≤ n → loopM f n s = loopM f s.left s := by
  intro n
  induction n using Nat.strongRecOn with
  | _ n ih =>
    intro s hn
    by_cases ht : s.token = [44]
    · have h1 := adv_lt s (by rw [ht]; simp)
      have h2 := hf s.adv
      obtain ⟨m, rfl⟩ : ∃ m, n = m + 1 := ⟨n - 1, by omega⟩
      obtain ⟨l, hl⟩ : ∃ l, s.left = l + 1 := ⟨s.left - 1, by omega⟩
      rw [hl]
      simp only [loopM, if_pos ht]
      rw [ih m (by omega) (f s.adv).2 (by omega), ih l (by omega) (f s.adv).2 (by omega)]
    · have h0 : ∀ k, loopM f k s = ([], s) := fun k => by cases k <;> simp [loopM, ht]
      rw [h0, h0]
theorem loop_step {f : RS → Nd × RS} (hf : Less f) {s : RS} (ht : s.token = [44]) : loopM f s.left s = ((f s.adv).1 :: (loopM f (f s.adv).2.left (f s.adv).2).1, (loopM f (f s.adv).2.left (f s.adv).2).2) := by
  have h1 := adv_lt s (by rw [ht]; simp)
  have h2 := hf s.adv
  obtain ⟨l, hl⟩ : ∃ l, s.left = l + 1 := ⟨s.left - 1, by omega⟩
  rw [hl]
  simp only [loopM, if_pos ht]
  rw [loop_fuel hf l (f s.adv).2 (by omega)]
theorem loop_stop {f : RS → Nd × RS} {s : RS} (ht : ¬ s.token = [44]) : loopM f s.left s = ([], s) := by
  cases s.left <;> simp [loopM, ht]
theorem tsOf_app : ∀ (a b : List Nd), tsOf (a ++ b) = (tsOf a).app (tsOf b)
  | [], b => rfl
  | x :: a, b => by simp only [List.cons_append, tsOf, Ts.app, tsOf_app a b]
theorem tsOf_length : ∀ l : List Nd, (tsOf l).length = l.length
  | [] => rfl
  | x :: r => by simp [tsOf, Ts.length, tsOf_length r]
theorem St.conv {φ ψ : World → Prop} {w : World} (h : St M w0 H (φ :: F) w) (hp : ∀ w, φ w → ψ w) : St M w0 H (ψ :: F) w :=
  ⟨h.own, h.apart, h.ext, h.new, fun χ hχ w2 hw => by
    rcases List.mem_cons.1 hχ with rfl | hχ
    · exact hp _ (h.facts φ (List.mem_cons_self ..) w2 hw)
    · exact h.facts χ (List.mem_cons_of_mem _ hχ) w2 hw⟩
theorem St.conv2 {φ χ ψ : World → Prop} {w : World} (h : St M w0 H (φ :: χ :: F) w) (hp : ∀ w, φ w → χ w → ψ w) : St M w0 H (ψ :: F) w :=
  ⟨h.own, h.apart, h.ext, h.new, fun ξ hξ w2 hw => by
    rcases List.mem_cons.1 hξ with rfl | hξ
    · exact hp _ (h.facts φ (List.mem_cons_self ..) w2 hw) (h.facts χ (List.mem_cons_of_mem _ (List.mem_cons_self ..)) w2 hw)
    · exact h.facts ξ (List.mem_cons_of_mem _ (List.mem_cons_of_mem _ hξ)) w2 hw⟩
/-- A row of terms of the call's own, that is never turned again. -/
theorem St.shut {v : Value} {xs : List Value} {O : List (Nat × Obj)} {T : Ts} {w : World} {el : Nat} (hr : Row el 4 v T.length xs O) (hS : St M w0 (O ++ H) ((fun w => Cs w (fun _ => True) T xs) :: F) w) :
    St M w0 H ((fun w => Sl w (fun _ => True) v T) :: F) w := by
  have hC := hS.facts _ (List.mem_cons_self ..)
  have hb := (hS.unlearn.dropL).learn (φ := fun w => Sl w (fun _ => True) v T) fun w' hx => ?_
  · exact hb
  generalize hl : T.length = tl at hr
  cases hr with
  | nil_ => exact ⟨none, 0, by rw [hl], by omega, fun h => by omega⟩
  | own_ h1 h2 h3 hcp =>
    rename_i bl cap sp
    have hbl : w.heap[bl]? = some (.cells (xs ++ sp).toArray el) := hS.own (bl, _) (by simp)
    have hnk : bl ∉ H.map (·.1) := fun hk => by
      obtain ⟨q, hq, e⟩ := List.mem_map.1 hk
      exact (List.pairwise_cons.1 hS.apart).1 q hq e.symm
    have hbl' : w'.heap[bl]? = some (.cells (xs ++ sp).toArray el) := by rw [hx.block bl (own_lt hbl) hnk]; exact hbl
    have hcs := hC w' (hx.mono fun k _ hk => by simp at hk ⊢; exact .inr hk)
    refine ⟨_, cap, by rw [hl], by omega, fun _ => ⟨bl, 0, rfl, Cs.seg hcs (fun _ => trivial) fun j u hj => ?_⟩⟩
    have hjl : j < xs.length := by
      rcases Nat.lt_or_ge j xs.length with h | h
      · exact h
      · rw [List.getElem?_eq_none h] at hj; cases hj
    rw [cell_own hbl', Nat.zero_add, List.getElem?_append_left hjl]; exact hj

theorem terms_any (num : Str → Option Int) (G : World → Prop) (L1 : Lib1) (L2 : Lib2) (d : Nat) (hd : d ≤ 100) (ht : TermSaid num G d) : TermsSaid num G d := by
  intro s V VH M w0 w H F b hG hl hl2 hV hS
  have hf := term_less num d
  obtain ⟨A, c, rfl⟩ := hV.form
  refine goes_enter2 Tryz.func24 rfl Tryz.ntmps24 rfl ?_
  refine goes_seq ?_
  refine goes_region ?_
  refine lst_run (run_assign (by conv => lhs; whnf)) rfl ?_
  refine lst_done ?_
  refine goes_seq ?_
  refine goes_region ?_
  refine lst_run (run_move (by conv => lhs; whnf)) rfl ?_
  refine lst_run (run_move (by conv => lhs; whnf)) rfl ?_
  refine lst_enter (run_call (by kernel_rfl) (args_2 (by conv => lhs; whnf) (by conv => lhs; whnf))) rfl ?_
  refine Calls.mono (ht s _ VH M w0 _ H F b hG hl hl2 hV hS) ?_
  rintro _ w1 ⟨v, V1, VH1, rfl, hV1, hS'⟩
  refine ⟨_, rfl, ?_⟩
  replace hS := hS'
  clear hS'
  obtain ⟨A1, c1, rfl, _⟩ := (hS.fact (.head _)).form
  refine lst_buildSlice (cells := [_, _, _, _]) hS (.cons (by conv => lhs; whnf) .nil) rfl rfl ?_
  clear hS
  intro b1 wx1 hS
  refine lst_run (run_assign (by conv => lhs; whnf)) rfl ?_
  refine lst_done ?_
  refine goes_seq ?_
  refine goes_block ?_
  have hi : termsM (termM num d) s = ([(termM num d s).1] ++ (loopM (termM num d) (termM num d s).2.left (termM num d s).2).1, (loopM (termM num d) (termM num d s).2.left (termM num d s).2).2) := rfl
  have hles := hf s
  generalize hr : termM num d s = r at *
  obtain ⟨nd, s1⟩ := r
  have hS0 := (St.sink (L := (b, rdr s1 V1) :: VH1) hS).conv (ψ := fun w => Cs w (fun _ => True) (tsOf [nd]) [.int .i64 nd.k, .int .i64 nd.n, sv nd.s, .slice A1 nd.ar.length c1]) fun w h => ⟨_, [], rfl, h, rfl⟩
  clear hS
  have hi' : termsM (termM num d) s = ([nd] ++ (loopM (termM num d) s1.left s1).1, (loopM (termM num d) s1.left s1).2) := hi
  clear hi
  refine goes_loop1 5 (10 :: 11 :: 12 :: 13 :: 14 :: 15 :: 16 :: 17 :: 18 :: 19 :: 20 :: 21 :: 22 :: []) (fun (x : List Nd × RS) v w' => ∃ V VH O xs, Vars x.2.vars V VH ∧ Row 31 4 v x.1.length xs O ∧ St M w0 ((b, rdr x.2 V) :: (VH ++ (O ++ H))) ((fun w => Cs w (fun _ => True) (tsOf x.1) xs) :: F) w' ∧ x.1.length + x.2.left ≤ 1048577 ∧ x.2.left ≤ 1048576 ∧ x.2.vars.length + x.2.left ≤ 1048576 ∧ termsM (termM num d) s = (x.1 ++ (loopM (termM num d) x.2.left x.2).1, (loopM (termM num d) x.2.left x.2).2)) (fun x => x.2.left) (([nd], s1)) ?_ (by conv => lhs; whnf) ?_
  · exact ⟨V1, VH1, _, _, hV1, Row.built rfl (by omega), hS0, by simp at hles ⊢; omega, by simp at hles ⊢; omega, by simp at hles ⊢; omega, hi'⟩
  clear hS0 hi' hV1
  rintro ⟨D, s2⟩ v2 w2 jv ⟨V2, VH2, O2, xs2, hV2, hR2, hS, hD1, hD2, hD3, hi⟩ ih
  simp only at hV2 hR2 hS hD1 hD2 hD3 hi
  obtain ⟨A2, c2, rfl⟩ := hV2.form
  obtain ⟨Ao, co, rfl⟩ := hR2.form
  refine goes_seq ?_
  refine goes_seq ?_
  refine goes_region ?_
  refine lst_run (run_move (by conv => lhs; whnf)) rfl ?_
  refine lst_run (run_nilCheck rfl) rfl ?_
  refine lst_run (run_fieldAddr (off := 0) rfl rfl) rfl ?_
  first
    | refine lst_run (run_load1_own hS rfl rfl (by first | exact .head | exact .tail .head | exact .tail (.tail .head) | exact .tail (.tail (.tail .head)) | exact .tail (.tail (.tail (.tail .head))) | exact .tail (.tail (.tail (.tail (.tail .head))))) (by repeat constructor)) rfl ?_
    | refine lst_run (run_load1 rfl rfl (by first | assumption | exact hS.cell0 (by assumption) | exact lv_next hS | exact lv_list hS)) rfl ?_
  first
    | refine lst_run (run_eql_str rfl rfl) rfl ?_
    | refine lst_run (rfl) rfl ?_
  refine lst_done ?_
  refine goes_if rfl (fun h => ?_) (fun h => ?_)
  · have h' : s2.token = [44] := by simpa using h
    have hlt := adv_lt s2 (by rw [h']; simp)
    have hrest : s2.rest.length ≤ 1048576 := by unfold RS.left at hD2; omega
    have hv := adv_vars s2
    refine goes_skip ?_
    refine goes_block ?_
    refine goes_seq ?_
    refine goes_region ?_
    refine lst_run (run_move (by conv => lhs; whnf)) rfl ?_
    refine lst_enter (run_call (by kernel_rfl) (args_1 (by conv => lhs; whnf))) rfl ?_
    refine Calls.mono (adv_any L1 L2 s2 _ hrest hS) ?_
    rintro _ w3 ⟨rfl, hS'⟩
    refine ⟨_, rfl, ?_⟩
    replace hS := hS'
    clear hS'
    refine lst_done ?_
    refine goes_region ?_
    refine lst_run (run_move (by conv => lhs; whnf)) rfl ?_
    refine lst_run (run_move (by conv => lhs; whnf)) rfl ?_
    refine lst_run (run_move (by conv => lhs; whnf)) rfl ?_
    refine lst_enter (run_call (by kernel_rfl) (args_2 (by conv => lhs; whnf) (by conv => lhs; whnf))) rfl ?_
    refine Calls.mono (ht s2.adv _ VH2 M w0 _ (O2 ++ H) _ b hG (by omega) (by rw [hv]; omega) (by rw [hv]; exact hV2) hS) ?_
    rintro _ w4 ⟨v, V3, VH3, rfl, hV3, hS'⟩
    refine ⟨_, rfl, ?_⟩
    replace hS := hS'
    clear hS'
    obtain ⟨A3, c3, rfl, _⟩ := (hS.fact (.head _)).form
    have hst := loop_step hf h'
    have hles3 := hf s2.adv
    rw [hv] at hles3
    generalize termM num d s2.adv = r3 at *
    obtain ⟨nd3, s3⟩ := r3
    simp only at *
    refine lst_buildSlice (cells := [_, _, _, _]) hS (.cons (by conv => lhs; whnf) .nil) rfl rfl ?_
    clear hS
    intro b2 wx2 hS
    refine lst_app (sz := 4) (bts := 56) hS (by conv => lhs; whnf) rfl rfl rfl rfl (hR2) rfl rfl (.cons _ (List.perm_append_comm_assoc (_ :: VH3) O2 H)) (by omega) (by omega) rfl ?_
    clear hS
    intro v4 O4 w5 hR4 hS
    replace hS := (hS.perm (List.perm_append_comm_assoc O4 ((b, rdr s3 V3) :: VH3) H)).conv2 (ψ := fun w => Cs w (fun _ => True) (tsOf (D ++ [nd3])) (xs2 ++ [.int .i64 nd3.k, .int .i64 nd3.n, sv nd3.s, .slice A3 nd3.ar.length c3])) fun w h1 h2 => by
      rw [tsOf_app]; exact Cs.app h2 ⟨_, [], rfl, h1, rfl⟩
    obtain ⟨A4, c4, rfl⟩ := hR4.form
    refine lst_run (run_assign (by conv => lhs; whnf)) rfl ?_
    refine lst_done ?_
    refine goes_inBlock ?_
    refine ih ((D ++ [nd3], s3)) _ _ _ ?_ ?_ (by conv => lhs; whnf) (by kernel_rfl)
    · simp only; omega
    · refine ⟨V3, VH3, O4, _, hV3, ?_, hS, ?_, ?_, ?_, ?_⟩
      · simp only [List.length_append, List.length_cons, List.length_nil]; exact hR4
      · simp only [List.length_append, List.length_cons, List.length_nil]; omega
      · simp only; omega
      · simp only; omega
      · simp only; rw [hi, hst]; simp
  · have h' : ¬ s2.token = [44] := by simpa using h
    rw [loop_stop h', List.append_nil] at hi
    simp only at hi
    refine goes_exit rfl ?_
    refine goes_seq ?_
    refine goes_region ?_
    refine lst_run (run_move (by conv => lhs; whnf)) rfl ?_
    refine lst_run (run_assign (by conv => lhs; whnf)) rfl ?_
    refine lst_done ?_
    refine goes_ret1 Tryz.func24 rfl (by conv => lhs; whnf) ?_
    rw [hi]
    refine ⟨_, _, VH2, rfl, hV2, ?_⟩
    have hS2 := hS.perm (List.perm_append_comm_assoc ((b, rdr s2 (.slice A2 s2.vars.length c2)) :: VH2) O2 H)
    rw [← tsOf_length D] at hR2
    rw [← tsOf_length D]
    exact St.shut hR2 hS2
end
end Go.Proofs.YtdiophafmokfiaaGreatDoor
