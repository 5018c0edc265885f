/-
  The document's own UnifyAt, walked.
-/
import Derived.Test.YtjicoifjgokoiabG6
import Derived.Test.YtjicoifjgokoiabG8
import Derived.Test.YtjicoifjgokoiabG5
namespace Go.Proofs.Ytjicoifjgokoiab
open Go.RowKit
set_option linter.unusedVariables false
set_option linter.unusedSimpArgs false
set_option maxRecDepth 100000
set_option maxHeartbeats 2000000

section
variable {P : Program} {n : Nat} {e : Env} {w : World} {ty : TypeId} {pos : String} {after : Array Edge} {x y : Operand} {dst : Option Nat} {t : TypeId} {b o : Nat}
def isArrP (P : Program) (t : TypeId) : Option (Nat × TypeId) := match P.underlying t with | some (.array n el) => some (n, el) | _ => none
theorem run_indexArr {el sz len : Nat} {i : Int} (hx : ev n e x = .pointer (some ⟨b, o, none⟩)) (hy : ev n e y = .int .i64 i) (hT : isArrP P t = some (len, el)) (hs : cellsP P el = some sz) (h0 : 0 ≤ i) (h1 : i < len) :
    (execOp (ev n e) ⟨dst, .indexAddr t x y, ty, pos, after, none⟩).run P w = .ok (.value (.pointer (some ⟨b, o + i.toNat * sz, none⟩))) w := by
  have hu : P.underlying t = some (.array len el) := by
    unfold isArrP at hT
    split at hT
    · rename_i h; simp only [Option.some.injEq, Prod.mk.injEq] at hT; rw [h, hT.1, hT.2]
    · cases hT
  have h2 := run_underlying hu w
  have h3 := run_sizeP (w := w) hs
  simp only [execOp, Instr.indexAt, Instr.sureAddr, hx, hy, asIntOf, bind, pure, Sem.bind]
  rw [Sem.run_bind', Sem.run_bind', h2]
  simp only [Result.andThen_ok, Sem.bind]
  rw [Sem.run_bind', h2]
  simp only [Result.andThen_ok, if_pos (And.intro h0 h1)]
  rw [Sem.run_bind', h3]
  simp only [Result.andThen_ok, addrPlus, Sem.run]
end
section
variable {P : Program} {n : Nat} {e : Env} {w : World} {ty : TypeId} {pos : String} {after : Array Edge} {dst : Option Nat} {t : TypeId}
def buildA (P : Program) (t : TypeId) (pl : List (Nat × Value)) : Option (List Value) := match P.underlying t with
  | some (.array _ el) => match zeroP P t, cellsP P el with
    | some z, some s => fillL (fun i => some (i * s, s)) z.cells.toList pl
    | _, _ => none
  | _ => none
theorem run_buildA {parts : List (Nat × Operand)} {pl : List (Nat × Value)} {cells : List Value} (hp : Parts n e parts pl) (h : buildA P t pl = some cells) :
    (execOp (ev n e) ⟨dst, .build t parts.toArray, ty, pos, after, none⟩).run P w = .ok (.value (.agg cells.toArray)) w := by
  rw [← hp.eq] at h
  unfold buildA at h
  split at h
  · rename_i len el hu
    split at h
    · rename_i z s hz hl
      have h1 := run_zeroP (w := w) hz
      have h2 := run_underlying hu w
      have h3 := run_sizeP (w := w) hl
      have h4 := fill_eq _ _ _ h
      simp only [execOp, Instr.build, bind, pure, List.map_toArray]
      rw [Sem.run_bind', Sem.run_bind', h1]
      simp only [Result.andThen_ok]
      rw [Sem.run_bind', h2]
      simp only [Result.andThen_ok]
      rw [Sem.run_bind', h3]
      simp only [Result.andThen_ok]
      simp only [Array.toArray_toList] at h4
      simp [h4, Sem.run]
    · cases h
  · cases h
end
def prs : List (Int × Int) → List Value
  | [] => []
  | p :: r => .int .i64 p.1 :: .int .i64 p.2 :: prs r
theorem prs_len : ∀ L : List (Int × Int), (prs L).length = L.length * 2
  | [] => rfl
  | p :: r => by simp only [prs, List.length_cons, prs_len r]; omega
theorem prs_app : ∀ L R : List (Int × Int), prs (L ++ R) = prs L ++ prs R
  | [], R => rfl
  | p :: r, R => by simp only [prs, List.cons_append, prs_app r R]
theorem prs_one : ∀ L : List (Int × Int), (prs L).all (·.oneCell') = true
  | [] => rfl
  | p :: r => by simp only [prs, List.all_cons, prs_one r]; rfl
/-- The first elements of a row. -/
theorem Rw.cut {el sz len cap k : Nat} {A : Option Addr} {xs ys : List Value} {O : List (Nat × Obj)} (h : Rw el sz (.slice A (len + k) cap) (len + k) (xs ++ ys) O) (hx : xs.length = len * sz) (hk : 0 < k) : Rw el sz (.slice A len cap) len xs O := by
  generalize hz : xs ++ ys = zs at h
  generalize hn : len + k = m at h
  cases h with
  | zero_ => omega
  | own_ hx2 hc hle hcp =>
    rename_i b sp
    subst hz
    rw [List.append_assoc] at hc ⊢
    exact Rw.own_ hx hc (by omega) hcp
theorem permC {α : Type} (L O O2 H : List α) : (L ++ (O ++ (O2 ++ H))).Perm (O2 ++ (L ++ (O ++ H))) :=
  (List.Perm.append_left L (List.perm_append_comm_assoc O O2 H)).trans (List.perm_append_comm_assoc L O2 _)
def RB (M : List Nat) (w0 : World) (H : List (Nat × Obj)) (F : List (World → Prop)) (ob g c : Nat) (sp : List Value) (u : HU) (w : World) : Prop :=
  ∃ (B : Option Addr) (d : Nat) (O : List (Nat × Obj)), Rw 3 1 (.slice B u.tr.length d) u.tr.length (intsV u.tr) O ∧ St M w0 ((ob, hob (some ⟨g, 0, none⟩) u.cs.length c B u.tr.length d) :: (g, cob u.cs sp) :: (O ++ H)) F w
section
variable {M : List Nat} {w0 : World} {H : List (Nat × Obj)} {F : List (World → Prop)} {ob g c : Nat} {sp : List Value}
theorem rbind_any (u : HU) (a x : Int) (y : HC) (w : World) (hy : hat u.cs a = some y) (ht : u.tr.length ≤ 1000000) (hs : RB M w0 H F ob g c sp u w) :
    Calls Try.prog 43 #[.int .i64 a, .int .i64 x, ptr ob] w fun e w' => e = .returned (.tuple #[]) ∧ RB M w0 H F ob g c sp (u.bind a x) w' := by
  obtain ⟨B, d, O, hrow, hS⟩ := hs
  obtain ⟨h0, h1, hg⟩ := hatS.1 hy
  have hput := hcsL_put u.cs sp a.toNat x (by omega)
  refine goes_enter3 Try.func43 rfl Try.ntmps43 rfl ?_
  refine goes_seq ?_
  refine goes_region ?_
  refine lst_run (run_fieldAddr (off := 0) rfl rfl) rfl ?_
  first
    | refine lst_run (run_load1_own hS rfl rfl (by first | exact .head | exact .tail .head | exact .tail (.tail .head) | exact .tail (.tail (.tail .head)) | exact .tail (.tail (.tail (.tail .head))) | exact .tail (.tail (.tail (.tail (.tail .head))))) (by repeat constructor)) rfl ?_
    | refine lst_run (run_load1 rfl rfl (by first | assumption | exact hS.cell0 (by assumption) | exact lv_next hS | exact lv_list hS)) rfl ?_
  refine lst_run (run_move (by conv => lhs; whnf)) rfl ?_
  refine lst_run (run_move (by conv => lhs; whnf)) rfl ?_
  refine lst_run (run_indexAddr (sz := 3) rfl rfl rfl rfl (by omega) (by omega)) rfl ?_
  refine lst_run (run_fieldAddr (off := 1) rfl rfl) rfl ?_
  refine lst_store1 hS rfl (by conv => lhs; whnf) rfl rfl (.tail .head) (by rw [Nat.zero_add]; exact hput) (.tail .head) ?_
  clear hS
  intro w6 hS
  refine lst_done ?_
  refine goes_region ?_
  refine lst_run (run_fieldAddr (off := 1) rfl rfl) rfl ?_
  first
    | refine lst_run (run_load1_own hS rfl rfl (by first | exact .head | exact .tail .head | exact .tail (.tail .head) | exact .tail (.tail (.tail .head)) | exact .tail (.tail (.tail (.tail .head))) | exact .tail (.tail (.tail (.tail (.tail .head))))) (by repeat constructor)) rfl ?_
    | refine lst_run (run_load1 rfl rfl (by first | assumption | exact hS.cell0 (by assumption) | exact lv_next hS | exact lv_list hS)) rfl ?_
  refine lst_run (run_move (by conv => lhs; whnf)) rfl ?_
  refine lst_buildSlice (cells := [_]) hS (.cons (by conv => lhs; whnf) .nil) rfl rfl ?_
  clear hS
  intro b1 wx1 hS
  refine lst_appI (L := [a]) hS (by conv => lhs; whnf) (by rfl) rfl rfl rfl (Flat.own (sp := []) (hS.own (_, _) (.head _)) rfl (Nat.le_refl _)) hrow (List.perm_append_comm_assoc [_, _, _] O _) (by simp; omega) rfl ?_
  clear hS
  intro v7 O7 w7 hrow7 hS
  obtain ⟨B7, d7, rfl, _⟩ := hrow7.form
  replace hS := hS.perm (List.perm_append_comm_assoc O7 [_, _, _] _)
  refine lst_run (run_fieldAddr (off := 1) rfl rfl) rfl ?_
  refine lst_store1 hS rfl (by conv => lhs; whnf) rfl rfl (by first | exact .head | exact .tail .head | exact .tail (.tail .head) | exact .tail (.tail (.tail .head)) | exact .tail (.tail (.tail (.tail .head))) | exact .tail (.tail (.tail (.tail (.tail .head))))) (by repeat constructor) (by first | exact .head | exact .tail .head | exact .tail (.tail .head) | exact .tail (.tail (.tail .head)) | exact .tail (.tail (.tail (.tail .head))) | exact .tail (.tail (.tail (.tail (.tail .head))))) ?_
  clear hS
  intro wx2 hS
  refine lst_done ?_
  refine goes_end0 Try.func43 rfl ?_
  refine ⟨rfl, B7, d7, O7, ?_, ?_⟩
  · show Rw _ _ (.slice B7 (u.tr ++ [a]).length d7) (u.tr ++ [a]).length (intsV (u.tr ++ [a])) _
    rw [List.length_append, show intsV (u.tr ++ [a]) = intsV u.tr ++ intsV [a] by simp [intsV]]; exact hrow7
  · show St M w0 ((ob, hob (some ⟨g, 0, none⟩) (setN u.cs a.toNat x).length c B7 (u.tr ++ [a]).length d7) :: (g, cob (setN u.cs a.toNat x) sp) :: (O7 ++ H)) F _
    rw [List.length_append, setN_len]; exact hS.drop
/-- append(s, p), of a pair that lies there. -/
theorem lst_appP {P : Program} {n : Nat} {e : Env} {w : World} {Q : Exit → Act → World → Prop} {ops : Array Oper} {rest : List Oper} {ty : TypeId} {pos : String} {after : Array Edge} {d : Nat} {H' : List (Nat × Obj)} {x y : Operand} {v : Value} {t tx : TypeId} {el len c : Nat} {A : Option Addr} {p : Int × Int} {xs : List Value} {O : List (Nat × Obj)} (hS : St M w0 H F w) (hx : ev n e x = v) (hy : ev n e y = .slice A 1 c)
    (hT : isSliceP P t = some el) (hTx : isSliceP P tx = some el) (hi : rowP P el = some (2, 16)) (hL : Flat 2 (prs [p]) A 1 c w) (hrow : Rw el 2 v len xs O)
    (hP : H.Perm (O ++ H')) (hbig : len + 1 ≤ 1099511627776) (hd : Nat.blt d n = true)
    (h : ∀ v' O' w', Rw el 2 v' (len + 1) (xs ++ prs [p]) O' → St M w0 (O' ++ H') F w' → Lst P Q ops rest n ((d, v') :: e) w') :
    Lst P Q ops (⟨some d, .call ⟨.builtin .append, #[x, y], #[t, tx]⟩, ty, pos, after, none⟩ :: rest) n e w := by
  obtain ⟨i, z, h2, h3, h4, h5, h6⟩ := rowP_some hi
  refine lst_appendRw (k := 1) (ys := prs [p]) hS hx hy hT hTx h2 h3 h4 (by rw [h5]; rfl) (by rw [h5]; exact hL.src hTx rfl) (by rw [h5]; exact hrow) hP (by rw [h6]; omega) (by omega) hd ?_
  rw [h5]; exact h
theorem unifyAt_any (h : HH) (a b : Int) (A B : Option Addr) (c d : Nat) (w : World) (hH : Und F (HFl h A c B d)) (hS : St M w0 H F w) :
    Calls Try.prog 13 #[hv h A c B d, .int .i64 a, .int .i64 b] w (HRes M w0 H F (unifyH h a b).1 fun A' c' B' d' e => e = .returned (.tuple #[hv (unifyH h a b).1 A' c' B' d', .bool (unifyH h a b).2.1, .int .i64 (unifyH h a b).2.2])) := by
  refine goes_enter3 Try.func13 rfl Try.ntmps13 rfl ?_
  refine goes_seq ?_
  refine goes_region ?_
  refine lst_box hS rfl rfl ?_
  clear hS
  intro b1 wx1 hS
  refine lst_alloc (cs := [_, _]) hS rfl rfl rfl ?_
  clear hS
  intro b2 wx2 hS
  refine lst_run (run_assign (by conv => lhs; whnf)) rfl ?_
  refine lst_run (run_assign (by conv => lhs; whnf)) rfl ?_
  refine lst_done ?_
  refine goes_seq ?_
  refine goes_seq ?_
  refine goes_region ?_
  first
    | refine lst_run (run_loadN_own (k := 2) hS rfl rfl rfl (by first | exact .head | exact .tail .head | exact .tail (.tail .head) | exact .tail (.tail (.tail .head)) | exact .tail (.tail (.tail (.tail .head))) | exact .tail (.tail (.tail (.tail (.tail .head))))) (by repeat constructor)) rfl ?_
    | refine lst_run (run_load2 rfl rfl rfl (by first | assumption | exact hS.cell0 (by assumption)) (by first | assumption | exact hS.cell0 (by assumption))) rfl ?_
  refine lst_enter (run_call (by kernel_rfl) (args_1 (by conv => lhs; whnf))) rfl ?_
  refine Calls.mono (isHeap_any h A B c d _ (hS.und hH)) ?_
  rintro _ w2 ⟨rfl, hb2⟩
  refine ⟨_, rfl, ?_⟩
  replace hS := hS.grow hb2
  cases hg : goodH h with
  | false =>
    have e0 : unifyH h a b = (h, false, 1) := by unfold unifyH; rw [if_pos hg]
    rw [e0]
    refine lst_run (rfl) rfl ?_
    refine lst_done ?_
    refine goes_true rfl ?_
    refine goes_seq ?_
    refine goes_region ?_
    first
      | refine lst_run (run_loadN_own (k := 2) hS rfl rfl rfl (by first | exact .head | exact .tail .head | exact .tail (.tail .head) | exact .tail (.tail (.tail .head)) | exact .tail (.tail (.tail (.tail .head))) | exact .tail (.tail (.tail (.tail (.tail .head))))) (by repeat constructor)) rfl ?_
      | refine lst_run (run_load2 rfl rfl rfl (by first | assumption | exact hS.cell0 (by assumption)) (by first | assumption | exact hS.cell0 (by assumption))) rfl ?_
    refine lst_storeN hS rfl (by conv => lhs; whnf) rfl rfl (by first | exact .head | exact .tail .head | exact .tail (.tail .head) | exact .tail (.tail (.tail .head)) | exact .tail (.tail (.tail (.tail .head))) | exact .tail (.tail (.tail (.tail (.tail .head))))) (by repeat constructor) (by first | exact .head | exact .tail .head | exact .tail (.tail .head) | exact .tail (.tail (.tail .head)) | exact .tail (.tail (.tail (.tail .head))) | exact .tail (.tail (.tail (.tail (.tail .head))))) ?_
    clear hS
    intro wx3 hS
    refine lst_run (run_assign (by conv => lhs; whnf)) rfl ?_
    refine lst_run (run_assign (by conv => lhs; whnf)) rfl ?_
    refine lst_done ?_
    refine goes_retC3 (sz := 2) hS Try.func13 rfl rfl (by conv => lhs; whnf) (by conv => lhs; whnf) rfl rfl (by first | exact .head | exact .tail .head | exact .tail (.tail .head) | exact .tail (.tail (.tail .head)) | exact .tail (.tail (.tail (.tail .head))) | exact .tail (.tail (.tail (.tail (.tail .head))))) (by repeat constructor) ?_
    exact ⟨A, c, B, d, F, rfl, fun _ h => h, hH, hS.drop.drop⟩
  | true =>
  obtain ⟨hl1, hl2⟩ := good_len hg
  have hnone : ¬ (0 ≤ a ∧ 0 ≤ b ∧ a < h.cs.length ∧ b < h.cs.length) → unifyH h a b = (h, false, 4) := fun hq => by
    unfold unifyH; rw [if_neg (by rw [hg]; decide), if_pos (by unfold isAddr; simp; omega)]
  by_cases ha0 : a < 0
  · rw [hnone (by omega)]
    refine lst_run (rfl) rfl ?_
    refine lst_done ?_
    refine goes_false rfl ?_
    refine goes_skip ?_
    refine goes_seq ?_
    refine goes_seq ?_
    refine goes_region ?_
    refine lst_run (run_move (by conv => lhs; whnf)) rfl ?_
    first
      | refine lst_run (run_lss_yes rfl rfl (by omega)) rfl ?_
      | refine lst_run (run_lss_no rfl rfl (by omega)) rfl ?_
      | refine lst_run (rfl) rfl ?_
    refine lst_run (run_move (by conv => lhs; whnf)) rfl ?_
    refine lst_pass rfl rfl rfl ?_
    refine lst_pass rfl rfl rfl ?_
    first
      | refine lst_run (run_pick_t rfl (by conv => lhs; whnf)) rfl ?_
      | refine lst_run (run_pick_f rfl (by conv => lhs; whnf)) rfl ?_
    refine lst_run (run_move (by conv => lhs; whnf)) rfl ?_
    refine lst_pass rfl rfl rfl ?_
    refine lst_pass rfl rfl rfl ?_
    refine lst_pass rfl rfl rfl ?_
    refine lst_pass rfl rfl rfl ?_
    refine lst_pass rfl rfl rfl ?_
    first
      | refine lst_run (run_pick_t rfl (by conv => lhs; whnf)) rfl ?_
      | refine lst_run (run_pick_f rfl (by conv => lhs; whnf)) rfl ?_
    refine lst_run (run_move (by conv => lhs; whnf)) rfl ?_
    refine lst_pass rfl rfl rfl ?_
    refine lst_pass rfl rfl rfl ?_
    refine lst_pass rfl rfl rfl ?_
    refine lst_pass rfl rfl rfl ?_
    refine lst_pass rfl rfl rfl ?_
    first
      | refine lst_run (run_pick_t rfl (by conv => lhs; whnf)) rfl ?_
      | refine lst_run (run_pick_f rfl (by conv => lhs; whnf)) rfl ?_
    refine lst_done ?_
    refine goes_true rfl ?_
    refine goes_seq ?_
    refine goes_region ?_
    first
      | refine lst_run (run_loadN_own (k := 2) hS rfl rfl rfl (by first | exact .head | exact .tail .head | exact .tail (.tail .head) | exact .tail (.tail (.tail .head)) | exact .tail (.tail (.tail (.tail .head))) | exact .tail (.tail (.tail (.tail (.tail .head))))) (by repeat constructor)) rfl ?_
      | refine lst_run (run_load2 rfl rfl rfl (by first | assumption | exact hS.cell0 (by assumption)) (by first | assumption | exact hS.cell0 (by assumption))) rfl ?_
    refine lst_storeN hS rfl (by conv => lhs; whnf) rfl rfl (by first | exact .head | exact .tail .head | exact .tail (.tail .head) | exact .tail (.tail (.tail .head)) | exact .tail (.tail (.tail (.tail .head))) | exact .tail (.tail (.tail (.tail (.tail .head))))) (by repeat constructor) (by first | exact .head | exact .tail .head | exact .tail (.tail .head) | exact .tail (.tail (.tail .head)) | exact .tail (.tail (.tail (.tail .head))) | exact .tail (.tail (.tail (.tail (.tail .head))))) ?_
    clear hS
    intro wx3 hS
    refine lst_run (run_assign (by conv => lhs; whnf)) rfl ?_
    refine lst_run (run_assign (by conv => lhs; whnf)) rfl ?_
    refine lst_done ?_
    refine goes_retC3 (sz := 2) hS Try.func13 rfl rfl (by conv => lhs; whnf) (by conv => lhs; whnf) rfl rfl (by first | exact .head | exact .tail .head | exact .tail (.tail .head) | exact .tail (.tail (.tail .head)) | exact .tail (.tail (.tail (.tail .head))) | exact .tail (.tail (.tail (.tail (.tail .head))))) (by repeat constructor) ?_
    exact ⟨A, c, B, d, F, rfl, fun _ h => h, hH, hS.drop.drop⟩
  by_cases hb0 : b < 0
  · rw [hnone (by omega)]
    refine lst_run (rfl) rfl ?_
    refine lst_done ?_
    refine goes_false rfl ?_
    refine goes_skip ?_
    refine goes_seq ?_
    refine goes_seq ?_
    refine goes_region ?_
    refine lst_run (run_move (by conv => lhs; whnf)) rfl ?_
    first
      | refine lst_run (run_lss_yes rfl rfl (by omega)) rfl ?_
      | refine lst_run (run_lss_no rfl rfl (by omega)) rfl ?_
      | refine lst_run (rfl) rfl ?_
    refine lst_run (run_move (by conv => lhs; whnf)) rfl ?_
    refine lst_guard rfl rfl ?_
    refine lst_run (run_move (by conv => lhs; whnf)) rfl ?_
    refine lst_guard rfl rfl ?_
    first
      | refine lst_run (run_lss_yes rfl rfl (by omega)) rfl ?_
      | refine lst_run (run_lss_no rfl rfl (by omega)) rfl ?_
      | refine lst_run (rfl) rfl ?_
    first
      | refine lst_run (run_pick_t rfl (by conv => lhs; whnf)) rfl ?_
      | refine lst_run (run_pick_f rfl (by conv => lhs; whnf)) rfl ?_
    refine lst_run (run_move (by conv => lhs; whnf)) rfl ?_
    refine lst_pass rfl rfl rfl ?_
    refine lst_pass rfl rfl rfl ?_
    refine lst_pass rfl rfl rfl ?_
    refine lst_pass rfl rfl rfl ?_
    refine lst_pass rfl rfl rfl ?_
    first
      | refine lst_run (run_pick_t rfl (by conv => lhs; whnf)) rfl ?_
      | refine lst_run (run_pick_f rfl (by conv => lhs; whnf)) rfl ?_
    refine lst_run (run_move (by conv => lhs; whnf)) rfl ?_
    refine lst_pass rfl rfl rfl ?_
    refine lst_pass rfl rfl rfl ?_
    refine lst_pass rfl rfl rfl ?_
    refine lst_pass rfl rfl rfl ?_
    refine lst_pass rfl rfl rfl ?_
    first
      | refine lst_run (run_pick_t rfl (by conv => lhs; whnf)) rfl ?_
      | refine lst_run (run_pick_f rfl (by conv => lhs; whnf)) rfl ?_
    refine lst_done ?_
    refine goes_true rfl ?_
    refine goes_seq ?_
    refine goes_region ?_
    first
      | refine lst_run (run_loadN_own (k := 2) hS rfl rfl rfl (by first | exact .head | exact .tail .head | exact .tail (.tail .head) | exact .tail (.tail (.tail .head)) | exact .tail (.tail (.tail (.tail .head))) | exact .tail (.tail (.tail (.tail (.tail .head))))) (by repeat constructor)) rfl ?_
      | refine lst_run (run_load2 rfl rfl rfl (by first | assumption | exact hS.cell0 (by assumption)) (by first | assumption | exact hS.cell0 (by assumption))) rfl ?_
    refine lst_storeN hS rfl (by conv => lhs; whnf) rfl rfl (by first | exact .head | exact .tail .head | exact .tail (.tail .head) | exact .tail (.tail (.tail .head)) | exact .tail (.tail (.tail (.tail .head))) | exact .tail (.tail (.tail (.tail (.tail .head))))) (by repeat constructor) (by first | exact .head | exact .tail .head | exact .tail (.tail .head) | exact .tail (.tail (.tail .head)) | exact .tail (.tail (.tail (.tail .head))) | exact .tail (.tail (.tail (.tail (.tail .head))))) ?_
    clear hS
    intro wx3 hS
    refine lst_run (run_assign (by conv => lhs; whnf)) rfl ?_
    refine lst_run (run_assign (by conv => lhs; whnf)) rfl ?_
    refine lst_done ?_
    refine goes_retC3 (sz := 2) hS Try.func13 rfl rfl (by conv => lhs; whnf) (by conv => lhs; whnf) rfl rfl (by first | exact .head | exact .tail .head | exact .tail (.tail .head) | exact .tail (.tail (.tail .head)) | exact .tail (.tail (.tail (.tail .head))) | exact .tail (.tail (.tail (.tail (.tail .head))))) (by repeat constructor) ?_
    exact ⟨A, c, B, d, F, rfl, fun _ h => h, hH, hS.drop.drop⟩
  by_cases ha1 : (h.cs.length : Int) ≤ a
  · rw [hnone (by omega)]
    refine lst_run (rfl) rfl ?_
    refine lst_done ?_
    refine goes_false rfl ?_
    refine goes_skip ?_
    refine goes_seq ?_
    refine goes_seq ?_
    refine goes_region ?_
    refine lst_run (run_move (by conv => lhs; whnf)) rfl ?_
    first
      | refine lst_run (run_lss_yes rfl rfl (by omega)) rfl ?_
      | refine lst_run (run_lss_no rfl rfl (by omega)) rfl ?_
      | refine lst_run (rfl) rfl ?_
    refine lst_run (run_move (by conv => lhs; whnf)) rfl ?_
    refine lst_guard rfl rfl ?_
    refine lst_run (run_move (by conv => lhs; whnf)) rfl ?_
    refine lst_guard rfl rfl ?_
    first
      | refine lst_run (run_lss_yes rfl rfl (by omega)) rfl ?_
      | refine lst_run (run_lss_no rfl rfl (by omega)) rfl ?_
      | refine lst_run (rfl) rfl ?_
    first
      | refine lst_run (run_pick_t rfl (by conv => lhs; whnf)) rfl ?_
      | refine lst_run (run_pick_f rfl (by conv => lhs; whnf)) rfl ?_
    refine lst_run (run_move (by conv => lhs; whnf)) rfl ?_
    refine lst_guard rfl rfl ?_
    refine lst_run (run_move (by conv => lhs; whnf)) rfl ?_
    refine lst_guard rfl rfl ?_
    refine lst_run (run_fieldAddr (off := 0) rfl rfl) rfl ?_
    refine lst_guard rfl rfl ?_
    first
      | refine lst_run (run_load1_own hS rfl rfl (by first | exact .head | exact .tail .head | exact .tail (.tail .head) | exact .tail (.tail (.tail .head)) | exact .tail (.tail (.tail (.tail .head))) | exact .tail (.tail (.tail (.tail (.tail .head))))) (by repeat constructor)) rfl ?_
      | refine lst_run (run_load1 rfl rfl (by first | assumption | exact hS.cell0 (by assumption) | exact lv_next hS | exact lv_list hS)) rfl ?_
    refine lst_guard rfl rfl ?_
    refine lst_run (run_len_slice rfl rfl rfl) rfl ?_
    refine lst_guard rfl rfl ?_
    first
      | refine lst_run (run_geq_yes rfl rfl (by omega)) rfl ?_
      | refine lst_run (run_geq_no rfl rfl (by omega)) rfl ?_
      | refine lst_run (rfl) rfl ?_
    first
      | refine lst_run (run_pick_t rfl (by conv => lhs; whnf)) rfl ?_
      | refine lst_run (run_pick_f rfl (by conv => lhs; whnf)) rfl ?_
    refine lst_run (run_move (by conv => lhs; whnf)) rfl ?_
    refine lst_pass rfl rfl rfl ?_
    refine lst_pass rfl rfl rfl ?_
    refine lst_pass rfl rfl rfl ?_
    refine lst_pass rfl rfl rfl ?_
    refine lst_pass rfl rfl rfl ?_
    first
      | refine lst_run (run_pick_t rfl (by conv => lhs; whnf)) rfl ?_
      | refine lst_run (run_pick_f rfl (by conv => lhs; whnf)) rfl ?_
    refine lst_done ?_
    refine goes_true rfl ?_
    refine goes_seq ?_
    refine goes_region ?_
    first
      | refine lst_run (run_loadN_own (k := 2) hS rfl rfl rfl (by first | exact .head | exact .tail .head | exact .tail (.tail .head) | exact .tail (.tail (.tail .head)) | exact .tail (.tail (.tail (.tail .head))) | exact .tail (.tail (.tail (.tail (.tail .head))))) (by repeat constructor)) rfl ?_
      | refine lst_run (run_load2 rfl rfl rfl (by first | assumption | exact hS.cell0 (by assumption)) (by first | assumption | exact hS.cell0 (by assumption))) rfl ?_
    refine lst_storeN hS rfl (by conv => lhs; whnf) rfl rfl (by first | exact .head | exact .tail .head | exact .tail (.tail .head) | exact .tail (.tail (.tail .head)) | exact .tail (.tail (.tail (.tail .head))) | exact .tail (.tail (.tail (.tail (.tail .head))))) (by repeat constructor) (by first | exact .head | exact .tail .head | exact .tail (.tail .head) | exact .tail (.tail (.tail .head)) | exact .tail (.tail (.tail (.tail .head))) | exact .tail (.tail (.tail (.tail (.tail .head))))) ?_
    clear hS
    intro wx3 hS
    refine lst_run (run_assign (by conv => lhs; whnf)) rfl ?_
    refine lst_run (run_assign (by conv => lhs; whnf)) rfl ?_
    refine lst_done ?_
    refine goes_retC3 (sz := 2) hS Try.func13 rfl rfl (by conv => lhs; whnf) (by conv => lhs; whnf) rfl rfl (by first | exact .head | exact .tail .head | exact .tail (.tail .head) | exact .tail (.tail (.tail .head)) | exact .tail (.tail (.tail (.tail .head))) | exact .tail (.tail (.tail (.tail (.tail .head))))) (by repeat constructor) ?_
    exact ⟨A, c, B, d, F, rfl, fun _ h => h, hH, hS.drop.drop⟩
  by_cases hb1 : (h.cs.length : Int) ≤ b
  · rw [hnone (by omega)]
    refine lst_run (rfl) rfl ?_
    refine lst_done ?_
    refine goes_false rfl ?_
    refine goes_skip ?_
    refine goes_seq ?_
    refine goes_seq ?_
    refine goes_region ?_
    refine lst_run (run_move (by conv => lhs; whnf)) rfl ?_
    first
      | refine lst_run (run_lss_yes rfl rfl (by omega)) rfl ?_
      | refine lst_run (run_lss_no rfl rfl (by omega)) rfl ?_
      | refine lst_run (rfl) rfl ?_
    refine lst_run (run_move (by conv => lhs; whnf)) rfl ?_
    refine lst_guard rfl rfl ?_
    refine lst_run (run_move (by conv => lhs; whnf)) rfl ?_
    refine lst_guard rfl rfl ?_
    first
      | refine lst_run (run_lss_yes rfl rfl (by omega)) rfl ?_
      | refine lst_run (run_lss_no rfl rfl (by omega)) rfl ?_
      | refine lst_run (rfl) rfl ?_
    first
      | refine lst_run (run_pick_t rfl (by conv => lhs; whnf)) rfl ?_
      | refine lst_run (run_pick_f rfl (by conv => lhs; whnf)) rfl ?_
    refine lst_run (run_move (by conv => lhs; whnf)) rfl ?_
    refine lst_guard rfl rfl ?_
    refine lst_run (run_move (by conv => lhs; whnf)) rfl ?_
    refine lst_guard rfl rfl ?_
    refine lst_run (run_fieldAddr (off := 0) rfl rfl) rfl ?_
    refine lst_guard rfl rfl ?_
    first
      | refine lst_run (run_load1_own hS rfl rfl (by first | exact .head | exact .tail .head | exact .tail (.tail .head) | exact .tail (.tail (.tail .head)) | exact .tail (.tail (.tail (.tail .head))) | exact .tail (.tail (.tail (.tail (.tail .head))))) (by repeat constructor)) rfl ?_
      | refine lst_run (run_load1 rfl rfl (by first | assumption | exact hS.cell0 (by assumption) | exact lv_next hS | exact lv_list hS)) rfl ?_
    refine lst_guard rfl rfl ?_
    refine lst_run (run_len_slice rfl rfl rfl) rfl ?_
    refine lst_guard rfl rfl ?_
    first
      | refine lst_run (run_geq_yes rfl rfl (by omega)) rfl ?_
      | refine lst_run (run_geq_no rfl rfl (by omega)) rfl ?_
      | refine lst_run (rfl) rfl ?_
    first
      | refine lst_run (run_pick_t rfl (by conv => lhs; whnf)) rfl ?_
      | refine lst_run (run_pick_f rfl (by conv => lhs; whnf)) rfl ?_
    refine lst_run (run_move (by conv => lhs; whnf)) rfl ?_
    refine lst_guard rfl rfl ?_
    refine lst_run (run_move (by conv => lhs; whnf)) rfl ?_
    refine lst_guard rfl rfl ?_
    refine lst_run (run_fieldAddr (off := 0) rfl rfl) rfl ?_
    refine lst_guard rfl rfl ?_
    first
      | refine lst_run (run_load1_own hS rfl rfl (by first | exact .head | exact .tail .head | exact .tail (.tail .head) | exact .tail (.tail (.tail .head)) | exact .tail (.tail (.tail (.tail .head))) | exact .tail (.tail (.tail (.tail (.tail .head))))) (by repeat constructor)) rfl ?_
      | refine lst_run (run_load1 rfl rfl (by first | assumption | exact hS.cell0 (by assumption) | exact lv_next hS | exact lv_list hS)) rfl ?_
    refine lst_guard rfl rfl ?_
    refine lst_run (run_len_slice rfl rfl rfl) rfl ?_
    refine lst_guard rfl rfl ?_
    first
      | refine lst_run (run_geq_yes rfl rfl (by omega)) rfl ?_
      | refine lst_run (run_geq_no rfl rfl (by omega)) rfl ?_
      | refine lst_run (rfl) rfl ?_
    first
      | refine lst_run (run_pick_t rfl (by conv => lhs; whnf)) rfl ?_
      | refine lst_run (run_pick_f rfl (by conv => lhs; whnf)) rfl ?_
    refine lst_done ?_
    refine goes_true rfl ?_
    refine goes_seq ?_
    refine goes_region ?_
    first
      | refine lst_run (run_loadN_own (k := 2) hS rfl rfl rfl (by first | exact .head | exact .tail .head | exact .tail (.tail .head) | exact .tail (.tail (.tail .head)) | exact .tail (.tail (.tail (.tail .head))) | exact .tail (.tail (.tail (.tail (.tail .head))))) (by repeat constructor)) rfl ?_
      | refine lst_run (run_load2 rfl rfl rfl (by first | assumption | exact hS.cell0 (by assumption)) (by first | assumption | exact hS.cell0 (by assumption))) rfl ?_
    refine lst_storeN hS rfl (by conv => lhs; whnf) rfl rfl (by first | exact .head | exact .tail .head | exact .tail (.tail .head) | exact .tail (.tail (.tail .head)) | exact .tail (.tail (.tail (.tail .head))) | exact .tail (.tail (.tail (.tail (.tail .head))))) (by repeat constructor) (by first | exact .head | exact .tail .head | exact .tail (.tail .head) | exact .tail (.tail (.tail .head)) | exact .tail (.tail (.tail (.tail .head))) | exact .tail (.tail (.tail (.tail (.tail .head))))) ?_
    clear hS
    intro wx3 hS
    refine lst_run (run_assign (by conv => lhs; whnf)) rfl ?_
    refine lst_run (run_assign (by conv => lhs; whnf)) rfl ?_
    refine lst_done ?_
    refine goes_retC3 (sz := 2) hS Try.func13 rfl rfl (by conv => lhs; whnf) (by conv => lhs; whnf) rfl rfl (by first | exact .head | exact .tail .head | exact .tail (.tail .head) | exact .tail (.tail (.tail .head)) | exact .tail (.tail (.tail (.tail .head))) | exact .tail (.tail (.tail (.tail (.tail .head))))) (by repeat constructor) ?_
    exact ⟨A, c, B, d, F, rfl, fun _ h => h, hH, hS.drop.drop⟩
  have hGu : GU h.cs.length ⟨h.cs, h.tr, 0, false⟩ := by
    refine ⟨rfl, ?_, fun _ => by show (0 : Nat) ≤ 400; omega, by show h.tr.length ≤ 65536 + 0; omega⟩
    unfold goodH goodCs at hg
    simp only [Bool.and_eq_true] at hg
    exact hg.1.2
  have e0 : unifyH h a b = if (uniU 401 a b ⟨h.cs, h.tr, 0, false⟩).2.lg = true ∨ (uniU 401 a b ⟨h.cs, h.tr, 0, false⟩).1 = true ∧ 65536 < (uniU 401 a b ⟨h.cs, h.tr, 0, false⟩).2.tr.length then (h, false, 3)
      else if (uniU 401 a b ⟨h.cs, h.tr, 0, false⟩).1 = false then (h, false, 0)
      else (⟨(uniU 401 a b ⟨h.cs, h.tr, 0, false⟩).2.cs, (uniU 401 a b ⟨h.cs, h.tr, 0, false⟩).2.tr⟩, true, 0) := by
    unfold unifyH; rw [if_neg (by rw [hg]; decide), if_neg (by unfold isAddr; simp; omega)]
  have hone := runS_one a b ⟨h.cs, h.tr, 0, false⟩
  rw [e0]
  clear e0 hnone
  generalize uniU 401 a b ⟨h.cs, h.tr, 0, false⟩ = r at *
  have hlong : r.2.lg = true → (if r.2.lg = true ∨ r.1 = true ∧ 65536 < r.2.tr.length then (h, false, (3 : Int)) else if r.1 = false then (h, false, 0) else (⟨r.2.cs, r.2.tr⟩, true, 0)) = (h, false, 3) := fun e => by rw [if_pos (.inl e)]
  have hfail : r.1 = false → r.2.lg = false → (if r.2.lg = true ∨ r.1 = true ∧ 65536 < r.2.tr.length then (h, false, (3 : Int)) else if r.1 = false then (h, false, 0) else (⟨r.2.cs, r.2.tr⟩, true, 0)) = (h, false, 0) := fun e1 e2 => by rw [if_neg (by rw [e1, e2]; simp), if_pos e1]
  refine lst_run (rfl) rfl ?_
  refine lst_done ?_
  refine goes_false rfl ?_
  refine goes_skip ?_
  refine goes_seq ?_
  refine goes_seq ?_
  refine goes_region ?_
  refine lst_run (run_move (by conv => lhs; whnf)) rfl ?_
  first
    | refine lst_run (run_lss_yes rfl rfl (by omega)) rfl ?_
    | refine lst_run (run_lss_no rfl rfl (by omega)) rfl ?_
    | refine lst_run (rfl) rfl ?_
  refine lst_run (run_move (by conv => lhs; whnf)) rfl ?_
  refine lst_guard rfl rfl ?_
  refine lst_run (run_move (by conv => lhs; whnf)) rfl ?_
  refine lst_guard rfl rfl ?_
  first
    | refine lst_run (run_lss_yes rfl rfl (by omega)) rfl ?_
    | refine lst_run (run_lss_no rfl rfl (by omega)) rfl ?_
    | refine lst_run (rfl) rfl ?_
  first
    | refine lst_run (run_pick_t rfl (by conv => lhs; whnf)) rfl ?_
    | refine lst_run (run_pick_f rfl (by conv => lhs; whnf)) rfl ?_
  refine lst_run (run_move (by conv => lhs; whnf)) rfl ?_
  refine lst_guard rfl rfl ?_
  refine lst_run (run_move (by conv => lhs; whnf)) rfl ?_
  refine lst_guard rfl rfl ?_
  refine lst_run (run_fieldAddr (off := 0) rfl rfl) rfl ?_
  refine lst_guard rfl rfl ?_
  first
    | refine lst_run (run_load1_own hS rfl rfl (by first | exact .head | exact .tail .head | exact .tail (.tail .head) | exact .tail (.tail (.tail .head)) | exact .tail (.tail (.tail (.tail .head))) | exact .tail (.tail (.tail (.tail (.tail .head))))) (by repeat constructor)) rfl ?_
    | refine lst_run (run_load1 rfl rfl (by first | assumption | exact hS.cell0 (by assumption) | exact lv_next hS | exact lv_list hS)) rfl ?_
  refine lst_guard rfl rfl ?_
  refine lst_run (run_len_slice rfl rfl rfl) rfl ?_
  refine lst_guard rfl rfl ?_
  first
    | refine lst_run (run_geq_yes rfl rfl (by omega)) rfl ?_
    | refine lst_run (run_geq_no rfl rfl (by omega)) rfl ?_
    | refine lst_run (rfl) rfl ?_
  first
    | refine lst_run (run_pick_t rfl (by conv => lhs; whnf)) rfl ?_
    | refine lst_run (run_pick_f rfl (by conv => lhs; whnf)) rfl ?_
  refine lst_run (run_move (by conv => lhs; whnf)) rfl ?_
  refine lst_guard rfl rfl ?_
  refine lst_run (run_move (by conv => lhs; whnf)) rfl ?_
  refine lst_guard rfl rfl ?_
  refine lst_run (run_fieldAddr (off := 0) rfl rfl) rfl ?_
  refine lst_guard rfl rfl ?_
  first
    | refine lst_run (run_load1_own hS rfl rfl (by first | exact .head | exact .tail .head | exact .tail (.tail .head) | exact .tail (.tail (.tail .head)) | exact .tail (.tail (.tail (.tail .head))) | exact .tail (.tail (.tail (.tail (.tail .head))))) (by repeat constructor)) rfl ?_
    | refine lst_run (run_load1 rfl rfl (by first | assumption | exact hS.cell0 (by assumption) | exact lv_next hS | exact lv_list hS)) rfl ?_
  refine lst_guard rfl rfl ?_
  refine lst_run (run_len_slice rfl rfl rfl) rfl ?_
  refine lst_guard rfl rfl ?_
  first
    | refine lst_run (run_geq_yes rfl rfl (by omega)) rfl ?_
    | refine lst_run (run_geq_no rfl rfl (by omega)) rfl ?_
    | refine lst_run (rfl) rfl ?_
  first
    | refine lst_run (run_pick_t rfl (by conv => lhs; whnf)) rfl ?_
    | refine lst_run (run_pick_f rfl (by conv => lhs; whnf)) rfl ?_
  refine lst_done ?_
  refine goes_false rfl ?_
  refine goes_skip ?_
  refine goes_seq ?_
  refine goes_region ?_
  first
    | refine lst_run (run_loadN_own (k := 2) hS rfl rfl rfl (by first | exact .head | exact .tail .head | exact .tail (.tail .head) | exact .tail (.tail (.tail .head)) | exact .tail (.tail (.tail (.tail .head))) | exact .tail (.tail (.tail (.tail (.tail .head))))) (by repeat constructor)) rfl ?_
    | refine lst_run (run_load2 rfl rfl rfl (by first | assumption | exact hS.cell0 (by assumption)) (by first | assumption | exact hS.cell0 (by assumption))) rfl ?_
  refine lst_enter (run_call (by kernel_rfl) (args_1 (by conv => lhs; whnf))) rfl ?_
  refine Calls.mono (copyHeap_any h A B c d _ hH (by omega) (by omega) hS) ?_
  rintro _ w4 ⟨A3, c3, A4, d4, O3, O4, rfl, hrow3, hrow4, hS'⟩
  refine ⟨_, rfl, ?_⟩
  replace hS := hS'
  clear hS'
  obtain ⟨g, sp, rfl, rfl, hcap3, hle3, _⟩ := hrow3.some_ (by omega)
  replace hS := hS.perm (List.perm_append_comm_assoc [_] O4 _ |>.trans (List.perm_append_comm_assoc O4 [_, _, _] _))
  refine lst_alloc (cs := [_, _]) hS rfl rfl rfl ?_
  clear hS
  intro b3 wx3 hS
  refine lst_storeN hS rfl (by conv => lhs; whnf) rfl rfl (by first | exact .head | exact .tail .head | exact .tail (.tail .head) | exact .tail (.tail (.tail .head)) | exact .tail (.tail (.tail (.tail .head))) | exact .tail (.tail (.tail (.tail (.tail .head))))) (by repeat constructor) (by first | exact .head | exact .tail .head | exact .tail (.tail .head) | exact .tail (.tail (.tail .head)) | exact .tail (.tail (.tail (.tail .head))) | exact .tail (.tail (.tail (.tail (.tail .head))))) ?_
  clear hS
  intro wx4 hS
  refine lst_done ?_
  refine goes_seq ?_
  refine goes_region ?_
  refine lst_run (run_makeFunc args_nil (args_1 (by conv => lhs; whnf))) rfl ?_
  refine lst_run (run_assign (by conv => lhs; whnf)) rfl ?_
  refine lst_done ?_
  refine goes_seq ?_
  refine goes_region ?_
  refine lst_run (run_assign (by conv => lhs; whnf)) rfl ?_
  refine lst_done ?_
  refine goes_seq ?_
  refine goes_region ?_
  refine lst_run (run_move (by conv => lhs; whnf)) rfl ?_
  refine lst_run (run_move (by conv => lhs; whnf)) rfl ?_
  refine lst_run (run_buildA (cells := [_, _]) (.cons (by conv => lhs; whnf) (.cons (by conv => lhs; whnf) .nil)) rfl) rfl ?_
  refine lst_buildSlice (cells := [_, _]) hS (.cons (by conv => lhs; whnf) .nil) rfl rfl ?_
  clear hS
  intro b4 wx5 hS
  refine lst_run (run_assign (by conv => lhs; whnf)) rfl ?_
  refine lst_done ?_
  refine goes_seq ?_
  refine goes_block ?_
  have hrl0 : Rw 65 2 (.slice (some ⟨b4, 0, none⟩) 1 1) 1 (prs [(a, b)]) [(b4, .cells (prs [(a, b)] ++ []).toArray 65)] := Rw.own_ rfl rfl (Nat.le_refl _) (by omega)
  refine goes_loop2 12 11 (54 :: 55 :: 56 :: 57 :: 58 :: 59 :: 60 :: 61 :: 62 :: 63 :: 64 :: 65 :: 66 :: 67 :: 68 :: 69 :: 70 :: 13 :: 14 :: 71 :: 72 :: 73 :: 74 :: 75 :: 76 :: 77 :: 78 :: 79 :: 80 :: 7 :: 8 :: 81 :: 82 :: 83 :: 84 :: 85 :: 86 :: 87 :: 88 :: 89 :: 90 :: 91 :: 92 :: 93 :: 94 :: 95 :: 96 :: 97 :: 98 :: 99 :: 100 :: 101 :: 102 :: 103 :: 15 :: 16 :: 104 :: 105 :: 106 :: 107 :: 108 :: 109 :: 110 :: 111 :: 112 :: 113 :: 114 :: 115 :: 116 :: 117 :: 118 :: 119 :: 120 :: 121 :: 122 :: 123 :: 124 :: 125 :: 126 :: 127 :: 128 :: 129 :: 130 :: 131 :: 132 :: 133 :: 134 :: 17 :: 135 :: 136 :: 137 :: 138 :: 139 :: 140 :: 141 :: 142 :: 143 :: 18 :: 144 :: 145 :: 146 :: 147 :: 148 :: 149 :: 150 :: 151 :: 152 :: 153 :: 154 :: 155 :: 156 :: 157 :: 158 :: 159 :: 160 :: 161 :: 162 :: 163 :: 164 :: 165 :: 166 :: 167 :: 168 :: 169 :: 19 :: 170 :: 171 :: 172 :: 173 :: 174 :: 20 :: 175 :: 176 :: 179 :: 180 :: 181 :: 182 :: 183 :: 184 :: 177 :: 178 :: 185 :: 186 :: 187 :: 188 :: 189 :: 190 :: 191 :: 192 :: 193 :: 194 :: 21 :: 195 :: 196 :: 197 :: 198 :: 199 :: 200 :: 201 :: 204 :: 205 :: 206 :: 207 :: 208 :: 209 :: 210 :: 211 :: 212 :: 213 :: 202 :: 203 :: []) (fun (x : List (Int × Int) × HU) v y w' => ∃ (Al : Option Addr) (cl d5 : Nat) (Bt : Option Addr) (Ot Ol : List (Nat × Obj)), v = .slice Al x.1.length cl ∧ y = .int .i64 (400 - (x.2.w : Nat)) ∧ r = runS x.1.reverse x.2 ∧ GU h.cs.length x.2 ∧ x.2.lg = false ∧ x.1.length ≤ 1 + 4 * x.2.w ∧ Rw 65 2 (.slice Al x.1.length cl) x.1.length (prs x.1) Ol ∧ Rw 3 1 (.slice Bt x.2.tr.length d5) x.2.tr.length (intsV x.2.tr) Ot ∧ St M w0 ((b3, hob (some ⟨g, 0, none⟩) h.cs.length c3 Bt x.2.tr.length d5) :: (g, cob x.2.cs sp) :: (b2, hob none 0 0 none 0 0) :: (b1, hob A h.cs.length c B h.tr.length d) :: (Ot ++ (Ol ++ H))) F w') (fun x => 401 - x.2.w) (([(a, b)], ⟨h.cs, h.tr, 0, false⟩)) ?_ (by conv => lhs; whnf) (by conv => lhs; whnf) ?_
  · refine ⟨some ⟨b4, 0, none⟩, 1, d4, A4, O4, [(b4, .cells (prs [(a, b)] ++ []).toArray 65)], rfl, rfl, hone.symm, hGu, rfl, by simp, hrl0, hrow4, hS.perm ((List.perm_append_comm_assoc [_] [_, _, _, _] _).trans (.cons _ (.cons _ (.cons _ (.cons _ (List.perm_append_comm_assoc [_] O4 _))))))⟩
  clear hS
  rintro ⟨Lp, u⟩ _ _ w5 jv ⟨Al, cl, d5, Bt, Ot, Ol, hv1, hy1, hr, hG, hlg, hLl, hrowl, hrowt, hS⟩ ih
  dsimp only at hv1 hy1 hr hG hlg hLl hrowl hrowt hS
  subst hy1
  have hw := hG.wk hlg
  have hcl := hG.len
  have htl := hG.trl
  -- what is given back when it fails
  have hback : ∀ {X Y : List (Nat × Obj)} {w' : World}, St M w0 (X ++ (Y ++ H)) F w' → St M w0 H F w' := fun hS => St.dropL (L := _) (St.dropL (L := _) hS)
  rcases List.eq_nil_or_concat Lp with rfl | ⟨Lq, pr, hLp⟩
  · subst hv1
    have hr2 : r = (true, u) := by rw [hr]; rfl
    by_cases htb : 65536 < u.tr.length
    · rw [if_pos (.inr ⟨by rw [hr2], by rw [hr2]; exact htb⟩)]
      refine goes_seq ?_
      refine goes_seq ?_
      refine goes_region ?_
      refine lst_run (run_move (by conv => lhs; whnf)) rfl ?_
      refine lst_run (run_len_slice rfl rfl rfl) rfl ?_
      first
        | refine lst_run (run_gtr_yes rfl rfl (by omega)) rfl ?_
        | refine lst_run (run_gtr_no rfl rfl (by omega)) rfl ?_
        | refine lst_run (rfl) rfl ?_
      refine lst_done ?_
      refine goes_false rfl ?_
      refine goes_exit rfl ?_
      refine goes_seq ?_
      refine goes_seq ?_
      refine goes_region ?_
      refine lst_run (run_fieldAddr (off := 1) rfl rfl) rfl ?_
      first
        | refine lst_run (run_load1_own hS rfl rfl (by first | exact .head | exact .tail .head | exact .tail (.tail .head) | exact .tail (.tail (.tail .head)) | exact .tail (.tail (.tail (.tail .head))) | exact .tail (.tail (.tail (.tail (.tail .head))))) (by repeat constructor)) rfl ?_
        | refine lst_run (run_load1 rfl rfl (by first | assumption | exact hS.cell0 (by assumption) | exact lv_next hS | exact lv_list hS)) rfl ?_
      refine lst_run (run_len_slice rfl rfl rfl) rfl ?_
      first
        | refine lst_run (run_gtr_yes rfl rfl (by omega)) rfl ?_
        | refine lst_run (run_gtr_no rfl rfl (by omega)) rfl ?_
        | refine lst_run (rfl) rfl ?_
      refine lst_done ?_
      refine goes_true rfl ?_
      refine goes_seq ?_
      refine goes_region ?_
      first
        | refine lst_run (run_loadN_own (k := 2) hS rfl rfl rfl (by first | exact .head | exact .tail .head | exact .tail (.tail .head) | exact .tail (.tail (.tail .head)) | exact .tail (.tail (.tail (.tail .head))) | exact .tail (.tail (.tail (.tail (.tail .head))))) (by repeat constructor)) rfl ?_
        | refine lst_run (run_load2 rfl rfl rfl (by first | assumption | exact hS.cell0 (by assumption)) (by first | assumption | exact hS.cell0 (by assumption))) rfl ?_
      refine lst_storeN hS rfl (by conv => lhs; whnf) rfl rfl (by first | exact .head | exact .tail .head | exact .tail (.tail .head) | exact .tail (.tail (.tail .head)) | exact .tail (.tail (.tail (.tail .head))) | exact .tail (.tail (.tail (.tail (.tail .head))))) (by repeat constructor) (by first | exact .head | exact .tail .head | exact .tail (.tail .head) | exact .tail (.tail (.tail .head)) | exact .tail (.tail (.tail (.tail .head))) | exact .tail (.tail (.tail (.tail (.tail .head))))) ?_
      clear hS
      intro wx6 hS
      refine lst_run (run_assign (by conv => lhs; whnf)) rfl ?_
      refine lst_run (run_assign (by conv => lhs; whnf)) rfl ?_
      refine lst_done ?_
      refine goes_retC3 (sz := 2) hS Try.func13 rfl rfl (by conv => lhs; whnf) (by conv => lhs; whnf) rfl rfl (by first | exact .head | exact .tail .head | exact .tail (.tail .head) | exact .tail (.tail (.tail .head)) | exact .tail (.tail (.tail (.tail .head))) | exact .tail (.tail (.tail (.tail (.tail .head))))) (by repeat constructor) ?_
      exact ⟨A, c, B, d, F, rfl, fun _ h => h, hH, hback (X := Ot) (Y := Ol) hS.drop.drop.drop.drop⟩
    · rw [if_neg (by rw [hr2, hlg]; simp; omega), if_neg (by rw [hr2]; simp), hr2]
      refine goes_seq ?_
      refine goes_seq ?_
      refine goes_region ?_
      refine lst_run (run_move (by conv => lhs; whnf)) rfl ?_
      refine lst_run (run_len_slice rfl rfl rfl) rfl ?_
      first
        | refine lst_run (run_gtr_yes rfl rfl (by omega)) rfl ?_
        | refine lst_run (run_gtr_no rfl rfl (by omega)) rfl ?_
        | refine lst_run (rfl) rfl ?_
      refine lst_done ?_
      refine goes_false rfl ?_
      refine goes_exit rfl ?_
      refine goes_seq ?_
      refine goes_seq ?_
      refine goes_region ?_
      refine lst_run (run_fieldAddr (off := 1) rfl rfl) rfl ?_
      first
        | refine lst_run (run_load1_own hS rfl rfl (by first | exact .head | exact .tail .head | exact .tail (.tail .head) | exact .tail (.tail (.tail .head)) | exact .tail (.tail (.tail (.tail .head))) | exact .tail (.tail (.tail (.tail (.tail .head))))) (by repeat constructor)) rfl ?_
        | refine lst_run (run_load1 rfl rfl (by first | assumption | exact hS.cell0 (by assumption) | exact lv_next hS | exact lv_list hS)) rfl ?_
      refine lst_run (run_len_slice rfl rfl rfl) rfl ?_
      first
        | refine lst_run (run_gtr_yes rfl rfl (by omega)) rfl ?_
        | refine lst_run (run_gtr_no rfl rfl (by omega)) rfl ?_
        | refine lst_run (rfl) rfl ?_
      refine lst_done ?_
      refine goes_false rfl ?_
      refine goes_skip ?_
      refine goes_seq ?_
      refine goes_region ?_
      first
        | refine lst_run (run_loadN_own (k := 2) hS rfl rfl rfl (by first | exact .head | exact .tail .head | exact .tail (.tail .head) | exact .tail (.tail (.tail .head)) | exact .tail (.tail (.tail (.tail .head))) | exact .tail (.tail (.tail (.tail (.tail .head))))) (by repeat constructor)) rfl ?_
        | refine lst_run (run_load2 rfl rfl rfl (by first | assumption | exact hS.cell0 (by assumption)) (by first | assumption | exact hS.cell0 (by assumption))) rfl ?_
      refine lst_storeN hS rfl (by conv => lhs; whnf) rfl rfl (by first | exact .head | exact .tail .head | exact .tail (.tail .head) | exact .tail (.tail (.tail .head)) | exact .tail (.tail (.tail (.tail .head))) | exact .tail (.tail (.tail (.tail (.tail .head))))) (by repeat constructor) (by first | exact .head | exact .tail .head | exact .tail (.tail .head) | exact .tail (.tail (.tail .head)) | exact .tail (.tail (.tail (.tail .head))) | exact .tail (.tail (.tail (.tail (.tail .head))))) ?_
      clear hS
      intro wx6 hS
      refine lst_run (run_assign (by conv => lhs; whnf)) rfl ?_
      refine lst_run (run_assign (by conv => lhs; whnf)) rfl ?_
      refine lst_done ?_
      refine goes_retC3 (sz := 2) hS Try.func13 rfl rfl (by conv => lhs; whnf) (by conv => lhs; whnf) rfl rfl (by first | exact .head | exact .tail .head | exact .tail (.tail .head) | exact .tail (.tail (.tail .head)) | exact .tail (.tail (.tail (.tail .head))) | exact .tail (.tail (.tail (.tail (.tail .head))))) (by repeat constructor) ?_
      have hS2 := (hS.drop.perm (.cons _ (List.perm_append_comm_assoc [_, _] Ot _)))
      have hS3 := St.freezeG hS2 (c := c3) (by omega)
      have hS4 := St.freezeR hrowt hS3
      refine ⟨_, c3, Bt, d5, _, ?_, fun φ h => .tail _ (.tail _ h), fun w' hw => ⟨hw _ (.tail _ (.head _)), hw _ (.head _)⟩, St.dropL (L := Ol) hS4.drop.drop⟩
      dsimp only [hv, heapV]; rw [hcl]
  rw [List.concat_eq_append] at hLp
  subst hLp
  obtain ⟨x, y⟩ := pr
  have hLq : (Lq ++ [(x, y)]).length = Lq.length + 1 := by simp
  rw [hLq] at hrowl hLl hv1
  subst hv1
  obtain ⟨lb, lsp, rfl, rfl, hlcap, hlle, _⟩ := hrowl.some_ (by omega)
  have hrowq : Rw 65 2 (.slice (some ⟨lb, 0, none⟩) Lq.length cl) Lq.length (prs Lq) [(lb, .cells (prs (Lq ++ [(x, y)]) ++ lsp).toArray 65)] := by
    rw [prs_app] at hrowl ⊢
    exact hrowl.cut (prs_len Lq) (by omega)
  have hrr : r = contS (uniU 401 x y u) Lq.reverse := by rw [hr, List.reverse_append]; rfl
  have hpx : ∀ {X} w', St M w0 (X ++ (Ot ++ ([(lb, .cells (prs (Lq ++ [(x, y)]) ++ lsp).toArray 65)] ++ H))) F w' → w'.cell? ⟨lb, 0 + (((Lq.length + 1 : Nat) : Int) - 1).toNat * 2 + (0 : Int).toNat * 1, none⟩ = some (.int .i64 x) ∧ w'.cell? ⟨lb, 0 + (((Lq.length + 1 : Nat) : Int) - 1).toNat * 2 + (1 : Int).toNat * 1, none⟩ = some (.int .i64 y) := fun w' hS => by
    have ho := hS.own (lb, .cells (prs (Lq ++ [(x, y)]) ++ lsp).toArray 65) (by simp)
    have e1 := prs_len Lq
    constructor
    · rw [cell_own ho, prs_app, List.append_assoc, List.getElem?_append_right (by omega), show 0 + (((Lq.length + 1 : Nat) : Int) - 1).toNat * 2 + (0 : Int).toNat * 1 - (prs Lq).length = 0 by omega]; rfl
    · rw [cell_own ho, prs_app, List.append_assoc, List.getElem?_append_right (by omega), show 0 + (((Lq.length + 1 : Nat) : Int) - 1).toNat * 2 + (1 : Int).toNat * 1 - (prs Lq).length = 1 by omega]; rfl
  have hla : ∀ {X Y : List (Nat × Obj)} {F' : List (World → Prop)} {w' : World} {u' : HU} {Bz : Option Addr} {tz dz : Nat} (z : Int), u'.cs.length = h.cs.length → St M w0 (X ++ (g, cob u'.cs sp) :: Y) F' w' → Calls Try.prog 21 #[heapV (some ⟨g, 0, none⟩) h.cs.length c3 Bz tz dz, .int .i64 z] w' fun e w'' => e = .returned (.int .i64 (hlook u'.cs z)) ∧ Below w'.heap.size w' w'' := fun {X Y F' w' u' Bz tz dz} z hu hS => by
    have := lookAt_any u'.cs (some ⟨g, 0, none⟩) Bz c3 tz dz z w' (Flat.own (hS.own (g, cob u'.cs sp) (by simp)) (hcsL_len _) (by rw [hu]; omega))
    rw [hu] at this; exact this
  have hlgs : ((u.step.look x).2.look y).2.lg = decide (400 < u.w + 1 ∨ hlook u.cs x < 0 ∨ hlook u.cs y < 0) := by
    by_cases h4 : 400 < u.w + 1
    · have : u.step.lg = true := stepLong (by omega)
      rw [decide_eq_true (.inl h4)]
      cases hq : ((u.step.look x).2.look y).2.lg with
      | true => rfl
      | false => have := (looks_ok hq).1; rw [‹u.step.lg = true›] at this; cases this
    · have hst : u.step.lg = false := by simp only [HU.step]; rw [hlg, decide_eq_false h4]; rfl
      have e1 : u.step.look x = (hlook u.cs x, ⟨u.cs, u.tr, u.w + 1, decide (hlook u.cs x < 0)⟩) := by unfold HU.look; rw [if_neg (by rw [hst]; decide)]; rfl
      rw [e1]
      unfold HU.look
      by_cases hx : hlook u.cs x < 0
      · rw [decide_eq_true hx, if_pos rfl, decide_eq_true (show 400 < u.w + 1 ∨ hlook u.cs x < 0 ∨ hlook u.cs y < 0 from .inr (.inl hx))]
      · rw [decide_eq_false hx, if_neg (by simp)]
        show decide (hlook u.cs y < 0) = _
        by_cases hy : hlook u.cs y < 0
        · rw [decide_eq_true hy, decide_eq_true (.inr (.inr hy))]
        · rw [decide_eq_false hy, decide_eq_false (by omega)]
  have hlongr : ((u.step.look x).2.look y).2.lg = true → r.2.lg = true := fun e => by
    rw [hrr, uni_long 401 e]; unfold contS; rw [if_neg (by simp)]; exact e
  by_cases h4 : 400 < u.w + 1
  · rw [hlong (hlongr (by rw [hlgs, decide_eq_true (.inl h4)]))]
    refine goes_seq ?_
    refine goes_seq ?_
    refine goes_region ?_
    refine lst_run (run_move (by conv => lhs; whnf)) rfl ?_
    refine lst_run (run_len_slice rfl rfl rfl) rfl ?_
    first
      | refine lst_run (run_gtr_yes rfl rfl (by omega)) rfl ?_
      | refine lst_run (run_gtr_no rfl rfl (by omega)) rfl ?_
      | refine lst_run (rfl) rfl ?_
    refine lst_done ?_
    refine goes_true rfl ?_
    refine goes_skip ?_
    refine goes_block ?_
    refine goes_seq ?_
    refine goes_draw (St _ _ _ _) 16 ((0, true) :: (1, true) :: (2, true) :: (3, true) :: (4, true) :: (5, true) :: (6, true) :: (7, true) :: (8, true) :: (9, true) :: (10, true) :: (11, true) :: (12, true) :: (13, true) :: (14, true) :: (15, true) :: []) (by kernel_rfl) (by kernel_rfl) (hS.drew) ?_
    replace hS := hS.drew
    refine ord_read rfl (fun _ hS => run_move (by conv => lhs; whnf)) rfl ?_
    refine ord_read rfl (fun _ hS => run_move (by conv => lhs; whnf)) rfl ?_
    refine ord_read rfl (fun _ hS => run_len_slice rfl rfl rfl) rfl ?_
    first
      | refine ord_read rfl (fun _ hS => run_sub rfl rfl (by omega) (by omega)) rfl ?_
      | refine ord_read rfl (fun _ hS => run_sub_u8 rfl rfl) rfl ?_
    refine ord_read rfl (fun _ hS => run_indexAddr (sz := 2) rfl rfl rfl rfl (by omega) (by omega)) rfl ?_
    refine ord_read rfl (fun _ hS => run_indexArr (len := 2) (el := 3) (sz := 1) rfl rfl rfl rfl (by omega) (by omega)) rfl ?_
    first
      | refine ord_read rfl (fun _ hS => run_load1_own hS rfl rfl (by first | exact .head | exact .tail .head | exact .tail (.tail .head) | exact .tail (.tail (.tail .head)) | exact .tail (.tail (.tail (.tail .head))) | exact .tail (.tail (.tail (.tail (.tail .head))))) (by repeat constructor)) rfl ?_
      | refine ord_read rfl (fun _ hS => run_load1 rfl rfl (by first | assumption | exact (hpx (X := [_, _, _, _]) _ hS).1 | exact (hpx (X := [_, _, _, _]) _ hS).2 | exact hS.cell0 (by assumption) | exact lv_next hS | exact lv_list hS)) rfl ?_
    refine ord_read rfl (fun _ hS => run_move (by conv => lhs; whnf)) rfl ?_
    refine ord_read rfl (fun _ hS => run_move (by conv => lhs; whnf)) rfl ?_
    refine ord_read rfl (fun _ hS => run_len_slice rfl rfl rfl) rfl ?_
    first
      | refine ord_read rfl (fun _ hS => run_sub rfl rfl (by omega) (by omega)) rfl ?_
      | refine ord_read rfl (fun _ hS => run_sub_u8 rfl rfl) rfl ?_
    refine ord_read rfl (fun _ hS => run_indexAddr (sz := 2) rfl rfl rfl rfl (by omega) (by omega)) rfl ?_
    refine ord_read rfl (fun _ hS => run_indexArr (len := 2) (el := 3) (sz := 1) rfl rfl rfl rfl (by omega) (by omega)) rfl ?_
    first
      | refine ord_read rfl (fun _ hS => run_load1_own hS rfl rfl (by first | exact .head | exact .tail .head | exact .tail (.tail .head) | exact .tail (.tail (.tail .head)) | exact .tail (.tail (.tail (.tail .head))) | exact .tail (.tail (.tail (.tail (.tail .head))))) (by repeat constructor)) rfl ?_
      | refine ord_read rfl (fun _ hS => run_load1 rfl rfl (by first | assumption | exact (hpx (X := [_, _, _, _]) _ hS).1 | exact (hpx (X := [_, _, _, _]) _ hS).2 | exact hS.cell0 (by assumption) | exact lv_next hS | exact lv_list hS)) rfl ?_
    refine ord_read rfl (fun _ hS => run_assign (by conv => lhs; whnf)) rfl ?_
    refine ord_read rfl (fun _ hS => run_assign (by conv => lhs; whnf)) rfl ?_
    refine ord_end ?_
    refine lst_done ?_
    refine goes_seq ?_
    refine goes_region ?_
    refine lst_run (run_move (by conv => lhs; whnf)) rfl ?_
    refine lst_run (run_move (by conv => lhs; whnf)) rfl ?_
    refine lst_run (run_len_slice rfl rfl rfl) rfl ?_
    first
      | refine lst_run (run_sub rfl rfl (by omega) (by omega)) rfl ?_
      | refine lst_run (run_sub_u8 rfl rfl) rfl ?_
    refine lst_run (run_slice_slice (sz := 2) rfl rfl rfl rfl (by omega) (by omega)) rfl ?_
    refine lst_run (run_assign (by conv => lhs; whnf)) rfl ?_
    refine lst_done ?_
    refine goes_seq ?_
    refine goes_region ?_
    refine lst_run (run_move (by conv => lhs; whnf)) rfl ?_
    first
      | refine lst_run (run_sub rfl rfl (by omega) (by omega)) rfl ?_
      | refine lst_run (run_sub_u8 rfl rfl) rfl ?_
    refine lst_run (run_assign (by conv => lhs; whnf)) rfl ?_
    refine lst_done ?_
    refine goes_seq ?_
    refine goes_seq ?_
    refine goes_region ?_
    refine lst_run (run_move (by conv => lhs; whnf)) rfl ?_
    first
      | refine lst_run (run_lss_yes rfl rfl (by omega)) rfl ?_
      | refine lst_run (run_lss_no rfl rfl (by omega)) rfl ?_
      | refine lst_run (rfl) rfl ?_
    refine lst_done ?_
    refine goes_true rfl ?_
    refine goes_seq ?_
    refine goes_region ?_
    first
      | refine lst_run (run_loadN_own (k := 2) hS rfl rfl rfl (by first | exact .head | exact .tail .head | exact .tail (.tail .head) | exact .tail (.tail (.tail .head)) | exact .tail (.tail (.tail (.tail .head))) | exact .tail (.tail (.tail (.tail (.tail .head))))) (by repeat constructor)) rfl ?_
      | refine lst_run (run_load2 rfl rfl rfl (by first | assumption | exact (hpx (X := [_, _, _, _]) _ hS).1 | exact (hpx (X := [_, _, _, _]) _ hS).2 | exact hS.cell0 (by assumption)) (by first | assumption | exact (hpx (X := [_, _, _, _]) _ hS).1 | exact (hpx (X := [_, _, _, _]) _ hS).2 | exact hS.cell0 (by assumption))) rfl ?_
    refine lst_storeN hS rfl (by conv => lhs; whnf) rfl rfl (by first | exact .head | exact .tail .head | exact .tail (.tail .head) | exact .tail (.tail (.tail .head)) | exact .tail (.tail (.tail (.tail .head))) | exact .tail (.tail (.tail (.tail (.tail .head))))) (by repeat constructor) (by first | exact .head | exact .tail .head | exact .tail (.tail .head) | exact .tail (.tail (.tail .head)) | exact .tail (.tail (.tail (.tail .head))) | exact .tail (.tail (.tail (.tail (.tail .head))))) ?_
    clear hS
    intro wx6 hS
    refine lst_run (run_assign (by conv => lhs; whnf)) rfl ?_
    refine lst_run (run_assign (by conv => lhs; whnf)) rfl ?_
    refine lst_done ?_
    refine goes_retC3 (sz := 2) hS Try.func13 rfl rfl (by conv => lhs; whnf) (by conv => lhs; whnf) rfl rfl (by first | exact .head | exact .tail .head | exact .tail (.tail .head) | exact .tail (.tail (.tail .head)) | exact .tail (.tail (.tail (.tail .head))) | exact .tail (.tail (.tail (.tail (.tail .head))))) (by repeat constructor) ?_
    exact ⟨A, c, B, d, F, rfl, fun _ h => h, hH, hback (X := Ot) hS.drop.drop.drop.drop⟩
  by_cases hxn : hlook u.cs x < 0
  · rw [hlong (hlongr (by rw [hlgs, decide_eq_true (.inr (.inl hxn))]))]
    refine goes_seq ?_
    refine goes_seq ?_
    refine goes_region ?_
    refine lst_run (run_move (by conv => lhs; whnf)) rfl ?_
    refine lst_run (run_len_slice rfl rfl rfl) rfl ?_
    first
      | refine lst_run (run_gtr_yes rfl rfl (by omega)) rfl ?_
      | refine lst_run (run_gtr_no rfl rfl (by omega)) rfl ?_
      | refine lst_run (rfl) rfl ?_
    refine lst_done ?_
    refine goes_true rfl ?_
    refine goes_skip ?_
    refine goes_block ?_
    refine goes_seq ?_
    refine goes_draw (St _ _ _ _) 16 ((0, true) :: (1, true) :: (2, true) :: (3, true) :: (4, true) :: (5, true) :: (6, true) :: (7, true) :: (8, true) :: (9, true) :: (10, true) :: (11, true) :: (12, true) :: (13, true) :: (14, true) :: (15, true) :: []) (by kernel_rfl) (by kernel_rfl) (hS.drew) ?_
    replace hS := hS.drew
    refine ord_read rfl (fun _ hS => run_move (by conv => lhs; whnf)) rfl ?_
    refine ord_read rfl (fun _ hS => run_move (by conv => lhs; whnf)) rfl ?_
    refine ord_read rfl (fun _ hS => run_len_slice rfl rfl rfl) rfl ?_
    first
      | refine ord_read rfl (fun _ hS => run_sub rfl rfl (by omega) (by omega)) rfl ?_
      | refine ord_read rfl (fun _ hS => run_sub_u8 rfl rfl) rfl ?_
    refine ord_read rfl (fun _ hS => run_indexAddr (sz := 2) rfl rfl rfl rfl (by omega) (by omega)) rfl ?_
    refine ord_read rfl (fun _ hS => run_indexArr (len := 2) (el := 3) (sz := 1) rfl rfl rfl rfl (by omega) (by omega)) rfl ?_
    first
      | refine ord_read rfl (fun _ hS => run_load1_own hS rfl rfl (by first | exact .head | exact .tail .head | exact .tail (.tail .head) | exact .tail (.tail (.tail .head)) | exact .tail (.tail (.tail (.tail .head))) | exact .tail (.tail (.tail (.tail (.tail .head))))) (by repeat constructor)) rfl ?_
      | refine ord_read rfl (fun _ hS => run_load1 rfl rfl (by first | assumption | exact (hpx (X := [_, _, _, _]) _ hS).1 | exact (hpx (X := [_, _, _, _]) _ hS).2 | exact hS.cell0 (by assumption) | exact lv_next hS | exact lv_list hS)) rfl ?_
    refine ord_read rfl (fun _ hS => run_move (by conv => lhs; whnf)) rfl ?_
    refine ord_read rfl (fun _ hS => run_move (by conv => lhs; whnf)) rfl ?_
    refine ord_read rfl (fun _ hS => run_len_slice rfl rfl rfl) rfl ?_
    first
      | refine ord_read rfl (fun _ hS => run_sub rfl rfl (by omega) (by omega)) rfl ?_
      | refine ord_read rfl (fun _ hS => run_sub_u8 rfl rfl) rfl ?_
    refine ord_read rfl (fun _ hS => run_indexAddr (sz := 2) rfl rfl rfl rfl (by omega) (by omega)) rfl ?_
    refine ord_read rfl (fun _ hS => run_indexArr (len := 2) (el := 3) (sz := 1) rfl rfl rfl rfl (by omega) (by omega)) rfl ?_
    first
      | refine ord_read rfl (fun _ hS => run_load1_own hS rfl rfl (by first | exact .head | exact .tail .head | exact .tail (.tail .head) | exact .tail (.tail (.tail .head)) | exact .tail (.tail (.tail (.tail .head))) | exact .tail (.tail (.tail (.tail (.tail .head))))) (by repeat constructor)) rfl ?_
      | refine ord_read rfl (fun _ hS => run_load1 rfl rfl (by first | assumption | exact (hpx (X := [_, _, _, _]) _ hS).1 | exact (hpx (X := [_, _, _, _]) _ hS).2 | exact hS.cell0 (by assumption) | exact lv_next hS | exact lv_list hS)) rfl ?_
    refine ord_read rfl (fun _ hS => run_assign (by conv => lhs; whnf)) rfl ?_
    refine ord_read rfl (fun _ hS => run_assign (by conv => lhs; whnf)) rfl ?_
    refine ord_end ?_
    refine lst_done ?_
    refine goes_seq ?_
    refine goes_region ?_
    refine lst_run (run_move (by conv => lhs; whnf)) rfl ?_
    refine lst_run (run_move (by conv => lhs; whnf)) rfl ?_
    refine lst_run (run_len_slice rfl rfl rfl) rfl ?_
    first
      | refine lst_run (run_sub rfl rfl (by omega) (by omega)) rfl ?_
      | refine lst_run (run_sub_u8 rfl rfl) rfl ?_
    refine lst_run (run_slice_slice (sz := 2) rfl rfl rfl rfl (by omega) (by omega)) rfl ?_
    refine lst_run (run_assign (by conv => lhs; whnf)) rfl ?_
    refine lst_done ?_
    refine goes_seq ?_
    refine goes_region ?_
    refine lst_run (run_move (by conv => lhs; whnf)) rfl ?_
    first
      | refine lst_run (run_sub rfl rfl (by omega) (by omega)) rfl ?_
      | refine lst_run (run_sub_u8 rfl rfl) rfl ?_
    refine lst_run (run_assign (by conv => lhs; whnf)) rfl ?_
    refine lst_done ?_
    refine goes_seq ?_
    refine goes_seq ?_
    refine goes_region ?_
    refine lst_run (run_move (by conv => lhs; whnf)) rfl ?_
    first
      | refine lst_run (run_lss_yes rfl rfl (by omega)) rfl ?_
      | refine lst_run (run_lss_no rfl rfl (by omega)) rfl ?_
      | refine lst_run (rfl) rfl ?_
    refine lst_done ?_
    refine goes_false rfl ?_
    refine goes_skip ?_
    refine goes_seq ?_
    refine goes_draw (St _ _ _ _) 8 ((0, true) :: (1, true) :: (3, true) :: (4, true) :: (2, false) :: (5, false) :: (6, true) :: (7, true) :: []) (by kernel_rfl) (by kernel_rfl) (hS.drew) ?_
    replace hS := hS.drew
    first
      | refine ord_read rfl (fun _ hS => run_loadN_own (k := 2) hS rfl rfl rfl (by first | exact .head | exact .tail .head | exact .tail (.tail .head) | exact .tail (.tail (.tail .head)) | exact .tail (.tail (.tail (.tail .head))) | exact .tail (.tail (.tail (.tail (.tail .head))))) (by repeat constructor)) rfl ?_
      | refine ord_read rfl (fun _ hS => run_load2 rfl rfl rfl (by first | assumption | exact (hpx (X := [_, _, _, _]) _ hS).1 | exact (hpx (X := [_, _, _, _]) _ hS).2 | exact hS.cell0 (by assumption)) (by first | assumption | exact (hpx (X := [_, _, _, _]) _ hS).1 | exact (hpx (X := [_, _, _, _]) _ hS).2 | exact hS.cell0 (by assumption))) rfl ?_
    refine ord_read rfl (fun _ hS => run_move (by conv => lhs; whnf)) rfl ?_
    first
      | refine ord_read rfl (fun _ hS => run_loadN_own (k := 2) hS rfl rfl rfl (by first | exact .head | exact .tail .head | exact .tail (.tail .head) | exact .tail (.tail (.tail .head)) | exact .tail (.tail (.tail (.tail .head))) | exact .tail (.tail (.tail (.tail (.tail .head))))) (by repeat constructor)) rfl ?_
      | refine ord_read rfl (fun _ hS => run_load2 rfl rfl rfl (by first | assumption | exact (hpx (X := [_, _, _, _]) _ hS).1 | exact (hpx (X := [_, _, _, _]) _ hS).2 | exact hS.cell0 (by assumption)) (by first | assumption | exact (hpx (X := [_, _, _, _]) _ hS).1 | exact (hpx (X := [_, _, _, _]) _ hS).2 | exact hS.cell0 (by assumption))) rfl ?_
    refine ord_read rfl (fun _ hS => run_move (by conv => lhs; whnf)) rfl ?_
    refine ord_act rfl ?_
    refine lst_enter (run_call (by kernel_rfl) (args_2 (by conv => lhs; whnf) (by conv => lhs; whnf))) rfl ?_
    refine Calls.mono (hla (X := [_]) x hcl hS) ?_
    rintro _ w6 ⟨rfl, hb6⟩
    refine ⟨_, rfl, ?_⟩
    replace hS := hS.grow hb6
    refine lst_ord (by first | exact hS | exact hS.drop | exact hS.drop.drop | exact hS.drop.drop.drop | exact hS.unlearn | exact hS.unlearn.drop | exact hS.unlearn.drop.drop | exact hS.forget (by assumption) | exact hS.drop.forget (by assumption)) ?_
    refine ord_act rfl ?_
    refine lst_enter (run_call (by kernel_rfl) (args_2 (by conv => lhs; whnf) (by conv => lhs; whnf))) rfl ?_
    refine Calls.mono (hla (X := [_]) y hcl hS) ?_
    rintro _ w7 ⟨rfl, hb7⟩
    refine ⟨_, rfl, ?_⟩
    replace hS := hS.grow hb7
    refine lst_ord (by first | exact hS | exact hS.drop | exact hS.drop.drop | exact hS.drop.drop.drop | exact hS.unlearn | exact hS.unlearn.drop | exact hS.unlearn.drop.drop | exact hS.forget (by assumption) | exact hS.drop.forget (by assumption)) ?_
    refine ord_read rfl (fun _ hS => run_assign (by conv => lhs; whnf)) rfl ?_
    refine ord_read rfl (fun _ hS => run_assign (by conv => lhs; whnf)) rfl ?_
    refine ord_end ?_
    refine lst_done ?_
    refine goes_seq ?_
    refine goes_seq ?_
    refine goes_region ?_
    refine lst_run (run_move (by conv => lhs; whnf)) rfl ?_
    first
      | refine lst_run (run_lss_yes rfl rfl (by omega)) rfl ?_
      | refine lst_run (run_lss_no rfl rfl (by omega)) rfl ?_
      | refine lst_run (rfl) rfl ?_
    refine lst_run (run_move (by conv => lhs; whnf)) rfl ?_
    refine lst_pass rfl rfl rfl ?_
    refine lst_pass rfl rfl rfl ?_
    first
      | refine lst_run (run_pick_t rfl (by conv => lhs; whnf)) rfl ?_
      | refine lst_run (run_pick_f rfl (by conv => lhs; whnf)) rfl ?_
    refine lst_done ?_
    refine goes_true rfl ?_
    refine goes_seq ?_
    refine goes_region ?_
    first
      | refine lst_run (run_loadN_own (k := 2) hS rfl rfl rfl (by first | exact .head | exact .tail .head | exact .tail (.tail .head) | exact .tail (.tail (.tail .head)) | exact .tail (.tail (.tail (.tail .head))) | exact .tail (.tail (.tail (.tail (.tail .head))))) (by repeat constructor)) rfl ?_
      | refine lst_run (run_load2 rfl rfl rfl (by first | assumption | exact (hpx (X := [_, _, _, _]) _ hS).1 | exact (hpx (X := [_, _, _, _]) _ hS).2 | exact hS.cell0 (by assumption)) (by first | assumption | exact (hpx (X := [_, _, _, _]) _ hS).1 | exact (hpx (X := [_, _, _, _]) _ hS).2 | exact hS.cell0 (by assumption))) rfl ?_
    refine lst_storeN hS rfl (by conv => lhs; whnf) rfl rfl (by first | exact .head | exact .tail .head | exact .tail (.tail .head) | exact .tail (.tail (.tail .head)) | exact .tail (.tail (.tail (.tail .head))) | exact .tail (.tail (.tail (.tail (.tail .head))))) (by repeat constructor) (by first | exact .head | exact .tail .head | exact .tail (.tail .head) | exact .tail (.tail (.tail .head)) | exact .tail (.tail (.tail (.tail .head))) | exact .tail (.tail (.tail (.tail (.tail .head))))) ?_
    clear hS
    intro wx6 hS
    refine lst_run (run_assign (by conv => lhs; whnf)) rfl ?_
    refine lst_run (run_assign (by conv => lhs; whnf)) rfl ?_
    refine lst_done ?_
    refine goes_retC3 (sz := 2) hS Try.func13 rfl rfl (by conv => lhs; whnf) (by conv => lhs; whnf) rfl rfl (by first | exact .head | exact .tail .head | exact .tail (.tail .head) | exact .tail (.tail (.tail .head)) | exact .tail (.tail (.tail (.tail .head))) | exact .tail (.tail (.tail (.tail (.tail .head))))) (by repeat constructor) ?_
    exact ⟨A, c, B, d, F, rfl, fun _ h => h, hH, hback (X := Ot) hS.drop.drop.drop.drop⟩
  by_cases hyn : hlook u.cs y < 0
  · rw [hlong (hlongr (by rw [hlgs, decide_eq_true (.inr (.inr hyn))]))]
    refine goes_seq ?_
    refine goes_seq ?_
    refine goes_region ?_
    refine lst_run (run_move (by conv => lhs; whnf)) rfl ?_
    refine lst_run (run_len_slice rfl rfl rfl) rfl ?_
    first
      | refine lst_run (run_gtr_yes rfl rfl (by omega)) rfl ?_
      | refine lst_run (run_gtr_no rfl rfl (by omega)) rfl ?_
      | refine lst_run (rfl) rfl ?_
    refine lst_done ?_
    refine goes_true rfl ?_
    refine goes_skip ?_
    refine goes_block ?_
    refine goes_seq ?_
    refine goes_draw (St _ _ _ _) 16 ((0, true) :: (1, true) :: (2, true) :: (3, true) :: (4, true) :: (5, true) :: (6, true) :: (7, true) :: (8, true) :: (9, true) :: (10, true) :: (11, true) :: (12, true) :: (13, true) :: (14, true) :: (15, true) :: []) (by kernel_rfl) (by kernel_rfl) (hS.drew) ?_
    replace hS := hS.drew
    refine ord_read rfl (fun _ hS => run_move (by conv => lhs; whnf)) rfl ?_
    refine ord_read rfl (fun _ hS => run_move (by conv => lhs; whnf)) rfl ?_
    refine ord_read rfl (fun _ hS => run_len_slice rfl rfl rfl) rfl ?_
    first
      | refine ord_read rfl (fun _ hS => run_sub rfl rfl (by omega) (by omega)) rfl ?_
      | refine ord_read rfl (fun _ hS => run_sub_u8 rfl rfl) rfl ?_
    refine ord_read rfl (fun _ hS => run_indexAddr (sz := 2) rfl rfl rfl rfl (by omega) (by omega)) rfl ?_
    refine ord_read rfl (fun _ hS => run_indexArr (len := 2) (el := 3) (sz := 1) rfl rfl rfl rfl (by omega) (by omega)) rfl ?_
    first
      | refine ord_read rfl (fun _ hS => run_load1_own hS rfl rfl (by first | exact .head | exact .tail .head | exact .tail (.tail .head) | exact .tail (.tail (.tail .head)) | exact .tail (.tail (.tail (.tail .head))) | exact .tail (.tail (.tail (.tail (.tail .head))))) (by repeat constructor)) rfl ?_
      | refine ord_read rfl (fun _ hS => run_load1 rfl rfl (by first | assumption | exact (hpx (X := [_, _, _, _]) _ hS).1 | exact (hpx (X := [_, _, _, _]) _ hS).2 | exact hS.cell0 (by assumption) | exact lv_next hS | exact lv_list hS)) rfl ?_
    refine ord_read rfl (fun _ hS => run_move (by conv => lhs; whnf)) rfl ?_
    refine ord_read rfl (fun _ hS => run_move (by conv => lhs; whnf)) rfl ?_
    refine ord_read rfl (fun _ hS => run_len_slice rfl rfl rfl) rfl ?_
    first
      | refine ord_read rfl (fun _ hS => run_sub rfl rfl (by omega) (by omega)) rfl ?_
      | refine ord_read rfl (fun _ hS => run_sub_u8 rfl rfl) rfl ?_
    refine ord_read rfl (fun _ hS => run_indexAddr (sz := 2) rfl rfl rfl rfl (by omega) (by omega)) rfl ?_
    refine ord_read rfl (fun _ hS => run_indexArr (len := 2) (el := 3) (sz := 1) rfl rfl rfl rfl (by omega) (by omega)) rfl ?_
    first
      | refine ord_read rfl (fun _ hS => run_load1_own hS rfl rfl (by first | exact .head | exact .tail .head | exact .tail (.tail .head) | exact .tail (.tail (.tail .head)) | exact .tail (.tail (.tail (.tail .head))) | exact .tail (.tail (.tail (.tail (.tail .head))))) (by repeat constructor)) rfl ?_
      | refine ord_read rfl (fun _ hS => run_load1 rfl rfl (by first | assumption | exact (hpx (X := [_, _, _, _]) _ hS).1 | exact (hpx (X := [_, _, _, _]) _ hS).2 | exact hS.cell0 (by assumption) | exact lv_next hS | exact lv_list hS)) rfl ?_
    refine ord_read rfl (fun _ hS => run_assign (by conv => lhs; whnf)) rfl ?_
    refine ord_read rfl (fun _ hS => run_assign (by conv => lhs; whnf)) rfl ?_
    refine ord_end ?_
    refine lst_done ?_
    refine goes_seq ?_
    refine goes_region ?_
    refine lst_run (run_move (by conv => lhs; whnf)) rfl ?_
    refine lst_run (run_move (by conv => lhs; whnf)) rfl ?_
    refine lst_run (run_len_slice rfl rfl rfl) rfl ?_
    first
      | refine lst_run (run_sub rfl rfl (by omega) (by omega)) rfl ?_
      | refine lst_run (run_sub_u8 rfl rfl) rfl ?_
    refine lst_run (run_slice_slice (sz := 2) rfl rfl rfl rfl (by omega) (by omega)) rfl ?_
    refine lst_run (run_assign (by conv => lhs; whnf)) rfl ?_
    refine lst_done ?_
    refine goes_seq ?_
    refine goes_region ?_
    refine lst_run (run_move (by conv => lhs; whnf)) rfl ?_
    first
      | refine lst_run (run_sub rfl rfl (by omega) (by omega)) rfl ?_
      | refine lst_run (run_sub_u8 rfl rfl) rfl ?_
    refine lst_run (run_assign (by conv => lhs; whnf)) rfl ?_
    refine lst_done ?_
    refine goes_seq ?_
    refine goes_seq ?_
    refine goes_region ?_
    refine lst_run (run_move (by conv => lhs; whnf)) rfl ?_
    first
      | refine lst_run (run_lss_yes rfl rfl (by omega)) rfl ?_
      | refine lst_run (run_lss_no rfl rfl (by omega)) rfl ?_
      | refine lst_run (rfl) rfl ?_
    refine lst_done ?_
    refine goes_false rfl ?_
    refine goes_skip ?_
    refine goes_seq ?_
    refine goes_draw (St _ _ _ _) 8 ((0, true) :: (1, true) :: (3, true) :: (4, true) :: (2, false) :: (5, false) :: (6, true) :: (7, true) :: []) (by kernel_rfl) (by kernel_rfl) (hS.drew) ?_
    replace hS := hS.drew
    first
      | refine ord_read rfl (fun _ hS => run_loadN_own (k := 2) hS rfl rfl rfl (by first | exact .head | exact .tail .head | exact .tail (.tail .head) | exact .tail (.tail (.tail .head)) | exact .tail (.tail (.tail (.tail .head))) | exact .tail (.tail (.tail (.tail (.tail .head))))) (by repeat constructor)) rfl ?_
      | refine ord_read rfl (fun _ hS => run_load2 rfl rfl rfl (by first | assumption | exact (hpx (X := [_, _, _, _]) _ hS).1 | exact (hpx (X := [_, _, _, _]) _ hS).2 | exact hS.cell0 (by assumption)) (by first | assumption | exact (hpx (X := [_, _, _, _]) _ hS).1 | exact (hpx (X := [_, _, _, _]) _ hS).2 | exact hS.cell0 (by assumption))) rfl ?_
    refine ord_read rfl (fun _ hS => run_move (by conv => lhs; whnf)) rfl ?_
    first
      | refine ord_read rfl (fun _ hS => run_loadN_own (k := 2) hS rfl rfl rfl (by first | exact .head | exact .tail .head | exact .tail (.tail .head) | exact .tail (.tail (.tail .head)) | exact .tail (.tail (.tail (.tail .head))) | exact .tail (.tail (.tail (.tail (.tail .head))))) (by repeat constructor)) rfl ?_
      | refine ord_read rfl (fun _ hS => run_load2 rfl rfl rfl (by first | assumption | exact (hpx (X := [_, _, _, _]) _ hS).1 | exact (hpx (X := [_, _, _, _]) _ hS).2 | exact hS.cell0 (by assumption)) (by first | assumption | exact (hpx (X := [_, _, _, _]) _ hS).1 | exact (hpx (X := [_, _, _, _]) _ hS).2 | exact hS.cell0 (by assumption))) rfl ?_
    refine ord_read rfl (fun _ hS => run_move (by conv => lhs; whnf)) rfl ?_
    refine ord_act rfl ?_
    refine lst_enter (run_call (by kernel_rfl) (args_2 (by conv => lhs; whnf) (by conv => lhs; whnf))) rfl ?_
    refine Calls.mono (hla (X := [_]) x hcl hS) ?_
    rintro _ w6 ⟨rfl, hb6⟩
    refine ⟨_, rfl, ?_⟩
    replace hS := hS.grow hb6
    refine lst_ord (by first | exact hS | exact hS.drop | exact hS.drop.drop | exact hS.drop.drop.drop | exact hS.unlearn | exact hS.unlearn.drop | exact hS.unlearn.drop.drop | exact hS.forget (by assumption) | exact hS.drop.forget (by assumption)) ?_
    refine ord_act rfl ?_
    refine lst_enter (run_call (by kernel_rfl) (args_2 (by conv => lhs; whnf) (by conv => lhs; whnf))) rfl ?_
    refine Calls.mono (hla (X := [_]) y hcl hS) ?_
    rintro _ w7 ⟨rfl, hb7⟩
    refine ⟨_, rfl, ?_⟩
    replace hS := hS.grow hb7
    refine lst_ord (by first | exact hS | exact hS.drop | exact hS.drop.drop | exact hS.drop.drop.drop | exact hS.unlearn | exact hS.unlearn.drop | exact hS.unlearn.drop.drop | exact hS.forget (by assumption) | exact hS.drop.forget (by assumption)) ?_
    refine ord_read rfl (fun _ hS => run_assign (by conv => lhs; whnf)) rfl ?_
    refine ord_read rfl (fun _ hS => run_assign (by conv => lhs; whnf)) rfl ?_
    refine ord_end ?_
    refine lst_done ?_
    refine goes_seq ?_
    refine goes_seq ?_
    refine goes_region ?_
    refine lst_run (run_move (by conv => lhs; whnf)) rfl ?_
    first
      | refine lst_run (run_lss_yes rfl rfl (by omega)) rfl ?_
      | refine lst_run (run_lss_no rfl rfl (by omega)) rfl ?_
      | refine lst_run (rfl) rfl ?_
    refine lst_run (run_move (by conv => lhs; whnf)) rfl ?_
    refine lst_guard rfl rfl ?_
    refine lst_run (run_move (by conv => lhs; whnf)) rfl ?_
    refine lst_guard rfl rfl ?_
    first
      | refine lst_run (run_lss_yes rfl rfl (by omega)) rfl ?_
      | refine lst_run (run_lss_no rfl rfl (by omega)) rfl ?_
      | refine lst_run (rfl) rfl ?_
    first
      | refine lst_run (run_pick_t rfl (by conv => lhs; whnf)) rfl ?_
      | refine lst_run (run_pick_f rfl (by conv => lhs; whnf)) rfl ?_
    refine lst_done ?_
    refine goes_true rfl ?_
    refine goes_seq ?_
    refine goes_region ?_
    first
      | refine lst_run (run_loadN_own (k := 2) hS rfl rfl rfl (by first | exact .head | exact .tail .head | exact .tail (.tail .head) | exact .tail (.tail (.tail .head)) | exact .tail (.tail (.tail (.tail .head))) | exact .tail (.tail (.tail (.tail (.tail .head))))) (by repeat constructor)) rfl ?_
      | refine lst_run (run_load2 rfl rfl rfl (by first | assumption | exact (hpx (X := [_, _, _, _]) _ hS).1 | exact (hpx (X := [_, _, _, _]) _ hS).2 | exact hS.cell0 (by assumption)) (by first | assumption | exact (hpx (X := [_, _, _, _]) _ hS).1 | exact (hpx (X := [_, _, _, _]) _ hS).2 | exact hS.cell0 (by assumption))) rfl ?_
    refine lst_storeN hS rfl (by conv => lhs; whnf) rfl rfl (by first | exact .head | exact .tail .head | exact .tail (.tail .head) | exact .tail (.tail (.tail .head)) | exact .tail (.tail (.tail (.tail .head))) | exact .tail (.tail (.tail (.tail (.tail .head))))) (by repeat constructor) (by first | exact .head | exact .tail .head | exact .tail (.tail .head) | exact .tail (.tail (.tail .head)) | exact .tail (.tail (.tail (.tail .head))) | exact .tail (.tail (.tail (.tail (.tail .head))))) ?_
    clear hS
    intro wx6 hS
    refine lst_run (run_assign (by conv => lhs; whnf)) rfl ?_
    refine lst_run (run_assign (by conv => lhs; whnf)) rfl ?_
    refine lst_done ?_
    refine goes_retC3 (sz := 2) hS Try.func13 rfl rfl (by conv => lhs; whnf) (by conv => lhs; whnf) rfl rfl (by first | exact .head | exact .tail .head | exact .tail (.tail .head) | exact .tail (.tail (.tail .head)) | exact .tail (.tail (.tail (.tail .head))) | exact .tail (.tail (.tail (.tail (.tail .head))))) (by repeat constructor) ?_
    exact ⟨A, c, B, d, F, rfl, fun _ h => h, hH, hback (X := Ot) hS.drop.drop.drop.drop⟩
  have hls : ((u.step.look x).2.look y).2.lg = false := by rw [hlgs, decide_eq_false (by omega)]
  have hGs : GU h.cs.length ((u.step.look x).2.look y).2 := (hG.step.look x).look y
  obtain ⟨_, _, _, ex, ey, hscs, hstr, hsw⟩ := looks_ok hls
  rw [uni_unfold hG hls] at hrr
  generalize ((u.step.look x).2.look y).2 = s at *
  rw [← hscs] at hrr hxn hyn ex ey hS hcl
  rw [← hstr] at hS hrowt htl
  obtain ⟨cx, hcx, hcxe⟩ := ex.last
  obtain ⟨cy, hcy, hcye⟩ := ey.last
  obtain ⟨p0, p1, hgx⟩ := hat_get hcx
  obtain ⟨q0, q1, hgy⟩ := hat_get hcy
  have hscl := hGs.len
  have hws : s.w ≤ 400 := hGs.wk hls
  have htls := hGs.trl
  clear hlgs hlongr hG hr
  refine goes_seq ?_
  refine goes_seq ?_
  refine goes_region ?_
  refine lst_run (run_move (by conv => lhs; whnf)) rfl ?_
  refine lst_run (run_len_slice rfl rfl rfl) rfl ?_
  first
    | refine lst_run (run_gtr_yes rfl rfl (by omega)) rfl ?_
    | refine lst_run (run_gtr_no rfl rfl (by omega)) rfl ?_
    | refine lst_run (rfl) rfl ?_
  refine lst_done ?_
  refine goes_true rfl ?_
  refine goes_skip ?_
  refine goes_block ?_
  refine goes_seq ?_
  refine goes_draw (St _ _ _ _) 16 ((0, true) :: (1, true) :: (2, true) :: (3, true) :: (4, true) :: (5, true) :: (6, true) :: (7, true) :: (8, true) :: (9, true) :: (10, true) :: (11, true) :: (12, true) :: (13, true) :: (14, true) :: (15, true) :: []) (by kernel_rfl) (by kernel_rfl) (hS.drew) ?_
  replace hS := hS.drew
  refine ord_read rfl (fun _ hS => run_move (by conv => lhs; whnf)) rfl ?_
  refine ord_read rfl (fun _ hS => run_move (by conv => lhs; whnf)) rfl ?_
  refine ord_read rfl (fun _ hS => run_len_slice rfl rfl rfl) rfl ?_
  first
    | refine ord_read rfl (fun _ hS => run_sub rfl rfl (by omega) (by omega)) rfl ?_
    | refine ord_read rfl (fun _ hS => run_sub_u8 rfl rfl) rfl ?_
  refine ord_read rfl (fun _ hS => run_indexAddr (sz := 2) rfl rfl rfl rfl (by omega) (by omega)) rfl ?_
  refine ord_read rfl (fun _ hS => run_indexArr (len := 2) (el := 3) (sz := 1) rfl rfl rfl rfl (by omega) (by omega)) rfl ?_
  first
    | refine ord_read rfl (fun _ hS => run_load1_own hS rfl rfl (by first | exact .head | exact .tail .head | exact .tail (.tail .head) | exact .tail (.tail (.tail .head)) | exact .tail (.tail (.tail (.tail .head))) | exact .tail (.tail (.tail (.tail (.tail .head))))) (by repeat constructor)) rfl ?_
    | refine ord_read rfl (fun _ hS => run_load1 rfl rfl (by first | assumption | exact (hpx (X := [_, _, _, _]) _ hS).1 | exact (hpx (X := [_, _, _, _]) _ hS).2 | exact hS.cell0 (by assumption) | exact lv_next hS | exact lv_list hS)) rfl ?_
  refine ord_read rfl (fun _ hS => run_move (by conv => lhs; whnf)) rfl ?_
  refine ord_read rfl (fun _ hS => run_move (by conv => lhs; whnf)) rfl ?_
  refine ord_read rfl (fun _ hS => run_len_slice rfl rfl rfl) rfl ?_
  first
    | refine ord_read rfl (fun _ hS => run_sub rfl rfl (by omega) (by omega)) rfl ?_
    | refine ord_read rfl (fun _ hS => run_sub_u8 rfl rfl) rfl ?_
  refine ord_read rfl (fun _ hS => run_indexAddr (sz := 2) rfl rfl rfl rfl (by omega) (by omega)) rfl ?_
  refine ord_read rfl (fun _ hS => run_indexArr (len := 2) (el := 3) (sz := 1) rfl rfl rfl rfl (by omega) (by omega)) rfl ?_
  first
    | refine ord_read rfl (fun _ hS => run_load1_own hS rfl rfl (by first | exact .head | exact .tail .head | exact .tail (.tail .head) | exact .tail (.tail (.tail .head)) | exact .tail (.tail (.tail (.tail .head))) | exact .tail (.tail (.tail (.tail (.tail .head))))) (by repeat constructor)) rfl ?_
    | refine ord_read rfl (fun _ hS => run_load1 rfl rfl (by first | assumption | exact (hpx (X := [_, _, _, _]) _ hS).1 | exact (hpx (X := [_, _, _, _]) _ hS).2 | exact hS.cell0 (by assumption) | exact lv_next hS | exact lv_list hS)) rfl ?_
  refine ord_read rfl (fun _ hS => run_assign (by conv => lhs; whnf)) rfl ?_
  refine ord_read rfl (fun _ hS => run_assign (by conv => lhs; whnf)) rfl ?_
  refine ord_end ?_
  refine lst_done ?_
  refine goes_seq ?_
  refine goes_region ?_
  refine lst_run (run_move (by conv => lhs; whnf)) rfl ?_
  refine lst_run (run_move (by conv => lhs; whnf)) rfl ?_
  refine lst_run (run_len_slice rfl rfl rfl) rfl ?_
  first
    | refine lst_run (run_sub rfl rfl (by omega) (by omega)) rfl ?_
    | refine lst_run (run_sub_u8 rfl rfl) rfl ?_
  refine lst_run (run_slice_slice (sz := 2) rfl rfl rfl rfl (by omega) (by omega)) rfl ?_
  refine lst_run (run_assign (by conv => lhs; whnf)) rfl ?_
  refine lst_done ?_
  refine goes_seq ?_
  refine goes_region ?_
  refine lst_run (run_move (by conv => lhs; whnf)) rfl ?_
  first
    | refine lst_run (run_sub rfl rfl (by omega) (by omega)) rfl ?_
    | refine lst_run (run_sub_u8 rfl rfl) rfl ?_
  refine lst_run (run_assign (by conv => lhs; whnf)) rfl ?_
  refine lst_done ?_
  refine goes_seq ?_
  refine goes_seq ?_
  refine goes_region ?_
  refine lst_run (run_move (by conv => lhs; whnf)) rfl ?_
  first
    | refine lst_run (run_lss_yes rfl rfl (by omega)) rfl ?_
    | refine lst_run (run_lss_no rfl rfl (by omega)) rfl ?_
    | refine lst_run (rfl) rfl ?_
  refine lst_done ?_
  refine goes_false rfl ?_
  refine goes_skip ?_
  refine goes_seq ?_
  refine goes_draw (St _ _ _ _) 8 ((0, true) :: (1, true) :: (3, true) :: (4, true) :: (2, false) :: (5, false) :: (6, true) :: (7, true) :: []) (by kernel_rfl) (by kernel_rfl) (hS.drew) ?_
  replace hS := hS.drew
  first
    | refine ord_read rfl (fun _ hS => run_loadN_own (k := 2) hS rfl rfl rfl (by first | exact .head | exact .tail .head | exact .tail (.tail .head) | exact .tail (.tail (.tail .head)) | exact .tail (.tail (.tail (.tail .head))) | exact .tail (.tail (.tail (.tail (.tail .head))))) (by repeat constructor)) rfl ?_
    | refine ord_read rfl (fun _ hS => run_load2 rfl rfl rfl (by first | assumption | exact (hpx (X := [_, _, _, _]) _ hS).1 | exact (hpx (X := [_, _, _, _]) _ hS).2 | exact hS.cell0 (by assumption)) (by first | assumption | exact (hpx (X := [_, _, _, _]) _ hS).1 | exact (hpx (X := [_, _, _, _]) _ hS).2 | exact hS.cell0 (by assumption))) rfl ?_
  refine ord_read rfl (fun _ hS => run_move (by conv => lhs; whnf)) rfl ?_
  first
    | refine ord_read rfl (fun _ hS => run_loadN_own (k := 2) hS rfl rfl rfl (by first | exact .head | exact .tail .head | exact .tail (.tail .head) | exact .tail (.tail (.tail .head)) | exact .tail (.tail (.tail (.tail .head))) | exact .tail (.tail (.tail (.tail (.tail .head))))) (by repeat constructor)) rfl ?_
    | refine ord_read rfl (fun _ hS => run_load2 rfl rfl rfl (by first | assumption | exact (hpx (X := [_, _, _, _]) _ hS).1 | exact (hpx (X := [_, _, _, _]) _ hS).2 | exact hS.cell0 (by assumption)) (by first | assumption | exact (hpx (X := [_, _, _, _]) _ hS).1 | exact (hpx (X := [_, _, _, _]) _ hS).2 | exact hS.cell0 (by assumption))) rfl ?_
  refine ord_read rfl (fun _ hS => run_move (by conv => lhs; whnf)) rfl ?_
  refine ord_act rfl ?_
  refine lst_enter (run_call (by kernel_rfl) (args_2 (by conv => lhs; whnf) (by conv => lhs; whnf))) rfl ?_
  refine Calls.mono (hla (X := [_]) (u' := s) x hscl hS) ?_
  rintro _ w6 ⟨rfl, hb6⟩
  refine ⟨_, rfl, ?_⟩
  replace hS := hS.grow hb6
  refine lst_ord (by first | exact hS | exact hS.drop | exact hS.drop.drop | exact hS.drop.drop.drop | exact hS.unlearn | exact hS.unlearn.drop | exact hS.unlearn.drop.drop | exact hS.forget (by assumption) | exact hS.drop.forget (by assumption)) ?_
  refine ord_act rfl ?_
  refine lst_enter (run_call (by kernel_rfl) (args_2 (by conv => lhs; whnf) (by conv => lhs; whnf))) rfl ?_
  refine Calls.mono (hla (X := [_]) (u' := s) y hscl hS) ?_
  rintro _ w7 ⟨rfl, hb7⟩
  refine ⟨_, rfl, ?_⟩
  replace hS := hS.grow hb7
  refine lst_ord (by first | exact hS | exact hS.drop | exact hS.drop.drop | exact hS.drop.drop.drop | exact hS.unlearn | exact hS.unlearn.drop | exact hS.unlearn.drop.drop | exact hS.forget (by assumption) | exact hS.drop.forget (by assumption)) ?_
  refine ord_read rfl (fun _ hS => run_assign (by conv => lhs; whnf)) rfl ?_
  refine ord_read rfl (fun _ hS => run_assign (by conv => lhs; whnf)) rfl ?_
  refine ord_end ?_
  refine lst_done ?_
  refine goes_seq ?_
  refine goes_seq ?_
  refine goes_region ?_
  refine lst_run (run_move (by conv => lhs; whnf)) rfl ?_
  first
    | refine lst_run (run_lss_yes rfl rfl (by omega)) rfl ?_
    | refine lst_run (run_lss_no rfl rfl (by omega)) rfl ?_
    | refine lst_run (rfl) rfl ?_
  refine lst_run (run_move (by conv => lhs; whnf)) rfl ?_
  refine lst_guard rfl rfl ?_
  refine lst_run (run_move (by conv => lhs; whnf)) rfl ?_
  refine lst_guard rfl rfl ?_
  first
    | refine lst_run (run_lss_yes rfl rfl (by omega)) rfl ?_
    | refine lst_run (run_lss_no rfl rfl (by omega)) rfl ?_
    | refine lst_run (rfl) rfl ?_
  first
    | refine lst_run (run_pick_t rfl (by conv => lhs; whnf)) rfl ?_
    | refine lst_run (run_pick_f rfl (by conv => lhs; whnf)) rfl ?_
  refine lst_done ?_
  refine goes_false rfl ?_
  refine goes_skip ?_
  refine goes_seq ?_
  generalize hlook s.cs x = p at *
  generalize hlook s.cs y = q at *
  have hcg : ∀ {X Y : List (Nat × Obj)} {F' : List (World → Prop)} {i : Int} {z : HC} {s' : HU} (w' : World), hat s'.cs i = some z → s'.cs.length = h.cs.length → St M w0 (X ++ (g, cob s'.cs sp) :: Y) F' w' → w'.cell? ⟨g, 0 + i.toNat * 3, none⟩ = some (.int .i64 z.k) ∧ w'.cell? ⟨g, 0 + i.toNat * 3 + 1, none⟩ = some (.int .i64 z.n) ∧ w'.cell? ⟨g, 0 + i.toNat * 3 + 2, none⟩ = some (.string z.s) := fun {X Y F' i z s'} w' hz hl hS =>
    (Flat.own (cap := s'.cs.length) (hS.own (g, cob s'.cs sp) (by simp)) (hcsL_len s'.cs) (Nat.le_refl _)).cell (hat_get hz).2.2
  refine goes_meet2 15 16 (94 :: 95 :: 96 :: 97 :: 98 :: 99 :: 100 :: 101 :: 102 :: 103 :: []) (fun v z w' => ∃ b5 b6, v = .pointer (some ⟨b5, 0, none⟩) ∧ z = .pointer (some ⟨b6, 0, none⟩) ∧ St M w0 ((b5, .cells (hcs cx).toArray 59) :: (b6, .cells (hcs cy).toArray 59) :: (b3, hob (some ⟨g, 0, none⟩) h.cs.length c3 Bt s.tr.length d5) :: (g, cob s.cs sp) :: (b2, hob none 0 0 none 0 0) :: (b1, hob A h.cs.length c B h.tr.length d) :: (Ot ++ ([(lb, .cells (prs (Lq ++ [(x, y)]) ++ lsp).toArray 65)] ++ H))) F w') ?_ ?_
  · intro hmeet
    refine goes_plan (St _ _ _ _) 14 (.read 0 (.read 1 (.read 2 (.read 3 (.read 4 (.read 5 (.read 6 (.read 7 (.read 8 (.read 9 (.pick 10 (.pick 11 (.pick 12 (.pick 13 .tail .none) .none) .none) (.pick 11 (.pick 10 (.pick 12 (.pick 13 .tail .none) .none) .none) .none)))))))))))) (by kernel_rfl) (by kernel_rfl) hS.drew ?_
    replace hS := hS.drew
    refine pln_read rfl (fun _ hS => run_fieldAddr (off := 0) rfl rfl) rfl ?_
    first
      | refine pln_read rfl (fun _ hS => run_load1_own hS rfl rfl (by first | exact .head | exact .tail .head | exact .tail (.tail .head) | exact .tail (.tail (.tail .head)) | exact .tail (.tail (.tail (.tail .head))) | exact .tail (.tail (.tail (.tail (.tail .head))))) (by repeat constructor)) rfl ?_
      | refine pln_read rfl (fun _ hS => run_load1 rfl rfl (by first | assumption | exact (hcg (X := [_]) _ hcx hscl hS).1 | exact (hcg (X := [_]) _ hcx hscl hS).2.1 | exact (hcg (X := [_]) _ hcx hscl hS).2.2 | exact (hcg (X := [_]) _ hcy hscl hS).1 | exact (hcg (X := [_]) _ hcy hscl hS).2.1 | exact (hcg (X := [_]) _ hcy hscl hS).2.2 | exact hS.cell0 (by assumption) | exact lv_next hS | exact lv_list hS)) rfl ?_
    refine pln_read rfl (fun _ hS => run_move (by conv => lhs; whnf)) rfl ?_
    refine pln_read rfl (fun _ hS => run_indexAddr (sz := 3) rfl rfl rfl rfl (by omega) (by omega)) rfl ?_
    first
      | refine pln_read rfl (fun _ hS => run_loadN_own (k := 3) hS rfl rfl rfl (by first | exact .head | exact .tail .head | exact .tail (.tail .head) | exact .tail (.tail (.tail .head)) | exact .tail (.tail (.tail (.tail .head))) | exact .tail (.tail (.tail (.tail (.tail .head))))) (by repeat constructor)) rfl ?_
      | refine pln_read rfl (fun _ hS => run_load3 rfl rfl rfl (by first | assumption | exact (hcg (X := [_]) _ hcx hscl hS).1 | exact (hcg (X := [_]) _ hcx hscl hS).2.1 | exact (hcg (X := [_]) _ hcx hscl hS).2.2 | exact (hcg (X := [_]) _ hcy hscl hS).1 | exact (hcg (X := [_]) _ hcy hscl hS).2.1 | exact (hcg (X := [_]) _ hcy hscl hS).2.2 | exact hS.cell0 (by assumption)) (by first | assumption | exact (hcg (X := [_]) _ hcx hscl hS).1 | exact (hcg (X := [_]) _ hcx hscl hS).2.1 | exact (hcg (X := [_]) _ hcx hscl hS).2.2 | exact (hcg (X := [_]) _ hcy hscl hS).1 | exact (hcg (X := [_]) _ hcy hscl hS).2.1 | exact (hcg (X := [_]) _ hcy hscl hS).2.2 | exact hS.cell0 (by assumption)) (by first | assumption | exact (hcg (X := [_]) _ hcx hscl hS).1 | exact (hcg (X := [_]) _ hcx hscl hS).2.1 | exact (hcg (X := [_]) _ hcx hscl hS).2.2 | exact (hcg (X := [_]) _ hcy hscl hS).1 | exact (hcg (X := [_]) _ hcy hscl hS).2.1 | exact (hcg (X := [_]) _ hcy hscl hS).2.2 | exact hS.cell0 (by assumption))) rfl ?_
    refine pln_read rfl (fun _ hS => run_fieldAddr (off := 0) rfl rfl) rfl ?_
    first
      | refine pln_read rfl (fun _ hS => run_load1_own hS rfl rfl (by first | exact .head | exact .tail .head | exact .tail (.tail .head) | exact .tail (.tail (.tail .head)) | exact .tail (.tail (.tail (.tail .head))) | exact .tail (.tail (.tail (.tail (.tail .head))))) (by repeat constructor)) rfl ?_
      | refine pln_read rfl (fun _ hS => run_load1 rfl rfl (by first | assumption | exact (hcg (X := [_]) _ hcx hscl hS).1 | exact (hcg (X := [_]) _ hcx hscl hS).2.1 | exact (hcg (X := [_]) _ hcx hscl hS).2.2 | exact (hcg (X := [_]) _ hcy hscl hS).1 | exact (hcg (X := [_]) _ hcy hscl hS).2.1 | exact (hcg (X := [_]) _ hcy hscl hS).2.2 | exact hS.cell0 (by assumption) | exact lv_next hS | exact lv_list hS)) rfl ?_
    refine pln_read rfl (fun _ hS => run_move (by conv => lhs; whnf)) rfl ?_
    refine pln_read rfl (fun _ hS => run_indexAddr (sz := 3) rfl rfl rfl rfl (by omega) (by omega)) rfl ?_
    first
      | refine pln_read rfl (fun _ hS => run_loadN_own (k := 3) hS rfl rfl rfl (by first | exact .head | exact .tail .head | exact .tail (.tail .head) | exact .tail (.tail (.tail .head)) | exact .tail (.tail (.tail (.tail .head))) | exact .tail (.tail (.tail (.tail (.tail .head))))) (by repeat constructor)) rfl ?_
      | refine pln_read rfl (fun _ hS => run_load3 rfl rfl rfl (by first | assumption | exact (hcg (X := [_]) _ hcx hscl hS).1 | exact (hcg (X := [_]) _ hcx hscl hS).2.1 | exact (hcg (X := [_]) _ hcx hscl hS).2.2 | exact (hcg (X := [_]) _ hcy hscl hS).1 | exact (hcg (X := [_]) _ hcy hscl hS).2.1 | exact (hcg (X := [_]) _ hcy hscl hS).2.2 | exact hS.cell0 (by assumption)) (by first | assumption | exact (hcg (X := [_]) _ hcx hscl hS).1 | exact (hcg (X := [_]) _ hcx hscl hS).2.1 | exact (hcg (X := [_]) _ hcx hscl hS).2.2 | exact (hcg (X := [_]) _ hcy hscl hS).1 | exact (hcg (X := [_]) _ hcy hscl hS).2.1 | exact (hcg (X := [_]) _ hcy hscl hS).2.2 | exact hS.cell0 (by assumption)) (by first | assumption | exact (hcg (X := [_]) _ hcx hscl hS).1 | exact (hcg (X := [_]) _ hcx hscl hS).2.1 | exact (hcg (X := [_]) _ hcx hscl hS).2.2 | exact (hcg (X := [_]) _ hcy hscl hS).1 | exact (hcg (X := [_]) _ hcy hscl hS).2.1 | exact (hcg (X := [_]) _ hcy hscl hS).2.2 | exact hS.cell0 (by assumption))) rfl ?_
    refine pln_pick rfl ?_ ?_
    · refine lst_alloc (cs := [_, _, _]) hS rfl rfl rfl ?_
      clear hS
      intro b5 wx6 hS
      refine lst_pln (by first | exact hS | exact hS.drop | exact hS.drop.drop | exact hS.drop.drop.drop | exact hS.unlearn | exact hS.unlearn.drop | exact hS.unlearn.drop.drop) ?_
      refine pln_last rfl ?_
      refine lst_alloc (cs := [_, _, _]) hS rfl rfl rfl ?_
      clear hS
      intro b6 wx7 hS
      refine lst_pln (by first | exact hS | exact hS.drop | exact hS.drop.drop | exact hS.drop.drop.drop | exact hS.unlearn | exact hS.unlearn.drop | exact hS.unlearn.drop.drop) ?_
      refine pln_last rfl ?_
      refine lst_storeN hS rfl (by conv => lhs; whnf) rfl rfl (by first | exact .head | exact .tail .head | exact .tail (.tail .head) | exact .tail (.tail (.tail .head)) | exact .tail (.tail (.tail (.tail .head))) | exact .tail (.tail (.tail (.tail (.tail .head))))) (by repeat constructor) (by first | exact .head | exact .tail .head | exact .tail (.tail .head) | exact .tail (.tail (.tail .head)) | exact .tail (.tail (.tail (.tail .head))) | exact .tail (.tail (.tail (.tail (.tail .head))))) ?_
      clear hS
      intro wx8 hS
      refine lst_pln (by first | exact hS | exact hS.drop | exact hS.drop.drop | exact hS.drop.drop.drop | exact hS.unlearn | exact hS.unlearn.drop | exact hS.unlearn.drop.drop) ?_
      refine pln_last rfl ?_
      refine lst_storeN hS rfl (by conv => lhs; whnf) rfl rfl (by first | exact .head | exact .tail .head | exact .tail (.tail .head) | exact .tail (.tail (.tail .head)) | exact .tail (.tail (.tail (.tail .head))) | exact .tail (.tail (.tail (.tail (.tail .head))))) (by repeat constructor) (by first | exact .head | exact .tail .head | exact .tail (.tail .head) | exact .tail (.tail (.tail .head)) | exact .tail (.tail (.tail (.tail .head))) | exact .tail (.tail (.tail (.tail (.tail .head))))) ?_
      clear hS
      intro wx9 hS
      refine lst_pln (by first | exact hS | exact hS.drop | exact hS.drop.drop | exact hS.drop.drop.drop | exact hS.unlearn | exact hS.unlearn.drop | exact hS.unlearn.drop.drop) ?_
      refine pln_tail ?_
      refine lst_done ?_
      exact hmeet _ _ _ _ ⟨_, _, rfl, rfl, by first | exact hS | exact hS.swap⟩ (by conv => lhs; whnf) (by conv => lhs; whnf) (by kernel_rfl)
    refine pln_last rfl ?_
    refine lst_alloc (cs := [_, _, _]) hS rfl rfl rfl ?_
    clear hS
    intro b7 wx10 hS
    refine lst_pln (by first | exact hS | exact hS.drop | exact hS.drop.drop | exact hS.drop.drop.drop | exact hS.unlearn | exact hS.unlearn.drop | exact hS.unlearn.drop.drop) ?_
    refine pln_last rfl ?_
    refine lst_alloc (cs := [_, _, _]) hS rfl rfl rfl ?_
    clear hS
    intro b8 wx11 hS
    refine lst_pln (by first | exact hS | exact hS.drop | exact hS.drop.drop | exact hS.drop.drop.drop | exact hS.unlearn | exact hS.unlearn.drop | exact hS.unlearn.drop.drop) ?_
    refine pln_last rfl ?_
    refine lst_storeN hS rfl (by conv => lhs; whnf) rfl rfl (by first | exact .head | exact .tail .head | exact .tail (.tail .head) | exact .tail (.tail (.tail .head)) | exact .tail (.tail (.tail (.tail .head))) | exact .tail (.tail (.tail (.tail (.tail .head))))) (by repeat constructor) (by first | exact .head | exact .tail .head | exact .tail (.tail .head) | exact .tail (.tail (.tail .head)) | exact .tail (.tail (.tail (.tail .head))) | exact .tail (.tail (.tail (.tail (.tail .head))))) ?_
    clear hS
    intro wx12 hS
    refine lst_pln (by first | exact hS | exact hS.drop | exact hS.drop.drop | exact hS.drop.drop.drop | exact hS.unlearn | exact hS.unlearn.drop | exact hS.unlearn.drop.drop) ?_
    refine pln_last rfl ?_
    refine lst_storeN hS rfl (by conv => lhs; whnf) rfl rfl (by first | exact .head | exact .tail .head | exact .tail (.tail .head) | exact .tail (.tail (.tail .head)) | exact .tail (.tail (.tail (.tail .head))) | exact .tail (.tail (.tail (.tail (.tail .head))))) (by repeat constructor) (by first | exact .head | exact .tail .head | exact .tail (.tail .head) | exact .tail (.tail (.tail .head)) | exact .tail (.tail (.tail (.tail .head))) | exact .tail (.tail (.tail (.tail (.tail .head))))) ?_
    clear hS
    intro wx13 hS
    refine lst_pln (by first | exact hS | exact hS.drop | exact hS.drop.drop | exact hS.drop.drop.drop | exact hS.unlearn | exact hS.unlearn.drop | exact hS.unlearn.drop.drop) ?_
    refine pln_tail ?_
    refine lst_done ?_
    exact hmeet _ _ _ _ ⟨_, _, rfl, rfl, by first | exact hS | exact hS.swap⟩ (by conv => lhs; whnf) (by conv => lhs; whnf) (by kernel_rfl)
  clear hS
  rintro jv2 _ _ w8 ⟨b5, b6, rfl, rfl, hS⟩
  have hkx : kindAt s.cs p = cx.k := by unfold kindAt; rw [hcx]
  have hky : kindAt s.cs q = cy.k := by unfold kindAt; rw [hcy]
  have hrr2 : r = contS (if cx.k = 0 then (if cy.k = 0 then (if p = q then (true, s) else (true, s.bind (max p q) (min p q))) else asgU p q s) else if cy.k = 0 then asgU q p s else partsU (uniU 401) p q s) Lq.reverse := by
    rw [hrr]; unfold oneU; rw [hkx, hky]
  clear hrr
  -- to bind, and go on
  have hbnd : ∀ {X : List (Nat × Obj)} {w' : World} {s' : HU} {Bz : Option Addr} {dz : Nat} {Oz Oy : List (Nat × Obj)} (i j : Int) (z : HC), hat s'.cs i = some z → s'.tr.length ≤ 1000000 → s'.cs.length = h.cs.length → Rw 3 1 (.slice Bz s'.tr.length dz) s'.tr.length (intsV s'.tr) Oz → St M w0 (X ++ (b3, hob (some ⟨g, 0, none⟩) h.cs.length c3 Bz s'.tr.length dz) :: (g, cob s'.cs sp) :: (b2, hob none 0 0 none 0 0) :: (b1, hob A h.cs.length c B h.tr.length d) :: (Oz ++ (Oy ++ H))) F w' →
      Calls Try.prog 43 #[.int .i64 i, .int .i64 j, ptr b3] w' fun e w'' => e = .returned (.tuple #[]) ∧ ∃ (B' : Option Addr) (d' : Nat) (O' : List (Nat × Obj)), Rw 3 1 (.slice B' (s'.bind i j).tr.length d') (s'.bind i j).tr.length (intsV (s'.bind i j).tr) O' ∧ St M w0 ((b3, hob (some ⟨g, 0, none⟩) h.cs.length c3 B' (s'.bind i j).tr.length d') :: (g, cob (s'.bind i j).cs sp) :: (b2, hob none 0 0 none 0 0) :: (b1, hob A h.cs.length c B h.tr.length d) :: (O' ++ (Oy ++ H))) F w'' := fun {X w' s' Bz dz Oz Oy} i j z hz ht hsl hrw hS => by
    have hS2 : St M w0 ((b3, hob (some ⟨g, 0, none⟩) s'.cs.length c3 Bz s'.tr.length dz) :: (g, cob s'.cs sp) :: (Oz ++ (X ++ ((b2, hob none 0 0 none 0 0) :: (b1, hob A h.cs.length c B h.tr.length d) :: (Oy ++ H))))) F w' := by
      rw [hsl]
      refine hS.perm ?_
      refine (List.perm_append_comm_assoc X [_, _] _).trans (.cons _ (.cons _ ?_))
      exact (List.Perm.append_left X (List.perm_append_comm_assoc [_, _] Oz _)).trans (List.perm_append_comm_assoc X Oz _)
    refine (rbind_any s' i j z w' hz ht ⟨Bz, dz, Oz, hrw, hS2⟩).mono fun e w'' ⟨he, B', d', O', hr', hS'⟩ => ⟨he, B', d', O', hr', ?_⟩
    have hbl : (s'.bind i j).cs.length = h.cs.length := by simp only [HU.bind]; rw [setN_len]; exact hsl
    rw [hbl] at hS'
    refine St.dropL (L := X) (hS'.perm ?_)
    refine (List.Perm.cons _ (List.Perm.cons _ ((List.perm_append_comm_assoc O' X _).trans (List.Perm.append_left X (List.perm_append_comm_assoc O' [_, _] _))))).trans ?_
    exact List.perm_append_comm_assoc [_, _] X _
  by_cases kx : cx.k = 0
  · have hxn2 : cx.n = p := Classical.byContradiction fun e => hcxe ⟨kx, e⟩
    rw [if_pos kx] at hrr2
    by_cases ky : cy.k = 0
    · have hyn2 : cy.n = q := Classical.byContradiction fun e => hcye ⟨ky, e⟩
      rw [if_pos ky] at hrr2
      by_cases hpq : p = q
      · rw [if_pos hpq] at hrr2
        refine goes_seq ?_
        refine goes_seq ?_
        refine goes_region ?_
        refine lst_run (run_fieldAddr (off := 0) rfl rfl) rfl ?_
        first
          | refine lst_run (run_load1_own hS rfl rfl (by first | exact .head | exact .tail .head | exact .tail (.tail .head) | exact .tail (.tail (.tail .head)) | exact .tail (.tail (.tail (.tail .head))) | exact .tail (.tail (.tail (.tail (.tail .head))))) (by repeat constructor)) rfl ?_
          | refine lst_run (run_load1 rfl rfl (by first | assumption | exact (hcg (X := [_]) _ hcx hscl hS).1 | exact (hcg (X := [_]) _ hcx hscl hS).2.1 | exact (hcg (X := [_]) _ hcx hscl hS).2.2 | exact (hcg (X := [_]) _ hcy hscl hS).1 | exact (hcg (X := [_]) _ hcy hscl hS).2.1 | exact (hcg (X := [_]) _ hcy hscl hS).2.2 | exact hS.cell0 (by assumption) | exact lv_next hS | exact lv_list hS)) rfl ?_
        first
          | refine lst_run (run_eql_one_int rfl rfl) rfl ?_
          | refine lst_run (run_eql_no rfl rfl (by first | assumption | omega)) rfl ?_
          | refine lst_run (run_eql_yes rfl rfl (by omega)) rfl ?_
          | refine lst_run (rfl) rfl ?_
        refine lst_run (run_move (by conv => lhs; whnf)) rfl ?_
        refine lst_guard rfl rfl ?_
        refine lst_run (run_fieldAddr (off := 0) rfl rfl) rfl ?_
        refine lst_guard rfl rfl ?_
        first
          | refine lst_run (run_load1_own hS rfl rfl (by first | exact .head | exact .tail .head | exact .tail (.tail .head) | exact .tail (.tail (.tail .head)) | exact .tail (.tail (.tail (.tail .head))) | exact .tail (.tail (.tail (.tail (.tail .head))))) (by repeat constructor)) rfl ?_
          | refine lst_run (run_load1 rfl rfl (by first | assumption | exact (hcg (X := [_]) _ hcx hscl hS).1 | exact (hcg (X := [_]) _ hcx hscl hS).2.1 | exact (hcg (X := [_]) _ hcx hscl hS).2.2 | exact (hcg (X := [_]) _ hcy hscl hS).1 | exact (hcg (X := [_]) _ hcy hscl hS).2.1 | exact (hcg (X := [_]) _ hcy hscl hS).2.2 | exact hS.cell0 (by assumption) | exact lv_next hS | exact lv_list hS)) rfl ?_
        refine lst_guard rfl rfl ?_
        first
          | refine lst_run (run_eql_one_int rfl rfl) rfl ?_
          | refine lst_run (run_eql_no rfl rfl (by first | assumption | omega)) rfl ?_
          | refine lst_run (run_eql_yes rfl rfl (by omega)) rfl ?_
          | refine lst_run (rfl) rfl ?_
        first
          | refine lst_run (run_pick_t rfl (by conv => lhs; whnf)) rfl ?_
          | refine lst_run (run_pick_f rfl (by conv => lhs; whnf)) rfl ?_
        refine lst_done ?_
        refine goes_true rfl ?_
        refine goes_seq ?_
        refine goes_seq ?_
        refine goes_region ?_
        refine lst_run (run_move (by conv => lhs; whnf)) rfl ?_
        refine lst_run (run_move (by conv => lhs; whnf)) rfl ?_
        first
          | refine lst_run (run_neq_one_int rfl rfl) rfl ?_
          | refine lst_run (run_neq_no rfl rfl (by first | assumption | omega)) rfl ?_
          | refine lst_run (run_neq_yes rfl rfl (by omega)) rfl ?_
          | refine lst_run (rfl) rfl ?_
        refine lst_done ?_
        refine goes_false rfl ?_
        refine goes_skip ?_
        refine goes_exit rfl ?_
        refine ih (Lq, s) _ _ _ _ ?_ ?_ (by conv => lhs; whnf) (by conv => lhs; whnf) (by kernel_rfl)
        · show 401 - s.w < 401 - u.w; omega
        · exact ⟨some ⟨lb, 0, none⟩, cl, d5, Bt, Ot, [(lb, .cells (prs (Lq ++ [(x, y)]) ++ lsp).toArray 65)], (by rw [show (((Lq.length + 1 : Nat) : Int) - 1).toNat = Lq.length by omega]), by show Value.int .i64 (400 - (u.w : Int) - 1) = .int .i64 (400 - (s.w : Nat)); congr 1; omega, hrr2, hGs, hls, by show Lq.length ≤ 1 + 4 * s.w; omega, hrowq, hrowt, hS.drop.drop⟩
      · rw [if_neg hpq] at hrr2
        have hmx : max p q = if p < q then q else p := by omega
        have hmn : min p q = if q < p then q else p := by omega
        have hhat : ∃ z, hat s.cs (max p q) = some z ∧ z.k = 0 := by
          rcases Int.le_total p q with hle | hle
          · rw [Int.max_eq_right hle]; exact ⟨cy, hcy, ky⟩
          · rw [Int.max_eq_left hle]; exact ⟨cx, hcx, kx⟩
        obtain ⟨z, hz, hzk⟩ := hhat
        have hGb : GU h.cs.length (s.bind (max p q) (min p q)) := hGs.bind hz hzk (by omega) (by omega) (by omega)
        refine goes_seq ?_
        refine goes_seq ?_
        refine goes_region ?_
        refine lst_run (run_fieldAddr (off := 0) rfl rfl) rfl ?_
        first
          | refine lst_run (run_load1_own hS rfl rfl (by first | exact .head | exact .tail .head | exact .tail (.tail .head) | exact .tail (.tail (.tail .head)) | exact .tail (.tail (.tail (.tail .head))) | exact .tail (.tail (.tail (.tail (.tail .head))))) (by repeat constructor)) rfl ?_
          | refine lst_run (run_load1 rfl rfl (by first | assumption | exact (hcg (X := [_]) _ hcx hscl hS).1 | exact (hcg (X := [_]) _ hcx hscl hS).2.1 | exact (hcg (X := [_]) _ hcx hscl hS).2.2 | exact (hcg (X := [_]) _ hcy hscl hS).1 | exact (hcg (X := [_]) _ hcy hscl hS).2.1 | exact (hcg (X := [_]) _ hcy hscl hS).2.2 | exact hS.cell0 (by assumption) | exact lv_next hS | exact lv_list hS)) rfl ?_
        first
          | refine lst_run (run_eql_one_int rfl rfl) rfl ?_
          | refine lst_run (run_eql_no rfl rfl (by first | assumption | omega)) rfl ?_
          | refine lst_run (run_eql_yes rfl rfl (by omega)) rfl ?_
          | refine lst_run (rfl) rfl ?_
        refine lst_run (run_move (by conv => lhs; whnf)) rfl ?_
        refine lst_guard rfl rfl ?_
        refine lst_run (run_fieldAddr (off := 0) rfl rfl) rfl ?_
        refine lst_guard rfl rfl ?_
        first
          | refine lst_run (run_load1_own hS rfl rfl (by first | exact .head | exact .tail .head | exact .tail (.tail .head) | exact .tail (.tail (.tail .head)) | exact .tail (.tail (.tail (.tail .head))) | exact .tail (.tail (.tail (.tail (.tail .head))))) (by repeat constructor)) rfl ?_
          | refine lst_run (run_load1 rfl rfl (by first | assumption | exact (hcg (X := [_]) _ hcx hscl hS).1 | exact (hcg (X := [_]) _ hcx hscl hS).2.1 | exact (hcg (X := [_]) _ hcx hscl hS).2.2 | exact (hcg (X := [_]) _ hcy hscl hS).1 | exact (hcg (X := [_]) _ hcy hscl hS).2.1 | exact (hcg (X := [_]) _ hcy hscl hS).2.2 | exact hS.cell0 (by assumption) | exact lv_next hS | exact lv_list hS)) rfl ?_
        refine lst_guard rfl rfl ?_
        first
          | refine lst_run (run_eql_one_int rfl rfl) rfl ?_
          | refine lst_run (run_eql_no rfl rfl (by first | assumption | omega)) rfl ?_
          | refine lst_run (run_eql_yes rfl rfl (by omega)) rfl ?_
          | refine lst_run (rfl) rfl ?_
        first
          | refine lst_run (run_pick_t rfl (by conv => lhs; whnf)) rfl ?_
          | refine lst_run (run_pick_f rfl (by conv => lhs; whnf)) rfl ?_
        refine lst_done ?_
        refine goes_true rfl ?_
        refine goes_seq ?_
        refine goes_seq ?_
        refine goes_region ?_
        refine lst_run (run_move (by conv => lhs; whnf)) rfl ?_
        refine lst_run (run_move (by conv => lhs; whnf)) rfl ?_
        first
          | refine lst_run (run_neq_one_int rfl rfl) rfl ?_
          | refine lst_run (run_neq_no rfl rfl (by first | assumption | omega)) rfl ?_
          | refine lst_run (run_neq_yes rfl rfl (by omega)) rfl ?_
          | refine lst_run (rfl) rfl ?_
        refine lst_done ?_
        refine goes_true rfl ?_
        refine goes_region ?_
        refine lst_run (run_move (by conv => lhs; whnf)) rfl ?_
        refine lst_run (run_move (by conv => lhs; whnf)) rfl ?_
        refine lst_run (run_move (by conv => lhs; whnf)) rfl ?_
        refine lst_run (run_max2 rfl rfl (by assumption)) rfl ?_
        refine lst_run (run_move (by conv => lhs; whnf)) rfl ?_
        refine lst_run (run_move (by conv => lhs; whnf)) rfl ?_
        refine lst_run (run_min2 rfl rfl (by assumption)) rfl ?_
        refine lst_enter (run_callv rfl (by kernel_rfl) (args_2 (by conv => lhs; whnf) (by conv => lhs; whnf))) rfl ?_
        refine Calls.mono (hbnd (X := [_, _]) (s' := s) (Oy := [(lb, .cells (prs (Lq ++ [(x, y)]) ++ lsp).toArray 65)]) (max p q) (min p q) z hz (by omega) hscl hrowt hS) ?_
        rintro _ w9 ⟨rfl, B9, d9, O9, hrow9, hS'⟩
        refine ⟨_, rfl, ?_⟩
        replace hS := hS'
        clear hS'
        refine lst_done ?_
        refine goes_exit rfl ?_
        refine ih (Lq, s.bind (max p q) (min p q)) _ _ _ _ ?_ ?_ (by conv => lhs; whnf) (by conv => lhs; whnf) (by kernel_rfl)
        · show 401 - s.w < 401 - u.w; omega
        · exact ⟨some ⟨lb, 0, none⟩, cl, d9, B9, O9, [(lb, .cells (prs (Lq ++ [(x, y)]) ++ lsp).toArray 65)], (by rw [show (((Lq.length + 1 : Nat) : Int) - 1).toNat = Lq.length by omega]), by show Value.int .i64 (400 - (u.w : Int) - 1) = .int .i64 (400 - (s.w : Nat)); congr 1; omega, hrr2, hGb, hls, by show Lq.length ≤ 1 + 4 * s.w; omega, hrowq, hrow9, hS⟩
    · rw [if_neg ky] at hrr2
      refine goes_seq ?_
      refine goes_seq ?_
      refine goes_region ?_
      refine lst_run (run_fieldAddr (off := 0) rfl rfl) rfl ?_
      first
        | refine lst_run (run_load1_own hS rfl rfl (by first | exact .head | exact .tail .head | exact .tail (.tail .head) | exact .tail (.tail (.tail .head)) | exact .tail (.tail (.tail (.tail .head))) | exact .tail (.tail (.tail (.tail (.tail .head))))) (by repeat constructor)) rfl ?_
        | refine lst_run (run_load1 rfl rfl (by first | assumption | exact (hcg (X := [_]) _ hcx hscl hS).1 | exact (hcg (X := [_]) _ hcx hscl hS).2.1 | exact (hcg (X := [_]) _ hcx hscl hS).2.2 | exact (hcg (X := [_]) _ hcy hscl hS).1 | exact (hcg (X := [_]) _ hcy hscl hS).2.1 | exact (hcg (X := [_]) _ hcy hscl hS).2.2 | exact hS.cell0 (by assumption) | exact lv_next hS | exact lv_list hS)) rfl ?_
      first
        | refine lst_run (run_eql_one_int rfl rfl) rfl ?_
        | refine lst_run (run_eql_no rfl rfl (by first | assumption | omega)) rfl ?_
        | refine lst_run (run_eql_yes rfl rfl (by omega)) rfl ?_
        | refine lst_run (rfl) rfl ?_
      refine lst_run (run_move (by conv => lhs; whnf)) rfl ?_
      refine lst_guard rfl rfl ?_
      refine lst_run (run_fieldAddr (off := 0) rfl rfl) rfl ?_
      refine lst_guard rfl rfl ?_
      first
        | refine lst_run (run_load1_own hS rfl rfl (by first | exact .head | exact .tail .head | exact .tail (.tail .head) | exact .tail (.tail (.tail .head)) | exact .tail (.tail (.tail (.tail .head))) | exact .tail (.tail (.tail (.tail (.tail .head))))) (by repeat constructor)) rfl ?_
        | refine lst_run (run_load1 rfl rfl (by first | assumption | exact (hcg (X := [_]) _ hcx hscl hS).1 | exact (hcg (X := [_]) _ hcx hscl hS).2.1 | exact (hcg (X := [_]) _ hcx hscl hS).2.2 | exact (hcg (X := [_]) _ hcy hscl hS).1 | exact (hcg (X := [_]) _ hcy hscl hS).2.1 | exact (hcg (X := [_]) _ hcy hscl hS).2.2 | exact hS.cell0 (by assumption) | exact lv_next hS | exact lv_list hS)) rfl ?_
      refine lst_guard rfl rfl ?_
      first
        | refine lst_run (run_eql_one_int rfl rfl) rfl ?_
        | refine lst_run (run_eql_no rfl rfl (by first | assumption | omega)) rfl ?_
        | refine lst_run (run_eql_yes rfl rfl (by omega)) rfl ?_
        | refine lst_run (rfl) rfl ?_
      first
        | refine lst_run (run_pick_t rfl (by conv => lhs; whnf)) rfl ?_
        | refine lst_run (run_pick_f rfl (by conv => lhs; whnf)) rfl ?_
      refine lst_done ?_
      refine goes_false rfl ?_
      refine goes_skip ?_
      refine goes_seq ?_
      refine goes_seq ?_
      refine goes_region ?_
      refine lst_run (run_fieldAddr (off := 0) rfl rfl) rfl ?_
      first
        | refine lst_run (run_load1_own hS rfl rfl (by first | exact .head | exact .tail .head | exact .tail (.tail .head) | exact .tail (.tail (.tail .head)) | exact .tail (.tail (.tail (.tail .head))) | exact .tail (.tail (.tail (.tail (.tail .head))))) (by repeat constructor)) rfl ?_
        | refine lst_run (run_load1 rfl rfl (by first | assumption | exact (hcg (X := [_]) _ hcx hscl hS).1 | exact (hcg (X := [_]) _ hcx hscl hS).2.1 | exact (hcg (X := [_]) _ hcx hscl hS).2.2 | exact (hcg (X := [_]) _ hcy hscl hS).1 | exact (hcg (X := [_]) _ hcy hscl hS).2.1 | exact (hcg (X := [_]) _ hcy hscl hS).2.2 | exact hS.cell0 (by assumption) | exact lv_next hS | exact lv_list hS)) rfl ?_
      first
        | refine lst_run (run_eql_one_int rfl rfl) rfl ?_
        | refine lst_run (run_eql_no rfl rfl (by first | assumption | omega)) rfl ?_
        | refine lst_run (run_eql_yes rfl rfl (by omega)) rfl ?_
        | refine lst_run (rfl) rfl ?_
      refine lst_done ?_
      refine goes_false rfl ?_
      refine goes_skip ?_
      refine goes_seq ?_
      refine goes_seq ?_
      refine goes_region ?_
      refine lst_run (run_fieldAddr (off := 0) rfl rfl) rfl ?_
      first
        | refine lst_run (run_load1_own hS rfl rfl (by first | exact .head | exact .tail .head | exact .tail (.tail .head) | exact .tail (.tail (.tail .head)) | exact .tail (.tail (.tail (.tail .head))) | exact .tail (.tail (.tail (.tail (.tail .head))))) (by repeat constructor)) rfl ?_
        | refine lst_run (run_load1 rfl rfl (by first | assumption | exact (hcg (X := [_]) _ hcx hscl hS).1 | exact (hcg (X := [_]) _ hcx hscl hS).2.1 | exact (hcg (X := [_]) _ hcx hscl hS).2.2 | exact (hcg (X := [_]) _ hcy hscl hS).1 | exact (hcg (X := [_]) _ hcy hscl hS).2.1 | exact (hcg (X := [_]) _ hcy hscl hS).2.2 | exact hS.cell0 (by assumption) | exact lv_next hS | exact lv_list hS)) rfl ?_
      first
        | refine lst_run (run_eql_one_int rfl rfl) rfl ?_
        | refine lst_run (run_eql_no rfl rfl (by first | assumption | omega)) rfl ?_
        | refine lst_run (run_eql_yes rfl rfl (by omega)) rfl ?_
        | refine lst_run (rfl) rfl ?_
      refine lst_done ?_
      refine goes_true rfl ?_
      refine goes_seq ?_
      refine goes_region ?_
      refine lst_run (run_move (by conv => lhs; whnf)) rfl ?_
      refine lst_buildSlice (cells := [_]) hS (.cons (by conv => lhs; whnf) .nil) rfl rfl ?_
      clear hS
      intro b9 wx14 hS
      refine lst_run (run_assign (by conv => lhs; whnf)) rfl ?_
      refine lst_done ?_
      refine goes_seq ?_
      refine goes_block ?_
      have hro := runO_one p q s
      have hasg : asgU p q s = if (runO p [q] s).1 = true ∨ (runO p [q] s).2.lg = true then (false, (runO p [q] s).2) else (true, (runO p [q] s).2.bind p q) := by rw [hro]; rfl
      rw [hasg] at hrr2
      clear hasg hro
      have hrs0 : Rw 3 1 (.slice (some ⟨b9, 0, none⟩) 1 1) 1 (intsV [q]) [(b9, .cells (intsV [q] ++ []).toArray 3)] := Rw.own_ rfl rfl (Nat.le_refl _) (by omega)
      generalize hro : runO p [q] s = ro at *
      have hrl : ro.1 = false → ro.2.lg = true → r.2.lg = true := fun e1 e2 => by rw [hrr2, if_pos (.inr e2)]; unfold contS; rw [if_neg (by simp)]; exact e2
      have hrf : ∀ s2 : HU, ro = (true, s2) → s2.lg = false → r.1 = false ∧ r.2.lg = false := fun s2 e1 e2 => by rw [hrr2, e1, if_pos (.inl rfl)]; unfold contS; rw [if_neg (by simp)]; exact ⟨rfl, e2⟩
      have hrd : ∀ s2 : HU, ro = (false, s2) → s2.lg = false → r = runS Lq.reverse (s2.bind p q) := fun s2 e1 e2 => by rw [hrr2, e1, if_neg (by rw [e2]; simp)]; rfl
      refine goes_loop2 17 11 (135 :: 136 :: 137 :: 138 :: 139 :: 140 :: 141 :: 142 :: 143 :: 18 :: 144 :: 145 :: 146 :: 147 :: 148 :: 149 :: 150 :: 151 :: 152 :: 153 :: 154 :: 155 :: 156 :: 157 :: 158 :: 159 :: 160 :: 7 :: 8 :: 161 :: 162 :: 163 :: 164 :: 165 :: 166 :: 167 :: 168 :: 169 :: 19 :: 170 :: 171 :: 172 :: 173 :: 174 :: 20 :: 175 :: 176 :: 179 :: 180 :: 181 :: 182 :: 183 :: 184 :: 177 :: 178 :: []) (fun (z : List Int × HU) v yy w' => ∃ (As : Option Addr) (cs' : Nat) (Os : List (Nat × Obj)), v = .slice As z.1.length cs' ∧ yy = .int .i64 (400 - (z.2.w : Nat)) ∧ ro = runO p z.1.reverse z.2 ∧ z.2.cs = s.cs ∧ z.2.tr = s.tr ∧ z.2.lg = false ∧ z.2.w ≤ 400 ∧ s.w ≤ z.2.w ∧ (z.1 = [] → s.w < z.2.w) ∧ z.1.length ≤ 1 + 4 * z.2.w ∧ Rw 3 1 (.slice As z.1.length cs') z.1.length (intsV z.1) Os ∧ St M w0 ((b5, .cells (hcs cx).toArray 59) :: (b6, .cells (hcs cy).toArray 59) :: (b3, hob (some ⟨g, 0, none⟩) h.cs.length c3 Bt s.tr.length d5) :: (g, cob s.cs sp) :: (b2, hob none 0 0 none 0 0) :: (b1, hob A h.cs.length c B h.tr.length d) :: (Os ++ (Ot ++ ([(lb, .cells (prs (Lq ++ [(x, y)]) ++ lsp).toArray 65)] ++ H)))) F w') (fun z => 401 - z.2.w) (([q], s)) ?_ (by conv => lhs; whnf) (by conv => lhs; whnf) ?_
      · exact ⟨some ⟨b9, 0, none⟩, 1, [(b9, .cells (intsV [q] ++ []).toArray 3)], rfl, by show Value.int .i64 (400 - (u.w : Int) - 1) = .int .i64 (400 - (s.w : Nat)); congr 1; omega, hro.symm, rfl, rfl, hls, hws, Nat.le_refl _, fun e => (by cases e), by simp, hrs0, hS.perm (List.perm_append_comm_assoc [_] [_, _, _, _, _, _] _)⟩
      clear hS hrs0
      rintro ⟨Sz, u2⟩ _ _ w9 jv9 ⟨As, cs2, Os, hv9, hy9, hrun, h2cs, h2tr, h2lg, h2w, h2s, h2n, h2l, hrows, hS⟩ ih9
      dsimp only at hv9 hy9 hrun h2cs h2tr h2lg h2w h2s h2n h2l hrows
      subst hy9
      rcases List.eq_nil_or_concat Sz with rfl | ⟨Sq, t, hSz⟩
      · subst hv9
        have hr9 := hrd u2 hrun h2lg
        have hw9 := h2n rfl
        have hG2 : GU h.cs.length u2 := ⟨by rw [h2cs]; exact hGs.len, by rw [h2cs]; exact hGs.good, fun _ => h2w, by rw [h2tr]; omega⟩
        have hGb : GU h.cs.length (u2.bind p q) := hG2.bind (by rw [h2cs]; exact hcx) kx (by omega) (by omega) (by rw [h2tr]; omega)
        rw [← h2cs, ← h2tr] at hS
        rw [← h2tr] at hrowt
        refine goes_seq ?_
        refine goes_seq ?_
        refine goes_region ?_
        refine lst_run (run_move (by conv => lhs; whnf)) rfl ?_
        refine lst_run (run_len_slice rfl rfl rfl) rfl ?_
        first
          | refine lst_run (run_gtr_yes rfl rfl (by omega)) rfl ?_
          | refine lst_run (run_gtr_no rfl rfl (by omega)) rfl ?_
          | refine lst_run (rfl) rfl ?_
        refine lst_done ?_
        refine goes_false rfl ?_
        refine goes_exit rfl ?_
        refine goes_seq ?_
        refine goes_region ?_
        refine lst_run (run_move (by conv => lhs; whnf)) rfl ?_
        refine lst_run (run_move (by conv => lhs; whnf)) rfl ?_
        refine lst_run (run_move (by conv => lhs; whnf)) rfl ?_
        refine lst_enter (run_callv rfl (by kernel_rfl) (args_2 (by conv => lhs; whnf) (by conv => lhs; whnf))) rfl ?_
        refine Calls.mono (hbnd (X := [_, _]) (s' := u2) (Oy := [(lb, .cells (prs (Lq ++ [(x, y)]) ++ lsp).toArray 65)]) p q cx (by rw [h2cs]; exact hcx) (by rw [h2tr]; omega) hG2.len hrowt (St.dropL (L := Os) (hS.perm (List.perm_append_comm_assoc [_, _, _, _, _, _] Os _)))) ?_
        rintro _ w10 ⟨rfl, B10, d10, O10, hrow10, hS'⟩
        refine ⟨_, rfl, ?_⟩
        replace hS := hS'
        clear hS'
        refine lst_done ?_
        refine goes_exit rfl ?_
        refine ih (Lq, u2.bind p q) _ _ _ _ ?_ ?_ (by conv => lhs; whnf) (by conv => lhs; whnf) (by kernel_rfl)
        · show 401 - u2.w < 401 - u.w; omega
        · exact ⟨some ⟨lb, 0, none⟩, cl, d10, B10, O10, [(lb, .cells (prs (Lq ++ [(x, y)]) ++ lsp).toArray 65)], (by rw [show (((Lq.length + 1 : Nat) : Int) - 1).toNat = Lq.length by omega]), rfl, hr9, hGb, h2lg, by show Lq.length ≤ 1 + 4 * u2.w; omega, hrowq, hrow10, hS⟩
      rw [List.concat_eq_append] at hSz
      subst hSz
      have hSl : (Sq ++ [t]).length = Sq.length + 1 := by simp
      rw [hSl] at hrows h2l hv9
      subst hv9
      obtain ⟨sb, ssp, rfl, rfl, hscap, hsle, _⟩ := hrows.some_ (by omega)
      have hrowq2 : Rw 3 1 (.slice (some ⟨sb, 0, none⟩) Sq.length cs2) Sq.length (intsV Sq) [(sb, .cells (intsV (Sq ++ [t]) ++ ssp).toArray 3)] := by
        rw [show intsV (Sq ++ [t]) = intsV Sq ++ intsV [t] by simp [intsV]] at hrows ⊢
        exact hrows.cut (intsV_len Sq) (by omega)
      rw [List.reverse_append] at hrun
      replace hrun : ro = runO p (t :: Sq.reverse) u2 := hrun
      have hpt : ∀ {X Y : List (Nat × Obj)} w', St M w0 (X ++ ([(sb, .cells (intsV (Sq ++ [t]) ++ ssp).toArray 3)] ++ Y)) F w' → w'.cell? ⟨sb, 0 + (((Sq.length + 1 : Nat) : Int) - 1).toNat * 1, none⟩ = some (.int .i64 t) := fun w' hS => by
        rw [cell_own (hS.own (sb, .cells (intsV (Sq ++ [t]) ++ ssp).toArray 3) (by simp)), show 0 + (((Sq.length + 1 : Nat) : Int) - 1).toNat * 1 = Sq.length by omega]
        simp [intsV]
      have hst2 : (u2.step.look t).2.lg = decide (400 < u2.w + 1 ∨ hlook s.cs t < 0) := by
        by_cases h4 : 400 < u2.w + 1
        · rw [decide_eq_true (.inl h4)]
          cases hq : (u2.step.look t).2.lg with
          | true => rfl
          | false => have := (step_facts hq).2.1; omega
        · have hst : u2.step.lg = false := by simp only [HU.step]; rw [h2lg, decide_eq_false h4]; rfl
          unfold HU.look
          rw [if_neg (by rw [hst]; decide)]
          show decide (hlook u2.cs t < 0) = _
          rw [h2cs]
          by_cases hy : hlook s.cs t < 0
          · rw [decide_eq_true hy, decide_eq_true (.inr hy)]
          · rw [decide_eq_false hy, decide_eq_false (by omega)]
      by_cases h4 : 400 < u2.w + 1
      · obtain ⟨g1, g2⟩ := runO_long (a := p) (r := Sq.reverse) (by rw [hst2, decide_eq_true (.inl h4)] : (u2.step.look t).2.lg = true)
        rw [hlong (hrl (by rw [hrun]; exact g1) (by rw [hrun]; exact g2))]
        refine goes_seq ?_
        refine goes_seq ?_
        refine goes_region ?_
        refine lst_run (run_move (by conv => lhs; whnf)) rfl ?_
        refine lst_run (run_len_slice rfl rfl rfl) rfl ?_
        first
          | refine lst_run (run_gtr_yes rfl rfl (by omega)) rfl ?_
          | refine lst_run (run_gtr_no rfl rfl (by omega)) rfl ?_
          | refine lst_run (rfl) rfl ?_
        refine lst_done ?_
        refine goes_true rfl ?_
        refine goes_skip ?_
        refine goes_block ?_
        refine goes_seq ?_
        refine goes_region ?_
        refine lst_run (run_move (by conv => lhs; whnf)) rfl ?_
        refine lst_run (run_move (by conv => lhs; whnf)) rfl ?_
        refine lst_run (run_len_slice rfl rfl rfl) rfl ?_
        first
          | refine lst_run (run_sub rfl rfl (by omega) (by omega)) rfl ?_
          | refine lst_run (run_sub_u8 rfl rfl) rfl ?_
        refine lst_run (run_indexAddr (sz := 1) rfl rfl rfl rfl (by omega) (by omega)) rfl ?_
        first
          | refine lst_run (run_load1_own hS rfl rfl (by first | exact .head | exact .tail .head | exact .tail (.tail .head) | exact .tail (.tail (.tail .head)) | exact .tail (.tail (.tail (.tail .head))) | exact .tail (.tail (.tail (.tail (.tail .head))))) (by repeat constructor)) rfl ?_
          | refine lst_run (run_load1 rfl rfl (by first | assumption | exact hpt (X := [_, _, _, _, _, _]) _ hS | exact hS.cell0 (by assumption) | exact lv_next hS | exact lv_list hS)) rfl ?_
        refine lst_run (run_assign (by conv => lhs; whnf)) rfl ?_
        refine lst_done ?_
        refine goes_seq ?_
        refine goes_region ?_
        refine lst_run (run_move (by conv => lhs; whnf)) rfl ?_
        refine lst_run (run_move (by conv => lhs; whnf)) rfl ?_
        refine lst_run (run_len_slice rfl rfl rfl) rfl ?_
        first
          | refine lst_run (run_sub rfl rfl (by omega) (by omega)) rfl ?_
          | refine lst_run (run_sub_u8 rfl rfl) rfl ?_
        refine lst_run (run_slice_slice (sz := 1) rfl rfl rfl rfl (by omega) (by omega)) rfl ?_
        refine lst_run (run_assign (by conv => lhs; whnf)) rfl ?_
        refine lst_done ?_
        refine goes_seq ?_
        refine goes_region ?_
        refine lst_run (run_move (by conv => lhs; whnf)) rfl ?_
        first
          | refine lst_run (run_sub rfl rfl (by omega) (by omega)) rfl ?_
          | refine lst_run (run_sub_u8 rfl rfl) rfl ?_
        refine lst_run (run_assign (by conv => lhs; whnf)) rfl ?_
        refine lst_done ?_
        refine goes_seq ?_
        refine goes_seq ?_
        refine goes_region ?_
        first
          | refine lst_run (run_loadN_own (k := 2) hS rfl rfl rfl (by first | exact .head | exact .tail .head | exact .tail (.tail .head) | exact .tail (.tail (.tail .head)) | exact .tail (.tail (.tail (.tail .head))) | exact .tail (.tail (.tail (.tail (.tail .head))))) (by repeat constructor)) rfl ?_
          | refine lst_run (run_load2 rfl rfl rfl (by first | assumption | exact hpt (X := [_, _, _, _, _, _]) _ hS | exact hS.cell0 (by assumption)) (by first | assumption | exact hpt (X := [_, _, _, _, _, _]) _ hS | exact hS.cell0 (by assumption))) rfl ?_
        refine lst_run (run_move (by conv => lhs; whnf)) rfl ?_
        refine lst_enter (run_call (by kernel_rfl) (args_2 (by conv => lhs; whnf) (by conv => lhs; whnf))) rfl ?_
        refine Calls.mono (hla (X := [_, _, _]) (u' := s) t hscl hS) ?_
        rintro _ w10 ⟨rfl, hb10⟩
        refine ⟨_, rfl, ?_⟩
        replace hS := hS.grow hb10
        refine lst_run (run_assign (by conv => lhs; whnf)) rfl ?_
        refine lst_done ?_
        refine goes_seq ?_
        refine goes_region ?_
        refine lst_run (run_move (by conv => lhs; whnf)) rfl ?_
        first
          | refine lst_run (run_lss_yes rfl rfl (by omega)) rfl ?_
          | refine lst_run (run_lss_no rfl rfl (by omega)) rfl ?_
          | refine lst_run (rfl) rfl ?_
        refine lst_run (run_move (by conv => lhs; whnf)) rfl ?_
        refine lst_pass rfl rfl rfl ?_
        refine lst_pass rfl rfl rfl ?_
        first
          | refine lst_run (run_pick_t rfl (by conv => lhs; whnf)) rfl ?_
          | refine lst_run (run_pick_f rfl (by conv => lhs; whnf)) rfl ?_
        refine lst_done ?_
        refine goes_true rfl ?_
        refine goes_seq ?_
        refine goes_region ?_
        first
          | refine lst_run (run_loadN_own (k := 2) hS rfl rfl rfl (by first | exact .head | exact .tail .head | exact .tail (.tail .head) | exact .tail (.tail (.tail .head)) | exact .tail (.tail (.tail (.tail .head))) | exact .tail (.tail (.tail (.tail (.tail .head))))) (by repeat constructor)) rfl ?_
          | refine lst_run (run_load2 rfl rfl rfl (by first | assumption | exact hpt (X := [_, _, _, _, _, _]) _ hS | exact hS.cell0 (by assumption)) (by first | assumption | exact hpt (X := [_, _, _, _, _, _]) _ hS | exact hS.cell0 (by assumption))) rfl ?_
        refine lst_storeN hS rfl (by conv => lhs; whnf) rfl rfl (by first | exact .head | exact .tail .head | exact .tail (.tail .head) | exact .tail (.tail (.tail .head)) | exact .tail (.tail (.tail (.tail .head))) | exact .tail (.tail (.tail (.tail (.tail .head))))) (by repeat constructor) (by first | exact .head | exact .tail .head | exact .tail (.tail .head) | exact .tail (.tail (.tail .head)) | exact .tail (.tail (.tail (.tail .head))) | exact .tail (.tail (.tail (.tail (.tail .head))))) ?_
        clear hS
        intro wx15 hS
        refine lst_run (run_assign (by conv => lhs; whnf)) rfl ?_
        refine lst_run (run_assign (by conv => lhs; whnf)) rfl ?_
        refine lst_done ?_
        refine goes_retC3 (sz := 2) hS Try.func13 rfl rfl (by conv => lhs; whnf) (by conv => lhs; whnf) rfl rfl (by first | exact .head | exact .tail .head | exact .tail (.tail .head) | exact .tail (.tail (.tail .head)) | exact .tail (.tail (.tail (.tail .head))) | exact .tail (.tail (.tail (.tail (.tail .head))))) (by repeat constructor) ?_
        exact ⟨A, c, B, d, F, rfl, fun _ h => h, hH, hback (X := Ot) (hS.drop.drop.drop.drop.drop.drop.drop)⟩
      by_cases htn : hlook s.cs t < 0
      · obtain ⟨g1, g2⟩ := runO_long (a := p) (r := Sq.reverse) (by rw [hst2, decide_eq_true (.inr htn)] : (u2.step.look t).2.lg = true)
        rw [hlong (hrl (by rw [hrun]; exact g1) (by rw [hrun]; exact g2))]
        refine goes_seq ?_
        refine goes_seq ?_
        refine goes_region ?_
        refine lst_run (run_move (by conv => lhs; whnf)) rfl ?_
        refine lst_run (run_len_slice rfl rfl rfl) rfl ?_
        first
          | refine lst_run (run_gtr_yes rfl rfl (by omega)) rfl ?_
          | refine lst_run (run_gtr_no rfl rfl (by omega)) rfl ?_
          | refine lst_run (rfl) rfl ?_
        refine lst_done ?_
        refine goes_true rfl ?_
        refine goes_skip ?_
        refine goes_block ?_
        refine goes_seq ?_
        refine goes_region ?_
        refine lst_run (run_move (by conv => lhs; whnf)) rfl ?_
        refine lst_run (run_move (by conv => lhs; whnf)) rfl ?_
        refine lst_run (run_len_slice rfl rfl rfl) rfl ?_
        first
          | refine lst_run (run_sub rfl rfl (by omega) (by omega)) rfl ?_
          | refine lst_run (run_sub_u8 rfl rfl) rfl ?_
        refine lst_run (run_indexAddr (sz := 1) rfl rfl rfl rfl (by omega) (by omega)) rfl ?_
        first
          | refine lst_run (run_load1_own hS rfl rfl (by first | exact .head | exact .tail .head | exact .tail (.tail .head) | exact .tail (.tail (.tail .head)) | exact .tail (.tail (.tail (.tail .head))) | exact .tail (.tail (.tail (.tail (.tail .head))))) (by repeat constructor)) rfl ?_
          | refine lst_run (run_load1 rfl rfl (by first | assumption | exact hpt (X := [_, _, _, _, _, _]) _ hS | exact hS.cell0 (by assumption) | exact lv_next hS | exact lv_list hS)) rfl ?_
        refine lst_run (run_assign (by conv => lhs; whnf)) rfl ?_
        refine lst_done ?_
        refine goes_seq ?_
        refine goes_region ?_
        refine lst_run (run_move (by conv => lhs; whnf)) rfl ?_
        refine lst_run (run_move (by conv => lhs; whnf)) rfl ?_
        refine lst_run (run_len_slice rfl rfl rfl) rfl ?_
        first
          | refine lst_run (run_sub rfl rfl (by omega) (by omega)) rfl ?_
          | refine lst_run (run_sub_u8 rfl rfl) rfl ?_
        refine lst_run (run_slice_slice (sz := 1) rfl rfl rfl rfl (by omega) (by omega)) rfl ?_
        refine lst_run (run_assign (by conv => lhs; whnf)) rfl ?_
        refine lst_done ?_
        refine goes_seq ?_
        refine goes_region ?_
        refine lst_run (run_move (by conv => lhs; whnf)) rfl ?_
        first
          | refine lst_run (run_sub rfl rfl (by omega) (by omega)) rfl ?_
          | refine lst_run (run_sub_u8 rfl rfl) rfl ?_
        refine lst_run (run_assign (by conv => lhs; whnf)) rfl ?_
        refine lst_done ?_
        refine goes_seq ?_
        refine goes_seq ?_
        refine goes_region ?_
        first
          | refine lst_run (run_loadN_own (k := 2) hS rfl rfl rfl (by first | exact .head | exact .tail .head | exact .tail (.tail .head) | exact .tail (.tail (.tail .head)) | exact .tail (.tail (.tail (.tail .head))) | exact .tail (.tail (.tail (.tail (.tail .head))))) (by repeat constructor)) rfl ?_
          | refine lst_run (run_load2 rfl rfl rfl (by first | assumption | exact hpt (X := [_, _, _, _, _, _]) _ hS | exact hS.cell0 (by assumption)) (by first | assumption | exact hpt (X := [_, _, _, _, _, _]) _ hS | exact hS.cell0 (by assumption))) rfl ?_
        refine lst_run (run_move (by conv => lhs; whnf)) rfl ?_
        refine lst_enter (run_call (by kernel_rfl) (args_2 (by conv => lhs; whnf) (by conv => lhs; whnf))) rfl ?_
        refine Calls.mono (hla (X := [_, _, _]) (u' := s) t hscl hS) ?_
        rintro _ w10 ⟨rfl, hb10⟩
        refine ⟨_, rfl, ?_⟩
        replace hS := hS.grow hb10
        refine lst_run (run_assign (by conv => lhs; whnf)) rfl ?_
        refine lst_done ?_
        refine goes_seq ?_
        refine goes_region ?_
        refine lst_run (run_move (by conv => lhs; whnf)) rfl ?_
        first
          | refine lst_run (run_lss_yes rfl rfl (by omega)) rfl ?_
          | refine lst_run (run_lss_no rfl rfl (by omega)) rfl ?_
          | refine lst_run (rfl) rfl ?_
        refine lst_run (run_move (by conv => lhs; whnf)) rfl ?_
        refine lst_guard rfl rfl ?_
        refine lst_run (run_move (by conv => lhs; whnf)) rfl ?_
        refine lst_guard rfl rfl ?_
        first
          | refine lst_run (run_lss_yes rfl rfl (by omega)) rfl ?_
          | refine lst_run (run_lss_no rfl rfl (by omega)) rfl ?_
          | refine lst_run (rfl) rfl ?_
        first
          | refine lst_run (run_pick_t rfl (by conv => lhs; whnf)) rfl ?_
          | refine lst_run (run_pick_f rfl (by conv => lhs; whnf)) rfl ?_
        refine lst_done ?_
        refine goes_true rfl ?_
        refine goes_seq ?_
        refine goes_region ?_
        first
          | refine lst_run (run_loadN_own (k := 2) hS rfl rfl rfl (by first | exact .head | exact .tail .head | exact .tail (.tail .head) | exact .tail (.tail (.tail .head)) | exact .tail (.tail (.tail (.tail .head))) | exact .tail (.tail (.tail (.tail (.tail .head))))) (by repeat constructor)) rfl ?_
          | refine lst_run (run_load2 rfl rfl rfl (by first | assumption | exact hpt (X := [_, _, _, _, _, _]) _ hS | exact hS.cell0 (by assumption)) (by first | assumption | exact hpt (X := [_, _, _, _, _, _]) _ hS | exact hS.cell0 (by assumption))) rfl ?_
        refine lst_storeN hS rfl (by conv => lhs; whnf) rfl rfl (by first | exact .head | exact .tail .head | exact .tail (.tail .head) | exact .tail (.tail (.tail .head)) | exact .tail (.tail (.tail (.tail .head))) | exact .tail (.tail (.tail (.tail (.tail .head))))) (by repeat constructor) (by first | exact .head | exact .tail .head | exact .tail (.tail .head) | exact .tail (.tail (.tail .head)) | exact .tail (.tail (.tail (.tail .head))) | exact .tail (.tail (.tail (.tail (.tail .head))))) ?_
        clear hS
        intro wx15 hS
        refine lst_run (run_assign (by conv => lhs; whnf)) rfl ?_
        refine lst_run (run_assign (by conv => lhs; whnf)) rfl ?_
        refine lst_done ?_
        refine goes_retC3 (sz := 2) hS Try.func13 rfl rfl (by conv => lhs; whnf) (by conv => lhs; whnf) rfl rfl (by first | exact .head | exact .tail .head | exact .tail (.tail .head) | exact .tail (.tail (.tail .head)) | exact .tail (.tail (.tail (.tail .head))) | exact .tail (.tail (.tail (.tail (.tail .head))))) (by repeat constructor) ?_
        exact ⟨A, c, B, d, F, rfl, fun _ h => h, hH, hback (X := Ot) (hS.drop.drop.drop.drop.drop.drop.drop)⟩
      have hs2 : (u2.step.look t).2.lg = false := by rw [hst2, decide_eq_false (by omega)]
      obtain ⟨_, _, hw2, hcs2, htr2, _, _⟩ := step_facts hs2
      by_cases hfound : hlook s.cs t = p
      · have hf := runO_found (r := Sq.reverse) hs2 (a := p) (by rw [h2cs]; exact hfound.symm)
        obtain ⟨g1, g2⟩ := hrf _ (hrun.trans hf) hs2
        rw [hfail g1 g2]
        refine goes_seq ?_
        refine goes_seq ?_
        refine goes_region ?_
        refine lst_run (run_move (by conv => lhs; whnf)) rfl ?_
        refine lst_run (run_len_slice rfl rfl rfl) rfl ?_
        first
          | refine lst_run (run_gtr_yes rfl rfl (by omega)) rfl ?_
          | refine lst_run (run_gtr_no rfl rfl (by omega)) rfl ?_
          | refine lst_run (rfl) rfl ?_
        refine lst_done ?_
        refine goes_true rfl ?_
        refine goes_skip ?_
        refine goes_block ?_
        refine goes_seq ?_
        refine goes_region ?_
        refine lst_run (run_move (by conv => lhs; whnf)) rfl ?_
        refine lst_run (run_move (by conv => lhs; whnf)) rfl ?_
        refine lst_run (run_len_slice rfl rfl rfl) rfl ?_
        first
          | refine lst_run (run_sub rfl rfl (by omega) (by omega)) rfl ?_
          | refine lst_run (run_sub_u8 rfl rfl) rfl ?_
        refine lst_run (run_indexAddr (sz := 1) rfl rfl rfl rfl (by omega) (by omega)) rfl ?_
        first
          | refine lst_run (run_load1_own hS rfl rfl (by first | exact .head | exact .tail .head | exact .tail (.tail .head) | exact .tail (.tail (.tail .head)) | exact .tail (.tail (.tail (.tail .head))) | exact .tail (.tail (.tail (.tail (.tail .head))))) (by repeat constructor)) rfl ?_
          | refine lst_run (run_load1 rfl rfl (by first | assumption | exact hpt (X := [_, _, _, _, _, _]) _ hS | exact hS.cell0 (by assumption) | exact lv_next hS | exact lv_list hS)) rfl ?_
        refine lst_run (run_assign (by conv => lhs; whnf)) rfl ?_
        refine lst_done ?_
        refine goes_seq ?_
        refine goes_region ?_
        refine lst_run (run_move (by conv => lhs; whnf)) rfl ?_
        refine lst_run (run_move (by conv => lhs; whnf)) rfl ?_
        refine lst_run (run_len_slice rfl rfl rfl) rfl ?_
        first
          | refine lst_run (run_sub rfl rfl (by omega) (by omega)) rfl ?_
          | refine lst_run (run_sub_u8 rfl rfl) rfl ?_
        refine lst_run (run_slice_slice (sz := 1) rfl rfl rfl rfl (by omega) (by omega)) rfl ?_
        refine lst_run (run_assign (by conv => lhs; whnf)) rfl ?_
        refine lst_done ?_
        refine goes_seq ?_
        refine goes_region ?_
        refine lst_run (run_move (by conv => lhs; whnf)) rfl ?_
        first
          | refine lst_run (run_sub rfl rfl (by omega) (by omega)) rfl ?_
          | refine lst_run (run_sub_u8 rfl rfl) rfl ?_
        refine lst_run (run_assign (by conv => lhs; whnf)) rfl ?_
        refine lst_done ?_
        refine goes_seq ?_
        refine goes_seq ?_
        refine goes_region ?_
        first
          | refine lst_run (run_loadN_own (k := 2) hS rfl rfl rfl (by first | exact .head | exact .tail .head | exact .tail (.tail .head) | exact .tail (.tail (.tail .head)) | exact .tail (.tail (.tail (.tail .head))) | exact .tail (.tail (.tail (.tail (.tail .head))))) (by repeat constructor)) rfl ?_
          | refine lst_run (run_load2 rfl rfl rfl (by first | assumption | exact hpt (X := [_, _, _, _, _, _]) _ hS | exact hS.cell0 (by assumption)) (by first | assumption | exact hpt (X := [_, _, _, _, _, _]) _ hS | exact hS.cell0 (by assumption))) rfl ?_
        refine lst_run (run_move (by conv => lhs; whnf)) rfl ?_
        refine lst_enter (run_call (by kernel_rfl) (args_2 (by conv => lhs; whnf) (by conv => lhs; whnf))) rfl ?_
        refine Calls.mono (hla (X := [_, _, _]) (u' := s) t hscl hS) ?_
        rintro _ w10 ⟨rfl, hb10⟩
        refine ⟨_, rfl, ?_⟩
        replace hS := hS.grow hb10
        refine lst_run (run_assign (by conv => lhs; whnf)) rfl ?_
        refine lst_done ?_
        refine goes_seq ?_
        refine goes_region ?_
        refine lst_run (run_move (by conv => lhs; whnf)) rfl ?_
        first
          | refine lst_run (run_lss_yes rfl rfl (by omega)) rfl ?_
          | refine lst_run (run_lss_no rfl rfl (by omega)) rfl ?_
          | refine lst_run (rfl) rfl ?_
        refine lst_run (run_move (by conv => lhs; whnf)) rfl ?_
        refine lst_guard rfl rfl ?_
        refine lst_run (run_move (by conv => lhs; whnf)) rfl ?_
        refine lst_guard rfl rfl ?_
        first
          | refine lst_run (run_lss_yes rfl rfl (by omega)) rfl ?_
          | refine lst_run (run_lss_no rfl rfl (by omega)) rfl ?_
          | refine lst_run (rfl) rfl ?_
        first
          | refine lst_run (run_pick_t rfl (by conv => lhs; whnf)) rfl ?_
          | refine lst_run (run_pick_f rfl (by conv => lhs; whnf)) rfl ?_
        refine lst_done ?_
        refine goes_false rfl ?_
        refine goes_skip ?_
        refine goes_seq ?_
        refine goes_seq ?_
        refine goes_region ?_
        refine lst_run (run_move (by conv => lhs; whnf)) rfl ?_
        refine lst_run (run_move (by conv => lhs; whnf)) rfl ?_
        first
          | refine lst_run (run_eql_one_int rfl rfl) rfl ?_
          | refine lst_run (run_eql_no rfl rfl (by first | assumption | omega)) rfl ?_
          | refine lst_run (run_eql_yes rfl rfl (by omega)) rfl ?_
          | refine lst_run (rfl) rfl ?_
        refine lst_done ?_
        refine goes_true rfl ?_
        refine goes_seq ?_
        refine goes_region ?_
        first
          | refine lst_run (run_loadN_own (k := 2) hS rfl rfl rfl (by first | exact .head | exact .tail .head | exact .tail (.tail .head) | exact .tail (.tail (.tail .head)) | exact .tail (.tail (.tail (.tail .head))) | exact .tail (.tail (.tail (.tail (.tail .head))))) (by repeat constructor)) rfl ?_
          | refine lst_run (run_load2 rfl rfl rfl (by first | assumption | exact hpt (X := [_, _, _, _, _, _]) _ hS | exact hS.cell0 (by assumption)) (by first | assumption | exact hpt (X := [_, _, _, _, _, _]) _ hS | exact hS.cell0 (by assumption))) rfl ?_
        refine lst_storeN hS rfl (by conv => lhs; whnf) rfl rfl (by first | exact .head | exact .tail .head | exact .tail (.tail .head) | exact .tail (.tail (.tail .head)) | exact .tail (.tail (.tail (.tail .head))) | exact .tail (.tail (.tail (.tail (.tail .head))))) (by repeat constructor) (by first | exact .head | exact .tail .head | exact .tail (.tail .head) | exact .tail (.tail (.tail .head)) | exact .tail (.tail (.tail (.tail .head))) | exact .tail (.tail (.tail (.tail (.tail .head))))) ?_
        clear hS
        intro wx15 hS
        refine lst_run (run_assign (by conv => lhs; whnf)) rfl ?_
        refine lst_run (run_assign (by conv => lhs; whnf)) rfl ?_
        refine lst_done ?_
        refine goes_retC3 (sz := 2) hS Try.func13 rfl rfl (by conv => lhs; whnf) (by conv => lhs; whnf) rfl rfl (by first | exact .head | exact .tail .head | exact .tail (.tail .head) | exact .tail (.tail (.tail .head)) | exact .tail (.tail (.tail (.tail .head))) | exact .tail (.tail (.tail (.tail (.tail .head))))) (by repeat constructor) ?_
        exact ⟨A, c, B, d, F, rfl, fun _ h => h, hH, hback (X := Ot) (hS.drop.drop.drop.drop.drop.drop.drop)⟩
      have hnx := runO_next (n := h.cs.length) (a := p) (z := t) (r := Sq.reverse) (u := u2) (by rw [h2cs]; exact hGs.good) hs2 (by rw [h2cs]; exact fun e => hfound e.symm)
      rw [← hrun, h2cs] at hnx
      obtain ⟨ct, hct, _⟩ := hlook_end htn
      obtain ⟨m0, m1, hgt⟩ := hat_get hct
      have hgct := goodC_iff (good_hat hGs.good hct)
      have hgca := (good_args (a := hlook s.cs t) hGs.good)
      have hArg : argsAt s.cs (hlook s.cs t) = (argsC ct).toNat := by unfold argsAt; rw [hct]
      rw [hArg] at hnx hgca
      refine goes_seq ?_
      refine goes_seq ?_
      refine goes_region ?_
      refine lst_run (run_move (by conv => lhs; whnf)) rfl ?_
      refine lst_run (run_len_slice rfl rfl rfl) rfl ?_
      first
        | refine lst_run (run_gtr_yes rfl rfl (by omega)) rfl ?_
        | refine lst_run (run_gtr_no rfl rfl (by omega)) rfl ?_
        | refine lst_run (rfl) rfl ?_
      refine lst_done ?_
      refine goes_true rfl ?_
      refine goes_skip ?_
      refine goes_block ?_
      refine goes_seq ?_
      refine goes_region ?_
      refine lst_run (run_move (by conv => lhs; whnf)) rfl ?_
      refine lst_run (run_move (by conv => lhs; whnf)) rfl ?_
      refine lst_run (run_len_slice rfl rfl rfl) rfl ?_
      first
        | refine lst_run (run_sub rfl rfl (by omega) (by omega)) rfl ?_
        | refine lst_run (run_sub_u8 rfl rfl) rfl ?_
      refine lst_run (run_indexAddr (sz := 1) rfl rfl rfl rfl (by omega) (by omega)) rfl ?_
      first
        | refine lst_run (run_load1_own hS rfl rfl (by first | exact .head | exact .tail .head | exact .tail (.tail .head) | exact .tail (.tail (.tail .head)) | exact .tail (.tail (.tail (.tail .head))) | exact .tail (.tail (.tail (.tail (.tail .head))))) (by repeat constructor)) rfl ?_
        | refine lst_run (run_load1 rfl rfl (by first | assumption | exact hpt (X := [_, _, _, _, _, _]) _ hS | exact hS.cell0 (by assumption) | exact lv_next hS | exact lv_list hS)) rfl ?_
      refine lst_run (run_assign (by conv => lhs; whnf)) rfl ?_
      refine lst_done ?_
      refine goes_seq ?_
      refine goes_region ?_
      refine lst_run (run_move (by conv => lhs; whnf)) rfl ?_
      refine lst_run (run_move (by conv => lhs; whnf)) rfl ?_
      refine lst_run (run_len_slice rfl rfl rfl) rfl ?_
      first
        | refine lst_run (run_sub rfl rfl (by omega) (by omega)) rfl ?_
        | refine lst_run (run_sub_u8 rfl rfl) rfl ?_
      refine lst_run (run_slice_slice (sz := 1) rfl rfl rfl rfl (by omega) (by omega)) rfl ?_
      refine lst_run (run_assign (by conv => lhs; whnf)) rfl ?_
      refine lst_done ?_
      refine goes_seq ?_
      refine goes_region ?_
      refine lst_run (run_move (by conv => lhs; whnf)) rfl ?_
      first
        | refine lst_run (run_sub rfl rfl (by omega) (by omega)) rfl ?_
        | refine lst_run (run_sub_u8 rfl rfl) rfl ?_
      refine lst_run (run_assign (by conv => lhs; whnf)) rfl ?_
      refine lst_done ?_
      refine goes_seq ?_
      refine goes_seq ?_
      refine goes_region ?_
      first
        | refine lst_run (run_loadN_own (k := 2) hS rfl rfl rfl (by first | exact .head | exact .tail .head | exact .tail (.tail .head) | exact .tail (.tail (.tail .head)) | exact .tail (.tail (.tail (.tail .head))) | exact .tail (.tail (.tail (.tail (.tail .head))))) (by repeat constructor)) rfl ?_
        | refine lst_run (run_load2 rfl rfl rfl (by first | assumption | exact hpt (X := [_, _, _, _, _, _]) _ hS | exact hS.cell0 (by assumption)) (by first | assumption | exact hpt (X := [_, _, _, _, _, _]) _ hS | exact hS.cell0 (by assumption))) rfl ?_
      refine lst_run (run_move (by conv => lhs; whnf)) rfl ?_
      refine lst_enter (run_call (by kernel_rfl) (args_2 (by conv => lhs; whnf) (by conv => lhs; whnf))) rfl ?_
      refine Calls.mono (hla (X := [_, _, _]) (u' := s) t hscl hS) ?_
      rintro _ w10 ⟨rfl, hb10⟩
      refine ⟨_, rfl, ?_⟩
      replace hS := hS.grow hb10
      refine lst_run (run_assign (by conv => lhs; whnf)) rfl ?_
      refine lst_done ?_
      refine goes_seq ?_
      refine goes_region ?_
      refine lst_run (run_move (by conv => lhs; whnf)) rfl ?_
      first
        | refine lst_run (run_lss_yes rfl rfl (by omega)) rfl ?_
        | refine lst_run (run_lss_no rfl rfl (by omega)) rfl ?_
        | refine lst_run (rfl) rfl ?_
      refine lst_run (run_move (by conv => lhs; whnf)) rfl ?_
      refine lst_guard rfl rfl ?_
      refine lst_run (run_move (by conv => lhs; whnf)) rfl ?_
      refine lst_guard rfl rfl ?_
      first
        | refine lst_run (run_lss_yes rfl rfl (by omega)) rfl ?_
        | refine lst_run (run_lss_no rfl rfl (by omega)) rfl ?_
        | refine lst_run (rfl) rfl ?_
      first
        | refine lst_run (run_pick_t rfl (by conv => lhs; whnf)) rfl ?_
        | refine lst_run (run_pick_f rfl (by conv => lhs; whnf)) rfl ?_
      refine lst_done ?_
      refine goes_false rfl ?_
      refine goes_skip ?_
      refine goes_seq ?_
      refine goes_seq ?_
      refine goes_region ?_
      refine lst_run (run_move (by conv => lhs; whnf)) rfl ?_
      refine lst_run (run_move (by conv => lhs; whnf)) rfl ?_
      first
        | refine lst_run (run_eql_one_int rfl rfl) rfl ?_
        | refine lst_run (run_eql_no rfl rfl (by first | assumption | omega)) rfl ?_
        | refine lst_run (run_eql_yes rfl rfl (by omega)) rfl ?_
        | refine lst_run (rfl) rfl ?_
      refine lst_done ?_
      generalize (u2.step.look t).2 = u3 at *
      generalize hlook s.cs t = m at *
      have hnw : 400 - (u2.w : Int) - 1 = 400 - ((u3.w : Nat) : Int) := by omega
      by_cases k3 : ct.k = 3
      · have hk3 : (argsC ct).toNat = ct.n.toNat := by unfold argsC; rw [if_pos k3]
        obtain ⟨k, hk⟩ : ∃ k : Nat, ct.n = (k : Nat) := ⟨ct.n.toNat, by omega⟩
        rw [hk3, hk, show ((k : Nat) : Int).toNat = k by omega] at hnx hgca
        refine goes_false rfl ?_
        refine goes_skip ?_
        refine goes_seq ?_
        refine goes_region ?_
        refine lst_run (run_fieldAddr (off := 0) rfl rfl) rfl ?_
        first
          | refine lst_run (run_load1_own hS rfl rfl (by first | exact .head | exact .tail .head | exact .tail (.tail .head) | exact .tail (.tail (.tail .head)) | exact .tail (.tail (.tail (.tail .head))) | exact .tail (.tail (.tail (.tail (.tail .head))))) (by repeat constructor)) rfl ?_
          | refine lst_run (run_load1 rfl rfl (by first | assumption | exact (hcg (X := [_, _, _]) _ hct hscl hS).1 | exact (hcg (X := [_, _, _]) _ hct hscl hS).2.1 | exact (hcg (X := [_, _, _]) _ hct hscl hS).2.2 | exact hS.cell0 (by assumption) | exact lv_next hS | exact lv_list hS)) rfl ?_
        refine lst_run (run_move (by conv => lhs; whnf)) rfl ?_
        refine lst_run (run_indexAddr (sz := 3) rfl rfl rfl rfl (by omega) (by omega)) rfl ?_
        first
          | refine lst_run (run_loadN_own (k := 3) hS rfl rfl rfl (by first | exact .head | exact .tail .head | exact .tail (.tail .head) | exact .tail (.tail (.tail .head)) | exact .tail (.tail (.tail (.tail .head))) | exact .tail (.tail (.tail (.tail (.tail .head))))) (by repeat constructor)) rfl ?_
          | refine lst_run (run_load3 rfl rfl rfl (by first | assumption | exact (hcg (X := [_, _, _]) _ hct hscl hS).1 | exact (hcg (X := [_, _, _]) _ hct hscl hS).2.1 | exact (hcg (X := [_, _, _]) _ hct hscl hS).2.2 | exact hS.cell0 (by assumption)) (by first | assumption | exact (hcg (X := [_, _, _]) _ hct hscl hS).1 | exact (hcg (X := [_, _, _]) _ hct hscl hS).2.1 | exact (hcg (X := [_, _, _]) _ hct hscl hS).2.2 | exact hS.cell0 (by assumption)) (by first | assumption | exact (hcg (X := [_, _, _]) _ hct hscl hS).1 | exact (hcg (X := [_, _, _]) _ hct hscl hS).2.1 | exact (hcg (X := [_, _, _]) _ hct hscl hS).2.2 | exact hS.cell0 (by assumption))) rfl ?_
        refine lst_alloc (cs := [_, _, _]) hS rfl rfl rfl ?_
        clear hS
        intro b10 wx15 hS
        refine lst_storeN hS rfl (by conv => lhs; whnf) rfl rfl (by first | exact .head | exact .tail .head | exact .tail (.tail .head) | exact .tail (.tail (.tail .head)) | exact .tail (.tail (.tail (.tail .head))) | exact .tail (.tail (.tail (.tail (.tail .head))))) (by repeat constructor) (by first | exact .head | exact .tail .head | exact .tail (.tail .head) | exact .tail (.tail (.tail .head)) | exact .tail (.tail (.tail (.tail .head))) | exact .tail (.tail (.tail (.tail (.tail .head))))) ?_
        clear hS
        intro wx16 hS
        refine lst_done ?_
        refine goes_seq ?_
        refine goes_region ?_
        refine lst_run (run_fieldAddr (off := 0) rfl rfl) rfl ?_
        first
          | refine lst_run (run_load1_own hS rfl rfl (by first | exact .head | exact .tail .head | exact .tail (.tail .head) | exact .tail (.tail (.tail .head)) | exact .tail (.tail (.tail (.tail .head))) | exact .tail (.tail (.tail (.tail (.tail .head))))) (by repeat constructor)) rfl ?_
          | refine lst_run (run_load1 rfl rfl (by first | assumption | exact (hcg (X := [_, _, _]) _ hct hscl hS).1 | exact (hcg (X := [_, _, _]) _ hct hscl hS).2.1 | exact (hcg (X := [_, _, _]) _ hct hscl hS).2.2 | exact hS.cell0 (by assumption) | exact lv_next hS | exact lv_list hS)) rfl ?_
        first
          | refine lst_run (run_eql_one_int rfl rfl) rfl ?_
          | refine lst_run (run_eql_no rfl rfl (by first | assumption | omega)) rfl ?_
          | refine lst_run (run_eql_yes rfl rfl (by omega)) rfl ?_
          | refine lst_run (rfl) rfl ?_
        refine lst_done ?_
        refine goes_true rfl ?_
        refine goes_seq ?_
        refine goes_region ?_
        refine lst_run (run_fieldAddr (off := 1) rfl rfl) rfl ?_
        first
          | refine lst_run (run_load1_own hS rfl rfl (by first | exact .head | exact .tail .head | exact .tail (.tail .head) | exact .tail (.tail (.tail .head)) | exact .tail (.tail (.tail (.tail .head))) | exact .tail (.tail (.tail (.tail (.tail .head))))) (by repeat constructor)) rfl ?_
          | refine lst_run (run_load1 rfl rfl (by first | assumption | exact (hcg (X := [_, _, _]) _ hct hscl hS).1 | exact (hcg (X := [_, _, _]) _ hct hscl hS).2.1 | exact (hcg (X := [_, _, _]) _ hct hscl hS).2.2 | exact hS.cell0 (by assumption) | exact lv_next hS | exact lv_list hS)) rfl ?_
        refine lst_run (run_assign (by conv => lhs; whnf)) rfl ?_
        refine lst_done ?_
        refine goes_block ?_
        refine goes_loop2 17 20 (175 :: 176 :: 179 :: 180 :: 181 :: 182 :: 183 :: 184 :: 177 :: 178 :: []) (fun (j : Nat) v yy w' => ∃ (Z : List Int) (Az : Option Addr) (cz : Nat) (Oz : List (Nat × Obj)), j ≤ k ∧ Z = Sq ++ (ups (m + 1 + (j : Nat)) (k - j)).reverse ∧ v = .slice Az Z.length cz ∧ yy = .int .i64 (j : Nat) ∧ Rw 3 1 (.slice Az Z.length cz) Z.length (intsV Z) Oz ∧ St M w0 ((b10, .cells (hcs ct).toArray 59) :: (b5, .cells (hcs cx).toArray 59) :: (b6, .cells (hcs cy).toArray 59) :: (b3, hob (some ⟨g, 0, none⟩) h.cs.length c3 Bt s.tr.length d5) :: (g, cob s.cs sp) :: (b2, hob none 0 0 none 0 0) :: (b1, hob A h.cs.length c B h.tr.length d) :: (Oz ++ (Ot ++ ([(lb, .cells (prs (Lq ++ [(x, y)]) ++ lsp).toArray 65)] ++ H)))) F w') (fun j => j) (k) ?_ (by conv => lhs; whnf) (by conv => lhs; whnf) ?_
        · refine ⟨Sq, some ⟨sb, 0, none⟩, cs2, [(sb, .cells (intsV (Sq ++ [t]) ++ ssp).toArray 3)], Nat.le_refl _, by simp [ups], ?_, by rw [hk], hrowq2, hS⟩
          rw [show (((Sq.length + 1 : Nat) : Int) - 1).toNat = Sq.length by omega]
        clear hS
        rintro j _ _ w11 jv11 ⟨Z, Az, cz, Oz, hjk, hZ, rfl, rfl, hrowz, hS⟩ ih11
        have hZl : Z.length = Sq.length + (k - j) := by rw [hZ]; simp [ups_len]
        cases j with
        | zero =>
          refine goes_seq ?_
          refine goes_seq ?_
          refine goes_region ?_
          refine lst_run (run_move (by conv => lhs; whnf)) rfl ?_
          first
            | refine lst_run (run_gtr_yes rfl rfl (by omega)) rfl ?_
            | refine lst_run (run_gtr_no rfl rfl (by omega)) rfl ?_
            | refine lst_run (rfl) rfl ?_
          refine lst_done ?_
          refine goes_false rfl ?_
          refine goes_exit rfl ?_
          refine goes_inBlock ?_
          refine ih9 (Z, u3) _ _ _ _ ?_ ?_ (by conv => lhs; whnf) (by conv => lhs; whnf) (by kernel_rfl)
          · show 401 - u3.w < 401 - u2.w; omega
          · refine ⟨Az, cz, Oz, rfl, by show Value.int .i64 (400 - (u2.w : Int) - 1) = .int .i64 (400 - (u3.w : Nat)); rw [hnw], ?_, by show u3.cs = s.cs; rw [hcs2, h2cs], by show u3.tr = s.tr; rw [htr2, h2tr], hs2, by show u3.w ≤ 400; omega, by show s.w ≤ u3.w; omega, fun _ => by show s.w < u3.w; omega, by show Z.length ≤ 1 + 4 * u3.w; omega, hrowz, hS.drop⟩
            show ro = runO p Z.reverse u3
            rw [hnx, hZ, List.reverse_append, List.reverse_reverse, show m + 1 + ((0 : Nat) : Int) = m + 1 by omega]; rfl
        | succ j =>
          refine goes_seq ?_
          refine goes_seq ?_
          refine goes_region ?_
          refine lst_run (run_move (by conv => lhs; whnf)) rfl ?_
          first
            | refine lst_run (run_gtr_yes rfl rfl (by omega)) rfl ?_
            | refine lst_run (run_gtr_no rfl rfl (by omega)) rfl ?_
            | refine lst_run (rfl) rfl ?_
          refine lst_done ?_
          refine goes_true rfl ?_
          refine goes_skip ?_
          refine goes_seq ?_
          refine goes_block ?_
          refine goes_region ?_
          refine lst_run (run_move (by conv => lhs; whnf)) rfl ?_
          refine lst_run (run_move (by conv => lhs; whnf)) rfl ?_
          refine lst_run (run_move (by conv => lhs; whnf)) rfl ?_
          refine lst_run (run_add rfl rfl (by omega) (by omega)) rfl ?_
          refine lst_buildSlice (cells := [_]) hS (.cons (by conv => lhs; whnf) .nil) rfl rfl ?_
          clear hS
          intro b11 wx17 hS
          refine lst_appI (L := [m + ((j + 1 : Nat) : Int)]) hS (by conv => lhs; whnf) (by rfl) rfl rfl rfl (Flat.own (sp := []) (hS.own (_, _) (.head _)) rfl (Nat.le_refl _)) hrowz (List.perm_append_comm_assoc [_, _, _, _, _, _, _, _] Oz _) (by simp; omega) rfl ?_
          clear hS
          intro v12 O12 w12 hrow12 hS
          obtain ⟨B12, d12, rfl, _⟩ := hrow12.form
          replace hS := hS.perm (List.perm_append_comm_assoc O12 [_, _, _, _, _, _, _, _] _)
          refine lst_run (run_assign (by conv => lhs; whnf)) rfl ?_
          refine lst_done ?_
          refine goes_inBlock ?_
          refine goes_region ?_
          refine lst_run (run_move (by conv => lhs; whnf)) rfl ?_
          first
            | refine lst_run (run_sub rfl rfl (by omega) (by omega)) rfl ?_
            | refine lst_run (run_sub_u8 rfl rfl) rfl ?_
          refine lst_run (run_assign (by conv => lhs; whnf)) rfl ?_
          refine lst_done ?_
          refine ih11 j _ _ _ _ ?_ ?_ (by conv => lhs; whnf) (by conv => lhs; whnf) (by kernel_rfl)
          · omega
          · refine ⟨Z ++ [m + ((j + 1 : Nat) : Int)], B12, d12, O12, by omega, ?_, by rw [List.length_append], by congr 1; omega, ?_, hS.drop⟩
            · rw [hZ, show k - j = (k - (j + 1)) + 1 by omega]
              simp only [ups, List.reverse_cons, List.append_assoc]
              rw [show m + 1 + ((j : Nat) : Int) + 1 = m + 1 + ((j + 1 : Nat) : Int) by omega, show m + 1 + ((j : Nat) : Int) = m + ((j + 1 : Nat) : Int) by omega]
            · rw [List.length_append, show intsV (Z ++ [m + ((j + 1 : Nat) : Int)]) = intsV Z ++ intsV [m + ((j + 1 : Nat) : Int)] by simp [intsV]]; exact hrow12
      · have hk3 : (argsC ct).toNat = 0 := by unfold argsC; rw [if_neg k3]; rfl
        rw [hk3] at hnx
        refine goes_false rfl ?_
        refine goes_skip ?_
        refine goes_seq ?_
        refine goes_region ?_
        refine lst_run (run_fieldAddr (off := 0) rfl rfl) rfl ?_
        first
          | refine lst_run (run_load1_own hS rfl rfl (by first | exact .head | exact .tail .head | exact .tail (.tail .head) | exact .tail (.tail (.tail .head)) | exact .tail (.tail (.tail (.tail .head))) | exact .tail (.tail (.tail (.tail (.tail .head))))) (by repeat constructor)) rfl ?_
          | refine lst_run (run_load1 rfl rfl (by first | assumption | exact (hcg (X := [_, _, _]) _ hct hscl hS).1 | exact (hcg (X := [_, _, _]) _ hct hscl hS).2.1 | exact (hcg (X := [_, _, _]) _ hct hscl hS).2.2 | exact hS.cell0 (by assumption) | exact lv_next hS | exact lv_list hS)) rfl ?_
        refine lst_run (run_move (by conv => lhs; whnf)) rfl ?_
        refine lst_run (run_indexAddr (sz := 3) rfl rfl rfl rfl (by omega) (by omega)) rfl ?_
        first
          | refine lst_run (run_loadN_own (k := 3) hS rfl rfl rfl (by first | exact .head | exact .tail .head | exact .tail (.tail .head) | exact .tail (.tail (.tail .head)) | exact .tail (.tail (.tail (.tail .head))) | exact .tail (.tail (.tail (.tail (.tail .head))))) (by repeat constructor)) rfl ?_
          | refine lst_run (run_load3 rfl rfl rfl (by first | assumption | exact (hcg (X := [_, _, _]) _ hct hscl hS).1 | exact (hcg (X := [_, _, _]) _ hct hscl hS).2.1 | exact (hcg (X := [_, _, _]) _ hct hscl hS).2.2 | exact hS.cell0 (by assumption)) (by first | assumption | exact (hcg (X := [_, _, _]) _ hct hscl hS).1 | exact (hcg (X := [_, _, _]) _ hct hscl hS).2.1 | exact (hcg (X := [_, _, _]) _ hct hscl hS).2.2 | exact hS.cell0 (by assumption)) (by first | assumption | exact (hcg (X := [_, _, _]) _ hct hscl hS).1 | exact (hcg (X := [_, _, _]) _ hct hscl hS).2.1 | exact (hcg (X := [_, _, _]) _ hct hscl hS).2.2 | exact hS.cell0 (by assumption))) rfl ?_
        refine lst_alloc (cs := [_, _, _]) hS rfl rfl rfl ?_
        clear hS
        intro b10 wx15 hS
        refine lst_storeN hS rfl (by conv => lhs; whnf) rfl rfl (by first | exact .head | exact .tail .head | exact .tail (.tail .head) | exact .tail (.tail (.tail .head)) | exact .tail (.tail (.tail (.tail .head))) | exact .tail (.tail (.tail (.tail (.tail .head))))) (by repeat constructor) (by first | exact .head | exact .tail .head | exact .tail (.tail .head) | exact .tail (.tail (.tail .head)) | exact .tail (.tail (.tail (.tail .head))) | exact .tail (.tail (.tail (.tail (.tail .head))))) ?_
        clear hS
        intro wx16 hS
        refine lst_done ?_
        refine goes_seq ?_
        refine goes_region ?_
        refine lst_run (run_fieldAddr (off := 0) rfl rfl) rfl ?_
        first
          | refine lst_run (run_load1_own hS rfl rfl (by first | exact .head | exact .tail .head | exact .tail (.tail .head) | exact .tail (.tail (.tail .head)) | exact .tail (.tail (.tail (.tail .head))) | exact .tail (.tail (.tail (.tail (.tail .head))))) (by repeat constructor)) rfl ?_
          | refine lst_run (run_load1 rfl rfl (by first | assumption | exact (hcg (X := [_, _, _]) _ hct hscl hS).1 | exact (hcg (X := [_, _, _]) _ hct hscl hS).2.1 | exact (hcg (X := [_, _, _]) _ hct hscl hS).2.2 | exact hS.cell0 (by assumption) | exact lv_next hS | exact lv_list hS)) rfl ?_
        first
          | refine lst_run (run_eql_one_int rfl rfl) rfl ?_
          | refine lst_run (run_eql_no rfl rfl (by first | assumption | omega)) rfl ?_
          | refine lst_run (run_eql_yes rfl rfl (by omega)) rfl ?_
          | refine lst_run (rfl) rfl ?_
        refine lst_done ?_
        refine goes_false rfl ?_
        refine goes_skip ?_
        refine goes_inBlock ?_
        refine ih9 (Sq, u3) _ _ _ _ ?_ ?_ (by conv => lhs; whnf) (by conv => lhs; whnf) (by kernel_rfl)
        · show 401 - u3.w < 401 - u2.w; omega
        · refine ⟨some ⟨sb, 0, none⟩, cs2, [(sb, .cells (intsV (Sq ++ [t]) ++ ssp).toArray 3)], by rw [show (((Sq.length + 1 : Nat) : Int) - 1).toNat = Sq.length by omega], by show Value.int .i64 (400 - (u2.w : Int) - 1) = .int .i64 (400 - (u3.w : Nat)); rw [hnw], hnx, by show u3.cs = s.cs; rw [hcs2, h2cs], by show u3.tr = s.tr; rw [htr2, h2tr], hs2, by show u3.w ≤ 400; omega, by show s.w ≤ u3.w; omega, fun _ => by show s.w < u3.w; omega, by show Sq.length ≤ 1 + 4 * u3.w; omega, hrowq2, hS.drop⟩
  · rw [if_neg kx] at hrr2
    by_cases ky : cy.k = 0
    · have hyn2 : cy.n = q := Classical.byContradiction fun e => hcye ⟨ky, e⟩
      rw [if_pos ky] at hrr2
      refine goes_seq ?_
      refine goes_seq ?_
      refine goes_region ?_
      refine lst_run (run_fieldAddr (off := 0) rfl rfl) rfl ?_
      first
        | refine lst_run (run_load1_own hS rfl rfl (by first | exact .head | exact .tail .head | exact .tail (.tail .head) | exact .tail (.tail (.tail .head)) | exact .tail (.tail (.tail (.tail .head))) | exact .tail (.tail (.tail (.tail (.tail .head))))) (by repeat constructor)) rfl ?_
        | refine lst_run (run_load1 rfl rfl (by first | assumption | exact (hcg (X := [_, _, _]) _ hct hscl hS).1 | exact (hcg (X := [_, _, _]) _ hct hscl hS).2.1 | exact (hcg (X := [_, _, _]) _ hct hscl hS).2.2 | exact hS.cell0 (by assumption) | exact lv_next hS | exact lv_list hS)) rfl ?_
      first
        | refine lst_run (run_eql_one_int rfl rfl) rfl ?_
        | refine lst_run (run_eql_no rfl rfl (by first | assumption | omega)) rfl ?_
        | refine lst_run (run_eql_yes rfl rfl (by omega)) rfl ?_
        | refine lst_run (rfl) rfl ?_
      refine lst_run (run_move (by conv => lhs; whnf)) rfl ?_
      refine lst_pass rfl rfl rfl ?_
      refine lst_pass rfl rfl rfl ?_
      refine lst_pass rfl rfl rfl ?_
      first
        | refine lst_run (run_pick_t rfl (by conv => lhs; whnf)) rfl ?_
        | refine lst_run (run_pick_f rfl (by conv => lhs; whnf)) rfl ?_
      refine lst_done ?_
      refine goes_false rfl ?_
      refine goes_skip ?_
      refine goes_seq ?_
      refine goes_seq ?_
      refine goes_region ?_
      refine lst_run (run_fieldAddr (off := 0) rfl rfl) rfl ?_
      first
        | refine lst_run (run_load1_own hS rfl rfl (by first | exact .head | exact .tail .head | exact .tail (.tail .head) | exact .tail (.tail (.tail .head)) | exact .tail (.tail (.tail (.tail .head))) | exact .tail (.tail (.tail (.tail (.tail .head))))) (by repeat constructor)) rfl ?_
        | refine lst_run (run_load1 rfl rfl (by first | assumption | exact (hcg (X := [_, _, _]) _ hct hscl hS).1 | exact (hcg (X := [_, _, _]) _ hct hscl hS).2.1 | exact (hcg (X := [_, _, _]) _ hct hscl hS).2.2 | exact hS.cell0 (by assumption) | exact lv_next hS | exact lv_list hS)) rfl ?_
      first
        | refine lst_run (run_eql_one_int rfl rfl) rfl ?_
        | refine lst_run (run_eql_no rfl rfl (by first | assumption | omega)) rfl ?_
        | refine lst_run (run_eql_yes rfl rfl (by omega)) rfl ?_
        | refine lst_run (rfl) rfl ?_
      refine lst_done ?_
      refine goes_true rfl ?_
      refine goes_draw (St _ w0 [_, _] []) 6 ((0, true) :: (1, true) :: (2, true) :: (3, true) :: (4, true) :: (5, true) :: []) (by kernel_rfl) (by kernel_rfl) (hS.drew.bare2) ?_
      replace hS := hS.drew
      refine ord_read rfl (fun _ hS => run_move (by conv => lhs; whnf)) rfl ?_
      refine ord_read rfl (fun _ hS => run_move (by conv => lhs; whnf)) rfl ?_
      first
        | refine ord_read rfl (fun _ hS => run_loadN_own (k := 3) hS rfl rfl rfl (by first | exact .head | exact .tail .head | exact .tail (.tail .head) | exact .tail (.tail (.tail .head)) | exact .tail (.tail (.tail (.tail .head))) | exact .tail (.tail (.tail (.tail (.tail .head))))) (by repeat constructor)) rfl ?_
        | refine ord_read rfl (fun _ hS => run_load3 rfl rfl rfl (by first | assumption | exact (hcg (X := [_, _, _]) _ hct hscl hS).1 | exact (hcg (X := [_, _, _]) _ hct hscl hS).2.1 | exact (hcg (X := [_, _, _]) _ hct hscl hS).2.2 | exact hS.cell0 (by assumption)) (by first | assumption | exact (hcg (X := [_, _, _]) _ hct hscl hS).1 | exact (hcg (X := [_, _, _]) _ hct hscl hS).2.1 | exact (hcg (X := [_, _, _]) _ hct hscl hS).2.2 | exact hS.cell0 (by assumption)) (by first | assumption | exact (hcg (X := [_, _, _]) _ hct hscl hS).1 | exact (hcg (X := [_, _, _]) _ hct hscl hS).2.1 | exact (hcg (X := [_, _, _]) _ hct hscl hS).2.2 | exact hS.cell0 (by assumption))) rfl ?_
      first
        | refine ord_read rfl (fun _ hS => run_loadN_own (k := 3) hS rfl rfl rfl (by first | exact .head | exact .tail .head | exact .tail (.tail .head) | exact .tail (.tail (.tail .head)) | exact .tail (.tail (.tail (.tail .head))) | exact .tail (.tail (.tail (.tail (.tail .head))))) (by repeat constructor)) rfl ?_
        | refine ord_read rfl (fun _ hS => run_load3 rfl rfl rfl (by first | assumption | exact (hcg (X := [_, _, _]) _ hct hscl hS).1 | exact (hcg (X := [_, _, _]) _ hct hscl hS).2.1 | exact (hcg (X := [_, _, _]) _ hct hscl hS).2.2 | exact hS.cell0 (by assumption)) (by first | assumption | exact (hcg (X := [_, _, _]) _ hct hscl hS).1 | exact (hcg (X := [_, _, _]) _ hct hscl hS).2.1 | exact (hcg (X := [_, _, _]) _ hct hscl hS).2.2 | exact hS.cell0 (by assumption)) (by first | assumption | exact (hcg (X := [_, _, _]) _ hct hscl hS).1 | exact (hcg (X := [_, _, _]) _ hct hscl hS).2.1 | exact (hcg (X := [_, _, _]) _ hct hscl hS).2.2 | exact hS.cell0 (by assumption))) rfl ?_
      refine ord_read rfl (fun _ hS => run_assign (by conv => lhs; whnf)) rfl ?_
      refine ord_read rfl (fun _ hS => run_assign (by conv => lhs; whnf)) rfl ?_
      refine ord_end ?_
      refine lst_storeN hS rfl (by conv => lhs; whnf) rfl rfl (by first | exact .head | exact .tail .head | exact .tail (.tail .head) | exact .tail (.tail (.tail .head)) | exact .tail (.tail (.tail (.tail .head))) | exact .tail (.tail (.tail (.tail (.tail .head))))) (by repeat constructor) (by first | exact .head | exact .tail .head | exact .tail (.tail .head) | exact .tail (.tail (.tail .head)) | exact .tail (.tail (.tail (.tail .head))) | exact .tail (.tail (.tail (.tail (.tail .head))))) ?_
      clear hS
      intro wx14 hS
      refine lst_storeN hS rfl (by conv => lhs; whnf) rfl rfl (by first | exact .head | exact .tail .head | exact .tail (.tail .head) | exact .tail (.tail (.tail .head)) | exact .tail (.tail (.tail (.tail .head))) | exact .tail (.tail (.tail (.tail (.tail .head))))) (by repeat constructor) (by first | exact .head | exact .tail .head | exact .tail (.tail .head) | exact .tail (.tail (.tail .head)) | exact .tail (.tail (.tail (.tail .head))) | exact .tail (.tail (.tail (.tail (.tail .head))))) ?_
      clear hS
      intro wx15 hS
      refine lst_done ?_
      refine goes_seq ?_
      refine goes_seq ?_
      refine goes_region ?_
      refine lst_run (run_fieldAddr (off := 0) rfl rfl) rfl ?_
      first
        | refine lst_run (run_load1_own hS rfl rfl (by first | exact .head | exact .tail .head | exact .tail (.tail .head) | exact .tail (.tail (.tail .head)) | exact .tail (.tail (.tail (.tail .head))) | exact .tail (.tail (.tail (.tail (.tail .head))))) (by repeat constructor)) rfl ?_
        | refine lst_run (run_load1 rfl rfl (by first | assumption | exact (hcg (X := [_, _, _]) _ hct hscl hS).1 | exact (hcg (X := [_, _, _]) _ hct hscl hS).2.1 | exact (hcg (X := [_, _, _]) _ hct hscl hS).2.2 | exact hS.cell0 (by assumption) | exact lv_next hS | exact lv_list hS)) rfl ?_
      first
        | refine lst_run (run_eql_one_int rfl rfl) rfl ?_
        | refine lst_run (run_eql_no rfl rfl (by first | assumption | omega)) rfl ?_
        | refine lst_run (run_eql_yes rfl rfl (by omega)) rfl ?_
        | refine lst_run (rfl) rfl ?_
      refine lst_done ?_
      refine goes_true rfl ?_
      refine goes_seq ?_
      refine goes_region ?_
      refine lst_run (run_move (by conv => lhs; whnf)) rfl ?_
      refine lst_buildSlice (cells := [_]) hS (.cons (by conv => lhs; whnf) .nil) rfl rfl ?_
      clear hS
      intro b9 wx16 hS
      refine lst_run (run_assign (by conv => lhs; whnf)) rfl ?_
      refine lst_done ?_
      refine goes_seq ?_
      refine goes_block ?_
      have hro := runO_one q p s
      have hasg : asgU q p s = if (runO q [p] s).1 = true ∨ (runO q [p] s).2.lg = true then (false, (runO q [p] s).2) else (true, (runO q [p] s).2.bind q p) := by rw [hro]; rfl
      rw [hasg] at hrr2
      clear hasg hro
      have hrs0 : Rw 3 1 (.slice (some ⟨b9, 0, none⟩) 1 1) 1 (intsV [p]) [(b9, .cells (intsV [p] ++ []).toArray 3)] := Rw.own_ rfl rfl (Nat.le_refl _) (by omega)
      generalize hro : runO q [p] s = ro at *
      have hrl : ro.1 = false → ro.2.lg = true → r.2.lg = true := fun e1 e2 => by rw [hrr2, if_pos (.inr e2)]; unfold contS; rw [if_neg (by simp)]; exact e2
      have hrf : ∀ s2 : HU, ro = (true, s2) → s2.lg = false → r.1 = false ∧ r.2.lg = false := fun s2 e1 e2 => by rw [hrr2, e1, if_pos (.inl rfl)]; unfold contS; rw [if_neg (by simp)]; exact ⟨rfl, e2⟩
      have hrd : ∀ s2 : HU, ro = (false, s2) → s2.lg = false → r = runS Lq.reverse (s2.bind q p) := fun s2 e1 e2 => by rw [hrr2, e1, if_neg (by rw [e2]; simp)]; rfl
      refine goes_loop2 17 11 (135 :: 136 :: 137 :: 138 :: 139 :: 140 :: 141 :: 142 :: 143 :: 18 :: 144 :: 145 :: 146 :: 147 :: 148 :: 149 :: 150 :: 151 :: 152 :: 153 :: 154 :: 155 :: 156 :: 157 :: 158 :: 159 :: 160 :: 7 :: 8 :: 161 :: 162 :: 163 :: 164 :: 165 :: 166 :: 167 :: 168 :: 169 :: 19 :: 170 :: 171 :: 172 :: 173 :: 174 :: 20 :: 175 :: 176 :: 179 :: 180 :: 181 :: 182 :: 183 :: 184 :: 177 :: 178 :: []) (fun (z : List Int × HU) v yy w' => ∃ (As : Option Addr) (cs' : Nat) (Os : List (Nat × Obj)), v = .slice As z.1.length cs' ∧ yy = .int .i64 (400 - (z.2.w : Nat)) ∧ ro = runO q z.1.reverse z.2 ∧ z.2.cs = s.cs ∧ z.2.tr = s.tr ∧ z.2.lg = false ∧ z.2.w ≤ 400 ∧ s.w ≤ z.2.w ∧ (z.1 = [] → s.w < z.2.w) ∧ z.1.length ≤ 1 + 4 * z.2.w ∧ Rw 3 1 (.slice As z.1.length cs') z.1.length (intsV z.1) Os ∧ St M w0 ((b5, .cells (hcs cy).toArray 59) :: (b6, .cells (hcs cx).toArray 59) :: (b3, hob (some ⟨g, 0, none⟩) h.cs.length c3 Bt s.tr.length d5) :: (g, cob s.cs sp) :: (b2, hob none 0 0 none 0 0) :: (b1, hob A h.cs.length c B h.tr.length d) :: (Os ++ (Ot ++ ([(lb, .cells (prs (Lq ++ [(x, y)]) ++ lsp).toArray 65)] ++ H)))) F w') (fun z => 401 - z.2.w) (([p], s)) ?_ (by conv => lhs; whnf) (by conv => lhs; whnf) ?_
      · exact ⟨some ⟨b9, 0, none⟩, 1, [(b9, .cells (intsV [p] ++ []).toArray 3)], rfl, by show Value.int .i64 (400 - (u.w : Int) - 1) = .int .i64 (400 - (s.w : Nat)); congr 1; omega, hro.symm, rfl, rfl, hls, hws, Nat.le_refl _, fun e => (by cases e), by simp, hrs0, hS.perm (List.perm_append_comm_assoc [_] [_, _, _, _, _, _] _)⟩
      clear hS hrs0
      rintro ⟨Sz, u2⟩ _ _ w9 jv9 ⟨As, cs2, Os, hv9, hy9, hrun, h2cs, h2tr, h2lg, h2w, h2s, h2n, h2l, hrows, hS⟩ ih9
      dsimp only at hv9 hy9 hrun h2cs h2tr h2lg h2w h2s h2n h2l hrows
      subst hy9
      rcases List.eq_nil_or_concat Sz with rfl | ⟨Sq, t, hSz⟩
      · subst hv9
        have hr9 := hrd u2 hrun h2lg
        have hw9 := h2n rfl
        have hG2 : GU h.cs.length u2 := ⟨by rw [h2cs]; exact hGs.len, by rw [h2cs]; exact hGs.good, fun _ => h2w, by rw [h2tr]; omega⟩
        have hGb : GU h.cs.length (u2.bind q p) := hG2.bind (by rw [h2cs]; exact hcy) ky (by omega) (by omega) (by rw [h2tr]; omega)
        rw [← h2cs, ← h2tr] at hS
        rw [← h2tr] at hrowt
        refine goes_seq ?_
        refine goes_seq ?_
        refine goes_region ?_
        refine lst_run (run_move (by conv => lhs; whnf)) rfl ?_
        refine lst_run (run_len_slice rfl rfl rfl) rfl ?_
        first
          | refine lst_run (run_gtr_yes rfl rfl (by omega)) rfl ?_
          | refine lst_run (run_gtr_no rfl rfl (by omega)) rfl ?_
          | refine lst_run (rfl) rfl ?_
        refine lst_done ?_
        refine goes_false rfl ?_
        refine goes_exit rfl ?_
        refine goes_seq ?_
        refine goes_region ?_
        refine lst_run (run_move (by conv => lhs; whnf)) rfl ?_
        refine lst_run (run_move (by conv => lhs; whnf)) rfl ?_
        refine lst_run (run_move (by conv => lhs; whnf)) rfl ?_
        refine lst_enter (run_callv rfl (by kernel_rfl) (args_2 (by conv => lhs; whnf) (by conv => lhs; whnf))) rfl ?_
        refine Calls.mono (hbnd (X := [_, _]) (s' := u2) (Oy := [(lb, .cells (prs (Lq ++ [(x, y)]) ++ lsp).toArray 65)]) q p cy (by rw [h2cs]; exact hcy) (by rw [h2tr]; omega) hG2.len hrowt (St.dropL (L := Os) (hS.perm (List.perm_append_comm_assoc [_, _, _, _, _, _] Os _)))) ?_
        rintro _ w10 ⟨rfl, B10, d10, O10, hrow10, hS'⟩
        refine ⟨_, rfl, ?_⟩
        replace hS := hS'
        clear hS'
        refine lst_done ?_
        refine goes_exit rfl ?_
        refine ih (Lq, u2.bind q p) _ _ _ _ ?_ ?_ (by conv => lhs; whnf) (by conv => lhs; whnf) (by kernel_rfl)
        · show 401 - u2.w < 401 - u.w; omega
        · exact ⟨some ⟨lb, 0, none⟩, cl, d10, B10, O10, [(lb, .cells (prs (Lq ++ [(x, y)]) ++ lsp).toArray 65)], (by rw [show (((Lq.length + 1 : Nat) : Int) - 1).toNat = Lq.length by omega]), rfl, hr9, hGb, h2lg, by show Lq.length ≤ 1 + 4 * u2.w; omega, hrowq, hrow10, hS⟩
      rw [List.concat_eq_append] at hSz
      subst hSz
      have hSl : (Sq ++ [t]).length = Sq.length + 1 := by simp
      rw [hSl] at hrows h2l hv9
      subst hv9
      obtain ⟨sb, ssp, rfl, rfl, hscap, hsle, _⟩ := hrows.some_ (by omega)
      have hrowq2 : Rw 3 1 (.slice (some ⟨sb, 0, none⟩) Sq.length cs2) Sq.length (intsV Sq) [(sb, .cells (intsV (Sq ++ [t]) ++ ssp).toArray 3)] := by
        rw [show intsV (Sq ++ [t]) = intsV Sq ++ intsV [t] by simp [intsV]] at hrows ⊢
        exact hrows.cut (intsV_len Sq) (by omega)
      rw [List.reverse_append] at hrun
      replace hrun : ro = runO q (t :: Sq.reverse) u2 := hrun
      have hpt : ∀ {X Y : List (Nat × Obj)} w', St M w0 (X ++ ([(sb, .cells (intsV (Sq ++ [t]) ++ ssp).toArray 3)] ++ Y)) F w' → w'.cell? ⟨sb, 0 + (((Sq.length + 1 : Nat) : Int) - 1).toNat * 1, none⟩ = some (.int .i64 t) := fun w' hS => by
        rw [cell_own (hS.own (sb, .cells (intsV (Sq ++ [t]) ++ ssp).toArray 3) (by simp)), show 0 + (((Sq.length + 1 : Nat) : Int) - 1).toNat * 1 = Sq.length by omega]
        simp [intsV]
      have hst2 : (u2.step.look t).2.lg = decide (400 < u2.w + 1 ∨ hlook s.cs t < 0) := by
        by_cases h4 : 400 < u2.w + 1
        · rw [decide_eq_true (.inl h4)]
          cases hq : (u2.step.look t).2.lg with
          | true => rfl
          | false => have := (step_facts hq).2.1; omega
        · have hst : u2.step.lg = false := by simp only [HU.step]; rw [h2lg, decide_eq_false h4]; rfl
          unfold HU.look
          rw [if_neg (by rw [hst]; decide)]
          show decide (hlook u2.cs t < 0) = _
          rw [h2cs]
          by_cases hy : hlook s.cs t < 0
          · rw [decide_eq_true hy, decide_eq_true (.inr hy)]
          · rw [decide_eq_false hy, decide_eq_false (by omega)]
      by_cases h4 : 400 < u2.w + 1
      · obtain ⟨g1, g2⟩ := runO_long (a := q) (r := Sq.reverse) (by rw [hst2, decide_eq_true (.inl h4)] : (u2.step.look t).2.lg = true)
        rw [hlong (hrl (by rw [hrun]; exact g1) (by rw [hrun]; exact g2))]
        refine goes_seq ?_
        refine goes_seq ?_
        refine goes_region ?_
        refine lst_run (run_move (by conv => lhs; whnf)) rfl ?_
        refine lst_run (run_len_slice rfl rfl rfl) rfl ?_
        first
          | refine lst_run (run_gtr_yes rfl rfl (by omega)) rfl ?_
          | refine lst_run (run_gtr_no rfl rfl (by omega)) rfl ?_
          | refine lst_run (rfl) rfl ?_
        refine lst_done ?_
        refine goes_true rfl ?_
        refine goes_skip ?_
        refine goes_block ?_
        refine goes_seq ?_
        refine goes_region ?_
        refine lst_run (run_move (by conv => lhs; whnf)) rfl ?_
        refine lst_run (run_move (by conv => lhs; whnf)) rfl ?_
        refine lst_run (run_len_slice rfl rfl rfl) rfl ?_
        first
          | refine lst_run (run_sub rfl rfl (by omega) (by omega)) rfl ?_
          | refine lst_run (run_sub_u8 rfl rfl) rfl ?_
        refine lst_run (run_indexAddr (sz := 1) rfl rfl rfl rfl (by omega) (by omega)) rfl ?_
        first
          | refine lst_run (run_load1_own hS rfl rfl (by first | exact .head | exact .tail .head | exact .tail (.tail .head) | exact .tail (.tail (.tail .head)) | exact .tail (.tail (.tail (.tail .head))) | exact .tail (.tail (.tail (.tail (.tail .head))))) (by repeat constructor)) rfl ?_
          | refine lst_run (run_load1 rfl rfl (by first | assumption | exact hpt (X := [_, _, _, _, _, _]) _ hS | exact hS.cell0 (by assumption) | exact lv_next hS | exact lv_list hS)) rfl ?_
        refine lst_run (run_assign (by conv => lhs; whnf)) rfl ?_
        refine lst_done ?_
        refine goes_seq ?_
        refine goes_region ?_
        refine lst_run (run_move (by conv => lhs; whnf)) rfl ?_
        refine lst_run (run_move (by conv => lhs; whnf)) rfl ?_
        refine lst_run (run_len_slice rfl rfl rfl) rfl ?_
        first
          | refine lst_run (run_sub rfl rfl (by omega) (by omega)) rfl ?_
          | refine lst_run (run_sub_u8 rfl rfl) rfl ?_
        refine lst_run (run_slice_slice (sz := 1) rfl rfl rfl rfl (by omega) (by omega)) rfl ?_
        refine lst_run (run_assign (by conv => lhs; whnf)) rfl ?_
        refine lst_done ?_
        refine goes_seq ?_
        refine goes_region ?_
        refine lst_run (run_move (by conv => lhs; whnf)) rfl ?_
        first
          | refine lst_run (run_sub rfl rfl (by omega) (by omega)) rfl ?_
          | refine lst_run (run_sub_u8 rfl rfl) rfl ?_
        refine lst_run (run_assign (by conv => lhs; whnf)) rfl ?_
        refine lst_done ?_
        refine goes_seq ?_
        refine goes_seq ?_
        refine goes_region ?_
        first
          | refine lst_run (run_loadN_own (k := 2) hS rfl rfl rfl (by first | exact .head | exact .tail .head | exact .tail (.tail .head) | exact .tail (.tail (.tail .head)) | exact .tail (.tail (.tail (.tail .head))) | exact .tail (.tail (.tail (.tail (.tail .head))))) (by repeat constructor)) rfl ?_
          | refine lst_run (run_load2 rfl rfl rfl (by first | assumption | exact hpt (X := [_, _, _, _, _, _]) _ hS | exact hS.cell0 (by assumption)) (by first | assumption | exact hpt (X := [_, _, _, _, _, _]) _ hS | exact hS.cell0 (by assumption))) rfl ?_
        refine lst_run (run_move (by conv => lhs; whnf)) rfl ?_
        refine lst_enter (run_call (by kernel_rfl) (args_2 (by conv => lhs; whnf) (by conv => lhs; whnf))) rfl ?_
        refine Calls.mono (hla (X := [_, _, _]) (u' := s) t hscl hS) ?_
        rintro _ w10 ⟨rfl, hb10⟩
        refine ⟨_, rfl, ?_⟩
        replace hS := hS.grow hb10
        refine lst_run (run_assign (by conv => lhs; whnf)) rfl ?_
        refine lst_done ?_
        refine goes_seq ?_
        refine goes_region ?_
        refine lst_run (run_move (by conv => lhs; whnf)) rfl ?_
        first
          | refine lst_run (run_lss_yes rfl rfl (by omega)) rfl ?_
          | refine lst_run (run_lss_no rfl rfl (by omega)) rfl ?_
          | refine lst_run (rfl) rfl ?_
        refine lst_run (run_move (by conv => lhs; whnf)) rfl ?_
        refine lst_pass rfl rfl rfl ?_
        refine lst_pass rfl rfl rfl ?_
        first
          | refine lst_run (run_pick_t rfl (by conv => lhs; whnf)) rfl ?_
          | refine lst_run (run_pick_f rfl (by conv => lhs; whnf)) rfl ?_
        refine lst_done ?_
        refine goes_true rfl ?_
        refine goes_seq ?_
        refine goes_region ?_
        first
          | refine lst_run (run_loadN_own (k := 2) hS rfl rfl rfl (by first | exact .head | exact .tail .head | exact .tail (.tail .head) | exact .tail (.tail (.tail .head)) | exact .tail (.tail (.tail (.tail .head))) | exact .tail (.tail (.tail (.tail (.tail .head))))) (by repeat constructor)) rfl ?_
          | refine lst_run (run_load2 rfl rfl rfl (by first | assumption | exact hpt (X := [_, _, _, _, _, _]) _ hS | exact hS.cell0 (by assumption)) (by first | assumption | exact hpt (X := [_, _, _, _, _, _]) _ hS | exact hS.cell0 (by assumption))) rfl ?_
        refine lst_storeN hS rfl (by conv => lhs; whnf) rfl rfl (by first | exact .head | exact .tail .head | exact .tail (.tail .head) | exact .tail (.tail (.tail .head)) | exact .tail (.tail (.tail (.tail .head))) | exact .tail (.tail (.tail (.tail (.tail .head))))) (by repeat constructor) (by first | exact .head | exact .tail .head | exact .tail (.tail .head) | exact .tail (.tail (.tail .head)) | exact .tail (.tail (.tail (.tail .head))) | exact .tail (.tail (.tail (.tail (.tail .head))))) ?_
        clear hS
        intro wx17 hS
        refine lst_run (run_assign (by conv => lhs; whnf)) rfl ?_
        refine lst_run (run_assign (by conv => lhs; whnf)) rfl ?_
        refine lst_done ?_
        refine goes_retC3 (sz := 2) hS Try.func13 rfl rfl (by conv => lhs; whnf) (by conv => lhs; whnf) rfl rfl (by first | exact .head | exact .tail .head | exact .tail (.tail .head) | exact .tail (.tail (.tail .head)) | exact .tail (.tail (.tail (.tail .head))) | exact .tail (.tail (.tail (.tail (.tail .head))))) (by repeat constructor) ?_
        exact ⟨A, c, B, d, F, rfl, fun _ h => h, hH, hback (X := Ot) (hS.drop.drop.drop.drop.drop.drop.drop)⟩
      by_cases htn : hlook s.cs t < 0
      · obtain ⟨g1, g2⟩ := runO_long (a := q) (r := Sq.reverse) (by rw [hst2, decide_eq_true (.inr htn)] : (u2.step.look t).2.lg = true)
        rw [hlong (hrl (by rw [hrun]; exact g1) (by rw [hrun]; exact g2))]
        refine goes_seq ?_
        refine goes_seq ?_
        refine goes_region ?_
        refine lst_run (run_move (by conv => lhs; whnf)) rfl ?_
        refine lst_run (run_len_slice rfl rfl rfl) rfl ?_
        first
          | refine lst_run (run_gtr_yes rfl rfl (by omega)) rfl ?_
          | refine lst_run (run_gtr_no rfl rfl (by omega)) rfl ?_
          | refine lst_run (rfl) rfl ?_
        refine lst_done ?_
        refine goes_true rfl ?_
        refine goes_skip ?_
        refine goes_block ?_
        refine goes_seq ?_
        refine goes_region ?_
        refine lst_run (run_move (by conv => lhs; whnf)) rfl ?_
        refine lst_run (run_move (by conv => lhs; whnf)) rfl ?_
        refine lst_run (run_len_slice rfl rfl rfl) rfl ?_
        first
          | refine lst_run (run_sub rfl rfl (by omega) (by omega)) rfl ?_
          | refine lst_run (run_sub_u8 rfl rfl) rfl ?_
        refine lst_run (run_indexAddr (sz := 1) rfl rfl rfl rfl (by omega) (by omega)) rfl ?_
        first
          | refine lst_run (run_load1_own hS rfl rfl (by first | exact .head | exact .tail .head | exact .tail (.tail .head) | exact .tail (.tail (.tail .head)) | exact .tail (.tail (.tail (.tail .head))) | exact .tail (.tail (.tail (.tail (.tail .head))))) (by repeat constructor)) rfl ?_
          | refine lst_run (run_load1 rfl rfl (by first | assumption | exact hpt (X := [_, _, _, _, _, _]) _ hS | exact hS.cell0 (by assumption) | exact lv_next hS | exact lv_list hS)) rfl ?_
        refine lst_run (run_assign (by conv => lhs; whnf)) rfl ?_
        refine lst_done ?_
        refine goes_seq ?_
        refine goes_region ?_
        refine lst_run (run_move (by conv => lhs; whnf)) rfl ?_
        refine lst_run (run_move (by conv => lhs; whnf)) rfl ?_
        refine lst_run (run_len_slice rfl rfl rfl) rfl ?_
        first
          | refine lst_run (run_sub rfl rfl (by omega) (by omega)) rfl ?_
          | refine lst_run (run_sub_u8 rfl rfl) rfl ?_
        refine lst_run (run_slice_slice (sz := 1) rfl rfl rfl rfl (by omega) (by omega)) rfl ?_
        refine lst_run (run_assign (by conv => lhs; whnf)) rfl ?_
        refine lst_done ?_
        refine goes_seq ?_
        refine goes_region ?_
        refine lst_run (run_move (by conv => lhs; whnf)) rfl ?_
        first
          | refine lst_run (run_sub rfl rfl (by omega) (by omega)) rfl ?_
          | refine lst_run (run_sub_u8 rfl rfl) rfl ?_
        refine lst_run (run_assign (by conv => lhs; whnf)) rfl ?_
        refine lst_done ?_
        refine goes_seq ?_
        refine goes_seq ?_
        refine goes_region ?_
        first
          | refine lst_run (run_loadN_own (k := 2) hS rfl rfl rfl (by first | exact .head | exact .tail .head | exact .tail (.tail .head) | exact .tail (.tail (.tail .head)) | exact .tail (.tail (.tail (.tail .head))) | exact .tail (.tail (.tail (.tail (.tail .head))))) (by repeat constructor)) rfl ?_
          | refine lst_run (run_load2 rfl rfl rfl (by first | assumption | exact hpt (X := [_, _, _, _, _, _]) _ hS | exact hS.cell0 (by assumption)) (by first | assumption | exact hpt (X := [_, _, _, _, _, _]) _ hS | exact hS.cell0 (by assumption))) rfl ?_
        refine lst_run (run_move (by conv => lhs; whnf)) rfl ?_
        refine lst_enter (run_call (by kernel_rfl) (args_2 (by conv => lhs; whnf) (by conv => lhs; whnf))) rfl ?_
        refine Calls.mono (hla (X := [_, _, _]) (u' := s) t hscl hS) ?_
        rintro _ w10 ⟨rfl, hb10⟩
        refine ⟨_, rfl, ?_⟩
        replace hS := hS.grow hb10
        refine lst_run (run_assign (by conv => lhs; whnf)) rfl ?_
        refine lst_done ?_
        refine goes_seq ?_
        refine goes_region ?_
        refine lst_run (run_move (by conv => lhs; whnf)) rfl ?_
        first
          | refine lst_run (run_lss_yes rfl rfl (by omega)) rfl ?_
          | refine lst_run (run_lss_no rfl rfl (by omega)) rfl ?_
          | refine lst_run (rfl) rfl ?_
        refine lst_run (run_move (by conv => lhs; whnf)) rfl ?_
        refine lst_guard rfl rfl ?_
        refine lst_run (run_move (by conv => lhs; whnf)) rfl ?_
        refine lst_guard rfl rfl ?_
        first
          | refine lst_run (run_lss_yes rfl rfl (by omega)) rfl ?_
          | refine lst_run (run_lss_no rfl rfl (by omega)) rfl ?_
          | refine lst_run (rfl) rfl ?_
        first
          | refine lst_run (run_pick_t rfl (by conv => lhs; whnf)) rfl ?_
          | refine lst_run (run_pick_f rfl (by conv => lhs; whnf)) rfl ?_
        refine lst_done ?_
        refine goes_true rfl ?_
        refine goes_seq ?_
        refine goes_region ?_
        first
          | refine lst_run (run_loadN_own (k := 2) hS rfl rfl rfl (by first | exact .head | exact .tail .head | exact .tail (.tail .head) | exact .tail (.tail (.tail .head)) | exact .tail (.tail (.tail (.tail .head))) | exact .tail (.tail (.tail (.tail (.tail .head))))) (by repeat constructor)) rfl ?_
          | refine lst_run (run_load2 rfl rfl rfl (by first | assumption | exact hpt (X := [_, _, _, _, _, _]) _ hS | exact hS.cell0 (by assumption)) (by first | assumption | exact hpt (X := [_, _, _, _, _, _]) _ hS | exact hS.cell0 (by assumption))) rfl ?_
        refine lst_storeN hS rfl (by conv => lhs; whnf) rfl rfl (by first | exact .head | exact .tail .head | exact .tail (.tail .head) | exact .tail (.tail (.tail .head)) | exact .tail (.tail (.tail (.tail .head))) | exact .tail (.tail (.tail (.tail (.tail .head))))) (by repeat constructor) (by first | exact .head | exact .tail .head | exact .tail (.tail .head) | exact .tail (.tail (.tail .head)) | exact .tail (.tail (.tail (.tail .head))) | exact .tail (.tail (.tail (.tail (.tail .head))))) ?_
        clear hS
        intro wx17 hS
        refine lst_run (run_assign (by conv => lhs; whnf)) rfl ?_
        refine lst_run (run_assign (by conv => lhs; whnf)) rfl ?_
        refine lst_done ?_
        refine goes_retC3 (sz := 2) hS Try.func13 rfl rfl (by conv => lhs; whnf) (by conv => lhs; whnf) rfl rfl (by first | exact .head | exact .tail .head | exact .tail (.tail .head) | exact .tail (.tail (.tail .head)) | exact .tail (.tail (.tail (.tail .head))) | exact .tail (.tail (.tail (.tail (.tail .head))))) (by repeat constructor) ?_
        exact ⟨A, c, B, d, F, rfl, fun _ h => h, hH, hback (X := Ot) (hS.drop.drop.drop.drop.drop.drop.drop)⟩
      have hs2 : (u2.step.look t).2.lg = false := by rw [hst2, decide_eq_false (by omega)]
      obtain ⟨_, _, hw2, hcs2, htr2, _, _⟩ := step_facts hs2
      by_cases hfound : hlook s.cs t = q
      · have hf := runO_found (r := Sq.reverse) hs2 (a := q) (by rw [h2cs]; exact hfound.symm)
        obtain ⟨g1, g2⟩ := hrf _ (hrun.trans hf) hs2
        rw [hfail g1 g2]
        refine goes_seq ?_
        refine goes_seq ?_
        refine goes_region ?_
        refine lst_run (run_move (by conv => lhs; whnf)) rfl ?_
        refine lst_run (run_len_slice rfl rfl rfl) rfl ?_
        first
          | refine lst_run (run_gtr_yes rfl rfl (by omega)) rfl ?_
          | refine lst_run (run_gtr_no rfl rfl (by omega)) rfl ?_
          | refine lst_run (rfl) rfl ?_
        refine lst_done ?_
        refine goes_true rfl ?_
        refine goes_skip ?_
        refine goes_block ?_
        refine goes_seq ?_
        refine goes_region ?_
        refine lst_run (run_move (by conv => lhs; whnf)) rfl ?_
        refine lst_run (run_move (by conv => lhs; whnf)) rfl ?_
        refine lst_run (run_len_slice rfl rfl rfl) rfl ?_
        first
          | refine lst_run (run_sub rfl rfl (by omega) (by omega)) rfl ?_
          | refine lst_run (run_sub_u8 rfl rfl) rfl ?_
        refine lst_run (run_indexAddr (sz := 1) rfl rfl rfl rfl (by omega) (by omega)) rfl ?_
        first
          | refine lst_run (run_load1_own hS rfl rfl (by first | exact .head | exact .tail .head | exact .tail (.tail .head) | exact .tail (.tail (.tail .head)) | exact .tail (.tail (.tail (.tail .head))) | exact .tail (.tail (.tail (.tail (.tail .head))))) (by repeat constructor)) rfl ?_
          | refine lst_run (run_load1 rfl rfl (by first | assumption | exact hpt (X := [_, _, _, _, _, _]) _ hS | exact hS.cell0 (by assumption) | exact lv_next hS | exact lv_list hS)) rfl ?_
        refine lst_run (run_assign (by conv => lhs; whnf)) rfl ?_
        refine lst_done ?_
        refine goes_seq ?_
        refine goes_region ?_
        refine lst_run (run_move (by conv => lhs; whnf)) rfl ?_
        refine lst_run (run_move (by conv => lhs; whnf)) rfl ?_
        refine lst_run (run_len_slice rfl rfl rfl) rfl ?_
        first
          | refine lst_run (run_sub rfl rfl (by omega) (by omega)) rfl ?_
          | refine lst_run (run_sub_u8 rfl rfl) rfl ?_
        refine lst_run (run_slice_slice (sz := 1) rfl rfl rfl rfl (by omega) (by omega)) rfl ?_
        refine lst_run (run_assign (by conv => lhs; whnf)) rfl ?_
        refine lst_done ?_
        refine goes_seq ?_
        refine goes_region ?_
        refine lst_run (run_move (by conv => lhs; whnf)) rfl ?_
        first
          | refine lst_run (run_sub rfl rfl (by omega) (by omega)) rfl ?_
          | refine lst_run (run_sub_u8 rfl rfl) rfl ?_
        refine lst_run (run_assign (by conv => lhs; whnf)) rfl ?_
        refine lst_done ?_
        refine goes_seq ?_
        refine goes_seq ?_
        refine goes_region ?_
        first
          | refine lst_run (run_loadN_own (k := 2) hS rfl rfl rfl (by first | exact .head | exact .tail .head | exact .tail (.tail .head) | exact .tail (.tail (.tail .head)) | exact .tail (.tail (.tail (.tail .head))) | exact .tail (.tail (.tail (.tail (.tail .head))))) (by repeat constructor)) rfl ?_
          | refine lst_run (run_load2 rfl rfl rfl (by first | assumption | exact hpt (X := [_, _, _, _, _, _]) _ hS | exact hS.cell0 (by assumption)) (by first | assumption | exact hpt (X := [_, _, _, _, _, _]) _ hS | exact hS.cell0 (by assumption))) rfl ?_
        refine lst_run (run_move (by conv => lhs; whnf)) rfl ?_
        refine lst_enter (run_call (by kernel_rfl) (args_2 (by conv => lhs; whnf) (by conv => lhs; whnf))) rfl ?_
        refine Calls.mono (hla (X := [_, _, _]) (u' := s) t hscl hS) ?_
        rintro _ w10 ⟨rfl, hb10⟩
        refine ⟨_, rfl, ?_⟩
        replace hS := hS.grow hb10
        refine lst_run (run_assign (by conv => lhs; whnf)) rfl ?_
        refine lst_done ?_
        refine goes_seq ?_
        refine goes_region ?_
        refine lst_run (run_move (by conv => lhs; whnf)) rfl ?_
        first
          | refine lst_run (run_lss_yes rfl rfl (by omega)) rfl ?_
          | refine lst_run (run_lss_no rfl rfl (by omega)) rfl ?_
          | refine lst_run (rfl) rfl ?_
        refine lst_run (run_move (by conv => lhs; whnf)) rfl ?_
        refine lst_guard rfl rfl ?_
        refine lst_run (run_move (by conv => lhs; whnf)) rfl ?_
        refine lst_guard rfl rfl ?_
        first
          | refine lst_run (run_lss_yes rfl rfl (by omega)) rfl ?_
          | refine lst_run (run_lss_no rfl rfl (by omega)) rfl ?_
          | refine lst_run (rfl) rfl ?_
        first
          | refine lst_run (run_pick_t rfl (by conv => lhs; whnf)) rfl ?_
          | refine lst_run (run_pick_f rfl (by conv => lhs; whnf)) rfl ?_
        refine lst_done ?_
        refine goes_false rfl ?_
        refine goes_skip ?_
        refine goes_seq ?_
        refine goes_seq ?_
        refine goes_region ?_
        refine lst_run (run_move (by conv => lhs; whnf)) rfl ?_
        refine lst_run (run_move (by conv => lhs; whnf)) rfl ?_
        first
          | refine lst_run (run_eql_one_int rfl rfl) rfl ?_
          | refine lst_run (run_eql_no rfl rfl (by first | assumption | omega)) rfl ?_
          | refine lst_run (run_eql_yes rfl rfl (by omega)) rfl ?_
          | refine lst_run (rfl) rfl ?_
        refine lst_done ?_
        refine goes_true rfl ?_
        refine goes_seq ?_
        refine goes_region ?_
        first
          | refine lst_run (run_loadN_own (k := 2) hS rfl rfl rfl (by first | exact .head | exact .tail .head | exact .tail (.tail .head) | exact .tail (.tail (.tail .head)) | exact .tail (.tail (.tail (.tail .head))) | exact .tail (.tail (.tail (.tail (.tail .head))))) (by repeat constructor)) rfl ?_
          | refine lst_run (run_load2 rfl rfl rfl (by first | assumption | exact hpt (X := [_, _, _, _, _, _]) _ hS | exact hS.cell0 (by assumption)) (by first | assumption | exact hpt (X := [_, _, _, _, _, _]) _ hS | exact hS.cell0 (by assumption))) rfl ?_
        refine lst_storeN hS rfl (by conv => lhs; whnf) rfl rfl (by first | exact .head | exact .tail .head | exact .tail (.tail .head) | exact .tail (.tail (.tail .head)) | exact .tail (.tail (.tail (.tail .head))) | exact .tail (.tail (.tail (.tail (.tail .head))))) (by repeat constructor) (by first | exact .head | exact .tail .head | exact .tail (.tail .head) | exact .tail (.tail (.tail .head)) | exact .tail (.tail (.tail (.tail .head))) | exact .tail (.tail (.tail (.tail (.tail .head))))) ?_
        clear hS
        intro wx17 hS
        refine lst_run (run_assign (by conv => lhs; whnf)) rfl ?_
        refine lst_run (run_assign (by conv => lhs; whnf)) rfl ?_
        refine lst_done ?_
        refine goes_retC3 (sz := 2) hS Try.func13 rfl rfl (by conv => lhs; whnf) (by conv => lhs; whnf) rfl rfl (by first | exact .head | exact .tail .head | exact .tail (.tail .head) | exact .tail (.tail (.tail .head)) | exact .tail (.tail (.tail (.tail .head))) | exact .tail (.tail (.tail (.tail (.tail .head))))) (by repeat constructor) ?_
        exact ⟨A, c, B, d, F, rfl, fun _ h => h, hH, hback (X := Ot) (hS.drop.drop.drop.drop.drop.drop.drop)⟩
      have hnx := runO_next (n := h.cs.length) (a := q) (z := t) (r := Sq.reverse) (u := u2) (by rw [h2cs]; exact hGs.good) hs2 (by rw [h2cs]; exact fun e => hfound e.symm)
      rw [← hrun, h2cs] at hnx
      obtain ⟨ct, hct, _⟩ := hlook_end htn
      obtain ⟨m0, m1, hgt⟩ := hat_get hct
      have hgct := goodC_iff (good_hat hGs.good hct)
      have hgca := (good_args (a := hlook s.cs t) hGs.good)
      have hArg : argsAt s.cs (hlook s.cs t) = (argsC ct).toNat := by unfold argsAt; rw [hct]
      rw [hArg] at hnx hgca
      refine goes_seq ?_
      refine goes_seq ?_
      refine goes_region ?_
      refine lst_run (run_move (by conv => lhs; whnf)) rfl ?_
      refine lst_run (run_len_slice rfl rfl rfl) rfl ?_
      first
        | refine lst_run (run_gtr_yes rfl rfl (by omega)) rfl ?_
        | refine lst_run (run_gtr_no rfl rfl (by omega)) rfl ?_
        | refine lst_run (rfl) rfl ?_
      refine lst_done ?_
      refine goes_true rfl ?_
      refine goes_skip ?_
      refine goes_block ?_
      refine goes_seq ?_
      refine goes_region ?_
      refine lst_run (run_move (by conv => lhs; whnf)) rfl ?_
      refine lst_run (run_move (by conv => lhs; whnf)) rfl ?_
      refine lst_run (run_len_slice rfl rfl rfl) rfl ?_
      first
        | refine lst_run (run_sub rfl rfl (by omega) (by omega)) rfl ?_
        | refine lst_run (run_sub_u8 rfl rfl) rfl ?_
      refine lst_run (run_indexAddr (sz := 1) rfl rfl rfl rfl (by omega) (by omega)) rfl ?_
      first
        | refine lst_run (run_load1_own hS rfl rfl (by first | exact .head | exact .tail .head | exact .tail (.tail .head) | exact .tail (.tail (.tail .head)) | exact .tail (.tail (.tail (.tail .head))) | exact .tail (.tail (.tail (.tail (.tail .head))))) (by repeat constructor)) rfl ?_
        | refine lst_run (run_load1 rfl rfl (by first | assumption | exact hpt (X := [_, _, _, _, _, _]) _ hS | exact hS.cell0 (by assumption) | exact lv_next hS | exact lv_list hS)) rfl ?_
      refine lst_run (run_assign (by conv => lhs; whnf)) rfl ?_
      refine lst_done ?_
      refine goes_seq ?_
      refine goes_region ?_
      refine lst_run (run_move (by conv => lhs; whnf)) rfl ?_
      refine lst_run (run_move (by conv => lhs; whnf)) rfl ?_
      refine lst_run (run_len_slice rfl rfl rfl) rfl ?_
      first
        | refine lst_run (run_sub rfl rfl (by omega) (by omega)) rfl ?_
        | refine lst_run (run_sub_u8 rfl rfl) rfl ?_
      refine lst_run (run_slice_slice (sz := 1) rfl rfl rfl rfl (by omega) (by omega)) rfl ?_
      refine lst_run (run_assign (by conv => lhs; whnf)) rfl ?_
      refine lst_done ?_
      refine goes_seq ?_
      refine goes_region ?_
      refine lst_run (run_move (by conv => lhs; whnf)) rfl ?_
      first
        | refine lst_run (run_sub rfl rfl (by omega) (by omega)) rfl ?_
        | refine lst_run (run_sub_u8 rfl rfl) rfl ?_
      refine lst_run (run_assign (by conv => lhs; whnf)) rfl ?_
      refine lst_done ?_
      refine goes_seq ?_
      refine goes_seq ?_
      refine goes_region ?_
      first
        | refine lst_run (run_loadN_own (k := 2) hS rfl rfl rfl (by first | exact .head | exact .tail .head | exact .tail (.tail .head) | exact .tail (.tail (.tail .head)) | exact .tail (.tail (.tail (.tail .head))) | exact .tail (.tail (.tail (.tail (.tail .head))))) (by repeat constructor)) rfl ?_
        | refine lst_run (run_load2 rfl rfl rfl (by first | assumption | exact hpt (X := [_, _, _, _, _, _]) _ hS | exact hS.cell0 (by assumption)) (by first | assumption | exact hpt (X := [_, _, _, _, _, _]) _ hS | exact hS.cell0 (by assumption))) rfl ?_
      refine lst_run (run_move (by conv => lhs; whnf)) rfl ?_
      refine lst_enter (run_call (by kernel_rfl) (args_2 (by conv => lhs; whnf) (by conv => lhs; whnf))) rfl ?_
      refine Calls.mono (hla (X := [_, _, _]) (u' := s) t hscl hS) ?_
      rintro _ w10 ⟨rfl, hb10⟩
      refine ⟨_, rfl, ?_⟩
      replace hS := hS.grow hb10
      refine lst_run (run_assign (by conv => lhs; whnf)) rfl ?_
      refine lst_done ?_
      refine goes_seq ?_
      refine goes_region ?_
      refine lst_run (run_move (by conv => lhs; whnf)) rfl ?_
      first
        | refine lst_run (run_lss_yes rfl rfl (by omega)) rfl ?_
        | refine lst_run (run_lss_no rfl rfl (by omega)) rfl ?_
        | refine lst_run (rfl) rfl ?_
      refine lst_run (run_move (by conv => lhs; whnf)) rfl ?_
      refine lst_guard rfl rfl ?_
      refine lst_run (run_move (by conv => lhs; whnf)) rfl ?_
      refine lst_guard rfl rfl ?_
      first
        | refine lst_run (run_lss_yes rfl rfl (by omega)) rfl ?_
        | refine lst_run (run_lss_no rfl rfl (by omega)) rfl ?_
        | refine lst_run (rfl) rfl ?_
      first
        | refine lst_run (run_pick_t rfl (by conv => lhs; whnf)) rfl ?_
        | refine lst_run (run_pick_f rfl (by conv => lhs; whnf)) rfl ?_
      refine lst_done ?_
      refine goes_false rfl ?_
      refine goes_skip ?_
      refine goes_seq ?_
      refine goes_seq ?_
      refine goes_region ?_
      refine lst_run (run_move (by conv => lhs; whnf)) rfl ?_
      refine lst_run (run_move (by conv => lhs; whnf)) rfl ?_
      first
        | refine lst_run (run_eql_one_int rfl rfl) rfl ?_
        | refine lst_run (run_eql_no rfl rfl (by first | assumption | omega)) rfl ?_
        | refine lst_run (run_eql_yes rfl rfl (by omega)) rfl ?_
        | refine lst_run (rfl) rfl ?_
      refine lst_done ?_
      generalize (u2.step.look t).2 = u3 at *
      generalize hlook s.cs t = m at *
      have hnw : 400 - (u2.w : Int) - 1 = 400 - ((u3.w : Nat) : Int) := by omega
      by_cases k3 : ct.k = 3
      · have hk3 : (argsC ct).toNat = ct.n.toNat := by unfold argsC; rw [if_pos k3]
        obtain ⟨k, hk⟩ : ∃ k : Nat, ct.n = (k : Nat) := ⟨ct.n.toNat, by omega⟩
        rw [hk3, hk, show ((k : Nat) : Int).toNat = k by omega] at hnx hgca
        refine goes_false rfl ?_
        refine goes_skip ?_
        refine goes_seq ?_
        refine goes_region ?_
        refine lst_run (run_fieldAddr (off := 0) rfl rfl) rfl ?_
        first
          | refine lst_run (run_load1_own hS rfl rfl (by first | exact .head | exact .tail .head | exact .tail (.tail .head) | exact .tail (.tail (.tail .head)) | exact .tail (.tail (.tail (.tail .head))) | exact .tail (.tail (.tail (.tail (.tail .head))))) (by repeat constructor)) rfl ?_
          | refine lst_run (run_load1 rfl rfl (by first | assumption | exact (hcg (X := [_, _, _]) _ hct hscl hS).1 | exact (hcg (X := [_, _, _]) _ hct hscl hS).2.1 | exact (hcg (X := [_, _, _]) _ hct hscl hS).2.2 | exact hS.cell0 (by assumption) | exact lv_next hS | exact lv_list hS)) rfl ?_
        refine lst_run (run_move (by conv => lhs; whnf)) rfl ?_
        refine lst_run (run_indexAddr (sz := 3) rfl rfl rfl rfl (by omega) (by omega)) rfl ?_
        first
          | refine lst_run (run_loadN_own (k := 3) hS rfl rfl rfl (by first | exact .head | exact .tail .head | exact .tail (.tail .head) | exact .tail (.tail (.tail .head)) | exact .tail (.tail (.tail (.tail .head))) | exact .tail (.tail (.tail (.tail (.tail .head))))) (by repeat constructor)) rfl ?_
          | refine lst_run (run_load3 rfl rfl rfl (by first | assumption | exact (hcg (X := [_, _, _]) _ hct hscl hS).1 | exact (hcg (X := [_, _, _]) _ hct hscl hS).2.1 | exact (hcg (X := [_, _, _]) _ hct hscl hS).2.2 | exact hS.cell0 (by assumption)) (by first | assumption | exact (hcg (X := [_, _, _]) _ hct hscl hS).1 | exact (hcg (X := [_, _, _]) _ hct hscl hS).2.1 | exact (hcg (X := [_, _, _]) _ hct hscl hS).2.2 | exact hS.cell0 (by assumption)) (by first | assumption | exact (hcg (X := [_, _, _]) _ hct hscl hS).1 | exact (hcg (X := [_, _, _]) _ hct hscl hS).2.1 | exact (hcg (X := [_, _, _]) _ hct hscl hS).2.2 | exact hS.cell0 (by assumption))) rfl ?_
        refine lst_alloc (cs := [_, _, _]) hS rfl rfl rfl ?_
        clear hS
        intro b10 wx17 hS
        refine lst_storeN hS rfl (by conv => lhs; whnf) rfl rfl (by first | exact .head | exact .tail .head | exact .tail (.tail .head) | exact .tail (.tail (.tail .head)) | exact .tail (.tail (.tail (.tail .head))) | exact .tail (.tail (.tail (.tail (.tail .head))))) (by repeat constructor) (by first | exact .head | exact .tail .head | exact .tail (.tail .head) | exact .tail (.tail (.tail .head)) | exact .tail (.tail (.tail (.tail .head))) | exact .tail (.tail (.tail (.tail (.tail .head))))) ?_
        clear hS
        intro wx18 hS
        refine lst_done ?_
        refine goes_seq ?_
        refine goes_region ?_
        refine lst_run (run_fieldAddr (off := 0) rfl rfl) rfl ?_
        first
          | refine lst_run (run_load1_own hS rfl rfl (by first | exact .head | exact .tail .head | exact .tail (.tail .head) | exact .tail (.tail (.tail .head)) | exact .tail (.tail (.tail (.tail .head))) | exact .tail (.tail (.tail (.tail (.tail .head))))) (by repeat constructor)) rfl ?_
          | refine lst_run (run_load1 rfl rfl (by first | assumption | exact (hcg (X := [_, _, _]) _ hct hscl hS).1 | exact (hcg (X := [_, _, _]) _ hct hscl hS).2.1 | exact (hcg (X := [_, _, _]) _ hct hscl hS).2.2 | exact hS.cell0 (by assumption) | exact lv_next hS | exact lv_list hS)) rfl ?_
        first
          | refine lst_run (run_eql_one_int rfl rfl) rfl ?_
          | refine lst_run (run_eql_no rfl rfl (by first | assumption | omega)) rfl ?_
          | refine lst_run (run_eql_yes rfl rfl (by omega)) rfl ?_
          | refine lst_run (rfl) rfl ?_
        refine lst_done ?_
        refine goes_true rfl ?_
        refine goes_seq ?_
        refine goes_region ?_
        refine lst_run (run_fieldAddr (off := 1) rfl rfl) rfl ?_
        first
          | refine lst_run (run_load1_own hS rfl rfl (by first | exact .head | exact .tail .head | exact .tail (.tail .head) | exact .tail (.tail (.tail .head)) | exact .tail (.tail (.tail (.tail .head))) | exact .tail (.tail (.tail (.tail (.tail .head))))) (by repeat constructor)) rfl ?_
          | refine lst_run (run_load1 rfl rfl (by first | assumption | exact (hcg (X := [_, _, _]) _ hct hscl hS).1 | exact (hcg (X := [_, _, _]) _ hct hscl hS).2.1 | exact (hcg (X := [_, _, _]) _ hct hscl hS).2.2 | exact hS.cell0 (by assumption) | exact lv_next hS | exact lv_list hS)) rfl ?_
        refine lst_run (run_assign (by conv => lhs; whnf)) rfl ?_
        refine lst_done ?_
        refine goes_block ?_
        refine goes_loop2 17 20 (175 :: 176 :: 179 :: 180 :: 181 :: 182 :: 183 :: 184 :: 177 :: 178 :: []) (fun (j : Nat) v yy w' => ∃ (Z : List Int) (Az : Option Addr) (cz : Nat) (Oz : List (Nat × Obj)), j ≤ k ∧ Z = Sq ++ (ups (m + 1 + (j : Nat)) (k - j)).reverse ∧ v = .slice Az Z.length cz ∧ yy = .int .i64 (j : Nat) ∧ Rw 3 1 (.slice Az Z.length cz) Z.length (intsV Z) Oz ∧ St M w0 ((b10, .cells (hcs ct).toArray 59) :: (b5, .cells (hcs cy).toArray 59) :: (b6, .cells (hcs cx).toArray 59) :: (b3, hob (some ⟨g, 0, none⟩) h.cs.length c3 Bt s.tr.length d5) :: (g, cob s.cs sp) :: (b2, hob none 0 0 none 0 0) :: (b1, hob A h.cs.length c B h.tr.length d) :: (Oz ++ (Ot ++ ([(lb, .cells (prs (Lq ++ [(x, y)]) ++ lsp).toArray 65)] ++ H)))) F w') (fun j => j) (k) ?_ (by conv => lhs; whnf) (by conv => lhs; whnf) ?_
        · refine ⟨Sq, some ⟨sb, 0, none⟩, cs2, [(sb, .cells (intsV (Sq ++ [t]) ++ ssp).toArray 3)], Nat.le_refl _, by simp [ups], ?_, by rw [hk], hrowq2, hS⟩
          rw [show (((Sq.length + 1 : Nat) : Int) - 1).toNat = Sq.length by omega]
        clear hS
        rintro j _ _ w11 jv11 ⟨Z, Az, cz, Oz, hjk, hZ, rfl, rfl, hrowz, hS⟩ ih11
        have hZl : Z.length = Sq.length + (k - j) := by rw [hZ]; simp [ups_len]
        cases j with
        | zero =>
          refine goes_seq ?_
          refine goes_seq ?_
          refine goes_region ?_
          refine lst_run (run_move (by conv => lhs; whnf)) rfl ?_
          first
            | refine lst_run (run_gtr_yes rfl rfl (by omega)) rfl ?_
            | refine lst_run (run_gtr_no rfl rfl (by omega)) rfl ?_
            | refine lst_run (rfl) rfl ?_
          refine lst_done ?_
          refine goes_false rfl ?_
          refine goes_exit rfl ?_
          refine goes_inBlock ?_
          refine ih9 (Z, u3) _ _ _ _ ?_ ?_ (by conv => lhs; whnf) (by conv => lhs; whnf) (by kernel_rfl)
          · show 401 - u3.w < 401 - u2.w; omega
          · refine ⟨Az, cz, Oz, rfl, by show Value.int .i64 (400 - (u2.w : Int) - 1) = .int .i64 (400 - (u3.w : Nat)); rw [hnw], ?_, by show u3.cs = s.cs; rw [hcs2, h2cs], by show u3.tr = s.tr; rw [htr2, h2tr], hs2, by show u3.w ≤ 400; omega, by show s.w ≤ u3.w; omega, fun _ => by show s.w < u3.w; omega, by show Z.length ≤ 1 + 4 * u3.w; omega, hrowz, hS.drop⟩
            show ro = runO q Z.reverse u3
            rw [hnx, hZ, List.reverse_append, List.reverse_reverse, show m + 1 + ((0 : Nat) : Int) = m + 1 by omega]; rfl
        | succ j =>
          refine goes_seq ?_
          refine goes_seq ?_
          refine goes_region ?_
          refine lst_run (run_move (by conv => lhs; whnf)) rfl ?_
          first
            | refine lst_run (run_gtr_yes rfl rfl (by omega)) rfl ?_
            | refine lst_run (run_gtr_no rfl rfl (by omega)) rfl ?_
            | refine lst_run (rfl) rfl ?_
          refine lst_done ?_
          refine goes_true rfl ?_
          refine goes_skip ?_
          refine goes_seq ?_
          refine goes_block ?_
          refine goes_region ?_
          refine lst_run (run_move (by conv => lhs; whnf)) rfl ?_
          refine lst_run (run_move (by conv => lhs; whnf)) rfl ?_
          refine lst_run (run_move (by conv => lhs; whnf)) rfl ?_
          refine lst_run (run_add rfl rfl (by omega) (by omega)) rfl ?_
          refine lst_buildSlice (cells := [_]) hS (.cons (by conv => lhs; whnf) .nil) rfl rfl ?_
          clear hS
          intro b11 wx19 hS
          refine lst_appI (L := [m + ((j + 1 : Nat) : Int)]) hS (by conv => lhs; whnf) (by rfl) rfl rfl rfl (Flat.own (sp := []) (hS.own (_, _) (.head _)) rfl (Nat.le_refl _)) hrowz (List.perm_append_comm_assoc [_, _, _, _, _, _, _, _] Oz _) (by simp; omega) rfl ?_
          clear hS
          intro v12 O12 w12 hrow12 hS
          obtain ⟨B12, d12, rfl, _⟩ := hrow12.form
          replace hS := hS.perm (List.perm_append_comm_assoc O12 [_, _, _, _, _, _, _, _] _)
          refine lst_run (run_assign (by conv => lhs; whnf)) rfl ?_
          refine lst_done ?_
          refine goes_inBlock ?_
          refine goes_region ?_
          refine lst_run (run_move (by conv => lhs; whnf)) rfl ?_
          first
            | refine lst_run (run_sub rfl rfl (by omega) (by omega)) rfl ?_
            | refine lst_run (run_sub_u8 rfl rfl) rfl ?_
          refine lst_run (run_assign (by conv => lhs; whnf)) rfl ?_
          refine lst_done ?_
          refine ih11 j _ _ _ _ ?_ ?_ (by conv => lhs; whnf) (by conv => lhs; whnf) (by kernel_rfl)
          · omega
          · refine ⟨Z ++ [m + ((j + 1 : Nat) : Int)], B12, d12, O12, by omega, ?_, by rw [List.length_append], by congr 1; omega, ?_, hS.drop⟩
            · rw [hZ, show k - j = (k - (j + 1)) + 1 by omega]
              simp only [ups, List.reverse_cons, List.append_assoc]
              rw [show m + 1 + ((j : Nat) : Int) + 1 = m + 1 + ((j + 1 : Nat) : Int) by omega, show m + 1 + ((j : Nat) : Int) = m + ((j + 1 : Nat) : Int) by omega]
            · rw [List.length_append, show intsV (Z ++ [m + ((j + 1 : Nat) : Int)]) = intsV Z ++ intsV [m + ((j + 1 : Nat) : Int)] by simp [intsV]]; exact hrow12
      · have hk3 : (argsC ct).toNat = 0 := by unfold argsC; rw [if_neg k3]; rfl
        rw [hk3] at hnx
        refine goes_false rfl ?_
        refine goes_skip ?_
        refine goes_seq ?_
        refine goes_region ?_
        refine lst_run (run_fieldAddr (off := 0) rfl rfl) rfl ?_
        first
          | refine lst_run (run_load1_own hS rfl rfl (by first | exact .head | exact .tail .head | exact .tail (.tail .head) | exact .tail (.tail (.tail .head)) | exact .tail (.tail (.tail (.tail .head))) | exact .tail (.tail (.tail (.tail (.tail .head))))) (by repeat constructor)) rfl ?_
          | refine lst_run (run_load1 rfl rfl (by first | assumption | exact (hcg (X := [_, _, _]) _ hct hscl hS).1 | exact (hcg (X := [_, _, _]) _ hct hscl hS).2.1 | exact (hcg (X := [_, _, _]) _ hct hscl hS).2.2 | exact hS.cell0 (by assumption) | exact lv_next hS | exact lv_list hS)) rfl ?_
        refine lst_run (run_move (by conv => lhs; whnf)) rfl ?_
        refine lst_run (run_indexAddr (sz := 3) rfl rfl rfl rfl (by omega) (by omega)) rfl ?_
        first
          | refine lst_run (run_loadN_own (k := 3) hS rfl rfl rfl (by first | exact .head | exact .tail .head | exact .tail (.tail .head) | exact .tail (.tail (.tail .head)) | exact .tail (.tail (.tail (.tail .head))) | exact .tail (.tail (.tail (.tail (.tail .head))))) (by repeat constructor)) rfl ?_
          | refine lst_run (run_load3 rfl rfl rfl (by first | assumption | exact (hcg (X := [_, _, _]) _ hct hscl hS).1 | exact (hcg (X := [_, _, _]) _ hct hscl hS).2.1 | exact (hcg (X := [_, _, _]) _ hct hscl hS).2.2 | exact hS.cell0 (by assumption)) (by first | assumption | exact (hcg (X := [_, _, _]) _ hct hscl hS).1 | exact (hcg (X := [_, _, _]) _ hct hscl hS).2.1 | exact (hcg (X := [_, _, _]) _ hct hscl hS).2.2 | exact hS.cell0 (by assumption)) (by first | assumption | exact (hcg (X := [_, _, _]) _ hct hscl hS).1 | exact (hcg (X := [_, _, _]) _ hct hscl hS).2.1 | exact (hcg (X := [_, _, _]) _ hct hscl hS).2.2 | exact hS.cell0 (by assumption))) rfl ?_
        refine lst_alloc (cs := [_, _, _]) hS rfl rfl rfl ?_
        clear hS
        intro b10 wx17 hS
        refine lst_storeN hS rfl (by conv => lhs; whnf) rfl rfl (by first | exact .head | exact .tail .head | exact .tail (.tail .head) | exact .tail (.tail (.tail .head)) | exact .tail (.tail (.tail (.tail .head))) | exact .tail (.tail (.tail (.tail (.tail .head))))) (by repeat constructor) (by first | exact .head | exact .tail .head | exact .tail (.tail .head) | exact .tail (.tail (.tail .head)) | exact .tail (.tail (.tail (.tail .head))) | exact .tail (.tail (.tail (.tail (.tail .head))))) ?_
        clear hS
        intro wx18 hS
        refine lst_done ?_
        refine goes_seq ?_
        refine goes_region ?_
        refine lst_run (run_fieldAddr (off := 0) rfl rfl) rfl ?_
        first
          | refine lst_run (run_load1_own hS rfl rfl (by first | exact .head | exact .tail .head | exact .tail (.tail .head) | exact .tail (.tail (.tail .head)) | exact .tail (.tail (.tail (.tail .head))) | exact .tail (.tail (.tail (.tail (.tail .head))))) (by repeat constructor)) rfl ?_
          | refine lst_run (run_load1 rfl rfl (by first | assumption | exact (hcg (X := [_, _, _]) _ hct hscl hS).1 | exact (hcg (X := [_, _, _]) _ hct hscl hS).2.1 | exact (hcg (X := [_, _, _]) _ hct hscl hS).2.2 | exact hS.cell0 (by assumption) | exact lv_next hS | exact lv_list hS)) rfl ?_
        first
          | refine lst_run (run_eql_one_int rfl rfl) rfl ?_
          | refine lst_run (run_eql_no rfl rfl (by first | assumption | omega)) rfl ?_
          | refine lst_run (run_eql_yes rfl rfl (by omega)) rfl ?_
          | refine lst_run (rfl) rfl ?_
        refine lst_done ?_
        refine goes_false rfl ?_
        refine goes_skip ?_
        refine goes_inBlock ?_
        refine ih9 (Sq, u3) _ _ _ _ ?_ ?_ (by conv => lhs; whnf) (by conv => lhs; whnf) (by kernel_rfl)
        · show 401 - u3.w < 401 - u2.w; omega
        · refine ⟨some ⟨sb, 0, none⟩, cs2, [(sb, .cells (intsV (Sq ++ [t]) ++ ssp).toArray 3)], by rw [show (((Sq.length + 1 : Nat) : Int) - 1).toNat = Sq.length by omega], by show Value.int .i64 (400 - (u2.w : Int) - 1) = .int .i64 (400 - (u3.w : Nat)); rw [hnw], hnx, by show u3.cs = s.cs; rw [hcs2, h2cs], by show u3.tr = s.tr; rw [htr2, h2tr], hs2, by show u3.w ≤ 400; omega, by show s.w ≤ u3.w; omega, fun _ => by show s.w < u3.w; omega, by show Sq.length ≤ 1 + 4 * u3.w; omega, hrowq2, hS.drop⟩
    · rw [if_neg ky, cont_parts, hcx, hcy] at hrr2
      by_cases hxy : cx = cy
      · rw [if_pos (by rw [hxy])] at hrr2
        have hArg : argsAt s.cs p = (argsC cx).toNat := by unfold argsAt; rw [hcx]
        have hgca := (good_args (a := p) hGs.good)
        have hgcx := goodC_iff (good_hat hGs.good hcx)
        rw [hArg] at hrr2 hgca
        by_cases k3 : cx.k = 3
        · have hk3 : (argsC cx).toNat = cx.n.toNat := by unfold argsC; rw [if_pos k3]
          obtain ⟨k, hk⟩ : ∃ k : Nat, cx.n = (k : Nat) := ⟨cx.n.toNat, by omega⟩
          rw [hk3, hk, show ((k : Nat) : Int).toNat = k by omega] at hrr2 hgca
          have hgcy := (good_args (a := q) hGs.good)
          rw [show argsAt s.cs q = k by unfold argsAt; rw [hcy, ← hxy]; show (argsC cx).toNat = k; rw [hk3, hk]; omega] at hgcy
          refine goes_seq ?_
          refine goes_seq ?_
          refine goes_region ?_
          refine lst_run (run_fieldAddr (off := 0) rfl rfl) rfl ?_
          first
            | refine lst_run (run_load1_own hS rfl rfl (by first | exact .head | exact .tail .head | exact .tail (.tail .head) | exact .tail (.tail (.tail .head)) | exact .tail (.tail (.tail (.tail .head))) | exact .tail (.tail (.tail (.tail (.tail .head))))) (by repeat constructor)) rfl ?_
            | refine lst_run (run_load1 rfl rfl (by first | assumption | exact (hcg (X := [_, _, _]) _ hct hscl hS).1 | exact (hcg (X := [_, _, _]) _ hct hscl hS).2.1 | exact (hcg (X := [_, _, _]) _ hct hscl hS).2.2 | exact hS.cell0 (by assumption) | exact lv_next hS | exact lv_list hS)) rfl ?_
          first
            | refine lst_run (run_eql_one_int rfl rfl) rfl ?_
            | refine lst_run (run_eql_no rfl rfl (by first | assumption | omega)) rfl ?_
            | refine lst_run (run_eql_yes rfl rfl (by omega)) rfl ?_
            | refine lst_run (rfl) rfl ?_
          refine lst_run (run_move (by conv => lhs; whnf)) rfl ?_
          refine lst_pass rfl rfl rfl ?_
          refine lst_pass rfl rfl rfl ?_
          refine lst_pass rfl rfl rfl ?_
          first
            | refine lst_run (run_pick_t rfl (by conv => lhs; whnf)) rfl ?_
            | refine lst_run (run_pick_f rfl (by conv => lhs; whnf)) rfl ?_
          refine lst_done ?_
          refine goes_false rfl ?_
          refine goes_skip ?_
          refine goes_seq ?_
          refine goes_seq ?_
          refine goes_region ?_
          refine lst_run (run_fieldAddr (off := 0) rfl rfl) rfl ?_
          first
            | refine lst_run (run_load1_own hS rfl rfl (by first | exact .head | exact .tail .head | exact .tail (.tail .head) | exact .tail (.tail (.tail .head)) | exact .tail (.tail (.tail (.tail .head))) | exact .tail (.tail (.tail (.tail (.tail .head))))) (by repeat constructor)) rfl ?_
            | refine lst_run (run_load1 rfl rfl (by first | assumption | exact (hcg (X := [_, _, _]) _ hct hscl hS).1 | exact (hcg (X := [_, _, _]) _ hct hscl hS).2.1 | exact (hcg (X := [_, _, _]) _ hct hscl hS).2.2 | exact hS.cell0 (by assumption) | exact lv_next hS | exact lv_list hS)) rfl ?_
          first
            | refine lst_run (run_eql_one_int rfl rfl) rfl ?_
            | refine lst_run (run_eql_no rfl rfl (by first | assumption | omega)) rfl ?_
            | refine lst_run (run_eql_yes rfl rfl (by omega)) rfl ?_
            | refine lst_run (rfl) rfl ?_
          refine lst_done ?_
          refine goes_false rfl ?_
          refine goes_skip ?_
          refine goes_seq ?_
          refine goes_seq ?_
          refine goes_region ?_
          refine lst_run (run_fieldAddr (off := 0) rfl rfl) rfl ?_
          first
            | refine lst_run (run_load1_own hS rfl rfl (by first | exact .head | exact .tail .head | exact .tail (.tail .head) | exact .tail (.tail (.tail .head)) | exact .tail (.tail (.tail (.tail .head))) | exact .tail (.tail (.tail (.tail (.tail .head))))) (by repeat constructor)) rfl ?_
            | refine lst_run (run_load1 rfl rfl (by first | assumption | exact (hcg (X := [_, _, _]) _ hct hscl hS).1 | exact (hcg (X := [_, _, _]) _ hct hscl hS).2.1 | exact (hcg (X := [_, _, _]) _ hct hscl hS).2.2 | exact hS.cell0 (by assumption) | exact lv_next hS | exact lv_list hS)) rfl ?_
          first
            | refine lst_run (run_eql_one_int rfl rfl) rfl ?_
            | refine lst_run (run_eql_no rfl rfl (by first | assumption | omega)) rfl ?_
            | refine lst_run (run_eql_yes rfl rfl (by omega)) rfl ?_
            | refine lst_run (rfl) rfl ?_
          refine lst_done ?_
          refine goes_false rfl ?_
          refine goes_skip ?_
          refine goes_seq ?_
          refine goes_seq ?_
          refine goes_region ?_
          first
            | refine lst_run (run_loadN_own (k := 3) hS rfl rfl rfl (by first | exact .head | exact .tail .head | exact .tail (.tail .head) | exact .tail (.tail (.tail .head)) | exact .tail (.tail (.tail (.tail .head))) | exact .tail (.tail (.tail (.tail (.tail .head))))) (by repeat constructor)) rfl ?_
            | refine lst_run (run_load3 rfl rfl rfl (by first | assumption | exact (hcg (X := [_, _, _]) _ hct hscl hS).1 | exact (hcg (X := [_, _, _]) _ hct hscl hS).2.1 | exact (hcg (X := [_, _, _]) _ hct hscl hS).2.2 | exact hS.cell0 (by assumption)) (by first | assumption | exact (hcg (X := [_, _, _]) _ hct hscl hS).1 | exact (hcg (X := [_, _, _]) _ hct hscl hS).2.1 | exact (hcg (X := [_, _, _]) _ hct hscl hS).2.2 | exact hS.cell0 (by assumption)) (by first | assumption | exact (hcg (X := [_, _, _]) _ hct hscl hS).1 | exact (hcg (X := [_, _, _]) _ hct hscl hS).2.1 | exact (hcg (X := [_, _, _]) _ hct hscl hS).2.2 | exact hS.cell0 (by assumption))) rfl ?_
          first
            | refine lst_run (run_loadN_own (k := 3) hS rfl rfl rfl (by first | exact .head | exact .tail .head | exact .tail (.tail .head) | exact .tail (.tail (.tail .head)) | exact .tail (.tail (.tail (.tail .head))) | exact .tail (.tail (.tail (.tail (.tail .head))))) (by repeat constructor)) rfl ?_
            | refine lst_run (run_load3 rfl rfl rfl (by first | assumption | exact (hcg (X := [_, _, _]) _ hct hscl hS).1 | exact (hcg (X := [_, _, _]) _ hct hscl hS).2.1 | exact (hcg (X := [_, _, _]) _ hct hscl hS).2.2 | exact hS.cell0 (by assumption)) (by first | assumption | exact (hcg (X := [_, _, _]) _ hct hscl hS).1 | exact (hcg (X := [_, _, _]) _ hct hscl hS).2.1 | exact (hcg (X := [_, _, _]) _ hct hscl hS).2.2 | exact hS.cell0 (by assumption)) (by first | assumption | exact (hcg (X := [_, _, _]) _ hct hscl hS).1 | exact (hcg (X := [_, _, _]) _ hct hscl hS).2.1 | exact (hcg (X := [_, _, _]) _ hct hscl hS).2.2 | exact hS.cell0 (by assumption))) rfl ?_
          refine lst_run (run_neq_cell rfl rfl) rfl ?_
          refine lst_done ?_
          rw [decide_eq_true hxy]
          refine goes_false rfl ?_
          refine goes_skip ?_
          refine goes_seq ?_
          refine goes_region ?_
          refine lst_run (run_fieldAddr (off := 1) rfl rfl) rfl ?_
          first
            | refine lst_run (run_load1_own hS rfl rfl (by first | exact .head | exact .tail .head | exact .tail (.tail .head) | exact .tail (.tail (.tail .head)) | exact .tail (.tail (.tail (.tail .head))) | exact .tail (.tail (.tail (.tail (.tail .head))))) (by repeat constructor)) rfl ?_
            | refine lst_run (run_load1 rfl rfl (by first | assumption | exact (hcg (X := [_, _, _]) _ hct hscl hS).1 | exact (hcg (X := [_, _, _]) _ hct hscl hS).2.1 | exact (hcg (X := [_, _, _]) _ hct hscl hS).2.2 | exact hS.cell0 (by assumption) | exact lv_next hS | exact lv_list hS)) rfl ?_
          refine lst_run (run_assign (by conv => lhs; whnf)) rfl ?_
          refine lst_done ?_
          refine goes_block ?_
          refine goes_loop2 12 21 (195 :: 196 :: 197 :: 198 :: 199 :: 200 :: 201 :: 204 :: 205 :: 206 :: 207 :: 208 :: 209 :: 210 :: 211 :: 212 :: 213 :: 202 :: 203 :: []) (fun (j : Nat) v yy w' => ∃ (Z : List (Int × Int)) (Az : Option Addr) (cz : Nat) (Oz : List (Nat × Obj)), j ≤ k ∧ Z = Lq ++ (ups2 (p + 1 + (j : Nat)) (q + 1 + (j : Nat)) (k - j)).reverse ∧ v = .slice Az Z.length cz ∧ yy = .int .i64 (j : Nat) ∧ Rw 65 2 (.slice Az Z.length cz) Z.length (prs Z) Oz ∧ St M w0 ((b5, .cells (hcs cx).toArray 59) :: (b6, .cells (hcs cy).toArray 59) :: (b3, hob (some ⟨g, 0, none⟩) h.cs.length c3 Bt s.tr.length d5) :: (g, cob s.cs sp) :: (b2, hob none 0 0 none 0 0) :: (b1, hob A h.cs.length c B h.tr.length d) :: (Ot ++ (Oz ++ H))) F w') (fun j => j) (k) ?_ (by conv => lhs; whnf) (by conv => lhs; whnf) ?_
          · refine ⟨Lq, some ⟨lb, 0, none⟩, cl, [(lb, .cells (prs (Lq ++ [(x, y)]) ++ lsp).toArray 65)], Nat.le_refl _, by simp [ups2], ?_, by rw [hk], hrowq, hS⟩
            rw [show (((Lq.length + 1 : Nat) : Int) - 1).toNat = Lq.length by omega]
          clear hS
          rintro j _ _ w11 jv11 ⟨Z, Az, cz, Oz, hjk, hZ, rfl, rfl, hrowz, hS⟩ ih11
          have hZl : Z.length = Lq.length + (k - j) := by rw [hZ]; simp [ups2_len]
          cases j with
          | zero =>
            refine goes_seq ?_
            refine goes_seq ?_
            refine goes_region ?_
            refine lst_run (run_move (by conv => lhs; whnf)) rfl ?_
            first
              | refine lst_run (run_gtr_yes rfl rfl (by omega)) rfl ?_
              | refine lst_run (run_gtr_no rfl rfl (by omega)) rfl ?_
              | refine lst_run (rfl) rfl ?_
            refine lst_run (run_move (by conv => lhs; whnf)) rfl ?_
            refine lst_pass rfl rfl rfl ?_
            refine lst_pass rfl rfl rfl ?_
            refine lst_pass rfl rfl rfl ?_
            first
              | refine lst_run (run_pick_t rfl (by conv => lhs; whnf)) rfl ?_
              | refine lst_run (run_pick_f rfl (by conv => lhs; whnf)) rfl ?_
            refine lst_done ?_
            refine goes_false rfl ?_
            refine goes_exit rfl ?_
            refine goes_inBlock ?_
            refine ih (Z, s) _ _ _ _ ?_ ?_ (by conv => lhs; whnf) (by conv => lhs; whnf) (by kernel_rfl)
            · show 401 - s.w < 401 - u.w; omega
            · refine ⟨Az, cz, d5, Bt, Ot, Oz, rfl, by show Value.int .i64 (400 - (u.w : Int) - 1) = .int .i64 (400 - (s.w : Nat)); congr 1; omega, ?_, hGs, hls, by show Z.length ≤ 1 + 4 * s.w; omega, hrowz, hrowt, hS.drop.drop⟩
              show r = runS Z.reverse s
              rw [hrr2, hZ, List.reverse_append, List.reverse_reverse, show p + 1 + ((0 : Nat) : Int) = p + 1 by omega, show q + 1 + ((0 : Nat) : Int) = q + 1 by omega]; rfl
          | succ j =>
            refine goes_seq ?_
            refine goes_seq ?_
            refine goes_region ?_
            refine lst_run (run_move (by conv => lhs; whnf)) rfl ?_
            first
              | refine lst_run (run_gtr_yes rfl rfl (by omega)) rfl ?_
              | refine lst_run (run_gtr_no rfl rfl (by omega)) rfl ?_
              | refine lst_run (rfl) rfl ?_
            refine lst_run (run_move (by conv => lhs; whnf)) rfl ?_
            refine lst_guard rfl rfl ?_
            refine lst_run (run_fieldAddr (off := 0) rfl rfl) rfl ?_
            refine lst_guard rfl rfl ?_
            first
              | refine lst_run (run_load1_own hS rfl rfl (by first | exact .head | exact .tail .head | exact .tail (.tail .head) | exact .tail (.tail (.tail .head)) | exact .tail (.tail (.tail (.tail .head))) | exact .tail (.tail (.tail (.tail (.tail .head))))) (by repeat constructor)) rfl ?_
              | refine lst_run (run_load1 rfl rfl (by first | assumption | exact (hcg (X := [_, _, _]) _ hct hscl hS).1 | exact (hcg (X := [_, _, _]) _ hct hscl hS).2.1 | exact (hcg (X := [_, _, _]) _ hct hscl hS).2.2 | exact hS.cell0 (by assumption) | exact lv_next hS | exact lv_list hS)) rfl ?_
            refine lst_guard rfl rfl ?_
            first
              | refine lst_run (run_eql_one_int rfl rfl) rfl ?_
              | refine lst_run (run_eql_no rfl rfl (by first | assumption | omega)) rfl ?_
              | refine lst_run (run_eql_yes rfl rfl (by omega)) rfl ?_
              | refine lst_run (rfl) rfl ?_
            first
              | refine lst_run (run_pick_t rfl (by conv => lhs; whnf)) rfl ?_
              | refine lst_run (run_pick_f rfl (by conv => lhs; whnf)) rfl ?_
            refine lst_done ?_
            refine goes_true rfl ?_
            refine goes_skip ?_
            refine goes_seq ?_
            refine goes_block ?_
            refine goes_region ?_
            refine lst_run (run_move (by conv => lhs; whnf)) rfl ?_
            refine lst_run (run_move (by conv => lhs; whnf)) rfl ?_
            refine lst_run (run_move (by conv => lhs; whnf)) rfl ?_
            refine lst_run (run_add rfl rfl (by omega) (by omega)) rfl ?_
            refine lst_run (run_move (by conv => lhs; whnf)) rfl ?_
            refine lst_run (run_move (by conv => lhs; whnf)) rfl ?_
            refine lst_run (run_add rfl rfl (by omega) (by omega)) rfl ?_
            refine lst_run (run_buildA (cells := [_, _]) (.cons (by conv => lhs; whnf) (.cons (by conv => lhs; whnf) .nil)) rfl) rfl ?_
            refine lst_buildSlice (cells := [_, _]) hS (.cons (by conv => lhs; whnf) .nil) rfl rfl ?_
            clear hS
            intro b9 wx14 hS
            refine lst_appP (p := (p + ((j + 1 : Nat) : Int), q + ((j + 1 : Nat) : Int))) hS (by conv => lhs; whnf) (by rfl) rfl rfl rfl (Flat.own (sp := []) (hS.own (_, _) (.head _)) rfl (Nat.le_refl _)) hrowz (permC [_, _, _, _, _, _, _] Ot Oz H) (by omega) rfl ?_
            clear hS
            intro v12 O12 w12 hrow12 hS
            obtain ⟨B12, d12, rfl, _⟩ := hrow12.form
            replace hS := hS.perm (permC [_, _, _, _, _, _, _] Ot O12 H).symm
            refine lst_run (run_assign (by conv => lhs; whnf)) rfl ?_
            refine lst_done ?_
            refine goes_inBlock ?_
            refine goes_region ?_
            refine lst_run (run_move (by conv => lhs; whnf)) rfl ?_
            first
              | refine lst_run (run_sub rfl rfl (by omega) (by omega)) rfl ?_
              | refine lst_run (run_sub_u8 rfl rfl) rfl ?_
            refine lst_run (run_assign (by conv => lhs; whnf)) rfl ?_
            refine lst_done ?_
            refine ih11 j _ _ _ _ ?_ ?_ (by conv => lhs; whnf) (by conv => lhs; whnf) (by kernel_rfl)
            · omega
            · refine ⟨Z ++ [(p + ((j + 1 : Nat) : Int), q + ((j + 1 : Nat) : Int))], B12, d12, O12, by omega, ?_, by rw [List.length_append]; rfl, by congr 1; omega, ?_, hS.drop⟩
              · rw [hZ, show k - j = (k - (j + 1)) + 1 by omega]
                simp only [ups2, List.reverse_cons, List.append_assoc]
                rw [show p + 1 + ((j : Nat) : Int) + 1 = p + 1 + ((j + 1 : Nat) : Int) by omega, show p + 1 + ((j : Nat) : Int) = p + ((j + 1 : Nat) : Int) by omega, show q + 1 + ((j : Nat) : Int) + 1 = q + 1 + ((j + 1 : Nat) : Int) by omega, show q + 1 + ((j : Nat) : Int) = q + ((j + 1 : Nat) : Int) by omega]
              · rw [List.length_append, prs_app]; exact hrow12
        · have hk3 : (argsC cx).toNat = 0 := by unfold argsC; rw [if_neg k3]; rfl
          rw [hk3] at hrr2
          refine goes_seq ?_
          refine goes_seq ?_
          refine goes_region ?_
          refine lst_run (run_fieldAddr (off := 0) rfl rfl) rfl ?_
          first
            | refine lst_run (run_load1_own hS rfl rfl (by first | exact .head | exact .tail .head | exact .tail (.tail .head) | exact .tail (.tail (.tail .head)) | exact .tail (.tail (.tail (.tail .head))) | exact .tail (.tail (.tail (.tail (.tail .head))))) (by repeat constructor)) rfl ?_
            | refine lst_run (run_load1 rfl rfl (by first | assumption | exact (hcg (X := [_, _, _]) _ hct hscl hS).1 | exact (hcg (X := [_, _, _]) _ hct hscl hS).2.1 | exact (hcg (X := [_, _, _]) _ hct hscl hS).2.2 | exact hS.cell0 (by assumption) | exact lv_next hS | exact lv_list hS)) rfl ?_
          first
            | refine lst_run (run_eql_one_int rfl rfl) rfl ?_
            | refine lst_run (run_eql_no rfl rfl (by first | assumption | omega)) rfl ?_
            | refine lst_run (run_eql_yes rfl rfl (by omega)) rfl ?_
            | refine lst_run (rfl) rfl ?_
          refine lst_run (run_move (by conv => lhs; whnf)) rfl ?_
          refine lst_pass rfl rfl rfl ?_
          refine lst_pass rfl rfl rfl ?_
          refine lst_pass rfl rfl rfl ?_
          first
            | refine lst_run (run_pick_t rfl (by conv => lhs; whnf)) rfl ?_
            | refine lst_run (run_pick_f rfl (by conv => lhs; whnf)) rfl ?_
          refine lst_done ?_
          refine goes_false rfl ?_
          refine goes_skip ?_
          refine goes_seq ?_
          refine goes_seq ?_
          refine goes_region ?_
          refine lst_run (run_fieldAddr (off := 0) rfl rfl) rfl ?_
          first
            | refine lst_run (run_load1_own hS rfl rfl (by first | exact .head | exact .tail .head | exact .tail (.tail .head) | exact .tail (.tail (.tail .head)) | exact .tail (.tail (.tail (.tail .head))) | exact .tail (.tail (.tail (.tail (.tail .head))))) (by repeat constructor)) rfl ?_
            | refine lst_run (run_load1 rfl rfl (by first | assumption | exact (hcg (X := [_, _, _]) _ hct hscl hS).1 | exact (hcg (X := [_, _, _]) _ hct hscl hS).2.1 | exact (hcg (X := [_, _, _]) _ hct hscl hS).2.2 | exact hS.cell0 (by assumption) | exact lv_next hS | exact lv_list hS)) rfl ?_
          first
            | refine lst_run (run_eql_one_int rfl rfl) rfl ?_
            | refine lst_run (run_eql_no rfl rfl (by first | assumption | omega)) rfl ?_
            | refine lst_run (run_eql_yes rfl rfl (by omega)) rfl ?_
            | refine lst_run (rfl) rfl ?_
          refine lst_done ?_
          refine goes_false rfl ?_
          refine goes_skip ?_
          refine goes_seq ?_
          refine goes_seq ?_
          refine goes_region ?_
          refine lst_run (run_fieldAddr (off := 0) rfl rfl) rfl ?_
          first
            | refine lst_run (run_load1_own hS rfl rfl (by first | exact .head | exact .tail .head | exact .tail (.tail .head) | exact .tail (.tail (.tail .head)) | exact .tail (.tail (.tail (.tail .head))) | exact .tail (.tail (.tail (.tail (.tail .head))))) (by repeat constructor)) rfl ?_
            | refine lst_run (run_load1 rfl rfl (by first | assumption | exact (hcg (X := [_, _, _]) _ hct hscl hS).1 | exact (hcg (X := [_, _, _]) _ hct hscl hS).2.1 | exact (hcg (X := [_, _, _]) _ hct hscl hS).2.2 | exact hS.cell0 (by assumption) | exact lv_next hS | exact lv_list hS)) rfl ?_
          first
            | refine lst_run (run_eql_one_int rfl rfl) rfl ?_
            | refine lst_run (run_eql_no rfl rfl (by first | assumption | omega)) rfl ?_
            | refine lst_run (run_eql_yes rfl rfl (by omega)) rfl ?_
            | refine lst_run (rfl) rfl ?_
          refine lst_done ?_
          refine goes_false rfl ?_
          refine goes_skip ?_
          refine goes_seq ?_
          refine goes_seq ?_
          refine goes_region ?_
          first
            | refine lst_run (run_loadN_own (k := 3) hS rfl rfl rfl (by first | exact .head | exact .tail .head | exact .tail (.tail .head) | exact .tail (.tail (.tail .head)) | exact .tail (.tail (.tail (.tail .head))) | exact .tail (.tail (.tail (.tail (.tail .head))))) (by repeat constructor)) rfl ?_
            | refine lst_run (run_load3 rfl rfl rfl (by first | assumption | exact (hcg (X := [_, _, _]) _ hct hscl hS).1 | exact (hcg (X := [_, _, _]) _ hct hscl hS).2.1 | exact (hcg (X := [_, _, _]) _ hct hscl hS).2.2 | exact hS.cell0 (by assumption)) (by first | assumption | exact (hcg (X := [_, _, _]) _ hct hscl hS).1 | exact (hcg (X := [_, _, _]) _ hct hscl hS).2.1 | exact (hcg (X := [_, _, _]) _ hct hscl hS).2.2 | exact hS.cell0 (by assumption)) (by first | assumption | exact (hcg (X := [_, _, _]) _ hct hscl hS).1 | exact (hcg (X := [_, _, _]) _ hct hscl hS).2.1 | exact (hcg (X := [_, _, _]) _ hct hscl hS).2.2 | exact hS.cell0 (by assumption))) rfl ?_
          first
            | refine lst_run (run_loadN_own (k := 3) hS rfl rfl rfl (by first | exact .head | exact .tail .head | exact .tail (.tail .head) | exact .tail (.tail (.tail .head)) | exact .tail (.tail (.tail (.tail .head))) | exact .tail (.tail (.tail (.tail (.tail .head))))) (by repeat constructor)) rfl ?_
            | refine lst_run (run_load3 rfl rfl rfl (by first | assumption | exact (hcg (X := [_, _, _]) _ hct hscl hS).1 | exact (hcg (X := [_, _, _]) _ hct hscl hS).2.1 | exact (hcg (X := [_, _, _]) _ hct hscl hS).2.2 | exact hS.cell0 (by assumption)) (by first | assumption | exact (hcg (X := [_, _, _]) _ hct hscl hS).1 | exact (hcg (X := [_, _, _]) _ hct hscl hS).2.1 | exact (hcg (X := [_, _, _]) _ hct hscl hS).2.2 | exact hS.cell0 (by assumption)) (by first | assumption | exact (hcg (X := [_, _, _]) _ hct hscl hS).1 | exact (hcg (X := [_, _, _]) _ hct hscl hS).2.1 | exact (hcg (X := [_, _, _]) _ hct hscl hS).2.2 | exact hS.cell0 (by assumption))) rfl ?_
          refine lst_run (run_neq_cell rfl rfl) rfl ?_
          refine lst_done ?_
          rw [decide_eq_true hxy]
          refine goes_false rfl ?_
          refine goes_skip ?_
          refine goes_seq ?_
          refine goes_region ?_
          refine lst_run (run_fieldAddr (off := 1) rfl rfl) rfl ?_
          first
            | refine lst_run (run_load1_own hS rfl rfl (by first | exact .head | exact .tail .head | exact .tail (.tail .head) | exact .tail (.tail (.tail .head)) | exact .tail (.tail (.tail (.tail .head))) | exact .tail (.tail (.tail (.tail (.tail .head))))) (by repeat constructor)) rfl ?_
            | refine lst_run (run_load1 rfl rfl (by first | assumption | exact (hcg (X := [_, _, _]) _ hct hscl hS).1 | exact (hcg (X := [_, _, _]) _ hct hscl hS).2.1 | exact (hcg (X := [_, _, _]) _ hct hscl hS).2.2 | exact hS.cell0 (by assumption) | exact lv_next hS | exact lv_list hS)) rfl ?_
          refine lst_run (run_assign (by conv => lhs; whnf)) rfl ?_
          refine lst_done ?_
          refine goes_block ?_
          refine goes_loop2 12 21 (195 :: 196 :: 197 :: 198 :: 199 :: 200 :: 201 :: 204 :: 205 :: 206 :: 207 :: 208 :: 209 :: 210 :: 211 :: 212 :: 213 :: 202 :: 203 :: []) (fun (_ : Unit) v yy w' => v = .slice (some ⟨lb, 0, none⟩) (((Lq.length + 1 : Nat) : Int) - 1).toNat cl ∧ yy = .int .i64 cx.n ∧ St M w0 ((b5, .cells (hcs cx).toArray 59) :: (b6, .cells (hcs cy).toArray 59) :: (b3, hob (some ⟨g, 0, none⟩) h.cs.length c3 Bt s.tr.length d5) :: (g, cob s.cs sp) :: (b2, hob none 0 0 none 0 0) :: (b1, hob A h.cs.length c B h.tr.length d) :: (Ot ++ ([(lb, .cells (prs (Lq ++ [(x, y)]) ++ lsp).toArray 65)] ++ H))) F w') (fun _ => 0) (()) ?_ (by conv => lhs; whnf) (by conv => lhs; whnf) ?_
          · exact ⟨rfl, rfl, hS⟩
          clear hS
          rintro _ _ _ w11 jv11 ⟨rfl, rfl, hS⟩ ih11
          have hend : ∀ {ee : Env} {w' : World}, St M w0 ((b5, .cells (hcs cx).toArray 59) :: (b6, .cells (hcs cy).toArray 59) :: (b3, hob (some ⟨g, 0, none⟩) h.cs.length c3 Bt s.tr.length d5) :: (g, cob s.cs sp) :: (b2, hob none 0 0 none 0 0) :: (b1, hob A h.cs.length c B h.tr.length d) :: (Ot ++ ([(lb, .cells (prs (Lq ++ [(x, y)]) ++ lsp).toArray 65)] ++ H))) F w' → True := fun _ => trivial
          clear hend
          by_cases hn0 : 0 < cx.n
          · refine goes_seq ?_
            refine goes_seq ?_
            refine goes_region ?_
            refine lst_run (run_move (by conv => lhs; whnf)) rfl ?_
            first
              | refine lst_run (run_gtr_yes rfl rfl (by omega)) rfl ?_
              | refine lst_run (run_gtr_no rfl rfl (by omega)) rfl ?_
              | refine lst_run (rfl) rfl ?_
            refine lst_run (run_move (by conv => lhs; whnf)) rfl ?_
            refine lst_guard rfl rfl ?_
            refine lst_run (run_fieldAddr (off := 0) rfl rfl) rfl ?_
            refine lst_guard rfl rfl ?_
            first
              | refine lst_run (run_load1_own hS rfl rfl (by first | exact .head | exact .tail .head | exact .tail (.tail .head) | exact .tail (.tail (.tail .head)) | exact .tail (.tail (.tail (.tail .head))) | exact .tail (.tail (.tail (.tail (.tail .head))))) (by repeat constructor)) rfl ?_
              | refine lst_run (run_load1 rfl rfl (by first | assumption | exact (hcg (X := [_, _, _]) _ hct hscl hS).1 | exact (hcg (X := [_, _, _]) _ hct hscl hS).2.1 | exact (hcg (X := [_, _, _]) _ hct hscl hS).2.2 | exact hS.cell0 (by assumption) | exact lv_next hS | exact lv_list hS)) rfl ?_
            refine lst_guard rfl rfl ?_
            first
              | refine lst_run (run_eql_one_int rfl rfl) rfl ?_
              | refine lst_run (run_eql_no rfl rfl (by first | assumption | omega)) rfl ?_
              | refine lst_run (run_eql_yes rfl rfl (by omega)) rfl ?_
              | refine lst_run (rfl) rfl ?_
            first
              | refine lst_run (run_pick_t rfl (by conv => lhs; whnf)) rfl ?_
              | refine lst_run (run_pick_f rfl (by conv => lhs; whnf)) rfl ?_
            refine lst_done ?_
            refine goes_false rfl ?_
            refine goes_exit rfl ?_
            refine goes_inBlock ?_
            refine ih (Lq, s) _ _ _ _ ?_ ?_ (by conv => lhs; whnf) (by conv => lhs; whnf) (by kernel_rfl)
            · show 401 - s.w < 401 - u.w; omega
            · exact ⟨some ⟨lb, 0, none⟩, cl, d5, Bt, Ot, [(lb, .cells (prs (Lq ++ [(x, y)]) ++ lsp).toArray 65)], (by rw [show (((Lq.length + 1 : Nat) : Int) - 1).toNat = Lq.length by omega]), by show Value.int .i64 (400 - (u.w : Int) - 1) = .int .i64 (400 - (s.w : Nat)); congr 1; omega, hrr2, hGs, hls, by show Lq.length ≤ 1 + 4 * s.w; omega, hrowq, hrowt, hS.drop.drop⟩
          · refine goes_seq ?_
            refine goes_seq ?_
            refine goes_region ?_
            refine lst_run (run_move (by conv => lhs; whnf)) rfl ?_
            first
              | refine lst_run (run_gtr_yes rfl rfl (by omega)) rfl ?_
              | refine lst_run (run_gtr_no rfl rfl (by omega)) rfl ?_
              | refine lst_run (rfl) rfl ?_
            refine lst_run (run_move (by conv => lhs; whnf)) rfl ?_
            refine lst_pass rfl rfl rfl ?_
            refine lst_pass rfl rfl rfl ?_
            refine lst_pass rfl rfl rfl ?_
            first
              | refine lst_run (run_pick_t rfl (by conv => lhs; whnf)) rfl ?_
              | refine lst_run (run_pick_f rfl (by conv => lhs; whnf)) rfl ?_
            refine lst_done ?_
            refine goes_false rfl ?_
            refine goes_exit rfl ?_
            refine goes_inBlock ?_
            refine ih (Lq, s) _ _ _ _ ?_ ?_ (by conv => lhs; whnf) (by conv => lhs; whnf) (by kernel_rfl)
            · show 401 - s.w < 401 - u.w; omega
            · exact ⟨some ⟨lb, 0, none⟩, cl, d5, Bt, Ot, [(lb, .cells (prs (Lq ++ [(x, y)]) ++ lsp).toArray 65)], (by rw [show (((Lq.length + 1 : Nat) : Int) - 1).toNat = Lq.length by omega]), by show Value.int .i64 (400 - (u.w : Int) - 1) = .int .i64 (400 - (s.w : Nat)); congr 1; omega, hrr2, hGs, hls, by show Lq.length ≤ 1 + 4 * s.w; omega, hrowq, hrowt, hS.drop.drop⟩
      · rw [if_neg (by simpa using hxy)] at hrr2
        rw [hfail (by rw [hrr2]) (by rw [hrr2]; exact hls)]
        refine goes_seq ?_
        refine goes_seq ?_
        refine goes_region ?_
        refine lst_run (run_fieldAddr (off := 0) rfl rfl) rfl ?_
        first
          | refine lst_run (run_load1_own hS rfl rfl (by first | exact .head | exact .tail .head | exact .tail (.tail .head) | exact .tail (.tail (.tail .head)) | exact .tail (.tail (.tail (.tail .head))) | exact .tail (.tail (.tail (.tail (.tail .head))))) (by repeat constructor)) rfl ?_
          | refine lst_run (run_load1 rfl rfl (by first | assumption | exact (hcg (X := [_, _, _]) _ hct hscl hS).1 | exact (hcg (X := [_, _, _]) _ hct hscl hS).2.1 | exact (hcg (X := [_, _, _]) _ hct hscl hS).2.2 | exact hS.cell0 (by assumption) | exact lv_next hS | exact lv_list hS)) rfl ?_
        first
          | refine lst_run (run_eql_one_int rfl rfl) rfl ?_
          | refine lst_run (run_eql_no rfl rfl (by first | assumption | omega)) rfl ?_
          | refine lst_run (run_eql_yes rfl rfl (by omega)) rfl ?_
          | refine lst_run (rfl) rfl ?_
        refine lst_run (run_move (by conv => lhs; whnf)) rfl ?_
        refine lst_pass rfl rfl rfl ?_
        refine lst_pass rfl rfl rfl ?_
        refine lst_pass rfl rfl rfl ?_
        first
          | refine lst_run (run_pick_t rfl (by conv => lhs; whnf)) rfl ?_
          | refine lst_run (run_pick_f rfl (by conv => lhs; whnf)) rfl ?_
        refine lst_done ?_
        refine goes_false rfl ?_
        refine goes_skip ?_
        refine goes_seq ?_
        refine goes_seq ?_
        refine goes_region ?_
        refine lst_run (run_fieldAddr (off := 0) rfl rfl) rfl ?_
        first
          | refine lst_run (run_load1_own hS rfl rfl (by first | exact .head | exact .tail .head | exact .tail (.tail .head) | exact .tail (.tail (.tail .head)) | exact .tail (.tail (.tail (.tail .head))) | exact .tail (.tail (.tail (.tail (.tail .head))))) (by repeat constructor)) rfl ?_
          | refine lst_run (run_load1 rfl rfl (by first | assumption | exact (hcg (X := [_, _, _]) _ hct hscl hS).1 | exact (hcg (X := [_, _, _]) _ hct hscl hS).2.1 | exact (hcg (X := [_, _, _]) _ hct hscl hS).2.2 | exact hS.cell0 (by assumption) | exact lv_next hS | exact lv_list hS)) rfl ?_
        first
          | refine lst_run (run_eql_one_int rfl rfl) rfl ?_
          | refine lst_run (run_eql_no rfl rfl (by first | assumption | omega)) rfl ?_
          | refine lst_run (run_eql_yes rfl rfl (by omega)) rfl ?_
          | refine lst_run (rfl) rfl ?_
        refine lst_done ?_
        refine goes_false rfl ?_
        refine goes_skip ?_
        refine goes_seq ?_
        refine goes_seq ?_
        refine goes_region ?_
        refine lst_run (run_fieldAddr (off := 0) rfl rfl) rfl ?_
        first
          | refine lst_run (run_load1_own hS rfl rfl (by first | exact .head | exact .tail .head | exact .tail (.tail .head) | exact .tail (.tail (.tail .head)) | exact .tail (.tail (.tail (.tail .head))) | exact .tail (.tail (.tail (.tail (.tail .head))))) (by repeat constructor)) rfl ?_
          | refine lst_run (run_load1 rfl rfl (by first | assumption | exact (hcg (X := [_, _, _]) _ hct hscl hS).1 | exact (hcg (X := [_, _, _]) _ hct hscl hS).2.1 | exact (hcg (X := [_, _, _]) _ hct hscl hS).2.2 | exact hS.cell0 (by assumption) | exact lv_next hS | exact lv_list hS)) rfl ?_
        first
          | refine lst_run (run_eql_one_int rfl rfl) rfl ?_
          | refine lst_run (run_eql_no rfl rfl (by first | assumption | omega)) rfl ?_
          | refine lst_run (run_eql_yes rfl rfl (by omega)) rfl ?_
          | refine lst_run (rfl) rfl ?_
        refine lst_done ?_
        refine goes_false rfl ?_
        refine goes_skip ?_
        refine goes_seq ?_
        refine goes_seq ?_
        refine goes_region ?_
        first
          | refine lst_run (run_loadN_own (k := 3) hS rfl rfl rfl (by first | exact .head | exact .tail .head | exact .tail (.tail .head) | exact .tail (.tail (.tail .head)) | exact .tail (.tail (.tail (.tail .head))) | exact .tail (.tail (.tail (.tail (.tail .head))))) (by repeat constructor)) rfl ?_
          | refine lst_run (run_load3 rfl rfl rfl (by first | assumption | exact (hcg (X := [_, _, _]) _ hct hscl hS).1 | exact (hcg (X := [_, _, _]) _ hct hscl hS).2.1 | exact (hcg (X := [_, _, _]) _ hct hscl hS).2.2 | exact hS.cell0 (by assumption)) (by first | assumption | exact (hcg (X := [_, _, _]) _ hct hscl hS).1 | exact (hcg (X := [_, _, _]) _ hct hscl hS).2.1 | exact (hcg (X := [_, _, _]) _ hct hscl hS).2.2 | exact hS.cell0 (by assumption)) (by first | assumption | exact (hcg (X := [_, _, _]) _ hct hscl hS).1 | exact (hcg (X := [_, _, _]) _ hct hscl hS).2.1 | exact (hcg (X := [_, _, _]) _ hct hscl hS).2.2 | exact hS.cell0 (by assumption))) rfl ?_
        first
          | refine lst_run (run_loadN_own (k := 3) hS rfl rfl rfl (by first | exact .head | exact .tail .head | exact .tail (.tail .head) | exact .tail (.tail (.tail .head)) | exact .tail (.tail (.tail (.tail .head))) | exact .tail (.tail (.tail (.tail (.tail .head))))) (by repeat constructor)) rfl ?_
          | refine lst_run (run_load3 rfl rfl rfl (by first | assumption | exact (hcg (X := [_, _, _]) _ hct hscl hS).1 | exact (hcg (X := [_, _, _]) _ hct hscl hS).2.1 | exact (hcg (X := [_, _, _]) _ hct hscl hS).2.2 | exact hS.cell0 (by assumption)) (by first | assumption | exact (hcg (X := [_, _, _]) _ hct hscl hS).1 | exact (hcg (X := [_, _, _]) _ hct hscl hS).2.1 | exact (hcg (X := [_, _, _]) _ hct hscl hS).2.2 | exact hS.cell0 (by assumption)) (by first | assumption | exact (hcg (X := [_, _, _]) _ hct hscl hS).1 | exact (hcg (X := [_, _, _]) _ hct hscl hS).2.1 | exact (hcg (X := [_, _, _]) _ hct hscl hS).2.2 | exact hS.cell0 (by assumption))) rfl ?_
        refine lst_run (run_neq_cell rfl rfl) rfl ?_
        refine lst_done ?_
        rw [decide_eq_false hxy]
        refine goes_true rfl ?_
        refine goes_seq ?_
        refine goes_region ?_
        first
          | refine lst_run (run_loadN_own (k := 2) hS rfl rfl rfl (by first | exact .head | exact .tail .head | exact .tail (.tail .head) | exact .tail (.tail (.tail .head)) | exact .tail (.tail (.tail (.tail .head))) | exact .tail (.tail (.tail (.tail (.tail .head))))) (by repeat constructor)) rfl ?_
          | refine lst_run (run_load2 rfl rfl rfl (by first | assumption | exact (hcg (X := [_, _, _]) _ hct hscl hS).1 | exact (hcg (X := [_, _, _]) _ hct hscl hS).2.1 | exact (hcg (X := [_, _, _]) _ hct hscl hS).2.2 | exact hS.cell0 (by assumption)) (by first | assumption | exact (hcg (X := [_, _, _]) _ hct hscl hS).1 | exact (hcg (X := [_, _, _]) _ hct hscl hS).2.1 | exact (hcg (X := [_, _, _]) _ hct hscl hS).2.2 | exact hS.cell0 (by assumption))) rfl ?_
        refine lst_storeN hS rfl (by conv => lhs; whnf) rfl rfl (by first | exact .head | exact .tail .head | exact .tail (.tail .head) | exact .tail (.tail (.tail .head)) | exact .tail (.tail (.tail (.tail .head))) | exact .tail (.tail (.tail (.tail (.tail .head))))) (by repeat constructor) (by first | exact .head | exact .tail .head | exact .tail (.tail .head) | exact .tail (.tail (.tail .head)) | exact .tail (.tail (.tail (.tail .head))) | exact .tail (.tail (.tail (.tail (.tail .head))))) ?_
        clear hS
        intro wx14 hS
        refine lst_run (run_assign (by conv => lhs; whnf)) rfl ?_
        refine lst_run (run_assign (by conv => lhs; whnf)) rfl ?_
        refine lst_done ?_
        refine goes_retC3 (sz := 2) hS Try.func13 rfl rfl (by conv => lhs; whnf) (by conv => lhs; whnf) rfl rfl (by first | exact .head | exact .tail .head | exact .tail (.tail .head) | exact .tail (.tail (.tail .head)) | exact .tail (.tail (.tail (.tail .head))) | exact .tail (.tail (.tail (.tail (.tail .head))))) (by repeat constructor) ?_
        exact ⟨A, c, B, d, F, rfl, fun _ h => h, hH, hback (X := Ot) hS.drop.drop.drop.drop.drop.drop⟩
end
end Go.Proofs.Ytjicoifjgokoiab
