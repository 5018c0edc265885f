/- SWalk9, SWalk10, SWalk11, Wide, Solves: texts that follow one another, laid into one file. -/
import Derived.Test.YtehhgmeaggempaaDoorG10
import Derived.Test.YtehhgmeaggempaaDoorG17
import Derived.Test.YtehhgmeaggempaaDoorG3
import Derived.Test.YtehhgmeaggempaaDoorG2
import Derived.KernelRfl
namespace Go.Proofs.YtehhgmeaggempaaDoor
open Go.RowKit
set_option linter.unusedVariables false
set_option linter.unusedSimpArgs false
set_option maxRecDepth 100000
set_option maxHeartbeats 1000000
theorem perm_out {α : Type} (L O O2 O3 H : List α) : (L ++ (O ++ (O2 ++ (O3 ++ H)))).Perm (O3 ++ (L ++ (O ++ (O2 ++ H)))) :=
 ((List.Perm.append_left L ((List.Perm.append_left O (List.perm_append_comm_assoc O2 O3 H)).trans (List.perm_append_comm_assoc O O3 _)))).trans (List.perm_append_comm_assoc L O3 _)
theorem perm_out2 {α : Type} (L O O2 H : List α) : (L ++ (O ++ (O2 ++ H))).Perm (O2 ++ (L ++ (O ++ H))) :=
 (List.Perm.append_left L (List.perm_append_comm_assoc O O2 H)).trans (List.perm_append_comm_assoc L O2 _)
theorem varsM_succ (B : Bnd) (m v l : Nat) : varsM B (m + 1) v l = (appM B 201 ⟨0, v, ⟨#[]⟩, .nil⟩ l).bind fun p => (varsM B m (v + 1) p.2).map fun q => (.cons p.1.k p.1.n p.1.s p.1.ar q.1, q.2) := by
 simp only [varsM]
 cases appM B 201 ⟨0, v, ⟨#[]⟩, .nil⟩ l with
 | none => rfl
 | some p =>
  simp only [Option.bind_some]
  cases varsM B m (v + 1) p.2 <;> rfl
theorem varsM_nodes {B : Bnd} : ∀ (m v l : Nat) (p : Ts × Nat), varsM B m v l = some p → p.1.nodes + p.2 = l ∧ p.1.length = m
 | 0, v, l, p, h => by
  simp only [varsM, Option.some.injEq] at h
  subst h
  exact ⟨by simp [Ts.nodes], rfl⟩
 | m + 1, v, l, p, h => by
  rw [varsM_succ] at h
  cases h1 : appM B 201 ⟨0, v, ⟨#[]⟩, .nil⟩ l with
  | none => rw [h1] at h; cases h
  | some q =>
   rw [h1, Option.bind_some] at h
   cases h2 : varsM B m (v + 1) q.2 with
   | none => rw [h2] at h; cases h
   | some x =>
    rw [h2, Option.map_some, Option.some.injEq] at h
    subst h
    have := app_nodes _ _ _ _ h1
    obtain ⟨i1, i2⟩ := varsM_nodes m (v + 1) q.2 x h2
    simp only [Ts.nodes, Ts.length]
    omega
section
variable {M : List Nat} {w0 : World} {H : List (Nat × Obj)} {F0 F : List (World → Prop)} {b : Nat} {P : List LC} {pA : Option Addr} {pc vars : Nat} {d : SD}
theorem answer_any (s : SS) (w : World) (hI : InvC s) (hv8 : vars ≤ 8) (hev : s.ev.length < 12) (hs : SSt M w0 H F0 b P pA pc vars s w) :
  Calls Tryd.prog 75 #[pt b] w fun e w' => e = .returned (.int .i64 (answerM vars s).1) ∧ SSt M w0 H F0 b P pA pc vars (answerM vars s).2 w' := by
 obtain ⟨d, F, hFF, hok, hS⟩ := hs
 have hsm := hI.sm
 rw [← hok.hB] at hsm
 refine goes_enter1 Tryd.func75 rfl Tryd.ntmps75 rfl ?_
 refine goes_seq ?_
 refine goes_region ?_
 refine lst_run (run_assign (by conv=>lhs;whnf)) rfl ?_
 refine lst_done ?_
 refine goes_seq ?_
 refine goes_region ?_
 refine lst_run (run_move (by conv=>lhs;whnf)) rfl ?_
 refine lst_run (run_nilCheck rfl) rfl ?_
 refine lst_run (run_fieldAddr (off := 3) rfl rfl) rfl ?_
 refine lst_run (run_load1_own hS rfl rfl (by exact .head) (by repeat constructor)) rfl ?_
 refine lst_make (sz := 4) (bts := 56) hS rfl rfl rfl rfl (by omega) (by omega) rfl ?_
 clear hS
 intro g w2 cs hcs hS
 refine lst_run (run_assign (by conv=>lhs;whnf)) rfl ?_
 refine lst_done ?_
 refine goes_seq ?_
 refine goes_region ?_
 refine lst_run (run_assign (by conv=>lhs;whnf)) rfl ?_
 refine lst_done ?_
 refine goes_seq ?_
 refine goes_seq ?_
 refine goes_region ?_
 refine lst_run (run_move (by conv=>lhs;whnf)) rfl ?_
 refine lst_run (run_len_slice rfl rfl rfl) rfl ?_
 refine lst_run (run_move (by conv=>lhs;whnf)) rfl ?_
 refine lst_done ?_
 refine goes_block ?_
 refine goes_loop2 14 4 (15 :: 16 :: 5 :: 6 :: 18 :: 19 :: 20 :: 21 :: 22 :: 23 :: 24 :: 25 :: 26 :: 17 :: 27 :: 28 :: 29 :: 30 :: 31 :: 32 :: 2 :: 33 :: []) (fun (m : Nat) v x w' => ∃ (D' : TA) (rs : List Value) (li : Nat) (F' : List (World → Prop)), D'.len + m = vars ∧ rs.length = m * 4 ∧ v = .int .i64 (D'.len : Nat) ∧ x = .int .i64 (li : Nat) ∧ li ≤ 200 ∧ varsM s.B vars 0 200 = (varsM s.B m D'.len li).map (fun p => (D'.ts.app p.1, p.2)) ∧ (∀ φ ∈ F, φ ∈ F') ∧ Und F' (AllR D') ∧ St M w0 ((g, .cells (tcsL D' ++ rs).toArray 24) :: (b, sob d.mb d.TR (srest P pA pc vars s.fresh s.fuel (ptrOf d.gs) d.CH d.EV)) :: (d.mb, .map d.es d.clk) :: (d.O ++ (d.O2 ++ (d.O3 ++ H)))) F' w') (fun m => m) (vars) ?_ (by conv=>lhs;whnf) (by conv=>lhs;whnf) ?_
 ·exact ⟨.nil, cs, 200, F, by simp [TA.len], hcs, rfl, rfl, by omega, (by show varsM s.B vars 0 200 = (varsM s.B vars 0 200).map _; cases varsM s.B vars 0 200 <;> rfl), fun _ h => h, fun _ _ => trivial, hS⟩
 clear hS
 rintro m _ _ w6 jv ⟨D', rs, li, F', hDm, hrs, rfl, rfl, hli, hvm, hFF', hAR, hS⟩ ih
 have hD4 := tcsL_len D'
 have hok' := hok.mono hFF'
 cases m with
 | zero =>
  obtain rfl : rs = [] := List.eq_nil_of_length_eq_zero (by simpa using hrs)
  have hvm2 : varsM s.B vars 0 200 = some (D'.ts, li) := by
   rw [hvm]
   show some (D'.ts.app .nil, li) = _
   rw [Ts.app_nil]
  have hnd := (varsM_nodes _ _ _ _ hvm2).1
  dsimp only at hnd
  have hDl : D'.len = vars := by omega
  have hArA : ∀ w', St M w0 ((g, .cells (tcsL D' ++ []).toArray 24) :: (b, sob d.mb d.TR (srest P pA pc vars s.fresh s.fuel (ptrOf d.gs) d.CH d.EV)) :: (d.mb, .map d.es d.clk) :: (d.O ++ (d.O2 ++ (d.O3 ++ H)))) F' w' → ArA (some ⟨g, 0, none⟩) vars D' w' := fun w' hS => by
   refine ⟨by omega, fun _ => ⟨g, 0, rfl, segA_of (hS.und hAR) fun j x hj => ?_⟩⟩
   rw [cell_own (hS.own (g, _) (.head _)), Nat.zero_add, List.append_nil]; exact hj
  have hrow3 := hok'.row3
  obtain ⟨A3, c3, hEV⟩ := hrow3.form
  have hlev : d.evs.length = s.ev.length := by rw [← hok.he]; simp
  refine goes_seq ?_
  refine goes_region ?_
  refine lst_run (run_lss_no rfl rfl (by omega)) rfl ?_
  refine lst_done ?_
  refine goes_seq ?_
  refine goes_false rfl ?_
  refine goes_exit rfl ?_
  refine goes_seq ?_
  replace hS := hS.swap
  refine goes_draw (St _ w0 [_] []) 12 ((0, true) :: (1, true) :: (2, true) :: (3, true) :: (4, true) :: (5, true) :: (6, false) :: (7, true) :: (8, false) :: (9, false) :: (10, true) :: (11, true) :: []) (by kernel_rfl) (by kernel_rfl) (hS.drew.bare1) ?_
  replace hS := hS.drew
  refine ord_read rfl (fun _ hS => run_move (by conv=>lhs;whnf)) rfl ?_
  refine ord_read rfl (fun _ hS => run_move (by conv=>lhs;whnf)) rfl ?_
  refine ord_read rfl (fun _ hS => run_nilCheck rfl) rfl ?_
  refine ord_read rfl (fun _ hS => run_fieldAddr (off := 8) rfl rfl) rfl ?_
  refine ord_read rfl (fun _ hS => run_load1_own hS rfl rfl (by exact .head) (by repeat constructor)) rfl ?_
  refine ord_read rfl (fun _ hS => run_move (by conv=>lhs;whnf)) rfl ?_
  refine ord_act rfl ?_
  have htid := tidy_any D'.ts (.slice (some ⟨g, 0, none⟩) vars vars) _ (by have := (hArA _ hS.swap).sl; rw [hDl] at this; exact this) (by omega)
  refine lst_enter (run_call (by kernel_rfl) (args_1 (by conv=>lhs;whnf))) rfl ?_
  refine Calls.mono htid ?_
  rintro _ w7 ⟨v7, rfl, hsl, hbl⟩
  refine ⟨_, rfl, ?_⟩
  obtain ⟨A7, c7, L7, rfl, hL7, hS'⟩ := hS.located hbl hsl
  replace hS := hS'
  clear hS'
  refine lst_ord (by exact hS.bare1) ?_
  refine ord_read rfl (fun _ hS => run_build (cells := [_, _]) (.cons (by conv=>lhs;whnf) (.cons (by conv=>lhs;whnf) .nil)) rfl) rfl ?_
  refine ord_act rfl ?_
  refine lst_buildSlice (cells := [_, _]) hS (.cons (by conv=>lhs;whnf) .nil) rfl rfl ?_
  clear hS
  intro b1 wx1 hS
  refine lst_ord (by exact hS.drop.bare1) ?_
  refine ord_act rfl ?_
  refine lst_app (sz := 2) (bts := 32) hS (by conv=>lhs;whnf) rfl rfl rfl rfl (hrow3) rfl rfl (.cons _ (perm_out [_, _, _] _ _ _ _)) (by omega) (by omega) rfl ?_
  clear hS
  intro v8 O8 w9 hrow8 hS
  obtain ⟨A8, c8, rfl⟩ := hrow8.form
  replace hS := hS.perm (perm_out [_, _, _] _ _ _ _).symm
  have hans : answerM vars s = if s.ev.length + 1 = 12 then (6, ⟨s.B, s.fresh, s.fuel, s.goals, s.ch, s.ev ++ [D'.ts.tidy]⟩) else againM ⟨s.B, s.fresh, s.fuel, s.goals, s.ch, s.ev ++ [D'.ts.tidy]⟩ := by
   unfold answerM; rw [hvm2]; simp only [List.length_append, List.length_cons, List.length_nil]
  have hs2 : ∀ w', St M w0 ((b, sob d.mb d.TR (srest P pA pc vars s.fresh s.fuel (ptrOf d.gs) d.CH (.slice A8 (d.evs.length + 1) c8))) :: (g, .cells (tcsL D' ++ []).toArray 24) :: (d.mb, .map d.es d.clk) :: (d.O ++ (d.O2 ++ (O8 ++ H)))) (ArA A7 c7 L7 :: F') w' → SSt M w0 H F0 b P pA pc vars ⟨s.B, s.fresh, s.fuel, s.goals, s.ch, s.ev ++ [D'.ts.tidy]⟩ w' := fun w' hS => by
   refine ⟨⟨d.G, d.mb, d.es, d.clk, d.TR, d.O, d.gs, d.cs, d.CH, d.O2, d.evs ++ [⟨A7, c7, L7⟩], .slice A8 (d.evs.length + 1) c8, O8⟩, _, fun φ h => .tail _ (hFF' φ (hFF φ h)), ?_, hS.swap.drop⟩
   have ho := hok'.mono (F' := ArA A7 c7 L7 :: F') fun φ h => .tail _ h
   refine ⟨ho.bm, ho.hB, ho.hg, ho.rg, ho.hc, ho.rc, ho.row2, ?_, ?_, ?_, ho.rp⟩
   ·show (d.evs ++ [LE.mk A7 c7 L7]).map _ = _
    rw [List.map_append, ho.he]; simp [hL7]
   ·intro e he
    rcases List.mem_append.1 he with he | he
    ·exact ho.re e he
    ·obtain rfl : e = ⟨A7, c7, L7⟩ := by simpa using he
     exact Und.head
   ·show Row _ _ _ (d.evs ++ [LE.mk A7 c7 L7]).length (evL (d.evs ++ [LE.mk A7 c7 L7])) _
    rw [evL_app, List.length_append]; exact hrow8
  have hinv2 : InvC ⟨s.B, s.fresh, s.fuel, s.goals, s.ch, s.ev ++ [D'.ts.tidy]⟩ := ⟨hI.bok, hI.gb, hI.ch, hI.fr, hI.bl⟩
  by_cases h12 : s.ev.length + 1 = 12
  ·rw [if_pos h12] at hans
   rw [hans]
   refine lst_ord (by exact hS.bare1) ?_
   refine ord_read rfl (fun _ hS => run_nilCheck rfl) rfl ?_
   refine ord_read rfl (fun _ hS => run_fieldAddr (off := 8) rfl rfl) rfl ?_
   refine ord_end ?_
   refine lst_store1 hS rfl (by conv=>lhs;whnf) rfl rfl (by exact .head) (by repeat constructor) (by exact .head) ?_
   clear hS
   intro wx2 hS
   refine lst_done ?_
   refine goes_seq ?_
   refine goes_seq ?_
   refine goes_region ?_
   refine lst_run (run_move (by conv=>lhs;whnf)) rfl ?_
   refine lst_run (run_nilCheck rfl) rfl ?_
   refine lst_run (run_fieldAddr (off := 8) rfl rfl) rfl ?_
   refine lst_run (run_load1_own hS rfl rfl (by exact .head) (by repeat constructor)) rfl ?_
   refine lst_run (run_len_slice rfl rfl rfl) rfl ?_
   refine lst_run (run_eql_yes rfl rfl (by omega)) rfl ?_
   refine lst_done ?_
   refine goes_true rfl ?_
   refine goes_seq ?_
   refine goes_region ?_
   refine lst_run (run_assign (by conv=>lhs;whnf)) rfl ?_
   refine lst_done ?_
   refine goes_ret1 Tryd.func75 rfl (by conv=>lhs;whnf) ?_
   exact ⟨rfl, hs2 _ hS⟩
  ·rw [if_neg h12] at hans
   rw [hans]
   refine lst_ord (by exact hS.bare1) ?_
   refine ord_read rfl (fun _ hS => run_nilCheck rfl) rfl ?_
   refine ord_read rfl (fun _ hS => run_fieldAddr (off := 8) rfl rfl) rfl ?_
   refine ord_end ?_
   refine lst_store1 hS rfl (by conv=>lhs;whnf) rfl rfl (by exact .head) (by repeat constructor) (by exact .head) ?_
   clear hS
   intro wx2 hS
   refine lst_done ?_
   refine goes_seq ?_
   refine goes_seq ?_
   refine goes_region ?_
   refine lst_run (run_move (by conv=>lhs;whnf)) rfl ?_
   refine lst_run (run_nilCheck rfl) rfl ?_
   refine lst_run (run_fieldAddr (off := 8) rfl rfl) rfl ?_
   refine lst_run (run_load1_own hS rfl rfl (by exact .head) (by repeat constructor)) rfl ?_
   refine lst_run (run_len_slice rfl rfl rfl) rfl ?_
   refine lst_run (run_eql_no rfl rfl (by omega)) rfl ?_
   refine lst_done ?_
   refine goes_false rfl ?_
   refine goes_skip ?_
   refine goes_seq ?_
   refine goes_region ?_
   refine lst_run (run_move (by conv=>lhs;whnf)) rfl ?_
   refine lst_enter (run_call (by kernel_rfl) (args_1 (by conv=>lhs;whnf))) rfl ?_
   refine Calls.mono (retry_any _ _ hinv2 (hs2 _ hS)) ?_
   rintro _ w9 ⟨rfl, hq⟩
   refine ⟨_, rfl, ?_⟩
   refine lst_run (run_assign (by conv=>lhs;whnf)) rfl ?_
   refine lst_done ?_
   refine goes_ret1 Tryd.func75 rfl (by conv=>lhs;whnf) ?_
   exact ⟨rfl, hq⟩
 | succ m =>
  obtain ⟨r0, r1, r2, r3, rs, rfl⟩ : ∃ r0 r1 r2 r3 rs', rs = [r0, r1, r2, r3] ++ rs' := by
   match rs, hrs with
   | r0 :: r1 :: r2 :: r3 :: rs', _ => exact ⟨r0, r1, r2, r3, rs', rfl⟩
   | [], h => simp at h
   | [_], h => simp at h; omega
   | [_, _], h => simp at h; omega
   | [_, _, _], h => simp at h; omega
  rw [varsM_succ] at hvm
  have hcall := ap_said 201 M w0 ((g, .cells (tcsL D' ++ ([r0, r1, r2, r3] ++ rs)).toArray 24) :: (d.O ++ (d.O2 ++ (d.O3 ++ H)))) F' b d.mb d.clk d.es d.TR (srest P pA pc vars s.fresh s.fuel (ptrOf d.gs) d.CH d.EV) d.O d.G ⟨0, (D'.len : Nat), ⟨#[]⟩, none, 0, .nil⟩ li
  rw [hok.hB, show (LT.mk 0 (D'.len : Nat) ⟨#[]⟩ none 0 .nil).tm = ⟨0, (D'.len : Nat), ⟨#[]⟩, .nil⟩ from rfl] at hcall
  have hz : Und F' (LRd ⟨0, (D'.len : Nat), ⟨#[]⟩, none, 0, .nil⟩) := fun w _ => ⟨Nat.le_refl _, fun h => by simp [TA.len] at h⟩
  cases hap : appM s.B 201 ⟨0, (D'.len : Nat), ⟨#[]⟩, .nil⟩ li with
  | none =>
   rw [hap, Option.bind_none, Option.map_none] at hvm
   have e : answerM vars s = (4, s) := by unfold answerM; rw [hvm]
   rw [e]
   rw [hap] at hcall
   refine goes_seq ?_
   refine goes_region ?_
   refine lst_run (run_lss_yes rfl rfl (by omega)) rfl ?_
   refine lst_done ?_
   refine goes_seq ?_
   refine goes_true rfl ?_
   refine goes_skip ?_
   refine goes_seq ?_
   refine goes_block ?_
   refine goes_seq ?_
   refine goes_region ?_
   refine lst_run (run_move (by conv=>lhs;whnf)) rfl ?_
   refine lst_run (run_assign (by conv=>lhs;whnf)) rfl ?_
   refine lst_done ?_
   refine goes_seq ?_
   refine goes_region ?_
   refine lst_run (run_assign (by conv=>lhs;whnf)) rfl ?_
   refine lst_done ?_
   refine goes_seq ?_
   refine goes_region ?_
   refine lst_run (run_move (by conv=>lhs;whnf)) rfl ?_
   refine lst_run (run_move (by conv=>lhs;whnf)) rfl ?_
   refine lst_run (run_move (by conv=>lhs;whnf)) rfl ?_
   refine lst_run (run_nilCheck rfl) rfl ?_
   refine lst_run (run_fieldAddr (off := 0) rfl rfl) rfl ?_
   refine lst_run (run_move (by conv=>lhs;whnf)) rfl ?_
   refine lst_run (run_build (cells := [_, _, _, _]) (.cons (by conv=>lhs;whnf) (.cons (by conv=>lhs;whnf) .nil)) rfl) rfl ?_
   refine lst_run (run_move (by conv=>lhs;whnf)) rfl ?_
   refine lst_enter (run_call (by kernel_rfl) (args_3 (by conv=>lhs;whnf) (by conv=>lhs;whnf) (by conv=>lhs;whnf))) rfl ?_
   refine Calls.mono (hcall _ hok'.bm (by rw [← hok.hB]; exact hsm) (by simp [Ts.nodes]) hz (by omega) (by omega) (hS.perm (List.perm_append_comm_assoc [_] [_, _] _))) ?_
   rintro _ w7 ⟨F2, hF2, rfl, hS'⟩
   refine ⟨_, rfl, ?_⟩
   replace hS := hS'
   clear hS'
   replace hS := hS.perm (List.perm_append_comm_assoc [_, _] [_] _)
   refine lst_run (run_move (by conv=>lhs;whnf)) rfl ?_
   refine lst_run (run_extract rfl rfl) rfl ?_
   refine lst_run (run_extract rfl rfl) rfl ?_
   refine lst_run (run_extract rfl rfl) rfl ?_
   refine lst_run (run_indexAddr (sz := 4) rfl rfl rfl rfl (by omega) (by omega)) rfl ?_
   refine lst_storeN hS rfl (by conv=>lhs;whnf) rfl rfl .head (putN_mid (tcsL D') [r0, r1, r2, r3] [.int .i64 0, .int .i64 0, .string ⟨#[]⟩, .slice none 0 0] rs _ (by omega) rfl) .head ?_
   clear hS
   intro w8 hS
   refine lst_run (run_assign (by conv=>lhs;whnf)) rfl ?_
   refine lst_run (run_assign (by conv=>lhs;whnf)) rfl ?_
   refine lst_done ?_
   refine goes_seq ?_
   refine goes_region ?_
   refine lst_run (run_move (by conv=>lhs;whnf)) rfl ?_
   refine lst_run (rfl) rfl ?_
   refine lst_done ?_
   refine goes_true rfl ?_
   refine goes_seq ?_
   refine goes_region ?_
   refine lst_run (run_assign (by conv=>lhs;whnf)) rfl ?_
   refine lst_done ?_
   refine goes_ret1 Tryd.func75 rfl (by conv=>lhs;whnf) ?_
   exact ⟨rfl, d, F2, fun φ h => hF2 φ (hFF' φ (hFF φ h)), hok'.mono hF2, hS.drop⟩
  | some p =>
   obtain ⟨p1, lp⟩ := p
   have hlp := app_nodes _ _ _ _ hap
   rw [hap, Option.bind_some] at hvm
   rw [hap] at hcall
   refine goes_seq ?_
   refine goes_region ?_
   refine lst_run (run_lss_yes rfl rfl (by omega)) rfl ?_
   refine lst_done ?_
   refine goes_seq ?_
   refine goes_true rfl ?_
   refine goes_skip ?_
   refine goes_seq ?_
   refine goes_block ?_
   refine goes_seq ?_
   refine goes_region ?_
   refine lst_run (run_move (by conv=>lhs;whnf)) rfl ?_
   refine lst_run (run_assign (by conv=>lhs;whnf)) rfl ?_
   refine lst_done ?_
   refine goes_seq ?_
   refine goes_region ?_
   refine lst_run (run_assign (by conv=>lhs;whnf)) rfl ?_
   refine lst_done ?_
   refine goes_seq ?_
   refine goes_region ?_
   refine lst_run (run_move (by conv=>lhs;whnf)) rfl ?_
   refine lst_run (run_move (by conv=>lhs;whnf)) rfl ?_
   refine lst_run (run_move (by conv=>lhs;whnf)) rfl ?_
   refine lst_run (run_nilCheck rfl) rfl ?_
   refine lst_run (run_fieldAddr (off := 0) rfl rfl) rfl ?_
   refine lst_run (run_move (by conv=>lhs;whnf)) rfl ?_
   refine lst_run (run_build (cells := [_, _, _, _]) (.cons (by conv=>lhs;whnf) (.cons (by conv=>lhs;whnf) .nil)) rfl) rfl ?_
   refine lst_run (run_move (by conv=>lhs;whnf)) rfl ?_
   refine lst_enter (run_call (by kernel_rfl) (args_3 (by conv=>lhs;whnf) (by conv=>lhs;whnf) (by conv=>lhs;whnf))) rfl ?_
   refine Calls.mono (hcall _ hok'.bm (by rw [← hok.hB]; exact hsm) (by simp [Ts.nodes]) hz (by omega) (by omega) (hS.perm (List.perm_append_comm_assoc [_] [_, _] _))) ?_
   rintro _ w7 ⟨F2, hF2, ⟨u2, hu2, hru2, rfl⟩, hS'⟩
   refine ⟨_, rfl, ?_⟩
   replace hS := hS'
   clear hS'
   replace hS := hS.perm (List.perm_append_comm_assoc [_, _] [_] _)
   refine lst_run (run_move (by conv=>lhs;whnf)) rfl ?_
   refine lst_run (run_extract rfl rfl) rfl ?_
   refine lst_run (run_extract rfl rfl) rfl ?_
   refine lst_run (run_extract rfl rfl) rfl ?_
   refine lst_run (run_indexAddr (sz := 4) rfl rfl rfl rfl (by omega) (by omega)) rfl ?_
   refine lst_storeN hS rfl (by conv=>lhs;whnf) rfl rfl .head (putN_mid (tcsL D') [r0, r1, r2, r3] (tcs u2) rs _ (by omega) rfl) .head ?_
   clear hS
   intro w8 hS
   refine lst_run (run_assign (by conv=>lhs;whnf)) rfl ?_
   refine lst_run (run_assign (by conv=>lhs;whnf)) rfl ?_
   refine lst_done ?_
   refine goes_seq ?_
   refine goes_region ?_
   refine lst_run (run_move (by conv=>lhs;whnf)) rfl ?_
   refine lst_run (rfl) rfl ?_
   refine lst_done ?_
   refine goes_false rfl ?_
   refine goes_skip ?_
   refine goes_inBlock ?_
   refine goes_region ?_
   refine lst_run (run_add rfl rfl (by omega) (by omega)) rfl ?_
   refine lst_run (run_move (by conv=>lhs;whnf)) rfl ?_
   refine lst_done ?_
   refine ih (m) _ _ _ _ ?_ ?_ (by conv=>lhs;whnf) (by conv=>lhs;whnf) (by kernel_rfl)
   ·omega
   ·refine ⟨D'.app (.cons u2.k u2.n u2.s u2.A u2.c u2.ar .nil), rs, lp, F2, by rw [TA.len_app]; simp only [TA.len]; omega, by simp at hrs; omega, by rw [TA.len_app]; rfl, rfl, by omega, ?_, fun φ h => hF2 φ (hFF' φ h), ?_, ?_⟩
    ·rw [hvm, Option.map_map, TA.app_ts, TA.len_app]
     congr 1
     funext q
     show (D'.ts.app (.cons p1.k p1.n p1.s p1.ar q.1), q.2) = ((D'.ts.app (.cons u2.k u2.n u2.s u2.ar.ts .nil)).app q.1, q.2)
     rw [← hu2, Ts.app_assoc]; rfl
    ·exact fun w hw => AllR.app (U := .cons u2.k u2.n u2.s u2.A u2.c u2.ar .nil) ⟨hru2 w hw, trivial⟩ ((hAR.mono hF2) w hw)
    ·rw [tcsL_app, List.append_assoc]
     exact hS
end
end Go.Proofs.YtehhgmeaggempaaDoor
namespace Go.Proofs.YtehhgmeaggempaaDoor
open Go.RowKit
set_option linter.unusedVariables false
set_option linter.unusedSimpArgs false
set_option maxRecDepth 100000
set_option maxHeartbeats 1000000
section
variable {M : List Nat} {w0 : World} {H : List (Nat × Obj)} {F0 : List (World → Prop)} {b : Nat} {P : List LC} {pA : Option Addr} {pc vars : Nat}
theorem sstep_any (s : SS) (w : World) (hI : Inv s) (hv8 : vars ≤ 8) (hev : s.ev.length < 12) (hp : pB (P.map LC.cl) = true) (hs : SSt M w0 H F0 b P pA pc vars s w) :
  Calls Tryd.prog 56 #[pt b] w fun e w' => e = .returned (.int .i64 (stepM (P.map LC.cl) vars s).1) ∧ SSt M w0 H F0 b P pA pc vars (stepM (P.map LC.cl) vars s).2 w' := by
 have hp2 : P.length ≤ 24 ∧ ∀ x ∈ P.map LC.cl, cB x = true := by
  unfold pB at hp
  simp only [Bool.and_eq_true, decide_eq_true_eq, List.all_eq_true, List.length_map] at hp
  exact hp
 obtain ⟨d, F, hFF, hok, hS⟩ := hs
 obtain ⟨G, mb, es, clk, TR, O, gs, cs, CH, O2, evs, EV, O3⟩ := d
 have hhg : glsOf gs = s.goals := hok.hg
 dsimp only at hS
 refine goes_enter1 Tryd.func56 rfl Tryd.ntmps56 rfl ?_
 cases gs with
 | nil =>
  have hg0 : s.goals = [] := hhg.symm
  have e : stepM (P.map LC.cl) vars s = answerM vars s := by unfold stepM; rw [hg0]
  rw [e]
  refine goes_seq ?_
  refine goes_region ?_
  refine lst_run (run_assign (by conv=>lhs;whnf)) rfl ?_
  refine lst_done ?_
  refine goes_seq ?_
  refine goes_seq ?_
  refine goes_region ?_
  refine lst_run (run_move (by conv=>lhs;whnf)) rfl ?_
  refine lst_run (run_nilCheck rfl) rfl ?_
  refine lst_run (run_fieldAddr (off := 6) rfl rfl) rfl ?_
  refine lst_run (run_load1_own hS rfl rfl (by exact .head) (by repeat constructor)) rfl ?_
  refine lst_run (run_eql_ptr_yes rfl rfl rfl) rfl ?_
  refine lst_done ?_
  refine goes_true rfl ?_
  refine goes_seq ?_
  refine goes_region ?_
  refine lst_run (run_move (by conv=>lhs;whnf)) rfl ?_
  refine lst_enter (run_call (by kernel_rfl) (args_1 (by conv=>lhs;whnf))) rfl ?_
  refine Calls.mono (answer_any s _ hI.c hv8 hev ⟨_, F, hFF, hok, hS⟩) ?_
  rintro _ w9 ⟨rfl, hq⟩
  refine ⟨_, rfl, ?_⟩
  refine lst_run (run_assign (by conv=>lhs;whnf)) rfl ?_
  refine lst_done ?_
  refine goes_ret1 Tryd.func56 rfl (by conv=>lhs;whnf) ?_
  exact ⟨rfl, hq⟩
 | cons g gs =>
  have hg1 : s.goals = (g.t.tm, g.o) :: glsOf gs := hhg.symm
  by_cases hf0 : s.fuel = 0
  ·have e : stepM (P.map LC.cl) vars s = (3, s) := by unfold stepM; rw [hg1]; simp only; rw [if_pos hf0]
   rw [e]
   refine goes_seq ?_
   refine goes_region ?_
   refine lst_run (run_assign (by conv=>lhs;whnf)) rfl ?_
   refine lst_done ?_
   refine goes_seq ?_
   refine goes_seq ?_
   refine goes_region ?_
   refine lst_run (run_move (by conv=>lhs;whnf)) rfl ?_
   refine lst_run (run_nilCheck rfl) rfl ?_
   refine lst_run (run_fieldAddr (off := 6) rfl rfl) rfl ?_
   refine lst_run (run_load1_own hS rfl rfl (by exact .head) (by repeat constructor)) rfl ?_
   refine lst_run (run_eql_ptr_no rfl rfl rfl) rfl ?_
   refine lst_done ?_
   refine goes_false rfl ?_
   refine goes_skip ?_
   refine goes_seq ?_
   refine goes_seq ?_
   refine goes_region ?_
   refine lst_run (run_move (by conv=>lhs;whnf)) rfl ?_
   refine lst_run (run_nilCheck rfl) rfl ?_
   refine lst_run (run_fieldAddr (off := 5) rfl rfl) rfl ?_
   refine lst_run (run_load1_own hS rfl rfl (by exact .head) (by repeat constructor)) rfl ?_
   refine lst_run (run_eql_yes rfl rfl (by omega)) rfl ?_
   refine lst_done ?_
   refine goes_true rfl ?_
   refine goes_seq ?_
   refine goes_region ?_
   refine lst_run (run_assign (by conv=>lhs;whnf)) rfl ?_
   refine lst_done ?_
   refine goes_ret1 Tryd.func56 rfl (by conv=>lhs;whnf) ?_
   exact ⟨rfl, _, F, hFF, hok, hS⟩
  obtain ⟨i1, i2, i3, i4, i5, i6, i7⟩ := popped_inv hI hg1 hf0
  have hfr := hI.c.fr
  have hbl := hI.c.bl
  unfold mu at hfr hbl
  have hrg : Und F (PR (g :: gs)) := hok.rg
  have hpc : ∀ {H'} w', St M w0 H' F w' → _ := fun w' hS => (hS.und hrg).cells
  have hst : stepM (P.map LC.cl) vars s = if builtB g.t.s.toList g.t.ar.ts.length = true then builtM (g.t.tm, g.o) ⟨s.B, s.fresh, s.fuel - 1, glsOf gs, s.ch, s.ev⟩ else match (P.map LC.cl).filter (fitsC g.t.tm) with
    | [] => (5, ⟨s.B, s.fresh, s.fuel - 1, glsOf gs, s.ch, s.ev⟩)
    | c :: cs => againM ⟨s.B, s.fresh, s.fuel - 1, glsOf gs, ⟨(g.t.tm, g.o), glsOf gs, c :: cs, s.B.length⟩ :: s.ch, s.ev⟩ := by
   conv => lhs; unfold stepM
   rw [hg1]
   simp only
   rw [if_neg hf0]
   rfl
  rw [TA.len_ts] at hst
  have hok2 : SOk P pA pc ⟨s.B, s.fresh, s.fuel - 1, glsOf gs, s.ch, s.ev⟩ ⟨G, mb, es, clk, TR, O, gs, cs, CH, O2, evs, EV, O3⟩ F := ⟨hok.bm, hok.hB, rfl, hrg.imp fun w h => h.2.2, hok.hc, hok.rc, hok.row2, hok.he, hok.re, hok.row3, hok.rp⟩
  have hfu : ((s.fuel : Nat) : Int) - 1 = ((s.fuel - 1 : Nat) : Int) := by omega
  refine goes_seq ?_
  refine goes_region ?_
  refine lst_run (run_assign (by conv=>lhs;whnf)) rfl ?_
  refine lst_done ?_
  refine goes_seq ?_
  refine goes_seq ?_
  refine goes_region ?_
  refine lst_run (run_move (by conv=>lhs;whnf)) rfl ?_
  refine lst_run (run_nilCheck rfl) rfl ?_
  refine lst_run (run_fieldAddr (off := 6) rfl rfl) rfl ?_
  refine lst_run (run_load1_own hS rfl rfl (by exact .head) (by repeat constructor)) rfl ?_
  refine lst_run (run_eql_ptr_no rfl rfl rfl) rfl ?_
  refine lst_done ?_
  refine goes_false rfl ?_
  refine goes_skip ?_
  refine goes_seq ?_
  refine goes_seq ?_
  refine goes_region ?_
  refine lst_run (run_move (by conv=>lhs;whnf)) rfl ?_
  refine lst_run (run_nilCheck rfl) rfl ?_
  refine lst_run (run_fieldAddr (off := 5) rfl rfl) rfl ?_
  refine lst_run (run_load1_own hS rfl rfl (by exact .head) (by repeat constructor)) rfl ?_
  refine lst_run (run_eql_no rfl rfl (by omega)) rfl ?_
  refine lst_done ?_
  refine goes_false rfl ?_
  refine goes_skip ?_
  refine goes_seq ?_
  refine goes_region ?_
  refine lst_run (run_move (by conv=>lhs;whnf)) rfl ?_
  refine lst_run (run_nilCheck rfl) rfl ?_
  refine lst_run (run_fieldAddr (off := 5) rfl rfl) rfl ?_
  refine lst_run (run_load1_own hS rfl rfl (by exact .head) (by repeat constructor)) rfl ?_
  refine lst_run (run_sub rfl rfl (by omega) (by omega)) rfl ?_
  refine lst_run (run_nilCheck rfl) rfl ?_
  refine lst_run (run_fieldAddr (off := 5) rfl rfl) rfl ?_
  refine lst_store1 hS rfl (by conv=>lhs;whnf) rfl rfl (by exact .head) (by repeat constructor) (by exact .head) ?_
  clear hS
  intro wx1 hS
  refine lst_done ?_
  refine goes_seq ?_
  refine goes_region ?_
  refine lst_run (run_move (by conv=>lhs;whnf)) rfl ?_
  refine lst_run (run_nilCheck rfl) rfl ?_
  refine lst_run (run_fieldAddr (off := 6) rfl rfl) rfl ?_
  refine lst_run (run_load1_own hS rfl rfl (by exact .head) (by repeat constructor)) rfl ?_
  refine lst_run (run_assign (by conv=>lhs;whnf)) rfl ?_
  refine lst_done ?_
  refine goes_seq ?_
  refine goes_region ?_
  refine lst_run (run_move (by conv=>lhs;whnf)) rfl ?_
  refine lst_run (run_move (by conv=>lhs;whnf)) rfl ?_
  refine lst_run (run_nilCheck rfl) rfl ?_
  refine lst_run (run_fieldAddr (off := 5) rfl rfl) rfl ?_
  refine lst_run (run_load1 rfl rfl (by exact (hpc _ hS).2.2.2.2.2)) rfl ?_
  refine lst_run (run_nilCheck rfl) rfl ?_
  refine lst_run (run_fieldAddr (off := 6) rfl rfl) rfl ?_
  refine lst_store1 hS rfl (by conv=>lhs;whnf) rfl rfl (by exact .head) (by repeat constructor) (by exact .head) ?_
  clear hS
  intro wx2 hS
  refine lst_done ?_
  refine goes_seq ?_
  refine goes_seq ?_
  refine goes_region ?_
  refine lst_run (run_move (by conv=>lhs;whnf)) rfl ?_
  refine lst_run (run_nilCheck rfl) rfl ?_
  refine lst_run (run_fieldAddr (off := 0) rfl rfl) rfl ?_
  refine lst_run (run_load4 rfl rfl rfl (by exact (hpc _ hS).1) (by exact (hpc _ hS).2.1) (by exact (hpc _ hS).2.2.1) (by exact (hpc _ hS).2.2.2.1)) rfl ?_
  rw [hfu] at hS
  refine lst_enter (run_call (by kernel_rfl) (args_1 (by conv=>lhs;whnf))) rfl ?_
  refine Calls.mono (builtin_any g.t.k g.t.n g.t.s g.t.A g.t.ar.len g.t.c _) ?_
  rintro _ w5 ⟨rfl, hb5⟩
  refine ⟨_, rfl, ?_⟩
  replace hS := hS.grow hb5
  have hs2 : St M w0 ((b, sob mb TR (srest P pA pc vars s.fresh (s.fuel - 1) (ptrOf gs) CH EV)) :: (mb, .map es clk) :: (O ++ (O2 ++ (O3 ++ H)))) F w5 := hS
  clear hS
  have hS := hs2
  clear hs2
  cases hbt : builtB g.t.s.toList g.t.ar.len with
  | true =>
   rw [if_pos hbt] at hst
   rw [hst]
   refine lst_done ?_
   refine goes_true rfl ?_
   refine goes_seq ?_
   refine goes_region ?_
   refine lst_run (run_move (by conv=>lhs;whnf)) rfl ?_
   refine lst_run (run_move (by conv=>lhs;whnf)) rfl ?_
   refine lst_enter (run_call (by kernel_rfl) (args_2 (by conv=>lhs;whnf) (by conv=>lhs;whnf))) rfl ?_
   refine Calls.mono (builtin_r _ g gs _ i1 i2 i6 i5 hbt hrg hFF hok2 hS) ?_
   rintro _ w9 ⟨rfl, hq⟩
   refine ⟨_, rfl, ?_⟩
   refine lst_run (run_assign (by conv=>lhs;whnf)) rfl ?_
   refine lst_done ?_
   refine goes_ret1 Tryd.func56 rfl (by conv=>lhs;whnf) ?_
   exact ⟨rfl, hq⟩
  | false =>
   rw [if_neg (by rw [hbt]; decide)] at hst
   rw [hst, ← fitL_eq]
   refine lst_done ?_
   refine goes_false rfl ?_
   refine goes_skip ?_
   refine goes_seq ?_
   refine goes_region ?_
   refine lst_run (run_move (by conv=>lhs;whnf)) rfl ?_
   refine lst_run (run_move (by conv=>lhs;whnf)) rfl ?_
   refine lst_run (run_nilCheck rfl) rfl ?_
   refine lst_run (run_fieldAddr (off := 0) rfl rfl) rfl ?_
   refine lst_run (run_load4 rfl rfl rfl (by exact (hpc _ hS).1) (by exact (hpc _ hS).2.1) (by exact (hpc _ hS).2.2.1) (by exact (hpc _ hS).2.2.2.1)) rfl ?_
   refine lst_enter (run_call (by kernel_rfl) (args_2 (by conv=>lhs;whnf) (by conv=>lhs;whnf))) rfl ?_
   refine Calls.mono (matching_any P pA pc g.t _ hok.rp hp2.1 hS) ?_
   rintro _ w6 ⟨cA, cc, F2, rfl, hF2, hcl, hS'⟩
   refine ⟨_, rfl, ?_⟩
   replace hS := hS'
   clear hS'
   have hfl := List.length_filter_le (fitL g.t) P
   have hsubP : ∀ x ∈ P.filter (fitL g.t), x ∈ P := fun x hx => (List.mem_filter.1 hx).1
   generalize P.filter (fitL g.t) = L at *
   cases L with
   | nil =>
    refine lst_run (run_assign (by conv=>lhs;whnf)) rfl ?_
    refine lst_done ?_
    refine goes_seq ?_
    refine goes_seq ?_
    refine goes_region ?_
    refine lst_run (run_move (by conv=>lhs;whnf)) rfl ?_
    refine lst_run (run_len_slice rfl rfl rfl) rfl ?_
    refine lst_run (run_eql_one_int rfl rfl) rfl ?_
    refine lst_done ?_
    refine goes_true rfl ?_
    refine goes_seq ?_
    refine goes_region ?_
    refine lst_run (run_assign (by conv=>lhs;whnf)) rfl ?_
    refine lst_done ?_
    refine goes_ret1 Tryd.func56 rfl (by conv=>lhs;whnf) ?_
    exact ⟨rfl, _, F2, fun φ h => hF2 φ (hFF φ h), hok2.mono hF2, hS⟩
   | cons c0 cs0 =>
    have hok3 := hok2.mono hF2
    have hrow2 : Row 130 3 CH cs.length (chL cs.reverse) O2 := hok.row2
    have hlc : cs.length = s.ch.length := by rw [← hok.hc]; simp
    have hcl2 := hI.c.ch.len
    obtain ⟨A1, c1, hTR⟩ := hok.bm.row.form
    dsimp only at hTR
    subst hTR
    have hbl2 : G.length = s.B.length := by rw [← hok.hB]; exact (bnd_len G).symm
    have hp3 := push_inv (c := c0.cl) (cs := cs0.map LC.cl) hI hg1 hf0 (fun x hx => by
     have : x ∈ (c0 :: cs0).map LC.cl := hx
     obtain ⟨y, hy, rfl⟩ := List.mem_map.1 this
     exact hp2.2 _ (List.mem_map.2 ⟨y, hsubP y hy, rfl⟩)) (by simp at hfl ⊢; omega)
    refine lst_run (run_assign (by conv=>lhs;whnf)) rfl ?_
    refine lst_done ?_
    refine goes_seq ?_
    refine goes_seq ?_
    refine goes_region ?_
    refine lst_run (run_move (by conv=>lhs;whnf)) rfl ?_
    refine lst_run (run_len_slice rfl rfl rfl) rfl ?_
    refine lst_run (rfl) rfl ?_
    refine lst_done ?_
    refine goes_false rfl ?_
    refine goes_skip ?_
    refine goes_seq ?_
    refine goes_draw (St _ w0 [_] []) 18 ((0, true) :: (1, true) :: (2, true) :: (3, true) :: (4, true) :: (5, true) :: (6, true) :: (7, true) :: (8, true) :: (9, true) :: (10, true) :: (11, true) :: (12, true) :: (13, true) :: (14, false) :: (15, false) :: (16, true) :: (17, true) :: []) (by kernel_rfl) (by kernel_rfl) (hS.drew.bare1) ?_
    replace hS := hS.drew
    refine ord_read rfl (fun _ hS => run_move (by conv=>lhs;whnf)) rfl ?_
    refine ord_read rfl (fun _ hS => run_move (by conv=>lhs;whnf)) rfl ?_
    refine ord_read rfl (fun _ hS => run_nilCheck rfl) rfl ?_
    refine ord_read rfl (fun _ hS => run_fieldAddr (off := 7) rfl rfl) rfl ?_
    refine ord_read rfl (fun _ hS => run_load1_own hS rfl rfl (by exact .head) (by repeat constructor)) rfl ?_
    refine ord_read rfl (fun _ hS => run_move (by conv=>lhs;whnf)) rfl ?_
    refine ord_read rfl (fun _ hS => run_move (by conv=>lhs;whnf)) rfl ?_
    refine ord_read rfl (fun _ hS => run_move (by conv=>lhs;whnf)) rfl ?_
    refine ord_read rfl (fun _ hS => run_nilCheck rfl) rfl ?_
    refine ord_read rfl (fun _ hS => run_fieldAddr (off := 0) rfl rfl) rfl ?_
    refine ord_read rfl (fun _ hS => run_fieldAddr (off := 1) rfl rfl) rfl ?_
    refine ord_read rfl (fun _ hS => run_load1_own hS rfl rfl (by exact .head) (by repeat constructor)) rfl ?_
    refine ord_read rfl (fun _ hS => run_len_slice rfl rfl rfl) rfl ?_
    refine ord_read rfl (fun _ hS => run_build (cells := [_, _, _]) (.cons (by conv=>lhs;whnf) (.cons (by conv=>lhs;whnf) (.cons (by conv=>lhs;whnf) .nil))) rfl) rfl ?_
    refine ord_act rfl ?_
    refine lst_buildSlice (cells := [_, _, _]) hS (.cons (by conv=>lhs;whnf) .nil) rfl rfl ?_
    clear hS
    intro b1 wx3 hS
    refine lst_ord (by exact hS.drop.bare1) ?_
    refine ord_act rfl ?_
    refine lst_app (sz := 3) (bts := 40) hS (by conv=>lhs;whnf) rfl rfl rfl rfl (hrow2) rfl rfl (.cons _ (perm_out2 [_, _] _ _ _)) (by omega) (by omega) rfl ?_
    clear hS
    intro v8 O8 w9 hrow8 hS
    obtain ⟨A8, c8, rfl⟩ := hrow8.form
    replace hS := hS.perm (perm_out2 [_, _] _ _ _).symm
    refine lst_ord (by exact hS.bare1) ?_
    refine ord_read rfl (fun _ hS => run_nilCheck rfl) rfl ?_
    refine ord_read rfl (fun _ hS => run_fieldAddr (off := 7) rfl rfl) rfl ?_
    refine ord_end ?_
    refine lst_store1 hS rfl (by conv=>lhs;whnf) rfl rfl (by exact .head) (by repeat constructor) (by exact .head) ?_
    clear hS
    intro wx4 hS
    refine lst_done ?_
    refine goes_seq ?_
    refine goes_region ?_
    refine lst_run (run_move (by conv=>lhs;whnf)) rfl ?_
    have hs3 : ∀ w', St M w0 ((b, sob mb (.slice A1 G.length c1) (srest P pA pc vars s.fresh (s.fuel - 1) (ptrOf gs) (.slice A8 (cs.length + 1) c8) EV)) :: (mb, .map es clk) :: (O ++ (O8 ++ (O3 ++ H)))) F2 w' → SSt M w0 H F0 b P pA pc vars ⟨s.B, s.fresh, s.fuel - 1, glsOf gs, ⟨(g.t.tm, g.o), glsOf gs, (c0 :: cs0).map LC.cl, s.B.length⟩ :: s.ch, s.ev⟩ w' := fun w' hS => by
     refine ⟨⟨G, mb, es, clk, .slice A1 G.length c1, O, gs, ⟨g, gs, cA, cc, c0 :: cs0, G.length⟩ :: cs, .slice A8 (cs.length + 1) c8, O8, evs, EV, O3⟩, F2, fun φ h => hF2 φ (hFF φ h), ?_, hS⟩
     refine ⟨hok3.bm, hok3.hB, hok3.hg, hok3.rg, ?_, ?_, ?_, hok3.he, hok3.re, hok3.row3, hok3.rp⟩
     ·show LCh.ch ⟨g, gs, cA, cc, c0 :: cs0, G.length⟩ :: cs.map LCh.ch = _
      rw [show cs.map LCh.ch = s.ch from hok.hc, ← hbl2]; rfl
     ·intro c hc
      rcases List.mem_cons.1 hc with rfl | hc
      ·exact fun w hw => ⟨hrg.mono hF2 w hw, hcl w hw⟩
      ·exact hok3.rc c hc
     ·show Row _ _ _ (cs.length + 1) (chL (LCh.mk g gs cA cc (c0 :: cs0) G.length :: cs).reverse) _
      rw [List.reverse_cons, chL_app]; exact hrow8
    refine lst_enter (run_call (by kernel_rfl) (args_1 (by conv=>lhs;whnf))) rfl ?_
    refine Calls.mono (retry_any _ _ hp3.1 (hs3 _ hS)) ?_
    rintro _ w10 ⟨rfl, hq⟩
    refine ⟨_, rfl, ?_⟩
    refine lst_run (run_assign (by conv=>lhs;whnf)) rfl ?_
    refine lst_done ?_
    refine goes_ret1 Tryd.func56 rfl (by conv=>lhs;whnf) ?_
    exact ⟨rfl, hq⟩
end
end Go.Proofs.YtehhgmeaggempaaDoor
namespace Go.Proofs.YtehhgmeaggempaaDoor
open Go.RowKit
set_option linter.unusedVariables false
set_option linter.unusedSimpArgs false
set_option maxRecDepth 100000
set_option maxHeartbeats 1000000
structure KE where
 k : Int
 A : Option Addr
 c : Nat
 T : TA
def KE.ev (x : KE) : Ev := (x.k, x.T.ts)
abbrev kecs (x : KE) : List Value := [.int .i64 x.k, .slice x.A x.T.len x.c]
def keL : List KE → List Value
 | [] => []
 | x :: r => kecs x ++ keL r
theorem keL_app (a b : List KE) : keL (a ++ b) = keL a ++ keL b := by
 induction a with
 | nil => rfl
 | cons c r ih => simp [keL, ih]
theorem evL_ke (l : List LE) : evL l = keL (l.map fun e => ⟨1, e.A, e.c, e.T⟩) := by
 induction l with
 | nil => rfl
 | cons c r ih => simp [evL, keL, ih]
def KEAt (w : World) (b : Nat) : List KE → Nat → Prop
 | [], _ => True
 | x :: r, o => w.cell? ⟨b, o, none⟩ = some (.int .i64 x.k) ∧ w.cell? ⟨b, o + 1, none⟩ = some (.slice x.A x.T.len x.c) ∧ KEAt w b r (o + 2)
def KER (L : List KE) (A : Option Addr) (c : Nat) (w : World) : Prop := L.length ≤ c ∧ (0 < L.length → ∃ b o, A = some ⟨b, o, none⟩ ∧ KEAt w b L o) ∧ ∀ x ∈ L, ArA x.A x.c x.T w
theorem KEAt.skip {w : World} {b : Nat} {R : List KE} : ∀ {D : List KE} {o : Nat}, KEAt w b (D ++ R) o → KEAt w b R (o + D.length * 2)
 | [], o, h => by simpa using h
 | c :: D, o, ⟨_, _, h⟩ => by
  have := KEAt.skip (R := R) (D := D) h
  rwa [show o + 2 + D.length * 2 = o + (c :: D).length * 2 by simp; omega] at this
theorem KER.some_ {L : List KE} {A : Option Addr} {c : Nat} {w : World} (h : KER L A c w) (hl : 0 < L.length) : ∃ b o, A = some ⟨b, o, none⟩ := by
 obtain ⟨b, o, e, _⟩ := h.2.1 hl
 exact ⟨b, o, e⟩
theorem KER.cells {D R : List KE} {x : KE} {b o c : Nat} {w : World} (h : KER (D ++ x :: R) (some ⟨b, o, none⟩) c w) : w.cell? ⟨b, o + D.length * 2, none⟩ = some (.int .i64 x.k) ∧ w.cell? ⟨b, o + D.length * 2 + 1, none⟩ = some (.slice x.A x.T.len x.c) := by
 obtain ⟨b', o', e, hs⟩ := h.2.1 (by simp; omega)
 simp only [Option.some.injEq, Addr.mk.injEq, and_true] at e
 obtain ⟨rfl, rfl⟩ := e
 obtain ⟨h0, h1, _⟩ := hs.skip
 exact ⟨h0, h1⟩
theorem keAt_of {w : World} {b : Nat} : ∀ {L : List KE} {o : Nat}, (∀ j u, (keL L)[j]? = some u → w.cell? ⟨b, o + j, none⟩ = some u) → KEAt w b L o
 | [], _, _ => trivial
 | c :: r, o, h => ⟨h 0 _ rfl, h 1 _ rfl, keAt_of fun j u hu => by
     rw [show o + 2 + j = o + (j + 2) by omega]
     exact h (j + 2) u (by simpa [keL] using hu)⟩
theorem St.freezeK {M : List Nat} {w0 w : World} {H O : List (Nat × Obj)} {F : List (World → Prop)} {el : Nat} {A : Option Addr} {c : Nat} {L : List KE} (hr : Row el 2 (.slice A L.length c) L.length (keL L) O) (hR : ∀ x ∈ L, Und F (ArA x.A x.c x.T)) (hS : St M w0 (O ++ H) F w) :
  ∃ F', (∀ φ ∈ F, φ ∈ F') ∧ Und F' (KER L A c) ∧ St M w0 H F' w := by
 obtain ⟨F', h1, h2, h3⟩ := St.freezeL hS
 refine ⟨F', h1, fun w' hw' => ⟨hr.cap, fun hl => ?_, fun x hx => (hR x hx).mono h1 w' hw'⟩, h3⟩
 obtain ⟨g, sp, rfl, rfl, _⟩ := hr.some_ hl
 refine ⟨g, 0, rfl, keAt_of fun j u hu => ?_⟩
 have hjl : j < (keL L).length := by
  rcases Nat.lt_or_ge j (keL L).length with hh | hh
  ·exact hh
  ·rw [List.getElem?_eq_none hh] at hu; cases hu
 rw [cell_own (h2 _ (.head _) w' hw'), Nat.zero_add, List.getElem?_append_left hjl]; exact hu
section
variable {M : List Nat} {w0 : World} {H : List (Nat × Obj)} {F : List (World → Prop)}
theorem newSearch_any (P : List LC) (pA : Option Addr) (pc : Nat) (q : TA) (qA : Option Addr) (qc : Nat) (vars fuel : Nat) (w : World) (hP : Und F (ClsR P pA pc)) (hq : Und F (ArA qA qc q)) (hn : q.ts.nodes < 1048576) (hS : St M w0 H F w) :
  Calls Tryd.prog 55 #[.slice pA P.length pc, .slice qA q.len qc, .int .i64 (vars : Nat), .int .i64 (fuel : Nat)] w fun e w' => ∃ b, e = .returned (pt b) ∧ SSt M w0 H F b P pA pc vars (startM q.ts vars fuel) w' := by
 refine goes_enter4 Tryd.func55 rfl Tryd.ntmps55 rfl ?_
 refine goes_seq ?_
 refine goes_region ?_
 refine lst_run (run_assign (by conv=>lhs;whnf)) rfl ?_
 refine lst_done ?_
 refine goes_seq ?_
 refine goes_region ?_
 refine lst_makeMap hS rfl ?_
 clear hS
 intro mb w2 hS
 refine lst_run (run_build (cells := [_, _]) (.cons (by conv=>lhs;whnf) .nil) rfl) rfl ?_
 refine lst_run (run_move (by conv=>lhs;whnf)) rfl ?_
 refine lst_run (run_move (by conv=>lhs;whnf)) rfl ?_
 refine lst_run (run_move (by conv=>lhs;whnf)) rfl ?_
 refine lst_run (run_move (by conv=>lhs;whnf)) rfl ?_
 refine lst_run (run_move (by conv=>lhs;whnf)) rfl ?_
 refine lst_enter (run_call (by kernel_rfl) (args_4 (by conv=>lhs;whnf) (by conv=>lhs;whnf) (by conv=>lhs;whnf) (by conv=>lhs;whnf))) rfl ?_
 refine Calls.mono (before_any q qA qc 0 0 [] _ hq hn (fun _ _ => trivial) hS) ?_
 rintro _ w3 ⟨gs, F2, rfl, hgs, hF2, hrg, hS'⟩
 refine ⟨_, rfl, ?_⟩
 replace hS := hS'
 clear hS'
 refine lst_run (run_build (cells := [_, _, _, _, _, _, _, _, _]) (.cons (by conv=>lhs;whnf) (.cons (by conv=>lhs;whnf) (.cons (by conv=>lhs;whnf) (.cons (by conv=>lhs;whnf) (.cons (by conv=>lhs;whnf) (.cons (by conv=>lhs;whnf) .nil)))))) rfl) rfl ?_
 refine lst_box hS rfl rfl ?_
 clear hS
 intro b1 wx1 hS
 refine lst_run (run_assign (by conv=>lhs;whnf)) rfl ?_
 refine lst_done ?_
 refine goes_ret1 Tryd.func55 rfl (by conv=>lhs;whnf) ?_
 refine ⟨b1, rfl, ⟨[], mb, #[], 0, .slice none 0 0, [], gs, [], .slice none 0 0, [], [], .slice none 0 0, []⟩, F2, hF2, ?_, hS⟩
 exact ⟨⟨rfl, Row.nil_, fun _ _ x hx => (by cases hx), trivial⟩, rfl, hgs, hrg, rfl, fun _ h => (by cases h), Row.nil_, rfl, fun _ h => (by cases h), Row.nil_, hP.mono hF2⟩
theorem runM_succ (p : List Cl) (vars n : Nat) (s : SS) : runM p vars (n + 1) s = if (stepM p vars s).1 = 0 then runM p vars n (stepM p vars s).2 else evsOf (stepM p vars s).2.ev ++ [((stepM p vars s).1, .nil)] := rfl
theorem all_any (P : List LC) (pA : Option Addr) (pc : Nat) (q : TA) (qA : Option Addr) (qc : Nat) (vars fuel : Int) (w : World) (hP : Und F (ClsR P pA pc)) (hq : Und F (ArA qA qc q))
  (hgp : ∀ w', St M w0 H F w' → Calls Tryd.prog 23 #[.slice pA P.length pc] w' fun e w'' => e = .returned (.bool (pB (P.map LC.cl))) ∧ Below w'.heap.size w' w'')
  (hgq : ∀ w', St M w0 H F w' → Calls Tryd.prog 20 #[.slice qA q.len qc, .int .i64 vars] w' fun e w'' => e = .returned (.bool (qB vars q.ts)) ∧ Below w'.heap.size w' w'') (hS : St M w0 H F w) :
  Calls Tryd.prog 34 #[.slice pA P.length pc, .slice qA q.len qc, .int .i64 vars, .int .i64 fuel] w fun e w' => ∃ (A : Option Addr) (c : Nat) (L : List KE) (F' : List (World → Prop)), e = .returned (.tuple #[.slice A L.length c, .int .i64 (allM (P.map LC.cl) q.ts vars fuel).2]) ∧ L.map KE.ev = (allM (P.map LC.cl) q.ts vars fuel).1 ∧ (∀ φ ∈ F, φ ∈ F') ∧ Und F' (KER L A c) ∧ St M w0 H F' w' := by
 have hnil : ∀ w : World, KER [] none 0 w := fun w => ⟨Nat.le_refl _, fun h => by simp at h, fun x hx => by cases hx⟩
 have hall : allM (P.map LC.cl) q.ts vars fuel = if pB (P.map LC.cl) = false ∨ qB vars q.ts = false then ([], 1) else if fuel < 0 ∨ 150 < fuel then ([], 2) else (runM (P.map LC.cl) vars.toNat 4000 (startM q.ts vars.toNat fuel.toNat), 0) := rfl
 refine goes_enter4 Tryd.func34 rfl Tryd.ntmps34 rfl ?_
 refine goes_seq ?_
 refine goes_region ?_
 refine lst_run (run_assign (by conv=>lhs;whnf)) rfl ?_
 refine lst_run (run_assign (by conv=>lhs;whnf)) rfl ?_
 refine lst_done ?_
 refine goes_seq ?_
 refine goes_seq ?_
 refine goes_region ?_
 refine lst_run (run_move (by conv=>lhs;whnf)) rfl ?_
 refine lst_enter (run_call (by kernel_rfl) (args_1 (by conv=>lhs;whnf))) rfl ?_
 refine Calls.mono (hgp _ hS) ?_
 rintro _ w3 ⟨rfl, hb3⟩
 refine ⟨_, rfl, ?_⟩
 replace hS := hS.grow hb3
 cases hpB : pB (P.map LC.cl) with
 | false =>
  rw [if_pos (.inl hpB)] at hall
  rw [hall]
  refine lst_run (rfl) rfl ?_
  refine lst_run (run_move (by conv=>lhs;whnf)) rfl ?_
  refine lst_pass rfl rfl rfl ?_
  refine lst_pass rfl rfl rfl ?_
  refine lst_pass rfl rfl rfl ?_
  refine lst_pass rfl rfl rfl ?_
  refine lst_run (run_pick_t rfl (by conv=>lhs;whnf)) rfl ?_
  refine lst_done ?_
  refine goes_true rfl ?_
  refine goes_seq ?_
  refine goes_region ?_
  refine lst_run (run_assign (by conv=>lhs;whnf)) rfl ?_
  refine lst_run (run_assign (by conv=>lhs;whnf)) rfl ?_
  refine lst_done ?_
  refine goes_ret2 Tryd.func34 rfl (by conv=>lhs;whnf) (by conv=>lhs;whnf) ?_
  exact ⟨none, 0, [], F, rfl, rfl, fun _ h => h, fun w _ => hnil w, hS⟩
 | true =>
 refine lst_run (rfl) rfl ?_
 refine lst_run (run_move (by conv=>lhs;whnf)) rfl ?_
 refine lst_guard rfl rfl ?_
 refine lst_run (run_move (by conv=>lhs;whnf)) rfl ?_
 refine lst_guard rfl rfl ?_
 refine lst_run (run_move (by conv=>lhs;whnf)) rfl ?_
 refine lst_guard rfl rfl ?_
 refine lst_enter (run_call (by kernel_rfl) (args_2 (by conv=>lhs;whnf) (by conv=>lhs;whnf))) rfl ?_
 refine Calls.mono (hgq _ hS) ?_
 rintro _ w4 ⟨rfl, hb4⟩
 refine ⟨_, rfl, ?_⟩
 replace hS := hS.grow hb4
 cases hqB : qB vars q.ts with
 | false =>
  rw [if_pos (.inr hqB)] at hall
  rw [hall]
  refine lst_guard rfl rfl ?_
  refine lst_run (rfl) rfl ?_
  refine lst_run (run_pick_f rfl (by conv=>lhs;whnf)) rfl ?_
  refine lst_done ?_
  refine goes_true rfl ?_
  refine goes_seq ?_
  refine goes_region ?_
  refine lst_run (run_assign (by conv=>lhs;whnf)) rfl ?_
  refine lst_run (run_assign (by conv=>lhs;whnf)) rfl ?_
  refine lst_done ?_
  refine goes_ret2 Tryd.func34 rfl (by conv=>lhs;whnf) (by conv=>lhs;whnf) ?_
  exact ⟨none, 0, [], F, rfl, rfl, fun _ h => h, fun w _ => hnil w, hS⟩
 | true =>
 rw [if_neg (by rw [hpB, hqB]; simp)] at hall
 by_cases hf1 : fuel < 0
 ·rw [if_pos (.inl hf1)] at hall
  rw [hall]
  refine lst_guard rfl rfl ?_
  refine lst_run (rfl) rfl ?_
  refine lst_run (run_pick_f rfl (by conv=>lhs;whnf)) rfl ?_
  refine lst_done ?_
  refine goes_false rfl ?_
  refine goes_skip ?_
  refine goes_seq ?_
  refine goes_seq ?_
  refine goes_region ?_
  refine lst_run (run_move (by conv=>lhs;whnf)) rfl ?_
  refine lst_run (run_lss_yes rfl rfl (by omega)) rfl ?_
  refine lst_run (run_move (by conv=>lhs;whnf)) rfl ?_
  refine lst_pass rfl rfl rfl ?_
  refine lst_pass rfl rfl rfl ?_
  refine lst_run (run_pick_t rfl (by conv=>lhs;whnf)) rfl ?_
  refine lst_done ?_
  refine goes_true rfl ?_
  refine goes_seq ?_
  refine goes_region ?_
  refine lst_run (run_assign (by conv=>lhs;whnf)) rfl ?_
  refine lst_run (run_assign (by conv=>lhs;whnf)) rfl ?_
  refine lst_done ?_
  refine goes_ret2 Tryd.func34 rfl (by conv=>lhs;whnf) (by conv=>lhs;whnf) ?_
  exact ⟨none, 0, [], F, rfl, rfl, fun _ h => h, fun w _ => hnil w, hS⟩
 by_cases hf2 : 150 < fuel
 ·rw [if_pos (.inr hf2)] at hall
  rw [hall]
  refine lst_guard rfl rfl ?_
  refine lst_run (rfl) rfl ?_
  refine lst_run (run_pick_f rfl (by conv=>lhs;whnf)) rfl ?_
  refine lst_done ?_
  refine goes_false rfl ?_
  refine goes_skip ?_
  refine goes_seq ?_
  refine goes_seq ?_
  refine goes_region ?_
  refine lst_run (run_move (by conv=>lhs;whnf)) rfl ?_
  refine lst_run (run_lss_no rfl rfl (by omega)) rfl ?_
  refine lst_run (run_move (by conv=>lhs;whnf)) rfl ?_
  refine lst_guard rfl rfl ?_
  refine lst_run (run_move (by conv=>lhs;whnf)) rfl ?_
  refine lst_guard rfl rfl ?_
  refine lst_run (run_gtr_yes rfl rfl (by omega)) rfl ?_
  refine lst_run (run_pick_f rfl (by conv=>lhs;whnf)) rfl ?_
  refine lst_done ?_
  refine goes_true rfl ?_
  refine goes_seq ?_
  refine goes_region ?_
  refine lst_run (run_assign (by conv=>lhs;whnf)) rfl ?_
  refine lst_run (run_assign (by conv=>lhs;whnf)) rfl ?_
  refine lst_done ?_
  refine goes_ret2 Tryd.func34 rfl (by conv=>lhs;whnf) (by conv=>lhs;whnf) ?_
  exact ⟨none, 0, [], F, rfl, rfl, fun _ h => h, fun w _ => hnil w, hS⟩
 rw [if_neg (by rintro (h | h) <;> contradiction)] at hall
 obtain ⟨fuel, rfl⟩ : ∃ f : Nat, fuel = f := ⟨fuel.toNat, by omega⟩
 have hqB2 := hqB
 simp only [qB, Bool.and_eq_true, decide_eq_true_eq] at hqB2
 obtain ⟨vars, rfl⟩ : ∃ v : Nat, vars = v := ⟨vars.toNat, by omega⟩
 simp only [Int.toNat_natCast] at hall
 obtain ⟨hsi, hsm⟩ := start_inv hqB (fuel := fuel) (by omega)
 have hnq : q.ts.nodes < 1048576 := by have := goals_nodes _ hqB2.2; omega
 rw [hall]
 generalize hR0 : runM (P.map LC.cl) vars 4000 (startM q.ts vars fuel) = R0
 refine lst_guard rfl rfl ?_
 refine lst_run (rfl) rfl ?_
 refine lst_run (run_pick_f rfl (by conv=>lhs;whnf)) rfl ?_
 refine lst_done ?_
 refine goes_false rfl ?_
 refine goes_skip ?_
 refine goes_seq ?_
 refine goes_seq ?_
 refine goes_region ?_
 refine lst_run (run_move (by conv=>lhs;whnf)) rfl ?_
 refine lst_run (run_lss_no rfl rfl (by omega)) rfl ?_
 refine lst_run (run_move (by conv=>lhs;whnf)) rfl ?_
 refine lst_guard rfl rfl ?_
 refine lst_run (run_move (by conv=>lhs;whnf)) rfl ?_
 refine lst_guard rfl rfl ?_
 refine lst_run (run_gtr_no rfl rfl (by omega)) rfl ?_
 refine lst_run (run_pick_f rfl (by conv=>lhs;whnf)) rfl ?_
 refine lst_done ?_
 refine goes_false rfl ?_
 refine goes_skip ?_
 refine goes_seq ?_
 refine goes_region ?_
 refine lst_run (run_move (by conv=>lhs;whnf)) rfl ?_
 refine lst_run (run_move (by conv=>lhs;whnf)) rfl ?_
 refine lst_run (run_move (by conv=>lhs;whnf)) rfl ?_
 refine lst_run (run_move (by conv=>lhs;whnf)) rfl ?_
 refine lst_enter (run_call (by kernel_rfl) (args_4 (by conv=>lhs;whnf) (by conv=>lhs;whnf) (by conv=>lhs;whnf) (by conv=>lhs;whnf))) rfl ?_
 refine Calls.mono (newSearch_any P pA pc q qA qc vars fuel _ hP hq hnq hS) ?_
 rintro _ w5 ⟨b, rfl, hs⟩
 refine ⟨_, rfl, ?_⟩
 clear hS
 refine lst_run (run_assign (by conv=>lhs;whnf)) rfl ?_
 refine lst_done ?_
 refine goes_seq ?_
 refine goes_region ?_
 refine lst_run (run_assign (by conv=>lhs;whnf)) rfl ?_
 refine lst_done ?_
 refine goes_seq ?_
 refine goes_block ?_
 refine goes_loop1 11 (32 :: 33 :: 34 :: 35 :: []) (fun (x : Nat × SS × Int) v w' => v = .int .i64 x.2.2 ∧ SSt M w0 H F b P pA pc vars x.2.1 w' ∧ (x.2.2 = 0 → Inv x.2.1 ∧ x.2.1.ev.length < 12 ∧ mu x.2.1 < x.1 ∧ R0 = runM (P.map LC.cl) vars x.1 x.2.1) ∧ (x.2.2 ≠ 0 → R0 = evsOf x.2.1.ev ++ [(x.2.2, .nil)]) ∧ x.2.1.ev.length ≤ 12) (fun x => if x.2.2 = 0 then mu x.2.1 + 1 else 0) ((4000, startM q.ts vars fuel, 0)) ?_ (by conv=>lhs;whnf) ?_
 ·exact ⟨rfl, hs, fun _ => ⟨hsi, by simp [startM], by show mu (startM q.ts vars fuel) < 4000; omega, hR0.symm⟩, fun h => absurd rfl h, by simp [startM]⟩
 clear hs
 rintro ⟨n, s, k⟩ _ w6 jv ⟨rfl, hs, h0, h1, hev⟩ ih
 dsimp only at hs h0 h1 hev
 by_cases hk : k = 0
 ·subst hk
  obtain ⟨hI, hev2, hmu, hrun⟩ := h0 rfl
  obtain ⟨n, rfl⟩ : ∃ n', n = n' + 1 := ⟨n - 1, by omega⟩
  obtain ⟨hst, hst2⟩ := step_ok (p := P.map LC.cl) (vars := vars) hI hev2 hpB
  have hev3 := step_ev (P.map LC.cl) vars s hI hev2 hpB
  rw [runM_succ] at hrun
  refine goes_seq ?_
  refine goes_seq ?_
  refine goes_region ?_
  refine lst_run (run_move (by conv=>lhs;whnf)) rfl ?_
  refine lst_run (run_eql_one_int rfl rfl) rfl ?_
  refine lst_done ?_
  refine goes_true rfl ?_
  refine goes_skip ?_
  refine goes_block ?_
  refine goes_region ?_
  refine lst_run (run_move (by conv=>lhs;whnf)) rfl ?_
  refine lst_enter (run_call (by kernel_rfl) (args_1 (by conv=>lhs;whnf))) rfl ?_
  refine Calls.mono (sstep_any s _ hI (by omega) hev2 hpB hs) ?_
  rintro _ w7 ⟨rfl, hs'⟩
  refine ⟨_, rfl, ?_⟩
  refine lst_run (run_assign (by conv=>lhs;whnf)) rfl ?_
  refine lst_done ?_
  refine goes_inBlock ?_
  refine ih ((n, (stepM (P.map LC.cl) vars s).2, (stepM (P.map LC.cl) vars s).1)) _ _ _ ?_ ?_ (by conv=>lhs;whnf) (by kernel_rfl)
  ·dsimp only
   rw [if_pos rfl]
   split
   ·rename_i h; have := (hst.go h).2; omega
   ·omega
  ·refine ⟨rfl, hs', fun h => ⟨(hst.go h).1, hst2 h, by have := (hst.go h).2; dsimp only; omega, ?_⟩, fun h => ?_, hev3⟩
   ·rw [hrun, if_pos h]
   ·rw [hrun, if_neg h]
 ·obtain ⟨d, F2, hFF, hok, hS⟩ := hs
  have hrow3 := hok.row3
  have hle : d.evs.length = s.ev.length := by rw [← hok.he]; simp
  refine goes_seq ?_
  refine goes_seq ?_
  refine goes_region ?_
  refine lst_run (run_move (by conv=>lhs;whnf)) rfl ?_
  refine lst_run (run_eql_no rfl rfl (by assumption)) rfl ?_
  refine lst_done ?_
  refine goes_false rfl ?_
  refine goes_exit rfl ?_
  refine goes_seq ?_
  refine goes_region ?_
  refine lst_run (run_move (by conv=>lhs;whnf)) rfl ?_
  refine lst_run (run_nilCheck rfl) rfl ?_
  refine lst_run (run_fieldAddr (off := 8) rfl rfl) rfl ?_
  refine lst_run (run_load1_own hS rfl rfl (by exact .head) (by repeat constructor)) rfl ?_
  refine lst_run (run_move (by conv=>lhs;whnf)) rfl ?_
  refine lst_run (run_build (cells := [_, _]) (.cons (by conv=>lhs;whnf) .nil) rfl) rfl ?_
  refine lst_buildSlice (cells := [_, _]) hS (.cons (by conv=>lhs;whnf) .nil) rfl rfl ?_
  clear hS
  intro b1 wx1 hS
  refine lst_app (sz := 2) (bts := 32) hS (by conv=>lhs;whnf) rfl rfl rfl rfl (hrow3) rfl rfl (.cons _ (perm_out [_, _] _ _ _ _)) (by omega) (by omega) rfl ?_
  clear hS
  intro v8 O8 w9 hrow8 hS
  obtain ⟨A8, c8, rfl⟩ := hrow8.form
  refine lst_run (run_assign (by conv=>lhs;whnf)) rfl ?_
  refine lst_run (run_assign (by conv=>lhs;whnf)) rfl ?_
  refine lst_done ?_
  refine goes_ret2 Tryd.func34 rfl (by conv=>lhs;whnf) (by conv=>lhs;whnf) ?_
  have hlk : evL d.evs ++ [.int .i64 k, .slice none 0 0] = keL (d.evs.map (fun (e : LE) => (⟨1, e.A, e.c, e.T⟩ : KE)) ++ [(⟨k, none, 0, .nil⟩ : KE)]) := by rw [keL_app, evL_ke]; rfl
  have hll : (d.evs.map (fun (e : LE) => (⟨1, e.A, e.c, e.T⟩ : KE)) ++ [(⟨k, none, 0, .nil⟩ : KE)]).length = d.evs.length + 1 := by simp
  obtain ⟨F3, g1, g2, g3⟩ := St.freezeK (L := List.map (fun (e : LE) => (⟨1, e.A, e.c, e.T⟩ : KE)) d.evs ++ [(⟨k, none, 0, .nil⟩ : KE)]) (A := A8) (c := c8) (by rw [hll, ← hlk]; exact hrow8) (fun x hx => by
   rcases List.mem_append.1 hx with hx | hx
   ·obtain ⟨e, he, rfl⟩ := List.mem_map.1 hx
    exact hok.re e he
   ·obtain rfl : x = ⟨k, none, 0, .nil⟩ := by simpa using hx
    exact fun w _ => ⟨Nat.le_refl _, fun h => by simp [TA.len] at h⟩) hS
  refine ⟨A8, c8, _, F3, by rw [hll], ?_, fun φ h => g1 φ (hFF φ h), g2, St.dropL (L := d.O2) (St.dropL (L := d.O) g3.drop.drop)⟩
  rw [h1 hk, ← hok.he]
  simp [evsOf, KE.ev, TA.ts]
end
end Go.Proofs.YtehhgmeaggempaaDoor
namespace Go.Proofs.YtehhgmeaggempaaDoor
open Go.RowKit
def Ts.wide : Ts → Prop
 | .nil => True
 | .cons _ _ _ ar r => ar.length ≤ 9223372036854775807 ∧ ar.wide ∧ r.wide
theorem Ts.wide_app (D R : Ts) : (D.app R).wide ↔ D.wide ∧ R.wide := by
 induction D with
 | nil => simp [Ts.app, Ts.wide]
 | cons k n s ar r _ ih => simp only [Ts.app, Ts.wide, ih]; constructor <;> (rintro ⟨h1, h2⟩; simp_all)
theorem Ts.wide_of (T : Ts) : T.nodes ≤ 9223372036854775807 → T.wide := by
 induction T with
 | nil => intro _; trivial
 | cons k n s ar r iha ihr =>
  intro h
  simp only [Ts.nodes] at h
  have := ar.length_le
  exact ⟨by omega, iha (by omega), ihr (by omega)⟩
def ClsWide (L : List Cl) : Prop := ∀ c ∈ L, c.hd.length ≤ 9223372036854775807 ∧ c.hd.wide ∧ c.bd.length ≤ 9223372036854775807 ∧ c.bd.wide
def VisitSaidW (T : Ts) : Prop := ∀ (k n : Int) (s : ByteArray) (v : Value) (L lb vb B : Nat) (w : World), Sl w (fun k => k < B) v T → B ≤ lb → VS lb vb L w → L ≤ 24 → T.length ≤ 9223372036854775807 → T.wide →
    Calls Tryd.prog 88 #[.agg #[.int .i64 k, .int .i64 n, .string s, v], .pointer (some ⟨lb, 0, none⟩), .pointer (some ⟨vb, 0, none⟩)] w fun e w' =>
     e = .returned (.bool (decide (T.nodes + 1 ≤ L))) ∧ (T.nodes + 1 ≤ L → VS lb vb (L - (T.nodes + 1)) w') ∧ Chg (fun k => k = lb) w w'
def VtLoopW (w : World) (T : Ts) (L lb vb : Nat) (g : Nat) (sx : Value) (wr : World) : Prop := ∃ D R : Ts, T = D.app R ∧ g = R.length ∧ sx = .int .i64 D.length ∧ D.nodes + 1 ≤ L ∧ VS lb vb (L - (D.nodes + 1)) wr ∧ Chg (fun k => k = lb) w wr
set_option maxHeartbeats 1000000 in
theorem visitW_of (m : Nat) (ih : ∀ T : Ts, T.nodes < m → VisitSaidW T) (T : Ts) (hm : T.nodes ≤ m) : VisitSaidW T := by
 intro k n s v L lb vb B w hv hBl hvs hL hn hwd
 obtain ⟨A, c, rfl, hs⟩ := hv.form
 have hle := T.length_le
 have hW : Below w.heap.size w (w.alloc (.cells #[.int .i64 k, .int .i64 n, .string s, .slice A T.length c] 24)) := (Below.refl _ _).alloc (Nat.le_refl _) _
 have hvs1 := hvs.far hW
 have hs1 := hs.below hW
 have bA := Plot.new w 24 #[.int .i64 k, .int .i64 n, .string s, .slice A T.length c]
 have l0 := hvs1.left.cell 0
 have lf := hvs1.left.frozen 0
 simp at l0
 have hlt := hvs.left.lt
 by_cases hL0 : L = 0
 ·subst hL0
  go_enter Tryd.func88, Tryd.ntmps88
  go_wp2_with fail
  go_ret
  exact ⟨rfl, fun h => absurd h (by omega), Chg.of_fresh hW⟩
 have hL1 : 0 < L := by omega
 obtain ⟨p0, p1, p2, p3, _⟩ := bA.four
 have hne : w.heap.size ≠ lb := by omega
 go_enter Tryd.func88, Tryd.ntmps88
 go_wp2_with fail
 have hstart : VS lb vb (L - 1) ((w.setCell ⟨lb, 0, none⟩ (.int .i64 ((L : Int) - 1))).alloc (.cells #[.int .i64 k, .int .i64 n, .string s, .slice A T.length c] 24)) := by
  refine ⟨?_, ?_, hvs.ne⟩
  ·have h1 := (hvs.left.set_ 0 (.int .i64 ((L : Int) - 1))).alloc (.cells #[.int .i64 k, .int .i64 n, .string s, .slice A T.length c] 24)
   rw [show ((L - 1 : Nat) : Int) = (L : Int) - 1 by omega]
   exact h1
  ·exact (hvs.fn.far (p := ⟨lb, 0, none⟩) hvs.ne _).alloc _
 have hchg : Chg (fun k => k = lb) w ((w.setCell ⟨lb, 0, none⟩ (.int .i64 ((L : Int) - 1))).alloc (.cells #[.int .i64 k, .int .i64 n, .string s, .slice A T.length c] 24)) :=
  ((Chg.refl (fun k => k = lb) w).setCell (p := ⟨lb, 0, none⟩) (fun _ => rfl) _).alloc _
 have hcall : ∀ (args : Array Value) (x : World), (callFunc 88 args).run Tryd.prog x = .ok (.enter 88 args) x := fun args x => by simp [go_sem]
 generalize ((w.setCell ⟨lb, 0, none⟩ (.int .i64 ((L : Int) - 1))).alloc (.cells #[.int .i64 k, .int .i64 n, .string s, .slice A T.length c] 24)) = W at *
 have h0 : VtLoopW w T L lb vb T.length (.int .i64 0) W := ⟨.nil, T, rfl, rfl, rfl, hL1, hstart, hchg⟩
 clear hstart hchg hvs1 bA p0 p1 p2 p3 hne l0 lf hs1 hW
 go_loopg [14] T.length (VtLoopW w T L lb vb)
 case atStart => exact h0
 case round =>
  clear h0
  obtain ⟨D, R, hT, hg, rfl, hD, hvr, hc⟩ := hrel
  have HT := Lib.hid hT
  have HG := Lib.hid hg
  clear hT hg
  have hsr : Sl wr (fun k => k < B) (.slice A T.length c) T := hs.chg hc fun k hk => by omega
  cases R with
  | nil =>
   have eD : D = T := by rw [HT.out, Ts.app_nil]
   subst eD
   go_wp2_with fail
   go_ret
   refine ⟨?_, fun _ => hvr, hc⟩
   rw [decide_eq_true hD]; rfl
  | cons k1 n1 s1 ar r =>
   have e1 : D.length < T.length := by rw [HT.out, Ts.length_app]; simp [Ts.length]
   have hnod : T.nodes = D.nodes + (1 + ar.nodes + r.nodes) := by rw [HT.out, Ts.nodes_app]; simp only [Ts.nodes]; omega
   have hwa : ar.length ≤ 9223372036854775807 ∧ ar.wide ∧ r.wide := by rw [HT.out, Ts.wide_app] at hwd; exact hwd.2
   rw [HT.out] at hsr
   rw [show (D.app (.cons k1 n1 s1 ar r)).length = T.length by rw [← HT.out]] at hsr
   obtain ⟨b1, o1, rfl, hq1⟩ := Sl.at_ hsr (by simp [Ts.length])
   obtain ⟨_, c10, c11, c12, ⟨v1, c13, hv1⟩, _⟩ := seg_cons.1 hq1
   obtain ⟨A1, d1, rfl, hv1⟩ := hv1.form
   clear hq1 hsr
   have hX : Below wr.heap.size wr (wr.alloc (.cells #[.int .i64 k1, .int .i64 n1, .string s1, .slice A1 ar.length d1] 24)) := (Below.refl _ _).alloc (Nat.le_refl _) _
   have hvx := hvr.far hX
   have f0 := hvx.fn.cell 0
   simp at f0
   go_wp2_with fail
   have e2 : ar.nodes < m := by omega
   refine (ih ar e2 k1 n1 s1 _ (L - (D.nodes + 1)) lb vb B _ (hv1.below hX) hBl hvx (by omega) hwa.1 hwa.2.1).mono ?_
   rintro e w2 ⟨rfl, hok, hc2⟩
   have hc3 : Chg (fun k => k = lb) w w2 := (hc.trans (Chg.of_fresh (S := fun k => k = lb) hX) fun _ _ h => h).trans hc2 fun _ _ h => h
   by_cases hx : ar.nodes + 1 ≤ L - (D.nodes + 1)
   ·have hok := hok hx
    rw [decide_eq_true hx]
    have hnx : Hid (VS lb vb (L - ((D.app (.cons k1 n1 s1 ar .nil)).nodes + 1)) w2) := Lib.hid (by
     rw [Ts.nodes_app]
     simp only [Ts.nodes]
     rw [show L - (D.nodes + (ar.nodes + 0 + 1) + 1) = L - (D.nodes + 1) - (ar.nodes + 1) by omega]
     exact hok)
    clear hok
    go_wp2_with fail
    go_roundg r.length
    case measure => rw [HG.out]; simp [Ts.length]
    case rel =>
     refine ⟨D.app (.cons k1 n1 s1 ar .nil), r, ?_, rfl, ?_, ?_, hnx.out, hc3⟩
     ·rw [HT.out, Ts.app_assoc]; rfl
     ·rw [Ts.length_app]; rfl
     ·rw [Ts.nodes_app]; simp only [Ts.nodes]; omega
   ·rw [decide_eq_false hx]
    have hbig : Hid (¬ T.nodes + 1 ≤ L) := Lib.hid (by omega)
    clear hok
    go_wp2_with fail
    go_ret
    refine ⟨?_, fun h => absurd h hbig.out, hc3⟩
    rw [decide_eq_false hbig.out]; rfl
theorem visitW_said (T : Ts) : VisitSaidW T := by
 have : ∀ m, ∀ T : Ts, T.nodes < m → VisitSaidW T := by
  intro m
  induction m with
  | zero => intro T h; omega
  | succ m ih => intro T h; exact visitW_of m ih T (by omega)
 exact this _ T (Nat.lt_succ_self _)
set_option maxHeartbeats 1000000 in
theorem fitsW_any (k n : Int) (s : ByteArray) (T : Ts) (v : Value) (w : World) (hv : Sl w (fun _ => True) v T) (hn : T.length ≤ 9223372036854775807) (hwd : T.wide) :
  Calls Tryd.prog 67 #[.agg #[.int .i64 k, .int .i64 n, .string s, v], .int .i64 24] w fun e w' => e = .returned (.bool (decide (T.nodes + 1 ≤ 24))) ∧ Below w.heap.size w w' := by
 obtain ⟨A, c, rfl, hs⟩ := hv.form
 have hs := hs.imp (q := fun k => k < w.heap.size) fun k _ h => h
 have hW : Below w.heap.size w (((w.alloc (.cells #[.int .i64 k, .int .i64 n, .string s, .slice A T.length c] 24)).alloc (.cells #[.int .i64 24] 3)).alloc (.cells #[.func (.func 88) #[] #[.pointer (some ⟨w.heap.size + 1, 0, none⟩), .pointer (some ⟨w.heap.size + 1 + 1, 0, none⟩)]] 30)) := (((Below.refl _ _).alloc (Nat.le_refl _) _).alloc (by simp) _).alloc (by simp; omega) _
 have hst : (store ⟨w.heap.size + 1 + 1, 0, none⟩ (.func (.func 88) #[] #[.pointer (some ⟨w.heap.size + 1, 0, none⟩), .pointer (some ⟨w.heap.size + 1 + 1, 0, none⟩)])).run Tryd.prog (((w.alloc (.cells #[.int .i64 k, .int .i64 n, .string s, .slice A T.length c] 24)).alloc (.cells #[.int .i64 24] 3)).alloc (.cells #[.nilFunc] 30)) =
   .ok () (((w.alloc (.cells #[.int .i64 k, .int .i64 n, .string s, .slice A T.length c] 24)).alloc (.cells #[.int .i64 24] 3)).alloc (.cells #[.func (.func 88) #[] #[.pointer (some ⟨w.heap.size + 1, 0, none⟩), .pointer (some ⟨w.heap.size + 1 + 1, 0, none⟩)]] 30)) := by
  have hb := Plot.new ((w.alloc (.cells #[.int .i64 k, .int .i64 n, .string s, .slice A T.length c] 24)).alloc (.cells #[.int .i64 24] 3)) 30 #[.nilFunc]
  have e := setCell_new ((w.alloc (.cells #[.int .i64 k, .int .i64 n, .string s, .slice A T.length c] 24)).alloc (.cells #[.int .i64 24] 3)) .nilFunc (.func (.func 88) #[] #[.pointer (some ⟨w.heap.size + 1, 0, none⟩), .pointer (some ⟨w.heap.size + 1 + 1, 0, none⟩)]) 30
  have h := run_store_func (P := Tryd.prog) (f := .func 88) (x := #[]) (y := #[.pointer (some ⟨w.heap.size + 1, 0, none⟩), .pointer (some ⟨w.heap.size + 1 + 1, 0, none⟩)]) (hb.cell 0) (hb.frozen 0)
  rw [e] at h
  simpa using h
 have hvs : VS (w.heap.size + 1) (w.heap.size + 1 + 1) 24 (((w.alloc (.cells #[.int .i64 k, .int .i64 n, .string s, .slice A T.length c] 24)).alloc (.cells #[.int .i64 24] 3)).alloc (.cells #[.func (.func 88) #[] #[.pointer (some ⟨w.heap.size + 1, 0, none⟩), .pointer (some ⟨w.heap.size + 1 + 1, 0, none⟩)]] 30)) := by
  refine ⟨?_, ?_, by omega⟩
  ·have := (Plot.new (w.alloc (.cells #[.int .i64 k, .int .i64 n, .string s, .slice A T.length c] 24)) 3 #[.int .i64 24]).alloc (.cells #[.func (.func 88) #[] #[.pointer (some ⟨w.heap.size + 1, 0, none⟩), .pointer (some ⟨w.heap.size + 1 + 1, 0, none⟩)]] 30)
   simpa using this
  ·have := Plot.new ((w.alloc (.cells #[.int .i64 k, .int .i64 n, .string s, .slice A T.length c] 24)).alloc (.cells #[.int .i64 24] 3)) 30 #[.func (.func 88) #[] #[.pointer (some ⟨w.heap.size + 1, 0, none⟩), .pointer (some ⟨w.heap.size + 1 + 1, 0, none⟩)]]
   simpa using this
 have hcall : ∀ (args : Array Value) (x : World), (callFunc 88 args).run Tryd.prog x = .ok (.enter 88 args) x := fun args x => by simp [go_sem]
 go_enter Tryd.func67, Tryd.ntmps67
 go_wp2_with fail
 refine (visitW_said T k n s _ 24 (w.heap.size + 1) (w.heap.size + 1 + 1) w.heap.size _ (hs.below hW) (by omega) hvs (Nat.le_refl _) hn hwd).mono ?_
 rintro e w2 ⟨rfl, _, hc⟩
 generalize hfb : decide (T.nodes + 1 ≤ 24) = fb
 have HFB := Lib.hid hfb
 clear hfb
 go_wp2_with fail
 go_ret
 refine ⟨by rw [HFB.out]; rfl, hW.trans (hc.below (by simp; omega) fun k hk _ => ?_)⟩
 have e : k = w.heap.size + 1 := hk
 omega
set_option maxHeartbeats 1000000 in
theorem goodGoalW_any (vars k n : Int) (s : ByteArray) (T : Ts) (v : Value) (w : World) (hv : Sl w (fun _ => True) v T) (hn : T.length ≤ 9223372036854775807) (hwd : T.wide) :
  Calls Tryd.prog 43 #[.agg #[.int .i64 k, .int .i64 n, .string s, v], .int .i64 vars] w fun e w' => e = .returned (.bool (gB vars k n s T)) ∧ Below w.heap.size w w' := by
 obtain ⟨A, c, rfl, hs⟩ := hv.form
 generalize hr : gB vars k n s T = rb
 have R := Lib.hid hr
 clear hr
 go_enter Tryd.func43, Tryd.ntmps43
 go_wp2_with fail
 have hW0 : Below w.heap.size w (w.alloc (.cells #[.int .i64 k, .int .i64 n, .string s, .slice A T.length c] 24)) := (Below.refl _ _).alloc (Nat.le_refl _) _
 have bA := Plot.new w 24 #[.int .i64 k, .int .i64 n, .string s, .slice A T.length c]
 generalize (w.alloc (.cells #[.int .i64 k, .int .i64 n, .string s, .slice A T.length c] 24)) = W0 at *
 have hs0 := hs.below hW0
 refine (goal_any k n s _ W0).mono ?_
 rintro e w1 ⟨rfl, hb1⟩
 have hW1 := hW0.trans (hb1.mono hW0.size)
 have bA1 := bA.below hb1
 have hs1 := hs0.below hb1
 cases hg : goalB k with
 | false =>
  go_wp2_with fail
  go_ret
  refine ⟨?_, hW1⟩
  rw [← R.out, gB, hg]; rfl
 | true =>
  have HGK := Lib.hid hg
  clear hg
  obtain ⟨p0, p1, p2, p3, _⟩ := bA1.four
  go_wp2_with fail
  refine (fitsW_any k n s T _ _ hs1 hn hwd).mono ?_
  rintro e w2 ⟨rfl, hb2⟩
  have hW2 := hW1.trans (hb2.mono hW1.size)
  have bA2 := bA1.below hb2
  have hs2 := hs1.below hb2
  clear p0 p1 p2 p3
  generalize hf : decide (T.nodes + 1 ≤ 24) = fb
  have HF := Lib.hid hf
  clear hf
  obtain ⟨p0, p1, p2, p3, _⟩ := bA2.four
  cases fb with
  | false =>
   go_wp2_with fail
   go_ret
   refine ⟨?_, hW2⟩
   rw [← R.out, gB, HF.out, Bool.and_false]; rfl
  | true =>
   go_wp2_with fail
   refine (goodTerm_any k n vars s T _ _ hs2 (by have := of_decide_eq_true HF.out; omega)).mono ?_
   rintro e w3 ⟨rfl, hb3⟩
   generalize hq : (Ts.cons k n s T .nil).good vars = qb
   have HQ := Lib.hid hq
   clear hq
   go_wp2_with fail
   go_ret
   refine ⟨?_, hW2.trans (hb3.mono hW2.size)⟩
   rw [← R.out, gB, HGK.out, HF.out, HQ.out, Bool.and_true, Bool.true_and]; rfl
set_option maxHeartbeats 1000000 in
theorem goodQueryW_any (vars : Int) (T : Ts) (v : Value) (w : World) (hv : Sl w (fun _ => True) v T) (hn : T.length ≤ 9223372036854775807) (hwd : T.wide) :
  Calls Tryd.prog 20 #[v, .int .i64 vars] w fun e w' => e = .returned (.bool (qB vars T)) ∧ Below w.heap.size w w' := by
 obtain ⟨A, c, rfl, hs⟩ := hv.form
 have hle := T.length_le
 generalize hr : qB vars T = rb
 have R := Lib.hid hr
 clear hr
 by_cases h1 : vars < 0
 ·have hq : Hid (rb = false) := Lib.hid (by rw [← R.out, qB]; simp; omega)
  go_enter Tryd.func20, Tryd.ntmps20
  go_wp2_with fail
  go_ret
  exact ⟨by rw [hq.out]; rfl, Below.refl _ _⟩
 by_cases h2 : 8 < vars
 ·have hq : Hid (rb = false) := Lib.hid (by rw [← R.out, qB]; simp; omega)
  go_enter Tryd.func20, Tryd.ntmps20
  go_wp2_with fail
  go_ret
  exact ⟨by rw [hq.out]; rfl, Below.refl _ _⟩
 by_cases h3 : 5 < T.length
 ·have hq : Hid (rb = false) := Lib.hid (by rw [← R.out, qB]; simp; omega)
  go_enter Tryd.func20, Tryd.ntmps20
  go_wp2_with fail
  go_ret
  exact ⟨by rw [hq.out]; rfl, Below.refl _ _⟩
 have hq : Hid (rb = T.goals vars) := Lib.hid (by rw [← R.out, qB]; simp; omega)
 have hl5 : T.length ≤ 5 := by omega
 have h0 : GqLoop w T vars T.length (.int .i64 0) w := ⟨.nil, T, rfl, rfl, rfl, rfl, Below.refl _ _⟩
 go_enter Tryd.func20, Tryd.ntmps20
 go_wp2_with fail
 go_loopg [20] T.length (GqLoop w T vars)
 case atStart => exact h0
 case round =>
  clear h0
  obtain ⟨D, R', hT, hg, rfl, hD, hb⟩ := hrel
  have HT := Lib.hid hT
  have HG := Lib.hid hg
  have HD := Lib.hid hD
  clear hT hg hD
  have hsr := hs.below hb
  cases R' with
  | nil =>
   have eD : D = T := by rw [HT.out, Ts.app_nil]
   subst eD
   go_wp2_with fail
   go_ret
   exact ⟨by rw [hq.out, HD.out]; rfl, hb⟩
  | cons k1 n1 s1 ar r =>
   have e1 : D.length < T.length := by rw [HT.out, Ts.length_app]; simp [Ts.length]
   have hwa : ar.length ≤ 9223372036854775807 ∧ ar.wide ∧ r.wide := by have := hwd; rw [HT.out, Ts.wide_app] at this; exact this.2
   rw [HT.out] at hsr
   rw [show (D.app (.cons k1 n1 s1 ar r)).length = T.length by rw [← HT.out]] at hsr
   obtain ⟨b1, o1, rfl, hq1⟩ := Sl.at_ hsr (by simp [Ts.length])
   obtain ⟨_, c10, c11, c12, ⟨v1, c13, hv1⟩, _⟩ := seg_cons.1 hq1
   obtain ⟨A1, d1, rfl, hv1⟩ := hv1.form
   clear hq1 hsr
   have hX : Below wr.heap.size wr (wr.alloc (.cells #[.int .i64 k1, .int .i64 n1, .string s1, .slice A1 ar.length d1] 24)) := (Below.refl _ _).alloc (Nat.le_refl _) _
   have hX' := hb.trans (hX.mono hb.size)
   go_wp2_with fail
   refine (goodGoalW_any vars k1 n1 s1 ar _ _ (hv1.below hX) hwa.1 hwa.2.1).mono ?_
   rintro e w2 ⟨rfl, hb2⟩
   have hb3 := hX'.trans (hb2.mono hX'.size)
   generalize hgb : gB vars k1 n1 s1 ar = gb
   have HGB := Lib.hid hgb
   clear hgb
   cases gb with
   | false =>
    go_wp2_with fail
    go_ret
    refine ⟨?_, hb3⟩
    rw [hq.out, HT.out, Ts.goals_app, Ts.goals, HGB.out, Bool.false_and, Bool.and_false]; rfl
   | true =>
    go_wp2_with fail
    go_roundg r.length
    case measure => rw [HG.out]; simp [Ts.length]
    case rel =>
     refine ⟨D.app (.cons k1 n1 s1 ar .nil), r, ?_, rfl, ?_, ?_, hb3⟩
     ·rw [HT.out, Ts.app_assoc]; rfl
     ·rw [Ts.length_app]; rfl
     ·rw [Ts.goals_app, HD.out, Ts.goals, HGB.out]; rfl
set_option maxHeartbeats 1000000 in
theorem goodClauseW_any (c : Cl) (u v : Value) (w : World) (hu : Sl w (fun _ => True) u c.hd) (hv : Sl w (fun _ => True) v c.bd) (h1 : c.hd.length ≤ 9223372036854775807) (h1w : c.hd.wide) (h2 : c.bd.length ≤ 9223372036854775807) (h2w : c.bd.wide) :
  Calls Tryd.prog 17 #[.agg #[.int .i64 c.k, .int .i64 c.n, .string c.s, u, v, .int .i64 c.vars]] w fun e w' => e = .returned (.bool (cB c)) ∧ Below w.heap.size w w' := by
 obtain ⟨A, d, rfl, hu⟩ := hu.form
 obtain ⟨A', d', rfl, hv⟩ := hv.form
 generalize hr : cB c = rb
 have R := Lib.hid hr
 clear hr
 go_enter Tryd.func17, Tryd.ntmps17
 go_wp2_with fail
 have hW0 : Below w.heap.size w (w.alloc (.cells #[.int .i64 c.k, .int .i64 c.n, .string c.s, .slice A c.hd.length d, .slice A' c.bd.length d', .int .i64 c.vars] 32)) := (Below.refl _ _).alloc (Nat.le_refl _) _
 have bA := Plot.new w 32 #[.int .i64 c.k, .int .i64 c.n, .string c.s, .slice A c.hd.length d, .slice A' c.bd.length d', .int .i64 c.vars]
 generalize (w.alloc (.cells #[.int .i64 c.k, .int .i64 c.n, .string c.s, .slice A c.hd.length d, .slice A' c.bd.length d', .int .i64 c.vars] 32)) = W0 at *
 have hu0 := hu.below hW0
 refine (goodQueryW_any c.vars c.bd _ W0 (hv.below hW0) h2 h2w).mono ?_
 rintro e w1 ⟨rfl, hb1⟩
 have hW1 := hW0.trans (hb1.mono hW0.size)
 have bA1 := bA.below hb1
 have hu1 := hu0.below hb1
 generalize hq : qB c.vars c.bd = qb
 have HQ := Lib.hid hq
 clear hq
 cases qb with
 | false =>
  go_wp2_with fail
  go_ret
  refine ⟨?_, hW1⟩
  rw [← R.out, cB, HQ.out]; rfl
 | true =>
  have p0 := bA1.cell 0
  have p1 := bA1.cell 1
  have p2 := bA1.cell 2
  have p3 := bA1.cell 3
  have p5 := bA1.cell 5
  simp at p0 p1 p2 p3 p5
  go_wp2_with fail
  refine (goodGoalW_any c.vars c.k c.n c.s c.hd _ _ hu1 h1 h1w).mono ?_
  rintro e w2 ⟨rfl, hb2⟩
  have hW2 := hW1.trans (hb2.mono hW1.size)
  have bA2 := bA1.below hb2
  clear p0 p1 p2 p3 p5
  generalize hg : gB c.vars c.k c.n c.s c.hd = gb
  have HGB := Lib.hid hg
  clear hg
  cases gb with
  | false =>
   go_wp2_with fail
   go_ret
   refine ⟨?_, hW2⟩
   rw [← R.out, cB, HGB.out, Bool.and_false]; rfl
  | true =>
   have p0 := bA2.cell 0
   have p1 := bA2.cell 1
   have p2 := bA2.cell 2
   have p3 := bA2.cell 3
   simp at p0 p1 p2 p3
   go_wp2_with fail
   refine (builtin_any c.k c.n c.s A c.hd.length d _).mono ?_
   rintro e w3 ⟨rfl, hb3⟩
   generalize hbb : builtB c.s.toList c.hd.length = bb
   have HBT := Lib.hid hbb
   clear hbb
   go_wp2_with fail
   go_ret
   refine ⟨?_, hW2.trans (hb3.mono hW2.size)⟩
   rw [← R.out, cB, HQ.out, HGB.out, HBT.out, Bool.true_and]; rfl
set_option maxHeartbeats 1000000 in
theorem goodProgramW_any (L : List Cl) (v : Value) (w : World) (hv : SlC w (fun _ => True) v L) (hn : L.length ≤ 9223372036854775807) (hwd : ClsWide L) :
  Calls Tryd.prog 23 #[v] w fun e w' => e = .returned (.bool (pB L)) ∧ Below w.heap.size w w' := by
 obtain ⟨A, d, rfl, hs⟩ := hv.form
 generalize hr : pB L = rb
 have R := Lib.hid hr
 clear hr
 by_cases h3 : 24 < L.length
 ·have hq : Hid (rb = false) := Lib.hid (by rw [← R.out, pB]; simp; omega)
  go_enter Tryd.func23, Tryd.ntmps23
  go_wp2_with fail
  go_ret
  exact ⟨by rw [hq.out]; rfl, Below.refl _ _⟩
 have hq : Hid (rb = L.all cB) := Lib.hid (by rw [← R.out, pB, decide_eq_true (by omega), Bool.true_and])
 have h0 : GpLoop w L L.length (.int .i64 0) w := ⟨[], L, rfl, rfl, rfl, rfl, Below.refl _ _⟩
 go_enter Tryd.func23, Tryd.ntmps23
 go_wp2_with fail
 go_loopg [10] L.length (GpLoop w L)
 case atStart => exact h0
 case round =>
  clear h0
  obtain ⟨D, R', hT, hg, rfl, hD, hb⟩ := hrel
  have HT := Lib.hid hT
  have HG := Lib.hid hg
  have HD := Lib.hid hD
  clear hT hg hD
  have hsr := hs.below hb
  cases R' with
  | nil =>
   have eD : D = L := by rw [HT.out, List.append_nil]
   subst eD
   go_wp2_with fail
   go_ret
   exact ⟨by rw [hq.out, HD.out]; rfl, hb⟩
  | cons c r =>
   have e1 : D.length < L.length := by rw [HT.out, List.length_append]; simp
   have hcw := hwd c (by rw [HT.out]; simp)
   rw [HT.out] at hsr
   rw [show (D ++ c :: r).length = L.length by rw [← HT.out]] at hsr
   obtain ⟨b1, o1, rfl, _, c10, c11, c12, ⟨v1, c13, hv1⟩, ⟨v2, c14, hv2⟩, c15, _⟩ := SlC.at_ hsr (by simp)
   obtain ⟨A1, d1, rfl, hv1⟩ := hv1.form
   obtain ⟨A2, d2, rfl, hv2⟩ := hv2.form
   clear hsr
   have hX : Below wr.heap.size wr (wr.alloc (.cells #[.int .i64 c.k, .int .i64 c.n, .string c.s, .slice A1 c.hd.length d1, .slice A2 c.bd.length d2, .int .i64 c.vars] 32)) := (Below.refl _ _).alloc (Nat.le_refl _) _
   have hX' := hb.trans (hX.mono hb.size)
   go_wp2_with fail
   refine (goodClauseW_any c _ _ _ (hv1.below hX) (hv2.below hX) hcw.1 hcw.2.1 hcw.2.2.1 hcw.2.2.2).mono ?_
   rintro e w2 ⟨rfl, hb2⟩
   have hb3 := hX'.trans (hb2.mono hX'.size)
   generalize hgb : cB c = gb
   have HGB := Lib.hid hgb
   clear hgb
   cases gb with
   | false =>
    go_wp2_with fail
    go_ret
    refine ⟨?_, hb3⟩
    rw [hq.out, HT.out, List.all_append, List.all_cons, HGB.out, Bool.false_and, Bool.and_false]; rfl
   | true =>
    go_wp2_with fail
    go_roundg r.length
    case measure => rw [HG.out]; simp
    case rel =>
     refine ⟨D ++ [c], r, ?_, rfl, ?_, ?_, hb3⟩
     ·rw [HT.out, List.append_assoc]; rfl
     ·rw [List.length_append]; rfl
     ·rw [List.all_append, HD.out, List.all_cons, HGB.out]; rfl
end Go.Proofs.YtehhgmeaggempaaDoor
namespace Go.Proofs.YtehhgmeaggempaaDoor
open Go.RowKit
set_option linter.unusedVariables false
set_option linter.unusedSimpArgs false
set_option maxRecDepth 100000
set_option maxHeartbeats 1000000
theorem ClsAt.segC {w : World} {b : Nat} : ∀ {L : List LC} {o : Nat}, ClsAt w b L o → (∀ x ∈ L, LCRd x w) → SegC w (fun _ => True) (L.map LC.cl) b o
 | [], _, _, _ => trivial
 | c :: r, o, ⟨h0, h1, h2, h3, h4, h5, h6⟩, hr => ⟨trivial, h0, h1, h2, ⟨_, h3, (hr c (.head _)).1.sl⟩, ⟨_, h4, (hr c (.head _)).2.sl⟩, h5, h6.segC fun x hx => hr x (.tail _ hx)⟩
theorem ClsR.slC {L : List LC} {A : Option Addr} {c : Nat} {w : World} (h : ClsR L A c w) : SlC w (fun _ => True) (.slice A L.length c) (L.map LC.cl) := by
 refine ⟨A, c, by simp, by simpa using h.1, fun hl => ?_⟩
 obtain ⟨b, o, e, hs⟩ := h.2.1 (by simpa using hl)
 exact ⟨b, o, e, hs.segC h.2.2⟩
section
variable {M : List Nat} {w0 : World} {H : List (Nat × Obj)} {F : List (World → Prop)}
theorem allW_any (P : List LC) (pA : Option Addr) (pc : Nat) (q : TA) (qA : Option Addr) (qc : Nat) (vars fuel : Int) (w : World) (hP : Und F (ClsR P pA pc)) (hq : Und F (ArA qA qc q))
  (hpl : P.length ≤ 9223372036854775807) (hpw : ClsWide (P.map LC.cl)) (hql : q.len ≤ 9223372036854775807) (hqw : q.ts.wide) (hS : St M w0 H F w) :
  Calls Tryd.prog 34 #[.slice pA P.length pc, .slice qA q.len qc, .int .i64 vars, .int .i64 fuel] w fun e w' => ∃ (A : Option Addr) (c : Nat) (L : List KE) (F' : List (World → Prop)), e = .returned (.tuple #[.slice A L.length c, .int .i64 (allM (P.map LC.cl) q.ts vars fuel).2]) ∧ L.map KE.ev = (allM (P.map LC.cl) q.ts vars fuel).1 ∧ (∀ φ ∈ F, φ ∈ F') ∧ Und F' (KER L A c) ∧ St M w0 H F' w' :=
 all_any P pA pc q qA qc vars fuel w hP hq (fun w' hS => goodProgramW_any _ _ w' (hS.und hP).slC (by simpa using hpl) hpw) (fun w' hS => goodQueryW_any vars _ _ w' (hS.und hq).sl (by rw [TA.len_ts]; exact hql) hqw) hS
end
end Go.Proofs.YtehhgmeaggempaaDoor
