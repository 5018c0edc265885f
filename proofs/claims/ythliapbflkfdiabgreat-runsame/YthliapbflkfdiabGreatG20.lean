/- SWalk9, SWalk10, SWalk11, XMem, XWalk1: texts that follow one another, laid into one file. -/
import Derived.Test.YthliapbflkfdiabGreatZ0
import Derived.Test.YthliapbflkfdiabGreatG11
import Derived.Test.YthliapbflkfdiabGreatG14
import Derived.Test.YthliapbflkfdiabGreatG13
import Derived.Test.YthliapbflkfdiabGreatG16
import Derived.Test.YthliapbflkfdiabGreatG17
import Derived.Test.YthliapbflkfdiabGreatG18
import Derived.Test.YthliapbflkfdiabGreatG19
namespace Go.Proofs.YthliapbflkfdiabGreat
open Go.RowKit
set_option linter.unusedVariables false
set_option linter.unusedSimpArgs false
set_option maxRecDepth 100000
set_option maxHeartbeats 1000000
theorem perm_out {α : Type} (L O O2 O3 H : List α) : (L ++ (O ++ (O2 ++ (O3 ++ H)))).Perm (O3 ++ (L ++ (O ++ (O2 ++ H)))) :=
 ((List.Perm.append_left L ((List.Perm.append_left O (List.perm_append_comm_assoc O2 O3 H)).trans (List.perm_append_comm_assoc O O3 _)))).trans (List.perm_append_comm_assoc L O3 _)
theorem perm_out2 {α : Type} (L O O2 H : List α) : (L ++ (O ++ (O2 ++ H))).Perm (O2 ++ (L ++ (O ++ H))) :=
 (List.Perm.append_left L (List.perm_append_comm_assoc O O2 H)).trans (List.perm_append_comm_assoc L O2 _)
theorem varsM_succ (B : Bnd) (m v l : Nat) : varsM B (m + 1) v l = (appM B 201 ⟨0, v, ⟨#[]⟩, .nil⟩ l).bind fun p => (varsM B m (v + 1) p.2).map fun q => (.cons p.1.k p.1.n p.1.s p.1.ar q.1, q.2) := by
 simp only [varsM]
 cases appM B 201 ⟨0, v, ⟨#[]⟩, .nil⟩ l with
 | none => rfl
 | some p =>
  simp only [Option.bind_some]
  cases varsM B m (v + 1) p.2 <;> rfl
theorem varsM_nodes {B : Bnd} : ∀ (m v l : Nat) (p : Ts × Nat), varsM B m v l = some p → p.1.nodes + p.2 = l ∧ p.1.length = m
 | 0, v, l, p, h => by
  simp only [varsM, Option.some.injEq] at h
  subst h
  exact ⟨by simp [Ts.nodes], rfl⟩
 | m + 1, v, l, p, h => by
  rw [varsM_succ] at h
  cases h1 : appM B 201 ⟨0, v, ⟨#[]⟩, .nil⟩ l with
  | none => rw [h1] at h; cases h
  | some q =>
   rw [h1, Option.bind_some] at h
   cases h2 : varsM B m (v + 1) q.2 with
   | none => rw [h2] at h; cases h
   | some x =>
    rw [h2, Option.map_some, Option.some.injEq] at h
    subst h
    have := app_nodes _ _ _ _ h1
    obtain ⟨i1, i2⟩ := varsM_nodes m (v + 1) q.2 x h2
    simp only [Ts.nodes, Ts.length]
    omega
section
variable {M : List Nat} {w0 : World} {H : List (Nat × Obj)} {F0 F : List (World → Prop)} {b : Nat} {P : List LC} {pA : Option Addr} {pc vars : Nat} {d : SD}
theorem answer_any (s : SS) (w : World) (hI : InvC s) (hv8 : vars ≤ 8) (hev : s.ev.length < 12) (hs : SSt M w0 H F0 b P pA pc vars s w) :
  Calls Tryz.prog 19 #[pt b] w fun e w' => e = .returned (.int .i64 (answerM vars s).1) ∧ SSt M w0 H F0 b P pA pc vars (answerM vars s).2 w' := by
 obtain ⟨d, F, hFF, hok, hS⟩ := hs
 have hsm := hI.sm
 rw [← hok.hB] at hsm
 refine goes_enter1 Tryz.func19 rfl Tryz.ntmps19 rfl ?_
 refine Zdl ?_
 refine Z5 ?_
 refine Zfy ?_
 clear hS
 intro g w2 cs hcs hS
 refine Zd ?_
 refine ZdA ?_
 refine goes_loop2 14 4 (15 :: 16 :: 5 :: 6 :: 18 :: 19 :: 20 :: 21 :: 22 :: 23 :: 24 :: 25 :: 26 :: 17 :: 27 :: 28 :: 29 :: 30 :: 31 :: 32 :: 2 :: 33 :: []) (fun (m : Nat) v x w' => ∃ (D' : TA) (rs : List Value) (li : Nat) (F' : List (World → Prop)), D'.len + m = vars ∧ rs.length = m * 4 ∧ v = .int .i64 (D'.len : Nat) ∧ x = .int .i64 (li : Nat) ∧ li ≤ 200 ∧ varsM s.B vars 0 200 = (varsM s.B m D'.len li).map (fun p => (D'.ts.app p.1, p.2)) ∧ (∀ φ ∈ F, φ ∈ F') ∧ Und F' (AllR D') ∧ St M w0 ((g, .cells (tcsL D' ++ rs).toArray 60) :: (b, sob d.mb d.TR (srest P pA pc vars s.fresh s.fuel (ptrOf d.gs) d.CH d.EV)) :: (d.mb, .map d.es d.clk) :: (d.O ++ (d.O2 ++ (d.O3 ++ H)))) F' w') (fun m => m) (vars) ?_ (by conv=>lhs;whnf) (by conv=>lhs;whnf) ?_
 ·exact ⟨.nil, cs, 200, F, by simp [TA.len], hcs, rfl, rfl, by omega, (by show varsM s.B vars 0 200 = (varsM s.B vars 0 200).map _; cases varsM s.B vars 0 200 <;> rfl), fun _ h => h, fun _ _ => trivial, hS⟩
 clear hS
 rintro m _ _ w6 jv ⟨D', rs, li, F', hDm, hrs, rfl, rfl, hli, hvm, hFF', hAR, hS⟩ ih
 have hD4 := tcsL_len D'
 have hok' := hok.mono hFF'
 cases m with
 | zero =>
  obtain rfl : rs = [] := List.eq_nil_of_length_eq_zero (by simpa using hrs)
  have hvm2 : varsM s.B vars 0 200 = some (D'.ts, li) := by
   rw [hvm]
   show some (D'.ts.app .nil, li) = _
   rw [Ts.app_nil]
  have hnd := (varsM_nodes _ _ _ _ hvm2).1
  dsimp only at hnd
  have hDl : D'.len = vars := by omega
  have hArA : ∀ w', St M w0 ((g, .cells (tcsL D' ++ []).toArray 60) :: (b, sob d.mb d.TR (srest P pA pc vars s.fresh s.fuel (ptrOf d.gs) d.CH d.EV)) :: (d.mb, .map d.es d.clk) :: (d.O ++ (d.O2 ++ (d.O3 ++ H)))) F' w' → ArA (some ⟨g, 0, none⟩) vars D' w' := fun w' hS => by
   refine ⟨by omega, fun _ => ⟨g, 0, rfl, segA_of (hS.und hAR) fun j x hj => ?_⟩⟩
   rw [cell_own (hS.own (g, _) (.head _)), Nat.zero_add, List.append_nil]; exact hj
  have hrow3 := hok'.row3
  obtain ⟨A3, c3, hEV⟩ := hrow3.form
  have hlev : d.evs.length = s.ev.length := by rw [← hok.he]; simp
  refine ZJ ?_
  refine Zi ?_
  replace hS := hS.swap
  refine Zgn ?_
  replace hS := hS.drew
  refine Zb9 ?_
  refine Zfz ?_
  refine ZG ?_
  refine Zq ?_
  refine Zr ?_
  have htid := tidy_any D'.ts (.slice (some ⟨g, 0, none⟩) vars vars) _ (by have := (hArA _ hS.swap).sl; rw [hDl] at this; exact this) (by omega)
  refine Zl ?_
  refine Calls.mono htid ?_
  rintro _ w7 ⟨v7, rfl, hsl, hbl⟩
  refine Za ?_
  obtain ⟨A7, c7, L7, rfl, hL7, hS'⟩ := hS.located hbl hsl
  replace hS := hS'
  clear hS'
  refine Zau ?_
  refine Zgo ?_
  refine Zr ?_
  refine ZeT ?_
  clear hS
  intro b1 wx1 hS
  refine Zau ?_
  refine Zr ?_
  refine lst_app (sz := 2) (bts := 32) hS (by conv=>lhs;whnf) rfl rfl rfl rfl (hrow3) rfl rfl (.cons _ (perm_out [_, _, _] _ _ _ _)) (by omega) (by omega) rfl ?_
  clear hS
  intro v8 O8 w9 hrow8 hS
  obtain ⟨A8, c8, rfl⟩ := hrow8.form
  replace hS := hS.perm (perm_out [_, _, _] _ _ _ _).symm
  have hans : answerM vars s = if s.ev.length + 1 = 12 then (6, ⟨s.B, s.fresh, s.fuel, s.goals, s.ch, s.ev ++ [D'.ts.tidy]⟩) else againM ⟨s.B, s.fresh, s.fuel, s.goals, s.ch, s.ev ++ [D'.ts.tidy]⟩ := by
   unfold answerM; rw [hvm2]; simp only [List.length_append, List.length_cons, List.length_nil]
  have hs2 : ∀ w', St M w0 ((b, sob d.mb d.TR (srest P pA pc vars s.fresh s.fuel (ptrOf d.gs) d.CH (.slice A8 (d.evs.length + 1) c8))) :: (g, .cells (tcsL D' ++ []).toArray 60) :: (d.mb, .map d.es d.clk) :: (d.O ++ (d.O2 ++ (O8 ++ H)))) (ArA A7 c7 L7 :: F') w' → SSt M w0 H F0 b P pA pc vars ⟨s.B, s.fresh, s.fuel, s.goals, s.ch, s.ev ++ [D'.ts.tidy]⟩ w' := fun w' hS => by
   refine ⟨⟨d.G, d.mb, d.es, d.clk, d.TR, d.O, d.gs, d.cs, d.CH, d.O2, d.evs ++ [⟨A7, c7, L7⟩], .slice A8 (d.evs.length + 1) c8, O8⟩, _, fun φ h => .tail _ (hFF' φ (hFF φ h)), ?_, hS.swap.drop⟩
   have ho := hok'.mono (F' := ArA A7 c7 L7 :: F') fun φ h => .tail _ h
   refine ⟨ho.bm, ho.hB, ho.hg, ho.rg, ho.hc, ho.rc, ho.row2, ?_, ?_, ?_, ho.rp⟩
   ·show (d.evs ++ [LE.mk A7 c7 L7]).map _ = _
    rw [List.map_append, ho.he]; simp [hL7]
   ·intro e he
    rcases List.mem_append.1 he with he | he
    ·exact ho.re e he
    ·obtain rfl : e = ⟨A7, c7, L7⟩ := by simpa using he
     exact Und.head
   ·show Row _ _ _ (d.evs ++ [LE.mk A7 c7 L7]).length (evL (d.evs ++ [LE.mk A7 c7 L7])) _
    rw [evL_app, List.length_append]; exact hrow8
  have hinv2 : InvC ⟨s.B, s.fresh, s.fuel, s.goals, s.ch, s.ev ++ [D'.ts.tidy]⟩ := ⟨hI.bok, hI.gb, hI.ch, hI.fr, hI.bl⟩
  by_cases h12 : s.ev.length + 1 = 12
  ·rw [if_pos h12] at hans
   rw [hans]
   refine Zau ?_
   refine Zam ?_
   refine Zfz ?_
   refine ZaD ?_
   clear hS
   intro wx2 hS
   refine ZcG ?_
   refine Zbg ?_
   refine Zbn ?_
   refine ZdJ ?_
   refine goes_ret1 Tryz.func19 rfl (by conv=>lhs;whnf) ?_
   exact ⟨rfl, hs2 _ hS⟩
  ·rw [if_neg h12] at hans
   rw [hans]
   refine Zau ?_
   refine Zam ?_
   refine Zfz ?_
   refine ZaD ?_
   clear hS
   intro wx2 hS
   refine ZcG ?_
   refine Zbg ?_
   refine Zbn ?_
   refine ZaU ?_
   refine Zap ?_
   refine Calls.mono (retry_any _ _ hinv2 (hs2 _ hS)) ?_
   rintro _ w9 ⟨rfl, hq⟩
   refine ZB ?_
   refine goes_ret1 Tryz.func19 rfl (by conv=>lhs;whnf) ?_
   exact ⟨rfl, hq⟩
 | succ m =>
  obtain ⟨r0, r1, r2, r3, rs, rfl⟩ : ∃ r0 r1 r2 r3 rs', rs = [r0, r1, r2, r3] ++ rs' := by
   match rs, hrs with
   | r0 :: r1 :: r2 :: r3 :: rs', _ => exact ⟨r0, r1, r2, r3, rs', rfl⟩
   | [], h => simp at h
   | [_], h => simp at h; omega
   | [_, _], h => simp at h; omega
   | [_, _, _], h => simp at h; omega
  rw [varsM_succ] at hvm
  have hcall := ap_said 201 M w0 ((g, .cells (tcsL D' ++ ([r0, r1, r2, r3] ++ rs)).toArray 60) :: (d.O ++ (d.O2 ++ (d.O3 ++ H)))) F' b d.mb d.clk d.es d.TR (srest P pA pc vars s.fresh s.fuel (ptrOf d.gs) d.CH d.EV) d.O d.G ⟨0, (D'.len : Nat), ⟨#[]⟩, none, 0, .nil⟩ li
  rw [hok.hB, show (LT.mk 0 (D'.len : Nat) ⟨#[]⟩ none 0 .nil).tm = ⟨0, (D'.len : Nat), ⟨#[]⟩, .nil⟩ from rfl] at hcall
  have hz : Und F' (LRd ⟨0, (D'.len : Nat), ⟨#[]⟩, none, 0, .nil⟩) := fun w _ => ⟨Nat.le_refl _, fun h => by simp [TA.len] at h⟩
  cases hap : appM s.B 201 ⟨0, (D'.len : Nat), ⟨#[]⟩, .nil⟩ li with
  | none =>
   rw [hap, Option.bind_none, Option.map_none] at hvm
   have e : answerM vars s = (4, s) := by unfold answerM; rw [hvm]
   rw [e]
   rw [hap] at hcall
   refine ZaO ?_
   refine Zj ?_
   refine Zdg ?_
   refine Za5 ?_
   refine Zf ?_
   refine Zcn ?_
   refine Zf ?_
   refine Zs ?_
   refine Zgp ?_
   rintro _ w7 ⟨F2, hF2, rfl, hS'⟩
   refine Za ?_
   replace hS := hS'
   clear hS'
   replace hS := hS.perm (List.perm_append_comm_assoc [_, _] [_] _)
   refine Zaf ?_
   refine Zas ?_
   refine lst_storeN hS rfl (by conv=>lhs;whnf) rfl rfl .head (putN_mid (tcsL D') [r0, r1, r2, r3] [.int .i64 0, .int .i64 0, .string ⟨#[]⟩, .slice none 0 0] rs _ (by omega) rfl) .head ?_
   clear hS
   intro w8 hS
   refine ZcN ?_
   refine Zdp ?_
   refine goes_ret1 Tryz.func19 rfl (by conv=>lhs;whnf) ?_
   exact ⟨rfl, d, F2, fun φ h => hF2 φ (hFF' φ (hFF φ h)), hok'.mono hF2, hS.drop⟩
  | some p =>
   obtain ⟨p1, lp⟩ := p
   have hlp := app_nodes _ _ _ _ hap
   rw [hap, Option.bind_some] at hvm
   rw [hap] at hcall
   refine ZaO ?_
   refine Zj ?_
   refine Zdg ?_
   refine Za5 ?_
   refine Zf ?_
   refine Zcn ?_
   refine Zf ?_
   refine Zs ?_
   refine Zgp ?_
   rintro _ w7 ⟨F2, hF2, ⟨u2, hu2, hru2, rfl⟩, hS'⟩
   refine Za ?_
   replace hS := hS'
   clear hS'
   replace hS := hS.perm (List.perm_append_comm_assoc [_, _] [_] _)
   refine Zaf ?_
   refine Zas ?_
   refine lst_storeN hS rfl (by conv=>lhs;whnf) rfl rfl .head (putN_mid (tcsL D') [r0, r1, r2, r3] (tcs u2) rs _ (by omega) rfl) .head ?_
   clear hS
   intro w8 hS
   refine ZcN ?_
   refine Zdq ?_
   refine ih (m) _ _ _ _ ?_ ?_ (by conv=>lhs;whnf) (by conv=>lhs;whnf) (by kernel_rfl)
   ·omega
   ·refine ⟨D'.app (.cons u2.k u2.n u2.s u2.A u2.c u2.ar .nil), rs, lp, F2, by rw [TA.len_app]; simp only [TA.len]; omega, by simp at hrs; omega, by rw [TA.len_app]; rfl, rfl, by omega, ?_, fun φ h => hF2 φ (hFF' φ h), ?_, ?_⟩
    ·rw [hvm, Option.map_map, TA.app_ts, TA.len_app]
     congr 1
     funext q
     show (D'.ts.app (.cons p1.k p1.n p1.s p1.ar q.1), q.2) = ((D'.ts.app (.cons u2.k u2.n u2.s u2.ar.ts .nil)).app q.1, q.2)
     rw [← hu2, Ts.app_assoc]; rfl
    ·exact fun w hw => AllR.app (U := .cons u2.k u2.n u2.s u2.A u2.c u2.ar .nil) ⟨hru2 w hw, trivial⟩ ((hAR.mono hF2) w hw)
    ·rw [tcsL_app, List.append_assoc]
     exact hS
end
end Go.Proofs.YthliapbflkfdiabGreat
namespace Go.Proofs.YthliapbflkfdiabGreat
open Go.RowKit
set_option linter.unusedVariables false
set_option linter.unusedSimpArgs false
set_option maxRecDepth 100000
set_option maxHeartbeats 1000000
section
variable {M : List Nat} {w0 : World} {H : List (Nat × Obj)} {F0 : List (World → Prop)} {b : Nat} {P : List LC} {pA : Option Addr} {pc vars : Nat}
theorem sstep_any (s : SS) (w : World) (hI : Inv s) (hv8 : vars ≤ 8) (hev : s.ev.length < 12) (hp : pB (P.map LC.cl) = true) (hs : SSt M w0 H F0 b P pA pc vars s w) :
  Calls Tryz.prog 12 #[pt b] w fun e w' => e = .returned (.int .i64 (stepM (P.map LC.cl) vars s).1) ∧ SSt M w0 H F0 b P pA pc vars (stepM (P.map LC.cl) vars s).2 w' := by
 have hp2 : P.length ≤ 24 ∧ ∀ x ∈ P.map LC.cl, cB x = true := by
  unfold pB at hp
  simp only [Bool.and_eq_true, decide_eq_true_eq, List.all_eq_true, List.length_map] at hp
  exact hp
 obtain ⟨d, F, hFF, hok, hS⟩ := hs
 obtain ⟨G, mb, es, clk, TR, O, gs, cs, CH, O2, evs, EV, O3⟩ := d
 have hhg : glsOf gs = s.goals := hok.hg
 dsimp only at hS
 refine goes_enter1 Tryz.func12 rfl Tryz.ntmps12 rfl ?_
 cases gs with
 | nil =>
  have hg0 : s.goals = [] := hhg.symm
  have e : stepM (P.map LC.cl) vars s = answerM vars s := by unfold stepM; rw [hg0]
  rw [e]
  refine Zba ?_
  refine Zd6 ?_
  refine ZS ?_
  refine ZfA ?_
  refine Zt ?_
  refine Zap ?_
  refine Calls.mono (answer_any s _ hI.c hv8 hev ⟨_, F, hFF, hok, hS⟩) ?_
  rintro _ w9 ⟨rfl, hq⟩
  refine ZB ?_
  refine Zd7 ?_
  exact ⟨rfl, hq⟩
 | cons g gs =>
  have hg1 : s.goals = (g.t.tm, g.o) :: glsOf gs := hhg.symm
  by_cases hf0 : s.fuel = 0
  ·have e : stepM (P.map LC.cl) vars s = (3, s) := by unfold stepM; rw [hg1]; simp only; rw [if_pos hf0]
   rw [e]
   refine Zba ?_
   refine Zd6 ?_
   refine ZS ?_
   refine ZfA ?_
   refine Zv ?_
   refine Zal ?_
   refine Zbz ?_
   refine ZS ?_
   refine ZdJ ?_
   refine Zd7 ?_
   exact ⟨rfl, _, F, hFF, hok, hS⟩
  obtain ⟨i1, i2, i3, i4, i5, i6, i7⟩ := popped_inv hI hg1 hf0
  have hfr := hI.c.fr
  have hbl := hI.c.bl
  unfold mu at hfr hbl
  have hrg : Und F (PR (g :: gs)) := hok.rg
  have hpc : ∀ {H'} w', St M w0 H' F w' → _ := fun w' hS => (hS.und hrg).cells
  have hst : stepM (P.map LC.cl) vars s = if builtB g.t.s.toList g.t.ar.ts.length = true then builtM (g.t.tm, g.o) ⟨s.B, s.fresh, s.fuel - 1, glsOf gs, s.ch, s.ev⟩ else match (P.map LC.cl).filter (fitsC g.t.tm) with
    | [] => (5, ⟨s.B, s.fresh, s.fuel - 1, glsOf gs, s.ch, s.ev⟩)
    | c :: cs => againM ⟨s.B, s.fresh, s.fuel - 1, glsOf gs, ⟨(g.t.tm, g.o), glsOf gs, c :: cs, s.B.length⟩ :: s.ch, s.ev⟩ := by
   conv => lhs; unfold stepM
   rw [hg1]
   simp only
   rw [if_neg hf0]
   rfl
  rw [TA.len_ts] at hst
  have hok2 : SOk P pA pc ⟨s.B, s.fresh, s.fuel - 1, glsOf gs, s.ch, s.ev⟩ ⟨G, mb, es, clk, TR, O, gs, cs, CH, O2, evs, EV, O3⟩ F := ⟨hok.bm, hok.hB, rfl, hrg.imp fun w h => h.2.2, hok.hc, hok.rc, hok.row2, hok.he, hok.re, hok.row3, hok.rp⟩
  have hfu : ((s.fuel : Nat) : Int) - 1 = ((s.fuel - 1 : Nat) : Int) := by omega
  refine Zba ?_
  refine Zd6 ?_
  refine Zci ?_
  refine ZfA ?_
  refine Zv ?_
  refine Zal ?_
  refine Zbz ?_
  refine Zci ?_
  refine ZaU ?_
  refine ZK ?_
  refine Zbz ?_
  refine Zci ?_
  refine ZaH ?_
  refine ZE ?_
  refine Zbz ?_
  refine ZA ?_
  clear hS
  intro wx1 hS
  refine Zb ?_
  refine ZK ?_
  refine Zd6 ?_
  refine Zci ?_
  refine Zd ?_
  refine ZD ?_
  refine ZE ?_
  refine Zbz ?_
  refine Zci ?_
  refine ZE ?_
  refine Zd6 ?_
  refine ZA ?_
  clear hS
  intro wx2 hS
  refine ZcG ?_
  refine ZX ?_
  refine Zgq ?_
  rw [hfu] at hS
  refine Zl ?_
  refine Calls.mono (builtin_any g.t.k g.t.n g.t.s g.t.A g.t.ar.len g.t.c _) ?_
  rintro _ w5 ⟨rfl, hb5⟩
  refine Za ?_
  replace hS := hS.grow hb5
  have hs2 : St M w0 ((b, sob mb TR (srest P pA pc vars s.fresh (s.fuel - 1) (ptrOf gs) CH EV)) :: (mb, .map es clk) :: (O ++ (O2 ++ (O3 ++ H)))) F w5 := hS
  clear hS
  have hS := hs2
  clear hs2
  cases hbt : builtB g.t.s.toList g.t.ar.len with
  | true =>
   rw [if_pos hbt] at hst
   rw [hst]
   refine Zt ?_
   refine ZaY ?_
   refine Calls.mono (builtin_r _ g gs _ i1 i2 i6 i5 hbt hrg hFF hok2 hS) ?_
   rintro _ w9 ⟨rfl, hq⟩
   refine ZB ?_
   refine Zd7 ?_
   exact ⟨rfl, hq⟩
  | false =>
   rw [if_neg (by rw [hbt]; decide)] at hst
   rw [hst, ← fitL_eq]
   refine Zv ?_
   refine ZD ?_
   refine Za5 ?_
   refine Zgq ?_
   refine Zm ?_
   refine Calls.mono (matching_any P pA pc g.t _ hok.rp hp2.1 hS) ?_
   rintro _ w6 ⟨cA, cc, F2, rfl, hF2, hcl, hS'⟩
   refine Za ?_
   replace hS := hS'
   clear hS'
   have hfl := List.length_filter_le (fitL g.t) P
   have hsubP : ∀ x ∈ P.filter (fitL g.t), x ∈ P := fun x hx => (List.mem_filter.1 hx).1
   generalize P.filter (fitL g.t) = L at *
   cases L with
   | nil =>
    refine Z0 ?_
    refine Zy ?_
    refine ZdJ ?_
    refine Zd7 ?_
    exact ⟨rfl, _, F2, fun φ h => hF2 φ (hFF φ h), hok2.mono hF2, hS⟩
   | cons c0 cs0 =>
    have hok3 := hok2.mono hF2
    have hrow2 : Row 72 3 CH cs.length (chL cs.reverse) O2 := hok.row2
    have hlc : cs.length = s.ch.length := by rw [← hok.hc]; simp
    have hcl2 := hI.c.ch.len
    obtain ⟨A1, c1, hTR⟩ := hok.bm.row.form
    dsimp only at hTR
    subst hTR
    have hbl2 : G.length = s.B.length := by rw [← hok.hB]; exact (bnd_len G).symm
    have hp3 := push_inv (c := c0.cl) (cs := cs0.map LC.cl) hI hg1 hf0 (fun x hx => by
     have : x ∈ (c0 :: cs0).map LC.cl := hx
     obtain ⟨y, hy, rfl⟩ := List.mem_map.1 this
     exact hp2.2 _ (List.mem_map.2 ⟨y, hsubP y hy, rfl⟩)) (by simp at hfl ⊢; omega)
    refine Z0 ?_
    refine Zy ?_
    refine ZaU ?_
    refine Zi ?_
    refine goes_draw (St _ w0 [_] []) 18 ((0, true) :: (1, true) :: (2, true) :: (3, true) :: (4, true) :: (5, true) :: (6, true) :: (7, true) :: (8, true) :: (9, true) :: (10, true) :: (11, true) :: (12, true) :: (13, true) :: (14, false) :: (15, false) :: (16, true) :: (17, true) :: []) (by kernel_rfl) (by kernel_rfl) (hS.drew.bare1) ?_
    replace hS := hS.drew
    refine Zb9 ?_
    refine Zbx ?_
    refine ZeH ?_
    refine Zae ?_
    refine Z1 ?_
    refine Zbd ?_
    refine ZeH ?_
    refine ZeR ?_
    refine Zgr ?_
    refine Zr ?_
    refine Zco ?_
    clear hS
    intro b1 wx3 hS
    refine Zau ?_
    refine Zr ?_
    refine lst_app (sz := 3) (bts := 40) hS (by conv=>lhs;whnf) rfl rfl rfl rfl (hrow2) rfl rfl (.cons _ (perm_out2 [_, _] _ _ _)) (by omega) (by omega) rfl ?_
    clear hS
    intro v8 O8 w9 hrow8 hS
    obtain ⟨A8, c8, rfl⟩ := hrow8.form
    replace hS := hS.perm (perm_out2 [_, _] _ _ _).symm
    refine Zau ?_
    refine Zam ?_
    refine Zbx ?_
    refine ZaD ?_
    clear hS
    intro wx4 hS
    refine Zcg ?_
    have hs3 : ∀ w', St M w0 ((b, sob mb (.slice A1 G.length c1) (srest P pA pc vars s.fresh (s.fuel - 1) (ptrOf gs) (.slice A8 (cs.length + 1) c8) EV)) :: (mb, .map es clk) :: (O ++ (O8 ++ (O3 ++ H)))) F2 w' → SSt M w0 H F0 b P pA pc vars ⟨s.B, s.fresh, s.fuel - 1, glsOf gs, ⟨(g.t.tm, g.o), glsOf gs, (c0 :: cs0).map LC.cl, s.B.length⟩ :: s.ch, s.ev⟩ w' := fun w' hS => by
     refine ⟨⟨G, mb, es, clk, .slice A1 G.length c1, O, gs, ⟨g, gs, cA, cc, c0 :: cs0, G.length⟩ :: cs, .slice A8 (cs.length + 1) c8, O8, evs, EV, O3⟩, F2, fun φ h => hF2 φ (hFF φ h), ?_, hS⟩
     refine ⟨hok3.bm, hok3.hB, hok3.hg, hok3.rg, ?_, ?_, ?_, hok3.he, hok3.re, hok3.row3, hok3.rp⟩
     ·show LCh.ch ⟨g, gs, cA, cc, c0 :: cs0, G.length⟩ :: cs.map LCh.ch = _
      rw [show cs.map LCh.ch = s.ch from hok.hc, ← hbl2]; rfl
     ·intro c hc
      rcases List.mem_cons.1 hc with rfl | hc
      ·exact fun w hw => ⟨hrg.mono hF2 w hw, hcl w hw⟩
      ·exact hok3.rc c hc
     ·show Row _ _ _ (cs.length + 1) (chL (LCh.mk g gs cA cc (c0 :: cs0) G.length :: cs).reverse) _
      rw [List.reverse_cons, chL_app]; exact hrow8
    refine Zl ?_
    refine Calls.mono (retry_any _ _ hp3.1 (hs3 _ hS)) ?_
    rintro _ w10 ⟨rfl, hq⟩
    refine ZB ?_
    refine Zd7 ?_
    exact ⟨rfl, hq⟩
end
end Go.Proofs.YthliapbflkfdiabGreat
namespace Go.Proofs.YthliapbflkfdiabGreat
open Go.RowKit
set_option linter.unusedVariables false
set_option linter.unusedSimpArgs false
set_option maxRecDepth 100000
set_option maxHeartbeats 1000000
structure KE where
 k : Int
 A : Option Addr
 c : Nat
 T : TA
def KE.ev (x : KE) : Ev := (x.k, x.T.ts)
abbrev kecs (x : KE) : List Value := [.int .i64 x.k, .slice x.A x.T.len x.c]
def keL : List KE → List Value
 | [] => []
 | x :: r => kecs x ++ keL r
theorem keL_app (a b : List KE) : keL (a ++ b) = keL a ++ keL b := by
 induction a with
 | nil => rfl
 | cons c r ih => simp [keL, ih]
theorem evL_ke (l : List LE) : evL l = keL (l.map fun e => ⟨1, e.A, e.c, e.T⟩) := by
 induction l with
 | nil => rfl
 | cons c r ih => simp [evL, keL, ih]
def KEAt (w : World) (b : Nat) : List KE → Nat → Prop
 | [], _ => True
 | x :: r, o => w.cell? ⟨b, o, none⟩ = some (.int .i64 x.k) ∧ w.cell? ⟨b, o + 1, none⟩ = some (.slice x.A x.T.len x.c) ∧ KEAt w b r (o + 2)
def KER (L : List KE) (A : Option Addr) (c : Nat) (w : World) : Prop := L.length ≤ c ∧ (0 < L.length → ∃ b o, A = some ⟨b, o, none⟩ ∧ KEAt w b L o) ∧ ∀ x ∈ L, ArA x.A x.c x.T w
theorem KEAt.skip {w : World} {b : Nat} {R : List KE} : ∀ {D : List KE} {o : Nat}, KEAt w b (D ++ R) o → KEAt w b R (o + D.length * 2)
 | [], o, h => by simpa using h
 | c :: D, o, ⟨_, _, h⟩ => by
  have := KEAt.skip (R := R) (D := D) h
  rwa [show o + 2 + D.length * 2 = o + (c :: D).length * 2 by simp; omega] at this
theorem KER.some_ {L : List KE} {A : Option Addr} {c : Nat} {w : World} (h : KER L A c w) (hl : 0 < L.length) : ∃ b o, A = some ⟨b, o, none⟩ := by
 obtain ⟨b, o, e, _⟩ := h.2.1 hl
 exact ⟨b, o, e⟩
theorem KER.cells {D R : List KE} {x : KE} {b o c : Nat} {w : World} (h : KER (D ++ x :: R) (some ⟨b, o, none⟩) c w) : w.cell? ⟨b, o + D.length * 2, none⟩ = some (.int .i64 x.k) ∧ w.cell? ⟨b, o + D.length * 2 + 1, none⟩ = some (.slice x.A x.T.len x.c) := by
 obtain ⟨b', o', e, hs⟩ := h.2.1 (by simp; omega)
 simp only [Option.some.injEq, Addr.mk.injEq, and_true] at e
 obtain ⟨rfl, rfl⟩ := e
 obtain ⟨h0, h1, _⟩ := hs.skip
 exact ⟨h0, h1⟩
theorem keAt_of {w : World} {b : Nat} : ∀ {L : List KE} {o : Nat}, (∀ j u, (keL L)[j]? = some u → w.cell? ⟨b, o + j, none⟩ = some u) → KEAt w b L o
 | [], _, _ => trivial
 | c :: r, o, h => ⟨h 0 _ rfl, h 1 _ rfl, keAt_of fun j u hu => by
     rw [show o + 2 + j = o + (j + 2) by omega]
     exact h (j + 2) u (by simpa [keL] using hu)⟩
theorem St.freezeK {M : List Nat} {w0 w : World} {H O : List (Nat × Obj)} {F : List (World → Prop)} {el : Nat} {A : Option Addr} {c : Nat} {L : List KE} (hr : Row el 2 (.slice A L.length c) L.length (keL L) O) (hR : ∀ x ∈ L, Und F (ArA x.A x.c x.T)) (hS : St M w0 (O ++ H) F w) :
  ∃ F', (∀ φ ∈ F, φ ∈ F') ∧ Und F' (KER L A c) ∧ St M w0 H F' w := by
 obtain ⟨F', h1, h2, h3⟩ := St.freezeL hS
 refine ⟨F', h1, fun w' hw' => ⟨hr.cap, fun hl => ?_, fun x hx => (hR x hx).mono h1 w' hw'⟩, h3⟩
 obtain ⟨g, sp, rfl, rfl, _⟩ := hr.some_ hl
 refine ⟨g, 0, rfl, keAt_of fun j u hu => ?_⟩
 have hjl : j < (keL L).length := by
  rcases Nat.lt_or_ge j (keL L).length with hh | hh
  ·exact hh
  ·rw [List.getElem?_eq_none hh] at hu; cases hu
 rw [cell_own (h2 _ (.head _) w' hw'), Nat.zero_add, List.getElem?_append_left hjl]; exact hu
section
variable {M : List Nat} {w0 : World} {H : List (Nat × Obj)} {F : List (World → Prop)}
theorem newSearch_any (P : List LC) (pA : Option Addr) (pc : Nat) (q : TA) (qA : Option Addr) (qc : Nat) (vars fuel : Nat) (w : World) (hP : Und F (ClsR P pA pc)) (hq : Und F (ArA qA qc q)) (hn : q.ts.nodes < 1048576) (hS : St M w0 H F w) :
  Calls Tryz.prog 11 #[.slice pA P.length pc, .slice qA q.len qc, .int .i64 (vars : Nat), .int .i64 (fuel : Nat)] w fun e w' => ∃ b, e = .returned (pt b) ∧ SSt M w0 H F b P pA pc vars (startM q.ts vars fuel) w' := by
 refine goes_enter4 Tryz.func11 rfl Tryz.ntmps11 rfl ?_
 refine Zj ?_
 refine Zg ?_
 refine lst_makeMap hS rfl ?_
 clear hS
 intro mb w2 hS
 refine Zew ?_
 refine ZO ?_
 refine ZO ?_
 refine Zf ?_
 refine Zc1 ?_
 refine Calls.mono (before_any q qA qc 0 0 [] _ hq hn (fun _ _ => trivial) hS) ?_
 rintro _ w3 ⟨gs, F2, rfl, hgs, hF2, hrg, hS'⟩
 refine Za ?_
 replace hS := hS'
 clear hS'
 refine lst_run (run_build (cells := [_, _, _, _, _, _, _, _, _]) (.cons (by conv=>lhs;whnf) (.cons (by conv=>lhs;whnf) (.cons (by conv=>lhs;whnf) (.cons (by conv=>lhs;whnf) (.cons (by conv=>lhs;whnf) (.cons (by conv=>lhs;whnf) .nil)))))) rfl) rfl ?_
 refine Zaq ?_
 clear hS
 intro b1 wx1 hS
 refine Zd ?_
 refine goes_ret1 Tryz.func11 rfl (by conv=>lhs;whnf) ?_
 refine ⟨b1, rfl, ⟨[], mb, #[], 0, .slice none 0 0, [], gs, [], .slice none 0 0, [], [], .slice none 0 0, []⟩, F2, hF2, ?_, hS⟩
 exact ⟨⟨rfl, Row.nil_, fun _ _ x hx => (by cases hx), trivial⟩, rfl, hgs, hrg, rfl, fun _ h => (by cases h), Row.nil_, rfl, fun _ h => (by cases h), Row.nil_, hP.mono hF2⟩
theorem runM_succ (p : List Cl) (vars n : Nat) (s : SS) : runM p vars (n + 1) s = if (stepM p vars s).1 = 0 then runM p vars n (stepM p vars s).2 else evsOf (stepM p vars s).2.ev ++ [((stepM p vars s).1, .nil)] := rfl
theorem all_any (P : List LC) (pA : Option Addr) (pc : Nat) (q : TA) (qA : Option Addr) (qc : Nat) (vars fuel : Int) (w : World) (hP : Und F (ClsR P pA pc)) (hq : Und F (ArA qA qc q))
  (hgp : ∀ w', St M w0 H F w' → Calls Tryz.prog 9 #[.slice pA P.length pc] w' fun e w'' => e = .returned (.bool (pB (P.map LC.cl))) ∧ Below w'.heap.size w' w'')
  (hgq : ∀ w', St M w0 H F w' → Calls Tryz.prog 10 #[.slice qA q.len qc, .int .i64 vars] w' fun e w'' => e = .returned (.bool (qB vars q.ts)) ∧ Below w'.heap.size w' w'') (hS : St M w0 H F w) :
  Calls Tryz.prog 4 #[.slice pA P.length pc, .slice qA q.len qc, .int .i64 vars, .int .i64 fuel] w fun e w' => ∃ (A : Option Addr) (c : Nat) (L : List KE) (F' : List (World → Prop)), e = .returned (.tuple #[.slice A L.length c, .int .i64 (allM (P.map LC.cl) q.ts vars fuel).2]) ∧ L.map KE.ev = (allM (P.map LC.cl) q.ts vars fuel).1 ∧ (∀ φ ∈ F, φ ∈ F') ∧ Und F' (KER L A c) ∧ St M w0 H F' w' := by
 have hnil : ∀ w : World, KER [] none 0 w := fun w => ⟨Nat.le_refl _, fun h => by simp at h, fun x hx => by cases hx⟩
 have hall : allM (P.map LC.cl) q.ts vars fuel = if pB (P.map LC.cl) = false ∨ qB vars q.ts = false then ([], 1) else if fuel < 0 ∨ 150 < fuel then ([], 2) else (runM (P.map LC.cl) vars.toNat 4000 (startM q.ts vars.toNat fuel.toNat), 0) := rfl
 refine goes_enter4 Tryz.func4 rfl Tryz.ntmps4 rfl ?_
 refine Zg ?_
 refine Zaz ?_
 refine Zl ?_
 refine Calls.mono (hgp _ hS) ?_
 rintro _ w3 ⟨rfl, hb3⟩
 refine Za ?_
 replace hS := hS.grow hb3
 cases hpB : pB (P.map LC.cl) with
 | false =>
  rw [if_pos (.inl hpB)] at hall
  rw [hall]
  refine ZY ?_
  refine Zbk ?_
  refine ZbN ?_
  refine Zd8 ?_
  exact ⟨none, 0, [], F, rfl, rfl, fun _ h => h, fun w _ => hnil w, hS⟩
 | true =>
 refine ZdE ?_
 refine Zp ?_
 refine Zm ?_
 refine Calls.mono (hgq _ hS) ?_
 rintro _ w4 ⟨rfl, hb4⟩
 refine Za ?_
 replace hS := hS.grow hb4
 cases hqB : qB vars q.ts with
 | false =>
  rw [if_pos (.inr hqB)] at hall
  rw [hall]
  refine Zcv ?_
  refine ZbN ?_
  refine Zd8 ?_
  exact ⟨none, 0, [], F, rfl, rfl, fun _ h => h, fun w _ => hnil w, hS⟩
 | true =>
 rw [if_neg (by rw [hpB, hqB]; simp)] at hall
 by_cases hf1 : fuel < 0
 ·rw [if_pos (.inl hf1)] at hall
  rw [hall]
  refine ZcO ?_
  refine ZaI ?_
  refine ZbN ?_
  refine Zd8 ?_
  exact ⟨none, 0, [], F, rfl, rfl, fun _ h => h, fun w _ => hnil w, hS⟩
 by_cases hf2 : 150 < fuel
 ·rw [if_pos (.inr hf2)] at hall
  rw [hall]
  refine ZcO ?_
  refine ZbJ ?_
  refine ZbN ?_
  refine Zd8 ?_
  exact ⟨none, 0, [], F, rfl, rfl, fun _ h => h, fun w _ => hnil w, hS⟩
 rw [if_neg (by rintro (h | h) <;> contradiction)] at hall
 obtain ⟨fuel, rfl⟩ : ∃ f : Nat, fuel = f := ⟨fuel.toNat, by omega⟩
 have hqB2 := hqB
 simp only [qB, Bool.and_eq_true, decide_eq_true_eq] at hqB2
 obtain ⟨vars, rfl⟩ : ∃ v : Nat, vars = v := ⟨vars.toNat, by omega⟩
 simp only [Int.toNat_natCast] at hall
 obtain ⟨hsi, hsm⟩ := start_inv hqB (fuel := fuel) (by omega)
 have hnq : q.ts.nodes < 1048576 := by have := goals_nodes _ hqB2.2; omega
 rw [hall]
 generalize hR0 : runM (P.map LC.cl) vars 4000 (startM q.ts vars fuel) = R0
 refine ZcO ?_
 refine ZbJ ?_
 refine Zay ?_
 refine ZD ?_
 refine ZO ?_
 refine Zc1 ?_
 refine Calls.mono (newSearch_any P pA pc q qA qc vars fuel _ hP hq hnq hS) ?_
 rintro _ w5 ⟨b, rfl, hs⟩
 refine Za ?_
 clear hS
 refine Zd ?_
 refine Zj ?_
 refine ZaS ?_
 refine goes_loop1 11 (32 :: 33 :: 34 :: 35 :: []) (fun (x : Nat × SS × Int) v w' => v = .int .i64 x.2.2 ∧ SSt M w0 H F b P pA pc vars x.2.1 w' ∧ (x.2.2 = 0 → Inv x.2.1 ∧ x.2.1.ev.length < 12 ∧ mu x.2.1 < x.1 ∧ R0 = runM (P.map LC.cl) vars x.1 x.2.1) ∧ (x.2.2 ≠ 0 → R0 = evsOf x.2.1.ev ++ [(x.2.2, .nil)]) ∧ x.2.1.ev.length ≤ 12) (fun x => if x.2.2 = 0 then mu x.2.1 + 1 else 0) ((4000, startM q.ts vars fuel, 0)) ?_ (by conv=>lhs;whnf) ?_
 ·exact ⟨rfl, hs, fun _ => ⟨hsi, by simp [startM], by show mu (startM q.ts vars fuel) < 4000; omega, hR0.symm⟩, fun h => absurd rfl h, by simp [startM]⟩
 clear hs
 rintro ⟨n, s, k⟩ _ w6 jv ⟨rfl, hs, h0, h1, hev⟩ ih
 dsimp only at hs h0 h1 hev
 by_cases hk : k = 0
 ·subst hk
  obtain ⟨hI, hev2, hmu, hrun⟩ := h0 rfl
  obtain ⟨n, rfl⟩ : ∃ n', n = n' + 1 := ⟨n - 1, by omega⟩
  obtain ⟨hst, hst2⟩ := step_ok (p := P.map LC.cl) (vars := vars) hI hev2 hpB
  have hev3 := step_ev (P.map LC.cl) vars s hI hev2 hpB
  rw [runM_succ] at hrun
  refine ZC ?_
  refine Zb0 ?_
  refine Zbu ?_
  refine ZaP ?_
  refine ZW ?_
  refine Zl ?_
  refine Calls.mono (sstep_any s _ hI (by omega) hev2 hpB hs) ?_
  rintro _ w7 ⟨rfl, hs'⟩
  refine ZB ?_
  refine Zbv ?_
  refine ih ((n, (stepM (P.map LC.cl) vars s).2, (stepM (P.map LC.cl) vars s).1)) _ _ _ ?_ ?_ (by conv=>lhs;whnf) (by kernel_rfl)
  ·dsimp only
   rw [if_pos rfl]
   split
   ·rename_i h; have := (hst.go h).2; omega
   ·omega
  ·refine ⟨rfl, hs', fun h => ⟨(hst.go h).1, hst2 h, by have := (hst.go h).2; dsimp only; omega, ?_⟩, fun h => ?_, hev3⟩
   ·rw [hrun, if_pos h]
   ·rw [hrun, if_neg h]
 ·obtain ⟨d, F2, hFF, hok, hS⟩ := hs
  have hrow3 := hok.row3
  have hle : d.evs.length = s.ev.length := by rw [← hok.he]; simp
  refine ZC ?_
  refine ZF ?_
  refine Za7 ?_
  refine ZK ?_
  refine Zbg ?_
  refine Za8 ?_
  refine Zew ?_
  refine ZeT ?_
  clear hS
  intro b1 wx1 hS
  refine Zgs ?_
  clear hS
  intro v8 O8 w9 hrow8 hS
  obtain ⟨A8, c8, rfl⟩ := hrow8.form
  refine Zk ?_
  refine Zd8 ?_
  have hlk : evL d.evs ++ [.int .i64 k, .slice none 0 0] = keL (d.evs.map (fun (e : LE) => (⟨1, e.A, e.c, e.T⟩ : KE)) ++ [(⟨k, none, 0, .nil⟩ : KE)]) := by rw [keL_app, evL_ke]; rfl
  have hll : (d.evs.map (fun (e : LE) => (⟨1, e.A, e.c, e.T⟩ : KE)) ++ [(⟨k, none, 0, .nil⟩ : KE)]).length = d.evs.length + 1 := by simp
  obtain ⟨F3, g1, g2, g3⟩ := St.freezeK (L := List.map (fun (e : LE) => (⟨1, e.A, e.c, e.T⟩ : KE)) d.evs ++ [(⟨k, none, 0, .nil⟩ : KE)]) (A := A8) (c := c8) (by rw [hll, ← hlk]; exact hrow8) (fun x hx => by
   rcases List.mem_append.1 hx with hx | hx
   ·obtain ⟨e, he, rfl⟩ := List.mem_map.1 hx
    exact hok.re e he
   ·obtain rfl : x = ⟨k, none, 0, .nil⟩ := by simpa using hx
    exact fun w _ => ⟨Nat.le_refl _, fun h => by simp [TA.len] at h⟩) hS
  refine ⟨A8, c8, _, F3, by rw [hll], ?_, fun φ h => g1 φ (hFF φ h), g2, St.dropL (L := d.O2) (St.dropL (L := d.O) g3.drop.drop)⟩
  rw [h1 hk, ← hok.he]
  simp [evsOf, KE.ev, TA.ts]
end
end Go.Proofs.YthliapbflkfdiabGreat
namespace Go.Proofs.YthliapbflkfdiabGreat
open Go.RowKit
set_option linter.unusedVariables false
set_option linter.unusedSimpArgs false
structure LB where
 cl : Cl
 A : Option Addr
 c : Nat
 B : Option Addr
 d : Nat
abbrev lbcs (b : LB) : List Value := [.slice b.A (blockC b.cl).length b.c, .int .i64 b.cl.vars, .int .i64 b.cl.vars, .slice b.B (goalsC b.cl).length b.d]
def lbL : List LB → List Value
 | [] => []
 | b :: r => lbcs b ++ lbL r
theorem lbL_app (a b : List LB) : lbL (a ++ b) = lbL a ++ lbL b := by
 induction a with
 | nil => rfl
 | cons c r ih => simp [lbL, ih]
theorem lbL_len (a : List LB) : (lbL a).length = a.length * 4 := by
 induction a with
 | nil => rfl
 | cons c r ih => simp [lbL, ih]; omega
def LBRd (b : LB) (w : World) : Prop := Flat 3 (hcsL (blockC b.cl)) b.A (blockC b.cl).length b.c w ∧ Flat 1 (intsV (goalsC b.cl)) b.B (goalsC b.cl).length b.d w
def LBR (L : List LB) (A : Option Addr) (c : Nat) (w : World) : Prop := Flat 4 (lbL L) A L.length c w ∧ ∀ x ∈ L, LBRd x w
theorem LBR.cells {D R : List LB} {x : LB} {b o c : Nat} {w : World} (h : LBR (D ++ x :: R) (some ⟨b, o, none⟩) c w) : w.cell? ⟨b, o + D.length * 4, none⟩ = some (.slice x.A (blockC x.cl).length x.c) ∧ w.cell? ⟨b, o + D.length * 4 + 1, none⟩ = some (.int .i64 x.cl.vars) ∧ w.cell? ⟨b, o + D.length * 4 + 2, none⟩ = some (.int .i64 x.cl.vars) ∧ w.cell? ⟨b, o + D.length * 4 + 3, none⟩ = some (.slice x.B (goalsC x.cl).length x.d) := by
 have key : ∀ j v, (lbcs x)[j]? = some v → (lbL (D ++ x :: R))[D.length * 4 + j]? = some v := by
  intro j v hj
  rw [lbL_app, List.getElem?_append_right (by rw [lbL_len]; omega), lbL_len, show D.length * 4 + j - D.length * 4 = j by omega]
  show (lbcs x ++ lbL R)[j]? = some v
  have hjl : j < (lbcs x).length := by
   rcases Nat.lt_or_ge j (lbcs x).length with h | h
   ·exact h
   ·rw [List.getElem?_eq_none h] at hj; cases hj
  rw [List.getElem?_append_left hjl]; exact hj
 have g := fun j v hj => h.1.get (key j v hj)
 exact ⟨g 0 _ rfl, g 1 _ rfl, g 2 _ rfl, g 3 _ rfl⟩
theorem LBR.some_ {L : List LB} {A : Option Addr} {c : Nat} {w : World} (h : LBR L A c w) (hl : 0 < L.length) : ∃ b o, A = some ⟨b, o, none⟩ := h.1.some_ hl
theorem LBR.drop {L : List LB} {b o c : Nat} {w : World} (h : LBR L (some ⟨b, o, none⟩) c w) (k : Nat) (hk : k ≤ L.length) : LBR (L.drop k) (some ⟨b, o + k * 4, none⟩) (c - k) w := by
 obtain ⟨⟨h1, h2, h3⟩, h4⟩ := h
 have e : lbL (L.drop k) = (lbL L).drop (k * 4) := by
  conv => rhs; rw [← List.take_append_drop k L]
  rw [lbL_app, List.drop_left' (by rw [lbL_len, List.length_take]; omega)]
 refine ⟨⟨by rw [lbL_len], by rw [List.length_drop]; omega, fun hl => ?_⟩, fun x hx => h4 x (List.mem_of_mem_drop hx)⟩
 rw [List.length_drop] at hl
 obtain ⟨b', o', e1, hs⟩ := h3 (by omega)
 simp only [Option.some.injEq, Addr.mk.injEq, and_true] at e1
 obtain ⟨rfl, rfl⟩ := e1
 refine ⟨b, o + k * 4, rfl, fun j u hj => ?_⟩
 rw [e, List.getElem?_drop] at hj
 have := hs _ _ hj
 rwa [show o + (k * 4 + j) = o + k * 4 + j by omega] at this
structure LX where
 at_ : Nat
 cls : List LB
 A : Option Addr
 c : Nat
 cells : Nat
 bound : Nat
def LX.xc (x : LX) : XC := ⟨x.at_, x.cls.map LB.cl, x.cells, x.bound⟩
abbrev xcs (x : LX) : List Value := [.int .i64 (x.at_ : Nat), .slice x.A x.cls.length x.c, .int .i64 (x.cells : Nat), .int .i64 (x.bound : Nat)]
def xcL : List LX → List Value
 | [] => []
 | b :: r => xcs b ++ xcL r
theorem xcL_app (a b : List LX) : xcL (a ++ b) = xcL a ++ xcL b := by
 induction a with
 | nil => rfl
 | cons c r ih => simp [xcL, ih]
theorem xcL_len (a : List LX) : (xcL a).length = a.length * 4 := by
 induction a with
 | nil => rfl
 | cons c r ih => simp [xcL, ih]; omega
abbrev xlcs (l : XL) : List Value := [.int .i64 l.g, .int .i64 (l.o : Nat), .int .i64 l.nx]
def xlL : List XL → List Value
 | [] => []
 | b :: r => xlcs b ++ xlL r
theorem xlL_app (a b : List XL) : xlL (a ++ b) = xlL a ++ xlL b := by
 induction a with
 | nil => rfl
 | cons c r ih => simp [xlL, ih]
theorem xlL_len (a : List XL) : (xlL a).length = a.length * 3 := by
 induction a with
 | nil => rfl
 | cons c r ih => simp [xlL, ih]; omega
theorem xlL_get : ∀ (L : List XL) (i : Nat) (l : XL), L[i]? = some l → (xlL L)[i * 3]? = some (.int .i64 l.g) ∧ (xlL L)[i * 3 + 1]? = some (.int .i64 (l.o : Nat)) ∧ (xlL L)[i * 3 + 2]? = some (.int .i64 l.nx)
 | [], i, l, h => by simp at h
 | x :: r, 0, l, h => by
  simp at h; subst h; exact ⟨rfl, rfl, rfl⟩
 | x :: r, i + 1, l, h => by
  have := xlL_get r i l (by simpa using h)
  rw [show (i + 1) * 3 = i * 3 + 3 by omega]
  exact this
theorem xcL_get : ∀ (L : List LX) (i : Nat) (l : LX), L[i]? = some l → (xcL L)[i * 4]? = some (.int .i64 (l.at_ : Nat)) ∧ (xcL L)[i * 4 + 1]? = some (.slice l.A l.cls.length l.c) ∧ (xcL L)[i * 4 + 2]? = some (.int .i64 (l.cells : Nat)) ∧ (xcL L)[i * 4 + 3]? = some (.int .i64 (l.bound : Nat))
 | [], i, l, h => by simp at h
 | x :: r, 0, l, h => by
  simp at h; subst h; exact ⟨rfl, rfl, rfl, rfl⟩
 | x :: r, i + 1, l, h => by
  have := xcL_get r i l (by simpa using h)
  rw [show (i + 1) * 4 = i * 4 + 4 by omega]
  exact this
theorem Row.cell {el sz len : Nat} {A : Option Addr} {c : Nat} {xs : List Value} {O H : List (Nat × Obj)} {M : List Nat} {w0 w : World} {F : List (World → Prop)} {b o : Nat} {v : Value} {j : Nat} (h : Row el sz (.slice A len c) len xs O) (hS : St M w0 H F w) (hm : ∀ p ∈ O, p ∈ H) (e : A = some ⟨b, o, none⟩) (hj : xs[j]? = some v) : w.cell? ⟨b, o + j, none⟩ = some v := by
 cases h with
 | nil_ => simp at hj
 | own_ hx hc hle hcp =>
  cases e
  have := hS.own _ (hm _ (List.mem_singleton.2 rfl))
  rw [cell_own this, Nat.zero_add, List.getElem?_append_left]
  ·exact hj
  ·rcases Nat.lt_or_ge j xs.length with h | h
   ·exact h
   ·rw [List.getElem?_eq_none h] at hj; cases hj
structure XD where
 hA : Option Addr
 hc : Nat
 hB : Option Addr
 hd : Nat
 LA : Option Addr
 lc : Nat
 O1 : List (Nat × Obj)
 cs : List LX
 CA : Option Addr
 cc : Nat
 O2 : List (Nat × Obj)
 evs : List LE
 EA : Option Addr
 ec : Nat
 O3 : List (Nat × Obj)
structure XOk (P : List LB) (pA : Option Addr) (pc : Nat) (x : XS) (d : XD) (F : List (World → Prop)) : Prop where
 hh : Und F (HFl x.h d.hA d.hc d.hB d.hd)
 row1 : Row 81 3 (.slice d.LA x.ln.length d.lc) x.ln.length (xlL x.ln) d.O1
 hc : d.cs.map LX.xc = x.ch
 rc : ∀ c ∈ d.cs, Und F (LBR c.cls c.A c.c)
 row2 : Row 108 4 (.slice d.CA d.cs.length d.cc) d.cs.length (xcL d.cs.reverse) d.O2
 he : d.evs.map (fun e => e.T.ts) = x.ev
 re : ∀ e ∈ d.evs, Und F (ArA e.A e.c e.T)
 row3 : Row 47 2 (.slice d.EA d.evs.length d.ec) d.evs.length (evL d.evs) d.O3
 rp : Und F (LBR P pA pc)
theorem XOk.mono {P : List LB} {pA : Option Addr} {pc : Nat} {x : XS} {d : XD} {F F' : List (World → Prop)} (h : XOk P pA pc x d F) (hs : ∀ φ ∈ F, φ ∈ F') : XOk P pA pc x d F' :=
 ⟨h.hh.mono hs, h.row1, h.hc, fun c hc => (h.rc c hc).mono hs, h.row2, h.he, fun e he => (h.re e he).mono hs, h.row3, h.rp.mono hs⟩
abbrev mcs (P : List LB) (pA : Option Addr) (pc vars fuel every : Nat) (x : XS) (d : XD) : List Value :=
 [.slice d.hA x.h.cs.length d.hc, .slice d.hB x.h.tr.length d.hd, .slice pA P.length pc, .int .i64 (vars : Nat), .int .i64 (fuel : Nat), .int .i64 (x.goals : Nat), .int .i64 (every : Nat), .slice d.LA x.ln.length d.lc, .int .i64 x.first, .slice d.CA d.cs.length d.cc, .slice d.EA d.evs.length d.ec]
abbrev mob (P : List LB) (pA : Option Addr) (pc vars fuel every : Nat) (x : XS) (d : XD) : Obj := .cells (mcs P pA pc vars fuel every x d).toArray 57
def XSt (M : List Nat) (w0 : World) (H : List (Nat × Obj)) (F0 : List (World → Prop)) (b : Nat) (P : List LB) (pA : Option Addr) (pc vars fuel every : Nat) (x : XS) (w : World) : Prop :=
 ∃ (d : XD) (F : List (World → Prop)), (∀ φ ∈ F0, φ ∈ F) ∧ XOk P pA pc x d F ∧ St M w0 ((b, mob P pA pc vars fuel every x d) :: (d.O1 ++ (d.O2 ++ (d.O3 ++ H)))) F w
end Go.Proofs.YthliapbflkfdiabGreat
namespace Go.Proofs.YthliapbflkfdiabGreat
open Go.RowKit
set_option linter.unusedVariables false
set_option linter.unusedSimpArgs false
set_option maxRecDepth 100000
set_option maxHeartbeats 1000000
abbrev ptm (b : Nat) : Value := .pointer (some ⟨b, 0, none⟩)
section
variable {M : List Nat} {w0 : World} {H : List (Nat × Obj)} {F0 : List (World → Prop)} {b : Nat} {P : List LB} {pA : Option Addr} {pc vars fuel every : Nat}
theorem XOk.setH {x : XS} {d : XD} {F : List (World → Prop)} (h : XOk P pA pc x d F) {h' : HH} {A B : Option Addr} {c e : Nat} (hh : Und F (HFl h' A c B e)) : XOk P pA pc (x.setH h') ⟨A, c, B, e, d.LA, d.lc, d.O1, d.cs, d.CA, d.cc, d.O2, d.evs, d.EA, d.ec, d.O3⟩ F :=
 ⟨hh, h.row1, h.hc, h.rc, h.row2, h.he, h.re, h.row3, h.rp⟩
theorem mload_any (x : XS) (K : List HC) (A2 : Option Addr) (c2 : Nat) (w : World) (hK : Und F0 (Flat 3 (hcsL K) A2 K.length c2)) (hs : XSt M w0 H F0 b P pA pc vars fuel every x w) :
  Calls Tryz.prog 26 #[ptm b, .slice A2 K.length c2] w fun e w' => e = .returned (.int .i64 ((loadH x.h K).2.1 : Nat)) ∧ XSt M w0 H F0 b P pA pc vars fuel every (x.setH (loadH x.h K).1) w' := by
 obtain ⟨d, F, hFF, hok, hS⟩ := hs
 obtain ⟨hA, hc, hB, hd, LA, lc, O1, cs, CA, cc, O2, evs, EA, ec, O3⟩ := d
 have hK' := hK.mono hFF
 refine goes_enter2 Tryz.func26 rfl Tryz.ntmps26 rfl ?_
 refine Zen ?_
 refine Zaj ?_
 refine Zac ?_
 refine Calls.mono (load_any x.h K hA hB A2 hc hd c2 _ hok.hh hK' hS) ?_
 rintro _ w3 ⟨A', c', B', d', F', rfl, hF', hH', hS'⟩
 refine Za ?_
 replace hS := hS'
 clear hS'
 refine Zaf ?_
 refine Zbc ?_
 clear hS
 intro b1 wx1 hS
 refine Zc ?_
 clear hS
 intro wx2 hS
 refine ZcN ?_
 refine Zaj ?_
 refine ZdN ?_
 clear hS
 intro wx3 hS
 refine Zb ?_
 refine Zax ?_
 refine goes_ret1 Tryz.func26 rfl (by conv=>lhs;whnf) ?_
 exact ⟨rfl, _, F', fun φ h => hF' φ (hFF φ h), (hok.mono hF').setH hH', hS.drop⟩
theorem munify_any (x : XS) (i j : Int) (w : World) (hs : XSt M w0 H F0 b P pA pc vars fuel every x w) :
  Calls Tryz.prog 85 #[ptm b, .int .i64 i, .int .i64 j] w fun e w' => e = .returned (.tuple #[.bool (unifyH x.h i j).2.1, .bool (decide ((unifyH x.h i j).2.2 ≠ 0))]) ∧ XSt M w0 H F0 b P pA pc vars fuel every (x.setH (unifyH x.h i j).1) w' := by
 obtain ⟨d, F, hFF, hok, hS⟩ := hs
 obtain ⟨hA, hc, hB, hd, LA, lc, O1, cs, CA, cc, O2, evs, EA, ec, O3⟩ := d
 refine goes_enter3 Tryz.func85 rfl Tryz.ntmps85 rfl ?_
 refine Zg ?_
 refine Zk ?_
 refine ZbC ?_
 refine Zaj ?_
 refine ZO ?_
 refine Zs ?_
 refine Calls.mono (unify_any x.h i j hA hB hc hd _ hok.hh hS) ?_
 rintro _ w3 ⟨A', c', B', d', F', rfl, hF', hH', hS'⟩
 refine Za ?_
 replace hS := hS'
 clear hS'
 by_cases h0 : (unifyH x.h i j).2.2 = 0
 ·rw [decide_eq_false (fun h => h h0)]
  refine Zaf ?_
  refine Zbc ?_
  clear hS
  intro b1 wx1 hS
  refine Zc ?_
  clear hS
  intro wx2 hS
  refine ZcN ?_
  refine Zaj ?_
  refine ZdN ?_
  clear hS
  intro wx3 hS
  refine Zcz ?_
  refine Zn ?_
  refine Zk ?_
  refine goes_ret2 Tryz.func85 rfl (by conv=>lhs;whnf) (by conv=>lhs;whnf) ?_
  exact ⟨rfl, _, F', fun φ h => hF' φ (hFF φ h), (hok.mono hF').setH hH', hS.drop⟩
 ·rw [decide_eq_true h0]
  refine Zaf ?_
  refine Zbc ?_
  clear hS
  intro b1 wx1 hS
  refine Zc ?_
  clear hS
  intro wx2 hS
  refine ZcN ?_
  refine Zaj ?_
  refine ZdN ?_
  clear hS
  intro wx3 hS
  refine Zcz ?_
  refine Zn ?_
  refine Zk ?_
  refine goes_ret2 Tryz.func85 rfl (by conv=>lhs;whnf) (by conv=>lhs;whnf) ?_
  exact ⟨rfl, _, F', fun φ h => hF' φ (hFF φ h), (hok.mono hF').setH hH', hS.drop⟩
theorem mrestore_any (x : XS) (c : LX) (w : World) (hs : XSt M w0 H F0 b P pA pc vars fuel every x w) :
  Calls Tryz.prog 78 #[ptm b, .agg (xcs c).toArray] w fun e w' => e = .returned (.tuple #[]) ∧ XSt M w0 H F0 b P pA pc vars fuel every (x.setH (cutH (undoH x.h (c.bound : Nat)).1 (c.cells : Nat)).1) w' := by
 obtain ⟨d, F, hFF, hok, hS⟩ := hs
 obtain ⟨hA, hc, hB, hd, LA, lc, O1, cs, CA, cc, O2, evs, EA, ec, O3⟩ := d
 refine goes_enter2 Tryz.func78 rfl Tryz.ntmps78 rfl ?_
 refine Ze ?_
 clear hS
 intro b1 wx1 hS
 refine ZH ?_
 refine goes_meet2 4 5 (7 :: 8 :: 9 :: 10 :: 11 :: 12 :: 13 :: 6 :: 14 :: 15 :: []) (fun y z w' => ∃ (b4 : Nat) (A' : Option Addr) (c' : Nat) (B' : Option Addr) (d' : Nat) (F' : List (World → Prop)), y = .pointer (some ⟨b4, 0, none⟩) ∧ z = .int .i64 (undoH x.h (c.bound : Nat)).2 ∧ (∀ φ ∈ F, φ ∈ F') ∧ Und F' (HFl (undoH x.h (c.bound : Nat)).1 A' c' B' d') ∧ St M w0 ((b4, .cells [.slice A' (undoH x.h (c.bound : Nat)).1.cs.length c', .slice B' (undoH x.h (c.bound : Nat)).1.tr.length d'].toArray 52) :: (b1, .cells (xcs c).toArray 108) :: (b, mob P pA pc vars fuel every x ⟨hA, hc, hB, hd, LA, lc, O1, cs, CA, cc, O2, evs, EA, ec, O3⟩) :: (O1 ++ (O2 ++ (O3 ++ H)))) F' w') ?_ ?_
 ·intro hmeet
  refine goes_plan (St _ _ _ _) 13 (.read 0 (.read 1 (.read 2 (.read 3 (.read 4 (.read 5 (.pick 6 (.read 7 (.read 8 (.read 9 (.pick 10 (.pick 11 (.read 12 .tail) .none) .none)))) (.pick 10 (.pick 6 (.read 7 (.read 8 (.read 9 (.pick 11 (.read 12 .tail) .none)))) .none) .none)))))))) (by kernel_rfl) (by kernel_rfl) hS.drew ?_
  replace hS := hS.drew
  refine Zdv ?_
  first
   | refine pln_read rfl (fun _ hS => run_loadN_own (k := 2) hS rfl rfl rfl (by first | exact .head | exact .tail .head | exact .tail (.tail .head) | exact .tail (.tail (.tail .head)) | exact .tail (.tail (.tail (.tail .head))) | exact .tail (.tail (.tail (.tail (.tail .head))))) (by repeat constructor)) rfl ?_
   | refine pln_read rfl (fun _ hS => run_loadN_own (k := 2) hS rfl rfl rfl (by first | exact .head | exact .tail .head | exact .tail (.tail .head) | exact .tail (.tail (.tail .head)) | exact .tail (.tail (.tail (.tail .head))) | exact .tail (.tail (.tail (.tail (.tail .head))))) (by assumption)) rfl ?_
   | refine pln_read rfl (fun _ hS => run_load2 rfl rfl rfl (by first | assumption | exact hS.cell0 (by assumption)) (by first | assumption | exact hS.cell0 (by assumption))) rfl ?_
  refine pln_read rfl (fun _ hS => run_fieldAddr (off := 3) rfl rfl) rfl ?_
  refine Zfu ?_
  refine pln_pick rfl ?_ ?_
  ·refine Zm ?_
   refine Calls.mono (undo_any x.h (c.bound : Nat) hA hB hc hd _ hok.hh hS) ?_
   rintro _ w3 ⟨A', c', B', d', F9, rfl, hF9, hH', hS'⟩
   refine Za ?_
   replace hS := hS'
   clear hS'
   refine ZaR ?_
   refine Zat ?_
   refine Zbh ?_
   refine Zbh ?_
   refine ZbM ?_
   clear hS
   intro b2 wx2 hS
   refine ZaR ?_
   refine Zag ?_
   refine Zc ?_
   clear hS
   intro wx3 hS
   refine ZaR ?_
   refine Zcp ?_
   refine Zch ?_
   refine Zb ?_
   exact hmeet _ _ _ _ ⟨_, A', c', B', d', F9, rfl, rfl, hF9, hH', hS⟩ (by conv=>lhs;whnf) (by conv=>lhs;whnf) (by kernel_rfl)
  refine ZbM ?_
  clear hS
  intro b3 wx4 hS
  refine ZaR ?_
  refine Zag ?_
  refine Zm ?_
  refine Calls.mono (undo_any x.h (c.bound : Nat) hA hB hc hd _ hok.hh hS) ?_
  rintro _ w3 ⟨A', c', B', d', F9, rfl, hF9, hH', hS'⟩
  refine Za ?_
  replace hS := hS'
  clear hS'
  refine ZaR ?_
  refine Zat ?_
  refine Zbh ?_
  refine Zbh ?_
  refine Zag ?_
  refine Zc ?_
  clear hS
  intro wx5 hS
  refine ZaR ?_
  refine Zcp ?_
  refine Zch ?_
  refine Zb ?_
  exact hmeet _ _ _ _ ⟨_, A', c', B', d', F9, rfl, rfl, hF9, hH', hS⟩ (by conv=>lhs;whnf) (by conv=>lhs;whnf) (by kernel_rfl)
 clear hS
 rintro jv _ _ w3 ⟨b4, A', c', B', d', F', rfl, rfl, hF', hH', hS⟩
 refine ZW ?_
 refine Zaj ?_
 refine Zad ?_
 refine Zm ?_
 refine Calls.mono (cut_any (undoH x.h (c.bound : Nat)).1 (c.cells : Nat) A' B' c' d' _ hH' hS) ?_
 rintro _ w4 ⟨A2, c2, B2, d2, F2, rfl, hF2, hH2, hS'⟩
 refine Za ?_
 replace hS := hS'
 clear hS'
 refine Zbj ?_
 refine ZdN ?_
 clear hS
 intro wx6 hS
 refine Zb ?_
 refine goes_end0 Tryz.func78 rfl ?_
 exact ⟨rfl, _, F2, fun φ h => hF2 φ (hF' φ (hFF φ h)), ((hok.mono hF').mono hF2).setH hH2, hS.drop.drop⟩
theorem mlook_any (x : XS) (a : Int) (w : World) (hl : ∃ z, hat x.h.cs (hlook x.h.cs a) = some z) (hlen : x.h.cs.length ≤ 65536) (hs : XSt M w0 H F0 b P pA pc vars fuel every x w) :
  Calls Tryz.prog 100 #[ptm b, .int .i64 a] w fun e w' => e = .returned (cvv (cellX x.h a)) ∧ XSt M w0 H F0 b P pA pc vars fuel every x w' := by
 obtain ⟨z, hz⟩ := hl
 have hcz : cellX x.h a = z := by unfold cellX; rw [hz]; rfl
 rw [hcz]
 obtain ⟨d, F, hFF, hok, hS⟩ := hs
 obtain ⟨hA, hc, hB, hd, LA, lc, O1, cs, CA, cc, O2, evs, EA, ec, O3⟩ := d
 obtain ⟨z0, z1, z2⟩ := hatS.1 hz
 obtain ⟨hb_, ho_, rfl⟩ : ∃ b o, hA = some ⟨b, o, none⟩ := (hS.und hok.hh).1.some_ (by show 0 < x.h.cs.length; omega)
 have hcell : ∀ {H'} w', St M w0 H' F w' → _ := fun w' hS => ((hS.und hok.hh).1).cell z2
 refine goes_enter2 Tryz.func100 rfl Tryz.ntmps100 rfl ?_
 refine Zg ?_
 refine Z8 ?_
 clear hS
 intro b1 wx1 hS
 refine ZH ?_
 refine goes_draw (St _ _ _ _) 13 ((0, true) :: (1, true) :: (2, true) :: (3, true) :: (4, true) :: (5, true) :: (6, true) :: (7, true) :: (8, true) :: (9, true) :: (10, false) :: (11, true) :: (12, true) :: []) (by kernel_rfl) (by kernel_rfl) (hS.drew) ?_
 replace hS := hS.drew
 refine ZgW ?_
 refine Z1 ?_
 first
  | refine ord_read rfl (fun _ hS => run_loadN_own (k := 2) hS rfl rfl rfl (by first | exact .head | exact .tail .head | exact .tail (.tail .head) | exact .tail (.tail (.tail .head)) | exact .tail (.tail (.tail (.tail .head))) | exact .tail (.tail (.tail (.tail (.tail .head))))) (by repeat constructor)) rfl ?_
  | refine ord_read rfl (fun _ hS => run_loadN_own (k := 2) hS rfl rfl rfl (by first | exact .head | exact .tail .head | exact .tail (.tail .head) | exact .tail (.tail (.tail .head)) | exact .tail (.tail (.tail (.tail .head))) | exact .tail (.tail (.tail (.tail (.tail .head))))) (by assumption)) rfl ?_
  | refine ord_read rfl (fun _ hS => run_load2 rfl rfl rfl (by first | assumption | exact (hcell _ hS).1 | exact (hcell _ hS).2.1 | exact (hcell _ hS).2.2 | exact hS.cell0 (by assumption)) (by first | assumption | exact (hcell _ hS).1 | exact (hcell _ hS).2.1 | exact (hcell _ hS).2.2 | exact hS.cell0 (by assumption))) rfl ?_
 refine Zq ?_
 refine ZbE ?_
 refine Calls.mono (look_any x.h.cs (some ⟨hb_, ho_, none⟩) hB hc x.h.tr.length hd a _ (hS.und hok.hh).1 (by omega)) ?_
 rintro _ w3 ⟨rfl, hb3⟩
 refine Za ?_
 replace hS := hS.grow hb3
 refine Zar ?_
 refine Za2 ?_
 refine Zd9 ?_
 refine ZgT ?_
 clear hS
 intro wx2 hS
 refine Zb ?_
 refine goes_retC (sz := 3) hS Tryz.func100 rfl rfl rfl rfl (by first | exact .head | exact .tail .head | exact .tail (.tail .head) | exact .tail (.tail (.tail .head)) | exact .tail (.tail (.tail (.tail .head))) | exact .tail (.tail (.tail (.tail (.tail .head))))) (by repeat constructor) ?_
 exact ⟨rfl, _, F, hFF, hok, hS.drop⟩
end
end Go.Proofs.YthliapbflkfdiabGreat
