/- SWalk8, SInv2, PSim2, PSim3, PSim4, HModel, HMem, HRow: texts that follow one another, laid into one file. -/
import Derived.Test.YtehhgmeaggempaaDoorG9
import Derived.Test.YtehhgmeaggempaaDoorG5
import Derived.Test.YtehhgmeaggempaaDoorG1
import Derived.Test.YtehhgmeaggempaaDoorG3
import Derived.Lib.SliceRun
namespace Go.Proofs.YtehhgmeaggempaaDoor
open Go.RowKit
set_option linter.unusedVariables false
set_option linter.unusedSimpArgs false
set_option maxRecDepth 100000
set_option maxHeartbeats 1000000
theorem toList_iff {s : ByteArray} (l : Str) : s.toList = l ↔ s = ⟨l.toArray⟩ := by
 constructor
 ·intro h; exact str_eq.1 (h.trans (toList_mk l).symm)
 ·intro h; rw [h, toList_mk]
theorem two_of {T : TA} (h : T.len = 2) : ∃ x y : LT, T = .cons x.k x.n x.s x.A x.c x.ar (.cons y.k y.n y.s y.A y.c y.ar .nil) := by
 match T, h with
 | .cons k n s A c a (.cons k' n' s' A' c' a' .nil), _ => exact ⟨⟨k, n, s, A, c, a⟩, ⟨k', n', s', A', c', a'⟩, rfl⟩
 | .nil, h => simp [TA.len] at h
 | .cons _ _ _ _ _ _ .nil, h => simp [TA.len] at h
 | .cons _ _ _ _ _ _ (.cons _ _ _ _ _ _ (.cons _ _ _ _ _ _ _)), h => simp [TA.len] at h
theorem three_of {T : TA} (h : T.len = 3) : ∃ x y z : LT, T = .cons x.k x.n x.s x.A x.c x.ar (.cons y.k y.n y.s y.A y.c y.ar (.cons z.k z.n z.s z.A z.c z.ar .nil)) := by
 match T, h with
 | .cons k n s A c a (.cons k' n' s' A' c' a' (.cons k2 n2 s2 A2 c2 a2 .nil)), _ => exact ⟨⟨k, n, s, A, c, a⟩, ⟨k', n', s', A', c', a'⟩, ⟨k2, n2, s2, A2, c2, a2⟩, rfl⟩
 | .nil, h => simp [TA.len] at h
 | .cons _ _ _ _ _ _ .nil, h => simp [TA.len] at h
 | .cons _ _ _ _ _ _ (.cons _ _ _ _ _ _ .nil), h => simp [TA.len] at h
 | .cons _ _ _ _ _ _ (.cons _ _ _ _ _ _ (.cons _ _ _ _ _ _ (.cons _ _ _ _ _ _ _))), h => simp [TA.len] at h
theorem cut_inv {s : SS} (hI : InvC s) (n : Nat) : InvC ⟨s.B, s.fresh, s.fuel, s.goals, s.ch.drop (s.ch.length - n), s.ev⟩ := by
 have hc := cnt_drop s.ch (s.ch.length - n)
 have h1 := hI.fr
 have h2 := hI.bl
 unfold mu at h1 h2
 exact ⟨hI.bok, hI.gb, hI.ch.drop _, by unfold mu; simp only; omega, by unfold mu; simp only; omega⟩
section
variable {M : List Nat} {w0 : World} {H : List (Nat × Obj)} {F0 F : List (World → Prop)} {b : Nat} {P : List LC} {pA : Option Addr} {pc vars : Nat} {d : SD}
theorem builtin_r (s : SS) (g : GN) (next : List GN) (w : World) (hI : InvC s) (hsl : s.B.length + 10100 * (mu s + 1) ≤ 1000000000) (hg : tgd g.t.tm) (hgo : g.o ≤ s.ch.length) (hbt : builtB g.t.s.toList g.t.ar.len = true) (hr : Und F (PR (g :: next))) (hFF : ∀ φ ∈ F0, φ ∈ F) (hok : SOk P pA pc s d F)
  (hS : St M w0 ((b, sob d.mb d.TR (srest P pA pc vars s.fresh s.fuel (ptrOf d.gs) d.CH d.EV)) :: (d.mb, .map d.es d.clk) :: (d.O ++ (d.O2 ++ (d.O3 ++ H)))) F w) :
  Calls Tryd.prog 76 #[pt b, pt g.blk] w fun e w' => e = .returned (.int .i64 (builtM (g.t.tm, g.o) s).1) ∧ SSt M w0 H F0 b P pA pc vars (builtM (g.t.tm, g.o) s).2 w' := by
 have hbm : builtM (g.t.tm, g.o) s = if g.t.s.toList = [33] then (0, ⟨s.B, s.fresh, s.fuel, s.goals, s.ch.drop (s.ch.length - g.o), s.ev⟩)
  else if g.t.s.toList = [116, 114, 117, 101] then (0, s) else if g.t.s.toList = [101, 113] then equalM (g.t.ar.ts.at_ 0) (g.t.ar.ts.at_ 1) s
  else if g.t.s.toList = [108, 101, 115, 115] then lessM g.t.ar.ts s else if g.t.s.toList = [97, 100, 100] then addM g.t.ar.ts s else againM s := rfl
 have hpc : ∀ {H'} w', St M w0 H' F w' → _ := fun w' hS => (hS.und hr).cells
 have hrt : Und F (LRd g.t) := hr.imp fun w h => h.2.1
 have hdown := tgd_down _ hg
 have hs0 : ∀ w', St M w0 ((b, sob d.mb d.TR (srest P pA pc vars s.fresh s.fuel (ptrOf d.gs) d.CH d.EV)) :: (d.mb, .map d.es d.clk) :: (d.O ++ (d.O2 ++ (d.O3 ++ H)))) F w' → SSt M w0 H F0 b P pA pc vars s w' := fun w' h => ⟨d, F, hFF, hok, h⟩
 unfold builtB at hbt
 refine goes_enter2 Tryd.func76 rfl Tryd.ntmps76 rfl ?_
 by_cases h1 : g.t.s.toList = [33]
 ·rw [if_pos h1] at hbm
  rw [hbm]
  have e1 := (toList_iff [33]).1 h1
  have hrow2 := hok.row2
  obtain ⟨A2, c2, hCH⟩ := hrow2.form
  rw [hCH] at hrow2
  have hcap := hrow2.cap
  have hlc : d.cs.length = s.ch.length := by rw [← hok.hc]; simp
  have hcut := hrow2.cut (m := g.o) (by omega)
  rw [hCH] at hS
  refine goes_seq ?_
  refine goes_region ?_
  refine lst_run (run_assign (by conv=>lhs;whnf)) rfl ?_
  refine lst_done ?_
  refine goes_seq ?_
  refine goes_region ?_
  refine lst_run (run_move (by conv=>lhs;whnf)) rfl ?_
  refine lst_run (run_nilCheck rfl) rfl ?_
  refine lst_run (run_fieldAddr (off := 0) rfl rfl) rfl ?_
  refine lst_run (run_fieldAddr (off := 3) rfl rfl) rfl ?_
  refine lst_run (run_load1 rfl rfl (by exact (hpc _ hS).2.2.2.1)) rfl ?_
  refine lst_run (run_assign (by conv=>lhs;whnf)) rfl ?_
  refine lst_done ?_
  refine goes_seq ?_
  refine goes_seq ?_
  refine goes_region ?_
  refine lst_run (run_move (by conv=>lhs;whnf)) rfl ?_
  refine lst_run (run_nilCheck rfl) rfl ?_
  refine lst_run (run_fieldAddr (off := 0) rfl rfl) rfl ?_
  refine lst_run (run_fieldAddr (off := 2) rfl rfl) rfl ?_
  refine lst_run (run_load1 rfl rfl (by exact (hpc _ hS).2.2.1)) rfl ?_
  refine lst_done ?_
  refine goes_block ?_
  refine goes_seq ?_
  refine goes_region ?_
  refine lst_run (run_eqlS_t rfl rfl (by assumption)) rfl ?_
  refine lst_run (run_assign (by conv=>lhs;whnf)) rfl ?_
  refine lst_done ?_
  refine goes_true rfl ?_
  refine goes_seq ?_
  refine goes_draw (St _ _ _ _) 12 ((0, true) :: (1, true) :: (2, true) :: (3, true) :: (4, true) :: (5, true) :: (6, true) :: (7, true) :: (8, true) :: (9, true) :: (10, true) :: (11, true) :: []) (by kernel_rfl) (by kernel_rfl) (hS.drew) ?_
  replace hS := hS.drew
  refine ord_read rfl (fun _ hS => run_move (by conv=>lhs;whnf)) rfl ?_
  refine ord_read rfl (fun _ hS => run_move (by conv=>lhs;whnf)) rfl ?_
  refine ord_read rfl (fun _ hS => run_nilCheck rfl) rfl ?_
  refine ord_read rfl (fun _ hS => run_fieldAddr (off := 7) rfl rfl) rfl ?_
  refine ord_read rfl (fun _ hS => run_load1_own hS rfl rfl (by exact .head) (by repeat constructor)) rfl ?_
  refine ord_read rfl (fun _ hS => run_move (by conv=>lhs;whnf)) rfl ?_
  refine ord_read rfl (fun _ hS => run_nilCheck rfl) rfl ?_
  refine ord_read rfl (fun _ hS => run_fieldAddr (off := 4) rfl rfl) rfl ?_
  refine ord_read rfl (fun _ hS => run_load1 rfl rfl (by exact (hpc _ hS).2.2.2.2.1)) rfl ?_
  refine ord_read rfl (fun _ hS => run_slice_slice (sz := 3) rfl rfl rfl rfl (by omega) (by omega)) rfl ?_
  refine ord_read rfl (fun _ hS => run_nilCheck rfl) rfl ?_
  refine ord_read rfl (fun _ hS => run_fieldAddr (off := 7) rfl rfl) rfl ?_
  refine ord_end ?_
  refine lst_store1 hS rfl (by conv=>lhs;whnf) rfl rfl (by exact .head) (by repeat constructor) (by exact .head) ?_
  clear hS
  intro wx1 hS
  refine lst_done ?_
  refine goes_seq ?_
  refine goes_region ?_
  refine lst_run (run_assign (by conv=>lhs;whnf)) rfl ?_
  refine lst_done ?_
  refine goes_ret1 Tryd.func76 rfl (by conv=>lhs;whnf) ?_
  refine ⟨rfl, ⟨d.G, d.mb, d.es, d.clk, d.TR, d.O, d.gs, d.cs.drop (d.cs.length - g.o), .slice A2 g.o c2, d.O2, d.evs, d.EV, d.O3⟩, F, hFF, ?_, hS⟩
  have e2 : (d.cs.drop (d.cs.length - g.o)).length = g.o := by simp; omega
  refine ⟨hok.bm, hok.hB, hok.hg, hok.rg, ?_, fun c hc => hok.rc c (List.mem_of_mem_drop hc), ?_, hok.he, hok.re, hok.row3, hok.rp⟩
  ·show (d.cs.drop (d.cs.length - g.o)).map LCh.ch = s.ch.drop (s.ch.length - g.o)
   rw [← hok.hc, List.map_drop]; simp
  ·show Row _ _ _ (d.cs.drop (d.cs.length - g.o)).length _ _
   rw [e2]
   have e3 : (chL d.cs.reverse).take (g.o * 3) = chL (d.cs.drop (d.cs.length - g.o)).reverse := by
    have e4 : d.cs.reverse = (d.cs.drop (d.cs.length - g.o)).reverse ++ (d.cs.take (d.cs.length - g.o)).reverse := by rw [← List.reverse_append, List.take_append_drop]
    rw [e4, chL_app, List.take_append_of_le_length (by rw [chL_len]; simp; omega), List.take_of_length_le (by rw [chL_len]; simp; omega)]
   rw [← e3]; exact hcut
 rw [if_neg h1] at hbm hbt
 have e1 : g.t.s ≠ ⟨#[33]⟩ := fun h => h1 ((toList_iff [33]).2 h)
 by_cases h2 : g.t.s.toList = [116, 114, 117, 101]
 ·rw [if_pos h2] at hbm
  rw [hbm]
  have e2 := (toList_iff [116, 114, 117, 101]).1 h2
  refine goes_seq ?_
  refine goes_region ?_
  refine lst_run (run_assign (by conv=>lhs;whnf)) rfl ?_
  refine lst_done ?_
  refine goes_seq ?_
  refine goes_region ?_
  refine lst_run (run_move (by conv=>lhs;whnf)) rfl ?_
  refine lst_run (run_nilCheck rfl) rfl ?_
  refine lst_run (run_fieldAddr (off := 0) rfl rfl) rfl ?_
  refine lst_run (run_fieldAddr (off := 3) rfl rfl) rfl ?_
  refine lst_run (run_load1 rfl rfl (by exact (hpc _ hS).2.2.2.1)) rfl ?_
  refine lst_run (run_assign (by conv=>lhs;whnf)) rfl ?_
  refine lst_done ?_
  refine goes_seq ?_
  refine goes_seq ?_
  refine goes_region ?_
  refine lst_run (run_move (by conv=>lhs;whnf)) rfl ?_
  refine lst_run (run_nilCheck rfl) rfl ?_
  refine lst_run (run_fieldAddr (off := 0) rfl rfl) rfl ?_
  refine lst_run (run_fieldAddr (off := 2) rfl rfl) rfl ?_
  refine lst_run (run_load1 rfl rfl (by exact (hpc _ hS).2.2.1)) rfl ?_
  refine lst_done ?_
  refine goes_block ?_
  refine goes_seq ?_
  refine goes_region ?_
  refine lst_run (run_eqlS_f rfl rfl (by assumption)) rfl ?_
  refine lst_run (run_assign (by conv=>lhs;whnf)) rfl ?_
  refine lst_done ?_
  refine goes_false rfl ?_
  refine goes_seq ?_
  refine goes_region ?_
  refine lst_run (run_eqlS_t rfl rfl (by assumption)) rfl ?_
  refine lst_run (run_assign (by conv=>lhs;whnf)) rfl ?_
  refine lst_done ?_
  refine goes_true rfl ?_
  refine goes_seq ?_
  refine goes_region ?_
  refine lst_run (run_assign (by conv=>lhs;whnf)) rfl ?_
  refine lst_done ?_
  refine goes_ret1 Tryd.func76 rfl (by conv=>lhs;whnf) ?_
  exact ⟨rfl, hs0 _ hS⟩
 rw [if_neg h2] at hbm hbt
 have e2 : g.t.s ≠ ⟨#[116, 114, 117, 101]⟩ := fun h => h2 ((toList_iff [116, 114, 117, 101]).2 h)
 by_cases h3 : g.t.s.toList = [101, 113]
 ·rw [if_pos h3] at hbm
  rw [hbm]
  have e3 := (toList_iff [101, 113]).1 h3
  rw [if_neg (by rw [h3]; decide), if_pos h3] at hbt
  obtain ⟨x, y, hT⟩ := two_of (T := g.t.ar) (by simpa using hbt)
  obtain ⟨⟨gk, gn, gs_, gA, gc, gar⟩, go_, gb⟩ := g
  dsimp only at *
  subst hT
  have hra := hrt
  unfold LRd at hra
  dsimp only at hra
  obtain ⟨b6, o6, rfl⟩ := (hS.und hra).some_ (by simp [TA.len])
  have hcA : ∀ {H'} w', St M w0 H' F w' → _ := fun w' hS => ArA.cells (D := .nil) (hS.und hra)
  have hcB : ∀ {H'} w', St M w0 H' F w' → _ := fun w' hS => ArA.cells (D := .cons x.k x.n x.s x.A x.c x.ar .nil) (hS.und hra)
  have hrx : Und F (LRd x) := hra.imp fun w h => ArA.sub (D := .nil) h
  have hry : Und F (LRd y) := hra.imp fun w h => ArA.sub (D := .cons x.k x.n x.s x.A x.c x.ar .nil) h
  have tx : tgd x.tm := hdown x.tm (.inl rfl)
  have ty_ : tgd y.tm := hdown y.tm (.inr (.inl rfl))
  have hlen2 : (TA.cons x.k x.n x.s x.A x.c x.ar (TA.cons y.k y.n y.s y.A y.c y.ar TA.nil)).len = 2 := rfl
  refine goes_seq ?_
  refine goes_region ?_
  refine lst_run (run_assign (by conv=>lhs;whnf)) rfl ?_
  refine lst_done ?_
  refine goes_seq ?_
  refine goes_region ?_
  refine lst_run (run_move (by conv=>lhs;whnf)) rfl ?_
  refine lst_run (run_nilCheck rfl) rfl ?_
  refine lst_run (run_fieldAddr (off := 0) rfl rfl) rfl ?_
  refine lst_run (run_fieldAddr (off := 3) rfl rfl) rfl ?_
  refine lst_run (run_load1 rfl rfl (by exact (hpc _ hS).2.2.2.1)) rfl ?_
  refine lst_run (run_assign (by conv=>lhs;whnf)) rfl ?_
  refine lst_done ?_
  refine goes_seq ?_
  refine goes_seq ?_
  refine goes_region ?_
  refine lst_run (run_move (by conv=>lhs;whnf)) rfl ?_
  refine lst_run (run_nilCheck rfl) rfl ?_
  refine lst_run (run_fieldAddr (off := 0) rfl rfl) rfl ?_
  refine lst_run (run_fieldAddr (off := 2) rfl rfl) rfl ?_
  refine lst_run (run_load1 rfl rfl (by exact (hpc _ hS).2.2.1)) rfl ?_
  refine lst_done ?_
  refine goes_block ?_
  refine goes_seq ?_
  refine goes_region ?_
  refine lst_run (run_eqlS_f rfl rfl (by assumption)) rfl ?_
  refine lst_run (run_assign (by conv=>lhs;whnf)) rfl ?_
  refine lst_done ?_
  refine goes_false rfl ?_
  refine goes_seq ?_
  refine goes_region ?_
  refine lst_run (run_eqlS_f rfl rfl (by assumption)) rfl ?_
  refine lst_run (run_assign (by conv=>lhs;whnf)) rfl ?_
  refine lst_done ?_
  refine goes_false rfl ?_
  refine goes_seq ?_
  refine goes_region ?_
  refine lst_run (run_eqlS_t rfl rfl (by assumption)) rfl ?_
  refine lst_run (run_assign (by conv=>lhs;whnf)) rfl ?_
  refine lst_done ?_
  refine goes_true rfl ?_
  refine goes_seq ?_
  refine goes_draw (St _ _ _ _) 7 ((0, true) :: (1, true) :: (2, true) :: (3, true) :: (4, true) :: (5, true) :: (6, true) :: []) (by kernel_rfl) (by kernel_rfl) (hS.drew) ?_
  replace hS := hS.drew
  refine ord_read rfl (fun _ hS => run_move (by conv=>lhs;whnf)) rfl ?_
  refine ord_read rfl (fun _ hS => run_move (by conv=>lhs;whnf)) rfl ?_
  refine ord_read rfl (fun _ hS => run_indexAddr (sz := 4) rfl rfl rfl rfl (by omega) (by omega)) rfl ?_
  refine ord_read rfl (fun _ hS => run_load4 rfl rfl rfl (by exact (hcA _ hS).1) (by exact (hcA _ hS).2.1) (by exact (hcA _ hS).2.2.1) (by exact (hcA _ hS).2.2.2)) rfl ?_
  refine ord_read rfl (fun _ hS => run_move (by conv=>lhs;whnf)) rfl ?_
  refine ord_read rfl (fun _ hS => run_indexAddr (sz := 4) rfl rfl rfl rfl (by omega) (by omega)) rfl ?_
  refine ord_read rfl (fun _ hS => run_load4 rfl rfl rfl (by exact (hcB _ hS).1) (by exact (hcB _ hS).2.1) (by exact (hcB _ hS).2.2.1) (by exact (hcB _ hS).2.2.2)) rfl ?_
  refine ord_end ?_
  refine lst_enter (run_call (by kernel_rfl) (args_3 (by conv=>lhs;whnf) (by conv=>lhs;whnf) (by conv=>lhs;whnf))) rfl ?_
  refine Calls.mono (equal_any s x y _ hI hsl tx ty_ hrx hry hFF hok hS) ?_
  rintro _ w9 ⟨rfl, hq⟩
  refine ⟨_, rfl, ?_⟩
  refine lst_run (run_assign (by conv=>lhs;whnf)) rfl ?_
  refine lst_done ?_
  refine goes_ret1 Tryd.func76 rfl (by conv=>lhs;whnf) ?_
  exact ⟨rfl, hq⟩
 rw [if_neg h3] at hbm
 have e3 : g.t.s ≠ ⟨#[101, 113]⟩ := fun h => h3 ((toList_iff [101, 113]).2 h)
 by_cases h4 : g.t.s.toList = [108, 101, 115, 115]
 ·rw [if_pos h4] at hbm
  rw [hbm]
  have e4 := (toList_iff [108, 101, 115, 115]).1 h4
  rw [if_neg (by rw [h4]; decide), if_neg (by rw [h4]; decide), if_pos h4] at hbt
  obtain ⟨x, y, hT⟩ := two_of (T := g.t.ar) (by simpa using hbt)
  have hlen2 : g.t.ar.len = 2 := by simpa using hbt
  have hra : Und F (ArA g.t.A g.t.c g.t.ar) := hrt
  rw [hT] at hra
  have tx : tgd x.tm := hdown x.tm (by show g.t.ar.ts.Mem _; rw [hT]; exact .inl rfl)
  have ty_ : tgd y.tm := hdown y.tm (by show g.t.ar.ts.Mem _; rw [hT]; exact .inr (.inl rfl))
  have hts : g.t.ar.ts = .cons x.k x.n x.s x.ar.ts (.cons y.k y.n y.s y.ar.ts .nil) := by rw [hT]; rfl
  rw [hts]
  refine goes_seq ?_
  refine goes_region ?_
  refine lst_run (run_assign (by conv=>lhs;whnf)) rfl ?_
  refine lst_done ?_
  refine goes_seq ?_
  refine goes_region ?_
  refine lst_run (run_move (by conv=>lhs;whnf)) rfl ?_
  refine lst_run (run_nilCheck rfl) rfl ?_
  refine lst_run (run_fieldAddr (off := 0) rfl rfl) rfl ?_
  refine lst_run (run_fieldAddr (off := 3) rfl rfl) rfl ?_
  refine lst_run (run_load1 rfl rfl (by exact (hpc _ hS).2.2.2.1)) rfl ?_
  refine lst_run (run_assign (by conv=>lhs;whnf)) rfl ?_
  refine lst_done ?_
  refine goes_seq ?_
  refine goes_seq ?_
  refine goes_region ?_
  refine lst_run (run_move (by conv=>lhs;whnf)) rfl ?_
  refine lst_run (run_nilCheck rfl) rfl ?_
  refine lst_run (run_fieldAddr (off := 0) rfl rfl) rfl ?_
  refine lst_run (run_fieldAddr (off := 2) rfl rfl) rfl ?_
  refine lst_run (run_load1 rfl rfl (by exact (hpc _ hS).2.2.1)) rfl ?_
  refine lst_done ?_
  refine goes_block ?_
  refine goes_seq ?_
  refine goes_region ?_
  refine lst_run (run_eqlS_f rfl rfl (by assumption)) rfl ?_
  refine lst_run (run_assign (by conv=>lhs;whnf)) rfl ?_
  refine lst_done ?_
  refine goes_false rfl ?_
  refine goes_seq ?_
  refine goes_region ?_
  refine lst_run (run_eqlS_f rfl rfl (by assumption)) rfl ?_
  refine lst_run (run_assign (by conv=>lhs;whnf)) rfl ?_
  refine lst_done ?_
  refine goes_false rfl ?_
  refine goes_seq ?_
  refine goes_region ?_
  refine lst_run (run_eqlS_f rfl rfl (by assumption)) rfl ?_
  refine lst_run (run_assign (by conv=>lhs;whnf)) rfl ?_
  refine lst_done ?_
  refine goes_false rfl ?_
  refine goes_seq ?_
  refine goes_region ?_
  refine lst_run (run_eqlS_t rfl rfl (by assumption)) rfl ?_
  refine lst_run (run_assign (by conv=>lhs;whnf)) rfl ?_
  refine lst_done ?_
  refine goes_true rfl ?_
  refine goes_seq ?_
  refine goes_region ?_
  refine lst_run (run_move (by conv=>lhs;whnf)) rfl ?_
  refine lst_run (run_move (by conv=>lhs;whnf)) rfl ?_
  rw [hlen2]
  refine lst_enter (run_call (by kernel_rfl) (args_2 (by conv=>lhs;whnf) (by conv=>lhs;whnf))) rfl ?_
  refine Calls.mono (less_any s g.t.A g.t.c x y .nil _ hI tx ty_ hra (by simp [TA.len]) hFF hok hS) ?_
  rintro _ w9 ⟨rfl, hq⟩
  refine ⟨_, rfl, ?_⟩
  refine lst_run (run_assign (by conv=>lhs;whnf)) rfl ?_
  refine lst_done ?_
  refine goes_ret1 Tryd.func76 rfl (by conv=>lhs;whnf) ?_
  exact ⟨rfl, hq⟩
 rw [if_neg h4] at hbm
 have e4 : g.t.s ≠ ⟨#[108, 101, 115, 115]⟩ := fun h => h4 ((toList_iff [108, 101, 115, 115]).2 h)
 by_cases h5 : g.t.s.toList = [97, 100, 100]
 ·rw [if_pos h5] at hbm
  rw [hbm]
  have e5 := (toList_iff [97, 100, 100]).1 h5
  rw [if_neg (by rw [h5]; decide), if_neg (by rw [h5]; decide), if_neg (by rw [h5]; decide), if_pos h5] at hbt
  obtain ⟨x, y, z, hT⟩ := three_of (T := g.t.ar) (by simpa using hbt)
  have hlen2 : g.t.ar.len = 3 := by simpa using hbt
  have hra : Und F (ArA g.t.A g.t.c g.t.ar) := hrt
  rw [hT] at hra
  have tx : tgd x.tm := hdown x.tm (by show g.t.ar.ts.Mem _; rw [hT]; exact .inl rfl)
  have ty_ : tgd y.tm := hdown y.tm (by show g.t.ar.ts.Mem _; rw [hT]; exact .inr (.inl rfl))
  have tz : tgd z.tm := hdown z.tm (by show g.t.ar.ts.Mem _; rw [hT]; exact .inr (.inr (.inl rfl)))
  have hts : g.t.ar.ts = .cons x.k x.n x.s x.ar.ts (.cons y.k y.n y.s y.ar.ts (.cons z.k z.n z.s z.ar.ts .nil)) := by rw [hT]; rfl
  rw [hts]
  refine goes_seq ?_
  refine goes_region ?_
  refine lst_run (run_assign (by conv=>lhs;whnf)) rfl ?_
  refine lst_done ?_
  refine goes_seq ?_
  refine goes_region ?_
  refine lst_run (run_move (by conv=>lhs;whnf)) rfl ?_
  refine lst_run (run_nilCheck rfl) rfl ?_
  refine lst_run (run_fieldAddr (off := 0) rfl rfl) rfl ?_
  refine lst_run (run_fieldAddr (off := 3) rfl rfl) rfl ?_
  refine lst_run (run_load1 rfl rfl (by exact (hpc _ hS).2.2.2.1)) rfl ?_
  refine lst_run (run_assign (by conv=>lhs;whnf)) rfl ?_
  refine lst_done ?_
  refine goes_seq ?_
  refine goes_seq ?_
  refine goes_region ?_
  refine lst_run (run_move (by conv=>lhs;whnf)) rfl ?_
  refine lst_run (run_nilCheck rfl) rfl ?_
  refine lst_run (run_fieldAddr (off := 0) rfl rfl) rfl ?_
  refine lst_run (run_fieldAddr (off := 2) rfl rfl) rfl ?_
  refine lst_run (run_load1 rfl rfl (by exact (hpc _ hS).2.2.1)) rfl ?_
  refine lst_done ?_
  refine goes_block ?_
  refine goes_seq ?_
  refine goes_region ?_
  refine lst_run (run_eqlS_f rfl rfl (by assumption)) rfl ?_
  refine lst_run (run_assign (by conv=>lhs;whnf)) rfl ?_
  refine lst_done ?_
  refine goes_false rfl ?_
  refine goes_seq ?_
  refine goes_region ?_
  refine lst_run (run_eqlS_f rfl rfl (by assumption)) rfl ?_
  refine lst_run (run_assign (by conv=>lhs;whnf)) rfl ?_
  refine lst_done ?_
  refine goes_false rfl ?_
  refine goes_seq ?_
  refine goes_region ?_
  refine lst_run (run_eqlS_f rfl rfl (by assumption)) rfl ?_
  refine lst_run (run_assign (by conv=>lhs;whnf)) rfl ?_
  refine lst_done ?_
  refine goes_false rfl ?_
  refine goes_seq ?_
  refine goes_region ?_
  refine lst_run (run_eqlS_f rfl rfl (by assumption)) rfl ?_
  refine lst_run (run_assign (by conv=>lhs;whnf)) rfl ?_
  refine lst_done ?_
  refine goes_false rfl ?_
  refine goes_seq ?_
  refine goes_region ?_
  refine lst_run (run_eqlS_t rfl rfl (by assumption)) rfl ?_
  refine lst_run (run_assign (by conv=>lhs;whnf)) rfl ?_
  refine lst_done ?_
  refine goes_true rfl ?_
  refine goes_seq ?_
  refine goes_region ?_
  refine lst_run (run_move (by conv=>lhs;whnf)) rfl ?_
  refine lst_run (run_move (by conv=>lhs;whnf)) rfl ?_
  rw [hlen2]
  refine lst_enter (run_call (by kernel_rfl) (args_2 (by conv=>lhs;whnf) (by conv=>lhs;whnf))) rfl ?_
  refine Calls.mono (add_any s g.t.A g.t.c x y z .nil _ hI hsl tx ty_ tz hra (by simp [TA.len]) hFF hok hS) ?_
  rintro _ w9 ⟨rfl, hq⟩
  refine ⟨_, rfl, ?_⟩
  refine lst_run (run_assign (by conv=>lhs;whnf)) rfl ?_
  refine lst_done ?_
  refine goes_ret1 Tryd.func76 rfl (by conv=>lhs;whnf) ?_
  exact ⟨rfl, hq⟩
 rw [if_neg h5] at hbm
 rw [hbm]
 have e5 : g.t.s ≠ ⟨#[97, 100, 100]⟩ := fun h => h5 ((toList_iff [97, 100, 100]).2 h)
 refine goes_seq ?_
 refine goes_region ?_
 refine lst_run (run_assign (by conv=>lhs;whnf)) rfl ?_
 refine lst_done ?_
 refine goes_seq ?_
 refine goes_region ?_
 refine lst_run (run_move (by conv=>lhs;whnf)) rfl ?_
 refine lst_run (run_nilCheck rfl) rfl ?_
 refine lst_run (run_fieldAddr (off := 0) rfl rfl) rfl ?_
 refine lst_run (run_fieldAddr (off := 3) rfl rfl) rfl ?_
 refine lst_run (run_load1 rfl rfl (by exact (hpc _ hS).2.2.2.1)) rfl ?_
 refine lst_run (run_assign (by conv=>lhs;whnf)) rfl ?_
 refine lst_done ?_
 refine goes_seq ?_
 refine goes_seq ?_
 refine goes_region ?_
 refine lst_run (run_move (by conv=>lhs;whnf)) rfl ?_
 refine lst_run (run_nilCheck rfl) rfl ?_
 refine lst_run (run_fieldAddr (off := 0) rfl rfl) rfl ?_
 refine lst_run (run_fieldAddr (off := 2) rfl rfl) rfl ?_
 refine lst_run (run_load1 rfl rfl (by exact (hpc _ hS).2.2.1)) rfl ?_
 refine lst_done ?_
 refine goes_block ?_
 refine goes_seq ?_
 refine goes_region ?_
 refine lst_run (run_eqlS_f rfl rfl (by assumption)) rfl ?_
 refine lst_run (run_assign (by conv=>lhs;whnf)) rfl ?_
 refine lst_done ?_
 refine goes_false rfl ?_
 refine goes_seq ?_
 refine goes_region ?_
 refine lst_run (run_eqlS_f rfl rfl (by assumption)) rfl ?_
 refine lst_run (run_assign (by conv=>lhs;whnf)) rfl ?_
 refine lst_done ?_
 refine goes_false rfl ?_
 refine goes_seq ?_
 refine goes_region ?_
 refine lst_run (run_eqlS_f rfl rfl (by assumption)) rfl ?_
 refine lst_run (run_assign (by conv=>lhs;whnf)) rfl ?_
 refine lst_done ?_
 refine goes_false rfl ?_
 refine goes_seq ?_
 refine goes_region ?_
 refine lst_run (run_eqlS_f rfl rfl (by assumption)) rfl ?_
 refine lst_run (run_assign (by conv=>lhs;whnf)) rfl ?_
 refine lst_done ?_
 refine goes_false rfl ?_
 refine goes_seq ?_
 refine goes_region ?_
 refine lst_run (run_eqlS_f rfl rfl (by assumption)) rfl ?_
 refine lst_run (run_assign (by conv=>lhs;whnf)) rfl ?_
 refine lst_done ?_
 refine goes_false rfl ?_
 refine goes_skip ?_
 refine goes_inBlock ?_
 refine goes_seq ?_
 refine goes_region ?_
 refine lst_run (run_move (by conv=>lhs;whnf)) rfl ?_
 refine lst_enter (run_call (by kernel_rfl) (args_1 (by conv=>lhs;whnf))) rfl ?_
 refine Calls.mono (retry_any s _ hI (hs0 _ hS)) ?_
 rintro _ w9 ⟨rfl, hq⟩
 refine ⟨_, rfl, ?_⟩
 refine lst_run (run_assign (by conv=>lhs;whnf)) rfl ?_
 refine lst_done ?_
 refine goes_ret1 Tryd.func76 rfl (by conv=>lhs;whnf) ?_
 exact ⟨rfl, hq⟩
end
end Go.Proofs.YtehhgmeaggempaaDoor
namespace Go.Proofs.YtehhgmeaggempaaDoor
set_option linter.unusedVariables false
theorem again_ok {s : SS} (h : InvC s) : ((againM s).1 = 0 → Inv (againM s).2 ∧ mu (againM s).2 < mu s) ∧ (againM s).2.ev = s.ev ∧ ((againM s).1 = 0 ∨ (againM s).1 = 2 ∨ (againM s).1 = 4) := by
 obtain ⟨h1, h2, h3, _⟩ := retry_ok (cntC s.ch + 1) s h
 exact ⟨h1, h2, h3⟩
structure StepOk (s : SS) (r : Int × SS) : Prop where
 go : r.1 = 0 → Inv r.2 ∧ mu r.2 < mu s
 kind : 0 ≤ r.1 ∧ r.1 ≤ 6 ∧ r.1 ≠ 1
theorem popped_inv {s : SS} {g : Gl} {rest : List Gl} (hI : Inv s) (hg : s.goals = g :: rest) (hf : s.fuel ≠ 0) : InvC ⟨s.B, s.fresh, s.fuel - 1, rest, s.ch, s.ev⟩ ∧ s.B.length + 10100 * (mu ⟨s.B, s.fresh, s.fuel - 1, rest, s.ch, s.ev⟩ + 1) ≤ 1000000000 ∧ (∀ g ∈ rest, tgd g.1) ∧ olderOk rest g.2 ∧ g.2 ≤ s.ch.length ∧ tgd g.1 ∧ mu ⟨s.B, s.fresh, s.fuel - 1, rest, s.ch, s.ev⟩ + 25 = mu s := by
 have h1 := hI.c.fr
 have h2 := hI.c.bl
 have h3 := hI.gg
 have h4 := hI.og
 rw [hg] at h3 h4
 have hm : mu ⟨s.B, s.fresh, s.fuel - 1, rest, s.ch, s.ev⟩ + 25 = mu s := by unfold mu; simp only; omega
 exact ⟨⟨hI.c.bok, hI.c.gb, hI.c.ch, by simp only; omega, by simp only; omega⟩, by omega, fun x hx => h3 x (.tail _ hx), h4.2, h4.1, h3 g (.head _), hm⟩
theorem again_step {s s0 : SS} (h : InvC s) (hm : mu s ≤ mu s0) : StepOk s0 (againM s) := by
 obtain ⟨h1, h2, h3⟩ := again_ok h
 exact ⟨fun e => ⟨(h1 e).1, Nat.lt_of_lt_of_le (h1 e).2 hm⟩, by rcases h3 with h | h | h <;> rw [h] <;> decide⟩
theorem equal_step {s s0 : SS} {a t : Tm} (hI : InvC s) (hsl : s.B.length + 10100 * (mu s + 1) ≤ 1000000000) (ha : tgd a) (ht : tgd t) (hgg : ∀ g ∈ s.goals, tgd g.1) (hog : olderOk s.goals s.ch.length) (hm : mu s < mu s0) : StepOk s0 (equalM a t s) := by
 have hi := equal_inv hI hsl ha ht
 unfold equalM
 simp only
 split
 ·exact ⟨fun h => (by cases h), by refine ⟨?_, ?_, ?_⟩ <;> simp only <;> decide⟩
 split
 ·exact ⟨fun _ => ⟨⟨hi, hgg, hog⟩, hm⟩, by refine ⟨?_, ?_, ?_⟩ <;> simp only <;> decide⟩
 ·exact again_step hi (Nat.le_of_lt hm)
theorem Ts.at_mem : ∀ {T : Ts} {i : Nat}, i < T.length → T.Mem (T.at_ i)
 | .nil, _, h => by simp [Ts.length] at h
 | .cons k n s a r, 0, _ => .inl rfl
 | .cons k n s a r, i + 1, h => .inr (Ts.at_mem (T := r) (i := i) (by simp only [Ts.length] at h; omega))
theorem built_step {s s0 : SS} {g : Gl} (hI : InvC s) (hsl : s.B.length + 10100 * (mu s + 1) ≤ 1000000000) (hg : tgd g.1) (hgo : g.2 ≤ s.ch.length) (hgg : ∀ g ∈ s.goals, tgd g.1) (hog : olderOk s.goals g.2) (hb : builtB g.1.s.toList g.1.ar.length = true) (hm : mu s < mu s0) : StepOk s0 (builtM g s) := by
 have hog2 := hog.mono hgo
 have hd := tgd_down _ hg
 unfold builtM
 unfold builtB at hb
 split
 ·refine ⟨fun _ => ⟨⟨cut_inv hI g.2, hgg, ?_⟩, ?_⟩, by refine ⟨?_, ?_, ?_⟩ <;> simp only <;> decide⟩
  ·show olderOk s.goals (s.ch.drop (s.ch.length - g.2)).length
   exact hog.mono (by simp; omega)
  ·have := cnt_drop s.ch (s.ch.length - g.2)
   unfold mu at *; simp only; omega
 rename_i h1
 rw [if_neg h1] at hb
 split
 ·exact ⟨fun _ => ⟨⟨hI, hgg, hog2⟩, hm⟩, by refine ⟨?_, ?_, ?_⟩ <;> simp only <;> decide⟩
 rename_i h2
 rw [if_neg h2] at hb
 split
 ·rename_i h3
  rw [if_neg (by rw [h3]; decide), if_pos h3] at hb
  have hl : g.1.ar.length = 2 := by simpa using hb
  exact equal_step hI hsl (hd _ (Ts.at_mem (by omega))) (hd _ (Ts.at_mem (by omega))) hgg hog2 hm
 rename_i h3
 split
 ·unfold lessM
  simp only
  split
  ·exact ⟨fun h => (by cases h), by refine ⟨?_, ?_, ?_⟩ <;> simp only <;> decide⟩
  split
  ·exact again_step hI (Nat.le_of_lt hm)
  ·exact ⟨fun _ => ⟨⟨hI, hgg, hog2⟩, hm⟩, by refine ⟨?_, ?_, ?_⟩ <;> simp only <;> decide⟩
 rename_i h4
 split
 ·rename_i h5
  rw [if_neg (by rw [h5]; decide), if_neg (by rw [h5]; decide), if_neg (by rw [h5]; decide), if_pos h5] at hb
  have hl : g.1.ar.length = 3 := by simpa using hb
  unfold addM
  simp only
  split
  ·exact ⟨fun h => (by cases h), by refine ⟨?_, ?_, ?_⟩ <;> simp only <;> decide⟩
  split
  ·exact ⟨fun h => (by cases h), by refine ⟨?_, ?_, ?_⟩ <;> simp only <;> decide⟩
  ·rename_i hk hr
   refine equal_step hI hsl (hd _ (Ts.at_mem (by omega))) ?_ hgg hog2 hm
   refine ⟨?_, by simp [Ts.nodes]⟩
   simp only [Ts.good, Bool.and_eq_true, and_true]
   unfold nodeB
   rw [if_neg (by decide), if_neg (by decide), if_pos rfl]
   simp only [Bool.and_eq_true, decide_eq_true_eq]
   exact ⟨⟨⟨by omega, by omega⟩, toList_mk []⟩, rfl⟩
 ·exact again_step hI (Nat.le_of_lt hm)
theorem push_inv {s : SS} {g : Gl} {rest : List Gl} {c : Cl} {cs : List Cl} (hI : Inv s) (hg : s.goals = g :: rest) (hf : s.fuel ≠ 0) (hc : ∀ x ∈ c :: cs, cB x = true) (hl : (c :: cs).length ≤ 24) :
  InvC ⟨s.B, s.fresh, s.fuel - 1, rest, ⟨g, rest, c :: cs, s.B.length⟩ :: s.ch, s.ev⟩ ∧ mu ⟨s.B, s.fresh, s.fuel - 1, rest, ⟨g, rest, c :: cs, s.B.length⟩ :: s.ch, s.ev⟩ < mu s := by
 obtain ⟨h1, h2, h3, h4, h5, h6, h7⟩ := popped_inv hI hg hf
 have hm : mu ⟨s.B, s.fresh, s.fuel - 1, rest, ⟨g, rest, c :: cs, s.B.length⟩ :: s.ch, s.ev⟩ < mu s := by
  unfold mu at *; simp only [cntC] at *; omega
 have a1 := hI.c.fr
 have a2 := hI.c.bl
 refine ⟨⟨hI.c.bok, hI.c.gb, ?_, by simp only; omega, by simp only; omega⟩, hm⟩
 exact ⟨Nat.le_refl _, ⟨h5, h4⟩, fun x hx => by
  rcases List.mem_cons.1 hx with rfl | hx
  ·exact h6
  ·exact h3 x hx, by simp, hc, hI.c.ch⟩
theorem step_ok {p : List Cl} {vars : Nat} {s : SS} (hI : Inv s) (hev : s.ev.length < 12) (hp : pB p = true) : StepOk s (stepM p vars s) ∧ ((stepM p vars s).1 = 0 → (stepM p vars s).2.ev.length < 12) := by
 have hp2 : p.length ≤ 24 ∧ ∀ x ∈ p, cB x = true := by
  unfold pB at hp
  simp only [Bool.and_eq_true, decide_eq_true_eq, List.all_eq_true] at hp
  exact hp
 have hag : ∀ s' : SS, InvC s' → s'.ev.length < 12 → ((againM s').1 = 0 → (againM s').2.ev.length < 12) := fun s' h1 h2 _ => by rw [(again_ok h1).2.1]; exact h2
 have heq : ∀ (s' : SS) (a t : Tm), InvC s' → s'.B.length + 10100 * (mu s' + 1) ≤ 1000000000 → tgd a → tgd t → s'.ev.length < 12 → ((equalM a t s').1 = 0 → (equalM a t s').2.ev.length < 12) := fun s' a t h1 h2 h3 h4 h5 => by
  have hi := equal_inv h1 h2 h3 h4
  unfold equalM
  simp only
  split
  ·intro h; cases h
  split
  ·intro _; exact h5
  ·exact hag _ hi h5
 unfold stepM
 cases hg : s.goals with
 | nil =>
  simp only
  unfold answerM
  cases hv : varsM s.B vars 0 200 with
  | none => exact ⟨⟨fun h => (by cases h), by refine ⟨?_, ?_, ?_⟩ <;> simp only <;> decide⟩, fun h => by cases h⟩
  | some x =>
   simp only
   have hi : InvC ⟨s.B, s.fresh, s.fuel, s.goals, s.ch, s.ev ++ [x.1.tidy]⟩ := ⟨hI.c.bok, hI.c.gb, hI.c.ch, hI.c.fr, hI.c.bl⟩
   split
   ·exact ⟨⟨fun h => (by cases h), by refine ⟨?_, ?_, ?_⟩ <;> simp only <;> decide⟩, fun h => by cases h⟩
   ·rename_i h12
    refine ⟨again_step hi (Nat.le_refl _), hag _ hi ?_⟩
    simp at h12 ⊢; omega
 | cons g rest =>
  simp only
  split
  ·exact ⟨⟨fun h => (by cases h), by refine ⟨?_, ?_, ?_⟩ <;> simp only <;> decide⟩, fun h => by cases h⟩
  rename_i hf
  obtain ⟨h1, h2, h3, h4, h5, h6, h7⟩ := popped_inv hI hg hf
  split
  ·rename_i hb
   refine ⟨built_step h1 h2 h6 h5 h3 h4 hb (by omega), ?_⟩
   have hd := tgd_down _ h6
   unfold builtB at hb
   unfold builtM
   split
   ·intro _; exact hev
   rename_i k1
   rw [if_neg k1] at hb
   split
   ·intro _; exact hev
   rename_i k2
   rw [if_neg k2] at hb
   split
   ·rename_i k3
    rw [if_neg (by rw [k3]; decide), if_pos k3] at hb
    have hl : g.1.ar.length = 2 := by simpa using hb
    exact heq _ _ _ h1 h2 (hd _ (Ts.at_mem (by omega))) (hd _ (Ts.at_mem (by omega))) hev
   split
   ·unfold lessM
    simp only
    split
    ·intro h; cases h
    split
    ·exact hag _ h1 hev
    ·intro _; exact hev
   split
   ·rename_i k5
    rw [if_neg (by rw [k5]; decide), if_neg (by rw [k5]; decide), if_neg (by rw [k5]; decide), if_pos k5] at hb
    have hl : g.1.ar.length = 3 := by simpa using hb
    unfold addM
    simp only
    split
    ·intro h; cases h
    split
    ·intro h; cases h
    ·refine heq _ _ _ h1 h2 (hd _ (Ts.at_mem (by omega))) ?_ hev
     refine ⟨?_, by simp [Ts.nodes]⟩
     simp only [Ts.good, Bool.and_eq_true, and_true]
     unfold nodeB
     rw [if_neg (by decide), if_neg (by decide), if_pos rfl]
     simp only [Bool.and_eq_true, decide_eq_true_eq]
     exact ⟨⟨⟨by omega, by omega⟩, toList_mk []⟩, rfl⟩
   ·exact hag _ h1 hev
  ·cases hm : p.filter (fitsC g.1) with
   | nil => exact ⟨⟨fun h => (by cases h), by refine ⟨?_, ?_, ?_⟩ <;> simp only <;> decide⟩, fun h => by cases h⟩
   | cons c cs =>
    simp only
    have hsub : ∀ x ∈ c :: cs, cB x = true := fun x hx => hp2.2 x (by rw [← hm] at hx; exact (List.mem_filter.1 hx).1)
    have hlen : (c :: cs).length ≤ 24 := by rw [← hm]; exact Nat.le_trans (List.length_filter_le _ _) hp2.1
    obtain ⟨i1, i2⟩ := push_inv hI hg hf hsub hlen
    exact ⟨again_step i1 (Nat.le_of_lt i2), hag _ i1 hev⟩
theorem equal_ev {s : SS} {a t : Tm} (hI : InvC s) (hsl : s.B.length + 10100 * (mu s + 1) ≤ 1000000000) (ha : tgd a) (ht : tgd t) : (equalM a t s).2.ev = s.ev := by
 have hi := equal_inv hI hsl ha ht
 unfold equalM
 simp only
 split
 ·rfl
 split
 ·rfl
 ·exact (again_ok hi).2.1
theorem built_ev {s : SS} {g : Gl} (hI : InvC s) (hsl : s.B.length + 10100 * (mu s + 1) ≤ 1000000000) (hg : tgd g.1) (hb : builtB g.1.s.toList g.1.ar.length = true) : (builtM g s).2.ev = s.ev := by
 have hd := tgd_down _ hg
 unfold builtB at hb
 unfold builtM
 split
 ·rfl
 rename_i k1
 rw [if_neg k1] at hb
 split
 ·rfl
 rename_i k2
 rw [if_neg k2] at hb
 split
 ·rename_i k3
  rw [if_neg (by rw [k3]; decide), if_pos k3] at hb
  have hl : g.1.ar.length = 2 := by simpa using hb
  exact equal_ev hI hsl (hd _ (Ts.at_mem (by omega))) (hd _ (Ts.at_mem (by omega)))
 split
 ·unfold lessM
  simp only
  split
  ·rfl
  split
  ·exact (again_ok hI).2.1
  ·rfl
 split
 ·rename_i k5
  rw [if_neg (by rw [k5]; decide), if_neg (by rw [k5]; decide), if_neg (by rw [k5]; decide), if_pos k5] at hb
  have hl : g.1.ar.length = 3 := by simpa using hb
  unfold addM
  simp only
  split
  ·rfl
  split
  ·rfl
  ·refine equal_ev hI hsl (hd _ (Ts.at_mem (by omega))) ?_
   refine ⟨?_, by simp [Ts.nodes]⟩
   simp only [Ts.good, Bool.and_eq_true, and_true]
   unfold nodeB
   rw [if_neg (by decide), if_neg (by decide), if_pos rfl]
   simp only [Bool.and_eq_true, decide_eq_true_eq]
   exact ⟨⟨⟨by omega, by omega⟩, toList_mk []⟩, rfl⟩
 ·exact (again_ok hI).2.1
theorem step_ans (p : List Cl) (vars : Nat) (s : SS) (hI : Inv s) (hp : pB p = true) : (stepM p vars s).2.ev = s.ev ∨ ∃ T l, varsM s.B vars 0 200 = some (T, l) ∧ (stepM p vars s).2.ev = s.ev ++ [T.tidy] ∧ ((stepM p vars s).1 = 6 ↔ s.ev.length + 1 = 12) := by
 have hp2 : p.length ≤ 24 ∧ ∀ x ∈ p, cB x = true := by
  unfold pB at hp
  simp only [Bool.and_eq_true, decide_eq_true_eq, List.all_eq_true] at hp
  exact hp
 unfold stepM
 cases hg : s.goals with
 | nil =>
  simp only
  unfold answerM
  cases hv : varsM s.B vars 0 200 with
  | none => exact .inl rfl
  | some x =>
   right
   refine ⟨x.1, x.2, rfl, ?_⟩
   simp only
   have hi : InvC ⟨s.B, s.fresh, s.fuel, s.goals, s.ch, s.ev ++ [x.1.tidy]⟩ := ⟨hI.c.bok, hI.c.gb, hI.c.ch, hI.c.fr, hI.c.bl⟩
   obtain ⟨a1, a2, a3⟩ := again_ok hi
   split
   ·rename_i h12
    refine ⟨rfl, fun _ => by simpa using h12, fun _ => rfl⟩
   ·rename_i h12
    refine ⟨a2, fun h => ?_, fun h => absurd (by simpa using h) h12⟩
    rcases a3 with e | e | e <;> rw [e] at h <;> cases h
 | cons g rest =>
  simp only
  split
  ·exact .inl rfl
  rename_i hf
  obtain ⟨h1, h2, h3, h4, h5, h6, h7⟩ := popped_inv hI hg hf
  split
  ·rename_i hb
   exact .inl (built_ev h1 h2 h6 hb)
  ·cases hm : p.filter (fitsC g.1) with
   | nil => exact .inl rfl
   | cons c cs =>
    simp only
    have hsub : ∀ x ∈ c :: cs, cB x = true := fun x hx => hp2.2 x (by rw [← hm] at hx; exact (List.mem_filter.1 hx).1)
    have hlen : (c :: cs).length ≤ 24 := by rw [← hm]; exact Nat.le_trans (List.length_filter_le _ _) hp2.1
    obtain ⟨i1, i2⟩ := push_inv hI hg hf hsub hlen
    exact .inl (again_ok i1).2.1
theorem step_ev (p : List Cl) (vars : Nat) (s : SS) (hI : Inv s) (hev : s.ev.length < 12) (hp : pB p = true) : (stepM p vars s).2.ev.length ≤ 12 := by
 rcases step_ans p vars s hI hp with h | ⟨T, l, _, h, _⟩
 ·rw [h]; omega
 ·rw [h]; simp; omega
theorem start_inv {q : Ts} {vars fuel : Nat} (hq : qB vars q = true) (hf : fuel ≤ 150) : Inv (startM q vars fuel) ∧ mu (startM q vars fuel) ≤ 3750 := by
 simp only [qB, Bool.and_eq_true, decide_eq_true_eq] at hq
 have hv : (vars : Int) ≤ 8 := hq.1.1.2
 refine ⟨⟨⟨trivial, fun x hx => (by cases hx), trivial, by unfold mu startM; simp only [cntC]; omega, by unfold mu startM; simp only [cntC, List.length_nil]; omega⟩, ?_, ?_⟩, by unfold mu startM; simp only [cntC]; omega⟩
 ·exact body_gd hv (by omega) (by omega) (fun g hg => (by cases hg)) q hq.2
 ·exact body_older (rest := []) trivial q
end Go.Proofs.YtehhgmeaggempaaDoor
namespace Go.Proofs.YtehhgmeaggempaaDoor
open Go.RowKit
set_option linter.unusedVariables false
set_option linter.unusedSimpArgs false
section
variable {P : List Cl} {q : Nat}
def GoesTo (P : List Cl) (q : Nat) (s : SS) (L : List Ev) : Prop := ∃ n, runM P q n s = L ∧ L ≠ []
def Retry (P : List Cl) (q : Nat) (s : SS) (L : List Ev) : Prop := ((againM s).1 = 0 ∧ GoesTo P q (againM s).2 L) ∨ ((againM s).1 ≠ 0 ∧ L = evsOf (againM s).2.ev ++ [((againM s).1, .nil)])
theorem goes_step {s s' : SS} {L : List Ev} (h : stepM P q s = (0, s')) (hg : GoesTo P q s' L) : GoesTo P q s L := by
 obtain ⟨n, h1, h2⟩ := hg
 refine ⟨n + 1, ?_, h2⟩
 simp only [runM, h, if_true]; exact h1
theorem goes_stop {s s' : SS} {k : Int} (h : stepM P q s = (k, s')) (hk : k ≠ 0) : GoesTo P q s (evsOf s'.ev ++ [(k, .nil)]) := by
 refine ⟨1, ?_, by simp⟩
 simp only [runM, h]
 rw [if_neg hk]
theorem goes_retry {s t : SS} {L : List Ev} (h : stepM P q s = againM t) (hr : Retry P q t L) : GoesTo P q s L := by
 rcases hr with ⟨h0, hg⟩ | ⟨h0, rfl⟩
 ·exact goes_step (s' := (againM t).2) (by rw [h, ← h0]) hg
 ·exact goes_stop (s' := (againM t).2) (k := (againM t).1) h h0
theorem retry_fuel : ∀ (n m : Nat) (s : SS), cntC s.ch < n → cntC s.ch < m → retryM n s = retryM m s
 | 0, _, _, h, _ => by omega
 | _, 0, _, _, h => by omega
 | n + 1, m + 1, s, hn, hm => by
  conv => lhs; unfold retryM
  conv => rhs; unfold retryM
  cases h1 : s.ch with
  | nil => rfl
  | cons c cs =>
   simp only
   cases h2 : c.cls with
   | nil => rfl
   | cons cl more =>
    simp only
    have hc : cntC s.ch = more.length + 1 + cntC cs := by rw [h1]; simp only [cntC, h2, List.length_cons]
    split
    ·rfl
    split
    ·rfl
    ·exact retry_fuel n m _ (by simp only [pop_cnt]; omega) (by simp only [pop_cnt]; omega)
theorem undo_app (X B : Bnd) : undoM (X ++ B) B.length = B := by
 unfold undoM
 rw [show (X ++ B).length - B.length = X.length by simp]
 simp
theorem retry_cons {t : SS} {g : Gl} {rest : List Gl} {c : Cl} {more : List Cl} {C : List Ch} {X B : Bnd} (hc : t.ch = ⟨g, rest, c :: more, B.length⟩ :: C) (hB : t.B = X ++ B) {L : List Ev} :
  Retry P q t L ↔ (if 400 < (uniM 401 (c.head.shift t.fresh) g.1 B 0).w then L = evsOf t.ev ++ [(4, .nil)]
   else if (uniM 401 (c.head.shift t.fresh) g.1 B 0).ok = true then GoesTo P q ⟨(uniM 401 (c.head.shift t.fresh) g.1 B 0).B, t.fresh + c.vars.toNat, t.fuel, bodyG c.bd t.fresh C.length rest, popC ⟨g, rest, [], B.length⟩ more C, t.ev⟩ L
   else Retry P q ⟨(uniM 401 (c.head.shift t.fresh) g.1 B 0).B, t.fresh + c.vars.toNat, t.fuel, t.goals, popC ⟨g, rest, [], B.length⟩ more C, t.ev⟩ L) := by
 have hp : popC ⟨g, rest, c :: more, B.length⟩ more C = popC ⟨g, rest, [], B.length⟩ more C := by cases more <;> rfl
 have ha : againM t = retryM (cntC t.ch + 1) t := rfl
 have hr := retryM_cons (n := cntC t.ch) (s := t) hc (rfl : (⟨g, rest, c :: more, B.length⟩ : Ch).cls = c :: more)
 rw [hB, undo_app, hp] at hr
 unfold Retry
 rw [ha, hr]
 dsimp only
 split
 ·simp
 split
 ·simp
 ·have hf : retryM (cntC t.ch) ⟨(uniM 401 (c.head.shift t.fresh) g.1 B 0).B, t.fresh + c.vars.toNat, t.fuel, t.goals, popC ⟨g, rest, [], B.length⟩ more C, t.ev⟩ = againM ⟨(uniM 401 (c.head.shift t.fresh) g.1 B 0).B, t.fresh + c.vars.toNat, t.fuel, t.goals, popC ⟨g, rest, [], B.length⟩ more C, t.ev⟩ := by
   refine retry_fuel _ _ _ ?_ (by simp only; omega)
   simp only [pop_cnt]; rw [hc]; simp only [cntC, List.length_cons]; omega
  rw [hf]
theorem TsR.low {ρ : Int → Int → Prop} {m m' : Int} (hρ : ∀ u v, ρ u v → u < m ∧ v < m') {T U : Ts} (h : TsR ρ T U) : T.vars (· < m) ∧ U.vars (· < m') := by
 induction h with
 | nil => exact ⟨trivial, trivial⟩
 | var h1 _ ih => exact ⟨⟨fun _ => (hρ _ _ h1).1, trivial, ih.1⟩, ⟨fun _ => (hρ _ _ h1).2, trivial, ih.2⟩⟩
 | node h1 _ _ i1 i2 => exact ⟨⟨fun e => absurd e h1, i1.1, i2.1⟩, ⟨fun e => absurd e h1, i1.2, i2.2⟩⟩
theorem TRel.low {ρ : Int → Int → Prop} {m m' : Int} (hρ : ∀ u v, ρ u v → u < m ∧ v < m') {t t' : Tm} (h : TRel ρ t t') : lowT m t ∧ lowT m' t' := by
 obtain ⟨⟨a, b, _⟩, c, d, _⟩ := TsR.low hρ h
 exact ⟨⟨a, b⟩, ⟨c, d⟩⟩
theorem uni_both {ρ : Int → Int → Prop} {B e : Bnd} {m m' : Int} (h : Bm sysS sysD (TRel ρ) B e) (hB : FB m B) (he : FB m' e) (hρ : ∀ u v, ρ u v → u < m ∧ v < m') {a b a' b' : Tm} (ha : TRel ρ a a') (hb : TRel ρ b b') :
  (uniM 401 a b B 0).ok = (uniD a' b' e).ok ∧ (uniM 401 a b B 0).w = (uniD a' b' e).w ∧ Bm sysS sysD (TRel ρ) (uniM 401 a b B 0).B (uniD a' b' e).s ∧ FB m (uniM 401 a b B 0).B ∧ FB m' (uniD a' b' e).s := by
 have hu := uni_eq 401 a b B 0 h.oka
 obtain ⟨h1, h2, h3⟩ := uni_sim (sysT_law joinS_ok) (sysT_law joinD_ok) 401 a b a' b' B e 0 h ha hb
 have la := ha.low hρ
 have lb := hb.low hρ
 have f1 := uni_fb joinS_fb 401 a b B 0 hB la.1 lb.1
 have f2 := uni_fb joinD_fb 401 a' b' e 0 he la.2 lb.2
 rw [← hu] at h1 h2 h3 f1
 exact ⟨h1, h2, h3, f1, f2⟩
end
end Go.Proofs.YtehhgmeaggempaaDoor
namespace Go.Proofs.YtehhgmeaggempaaDoor
open Go.RowKit
set_option linter.unusedVariables false
set_option linter.unusedSimpArgs false
def cutC (h : Nat → Nat) (C : List Ch) (c : Int) : List Ch := if c < 0 then C else C.drop (C.length - h c.toNat)
structure Rs (P : List Cl) (q : Nat) (K : List Ev → Prop) (B0 : Bnd) (fr0 : Nat) (C : List Ch) (p p' : PS) : Prop where
 vm : p.vars ≤ p'.vars
 cm : p.calls ≤ p'.calls
 fm : p'.fuel ≤ p.fuel
 en : p'.ended = true → K p'.out
 go : p'.ended = false → ∃ t : SS, InvC t ∧ t.ch = C ∧ t.fuel = p'.fuel ∧ p'.out = evsOf t.ev ∧ t.ev.length < 12 ∧ (∃ X, t.B = X ++ B0) ∧ fr0 ≤ t.fresh ∧ p'.vars ≤ t.fresh ∧ ∀ L, Retry P q t L → K L
def GlR (ρ : Int → Int → Prop) (h : Nat → Nat) (x : Gl) (y : Tg) : Prop := TRel ρ x.1 y.1 ∧ x.2 = h y.2
structure Rl (ρ : Int → Int → Prop) (h : Nat → Nat) (q : Nat) (s : SS) (g : List Tg) (e : Bnd) (p : PS) : Prop where
 fuel : s.fuel = p.fuel
 out : p.out = evsOf s.ev
 ev : s.ev.length < 12
 ne : p.ended = false
 bm : Bm sysS sysD (TRel ρ) s.B e
 fb : FB s.fresh s.B
 fe : FB p.vars e
 rho : ∀ u v, ρ u v → u < s.fresh ∧ v < p.vars
 le : p.vars ≤ s.fresh
 qv : ∀ v : Nat, v < q → ρ v v
 gl : Al (GlR ρ h) s.goals g
 srt : g.Pairwise fun a b => b.2 ≤ a.2
 mono : ∀ a ∈ g, ∀ b ∈ g, a.2 ≤ b.2 → h a.2 ≤ h b.2
 ht : ∀ a ∈ g, h a.2 ≤ s.ch.length ∧ a.2 ≤ p.calls
 inv : Inv s
def PSaid (P : List Cl) (q f : Nat) : Prop := ∀ ρ h s g e p, Rl ρ h q s g e p → p.fuel ≤ f →
 Rs P q (GoesTo P q s) s.B s.fresh (cutC h s.ch (proveM P q f g e p).1) p (proveM P q f g e p).2 ∧ ((proveM P q f g e p).2.ended = false → (proveM P q f g e p).1 = -1 ∨ ∃ a ∈ g, (proveM P q f g e p).1 = (a.2 : Nat))
theorem Al.impM {X Y : Type} {R Q : X → Y → Prop} {l : List X} {m : List Y} (h : Al R l m) : (∀ x y, y ∈ m → R x y → Q x y) → Al Q l m := by
 induction h with
 | nil => intro _; exact .nil
 | cons h _ ih => intro hi; exact .cons (hi _ _ (List.mem_cons_self ..) h) (ih fun x y hy hr => hi x y (List.mem_cons_of_mem _ hy) hr)
theorem body_mem {m : Int} {c : Nat} {r : List Tg} : ∀ (T : Ts) {a : Tg}, a ∈ bodyT T m c r → a.2 = c ∨ a ∈ r
 | .nil, a, h => .inr h
 | .cons k n s ar t, a, h => by
  rcases List.mem_cons.1 h with rfl | h
  ·exact .inl rfl
  ·exact body_mem t h
theorem body_srt {m : Int} {c : Nat} {r : List Tg} (hr : r.Pairwise fun a b => b.2 ≤ a.2) (hc : ∀ a ∈ r, a.2 ≤ c) : ∀ T : Ts, (bodyT T m c r).Pairwise fun a b => b.2 ≤ a.2
 | .nil => hr
 | .cons k n s ar t => by
  refine List.pairwise_cons.2 ⟨fun a ha => ?_, body_srt hr hc t⟩
  rcases body_mem t ha with e | e
  ·exact Nat.le_of_eq e
  ·exact hc a e
theorem body_rel {ρ : Int → Int → Prop} {h : Nat → Nat} {m m' V : Int} {o c : Nat} {rest : List Gl} {r : List Tg} (h0 : 0 ≤ m) (h1 : m ≤ 40000) (h2 : 0 ≤ m') (h3 : m' ≤ 40000) (hV : V ≤ 8) (ho : o = h c) (hr : Al (GlR (addR ρ m m' V) h) rest r) : ∀ T : Ts, T.goals V = true → Al (GlR (addR ρ m m' V) h) (bodyG T m o rest) (bodyT T m' c r)
 | .nil, _ => hr
 | .cons k n s ar t, hg => by
  simp only [Ts.goals, gB, Bool.and_eq_true] at hg
  exact .cons ⟨shift_rel h0 h1 h2 h3 hV (.cons k n s ar .nil) hg.1.1.2, ho⟩ (body_rel h0 h1 h2 h3 hV ho hr t hg.2)
theorem pop_drop (c : Ch) (more : List Cl) (C : List Ch) {k : Nat} (hk : k ≤ C.length) : (popC c more C).drop ((popC c more C).length - k) = C.drop (C.length - k) := by
 cases more with
 | nil => rfl
 | cons x r =>
  show (_ :: C).drop (C.length + 1 - k) = _
  rw [show C.length + 1 - k = (C.length - k) + 1 by omega]; rfl
theorem evs_end (l : List Ts) (k : Int) (p : PS) (h : p.out = evsOf l) : (endP k p).out = evsOf l ++ [(k, .nil)] := by simp only [endP, h]
section
variable {P : List Cl} {q : Nat}
theorem try_sim {f : Nat} (ih : PSaid P q f) {ρ : Int → Int → Prop} {h : Nat → Nat} {B e : Bnd} {C : List Ch} {g : Gl} {g' : Tg} {rest : List Gl} {r' : List Tg} {call : Nat}
  (bm : Bm sysS sysD (TRel ρ) B e) (hgg : TRel ρ g.1 g'.1) (gl : Al (GlR ρ h) rest r') (srt : r'.Pairwise fun a b => b.2 ≤ a.2) (mono : ∀ a ∈ r', ∀ b ∈ r', a.2 ≤ b.2 → h a.2 ≤ h b.2) (ht : ∀ a ∈ r', h a.2 ≤ C.length ∧ a.2 < call) (qv : ∀ v : Nat, v < q → ρ v v) :
  ∀ (cls : List Cl) (t : SS) (p : PS), InvC t → t.ch = popC ⟨g, rest, [], B.length⟩ cls C → (∃ X, t.B = X ++ B) → t.fuel = p.fuel → p.out = evsOf t.ev → t.ev.length < 12 → p.ended = false → p.vars ≤ t.fresh → FB t.fresh B → FB p.vars e → (∀ u v, ρ u v → u < t.fresh ∧ v < p.vars) → call ≤ p.calls → p.fuel ≤ f → (∀ c ∈ cls, cB c = true) →
   Rs P q (Retry P q t) B t.fresh (cutC h C (tryM (proveM P q f) g' r' e call cls p).1) p (tryM (proveM P q f) g' r' e call cls p).2 ∧ ((tryM (proveM P q f) g' r' e call cls p).2.ended = false → (tryM (proveM P q f) g' r' e call cls p).1 = -1 ∨ ∃ a ∈ r', (tryM (proveM P q f) g' r' e call cls p).1 = (a.2 : Nat)) := by
 intro cls
 induction cls with
 | nil =>
  intro t p hI hch hX hfu ho hev hne hle hfb hfe hρ hca hfl _
  refine ⟨⟨Nat.le_refl _, Nat.le_refl _, Nat.le_refl _, fun hh => ?_, fun _ => ⟨t, hI, hch, hfu, ho, hev, hX, Nat.le_refl _, hle, fun L hL => hL⟩⟩, fun _ => .inl rfl⟩
  have : p.ended = true := hh
  rw [hne] at this; cases this
 | cons c more ihc =>
  intro t p hI hch hX hfu ho hev hne hle hfb hfe hρ hca hfl hcB
  obtain ⟨X, hX⟩ := hX
  have hch' : t.ch = ⟨g, rest, c :: more, B.length⟩ :: C := hch
  obtain ⟨v0, v1, v2, v3, v4⟩ := cB_parts (hcB c (List.mem_cons_self ..))
  have hfr : t.fresh ≤ 40000 := by have := hI.fr; omega
  have hpi := pop_inv hI hch' (rfl : (⟨g, rest, c :: more, B.length⟩ : Ch).cls = c :: more) t.goals
  rw [hX, undo_app] at hpi
  have hp : popC ⟨g, rest, c :: more, B.length⟩ more C = popC ⟨g, rest, [], B.length⟩ more C := by cases more <;> rfl
  rw [hp] at hpi
  have bm' := bm.more (V := c.vars) hfb hfe hρ
  have hhead : TRel (addR ρ t.fresh p.vars c.vars) (c.head.shift t.fresh) (c.head.shift p.vars) := by
   refine shift_rel (by omega) (by omega) (by omega) (by omega) v1 (.cons c.k c.n c.s c.hd .nil) ?_
   simp only [gB, Bool.and_eq_true] at v4; exact v4.1.2
  have hρ' : ∀ u v, addR ρ t.fresh p.vars c.vars u v → u < ((t.fresh + c.vars.toNat : Nat) : Int) ∧ v < ((p.vars + c.vars.toNat : Nat) : Int) := by
   rintro u v (h1 | ⟨i, i0, i1, rfl, rfl⟩)
   ·have := hρ u v h1; omega
   ·omega
  have hgg' : TRel (addR ρ t.fresh p.vars c.vars) g.1 g'.1 := TsR.mono (fun _ _ h => .inl h) hgg
  obtain ⟨u1, u2, u3, u4, u5⟩ := uni_both bm' (hfb.mono (m' := ((t.fresh + c.vars.toNat : Nat) : Int)) (by omega)) (hfe.mono (m' := ((p.vars + c.vars.toNat : Nat) : Int)) (by omega)) hρ' hhead hgg'
  have hrc := fun L => retry_cons (P := P) (q := q) (L := L) hch' hX
  obtain ⟨N, hN⟩ : ∃ N, (uniM 401 (c.head.shift t.fresh) g.1 B 0).B = N ++ B := by
   have hch2 := hI.ch
   rw [hch'] at hch2
   have hgb := hI.gb
   rw [hX] at hgb
   have hsm : SmB B := fun x hx => (hgb x (List.mem_append.2 (.inr hx))).small
   have hbo : Bok B := bm.oka
   exact (suni_up 401 (c.head.shift t.fresh) g.1 B 0 (cl_tgd (hcB c (List.mem_cons_self ..)) hfr).small (hch2.2.2.1 g (List.mem_cons_self ..)).small hbo hsm (by omega)).ext
  by_cases hw : 400 < (uniD (c.head.shift p.vars) g'.1 e).w
  ·have e1 : tryM (proveM P q f) g' r' e call (c :: more) p = (-1, endP 4 p) := by rw [tryM, if_pos hw]
   rw [e1]
   refine ⟨⟨Nat.le_refl _, Nat.le_refl _, Nat.le_refl _, fun _ => ?_, fun hh => (by cases hh)⟩, fun _ => .inl rfl⟩
   rw [hrc, if_pos (by rw [u2]; exact hw)]
   exact evs_end _ _ _ ho
  by_cases hok : (uniD (c.head.shift p.vars) g'.1 e).ok = true
  ·have hR : ∀ L, GoesTo P q ⟨(uniM 401 (c.head.shift t.fresh) g.1 B 0).B, t.fresh + c.vars.toNat, t.fuel, bodyG c.bd t.fresh C.length rest, popC ⟨g, rest, [], B.length⟩ more C, t.ev⟩ L → Retry P q t L := fun L hL => by
    rw [hrc, if_neg (by rw [u2]; exact hw), if_pos (by rw [u1]; exact hok)]; exact hL
   have hinv : Inv ⟨(uniM 401 (c.head.shift t.fresh) g.1 B 0).B, t.fresh + c.vars.toNat, t.fuel, bodyG c.bd t.fresh C.length rest, popC ⟨g, rest, [], B.length⟩ more C, t.ev⟩ := by
    have ha : againM t = (0, ⟨(uniM 401 (c.head.shift t.fresh) g.1 B 0).B, t.fresh + c.vars.toNat, t.fuel, bodyG c.bd t.fresh C.length rest, popC ⟨g, rest, [], B.length⟩ more C, t.ev⟩) := by
     have hr := retryM_cons (n := cntC t.ch) (s := t) hch' (rfl : (⟨g, rest, c :: more, B.length⟩ : Ch).cls = c :: more)
     rw [hX, undo_app, hp, if_neg (by rw [u2]; exact hw), if_pos (by rw [u1]; exact hok)] at hr
     exact hr
    have := (again_ok hI).1
    rw [ha] at this
    exact (this rfl).1
   have hpl := pop_len ⟨g, rest, [], B.length⟩ more C
   have hRl : Rl (addR ρ t.fresh p.vars c.vars) (fun x => if x = call then C.length else h x) q ⟨(uniM 401 (c.head.shift t.fresh) g.1 B 0).B, t.fresh + c.vars.toNat, t.fuel, bodyG c.bd t.fresh C.length rest, popC ⟨g, rest, [], B.length⟩ more C, t.ev⟩ (bodyT c.bd p.vars call r') (uniD (c.head.shift p.vars) g'.1 e).s ⟨p.fuel, p.vars + c.vars.toNat, p.calls, p.out, p.ended⟩ := by
    refine ⟨hfu, ho, hev, hne, u3, u4, u5, hρ', by simp only; omega, fun v hv => .inl (qv v hv), ?_, body_srt srt (fun a ha => Nat.le_of_lt (ht a ha).2) _, ?_, ?_, hinv⟩
    ·refine body_rel (by omega) (by omega) (by omega) (by omega) v1 (by simp) (gl.impM fun x y hy hr => ⟨TsR.mono (fun _ _ h => .inl h) hr.1, ?_⟩) c.bd v3
     have := (ht y hy).2
     show x.2 = if y.2 = call then C.length else h y.2
     rw [if_neg (by omega)]; exact hr.2
    ·intro a ha b hb hab
     try dsimp only
     rcases body_mem _ ha with e1 | e1
     ·rcases body_mem _ hb with e2 | e2
      ·rw [if_pos e1, if_pos e2]; exact Nat.le_refl _
      ·have := (ht b e2).2; omega
     ·have h1 := ht a e1
      rw [if_neg (by omega)]
      rcases body_mem _ hb with e2 | e2
      ·rw [if_pos e2]; exact h1.1
      ·have h2 := ht b e2
       rw [if_neg (by omega)]; exact mono a e1 b e2 hab
    ·intro a ha
     try dsimp only
     rcases body_mem _ ha with e1 | e1
     ·rw [if_pos e1]; exact ⟨hpl, by omega⟩
     ·have h1 := ht a e1
      rw [if_neg (by omega)]; exact ⟨by omega, by omega⟩
   obtain ⟨hRs, hmem⟩ := ih _ _ _ _ _ _ hRl hfl
   have e1 : tryM (proveM P q f) g' r' e call (c :: more) p = if (proveM P q f (bodyT c.bd p.vars call r') (uniD (c.head.shift p.vars) g'.1 e).s ⟨p.fuel, p.vars + c.vars.toNat, p.calls, p.out, p.ended⟩).2.ended = true then (-1, (proveM P q f (bodyT c.bd p.vars call r') (uniD (c.head.shift p.vars) g'.1 e).s ⟨p.fuel, p.vars + c.vars.toNat, p.calls, p.out, p.ended⟩).2)
    else if (proveM P q f (bodyT c.bd p.vars call r') (uniD (c.head.shift p.vars) g'.1 e).s ⟨p.fuel, p.vars + c.vars.toNat, p.calls, p.out, p.ended⟩).1 = (call : Nat) then (-1, (proveM P q f (bodyT c.bd p.vars call r') (uniD (c.head.shift p.vars) g'.1 e).s ⟨p.fuel, p.vars + c.vars.toNat, p.calls, p.out, p.ended⟩).2)
    else if 0 ≤ (proveM P q f (bodyT c.bd p.vars call r') (uniD (c.head.shift p.vars) g'.1 e).s ⟨p.fuel, p.vars + c.vars.toNat, p.calls, p.out, p.ended⟩).1 then proveM P q f (bodyT c.bd p.vars call r') (uniD (c.head.shift p.vars) g'.1 e).s ⟨p.fuel, p.vars + c.vars.toNat, p.calls, p.out, p.ended⟩
    else tryM (proveM P q f) g' r' e call more (proveM P q f (bodyT c.bd p.vars call r') (uniD (c.head.shift p.vars) g'.1 e).s ⟨p.fuel, p.vars + c.vars.toNat, p.calls, p.out, p.ended⟩).2 := by
    rw [tryM, if_neg hw, if_pos hok]
   rw [e1]
   generalize proveM P q f (bodyT c.bd p.vars call r') (uniD (c.head.shift p.vars) g'.1 e).s ⟨p.fuel, p.vars + c.vars.toNat, p.calls, p.out, p.ended⟩ = res at hRs hmem ⊢
   obtain ⟨a1, a2, a3, a4, a5⟩ := hRs
   dsimp only at a1 a2 a3 a5
   cases hen : res.2.ended with
   | true =>
    rw [if_pos rfl]
    exact ⟨⟨by dsimp only; omega, a2, a3, fun _ => hR _ (a4 hen), fun hh => (by rw [hen] at hh; cases hh)⟩, fun _ => .inl rfl⟩
   | false =>
    rw [if_neg (by decide)]
    obtain ⟨t2, b1, b2, b3, b4, b5, ⟨X2, b6⟩, b7, b8, b9⟩ := a5 hen
    have hsuf : ∃ Y, t2.B = Y ++ B := ⟨X2 ++ N, by rw [b6, hN, List.append_assoc]⟩
    have hmem := hmem hen
    by_cases hcut : res.1 = (call : Nat)
    ·rw [if_pos hcut]
     refine ⟨⟨by dsimp only; omega, a2, a3, fun hh => (by rw [hen] at hh; cases hh), fun _ => ⟨t2, b1, ?_, b3, b4, b5, hsuf, by omega, b8, fun L hL => hR _ (b9 L hL)⟩⟩, fun _ => .inl rfl⟩
     rw [b2, hcut]
     unfold cutC
     rw [if_neg (by omega), if_pos (show ((-1 : Int), res.2).1 < 0 by show (-1 : Int) < 0; decide)]
     simp only [Int.toNat_natCast, if_true]
     rw [pop_drop _ _ _ (Nat.le_refl _)]; simp
    ·rw [if_neg hcut]
     rcases hmem with hm1 | ⟨a, ha, hm2⟩
     ·rw [if_neg (by rw [hm1]; decide)]
      have hC1 : t2.ch = popC ⟨g, rest, [], B.length⟩ more C := by rw [b2, hm1]; unfold cutC; rw [if_pos (by decide)]
      obtain ⟨hRs2, hmem2⟩ := ihc t2 res.2 b1 hC1 hsuf b3 b4 b5 hen b8 (hfb.mono (by omega)) (hfe.mono (by omega)) (fun u v h => by have := hρ u v h; omega) (by omega) (by omega) (fun c hc => hcB c (List.mem_cons_of_mem _ hc))
      obtain ⟨d1, d2, d3, d4, d5⟩ := hRs2
      refine ⟨⟨by omega, by omega, by omega, fun hh => hR _ (b9 _ (d4 hh)), fun hh => ?_⟩, hmem2⟩
      obtain ⟨t3, f1, f2, f3, f4, f5, f6, f7, f8, f9⟩ := d5 hh
      exact ⟨t3, f1, f2, f3, f4, f5, f6, by omega, f8, fun L hL => hR _ (b9 _ (f9 L hL))⟩
     ·have hpos : 0 ≤ res.1 := by omega
      rw [if_pos hpos]
      rcases body_mem _ ha with e2 | e2
      ·rw [e2] at hm2; exact absurd hm2 hcut
      ·have h1 := ht a e2
       refine ⟨⟨by omega, a2, a3, fun hh => (by rw [hen] at hh; cases hh), fun _ => ⟨t2, b1, ?_, b3, b4, b5, hsuf, by omega, b8, fun L hL => hR _ (b9 L hL)⟩⟩, fun _ => .inr ⟨a, e2, hm2⟩⟩
       rw [b2, hm2]
       unfold cutC
       rw [if_neg (by omega), if_neg (by omega)]
       simp only [Int.toNat_natCast]
       rw [if_neg (by omega), pop_drop _ _ _ h1.1]
  ·have e1 : tryM (proveM P q f) g' r' e call (c :: more) p = tryM (proveM P q f) g' r' e call more p := by rw [tryM, if_neg hw, if_neg hok]
   rw [e1]
   have hR : ∀ L, Retry P q ⟨(uniM 401 (c.head.shift t.fresh) g.1 B 0).B, t.fresh + c.vars.toNat, t.fuel, t.goals, popC ⟨g, rest, [], B.length⟩ more C, t.ev⟩ L → Retry P q t L := fun L hL => by
    rw [hrc, if_neg (by rw [u2]; exact hw), if_neg (by rw [u1]; exact hok)]; exact hL
   obtain ⟨hRs2, hmem2⟩ := ihc _ p hpi rfl ⟨N, hN⟩ hfu ho hev hne (by simp only; omega) (hfb.mono (by simp only; omega)) hfe (fun u v h => by have := hρ u v h; simp only; omega) hca hfl (fun c hc => hcB c (List.mem_cons_of_mem _ hc))
   obtain ⟨d1, d2, d3, d4, d5⟩ := hRs2
   refine ⟨⟨d1, d2, d3, fun hh => hR _ (d4 hh), fun hh => ?_⟩, hmem2⟩
   obtain ⟨t3, f1, f2, f3, f4, f5, f6, f7, f8, f9⟩ := d5 hh
   exact ⟨t3, f1, f2, f3, f4, f5, f6, by simp only at f7; omega, f8, fun L hL => hR _ (f9 L hL)⟩
end
end Go.Proofs.YtehhgmeaggempaaDoor
namespace Go.Proofs.YtehhgmeaggempaaDoor
open Go.RowKit
set_option linter.unusedVariables false
set_option linter.unusedSimpArgs false
theorem TRel.top {ρ : Int → Int → Prop} {t t' : Tm} (h : TRel ρ t t') : t.s = t'.s ∧ t.ar.length = t'.ar.length ∧ TsR ρ t.ar t'.ar := by
 rcases h.cases with ⟨_, _, _, h1, h2, h3⟩ | ⟨_, _, _, h1, h2⟩
 ·exact ⟨h1, by rw [h2, h3], by rw [h2, h3]; exact .nil⟩
 ·exact ⟨h1, h2.len, h2⟩
theorem TsR.at_ {ρ : Int → Int → Prop} {T U : Ts} (h : TsR ρ T U) : ∀ {i : Nat}, i < T.length → TRel ρ (T.at_ i) (U.at_ i) := by
 induction h with
 | nil => intro i hi; simp [Ts.length] at hi
 | var h1 _ ih =>
  intro i hi
  cases i with
  | zero => exact .var h1 .nil
  | succ i => exact ih (by simpa [Ts.length] using hi)
 | node h1 h2 _ _ ih =>
  intro i hi
  cases i with
  | zero => exact .node h1 h2 .nil
  | succ i => exact ih (by simpa [Ts.length] using hi)
theorem look_both {ρ : Int → Int → Prop} {B e : Bnd} (h : Bm sysS sysD (TRel ρ) B e) {t t' : Tm} (ht : TRel ρ t t') : ((lookM B t).k = 0 ∧ (lookM e t').k = 0) ∨ ((lookM B t).k ≠ 0 ∧ (lookM B t).k = (lookM e t').k ∧ (lookM B t).n = (lookM e t').n) := by
 rcases h.cases ht with ⟨u, v, e1, e2⟩ | ⟨k, n, s, ar, ar', e1, e2, _⟩
 ·exact .inl ⟨(tview_var.1 e1).1, (tview_var.1 e2).1⟩
 ·obtain ⟨a1, a2, a3, _⟩ := tview_node (B := B) e1
  obtain ⟨b1, b2, b3, _⟩ := tview_node (B := e) e2
  exact .inr ⟨by rw [a1]; exact a2, by rw [a1, b1], by rw [a3, b3]⟩
theorem map_tms {g : Tm → Nat → Option (Tm × Nat)} : ∀ (T : Ts) (l : Nat), mapL g T l = mapG g T.tms l
 | .nil, l => rfl
 | .cons k n s a r, l => by
  simp only [mapL, Ts.tms, mapG]
  cases g ⟨k, n, s, a⟩ l with
  | none => rfl
  | some p =>
   obtain ⟨t, l'⟩ := p
   dsimp only
   rw [map_tms r]
   all_goals (cases mapG g r.tms l' <;> rfl)
theorem mapG_congr {g g' : Tm → Nat → Option (Tm × Nat)} : ∀ (l : List Tm), (∀ x ∈ l, ∀ m, g x m = g' x m) → ∀ m, mapG g l m = mapG g' l m
 | [], _, m => rfl
 | x :: r, h, m => by
  simp only [mapG]
  rw [h x (List.mem_cons_self ..) m]
  cases g' x m with
  | none => rfl
  | some p =>
   obtain ⟨t, l'⟩ := p
   dsimp only
   rw [mapG_congr r (fun y hy => h y (List.mem_cons_of_mem _ hy))]
theorem tms_Mem {x : Tm} : ∀ {T : Ts}, x ∈ T.tms → T.Mem x
 | .nil, h => by cases h
 | .cons k n s a r, h => by
  rcases List.mem_cons.1 h with rfl | h
  ·exact .inl rfl
  ·exact .inr (tms_Mem h)
theorem tgd_var {t : Tm} (h : tgd t) (hk : t.k = 0) : t.s = ⟨#[]⟩ ∧ t.ar = .nil := by
 have := h.1
 simp only [Ts.good, Bool.and_eq_true] at this
 have hn := this.1.1
 unfold nodeB at hn
 rw [if_pos hk] at hn
 simp only [Bool.and_eq_true, decide_eq_true_eq] at hn
 exact ⟨str_eq.1 (hn.1.2.trans (toList_mk []).symm), Ts.nil_of_length hn.2⟩
theorem app_eq {B : Bnd} (hB : ∀ x ∈ B, tgd x.2) : ∀ (f : Nat) (t : Tm) (l : Nat), tgd t → appM B f t l = appG sysS B f t l
 | 0, t, l, _ => rfl
 | f + 1, t, l, ht => by
  have hl := look_Q hB ht
  simp only [appM, appG]
  split
  ·rfl
  ·rw [show sysS.view B t = tvw (lookM B t) from rfl]
   unfold tvw
   by_cases hk : (lookM B t).k = 0
   ·rw [if_pos hk]
    obtain ⟨h1, h2⟩ := tgd_var hl hk
    rw [h2, h1, hk]; rfl
   ·rw [if_neg hk, map_tms]
    have := mapG_congr (g := appM B f) (g' := appG sysS B f) (lookM B t).ar.tms (fun x hx m => app_eq hB f x m (tgd_down _ hl x (tms_Mem hx))) (l - 1)
    rw [this]; rfl
theorem tgd_q {v : Nat} (hv : v < 1000) : tgd ⟨0, (v : Nat), ⟨#[]⟩, .nil⟩ := by
 refine ⟨?_, by simp [Ts.nodes]⟩
 simp only [Ts.good, Bool.and_eq_true, and_true]
 unfold nodeB
 rw [if_pos rfl]
 simp only [Bool.and_eq_true, decide_eq_true_eq]
 exact ⟨⟨⟨by omega, by omega⟩, toList_mk []⟩, rfl⟩
theorem vars_both {ρ : Int → Int → Prop} {B e : Bnd} (h : Bm sysS sysD (TRel ρ) B e) (hB : ∀ x ∈ B, tgd x.2) : ∀ (m v l : Nat), v + m ≤ 1000 → (∀ x : Nat, x < v + m → ρ x x) → OptR (fun p q : Ts × Nat => p.2 = q.2 ∧ TsR (Bm.rho sysS sysD (TRel ρ) B e) p.1 q.1) (varsM B m v l) (varsT joinD e m v l)
 | 0, v, l, _, _ => ⟨rfl, .nil⟩
 | m + 1, v, l, hv, hq => by
  simp only [varsM, varsT]
  rw [app_eq hB 201 _ l (tgd_q (by omega))]
  have h1 := app_sim h (fun {x k n s ar} hx _ => (tview_node (B := B) hx).2.1) 201 ⟨0, (v : Nat), ⟨#[]⟩, .nil⟩ ⟨0, (v : Nat), ⟨#[]⟩, .nil⟩ l (.var (hq v (by omega)) .nil)
  cases e1 : appG sysS B 201 ⟨0, (v : Nat), ⟨#[]⟩, .nil⟩ l with
  | none =>
   cases e2 : appG sysD e 201 ⟨0, (v : Nat), ⟨#[]⟩, .nil⟩ l with
   | none => trivial
   | some p => rw [e1, e2] at h1; exact h1.elim
  | some p =>
   cases e2 : appG sysD e 201 ⟨0, (v : Nat), ⟨#[]⟩, .nil⟩ l with
   | none => rw [e1, e2] at h1; exact h1.elim
   | some r =>
    rw [e1, e2] at h1
    obtain ⟨p1, p2⟩ := p
    obtain ⟨r1, r2⟩ := r
    obtain ⟨rfl, h3⟩ : p2 = r2 ∧ _ := h1
    have h4 := vars_both h hB m (v + 1) p2 (by omega) (fun x hx => hq x (by omega))
    dsimp only
    cases e3 : varsM B m (v + 1) p2 with
    | none =>
     cases e4 : varsT joinD e m (v + 1) p2 with
     | none => trivial
     | some q => rw [e3, e4] at h4; exact h4.elim
    | some p' =>
     cases e4 : varsT joinD e m (v + 1) p2 with
     | none => rw [e3, e4] at h4; exact h4.elim
     | some q' =>
      rw [e3, e4] at h4
      exact ⟨h4.1, h3.put h4.2⟩
section
variable {P : List Cl} {q : Nat}
theorem evs_app (l : List Ts) (T : Ts) : evsOf (l ++ [T]) = evsOf l ++ [(1, T)] := by simp [evsOf]
theorem tell_sim {ρ : Int → Int → Prop} {h : Nat → Nat} {s : SS} {e : Bnd} {p : PS} (hq : q ≤ 8) (hR : Rl ρ h q s [] e p) :
  Rs P q (GoesTo P q s) s.B s.fresh (cutC h s.ch (tellM q e p).1) p (tellM q e p).2 ∧ ((tellM q e p).2.ended = false → (tellM q e p).1 = -1) := by
 have hg : s.goals = [] := by have := hR.gl; cases hs : s.goals with | nil => rfl | cons a b => rw [hs] at this; cases this
 have hst : stepM P q s = answerM q s := by unfold stepM; rw [hg]
 have hv := vars_both hR.bm hR.inv.c.gb q 0 200 (by omega) (fun x hx => hR.qv x (by omega))
 have hout := hR.out
 unfold tellM
 cases e1 : varsM s.B q 0 200 with
 | none =>
  cases e2 : varsT joinD e q 0 200 with
  | some x => rw [e1, e2] at hv; exact hv.elim
  | none =>
   refine ⟨⟨Nat.le_refl _, Nat.le_refl _, Nat.le_refl _, fun _ => ?_, fun hh => (by cases hh)⟩, fun hh => (by cases hh)⟩
   have : stepM P q s = (4, s) := by rw [hst]; unfold answerM; rw [e1]
   show GoesTo P q s (p.out ++ [(4, .nil)])
   rw [hout]; exact goes_stop this (by decide)
 | some x =>
  cases e2 : varsT joinD e q 0 200 with
  | none => rw [e1, e2] at hv; exact hv.elim
  | some y =>
   obtain ⟨T, l⟩ := x
   obtain ⟨U, l'⟩ := y
   rw [e1, e2] at hv
   have ht : U.tidy = T.tidy := (tidy_rel (fun u v u' v' a b => hR.bm.inj a b) hv.2 [] [] .nil).1.symm
   dsimp only
   rw [ht]
   have hlen : (p.out ++ [((1 : Int), T.tidy)]).length = (s.ev ++ [T.tidy]).length := by rw [hout]; simp [evsOf]
   by_cases h12 : (s.ev ++ [T.tidy]).length = 12
   ·rw [if_pos (by rw [hlen]; exact h12)]
    refine ⟨⟨Nat.le_refl _, Nat.le_refl _, Nat.le_refl _, fun _ => ?_, fun hh => (by cases hh)⟩, fun hh => (by cases hh)⟩
    have : stepM P q s = (6, ⟨s.B, s.fresh, s.fuel, s.goals, s.ch, s.ev ++ [T.tidy]⟩) := by
     rw [hst]; unfold answerM; rw [e1]; simp only; rw [if_pos h12]
    have hg2 := goes_stop this (by decide)
    show GoesTo P q s ((p.out ++ [(1, T.tidy)]) ++ [(6, .nil)])
    rw [hout, ← evs_app]; exact hg2
   ·rw [if_neg (by rw [hlen]; exact h12)]
    have hev := hR.ev
    refine ⟨⟨Nat.le_refl _, Nat.le_refl _, Nat.le_refl _, fun hh => ?_, fun _ => ⟨⟨s.B, s.fresh, s.fuel, s.goals, s.ch, s.ev ++ [T.tidy]⟩, ?_, rfl, hR.fuel, ?_, ?_, ⟨[], rfl⟩, Nat.le_refl _, hR.le, fun L hL => goes_retry ?_ hL⟩⟩, fun _ => rfl⟩
    ·have : p.ended = true := hh
     rw [hR.ne] at this; cases this
    ·exact ⟨hR.inv.c.bok, hR.inv.c.gb, hR.inv.c.ch, hR.inv.c.fr, hR.inv.c.bl⟩
    ·show p.out ++ [(1, T.tidy)] = _
     rw [hout, evs_app]
    ·simp only [List.length_append, List.length_cons, List.length_nil] at h12 ⊢; omega
    ·rw [hst]; unfold answerM; rw [e1]; simp only; rw [if_neg h12]
end
end Go.Proofs.YtehhgmeaggempaaDoor
namespace Go.Proofs.YtehhgmeaggempaaDoor
open Go.RowKit
set_option linter.unusedVariables false
structure HC where
 k : Int
 n : Int
 s : ByteArray
deriving DecidableEq
structure HH where
 cs : List HC
 tr : List Int
def hat (L : List HC) (a : Int) : Option HC := if 0 ≤ a then L[a.toNat]? else none
def hlookF (L : List HC) : Nat → Int → Int
 | 0, _ => -1
 | f + 1, a => match hat L a with
  | none => -1
  | some c => if c.k = 0 ∧ c.n ≠ a then hlookF L f c.n else a
def hlook (L : List HC) (a : Int) : Int := hlookF L L.length a
structure HU where
 cs : List HC
 tr : List Int
 w : Nat
 lg : Bool
end Go.Proofs.YtehhgmeaggempaaDoor
namespace Go.Proofs.YtehhgmeaggempaaDoor
open Go.RowKit
set_option linter.unusedVariables false
set_option linter.unusedSimpArgs false
def hcs (c : HC) : List Value := [.int .i64 c.k, .int .i64 c.n, .string c.s]
def Flat (sz : Nat) (xs : List Value) (A : Option Addr) (len cap : Nat) (w : World) : Prop :=
 xs.length = len * sz ∧ len ≤ cap ∧ (0 < len → ∃ b o, A = some ⟨b, o, none⟩ ∧ ∀ j v, xs[j]? = some v → w.cell? ⟨b, o + j, none⟩ = some v)
section
variable {sz len cap : Nat} {xs : List Value} {A : Option Addr} {w w' : World}
theorem Flat.nil_ (A : Option Addr) (c : Nat) (w : World) : Flat sz [] A 0 c w := ⟨by simp, Nat.zero_le _, fun h => absurd h (Nat.lt_irrefl _)⟩
theorem Flat.own {b el : Nat} {sp : List Value} (ho : w.heap[b]? = some (.cells (xs ++ sp).toArray el)) (hx : xs.length = len * sz) (hc : len ≤ cap) : Flat sz xs (some ⟨b, 0, none⟩) len cap w :=
 ⟨hx, hc, fun _ => ⟨b, 0, rfl, fun j v hj => by
  rw [cell_own ho, Nat.zero_add, List.getElem?_append_left]
  ·exact hj
  ·rcases Nat.lt_or_ge j xs.length with h | h
   ·exact h
   ·rw [List.getElem?_eq_none h] at hj; cases hj⟩⟩
end
section
variable {L : List HC} {cap : Nat} {A : Option Addr} {b o : Nat} {w w' : World}
end
abbrev heapV (A : Option Addr) (n c : Nat) (B : Option Addr) (m d : Nat) : Value := .agg #[.slice A n c, .slice B m d]
abbrev hv (h : HH) (A : Option Addr) (c : Nat) (B : Option Addr) (d : Nat) : Value := heapV A h.cs.length c B h.tr.length d
end Go.Proofs.YtehhgmeaggempaaDoor
namespace Go.Proofs.YtehhgmeaggempaaDoor
open Go.RowKit
set_option linter.unusedVariables false
set_option linter.unusedSimpArgs false
inductive Rw (el sz : Nat) : Value → Nat → List Value → List (Nat × Obj) → Prop
 | zero_ {A : Option Addr} : Rw el sz (.slice A 0 0) 0 [] []
 | own_ {b len cap : Nat} {xs sp : List Value} (hx : xs.length = len * sz) (hc : (xs ++ sp).length = cap * sz) (hle : len ≤ cap) (hcp : 0 < cap) : Rw el sz (.slice (some ⟨b, 0, none⟩) len cap) len xs [(b, .cells (xs ++ sp).toArray el)]
theorem Rw.len_ {el sz len : Nat} {v : Value} {xs : List Value} {O : List (Nat × Obj)} (h : Rw el sz v len xs O) : xs.length = len * sz := by
 cases h with
 | zero_ => simp
 | own_ hx _ _ _ => exact hx
theorem Rw.form {el sz len : Nat} {v : Value} {xs : List Value} {O : List (Nat × Obj)} (h : Rw el sz v len xs O) : ∃ A c, v = .slice A len c ∧ len ≤ c := by
 cases h with
 | zero_ => exact ⟨_, _, rfl, Nat.le_refl _⟩
 | own_ _ _ hle _ => exact ⟨_, _, rfl, hle⟩
theorem Rw.some_ {el sz len cap l2 : Nat} {A : Option Addr} {xs : List Value} {O : List (Nat × Obj)} (h : Rw el sz (.slice A l2 cap) len xs O) (hl : 0 < len) : ∃ g sp, A = some ⟨g, 0, none⟩ ∧ O = [(g, .cells (xs ++ sp).toArray el)] ∧ (xs ++ sp).length = cap * sz ∧ len ≤ cap ∧ l2 = len := by
 cases h with
 | zero_ => omega
 | own_ hx hc hle hcp => exact ⟨_, _, rfl, rfl, hc, hle, rfl⟩
theorem Flat.src {P : Program} {sz len cap : Nat} {xs : List Value} {A : Option Addr} {w : World} {t el : TypeId} (h : Flat sz xs A len cap w) (hT : isSliceP P t = some el) (h1 : xs.all (·.oneCell') = true) : Src P sz t (.slice A len cap) len xs w := by
 by_cases hl : 0 < len
 ·obtain ⟨b, o, rfl, hs⟩ := h.2.2 hl
  exact Src.ofSlice w (sliceP hT) ⟨b, o, none⟩ _ _ _ h.1 (fun j u hj => by rw [addrPlus]; exact hs j u hj) (fun u hu => List.all_eq_true.1 h1 u hu)
 ·have hl0 : len = 0 := by omega
  subst hl0
  obtain rfl : xs = [] := List.eq_nil_of_length_eq_zero (by rw [h.1]; simp)
  cases A with
  | none => exact Src.ofNil w (sliceP hT) _
  | some a => exact Src.ofSlice w (sliceP hT) a _ _ _ (by simp) (fun j u hj => by simp at hj) (fun u hu => by cases hu)
section
variable {P : Program} {n : Nat} {e : Env} {w : World} {Q : Exit → Act → World → Prop} {ops : Array Oper} {rest : List Oper} {ty : TypeId} {pos : String} {after : Array Edge} {d : Nat}
variable {M : List Nat} {w0 : World} {H H' : List (Nat × Obj)} {F : List (World → Prop)} {b : Nat} {x y : Operand} {v : Value} {t tx : TypeId} {dst : Option Nat}
theorem lst_appendRw {el len k : Nat} {q : Value} {ys xs : List Value} {O : List (Nat × Obj)} {i : TypeInfo} {z : Value} (hS : St M w0 H F w) (hx : ev n e x = v) (hy : ev n e y = q)
  (hT : isSliceP P t = some el) (hTx : isSliceP P tx = some el) (hi : P.info? el = some i) (hz : i.zero = some z) (hzs : z.cells.size = i.size) (hys : ys.length = k * i.size) (hsrc : Src P i.size tx q k ys w) (hrow : Rw el i.size v len xs O) (hP : H.Perm (O ++ H')) (hfit : 2 * (len + k) * i.bytes ≤ 281474976710656) (hbig : len + k ≤ 4611686018427387904) (hd : Nat.blt d n = true)
  (h : ∀ v' O' w', Rw el i.size v' (len + k) (xs ++ ys) O' → St M w0 (O' ++ H') F w' → Lst P Q ops rest n ((d, v') :: e) w') :
  Lst P Q ops (⟨some d, .call ⟨.builtin .append, #[x, y], #[t, tx]⟩, ty, pos, after, none⟩ :: rest) n e w := by
 have hS := hS.perm hP
 have hlen := hrow.len_
 have hop : ∀ r w2, (Builtin.append_ #[t, tx] ty #[v, q]).run P w = .ok r w2 → (execOp (ev n e) ⟨some d, .call ⟨.builtin .append, #[x, y], #[t, tx]⟩, ty, pos, after, none⟩).run P w = .ok (.value r) w2 := by
  intro r w2 hr
  simp only [execOp, resolve, List.map_toArray, List.map_cons, List.map_nil, hx, hy, bind, pure, Sem.bind, invoke, builtin]
  rw [Sem.run_bind', hr]
  rfl
 have grow : ∀ (A : Option Addr) (cap : Nat), v = .slice A len cap → cap < len + k → (Builtin.firstCells i.size len (.slice A len cap)).run P w.drew = .ok xs.toArray w.drew → Lst P Q ops (⟨some d, .call ⟨.builtin .append, #[x, y], #[t, tx]⟩, ty, pos, after, none⟩ :: rest) n e w := by
  intro A cap hv hcap hold
  have hn := Go.Room.nextslicecap_le' hcap
  have hr := run_append_grow_src (P := P) w t tx ty el i z (sliceP hT) hi hz A len cap xs hold (q) k ys hsrc hcap (by omega) (Nat.le_trans (Nat.mul_le_mul_right _ hn) hfit)
  rw [← hv] at hr
  refine lst_run (hop _ _ hr) hd ?_
  have hcapn : len + k ≤ grownCap w (len + k) cap el := by unfold grownCap Question.cut; exact Nat.le_add_right _ _
  generalize grownCap w (len + k) cap el = nc at hcapn
  have hzc : (Builtin.zeroCells z.cells (nc - (len + k))) = (Builtin.zeroCells z.cells (nc - (len + k))).toList.toArray := by simp
  have hzl : (Builtin.zeroCells z.cells (nc - (len + k))).toList.length = (nc - (len + k)) * i.size := by simp [Builtin.zeroCells, hzs]
  generalize (Builtin.zeroCells z.cells (nc - (len + k))).toList = zl at hzc hzl
  rw [hzc]
  have hS2 := (hS.drew.alloc (.cells ((xs ++ ys) ++ zl).toArray el))
  rw [show (xs ++ ys).toArray ++ zl.toArray = ((xs ++ ys) ++ zl).toArray by simp]
  refine h _ [(w.heap.size, .cells ((xs ++ ys) ++ zl).toArray el)] _ (Rw.own_ ?_ ?_ hcapn (by omega)) ?_
  ·rw [List.length_append, hlen, hys, Nat.add_mul]
  ·rw [List.length_append, List.length_append, hlen, hys, hzl, ← Nat.add_mul, ← Nat.add_mul]; congr 1; omega
  ·have h5 : St M w0 ((w.heap.size, .cells ((xs ++ ys) ++ zl).toArray el) :: (O ++ H')) F _ := hS2
   exact St.dropL (L := O) h5.sink
 cases hrow with
 | zero_ =>
  rename_i A0
  by_cases hk0 : k = 0
  ·subst hk0
   have hye : ys = [] := List.eq_nil_of_length_eq_zero (by simpa using hys)
   subst hye
   have hr : (Builtin.append_ #[t, tx] ty #[.slice A0 0 0, q]).run P w = .ok (.slice A0 0 0) w := by
    have hu := run_underlying (sliceP hT) w
    have hu2 := run_underlying (sliceP hTx) w
    have hs1 := hsrc.len
    have hs2 := hsrc.cells
    have hs0 : (Builtin.lenOf (.slice A0 0 0)).run P w = .ok 0 w := rfl
    cases A0 <;> simp [Builtin.append_, hu, hu2, sizeOf, typeInfo, hi, hs0, hs1, hs2, storeCells]
   refine lst_run (hop _ _ hr) hd (h _ [] _ Rw.zero_ hS)
  ·exact grow A0 0 rfl (by omega) (by cases A0 <;> simp [Builtin.firstCells, Sem.run, pure, loadCells, loadCellsFrom])
 | own_ hx2 hc2 hle hcp =>
  rename_i bl cap sp
  have hbl : w.heap[bl]? = some (.cells (xs ++ sp).toArray el) := hS.own (bl, _) (by simp)
  by_cases hroom : len + k ≤ cap
  ·have hcc : (xs ++ sp).length = cap * i.size := hc2
   have hfitc : len * i.size + ys.length ≤ (xs ++ sp).length := by rw [hcc, hys, ← Nat.add_mul]; exact Nat.mul_le_mul_right _ hroom
   have hr := run_append_room_src (P := P) w t tx ty el i (sliceP hT) hi bl 0 len cap (q) k ys hsrc hroom
    (fun j hj => by rw [cell_own hbl, Nat.zero_add]; simp only [Option.isSome_iff_exists]; exact ⟨_, List.getElem?_eq_getElem (by omega)⟩) (fun j hj => by simp [World.frozen?, hbl])
   obtain ⟨hs1, hs2⟩ := setCells_row ys (0 + len * i.size) (xs ++ sp) w hbl (by omega)
   refine lst_run (hop _ _ hr) hd ?_
   have hu : Upd ([(bl, Obj.cells (xs ++ sp).toArray el)] ++ H') bl (.cells (xs ++ sp).toArray el) (.cells ((xs ++ sp).take (0 + len * i.size) ++ ys ++ (xs ++ sp).drop (0 + len * i.size + ys.length)).toArray el)
     ((bl, .cells ((xs ++ sp).take (0 + len * i.size) ++ ys ++ (xs ++ sp).drop (0 + len * i.size + ys.length)).toArray el) :: H') := .head
   have h3 := hS.turn hu hs2 hs1
   have e1 : (xs ++ sp).take (0 + len * i.size) = xs := by rw [Nat.zero_add, ← hx2]; simp
   have e2 : (xs ++ sp).drop (0 + len * i.size + ys.length) = sp.drop ys.length := by
    rw [Nat.zero_add, ← hx2]; simp [List.drop_append]
   rw [e1, e2] at h3
   refine h _ _ _ (Rw.own_ (b := bl) (sp := sp.drop ys.length) ?_ ?_ hroom hcp) h3
   ·rw [List.length_append, hx2, hys, Nat.add_mul]
   ·simp only [List.length_append, List.length_drop] at hcc hfitc ⊢
    omega
  ·refine grow _ cap rfl (by omega) ?_
   have := run_firstCells_some (P := P) w.drew i.size len ⟨bl, 0, none⟩ len cap xs hx2 (fun j u hj => ?_)
   ·exact this
   ·have hjl : j < xs.length := by
     rcases Nat.lt_or_ge j xs.length with hl | hl
     ·exact hl
     ·rw [List.getElem?_eq_none hl] at hj; cases hj
    rw [addrPlus, cell_own (w := w.drew) hbl, Nat.zero_add, List.getElem?_append_left hjl]; exact hj
theorem yielded_undef {j : Nat} (h : yd ops n e j = some undef) : yielded ops (arr n e) j = none := by
 unfold yd at h
 unfold yielded
 cases ho : ops[j]? with
 | none => rfl
 | some o =>
  rw [ho] at h
  simp only [Option.bind_some] at h ⊢
  cases hd : o.dst with
  | none => rfl
  | some t =>
   rw [hd] at h
   simp only [Option.bind_some] at h ⊢
   by_cases ht : t < n
   ·have h' : Nat.blt t n = true := by simpa [Nat.blt_eq] using ht
    rw [h', cond_true] at h
    have hl : (arr n e)[t]? = some (lk e t) := by simp [arr, ht]
    rw [hl, Option.some.inj h]
    rfl
   ·have h' : Nat.blt t n = false := blt_no ht
    rw [h', cond_false] at h; cases h
theorem lst_passU {op : Op} {j : Nat} {g : Bool} (hy : yd ops n e j = some undef) (hd : Nat.blt d n = true)
  (h : Lst P Q ops rest n ((d, undef) :: e) w) : Lst P Q ops (⟨some d, op, ty, pos, after, some (j, g)⟩ :: rest) n e w := by
 unfold Lst at h ⊢
 unfold wpList
 rw [if_neg (by simp [Region.wanted, act, yielded_undef hy]), act_put hd]
 exact h
end
theorem St.freezeR {M : List Nat} {w0 w : World} {H O : List (Nat × Obj)} {F : List (World → Prop)} {el sz len cap : Nat} {A : Option Addr} {xs : List Value} (hr : Rw el sz (.slice A len cap) len xs O) (hS : St M w0 (O ++ H) F w) : St M w0 H (Flat sz xs A len cap :: F) w := by
 cases hr with
 | zero_ => exact hS.learn fun w' _ => Flat.nil_ _ _ _
 | own_ hx hc hle hcp =>
  rename_i b sp
  have hS' : St M w0 ((b, Obj.cells (xs ++ sp).toArray el) :: H) F w := hS
  have ho := hS'.own (b, _) (.head _)
  refine hS'.drop.learn fun w' hw => Flat.own (sp := sp) (el := el) ?_ hx hle
  rw [hw.block b (own_lt ho) fun hm => ?_]
  ·exact ho
  ·obtain ⟨p, hp, e⟩ := List.mem_map.1 hm
   exact (List.pairwise_cons.1 hS'.apart).1 p hp e.symm
end Go.Proofs.YtehhgmeaggempaaDoor
