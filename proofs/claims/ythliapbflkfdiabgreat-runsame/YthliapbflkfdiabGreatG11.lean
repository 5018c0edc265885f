/- SWalk8, SInv2, PSim2, PSim3, PSim4, XRel1, XRel2: texts that follow one another, laid into one file. -/
import Derived.Test.YthliapbflkfdiabGreatZ0
import Derived.Test.YthliapbflkfdiabGreatG10
import Derived.Test.YthliapbflkfdiabGreatG5
import Derived.Test.YthliapbflkfdiabGreatG2
import Derived.Test.YthliapbflkfdiabGreatG4
namespace Go.Proofs.YthliapbflkfdiabGreat
open Go.RowKit
set_option linter.unusedVariables false
set_option linter.unusedSimpArgs false
set_option maxRecDepth 100000
set_option maxHeartbeats 1000000
theorem toList_iff {s : ByteArray} (l : Str) : s.toList = l ↔ s = ⟨l.toArray⟩ := by
 constructor
 ·intro h; exact str_eq.1 (h.trans (toList_mk l).symm)
 ·intro h; rw [h, toList_mk]
theorem two_of {T : TA} (h : T.len = 2) : ∃ x y : LT, T = .cons x.k x.n x.s x.A x.c x.ar (.cons y.k y.n y.s y.A y.c y.ar .nil) := by
 match T, h with
 | .cons k n s A c a (.cons k' n' s' A' c' a' .nil), _ => exact ⟨⟨k, n, s, A, c, a⟩, ⟨k', n', s', A', c', a'⟩, rfl⟩
 | .nil, h => simp [TA.len] at h
 | .cons _ _ _ _ _ _ .nil, h => simp [TA.len] at h
 | .cons _ _ _ _ _ _ (.cons _ _ _ _ _ _ (.cons _ _ _ _ _ _ _)), h => simp [TA.len] at h
theorem three_of {T : TA} (h : T.len = 3) : ∃ x y z : LT, T = .cons x.k x.n x.s x.A x.c x.ar (.cons y.k y.n y.s y.A y.c y.ar (.cons z.k z.n z.s z.A z.c z.ar .nil)) := by
 match T, h with
 | .cons k n s A c a (.cons k' n' s' A' c' a' (.cons k2 n2 s2 A2 c2 a2 .nil)), _ => exact ⟨⟨k, n, s, A, c, a⟩, ⟨k', n', s', A', c', a'⟩, ⟨k2, n2, s2, A2, c2, a2⟩, rfl⟩
 | .nil, h => simp [TA.len] at h
 | .cons _ _ _ _ _ _ .nil, h => simp [TA.len] at h
 | .cons _ _ _ _ _ _ (.cons _ _ _ _ _ _ .nil), h => simp [TA.len] at h
 | .cons _ _ _ _ _ _ (.cons _ _ _ _ _ _ (.cons _ _ _ _ _ _ (.cons _ _ _ _ _ _ _))), h => simp [TA.len] at h
theorem cut_inv {s : SS} (hI : InvC s) (n : Nat) : InvC ⟨s.B, s.fresh, s.fuel, s.goals, s.ch.drop (s.ch.length - n), s.ev⟩ := by
 have hc := cnt_drop s.ch (s.ch.length - n)
 have h1 := hI.fr
 have h2 := hI.bl
 unfold mu at h1 h2
 exact ⟨hI.bok, hI.gb, hI.ch.drop _, by unfold mu; simp only; omega, by unfold mu; simp only; omega⟩
section
variable {M : List Nat} {w0 : World} {H : List (Nat × Obj)} {F0 F : List (World → Prop)} {b : Nat} {P : List LC} {pA : Option Addr} {pc vars : Nat} {d : SD}
theorem builtin_r (s : SS) (g : GN) (next : List GN) (w : World) (hI : InvC s) (hsl : s.B.length + 10100 * (mu s + 1) ≤ 1000000000) (hg : tgd g.t.tm) (hgo : g.o ≤ s.ch.length) (hbt : builtB g.t.s.toList g.t.ar.len = true) (hr : Und F (PR (g :: next))) (hFF : ∀ φ ∈ F0, φ ∈ F) (hok : SOk P pA pc s d F)
  (hS : St M w0 ((b, sob d.mb d.TR (srest P pA pc vars s.fresh s.fuel (ptrOf d.gs) d.CH d.EV)) :: (d.mb, .map d.es d.clk) :: (d.O ++ (d.O2 ++ (d.O3 ++ H)))) F w) :
  Calls Tryz.prog 21 #[pt b, pt g.blk] w fun e w' => e = .returned (.int .i64 (builtM (g.t.tm, g.o) s).1) ∧ SSt M w0 H F0 b P pA pc vars (builtM (g.t.tm, g.o) s).2 w' := by
 have hbm : builtM (g.t.tm, g.o) s = if g.t.s.toList = [33] then (0, ⟨s.B, s.fresh, s.fuel, s.goals, s.ch.drop (s.ch.length - g.o), s.ev⟩)
  else if g.t.s.toList = [116, 114, 117, 101] then (0, s) else if g.t.s.toList = [101, 113] then equalM (g.t.ar.ts.at_ 0) (g.t.ar.ts.at_ 1) s
  else if g.t.s.toList = [108, 101, 115, 115] then lessM g.t.ar.ts s else if g.t.s.toList = [97, 100, 100] then addM g.t.ar.ts s else againM s := rfl
 have hpc : ∀ {H'} w', St M w0 H' F w' → _ := fun w' hS => (hS.und hr).cells
 have hrt : Und F (LRd g.t) := hr.imp fun w h => h.2.1
 have hdown := tgd_down _ hg
 have hs0 : ∀ w', St M w0 ((b, sob d.mb d.TR (srest P pA pc vars s.fresh s.fuel (ptrOf d.gs) d.CH d.EV)) :: (d.mb, .map d.es d.clk) :: (d.O ++ (d.O2 ++ (d.O3 ++ H)))) F w' → SSt M w0 H F0 b P pA pc vars s w' := fun w' h => ⟨d, F, hFF, hok, h⟩
 unfold builtB at hbt
 refine goes_enter2 Tryz.func21 rfl Tryz.ntmps21 rfl ?_
 by_cases h1 : g.t.s.toList = [33]
 ·rw [if_pos h1] at hbm
  rw [hbm]
  have e1 := (toList_iff [33]).1 h1
  have hrow2 := hok.row2
  obtain ⟨A2, c2, hCH⟩ := hrow2.form
  rw [hCH] at hrow2
  have hcap := hrow2.cap
  have hlc : d.cs.length = s.ch.length := by rw [← hok.hc]; simp
  have hcut := hrow2.cut (m := g.o) (by omega)
  rw [hCH] at hS
  refine Zdw ?_
  refine ZaT ?_
  refine Zbp ?_
  refine Zi ?_
  refine goes_draw (St _ _ _ _) 12 ((0, true) :: (1, true) :: (2, true) :: (3, true) :: (4, true) :: (5, true) :: (6, true) :: (7, true) :: (8, true) :: (9, true) :: (10, true) :: (11, true) :: []) (by kernel_rfl) (by kernel_rfl) (hS.drew) ?_
  replace hS := hS.drew
  refine Zb9 ?_
  refine Zbx ?_
  refine ZeH ?_
  refine Zdt ?_
  refine ZeH ?_
  refine ord_read rfl (fun _ hS => run_slice_slice (sz := 3) rfl rfl rfl rfl (by omega) (by omega)) rfl ?_
  refine Zam ?_
  refine Zbx ?_
  refine ZaD ?_
  clear hS
  intro wx1 hS
  refine Za9 ?_
  refine Zc2 ?_
  refine ⟨rfl, ⟨d.G, d.mb, d.es, d.clk, d.TR, d.O, d.gs, d.cs.drop (d.cs.length - g.o), .slice A2 g.o c2, d.O2, d.evs, d.EV, d.O3⟩, F, hFF, ?_, hS⟩
  have e2 : (d.cs.drop (d.cs.length - g.o)).length = g.o := by simp; omega
  refine ⟨hok.bm, hok.hB, hok.hg, hok.rg, ?_, fun c hc => hok.rc c (List.mem_of_mem_drop hc), ?_, hok.he, hok.re, hok.row3, hok.rp⟩
  ·show (d.cs.drop (d.cs.length - g.o)).map LCh.ch = s.ch.drop (s.ch.length - g.o)
   rw [← hok.hc, List.map_drop]; simp
  ·show Row _ _ _ (d.cs.drop (d.cs.length - g.o)).length _ _
   rw [e2]
   have e3 : (chL d.cs.reverse).take (g.o * 3) = chL (d.cs.drop (d.cs.length - g.o)).reverse := by
    have e4 : d.cs.reverse = (d.cs.drop (d.cs.length - g.o)).reverse ++ (d.cs.take (d.cs.length - g.o)).reverse := by rw [← List.reverse_append, List.take_append_drop]
    rw [e4, chL_app, List.take_append_of_le_length (by rw [chL_len]; simp; omega), List.take_of_length_le (by rw [chL_len]; simp; omega)]
   rw [← e3]; exact hcut
 rw [if_neg h1] at hbm hbt
 have e1 : g.t.s ≠ ⟨#[33]⟩ := fun h => h1 ((toList_iff [33]).2 h)
 by_cases h2 : g.t.s.toList = [116, 114, 117, 101]
 ·rw [if_pos h2] at hbm
  rw [hbm]
  have e2 := (toList_iff [116, 114, 117, 101]).1 h2
  refine Zdw ?_
  refine ZaT ?_
  refine Zdc ?_
  refine Zbp ?_
  refine Zj ?_
  refine Zc2 ?_
  exact ⟨rfl, hs0 _ hS⟩
 rw [if_neg h2] at hbm hbt
 have e2 : g.t.s ≠ ⟨#[116, 114, 117, 101]⟩ := fun h => h2 ((toList_iff [116, 114, 117, 101]).2 h)
 by_cases h3 : g.t.s.toList = [101, 113]
 ·rw [if_pos h3] at hbm
  rw [hbm]
  have e3 := (toList_iff [101, 113]).1 h3
  rw [if_neg (by rw [h3]; decide), if_pos h3] at hbt
  obtain ⟨x, y, hT⟩ := two_of (T := g.t.ar) (by simpa using hbt)
  obtain ⟨⟨gk, gn, gs_, gA, gc, gar⟩, go_, gb⟩ := g
  dsimp only at *
  subst hT
  have hra := hrt
  unfold LRd at hra
  dsimp only at hra
  obtain ⟨b6, o6, rfl⟩ := (hS.und hra).some_ (by simp [TA.len])
  have hcA : ∀ {H'} w', St M w0 H' F w' → _ := fun w' hS => ArA.cells (D := .nil) (hS.und hra)
  have hcB : ∀ {H'} w', St M w0 H' F w' → _ := fun w' hS => ArA.cells (D := .cons x.k x.n x.s x.A x.c x.ar .nil) (hS.und hra)
  have hrx : Und F (LRd x) := hra.imp fun w h => ArA.sub (D := .nil) h
  have hry : Und F (LRd y) := hra.imp fun w h => ArA.sub (D := .cons x.k x.n x.s x.A x.c x.ar .nil) h
  have tx : tgd x.tm := hdown x.tm (.inl rfl)
  have ty_ : tgd y.tm := hdown y.tm (.inr (.inl rfl))
  have hlen2 : (TA.cons x.k x.n x.s x.A x.c x.ar (TA.cons y.k y.n y.s y.A y.c y.ar TA.nil)).len = 2 := rfl
  refine Zdw ?_
  refine Zca ?_
  refine Zbp ?_
  refine Zi ?_
  refine Zev ?_
  replace hS := hS.drew
  refine Zae ?_
  refine ZbP ?_
  refine Zck ?_
  refine Zq ?_
  refine ZbP ?_
  refine Zck ?_
  refine ZM ?_
  refine Zs ?_
  refine Calls.mono (equal_any s x y _ hI hsl tx ty_ hrx hry hFF hok hS) ?_
  rintro _ w9 ⟨rfl, hq⟩
  refine ZB ?_
  refine Zc2 ?_
  exact ⟨rfl, hq⟩
 rw [if_neg h3] at hbm
 have e3 : g.t.s ≠ ⟨#[101, 113]⟩ := fun h => h3 ((toList_iff [101, 113]).2 h)
 by_cases h4 : g.t.s.toList = [108, 101, 115, 115]
 ·rw [if_pos h4] at hbm
  rw [hbm]
  have e4 := (toList_iff [108, 101, 115, 115]).1 h4
  rw [if_neg (by rw [h4]; decide), if_neg (by rw [h4]; decide), if_pos h4] at hbt
  obtain ⟨x, y, hT⟩ := two_of (T := g.t.ar) (by simpa using hbt)
  have hlen2 : g.t.ar.len = 2 := by simpa using hbt
  have hra : Und F (ArA g.t.A g.t.c g.t.ar) := hrt
  rw [hT] at hra
  have tx : tgd x.tm := hdown x.tm (by show g.t.ar.ts.Mem _; rw [hT]; exact .inl rfl)
  have ty_ : tgd y.tm := hdown y.tm (by show g.t.ar.ts.Mem _; rw [hT]; exact .inr (.inl rfl))
  have hts : g.t.ar.ts = .cons x.k x.n x.s x.ar.ts (.cons y.k y.n y.s y.ar.ts .nil) := by rw [hT]; rfl
  rw [hts]
  refine Zdw ?_
  refine Zca ?_
  refine Zdc ?_
  refine Zbp ?_
  refine ZD ?_
  rw [hlen2]
  refine Zm ?_
  refine Calls.mono (less_any s g.t.A g.t.c x y .nil _ hI tx ty_ hra (by simp [TA.len]) hFF hok hS) ?_
  rintro _ w9 ⟨rfl, hq⟩
  refine ZB ?_
  refine Zc2 ?_
  exact ⟨rfl, hq⟩
 rw [if_neg h4] at hbm
 have e4 : g.t.s ≠ ⟨#[108, 101, 115, 115]⟩ := fun h => h4 ((toList_iff [108, 101, 115, 115]).2 h)
 by_cases h5 : g.t.s.toList = [97, 100, 100]
 ·rw [if_pos h5] at hbm
  rw [hbm]
  have e5 := (toList_iff [97, 100, 100]).1 h5
  rw [if_neg (by rw [h5]; decide), if_neg (by rw [h5]; decide), if_neg (by rw [h5]; decide), if_pos h5] at hbt
  obtain ⟨x, y, z, hT⟩ := three_of (T := g.t.ar) (by simpa using hbt)
  have hlen2 : g.t.ar.len = 3 := by simpa using hbt
  have hra : Und F (ArA g.t.A g.t.c g.t.ar) := hrt
  rw [hT] at hra
  have tx : tgd x.tm := hdown x.tm (by show g.t.ar.ts.Mem _; rw [hT]; exact .inl rfl)
  have ty_ : tgd y.tm := hdown y.tm (by show g.t.ar.ts.Mem _; rw [hT]; exact .inr (.inl rfl))
  have tz : tgd z.tm := hdown z.tm (by show g.t.ar.ts.Mem _; rw [hT]; exact .inr (.inr (.inl rfl)))
  have hts : g.t.ar.ts = .cons x.k x.n x.s x.ar.ts (.cons y.k y.n y.s y.ar.ts (.cons z.k z.n z.s z.ar.ts .nil)) := by rw [hT]; rfl
  rw [hts]
  refine Zdw ?_
  refine Zca ?_
  refine Zel ?_
  refine Zbp ?_
  refine ZD ?_
  rw [hlen2]
  refine Zm ?_
  refine Calls.mono (add_any s g.t.A g.t.c x y z .nil _ hI hsl tx ty_ tz hra (by simp [TA.len]) hFF hok hS) ?_
  rintro _ w9 ⟨rfl, hq⟩
  refine ZB ?_
  refine Zc2 ?_
  exact ⟨rfl, hq⟩
 rw [if_neg h5] at hbm
 rw [hbm]
 have e5 : g.t.s ≠ ⟨#[97, 100, 100]⟩ := fun h => h5 ((toList_iff [97, 100, 100]).2 h)
 refine Zdw ?_
 refine Zca ?_
 refine Zel ?_
 refine Za1 ?_
 refine Zd ?_
 refine ZcE ?_
 refine Zap ?_
 refine Calls.mono (retry_any s _ hI (hs0 _ hS)) ?_
 rintro _ w9 ⟨rfl, hq⟩
 refine ZB ?_
 refine Zc2 ?_
 exact ⟨rfl, hq⟩
end
end Go.Proofs.YthliapbflkfdiabGreat
namespace Go.Proofs.YthliapbflkfdiabGreat
set_option linter.unusedVariables false
theorem again_ok {s : SS} (h : InvC s) : ((againM s).1 = 0 → Inv (againM s).2 ∧ mu (againM s).2 < mu s) ∧ (againM s).2.ev = s.ev ∧ ((againM s).1 = 0 ∨ (againM s).1 = 2 ∨ (againM s).1 = 4) := by
 obtain ⟨h1, h2, h3, _⟩ := retry_ok (cntC s.ch + 1) s h
 exact ⟨h1, h2, h3⟩
structure StepOk (s : SS) (r : Int × SS) : Prop where
 go : r.1 = 0 → Inv r.2 ∧ mu r.2 < mu s
 kind : 0 ≤ r.1 ∧ r.1 ≤ 6 ∧ r.1 ≠ 1
theorem popped_inv {s : SS} {g : Gl} {rest : List Gl} (hI : Inv s) (hg : s.goals = g :: rest) (hf : s.fuel ≠ 0) : InvC ⟨s.B, s.fresh, s.fuel - 1, rest, s.ch, s.ev⟩ ∧ s.B.length + 10100 * (mu ⟨s.B, s.fresh, s.fuel - 1, rest, s.ch, s.ev⟩ + 1) ≤ 1000000000 ∧ (∀ g ∈ rest, tgd g.1) ∧ olderOk rest g.2 ∧ g.2 ≤ s.ch.length ∧ tgd g.1 ∧ mu ⟨s.B, s.fresh, s.fuel - 1, rest, s.ch, s.ev⟩ + 25 = mu s := by
 have h1 := hI.c.fr
 have h2 := hI.c.bl
 have h3 := hI.gg
 have h4 := hI.og
 rw [hg] at h3 h4
 have hm : mu ⟨s.B, s.fresh, s.fuel - 1, rest, s.ch, s.ev⟩ + 25 = mu s := by unfold mu; simp only; omega
 exact ⟨⟨hI.c.bok, hI.c.gb, hI.c.ch, by simp only; omega, by simp only; omega⟩, by omega, fun x hx => h3 x (.tail _ hx), h4.2, h4.1, h3 g (.head _), hm⟩
theorem again_step {s s0 : SS} (h : InvC s) (hm : mu s ≤ mu s0) : StepOk s0 (againM s) := by
 obtain ⟨h1, h2, h3⟩ := again_ok h
 exact ⟨fun e => ⟨(h1 e).1, Nat.lt_of_lt_of_le (h1 e).2 hm⟩, by rcases h3 with h | h | h <;> rw [h] <;> decide⟩
theorem equal_step {s s0 : SS} {a t : Tm} (hI : InvC s) (hsl : s.B.length + 10100 * (mu s + 1) ≤ 1000000000) (ha : tgd a) (ht : tgd t) (hgg : ∀ g ∈ s.goals, tgd g.1) (hog : olderOk s.goals s.ch.length) (hm : mu s < mu s0) : StepOk s0 (equalM a t s) := by
 have hi := equal_inv hI hsl ha ht
 unfold equalM
 simp only
 split
 ·exact ⟨fun h => (by cases h), by refine ⟨?_, ?_, ?_⟩ <;> simp only <;> decide⟩
 split
 ·exact ⟨fun _ => ⟨⟨hi, hgg, hog⟩, hm⟩, by refine ⟨?_, ?_, ?_⟩ <;> simp only <;> decide⟩
 ·exact again_step hi (Nat.le_of_lt hm)
theorem Ts.at_mem : ∀ {T : Ts} {i : Nat}, i < T.length → T.Mem (T.at_ i)
 | .nil, _, h => by simp [Ts.length] at h
 | .cons k n s a r, 0, _ => .inl rfl
 | .cons k n s a r, i + 1, h => .inr (Ts.at_mem (T := r) (i := i) (by simp only [Ts.length] at h; omega))
theorem built_step {s s0 : SS} {g : Gl} (hI : InvC s) (hsl : s.B.length + 10100 * (mu s + 1) ≤ 1000000000) (hg : tgd g.1) (hgo : g.2 ≤ s.ch.length) (hgg : ∀ g ∈ s.goals, tgd g.1) (hog : olderOk s.goals g.2) (hb : builtB g.1.s.toList g.1.ar.length = true) (hm : mu s < mu s0) : StepOk s0 (builtM g s) := by
 have hog2 := hog.mono hgo
 have hd := tgd_down _ hg
 unfold builtM
 unfold builtB at hb
 split
 ·refine ⟨fun _ => ⟨⟨cut_inv hI g.2, hgg, ?_⟩, ?_⟩, by refine ⟨?_, ?_, ?_⟩ <;> simp only <;> decide⟩
  ·show olderOk s.goals (s.ch.drop (s.ch.length - g.2)).length
   exact hog.mono (by simp; omega)
  ·have := cnt_drop s.ch (s.ch.length - g.2)
   unfold mu at *; simp only; omega
 rename_i h1
 rw [if_neg h1] at hb
 split
 ·exact ⟨fun _ => ⟨⟨hI, hgg, hog2⟩, hm⟩, by refine ⟨?_, ?_, ?_⟩ <;> simp only <;> decide⟩
 rename_i h2
 rw [if_neg h2] at hb
 split
 ·rename_i h3
  rw [if_neg (by rw [h3]; decide), if_pos h3] at hb
  have hl : g.1.ar.length = 2 := by simpa using hb
  exact equal_step hI hsl (hd _ (Ts.at_mem (by omega))) (hd _ (Ts.at_mem (by omega))) hgg hog2 hm
 rename_i h3
 split
 ·unfold lessM
  simp only
  split
  ·exact ⟨fun h => (by cases h), by refine ⟨?_, ?_, ?_⟩ <;> simp only <;> decide⟩
  split
  ·exact again_step hI (Nat.le_of_lt hm)
  ·exact ⟨fun _ => ⟨⟨hI, hgg, hog2⟩, hm⟩, by refine ⟨?_, ?_, ?_⟩ <;> simp only <;> decide⟩
 rename_i h4
 split
 ·rename_i h5
  rw [if_neg (by rw [h5]; decide), if_neg (by rw [h5]; decide), if_neg (by rw [h5]; decide), if_pos h5] at hb
  have hl : g.1.ar.length = 3 := by simpa using hb
  unfold addM
  simp only
  split
  ·exact ⟨fun h => (by cases h), by refine ⟨?_, ?_, ?_⟩ <;> simp only <;> decide⟩
  split
  ·exact ⟨fun h => (by cases h), by refine ⟨?_, ?_, ?_⟩ <;> simp only <;> decide⟩
  ·rename_i hk hr
   refine equal_step hI hsl (hd _ (Ts.at_mem (by omega))) ?_ hgg hog2 hm
   refine ⟨?_, by simp [Ts.nodes]⟩
   simp only [Ts.good, Bool.and_eq_true, and_true]
   unfold nodeB
   rw [if_neg (by decide), if_neg (by decide), if_pos rfl]
   simp only [Bool.and_eq_true, decide_eq_true_eq]
   exact ⟨⟨⟨by omega, by omega⟩, toList_mk []⟩, rfl⟩
 ·exact again_step hI (Nat.le_of_lt hm)
theorem push_inv {s : SS} {g : Gl} {rest : List Gl} {c : Cl} {cs : List Cl} (hI : Inv s) (hg : s.goals = g :: rest) (hf : s.fuel ≠ 0) (hc : ∀ x ∈ c :: cs, cB x = true) (hl : (c :: cs).length ≤ 24) :
  InvC ⟨s.B, s.fresh, s.fuel - 1, rest, ⟨g, rest, c :: cs, s.B.length⟩ :: s.ch, s.ev⟩ ∧ mu ⟨s.B, s.fresh, s.fuel - 1, rest, ⟨g, rest, c :: cs, s.B.length⟩ :: s.ch, s.ev⟩ < mu s := by
 obtain ⟨h1, h2, h3, h4, h5, h6, h7⟩ := popped_inv hI hg hf
 have hm : mu ⟨s.B, s.fresh, s.fuel - 1, rest, ⟨g, rest, c :: cs, s.B.length⟩ :: s.ch, s.ev⟩ < mu s := by
  unfold mu at *; simp only [cntC] at *; omega
 have a1 := hI.c.fr
 have a2 := hI.c.bl
 refine ⟨⟨hI.c.bok, hI.c.gb, ?_, by simp only; omega, by simp only; omega⟩, hm⟩
 exact ⟨Nat.le_refl _, ⟨h5, h4⟩, fun x hx => by
  rcases List.mem_cons.1 hx with rfl | hx
  ·exact h6
  ·exact h3 x hx, by simp, hc, hI.c.ch⟩
theorem step_ok {p : List Cl} {vars : Nat} {s : SS} (hI : Inv s) (hev : s.ev.length < 12) (hp : pB p = true) : StepOk s (stepM p vars s) ∧ ((stepM p vars s).1 = 0 → (stepM p vars s).2.ev.length < 12) := by
 have hp2 : p.length ≤ 24 ∧ ∀ x ∈ p, cB x = true := by
  unfold pB at hp
  simp only [Bool.and_eq_true, decide_eq_true_eq, List.all_eq_true] at hp
  exact hp
 have hag : ∀ s' : SS, InvC s' → s'.ev.length < 12 → ((againM s').1 = 0 → (againM s').2.ev.length < 12) := fun s' h1 h2 _ => by rw [(again_ok h1).2.1]; exact h2
 have heq : ∀ (s' : SS) (a t : Tm), InvC s' → s'.B.length + 10100 * (mu s' + 1) ≤ 1000000000 → tgd a → tgd t → s'.ev.length < 12 → ((equalM a t s').1 = 0 → (equalM a t s').2.ev.length < 12) := fun s' a t h1 h2 h3 h4 h5 => by
  have hi := equal_inv h1 h2 h3 h4
  unfold equalM
  simp only
  split
  ·intro h; cases h
  split
  ·intro _; exact h5
  ·exact hag _ hi h5
 unfold stepM
 cases hg : s.goals with
 | nil =>
  simp only
  unfold answerM
  cases hv : varsM s.B vars 0 200 with
  | none => exact ⟨⟨fun h => (by cases h), by refine ⟨?_, ?_, ?_⟩ <;> simp only <;> decide⟩, fun h => by cases h⟩
  | some x =>
   simp only
   have hi : InvC ⟨s.B, s.fresh, s.fuel, s.goals, s.ch, s.ev ++ [x.1.tidy]⟩ := ⟨hI.c.bok, hI.c.gb, hI.c.ch, hI.c.fr, hI.c.bl⟩
   split
   ·exact ⟨⟨fun h => (by cases h), by refine ⟨?_, ?_, ?_⟩ <;> simp only <;> decide⟩, fun h => by cases h⟩
   ·rename_i h12
    refine ⟨again_step hi (Nat.le_refl _), hag _ hi ?_⟩
    simp at h12 ⊢; omega
 | cons g rest =>
  simp only
  split
  ·exact ⟨⟨fun h => (by cases h), by refine ⟨?_, ?_, ?_⟩ <;> simp only <;> decide⟩, fun h => by cases h⟩
  rename_i hf
  obtain ⟨h1, h2, h3, h4, h5, h6, h7⟩ := popped_inv hI hg hf
  split
  ·rename_i hb
   refine ⟨built_step h1 h2 h6 h5 h3 h4 hb (by omega), ?_⟩
   have hd := tgd_down _ h6
   unfold builtB at hb
   unfold builtM
   split
   ·intro _; exact hev
   rename_i k1
   rw [if_neg k1] at hb
   split
   ·intro _; exact hev
   rename_i k2
   rw [if_neg k2] at hb
   split
   ·rename_i k3
    rw [if_neg (by rw [k3]; decide), if_pos k3] at hb
    have hl : g.1.ar.length = 2 := by simpa using hb
    exact heq _ _ _ h1 h2 (hd _ (Ts.at_mem (by omega))) (hd _ (Ts.at_mem (by omega))) hev
   split
   ·unfold lessM
    simp only
    split
    ·intro h; cases h
    split
    ·exact hag _ h1 hev
    ·intro _; exact hev
   split
   ·rename_i k5
    rw [if_neg (by rw [k5]; decide), if_neg (by rw [k5]; decide), if_neg (by rw [k5]; decide), if_pos k5] at hb
    have hl : g.1.ar.length = 3 := by simpa using hb
    unfold addM
    simp only
    split
    ·intro h; cases h
    split
    ·intro h; cases h
    ·refine heq _ _ _ h1 h2 (hd _ (Ts.at_mem (by omega))) ?_ hev
     refine ⟨?_, by simp [Ts.nodes]⟩
     simp only [Ts.good, Bool.and_eq_true, and_true]
     unfold nodeB
     rw [if_neg (by decide), if_neg (by decide), if_pos rfl]
     simp only [Bool.and_eq_true, decide_eq_true_eq]
     exact ⟨⟨⟨by omega, by omega⟩, toList_mk []⟩, rfl⟩
   ·exact hag _ h1 hev
  ·cases hm : p.filter (fitsC g.1) with
   | nil => exact ⟨⟨fun h => (by cases h), by refine ⟨?_, ?_, ?_⟩ <;> simp only <;> decide⟩, fun h => by cases h⟩
   | cons c cs =>
    simp only
    have hsub : ∀ x ∈ c :: cs, cB x = true := fun x hx => hp2.2 x (by rw [← hm] at hx; exact (List.mem_filter.1 hx).1)
    have hlen : (c :: cs).length ≤ 24 := by rw [← hm]; exact Nat.le_trans (List.length_filter_le _ _) hp2.1
    obtain ⟨i1, i2⟩ := push_inv hI hg hf hsub hlen
    exact ⟨again_step i1 (Nat.le_of_lt i2), hag _ i1 hev⟩
theorem equal_ev {s : SS} {a t : Tm} (hI : InvC s) (hsl : s.B.length + 10100 * (mu s + 1) ≤ 1000000000) (ha : tgd a) (ht : tgd t) : (equalM a t s).2.ev = s.ev := by
 have hi := equal_inv hI hsl ha ht
 unfold equalM
 simp only
 split
 ·rfl
 split
 ·rfl
 ·exact (again_ok hi).2.1
theorem built_ev {s : SS} {g : Gl} (hI : InvC s) (hsl : s.B.length + 10100 * (mu s + 1) ≤ 1000000000) (hg : tgd g.1) (hb : builtB g.1.s.toList g.1.ar.length = true) : (builtM g s).2.ev = s.ev := by
 have hd := tgd_down _ hg
 unfold builtB at hb
 unfold builtM
 split
 ·rfl
 rename_i k1
 rw [if_neg k1] at hb
 split
 ·rfl
 rename_i k2
 rw [if_neg k2] at hb
 split
 ·rename_i k3
  rw [if_neg (by rw [k3]; decide), if_pos k3] at hb
  have hl : g.1.ar.length = 2 := by simpa using hb
  exact equal_ev hI hsl (hd _ (Ts.at_mem (by omega))) (hd _ (Ts.at_mem (by omega)))
 split
 ·unfold lessM
  simp only
  split
  ·rfl
  split
  ·exact (again_ok hI).2.1
  ·rfl
 split
 ·rename_i k5
  rw [if_neg (by rw [k5]; decide), if_neg (by rw [k5]; decide), if_neg (by rw [k5]; decide), if_pos k5] at hb
  have hl : g.1.ar.length = 3 := by simpa using hb
  unfold addM
  simp only
  split
  ·rfl
  split
  ·rfl
  ·refine equal_ev hI hsl (hd _ (Ts.at_mem (by omega))) ?_
   refine ⟨?_, by simp [Ts.nodes]⟩
   simp only [Ts.good, Bool.and_eq_true, and_true]
   unfold nodeB
   rw [if_neg (by decide), if_neg (by decide), if_pos rfl]
   simp only [Bool.and_eq_true, decide_eq_true_eq]
   exact ⟨⟨⟨by omega, by omega⟩, toList_mk []⟩, rfl⟩
 ·exact (again_ok hI).2.1
theorem step_ans (p : List Cl) (vars : Nat) (s : SS) (hI : Inv s) (hp : pB p = true) : (stepM p vars s).2.ev = s.ev ∨ ∃ T l, varsM s.B vars 0 200 = some (T, l) ∧ (stepM p vars s).2.ev = s.ev ++ [T.tidy] ∧ ((stepM p vars s).1 = 6 ↔ s.ev.length + 1 = 12) := by
 have hp2 : p.length ≤ 24 ∧ ∀ x ∈ p, cB x = true := by
  unfold pB at hp
  simp only [Bool.and_eq_true, decide_eq_true_eq, List.all_eq_true] at hp
  exact hp
 unfold stepM
 cases hg : s.goals with
 | nil =>
  simp only
  unfold answerM
  cases hv : varsM s.B vars 0 200 with
  | none => exact .inl rfl
  | some x =>
   right
   refine ⟨x.1, x.2, rfl, ?_⟩
   simp only
   have hi : InvC ⟨s.B, s.fresh, s.fuel, s.goals, s.ch, s.ev ++ [x.1.tidy]⟩ := ⟨hI.c.bok, hI.c.gb, hI.c.ch, hI.c.fr, hI.c.bl⟩
   obtain ⟨a1, a2, a3⟩ := again_ok hi
   split
   ·rename_i h12
    refine ⟨rfl, fun _ => by simpa using h12, fun _ => rfl⟩
   ·rename_i h12
    refine ⟨a2, fun h => ?_, fun h => absurd (by simpa using h) h12⟩
    rcases a3 with e | e | e <;> rw [e] at h <;> cases h
 | cons g rest =>
  simp only
  split
  ·exact .inl rfl
  rename_i hf
  obtain ⟨h1, h2, h3, h4, h5, h6, h7⟩ := popped_inv hI hg hf
  split
  ·rename_i hb
   exact .inl (built_ev h1 h2 h6 hb)
  ·cases hm : p.filter (fitsC g.1) with
   | nil => exact .inl rfl
   | cons c cs =>
    simp only
    have hsub : ∀ x ∈ c :: cs, cB x = true := fun x hx => hp2.2 x (by rw [← hm] at hx; exact (List.mem_filter.1 hx).1)
    have hlen : (c :: cs).length ≤ 24 := by rw [← hm]; exact Nat.le_trans (List.length_filter_le _ _) hp2.1
    obtain ⟨i1, i2⟩ := push_inv hI hg hf hsub hlen
    exact .inl (again_ok i1).2.1
theorem step_ev (p : List Cl) (vars : Nat) (s : SS) (hI : Inv s) (hev : s.ev.length < 12) (hp : pB p = true) : (stepM p vars s).2.ev.length ≤ 12 := by
 rcases step_ans p vars s hI hp with h | ⟨T, l, _, h, _⟩
 ·rw [h]; omega
 ·rw [h]; simp; omega
theorem start_inv {q : Ts} {vars fuel : Nat} (hq : qB vars q = true) (hf : fuel ≤ 150) : Inv (startM q vars fuel) ∧ mu (startM q vars fuel) ≤ 3750 := by
 simp only [qB, Bool.and_eq_true, decide_eq_true_eq] at hq
 have hv : (vars : Int) ≤ 8 := hq.1.1.2
 refine ⟨⟨⟨trivial, fun x hx => (by cases hx), trivial, by unfold mu startM; simp only [cntC]; omega, by unfold mu startM; simp only [cntC, List.length_nil]; omega⟩, ?_, ?_⟩, by unfold mu startM; simp only [cntC]; omega⟩
 ·exact body_gd hv (by omega) (by omega) (fun g hg => (by cases hg)) q hq.2
 ·exact body_older (rest := []) trivial q
end Go.Proofs.YthliapbflkfdiabGreat
namespace Go.Proofs.YthliapbflkfdiabGreat
open Go.RowKit
set_option linter.unusedVariables false
set_option linter.unusedSimpArgs false
section
variable {P : List Cl} {q : Nat}
end
end Go.Proofs.YthliapbflkfdiabGreat
namespace Go.Proofs.YthliapbflkfdiabGreat
open Go.RowKit
set_option linter.unusedVariables false
set_option linter.unusedSimpArgs false
section
variable {P : List Cl} {q : Nat}
end
end Go.Proofs.YthliapbflkfdiabGreat
namespace Go.Proofs.YthliapbflkfdiabGreat
open Go.RowKit
set_option linter.unusedVariables false
set_option linter.unusedSimpArgs false
theorem map_tms {g : Tm → Nat → Option (Tm × Nat)} : ∀ (T : Ts) (l : Nat), mapL g T l = mapG g T.tms l
 | .nil, l => rfl
 | .cons k n s a r, l => by
  simp only [mapL, Ts.tms, mapG]
  cases g ⟨k, n, s, a⟩ l with
  | none => rfl
  | some p =>
   obtain ⟨t, l'⟩ := p
   dsimp only
   rw [map_tms r]
   all_goals (cases mapG g r.tms l' <;> rfl)
theorem mapG_congr {g g' : Tm → Nat → Option (Tm × Nat)} : ∀ (l : List Tm), (∀ x ∈ l, ∀ m, g x m = g' x m) → ∀ m, mapG g l m = mapG g' l m
 | [], _, m => rfl
 | x :: r, h, m => by
  simp only [mapG]
  rw [h x (List.mem_cons_self ..) m]
  cases g' x m with
  | none => rfl
  | some p =>
   obtain ⟨t, l'⟩ := p
   dsimp only
   rw [mapG_congr r (fun y hy => h y (List.mem_cons_of_mem _ hy))]
theorem tms_Mem {x : Tm} : ∀ {T : Ts}, x ∈ T.tms → T.Mem x
 | .nil, h => by cases h
 | .cons k n s a r, h => by
  rcases List.mem_cons.1 h with rfl | h
  ·exact .inl rfl
  ·exact .inr (tms_Mem h)
theorem tgd_var {t : Tm} (h : tgd t) (hk : t.k = 0) : t.s = ⟨#[]⟩ ∧ t.ar = .nil := by
 have := h.1
 simp only [Ts.good, Bool.and_eq_true] at this
 have hn := this.1.1
 unfold nodeB at hn
 rw [if_pos hk] at hn
 simp only [Bool.and_eq_true, decide_eq_true_eq] at hn
 exact ⟨str_eq.1 (hn.1.2.trans (toList_mk []).symm), Ts.nil_of_length hn.2⟩
theorem app_eq {B : Bnd} (hB : ∀ x ∈ B, tgd x.2) : ∀ (f : Nat) (t : Tm) (l : Nat), tgd t → appM B f t l = appG sysS B f t l
 | 0, t, l, _ => rfl
 | f + 1, t, l, ht => by
  have hl := look_Q hB ht
  simp only [appM, appG]
  split
  ·rfl
  ·rw [show sysS.view B t = tvw (lookM B t) from rfl]
   unfold tvw
   by_cases hk : (lookM B t).k = 0
   ·rw [if_pos hk]
    obtain ⟨h1, h2⟩ := tgd_var hl hk
    rw [h2, h1, hk]; rfl
   ·rw [if_neg hk, map_tms]
    have := mapG_congr (g := appM B f) (g' := appG sysS B f) (lookM B t).ar.tms (fun x hx m => app_eq hB f x m (tgd_down _ hl x (tms_Mem hx))) (l - 1)
    rw [this]; rfl
theorem tgd_q {v : Nat} (hv : v < 1000) : tgd ⟨0, (v : Nat), ⟨#[]⟩, .nil⟩ := by
 refine ⟨?_, by simp [Ts.nodes]⟩
 simp only [Ts.good, Bool.and_eq_true, and_true]
 unfold nodeB
 rw [if_pos rfl]
 simp only [Bool.and_eq_true, decide_eq_true_eq]
 exact ⟨⟨⟨by omega, by omega⟩, toList_mk []⟩, rfl⟩
section
variable {P : List Cl} {q : Nat}
end
end Go.Proofs.YthliapbflkfdiabGreat
namespace Go.Proofs.YthliapbflkfdiabGreat
open Go.RowKit
set_option linter.unusedVariables false
set_option linter.unusedSimpArgs false
theorem hat_app {L X : List HC} {a : Int} {c : HC} (h : hat L a = some c) : hat (L ++ X) a = some c := by
 obtain ⟨h0, h1, h2⟩ := hatS.1 h
 exact hatS.2 ⟨h0, by simp; omega, by rw [List.getElem?_append_left (by omega)]; exact h2⟩
theorem endsN_app {L X : List HC} {n : Nat} {a x : Int} (h : EndsN L n a x) : EndsN (L ++ X) n a x := by
 induction h with
 | here h0 h1 => exact .here (hat_app h0) h1
 | there h0 h1 h2 _ ih => exact .there (hat_app h0) h1 h2 ih
theorem end_app {L X : List HC} {a x : Int} (h : End L a x) : End (L ++ X) a x := by
 obtain ⟨n, h⟩ := h; exact ⟨n, endsN_app h⟩
theorem addr_app {L X : List HC} {a : Int} (h : isAddr L a = true) : isAddr (L ++ X) a = true := by
 obtain ⟨c, hc⟩ := addr_hat.1 h; exact addr_hat.2 ⟨c, hat_app hc⟩
theorem hview_app {h : HH} (ho : HOk h) {a : Int} (ha : isAddr h.cs a = true) (X : List HC) (T : List Int) : hview ⟨h.cs ++ X, T⟩ a = hview h a := by
 obtain ⟨x, c, h1, h2, h3, h4⟩ := ho.view ha
 rw [h4, hview_end (h := ⟨h.cs ++ X, T⟩) (end_app h1) (hat_app h2)]
def LayL (L : List HC) (base : Nat) (V : Int) : Ts → Int → Prop
 | .nil, _ => True
 | .cons k n s ar r, a => (∃ x c, End L a x ∧ hat L x = some c ∧ ((k = 0 ∧ 0 ≤ n ∧ n < V ∧ s = eS ∧ ar = .nil ∧ c.k = 0 ∧ x = n + base) ∨ (k ≠ 0 ∧ c.k = k ∧ ctl c = n ∧ c.s = s ∧ (argsC c).toNat = ar.length ∧ LayL L base V ar (x + 1)))) ∧ LayL L base V r (a + 1)
theorem end_self {L : List HC} {a : Int} {c : HC} (h : hat L a = some c) (hc : ¬ (c.k = 0 ∧ c.n ≠ a)) : End L a a := ⟨0, .here h hc⟩
theorem end_one {L : List HC} {a : Int} {c d : HC} (h : hat L a = some c) (hk : c.k = 0) (hn : c.n ≠ a) (h2 : hat L c.n = some d) (hd : ¬ (d.k = 0 ∧ d.n ≠ c.n)) : End L a c.n := ⟨1, .there h hk hn (.here h2 hd)⟩
theorem lay_rel {L : List HC} {base : Nat} {vars : Int} (hv : ∀ v : Int, 0 ≤ v → v < vars → hat L (v + base) = some ⟨0, v + base, eS⟩) (T : Ts) : ∀ (a p : Nat), T.good vars = true → vars ≤ a → vars ≤ p → a + T.length ≤ p → Sits L base a (layA T p).1 → Sits L base p (layA T p).2 →
  LayL L base vars T ((base + a : Nat) : Int) ∧ (∀ i, i < (layA T p).1.length → ∃ x, End L ((base + (a + i) : Nat) : Int) x) ∧ (∀ i, i < (layA T p).2.length → ∃ x, End L ((base + (p + i) : Nat) : Int) x) := by
 induction T with
 | nil => intro a p _ _ _ _ _ _; exact ⟨trivial, fun i hi => absurd hi (by simp [layA]), fun i hi => absurd hi (by simp [layA])⟩
 | cons k n s ar r iha ihr =>
  intro a p hg hav hpv hap hs1 hs2
  obtain ⟨hn, ha, hr⟩ := good_cons hg
  simp only [Ts.length] at hap
  have step : ∀ (X : List HC) (c : HC) (x : Int), End L ((base + a : Nat) : Int) x → (∀ i, i < X.length → ∃ x, End L ((base + (a + 1 + i) : Nat) : Int) x) → ∀ i, i < (c :: X).length → ∃ x, End L ((base + (a + i) : Nat) : Int) x := by
   intro X c x h0 h1 i hi
   cases i with
   | zero => exact ⟨x, h0⟩
   | succ i =>
    obtain ⟨y, hy⟩ := h1 i (by simpa using hi)
    rw [show a + (i + 1) = a + 1 + i by omega]; exact ⟨y, hy⟩
  rcases node_iff hn with ⟨rfl, h0, h1, h2, h3⟩ | ⟨rfl, h0, h1, h2⟩ | ⟨rfl, h0, h1⟩ | ⟨rfl, h0, h1, h2, h3⟩
  ·rw [layA_one _ _ _ _ _ (by decide)] at hs1 hs2 ⊢
   obtain ⟨q1, q2⟩ := hs1.head
   obtain rfl := nil_of_len h3
   subst h2
   have e1 : hat L ((base + a : Nat) : Int) = some ⟨0, n + base, eS⟩ := q1
   have e2 : End L ((base + a : Nat) : Int) (n + base) := end_one (c := ⟨0, n + base, eS⟩) e1 rfl (by show n + (base : Int) ≠ _; omega) (hv n h0 h1) (by simp)
   obtain ⟨i1, i2, i3⟩ := ihr (a + 1) p hr (by omega) hpv (by omega) q2 hs2
   rw [show ((base + (a + 1) : Nat) : Int) = ((base + a : Nat) : Int) + 1 by omega] at i1
   exact ⟨⟨⟨n + base, _, e2, hv n h0 h1, .inl ⟨rfl, h0, h1, rfl, rfl, rfl, rfl⟩⟩, i1⟩, step _ _ _ e2 i2, i3⟩
  ·rw [layA_one _ _ _ _ _ (by decide)] at hs1 hs2 ⊢
   obtain ⟨q1, q2⟩ := hs1.head
   obtain rfl := nil_of_len h2
   subst h0
   have e1 : hat L ((base + a : Nat) : Int) = some ⟨1, 0, s⟩ := q1
   have e2 := end_self e1 (by simp)
   obtain ⟨i1, i2, i3⟩ := ihr (a + 1) p hr (by omega) hpv (by omega) q2 hs2
   rw [show ((base + (a + 1) : Nat) : Int) = ((base + a : Nat) : Int) + 1 by omega] at i1
   exact ⟨⟨⟨_, _, e2, e1, .inr ⟨by decide, rfl, rfl, rfl, rfl, trivial⟩⟩, i1⟩, step _ _ _ e2 i2, i3⟩
  ·rw [layA_one _ _ _ _ _ (by decide)] at hs1 hs2 ⊢
   obtain ⟨q1, q2⟩ := hs1.head
   obtain rfl := nil_of_len h1
   subst h0
   have e1 : hat L ((base + a : Nat) : Int) = some ⟨2, n, eS⟩ := q1
   have e2 := end_self e1 (by simp)
   obtain ⟨i1, i2, i3⟩ := ihr (a + 1) p hr (by omega) hpv (by omega) q2 hs2
   rw [show ((base + (a + 1) : Nat) : Int) = ((base + a : Nat) : Int) + 1 by omega] at i1
   exact ⟨⟨⟨_, _, e2, e1, .inr ⟨by decide, rfl, rfl, rfl, rfl, trivial⟩⟩, i1⟩, step _ _ _ e2 i2, i3⟩
  ·rw [layA_comp] at hs1 hs2 ⊢
   obtain ⟨q1, q2⟩ := hs1.head
   obtain ⟨q3, q4⟩ := Sits.app (X := layS s ar p) hs2
   obtain ⟨q5, q6⟩ := Sits.head (c := ⟨3, (ar.length : Nat), s⟩) q3
   obtain ⟨q7, q8⟩ := q6.app
   rw [layA_len] at q8
   subst h0
   have e1 : hat L ((base + a : Nat) : Int) = some ⟨0, ((p : Nat) : Int) + base, eS⟩ := q1
   have e5 : hat L (((p : Nat) : Int) + base) = some ⟨3, (ar.length : Nat), s⟩ := by
    rw [show ((p : Nat) : Int) + base = ((base + p : Nat) : Int) by omega]; exact q5
   have e2 : End L ((base + a : Nat) : Int) (((p : Nat) : Int) + base) := end_one (c := ⟨0, ((p : Nat) : Int) + base, eS⟩) e1 rfl (by show ((p : Nat) : Int) + (base : Int) ≠ _; omega) e5 (by simp)
   obtain ⟨a1, a2, a3⟩ := iha (p + 1) (p + 1 + ar.length) ha (by omega) (by omega) (by omega) q7 q8
   obtain ⟨i1, i2, i3⟩ := ihr (a + 1) (p + (layS s ar p).length) hr (by omega) (by omega) (by omega) q2 q4
   rw [show ((base + (a + 1) : Nat) : Int) = ((base + a : Nat) : Int) + 1 by omega] at i1
   rw [show ((base + (p + 1) : Nat) : Int) = ((p : Nat) : Int) + base + 1 by omega] at a1
   refine ⟨⟨⟨_, _, e2, e5, .inr ⟨by decide, rfl, rfl, rfl, by simp [argsC], a1⟩⟩, i1⟩, step _ _ _ e2 i2, fun i hi => ?_⟩
   rw [layA_len] at a2
   have hls := layS_len s ar p
   rw [List.length_append] at hi
   by_cases c0 : i = 0
   ·subst c0
    have q5' : hat L ((base + p : Nat) : Int) = some ⟨3, (ar.length : Nat), s⟩ := q5
    exact ⟨_, end_self q5' (by simp)⟩
   by_cases c1 : i - 1 < ar.length
   ·obtain ⟨x, hx⟩ := a2 (i - 1) c1
    rw [show p + i = p + 1 + (i - 1) by omega]; exact ⟨x, hx⟩
   by_cases c2 : i < (layS s ar p).length
   ·obtain ⟨x, hx⟩ := a3 (i - 1 - ar.length) (by omega)
    rw [show p + i = p + 1 + ar.length + (i - 1 - ar.length) by omega]; exact ⟨x, hx⟩
   ·obtain ⟨x, hx⟩ := i3 (i - (layS s ar p).length) (by omega)
    rw [show p + i = p + (layS s ar p).length + (i - (layS s ar p).length) by omega]; exact ⟨x, hx⟩
theorem lay1_rel {L : List HC} {base : Nat} {vars : Int} (hv : ∀ v : Int, 0 ≤ v → v < vars → hat L (v + base) = some ⟨0, v + base, eS⟩) {k n : Int} {s : ByteArray} {ar : Ts} {p : Nat} (h : gB vars k n s ar = true) (hpv : vars ≤ p) (hs : Sits L base p (lay1 k n s ar p)) :
  LayL L base vars (.cons k n s ar .nil) ((base + p : Nat) : Int) ∧ (∀ i, i < (lay1 k n s ar p).length → ∃ x, End L ((base + (p + i) : Nat) : Int) x) ∧ ∃ c, hat L ((base + p : Nat) : Int) = some c ∧ (c.k = 1 ∨ c.k = 3) := by
 simp only [gB, goalB, Bool.and_eq_true, Bool.or_eq_true, decide_eq_true_eq] at h
 obtain ⟨hn, ha, _⟩ := good_cons h.1.2
 rcases node_iff hn with ⟨rfl, _⟩ | ⟨rfl, h0, h1, h2⟩ | ⟨rfl, _⟩ | ⟨rfl, h0, h1, h2, h3⟩
 ·rcases h.1.1 with h | h <;> omega
 ·obtain rfl := nil_of_len h2
  subst h0
  unfold lay1 at hs ⊢
  rw [if_neg (by decide)] at hs ⊢
  have e1 : hat L ((base + p : Nat) : Int) = some ⟨1, 0, s⟩ := hs.head.1
  have e2 := end_self e1 (by simp)
  refine ⟨⟨⟨_, _, e2, e1, .inr ⟨by decide, rfl, rfl, rfl, rfl, trivial⟩⟩, trivial⟩, fun i hi => ?_, _, e1, .inl rfl⟩
  obtain rfl : i = 0 := by simpa using hi
  exact ⟨_, e2⟩
 ·rcases h.1.1 with h | h <;> omega
 ·subst h0
  unfold lay1 at hs ⊢
  rw [if_pos rfl] at hs ⊢
  obtain ⟨q5, q6⟩ := Sits.head (c := ⟨3, (ar.length : Nat), s⟩) hs
  obtain ⟨q7, q8⟩ := q6.app
  rw [layA_len] at q8
  have e1 : hat L ((base + p : Nat) : Int) = some ⟨3, (ar.length : Nat), s⟩ := q5
  have e2 := end_self e1 (by simp)
  obtain ⟨a1, a2, a3⟩ := lay_rel hv ar (p + 1) (p + 1 + ar.length) ha (by omega) (by omega) (by omega) q7 q8
  rw [show ((base + (p + 1) : Nat) : Int) = ((base + p : Nat) : Int) + 1 by omega] at a1
  refine ⟨⟨⟨_, _, e2, e1, .inr ⟨by decide, rfl, rfl, rfl, by simp [argsC], a1⟩⟩, trivial⟩, fun i hi => ?_, _, e1, .inr rfl⟩
  rw [layA_len] at a2
  have hls := layS_len s ar p
  by_cases c0 : i = 0
  ·subst c0; exact ⟨_, e2⟩
  by_cases c1 : i - 1 < ar.length
  ·obtain ⟨x, hx⟩ := a2 (i - 1) c1
   rw [show p + i = p + 1 + (i - 1) by omega]; exact ⟨x, hx⟩
  ·obtain ⟨x, hx⟩ := a3 (i - 1 - ar.length) (by omega)
   rw [show p + i = p + 1 + ar.length + (i - 1 - ar.length) by omega]; exact ⟨x, hx⟩
def LayP (L : List HC) (base : Nat) (V : Int) : Ts → List Int → Prop
 | .nil, l => l = []
 | .cons k n s ar r, l => ∃ x q, l = x :: q ∧ LayL L base V (.cons k n s ar .nil) (base + x) ∧ (∃ c, hat L (base + x) = some c ∧ (c.k = 1 ∨ c.k = 3)) ∧ LayP L base V r q
theorem layL_rel {L : List HC} {base : Nat} {vars : Int} (hv : ∀ v : Int, 0 ≤ v → v < vars → hat L (v + base) = some ⟨0, v + base, eS⟩) (T : Ts) : ∀ p : Nat, T.goals vars = true → vars ≤ p → Sits L base p (layL T p).1 → LayP L base vars T (layL T p).2 ∧ (∀ i, i < (layL T p).1.length → ∃ x, End L ((base + (p + i) : Nat) : Int) x) := by
 induction T with
 | nil => intro p _ _ _; exact ⟨rfl, fun i hi => absurd hi (by simp [layL])⟩
 | cons k n s ar r _ ih =>
  intro p hg hpv hs
  simp only [Ts.goals, Bool.and_eq_true] at hg
  simp only [layL] at hs ⊢
  obtain ⟨h1, h2⟩ := hs.app
  obtain ⟨a1, a2, a3⟩ := lay1_rel hv hg.1 hpv h1
  obtain ⟨b1, b2⟩ := ih _ hg.2 (by omega) h2
  refine ⟨⟨_, _, rfl, by rw [show (base : Int) + (p : Nat) = ((base + p : Nat) : Int) by omega]; exact a1, by rw [show (base : Int) + (p : Nat) = ((base + p : Nat) : Int) by omega]; exact a3, b1⟩, fun i hi => ?_⟩
  rw [List.length_append] at hi
  by_cases c : i < (lay1 k n s ar p).length
  ·exact a2 i c
  ·obtain ⟨x, hx⟩ := b2 (i - (lay1 k n s ar p).length) (by omega)
   rw [show p + i = p + (lay1 k n s ar p).length + (i - (lay1 k n s ar p).length) by omega]; exact ⟨x, hx⟩
theorem vars_rel {L : List HC} {base V : Nat} (hs : Sits L base 0 (varsB V)) : ∀ v : Int, 0 ≤ v → v < V → hat L (v + base) = some ⟨0, v + base, eS⟩ := by
 intro v v0 v1
 have := hs v.toNat _ (varsB_get (by omega))
 rw [show ((base + (0 + v.toNat) : Nat) : Int) = v + base by omega] at this
 rw [this]
 unfold moved
 rw [if_pos rfl]
 dsimp only
 rw [show ((v.toNat : Nat) : Int) = v by omega]
structure Blk (h : HH) (B : List HC) (h' : HH) : Prop where
 eq : h' = ⟨h.cs ++ B.map (moved h.cs.length), h.tr⟩
 gd : goodL h'.cs.length h'.cs = true
 ends : ∀ i, i < B.length → ∃ x, End h'.cs ((h.cs.length + i : Nat) : Int) x
theorem goodTr1_app {L X : List HC} {a : Int} (h : goodTr1 L a = true) : goodTr1 (L ++ X) a = true := by
 unfold goodTr1 at h ⊢
 cases hc : hat L a with
 | none => rw [hc] at h; cases h
 | some c => rw [hc] at h; rw [hat_app hc]; exact h
theorem Blk.ok {h h' : HH} {B : List HC} (hb : Blk h B h') (ho : HOk h) : HOk h' := by
 obtain ⟨rfl, gd, ends⟩ := hb
 refine ⟨gd, fun a ha => ?_, fun a ha => goodTr1_app (ho.tr a ha)⟩
 obtain ⟨a0, a1⟩ := isAddr_iff'.1 ha
 by_cases hl : a < h.cs.length
 ·obtain ⟨x, hx⟩ := ho.ends a (isAddr_iff'.2 ⟨a0, hl⟩)
  exact ⟨x, end_app hx⟩
 ·obtain ⟨x, hx⟩ := ends (a.toNat - h.cs.length) (by simp at a1; omega)
  rw [show ((h.cs.length + (a.toNat - h.cs.length) : Nat) : Int) = a by omega] at hx
  exact ⟨x, hx⟩
theorem clause_blk {h : HH} {c : Cl} (hg : goodH h = true) (hc : cB c = true) (hl : h.cs.length + 300 ≤ 65536) :
  loadH h (blockC c) = (⟨h.cs ++ (blockC c).map (moved h.cs.length), h.tr⟩, h.cs.length, 0) ∧ goodH ⟨h.cs ++ (blockC c).map (moved h.cs.length), h.tr⟩ = true ∧ Blk h (blockC c) ⟨h.cs ++ (blockC c).map (moved h.cs.length), h.tr⟩ ∧
  LayL (h.cs ++ (blockC c).map (moved h.cs.length)) h.cs.length c.vars (.cons c.k c.n c.s c.hd .nil) (h.cs.length + c.vars) ∧ LayP (h.cs ++ (blockC c).map (moved h.cs.length)) h.cs.length c.vars c.bd (goalsC c) := by
 obtain ⟨h0, h1, h2, h3, h4⟩ := cB_iff hc
 have hbl := blockC_len hc
 have hX := load_goodH hg (blockC_good hc) (by omega)
 have hs := load_sits h (blockC c)
 have he : (blockC c).length = c.vars.toNat + ((lay1 c.k c.n c.s c.hd c.vars.toNat).length + (layL c.bd (c.vars.toNat + (lay1 c.k c.n c.s c.hd c.vars.toNat).length)).1.length) := by
  simp only [blockC, List.length_append, varsB_len]
 obtain ⟨s1, s2⟩ := Sits.app (X := varsB c.vars.toNat) hs
 obtain ⟨s3, s4⟩ := s2.app
 rw [varsB_len, Nat.zero_add] at s3 s4
 have hv0 := vars_rel s1
 have hv : ∀ v : Int, 0 ≤ v → v < c.vars → hat (h.cs ++ (blockC c).map (moved h.cs.length)) (v + h.cs.length) = some ⟨0, v + h.cs.length, eS⟩ := fun v v0 v1 => hv0 v v0 (by omega)
 obtain ⟨t1, t2, _⟩ := lay1_rel hv h4 (p := c.vars.toNat) (by omega) s3
 obtain ⟨u1, u2⟩ := layL_rel hv c.bd _ h3 (by omega) s4
 refine ⟨load_eq hg (blockC_good hc) (by omega), hX, ⟨rfl, ?_, fun i hi => ?_⟩, ?_, u1⟩
 ·simp only [goodH, goodCs, Bool.and_eq_true] at hX; exact hX.1.2
 ·rw [he] at hi
  by_cases c0 : i < c.vars.toNat
  ·have := hv i (by omega) (by omega)
   rw [show (i : Int) + h.cs.length = ((h.cs.length + i : Nat) : Int) by omega] at this
   exact ⟨_, end_self this (by simp)⟩
  by_cases c1 : i - c.vars.toNat < (lay1 c.k c.n c.s c.hd c.vars.toNat).length
  ·obtain ⟨x, hx⟩ := t2 _ c1
   rw [show c.vars.toNat + (i - c.vars.toNat) = i by omega] at hx; exact ⟨x, hx⟩
  ·obtain ⟨x, hx⟩ := u2 (i - c.vars.toNat - (lay1 c.k c.n c.s c.hd c.vars.toNat).length) (by omega)
   rw [show c.vars.toNat + (lay1 c.k c.n c.s c.hd c.vars.toNat).length + (i - c.vars.toNat - (lay1 c.k c.n c.s c.hd c.vars.toNat).length) = i by omega] at hx; exact ⟨x, hx⟩
 ·rw [show (h.cs.length : Int) + c.vars = ((h.cs.length + c.vars.toNat : Nat) : Int) by omega]; exact t1
theorem query_blk {q : Ts} {v : Nat} (hq : qB (v : Nat) q = true) :
  loadH ⟨[], []⟩ (blockQ (v : Nat) q) = (⟨(blockQ (v : Nat) q).map (moved 0), []⟩, 0, 0) ∧ goodH ⟨(blockQ (v : Nat) q).map (moved 0), []⟩ = true ∧ HOk ⟨(blockQ (v : Nat) q).map (moved 0), []⟩ ∧ ((blockQ (v : Nat) q).map (moved 0)).length ≤ 300 ∧
  (∀ x : Int, 0 ≤ x → x < v → hat ((blockQ (v : Nat) q).map (moved 0)) x = some ⟨0, x, eS⟩) ∧ LayP ((blockQ (v : Nat) q).map (moved 0)) 0 (v : Nat) q (goalsQ (v : Nat) q) := by
 simp only [qB, Bool.and_eq_true, decide_eq_true_eq] at hq
 obtain ⟨⟨⟨v0, v1⟩, v2⟩, v3⟩ := hq
 have hn := Ts.goals_nodes _ _ v3
 have hll := layL_le q v
 have he : (blockQ (v : Nat) q).length = v + (layL q v).1.length := by simp [blockQ, varsB_len]
 have hs := load_sits ⟨[], []⟩ (blockQ (v : Nat) q)
 simp only [List.length_nil, List.nil_append] at hs
 have hs' := hs
 unfold blockQ at hs'
 rw [Int.toNat_natCast] at hs'
 obtain ⟨s1, s2⟩ := Sits.app (X := varsB v) hs'
 rw [varsB_len, Nat.zero_add] at s2
 have hv := vars_rel s1
 obtain ⟨u1, u2⟩ := layL_rel hv q v v3 (by omega) s2
 have hgd : goodCs (blockQ (v : Nat) q) = true := by
  unfold goodCs
  simp only [Bool.and_eq_true, decide_eq_true_eq]
  refine ⟨by omega, ?_⟩
  have : goodL (blockQ (v : Nat) q).length (varsB v ++ (layL q v).1) = true := goodL_app (layL_good (vars := v) (by omega) q v v3 (by omega)) (varsF_good _ _ (by omega))
  unfold blockQ at this ⊢
  rw [Int.toNat_natCast] at this ⊢
  exact this
 have hg0 : goodH ⟨[], []⟩ = true := by decide
 have hX := load_goodH hg0 hgd (by simp; omega)
 have hle := load_eq hg0 hgd (by simp; omega)
 simp only [List.length_nil, List.nil_append] at hX hle
 refine ⟨hle, hX, ⟨?_, fun a ha => ?_, fun a ha => (by cases ha)⟩, by simp; omega, fun x x0 x1 => ?_, by unfold goalsQ; rw [Int.toNat_natCast]; unfold blockQ; rw [Int.toNat_natCast]; exact u1⟩
 ·simp only [goodH, goodCs, Bool.and_eq_true] at hX; exact hX.1.2
 ·obtain ⟨a0, a1⟩ := isAddr_iff'.1 ha
  simp only [List.length_map] at a1
  rw [he] at a1
  by_cases c0 : a < v
  ·have := hv a a0 c0
   rw [show a + ((0 : Nat) : Int) = a by omega] at this
   unfold blockQ
   rw [Int.toNat_natCast]
   exact ⟨_, end_self this (by simp)⟩
  ·obtain ⟨x, hx⟩ := u2 (a.toNat - v) (by omega)
   rw [show ((0 + (v + (a.toNat - v)) : Nat) : Int) = a by omega] at hx
   unfold blockQ
   rw [Int.toNat_natCast]
   exact ⟨x, hx⟩
 ·have := hv x x0 x1
  rw [show x + ((0 : Nat) : Int) = x by omega] at this
  unfold blockQ
  rw [Int.toNat_natCast]; exact this
end Go.Proofs.YthliapbflkfdiabGreat
namespace Go.Proofs.YthliapbflkfdiabGreat
open Go.RowKit
set_option linter.unusedVariables false
set_option linter.unusedSimpArgs false
def NewR (L : List HC) (base : Nat) (V m : Int) (t : Tm) (a : Int) : Prop := ∃ u : Tm, LayL L base V (.cons u.k u.n u.s u.ar .nil) a ∧ t = u.shift m
theorem LayL.al {L : List HC} {base : Nat} {V m : Int} : ∀ (T : Ts) (a : Int), LayL L base V T a → Al (NewR L base V m) (T.shift m).tms (ups a T.length)
 | .nil, a, _ => .nil
 | .cons k n s ar r, a, h => by
  rw [Ts.shift_cons]
  exact .cons ⟨⟨k, n, s, ar⟩, ⟨h.1, trivial⟩, rfl⟩ (LayL.al r (a + 1) h.2)
theorem LayL.addr {L : List HC} {base : Nat} {V : Int} {k n : Int} {s : ByteArray} {ar r : Ts} {a : Int} (h : LayL L base V (.cons k n s ar r) a) : isAddr L a = true := by
 obtain ⟨⟨x, c, h1, _⟩, _⟩ := h
 obtain ⟨d, hd⟩ := h1.first
 exact addr_hat.2 ⟨d, hd⟩
theorem shiftN_var {n m : Int} (h0 : 0 ≤ n) (h1 : n ≤ 40000) (h2 : 0 ≤ m) (h3 : m ≤ 40000) : shiftN 0 n m = n + m := by
 unfold shiftN; rw [if_pos rfl, low_of h0 (by omega), low_of h2 (by omega)]
theorem NewR.look {L : List HC} {T : List Int} {base : Nat} {V m : Int} {B : Bnd} (hV : V ≤ 8) (m0 : 0 ≤ m) (m1 : m ≤ 40000) (hB : FB m B) {t : Tm} {a : Int} (h : NewR L base V m t a) :
  (∃ i, 0 ≤ i ∧ i < V ∧ tview B t = .var (i + m) ∧ hview ⟨L, T⟩ a = .var (i + base)) ∨ ∃ k n s ar ar', tview B t = .node k n s ar ∧ hview ⟨L, T⟩ a = .node k n s ar' ∧ Al (NewR L base V m) ar ar' := by
 obtain ⟨⟨k, n, s, ar⟩, hl, rfl⟩ := h
 dsimp only at hl
 obtain ⟨⟨x, c, h1, h2, h3⟩, _⟩ := hl
 rcases h3 with ⟨rfl, n0, n1, rfl, rfl, hk, hx⟩ | ⟨hk, e1, e2, e3, e4, h5⟩
 ·refine .inl ⟨n, n0, n1, ?_, ?_⟩
  ·refine tview_var.2 ?_
   have e : (Tm.shift ⟨0, n, eS, .nil⟩ m).n = n + m := shiftN_var (n := n) n0 (by omega) m0 m1
   rw [look_free (hB.get (by rw [e]; omega))]
   exact ⟨rfl, e⟩
  ·rw [hview_end (h := ⟨L, T⟩) h1 h2, if_pos hk, hx]
 ·refine .inr ⟨k, n, s, (ar.shift m).tms, ups (x + 1) ar.length, ?_, ?_, LayL.al _ _ h5⟩
  ·show tvw (lookM B _) = _
   rw [look_nonvar (by exact hk)]
   unfold tvw
   rw [if_neg (by exact hk)]
   show Vw.node k (shiftN k n m) s _ = _
   have : shiftN k n m = n := by unfold shiftN; rw [if_neg hk]
   rw [this]; rfl
  ·skip
   rw [hview_end (h := ⟨L, T⟩) h1 h2, if_neg (by rw [e1]; exact hk), e1, e2, e3, e4]
theorem Bm.ext {R N : Tm → Int → Prop} {B : Bnd} {h h' : HH} {m base : Int} (hb : Bm sysS sysH R B h) (ho : HOk h') (hold : ∀ a, isAddr h.cs a = true → isAddr h'.cs a = true ∧ hview h' a = hview h a)
  (hnew : ∀ t a, N t a → isAddr h'.cs a = true ∧ ((∃ i, 0 ≤ i ∧ tview B t = .var (i + m) ∧ hview h' a = .var (i + base)) ∨ ∃ k n s ar ar', tview B t = .node k n s ar ∧ hview h' a = .node k n s ar' ∧ Al N ar ar'))
  (hlow : ∀ t a u, R t a → tview B t = .var u → u < m) (hlow' : ∀ t a v, R t a → hview h a = .var v → v < base) : Bm sysS sysH (fun t a => R t a ∨ N t a) B h' := by
 refine ⟨hb.oka, ho, fun _ => trivial, ?_, ?_, ?_⟩
 ·rintro t a (hr | hn)
  ·exact (hold a (hb.db hr)).1
  ·exact (hnew t a hn).1
 ·rintro t a (hr | hn)
  ·show VwR _ (tview B t) (hview h' a)
   rw [(hold a (hb.db hr)).2]
   exact VwR.imp (fun _ _ h => .inl h) (hb.vw hr)
  ·show VwR _ (tview B t) (hview h' a)
   rcases (hnew t a hn).2 with ⟨i, _, e1, e2⟩ | ⟨k, n, s, ar, ar', e1, e2, hal⟩
   ·rw [e1, e2]; trivial
   ·rw [e1, e2]; exact ⟨rfl, rfl, rfl, hal.imp fun _ _ h => .inr h⟩
 ·intro t a t' a' u u' v v' h1 h2 e1 e2 e3 e4
  have nw : ∀ {t a u v}, N t a → tview B t = .var u → hview h' a = .var v → ∃ i, 0 ≤ i ∧ u = i + m ∧ v = i + base := by
   intro t a u v hn f1 f2
   rcases (hnew t a hn).2 with ⟨i, i0, g1, g2⟩ | ⟨k, n, s, ar, ar', g1, g2, _⟩
   ·rw [g1] at f1; rw [g2] at f2; cases f1; cases f2; exact ⟨i, i0, rfl, rfl⟩
   ·rw [g1] at f1; cases f1
  have od : ∀ {t a u v}, R t a → tview B t = .var u → hview h' a = .var v → u < m ∧ v < base ∧ hview h a = .var v := by
   intro t a u v hr f1 f2
   rw [(hold a (hb.db hr)).2] at f2
   exact ⟨hlow t a u hr f1, hlow' t a v hr f2, f2⟩
  rcases h1 with h1 | h1
  ·obtain ⟨x1, x2, x3⟩ := od h1 e1 e3
   rcases h2 with h2 | h2
   ·obtain ⟨y1, y2, y3⟩ := od h2 e2 e4
    exact hb.vr h1 h2 e1 e2 x3 y3
   ·obtain ⟨i, i0, rfl, rfl⟩ := nw h2 e2 e4; omega
  ·obtain ⟨i, i0, rfl, rfl⟩ := nw h1 e1 e3
   rcases h2 with h2 | h2
   ·obtain ⟨y1, y2, y3⟩ := od h2 e2 e4; omega
   ·obtain ⟨j, j0, rfl, rfl⟩ := nw h2 e2 e4; omega
theorem hview_low {h : HH} (ho : HOk h) {a v : Int} (ha : isAddr h.cs a = true) (hv : hview h a = .var v) : v < h.cs.length := by
 obtain ⟨_, c, hc, _⟩ := ho.var ha hv
 exact (hatS.1 hc).2.1
theorem tview_low {m : Int} {B : Bnd} (hB : FB m B) {t : Tm} (ht : lowT m t) {u : Int} (h : tview B t = .var u) : u < m := by
 obtain ⟨a1, a2⟩ := tview_var.1 h
 rw [← a2]; exact (look_low hB ht).1 a1
structure GRel (q fresh : Nat) (B : Bnd) (h : HH) (R : Tm → Int → Prop) : Prop where
 bm : Bm sysS sysH R B h
 fb : FB fresh B
 low : ∀ t a, R t a → lowT fresh t
 qv : ∀ v : Nat, v < q → R ⟨0, (v : Nat), ⟨#[]⟩, .nil⟩ (v : Nat)
theorem GRel.mono {q f f' : Nat} (hf : f ≤ f') {B : Bnd} {h : HH} {R : Tm → Int → Prop} (H : GRel q f B h R) : GRel q f' B h R := ⟨H.bm, H.fb.mono (by omega), fun t a hr => (H.low t a hr).mono (by omega), H.qv⟩
theorem LayL.good {L : List HC} {base : Nat} {V : Int} : ∀ (T : Ts) (a : Int), LayL L base V T a → T.vars (fun n => 0 ≤ n ∧ n < V)
 | .nil, _, _ => trivial
 | .cons k n s ar r, a, h => by
  obtain ⟨⟨x, c, h1, h2, h3⟩, h4⟩ := h
  refine ⟨fun hk => ?_, ?_, LayL.good r _ h4⟩
  ·rcases h3 with ⟨_, n0, n1, _⟩ | ⟨hk', _⟩
   ·exact ⟨n0, n1⟩
   ·exact absurd hk hk'
  ·rcases h3 with ⟨_, _, _, _, rfl, _⟩ | ⟨_, _, _, _, _, h5⟩
   ·trivial
   ·exact LayL.good ar _ h5
theorem shift_vlow {m V : Int} (m0 : 0 ≤ m) (m1 : m ≤ 40000) (hV : V ≤ 8) (T : Ts) : T.vars (fun n => 0 ≤ n ∧ n < V) → (T.shift m).vars (· < m + V) := by
 induction T with
 | nil => intro _; trivial
 | cons k n s ar r iha ihr =>
  rintro ⟨h1, h2, h3⟩
  rw [Ts.shift_cons]
  refine ⟨fun hk => ?_, iha h2, ihr h3⟩
  subst hk
  obtain ⟨n0, n1⟩ := h1 rfl
  rw [shiftN_var n0 (by omega) m0 m1]; omega
theorem NewR.low {L : List HC} {base : Nat} {V m : Int} (hV : V ≤ 8) (m0 : 0 ≤ m) (m1 : m ≤ 40000) {t : Tm} {a : Int} (h : NewR L base V m t a) : lowT (m + V) t := by
 obtain ⟨⟨k, n, s, ar⟩, hl, rfl⟩ := h
 have h1 := LayL.good _ _ hl
 have h2 := shift_vlow m0 m1 hV _ h1
 rw [Ts.shift_cons] at h2
 exact ⟨h2.1, h2.2.1⟩
theorem GRel.load {q fresh : Nat} {B : Bnd} {h h' : HH} {R : Tm → Int → Prop} {K : List HC} {V : Nat} (H : GRel q fresh B h R) (hb : Blk h K h') (hV : V ≤ 8) (hf : fresh ≤ 40000) :
  GRel q (fresh + V) B h' (fun t a => R t a ∨ NewR h'.cs h.cs.length V fresh t a) := by
 have ho : HOk h := H.bm.okb
 have ho' := hb.ok ho
 refine ⟨Bm.ext (m := fresh) (base := h.cs.length) H.bm ho' (fun a ha => ?_) (fun t a hn => ⟨?_, ?_⟩) (fun t a u hr hu => tview_low H.fb (H.low t a hr) hu) (fun t a v hr hv => hview_low ho (H.bm.db hr) hv), H.fb.mono (by omega), fun t a hr => ?_, fun v hv => .inl (H.qv v hv)⟩
 ·rw [hb.eq]; exact ⟨addr_app ha, hview_app ho ha _ _⟩
 ·obtain ⟨u, hl, _⟩ := hn; exact hl.addr
 ·rcases NewR.look (T := h'.tr) (by omega) (by omega) (by omega) H.fb hn with ⟨i, i0, i1, e1, e2⟩ | hh
  ·exact .inl ⟨i, i0, e1, e2⟩
  ·exact .inr hh
 ·rcases hr with hr | hn
  ·exact (H.low t a hr).mono (by omega)
  ·have := hn.low (by omega) (by omega) (by omega)
   exact this.mono (by omega)
theorem GRel.num {q fresh : Nat} {B : Bnd} {h h' : HH} {R : Tm → Int → Prop} {n : Int} (H : GRel q fresh B h R) (hb : Blk h [⟨2, n, eS⟩] h') :
  GRel q fresh B h' (fun t a => R t a ∨ (t = ⟨2, n, ⟨#[]⟩, .nil⟩ ∧ a = h.cs.length)) := by
 have ho : HOk h := H.bm.okb
 have ho' := hb.ok ho
 have hc : hat h'.cs (h.cs.length : Nat) = some ⟨2, n, eS⟩ := by
  have := load_sits h [⟨2, n, eS⟩] 0 _ rfl
  rw [hb.eq]; exact this
 refine ⟨Bm.ext (m := fresh) (base := h.cs.length) H.bm ho' (fun a ha => ?_) (fun t a hn => ?_) (fun t a u hr hu => tview_low H.fb (H.low t a hr) hu) (fun t a v hr hv => hview_low ho (H.bm.db hr) hv), H.fb, fun t a hr => ?_, fun v hv => .inl (H.qv v hv)⟩
 ·rw [hb.eq]; exact ⟨addr_app ha, hview_app ho ha _ _⟩
 ·obtain ⟨rfl, rfl⟩ := hn
  refine ⟨addr_hat.2 ⟨_, hc⟩, .inr ⟨2, n, eS, [], [], ?_, ?_, .nil⟩⟩
  ·show tvw (lookM B _) = _
   rw [look_nonvar (by show (2 : Int) ≠ 0; decide)]; rfl
  ·rw [hview_end (end_self hc (by simp)) hc, if_neg (by show ¬ (2 : Int) = 0; decide)]; rfl
 ·rcases hr with hr | ⟨rfl, _⟩
  ·exact H.low t a hr
  ·exact ⟨fun e => absurd e (by show ¬ (2 : Int) = 0; decide), trivial⟩
theorem GRel.uni {q fresh : Nat} {B : Bnd} {h : HH} {R : Tm → Int → Prop} (H : GRel q fresh B h R) {t t' : Tm} {a a' : Int} (ha : R t a) (ha' : R t' a') :
  (uniM 401 t t' B 0).ok = (uniG sysH 401 a a' h 0).ok ∧ (uniM 401 t t' B 0).w = (uniG sysH 401 a a' h 0).w ∧ GRel q fresh (uniM 401 t t' B 0).B (uniG sysH 401 a a' h 0).s R := by
 have hu := uni_eq 401 t t' B 0 H.bm.oka
 obtain ⟨h1, h2, h3⟩ := uni_sim (sysT_law joinS_ok) sysH_law 401 t t' a a' B h 0 H.bm ha ha'
 have f1 := uni_fb joinS_fb 401 t t' B 0 H.fb (H.low t a ha) (H.low t' a' ha')
 rw [← hu] at h1 h2 h3 f1
 exact ⟨h1, h2, h3, f1, H.low, H.qv⟩
structure Bk (h : HH) (n top : Nat) (g : HH) : Prop where
 hn : n ≤ h.tr.length
 ht : top ≤ h.cs.length
 eq : g = ⟨(undoL h.cs (h.tr.drop n)).take top, h.tr.take n⟩
 ok : HOk g
theorem HOk.pos {h : HH} (ho : HOk h) {a : Int} (ha : a ∈ h.tr) : ∃ c, hat h.cs a = some c ∧ c.k = 0 := by
 have := ho.tr a ha
 unfold goodTr1 at this
 cases hc : hat h.cs a with
 | none => rw [hc] at this; cases this
 | some c => rw [hc] at this; exact ⟨c, rfl, by simpa using this⟩
theorem HOk.nn {h : HH} (ho : HOk h) : ∀ a ∈ h.tr, 0 ≤ a := fun a ha => by
 obtain ⟨c, hc, _⟩ := ho.pos ha; exact (hatS.1 hc).1
theorem undo_length (T : List Int) (L : List HC) : (undoL L T).length = L.length := by
 induction T generalizing L with
 | nil => rfl
 | cons a r ih => simp only [undoL]; rw [ih, setN_len]
theorem Bk.len {h g : HH} {n top : Nat} (b : Bk h n top g) : g.cs.length = top ∧ g.tr.length = n := by
 rw [b.eq]
 have := b.ht
 have := b.hn
 constructor
 ·show ((undoL _ _).take top).length = top
  rw [List.length_take, undo_length]; omega
 ·show (h.tr.take n).length = n
  rw [List.length_take]; omega
theorem Bk.self {h : HH} (ho : HOk h) : Bk h h.tr.length h.cs.length h := by
 refine ⟨Nat.le_refl _, Nat.le_refl _, ?_, ho⟩
 rw [List.drop_length, List.take_length]
 show h = ⟨(undoL h.cs []).take _, _⟩
 rw [show undoL h.cs [] = h.cs from rfl, List.take_length]
theorem undo_get {h : HH} (hnn : ∀ a ∈ h.tr, 0 ≤ a) (n i : Nat) : (undoL h.cs (h.tr.drop n))[i]? = if (i : Int) ∈ h.tr.drop n then (h.cs[i]?).map (fun c => ⟨c.k, i, c.s⟩) else h.cs[i]? :=
 undoL_get _ _ (fun r hr => hnn r (List.mem_of_mem_drop hr)) i
theorem Bk.trans {h g k : HH} {n top n' top' : Nat} (hnn : ∀ a ∈ h.tr, 0 ≤ a) (b : Bk h n top g) (c : Bk g n' top' k) : Bk h n' top' k := by
 obtain ⟨l1, l2⟩ := b.len
 have cn := c.hn
 have ct := c.ht
 have bn := b.hn
 have bt := b.ht
 refine ⟨by omega, by omega, ?_, c.ok⟩
 have hgnn : ∀ a ∈ g.tr, 0 ≤ a := fun a ha => hnn a (by rw [b.eq] at ha; exact List.mem_of_mem_take ha)
 rw [c.eq]
 have e2 : g.tr.take n' = h.tr.take n' := by rw [b.eq]; show (h.tr.take n).take n' = _; rw [List.take_take, Nat.min_eq_left (by omega)]
 rw [e2]
 congr 1
 refine List.ext_getElem? fun i => ?_
 rw [List.getElem?_take, List.getElem?_take]
 by_cases hi : i < top'
 ·rw [if_pos hi, if_pos hi, undo_get hgnn, undo_get hnn]
  have e3 : g.cs[i]? = if (i : Int) ∈ h.tr.drop n then (h.cs[i]?).map (fun c => ⟨c.k, i, c.s⟩) else h.cs[i]? := by
   rw [← undo_get hnn, b.eq]
   show ((undoL _ _).take top)[i]? = _
   rw [List.getElem?_take, if_pos (by omega)]
  have e4 : h.tr.drop n' = g.tr.drop n' ++ h.tr.drop n := by
   have : g.tr = h.tr.take n := by rw [b.eq]
   rw [this]
   conv => lhs; rw [← List.take_append_drop n h.tr]
   rw [List.drop_append_of_le_length (by rw [List.length_take]; omega)]
  rw [e3, e4]
  simp only [List.mem_append]
  by_cases m1 : (i : Int) ∈ g.tr.drop n'
  ·rw [if_pos m1, if_pos (show (i : Int) ∈ g.tr.drop n' ∨ (i : Int) ∈ h.tr.drop n from .inl m1)]
   by_cases m2 : (i : Int) ∈ h.tr.drop n
   ·rw [if_pos m2, Option.map_map]; rfl
   ·rw [if_neg m2]
  ·rw [if_neg m1]
   by_cases m2 : (i : Int) ∈ h.tr.drop n
   ·rw [if_pos m2, if_pos (show (i : Int) ∈ g.tr.drop n' ∨ (i : Int) ∈ h.tr.drop n from .inr m2)]
   ·rw [if_neg m2, if_neg (show ¬ ((i : Int) ∈ g.tr.drop n' ∨ (i : Int) ∈ h.tr.drop n) from fun h => h.elim m1 m2)]
 ·rw [if_neg hi, if_neg hi]
def Dr (h : HH) (a : Int) : Prop := ∃ c, hat h.cs a = some c ∧ (c.k = 1 ∨ c.k = 3)
theorem Dr.up {h g : HH} {n top : Nat} (ho : HOk h) (b : Bk h n top g) {a : Int} (hd : Dr g a) : Dr h a := by
 obtain ⟨c, hc, hk⟩ := hd
 obtain ⟨a0, a1, a2⟩ := hatS.1 hc
 obtain ⟨l1, l2⟩ := b.len
 have ht := b.ht
 have e3 : g.cs[a.toNat]? = if ((a.toNat : Nat) : Int) ∈ h.tr.drop n then (h.cs[a.toNat]?).map (fun c => ⟨c.k, a.toNat, c.s⟩) else h.cs[a.toNat]? := by
  rw [← undo_get ho.nn, b.eq]
  show ((undoL _ _).take top)[a.toNat]? = _
  rw [List.getElem?_take, if_pos (by omega)]
 rw [show ((a.toNat : Nat) : Int) = a by omega] at e3
 by_cases hm : a ∈ h.tr.drop n
 ·rw [if_pos hm, a2] at e3
  obtain ⟨d, hd, hdk⟩ := ho.pos (List.mem_of_mem_drop hm)
  rw [(hatS.1 hd).2.2] at e3
  simp only [Option.map_some, Option.some.injEq] at e3
  rw [e3] at hk
  dsimp only at hk
  omega
 ·rw [if_neg hm, a2] at e3
  exact ⟨c, hatS.2 ⟨a0, by omega, e3.symm⟩, hk⟩
theorem Bk.load {h h' : HH} {K : List HC} (ho : HOk h) (hb : Blk h K h') : Bk h' h.tr.length h.cs.length h := by
 rw [hb.eq]
 refine ⟨Nat.le_refl _, by simp, ?_, ho⟩
 dsimp only
 rw [List.drop_length, List.take_length]
 show h = ⟨(h.cs ++ _).take _, _⟩
 rw [List.take_left]
theorem Bk.uni {h : HH} (ho : HOk h) {N : List Int} {L : List HC} (hN : Bd N h.cs L) : Bk ⟨L, h.tr ++ N⟩ h.tr.length h.cs.length h := by
 have hl : L.length = h.cs.length := by
  have := hN.undo
  rw [← this, undo_length]
 refine ⟨by simp, by show _ ≤ L.length; omega, ?_, ho⟩
 dsimp only
 rw [List.drop_left, List.take_left, hN.undo, List.take_length]
end Go.Proofs.YthliapbflkfdiabGreat
