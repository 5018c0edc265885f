/- XWalk9, XWalk10, XWalk11, XWalk12, XWalk13: texts that follow one another, laid into one file. -/
import Derived.Test.YthliapbflkfdiabZ0
import Derived.Test.YthliapbflkfdiabG16
import Derived.Test.YthliapbflkfdiabG10
namespace Go.Proofs.Ythliapbflkfdiab
open Go.RowKit
set_option linter.unusedVariables false
set_option linter.unusedSimpArgs false
set_option maxRecDepth 100000
set_option maxHeartbeats 1000000
section
variable {M : List Nat} {w0 : World} {H : List (Nat × Obj)} {F0 : List (World → Prop)} {b : Nat} {P : List LB} {pA : Option Addr} {pc vars fuel every : Nat}
theorem mbuiltin_any (x : XS) (l : XL) (z : HC) (w : World) (hbd : XBd x) (hz : hat x.h.cs l.g = some z) (hlo : l.o ≤ x.ch.length) (hlen : x.h.cs.length ≤ 65536) (hld : z.s.toList = [108, 101, 115, 115] ∨ z.s.toList = [97, 100, 100] → Leads x.h (l.g + 1) ∧ Leads x.h (l.g + 1 + 1)) (hs : XSt M w0 H F0 b P pA pc vars fuel every x w) :
  Calls Try.prog 101 #[ptm b, .agg (xlcs l).toArray] w fun e w' => e = .returned (.int .i64 (builtX l x).1) ∧ XSt M w0 H F0 b P pA pc vars fuel every (builtX l x).2 w' := by
 obtain ⟨d, F, hFF, hok, hS⟩ := hs
 obtain ⟨hA, hc, hB, hd, LA, lc, O1, cs, CA, cc, O2, evs, EA, ec, O3⟩ := d
 have hgz : gcell x.h l.g = z := by unfold gcell; rw [hz]; rfl
 have hbm : builtX l x = if z.s.toList = [33] then (0, ⟨x.h, x.goals, x.ln, x.first, x.ch.drop (x.ch.length - l.o), x.ev⟩)
  else if z.s.toList = [116, 114, 117, 101] then (0, x) else if z.s.toList = [101, 113] then equalX (l.g + 1) (l.g + 1 + 1) x
  else if z.s.toList = [108, 101, 115, 115] then lessX (l.g + 1) x else if z.s.toList = [97, 100, 100] then addX (l.g + 1) x else againX x := by
  unfold builtX; rw [hgz]
 obtain ⟨z0, z1, z2⟩ := hatS.1 hz
 obtain ⟨hb_, ho_, rfl⟩ : ∃ b o, hA = some ⟨b, o, none⟩ := (hS.und hok.hh).1.some_ (by show 0 < x.h.cs.length; omega)
 have hcell : ∀ {H'} w', St M w0 H' F w' → _ := fun w' hS => ((hS.und hok.hh).1).cell z2
 have hxs : ∀ w', St M w0 ((b, mob P pA pc vars fuel every x ⟨some ⟨hb_, ho_, none⟩, hc, hB, hd, LA, lc, O1, cs, CA, cc, O2, evs, EA, ec, O3⟩) :: (O1 ++ (O2 ++ (O3 ++ H)))) F w' → XSt M w0 H F0 b P pA pc vars fuel every x w' := fun w' h => ⟨_, F, hFF, hok, h⟩
 have hlc : cs.length = x.ch.length := by
  have : cs.map LX.xc = x.ch := hok.hc
  rw [← this]; simp
 have hcn := hbd.cn
 refine goes_enter2 Try.func101 rfl Try.ntmps101 rfl ?_
 by_cases h1 : z.s.toList = [33]
 ·rw [if_pos h1] at hbm
  rw [hbm]
  have e1 := (toList_iff [33]).1 h1
  have hrow2 : Row 144 4 (.slice CA cs.length cc) cs.length (xcL cs.reverse) O2 := hok.row2
  have hcap := hrow2.cap
  have hcut := hrow2.cut (m := l.o) (by omega)
  dsimp only [mob, mcs] at hS
  refine Ze ?_
  clear hS
  intro b1 wx1 hS
  refine Zcw ?_
  replace hS := hS.drew
  refine Zcx ?_
  refine Zbo ?_
  refine ZZ ?_
  refine Zs ?_
  refine Zec ?_
  replace hS := hS.drew
  refine ZA ?_
  refine ZH ?_
  refine ZbS ?_
  refine Zc1 ?_
  refine ZcP ?_
  refine Zc1 ?_
  refine ord_read rfl (fun _ hS => run_slice_slice (sz := 4) rfl rfl rfl rfl (by omega) (by omega)) rfl ?_
  refine Zbk ?_
  refine ZbS ?_
  refine Zcv ?_
  clear hS
  intro wx2 hS
  refine Zc ?_
  refine Zi ?_
  refine ZbT ?_
  refine ⟨rfl, ⟨some ⟨hb_, ho_, none⟩, hc, hB, hd, LA, lc, O1, cs.drop (cs.length - l.o), CA, cc, O2, evs, EA, ec, O3⟩, F, hFF, ?_, ?_⟩
  ·have e2 : (cs.drop (cs.length - l.o)).length = l.o := by simp; omega
   refine ⟨hok.hh, hok.row1, ?_, fun c hc => hok.rc c (List.mem_of_mem_drop hc), ?_, hok.he, hok.re, hok.row3, hok.rp⟩
   ·show (cs.drop (cs.length - l.o)).map LX.xc = x.ch.drop (x.ch.length - l.o)
    rw [← show cs.map LX.xc = x.ch from hok.hc, List.map_drop]; simp
   ·show Row _ _ (.slice CA (cs.drop (cs.length - l.o)).length cc) (cs.drop (cs.length - l.o)).length _ _
    rw [e2]
    have e3 : (xcL cs.reverse).take (l.o * 4) = xcL (cs.drop (cs.length - l.o)).reverse := by
     have e4 : cs.reverse = (cs.drop (cs.length - l.o)).reverse ++ (cs.take (cs.length - l.o)).reverse := by rw [← List.reverse_append, List.take_append_drop]
     rw [e4, xcL_app, List.take_append_of_le_length (by rw [xcL_len]; simp; omega), List.take_of_length_le (by rw [xcL_len]; simp; omega)]
    rw [← e3]; exact hcut
  ·have e2 : (cs.drop (cs.length - l.o)).length = l.o := by simp; omega
   dsimp only [mob, mcs] at hS ⊢
   rw [e2]; exact hS.drop
 rw [if_neg h1] at hbm
 have e1 : z.s ≠ ⟨#[33]⟩ := fun h => h1 ((toList_iff [33]).2 h)
 by_cases h2 : z.s.toList = [116, 114, 117, 101]
 ·rw [if_pos h2] at hbm
  rw [hbm]
  have e2 := (toList_iff [116, 114, 117, 101]).1 h2
  refine Ze ?_
  clear hS
  intro b1 wx1 hS
  refine Zcw ?_
  replace hS := hS.drew
  refine Zcx ?_
  refine ZdA ?_
  refine Zbo ?_
  refine ZZ ?_
  refine Zi ?_
  refine ZbT ?_
  exact ⟨rfl, hxs _ hS.drop⟩
 rw [if_neg h2] at hbm
 have e2 : z.s ≠ ⟨#[116, 114, 117, 101]⟩ := fun h => h2 ((toList_iff [116, 114, 117, 101]).2 h)
 by_cases h3 : z.s.toList = [101, 113]
 ·rw [if_pos h3] at hbm
  rw [hbm]
  have e3 := (toList_iff [101, 113]).1 h3
  refine Ze ?_
  clear hS
  intro b1 wx1 hS
  refine Zcw ?_
  replace hS := hS.drew
  refine Zcx ?_
  refine Zcy ?_
  refine Zbo ?_
  refine ZZ ?_
  refine Zm ?_
  refine Zac ?_
  refine Z1 ?_
  refine Calls.mono (mequal_any x (l.g + 1) (l.g + 1 + 1) _ hbd (hxs _ hS.drop)) ?_
  rintro _ w5 ⟨rfl, hq⟩
  refine ZV ?_
  refine ZbT ?_
  exact ⟨rfl, hq⟩
 rw [if_neg h3] at hbm
 have e3 : z.s ≠ ⟨#[101, 113]⟩ := fun h => h3 ((toList_iff [101, 113]).2 h)
 by_cases h4 : z.s.toList = [108, 101, 115, 115]
 ·rw [if_pos h4] at hbm
  rw [hbm]
  have e4 := (toList_iff [108, 101, 115, 115]).1 h4
  obtain ⟨l1, l2⟩ := hld (.inl h4)
  refine Ze ?_
  clear hS
  intro b1 wx1 hS
  refine Zcw ?_
  replace hS := hS.drew
  refine Zcx ?_
  refine Zcy ?_
  refine ZdA ?_
  refine Zbo ?_
  refine ZZ ?_
  refine Zao ?_
  refine Calls.mono (mless_any x (l.g + 1) _ hbd (by omega) l1 l2 hlen (hxs _ hS.drop)) ?_
  rintro _ w5 ⟨rfl, hq⟩
  refine ZV ?_
  refine ZbT ?_
  exact ⟨rfl, hq⟩
 rw [if_neg h4] at hbm
 have e4 : z.s ≠ ⟨#[108, 101, 115, 115]⟩ := fun h => h4 ((toList_iff [108, 101, 115, 115]).2 h)
 by_cases h5 : z.s.toList = [97, 100, 100]
 ·rw [if_pos h5] at hbm
  rw [hbm]
  have e5 := (toList_iff [97, 100, 100]).1 h5
  obtain ⟨l1, l2⟩ := hld (.inr h5)
  refine Ze ?_
  clear hS
  intro b1 wx1 hS
  refine Zcw ?_
  replace hS := hS.drew
  refine Zcx ?_
  refine Zcy ?_
  refine Zcy ?_
  refine Zbo ?_
  refine ZZ ?_
  refine Zao ?_
  refine Calls.mono (madd_any x (l.g + 1) _ hbd (by omega) l1 l2 hlen (hxs _ hS.drop)) ?_
  rintro _ w5 ⟨rfl, hq⟩
  refine ZV ?_
  refine ZbT ?_
  exact ⟨rfl, hq⟩
 rw [if_neg h5] at hbm
 have e5 : z.s ≠ ⟨#[97, 100, 100]⟩ := fun h => h5 ((toList_iff [97, 100, 100]).2 h)
 rw [hbm]
 refine Ze ?_
 clear hS
 intro b1 wx1 hS
 refine Zcw ?_
 replace hS := hS.drew
 refine Zcx ?_
 refine Zcy ?_
 refine Zcy ?_
 refine Zbo ?_
 refine ZaI ?_
 refine ZaQ ?_
 refine ZaO ?_
 refine Calls.mono (magain_any x _ hbd (hxs _ hS.drop)) ?_
 rintro _ w5 ⟨rfl, hq⟩
 refine ZV ?_
 refine ZbT ?_
 exact ⟨rfl, hq⟩
end
end Go.Proofs.Ythliapbflkfdiab
namespace Go.Proofs.Ythliapbflkfdiab
open Go.RowKit
set_option linter.unusedVariables false
set_option linter.unusedSimpArgs false
set_option maxRecDepth 100000
set_option maxHeartbeats 1000000
section
variable {M : List Nat} {w0 : World} {H : List (Nat × Obj)} {F : List (World → Prop)}
theorem misBuiltin_any (z : HC) (w : World) (h0 : 0 ≤ z.n) (h1 : z.n ≤ 1000000) (hS : St M w0 H F w) :
  Calls Try.prog 100 #[.agg (hcs z).toArray] w fun e w' => e = .returned (.bool (builtB z.s.toList z.n.toNat)) ∧ St M w0 H F w' := by
 obtain ⟨zk, zn, zs⟩ := z
 dsimp only at h0 h1
 obtain ⟨k, rfl⟩ := Int.eq_ofNat_of_zero_le h0
 refine goes_enter1 Try.func100 rfl Try.ntmps100 rfl ?_
 refine Ze ?_
 clear hS
 intro b1 wx1 hS
 refine ZN ?_
 refine goes_draw (St _ _ _ _) 8 ((0, true) :: (1, true) :: (2, true) :: (3, true) :: (4, false) :: (5, true) :: (6, false) :: (7, true) :: []) (by kernel_rfl) (by kernel_rfl) (hS.drew) ?_
 replace hS := hS.drew
 refine ZcD ?_
 refine ZX ?_
 refine ZcP ?_
 refine ZX ?_
 refine ZM ?_
 refine lst_make (sz := 4) (bts := 56) hS rfl rfl rfl rfl (by omega) (by omega) rfl ?_
 clear hS
 intro g w2 cs hcs hS
 refine ZbO ?_
 refine ord_read rfl (fun _ hS => run_build (cells := [_, _, _, _]) (.cons (by conv=>lhs;whnf) (.cons (by conv=>lhs;whnf) .nil)) rfl) rfl ?_
 refine ZM ?_
 refine Zp ?_
 refine Calls.mono (builtin_any 0 0 zs (some ⟨g, 0, none⟩) k k _) ?_
 rintro _ w3 ⟨rfl, hb3⟩
 refine Za ?_
 replace hS := hS.grow hb3
 refine ZbO ?_
 refine Zay ?_
 refine Zck ?_
 refine goes_ret1 Try.func100 rfl (by conv=>lhs;whnf) ?_
 exact ⟨rfl, hS.drop.drop⟩
end
section
variable {M : List Nat} {w0 : World} {H : List (Nat × Obj)} {F0 : List (World → Prop)} {b : Nat} {P : List LB} {pA : Option Addr} {pc vars fuel every : Nat}
theorem filter_fit (z : HC) (P : List LB) : (P.map LB.cl).filter (fun c => decide (headX c = z)) = (P.filter (fitX z)).map LB.cl := by
 rw [List.filter_map]; rfl
theorem mcall_any (x : XS) (a : Nat) (z : HC) (w : World) (hbd : XBd x) (ha : a < x.ln.length) (hz : hat x.h.cs (lnk x.ln a).g = some z) (hlen : x.h.cs.length ≤ 65536) (htr : x.h.tr.length ≤ 1000000) (hP : ∀ p ∈ P, p.ok ∧ GOk p.cl) (hl : P.length ≤ 24) (hs : XSt M w0 H F0 b P pA pc vars fuel every x w) :
  Calls Try.prog 102 #[ptm b, .int .i64 (a : Nat)] w fun e w' => e = .returned (.int .i64 (callX (P.map LB.cl) a x).1) ∧ XSt M w0 H F0 b P pA pc vars fuel every (callX (P.map LB.cl) a x).2 w' := by
 obtain ⟨d, F, hFF, hok, hS⟩ := hs
 obtain ⟨hA, hc, hB, hd, LA, lc, O1, cs, CA, cc, O2, evs, EA, ec, O3⟩ := d
 have hgz : gcell x.h (lnk x.ln a).g = z := by unfold gcell; rw [hz]; rfl
 have hcx : callX (P.map LB.cl) a x = match (P.filter (fitX z)).map LB.cl with
   | [] => (5, x)
   | c :: more => attX (retX x.ch) a x.h.cs.length x.h.tr.length (c :: more) x := by
  unfold callX; rw [hgz, filter_fit]; cases P.filter (fitX z) <;> rfl
 obtain ⟨z0, z1, z2⟩ := hatS.1 hz
 obtain ⟨hb_, ho_, rfl⟩ : ∃ b o, hA = some ⟨b, o, none⟩ := (hS.und hok.hh).1.some_ (by show 0 < x.h.cs.length; omega)
 have hcell : ∀ {H'} w', St M w0 H' F w' → _ := fun w' hS => ((hS.und hok.hh).1).cell z2
 obtain ⟨l0, l1, l2⟩ := xlL_get x.ln a _ (lnk_get ha)
 have hrow1 : Row 138 3 (.slice LA x.ln.length lc) x.ln.length (xlL x.ln) O1 := hok.row1
 obtain ⟨gl, sp, rfl, rfl, hcap⟩ := hrow1.some_ (by omega)
 have hll : ∀ {M2 H' F'} w', St M2 w0 H' F' w' → (gl, Obj.cells (xlL x.ln ++ sp).toArray 138) ∈ H' → _ := fun {M2 H' F'} w' (hS : St M2 w0 H' F' w') hm => Row.cell (w := w') hrow1 hS (by intro p hp; obtain rfl := List.mem_singleton.1 hp; exact hm) rfl l0
 have hln := hbd.ln
 refine goes_enter2 Try.func102 rfl Try.ntmps102 rfl ?_
 refine Zd ?_
 refine ZN ?_
 refine ZdW ?_
 replace hS := hS.drew
 refine ZA ?_
 refine Zbc ?_
 refine Zad ?_
 refine ZcQ ?_
 refine ZH ?_
 refine ZcL ?_
 refine ZcQ ?_
 refine ZA ?_
 refine Zaw ?_
 refine Zad ?_
 refine ZcQ ?_
 refine Zaw ?_
 first
  | refine ord_read rfl (fun _ hS => run_loadN_own (k := 3) hS rfl rfl rfl (by first | exact .head | exact .tail .head | exact .tail (.tail .head) | exact .tail (.tail (.tail .head)) | exact .tail (.tail (.tail (.tail .head))) | exact .tail (.tail (.tail (.tail (.tail .head))))) (by repeat constructor)) rfl ?_
  | refine ord_read rfl (fun _ hS => run_loadN_own (k := 3) hS rfl rfl rfl (by first | exact .head | exact .tail .head | exact .tail (.tail .head) | exact .tail (.tail (.tail .head)) | exact .tail (.tail (.tail (.tail .head))) | exact .tail (.tail (.tail (.tail (.tail .head))))) (by assumption)) rfl ?_
  | refine ord_read rfl (fun _ hS => run_load3 rfl rfl rfl (by first | assumption | exact (hcell _ hS).1 | exact (hcell _ hS).2.1 | exact (hcell _ hS).2.2 | exact hll _ hS (by simp) | exact hS.cell0 (by assumption)) (by first | assumption | exact (hcell _ hS).1 | exact (hcell _ hS).2.1 | exact (hcell _ hS).2.2 | exact hll _ hS (by simp) | exact hS.cell0 (by assumption)) (by first | assumption | exact (hcell _ hS).1 | exact (hcell _ hS).2.1 | exact (hcell _ hS).2.2 | exact hll _ hS (by simp) | exact hS.cell0 (by assumption))) rfl ?_
 refine ZP ?_
 refine Zj ?_
 refine Calls.mono (mmatching_any (F0 := F) x z _ (fun p hp => (hP p hp).1) hl ⟨_, F, fun _ h => h, hok, hS⟩) ?_
 rintro _ w3 ⟨A3, c3, F3, rfl, hF3, hL3, hq⟩
 refine Za ?_
 clear hS
 obtain ⟨d4, F4, hF4, hok4, hS⟩ := hq
 have hfl := List.length_filter_le (fitX z) P
 have hsub : ∀ p ∈ P.filter (fitX z), GOk p.cl := fun p hp => (hP p (List.mem_filter.1 hp).1).2
 rw [hcx]
 generalize P.filter (fitX z) = L at *
 cases L with
 | nil =>
  refine Zx ?_
  refine Zz ?_
  refine Zl ?_
  refine ZK ?_
  refine goes_ret1 Try.func102 rfl (by conv=>lhs;whnf) ?_
  exact ⟨rfl, d4, F4, fun φ h => hF4 φ (hF3 φ (hFF φ h)), hok4, hS⟩
 | cons y R =>
  refine Zx ?_
  refine Zz ?_
  refine Zl ?_
  refine Z8 ?_
  obtain ⟨hA5, hc5, hB5, hd5, LA5, lc5, O15, cs5, CA5, cc5, O25, evs5, EA5, ec5, O35⟩ := d4
  refine ZdW ?_
  replace hS := hS.drew
  refine ZaB ?_
  refine ZA ?_
  refine Zbc ?_
  refine Zad ?_
  refine ZcQ ?_
  refine ZdR ?_
  refine Zbc ?_
  refine ZcP ?_
  refine ZcQ ?_
  refine ZdR ?_
  refine ord_read rfl (fun _ hS => run_build (cells := [_, _, _, _]) (.cons (by conv=>lhs;whnf) (.cons (by conv=>lhs;whnf) (.cons (by conv=>lhs;whnf) (.cons (by conv=>lhs;whnf) .nil)))) rfl) rfl ?_
  refine ZP ?_
  refine Zj ?_
  refine Calls.mono (mattempt_any _ (mretry_all _) x a x.h.cs.length x.h.tr.length (y :: R) A3 c3 _ rfl hbd ha hsub (by omega) (by omega) (by omega) hL3 ⟨_, F4, hF4, hok4, hS⟩) ?_
  rintro _ w6 ⟨rfl, hq⟩
  refine ZV ?_
  refine goes_ret1 Try.func102 rfl (by conv=>lhs;whnf) ?_
  exact ⟨rfl, hq.weaken fun φ h => hF3 φ (hFF φ h)⟩
end
end Go.Proofs.Ythliapbflkfdiab
namespace Go.Proofs.Ythliapbflkfdiab
open Go.RowKit
set_option linter.unusedVariables false
set_option linter.unusedSimpArgs false
set_option maxRecDepth 100000
set_option maxHeartbeats 1000000
theorem termX_nodes (h : HH) (a most : Int) : (termH h a most).1.ar.nodes ≤ 65536 ∧ (termH h a most).2.1 ≤ 65536 := by
 unfold termH
 have hm : mostN most ≤ 65536 := by unfold mostN; omega
 split
 ·exact ⟨by simp [zeroTm, Ts.nodes], by simp⟩
 ·split
  ·exact ⟨by simp [zeroTm, Ts.nodes], by simp⟩
  ·split
   ·exact ⟨by simp [zeroTm, Ts.nodes], by simp⟩
   ·rename_i t l ht
    have := tmAt_nodes _ _ _ _ ht
    dsimp only at this ⊢
    omega
theorem varsX_nodes (h : HH) : ∀ (m v : Nat) (l : Int) (T : Ts) (l' : Int), varsX h m v l = some (T, l') → T.nodes ≤ m * 65537 ∧ T.length = m
 | 0, v, l, T, l', e => by
  simp only [varsX, Option.some.injEq, Prod.mk.injEq] at e
  rw [← e.1]; simp [Ts.nodes, Ts.length]
 | m + 1, v, l, T, l', e => by
  unfold varsX at e
  split at e
  ·cases e
  ·cases h2 : varsX h m (v + 1) (l - ((termH h (v : Nat) l).2.1 : Nat)) with
   | none => rw [h2] at e; cases e
   | some p =>
    obtain ⟨U, l2⟩ := p
    rw [h2] at e
    simp only [Option.some.injEq, Prod.mk.injEq] at e
    have i := varsX_nodes h m (v + 1) _ U l2 h2
    have j := termX_nodes h (v : Nat) l
    rw [← e.1]
    simp only [Ts.nodes, Ts.length]
    omega
section
variable {M : List Nat} {w0 : World} {H : List (Nat × Obj)} {F0 : List (World → Prop)} {b : Nat} {P : List LB} {pA : Option Addr} {pc vars fuel every : Nat}
theorem manswer_any (x : XS) (w : World) (hbd : XBd x) (hv8 : vars ≤ 8) (hev : x.ev.length < 12) (hs : XSt M w0 H F0 b P pA pc vars fuel every x w) :
  Calls Try.prog 98 #[ptm b] w fun e w' => e = .returned (.int .i64 (answerX vars x).1) ∧ XSt M w0 H F0 b P pA pc vars fuel every (answerX vars x).2 w' := by
 obtain ⟨d, F, hFF, hok, hS⟩ := hs
 obtain ⟨hA, hc, hB, hd, LA, lc, O1, cs, CA, cc, O2, evs, EA, ec, O3⟩ := d
 refine goes_enter1 Try.func98 rfl Try.ntmps98 rfl ?_
 refine Zi ?_
 refine Z9 ?_
 refine ZaE ?_
 refine Zt ?_
 refine lst_make (sz := 4) (bts := 56) hS rfl rfl rfl rfl (by omega) (by omega) rfl ?_
 clear hS
 intro g w2 zs hzs hS
 refine Zf ?_
 refine ZG ?_
 refine ZJ ?_
 refine goes_loop2 16 4 (17 :: 18 :: 5 :: 20 :: 21 :: 22 :: 23 :: 24 :: 25 :: 26 :: 19 :: 27 :: 28 :: 29 :: 6 :: 7 :: 8 :: 30 :: 31 :: 2 :: 32 :: 33 :: 34 :: 35 :: 36 :: 37 :: 38 :: 39 :: []) (fun (m : Nat) v u w' => ∃ (D' : TA) (rs : List Value) (li : Int) (F' : List (World → Prop)), D'.len + m = vars ∧ rs.length = m * 4 ∧ v = .int .i64 (D'.len : Nat) ∧ u = .int .i64 li ∧ 200 - 65536 * (D'.len : Int) ≤ li ∧ li ≤ 200 ∧ varsX x.h vars 0 200 = (varsX x.h m D'.len li).map (fun p => (D'.ts.app p.1, p.2)) ∧ (∀ φ ∈ F, φ ∈ F') ∧ Und F' (AllR D') ∧ St M w0 ((g, .cells (tcsL D' ++ rs).toArray 39) :: (b, mob P pA pc vars fuel every x ⟨hA, hc, hB, hd, LA, lc, O1, cs, CA, cc, O2, evs, EA, ec, O3⟩) :: (O1 ++ (O2 ++ (O3 ++ H)))) F' w') (fun m => m) (vars) ?_ (by conv=>lhs;whnf) (by conv=>lhs;whnf) ?_
 ·exact ⟨.nil, zs, 200, F, by simp [TA.len], hzs, rfl, rfl, by simp [TA.len], by omega, (by show varsX x.h vars 0 200 = (varsX x.h vars 0 200).map _; cases varsX x.h vars 0 200 <;> rfl), fun _ h => h, fun _ _ => trivial, hS⟩
 clear hS
 rintro m _ _ w6 jv ⟨D', rs, li, F', hDm, hrs, rfl, rfl, hli0, hli, hvm, hFF', hAR, hS⟩ ih
 have hD4 := tcsL_len D'
 have hok' := hok.mono hFF'
 cases m with
 | zero =>
  obtain rfl : rs = [] := List.eq_nil_of_length_eq_zero (by simpa using hrs)
  have hvm2 : varsX x.h vars 0 200 = some (D'.ts, li) := by
   rw [hvm]
   show some (D'.ts.app .nil, li) = _
   rw [Ts.app_nil]
  have hnd := (varsX_nodes _ _ _ _ _ _ hvm2).1
  have hDl : D'.len = vars := by omega
  have hArA : ∀ w', St M w0 ((g, .cells (tcsL D' ++ []).toArray 39) :: (b, mob P pA pc vars fuel every x ⟨hA, hc, hB, hd, LA, lc, O1, cs, CA, cc, O2, evs, EA, ec, O3⟩) :: (O1 ++ (O2 ++ (O3 ++ H)))) F' w' → ArA (some ⟨g, 0, none⟩) vars D' w' := fun w' hS => by
   refine ⟨by omega, fun _ => ⟨g, 0, rfl, segA_of (hS.und hAR) fun j x hj => ?_⟩⟩
   rw [cell_own (hS.own (g, _) (.head _)), Nat.zero_add, List.append_nil]; exact hj
  have hrow3 : Row 121 2 (.slice EA evs.length ec) evs.length (evL evs) O3 := hok'.row3
  have hlev : evs.length = x.ev.length := by
   have : evs.map (fun e => e.T.ts) = x.ev := hok.he
   rw [← this]; simp
  refine ZI ?_
  refine Zs ?_
  replace hS := hS.swap
  refine goes_draw (St _ w0 [_] []) 12 ((0, true) :: (1, true) :: (2, true) :: (3, true) :: (4, true) :: (5, true) :: (6, false) :: (7, true) :: (8, false) :: (9, false) :: (10, true) :: (11, true) :: []) (by kernel_rfl) (by kernel_rfl) (hS.drew.bare1) ?_
  replace hS := hS.drew
  refine ZA ?_
  refine ZH ?_
  refine ZdX ?_
  refine ZX ?_
  refine ZA ?_
  refine ZM ?_
  have htid := tidy_any D'.ts (.slice (some ⟨g, 0, none⟩) vars vars) _ (by have := (hArA _ hS.swap).sl; rw [hDl] at this; exact this) (by omega)
  refine Zp ?_
  refine Calls.mono htid ?_
  rintro _ w7 ⟨v7, rfl, hsl, hbl⟩
  refine Za ?_
  obtain ⟨A7, c7, L7, rfl, hL7, hS'⟩ := hS.located hbl hsl
  replace hS := hS'
  clear hS'
  refine Za5 ?_
  refine ord_read rfl (fun _ hS => run_build (cells := [_, _]) (.cons (by conv=>lhs;whnf) (.cons (by conv=>lhs;whnf) .nil)) rfl) rfl ?_
  refine ZM ?_
  refine lst_buildSlice (cells := [_, _]) hS (.cons (by conv=>lhs;whnf) .nil) rfl rfl ?_
  clear hS
  intro b1 wx1 hS
  refine Za5 ?_
  refine ZM ?_
  refine lst_app (sz := 2) (bts := 32) hS (by conv=>lhs;whnf) rfl rfl rfl rfl (hrow3) rfl rfl (.cons _ (perm_out [_, _] _ _ _ _)) (by omega) (by omega) rfl ?_
  clear hS
  intro v8 O8 w9 hrow8 hS
  obtain ⟨A8, c8, rfl⟩ := hrow8.form
  replace hS := hS.perm (perm_out [_, _] _ _ _ _).symm
  have hans : answerX vars x = if x.ev.length + 1 = 12 then (6, x.tell D'.ts) else againX (x.tell D'.ts) := by
   unfold answerX; rw [hvm2]
  have hs2 : ∀ w', St M w0 ((b, mob P pA pc vars fuel every (x.tell D'.ts) ⟨hA, hc, hB, hd, LA, lc, O1, cs, CA, cc, O2, evs ++ [⟨A7, c7, L7⟩], A8, c8, O8⟩) :: (g, .cells (tcsL D' ++ []).toArray 39) :: (O1 ++ (O2 ++ (O8 ++ H)))) (ArA A7 c7 L7 :: F') w' → XSt M w0 H F0 b P pA pc vars fuel every (x.tell D'.ts) w' := fun w' hS => by
   refine ⟨⟨hA, hc, hB, hd, LA, lc, O1, cs, CA, cc, O2, evs ++ [⟨A7, c7, L7⟩], A8, c8, O8⟩, _, fun φ h => .tail _ (hFF' φ (hFF φ h)), ?_, hS.swap.drop⟩
   have ho := hok'.mono (F' := ArA A7 c7 L7 :: F') fun φ h => .tail _ h
   refine ⟨ho.hh, ho.row1, ho.hc, ho.rc, ho.row2, ?_, ?_, ?_, ho.rp⟩
   ·show (evs ++ [LE.mk A7 c7 L7]).map _ = _
    rw [List.map_append, show evs.map (fun e => e.T.ts) = x.ev from ho.he]; simp [hL7, XS.tell]
   ·intro e he
    rcases List.mem_append.1 he with he | he
    ·exact ho.re e he
    ·obtain rfl : e = ⟨A7, c7, L7⟩ := by simpa using he
     exact Und.head
   ·show Row _ _ (.slice A8 (evs ++ [LE.mk A7 c7 L7]).length c8) (evs ++ [LE.mk A7 c7 L7]).length (evL (evs ++ [LE.mk A7 c7 L7])) _
    rw [evL_app, List.length_append]; exact hrow8
  have hb2 : XBd (x.tell D'.ts) := ⟨hbd.ln, hbd.cn, hbd.ch⟩
  have hlen1 : (evs ++ [LE.mk A7 c7 L7]).length = evs.length + 1 := by simp
  by_cases h12 : x.ev.length + 1 = 12
  ·rw [if_pos h12] at hans
   rw [hans]
   refine Za5 ?_
   refine Zbk ?_
   refine ZdX ?_
   refine Zcv ?_
   clear hS
   intro wx2 hS
   refine Zu ?_
   refine Z9 ?_
   refine lst_run (run_fieldAddr (off := 10) rfl rfl) rfl ?_
   refine ZbD ?_
   refine Zl ?_
   refine ZK ?_
   refine goes_ret1 Try.func98 rfl (by conv=>lhs;whnf) ?_
   exact ⟨rfl, hs2 _ (by dsimp only [mob, mcs]; rw [hlen1]; exact hS)⟩
  ·rw [if_neg h12] at hans
   rw [hans]
   refine Za5 ?_
   refine Zbk ?_
   refine ZdX ?_
   refine Zcv ?_
   clear hS
   intro wx2 hS
   refine Zu ?_
   refine Z9 ?_
   refine lst_run (run_fieldAddr (off := 10) rfl rfl) rfl ?_
   refine ZbD ?_
   refine Zl ?_
   refine Zr ?_
   refine ZaO ?_
   refine Calls.mono (magain_any _ _ hb2 (hs2 _ (by dsimp only [mob, mcs]; rw [hlen1]; exact hS))) ?_
   rintro _ w9 ⟨rfl, hq⟩
   refine ZV ?_
   refine goes_ret1 Try.func98 rfl (by conv=>lhs;whnf) ?_
   exact ⟨rfl, hq⟩
 | succ m =>
  obtain ⟨r0, r1, r2, r3, rs, rfl⟩ : ∃ r0 r1 r2 r3 rs', rs = [r0, r1, r2, r3] ++ rs' := by
   match rs, hrs with
   | r0 :: r1 :: r2 :: r3 :: rs', _ => exact ⟨r0, r1, r2, r3, rs', rfl⟩
   | [], h => simp at h
   | [_], h => simp at h; omega
   | [_, _], h => simp at h; omega
   | [_, _, _], h => simp at h; omega
  have hvs : varsX x.h (m + 1) D'.len li = if (termH x.h (D'.len : Nat) li).2.2 ≠ 0 then none else match varsX x.h m (D'.len + 1) (li - ((termH x.h (D'.len : Nat) li).2.1 : Nat)) with
   | none => none
   | some (T, l'') => some (.cons (termH x.h (D'.len : Nat) li).1.k (termH x.h (D'.len : Nat) li).1.n (termH x.h (D'.len : Nat) li).1.s (termH x.h (D'.len : Nat) li).1.ar T, l'') := rfl
  have htn := (termX_nodes x.h (D'.len : Nat) li).2
  refine Zb0 ?_
  refine ZaA ?_
  refine Z0 ?_
  refine ZO ?_
  refine Z1 ?_
  refine Calls.mono (termH_any x.h (D'.len : Nat) li hA hB hc hd _ hok'.hh hS) ?_
  rintro _ w7 ⟨u2, F2, rfl, hu2, hF2, hru2, hS'⟩
  refine Za ?_
  replace hS := hS'
  clear hS'
  by_cases he : (termH x.h (D'.len : Nat) li).2.2 = 0
  ·rw [if_neg (fun h => h he)] at hvs
   refine ZaV ?_
   refine Z2 ?_
   clear hS
   intro b1 wx1 hS
   refine Zb ?_
   clear hS
   intro wx2 hS
   refine Zby ?_
   refine Zr ?_
   refine Zm ?_
   refine Zex ?_
   refine Zaq ?_
   refine Zes ?_
   clear hS
   intro w8 hS
   refine Zc ?_
   refine ZY ?_
   refine Zae ?_
   refine Zan ?_
   refine ih (m) _ _ _ _ ?_ ?_ (by conv=>lhs;whnf) (by conv=>lhs;whnf) (by kernel_rfl)
   ·omega
   ·refine ⟨D'.app (.cons u2.k u2.n u2.s u2.A u2.c u2.ar .nil), rs, li - ((termH x.h (D'.len : Nat) li).2.1 : Nat), F2, by rw [TA.len_app]; simp only [TA.len]; omega, by simp at hrs; omega, by rw [TA.len_app]; rfl, rfl, by rw [TA.len_app]; simp only [TA.len]; omega, by omega, ?_, fun φ h => hF2 φ (hFF' φ h), ?_, ?_⟩
    ·rw [hvm, hvs, TA.app_ts, TA.len_app]
     show Option.map _ (match varsX x.h m (D'.len + 1) _ with | none => none | some (T, l'') => _) = Option.map _ (varsX x.h m (D'.len + 1) _)
     cases varsX x.h m (D'.len + 1) (li - ((termH x.h (D'.len : Nat) li).2.1 : Nat)) with
     | none => rfl
     | some q =>
      obtain ⟨T, l2⟩ := q
      show some (D'.ts.app _, l2) = some ((D'.ts.app (.cons u2.k u2.n u2.s u2.ar.ts .nil)).app T, l2)
      rw [Ts.app_assoc, ← hu2]; rfl
    ·exact fun w hw => AllR.app (U := .cons u2.k u2.n u2.s u2.A u2.c u2.ar .nil) ⟨hru2 w hw, trivial⟩ ((hAR.mono hF2) w hw)
    ·rw [tcsL_app, List.append_assoc]
     exact hS.drop
  ·rw [if_pos he] at hvs
   rw [hvs] at hvm
   have e : answerX vars x = (4, x) := by unfold answerX; rw [hvm]; rfl
   rw [e]
   refine ZaV ?_
   refine Z2 ?_
   clear hS
   intro b1 wx1 hS
   refine Zb ?_
   clear hS
   intro wx2 hS
   refine Zby ?_
   refine ZK ?_
   refine goes_ret1 Try.func98 rfl (by conv=>lhs;whnf) ?_
   exact ⟨rfl, _, F2, fun φ h => hF2 φ (hFF' φ (hFF φ h)), hok'.mono hF2, hS.drop.drop⟩
end
end Go.Proofs.Ythliapbflkfdiab
namespace Go.Proofs.Ythliapbflkfdiab
open Go.RowKit
set_option linter.unusedVariables false
set_option linter.unusedSimpArgs false
set_option maxRecDepth 100000
set_option maxHeartbeats 1000000
theorem seen_set {S : List Bool} {i : Nat} (h : S[i]? = some false) : (S.set i true).count false + 1 = S.count false := by
 induction S generalizing i with
 | nil => simp at h
 | cons a r ih =>
  cases i with
  | zero => simp at h; subst h; simp
  | succ i =>
   have := ih (i := i) (by simpa using h)
   simp only [List.set_cons_succ, List.count_cons]
   omega
abbrev natsV (V : List Nat) : List Value := intsV (V.map fun (i : Nat) => (i : Int))
def LnOk (L : List XL) : Prop := ∀ l ∈ L, l.nx = -1 ∨ (0 ≤ l.nx ∧ l.nx < L.length)
section
variable {M : List Nat} {w0 : World} {H T : List (Nat × Obj)} {F : List (World → Prop)} {b : Nat} {cz : List Value} {ct : TypeId}
theorem mchain_any (L : List XL) (i : Int) (S : List Bool) (V : List Nat) (f : Nat) (sb zb mb lb : Nat) (VA : Option Addr) (vc : Nat) (Ol : List (Nat × Obj)) (gl : Nat) (sp cs1 cs2 : List Value) (lcap : Nat) (w : World) (hL : LnOk L) (hS1 : S.length = L.length) (hl : L.length ≤ 1000000) (hcs : cs1.length = 7) (hgl : (gl, Obj.cells (xlL L ++ sp).toArray 138) ∈ T) (hLp : 0 < L.length)
  (hi : i = -1 ∨ (0 ≤ i ∧ i < L.length)) (hf : S.count false < f) (hV : V.length + S.count false ≤ L.length) (hrow : Row 3 1 (.slice VA V.length vc) V.length (natsV V) Ol)
  (hS : St M w0 ((sb, .cells #[.slice (some ⟨zb, 0, none⟩) L.length L.length] 43) :: (zb, .cells (boolsV S).toArray 4) :: (mb, .cells #[ptm b] 112) :: (lb, .cells #[.slice VA V.length vc] 23) :: (b, .cells (cs1 ++ .slice (some ⟨gl, 0, none⟩) L.length lcap :: cs2).toArray 119) :: (Ol ++ T)) F w) :
  Calls Try.prog 119 #[.int .i64 i, .pointer (some ⟨sb, 0, none⟩), .pointer (some ⟨mb, 0, none⟩), .pointer (some ⟨lb, 0, none⟩)] w fun e w' => e = .returned (.tuple #[]) ∧ ∃ (VA' : Option Addr) (vc' : Nat) (Ol' : List (Nat × Obj)), (chainX L f i (S, V)).1.length = L.length ∧ (chainX L f i (S, V)).2.length + (chainX L f i (S, V)).1.count false ≤ L.length ∧ Row 3 1 (.slice VA' (chainX L f i (S, V)).2.length vc') (chainX L f i (S, V)).2.length (natsV (chainX L f i (S, V)).2) Ol' ∧
   St M w0 ((sb, .cells #[.slice (some ⟨zb, 0, none⟩) L.length L.length] 43) :: (zb, .cells (boolsV (chainX L f i (S, V)).1).toArray 4) :: (mb, .cells #[ptm b] 112) :: (lb, .cells #[.slice VA' (chainX L f i (S, V)).2.length vc'] 23) :: (b, .cells (cs1 ++ .slice (some ⟨gl, 0, none⟩) L.length lcap :: cs2).toArray 119) :: (Ol' ++ T)) F w' := by
 obtain ⟨c0, c1, c2, c3, c4, c5, c6, rfl⟩ : ∃ c0 c1 c2 c3 c4 c5 c6, cs1 = [c0, c1, c2, c3, c4, c5, c6] := by
  match cs1, hcs with
  | [c0, c1, c2, c3, c4, c5, c6], _ => exact ⟨c0, c1, c2, c3, c4, c5, c6, rfl⟩
 refine goes_enter4 Try.func119 rfl Try.ntmps119 rfl ?_
 refine Z5 ?_
 refine goes_loop1 0 (5 :: 6 :: 7 :: 8 :: 9 :: 10 :: 11 :: 12 :: 13 :: 22 :: 23 :: 24 :: 25 :: 26 :: 27 :: 28 :: 14 :: 15 :: 16 :: 17 :: 18 :: 19 :: 20 :: 21 :: []) (fun (y : List Bool × List Nat) v w' => ∃ (j : Int) (f' : Nat) (VA : Option Addr) (vc : Nat) (Ol : List (Nat × Obj)), v = .int .i64 j ∧ y.1.length = L.length ∧ (j = -1 ∨ (0 ≤ j ∧ j < L.length)) ∧ y.1.count false < f' ∧ y.2.length + y.1.count false ≤ L.length ∧ chainX L f i (S, V) = chainX L f' j y ∧ Row 3 1 (.slice VA y.2.length vc) y.2.length (natsV y.2) Ol ∧ St M w0 ((sb, .cells #[.slice (some ⟨zb, 0, none⟩) L.length L.length] 43) :: (zb, .cells (boolsV y.1).toArray 4) :: (mb, .cells #[ptm b] 112) :: (lb, .cells #[.slice VA y.2.length vc] 23) :: (b, .cells ([c0, c1, c2, c3, c4, c5, c6] ++ .slice (some ⟨gl, 0, none⟩) L.length lcap :: cs2).toArray 119) :: (Ol ++ T)) F w') (fun y => y.1.count false) ((S, V)) ?_ (by conv=>lhs;whnf) ?_
 ·exact ⟨i, f, VA, vc, Ol, rfl, hS1, hi, hf, hV, rfl, hrow, hS⟩
 clear hS hrow hV hf hi hS1
 rintro ⟨S1, V1⟩ _ w2 jv ⟨j, f', VA1, vc1, Ol1, rfl, hS1, hi, hf, hV, hch, hrow, hS⟩ ih
 dsimp only at hS1 hf hV hrow hS
 obtain ⟨f', rfl⟩ : ∃ k, f' = k + 1 := ⟨f' - 1, by omega⟩
 have hun : chainX L (f' + 1) j (S1, V1) = if j = -1 then (S1, V1) else if S1[j.toNat]? = some true then (S1, V1) else chainX L f' (lnk L j.toNat).nx (S1.set j.toNat true, V1 ++ [j.toNat]) := rfl
 by_cases hj : j = -1
 ·rw [hch, hun, if_pos hj]
  refine ZbE ?_
  refine ZR ?_
  refine Zal ?_
  refine Z6 ?_
  refine Zy ?_
  refine Zbv ?_
  refine goes_end0 Try.func119 rfl ?_
  exact ⟨rfl, VA1, vc1, Ol1, hS1, hV, hrow, hS⟩
 ·have hj0 : 0 ≤ j ∧ j < L.length := hi.resolve_left hj
  obtain ⟨v, hv⟩ : ∃ v, S1[j.toNat]? = some v := ⟨S1[j.toNat]'(by omega), List.getElem?_eq_getElem _⟩
  have hsv : ∀ {M2 H' F'} w', St M2 w0 H' F' w' → (zb, Obj.cells (boolsV S1).toArray 4) ∈ H' → w'.cell? ⟨zb, 0 + j.toNat * 1, none⟩ = some (.bool v) := fun {M2 H' F'} w' (hS : St M2 w0 H' F' w') hm => by
   rw [cell_own (hS.own _ hm)]; simp [boolsV, hv]
  cases v with
  | true =>
   rw [hch, hun, if_neg hj, if_pos hv]
   refine ZbE ?_
   refine ZR ?_
   refine Zo ?_
   refine ZeI ?_
   refine Zk ?_
   refine Zo ?_
   refine Zw ?_
   refine Zk ?_
   refine ZeI ?_
   refine Za1 ?_
   refine Zbv ?_
   refine goes_end0 Try.func119 rfl ?_
   exact ⟨rfl, VA1, vc1, Ol1, hS1, hV, hrow, hS⟩
  | false =>
   have hput := boolsV_put S1 j.toNat true (by omega)
   have hcnt := seen_set hv
   obtain ⟨l0, l1, l2⟩ := xlL_get L j.toNat _ (lnk_get (L := L) (a := j.toNat) (by omega))
   have hll : ∀ {M2 H' F'} w', St M2 w0 H' F' w' → (gl, Obj.cells (xlL L ++ sp).toArray 138) ∈ H' → w'.cell? ⟨gl, 0 + j.toNat * 3 + 2, none⟩ = some (.int .i64 (lnk L j.toNat).nx) := fun {M2 H' F'} w' (hS : St M2 w0 H' F' w') hm => by
    rw [cell_own (hS.own _ hm), Nat.zero_add, List.getElem?_append_left]
    ·exact l2
    ·rw [xlL_len]; omega
   refine ZbE ?_
   refine ZR ?_
   refine Zo ?_
   refine Zbn ?_
   refine Zk ?_
   refine Zo ?_
   refine Zw ?_
   refine Zk ?_
   refine Zbn ?_
   refine Za1 ?_
   refine ZF ?_
   refine Zdu ?_
   refine Zd ?_
   refine Zbn ?_
   refine ZdG ?_
   refine ZcI ?_
   clear hS
   intro w5 hS
   refine Zc ?_
   refine ZaD ?_
   refine Zbn ?_
   refine Zg ?_
   refine ZaT ?_
   clear hS
   intro b1 wx1 hS
   refine lst_app (sz := 1) (bts := 8) hS (by conv=>lhs;whnf) rfl rfl rfl rfl (hrow) rfl rfl (.cons _ (List.perm_append_comm_assoc [_, _, _, _, _] Ol1 T)) (by omega) (by omega) rfl ?_
   clear hS
   intro v8 O8 w8 hrow8 hS
   obtain ⟨A8, c8, rfl⟩ := hrow8.form
   replace hS := hS.perm (List.perm_append_comm_assoc O8 [_, _, _, _, _] T)
   refine ZQ ?_
   clear hS
   intro wx2 hS
   refine Zc ?_
   refine Zdx ?_
   refine Zbn ?_
   refine ZB ?_
   refine ZcM ?_
   refine Zbn ?_
   refine Zg ?_
   refine ZS ?_
   refine Zai ?_
   refine Zbn ?_
   refine Zf ?_
   have hnx := hL _ (List.mem_of_getElem? (lnk_get (L := L) (a := j.toNat) (by omega)))
   refine ih ((S1.set j.toNat true, V1 ++ [j.toNat])) _ _ _ ?_ ?_ (by conv=>lhs;whnf) (by kernel_rfl)
   ·show (S1.set j.toNat true).count false < S1.count false
    omega
   ·refine ⟨_, f', A8, c8, O8, rfl, by simpa using hS1, hnx, by show (S1.set j.toNat true).count false < f'; omega, by show (V1 ++ [j.toNat]).length + (S1.set j.toNat true).count false ≤ _; simp only [List.length_append, List.length_cons, List.length_nil]; omega, ?_, ?_, ?_⟩
    ·rw [hch, hun, if_neg hj, if_neg (by rw [hv]; simp)]
    ·have : natsV (V1 ++ [j.toNat]) = natsV V1 ++ [.int .i64 j] := by simp [natsV, intsV, Int.toNat_of_nonneg hj0.1]
     show Row _ 1 (.slice A8 (V1 ++ [j.toNat]).length c8) (V1 ++ [j.toNat]).length (natsV (V1 ++ [j.toNat])) O8
     rw [this, List.length_append]; exact hrow8
    ·show St M w0 (_ :: _ :: _ :: (lb, .cells #[.slice A8 (V1 ++ [j.toNat]).length c8] _) :: _) F _
     rw [List.length_append]; exact hS
end
end Go.Proofs.Ythliapbflkfdiab
namespace Go.Proofs.Ythliapbflkfdiab
open Go.RowKit
set_option linter.unusedVariables false
set_option linter.unusedSimpArgs false
set_option maxRecDepth 100000
set_option maxHeartbeats 1000000
theorem St.freezeRow {M : List Nat} {w0 w : World} {H O : List (Nat × Obj)} {F : List (World → Prop)} {el sz len c : Nat} {A : Option Addr} {xs : List Value} (hr : Row el sz (.slice A len c) len xs O) (hS : St M w0 (O ++ H) F w) :
  ∃ F', (∀ φ ∈ F, φ ∈ F') ∧ Und F' (Flat sz xs A len c) ∧ St M w0 H F' w := by
 obtain ⟨F', h1, h2, h3⟩ := St.freezeL hS
 refine ⟨F', h1, fun w' hw' => ⟨hr.len_, hr.cap, fun hl => ?_⟩, h3⟩
 obtain ⟨g, sp, rfl, rfl, _⟩ := hr.some_ hl
 refine ⟨g, 0, rfl, fun j u hu => ?_⟩
 have hjl : j < xs.length := by
  rcases Nat.lt_or_ge j xs.length with hh | hh
  ·exact hh
  ·rw [List.getElem?_eq_none hh] at hu; cases hu
 rw [cell_own (h2 _ (.head _) w' hw'), Nat.zero_add, List.getElem?_append_left hjl]; exact hu
section
variable {M : List Nat} {w0 : World} {H : List (Nat × Obj)} {F0 : List (World → Prop)} {b : Nat} {P : List LB} {pA : Option Addr} {pc vars fuel every : Nat}
theorem mlive_any (x : XS) (w : World) (hbd : XBd x) (hL : LnOk x.ln) (hLp : 0 < x.ln.length) (hf : x.first = -1 ∨ (0 ≤ x.first ∧ x.first < x.ln.length)) (hs : XSt M w0 H F0 b P pA pc vars fuel every x w) :
  Calls Try.prog 109 #[ptm b] w fun e w' => ∃ (A : Option Addr) (c : Nat) (F1 : List (World → Prop)), e = .returned (.slice A (liveX x).length c) ∧ (∀ φ ∈ F0, φ ∈ F1) ∧ Und F1 (Flat 1 (natsV (liveX x)) A (liveX x).length c) ∧ XSt M w0 H F1 b P pA pc vars fuel every x w' := by
 obtain ⟨d, F, hFF, hok, hS⟩ := hs
 obtain ⟨hA, hc, hB, hd, LA, lc, O1, cs, CA, cc, O2, evs, EA, ec, O3⟩ := d
 have hrow1 : Row 138 3 (.slice LA x.ln.length lc) x.ln.length (xlL x.ln) O1 := hok.row1
 obtain ⟨gl, sp, rfl, rfl, hcap⟩ := hrow1.some_ hLp
 have hln := hbd.ln
 have hcn := hbd.cn
 have hcs : cs.map LX.xc = x.ch := hok.hc
 have hlc : cs.length = x.ch.length := by rw [← hcs]; simp
 have hrow2 : Row 144 4 (.slice CA cs.length cc) cs.length (xcL cs.reverse) O2 := hok.row2
 have hct : (List.replicate x.ln.length false).count false < x.ln.length + 1 := by simp
 refine goes_enter1 Try.func109 rfl Try.ntmps109 rfl ?_
 refine Ze ?_
 clear hS
 intro b1 wx1 hS
 refine Zbt ?_
 refine Zc6 ?_
 clear hS
 intro b2 wx2 hS
 refine Zcc ?_
 refine Zt ?_
 refine ZB ?_
 refine ZcM ?_
 refine ZbD ?_
 refine lst_makeZ (k := x.ln.length) (bts := 1) (z := .bool false) hS (by conv=>lhs;whnf) (by conv=>lhs;whnf) rfl rfl rfl rfl (by omega) (by omega) rfl ?_
 clear hS
 intro zb w2 hS
 refine Zc6 ?_
 clear hS
 intro b3 wx3 hS
 refine ZQ ?_
 clear hS
 intro wx4 hS
 refine Zcc ?_
 refine lst_run (run_makeFunc args_nil (args_3 (by conv=>lhs;whnf) (by conv=>lhs;whnf) (by conv=>lhs;whnf))) rfl ?_
 refine Zaa ?_
 refine Zt ?_
 refine Zcz ?_
 refine Zt ?_
 rw [show List.replicate x.ln.length (Value.bool false) = boolsV (List.replicate x.ln.length false) by simp [boolsV]] at hS
 replace hS := hS.perm (.cons _ (.cons _ (.swap _ _ _)))
 refine ZcE ?_
 refine Calls.mono (mchain_any (T := ([(gl, .cells (xlL x.ln ++ sp).toArray 138)] ++ (O2 ++ (O3 ++ H)))) x.ln x.first (List.replicate x.ln.length false) [] (x.ln.length + 1) b3 zb b1 b2 none 0 [] gl sp [.slice hA x.h.cs.length hc, .slice hB x.h.tr.length hd, .slice pA P.length pc, .int .i64 (vars : Nat), .int .i64 (fuel : Nat), .int .i64 (x.goals : Nat), .int .i64 (every : Nat)] [.int .i64 x.first, .slice CA cs.length cc, .slice EA evs.length ec] lc _ hL (by simp) (by omega) rfl (by simp) hLp hf hct (by simp) Row.nil_ hS) ?_
 rintro _ w5 ⟨rfl, VA1, vc1, Ol1, hn1, hn2, hrow, hS'⟩
 refine Za ?_
 replace hS := hS'
 clear hS'
 have hlv : liveX x = (chainsX x.ln (cs.reverse.map LX.xc) (chainX x.ln (x.ln.length + 1) x.first (List.replicate x.ln.length false, []))).2 := by
  unfold liveX; rw [← hcs, List.map_reverse]
 generalize hp0 : chainX x.ln (x.ln.length + 1) x.first (List.replicate x.ln.length false, []) = p0 at *
 refine Zu ?_
 refine Zd ?_
 refine Zt ?_
 refine ZB ?_
 refine Za7 ?_
 refine Zt ?_
 refine ZJ ?_
 refine goes_loop1 26 (27 :: 28 :: 29 :: 7 :: 30 :: 31 :: 32 :: 33 :: 34 :: []) (fun (R : List LX) v w' => ∃ (D : List LX) (p : List Bool × List Nat) (VA : Option Addr) (vc : Nat) (Ol : List (Nat × Obj)), cs.reverse = D ++ R ∧ v = .int .i64 (D.length : Nat) ∧ p.1.length = x.ln.length ∧ p.2.length + p.1.count false ≤ x.ln.length ∧ chainsX x.ln (cs.reverse.map LX.xc) p0 = chainsX x.ln (R.map LX.xc) p ∧ Row 3 1 (.slice VA p.2.length vc) p.2.length (natsV p.2) Ol ∧ St M w0 ((b3, .cells #[.slice (some ⟨zb, 0, none⟩) x.ln.length x.ln.length] 43) :: (zb, .cells (boolsV p.1).toArray 4) :: (b1, .cells #[ptm b] 112) :: (b2, .cells #[.slice VA p.2.length vc] 23) :: (b, .cells (([.slice hA x.h.cs.length hc, .slice hB x.h.tr.length hd, .slice pA P.length pc, .int .i64 (vars : Nat), .int .i64 (fuel : Nat), .int .i64 (x.goals : Nat), .int .i64 (every : Nat)] : List Value) ++ (Value.slice (some ⟨gl, 0, none⟩) x.ln.length lc :: ([.int .i64 x.first, .slice CA cs.length cc, .slice EA evs.length ec] : List Value))).toArray 119) :: (Ol ++ ([(gl, .cells (xlL x.ln ++ sp).toArray 138)] ++ (O2 ++ (O3 ++ H))))) F w') (fun R => R.length) (cs.reverse) ?_ (by conv=>lhs;whnf) ?_
 ·exact ⟨[], p0, VA1, vc1, Ol1, rfl, rfl, hn1, hn2, rfl, hrow, hS⟩
 clear hS hrow hn1 hn2
 rintro R _ w6 jv ⟨D, p, VA2, vc2, Ol2, hDR, rfl, hn1, hn2, hch, hrow, hS⟩ ih
 have hlen : cs.length = D.length + R.length := by
  have := congrArg List.length hDR
  simpa using this
 cases R with
 | nil =>
  simp only [List.length_nil] at hlen
  have e : liveX x = p.2 := by rw [hlv, hch]; rfl
  rw [e]
  refine ZI ?_
  refine Zd ?_
  refine Zb5 ?_
  refine goes_ret1 Try.func109 rfl (by conv=>lhs;whnf) ?_
  obtain ⟨F', h1, h2, h3⟩ := St.freezeRow (H := (b, mob P pA pc vars fuel every x ⟨hA, hc, hB, hd, some ⟨gl, 0, none⟩, lc, [(gl, .cells (xlL x.ln ++ sp).toArray 138)], cs, CA, cc, O2, evs, EA, ec, O3⟩) :: ([(gl, .cells (xlL x.ln ++ sp).toArray 138)] ++ (O2 ++ (O3 ++ H)))) hrow (hS.drop.drop.drop.drop.perm List.perm_middle.symm)
  exact ⟨VA2, vc2, F', rfl, fun φ h => h1 φ (hFF φ h), h2, _, F', fun _ h => h, hok.mono h1, h3⟩
 | cons c R =>
  simp only [List.length_cons] at hlen
  have hcm : c ∈ cs := List.mem_reverse.1 (by rw [hDR]; simp)
  have hca : c.at_ < x.ln.length := (hbd.ch c.xc (by rw [← hcs]; exact List.mem_map.2 ⟨c, hcm, rfl⟩)).1
  obtain ⟨k0, k1, k2, k3⟩ := xcL_get cs.reverse D.length c (by rw [hDR]; simp)
  obtain ⟨gc, sp2, rfl, rfl, hcap2⟩ := hrow2.some_ (by omega)
  have hcl : ∀ {M2 H' F'} w', St M2 w0 H' F' w' → (gc, Obj.cells (xcL cs.reverse ++ sp2).toArray 144) ∈ H' → _ := fun {M2 H' F'} w' (hS : St M2 w0 H' F' w') hm => And.intro (Row.cell (w := w') hrow2 hS (by intro p hp; obtain rfl := List.mem_singleton.1 hp; exact hm) rfl k0) (And.intro (Row.cell (w := w') hrow2 hS (by intro p hp; obtain rfl := List.mem_singleton.1 hp; exact hm) rfl k1) (And.intro (Row.cell (w := w') hrow2 hS (by intro p hp; obtain rfl := List.mem_singleton.1 hp; exact hm) rfl k2) (Row.cell (w := w') hrow2 hS (by intro p hp; obtain rfl := List.mem_singleton.1 hp; exact hm) rfl k3)))
  have hct2 : p.1.count false < x.ln.length + 1 := by have := List.count_le_length (a := false) (l := p.1); omega
  refine Zbp ?_
  refine Zaq ?_
  refine ZcO ?_
  refine Z2 ?_
  clear hS
  intro b4 wx5 hS
  refine Zb ?_
  clear hS
  intro wx6 hS
  refine Zc ?_
  refine Zag ?_
  refine ZL ?_
  refine ZcN ?_
  refine ZcE ?_
  refine Calls.mono (mchain_any (T := ([(gl, .cells (xlL x.ln ++ sp).toArray 138)] ++ ([(gc, .cells (xcL cs.reverse ++ sp2).toArray 144)] ++ (O3 ++ H)))) x.ln (c.at_ : Nat) p.1 p.2 (x.ln.length + 1) b3 zb b1 b2 VA2 vc2 Ol2 gl sp [.slice hA x.h.cs.length hc, .slice hB x.h.tr.length hd, .slice pA P.length pc, .int .i64 (vars : Nat), .int .i64 (fuel : Nat), .int .i64 (x.goals : Nat), .int .i64 (every : Nat)] [.int .i64 x.first, .slice (some ⟨gc, 0, none⟩) cs.length cc, .slice EA evs.length ec] lc _ hL hn1 (by omega) rfl (by simp) hLp (.inr ⟨by omega, by omega⟩) hct2 hn2 hrow hS.drop) ?_
  rintro _ w7 ⟨rfl, VA3, vc3, Ol3, hm1, hm2, hrow3, hS'⟩
  refine Za ?_
  replace hS := hS'
  clear hS'
  refine Zah ?_
  refine ih (R) _ _ _ ?_ ?_ (by conv=>lhs;whnf) (by kernel_rfl)
  ·simp
  ·exact ⟨D ++ [c], chainX x.ln (x.ln.length + 1) (c.at_ : Nat) p, VA3, vc3, Ol3, by rw [hDR]; simp, by simp, hm1, hm2, hch, hrow3, hS⟩
end
end Go.Proofs.Ythliapbflkfdiab
