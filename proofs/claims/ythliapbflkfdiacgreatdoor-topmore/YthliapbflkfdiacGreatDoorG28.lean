/- Steps of the proof. -/
import Derived.Test.YthliapbflkfdiacGreatDoorG27
namespace Go.Proofs.YthliapbflkfdiacGreatDoor
open Go.RowKit
set_option linter.unusedVariables false
set_option linter.unusedSimpArgs false
set_option maxRecDepth 100000
set_option maxHeartbeats 1000000
section
variable {M : List Nat} {w0 : World} {H : List (Nat × Obj)} {F0 : List (World → Prop)} {b : Nat} {P : List LB} {pA : Option Addr} {pc vars fuel every : Nat}
theorem Qlk (x : XS) (l : XL) (z : HC) (w : World) (hbd : XBd x) (hz : hat x.h.cs l.g = some z) (hlo : l.o ≤ x.ch.length) (hlen : x.h.cs.length ≤ 65536) (hld : z.s.toList = [108, 101, 115, 115] ∨ z.s.toList = [97, 100, 100] → QgC x.h (l.g + 1) ∧ QgC x.h (l.g + 1 + 1)) (hs : XSt M w0 H F0 b P pA pc vars fuel every x w) :
  Calls Tryz.prog 58 #[ptm b, .agg (QuF l).toArray] w fun e w' => e = .returned (.int .i64 (QfC l x).1) ∧ XSt M w0 H F0 b P pA pc vars fuel every (QfC l x).2 w' := by
 obtain ⟨d, F, hFF, hok, hS⟩ := hs
 obtain ⟨hA, hc, hB, hd, LA, lc, O1, cs, CA, cc, O2, evs, EA, ec, O3⟩ := d
 have hgz : Qbi x.h l.g = z := by unfold Qbi; rw [hz]; rfl
 have hbm : QfC l x = if z.s.toList = [33] then (0, ⟨x.h, x.goals, x.ln, x.first, x.ch.drop (x.ch.length - l.o), x.ev⟩)
  else if z.s.toList = [116, 114, 117, 101] then (0, x) else if z.s.toList = [101, 113] then Qfw (l.g + 1) (l.g + 1 + 1) x
  else if z.s.toList = [108, 101, 115, 115] then QmH (l.g + 1) x else if z.s.toList = [97, 100, 100] then Quw (l.g + 1) x else Qd3 x := by
  unfold QfC; rw [hgz]
 obtain ⟨z0, z1, z2⟩ := Qba.1 hz
 obtain ⟨hb_, ho_, rfl⟩ : ∃ b o, hA = some ⟨b, o, none⟩ := (hS.und hok.hh).1.some_ (by show 0 < x.h.cs.length; omega)
 have hcell : ∀ {H'} w', St M w0 H' F w' → _ := fun w' hS => ((hS.und hok.hh).1).cell z2
 have hxs : ∀ w', St M w0 ((b, mob P pA pc vars fuel every x ⟨some ⟨hb_, ho_, none⟩, hc, hB, hd, LA, lc, O1, cs, CA, cc, O2, evs, EA, ec, O3⟩) :: (O1 ++ (O2 ++ (O3 ++ H)))) F w' → XSt M w0 H F0 b P pA pc vars fuel every x w' := fun w' h => ⟨_, F, hFF, hok, h⟩
 have hlc : cs.length = x.ch.length := by
  have : cs.map LX.xc = x.ch := hok.hc
  rw [← this]; simp
 have hcn := hbd.cn
 refine Qg Tryz.func58 rfl Tryz.ntmps58 rfl ?_
 by_cases h1 : z.s.toList = [33]
 ·rw [if_pos h1] at hbm
  rw [hbm]
  have e1 := (QaI [33]).1 h1
  have hrow2 : Row 151 4 (.slice CA cs.length cc) cs.length (xcL cs.reverse) O2 := hok.row2
  have hcap := hrow2.cap
  have hcut := hrow2.cut (m := l.o) Ya
  dsimp only [mob, mcs] at hS
  refine Zi ?_
  clear hS
  intro b1 wx1 hS
  refine Zdr ?_
  replace hS := hS.drew
  refine Zds ?_
  refine ZcW ?_
  refine ZI ?_
  refine Zu ?_
  refine Zfn ?_
  replace hS := hS.drew
  refine Zcv ?_
  refine ZcP ?_
  refine Zd5 ?_
  refine Zdx ?_
  refine Zd5 ?_
  refine Qd rfl (fun _ hS => QM (sz := 4) rfl rfl rfl rfl Ya Ya) rfl ?_
  refine ZaO ?_
  refine ZcP ?_
  refine ZbE ?_
  clear hS
  intro wx2 hS
  refine Zbo ?_
  refine ZcQ ?_
  refine ⟨rfl, ⟨some ⟨hb_, ho_, none⟩, hc, hB, hd, LA, lc, O1, cs.drop (cs.length - l.o), CA, cc, O2, evs, EA, ec, O3⟩, F, hFF, ?_, ?_⟩
  ·have e2 : (cs.drop (cs.length - l.o)).length = l.o := by simp; omega
   refine ⟨hok.hh, hok.row1, ?_, fun c hc => hok.rc c (List.mem_of_mem_drop hc), ?_, hok.he, hok.re, hok.row3, hok.rp⟩
   ·show (cs.drop (cs.length - l.o)).map LX.xc = x.ch.drop (x.ch.length - l.o)
    rw [← show cs.map LX.xc = x.ch from hok.hc, List.map_drop]; simp
   ·show Row _ _ (.slice CA (cs.drop (cs.length - l.o)).length cc) (cs.drop (cs.length - l.o)).length _ _
    rw [e2]
    have e3 : (xcL cs.reverse).take (l.o * 4) = xcL (cs.drop (cs.length - l.o)).reverse := by
     have e4 : cs.reverse = (cs.drop (cs.length - l.o)).reverse ++ (cs.take (cs.length - l.o)).reverse := by rw [← List.reverse_append, List.take_append_drop]
     rw [e4, Qmb, List.take_append_of_le_length (by rw [Qcy]; simp; omega), List.take_of_length_le (by rw [Qcy]; simp; omega)]
    rw [← e3]; exact hcut
  ·have e2 : (cs.drop (cs.length - l.o)).length = l.o := by simp; omega
   dsimp only [mob, mcs] at hS ⊢
   rw [e2]; exact hS.drop
 rw [if_neg h1] at hbm
 have e1 : z.s ≠ ⟨#[33]⟩ := fun h => h1 ((QaI [33]).2 h)
 by_cases h2 : z.s.toList = [116, 114, 117, 101]
 ·rw [if_pos h2] at hbm
  rw [hbm]
  have e2 := (QaI [116, 114, 117, 101]).1 h2
  refine Zi ?_
  clear hS
  intro b1 wx1 hS
  refine Zdr ?_
  replace hS := hS.drew
  refine Zds ?_
  refine ZdZ ?_
  refine ZcW ?_
  refine ZI ?_
  refine Zj ?_
  refine ZcQ ?_
  exact ⟨rfl, hxs _ hS.drop⟩
 rw [if_neg h2] at hbm
 have e2 : z.s ≠ ⟨#[116, 114, 117, 101]⟩ := fun h => h2 ((QaI [116, 114, 117, 101]).2 h)
 by_cases h3 : z.s.toList = [101, 113]
 ·rw [if_pos h3] at hbm
  rw [hbm]
  have e3 := (QaI [101, 113]).1 h3
  refine Zi ?_
  clear hS
  intro b1 wx1 hS
  refine Zdr ?_
  replace hS := hS.drew
  refine Zds ?_
  refine Zdt ?_
  refine ZcW ?_
  refine ZI ?_
  refine ZcA ?_
  refine Zai ?_
  refine Calls.mono (Qi9 x (l.g + 1) (l.g + 1 + 1) _ hbd (hxs _ hS.drop)) ?_
  rintro _ w5 ⟨rfl, hq⟩
  refine ZH ?_
  refine ZcQ ?_
  exact ⟨rfl, hq⟩
 rw [if_neg h3] at hbm
 have e3 : z.s ≠ ⟨#[101, 113]⟩ := fun h => h3 ((QaI [101, 113]).2 h)
 by_cases h4 : z.s.toList = [108, 101, 115, 115]
 ·rw [if_pos h4] at hbm
  rw [hbm]
  have e4 := (QaI [108, 101, 115, 115]).1 h4
  obtain ⟨l1, l2⟩ := hld (.inl h4)
  refine Zi ?_
  clear hS
  intro b1 wx1 hS
  refine Zdr ?_
  replace hS := hS.drew
  refine Zds ?_
  refine Zdt ?_
  refine ZdZ ?_
  refine ZcW ?_
  refine ZI ?_
  refine Zac ?_
  refine Calls.mono (Qqy x (l.g + 1) _ hbd Ya l1 l2 hlen (hxs _ hS.drop)) ?_
  rintro _ w5 ⟨rfl, hq⟩
  refine ZH ?_
  refine ZcQ ?_
  exact ⟨rfl, hq⟩
 rw [if_neg h4] at hbm
 have e4 : z.s ≠ ⟨#[108, 101, 115, 115]⟩ := fun h => h4 ((QaI [108, 101, 115, 115]).2 h)
 by_cases h5 : z.s.toList = [97, 100, 100]
 ·rw [if_pos h5] at hbm
  rw [hbm]
  have e5 := (QaI [97, 100, 100]).1 h5
  obtain ⟨l1, l2⟩ := hld (.inr h5)
  refine Zi ?_
  clear hS
  intro b1 wx1 hS
  refine Zdr ?_
  replace hS := hS.drew
  refine Zds ?_
  refine Zdt ?_
  refine Zdt ?_
  refine ZcW ?_
  refine ZI ?_
  refine Zac ?_
  refine Calls.mono (Qsx x (l.g + 1) _ hbd Ya l1 l2 hlen (hxs _ hS.drop)) ?_
  rintro _ w5 ⟨rfl, hq⟩
  refine ZH ?_
  refine ZcQ ?_
  exact ⟨rfl, hq⟩
 rw [if_neg h5] at hbm
 have e5 : z.s ≠ ⟨#[97, 100, 100]⟩ := fun h => h5 ((QaI [97, 100, 100]).2 h)
 rw [hbm]
 refine Zi ?_
 clear hS
 intro b1 wx1 hS
 refine Zdr ?_
 replace hS := hS.drew
 refine Zds ?_
 refine Zdt ?_
 refine Zdt ?_
 refine ZdZ ?_
 refine ZbD ?_
 refine ZG ?_
 refine Calls.mono (Qec x _ hbd (hxs _ hS.drop)) ?_
 rintro _ w5 ⟨rfl, hq⟩
 refine ZH ?_
 refine ZcQ ?_
 exact ⟨rfl, hq⟩
end
section
variable {M : List Nat} {w0 : World} {H : List (Nat × Obj)} {F : List (World → Prop)}
theorem Qiw (z : HC) (w : World) (h0 : 0 ≤ z.n) (h1 : z.n ≤ 1000000) (hS : St M w0 H F w) :
  Calls Tryz.prog 57 #[.agg (hcs z).toArray] w fun e w' => e = .returned (.bool (QaG z.s.toList z.n.toNat)) ∧ St M w0 H F w' := by
 obtain ⟨zk, zn, zs⟩ := z
 dsimp only at h0 h1
 obtain ⟨k, rfl⟩ := Int.eq_ofNat_of_zero_le h0
 refine Qh Tryz.func57 rfl Tryz.ntmps57 rfl ?_
 refine Zi ?_
 clear hS
 intro b1 wx1 hS
 refine Z0 ?_
 refine QB (St _ _ _ _) 8 ((0, true) :: (1, true) :: (2, true) :: (3, true) :: (4, false) :: (5, true) :: (6, false) :: (7, true) :: []) Yc Yc (hS.drew) ?_
 replace hS := hS.drew
 refine ZbR ?_
 refine ZB ?_
 refine ZeK ?_
 refine Zp ?_
 refine QgP (sz := 4) (bts := 56) hS rfl rfl rfl rfl Ya Ya rfl ?_
 clear hS
 intro g w2 cs hcs hS
 refine Zcf ?_
 refine Qd rfl (fun _ hS => QN (cells := [_, _, _, _]) (.cons Yb (.cons Yb .nil)) rfl) rfl ?_
 refine Zp ?_
 refine Zk ?_
 refine Calls.mono (QeV 0 0 zs (some ⟨g, 0, none⟩) k k _) ?_
 rintro _ w3 ⟨rfl, hb3⟩
 refine Za ?_
 replace hS := hS.grow hb3
 refine Zcf ?_
 refine ZdX ?_
 refine Qc Tryz.func57 rfl Yb ?_
 exact ⟨rfl, hS.drop.drop⟩
end
section
variable {M : List Nat} {w0 : World} {H : List (Nat × Obj)} {F0 : List (World → Prop)} {b : Nat} {P : List LB} {pA : Option Addr} {pc vars fuel every : Nat}
theorem Qo4 (z : HC) (P : List LB) : (P.map LB.cl).filter (fun c => decide (QhS c = z)) = (P.filter (QlJ z)).map LB.cl := by
 rw [List.filter_map]; rfl
theorem QqA (x : XS) (a : Nat) (z : HC) (w : World) (hbd : XBd x) (ha : a < x.ln.length) (hz : hat x.h.cs (lnk x.ln a).g = some z) (hlen : x.h.cs.length ≤ 65536) (htr : x.h.tr.length ≤ 1000000) (hP : ∀ p ∈ P, p.ok ∧ GOk p.cl) (hl : P.length ≤ 24) (hs : XSt M w0 H F0 b P pA pc vars fuel every x w) :
  Calls Tryz.prog 59 #[ptm b, .int .i64 (a : Nat)] w fun e w' => e = .returned (.int .i64 (Qkk (P.map LB.cl) a x).1) ∧ XSt M w0 H F0 b P pA pc vars fuel every (Qkk (P.map LB.cl) a x).2 w' := by
 obtain ⟨d, F, hFF, hok, hS⟩ := hs
 obtain ⟨hA, hc, hB, hd, LA, lc, O1, cs, CA, cc, O2, evs, EA, ec, O3⟩ := d
 have hgz : Qbi x.h (lnk x.ln a).g = z := by unfold Qbi; rw [hz]; rfl
 have hcx : Qkk (P.map LB.cl) a x = match (P.filter (QlJ z)).map LB.cl with
   | [] => (5, x)
   | c :: more => Qph (Qi0 x.ch) a x.h.cs.length x.h.tr.length (c :: more) x := by
  unfold Qkk; rw [hgz, Qo4]; cases P.filter (QlJ z) <;> rfl
 obtain ⟨z0, z1, z2⟩ := Qba.1 hz
 obtain ⟨hb_, ho_, rfl⟩ : ∃ b o, hA = some ⟨b, o, none⟩ := (hS.und hok.hh).1.some_ (by show 0 < x.h.cs.length; omega)
 have hcell : ∀ {H'} w', St M w0 H' F w' → _ := fun w' hS => ((hS.und hok.hh).1).cell z2
 obtain ⟨l0, l1, l2⟩ := QfL x.ln a _ (QeP ha)
 have hrow1 : Row 101 3 (.slice LA x.ln.length lc) x.ln.length (xlL x.ln) O1 := hok.row1
 obtain ⟨gl, sp, rfl, rfl, hcap⟩ := hrow1.some_ Ya
 have hll : ∀ {M2 H' F'} w', St M2 w0 H' F' w' → (gl, Obj.cells (xlL x.ln ++ sp).toArray 101) ∈ H' → _ := fun {M2 H' F'} w' (hS : St M2 w0 H' F' w') hm => Row.cell (w := w') hrow1 hS (by intro p hp; obtain rfl := List.mem_singleton.1 hp; exact hm) rfl l0
 have hln := hbd.ln
 refine Qg Tryz.func59 rfl Tryz.ntmps59 rfl ?_
 refine Zc2 ?_
 refine Zfe ?_
 replace hS := hS.drew
 refine ZT ?_
 refine ZaC ?_
 refine Zax ?_
 refine ZdS ?_
 refine Zad ?_
 refine ZdO ?_
 refine ZdS ?_
 refine ZT ?_
 refine Za4 ?_
 refine Zax ?_
 refine ZdS ?_
 refine Za4 ?_
 first
  | refine Qd rfl (fun _ hS => Qb (k := 3) hS rfl rfl rfl (by first | exact .head | exact .tail .head | exact .tail (.tail .head) | exact .tail (.tail (.tail .head)) | exact .tail (.tail (.tail (.tail .head))) | exact .tail (.tail (.tail (.tail (.tail .head))))) Yf) rfl ?_
  | refine Qd rfl (fun _ hS => Qb (k := 3) hS rfl rfl rfl (by first | exact .head | exact .tail .head | exact .tail (.tail .head) | exact .tail (.tail (.tail .head)) | exact .tail (.tail (.tail (.tail .head))) | exact .tail (.tail (.tail (.tail (.tail .head))))) Ye) rfl ?_
  | refine Qd rfl (fun _ hS => QaZ rfl rfl rfl (by first | assumption | exact (hcell _ hS).1 | exact (hcell _ hS).2.1 | exact (hcell _ hS).2.2 | exact hll _ hS Yd | exact hS.cell0 Ye) (by first | assumption | exact (hcell _ hS).1 | exact (hcell _ hS).2.1 | exact (hcell _ hS).2.2 | exact hll _ hS Yd | exact hS.cell0 Ye) (by first | assumption | exact (hcell _ hS).1 | exact (hcell _ hS).2.1 | exact (hcell _ hS).2.2 | exact hll _ hS Yd | exact hS.cell0 Ye)) rfl ?_
 refine ZJ ?_
 refine Zf ?_
 refine Calls.mono (QjU (F0 := F) x z _ (fun p hp => (hP p hp).1) hl ⟨_, F, fun _ h => h, hok, hS⟩) ?_
 rintro _ w3 ⟨A3, c3, F3, rfl, hF3, hL3, hq⟩
 refine Za ?_
 clear hS
 obtain ⟨d4, F4, hF4, hok4, hS⟩ := hq
 have hfl := List.length_filter_le (QlJ z) P
 have hsub : ∀ p ∈ P.filter (QlJ z), GOk p.cl := fun p hp => (hP p (List.mem_filter.1 hp).1).2
 rw [hcx]
 generalize P.filter (QlJ z) = L at *
 cases L with
 | nil =>
  refine ZA ?_
  refine Zs ?_
  refine Zn ?_
  refine Zae ?_
  refine Qc Tryz.func59 rfl Yb ?_
  exact ⟨rfl, d4, F4, fun φ h => hF4 φ (hF3 φ (hFF φ h)), hok4, hS⟩
 | cons y R =>
  refine ZA ?_
  refine Zs ?_
  refine Zn ?_
  refine Zcu ?_
  obtain ⟨hA5, hc5, hB5, hd5, LA5, lc5, O15, cs5, CA5, cc5, O25, evs5, EA5, ec5, O35⟩ := d4
  refine Zfe ?_
  replace hS := hS.drew
  refine Z7 ?_
  refine ZT ?_
  refine ZaC ?_
  refine Zax ?_
  refine ZdS ?_
  refine ZaJ ?_
  refine ZaC ?_
  refine Zdx ?_
  refine ZdS ?_
  refine ZaJ ?_
  refine Qd rfl (fun _ hS => QN (cells := [_, _, _, _]) (.cons Yb (.cons Yb (.cons Yb (.cons Yb .nil)))) rfl) rfl ?_
  refine ZJ ?_
  refine Zf ?_
  refine Calls.mono (Qgs _ (Qi7 _) x a x.h.cs.length x.h.tr.length (y :: R) A3 c3 _ rfl hbd ha hsub Ya Ya Ya hL3 ⟨_, F4, hF4, hok4, hS⟩) ?_
  rintro _ w6 ⟨rfl, hq⟩
  refine ZH ?_
  refine Qc Tryz.func59 rfl Yb ?_
  exact ⟨rfl, hq.weaken fun φ h => hF3 φ (hFF φ h)⟩
end
theorem Qhe (h : HH) (a most : Int) : (Qbg h a most).1.ar.nodes ≤ 65536 ∧ (Qbg h a most).2.1 ≤ 65536 := by
 unfold Qbg
 have hm : QjT most ≤ 65536 := by unfold QjT; omega
 split
 ·exact ⟨by simp [Qet, Ts.nodes], by simp⟩
 ·split
  ·exact ⟨by simp [Qet, Ts.nodes], by simp⟩
  ·split
   ·exact ⟨by simp [Qet, Ts.nodes], by simp⟩
   ·rename_i t l ht
    have := Qd7 _ _ _ _ ht
    dsimp only at this ⊢
    omega
theorem Qg6 (h : HH) : ∀ (m v : Nat) (l : Int) (T : Ts) (l' : Int), Qch h m v l = some (T, l') → T.nodes ≤ m * 65537 ∧ T.length = m
 | 0, v, l, T, l', e => by
  simp only [Qch, Option.some.injEq, Prod.mk.injEq] at e
  rw [← e.1]; simp [Ts.nodes, Ts.length]
 | m + 1, v, l, T, l', e => by
  unfold Qch at e
  split at e
  ·cases e
  ·cases h2 : Qch h m (v + 1) (l - ((Qbg h (v : Nat) l).2.1 : Nat)) with
   | none => rw [h2] at e; cases e
   | some p =>
    obtain ⟨U, l2⟩ := p
    rw [h2] at e
    simp only [Option.some.injEq, Prod.mk.injEq] at e
    have i := Qg6 h m (v + 1) _ U l2 h2
    have j := Qhe h (v : Nat) l
    rw [← e.1]
    simp only [Ts.nodes, Ts.length]
    omega
section
variable {M : List Nat} {w0 : World} {H : List (Nat × Obj)} {F0 : List (World → Prop)} {b : Nat} {P : List LB} {pA : Option Addr} {pc vars fuel every : Nat}
theorem QmE (x : XS) (w : World) (hbd : XBd x) (hv8 : vars ≤ 8) (hev : x.ev.length < 12) (hs : XSt M w0 H F0 b P pA pc vars fuel every x w) :
  Calls Tryz.prog 55 #[ptm b] w fun e w' => e = .returned (.int .i64 (QcE vars x).1) ∧ XSt M w0 H F0 b P pA pc vars fuel every (QcE vars x).2 w' := by
 obtain ⟨d, F, hFF, hok, hS⟩ := hs
 obtain ⟨hA, hc, hB, hd, LA, lc, O1, cs, CA, cc, O2, evs, EA, ec, O3⟩ := d
 refine Qh Tryz.func55 rfl Tryz.ntmps55 rfl ?_
 refine Zj ?_
 refine ZZ ?_
 refine ZaQ ?_
 refine Zo ?_
 refine QgP (sz := 4) (bts := 56) hS rfl rfl rfl rfl Ya Ya rfl ?_
 clear hS
 intro g w2 zs hzs hS
 refine Zc ?_
 refine Zc6 ?_
 refine QaB 16 4 (17 :: 18 :: 5 :: 20 :: 21 :: 22 :: 23 :: 24 :: 25 :: 26 :: 19 :: 27 :: 28 :: 29 :: 6 :: 7 :: 8 :: 30 :: 31 :: 2 :: 32 :: 33 :: 34 :: 35 :: 36 :: 37 :: 38 :: 39 :: []) (fun (m : Nat) v u w' => ∃ (D' : TA) (rs : List Value) (li : Int) (F' : List (World → Prop)), D'.len + m = vars ∧ rs.length = m * 4 ∧ v = .int .i64 (D'.len : Nat) ∧ u = .int .i64 li ∧ 200 - 65536 * (D'.len : Int) ≤ li ∧ li ≤ 200 ∧ Qch x.h vars 0 200 = (Qch x.h m D'.len li).map (fun p => (D'.ts.app p.1, p.2)) ∧ (∀ φ ∈ F, φ ∈ F') ∧ Und F' (QrY D') ∧ St M w0 ((g, .cells (Qmk D' ++ rs).toArray 63) :: (b, mob P pA pc vars fuel every x ⟨hA, hc, hB, hd, LA, lc, O1, cs, CA, cc, O2, evs, EA, ec, O3⟩) :: (O1 ++ (O2 ++ (O3 ++ H)))) F' w') (fun m => m) (vars) ?_ Yb Yb ?_
 ·exact ⟨.nil, zs, 200, F, by simp [TA.len], hzs, rfl, rfl, by simp [TA.len], by omega, (by show Qch x.h vars 0 200 = (Qch x.h vars 0 200).map _; cases Qch x.h vars 0 200 <;> rfl), fun _ h => h, fun _ _ => trivial, hS⟩
 clear hS
 rintro m _ _ w6 jv ⟨D', rs, li, F', hDm, hrs, rfl, rfl, hli0, hli, hvm, hFF', hAR, hS⟩ ih
 have hD4 := Qnm D'
 have hok' := hok.mono hFF'
 cases m with
 | zero =>
  obtain rfl : rs = [] := List.eq_nil_of_length_eq_zero (by simpa using hrs)
  have hvm2 : Qch x.h vars 0 200 = some (D'.ts, li) := by
   rw [hvm]
   show some (D'.ts.app .nil, li) = _
   rw [Ts.app_nil]
  have hnd := (Qg6 _ _ _ _ _ _ hvm2).1
  have hDl : D'.len = vars := by omega
  have hArA : ∀ w', St M w0 ((g, .cells (Qmk D' ++ []).toArray 63) :: (b, mob P pA pc vars fuel every x ⟨hA, hc, hB, hd, LA, lc, O1, cs, CA, cc, O2, evs, EA, ec, O3⟩) :: (O1 ++ (O2 ++ (O3 ++ H)))) F' w' → ArA (some ⟨g, 0, none⟩) vars D' w' := fun w' hS => by
   refine ⟨by omega, fun _ => ⟨g, 0, rfl, QpY (hS.und hAR) fun j x hj => ?_⟩⟩
   rw [Qu (hS.own (g, _) (.head _)), Nat.zero_add, List.append_nil]; exact hj
  have hrow3 : Row 34 2 (.slice EA evs.length ec) evs.length (evL evs) O3 := hok'.row3
  have hlev : evs.length = x.ev.length := by
   have : evs.map (fun e => e.T.ts) = x.ev := hok.he
   rw [← this]; simp
  refine ZL ?_
  refine Zu ?_
  replace hS := hS.swap
  refine QB (St _ w0 [_] []) 12 ((0, true) :: (1, true) :: (2, true) :: (3, true) :: (4, true) :: (5, true) :: (6, false) :: (7, true) :: (8, false) :: (9, false) :: (10, true) :: (11, true) :: []) Yc Yc (hS.drew.bare1) ?_
  replace hS := hS.drew
  refine Zcv ?_
  refine Zff ?_
  refine ZB ?_
  refine ZT ?_
  refine Zp ?_
  have htid := Qr8 D'.ts (.slice (some ⟨g, 0, none⟩) vars vars) _ (by have := (hArA _ hS.swap).sl; rw [hDl] at this; exact this) Ya
  refine Zk ?_
  refine Calls.mono htid ?_
  rintro _ w7 ⟨v7, rfl, hsl, hbl⟩
  refine Za ?_
  obtain ⟨A7, c7, L7, rfl, hL7, hS'⟩ := hS.located hbl hsl
  replace hS := hS'
  clear hS'
  refine ZbW ?_
  refine Qd rfl (fun _ hS => QN (cells := [_, _]) (.cons Yb (.cons Yb .nil)) rfl) rfl ?_
  refine Zp ?_
  refine ZeV ?_
  clear hS
  intro b1 wx1 hS
  refine ZbW ?_
  refine Zp ?_
  refine Qa8 (sz := 2) (bts := 32) hS Yb rfl rfl rfl rfl (hrow3) rfl rfl (.cons _ (QjR [_, _] _ _ _ _)) Ya Ya rfl ?_
  clear hS
  intro v8 O8 w9 hrow8 hS
  obtain ⟨A8, c8, rfl⟩ := hrow8.form
  replace hS := hS.perm (QjR [_, _] _ _ _ _).symm
  have hans : QcE vars x = if x.ev.length + 1 = 12 then (6, x.tell D'.ts) else Qd3 (x.tell D'.ts) := by
   unfold QcE; rw [hvm2]
  have hs2 : ∀ w', St M w0 ((b, mob P pA pc vars fuel every (x.tell D'.ts) ⟨hA, hc, hB, hd, LA, lc, O1, cs, CA, cc, O2, evs ++ [⟨A7, c7, L7⟩], A8, c8, O8⟩) :: (g, .cells (Qmk D' ++ []).toArray 63) :: (O1 ++ (O2 ++ (O8 ++ H)))) (ArA A7 c7 L7 :: F') w' → XSt M w0 H F0 b P pA pc vars fuel every (x.tell D'.ts) w' := fun w' hS => by
   refine ⟨⟨hA, hc, hB, hd, LA, lc, O1, cs, CA, cc, O2, evs ++ [⟨A7, c7, L7⟩], A8, c8, O8⟩, _, fun φ h => .tail _ (hFF' φ (hFF φ h)), ?_, hS.swap.drop⟩
   have ho := hok'.mono (F' := ArA A7 c7 L7 :: F') fun φ h => .tail _ h
   refine ⟨ho.hh, ho.row1, ho.hc, ho.rc, ho.row2, ?_, ?_, ?_, ho.rp⟩
   ·show (evs ++ [LE.mk A7 c7 L7]).map _ = _
    rw [List.map_append, show evs.map (fun e => e.T.ts) = x.ev from ho.he]; simp [hL7, XS.tell]
   ·intro e he
    rcases List.mem_append.1 he with he | he
    ·exact ho.re e he
    ·obtain rfl : e = ⟨A7, c7, L7⟩ := by simpa using he
     exact Und.head
   ·show Row _ _ (.slice A8 (evs ++ [LE.mk A7 c7 L7]).length c8) (evs ++ [LE.mk A7 c7 L7]).length (evL (evs ++ [LE.mk A7 c7 L7])) _
    rw [Qul, List.length_append]; exact hrow8
  have hb2 : XBd (x.tell D'.ts) := ⟨hbd.ln, hbd.cn, hbd.ch⟩
  have hlen1 : (evs ++ [LE.mk A7 c7 L7]).length = evs.length + 1 := by simp
  by_cases h12 : x.ev.length + 1 = 12
  ·rw [if_pos h12] at hans
   rw [hans]
   refine ZbW ?_
   refine ZaO ?_
   refine Zff ?_
   refine ZbE ?_
   clear hS
   intro wx2 hS
   refine ZaZ ?_
   refine Z4 ?_
   refine Qa (Qi (off := 10) rfl rfl) rfl ?_
   refine Zo ?_
   refine Zs ?_
   refine Zn ?_
   refine Zae ?_
   refine Qc Tryz.func55 rfl Yb ?_
   exact ⟨rfl, hs2 _ (by dsimp only [mob, mcs]; rw [hlen1]; exact hS)⟩
  ·rw [if_neg h12] at hans
   rw [hans]
   refine ZbW ?_
   refine ZaO ?_
   refine Zff ?_
   refine ZbE ?_
   clear hS
   intro wx2 hS
   refine ZaZ ?_
   refine Z4 ?_
   refine Qa (Qi (off := 10) rfl rfl) rfl ?_
   refine Zo ?_
   refine Zs ?_
   refine Zn ?_
   refine Zq ?_
   refine ZG ?_
   refine Calls.mono (Qec _ _ hb2 (hs2 _ (by dsimp only [mob, mcs]; rw [hlen1]; exact hS))) ?_
   rintro _ w9 ⟨rfl, hq⟩
   refine ZH ?_
   refine Qc Tryz.func55 rfl Yb ?_
   exact ⟨rfl, hq⟩
 | succ m =>
  obtain ⟨r0, r1, r2, r3, rs, rfl⟩ : ∃ r0 r1 r2 r3 rs', rs = [r0, r1, r2, r3] ++ rs' := by
   match rs, hrs with
   | r0 :: r1 :: r2 :: r3 :: rs', _ => exact ⟨r0, r1, r2, r3, rs', rfl⟩
   | [], h => simp at h
   | [_], h => simp at h; omega
   | [_, _], h => simp at h; omega
   | [_, _, _], h => simp at h; omega
  have hvs : Qch x.h (m + 1) D'.len li = if (Qbg x.h (D'.len : Nat) li).2.2 ≠ 0 then none else match Qch x.h m (D'.len + 1) (li - ((Qbg x.h (D'.len : Nat) li).2.1 : Nat)) with
   | none => none
   | some (T, l'') => some (.cons (Qbg x.h (D'.len : Nat) li).1.k (Qbg x.h (D'.len : Nat) li).1.n (Qbg x.h (D'.len : Nat) li).1.s (Qbg x.h (D'.len : Nat) li).1.ar T, l'') := rfl
  have htn := (Qhe x.h (D'.len : Nat) li).2
  refine ZaY ?_
  refine Zak ?_
  refine Z9 ?_
  refine Za2 ?_
  refine Zai ?_
  refine Calls.mono (QpT x.h (D'.len : Nat) li hA hB hc hd _ hok'.hh hS) ?_
  rintro _ w7 ⟨u2, F2, rfl, hu2, hF2, hru2, hS'⟩
  refine Za ?_
  replace hS := hS'
  clear hS'
  by_cases he : (Qbg x.h (D'.len : Nat) li).2.2 = 0
  ·rw [if_neg (fun h => h he)] at hvs
   refine Zaf ?_
   refine ZX ?_
   clear hS
   intro b1 wx1 hS
   refine Zd ?_
   clear hS
   intro wx2 hS
   refine Zb0 ?_
   refine Zq ?_
   refine Z5 ?_
   refine ZcG ?_
   refine ZaS ?_
   refine ZfS ?_
   clear hS
   intro w8 hS
   refine Zb ?_
   refine Z1 ?_
   refine Zay ?_
   refine ZaN ?_
   refine ih (m) _ _ _ _ ?_ ?_ Yb Yb Yc
   ·omega
   ·refine ⟨D'.app (.cons u2.k u2.n u2.s u2.A u2.c u2.ar .nil), rs, li - ((Qbg x.h (D'.len : Nat) li).2.1 : Nat), F2, by rw [TA.len_app]; simp only [TA.len]; omega, by simp at hrs; omega, by rw [TA.len_app]; rfl, rfl, by rw [TA.len_app]; simp only [TA.len]; omega, by omega, ?_, fun φ h => hF2 φ (hFF' φ h), ?_, ?_⟩
    ·rw [hvm, hvs, TA.app_ts, TA.len_app]
     show Option.map _ (match Qch x.h m (D'.len + 1) _ with | none => none | some (T, l'') => _) = Option.map _ (Qch x.h m (D'.len + 1) _)
     cases Qch x.h m (D'.len + 1) (li - ((Qbg x.h (D'.len : Nat) li).2.1 : Nat)) with
     | none => rfl
     | some q =>
      obtain ⟨T, l2⟩ := q
      show some (D'.ts.app _, l2) = some ((D'.ts.app (.cons u2.k u2.n u2.s u2.ar.ts .nil)).app T, l2)
      rw [Ts.app_assoc, ← hu2]; rfl
    ·exact fun w hw => QrY.app (U := .cons u2.k u2.n u2.s u2.A u2.c u2.ar .nil) ⟨hru2 w hw, trivial⟩ ((hAR.mono hF2) w hw)
    ·rw [Qnn, List.append_assoc]
     exact hS.drop
  ·rw [if_pos he] at hvs
   rw [hvs] at hvm
   have e : QcE vars x = (4, x) := by unfold QcE; rw [hvm]; rfl
   rw [e]
   refine Zaf ?_
   refine ZX ?_
   clear hS
   intro b1 wx1 hS
   refine Zd ?_
   clear hS
   intro wx2 hS
   refine Zb0 ?_
   refine Zae ?_
   refine Qc Tryz.func55 rfl Yb ?_
   exact ⟨rfl, _, F2, fun φ h => hF2 φ (hFF' φ (hFF φ h)), hok'.mono hF2, hS.drop.drop⟩
end
theorem Qnv {S : List Bool} {i : Nat} (h : S[i]? = some false) : (S.set i true).count false + 1 = S.count false := by
 induction S generalizing i with
 | nil => simp at h
 | cons a r ih =>
  cases i with
  | zero => simp at h; subst h; simp
  | succ i =>
   have := ih (i := i) (by simpa using h)
   simp only [List.set_cons_succ, List.count_cons]
   omega
abbrev QhG (V : List Nat) : List Value := Qm (V.map fun (i : Nat) => (i : Int))
def Quy (L : List XL) : Prop := ∀ l ∈ L, l.nx = -1 ∨ (0 ≤ l.nx ∧ l.nx < L.length)
section
variable {M : List Nat} {w0 : World} {H T : List (Nat × Obj)} {F : List (World → Prop)} {b : Nat} {cz : List Value} {ct : TypeId}
theorem Qja (L : List XL) (i : Int) (S : List Bool) (V : List Nat) (f : Nat) (sb zb mb lb : Nat) (VA : Option Addr) (vc : Nat) (Ol : List (Nat × Obj)) (gl : Nat) (sp cs1 cs2 : List Value) (lcap : Nat) (w : World) (hL : Quy L) (hS1 : S.length = L.length) (hl : L.length ≤ 1000000) (hcs : cs1.length = 7) (hgl : (gl, Obj.cells (xlL L ++ sp).toArray 101) ∈ T) (hLp : 0 < L.length)
  (hi : i = -1 ∨ (0 ≤ i ∧ i < L.length)) (hf : S.count false < f) (hV : V.length + S.count false ≤ L.length) (hrow : Row 3 1 (.slice VA V.length vc) V.length (QhG V) Ol)
  (hS : St M w0 ((sb, .cells #[.slice (some ⟨zb, 0, none⟩) L.length L.length] 202) :: (zb, .cells (QV S).toArray 4) :: (mb, .cells #[ptm b] 50) :: (lb, .cells #[.slice VA V.length vc] 54) :: (b, .cells (cs1 ++ .slice (some ⟨gl, 0, none⟩) L.length lcap :: cs2).toArray 61) :: (Ol ++ T)) F w) :
  Calls Tryz.prog 147 #[.int .i64 i, .pointer (some ⟨sb, 0, none⟩), .pointer (some ⟨mb, 0, none⟩), .pointer (some ⟨lb, 0, none⟩)] w fun e w' => e = .returned (.tuple #[]) ∧ ∃ (VA' : Option Addr) (vc' : Nat) (Ol' : List (Nat × Obj)), (Qay L f i (S, V)).1.length = L.length ∧ (Qay L f i (S, V)).2.length + (Qay L f i (S, V)).1.count false ≤ L.length ∧ Row 3 1 (.slice VA' (Qay L f i (S, V)).2.length vc') (Qay L f i (S, V)).2.length (QhG (Qay L f i (S, V)).2) Ol' ∧
   St M w0 ((sb, .cells #[.slice (some ⟨zb, 0, none⟩) L.length L.length] 202) :: (zb, .cells (QV (Qay L f i (S, V)).1).toArray 4) :: (mb, .cells #[ptm b] 50) :: (lb, .cells #[.slice VA' (Qay L f i (S, V)).2.length vc'] 54) :: (b, .cells (cs1 ++ .slice (some ⟨gl, 0, none⟩) L.length lcap :: cs2).toArray 61) :: (Ol' ++ T)) F w' := by
 obtain ⟨c0, c1, c2, c3, c4, c5, c6, rfl⟩ : ∃ c0 c1 c2 c3 c4 c5 c6, cs1 = [c0, c1, c2, c3, c4, c5, c6] := by
  match cs1, hcs with
  | [c0, c1, c2, c3, c4, c5, c6], _ => exact ⟨c0, c1, c2, c3, c4, c5, c6, rfl⟩
 refine Qde Tryz.func147 rfl Tryz.ntmps147 rfl ?_
 refine ZbQ ?_
 refine Qo 0 (5 :: 6 :: 7 :: 8 :: 9 :: 10 :: 11 :: 12 :: 13 :: 22 :: 23 :: 24 :: 25 :: 26 :: 27 :: 28 :: 14 :: 15 :: 16 :: 17 :: 18 :: 19 :: 20 :: 21 :: []) (fun (y : List Bool × List Nat) v w' => ∃ (j : Int) (f' : Nat) (VA : Option Addr) (vc : Nat) (Ol : List (Nat × Obj)), v = .int .i64 j ∧ y.1.length = L.length ∧ (j = -1 ∨ (0 ≤ j ∧ j < L.length)) ∧ y.1.count false < f' ∧ y.2.length + y.1.count false ≤ L.length ∧ Qay L f i (S, V) = Qay L f' j y ∧ Row 3 1 (.slice VA y.2.length vc) y.2.length (QhG y.2) Ol ∧ St M w0 ((sb, .cells #[.slice (some ⟨zb, 0, none⟩) L.length L.length] 202) :: (zb, .cells (QV y.1).toArray 4) :: (mb, .cells #[ptm b] 50) :: (lb, .cells #[.slice VA y.2.length vc] 54) :: (b, .cells ([c0, c1, c2, c3, c4, c5, c6] ++ .slice (some ⟨gl, 0, none⟩) L.length lcap :: cs2).toArray 61) :: (Ol ++ T)) F w') (fun y => y.1.count false) ((S, V)) ?_ Yb ?_
 ·exact ⟨i, f, VA, vc, Ol, rfl, hS1, hi, hf, hV, rfl, hrow, hS⟩
 clear hS hrow hV hf hi hS1
 rintro ⟨S1, V1⟩ _ w2 jv ⟨j, f', VA1, vc1, Ol1, rfl, hS1, hi, hf, hV, hch, hrow, hS⟩ ih
 dsimp only at hS1 hf hV hrow hS
 obtain ⟨f', rfl⟩ : ∃ k, f' = k + 1 := ⟨f' - 1, by omega⟩
 have hun : Qay L (f' + 1) j (S1, V1) = if j = -1 then (S1, V1) else if S1[j.toNat]? = some true then (S1, V1) else Qay L f' (lnk L j.toNat).nx (S1.set j.toNat true, V1 ++ [j.toNat]) := rfl
 by_cases hj : j = -1
 ·rw [hch, hun, if_pos hj]
  refine Zw ?_
  refine Zy ?_
  refine Zc5 ?_
  refine ZS ?_
  refine Zbp ?_
  refine QD Tryz.func147 rfl ?_
  exact ⟨rfl, VA1, vc1, Ol1, hS1, hV, hrow, hS⟩
 ·have hj0 : 0 ≤ j ∧ j < L.length := hi.resolve_left hj
  obtain ⟨v, hv⟩ : ∃ v, S1[j.toNat]? = some v := ⟨S1[j.toNat]'Ya, List.getElem?_eq_getElem _⟩
  have hsv : ∀ {M2 H' F'} w', St M2 w0 H' F' w' → (zb, Obj.cells (QV S1).toArray 4) ∈ H' → w'.cell? ⟨zb, 0 + j.toNat * 1, none⟩ = some (.bool v) := fun {M2 H' F'} w' (hS : St M2 w0 H' F' w') hm => by
   rw [Qu (hS.own _ hm)]; simp [QV, hv]
  cases v with
  | true =>
   rw [hch, hun, if_neg hj, if_pos hv]
   refine Zw ?_
   refine Zy ?_
   refine Zx ?_
   refine Zf6 ?_
   refine ZO ?_
   refine ZM ?_
   refine Zv ?_
   refine Zf6 ?_
   refine Zbm ?_
   refine ZS ?_
   refine Zbp ?_
   refine QD Tryz.func147 rfl ?_
   exact ⟨rfl, VA1, vc1, Ol1, hS1, hV, hrow, hS⟩
  | false =>
   have hput := Qgd S1 j.toNat true Ya
   have hcnt := Qnv hv
   obtain ⟨l0, l1, l2⟩ := QfL L j.toNat _ (QeP (L := L) (a := j.toNat) Ya)
   have hll : ∀ {M2 H' F'} w', St M2 w0 H' F' w' → (gl, Obj.cells (xlL L ++ sp).toArray 101) ∈ H' → w'.cell? ⟨gl, 0 + j.toNat * 3 + 2, none⟩ = some (.int .i64 (lnk L j.toNat).nx) := fun {M2 H' F'} w' (hS : St M2 w0 H' F' w') hm => by
    rw [Qu (hS.own _ hm), Nat.zero_add, List.getElem?_append_left]
    ·exact l2
    ·rw [Qg1]; omega
   refine Zw ?_
   refine Zy ?_
   refine Zx ?_
   refine Zch ?_
   refine ZO ?_
   refine ZM ?_
   refine Zv ?_
   refine Zch ?_
   refine Zbm ?_
   refine ZaK ?_
   refine ZeG ?_
   refine Zg ?_
   refine Zch ?_
   refine ZaW ?_
   refine ZcM ?_
   clear hS
   intro w5 hS
   refine Zb ?_
   refine Zbe ?_
   refine Zch ?_
   refine Ze ?_
   refine ZaR ?_
   clear hS
   intro b1 wx1 hS
   refine Qa8 (sz := 1) (bts := 8) hS Yb rfl rfl rfl rfl (hrow) rfl rfl (.cons _ (List.perm_append_comm_assoc [_, _, _, _, _] Ol1 T)) Ya Ya rfl ?_
   clear hS
   intro v8 O8 w8 hrow8 hS
   obtain ⟨A8, c8, rfl⟩ := hrow8.form
   replace hS := hS.perm (List.perm_append_comm_assoc O8 [_, _, _, _, _] T)
   refine Zt ?_
   clear hS
   intro wx2 hS
   refine Zb ?_
   refine ZaH ?_
   refine Zbe ?_
   refine Zch ?_
   refine Z4 ?_
   refine ZdP ?_
   refine Zch ?_
   refine Zdk ?_
   refine Zaw ?_
   refine Zch ?_
   refine Zc ?_
   have hnx := hL _ (List.mem_of_getElem? (QeP (L := L) (a := j.toNat) Ya))
   refine ih ((S1.set j.toNat true, V1 ++ [j.toNat])) _ _ _ ?_ ?_ Yb Yc
   ·show (S1.set j.toNat true).count false < S1.count false
    omega
   ·refine ⟨_, f', A8, c8, O8, rfl, by simpa using hS1, hnx, by show (S1.set j.toNat true).count false < f'; omega, by show (V1 ++ [j.toNat]).length + (S1.set j.toNat true).count false ≤ _; simp only [List.length_append, List.length_cons, List.length_nil]; omega, ?_, ?_, ?_⟩
    ·rw [hch, hun, if_neg hj, if_neg (by rw [hv]; simp)]
    ·have : QhG (V1 ++ [j.toNat]) = QhG V1 ++ [.int .i64 j] := by simp [QhG, Qm, Int.toNat_of_nonneg hj0.1]
     show Row _ 1 (.slice A8 (V1 ++ [j.toNat]).length c8) (V1 ++ [j.toNat]).length (QhG (V1 ++ [j.toNat])) O8
     rw [this, List.length_append]; exact hrow8
    ·show St M w0 (_ :: _ :: _ :: (lb, .cells #[.slice A8 (V1 ++ [j.toNat]).length c8] _) :: _) F _
     rw [List.length_append]; exact hS
end
theorem St.freezeRow {M : List Nat} {w0 w : World} {H O : List (Nat × Obj)} {F : List (World → Prop)} {el sz len c : Nat} {A : Option Addr} {xs : List Value} (hr : Row el sz (.slice A len c) len xs O) (hS : St M w0 (O ++ H) F w) :
  ∃ F', (∀ φ ∈ F, φ ∈ F') ∧ Und F' (Qz sz xs A len c) ∧ St M w0 H F' w := by
 obtain ⟨F', h1, h2, h3⟩ := St.freezeL hS
 refine ⟨F', h1, fun w' hw' => ⟨hr.len_, hr.cap, fun hl => ?_⟩, h3⟩
 obtain ⟨g, sp, rfl, rfl, _⟩ := hr.some_ hl
 refine ⟨g, 0, rfl, fun j u hu => ?_⟩
 have hjl : j < xs.length := by
  rcases Nat.lt_or_ge j xs.length with hh | hh
  ·exact hh
  ·rw [List.getElem?_eq_none hh] at hu; cases hu
 rw [Qu (h2 _ (.head _) w' hw'), Nat.zero_add, List.getElem?_append_left hjl]; exact hu
section
variable {M : List Nat} {w0 : World} {H : List (Nat × Obj)} {F0 : List (World → Prop)} {b : Nat} {P : List LB} {pA : Option Addr} {pc vars fuel every : Nat}
theorem Qqx (x : XS) (w : World) (hbd : XBd x) (hL : Quy x.ln) (hLp : 0 < x.ln.length) (hf : x.first = -1 ∨ (0 ≤ x.first ∧ x.first < x.ln.length)) (hs : XSt M w0 H F0 b P pA pc vars fuel every x w) :
  Calls Tryz.prog 94 #[ptm b] w fun e w' => ∃ (A : Option Addr) (c : Nat) (F1 : List (World → Prop)), e = .returned (.slice A (QbO x).length c) ∧ (∀ φ ∈ F0, φ ∈ F1) ∧ Und F1 (Qz 1 (QhG (QbO x)) A (QbO x).length c) ∧ XSt M w0 H F1 b P pA pc vars fuel every x w' := by
 obtain ⟨d, F, hFF, hok, hS⟩ := hs
 obtain ⟨hA, hc, hB, hd, LA, lc, O1, cs, CA, cc, O2, evs, EA, ec, O3⟩ := d
 have hrow1 : Row 101 3 (.slice LA x.ln.length lc) x.ln.length (xlL x.ln) O1 := hok.row1
 obtain ⟨gl, sp, rfl, rfl, hcap⟩ := hrow1.some_ hLp
 have hln := hbd.ln
 have hcn := hbd.cn
 have hcs : cs.map LX.xc = x.ch := hok.hc
 have hlc : cs.length = x.ch.length := by rw [← hcs]; simp
 have hrow2 : Row 151 4 (.slice CA cs.length cc) cs.length (xcL cs.reverse) O2 := hok.row2
 have hct : (List.replicate x.ln.length false).count false < x.ln.length + 1 := by simp
 refine Qh Tryz.func94 rfl Tryz.ntmps94 rfl ?_
 refine Zi ?_
 clear hS
 intro b1 wx1 hS
 refine Zcw ?_
 refine Zek ?_
 clear hS
 intro b2 wx2 hS
 refine Za0 ?_
 refine Zo ?_
 refine Z4 ?_
 refine ZdP ?_
 refine Zo ?_
 refine Zs ?_
 refine Qcl (k := x.ln.length) (bts := 1) (z := .bool false) hS Yb Yb rfl rfl rfl rfl Ya Ya rfl ?_
 clear hS
 intro zb w2 hS
 refine Zek ?_
 clear hS
 intro b3 wx3 hS
 refine Zt ?_
 clear hS
 intro wx4 hS
 refine Za0 ?_
 refine Qa (Qgk Qks (Qty Yb Yb Yb)) rfl ?_
 refine Z2 ?_
 refine Zo ?_
 refine Zdu ?_
 refine Zo ?_
 rw [show List.replicate x.ln.length (Value.bool false) = QV (List.replicate x.ln.length false) by simp [QV]] at hS
 replace hS := hS.perm (.cons _ (.cons _ (.swap _ _ _)))
 refine ZdH ?_
 refine Calls.mono (Qja (T := ([(gl, .cells (xlL x.ln ++ sp).toArray 101)] ++ (O2 ++ (O3 ++ H)))) x.ln x.first (List.replicate x.ln.length false) [] (x.ln.length + 1) b3 zb b1 b2 none 0 [] gl sp [.slice hA x.h.cs.length hc, .slice hB x.h.tr.length hd, .slice pA P.length pc, .int .i64 (vars : Nat), .int .i64 (fuel : Nat), .int .i64 (x.goals : Nat), .int .i64 (every : Nat)] [.int .i64 x.first, .slice CA cs.length cc, .slice EA evs.length ec] lc _ hL Yd Ya rfl Yd hLp hf hct Yd Row.nil_ hS) ?_
 rintro _ w5 ⟨rfl, VA1, vc1, Ol1, hn1, hn2, hrow, hS'⟩
 refine Za ?_
 replace hS := hS'
 clear hS'
 have hlv : QbO x = (QbY x.ln (cs.reverse.map LX.xc) (Qay x.ln (x.ln.length + 1) x.first (List.replicate x.ln.length false, []))).2 := by
  unfold QbO; rw [← hcs, List.map_reverse]
 generalize hp0 : Qay x.ln (x.ln.length + 1) x.first (List.replicate x.ln.length false, []) = p0 at *
 refine ZK ?_
 refine Zg ?_
 refine Zo ?_
 refine Z4 ?_
 refine ZbY ?_
 refine Zo ?_
 refine Z6 ?_
 refine Qo 26 (27 :: 28 :: 29 :: 7 :: 30 :: 31 :: 32 :: 33 :: 34 :: []) (fun (R : List LX) v w' => ∃ (D : List LX) (p : List Bool × List Nat) (VA : Option Addr) (vc : Nat) (Ol : List (Nat × Obj)), cs.reverse = D ++ R ∧ v = .int .i64 (D.length : Nat) ∧ p.1.length = x.ln.length ∧ p.2.length + p.1.count false ≤ x.ln.length ∧ QbY x.ln (cs.reverse.map LX.xc) p0 = QbY x.ln (R.map LX.xc) p ∧ Row 3 1 (.slice VA p.2.length vc) p.2.length (QhG p.2) Ol ∧ St M w0 ((b3, .cells #[.slice (some ⟨zb, 0, none⟩) x.ln.length x.ln.length] 202) :: (zb, .cells (QV p.1).toArray 4) :: (b1, .cells #[ptm b] 50) :: (b2, .cells #[.slice VA p.2.length vc] 54) :: (b, .cells (([.slice hA x.h.cs.length hc, .slice hB x.h.tr.length hd, .slice pA P.length pc, .int .i64 (vars : Nat), .int .i64 (fuel : Nat), .int .i64 (x.goals : Nat), .int .i64 (every : Nat)] : List Value) ++ (Value.slice (some ⟨gl, 0, none⟩) x.ln.length lc :: ([.int .i64 x.first, .slice CA cs.length cc, .slice EA evs.length ec] : List Value))).toArray 61) :: (Ol ++ ([(gl, .cells (xlL x.ln ++ sp).toArray 101)] ++ (O2 ++ (O3 ++ H))))) F w') (fun R => R.length) (cs.reverse) ?_ Yb ?_
 ·exact ⟨[], p0, VA1, vc1, Ol1, rfl, rfl, hn1, hn2, rfl, hrow, hS⟩
 clear hS hrow hn1 hn2
 rintro R _ w6 jv ⟨D, p, VA2, vc2, Ol2, hDR, rfl, hn1, hn2, hch, hrow, hS⟩ ih
 have hlen : cs.length = D.length + R.length := by
  have := congrArg List.length hDR
  simpa using this
 cases R with
 | nil =>
  simp only [List.length_nil] at hlen
  have e : QbO x = p.2 := by rw [hlv, hch]; rfl
  rw [e]
  refine ZL ?_
  refine Zg ?_
  refine Zdc ?_
  refine Qc Tryz.func94 rfl Yb ?_
  obtain ⟨F', h1, h2, h3⟩ := St.freezeRow (H := (b, mob P pA pc vars fuel every x ⟨hA, hc, hB, hd, some ⟨gl, 0, none⟩, lc, [(gl, .cells (xlL x.ln ++ sp).toArray 101)], cs, CA, cc, O2, evs, EA, ec, O3⟩) :: ([(gl, .cells (xlL x.ln ++ sp).toArray 101)] ++ (O2 ++ (O3 ++ H)))) hrow (hS.drop.drop.drop.drop.perm List.perm_middle.symm)
  exact ⟨VA2, vc2, F', rfl, fun φ h => h1 φ (hFF φ h), h2, _, F', fun _ h => h, hok.mono h1, h3⟩
 | cons c R =>
  simp only [List.length_cons] at hlen
  have hcm : c ∈ cs := List.mem_reverse.1 (by rw [hDR]; simp)
  have hca : c.at_ < x.ln.length := (hbd.ch c.xc (by rw [← hcs]; exact List.mem_map.2 ⟨c, hcm, rfl⟩)).1
  obtain ⟨k0, k1, k2, k3⟩ := QjD cs.reverse D.length c (by rw [hDR]; simp)
  obtain ⟨gc, sp2, rfl, rfl, hcap2⟩ := hrow2.some_ Ya
  have hcl : ∀ {M2 H' F'} w', St M2 w0 H' F' w' → (gc, Obj.cells (xcL cs.reverse ++ sp2).toArray 151) ∈ H' → _ := fun {M2 H' F'} w' (hS : St M2 w0 H' F' w') hm => And.intro (Row.cell (w := w') hrow2 hS (by intro p hp; obtain rfl := List.mem_singleton.1 hp; exact hm) rfl k0) (And.intro (Row.cell (w := w') hrow2 hS (by intro p hp; obtain rfl := List.mem_singleton.1 hp; exact hm) rfl k1) (And.intro (Row.cell (w := w') hrow2 hS (by intro p hp; obtain rfl := List.mem_singleton.1 hp; exact hm) rfl k2) (Row.cell (w := w') hrow2 hS (by intro p hp; obtain rfl := List.mem_singleton.1 hp; exact hm) rfl k3)))
  have hct2 : p.1.count false < x.ln.length + 1 := by have := List.count_le_length (a := false) (l := p.1); omega
  refine Zcj ?_
  refine ZaS ?_
  refine ZdR ?_
  refine ZX ?_
  clear hS
  intro b4 wx5 hS
  refine Zd ?_
  clear hS
  intro wx6 hS
  refine Zcp ?_
  refine Zav ?_
  refine ZdQ ?_
  refine ZdH ?_
  refine Calls.mono (Qja (T := ([(gl, .cells (xlL x.ln ++ sp).toArray 101)] ++ ([(gc, .cells (xcL cs.reverse ++ sp2).toArray 151)] ++ (O3 ++ H)))) x.ln (c.at_ : Nat) p.1 p.2 (x.ln.length + 1) b3 zb b1 b2 VA2 vc2 Ol2 gl sp [.slice hA x.h.cs.length hc, .slice hB x.h.tr.length hd, .slice pA P.length pc, .int .i64 (vars : Nat), .int .i64 (fuel : Nat), .int .i64 (x.goals : Nat), .int .i64 (every : Nat)] [.int .i64 x.first, .slice (some ⟨gc, 0, none⟩) cs.length cc, .slice EA evs.length ec] lc _ hL hn1 Ya rfl Yd hLp (.inr ⟨by omega, by omega⟩) hct2 hn2 hrow hS.drop) ?_
  rintro _ w7 ⟨rfl, VA3, vc3, Ol3, hm1, hm2, hrow3, hS'⟩
  refine Za ?_
  replace hS := hS'
  clear hS'
  refine Zam ?_
  refine ih (R) _ _ _ ?_ ?_ Yb Yc
  ·simp
  ·exact ⟨D ++ [c], Qay x.ln (x.ln.length + 1) (c.at_ : Nat) p, VA3, vc3, Ol3, by rw [hDR]; simp, by simp, hm1, hm2, hch, hrow3, hS⟩
end
end Go.Proofs.YthliapbflkfdiacGreatDoor
