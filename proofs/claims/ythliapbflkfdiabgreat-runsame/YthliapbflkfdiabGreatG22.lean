/- XWalk2, XWalk7, XWalk8, XWalk9, XWalk10, XWalk11: texts that follow one another, laid into one file. -/
import Derived.Test.YthliapbflkfdiabGreatZ0
import Derived.Test.YthliapbflkfdiabGreatG20
import Derived.Test.YthliapbflkfdiabGreatG21
namespace Go.Proofs.YthliapbflkfdiabGreat
open Go.RowKit
set_option linter.unusedVariables false
set_option linter.unusedSimpArgs false
set_option maxRecDepth 100000
set_option maxHeartbeats 1000000
section
variable {M : List Nat} {w0 : World} {H : List (Nat × Obj)} {F0 : List (World → Prop)} {b : Nat} {P : List LB} {pA : Option Addr} {pc vars fuel every : Nat}
abbrev numsV (h : HH) (a : Int) : Value := if (cellX h a).k ≠ 2 ∨ (cellX h (a + 1)).k ≠ 2 then .tuple #[.int .i64 0, .int .i64 0, .bool false] else .tuple #[.int .i64 (cellX h a).n, .int .i64 (cellX h (a + 1)).n, .bool true]
theorem mnumbers_any (x : XS) (a : Int) (w : World) (ha : 0 ≤ a ∧ a ≤ 1099511627776) (hl : ∃ z, hat x.h.cs (hlook x.h.cs a) = some z) (hl1 : ∃ z, hat x.h.cs (hlook x.h.cs (a + 1)) = some z) (hlen : x.h.cs.length ≤ 65536) (hs : XSt M w0 H F0 b P pA pc vars fuel every x w) :
  Calls Tryz.prog 86 #[ptm b, .int .i64 a] w fun e w' => e = .returned (numsV x.h a) ∧ XSt M w0 H F0 b P pA pc vars fuel every x w' := by
 obtain ⟨d, F, hFF, hok, hS⟩ := hs
 obtain ⟨hA, hc, hB, hd, LA, lc, O1, cs, CA, cc, O2, evs, EA, ec, O3⟩ := d
 refine goes_enter2 Tryz.func86 rfl Tryz.ntmps86 rfl ?_
 refine Zg ?_
 refine Zbb ?_
 refine ZaY ?_
 refine Calls.mono (mlook_any x a _ hl hlen ⟨_, F, hFF, hok, hS⟩) ?_
 rintro _ w3 ⟨rfl, hs'⟩
 refine Za ?_
 clear hS hok hFF
 obtain ⟨d, F, hFF, hok, hS⟩ := hs'
 obtain ⟨hA, hc, hB, hd, LA, lc, O1, cs, CA, cc, O2, evs, EA, ec, O3⟩ := d
 refine ZO ?_
 refine ZL ?_
 refine Zm ?_
 refine Calls.mono (mlook_any x (a + 1) _ hl1 hlen ⟨_, F, hFF, hok, hS⟩) ?_
 rintro _ w4 ⟨rfl, hs'⟩
 refine Za ?_
 clear hS hok hFF
 obtain ⟨d, F, hFF, hok, hS⟩ := hs'
 obtain ⟨hA, hc, hB, hd, LA, lc, O1, cs, CA, cc, O2, evs, EA, ec, O3⟩ := d
 generalize hz1 : cellX x.h a = z1
 generalize hz2 : cellX x.h (a + 1) = z2
 obtain ⟨k1, n1, s1⟩ := z1
 obtain ⟨k2, n2, s2⟩ := z2
 by_cases h1 : k1 = 2
 ·by_cases h2 : k2 = 2
  ·have e : numsV x.h a = .tuple #[.int .i64 n1, .int .i64 n2, .bool true] := by unfold numsV; rw [hz1, hz2]; simp [h1, h2]
   rw [e]
   refine Z8 ?_
   clear hS
   intro b1 wx1 hS
   refine Z8 ?_
   clear hS
   intro b2 wx2 hS
   refine Zc ?_
   clear hS
   intro wx3 hS
   refine Zc ?_
   clear hS
   intro wx4 hS
   refine ZbG ?_
   refine ZbD ?_
   refine ZX ?_
   refine Zcs ?_
   refine Zb4 ?_
   refine Zi ?_
   refine Zev ?_
   replace hS := hS.drew
   refine Zbd ?_
   refine ZG ?_
   refine Zbd ?_
   refine ZG ?_
   refine ZcP ?_
   refine Zdj ?_
   refine ZfD ?_
   exact ⟨rfl, _, F, hFF, hok, hS.drop.drop⟩
  ·have e : numsV x.h a = .tuple #[.int .i64 0, .int .i64 0, .bool false] := by unfold numsV; rw [hz1, hz2]; simp [h2]
   rw [e]
   refine Z8 ?_
   clear hS
   intro b1 wx1 hS
   refine Z8 ?_
   clear hS
   intro b2 wx2 hS
   refine Zc ?_
   clear hS
   intro wx3 hS
   refine Zc ?_
   clear hS
   intro wx4 hS
   refine ZbG ?_
   refine ZbD ?_
   refine ZX ?_
   refine Zcs ?_
   refine Zn ?_
   refine ZbY ?_
   refine Zbb ?_
   refine ZfD ?_
   exact ⟨rfl, _, F, hFF, hok, hS.drop.drop⟩
 ·have e : numsV x.h a = .tuple #[.int .i64 0, .int .i64 0, .bool false] := by unfold numsV; rw [hz1, hz2]; simp [h1]
  rw [e]
  refine Z8 ?_
  clear hS
  intro b1 wx1 hS
  refine Z8 ?_
  clear hS
  intro b2 wx2 hS
  refine Zc ?_
  clear hS
  intro wx3 hS
  refine Zc ?_
  clear hS
  intro wx4 hS
  refine ZbG ?_
  refine Zn ?_
  refine ZbZ ?_
  refine Zav ?_
  refine Zbb ?_
  refine ZfD ?_
  exact ⟨rfl, _, F, hFF, hok, hS.drop.drop⟩
end
end Go.Proofs.YthliapbflkfdiabGreat
namespace Go.Proofs.YthliapbflkfdiabGreat
open Go.RowKit
set_option linter.unusedVariables false
set_option linter.unusedSimpArgs false
set_option maxRecDepth 100000
set_option maxHeartbeats 1000000
theorem XBd.setH {x : XS} (h : XBd x) (k : HH) : XBd (x.setH k) := ⟨h.ln, h.cn, h.ch⟩
section
variable {M : List Nat} {w0 : World} {H : List (Nat × Obj)} {F0 : List (World → Prop)} {b : Nat} {P : List LB} {pA : Option Addr} {pc vars fuel every : Nat}
theorem magain_any (x : XS) (w : World) (hbd : XBd x) (hs : XSt M w0 H F0 b P pA pc vars fuel every x w) :
  Calls Tryz.prog 50 #[ptm b] w fun e w' => e = .returned (.int .i64 (againX x).1) ∧ XSt M w0 H F0 b P pA pc vars fuel every (againX x).2 w' :=
 mretry_all _ F0 x w rfl hbd hs
theorem mequal_any (x : XS) (i j : Int) (w : World) (hbd : XBd x) (hs : XSt M w0 H F0 b P pA pc vars fuel every x w) :
  Calls Tryz.prog 53 #[ptm b, .int .i64 i, .int .i64 j] w fun e w' => e = .returned (.int .i64 (equalX i j x).1) ∧ XSt M w0 H F0 b P pA pc vars fuel every (equalX i j x).2 w' := by
 obtain ⟨d, F, hFF, hok, hS⟩ := hs
 obtain ⟨hA, hc, hB, hd, LA, lc, O1, cs, CA, cc, O2, evs, EA, ec, O3⟩ := d
 refine goes_enter3 Tryz.func53 rfl Tryz.ntmps53 rfl ?_
 refine Zj ?_
 refine ZdK ?_
 refine Calls.mono (munify_any x i j _ ⟨_, F, hFF, hok, hS⟩) ?_
 rintro _ w3 ⟨rfl, hq⟩
 refine Za ?_
 clear hS hok hFF
 have hb2 := hbd.setH (unifyH x.h i j).1
 have he : equalX i j x = if (unifyH x.h i j).2.2 ≠ 0 then (4, x.setH (unifyH x.h i j).1) else if (unifyH x.h i j).2.1 = false then againX (x.setH (unifyH x.h i j).1) else (0, x.setH (unifyH x.h i j).1) := rfl
 rw [he]
 obtain ⟨d2, F2, hF2, hok2, hS⟩ := hq
 by_cases h0 : (unifyH x.h i j).2.2 = 0
 ·rw [decide_eq_false (fun h => h h0), if_neg (fun h => h h0)]
  cases hk : (unifyH x.h i j).2.1 with
  | false =>
   rw [if_pos rfl]
   refine Zb8 ?_
   refine ZaE ?_
   refine ZY ?_
   refine Zt ?_
   refine Zap ?_
   refine Calls.mono (magain_any _ _ hb2 ⟨d2, F2, hF2, hok2, hS⟩) ?_
   rintro _ w4 ⟨rfl, hq⟩
   refine ZB ?_
   refine goes_ret1 Tryz.func53 rfl (by conv=>lhs;whnf) ?_
   exact ⟨rfl, hq⟩
  | true =>
   rw [if_neg (by decide)]
   refine Zb8 ?_
   refine ZaE ?_
   refine ZT ?_
   refine Zj ?_
   refine goes_ret1 Tryz.func53 rfl (by conv=>lhs;whnf) ?_
   exact ⟨rfl, d2, F2, hF2, hok2, hS⟩
 ·rw [decide_eq_true h0, if_pos h0]
  refine Zb8 ?_
  refine ZI ?_
  refine goes_ret1 Tryz.func53 rfl (by conv=>lhs;whnf) ?_
  exact ⟨rfl, d2, F2, hF2, hok2, hS⟩
def Leads (h : HH) (a : Int) : Prop := ∃ z, hat h.cs (hlook h.cs a) = some z ∧ -1099511627776 ≤ z.n ∧ z.n ≤ 1099511627776
theorem Leads.n {h : HH} {a : Int} (l : Leads h a) : -1099511627776 ≤ (cellX h a).n ∧ (cellX h a).n ≤ 1099511627776 := by
 obtain ⟨z, h1, h2, h3⟩ := l
 unfold cellX; rw [h1]; exact ⟨h2, h3⟩
theorem mless_any (x : XS) (a : Int) (w : World) (hbd : XBd x) (ha : 0 ≤ a ∧ a ≤ 1099511627776) (hl : Leads x.h a) (hl1 : Leads x.h (a + 1)) (hlen : x.h.cs.length ≤ 65536) (hs : XSt M w0 H F0 b P pA pc vars fuel every x w) :
  Calls Tryz.prog 54 #[ptm b, .int .i64 a] w fun e w' => e = .returned (.int .i64 (lessX a x).1) ∧ XSt M w0 H F0 b P pA pc vars fuel every (lessX a x).2 w' := by
 obtain ⟨d, F, hFF, hok, hS⟩ := hs
 obtain ⟨hA, hc, hB, hd, LA, lc, O1, cs, CA, cc, O2, evs, EA, ec, O3⟩ := d
 have hn := hl.n
 have hn1 := hl1.n
 have hu : lessX a x = if (cellX x.h a).k ≠ 2 ∨ (cellX x.h (a + 1)).k ≠ 2 then (5, x) else if (cellX x.h (a + 1)).n ≤ (cellX x.h a).n then againX x else (0, x) := rfl
 rw [hu]
 refine goes_enter2 Tryz.func54 rfl Tryz.ntmps54 rfl ?_
 refine Zj ?_
 refine ZaY ?_
 refine ZgB ?_
 rintro _ w3 ⟨rfl, hq⟩
 refine Za ?_
 clear hS hok hFF
 obtain ⟨d2, F2, hF2, hok2, hS⟩ := hq
 by_cases hk : (cellX x.h a).k ≠ 2 ∨ (cellX x.h (a + 1)).k ≠ 2
 ·rw [if_pos hk, show numsV x.h a = .tuple #[.int .i64 0, .int .i64 0, .bool false] from if_pos hk]
  refine Zaf ?_
  refine Za0 ?_
  refine Zaz ?_
  refine Zdp ?_
  refine goes_ret1 Tryz.func54 rfl (by conv=>lhs;whnf) ?_
  exact ⟨rfl, d2, F2, hF2, hok2, hS⟩
 ·rw [if_neg hk, show numsV x.h a = .tuple #[.int .i64 (cellX x.h a).n, .int .i64 (cellX x.h (a + 1)).n, .bool true] from if_neg hk]
  by_cases hlt : (cellX x.h (a + 1)).n ≤ (cellX x.h a).n
  ·rw [if_pos hlt]
   refine Zaf ?_
   refine Za0 ?_
   refine Zaz ?_
   refine ZT ?_
   refine ZdL ?_
   refine ZaQ ?_
   refine Zt ?_
   refine Zap ?_
   refine Calls.mono (magain_any _ _ hbd ⟨d2, F2, hF2, hok2, hS⟩) ?_
   rintro _ w4 ⟨rfl, hq⟩
   refine ZB ?_
   refine goes_ret1 Tryz.func54 rfl (by conv=>lhs;whnf) ?_
   exact ⟨rfl, hq⟩
  ·rw [if_neg hlt]
   refine Zaf ?_
   refine Za0 ?_
   refine Zaz ?_
   refine ZT ?_
   refine ZdL ?_
   refine ZaQ ?_
   refine Zv ?_
   refine Zj ?_
   refine goes_ret1 Tryz.func54 rfl (by conv=>lhs;whnf) ?_
   exact ⟨rfl, d2, F2, hF2, hok2, hS⟩
end
end Go.Proofs.YthliapbflkfdiabGreat
namespace Go.Proofs.YthliapbflkfdiabGreat
open Go.RowKit
set_option linter.unusedVariables false
set_option linter.unusedSimpArgs false
set_option maxRecDepth 100000
set_option maxHeartbeats 1000000
section
variable {M : List Nat} {w0 : World} {H : List (Nat × Obj)} {F0 : List (World → Prop)} {b : Nat} {P : List LB} {pA : Option Addr} {pc vars fuel every : Nat}
theorem madd_any (x : XS) (a : Int) (w : World) (hbd : XBd x) (ha : 0 ≤ a ∧ a ≤ 1099511627776) (hl : Leads x.h a) (hl1 : Leads x.h (a + 1)) (hlen : x.h.cs.length ≤ 65536) (hs : XSt M w0 H F0 b P pA pc vars fuel every x w) :
  Calls Tryz.prog 55 #[ptm b, .int .i64 a] w fun e w' => e = .returned (.int .i64 (addX a x).1) ∧ XSt M w0 H F0 b P pA pc vars fuel every (addX a x).2 w' := by
 obtain ⟨d, F, hFF, hok, hS⟩ := hs
 obtain ⟨hA, hc, hB, hd, LA, lc, O1, cs, CA, cc, O2, evs, EA, ec, O3⟩ := d
 have hn := hl.n
 have hn1 := hl1.n
 have hu : addX a x = if (cellX x.h a).k ≠ 2 ∨ (cellX x.h (a + 1)).k ≠ 2 then (5, x)
  else if (cellX x.h a).n + (cellX x.h (a + 1)).n < -1099511627776 ∨ 1099511627776 < (cellX x.h a).n + (cellX x.h (a + 1)).n then (5, x)
  else equalX (a + 2) (loadH x.h [⟨2, (cellX x.h a).n + (cellX x.h (a + 1)).n, eS⟩]).2.1 (x.setH (loadH x.h [⟨2, (cellX x.h a).n + (cellX x.h (a + 1)).n, eS⟩]).1) := rfl
 rw [hu]
 refine goes_enter2 Tryz.func55 rfl Tryz.ntmps55 rfl ?_
 refine Zj ?_
 refine ZaY ?_
 refine ZgB ?_
 rintro _ w3 ⟨rfl, hq⟩
 refine Za ?_
 clear hS hok hFF
 obtain ⟨d2, F2, hF2, hok2, hS⟩ := hq
 generalize hna : (cellX x.h a).n = na at *
 generalize hnb : (cellX x.h (a + 1)).n = nb at *
 by_cases hk : (cellX x.h a).k ≠ 2 ∨ (cellX x.h (a + 1)).k ≠ 2
 ·rw [if_pos hk, show numsV x.h a = .tuple #[.int .i64 0, .int .i64 0, .bool false] from if_pos hk]
  refine Zaf ?_
  refine Zbb ?_
  refine Zbr ?_
  refine Z0 ?_
  refine ZY ?_
  refine ZaI ?_
  refine Zx ?_
  refine ZaI ?_
  refine ZaN ?_
  refine ZeX ?_
  exact ⟨rfl, d2, F2, hF2, hok2, hS⟩
 ·rw [if_neg hk, show numsV x.h a = .tuple #[.int .i64 na, .int .i64 nb, .bool true] by unfold numsV; rw [if_neg hk, hna, hnb]]
  by_cases hlt : na + nb < -1099511627776
  ·rw [if_pos (.inl hlt)]
   refine Zaf ?_
   refine Zbb ?_
   refine Zbr ?_
   refine Z0 ?_
   refine ZdE ?_
   refine Zaa ?_
   refine Zx ?_
   refine ZaI ?_
   refine ZaN ?_
   refine ZeX ?_
   exact ⟨rfl, d2, F2, hF2, hok2, hS⟩
  ·by_cases hgt : 1099511627776 < na + nb
   ·rw [if_pos (.inr hgt)]
    refine Zaf ?_
    refine Zbb ?_
    refine Zbr ?_
    refine Z0 ?_
    refine ZdE ?_
    refine Zaa ?_
    refine Zx ?_
    refine ZbJ ?_
    refine ZaN ?_
    refine ZeX ?_
    exact ⟨rfl, d2, F2, hF2, hok2, hS⟩
   ·rw [if_neg (by omega)]
    refine Zaf ?_
    refine Zbb ?_
    refine Zbr ?_
    refine Z0 ?_
    refine ZdE ?_
    refine Zaa ?_
    refine Zx ?_
    refine ZbJ ?_
    refine Zay ?_
    refine Zbr ?_
    refine ZO ?_
    refine ZeS ?_
    refine Zco ?_
    clear hS
    intro b1 wx1 hS
    replace hS := St.freeze hS
    have hK : Und ((fun w => w.heap[b1]? = some (.cells [.int .i64 2, .int .i64 (na + nb), .string eS].toArray 84)) :: F2) (Flat 3 (hcsL [⟨2, na + nb, eS⟩]) (some ⟨b1, 0, none⟩) 1 1) := by
     intro w' hw
     refine ⟨rfl, Nat.le_refl _, fun _ => ⟨b1, 0, rfl, fun j v hj => ?_⟩⟩
     rw [cell_own (hw _ (.head _)), Nat.zero_add]; exact hj
    refine Zm ?_
    refine Calls.mono (mload_any (F0 := _ :: F2) x [⟨2, na + nb, eS⟩] (some ⟨b1, 0, none⟩) 1 _ hK ⟨d2, _, fun _ h => h, hok2.mono (fun φ h => .tail _ h), hS⟩) ?_
    rintro _ w5 ⟨rfl, hq⟩
    refine Za ?_
    clear hS
    replace hq := hq.weaken (F0 := F0) fun φ h => .tail _ (hF2 φ h)
    obtain ⟨d3, F3, hF3, hok3, hS⟩ := hq
    have hb3 := hbd.setH (loadH x.h [⟨2, na + nb, eS⟩]).1
    refine Zs ?_
    refine Calls.mono (mequal_any (x.setH (loadH x.h [⟨2, na + nb, eS⟩]).1) (a + 2) ((loadH x.h [⟨2, na + nb, eS⟩]).2.1 : Nat) _ hb3 ⟨d3, F3, hF3, hok3, hS⟩) ?_
    rintro _ w6 ⟨rfl, hq⟩
    refine ZB ?_
    refine ZeX ?_
    exact ⟨rfl, hq⟩
end
end Go.Proofs.YthliapbflkfdiabGreat
namespace Go.Proofs.YthliapbflkfdiabGreat
open Go.RowKit
set_option linter.unusedVariables false
set_option linter.unusedSimpArgs false
set_option maxRecDepth 100000
set_option maxHeartbeats 1000000
section
variable {M : List Nat} {w0 : World} {H : List (Nat × Obj)} {F0 : List (World → Prop)} {b : Nat} {P : List LB} {pA : Option Addr} {pc vars fuel every : Nat}
theorem mbuiltin_any (x : XS) (l : XL) (z : HC) (w : World) (hbd : XBd x) (hz : hat x.h.cs l.g = some z) (hlo : l.o ≤ x.ch.length) (hlen : x.h.cs.length ≤ 65536) (hld : z.s.toList = [108, 101, 115, 115] ∨ z.s.toList = [97, 100, 100] → Leads x.h (l.g + 1) ∧ Leads x.h (l.g + 1 + 1)) (hs : XSt M w0 H F0 b P pA pc vars fuel every x w) :
  Calls Tryz.prog 31 #[ptm b, .agg (xlcs l).toArray] w fun e w' => e = .returned (.int .i64 (builtX l x).1) ∧ XSt M w0 H F0 b P pA pc vars fuel every (builtX l x).2 w' := by
 obtain ⟨d, F, hFF, hok, hS⟩ := hs
 obtain ⟨hA, hc, hB, hd, LA, lc, O1, cs, CA, cc, O2, evs, EA, ec, O3⟩ := d
 have hgz : gcell x.h l.g = z := by unfold gcell; rw [hz]; rfl
 have hbm : builtX l x = if z.s.toList = [33] then (0, ⟨x.h, x.goals, x.ln, x.first, x.ch.drop (x.ch.length - l.o), x.ev⟩)
  else if z.s.toList = [116, 114, 117, 101] then (0, x) else if z.s.toList = [101, 113] then equalX (l.g + 1) (l.g + 1 + 1) x
  else if z.s.toList = [108, 101, 115, 115] then lessX (l.g + 1) x else if z.s.toList = [97, 100, 100] then addX (l.g + 1) x else againX x := by
  unfold builtX; rw [hgz]
 obtain ⟨z0, z1, z2⟩ := hatS.1 hz
 obtain ⟨hb_, ho_, rfl⟩ : ∃ b o, hA = some ⟨b, o, none⟩ := (hS.und hok.hh).1.some_ (by show 0 < x.h.cs.length; omega)
 have hcell : ∀ {H'} w', St M w0 H' F w' → _ := fun w' hS => ((hS.und hok.hh).1).cell z2
 have hxs : ∀ w', St M w0 ((b, mob P pA pc vars fuel every x ⟨some ⟨hb_, ho_, none⟩, hc, hB, hd, LA, lc, O1, cs, CA, cc, O2, evs, EA, ec, O3⟩) :: (O1 ++ (O2 ++ (O3 ++ H)))) F w' → XSt M w0 H F0 b P pA pc vars fuel every x w' := fun w' h => ⟨_, F, hFF, hok, h⟩
 have hlc : cs.length = x.ch.length := by
  have : cs.map LX.xc = x.ch := hok.hc
  rw [← this]; simp
 have hcn := hbd.cn
 refine goes_enter2 Tryz.func31 rfl Tryz.ntmps31 rfl ?_
 by_cases h1 : z.s.toList = [33]
 ·rw [if_pos h1] at hbm
  rw [hbm]
  have e1 := (toList_iff [33]).1 h1
  have hrow2 : Row 108 4 (.slice CA cs.length cc) cs.length (xcL cs.reverse) O2 := hok.row2
  have hcap := hrow2.cap
  have hcut := hrow2.cut (m := l.o) (by omega)
  dsimp only [mob, mcs] at hS
  refine Ze ?_
  clear hS
  intro b1 wx1 hS
  refine ZdO ?_
  replace hS := hS.drew
  refine ZdP ?_
  refine ZaT ?_
  refine Zbp ?_
  refine Zi ?_
  refine ZfQ ?_
  replace hS := hS.drew
  refine Zb9 ?_
  refine Zc8 ?_
  refine Zes ?_
  refine Zbd ?_
  refine Zes ?_
  refine ord_read rfl (fun _ hS => run_slice_slice (sz := 4) rfl rfl rfl rfl (by omega) (by omega)) rfl ?_
  refine Zam ?_
  refine Zc8 ?_
  refine ZaD ?_
  clear hS
  intro wx2 hS
  refine Za9 ?_
  refine Zc9 ?_
  refine ⟨rfl, ⟨some ⟨hb_, ho_, none⟩, hc, hB, hd, LA, lc, O1, cs.drop (cs.length - l.o), CA, cc, O2, evs, EA, ec, O3⟩, F, hFF, ?_, ?_⟩
  ·have e2 : (cs.drop (cs.length - l.o)).length = l.o := by simp; omega
   refine ⟨hok.hh, hok.row1, ?_, fun c hc => hok.rc c (List.mem_of_mem_drop hc), ?_, hok.he, hok.re, hok.row3, hok.rp⟩
   ·show (cs.drop (cs.length - l.o)).map LX.xc = x.ch.drop (x.ch.length - l.o)
    rw [← show cs.map LX.xc = x.ch from hok.hc, List.map_drop]; simp
   ·show Row _ _ (.slice CA (cs.drop (cs.length - l.o)).length cc) (cs.drop (cs.length - l.o)).length _ _
    rw [e2]
    have e3 : (xcL cs.reverse).take (l.o * 4) = xcL (cs.drop (cs.length - l.o)).reverse := by
     have e4 : cs.reverse = (cs.drop (cs.length - l.o)).reverse ++ (cs.take (cs.length - l.o)).reverse := by rw [← List.reverse_append, List.take_append_drop]
     rw [e4, xcL_app, List.take_append_of_le_length (by rw [xcL_len]; simp; omega), List.take_of_length_le (by rw [xcL_len]; simp; omega)]
    rw [← e3]; exact hcut
  ·have e2 : (cs.drop (cs.length - l.o)).length = l.o := by simp; omega
   dsimp only [mob, mcs] at hS ⊢
   rw [e2]; exact hS.drop
 rw [if_neg h1] at hbm
 have e1 : z.s ≠ ⟨#[33]⟩ := fun h => h1 ((toList_iff [33]).2 h)
 by_cases h2 : z.s.toList = [116, 114, 117, 101]
 ·rw [if_pos h2] at hbm
  rw [hbm]
  have e2 := (toList_iff [116, 114, 117, 101]).1 h2
  refine Ze ?_
  clear hS
  intro b1 wx1 hS
  refine ZdO ?_
  replace hS := hS.drew
  refine ZdP ?_
  refine ZaT ?_
  refine Zdc ?_
  refine Zbp ?_
  refine Zj ?_
  refine Zc9 ?_
  exact ⟨rfl, hxs _ hS.drop⟩
 rw [if_neg h2] at hbm
 have e2 : z.s ≠ ⟨#[116, 114, 117, 101]⟩ := fun h => h2 ((toList_iff [116, 114, 117, 101]).2 h)
 by_cases h3 : z.s.toList = [101, 113]
 ·rw [if_pos h3] at hbm
  rw [hbm]
  have e3 := (toList_iff [101, 113]).1 h3
  refine Ze ?_
  clear hS
  intro b1 wx1 hS
  refine ZdO ?_
  replace hS := hS.drew
  refine ZdP ?_
  refine Zca ?_
  refine Zbp ?_
  refine ZdF ?_
  refine Zs ?_
  refine Calls.mono (mequal_any x (l.g + 1) (l.g + 1 + 1) _ hbd (hxs _ hS.drop)) ?_
  rintro _ w5 ⟨rfl, hq⟩
  refine ZB ?_
  refine Zc9 ?_
  exact ⟨rfl, hq⟩
 rw [if_neg h3] at hbm
 have e3 : z.s ≠ ⟨#[101, 113]⟩ := fun h => h3 ((toList_iff [101, 113]).2 h)
 by_cases h4 : z.s.toList = [108, 101, 115, 115]
 ·rw [if_pos h4] at hbm
  rw [hbm]
  have e4 := (toList_iff [108, 101, 115, 115]).1 h4
  obtain ⟨l1, l2⟩ := hld (.inl h4)
  refine Ze ?_
  clear hS
  intro b1 wx1 hS
  refine ZdO ?_
  replace hS := hS.drew
  refine ZdP ?_
  refine Zca ?_
  refine Zdc ?_
  refine Zbp ?_
  refine ZaY ?_
  refine Calls.mono (mless_any x (l.g + 1) _ hbd (by omega) l1 l2 hlen (hxs _ hS.drop)) ?_
  rintro _ w5 ⟨rfl, hq⟩
  refine ZB ?_
  refine Zc9 ?_
  exact ⟨rfl, hq⟩
 rw [if_neg h4] at hbm
 have e4 : z.s ≠ ⟨#[108, 101, 115, 115]⟩ := fun h => h4 ((toList_iff [108, 101, 115, 115]).2 h)
 by_cases h5 : z.s.toList = [97, 100, 100]
 ·rw [if_pos h5] at hbm
  rw [hbm]
  have e5 := (toList_iff [97, 100, 100]).1 h5
  obtain ⟨l1, l2⟩ := hld (.inr h5)
  refine Ze ?_
  clear hS
  intro b1 wx1 hS
  refine ZdO ?_
  replace hS := hS.drew
  refine ZdP ?_
  refine Zca ?_
  refine Zel ?_
  refine Zbp ?_
  refine ZaY ?_
  refine Calls.mono (madd_any x (l.g + 1) _ hbd (by omega) l1 l2 hlen (hxs _ hS.drop)) ?_
  rintro _ w5 ⟨rfl, hq⟩
  refine ZB ?_
  refine Zc9 ?_
  exact ⟨rfl, hq⟩
 rw [if_neg h5] at hbm
 have e5 : z.s ≠ ⟨#[97, 100, 100]⟩ := fun h => h5 ((toList_iff [97, 100, 100]).2 h)
 rw [hbm]
 refine Ze ?_
 clear hS
 intro b1 wx1 hS
 refine ZdO ?_
 replace hS := hS.drew
 refine ZdP ?_
 refine Zca ?_
 refine Zel ?_
 refine Za1 ?_
 refine Zd ?_
 refine ZcE ?_
 refine Zap ?_
 refine Calls.mono (magain_any x _ hbd (hxs _ hS.drop)) ?_
 rintro _ w5 ⟨rfl, hq⟩
 refine ZB ?_
 refine Zc9 ?_
 exact ⟨rfl, hq⟩
end
end Go.Proofs.YthliapbflkfdiabGreat
namespace Go.Proofs.YthliapbflkfdiabGreat
open Go.RowKit
set_option linter.unusedVariables false
set_option linter.unusedSimpArgs false
set_option maxRecDepth 100000
set_option maxHeartbeats 1000000
section
variable {M : List Nat} {w0 : World} {H : List (Nat × Obj)} {F : List (World → Prop)}
theorem misBuiltin_any (z : HC) (w : World) (h0 : 0 ≤ z.n) (h1 : z.n ≤ 1000000) (hS : St M w0 H F w) :
  Calls Tryz.prog 30 #[.agg (hcs z).toArray] w fun e w' => e = .returned (.bool (builtB z.s.toList z.n.toNat)) ∧ St M w0 H F w' := by
 obtain ⟨zk, zn, zs⟩ := z
 dsimp only at h0 h1
 obtain ⟨k, rfl⟩ := Int.eq_ofNat_of_zero_le h0
 refine goes_enter1 Tryz.func30 rfl Tryz.ntmps30 rfl ?_
 refine Ze ?_
 clear hS
 intro b1 wx1 hS
 refine Z4 ?_
 refine goes_draw (St _ _ _ _) 8 ((0, true) :: (1, true) :: (2, true) :: (3, true) :: (4, false) :: (5, true) :: (6, false) :: (7, true) :: []) (by kernel_rfl) (by kernel_rfl) (hS.drew) ?_
 replace hS := hS.drew
 refine ZcQ ?_
 refine ZG ?_
 refine Zbd ?_
 refine ZG ?_
 refine Zr ?_
 refine Zfy ?_
 clear hS
 intro g w2 cs hcs hS
 refine Zar ?_
 refine ord_read rfl (fun _ hS => run_build (cells := [_, _, _, _]) (.cons (by conv=>lhs;whnf) (.cons (by conv=>lhs;whnf) .nil)) rfl) rfl ?_
 refine Zr ?_
 refine Zl ?_
 refine Calls.mono (builtin_any 0 0 zs (some ⟨g, 0, none⟩) k k _) ?_
 rintro _ w3 ⟨rfl, hb3⟩
 refine Za ?_
 replace hS := hS.grow hb3
 refine Zar ?_
 refine Zek ?_
 refine goes_ret1 Tryz.func30 rfl (by conv=>lhs;whnf) ?_
 exact ⟨rfl, hS.drop.drop⟩
end
section
variable {M : List Nat} {w0 : World} {H : List (Nat × Obj)} {F0 : List (World → Prop)} {b : Nat} {P : List LB} {pA : Option Addr} {pc vars fuel every : Nat}
theorem filter_fit (z : HC) (P : List LB) : (P.map LB.cl).filter (fun c => decide (headX c = z)) = (P.filter (fitX z)).map LB.cl := by
 rw [List.filter_map]; rfl
theorem mcall_any (x : XS) (a : Nat) (z : HC) (w : World) (hbd : XBd x) (ha : a < x.ln.length) (hz : hat x.h.cs (lnk x.ln a).g = some z) (hlen : x.h.cs.length ≤ 65536) (htr : x.h.tr.length ≤ 1000000) (hP : ∀ p ∈ P, p.ok ∧ GOk p.cl) (hl : P.length ≤ 24) (hs : XSt M w0 H F0 b P pA pc vars fuel every x w) :
  Calls Tryz.prog 32 #[ptm b, .int .i64 (a : Nat)] w fun e w' => e = .returned (.int .i64 (callX (P.map LB.cl) a x).1) ∧ XSt M w0 H F0 b P pA pc vars fuel every (callX (P.map LB.cl) a x).2 w' := by
 obtain ⟨d, F, hFF, hok, hS⟩ := hs
 obtain ⟨hA, hc, hB, hd, LA, lc, O1, cs, CA, cc, O2, evs, EA, ec, O3⟩ := d
 have hgz : gcell x.h (lnk x.ln a).g = z := by unfold gcell; rw [hz]; rfl
 have hcx : callX (P.map LB.cl) a x = match (P.filter (fitX z)).map LB.cl with
   | [] => (5, x)
   | c :: more => attX (retX x.ch) a x.h.cs.length x.h.tr.length (c :: more) x := by
  unfold callX; rw [hgz, filter_fit]; cases P.filter (fitX z) <;> rfl
 obtain ⟨z0, z1, z2⟩ := hatS.1 hz
 obtain ⟨hb_, ho_, rfl⟩ : ∃ b o, hA = some ⟨b, o, none⟩ := (hS.und hok.hh).1.some_ (by show 0 < x.h.cs.length; omega)
 have hcell : ∀ {H'} w', St M w0 H' F w' → _ := fun w' hS => ((hS.und hok.hh).1).cell z2
 obtain ⟨l0, l1, l2⟩ := xlL_get x.ln a _ (lnk_get ha)
 have hrow1 : Row 81 3 (.slice LA x.ln.length lc) x.ln.length (xlL x.ln) O1 := hok.row1
 obtain ⟨gl, sp, rfl, rfl, hcap⟩ := hrow1.some_ (by omega)
 have hll : ∀ {M2 H' F'} w', St M2 w0 H' F' w' → (gl, Obj.cells (xlL x.ln ++ sp).toArray 81) ∈ H' → _ := fun {M2 H' F'} w' (hS : St M2 w0 H' F' w') hm => Row.cell (w := w') hrow1 hS (by intro p hp; obtain rfl := List.mem_singleton.1 hp; exact hm) rfl l0
 have hln := hbd.ln
 refine goes_enter2 Tryz.func32 rfl Tryz.ntmps32 rfl ?_
 refine Zj ?_
 refine Zi ?_
 refine ZfE ?_
 replace hS := hS.drew
 refine Zq ?_
 refine Z1 ?_
 refine Zah ?_
 refine Zed ?_
 refine Z3 ?_
 refine Zbx ?_
 refine Zed ?_
 refine Zq ?_
 refine Za2 ?_
 refine Zah ?_
 refine Zed ?_
 refine Za2 ?_
 first
  | refine ord_read rfl (fun _ hS => run_loadN_own (k := 3) hS rfl rfl rfl (by first | exact .head | exact .tail .head | exact .tail (.tail .head) | exact .tail (.tail (.tail .head)) | exact .tail (.tail (.tail (.tail .head))) | exact .tail (.tail (.tail (.tail (.tail .head))))) (by repeat constructor)) rfl ?_
  | refine ord_read rfl (fun _ hS => run_loadN_own (k := 3) hS rfl rfl rfl (by first | exact .head | exact .tail .head | exact .tail (.tail .head) | exact .tail (.tail (.tail .head)) | exact .tail (.tail (.tail (.tail .head))) | exact .tail (.tail (.tail (.tail (.tail .head))))) (by assumption)) rfl ?_
  | refine ord_read rfl (fun _ hS => run_load3 rfl rfl rfl (by first | assumption | exact (hcell _ hS).1 | exact (hcell _ hS).2.1 | exact (hcell _ hS).2.2 | exact hll _ hS (by simp) | exact hS.cell0 (by assumption)) (by first | assumption | exact (hcell _ hS).1 | exact (hcell _ hS).2.1 | exact (hcell _ hS).2.2 | exact hll _ hS (by simp) | exact hS.cell0 (by assumption)) (by first | assumption | exact (hcell _ hS).1 | exact (hcell _ hS).2.1 | exact (hcell _ hS).2.2 | exact hll _ hS (by simp) | exact hS.cell0 (by assumption))) rfl ?_
 refine ZM ?_
 refine Zm ?_
 refine Calls.mono (mmatching_any (F0 := F) x z _ (fun p hp => (hP p hp).1) hl ⟨_, F, fun _ h => h, hok, hS⟩) ?_
 rintro _ w3 ⟨A3, c3, F3, rfl, hF3, hL3, hq⟩
 refine Za ?_
 clear hS
 obtain ⟨d4, F4, hF4, hok4, hS⟩ := hq
 have hfl := List.length_filter_le (fitX z) P
 have hsub : ∀ p ∈ P.filter (fitX z), GOk p.cl := fun p hp => (hP p (List.mem_filter.1 hp).1).2
 rw [hcx]
 generalize P.filter (fitX z) = L at *
 cases L with
 | nil =>
  refine Z0 ?_
  refine Zy ?_
  refine ZdJ ?_
  refine goes_ret1 Tryz.func32 rfl (by conv=>lhs;whnf) ?_
  exact ⟨rfl, d4, F4, fun φ h => hF4 φ (hF3 φ (hFF φ h)), hok4, hS⟩
 | cons y R =>
  refine Z0 ?_
  refine Zy ?_
  refine ZaU ?_
  refine Zi ?_
  obtain ⟨hA5, hc5, hB5, hd5, LA5, lc5, O15, cs5, CA5, cc5, O25, evs5, EA5, ec5, O35⟩ := d4
  refine ZfE ?_
  replace hS := hS.drew
  refine Zae ?_
  refine Zq ?_
  refine Z1 ?_
  refine Zah ?_
  refine Zed ?_
  refine ZeR ?_
  refine Z1 ?_
  refine Zbd ?_
  refine Zed ?_
  refine ZeR ?_
  refine ord_read rfl (fun _ hS => run_build (cells := [_, _, _, _]) (.cons (by conv=>lhs;whnf) (.cons (by conv=>lhs;whnf) (.cons (by conv=>lhs;whnf) (.cons (by conv=>lhs;whnf) .nil)))) rfl) rfl ?_
  refine ZM ?_
  refine Zm ?_
  refine Calls.mono (mattempt_any _ (mretry_all _) x a x.h.cs.length x.h.tr.length (y :: R) A3 c3 _ rfl hbd ha hsub (by omega) (by omega) (by omega) hL3 ⟨_, F4, hF4, hok4, hS⟩) ?_
  rintro _ w6 ⟨rfl, hq⟩
  refine ZB ?_
  refine goes_ret1 Tryz.func32 rfl (by conv=>lhs;whnf) ?_
  exact ⟨rfl, hq.weaken fun φ h => hF3 φ (hFF φ h)⟩
end
end Go.Proofs.YthliapbflkfdiabGreat
namespace Go.Proofs.YthliapbflkfdiabGreat
open Go.RowKit
set_option linter.unusedVariables false
set_option linter.unusedSimpArgs false
set_option maxRecDepth 100000
set_option maxHeartbeats 1000000
theorem termX_nodes (h : HH) (a most : Int) : (termH h a most).1.ar.nodes ≤ 65536 ∧ (termH h a most).2.1 ≤ 65536 := by
 unfold termH
 have hm : mostN most ≤ 65536 := by unfold mostN; omega
 split
 ·exact ⟨by simp [zeroTm, Ts.nodes], by simp⟩
 ·split
  ·exact ⟨by simp [zeroTm, Ts.nodes], by simp⟩
  ·split
   ·exact ⟨by simp [zeroTm, Ts.nodes], by simp⟩
   ·rename_i t l ht
    have := tmAt_nodes _ _ _ _ ht
    dsimp only at this ⊢
    omega
theorem varsX_nodes (h : HH) : ∀ (m v : Nat) (l : Int) (T : Ts) (l' : Int), varsX h m v l = some (T, l') → T.nodes ≤ m * 65537 ∧ T.length = m
 | 0, v, l, T, l', e => by
  simp only [varsX, Option.some.injEq, Prod.mk.injEq] at e
  rw [← e.1]; simp [Ts.nodes, Ts.length]
 | m + 1, v, l, T, l', e => by
  unfold varsX at e
  split at e
  ·cases e
  ·cases h2 : varsX h m (v + 1) (l - ((termH h (v : Nat) l).2.1 : Nat)) with
   | none => rw [h2] at e; cases e
   | some p =>
    obtain ⟨U, l2⟩ := p
    rw [h2] at e
    simp only [Option.some.injEq, Prod.mk.injEq] at e
    have i := varsX_nodes h m (v + 1) _ U l2 h2
    have j := termX_nodes h (v : Nat) l
    rw [← e.1]
    simp only [Ts.nodes, Ts.length]
    omega
section
variable {M : List Nat} {w0 : World} {H : List (Nat × Obj)} {F0 : List (World → Prop)} {b : Nat} {P : List LB} {pA : Option Addr} {pc vars fuel every : Nat}
theorem manswer_any (x : XS) (w : World) (hbd : XBd x) (hv8 : vars ≤ 8) (hev : x.ev.length < 12) (hs : XSt M w0 H F0 b P pA pc vars fuel every x w) :
  Calls Tryz.prog 28 #[ptm b] w fun e w' => e = .returned (.int .i64 (answerX vars x).1) ∧ XSt M w0 H F0 b P pA pc vars fuel every (answerX vars x).2 w' := by
 obtain ⟨d, F, hFF, hok, hS⟩ := hs
 obtain ⟨hA, hc, hB, hd, LA, lc, O1, cs, CA, cc, O2, evs, EA, ec, O3⟩ := d
 refine goes_enter1 Tryz.func28 rfl Tryz.ntmps28 rfl ?_
 refine Zdl ?_
 refine Z5 ?_
 refine Zfy ?_
 clear hS
 intro g w2 zs hzs hS
 refine Zd ?_
 refine ZdA ?_
 refine goes_loop2 16 4 (17 :: 18 :: 5 :: 20 :: 21 :: 22 :: 23 :: 24 :: 25 :: 26 :: 19 :: 27 :: 28 :: 29 :: 6 :: 7 :: 8 :: 30 :: 31 :: 2 :: 32 :: 33 :: 34 :: 35 :: 36 :: 37 :: 38 :: 39 :: []) (fun (m : Nat) v u w' => ∃ (D' : TA) (rs : List Value) (li : Int) (F' : List (World → Prop)), D'.len + m = vars ∧ rs.length = m * 4 ∧ v = .int .i64 (D'.len : Nat) ∧ u = .int .i64 li ∧ 200 - 65536 * (D'.len : Int) ≤ li ∧ li ≤ 200 ∧ varsX x.h vars 0 200 = (varsX x.h m D'.len li).map (fun p => (D'.ts.app p.1, p.2)) ∧ (∀ φ ∈ F, φ ∈ F') ∧ Und F' (AllR D') ∧ St M w0 ((g, .cells (tcsL D' ++ rs).toArray 60) :: (b, mob P pA pc vars fuel every x ⟨hA, hc, hB, hd, LA, lc, O1, cs, CA, cc, O2, evs, EA, ec, O3⟩) :: (O1 ++ (O2 ++ (O3 ++ H)))) F' w') (fun m => m) (vars) ?_ (by conv=>lhs;whnf) (by conv=>lhs;whnf) ?_
 ·exact ⟨.nil, zs, 200, F, by simp [TA.len], hzs, rfl, rfl, by simp [TA.len], by omega, (by show varsX x.h vars 0 200 = (varsX x.h vars 0 200).map _; cases varsX x.h vars 0 200 <;> rfl), fun _ h => h, fun _ _ => trivial, hS⟩
 clear hS
 rintro m _ _ w6 jv ⟨D', rs, li, F', hDm, hrs, rfl, rfl, hli0, hli, hvm, hFF', hAR, hS⟩ ih
 have hD4 := tcsL_len D'
 have hok' := hok.mono hFF'
 cases m with
 | zero =>
  obtain rfl : rs = [] := List.eq_nil_of_length_eq_zero (by simpa using hrs)
  have hvm2 : varsX x.h vars 0 200 = some (D'.ts, li) := by
   rw [hvm]
   show some (D'.ts.app .nil, li) = _
   rw [Ts.app_nil]
  have hnd := (varsX_nodes _ _ _ _ _ _ hvm2).1
  have hDl : D'.len = vars := by omega
  have hArA : ∀ w', St M w0 ((g, .cells (tcsL D' ++ []).toArray 60) :: (b, mob P pA pc vars fuel every x ⟨hA, hc, hB, hd, LA, lc, O1, cs, CA, cc, O2, evs, EA, ec, O3⟩) :: (O1 ++ (O2 ++ (O3 ++ H)))) F' w' → ArA (some ⟨g, 0, none⟩) vars D' w' := fun w' hS => by
   refine ⟨by omega, fun _ => ⟨g, 0, rfl, segA_of (hS.und hAR) fun j x hj => ?_⟩⟩
   rw [cell_own (hS.own (g, _) (.head _)), Nat.zero_add, List.append_nil]; exact hj
  have hrow3 : Row 47 2 (.slice EA evs.length ec) evs.length (evL evs) O3 := hok'.row3
  have hlev : evs.length = x.ev.length := by
   have : evs.map (fun e => e.T.ts) = x.ev := hok.he
   rw [← this]; simp
  refine ZJ ?_
  refine Zi ?_
  replace hS := hS.swap
  refine Zgn ?_
  replace hS := hS.drew
  refine Zb9 ?_
  refine ZfF ?_
  refine ZG ?_
  refine Zq ?_
  refine Zr ?_
  have htid := tidy_any D'.ts (.slice (some ⟨g, 0, none⟩) vars vars) _ (by have := (hArA _ hS.swap).sl; rw [hDl] at this; exact this) (by omega)
  refine Zl ?_
  refine Calls.mono htid ?_
  rintro _ w7 ⟨v7, rfl, hsl, hbl⟩
  refine Za ?_
  obtain ⟨A7, c7, L7, rfl, hL7, hS'⟩ := hS.located hbl hsl
  replace hS := hS'
  clear hS'
  refine Zau ?_
  refine Zgo ?_
  refine Zr ?_
  refine ZeT ?_
  clear hS
  intro b1 wx1 hS
  refine Zau ?_
  refine Zr ?_
  refine Zgs ?_
  clear hS
  intro v8 O8 w9 hrow8 hS
  obtain ⟨A8, c8, rfl⟩ := hrow8.form
  replace hS := hS.perm (perm_out [_, _] _ _ _ _).symm
  have hans : answerX vars x = if x.ev.length + 1 = 12 then (6, x.tell D'.ts) else againX (x.tell D'.ts) := by
   unfold answerX; rw [hvm2]
  have hs2 : ∀ w', St M w0 ((b, mob P pA pc vars fuel every (x.tell D'.ts) ⟨hA, hc, hB, hd, LA, lc, O1, cs, CA, cc, O2, evs ++ [⟨A7, c7, L7⟩], A8, c8, O8⟩) :: (g, .cells (tcsL D' ++ []).toArray 60) :: (O1 ++ (O2 ++ (O8 ++ H)))) (ArA A7 c7 L7 :: F') w' → XSt M w0 H F0 b P pA pc vars fuel every (x.tell D'.ts) w' := fun w' hS => by
   refine ⟨⟨hA, hc, hB, hd, LA, lc, O1, cs, CA, cc, O2, evs ++ [⟨A7, c7, L7⟩], A8, c8, O8⟩, _, fun φ h => .tail _ (hFF' φ (hFF φ h)), ?_, hS.swap.drop⟩
   have ho := hok'.mono (F' := ArA A7 c7 L7 :: F') fun φ h => .tail _ h
   refine ⟨ho.hh, ho.row1, ho.hc, ho.rc, ho.row2, ?_, ?_, ?_, ho.rp⟩
   ·show (evs ++ [LE.mk A7 c7 L7]).map _ = _
    rw [List.map_append, show evs.map (fun e => e.T.ts) = x.ev from ho.he]; simp [hL7, XS.tell]
   ·intro e he
    rcases List.mem_append.1 he with he | he
    ·exact ho.re e he
    ·obtain rfl : e = ⟨A7, c7, L7⟩ := by simpa using he
     exact Und.head
   ·show Row _ _ (.slice A8 (evs ++ [LE.mk A7 c7 L7]).length c8) (evs ++ [LE.mk A7 c7 L7]).length (evL (evs ++ [LE.mk A7 c7 L7])) _
    rw [evL_app, List.length_append]; exact hrow8
  have hb2 : XBd (x.tell D'.ts) := ⟨hbd.ln, hbd.cn, hbd.ch⟩
  have hlen1 : (evs ++ [LE.mk A7 c7 L7]).length = evs.length + 1 := by simp
  by_cases h12 : x.ev.length + 1 = 12
  ·rw [if_pos h12] at hans
   rw [hans]
   refine Zau ?_
   refine Zam ?_
   refine ZfF ?_
   refine ZaD ?_
   clear hS
   intro wx2 hS
   refine ZcG ?_
   refine lst_run (run_fieldAddr (off := 10) rfl rfl) rfl ?_
   refine Zbn ?_
   refine ZdJ ?_
   refine goes_ret1 Tryz.func28 rfl (by conv=>lhs;whnf) ?_
   exact ⟨rfl, hs2 _ (by dsimp only [mob, mcs]; rw [hlen1]; exact hS)⟩
  ·rw [if_neg h12] at hans
   rw [hans]
   refine Zau ?_
   refine Zam ?_
   refine ZfF ?_
   refine ZaD ?_
   clear hS
   intro wx2 hS
   refine ZcG ?_
   refine lst_run (run_fieldAddr (off := 10) rfl rfl) rfl ?_
   refine Zbn ?_
   refine ZaU ?_
   refine Zap ?_
   refine Calls.mono (magain_any _ _ hb2 (hs2 _ (by dsimp only [mob, mcs]; rw [hlen1]; exact hS))) ?_
   rintro _ w9 ⟨rfl, hq⟩
   refine ZB ?_
   refine goes_ret1 Tryz.func28 rfl (by conv=>lhs;whnf) ?_
   exact ⟨rfl, hq⟩
 | succ m =>
  obtain ⟨r0, r1, r2, r3, rs, rfl⟩ : ∃ r0 r1 r2 r3 rs', rs = [r0, r1, r2, r3] ++ rs' := by
   match rs, hrs with
   | r0 :: r1 :: r2 :: r3 :: rs', _ => exact ⟨r0, r1, r2, r3, rs', rfl⟩
   | [], h => simp at h
   | [_], h => simp at h; omega
   | [_, _], h => simp at h; omega
   | [_, _, _], h => simp at h; omega
  have hvs : varsX x.h (m + 1) D'.len li = if (termH x.h (D'.len : Nat) li).2.2 ≠ 0 then none else match varsX x.h m (D'.len + 1) (li - ((termH x.h (D'.len : Nat) li).2.1 : Nat)) with
   | none => none
   | some (T, l'') => some (.cons (termH x.h (D'.len : Nat) li).1.k (termH x.h (D'.len : Nat) li).1.n (termH x.h (D'.len : Nat) li).1.s (termH x.h (D'.len : Nat) li).1.ar T, l'') := rfl
  have htn := (termX_nodes x.h (D'.len : Nat) li).2
  refine ZaO ?_
  refine ZbC ?_
  refine Zaj ?_
  refine ZO ?_
  refine Zs ?_
  refine Calls.mono (termH_any x.h (D'.len : Nat) li hA hB hc hd _ hok'.hh hS) ?_
  rintro _ w7 ⟨u2, F2, rfl, hu2, hF2, hru2, hS'⟩
  refine Za ?_
  replace hS := hS'
  clear hS'
  by_cases he : (termH x.h (D'.len : Nat) li).2.2 = 0
  ·rw [if_neg (fun h => h he)] at hvs
   refine Zaf ?_
   refine Zz ?_
   clear hS
   intro b1 wx1 hS
   refine Zc ?_
   clear hS
   intro wx2 hS
   refine Zaz ?_
   refine Zn ?_
   refine Zv ?_
   refine ZD ?_
   refine Zak ?_
   refine Zas ?_
   refine Zgi ?_
   clear hS
   intro w8 hS
   refine Zb ?_
   refine ZV ?_
   refine ZaH ?_
   refine ZaC ?_
   refine ih (m) _ _ _ _ ?_ ?_ (by conv=>lhs;whnf) (by conv=>lhs;whnf) (by kernel_rfl)
   ·omega
   ·refine ⟨D'.app (.cons u2.k u2.n u2.s u2.A u2.c u2.ar .nil), rs, li - ((termH x.h (D'.len : Nat) li).2.1 : Nat), F2, by rw [TA.len_app]; simp only [TA.len]; omega, by simp at hrs; omega, by rw [TA.len_app]; rfl, rfl, by rw [TA.len_app]; simp only [TA.len]; omega, by omega, ?_, fun φ h => hF2 φ (hFF' φ h), ?_, ?_⟩
    ·rw [hvm, hvs, TA.app_ts, TA.len_app]
     show Option.map _ (match varsX x.h m (D'.len + 1) _ with | none => none | some (T, l'') => _) = Option.map _ (varsX x.h m (D'.len + 1) _)
     cases varsX x.h m (D'.len + 1) (li - ((termH x.h (D'.len : Nat) li).2.1 : Nat)) with
     | none => rfl
     | some q =>
      obtain ⟨T, l2⟩ := q
      show some (D'.ts.app _, l2) = some ((D'.ts.app (.cons u2.k u2.n u2.s u2.ar.ts .nil)).app T, l2)
      rw [Ts.app_assoc, ← hu2]; rfl
    ·exact fun w hw => AllR.app (U := .cons u2.k u2.n u2.s u2.A u2.c u2.ar .nil) ⟨hru2 w hw, trivial⟩ ((hAR.mono hF2) w hw)
    ·rw [tcsL_app, List.append_assoc]
     exact hS.drop
  ·rw [if_pos he] at hvs
   rw [hvs] at hvm
   have e : answerX vars x = (4, x) := by unfold answerX; rw [hvm]; rfl
   rw [e]
   refine Zaf ?_
   refine Zz ?_
   clear hS
   intro b1 wx1 hS
   refine Zc ?_
   clear hS
   intro wx2 hS
   refine Zaz ?_
   refine Zn ?_
   refine ZI ?_
   refine goes_ret1 Tryz.func28 rfl (by conv=>lhs;whnf) ?_
   exact ⟨rfl, _, F2, fun φ h => hF2 φ (hFF' φ (hFF φ h)), hok'.mono hF2, hS.drop.drop⟩
end
end Go.Proofs.YthliapbflkfdiabGreat
