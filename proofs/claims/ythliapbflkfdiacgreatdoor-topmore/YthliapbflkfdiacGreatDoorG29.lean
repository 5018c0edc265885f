/- Steps of the proof. -/
import Derived.Test.YthliapbflkfdiacGreatDoorG28
namespace Go.Proofs.YthliapbflkfdiacGreatDoor
open Go.RowKit
set_option linter.unusedVariables false
set_option linter.unusedSimpArgs false
set_option maxRecDepth 100000
set_option maxHeartbeats 1000000
section
variable {P : Program} {n : Nat} {e : Env} {w : World} {ty : TypeId} {pos : String} {after : Array Edge} {dst : Option Nat} {x y : Operand} {t t2 : TypeId}
theorem Qnw {a c : Nat} (hx : ev n e x = .int .i64 (a : Nat)) (hy : ev n e y = .int .i64 (c : Nat)) (h0 : 0 < c) (ha : a ≤ 9223372036854775807) (hc : c ≤ 9223372036854775807) :
  (execOp (ev n e) ⟨dst, .binOp .rem t x y t2, ty, pos, after, none⟩).run P w = .ok (.value (.int .i64 ((a % c : Nat) : Int))) w := by
 have h1 : ¬ ((c : Nat) : Int) = 0 := by omega
 have h2 : Op.intDiv .rem .i64 ((a : Nat) : Int) ((c : Nat) : Int) = pure (.int .i64 ((a : Int).tmod (c : Int))) := by unfold Op.intDiv; rw [if_neg h1]
 have h3 : (execOp (ev n e) ⟨dst, .binOp .rem t x y t2, ty, pos, after, none⟩).run P w = ((Op.intDiv .rem .i64 ((a : Nat) : Int) ((c : Nat) : Int)).bind fun r => pure (.value r)).run P w := by simp only [execOp, hx, hy]; rfl
 rw [h3, h2, Int.tmod_eq_emod_of_nonneg Ya, ← Int.natCast_emod]; rfl
end
structure QrO (x : XS) : Prop where
 bd : XBd x
 len : x.h.cs.length ≤ 65536
 tr : x.h.tr.length ≤ 1000000
 f0 : 0 ≤ x.first
 f1 : x.first < x.ln.length
 o : (lnk x.ln x.first.toNat).o ≤ x.ch.length
 goal : ∃ z, hat x.h.cs (lnk x.ln x.first.toNat).g = some z ∧ 0 ≤ z.n ∧ z.n ≤ 1000000 ∧ (QaG z.s.toList z.n.toNat = true → z.s.toList = [108, 101, 115, 115] ∨ z.s.toList = [97, 100, 100] → QgC x.h ((lnk x.ln x.first.toNat).g + 1) ∧ QgC x.h ((lnk x.ln x.first.toNat).g + 1 + 1))
section
variable {M : List Nat} {w0 : World} {H : List (Nat × Obj)} {F0 : List (World → Prop)} {b : Nat} {P : List LB} {pA : Option Addr} {pc vars fuel every : Nat}
theorem Qqw (x : XS) (w : World) (hP : ∀ p ∈ P, p.ok ∧ GOk p.cl) (hPl : P.length ≤ 24) (hv8 : vars ≤ 8) (hbd : XBd x) (hev : x.ev.length < 12) (hfu : fuel ≤ 1000000) (hgo : x.goals ≤ fuel) (hevr : every ≤ 9223372036854775807)
  (hcol : x.first ≠ -1 → x.goals ≠ fuel → 0 < every → x.goals % every = 0 → ∀ w, XSt M w0 H F0 b P pA pc vars fuel every x w → Calls Tryz.prog 56 #[ptm b] w fun e w' => e = .returned (.tuple #[]) ∧ XSt M w0 H F0 b P pA pc vars fuel every (Qh8 vars x) w')
  (ht : x.first ≠ -1 → x.goals ≠ fuel → QrO (QH vars every x) ∧ (QH vars every x).goals = x.goals) (hs : XSt M w0 H F0 b P pA pc vars fuel every x w) :
  Calls Tryz.prog 31 #[ptm b] w fun e w' => e = .returned (.int .i64 (QaX (P.map LB.cl) vars fuel every x).1) ∧ XSt M w0 H F0 b P pA pc vars fuel every (QaX (P.map LB.cl) vars fuel every x).2 w' := by
 obtain ⟨d, F, hFF, hok, hS⟩ := hs
 obtain ⟨hA, hc, hB, hd, LA, lc, O1, cs, CA, cc, O2, evs, EA, ec, O3⟩ := d
 refine Qh Tryz.func31 rfl Tryz.ntmps31 rfl ?_
 by_cases hf : x.first = -1
 ·have e : QaX (P.map LB.cl) vars fuel every x = QcE vars x := by unfold QaX; rw [if_pos hf]
  rw [e]
  refine ZD ?_
  refine Zdu ?_
  refine Zo ?_
  refine Zn ?_
  refine ZC ?_
  refine ZG ?_
  refine Calls.mono (QmE x _ hbd hv8 hev ⟨_, F, hFF, hok, hS⟩) ?_
  rintro _ w3 ⟨rfl, hq⟩
  refine ZH ?_
  refine Zex ?_
  exact ⟨rfl, hq⟩
 by_cases hg : x.goals = fuel
 ·have e : QaX (P.map LB.cl) vars fuel every x = (3, x) := by unfold QaX; rw [if_neg hf, if_pos hg]
  rw [e]
  refine ZD ?_
  refine Zdu ?_
  refine Zo ?_
  refine Zn ?_
  refine Zcu ?_
  refine Zu ?_
  refine ZdL ?_
  replace hS := hS.drew
  refine Zad ?_
  refine Qd rfl (fun _ hS => Qi (off := 5) rfl rfl) rfl ?_
  refine ZB ?_
  refine Zad ?_
  refine Ze9 ?_
  refine ZB ?_
  refine ZdG ?_
  refine ZJ ?_
  refine Zae ?_
  refine Zex ?_
  exact ⟨rfl, _, F, hFF, hok, hS⟩
 refine ZD ?_
 refine Zdu ?_
 refine Zo ?_
 refine Zn ?_
 refine Zcu ?_
 refine Zu ?_
 refine ZdL ?_
 replace hS := hS.drew
 refine Zad ?_
 refine Qd rfl (fun _ hS => Qi (off := 5) rfl rfl) rfl ?_
 refine ZB ?_
 refine Zad ?_
 refine Ze9 ?_
 refine ZB ?_
 refine ZdG ?_
 refine ZJ ?_
 refine Zcu ?_
 refine Zu ?_
 refine QmQ (21 :: 22 :: 23 :: 24 :: 25 :: 26 :: 27 :: 28 :: 29 :: 30 :: 31 :: 32 :: 33 :: 34 :: 35 :: 36 :: 37 :: 38 :: 39 :: []) (fun w' => XSt M w0 H F0 b P pA pc vars fuel every (QH vars every x) w') ?_ ?_
 ·intro hk
  by_cases he : 0 < every
  ·by_cases hr : x.goals % every = 0
   ·have hm : QH vars every x = Qh8 vars x := by unfold QH; rw [if_pos ⟨he, hr⟩]
    rw [hm] at hk
    refine Zeq ?_
    replace hS := hS.drew
    refine Zad ?_
    refine Zfg ?_
    refine ZB ?_
    refine Zfh ?_
    refine ZT ?_
    refine Zey ?_
    refine Zez ?_
    refine Qah rfl rfl rfl (fun _ hS => Qi (off := 5) rfl rfl) rfl ?_
    refine ZeA ?_
    refine Zey ?_
    refine Zez ?_
    refine Qah rfl rfl rfl (fun _ hS => Qi (off := 6) rfl rfl) rfl ?_
    refine ZeA ?_
    refine Zf7 ?_
    refine Zf8 ?_
    refine Zfi ?_
    refine ZJ ?_
    refine ZbF ?_
    refine Zk ?_
    refine Calls.mono (hcol hf hg he hr _ ⟨_, F, hFF, hok, hS⟩) ?_
    rintro _ w5 ⟨rfl, hq⟩
    refine Za ?_
    refine Zb ?_
    exact hk _ _ hq Yc
   ·have hm : QH vars every x = x := by unfold QH; rw [if_neg (fun h => hr h.2)]
    rw [hm] at hk
    refine Zeq ?_
    replace hS := hS.drew
    refine Zad ?_
    refine Zfg ?_
    refine ZB ?_
    refine Zfh ?_
    refine ZT ?_
    refine Zey ?_
    refine Zez ?_
    refine Qah rfl rfl rfl (fun _ hS => Qi (off := 5) rfl rfl) rfl ?_
    refine ZeA ?_
    refine Zey ?_
    refine Zez ?_
    refine Qah rfl rfl rfl (fun _ hS => Qi (off := 6) rfl rfl) rfl ?_
    refine ZeA ?_
    refine Zf7 ?_
    refine Zf8 ?_
    refine Zfi ?_
    refine ZJ ?_
    refine Zq ?_
    exact hk _ _ ⟨_, F, hFF, hok, hS⟩ Yc
  ·have hm : QH vars every x = x := by unfold QH; rw [if_neg (fun h => he h.1)]
   rw [hm] at hk
   refine Zeq ?_
   replace hS := hS.drew
   refine Zad ?_
   refine Zfg ?_
   refine ZB ?_
   refine Zfh ?_
   refine ZT ?_
   refine Zbi ?_
   refine Zbi ?_
   refine Zbi ?_
   refine Zbi ?_
   refine Zbi ?_
   refine Zbi ?_
   refine Zbi ?_
   refine Zbi ?_
   refine Zbi ?_
   refine Zbi ?_
   refine Zfi ?_
   refine ZJ ?_
   refine Zq ?_
   exact hk _ _ ⟨_, F, hFF, hok, hS⟩ Yc
 clear hS hok hFF
 rintro jv w5 hq
 obtain ⟨ht1, hgt⟩ := ht hf hg
 have e0 : QaX (P.map LB.cl) vars fuel every x = (fun t : XS => if QaG (Qbi t.h (lnk t.ln t.first.toNat).g).s.toList (Qbi t.h (lnk t.ln t.first.toNat).g).n.toNat = true then QfC (lnk t.ln t.first.toNat) ⟨t.h, t.goals + 1, t.ln, (lnk t.ln t.first.toNat).nx, t.ch, t.ev⟩ else Qkk (P.map LB.cl) t.first.toNat ⟨t.h, t.goals + 1, t.ln, (lnk t.ln t.first.toNat).nx, t.ch, t.ev⟩) (QH vars every x) := by
  unfold QaX; rw [if_neg hf, if_neg hg]
 rw [e0]
 clear e0
 generalize QH vars every x = t at *
 obtain ⟨th, tg, tl, tf, tc, te⟩ := t
 obtain ⟨tbd, tlen, ttr, tf0, tf1, to_, z, hz, hz0, hz1, hzl⟩ := ht1
 dsimp only at *
 obtain ⟨k, rfl⟩ := Int.eq_ofNat_of_zero_le tf0
 rw [Int.toNat_natCast] at *
 have hgz : Qbi th (lnk tl k).g = z := by unfold Qbi; rw [hz]; rfl
 rw [hgz]
 obtain ⟨d2, F2, hF2, hok2, hS⟩ := hq
 obtain ⟨hA2, hc2, hB2, hd2, LA2, lc2, O12, cs2, CA2, cc2, O22, evs2, EA2, ec2, O32⟩ := d2
 obtain ⟨z0, z1, z2⟩ := Qba.1 hz
 obtain ⟨hb_, ho_, rfl⟩ : ∃ b o, hA2 = some ⟨b, o, none⟩ := (hS.und hok2.hh).1.some_ (by show 0 < th.cs.length; omega)
 have hcell : ∀ {H'} w', St M w0 H' F2 w' → _ := fun w' hS => ((hS.und hok2.hh).1).cell z2
 obtain ⟨l0, l1, l2⟩ := QfL tl k _ (QeP Ya)
 have hrow1 : Row 101 3 (.slice LA2 tl.length lc2) tl.length (xlL tl) O12 := hok2.row1
 obtain ⟨gl, sp, rfl, rfl, hcap⟩ := hrow1.some_ Ya
 have hll : ∀ {M2 H' F'} w', St M2 w0 H' F' w' → (gl, Obj.cells (xlL tl ++ sp).toArray 101) ∈ H' → _ := fun {M2 H' F'} w' (hS : St M2 w0 H' F' w') hm => And.intro (Row.cell (w := w') hrow1 hS (by intro p hp; obtain rfl := List.mem_singleton.1 hp; exact hm) rfl l0) (And.intro (Row.cell (w := w') hrow1 hS (by intro p hp; obtain rfl := List.mem_singleton.1 hp; exact hm) rfl l1) (Row.cell (w := w') hrow1 hS (by intro p hp; obtain rfl := List.mem_singleton.1 hp; exact hm) rfl l2))
 have tln := tbd.ln
 dsimp only at tln
 dsimp only [mob, mcs] at hS
 refine ZZ ?_
 refine ZdB ?_
 refine ZeB ?_
 refine Zz ?_
 refine Z4 ?_
 refine ZdB ?_
 refine Zt ?_
 clear hS
 intro wx1 hS
 refine Zb ?_
 refine ZZ ?_
 refine Zfo ?_
 refine ZeB ?_
 refine Zc ?_
 refine ZZ ?_
 refine ZdP ?_
 refine ZeB ?_
 refine Zdk ?_
 refine Zf9 ?_
 refine Zaa ?_
 clear hS
 intro b1 wx2 hS
 refine Zd ?_
 clear hS
 intro wx3 hS
 refine Zbn ?_
 refine Zaw ?_
 refine ZeB ?_
 refine Zdu ?_
 refine Zt ?_
 clear hS
 intro wx4 hS
 refine ZK ?_
 refine Zu ?_
 refine ZdL ?_
 replace hS := hS.drew
 refine ZaC ?_
 refine Zax ?_
 refine Zga ?_
 refine Zax ?_
 refine Zga ?_
 refine Za4 ?_
 first
  | refine Qd rfl (fun _ hS => Qb (k := 3) hS rfl rfl rfl (by first | exact .head | exact .tail .head | exact .tail (.tail .head) | exact .tail (.tail (.tail .head)) | exact .tail (.tail (.tail (.tail .head))) | exact .tail (.tail (.tail (.tail (.tail .head))))) Yf) rfl ?_
  | refine Qd rfl (fun _ hS => Qb (k := 3) hS rfl rfl rfl (by first | exact .head | exact .tail .head | exact .tail (.tail .head) | exact .tail (.tail (.tail .head)) | exact .tail (.tail (.tail (.tail .head))) | exact .tail (.tail (.tail (.tail (.tail .head))))) Ye) rfl ?_
  | refine Qd rfl (fun _ hS => QaZ rfl rfl rfl (by first | assumption | exact (hcell _ hS).1 | exact (hcell _ hS).2.1 | exact (hcell _ hS).2.2 | exact (hll _ hS Yd).1 | exact (hll _ hS Yd).2.1 | exact (hll _ hS Yd).2.2 | exact hS.cell0 Ye) (by first | assumption | exact (hcell _ hS).1 | exact (hcell _ hS).2.1 | exact (hcell _ hS).2.2 | exact (hll _ hS Yd).1 | exact (hll _ hS Yd).2.1 | exact (hll _ hS Yd).2.2 | exact hS.cell0 Ye) (by first | assumption | exact (hcell _ hS).1 | exact (hcell _ hS).2.1 | exact (hcell _ hS).2.2 | exact (hll _ hS Yd).1 | exact (hll _ hS Yd).2.1 | exact (hll _ hS Yd).2.2 | exact hS.cell0 Ye)) rfl ?_
 refine ZJ ?_
 refine Zk ?_
 refine Calls.mono (Qiw z _ hz0 hz1 hS) ?_
 rintro _ w7 ⟨rfl, hS'⟩
 refine Za ?_
 replace hS := hS'
 clear hS'
 have hxs : XOk P pA pc ⟨th, tg + 1, tl, (lnk tl k).nx, tc, te⟩ ⟨some ⟨hb_, ho_, none⟩, hc2, hB2, hd2, some ⟨gl, 0, none⟩, lc2, [(gl, .cells (xlL tl ++ sp).toArray 101)], cs2, CA2, cc2, O22, evs2, EA2, ec2, O32⟩ F2 := ⟨hok2.hh, hok2.row1, hok2.hc, hok2.rc, hok2.row2, hok2.he, hok2.re, hok2.row3, hok2.rp⟩
 have hbu : XBd ⟨th, tg + 1, tl, (lnk tl k).nx, tc, te⟩ := ⟨tbd.ln, tbd.cn, tbd.ch⟩
 cases hb : QaG z.s.toList z.n.toNat with
 | true =>
  rw [if_pos rfl]
  refine Zcx ?_
  refine Zf9 ?_
  refine Zf ?_
  refine Calls.mono (Qlk ⟨th, tg + 1, tl, (lnk tl k).nx, tc, te⟩ (lnk tl k) z _ hbu hz to_ tlen (hzl hb) ⟨_, F2, hF2, hxs, hS.drop⟩) ?_
  rintro _ w8 ⟨rfl, hq⟩
  refine ZH ?_
  refine Zex ?_
  exact ⟨rfl, hq⟩
 | false =>
  rw [if_neg Yg]
  refine Zq ?_
  refine Zac ?_
  refine Calls.mono (QqA ⟨th, tg + 1, tl, (lnk tl k).nx, tc, te⟩ k z _ hbu (by show k < tl.length; omega) hz tlen ttr hP hPl ⟨_, F2, hF2, hxs, hS.drop⟩) ?_
  rintro _ w8 ⟨rfl, hq⟩
  refine ZH ?_
  refine Zex ?_
  exact ⟨rfl, hq⟩
end
theorem St.freezeRw {M : List Nat} {w0 w : World} {H O : List (Nat × Obj)} {F : List (World → Prop)} {el sz len cap : Nat} {A : Option Addr} {xs : List Value} (hr : Rw el sz (.slice A len cap) len xs O) (hS : St M w0 (O ++ H) F w) :
  ∃ F', (∀ φ ∈ F, φ ∈ F') ∧ Und F' (Qz sz xs A len cap) ∧ St M w0 H F' w :=
 ⟨_, fun φ h => .tail _ h, Und.head, St.freezeR hr hS⟩
abbrev ncs (B : Value) (vars fuel every : Nat) : List Value := [.slice none 0 0, .slice none 0 0, B, .int .i64 (vars : Nat), .int .i64 (fuel : Nat), .int .i64 0, .int .i64 (every : Nat), .slice none 0 0, .int .i64 0, .slice none 0 0, .slice none 0 0]
section
variable {M : List Nat} {w0 : World} {H : List (Nat × Obj)} {F : List (World → Prop)}
theorem Qiv (X : List LC) (xA : Option Addr) (xc : Nat) (q : TA) (qA : Option Addr) (qc : Nat) (vars fuel every : Nat) (w : World) (hX : Und F (QrR X xA xc)) (hq : Und F (ArA qA qc q)) (hXl : X.length ≤ 24) (hgq : (Qbf (vars : Nat) q.ts).length ≤ 1000 ∧ ∀ g ∈ Qbf (vars : Nat) q.ts, 0 ≤ g ∧ g ≤ 1000000) (hqn : q.len ≤ 9223372036854775807) (hqw : q.ts.wide) (hXw : ∀ c ∈ X, c.hd.ar.len ≤ 9223372036854775807 ∧ c.hd.ar.ts.wide ∧ c.bd.len ≤ 9223372036854775807 ∧ c.bd.ts.wide) (hpB : ∀ c ∈ X, cB c.cl = true) (hqB : qB vars q.ts = true) (hS : St M w0 H F w) :
  Calls Tryz.prog 30 #[.slice xA X.length xc, .slice qA q.len qc, .int .i64 (vars : Nat), .int .i64 (fuel : Nat), .int .i64 (every : Nat)] w fun e w' => ∃ (b : Nat) (P : List LB) (pA : Option Addr) (pc : Nat) (F1 : List (World → Prop)), e = .returned (.pointer (some ⟨b, 0, none⟩)) ∧ P.map LB.cl = X.map LC.cl ∧ (∀ φ ∈ F, φ ∈ F1) ∧ XSt M w0 H F1 b P pA pc vars fuel every (QdC q.ts vars) w' := by
 refine QeS Tryz.func30 rfl Tryz.ntmps30 rfl ?_
 refine Zj ?_
 refine Zbz ?_
 refine Qa (QN (cells := [_, _, _, _, _, _, _, _, _, _, _]) (.cons Yb (.cons Yb (.cons Yb .nil))) rfl) rfl ?_
 refine Zcb ?_
 clear hS
 intro b1 wx1 hS
 refine ZbN ?_
 refine Qo 26 (27 :: 28 :: 29 :: 13 :: 31 :: 32 :: 30 :: 33 :: 34 :: 14 :: 15 :: 35 :: 36 :: 37 :: 38 :: 39 :: 40 :: 41 :: 42 :: 43 :: 44 :: 45 :: []) (fun (R : List LC) v w' => ∃ (D : List LC) (P : List LB) (pA : Option Addr) (pc : Nat) (O : List (Nat × Obj)) (F' : List (World → Prop)), X = D ++ R ∧ v = .int .i64 (D.length : Nat) ∧ P.map LB.cl = D.map LC.cl ∧ (∀ φ ∈ F, φ ∈ F') ∧ (∀ y ∈ P, Und F' (Qu3 y)) ∧ Row 94 4 (.slice pA P.length pc) P.length (lbL P) O ∧ St M w0 ((b1, .cells (ncs (.slice pA P.length pc) vars fuel every).toArray 61) :: (O ++ H)) F' w') (fun R => R.length) (X) ?_ Yb ?_
 ·exact ⟨[], [], none, 0, [], F, rfl, rfl, rfl, fun _ h => h, (fun _ h => by cases h), Row.nil_, hS⟩
 clear hS
 rintro R _ w2 jv ⟨D, P, pA, pc, O, F', hDR, rfl, hPD, hFF, hPR, hrow, hS⟩ ih
 have hlen : X.length = D.length + R.length := by rw [hDR]; simp
 have hPl : P.length = D.length := by have := congrArg List.length hPD; simpa using this
 have hX' := hX.mono hFF
 cases R with
 | nil =>
  simp only [List.length_nil] at hlen
  have eX : X = D := by rw [hDR]; simp
  refine ZL ?_
  refine Z5 ?_
  rw [← eX] at hPD
  obtain ⟨F3, h1, h2, h3⟩ := St.freezeLB (H := (b1, .cells (ncs (.slice pA P.length pc) vars fuel every).toArray 61) :: H) hrow hPR (hS.perm List.perm_middle.symm)
  replace hS := h3
  refine Zf ?_
  refine Calls.mono (Qqa (vars : Nat) q qA qc _ ((hq.mono hFF).mono h1) hqn hqw hqB hS) ?_
  rintro _ w5 ⟨A5, B5, c5, d5, O5, O6, rfl, hr5, hr6, hS'⟩
  refine Za ?_
  replace hS := hS'
  clear hS'
  obtain ⟨F6, k1, k2, k3⟩ := St.freezeRw hr5 hS
  obtain ⟨F7, j1, j2, j3⟩ := St.freezeRw hr6 k3
  replace hS := j3
  clear j3 k3 h3
  refine Zdo ?_
  clear hS
  intro b2 wx2 hS
  refine Zd ?_
  clear hS
  intro wx3 hS
  refine Z2 ?_
  refine Zav ?_
  refine Zo ?_
  have hx0 : XOk P pA pc ⟨⟨[], []⟩, 0, [], 0, [], []⟩ ⟨none, 0, none, 0, none, 0, [], [], none, 0, [], [], none, 0, []⟩ F7 := ⟨fun _ _ => ⟨Qz.nil_ _ _ _, Qz.nil_ _ _ _⟩, Row.nil_, rfl, (fun _ h => by cases h), Row.nil_, rfl, (fun _ h => by cases h), Row.nil_, h2.mono fun φ h => j1 φ (k1 φ h)⟩
  refine Zf ?_
  refine Calls.mono (Qli (F0 := F7) (H := (b2, _) :: H) ⟨⟨[], []⟩, 0, [], 0, [], []⟩ (Qae (vars : Nat) q.ts) A5 c5 _ (k2.mono j1) ⟨_, F7, fun _ h => h, hx0, hS.swap⟩) ?_
  rintro _ w6 ⟨rfl, hq6⟩
  refine Za ?_
  clear hS hx0
  obtain ⟨d6, F8, hF8, hok8, hS⟩ := hq6
  obtain ⟨hA, hc, hB, hd, LA, lc, O1, cs, CA, cc, O2, evs, EA, ec, O3⟩ := d6
  replace hS := hS.perm (QbL (b1, _) [(b2, _)] O1 O2 O3 H).symm
  have hld := QnL ⟨[], []⟩ (Qae (vars : Nat) q.ts)
  refine Zc ?_
  refine Z5 ?_
  refine ZaQ ?_
  refine ZbB ?_
  refine Zev ?_
  refine Calls.mono (QhI (H := (b2, _) :: H) (XS.setH ⟨⟨[], []⟩, 0, [], 0, [], []⟩ (Q3 ⟨[], []⟩ (Qae (vars : Nat) q.ts)).1) (Qbf (vars : Nat) q.ts) B5 d5 (Q3 ⟨[], []⟩ (Qae (vars : Nat) q.ts)).2.1 0 (-1) _ _ _ _ _ _ _ cs CA cc O2 evs EA ec O3 _ Ya (fun g hg => by have := hgq.2 g hg; omega) (by have := hgq.1; show 0 + _ ≤ _; omega) (j2.mono hF8) hok8 (hS.perm (QbL (b1, _) [(b2, _)] O1 O2 O3 H))) ?_
  rintro _ w7 ⟨rfl, LA9, lc9, O9, hok9, hS'⟩
  refine Za ?_
  replace hS := hS'
  clear hS'
  refine Zdu ?_
  refine Zt ?_
  clear hS
  intro wx4 hS
  refine Zcq ?_
  refine Qc Tryz.func30 rfl Yb ?_
  exact ⟨b1, P, pA, pc, F8, rfl, hPD, fun φ h => hF8 φ (j1 φ (k1 φ (h1 φ (hFF φ h)))), ⟨hA, hc, hB, hd, LA9, lc9, O9, cs, CA, cc, O2, evs, EA, ec, O3⟩, F8, fun _ h => h, ⟨hok9.hh, hok9.row1, hok9.hc, hok9.rc, hok9.row2, hok9.he, hok9.re, hok9.row3, hok9.rp⟩, (hS.perm (QbL (b1, _) [(b2, _)] O9 O2 O3 H).symm).drop⟩
 | cons c R =>
  simp only [List.length_cons] at hlen
  rw [hDR] at hX'
  obtain ⟨b6, o6, rfl⟩ := (hS.und hX').some_ Yh
  obtain ⟨q0, q1, q2, q3, q4, q5⟩ := (hS.und hX').cells
  refine Zcj ?_
  refine Qa (Qas (sz := 6) rfl rfl rfl rfl Ya Ya) rfl ?_
  refine ZdC ?_
  refine ZeS ?_
  clear hS
  intro b2 wx2 hS
  refine Zd ?_
  clear hS
  intro wx3 hS
  refine Za0 ?_
  refine ZdC ?_
  have hfl : Und F' (Qu9 c) := hX'.imp fun w h => h.2.2 c Yd
  obtain ⟨w1, w2_, w3_, w4_⟩ := hXw c (by rw [hDR]; simp)
  refine Zk ?_
  refine Calls.mono (Qpc c.hd.k c.hd.n c.vars c.hd.s c.hd.ar c.bd c.hd.A c.bA c.hd.c c.bc _ (hfl.imp fun w h => h.1) (hfl.imp fun w h => h.2) w1 w2_ w3_ w4_ (hpB c (by rw [hDR]; simp)) hS) ?_
  rintro _ w5 ⟨A5, B5, c5, d5, O5, O6, rfl, hr5, hr6, hS'⟩
  refine Za ?_
  replace hS := hS'
  clear hS'
  obtain ⟨F6, k1, k2, k3⟩ := St.freezeRw hr5 hS
  obtain ⟨F7, j1, j2, j3⟩ := St.freezeRw hr6 k3
  replace hS := j3.perm (.swap _ _ _)
  clear j3 k3
  refine Zdo ?_
  clear hS
  intro b3 wx4 hS
  refine Zd ?_
  clear hS
  intro wx5 hS
  refine Zc ?_
  refine Zf4 ?_
  replace hS := hS.drew
  refine Zcv ?_
  refine ZbR ?_
  refine ZB ?_
  refine Zec ?_
  refine Zp ?_
  refine ZdA ?_
  clear hS
  intro b4 wx6 hS
  refine ZdM ?_
  refine Zp ?_
  refine Qa8 (sz := 4) (bts := 64) hS Yb rfl rfl rfl rfl (hrow) rfl rfl (.cons _ (List.perm_append_comm_assoc [_, _, _] O H)) Ya Ya rfl ?_
  clear hS
  intro v8 O8 w8 hrow8 hS
  obtain ⟨A8, c8, rfl⟩ := hrow8.form
  replace hS := hS.perm (List.perm_append_comm_assoc O8 [_, _, _] H)
  refine ZdM ?_
  refine ZaO ?_
  refine ZbR ?_
  refine ZbE ?_
  clear hS
  intro wx7 hS
  refine Zam ?_
  refine ih (R) _ _ _ ?_ ?_ Yb Yc
  ·simp
  ·refine ⟨D ++ [c], P ++ [⟨c.cl, A5, c5, B5, d5⟩], A8, c8, O8, F7, by rw [hDR]; simp, by simp, by simp [hPD], fun φ h => j1 φ (k1 φ (hFF φ h)), ?_, ?_, ?_⟩
   ·intro y hy
    rcases List.mem_append.1 hy with hy | hy
    ·exact (hPR y hy).mono fun φ h => j1 φ (k1 φ h)
    ·obtain rfl : y = ⟨c.cl, A5, c5, B5, d5⟩ := by simpa using hy
     exact fun w hw => ⟨(k2.mono j1) w hw, j2 w hw⟩
   ·rw [Qj0, List.length_append]; exact hrow8
   ·rw [List.length_append]; exact hS.drop.swap.drop
end
section
variable {M : List Nat} {w0 : World} {H : List (Nat × Obj)} {F : List (World → Prop)}
theorem Qp4 (p : List Cl) (vars fuel every n : Nat) (s : XS) : Qsj p vars fuel every (n + 1) s = if (QaX p vars fuel every s).1 = 0 then Qsj p vars fuel every n (QaX p vars fuel every s).2 else Qdf (QaX p vars fuel every s).2.ev ++ [((QaX p vars fuel every s).1, .nil)] := rfl
theorem QgK (Iv : Nat → XS → Prop) (X : List LC) (xA : Option Addr) (xc : Nat) (q : TA) (qA : Option Addr) (qc : Nat) (vars fuel every : Int) (w : World) (hX : Und F (QrR X xA xc)) (hq : Und F (ArA qA qc q))
  (hgp : ∀ w', St M w0 H F w' → Calls Tryz.prog 28 #[.slice xA X.length xc] w' fun e w'' => e = .returned (.bool (pB (X.map LC.cl))) ∧ Below w'.heap.size w' w'')
  (hgq : ∀ w', St M w0 H F w' → Calls Tryz.prog 29 #[.slice qA q.len qc, .int .i64 vars] w' fun e w'' => e = .returned (.bool (qB vars q.ts)) ∧ Below w'.heap.size w' w'')
  (hnew : pB (X.map LC.cl) = true → qB vars q.ts = true → 0 ≤ fuel → fuel ≤ 150 → 0 ≤ every → ∀ w', St M w0 H F w' → Calls Tryz.prog 30 #[.slice xA X.length xc, .slice qA q.len qc, .int .i64 (vars.toNat : Nat), .int .i64 (fuel.toNat : Nat), .int .i64 (every.toNat : Nat)] w' fun e w'' => ∃ (b : Nat) (P : List LB) (pA : Option Addr) (pc : Nat) (F1 : List (World → Prop)), e = .returned (.pointer (some ⟨b, 0, none⟩)) ∧ P.map LB.cl = X.map LC.cl ∧ (∀ φ ∈ F, φ ∈ F1) ∧ XSt M w0 H F1 b P pA pc vars.toNat fuel.toNat every.toNat (QdC q.ts vars) w'')
  (h0 : pB (X.map LC.cl) = true → qB vars q.ts = true → 0 ≤ fuel → fuel ≤ 150 → 0 ≤ every → Iv 4000 (QdC q.ts vars))
  (hst : ∀ (b : Nat) (P : List LB) (pA : Option Addr) (pc : Nat) (F1 : List (World → Prop)), P.map LB.cl = X.map LC.cl → ∀ n s, Iv n s → ∀ w', XSt M w0 H F1 b P pA pc vars.toNat fuel.toNat every.toNat s w' → Calls Tryz.prog 31 #[ptm b] w' fun e w'' => e = .returned (.int .i64 (QaX (X.map LC.cl) vars.toNat fuel.toNat every.toNat s).1) ∧ XSt M w0 H F1 b P pA pc vars.toNat fuel.toNat every.toNat (QaX (X.map LC.cl) vars.toNat fuel.toNat every.toNat s).2 w'')
  (hnx : ∀ n s, Iv n s → ∃ n', n = n' + 1 ∧ (QaX (X.map LC.cl) vars.toNat fuel.toNat every.toNat s).2.ev.length ≤ 12 ∧ ((QaX (X.map LC.cl) vars.toNat fuel.toNat every.toNat s).1 = 0 → Iv n' (QaX (X.map LC.cl) vars.toNat fuel.toNat every.toNat s).2))
  (hS : St M w0 H F w) :
  Calls Tryz.prog 12 #[.slice xA X.length xc, .slice qA q.len qc, .int .i64 vars, .int .i64 fuel, .int .i64 every] w fun e w' => ∃ (A : Option Addr) (c : Nat) (L : List KE) (F' : List (World → Prop)), e = .returned (.tuple #[.slice A L.length c, .int .i64 (QrU (X.map LC.cl) q.ts vars fuel every).2]) ∧ L.map KE.ev = (QrU (X.map LC.cl) q.ts vars fuel every).1 ∧ (∀ φ ∈ F, φ ∈ F') ∧ Und F' (KER L A c) ∧ St M w0 H F' w' := by
 have hnil : ∀ w : World, KER [] none 0 w := fun w => ⟨Nat.le_refl _, fun h => by simp at h, fun x hx => by cases hx⟩
 have hall : QrU (X.map LC.cl) q.ts vars fuel every = if pB (X.map LC.cl) = false ∨ qB vars q.ts = false then ([], 1) else if fuel < 0 ∨ 150 < fuel ∨ every < 0 then ([], 2) else (Qsj (X.map LC.cl) vars.toNat fuel.toNat every.toNat 4000 (QdC q.ts vars), 0) := rfl
 refine QeS Tryz.func12 rfl Tryz.ntmps12 rfl ?_
 refine Zg ?_
 refine ZaA ?_
 refine Zk ?_
 refine Calls.mono (hgp _ hS) ?_
 rintro _ w3 ⟨rfl, hb3⟩
 refine Za ?_
 replace hS := hS.grow hb3
 cases hpB : pB (X.map LC.cl) with
 | false =>
  rw [if_pos (.inl hpB)] at hall
  rw [hall]
  refine Zah ?_
  refine ZaX ?_
  refine Zas ?_
  refine Zdv ?_
  exact ⟨none, 0, [], F, rfl, rfl, fun _ h => h, fun w _ => hnil w, hS⟩
 | true =>
 refine Zda ?_
 refine Zx ?_
 refine Zf ?_
 refine Calls.mono (hgq _ hS) ?_
 rintro _ w4 ⟨rfl, hb4⟩
 refine Za ?_
 replace hS := hS.grow hb4
 cases hqB : qB vars q.ts with
 | false =>
  rw [if_pos (.inr hqB)] at hall
  rw [hall]
  refine Zbm ?_
  refine Zas ?_
  refine Zdv ?_
  exact ⟨none, 0, [], F, rfl, rfl, fun _ h => h, fun w _ => hnil w, hS⟩
 | true =>
 rw [if_neg (by rw [hpB, hqB]; simp)] at hall
 by_cases hf1 : fuel < 0
 ·rw [if_pos (.inl hf1)] at hall
  rw [hall]
  refine Zdw ?_
  refine Zr ?_
  refine Zaq ?_
  refine Zat ?_
  refine Zas ?_
  refine Zdv ?_
  exact ⟨none, 0, [], F, rfl, rfl, fun _ h => h, fun w _ => hnil w, hS⟩
 by_cases hf2 : 150 < fuel
 ·rw [if_pos (.inr (.inl hf2))] at hall
  rw [hall]
  refine Zdw ?_
  refine ZaM ?_
  refine ZP ?_
  refine Zat ?_
  refine Zas ?_
  refine Zdv ?_
  exact ⟨none, 0, [], F, rfl, rfl, fun _ h => h, fun w _ => hnil w, hS⟩
 by_cases hf3 : every < 0
 ·rw [if_pos (.inr (.inr hf3))] at hall
  rw [hall]
  refine Zdw ?_
  refine ZaM ?_
  refine ZP ?_
  refine Zbb ?_
  refine Zr ?_
  refine Zas ?_
  refine Zdv ?_
  exact ⟨none, 0, [], F, rfl, rfl, fun _ h => h, fun w _ => hnil w, hS⟩
 rw [if_neg Ya] at hall
 have hqB2 := hqB
 simp only [qB, Bool.and_eq_true, decide_eq_true_eq] at hqB2
 obtain ⟨vars, rfl⟩ : ∃ v : Nat, vars = v := ⟨vars.toNat, by omega⟩
 obtain ⟨fuel, rfl⟩ : ∃ f : Nat, fuel = f := ⟨fuel.toNat, by omega⟩
 obtain ⟨every, rfl⟩ : ∃ f : Nat, every = f := ⟨every.toNat, by omega⟩
 have hI := h0 hpB hqB Ya Ya Ya
 replace hnew := hnew hpB hqB Ya Ya Ya
 simp only [Int.toNat_natCast] at hall hnew hst hnx
 rw [hall]
 generalize hR0 : Qsj (X.map LC.cl) vars fuel every 4000 (QdC q.ts vars) = R0
 refine Zdw ?_
 refine ZaM ?_
 refine ZP ?_
 refine Zbb ?_
 refine Zr ?_
 refine Z8 ?_
 refine Zbz ?_
 refine Za2 ?_
 refine Zev ?_
 refine Calls.mono (hnew _ hS) ?_
 rintro _ w5 ⟨b, P, pA, pc, F1, rfl, hPX, hF1, hs⟩
 refine Za ?_
 clear hS
 refine Zc ?_
 refine Zj ?_
 refine Zap ?_
 refine Qo 13 (39 :: 40 :: 41 :: 42 :: []) (fun (x : Nat × XS × Int) v w' => v = .int .i64 x.2.2 ∧ XSt M w0 H F1 b P pA pc vars fuel every x.2.1 w' ∧ (x.2.2 = 0 → Iv x.1 x.2.1 ∧ R0 = Qsj (X.map LC.cl) vars fuel every x.1 x.2.1) ∧ (x.2.2 ≠ 0 → R0 = Qdf x.2.1.ev ++ [(x.2.2, .nil)] ∧ x.2.1.ev.length ≤ 12)) (fun x => if x.2.2 = 0 then x.1 + 1 else 0) ((4000, QdC q.ts vars, 0)) ?_ Yb ?_
 ·exact ⟨rfl, hs, fun _ => ⟨hI, hR0.symm⟩, fun h => absurd rfl h⟩
 clear hs
 rintro ⟨n, s, k⟩ _ w6 jv ⟨rfl, hs, h1, h2⟩ ih
 dsimp only at hs h1 h2
 by_cases hk : k = 0
 ·subst hk
  obtain ⟨hI, hrun⟩ := h1 rfl
  obtain ⟨n, rfl, hev, hgo⟩ := hnx n s hI
  rw [Qp4] at hrun
  refine Zw ?_
  refine Zn ?_
  refine ZC ?_
  refine Zb2 ?_
  refine ZU ?_
  refine Zk ?_
  refine Calls.mono (hst b P pA pc F1 hPX _ s hI _ hs) ?_
  rintro _ w7 ⟨rfl, hs'⟩
  refine ZH ?_
  refine ZaH ?_
  refine ih ((n, (QaX (X.map LC.cl) vars fuel every s).2, (QaX (X.map LC.cl) vars fuel every s).1)) _ _ _ ?_ ?_ Yb Yc
  ·dsimp only
   rw [if_pos rfl]
   split <;> omega
  ·refine ⟨rfl, hs', fun h => ⟨hgo h, ?_⟩, fun h => ⟨?_, hev⟩⟩
   ·rw [hrun, if_pos h]
   ·rw [hrun, if_neg h]
 ·obtain ⟨h3, hev⟩ := h2 hk
  obtain ⟨d, F2, hFF, hok, hS⟩ := hs
  obtain ⟨hA, hc, hB, hd, LA, lc, O1, cs, CA, cc, O2, evs, EA, ec, O3⟩ := d
  have hrow3 : Row 34 2 (.slice EA evs.length ec) evs.length (evL evs) O3 := hok.row3
  have hle : evs.length = s.ev.length := by
   have : evs.map (fun e => e.T.ts) = s.ev := hok.he
   rw [← this]; simp
  have hre : ∀ e ∈ evs, Und F2 (ArA e.A e.c e.T) := hok.re
  refine Zw ?_
  refine Zn ?_
  refine Zbp ?_
  refine ZZ ?_
  refine Qa (Qi (off := 10) rfl rfl) rfl ?_
  refine ZbB ?_
  refine Qa (QN (cells := [_, _]) (.cons Yb .nil) rfl) rfl ?_
  refine ZeV ?_
  clear hS
  intro b1 wx1 hS
  refine Qa8 (sz := 2) (bts := 32) hS Yb rfl rfl rfl rfl (hrow3) rfl rfl (.cons _ (QjR [_] _ _ _ _)) Ya Ya rfl ?_
  clear hS
  intro v8 O8 w9 hrow8 hS
  obtain ⟨A8, c8, rfl⟩ := hrow8.form
  refine Zdv ?_
  have hlk : evL evs ++ [.int .i64 k, .slice none 0 0] = keL (evs.map (fun (e : LE) => (⟨1, e.A, e.c, e.T⟩ : KE)) ++ [(⟨k, none, 0, .nil⟩ : KE)]) := by rw [Quh, QuO]; rfl
  have hll : (evs.map (fun (e : LE) => (⟨1, e.A, e.c, e.T⟩ : KE)) ++ [(⟨k, none, 0, .nil⟩ : KE)]).length = evs.length + 1 := by simp
  obtain ⟨F3, g1, g2, g3⟩ := St.freezeK (L := List.map (fun (e : LE) => (⟨1, e.A, e.c, e.T⟩ : KE)) evs ++ [(⟨k, none, 0, .nil⟩ : KE)]) (A := A8) (c := c8) (by rw [hll, ← hlk]; exact hrow8) (fun x hx => by
   rcases List.mem_append.1 hx with hx | hx
   ·obtain ⟨e, he, rfl⟩ := List.mem_map.1 hx
    exact hre e he
   ·obtain rfl : x = ⟨k, none, 0, .nil⟩ := by simpa using hx
    exact fun w _ => ⟨Nat.le_refl _, fun h => by simp [TA.len] at h⟩) hS
  refine ⟨A8, c8, _, F3, by rw [hll], ?_, fun φ h => g1 φ (hFF φ (hF1 φ h)), g2, St.dropL (L := O2) (St.dropL (L := O1) g3.drop)⟩
  rw [h3, ← show evs.map (fun e => e.T.ts) = s.ev from hok.he]
  simp [Qdf, KE.ev, TA.ts]
end
theorem Qi6 {α : Type} (L O1 O2 O3 H : List α) : (L ++ (O1 ++ (O2 ++ (O3 ++ H)))).Perm (O1 ++ (O2 ++ (O3 ++ (L ++ H)))) :=
 (List.perm_append_comm_assoc L O1 _).trans (.append_left O1 ((List.perm_append_comm_assoc L O2 _).trans (.append_left O2 (List.perm_append_comm_assoc L O3 H))))
theorem Qoz (x : XL) (r : List XL) (i : Nat) (g : Int) : Qpr (x :: r) (i + 1) g = x :: Qpr r i g := rfl
theorem Qpx : ∀ (L : List XL) (i : Nat) (g : Int), i < L.length → xlL (Qpr L i g) = (xlL L).set (i * 3) (.int .i64 g)
 | [], i, g, h => by simp at h
 | x :: r, 0, g, h => rfl
 | x :: r, i + 1, g, h => by
  rw [Qoz]
  simp only [xlL]
  rw [Qpx r i g (by simpa using h), show (i + 1) * 3 = i * 3 + 3 by omega]
  rfl
theorem QtN (L : List XL) (sp : List Value) (i : Nat) (g : Int) (h : i < L.length) : Put (xlL L ++ sp) (i * 3) (.int .i64 g) (xlL (Qpr L i g) ++ sp) := by
 have := QhC (l := xlL L ++ sp) (v := .int .i64 g) (i := i * 3) (by rw [List.length_append, Qg1]; omega)
 rwa [List.set_append_left _ _ (by rw [Qg1]; omega), ← Qpx L i g h] at this
def LX.cells' (c : LX) (t : Nat) : LX := ⟨c.at_, c.cls, c.A, c.c, t, c.bound⟩
def LX.bound' (c : LX) (t : Nat) : LX := ⟨c.at_, c.cls, c.A, c.c, c.cells, t⟩
theorem Qnb : ∀ (L : List LX) (i : Nat) (t : Nat), i < L.length → xcL (L.modify i fun c => c.cells' t) = (xcL L).set (i * 4 + 2) (.int .i64 (t : Nat))
 | [], i, g, h => by simp at h
 | x :: r, 0, g, h => rfl
 | x :: r, i + 1, g, h => by
  rw [List.modify_succ_cons]
  simp only [xcL]
  rw [Qnb r i g (by simpa using h), show (i + 1) * 4 + 2 = i * 4 + 2 + 4 by omega]
  rfl
theorem Qna : ∀ (L : List LX) (i : Nat) (t : Nat), i < L.length → xcL (L.modify i fun c => c.bound' t) = (xcL L).set (i * 4 + 3) (.int .i64 (t : Nat))
 | [], i, g, h => by simp at h
 | x :: r, 0, g, h => rfl
 | x :: r, i + 1, g, h => by
  rw [List.modify_succ_cons]
  simp only [xcL]
  rw [Qna r i g (by simpa using h), show (i + 1) * 4 + 3 = i * 4 + 3 + 4 by omega]
  rfl
theorem Qr1 (L : List LX) (sp : List Value) (i : Nat) (t : Nat) (h : i < L.length) : Put (xcL L ++ sp) (i * 4 + 2) (.int .i64 (t : Nat)) (xcL (L.modify i fun c => c.cells' t) ++ sp) := by
 have := QhC (l := xcL L ++ sp) (v := .int .i64 (t : Nat)) (i := i * 4 + 2) (by rw [List.length_append, Qcy]; omega)
 rwa [List.set_append_left _ _ (by rw [Qcy]; omega), ← Qnb L i t h] at this
theorem Qr0 (L : List LX) (sp : List Value) (i : Nat) (t : Nat) (h : i < L.length) : Put (xcL L ++ sp) (i * 4 + 3) (.int .i64 (t : Nat)) (xcL (L.modify i fun c => c.bound' t) ++ sp) := by
 have := QhC (l := xcL L ++ sp) (v := .int .i64 (t : Nat)) (i := i * 4 + 3) (by rw [List.length_append, Qcy]; omega)
 rwa [List.set_append_left _ _ (by rw [Qcy]; omega), ← Qna L i t h] at this
end Go.Proofs.YthliapbflkfdiacGreatDoor
