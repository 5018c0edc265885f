/- Steps of the proof. -/
import Derived.Test.YthliapbflkfdiacGreatDoorG25
namespace Go.Proofs.YthliapbflkfdiacGreatDoor
open Go.RowKit
set_option linter.unusedVariables false
set_option linter.unusedSimpArgs false
set_option maxRecDepth 100000
set_option maxHeartbeats 1000000
abbrev ptm (b : Nat) : Value := .pointer (some ⟨b, 0, none⟩)
section
variable {M : List Nat} {w0 : World} {H : List (Nat × Obj)} {F0 : List (World → Prop)} {b : Nat} {P : List LB} {pA : Option Addr} {pc vars fuel every : Nat}
theorem XOk.setH {x : XS} {d : XD} {F : List (World → Prop)} (h : XOk P pA pc x d F) {h' : HH} {A B : Option Addr} {c e : Nat} (hh : Und F (HFl h' A c B e)) : XOk P pA pc (x.setH h') ⟨A, c, B, e, d.LA, d.lc, d.O1, d.cs, d.CA, d.cc, d.O2, d.evs, d.EA, d.ec, d.O3⟩ F :=
 ⟨hh, h.row1, h.hc, h.rc, h.row2, h.he, h.re, h.row3, h.rp⟩
theorem Qli (x : XS) (K : List HC) (A2 : Option Addr) (c2 : Nat) (w : World) (hK : Und F0 (Qz 3 (Q6 K) A2 K.length c2)) (hs : XSt M w0 H F0 b P pA pc vars fuel every x w) :
  Calls Tryz.prog 53 #[ptm b, .slice A2 K.length c2] w fun e w' => e = .returned (.int .i64 ((Q3 x.h K).2.1 : Nat)) ∧ XSt M w0 H F0 b P pA pc vars fuel every (x.setH (Q3 x.h K).1) w' := by
 obtain ⟨d, F, hFF, hok, hS⟩ := hs
 obtain ⟨hA, hc, hB, hd, LA, lc, O1, cs, CA, cc, O2, evs, EA, ec, O3⟩ := d
 have hK' := hK.mono hFF
 refine Qg Tryz.func53 rfl Tryz.ntmps53 rfl ?_
 refine Zj ?_
 refine Zak ?_
 refine Z9 ?_
 refine Z3 ?_
 refine Calls.mono (QnK x.h K hA hB A2 hc hd c2 _ hok.hh hK' hS) ?_
 rintro _ w3 ⟨A', c', B', d', F', rfl, hF', hH', hS'⟩
 refine Za ?_
 replace hS := hS'
 clear hS'
 refine Zaf ?_
 refine Za3 ?_
 clear hS
 intro b1 wx1 hS
 refine Zd ?_
 clear hS
 intro wx2 hS
 refine Zl ?_
 refine Zm ?_
 refine Z9 ?_
 refine Zdq ?_
 clear hS
 intro wx3 hS
 refine Zcq ?_
 refine Qc Tryz.func53 rfl Yb ?_
 exact ⟨rfl, _, F', fun φ h => hF' φ (hFF φ h), (hok.mono hF').setH hH', hS.drop⟩
theorem QoP (x : XS) (i j : Int) (w : World) (hs : XSt M w0 H F0 b P pA pc vars fuel every x w) :
  Calls Tryz.prog 153 #[ptm b, .int .i64 i, .int .i64 j] w fun e w' => e = .returned (.tuple #[.bool (QX x.h i j).2.1, .bool (decide ((QX x.h i j).2.2 ≠ 0))]) ∧ XSt M w0 H F0 b P pA pc vars fuel every (x.setH (QX x.h i j).1) w' := by
 obtain ⟨d, F, hFF, hok, hS⟩ := hs
 obtain ⟨hA, hc, hB, hd, LA, lc, O1, cs, CA, cc, O2, evs, EA, ec, O3⟩ := d
 refine Q2 Tryz.func153 rfl Tryz.ntmps153 rfl ?_
 refine ZcZ ?_
 refine Zak ?_
 refine Z9 ?_
 refine Za2 ?_
 refine Zai ?_
 refine Calls.mono (QkI x.h i j hA hB hc hd _ hok.hh hS) ?_
 rintro _ w3 ⟨A', c', B', d', F', rfl, hF', hH', hS'⟩
 refine Za ?_
 replace hS := hS'
 clear hS'
 by_cases h0 : (QX x.h i j).2.2 = 0
 ·rw [decide_eq_false (fun h => h h0)]
  refine Zaf ?_
  refine Za3 ?_
  clear hS
  intro b1 wx1 hS
  refine Zd ?_
  clear hS
  intro wx2 hS
  refine Zl ?_
  refine Zm ?_
  refine Z9 ?_
  refine Zdq ?_
  clear hS
  intro wx3 hS
  refine ZbC ?_
  refine Zy ?_
  refine Zl ?_
  refine Qa3 Tryz.func153 rfl Yb Yb ?_
  exact ⟨rfl, _, F', fun φ h => hF' φ (hFF φ h), (hok.mono hF').setH hH', hS.drop⟩
 ·rw [decide_eq_true h0]
  refine Zaf ?_
  refine Za3 ?_
  clear hS
  intro b1 wx1 hS
  refine Zd ?_
  clear hS
  intro wx2 hS
  refine Zl ?_
  refine Zm ?_
  refine Z9 ?_
  refine Zdq ?_
  clear hS
  intro wx3 hS
  refine ZbC ?_
  refine Zy ?_
  refine Zl ?_
  refine Qa3 Tryz.func153 rfl Yb Yb ?_
  exact ⟨rfl, _, F', fun φ h => hF' φ (hFF φ h), (hok.mono hF').setH hH', hS.drop⟩
theorem Qlf (x : XS) (c : LX) (w : World) (hs : XSt M w0 H F0 b P pA pc vars fuel every x w) :
  Calls Tryz.prog 146 #[ptm b, .agg (xcs c).toArray] w fun e w' => e = .returned (.tuple #[]) ∧ XSt M w0 H F0 b P pA pc vars fuel every (x.setH (QlN (QcA x.h (c.bound : Nat)).1 (c.cells : Nat)).1) w' := by
 obtain ⟨d, F, hFF, hok, hS⟩ := hs
 obtain ⟨hA, hc, hB, hd, LA, lc, O1, cs, CA, cc, O2, evs, EA, ec, O3⟩ := d
 refine Qg Tryz.func146 rfl Tryz.ntmps146 rfl ?_
 refine Zi ?_
 clear hS
 intro b1 wx1 hS
 refine ZK ?_
 refine Qjl 4 5 (7 :: 8 :: 9 :: 10 :: 11 :: 12 :: 13 :: 6 :: 14 :: 15 :: []) (fun y z w' => ∃ (b4 : Nat) (A' : Option Addr) (c' : Nat) (B' : Option Addr) (d' : Nat) (F' : List (World → Prop)), y = .pointer (some ⟨b4, 0, none⟩) ∧ z = .int .i64 (QcA x.h (c.bound : Nat)).2 ∧ (∀ φ ∈ F, φ ∈ F') ∧ Und F' (HFl (QcA x.h (c.bound : Nat)).1 A' c' B' d') ∧ St M w0 ((b4, .cells [.slice A' (QcA x.h (c.bound : Nat)).1.cs.length c', .slice B' (QcA x.h (c.bound : Nat)).1.tr.length d'].toArray 56) :: (b1, .cells (xcs c).toArray 151) :: (b, mob P pA pc vars fuel every x ⟨hA, hc, hB, hd, LA, lc, O1, cs, CA, cc, O2, evs, EA, ec, O3⟩) :: (O1 ++ (O2 ++ (O3 ++ H)))) F' w') ?_ ?_
 ·intro hmeet
  refine QcU (St _ _ _ _) 13 (.read 0 (.read 1 (.read 2 (.read 3 (.read 4 (.read 5 (.pick 6 (.read 7 (.read 8 (.read 9 (.pick 10 (.pick 11 (.read 12 .tail) .none) .none)))) (.pick 10 (.pick 6 (.read 7 (.read 8 (.read 9 (.pick 11 (.read 12 .tail) .none)))) .none) .none)))))))) Yc Yc hS.drew ?_
  replace hS := hS.drew
  refine Za7 ?_
  refine Qv rfl (fun _ hS => QaP rfl) rfl ?_
  refine ZcJ ?_
  first
   | refine Qv rfl (fun _ hS => Qb (k := 2) hS rfl rfl rfl (by first | exact .head | exact .tail .head | exact .tail (.tail .head) | exact .tail (.tail (.tail .head)) | exact .tail (.tail (.tail (.tail .head))) | exact .tail (.tail (.tail (.tail (.tail .head))))) Yf) rfl ?_
   | refine Qv rfl (fun _ hS => Qb (k := 2) hS rfl rfl rfl (by first | exact .head | exact .tail .head | exact .tail (.tail .head) | exact .tail (.tail (.tail .head)) | exact .tail (.tail (.tail (.tail .head))) | exact .tail (.tail (.tail (.tail (.tail .head))))) Ye) rfl ?_
   | refine Qv rfl (fun _ hS => QaQ rfl rfl rfl (by first | assumption | exact hS.cell0 Ye) (by first | assumption | exact hS.cell0 Ye)) rfl ?_
  refine Qv rfl (fun _ hS => Qi (off := 3) rfl rfl) rfl ?_
  refine Ze7 ?_
  refine Qfi rfl ?_ ?_
  ·refine Zf ?_
   refine Calls.mono (Qni x.h (c.bound : Nat) hA hB hc hd _ hok.hh hS) ?_
   rintro _ w3 ⟨A', c', B', d', F9, rfl, hF9, hH', hS'⟩
   refine Za ?_
   replace hS := hS'
   clear hS'
   refine ZaT ?_
   refine Za7 ?_
   refine Zbh ?_
   refine Zbh ?_
   refine ZbP ?_
   clear hS
   intro b2 wx2 hS
   refine ZaT ?_
   refine Zao ?_
   refine Zd ?_
   clear hS
   intro wx3 hS
   refine ZaT ?_
   refine Zce ?_
   refine Qbo ?_
   refine Zb ?_
   exact hmeet _ _ _ _ ⟨_, A', c', B', d', F9, rfl, rfl, hF9, hH', hS⟩ Yb Yb Yc
  refine ZbP ?_
  clear hS
  intro b3 wx4 hS
  refine ZaT ?_
  refine Zao ?_
  refine Zf ?_
  refine Calls.mono (Qni x.h (c.bound : Nat) hA hB hc hd _ hok.hh hS) ?_
  rintro _ w3 ⟨A', c', B', d', F9, rfl, hF9, hH', hS'⟩
  refine Za ?_
  replace hS := hS'
  clear hS'
  refine ZaT ?_
  refine Za7 ?_
  refine Zbh ?_
  refine Zbh ?_
  refine Zao ?_
  refine Zd ?_
  clear hS
  intro wx5 hS
  refine ZaT ?_
  refine Zce ?_
  refine Qbo ?_
  refine Zb ?_
  exact hmeet _ _ _ _ ⟨_, A', c', B', d', F9, rfl, rfl, hF9, hH', hS⟩ Yb Yb Yc
 clear hS
 rintro jv _ _ w3 ⟨b4, A', c', B', d', F', rfl, rfl, hF', hH', hS⟩
 refine ZU ?_
 refine Z9 ?_
 refine Zby ?_
 refine Zf ?_
 refine Calls.mono (Qup (QcA x.h (c.bound : Nat)).1 (c.cells : Nat) A' B' c' d' _ hH' hS) ?_
 rintro _ w4 ⟨A2, c2, B2, d2, F2, rfl, hF2, hH2, hS'⟩
 refine Za ?_
 replace hS := hS'
 clear hS'
 refine Zaz ?_
 refine Zdq ?_
 clear hS
 intro wx6 hS
 refine Zb ?_
 refine QD Tryz.func146 rfl ?_
 exact ⟨rfl, _, F2, fun φ h => hF2 φ (hF' φ (hFF φ h)), ((hok.mono hF').mono hF2).setH hH2, hS.drop.drop⟩
theorem Qlh (x : XS) (a : Int) (w : World) (hl : ∃ z, hat x.h.cs (Qr x.h.cs a) = some z) (hlen : x.h.cs.length ≤ 65536) (hs : XSt M w0 H F0 b P pA pc vars fuel every x w) :
  Calls Tryz.prog 193 #[ptm b, .int .i64 a] w fun e w' => e = .returned (cvv (QY x.h a)) ∧ XSt M w0 H F0 b P pA pc vars fuel every x w' := by
 obtain ⟨z, hz⟩ := hl
 have hcz : QY x.h a = z := by unfold QY; rw [hz]; rfl
 rw [hcz]
 obtain ⟨d, F, hFF, hok, hS⟩ := hs
 obtain ⟨hA, hc, hB, hd, LA, lc, O1, cs, CA, cc, O2, evs, EA, ec, O3⟩ := d
 obtain ⟨z0, z1, z2⟩ := Qba.1 hz
 obtain ⟨hb_, ho_, rfl⟩ : ∃ b o, hA = some ⟨b, o, none⟩ := (hS.und hok.hh).1.some_ (by show 0 < x.h.cs.length; omega)
 have hcell : ∀ {H'} w', St M w0 H' F w' → _ := fun w' hS => ((hS.und hok.hh).1).cell z2
 refine Qg Tryz.func193 rfl Tryz.ntmps193 rfl ?_
 refine Zg ?_
 refine Zaa ?_
 clear hS
 intro b1 wx1 hS
 refine ZK ?_
 refine QB (St _ _ _ _) 13 ((0, true) :: (1, true) :: (2, true) :: (3, true) :: (4, true) :: (5, true) :: (6, true) :: (7, true) :: (8, true) :: (9, true) :: (10, false) :: (11, true) :: (12, true) :: []) Yc Yc (hS.drew) ?_
 replace hS := hS.drew
 refine Zgm ?_
 refine ZaC ?_
 first
  | refine Qd rfl (fun _ hS => Qb (k := 2) hS rfl rfl rfl (by first | exact .head | exact .tail .head | exact .tail (.tail .head) | exact .tail (.tail (.tail .head)) | exact .tail (.tail (.tail (.tail .head))) | exact .tail (.tail (.tail (.tail (.tail .head))))) Yf) rfl ?_
  | refine Qd rfl (fun _ hS => Qb (k := 2) hS rfl rfl rfl (by first | exact .head | exact .tail .head | exact .tail (.tail .head) | exact .tail (.tail (.tail .head)) | exact .tail (.tail (.tail (.tail .head))) | exact .tail (.tail (.tail (.tail (.tail .head))))) Ye) rfl ?_
  | refine Qd rfl (fun _ hS => QaQ rfl rfl rfl (by first | assumption | exact (hcell _ hS).1 | exact (hcell _ hS).2.1 | exact (hcell _ hS).2.2 | exact hS.cell0 Ye) (by first | assumption | exact (hcell _ hS).1 | exact (hcell _ hS).2.1 | exact (hcell _ hS).2.2 | exact hS.cell0 Ye)) rfl ?_
 refine ZT ?_
 refine Zp ?_
 refine Zf ?_
 refine Calls.mono (QjY x.h.cs (some ⟨hb_, ho_, none⟩) hB hc x.h.tr.length hd a _ (hS.und hok.hh).1 Ya) ?_
 rintro _ w3 ⟨rfl, hb3⟩
 refine Za ?_
 replace hS := hS.grow hb3
 refine Zcf ?_
 refine Za4 ?_
 refine ZdN ?_
 refine ZJ ?_
 refine Zd ?_
 clear hS
 intro wx2 hS
 refine Zb ?_
 refine QdY (sz := 3) hS Tryz.func193 rfl rfl rfl rfl (by first | exact .head | exact .tail .head | exact .tail (.tail .head) | exact .tail (.tail (.tail .head)) | exact .tail (.tail (.tail (.tail .head))) | exact .tail (.tail (.tail (.tail (.tail .head))))) Yf ?_
 exact ⟨rfl, _, F, hFF, hok, hS.drop⟩
end
section
variable {n : Nat} {e : Env} {w : World} {ty : TypeId} {pos : String} {after : Array Edge} {dst : Option Nat} {x y : Operand}
theorem Qgl {a b : HC} (hx : ev n e x = .agg (hcs a).toArray) (hy : ev n e y = .agg (hcs b).toArray) :
  (execOp (ev n e) ⟨dst, .binOp .eql 104 x y 104, ty, pos, after, none⟩).run Tryz.prog w = .ok (.value (.bool (decide (a = b)))) w := by
 simp only [execOp, hx, hy, bind, pure]
 rw [Sem.run_bind', Sem.run_bind', run_eqGuard_agg w _ _ _ _ _ _ Yc]
 simp only [Result.andThen_ok]
 rw [run_eql_struct, Qhw]
 rfl
theorem Qis {a b : HC} (hx : ev n e x = .agg (hcs a).toArray) (hy : ev n e y = .agg (hcs b).toArray) (h : a = b) :
  (execOp (ev n e) ⟨dst, .binOp .eql 104 x y 104, ty, pos, after, none⟩).run Tryz.prog w = .ok (.value (.bool true)) w := by
 rw [Qgl hx hy, decide_eq_true h]
theorem Qit {a b : HC} (hx : ev n e x = .agg (hcs a).toArray) (hy : ev n e y = .agg (hcs b).toArray) (h : a ≠ b) :
  (execOp (ev n e) ⟨dst, .binOp .eql 104 x y 104, ty, pos, after, none⟩).run Tryz.prog w = .ok (.value (.bool false)) w := by
 rw [Qgl hx hy, decide_eq_false h]
end
theorem XSt.weaken {M : List Nat} {w0 : World} {H : List (Nat × Obj)} {F0 F1 : List (World → Prop)} {b : Nat} {P : List LB} {pA : Option Addr} {pc vars fuel every : Nat} {x : XS} {w : World} (h : XSt M w0 H F1 b P pA pc vars fuel every x w) (hF : ∀ φ ∈ F0, φ ∈ F1) : XSt M w0 H F0 b P pA pc vars fuel every x w := by
 obtain ⟨d, F, h1, h2, h3⟩ := h
 exact ⟨d, F, fun φ h => h1 φ (hF φ h), h2, h3⟩
theorem St.freezeLB {M : List Nat} {w0 w : World} {H O : List (Nat × Obj)} {F : List (World → Prop)} {el : Nat} {A : Option Addr} {c : Nat} {L : List LB} (hr : Row el 4 (.slice A L.length c) L.length (lbL L) O) (hR : ∀ x ∈ L, Und F (Qu3 x)) (hS : St M w0 (O ++ H) F w) :
  ∃ F', (∀ φ ∈ F, φ ∈ F') ∧ Und F' (LBR L A c) ∧ St M w0 H F' w := by
 obtain ⟨F', h1, h2, h3⟩ := St.freezeL hS
 refine ⟨F', h1, fun w' hw' => ⟨⟨QhO L, hr.cap, fun hl => ?_⟩, fun x hx => (hR x hx).mono h1 w' hw'⟩, h3⟩
 obtain ⟨g, sp, rfl, rfl, _⟩ := hr.some_ hl
 refine ⟨g, 0, rfl, fun j u hu => ?_⟩
 have hjl : j < (lbL L).length := by
  rcases Nat.lt_or_ge j (lbL L).length with hh | hh
  ·exact hh
  ·rw [List.getElem?_eq_none hh] at hu; cases hu
 rw [Qu (h2 _ (.head _) w' hw'), Nat.zero_add, List.getElem?_append_left hjl]; exact hu
def LB.ok (x : LB) : Prop := 0 ≤ x.cl.vars ∧ x.cl.vars ≤ 1048576 ∧ (Qt x.cl).length ≤ 1048576 ∧ hat (Qt x.cl) x.cl.vars = some (QhS x.cl)
def QlJ (z : HC) (x : LB) : Bool := decide (QhS x.cl = z)
section
variable {M : List Nat} {w0 : World} {H : List (Nat × Obj)} {F0 : List (World → Prop)} {b : Nat} {P : List LB} {pA : Option Addr} {pc vars fuel every : Nat}
theorem QjU (x : XS) (z : HC) (w : World) (hP : ∀ p ∈ P, p.ok) (hl : P.length ≤ 24) (hs : XSt M w0 H F0 b P pA pc vars fuel every x w) :
  Calls Tryz.prog 99 #[ptm b, .agg (hcs z).toArray] w fun e w' => ∃ (A : Option Addr) (c : Nat) (F1 : List (World → Prop)), e = .returned (.slice A (P.filter (QlJ z)).length c) ∧ (∀ φ ∈ F0, φ ∈ F1) ∧ Und F1 (LBR (P.filter (QlJ z)) A c) ∧ XSt M w0 H F1 b P pA pc vars fuel every x w' := by
 obtain ⟨d, F, hFF, hok, hS⟩ := hs
 obtain ⟨hA, hc, hB, hd, LA, lc, O1, cs, CA, cc, O2, evs, EA, ec, O3⟩ := d
 have hrp : Und F (LBR P pA pc) := hok.rp
 refine Qg Tryz.func99 rfl Tryz.ntmps99 rfl ?_
 refine Zi ?_
 clear hS
 intro b1 wx1 hS
 refine Zc ?_
 refine ZD ?_
 refine Zc7 ?_
 refine Z6 ?_
 refine QaB 13 5 (14 :: 15 :: 16 :: 7 :: 17 :: 18 :: 19 :: 20 :: 21 :: 22 :: 23 :: 24 :: 25 :: 26 :: 27 :: 28 :: 29 :: []) (fun (R : List LB) v u w' => ∃ (D : List LB) (O : List (Nat × Obj)), P = D ++ R ∧ v = .int .i64 (D.length : Nat) ∧ Row 94 4 u (D.filter (QlJ z)).length (lbL (D.filter (QlJ z))) O ∧ St M w0 ((b1, .cells (hcs z).toArray 104) :: (b, mob P pA pc vars fuel every x ⟨hA, hc, hB, hd, LA, lc, O1, cs, CA, cc, O2, evs, EA, ec, O3⟩) :: (O ++ (O1 ++ (O2 ++ (O3 ++ H))))) F w') (fun R => R.length) (P) ?_ Yb Yb ?_
 ·exact ⟨[], [], rfl, rfl, Row.nil_, hS⟩
 clear hS
 rintro R _ V w2 jv ⟨D, O, hDR, rfl, hrow, hS⟩ ih
 have hlen : P.length = D.length + R.length := by rw [hDR]; simp
 obtain ⟨Av, cv, rfl⟩ := hrow.form
 cases R with
 | nil =>
  simp only [List.length_nil] at hlen
  have e : P = D := by rw [hDR]; simp
  refine Zb9 ?_
  refine Qc Tryz.func99 rfl Yb ?_
  rw [← e] at hrow ⊢
  obtain ⟨F', h1, h2, h3⟩ := St.freezeLB (H := (b, mob P pA pc vars fuel every x ⟨hA, hc, hB, hd, LA, lc, O1, cs, CA, cc, O2, evs, EA, ec, O3⟩) :: (O1 ++ (O2 ++ (O3 ++ H)))) hrow (fun y hy => hrp.imp fun w h => h.2 y (List.mem_filter.1 hy).1) (hS.drop.perm (List.perm_append_comm_assoc [_] _ _))
  exact ⟨Av, cv, F', rfl, fun φ h => h1 φ (hFF φ h), h2, _, F', fun φ h => h, hok.mono h1, h3⟩
 | cons y R =>
  simp only [List.length_cons] at hlen
  have hyo : y.ok := hP y (by rw [hDR]; simp)
  rw [hDR] at hrp
  obtain ⟨b6, o6, rfl⟩ := (hS.und hrp).some_ Yh
  obtain ⟨q0, q1, q2, q3⟩ := (hS.und hrp).cells
  have hfl : Und F (Qu3 y) := hrp.imp fun w h => h.2 y Yd
  have hflen := List.length_filter_le (QlJ z) D
  obtain ⟨v0, v1, v2, v3⟩ := hyo
  have vb := (Qba.1 v3).2.1
  obtain ⟨b8, o8, hb8⟩ : ∃ b o, y.A = some ⟨b, o, none⟩ := (hS.und hfl).1.some_ (by have := (Qba.1 v3).2.1; omega)
  have hcell : ∀ {H'} w', St M w0 H' F w' → _ := fun {H'} w' (hS : St M w0 H' F w') => Qz.cell (b := b8) (o := o8) (hb8 ▸ (hS.und hfl).1) (Qba.1 v3).2.2
  rw [hb8] at q0
  by_cases he : QhS y.cl = z
  ·have hfit : (D ++ [y]).filter (QlJ z) = D.filter (QlJ z) ++ [y] := by rw [List.filter_append]; simp [QlJ, he]
   refine Zcj ?_
   refine ZaS ?_
   refine ZcG ?_
   refine ZX ?_
   clear hS
   intro b2 wx2 hS
   refine Zd ?_
   clear hS
   intro wx3 hS
   refine ZK ?_
   refine ZfX ?_
   replace hS := hS.drew
   refine ZeL ?_
   refine Zfm ?_
   refine Za4 ?_
   refine ZdN ?_
   refine ZdN ?_
   refine ZfY ?_
   refine ZJ ?_
   refine ZbF ?_
   refine ZfZ ?_
   refine ZdA ?_
   clear hS
   intro b3 wx4 hS
   refine Qa8 (sz := 4) (bts := 64) hS Yb rfl rfl rfl rfl (hrow) rfl rfl (.cons _ (List.perm_append_comm_assoc [_, _, _] _ _)) Ya Ya rfl ?_
   clear hS
   intro v' O' w6 hrow' hS
   replace hS := hS.perm (List.perm_append_comm_assoc O' [_, _, _] _)
   refine ZaN ?_
   refine ih (R) _ _ _ _ ?_ ?_ Yb Yb Yc
   ·simp
   ·exact ⟨D ++ [y], O', by rw [hDR]; simp, by simp, by
     have e1 : lbL [y] = [.slice (some ⟨b8, o8, none⟩) (Qt y.cl).length y.c, .int .i64 y.cl.vars, .int .i64 y.cl.vars, .slice y.B (Qat y.cl).length y.d] := by simp only [lbL, Qtm, hb8, List.append_nil]
     rw [hfit, Qj0, List.length_append, e1]; exact hrow', hS.drop⟩
  ·have hfit : (D ++ [y]).filter (QlJ z) = D.filter (QlJ z) := by rw [List.filter_append]; simp [QlJ, he]
   refine Zcj ?_
   refine ZaS ?_
   refine ZfZ ?_
   refine ZX ?_
   clear hS
   intro b2 wx2 hS
   refine Zd ?_
   clear hS
   intro wx3 hS
   refine ZK ?_
   refine ZfX ?_
   replace hS := hS.drew
   refine ZeL ?_
   refine Zfm ?_
   refine Za4 ?_
   refine ZdN ?_
   refine ZdN ?_
   refine ZfY ?_
   refine ZJ ?_
   refine ZbM ?_
   refine ih (R) _ _ _ _ ?_ ?_ Yb Yb Yc
   ·simp
   ·exact ⟨D ++ [y], O, by rw [hDR]; simp, by simp, by rw [hfit]; exact hrow, hS.drop⟩
end
section
variable {M : List Nat} {w0 : World} {H : List (Nat × Obj)} {F0 : List (World → Prop)} {b : Nat} {P : List LB} {pA : Option Addr} {pc vars fuel every : Nat}
theorem Qn9 (st o : Nat) : ∀ (G : List Int) (nx : Int) (L : List XL), (Qb3 st o G nx L).1.length = L.length + G.length
 | [], nx, L => by simp [Qb3]
 | g :: r, nx, L => by simp only [Qb3, List.length_append, List.length_cons, List.length_nil, Qn9 st o r nx L]; omega
theorem Qrn (st o : Nat) (G : List Int) (nx : Int) (L : List XL) (i : Nat) (g : Int) (hg : G[i]? = some g) : Qb3 st o (G.drop i) nx L = ((Qb3 st o (G.drop (i + 1)) nx L).1 ++ [⟨st + g, o, (Qb3 st o (G.drop (i + 1)) nx L).2⟩], (((Qb3 st o (G.drop (i + 1)) nx L).1.length : Nat) : Int)) := by
 have hi : i < G.length := by
  rcases Nat.lt_or_ge i G.length with h | h
  ·exact h
  ·rw [List.getElem?_eq_none h] at hg; cases hg
 have e : G.drop i = g :: G.drop (i + 1) := by
  rw [List.drop_eq_getElem_cons hi]
  have : G[i] = g := by rw [List.getElem?_eq_getElem hi] at hg; simpa using hg
  rw [this]
 rw [e]; rfl
def XS.links (s : XS) (L : List XL) : XS := ⟨s.h, s.goals, L, s.first, s.ch, s.ev⟩
theorem QhI {F : List (World → Prop)} (x : XS) (G : List Int) (gA : Option Addr) (gc st o : Nat) (nx : Int) (hA hB : Option Addr) (hc hd : Nat) (LA : Option Addr) (lc : Nat) (O1 : List (Nat × Obj)) (cs : List LX) (CA : Option Addr) (cc : Nat) (O2 : List (Nat × Obj)) (evs : List LE) (EA : Option Addr) (ec : Nat) (O3 : List (Nat × Obj)) (w : World) (hst : st ≤ 1048576) (hG : ∀ g ∈ G, 0 ≤ g ∧ g ≤ 1048576) (hln : x.ln.length + G.length ≤ 1048576) (hgf' : Und F (Qz 1 (Qm G) gA G.length gc))
  (hok : XOk P pA pc x ⟨hA, hc, hB, hd, LA, lc, O1, cs, CA, cc, O2, evs, EA, ec, O3⟩ F) (hS : St M w0 ((b, mob P pA pc vars fuel every x ⟨hA, hc, hB, hd, LA, lc, O1, cs, CA, cc, O2, evs, EA, ec, O3⟩) :: (O1 ++ (O2 ++ (O3 ++ H)))) F w) :
  Calls Tryz.prog 54 #[ptm b, .slice gA G.length gc, .int .i64 (st : Nat), .int .i64 (o : Nat), .int .i64 nx] w fun e w' => e = .returned (.int .i64 (Qb3 st o G nx x.ln).2) ∧ ∃ (LA' : Option Addr) (lc' : Nat) (O1' : List (Nat × Obj)), XOk P pA pc (x.links (Qb3 st o G nx x.ln).1) ⟨hA, hc, hB, hd, LA', lc', O1', cs, CA, cc, O2, evs, EA, ec, O3⟩ F ∧ St M w0 ((b, mob P pA pc vars fuel every (x.links (Qb3 st o G nx x.ln).1) ⟨hA, hc, hB, hd, LA', lc', O1', cs, CA, cc, O2, evs, EA, ec, O3⟩) :: (O1' ++ (O2 ++ (O3 ++ H)))) F w' := by
 refine QeS Tryz.func54 rfl Tryz.ntmps54 rfl ?_
 refine ZD ?_
 refine Zb7 ?_
 refine Zc ?_
 refine ZbQ ?_
 refine QaB 11 4 (15 :: 16 :: 19 :: 20 :: 21 :: 22 :: 23 :: 24 :: 25 :: 26 :: 27 :: 28 :: 29 :: 30 :: 31 :: 32 :: 33 :: 34 :: 35 :: 36 :: 37 :: 38 :: 39 :: 40 :: 41 :: 42 :: 17 :: 18 :: []) (fun (i : Nat) v u w' => i ≤ G.length ∧ v = .int .i64 ((i : Nat) - 1 : Int) ∧ u = .int .i64 (Qb3 st o (G.drop i) nx x.ln).2 ∧ ∃ (LA' : Option Addr) (lc' : Nat) (O' : List (Nat × Obj)), Row 101 3 (.slice LA' (Qb3 st o (G.drop i) nx x.ln).1.length lc') (Qb3 st o (G.drop i) nx x.ln).1.length (xlL (Qb3 st o (G.drop i) nx x.ln).1) O' ∧ St M w0 ((b, mob P pA pc vars fuel every (x.links (Qb3 st o (G.drop i) nx x.ln).1) ⟨hA, hc, hB, hd, LA', lc', O', cs, CA, cc, O2, evs, EA, ec, O3⟩) :: (O' ++ (O2 ++ (O3 ++ H)))) F w') (fun i => i) (G.length) ?_ Yb Yb ?_
 ·rw [List.drop_length]
  exact ⟨Nat.le_refl _, by simp, rfl, LA, lc, O1, hok.row1, hS⟩
 clear hS
 rintro i _ _ w2 jv ⟨hi, rfl, rfl, LA', lc', O', hrow, hS⟩ ih
 have hlb := Qn9 st o (G.drop i) nx x.ln
 have hdl : (G.drop i).length ≤ G.length := by simp
 cases i with
 | zero =>
  refine Zw ?_
  refine ZW ?_
  refine Zbp ?_
  refine ZQ ?_
  refine Qc Tryz.func54 rfl Yb ?_
  exact ⟨rfl, LA', lc', O', ⟨hok.hh, hrow, hok.hc, hok.rc, hok.row2, hok.he, hok.re, hok.row3, hok.rp⟩, hS⟩
 | succ i =>
  have hil : i < G.length := by omega
  obtain ⟨g, hg⟩ : ∃ g, G[i]? = some g := ⟨G[i], List.getElem?_eq_getElem hil⟩
  have hgm : g ∈ G := List.mem_of_getElem? hg
  have hg0 := hG g hgm
  have hbt := Qrn st o G nx x.ln i g hg
  obtain ⟨gb, go, rfl⟩ : ∃ b o, gA = some ⟨b, o, none⟩ := (hS.und hgf').some_ Ya
  have hgi : (Qm G)[i]? = some (.int .i64 g) := by simp [Qm, hg]
  have hgc : ∀ {H'} w', St M w0 H' F w' → w'.cell? ⟨gb, go + ((i : Nat) : Int).toNat * 1, none⟩ = some (.int .i64 g) := fun w' hS => by
   have := (hS.und hgf').get hgi
   rwa [Int.toNat_natCast, Nat.mul_one]
  rw [show (((i + 1 : Nat) : Int) - 1) = ((i : Nat) : Int) by omega]
  refine Zw ?_
  refine ZW ?_
  refine ZC ?_
  refine ZeG ?_
  refine Zu ?_
  refine QB (St _ w0 [_] _) 18 ((0, true) :: (1, true) :: (2, true) :: (3, true) :: (4, true) :: (5, true) :: (6, true) :: (7, true) :: (8, true) :: (9, true) :: (10, true) :: (11, true) :: (12, true) :: (13, true) :: (14, false) :: (15, false) :: (16, true) :: (17, true) :: []) Yc Yc (hS.drew.only1) ?_
  replace hS := hS.drew
  refine Zcv ?_
  refine ZdO ?_
  refine Zf0 ?_
  refine Z7 ?_
  refine ZT ?_
  refine ZcO ?_
  refine Zf0 ?_
  refine Qd rfl (fun _ hS => Qmu rfl rfl Ya Ya) rfl ?_
  refine Z7 ?_
  refine Qd rfl (fun _ hS => QN (cells := [_, _, _]) (.cons Yb (.cons Yb (.cons Yb .nil))) rfl) rfl ?_
  refine Zp ?_
  refine ZcI ?_
  clear hS
  intro b1 wx1 hS
  refine Zed ?_
  refine Zp ?_
  refine Qa8 (sz := 3) (bts := 24) hS rfl rfl rfl rfl rfl hrow rfl rfl (.cons _ (List.perm_append_comm_assoc [_] _ _)) Ya Ya rfl ?_
  clear hS
  intro v8 O8 w8 hrow8 hS
  obtain ⟨A8, c8, rfl⟩ := hrow8.form
  replace hS := hS.perm (List.perm_append_comm_assoc [_] _ _).symm
  refine Zed ?_
  refine ZaO ?_
  refine ZdO ?_
  refine ZbE ?_
  clear hS
  intro wx2 hS
  refine Zcp ?_
  refine Z4 ?_
  refine ZdP ?_
  first
   | refine Qa (Qf hS rfl rfl (by first | exact .head | exact .tail .head | exact .tail (.tail .head) | exact .tail (.tail (.tail .head)) | exact .tail (.tail (.tail (.tail .head))) | exact .tail (.tail (.tail (.tail (.tail .head))))) Yf) rfl ?_
   | refine Qa (Qn rfl rfl (by first | assumption | exact hgc _ hS | exact hS.cell0 Ye | exact Qx hS | exact Qy hS)) rfl ?_
  refine Zb7 ?_
  refine Zc ?_
  refine ZaH ?_
  refine ZU ?_
  refine Zay ?_
  refine Zc ?_
  refine ih (i) _ _ _ _ ?_ ?_ Yb Yb Yc
  ·omega
  ·refine ⟨by omega, by simp, ?_, A8, c8, O8, ?_, ?_⟩
   ·rw [hbt]
    exact congrArg (Value.int IntKind.i64) (by show (((_ + 1 : Nat) : Int) - 1) = _; omega)
   ·rw [hbt]
    have e := QtO (Qb3 st o (G.drop (i + 1)) nx x.ln).1 [⟨st + g, o, (Qb3 st o (G.drop (i + 1)) nx x.ln).2⟩]
    show Row _ 3 (.slice A8 (_ ++ [_]).length c8) (_ ++ [_]).length (xlL (_ ++ [_])) O8
    rw [e, List.length_append]; exact hrow8
   ·rw [hbt]
    show St M w0 ((b, mob P pA pc vars fuel every (x.links (_ ++ [_])) _) :: _) F _
    unfold mob mcs XS.links
    rw [List.length_append]; exact hS
end
end Go.Proofs.YthliapbflkfdiacGreatDoor
