/- XWalk4, XWalk3, XWalk5, XWalk6: texts that follow one another, laid into one file. -/
import Derived.Test.YthliapbflkfdiabGreatZ0
import Derived.Test.YthliapbflkfdiabGreatG20
namespace Go.Proofs.YthliapbflkfdiabGreat
open Go.RowKit
set_option linter.unusedVariables false
set_option linter.unusedSimpArgs false
set_option maxRecDepth 100000
set_option maxHeartbeats 1000000
section
variable {n : Nat} {e : Env} {w : World} {ty : TypeId} {pos : String} {after : Array Edge} {dst : Option Nat} {x y : Operand}
theorem run_eql_cell {a b : HC} (hx : ev n e x = .agg (hcs a).toArray) (hy : ev n e y = .agg (hcs b).toArray) :
  (execOp (ev n e) ⟨dst, .binOp .eql 84 x y 84, ty, pos, after, none⟩).run Tryz.prog w = .ok (.value (.bool (decide (a = b)))) w := by
 simp only [execOp, hx, hy, bind, pure]
 rw [Sem.run_bind', Sem.run_bind', run_eqGuard_agg w _ _ _ _ _ _ (by kernel_rfl)]
 simp only [Result.andThen_ok]
 rw [run_eql_struct, run_cell_eq]
 rfl
theorem run_eql_cell_t {a b : HC} (hx : ev n e x = .agg (hcs a).toArray) (hy : ev n e y = .agg (hcs b).toArray) (h : a = b) :
  (execOp (ev n e) ⟨dst, .binOp .eql 84 x y 84, ty, pos, after, none⟩).run Tryz.prog w = .ok (.value (.bool true)) w := by
 rw [run_eql_cell hx hy, decide_eq_true h]
theorem run_eql_cell_f {a b : HC} (hx : ev n e x = .agg (hcs a).toArray) (hy : ev n e y = .agg (hcs b).toArray) (h : a ≠ b) :
  (execOp (ev n e) ⟨dst, .binOp .eql 84 x y 84, ty, pos, after, none⟩).run Tryz.prog w = .ok (.value (.bool false)) w := by
 rw [run_eql_cell hx hy, decide_eq_false h]
end
theorem XSt.weaken {M : List Nat} {w0 : World} {H : List (Nat × Obj)} {F0 F1 : List (World → Prop)} {b : Nat} {P : List LB} {pA : Option Addr} {pc vars fuel every : Nat} {x : XS} {w : World} (h : XSt M w0 H F1 b P pA pc vars fuel every x w) (hF : ∀ φ ∈ F0, φ ∈ F1) : XSt M w0 H F0 b P pA pc vars fuel every x w := by
 obtain ⟨d, F, h1, h2, h3⟩ := h
 exact ⟨d, F, fun φ h => h1 φ (hF φ h), h2, h3⟩
theorem St.freezeLB {M : List Nat} {w0 w : World} {H O : List (Nat × Obj)} {F : List (World → Prop)} {el : Nat} {A : Option Addr} {c : Nat} {L : List LB} (hr : Row el 4 (.slice A L.length c) L.length (lbL L) O) (hR : ∀ x ∈ L, Und F (LBRd x)) (hS : St M w0 (O ++ H) F w) :
  ∃ F', (∀ φ ∈ F, φ ∈ F') ∧ Und F' (LBR L A c) ∧ St M w0 H F' w := by
 obtain ⟨F', h1, h2, h3⟩ := St.freezeL hS
 refine ⟨F', h1, fun w' hw' => ⟨⟨lbL_len L, hr.cap, fun hl => ?_⟩, fun x hx => (hR x hx).mono h1 w' hw'⟩, h3⟩
 obtain ⟨g, sp, rfl, rfl, _⟩ := hr.some_ hl
 refine ⟨g, 0, rfl, fun j u hu => ?_⟩
 have hjl : j < (lbL L).length := by
  rcases Nat.lt_or_ge j (lbL L).length with hh | hh
  ·exact hh
  ·rw [List.getElem?_eq_none hh] at hu; cases hu
 rw [cell_own (h2 _ (.head _) w' hw'), Nat.zero_add, List.getElem?_append_left hjl]; exact hu
def LB.ok (x : LB) : Prop := 0 ≤ x.cl.vars ∧ x.cl.vars ≤ 1048576 ∧ (blockC x.cl).length ≤ 1048576 ∧ hat (blockC x.cl) x.cl.vars = some (headX x.cl)
def fitX (z : HC) (x : LB) : Bool := decide (headX x.cl = z)
section
variable {M : List Nat} {w0 : World} {H : List (Nat × Obj)} {F0 : List (World → Prop)} {b : Nat} {P : List LB} {pA : Option Addr} {pc vars fuel every : Nat}
theorem mmatching_any (x : XS) (z : HC) (w : World) (hP : ∀ p ∈ P, p.ok) (hl : P.length ≤ 24) (hs : XSt M w0 H F0 b P pA pc vars fuel every x w) :
  Calls Tryz.prog 56 #[ptm b, .agg (hcs z).toArray] w fun e w' => ∃ (A : Option Addr) (c : Nat) (F1 : List (World → Prop)), e = .returned (.slice A (P.filter (fitX z)).length c) ∧ (∀ φ ∈ F0, φ ∈ F1) ∧ Und F1 (LBR (P.filter (fitX z)) A c) ∧ XSt M w0 H F1 b P pA pc vars fuel every x w' := by
 obtain ⟨d, F, hFF, hok, hS⟩ := hs
 obtain ⟨hA, hc, hB, hd, LA, lc, O1, cs, CA, cc, O2, evs, EA, ec, O3⟩ := d
 have hrp : Und F (LBR P pA pc) := hok.rp
 refine goes_enter2 Tryz.func56 rfl Tryz.ntmps56 rfl ?_
 refine Ze ?_
 clear hS
 intro b1 wx1 hS
 refine Zd ?_
 refine Zba ?_
 refine Zad ?_
 refine ZQ ?_
 refine goes_loop2 13 5 (14 :: 15 :: 16 :: 7 :: 17 :: 18 :: 19 :: 20 :: 21 :: 22 :: 23 :: 24 :: 25 :: 26 :: 27 :: 28 :: 29 :: []) (fun (R : List LB) v u w' => ∃ (D : List LB) (O : List (Nat × Obj)), P = D ++ R ∧ v = .int .i64 (D.length : Nat) ∧ Row 74 4 u (D.filter (fitX z)).length (lbL (D.filter (fitX z))) O ∧ St M w0 ((b1, .cells (hcs z).toArray 84) :: (b, mob P pA pc vars fuel every x ⟨hA, hc, hB, hd, LA, lc, O1, cs, CA, cc, O2, evs, EA, ec, O3⟩) :: (O ++ (O1 ++ (O2 ++ (O3 ++ H))))) F w') (fun R => R.length) (P) ?_ (by conv=>lhs;whnf) (by conv=>lhs;whnf) ?_
 ·exact ⟨[], [], rfl, rfl, Row.nil_, hS⟩
 clear hS
 rintro R _ V w2 jv ⟨D, O, hDR, rfl, hrow, hS⟩ ih
 have hlen : P.length = D.length + R.length := by rw [hDR]; simp
 obtain ⟨Av, cv, rfl⟩ := hrow.form
 cases R with
 | nil =>
  simp only [List.length_nil] at hlen
  have e : P = D := by rw [hDR]; simp
  refine ZbH ?_
  refine goes_ret1 Tryz.func56 rfl (by conv=>lhs;whnf) ?_
  rw [← e] at hrow ⊢
  obtain ⟨F', h1, h2, h3⟩ := St.freezeLB (H := (b, mob P pA pc vars fuel every x ⟨hA, hc, hB, hd, LA, lc, O1, cs, CA, cc, O2, evs, EA, ec, O3⟩) :: (O1 ++ (O2 ++ (O3 ++ H)))) hrow (fun y hy => hrp.imp fun w h => h.2 y (List.mem_filter.1 hy).1) (hS.drop.perm (List.perm_append_comm_assoc [_] _ _))
  exact ⟨Av, cv, F', rfl, fun φ h => h1 φ (hFF φ h), h2, _, F', fun φ h => h, hok.mono h1, h3⟩
 | cons y R =>
  simp only [List.length_cons] at hlen
  have hyo : y.ok := hP y (by rw [hDR]; simp)
  rw [hDR] at hrp
  obtain ⟨b6, o6, rfl⟩ := (hS.und hrp).some_ (by simp; omega)
  obtain ⟨q0, q1, q2, q3⟩ := (hS.und hrp).cells
  have hfl : Und F (LBRd y) := hrp.imp fun w h => h.2 y (by simp)
  have hflen := List.length_filter_le (fitX z) D
  obtain ⟨v0, v1, v2, v3⟩ := hyo
  have vb := (hatS.1 v3).2.1
  obtain ⟨b8, o8, hb8⟩ : ∃ b o, y.A = some ⟨b, o, none⟩ := (hS.und hfl).1.some_ (by have := (hatS.1 v3).2.1; omega)
  have hcell : ∀ {H'} w', St M w0 H' F w' → _ := fun {H'} w' (hS : St M w0 H' F w') => Flat.cell (b := b8) (o := o8) (hb8 ▸ (hS.und hfl).1) (hatS.1 v3).2.2
  rw [hb8] at q0
  by_cases he : headX y.cl = z
  ·have hfit : (D ++ [y]).filter (fitX z) = D.filter (fitX z) ++ [y] := by rw [List.filter_append]; simp [fitX, he]
   refine Zdm ?_
   refine Zak ?_
   refine Zz ?_
   clear hS
   intro b2 wx2 hS
   refine Zc ?_
   clear hS
   intro wx3 hS
   refine ZH ?_
   refine Zgt ?_
   replace hS := hS.drew
   refine Ze9 ?_
   refine ZfO ?_
   refine Za2 ?_
   refine Zd9 ?_
   refine Zd9 ?_
   refine Zgu ?_
   refine ZM ?_
   refine Zt ?_
   refine ZW ?_
   refine Zgv ?_
   refine Zc7 ?_
   clear hS
   intro b3 wx4 hS
   refine lst_app (sz := 4) (bts := 64) hS (by conv=>lhs;whnf) rfl rfl rfl rfl (hrow) rfl rfl (.cons _ (List.perm_append_comm_assoc [_, _, _] _ _)) (by omega) (by omega) rfl ?_
   clear hS
   intro v' O' w6 hrow' hS
   replace hS := hS.perm (List.perm_append_comm_assoc O' [_, _, _] _)
   refine ZaC ?_
   refine ih (R) _ _ _ _ ?_ ?_ (by conv=>lhs;whnf) (by conv=>lhs;whnf) (by kernel_rfl)
   ·simp
   ·exact ⟨D ++ [y], O', by rw [hDR]; simp, by simp, by
     have e1 : lbL [y] = [.slice (some ⟨b8, o8, none⟩) (blockC y.cl).length y.c, .int .i64 y.cl.vars, .int .i64 y.cl.vars, .slice y.B (goalsC y.cl).length y.d] := by simp only [lbL, lbcs, hb8, List.append_nil]
     rw [hfit, lbL_app, List.length_append, e1]; exact hrow', hS.drop⟩
  ·have hfit : (D ++ [y]).filter (fitX z) = D.filter (fitX z) := by rw [List.filter_append]; simp [fitX, he]
   refine Zdm ?_
   refine Zgv ?_
   refine Zz ?_
   clear hS
   intro b2 wx2 hS
   refine Zc ?_
   clear hS
   intro wx3 hS
   refine ZH ?_
   refine Zgt ?_
   replace hS := hS.drew
   refine Ze9 ?_
   refine ZfO ?_
   refine Za2 ?_
   refine Zd9 ?_
   refine Zd9 ?_
   refine Zgu ?_
   refine ZM ?_
   refine Zce ?_
   refine ih (R) _ _ _ _ ?_ ?_ (by conv=>lhs;whnf) (by conv=>lhs;whnf) (by kernel_rfl)
   ·simp
   ·exact ⟨D ++ [y], O, by rw [hDR]; simp, by simp, by rw [hfit]; exact hrow, hS.drop⟩
end
end Go.Proofs.YthliapbflkfdiabGreat
namespace Go.Proofs.YthliapbflkfdiabGreat
open Go.RowKit
set_option linter.unusedVariables false
set_option linter.unusedSimpArgs false
set_option maxRecDepth 100000
set_option maxHeartbeats 1000000
section
variable {M : List Nat} {w0 : World} {H : List (Nat × Obj)} {F0 : List (World → Prop)} {b : Nat} {P : List LB} {pA : Option Addr} {pc vars fuel every : Nat}
theorem befX_len (st o : Nat) : ∀ (G : List Int) (nx : Int) (L : List XL), (befX st o G nx L).1.length = L.length + G.length
 | [], nx, L => by simp [befX]
 | g :: r, nx, L => by simp only [befX, List.length_append, List.length_cons, List.length_nil, befX_len st o r nx L]; omega
theorem befX_take (st o : Nat) (G : List Int) (nx : Int) (L : List XL) (i : Nat) (g : Int) (hg : G[i]? = some g) : befX st o (G.drop i) nx L = ((befX st o (G.drop (i + 1)) nx L).1 ++ [⟨st + g, o, (befX st o (G.drop (i + 1)) nx L).2⟩], (((befX st o (G.drop (i + 1)) nx L).1.length : Nat) : Int)) := by
 have hi : i < G.length := by
  rcases Nat.lt_or_ge i G.length with h | h
  ·exact h
  ·rw [List.getElem?_eq_none h] at hg; cases hg
 have e : G.drop i = g :: G.drop (i + 1) := by
  rw [List.drop_eq_getElem_cons hi]
  have : G[i] = g := by rw [List.getElem?_eq_getElem hi] at hg; simpa using hg
  rw [this]
 rw [e]; rfl
def XS.links (s : XS) (L : List XL) : XS := ⟨s.h, s.goals, L, s.first, s.ch, s.ev⟩
theorem mbefore_any {F : List (World → Prop)} (x : XS) (G : List Int) (gA : Option Addr) (gc st o : Nat) (nx : Int) (hA hB : Option Addr) (hc hd : Nat) (LA : Option Addr) (lc : Nat) (O1 : List (Nat × Obj)) (cs : List LX) (CA : Option Addr) (cc : Nat) (O2 : List (Nat × Obj)) (evs : List LE) (EA : Option Addr) (ec : Nat) (O3 : List (Nat × Obj)) (w : World) (hst : st ≤ 1048576) (hG : ∀ g ∈ G, 0 ≤ g ∧ g ≤ 1048576) (hln : x.ln.length + G.length ≤ 1048576) (hgf' : Und F (Flat 1 (intsV G) gA G.length gc))
  (hok : XOk P pA pc x ⟨hA, hc, hB, hd, LA, lc, O1, cs, CA, cc, O2, evs, EA, ec, O3⟩ F) (hS : St M w0 ((b, mob P pA pc vars fuel every x ⟨hA, hc, hB, hd, LA, lc, O1, cs, CA, cc, O2, evs, EA, ec, O3⟩) :: (O1 ++ (O2 ++ (O3 ++ H)))) F w) :
  Calls Tryz.prog 27 #[ptm b, .slice gA G.length gc, .int .i64 (st : Nat), .int .i64 (o : Nat), .int .i64 nx] w fun e w' => e = .returned (.int .i64 (befX st o G nx x.ln).2) ∧ ∃ (LA' : Option Addr) (lc' : Nat) (O1' : List (Nat × Obj)), XOk P pA pc (x.links (befX st o G nx x.ln).1) ⟨hA, hc, hB, hd, LA', lc', O1', cs, CA, cc, O2, evs, EA, ec, O3⟩ F ∧ St M w0 ((b, mob P pA pc vars fuel every (x.links (befX st o G nx x.ln).1) ⟨hA, hc, hB, hd, LA', lc', O1', cs, CA, cc, O2, evs, EA, ec, O3⟩) :: (O1' ++ (O2 ++ (O3 ++ H)))) F w' := by
 refine goes_enter5 Tryz.func27 rfl Tryz.ntmps27 rfl ?_
 refine ZaL ?_
 refine Zy ?_
 refine ZcF ?_
 refine ZaP ?_
 refine goes_loop2 11 4 (15 :: 16 :: 19 :: 20 :: 21 :: 22 :: 23 :: 24 :: 25 :: 26 :: 27 :: 28 :: 29 :: 30 :: 31 :: 32 :: 33 :: 34 :: 35 :: 36 :: 37 :: 38 :: 39 :: 40 :: 41 :: 42 :: 17 :: 18 :: []) (fun (i : Nat) v u w' => i ≤ G.length ∧ v = .int .i64 ((i : Nat) - 1 : Int) ∧ u = .int .i64 (befX st o (G.drop i) nx x.ln).2 ∧ ∃ (LA' : Option Addr) (lc' : Nat) (O' : List (Nat × Obj)), Row 81 3 (.slice LA' (befX st o (G.drop i) nx x.ln).1.length lc') (befX st o (G.drop i) nx x.ln).1.length (xlL (befX st o (G.drop i) nx x.ln).1) O' ∧ St M w0 ((b, mob P pA pc vars fuel every (x.links (befX st o (G.drop i) nx x.ln).1) ⟨hA, hc, hB, hd, LA', lc', O', cs, CA, cc, O2, evs, EA, ec, O3⟩) :: (O' ++ (O2 ++ (O3 ++ H)))) F w') (fun i => i) (G.length) ?_ (by conv=>lhs;whnf) (by conv=>lhs;whnf) ?_
 ·rw [List.drop_length]
  exact ⟨Nat.le_refl _, by simp, rfl, LA, lc, O1, hok.row1, hS⟩
 clear hS
 rintro i _ _ w2 jv ⟨hi, rfl, rfl, LA', lc', O', hrow, hS⟩ ih
 have hlb := befX_len st o (G.drop i) nx x.ln
 have hdl : (G.drop i).length ≤ G.length := by simp
 cases i with
 | zero =>
  refine ZC ?_
  refine ZaQ ?_
  refine Za7 ?_
  refine Zax ?_
  refine goes_ret1 Tryz.func27 rfl (by conv=>lhs;whnf) ?_
  exact ⟨rfl, LA', lc', O', ⟨hok.hh, hrow, hok.hc, hok.rc, hok.row2, hok.he, hok.re, hok.row3, hok.rp⟩, hS⟩
 | succ i =>
  have hil : i < G.length := by omega
  obtain ⟨g, hg⟩ : ∃ g, G[i]? = some g := ⟨G[i], List.getElem?_eq_getElem hil⟩
  have hgm : g ∈ G := List.mem_of_getElem? hg
  have hg0 := hG g hgm
  have hbt := befX_take st o G nx x.ln i g hg
  obtain ⟨gb, go, rfl⟩ : ∃ b o, gA = some ⟨b, o, none⟩ := (hS.und hgf').some_ (by omega)
  have hgi : (intsV G)[i]? = some (.int .i64 g) := by simp [intsV, hg]
  have hgc : ∀ {H'} w', St M w0 H' F w' → w'.cell? ⟨gb, go + ((i : Nat) : Int).toNat * 1, none⟩ = some (.int .i64 g) := fun w' hS => by
   have := (hS.und hgf').get hgi
   rwa [Int.toNat_natCast, Nat.mul_one]
  rw [show (((i + 1 : Nat) : Int) - 1) = ((i : Nat) : Int) by omega]
  refine ZC ?_
  refine ZaQ ?_
  refine Zt ?_
  refine Zee ?_
  refine Zi ?_
  refine goes_draw (St _ w0 [_] _) 18 ((0, true) :: (1, true) :: (2, true) :: (3, true) :: (4, true) :: (5, true) :: (6, true) :: (7, true) :: (8, true) :: (9, true) :: (10, true) :: (11, true) :: (12, true) :: (13, true) :: (14, false) :: (15, false) :: (16, true) :: (17, true) :: []) (by kernel_rfl) (by kernel_rfl) (hS.drew.only1) ?_
  replace hS := hS.drew
  refine Zb9 ?_
  refine Zbx ?_
  refine Zgw ?_
  refine Zae ?_
  refine Zq ?_
  refine ZeU ?_
  refine Zgw ?_
  refine ZeB ?_
  refine Zae ?_
  refine Zgr ?_
  refine Zr ?_
  refine Zco ?_
  clear hS
  intro b1 wx1 hS
  refine ZdT ?_
  refine Zr ?_
  refine lst_app (sz := 3) (bts := 24) hS rfl rfl rfl rfl rfl hrow rfl rfl (.cons _ (List.perm_append_comm_assoc [_] _ _)) (by omega) (by omega) rfl ?_
  clear hS
  intro v8 O8 w8 hrow8 hS
  obtain ⟨A8, c8, rfl⟩ := hrow8.form
  replace hS := hS.perm (List.perm_append_comm_assoc [_] _ _).symm
  refine ZdT ?_
  refine Zam ?_
  refine Zbx ?_
  refine ZaD ?_
  clear hS
  intro wx2 hS
  refine Zb ?_
  refine ZW ?_
  refine Zds ?_
  first
   | refine lst_run (run_load1_own hS rfl rfl (by first | exact .head | exact .tail .head | exact .tail (.tail .head) | exact .tail (.tail (.tail .head)) | exact .tail (.tail (.tail (.tail .head))) | exact .tail (.tail (.tail (.tail (.tail .head))))) (by repeat constructor)) rfl ?_
   | refine lst_run (run_load1 rfl rfl (by first | assumption | exact hgc _ hS | exact hS.cell0 (by assumption) | exact lv_next hS | exact lv_list hS)) rfl ?_
  refine Zy ?_
  refine ZcF ?_
  refine Zef ?_
  refine Zf ?_
  refine ZcF ?_
  refine ih (i) _ _ _ _ ?_ ?_ (by conv=>lhs;whnf) (by conv=>lhs;whnf) (by kernel_rfl)
  ·omega
  ·refine ⟨by omega, by simp, ?_, A8, c8, O8, ?_, ?_⟩
   ·rw [hbt]
    exact congrArg (Value.int IntKind.i64) (by show (((_ + 1 : Nat) : Int) - 1) = _; omega)
   ·rw [hbt]
    have e := xlL_app (befX st o (G.drop (i + 1)) nx x.ln).1 [⟨st + g, o, (befX st o (G.drop (i + 1)) nx x.ln).2⟩]
    show Row _ 3 (.slice A8 (_ ++ [_]).length c8) (_ ++ [_]).length (xlL (_ ++ [_])) O8
    rw [e, List.length_append]; exact hrow8
   ·rw [hbt]
    show St M w0 ((b, mob P pA pc vars fuel every (x.links (_ ++ [_])) _) :: _) F _
    unfold mob mcs XS.links
    rw [List.length_append]; exact hS
end
end Go.Proofs.YthliapbflkfdiabGreat
namespace Go.Proofs.YthliapbflkfdiabGreat
open Go.RowKit
set_option linter.unusedVariables false
set_option linter.unusedSimpArgs false
set_option maxRecDepth 100000
set_option maxHeartbeats 1000000
def GOk (c : Cl) : Prop := 0 ≤ c.vars ∧ c.vars ≤ 1000000 ∧ (goalsC c).length ≤ 1000 ∧ ∀ g ∈ goalsC c, 0 ≤ g ∧ g ≤ 1000000
structure XBd (x : XS) : Prop where
 ln : x.ln.length ≤ 1000000
 cn : x.ch.length ≤ 1000000
 ch : ∀ c ∈ x.ch, c.at_ < x.ln.length ∧ c.cells ≤ 1000000 ∧ c.bound ≤ 1000000 ∧ c.cls.length ≤ 5000 ∧ ∀ d ∈ c.cls, GOk d
theorem loadH_le (h : HH) (K : List HC) : (loadH h K).2.1 ≤ 1000000 := by
 unfold loadH
 repeat' split
 all_goals (simp <;> omega)
def RetC (M : List Nat) (w0 : World) (H : List (Nat × Obj)) (b : Nat) (P : List LB) (pA : Option Addr) (pc vars fuel every n : Nat) : Prop :=
 ∀ (F0 : List (World → Prop)) (x : XS) (w : World), x.ch.length = n → XBd x → XSt M w0 H F0 b P pA pc vars fuel every x w →
  Calls Tryz.prog 50 #[ptm b] w fun e w' => e = .returned (.int .i64 (retX x.ch x).1) ∧ XSt M w0 H F0 b P pA pc vars fuel every (retX x.ch x).2 w'
theorem lnk_get {L : List XL} {a : Nat} (h : a < L.length) : L[a]? = some (lnk L a) := by
 unfold lnk; rw [List.getElem?_eq_getElem h, List.getD_eq_getElem?_getD, List.getElem?_eq_getElem h]; rfl
theorem perm_deep {α : Type} (q : α) (L O1 O2 O3 H : List α) : (L ++ q :: (O1 ++ (O2 ++ (O3 ++ H)))).Perm (q :: (O1 ++ (O2 ++ (O3 ++ (L ++ H))))) :=
 List.perm_middle.trans (.cons _ ((List.perm_append_comm_assoc L O1 _).trans (.append_left O1 ((List.perm_append_comm_assoc L O2 _).trans (.append_left O2 (List.perm_append_comm_assoc L O3 H))))))
theorem perm5 {α : Type} (p4 p3 p2 p1 q : α) (T : List α) : (p4 :: p3 :: p2 :: p1 :: q :: T).Perm (p3 :: p2 :: q :: p4 :: p1 :: T) :=
 (List.Perm.swap p3 p4 _).trans (.cons _ ((List.Perm.swap p2 p4 _).trans (.cons _ (List.perm_middle (l₁ := [p4, p1]) (l₂ := T) (a := q)))))
section
variable {n : Nat} {e : Env}
theorem args_5 {a b c o p : Operand} {x y z u v : Value} (h : ev n e a = x) (h2 : ev n e b = y) (h3 : ev n e c = z) (h4 : ev n e o = u) (h5 : ev n e p = v) : #[a, b, c, o, p].map (ev n e) = #[x, y, z, u, v] := by simp [h, h2, h3, h4, h5]
end
section
variable {M : List Nat} {w0 : World} {H : List (Nat × Obj)} {F0 : List (World → Prop)} {b : Nat} {P : List LB} {pA : Option Addr} {pc vars fuel every : Nat}
theorem mattempt_any (n : Nat) (hret : RetC M w0 H b P pA pc vars fuel every n) (x : XS) (a cells bound : Nat) (X : List LB) (A : Option Addr) (c : Nat) (w : World) (hn : x.ch.length = n) (hbd : XBd x) (ha : a < x.ln.length) (hX : ∀ p ∈ X, GOk p.cl) (hXl : X.length ≤ 5000) (hce : cells ≤ 1000000) (hbo : bound ≤ 1000000) (hXf : Und F0 (LBR X A c)) (hs : XSt M w0 H F0 b P pA pc vars fuel every x w) :
  Calls Tryz.prog 57 #[ptm b, .agg #[.int .i64 (a : Nat), .slice A X.length c, .int .i64 (cells : Nat), .int .i64 (bound : Nat)]] w fun e w' => e = .returned (.int .i64 (attX (retX x.ch) a cells bound (X.map LB.cl) x).1) ∧ XSt M w0 H F0 b P pA pc vars fuel every (attX (retX x.ch) a cells bound (X.map LB.cl) x).2 w' := by
 obtain ⟨d, F, hFF, hok, hS⟩ := hs
 obtain ⟨hA, hc, hB, hd, LA, lc, O1, cs, CA, cc, O2, evs, EA, ec, O3⟩ := d
 have hXF := hXf.mono hFF
 obtain ⟨l0, l1, l2⟩ := xlL_get x.ln a _ (lnk_get ha)
 have hrow1 := hok.row1
 obtain ⟨gl, sp, rfl, rfl, hcap⟩ := hrow1.some_ (by omega)
 have hll : ∀ {M2 H' F'} w', St M2 w0 H' F' w' → (gl, Obj.cells (xlL x.ln ++ sp).toArray 81) ∈ H' → _ := fun {M2 H' F'} w' (hS : St M2 w0 H' F' w') hm => And.intro (Row.cell (w := w') hrow1 hS (by intro p hp; obtain rfl := List.mem_singleton.1 hp; exact hm) rfl l0) (And.intro (Row.cell (w := w') hrow1 hS (by intro p hp; obtain rfl := List.mem_singleton.1 hp; exact hm) rfl l1) (Row.cell (w := w') hrow1 hS (by intro p hp; obtain rfl := List.mem_singleton.1 hp; exact hm) rfl l2))
 refine goes_enter2 Tryz.func57 rfl Tryz.ntmps57 rfl ?_
 refine Ze ?_
 clear hS
 intro b1 wx1 hS
 refine Z4 ?_
 refine goes_draw (St _ _ _ _) 9 ((0, true) :: (1, true) :: (2, true) :: (3, true) :: (4, true) :: (5, true) :: (6, true) :: (7, true) :: (8, false) :: []) (by kernel_rfl) (by kernel_rfl) (hS.drew) ?_
 replace hS := hS.drew
 refine Z3 ?_
 refine Zbx ?_
 refine ZfB ?_
 refine Zah ?_
 refine ZfB ?_
 refine Za2 ?_
 first
  | refine ord_read rfl (fun _ hS => run_loadN_own (k := 3) hS rfl rfl rfl (by first | exact .head | exact .tail .head | exact .tail (.tail .head) | exact .tail (.tail (.tail .head)) | exact .tail (.tail (.tail (.tail .head))) | exact .tail (.tail (.tail (.tail (.tail .head))))) (by repeat constructor)) rfl ?_
  | refine ord_read rfl (fun _ hS => run_loadN_own (k := 3) hS rfl rfl rfl (by first | exact .head | exact .tail .head | exact .tail (.tail .head) | exact .tail (.tail (.tail .head)) | exact .tail (.tail (.tail (.tail .head))) | exact .tail (.tail (.tail (.tail (.tail .head))))) (by assumption)) rfl ?_
  | refine ord_read rfl (fun _ hS => run_load3 rfl rfl rfl (by first | assumption | exact (hll _ hS (by repeat constructor)).1 | exact (hll _ hS (by repeat constructor)).2.1 | exact (hll _ hS (by repeat constructor)).2.2 | exact hS.cell0 (by assumption)) (by first | assumption | exact (hll _ hS (by repeat constructor)).1 | exact (hll _ hS (by repeat constructor)).2.1 | exact (hll _ hS (by repeat constructor)).2.2 | exact hS.cell0 (by assumption)) (by first | assumption | exact (hll _ hS (by repeat constructor)).1 | exact (hll _ hS (by repeat constructor)).2.1 | exact (hll _ hS (by repeat constructor)).2.2 | exact hS.cell0 (by assumption))) rfl ?_
 refine Zr ?_
 refine Z8 ?_
 clear hS
 intro b2 wx2 hS
 refine ZbF ?_
 clear hS
 intro wx3 hS
 refine ZH ?_
 refine Zaw ?_
 refine Zcq ?_
 refine ZQ ?_
 refine goes_loop1 24 (25 :: 26 :: 27 :: 28 :: 7 :: 6 :: 30 :: 31 :: 32 :: 33 :: 34 :: 35 :: 36 :: 29 :: 37 :: 38 :: 39 :: 8 :: 9 :: 10 :: 41 :: 42 :: 43 :: 44 :: 45 :: 46 :: 47 :: 48 :: 40 :: 49 :: 50 :: 51 :: 11 :: 12 :: 52 :: 53 :: 4 :: 54 :: 55 :: 56 :: 57 :: 58 :: 59 :: 60 :: 61 :: 62 :: 63 :: 64 :: 65 :: 66 :: 67 :: 68 :: 69 :: 70 :: 71 :: 72 :: 73 :: 74 :: 75 :: 76 :: 77 :: 78 :: 79 :: 80 :: 81 :: 82 :: 83 :: 84 :: 85 :: 86 :: 87 :: 88 :: 89 :: 90 :: 91 :: 92 :: 93 :: 94 :: 95 :: []) (fun (R : List LB) v w' => ∃ (D : List LB) (F' : List (World → Prop)), X = D ++ R ∧ v = .int .i64 (D.length : Nat) ∧ (∀ φ ∈ F, φ ∈ F') ∧ attX (retX x.ch) a cells bound (X.map LB.cl) x = attX (retX x.ch) a cells bound (R.map LB.cl) x ∧ St M w0 ((b2, .cells (xlcs (lnk x.ln a)).toArray 81) :: (b1, .cells #[.int .i64 (a : Nat), .slice A X.length c, .int .i64 (cells : Nat), .int .i64 (bound : Nat)] 108) :: (b, mob P pA pc vars fuel every x ⟨hA, hc, hB, hd, some ⟨gl, 0, none⟩, lc, [(gl, .cells (xlL x.ln ++ sp).toArray 81)], cs, CA, cc, O2, evs, EA, ec, O3⟩) :: ([(gl, .cells (xlL x.ln ++ sp).toArray 81)] ++ (O2 ++ (O3 ++ H)))) F' w') (fun R => R.length) (X) ?_ (by conv=>lhs;whnf) ?_
 ·exact ⟨[], F, rfl, rfl, fun _ h => h, rfl, hS⟩
 clear hS
 rintro R _ w2 jv ⟨D, F', hDR, rfl, hF', hatt, hS⟩ ih
 have hlen : X.length = D.length + R.length := by rw [hDR]; simp
 have hok' := hok.mono hF'
 have hXF' := hXF.mono hF'
 cases R with
 | nil =>
  simp only [List.length_nil] at hlen
  rw [hatt]
  refine ZJ ?_
  refine Zap ?_
  refine Calls.mono (hret F0 x _ hn hbd ⟨_, F', fun φ h => hF' φ (hFF φ h), hok', hS.drop.drop⟩) ?_
  rintro _ w9 ⟨rfl, hq⟩
  refine ZB ?_
  refine ZeV ?_
  exact ⟨rfl, hq⟩
 | cons y R =>
  simp only [List.length_cons] at hlen
  have hyg : GOk y.cl := hX y (by rw [hDR]; simp)
  obtain ⟨g0, g1, g2, g3⟩ := hyg
  have hXD : Und F' (LBR (D ++ y :: R) A c) := hDR ▸ hXF'
  obtain ⟨bX, oX, rfl⟩ := (hS.und hXD).some_ (by simp; omega)
  obtain ⟨q0, q1, q2, q3⟩ := (hS.und hXD).cells
  have hfl : Und F' (LBRd y) := hXD.imp fun w h => h.2 y (by simp)
  have hld := loadH_le x.h (blockC y.cl)
  have hstep : attX (retX x.ch) a cells bound (List.map LB.cl (y :: R)) x = if (headU x.h y.cl (lnk x.ln a).g).2.2 ≠ 0 then (4, x) else if (headU x.h y.cl (lnk x.ln a).g).2.1 = false then attX (retX x.ch) a cells bound (R.map LB.cl) x else (0, x.took a y.cl (R.map LB.cl) cells bound) := rfl
  refine ZaK ?_
  refine Zas ?_
  first
   | refine lst_run (run_loadN_own (k := 4) hS rfl rfl rfl (by first | exact .head | exact .tail .head | exact .tail (.tail .head) | exact .tail (.tail (.tail .head)) | exact .tail (.tail (.tail (.tail .head))) | exact .tail (.tail (.tail (.tail (.tail .head))))) (by repeat constructor)) rfl ?_
   | refine lst_run (run_loadN_own (k := 4) hS rfl rfl rfl (by first | exact .head | exact .tail .head | exact .tail (.tail .head) | exact .tail (.tail (.tail .head)) | exact .tail (.tail (.tail (.tail .head))) | exact .tail (.tail (.tail (.tail (.tail .head))))) (by assumption)) rfl ?_
   | refine lst_run (run_load4 rfl rfl rfl (by first | assumption | exact (hll _ hS (by repeat constructor)).1 | exact (hll _ hS (by repeat constructor)).2.1 | exact (hll _ hS (by repeat constructor)).2.2 | exact hS.cell0 (by assumption)) (by first | assumption | exact (hll _ hS (by repeat constructor)).1 | exact (hll _ hS (by repeat constructor)).2.1 | exact (hll _ hS (by repeat constructor)).2.2 | exact hS.cell0 (by assumption)) (by first | assumption | exact (hll _ hS (by repeat constructor)).1 | exact (hll _ hS (by repeat constructor)).2.1 | exact (hll _ hS (by repeat constructor)).2.2 | exact hS.cell0 (by assumption)) (by first | assumption | exact (hll _ hS (by repeat constructor)).1 | exact (hll _ hS (by repeat constructor)).2.1 | exact (hll _ hS (by repeat constructor)).2.2 | exact hS.cell0 (by assumption))) rfl ?_
  refine Zz ?_
  clear hS
  intro b3 wx4 hS
  refine ZbI ?_
  clear hS
  intro wx5 hS
  refine ZH ?_
  refine goes_meet2 8 9 (30 :: 31 :: 32 :: 33 :: 34 :: 35 :: 36 :: 29 :: 37 :: 38 :: 39 :: 10 :: []) (fun u z w' => ∃ (b4 : Nat) (A' : Option Addr) (c' : Nat) (B' : Option Addr) (d' : Nat) (F2 : List (World → Prop)), u = .pointer (some ⟨b4, 0, none⟩) ∧ z = .int .i64 ((loadH x.h (blockC y.cl)).2.1 : Nat) ∧ (∀ φ ∈ F', φ ∈ F2) ∧ Und F2 (HFl (loadH x.h (blockC y.cl)).1 A' c' B' d') ∧ St M w0 ((b4, .cells [.slice A' (loadH x.h (blockC y.cl)).1.cs.length c', .slice B' (loadH x.h (blockC y.cl)).1.tr.length d'].toArray 52) :: (b3, .cells (lbcs y).toArray 74) :: (b2, .cells (xlcs (lnk x.ln a)).toArray 81) :: (b1, .cells #[.int .i64 (a : Nat), .slice (some ⟨bX, oX, none⟩) X.length c, .int .i64 (cells : Nat), .int .i64 (bound : Nat)] 108) :: (b, mob P pA pc vars fuel every x ⟨hA, hc, hB, hd, some ⟨gl, 0, none⟩, lc, [(gl, .cells (xlL x.ln ++ sp).toArray 81)], cs, CA, cc, O2, evs, EA, ec, O3⟩) :: ([(gl, .cells (xlL x.ln ++ sp).toArray 81)] ++ (O2 ++ (O3 ++ H)))) F2 w') ?_ ?_
  ·intro hmeet
   refine goes_plan (St _ _ _ _) 15 (.read 0 (.read 1 (.read 2 (.read 3 (.read 4 (.read 5 (.pick 6 (.read 7 (.read 8 (.read 9 (.read 10 (.pick 11 (.pick 12 (.read 13 (.read 14 .tail)) .none) .none))))) (.pick 11 (.pick 6 (.read 7 (.read 8 (.read 9 (.read 10 (.pick 12 (.read 13 (.read 14 .tail)) .none))))) .none) .none)))))))) (by kernel_rfl) (by kernel_rfl) hS.drew ?_
   replace hS := hS.drew
   refine Zdv ?_
   first
    | refine pln_read rfl (fun _ hS => run_loadN_own (k := 2) hS rfl rfl rfl (by first | exact .head | exact .tail .head | exact .tail (.tail .head) | exact .tail (.tail (.tail .head)) | exact .tail (.tail (.tail (.tail .head))) | exact .tail (.tail (.tail (.tail (.tail .head))))) (by repeat constructor)) rfl ?_
    | refine pln_read rfl (fun _ hS => run_loadN_own (k := 2) hS rfl rfl rfl (by first | exact .head | exact .tail .head | exact .tail (.tail .head) | exact .tail (.tail (.tail .head)) | exact .tail (.tail (.tail (.tail .head))) | exact .tail (.tail (.tail (.tail (.tail .head))))) (by assumption)) rfl ?_
    | refine pln_read rfl (fun _ hS => run_load2 rfl rfl rfl (by first | assumption | exact (hll _ hS (by repeat constructor)).1 | exact (hll _ hS (by repeat constructor)).2.1 | exact (hll _ hS (by repeat constructor)).2.2 | exact hS.cell0 (by assumption)) (by first | assumption | exact (hll _ hS (by repeat constructor)).1 | exact (hll _ hS (by repeat constructor)).2.1 | exact (hll _ hS (by repeat constructor)).2.2 | exact hS.cell0 (by assumption))) rfl ?_
   refine ZdU ?_
   first
    | refine pln_read rfl (fun _ hS => run_load1_own hS rfl rfl (by first | exact .head | exact .tail .head | exact .tail (.tail .head) | exact .tail (.tail (.tail .head)) | exact .tail (.tail (.tail (.tail .head))) | exact .tail (.tail (.tail (.tail (.tail .head))))) (by repeat constructor)) rfl ?_
    | refine pln_read rfl (fun _ hS => run_load1 rfl rfl (by first | assumption | exact (hll _ hS (by repeat constructor)).1 | exact (hll _ hS (by repeat constructor)).2.1 | exact (hll _ hS (by repeat constructor)).2.2 | exact hS.cell0 (by assumption) | exact lv_next hS | exact lv_list hS)) rfl ?_
   refine pln_pick rfl ?_ ?_
   ·refine Zm ?_
    refine Zgx ?_
    rintro _ w6 ⟨A', c', B', d', F9, rfl, hF9, hH', hS'⟩
    refine Za ?_
    replace hS := hS'
    clear hS'
    refine ZaR ?_
    refine Zat ?_
    refine Zbh ?_
    refine Zbh ?_
    refine Zbh ?_
    refine ZbM ?_
    clear hS
    intro b4 wx6 hS
    refine ZaR ?_
    refine Zag ?_
    refine Zc ?_
    clear hS
    intro wx7 hS
    refine ZaR ?_
    refine Zcp ?_
    refine Zcp ?_
    refine Zch ?_
    refine Zb ?_
    exact hmeet _ _ _ _ ⟨_, A', c', B', d', F9, rfl, rfl, hF9, hH', hS⟩ (by conv=>lhs;whnf) (by conv=>lhs;whnf) (by kernel_rfl)
   refine ZbM ?_
   clear hS
   intro b5 wx8 hS
   refine ZaR ?_
   refine Zag ?_
   refine Zm ?_
   refine Zgx ?_
   rintro _ w6 ⟨A', c', B', d', F9, rfl, hF9, hH', hS'⟩
   refine Za ?_
   replace hS := hS'
   clear hS'
   refine ZaR ?_
   refine Zat ?_
   refine Zbh ?_
   refine Zbh ?_
   refine Zbh ?_
   refine Zag ?_
   refine Zc ?_
   clear hS
   intro wx9 hS
   refine ZaR ?_
   refine Zcp ?_
   refine Zcp ?_
   refine Zch ?_
   refine Zb ?_
   exact hmeet _ _ _ _ ⟨_, A', c', B', d', F9, rfl, rfl, hF9, hH', hS⟩ (by conv=>lhs;whnf) (by conv=>lhs;whnf) (by kernel_rfl)
  clear hS
  rintro jv2 _ _ w3 ⟨b4, A', c', B', d', F2, rfl, rfl, hF2, hH', hS⟩
  refine Zg ?_
  refine Zgy ?_
  refine Zf ?_
  refine Z2 ?_
  refine Zcq ?_
  refine ZL ?_
  refine ZX ?_
  refine Zcq ?_
  refine Zs ?_
  refine Calls.mono (unify_any (loadH x.h (blockC y.cl)).1 (((loadH x.h (blockC y.cl)).2.1 : Nat) + y.cl.vars) (lnk x.ln a).g A' B' c' d' _ hH' hS) ?_
  rintro _ w7 ⟨A5, c5, B5, d5, F5, rfl, hF5, hH5, hS'⟩
  refine Za ?_
  replace hS := hS'
  clear hS'
  rw [show unifyH (loadH x.h (blockC y.cl)).1 (((loadH x.h (blockC y.cl)).2.1 : Nat) + y.cl.vars) (lnk x.ln a).g = headU x.h y.cl (lnk x.ln a).g from rfl] at *
  have hFa : ∀ φ ∈ F0, φ ∈ F5 := fun φ h => hF5 φ (hF2 φ (hF' φ (hFF φ h)))
  have hok5 := (hok'.mono hF2).mono hF5
  by_cases he : (headU x.h y.cl (lnk x.ln a).g).2.2 = 0
  ·rw [if_neg (fun h => h he)] at hstep
   by_cases hk : (headU x.h y.cl (lnk x.ln a).g).2.1 = false
   ·rw [if_pos hk] at hstep
    refine Zaf ?_
    refine Zc ?_
    clear hS
    intro wx10 hS
    refine Zaz ?_
    refine Zn ?_
    refine ZaE ?_
    refine ZY ?_
    refine Zb ?_
    rw [hk]
    refine Zbt ?_
    refine ZdQ ?_
    refine ZaZ ?_
    refine Ze7 ?_
    refine ih (R) _ _ _ ?_ ?_ (by conv=>lhs;whnf) (by kernel_rfl)
    ·simp
    ·exact ⟨D ++ [y], F5, by rw [hDR]; simp, by simp, fun φ h => hF5 φ (hF2 φ (hF' φ h)), hatt.trans hstep, hS.drop.drop⟩
   ·rw [if_neg hk] at hstep
    have hk' : (headU x.h y.cl (lnk x.ln a).g).2.1 = true := by simpa using hk
    have hlc : x.ch.length = cs.length := by
     have : cs.map LX.xc = x.ch := hok.hc
     rw [← this]; simp
    have htk : x.took a y.cl (R.map LB.cl) cells bound = ⟨(headU x.h y.cl (lnk x.ln a).g).1, x.goals, (befX (loadH x.h (blockC y.cl)).2.1 cs.length (goalsC y.cl) (lnk x.ln a).nx x.ln).1, (befX (loadH x.h (blockC y.cl)).2.1 cs.length (goalsC y.cl) (lnk x.ln a).nx x.ln).2, match R.map LB.cl with | [] => x.ch | _ :: _ => ⟨a, R.map LB.cl, cells, bound⟩ :: x.ch, x.ev⟩ := by
     unfold XS.took; rw [hlc]; cases R <;> rfl
    rw [hatt, hstep, htk]
    refine Zaf ?_
    refine Zc ?_
    clear hS
    intro wx10 hS
    refine Zaz ?_
    refine Zn ?_
    refine ZaE ?_
    refine ZY ?_
    refine Zb ?_
    rw [hk']
    refine ZbV ?_
    refine Zu ?_
    refine Zgy ?_
    refine ZdN ?_
    clear hS
    intro wx11 hS
    refine ZH ?_
    have hokS := hok5.setH hH5
    have hbef := fun (H' : List (Nat × Obj)) w hS => mbefore_any (H := H') (vars := vars) (fuel := fuel) (every := every) (b := b) (M := M) (w0 := w0) (x.setH (headU x.h y.cl (lnk x.ln a).g).1) (goalsC y.cl) y.B y.d (loadH x.h (blockC y.cl)).2.1 cs.length (lnk x.ln a).nx _ _ _ _ _ _ _ cs CA cc O2 evs EA ec O3 w (by omega) (fun g hg => by have := g3 g hg; omega) (by have := hbd.ln; show x.ln.length + _ ≤ _; omega) ((hfl.imp fun w h => h.2).mono fun φ h => hF5 φ (hF2 φ h)) hokS hS
    replace hS := hS.perm (perm5 _ _ _ _ _ _)
    refine goes_meet1 72 (60 :: 61 :: 62 :: 63 :: 64 :: 65 :: 66 :: 67 :: 68 :: 69 :: 70 :: 71 :: 73 :: 74 :: []) (fun u w' => ∃ (LA9 : Option Addr) (lc9 : Nat) (O9 : List (Nat × Obj)), u = .int .i64 (befX (loadH x.h (blockC y.cl)).2.1 cs.length (goalsC y.cl) (lnk x.ln a).nx x.ln).2 ∧ XOk P pA pc ⟨(headU x.h y.cl (lnk x.ln a).g).1, x.goals, (befX (loadH x.h (blockC y.cl)).2.1 cs.length (goalsC y.cl) (lnk x.ln a).nx x.ln).1, (befX (loadH x.h (blockC y.cl)).2.1 cs.length (goalsC y.cl) (lnk x.ln a).nx x.ln).2, x.ch, x.ev⟩ ⟨A5, c5, B5, d5, LA9, lc9, O9, cs, CA, cc, O2, evs, EA, ec, O3⟩ F5 ∧ St M w0 ((b, mob P pA pc vars fuel every ⟨(headU x.h y.cl (lnk x.ln a).g).1, x.goals, (befX (loadH x.h (blockC y.cl)).2.1 cs.length (goalsC y.cl) (lnk x.ln a).nx x.ln).1, (befX (loadH x.h (blockC y.cl)).2.1 cs.length (goalsC y.cl) (lnk x.ln a).nx x.ln).2, x.ch, x.ev⟩ ⟨A5, c5, B5, d5, LA9, lc9, O9, cs, CA, cc, O2, evs, EA, ec, O3⟩) :: (b1, .cells #[.int .i64 (a : Nat), .slice (some ⟨bX, oX, none⟩) X.length c, .int .i64 (cells : Nat), .int .i64 (bound : Nat)] 108) :: (O9 ++ (O2 ++ (O3 ++ H)))) F5 w') ?_ ?_
    ·intro hmeet
     refine goes_plan (fun w => ∃ lv : Value, St M w0 [(b3, .cells (lbcs y).toArray 74), (b2, .cells (xlcs (lnk x.ln a)).toArray 81), (b, .cells [.slice A5 (headU x.h y.cl (lnk x.ln a).g).1.cs.length c5, .slice B5 (headU x.h y.cl (lnk x.ln a).g).1.tr.length d5, .slice pA P.length pc, .int .i64 (vars : Nat), .int .i64 (fuel : Nat), .int .i64 (x.goals : Nat), .int .i64 (every : Nat), lv, .int .i64 x.first, .slice CA cs.length cc, .slice EA evs.length ec].toArray 57)] [] w) 15 (.read 0 (.read 1 (.read 2 (.read 3 (.read 4 (.read 5 (.read 6 (.read 7 (.read 8 (.read 9 (.read 10 (.read 11 (.pick 12 (.read 13 (.read 14 .tail)) .none))))))))))))) (by kernel_rfl) (by kernel_rfl) ⟨_, hS.drew.bare3⟩ ?_
     replace hS := hS.drew
     refine ZeW ?_
     refine ZeW ?_
     refine pln_read rfl (fun _ ⟨_, hS⟩ => run_fieldAddr (off := 3) rfl rfl) rfl ?_
     refine ZfC ?_
     refine ZeW ?_
     refine ZeW ?_
     refine pln_read rfl (fun _ ⟨_, hS⟩ => run_nilCheck rfl) rfl ?_
     refine pln_read rfl (fun _ ⟨_, hS⟩ => run_fieldAddr (off := 9) rfl rfl) rfl ?_
     refine ZfC ?_
     refine pln_read rfl (fun _ ⟨_, hS⟩ => run_len_slice rfl rfl rfl) rfl ?_
     refine pln_read rfl (fun _ ⟨_, hS⟩ => run_fieldAddr (off := 2) rfl rfl) rfl ?_
     refine ZfC ?_
     refine Zag ?_
     refine Zea ?_
     refine Calls.mono (hbef _ _ (hS.perm ((perm5 _ _ _ _ _ _).symm.trans (perm_deep (b, _) [(b4, _), (b3, _), (b2, _), (b1, _)] [_] O2 O3 H)))) ?_
     rintro _ w8 ⟨rfl, LA9, lc9, O9, hok9, hS'⟩
     refine Za ?_
     replace hS := hS'
     clear hS'
     refine lst_pln (by first | exact ⟨_, hS.bare3⟩ | exact ⟨_, hS.drop.bare3⟩ | exact ⟨_, (hS.perm ((perm_deep (b, _) [(b4, _), (b3, _), (b2, _), (b1, _)] _ O2 O3 H).symm.trans (perm5 _ _ _ _ _ _))).bare3⟩) ?_
     refine pln_read rfl (fun _ ⟨_, hS⟩ => run_nilCheck rfl) rfl ?_
     refine pln_read rfl (fun _ ⟨_, hS⟩ => run_fieldAddr (off := 8) rfl rfl) rfl ?_
     refine Zch ?_
     refine ZA ?_
     clear hS
     intro wx12 hS
     refine Zb ?_
     exact hmeet _ _ _ ⟨LA9, lc9, O9, rfl, ⟨hok9.hh, hok9.row1, hok9.hc, hok9.rc, hok9.row2, hok9.he, hok9.re, hok9.row3, hok9.rp⟩, (hS.perm (perm_deep (b, _) [(b4, _), (b3, _), (b2, _), (b1, _)] _ O2 O3 H).symm).drop.drop.drop.swap⟩ rfl (by kernel_rfl)
    clear hS
    rintro jv3 _ w9 ⟨LA9, lc9, O9, rfl, hok9, hS⟩
    have hXc : X.length ≤ c := (hS.und (hXF'.mono fun φ h => hF5 φ (hF2 φ h))).1.2.1
    have e1 : (((D.length : Nat) : Int) + 1).toNat = D.length + 1 := by omega
    cases R with
    | nil =>
     simp only [List.length_nil] at hlen
     refine Zaw ?_
     refine Zcq ?_
     refine ZbL ?_
     refine Zgz ?_
     refine Zw ?_
     refine ZA ?_
     clear hS
     intro wx13 hS
     refine ZH ?_
     refine Zaw ?_
     refine Zcq ?_
     refine Zcb ?_
     refine Zv ?_
     refine Zj ?_
     refine ZeV ?_
     exact ⟨rfl, ⟨A5, c5, B5, d5, LA9, lc9, O9, cs, CA, cc, O2, evs, EA, ec, O3⟩, F5, hFa, hok9, hS.swap.drop⟩
    | cons r R =>
     simp only [List.length_cons] at hlen
     have hcn := hbd.cn
     have hrow2 : Row 108 4 (.slice CA cs.length cc) cs.length (xcL cs.reverse) O2 := hok9.row2
     refine Zaw ?_
     refine Zcq ?_
     refine ZbL ?_
     refine Zgz ?_
     refine Zw ?_
     refine ZA ?_
     clear hS
     intro wx13 hS
     refine ZH ?_
     refine Zaw ?_
     refine Zcq ?_
     refine Zcb ?_
     refine Zb ?_
     rw [e1, show X.length - (D.length + 1) = (r :: R).length by simp; omega] at hS
     replace hS : St M w0 ((b, _) :: (b1, .cells (xcs ⟨a, r :: R, some ⟨bX, oX + (D.length + 1) * 4, none⟩, c - (D.length + 1), cells, bound⟩).toArray 108) :: _) F5 _ := hS
     refine Zbt ?_
     refine ZgA ?_
     replace hS := hS.drew
     refine Zb9 ?_
     refine Zc8 ?_
     refine ZfB ?_
     first
      | refine ord_read rfl (fun _ hS => run_loadN_own (k := 4) hS rfl rfl rfl (by first | exact .head | exact .tail .head | exact .tail (.tail .head) | exact .tail (.tail (.tail .head)) | exact .tail (.tail (.tail (.tail .head))) | exact .tail (.tail (.tail (.tail (.tail .head))))) (by repeat constructor)) rfl ?_
      | refine ord_read rfl (fun _ hS => run_loadN_own (k := 4) hS rfl rfl rfl (by first | exact .head | exact .tail .head | exact .tail (.tail .head) | exact .tail (.tail (.tail .head)) | exact .tail (.tail (.tail (.tail .head))) | exact .tail (.tail (.tail (.tail (.tail .head))))) (by assumption)) rfl ?_
      | refine ord_read rfl (fun _ hS => run_load4 rfl rfl rfl (by first | assumption | exact (hll _ hS (by repeat constructor)).1 | exact (hll _ hS (by repeat constructor)).2.1 | exact (hll _ hS (by repeat constructor)).2.2 | exact hS.cell0 (by assumption)) (by first | assumption | exact (hll _ hS (by repeat constructor)).1 | exact (hll _ hS (by repeat constructor)).2.1 | exact (hll _ hS (by repeat constructor)).2.2 | exact hS.cell0 (by assumption)) (by first | assumption | exact (hll _ hS (by repeat constructor)).1 | exact (hll _ hS (by repeat constructor)).2.1 | exact (hll _ hS (by repeat constructor)).2.2 | exact hS.cell0 (by assumption)) (by first | assumption | exact (hll _ hS (by repeat constructor)).1 | exact (hll _ hS (by repeat constructor)).2.1 | exact (hll _ hS (by repeat constructor)).2.2 | exact hS.cell0 (by assumption))) rfl ?_
     refine Zr ?_
     refine Zc7 ?_
     clear hS
     intro b6 wx14 hS
     refine Zd5 ?_
     refine Zr ?_
     refine lst_app (sz := 4) (bts := 48) hS (by conv=>lhs;whnf) rfl rfl rfl rfl (hrow2) rfl rfl (.cons _ (perm_out2 [_, _] _ _ _)) (by omega) (by omega) rfl ?_
     clear hS
     intro v8 O8 w9 hrow8 hS
     obtain ⟨A8, c8, rfl⟩ := hrow8.form
     replace hS := hS.perm (perm_out2 [_, _] _ _ _).symm
     refine Zd5 ?_
     refine Zam ?_
     refine Zc8 ?_
     refine ZaD ?_
     clear hS
     intro wx15 hS
     refine Za9 ?_
     refine ZeV ?_
     refine ⟨rfl, ⟨A5, c5, B5, d5, LA9, lc9, O9, ⟨a, r :: R, some ⟨bX, oX + (D.length + 1) * 4, none⟩, c - (D.length + 1), cells, bound⟩ :: cs, A8, c8, O8, evs, EA, ec, O3⟩, F5, hFa, ⟨hok9.hh, hok9.row1, ?_, ?_, ?_, hok9.he, hok9.re, hok9.row3, hok9.rp⟩, hS.swap.drop⟩
     ·show _ :: cs.map LX.xc = _ :: x.ch
      rw [show cs.map LX.xc = x.ch from hok.hc]; rfl
     ·intro q hq
      rcases List.mem_cons.1 hq with rfl | hq
      ·have := (hXF'.mono fun φ h => hF5 φ (hF2 φ h)).imp fun w h => h.drop (D.length + 1) (by rw [hDR]; simp)
       rw [show X.drop (D.length + 1) = r :: R by rw [hDR, List.drop_append]; simp] at this
       exact this
      ·exact hok9.rc q hq
     ·show Row _ 4 (.slice A8 (cs.length + 1) c8) (cs.length + 1) (xcL (LX.mk _ _ _ _ _ _ :: cs).reverse) O8
      rw [List.reverse_cons, xcL_app]; exact hrow8
  ·rw [if_pos he] at hstep
   rw [hatt, hstep]
   refine Zaf ?_
   refine Zc ?_
   clear hS
   intro wx10 hS
   refine Zaz ?_
   refine Zn ?_
   refine ZI ?_
   refine ZeV ?_
   exact ⟨rfl, _, F5, hFa, hok5, hS.drop.drop.drop.drop⟩
end
end Go.Proofs.YthliapbflkfdiabGreat
namespace Go.Proofs.YthliapbflkfdiabGreat
open Go.RowKit
set_option linter.unusedVariables false
set_option linter.unusedSimpArgs false
set_option maxRecDepth 100000
set_option maxHeartbeats 1000000
section
variable {M : List Nat} {w0 : World} {H : List (Nat × Obj)} {b : Nat} {P : List LB} {pA : Option Addr} {pc vars fuel every : Nat}
theorem mretry_all : ∀ n, RetC M w0 H b P pA pc vars fuel every n := by
 intro n
 induction n with
 | zero =>
  intro F0 x w hn hbd hs
  obtain ⟨d, F, hFF, hok, hS⟩ := hs
  obtain ⟨hA, hc, hB, hd, LA, lc, O1, cs, CA, cc, O2, evs, EA, ec, O3⟩ := d
  have hch : x.ch = [] := List.eq_nil_of_length_eq_zero hn
  have hcs : cs.map LX.xc = x.ch := hok.hc
  obtain rfl : cs = [] := by rw [hch] at hcs; simpa using hcs
  have e : retX x.ch x = (2, x) := by rw [hch]; rfl
  rw [e]
  dsimp only [mob, mcs, List.length_nil] at hS
  refine goes_enter1 Tryz.func50 rfl Tryz.ntmps50 rfl ?_
  refine Zdl ?_
  refine ZbT ?_
  refine Zbn ?_
  refine ZaH ?_
  refine ZaF ?_
  refine ZI ?_
  refine goes_ret1 Tryz.func50 rfl (by conv=>lhs;whnf) ?_
  exact ⟨rfl, _, F, hFF, hok, hS⟩
 | succ n ihn =>
  intro F0 x w hn hbd hs
  obtain ⟨d, F, hFF, hok, hS⟩ := hs
  obtain ⟨hA, hc, hB, hd, LA, lc, O1, cs, CA, cc, O2, evs, EA, ec, O3⟩ := d
  have hcs : cs.map LX.xc = x.ch := hok.hc
  cases cs with
  | nil => rw [← hcs] at hn; simp at hn
  | cons c cs =>
  have hch : x.ch = c.xc :: cs.map LX.xc := hcs.symm
  have hcn := hbd.cn
  have hn' : cs.length = n := by rw [hch] at hn; simpa using hn
  have hrow2 : Row 108 4 (.slice CA (c :: cs).length cc) (c :: cs).length (xcL (c :: cs).reverse) O2 := hok.row2
  obtain ⟨a1, a2, a3, a4, a5⟩ := hbd.ch c.xc (by rw [hch]; simp)
  obtain ⟨k0, k1, k2, k3⟩ := xcL_get (c :: cs).reverse cs.length c (by simp)
  obtain ⟨gc, sp, rfl, rfl, hcap⟩ := hrow2.some_ (by simp)
  have e : retX x.ch x = attX (retX (cs.map LX.xc)) c.at_ c.cells c.bound (c.cls.map LB.cl) (x.back c.xc (cs.map LX.xc)) := by rw [hch]; rfl
  rw [e]
  have hcl : ∀ {M2 H' F'} w', St M2 w0 H' F' w' → (gc, Obj.cells (xcL (c :: cs).reverse ++ sp).toArray 108) ∈ H' → _ := fun {M2 H' F'} w' (hS : St M2 w0 H' F' w') hm => And.intro (Row.cell (w := w') hrow2 hS (by intro p hp; obtain rfl := List.mem_singleton.1 hp; exact hm) rfl k0) (And.intro (Row.cell (w := w') hrow2 hS (by intro p hp; obtain rfl := List.mem_singleton.1 hp; exact hm) rfl k1) (And.intro (Row.cell (w := w') hrow2 hS (by intro p hp; obtain rfl := List.mem_singleton.1 hp; exact hm) rfl k2) (Row.cell (w := w') hrow2 hS (by intro p hp; obtain rfl := List.mem_singleton.1 hp; exact hm) rfl k3)))
  have hlen : x.ch.length = cs.length + 1 := by rw [hch]; simp
  simp only [List.length_cons] at hrow2
  dsimp only [mob, mcs, List.length_cons] at hS
  have hcc := hrow2.cap
  have hlast : (((cs.length + 1 : Nat) : Int) - 1) = ((cs.length : Nat) : Int) := by omega
  refine goes_enter1 Tryz.func50 rfl Tryz.ntmps50 rfl ?_
  refine Zdl ?_
  refine ZbT ?_
  refine Zbn ?_
  refine ZaH ?_
  refine ZaF ?_
  refine Zb ?_
  rw [hlast]
  refine ZbV ?_
  refine ZK ?_
  refine ZbT ?_
  refine Zeb ?_
  refine Zf ?_
  refine Zas ?_
  refine Zec ?_
  refine Zz ?_
  clear hS
  intro b1 wx1 hS
  refine Zc ?_
  clear hS
  intro wx2 hS
  refine Zcz ?_
  refine ZE ?_
  refine ZbT ?_
  refine Zeb ?_
  refine Zf ?_
  refine lst_run (run_slice_slice (sz := 4) rfl rfl rfl rfl (by omega) (by omega)) rfl ?_
  refine ZE ?_
  refine ZbT ?_
  refine ZA ?_
  clear hS
  intro wx3 hS
  refine Zcg ?_
  refine Zec ?_
  have hcut := hrow2.cut (m := cs.length) (by omega)
  have htk : (xcL (c :: cs).reverse).take (cs.length * 4) = xcL cs.reverse := by
   rw [List.reverse_cons, xcL_app, List.take_append_of_le_length (by rw [xcL_len]; simp), List.take_of_length_le (by rw [xcL_len]; simp)]
  rw [htk] at hcut
  have hx1 : XOk P pA pc ⟨x.h, x.goals, x.ln, x.first, cs.map LX.xc, x.ev⟩ ⟨hA, hc, hB, hd, LA, lc, O1, cs, some ⟨gc, 0, none⟩, cc, [(gc, .cells (xcL (c :: cs).reverse ++ sp).toArray 108)], evs, EA, ec, O3⟩ F := ⟨hok.hh, hok.row1, rfl, fun q hq => hok.rc q (.tail _ hq), hcut, hok.he, hok.re, hok.row3, hok.rp⟩
  have hS1 := hS.perm (perm_deep (b, _) [(b1, _)] O1 [(gc, _)] O3 H)
  refine Zm ?_
  refine Calls.mono (mrestore_any (H := (b1, _) :: H) (F0 := F) ⟨x.h, x.goals, x.ln, x.first, cs.map LX.xc, x.ev⟩ c _ ⟨_, F, fun _ h => h, hx1, hS1⟩) ?_
  rintro _ w5 ⟨rfl, d5, F5, hF5, hok5, hS'⟩
  refine Za ?_
  replace hS := hS'
  clear hS'
  replace hS := hS.perm (perm_deep (b, _) [(b1, _)] d5.O1 d5.O2 d5.O3 H).symm
  clear hS1
  refine Zcg ?_
  refine Zec ?_
  have hbd2 : XBd (x.back c.xc (cs.map LX.xc)) := ⟨hbd.ln, by show (cs.map LX.xc).length ≤ _; simp; omega, fun q hq => hbd.ch q (by rw [hch]; exact .tail _ hq)⟩
  have hrc : Und F (LBR c.cls c.A c.c) := hok.rc c (.head _)
  refine Zm ?_
  refine Calls.mono (mattempt_any n ihn (x.back c.xc (cs.map LX.xc)) c.at_ c.cells c.bound c.cls c.A c.c _ (by show (cs.map LX.xc).length = n; simp; omega) hbd2 a1 (fun p hp => a5 p.cl (List.mem_map.2 ⟨p, hp, rfl⟩)) (by have : (c.cls.map LB.cl).length ≤ 5000 := a4; simpa using this) a2 a3 hrc ⟨d5, F5, hF5, hok5, hS.drop⟩) ?_
  rintro _ w6 ⟨rfl, hq⟩
  refine ZB ?_
  refine goes_ret1 Tryz.func50 rfl (by conv=>lhs;whnf) ?_
  exact ⟨rfl, hq.weaken hFF⟩
end
end Go.Proofs.YthliapbflkfdiabGreat
