/- XMem, XWalk1, XWalk4, XWalk3: texts that follow one another, laid into one file. -/
import Derived.Test.YthliapbflkfdiabZ0
import Derived.Test.YthliapbflkfdiabG7
import Derived.Test.YthliapbflkfdiabG11
import Derived.Test.YthliapbflkfdiabG12
import Derived.Test.YthliapbflkfdiabG13
import Derived.Test.YthliapbflkfdiabG14
namespace Go.Proofs.Ythliapbflkfdiab
open Go.RowKit
set_option linter.unusedVariables false
set_option linter.unusedSimpArgs false
structure LB where
 cl : Cl
 A : Option Addr
 c : Nat
 B : Option Addr
 d : Nat
abbrev lbcs (b : LB) : List Value := [.slice b.A (blockC b.cl).length b.c, .int .i64 b.cl.vars, .int .i64 b.cl.vars, .slice b.B (goalsC b.cl).length b.d]
def lbL : List LB → List Value
 | [] => []
 | b :: r => lbcs b ++ lbL r
theorem lbL_app (a b : List LB) : lbL (a ++ b) = lbL a ++ lbL b := by
 induction a with
 | nil => rfl
 | cons c r ih => simp [lbL, ih]
theorem lbL_len (a : List LB) : (lbL a).length = a.length * 4 := by
 induction a with
 | nil => rfl
 | cons c r ih => simp [lbL, ih]; omega
def LBRd (b : LB) (w : World) : Prop := Flat 3 (hcsL (blockC b.cl)) b.A (blockC b.cl).length b.c w ∧ Flat 1 (intsV (goalsC b.cl)) b.B (goalsC b.cl).length b.d w
def LBR (L : List LB) (A : Option Addr) (c : Nat) (w : World) : Prop := Flat 4 (lbL L) A L.length c w ∧ ∀ x ∈ L, LBRd x w
theorem LBR.cells {D R : List LB} {x : LB} {b o c : Nat} {w : World} (h : LBR (D ++ x :: R) (some ⟨b, o, none⟩) c w) : w.cell? ⟨b, o + D.length * 4, none⟩ = some (.slice x.A (blockC x.cl).length x.c) ∧ w.cell? ⟨b, o + D.length * 4 + 1, none⟩ = some (.int .i64 x.cl.vars) ∧ w.cell? ⟨b, o + D.length * 4 + 2, none⟩ = some (.int .i64 x.cl.vars) ∧ w.cell? ⟨b, o + D.length * 4 + 3, none⟩ = some (.slice x.B (goalsC x.cl).length x.d) := by
 have key : ∀ j v, (lbcs x)[j]? = some v → (lbL (D ++ x :: R))[D.length * 4 + j]? = some v := by
  intro j v hj
  rw [lbL_app, List.getElem?_append_right (by rw [lbL_len]; omega), lbL_len, show D.length * 4 + j - D.length * 4 = j by omega]
  show (lbcs x ++ lbL R)[j]? = some v
  have hjl : j < (lbcs x).length := by
   rcases Nat.lt_or_ge j (lbcs x).length with h | h
   ·exact h
   ·rw [List.getElem?_eq_none h] at hj; cases hj
  rw [List.getElem?_append_left hjl]; exact hj
 have g := fun j v hj => h.1.get (key j v hj)
 exact ⟨g 0 _ rfl, g 1 _ rfl, g 2 _ rfl, g 3 _ rfl⟩
theorem LBR.some_ {L : List LB} {A : Option Addr} {c : Nat} {w : World} (h : LBR L A c w) (hl : 0 < L.length) : ∃ b o, A = some ⟨b, o, none⟩ := h.1.some_ hl
theorem LBR.drop {L : List LB} {b o c : Nat} {w : World} (h : LBR L (some ⟨b, o, none⟩) c w) (k : Nat) (hk : k ≤ L.length) : LBR (L.drop k) (some ⟨b, o + k * 4, none⟩) (c - k) w := by
 obtain ⟨⟨h1, h2, h3⟩, h4⟩ := h
 have e : lbL (L.drop k) = (lbL L).drop (k * 4) := by
  conv => rhs; rw [← List.take_append_drop k L]
  rw [lbL_app, List.drop_left' (by rw [lbL_len, List.length_take]; omega)]
 refine ⟨⟨by rw [lbL_len], by rw [List.length_drop]; omega, fun hl => ?_⟩, fun x hx => h4 x (List.mem_of_mem_drop hx)⟩
 rw [List.length_drop] at hl
 obtain ⟨b', o', e1, hs⟩ := h3 (by omega)
 simp only [Option.some.injEq, Addr.mk.injEq, and_true] at e1
 obtain ⟨rfl, rfl⟩ := e1
 refine ⟨b, o + k * 4, rfl, fun j u hj => ?_⟩
 rw [e, List.getElem?_drop] at hj
 have := hs _ _ hj
 rwa [show o + (k * 4 + j) = o + k * 4 + j by omega] at this
structure LX where
 at_ : Nat
 cls : List LB
 A : Option Addr
 c : Nat
 cells : Nat
 bound : Nat
def LX.xc (x : LX) : XC := ⟨x.at_, x.cls.map LB.cl, x.cells, x.bound⟩
abbrev xcs (x : LX) : List Value := [.int .i64 (x.at_ : Nat), .slice x.A x.cls.length x.c, .int .i64 (x.cells : Nat), .int .i64 (x.bound : Nat)]
def xcL : List LX → List Value
 | [] => []
 | b :: r => xcs b ++ xcL r
theorem xcL_app (a b : List LX) : xcL (a ++ b) = xcL a ++ xcL b := by
 induction a with
 | nil => rfl
 | cons c r ih => simp [xcL, ih]
theorem xcL_len (a : List LX) : (xcL a).length = a.length * 4 := by
 induction a with
 | nil => rfl
 | cons c r ih => simp [xcL, ih]; omega
abbrev xlcs (l : XL) : List Value := [.int .i64 l.g, .int .i64 (l.o : Nat), .int .i64 l.nx]
def xlL : List XL → List Value
 | [] => []
 | b :: r => xlcs b ++ xlL r
theorem xlL_app (a b : List XL) : xlL (a ++ b) = xlL a ++ xlL b := by
 induction a with
 | nil => rfl
 | cons c r ih => simp [xlL, ih]
theorem xlL_len (a : List XL) : (xlL a).length = a.length * 3 := by
 induction a with
 | nil => rfl
 | cons c r ih => simp [xlL, ih]; omega
theorem xlL_get : ∀ (L : List XL) (i : Nat) (l : XL), L[i]? = some l → (xlL L)[i * 3]? = some (.int .i64 l.g) ∧ (xlL L)[i * 3 + 1]? = some (.int .i64 (l.o : Nat)) ∧ (xlL L)[i * 3 + 2]? = some (.int .i64 l.nx)
 | [], i, l, h => by simp at h
 | x :: r, 0, l, h => by
  simp at h; subst h; exact ⟨rfl, rfl, rfl⟩
 | x :: r, i + 1, l, h => by
  have := xlL_get r i l (by simpa using h)
  rw [show (i + 1) * 3 = i * 3 + 3 by omega]
  exact this
theorem xcL_get : ∀ (L : List LX) (i : Nat) (l : LX), L[i]? = some l → (xcL L)[i * 4]? = some (.int .i64 (l.at_ : Nat)) ∧ (xcL L)[i * 4 + 1]? = some (.slice l.A l.cls.length l.c) ∧ (xcL L)[i * 4 + 2]? = some (.int .i64 (l.cells : Nat)) ∧ (xcL L)[i * 4 + 3]? = some (.int .i64 (l.bound : Nat))
 | [], i, l, h => by simp at h
 | x :: r, 0, l, h => by
  simp at h; subst h; exact ⟨rfl, rfl, rfl, rfl⟩
 | x :: r, i + 1, l, h => by
  have := xcL_get r i l (by simpa using h)
  rw [show (i + 1) * 4 = i * 4 + 4 by omega]
  exact this
theorem Row.cell {el sz len : Nat} {A : Option Addr} {c : Nat} {xs : List Value} {O H : List (Nat × Obj)} {M : List Nat} {w0 w : World} {F : List (World → Prop)} {b o : Nat} {v : Value} {j : Nat} (h : Row el sz (.slice A len c) len xs O) (hS : St M w0 H F w) (hm : ∀ p ∈ O, p ∈ H) (e : A = some ⟨b, o, none⟩) (hj : xs[j]? = some v) : w.cell? ⟨b, o + j, none⟩ = some v := by
 cases h with
 | nil_ => simp at hj
 | own_ hx hc hle hcp =>
  cases e
  have := hS.own _ (hm _ (List.mem_singleton.2 rfl))
  rw [cell_own this, Nat.zero_add, List.getElem?_append_left]
  ·exact hj
  ·rcases Nat.lt_or_ge j xs.length with h | h
   ·exact h
   ·rw [List.getElem?_eq_none h] at hj; cases hj
structure XD where
 hA : Option Addr
 hc : Nat
 hB : Option Addr
 hd : Nat
 LA : Option Addr
 lc : Nat
 O1 : List (Nat × Obj)
 cs : List LX
 CA : Option Addr
 cc : Nat
 O2 : List (Nat × Obj)
 evs : List LE
 EA : Option Addr
 ec : Nat
 O3 : List (Nat × Obj)
structure XOk (P : List LB) (pA : Option Addr) (pc : Nat) (x : XS) (d : XD) (F : List (World → Prop)) : Prop where
 hh : Und F (HFl x.h d.hA d.hc d.hB d.hd)
 row1 : Row 138 3 (.slice d.LA x.ln.length d.lc) x.ln.length (xlL x.ln) d.O1
 hc : d.cs.map LX.xc = x.ch
 rc : ∀ c ∈ d.cs, Und F (LBR c.cls c.A c.c)
 row2 : Row 144 4 (.slice d.CA d.cs.length d.cc) d.cs.length (xcL d.cs.reverse) d.O2
 he : d.evs.map (fun e => e.T.ts) = x.ev
 re : ∀ e ∈ d.evs, Und F (ArA e.A e.c e.T)
 row3 : Row 121 2 (.slice d.EA d.evs.length d.ec) d.evs.length (evL d.evs) d.O3
 rp : Und F (LBR P pA pc)
theorem XOk.mono {P : List LB} {pA : Option Addr} {pc : Nat} {x : XS} {d : XD} {F F' : List (World → Prop)} (h : XOk P pA pc x d F) (hs : ∀ φ ∈ F, φ ∈ F') : XOk P pA pc x d F' :=
 ⟨h.hh.mono hs, h.row1, h.hc, fun c hc => (h.rc c hc).mono hs, h.row2, h.he, fun e he => (h.re e he).mono hs, h.row3, h.rp.mono hs⟩
abbrev mcs (P : List LB) (pA : Option Addr) (pc vars fuel every : Nat) (x : XS) (d : XD) : List Value :=
 [.slice d.hA x.h.cs.length d.hc, .slice d.hB x.h.tr.length d.hd, .slice pA P.length pc, .int .i64 (vars : Nat), .int .i64 (fuel : Nat), .int .i64 (x.goals : Nat), .int .i64 (every : Nat), .slice d.LA x.ln.length d.lc, .int .i64 x.first, .slice d.CA d.cs.length d.cc, .slice d.EA d.evs.length d.ec]
abbrev mob (P : List LB) (pA : Option Addr) (pc vars fuel every : Nat) (x : XS) (d : XD) : Obj := .cells (mcs P pA pc vars fuel every x d).toArray 119
def XSt (M : List Nat) (w0 : World) (H : List (Nat × Obj)) (F0 : List (World → Prop)) (b : Nat) (P : List LB) (pA : Option Addr) (pc vars fuel every : Nat) (x : XS) (w : World) : Prop :=
 ∃ (d : XD) (F : List (World → Prop)), (∀ φ ∈ F0, φ ∈ F) ∧ XOk P pA pc x d F ∧ St M w0 ((b, mob P pA pc vars fuel every x d) :: (d.O1 ++ (d.O2 ++ (d.O3 ++ H)))) F w
end Go.Proofs.Ythliapbflkfdiab
namespace Go.Proofs.Ythliapbflkfdiab
open Go.RowKit
set_option linter.unusedVariables false
set_option linter.unusedSimpArgs false
set_option maxRecDepth 100000
set_option maxHeartbeats 1000000
abbrev ptm (b : Nat) : Value := .pointer (some ⟨b, 0, none⟩)
section
variable {M : List Nat} {w0 : World} {H : List (Nat × Obj)} {F0 : List (World → Prop)} {b : Nat} {P : List LB} {pA : Option Addr} {pc vars fuel every : Nat}
theorem XOk.setH {x : XS} {d : XD} {F : List (World → Prop)} (h : XOk P pA pc x d F) {h' : HH} {A B : Option Addr} {c e : Nat} (hh : Und F (HFl h' A c B e)) : XOk P pA pc (x.setH h') ⟨A, c, B, e, d.LA, d.lc, d.O1, d.cs, d.CA, d.cc, d.O2, d.evs, d.EA, d.ec, d.O3⟩ F :=
 ⟨hh, h.row1, h.hc, h.rc, h.row2, h.he, h.re, h.row3, h.rp⟩
theorem mload_any (x : XS) (K : List HC) (A2 : Option Addr) (c2 : Nat) (w : World) (hK : Und F0 (Flat 3 (hcsL K) A2 K.length c2)) (hs : XSt M w0 H F0 b P pA pc vars fuel every x w) :
  Calls Try.prog 96 #[ptm b, .slice A2 K.length c2] w fun e w' => e = .returned (.int .i64 ((loadH x.h K).2.1 : Nat)) ∧ XSt M w0 H F0 b P pA pc vars fuel every (x.setH (loadH x.h K).1) w' := by
 obtain ⟨d, F, hFF, hok, hS⟩ := hs
 obtain ⟨hA, hc, hB, hd, LA, lc, O1, cs, CA, cc, O2, evs, EA, ec, O3⟩ := d
 have hK' := hK.mono hFF
 refine goes_enter2 Try.func96 rfl Try.ntmps96 rfl ?_
 refine Zi ?_
 refine ZaA ?_
 refine Z0 ?_
 refine Zab ?_
 refine Calls.mono (load_any x.h K hA hB A2 hc hd c2 _ hok.hh hK' hS) ?_
 rintro _ w3 ⟨A', c', B', d', F', rfl, hF', hH', hS'⟩
 refine Za ?_
 replace hS := hS'
 clear hS'
 refine ZaV ?_
 refine ZaR ?_
 clear hS
 intro b1 wx1 hS
 refine Zb ?_
 clear hS
 intro wx2 hS
 refine Zv ?_
 refine Zq ?_
 refine Z0 ?_
 refine Zcu ?_
 clear hS
 intro wx3 hS
 refine Zc ?_
 refine Z3 ?_
 refine goes_ret1 Try.func96 rfl (by conv=>lhs;whnf) ?_
 exact ⟨rfl, _, F', fun φ h => hF' φ (hFF φ h), (hok.mono hF').setH hH', hS.drop⟩
theorem munify_any (x : XS) (i j : Int) (w : World) (hs : XSt M w0 H F0 b P pA pc vars fuel every x w) :
  Calls Try.prog 120 #[ptm b, .int .i64 i, .int .i64 j] w fun e w' => e = .returned (.tuple #[.bool (unifyH x.h i j).2.1, .bool (decide ((unifyH x.h i j).2.2 ≠ 0))]) ∧ XSt M w0 H F0 b P pA pc vars fuel every (x.setH (unifyH x.h i j).1) w' := by
 obtain ⟨d, F, hFF, hok, hS⟩ := hs
 obtain ⟨hA, hc, hB, hd, LA, lc, O1, cs, CA, cc, O2, evs, EA, ec, O3⟩ := d
 refine goes_enter3 Try.func120 rfl Try.ntmps120 rfl ?_
 refine Zd ?_
 refine Zv ?_
 refine ZaA ?_
 refine Z0 ?_
 refine ZO ?_
 refine Z1 ?_
 refine Calls.mono (unify_any x.h i j hA hB hc hd _ hok.hh hS) ?_
 rintro _ w3 ⟨A', c', B', d', F', rfl, hF', hH', hS'⟩
 refine Za ?_
 replace hS := hS'
 clear hS'
 by_cases h0 : (unifyH x.h i j).2.2 = 0
 ·rw [decide_eq_false (fun h => h h0)]
  refine ZaV ?_
  refine ZaR ?_
  clear hS
  intro b1 wx1 hS
  refine Zb ?_
  clear hS
  intro wx2 hS
  refine Zv ?_
  refine Zq ?_
  refine Z0 ?_
  refine Zcu ?_
  clear hS
  intro wx3 hS
  refine Zc ?_
  refine Zcq ?_
  refine Zv ?_
  refine goes_ret2 Try.func120 rfl (by conv=>lhs;whnf) (by conv=>lhs;whnf) ?_
  exact ⟨rfl, _, F', fun φ h => hF' φ (hFF φ h), (hok.mono hF').setH hH', hS.drop⟩
 ·rw [decide_eq_true h0]
  refine ZaV ?_
  refine ZaR ?_
  clear hS
  intro b1 wx1 hS
  refine Zb ?_
  clear hS
  intro wx2 hS
  refine Zv ?_
  refine Zq ?_
  refine Z0 ?_
  refine Zcu ?_
  clear hS
  intro wx3 hS
  refine Zc ?_
  refine Zcq ?_
  refine Zv ?_
  refine goes_ret2 Try.func120 rfl (by conv=>lhs;whnf) (by conv=>lhs;whnf) ?_
  exact ⟨rfl, _, F', fun φ h => hF' φ (hFF φ h), (hok.mono hF').setH hH', hS.drop⟩
theorem mrestore_any (x : XS) (c : LX) (w : World) (hs : XSt M w0 H F0 b P pA pc vars fuel every x w) :
  Calls Try.prog 118 #[ptm b, .agg (xcs c).toArray] w fun e w' => e = .returned (.tuple #[]) ∧ XSt M w0 H F0 b P pA pc vars fuel every (x.setH (cutH (undoH x.h (c.bound : Nat)).1 (c.cells : Nat)).1) w' := by
 obtain ⟨d, F, hFF, hok, hS⟩ := hs
 obtain ⟨hA, hc, hB, hd, LA, lc, O1, cs, CA, cc, O2, evs, EA, ec, O3⟩ := d
 refine goes_enter2 Try.func118 rfl Try.ntmps118 rfl ?_
 refine Ze ?_
 clear hS
 intro b1 wx1 hS
 refine Zu ?_
 refine goes_meet2 4 5 (7 :: 8 :: 9 :: 10 :: 11 :: 12 :: 13 :: 6 :: 14 :: 15 :: []) (fun y z w' => ∃ (b4 : Nat) (A' : Option Addr) (c' : Nat) (B' : Option Addr) (d' : Nat) (F' : List (World → Prop)), y = .pointer (some ⟨b4, 0, none⟩) ∧ z = .int .i64 (undoH x.h (c.bound : Nat)).2 ∧ (∀ φ ∈ F, φ ∈ F') ∧ Und F' (HFl (undoH x.h (c.bound : Nat)).1 A' c' B' d') ∧ St M w0 ((b4, .cells [.slice A' (undoH x.h (c.bound : Nat)).1.cs.length c', .slice B' (undoH x.h (c.bound : Nat)).1.tr.length d'].toArray 25) :: (b1, .cells (xcs c).toArray 144) :: (b, mob P pA pc vars fuel every x ⟨hA, hc, hB, hd, LA, lc, O1, cs, CA, cc, O2, evs, EA, ec, O3⟩) :: (O1 ++ (O2 ++ (O3 ++ H)))) F' w') ?_ ?_
 ·intro hmeet
  refine goes_plan (St _ _ _ _) 13 (.read 0 (.read 1 (.read 2 (.read 3 (.read 4 (.read 5 (.pick 6 (.read 7 (.read 8 (.read 9 (.pick 10 (.pick 11 (.read 12 .tail) .none) .none)))) (.pick 10 (.pick 6 (.read 7 (.read 8 (.read 9 (.pick 11 (.read 12 .tail) .none)))) .none) .none)))))))) (by kernel_rfl) (by kernel_rfl) hS.drew ?_
  replace hS := hS.drew
  refine Zax ?_
  refine pln_read rfl (fun _ hS => run_nilCheck rfl) rfl ?_
  refine ZbL ?_
  first
   | refine pln_read rfl (fun _ hS => run_loadN_own (k := 2) hS rfl rfl rfl (by first | exact .head | exact .tail .head | exact .tail (.tail .head) | exact .tail (.tail (.tail .head)) | exact .tail (.tail (.tail (.tail .head))) | exact .tail (.tail (.tail (.tail (.tail .head))))) (by repeat constructor)) rfl ?_
   | refine pln_read rfl (fun _ hS => run_loadN_own (k := 2) hS rfl rfl rfl (by first | exact .head | exact .tail .head | exact .tail (.tail .head) | exact .tail (.tail (.tail .head)) | exact .tail (.tail (.tail (.tail .head))) | exact .tail (.tail (.tail (.tail (.tail .head))))) (by assumption)) rfl ?_
   | refine pln_read rfl (fun _ hS => run_load2 rfl rfl rfl (by first | assumption | exact hS.cell0 (by assumption)) (by first | assumption | exact hS.cell0 (by assumption))) rfl ?_
  refine pln_read rfl (fun _ hS => run_fieldAddr (off := 3) rfl rfl) rfl ?_
  refine ZdN ?_
  refine pln_pick rfl ?_ ?_
  ·refine Zj ?_
   refine Calls.mono (undo_any x.h (c.bound : Nat) hA hB hc hd _ hok.hh hS) ?_
   rintro _ w3 ⟨A', c', B', d', F9, rfl, hF9, hH', hS'⟩
   refine Za ?_
   replace hS := hS'
   clear hS'
   refine Zar ?_
   refine Zax ?_
   refine ZaG ?_
   refine ZaG ?_
   refine Za0 ?_
   clear hS
   intro b2 wx2 hS
   refine Zar ?_
   refine Z7 ?_
   refine Zb ?_
   clear hS
   intro wx3 hS
   refine Zar ?_
   refine Zbl ?_
   refine pln_tail ?_
   refine Zc ?_
   exact hmeet _ _ _ _ ⟨_, A', c', B', d', F9, rfl, rfl, hF9, hH', hS⟩ (by conv=>lhs;whnf) (by conv=>lhs;whnf) (by kernel_rfl)
  refine Za0 ?_
  clear hS
  intro b3 wx4 hS
  refine Zar ?_
  refine Z7 ?_
  refine Zj ?_
  refine Calls.mono (undo_any x.h (c.bound : Nat) hA hB hc hd _ hok.hh hS) ?_
  rintro _ w3 ⟨A', c', B', d', F9, rfl, hF9, hH', hS'⟩
  refine Za ?_
  replace hS := hS'
  clear hS'
  refine Zar ?_
  refine Zax ?_
  refine ZaG ?_
  refine ZaG ?_
  refine Z7 ?_
  refine Zb ?_
  clear hS
  intro wx5 hS
  refine Zar ?_
  refine Zbl ?_
  refine pln_tail ?_
  refine Zc ?_
  exact hmeet _ _ _ _ ⟨_, A', c', B', d', F9, rfl, rfl, hF9, hH', hS⟩ (by conv=>lhs;whnf) (by conv=>lhs;whnf) (by kernel_rfl)
 clear hS
 rintro jv _ _ w3 ⟨b4, A', c', B', d', F', rfl, rfl, hF', hH', hS⟩
 refine Zag ?_
 refine Z0 ?_
 refine Zb8 ?_
 refine Zj ?_
 refine Calls.mono (cut_any (undoH x.h (c.bound : Nat)).1 (c.cells : Nat) A' B' c' d' _ hH' hS) ?_
 rintro _ w4 ⟨A2, c2, B2, d2, F2, rfl, hF2, hH2, hS'⟩
 refine Za ?_
 replace hS := hS'
 clear hS'
 refine Zaf ?_
 refine Zcu ?_
 clear hS
 intro wx6 hS
 refine Zc ?_
 refine goes_end0 Try.func118 rfl ?_
 exact ⟨rfl, _, F2, fun φ h => hF2 φ (hF' φ (hFF φ h)), ((hok.mono hF').mono hF2).setH hH2, hS.drop.drop⟩
theorem mlook_any (x : XS) (a : Int) (w : World) (hl : ∃ z, hat x.h.cs (hlook x.h.cs a) = some z) (hlen : x.h.cs.length ≤ 65536) (hs : XSt M w0 H F0 b P pA pc vars fuel every x w) :
  Calls Try.prog 123 #[ptm b, .int .i64 a] w fun e w' => e = .returned (cvv (cellX x.h a)) ∧ XSt M w0 H F0 b P pA pc vars fuel every x w' := by
 obtain ⟨z, hz⟩ := hl
 have hcz : cellX x.h a = z := by unfold cellX; rw [hz]; rfl
 rw [hcz]
 obtain ⟨d, F, hFF, hok, hS⟩ := hs
 obtain ⟨hA, hc, hB, hd, LA, lc, O1, cs, CA, cc, O2, evs, EA, ec, O3⟩ := d
 obtain ⟨z0, z1, z2⟩ := hatS.1 hz
 obtain ⟨hb_, ho_, rfl⟩ : ∃ b o, hA = some ⟨b, o, none⟩ := (hS.und hok.hh).1.some_ (by show 0 < x.h.cs.length; omega)
 have hcell : ∀ {H'} w', St M w0 H' F w' → _ := fun w' hS => ((hS.und hok.hh).1).cell z2
 refine goes_enter2 Try.func123 rfl Try.ntmps123 rfl ?_
 refine Zd ?_
 refine ZT ?_
 clear hS
 intro b1 wx1 hS
 refine Zu ?_
 refine goes_draw (St _ _ _ _) 13 ((0, true) :: (1, true) :: (2, true) :: (3, true) :: (4, true) :: (5, true) :: (6, true) :: (7, true) :: (8, true) :: (9, true) :: (10, false) :: (11, true) :: (12, true) :: []) (by kernel_rfl) (by kernel_rfl) (hS.drew) ?_
 replace hS := hS.drew
 refine Ze0 ?_
 refine Zbc ?_
 first
  | refine ord_read rfl (fun _ hS => run_loadN_own (k := 2) hS rfl rfl rfl (by first | exact .head | exact .tail .head | exact .tail (.tail .head) | exact .tail (.tail (.tail .head)) | exact .tail (.tail (.tail (.tail .head))) | exact .tail (.tail (.tail (.tail (.tail .head))))) (by repeat constructor)) rfl ?_
  | refine ord_read rfl (fun _ hS => run_loadN_own (k := 2) hS rfl rfl rfl (by first | exact .head | exact .tail .head | exact .tail (.tail .head) | exact .tail (.tail (.tail .head)) | exact .tail (.tail (.tail (.tail .head))) | exact .tail (.tail (.tail (.tail (.tail .head))))) (by assumption)) rfl ?_
  | refine ord_read rfl (fun _ hS => run_load2 rfl rfl rfl (by first | assumption | exact (hcell _ hS).1 | exact (hcell _ hS).2.1 | exact (hcell _ hS).2.2 | exact hS.cell0 (by assumption)) (by first | assumption | exact (hcell _ hS).1 | exact (hcell _ hS).2.1 | exact (hcell _ hS).2.2 | exact hS.cell0 (by assumption))) rfl ?_
 refine ZA ?_
 refine ZM ?_
 refine Zj ?_
 refine Calls.mono (look_any x.h.cs (some ⟨hb_, ho_, none⟩) hB hc x.h.tr.length hd a _ (hS.und hok.hh).1 (by omega)) ?_
 rintro _ w3 ⟨rfl, hb3⟩
 refine Za ?_
 replace hS := hS.grow hb3
 refine ZbO ?_
 refine Zaw ?_
 refine ZcK ?_
 refine ZP ?_
 refine Zb ?_
 clear hS
 intro wx2 hS
 refine Zc ?_
 refine goes_retC (sz := 3) hS Try.func123 rfl rfl rfl rfl (by first | exact .head | exact .tail .head | exact .tail (.tail .head) | exact .tail (.tail (.tail .head)) | exact .tail (.tail (.tail (.tail .head))) | exact .tail (.tail (.tail (.tail (.tail .head))))) (by repeat constructor) ?_
 exact ⟨rfl, _, F, hFF, hok, hS.drop⟩
end
end Go.Proofs.Ythliapbflkfdiab
namespace Go.Proofs.Ythliapbflkfdiab
open Go.RowKit
set_option linter.unusedVariables false
set_option linter.unusedSimpArgs false
set_option maxRecDepth 100000
set_option maxHeartbeats 1000000
section
variable {n : Nat} {e : Env} {w : World} {ty : TypeId} {pos : String} {after : Array Edge} {dst : Option Nat} {x y : Operand}
theorem run_eql_cell {a b : HC} (hx : ev n e x = .agg (hcs a).toArray) (hy : ev n e y = .agg (hcs b).toArray) :
  (execOp (ev n e) ⟨dst, .binOp .eql 74 x y 74, ty, pos, after, none⟩).run Try.prog w = .ok (.value (.bool (decide (a = b)))) w := by
 simp only [execOp, hx, hy, bind, pure]
 rw [Sem.run_bind', Sem.run_bind', run_eqGuard_agg w _ _ _ _ _ _ (by kernel_rfl)]
 simp only [Result.andThen_ok]
 rw [run_eql_struct, run_cell_eq]
 rfl
theorem run_eql_cell_t {a b : HC} (hx : ev n e x = .agg (hcs a).toArray) (hy : ev n e y = .agg (hcs b).toArray) (h : a = b) :
  (execOp (ev n e) ⟨dst, .binOp .eql 74 x y 74, ty, pos, after, none⟩).run Try.prog w = .ok (.value (.bool true)) w := by
 rw [run_eql_cell hx hy, decide_eq_true h]
theorem run_eql_cell_f {a b : HC} (hx : ev n e x = .agg (hcs a).toArray) (hy : ev n e y = .agg (hcs b).toArray) (h : a ≠ b) :
  (execOp (ev n e) ⟨dst, .binOp .eql 74 x y 74, ty, pos, after, none⟩).run Try.prog w = .ok (.value (.bool false)) w := by
 rw [run_eql_cell hx hy, decide_eq_false h]
end
theorem XSt.weaken {M : List Nat} {w0 : World} {H : List (Nat × Obj)} {F0 F1 : List (World → Prop)} {b : Nat} {P : List LB} {pA : Option Addr} {pc vars fuel every : Nat} {x : XS} {w : World} (h : XSt M w0 H F1 b P pA pc vars fuel every x w) (hF : ∀ φ ∈ F0, φ ∈ F1) : XSt M w0 H F0 b P pA pc vars fuel every x w := by
 obtain ⟨d, F, h1, h2, h3⟩ := h
 exact ⟨d, F, fun φ h => h1 φ (hF φ h), h2, h3⟩
theorem St.freezeLB {M : List Nat} {w0 w : World} {H O : List (Nat × Obj)} {F : List (World → Prop)} {el : Nat} {A : Option Addr} {c : Nat} {L : List LB} (hr : Row el 4 (.slice A L.length c) L.length (lbL L) O) (hR : ∀ x ∈ L, Und F (LBRd x)) (hS : St M w0 (O ++ H) F w) :
  ∃ F', (∀ φ ∈ F, φ ∈ F') ∧ Und F' (LBR L A c) ∧ St M w0 H F' w := by
 obtain ⟨F', h1, h2, h3⟩ := St.freezeL hS
 refine ⟨F', h1, fun w' hw' => ⟨⟨lbL_len L, hr.cap, fun hl => ?_⟩, fun x hx => (hR x hx).mono h1 w' hw'⟩, h3⟩
 obtain ⟨g, sp, rfl, rfl, _⟩ := hr.some_ hl
 refine ⟨g, 0, rfl, fun j u hu => ?_⟩
 have hjl : j < (lbL L).length := by
  rcases Nat.lt_or_ge j (lbL L).length with hh | hh
  ·exact hh
  ·rw [List.getElem?_eq_none hh] at hu; cases hu
 rw [cell_own (h2 _ (.head _) w' hw'), Nat.zero_add, List.getElem?_append_left hjl]; exact hu
def LB.ok (x : LB) : Prop := 0 ≤ x.cl.vars ∧ x.cl.vars ≤ 1048576 ∧ (blockC x.cl).length ≤ 1048576 ∧ hat (blockC x.cl) x.cl.vars = some (headX x.cl)
def fitX (z : HC) (x : LB) : Bool := decide (headX x.cl = z)
section
variable {M : List Nat} {w0 : World} {H : List (Nat × Obj)} {F0 : List (World → Prop)} {b : Nat} {P : List LB} {pA : Option Addr} {pc vars fuel every : Nat}
theorem mmatching_any (x : XS) (z : HC) (w : World) (hP : ∀ p ∈ P, p.ok) (hl : P.length ≤ 24) (hs : XSt M w0 H F0 b P pA pc vars fuel every x w) :
  Calls Try.prog 113 #[ptm b, .agg (hcs z).toArray] w fun e w' => ∃ (A : Option Addr) (c : Nat) (F1 : List (World → Prop)), e = .returned (.slice A (P.filter (fitX z)).length c) ∧ (∀ φ ∈ F0, φ ∈ F1) ∧ Und F1 (LBR (P.filter (fitX z)) A c) ∧ XSt M w0 H F1 b P pA pc vars fuel every x w' := by
 obtain ⟨d, F, hFF, hok, hS⟩ := hs
 obtain ⟨hA, hc, hB, hd, LA, lc, O1, cs, CA, cc, O2, evs, EA, ec, O3⟩ := d
 have hrp : Und F (LBR P pA pc) := hok.rp
 refine goes_enter2 Try.func113 rfl Try.ntmps113 rfl ?_
 refine Ze ?_
 clear hS
 intro b1 wx1 hS
 refine Zf ?_
 refine ZG ?_
 refine ZB ?_
 refine Zb8 ?_
 refine ZJ ?_
 refine goes_loop2 13 5 (14 :: 15 :: 16 :: 7 :: 17 :: 18 :: 19 :: 20 :: 21 :: 22 :: 23 :: 24 :: 25 :: 26 :: 27 :: 28 :: 29 :: []) (fun (R : List LB) v u w' => ∃ (D : List LB) (O : List (Nat × Obj)), P = D ++ R ∧ v = .int .i64 (D.length : Nat) ∧ Row 59 4 u (D.filter (fitX z)).length (lbL (D.filter (fitX z))) O ∧ St M w0 ((b1, .cells (hcs z).toArray 74) :: (b, mob P pA pc vars fuel every x ⟨hA, hc, hB, hd, LA, lc, O1, cs, CA, cc, O2, evs, EA, ec, O3⟩) :: (O ++ (O1 ++ (O2 ++ (O3 ++ H))))) F w') (fun R => R.length) (P) ?_ (by conv=>lhs;whnf) (by conv=>lhs;whnf) ?_
 ·exact ⟨[], [], rfl, rfl, Row.nil_, hS⟩
 clear hS
 rintro R _ V w2 jv ⟨D, O, hDR, rfl, hrow, hS⟩ ih
 have hlen : P.length = D.length + R.length := by rw [hDR]; simp
 obtain ⟨Av, cv, rfl⟩ := hrow.form
 cases R with
 | nil =>
  simp only [List.length_nil] at hlen
  have e : P = D := by rw [hDR]; simp
  refine Zbh ?_
  refine goes_ret1 Try.func113 rfl (by conv=>lhs;whnf) ?_
  rw [← e] at hrow ⊢
  obtain ⟨F', h1, h2, h3⟩ := St.freezeLB (H := (b, mob P pA pc vars fuel every x ⟨hA, hc, hB, hd, LA, lc, O1, cs, CA, cc, O2, evs, EA, ec, O3⟩) :: (O1 ++ (O2 ++ (O3 ++ H)))) hrow (fun y hy => hrp.imp fun w h => h.2 y (List.mem_filter.1 hy).1) (hS.drop.perm (List.perm_append_comm_assoc [_] _ _))
  exact ⟨Av, cv, F', rfl, fun φ h => h1 φ (hFF φ h), h2, _, F', fun φ h => h, hok.mono h1, h3⟩
 | cons y R =>
  simp only [List.length_cons] at hlen
  have hyo : y.ok := hP y (by rw [hDR]; simp)
  rw [hDR] at hrp
  obtain ⟨b6, o6, rfl⟩ := (hS.und hrp).some_ (by simp; omega)
  obtain ⟨q0, q1, q2, q3⟩ := (hS.und hrp).cells
  have hfl : Und F (LBRd y) := hrp.imp fun w h => h.2 y (by simp)
  have hflen := List.length_filter_le (fitX z) D
  obtain ⟨v0, v1, v2, v3⟩ := hyo
  have vb := (hatS.1 v3).2.1
  obtain ⟨b8, o8, hb8⟩ : ∃ b o, y.A = some ⟨b, o, none⟩ := (hS.und hfl).1.some_ (by have := (hatS.1 v3).2.1; omega)
  have hcell : ∀ {H'} w', St M w0 H' F w' → _ := fun {H'} w' (hS : St M w0 H' F w') => Flat.cell (b := b8) (o := o8) (hb8 ▸ (hS.und hfl).1) (hatS.1 v3).2.2
  rw [hb8] at q0
  by_cases he : headX y.cl = z
  ·have hfit : (D ++ [y]).filter (fitX z) = D.filter (fitX z) ++ [y] := by rw [List.filter_append]; simp [fitX, he]
   refine Zbp ?_
   refine Zaq ?_
   refine Zex ?_
   refine Z2 ?_
   clear hS
   intro b2 wx2 hS
   refine Zb ?_
   clear hS
   intro wx3 hS
   refine Zu ?_
   refine Zey ?_
   replace hS := hS.drew
   refine Zdz ?_
   refine Zd9 ?_
   refine Zaw ?_
   refine ZcK ?_
   refine ZcK ?_
   refine Zez ?_
   refine ZP ?_
   refine Zch ?_
   refine ZeA ?_
   refine ZbQ ?_
   clear hS
   intro b3 wx4 hS
   refine lst_app (sz := 4) (bts := 64) hS (by conv=>lhs;whnf) rfl rfl rfl rfl (hrow) rfl rfl (.cons _ (List.perm_append_comm_assoc [_, _, _] _ _)) (by omega) (by omega) rfl ?_
   clear hS
   intro v' O' w6 hrow' hS
   replace hS := hS.perm (List.perm_append_comm_assoc O' [_, _, _] _)
   refine Zan ?_
   refine ih (R) _ _ _ _ ?_ ?_ (by conv=>lhs;whnf) (by conv=>lhs;whnf) (by kernel_rfl)
   ·simp
   ·exact ⟨D ++ [y], O', by rw [hDR]; simp, by simp, by
     have e1 : lbL [y] = [.slice (some ⟨b8, o8, none⟩) (blockC y.cl).length y.c, .int .i64 y.cl.vars, .int .i64 y.cl.vars, .slice y.B (goalsC y.cl).length y.d] := by simp only [lbL, lbcs, hb8, List.append_nil]
     rw [hfit, lbL_app, List.length_append, e1]; exact hrow', hS.drop⟩
  ·have hfit : (D ++ [y]).filter (fitX z) = D.filter (fitX z) := by rw [List.filter_append]; simp [fitX, he]
   refine Zbp ?_
   refine Zaq ?_
   refine ZeA ?_
   refine Z2 ?_
   clear hS
   intro b2 wx2 hS
   refine Zb ?_
   clear hS
   intro wx3 hS
   refine Zu ?_
   refine Zey ?_
   replace hS := hS.drew
   refine Zdz ?_
   refine Zd9 ?_
   refine Zaw ?_
   refine ZcK ?_
   refine ZcK ?_
   refine Zez ?_
   refine ZP ?_
   refine ZaM ?_
   refine ih (R) _ _ _ _ ?_ ?_ (by conv=>lhs;whnf) (by conv=>lhs;whnf) (by kernel_rfl)
   ·simp
   ·exact ⟨D ++ [y], O, by rw [hDR]; simp, by simp, by rw [hfit]; exact hrow, hS.drop⟩
end
end Go.Proofs.Ythliapbflkfdiab
namespace Go.Proofs.Ythliapbflkfdiab
open Go.RowKit
set_option linter.unusedVariables false
set_option linter.unusedSimpArgs false
set_option maxRecDepth 100000
set_option maxHeartbeats 1000000
section
variable {M : List Nat} {w0 : World} {H : List (Nat × Obj)} {F0 : List (World → Prop)} {b : Nat} {P : List LB} {pA : Option Addr} {pc vars fuel every : Nat}
theorem befX_len (st o : Nat) : ∀ (G : List Int) (nx : Int) (L : List XL), (befX st o G nx L).1.length = L.length + G.length
 | [], nx, L => by simp [befX]
 | g :: r, nx, L => by simp only [befX, List.length_append, List.length_cons, List.length_nil, befX_len st o r nx L]; omega
theorem befX_take (st o : Nat) (G : List Int) (nx : Int) (L : List XL) (i : Nat) (g : Int) (hg : G[i]? = some g) : befX st o (G.drop i) nx L = ((befX st o (G.drop (i + 1)) nx L).1 ++ [⟨st + g, o, (befX st o (G.drop (i + 1)) nx L).2⟩], (((befX st o (G.drop (i + 1)) nx L).1.length : Nat) : Int)) := by
 have hi : i < G.length := by
  rcases Nat.lt_or_ge i G.length with h | h
  ·exact h
  ·rw [List.getElem?_eq_none h] at hg; cases hg
 have e : G.drop i = g :: G.drop (i + 1) := by
  rw [List.drop_eq_getElem_cons hi]
  have : G[i] = g := by rw [List.getElem?_eq_getElem hi] at hg; simpa using hg
  rw [this]
 rw [e]; rfl
def XS.links (s : XS) (L : List XL) : XS := ⟨s.h, s.goals, L, s.first, s.ch, s.ev⟩
theorem mbefore_any {F : List (World → Prop)} (x : XS) (G : List Int) (gA : Option Addr) (gc st o : Nat) (nx : Int) (hA hB : Option Addr) (hc hd : Nat) (LA : Option Addr) (lc : Nat) (O1 : List (Nat × Obj)) (cs : List LX) (CA : Option Addr) (cc : Nat) (O2 : List (Nat × Obj)) (evs : List LE) (EA : Option Addr) (ec : Nat) (O3 : List (Nat × Obj)) (w : World) (hst : st ≤ 1048576) (hG : ∀ g ∈ G, 0 ≤ g ∧ g ≤ 1048576) (hln : x.ln.length + G.length ≤ 1048576) (hgf' : Und F (Flat 1 (intsV G) gA G.length gc))
  (hok : XOk P pA pc x ⟨hA, hc, hB, hd, LA, lc, O1, cs, CA, cc, O2, evs, EA, ec, O3⟩ F) (hS : St M w0 ((b, mob P pA pc vars fuel every x ⟨hA, hc, hB, hd, LA, lc, O1, cs, CA, cc, O2, evs, EA, ec, O3⟩) :: (O1 ++ (O2 ++ (O3 ++ H)))) F w) :
  Calls Try.prog 97 #[ptm b, .slice gA G.length gc, .int .i64 (st : Nat), .int .i64 (o : Nat), .int .i64 nx] w fun e w' => e = .returned (.int .i64 (befX st o G nx x.ln).2) ∧ ∃ (LA' : Option Addr) (lc' : Nat) (O1' : List (Nat × Obj)), XOk P pA pc (x.links (befX st o G nx x.ln).1) ⟨hA, hc, hB, hd, LA', lc', O1', cs, CA, cc, O2, evs, EA, ec, O3⟩ F ∧ St M w0 ((b, mob P pA pc vars fuel every (x.links (befX st o G nx x.ln).1) ⟨hA, hc, hB, hd, LA', lc', O1', cs, CA, cc, O2, evs, EA, ec, O3⟩) :: (O1' ++ (O2 ++ (O3 ++ H)))) F w' := by
 refine goes_enter5 Try.func97 rfl Try.ntmps97 rfl ?_
 refine ZG ?_
 refine Zz ?_
 refine Zae ?_
 refine Zf ?_
 refine Z5 ?_
 refine goes_loop2 11 4 (15 :: 16 :: 19 :: 20 :: 21 :: 22 :: 23 :: 24 :: 25 :: 26 :: 27 :: 28 :: 29 :: 30 :: 31 :: 32 :: 33 :: 34 :: 35 :: 36 :: 37 :: 38 :: 39 :: 40 :: 41 :: 42 :: 17 :: 18 :: []) (fun (i : Nat) v u w' => i ≤ G.length ∧ v = .int .i64 ((i : Nat) - 1 : Int) ∧ u = .int .i64 (befX st o (G.drop i) nx x.ln).2 ∧ ∃ (LA' : Option Addr) (lc' : Nat) (O' : List (Nat × Obj)), Row 138 3 (.slice LA' (befX st o (G.drop i) nx x.ln).1.length lc') (befX st o (G.drop i) nx x.ln).1.length (xlL (befX st o (G.drop i) nx x.ln).1) O' ∧ St M w0 ((b, mob P pA pc vars fuel every (x.links (befX st o (G.drop i) nx x.ln).1) ⟨hA, hc, hB, hd, LA', lc', O', cs, CA, cc, O2, evs, EA, ec, O3⟩) :: (O' ++ (O2 ++ (O3 ++ H)))) F w') (fun i => i) (G.length) ?_ (by conv=>lhs;whnf) (by conv=>lhs;whnf) ?_
 ·rw [List.drop_length]
  exact ⟨Nat.le_refl _, by simp, rfl, LA, lc, O1, hok.row1, hS⟩
 clear hS
 rintro i _ _ w2 jv ⟨hi, rfl, rfl, LA', lc', O', hrow, hS⟩ ih
 have hlb := befX_len st o (G.drop i) nx x.ln
 have hdl : (G.drop i).length ≤ G.length := by simp
 cases i with
 | zero =>
  refine ZbE ?_
  refine Za2 ?_
  refine Zbv ?_
  refine Z3 ?_
  refine goes_ret1 Try.func97 rfl (by conv=>lhs;whnf) ?_
  exact ⟨rfl, LA', lc', O', ⟨hok.hh, hrow, hok.hc, hok.rc, hok.row2, hok.he, hok.re, hok.row3, hok.rp⟩, hS⟩
 | succ i =>
  have hil : i < G.length := by omega
  obtain ⟨g, hg⟩ : ∃ g, G[i]? = some g := ⟨G[i], List.getElem?_eq_getElem hil⟩
  have hgm : g ∈ G := List.mem_of_getElem? hg
  have hg0 := hG g hgm
  have hbt := befX_take st o G nx x.ln i g hg
  obtain ⟨gb, go, rfl⟩ : ∃ b o, gA = some ⟨b, o, none⟩ := (hS.und hgf').some_ (by omega)
  have hgi : (intsV G)[i]? = some (.int .i64 g) := by simp [intsV, hg]
  have hgc : ∀ {H'} w', St M w0 H' F w' → w'.cell? ⟨gb, go + ((i : Nat) : Int).toNat * 1, none⟩ = some (.int .i64 g) := fun w' hS => by
   have := (hS.und hgf').get hgi
   rwa [Int.toNat_natCast, Nat.mul_one]
  rw [show (((i + 1 : Nat) : Int) - 1) = ((i : Nat) : Int) by omega]
  refine ZbE ?_
  refine Za2 ?_
  refine ZF ?_
  refine Zdu ?_
  refine Zs ?_
  refine goes_draw (St _ w0 [_] _) 18 ((0, true) :: (1, true) :: (2, true) :: (3, true) :: (4, true) :: (5, true) :: (6, true) :: (7, true) :: (8, true) :: (9, true) :: (10, true) :: (11, true) :: (12, true) :: (13, true) :: (14, false) :: (15, false) :: (16, true) :: (17, true) :: []) (by kernel_rfl) (by kernel_rfl) (hS.drew.only1) ?_
  replace hS := hS.drew
  refine ZA ?_
  refine ZH ?_
  refine ZcL ?_
  refine ZeB ?_
  refine ZaB ?_
  refine ZA ?_
  refine Zdj ?_
  refine ZeB ?_
  refine ord_read rfl (fun _ hS => run_add rfl rfl (by omega) (by omega)) rfl ?_
  refine ZaB ?_
  refine ord_read rfl (fun _ hS => run_build (cells := [_, _, _]) (.cons (by conv=>lhs;whnf) (.cons (by conv=>lhs;whnf) (.cons (by conv=>lhs;whnf) .nil))) rfl) rfl ?_
  refine ZM ?_
  refine ZbK ?_
  clear hS
  intro b1 wx1 hS
  refine ZeC ?_
  refine ZM ?_
  refine lst_app (sz := 3) (bts := 24) hS rfl rfl rfl rfl rfl hrow rfl rfl (.cons _ (List.perm_append_comm_assoc [_] _ _)) (by omega) (by omega) rfl ?_
  clear hS
  intro v8 O8 w8 hrow8 hS
  obtain ⟨A8, c8, rfl⟩ := hrow8.form
  replace hS := hS.perm (List.perm_append_comm_assoc [_] _ _).symm
  refine ZeC ?_
  refine Zbk ?_
  refine ZcL ?_
  refine Zcv ?_
  clear hS
  intro wx2 hS
  refine Zc ?_
  refine Zag ?_
  refine ZB ?_
  refine ZcM ?_
  first
   | refine lst_run (run_load1_own hS rfl rfl (by first | exact .head | exact .tail .head | exact .tail (.tail .head) | exact .tail (.tail (.tail .head)) | exact .tail (.tail (.tail (.tail .head))) | exact .tail (.tail (.tail (.tail (.tail .head))))) (by repeat constructor)) rfl ?_
   | refine lst_run (run_load1 rfl rfl (by first | assumption | exact hgc _ hS | exact hS.cell0 (by assumption) | exact lv_next hS | exact lv_list hS)) rfl ?_
  refine Zz ?_
  refine Zae ?_
  refine Zf ?_
  refine Zdx ?_
  refine Zg ?_
  refine Zae ?_
  refine Zf ?_
  refine ih (i) _ _ _ _ ?_ ?_ (by conv=>lhs;whnf) (by conv=>lhs;whnf) (by kernel_rfl)
  ·omega
  ·refine ⟨by omega, by simp, ?_, A8, c8, O8, ?_, ?_⟩
   ·rw [hbt]
    exact congrArg (Value.int IntKind.i64) (by show (((_ + 1 : Nat) : Int) - 1) = _; omega)
   ·rw [hbt]
    have e := xlL_app (befX st o (G.drop (i + 1)) nx x.ln).1 [⟨st + g, o, (befX st o (G.drop (i + 1)) nx x.ln).2⟩]
    show Row _ 3 (.slice A8 (_ ++ [_]).length c8) (_ ++ [_]).length (xlL (_ ++ [_])) O8
    rw [e, List.length_append]; exact hrow8
   ·rw [hbt]
    show St M w0 ((b, mob P pA pc vars fuel every (x.links (_ ++ [_])) _) :: _) F _
    unfold mob mcs XS.links
    rw [List.length_append]; exact hS
end
end Go.Proofs.Ythliapbflkfdiab
