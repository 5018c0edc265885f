/- XWalk12, XWalk13, XWalk14, XWalk15, XWalk16, XWalk17: texts that follow one another, laid into one file. -/
import Derived.Test.YthliapbflkfdiabGreatZ0
import Derived.Test.YthliapbflkfdiabGreatG22
import Derived.Test.YthliapbflkfdiabGreatG15
namespace Go.Proofs.YthliapbflkfdiabGreat
open Go.RowKit
set_option linter.unusedVariables false
set_option linter.unusedSimpArgs false
set_option maxRecDepth 100000
set_option maxHeartbeats 1000000
theorem seen_set {S : List Bool} {i : Nat} (h : S[i]? = some false) : (S.set i true).count false + 1 = S.count false := by
 induction S generalizing i with
 | nil => simp at h
 | cons a r ih =>
  cases i with
  | zero => simp at h; subst h; simp
  | succ i =>
   have := ih (i := i) (by simpa using h)
   simp only [List.set_cons_succ, List.count_cons]
   omega
abbrev natsV (V : List Nat) : List Value := intsV (V.map fun (i : Nat) => (i : Int))
def LnOk (L : List XL) : Prop := ∀ l ∈ L, l.nx = -1 ∨ (0 ≤ l.nx ∧ l.nx < L.length)
section
variable {M : List Nat} {w0 : World} {H T : List (Nat × Obj)} {F : List (World → Prop)} {b : Nat} {cz : List Value} {ct : TypeId}
theorem mchain_any (L : List XL) (i : Int) (S : List Bool) (V : List Nat) (f : Nat) (sb zb mb lb : Nat) (VA : Option Addr) (vc : Nat) (Ol : List (Nat × Obj)) (gl : Nat) (sp cs1 cs2 : List Value) (lcap : Nat) (w : World) (hL : LnOk L) (hS1 : S.length = L.length) (hl : L.length ≤ 1000000) (hcs : cs1.length = 7) (hgl : (gl, Obj.cells (xlL L ++ sp).toArray 81) ∈ T) (hLp : 0 < L.length)
  (hi : i = -1 ∨ (0 ≤ i ∧ i < L.length)) (hf : S.count false < f) (hV : V.length + S.count false ≤ L.length) (hrow : Row 3 1 (.slice VA V.length vc) V.length (natsV V) Ol)
  (hS : St M w0 ((sb, .cells #[.slice (some ⟨zb, 0, none⟩) L.length L.length] 139) :: (zb, .cells (boolsV S).toArray 4) :: (mb, .cells #[ptm b] 48) :: (lb, .cells #[.slice VA V.length vc] 39) :: (b, .cells (cs1 ++ .slice (some ⟨gl, 0, none⟩) L.length lcap :: cs2).toArray 57) :: (Ol ++ T)) F w) :
  Calls Tryz.prog 79 #[.int .i64 i, .pointer (some ⟨sb, 0, none⟩), .pointer (some ⟨mb, 0, none⟩), .pointer (some ⟨lb, 0, none⟩)] w fun e w' => e = .returned (.tuple #[]) ∧ ∃ (VA' : Option Addr) (vc' : Nat) (Ol' : List (Nat × Obj)), (chainX L f i (S, V)).1.length = L.length ∧ (chainX L f i (S, V)).2.length + (chainX L f i (S, V)).1.count false ≤ L.length ∧ Row 3 1 (.slice VA' (chainX L f i (S, V)).2.length vc') (chainX L f i (S, V)).2.length (natsV (chainX L f i (S, V)).2) Ol' ∧
   St M w0 ((sb, .cells #[.slice (some ⟨zb, 0, none⟩) L.length L.length] 139) :: (zb, .cells (boolsV (chainX L f i (S, V)).1).toArray 4) :: (mb, .cells #[ptm b] 48) :: (lb, .cells #[.slice VA' (chainX L f i (S, V)).2.length vc'] 39) :: (b, .cells (cs1 ++ .slice (some ⟨gl, 0, none⟩) L.length lcap :: cs2).toArray 57) :: (Ol' ++ T)) F w' := by
 obtain ⟨c0, c1, c2, c3, c4, c5, c6, rfl⟩ : ∃ c0 c1 c2 c3 c4 c5 c6, cs1 = [c0, c1, c2, c3, c4, c5, c6] := by
  match cs1, hcs with
  | [c0, c1, c2, c3, c4, c5, c6], _ => exact ⟨c0, c1, c2, c3, c4, c5, c6, rfl⟩
 refine goes_enter4 Tryz.func79 rfl Tryz.ntmps79 rfl ?_
 refine ZaP ?_
 refine goes_loop1 0 (5 :: 6 :: 7 :: 8 :: 9 :: 10 :: 11 :: 12 :: 13 :: 22 :: 23 :: 24 :: 25 :: 26 :: 27 :: 28 :: 14 :: 15 :: 16 :: 17 :: 18 :: 19 :: 20 :: 21 :: []) (fun (y : List Bool × List Nat) v w' => ∃ (j : Int) (f' : Nat) (VA : Option Addr) (vc : Nat) (Ol : List (Nat × Obj)), v = .int .i64 j ∧ y.1.length = L.length ∧ (j = -1 ∨ (0 ≤ j ∧ j < L.length)) ∧ y.1.count false < f' ∧ y.2.length + y.1.count false ≤ L.length ∧ chainX L f i (S, V) = chainX L f' j y ∧ Row 3 1 (.slice VA y.2.length vc) y.2.length (natsV y.2) Ol ∧ St M w0 ((sb, .cells #[.slice (some ⟨zb, 0, none⟩) L.length L.length] 139) :: (zb, .cells (boolsV y.1).toArray 4) :: (mb, .cells #[ptm b] 48) :: (lb, .cells #[.slice VA y.2.length vc] 39) :: (b, .cells ([c0, c1, c2, c3, c4, c5, c6] ++ .slice (some ⟨gl, 0, none⟩) L.length lcap :: cs2).toArray 57) :: (Ol ++ T)) F w') (fun y => y.1.count false) ((S, V)) ?_ (by conv=>lhs;whnf) ?_
 ·exact ⟨i, f, VA, vc, Ol, rfl, hS1, hi, hf, hV, rfl, hrow, hS⟩
 clear hS hrow hV hf hi hS1
 rintro ⟨S1, V1⟩ _ w2 jv ⟨j, f', VA1, vc1, Ol1, rfl, hS1, hi, hf, hV, hch, hrow, hS⟩ ih
 dsimp only at hS1 hf hV hrow hS
 obtain ⟨f', rfl⟩ : ∃ k, f' = k + 1 := ⟨f' - 1, by omega⟩
 have hun : chainX L (f' + 1) j (S1, V1) = if j = -1 then (S1, V1) else if S1[j.toNat]? = some true then (S1, V1) else chainX L f' (lnk L j.toNat).nx (S1.set j.toNat true, V1 ++ [j.toNat]) := rfl
 by_cases hj : j = -1
 ·rw [hch, hun, if_pos hj]
  refine ZC ?_
  refine Zn ?_
  refine ZcA ?_
  refine Za7 ?_
  refine goes_end0 Tryz.func79 rfl ?_
  exact ⟨rfl, VA1, vc1, Ol1, hS1, hV, hrow, hS⟩
 ·have hj0 : 0 ≤ j ∧ j < L.length := hi.resolve_left hj
  obtain ⟨v, hv⟩ : ∃ v, S1[j.toNat]? = some v := ⟨S1[j.toNat]'(by omega), List.getElem?_eq_getElem _⟩
  have hsv : ∀ {M2 H' F'} w', St M2 w0 H' F' w' → (zb, Obj.cells (boolsV S1).toArray 4) ∈ H' → w'.cell? ⟨zb, 0 + j.toNat * 1, none⟩ = some (.bool v) := fun {M2 H' F'} w' (hS : St M2 w0 H' F' w') hm => by
   rw [cell_own (hS.own _ hm)]; simp [boolsV, hv]
  cases v with
  | true =>
   rw [hch, hun, if_neg hj, if_pos hv]
   refine ZC ?_
   refine ZbD ?_
   refine ZgC ?_
   refine Zo ?_
   refine Zp ?_
   refine ZU ?_
   refine Zo ?_
   refine ZgC ?_
   refine Zcv ?_
   refine Zx ?_
   refine Za7 ?_
   refine goes_end0 Tryz.func79 rfl ?_
   exact ⟨rfl, VA1, vc1, Ol1, hS1, hV, hrow, hS⟩
  | false =>
   have hput := boolsV_put S1 j.toNat true (by omega)
   have hcnt := seen_set hv
   obtain ⟨l0, l1, l2⟩ := xlL_get L j.toNat _ (lnk_get (L := L) (a := j.toNat) (by omega))
   have hll : ∀ {M2 H' F'} w', St M2 w0 H' F' w' → (gl, Obj.cells (xlL L ++ sp).toArray 81) ∈ H' → w'.cell? ⟨gl, 0 + j.toNat * 3 + 2, none⟩ = some (.int .i64 (lnk L j.toNat).nx) := fun {M2 H' F'} w' (hS : St M2 w0 H' F' w') hm => by
    rw [cell_own (hS.own _ hm), Nat.zero_add, List.getElem?_append_left]
    ·exact l2
    ·rw [xlL_len]; omega
   refine ZC ?_
   refine ZbD ?_
   refine Zcr ?_
   refine Zo ?_
   refine Zp ?_
   refine ZU ?_
   refine Zo ?_
   refine Zcr ?_
   refine Zcv ?_
   refine Zx ?_
   refine Zt ?_
   refine Zee ?_
   refine Zg ?_
   refine Zcr ?_
   refine Zcx ?_
   refine Zd4 ?_
   clear hS
   intro w5 hS
   refine Zb ?_
   refine ZaZ ?_
   refine Zcr ?_
   refine Zf ?_
   refine Zbe ?_
   clear hS
   intro b1 wx1 hS
   refine lst_app (sz := 1) (bts := 8) hS (by conv=>lhs;whnf) rfl rfl rfl rfl (hrow) rfl rfl (.cons _ (List.perm_append_comm_assoc [_, _, _, _, _] Ol1 T)) (by omega) (by omega) rfl ?_
   clear hS
   intro v8 O8 w8 hrow8 hS
   obtain ⟨A8, c8, rfl⟩ := hrow8.form
   replace hS := hS.perm (List.perm_append_comm_assoc O8 [_, _, _, _, _] T)
   refine ZA ?_
   clear hS
   intro wx2 hS
   refine Zb ?_
   refine Zef ?_
   refine Zcr ?_
   refine Zds ?_
   refine Zcr ?_
   refine Zf ?_
   refine Z6 ?_
   refine Z2 ?_
   refine Zcr ?_
   refine Zd ?_
   have hnx := hL _ (List.mem_of_getElem? (lnk_get (L := L) (a := j.toNat) (by omega)))
   refine ih ((S1.set j.toNat true, V1 ++ [j.toNat])) _ _ _ ?_ ?_ (by conv=>lhs;whnf) (by kernel_rfl)
   ·show (S1.set j.toNat true).count false < S1.count false
    omega
   ·refine ⟨_, f', A8, c8, O8, rfl, by simpa using hS1, hnx, by show (S1.set j.toNat true).count false < f'; omega, by show (V1 ++ [j.toNat]).length + (S1.set j.toNat true).count false ≤ _; simp only [List.length_append, List.length_cons, List.length_nil]; omega, ?_, ?_, ?_⟩
    ·rw [hch, hun, if_neg hj, if_neg (by rw [hv]; simp)]
    ·have : natsV (V1 ++ [j.toNat]) = natsV V1 ++ [.int .i64 j] := by simp [natsV, intsV, Int.toNat_of_nonneg hj0.1]
     show Row _ 1 (.slice A8 (V1 ++ [j.toNat]).length c8) (V1 ++ [j.toNat]).length (natsV (V1 ++ [j.toNat])) O8
     rw [this, List.length_append]; exact hrow8
    ·show St M w0 (_ :: _ :: _ :: (lb, .cells #[.slice A8 (V1 ++ [j.toNat]).length c8] _) :: _) F _
     rw [List.length_append]; exact hS
end
end Go.Proofs.YthliapbflkfdiabGreat
namespace Go.Proofs.YthliapbflkfdiabGreat
open Go.RowKit
set_option linter.unusedVariables false
set_option linter.unusedSimpArgs false
set_option maxRecDepth 100000
set_option maxHeartbeats 1000000
theorem St.freezeRow {M : List Nat} {w0 w : World} {H O : List (Nat × Obj)} {F : List (World → Prop)} {el sz len c : Nat} {A : Option Addr} {xs : List Value} (hr : Row el sz (.slice A len c) len xs O) (hS : St M w0 (O ++ H) F w) :
  ∃ F', (∀ φ ∈ F, φ ∈ F') ∧ Und F' (Flat sz xs A len c) ∧ St M w0 H F' w := by
 obtain ⟨F', h1, h2, h3⟩ := St.freezeL hS
 refine ⟨F', h1, fun w' hw' => ⟨hr.len_, hr.cap, fun hl => ?_⟩, h3⟩
 obtain ⟨g, sp, rfl, rfl, _⟩ := hr.some_ hl
 refine ⟨g, 0, rfl, fun j u hu => ?_⟩
 have hjl : j < xs.length := by
  rcases Nat.lt_or_ge j xs.length with hh | hh
  ·exact hh
  ·rw [List.getElem?_eq_none hh] at hu; cases hu
 rw [cell_own (h2 _ (.head _) w' hw'), Nat.zero_add, List.getElem?_append_left hjl]; exact hu
section
variable {M : List Nat} {w0 : World} {H : List (Nat × Obj)} {F0 : List (World → Prop)} {b : Nat} {P : List LB} {pA : Option Addr} {pc vars fuel every : Nat}
theorem mlive_any (x : XS) (w : World) (hbd : XBd x) (hL : LnOk x.ln) (hLp : 0 < x.ln.length) (hf : x.first = -1 ∨ (0 ≤ x.first ∧ x.first < x.ln.length)) (hs : XSt M w0 H F0 b P pA pc vars fuel every x w) :
  Calls Tryz.prog 51 #[ptm b] w fun e w' => ∃ (A : Option Addr) (c : Nat) (F1 : List (World → Prop)), e = .returned (.slice A (liveX x).length c) ∧ (∀ φ ∈ F0, φ ∈ F1) ∧ Und F1 (Flat 1 (natsV (liveX x)) A (liveX x).length c) ∧ XSt M w0 H F1 b P pA pc vars fuel every x w' := by
 obtain ⟨d, F, hFF, hok, hS⟩ := hs
 obtain ⟨hA, hc, hB, hd, LA, lc, O1, cs, CA, cc, O2, evs, EA, ec, O3⟩ := d
 have hrow1 : Row 81 3 (.slice LA x.ln.length lc) x.ln.length (xlL x.ln) O1 := hok.row1
 obtain ⟨gl, sp, rfl, rfl, hcap⟩ := hrow1.some_ hLp
 have hln := hbd.ln
 have hcn := hbd.cn
 have hcs : cs.map LX.xc = x.ch := hok.hc
 have hlc : cs.length = x.ch.length := by rw [← hcs]; simp
 have hrow2 : Row 108 4 (.slice CA cs.length cc) cs.length (xcL cs.reverse) O2 := hok.row2
 have hct : (List.replicate x.ln.length false).count false < x.ln.length + 1 := by simp
 refine goes_enter1 Tryz.func51 rfl Tryz.ntmps51 rfl ?_
 refine Ze ?_
 clear hS
 intro b1 wx1 hS
 refine Zd ?_
 refine Zg ?_
 refine ZeK ?_
 clear hS
 intro b2 wx2 hS
 refine Zb6 ?_
 refine ZS ?_
 refine Zds ?_
 refine Zbn ?_
 refine lst_makeZ (k := x.ln.length) (bts := 1) (z := .bool false) hS (by conv=>lhs;whnf) (by conv=>lhs;whnf) rfl rfl rfl rfl (by omega) (by omega) rfl ?_
 clear hS
 intro zb w2 hS
 refine ZeK ?_
 clear hS
 intro b3 wx3 hS
 refine ZA ?_
 clear hS
 intro wx4 hS
 refine Zb6 ?_
 refine lst_run (run_makeFunc args_nil (args_3 (by conv=>lhs;whnf) (by conv=>lhs;whnf) (by conv=>lhs;whnf))) rfl ?_
 refine Z9 ?_
 refine ZS ?_
 refine ZE ?_
 refine Zbg ?_
 refine ZS ?_
 rw [show List.replicate x.ln.length (Value.bool false) = boolsV (List.replicate x.ln.length false) by simp [boolsV]] at hS
 replace hS := hS.perm (.cons _ (.cons _ (.swap _ _ _)))
 refine Zd0 ?_
 refine Calls.mono (mchain_any (T := ([(gl, .cells (xlL x.ln ++ sp).toArray 81)] ++ (O2 ++ (O3 ++ H)))) x.ln x.first (List.replicate x.ln.length false) [] (x.ln.length + 1) b3 zb b1 b2 none 0 [] gl sp [.slice hA x.h.cs.length hc, .slice hB x.h.tr.length hd, .slice pA P.length pc, .int .i64 (vars : Nat), .int .i64 (fuel : Nat), .int .i64 (x.goals : Nat), .int .i64 (every : Nat)] [.int .i64 x.first, .slice CA cs.length cc, .slice EA evs.length ec] lc _ hL (by simp) (by omega) rfl (by simp) hLp hf hct (by simp) Row.nil_ hS) ?_
 rintro _ w5 ⟨rfl, VA1, vc1, Ol1, hn1, hn2, hrow, hS'⟩
 refine Za ?_
 replace hS := hS'
 clear hS'
 have hlv : liveX x = (chainsX x.ln (cs.reverse.map LX.xc) (chainX x.ln (x.ln.length + 1) x.first (List.replicate x.ln.length false, []))).2 := by
  unfold liveX; rw [← hcs, List.map_reverse]
 generalize hp0 : chainX x.ln (x.ln.length + 1) x.first (List.replicate x.ln.length false, []) = p0 at *
 refine ZH ?_
 refine Zg ?_
 refine ZS ?_
 refine ZE ?_
 refine ZbT ?_
 refine ZS ?_
 refine ZQ ?_
 refine goes_loop1 26 (27 :: 28 :: 29 :: 7 :: 30 :: 31 :: 32 :: 33 :: 34 :: []) (fun (R : List LX) v w' => ∃ (D : List LX) (p : List Bool × List Nat) (VA : Option Addr) (vc : Nat) (Ol : List (Nat × Obj)), cs.reverse = D ++ R ∧ v = .int .i64 (D.length : Nat) ∧ p.1.length = x.ln.length ∧ p.2.length + p.1.count false ≤ x.ln.length ∧ chainsX x.ln (cs.reverse.map LX.xc) p0 = chainsX x.ln (R.map LX.xc) p ∧ Row 3 1 (.slice VA p.2.length vc) p.2.length (natsV p.2) Ol ∧ St M w0 ((b3, .cells #[.slice (some ⟨zb, 0, none⟩) x.ln.length x.ln.length] 139) :: (zb, .cells (boolsV p.1).toArray 4) :: (b1, .cells #[ptm b] 48) :: (b2, .cells #[.slice VA p.2.length vc] 39) :: (b, .cells (([.slice hA x.h.cs.length hc, .slice hB x.h.tr.length hd, .slice pA P.length pc, .int .i64 (vars : Nat), .int .i64 (fuel : Nat), .int .i64 (x.goals : Nat), .int .i64 (every : Nat)] : List Value) ++ (Value.slice (some ⟨gl, 0, none⟩) x.ln.length lc :: ([.int .i64 x.first, .slice CA cs.length cc, .slice EA evs.length ec] : List Value))).toArray 57) :: (Ol ++ ([(gl, .cells (xlL x.ln ++ sp).toArray 81)] ++ (O2 ++ (O3 ++ H))))) F w') (fun R => R.length) (cs.reverse) ?_ (by conv=>lhs;whnf) ?_
 ·exact ⟨[], p0, VA1, vc1, Ol1, rfl, rfl, hn1, hn2, rfl, hrow, hS⟩
 clear hS hrow hn1 hn2
 rintro R _ w6 jv ⟨D, p, VA2, vc2, Ol2, hDR, rfl, hn1, hn2, hch, hrow, hS⟩ ih
 have hlen : cs.length = D.length + R.length := by
  have := congrArg List.length hDR
  simpa using this
 cases R with
 | nil =>
  simp only [List.length_nil] at hlen
  have e : liveX x = p.2 := by rw [hlv, hch]; rfl
  rw [e]
  refine ZJ ?_
  refine Zg ?_
  refine Zcy ?_
  refine goes_ret1 Tryz.func51 rfl (by conv=>lhs;whnf) ?_
  obtain ⟨F', h1, h2, h3⟩ := St.freezeRow (H := (b, mob P pA pc vars fuel every x ⟨hA, hc, hB, hd, some ⟨gl, 0, none⟩, lc, [(gl, .cells (xlL x.ln ++ sp).toArray 81)], cs, CA, cc, O2, evs, EA, ec, O3⟩) :: ([(gl, .cells (xlL x.ln ++ sp).toArray 81)] ++ (O2 ++ (O3 ++ H)))) hrow (hS.drop.drop.drop.drop.perm List.perm_middle.symm)
  exact ⟨VA2, vc2, F', rfl, fun φ h => h1 φ (hFF φ h), h2, _, F', fun _ h => h, hok.mono h1, h3⟩
 | cons c R =>
  simp only [List.length_cons] at hlen
  have hcm : c ∈ cs := List.mem_reverse.1 (by rw [hDR]; simp)
  have hca : c.at_ < x.ln.length := (hbd.ch c.xc (by rw [← hcs]; exact List.mem_map.2 ⟨c, hcm, rfl⟩)).1
  obtain ⟨k0, k1, k2, k3⟩ := xcL_get cs.reverse D.length c (by rw [hDR]; simp)
  obtain ⟨gc, sp2, rfl, rfl, hcap2⟩ := hrow2.some_ (by omega)
  have hcl : ∀ {M2 H' F'} w', St M2 w0 H' F' w' → (gc, Obj.cells (xcL cs.reverse ++ sp2).toArray 108) ∈ H' → _ := fun {M2 H' F'} w' (hS : St M2 w0 H' F' w') hm => And.intro (Row.cell (w := w') hrow2 hS (by intro p hp; obtain rfl := List.mem_singleton.1 hp; exact hm) rfl k0) (And.intro (Row.cell (w := w') hrow2 hS (by intro p hp; obtain rfl := List.mem_singleton.1 hp; exact hm) rfl k1) (And.intro (Row.cell (w := w') hrow2 hS (by intro p hp; obtain rfl := List.mem_singleton.1 hp; exact hm) rfl k2) (Row.cell (w := w') hrow2 hS (by intro p hp; obtain rfl := List.mem_singleton.1 hp; exact hm) rfl k3)))
  have hct2 : p.1.count false < x.ln.length + 1 := by have := List.count_le_length (a := false) (l := p.1); omega
  refine Zdm ?_
  refine Zec ?_
  refine Zz ?_
  clear hS
  intro b4 wx5 hS
  refine Zc ?_
  clear hS
  intro wx6 hS
  refine Zb ?_
  refine ZW ?_
  refine ZX ?_
  refine Zeb ?_
  refine Zd0 ?_
  refine Calls.mono (mchain_any (T := ([(gl, .cells (xlL x.ln ++ sp).toArray 81)] ++ ([(gc, .cells (xcL cs.reverse ++ sp2).toArray 108)] ++ (O3 ++ H)))) x.ln (c.at_ : Nat) p.1 p.2 (x.ln.length + 1) b3 zb b1 b2 VA2 vc2 Ol2 gl sp [.slice hA x.h.cs.length hc, .slice hB x.h.tr.length hd, .slice pA P.length pc, .int .i64 (vars : Nat), .int .i64 (fuel : Nat), .int .i64 (x.goals : Nat), .int .i64 (every : Nat)] [.int .i64 x.first, .slice (some ⟨gc, 0, none⟩) cs.length cc, .slice EA evs.length ec] lc _ hL hn1 (by omega) rfl (by simp) hLp (.inr ⟨by omega, by omega⟩) hct2 hn2 hrow hS.drop) ?_
  rintro _ w7 ⟨rfl, VA3, vc3, Ol3, hm1, hm2, hrow3, hS'⟩
  refine Za ?_
  replace hS := hS'
  clear hS'
  refine Zao ?_
  refine ih (R) _ _ _ ?_ ?_ (by conv=>lhs;whnf) (by kernel_rfl)
  ·simp
  ·exact ⟨D ++ [c], chainX x.ln (x.ln.length + 1) (c.at_ : Nat) p, VA3, vc3, Ol3, by rw [hDR]; simp, by simp, hm1, hm2, hch, hrow3, hS⟩
end
end Go.Proofs.YthliapbflkfdiabGreat
namespace Go.Proofs.YthliapbflkfdiabGreat
open Go.RowKit
set_option linter.unusedVariables false
set_option linter.unusedSimpArgs false
set_option maxRecDepth 100000
set_option maxHeartbeats 1000000
section
variable {P : Program} {n : Nat} {e : Env} {w : World} {ty : TypeId} {pos : String} {after : Array Edge} {dst : Option Nat} {x y : Operand} {t t2 : TypeId}
theorem run_remN {a c : Nat} (hx : ev n e x = .int .i64 (a : Nat)) (hy : ev n e y = .int .i64 (c : Nat)) (h0 : 0 < c) (ha : a ≤ 1099511627776) (hc : c ≤ 9223372036854775807) :
  (execOp (ev n e) ⟨dst, .binOp .rem t x y t2, ty, pos, after, none⟩).run P w = .ok (.value (.int .i64 ((a % c : Nat) : Int))) w := by
 have h1 : ¬ ((c : Nat) : Int) = 0 := by omega
 have h2 : Op.intDiv .rem .i64 ((a : Nat) : Int) ((c : Nat) : Int) = pure (.int .i64 ((a : Int).tmod (c : Int))) := by unfold Op.intDiv; rw [if_neg h1]
 have h3 : (execOp (ev n e) ⟨dst, .binOp .rem t x y t2, ty, pos, after, none⟩).run P w = ((Op.intDiv .rem .i64 ((a : Nat) : Int) ((c : Nat) : Int)).bind fun r => pure (.value r)).run P w := by simp only [execOp, hx, hy]; rfl
 rw [h3, h2, Int.tmod_eq_emod_of_nonneg (by omega), ← Int.natCast_emod]; rfl
end
structure MStepOk (x : XS) : Prop where
 bd : XBd x
 len : x.h.cs.length ≤ 65536
 tr : x.h.tr.length ≤ 1000000
 f0 : 0 ≤ x.first
 f1 : x.first < x.ln.length
 o : (lnk x.ln x.first.toNat).o ≤ x.ch.length
 goal : ∃ z, hat x.h.cs (lnk x.ln x.first.toNat).g = some z ∧ 0 ≤ z.n ∧ z.n ≤ 1000000 ∧ (builtB z.s.toList z.n.toNat = true → z.s.toList = [108, 101, 115, 115] ∨ z.s.toList = [97, 100, 100] → Leads x.h ((lnk x.ln x.first.toNat).g + 1) ∧ Leads x.h ((lnk x.ln x.first.toNat).g + 1 + 1))
section
variable {M : List Nat} {w0 : World} {H : List (Nat × Obj)} {F0 : List (World → Prop)} {b : Nat} {P : List LB} {pA : Option Addr} {pc vars fuel every : Nat}
theorem mstep_any (x : XS) (w : World) (hP : ∀ p ∈ P, p.ok ∧ GOk p.cl) (hPl : P.length ≤ 24) (hv8 : vars ≤ 8) (hbd : XBd x) (hev : x.ev.length < 12) (hfu : fuel ≤ 1000000) (hgo : x.goals ≤ fuel) (hevr : every ≤ 9223372036854775807)
  (hcol : x.first ≠ -1 → x.goals ≠ fuel → 0 < every → x.goals % every = 0 → ∀ w, XSt M w0 H F0 b P pA pc vars fuel every x w → Calls Tryz.prog 29 #[ptm b] w fun e w' => e = .returned (.tuple #[]) ∧ XSt M w0 H F0 b P pA pc vars fuel every (collX vars x) w')
  (ht : x.first ≠ -1 → x.goals ≠ fuel → MStepOk (maybeX vars every x) ∧ (maybeX vars every x).goals = x.goals) (hs : XSt M w0 H F0 b P pA pc vars fuel every x w) :
  Calls Tryz.prog 14 #[ptm b] w fun e w' => e = .returned (.int .i64 (stepX (P.map LB.cl) vars fuel every x).1) ∧ XSt M w0 H F0 b P pA pc vars fuel every (stepX (P.map LB.cl) vars fuel every x).2 w' := by
 obtain ⟨d, F, hFF, hok, hS⟩ := hs
 obtain ⟨hA, hc, hB, hd, LA, lc, O1, cs, CA, cc, O2, evs, EA, ec, O3⟩ := d
 refine goes_enter1 Tryz.func14 rfl Tryz.ntmps14 rfl ?_
 by_cases hf : x.first = -1
 ·have e : stepX (P.map LB.cl) vars fuel every x = answerX vars x := by unfold stepX; rw [if_pos hf]
  rw [e]
  refine Zba ?_
  refine Zbg ?_
  refine ZS ?_
  refine Zb0 ?_
  refine Zap ?_
  refine Calls.mono (manswer_any x _ hbd hv8 hev ⟨_, F, hFF, hok, hS⟩) ?_
  rintro _ w3 ⟨rfl, hq⟩
  refine ZB ?_
  refine ZeY ?_
  exact ⟨rfl, hq⟩
 by_cases hg : x.goals = fuel
 ·have e : stepX (P.map LB.cl) vars fuel every x = (3, x) := by unfold stepX; rw [if_neg hf, if_pos hg]
  rw [e]
  refine Zba ?_
  refine Zbg ?_
  refine ZS ?_
  refine ZaU ?_
  refine Zi ?_
  refine Zi ?_
  refine ZcZ ?_
  replace hS := hS.drew
  refine Z3 ?_
  refine Zc0 ?_
  refine ZG ?_
  refine Zdt ?_
  refine ZG ?_
  refine ZgD ?_
  refine ZM ?_
  refine ZI ?_
  refine ZeY ?_
  exact ⟨rfl, _, F, hFF, hok, hS⟩
 refine Zba ?_
 refine Zbg ?_
 refine ZS ?_
 refine ZaU ?_
 refine Zi ?_
 refine Zi ?_
 refine ZcZ ?_
 replace hS := hS.drew
 refine Z3 ?_
 refine Zc0 ?_
 refine ZG ?_
 refine Zdt ?_
 refine ZG ?_
 refine ZgD ?_
 refine ZM ?_
 refine Zv ?_
 refine Zi ?_
 refine Zi ?_
 refine goes_joinP2 (21 :: 22 :: 23 :: 24 :: 25 :: 26 :: 27 :: 28 :: 29 :: 30 :: 31 :: 32 :: 33 :: 34 :: 35 :: 36 :: 37 :: 38 :: 39 :: []) (fun w' => XSt M w0 H F0 b P pA pc vars fuel every (maybeX vars every x) w') ?_ ?_
 ·intro hk
  by_cases he : 0 < every
  ·by_cases hr : x.goals % every = 0
   ·have hm : maybeX vars every x = collX vars x := by unfold maybeX; rw [if_pos ⟨he, hr⟩]
    rw [hm] at hk
    refine ZeP ?_
    replace hS := hS.drew
    refine Z3 ?_
    refine ZdY ?_
    refine ZG ?_
    refine ZfG ?_
    refine Zq ?_
    refine ZbU ?_
    refine ZeZ ?_
    refine ord_readG rfl rfl rfl (fun _ hS => run_fieldAddr (off := 5) rfl rfl) rfl ?_
    refine Zda ?_
    refine ZbU ?_
    refine ZeZ ?_
    refine ord_readG rfl rfl rfl (fun _ hS => run_fieldAddr (off := 6) rfl rfl) rfl ?_
    refine Zda ?_
    refine ZgE ?_
    refine ZgF ?_
    refine Ze0 ?_
    refine ZM ?_
    refine Zt ?_
    refine ZW ?_
    refine Zl ?_
    refine Calls.mono (hcol hf hg he hr _ ⟨_, F, hFF, hok, hS⟩) ?_
    rintro _ w5 ⟨rfl, hq⟩
    refine Za ?_
    refine Zb ?_
    exact hk _ _ hq (by kernel_rfl)
   ·have hm : maybeX vars every x = x := by unfold maybeX; rw [if_neg (fun h => hr h.2)]
    rw [hm] at hk
    refine ZeP ?_
    replace hS := hS.drew
    refine Z3 ?_
    refine ZdY ?_
    refine ZG ?_
    refine ZfG ?_
    refine Zq ?_
    refine ZbU ?_
    refine ZeZ ?_
    refine ord_readG rfl rfl rfl (fun _ hS => run_fieldAddr (off := 5) rfl rfl) rfl ?_
    refine Zda ?_
    refine ZbU ?_
    refine ZeZ ?_
    refine ord_readG rfl rfl rfl (fun _ hS => run_fieldAddr (off := 6) rfl rfl) rfl ?_
    refine Zda ?_
    refine ZgE ?_
    refine ZgF ?_
    refine Ze0 ?_
    refine ZM ?_
    refine Zv ?_
    exact hk _ _ ⟨_, F, hFF, hok, hS⟩ (by kernel_rfl)
  ·have hm : maybeX vars every x = x := by unfold maybeX; rw [if_neg (fun h => he h.1)]
   rw [hm] at hk
   refine ZeP ?_
   replace hS := hS.drew
   refine Z3 ?_
   refine ZdY ?_
   refine ZG ?_
   refine ZfG ?_
   refine Zq ?_
   refine Zbi ?_
   refine Zbi ?_
   refine Zbi ?_
   refine Zbi ?_
   refine Zbi ?_
   refine Zbi ?_
   refine Zbi ?_
   refine Zbi ?_
   refine Zbi ?_
   refine Zbi ?_
   refine Ze0 ?_
   refine ZM ?_
   refine Zv ?_
   exact hk _ _ ⟨_, F, hFF, hok, hS⟩ (by kernel_rfl)
 clear hS hok hFF
 rintro jv w5 hq
 obtain ⟨ht1, hgt⟩ := ht hf hg
 have e0 : stepX (P.map LB.cl) vars fuel every x = (fun t : XS => if builtB (gcell t.h (lnk t.ln t.first.toNat).g).s.toList (gcell t.h (lnk t.ln t.first.toNat).g).n.toNat = true then builtX (lnk t.ln t.first.toNat) ⟨t.h, t.goals + 1, t.ln, (lnk t.ln t.first.toNat).nx, t.ch, t.ev⟩ else callX (P.map LB.cl) t.first.toNat ⟨t.h, t.goals + 1, t.ln, (lnk t.ln t.first.toNat).nx, t.ch, t.ev⟩) (maybeX vars every x) := by
  unfold stepX; rw [if_neg hf, if_neg hg]
 rw [e0]
 clear e0
 generalize maybeX vars every x = t at *
 obtain ⟨th, tg, tl, tf, tc, te⟩ := t
 obtain ⟨tbd, tlen, ttr, tf0, tf1, to_, z, hz, hz0, hz1, hzl⟩ := ht1
 dsimp only at *
 obtain ⟨k, rfl⟩ := Int.eq_ofNat_of_zero_le tf0
 rw [Int.toNat_natCast] at *
 have hgz : gcell th (lnk tl k).g = z := by unfold gcell; rw [hz]; rfl
 rw [hgz]
 obtain ⟨d2, F2, hF2, hok2, hS⟩ := hq
 obtain ⟨hA2, hc2, hB2, hd2, LA2, lc2, O12, cs2, CA2, cc2, O22, evs2, EA2, ec2, O32⟩ := d2
 obtain ⟨z0, z1, z2⟩ := hatS.1 hz
 obtain ⟨hb_, ho_, rfl⟩ : ∃ b o, hA2 = some ⟨b, o, none⟩ := (hS.und hok2.hh).1.some_ (by show 0 < th.cs.length; omega)
 have hcell : ∀ {H'} w', St M w0 H' F2 w' → _ := fun w' hS => ((hS.und hok2.hh).1).cell z2
 obtain ⟨l0, l1, l2⟩ := xlL_get tl k _ (lnk_get (by omega))
 have hrow1 : Row 81 3 (.slice LA2 tl.length lc2) tl.length (xlL tl) O12 := hok2.row1
 obtain ⟨gl, sp, rfl, rfl, hcap⟩ := hrow1.some_ (by omega)
 have hll : ∀ {M2 H' F'} w', St M2 w0 H' F' w' → (gl, Obj.cells (xlL tl ++ sp).toArray 81) ∈ H' → _ := fun {M2 H' F'} w' (hS : St M2 w0 H' F' w') hm => And.intro (Row.cell (w := w') hrow1 hS (by intro p hp; obtain rfl := List.mem_singleton.1 hp; exact hm) rfl l0) (And.intro (Row.cell (w := w') hrow1 hS (by intro p hp; obtain rfl := List.mem_singleton.1 hp; exact hm) rfl l1) (Row.cell (w := w') hrow1 hS (by intro p hp; obtain rfl := List.mem_singleton.1 hp; exact hm) rfl l2))
 have tln := tbd.ln
 dsimp only at tln
 dsimp only [mob, mcs] at hS
 refine ZK ?_
 refine Zbz ?_
 refine Ze1 ?_
 refine ZL ?_
 refine ZE ?_
 refine Zbz ?_
 refine ZA ?_
 clear hS
 intro wx1 hS
 refine Zb ?_
 refine ZK ?_
 refine Zbg ?_
 refine Ze1 ?_
 refine Zd ?_
 refine ZK ?_
 refine ZcR ?_
 refine Ze1 ?_
 refine Zf ?_
 refine Z6 ?_
 refine ZgG ?_
 refine Z8 ?_
 clear hS
 intro b1 wx2 hS
 refine Zc ?_
 clear hS
 intro wx3 hS
 refine Zcg ?_
 refine Z2 ?_
 refine Ze1 ?_
 refine ZE ?_
 refine Zbg ?_
 refine ZA ?_
 clear hS
 intro wx4 hS
 refine ZH ?_
 refine Zi ?_
 refine ZcZ ?_
 replace hS := hS.drew
 refine Z1 ?_
 refine Zah ?_
 refine ZgH ?_
 refine Zah ?_
 refine ZgH ?_
 refine Za2 ?_
 first
  | refine ord_read rfl (fun _ hS => run_loadN_own (k := 3) hS rfl rfl rfl (by first | exact .head | exact .tail .head | exact .tail (.tail .head) | exact .tail (.tail (.tail .head)) | exact .tail (.tail (.tail (.tail .head))) | exact .tail (.tail (.tail (.tail (.tail .head))))) (by repeat constructor)) rfl ?_
  | refine ord_read rfl (fun _ hS => run_loadN_own (k := 3) hS rfl rfl rfl (by first | exact .head | exact .tail .head | exact .tail (.tail .head) | exact .tail (.tail (.tail .head)) | exact .tail (.tail (.tail (.tail .head))) | exact .tail (.tail (.tail (.tail (.tail .head))))) (by assumption)) rfl ?_
  | refine ord_read rfl (fun _ hS => run_load3 rfl rfl rfl (by first | assumption | exact (hcell _ hS).1 | exact (hcell _ hS).2.1 | exact (hcell _ hS).2.2 | exact (hll _ hS (by simp)).1 | exact (hll _ hS (by simp)).2.1 | exact (hll _ hS (by simp)).2.2 | exact hS.cell0 (by assumption)) (by first | assumption | exact (hcell _ hS).1 | exact (hcell _ hS).2.1 | exact (hcell _ hS).2.2 | exact (hll _ hS (by simp)).1 | exact (hll _ hS (by simp)).2.1 | exact (hll _ hS (by simp)).2.2 | exact hS.cell0 (by assumption)) (by first | assumption | exact (hcell _ hS).1 | exact (hcell _ hS).2.1 | exact (hcell _ hS).2.2 | exact (hll _ hS (by simp)).1 | exact (hll _ hS (by simp)).2.1 | exact (hll _ hS (by simp)).2.2 | exact hS.cell0 (by assumption))) rfl ?_
 refine ZM ?_
 refine Zl ?_
 refine Calls.mono (misBuiltin_any z _ hz0 hz1 hS) ?_
 rintro _ w7 ⟨rfl, hS'⟩
 refine Za ?_
 replace hS := hS'
 clear hS'
 have hxs : XOk P pA pc ⟨th, tg + 1, tl, (lnk tl k).nx, tc, te⟩ ⟨some ⟨hb_, ho_, none⟩, hc2, hB2, hd2, some ⟨gl, 0, none⟩, lc2, [(gl, .cells (xlL tl ++ sp).toArray 81)], cs2, CA2, cc2, O22, evs2, EA2, ec2, O32⟩ F2 := ⟨hok2.hh, hok2.row1, hok2.hc, hok2.rc, hok2.row2, hok2.he, hok2.re, hok2.row3, hok2.rp⟩
 have hbu : XBd ⟨th, tg + 1, tl, (lnk tl k).nx, tc, te⟩ := ⟨tbd.ln, tbd.cn, tbd.ch⟩
 cases hb : builtB z.s.toList z.n.toNat with
 | true =>
  rw [if_pos rfl]
  refine Zt ?_
  refine Zu ?_
  refine ZgG ?_
  refine Zm ?_
  refine Calls.mono (mbuiltin_any ⟨th, tg + 1, tl, (lnk tl k).nx, tc, te⟩ (lnk tl k) z _ hbu hz to_ tlen (hzl hb) ⟨_, F2, hF2, hxs, hS.drop⟩) ?_
  rintro _ w8 ⟨rfl, hq⟩
  refine ZB ?_
  refine ZeY ?_
  exact ⟨rfl, hq⟩
 | false =>
  rw [if_neg (by decide)]
  refine Zv ?_
  refine ZaY ?_
  refine Calls.mono (mcall_any ⟨th, tg + 1, tl, (lnk tl k).nx, tc, te⟩ k z _ hbu (by show k < tl.length; omega) hz tlen ttr hP hPl ⟨_, F2, hF2, hxs, hS.drop⟩) ?_
  rintro _ w8 ⟨rfl, hq⟩
  refine ZB ?_
  refine ZeY ?_
  exact ⟨rfl, hq⟩
end
end Go.Proofs.YthliapbflkfdiabGreat
namespace Go.Proofs.YthliapbflkfdiabGreat
open Go.RowKit
set_option linter.unusedVariables false
set_option linter.unusedSimpArgs false
set_option maxRecDepth 100000
set_option maxHeartbeats 1000000
theorem St.freezeRw {M : List Nat} {w0 w : World} {H O : List (Nat × Obj)} {F : List (World → Prop)} {el sz len cap : Nat} {A : Option Addr} {xs : List Value} (hr : Rw el sz (.slice A len cap) len xs O) (hS : St M w0 (O ++ H) F w) :
  ∃ F', (∀ φ ∈ F, φ ∈ F') ∧ Und F' (Flat sz xs A len cap) ∧ St M w0 H F' w :=
 ⟨_, fun φ h => .tail _ h, Und.head, St.freezeR hr hS⟩
abbrev ncs (B : Value) (vars fuel every : Nat) : List Value := [.slice none 0 0, .slice none 0 0, B, .int .i64 (vars : Nat), .int .i64 (fuel : Nat), .int .i64 0, .int .i64 (every : Nat), .slice none 0 0, .int .i64 0, .slice none 0 0, .slice none 0 0]
section
variable {M : List Nat} {w0 : World} {H : List (Nat × Obj)} {F : List (World → Prop)}
theorem newMachine_any (X : List LC) (xA : Option Addr) (xc : Nat) (q : TA) (qA : Option Addr) (qc : Nat) (vars fuel every : Nat) (w : World) (hX : Und F (ClsR X xA xc)) (hq : Und F (ArA qA qc q)) (hXl : X.length ≤ 24) (hgq : (goalsQ (vars : Nat) q.ts).length ≤ 1000 ∧ ∀ g ∈ goalsQ (vars : Nat) q.ts, 0 ≤ g ∧ g ≤ 1000000) (hqn : q.len ≤ 9223372036854775807) (hqw : q.ts.wide) (hXw : ∀ c ∈ X, c.hd.ar.len ≤ 9223372036854775807 ∧ c.hd.ar.ts.wide ∧ c.bd.len ≤ 9223372036854775807 ∧ c.bd.ts.wide) (hpB : ∀ c ∈ X, cB c.cl = true) (hqB : qB vars q.ts = true) (hS : St M w0 H F w) :
  Calls Tryz.prog 13 #[.slice xA X.length xc, .slice qA q.len qc, .int .i64 (vars : Nat), .int .i64 (fuel : Nat), .int .i64 (every : Nat)] w fun e w' => ∃ (b : Nat) (P : List LB) (pA : Option Addr) (pc : Nat) (F1 : List (World → Prop)), e = .returned (.pointer (some ⟨b, 0, none⟩)) ∧ P.map LB.cl = X.map LC.cl ∧ (∀ φ ∈ F, φ ∈ F1) ∧ XSt M w0 H F1 b P pA pc vars fuel every (startX q.ts vars) w' := by
 refine goes_enter5 Tryz.func13 rfl Tryz.ntmps13 rfl ?_
 refine Zj ?_
 refine Zdg ?_
 refine lst_run (run_build (cells := [_, _, _, _, _, _, _, _, _, _, _]) (.cons (by conv=>lhs;whnf) (.cons (by conv=>lhs;whnf) (.cons (by conv=>lhs;whnf) .nil))) rfl) rfl ?_
 refine Zaq ?_
 clear hS
 intro b1 wx1 hS
 refine Zcf ?_
 refine goes_loop1 26 (27 :: 28 :: 29 :: 13 :: 31 :: 32 :: 30 :: 33 :: 34 :: 14 :: 15 :: 35 :: 36 :: 37 :: 38 :: 39 :: 40 :: 41 :: 42 :: 43 :: 44 :: 45 :: []) (fun (R : List LC) v w' => ∃ (D : List LC) (P : List LB) (pA : Option Addr) (pc : Nat) (O : List (Nat × Obj)) (F' : List (World → Prop)), X = D ++ R ∧ v = .int .i64 (D.length : Nat) ∧ P.map LB.cl = D.map LC.cl ∧ (∀ φ ∈ F, φ ∈ F') ∧ (∀ y ∈ P, Und F' (LBRd y)) ∧ Row 74 4 (.slice pA P.length pc) P.length (lbL P) O ∧ St M w0 ((b1, .cells (ncs (.slice pA P.length pc) vars fuel every).toArray 57) :: (O ++ H)) F' w') (fun R => R.length) (X) ?_ (by conv=>lhs;whnf) ?_
 ·exact ⟨[], [], none, 0, [], F, rfl, rfl, rfl, fun _ h => h, (fun _ h => by cases h), Row.nil_, hS⟩
 clear hS
 rintro R _ w2 jv ⟨D, P, pA, pc, O, F', hDR, rfl, hPD, hFF, hPR, hrow, hS⟩ ih
 have hlen : X.length = D.length + R.length := by rw [hDR]; simp
 have hPl : P.length = D.length := by have := congrArg List.length hPD; simpa using this
 have hX' := hX.mono hFF
 cases R with
 | nil =>
  simp only [List.length_nil] at hlen
  have eX : X = D := by rw [hDR]; simp
  refine ZJ ?_
  refine ZD ?_
  rw [← eX] at hPD
  obtain ⟨F3, h1, h2, h3⟩ := St.freezeLB (H := (b1, .cells (ncs (.slice pA P.length pc) vars fuel every).toArray 57) :: H) hrow hPR (hS.perm List.perm_middle.symm)
  replace hS := h3
  refine Zm ?_
  refine Calls.mono (queryC_ok (vars : Nat) q qA qc _ ((hq.mono hFF).mono h1) hqn hqw hqB hS) ?_
  rintro _ w5 ⟨A5, B5, c5, d5, O5, O6, rfl, hr5, hr6, hS'⟩
  refine Za ?_
  replace hS := hS'
  clear hS'
  obtain ⟨F6, k1, k2, k3⟩ := St.freezeRw hr5 hS
  obtain ⟨F7, j1, j2, j3⟩ := St.freezeRw hr6 k3
  replace hS := j3
  clear j3 k3 h3
  refine ZdM ?_
  clear hS
  intro b2 wx2 hS
  refine Zc ?_
  clear hS
  intro wx3 hS
  refine Z9 ?_
  refine Zdn ?_
  have hx0 : XOk P pA pc ⟨⟨[], []⟩, 0, [], 0, [], []⟩ ⟨none, 0, none, 0, none, 0, [], [], none, 0, [], [], none, 0, []⟩ F7 := ⟨fun _ _ => ⟨Flat.nil_ _ _ _, Flat.nil_ _ _ _⟩, Row.nil_, rfl, (fun _ h => by cases h), Row.nil_, rfl, (fun _ h => by cases h), Row.nil_, h2.mono fun φ h => j1 φ (k1 φ h)⟩
  refine Zm ?_
  refine Calls.mono (mload_any (F0 := F7) (H := (b2, _) :: H) ⟨⟨[], []⟩, 0, [], 0, [], []⟩ (blockQ (vars : Nat) q.ts) A5 c5 _ (k2.mono j1) ⟨_, F7, fun _ h => h, hx0, hS.swap⟩) ?_
  rintro _ w6 ⟨rfl, hq6⟩
  refine Za ?_
  clear hS hx0
  obtain ⟨d6, F8, hF8, hok8, hS⟩ := hq6
  obtain ⟨hA, hc, hB, hd, LA, lc, O1, cs, CA, cc, O2, evs, EA, ec, O3⟩ := d6
  replace hS := hS.perm (perm_deep (b1, _) [(b2, _)] O1 O2 O3 H).symm
  have hld := loadH_le ⟨[], []⟩ (blockQ (vars : Nat) q.ts)
  refine Zd ?_
  refine ZD ?_
  refine Z5 ?_
  refine Zf ?_
  refine Zea ?_
  refine Calls.mono (mbefore_any (H := (b2, _) :: H) (XS.setH ⟨⟨[], []⟩, 0, [], 0, [], []⟩ (loadH ⟨[], []⟩ (blockQ (vars : Nat) q.ts)).1) (goalsQ (vars : Nat) q.ts) B5 d5 (loadH ⟨[], []⟩ (blockQ (vars : Nat) q.ts)).2.1 0 (-1) _ _ _ _ _ _ _ cs CA cc O2 evs EA ec O3 _ (by omega) (fun g hg => by have := hgq.2 g hg; omega) (by have := hgq.1; show 0 + _ ≤ _; omega) (j2.mono hF8) hok8 (hS.perm (perm_deep (b1, _) [(b2, _)] O1 O2 O3 H))) ?_
  rintro _ w7 ⟨rfl, LA9, lc9, O9, hok9, hS'⟩
  refine Za ?_
  replace hS := hS'
  clear hS'
  refine ZE ?_
  refine Zbg ?_
  refine ZA ?_
  clear hS
  intro wx4 hS
  refine Zb ?_
  refine Zax ?_
  refine goes_ret1 Tryz.func13 rfl (by conv=>lhs;whnf) ?_
  exact ⟨b1, P, pA, pc, F8, rfl, hPD, fun φ h => hF8 φ (j1 φ (k1 φ (h1 φ (hFF φ h)))), ⟨hA, hc, hB, hd, LA9, lc9, O9, cs, CA, cc, O2, evs, EA, ec, O3⟩, F8, fun _ h => h, ⟨hok9.hh, hok9.row1, hok9.hc, hok9.rc, hok9.row2, hok9.he, hok9.re, hok9.row3, hok9.rp⟩, (hS.perm (perm_deep (b1, _) [(b2, _)] O9 O2 O3 H).symm).drop⟩
 | cons c R =>
  simp only [List.length_cons] at hlen
  rw [hDR] at hX'
  obtain ⟨b6, o6, rfl⟩ := (hS.und hX').some_ (by simp; omega)
  obtain ⟨q0, q1, q2, q3, q4, q5⟩ := (hS.und hX').cells
  refine Zdd ?_
  refine Zex ?_
  refine ZcY ?_
  refine ZdW ?_
  clear hS
  intro b2 wx2 hS
  refine Zc ?_
  clear hS
  intro wx3 hS
  refine Zb6 ?_
  refine ZcY ?_
  have hfl : Und F' (LCRd c) := hX'.imp fun w h => h.2.2 c (by simp)
  obtain ⟨w1, w2_, w3_, w4_⟩ := hXw c (by rw [hDR]; simp)
  refine Zl ?_
  refine Calls.mono (clauseC_ok c.hd.k c.hd.n c.vars c.hd.s c.hd.ar c.bd c.hd.A c.bA c.hd.c c.bc _ (hfl.imp fun w h => h.1) (hfl.imp fun w h => h.2) w1 w2_ w3_ w4_ (hpB c (by rw [hDR]; simp)) hS) ?_
  rintro _ w5 ⟨A5, B5, c5, d5, O5, O6, rfl, hr5, hr6, hS'⟩
  refine Za ?_
  replace hS := hS'
  clear hS'
  obtain ⟨F6, k1, k2, k3⟩ := St.freezeRw hr5 hS
  obtain ⟨F7, j1, j2, j3⟩ := St.freezeRw hr6 k3
  replace hS := j3.perm (.swap _ _ _)
  clear j3 k3
  refine ZdM ?_
  clear hS
  intro b3 wx4 hS
  refine Zc ?_
  clear hS
  intro wx5 hS
  refine Zd ?_
  refine ZgA ?_
  replace hS := hS.drew
  refine Zb9 ?_
  refine ZcQ ?_
  refine ZG ?_
  refine ZcU ?_
  refine Zr ?_
  refine Zc7 ?_
  clear hS
  intro b4 wx6 hS
  refine Zd5 ?_
  refine Zr ?_
  refine lst_app (sz := 4) (bts := 64) hS (by conv=>lhs;whnf) rfl rfl rfl rfl (hrow) rfl rfl (.cons _ (List.perm_append_comm_assoc [_, _, _] O H)) (by omega) (by omega) rfl ?_
  clear hS
  intro v8 O8 w8 hrow8 hS
  obtain ⟨A8, c8, rfl⟩ := hrow8.form
  replace hS := hS.perm (List.perm_append_comm_assoc O8 [_, _, _] H)
  refine Zd5 ?_
  refine Zam ?_
  refine ZcQ ?_
  refine ZaD ?_
  clear hS
  intro wx7 hS
  refine Zao ?_
  refine ih (R) _ _ _ ?_ ?_ (by conv=>lhs;whnf) (by kernel_rfl)
  ·simp
  ·refine ⟨D ++ [c], P ++ [⟨c.cl, A5, c5, B5, d5⟩], A8, c8, O8, F7, by rw [hDR]; simp, by simp, by simp [hPD], fun φ h => j1 φ (k1 φ (hFF φ h)), ?_, ?_, ?_⟩
   ·intro y hy
    rcases List.mem_append.1 hy with hy | hy
    ·exact (hPR y hy).mono fun φ h => j1 φ (k1 φ h)
    ·obtain rfl : y = ⟨c.cl, A5, c5, B5, d5⟩ := by simpa using hy
     exact fun w hw => ⟨(k2.mono j1) w hw, j2 w hw⟩
   ·rw [lbL_app, List.length_append]; exact hrow8
   ·rw [List.length_append]; exact hS.drop.swap.drop
end
end Go.Proofs.YthliapbflkfdiabGreat
namespace Go.Proofs.YthliapbflkfdiabGreat
open Go.RowKit
set_option linter.unusedVariables false
set_option linter.unusedSimpArgs false
set_option maxRecDepth 100000
set_option maxHeartbeats 1000000
section
variable {M : List Nat} {w0 : World} {H : List (Nat × Obj)} {F : List (World → Prop)}
theorem runX_succ (p : List Cl) (vars fuel every n : Nat) (s : XS) : runX p vars fuel every (n + 1) s = if (stepX p vars fuel every s).1 = 0 then runX p vars fuel every n (stepX p vars fuel every s).2 else evsOf (stepX p vars fuel every s).2.ev ++ [((stepX p vars fuel every s).1, .nil)] := rfl
theorem rall_any (Iv : Nat → XS → Prop) (X : List LC) (xA : Option Addr) (xc : Nat) (q : TA) (qA : Option Addr) (qc : Nat) (vars fuel every : Int) (w : World) (hX : Und F (ClsR X xA xc)) (hq : Und F (ArA qA qc q))
  (hgp : ∀ w', St M w0 H F w' → Calls Tryz.prog 9 #[.slice xA X.length xc] w' fun e w'' => e = .returned (.bool (pB (X.map LC.cl))) ∧ Below w'.heap.size w' w'')
  (hgq : ∀ w', St M w0 H F w' → Calls Tryz.prog 10 #[.slice qA q.len qc, .int .i64 vars] w' fun e w'' => e = .returned (.bool (qB vars q.ts)) ∧ Below w'.heap.size w' w'')
  (hnew : pB (X.map LC.cl) = true → qB vars q.ts = true → 0 ≤ fuel → fuel ≤ 150 → 0 ≤ every → ∀ w', St M w0 H F w' → Calls Tryz.prog 13 #[.slice xA X.length xc, .slice qA q.len qc, .int .i64 (vars.toNat : Nat), .int .i64 (fuel.toNat : Nat), .int .i64 (every.toNat : Nat)] w' fun e w'' => ∃ (b : Nat) (P : List LB) (pA : Option Addr) (pc : Nat) (F1 : List (World → Prop)), e = .returned (.pointer (some ⟨b, 0, none⟩)) ∧ P.map LB.cl = X.map LC.cl ∧ (∀ φ ∈ F, φ ∈ F1) ∧ XSt M w0 H F1 b P pA pc vars.toNat fuel.toNat every.toNat (startX q.ts vars) w'')
  (h0 : pB (X.map LC.cl) = true → qB vars q.ts = true → 0 ≤ fuel → fuel ≤ 150 → 0 ≤ every → Iv 4000 (startX q.ts vars))
  (hst : ∀ (b : Nat) (P : List LB) (pA : Option Addr) (pc : Nat) (F1 : List (World → Prop)), P.map LB.cl = X.map LC.cl → ∀ n s, Iv n s → ∀ w', XSt M w0 H F1 b P pA pc vars.toNat fuel.toNat every.toNat s w' → Calls Tryz.prog 14 #[ptm b] w' fun e w'' => e = .returned (.int .i64 (stepX (X.map LC.cl) vars.toNat fuel.toNat every.toNat s).1) ∧ XSt M w0 H F1 b P pA pc vars.toNat fuel.toNat every.toNat (stepX (X.map LC.cl) vars.toNat fuel.toNat every.toNat s).2 w'')
  (hnx : ∀ n s, Iv n s → ∃ n', n = n' + 1 ∧ (stepX (X.map LC.cl) vars.toNat fuel.toNat every.toNat s).2.ev.length ≤ 12 ∧ ((stepX (X.map LC.cl) vars.toNat fuel.toNat every.toNat s).1 = 0 → Iv n' (stepX (X.map LC.cl) vars.toNat fuel.toNat every.toNat s).2))
  (hS : St M w0 H F w) :
  Calls Tryz.prog 5 #[.slice xA X.length xc, .slice qA q.len qc, .int .i64 vars, .int .i64 fuel, .int .i64 every] w fun e w' => ∃ (A : Option Addr) (c : Nat) (L : List KE) (F' : List (World → Prop)), e = .returned (.tuple #[.slice A L.length c, .int .i64 (allX (X.map LC.cl) q.ts vars fuel every).2]) ∧ L.map KE.ev = (allX (X.map LC.cl) q.ts vars fuel every).1 ∧ (∀ φ ∈ F, φ ∈ F') ∧ Und F' (KER L A c) ∧ St M w0 H F' w' := by
 have hnil : ∀ w : World, KER [] none 0 w := fun w => ⟨Nat.le_refl _, fun h => by simp at h, fun x hx => by cases hx⟩
 have hall : allX (X.map LC.cl) q.ts vars fuel every = if pB (X.map LC.cl) = false ∨ qB vars q.ts = false then ([], 1) else if fuel < 0 ∨ 150 < fuel ∨ every < 0 then ([], 2) else (runX (X.map LC.cl) vars.toNat fuel.toNat every.toNat 4000 (startX q.ts vars), 0) := rfl
 refine goes_enter5 Tryz.func5 rfl Tryz.ntmps5 rfl ?_
 refine Zg ?_
 refine Zaz ?_
 refine Zl ?_
 refine Calls.mono (hgp _ hS) ?_
 rintro _ w3 ⟨rfl, hb3⟩
 refine Za ?_
 replace hS := hS.grow hb3
 cases hpB : pB (X.map LC.cl) with
 | false =>
  rw [if_pos (.inl hpB)] at hall
  rw [hall]
  refine ZY ?_
  refine Zbk ?_
  refine ZbN ?_
  refine Zdb ?_
  exact ⟨none, 0, [], F, rfl, rfl, fun _ h => h, fun w _ => hnil w, hS⟩
 | true =>
 refine ZdE ?_
 refine Zp ?_
 refine Zm ?_
 refine Calls.mono (hgq _ hS) ?_
 rintro _ w4 ⟨rfl, hb4⟩
 refine Za ?_
 replace hS := hS.grow hb4
 cases hqB : qB vars q.ts with
 | false =>
  rw [if_pos (.inr hqB)] at hall
  rw [hall]
  refine Zcv ?_
  refine ZbN ?_
  refine Zdb ?_
  exact ⟨none, 0, [], F, rfl, rfl, fun _ h => h, fun w _ => hnil w, hS⟩
 | true =>
 rw [if_neg (by rw [hpB, hqB]; simp)] at hall
 by_cases hf1 : fuel < 0
 ·rw [if_pos (.inl hf1)] at hall
  rw [hall]
  refine ZcO ?_
  refine ZaI ?_
  refine Zx ?_
  refine ZaI ?_
  refine ZbN ?_
  refine Zdb ?_
  exact ⟨none, 0, [], F, rfl, rfl, fun _ h => h, fun w _ => hnil w, hS⟩
 by_cases hf2 : 150 < fuel
 ·rw [if_pos (.inr (.inl hf2))] at hall
  rw [hall]
  refine ZcO ?_
  refine ZbJ ?_
  refine Zx ?_
  refine ZaI ?_
  refine ZbN ?_
  refine Zdb ?_
  exact ⟨none, 0, [], F, rfl, rfl, fun _ h => h, fun w _ => hnil w, hS⟩
 by_cases hf3 : every < 0
 ·rw [if_pos (.inr (.inr hf3))] at hall
  rw [hall]
  refine ZcO ?_
  refine ZbJ ?_
  refine Zx ?_
  refine ZP ?_
  refine Zaa ?_
  refine ZbN ?_
  refine Zdb ?_
  exact ⟨none, 0, [], F, rfl, rfl, fun _ h => h, fun w _ => hnil w, hS⟩
 rw [if_neg (by omega)] at hall
 have hqB2 := hqB
 simp only [qB, Bool.and_eq_true, decide_eq_true_eq] at hqB2
 obtain ⟨vars, rfl⟩ : ∃ v : Nat, vars = v := ⟨vars.toNat, by omega⟩
 obtain ⟨fuel, rfl⟩ : ∃ f : Nat, fuel = f := ⟨fuel.toNat, by omega⟩
 obtain ⟨every, rfl⟩ : ∃ f : Nat, every = f := ⟨every.toNat, by omega⟩
 have hI := h0 hpB hqB (by omega) (by omega) (by omega)
 replace hnew := hnew hpB hqB (by omega) (by omega) (by omega)
 simp only [Int.toNat_natCast] at hall hnew hst hnx
 rw [hall]
 generalize hR0 : runX (X.map LC.cl) vars fuel every 4000 (startX q.ts vars) = R0
 refine ZcO ?_
 refine ZbJ ?_
 refine Zx ?_
 refine ZP ?_
 refine Zaa ?_
 refine Zay ?_
 refine ZD ?_
 refine ZO ?_
 refine Zf ?_
 refine Zea ?_
 refine Calls.mono (hnew _ hS) ?_
 rintro _ w5 ⟨b, P, pA, pc, F1, rfl, hPX, hF1, hs⟩
 refine Za ?_
 clear hS
 refine Zd ?_
 refine Zj ?_
 refine ZaS ?_
 refine goes_loop1 13 (39 :: 40 :: 41 :: 42 :: []) (fun (x : Nat × XS × Int) v w' => v = .int .i64 x.2.2 ∧ XSt M w0 H F1 b P pA pc vars fuel every x.2.1 w' ∧ (x.2.2 = 0 → Iv x.1 x.2.1 ∧ R0 = runX (X.map LC.cl) vars fuel every x.1 x.2.1) ∧ (x.2.2 ≠ 0 → R0 = evsOf x.2.1.ev ++ [(x.2.2, .nil)] ∧ x.2.1.ev.length ≤ 12)) (fun x => if x.2.2 = 0 then x.1 + 1 else 0) ((4000, startX q.ts vars, 0)) ?_ (by conv=>lhs;whnf) ?_
 ·exact ⟨rfl, hs, fun _ => ⟨hI, hR0.symm⟩, fun h => absurd rfl h⟩
 clear hs
 rintro ⟨n, s, k⟩ _ w6 jv ⟨rfl, hs, h1, h2⟩ ih
 dsimp only at hs h1 h2
 by_cases hk : k = 0
 ·subst hk
  obtain ⟨hI, hrun⟩ := h1 rfl
  obtain ⟨n, rfl, hev, hgo⟩ := hnx n s hI
  rw [runX_succ] at hrun
  refine ZC ?_
  refine Zb0 ?_
  refine Zbu ?_
  refine ZaP ?_
  refine ZW ?_
  refine Zl ?_
  refine Calls.mono (hst b P pA pc F1 hPX _ s hI _ hs) ?_
  rintro _ w7 ⟨rfl, hs'⟩
  refine ZB ?_
  refine Zbv ?_
  refine ih ((n, (stepX (X.map LC.cl) vars fuel every s).2, (stepX (X.map LC.cl) vars fuel every s).1)) _ _ _ ?_ ?_ (by conv=>lhs;whnf) (by kernel_rfl)
  ·dsimp only
   rw [if_pos rfl]
   split <;> omega
  ·refine ⟨rfl, hs', fun h => ⟨hgo h, ?_⟩, fun h => ⟨?_, hev⟩⟩
   ·rw [hrun, if_pos h]
   ·rw [hrun, if_neg h]
 ·obtain ⟨h3, hev⟩ := h2 hk
  obtain ⟨d, F2, hFF, hok, hS⟩ := hs
  obtain ⟨hA, hc, hB, hd, LA, lc, O1, cs, CA, cc, O2, evs, EA, ec, O3⟩ := d
  have hrow3 : Row 47 2 (.slice EA evs.length ec) evs.length (evL evs) O3 := hok.row3
  have hle : evs.length = s.ev.length := by
   have : evs.map (fun e => e.T.ts) = s.ev := hok.he
   rw [← this]; simp
  have hre : ∀ e ∈ evs, Und F2 (ArA e.A e.c e.T) := hok.re
  refine ZC ?_
  refine ZF ?_
  refine Za7 ?_
  refine ZK ?_
  refine lst_run (run_fieldAddr (off := 10) rfl rfl) rfl ?_
  refine Za8 ?_
  refine Zew ?_
  refine ZeT ?_
  clear hS
  intro b1 wx1 hS
  refine lst_app (sz := 2) (bts := 32) hS (by conv=>lhs;whnf) rfl rfl rfl rfl (hrow3) rfl rfl (.cons _ (perm_out [_] _ _ _ _)) (by omega) (by omega) rfl ?_
  clear hS
  intro v8 O8 w9 hrow8 hS
  obtain ⟨A8, c8, rfl⟩ := hrow8.form
  refine Zk ?_
  refine Zdb ?_
  have hlk : evL evs ++ [.int .i64 k, .slice none 0 0] = keL (evs.map (fun (e : LE) => (⟨1, e.A, e.c, e.T⟩ : KE)) ++ [(⟨k, none, 0, .nil⟩ : KE)]) := by rw [keL_app, evL_ke]; rfl
  have hll : (evs.map (fun (e : LE) => (⟨1, e.A, e.c, e.T⟩ : KE)) ++ [(⟨k, none, 0, .nil⟩ : KE)]).length = evs.length + 1 := by simp
  obtain ⟨F3, g1, g2, g3⟩ := St.freezeK (L := List.map (fun (e : LE) => (⟨1, e.A, e.c, e.T⟩ : KE)) evs ++ [(⟨k, none, 0, .nil⟩ : KE)]) (A := A8) (c := c8) (by rw [hll, ← hlk]; exact hrow8) (fun x hx => by
   rcases List.mem_append.1 hx with hx | hx
   ·obtain ⟨e, he, rfl⟩ := List.mem_map.1 hx
    exact hre e he
   ·obtain rfl : x = ⟨k, none, 0, .nil⟩ := by simpa using hx
    exact fun w _ => ⟨Nat.le_refl _, fun h => by simp [TA.len] at h⟩) hS
  refine ⟨A8, c8, _, F3, by rw [hll], ?_, fun φ h => g1 φ (hFF φ (hF1 φ h)), g2, St.dropL (L := O2) (St.dropL (L := O1) g3.drop)⟩
  rw [h3, ← show evs.map (fun e => e.T.ts) = s.ev from hok.he]
  simp [evsOf, KE.ev, TA.ts]
end
end Go.Proofs.YthliapbflkfdiabGreat
namespace Go.Proofs.YthliapbflkfdiabGreat
open Go.RowKit
set_option linter.unusedVariables false
set_option linter.unusedSimpArgs false
theorem perm_deepL {α : Type} (L O1 O2 O3 H : List α) : (L ++ (O1 ++ (O2 ++ (O3 ++ H)))).Perm (O1 ++ (O2 ++ (O3 ++ (L ++ H)))) :=
 (List.perm_append_comm_assoc L O1 _).trans (.append_left O1 ((List.perm_append_comm_assoc L O2 _).trans (.append_left O2 (List.perm_append_comm_assoc L O3 H))))
theorem setG_consS (x : XL) (r : List XL) (i : Nat) (g : Int) : setG (x :: r) (i + 1) g = x :: setG r i g := rfl
theorem xlL_set : ∀ (L : List XL) (i : Nat) (g : Int), i < L.length → xlL (setG L i g) = (xlL L).set (i * 3) (.int .i64 g)
 | [], i, g, h => by simp at h
 | x :: r, 0, g, h => rfl
 | x :: r, i + 1, g, h => by
  rw [setG_consS]
  simp only [xlL]
  rw [xlL_set r i g (by simpa using h), show (i + 1) * 3 = i * 3 + 3 by omega]
  rfl
theorem xlL_put (L : List XL) (sp : List Value) (i : Nat) (g : Int) (h : i < L.length) : Put (xlL L ++ sp) (i * 3) (.int .i64 g) (xlL (setG L i g) ++ sp) := by
 have := put_of (l := xlL L ++ sp) (v := .int .i64 g) (i := i * 3) (by rw [List.length_append, xlL_len]; omega)
 rwa [List.set_append_left _ _ (by rw [xlL_len]; omega), ← xlL_set L i g h] at this
def LX.cells' (c : LX) (t : Nat) : LX := ⟨c.at_, c.cls, c.A, c.c, t, c.bound⟩
def LX.bound' (c : LX) (t : Nat) : LX := ⟨c.at_, c.cls, c.A, c.c, c.cells, t⟩
theorem xcL_set2 : ∀ (L : List LX) (i : Nat) (t : Nat), i < L.length → xcL (L.modify i fun c => c.cells' t) = (xcL L).set (i * 4 + 2) (.int .i64 (t : Nat))
 | [], i, g, h => by simp at h
 | x :: r, 0, g, h => rfl
 | x :: r, i + 1, g, h => by
  rw [List.modify_succ_cons]
  simp only [xcL]
  rw [xcL_set2 r i g (by simpa using h), show (i + 1) * 4 + 2 = i * 4 + 2 + 4 by omega]
  rfl
theorem xcL_set3 : ∀ (L : List LX) (i : Nat) (t : Nat), i < L.length → xcL (L.modify i fun c => c.bound' t) = (xcL L).set (i * 4 + 3) (.int .i64 (t : Nat))
 | [], i, g, h => by simp at h
 | x :: r, 0, g, h => rfl
 | x :: r, i + 1, g, h => by
  rw [List.modify_succ_cons]
  simp only [xcL]
  rw [xcL_set3 r i g (by simpa using h), show (i + 1) * 4 + 3 = i * 4 + 3 + 4 by omega]
  rfl
theorem xcL_put2 (L : List LX) (sp : List Value) (i : Nat) (t : Nat) (h : i < L.length) : Put (xcL L ++ sp) (i * 4 + 2) (.int .i64 (t : Nat)) (xcL (L.modify i fun c => c.cells' t) ++ sp) := by
 have := put_of (l := xcL L ++ sp) (v := .int .i64 (t : Nat)) (i := i * 4 + 2) (by rw [List.length_append, xcL_len]; omega)
 rwa [List.set_append_left _ _ (by rw [xcL_len]; omega), ← xcL_set2 L i t h] at this
theorem xcL_put3 (L : List LX) (sp : List Value) (i : Nat) (t : Nat) (h : i < L.length) : Put (xcL L ++ sp) (i * 4 + 3) (.int .i64 (t : Nat)) (xcL (L.modify i fun c => c.bound' t) ++ sp) := by
 have := put_of (l := xcL L ++ sp) (v := .int .i64 (t : Nat)) (i := i * 4 + 3) (by rw [List.length_append, xcL_len]; omega)
 rwa [List.set_append_left _ _ (by rw [xcL_len]; omega), ← xcL_set3 L i t h] at this
end Go.Proofs.YthliapbflkfdiabGreat
