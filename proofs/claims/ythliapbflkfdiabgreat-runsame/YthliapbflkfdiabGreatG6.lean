/-
  Unification, walked: occurs, assign, unify.
-/
import Derived.Test.YthliapbflkfdiabGreatZ0
import Derived.Test.YthliapbflkfdiabGreatG5
import Derived.Test.YthliapbflkfdiabGreatG4
namespace Go.Proofs.YthliapbflkfdiabGreat
open Go.RowKit
set_option linter.unusedVariables false
set_option linter.unusedSimpArgs false
set_option maxRecDepth 100000
set_option maxHeartbeats 1000000
theorem look_at {M : List Nat} {w0 : World} {H H0 : List (Nat × Obj)} {F : List (World → Prop)} {b mb clk : Nat} {es : Array MapEntry} {TR : Value} {rest : List Value} {O : List (Nat × Obj)} {G : List GB} (t : LT) (w : World) (hB : BM G 3 es TR O F) (hA : Und F (LRd t)) (hS : St M w0 H0 F w) (hP : H0.Perm ((b, sob mb TR rest) :: (mb, .map es clk) :: H)) :
  Calls Tryz.prog 66 #[pt b, tv t] w fun e w' => ∃ u : LT, e = .returned (tv u) ∧ u.tm = lookM (bnd G) t.tm ∧ Und F (LRd u) ∧ St M w0 H0 F w' :=
 (slook_any t w hB hA (hS.perm hP)).mono fun e w' ⟨u, h1, h2, h3, h4⟩ => ⟨u, h1, h2, h3, h4.perm hP.symm⟩
def SOccSaid (f : Nat) : Prop := ∀ (M : List Nat) (w0 : World) (H : List (Nat × Obj)) (F : List (World → Prop)) (b mb clk ub : Nat) (es : Array MapEntry) (TR : Value) (rest : List Value) (O : List (Nat × Obj)) (G : List GB) (v : Int) (t : LT) (k : Nat) (w : World),
 BM G 3 es TR O F → SmB (bnd G) → t.tm.ar.nodes ≤ 24 → Und F (LRd t) → 400 ≤ k + f → k ≤ 20000 → f ≤ 401 → St M w0 ((ub, suob b k) :: (b, sob mb TR rest) :: (mb, .map es clk) :: H) F w →
  Calls Tryz.prog 104 #[pt ub, .int .i64 v, tv t] w fun e w' => e = .returned (.bool (occM (bnd G) v f t.tm k).1) ∧ St M w0 ((ub, suob b (occM (bnd G) v f t.tm k).2) :: (b, sob mb TR rest) :: (mb, .map es clk) :: H) F w'
theorem socc_step (f : Nat) (ih : ∀ f', f = f' + 1 → SOccSaid f') : SOccSaid f := by
 intro M w0 H F b mb clk ub es TR rest O G v t k w hB hSm ht hA hkf hk hf hS
 refine goes_enter3 Tryz.func104 rfl Tryz.ntmps104 rfl ?_
 refine Ze ?_
 clear hS
 intro b1 wx1 hS
 refine Zd ?_
 refine ZK ?_
 refine Zw ?_
 refine ZS ?_
 refine ZL ?_
 refine ZaB ?_
 refine ZA ?_
 clear hS
 intro wx2 hS
 refine Zb ?_
 refine ZC ?_
 replace hS : St M w0 ((b1, tob t) :: (ub, suob b (k + 1)) :: (b, sob mb TR rest) :: (mb, .map es clk) :: H) F _ := hS
 refine Zl ?_
 refine Calls.mono (large_any ub (k + 1) _ hS.swap) ?_
 rintro _ w3 ⟨rfl, hS'⟩
 refine Za ?_
 replace hS := hS'
 clear hS'
 refine Zb ?_
 replace hS := hS.swap
 by_cases hk4 : 400 < k + 1
 ·have e : occM (bnd G) v f t.tm k = (false, k + 1) := by
   cases f with
   | zero => rfl
   | succ f => simp only [occM]; rw [if_pos hk4]
  rw [e, decide_eq_true hk4]
  refine Zbt ?_
  refine Zj ?_
  refine ZdV ?_
  exact ⟨rfl, hS.drop⟩
 ·obtain ⟨f, rfl⟩ : ∃ f', f = f' + 1 := ⟨f - 1, by omega⟩
  have ih := ih f rfl
  rw [decide_eq_false hk4]
  simp only [occM]
  rw [if_neg hk4]
  refine ZbV ?_
  refine Zi ?_
  refine goes_draw (St _ _ _ _) 6 ((0, true) :: (1, true) :: (2, true) :: (3, true) :: (4, true) :: (5, false) :: []) (by kernel_rfl) (by kernel_rfl) (hS.drew) ?_
  replace hS := hS.drew
  refine Z1 ?_
  refine ZG ?_
  refine ZcU ?_
  refine ZbE ?_
  refine Calls.mono (look_at t _ hB hA hS (List.perm_append_comm_assoc [_, _] [_, _] _)) ?_
  rintro _ w4 ⟨u, rfl, hu, hru, hS'⟩
  refine Za ?_
  replace hS := hS'
  clear hS'
  have hun : u.tm.ar.nodes ≤ 24 := by rw [hu]; exact look_small hSm ht
  rw [← hu]
  by_cases hk0 : u.k = 0
  ·rw [if_pos (show u.tm.k = 0 from hk0)]
   by_cases hv : u.n = v
   ·rw [decide_eq_true (show u.tm.n = v from hv)]
    refine ZbF ?_
    clear hS
    intro wx3 hS
    refine ZbG ?_
    refine ZF ?_
    refine Zav ?_
    refine Zw ?_
    refine Za8 ?_
    refine Zb1 ?_
    refine ZdV ?_
    exact ⟨rfl, hS.drop⟩
   ·rw [decide_eq_false (show ¬ u.tm.n = v from hv)]
    refine ZbF ?_
    clear hS
    intro wx3 hS
    refine ZbG ?_
    refine ZF ?_
    refine Zav ?_
    refine Zw ?_
    refine Za8 ?_
    refine Zb1 ?_
    refine ZdV ?_
    exact ⟨rfl, hS.drop⟩
  ·rw [if_neg (show ¬ u.tm.k = 0 from hk0)]
   refine ZbF ?_
   clear hS
   intro wx3 hS
   refine ZbG ?_
   refine ZaU ?_
   refine ZaM ?_
   refine Z5 ?_
   refine ZQ ?_
   have hlu := u.ar.ts.length_le
   rw [TA.len_ts] at hlu
   have hun' : u.ar.ts.nodes ≤ 24 := hun
   refine goes_loop1 34 (35 :: 36 :: 37 :: 8 :: 38 :: 39 :: 40 :: 41 :: 6 :: 42 :: []) (fun (R : TA) x w' => ∃ (D : TA) (kk : Nat), u.ar = D.app R ∧ x = .int .i64 (D.len : Nat) ∧ kk ≤ max (k + 1) (401 + 24 * f) + D.len ∧ k + 1 ≤ kk ∧ anyL (occM (bnd G) v f) u.tm.ar (k + 1) = anyL (occM (bnd G) v f) R.ts kk ∧ St M w0 ((b1, tob u) :: (ub, suob b kk) :: (b, sob mb TR rest) :: (mb, .map es clk) :: H) F w') (fun R => R.len) (u.ar) ?_ (by conv=>lhs;whnf) ?_
   ·exact ⟨.nil, k + 1, rfl, rfl, by simp [TA.len]; omega, Nat.le_refl _, rfl, hS⟩
   clear hS
   rintro R _ w5 jv ⟨D, kk, hDR, rfl, hkk, hkk2, hany, hS⟩ ihl
   have hlen : u.ar.len = D.len + R.len := by rw [hDR, TA.len_app]
   cases R with
   | nil =>
    simp only [TA.len] at hlen
    refine Zb2 ?_
    refine ZdV ?_
    rw [hany]
    exact ⟨rfl, hS.drop⟩
   | cons k1 n1 s1 A1 c1 a1 r1 =>
    simp only [TA.len] at hlen
    have hsub : Und F (LRd ⟨k1, n1, s1, A1, c1, a1⟩) := fun w hw => by
     have := hru w hw
     unfold LRd at this
     rw [hDR] at this
     exact this.sub
    have hcell := hS.und hru
    unfold LRd at hcell
    rw [hDR] at hcell
    obtain ⟨b6, o6, hA6, q0, q1, q2, q3, _⟩ := hcell.at_
    obtain ⟨uk, un, us, uA, uc, uar⟩ := u
    dsimp only at *
    subst hA6
    have hnod : a1.ts.nodes < uar.ts.nodes := by rw [hDR, TA.app_ts, Ts.nodes_app]; simp only [TA.ts, Ts.nodes]; omega
    have hocc := occ_le hSm v f ⟨k1, n1, s1, a1.ts⟩ (by show a1.ts.nodes ≤ 24; omega) kk
    have hgt := occ_gt (B := bnd G) (v := v) f ⟨k1, n1, s1, a1.ts⟩ kk
    have hstep : anyL (occM (bnd G) v f) (TA.cons k1 n1 s1 A1 c1 a1 r1).ts kk = if (occM (bnd G) v f ⟨k1, n1, s1, a1.ts⟩ kk).1 = true then (true, (occM (bnd G) v f ⟨k1, n1, s1, a1.ts⟩ kk).2) else anyL (occM (bnd G) v f) r1.ts (occM (bnd G) v f ⟨k1, n1, s1, a1.ts⟩ kk).2 := rfl
    refine Zdm ?_
    refine Zak ?_
    refine Zz ?_
    clear hS
    intro b2 wx4 hS
    refine Zc ?_
    clear hS
    intro wx5 hS
    refine Zcz ?_
    refine Zak ?_
    refine Zs ?_
    refine Calls.mono ((ih M w0 _ F b mb clk ub es TR rest O G v ⟨k1, n1, s1, A1, c1, a1⟩ kk _ hB hSm (by show a1.ts.nodes ≤ 24; omega) hsub (by omega) (by omega) (by omega) (hS.perm (List.perm_append_comm_assoc [_, _] [_, _, _] _)))) ?_
    rintro _ w6 ⟨rfl, hS'⟩
    refine Za ?_
    replace hS := hS'
    clear hS'
    refine Zb ?_
    replace hS := hS.perm (List.perm_append_comm_assoc [_, _, _] [_, _] _)
    cases hr : (occM (bnd G) v f ⟨k1, n1, s1, a1.ts⟩ kk).1 with
    | true =>
     rw [show (LT.mk k1 n1 s1 A1 c1 a1).tm = ⟨k1, n1, s1, a1.ts⟩ from rfl, hr]
     refine Zbt ?_
     refine Zj ?_
     refine ZdV ?_
     rw [hany, hstep, if_pos hr]
     exact ⟨rfl, hS.drop.drop⟩
    | false =>
     rw [show (LT.mk k1 n1 s1 A1 c1 a1).tm = ⟨k1, n1, s1, a1.ts⟩ from rfl, hr]
     refine ZbV ?_
     refine ZbA ?_
     refine ihl r1 _ _ _ ?_ ?_ (by conv=>lhs;whnf) (by kernel_rfl)
     ·simp [TA.len]
     ·refine ⟨D.app (.cons k1 n1 s1 A1 c1 a1 .nil), _, by rw [hDR, TA.app_assoc]; rfl, by rw [TA.len_app]; rfl, ?_, ?_, ?_, hS.drop⟩
      ·rw [TA.len_app]; simp only [TA.len]; exact Nat.le_trans hocc (by omega)
      ·exact Nat.le_trans (by omega) hgt
      ·rw [hany, hstep, if_neg (by rw [hr]; decide)]; rfl
theorem socc_said : ∀ f, SOccSaid f
 | 0 => socc_step 0 fun f' h => by omega
 | f + 1 => socc_step (f + 1) fun f' h => by
  obtain rfl : f = f' := by omega
  exact socc_said f
def USt (M : List Nat) (w0 : World) (H : List (Nat × Obj)) (F : List (World → Prop)) (b mb ub : Nat) (rest : List Value) (r : Us) (w : World) : Prop :=
 ∃ (G : List GB) (es : Array MapEntry) (clk : Nat) (TR : Value) (O : List (Nat × Obj)), bnd G = r.B ∧ BM G 3 es TR O F ∧ St M w0 ((ub, suob b r.w) :: (b, sob mb TR rest) :: (mb, .map es clk) :: (O ++ H)) F w
section
variable {M : List Nat} {w0 : World} {H : List (Nat × Obj)} {F : List (World → Prop)} {b mb clk ub : Nat} {es : Array MapEntry} {TR : Value} {rest : List Value} {O : List (Nat × Obj)} {G : List GB}
theorem sassign_any (v : Int) (t : LT) (k : Nat) (w : World) (hB : BM G 3 es TR O F) (hSm : SmB (bnd G)) (ht : t.tm.ar.nodes ≤ 24) (hA : Und F (LRd t)) (hv : bget v (bnd G) = none) (hk0 : t.k ≠ 0) (hk : k ≤ 400) (hl : G.length ≤ 1099511627776)
  (hS : St M w0 ((ub, suob b k) :: (b, sob mb TR rest) :: (mb, .map es clk) :: (O ++ H)) F w) :
  Calls Tryz.prog 90 #[pt ub, .int .i64 v, tv t] w fun e w' => e = .returned (.bool (asgM v t.tm (bnd G) k).ok) ∧ USt M w0 H F b mb ub rest (asgM v t.tm (bnd G) k) w' := by
 have hpos : asgM v t.tm (bnd G) k = if (occM (bnd G) v 401 t.tm k).1 = true ∨ 400 < (occM (bnd G) v 401 t.tm k).2 then ⟨false, bnd G, (occM (bnd G) v 401 t.tm k).2⟩ else ⟨true, (v, t.tm) :: bnd G, (occM (bnd G) v 401 t.tm k).2⟩ := rfl
 refine goes_enter3 Tryz.func90 rfl Tryz.ntmps90 rfl ?_
 refine Ze ?_
 clear hS
 intro b1 wx1 hS
 refine Z0 ?_
 refine Zf ?_
 refine Zak ?_
 refine Zs ?_
 refine Calls.mono ((socc_said 401 M w0 _ F b mb clk ub es TR rest O G v t k _ hB hSm ht hA (by omega) (by omega) (by omega) (hS.perm (List.perm_append_comm_assoc [_] [_, _, _] _)))) ?_
 rintro _ w3 ⟨rfl, hS'⟩
 refine Za ?_
 replace hS := hS'
 clear hS'
 replace hS := hS.perm (List.perm_append_comm_assoc [_, _, _] [_] _)
 generalize occM (bnd G) v 401 t.tm k = oc at *
 obtain ⟨o1, o2⟩ := oc
 dsimp only at *
 cases o1 with
 | true =>
  rw [if_pos (.inl rfl)] at hpos
  rw [hpos]
  refine ZaI ?_
  refine ZaN ?_
  refine goes_ret1 Tryz.func90 rfl (by conv=>lhs;whnf) ?_
  exact ⟨rfl, G, es, clk, TR, O, rfl, hB, hS.drop⟩
 | false =>
  by_cases h4 : 400 < o2
  ·rw [if_pos (.inr h4)] at hpos
   rw [hpos]
   refine ZP ?_
   refine Zl ?_
   refine Calls.mono (large_any ub o2 _ hS.swap) ?_
   rintro _ w4 ⟨rfl, hS'⟩
   refine Za ?_
   replace hS := hS'
   clear hS'
   replace hS := hS.swap
   rw [decide_eq_true h4]
   refine ZaN ?_
   refine goes_ret1 Tryz.func90 rfl (by conv=>lhs;whnf) ?_
   exact ⟨rfl, G, es, clk, TR, O, rfl, hB, hS.drop⟩
  ·rw [if_neg (by simp [h4])] at hpos
   rw [hpos]
   refine ZP ?_
   refine Zl ?_
   refine Calls.mono (large_any ub o2 _ hS.swap) ?_
   rintro _ w4 ⟨rfl, hS'⟩
   refine Za ?_
   replace hS := hS'
   clear hS'
   replace hS := hS.swap
   rw [decide_eq_false h4]
   refine Zay ?_
   refine Zi ?_
   refine ZfU ?_
   replace hS := hS.drew
   refine Z1 ?_
   refine ZG ?_
   refine Zq ?_
   refine ZcU ?_
   refine ZM ?_
   refine Zs ?_
   refine Calls.mono (bind_any v t _ hB hv (fun h => absurd h hk0) hA hl (hS.perm ((List.perm_append_comm_assoc [_, _] [_, _] _).trans (.cons _ (.cons _ (List.perm_append_comm_assoc [_, _] _ _)))))) ?_
   rintro _ w5 ⟨es', clk', TR', O', rfl, hB', hS'⟩
   refine Za ?_
   replace hS := hS'
   clear hS'
   replace hS := hS.perm ((List.Perm.cons _ (.cons _ (List.perm_append_comm_assoc _ [_, _] _))).trans (List.perm_append_comm_assoc [_, _] [_, _] _))
   refine Za9 ?_
   refine goes_ret1 Tryz.func90 rfl (by conv=>lhs;whnf) ?_
   exact ⟨rfl, _, es', clk', TR', O', rfl, hB', hS.drop⟩
end
end Go.Proofs.YthliapbflkfdiabGreat
