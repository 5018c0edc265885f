/- SWalk4, SWalk5, SMem3: texts that follow one another, laid into one file. -/
import Derived.Test.YthliapbflkfdiabGreatZ0
import Derived.Test.YthliapbflkfdiabGreatG7
import Derived.Test.YthliapbflkfdiabGreatG5
namespace Go.Proofs.YthliapbflkfdiabGreat
open Go.RowKit
set_option linter.unusedVariables false
set_option linter.unusedSimpArgs false
set_option maxRecDepth 100000
set_option maxHeartbeats 1000000
abbrev PR := PRd 67
section
variable {M : List Nat} {w0 : World} {H : List (Nat × Obj)} {F : List (World → Prop)}
theorem shiftL_any (t : LT) (m : Int) (w : World) (hA : Und F (LRd t)) (hn : t.tm.ar.nodes < 1048576) (hS : St M w0 H F w) :
  Calls Tryz.prog 37 #[tv t, .int .i64 m] w fun e w' => ∃ u : LT, e = .returned (tv u) ∧ u.tm = t.tm.shift m ∧ St M w0 H (LRd u :: F) w' := by
 have h1 := (hS.und hA).sl
 refine (shift_any t.k t.n m t.s t.ar.ts _ w h1 hn).mono ?_
 rintro e w' ⟨v', rfl, h2, h3⟩
 obtain ⟨A, c, L, rfl, e2, h4⟩ := hS.located h3 h2
 exact ⟨⟨t.k, shiftN t.k t.n m, t.s, A, c, L⟩, rfl, by simp only [LT.tm, Tm.shift, e2], h4⟩
theorem TA.snoc : ∀ (T : TA) (j : Nat), T.len = j + 1 → ∃ (D : TA) (k n : Int) (s : ByteArray) (A : Option Addr) (c : Nat) (a : TA), T = D.app (.cons k n s A c a .nil) ∧ D.len = j
 | .nil, j, h => by simp [TA.len] at h
 | .cons k n s A c a .nil, j, h => by
  obtain rfl : j = 0 := by simp [TA.len] at h; omega
  exact ⟨.nil, k, n, s, A, c, a, rfl, rfl⟩
 | .cons k n s A c a (.cons k' n' s' A' c' a' r), j, h => by
  obtain ⟨j, rfl⟩ : ∃ j', j = j' + 1 := ⟨j - 1, by simp only [TA.len] at h; omega⟩
  obtain ⟨D, k1, n1, s1, A1, c1, a1, e, hl⟩ := TA.snoc (.cons k' n' s' A' c' a' r) j (by simp only [TA.len] at h ⊢; omega)
  exact ⟨.cons k n s A c a D, k1, n1, s1, A1, c1, a1, by rw [e]; rfl, by simp only [TA.len, hl]⟩
theorem before_any (T : TA) (A : Option Addr) (c : Nat) (m : Int) (o : Nat) (rest : List GN) (w : World) (hT : Und F (ArA A c T)) (hn : T.ts.nodes < 1048576) (hr : Und F (PR rest)) (hS : St M w0 H F w) :
  Calls Tryz.prog 18 #[.slice A T.len c, .int .i64 m, .int .i64 (o : Nat), ptrOf rest] w fun e w' => ∃ (gs : List GN) (F' : List (World → Prop)), e = .returned (ptrOf gs) ∧ glsOf gs = bodyG T.ts m o (glsOf rest) ∧ (∀ φ ∈ F, φ ∈ F') ∧ Und F' (PR gs) ∧ St M w0 H F' w' := by
 have hle := T.ts.length_le
 rw [TA.len_ts] at hle
 refine goes_enter4 Tryz.func18 rfl Tryz.ntmps18 rfl ?_
 refine ZaL ?_
 refine Zy ?_
 refine ZcF ?_
 refine ZaP ?_
 refine goes_loop2 9 3 (13 :: 14 :: 17 :: 18 :: 19 :: 20 :: 21 :: 22 :: 23 :: 24 :: 25 :: 26 :: 15 :: 16 :: []) (fun (j : Nat) v u w' => ∃ (D R : TA) (gs : List GN) (F' : List (World → Prop)), T = D.app R ∧ D.len = j ∧ v = .int .i64 ((j : Nat) - 1) ∧ u = ptrOf gs ∧ glsOf gs = bodyG R.ts m o (glsOf rest) ∧ (∀ φ ∈ F, φ ∈ F') ∧ Und F' (PR gs) ∧ St M w0 H F' w') (fun j => j) (T.len) ?_ (by conv=>lhs;whnf) (by conv=>lhs;whnf) ?_
 ·exact ⟨T, .nil, rest, F, by rw [TA.app_nil], rfl, rfl, rfl, rfl, fun _ h => h, hr, hS⟩
 clear hS
 rintro j _ _ w2 jv ⟨D, R, gs, F', hDR, hDj, rfl, rfl, hgs, hFF, hpr, hS⟩ ih
 have hlen : T.len = D.len + R.len := by rw [hDR, TA.len_app]
 cases j with
 | zero =>
  have hD : D = .nil := by cases D with
   | nil => rfl
   | cons _ _ _ _ _ _ _ => simp [TA.len] at hDj
  subst hD
  refine ZC ?_
  refine ZaQ ?_
  refine Za7 ?_
  refine Zax ?_
  refine goes_ret1 Tryz.func18 rfl (by conv=>lhs;whnf) ?_
  exact ⟨gs, F', rfl, by rw [hDR]; exact hgs, hFF, hpr, hS⟩
 | succ j =>
  obtain ⟨D', k1, n1, s1, A1, c1, a1, rfl, hD'⟩ := TA.snoc D j hDj
  have hDR' : T = D'.app (.cons k1 n1 s1 A1 c1 a1 R) := by rw [hDR, TA.app_assoc]; rfl
  have hT' := hT.mono hFF
  rw [hDR'] at hT'
  have hnod : a1.ts.nodes < T.ts.nodes := by rw [hDR', TA.app_ts, Ts.nodes_app]; simp only [TA.ts, Ts.nodes]; omega
  have hsub : Und F' (LRd ⟨k1, n1, s1, A1, c1, a1⟩) := hT'.imp fun w h => h.sub
  obtain ⟨b6, o6, rfl⟩ := (hS.und hT').some_ (by rw [TA.len_app]; simp only [TA.len]; omega)
  obtain ⟨q0, q1, q2, q3⟩ := (hS.und hT').cells
  rw [show o6 + D'.len * 4 = o6 + (((j + 1 : Nat) : Int) - 1).toNat * 4 by omega] at q0 q1 q2 q3
  refine ZC ?_
  refine ZaQ ?_
  refine Zt ?_
  refine Zee ?_
  refine ZV ?_
  refine Zas ?_
  refine Zak ?_
  refine Zac ?_
  refine Calls.mono (shiftL_any ⟨k1, n1, s1, A1, c1, a1⟩ m _ hsub (by show a1.ts.nodes < _; omega) hS) ?_
  rintro _ w3 ⟨u, rfl, hu, hS'⟩
  refine Za ?_
  replace hS := hS'
  clear hS'
  refine ZO ?_
  refine lst_run (run_build (cells := [_, _, _, _, _, _]) (.cons (by conv=>lhs;whnf) (.cons (by conv=>lhs;whnf) (.cons (by conv=>lhs;whnf) .nil))) rfl) rfl ?_
  refine Zaq ?_
  clear hS
  intro b1 wx1 hS
  refine Zd ?_
  refine Zef ?_
  refine Zf ?_
  refine ZcF ?_
  replace hS := hS.freeze
  refine ih j _ _ _ _ ?_ ?_ (by conv=>lhs;whnf) (by conv=>lhs;whnf) (by kernel_rfl)
  ·omega
  ·refine ⟨D', .cons k1 n1 s1 A1 c1 a1 R, ⟨u, o, b1⟩ :: gs, _, hDR', hD', ?_, rfl, ?_, fun φ h => .tail _ (.tail _ (hFF φ h)), ?_, hS⟩
   ·congr 1; omega
   ·show (u.tm, o) :: glsOf gs = _
    rw [hu, hgs]; rfl
   ·exact fun w hw => ⟨hw _ (.head _), hw _ (.tail _ (.head _)), hpr w fun φ hφ => hw φ (.tail _ (.tail _ hφ))⟩
def fitL (g : LT) (c : LC) : Bool := decide (c.hd.s = g.s) && decide (c.hd.ar.len = g.ar.len)
theorem fitL_eq (g : LT) (P : List LC) : (P.filter (fitL g)).map LC.cl = (P.map LC.cl).filter (fitsC g.tm) := by
 rw [List.filter_map]
 congr 2
 funext c
 show (_ && decide (c.hd.ar.len = g.ar.len)) = (_ && decide (c.hd.ar.ts.length = g.ar.ts.length))
 rw [TA.len_ts, TA.len_ts]; rfl
theorem matching_any {b mb : Nat} {TR : Value} {rest : List Value} (P : List LC) (pA : Option Addr) (pc : Nat) (g : LT) (w : World) (hP : Und F (ClsR P pA pc)) (hl : P.length ≤ 24)
  (hS : St M w0 ((b, sob mb TR (.slice pA P.length pc :: rest)) :: H) F w) :
  Calls Tryz.prog 22 #[pt b, tv g] w fun e w' => ∃ (A : Option Addr) (c : Nat) (F' : List (World → Prop)), e = .returned (.slice A (P.filter (fitL g)).length c) ∧ (∀ φ ∈ F, φ ∈ F') ∧ Und F' (ClsR (P.filter (fitL g)) A c) ∧ St M w0 ((b, sob mb TR (.slice pA P.length pc :: rest)) :: H) F' w' := by
 refine goes_enter2 Tryz.func22 rfl Tryz.ntmps22 rfl ?_
 refine Ze ?_
 clear hS
 intro b1 wx1 hS
 refine Zd ?_
 refine Zba ?_
 refine Zad ?_
 refine ZQ ?_
 refine goes_loop2 13 5 (14 :: 15 :: 16 :: 7 :: 17 :: 18 :: 19 :: 20 :: 21 :: 22 :: 23 :: 24 :: 25 :: 26 :: 27 :: 28 :: 29 :: 30 :: 31 :: 32 :: 33 :: 34 :: 35 :: 36 :: 37 :: []) (fun (R : List LC) v u w' => ∃ (D : List LC) (O : List (Nat × Obj)), P = D ++ R ∧ v = .int .i64 (D.length : Nat) ∧ Row 62 6 u (D.filter (fitL g)).length (lcsL (D.filter (fitL g))) O ∧ St M w0 ((b1, tob g) :: (b, sob mb TR (.slice pA P.length pc :: rest)) :: (O ++ H)) F w') (fun R => R.length) (P) ?_ (by conv=>lhs;whnf) (by conv=>lhs;whnf) ?_
 ·exact ⟨[], [], rfl, rfl, Row.nil_, hS⟩
 clear hS
 rintro R _ V w2 jv ⟨D, O, hDR, rfl, hrow, hS⟩ ih
 have hlen : P.length = D.length + R.length := by rw [hDR]; simp
 obtain ⟨Av, cv, rfl⟩ := hrow.form
 cases R with
 | nil =>
  simp only [List.length_nil] at hlen
  have e : P = D := by rw [hDR]; simp
  refine ZbH ?_
  refine goes_ret1 Tryz.func22 rfl (by conv=>lhs;whnf) ?_
  rw [← e] at hrow ⊢
  obtain ⟨F', h1, h2, h3⟩ := St.freezeC (H := (b, sob mb TR (.slice pA P.length pc :: rest)) :: H) hrow (fun x hx => hP.imp fun w h => h.2.2 x (List.mem_filter.1 hx).1) (hS.drop.perm (List.perm_append_comm_assoc [_] _ _))
  exact ⟨Av, cv, F', rfl, h1, h2, h3⟩
 | cons x R =>
  simp only [List.length_cons] at hlen
  rw [hDR] at hP
  obtain ⟨b6, o6, rfl⟩ := (hS.und hP).some_ (by simp; omega)
  obtain ⟨q0, q1, q2, q3, q4, q5⟩ := (hS.und hP).cells
  have hflen := List.length_filter_le (fitL g) D
  by_cases hs : x.hd.s = g.s
  ·by_cases hal : x.hd.ar.len = g.ar.len
   ·have hfit : (D ++ [x]).filter (fitL g) = D.filter (fitL g) ++ [x] := by rw [List.filter_append]; simp [fitL, hs, hal]
    refine Zdd ?_
    refine Zex ?_
    refine ZcY ?_
    refine ZdW ?_
    clear hS
    intro b2 wx2 hS
    refine Zc ?_
    clear hS
    intro wx3 hS
    refine Zb ?_
    refine Zan ?_
    refine Zad ?_
    refine Zad ?_
    refine Za1 ?_
    refine Zp ?_
    refine Za6 ?_
    refine Zb3 ?_
    refine Zb3 ?_
    refine Zb5 ?_
    refine Zt ?_
    refine ZW ?_
    refine ZcY ?_
    refine lst_buildSlice (cells := [_, _, _, _, _, _]) hS (.cons (by conv=>lhs;whnf) .nil) rfl rfl ?_
    clear hS
    intro b3 wx4 hS
    refine lst_app (sz := 6) (bts := 88) hS (by conv=>lhs;whnf) rfl rfl rfl rfl (hrow) rfl rfl (.cons _ (List.perm_append_comm_assoc [_, _, _] _ _)) (by omega) (by omega) rfl ?_
    clear hS
    intro v' O' w6 hrow' hS
    replace hS := hS.perm (List.perm_append_comm_assoc O' [_, _, _] _)
    refine ZaC ?_
    refine ih (R) _ _ _ _ ?_ ?_ (by conv=>lhs;whnf) (by conv=>lhs;whnf) (by kernel_rfl)
    ·simp
    ·exact ⟨D ++ [x], O', by rw [hDR]; simp, by simp, by rw [hfit, lcsL_app, List.length_append]; exact hrow', hS.drop⟩
   ·have hfit : (D ++ [x]).filter (fitL g) = D.filter (fitL g) := by rw [List.filter_append]; simp [fitL, hal]
    refine Zdd ?_
    refine Zex ?_
    refine ZcY ?_
    refine ZdW ?_
    clear hS
    intro b2 wx2 hS
    refine Zc ?_
    clear hS
    intro wx3 hS
    refine Zb ?_
    refine Zan ?_
    refine Zad ?_
    refine Zad ?_
    refine Za1 ?_
    refine Zp ?_
    refine Za6 ?_
    refine Zb3 ?_
    refine Zb3 ?_
    refine ZF ?_
    refine Zay ?_
    refine ZbA ?_
    refine ih (R) _ _ _ _ ?_ ?_ (by conv=>lhs;whnf) (by conv=>lhs;whnf) (by kernel_rfl)
    ·simp
    ·exact ⟨D ++ [x], O, by rw [hDR]; simp, by simp, by rw [hfit]; exact hrow, hS.drop⟩
  ·have hfit : (D ++ [x]).filter (fitL g) = D.filter (fitL g) := by rw [List.filter_append]; simp [fitL, hs]
   refine Zdd ?_
   refine Zex ?_
   refine ZcY ?_
   refine ZdW ?_
   clear hS
   intro b2 wx2 hS
   refine Zc ?_
   clear hS
   intro wx3 hS
   refine Zb ?_
   refine Zan ?_
   refine Zad ?_
   refine Zad ?_
   refine Za1 ?_
   refine Zdo ?_
   refine Ze5 ?_
   refine Zay ?_
   refine ZbA ?_
   refine ih (R) _ _ _ _ ?_ ?_ (by conv=>lhs;whnf) (by conv=>lhs;whnf) (by kernel_rfl)
   ·simp
   ·exact ⟨D ++ [x], O, by rw [hDR]; simp, by simp, by rw [hfit]; exact hrow, hS.drop⟩
end
end Go.Proofs.YthliapbflkfdiabGreat
namespace Go.Proofs.YthliapbflkfdiabGreat
open Go.RowKit
set_option linter.unusedVariables false
set_option linter.unusedSimpArgs false
set_option maxRecDepth 100000
set_option maxHeartbeats 1000000
theorem mapL_cons (g : Tm → Nat → Option (Tm × Nat)) (k n : Int) (s : ByteArray) (a r : Ts) (l : Nat) : mapL g (.cons k n s a r) l = (g ⟨k, n, s, a⟩ l).bind fun p => (mapL g r p.2).map fun q => (.cons p.1.k p.1.n p.1.s p.1.ar q.1, q.2) := by
 simp only [mapL]
 cases g ⟨k, n, s, a⟩ l with
 | none => rfl
 | some p =>
  simp only [Option.bind_some]
  cases mapL g r p.2 <;> rfl
theorem appM_succ (B : Bnd) (f : Nat) (t : Tm) (l : Nat) : appM B (f + 1) t l = if l = 0 then none else (mapL (appM B f) (lookM B t).ar (l - 1)).map fun p => (⟨(lookM B t).k, (lookM B t).n, (lookM B t).s, p.1⟩, p.2) := by
 simp only [appM]
 split
 ·rfl
 ·cases mapL (appM B f) (lookM B t).ar (l - 1) <;> rfl
theorem mapL_nodes {g : Tm → Nat → Option (Tm × Nat)} (hg : ∀ t l p, g t l = some p → p.1.ar.nodes + 1 + p.2 = l) : ∀ (T : Ts) (l : Nat) (p : Ts × Nat), mapL g T l = some p → p.1.nodes + p.2 = l ∧ p.1.length = T.length
 | .nil, l, p, h => by
  simp only [mapL, Option.some.injEq] at h
  subst h
  exact ⟨by simp [Ts.nodes], rfl⟩
 | .cons k n s a r, l, p, h => by
  rw [mapL_cons] at h
  cases h1 : g ⟨k, n, s, a⟩ l with
  | none => rw [h1] at h; cases h
  | some q =>
   rw [h1, Option.bind_some] at h
   cases h2 : mapL g r q.2 with
   | none => rw [h2] at h; cases h
   | some x =>
    rw [h2, Option.map_some, Option.some.injEq] at h
    subst h
    have := hg _ _ _ h1
    obtain ⟨i1, i2⟩ := mapL_nodes hg r q.2 x h2
    simp only [Ts.nodes, Ts.length]
    omega
theorem app_nodes {B : Bnd} : ∀ (f : Nat) (t : Tm) (l : Nat) (p : Tm × Nat), appM B f t l = some p → p.1.ar.nodes + 1 + p.2 = l
 | 0, t, l, p, h => by cases h
 | f + 1, t, l, p, h => by
  rw [appM_succ] at h
  by_cases h0 : l = 0
  ·rw [if_pos h0] at h; cases h
  ·rw [if_neg h0] at h
   cases h1 : mapL (appM B f) (lookM B t).ar (l - 1) with
   | none => rw [h1] at h; cases h
   | some q =>
    rw [h1, Option.map_some, Option.some.injEq] at h
    subst h
    have := (mapL_nodes (fun t l p h => app_nodes f t l p h) _ _ _ h1).1
    show q.1.nodes + 1 + q.2 = l
    omega
section
variable {M : List Nat} {w0 : World} {H : List (Nat × Obj)} {F : List (World → Prop)}
theorem clone_any (A : Option Addr) (c : Nat) (T : TA) (w : World) (hA : Und F (ArA A c T)) (hn : T.len ≤ 1048576) (hS : St M w0 H F w) :
  Calls Tryz.prog 67 #[.slice A T.len c] w fun e w' => ∃ (A' : Option Addr) (c' : Nat), e = .returned (.slice A' T.len c') ∧ T.len ≤ c' ∧
   ((T.len = 0 ∧ St M w0 H F w') ∨ ∃ g sp, A' = some ⟨g, 0, none⟩ ∧ St M w0 ((g, .cells (tcsL T ++ sp).toArray 60) :: H) F w') := by
 have h1 := hS.und hA
 have hraw : Raw w (.slice A T.len c) T.len (tcsL T) := ⟨A, c, rfl, h1.1, tcsL_len T, tcsL_one T, fun hl => by
  obtain ⟨b, o, e, hs⟩ := h1.2 hl
  exact ⟨b, o, e, hs.cells.2⟩⟩
 refine (clone_raw hraw (Nat.le_trans hn (by omega))).mono ?_
 rintro e w' ⟨v', rfl, hown, hb⟩
 rcases hown.2 with ⟨rfl, h0⟩ | ⟨g, cap, cur, rfl, hg, hh, hle, _, hsz, htk⟩
 ·exact ⟨none, 0, by rw [h0], by omega, .inl ⟨h0, hS.grow hb⟩⟩
 ·refine ⟨_, cap, rfl, hle, .inr ⟨g, cur.toList.drop (T.len * 4), rfl, hS.adopt hb hg ?_⟩⟩
  rw [← htk, List.take_append_drop, Array.toArray_toList]; exact hh
def zeroT : Value := .agg #[.int .i64 0, .int .i64 0, .string ⟨#[]⟩, .slice none 0 0]
def ApRes (F' : List (World → Prop)) (e : Ending) : Option (Tm × Nat) → Prop
 | none => e = .returned (.tuple #[zeroT, .int .i64 0, .bool false])
 | some (u, l) => ∃ u' : LT, u'.tm = u ∧ Und F' (LRd u') ∧ e = .returned (.tuple #[tv u', .int .i64 (l : Nat), .bool true])
def ApSaid (f : Nat) : Prop := ∀ (M : List Nat) (w0 : World) (H : List (Nat × Obj)) (F : List (World → Prop)) (b mb clk : Nat) (es : Array MapEntry) (TR : Value) (rest : List Value) (O : List (Nat × Obj)) (G : List GB) (t : LT) (l : Nat) (w : World),
 BM G 3 es TR O F → SmB (bnd G) → t.tm.ar.nodes ≤ 24 → Und F (LRd t) → l ≤ f → f ≤ 1000 → St M w0 ((b, sob mb TR rest) :: (mb, .map es clk) :: H) F w →
  Calls Tryz.prog 38 #[pt b, tv t, .int .i64 (l : Nat)] w fun e w' => ∃ F', (∀ φ ∈ F, φ ∈ F') ∧ ApRes F' e (appM (bnd G) f t.tm l) ∧ St M w0 ((b, sob mb TR rest) :: (mb, .map es clk) :: H) F' w'
theorem ap_step (f : Nat) (iha : ∀ f', f = f' + 1 → ApSaid f') : ApSaid f := by
 intro M w0 H F b mb clk es TR rest O G t l w hB hSm ht hA hlf hf hS
 refine goes_enter3 Tryz.func38 rfl Tryz.ntmps38 rfl ?_
 by_cases hl0 : l = 0
 ·subst hl0
  have e : appM (bnd G) f t.tm 0 = none := by
   cases f with
   | zero => rfl
   | succ f => rw [appM_succ, if_pos rfl]
  rw [e]
  refine Ze ?_
  clear hS
  intro b1 wx1 hS
  refine Zz ?_
  clear hS
  intro b2 wx2 hS
  refine Zaz ?_
  refine Zbw ?_
  refine Zav ?_
  refine Zb7 ?_
  clear hS
  intro wx3 hS
  refine Zk ?_
  refine Zey ?_
  exact ⟨F, fun _ h => h, rfl, hS.drop.drop⟩
 obtain ⟨f, rfl⟩ : ∃ f', f = f' + 1 := ⟨f - 1, by omega⟩
 have iha := iha f rfl
 rw [appM_succ, if_neg hl0]
 refine Ze ?_
 clear hS
 intro b1 wx1 hS
 refine Zz ?_
 clear hS
 intro b2 wx2 hS
 refine Zaz ?_
 refine Zbw ?_
 refine Zdr ?_
 refine ZaH ?_
 refine Z9 ?_
 refine Zak ?_
 refine Zm ?_
 refine Calls.mono (look_at t _ hB hA hS (List.perm_append_comm_assoc [_, _] [_, _] _)) ?_
 rintro _ w4 ⟨u, rfl, hu, hru, hS'⟩
 refine Za ?_
 replace hS := hS'
 clear hS'
 refine Zc ?_
 clear hS
 intro wx3 hS
 refine Zb6 ?_
 refine Z5 ?_
 have hun : u.ar.ts.nodes ≤ 24 := by
  have : u.tm.ar.nodes ≤ 24 := by rw [hu]; exact look_small hSm ht
  exact this
 have hlu := u.ar.ts.length_le
 rw [TA.len_ts] at hlu
 rw [← hu]
 refine Zl ?_
 refine Calls.mono (clone_any u.A u.c u.ar _ hru (by omega) hS) ?_
 rintro _ w5 ⟨A', c', rfl, hc', hor⟩
 refine Za ?_
 clear hS
 rcases hor with ⟨h0, hS⟩ | ⟨g, sp, rfl, hS⟩
 ·have hnil : u.ar = .nil := by
   cases hq : u.ar with
   | nil => rfl
   | cons _ _ _ _ _ _ _ => rw [hq] at h0; simp [TA.len] at h0
  refine Zai ?_
  refine ZA ?_
  clear hS
  intro wx4 hS
  refine ZH ?_
  refine Zg ?_
  refine Z5 ?_
  refine ZQ ?_
  refine goes_loop2 27 2 (28 :: 29 :: 30 :: 31 :: 10 :: 9 :: 11 :: 33 :: 34 :: 35 :: 36 :: 37 :: 38 :: 39 :: 32 :: 40 :: 41 :: 42 :: 43 :: 44 :: 45 :: 46 :: 7 :: 8 :: 47 :: []) (fun (x : Unit) v y w' => v = .int .i64 0 ∧ y = .int .i64 ((l : Int) - 1) ∧ St M w0 ((b2, .cells [.int .i64 0, .int .i64 0, .string ⟨#[]⟩, .slice none 0 0].toArray 60) :: (b1, .cells [.int .i64 u.k, .int .i64 u.n, .string u.s, .slice A' u.ar.len c'].toArray 60) :: (b, sob mb TR rest) :: (mb, .map es clk) :: H) F w') (fun _ => 0) (()) ?_ (by conv=>lhs;whnf) (by conv=>lhs;whnf) ?_
  ·exact ⟨rfl, rfl, hS⟩
  clear hS
  rintro _ _ _ w6 jv ⟨rfl, rfl, hS⟩ ih
  refine ZJ ?_
  refine Zg ?_
  refine Zak ?_
  refine Zf ?_
  refine Zc ?_
  clear hS
  intro wx5 hS
  refine Zk ?_
  refine Zey ?_
  refine ⟨F, fun _ h => h, ?_, hS.drop.drop⟩
  have e : u.tm.ar = .nil := by show u.ar.ts = _; rw [hnil]; rfl
  rw [e]
  refine ⟨⟨u.k, u.n, u.s, A', c', u.ar⟩, by simp only [LT.tm, hnil]; rfl, fun w _ => ⟨hc', fun h => by have h : 0 < u.ar.len := h; omega⟩, ?_⟩
  rw [show ((l - 1 : Nat) : Int) = (l : Int) - 1 by omega]
 ·refine Zai ?_
  refine ZA ?_
  clear hS
  intro wx4 hS
  refine ZH ?_
  refine Zg ?_
  refine Z5 ?_
  refine ZQ ?_
  have hcast : ((l : Int) - 1) = ((l - 1 : Nat) : Int) := by omega
  refine goes_loop2 27 2 (28 :: 29 :: 30 :: 31 :: 10 :: 9 :: 11 :: 33 :: 34 :: 35 :: 36 :: 37 :: 38 :: 39 :: 32 :: 40 :: 41 :: 42 :: 43 :: 44 :: 45 :: 46 :: 7 :: 8 :: 47 :: []) (fun (R : TA) v x w' => ∃ (D D' : TA) (li : Nat) (F' : List (World → Prop)), u.ar = D.app R ∧ D.len = D'.len ∧ v = .int .i64 (D.len : Nat) ∧ x = .int .i64 (li : Nat) ∧ li ≤ f ∧ mapL (appM (bnd G) f) u.ar.ts (l - 1) = (mapL (appM (bnd G) f) R.ts li).map (fun p => (D'.ts.app p.1, p.2)) ∧ (∀ φ ∈ F, φ ∈ F') ∧ Und F' (AllR D') ∧ St M w0 ((b2, .cells [.int .i64 0, .int .i64 0, .string ⟨#[]⟩, .slice none 0 0].toArray 60) :: (b1, .cells [.int .i64 u.k, .int .i64 u.n, .string u.s, .slice (some ⟨g, 0, none⟩) u.ar.len c'].toArray 60) :: (g, .cells (tcsL D' ++ (tcsL R ++ sp)).toArray 60) :: (b, sob mb TR rest) :: (mb, .map es clk) :: H) F' w') (fun R => R.len) (u.ar) ?_ (by conv=>lhs;whnf) (by conv=>lhs;whnf) ?_
  ·exact ⟨.nil, .nil, l - 1, F, rfl, rfl, rfl, by rw [← hcast], by omega, by cases mapL (appM (bnd G) f) u.ar.ts (l - 1) <;> rfl, fun _ h => h, fun _ _ => trivial, hS.down3⟩
  clear hS
  rintro R _ _ w6 jv ⟨D, D', li, F', hDR, hDD, rfl, rfl, hli, hmap, hFF, hAR, hS⟩ ih
  have hlen : u.ar.len = D.len + R.len := by rw [hDR, TA.len_app]
  cases R with
  | nil =>
   simp only [TA.len] at hlen
   refine ZJ ?_
   refine Zg ?_
   refine Zak ?_
   refine Zf ?_
   refine Zc ?_
   clear hS
   intro wx5 hS
   refine Zk ?_
   refine Zey ?_
   replace hS := (hS.drop.drop).freeze
   refine ⟨_, fun φ h => .tail _ (hFF φ h), ?_, hS⟩
   have e : mapL (appM (bnd G) f) u.tm.ar (l - 1) = some (D'.ts, li) := by
    show mapL (appM (bnd G) f) u.ar.ts (l - 1) = _
    rw [hmap]
    show some (D'.ts.app .nil, li) = _
    rw [Ts.app_nil]
   rw [e]
   refine ⟨⟨u.k, u.n, u.s, some ⟨g, 0, none⟩, c', D'⟩, rfl, fun w hw => ⟨by show D'.len ≤ c'; omega, fun _ => ⟨g, 0, rfl, ?_⟩⟩, ?_⟩
   ·refine segA_of (hAR w fun φ hφ => hw φ (.tail _ hφ)) fun j x hj => ?_
    have hg := hw _ (.head _)
    have hjl : j < (tcsL D').length := by
     rcases Nat.lt_or_ge j (tcsL D').length with h | h
     ·exact h
     ·rw [List.getElem?_eq_none h] at hj; cases hj
    rw [cell_own hg, Nat.zero_add, List.getElem?_append_left hjl]; exact hj
   ·have e2 : u.ar.len = D'.len := by omega
    rw [e2]
  | cons k1 n1 s1 A1 c1 a1 r1 =>
   simp only [TA.len] at hlen
   have hD4 := tcsL_len D'
   have hsub : Und F' (LRd ⟨k1, n1, s1, A1, c1, a1⟩) := (hru.mono hFF).imp fun w h => by
    unfold LRd at h
    rw [hDR] at h
    exact h.sub
   have hnod : a1.ts.nodes ≤ 24 := by rw [hDR, TA.app_ts, Ts.nodes_app] at hun; simp only [TA.ts, Ts.nodes] at hun; omega
   have hgc : ∀ j x, [Value.int .i64 k1, .int .i64 n1, .string s1, .slice A1 a1.len c1][j]? = some x → w6.cell? ⟨g, 0 + ((D.len : Nat) : Int).toNat * 4 + j, none⟩ = some x := fun j x hj => by
    have hjl : j < 4 := by
     rcases Nat.lt_or_ge j 4 with h | h
     ·exact h
     ·rw [List.getElem?_eq_none (by simpa using h)] at hj; cases hj
    rw [cell_own (hS.own (g, _) (.tail _ (.tail _ (.head _)))), show 0 + ((D.len : Nat) : Int).toNat * 4 + j = (tcsL D').length + j by omega, List.getElem?_append_right (by omega), show (tcsL D').length + j - (tcsL D').length = j by omega]
    simp only [tcsL, List.append_assoc]
    rw [List.getElem?_append_left (by simpa using hjl)]; exact hj
   have q0 := hgc 0 _ rfl
   have q1 := hgc 1 _ rfl
   have q2 := hgc 2 _ rfl
   have q3 := hgc 3 _ rfl
   rw [show (TA.cons k1 n1 s1 A1 c1 a1 r1).ts = Ts.cons k1 n1 s1 a1.ts r1.ts from rfl, mapL_cons] at hmap
   cases hap : appM (bnd G) f ⟨k1, n1, s1, a1.ts⟩ li with
   | none =>
    rw [hap, Option.bind_none, Option.map_none] at hmap
    have e : mapL (appM (bnd G) f) u.tm.ar (l - 1) = none := hmap
    rw [e]
    refine ZaK ?_
    refine Zas ?_
    refine Zak ?_
    refine Zz ?_
    clear hS
    intro b3 wx5 hS
    refine ZbI ?_
    clear hS
    intro wx6 hS
    refine Za9 ?_
    refine Zi ?_
    refine ZfV ?_
    replace hS := hS.drew
    refine ZbO ?_
    refine ZG ?_
    refine Zae ?_
    refine ZcU ?_
    refine Zq ?_
    refine Zr ?_
    refine Zs ?_
    refine ZfW ?_
    rintro _ w7 ⟨F2, hF2, rfl, hS'⟩
    refine Za ?_
    replace hS := hS'
    clear hS'
    replace hS := hS.perm (List.perm_append_comm_assoc [_, _] [_, _, _, _] _)
    refine Zez ?_
    refine Zem ?_
    refine Zet ?_
    refine ZbP ?_
    refine Zr ?_
    refine lst_storeN hS rfl (by conv=>lhs;whnf) rfl rfl (.tail (.tail (.tail .head))) (putN_mid (tcsL D') [.int .i64 k1, .int .i64 n1, .string s1, .slice A1 a1.len c1] [.int .i64 0, .int .i64 0, .string ⟨#[]⟩, .slice none 0 0] (tcsL r1 ++ sp) _ (by omega) rfl) (.tail (.tail (.tail .head))) ?_
    clear hS
    intro w8 hS
    refine Zez ?_
    refine Zdj ?_
    refine Zu ?_
    refine ZaA ?_
    refine Zb7 ?_
    clear hS
    intro wx7 hS
    refine Zk ?_
    refine Zey ?_
    exact ⟨F2, fun φ h => hF2 φ (hFF φ h), rfl, hS.drop.drop.drop.drop⟩
   | some p =>
    obtain ⟨p1, lp⟩ := p
    have hlp := app_nodes _ _ _ _ hap
    rw [hap, Option.bind_some] at hmap
    refine ZaK ?_
    refine Zas ?_
    refine Zak ?_
    refine Zz ?_
    clear hS
    intro b3 wx5 hS
    refine ZbI ?_
    clear hS
    intro wx6 hS
    refine Za9 ?_
    refine Zi ?_
    refine ZfV ?_
    replace hS := hS.drew
    refine ZbO ?_
    refine ZG ?_
    refine Zae ?_
    refine ZcU ?_
    refine Zq ?_
    refine Zr ?_
    refine Zs ?_
    refine ZfW ?_
    rintro _ w7 ⟨F2, hF2, ⟨u2, hu2, hru2, rfl⟩, hS'⟩
    refine Za ?_
    replace hS := hS'
    clear hS'
    replace hS := hS.perm (List.perm_append_comm_assoc [_, _] [_, _, _, _] _)
    refine Zez ?_
    refine Zem ?_
    refine Zet ?_
    refine ZbP ?_
    refine Zr ?_
    refine lst_storeN hS rfl (by conv=>lhs;whnf) rfl rfl (.tail (.tail (.tail .head))) (putN_mid (tcsL D') [.int .i64 k1, .int .i64 n1, .string s1, .slice A1 a1.len c1] (tcs u2) (tcsL r1 ++ sp) _ (by omega) rfl) (.tail (.tail (.tail .head))) ?_
    clear hS
    intro w8 hS
    refine Zez ?_
    refine Zdj ?_
    refine Zu ?_
    refine Zdq ?_
    refine ih (r1) _ _ _ _ ?_ ?_ (by conv=>lhs;whnf) (by conv=>lhs;whnf) (by kernel_rfl)
    ·simp [TA.len]
    ·refine ⟨D.app (.cons k1 n1 s1 A1 c1 a1 .nil), D'.app (.cons u2.k u2.n u2.s u2.A u2.c u2.ar .nil), lp, F2, by rw [hDR, TA.app_assoc]; rfl, by rw [TA.len_app, TA.len_app, hDD]; rfl, by rw [TA.len_app]; rfl, rfl, by omega, ?_, fun φ h => hF2 φ (hFF φ h), ?_, ?_⟩
     ·rw [hmap, Option.map_map, TA.app_ts]
      congr 1
      funext q
      show (D'.ts.app (.cons p1.k p1.n p1.s p1.ar q.1), q.2) = ((D'.ts.app (.cons u2.k u2.n u2.s u2.ar.ts .nil)).app q.1, q.2)
      rw [← hu2, Ts.app_assoc]; rfl
     ·exact fun w hw => AllR.app (U := .cons u2.k u2.n u2.s u2.A u2.c u2.ar .nil) ⟨hru2 w hw, trivial⟩ ((hAR.mono hF2) w hw)
     ·rw [tcsL_app, List.append_assoc]
      exact hS.drop
theorem ap_said : ∀ f, ApSaid f
 | 0 => ap_step 0 fun f' h => by omega
 | f + 1 => ap_step (f + 1) fun f' h => by
  obtain rfl : f = f' := by omega
  exact ap_said f
end
end Go.Proofs.YthliapbflkfdiabGreat
namespace Go.Proofs.YthliapbflkfdiabGreat
open Go.RowKit
set_option linter.unusedVariables false
set_option linter.unusedSimpArgs false
structure LCh where
 g : GN
 next : List GN
 cA : Option Addr
 cc : Nat
 cls : List LC
 bound : Nat
def LCh.ch (c : LCh) : Ch := ⟨(c.g.t.tm, c.g.o), glsOf c.next, c.cls.map LC.cl, c.bound⟩
abbrev chcs (c : LCh) : List Value := [.pointer (some ⟨c.g.blk, 0, none⟩), .slice c.cA c.cls.length c.cc, .int .i64 (c.bound : Nat)]
def chL : List LCh → List Value
 | [] => []
 | c :: r => chcs c ++ chL r
theorem chL_app (a b : List LCh) : chL (a ++ b) = chL a ++ chL b := by
 induction a with
 | nil => rfl
 | cons c r ih => simp [chL, ih]
theorem chL_len (a : List LCh) : (chL a).length = a.length * 3 := by
 induction a with
 | nil => rfl
 | cons c r ih => simp [chL, ih]; omega
def ChRd (c : LCh) (w : World) : Prop := PR (c.g :: c.next) w ∧ ClsR c.cls c.cA c.cc w
structure LE where
 A : Option Addr
 c : Nat
 T : TA
abbrev evcs (k : Int) (e : LE) : List Value := [.int .i64 k, .slice e.A e.T.len e.c]
def evL : List LE → List Value
 | [] => []
 | e :: r => evcs 1 e ++ evL r
theorem evL_app (a b : List LE) : evL (a ++ b) = evL a ++ evL b := by
 induction a with
 | nil => rfl
 | cons c r ih => simp [evL, ih]
structure SD where
 G : List GB
 mb : Nat
 es : Array MapEntry
 clk : Nat
 TR : Value
 O : List (Nat × Obj)
 gs : List GN
 cs : List LCh
 CH : Value
 O2 : List (Nat × Obj)
 evs : List LE
 EV : Value
 O3 : List (Nat × Obj)
structure SOk (P : List LC) (pA : Option Addr) (pc : Nat) (s : SS) (d : SD) (F : List (World → Prop)) : Prop where
 bm : BM d.G 3 d.es d.TR d.O F
 hB : bnd d.G = s.B
 hg : glsOf d.gs = s.goals
 rg : Und F (PR d.gs)
 hc : d.cs.map LCh.ch = s.ch
 rc : ∀ c ∈ d.cs, Und F (ChRd c)
 row2 : Row 72 3 d.CH d.cs.length (chL d.cs.reverse) d.O2
 he : d.evs.map (fun e => e.T.ts) = s.ev
 re : ∀ e ∈ d.evs, Und F (ArA e.A e.c e.T)
 row3 : Row 47 2 d.EV d.evs.length (evL d.evs) d.O3
 rp : Und F (ClsR P pA pc)
theorem SOk.mono {P : List LC} {pA : Option Addr} {pc : Nat} {s : SS} {d : SD} {F F' : List (World → Prop)} (h : SOk P pA pc s d F) (hs : ∀ φ ∈ F, φ ∈ F') : SOk P pA pc s d F' :=
 ⟨h.bm.mono hs, h.hB, h.hg, h.rg.mono hs, h.hc, fun c hc => (h.rc c hc).mono hs, h.row2, h.he, fun e he => (h.re e he).mono hs, h.row3, h.rp.mono hs⟩
abbrev srest (P : List LC) (pA : Option Addr) (pc : Nat) (vars : Nat) (fresh fuel : Nat) (gp CH EV : Value) : List Value := [.slice pA P.length pc, .int .i64 (vars : Nat), .int .i64 (fresh : Nat), .int .i64 (fuel : Nat), gp, CH, EV]
def SSt (M : List Nat) (w0 : World) (H : List (Nat × Obj)) (F0 : List (World → Prop)) (b : Nat) (P : List LC) (pA : Option Addr) (pc vars : Nat) (s : SS) (w : World) : Prop :=
 ∃ (d : SD) (F : List (World → Prop)), (∀ φ ∈ F0, φ ∈ F) ∧ SOk P pA pc s d F ∧ St M w0 ((b, sob d.mb d.TR (srest P pA pc vars s.fresh s.fuel (ptrOf d.gs) d.CH d.EV)) :: (d.mb, .map d.es d.clk) :: (d.O ++ (d.O2 ++ (d.O3 ++ H)))) F w
theorem perm_tail2 {α : Type} (a b : α) (O O2 O3 H : List α) : (a :: b :: (O ++ (O2 ++ (O3 ++ H)))).Perm (a :: b :: (O2 ++ (O ++ (O3 ++ H)))) := .cons _ (.cons _ (List.perm_append_comm_assoc O O2 _))
theorem mid_cells {M : List Nat} {w0 w : World} {H : List (Nat × Obj)} {F : List (World → Prop)} {g o : Nat} {ct : TypeId} {X sp : List Value} {p q r : Value} (hS : St M w0 H F w) (hm : (g, Obj.cells (X ++ p :: q :: r :: sp).toArray ct) ∈ H) (ho : X.length = o) : w.cell? ⟨g, o, none⟩ = some p ∧ w.cell? ⟨g, o + 1, none⟩ = some q ∧ w.cell? ⟨g, o + 2, none⟩ = some r := by
 have hb := hS.own _ hm
 subst ho
 refine ⟨?_, ?_, ?_⟩
 ·rw [cell_own hb, List.getElem?_append_right (Nat.le_refl _), Nat.sub_self]; rfl
 ·rw [cell_own hb, List.getElem?_append_right (by omega), show X.length + 1 - X.length = 1 by omega]; rfl
 ·rw [cell_own hb, List.getElem?_append_right (by omega), show X.length + 2 - X.length = 2 by omega]; rfl
theorem put_mid1 {p q u : Value} {sp : List Value} : ∀ (X : List Value) (o : Nat), X.length = o → Put (X ++ p :: q :: sp) (o + 1) u (X ++ p :: u :: sp)
 | [], o, h => by
  obtain rfl : o = 0 := by simpa using h.symm
  exact .s .z
 | x :: X, o, h => by
  obtain ⟨o, rfl⟩ : ∃ o', o = o' + 1 := ⟨o - 1, by simp at h; omega⟩
  exact .s (put_mid1 X o (by simpa using h))
end Go.Proofs.YthliapbflkfdiabGreat
