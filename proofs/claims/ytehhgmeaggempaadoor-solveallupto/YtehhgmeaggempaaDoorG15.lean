/- RefS9, RefS10, RefS11: texts that follow one another, laid into one file. -/
import Derived.Test.YtehhgmeaggempaaDoorG14
namespace Go.Proofs.YtehhgmeaggempaaDoor
open Go.RowKit
set_option linter.unusedVariables false
set_option linter.unusedSimpArgs false
set_option maxRecDepth 100000
set_option maxHeartbeats 1000000
section
variable {M : List Nat} {w0 : World} {H : List (Nat × Obj)} {F : List (World → Prop)} {X : List LC} {pA : Option Addr} {pc q C D f : Nat}
def addP (pr : List Tg → Bnd → PS → Int × PS) (r : List Tg) (e : Bnd) (p : PS) (x y z : Tm) : Int × PS :=
 if (lookM e x).k ≠ 2 ∨ (lookM e y).k ≠ 2 ∨ 1099511627776 < (lookM e x).n + (lookM e y).n ∨ (lookM e x).n + (lookM e y).n < -1099511627776 then (-1, endP 5 p) else oneP pr r e p z ⟨2, (lookM e x).n + (lookM e y).n, ⟨#[]⟩, .nil⟩
theorem tgd_mkN {n : Int} (h0 : -1099511627776 ≤ n) (h1 : n ≤ 1099511627776) : tgd ⟨2, n, ⟨#[]⟩, .nil⟩ := by
 refine ⟨?_, by simp [Ts.nodes]⟩
 simp only [Ts.good, Bool.and_eq_true, and_true]
 unfold nodeB
 rw [if_neg (by decide), if_neg (by decide), if_pos rfl]
 simp only [Bool.and_eq_true, decide_eq_true_eq]
 exact ⟨⟨⟨by omega, by omega⟩, toList_mk []⟩, rfl⟩
theorem simple_add (hpr : PrC X pA pc q C D f) (g : GN) (r : List GN) (E : List EN) (pb : Nat) (p : PS) (w : World) (hX : Und F (ClsR X pA pc)) (hr : Und F (TdR (g :: r))) (hg : ∀ x ∈ g :: r, tgd x.t.tm) (hE : EOk F E) (hf : p.fuel ≤ f) (hB : BdI C D p) (h4 : g.t.s.toList = [97, 100, 100]) (hlen : g.t.ar.len = 3) (hP : PSt M w0 H F pb pA X.length pc q p w) :
  Calls Tryd.prog 80 #[.pointer (some ⟨pb, 0, none⟩), ptrOf (g :: r), eptr E] w fun e w' => ∃ F' : List (World → Prop), e = .returned (.int .i64 (addP (proveM (X.map LC.cl) q f) (glsOf r) (envB E) p (g.t.ar.ts.at_ 0) (g.t.ar.ts.at_ 1) (g.t.ar.ts.at_ 2)).1) ∧ (∀ φ ∈ F, φ ∈ F') ∧ PSt M w0 H F' pb pA X.length pc q (addP (proveM (X.map LC.cl) q f) (glsOf r) (envB E) p (g.t.ar.ts.at_ 0) (g.t.ar.ts.at_ 1) (g.t.ar.ts.at_ 2)).2 w' := by
 have hpc : ∀ {F' : List (World → Prop)} {H' : List (Nat × Obj)} (hF : ∀ φ ∈ F, φ ∈ F') (w' : World), St M w0 H' F' w' → _ := fun hF w' hS => (hS.und (hr.mono hF)).cells
 have hF0 : ∀ φ ∈ F, φ ∈ F := fun _ h => h
 have e4 := (toList_iff [97, 100, 100]).1 h4
 have e1 : g.t.s ≠ ⟨#[33]⟩ := by rw [e4]; decide
 have e2 : g.t.s ≠ ⟨#[116, 114, 117, 101]⟩ := by rw [e4]; decide
 have e5 : g.t.s ≠ ⟨#[101, 113]⟩ := by rw [e4]; decide
 have e7 : g.t.s ≠ ⟨#[108, 101, 115, 115]⟩ := by rw [e4]; decide
 have e3 : g.t.s ≠ ⟨#[102, 97, 105, 108]⟩ := by rw [e4]; decide
 have hrt : Und F (LRd g.t) := hr.imp fun w h => h.2.1
 have hrr : Und F (TdR r) := hr.imp fun w h => h.2.2
 have hgr : ∀ x ∈ r, tgd x.t.tm := fun x hx => hg x (.tail _ hx)
 have hdown := tgd_down _ (hg g (.head _))
 obtain ⟨x, y, z, hT⟩ := three_of (T := g.t.ar) hlen
 obtain ⟨⟨gk, gn, gs_, gA, gc, gar⟩, go_, gb⟩ := g
 dsimp only at *
 subst hT
 have hra := hrt
 unfold LRd at hra
 dsimp only at hra
 obtain ⟨K, oA, oc, O, hK, hKr, hrow, hS⟩ := hP
 obtain ⟨b6, o6, rfl⟩ := (hS.und hra).some_ (by simp [TA.len])
 have hcA : ∀ {H'} w', St M w0 H' F w' → _ := fun w' hS => ArA.cells (D := .nil) (hS.und hra)
 have hcB : ∀ {H'} w', St M w0 H' F w' → _ := fun w' hS => ArA.cells (D := .cons x.k x.n x.s x.A x.c x.ar .nil) (hS.und hra)
 have hrx : Und F (LRd x) := hra.imp fun w h => ArA.sub (D := .nil) h
 have hry : Und F (LRd y) := hra.imp fun w h => ArA.sub (D := .cons x.k x.n x.s x.A x.c x.ar .nil) h
 have tx : tgd x.tm := hdown x.tm (.inl rfl)
 have ty_ : tgd y.tm := hdown y.tm (.inr (.inl rfl))
 have hcC : ∀ {H'} w', St M w0 H' F w' → _ := fun w' hS => ArA.cells (D := .cons x.k x.n x.s x.A x.c x.ar (.cons y.k y.n y.s y.A y.c y.ar .nil)) (hS.und hra)
 have hrz : Und F (LRd z) := hra.imp fun w h => ArA.sub (D := .cons x.k x.n x.s x.A x.c x.ar (.cons y.k y.n y.s y.A y.c y.ar .nil)) h
 have tz : tgd z.tm := hdown z.tm (.inr (.inr (.inl rfl)))
 have hlen2 : (TA.cons x.k x.n x.s x.A x.c x.ar (TA.cons y.k y.n y.s y.A y.c y.ar (TA.cons z.k z.n z.s z.A z.c z.ar TA.nil))).len = 3 := rfl
 have hres : addP (proveM (X.map LC.cl) q f) (glsOf r) (envB E) p ((TA.cons x.k x.n x.s x.A x.c x.ar (TA.cons y.k y.n y.s y.A y.c y.ar (TA.cons z.k z.n z.s z.A z.c z.ar TA.nil))).ts.at_ 0) ((TA.cons x.k x.n x.s x.A x.c x.ar (TA.cons y.k y.n y.s y.A y.c y.ar (TA.cons z.k z.n z.s z.A z.c z.ar TA.nil))).ts.at_ 1) ((TA.cons x.k x.n x.s x.A x.c x.ar (TA.cons y.k y.n y.s y.A y.c y.ar (TA.cons z.k z.n z.s z.A z.c z.ar TA.nil))).ts.at_ 2) = if (lookM (envB E) x.tm).k ≠ 2 ∨ (lookM (envB E) y.tm).k ≠ 2 ∨ 1099511627776 < (lookM (envB E) x.tm).n + (lookM (envB E) y.tm).n ∨ (lookM (envB E) x.tm).n + (lookM (envB E) y.tm).n < -1099511627776 then (-1, endP 5 p) else oneP (proveM (X.map LC.cl) q f) (glsOf r) (envB E) p z.tm ⟨2, (lookM (envB E) x.tm).n + (lookM (envB E) y.tm).n, ⟨#[]⟩, .nil⟩ := rfl
 rw [hres]
 clear hres
 have ho := hB.o
 refine goes_enter3 Tryd.func80 rfl Tryd.ntmps80 rfl ?_
 refine goes_seq ?_
 refine goes_region ?_
 refine lst_run (run_assign (by conv=>lhs;whnf)) rfl ?_
 refine lst_done ?_
 refine goes_seq ?_
 refine goes_seq ?_
 refine goes_region ?_
 refine lst_run (run_move (by conv=>lhs;whnf)) rfl ?_
 refine lst_run (run_nilCheck rfl) rfl ?_
 refine lst_run (run_fieldAddr (off := 0) rfl rfl) rfl ?_
 refine lst_run (run_fieldAddr (off := 2) rfl rfl) rfl ?_
 refine lst_run (run_load1 rfl rfl (by exact (hpc hF0 _ hS).2.2.1)) rfl ?_
 refine lst_done ?_
 refine goes_block ?_
 refine goes_seq ?_
 refine goes_region ?_
 refine lst_run (run_eqlS_f rfl rfl (by assumption)) rfl ?_
 refine lst_run (run_assign (by conv=>lhs;whnf)) rfl ?_
 refine lst_done ?_
 refine goes_false rfl ?_
 refine goes_seq ?_
 refine goes_region ?_
 refine lst_run (run_eqlS_f rfl rfl (by assumption)) rfl ?_
 refine lst_run (run_assign (by conv=>lhs;whnf)) rfl ?_
 refine lst_done ?_
 refine goes_false rfl ?_
 refine goes_seq ?_
 refine goes_region ?_
 refine lst_run (run_eqlS_f rfl rfl (by assumption)) rfl ?_
 refine lst_run (run_assign (by conv=>lhs;whnf)) rfl ?_
 refine lst_done ?_
 refine goes_false rfl ?_
 refine goes_skip ?_
 refine goes_inBlock ?_
 refine goes_seq ?_
 refine goes_region ?_
 refine lst_run (run_move (by conv=>lhs;whnf)) rfl ?_
 refine lst_run (run_nilCheck rfl) rfl ?_
 refine lst_run (run_fieldAddr (off := 0) rfl rfl) rfl ?_
 refine lst_run (run_fieldAddr (off := 3) rfl rfl) rfl ?_
 refine lst_run (run_load1 rfl rfl (by exact (hpc hF0 _ hS).2.2.2.1)) rfl ?_
 refine lst_run (run_assign (by conv=>lhs;whnf)) rfl ?_
 refine lst_done ?_
 refine goes_seq ?_
 refine goes_seq ?_
 refine goes_region ?_
 refine lst_run (run_move (by conv=>lhs;whnf)) rfl ?_
 refine lst_run (run_nilCheck rfl) rfl ?_
 refine lst_run (run_fieldAddr (off := 0) rfl rfl) rfl ?_
 refine lst_run (run_fieldAddr (off := 2) rfl rfl) rfl ?_
 refine lst_run (run_load1 rfl rfl (by exact (hpc hF0 _ hS).2.2.1)) rfl ?_
 refine lst_run (run_neqS_t rfl rfl (by assumption)) rfl ?_
 refine lst_done ?_
 refine goes_true rfl ?_
 refine goes_seq ?_
 refine goes_meet2 9 10 (65 :: 66 :: 67 :: 68 :: 69 :: 70 :: 71 :: 72 :: 73 :: 74 :: []) (fun y_ z_ w' => ∃ (b5 b6 : Nat) (u v : LT), y_ = .pointer (some ⟨b5, 0, none⟩) ∧ z_ = .pointer (some ⟨b6, 0, none⟩) ∧ u.tm = lookM (envB E) x.tm ∧ v.tm = lookM (envB E) y.tm ∧ St M w0 ((b5, .cells (tcs u).toArray 24) :: (b6, .cells (tcs v).toArray 24) :: (pb, .cells (pcsP pA X.length pc q p oA K.length oc).toArray 101) :: (O ++ H)) F w') ?_ ?_
 ·intro hmeet
  refine goes_plan (St _ _ _ _) 12 (.read 0 (.read 1 (.read 2 (.read 3 (.read 5 (.read 6 (.read 7 (.read 8 (.pick 4 (.pick 9 (.pick 10 (.pick 11 .tail .none) (.pick 11 (.pick 10 .tail .none) .none)) (.pick 10 (.pick 9 (.pick 11 .tail .none) (.pick 11 (.pick 9 .tail .none) .none)) (.pick 11 (.pick 9 (.pick 10 .tail .none) (.pick 10 (.pick 9 .tail .none) .none)) .none))) (.pick 10 (.pick 4 (.pick 9 (.pick 11 .tail .none) (.pick 11 (.pick 9 .tail .none) .none)) (.pick 11 (.pick 4 (.pick 9 .tail .none) .none) .none)) (.pick 11 (.pick 4 (.pick 9 (.pick 10 .tail .none) (.pick 10 (.pick 9 .tail .none) .none)) (.pick 10 (.pick 4 (.pick 9 .tail .none) .none) .none)) .none))))))))))) (by kernel_rfl) (by kernel_rfl) hS.drew ?_
  replace hS := hS.drew
  refine pln_read rfl (fun _ hS => run_move (by conv=>lhs;whnf)) rfl ?_
  refine pln_read rfl (fun _ hS => run_move (by conv=>lhs;whnf)) rfl ?_
  refine pln_read rfl (fun _ hS => run_indexAddr (sz := 4) rfl rfl rfl rfl (by omega) (by omega)) rfl ?_
  refine pln_read rfl (fun _ hS => run_load4 rfl rfl rfl (by exact (hcA _ hS).1) (by exact (hcA _ hS).2.1) (by exact (hcA _ hS).2.2.1) (by exact (hcA _ hS).2.2.2)) rfl ?_
  refine pln_read rfl (fun _ hS => run_move (by conv=>lhs;whnf)) rfl ?_
  refine pln_read rfl (fun _ hS => run_move (by conv=>lhs;whnf)) rfl ?_
  refine pln_read rfl (fun _ hS => run_indexAddr (sz := 4) rfl rfl rfl rfl (by omega) (by omega)) rfl ?_
  refine pln_read rfl (fun _ hS => run_load4 rfl rfl rfl (by exact (hcB _ hS).1) (by exact (hcB _ hS).2.1) (by exact (hcB _ hS).2.2.1) (by exact (hcB _ hS).2.2.2)) rfl ?_
  refine pln_pick rfl ?_ ?_
  ·refine lst_enter (run_call (by kernel_rfl) (args_2 (by conv=>lhs;whnf) (by conv=>lhs;whnf))) rfl ?_
   refine Calls.mono (elook_any E x _ hE.rd hrx hE.ok hS) ?_
   rintro _ w5 ⟨u, rfl, hu1, hu2, hu3, hS'⟩
   refine ⟨_, rfl, ?_⟩
   replace hS := hS'
   clear hS'
   refine lst_pln (by exact hS) ?_
   refine pln_pick rfl ?_ ?_
   ·refine lst_enter (run_call (by kernel_rfl) (args_2 (by conv=>lhs;whnf) (by conv=>lhs;whnf))) rfl ?_
    refine Calls.mono (elook_any E y _ hE.rd hry hE.ok hS) ?_
    rintro _ w6 ⟨v, rfl, hv1, hv2, hv3, hS'⟩
    refine ⟨_, rfl, ?_⟩
    replace hS := hS'
    clear hS'
    refine lst_pln (by exact hS) ?_
    refine pln_pick rfl ?_ ?_
    ·refine lst_alloc (cs := [_, _, _, _]) hS rfl rfl rfl ?_
     clear hS
     intro b1 wx1 hS
     refine lst_pln (by exact hS.drop) ?_
     refine pln_last rfl ?_
     refine lst_alloc (cs := [_, _, _, _]) hS rfl rfl rfl ?_
     clear hS
     intro b2 wx2 hS
     refine lst_pln (by exact hS.drop.drop) ?_
     refine pln_tail ?_
     refine lst_storeN hS rfl (by conv=>lhs;whnf) rfl rfl (by exact .tail .head) (by repeat constructor) (by exact .tail .head) ?_
     clear hS
     intro wx3 hS
     refine lst_storeN hS rfl (by conv=>lhs;whnf) rfl rfl (by exact .head) (by repeat constructor) (by exact .head) ?_
     clear hS
     intro wx4 hS
     refine lst_done ?_
     first | exact hmeet _ _ _ _ ⟨_, _, u, v, rfl, rfl, hu1, hv1, hS⟩ (by conv=>lhs;whnf) (by conv=>lhs;whnf) (by kernel_rfl) | exact hmeet _ _ _ _ ⟨_, _, u, v, rfl, rfl, hu1, hv1, hS.perm (List.Perm.swap _ _ _)⟩ (by conv=>lhs;whnf) (by conv=>lhs;whnf) (by kernel_rfl)
    refine pln_last rfl ?_
    refine lst_alloc (cs := [_, _, _, _]) hS rfl rfl rfl ?_
    clear hS
    intro b3 wx5 hS
    refine lst_pln (by exact hS.drop) ?_
    refine pln_last rfl ?_
    refine lst_alloc (cs := [_, _, _, _]) hS rfl rfl rfl ?_
    clear hS
    intro b4 wx6 hS
    refine lst_pln (by exact hS.drop.drop) ?_
    refine pln_tail ?_
    refine lst_storeN hS rfl (by conv=>lhs;whnf) rfl rfl (by exact .head) (by repeat constructor) (by exact .head) ?_
    clear hS
    intro wx7 hS
    refine lst_storeN hS rfl (by conv=>lhs;whnf) rfl rfl (by exact .tail .head) (by repeat constructor) (by exact .tail .head) ?_
    clear hS
    intro wx8 hS
    refine lst_done ?_
    first | exact hmeet _ _ _ _ ⟨_, _, u, v, rfl, rfl, hu1, hv1, hS⟩ (by conv=>lhs;whnf) (by conv=>lhs;whnf) (by kernel_rfl) | exact hmeet _ _ _ _ ⟨_, _, u, v, rfl, rfl, hu1, hv1, hS.perm (List.Perm.swap _ _ _)⟩ (by conv=>lhs;whnf) (by conv=>lhs;whnf) (by kernel_rfl)
   refine pln_pick rfl ?_ ?_
   ·refine lst_alloc (cs := [_, _, _, _]) hS rfl rfl rfl ?_
    clear hS
    intro b5 wx9 hS
    refine lst_pln (by exact hS.drop) ?_
    refine pln_pick rfl ?_ ?_
    ·refine lst_enter (run_call (by kernel_rfl) (args_2 (by conv=>lhs;whnf) (by conv=>lhs;whnf))) rfl ?_
     refine Calls.mono (elook_any E y _ hE.rd hry hE.ok hS) ?_
     rintro _ w6 ⟨v, rfl, hv1, hv2, hv3, hS'⟩
     refine ⟨_, rfl, ?_⟩
     replace hS := hS'
     clear hS'
     refine lst_pln (by exact hS.drop) ?_
     refine pln_last rfl ?_
     refine lst_alloc (cs := [_, _, _, _]) hS rfl rfl rfl ?_
     clear hS
     intro b6 wx10 hS
     refine lst_pln (by exact hS.drop.drop) ?_
     refine pln_tail ?_
     refine lst_storeN hS rfl (by conv=>lhs;whnf) rfl rfl (by exact .tail .head) (by repeat constructor) (by exact .tail .head) ?_
     clear hS
     intro wx11 hS
     refine lst_storeN hS rfl (by conv=>lhs;whnf) rfl rfl (by exact .head) (by repeat constructor) (by exact .head) ?_
     clear hS
     intro wx12 hS
     refine lst_done ?_
     first | exact hmeet _ _ _ _ ⟨_, _, u, v, rfl, rfl, hu1, hv1, hS⟩ (by conv=>lhs;whnf) (by conv=>lhs;whnf) (by kernel_rfl) | exact hmeet _ _ _ _ ⟨_, _, u, v, rfl, rfl, hu1, hv1, hS.perm (List.Perm.swap _ _ _)⟩ (by conv=>lhs;whnf) (by conv=>lhs;whnf) (by kernel_rfl)
    refine pln_last rfl ?_
    refine lst_alloc (cs := [_, _, _, _]) hS rfl rfl rfl ?_
    clear hS
    intro b7 wx13 hS
    refine lst_pln (by exact hS.drop.drop) ?_
    refine pln_last rfl ?_
    refine lst_enter (run_call (by kernel_rfl) (args_2 (by conv=>lhs;whnf) (by conv=>lhs;whnf))) rfl ?_
    refine Calls.mono (elook_any E y _ hE.rd hry hE.ok hS) ?_
    rintro _ w6 ⟨v, rfl, hv1, hv2, hv3, hS'⟩
    refine ⟨_, rfl, ?_⟩
    replace hS := hS'
    clear hS'
    refine lst_pln (by exact hS.drop.drop) ?_
    refine pln_tail ?_
    refine lst_storeN hS rfl (by conv=>lhs;whnf) rfl rfl (by exact .tail .head) (by repeat constructor) (by exact .tail .head) ?_
    clear hS
    intro wx14 hS
    refine lst_storeN hS rfl (by conv=>lhs;whnf) rfl rfl (by exact .head) (by repeat constructor) (by exact .head) ?_
    clear hS
    intro wx15 hS
    refine lst_done ?_
    first | exact hmeet _ _ _ _ ⟨_, _, u, v, rfl, rfl, hu1, hv1, hS⟩ (by conv=>lhs;whnf) (by conv=>lhs;whnf) (by kernel_rfl) | exact hmeet _ _ _ _ ⟨_, _, u, v, rfl, rfl, hu1, hv1, hS.perm (List.Perm.swap _ _ _)⟩ (by conv=>lhs;whnf) (by conv=>lhs;whnf) (by kernel_rfl)
   refine pln_last rfl ?_
   refine lst_alloc (cs := [_, _, _, _]) hS rfl rfl rfl ?_
   clear hS
   intro b8 wx16 hS
   refine lst_pln (by exact hS.drop) ?_
   refine pln_pick rfl ?_ ?_
   ·refine lst_enter (run_call (by kernel_rfl) (args_2 (by conv=>lhs;whnf) (by conv=>lhs;whnf))) rfl ?_
    refine Calls.mono (elook_any E y _ hE.rd hry hE.ok hS) ?_
    rintro _ w6 ⟨v, rfl, hv1, hv2, hv3, hS'⟩
    refine ⟨_, rfl, ?_⟩
    replace hS := hS'
    clear hS'
    refine lst_pln (by exact hS.drop) ?_
    refine pln_last rfl ?_
    refine lst_alloc (cs := [_, _, _, _]) hS rfl rfl rfl ?_
    clear hS
    intro b9 wx17 hS
    refine lst_pln (by exact hS.drop.drop) ?_
    refine pln_tail ?_
    refine lst_storeN hS rfl (by conv=>lhs;whnf) rfl rfl (by exact .head) (by repeat constructor) (by exact .head) ?_
    clear hS
    intro wx18 hS
    refine lst_storeN hS rfl (by conv=>lhs;whnf) rfl rfl (by exact .tail .head) (by repeat constructor) (by exact .tail .head) ?_
    clear hS
    intro wx19 hS
    refine lst_done ?_
    first | exact hmeet _ _ _ _ ⟨_, _, u, v, rfl, rfl, hu1, hv1, hS⟩ (by conv=>lhs;whnf) (by conv=>lhs;whnf) (by kernel_rfl) | exact hmeet _ _ _ _ ⟨_, _, u, v, rfl, rfl, hu1, hv1, hS.perm (List.Perm.swap _ _ _)⟩ (by conv=>lhs;whnf) (by conv=>lhs;whnf) (by kernel_rfl)
   refine pln_last rfl ?_
   refine lst_alloc (cs := [_, _, _, _]) hS rfl rfl rfl ?_
   clear hS
   intro b10 wx20 hS
   refine lst_pln (by exact hS.drop.drop) ?_
   refine pln_last rfl ?_
   refine lst_enter (run_call (by kernel_rfl) (args_2 (by conv=>lhs;whnf) (by conv=>lhs;whnf))) rfl ?_
   refine Calls.mono (elook_any E y _ hE.rd hry hE.ok hS) ?_
   rintro _ w6 ⟨v, rfl, hv1, hv2, hv3, hS'⟩
   refine ⟨_, rfl, ?_⟩
   replace hS := hS'
   clear hS'
   refine lst_pln (by exact hS.drop.drop) ?_
   refine pln_tail ?_
   refine lst_storeN hS rfl (by conv=>lhs;whnf) rfl rfl (by exact .head) (by repeat constructor) (by exact .head) ?_
   clear hS
   intro wx21 hS
   refine lst_storeN hS rfl (by conv=>lhs;whnf) rfl rfl (by exact .tail .head) (by repeat constructor) (by exact .tail .head) ?_
   clear hS
   intro wx22 hS
   refine lst_done ?_
   first | exact hmeet _ _ _ _ ⟨_, _, u, v, rfl, rfl, hu1, hv1, hS⟩ (by conv=>lhs;whnf) (by conv=>lhs;whnf) (by kernel_rfl) | exact hmeet _ _ _ _ ⟨_, _, u, v, rfl, rfl, hu1, hv1, hS.perm (List.Perm.swap _ _ _)⟩ (by conv=>lhs;whnf) (by conv=>lhs;whnf) (by kernel_rfl)
  refine pln_pick rfl ?_ ?_
  ·refine lst_alloc (cs := [_, _, _, _]) hS rfl rfl rfl ?_
   clear hS
   intro b11 wx23 hS
   refine lst_pln (by exact hS.drop) ?_
   refine pln_pick rfl ?_ ?_
   ·refine lst_enter (run_call (by kernel_rfl) (args_2 (by conv=>lhs;whnf) (by conv=>lhs;whnf))) rfl ?_
    refine Calls.mono (elook_any E x _ hE.rd hrx hE.ok hS) ?_
    rintro _ w5 ⟨u, rfl, hu1, hu2, hu3, hS'⟩
    refine ⟨_, rfl, ?_⟩
    replace hS := hS'
    clear hS'
    refine lst_pln (by exact hS.drop) ?_
    refine pln_pick rfl ?_ ?_
    ·refine lst_enter (run_call (by kernel_rfl) (args_2 (by conv=>lhs;whnf) (by conv=>lhs;whnf))) rfl ?_
     refine Calls.mono (elook_any E y _ hE.rd hry hE.ok hS) ?_
     rintro _ w6 ⟨v, rfl, hv1, hv2, hv3, hS'⟩
     refine ⟨_, rfl, ?_⟩
     replace hS := hS'
     clear hS'
     refine lst_pln (by exact hS.drop) ?_
     refine pln_last rfl ?_
     refine lst_alloc (cs := [_, _, _, _]) hS rfl rfl rfl ?_
     clear hS
     intro b12 wx24 hS
     refine lst_pln (by exact hS.drop.drop) ?_
     refine pln_tail ?_
     refine lst_storeN hS rfl (by conv=>lhs;whnf) rfl rfl (by exact .tail .head) (by repeat constructor) (by exact .tail .head) ?_
     clear hS
     intro wx25 hS
     refine lst_storeN hS rfl (by conv=>lhs;whnf) rfl rfl (by exact .head) (by repeat constructor) (by exact .head) ?_
     clear hS
     intro wx26 hS
     refine lst_done ?_
     first | exact hmeet _ _ _ _ ⟨_, _, u, v, rfl, rfl, hu1, hv1, hS⟩ (by conv=>lhs;whnf) (by conv=>lhs;whnf) (by kernel_rfl) | exact hmeet _ _ _ _ ⟨_, _, u, v, rfl, rfl, hu1, hv1, hS.perm (List.Perm.swap _ _ _)⟩ (by conv=>lhs;whnf) (by conv=>lhs;whnf) (by kernel_rfl)
    refine pln_last rfl ?_
    refine lst_alloc (cs := [_, _, _, _]) hS rfl rfl rfl ?_
    clear hS
    intro b13 wx27 hS
    refine lst_pln (by exact hS.drop.drop) ?_
    refine pln_last rfl ?_
    refine lst_enter (run_call (by kernel_rfl) (args_2 (by conv=>lhs;whnf) (by conv=>lhs;whnf))) rfl ?_
    refine Calls.mono (elook_any E y _ hE.rd hry hE.ok hS) ?_
    rintro _ w6 ⟨v, rfl, hv1, hv2, hv3, hS'⟩
    refine ⟨_, rfl, ?_⟩
    replace hS := hS'
    clear hS'
    refine lst_pln (by exact hS.drop.drop) ?_
    refine pln_tail ?_
    refine lst_storeN hS rfl (by conv=>lhs;whnf) rfl rfl (by exact .tail .head) (by repeat constructor) (by exact .tail .head) ?_
    clear hS
    intro wx28 hS
    refine lst_storeN hS rfl (by conv=>lhs;whnf) rfl rfl (by exact .head) (by repeat constructor) (by exact .head) ?_
    clear hS
    intro wx29 hS
    refine lst_done ?_
    first | exact hmeet _ _ _ _ ⟨_, _, u, v, rfl, rfl, hu1, hv1, hS⟩ (by conv=>lhs;whnf) (by conv=>lhs;whnf) (by kernel_rfl) | exact hmeet _ _ _ _ ⟨_, _, u, v, rfl, rfl, hu1, hv1, hS.perm (List.Perm.swap _ _ _)⟩ (by conv=>lhs;whnf) (by conv=>lhs;whnf) (by kernel_rfl)
   refine pln_last rfl ?_
   refine lst_alloc (cs := [_, _, _, _]) hS rfl rfl rfl ?_
   clear hS
   intro b14 wx30 hS
   refine lst_pln (by exact hS.drop.drop) ?_
   refine pln_last rfl ?_
   refine lst_enter (run_call (by kernel_rfl) (args_2 (by conv=>lhs;whnf) (by conv=>lhs;whnf))) rfl ?_
   refine Calls.mono (elook_any E x _ hE.rd hrx hE.ok hS) ?_
   rintro _ w5 ⟨u, rfl, hu1, hu2, hu3, hS'⟩
   refine ⟨_, rfl, ?_⟩
   replace hS := hS'
   clear hS'
   refine lst_pln (by exact hS.drop.drop) ?_
   refine pln_last rfl ?_
   refine lst_enter (run_call (by kernel_rfl) (args_2 (by conv=>lhs;whnf) (by conv=>lhs;whnf))) rfl ?_
   refine Calls.mono (elook_any E y _ hE.rd hry hE.ok hS) ?_
   rintro _ w6 ⟨v, rfl, hv1, hv2, hv3, hS'⟩
   refine ⟨_, rfl, ?_⟩
   replace hS := hS'
   clear hS'
   refine lst_pln (by exact hS.drop.drop) ?_
   refine pln_tail ?_
   refine lst_storeN hS rfl (by conv=>lhs;whnf) rfl rfl (by exact .tail .head) (by repeat constructor) (by exact .tail .head) ?_
   clear hS
   intro wx31 hS
   refine lst_storeN hS rfl (by conv=>lhs;whnf) rfl rfl (by exact .head) (by repeat constructor) (by exact .head) ?_
   clear hS
   intro wx32 hS
   refine lst_done ?_
   first | exact hmeet _ _ _ _ ⟨_, _, u, v, rfl, rfl, hu1, hv1, hS⟩ (by conv=>lhs;whnf) (by conv=>lhs;whnf) (by kernel_rfl) | exact hmeet _ _ _ _ ⟨_, _, u, v, rfl, rfl, hu1, hv1, hS.perm (List.Perm.swap _ _ _)⟩ (by conv=>lhs;whnf) (by conv=>lhs;whnf) (by kernel_rfl)
  refine pln_last rfl ?_
  refine lst_alloc (cs := [_, _, _, _]) hS rfl rfl rfl ?_
  clear hS
  intro b15 wx33 hS
  refine lst_pln (by exact hS.drop) ?_
  refine pln_pick rfl ?_ ?_
  ·refine lst_enter (run_call (by kernel_rfl) (args_2 (by conv=>lhs;whnf) (by conv=>lhs;whnf))) rfl ?_
   refine Calls.mono (elook_any E x _ hE.rd hrx hE.ok hS) ?_
   rintro _ w5 ⟨u, rfl, hu1, hu2, hu3, hS'⟩
   refine ⟨_, rfl, ?_⟩
   replace hS := hS'
   clear hS'
   refine lst_pln (by exact hS.drop) ?_
   refine pln_pick rfl ?_ ?_
   ·refine lst_enter (run_call (by kernel_rfl) (args_2 (by conv=>lhs;whnf) (by conv=>lhs;whnf))) rfl ?_
    refine Calls.mono (elook_any E y _ hE.rd hry hE.ok hS) ?_
    rintro _ w6 ⟨v, rfl, hv1, hv2, hv3, hS'⟩
    refine ⟨_, rfl, ?_⟩
    replace hS := hS'
    clear hS'
    refine lst_pln (by exact hS.drop) ?_
    refine pln_last rfl ?_
    refine lst_alloc (cs := [_, _, _, _]) hS rfl rfl rfl ?_
    clear hS
    intro b16 wx34 hS
    refine lst_pln (by exact hS.drop.drop) ?_
    refine pln_tail ?_
    refine lst_storeN hS rfl (by conv=>lhs;whnf) rfl rfl (by exact .head) (by repeat constructor) (by exact .head) ?_
    clear hS
    intro wx35 hS
    refine lst_storeN hS rfl (by conv=>lhs;whnf) rfl rfl (by exact .tail .head) (by repeat constructor) (by exact .tail .head) ?_
    clear hS
    intro wx36 hS
    refine lst_done ?_
    first | exact hmeet _ _ _ _ ⟨_, _, u, v, rfl, rfl, hu1, hv1, hS⟩ (by conv=>lhs;whnf) (by conv=>lhs;whnf) (by kernel_rfl) | exact hmeet _ _ _ _ ⟨_, _, u, v, rfl, rfl, hu1, hv1, hS.perm (List.Perm.swap _ _ _)⟩ (by conv=>lhs;whnf) (by conv=>lhs;whnf) (by kernel_rfl)
   refine pln_last rfl ?_
   refine lst_alloc (cs := [_, _, _, _]) hS rfl rfl rfl ?_
   clear hS
   intro b17 wx37 hS
   refine lst_pln (by exact hS.drop.drop) ?_
   refine pln_last rfl ?_
   refine lst_enter (run_call (by kernel_rfl) (args_2 (by conv=>lhs;whnf) (by conv=>lhs;whnf))) rfl ?_
   refine Calls.mono (elook_any E y _ hE.rd hry hE.ok hS) ?_
   rintro _ w6 ⟨v, rfl, hv1, hv2, hv3, hS'⟩
   refine ⟨_, rfl, ?_⟩
   replace hS := hS'
   clear hS'
   refine lst_pln (by exact hS.drop.drop) ?_
   refine pln_tail ?_
   refine lst_storeN hS rfl (by conv=>lhs;whnf) rfl rfl (by exact .head) (by repeat constructor) (by exact .head) ?_
   clear hS
   intro wx38 hS
   refine lst_storeN hS rfl (by conv=>lhs;whnf) rfl rfl (by exact .tail .head) (by repeat constructor) (by exact .tail .head) ?_
   clear hS
   intro wx39 hS
   refine lst_done ?_
   first | exact hmeet _ _ _ _ ⟨_, _, u, v, rfl, rfl, hu1, hv1, hS⟩ (by conv=>lhs;whnf) (by conv=>lhs;whnf) (by kernel_rfl) | exact hmeet _ _ _ _ ⟨_, _, u, v, rfl, rfl, hu1, hv1, hS.perm (List.Perm.swap _ _ _)⟩ (by conv=>lhs;whnf) (by conv=>lhs;whnf) (by kernel_rfl)
  refine pln_last rfl ?_
  refine lst_alloc (cs := [_, _, _, _]) hS rfl rfl rfl ?_
  clear hS
  intro b18 wx40 hS
  refine lst_pln (by exact hS.drop.drop) ?_
  refine pln_last rfl ?_
  refine lst_enter (run_call (by kernel_rfl) (args_2 (by conv=>lhs;whnf) (by conv=>lhs;whnf))) rfl ?_
  refine Calls.mono (elook_any E x _ hE.rd hrx hE.ok hS) ?_
  rintro _ w5 ⟨u, rfl, hu1, hu2, hu3, hS'⟩
  refine ⟨_, rfl, ?_⟩
  replace hS := hS'
  clear hS'
  refine lst_pln (by exact hS.drop.drop) ?_
  refine pln_last rfl ?_
  refine lst_enter (run_call (by kernel_rfl) (args_2 (by conv=>lhs;whnf) (by conv=>lhs;whnf))) rfl ?_
  refine Calls.mono (elook_any E y _ hE.rd hry hE.ok hS) ?_
  rintro _ w6 ⟨v, rfl, hv1, hv2, hv3, hS'⟩
  refine ⟨_, rfl, ?_⟩
  replace hS := hS'
  clear hS'
  refine lst_pln (by exact hS.drop.drop) ?_
  refine pln_tail ?_
  refine lst_storeN hS rfl (by conv=>lhs;whnf) rfl rfl (by exact .head) (by repeat constructor) (by exact .head) ?_
  clear hS
  intro wx41 hS
  refine lst_storeN hS rfl (by conv=>lhs;whnf) rfl rfl (by exact .tail .head) (by repeat constructor) (by exact .tail .head) ?_
  clear hS
  intro wx42 hS
  refine lst_done ?_
  first | exact hmeet _ _ _ _ ⟨_, _, u, v, rfl, rfl, hu1, hv1, hS⟩ (by conv=>lhs;whnf) (by conv=>lhs;whnf) (by kernel_rfl) | exact hmeet _ _ _ _ ⟨_, _, u, v, rfl, rfl, hu1, hv1, hS.perm (List.Perm.swap _ _ _)⟩ (by conv=>lhs;whnf) (by conv=>lhs;whnf) (by kernel_rfl)
 clear hS
 rintro jv2 _ _ w7 ⟨b5, b6, u, v, rfl, rfl, hu1, hv1, hS⟩
 have tu : tgd u.tm := by rw [hu1]; exact look_Q hE.gd tx
 have tv' : tgd v.tm := by rw [hv1]; exact look_Q hE.gd ty_
 rw [← hu1, ← hv1]
 have hPS : ∀ w', St M w0 ((b5, .cells (tcs u).toArray 24) :: (b6, .cells (tcs v).toArray 24) :: (pb, .cells (pcsP pA X.length pc q p oA K.length oc).toArray 101) :: (O ++ H)) F w' → PSt M w0 H F pb pA X.length pc q p w' := fun w' hS => ⟨K, oA, oc, O, hK, hKr, hrow, hS.drop.drop⟩
 by_cases ku : u.k = 2
 case neg =>
  rw [if_pos (.inl (by exact ku))]
  refine goes_seq ?_
  refine goes_seq ?_
  refine goes_region ?_
  refine lst_run (run_fieldAddr (off := 0) rfl rfl) rfl ?_
  refine lst_run (run_load1_own hS rfl rfl (by exact .head) (by repeat constructor)) rfl ?_
  refine lst_run (run_neq_no rfl rfl (by assumption)) rfl ?_
  refine lst_run (run_move (by conv=>lhs;whnf)) rfl ?_
  refine lst_pass rfl rfl rfl ?_
  refine lst_pass rfl rfl rfl ?_
  refine lst_pass rfl rfl rfl ?_
  refine lst_run (run_pick_t rfl (by conv=>lhs;whnf)) rfl ?_
  refine lst_run (run_move (by conv=>lhs;whnf)) rfl ?_
  refine lst_pass rfl rfl rfl ?_
  refine lst_pass rfl rfl rfl ?_
  refine lst_pass rfl rfl rfl ?_
  refine lst_pass rfl rfl rfl ?_
  refine lst_pass rfl rfl rfl ?_
  refine lst_pass rfl rfl rfl ?_
  refine lst_pass rfl rfl rfl ?_
  refine lst_passU rfl rfl ?_
  refine lst_passU rfl rfl ?_
  refine lst_passU rfl rfl ?_
  refine lst_passU rfl rfl ?_
  refine lst_passU rfl rfl ?_
  refine lst_passU rfl rfl ?_
  refine lst_passU rfl rfl ?_
  refine lst_passU rfl rfl ?_
  refine lst_passU rfl rfl ?_
  refine lst_passU rfl rfl ?_
  refine lst_passU rfl rfl ?_
  refine lst_passU rfl rfl ?_
  refine lst_passU rfl rfl ?_
  refine lst_passU rfl rfl ?_
  refine lst_pass rfl rfl rfl ?_
  refine lst_run (run_pick_t rfl (by conv=>lhs;whnf)) rfl ?_
  refine lst_done ?_
  refine goes_true rfl ?_
  refine goes_seq ?_
  refine goes_region ?_
  refine lst_run (run_move (by conv=>lhs;whnf)) rfl ?_
  refine lst_enter (run_call (by kernel_rfl) (args_2 (by conv=>lhs;whnf) (by conv=>lhs;whnf))) rfl ?_
  refine Calls.mono (end_any pb pA X.length pc q p 5 _ (by omega) (hPS _ hS)) ?_
  rintro _ w8 ⟨rfl, hP'⟩
  refine ⟨_, rfl, ?_⟩
  refine lst_run (run_assign (by conv=>lhs;whnf)) rfl ?_
  refine lst_done ?_
  refine goes_ret1 Tryd.func80 rfl (by conv=>lhs;whnf) ?_
  exact ⟨F, rfl, hF0, hP'⟩
 by_cases kv : v.k = 2
 case neg =>
  rw [if_pos (.inr (.inl (by exact kv)))]
  refine goes_seq ?_
  refine goes_seq ?_
  refine goes_region ?_
  refine lst_run (run_fieldAddr (off := 0) rfl rfl) rfl ?_
  refine lst_run (run_load1_own hS rfl rfl (by exact .head) (by repeat constructor)) rfl ?_
  refine lst_run (run_neq_yes rfl rfl (by omega)) rfl ?_
  refine lst_run (run_move (by conv=>lhs;whnf)) rfl ?_
  refine lst_guard rfl rfl ?_
  refine lst_run (run_fieldAddr (off := 0) rfl rfl) rfl ?_
  refine lst_guard rfl rfl ?_
  refine lst_run (run_load1_own hS rfl rfl (by exact .tail .head) (by repeat constructor)) rfl ?_
  refine lst_guard rfl rfl ?_
  refine lst_run (run_neq_no rfl rfl (by assumption)) rfl ?_
  refine lst_run (run_pick_f rfl (by conv=>lhs;whnf)) rfl ?_
  refine lst_run (run_move (by conv=>lhs;whnf)) rfl ?_
  refine lst_pass rfl rfl rfl ?_
  refine lst_pass rfl rfl rfl ?_
  refine lst_pass rfl rfl rfl ?_
  refine lst_pass rfl rfl rfl ?_
  refine lst_pass rfl rfl rfl ?_
  refine lst_pass rfl rfl rfl ?_
  refine lst_pass rfl rfl rfl ?_
  refine lst_passU rfl rfl ?_
  refine lst_passU rfl rfl ?_
  refine lst_passU rfl rfl ?_
  refine lst_passU rfl rfl ?_
  refine lst_passU rfl rfl ?_
  refine lst_passU rfl rfl ?_
  refine lst_passU rfl rfl ?_
  refine lst_passU rfl rfl ?_
  refine lst_passU rfl rfl ?_
  refine lst_passU rfl rfl ?_
  refine lst_passU rfl rfl ?_
  refine lst_passU rfl rfl ?_
  refine lst_passU rfl rfl ?_
  refine lst_passU rfl rfl ?_
  refine lst_pass rfl rfl rfl ?_
  refine lst_run (run_pick_t rfl (by conv=>lhs;whnf)) rfl ?_
  refine lst_done ?_
  refine goes_true rfl ?_
  refine goes_seq ?_
  refine goes_region ?_
  refine lst_run (run_move (by conv=>lhs;whnf)) rfl ?_
  refine lst_enter (run_call (by kernel_rfl) (args_2 (by conv=>lhs;whnf) (by conv=>lhs;whnf))) rfl ?_
  refine Calls.mono (end_any pb pA X.length pc q p 5 _ (by omega) (hPS _ hS)) ?_
  rintro _ w8 ⟨rfl, hP'⟩
  refine ⟨_, rfl, ?_⟩
  refine lst_run (run_assign (by conv=>lhs;whnf)) rfl ?_
  refine lst_done ?_
  refine goes_ret1 Tryd.func80 rfl (by conv=>lhs;whnf) ?_
  exact ⟨F, rfl, hF0, hP'⟩
 have nu : -1099511627776 ≤ u.n ∧ u.n ≤ 1099511627776 := tgd_num tu ku
 have nv : -1099511627776 ≤ v.n ∧ v.n ≤ 1099511627776 := tgd_num tv' kv
 by_cases h8 : 1099511627776 < u.n + v.n
 ·rw [if_pos (.inr (.inr (.inl (by exact h8))))]
  refine goes_seq ?_
  refine goes_seq ?_
  refine goes_region ?_
  refine lst_run (run_fieldAddr (off := 0) rfl rfl) rfl ?_
  refine lst_run (run_load1_own hS rfl rfl (by exact .head) (by repeat constructor)) rfl ?_
  refine lst_run (run_neq_yes rfl rfl (by omega)) rfl ?_
  refine lst_run (run_move (by conv=>lhs;whnf)) rfl ?_
  refine lst_guard rfl rfl ?_
  refine lst_run (run_fieldAddr (off := 0) rfl rfl) rfl ?_
  refine lst_guard rfl rfl ?_
  refine lst_run (run_load1_own hS rfl rfl (by exact .tail .head) (by repeat constructor)) rfl ?_
  refine lst_guard rfl rfl ?_
  refine lst_run (run_neq_yes rfl rfl (by omega)) rfl ?_
  refine lst_run (run_pick_f rfl (by conv=>lhs;whnf)) rfl ?_
  refine lst_run (run_move (by conv=>lhs;whnf)) rfl ?_
  refine lst_guard rfl rfl ?_
  refine lst_run (run_move (by conv=>lhs;whnf)) rfl ?_
  refine lst_guard rfl rfl ?_
  refine lst_run (run_nilCheck rfl) rfl ?_
  refine lst_guard rfl rfl ?_
  refine lst_run (run_fieldAddr (off := 0) rfl rfl) rfl ?_
  refine lst_guard rfl rfl ?_
  refine lst_run (run_fieldAddr (off := 2) rfl rfl) rfl ?_
  refine lst_guard rfl rfl ?_
  refine lst_run (run_load1 rfl rfl (by exact (hpc hF0 _ hS).2.2.1)) rfl ?_
  refine lst_guard rfl rfl ?_
  refine lst_run (run_eqlS_t rfl rfl (by assumption)) rfl ?_
  refine lst_guard rfl rfl ?_
  refine lst_run (run_move (by conv=>lhs;whnf)) rfl ?_
  refine lst_guard rfl rfl ?_
  refine lst_run (run_fieldAddr (off := 1) rfl rfl) rfl ?_
  refine lst_guard rfl rfl ?_
  refine lst_run (run_load1_own hS rfl rfl (by exact .head) (by repeat constructor)) rfl ?_
  refine lst_guard rfl rfl ?_
  refine lst_run (run_fieldAddr (off := 1) rfl rfl) rfl ?_
  refine lst_guard rfl rfl ?_
  refine lst_run (run_load1_own hS rfl rfl (by exact .tail .head) (by repeat constructor)) rfl ?_
  refine lst_guard rfl rfl ?_
  refine lst_run (run_add rfl rfl (by omega) (by omega)) rfl ?_
  refine lst_guard rfl rfl ?_
  refine lst_run (run_gtr_yes rfl rfl (by omega)) rfl ?_
  refine lst_guard rfl rfl ?_
  refine lst_run (run_move (by conv=>lhs;whnf)) rfl ?_
  refine lst_pass rfl rfl rfl ?_
  refine lst_pass rfl rfl rfl ?_
  refine lst_pass rfl rfl rfl ?_
  refine lst_pass rfl rfl rfl ?_
  refine lst_pass rfl rfl rfl ?_
  refine lst_pass rfl rfl rfl ?_
  refine lst_guard rfl rfl ?_
  refine lst_run (run_pick_t rfl (by conv=>lhs;whnf)) rfl ?_
  refine lst_guard rfl rfl ?_
  refine lst_run (run_pick_t rfl (by conv=>lhs;whnf)) rfl ?_
  refine lst_run (run_pick_f rfl (by conv=>lhs;whnf)) rfl ?_
  refine lst_done ?_
  refine goes_true rfl ?_
  refine goes_seq ?_
  refine goes_region ?_
  refine lst_run (run_move (by conv=>lhs;whnf)) rfl ?_
  refine lst_enter (run_call (by kernel_rfl) (args_2 (by conv=>lhs;whnf) (by conv=>lhs;whnf))) rfl ?_
  refine Calls.mono (end_any pb pA X.length pc q p 5 _ (by omega) (hPS _ hS)) ?_
  rintro _ w8 ⟨rfl, hP'⟩
  refine ⟨_, rfl, ?_⟩
  refine lst_run (run_assign (by conv=>lhs;whnf)) rfl ?_
  refine lst_done ?_
  refine goes_ret1 Tryd.func80 rfl (by conv=>lhs;whnf) ?_
  exact ⟨F, rfl, hF0, hP'⟩
 by_cases h9 : u.n + v.n < -1099511627776
 ·rw [if_pos (.inr (.inr (.inr (by exact h9))))]
  refine goes_seq ?_
  refine goes_seq ?_
  refine goes_region ?_
  refine lst_run (run_fieldAddr (off := 0) rfl rfl) rfl ?_
  refine lst_run (run_load1_own hS rfl rfl (by exact .head) (by repeat constructor)) rfl ?_
  refine lst_run (run_neq_yes rfl rfl (by omega)) rfl ?_
  refine lst_run (run_move (by conv=>lhs;whnf)) rfl ?_
  refine lst_guard rfl rfl ?_
  refine lst_run (run_fieldAddr (off := 0) rfl rfl) rfl ?_
  refine lst_guard rfl rfl ?_
  refine lst_run (run_load1_own hS rfl rfl (by exact .tail .head) (by repeat constructor)) rfl ?_
  refine lst_guard rfl rfl ?_
  refine lst_run (run_neq_yes rfl rfl (by omega)) rfl ?_
  refine lst_run (run_pick_f rfl (by conv=>lhs;whnf)) rfl ?_
  refine lst_run (run_move (by conv=>lhs;whnf)) rfl ?_
  refine lst_guard rfl rfl ?_
  refine lst_run (run_move (by conv=>lhs;whnf)) rfl ?_
  refine lst_guard rfl rfl ?_
  refine lst_run (run_nilCheck rfl) rfl ?_
  refine lst_guard rfl rfl ?_
  refine lst_run (run_fieldAddr (off := 0) rfl rfl) rfl ?_
  refine lst_guard rfl rfl ?_
  refine lst_run (run_fieldAddr (off := 2) rfl rfl) rfl ?_
  refine lst_guard rfl rfl ?_
  refine lst_run (run_load1 rfl rfl (by exact (hpc hF0 _ hS).2.2.1)) rfl ?_
  refine lst_guard rfl rfl ?_
  refine lst_run (run_eqlS_t rfl rfl (by assumption)) rfl ?_
  refine lst_guard rfl rfl ?_
  refine lst_run (run_move (by conv=>lhs;whnf)) rfl ?_
  refine lst_guard rfl rfl ?_
  refine lst_run (run_fieldAddr (off := 1) rfl rfl) rfl ?_
  refine lst_guard rfl rfl ?_
  refine lst_run (run_load1_own hS rfl rfl (by exact .head) (by repeat constructor)) rfl ?_
  refine lst_guard rfl rfl ?_
  refine lst_run (run_fieldAddr (off := 1) rfl rfl) rfl ?_
  refine lst_guard rfl rfl ?_
  refine lst_run (run_load1_own hS rfl rfl (by exact .tail .head) (by repeat constructor)) rfl ?_
  refine lst_guard rfl rfl ?_
  refine lst_run (run_add rfl rfl (by omega) (by omega)) rfl ?_
  refine lst_guard rfl rfl ?_
  refine lst_run (run_gtr_no rfl rfl (by omega)) rfl ?_
  refine lst_guard rfl rfl ?_
  refine lst_run (run_move (by conv=>lhs;whnf)) rfl ?_
  refine lst_guard rfl rfl ?_
  refine lst_run (run_fieldAddr (off := 1) rfl rfl) rfl ?_
  refine lst_guard rfl rfl ?_
  refine lst_run (run_load1_own hS rfl rfl (by exact .head) (by repeat constructor)) rfl ?_
  refine lst_guard rfl rfl ?_
  refine lst_run (run_fieldAddr (off := 1) rfl rfl) rfl ?_
  refine lst_guard rfl rfl ?_
  refine lst_run (run_load1_own hS rfl rfl (by exact .tail .head) (by repeat constructor)) rfl ?_
  refine lst_guard rfl rfl ?_
  refine lst_run (run_add rfl rfl (by omega) (by omega)) rfl ?_
  refine lst_guard rfl rfl ?_
  refine lst_run (run_lss_yes rfl rfl (by omega)) rfl ?_
  refine lst_guard rfl rfl ?_
  refine lst_run (run_pick_f rfl (by conv=>lhs;whnf)) rfl ?_
  refine lst_guard rfl rfl ?_
  refine lst_run (run_pick_t rfl (by conv=>lhs;whnf)) rfl ?_
  refine lst_run (run_pick_f rfl (by conv=>lhs;whnf)) rfl ?_
  refine lst_done ?_
  refine goes_true rfl ?_
  refine goes_seq ?_
  refine goes_region ?_
  refine lst_run (run_move (by conv=>lhs;whnf)) rfl ?_
  refine lst_enter (run_call (by kernel_rfl) (args_2 (by conv=>lhs;whnf) (by conv=>lhs;whnf))) rfl ?_
  refine Calls.mono (end_any pb pA X.length pc q p 5 _ (by omega) (hPS _ hS)) ?_
  rintro _ w8 ⟨rfl, hP'⟩
  refine ⟨_, rfl, ?_⟩
  refine lst_run (run_assign (by conv=>lhs;whnf)) rfl ?_
  refine lst_done ?_
  refine goes_ret1 Tryd.func80 rfl (by conv=>lhs;whnf) ?_
  exact ⟨F, rfl, hF0, hP'⟩
 rw [if_neg (show ¬ (u.tm.k ≠ 2 ∨ v.tm.k ≠ 2 ∨ 1099511627776 < u.tm.n + v.tm.n ∨ u.tm.n + v.tm.n < -1099511627776) from (by omega : ¬ (u.k ≠ 2 ∨ v.k ≠ 2 ∨ 1099511627776 < u.n + v.n ∨ u.n + v.n < -1099511627776)))]
 have tn : tgd ⟨2, u.n + v.n, ⟨#[]⟩, .nil⟩ := tgd_mkN (by omega) (by omega)
 have hone : ∀ {H'} w', St M w0 H' F w' → _ := fun w' hS => one_c E z ⟨2, u.n + v.n, ⟨#[]⟩, none, 0, .nil⟩ w' hE hrz (fun w _ => ⟨Nat.le_refl _, fun h => by simp [TA.len] at h⟩) tz tn hS
 have hres : oneP (proveM (X.map LC.cl) q f) (glsOf r) (envB E) p z.tm ⟨2, u.tm.n + v.tm.n, ⟨#[]⟩, .nil⟩ = if 400 < (uniD z.tm (LT.tm ⟨2, u.n + v.n, ⟨#[]⟩, none, 0, .nil⟩) (envB E)).w then (-1, endP 4 p) else if (uniD z.tm (LT.tm ⟨2, u.n + v.n, ⟨#[]⟩, none, 0, .nil⟩) (envB E)).ok = true then proveM (X.map LC.cl) q f (glsOf r) (uniD z.tm (LT.tm ⟨2, u.n + v.n, ⟨#[]⟩, none, 0, .nil⟩) (envB E)).s p else (-1, p) := rfl
 rw [hres]
 clear hres
 generalize uniD z.tm (LT.tm ⟨2, u.n + v.n, ⟨#[]⟩, none, 0, .nil⟩) (envB E) = uu at *
 refine goes_seq ?_
 refine goes_seq ?_
 refine goes_region ?_
 refine lst_run (run_fieldAddr (off := 0) rfl rfl) rfl ?_
 refine lst_run (run_load1_own hS rfl rfl (by exact .head) (by repeat constructor)) rfl ?_
 refine lst_run (run_neq_yes rfl rfl (by omega)) rfl ?_
 refine lst_run (run_move (by conv=>lhs;whnf)) rfl ?_
 refine lst_guard rfl rfl ?_
 refine lst_run (run_fieldAddr (off := 0) rfl rfl) rfl ?_
 refine lst_guard rfl rfl ?_
 refine lst_run (run_load1_own hS rfl rfl (by exact .tail .head) (by repeat constructor)) rfl ?_
 refine lst_guard rfl rfl ?_
 refine lst_run (run_neq_yes rfl rfl (by omega)) rfl ?_
 refine lst_run (run_pick_f rfl (by conv=>lhs;whnf)) rfl ?_
 refine lst_run (run_move (by conv=>lhs;whnf)) rfl ?_
 refine lst_guard rfl rfl ?_
 refine lst_run (run_move (by conv=>lhs;whnf)) rfl ?_
 refine lst_guard rfl rfl ?_
 refine lst_run (run_nilCheck rfl) rfl ?_
 refine lst_guard rfl rfl ?_
 refine lst_run (run_fieldAddr (off := 0) rfl rfl) rfl ?_
 refine lst_guard rfl rfl ?_
 refine lst_run (run_fieldAddr (off := 2) rfl rfl) rfl ?_
 refine lst_guard rfl rfl ?_
 refine lst_run (run_load1 rfl rfl (by exact (hpc hF0 _ hS).2.2.1)) rfl ?_
 refine lst_guard rfl rfl ?_
 refine lst_run (run_eqlS_t rfl rfl (by assumption)) rfl ?_
 refine lst_guard rfl rfl ?_
 refine lst_run (run_move (by conv=>lhs;whnf)) rfl ?_
 refine lst_guard rfl rfl ?_
 refine lst_run (run_fieldAddr (off := 1) rfl rfl) rfl ?_
 refine lst_guard rfl rfl ?_
 refine lst_run (run_load1_own hS rfl rfl (by exact .head) (by repeat constructor)) rfl ?_
 refine lst_guard rfl rfl ?_
 refine lst_run (run_fieldAddr (off := 1) rfl rfl) rfl ?_
 refine lst_guard rfl rfl ?_
 refine lst_run (run_load1_own hS rfl rfl (by exact .tail .head) (by repeat constructor)) rfl ?_
 refine lst_guard rfl rfl ?_
 refine lst_run (run_add rfl rfl (by omega) (by omega)) rfl ?_
 refine lst_guard rfl rfl ?_
 refine lst_run (run_gtr_no rfl rfl (by omega)) rfl ?_
 refine lst_guard rfl rfl ?_
 refine lst_run (run_move (by conv=>lhs;whnf)) rfl ?_
 refine lst_guard rfl rfl ?_
 refine lst_run (run_fieldAddr (off := 1) rfl rfl) rfl ?_
 refine lst_guard rfl rfl ?_
 refine lst_run (run_load1_own hS rfl rfl (by exact .head) (by repeat constructor)) rfl ?_
 refine lst_guard rfl rfl ?_
 refine lst_run (run_fieldAddr (off := 1) rfl rfl) rfl ?_
 refine lst_guard rfl rfl ?_
 refine lst_run (run_load1_own hS rfl rfl (by exact .tail .head) (by repeat constructor)) rfl ?_
 refine lst_guard rfl rfl ?_
 refine lst_run (run_add rfl rfl (by omega) (by omega)) rfl ?_
 refine lst_guard rfl rfl ?_
 refine lst_run (run_lss_no rfl rfl (by omega)) rfl ?_
 refine lst_guard rfl rfl ?_
 refine lst_run (run_pick_f rfl (by conv=>lhs;whnf)) rfl ?_
 refine lst_guard rfl rfl ?_
 refine lst_run (run_pick_t rfl (by conv=>lhs;whnf)) rfl ?_
 refine lst_run (run_pick_f rfl (by conv=>lhs;whnf)) rfl ?_
 refine lst_done ?_
 refine goes_false rfl ?_
 refine goes_skip ?_
 refine goes_seq ?_
 refine goes_seq ?_
 refine goes_region ?_
 refine lst_run (run_move (by conv=>lhs;whnf)) rfl ?_
 refine lst_run (run_nilCheck rfl) rfl ?_
 refine lst_run (run_fieldAddr (off := 0) rfl rfl) rfl ?_
 refine lst_run (run_fieldAddr (off := 2) rfl rfl) rfl ?_
 refine lst_run (run_load1 rfl rfl (by exact (hpc hF0 _ hS).2.2.1)) rfl ?_
 refine lst_run (run_eqlS_f rfl rfl (by assumption)) rfl ?_
 refine lst_done ?_
 refine goes_false rfl ?_
 refine goes_skip ?_
 refine goes_draw (St _ _ _ _) 9 ((0, true) :: (1, true) :: (2, true) :: (3, true) :: (4, true) :: (5, true) :: (6, true) :: (7, true) :: (8, true) :: []) (by kernel_rfl) (by kernel_rfl) (hS.drew) ?_
 replace hS := hS.drew
 refine ord_read rfl (fun _ hS => run_move (by conv=>lhs;whnf)) rfl ?_
 refine ord_read rfl (fun _ hS => run_indexAddr (sz := 4) rfl rfl rfl rfl (by omega) (by omega)) rfl ?_
 refine ord_read rfl (fun _ hS => run_load4 rfl rfl rfl (by exact (hcC _ hS).1) (by exact (hcC _ hS).2.1) (by exact (hcC _ hS).2.2.1) (by exact (hcC _ hS).2.2.2)) rfl ?_
 refine ord_read rfl (fun _ hS => run_fieldAddr (off := 1) rfl rfl) rfl ?_
 refine ord_read rfl (fun _ hS => run_load1_own hS rfl rfl (by exact .head) (by repeat constructor)) rfl ?_
 refine ord_read rfl (fun _ hS => run_fieldAddr (off := 1) rfl rfl) rfl ?_
 refine ord_read rfl (fun _ hS => run_load1_own hS rfl rfl (by exact .tail .head) (by repeat constructor)) rfl ?_
 refine ord_read rfl (fun _ hS => run_add rfl rfl (by omega) (by omega)) rfl ?_
 refine ord_read rfl (fun _ hS => run_build (cells := [_, _, _, _]) (.cons (by conv=>lhs;whnf) (.cons (by conv=>lhs;whnf) .nil)) rfl) rfl ?_
 refine ord_end ?_
 refine lst_buildSlice (cells := [_, _, _, _, _, _, _, _]) hS (.cons (by conv=>lhs;whnf) (.cons (by conv=>lhs;whnf) .nil)) rfl rfl ?_
 clear hS
 intro b19 wx43 hS
 refine lst_run (run_assign (by conv=>lhs;whnf)) rfl ?_
 refine lst_done ?_
 refine goes_seq ?_
 refine goes_meet3 11 12 13 (138 :: 139 :: 140 :: 141 :: 142 :: 143 :: 144 :: 145 :: 137 :: 146 :: 147 :: 148 :: []) (fun v_ y_ z_ w' => ∃ (E' : List EN) (ok : Bool) (k : Int) (F' : List (World → Prop)), v_ = eptr E' ∧ y_ = .bool ok ∧ z_ = .int .i64 k ∧ (∀ φ ∈ F, φ ∈ F') ∧ (400 < uu.w → k < 0) ∧ (uu.w ≤ 400 → 0 ≤ k ∧ ok = uu.ok ∧ (uu.ok = true → envB E' = uu.s ∧ EOk F' E')) ∧ St M w0 ((b19, .cells [.int .i64 z.k, .int .i64 z.n, .string z.s, .slice z.A z.ar.len z.c, .int .i64 2, .int .i64 (u.n + v.n), .string ⟨#[]⟩, .slice none 0 0].toArray 24) :: (b5, .cells (tcs u).toArray 24) :: (b6, .cells (tcs v).toArray 24) :: (pb, .cells (pcsP pA X.length pc q p oA K.length oc).toArray 101) :: (O ++ H)) F' w') ?_ ?_
 ·intro hmeet
  refine goes_plan (St _ _ _ _) 15 (.read 0 (.read 1 (.read 2 (.read 3 (.read 4 (.read 5 (.read 6 (.pick 7 (.read 8 (.read 9 (.read 10 (.read 11 (.read 12 (.read 13 (.read 14 .tail))))))) .none)))))))) (by kernel_rfl) (by kernel_rfl) hS.drew ?_
  replace hS := hS.drew
  refine pln_read rfl (fun _ hS => run_move (by conv=>lhs;whnf)) rfl ?_
  refine pln_read rfl (fun _ hS => run_move (by conv=>lhs;whnf)) rfl ?_
  refine pln_read rfl (fun _ hS => run_indexAddr (sz := 4) rfl rfl rfl rfl (by omega) (by omega)) rfl ?_
  refine pln_read rfl (fun _ hS => run_loadN_own (k := 4) hS rfl rfl rfl (by exact .head) (by repeat constructor)) rfl ?_
  refine pln_read rfl (fun _ hS => run_move (by conv=>lhs;whnf)) rfl ?_
  refine pln_read rfl (fun _ hS => run_indexAddr (sz := 4) rfl rfl rfl rfl (by omega) (by omega)) rfl ?_
  refine pln_read rfl (fun _ hS => run_loadN_own (k := 4) hS rfl rfl rfl (by exact .head) (by repeat constructor)) rfl ?_
  refine pln_last rfl ?_
  refine lst_enter (run_call (by kernel_rfl) (args_3 (by conv=>lhs;whnf) (by conv=>lhs;whnf) (by conv=>lhs;whnf))) rfl ?_
  refine Calls.mono (hone _ hS) ?_
  rintro _ w9 ⟨E9, ok9, k9, F9, rfl, hF9, c19, c29, hS'⟩
  refine ⟨_, rfl, ?_⟩
  replace hS := hS'
  clear hS'
  refine lst_pln (by exact hS.forget hF9) ?_
  refine pln_read rfl (fun _ hS => run_move (by conv=>lhs;whnf)) rfl ?_
  refine pln_read rfl (fun _ hS => run_extract rfl rfl) rfl ?_
  refine pln_read rfl (fun _ hS => run_extract rfl rfl) rfl ?_
  refine pln_read rfl (fun _ hS => run_extract rfl rfl) rfl ?_
  refine pln_read rfl (fun _ hS => run_assign (by conv=>lhs;whnf)) rfl ?_
  refine pln_read rfl (fun _ hS => run_assign (by conv=>lhs;whnf)) rfl ?_
  refine pln_read rfl (fun _ hS => run_assign (by conv=>lhs;whnf)) rfl ?_
  refine pln_tail ?_
  refine lst_done ?_
  exact hmeet _ _ _ _ _ ⟨E9, ok9, k9, F9, rfl, rfl, rfl, hF9, c19, c29, hS⟩ (by conv=>lhs;whnf) (by conv=>lhs;whnf) (by conv=>lhs;whnf) (by kernel_rfl)
 clear hS
 rintro jw _ _ _ w9 ⟨E', ok, k, F', rfl, rfl, rfl, hF, c1, c2, hS⟩
 by_cases hw : 400 < uu.w
 ·have hk := c1 hw
  rw [if_pos hw]
  refine goes_seq ?_
  refine goes_seq ?_
  refine goes_region ?_
  refine lst_run (run_move (by conv=>lhs;whnf)) rfl ?_
  refine lst_run (run_lss_yes rfl rfl (by omega)) rfl ?_
  refine lst_done ?_
  refine goes_true rfl ?_
  refine goes_seq ?_
  refine goes_region ?_
  refine lst_run (run_move (by conv=>lhs;whnf)) rfl ?_
  refine lst_enter (run_call (by kernel_rfl) (args_2 (by conv=>lhs;whnf) (by conv=>lhs;whnf))) rfl ?_
  refine Calls.mono (end_any pb pA X.length pc q p 4 _ (by have := hB.o; omega) ⟨K, oA, oc, O, hK, fun x hx => (hKr x hx).mono hF, hrow, hS.drop.drop.drop⟩) ?_
  rintro _ w6 ⟨rfl, hP'⟩
  refine ⟨_, rfl, ?_⟩
  refine lst_run (run_assign (by conv=>lhs;whnf)) rfl ?_
  refine lst_done ?_
  refine goes_ret1 Tryd.func80 rfl (by conv=>lhs;whnf) ?_
  exact ⟨F', rfl, hF, hP'⟩
 obtain ⟨hk, rfl, hok⟩ := c2 (by omega)
 rw [if_neg hw]
 cases ho : uu.ok with
 | false =>
  rw [if_neg (by decide)]
  rw [ho] at *
  refine goes_seq ?_
  refine goes_seq ?_
  refine goes_region ?_
  refine lst_run (run_move (by conv=>lhs;whnf)) rfl ?_
  refine lst_run (run_lss_no rfl rfl (by omega)) rfl ?_
  refine lst_done ?_
  refine goes_false rfl ?_
  refine goes_skip ?_
  refine goes_seq ?_
  refine goes_seq ?_
  refine goes_region ?_
  refine lst_run (run_move (by conv=>lhs;whnf)) rfl ?_
  refine lst_run (rfl) rfl ?_
  refine lst_done ?_
  refine goes_true rfl ?_
  refine goes_seq ?_
  refine goes_region ?_
  refine lst_run (run_assign (by conv=>lhs;whnf)) rfl ?_
  refine lst_done ?_
  refine goes_ret1 Tryd.func80 rfl (by conv=>lhs;whnf) ?_
  exact ⟨F', rfl, hF, K, oA, oc, O, hK, fun x hx => (hKr x hx).mono hF, hrow, hS.drop.drop.drop⟩
 | true =>
  rw [if_pos rfl]
  obtain ⟨hE1, hE2⟩ := hok ho
  have hc := fun w' hP => hpr M w0 H F' r E' pb p w' (hX.mono hF) (hrr.mono hF) hgr hE2 hf hB hP
  rw [hE1] at hc
  rw [ho] at *
  refine goes_seq ?_
  refine goes_seq ?_
  refine goes_region ?_
  refine lst_run (run_move (by conv=>lhs;whnf)) rfl ?_
  refine lst_run (run_lss_no rfl rfl (by omega)) rfl ?_
  refine lst_done ?_
  refine goes_false rfl ?_
  refine goes_skip ?_
  refine goes_seq ?_
  refine goes_seq ?_
  refine goes_region ?_
  refine lst_run (run_move (by conv=>lhs;whnf)) rfl ?_
  refine lst_run (rfl) rfl ?_
  refine lst_done ?_
  refine goes_false rfl ?_
  refine goes_skip ?_
  refine goes_seq ?_
  refine goes_region ?_
  refine lst_run (run_move (by conv=>lhs;whnf)) rfl ?_
  refine lst_run (run_move (by conv=>lhs;whnf)) rfl ?_
  refine lst_run (run_nilCheck rfl) rfl ?_
  refine lst_run (run_fieldAddr (off := 5) rfl rfl) rfl ?_
  refine lst_run (run_load1 rfl rfl (by exact (hpc hF _ hS).2.2.2.2.2)) rfl ?_
  refine lst_run (run_move (by conv=>lhs;whnf)) rfl ?_
  refine lst_enter (run_call (by kernel_rfl) (args_3 (by conv=>lhs;whnf) (by conv=>lhs;whnf) (by conv=>lhs;whnf))) rfl ?_
  refine Calls.mono (hc _ ⟨K, oA, oc, O, hK, fun x hx => (hKr x hx).mono hF, hrow, hS.drop.drop.drop⟩) ?_
  rintro _ w6 ⟨F2, rfl, hF2, hP'⟩
  refine ⟨_, rfl, ?_⟩
  refine lst_run (run_assign (by conv=>lhs;whnf)) rfl ?_
  refine lst_done ?_
  refine goes_ret1 Tryd.func80 rfl (by conv=>lhs;whnf) ?_
  exact ⟨F2, rfl, fun φ h => hF2 φ (hF φ h), hP'⟩
end
end Go.Proofs.YtehhgmeaggempaaDoor
namespace Go.Proofs.YtehhgmeaggempaaDoor
open Go.RowKit
set_option linter.unusedVariables false
set_option linter.unusedSimpArgs false
set_option maxRecDepth 100000
set_option maxHeartbeats 1000000
section
variable {M : List Nat} {w0 : World} {H : List (Nat × Obj)} {F : List (World → Prop)} {X : List LC} {pA : Option Addr} {pc q C D f : Nat}
theorem simple_any (hpr : PrC X pA pc q C D f) (g : GN) (r : List GN) (E : List EN) (pb : Nat) (p : PS) (w : World) (hX : Und F (ClsR X pA pc)) (hr : Und F (TdR (g :: r))) (hg : ∀ x ∈ g :: r, tgd x.t.tm) (hE : EOk F E) (hf : p.fuel ≤ f) (hB : BdI C D p) (hbt : builtB g.t.s.toList g.t.ar.len = true) (hP : PSt M w0 H F pb pA X.length pc q p w) :
  Calls Tryd.prog 80 #[.pointer (some ⟨pb, 0, none⟩), ptrOf (g :: r), eptr E] w fun e w' => ∃ F' : List (World → Prop), e = .returned (.int .i64 (simpleM (proveM (X.map LC.cl) q f) (g.t.tm, g.o) (glsOf r) (envB E) p).1) ∧ (∀ φ ∈ F, φ ∈ F') ∧ PSt M w0 H F' pb pA X.length pc q (simpleM (proveM (X.map LC.cl) q f) (g.t.tm, g.o) (glsOf r) (envB E) p).2 w' := by
 have hs : g.t.tm.s = g.t.s := rfl
 have hts : g.t.tm.ar = g.t.ar.ts := rfl
 unfold builtB at hbt
 unfold simpleM
 dsimp only
 rw [hs, hts]
 by_cases h1 : g.t.s.toList = [33]
 ·rw [if_pos h1]
  refine Calls.mono (simple_cut hpr g r E pb p w hX hr hg hE hf hB h1 hP) ?_
  rintro e w' ⟨F', rfl, hF, hP'⟩
  refine ⟨F', ?_, hF, ?_⟩
  ·split <;> rfl
  ·split
   ·exact hP'
   ·exact hP'
 rw [if_neg h1] at hbt ⊢
 by_cases h2 : g.t.s.toList = [116, 114, 117, 101]
 ·rw [if_pos h2]
  exact simple_true hpr g r E pb p w hX hr hg hE hf hB h2 hP
 rw [if_neg h2] at hbt ⊢
 by_cases h3 : g.t.s.toList = [102, 97, 105, 108]
 ·rw [if_pos h3]
  refine Calls.mono (simple_fail g r E pb p w hr h3 hP) ?_
  rintro e w' ⟨rfl, hP'⟩
  exact ⟨F, rfl, fun _ h => h, hP'⟩
 rw [if_neg h3] at hbt ⊢
 by_cases h4 : g.t.s.toList = [101, 113]
 ·rw [if_pos h4] at hbt ⊢
  exact simple_eq hpr g r E pb p w hX hr hg hE hf hB h4 (by simpa using hbt) hP
 rw [if_neg h4] at hbt ⊢
 by_cases h5 : g.t.s.toList = [108, 101, 115, 115]
 ·rw [if_pos h5] at hbt
  have h6 : ¬ g.t.s.toList = [97, 100, 100] := by rw [h5]; decide
  have hres := simple_less hpr g r E pb p w hX hr hg hE hf hB h5 (by simpa using hbt) hP
  unfold lessP at hres
  simp only [h6, false_and, or_false, if_pos h5]
  exact hres
 rw [if_neg h5] at hbt
 by_cases h6 : g.t.s.toList = [97, 100, 100]
 ·rw [if_pos h6] at hbt
  have hres := simple_add hpr g r E pb p w hX hr hg hE hf hB h6 (by simpa using hbt) hP
  unfold addP at hres
  simp only [if_neg h5]
  simp only [h6, true_and]
  exact hres
 ·rw [if_neg h6] at hbt
  cases hbt
end
end Go.Proofs.YtehhgmeaggempaaDoor
namespace Go.Proofs.YtehhgmeaggempaaDoor
open Go.RowKit
set_option linter.unusedVariables false
set_option linter.unusedSimpArgs false
set_option maxRecDepth 100000
set_option maxHeartbeats 1000000
section
variable {M : List Nat} {w0 : World} {H : List (Nat × Obj)} {F : List (World → Prop)} {X : List LC} {pA : Option Addr} {pc q C D f : Nat}
theorem prove_nil (E : List EN) (pb : Nat) (p : PS) (w : World) (hq : q ≤ 8) (hE : EOk F E) (hB : BdI C D p) (hP : PSt M w0 H F pb pA X.length pc q p w) :
  Calls Tryd.prog 57 #[.pointer (some ⟨pb, 0, none⟩), ptrOf [], eptr E] w fun e w' => ∃ F' : List (World → Prop), e = .returned (.int .i64 (tellM q (envB E) p).1) ∧ (∀ φ ∈ F, φ ∈ F') ∧ PSt M w0 H F' pb pA X.length pc q (tellM q (envB E) p).2 w' := by
 have ho := hB.o
 have hc := fun w' hP => tell_any (M := M) (w0 := w0) (H := H) (F := F) E pb pA X.length pc q p w' hq (by omega) hE hP
 obtain ⟨K, oA, oc, O, hK, hKr, hrow, hS⟩ := hP
 refine goes_enter3 Tryd.func57 rfl Tryd.ntmps57 rfl ?_
 refine goes_seq ?_
 refine goes_region ?_
 refine lst_run (run_assign (by conv=>lhs;whnf)) rfl ?_
 refine lst_done ?_
 refine goes_seq ?_
 refine goes_seq ?_
 refine goes_region ?_
 refine lst_run (run_move (by conv=>lhs;whnf)) rfl ?_
 refine lst_run (run_eql_ptr_yes rfl rfl rfl) rfl ?_
 refine lst_done ?_
 refine goes_true rfl ?_
 refine goes_seq ?_
 refine goes_region ?_
 refine lst_run (run_move (by conv=>lhs;whnf)) rfl ?_
 refine lst_run (run_move (by conv=>lhs;whnf)) rfl ?_
 refine lst_enter (run_call (by kernel_rfl) (args_2 (by conv=>lhs;whnf) (by conv=>lhs;whnf))) rfl ?_
 refine Calls.mono (hc _ ⟨K, oA, oc, O, hK, hKr, hrow, hS⟩) ?_
 rintro _ w5 ⟨F', rfl, hF, hP'⟩
 refine ⟨_, rfl, ?_⟩
 refine lst_run (run_assign (by conv=>lhs;whnf)) rfl ?_
 refine lst_done ?_
 refine goes_ret1 Tryd.func57 rfl (by conv=>lhs;whnf) ?_
 exact ⟨F', rfl, hF, hP'⟩
theorem prove_out (g : GN) (r : List GN) (E : List EN) (pb : Nat) (p : PS) (w : World) (hB : BdI C D p) (h0 : p.fuel = 0) (hP : PSt M w0 H F pb pA X.length pc q p w) :
  Calls Tryd.prog 57 #[.pointer (some ⟨pb, 0, none⟩), ptrOf (g :: r), eptr E] w fun e w' => e = .returned (.int .i64 (-1)) ∧ PSt M w0 H F pb pA X.length pc q (endP 3 p) w' := by
 have ho := hB.o
 have h0' : ((p.fuel : Nat) : Int) = 0 := by omega
 have hc := fun w' hP => end_any (M := M) (w0 := w0) (H := H) (F := F) pb pA X.length pc q p 3 w' (by omega) hP
 obtain ⟨K, oA, oc, O, hK, hKr, hrow, hS⟩ := hP
 refine goes_enter3 Tryd.func57 rfl Tryd.ntmps57 rfl ?_
 refine goes_seq ?_
 refine goes_region ?_
 refine lst_run (run_assign (by conv=>lhs;whnf)) rfl ?_
 refine lst_done ?_
 refine goes_seq ?_
 refine goes_seq ?_
 refine goes_region ?_
 refine lst_run (run_move (by conv=>lhs;whnf)) rfl ?_
 refine lst_run (run_eql_ptr_no rfl rfl rfl) rfl ?_
 refine lst_done ?_
 refine goes_false rfl ?_
 refine goes_skip ?_
 refine goes_seq ?_
 refine goes_seq ?_
 refine goes_region ?_
 refine lst_run (run_move (by conv=>lhs;whnf)) rfl ?_
 refine lst_run (run_nilCheck rfl) rfl ?_
 refine lst_run (run_fieldAddr (off := 2) rfl rfl) rfl ?_
 refine lst_run (run_load1_own hS rfl rfl (by exact .head) (by repeat constructor)) rfl ?_
 refine lst_run (run_eql_yes rfl rfl (by omega)) rfl ?_
 refine lst_done ?_
 refine goes_true rfl ?_
 refine goes_seq ?_
 refine goes_region ?_
 refine lst_run (run_move (by conv=>lhs;whnf)) rfl ?_
 refine lst_enter (run_call (by kernel_rfl) (args_2 (by conv=>lhs;whnf) (by conv=>lhs;whnf))) rfl ?_
 refine Calls.mono (hc _ ⟨K, oA, oc, O, hK, hKr, hrow, hS⟩) ?_
 rintro _ w5 ⟨rfl, hP'⟩
 refine ⟨_, rfl, ?_⟩
 refine lst_run (run_assign (by conv=>lhs;whnf)) rfl ?_
 refine lst_done ?_
 refine goes_ret1 Tryd.func57 rfl (by conv=>lhs;whnf) ?_
 exact ⟨rfl, hP'⟩
theorem prove_built (hpr : PrC X pA pc q C D f) (g : GN) (r : List GN) (E : List EN) (pb : Nat) (p : PS) (w : World) (hX : Und F (ClsR X pA pc)) (hr : Und F (TdR (g :: r))) (hg : ∀ x ∈ g :: r, tgd x.t.tm) (hE : EOk F E) (h0 : p.fuel ≠ 0) (h1 : p.fuel ≤ 1000) (hf : p.fuel ≤ f + 1) (hB : BdI C D p) (hbt : builtB g.t.s.toList g.t.ar.len = true) (hP : PSt M w0 H F pb pA X.length pc q p w) :
  Calls Tryd.prog 57 #[.pointer (some ⟨pb, 0, none⟩), ptrOf (g :: r), eptr E] w fun e w' => ∃ F' : List (World → Prop), e = .returned (.int .i64 (simpleM (proveM (X.map LC.cl) q f) (g.t.tm, g.o) (glsOf r) (envB E) ⟨p.fuel - 1, p.vars, p.calls, p.out, p.ended⟩).1) ∧ (∀ φ ∈ F, φ ∈ F') ∧ PSt M w0 H F' pb pA X.length pc q (simpleM (proveM (X.map LC.cl) q f) (g.t.tm, g.o) (glsOf r) (envB E) ⟨p.fuel - 1, p.vars, p.calls, p.out, p.ended⟩).2 w' := by
 have h0' : ((p.fuel : Nat) : Int) ≠ 0 := by omega
 have hB1 : BdI C D ⟨p.fuel - 1, p.vars, p.calls, p.out, p.ended⟩ := ⟨by have := hB.v; show p.vars + 8 * (p.fuel - 1 + 12) ≤ C + 8 * p.out.length; omega, by have := hB.c; show p.calls + (p.fuel - 1) ≤ D; omega, hB.o, hB.e⟩
 have hc := fun w' hP => simple_any (M := M) (w0 := w0) (H := H) (F := F) hpr g r E pb ⟨p.fuel - 1, p.vars, p.calls, p.out, p.ended⟩ w' hX hr hg hE (by show p.fuel - 1 ≤ f; omega) hB1 hbt hP
 have hpc : ∀ {H'} w', St M w0 H' F w' → _ := fun w' hS => (hS.und hr).cells
 have hfu : ((p.fuel : Nat) : Int) - 1 = ((p.fuel - 1 : Nat) : Int) := by omega
 obtain ⟨K, oA, oc, O, hK, hKr, hrow, hS⟩ := hP
 refine goes_enter3 Tryd.func57 rfl Tryd.ntmps57 rfl ?_
 refine goes_seq ?_
 refine goes_region ?_
 refine lst_run (run_assign (by conv=>lhs;whnf)) rfl ?_
 refine lst_done ?_
 refine goes_seq ?_
 refine goes_seq ?_
 refine goes_region ?_
 refine lst_run (run_move (by conv=>lhs;whnf)) rfl ?_
 refine lst_run (run_eql_ptr_no rfl rfl rfl) rfl ?_
 refine lst_done ?_
 refine goes_false rfl ?_
 refine goes_skip ?_
 refine goes_seq ?_
 refine goes_seq ?_
 refine goes_region ?_
 refine lst_run (run_move (by conv=>lhs;whnf)) rfl ?_
 refine lst_run (run_nilCheck rfl) rfl ?_
 refine lst_run (run_fieldAddr (off := 2) rfl rfl) rfl ?_
 refine lst_run (run_load1_own hS rfl rfl (by exact .head) (by repeat constructor)) rfl ?_
 refine lst_run (run_eql_no rfl rfl (by assumption)) rfl ?_
 refine lst_done ?_
 refine goes_false rfl ?_
 refine goes_skip ?_
 refine goes_seq ?_
 refine goes_region ?_
 refine lst_run (run_move (by conv=>lhs;whnf)) rfl ?_
 refine lst_run (run_nilCheck rfl) rfl ?_
 refine lst_run (run_fieldAddr (off := 2) rfl rfl) rfl ?_
 refine lst_run (run_load1_own hS rfl rfl (by exact .head) (by repeat constructor)) rfl ?_
 refine lst_run (run_sub rfl rfl (by omega) (by omega)) rfl ?_
 refine lst_run (run_nilCheck rfl) rfl ?_
 refine lst_run (run_fieldAddr (off := 2) rfl rfl) rfl ?_
 refine lst_store1 hS rfl (by conv=>lhs;whnf) rfl rfl (by exact .head) (by repeat constructor) (by exact .head) ?_
 clear hS
 intro wx1 hS
 refine lst_done ?_
 refine goes_seq ?_
 refine goes_seq ?_
 refine goes_region ?_
 refine lst_run (run_move (by conv=>lhs;whnf)) rfl ?_
 refine lst_run (run_nilCheck rfl) rfl ?_
 refine lst_run (run_fieldAddr (off := 0) rfl rfl) rfl ?_
 refine lst_run (run_load4 rfl rfl rfl (by exact (hpc _ hS).1) (by exact (hpc _ hS).2.1) (by exact (hpc _ hS).2.2.1) (by exact (hpc _ hS).2.2.2.1)) rfl ?_
 refine lst_enter (run_call (by kernel_rfl) (args_1 (by conv=>lhs;whnf))) rfl ?_
 refine Calls.mono (everybody_any _ _ _ _ _ _ _) ?_
 rintro _ w4 ⟨rfl, hb4⟩
 refine ⟨_, rfl, ?_⟩
 replace hS := hS.grow hb4
 refine lst_done ?_
 rw [hbt]
 refine goes_true rfl ?_
 refine goes_seq ?_
 refine goes_region ?_
 refine lst_run (run_move (by conv=>lhs;whnf)) rfl ?_
 refine lst_run (run_move (by conv=>lhs;whnf)) rfl ?_
 refine lst_run (run_move (by conv=>lhs;whnf)) rfl ?_
 rw [hfu] at hS
 refine lst_enter (run_call (by kernel_rfl) (args_3 (by conv=>lhs;whnf) (by conv=>lhs;whnf) (by conv=>lhs;whnf))) rfl ?_
 refine Calls.mono (hc _ ⟨K, oA, oc, O, hK, hKr, hrow, hS⟩) ?_
 rintro _ w5 ⟨F', rfl, hF, hP'⟩
 refine ⟨_, rfl, ?_⟩
 refine lst_run (run_assign (by conv=>lhs;whnf)) rfl ?_
 refine lst_done ?_
 refine goes_ret1 Tryd.func57 rfl (by conv=>lhs;whnf) ?_
 exact ⟨F', rfl, hF, hP'⟩
end
end Go.Proofs.YtehhgmeaggempaaDoor
