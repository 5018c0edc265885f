/-
  The document's own prover.simple, walked: less.
-/
import Derived.Test.YtehhgmeaggempaaDoorG13
namespace Go.Proofs.YtehhgmeaggempaaDoor
open Go.RowKit
set_option linter.unusedVariables false
set_option linter.unusedSimpArgs false
set_option maxRecDepth 100000
set_option maxHeartbeats 1000000
section
variable {M : List Nat} {w0 : World} {H : List (Nat × Obj)} {F : List (World → Prop)} {X : List LC} {pA : Option Addr} {pc q C D f : Nat}
def lessP (pr : List Tg → Bnd → PS → Int × PS) (r : List Tg) (e : Bnd) (p : PS) (x y : Tm) : Int × PS :=
 if (lookM e x).k ≠ 2 ∨ (lookM e y).k ≠ 2 then (-1, endP 5 p) else if (lookM e x).n < (lookM e y).n then pr r e p else (-1, p)
theorem simple_less (hpr : PrC X pA pc q C D f) (g : GN) (r : List GN) (E : List EN) (pb : Nat) (p : PS) (w : World) (hX : Und F (ClsR X pA pc)) (hr : Und F (TdR (g :: r))) (hg : ∀ x ∈ g :: r, tgd x.t.tm) (hE : EOk F E) (hf : p.fuel ≤ f) (hB : BdI C D p) (h4 : g.t.s.toList = [108, 101, 115, 115]) (hlen : g.t.ar.len = 2) (hP : PSt M w0 H F pb pA X.length pc q p w) :
  Calls Tryd.prog 80 #[.pointer (some ⟨pb, 0, none⟩), ptrOf (g :: r), eptr E] w fun e w' => ∃ F' : List (World → Prop), e = .returned (.int .i64 (lessP (proveM (X.map LC.cl) q f) (glsOf r) (envB E) p (g.t.ar.ts.at_ 0) (g.t.ar.ts.at_ 1)).1) ∧ (∀ φ ∈ F, φ ∈ F') ∧ PSt M w0 H F' pb pA X.length pc q (lessP (proveM (X.map LC.cl) q f) (glsOf r) (envB E) p (g.t.ar.ts.at_ 0) (g.t.ar.ts.at_ 1)).2 w' := by
 have hpc : ∀ {F' : List (World → Prop)} {H' : List (Nat × Obj)} (hF : ∀ φ ∈ F, φ ∈ F') (w' : World), St M w0 H' F' w' → _ := fun hF w' hS => (hS.und (hr.mono hF)).cells
 have hF0 : ∀ φ ∈ F, φ ∈ F := fun _ h => h
 have e4 := (toList_iff [108, 101, 115, 115]).1 h4
 have e1 : g.t.s ≠ ⟨#[33]⟩ := by rw [e4]; decide
 have e2 : g.t.s ≠ ⟨#[116, 114, 117, 101]⟩ := by rw [e4]; decide
 have e5 : g.t.s ≠ ⟨#[101, 113]⟩ := by rw [e4]; decide
 have e6 : g.t.s ≠ ⟨#[97, 100, 100]⟩ := by rw [e4]; decide
 have e3 : g.t.s ≠ ⟨#[102, 97, 105, 108]⟩ := by rw [e4]; decide
 have hrt : Und F (LRd g.t) := hr.imp fun w h => h.2.1
 have hrr : Und F (TdR r) := hr.imp fun w h => h.2.2
 have hgr : ∀ x ∈ r, tgd x.t.tm := fun x hx => hg x (.tail _ hx)
 have hdown := tgd_down _ (hg g (.head _))
 obtain ⟨x, y, hT⟩ := two_of (T := g.t.ar) hlen
 obtain ⟨⟨gk, gn, gs_, gA, gc, gar⟩, go_, gb⟩ := g
 dsimp only at *
 subst hT
 have hra := hrt
 unfold LRd at hra
 dsimp only at hra
 obtain ⟨K, oA, oc, O, hK, hKr, hrow, hS⟩ := hP
 obtain ⟨b6, o6, rfl⟩ := (hS.und hra).some_ (by simp [TA.len])
 have hcA : ∀ {H'} w', St M w0 H' F w' → _ := fun w' hS => ArA.cells (D := .nil) (hS.und hra)
 have hcB : ∀ {H'} w', St M w0 H' F w' → _ := fun w' hS => ArA.cells (D := .cons x.k x.n x.s x.A x.c x.ar .nil) (hS.und hra)
 have hrx : Und F (LRd x) := hra.imp fun w h => ArA.sub (D := .nil) h
 have hry : Und F (LRd y) := hra.imp fun w h => ArA.sub (D := .cons x.k x.n x.s x.A x.c x.ar .nil) h
 have tx : tgd x.tm := hdown x.tm (.inl rfl)
 have ty_ : tgd y.tm := hdown y.tm (.inr (.inl rfl))
 have hlen2 : (TA.cons x.k x.n x.s x.A x.c x.ar (TA.cons y.k y.n y.s y.A y.c y.ar TA.nil)).len = 2 := rfl
 have hres : lessP (proveM (X.map LC.cl) q f) (glsOf r) (envB E) p ((TA.cons x.k x.n x.s x.A x.c x.ar (TA.cons y.k y.n y.s y.A y.c y.ar TA.nil)).ts.at_ 0) ((TA.cons x.k x.n x.s x.A x.c x.ar (TA.cons y.k y.n y.s y.A y.c y.ar TA.nil)).ts.at_ 1) = if (lookM (envB E) x.tm).k ≠ 2 ∨ (lookM (envB E) y.tm).k ≠ 2 then (-1, endP 5 p) else if (lookM (envB E) x.tm).n < (lookM (envB E) y.tm).n then proveM (X.map LC.cl) q f (glsOf r) (envB E) p else (-1, p) := rfl
 rw [hres]
 clear hres
 have hc := fun w' hP => hpr M w0 H F r E pb p w' hX hrr hgr hE hf hB hP
 have ho := hB.o
 refine goes_enter3 Tryd.func80 rfl Tryd.ntmps80 rfl ?_
 refine goes_seq ?_
 refine goes_region ?_
 refine lst_run (run_assign (by conv=>lhs;whnf)) rfl ?_
 refine lst_done ?_
 refine goes_seq ?_
 refine goes_seq ?_
 refine goes_region ?_
 refine lst_run (run_move (by conv=>lhs;whnf)) rfl ?_
 refine lst_run (run_nilCheck rfl) rfl ?_
 refine lst_run (run_fieldAddr (off := 0) rfl rfl) rfl ?_
 refine lst_run (run_fieldAddr (off := 2) rfl rfl) rfl ?_
 refine lst_run (run_load1 rfl rfl (by exact (hpc hF0 _ hS).2.2.1)) rfl ?_
 refine lst_done ?_
 refine goes_block ?_
 refine goes_seq ?_
 refine goes_region ?_
 refine lst_run (run_eqlS_f rfl rfl (by assumption)) rfl ?_
 refine lst_run (run_assign (by conv=>lhs;whnf)) rfl ?_
 refine lst_done ?_
 refine goes_false rfl ?_
 refine goes_seq ?_
 refine goes_region ?_
 refine lst_run (run_eqlS_f rfl rfl (by assumption)) rfl ?_
 refine lst_run (run_assign (by conv=>lhs;whnf)) rfl ?_
 refine lst_done ?_
 refine goes_false rfl ?_
 refine goes_seq ?_
 refine goes_region ?_
 refine lst_run (run_eqlS_f rfl rfl (by assumption)) rfl ?_
 refine lst_run (run_assign (by conv=>lhs;whnf)) rfl ?_
 refine lst_done ?_
 refine goes_false rfl ?_
 refine goes_skip ?_
 refine goes_inBlock ?_
 refine goes_seq ?_
 refine goes_region ?_
 refine lst_run (run_move (by conv=>lhs;whnf)) rfl ?_
 refine lst_run (run_nilCheck rfl) rfl ?_
 refine lst_run (run_fieldAddr (off := 0) rfl rfl) rfl ?_
 refine lst_run (run_fieldAddr (off := 3) rfl rfl) rfl ?_
 refine lst_run (run_load1 rfl rfl (by exact (hpc hF0 _ hS).2.2.2.1)) rfl ?_
 refine lst_run (run_assign (by conv=>lhs;whnf)) rfl ?_
 refine lst_done ?_
 refine goes_seq ?_
 refine goes_seq ?_
 refine goes_region ?_
 refine lst_run (run_move (by conv=>lhs;whnf)) rfl ?_
 refine lst_run (run_nilCheck rfl) rfl ?_
 refine lst_run (run_fieldAddr (off := 0) rfl rfl) rfl ?_
 refine lst_run (run_fieldAddr (off := 2) rfl rfl) rfl ?_
 refine lst_run (run_load1 rfl rfl (by exact (hpc hF0 _ hS).2.2.1)) rfl ?_
 refine lst_run (run_neqS_t rfl rfl (by assumption)) rfl ?_
 refine lst_done ?_
 refine goes_true rfl ?_
 refine goes_seq ?_
 refine goes_meet2 9 10 (65 :: 66 :: 67 :: 68 :: 69 :: 70 :: 71 :: 72 :: 73 :: 74 :: []) (fun y_ z_ w' => ∃ (b5 b6 : Nat) (u v : LT), y_ = .pointer (some ⟨b5, 0, none⟩) ∧ z_ = .pointer (some ⟨b6, 0, none⟩) ∧ u.tm = lookM (envB E) x.tm ∧ v.tm = lookM (envB E) y.tm ∧ St M w0 ((b5, .cells (tcs u).toArray 24) :: (b6, .cells (tcs v).toArray 24) :: (pb, .cells (pcsP pA X.length pc q p oA K.length oc).toArray 101) :: (O ++ H)) F w') ?_ ?_
 ·intro hmeet
  refine goes_plan (St _ _ _ _) 12 (.read 0 (.read 1 (.read 2 (.read 3 (.read 5 (.read 6 (.read 7 (.read 8 (.pick 4 (.pick 9 (.pick 10 (.pick 11 .tail .none) (.pick 11 (.pick 10 .tail .none) .none)) (.pick 10 (.pick 9 (.pick 11 .tail .none) (.pick 11 (.pick 9 .tail .none) .none)) (.pick 11 (.pick 9 (.pick 10 .tail .none) (.pick 10 (.pick 9 .tail .none) .none)) .none))) (.pick 10 (.pick 4 (.pick 9 (.pick 11 .tail .none) (.pick 11 (.pick 9 .tail .none) .none)) (.pick 11 (.pick 4 (.pick 9 .tail .none) .none) .none)) (.pick 11 (.pick 4 (.pick 9 (.pick 10 .tail .none) (.pick 10 (.pick 9 .tail .none) .none)) (.pick 10 (.pick 4 (.pick 9 .tail .none) .none) .none)) .none))))))))))) (by kernel_rfl) (by kernel_rfl) hS.drew ?_
  replace hS := hS.drew
  refine pln_read rfl (fun _ hS => run_move (by conv=>lhs;whnf)) rfl ?_
  refine pln_read rfl (fun _ hS => run_move (by conv=>lhs;whnf)) rfl ?_
  refine pln_read rfl (fun _ hS => run_indexAddr (sz := 4) rfl rfl rfl rfl (by omega) (by omega)) rfl ?_
  refine pln_read rfl (fun _ hS => run_load4 rfl rfl rfl (by exact (hcA _ hS).1) (by exact (hcA _ hS).2.1) (by exact (hcA _ hS).2.2.1) (by exact (hcA _ hS).2.2.2)) rfl ?_
  refine pln_read rfl (fun _ hS => run_move (by conv=>lhs;whnf)) rfl ?_
  refine pln_read rfl (fun _ hS => run_move (by conv=>lhs;whnf)) rfl ?_
  refine pln_read rfl (fun _ hS => run_indexAddr (sz := 4) rfl rfl rfl rfl (by omega) (by omega)) rfl ?_
  refine pln_read rfl (fun _ hS => run_load4 rfl rfl rfl (by exact (hcB _ hS).1) (by exact (hcB _ hS).2.1) (by exact (hcB _ hS).2.2.1) (by exact (hcB _ hS).2.2.2)) rfl ?_
  refine pln_pick rfl ?_ ?_
  ·refine lst_enter (run_call (by kernel_rfl) (args_2 (by conv=>lhs;whnf) (by conv=>lhs;whnf))) rfl ?_
   refine Calls.mono (elook_any E x _ hE.rd hrx hE.ok hS) ?_
   rintro _ w5 ⟨u, rfl, hu1, hu2, hu3, hS'⟩
   refine ⟨_, rfl, ?_⟩
   replace hS := hS'
   clear hS'
   refine lst_pln (by exact hS) ?_
   refine pln_pick rfl ?_ ?_
   ·refine lst_enter (run_call (by kernel_rfl) (args_2 (by conv=>lhs;whnf) (by conv=>lhs;whnf))) rfl ?_
    refine Calls.mono (elook_any E y _ hE.rd hry hE.ok hS) ?_
    rintro _ w6 ⟨v, rfl, hv1, hv2, hv3, hS'⟩
    refine ⟨_, rfl, ?_⟩
    replace hS := hS'
    clear hS'
    refine lst_pln (by exact hS) ?_
    refine pln_pick rfl ?_ ?_
    ·refine lst_alloc (cs := [_, _, _, _]) hS rfl rfl rfl ?_
     clear hS
     intro b1 wx1 hS
     refine lst_pln (by exact hS.drop) ?_
     refine pln_last rfl ?_
     refine lst_alloc (cs := [_, _, _, _]) hS rfl rfl rfl ?_
     clear hS
     intro b2 wx2 hS
     refine lst_pln (by exact hS.drop.drop) ?_
     refine pln_tail ?_
     refine lst_storeN hS rfl (by conv=>lhs;whnf) rfl rfl (by exact .tail .head) (by repeat constructor) (by exact .tail .head) ?_
     clear hS
     intro wx3 hS
     refine lst_storeN hS rfl (by conv=>lhs;whnf) rfl rfl (by exact .head) (by repeat constructor) (by exact .head) ?_
     clear hS
     intro wx4 hS
     refine lst_done ?_
     first | exact hmeet _ _ _ _ ⟨_, _, u, v, rfl, rfl, hu1, hv1, hS⟩ (by conv=>lhs;whnf) (by conv=>lhs;whnf) (by kernel_rfl) | exact hmeet _ _ _ _ ⟨_, _, u, v, rfl, rfl, hu1, hv1, hS.perm (List.Perm.swap _ _ _)⟩ (by conv=>lhs;whnf) (by conv=>lhs;whnf) (by kernel_rfl)
    refine pln_last rfl ?_
    refine lst_alloc (cs := [_, _, _, _]) hS rfl rfl rfl ?_
    clear hS
    intro b3 wx5 hS
    refine lst_pln (by exact hS.drop) ?_
    refine pln_last rfl ?_
    refine lst_alloc (cs := [_, _, _, _]) hS rfl rfl rfl ?_
    clear hS
    intro b4 wx6 hS
    refine lst_pln (by exact hS.drop.drop) ?_
    refine pln_tail ?_
    refine lst_storeN hS rfl (by conv=>lhs;whnf) rfl rfl (by exact .head) (by repeat constructor) (by exact .head) ?_
    clear hS
    intro wx7 hS
    refine lst_storeN hS rfl (by conv=>lhs;whnf) rfl rfl (by exact .tail .head) (by repeat constructor) (by exact .tail .head) ?_
    clear hS
    intro wx8 hS
    refine lst_done ?_
    first | exact hmeet _ _ _ _ ⟨_, _, u, v, rfl, rfl, hu1, hv1, hS⟩ (by conv=>lhs;whnf) (by conv=>lhs;whnf) (by kernel_rfl) | exact hmeet _ _ _ _ ⟨_, _, u, v, rfl, rfl, hu1, hv1, hS.perm (List.Perm.swap _ _ _)⟩ (by conv=>lhs;whnf) (by conv=>lhs;whnf) (by kernel_rfl)
   refine pln_pick rfl ?_ ?_
   ·refine lst_alloc (cs := [_, _, _, _]) hS rfl rfl rfl ?_
    clear hS
    intro b5 wx9 hS
    refine lst_pln (by exact hS.drop) ?_
    refine pln_pick rfl ?_ ?_
    ·refine lst_enter (run_call (by kernel_rfl) (args_2 (by conv=>lhs;whnf) (by conv=>lhs;whnf))) rfl ?_
     refine Calls.mono (elook_any E y _ hE.rd hry hE.ok hS) ?_
     rintro _ w6 ⟨v, rfl, hv1, hv2, hv3, hS'⟩
     refine ⟨_, rfl, ?_⟩
     replace hS := hS'
     clear hS'
     refine lst_pln (by exact hS.drop) ?_
     refine pln_last rfl ?_
     refine lst_alloc (cs := [_, _, _, _]) hS rfl rfl rfl ?_
     clear hS
     intro b6 wx10 hS
     refine lst_pln (by exact hS.drop.drop) ?_
     refine pln_tail ?_
     refine lst_storeN hS rfl (by conv=>lhs;whnf) rfl rfl (by exact .tail .head) (by repeat constructor) (by exact .tail .head) ?_
     clear hS
     intro wx11 hS
     refine lst_storeN hS rfl (by conv=>lhs;whnf) rfl rfl (by exact .head) (by repeat constructor) (by exact .head) ?_
     clear hS
     intro wx12 hS
     refine lst_done ?_
     first | exact hmeet _ _ _ _ ⟨_, _, u, v, rfl, rfl, hu1, hv1, hS⟩ (by conv=>lhs;whnf) (by conv=>lhs;whnf) (by kernel_rfl) | exact hmeet _ _ _ _ ⟨_, _, u, v, rfl, rfl, hu1, hv1, hS.perm (List.Perm.swap _ _ _)⟩ (by conv=>lhs;whnf) (by conv=>lhs;whnf) (by kernel_rfl)
    refine pln_last rfl ?_
    refine lst_alloc (cs := [_, _, _, _]) hS rfl rfl rfl ?_
    clear hS
    intro b7 wx13 hS
    refine lst_pln (by exact hS.drop.drop) ?_
    refine pln_last rfl ?_
    refine lst_enter (run_call (by kernel_rfl) (args_2 (by conv=>lhs;whnf) (by conv=>lhs;whnf))) rfl ?_
    refine Calls.mono (elook_any E y _ hE.rd hry hE.ok hS) ?_
    rintro _ w6 ⟨v, rfl, hv1, hv2, hv3, hS'⟩
    refine ⟨_, rfl, ?_⟩
    replace hS := hS'
    clear hS'
    refine lst_pln (by exact hS.drop.drop) ?_
    refine pln_tail ?_
    refine lst_storeN hS rfl (by conv=>lhs;whnf) rfl rfl (by exact .tail .head) (by repeat constructor) (by exact .tail .head) ?_
    clear hS
    intro wx14 hS
    refine lst_storeN hS rfl (by conv=>lhs;whnf) rfl rfl (by exact .head) (by repeat constructor) (by exact .head) ?_
    clear hS
    intro wx15 hS
    refine lst_done ?_
    first | exact hmeet _ _ _ _ ⟨_, _, u, v, rfl, rfl, hu1, hv1, hS⟩ (by conv=>lhs;whnf) (by conv=>lhs;whnf) (by kernel_rfl) | exact hmeet _ _ _ _ ⟨_, _, u, v, rfl, rfl, hu1, hv1, hS.perm (List.Perm.swap _ _ _)⟩ (by conv=>lhs;whnf) (by conv=>lhs;whnf) (by kernel_rfl)
   refine pln_last rfl ?_
   refine lst_alloc (cs := [_, _, _, _]) hS rfl rfl rfl ?_
   clear hS
   intro b8 wx16 hS
   refine lst_pln (by exact hS.drop) ?_
   refine pln_pick rfl ?_ ?_
   ·refine lst_enter (run_call (by kernel_rfl) (args_2 (by conv=>lhs;whnf) (by conv=>lhs;whnf))) rfl ?_
    refine Calls.mono (elook_any E y _ hE.rd hry hE.ok hS) ?_
    rintro _ w6 ⟨v, rfl, hv1, hv2, hv3, hS'⟩
    refine ⟨_, rfl, ?_⟩
    replace hS := hS'
    clear hS'
    refine lst_pln (by exact hS.drop) ?_
    refine pln_last rfl ?_
    refine lst_alloc (cs := [_, _, _, _]) hS rfl rfl rfl ?_
    clear hS
    intro b9 wx17 hS
    refine lst_pln (by exact hS.drop.drop) ?_
    refine pln_tail ?_
    refine lst_storeN hS rfl (by conv=>lhs;whnf) rfl rfl (by exact .head) (by repeat constructor) (by exact .head) ?_
    clear hS
    intro wx18 hS
    refine lst_storeN hS rfl (by conv=>lhs;whnf) rfl rfl (by exact .tail .head) (by repeat constructor) (by exact .tail .head) ?_
    clear hS
    intro wx19 hS
    refine lst_done ?_
    first | exact hmeet _ _ _ _ ⟨_, _, u, v, rfl, rfl, hu1, hv1, hS⟩ (by conv=>lhs;whnf) (by conv=>lhs;whnf) (by kernel_rfl) | exact hmeet _ _ _ _ ⟨_, _, u, v, rfl, rfl, hu1, hv1, hS.perm (List.Perm.swap _ _ _)⟩ (by conv=>lhs;whnf) (by conv=>lhs;whnf) (by kernel_rfl)
   refine pln_last rfl ?_
   refine lst_alloc (cs := [_, _, _, _]) hS rfl rfl rfl ?_
   clear hS
   intro b10 wx20 hS
   refine lst_pln (by exact hS.drop.drop) ?_
   refine pln_last rfl ?_
   refine lst_enter (run_call (by kernel_rfl) (args_2 (by conv=>lhs;whnf) (by conv=>lhs;whnf))) rfl ?_
   refine Calls.mono (elook_any E y _ hE.rd hry hE.ok hS) ?_
   rintro _ w6 ⟨v, rfl, hv1, hv2, hv3, hS'⟩
   refine ⟨_, rfl, ?_⟩
   replace hS := hS'
   clear hS'
   refine lst_pln (by exact hS.drop.drop) ?_
   refine pln_tail ?_
   refine lst_storeN hS rfl (by conv=>lhs;whnf) rfl rfl (by exact .head) (by repeat constructor) (by exact .head) ?_
   clear hS
   intro wx21 hS
   refine lst_storeN hS rfl (by conv=>lhs;whnf) rfl rfl (by exact .tail .head) (by repeat constructor) (by exact .tail .head) ?_
   clear hS
   intro wx22 hS
   refine lst_done ?_
   first | exact hmeet _ _ _ _ ⟨_, _, u, v, rfl, rfl, hu1, hv1, hS⟩ (by conv=>lhs;whnf) (by conv=>lhs;whnf) (by kernel_rfl) | exact hmeet _ _ _ _ ⟨_, _, u, v, rfl, rfl, hu1, hv1, hS.perm (List.Perm.swap _ _ _)⟩ (by conv=>lhs;whnf) (by conv=>lhs;whnf) (by kernel_rfl)
  refine pln_pick rfl ?_ ?_
  ·refine lst_alloc (cs := [_, _, _, _]) hS rfl rfl rfl ?_
   clear hS
   intro b11 wx23 hS
   refine lst_pln (by exact hS.drop) ?_
   refine pln_pick rfl ?_ ?_
   ·refine lst_enter (run_call (by kernel_rfl) (args_2 (by conv=>lhs;whnf) (by conv=>lhs;whnf))) rfl ?_
    refine Calls.mono (elook_any E x _ hE.rd hrx hE.ok hS) ?_
    rintro _ w5 ⟨u, rfl, hu1, hu2, hu3, hS'⟩
    refine ⟨_, rfl, ?_⟩
    replace hS := hS'
    clear hS'
    refine lst_pln (by exact hS.drop) ?_
    refine pln_pick rfl ?_ ?_
    ·refine lst_enter (run_call (by kernel_rfl) (args_2 (by conv=>lhs;whnf) (by conv=>lhs;whnf))) rfl ?_
     refine Calls.mono (elook_any E y _ hE.rd hry hE.ok hS) ?_
     rintro _ w6 ⟨v, rfl, hv1, hv2, hv3, hS'⟩
     refine ⟨_, rfl, ?_⟩
     replace hS := hS'
     clear hS'
     refine lst_pln (by exact hS.drop) ?_
     refine pln_last rfl ?_
     refine lst_alloc (cs := [_, _, _, _]) hS rfl rfl rfl ?_
     clear hS
     intro b12 wx24 hS
     refine lst_pln (by exact hS.drop.drop) ?_
     refine pln_tail ?_
     refine lst_storeN hS rfl (by conv=>lhs;whnf) rfl rfl (by exact .tail .head) (by repeat constructor) (by exact .tail .head) ?_
     clear hS
     intro wx25 hS
     refine lst_storeN hS rfl (by conv=>lhs;whnf) rfl rfl (by exact .head) (by repeat constructor) (by exact .head) ?_
     clear hS
     intro wx26 hS
     refine lst_done ?_
     first | exact hmeet _ _ _ _ ⟨_, _, u, v, rfl, rfl, hu1, hv1, hS⟩ (by conv=>lhs;whnf) (by conv=>lhs;whnf) (by kernel_rfl) | exact hmeet _ _ _ _ ⟨_, _, u, v, rfl, rfl, hu1, hv1, hS.perm (List.Perm.swap _ _ _)⟩ (by conv=>lhs;whnf) (by conv=>lhs;whnf) (by kernel_rfl)
    refine pln_last rfl ?_
    refine lst_alloc (cs := [_, _, _, _]) hS rfl rfl rfl ?_
    clear hS
    intro b13 wx27 hS
    refine lst_pln (by exact hS.drop.drop) ?_
    refine pln_last rfl ?_
    refine lst_enter (run_call (by kernel_rfl) (args_2 (by conv=>lhs;whnf) (by conv=>lhs;whnf))) rfl ?_
    refine Calls.mono (elook_any E y _ hE.rd hry hE.ok hS) ?_
    rintro _ w6 ⟨v, rfl, hv1, hv2, hv3, hS'⟩
    refine ⟨_, rfl, ?_⟩
    replace hS := hS'
    clear hS'
    refine lst_pln (by exact hS.drop.drop) ?_
    refine pln_tail ?_
    refine lst_storeN hS rfl (by conv=>lhs;whnf) rfl rfl (by exact .tail .head) (by repeat constructor) (by exact .tail .head) ?_
    clear hS
    intro wx28 hS
    refine lst_storeN hS rfl (by conv=>lhs;whnf) rfl rfl (by exact .head) (by repeat constructor) (by exact .head) ?_
    clear hS
    intro wx29 hS
    refine lst_done ?_
    first | exact hmeet _ _ _ _ ⟨_, _, u, v, rfl, rfl, hu1, hv1, hS⟩ (by conv=>lhs;whnf) (by conv=>lhs;whnf) (by kernel_rfl) | exact hmeet _ _ _ _ ⟨_, _, u, v, rfl, rfl, hu1, hv1, hS.perm (List.Perm.swap _ _ _)⟩ (by conv=>lhs;whnf) (by conv=>lhs;whnf) (by kernel_rfl)
   refine pln_last rfl ?_
   refine lst_alloc (cs := [_, _, _, _]) hS rfl rfl rfl ?_
   clear hS
   intro b14 wx30 hS
   refine lst_pln (by exact hS.drop.drop) ?_
   refine pln_last rfl ?_
   refine lst_enter (run_call (by kernel_rfl) (args_2 (by conv=>lhs;whnf) (by conv=>lhs;whnf))) rfl ?_
   refine Calls.mono (elook_any E x _ hE.rd hrx hE.ok hS) ?_
   rintro _ w5 ⟨u, rfl, hu1, hu2, hu3, hS'⟩
   refine ⟨_, rfl, ?_⟩
   replace hS := hS'
   clear hS'
   refine lst_pln (by exact hS.drop.drop) ?_
   refine pln_last rfl ?_
   refine lst_enter (run_call (by kernel_rfl) (args_2 (by conv=>lhs;whnf) (by conv=>lhs;whnf))) rfl ?_
   refine Calls.mono (elook_any E y _ hE.rd hry hE.ok hS) ?_
   rintro _ w6 ⟨v, rfl, hv1, hv2, hv3, hS'⟩
   refine ⟨_, rfl, ?_⟩
   replace hS := hS'
   clear hS'
   refine lst_pln (by exact hS.drop.drop) ?_
   refine pln_tail ?_
   refine lst_storeN hS rfl (by conv=>lhs;whnf) rfl rfl (by exact .tail .head) (by repeat constructor) (by exact .tail .head) ?_
   clear hS
   intro wx31 hS
   refine lst_storeN hS rfl (by conv=>lhs;whnf) rfl rfl (by exact .head) (by repeat constructor) (by exact .head) ?_
   clear hS
   intro wx32 hS
   refine lst_done ?_
   first | exact hmeet _ _ _ _ ⟨_, _, u, v, rfl, rfl, hu1, hv1, hS⟩ (by conv=>lhs;whnf) (by conv=>lhs;whnf) (by kernel_rfl) | exact hmeet _ _ _ _ ⟨_, _, u, v, rfl, rfl, hu1, hv1, hS.perm (List.Perm.swap _ _ _)⟩ (by conv=>lhs;whnf) (by conv=>lhs;whnf) (by kernel_rfl)
  refine pln_last rfl ?_
  refine lst_alloc (cs := [_, _, _, _]) hS rfl rfl rfl ?_
  clear hS
  intro b15 wx33 hS
  refine lst_pln (by exact hS.drop) ?_
  refine pln_pick rfl ?_ ?_
  ·refine lst_enter (run_call (by kernel_rfl) (args_2 (by conv=>lhs;whnf) (by conv=>lhs;whnf))) rfl ?_
   refine Calls.mono (elook_any E x _ hE.rd hrx hE.ok hS) ?_
   rintro _ w5 ⟨u, rfl, hu1, hu2, hu3, hS'⟩
   refine ⟨_, rfl, ?_⟩
   replace hS := hS'
   clear hS'
   refine lst_pln (by exact hS.drop) ?_
   refine pln_pick rfl ?_ ?_
   ·refine lst_enter (run_call (by kernel_rfl) (args_2 (by conv=>lhs;whnf) (by conv=>lhs;whnf))) rfl ?_
    refine Calls.mono (elook_any E y _ hE.rd hry hE.ok hS) ?_
    rintro _ w6 ⟨v, rfl, hv1, hv2, hv3, hS'⟩
    refine ⟨_, rfl, ?_⟩
    replace hS := hS'
    clear hS'
    refine lst_pln (by exact hS.drop) ?_
    refine pln_last rfl ?_
    refine lst_alloc (cs := [_, _, _, _]) hS rfl rfl rfl ?_
    clear hS
    intro b16 wx34 hS
    refine lst_pln (by exact hS.drop.drop) ?_
    refine pln_tail ?_
    refine lst_storeN hS rfl (by conv=>lhs;whnf) rfl rfl (by exact .head) (by repeat constructor) (by exact .head) ?_
    clear hS
    intro wx35 hS
    refine lst_storeN hS rfl (by conv=>lhs;whnf) rfl rfl (by exact .tail .head) (by repeat constructor) (by exact .tail .head) ?_
    clear hS
    intro wx36 hS
    refine lst_done ?_
    first | exact hmeet _ _ _ _ ⟨_, _, u, v, rfl, rfl, hu1, hv1, hS⟩ (by conv=>lhs;whnf) (by conv=>lhs;whnf) (by kernel_rfl) | exact hmeet _ _ _ _ ⟨_, _, u, v, rfl, rfl, hu1, hv1, hS.perm (List.Perm.swap _ _ _)⟩ (by conv=>lhs;whnf) (by conv=>lhs;whnf) (by kernel_rfl)
   refine pln_last rfl ?_
   refine lst_alloc (cs := [_, _, _, _]) hS rfl rfl rfl ?_
   clear hS
   intro b17 wx37 hS
   refine lst_pln (by exact hS.drop.drop) ?_
   refine pln_last rfl ?_
   refine lst_enter (run_call (by kernel_rfl) (args_2 (by conv=>lhs;whnf) (by conv=>lhs;whnf))) rfl ?_
   refine Calls.mono (elook_any E y _ hE.rd hry hE.ok hS) ?_
   rintro _ w6 ⟨v, rfl, hv1, hv2, hv3, hS'⟩
   refine ⟨_, rfl, ?_⟩
   replace hS := hS'
   clear hS'
   refine lst_pln (by exact hS.drop.drop) ?_
   refine pln_tail ?_
   refine lst_storeN hS rfl (by conv=>lhs;whnf) rfl rfl (by exact .head) (by repeat constructor) (by exact .head) ?_
   clear hS
   intro wx38 hS
   refine lst_storeN hS rfl (by conv=>lhs;whnf) rfl rfl (by exact .tail .head) (by repeat constructor) (by exact .tail .head) ?_
   clear hS
   intro wx39 hS
   refine lst_done ?_
   first | exact hmeet _ _ _ _ ⟨_, _, u, v, rfl, rfl, hu1, hv1, hS⟩ (by conv=>lhs;whnf) (by conv=>lhs;whnf) (by kernel_rfl) | exact hmeet _ _ _ _ ⟨_, _, u, v, rfl, rfl, hu1, hv1, hS.perm (List.Perm.swap _ _ _)⟩ (by conv=>lhs;whnf) (by conv=>lhs;whnf) (by kernel_rfl)
  refine pln_last rfl ?_
  refine lst_alloc (cs := [_, _, _, _]) hS rfl rfl rfl ?_
  clear hS
  intro b18 wx40 hS
  refine lst_pln (by exact hS.drop.drop) ?_
  refine pln_last rfl ?_
  refine lst_enter (run_call (by kernel_rfl) (args_2 (by conv=>lhs;whnf) (by conv=>lhs;whnf))) rfl ?_
  refine Calls.mono (elook_any E x _ hE.rd hrx hE.ok hS) ?_
  rintro _ w5 ⟨u, rfl, hu1, hu2, hu3, hS'⟩
  refine ⟨_, rfl, ?_⟩
  replace hS := hS'
  clear hS'
  refine lst_pln (by exact hS.drop.drop) ?_
  refine pln_last rfl ?_
  refine lst_enter (run_call (by kernel_rfl) (args_2 (by conv=>lhs;whnf) (by conv=>lhs;whnf))) rfl ?_
  refine Calls.mono (elook_any E y _ hE.rd hry hE.ok hS) ?_
  rintro _ w6 ⟨v, rfl, hv1, hv2, hv3, hS'⟩
  refine ⟨_, rfl, ?_⟩
  replace hS := hS'
  clear hS'
  refine lst_pln (by exact hS.drop.drop) ?_
  refine pln_tail ?_
  refine lst_storeN hS rfl (by conv=>lhs;whnf) rfl rfl (by exact .head) (by repeat constructor) (by exact .head) ?_
  clear hS
  intro wx41 hS
  refine lst_storeN hS rfl (by conv=>lhs;whnf) rfl rfl (by exact .tail .head) (by repeat constructor) (by exact .tail .head) ?_
  clear hS
  intro wx42 hS
  refine lst_done ?_
  first | exact hmeet _ _ _ _ ⟨_, _, u, v, rfl, rfl, hu1, hv1, hS⟩ (by conv=>lhs;whnf) (by conv=>lhs;whnf) (by kernel_rfl) | exact hmeet _ _ _ _ ⟨_, _, u, v, rfl, rfl, hu1, hv1, hS.perm (List.Perm.swap _ _ _)⟩ (by conv=>lhs;whnf) (by conv=>lhs;whnf) (by kernel_rfl)
 clear hS
 rintro jv2 _ _ w7 ⟨b5, b6, u, v, rfl, rfl, hu1, hv1, hS⟩
 rw [← hu1, ← hv1]
 have hPS : ∀ w', St M w0 ((b5, .cells (tcs u).toArray 24) :: (b6, .cells (tcs v).toArray 24) :: (pb, .cells (pcsP pA X.length pc q p oA K.length oc).toArray 101) :: (O ++ H)) F w' → PSt M w0 H F pb pA X.length pc q p w' := fun w' hS => ⟨K, oA, oc, O, hK, hKr, hrow, hS.drop.drop⟩
 by_cases ku : u.k = 2
 ·by_cases kv : v.k = 2
  ·rw [if_neg (by show ¬ (u.k ≠ 2 ∨ v.k ≠ 2); omega)]
   by_cases hlt : u.n < v.n
   ·rw [if_pos (by exact hlt)]
    refine goes_seq ?_
    refine goes_seq ?_
    refine goes_region ?_
    refine lst_run (run_fieldAddr (off := 0) rfl rfl) rfl ?_
    refine lst_run (run_load1_own hS rfl rfl (by exact .head) (by repeat constructor)) rfl ?_
    refine lst_run (run_neq_yes rfl rfl (by omega)) rfl ?_
    refine lst_run (run_move (by conv=>lhs;whnf)) rfl ?_
    refine lst_guard rfl rfl ?_
    refine lst_run (run_fieldAddr (off := 0) rfl rfl) rfl ?_
    refine lst_guard rfl rfl ?_
    refine lst_run (run_load1_own hS rfl rfl (by exact .tail .head) (by repeat constructor)) rfl ?_
    refine lst_guard rfl rfl ?_
    refine lst_run (run_neq_yes rfl rfl (by omega)) rfl ?_
    refine lst_run (run_pick_f rfl (by conv=>lhs;whnf)) rfl ?_
    refine lst_run (run_move (by conv=>lhs;whnf)) rfl ?_
    refine lst_guard rfl rfl ?_
    refine lst_run (run_move (by conv=>lhs;whnf)) rfl ?_
    refine lst_guard rfl rfl ?_
    refine lst_run (run_nilCheck rfl) rfl ?_
    refine lst_guard rfl rfl ?_
    refine lst_run (run_fieldAddr (off := 0) rfl rfl) rfl ?_
    refine lst_guard rfl rfl ?_
    refine lst_run (run_fieldAddr (off := 2) rfl rfl) rfl ?_
    refine lst_guard rfl rfl ?_
    refine lst_run (run_load1 rfl rfl (by exact (hpc hF0 _ hS).2.2.1)) rfl ?_
    refine lst_guard rfl rfl ?_
    refine lst_run (run_eqlS_f rfl rfl (by assumption)) rfl ?_
    refine lst_guard rfl rfl ?_
    refine lst_run (run_move (by conv=>lhs;whnf)) rfl ?_
    refine lst_pass rfl rfl rfl ?_
    refine lst_pass rfl rfl rfl ?_
    refine lst_pass rfl rfl rfl ?_
    refine lst_pass rfl rfl rfl ?_
    refine lst_pass rfl rfl rfl ?_
    refine lst_pass rfl rfl rfl ?_
    refine lst_pass rfl rfl rfl ?_
    refine lst_passU rfl rfl ?_
    refine lst_passU rfl rfl ?_
    refine lst_passU rfl rfl ?_
    refine lst_passU rfl rfl ?_
    refine lst_passU rfl rfl ?_
    refine lst_passU rfl rfl ?_
    refine lst_pass rfl rfl rfl ?_
    refine lst_guard rfl rfl ?_
    refine lst_run (run_pick_f rfl (by conv=>lhs;whnf)) rfl ?_
    refine lst_run (run_pick_f rfl (by conv=>lhs;whnf)) rfl ?_
    refine lst_done ?_
    refine goes_false rfl ?_
    refine goes_skip ?_
    refine goes_seq ?_
    refine goes_seq ?_
    refine goes_region ?_
    refine lst_run (run_move (by conv=>lhs;whnf)) rfl ?_
    refine lst_run (run_nilCheck rfl) rfl ?_
    refine lst_run (run_fieldAddr (off := 0) rfl rfl) rfl ?_
    refine lst_run (run_fieldAddr (off := 2) rfl rfl) rfl ?_
    refine lst_run (run_load1 rfl rfl (by exact (hpc hF0 _ hS).2.2.1)) rfl ?_
    refine lst_run (run_eqlS_t rfl rfl (by assumption)) rfl ?_
    refine lst_done ?_
    refine goes_true rfl ?_
    refine goes_seq ?_
    refine goes_seq ?_
    refine goes_region ?_
    refine lst_run (run_fieldAddr (off := 1) rfl rfl) rfl ?_
    refine lst_run (run_load1_own hS rfl rfl (by exact .head) (by repeat constructor)) rfl ?_
    refine lst_run (run_fieldAddr (off := 1) rfl rfl) rfl ?_
    refine lst_run (run_load1_own hS rfl rfl (by exact .tail .head) (by repeat constructor)) rfl ?_
    refine lst_run (run_lss_yes rfl rfl (by omega)) rfl ?_
    refine lst_done ?_
    refine goes_true rfl ?_
    refine goes_seq ?_
    refine goes_region ?_
    refine lst_run (run_move (by conv=>lhs;whnf)) rfl ?_
    refine lst_run (run_move (by conv=>lhs;whnf)) rfl ?_
    refine lst_run (run_nilCheck rfl) rfl ?_
    refine lst_run (run_fieldAddr (off := 5) rfl rfl) rfl ?_
    refine lst_run (run_load1 rfl rfl (by exact (hpc hF0 _ hS).2.2.2.2.2)) rfl ?_
    refine lst_run (run_move (by conv=>lhs;whnf)) rfl ?_
    refine lst_enter (run_call (by kernel_rfl) (args_3 (by conv=>lhs;whnf) (by conv=>lhs;whnf) (by conv=>lhs;whnf))) rfl ?_
    refine Calls.mono (hc _ (hPS _ hS)) ?_
    rintro _ w8 ⟨F2, rfl, hF2, hP'⟩
    refine ⟨_, rfl, ?_⟩
    refine lst_run (run_assign (by conv=>lhs;whnf)) rfl ?_
    refine lst_done ?_
    refine goes_ret1 Tryd.func80 rfl (by conv=>lhs;whnf) ?_
    exact ⟨F2, rfl, hF2, hP'⟩
   ·rw [if_neg (by exact hlt)]
    refine goes_seq ?_
    refine goes_seq ?_
    refine goes_region ?_
    refine lst_run (run_fieldAddr (off := 0) rfl rfl) rfl ?_
    refine lst_run (run_load1_own hS rfl rfl (by exact .head) (by repeat constructor)) rfl ?_
    refine lst_run (run_neq_yes rfl rfl (by omega)) rfl ?_
    refine lst_run (run_move (by conv=>lhs;whnf)) rfl ?_
    refine lst_guard rfl rfl ?_
    refine lst_run (run_fieldAddr (off := 0) rfl rfl) rfl ?_
    refine lst_guard rfl rfl ?_
    refine lst_run (run_load1_own hS rfl rfl (by exact .tail .head) (by repeat constructor)) rfl ?_
    refine lst_guard rfl rfl ?_
    refine lst_run (run_neq_yes rfl rfl (by omega)) rfl ?_
    refine lst_run (run_pick_f rfl (by conv=>lhs;whnf)) rfl ?_
    refine lst_run (run_move (by conv=>lhs;whnf)) rfl ?_
    refine lst_guard rfl rfl ?_
    refine lst_run (run_move (by conv=>lhs;whnf)) rfl ?_
    refine lst_guard rfl rfl ?_
    refine lst_run (run_nilCheck rfl) rfl ?_
    refine lst_guard rfl rfl ?_
    refine lst_run (run_fieldAddr (off := 0) rfl rfl) rfl ?_
    refine lst_guard rfl rfl ?_
    refine lst_run (run_fieldAddr (off := 2) rfl rfl) rfl ?_
    refine lst_guard rfl rfl ?_
    refine lst_run (run_load1 rfl rfl (by exact (hpc hF0 _ hS).2.2.1)) rfl ?_
    refine lst_guard rfl rfl ?_
    refine lst_run (run_eqlS_f rfl rfl (by assumption)) rfl ?_
    refine lst_guard rfl rfl ?_
    refine lst_run (run_move (by conv=>lhs;whnf)) rfl ?_
    refine lst_pass rfl rfl rfl ?_
    refine lst_pass rfl rfl rfl ?_
    refine lst_pass rfl rfl rfl ?_
    refine lst_pass rfl rfl rfl ?_
    refine lst_pass rfl rfl rfl ?_
    refine lst_pass rfl rfl rfl ?_
    refine lst_pass rfl rfl rfl ?_
    refine lst_passU rfl rfl ?_
    refine lst_passU rfl rfl ?_
    refine lst_passU rfl rfl ?_
    refine lst_passU rfl rfl ?_
    refine lst_passU rfl rfl ?_
    refine lst_passU rfl rfl ?_
    refine lst_pass rfl rfl rfl ?_
    refine lst_guard rfl rfl ?_
    refine lst_run (run_pick_f rfl (by conv=>lhs;whnf)) rfl ?_
    refine lst_run (run_pick_f rfl (by conv=>lhs;whnf)) rfl ?_
    refine lst_done ?_
    refine goes_false rfl ?_
    refine goes_skip ?_
    refine goes_seq ?_
    refine goes_seq ?_
    refine goes_region ?_
    refine lst_run (run_move (by conv=>lhs;whnf)) rfl ?_
    refine lst_run (run_nilCheck rfl) rfl ?_
    refine lst_run (run_fieldAddr (off := 0) rfl rfl) rfl ?_
    refine lst_run (run_fieldAddr (off := 2) rfl rfl) rfl ?_
    refine lst_run (run_load1 rfl rfl (by exact (hpc hF0 _ hS).2.2.1)) rfl ?_
    refine lst_run (run_eqlS_t rfl rfl (by assumption)) rfl ?_
    refine lst_done ?_
    refine goes_true rfl ?_
    refine goes_seq ?_
    refine goes_seq ?_
    refine goes_region ?_
    refine lst_run (run_fieldAddr (off := 1) rfl rfl) rfl ?_
    refine lst_run (run_load1_own hS rfl rfl (by exact .head) (by repeat constructor)) rfl ?_
    refine lst_run (run_fieldAddr (off := 1) rfl rfl) rfl ?_
    refine lst_run (run_load1_own hS rfl rfl (by exact .tail .head) (by repeat constructor)) rfl ?_
    refine lst_run (run_lss_no rfl rfl (by omega)) rfl ?_
    refine lst_done ?_
    refine goes_false rfl ?_
    refine goes_skip ?_
    refine goes_seq ?_
    refine goes_region ?_
    refine lst_run (run_assign (by conv=>lhs;whnf)) rfl ?_
    refine lst_done ?_
    refine goes_ret1 Tryd.func80 rfl (by conv=>lhs;whnf) ?_
    exact ⟨F, rfl, hF0, hPS _ hS⟩
  ·rw [if_pos (.inr (by exact kv))]
   refine goes_seq ?_
   refine goes_seq ?_
   refine goes_region ?_
   refine lst_run (run_fieldAddr (off := 0) rfl rfl) rfl ?_
   refine lst_run (run_load1_own hS rfl rfl (by exact .head) (by repeat constructor)) rfl ?_
   refine lst_run (run_neq_yes rfl rfl (by omega)) rfl ?_
   refine lst_run (run_move (by conv=>lhs;whnf)) rfl ?_
   refine lst_guard rfl rfl ?_
   refine lst_run (run_fieldAddr (off := 0) rfl rfl) rfl ?_
   refine lst_guard rfl rfl ?_
   refine lst_run (run_load1_own hS rfl rfl (by exact .tail .head) (by repeat constructor)) rfl ?_
   refine lst_guard rfl rfl ?_
   refine lst_run (run_neq_no rfl rfl (by assumption)) rfl ?_
   refine lst_run (run_pick_f rfl (by conv=>lhs;whnf)) rfl ?_
   refine lst_run (run_move (by conv=>lhs;whnf)) rfl ?_
   refine lst_pass rfl rfl rfl ?_
   refine lst_pass rfl rfl rfl ?_
   refine lst_pass rfl rfl rfl ?_
   refine lst_pass rfl rfl rfl ?_
   refine lst_pass rfl rfl rfl ?_
   refine lst_pass rfl rfl rfl ?_
   refine lst_pass rfl rfl rfl ?_
   refine lst_passU rfl rfl ?_
   refine lst_passU rfl rfl ?_
   refine lst_passU rfl rfl ?_
   refine lst_passU rfl rfl ?_
   refine lst_passU rfl rfl ?_
   refine lst_passU rfl rfl ?_
   refine lst_passU rfl rfl ?_
   refine lst_passU rfl rfl ?_
   refine lst_passU rfl rfl ?_
   refine lst_passU rfl rfl ?_
   refine lst_passU rfl rfl ?_
   refine lst_passU rfl rfl ?_
   refine lst_passU rfl rfl ?_
   refine lst_passU rfl rfl ?_
   refine lst_pass rfl rfl rfl ?_
   refine lst_run (run_pick_t rfl (by conv=>lhs;whnf)) rfl ?_
   refine lst_done ?_
   refine goes_true rfl ?_
   refine goes_seq ?_
   refine goes_region ?_
   refine lst_run (run_move (by conv=>lhs;whnf)) rfl ?_
   refine lst_enter (run_call (by kernel_rfl) (args_2 (by conv=>lhs;whnf) (by conv=>lhs;whnf))) rfl ?_
   refine Calls.mono (end_any pb pA X.length pc q p 5 _ (by omega) (hPS _ hS)) ?_
   rintro _ w8 ⟨rfl, hP'⟩
   refine ⟨_, rfl, ?_⟩
   refine lst_run (run_assign (by conv=>lhs;whnf)) rfl ?_
   refine lst_done ?_
   refine goes_ret1 Tryd.func80 rfl (by conv=>lhs;whnf) ?_
   exact ⟨F, rfl, hF0, hP'⟩
 ·rw [if_pos (.inl (by exact ku))]
  refine goes_seq ?_
  refine goes_seq ?_
  refine goes_region ?_
  refine lst_run (run_fieldAddr (off := 0) rfl rfl) rfl ?_
  refine lst_run (run_load1_own hS rfl rfl (by exact .head) (by repeat constructor)) rfl ?_
  refine lst_run (run_neq_no rfl rfl (by assumption)) rfl ?_
  refine lst_run (run_move (by conv=>lhs;whnf)) rfl ?_
  refine lst_pass rfl rfl rfl ?_
  refine lst_pass rfl rfl rfl ?_
  refine lst_pass rfl rfl rfl ?_
  refine lst_run (run_pick_t rfl (by conv=>lhs;whnf)) rfl ?_
  refine lst_run (run_move (by conv=>lhs;whnf)) rfl ?_
  refine lst_pass rfl rfl rfl ?_
  refine lst_pass rfl rfl rfl ?_
  refine lst_pass rfl rfl rfl ?_
  refine lst_pass rfl rfl rfl ?_
  refine lst_pass rfl rfl rfl ?_
  refine lst_pass rfl rfl rfl ?_
  refine lst_pass rfl rfl rfl ?_
  refine lst_passU rfl rfl ?_
  refine lst_passU rfl rfl ?_
  refine lst_passU rfl rfl ?_
  refine lst_passU rfl rfl ?_
  refine lst_passU rfl rfl ?_
  refine lst_passU rfl rfl ?_
  refine lst_passU rfl rfl ?_
  refine lst_passU rfl rfl ?_
  refine lst_passU rfl rfl ?_
  refine lst_passU rfl rfl ?_
  refine lst_passU rfl rfl ?_
  refine lst_passU rfl rfl ?_
  refine lst_passU rfl rfl ?_
  refine lst_passU rfl rfl ?_
  refine lst_pass rfl rfl rfl ?_
  refine lst_run (run_pick_t rfl (by conv=>lhs;whnf)) rfl ?_
  refine lst_done ?_
  refine goes_true rfl ?_
  refine goes_seq ?_
  refine goes_region ?_
  refine lst_run (run_move (by conv=>lhs;whnf)) rfl ?_
  refine lst_enter (run_call (by kernel_rfl) (args_2 (by conv=>lhs;whnf) (by conv=>lhs;whnf))) rfl ?_
  refine Calls.mono (end_any pb pA X.length pc q p 5 _ (by omega) (hPS _ hS)) ?_
  rintro _ w8 ⟨rfl, hP'⟩
  refine ⟨_, rfl, ?_⟩
  refine lst_run (run_assign (by conv=>lhs;whnf)) rfl ?_
  refine lst_done ?_
  refine goes_ret1 Tryd.func80 rfl (by conv=>lhs;whnf) ?_
  exact ⟨F, rfl, hF0, hP'⟩
end
end Go.Proofs.YtehhgmeaggempaaDoor
