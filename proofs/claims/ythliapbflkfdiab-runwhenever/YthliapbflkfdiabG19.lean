/- XWalk18, XInv, Solves, XWalk19, RunsK, SEnds, SMore, Alike: texts that follow one another, laid into one file. -/
import Derived.Test.YthliapbflkfdiabZ0
import Derived.Test.YthliapbflkfdiabG18
import Derived.Test.YthliapbflkfdiabG14
import Derived.KernelRfl
import Derived.Test.YthliapbflkfdiabG1
namespace Go.Proofs.Ythliapbflkfdiab
open Go.RowKit
set_option linter.unusedVariables false
set_option linter.unusedSimpArgs false
set_option maxRecDepth 100000
set_option maxHeartbeats 1000000
theorem chain_cnt {L : List XL} (hL : LnOk L) : ∀ (f : Nat) (i : Int) (p : List Bool × List Nat), (i = -1 ∨ (0 ≤ i ∧ i < L.length)) → p.1.length = L.length → p.2.length + p.1.count false ≤ L.length → (chainX L f i p).1.length = L.length ∧ (chainX L f i p).2.length + (chainX L f i p).1.count false ≤ L.length
 | 0, i, p, _, h1, h2 => ⟨h1, h2⟩
 | f + 1, i, p, hi, h1, h2 => by
  simp only [chainX]
  by_cases e1 : i = -1
  ·rw [if_pos e1]; exact ⟨h1, h2⟩
  rw [if_neg e1]
  by_cases e2 : p.1[i.toNat]? = some true
  ·rw [if_pos e2]; exact ⟨h1, h2⟩
  rw [if_neg e2]
  have hi' : 0 ≤ i ∧ i < L.length := hi.resolve_left e1
  have e3 : p.1[i.toNat]? = some false := by
   cases hv : p.1[i.toNat]? with
   | none => rw [List.getElem?_eq_none_iff] at hv; omega
   | some v => cases v with
    | true => exact absurd hv e2
    | false => rfl
  have hcnt := seen_set e3
  exact chain_cnt hL f _ _ (hL _ (List.mem_of_getElem? (lnk_get (L := L) (a := i.toNat) (by omega)))) (by simpa using h1) (by simp only [List.length_append, List.length_cons, List.length_nil]; omega)
theorem chains_cnt {L : List XL} (hL : LnOk L) : ∀ (C : List XC) (p : List Bool × List Nat), (∀ c ∈ C, c.at_ < L.length) → p.1.length = L.length → p.2.length + p.1.count false ≤ L.length → (chainsX L C p).2.length ≤ L.length
 | [], p, _, h1, h2 => by simp only [chainsX]; omega
 | c :: r, p, hC, h1, h2 => by
  simp only [chainsX]
  obtain ⟨a1, a2⟩ := chain_cnt hL (L.length + 1) (c.at_ : Nat) p (.inr ⟨by omega, by have := hC c (.head _); omega⟩) h1 h2
  exact chains_cnt hL r _ (fun c hc => hC c (.tail _ hc)) a1 a2
theorem live_len {x : XS} (hL : LnOk x.ln) (hC : ∀ c ∈ x.ch, c.at_ < x.ln.length) (hf : x.first = -1 ∨ (0 ≤ x.first ∧ x.first < x.ln.length)) : (liveX x).length ≤ x.ln.length := by
 unfold liveX
 obtain ⟨a1, a2⟩ := chain_cnt hL (x.ln.length + 1) x.first (List.replicate x.ln.length false, []) hf (by simp) (by simp)
 exact chains_cnt hL _ _ (fun c hc => hC c (List.mem_reverse.1 hc)) a1 a2
def gsOf (L : List XL) (I : List Nat) : List Int := I.map fun i => (lnk L i).g
theorem setG_len (L : List XL) (i : Nat) (g : Int) : (setG L i g).length = L.length := by simp [setG]
def LX.up (f g : Int → Int) (c : LX) : LX := ⟨c.at_, c.cls, c.A, c.c, (f (c.cells : Nat)).toNat, (g (c.bound : Nat)).toNat⟩
theorem modify_mid {α : Type} (D : List α) (c : α) (R : List α) (f : α → α) : (D ++ c :: R).modify D.length f = D ++ f c :: R := by
 induction D with
 | nil => rfl
 | cons d D ih => simp [ih]
theorem intsV_app (a b : List Int) : intsV (a ++ b) = intsV a ++ intsV b := by simp [intsV]
structure Told (vars : Nat) (x : XS) (h' : HH) (f g : Int → Int) : Prop where
 eq : collectH x.h (rootsX vars x) (x.ch.reverse.map fun c => ((c.cells : Nat) : Int)) (x.ch.reverse.map fun c => ((c.bound : Nat) : Int)) = (h', (rootsX vars x).map f, (x.ch.reverse.map fun c => ((c.cells : Nat) : Int)).map f, (x.ch.reverse.map fun c => ((c.bound : Nat) : Int)).map g, 0)
 fn : ∀ a, 0 ≤ f a
 gn : ∀ a, 0 ≤ g a
theorem Row.anew {el sz g len cap : Nat} {xs' sp : List Value} {xs : List Value} (h : (xs ++ sp).length = cap * sz) (h1 : xs.length = len * sz) (h2 : len ≤ cap) (hp : 0 < len) (hl : xs'.length = xs.length) : Row el sz (.slice (some ⟨g, 0, none⟩) len cap) len xs' [(g, .cells (xs' ++ sp).toArray el)] :=
 Row.own_ (by omega) (by rw [List.length_append] at h ⊢; omega) h2 (by omega)
section
variable {M : List Nat} {w0 : World} {H : List (Nat × Obj)} {F0 : List (World → Prop)} {b : Nat} {P : List LB} {pA : Option Addr} {pc vars fuel every : Nat}
theorem mcollect_any (x : XS) (h' : HH) (fT gT : Int → Int) (w : World) (hbd : XBd x) (hL : LnOk x.ln) (hlv : ∀ k ∈ liveX x, k < x.ln.length) (hLp : 0 < x.ln.length) (hf : x.first = -1 ∨ (0 ≤ x.first ∧ x.first < x.ln.length)) (hv8 : vars ≤ 8) (ht : Told vars x h' fT gT) (hs : XSt M w0 H F0 b P pA pc vars fuel every x w) :
  Calls Try.prog 99 #[ptm b] w fun e w' => e = .returned (.tuple #[]) ∧ XSt M w0 H F0 b P pA pc vars fuel every (collX vars x) w' := by
 have hll := live_len hL (fun c hc => (hbd.ch c hc).1) hf
 have hlnb := hbd.ln
 have hcnb := hbd.cn
 have hcx : collX vars x = ⟨h', x.goals, setGs (liveX x) ((gsOf x.ln (liveX x)).map fT) x.ln, x.first, (x.ch.map fun c => ⟨c.at_, c.cls, (fT (c.cells : Nat)).toNat, (gT (c.bound : Nat)).toNat⟩), x.ev⟩ := by
  unfold collX
  rw [ht.eq]
  dsimp only
  rw [List.map_map, List.map_map, setCs_map, ← List.map_reverse, List.reverse_reverse]
  have : ((rootsX vars x).map fT).drop vars = (gsOf x.ln (liveX x)).map fT := by
   unfold rootsX
   rw [List.map_append, List.drop_left' (by simp)]
   rfl
  rw [this]
  rfl
 rw [hcx]
 have hroot : rootsX vars x = (List.range vars).map (fun v => ((v : Nat) : Int)) ++ gsOf x.ln (liveX x) := rfl
 obtain ⟨d, F, hFF, hok, hS⟩ := hs
 refine goes_enter1 Try.func99 rfl Try.ntmps99 rfl ?_
 refine Zd ?_
 refine Zap ?_
 refine Zas ?_
 refine Zbi ?_
 refine ZcS ?_
 refine goes_loop2 18 2 (19 :: 20 :: 5 :: 21 :: 22 :: 23 :: 24 :: 25 :: []) (fun (i : Nat) v u w' => ∃ (A : Option Addr) (c : Nat) (O : List (Nat × Obj)), v = .int .i64 (i : Nat) ∧ u = .slice A i c ∧ i ≤ vars ∧ Row 3 1 (.slice A i c) i (intsV ((List.range i).map fun v => ((v : Nat) : Int))) O ∧ St M w0 ((b, mob P pA pc vars fuel every x d) :: (O ++ (d.O1 ++ (d.O2 ++ (d.O3 ++ H))))) F w') (fun i => vars - i) (0) ?_ (by conv=>lhs;whnf) (by conv=>lhs;whnf) ?_
 ·exact ⟨none, 0, [], rfl, rfl, by omega, Row.nil_, hS⟩
 clear hS
 rintro i _ _ w2 jv ⟨A, c, O, rfl, rfl, hi, hrow, hS⟩ ih
 by_cases hlt : i < vars
 ·refine Zb0 ?_
  refine ZY ?_
  refine ZaT ?_
  clear hS
  intro b1 wx1 hS
  refine ZeP ?_
  clear hS
  intro v8 O8 w8 hrow8 hS
  obtain ⟨A8, c8, rfl⟩ := hrow8.form
  replace hS := hS.perm (List.perm_append_comm_assoc O8 [_] _)
  refine Zan ?_
  refine ih (i + 1) _ _ _ _ ?_ ?_ (by conv=>lhs;whnf) (by conv=>lhs;whnf) (by kernel_rfl)
  ·omega
  ·refine ⟨A8, c8, O8, rfl, rfl, by omega, ?_, hS⟩
   rw [List.range_succ, List.map_append, intsV_app]; exact hrow8
 obtain rfl : vars = i := by omega
 clear ih hlt hi
 refine ZI ?_
 refine Zq ?_
 replace hS := hS.perm (.cons _ (perm_deepL O d.O1 d.O2 d.O3 H))
 refine Zp ?_
 refine Calls.mono (mlive_any (H := O ++ H) (F0 := F) x _ hbd hL hLp hf ⟨d, F, fun _ h => h, hok, hS⟩) ?_
 rintro _ w3 ⟨VA, vc, F1, rfl, hF1, hV1, hq⟩
 refine Za ?_
 clear hS hok
 obtain ⟨d, F2, hF2, hok, hS⟩ := hq
 replace hS := hS.perm (.cons _ (perm_deepL O d.O1 d.O2 d.O3 H).symm)
 have hV2 := hV1.mono hF2
 have hFF2 : ∀ φ ∈ F0, φ ∈ F2 := fun φ h => hF2 φ (hF1 φ (hFF φ h))
 clear hV1
 obtain ⟨hA, hc, hB, hd, LA, lc, O1, cs, CA, cc, O2, evs, EA, ec, O3⟩ := d
 have hrow1 : Row 138 3 (.slice LA x.ln.length lc) x.ln.length (xlL x.ln) O1 := hok.row1
 obtain ⟨gl, sp, rfl, rfl, hcap⟩ := hrow1.some_ hLp
 have hlcap := hrow1.cap
 have hcs : cs.map LX.xc = x.ch := hok.hc
 have hlc : cs.length = x.ch.length := by rw [← hcs]; simp
 have hrow2 : Row 144 4 (.slice CA cs.length cc) cs.length (xcL cs.reverse) O2 := hok.row2
 generalize hIe : liveX x = I at *
 replace hS : St M w0 ((b, mob P pA pc vars fuel every x ⟨hA, hc, hB, hd, some ⟨gl, 0, none⟩, lc, [(gl, .cells (xlL x.ln ++ sp).toArray 138)], cs, CA, cc, O2, evs, EA, ec, O3⟩) :: (O ++ ((gl, .cells (xlL x.ln ++ sp).toArray 138) :: (O2 ++ (O3 ++ H))))) F2 _ := hS
 refine Zbg ?_
 refine goes_loop2 30 2 (31 :: 32 :: 33 :: 8 :: 34 :: 35 :: 36 :: 37 :: 38 :: 39 :: 40 :: 41 :: 42 :: 43 :: 44 :: 45 :: []) (fun (R : List Nat) v u w' => ∃ (D : List Nat) (A : Option Addr) (c : Nat) (O : List (Nat × Obj)), I = D ++ R ∧ v = .int .i64 (D.length : Nat) ∧ u = .slice A (vars + D.length) c ∧ Row 3 1 (.slice A (vars + D.length) c) (vars + D.length) (intsV ((List.range vars).map (fun v => ((v : Nat) : Int)) ++ gsOf x.ln D)) O ∧ St M w0 ((b, mob P pA pc vars fuel every x ⟨hA, hc, hB, hd, some ⟨gl, 0, none⟩, lc, [(gl, .cells (xlL x.ln ++ sp).toArray 138)], cs, CA, cc, O2, evs, EA, ec, O3⟩) :: (O ++ ((gl, .cells (xlL x.ln ++ sp).toArray 138) :: (O2 ++ (O3 ++ H))))) F2 w') (fun R => R.length) (I) ?_ (by conv=>lhs;whnf) (by conv=>lhs;whnf) ?_
 ·exact ⟨[], A, c, O, rfl, rfl, rfl, by simpa [gsOf] using hrow, hS⟩
 clear hS hrow
 rintro R _ _ w4 jv2 ⟨D, A, c, O, hDR, rfl, rfl, hrow, hS⟩ ih
 have hlen : I.length = D.length + R.length := by rw [hDR]; simp
 cases R with
 | cons k R =>
  simp only [List.length_cons] at hlen
  obtain ⟨bv, ov, rfl⟩ := (hS.und hV2).some_ (by omega)
  have hkl := hlv k (by rw [hDR]; simp)
  have hk : ∀ {H'} w', St M w0 H' F2 w' → w'.cell? ⟨bv, ov + ((D.length : Nat) : Int).toNat * 1, none⟩ = some (.int .i64 (k : Nat)) := fun w' hS => by
   have := (hS.und hV2).get (j := D.length) (v := .int .i64 (k : Nat)) (by rw [hDR]; simp [natsV, intsV])
   rw [show ((D.length : Nat) : Int).toNat * 1 = D.length by omega]; exact this
  obtain ⟨l0, l1, l2⟩ := xlL_get x.ln k _ (lnk_get hkl)
  have hll' : ∀ {M2 H' F'} w', St M2 w0 H' F' w' → (gl, Obj.cells (xlL x.ln ++ sp).toArray 138) ∈ H' → _ := fun {M2 H' F'} w' (hS : St M2 w0 H' F' w') hm => Row.cell (w := w') hrow1 hS (by intro p hp; obtain rfl := List.mem_singleton.1 hp; exact hm) rfl l0
  refine ZaZ ?_
  refine Zdr ?_
  refine Zf ?_
  refine ZY ?_
  refine ZB ?_
  refine ZcM ?_
  refine Zdr ?_
  refine Zg ?_
  refine ZS ?_
  refine ZL ?_
  refine Zdr ?_
  refine ZaT ?_
  clear hS
  intro b1 wx1 hS
  refine ZeP ?_
  clear hS
  intro v8 O8 w8 hrow8 hS
  obtain ⟨A8, c8, rfl⟩ := hrow8.form
  replace hS := hS.perm (List.perm_append_comm_assoc O8 [_] _)
  refine Zan ?_
  refine ih (R) _ _ _ _ ?_ ?_ (by conv=>lhs;whnf) (by conv=>lhs;whnf) (by kernel_rfl)
  ·simp
  ·refine ⟨D ++ [k], A8, c8, O8, by rw [hDR]; simp, by simp, by simp [Nat.add_assoc], ?_, hS⟩
   have e : gsOf x.ln (D ++ [k]) = gsOf x.ln D ++ [(lnk x.ln k).g] := by simp [gsOf]
   rw [e, ← List.append_assoc, intsV_app, List.length_append, ← Nat.add_assoc]; exact hrow8
 | nil =>
 simp only [List.length_nil] at hlen
 have hID : I = D := by rw [hDR]; simp
 clear ih
 obtain ⟨F3, hF3, hR3, hS⟩ := St.freezeRow hrow (hS.perm List.perm_middle.symm)
 dsimp only [mob, mcs] at hS
 refine ZI ?_
 refine Zs ?_
 refine Z9 ?_
 refine Za7 ?_
 refine Zdr ?_
 refine ZJ ?_
 have hV3 := hV2.mono hF3
 have hok3 := hok.mono hF3
 have hFF3 : ∀ φ ∈ F0, φ ∈ F3 := fun φ h => hF3 φ (hFF2 φ h)
 clear hV2 hok hFF2
 refine goes_loop3 51 3 4 (52 :: 53 :: 54 :: 10 :: 55 :: 56 :: 57 :: 58 :: 59 :: 60 :: 61 :: 62 :: 63 :: 64 :: 65 :: []) (fun (R : List LX) v u z w' => ∃ (D : List LX) (A2 : Option Addr) (c2 : Nat) (Ot : List (Nat × Obj)) (A3 : Option Addr) (c3 : Nat) (Om : List (Nat × Obj)), cs.reverse = D ++ R ∧ v = .int .i64 (D.length : Nat) ∧ u = .slice A2 D.length c2 ∧ z = .slice A3 D.length c3 ∧ Row 3 1 (.slice A2 D.length c2) D.length (intsV (D.map fun c => ((c.cells : Nat) : Int))) Ot ∧ Row 3 1 (.slice A3 D.length c3) D.length (intsV (D.map fun c => ((c.bound : Nat) : Int))) Om ∧ St M w0 ((b, mob P pA pc vars fuel every x ⟨hA, hc, hB, hd, some ⟨gl, 0, none⟩, lc, [(gl, .cells (xlL x.ln ++ sp).toArray 138)], cs, CA, cc, O2, evs, EA, ec, O3⟩) :: (Ot ++ (Om ++ ((gl, .cells (xlL x.ln ++ sp).toArray 138) :: (O2 ++ (O3 ++ H)))))) F3 w') (fun R => R.length) (cs.reverse) ?_ (by conv=>lhs;whnf) (by conv=>lhs;whnf) (by conv=>lhs;whnf) ?_
 ·exact ⟨[], none, 0, [], none, 0, [], rfl, rfl, rfl, rfl, Row.nil_, Row.nil_, hS⟩
 clear hS
 rintro R _ _ _ w5 jv3 ⟨E, A2, c2, Ot, A3, c3, Om, hER, rfl, rfl, rfl, hrt, hrm, hS⟩ ih
 have hlen2 : cs.length = E.length + R.length := by
  have := congrArg List.length hER
  simpa using this
 cases R with
 | cons k R =>
  simp only [List.length_cons] at hlen2
  obtain ⟨k0, k1, k2, k3⟩ := xcL_get cs.reverse E.length k (by rw [hER]; simp)
  obtain ⟨gc, sp2, rfl, rfl, hcap2⟩ := hrow2.some_ (by omega)
  have hcl : ∀ {M2 H' F'} w', St M2 w0 H' F' w' → (gc, Obj.cells (xcL cs.reverse ++ sp2).toArray 144) ∈ H' → _ := fun {M2 H' F'} w' (hS : St M2 w0 H' F' w') hm => And.intro (Row.cell (w := w') hrow2 hS (by intro p hp; obtain rfl := List.mem_singleton.1 hp; exact hm) rfl k0) (And.intro (Row.cell (w := w') hrow2 hS (by intro p hp; obtain rfl := List.mem_singleton.1 hp; exact hm) rfl k1) (And.intro (Row.cell (w := w') hrow2 hS (by intro p hp; obtain rfl := List.mem_singleton.1 hp; exact hm) rfl k2) (Row.cell (w := w') hrow2 hS (by intro p hp; obtain rfl := List.mem_singleton.1 hp; exact hm) rfl k3)))
  refine Zbp ?_
  refine Zaq ?_
  refine ZcO ?_
  refine Z2 ?_
  clear hS
  intro b1 wx1 hS
  refine Zb ?_
  clear hS
  intro wx2 hS
  refine Zbx ?_
  refine Zai ?_
  refine ZcN ?_
  refine ZaT ?_
  clear hS
  intro b2 wx3 hS
  refine lst_app (sz := 1) (bts := 8) hS (by conv=>lhs;whnf) rfl rfl rfl rfl (hrt) rfl rfl (.cons _ (List.perm_append_comm_assoc [_, _] Ot _)) (by omega) (by omega) rfl ?_
  clear hS
  intro v8 O8 w8 hrow8 hS
  obtain ⟨A8, c8, rfl⟩ := hrow8.form
  replace hS := hS.perm (List.perm_append_comm_assoc O8 [_, _] _)
  refine Zf ?_
  refine Zag ?_
  refine ZaE ?_
  refine ZcN ?_
  refine ZaT ?_
  clear hS
  intro b3 wx4 hS
  refine lst_app (sz := 1) (bts := 8) hS (by conv=>lhs;whnf) rfl rfl rfl rfl (hrm) rfl rfl (.cons _ (perm_out2 [_, _] O8 Om _)) (by omega) (by omega) rfl ?_
  clear hS
  intro v9 O9 w9 hrow9 hS
  obtain ⟨A9, c9, rfl⟩ := hrow9.form
  replace hS := hS.perm (perm_out2 [_, _] O8 O9 _).symm
  refine Zan ?_
  refine ih (R) _ _ _ _ _ ?_ ?_ (by conv=>lhs;whnf) (by conv=>lhs;whnf) (by conv=>lhs;whnf) (by kernel_rfl)
  ·simp
  ·refine ⟨E ++ [k], A8, c8, O8, A9, c9, O9, by rw [hER]; simp, by simp, by simp, by simp, ?_, ?_, hS.drop⟩
   ·rw [List.map_append, intsV_app, List.length_append]; exact hrow8
   ·rw [List.map_append, intsV_app, List.length_append]; exact hrow9
 | nil =>
 simp only [List.length_nil] at hlen2
 have hEc : cs.reverse = E := by rw [hER]; simp
 clear ih
 obtain ⟨F4, hF4, hT4, hS⟩ := St.freezeRow hrt (hS.perm List.perm_middle.symm)
 obtain ⟨F5, hF5, hK5, hS⟩ := St.freezeRow hrm (hS.perm List.perm_middle.symm)
 refine ZI ?_
 refine Zm ?_
 refine Zb3 ?_
 first
  | refine lst_run (run_loadN_own (k := 2) hS rfl rfl rfl (by first | exact .head | exact .tail .head | exact .tail (.tail .head) | exact .tail (.tail (.tail .head)) | exact .tail (.tail (.tail (.tail .head))) | exact .tail (.tail (.tail (.tail (.tail .head))))) (by repeat constructor)) rfl ?_
  | refine lst_run (run_loadN_own (k := 2) hS rfl rfl rfl (by first | exact .head | exact .tail .head | exact .tail (.tail .head) | exact .tail (.tail (.tail .head)) | exact .tail (.tail (.tail (.tail .head))) | exact .tail (.tail (.tail (.tail (.tail .head))))) (by assumption)) rfl ?_
  | refine lst_run (run_load2 rfl rfl rfl (by first | assumption | exact (hcl _ hS (by simp)).1 | exact (hcl _ hS (by simp)).2.1 | exact (hcl _ hS (by simp)).2.2.1 | exact (hcl _ hS (by simp)).2.2.2 | exact hS.cell0 (by assumption)) (by first | assumption | exact (hcl _ hS (by simp)).1 | exact (hcl _ hS (by simp)).2.1 | exact (hcl _ hS (by simp)).2.2.1 | exact (hcl _ hS (by simp)).2.2.2 | exact hS.cell0 (by assumption))) rfl ?_
 refine ZO ?_
 refine Zg ?_
 have hFF5 : ∀ φ ∈ F0, φ ∈ F5 := fun φ h => hF5 φ (hF4 φ (hFF3 φ h))
 have hR5 := (hR3.mono hF4).mono hF5
 have hT5 := hT4.mono hF5
 have hok5 := (hok3.mono hF4).mono hF5
 have hV5 := (hV3.mono hF4).mono hF5
 clear hT4 hR3 hok3 hV3 hFF3
 have hchE : x.ch.reverse = E.map LX.xc := by rw [← hcs, ← List.map_reverse, hEc]
 have teq := ht.eq
 rw [hroot, hID, hchE, List.map_map, List.map_map] at teq
 obtain ⟨Rt, hRt⟩ : ∃ Rt, Rt = (List.range vars).map (fun v => ((v : Nat) : Int)) ++ gsOf x.ln D := ⟨_, rfl⟩
 rw [← hRt] at teq hR5
 obtain ⟨Tt, hTt⟩ : ∃ Tt, Tt = E.map (fun c => ((c.cells : Nat) : Int)) := ⟨_, rfl⟩
 obtain ⟨Kt, hKt⟩ : ∃ Kt, Kt = E.map (fun c => ((c.bound : Nat) : Int)) := ⟨_, rfl⟩
 rw [← hTt] at hT5
 rw [← hKt] at hK5
 replace teq : collectH x.h Rt Tt Kt = (h', Rt.map fT, Tt.map fT, Kt.map gT, 0) := by rw [hTt, hKt]; exact teq
 have hRl : Rt.length = vars + D.length := by rw [hRt]; simp [gsOf]
 have hTl : Tt.length = E.length := by rw [hTt]; simp
 have hKl : Kt.length = E.length := by rw [hKt]; simp
 have hElen : E.length = cs.length := by rw [← hEc]; simp
 have hIl : D.length ≤ x.ln.length := by rw [← hID]; exact hll
 have hcall : ∀ {H'} w', St M w0 H' F5 w' → Calls Try.prog 29 #[hv x.h hA hc hB hd, .slice A (vars + D.length) c, .slice A2 E.length c2, .slice A3 E.length c3] w' fun e w'' => ∃ (A' : Option Addr) (c' : Nat) (B' : Option Addr) (d' : Nat) (a1 a2 a3 : Option Addr) (c1 c2 c3 : Nat) (F' : List (World → Prop)),
   e = .returned (.tuple #[hv h' A' c' B' d', .slice a1 (vars + D.length) c1, .slice a2 E.length c2, .slice a3 E.length c3, .int .i64 0]) ∧ (∀ φ ∈ F5, φ ∈ F') ∧ Und F' (HFl h' A' c' B' d') ∧ Und F' (Flat 1 (intsV (Rt.map fT)) a1 (vars + D.length) c1) ∧ Und F' (Flat 1 (intsV (Tt.map fT)) a2 E.length c2) ∧ Und F' (Flat 1 (intsV (Kt.map gT)) a3 E.length c3) ∧ St M w0 H' F' w'' := by
  intro H' w' hS
  have h0 := collect_any x.h Rt Tt Kt hA hB A A2 A3 hc hd c c2 c3 w' hok5.hh (by rw [hRl]; exact hR5) (by rw [hTl]; exact hT5) (by rw [hKl]; exact hK5) (by omega) (by omega) (by omega) hS
  rw [teq, hRl, hTl, hKl] at h0
  refine h0.mono ?_
  rintro e w'' ⟨A', c', B', d', a1, a2, a3, c1, c2, c3, F', he, hF', q1, q2, q3, q4, q5⟩
  simp only [List.length_map, hRl, hTl, hKl] at he q2 q3 q4
  exact ⟨A', c', B', d', a1, a2, a3, c1, c2, c3, F', he, hF', q1, q2, q3, q4, q5⟩
 refine lst_enter (run_call (by kernel_rfl) (args_4 (by conv=>lhs;whnf) (by conv=>lhs;whnf) (by conv=>lhs;whnf) (by conv=>lhs;whnf))) rfl ?_
 refine Calls.mono (hcall _ hS) ?_
 rintro _ w6 ⟨A6, c6, B6, d6, a1, a2, a3, c16, c26, c36, F6, rfl, hF6, hH6, hr6, ht6, hk6, hS'⟩
 refine Za ?_
 replace hS := hS'
 clear hS'
 have hok6 := hok5.mono hF6
 have hV6 := hV5.mono hF6
 have hFF6 : ∀ φ ∈ F0, φ ∈ F6 := fun φ h => hF6 φ (hFF5 φ h)
 clear hcall hok5 hV5 hR5 hT5 hK5 hFF5
 refine Zaf ?_
 refine ZeW ?_
 refine ZcZ ?_
 refine Zcu ?_
 clear hS
 intro wx1 hS
 refine Zap ?_
 refine Zas ?_
 refine ZJ ?_
 replace hS : St M w0 ((b, mob P pA pc vars fuel every (XS.mk h' x.goals x.ln x.first x.ch x.ev) (XD.mk A6 c6 B6 d6 (some ⟨gl, 0, none⟩) lc [] cs CA cc [] evs EA ec [])) :: ((gl, .cells (xlL x.ln ++ sp).toArray 138) :: (O2 ++ (O3 ++ H)))) F6 _ := hS
 refine goes_loop1 85 (86 :: 87 :: 88 :: 89 :: 11 :: 12 :: 90 :: 91 :: 92 :: 93 :: 94 :: 95 :: 96 :: 97 :: 98 :: 99 :: 100 :: 101 :: 102 :: 103 :: 104 :: 105 :: 106 :: []) (fun (R : List Nat) v w' => ∃ (D1 : List Nat) (L' : List XL), I = D1 ++ R ∧ v = .int .i64 (D1.length : Nat) ∧ L'.length = x.ln.length ∧ setGs R ((gsOf x.ln R).map fT) L' = setGs I ((gsOf x.ln I).map fT) x.ln ∧ St M w0 ((b, mob P pA pc vars fuel every (XS.mk h' x.goals x.ln x.first x.ch x.ev) (XD.mk A6 c6 B6 d6 (some ⟨gl, 0, none⟩) lc [] cs CA cc [] evs EA ec [])) :: (gl, .cells (xlL L' ++ sp).toArray 138) :: (O2 ++ (O3 ++ H))) F6 w') (fun R => R.length) (I) ?_ (by conv=>lhs;whnf) ?_
 ·exact ⟨[], x.ln, rfl, rfl, rfl, rfl, hS⟩
 clear hS
 rintro R _ w7 jv4 ⟨D1, L', hD1, rfl, hLl, heq, hS⟩ ih
 have hlen3 : I.length = D1.length + R.length := by rw [hD1]; simp
 cases R with
 | cons k R =>
  simp only [List.length_cons] at hlen3
  obtain ⟨bv, ov, rfl⟩ := (hS.und hV6).some_ (by omega)
  obtain ⟨ba, oa, rfl⟩ := (hS.und hr6).some_ (by rw [hID] at hlen3; omega)
  have hkl := hlv k (by rw [hD1]; simp)
  have hk : ∀ {H'} w', St M w0 H' F6 w' → w'.cell? ⟨bv, ov + ((D1.length : Nat) : Int).toNat * 1, none⟩ = some (.int .i64 (k : Nat)) := fun w' hS => by
   have := (hS.und hV6).get (j := D1.length) (v := .int .i64 (k : Nat)) (by rw [hD1]; simp [natsV, intsV])
   rw [show ((D1.length : Nat) : Int).toNat * 1 = D1.length by omega]; exact this
  have hg : ∀ {H'} w', St M w0 H' F6 w' → w'.cell? ⟨ba, oa + (((vars : Nat) : Int) + ((D1.length : Nat) : Int)).toNat * 1, none⟩ = some (.int .i64 (fT (lnk x.ln k).g)) := fun w' hS => by
   have e0 : Rt[vars + D1.length]? = some (lnk x.ln k).g := by
    rw [hRt, List.getElem?_append_right (by simp), ← hID, hD1]; simp [gsOf]
   have := (hS.und hr6).get (j := vars + D1.length) (v := .int .i64 (fT (lnk x.ln k).g)) (by simp [intsV, e0])
   rw [show (((vars : Nat) : Int) + ((D1.length : Nat) : Int)).toNat * 1 = vars + D1.length by omega]; exact this
  have hput := xlL_put L' sp k (fT (lnk x.ln k).g) (by omega)
  have hIl2 : I.length = D.length := by rw [hID]
  dsimp only [mob, mcs] at hS
  refine Zbw ?_
  refine ZeQ ?_
  refine Zv ?_
  refine ZdW ?_
  replace hS := hS.drew
  refine ZH ?_
  refine ZcL ?_
  refine Zd0 ?_
  refine ZaB ?_
  refine ZH ?_
  refine Zde ?_
  refine Zd0 ?_
  refine ZA ?_
  refine ord_read rfl (fun _ hS => run_add rfl rfl (by omega) (by omega)) rfl ?_
  refine Zdj ?_
  refine Zd0 ?_
  refine Zaw ?_
  refine Zad ?_
  refine ZP ?_
  refine Zen ?_
  clear hS
  intro w8 hS
  refine Zah ?_
  refine ih (R) _ _ _ ?_ ?_ (by conv=>lhs;whnf) (by kernel_rfl)
  ·simp
  ·exact ⟨D1 ++ [k], setG L' k (fT (lnk x.ln k).g), by rw [hD1]; simp, by simp, by rw [setG_len]; exact hLl, heq, hS⟩
 | nil =>
 clear ih
 simp only [List.length_nil] at hlen3
 dsimp only [mob, mcs] at hS
 refine ZI ?_
 refine Z9 ?_
 refine Za7 ?_
 refine ZeQ ?_
 refine ZJ ?_
 replace heq : L' = setGs I ((gsOf x.ln I).map fT) x.ln := heq
 replace hS := hS.perm (.cons _ (List.perm_middle (l₁ := O2)).symm)
 refine goes_loop1 112 (113 :: 114 :: 13 :: 115 :: 116 :: 117 :: 118 :: 119 :: 120 :: 121 :: 122 :: 123 :: 124 :: 125 :: 126 :: 127 :: 128 :: 129 :: 130 :: 131 :: 132 :: 133 :: 134 :: 135 :: 136 :: 137 :: []) (fun (R : List LX) v w' => ∃ (E1 : List LX) (O2' : List (Nat × Obj)), E = E1 ++ R ∧ v = .int .i64 (E1.length : Nat) ∧ Row 144 4 (.slice CA cs.length cc) cs.length (xcL (E1.map (LX.up fT gT) ++ R)) O2' ∧ St M w0 ((b, mob P pA pc vars fuel every (XS.mk h' x.goals x.ln x.first x.ch x.ev) (XD.mk A6 c6 B6 d6 (some ⟨gl, 0, none⟩) lc [] cs CA cc [] evs EA ec [])) :: (O2' ++ ((gl, .cells (xlL L' ++ sp).toArray 138) :: (O3 ++ H)))) F6 w') (fun R => R.length) (E) ?_ (by conv=>lhs;whnf) ?_
 ·exact ⟨[], O2, rfl, rfl, by rw [← hEc]; exact hrow2, hS⟩
 clear hS
 rintro R _ w9 jv5 ⟨E1, O2', hE1, rfl, hrow, hS⟩ ih
 have hlen4 : E.length = E1.length + R.length := by rw [hE1]; simp
 cases R with
 | cons k R =>
  simp only [List.length_cons] at hlen4
  have hupl : (E1.map (LX.up fT gT)).length = E1.length := by simp
  generalize hEu : E1.map (LX.up fT gT) = Eu at *
  have hcp := hrow.cap
  have hxl := hrow.len_
  obtain ⟨gc, sp2, rfl, rfl, hcap2⟩ := hrow.some_ (by omega)
  obtain ⟨bt, ot, rfl⟩ := (hS.und ht6).some_ (by omega)
  obtain ⟨bk, ok, rfl⟩ := (hS.und hk6).some_ (by omega)
  have hc1 : ∀ {H'} w', St M w0 H' F6 w' → w'.cell? ⟨bt, ot + ((E1.length : Nat) : Int).toNat * 1, none⟩ = some (.int .i64 (((fT (k.cells : Nat)).toNat : Nat) : Int)) := fun w' hS => by
   have := (hS.und ht6).get (j := E1.length) (v := .int .i64 (fT (k.cells : Nat))) (by rw [hTt, hE1]; simp [intsV])
   rw [show ((E1.length : Nat) : Int).toNat * 1 = E1.length by omega, Int.toNat_of_nonneg (ht.fn _)]; exact this
  have hc2 : ∀ {H'} w', St M w0 H' F6 w' → w'.cell? ⟨bk, ok + ((E1.length : Nat) : Int).toNat * 1, none⟩ = some (.int .i64 (((gT (k.bound : Nat)).toNat : Nat) : Int)) := fun w' hS => by
   have := (hS.und hk6).get (j := E1.length) (v := .int .i64 (gT (k.bound : Nat))) (by rw [hKt, hE1]; simp [intsV])
   rw [show ((E1.length : Nat) : Int).toNat * 1 = E1.length by omega, Int.toNat_of_nonneg (ht.gn _)]; exact this
  have hp1 : Put (xcL (Eu ++ k :: R) ++ sp2) (E1.length * 4 + 2) (.int .i64 (((fT (k.cells : Nat)).toNat : Nat) : Int)) (xcL (Eu ++ k.cells' (fT (k.cells : Nat)).toNat :: R) ++ sp2) := by
   have := xcL_put2 (Eu ++ k :: R) sp2 Eu.length (fT (k.cells : Nat)).toNat (by simp)
   rwa [modify_mid, hupl] at this
  have hp2 : Put (xcL (Eu ++ k.cells' (fT (k.cells : Nat)).toNat :: R) ++ sp2) (E1.length * 4 + 3) (.int .i64 (((gT (k.bound : Nat)).toNat : Nat) : Int)) (xcL (Eu ++ (k.cells' (fT (k.cells : Nat)).toNat).bound' (gT (k.bound : Nat)).toNat :: R) ++ sp2) := by
   have := xcL_put3 (Eu ++ k.cells' (fT (k.cells : Nat)).toNat :: R) sp2 Eu.length (gT (k.bound : Nat)).toNat (by simp)
   rwa [modify_mid, hupl] at this
  replace hS : St M w0 ((b, mob P pA pc vars fuel every (XS.mk h' x.goals x.ln x.first x.ch x.ev) (XD.mk A6 c6 B6 d6 (some ⟨gl, 0, none⟩) lc [] cs (some ⟨gc, 0, none⟩) cc [] evs EA ec [])) :: (gc, .cells (xcL (Eu ++ k :: R) ++ sp2).toArray 144) :: ((gl, .cells (xlL L' ++ sp).toArray 138) :: (O3 ++ H))) F6 _ := hS
  dsimp only [mob, mcs] at hS
  refine ZaL ?_
  refine ZN ?_
  refine ZeR ?_
  replace hS := hS.drew
  refine ZH ?_
  refine ZbS ?_
  refine Zds ?_
  refine ZaB ?_
  refine ZA ?_
  refine Zdj ?_
  refine Zds ?_
  refine ord_read rfl (fun _ hS => run_indexAddr (sz := 4) rfl rfl rfl rfl (by omega) (by omega)) rfl ?_
  refine ZcD ?_
  refine ZP ?_
  refine lst_store1 hS rfl (by conv=>lhs;whnf) rfl rfl (.tail .head) (by rw [Nat.zero_add]; exact hp1) (.tail .head) ?_
  clear hS
  intro w10 hS
  refine Zc ?_
  refine ZeR ?_
  replace hS := hS.drew
  refine ZH ?_
  refine ZbS ?_
  refine Zds ?_
  refine ZaB ?_
  refine ZA ?_
  refine Zdj ?_
  refine Zds ?_
  refine ord_read rfl (fun _ hS => run_indexAddr (sz := 4) rfl rfl rfl rfl (by omega) (by omega)) rfl ?_
  refine Zde ?_
  refine ZP ?_
  refine lst_store1 hS rfl (by conv=>lhs;whnf) rfl rfl (.tail .head) (by rw [Nat.zero_add]; exact hp2) (.tail .head) ?_
  clear hS
  intro w11 hS
  refine Zah ?_
  refine ih (R) _ _ _ ?_ ?_ (by conv=>lhs;whnf) (by kernel_rfl)
  ·simp
  ·refine ⟨E1 ++ [k], [(gc, .cells (xcL (Eu ++ (k.cells' (fT (k.cells : Nat)).toNat).bound' (gT (k.bound : Nat)).toNat :: R) ++ sp2).toArray 144)], by rw [hE1]; simp, by simp, ?_, hS⟩
   have e : (E1 ++ [k]).map (LX.up fT gT) ++ R = Eu ++ (k.cells' (fT (k.cells : Nat)).toNat).bound' (gT (k.bound : Nat)).toNat :: R := by rw [List.map_append, hEu]; simp [LX.up, LX.cells', LX.bound']
   rw [e]
   exact Row.anew hcap2 hxl hcp (by omega) (by rw [xcL_len, xcL_len]; simp)
 | nil =>
 clear ih
 simp only [List.length_nil] at hlen4
 refine ZI ?_
 refine goes_end0 Try.func99 rfl ?_
 refine ⟨rfl, ⟨A6, c6, B6, d6, some ⟨gl, 0, none⟩, lc, [(gl, .cells (xlL L' ++ sp).toArray 138)], cs.map (LX.up fT gT), CA, cc, O2', evs, EA, ec, O3⟩, F6, hFF6, ⟨hH6, ?_, ?_, ?_, ?_, hok6.he, hok6.re, hok6.row3, hok6.rp⟩, ?_⟩
 ·show Row _ 3 (.slice (some ⟨gl, 0, none⟩) (setGs I ((gsOf x.ln I).map fT) x.ln).length lc) (setGs I ((gsOf x.ln I).map fT) x.ln).length (xlL (setGs I ((gsOf x.ln I).map fT) x.ln)) _
  rw [← heq, hLl]
  exact Row.anew hcap hrow1.len_ hlcap hLp (by rw [xlL_len, xlL_len, hLl])
 ·show (cs.map (LX.up fT gT)).map LX.xc = _
  rw [← hcs, List.map_map, List.map_map]
  rfl
 ·intro q hq
  obtain ⟨q', hq', rfl⟩ := List.mem_map.1 hq
  exact hok6.rc q' hq'
 ·show Row _ 4 (.slice CA (cs.map (LX.up fT gT)).length cc) (cs.map (LX.up fT gT)).length (xcL (cs.map (LX.up fT gT)).reverse) O2'
  rw [List.length_map, ← List.map_reverse, hEc]
  rw [List.append_nil] at hE1 hrow
  rw [hE1]; exact hrow
 ·have h5 := hS.perm (.cons _ (List.perm_middle (l₁ := O2')))
  have em : mob P pA pc vars fuel every (XS.mk h' x.goals x.ln x.first x.ch x.ev) (XD.mk A6 c6 B6 d6 (some ⟨gl, 0, none⟩) lc [] cs CA cc [] evs EA ec []) = mob P pA pc vars fuel every ⟨h', x.goals, setGs I ((gsOf x.ln I).map fT) x.ln, x.first, x.ch.map (fun c => ⟨c.at_, c.cls, (fT (c.cells : Nat)).toNat, (gT (c.bound : Nat)).toNat⟩), x.ev⟩ ⟨A6, c6, B6, d6, some ⟨gl, 0, none⟩, lc, [(gl, .cells (xlL L' ++ sp).toArray 138)], cs.map (LX.up fT gT), CA, cc, O2', evs, EA, ec, O3⟩ := by
   show Obj.cells _ _ _ = Obj.cells _ _ _
   rw [← heq]
   simp [hLl]
  rw [em] at h5
  exact h5
end
end Go.Proofs.Ythliapbflkfdiab
namespace Go.Proofs.Ythliapbflkfdiab
open Go.RowKit
set_option linter.unusedVariables false
set_option linter.unusedSimpArgs false
set_option maxRecDepth 8000
theorem layL_pos (T : Ts) : ∀ (p : Nat), ∀ g ∈ (layL T p).2, (p : Int) ≤ g ∧ g ≤ (p + (layL T p).1.length : Nat) := by
 induction T with
 | nil => intro p g hg; cases hg
 | cons k n s ar r _ ih =>
  intro p g hg
  simp only [layL, List.length_append] at hg ⊢
  rcases List.mem_cons.1 hg with rfl | hg
  ·omega
  ·have := ih _ g hg
   omega
theorem blockC_len' (c : Cl) : (blockC c).length = c.vars.toNat + ((lay1 c.k c.n c.s c.hd c.vars.toNat).length + (layL c.bd (c.vars.toNat + (lay1 c.k c.n c.s c.hd c.vars.toNat).length)).1.length) := by
 simp only [blockC, List.length_append, varsB_len]
theorem gok_of {c : Cl} (h : cB c = true) : GOk c := by
 obtain ⟨h0, h1, h2, h3, h4⟩ := cB_iff h
 have hb := blockC_len h
 rw [blockC_len'] at hb
 refine ⟨h0, by omega, by unfold goalsC; rw [layL_len]; omega, fun g hg => ?_⟩
 have := layL_pos _ _ g hg
 omega
theorem lbok_of {x : LB} (h : cB x.cl = true) : x.ok := by
 obtain ⟨h0, h1, h2, h3, h4⟩ := cB_iff h
 have hb := blockC_len h
 refine ⟨h0, by omega, by omega, ?_⟩
 have e : (blockC x.cl)[x.cl.vars.toNat]? = some (headX x.cl) := by
  unfold blockC headX
  rw [List.getElem?_append_right (by rw [varsB_len]; omega), varsB_len, Nat.sub_self]
  unfold lay1
  by_cases hk : x.cl.k = 3
  ·rw [if_pos hk, if_pos hk]; rfl
  ·rw [if_neg hk, if_neg hk]; rfl
 unfold hat; rw [if_pos h0]; exact e
theorem goalsQ_ok {v : Nat} {q : Ts} (h : qB (v : Nat) q = true) : (goalsQ (v : Nat) q).length ≤ 1000 ∧ ∀ g ∈ goalsQ (v : Nat) q, 0 ≤ g ∧ g ≤ 1000000 := by
 simp only [qB, Bool.and_eq_true, decide_eq_true_eq] at h
 obtain ⟨⟨⟨v0, v1⟩, v2⟩, v3⟩ := h
 have hn := Ts.goals_nodes _ _ v3
 have hll := layL_le q v
 unfold goalsQ
 rw [Int.toNat_natCast]
 refine ⟨by rw [layL_len]; omega, fun g hg => ?_⟩
 have := layL_pos _ _ g hg
 omega
theorem ChsRel.cls {q f : Nat} {L : List XL} : ∀ {B : Bnd} {h : HH} {cs : List Ch} {ds : List XC} {n : Nat}, ChsRel q f L B h cs ds → chsOk cs n → ∀ d ∈ ds, d.cls.length ≤ cntC cs ∧ ∀ c ∈ d.cls, cB c = true
 | _, _, [], [], _, _, _, d, hd => by cases hd
 | _, _, c :: cs, e :: ds, n, ⟨R, g, _, _, _, _, b5, _, b7⟩, ⟨_, _, _, _, k5, k6⟩, d, hd => by
  rcases List.mem_cons.1 hd with rfl | hd
  ·rw [b5]; exact ⟨by simp only [cntC]; omega, k5⟩
  ·obtain ⟨h1, h2⟩ := b7.cls k6 d hd
   exact ⟨by simp only [cntC]; omega, h2⟩
theorem XRel.goals150 {q F : Nat} {s : SS} {x : XS} (H : XRel q F s x) : x.goals ≤ F ∧ F ≤ 150 := by
 have := H.i.fuel; have := H.i.f150; omega
theorem XRel.bd {q F : Nat} {s : SS} {x : XS} (H : XRel q F s x) : XBd x := by
 have hI := H.gs.c
 have hl := H.i.ch.len
 have h1 := hI.ch.len
 have h2 := hI.fr
 unfold mu at h2
 have h3 := H.i.lsz
 refine ⟨by omega, by omega, fun d hd => ?_⟩
 obtain ⟨c1, c2⟩ := H.i.csz d hd
 have hg := H.goals150
 obtain ⟨k1, k2⟩ := H.i.ch.cls hI.ch d hd
 exact ⟨H.i.ch.at_lt d hd, by omega, by omega, by omega, fun c hc => gok_of (k2 c hc)⟩
theorem XRel.lnok {q F : Nat} {s : SS} {x : XS} (H : XRel q F s x) : LnOk x.ln := by
 intro l hl
 obtain ⟨i, hi⟩ := List.mem_iff_getElem?.1 hl
 have := H.i.lnx i l hi
 have hil : i < x.ln.length := by
  rcases Nat.lt_or_ge i x.ln.length with h | h
  ·exact h
  ·rw [List.getElem?_eq_none h] at hi; cases hi
 omega
theorem at_mem : ∀ {T : Ts} {i : Nat}, i < T.length → T.Mem (T.at_ i)
 | .nil, i, h => by simp [Ts.length] at h
 | .cons k n s a r, 0, h => .inl rfl
 | .cons k n s a r, i + 1, h => .inr (at_mem (by simpa [Ts.length] using h))
theorem leads_of {q f : Nat} {B : Bnd} {h : HH} {R : Tm → Int → Prop} (H : GRel q f B h R) (hB : ∀ x ∈ B, tgd x.2) (hl : h.cs.length ≤ 65536) {t : Tm} {a : Int} (ht : R t a) (hg : tgd t) : Leads h a := by
 have da : isAddr h.cs a = true := H.bm.db ht
 have ho : HOk h := H.bm.okb
 obtain ⟨y, c, h1, h2, h3, h4⟩ := ho.view da
 obtain ⟨l1, l2⟩ := look_cell H ht
 have hc : cellX h a = c := by unfold cellX; rw [h1.look, h2]; rfl
 rw [hc] at l1 l2
 refine ⟨c, by rw [h1.look]; exact h2, ?_⟩
 have hgc := goodC_iff (good_hat ho.gl h2)
 by_cases hk : c.k = 2
 ·have hn := l2 (by omega)
  have hq : tgd (lookM B t) := look_Q hB hg
  obtain ⟨g1, _⟩ := hq
  simp only [Ts.good, Bool.and_eq_true] at g1
  have g2 := g1.1.1
  unfold nodeB at g2
  rw [if_neg (by omega), if_neg (by omega), if_pos (by omega)] at g2
  simp only [Bool.and_eq_true, decide_eq_true_eq] at g2
  omega
 ·rcases hgc with ⟨_, b1, b2, _⟩ | ⟨_, b1, _⟩ | ⟨b1, _⟩ | ⟨_, b1, b2, _⟩
  ·omega
  ·omega
  ·exact absurd b1 hk
  ·omega
theorem XRel.stepOk {q F : Nat} {s : SS} {x : XS} (H : XRel q F s x) (hne : x.first ≠ -1) : MStepOk x := by
 have hg := H.goals150
 have hcs := H.cs
 have hts := H.ts
 have hlen : x.h.cs.length ≤ 65536 := by omega
 obtain ⟨R, hG, hC⟩ := H.cur
 cases hgs : s.goals with
 | nil => rw [hgs] at hC; exact absurd hC hne
 | cons g rest =>
  rw [hgs] at hC
  obtain ⟨k, l, hk, h2, h3, h4, h5, h6⟩ := hC
  have hlk := lnk_of h2
  have hkl : k < x.ln.length := by
   rcases Nat.lt_or_ge k x.ln.length with h | h
   ·exact h
   ·rw [List.getElem?_eq_none h] at h2; cases h2
  obtain ⟨c1, c2, c3, c4, c5, c6, c7, c8⟩ := goal_cell hG h3
  have hgl := goodC_iff (good_hat hG.bm.okb.gl c8)
  have htg := H.gs.gg g (by rw [hgs]; exact List.mem_cons_self ..)
  have hog := H.gs.og
  rw [hgs] at hog
  have hl := H.i.ch.len
  refine ⟨H.bd, hlen, by omega, by omega, by omega, ?_, ?_⟩
  ·rw [hk, Int.toNat_natCast, hlk, h4]
   have := hog.1
   omega
  ·rw [hk, Int.toNat_natCast, hlk]
   refine ⟨_, c8, c5, by omega, fun hb hn => ?_⟩
   have har : 2 ≤ g.1.ar.length := by
    rw [← c2]
    unfold builtB at hb
    rcases hn with e | e
    ·rw [e] at hb; simp at hb; omega
    ·rw [e] at hb; simp at hb; omega
   have hA : ∀ i, i < g.1.ar.length → Leads x.h (l.g + 1 + (i : Nat)) := fun i hi => leads_of hG H.gs.c.gb hlen (c7 hi) (tgd_down _ htg _ (at_mem hi))
   refine ⟨by simpa using hA 0 (by omega), by simpa using hA 1 (by omega)⟩
theorem XRel.told {q F : Nat} {s : SS} {x : XS} (H : XRel q F s x) : ∃ (h' : HH) (f g : Int → Int), Told q x h' f g := by
 obtain ⟨R, hG, hC⟩ := H.cur
 have hgd := H.i.gd
 have hlive : ∀ k ∈ liveX x, isAddr x.h.cs (lnk x.ln k).g = true :=
  chains_all (P := Pl x.ln x.h.cs) (fun i hi hp => hp.next i hi) _ _ (fun c hc => H.i.ch.pl c (List.mem_reverse.1 hc)) (chain_all (P := Pl x.ln x.h.cs) (fun i hi hp => hp.next i hi) _ _ _ ⟨_, _, hC, fun t a ht => hG.bm.db ht.1⟩ fun k hk => by cases hk)
 have hroot : ∀ r ∈ rootsX q x, isAddr x.h.cs r = true := by
  intro r hr
  unfold rootsX at hr
  rcases List.mem_append.1 hr with hr | hr
  ·obtain ⟨v, hv, rfl⟩ := List.mem_map.1 hr
   exact hG.bm.db (hG.qv v (List.mem_range.1 hv))
  ·obtain ⟨k, hk, rfl⟩ := List.mem_map.1 hr
   exact hlive k hk
 refine ⟨⟨collL (marksM x.h.cs (rootsX q x)) x.h.cs, collT (marksM x.h.cs (rootsX q x)) x.h.tr⟩, rkI (marksM x.h.cs (rootsX q x)), rkI (x.h.tr.map (markAt (marksM x.h.cs (rootsX q x)))), ?_, fun a => by show (0 : Int) ≤ (rk _ _ : Nat); omega, fun a => by show (0 : Int) ≤ (rk _ _ : Nat); omega⟩
 unfold collectH
 rw [if_neg (by rw [hgd]; decide), if_neg (by rw [List.all_eq_true.2 hroot]; decide)]
theorem XRel.live {q F : Nat} {s : SS} {x : XS} (H : XRel q F s x) : (∀ k ∈ liveX x, k < x.ln.length) ∧ (x.first = -1 ∨ (0 ≤ x.first ∧ x.first < x.ln.length)) := by
 obtain ⟨R, hG, hC⟩ := H.cur
 have hb := hC.bd
 obtain ⟨hI, hf, hcl⟩ := live_ok H.i.lnx hb.1 hb.2 H.i.ch.at_lt
 exact ⟨hI.lt, by omega⟩
def Iv (q F n : Nat) (x : XS) : Prop := ∃ s : SS, XRel q F s x ∧ s.ev.length < 12 ∧ mu s < n
theorem Iv.start {q : Ts} {v F : Nat} (hq : qB (v : Nat) q = true) (hF : F ≤ 150) : Iv v F 4000 (startX q (v : Nat)) := by
 obtain ⟨hI, hmu⟩ := start_inv hq hF
 exact ⟨_, start_sim hq hF, by simp [startM], by omega⟩
theorem Iv.next {P : List Cl} {q F every n : Nat} {x : XS} (hp : pB P = true) (h : Iv q F n x) : ∃ n', n = n' + 1 ∧ (stepX P q F every x).2.ev.length ≤ 12 ∧ ((stepX P q F every x).1 = 0 → Iv q F n' (stepX P q F every x).2) := by
 obtain ⟨s, H, hev, hmu⟩ := h
 obtain ⟨h1, h2, h3⟩ := step_sim (every := every) hp H hev
 obtain ⟨hst, hst2⟩ := step_ok (vars := q) H.gs hev hp
 have hev3 := step_ev P q s H.gs hev hp
 refine ⟨n - 1, by omega, by rw [h2]; exact hev3, fun h0 => ?_⟩
 rw [← h1] at h0
 exact ⟨_, h3 h0, hst2 h0, by have := (hst.go h0).2; omega⟩
end Go.Proofs.Ythliapbflkfdiab
namespace Go.Proofs.Ythliapbflkfdiab
open Go.RowKit
set_option linter.unusedVariables false
set_option linter.unusedSimpArgs false
set_option maxRecDepth 100000
set_option maxHeartbeats 1000000
theorem ClsAt.segC {w : World} {b : Nat} : ∀ {L : List LC} {o : Nat}, ClsAt w b L o → (∀ x ∈ L, LCRd x w) → SegC w (fun _ => True) (L.map LC.cl) b o
 | [], _, _, _ => trivial
 | c :: r, o, ⟨h0, h1, h2, h3, h4, h5, h6⟩, hr => ⟨trivial, h0, h1, h2, ⟨_, h3, (hr c (.head _)).1.sl⟩, ⟨_, h4, (hr c (.head _)).2.sl⟩, h5, h6.segC fun x hx => hr x (.tail _ hx)⟩
theorem ClsR.slC {L : List LC} {A : Option Addr} {c : Nat} {w : World} (h : ClsR L A c w) : SlC w (fun _ => True) (.slice A L.length c) (L.map LC.cl) := by
 refine ⟨A, c, by simp, by simpa using h.1, fun hl => ?_⟩
 obtain ⟨b, o, e, hs⟩ := h.2.1 (by simpa using hl)
 exact ⟨b, o, e, hs.segC h.2.2⟩
section
variable {M : List Nat} {w0 : World} {H : List (Nat × Obj)} {F : List (World → Prop)}
end
end Go.Proofs.Ythliapbflkfdiab
namespace Go.Proofs.Ythliapbflkfdiab
open Go.RowKit
set_option linter.unusedVariables false
set_option linter.unusedSimpArgs false
set_option maxRecDepth 100000
set_option maxHeartbeats 1000000
section
variable {M : List Nat} {w0 : World} {H : List (Nat × Obj)} {F : List (World → Prop)}
theorem mstepI_any {b : Nat} {P : List LB} {pA : Option Addr} {pc vars fuel every n : Nat} {x : XS} (hp : pB (P.map LB.cl) = true) (hIv : Iv vars fuel n x) (hevr : every ≤ 9223372036854775807) (w : World) (hs : XSt M w0 H F b P pA pc vars fuel every x w) :
  Calls Try.prog 79 #[ptm b] w fun e w' => e = .returned (.int .i64 (stepX (P.map LB.cl) vars fuel every x).1) ∧ XSt M w0 H F b P pA pc vars fuel every (stepX (P.map LB.cl) vars fuel every x).2 w' := by
 obtain ⟨s, hR, hev, hmu⟩ := hIv
 have hp2 : (P.map LB.cl).length ≤ 24 ∧ ∀ x ∈ P.map LB.cl, cB x = true := by
  unfold pB at hp
  simp only [Bool.and_eq_true, decide_eq_true_eq, List.all_eq_true] at hp
  exact hp
 have hq8 := hR.i.q8
 have hg := hR.goals150
 have hmb : XRel vars fuel s (maybeX vars every x) ∧ (maybeX vars every x).first = x.first ∧ (maybeX vars every x).goals = x.goals := by
  unfold maybeX
  split
  ·exact coll_sim hR
  ·exact ⟨hR, rfl, rfl⟩
 refine mstep_any x w (fun p hpm => ?_) (by simpa using hp2.1) hq8 hR.bd (by rw [hR.i.ev]; exact hev) (by omega) hg.1 hevr (fun h1 h2 h3 h4 w2 hs2 => ?_) (fun h1 h2 => ⟨?_, hmb.2.2⟩) hs
 ·have := hp2.2 p.cl (List.mem_map.2 ⟨p, hpm, rfl⟩)
  exact ⟨lbok_of this, gok_of this⟩
 ·obtain ⟨h', f, g, ht⟩ := hR.told
  obtain ⟨hlv, hf⟩ := hR.live
  exact mcollect_any x h' f g w2 hR.bd hR.lnok hlv (by omega) hf hq8 ht hs2
 ·exact hmb.1.stepOk (by rw [hmb.2.1]; exact h1)
theorem runAll_any (X : List LC) (xA : Option Addr) (xc : Nat) (q : TA) (qA : Option Addr) (qc : Nat) (vars fuel every : Int) (w : World) (hX : Und F (ClsR X xA xc)) (hq : Und F (ArA qA qc q))
  (hpl : X.length ≤ 9223372036854775807) (hpw : ClsWide (X.map LC.cl)) (hql : q.len ≤ 9223372036854775807) (hqw : q.ts.wide) (hev : every ≤ 9223372036854775807) (hS : St M w0 H F w) :
  Calls Try.prog 43 #[.slice xA X.length xc, .slice qA q.len qc, .int .i64 vars, .int .i64 fuel, .int .i64 every] w fun e w' => ∃ (A : Option Addr) (c : Nat) (L : List KE) (F' : List (World → Prop)), e = .returned (.tuple #[.slice A L.length c, .int .i64 (allX (X.map LC.cl) q.ts vars fuel every).2]) ∧ L.map KE.ev = (allX (X.map LC.cl) q.ts vars fuel every).1 ∧ (∀ φ ∈ F, φ ∈ F') ∧ Und F' (KER L A c) ∧ St M w0 H F' w' := by
 by_cases hp : pB (X.map LC.cl) = true
 case neg =>
  exact rall_any (fun _ _ => False) X xA xc q qA qc vars fuel every w hX hq (fun w' hS => goodProgramW_any _ _ w' (hS.und hX).slC (by simpa using hpl) hpw) (fun w' hS => goodQueryW_any vars _ _ w' (hS.und hq).sl (by rw [TA.len_ts]; exact hql) hqw)
   (fun h => absurd h hp) (fun h => absurd h hp) (fun _ _ _ _ _ _ _ _ h => h.elim) (fun _ _ h => h.elim) hS
 by_cases hqB : qB vars q.ts = true
 case neg =>
  exact rall_any (fun _ _ => False) X xA xc q qA qc vars fuel every w hX hq (fun w' hS => goodProgramW_any _ _ w' (hS.und hX).slC (by simpa using hpl) hpw) (fun w' hS => goodQueryW_any vars _ _ w' (hS.und hq).sl (by rw [TA.len_ts]; exact hql) hqw)
   (fun _ h => absurd h hqB) (fun _ h => absurd h hqB) (fun _ _ _ _ _ _ _ _ h => h.elim) (fun _ _ h => h.elim) hS
 by_cases hf : 0 ≤ fuel ∧ fuel ≤ 150
 case neg =>
  exact rall_any (fun _ _ => False) X xA xc q qA qc vars fuel every w hX hq (fun w' hS => goodProgramW_any _ _ w' (hS.und hX).slC (by simpa using hpl) hpw) (fun w' hS => goodQueryW_any vars _ _ w' (hS.und hq).sl (by rw [TA.len_ts]; exact hql) hqw)
   (fun _ _ h1 h2 => absurd ⟨h1, h2⟩ hf) (fun _ _ h1 h2 => absurd ⟨h1, h2⟩ hf) (fun _ _ _ _ _ _ _ _ h => h.elim) (fun _ _ h => h.elim) hS
 have hp2 : (X.map LC.cl).length ≤ 24 ∧ ∀ x ∈ X.map LC.cl, cB x = true := by
  unfold pB at hp
  simp only [Bool.and_eq_true, decide_eq_true_eq, List.all_eq_true] at hp
  exact hp
 have hqB2 := hqB
 simp only [qB, Bool.and_eq_true, decide_eq_true_eq] at hqB2
 obtain ⟨v, rfl⟩ : ∃ v : Nat, vars = v := ⟨vars.toNat, by omega⟩
 have hgq := goalsQ_ok (v := v) (q := q.ts) hqB
 have hXw : ∀ c ∈ X, c.hd.ar.len ≤ 9223372036854775807 ∧ c.hd.ar.ts.wide ∧ c.bd.len ≤ 9223372036854775807 ∧ c.bd.ts.wide := fun c hc => by
  have h1 := hpw c.cl (List.mem_map.2 ⟨c, hc, rfl⟩)
  have h2 := c.hd.ar.len_ts
  have h3 := c.bd.len_ts
  obtain ⟨a1, a2, a3, a4⟩ := h1
  exact ⟨by rw [← h2]; exact a1, a2, by rw [← h3]; exact a3, a4⟩
 have hpc : ∀ c ∈ X, cB c.cl = true := fun c hc => hp2.2 c.cl (List.mem_map.2 ⟨c, hc, rfl⟩)
 have hXl : X.length ≤ 24 := by simpa using hp2.1
 have hst := Iv.start (q := q.ts) (v := v) (F := fuel.toNat) hqB (by omega)
 have hnew := fun w' hS => newMachine_any (M := M) (w0 := w0) (H := H) (F := F) X xA xc q qA qc v fuel.toNat every.toNat w' hX hq hXl hgq hql hqw hXw hpc hqB hS
 have hgp : ∀ w', St M w0 H F w' → Calls Try.prog 76 #[.slice xA X.length xc] w' fun e w'' => e = .returned (.bool (pB (X.map LC.cl))) ∧ Below w'.heap.size w' w'' := fun w' hS => goodProgramW_any _ _ w' (hS.und hX).slC (by simpa using hpl) hpw
 have hgo : ∀ w', St M w0 H F w' → Calls Try.prog 77 #[.slice qA q.len qc, .int .i64 (v : Nat)] w' fun e w'' => e = .returned (.bool (qB (v : Nat) q.ts)) ∧ Below w'.heap.size w' w'' := fun w' hS => goodQueryW_any (v : Nat) _ _ w' (hS.und hq).sl (by rw [TA.len_ts]; exact hql) hqw
 refine rall_any (Iv v fuel.toNat) X xA xc q qA qc (v : Nat) fuel every w hX hq hgp hgo (fun _ _ _ _ _ w' hS => ?_) (fun _ _ _ _ _ => hst) (fun b P pA pc F1 hPX n s hI w' hs => ?_) (fun n s hI => ?_) hS
 ·rw [Int.toNat_natCast]; exact hnew w' hS
 ·rw [Int.toNat_natCast] at hs ⊢
  rw [← hPX]
  exact mstepI_any (by rw [hPX]; exact hp) hI (by omega) w' hs
 ·rw [Int.toNat_natCast]
  exact hI.next hp
end
end Go.Proofs.Ythliapbflkfdiab
namespace Go.Proofs.Ythliapbflkfdiab
open Go.RowKit
set_option linter.unusedVariables false
set_option linter.unusedSimpArgs false
set_option maxRecDepth 100000
set_option maxHeartbeats 1000000
def rPK : List Cl := [⟨3, 0, ⟨#[112]⟩, .cons 2 4 ⟨#[]⟩ .nil .nil, .nil, 0⟩]
def rQK : Ts := .cons 3 0 ⟨#[112]⟩ (.cons 0 0 ⟨#[]⟩ .nil .nil) .nil
theorem runsK_model : allX rPK rQK 1 9 1 = ([(1, .cons 2 4 ⟨#[]⟩ .nil .nil), (2, .nil)], 0) := by
 rw [allX_eq _ _ _ _ _ (by decide)]; kernel_rfl
theorem runsK_any (w : World) : Calls Try.prog 45 #[] w fun e w' => e = .returned (.bool true) ∧ Below w.heap.size w w' := by
 have hS := St.start w
 refine goes_enter0 Try.func45 rfl Try.ntmps45 rfl ?_
 refine Zi ?_
 refine Zd ?_
 refine Zdf ?_
 refine ZbQ ?_
 clear hS
 intro b1 wx1 hS
 refine ZdQ ?_
 refine lst_run (run_build (cells := [_, _, _, _, _, _]) (.cons (by conv=>lhs;whnf) .nil) rfl) rfl ?_
 refine lst_buildSlice (cells := [_, _, _, _, _, _]) hS (.cons (by conv=>lhs;whnf) .nil) rfl rfl ?_
 clear hS
 intro b2 wx2 hS
 refine Zaa ?_
 refine Zeb ?_
 refine ZbQ ?_
 clear hS
 intro b3 wx3 hS
 refine ZdQ ?_
 refine ZbQ ?_
 clear hS
 intro b4 wx4 hS
 replace hS := hS.freeze.freeze.freeze.freeze
 obtain ⟨F, k1, k2, k3, k4, hS⟩ : ∃ F : List (World → Prop), Und F (fun w => w.heap[b1]? = some (.cells [.int .i64 2, .int .i64 4, .string ⟨#[]⟩, .slice none 0 0].toArray 39)) ∧
   Und F (fun w => w.heap[b2]? = some (.cells [.int .i64 3, .int .i64 0, .string ⟨#[112]⟩, .slice (some ⟨b1, 0, none⟩) 1 1, .slice none 0 0, .int .i64 0].toArray 57)) ∧
   Und F (fun w => w.heap[b3]? = some (.cells [.int .i64 0, .int .i64 0, .string ⟨#[]⟩, .slice none 0 0].toArray 39)) ∧
   Und F (fun w => w.heap[b4]? = some (.cells [.int .i64 3, .int .i64 0, .string ⟨#[112]⟩, .slice (some ⟨b3, 0, none⟩) 1 1].toArray 39)) ∧ St [] w [] F _ := ⟨_, Und.head, Und.head.tail, Und.head.tail.tail, Und.head.tail.tail.tail, hS⟩
 have hz : ∀ w : World, ArA none 0 .nil w := fun w => ⟨Nat.le_refl _, fun h => by simp [TA.len] at h⟩
 have hP : Und F (ClsR [⟨⟨3, 0, ⟨#[112]⟩, some ⟨b1, 0, none⟩, 1, .cons 2 4 ⟨#[]⟩ none 0 .nil .nil⟩, none, 0, .nil, 0⟩] (some ⟨b2, 0, none⟩) 1) := fun w hw => by
  refine ⟨Nat.le_refl _, fun _ => ⟨b2, 0, rfl, ?_, ?_, ?_, ?_, ?_, ?_, trivial⟩, fun x hx => ?_⟩
  iterate 6 (rw [cell_own (k2 w hw)]; rfl)
  obtain rfl : x = _ := by simpa using hx
  refine ⟨⟨Nat.le_refl _, fun _ => ⟨b1, 0, rfl, ?_, ?_, ?_, ?_, hz w, trivial⟩⟩, hz w⟩
  iterate 4 (rw [cell_own (k1 w hw)]; rfl)
 have hq : Und F (ArA (some ⟨b4, 0, none⟩) 1 (.cons 3 0 ⟨#[112]⟩ (some ⟨b3, 0, none⟩) 1 (.cons 0 0 ⟨#[]⟩ none 0 .nil .nil) .nil)) := fun w hw => by
  refine ⟨Nat.le_refl _, fun _ => ⟨b4, 0, rfl, ?_, ?_, ?_, ?_, ⟨Nat.le_refl _, fun _ => ⟨b3, 0, rfl, ?_, ?_, ?_, ?_, hz w, trivial⟩⟩, trivial⟩⟩
  iterate 4 (rw [cell_own (k4 w hw)]; rfl)
  iterate 4 (rw [cell_own (k3 w hw)]; rfl)
 have hcall := runAll_any (M := []) (w0 := w) (H := []) (F := F) _ _ _ _ _ _ 1 9 1 _ hP hq (by simp) (fun c hc => by
  obtain rfl : c = _ := by simpa using hc
  exact ⟨(by decide : 1 ≤ 9223372036854775807), ⟨(by decide : 0 ≤ 9223372036854775807), trivial, trivial⟩, (by decide : 0 ≤ 9223372036854775807), trivial⟩) (by decide : 1 ≤ 9223372036854775807) ⟨(by decide : 1 ≤ 9223372036854775807), ⟨(by decide : 0 ≤ 9223372036854775807), trivial, trivial⟩, trivial⟩ (by decide) hS
 have hm := runsK_model
 have e1 : allX ([⟨⟨3, 0, ⟨#[112]⟩, some ⟨b1, 0, none⟩, 1, .cons 2 4 ⟨#[]⟩ none 0 .nil .nil⟩, none, 0, .nil, 0⟩].map LC.cl) (TA.cons 3 0 ⟨#[112]⟩ (some ⟨b3, 0, none⟩) 1 (.cons 0 0 ⟨#[]⟩ none 0 .nil .nil) .nil).ts 1 9 1 = ([(1, .cons 2 4 ⟨#[]⟩ .nil .nil), (2, .nil)], 0) := hm
 rw [e1] at hcall
 refine ZbR ?_
 refine Calls.mono (hcall) ?_
 rintro _ w5 ⟨A, c, L, F2, rfl, hL, hFF, hK, hS'⟩
 refine Za ?_
 replace hS := hS'
 clear hS'
 have hlen : L.length = 2 := by have := congrArg List.length hL; simpa using this
 rw [hlen]
 obtain ⟨x0, x1, rfl, h0, h1⟩ : ∃ x0 x1, L = [x0, x1] ∧ x0.ev = (1, .cons 2 4 ⟨#[]⟩ .nil .nil) ∧ x1.ev = (2, .nil) := by
  match L, hL with
  | [x0, x1], hL => simp only [List.map_cons, List.map_nil, List.cons.injEq, and_true] at hL; exact ⟨x0, x1, rfl, hL.1, hL.2⟩
  | [], hL => simp at hL
  | [_], hL => simp at hL
  | _ :: _ :: _ :: _, hL => simp at hL
 obtain ⟨x0k, x0A, x0c, x0T⟩ := x0
 obtain ⟨x1k, x1A, x1c, x1T⟩ := x1
 simp only [KE.ev, Prod.mk.injEq] at h0 h1
 obtain ⟨rfl, h0⟩ := h0
 obtain ⟨rfl, h1⟩ := h1
 obtain ⟨tA, tc, ta, tr, rfl⟩ : ∃ A c ar r, x0T = .cons 2 4 ⟨#[]⟩ A c ar r := by
  cases x0T with
  | nil => simp [TA.ts] at h0
  | cons k n s A c ar r => simp only [TA.ts, Ts.cons.injEq] at h0; obtain ⟨rfl, rfl, rfl, _, _⟩ := h0; exact ⟨A, c, ar, r, rfl⟩
 have htr : tr = .nil := by
  simp only [TA.ts, Ts.cons.injEq] at h0
  cases tr with
  | nil => rfl
  | cons _ _ _ _ _ _ _ => simp [TA.ts] at h0
 subst htr
 obtain ⟨bl, ol, rfl⟩ := (hS.und hK).some_ (by simp)
 obtain ⟨q0, q1⟩ := KER.cells (D := []) (hS.und hK)
 obtain ⟨q2, q3⟩ := KER.cells (D := [_]) (hS.und hK)
 have hA0 := (hS.und hK).2.2 _ (.head _)
 dsimp only at hA0
 obtain ⟨bt, ot, rfl⟩ := hA0.some_ (by simp [TA.len])
 obtain ⟨_, r1, _, _⟩ := ArA.cells (D := .nil) hA0
 replace q1 : _ = some (Value.slice (some ⟨bt, ot, none⟩) 1 x0c) := q1
 refine Zaf ?_
 refine Zv ?_
 refine Zq ?_
 refine Zl ?_
 refine ZU ?_
 refine ZcW ?_
 refine Zl ?_
 refine Zbj ?_
 refine Zdt ?_
 refine Zk ?_
 refine Zb4 ?_
 refine Zl ?_
 refine Zbj ?_
 refine Zdt ?_
 refine Zk ?_
 refine ZbY ?_
 refine ZcW ?_
 refine Zl ?_
 refine Zbj ?_
 refine Zdt ?_
 refine Zk ?_
 refine ZbY ?_
 refine Zaq ?_
 refine Zk ?_
 refine ZbY ?_
 refine Zl ?_
 refine Zbj ?_
 refine Zdt ?_
 refine Zk ?_
 refine Zb4 ?_
 refine Zl ?_
 refine Z4 ?_
 refine goes_ret1 Try.func45 rfl (by conv=>lhs;whnf) ?_
 exact ⟨rfl, hS.ext.below⟩
end Go.Proofs.Ythliapbflkfdiab
namespace Go.Proofs.Ythliapbflkfdiab
set_option linter.unusedVariables false
def okV (V : Int) (t : Tm) : Prop := (Ts.cons t.k t.n t.s t.ar .nil).good V = true
theorem good_one (V : Int) (k n : Int) (s : ByteArray) (a r : Ts) : (Ts.cons k n s a r).good V = ((Ts.cons k n s a .nil).good V && r.good V) := by simp [Ts.good]
theorem mapL_good {V : Int} {g : Tm → Nat → Option (Tm × Nat)} (hg : ∀ t l p, okV V t → g t l = some p → okV V p.1) : ∀ (T : Ts) (l : Nat) (p : Ts × Nat), T.good V = true → mapL g T l = some p → p.1.good V = true ∧ p.1.length = T.length
 | .nil, l, p, _, h => by
  simp only [mapL, Option.some.injEq] at h
  subst h
  exact ⟨rfl, rfl⟩
 | .cons k n s a r, l, p, hT, h => by
  rw [good_one, Bool.and_eq_true] at hT
  rw [mapL_cons] at h
  cases h1 : g ⟨k, n, s, a⟩ l with
  | none => rw [h1] at h; cases h
  | some q =>
   rw [h1, Option.bind_some] at h
   cases h2 : mapL g r q.2 with
   | none => rw [h2] at h; cases h
   | some x =>
    rw [h2, Option.map_some, Option.some.injEq] at h
    subst h
    obtain ⟨i1, i2⟩ := mapL_good hg r q.2 x hT.2 h2
    have := hg ⟨k, n, s, a⟩ l q hT.1 h1
    refine ⟨?_, by simp only [Ts.length, i2]⟩
    rw [good_one, Bool.and_eq_true]; exact ⟨this, i1⟩
theorem app_good {V : Int} {B : Bnd} (hB : ∀ x ∈ B, okV V x.2) : ∀ (f : Nat) (t : Tm) (l : Nat) (p : Tm × Nat), okV V t → appM B f t l = some p → okV V p.1
 | 0, t, l, p, _, h => by cases h
 | f + 1, t, l, p, ht, h => by
  have hl := look_Q (Q := okV V) hB ht
  rw [appM_succ] at h
  by_cases h0 : l = 0
  ·rw [if_pos h0] at h; cases h
  ·rw [if_neg h0] at h
   cases h1 : mapL (appM B f) (lookM B t).ar (l - 1) with
   | none => rw [h1] at h; cases h
   | some q =>
    rw [h1, Option.map_some, Option.some.injEq] at h
    subst h
    unfold okV at hl ⊢
    simp only [Ts.good, Bool.and_eq_true] at hl ⊢
    obtain ⟨i1, i2⟩ := mapL_good (fun t l p h1 h2 => app_good hB f t l p h1 h2) _ _ _ hl.1.2 h1
    exact ⟨⟨by rw [i2]; exact hl.1.1, i1⟩, trivial⟩
theorem varsM_good {B : Bnd} (hB : ∀ x ∈ B, okV 549755813888 x.2) : ∀ (m v l : Nat) (p : Ts × Nat), v + m ≤ 1000 → varsM B m v l = some p → p.1.good 549755813888 = true
 | 0, v, l, p, _, h => by
  simp only [varsM, Option.some.injEq] at h
  subst h
  rfl
 | m + 1, v, l, p, hv, h => by
  rw [varsM_succ] at h
  cases h1 : appM B 201 ⟨0, v, ⟨#[]⟩, .nil⟩ l with
  | none => rw [h1] at h; cases h
  | some q =>
   rw [h1, Option.bind_some] at h
   cases h2 : varsM B m (v + 1) q.2 with
   | none => rw [h2] at h; cases h
   | some x =>
    rw [h2, Option.map_some, Option.some.injEq] at h
    subst h
    have h3 : okV 549755813888 ⟨0, v, ⟨#[]⟩, .nil⟩ := by
     unfold okV
     simp only [Ts.good, Bool.and_eq_true, and_true]
     unfold nodeB
     rw [if_pos rfl]
     simp only [Bool.and_eq_true, decide_eq_true_eq]
     exact ⟨⟨⟨by omega, by omega⟩, toList_mk []⟩, rfl⟩
    have := app_good hB 201 _ l q h3 h1
    show (Ts.cons _ _ _ _ x.1).good _ = true
    rw [good_one, Bool.and_eq_true]
    exact ⟨this, varsM_good hB m (v + 1) q.2 x (by omega) h2⟩
theorem numS_le (ks : List Int) (n : Int) : (numS ks n).length ≤ ks.length + 1 ∧ ks.length ≤ (numS ks n).length := by
 unfold numS
 split
 ·omega
 ·simp
theorem numV_le (ks : List Int) (n : Int) : 0 ≤ numV ks n ∧ numV ks n ≤ ks.length := by
 unfold numV
 cases h : pos n ks with
 | none => simp
 | some j => have := pos_lt h; simp; omega
theorem tidy_good {V : Int} (u : Nat) (T : Ts) : ∀ ks : List Int, T.good V = true → ks.length + T.nodes ≤ u → (T.tidyFrom ks).1.good u = true ∧ (T.tidyFrom ks).2.length ≤ ks.length + T.nodes ∧ (T.tidyFrom ks).1.length = T.length ∧ (T.tidyFrom ks).1.nodes = T.nodes := by
 induction T with
 | nil => intro ks _ _; exact ⟨rfl, Nat.le_refl _, rfl, rfl⟩
 | cons k n s ar r iha ihr =>
  intro ks hg hu
  simp only [Ts.good, Bool.and_eq_true] at hg
  simp only [Ts.nodes] at hu
  have hl : (tS k n ks).length ≤ ks.length + 1 := by
   unfold tS; split
   ·exact (numS_le ks n).1
   ·omega
  obtain ⟨a1, a2, a3, a4⟩ := iha (tS k n ks) hg.1.2 (by omega)
  obtain ⟨b1, b2, b3, b4⟩ := ihr (ar.tidyFrom (tS k n ks)).2 hg.2 (by omega)
  rw [Ts.tidyFrom_cons]
  refine ⟨?_, ?_, ?_, ?_⟩
  ·simp only [Ts.good, Bool.and_eq_true]
   refine ⟨⟨?_, a1⟩, b1⟩
   rw [a3]
   have hn := hg.1.1
   unfold nodeB at hn ⊢
   unfold tV
   by_cases e : k = 0
   ·rw [if_pos e] at hn ⊢
    rw [if_pos e]
    simp only [Bool.and_eq_true, decide_eq_true_eq] at hn ⊢
    have := numV_le ks n
    exact ⟨⟨⟨this.1, by omega⟩, hn.1.2⟩, hn.2⟩
   ·rw [if_neg e] at hn ⊢
    rw [if_neg e]
    exact hn
  ·simp only [Ts.nodes]; omega
  ·simp only [Ts.length, b3]
  ·simp only [Ts.nodes, a4, b4]
def AnsOk (vars : Nat) (T : Ts) : Prop := T.length = vars ∧ T.nodes ≤ 200 ∧ T.good 200 = true
theorem ans_ok {s : SS} {vars : Nat} (hI : InvC s) (hv : vars ≤ 8) {T : Ts} {l : Nat} (h : varsM s.B vars 0 200 = some (T, l)) : AnsOk vars T.tidy := by
 obtain ⟨h1, h2⟩ := varsM_nodes _ _ _ _ h
 have h3 := varsM_good (fun x hx => (hI.gb x hx).1) vars 0 200 _ (by omega) h
 dsimp only at h1 h2 h3
 obtain ⟨g1, g2, g3, g4⟩ := tidy_good 200 T [] h3 (by simp; omega)
 exact ⟨g3.trans h2, by show (T.tidyFrom []).1.nodes ≤ 200; omega, g1⟩
theorem again_kind {s : SS} (h : InvC s) : (againM s).1 = 0 ∨ (againM s).1 = 2 ∨ (againM s).1 = 4 := (again_ok h).2.2
theorem equal_kind {s : SS} {a t : Tm} (hI : InvC s) (hsl : s.B.length + 10100 * (mu s + 1) ≤ 1000000000) (ha : tgd a) (ht : tgd t) : (equalM a t s).1 = 0 ∨ (equalM a t s).1 = 2 ∨ (equalM a t s).1 = 4 := by
 have hi := equal_inv hI hsl ha ht
 unfold equalM
 simp only
 split
 ·exact .inr (.inr rfl)
 split
 ·exact .inl rfl
 ·exact again_kind hi
structure RunOk (vars : Nat) (s : SS) (r : List Ev) (l : List Ts) (k : Int) : Prop where
 eq : r = evsOf l ++ [(k, .nil)]
 ans : ∀ T ∈ l, AnsOk vars T
 kind : 2 ≤ k ∧ k ≤ 6
 more : ∃ m, l = s.ev ++ m
 six : (k = 6 ↔ l.length = 12) ∧ l.length ≤ 12
theorem step_six (p : List Cl) (vars : Nat) (s : SS) (hI : Inv s) (hev : s.ev.length < 12) (hp : pB p = true) : (stepM p vars s).1 = 6 ↔ (stepM p vars s).2.ev.length = 12 := by
 rcases step_ans p vars s hI hp with h | ⟨T, l, hv, h, h6⟩
 ·rw [h]
  constructor
  ·intro e
   exfalso
   -- no step but an answer ends so
   have hp2 : p.length ≤ 24 ∧ ∀ x ∈ p, cB x = true := by
    unfold pB at hp
    simp only [Bool.and_eq_true, decide_eq_true_eq, List.all_eq_true] at hp
    exact hp
   unfold stepM at e h
   cases hg : s.goals with
   | nil =>
    rw [hg] at e h
    simp only at e h
    unfold answerM at e h
    cases hv : varsM s.B vars 0 200 with
    | none => rw [hv] at e; cases e
    | some x =>
     rw [hv] at e h
     simp only at e h
     have hi : InvC ⟨s.B, s.fresh, s.fuel, s.goals, s.ch, s.ev ++ [x.1.tidy]⟩ := ⟨hI.c.bok, hI.c.gb, hI.c.ch, hI.c.fr, hI.c.bl⟩
     split at h
     ·have := congrArg List.length h; simp at this
     ·rw [(again_ok hi).2.1] at h
      have := congrArg List.length h; simp at this
   | cons g rest =>
    rw [hg] at e
    simp only at e
    split at e
    ·cases e
    rename_i hf
    obtain ⟨h1, h2, h3, h4, h5, h6, h7⟩ := popped_inv hI hg hf
    split at e
    ·rename_i hb
     have hd := tgd_down _ h6
     unfold builtB at hb
     unfold builtM at e
     split at e
     ·cases e
     rename_i k1
     rw [if_neg k1] at hb
     split at e
     ·cases e
     rename_i k2
     rw [if_neg k2] at hb
     split at e
     ·rename_i k3
      rw [if_neg (by rw [k3]; decide), if_pos k3] at hb
      have hl : g.1.ar.length = 2 := by simpa using hb
      rcases equal_kind h1 h2 (hd _ (Ts.at_mem (i := 0) (by omega))) (hd _ (Ts.at_mem (i := 1) (by omega))) with q | q | q <;> rw [q] at e <;> cases e
     split at e
     ·unfold lessM at e
      simp only at e
      split at e
      ·cases e
      split at e
      ·rcases again_kind h1 with q | q | q <;> rw [q] at e <;> cases e
      ·cases e
     split at e
     ·rename_i k5
      rw [if_neg (by rw [k5]; decide), if_neg (by rw [k5]; decide), if_neg (by rw [k5]; decide), if_pos k5] at hb
      have hl : g.1.ar.length = 3 := by simpa using hb
      unfold addM at e
      simp only at e
      split at e
      ·cases e
      split at e
      ·cases e
      ·rename_i hr
       have tn : tgd ⟨2, (lookM s.B (g.1.ar.at_ 0)).n + (lookM s.B (g.1.ar.at_ 1)).n, ⟨#[]⟩, .nil⟩ := by
        refine ⟨?_, by simp [Ts.nodes]⟩
        simp only [Ts.good, Bool.and_eq_true, and_true]
        unfold nodeB
        rw [if_neg (by decide), if_neg (by decide), if_pos rfl]
        simp only [Bool.and_eq_true, decide_eq_true_eq]
        exact ⟨⟨⟨by omega, by omega⟩, toList_mk []⟩, rfl⟩
       rcases equal_kind h1 h2 (hd _ (Ts.at_mem (i := 2) (by omega))) tn with q | q | q <;> rw [q] at e <;> cases e
     ·rcases again_kind h1 with q | q | q <;> rw [q] at e <;> cases e
    ·cases hm : p.filter (fitsC g.1) with
     | nil => rw [hm] at e; cases e
     | cons c cs =>
      rw [hm] at e
      simp only at e
      have hsub : ∀ x ∈ c :: cs, cB x = true := fun x hx => hp2.2 x (by rw [← hm] at hx; exact (List.mem_filter.1 hx).1)
      have hlen : (c :: cs).length ≤ 24 := by rw [← hm]; exact Nat.le_trans (List.length_filter_le _ _) hp2.1
      obtain ⟨i1, i2⟩ := push_inv hI hg hf hsub hlen
      rcases again_kind i1 with q | q | q <;> rw [q] at e <;> cases e
  ·intro e; omega
 ·rw [h6, h]; simp
theorem run_ok (p : List Cl) (vars : Nat) (hp : pB p = true) (hv : vars ≤ 8) : ∀ (n : Nat) (s : SS), Inv s → s.ev.length < 12 → mu s < n → (∀ T ∈ s.ev, AnsOk vars T) → ∃ l k, RunOk vars s (runM p vars n s) l k
 | 0, s, _, _, h, _ => by omega
 | n + 1, s, hI, hev, hmu, ha => by
  obtain ⟨hst, hst2⟩ := step_ok (vars := vars) hI hev hp
  have hsix := step_six p vars s hI hev hp
  have hle := step_ev p vars s hI hev hp
  have hext : ∃ m, (stepM p vars s).2.ev = s.ev ++ m := by
   rcases step_ans p vars s hI hp with h | ⟨T, l, _, h, _⟩
   ·exact ⟨[], by rw [h]; simp⟩
   ·exact ⟨[T.tidy], h⟩
  have ha2 : ∀ T ∈ (stepM p vars s).2.ev, AnsOk vars T := by
   rcases step_ans p vars s hI hp with h | ⟨T, l, hT, h, _⟩
   ·rw [h]; exact ha
   ·rw [h]
    intro X hX
    rcases List.mem_append.1 hX with hX | hX
    ·exact ha X hX
    ·obtain rfl : X = T.tidy := by simpa using hX
     exact ans_ok hI.c hv hT
  rw [runM_succ]
  by_cases h0 : (stepM p vars s).1 = 0
  ·rw [if_pos h0]
   obtain ⟨l, k, hr⟩ := run_ok p vars hp hv n _ (hst.go h0).1 (hst2 h0) (by have := (hst.go h0).2; omega) ha2
   obtain ⟨m1, e1⟩ := hext
   obtain ⟨m2, e2⟩ := hr.more
   exact ⟨l, k, hr.eq, hr.ans, hr.kind, ⟨m1 ++ m2, by rw [e2, e1, List.append_assoc]⟩, hr.six⟩
  ·rw [if_neg h0]
   have hk := hst.kind
   exact ⟨_, _, rfl, ha2, by omega, hext, hsix, hle⟩
theorem all_ok {p : List Cl} {q : Ts} {vars fuel : Int} (h : (allM p q vars fuel).2 = 0) : pB p = true ∧ qB vars q = true ∧ 0 ≤ vars ∧ vars ≤ 8 ∧ 0 ≤ fuel ∧ fuel ≤ 150 ∧ allM p q vars fuel = (runM p vars.toNat 4000 (startM q vars.toNat fuel.toNat), 0) ∧ Inv (startM q vars.toNat fuel.toNat) ∧ mu (startM q vars.toNat fuel.toNat) ≤ 3750 := by
 unfold allM at h ⊢
 split at h
 ·cases h
 rename_i h1
 split at h
 ·cases h
 rename_i h2
 have hp : pB p = true := by cases hb : pB p with
  | true => rfl
  | false => exact absurd (.inl hb) h1
 have hq : qB vars q = true := by cases hb : qB vars q with
  | true => rfl
  | false => exact absurd (.inr hb) h1
 have hq2 := hq
 simp only [qB, Bool.and_eq_true, decide_eq_true_eq] at hq2
 rw [if_neg h1, if_neg h2]
 obtain ⟨i1, i2⟩ := start_inv (q := q) (vars := vars.toNat) (fuel := fuel.toNat) (by rw [Int.toNat_of_nonneg hq2.1.1.1]; exact hq) (by omega)
 exact ⟨hp, hq, by omega, by omega, by omega, by omega, rfl, i1, i2⟩
theorem all_events {p : List Cl} {q : Ts} {vars fuel : Int} (h : (allM p q vars fuel).2 = 0) : ∃ l k, RunOk vars.toNat (startM q vars.toNat fuel.toNat) (allM p q vars fuel).1 l k := by
 obtain ⟨hp, hq, v0, v1, f0, f1, e, hI, hm⟩ := all_ok h
 rw [e]
 exact run_ok p vars.toNat hp (by omega) 4000 _ hI (by simp [startM]) (by omega) (fun T hT => by simp [startM] at hT)
theorem all_err {p : List Cl} {q : Ts} {vars fuel : Int} (h : (allM p q vars fuel).2 ≠ 0) : (allM p q vars fuel).1 = [] := by
 unfold allM at h ⊢
 split
 ·rfl
 split
 ·rfl
 ·rename_i h1 h2
  rw [if_neg h1, if_neg h2] at h
  exact absurd rfl h
end Go.Proofs.Ythliapbflkfdiab
namespace Go.Proofs.Ythliapbflkfdiab
set_option linter.unusedVariables false
end Go.Proofs.Ythliapbflkfdiab
namespace Go.Proofs.Ythliapbflkfdiab
open Go.RowKit
def Ts.same : Ts → Ts → Bool
 | .nil, .nil => true
 | .cons k n s ar r, .cons k' n' s' ar' r' => decide (k = k') && decide (n = n') && decide (s = s') && ar.same ar' && r.same r'
 | _, _ => false
theorem Ts.same_iff (T : Ts) : ∀ U : Ts, T.same U = true ↔ T = U := by
 induction T with
 | nil => intro U; cases U <;> simp [same]
 | cons k n s ar r iha ihr =>
  intro U
  cases U with
  | nil => simp [same]
  | cons k' n' s' ar' r' => simp [same, iha, ihr, and_assoc]
def same1 (k n : Int) (s : ByteArray) (ar : Ts) (k' n' : Int) (s' : ByteArray) (ar' : Ts) : Bool := decide (k = k') && decide (n = n') && decide (s = s') && ar.same ar'
def SameRel (W : World) (T U : Ts) (g : Nat) (s37 : Value) (wr : World) : Prop :=
 ∃ D R R' : Ts, T = D.app R ∧ U = D.app R' ∧ R.length = R'.length ∧ g = R.length ∧ s37 = .int .i64 D.length ∧ Below W.heap.size W wr
theorem same1_iff {k n : Int} {s : ByteArray} {ar : Ts} {k' n' : Int} {s' : ByteArray} {ar' : Ts} : same1 k n s ar k' n' s' ar' = true ↔ k = k' ∧ n = n' ∧ s = s' ∧ ar = ar' := by
 simp [same1, Ts.same_iff, and_assoc]
theorem Ts.app_inj {D R R' : Ts} (h : D.app R = D.app R') : R = R' := by
 induction D with
 | nil => exact h
 | cons k n s ar r _ ih => simp only [Ts.app, Ts.cons.injEq] at h; exact ih h.2.2.2.2
theorem Ts.same_stop {T U D r1 r2 a1 a2 : Ts} {k1 n1 k2 n2 : Int} {s1 s2 : ByteArray} (hT : T = D.app (.cons k1 n1 s1 a1 r1)) (hU : U = D.app (.cons k2 n2 s2 a2 r2))
  (h : same1 k1 n1 s1 a1 k2 n2 s2 a2 = false) : T.same U = false := by
 rw [Bool.eq_false_iff, ne_eq, Ts.same_iff, hT, hU]
 intro e
 have := Ts.app_inj e
 simp only [Ts.cons.injEq] at this
 rw [Bool.eq_false_iff, ne_eq, same1_iff] at h
 exact h ⟨this.1, this.2.1, this.2.2.1, this.2.2.2.1⟩
theorem SameRel.step {W wr w2 : World} {T U D r1 r2 a1 a2 : Ts} {k1 n1 k2 n2 : Int} {s1 s2 : ByteArray} (hT : T = D.app (.cons k1 n1 s1 a1 r1)) (hU : U = D.app (.cons k2 n2 s2 a2 r2))
  (hR : (Ts.cons k1 n1 s1 a1 r1).length = (Ts.cons k2 n2 s2 a2 r2).length) (h : same1 k1 n1 s1 a1 k2 n2 s2 a2 = true) (hb : Below W.heap.size W wr) (hb2 : Below wr.heap.size wr w2) :
  SameRel W T U r1.length (.int .i64 ((D.length : Int) + 1)) w2 := by
 obtain ⟨rfl, rfl, rfl, rfl⟩ := same1_iff.1 h
 refine ⟨D.app (.cons k1 n1 s1 a1 .nil), r1, r2, by rw [hT, Ts.app_assoc]; rfl, by rw [hU, Ts.app_assoc]; rfl, by simpa [Ts.length] using hR, rfl, ?_, hb.trans (hb2.mono hb.size)⟩
 rw [Ts.length_app]; rfl
end Go.Proofs.Ythliapbflkfdiab
