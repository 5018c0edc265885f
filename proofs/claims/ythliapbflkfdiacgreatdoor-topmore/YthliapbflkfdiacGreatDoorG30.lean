/- Steps of the proof. -/
import Derived.Test.YthliapbflkfdiacGreatDoorG29
namespace Go.Proofs.YthliapbflkfdiacGreatDoor
open Go.RowKit
set_option linter.unusedVariables false
set_option linter.unusedSimpArgs false
set_option maxRecDepth 100000
set_option maxHeartbeats 1000000
theorem Qh9 {L : List XL} (hL : Quy L) : ∀ (f : Nat) (i : Int) (p : List Bool × List Nat), (i = -1 ∨ (0 ≤ i ∧ i < L.length)) → p.1.length = L.length → p.2.length + p.1.count false ≤ L.length → (Qay L f i p).1.length = L.length ∧ (Qay L f i p).2.length + (Qay L f i p).1.count false ≤ L.length
 | 0, i, p, _, h1, h2 => ⟨h1, h2⟩
 | f + 1, i, p, hi, h1, h2 => by
  simp only [Qay]
  by_cases e1 : i = -1
  ·rw [if_pos e1]; exact ⟨h1, h2⟩
  rw [if_neg e1]
  by_cases e2 : p.1[i.toNat]? = some true
  ·rw [if_pos e2]; exact ⟨h1, h2⟩
  rw [if_neg e2]
  have hi' : 0 ≤ i ∧ i < L.length := hi.resolve_left e1
  have e3 : p.1[i.toNat]? = some false := by
   cases hv : p.1[i.toNat]? with
   | none => rw [List.getElem?_eq_none_iff] at hv; omega
   | some v => cases v with
    | true => exact absurd hv e2
    | false => rfl
  have hcnt := Qnv e3
  exact Qh9 hL f _ _ (hL _ (List.mem_of_getElem? (QeP (L := L) (a := i.toNat) Ya))) (by simpa using h1) Yj
theorem Qjw {L : List XL} (hL : Quy L) : ∀ (C : List XC) (p : List Bool × List Nat), (∀ c ∈ C, c.at_ < L.length) → p.1.length = L.length → p.2.length + p.1.count false ≤ L.length → (QbY L C p).2.length ≤ L.length
 | [], p, _, h1, h2 => by simp only [QbY]; omega
 | c :: r, p, hC, h1, h2 => by
  simp only [QbY]
  obtain ⟨a1, a2⟩ := Qh9 hL (L.length + 1) (c.at_ : Nat) p (.inr ⟨by omega, by have := hC c (.head _); omega⟩) h1 h2
  exact Qjw hL r _ (fun c hc => hC c (.tail _ hc)) a1 a2
theorem QsC {x : XS} (hL : Quy x.ln) (hC : ∀ c ∈ x.ch, c.at_ < x.ln.length) (hf : x.first = -1 ∨ (0 ≤ x.first ∧ x.first < x.ln.length)) : (QbO x).length ≤ x.ln.length := by
 unfold QbO
 obtain ⟨a1, a2⟩ := Qh9 hL (x.ln.length + 1) x.first (List.replicate x.ln.length false, []) hf Yd Yd
 exact Qjw hL _ _ (fun c hc => hC c (List.mem_reverse.1 hc)) a1 a2
def QkB (L : List XL) (I : List Nat) : List Int := I.map fun i => (lnk L i).g
theorem Qsh (L : List XL) (i : Nat) (g : Int) : (Qpr L i g).length = L.length := by simp [Qpr]
def LX.up (f g : Int → Int) (c : LX) : LX := ⟨c.at_, c.cls, c.A, c.c, (f (c.cells : Nat)).toNat, (g (c.bound : Nat)).toNat⟩
theorem Qi8 {α : Type} (D : List α) (c : α) (R : List α) (f : α → α) : (D ++ c :: R).modify D.length f = D ++ f c :: R := by
 induction D with
 | nil => rfl
 | cons d D ih => simp [ih]
theorem Qfp (a b : List Int) : Qm (a ++ b) = Qm a ++ Qm b := by simp [Qm]
structure Qvy (vars : Nat) (x : XS) (h' : HH) (f g : Int → Int) : Prop where
 eq : Qbs x.h (QT vars x) (x.ch.reverse.map fun c => ((c.cells : Nat) : Int)) (x.ch.reverse.map fun c => ((c.bound : Nat) : Int)) = (h', (QT vars x).map f, (x.ch.reverse.map fun c => ((c.cells : Nat) : Int)).map f, (x.ch.reverse.map fun c => ((c.bound : Nat) : Int)).map g, 0)
 fn : ∀ a, 0 ≤ f a
 gn : ∀ a, 0 ≤ g a
theorem Row.anew {el sz g len cap : Nat} {xs' sp : List Value} {xs : List Value} (h : (xs ++ sp).length = cap * sz) (h1 : xs.length = len * sz) (h2 : len ≤ cap) (hp : 0 < len) (hl : xs'.length = xs.length) : Row el sz (.slice (some ⟨g, 0, none⟩) len cap) len xs' [(g, .cells (xs' ++ sp).toArray el)] :=
 Row.own_ Ya (by rw [List.length_append] at h ⊢; omega) h2 Ya
section
variable {M : List Nat} {w0 : World} {H : List (Nat × Obj)} {F0 : List (World → Prop)} {b : Nat} {P : List LB} {pA : Option Addr} {pc vars fuel every : Nat}
theorem Qlj (x : XS) (h' : HH) (fT gT : Int → Int) (w : World) (hbd : XBd x) (hL : Quy x.ln) (hlv : ∀ k ∈ QbO x, k < x.ln.length) (hLp : 0 < x.ln.length) (hf : x.first = -1 ∨ (0 ≤ x.first ∧ x.first < x.ln.length)) (hv8 : vars ≤ 8) (ht : Qvy vars x h' fT gT) (hs : XSt M w0 H F0 b P pA pc vars fuel every x w) :
  Calls Tryz.prog 56 #[ptm b] w fun e w' => e = .returned (.tuple #[]) ∧ XSt M w0 H F0 b P pA pc vars fuel every (Qh8 vars x) w' := by
 have hll := QsC hL (fun c hc => (hbd.ch c hc).1) hf
 have hlnb := hbd.ln
 have hcnb := hbd.cn
 have hcx : Qh8 vars x = ⟨h', x.goals, Qdo (QbO x) ((QkB x.ln (QbO x)).map fT) x.ln, x.first, (x.ch.map fun c => ⟨c.at_, c.cls, (fT (c.cells : Nat)).toNat, (gT (c.bound : Nat)).toNat⟩), x.ev⟩ := by
  unfold Qh8
  rw [ht.eq]
  dsimp only
  rw [List.map_map, List.map_map, Qhj, ← List.map_reverse, List.reverse_reverse]
  have : ((QT vars x).map fT).drop vars = (QkB x.ln (QbO x)).map fT := by
   unfold QT
   rw [List.map_append, List.drop_left' Yd]
   rfl
  rw [this]
  rfl
 rw [hcx]
 have hroot : QT vars x = (List.range vars).map (fun v => ((v : Nat) : Int)) ++ QkB x.ln (QbO x) := rfl
 obtain ⟨d, F, hFF, hok, hS⟩ := hs
 refine Qh Tryz.func56 rfl Tryz.ntmps56 rfl ?_
 refine Zg ?_
 refine Zau ?_
 refine ZaA ?_
 refine ZaD ?_
 refine ZdU ?_
 refine QaB 18 2 (19 :: 20 :: 5 :: 21 :: 22 :: 23 :: 24 :: 25 :: []) (fun (i : Nat) v u w' => ∃ (A : Option Addr) (c : Nat) (O : List (Nat × Obj)), v = .int .i64 (i : Nat) ∧ u = .slice A i c ∧ i ≤ vars ∧ Row 3 1 (.slice A i c) i (Qm ((List.range i).map fun v => ((v : Nat) : Int))) O ∧ St M w0 ((b, mob P pA pc vars fuel every x d) :: (O ++ (d.O1 ++ (d.O2 ++ (d.O3 ++ H))))) F w') (fun i => vars - i) (0) ?_ Yb Yb ?_
 ·exact ⟨none, 0, [], rfl, rfl, by omega, Row.nil_, hS⟩
 clear hS
 rintro i _ _ w2 jv ⟨A, c, O, rfl, rfl, hi, hrow, hS⟩ ih
 by_cases hlt : i < vars
 ·refine ZaY ?_
  refine Z1 ?_
  refine ZaR ?_
  clear hS
  intro b1 wx1 hS
  refine Zgb ?_
  clear hS
  intro v8 O8 w8 hrow8 hS
  obtain ⟨A8, c8, rfl⟩ := hrow8.form
  replace hS := hS.perm (List.perm_append_comm_assoc O8 [_] _)
  refine ZaN ?_
  refine ih (i + 1) _ _ _ _ ?_ ?_ Yb Yb Yc
  ·omega
  ·refine ⟨A8, c8, O8, rfl, rfl, by omega, ?_, hS⟩
   rw [List.range_succ, List.map_append, Qfp]; exact hrow8
 obtain rfl : vars = i := by omega
 clear ih hlt hi
 refine ZL ?_
 refine Zm ?_
 replace hS := hS.perm (.cons _ (Qi6 O d.O1 d.O2 d.O3 H))
 refine Zk ?_
 refine Calls.mono (Qqx (H := O ++ H) (F0 := F) x _ hbd hL hLp hf ⟨d, F, fun _ h => h, hok, hS⟩) ?_
 rintro _ w3 ⟨VA, vc, F1, rfl, hF1, hV1, hq⟩
 refine Za ?_
 clear hS hok
 obtain ⟨d, F2, hF2, hok, hS⟩ := hq
 replace hS := hS.perm (.cons _ (Qi6 O d.O1 d.O2 d.O3 H).symm)
 have hV2 := hV1.mono hF2
 have hFF2 : ∀ φ ∈ F0, φ ∈ F2 := fun φ h => hF2 φ (hF1 φ (hFF φ h))
 clear hV1
 obtain ⟨hA, hc, hB, hd, LA, lc, O1, cs, CA, cc, O2, evs, EA, ec, O3⟩ := d
 have hrow1 : Row 101 3 (.slice LA x.ln.length lc) x.ln.length (xlL x.ln) O1 := hok.row1
 obtain ⟨gl, sp, rfl, rfl, hcap⟩ := hrow1.some_ hLp
 have hlcap := hrow1.cap
 have hcs : cs.map LX.xc = x.ch := hok.hc
 have hlc : cs.length = x.ch.length := by rw [← hcs]; simp
 have hrow2 : Row 151 4 (.slice CA cs.length cc) cs.length (xcL cs.reverse) O2 := hok.row2
 generalize hIe : QbO x = I at *
 replace hS : St M w0 ((b, mob P pA pc vars fuel every x ⟨hA, hc, hB, hd, some ⟨gl, 0, none⟩, lc, [(gl, .cells (xlL x.ln ++ sp).toArray 101)], cs, CA, cc, O2, evs, EA, ec, O3⟩) :: (O ++ ((gl, .cells (xlL x.ln ++ sp).toArray 101) :: (O2 ++ (O3 ++ H))))) F2 _ := hS
 refine ZbN ?_
 refine QaB 30 2 (31 :: 32 :: 33 :: 8 :: 34 :: 35 :: 36 :: 37 :: 38 :: 39 :: 40 :: 41 :: 42 :: 43 :: 44 :: 45 :: []) (fun (R : List Nat) v u w' => ∃ (D : List Nat) (A : Option Addr) (c : Nat) (O : List (Nat × Obj)), I = D ++ R ∧ v = .int .i64 (D.length : Nat) ∧ u = .slice A (vars + D.length) c ∧ Row 3 1 (.slice A (vars + D.length) c) (vars + D.length) (Qm ((List.range vars).map (fun v => ((v : Nat) : Int)) ++ QkB x.ln D)) O ∧ St M w0 ((b, mob P pA pc vars fuel every x ⟨hA, hc, hB, hd, some ⟨gl, 0, none⟩, lc, [(gl, .cells (xlL x.ln ++ sp).toArray 101)], cs, CA, cc, O2, evs, EA, ec, O3⟩) :: (O ++ ((gl, .cells (xlL x.ln ++ sp).toArray 101) :: (O2 ++ (O3 ++ H))))) F2 w') (fun R => R.length) (I) ?_ Yb Yb ?_
 ·exact ⟨[], A, c, O, rfl, rfl, rfl, by simpa [QkB] using hrow, hS⟩
 clear hS hrow
 rintro R _ _ w4 jv2 ⟨D, A, c, O, hDR, rfl, rfl, hrow, hS⟩ ih
 have hlen : I.length = D.length + R.length := by rw [hDR]; simp
 cases R with
 | cons k R =>
  simp only [List.length_cons] at hlen
  obtain ⟨bv, ov, rfl⟩ := (hS.und hV2).some_ Ya
  have hkl := hlv k (by rw [hDR]; simp)
  have hk : ∀ {H'} w', St M w0 H' F2 w' → w'.cell? ⟨bv, ov + ((D.length : Nat) : Int).toNat * 1, none⟩ = some (.int .i64 (k : Nat)) := fun w' hS => by
   have := (hS.und hV2).get (j := D.length) (v := .int .i64 (k : Nat)) (by rw [hDR]; simp [QhG, Qm])
   rw [show ((D.length : Nat) : Int).toNat * 1 = D.length by omega]; exact this
  obtain ⟨l0, l1, l2⟩ := QfL x.ln k _ (QeP hkl)
  have hll' : ∀ {M2 H' F'} w', St M2 w0 H' F' w' → (gl, Obj.cells (xlL x.ln ++ sp).toArray 101) ∈ H' → _ := fun {M2 H' F'} w' (hS : St M2 w0 H' F' w') hm => Row.cell (w := w') hrow1 hS (by intro p hp; obtain rfl := List.mem_singleton.1 hp; exact hm) rfl l0
  refine ZbL ?_
  refine ZeC ?_
  refine Zc ?_
  refine Z1 ?_
  refine Z4 ?_
  refine ZdP ?_
  refine ZeC ?_
  refine Zdk ?_
  refine Zav ?_
  refine ZeC ?_
  refine ZaR ?_
  clear hS
  intro b1 wx1 hS
  refine Zgb ?_
  clear hS
  intro v8 O8 w8 hrow8 hS
  obtain ⟨A8, c8, rfl⟩ := hrow8.form
  replace hS := hS.perm (List.perm_append_comm_assoc O8 [_] _)
  refine ZaN ?_
  refine ih (R) _ _ _ _ ?_ ?_ Yb Yb Yc
  ·simp
  ·refine ⟨D ++ [k], A8, c8, O8, by rw [hDR]; simp, by simp, by simp [Nat.add_assoc], ?_, hS⟩
   have e : QkB x.ln (D ++ [k]) = QkB x.ln D ++ [(lnk x.ln k).g] := by simp [QkB]
   rw [e, ← List.append_assoc, Qfp, List.length_append, ← Nat.add_assoc]; exact hrow8
 | nil =>
 simp only [List.length_nil] at hlen
 have hID : I = D := by rw [hDR]; simp
 clear ih
 obtain ⟨F3, hF3, hR3, hS⟩ := St.freezeRow hrow (hS.perm List.perm_middle.symm)
 dsimp only [mob, mcs] at hS
 refine ZL ?_
 refine Zw ?_
 refine Z4 ?_
 refine ZbY ?_
 refine ZeC ?_
 refine Z6 ?_
 have hV3 := hV2.mono hF3
 have hok3 := hok.mono hF3
 have hFF3 : ∀ φ ∈ F0, φ ∈ F3 := fun φ h => hF3 φ (hFF2 φ h)
 clear hV2 hok hFF2
 refine Qjm 51 3 4 (52 :: 53 :: 54 :: 10 :: 55 :: 56 :: 57 :: 58 :: 59 :: 60 :: 61 :: 62 :: 63 :: 64 :: 65 :: []) (fun (R : List LX) v u z w' => ∃ (D : List LX) (A2 : Option Addr) (c2 : Nat) (Ot : List (Nat × Obj)) (A3 : Option Addr) (c3 : Nat) (Om : List (Nat × Obj)), cs.reverse = D ++ R ∧ v = .int .i64 (D.length : Nat) ∧ u = .slice A2 D.length c2 ∧ z = .slice A3 D.length c3 ∧ Row 3 1 (.slice A2 D.length c2) D.length (Qm (D.map fun c => ((c.cells : Nat) : Int))) Ot ∧ Row 3 1 (.slice A3 D.length c3) D.length (Qm (D.map fun c => ((c.bound : Nat) : Int))) Om ∧ St M w0 ((b, mob P pA pc vars fuel every x ⟨hA, hc, hB, hd, some ⟨gl, 0, none⟩, lc, [(gl, .cells (xlL x.ln ++ sp).toArray 101)], cs, CA, cc, O2, evs, EA, ec, O3⟩) :: (Ot ++ (Om ++ ((gl, .cells (xlL x.ln ++ sp).toArray 101) :: (O2 ++ (O3 ++ H)))))) F3 w') (fun R => R.length) (cs.reverse) ?_ Yb Yb Yb ?_
 ·exact ⟨[], none, 0, [], none, 0, [], rfl, rfl, rfl, rfl, Row.nil_, Row.nil_, hS⟩
 clear hS
 rintro R _ _ _ w5 jv3 ⟨E, A2, c2, Ot, A3, c3, Om, hER, rfl, rfl, rfl, hrt, hrm, hS⟩ ih
 have hlen2 : cs.length = E.length + R.length := by
  have := congrArg List.length hER
  simpa using this
 cases R with
 | cons k R =>
  simp only [List.length_cons] at hlen2
  obtain ⟨k0, k1, k2, k3⟩ := QjD cs.reverse E.length k (by rw [hER]; simp)
  obtain ⟨gc, sp2, rfl, rfl, hcap2⟩ := hrow2.some_ Ya
  have hcl : ∀ {M2 H' F'} w', St M2 w0 H' F' w' → (gc, Obj.cells (xcL cs.reverse ++ sp2).toArray 151) ∈ H' → _ := fun {M2 H' F'} w' (hS : St M2 w0 H' F' w') hm => And.intro (Row.cell (w := w') hrow2 hS (by intro p hp; obtain rfl := List.mem_singleton.1 hp; exact hm) rfl k0) (And.intro (Row.cell (w := w') hrow2 hS (by intro p hp; obtain rfl := List.mem_singleton.1 hp; exact hm) rfl k1) (And.intro (Row.cell (w := w') hrow2 hS (by intro p hp; obtain rfl := List.mem_singleton.1 hp; exact hm) rfl k2) (Row.cell (w := w') hrow2 hS (by intro p hp; obtain rfl := List.mem_singleton.1 hp; exact hm) rfl k3)))
  refine Zcj ?_
  refine ZaS ?_
  refine ZdR ?_
  refine ZX ?_
  clear hS
  intro b1 wx1 hS
  refine Zd ?_
  clear hS
  intro wx2 hS
  refine Zbn ?_
  refine Zaw ?_
  refine ZdQ ?_
  refine ZaR ?_
  clear hS
  intro b2 wx3 hS
  refine Qa8 (sz := 1) (bts := 8) hS Yb rfl rfl rfl rfl (hrt) rfl rfl (.cons _ (List.perm_append_comm_assoc [_, _] Ot _)) Ya Ya rfl ?_
  clear hS
  intro v8 O8 w8 hrow8 hS
  obtain ⟨A8, c8, rfl⟩ := hrow8.form
  replace hS := hS.perm (List.perm_append_comm_assoc O8 [_, _] _)
  refine Zc ?_
  refine ZU ?_
  refine ZaQ ?_
  refine ZdQ ?_
  refine ZaR ?_
  clear hS
  intro b3 wx4 hS
  refine Qa8 (sz := 1) (bts := 8) hS Yb rfl rfl rfl rfl (hrm) rfl rfl (.cons _ (Qfj [_, _] O8 Om _)) Ya Ya rfl ?_
  clear hS
  intro v9 O9 w9 hrow9 hS
  obtain ⟨A9, c9, rfl⟩ := hrow9.form
  replace hS := hS.perm (Qfj [_, _] O8 O9 _).symm
  refine ZaN ?_
  refine ih (R) _ _ _ _ _ ?_ ?_ Yb Yb Yb Yc
  ·simp
  ·refine ⟨E ++ [k], A8, c8, O8, A9, c9, O9, by rw [hER]; simp, by simp, by simp, by simp, ?_, ?_, hS.drop⟩
   ·rw [List.map_append, Qfp, List.length_append]; exact hrow8
   ·rw [List.map_append, Qfp, List.length_append]; exact hrow9
 | nil =>
 simp only [List.length_nil] at hlen2
 have hEc : cs.reverse = E := by rw [hER]; simp
 clear ih
 obtain ⟨F4, hF4, hT4, hS⟩ := St.freezeRow hrt (hS.perm List.perm_middle.symm)
 obtain ⟨F5, hF5, hK5, hS⟩ := St.freezeRow hrm (hS.perm List.perm_middle.symm)
 refine ZL ?_
 refine Z5 ?_
 refine Zal ?_
 first
  | refine Qa (Qb (k := 2) hS rfl rfl rfl (by first | exact .head | exact .tail .head | exact .tail (.tail .head) | exact .tail (.tail (.tail .head)) | exact .tail (.tail (.tail (.tail .head))) | exact .tail (.tail (.tail (.tail (.tail .head))))) Yf) rfl ?_
  | refine Qa (Qb (k := 2) hS rfl rfl rfl (by first | exact .head | exact .tail .head | exact .tail (.tail .head) | exact .tail (.tail (.tail .head)) | exact .tail (.tail (.tail (.tail .head))) | exact .tail (.tail (.tail (.tail (.tail .head))))) Ye) rfl ?_
  | refine Qa (QaQ rfl rfl rfl (by first | assumption | exact (hcl _ hS Yd).1 | exact (hcl _ hS Yd).2.1 | exact (hcl _ hS Yd).2.2.1 | exact (hcl _ hS Yd).2.2.2 | exact hS.cell0 Ye) (by first | assumption | exact (hcl _ hS Yd).1 | exact (hcl _ hS Yd).2.1 | exact (hcl _ hS Yd).2.2.1 | exact (hcl _ hS Yd).2.2.2 | exact hS.cell0 Ye)) rfl ?_
 refine Za2 ?_
 refine Ze ?_
 have hFF5 : ∀ φ ∈ F0, φ ∈ F5 := fun φ h => hF5 φ (hF4 φ (hFF3 φ h))
 have hR5 := (hR3.mono hF4).mono hF5
 have hT5 := hT4.mono hF5
 have hok5 := (hok3.mono hF4).mono hF5
 have hV5 := (hV3.mono hF4).mono hF5
 clear hT4 hR3 hok3 hV3 hFF3
 have hchE : x.ch.reverse = E.map LX.xc := by rw [← hcs, ← List.map_reverse, hEc]
 have teq := ht.eq
 rw [hroot, hID, hchE, List.map_map, List.map_map] at teq
 obtain ⟨Rt, hRt⟩ : ∃ Rt, Rt = (List.range vars).map (fun v => ((v : Nat) : Int)) ++ QkB x.ln D := ⟨_, rfl⟩
 rw [← hRt] at teq hR5
 obtain ⟨Tt, hTt⟩ : ∃ Tt, Tt = E.map (fun c => ((c.cells : Nat) : Int)) := ⟨_, rfl⟩
 obtain ⟨Kt, hKt⟩ : ∃ Kt, Kt = E.map (fun c => ((c.bound : Nat) : Int)) := ⟨_, rfl⟩
 rw [← hTt] at hT5
 rw [← hKt] at hK5
 replace teq : Qbs x.h Rt Tt Kt = (h', Rt.map fT, Tt.map fT, Kt.map gT, 0) := by rw [hTt, hKt]; exact teq
 have hRl : Rt.length = vars + D.length := by rw [hRt]; simp [QkB]
 have hTl : Tt.length = E.length := by rw [hTt]; simp
 have hKl : Kt.length = E.length := by rw [hKt]; simp
 have hElen : E.length = cs.length := by rw [← hEc]; simp
 have hIl : D.length ≤ x.ln.length := by rw [← hID]; exact hll
 have hcall : ∀ {H'} w', St M w0 H' F5 w' → Calls Tryz.prog 95 #[hv x.h hA hc hB hd, .slice A (vars + D.length) c, .slice A2 E.length c2, .slice A3 E.length c3] w' fun e w'' => ∃ (A' : Option Addr) (c' : Nat) (B' : Option Addr) (d' : Nat) (a1 a2 a3 : Option Addr) (c1 c2 c3 : Nat) (F' : List (World → Prop)),
   e = .returned (.tuple #[hv h' A' c' B' d', .slice a1 (vars + D.length) c1, .slice a2 E.length c2, .slice a3 E.length c3, .int .i64 0]) ∧ (∀ φ ∈ F5, φ ∈ F') ∧ Und F' (HFl h' A' c' B' d') ∧ Und F' (Qz 1 (Qm (Rt.map fT)) a1 (vars + D.length) c1) ∧ Und F' (Qz 1 (Qm (Tt.map fT)) a2 E.length c2) ∧ Und F' (Qz 1 (Qm (Kt.map gT)) a3 E.length c3) ∧ St M w0 H' F' w'' := by
  intro H' w' hS
  have h0 := QmU x.h Rt Tt Kt hA hB A A2 A3 hc hd c c2 c3 w' hok5.hh (by rw [hRl]; exact hR5) (by rw [hTl]; exact hT5) (by rw [hKl]; exact hK5) Ya Ya Ya hS
  rw [teq, hRl, hTl, hKl] at h0
  refine h0.mono ?_
  rintro e w'' ⟨A', c', B', d', a1, a2, a3, c1, c2, c3, F', he, hF', q1, q2, q3, q4, q5⟩
  simp only [List.length_map, hRl, hTl, hKl] at he q2 q3 q4
  exact ⟨A', c', B', d', a1, a2, a3, c1, c2, c3, F', he, hF', q1, q2, q3, q4, q5⟩
 refine ZeD ?_
 refine Calls.mono (hcall _ hS) ?_
 rintro _ w6 ⟨A6, c6, B6, d6, a1, a2, a3, c16, c26, c36, F6, rfl, hF6, hH6, hr6, ht6, hk6, hS'⟩
 refine Za ?_
 replace hS := hS'
 clear hS'
 have hok6 := hok5.mono hF6
 have hV6 := hV5.mono hF6
 have hFF6 : ∀ φ ∈ F0, φ ∈ F6 := fun φ h => hF6 φ (hFF5 φ h)
 clear hcall hok5 hV5 hR5 hT5 hK5 hFF5
 refine Zaz ?_
 refine Zgi ?_
 refine Zd4 ?_
 refine Zdq ?_
 clear hS
 intro wx1 hS
 refine Zau ?_
 refine ZaA ?_
 refine Z6 ?_
 replace hS : St M w0 ((b, mob P pA pc vars fuel every (XS.mk h' x.goals x.ln x.first x.ch x.ev) (XD.mk A6 c6 B6 d6 (some ⟨gl, 0, none⟩) lc [] cs CA cc [] evs EA ec [])) :: ((gl, .cells (xlL x.ln ++ sp).toArray 101) :: (O2 ++ (O3 ++ H)))) F6 _ := hS
 refine Qo 85 (86 :: 87 :: 88 :: 89 :: 11 :: 12 :: 90 :: 91 :: 92 :: 93 :: 94 :: 95 :: 96 :: 97 :: 98 :: 99 :: 100 :: 101 :: 102 :: 103 :: 104 :: 105 :: 106 :: []) (fun (R : List Nat) v w' => ∃ (D1 : List Nat) (L' : List XL), I = D1 ++ R ∧ v = .int .i64 (D1.length : Nat) ∧ L'.length = x.ln.length ∧ Qdo R ((QkB x.ln R).map fT) L' = Qdo I ((QkB x.ln I).map fT) x.ln ∧ St M w0 ((b, mob P pA pc vars fuel every (XS.mk h' x.goals x.ln x.first x.ch x.ev) (XD.mk A6 c6 B6 d6 (some ⟨gl, 0, none⟩) lc [] cs CA cc [] evs EA ec [])) :: (gl, .cells (xlL L' ++ sp).toArray 101) :: (O2 ++ (O3 ++ H))) F6 w') (fun R => R.length) (I) ?_ Yb ?_
 ·exact ⟨[], x.ln, rfl, rfl, rfl, rfl, hS⟩
 clear hS
 rintro R _ w7 jv4 ⟨D1, L', hD1, rfl, hLl, heq, hS⟩ ih
 have hlen3 : I.length = D1.length + R.length := by rw [hD1]; simp
 cases R with
 | cons k R =>
  simp only [List.length_cons] at hlen3
  obtain ⟨bv, ov, rfl⟩ := (hS.und hV6).some_ Ya
  obtain ⟨ba, oa, rfl⟩ := (hS.und hr6).some_ (by rw [hID] at hlen3; omega)
  have hkl := hlv k (by rw [hD1]; simp)
  have hk : ∀ {H'} w', St M w0 H' F6 w' → w'.cell? ⟨bv, ov + ((D1.length : Nat) : Int).toNat * 1, none⟩ = some (.int .i64 (k : Nat)) := fun w' hS => by
   have := (hS.und hV6).get (j := D1.length) (v := .int .i64 (k : Nat)) (by rw [hD1]; simp [QhG, Qm])
   rw [show ((D1.length : Nat) : Int).toNat * 1 = D1.length by omega]; exact this
  have hg : ∀ {H'} w', St M w0 H' F6 w' → w'.cell? ⟨ba, oa + (((vars : Nat) : Int) + ((D1.length : Nat) : Int)).toNat * 1, none⟩ = some (.int .i64 (fT (lnk x.ln k).g)) := fun w' hS => by
   have e0 : Rt[vars + D1.length]? = some (lnk x.ln k).g := by
    rw [hRt, List.getElem?_append_right Yd, ← hID, hD1]; simp [QkB]
   have := (hS.und hr6).get (j := vars + D1.length) (v := .int .i64 (fT (lnk x.ln k).g)) (by simp [Qm, e0])
   rw [show (((vars : Nat) : Int) + ((D1.length : Nat) : Int)).toNat * 1 = vars + D1.length by omega]; exact this
  have hput := QtN L' sp k (fT (lnk x.ln k).g) Ya
  have hIl2 : I.length = D.length := by rw [hID]
  dsimp only [mob, mcs] at hS
  refine Zcz ?_
  refine Zgc ?_
  refine Zl ?_
  refine Zfe ?_
  replace hS := hS.drew
  refine Zad ?_
  refine ZdO ?_
  refine Zfj ?_
  refine Z7 ?_
  refine Zc9 ?_
  refine Zfj ?_
  refine ZT ?_
  refine Qd rfl (fun _ hS => Qmu rfl rfl Ya Ya) rfl ?_
  refine ZcO ?_
  refine Zfj ?_
  refine Za4 ?_
  refine Zax ?_
  refine ZJ ?_
  refine ZfN ?_
  clear hS
  intro w8 hS
  refine Zam ?_
  refine ih (R) _ _ _ ?_ ?_ Yb Yc
  ·simp
  ·exact ⟨D1 ++ [k], Qpr L' k (fT (lnk x.ln k).g), by rw [hD1]; simp, by simp, by rw [Qsh]; exact hLl, heq, hS⟩
 | nil =>
 clear ih
 simp only [List.length_nil] at hlen3
 dsimp only [mob, mcs] at hS
 refine ZL ?_
 refine ZZ ?_
 refine ZbY ?_
 refine Zgc ?_
 refine Z6 ?_
 replace heq : L' = Qdo I ((QkB x.ln I).map fT) x.ln := heq
 replace hS := hS.perm (.cons _ (List.perm_middle (l₁ := O2)).symm)
 refine Qo 112 (113 :: 114 :: 13 :: 115 :: 116 :: 117 :: 118 :: 119 :: 120 :: 121 :: 122 :: 123 :: 124 :: 125 :: 126 :: 127 :: 128 :: 129 :: 130 :: 131 :: 132 :: 133 :: 134 :: 135 :: 136 :: 137 :: []) (fun (R : List LX) v w' => ∃ (E1 : List LX) (O2' : List (Nat × Obj)), E = E1 ++ R ∧ v = .int .i64 (E1.length : Nat) ∧ Row 151 4 (.slice CA cs.length cc) cs.length (xcL (E1.map (LX.up fT gT) ++ R)) O2' ∧ St M w0 ((b, mob P pA pc vars fuel every (XS.mk h' x.goals x.ln x.first x.ch x.ev) (XD.mk A6 c6 B6 d6 (some ⟨gl, 0, none⟩) lc [] cs CA cc [] evs EA ec [])) :: (O2' ++ ((gl, .cells (xlL L' ++ sp).toArray 101) :: (O3 ++ H)))) F6 w') (fun R => R.length) (E) ?_ Yb ?_
 ·exact ⟨[], O2, rfl, rfl, by rw [← hEc]; exact hrow2, hS⟩
 clear hS
 rintro R _ w9 jv5 ⟨E1, O2', hE1, rfl, hrow, hS⟩ ih
 have hlen4 : E.length = E1.length + R.length := by rw [hE1]; simp
 cases R with
 | cons k R =>
  simp only [List.length_cons] at hlen4
  have hupl : (E1.map (LX.up fT gT)).length = E1.length := by simp
  generalize hEu : E1.map (LX.up fT gT) = Eu at *
  have hcp := hrow.cap
  have hxl := hrow.len_
  obtain ⟨gc, sp2, rfl, rfl, hcap2⟩ := hrow.some_ Ya
  obtain ⟨bt, ot, rfl⟩ := (hS.und ht6).some_ Ya
  obtain ⟨bk, ok, rfl⟩ := (hS.und hk6).some_ Ya
  have hc1 : ∀ {H'} w', St M w0 H' F6 w' → w'.cell? ⟨bt, ot + ((E1.length : Nat) : Int).toNat * 1, none⟩ = some (.int .i64 (((fT (k.cells : Nat)).toNat : Nat) : Int)) := fun w' hS => by
   have := (hS.und ht6).get (j := E1.length) (v := .int .i64 (fT (k.cells : Nat))) (by rw [hTt, hE1]; simp [Qm])
   rw [show ((E1.length : Nat) : Int).toNat * 1 = E1.length by omega, Int.toNat_of_nonneg (ht.fn _)]; exact this
  have hc2 : ∀ {H'} w', St M w0 H' F6 w' → w'.cell? ⟨bk, ok + ((E1.length : Nat) : Int).toNat * 1, none⟩ = some (.int .i64 (((gT (k.bound : Nat)).toNat : Nat) : Int)) := fun w' hS => by
   have := (hS.und hk6).get (j := E1.length) (v := .int .i64 (gT (k.bound : Nat))) (by rw [hKt, hE1]; simp [Qm])
   rw [show ((E1.length : Nat) : Int).toNat * 1 = E1.length by omega, Int.toNat_of_nonneg (ht.gn _)]; exact this
  have hp1 : Put (xcL (Eu ++ k :: R) ++ sp2) (E1.length * 4 + 2) (.int .i64 (((fT (k.cells : Nat)).toNat : Nat) : Int)) (xcL (Eu ++ k.cells' (fT (k.cells : Nat)).toNat :: R) ++ sp2) := by
   have := Qr1 (Eu ++ k :: R) sp2 Eu.length (fT (k.cells : Nat)).toNat Yd
   rwa [Qi8, hupl] at this
  have hp2 : Put (xcL (Eu ++ k.cells' (fT (k.cells : Nat)).toNat :: R) ++ sp2) (E1.length * 4 + 3) (.int .i64 (((gT (k.bound : Nat)).toNat : Nat) : Int)) (xcL (Eu ++ (k.cells' (fT (k.cells : Nat)).toNat).bound' (gT (k.bound : Nat)).toNat :: R) ++ sp2) := by
   have := Qr0 (Eu ++ k.cells' (fT (k.cells : Nat)).toNat :: R) sp2 Eu.length (gT (k.bound : Nat)).toNat Yd
   rwa [Qi8, hupl] at this
  replace hS : St M w0 ((b, mob P pA pc vars fuel every (XS.mk h' x.goals x.ln x.first x.ch x.ev) (XD.mk A6 c6 B6 d6 (some ⟨gl, 0, none⟩) lc [] cs (some ⟨gc, 0, none⟩) cc [] evs EA ec [])) :: (gc, .cells (xcL (Eu ++ k :: R) ++ sp2).toArray 151) :: ((gl, .cells (xlL L' ++ sp).toArray 101) :: (O3 ++ H))) F6 _ := hS
  dsimp only [mob, mcs] at hS
  refine ZaV ?_
  refine Z0 ?_
  refine Zgd ?_
  replace hS := hS.drew
  refine Zad ?_
  refine ZcP ?_
  refine ZeE ?_
  refine Z7 ?_
  refine ZT ?_
  refine ZcO ?_
  refine ZeE ?_
  refine Zeg ?_
  refine ZbR ?_
  refine ZJ ?_
  refine Q8 hS rfl Yb rfl rfl (.tail .head) (by rw [Nat.zero_add]; exact hp1) (.tail .head) ?_
  clear hS
  intro w10 hS
  refine Zb ?_
  refine Zgd ?_
  replace hS := hS.drew
  refine Zad ?_
  refine ZcP ?_
  refine ZeE ?_
  refine Z7 ?_
  refine ZT ?_
  refine ZcO ?_
  refine ZeE ?_
  refine Zeg ?_
  refine ZeQ ?_
  refine ZJ ?_
  refine Q8 hS rfl Yb rfl rfl (.tail .head) (by rw [Nat.zero_add]; exact hp2) (.tail .head) ?_
  clear hS
  intro w11 hS
  refine Zam ?_
  refine ih (R) _ _ _ ?_ ?_ Yb Yc
  ·simp
  ·refine ⟨E1 ++ [k], [(gc, .cells (xcL (Eu ++ (k.cells' (fT (k.cells : Nat)).toNat).bound' (gT (k.bound : Nat)).toNat :: R) ++ sp2).toArray 151)], by rw [hE1]; simp, by simp, ?_, hS⟩
   have e : (E1 ++ [k]).map (LX.up fT gT) ++ R = Eu ++ (k.cells' (fT (k.cells : Nat)).toNat).bound' (gT (k.bound : Nat)).toNat :: R := by rw [List.map_append, hEu]; simp [LX.up, LX.cells', LX.bound']
   rw [e]
   exact Row.anew hcap2 hxl hcp Ya (by rw [Qcy, Qcy]; simp)
 | nil =>
 clear ih
 simp only [List.length_nil] at hlen4
 refine ZL ?_
 refine QD Tryz.func56 rfl ?_
 refine ⟨rfl, ⟨A6, c6, B6, d6, some ⟨gl, 0, none⟩, lc, [(gl, .cells (xlL L' ++ sp).toArray 101)], cs.map (LX.up fT gT), CA, cc, O2', evs, EA, ec, O3⟩, F6, hFF6, ⟨hH6, ?_, ?_, ?_, ?_, hok6.he, hok6.re, hok6.row3, hok6.rp⟩, ?_⟩
 ·show Row _ 3 (.slice (some ⟨gl, 0, none⟩) (Qdo I ((QkB x.ln I).map fT) x.ln).length lc) (Qdo I ((QkB x.ln I).map fT) x.ln).length (xlL (Qdo I ((QkB x.ln I).map fT) x.ln)) _
  rw [← heq, hLl]
  exact Row.anew hcap hrow1.len_ hlcap hLp (by rw [Qg1, Qg1, hLl])
 ·show (cs.map (LX.up fT gT)).map LX.xc = _
  rw [← hcs, List.map_map, List.map_map]
  rfl
 ·intro q hq
  obtain ⟨q', hq', rfl⟩ := List.mem_map.1 hq
  exact hok6.rc q' hq'
 ·show Row _ 4 (.slice CA (cs.map (LX.up fT gT)).length cc) (cs.map (LX.up fT gT)).length (xcL (cs.map (LX.up fT gT)).reverse) O2'
  rw [List.length_map, ← List.map_reverse, hEc]
  rw [List.append_nil] at hE1 hrow
  rw [hE1]; exact hrow
 ·have h5 := hS.perm (.cons _ (List.perm_middle (l₁ := O2')))
  have em : mob P pA pc vars fuel every (XS.mk h' x.goals x.ln x.first x.ch x.ev) (XD.mk A6 c6 B6 d6 (some ⟨gl, 0, none⟩) lc [] cs CA cc [] evs EA ec []) = mob P pA pc vars fuel every ⟨h', x.goals, Qdo I ((QkB x.ln I).map fT) x.ln, x.first, x.ch.map (fun c => ⟨c.at_, c.cls, (fT (c.cells : Nat)).toNat, (gT (c.bound : Nat)).toNat⟩), x.ev⟩ ⟨A6, c6, B6, d6, some ⟨gl, 0, none⟩, lc, [(gl, .cells (xlL L' ++ sp).toArray 101)], cs.map (LX.up fT gT), CA, cc, O2', evs, EA, ec, O3⟩ := by
   show Obj.cells _ _ _ = Obj.cells _ _ _
   rw [← heq]
   simp [hLl]
  rw [em] at h5
  exact h5
end
set_option maxRecDepth 8000
theorem QnQ (T : Ts) : ∀ (p : Nat), ∀ g ∈ (QaC T p).2, (p : Int) ≤ g ∧ g ≤ (p + (QaC T p).1.length : Nat) := by
 induction T with
 | nil => intro p g hg; cases hg
 | cons k n s ar r _ ih =>
  intro p g hg
  simp only [QaC, List.length_append] at hg ⊢
  rcases List.mem_cons.1 hg with rfl | hg
  ·omega
  ·have := ih _ g hg
   omega
theorem QmY (c : Cl) : (Qt c).length = c.vars.toNat + ((Qb2 c.k c.n c.s c.hd c.vars.toNat).length + (QaC c.bd (c.vars.toNat + (Qb2 c.k c.n c.s c.hd c.vars.toNat).length)).1.length) := by
 simp only [Qt, List.length_append, Qab]
theorem Qtq {c : Cl} (h : cB c = true) : GOk c := by
 obtain ⟨h0, h1, h2, h3, h4⟩ := Qgw h
 have hb := QcV h
 rw [QmY] at hb
 refine ⟨h0, by omega, by unfold Qat; rw [Qj1]; omega, fun g hg => ?_⟩
 have := QnQ _ _ g hg
 omega
theorem Quf {x : LB} (h : cB x.cl = true) : x.ok := by
 obtain ⟨h0, h1, h2, h3, h4⟩ := Qgw h
 have hb := QcV h
 refine ⟨h0, by omega, by omega, ?_⟩
 have e : (Qt x.cl)[x.cl.vars.toNat]? = some (QhS x.cl) := by
  unfold Qt QhS
  rw [List.getElem?_append_right (by rw [Qab]; omega), Qab, Nat.sub_self]
  unfold Qb2
  by_cases hk : x.cl.k = 3
  ·rw [if_pos hk, if_pos hk]; rfl
  ·rw [if_neg hk, if_neg hk]; rfl
 unfold hat; rw [if_pos h0]; exact e
theorem Qq2 {v : Nat} {q : Ts} (h : qB (v : Nat) q = true) : (Qbf (v : Nat) q).length ≤ 1000 ∧ ∀ g ∈ Qbf (v : Nat) q, 0 ≤ g ∧ g ≤ 1000000 := by
 simp only [qB, Bool.and_eq_true, decide_eq_true_eq] at h
 obtain ⟨⟨⟨v0, v1⟩, v2⟩, v3⟩ := h
 have hn := Ts.goals_nodes _ _ v3
 have hll := Qj2 q v
 unfold Qbf
 rw [Int.toNat_natCast]
 refine ⟨by rw [Qj1]; omega, fun g hg => ?_⟩
 have := QnQ _ _ g hg
 omega
theorem QW.cls {q f : Nat} {L : List XL} : ∀ {B : Bnd} {h : HH} {cs : List Ch} {ds : List XC} {n : Nat}, QW q f L B h cs ds → QeU cs n → ∀ d ∈ ds, d.cls.length ≤ QeB cs ∧ ∀ c ∈ d.cls, cB c = true
 | _, _, [], [], _, _, _, d, hd => by cases hd
 | _, _, c :: cs, e :: ds, n, ⟨R, g, _, _, _, _, b5, _, b7⟩, ⟨_, _, _, _, k5, k6⟩, d, hd => by
  rcases List.mem_cons.1 hd with rfl | hd
  ·rw [b5]; exact ⟨by simp only [QeB]; omega, k5⟩
  ·obtain ⟨h1, h2⟩ := b7.cls k6 d hd
   exact ⟨by simp only [QeB]; omega, h2⟩
theorem Qil.goals150 {q F : Nat} {s : SS} {x : XS} (H : Qil q F s x) : x.goals ≤ F ∧ F ≤ 150 := by
 have := H.i.fuel; have := H.i.f150; omega
theorem Qil.bd {q F : Nat} {s : SS} {x : XS} (H : Qil q F s x) : XBd x := by
 have hI := H.gs.c
 have hl := H.i.ch.len
 have h1 := hI.ch.len
 have h2 := hI.fr
 unfold mu at h2
 have h3 := H.i.lsz
 refine ⟨by omega, by omega, fun d hd => ?_⟩
 obtain ⟨c1, c2⟩ := H.i.csz d hd
 have hg := H.goals150
 obtain ⟨k1, k2⟩ := H.i.ch.cls hI.ch d hd
 exact ⟨H.i.ch.at_lt d hd, by omega, by omega, by omega, fun c hc => Qtq (k2 c hc)⟩
theorem Qil.lnok {q F : Nat} {s : SS} {x : XS} (H : Qil q F s x) : Quy x.ln := by
 intro l hl
 obtain ⟨i, hi⟩ := List.mem_iff_getElem?.1 hl
 have := H.i.lnx i l hi
 have hil : i < x.ln.length := by
  rcases Nat.lt_or_ge i x.ln.length with h | h
  ·exact h
  ·rw [List.getElem?_eq_none h] at hi; cases hi
 omega
theorem at_mem : ∀ {T : Ts} {i : Nat}, i < T.length → T.Mem (T.at_ i)
 | .nil, i, h => by simp [Ts.length] at h
 | .cons k n s a r, 0, h => .inl rfl
 | .cons k n s a r, i + 1, h => .inr (at_mem (by simpa [Ts.length] using h))
theorem QsF {q f : Nat} {B : Bnd} {h : HH} {R : Tm → Int → Prop} (H : Qgf q f B h R) (hB : ∀ x ∈ B, tgd x.2) (hl : h.cs.length ≤ 65536) {t : Tm} {a : Int} (ht : R t a) (hg : tgd t) : QgC h a := by
 have da : Qj h.cs a = true := H.bm.db ht
 have ho : HOk h := H.bm.okb
 obtain ⟨y, c, h1, h2, h3, h4⟩ := ho.view da
 obtain ⟨l1, l2⟩ := QdS H ht
 have hc : QY h a = c := by unfold QY; rw [h1.look, h2]; rfl
 rw [hc] at l1 l2
 refine ⟨c, by rw [h1.look]; exact h2, ?_⟩
 have hgc := QP (Qak ho.gl h2)
 by_cases hk : c.k = 2
 ·have hn := l2 Ya
  have hq : tgd (Qe B t) := Qje hB hg
  obtain ⟨g1, _⟩ := hq
  simp only [Ts.good, Bool.and_eq_true] at g1
  have g2 := g1.1.1
  unfold Qa1 at g2
  rw [if_neg Ya, if_neg Ya, if_pos Ya] at g2
  simp only [Bool.and_eq_true, decide_eq_true_eq] at g2
  omega
 ·rcases hgc with ⟨_, b1, b2, _⟩ | ⟨_, b1, _⟩ | ⟨b1, _⟩ | ⟨_, b1, b2, _⟩
  ·omega
  ·omega
  ·exact absurd b1 hk
  ·omega
theorem Qil.stepOk {q F : Nat} {s : SS} {x : XS} (H : Qil q F s x) (hne : x.first ≠ -1) : QrO x := by
 have hg := H.goals150
 have hcs := H.cs
 have hts := H.ts
 have hlen : x.h.cs.length ≤ 65536 := by omega
 obtain ⟨R, hG, hC⟩ := H.cur
 cases hgs : s.goals with
 | nil => rw [hgs] at hC; exact absurd hC hne
 | cons g rest =>
  rw [hgs] at hC
  obtain ⟨k, l, hk, h2, h3, h4, h5, h6⟩ := hC
  have hlk := Qjf h2
  have hkl : k < x.ln.length := by
   rcases Nat.lt_or_ge k x.ln.length with h | h
   ·exact h
   ·rw [List.getElem?_eq_none h] at h2; cases h2
  obtain ⟨c1, c2, c3, c4, c5, c6, c7, c8⟩ := Qfv hG h3
  have hgl := QP (Qak hG.bm.okb.gl c8)
  have htg := H.gs.gg g (by rw [hgs]; exact List.mem_cons_self ..)
  have hog := H.gs.og
  rw [hgs] at hog
  have hl := H.i.ch.len
  refine ⟨H.bd, hlen, by omega, by omega, by omega, ?_, ?_⟩
  ·rw [hk, Int.toNat_natCast, hlk, h4]
   have := hog.1
   omega
  ·rw [hk, Int.toNat_natCast, hlk]
   refine ⟨_, c8, c5, by omega, fun hb hn => ?_⟩
   have har : 2 ≤ g.1.ar.length := by
    rw [← c2]
    unfold QaG at hb
    rcases hn with e | e
    ·rw [e] at hb; simp at hb; omega
    ·rw [e] at hb; simp at hb; omega
   have hA : ∀ i, i < g.1.ar.length → QgC x.h (l.g + 1 + (i : Nat)) := fun i hi => QsF hG H.gs.c.gb hlen (c7 hi) (Qb6 _ htg _ (at_mem hi))
   refine ⟨by simpa using hA 0 Ya, by simpa using hA 1 Ya⟩
theorem Qil.told {q F : Nat} {s : SS} {x : XS} (H : Qil q F s x) : ∃ (h' : HH) (f g : Int → Int), Qvy q x h' f g := by
 obtain ⟨R, hG, hC⟩ := H.cur
 have hgd := H.i.gd
 have hlive : ∀ k ∈ QbO x, Qj x.h.cs (lnk x.ln k).g = true :=
  Qgc (P := Pl x.ln x.h.cs) (fun i hi hp => hp.next i hi) _ _ (fun c hc => H.i.ch.pl c (List.mem_reverse.1 hc)) (QfA (P := Pl x.ln x.h.cs) (fun i hi hp => hp.next i hi) _ _ _ ⟨_, _, hC, fun t a ht => hG.bm.db ht.1⟩ fun k hk => by cases hk)
 have hroot : ∀ r ∈ QT q x, Qj x.h.cs r = true := by
  intro r hr
  unfold QT at hr
  rcases List.mem_append.1 hr with hr | hr
  ·obtain ⟨v, hv, rfl⟩ := List.mem_map.1 hr
   exact hG.bm.db (hG.qv v (List.mem_range.1 hv))
  ·obtain ⟨k, hk, rfl⟩ := List.mem_map.1 hr
   exact hlive k hk
 refine ⟨⟨Qa5 (QK x.h.cs (QT q x)) x.h.cs, Qbv (QK x.h.cs (QT q x)) x.h.tr⟩, rkI (QK x.h.cs (QT q x)), rkI (x.h.tr.map (Qs (QK x.h.cs (QT q x)))), ?_, fun a => by show (0 : Int) ≤ (rk _ _ : Nat); omega, fun a => by show (0 : Int) ≤ (rk _ _ : Nat); omega⟩
 unfold Qbs
 rw [if_neg (by rw [hgd]; decide), if_neg (by rw [List.all_eq_true.2 hroot]; decide)]
theorem Qil.live {q F : Nat} {s : SS} {x : XS} (H : Qil q F s x) : (∀ k ∈ QbO x, k < x.ln.length) ∧ (x.first = -1 ∨ (0 ≤ x.first ∧ x.first < x.ln.length)) := by
 obtain ⟨R, hG, hC⟩ := H.cur
 have hb := hC.bd
 obtain ⟨hI, hf, hcl⟩ := QqO H.i.lnx hb.1 hb.2 H.i.ch.at_lt
 exact ⟨hI.lt, by omega⟩
def Iv (q F n : Nat) (x : XS) : Prop := ∃ s : SS, Qil q F s x ∧ s.ev.length < 12 ∧ mu s < n
theorem Iv.start {q : Ts} {v F : Nat} (hq : qB (v : Nat) q = true) (hF : F ≤ 150) : Iv v F 4000 (QdC q (v : Nat)) := by
 obtain ⟨hI, hmu⟩ := Qe7 hq hF
 exact ⟨_, QkS hq hF, by simp [Qbd], by omega⟩
theorem Iv.next {P : List Cl} {q F every n : Nat} {x : XS} (hp : pB P = true) (h : Iv q F n x) : ∃ n', n = n' + 1 ∧ (QaX P q F every x).2.ev.length ≤ 12 ∧ ((QaX P q F every x).1 = 0 → Iv q F n' (QaX P q F every x).2) := by
 obtain ⟨s, H, hev, hmu⟩ := h
 obtain ⟨h1, h2, h3⟩ := Qnr (every := every) hp H hev
 obtain ⟨hst, hst2⟩ := QfT (vars := q) H.gs hev hp
 have hev3 := QpX P q s H.gs hev hp
 refine ⟨n - 1, by omega, by rw [h2]; exact hev3, fun h0 => ?_⟩
 rw [← h1] at h0
 exact ⟨_, h3 h0, hst2 h0, by have := (hst.go h0).2; omega⟩
set_option maxRecDepth 100000
theorem Qky.segC {w : World} {b : Nat} : ∀ {L : List LC} {o : Nat}, Qky w b L o → (∀ x ∈ L, Qu9 x w) → Qm5 w (fun _ => True) (L.map LC.cl) b o
 | [], _, _, _ => trivial
 | c :: r, o, ⟨h0, h1, h2, h3, h4, h5, h6⟩, hr => ⟨trivial, h0, h1, h2, ⟨_, h3, (hr c (.head _)).1.sl⟩, ⟨_, h4, (hr c (.head _)).2.sl⟩, h5, h6.segC fun x hx => hr x (.tail _ hx)⟩
theorem QrR.slC {L : List LC} {A : Option Addr} {c : Nat} {w : World} (h : QrR L A c w) : SlC w (fun _ => True) (.slice A L.length c) (L.map LC.cl) := by
 refine ⟨A, c, by simp, by simpa using h.1, fun hl => ?_⟩
 obtain ⟨b, o, e, hs⟩ := h.2.1 (by simpa using hl)
 exact ⟨b, o, e, hs.segC h.2.2⟩
section
variable {M : List Nat} {w0 : World} {H : List (Nat × Obj)} {F : List (World → Prop)}
end
section
variable {M : List Nat} {w0 : World} {H : List (Nat × Obj)} {F : List (World → Prop)}
theorem QoQ {b : Nat} {P : List LB} {pA : Option Addr} {pc vars fuel every n : Nat} {x : XS} (hp : pB (P.map LB.cl) = true) (hIv : Iv vars fuel n x) (hevr : every ≤ 9223372036854775807) (w : World) (hs : XSt M w0 H F b P pA pc vars fuel every x w) :
  Calls Tryz.prog 31 #[ptm b] w fun e w' => e = .returned (.int .i64 (QaX (P.map LB.cl) vars fuel every x).1) ∧ XSt M w0 H F b P pA pc vars fuel every (QaX (P.map LB.cl) vars fuel every x).2 w' := by
 obtain ⟨s, hR, hev, hmu⟩ := hIv
 have hp2 : (P.map LB.cl).length ≤ 24 ∧ ∀ x ∈ P.map LB.cl, cB x = true := by
  unfold pB at hp
  simp only [Bool.and_eq_true, decide_eq_true_eq, List.all_eq_true] at hp
  exact hp
 have hq8 := hR.i.q8
 have hg := hR.goals150
 have hmb : Qil vars fuel s (QH vars every x) ∧ (QH vars every x).first = x.first ∧ (QH vars every x).goals = x.goals := by
  unfold QH
  split
  ·exact Qn5 hR
  ·exact ⟨hR, rfl, rfl⟩
 refine Qqw x w (fun p hpm => ?_) (by simpa using hp2.1) hq8 hR.bd (by rw [hR.i.ev]; exact hev) Ya hg.1 hevr (fun h1 h2 h3 h4 w2 hs2 => ?_) (fun h1 h2 => ⟨?_, hmb.2.2⟩) hs
 ·have := hp2.2 p.cl (List.mem_map.2 ⟨p, hpm, rfl⟩)
  exact ⟨Quf this, Qtq this⟩
 ·obtain ⟨h', f, g, ht⟩ := hR.told
  obtain ⟨hlv, hf⟩ := hR.live
  exact Qlj x h' f g w2 hR.bd hR.lnok hlv Ya hf hq8 ht hs2
 ·exact hmb.1.stepOk (by rw [hmb.2.1]; exact h1)
theorem QoI (X : List LC) (xA : Option Addr) (xc : Nat) (q : TA) (qA : Option Addr) (qc : Nat) (vars fuel every : Int) (w : World) (hX : Und F (QrR X xA xc)) (hq : Und F (ArA qA qc q))
  (hpl : X.length ≤ 9223372036854775807) (hpw : QrQ (X.map LC.cl)) (hql : q.len ≤ 9223372036854775807) (hqw : q.ts.wide) (hev : every ≤ 9223372036854775807) (hS : St M w0 H F w) :
  Calls Tryz.prog 12 #[.slice xA X.length xc, .slice qA q.len qc, .int .i64 vars, .int .i64 fuel, .int .i64 every] w fun e w' => ∃ (A : Option Addr) (c : Nat) (L : List KE) (F' : List (World → Prop)), e = .returned (.tuple #[.slice A L.length c, .int .i64 (QrU (X.map LC.cl) q.ts vars fuel every).2]) ∧ L.map KE.ev = (QrU (X.map LC.cl) q.ts vars fuel every).1 ∧ (∀ φ ∈ F, φ ∈ F') ∧ Und F' (KER L A c) ∧ St M w0 H F' w' := by
 by_cases hp : pB (X.map LC.cl) = true
 case neg =>
  exact QgK (fun _ _ => False) X xA xc q qA qc vars fuel every w hX hq (fun w' hS => Qa6 _ _ w' (hS.und hX).slC (by simpa using hpl) hpw) (fun w' hS => QaL vars _ _ w' (hS.und hq).sl (by rw [TA.len_ts]; exact hql) hqw)
   (fun h => absurd h hp) (fun h => absurd h hp) (fun _ _ _ _ _ _ _ _ h => h.elim) (fun _ _ h => h.elim) hS
 by_cases hqB : qB vars q.ts = true
 case neg =>
  exact QgK (fun _ _ => False) X xA xc q qA qc vars fuel every w hX hq (fun w' hS => Qa6 _ _ w' (hS.und hX).slC (by simpa using hpl) hpw) (fun w' hS => QaL vars _ _ w' (hS.und hq).sl (by rw [TA.len_ts]; exact hql) hqw)
   (fun _ h => absurd h hqB) (fun _ h => absurd h hqB) (fun _ _ _ _ _ _ _ _ h => h.elim) (fun _ _ h => h.elim) hS
 by_cases hf : 0 ≤ fuel ∧ fuel ≤ 150
 case neg =>
  exact QgK (fun _ _ => False) X xA xc q qA qc vars fuel every w hX hq (fun w' hS => Qa6 _ _ w' (hS.und hX).slC (by simpa using hpl) hpw) (fun w' hS => QaL vars _ _ w' (hS.und hq).sl (by rw [TA.len_ts]; exact hql) hqw)
   (fun _ _ h1 h2 => absurd ⟨h1, h2⟩ hf) (fun _ _ h1 h2 => absurd ⟨h1, h2⟩ hf) (fun _ _ _ _ _ _ _ _ h => h.elim) (fun _ _ h => h.elim) hS
 have hp2 : (X.map LC.cl).length ≤ 24 ∧ ∀ x ∈ X.map LC.cl, cB x = true := by
  unfold pB at hp
  simp only [Bool.and_eq_true, decide_eq_true_eq, List.all_eq_true] at hp
  exact hp
 have hqB2 := hqB
 simp only [qB, Bool.and_eq_true, decide_eq_true_eq] at hqB2
 obtain ⟨v, rfl⟩ : ∃ v : Nat, vars = v := ⟨vars.toNat, by omega⟩
 have hgq := Qq2 (v := v) (q := q.ts) hqB
 have hXw : ∀ c ∈ X, c.hd.ar.len ≤ 9223372036854775807 ∧ c.hd.ar.ts.wide ∧ c.bd.len ≤ 9223372036854775807 ∧ c.bd.ts.wide := fun c hc => by
  have h1 := hpw c.cl (List.mem_map.2 ⟨c, hc, rfl⟩)
  have h2 := c.hd.ar.len_ts
  have h3 := c.bd.len_ts
  obtain ⟨a1, a2, a3, a4⟩ := h1
  exact ⟨by rw [← h2]; exact a1, a2, by rw [← h3]; exact a3, a4⟩
 have hpc : ∀ c ∈ X, cB c.cl = true := fun c hc => hp2.2 c.cl (List.mem_map.2 ⟨c, hc, rfl⟩)
 have hXl : X.length ≤ 24 := by simpa using hp2.1
 have hst := Iv.start (q := q.ts) (v := v) (F := fuel.toNat) hqB Ya
 have hnew := fun w' hS => Qiv (M := M) (w0 := w0) (H := H) (F := F) X xA xc q qA qc v fuel.toNat every.toNat w' hX hq hXl hgq hql hqw hXw hpc hqB hS
 have hgp : ∀ w', St M w0 H F w' → Calls Tryz.prog 28 #[.slice xA X.length xc] w' fun e w'' => e = .returned (.bool (pB (X.map LC.cl))) ∧ Below w'.heap.size w' w'' := fun w' hS => Qa6 _ _ w' (hS.und hX).slC (by simpa using hpl) hpw
 have hgo : ∀ w', St M w0 H F w' → Calls Tryz.prog 29 #[.slice qA q.len qc, .int .i64 (v : Nat)] w' fun e w'' => e = .returned (.bool (qB (v : Nat) q.ts)) ∧ Below w'.heap.size w' w'' := fun w' hS => QaL (v : Nat) _ _ w' (hS.und hq).sl (by rw [TA.len_ts]; exact hql) hqw
 refine QgK (Iv v fuel.toNat) X xA xc q qA qc (v : Nat) fuel every w hX hq hgp hgo (fun _ _ _ _ _ w' hS => ?_) (fun _ _ _ _ _ => hst) (fun b P pA pc F1 hPX n s hI w' hs => ?_) (fun n s hI => ?_) hS
 ·rw [Int.toNat_natCast]; exact hnew w' hS
 ·rw [Int.toNat_natCast] at hs ⊢
  rw [← hPX]
  exact QoQ (by rw [hPX]; exact hp) hI Ya w' hs
 ·rw [Int.toNat_natCast]
  exact hI.next hp
end
open Go.Shelf
section
variable {P : Program} {n : Nat} {e : Env} {w : World} {ty : TypeId} {pos : String} {after : Array Edge} {x y z : Operand} {dst : Option Nat} {t : TypeId}
end
section
variable {P : Program} {n : Nat} {e : Env} {w w' : World} {ty : TypeId} {pos : String} {after : Array Edge} {x y z : Operand} {dst : Option Nat} {t t2 : TypeId}
theorem Qvc (c : UInt8) : IntKind.u8.wrap ((c.toNat : Int) - 48) = ((c - 48).toNat : Int) := by
 have h : ∀ k : Fin 256, IntKind.u8.wrap (((UInt8.ofNat k.val).toNat : Int) - 48) = ((UInt8.ofNat k.val - 48).toNat : Int) := by decide +kernel
 have := h ⟨c.toNat, c.toNat_lt⟩
 simpa using this
theorem QiR {c : UInt8} (hx : ev n e x = .int .u8 c.toNat) (hy : ev n e y = .int .u8 48) :
  (execOp (ev n e) ⟨dst, .binOp .sub t x y t2, ty, pos, after, none⟩).run P w = .ok (.value (.int .u8 ((c - 48).toNat : Nat))) w := by
 have : (execOp (ev n e) ⟨dst, .binOp .sub t x y t2, ty, pos, after, none⟩).run P w = .ok (.value (.int .u8 (IntKind.u8.wrap ((c.toNat : Int) - 48)))) w := by simp only [execOp, hx, hy]; rfl
 rw [this, Qvc]
def QnV (P : Program) (t : TypeId) (k : IntKind) : Bool := match P.underlying t with | some (.int q) => q == k | _ => false
theorem Qvw {k : IntKind} (h : QnV P t k = true) : P.underlying t = some (.int k) := by
 unfold QnV at h
 split at h
 ·rename_i q hq; rw [hq, eq_of_beq h]
 ·cases h
theorem Qiu {u v : Value} {src dt : TypeId} (hx : ev n e x = u) (h : (convert src dt u).run P w = .ok v w') : (execOp (ev n e) ⟨dst, .convert src dt x, ty, pos, after, none⟩).run P w = .ok (.value v) w' := by
 subst hx
 show (Sem.bind (convert _ _ _) _).run _ _ = _
 rw [Sem.run_bind', h]
 rfl
theorem Qey {c : UInt8} {src dt : TypeId} (hx : ev n e x = .int .u8 (c.toNat : Nat)) (hs : QnV P src .u8 = true) (hd : QnV P dt .i64 = true) :
  (execOp (ev n e) ⟨dst, .convert src dt x, ty, pos, after, none⟩).run P w = .ok (.value (.int .i64 (c.toNat : Nat))) w := by
 refine Qiu hx ?_
 have := c.toNat_lt
 simp [convert, run_underlying (Qvw hs), run_underlying (Qvw hd), Conv.intToInt]
 exact Qg3 Ya Ya
end
section
variable {M : List Nat} {w0 : World} {H : List (Nat × Obj)} {F : List (World → Prop)}
end
end Go.Proofs.YthliapbflkfdiacGreatDoor
