/- Steps of the proof. -/
import Derived.Test.YthliapbflkfdiacGreatDoorG26
namespace Go.Proofs.YthliapbflkfdiacGreatDoor
open Go.RowKit
set_option linter.unusedVariables false
set_option linter.unusedSimpArgs false
set_option maxRecDepth 100000
set_option maxHeartbeats 1000000
def GOk (c : Cl) : Prop := 0 ≤ c.vars ∧ c.vars ≤ 1000000 ∧ (Qat c).length ≤ 1000 ∧ ∀ g ∈ Qat c, 0 ≤ g ∧ g ≤ 1000000
structure XBd (x : XS) : Prop where
 ln : x.ln.length ≤ 1000000
 cn : x.ch.length ≤ 1000000
 ch : ∀ c ∈ x.ch, c.at_ < x.ln.length ∧ c.cells ≤ 1000000 ∧ c.bound ≤ 1000000 ∧ c.cls.length ≤ 5000 ∧ ∀ d ∈ c.cls, GOk d
theorem QnL (h : HH) (K : List HC) : (Q3 h K).2.1 ≤ 1000000 := by
 unfold Q3
 repeat' split
 all_goals (simp <;> omega)
def Qvz (M : List Nat) (w0 : World) (H : List (Nat × Obj)) (b : Nat) (P : List LB) (pA : Option Addr) (pc vars fuel every n : Nat) : Prop :=
 ∀ (F0 : List (World → Prop)) (x : XS) (w : World), x.ch.length = n → XBd x → XSt M w0 H F0 b P pA pc vars fuel every x w →
  Calls Tryz.prog 93 #[ptm b] w fun e w' => e = .returned (.int .i64 (Qi0 x.ch x).1) ∧ XSt M w0 H F0 b P pA pc vars fuel every (Qi0 x.ch x).2 w'
theorem QeP {L : List XL} {a : Nat} (h : a < L.length) : L[a]? = some (lnk L a) := by
 unfold lnk; rw [List.getElem?_eq_getElem h, List.getD_eq_getElem?_getD, List.getElem?_eq_getElem h]; rfl
theorem QbL {α : Type} (q : α) (L O1 O2 O3 H : List α) : (L ++ q :: (O1 ++ (O2 ++ (O3 ++ H)))).Perm (q :: (O1 ++ (O2 ++ (O3 ++ (L ++ H))))) :=
 List.perm_middle.trans (.cons _ ((List.perm_append_comm_assoc L O1 _).trans (.append_left O1 ((List.perm_append_comm_assoc L O2 _).trans (.append_left O2 (List.perm_append_comm_assoc L O3 H))))))
theorem Qt6 {α : Type} (p4 p3 p2 p1 q : α) (T : List α) : (p4 :: p3 :: p2 :: p1 :: q :: T).Perm (p3 :: p2 :: q :: p4 :: p1 :: T) :=
 (List.Perm.swap p3 p4 _).trans (.cons _ ((List.Perm.swap p2 p4 _).trans (.cons _ (List.perm_middle (l₁ := [p4, p1]) (l₂ := T) (a := q)))))
section
variable {n : Nat} {e : Env}
theorem QuT {a b c o p : Operand} {x y z u v : Value} (h : ev n e a = x) (h2 : ev n e b = y) (h3 : ev n e c = z) (h4 : ev n e o = u) (h5 : ev n e p = v) : #[a, b, c, o, p].map (ev n e) = #[x, y, z, u, v] := by simp [h, h2, h3, h4, h5]
end
section
variable {M : List Nat} {w0 : World} {H : List (Nat × Obj)} {F0 : List (World → Prop)} {b : Nat} {P : List LB} {pA : Option Addr} {pc vars fuel every : Nat}
theorem Qgs (n : Nat) (hret : Qvz M w0 H b P pA pc vars fuel every n) (x : XS) (a cells bound : Nat) (X : List LB) (A : Option Addr) (c : Nat) (w : World) (hn : x.ch.length = n) (hbd : XBd x) (ha : a < x.ln.length) (hX : ∀ p ∈ X, GOk p.cl) (hXl : X.length ≤ 5000) (hce : cells ≤ 1000000) (hbo : bound ≤ 1000000) (hXf : Und F0 (LBR X A c)) (hs : XSt M w0 H F0 b P pA pc vars fuel every x w) :
  Calls Tryz.prog 100 #[ptm b, .agg #[.int .i64 (a : Nat), .slice A X.length c, .int .i64 (cells : Nat), .int .i64 (bound : Nat)]] w fun e w' => e = .returned (.int .i64 (Qph (Qi0 x.ch) a cells bound (X.map LB.cl) x).1) ∧ XSt M w0 H F0 b P pA pc vars fuel every (Qph (Qi0 x.ch) a cells bound (X.map LB.cl) x).2 w' := by
 obtain ⟨d, F, hFF, hok, hS⟩ := hs
 obtain ⟨hA, hc, hB, hd, LA, lc, O1, cs, CA, cc, O2, evs, EA, ec, O3⟩ := d
 have hXF := hXf.mono hFF
 obtain ⟨l0, l1, l2⟩ := QfL x.ln a _ (QeP ha)
 have hrow1 := hok.row1
 obtain ⟨gl, sp, rfl, rfl, hcap⟩ := hrow1.some_ Ya
 have hll : ∀ {M2 H' F'} w', St M2 w0 H' F' w' → (gl, Obj.cells (xlL x.ln ++ sp).toArray 101) ∈ H' → _ := fun {M2 H' F'} w' (hS : St M2 w0 H' F' w') hm => And.intro (Row.cell (w := w') hrow1 hS (by intro p hp; obtain rfl := List.mem_singleton.1 hp; exact hm) rfl l0) (And.intro (Row.cell (w := w') hrow1 hS (by intro p hp; obtain rfl := List.mem_singleton.1 hp; exact hm) rfl l1) (Row.cell (w := w') hrow1 hS (by intro p hp; obtain rfl := List.mem_singleton.1 hp; exact hm) rfl l2))
 refine Qg Tryz.func100 rfl Tryz.ntmps100 rfl ?_
 refine Zi ?_
 clear hS
 intro b1 wx1 hS
 refine Z0 ?_
 refine QB (St _ _ _ _) 9 ((0, true) :: (1, true) :: (2, true) :: (3, true) :: (4, true) :: (5, true) :: (6, true) :: (7, true) :: (8, false) :: []) Yc Yc (hS.drew) ?_
 replace hS := hS.drew
 refine Zad ?_
 refine ZdO ?_
 refine Zfb ?_
 refine Zax ?_
 refine Zfb ?_
 refine Za4 ?_
 first
  | refine Qd rfl (fun _ hS => Qb (k := 3) hS rfl rfl rfl (by first | exact .head | exact .tail .head | exact .tail (.tail .head) | exact .tail (.tail (.tail .head)) | exact .tail (.tail (.tail (.tail .head))) | exact .tail (.tail (.tail (.tail (.tail .head))))) Yf) rfl ?_
  | refine Qd rfl (fun _ hS => Qb (k := 3) hS rfl rfl rfl (by first | exact .head | exact .tail .head | exact .tail (.tail .head) | exact .tail (.tail (.tail .head)) | exact .tail (.tail (.tail (.tail .head))) | exact .tail (.tail (.tail (.tail (.tail .head))))) Ye) rfl ?_
  | refine Qd rfl (fun _ hS => QaZ rfl rfl rfl (by first | assumption | exact (hll _ hS Yf).1 | exact (hll _ hS Yf).2.1 | exact (hll _ hS Yf).2.2 | exact hS.cell0 Ye) (by first | assumption | exact (hll _ hS Yf).1 | exact (hll _ hS Yf).2.1 | exact (hll _ hS Yf).2.2 | exact hS.cell0 Ye) (by first | assumption | exact (hll _ hS Yf).1 | exact (hll _ hS Yf).2.1 | exact (hll _ hS Yf).2.2 | exact hS.cell0 Ye)) rfl ?_
 refine Zp ?_
 refine Zaa ?_
 clear hS
 intro b2 wx2 hS
 refine Zcf ?_
 refine ZJ ?_
 refine Zd ?_
 clear hS
 intro wx3 hS
 refine ZK ?_
 refine ZaB ?_
 refine Zcg ?_
 refine Z6 ?_
 refine Qo 24 (25 :: 26 :: 27 :: 28 :: 7 :: 6 :: 30 :: 31 :: 32 :: 33 :: 34 :: 35 :: 36 :: 29 :: 37 :: 38 :: 39 :: 8 :: 9 :: 10 :: 41 :: 42 :: 43 :: 44 :: 45 :: 46 :: 47 :: 48 :: 40 :: 49 :: 50 :: 51 :: 11 :: 12 :: 52 :: 53 :: 4 :: 54 :: 55 :: 56 :: 57 :: 58 :: 59 :: 60 :: 61 :: 62 :: 63 :: 64 :: 65 :: 66 :: 67 :: 68 :: 69 :: 70 :: 71 :: 72 :: 73 :: 74 :: 75 :: 76 :: 77 :: 78 :: 79 :: 80 :: 81 :: 82 :: 83 :: 84 :: 85 :: 86 :: 87 :: 88 :: 89 :: 90 :: 91 :: 92 :: 93 :: 94 :: 95 :: []) (fun (R : List LB) v w' => ∃ (D : List LB) (F' : List (World → Prop)), X = D ++ R ∧ v = .int .i64 (D.length : Nat) ∧ (∀ φ ∈ F, φ ∈ F') ∧ Qph (Qi0 x.ch) a cells bound (X.map LB.cl) x = Qph (Qi0 x.ch) a cells bound (R.map LB.cl) x ∧ St M w0 ((b2, .cells (QuF (lnk x.ln a)).toArray 101) :: (b1, .cells #[.int .i64 (a : Nat), .slice A X.length c, .int .i64 (cells : Nat), .int .i64 (bound : Nat)] 151) :: (b, mob P pA pc vars fuel every x ⟨hA, hc, hB, hd, some ⟨gl, 0, none⟩, lc, [(gl, .cells (xlL x.ln ++ sp).toArray 101)], cs, CA, cc, O2, evs, EA, ec, O3⟩) :: ([(gl, .cells (xlL x.ln ++ sp).toArray 101)] ++ (O2 ++ (O3 ++ H)))) F' w') (fun R => R.length) (X) ?_ Yb ?_
 ·exact ⟨[], F, rfl, rfl, fun _ h => h, rfl, hS⟩
 clear hS
 rintro R _ w2 jv ⟨D, F', hDR, rfl, hF', hatt, hS⟩ ih
 have hlen : X.length = D.length + R.length := by rw [hDR]; simp
 have hok' := hok.mono hF'
 have hXF' := hXF.mono hF'
 cases R with
 | nil =>
  simp only [List.length_nil] at hlen
  rw [hatt]
  refine ZL ?_
  refine ZG ?_
  refine Calls.mono (hret F0 x _ hn hbd ⟨_, F', fun φ h => hF' φ (hFF φ h), hok', hS.drop.drop⟩) ?_
  rintro _ w9 ⟨rfl, hq⟩
  refine ZH ?_
  refine Zet ?_
  exact ⟨rfl, hq⟩
 | cons y R =>
  simp only [List.length_cons] at hlen
  have hyg : GOk y.cl := hX y (by rw [hDR]; simp)
  obtain ⟨g0, g1, g2, g3⟩ := hyg
  have hXD : Und F' (LBR (D ++ y :: R) A c) := hDR ▸ hXF'
  obtain ⟨bX, oX, rfl⟩ := (hS.und hXD).some_ Yh
  obtain ⟨q0, q1, q2, q3⟩ := (hS.und hXD).cells
  have hfl : Und F' (Qu3 y) := hXD.imp fun w h => h.2 y Yd
  have hld := QnL x.h (Qt y.cl)
  have hstep : Qph (Qi0 x.ch) a cells bound (List.map LB.cl (y :: R)) x = if (QdW x.h y.cl (lnk x.ln a).g).2.2 ≠ 0 then (4, x) else if (QdW x.h y.cl (lnk x.ln a).g).2.1 = false then Qph (Qi0 x.ch) a cells bound (R.map LB.cl) x else (0, x.took a y.cl (R.map LB.cl) cells bound) := rfl
  refine ZaV ?_
  refine ZaS ?_
  first
   | refine Qa (Qb (k := 4) hS rfl rfl rfl (by first | exact .head | exact .tail .head | exact .tail (.tail .head) | exact .tail (.tail (.tail .head)) | exact .tail (.tail (.tail (.tail .head))) | exact .tail (.tail (.tail (.tail (.tail .head))))) Yf) rfl ?_
   | refine Qa (Qb (k := 4) hS rfl rfl rfl (by first | exact .head | exact .tail .head | exact .tail (.tail .head) | exact .tail (.tail (.tail .head)) | exact .tail (.tail (.tail (.tail .head))) | exact .tail (.tail (.tail (.tail (.tail .head))))) Ye) rfl ?_
   | refine Qa (Qbl rfl rfl rfl (by first | assumption | exact (hll _ hS Yf).1 | exact (hll _ hS Yf).2.1 | exact (hll _ hS Yf).2.2 | exact hS.cell0 Ye) (by first | assumption | exact (hll _ hS Yf).1 | exact (hll _ hS Yf).2.1 | exact (hll _ hS Yf).2.2 | exact hS.cell0 Ye) (by first | assumption | exact (hll _ hS Yf).1 | exact (hll _ hS Yf).2.1 | exact (hll _ hS Yf).2.2 | exact hS.cell0 Ye) (by first | assumption | exact (hll _ hS Yf).1 | exact (hll _ hS Yf).2.1 | exact (hll _ hS Yf).2.2 | exact hS.cell0 Ye)) rfl ?_
  refine ZX ?_
  clear hS
  intro b3 wx4 hS
  refine ZbJ ?_
  clear hS
  intro wx5 hS
  refine ZK ?_
  refine Qjl 8 9 (30 :: 31 :: 32 :: 33 :: 34 :: 35 :: 36 :: 29 :: 37 :: 38 :: 39 :: 10 :: []) (fun u z w' => ∃ (b4 : Nat) (A' : Option Addr) (c' : Nat) (B' : Option Addr) (d' : Nat) (F2 : List (World → Prop)), u = .pointer (some ⟨b4, 0, none⟩) ∧ z = .int .i64 ((Q3 x.h (Qt y.cl)).2.1 : Nat) ∧ (∀ φ ∈ F', φ ∈ F2) ∧ Und F2 (HFl (Q3 x.h (Qt y.cl)).1 A' c' B' d') ∧ St M w0 ((b4, .cells [.slice A' (Q3 x.h (Qt y.cl)).1.cs.length c', .slice B' (Q3 x.h (Qt y.cl)).1.tr.length d'].toArray 56) :: (b3, .cells (Qtm y).toArray 94) :: (b2, .cells (QuF (lnk x.ln a)).toArray 101) :: (b1, .cells #[.int .i64 (a : Nat), .slice (some ⟨bX, oX, none⟩) X.length c, .int .i64 (cells : Nat), .int .i64 (bound : Nat)] 151) :: (b, mob P pA pc vars fuel every x ⟨hA, hc, hB, hd, some ⟨gl, 0, none⟩, lc, [(gl, .cells (xlL x.ln ++ sp).toArray 101)], cs, CA, cc, O2, evs, EA, ec, O3⟩) :: ([(gl, .cells (xlL x.ln ++ sp).toArray 101)] ++ (O2 ++ (O3 ++ H)))) F2 w') ?_ ?_
  ·intro hmeet
   refine QcU (St _ _ _ _) 15 (.read 0 (.read 1 (.read 2 (.read 3 (.read 4 (.read 5 (.pick 6 (.read 7 (.read 8 (.read 9 (.read 10 (.pick 11 (.pick 12 (.read 13 (.read 14 .tail)) .none) .none))))) (.pick 11 (.pick 6 (.read 7 (.read 8 (.read 9 (.read 10 (.pick 12 (.read 13 (.read 14 .tail)) .none))))) .none) .none)))))))) Yc Yc hS.drew ?_
   replace hS := hS.drew
   refine Za7 ?_
   refine Qv rfl (fun _ hS => QaP rfl) rfl ?_
   refine ZcJ ?_
   first
    | refine Qv rfl (fun _ hS => Qb (k := 2) hS rfl rfl rfl (by first | exact .head | exact .tail .head | exact .tail (.tail .head) | exact .tail (.tail (.tail .head)) | exact .tail (.tail (.tail (.tail .head))) | exact .tail (.tail (.tail (.tail (.tail .head))))) Yf) rfl ?_
    | refine Qv rfl (fun _ hS => Qb (k := 2) hS rfl rfl rfl (by first | exact .head | exact .tail .head | exact .tail (.tail .head) | exact .tail (.tail (.tail .head)) | exact .tail (.tail (.tail (.tail .head))) | exact .tail (.tail (.tail (.tail (.tail .head))))) Ye) rfl ?_
    | refine Qv rfl (fun _ hS => QaQ rfl rfl rfl (by first | assumption | exact (hll _ hS Yf).1 | exact (hll _ hS Yf).2.1 | exact (hll _ hS Yf).2.2 | exact hS.cell0 Ye) (by first | assumption | exact (hll _ hS Yf).1 | exact (hll _ hS Yf).2.1 | exact (hll _ hS Yf).2.2 | exact hS.cell0 Ye)) rfl ?_
   refine ZcJ ?_
   first
    | refine Qv rfl (fun _ hS => Qf hS rfl rfl (by first | exact .head | exact .tail .head | exact .tail (.tail .head) | exact .tail (.tail (.tail .head)) | exact .tail (.tail (.tail (.tail .head))) | exact .tail (.tail (.tail (.tail (.tail .head))))) Yf) rfl ?_
    | refine Qv rfl (fun _ hS => Qn rfl rfl (by first | assumption | exact (hll _ hS Yf).1 | exact (hll _ hS Yf).2.1 | exact (hll _ hS Yf).2.2 | exact hS.cell0 Ye | exact Qx hS | exact Qy hS)) rfl ?_
   refine Qfi rfl ?_ ?_
   ·refine Zf ?_
    refine Zf1 ?_
    rintro _ w6 ⟨A', c', B', d', F9, rfl, hF9, hH', hS'⟩
    refine Za ?_
    replace hS := hS'
    clear hS'
    refine ZaT ?_
    refine Za7 ?_
    refine Zbh ?_
    refine Zbh ?_
    refine Zbh ?_
    refine ZbP ?_
    clear hS
    intro b4 wx6 hS
    refine ZaT ?_
    refine Zao ?_
    refine Zd ?_
    clear hS
    intro wx7 hS
    refine ZaT ?_
    refine Zce ?_
    refine Zce ?_
    refine Qbo ?_
    refine Zb ?_
    exact hmeet _ _ _ _ ⟨_, A', c', B', d', F9, rfl, rfl, hF9, hH', hS⟩ Yb Yb Yc
   refine ZbP ?_
   clear hS
   intro b5 wx8 hS
   refine ZaT ?_
   refine Zao ?_
   refine Zf ?_
   refine Zf1 ?_
   rintro _ w6 ⟨A', c', B', d', F9, rfl, hF9, hH', hS'⟩
   refine Za ?_
   replace hS := hS'
   clear hS'
   refine ZaT ?_
   refine Za7 ?_
   refine Zbh ?_
   refine Zbh ?_
   refine Zbh ?_
   refine Zao ?_
   refine Zd ?_
   clear hS
   intro wx9 hS
   refine ZaT ?_
   refine Zce ?_
   refine Zce ?_
   refine Qbo ?_
   refine Zb ?_
   exact hmeet _ _ _ _ ⟨_, A', c', B', d', F9, rfl, rfl, hF9, hH', hS⟩ Yb Yb Yc
  clear hS
  rintro jv2 _ _ w3 ⟨b4, A', c', B', d', F2, rfl, rfl, hF2, hH', hS⟩
  refine Zg ?_
  refine Zf2 ?_
  refine Ze ?_
  refine Zaw ?_
  refine Zcg ?_
  refine Zz ?_
  refine Zav ?_
  refine Zcg ?_
  refine Zai ?_
  refine Calls.mono (QkI (Q3 x.h (Qt y.cl)).1 (((Q3 x.h (Qt y.cl)).2.1 : Nat) + y.cl.vars) (lnk x.ln a).g A' B' c' d' _ hH' hS) ?_
  rintro _ w7 ⟨A5, c5, B5, d5, F5, rfl, hF5, hH5, hS'⟩
  refine Za ?_
  replace hS := hS'
  clear hS'
  rw [show QX (Q3 x.h (Qt y.cl)).1 (((Q3 x.h (Qt y.cl)).2.1 : Nat) + y.cl.vars) (lnk x.ln a).g = QdW x.h y.cl (lnk x.ln a).g from rfl] at *
  have hFa : ∀ φ ∈ F0, φ ∈ F5 := fun φ h => hF5 φ (hF2 φ (hF' φ (hFF φ h)))
  have hok5 := (hok'.mono hF2).mono hF5
  by_cases he : (QdW x.h y.cl (lnk x.ln a).g).2.2 = 0
  ·rw [if_neg (fun h => h he)] at hstep
   by_cases hk : (QdW x.h y.cl (lnk x.ln a).g).2.1 = false
   ·rw [if_pos hk] at hstep
    refine Zaf ?_
    refine Zd ?_
    clear hS
    intro wx10 hS
    refine Zb0 ?_
    refine Zab ?_
    refine Zah ?_
    refine Zb ?_
    rw [hk]
    refine ZI ?_
    refine Zbf ?_
    refine ZeI ?_
    refine ih (R) _ _ _ ?_ ?_ Yb Yc
    ·simp
    ·exact ⟨D ++ [y], F5, by rw [hDR]; simp, by simp, fun φ h => hF5 φ (hF2 φ (hF' φ h)), hatt.trans hstep, hS.drop.drop⟩
   ·rw [if_neg hk] at hstep
    have hk' : (QdW x.h y.cl (lnk x.ln a).g).2.1 = true := by simpa using hk
    have hlc : x.ch.length = cs.length := by
     have : cs.map LX.xc = x.ch := hok.hc
     rw [← this]; simp
    have htk : x.took a y.cl (R.map LB.cl) cells bound = ⟨(QdW x.h y.cl (lnk x.ln a).g).1, x.goals, (Qb3 (Q3 x.h (Qt y.cl)).2.1 cs.length (Qat y.cl) (lnk x.ln a).nx x.ln).1, (Qb3 (Q3 x.h (Qt y.cl)).2.1 cs.length (Qat y.cl) (lnk x.ln a).nx x.ln).2, match R.map LB.cl with | [] => x.ch | _ :: _ => ⟨a, R.map LB.cl, cells, bound⟩ :: x.ch, x.ev⟩ := by
     unfold XS.took; rw [hlc]; cases R <;> rfl
    rw [hatt, hstep, htk]
    refine Zaf ?_
    refine Zd ?_
    clear hS
    intro wx10 hS
    refine Zb0 ?_
    refine Zab ?_
    refine Zah ?_
    refine Zb ?_
    rw [hk']
    refine ZR ?_
    refine Zag ?_
    refine Zm ?_
    refine Zf2 ?_
    refine Zdq ?_
    clear hS
    intro wx11 hS
    refine ZK ?_
    have hokS := hok5.setH hH5
    have hbef := fun (H' : List (Nat × Obj)) w hS => QhI (H := H') (vars := vars) (fuel := fuel) (every := every) (b := b) (M := M) (w0 := w0) (x.setH (QdW x.h y.cl (lnk x.ln a).g).1) (Qat y.cl) y.B y.d (Q3 x.h (Qt y.cl)).2.1 cs.length (lnk x.ln a).nx _ _ _ _ _ _ _ cs CA cc O2 evs EA ec O3 w Ya (fun g hg => by have := g3 g hg; omega) (by have := hbd.ln; show x.ln.length + _ ≤ _; omega) ((hfl.imp fun w h => h.2).mono fun φ h => hF5 φ (hF2 φ h)) hokS hS
    replace hS := hS.perm (Qt6 _ _ _ _ _ _)
    refine Qei 72 (60 :: 61 :: 62 :: 63 :: 64 :: 65 :: 66 :: 67 :: 68 :: 69 :: 70 :: 71 :: 73 :: 74 :: []) (fun u w' => ∃ (LA9 : Option Addr) (lc9 : Nat) (O9 : List (Nat × Obj)), u = .int .i64 (Qb3 (Q3 x.h (Qt y.cl)).2.1 cs.length (Qat y.cl) (lnk x.ln a).nx x.ln).2 ∧ XOk P pA pc ⟨(QdW x.h y.cl (lnk x.ln a).g).1, x.goals, (Qb3 (Q3 x.h (Qt y.cl)).2.1 cs.length (Qat y.cl) (lnk x.ln a).nx x.ln).1, (Qb3 (Q3 x.h (Qt y.cl)).2.1 cs.length (Qat y.cl) (lnk x.ln a).nx x.ln).2, x.ch, x.ev⟩ ⟨A5, c5, B5, d5, LA9, lc9, O9, cs, CA, cc, O2, evs, EA, ec, O3⟩ F5 ∧ St M w0 ((b, mob P pA pc vars fuel every ⟨(QdW x.h y.cl (lnk x.ln a).g).1, x.goals, (Qb3 (Q3 x.h (Qt y.cl)).2.1 cs.length (Qat y.cl) (lnk x.ln a).nx x.ln).1, (Qb3 (Q3 x.h (Qt y.cl)).2.1 cs.length (Qat y.cl) (lnk x.ln a).nx x.ln).2, x.ch, x.ev⟩ ⟨A5, c5, B5, d5, LA9, lc9, O9, cs, CA, cc, O2, evs, EA, ec, O3⟩) :: (b1, .cells #[.int .i64 (a : Nat), .slice (some ⟨bX, oX, none⟩) X.length c, .int .i64 (cells : Nat), .int .i64 (bound : Nat)] 151) :: (O9 ++ (O2 ++ (O3 ++ H)))) F5 w') ?_ ?_
    ·intro hmeet
     refine QcU (fun w => ∃ lv : Value, St M w0 [(b3, .cells (Qtm y).toArray 94), (b2, .cells (QuF (lnk x.ln a)).toArray 101), (b, .cells [.slice A5 (QdW x.h y.cl (lnk x.ln a).g).1.cs.length c5, .slice B5 (QdW x.h y.cl (lnk x.ln a).g).1.tr.length d5, .slice pA P.length pc, .int .i64 (vars : Nat), .int .i64 (fuel : Nat), .int .i64 (x.goals : Nat), .int .i64 (every : Nat), lv, .int .i64 x.first, .slice CA cs.length cc, .slice EA evs.length ec].toArray 61)] [] w) 15 (.read 0 (.read 1 (.read 2 (.read 3 (.read 4 (.read 5 (.read 6 (.read 7 (.read 8 (.read 9 (.read 10 (.read 11 (.pick 12 (.read 13 (.read 14 .tail)) .none))))))))))))) Yc Yc ⟨_, hS.drew.bare3⟩ ?_
     replace hS := hS.drew
     refine Zeu ?_
     refine Zeu ?_
     refine Qv rfl (fun _ ⟨_, hS⟩ => Qi (off := 3) rfl rfl) rfl ?_
     refine Zfc ?_
     refine Zeu ?_
     refine Zeu ?_
     refine Qv rfl (fun _ ⟨_, hS⟩ => QaP rfl) rfl ?_
     refine Qv rfl (fun _ ⟨_, hS⟩ => Qi (off := 9) rfl rfl) rfl ?_
     refine Zfc ?_
     refine Qv rfl (fun _ ⟨_, hS⟩ => Qc6 rfl rfl rfl) rfl ?_
     refine Qv rfl (fun _ ⟨_, hS⟩ => Qi (off := 2) rfl rfl) rfl ?_
     refine Zfc ?_
     refine Zao ?_
     refine Zev ?_
     refine Calls.mono (hbef _ _ (hS.perm ((Qt6 _ _ _ _ _ _).symm.trans (QbL (b, _) [(b4, _), (b3, _), (b2, _), (b1, _)] [_] O2 O3 H)))) ?_
     rintro _ w8 ⟨rfl, LA9, lc9, O9, hok9, hS'⟩
     refine Za ?_
     replace hS := hS'
     clear hS'
     refine QhL (by first | exact ⟨_, hS.bare3⟩ | exact ⟨_, hS.drop.bare3⟩ | exact ⟨_, (hS.perm ((QbL (b, _) [(b4, _), (b3, _), (b2, _), (b1, _)] _ O2 O3 H).symm.trans (Qt6 _ _ _ _ _ _))).bare3⟩) ?_
     refine Qv rfl (fun _ ⟨_, hS⟩ => QaP rfl) rfl ?_
     refine Qv rfl (fun _ ⟨_, hS⟩ => Qi (off := 8) rfl rfl) rfl ?_
     refine Qbo ?_
     refine Zt ?_
     clear hS
     intro wx12 hS
     refine Zb ?_
     exact hmeet _ _ _ ⟨LA9, lc9, O9, rfl, ⟨hok9.hh, hok9.row1, hok9.hc, hok9.rc, hok9.row2, hok9.he, hok9.re, hok9.row3, hok9.rp⟩, (hS.perm (QbL (b, _) [(b4, _), (b3, _), (b2, _), (b1, _)] _ O2 O3 H).symm).drop.drop.drop.swap⟩ rfl Yc
    clear hS
    rintro jv3 _ w9 ⟨LA9, lc9, O9, rfl, hok9, hS⟩
    have hXc : X.length ≤ c := (hS.und (hXF'.mono fun φ h => hF5 φ (hF2 φ h))).1.2.1
    have e1 : (((D.length : Nat) : Int) + 1).toNat = D.length + 1 := by omega
    cases R with
    | nil =>
     simp only [List.length_nil] at hlen
     refine ZaB ?_
     refine Zcg ?_
     refine ZbO ?_
     refine Zf3 ?_
     refine ZE ?_
     refine Zt ?_
     clear hS
     intro wx13 hS
     refine ZK ?_
     refine ZaB ?_
     refine Zcg ?_
     refine ZaF ?_
     refine Zq ?_
     refine Zj ?_
     refine Zet ?_
     exact ⟨rfl, ⟨A5, c5, B5, d5, LA9, lc9, O9, cs, CA, cc, O2, evs, EA, ec, O3⟩, F5, hFa, hok9, hS.swap.drop⟩
    | cons r R =>
     simp only [List.length_cons] at hlen
     have hcn := hbd.cn
     have hrow2 : Row 151 4 (.slice CA cs.length cc) cs.length (xcL cs.reverse) O2 := hok9.row2
     refine ZaB ?_
     refine Zcg ?_
     refine ZbO ?_
     refine Zf3 ?_
     refine ZE ?_
     refine Zt ?_
     clear hS
     intro wx13 hS
     refine ZK ?_
     refine ZaB ?_
     refine Zcg ?_
     refine ZaF ?_
     refine Zb ?_
     rw [e1, show X.length - (D.length + 1) = (r :: R).length by simp; omega] at hS
     replace hS : St M w0 ((b, _) :: (b1, .cells (xcs ⟨a, r :: R, some ⟨bX, oX + (D.length + 1) * 4, none⟩, c - (D.length + 1), cells, bound⟩).toArray 151) :: _) F5 _ := hS
     refine ZI ?_
     refine Zf4 ?_
     replace hS := hS.drew
     refine Zcv ?_
     refine ZcP ?_
     refine Zfb ?_
     first
      | refine Qd rfl (fun _ hS => Qb (k := 4) hS rfl rfl rfl (by first | exact .head | exact .tail .head | exact .tail (.tail .head) | exact .tail (.tail (.tail .head)) | exact .tail (.tail (.tail (.tail .head))) | exact .tail (.tail (.tail (.tail (.tail .head))))) Yf) rfl ?_
      | refine Qd rfl (fun _ hS => Qb (k := 4) hS rfl rfl rfl (by first | exact .head | exact .tail .head | exact .tail (.tail .head) | exact .tail (.tail (.tail .head)) | exact .tail (.tail (.tail (.tail .head))) | exact .tail (.tail (.tail (.tail (.tail .head))))) Ye) rfl ?_
      | refine Qd rfl (fun _ hS => Qbl rfl rfl rfl (by first | assumption | exact (hll _ hS Yf).1 | exact (hll _ hS Yf).2.1 | exact (hll _ hS Yf).2.2 | exact hS.cell0 Ye) (by first | assumption | exact (hll _ hS Yf).1 | exact (hll _ hS Yf).2.1 | exact (hll _ hS Yf).2.2 | exact hS.cell0 Ye) (by first | assumption | exact (hll _ hS Yf).1 | exact (hll _ hS Yf).2.1 | exact (hll _ hS Yf).2.2 | exact hS.cell0 Ye) (by first | assumption | exact (hll _ hS Yf).1 | exact (hll _ hS Yf).2.1 | exact (hll _ hS Yf).2.2 | exact hS.cell0 Ye)) rfl ?_
     refine Zp ?_
     refine ZdA ?_
     clear hS
     intro b6 wx14 hS
     refine ZdM ?_
     refine Zp ?_
     refine Qa8 (sz := 4) (bts := 48) hS Yb rfl rfl rfl rfl (hrow2) rfl rfl (.cons _ (Qfj [_, _] _ _ _)) Ya Ya rfl ?_
     clear hS
     intro v8 O8 w9 hrow8 hS
     obtain ⟨A8, c8, rfl⟩ := hrow8.form
     replace hS := hS.perm (Qfj [_, _] _ _ _).symm
     refine ZdM ?_
     refine ZaO ?_
     refine ZcP ?_
     refine ZbE ?_
     clear hS
     intro wx15 hS
     refine Zbo ?_
     refine Zet ?_
     refine ⟨rfl, ⟨A5, c5, B5, d5, LA9, lc9, O9, ⟨a, r :: R, some ⟨bX, oX + (D.length + 1) * 4, none⟩, c - (D.length + 1), cells, bound⟩ :: cs, A8, c8, O8, evs, EA, ec, O3⟩, F5, hFa, ⟨hok9.hh, hok9.row1, ?_, ?_, ?_, hok9.he, hok9.re, hok9.row3, hok9.rp⟩, hS.swap.drop⟩
     ·show _ :: cs.map LX.xc = _ :: x.ch
      rw [show cs.map LX.xc = x.ch from hok.hc]; rfl
     ·intro q hq
      rcases List.mem_cons.1 hq with rfl | hq
      ·have := (hXF'.mono fun φ h => hF5 φ (hF2 φ h)).imp fun w h => h.drop (D.length + 1) (by rw [hDR]; simp)
       rw [show X.drop (D.length + 1) = r :: R by rw [hDR, List.drop_append]; simp] at this
       exact this
      ·exact hok9.rc q hq
     ·show Row _ 4 (.slice A8 (cs.length + 1) c8) (cs.length + 1) (xcL (LX.mk _ _ _ _ _ _ :: cs).reverse) O8
      rw [List.reverse_cons, Qmb]; exact hrow8
  ·rw [if_pos he] at hstep
   rw [hatt, hstep]
   refine Zaf ?_
   refine Zd ?_
   clear hS
   intro wx10 hS
   refine Zb0 ?_
   refine Zae ?_
   refine Zet ?_
   exact ⟨rfl, _, F5, hFa, hok5, hS.drop.drop.drop.drop⟩
end
section
variable {M : List Nat} {w0 : World} {H : List (Nat × Obj)} {b : Nat} {P : List LB} {pA : Option Addr} {pc vars fuel every : Nat}
theorem Qi7 : ∀ n, Qvz M w0 H b P pA pc vars fuel every n := by
 intro n
 induction n with
 | zero =>
  intro F0 x w hn hbd hs
  obtain ⟨d, F, hFF, hok, hS⟩ := hs
  obtain ⟨hA, hc, hB, hd, LA, lc, O1, cs, CA, cc, O2, evs, EA, ec, O3⟩ := d
  have hch : x.ch = [] := List.eq_nil_of_length_eq_zero hn
  have hcs : cs.map LX.xc = x.ch := hok.hc
  obtain rfl : cs = [] := by rw [hch] at hcs; simpa using hcs
  have e : Qi0 x.ch x = (2, x) := by rw [hch]; rfl
  rw [e]
  dsimp only [mob, mcs, List.length_nil] at hS
  refine Qh Tryz.func93 rfl Tryz.ntmps93 rfl ?_
  refine Zj ?_
  refine ZZ ?_
  refine ZbY ?_
  refine Zo ?_
  refine Zb7 ?_
  refine Zck ?_
  refine Zae ?_
  refine Qc Tryz.func93 rfl Yb ?_
  exact ⟨rfl, _, F, hFF, hok, hS⟩
 | succ n ihn =>
  intro F0 x w hn hbd hs
  obtain ⟨d, F, hFF, hok, hS⟩ := hs
  obtain ⟨hA, hc, hB, hd, LA, lc, O1, cs, CA, cc, O2, evs, EA, ec, O3⟩ := d
  have hcs : cs.map LX.xc = x.ch := hok.hc
  cases cs with
  | nil => rw [← hcs] at hn; simp at hn
  | cons c cs =>
  have hch : x.ch = c.xc :: cs.map LX.xc := hcs.symm
  have hcn := hbd.cn
  have hn' : cs.length = n := by rw [hch] at hn; simpa using hn
  have hrow2 : Row 151 4 (.slice CA (c :: cs).length cc) (c :: cs).length (xcL (c :: cs).reverse) O2 := hok.row2
  obtain ⟨a1, a2, a3, a4, a5⟩ := hbd.ch c.xc (by rw [hch]; simp)
  obtain ⟨k0, k1, k2, k3⟩ := QjD (c :: cs).reverse cs.length c Yd
  obtain ⟨gc, sp, rfl, rfl, hcap⟩ := hrow2.some_ Yd
  have e : Qi0 x.ch x = Qph (Qi0 (cs.map LX.xc)) c.at_ c.cells c.bound (c.cls.map LB.cl) (x.back c.xc (cs.map LX.xc)) := by rw [hch]; rfl
  rw [e]
  have hcl : ∀ {M2 H' F'} w', St M2 w0 H' F' w' → (gc, Obj.cells (xcL (c :: cs).reverse ++ sp).toArray 151) ∈ H' → _ := fun {M2 H' F'} w' (hS : St M2 w0 H' F' w') hm => And.intro (Row.cell (w := w') hrow2 hS (by intro p hp; obtain rfl := List.mem_singleton.1 hp; exact hm) rfl k0) (And.intro (Row.cell (w := w') hrow2 hS (by intro p hp; obtain rfl := List.mem_singleton.1 hp; exact hm) rfl k1) (And.intro (Row.cell (w := w') hrow2 hS (by intro p hp; obtain rfl := List.mem_singleton.1 hp; exact hm) rfl k2) (Row.cell (w := w') hrow2 hS (by intro p hp; obtain rfl := List.mem_singleton.1 hp; exact hm) rfl k3)))
  have hlen : x.ch.length = cs.length + 1 := by rw [hch]; simp
  simp only [List.length_cons] at hrow2
  dsimp only [mob, mcs, List.length_cons] at hS
  have hcc := hrow2.cap
  have hlast : (((cs.length + 1 : Nat) : Int) - 1) = ((cs.length : Nat) : Int) := by omega
  refine Qh Tryz.func93 rfl Tryz.ntmps93 rfl ?_
  refine Zj ?_
  refine ZZ ?_
  refine ZbY ?_
  refine Zo ?_
  refine Zb7 ?_
  refine Zck ?_
  refine Zb ?_
  rw [hlast]
  refine ZR ?_
  refine Zag ?_
  refine ZZ ?_
  refine ZbY ?_
  refine ZdQ ?_
  refine Ze ?_
  refine ZaS ?_
  refine ZdR ?_
  refine ZX ?_
  clear hS
  intro b1 wx1 hS
  refine Zd ?_
  clear hS
  intro wx2 hS
  refine ZbC ?_
  refine Z4 ?_
  refine ZbY ?_
  refine ZdQ ?_
  refine Ze ?_
  refine Qa (QM (sz := 4) rfl rfl rfl rfl Ya Ya) rfl ?_
  refine Z4 ?_
  refine ZbY ?_
  refine Zt ?_
  clear hS
  intro wx3 hS
  refine Zbn ?_
  refine ZdR ?_
  have hcut := hrow2.cut (m := cs.length) Ya
  have htk : (xcL (c :: cs).reverse).take (cs.length * 4) = xcL cs.reverse := by
   rw [List.reverse_cons, Qmb, List.take_append_of_le_length (by rw [Qcy]; simp), List.take_of_length_le (by rw [Qcy]; simp)]
  rw [htk] at hcut
  have hx1 : XOk P pA pc ⟨x.h, x.goals, x.ln, x.first, cs.map LX.xc, x.ev⟩ ⟨hA, hc, hB, hd, LA, lc, O1, cs, some ⟨gc, 0, none⟩, cc, [(gc, .cells (xcL (c :: cs).reverse ++ sp).toArray 151)], evs, EA, ec, O3⟩ F := ⟨hok.hh, hok.row1, rfl, fun q hq => hok.rc q (.tail _ hq), hcut, hok.he, hok.re, hok.row3, hok.rp⟩
  have hS1 := hS.perm (QbL (b, _) [(b1, _)] O1 [(gc, _)] O3 H)
  refine Zf ?_
  refine Calls.mono (Qlf (H := (b1, _) :: H) (F0 := F) ⟨x.h, x.goals, x.ln, x.first, cs.map LX.xc, x.ev⟩ c _ ⟨_, F, fun _ h => h, hx1, hS1⟩) ?_
  rintro _ w5 ⟨rfl, d5, F5, hF5, hok5, hS'⟩
  refine Za ?_
  replace hS := hS'
  clear hS'
  replace hS := hS.perm (QbL (b, _) [(b1, _)] d5.O1 d5.O2 d5.O3 H).symm
  clear hS1
  refine Zbn ?_
  refine ZdR ?_
  have hbd2 : XBd (x.back c.xc (cs.map LX.xc)) := ⟨hbd.ln, by show (cs.map LX.xc).length ≤ _; simp; omega, fun q hq => hbd.ch q (by rw [hch]; exact .tail _ hq)⟩
  have hrc : Und F (LBR c.cls c.A c.c) := hok.rc c (.head _)
  refine Zf ?_
  refine Calls.mono (Qgs n ihn (x.back c.xc (cs.map LX.xc)) c.at_ c.cells c.bound c.cls c.A c.c _ (by show (cs.map LX.xc).length = n; simp; omega) hbd2 a1 (fun p hp => a5 p.cl (List.mem_map.2 ⟨p, hp, rfl⟩)) (by have : (c.cls.map LB.cl).length ≤ 5000 := a4; simpa using this) a2 a3 hrc ⟨d5, F5, hF5, hok5, hS.drop⟩) ?_
  rintro _ w6 ⟨rfl, hq⟩
  refine ZH ?_
  refine Qc Tryz.func93 rfl Yb ?_
  exact ⟨rfl, hq.weaken hFF⟩
end
section
variable {M : List Nat} {w0 : World} {H : List (Nat × Obj)} {F0 : List (World → Prop)} {b : Nat} {P : List LB} {pA : Option Addr} {pc vars fuel every : Nat}
abbrev QgB (h : HH) (a : Int) : Value := if (QY h a).k ≠ 2 ∨ (QY h (a + 1)).k ≠ 2 then .tuple #[.int .i64 0, .int .i64 0, .bool false] else .tuple #[.int .i64 (QY h a).n, .int .i64 (QY h (a + 1)).n, .bool true]
theorem Qlg (x : XS) (a : Int) (w : World) (ha : 0 ≤ a ∧ a ≤ 1099511627776) (hl : ∃ z, hat x.h.cs (Qr x.h.cs a) = some z) (hl1 : ∃ z, hat x.h.cs (Qr x.h.cs (a + 1)) = some z) (hlen : x.h.cs.length ≤ 65536) (hs : XSt M w0 H F0 b P pA pc vars fuel every x w) :
  Calls Tryz.prog 154 #[ptm b, .int .i64 a] w fun e w' => e = .returned (QgB x.h a) ∧ XSt M w0 H F0 b P pA pc vars fuel every x w' := by
 obtain ⟨d, F, hFF, hok, hS⟩ := hs
 obtain ⟨hA, hc, hB, hd, LA, lc, O1, cs, CA, cc, O2, evs, EA, ec, O3⟩ := d
 refine Qg Tryz.func154 rfl Tryz.ntmps154 rfl ?_
 refine Zg ?_
 refine Zba ?_
 refine Zac ?_
 refine Calls.mono (Qlh x a _ hl hlen ⟨_, F, hFF, hok, hS⟩) ?_
 rintro _ w3 ⟨rfl, hs'⟩
 refine Za ?_
 clear hS hok hFF
 obtain ⟨d, F, hFF, hok, hS⟩ := hs'
 obtain ⟨hA, hc, hB, hd, LA, lc, O1, cs, CA, cc, O2, evs, EA, ec, O3⟩ := d
 refine Za2 ?_
 refine Zz ?_
 refine Zf ?_
 refine Calls.mono (Qlh x (a + 1) _ hl1 hlen ⟨_, F, hFF, hok, hS⟩) ?_
 rintro _ w4 ⟨rfl, hs'⟩
 refine Za ?_
 clear hS hok hFF
 obtain ⟨d, F, hFF, hok, hS⟩ := hs'
 obtain ⟨hA, hc, hB, hd, LA, lc, O1, cs, CA, cc, O2, evs, EA, ec, O3⟩ := d
 generalize hz1 : QY x.h a = z1
 generalize hz2 : QY x.h (a + 1) = z2
 obtain ⟨k1, n1, s1⟩ := z1
 obtain ⟨k2, n2, s2⟩ := z2
 by_cases h1 : k1 = 2
 ·by_cases h2 : k2 = 2
  ·have e : QgB x.h a = .tuple #[.int .i64 n1, .int .i64 n2, .bool true] := by unfold QgB; rw [hz1, hz2]; simp [h1, h2]
   rw [e]
   refine Zaa ?_
   clear hS
   intro b1 wx1 hS
   refine Zaa ?_
   clear hS
   intro b2 wx2 hS
   refine Zd ?_
   clear hS
   intro wx3 hS
   refine Zd ?_
   clear hS
   intro wx4 hS
   refine Zdp ?_
   refine Zy ?_
   refine Zx ?_
   refine Zb4 ?_
   refine Zy ?_
   refine Z8 ?_
   refine Zu ?_
   refine QB (St _ _ _ _) 7 ((0, true) :: (1, true) :: (2, true) :: (3, true) :: (4, true) :: (5, true) :: (6, true) :: []) Yc Yc (hS.drew) ?_
   replace hS := hS.drew
   refine ZeK ?_
   refine ZeK ?_
   refine Zcc ?_
   refine Zct ?_
   refine Zfd ?_
   exact ⟨rfl, _, F, hFF, hok, hS.drop.drop⟩
  ·have e : QgB x.h a = .tuple #[.int .i64 0, .int .i64 0, .bool false] := by unfold QgB; rw [hz1, hz2]; simp [h2]
   rw [e]
   refine Zaa ?_
   clear hS
   intro b1 wx1 hS
   refine Zaa ?_
   clear hS
   intro b2 wx2 hS
   refine Zd ?_
   clear hS
   intro wx3 hS
   refine Zd ?_
   clear hS
   intro wx4 hS
   refine Zdp ?_
   refine Zy ?_
   refine Zx ?_
   refine Zb4 ?_
   refine Zy ?_
   refine Zas ?_
   refine Zba ?_
   refine Zfd ?_
   exact ⟨rfl, _, F, hFF, hok, hS.drop.drop⟩
 ·have e : QgB x.h a = .tuple #[.int .i64 0, .int .i64 0, .bool false] := by unfold QgB; rw [hz1, hz2]; simp [h1]
  rw [e]
  refine Zaa ?_
  clear hS
  intro b1 wx1 hS
  refine Zaa ?_
  clear hS
  intro b2 wx2 hS
  refine Zd ?_
  clear hS
  intro wx3 hS
  refine Zd ?_
  clear hS
  intro wx4 hS
  refine Zdp ?_
  refine Zy ?_
  refine Zaq ?_
  refine Zan ?_
  refine Zas ?_
  refine Zba ?_
  refine Zfd ?_
  exact ⟨rfl, _, F, hFF, hok, hS.drop.drop⟩
end
theorem XBd.setH {x : XS} (h : XBd x) (k : HH) : XBd (x.setH k) := ⟨h.ln, h.cn, h.ch⟩
section
variable {M : List Nat} {w0 : World} {H : List (Nat × Obj)} {F0 : List (World → Prop)} {b : Nat} {P : List LB} {pA : Option Addr} {pc vars fuel every : Nat}
theorem Qec (x : XS) (w : World) (hbd : XBd x) (hs : XSt M w0 H F0 b P pA pc vars fuel every x w) :
  Calls Tryz.prog 93 #[ptm b] w fun e w' => e = .returned (.int .i64 (Qd3 x).1) ∧ XSt M w0 H F0 b P pA pc vars fuel every (Qd3 x).2 w' :=
 Qi7 _ F0 x w rfl hbd hs
theorem Qi9 (x : XS) (i j : Int) (w : World) (hbd : XBd x) (hs : XSt M w0 H F0 b P pA pc vars fuel every x w) :
  Calls Tryz.prog 96 #[ptm b, .int .i64 i, .int .i64 j] w fun e w' => e = .returned (.int .i64 (Qfw i j x).1) ∧ XSt M w0 H F0 b P pA pc vars fuel every (Qfw i j x).2 w' := by
 obtain ⟨d, F, hFF, hok, hS⟩ := hs
 obtain ⟨hA, hc, hB, hd, LA, lc, O1, cs, CA, cc, O2, evs, EA, ec, O3⟩ := d
 refine Q2 Tryz.func96 rfl Tryz.ntmps96 rfl ?_
 refine Zj ?_
 refine Zdn ?_
 refine Calls.mono (QoP x i j _ ⟨_, F, hFF, hok, hS⟩) ?_
 rintro _ w3 ⟨rfl, hq⟩
 refine Za ?_
 clear hS hok hFF
 have hb2 := hbd.setH (QX x.h i j).1
 have he : Qfw i j x = if (QX x.h i j).2.2 ≠ 0 then (4, x.setH (QX x.h i j).1) else if (QX x.h i j).2.1 = false then Qd3 (x.setH (QX x.h i j).1) else (0, x.setH (QX x.h i j).1) := rfl
 rw [he]
 obtain ⟨d2, F2, hF2, hok2, hS⟩ := hq
 by_cases h0 : (QX x.h i j).2.2 = 0
 ·rw [decide_eq_false (fun h => h h0), if_neg (fun h => h h0)]
  cases hk : (QX x.h i j).2.1 with
  | false =>
   rw [if_pos rfl]
   refine Zaz ?_
   refine ZaA ?_
   refine Zab ?_
   refine Zbl ?_
   refine ZG ?_
   refine Calls.mono (Qec _ _ hb2 ⟨d2, F2, hF2, hok2, hS⟩) ?_
   rintro _ w4 ⟨rfl, hq⟩
   refine ZH ?_
   refine Qc Tryz.func96 rfl Yb ?_
   exact ⟨rfl, hq⟩
  | true =>
   rw [if_neg Yg]
   refine Zaz ?_
   refine ZaA ?_
   refine Zab ?_
   refine ZV ?_
   refine Zj ?_
   refine Qc Tryz.func96 rfl Yb ?_
   exact ⟨rfl, d2, F2, hF2, hok2, hS⟩
 ·rw [decide_eq_true h0, if_pos h0]
  refine Zaz ?_
  refine ZaA ?_
  refine Zae ?_
  refine Qc Tryz.func96 rfl Yb ?_
  exact ⟨rfl, d2, F2, hF2, hok2, hS⟩
def QgC (h : HH) (a : Int) : Prop := ∃ z, hat h.cs (Qr h.cs a) = some z ∧ -1099511627776 ≤ z.n ∧ z.n ≤ 1099511627776
theorem QgC.n {h : HH} {a : Int} (l : QgC h a) : -1099511627776 ≤ (QY h a).n ∧ (QY h a).n ≤ 1099511627776 := by
 obtain ⟨z, h1, h2, h3⟩ := l
 unfold QY; rw [h1]; exact ⟨h2, h3⟩
theorem Qqy (x : XS) (a : Int) (w : World) (hbd : XBd x) (ha : 0 ≤ a ∧ a ≤ 1099511627776) (hl : QgC x.h a) (hl1 : QgC x.h (a + 1)) (hlen : x.h.cs.length ≤ 65536) (hs : XSt M w0 H F0 b P pA pc vars fuel every x w) :
  Calls Tryz.prog 97 #[ptm b, .int .i64 a] w fun e w' => e = .returned (.int .i64 (QmH a x).1) ∧ XSt M w0 H F0 b P pA pc vars fuel every (QmH a x).2 w' := by
 obtain ⟨d, F, hFF, hok, hS⟩ := hs
 obtain ⟨hA, hc, hB, hd, LA, lc, O1, cs, CA, cc, O2, evs, EA, ec, O3⟩ := d
 have hn := hl.n
 have hn1 := hl1.n
 have hu : QmH a x = if (QY x.h a).k ≠ 2 ∨ (QY x.h (a + 1)).k ≠ 2 then (5, x) else if (QY x.h (a + 1)).n ≤ (QY x.h a).n then Qd3 x else (0, x) := rfl
 rw [hu]
 refine Qg Tryz.func97 rfl Tryz.ntmps97 rfl ?_
 refine Zj ?_
 refine Zac ?_
 refine Zf5 ?_
 rintro _ w3 ⟨rfl, hq⟩
 refine Za ?_
 clear hS hok hFF
 obtain ⟨d2, F2, hF2, hok2, hS⟩ := hq
 by_cases hk : (QY x.h a).k ≠ 2 ∨ (QY x.h (a + 1)).k ≠ 2
 ·rw [if_pos hk, show QgB x.h a = .tuple #[.int .i64 0, .int .i64 0, .bool false] from if_pos hk]
  refine Zaf ?_
  refine Zau ?_
  refine ZaA ?_
  refine Zbl ?_
  refine Zj ?_
  refine Qc Tryz.func97 rfl Yb ?_
  exact ⟨rfl, d2, F2, hF2, hok2, hS⟩
 ·rw [if_neg hk, show QgB x.h a = .tuple #[.int .i64 (QY x.h a).n, .int .i64 (QY x.h (a + 1)).n, .bool true] from if_neg hk]
  by_cases hlt : (QY x.h (a + 1)).n ≤ (QY x.h a).n
  ·rw [if_pos hlt]
   refine Zaf ?_
   refine Zau ?_
   refine ZaA ?_
   refine Zca ?_
   refine Ze ?_
   refine ZW ?_
   refine ZC ?_
   refine ZG ?_
   refine Calls.mono (Qec _ _ hbd ⟨d2, F2, hF2, hok2, hS⟩) ?_
   rintro _ w4 ⟨rfl, hq⟩
   refine ZH ?_
   refine Qc Tryz.func97 rfl Yb ?_
   exact ⟨rfl, hq⟩
  ·rw [if_neg hlt]
   refine Zaf ?_
   refine Zau ?_
   refine ZaA ?_
   refine Zca ?_
   refine Ze ?_
   refine ZW ?_
   refine Zq ?_
   refine Zj ?_
   refine Qc Tryz.func97 rfl Yb ?_
   exact ⟨rfl, d2, F2, hF2, hok2, hS⟩
end
section
variable {M : List Nat} {w0 : World} {H : List (Nat × Obj)} {F0 : List (World → Prop)} {b : Nat} {P : List LB} {pA : Option Addr} {pc vars fuel every : Nat}
theorem Qsx (x : XS) (a : Int) (w : World) (hbd : XBd x) (ha : 0 ≤ a ∧ a ≤ 1099511627776) (hl : QgC x.h a) (hl1 : QgC x.h (a + 1)) (hlen : x.h.cs.length ≤ 65536) (hs : XSt M w0 H F0 b P pA pc vars fuel every x w) :
  Calls Tryz.prog 98 #[ptm b, .int .i64 a] w fun e w' => e = .returned (.int .i64 (Quw a x).1) ∧ XSt M w0 H F0 b P pA pc vars fuel every (Quw a x).2 w' := by
 obtain ⟨d, F, hFF, hok, hS⟩ := hs
 obtain ⟨hA, hc, hB, hd, LA, lc, O1, cs, CA, cc, O2, evs, EA, ec, O3⟩ := d
 have hn := hl.n
 have hn1 := hl1.n
 have hu : Quw a x = if (QY x.h a).k ≠ 2 ∨ (QY x.h (a + 1)).k ≠ 2 then (5, x)
  else if (QY x.h a).n + (QY x.h (a + 1)).n < -1099511627776 ∨ 1099511627776 < (QY x.h a).n + (QY x.h (a + 1)).n then (5, x)
  else Qfw (a + 2) (Q3 x.h [⟨2, (QY x.h a).n + (QY x.h (a + 1)).n, eS⟩]).2.1 (x.setH (Q3 x.h [⟨2, (QY x.h a).n + (QY x.h (a + 1)).n, eS⟩]).1) := rfl
 rw [hu]
 refine Qg Tryz.func98 rfl Tryz.ntmps98 rfl ?_
 refine Zj ?_
 refine Zac ?_
 refine Zf5 ?_
 rintro _ w3 ⟨rfl, hq⟩
 refine Za ?_
 clear hS hok hFF
 obtain ⟨d2, F2, hF2, hok2, hS⟩ := hq
 generalize hna : (QY x.h a).n = na at *
 generalize hnb : (QY x.h (a + 1)).n = nb at *
 by_cases hk : (QY x.h a).k ≠ 2 ∨ (QY x.h (a + 1)).k ≠ 2
 ·rw [if_pos hk, show QgB x.h a = .tuple #[.int .i64 0, .int .i64 0, .bool false] from if_pos hk]
  refine Zaf ?_
  refine Zba ?_
  refine Zbs ?_
  refine ZA ?_
  refine Zah ?_
  refine Zaq ?_
  refine Zat ?_
  refine Zbc ?_
  refine Zew ?_
  exact ⟨rfl, d2, F2, hF2, hok2, hS⟩
 ·rw [if_neg hk, show QgB x.h a = .tuple #[.int .i64 na, .int .i64 nb, .bool true] by unfold QgB; rw [if_neg hk, hna, hnb]]
  by_cases hlt : na + nb < -1099511627776
  ·rw [if_pos (.inl hlt)]
   refine Zaf ?_
   refine Zba ?_
   refine Zbs ?_
   refine ZA ?_
   refine Zda ?_
   refine Zr ?_
   refine Zat ?_
   refine Zbc ?_
   refine Zew ?_
   exact ⟨rfl, d2, F2, hF2, hok2, hS⟩
  ·by_cases hgt : 1099511627776 < na + nb
   ·rw [if_pos (.inr hgt)]
    refine Zaf ?_
    refine Zba ?_
    refine Zbs ?_
    refine ZA ?_
    refine Zda ?_
    refine Zr ?_
    refine Zbb ?_
    refine ZP ?_
    refine Zbc ?_
    refine Zew ?_
    exact ⟨rfl, d2, F2, hF2, hok2, hS⟩
   ·rw [if_neg Ya]
    refine Zaf ?_
    refine Zba ?_
    refine Zbs ?_
    refine ZA ?_
    refine Zda ?_
    refine Zr ?_
    refine Zbb ?_
    refine ZP ?_
    refine Z8 ?_
    refine Zbs ?_
    refine Za2 ?_
    refine Zes ?_
    refine ZcI ?_
    clear hS
    intro b1 wx1 hS
    replace hS := St.freeze hS
    have hK : Und ((fun w => w.heap[b1]? = some (.cells [.int .i64 2, .int .i64 (na + nb), .string eS].toArray 104)) :: F2) (Qz 3 (Q6 [⟨2, na + nb, eS⟩]) (some ⟨b1, 0, none⟩) 1 1) := by
     intro w' hw
     refine ⟨rfl, Nat.le_refl _, fun _ => ⟨b1, 0, rfl, fun j v hj => ?_⟩⟩
     rw [Qu (hw _ (.head _)), Nat.zero_add]; exact hj
    refine Zf ?_
    refine Calls.mono (Qli (F0 := _ :: F2) x [⟨2, na + nb, eS⟩] (some ⟨b1, 0, none⟩) 1 _ hK ⟨d2, _, fun _ h => h, hok2.mono (fun φ h => .tail _ h), hS⟩) ?_
    rintro _ w5 ⟨rfl, hq⟩
    refine Za ?_
    clear hS
    replace hq := hq.weaken (F0 := F0) fun φ h => .tail _ (hF2 φ h)
    obtain ⟨d3, F3, hF3, hok3, hS⟩ := hq
    have hb3 := hbd.setH (Q3 x.h [⟨2, na + nb, eS⟩]).1
    refine Zai ?_
    refine Calls.mono (Qi9 (x.setH (Q3 x.h [⟨2, na + nb, eS⟩]).1) (a + 2) ((Q3 x.h [⟨2, na + nb, eS⟩]).2.1 : Nat) _ hb3 ⟨d3, F3, hF3, hok3, hS⟩) ?_
    rintro _ w6 ⟨rfl, hq⟩
    refine ZH ?_
    refine Zew ?_
    exact ⟨rfl, hq⟩
end
end Go.Proofs.YthliapbflkfdiacGreatDoor
