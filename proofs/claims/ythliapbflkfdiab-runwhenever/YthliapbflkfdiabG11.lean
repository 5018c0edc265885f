/- HWalk12, HWalk4: texts that follow one another, laid into one file. -/
import Derived.Test.YthliapbflkfdiabZ0
import Derived.Test.YthliapbflkfdiabG10
import Derived.Test.YthliapbflkfdiabG5
import Derived.Test.YthliapbflkfdiabG9
import Derived.Test.YthliapbflkfdiabG1
import Derived.Test.YthliapbflkfdiabG0
namespace Go.Proofs.Ythliapbflkfdiab
open Go.RowKit
set_option linter.unusedVariables false
set_option linter.unusedSimpArgs false
set_option maxRecDepth 100000
set_option maxHeartbeats 1000000
theorem markAt_get {M : List Bool} {x : Int} {v : Bool} (h : M[x.toNat]? = some v) : markAt M x = v := by
 unfold markAt; rw [h]; cases v <;> simp
section
variable {M : List Nat} {w0 : World} {H : List (Nat × Obj)} {F : List (World → Prop)}
theorem St.freezeB {P : List Bool} {g : Nat} {w : World} (hS : St M w0 ((g, bbob P) :: H) F w) : St M w0 H (Flat 1 (boolsV P) (some ⟨g, 0, none⟩) P.length P.length :: F) w := by
 have ho := hS.own (g, _) (.head _)
 refine hS.drop.learn fun w' hw => Flat.own (sp := []) (el := 4) ?_ (boolsV_len P) (Nat.le_refl _)
 rw [hw.block g (own_lt ho) fun hm => ?_, List.append_nil]
 ·exact ho
 ·obtain ⟨p, hp, e⟩ := List.mem_map.1 hm
  exact (List.pairwise_cons.1 hS.apart).1 p hp e.symm
theorem marks_good (h : HH) (R : List Int) (A B RA : Option Addr) (c d rc : Nat) (w : World) (hg : goodH h = true) (hH : Und F (HFl h A c B d)) (hR : Und F (Flat 1 (intsV R) RA R.length rc)) (hRl : R.length ≤ 9223372036854775807) (hS : St M w0 H F w) :
  Calls Try.prog 27 #[hv h A c B d, .slice RA R.length rc] w fun e w' => ∃ (A' : Option Addr) (c' : Nat) (F' : List (World → Prop)), e = .returned (.tuple #[.slice A' (marksM h.cs R).length c', .int .i64 0]) ∧ (∀ φ ∈ F, φ ∈ F') ∧ Und F' (Flat 1 (boolsV (marksM h.cs R)) A' (marksM h.cs R).length c') ∧ St M w0 H F' w' := by
 have := marks_any h R A B RA c d rc w hH hR hRl hS
 rw [show marksH h R = (marksM h.cs R, 0) by unfold marksH; rw [if_neg (by rw [hg]; decide)]] at this
 exact this
theorem marks_bad (h : HH) (R : List Int) (A B RA : Option Addr) (c d rc : Nat) (w : World) (hg : goodH h = false) (hH : Und F (HFl h A c B d)) (hR : Und F (Flat 1 (intsV R) RA R.length rc)) (hRl : R.length ≤ 9223372036854775807) (hS : St M w0 H F w) :
  Calls Try.prog 27 #[hv h A c B d, .slice RA R.length rc] w fun e w' => ∃ (A' : Option Addr) (c' : Nat) (F' : List (World → Prop)), e = .returned (.tuple #[.slice A' 0 c', .int .i64 1]) ∧ (∀ φ ∈ F, φ ∈ F') ∧ St M w0 H F' w' := by
 have := marks_any h R A B RA c d rc w hH hR hRl hS
 rw [show marksH h R = ([], 1) by unfold marksH; rw [if_pos hg]] at this
 exact this.mono fun e w' ⟨A', c', F', h1, h2, _, h4⟩ => ⟨A', c', F', h1, h2, h4⟩
theorem sums_n (Mk : List Bool) (n : Nat) (hn : Mk.length = n) (A : Option Addr) (c : Nat) (w : World) (hM : Und F (Flat 1 (boolsV Mk) A n c)) (hl : n ≤ 1048576) (hS : St M w0 H F w) :
  Calls Try.prog 60 #[.slice A n c] w fun e w' => ∃ (A' : Option Addr) (c' : Nat) (F' : List (World → Prop)), e = .returned (.slice A' (n + 1) c') ∧ (∀ φ ∈ F, φ ∈ F') ∧ Und F' (Flat 1 (intsV (sumsM Mk)) A' (sumsM Mk).length c') ∧ St M w0 H F' w' := by
 subst hn; exact sums_any Mk A c w hM hl hS
theorem keepTrail_n (T : List Int) (N Mk : List Bool) (n : Nat) (hn : N.length = n) (A B S : Option Addr) (c d e : Nat) (w : World) (hT : Und F (Flat 1 (intsV T) A T.length c)) (hM : Und F (Flat 1 (boolsV N) B n d)) (hs : Und F (Flat 1 (intsV (sumsM Mk)) S (sumsM Mk).length e)) (hg : ∀ a ∈ T, 0 ≤ a ∧ a < Mk.length) (hl : T.length ≤ 65536) (hml : n = T.length) (hS : St M w0 H F w) :
  Calls Try.prog 62 #[.slice A T.length c, .slice B n d, .slice S (Mk.length + 1) e] w fun e w' => ∃ (A' : Option Addr) (c' : Nat) (F' : List (World → Prop)), e = .returned (.slice A' ((kept T N).map (rkI Mk)).length c') ∧ (∀ φ ∈ F, φ ∈ F') ∧ Und F' (Flat 1 (intsV ((kept T N).map (rkI Mk))) A' ((kept T N).map (rkI Mk)).length c') ∧ St M w0 H F' w' := by
 subst hn; exact keepTrail_any T N Mk A B S c d e w hT hM hs hg hl hml hS
theorem counts_n (Mk : List Bool) (n : Nat) (hn : Mk.length = n) (I : List Int) (A B : Option Addr) (c d : Nat) (w : World) (hM : Und F (Flat 1 (intsV (sumsM Mk)) A (sumsM Mk).length c)) (hI : Und F (Flat 1 (intsV I) B I.length d)) (hl : n ≤ 1048576) (hl2 : I.length ≤ 1048576) (hS : St M w0 H F w) :
  Calls Try.prog 63 #[.slice A (n + 1) c, .slice B I.length d] w fun e w' => ∃ (A' : Option Addr) (c' : Nat) (F' : List (World → Prop)), e = .returned (.slice A' (I.map (rkI Mk)).length c') ∧ (∀ φ ∈ F, φ ∈ F') ∧ Und F' (Flat 1 (intsV (I.map (rkI Mk))) A' (I.map (rkI Mk)).length c') ∧ St M w0 H F' w' := by
 subst hn; exact counts_any Mk I A B c d w hM hI hl hl2 hS
def CRes (M : List Nat) (w0 : World) (H : List (Nat × Obj)) (F : List (World → Prop)) (r : HH × List Int × List Int × List Int × Int) (e : Ending) (w' : World) : Prop :=
 ∃ (A' : Option Addr) (c' : Nat) (B' : Option Addr) (d' : Nat) (a1 a2 a3 : Option Addr) (c1 c2 c3 : Nat) (F' : List (World → Prop)),
  e = .returned (.tuple #[hv r.1 A' c' B' d', .slice a1 r.2.1.length c1, .slice a2 r.2.2.1.length c2, .slice a3 r.2.2.2.1.length c3, .int .i64 r.2.2.2.2]) ∧ (∀ φ ∈ F, φ ∈ F') ∧ Und F' (HFl r.1 A' c' B' d') ∧ Und F' (Flat 1 (intsV r.2.1) a1 r.2.1.length c1) ∧ Und F' (Flat 1 (intsV r.2.2.1) a2 r.2.2.1.length c2) ∧ Und F' (Flat 1 (intsV r.2.2.2.1) a3 r.2.2.2.1.length c3) ∧ St M w0 H F' w'
theorem collect_any (h : HH) (R T K : List Int) (A B RA TA KA : Option Addr) (c d rc tc kc : Nat) (w : World) (hH : Und F (HFl h A c B d)) (hR : Und F (Flat 1 (intsV R) RA R.length rc)) (hT : Und F (Flat 1 (intsV T) TA T.length tc)) (hK : Und F (Flat 1 (intsV K) KA K.length kc)) (hRl : R.length ≤ 1048576) (hTl : T.length ≤ 1048576) (hKl : K.length ≤ 1048576) (hS : St M w0 H F w) :
  Calls Try.prog 29 #[hv h A c B d, .slice RA R.length rc, .slice TA T.length tc, .slice KA K.length kc] w (CRes M w0 H F (collectH h R T K)) := by
 refine goes_enter4 Try.func29 rfl Try.ntmps29 rfl ?_
 refine Ze ?_
 clear hS
 intro b1 wx1 hS
 refine ZaR ?_
 clear hS
 intro b2 wx2 hS
 refine Zap ?_
 refine Zci ?_
 refine Zd ?_
 refine Z0 ?_
 refine Zg ?_
 cases hg : goodH h with
 | false =>
  have e0 : collectH h R T K = (h, [], [], [], 1) := by unfold collectH; rw [if_pos hg]
  rw [e0]
  refine Zj ?_
  refine Calls.mono (marks_bad h R A B RA c d rc _ hg hH hR (by omega) hS) ?_
  rintro _ w2 ⟨A2, c2, F2, rfl, hF2, hS'⟩
  refine Za ?_
  replace hS := hS'
  clear hS'
  refine Zaf ?_
  refine Zby ?_
  refine ZbW ?_
  refine Z0 ?_
  refine Zg ?_
  refine Zb ?_
  clear hS
  intro wx3 hS
  refine Zap ?_
  refine Zci ?_
  refine ZdK ?_
  exact ⟨A, c, B, d, none, none, none, 0, 0, 0, F2, rfl, hF2, hH.mono hF2, fun w _ => Flat.nil_ _ _ _, fun w _ => Flat.nil_ _ _ _, fun w _ => Flat.nil_ _ _ _, hS.drop.drop⟩
 | true =>
 obtain ⟨hl1, hl2⟩ := good_len hg
 have hgl : goodL h.cs.length h.cs = true := by
  unfold goodH goodCs at hg
  simp only [Bool.and_eq_true] at hg
  exact hg.1.2
 have hml : (marksM h.cs R).length = h.cs.length := (marksM_of h.cs R).1
 have htr : ∀ a ∈ h.tr, 0 ≤ a ∧ a < h.cs.length := fun a ha => by
  obtain ⟨x, hx, _⟩ := tr_good hg ha
  have := hatS.1 hx
  exact ⟨this.1, this.2.1⟩
 have e0 : collectH h R T K = if R.all (isAddr h.cs) = false then (h, [], [], [], 4)
  else (⟨collL (marksM h.cs R) h.cs, collT (marksM h.cs R) h.tr⟩, R.map (rkI (marksM h.cs R)), T.map (rkI (marksM h.cs R)), K.map (rkI (h.tr.map (markAt (marksM h.cs R)))), 0) := by unfold collectH; rw [if_neg (by rw [hg]; decide)]
 rw [e0]
 clear e0
 refine Zj ?_
 refine Calls.mono (marks_good h R A B RA c d rc _ hg hH hR (by omega) hS) ?_
 rintro _ w2 ⟨A2, c2, F2, rfl, hF2, hM2, hS'⟩
 refine Za ?_
 replace hS := hS'
 clear hS'
 generalize marksM h.cs R = Mk at *
 have hH2 := hH.mono hF2
 have hR2 := hR.mono hF2
 refine Zaf ?_
 refine Zby ?_
 refine ZaK ?_
 refine ZJ ?_
 refine goes_loop1 35 (36 :: 37 :: 38 :: 16 :: 39 :: 40 :: 41 :: 42 :: 43 :: 9 :: 10 :: 11 :: 12 :: 44 :: []) (fun (Q : List Int) v w' => ∃ (D : List Int), R = D ++ Q ∧ v = .int .i64 (D.length : Nat) ∧ (∀ r ∈ D, isAddr h.cs r = true) ∧ St M w0 ((b2, hob none 0 0 none 0 0) :: (b1, hob A h.cs.length c B h.tr.length d) :: H) F2 w') (fun Q => Q.length) (R) ?_ (by conv=>lhs;whnf) ?_
 ·exact ⟨[], rfl, rfl, fun r hr => by simp at hr, hS⟩
 clear hS
 rintro Q _ w4 jv ⟨D, hD, rfl, hrt, hS⟩ ih
 have hlen : R.length = D.length + Q.length := by rw [hD]; simp
 cases Q with
 | cons x Q =>
  simp only [List.length_cons] at hlen
  have hxi : R[D.length]? = some x := by rw [hD]; simp
  obtain ⟨bt, ot, rfl⟩ := (hS.und hR2).some_ (by omega)
  have hct : ∀ {H'} w', St M w0 H' F2 w' → w'.cell? ⟨bt, ot + ((D.length : Nat) : Int).toNat * 1, none⟩ = some (.int .i64 x) := fun w' hS => by
   have := (hS.und hR2).int hxi
   rw [show ((D.length : Nat) : Int).toNat = D.length by omega]; exact this
  refine ZaZ ?_
  refine ZaF ?_
  refine Zbt ?_
  refine ZbH ?_
  refine Zab ?_
  refine Calls.mono (address_any h.cs.length c A B h.tr.length d x _) ?_
  rintro _ w5 ⟨rfl, hb5⟩
  refine Za ?_
  replace hS := hS.grow hb5
  cases hx : isAddr h.cs x with
  | false =>
   rw [show (decide (0 ≤ x) && decide (x < (h.cs.length : Nat))) = false from hx]
   rw [if_pos (by rw [List.all_eq_false]; exact ⟨x, by rw [hD]; simp, by rw [hx]; decide⟩)]
   refine Zav ?_
   refine Zcj ?_
   clear hS
   intro wx3 hS
   refine Zap ?_
   refine Zci ?_
   refine ZdK ?_
   exact ⟨A, c, B, d, none, none, none, 0, 0, 0, F2, rfl, hF2, hH2, fun w _ => Flat.nil_ _ _ _, fun w _ => Flat.nil_ _ _ _, fun w _ => Flat.nil_ _ _ _, hS.drop.drop⟩
  | true =>
   rw [show (decide (0 ≤ x) && decide (x < (h.cs.length : Nat))) = true from hx]
   refine Zam ?_
   refine ZbV ?_
   refine ih (Q) _ _ _ ?_ ?_ (by conv=>lhs;whnf) (by kernel_rfl)
   ·simp
   ·refine ⟨D ++ [x], by rw [hD]; simp, by simp, fun r hr => ?_, hS⟩
    rcases List.mem_append.1 hr with hr | hr
    ·exact hrt r hr
    ·rw [List.mem_singleton.1 hr]; exact hx
 | nil =>
  simp only [List.length_nil] at hlen
  have hRD : R = D := by simpa using hD
  rw [← hRD] at hrt
  rw [if_neg (by rw [show R.all (isAddr h.cs) = true from List.all_eq_true.2 hrt]; decide)]
  clear hD
  have hTr : Und F2 (Flat 1 (intsV h.tr) B h.tr.length d) := hH2.imp fun _ h => h.2
  have hCs : Und F2 (Flat 3 (hcsL h.cs) A h.cs.length c) := hH2.imp fun _ h => h.1
  refine ZI ?_
  refine Zak ?_
  refine ZaF ?_
  refine Zz ?_
  refine lst_makeZ (k := h.tr.length) (bts := 1) (z := .bool false) hS (by conv=>lhs;whnf) (by conv=>lhs;whnf) rfl rfl rfl rfl (by omega) (by omega) rfl ?_
  clear hS
  intro kb w3 hS
  rw [show List.replicate h.tr.length (Value.bool false) = boolsV (List.replicate h.tr.length false) by simp [boolsV]] at hS
  refine ZN ?_
  refine Zak ?_
  refine ZaF ?_
  refine ZJ ?_
  refine goes_loop1 52 (53 :: 54 :: 55 :: 56 :: 18 :: 19 :: 57 :: 58 :: 59 :: 60 :: 61 :: 62 :: 63 :: 64 :: []) (fun (Q : List Int) v w' => ∃ (E : List Int) (P : List Bool), h.tr = E ++ Q ∧ v = .int .i64 (E.length : Nat) ∧ P.length = h.tr.length ∧ (∀ (q : Nat) (x : Int), q < E.length → h.tr[q]? = some x → P[q]? = some (markAt Mk x)) ∧ St M w0 ((kb, bbob P) :: (b2, hob none 0 0 none 0 0) :: (b1, hob A h.cs.length c B h.tr.length d) :: H) F2 w') (fun Q => Q.length) (h.tr) ?_ (by conv=>lhs;whnf) ?_
  ·exact ⟨[], List.replicate h.tr.length false, rfl, rfl, by simp, fun q x hq => by simp at hq, hS⟩
  clear hS
  rintro Q _ w5 jv2 ⟨E, P, hE, rfl, hPl, hP, hS⟩ ih2
  have hlen2 : h.tr.length = E.length + Q.length := by rw [hE]; simp
  cases Q with
  | cons x Q =>
   simp only [List.length_cons] at hlen2
   have hxi : h.tr[E.length]? = some x := by rw [hE]; simp
   obtain ⟨hx0, hx1⟩ := htr x (List.mem_of_getElem? hxi)
   obtain ⟨v, hv⟩ : ∃ v, Mk[x.toNat]? = some v := ⟨Mk[x.toNat]'(by omega), List.getElem?_eq_getElem _⟩
   have hvm := markAt_get hv
   obtain ⟨bt, ot, rfl⟩ := (hS.und hTr).some_ (by omega)
   obtain ⟨bm, om, rfl⟩ := (hS.und hM2).some_ (by omega)
   have hct : ∀ {H'} w', St M w0 H' F2 w' → w'.cell? ⟨bt, ot + ((E.length : Nat) : Int).toNat * 1, none⟩ = some (.int .i64 x) := fun w' hS => by
    have := (hS.und hTr).int hxi
    rw [show ((E.length : Nat) : Int).toNat = E.length by omega]; exact this
   have hcm : ∀ {H'} w', St M w0 H' F2 w' → w'.cell? ⟨bm, om + x.toNat * 1, none⟩ = some (.bool v) := fun w' hS => (hS.und hM2).bool hv
   have hput := boolsV_put P E.length v (by omega)
   refine Zbw ?_
   refine Zei ?_
   refine Zv ?_
   refine ZY ?_
   refine ZO ?_
   refine Zw ?_
   refine Zei ?_
   refine Zw ?_
   refine lst_store1 hS rfl (by conv=>lhs;whnf) rfl rfl .head (by rw [show ((E.length : Nat) : Int).toNat = E.length by omega, Nat.zero_add, Nat.mul_one]; exact hput) .head ?_
   clear hS
   intro w6 hS
   refine Zah ?_
   refine ih2 Q _ _ _ ?_ ?_ (by conv=>lhs;whnf) (by kernel_rfl)
   ·simp
   ·refine ⟨E ++ [x], _, by rw [hE]; simp, by simp, by simpa using hPl, fun q y hq hy => ?_, hS⟩
    rw [List.length_append] at hq
    simp only [List.length_cons, List.length_nil] at hq
    rw [List.getElem?_set]
    split
    ·rename_i e
     rw [if_pos (by omega)]
     rw [← e, hxi] at hy
     rw [← Option.some.inj hy, hvm]
    ·exact hP q y (by omega) hy
  | nil =>
   simp only [List.length_nil] at hlen2
   have hPe : P = h.tr.map (markAt Mk) := by
    refine List.ext_getElem? fun q => ?_
    rw [List.getElem?_map]
    cases hq : h.tr[q]? with
    | none =>
     have : h.tr.length ≤ q := by
      rcases Nat.lt_or_ge q h.tr.length with g | g
      ·rw [List.getElem?_eq_getElem g] at hq; cases hq
      ·exact g
     rw [List.getElem?_eq_none (by omega)]; rfl
    | some x =>
     have : q < h.tr.length := by
      rcases Nat.lt_or_ge q h.tr.length with g | g
      ·exact g
      ·rw [List.getElem?_eq_none g] at hq; cases hq
     rw [hP q x (by omega) hq]; rfl
   replace hS := St.freezeB hS
   rw [hPe] at hS
   have hNl : (h.tr.map (markAt Mk)).length = h.tr.length := by simp
   have hN : Und (Flat 1 (boolsV (h.tr.map (markAt Mk))) (some ⟨kb, 0, none⟩) (h.tr.map (markAt Mk)).length (h.tr.map (markAt Mk)).length :: F2) (Flat 1 (boolsV (h.tr.map (markAt Mk))) (some ⟨kb, 0, none⟩) (h.tr.map (markAt Mk)).length (h.tr.map (markAt Mk)).length) := Und.head
   have hFa : ∀ φ ∈ F2, φ ∈ (Flat 1 (boolsV (h.tr.map (markAt Mk))) (some ⟨kb, 0, none⟩) (h.tr.map (markAt Mk)).length (h.tr.map (markAt Mk)).length :: F2) := fun φ h => .tail _ h
   generalize (Flat 1 (boolsV (h.tr.map (markAt Mk))) (some ⟨kb, 0, none⟩) (h.tr.map (markAt Mk)).length (h.tr.map (markAt Mk)).length :: F2) = F3 at *
   rw [show collT Mk h.tr = (kept h.tr (h.tr.map (markAt Mk))).map (rkI Mk) from rfl]
   rw [hNl] at hN
   generalize hNg : h.tr.map (markAt Mk) = N at *
   refine ZI ?_
   refine ZaO ?_
   refine Calls.mono (sums_any Mk A2 c2 _ (hM2.mono hFa) (by omega) hS) ?_
   rintro _ w6 ⟨A6, c6, F6, rfl, hF6, hS6, hS'⟩
   refine Za ?_
   replace hS := hS'
   clear hS'
   refine Zg ?_
   refine Zp ?_
   refine Calls.mono (sums_n N h.tr.length hNl _ _ _ (hN.mono hF6) (by omega) hS) ?_
   rintro _ w7 ⟨A7, c7, F7, rfl, hF7, hS7, hS'⟩
   refine Za ?_
   replace hS := hS'
   clear hS'
   have hF27 : ∀ φ ∈ F2, φ ∈ F7 := fun φ h => hF7 φ (hF6 φ (hFa φ h))
   have hS6' := hS6.mono hF7
   refine ZaN ?_
   refine goes_meet1 22 (69 :: 70 :: 71 :: 72 :: 73 :: 74 :: 75 :: 76 :: 77 :: 78 :: 79 :: []) (fun v w' => ∃ b3 A8 c8 A9 c9 F9, v = .pointer (some ⟨b3, 0, none⟩) ∧ (∀ φ ∈ F7, φ ∈ F9) ∧ Und F9 (Flat 3 (hcsL (collL Mk h.cs)) A8 (collL Mk h.cs).length c8) ∧ Und F9 (Flat 1 (intsV ((kept h.tr N).map (rkI Mk))) A9 ((kept h.tr N).map (rkI Mk)).length c9) ∧ St M w0 ((b3, hob A8 (collL Mk h.cs).length c8 A9 ((kept h.tr N).map (rkI Mk)).length c9) :: (b2, hob none 0 0 none 0 0) :: (b1, hob A h.cs.length c B h.tr.length d) :: H) F9 w') ?_ ?_
   ·intro hmeet
    refine goes_plan (St _ _ _ _) 12 (.read 0 (.read 1 (.read 2 (.read 3 (.read 5 (.read 6 (.read 7 (.read 8 (.pick 4 (.pick 9 (.read 10 (.pick 11 .tail .none)) (.pick 11 (.pick 9 (.read 10 .tail) .none) .none)) (.pick 11 (.pick 4 (.pick 9 (.read 10 .tail) .none) .none) .none)))))))))) (by kernel_rfl) (by kernel_rfl) hS.drew ?_
    replace hS := hS.drew
    refine ZbL ?_
    refine Zej ?_
    refine Zax ?_
    refine Zax ?_
    refine ZdL ?_
    refine Zej ?_
    refine Zax ?_
    refine Zax ?_
    refine pln_pick rfl ?_ ?_
    ·refine Z1 ?_
     refine Zek ?_
     rintro _ w8 ⟨A8, c8, F8, rfl, hF8, hC8, hS'⟩
     refine Za ?_
     replace hS := hS'
     clear hS'
     refine Za4 ?_
     refine pln_pick rfl ?_ ?_
     ·refine Z1 ?_
      refine ZdM ?_
      rintro _ w9 ⟨A9, c9, F9, rfl, hF9, hC9, hS'⟩
      refine Za ?_
      replace hS := hS'
      clear hS'
      refine Za4 ?_
      refine ZbM ?_
      refine Za0 ?_
      clear hS
      intro b3 wx3 hS
      refine Za4 ?_
      refine pln_tail ?_
      refine Zb ?_
      clear hS
      intro wx4 hS
      refine Zc ?_
      exact hmeet _ _ _ ⟨_, A8, c8, A9, c9, F9, rfl, fun φ h => hF9 φ (hF8 φ h), hC8.mono hF9, hC9, hS⟩ (by conv=>lhs;whnf) (by kernel_rfl)
     refine Za0 ?_
     clear hS
     intro b4 wx5 hS
     refine Za4 ?_
     refine Z7 ?_
     refine Z1 ?_
     refine ZdM ?_
     rintro _ w9 ⟨A9, c9, F9, rfl, hF9, hC9, hS'⟩
     refine Za ?_
     replace hS := hS'
     clear hS'
     refine Za4 ?_
     refine ZbM ?_
     refine pln_tail ?_
     refine Zb ?_
     clear hS
     intro wx6 hS
     refine Zc ?_
     exact hmeet _ _ _ ⟨_, A8, c8, A9, c9, F9, rfl, fun φ h => hF9 φ (hF8 φ h), hC8.mono hF9, hC9, hS⟩ (by conv=>lhs;whnf) (by kernel_rfl)
    refine Za0 ?_
    clear hS
    intro b5 wx7 hS
    refine Za4 ?_
    refine Z7 ?_
    refine Z1 ?_
    refine Zek ?_
    rintro _ w8 ⟨A8, c8, F8, rfl, hF8, hC8, hS'⟩
    refine Za ?_
    replace hS := hS'
    clear hS'
    refine Za4 ?_
    refine Z7 ?_
    refine Z1 ?_
    refine ZdM ?_
    rintro _ w9 ⟨A9, c9, F9, rfl, hF9, hC9, hS'⟩
    refine Za ?_
    replace hS := hS'
    clear hS'
    refine Za4 ?_
    refine ZbM ?_
    refine pln_tail ?_
    refine Zb ?_
    clear hS
    intro wx8 hS
    refine Zc ?_
    exact hmeet _ _ _ ⟨_, A8, c8, A9, c9, F9, rfl, fun φ h => hF9 φ (hF8 φ h), hC8.mono hF9, hC9, hS⟩ (by conv=>lhs;whnf) (by kernel_rfl)
   clear hS
   rintro jv3 _ w9 ⟨b3, A8, c8, A9, c9, F9, rfl, hF9, hC8, hC9, hS⟩
   have hF29 : ∀ φ ∈ F2, φ ∈ F9 := fun φ h => hF9 φ (hF27 φ h)
   refine Zs ?_
   refine goes_draw (St _ w0 [_] []) 15 ((0, true) :: (1, true) :: (2, true) :: (4, true) :: (5, true) :: (7, true) :: (8, true) :: (3, false) :: (6, false) :: (9, false) :: (10, false) :: (11, true) :: (12, true) :: (13, true) :: (14, true) :: []) (by kernel_rfl) (by kernel_rfl) (hS.drew.bare1) ?_
   replace hS := hS.drew
   first
    | refine ord_read rfl (fun _ hS => run_loadN_own (k := 2) hS rfl rfl rfl (by first | exact .head | exact .tail .head | exact .tail (.tail .head) | exact .tail (.tail (.tail .head)) | exact .tail (.tail (.tail (.tail .head))) | exact .tail (.tail (.tail (.tail (.tail .head))))) (by repeat constructor)) rfl ?_
    | refine ord_read rfl (fun _ hS => run_loadN_own (k := 2) hS rfl rfl rfl (by first | exact .head | exact .tail .head | exact .tail (.tail .head) | exact .tail (.tail (.tail .head)) | exact .tail (.tail (.tail (.tail .head))) | exact .tail (.tail (.tail (.tail (.tail .head))))) (by assumption)) rfl ?_
    | refine ord_read rfl (fun _ hS => run_load2 rfl rfl rfl (by first | assumption | exact hct _ hS | exact hcm _ hS | exact hS.cell0 (by assumption)) (by first | assumption | exact hct _ hS | exact hcm _ hS | exact hS.cell0 (by assumption))) rfl ?_
   refine ZaB ?_
   refine ZaB ?_
   refine ZaB ?_
   refine ZM ?_
   refine Zj ?_
   refine Calls.mono (counts_any Mk R A6 RA c6 rc _ (hS6'.mono hF9) (hR2.mono hF29) (by omega) hRl hS) ?_
   rintro _ w10 ⟨A10, c10, F10, rfl, hF10, hC10, hS'⟩
   refine Za ?_
   replace hS := hS'
   clear hS'
   refine Za5 ?_
   refine ZM ?_
   refine Zj ?_
   refine Calls.mono (counts_any Mk T A6 TA c6 tc _ ((hS6'.mono hF9).mono hF10) (hT.mono fun φ h => hF10 φ (hF29 φ (hF2 φ h))) (by omega) hTl hS) ?_
   rintro _ w11 ⟨A11, c11, F11, rfl, hF11, hC11, hS'⟩
   refine Za ?_
   replace hS := hS'
   clear hS'
   refine Za5 ?_
   refine ZM ?_
   refine Zj ?_
   refine Calls.mono (counts_n N h.tr.length hNl K A7 KA c7 kc _ (hS7.mono fun φ h => hF11 φ (hF10 φ (hF9 φ h))) (hK.mono fun φ h => hF11 φ (hF10 φ (hF29 φ (hF2 φ h)))) (by omega) hKl hS) ?_
   rintro _ w12 ⟨A12, c12, F12, rfl, hF12, hC12, hS'⟩
   refine Za ?_
   replace hS := hS'
   clear hS'
   refine Za5 ?_
   refine ZM ?_
   refine Zb ?_
   clear hS
   intro wx9 hS
   refine Za5 ?_
   refine Zay ?_
   refine Zay ?_
   refine Zay ?_
   refine Zay ?_
   refine Zck ?_
   refine ZdK ?_
   refine ⟨A8, c8, A9, c9, A10, A11, A12, c10, c11, c12, F12, rfl, fun φ h => hF12 φ (hF11 φ (hF10 φ (hF29 φ (hF2 φ h)))), ?_, hC10.mono (fun φ h => hF12 φ (hF11 φ h)), hC11.mono hF12, hC12, hS.drop.drop.drop⟩
   exact fun w' hw => ⟨(hC8.mono fun φ h => hF12 φ (hF11 φ (hF10 φ h))) w' hw, (hC9.mono fun φ h => hF12 φ (hF11 φ (hF10 φ h))) w' hw⟩
end
end Go.Proofs.Ythliapbflkfdiab
namespace Go.Proofs.Ythliapbflkfdiab
open Go.RowKit
set_option linter.unusedVariables false
set_option linter.unusedSimpArgs false
set_option maxRecDepth 100000
set_option maxHeartbeats 1000000
section
variable {M : List Nat} {w0 : World} {H : List (Nat × Obj)} {F : List (World → Prop)}
def HRes (M : List Nat) (w0 : World) (H : List (Nat × Obj)) (F : List (World → Prop)) (h : HH) (k : Option Addr → Nat → Option Addr → Nat → Ending → Prop) (e : Ending) (w : World) : Prop :=
 ∃ (A : Option Addr) (c : Nat) (B : Option Addr) (d : Nat) (F' : List (World → Prop)), k A c B d e ∧ (∀ φ ∈ F, φ ∈ F') ∧ Und F' (HFl h A c B d) ∧ St M w0 H F' w
theorem load_any (h : HH) (K : List HC) (A B A2 : Option Addr) (c d c2 : Nat) (w : World) (hH : Und F (HFl h A c B d)) (hK : Und F (Flat 3 (hcsL K) A2 K.length c2)) (hS : St M w0 H F w) :
  Calls Try.prog 42 #[hv h A c B d, .slice A2 K.length c2] w (HRes M w0 H F (loadH h K).1 fun A' c' B' d' e => e = .returned (.tuple #[hv (loadH h K).1 A' c' B' d', .int .i64 ((loadH h K).2.1 : Nat), .int .i64 (loadH h K).2.2])) := by
 refine goes_enter2 Try.func42 rfl Try.ntmps42 rfl ?_
 refine Ze ?_
 clear hS
 intro b1 wx1 hS
 refine ZaR ?_
 clear hS
 intro b2 wx2 hS
 refine ZaN ?_
 refine Zd ?_
 refine Z0 ?_
 refine Zce ?_
 rintro _ w2 ⟨rfl, hb2⟩
 refine Za ?_
 replace hS := hS.grow hb2
 cases hg : goodH h with
 | false =>
  have e0 : loadH h K = (h, 0, 1) := by unfold loadH; rw [hg]; rfl
  rw [e0]
  refine Zn ?_
  refine ZaJ ?_
  refine Z6 ?_
  refine Zcl ?_
  clear hS
  intro wx3 hS
  refine Zv ?_
  refine Zc8 ?_
  exact ⟨A, c, B, d, F, rfl, fun _ h => h, hH, hS.drop.drop⟩
 | true =>
 obtain ⟨hl1, hl2⟩ := good_len hg
 refine Zn ?_
 refine ZU ?_
 refine Zp ?_
 refine Calls.mono (goodCells_any K A2 c2 _ (hS.und hK)) ?_
 rintro _ w3 ⟨rfl, hb3⟩
 refine Za ?_
 replace hS := hS.grow hb3
 cases hgk : goodCs K with
 | false =>
  have e0 : loadH h K = (h, 0, 1) := by unfold loadH; rw [hg, hgk]; rfl
  rw [e0]
  refine ZdC ?_
  refine Zcl ?_
  clear hS
  intro wx3 hS
  refine Zv ?_
  refine Zc8 ?_
  exact ⟨A, c, B, d, F, rfl, fun _ h => h, hH, hS.drop.drop⟩
 | true =>
 have hlk : K.length ≤ 65536 := by
  unfold goodCs at hgk
  simp only [Bool.and_eq_true, decide_eq_true_eq] at hgk
  exact hgk.1
 by_cases hlong : 65536 < h.cs.length + K.length
 ·have e0 : loadH h K = (h, 0, 3) := by unfold loadH; rw [hg, hgk, if_neg (by decide), if_pos hlong]
  rw [e0]
  refine Za1 ?_
  refine Zr ?_
  refine ZcU ?_
  refine Zz ?_
  refine Zx ?_
  refine Zau ?_
  refine ZC ?_
  refine Zaj ?_
  refine ZbW ?_
  refine ZcY ?_
  clear hS
  intro wx3 hS
  refine Zv ?_
  refine Zc8 ?_
  exact ⟨A, c, B, d, F, rfl, fun _ h => h, hH, hS.drop.drop⟩
 have e0 : loadH h K = (⟨h.cs ++ K.map (moved h.cs.length), h.tr⟩, h.cs.length, 0) := by unfold loadH; rw [hg, hgk, if_neg (by decide), if_neg hlong]
 rw [e0]
 refine Za1 ?_
 refine Zr ?_
 refine ZcU ?_
 refine Zz ?_
 refine Zx ?_
 refine Zau ?_
 refine ZC ?_
 refine Zaj ?_
 refine Zr ?_
 refine ZcU ?_
 refine Zg ?_
 refine lst_buildSlice (cells := [_, _]) hS (.cons (by conv=>lhs;whnf) (.cons (by conv=>lhs;whnf) .nil)) rfl rfl ?_
 clear hS
 intro b3 wx3 hS
 refine Zp ?_
 refine Calls.mono (concat_any h.cs K A A2 c c2 _ _ (hH.imp fun _ h => h.1) hK (by omega) hS) ?_
 rintro _ w4 ⟨A4, c4, O4, rfl, hrow4, hS'⟩
 refine Za ?_
 replace hS := hS'
 clear hS'
 have hcl : (h.cs ++ K).length = h.cs.length + K.length := by simp
 have hc4 : h.cs.length ≤ c4 := by obtain ⟨_, _, e, hle⟩ := hrow4.form; cases e; omega
 have hn : (((h.cs ++ K).length - ((h.cs.length : Nat) : Int).toNat : Nat) : Int) = ((K.length : Nat) : Int) := by rw [hcl]; omega
 refine Zx ?_
 refine Zg ?_
 first
  | refine lst_run (run_slice_lt (sz := 3) rfl rfl rfl rfl (by omega) (by omega) (by omega)) rfl ?_
  | refine lst_run (run_slice_rest (sz := 3) rfl rfl rfl rfl (by omega) (by omega)) rfl ?_
 refine ZJ ?_
 rw [hn]
 refine goes_loop1 38 (39 :: 40 :: 9 :: 41 :: 42 :: 43 :: 44 :: 45 :: 10 :: 46 :: 47 :: 48 :: 49 :: 50 :: 51 :: 52 :: 53 :: 54 :: 55 :: 56 :: 57 :: 58 :: 59 :: []) (fun (R : List HC) v w' => ∃ (D : List HC) (O : List (Nat × Obj)), K = D ++ R ∧ v = .int .i64 (D.length : Nat) ∧ Rw 74 3 (.slice A4 (h.cs ++ K).length c4) (h.cs ++ K).length (hcsL ((h.cs ++ D.map (moved h.cs.length)) ++ R)) O ∧ St M w0 (O ++ (b2, hob none 0 0 none 0 0) :: (b1, hob A h.cs.length c B h.tr.length d) :: H) F w') (fun R => R.length) (K) ?_ (by conv=>lhs;whnf) ?_
 ·exact ⟨[], O4, rfl, rfl, by simpa using hrow4, hS⟩
 clear hS
 rintro R _ w5 jv ⟨D, O, hD, rfl, hrow, hS⟩ ih
 have hlen : K.length = D.length + R.length := by rw [hD]; simp
 cases R with
 | nil =>
  simp only [List.length_nil] at hlen
  have hKD : K = D := by simpa using hD
  subst hKD
  rw [List.append_nil] at hrow
  have hS2 := St.freezeR hrow hS
  have hl5 : (h.cs ++ K.map (moved h.cs.length)).length = (h.cs ++ K).length := by simp
  replace hS := hS2
  clear hS2
  refine ZI ?_
  refine Zq ?_
  refine ZD ?_
  refine Zt ?_
  refine Zel ?_
  refine Zg ?_
  refine Zb ?_
  clear hS
  intro wx4 hS
  refine Zv ?_
  refine Zc8 ?_
  refine ⟨A4, c4, B, d, _, ?_, fun φ h => .tail _ h, ?_, hS.drop.drop⟩
  ·dsimp only [hv, heapV]; rw [hl5]
  ·intro w' hw
   refine ⟨?_, ((hH.tail) w' hw).2⟩
   have := hw _ (.head _)
   rw [← hl5] at this
   exact this
 | cons x R =>
  simp only [List.length_cons] at hlen
  obtain ⟨g, sp, hA4, hO, hcap, hle, _⟩ := hrow.some_ (by omega)
  subst hA4 hO
  have hi : ((h.cs ++ D.map (moved h.cs.length)) ++ x :: R)[((h.cs.length : Int) + ((D.length : Nat) : Int)).toNat]? = some x := by
   rw [show ((h.cs.length : Int) + ((D.length : Nat) : Int)).toNat = (h.cs ++ D.map (moved h.cs.length)).length by simp; omega]; simp
  have hcc : ∀ w', St M w0 ([(g, .cells (hcsL ((h.cs ++ D.map (moved h.cs.length)) ++ x :: R) ++ sp).toArray 74)] ++ (b2, hob none 0 0 none 0 0) :: (b1, hob A h.cs.length c B h.tr.length d) :: H) F w' → _ := fun w' hS => Flat.cell (b := g) (o := 0) (L := (h.cs ++ D.map (moved h.cs.length)) ++ x :: R) (cap := c4) (by have := hrow.flat hS; rw [show (h.cs ++ K).length = ((h.cs ++ D.map (moved h.cs.length)) ++ x :: R).length by rw [hD]; simp] at this; exact this) hi
  by_cases hk : x.k = 0
  ·have hxn : 0 ≤ x.n ∧ x.n ≤ 65536 := by
    unfold goodCs at hgk
    simp only [Bool.and_eq_true, decide_eq_true_eq] at hgk
    have hgc : goodC K.length x R.length = true := by
     cases hq : goodC K.length x R.length with
     | true => rfl
     | false => have := goodL_false (D := D) hq; rw [← hD, hgk.2] at this; cases this
    unfold goodC at hgc
    rw [if_pos hk] at hgc
    simp only [Bool.and_eq_true, decide_eq_true_eq] at hgc
    omega
   refine Zcm ?_
   refine Zac ?_
   refine ZS ?_
   refine Zf ?_
   refine ZaA ?_
   refine ZE ?_
   refine Zl ?_
   refine Zch ?_
   refine ZB ?_
   refine ZD ?_
   refine Zba ?_
   refine ZC ?_
   refine ZB ?_
   refine ZD ?_
   have hput := hcsL_put ((h.cs ++ D.map (moved h.cs.length)) ++ x :: R) sp ((h.cs.length : Int) + ((D.length : Nat) : Int)).toNat (x.n + (h.cs.length : Nat)) (by simp; omega)
   rw [show setN ((h.cs ++ D.map (moved h.cs.length)) ++ x :: R) ((h.cs.length : Int) + ((D.length : Nat) : Int)).toNat (x.n + (h.cs.length : Nat)) = (h.cs ++ D.map (moved h.cs.length)) ++ (moved h.cs.length x) :: R by
    rw [show ((h.cs.length : Int) + ((D.length : Nat) : Int)).toNat = (h.cs ++ D.map (moved h.cs.length)).length by simp; omega, setN_app]
    unfold moved; rw [if_pos hk]] at hput
   refine lst_store1 hS rfl (by conv=>lhs;whnf) rfl rfl .head (by rw [Nat.zero_add]; exact hput) .head ?_
   clear hS
   intro w6 hS
   refine Zah ?_
   refine ih (R) _ _ _ ?_ ?_ (by conv=>lhs;whnf) (by kernel_rfl)
   ·simp
   ·refine ⟨D ++ [x], [(g, .cells (hcsL ((h.cs ++ D.map (moved h.cs.length)) ++ (moved h.cs.length x) :: R) ++ sp).toArray 74)], by rw [hD]; simp, by simp, ?_, hS⟩
    rw [show h.cs ++ (D ++ [x]).map (moved h.cs.length) ++ R = (h.cs ++ D.map (moved h.cs.length)) ++ (moved h.cs.length x) :: R by simp]
    refine Rw.own_ ?_ ?_ hle (by omega)
    ·rw [hcsL_len]; congr 1; rw [hD]; simp
    ·rw [← hcap]; simp only [List.length_append, hcsL_len, List.length_cons]
  ·refine Zcm ?_
   refine Zac ?_
   refine ZS ?_
   refine Zf ?_
   refine ZaA ?_
   refine ZE ?_
   refine Zl ?_
   refine ZaM ?_
   refine ih (R) _ _ _ ?_ ?_ (by conv=>lhs;whnf) (by kernel_rfl)
   ·simp
   ·refine ⟨D ++ [x], _, by rw [hD]; simp, by simp, ?_, hS⟩
    rw [show h.cs ++ (D ++ [x]).map (moved h.cs.length) ++ R = (h.cs ++ D.map (moved h.cs.length)) ++ x :: R by simp [moved, hk]]
    exact hrow
theorem undoL_len : ∀ (T : List Int) (L : List HC), (undoL L T).length = L.length
 | [], L => rfl
 | a :: r, L => by unfold undoL; rw [undoL_len r, setN_len]
theorem undo_any (h : HH) (n : Int) (A B : Option Addr) (c d : Nat) (w : World) (hH : Und F (HFl h A c B d)) (hS : St M w0 H F w) :
  Calls Try.prog 18 #[hv h A c B d, .int .i64 n] w (HRes M w0 H F (undoH h n).1 fun A' c' B' d' e => e = .returned (.tuple #[hv (undoH h n).1 A' c' B' d', .int .i64 (undoH h n).2])) := by
 refine goes_enter2 Try.func18 rfl Try.ntmps18 rfl ?_
 refine Ze ?_
 clear hS
 intro b1 wx1 hS
 refine ZaR ?_
 clear hS
 intro b2 wx2 hS
 refine ZN ?_
 refine Zd ?_
 refine ZaS ?_
 refine Zce ?_
 rintro _ w2 ⟨rfl, hb2⟩
 refine Za ?_
 replace hS := hS.grow hb2
 cases hg : goodH h with
 | false =>
  have e0 : undoH h n = (h, 1) := by unfold undoH; rw [if_pos hg]
  rw [e0]
  refine Zav ?_
  refine ZaS ?_
  refine Zb ?_
  clear hS
  intro wx3 hS
  refine Zf ?_
  refine Zc9 ?_
  exact ⟨A, c, B, d, F, rfl, fun _ h => h, hH, hS.drop.drop⟩
 | true =>
 obtain ⟨hl1, hl2⟩ := good_len hg
 by_cases hn0 : n < 0
 ·have e0 : undoH h n = (h, 2) := by unfold undoH; rw [if_neg (by rw [hg]; decide), if_pos (.inl hn0)]
  rw [e0]
  refine Zn ?_
  refine ZdH ?_
  refine Zal ?_
  refine Z6 ?_
  refine Zat ?_
  refine ZaS ?_
  refine Zb ?_
  clear hS
  intro wx3 hS
  refine Zf ?_
  refine Zc9 ?_
  exact ⟨A, c, B, d, F, rfl, fun _ h => h, hH, hS.drop.drop⟩
 by_cases hn1 : (h.tr.length : Int) < n
 ·have e0 : undoH h n = (h, 2) := by unfold undoH; rw [if_neg (by rw [hg]; decide), if_pos (.inr hn1)]
  rw [e0]
  refine Zn ?_
  refine Zbz ?_
  refine ZD ?_
  refine Zbf ?_
  refine Zcn ?_
  refine Zat ?_
  refine ZaS ?_
  refine Zb ?_
  clear hS
  intro wx3 hS
  refine Zf ?_
  refine Zc9 ?_
  exact ⟨A, c, B, d, F, rfl, fun _ h => h, hH, hS.drop.drop⟩
 have e0 : undoH h n = (⟨undoL h.cs (h.tr.drop n.toNat), h.tr.take n.toNat⟩, 0) := by unfold undoH; rw [if_neg (by rw [hg]; decide), if_neg (by omega)]
 rw [e0]
 have hd : h.tr.length ≤ d := by have := (hS.und hH).2.2.1; exact this
 have hT : Und F (Flat 1 (intsV h.tr) B h.tr.length d) := hH.imp fun _ h => h.2
 have htr : ∀ a ∈ h.tr, 0 ≤ a ∧ a < h.cs.length := by
  unfold goodH goodTr at hg
  simp only [Bool.and_eq_true, List.all_eq_true] at hg
  intro a ha
  have := hg.2.2 a ha
  unfold goodTr1 at this
  split at this
  ·rename_i x hx; have := hat_get hx; exact ⟨this.1, this.2.1⟩
  ·cases this
 refine Zn ?_
 refine Zbz ?_
 refine ZD ?_
 refine Zbf ?_
 refine Zcn ?_
 refine Zy ?_
 refine Zr ?_
 refine ZaX ?_
 refine Zp ?_
 refine Calls.mono (cloneC_any h.cs A c _ (hH.imp fun _ h => h.1) (by omega) hS) ?_
 rintro _ w3 ⟨A3, c3, O3, rfl, hrow3, hS'⟩
 refine Za ?_
 replace hS := hS'
 clear hS'
 replace hS := hS.perm (List.perm_append_comm_assoc O3 [_, _] _)
 have hnn : ((h.tr.length - n.toNat : Nat) : Int) = (((h.tr.drop n.toNat).length : Nat) : Int) := by simp
 refine ZN ?_
 refine Zak ?_
 refine Zba ?_
 first
  | refine lst_run (run_slice_lt (sz := 1) rfl rfl rfl rfl (by omega) (by omega) (by omega)) rfl ?_
  | refine lst_run (run_slice_rest (sz := 1) rfl rfl rfl rfl (by omega) (by omega)) rfl ?_
 refine ZJ ?_
 rw [hnn]
 refine goes_loop1 31 (32 :: 33 :: 34 :: 8 :: 35 :: 36 :: 37 :: 38 :: 39 :: 40 :: []) (fun (R : List Int) v w' => ∃ (D : List Int) (L : List HC) (O : List (Nat × Obj)), h.tr.drop n.toNat = D ++ R ∧ v = .int .i64 (D.length : Nat) ∧ L.length = h.cs.length ∧ undoL h.cs (h.tr.drop n.toNat) = undoL L R ∧ Rw 74 3 (.slice A3 h.cs.length c3) h.cs.length (hcsL L) O ∧ St M w0 ((b2, hob none 0 0 none 0 0) :: (b1, hob A h.cs.length c B h.tr.length d) :: (O ++ H)) F w') (fun R => R.length) (h.tr.drop n.toNat) ?_ (by conv=>lhs;whnf) ?_
 ·exact ⟨[], h.cs, O3, rfl, rfl, rfl, rfl, hrow3, hS⟩
 clear hS
 rintro R _ w5 jv ⟨D, L, O, hD, rfl, hLl, hund, hrow, hS⟩ ih
 have hlen : (h.tr.drop n.toNat).length = D.length + R.length := by rw [hD]; simp
 cases R with
 | nil =>
  simp only [List.length_nil] at hlen
  have hS2 := St.freezeR hrow (hS.perm (List.perm_append_comm_assoc [_, _] O _))
  replace hS := hS2
  clear hS2
  have hul := undoL_len (h.tr.drop n.toNat) h.cs
  refine ZI ?_
  refine Zq ?_
  refine ZD ?_
  refine Zba ?_
  refine lst_run (run_slice_slice (sz := 1) rfl rfl rfl rfl (by omega) (by omega)) rfl ?_
  refine Zp ?_
  refine Calls.mono (clipI_any n.toNat d B _ (by omega)) ?_
  rintro _ w6 ⟨rfl, hb6⟩
  refine Za ?_
  replace hS := hS.grow hb6
  refine Zel ?_
  refine Zb ?_
  clear hS
  intro wx3 hS
  refine Zf ?_
  refine Zc9 ?_
  refine ⟨A3, c3, B, n.toNat, _, ?_, fun φ h => .tail _ h, ?_, hS.drop.drop⟩
  ·dsimp only [hv, heapV]; rw [hul, List.length_take, Nat.min_eq_left (by omega)]
  ·intro w' hw
   refine ⟨?_, ?_⟩
   ·have := hw _ (.head _)
    show Flat 3 (hcsL (undoL h.cs (h.tr.drop n.toNat))) A3 (undoL h.cs (h.tr.drop n.toNat)).length c3 w'
    rw [hul, hund]; exact this
   ·have := ((hT.tail) w' hw).take (m := n.toNat) (c' := n.toNat) (by omega) (Nat.le_refl _)
    show Flat 1 (intsV (h.tr.take n.toNat)) B (h.tr.take n.toNat).length n.toNat w'
    rw [List.length_take, Nat.min_eq_left (by omega), show intsV (h.tr.take n.toNat) = (intsV h.tr).take (n.toNat * 1) by simp [intsV, List.map_take]]
    exact this
 | cons x R =>
  simp only [List.length_cons] at hlen
  have hxm : x ∈ h.tr := List.mem_of_mem_drop (i := n.toNat) (by rw [hD]; simp)
  obtain ⟨hx0, hx1⟩ := htr x hxm
  obtain ⟨g, sp, hA4, hO, hcap, hle, _⟩ := hrow.some_ (by omega)
  subst hA4 hO
  obtain ⟨bt, ot, rfl⟩ := (hS.und hT).some_ (by simp at hlen; omega)
  have hlt : n < (d : Int) := by simp at hlen; omega
  have hxi : h.tr[n.toNat + D.length]? = some x := by
   have : (h.tr.drop n.toNat)[D.length]? = some x := by rw [hD]; simp
   rwa [List.getElem?_drop] at this
  have hct : ∀ {H'} w', St M w0 H' F w' → w'.cell? ⟨bt, ot + n.toNat * 1 + ((D.length : Nat) : Int).toNat * 1, none⟩ = some (.int .i64 x) := fun w' hS => by
   have := (hS.und hT).int hxi
   rw [show ot + n.toNat * 1 + ((D.length : Nat) : Int).toNat * 1 = ot + (n.toNat + D.length) * 1 by omega]; exact this
  rw [if_neg (show ¬ d = n.toNat by omega), Option.map_some, addrPlus] at ih ⊢
  have hput := hcsL_put L sp x.toNat x (by omega)
  refine ZaZ ?_
  refine ZaF ?_
  refine Zf ?_
  refine ZY ?_
  refine Zg ?_
  refine ZS ?_
  refine ZD ?_
  refine lst_store1 hS rfl (by conv=>lhs;whnf) rfl rfl (.tail (.tail .head)) (by rw [Nat.zero_add]; exact hput) (.tail (.tail .head)) ?_
  clear hS
  intro w6 hS
  refine Zah ?_
  refine ih (R) _ _ _ ?_ ?_ (by conv=>lhs;whnf) (by kernel_rfl)
  ·simp
  ·refine ⟨D ++ [x], setN L x.toNat x, [(g, .cells (hcsL (setN L x.toNat x) ++ sp).toArray 74)], by rw [hD]; simp, by simp, by rw [setN_len, hLl], by rw [hund]; rfl, ?_, hS⟩
   refine Rw.own_ ?_ ?_ hle (by omega)
   ·rw [hcsL_len, setN_len, hLl]
   ·rw [← hcap]; simp only [List.length_append, hcsL_len, setN_len]
theorem cut_any (h : HH) (n : Int) (A B : Option Addr) (c d : Nat) (w : World) (hH : Und F (HFl h A c B d)) (hS : St M w0 H F w) :
  Calls Try.prog 20 #[hv h A c B d, .int .i64 n] w (HRes M w0 H F (cutH h n).1 fun A' c' B' d' e => e = .returned (.tuple #[hv (cutH h n).1 A' c' B' d', .int .i64 (cutH h n).2])) := by
 refine goes_enter2 Try.func20 rfl Try.ntmps20 rfl ?_
 refine Ze ?_
 clear hS
 intro b1 wx1 hS
 refine ZaR ?_
 clear hS
 intro b2 wx2 hS
 refine ZN ?_
 refine Zd ?_
 refine ZbH ?_
 refine Zce ?_
 rintro _ w2 ⟨rfl, hb2⟩
 refine Za ?_
 replace hS := hS.grow hb2
 cases hg : goodH h with
 | false =>
  have e0 : cutH h n = (h, 1) := by unfold cutH; rw [if_pos hg]
  rw [e0]
  refine Zav ?_
  refine Zcj ?_
  clear hS
  intro wx3 hS
  refine Zf ?_
  refine ZcH ?_
  exact ⟨A, c, B, d, F, rfl, fun _ h => h, hH, hS.drop.drop⟩
 | true =>
 obtain ⟨hl1, hl2⟩ := good_len hg
 by_cases hn0 : n < 0
 ·have e0 : cutH h n = (h, 2) := by unfold cutH; rw [if_neg (by rw [hg]; decide), if_pos (.inl hn0)]
  rw [e0]
  refine Zn ?_
  refine ZdH ?_
  refine Zal ?_
  refine Z6 ?_
  refine Zat ?_
  refine Zcj ?_
  clear hS
  intro wx3 hS
  refine Zf ?_
  refine ZcH ?_
  exact ⟨A, c, B, d, F, rfl, fun _ h => h, hH, hS.drop.drop⟩
 by_cases hn1 : (h.cs.length : Int) < n
 ·have e0 : cutH h n = (h, 2) := by unfold cutH; rw [if_neg (by rw [hg]; decide), if_pos (.inr hn1)]
  rw [e0]
  refine Zn ?_
  refine Zbz ?_
  refine ZL ?_
  refine Zk ?_
  refine ZaF ?_
  refine Zk ?_
  refine Zcn ?_
  refine Zat ?_
  refine Zcj ?_
  clear hS
  intro wx3 hS
  refine Zf ?_
  refine ZcH ?_
  exact ⟨A, c, B, d, F, rfl, fun _ h => h, hH, hS.drop.drop⟩
 have hc : h.cs.length ≤ c := (hS.und hH).1.2.1
 have hCut : Und F (HFl ⟨h.cs.take n.toNat, h.tr⟩ A n.toNat B d) := hH.imp fun w' h1 => by
  refine ⟨?_, h1.2⟩
  have := h1.1.take (m := n.toNat) (c' := n.toNat) (by omega) (Nat.le_refl _)
  show Flat 3 (hcsL (h.cs.take n.toNat)) A (h.cs.take n.toNat).length n.toNat w'
  rw [List.length_take, Nat.min_eq_left (by omega)]
  rw [show hcsL (h.cs.take n.toNat) = (hcsL h.cs).take (n.toNat * 3) by
   rw [← List.take_append_drop n.toNat h.cs, hcsL_app, List.take_append_drop]
   rw [show n.toNat * 3 = (hcsL (h.cs.take n.toNat)).length by rw [hcsL_len, List.length_take, Nat.min_eq_left (by omega)]]
   simp]
  exact this
 have hln : (h.cs.take n.toNat).length = n.toNat := by rw [List.length_take, Nat.min_eq_left (by omega)]
 refine Zn ?_
 refine Zbz ?_
 refine ZL ?_
 refine Zk ?_
 refine ZaF ?_
 refine Zk ?_
 refine Zcn ?_
 refine Zy ?_
 refine Z8 ?_
 refine goes_meet1 6 (21 :: 22 :: 23 :: 24 :: 25 :: 26 :: 27 :: 28 :: []) (fun v w' => ∃ b3, v = .pointer (some ⟨b3, 0, none⟩) ∧ St M w0 ((b3, hob A n.toNat n.toNat B h.tr.length d) :: (b2, hob none 0 0 none 0 0) :: (b1, hob A h.cs.length c B h.tr.length d) :: H) F w') ?_ ?_
 ·intro hmeet
  refine goes_plan (St _ _ _ _) 9 (.read 0 (.read 1 (.read 2 (.read 3 (.read 5 (.read 6 (.pick 4 (.read 7 (.pick 8 .tail .none)) (.pick 8 (.pick 4 (.read 7 .tail) .none) .none)))))))) (by kernel_rfl) (by kernel_rfl) hS.drew ?_
  replace hS := hS.drew
  refine ZbL ?_
  refine Zem ?_
  refine Zax ?_
  refine pln_read rfl (fun _ hS => run_slice_slice (sz := 3) rfl rfl rfl rfl (by omega) (by omega)) rfl ?_
  refine ZdL ?_
  refine Zem ?_
  refine pln_pick rfl ?_ ?_
  ·refine Zp ?_
   refine Calls.mono (clipC_st n.toNat c A _ (by omega) hS) ?_
   rintro _ w3 ⟨rfl, hS'⟩
   refine Za ?_
   replace hS := hS'
   clear hS'
   refine Zda ?_
   refine ZbM ?_
   refine Za0 ?_
   clear hS
   intro b3 wx3 hS
   refine Zda ?_
   refine pln_tail ?_
   refine Zb ?_
   clear hS
   intro wx4 hS
   refine Zc ?_
   exact hmeet _ _ _ ⟨_, rfl, hS⟩ (by conv=>lhs;whnf) (by kernel_rfl)
  refine Za0 ?_
  clear hS
  intro b4 wx5 hS
  refine Zda ?_
  refine Z7 ?_
  refine Zp ?_
  refine Calls.mono (clipC_st n.toNat c A _ (by omega) hS) ?_
  rintro _ w3 ⟨rfl, hS'⟩
  refine Za ?_
  replace hS := hS'
  clear hS'
  refine Zda ?_
  refine ZbM ?_
  refine pln_tail ?_
  refine Zb ?_
  clear hS
  intro wx6 hS
  refine Zc ?_
  exact hmeet _ _ _ ⟨_, rfl, hS⟩ (by conv=>lhs;whnf) (by kernel_rfl)
 clear hS
 rintro jv _ w3 ⟨b3, rfl, hS⟩
 have hgc := good_any ⟨h.cs.take n.toNat, h.tr⟩ A B n.toNat d
 dsimp only [hv, heapV] at hgc
 rw [hln] at hgc
 refine Zs ?_
 refine Zd ?_
 refine ZbH ?_
 refine Zp ?_
 refine Calls.mono (hgc _ (hS.und hCut)) ?_
 rintro _ w4 ⟨rfl, hb4⟩
 refine Za ?_
 replace hS := hS.grow hb4
 cases hg2 : goodH ⟨h.cs.take n.toNat, h.tr⟩ with
 | false =>
  have e0 : cutH h n = (h, 1) := by unfold cutH; rw [if_neg (by rw [hg]; decide), if_neg (by omega), if_pos hg2]
  rw [e0]
  refine Zav ?_
  refine Zcj ?_
  clear hS
  intro wx7 hS
  refine Zf ?_
  refine ZcH ?_
  exact ⟨A, c, B, d, F, rfl, fun _ h => h, hH, hS.drop.drop.drop⟩
 | true =>
  have e0 : cutH h n = (⟨h.cs.take n.toNat, h.tr⟩, 0) := by unfold cutH; rw [if_neg (by rw [hg]; decide), if_neg (by omega), if_neg (by rw [hg2]; decide)]
  rw [e0]
  refine Zam ?_
  refine Zd ?_
  refine Zcj ?_
  clear hS
  intro wx7 hS
  refine Zf ?_
  refine ZcH ?_
  refine ⟨A, n.toNat, B, d, F, ?_, fun _ h => h, hCut, hS.drop.drop.drop⟩
  dsimp only [hv, heapV]; rw [hln]
end
end Go.Proofs.Ythliapbflkfdiab
