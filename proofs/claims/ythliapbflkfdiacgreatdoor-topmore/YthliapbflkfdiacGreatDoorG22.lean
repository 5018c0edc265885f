/- Steps of the proof. -/
import Derived.Test.YthliapbflkfdiacGreatDoorG21
namespace Go.Proofs.YthliapbflkfdiacGreatDoor
open Go.RowKit
set_option linter.unusedVariables false
set_option linter.unusedSimpArgs false
set_option maxRecDepth 100000
set_option maxHeartbeats 1000000
theorem QoT {M : List Bool} {x : Int} {v : Bool} (h : M[x.toNat]? = some v) : Qs M x = v := by
 unfold Qs; rw [h]; cases v <;> simp
section
variable {M : List Nat} {w0 : World} {H : List (Nat × Obj)} {F : List (World → Prop)}
theorem St.freezeB {P : List Bool} {g : Nat} {w : World} (hS : St M w0 ((g, QuQ P) :: H) F w) : St M w0 H (Qz 1 (QV P) (some ⟨g, 0, none⟩) P.length P.length :: F) w := by
 have ho := hS.own (g, _) (.head _)
 refine hS.drop.learn fun w' hw => Qz.own (sp := []) (el := 4) ?_ (Qjx P) (Nat.le_refl _)
 rw [hw.block g (QcL ho) fun hm => ?_, List.append_nil]
 ·exact ho
 ·obtain ⟨p, hp, e⟩ := List.mem_map.1 hm
  exact (List.pairwise_cons.1 hS.apart).1 p hp e.symm
theorem QoS (h : HH) (R : List Int) (A B RA : Option Addr) (c d rc : Nat) (w : World) (hg : QF h = true) (hH : Und F (HFl h A c B d)) (hR : Und F (Qz 1 (Qm R) RA R.length rc)) (hRl : R.length ≤ 9223372036854775807) (hS : St M w0 H F w) :
  Calls Tryz.prog 148 #[hv h A c B d, .slice RA R.length rc] w fun e w' => ∃ (A' : Option Addr) (c' : Nat) (F' : List (World → Prop)), e = .returned (.tuple #[.slice A' (QK h.cs R).length c', .int .i64 0]) ∧ (∀ φ ∈ F, φ ∈ F') ∧ Und F' (Qz 1 (QV (QK h.cs R)) A' (QK h.cs R).length c') ∧ St M w0 H F' w' := by
 have := Qll h R A B RA c d rc w hH hR hRl hS
 rw [show Qdl h R = (QK h.cs R, 0) by unfold Qdl; rw [if_neg (by rw [hg]; decide)]] at this
 exact this
theorem QqB (h : HH) (R : List Int) (A B RA : Option Addr) (c d rc : Nat) (w : World) (hg : QF h = false) (hH : Und F (HFl h A c B d)) (hR : Und F (Qz 1 (Qm R) RA R.length rc)) (hRl : R.length ≤ 9223372036854775807) (hS : St M w0 H F w) :
  Calls Tryz.prog 148 #[hv h A c B d, .slice RA R.length rc] w fun e w' => ∃ (A' : Option Addr) (c' : Nat) (F' : List (World → Prop)), e = .returned (.tuple #[.slice A' 0 c', .int .i64 1]) ∧ (∀ φ ∈ F, φ ∈ F') ∧ St M w0 H F' w' := by
 have := Qll h R A B RA c d rc w hH hR hRl hS
 rw [show Qdl h R = ([], 1) by unfold Qdl; rw [if_pos hg]] at this
 exact this.mono fun e w' ⟨A', c', F', h1, h2, _, h4⟩ => ⟨A', c', F', h1, h2, h4⟩
theorem QuI (Mk : List Bool) (n : Nat) (hn : Mk.length = n) (A : Option Addr) (c : Nat) (w : World) (hM : Und F (Qz 1 (QV Mk) A n c)) (hl : n ≤ 1048576) (hS : St M w0 H F w) :
  Calls Tryz.prog 149 #[.slice A n c] w fun e w' => ∃ (A' : Option Addr) (c' : Nat) (F' : List (World → Prop)), e = .returned (.slice A' (n + 1) c') ∧ (∀ φ ∈ F, φ ∈ F') ∧ Und F' (Qz 1 (Qm (Qcs Mk)) A' (Qcs Mk).length c') ∧ St M w0 H F' w' := by
 subst hn; exact Qno Mk A c w hM hl hS
theorem QmK (T : List Int) (N Mk : List Bool) (n : Nat) (hn : N.length = n) (A B S : Option Addr) (c d e : Nat) (w : World) (hT : Und F (Qz 1 (Qm T) A T.length c)) (hM : Und F (Qz 1 (QV N) B n d)) (hs : Und F (Qz 1 (Qm (Qcs Mk)) S (Qcs Mk).length e)) (hg : ∀ a ∈ T, 0 ≤ a ∧ a < Mk.length) (hl : T.length ≤ 65536) (hml : n = T.length) (hS : St M w0 H F w) :
  Calls Tryz.prog 151 #[.slice A T.length c, .slice B n d, .slice S (Mk.length + 1) e] w fun e w' => ∃ (A' : Option Addr) (c' : Nat) (F' : List (World → Prop)), e = .returned (.slice A' ((kept T N).map (rkI Mk)).length c') ∧ (∀ φ ∈ F, φ ∈ F') ∧ Und F' (Qz 1 (Qm ((kept T N).map (rkI Mk))) A' ((kept T N).map (rkI Mk)).length c') ∧ St M w0 H F' w' := by
 subst hn; exact Qj5 T N Mk A B S c d e w hT hM hs hg hl hml hS
theorem QsT (Mk : List Bool) (n : Nat) (hn : Mk.length = n) (I : List Int) (A B : Option Addr) (c d : Nat) (w : World) (hM : Und F (Qz 1 (Qm (Qcs Mk)) A (Qcs Mk).length c)) (hI : Und F (Qz 1 (Qm I) B I.length d)) (hl : n ≤ 1048576) (hl2 : I.length ≤ 1048576) (hS : St M w0 H F w) :
  Calls Tryz.prog 152 #[.slice A (n + 1) c, .slice B I.length d] w fun e w' => ∃ (A' : Option Addr) (c' : Nat) (F' : List (World → Prop)), e = .returned (.slice A' (I.map (rkI Mk)).length c') ∧ (∀ φ ∈ F, φ ∈ F') ∧ Und F' (Qz 1 (Qm (I.map (rkI Mk))) A' (I.map (rkI Mk)).length c') ∧ St M w0 H F' w' := by
 subst hn; exact Qgb Mk I A B c d w hM hI hl hl2 hS
def QvC (M : List Nat) (w0 : World) (H : List (Nat × Obj)) (F : List (World → Prop)) (r : HH × List Int × List Int × List Int × Int) (e : Ending) (w' : World) : Prop :=
 ∃ (A' : Option Addr) (c' : Nat) (B' : Option Addr) (d' : Nat) (a1 a2 a3 : Option Addr) (c1 c2 c3 : Nat) (F' : List (World → Prop)),
  e = .returned (.tuple #[hv r.1 A' c' B' d', .slice a1 r.2.1.length c1, .slice a2 r.2.2.1.length c2, .slice a3 r.2.2.2.1.length c3, .int .i64 r.2.2.2.2]) ∧ (∀ φ ∈ F, φ ∈ F') ∧ Und F' (HFl r.1 A' c' B' d') ∧ Und F' (Qz 1 (Qm r.2.1) a1 r.2.1.length c1) ∧ Und F' (Qz 1 (Qm r.2.2.1) a2 r.2.2.1.length c2) ∧ Und F' (Qz 1 (Qm r.2.2.2.1) a3 r.2.2.2.1.length c3) ∧ St M w0 H F' w'
theorem QmU (h : HH) (R T K : List Int) (A B RA TA KA : Option Addr) (c d rc tc kc : Nat) (w : World) (hH : Und F (HFl h A c B d)) (hR : Und F (Qz 1 (Qm R) RA R.length rc)) (hT : Und F (Qz 1 (Qm T) TA T.length tc)) (hK : Und F (Qz 1 (Qm K) KA K.length kc)) (hRl : R.length ≤ 1048576) (hTl : T.length ≤ 1048576) (hKl : K.length ≤ 1048576) (hS : St M w0 H F w) :
  Calls Tryz.prog 95 #[hv h A c B d, .slice RA R.length rc, .slice TA T.length tc, .slice KA K.length kc] w (QvC M w0 H F (Qbs h R T K)) := by
 refine Qde Tryz.func95 rfl Tryz.ntmps95 rfl ?_
 refine Zi ?_
 clear hS
 intro b1 wx1 hS
 refine Za3 ?_
 clear hS
 intro b2 wx2 hS
 refine Zau ?_
 refine Zba ?_
 refine Zg ?_
 refine Z9 ?_
 refine Ze ?_
 cases hg : QF h with
 | false =>
  have e0 : Qbs h R T K = (h, [], [], [], 1) := by unfold Qbs; rw [if_pos hg]
  rw [e0]
  refine Zf ?_
  refine Calls.mono (QqB h R A B RA c d rc _ hg hH hR Ya hS) ?_
  rintro _ w2 ⟨A2, c2, F2, rfl, hF2, hS'⟩
  refine Za ?_
  replace hS := hS'
  clear hS'
  refine Zbt ?_
  refine ZC ?_
  refine Zg ?_
  refine Z9 ?_
  refine Ze ?_
  refine Zd ?_
  clear hS
  intro wx3 hS
  refine Zau ?_
  refine Zba ?_
  refine Ze1 ?_
  exact ⟨A, c, B, d, none, none, none, 0, 0, 0, F2, rfl, hF2, hH.mono hF2, fun w _ => Qz.nil_ _ _ _, fun w _ => Qz.nil_ _ _ _, fun w _ => Qz.nil_ _ _ _, hS.drop.drop⟩
 | true =>
 obtain ⟨hl1, hl2⟩ := Qdd hg
 have hgl : QO h.cs.length h.cs = true := by
  unfold QF Q4 at hg
  simp only [Bool.and_eq_true] at hg
  exact hg.1.2
 have hml : (QK h.cs R).length = h.cs.length := (QhJ h.cs R).1
 have htr : ∀ a ∈ h.tr, 0 ≤ a ∧ a < h.cs.length := fun a ha => by
  obtain ⟨x, hx, _⟩ := QpN hg ha
  have := Qba.1 hx
  exact ⟨this.1, this.2.1⟩
 have e0 : Qbs h R T K = if R.all (Qj h.cs) = false then (h, [], [], [], 4)
  else (⟨Qa5 (QK h.cs R) h.cs, Qbv (QK h.cs R) h.tr⟩, R.map (rkI (QK h.cs R)), T.map (rkI (QK h.cs R)), K.map (rkI (h.tr.map (Qs (QK h.cs R)))), 0) := by unfold Qbs; rw [if_neg (by rw [hg]; decide)]
 rw [e0]
 clear e0
 refine Zf ?_
 refine Calls.mono (QoS h R A B RA c d rc _ hg hH hR Ya hS) ?_
 rintro _ w2 ⟨A2, c2, F2, rfl, hF2, hM2, hS'⟩
 refine Za ?_
 replace hS := hS'
 clear hS'
 generalize QK h.cs R = Mk at *
 have hH2 := hH.mono hF2
 have hR2 := hR.mono hF2
 refine Zbt ?_
 refine Zab ?_
 refine Z6 ?_
 refine Qo 35 (36 :: 37 :: 38 :: 16 :: 39 :: 40 :: 41 :: 42 :: 43 :: 9 :: 10 :: 11 :: 12 :: 44 :: []) (fun (Q : List Int) v w' => ∃ (D : List Int), R = D ++ Q ∧ v = .int .i64 (D.length : Nat) ∧ (∀ r ∈ D, Qj h.cs r = true) ∧ St M w0 ((b2, hob none 0 0 none 0 0) :: (b1, hob A h.cs.length c B h.tr.length d) :: H) F2 w') (fun Q => Q.length) (R) ?_ Yb ?_
 ·exact ⟨[], rfl, rfl, fun r hr => by simp at hr, hS⟩
 clear hS
 rintro Q _ w4 jv ⟨D, hD, rfl, hrt, hS⟩ ih
 have hlen : R.length = D.length + Q.length := by rw [hD]; simp
 cases Q with
 | cons x Q =>
  simp only [List.length_cons] at hlen
  have hxi : R[D.length]? = some x := by rw [hD]; simp
  obtain ⟨bt, ot, rfl⟩ := (hS.und hR2).some_ Ya
  have hct : ∀ {H'} w', St M w0 H' F2 w' → w'.cell? ⟨bt, ot + ((D.length : Nat) : Int).toNat * 1, none⟩ = some (.int .i64 x) := fun w' hS => by
   have := (hS.und hR2).int hxi
   rw [show ((D.length : Nat) : Int).toNat = D.length by omega]; exact this
  refine ZbL ?_
  refine Zbg ?_
  refine Zcw ?_
  refine ZcF ?_
  refine Z3 ?_
  refine Calls.mono (Qbb h.cs.length c A B h.tr.length d x _) ?_
  rintro _ w5 ⟨rfl, hb5⟩
  refine Za ?_
  replace hS := hS.grow hb5
  cases hx : Qj h.cs x with
  | false =>
   rw [show (decide (0 ≤ x) && decide (x < (h.cs.length : Nat))) = false from hx]
   rw [if_pos (by rw [List.all_eq_false]; exact ⟨x, by rw [hD]; simp, by rw [hx]; decide⟩)]
   refine Za1 ?_
   refine Zdl ?_
   clear hS
   intro wx3 hS
   refine Zau ?_
   refine Zba ?_
   refine Ze1 ?_
   exact ⟨A, c, B, d, none, none, none, 0, 0, 0, F2, rfl, hF2, hH2, fun w _ => Qz.nil_ _ _ _, fun w _ => Qz.nil_ _ _ _, fun w _ => Qz.nil_ _ _ _, hS.drop.drop⟩
  | true =>
   rw [show (decide (0 ≤ x) && decide (x < (h.cs.length : Nat))) = true from hx]
   refine ZV ?_
   refine ZbZ ?_
   refine ih (Q) _ _ _ ?_ ?_ Yb Yc
   ·simp
   ·refine ⟨D ++ [x], by rw [hD]; simp, by simp, fun r hr => ?_, hS⟩
    rcases List.mem_append.1 hr with hr | hr
    ·exact hrt r hr
    ·rw [List.mem_singleton.1 hr]; exact hx
 | nil =>
  simp only [List.length_nil] at hlen
  have hRD : R = D := by simpa using hD
  rw [← hRD] at hrt
  rw [if_neg (by rw [show R.all (Qj h.cs) = true from List.all_eq_true.2 hrt]; decide)]
  clear hD
  have hTr : Und F2 (Qz 1 (Qm h.tr) B h.tr.length d) := hH2.imp fun _ h => h.2
  have hCs : Und F2 (Qz 3 (Q6 h.cs) A h.cs.length c) := hH2.imp fun _ h => h.1
  refine ZL ?_
  refine ZaB ?_
  refine Zbg ?_
  refine Zs ?_
  refine Qcl (k := h.tr.length) (bts := 1) (z := .bool false) hS Yb Yb rfl rfl rfl rfl Ya Ya rfl ?_
  clear hS
  intro kb w3 hS
  rw [show List.replicate h.tr.length (Value.bool false) = QV (List.replicate h.tr.length false) by simp [QV]] at hS
  refine Z0 ?_
  refine ZaB ?_
  refine Zbg ?_
  refine Z6 ?_
  refine Qo 52 (53 :: 54 :: 55 :: 56 :: 18 :: 19 :: 57 :: 58 :: 59 :: 60 :: 61 :: 62 :: 63 :: 64 :: []) (fun (Q : List Int) v w' => ∃ (E : List Int) (P : List Bool), h.tr = E ++ Q ∧ v = .int .i64 (E.length : Nat) ∧ P.length = h.tr.length ∧ (∀ (q : Nat) (x : Int), q < E.length → h.tr[q]? = some x → P[q]? = some (Qs Mk x)) ∧ St M w0 ((kb, QuQ P) :: (b2, hob none 0 0 none 0 0) :: (b1, hob A h.cs.length c B h.tr.length d) :: H) F2 w') (fun Q => Q.length) (h.tr) ?_ Yb ?_
  ·exact ⟨[], List.replicate h.tr.length false, rfl, rfl, by simp, fun q x hq => by simp at hq, hS⟩
  clear hS
  rintro Q _ w5 jv2 ⟨E, P, hE, rfl, hPl, hP, hS⟩ ih2
  have hlen2 : h.tr.length = E.length + Q.length := by rw [hE]; simp
  cases Q with
  | cons x Q =>
   simp only [List.length_cons] at hlen2
   have hxi : h.tr[E.length]? = some x := by rw [hE]; simp
   obtain ⟨hx0, hx1⟩ := htr x (List.mem_of_getElem? hxi)
   obtain ⟨v, hv⟩ : ∃ v, Mk[x.toNat]? = some v := ⟨Mk[x.toNat]'Ya, List.getElem?_eq_getElem _⟩
   have hvm := QoT hv
   obtain ⟨bt, ot, rfl⟩ := (hS.und hTr).some_ Ya
   obtain ⟨bm, om, rfl⟩ := (hS.und hM2).some_ Ya
   have hct : ∀ {H'} w', St M w0 H' F2 w' → w'.cell? ⟨bt, ot + ((E.length : Nat) : Int).toNat * 1, none⟩ = some (.int .i64 x) := fun w' hS => by
    have := (hS.und hTr).int hxi
    rw [show ((E.length : Nat) : Int).toNat = E.length by omega]; exact this
   have hcm : ∀ {H'} w', St M w0 H' F2 w' → w'.cell? ⟨bm, om + x.toNat * 1, none⟩ = some (.bool v) := fun w' hS => (hS.und hM2).bool hv
   have hput := Qgd P E.length v Ya
   refine Zcz ?_
   refine ZfI ?_
   refine Zl ?_
   refine Z1 ?_
   refine Ze ?_
   refine ZaW ?_
   refine ZfI ?_
   refine ZM ?_
   refine Q8 hS rfl Yb rfl rfl .head (by rw [show ((E.length : Nat) : Int).toNat = E.length by omega, Nat.zero_add, Nat.mul_one]; exact hput) .head ?_
   clear hS
   intro w6 hS
   refine Zam ?_
   refine ih2 Q _ _ _ ?_ ?_ Yb Yc
   ·simp
   ·refine ⟨E ++ [x], _, by rw [hE]; simp, by simp, by simpa using hPl, fun q y hq hy => ?_, hS⟩
    rw [List.length_append] at hq
    simp only [List.length_cons, List.length_nil] at hq
    rw [List.getElem?_set]
    split
    ·rename_i e
     rw [if_pos Ya]
     rw [← e, hxi] at hy
     rw [← Option.some.inj hy, hvm]
    ·exact hP q y Ya hy
  | nil =>
   simp only [List.length_nil] at hlen2
   have hPe : P = h.tr.map (Qs Mk) := by
    refine List.ext_getElem? fun q => ?_
    rw [List.getElem?_map]
    cases hq : h.tr[q]? with
    | none =>
     have : h.tr.length ≤ q := by
      rcases Nat.lt_or_ge q h.tr.length with g | g
      ·rw [List.getElem?_eq_getElem g] at hq; cases hq
      ·exact g
     rw [List.getElem?_eq_none Ya]; rfl
    | some x =>
     have : q < h.tr.length := by
      rcases Nat.lt_or_ge q h.tr.length with g | g
      ·exact g
      ·rw [List.getElem?_eq_none g] at hq; cases hq
     rw [hP q x Ya hq]; rfl
   replace hS := St.freezeB hS
   rw [hPe] at hS
   have hNl : (h.tr.map (Qs Mk)).length = h.tr.length := by simp
   have hN : Und (Qz 1 (QV (h.tr.map (Qs Mk))) (some ⟨kb, 0, none⟩) (h.tr.map (Qs Mk)).length (h.tr.map (Qs Mk)).length :: F2) (Qz 1 (QV (h.tr.map (Qs Mk))) (some ⟨kb, 0, none⟩) (h.tr.map (Qs Mk)).length (h.tr.map (Qs Mk)).length) := Und.head
   have hFa : ∀ φ ∈ F2, φ ∈ (Qz 1 (QV (h.tr.map (Qs Mk))) (some ⟨kb, 0, none⟩) (h.tr.map (Qs Mk)).length (h.tr.map (Qs Mk)).length :: F2) := fun φ h => .tail _ h
   generalize (Qz 1 (QV (h.tr.map (Qs Mk))) (some ⟨kb, 0, none⟩) (h.tr.map (Qs Mk)).length (h.tr.map (Qs Mk)).length :: F2) = F3 at *
   rw [show Qbv Mk h.tr = (kept h.tr (h.tr.map (Qs Mk))).map (rkI Mk) from rfl]
   rw [hNl] at hN
   generalize hNg : h.tr.map (Qs Mk) = N at *
   refine ZL ?_
   refine ZG ?_
   refine Calls.mono (Qno Mk A2 c2 _ (hM2.mono hFa) Ya hS) ?_
   rintro _ w6 ⟨A6, c6, F6, rfl, hF6, hS6, hS'⟩
   refine Za ?_
   replace hS := hS'
   clear hS'
   refine Ze ?_
   refine Zk ?_
   refine Calls.mono (QuI N h.tr.length hNl _ _ _ (hN.mono hF6) Ya hS) ?_
   rintro _ w7 ⟨A7, c7, F7, rfl, hF7, hS7, hS'⟩
   refine Za ?_
   replace hS := hS'
   clear hS'
   have hF27 : ∀ φ ∈ F2, φ ∈ F7 := fun φ h => hF7 φ (hF6 φ (hFa φ h))
   have hS6' := hS6.mono hF7
   refine Zl ?_
   refine Zu ?_
   refine Qei 22 (69 :: 70 :: 71 :: 72 :: 73 :: 74 :: 75 :: 76 :: 77 :: 78 :: 79 :: []) (fun v w' => ∃ b3 A8 c8 A9 c9 F9, v = .pointer (some ⟨b3, 0, none⟩) ∧ (∀ φ ∈ F7, φ ∈ F9) ∧ Und F9 (Qz 3 (Q6 (Qa5 Mk h.cs)) A8 (Qa5 Mk h.cs).length c8) ∧ Und F9 (Qz 1 (Qm ((kept h.tr N).map (rkI Mk))) A9 ((kept h.tr N).map (rkI Mk)).length c9) ∧ St M w0 ((b3, hob A8 (Qa5 Mk h.cs).length c8 A9 ((kept h.tr N).map (rkI Mk)).length c9) :: (b2, hob none 0 0 none 0 0) :: (b1, hob A h.cs.length c B h.tr.length d) :: H) F9 w') ?_ ?_
   ·intro hmeet
    refine QcU (St _ _ _ _) 12 (.read 0 (.read 1 (.read 2 (.read 3 (.read 5 (.read 6 (.read 7 (.read 8 (.pick 4 (.pick 9 (.read 10 (.pick 11 .tail .none)) (.pick 11 (.pick 9 (.read 10 .tail) .none) .none)) (.pick 11 (.pick 4 (.pick 9 (.read 10 .tail) .none) .none) .none)))))))))) Yc Yc hS.drew ?_
    replace hS := hS.drew
    refine ZcJ ?_
    refine ZfJ ?_
    refine Za7 ?_
    refine Za7 ?_
    refine Ze2 ?_
    refine ZfJ ?_
    refine Za7 ?_
    refine Za7 ?_
    refine Qfi rfl ?_ ?_
    ·refine Zai ?_
     refine ZfK ?_
     rintro _ w8 ⟨A8, c8, F8, rfl, hF8, hC8, hS'⟩
     refine Za ?_
     replace hS := hS'
     clear hS'
     refine ZbV ?_
     refine Qfi rfl ?_ ?_
     ·refine Zai ?_
      refine Ze3 ?_
      rintro _ w9 ⟨A9, c9, F9, rfl, hF9, hC9, hS'⟩
      refine Za ?_
      replace hS := hS'
      clear hS'
      refine ZbV ?_
      refine ZcK ?_
      refine ZbP ?_
      clear hS
      intro b3 wx3 hS
      refine ZbV ?_
      refine Qbo ?_
      refine Zd ?_
      clear hS
      intro wx4 hS
      refine Zb ?_
      exact hmeet _ _ _ ⟨_, A8, c8, A9, c9, F9, rfl, fun φ h => hF9 φ (hF8 φ h), hC8.mono hF9, hC9, hS⟩ Yb Yc
     refine ZbP ?_
     clear hS
     intro b4 wx5 hS
     refine ZbV ?_
     refine Zao ?_
     refine Zai ?_
     refine Ze3 ?_
     rintro _ w9 ⟨A9, c9, F9, rfl, hF9, hC9, hS'⟩
     refine Za ?_
     replace hS := hS'
     clear hS'
     refine ZbV ?_
     refine ZcK ?_
     refine Qbo ?_
     refine Zd ?_
     clear hS
     intro wx6 hS
     refine Zb ?_
     exact hmeet _ _ _ ⟨_, A8, c8, A9, c9, F9, rfl, fun φ h => hF9 φ (hF8 φ h), hC8.mono hF9, hC9, hS⟩ Yb Yc
    refine ZbP ?_
    clear hS
    intro b5 wx7 hS
    refine ZbV ?_
    refine Zao ?_
    refine Zai ?_
    refine ZfK ?_
    rintro _ w8 ⟨A8, c8, F8, rfl, hF8, hC8, hS'⟩
    refine Za ?_
    replace hS := hS'
    clear hS'
    refine ZbV ?_
    refine Zao ?_
    refine Zai ?_
    refine Ze3 ?_
    rintro _ w9 ⟨A9, c9, F9, rfl, hF9, hC9, hS'⟩
    refine Za ?_
    replace hS := hS'
    clear hS'
    refine ZbV ?_
    refine ZcK ?_
    refine Qbo ?_
    refine Zd ?_
    clear hS
    intro wx8 hS
    refine Zb ?_
    exact hmeet _ _ _ ⟨_, A8, c8, A9, c9, F9, rfl, fun φ h => hF9 φ (hF8 φ h), hC8.mono hF9, hC9, hS⟩ Yb Yc
   clear hS
   rintro jv3 _ w9 ⟨b3, A8, c8, A9, c9, F9, rfl, hF9, hC8, hC9, hS⟩
   have hF29 : ∀ φ ∈ F2, φ ∈ F9 := fun φ h => hF9 φ (hF27 φ h)
   refine Zu ?_
   refine QB (St _ w0 [_] []) 15 ((0, true) :: (1, true) :: (2, true) :: (4, true) :: (5, true) :: (7, true) :: (8, true) :: (3, false) :: (6, false) :: (9, false) :: (10, false) :: (11, true) :: (12, true) :: (13, true) :: (14, true) :: []) Yc Yc (hS.drew.bare1) ?_
   replace hS := hS.drew
   first
    | refine Qd rfl (fun _ hS => Qb (k := 2) hS rfl rfl rfl (by first | exact .head | exact .tail .head | exact .tail (.tail .head) | exact .tail (.tail (.tail .head)) | exact .tail (.tail (.tail (.tail .head))) | exact .tail (.tail (.tail (.tail (.tail .head))))) Yf) rfl ?_
    | refine Qd rfl (fun _ hS => Qb (k := 2) hS rfl rfl rfl (by first | exact .head | exact .tail .head | exact .tail (.tail .head) | exact .tail (.tail (.tail .head)) | exact .tail (.tail (.tail (.tail .head))) | exact .tail (.tail (.tail (.tail (.tail .head))))) Ye) rfl ?_
    | refine Qd rfl (fun _ hS => QaQ rfl rfl rfl (by first | assumption | exact hct _ hS | exact hcm _ hS | exact hS.cell0 Ye) (by first | assumption | exact hct _ hS | exact hcm _ hS | exact hS.cell0 Ye)) rfl ?_
   refine Z7 ?_
   refine Z7 ?_
   refine Z7 ?_
   refine Zp ?_
   refine Zf ?_
   refine Calls.mono (Qgb Mk R A6 RA c6 rc _ (hS6'.mono hF9) (hR2.mono hF29) Ya hRl hS) ?_
   rintro _ w10 ⟨A10, c10, F10, rfl, hF10, hC10, hS'⟩
   refine Za ?_
   replace hS := hS'
   clear hS'
   refine ZbW ?_
   refine Zp ?_
   refine Zf ?_
   refine Calls.mono (Qgb Mk T A6 TA c6 tc _ ((hS6'.mono hF9).mono hF10) (hT.mono fun φ h => hF10 φ (hF29 φ (hF2 φ h))) Ya hTl hS) ?_
   rintro _ w11 ⟨A11, c11, F11, rfl, hF11, hC11, hS'⟩
   refine Za ?_
   replace hS := hS'
   clear hS'
   refine ZbW ?_
   refine Zp ?_
   refine Zf ?_
   refine Calls.mono (QsT N h.tr.length hNl K A7 KA c7 kc _ (hS7.mono fun φ h => hF11 φ (hF10 φ (hF9 φ h))) (hK.mono fun φ h => hF11 φ (hF10 φ (hF29 φ (hF2 φ h)))) Ya hKl hS) ?_
   rintro _ w12 ⟨A12, c12, F12, rfl, hF12, hC12, hS'⟩
   refine Za ?_
   replace hS := hS'
   clear hS'
   refine ZbW ?_
   refine Zp ?_
   refine Zd ?_
   clear hS
   intro wx9 hS
   refine ZbW ?_
   refine Zcc ?_
   refine Zcc ?_
   refine Zct ?_
   refine Ze1 ?_
   refine ⟨A8, c8, A9, c9, A10, A11, A12, c10, c11, c12, F12, rfl, fun φ h => hF12 φ (hF11 φ (hF10 φ (hF29 φ (hF2 φ h)))), ?_, hC10.mono (fun φ h => hF12 φ (hF11 φ h)), hC11.mono hF12, hC12, hS.drop.drop.drop⟩
   exact fun w' hw => ⟨(hC8.mono fun φ h => hF12 φ (hF11 φ (hF10 φ h))) w' hw, (hC9.mono fun φ h => hF12 φ (hF11 φ (hF10 φ h))) w' hw⟩
end
section
variable {M : List Nat} {w0 : World} {H : List (Nat × Obj)} {F : List (World → Prop)}
def Qva (M : List Nat) (w0 : World) (H : List (Nat × Obj)) (F : List (World → Prop)) (h : HH) (k : Option Addr → Nat → Option Addr → Nat → Ending → Prop) (e : Ending) (w : World) : Prop :=
 ∃ (A : Option Addr) (c : Nat) (B : Option Addr) (d : Nat) (F' : List (World → Prop)), k A c B d e ∧ (∀ φ ∈ F, φ ∈ F') ∧ Und F' (HFl h A c B d) ∧ St M w0 H F' w
theorem QnK (h : HH) (K : List HC) (A B A2 : Option Addr) (c d c2 : Nat) (w : World) (hH : Und F (HFl h A c B d)) (hK : Und F (Qz 3 (Q6 K) A2 K.length c2)) (hS : St M w0 H F w) :
  Calls Tryz.prog 90 #[hv h A c B d, .slice A2 K.length c2] w (Qva M w0 H F (Q3 h K).1 fun A' c' B' d' e => e = .returned (.tuple #[hv (Q3 h K).1 A' c' B' d', .int .i64 ((Q3 h K).2.1 : Nat), .int .i64 (Q3 h K).2.2])) := by
 refine Qg Tryz.func90 rfl Tryz.ntmps90 rfl ?_
 refine Zi ?_
 clear hS
 intro b1 wx1 hS
 refine Za3 ?_
 clear hS
 intro b2 wx2 hS
 refine Zl ?_
 refine Zbd ?_
 refine Z9 ?_
 refine Zdj ?_
 rintro _ w2 ⟨rfl, hb2⟩
 refine Za ?_
 replace hS := hS.grow hb2
 cases hg : QF h with
 | false =>
  have e0 : Q3 h K = (h, 0, 1) := by unfold Q3; rw [hg]; rfl
  rw [e0]
  refine Zah ?_
  refine Zaq ?_
  refine Zan ?_
  refine Zdm ?_
  clear hS
  intro wx3 hS
  refine Zl ?_
  refine Zem ?_
  exact ⟨A, c, B, d, F, rfl, fun _ h => h, hH, hS.drop.drop⟩
 | true =>
 obtain ⟨hl1, hl2⟩ := Qdd hg
 refine Zda ?_
 refine Zk ?_
 refine Calls.mono (Qft K A2 c2 _ (hS.und hK)) ?_
 rintro _ w3 ⟨rfl, hb3⟩
 refine Za ?_
 replace hS := hS.grow hb3
 cases hgk : Q4 K with
 | false =>
  have e0 : Q3 h K = (h, 0, 1) := by unfold Q3; rw [hg, hgk]; rfl
  rw [e0]
  refine Zbm ?_
  refine Zdm ?_
  clear hS
  intro wx3 hS
  refine Zl ?_
  refine Zem ?_
  exact ⟨A, c, B, d, F, rfl, fun _ h => h, hH, hS.drop.drop⟩
 | true =>
 have hlk : K.length ≤ 65536 := by
  unfold Q4 at hgk
  simp only [Bool.and_eq_true, decide_eq_true_eq] at hgk
  exact hgk.1
 by_cases hlong : 65536 < h.cs.length + K.length
 ·have e0 : Q3 h K = (h, 0, 3) := by unfold Q3; rw [hg, hgk, if_neg Yg, if_pos hlong]
  rw [e0]
  refine Zbm ?_
  refine Z8 ?_
  refine ZdV ?_
  refine Zs ?_
  refine ZA ?_
  refine ZaG ?_
  refine Zz ?_
  refine ZP ?_
  refine ZC ?_
  refine Zg ?_
  refine Zd2 ?_
  clear hS
  intro wx3 hS
  refine Zl ?_
  refine Zem ?_
  exact ⟨A, c, B, d, F, rfl, fun _ h => h, hH, hS.drop.drop⟩
 have e0 : Q3 h K = (⟨h.cs ++ K.map (Q0 h.cs.length), h.tr⟩, h.cs.length, 0) := by unfold Q3; rw [hg, hgk, if_neg Yg, if_neg hlong]
 rw [e0]
 refine Zbm ?_
 refine Z8 ?_
 refine ZdV ?_
 refine Zs ?_
 refine ZA ?_
 refine ZaG ?_
 refine Zz ?_
 refine ZP ?_
 refine Zq ?_
 refine ZdV ?_
 refine Ze ?_
 refine QaK (cells := [_, _]) hS (.cons Yb (.cons Yb .nil)) rfl rfl ?_
 clear hS
 intro b3 wx3 hS
 refine Zk ?_
 refine Calls.mono (Qo7 h.cs K A A2 c c2 _ _ (hH.imp fun _ h => h.1) hK Ya hS) ?_
 rintro _ w4 ⟨A4, c4, O4, rfl, hrow4, hS'⟩
 refine Za ?_
 replace hS := hS'
 clear hS'
 have hcl : (h.cs ++ K).length = h.cs.length + K.length := by simp
 have hc4 : h.cs.length ≤ c4 := by obtain ⟨_, _, e, hle⟩ := hrow4.form; cases e; omega
 have hn : (((h.cs ++ K).length - ((h.cs.length : Nat) : Int).toNat : Nat) : Int) = ((K.length : Nat) : Int) := by rw [hcl]; omega
 refine ZA ?_
 refine Ze ?_
 first
  | refine Qa (QdD (sz := 3) rfl rfl rfl rfl Ya Ya Ya) rfl ?_
  | refine Qa (QbF (sz := 3) rfl rfl rfl rfl Ya Ya) rfl ?_
 refine Z6 ?_
 rw [hn]
 refine Qo 38 (39 :: 40 :: 9 :: 41 :: 42 :: 43 :: 44 :: 45 :: 10 :: 46 :: 47 :: 48 :: 49 :: 50 :: 51 :: 52 :: 53 :: 54 :: 55 :: 56 :: 57 :: 58 :: 59 :: []) (fun (R : List HC) v w' => ∃ (D : List HC) (O : List (Nat × Obj)), K = D ++ R ∧ v = .int .i64 (D.length : Nat) ∧ Rw 104 3 (.slice A4 (h.cs ++ K).length c4) (h.cs ++ K).length (Q6 ((h.cs ++ D.map (Q0 h.cs.length)) ++ R)) O ∧ St M w0 (O ++ (b2, hob none 0 0 none 0 0) :: (b1, hob A h.cs.length c B h.tr.length d) :: H) F w') (fun R => R.length) (K) ?_ Yb ?_
 ·exact ⟨[], O4, rfl, rfl, by simpa using hrow4, hS⟩
 clear hS
 rintro R _ w5 jv ⟨D, O, hD, rfl, hrow, hS⟩ ih
 have hlen : K.length = D.length + R.length := by rw [hD]; simp
 cases R with
 | nil =>
  simp only [List.length_nil] at hlen
  have hKD : K = D := by simpa using hD
  subst hKD
  rw [List.append_nil] at hrow
  have hS2 := St.freezeR hrow hS
  have hl5 : (h.cs ++ K.map (Q0 h.cs.length)).length = (h.cs ++ K).length := by simp
  replace hS := hS2
  clear hS2
  refine ZL ?_
  refine Zm ?_
  refine ZE ?_
  refine Zo ?_
  refine ZfL ?_
  refine Ze ?_
  refine Zd ?_
  clear hS
  intro wx4 hS
  refine Zl ?_
  refine Zem ?_
  refine ⟨A4, c4, B, d, _, ?_, fun φ h => .tail _ h, ?_, hS.drop.drop⟩
  ·dsimp only [hv, Qj9]; rw [hl5]
  ·intro w' hw
   refine ⟨?_, ((hH.tail) w' hw).2⟩
   have := hw _ (.head _)
   rw [← hl5] at this
   exact this
 | cons x R =>
  simp only [List.length_cons] at hlen
  obtain ⟨g, sp, hA4, hO, hcap, hle, _⟩ := hrow.some_ Ya
  subst hA4 hO
  have hi : ((h.cs ++ D.map (Q0 h.cs.length)) ++ x :: R)[((h.cs.length : Int) + ((D.length : Nat) : Int)).toNat]? = some x := by
   rw [show ((h.cs.length : Int) + ((D.length : Nat) : Int)).toNat = (h.cs ++ D.map (Q0 h.cs.length)).length by simp; omega]; simp
  have hcc : ∀ w', St M w0 ([(g, .cells (Q6 ((h.cs ++ D.map (Q0 h.cs.length)) ++ x :: R) ++ sp).toArray 104)] ++ (b2, hob none 0 0 none 0 0) :: (b1, hob A h.cs.length c B h.tr.length d) :: H) F w' → _ := fun w' hS => Qz.cell (b := g) (o := 0) (L := (h.cs ++ D.map (Q0 h.cs.length)) ++ x :: R) (cap := c4) (by have := hrow.flat hS; rw [show (h.cs ++ K).length = ((h.cs ++ D.map (Q0 h.cs.length)) ++ x :: R).length by rw [hD]; simp] at this; exact this) hi
  by_cases hk : x.k = 0
  ·have hxn : 0 ≤ x.n ∧ x.n ≤ 65536 := by
    unfold Q4 at hgk
    simp only [Bool.and_eq_true, decide_eq_true_eq] at hgk
    have hgc : Q5 K.length x R.length = true := by
     cases hq : Q5 K.length x R.length with
     | true => rfl
     | false => have := QeQ (D := D) hq; rw [← hD, hgk.2] at this; cases this
    unfold Q5 at hgc
    rw [if_pos hk] at hgc
    simp only [Bool.and_eq_true, decide_eq_true_eq] at hgc
    omega
   refine ZaY ?_
   refine ZcA ?_
   refine ZaI ?_
   refine Zc ?_
   refine Zak ?_
   refine ZF ?_
   refine Zn ?_
   refine ZbF ?_
   refine Za8 ?_
   refine Zbk ?_
   refine Zz ?_
   refine Za8 ?_
   have hput := Qka ((h.cs ++ D.map (Q0 h.cs.length)) ++ x :: R) sp ((h.cs.length : Int) + ((D.length : Nat) : Int)).toNat (x.n + (h.cs.length : Nat)) Yh
   rw [show Qep ((h.cs ++ D.map (Q0 h.cs.length)) ++ x :: R) ((h.cs.length : Int) + ((D.length : Nat) : Int)).toNat (x.n + (h.cs.length : Nat)) = (h.cs ++ D.map (Q0 h.cs.length)) ++ (Q0 h.cs.length x) :: R by
    rw [show ((h.cs.length : Int) + ((D.length : Nat) : Int)).toNat = (h.cs ++ D.map (Q0 h.cs.length)).length by simp; omega, Qsg]
    unfold Q0; rw [if_pos hk]] at hput
   refine Q8 hS rfl Yb rfl rfl .head (by rw [Nat.zero_add]; exact hput) .head ?_
   clear hS
   intro w6 hS
   refine Zam ?_
   refine ih (R) _ _ _ ?_ ?_ Yb Yc
   ·simp
   ·refine ⟨D ++ [x], [(g, .cells (Q6 ((h.cs ++ D.map (Q0 h.cs.length)) ++ (Q0 h.cs.length x) :: R) ++ sp).toArray 104)], by rw [hD]; simp, by simp, ?_, hS⟩
    rw [show h.cs ++ (D ++ [x]).map (Q0 h.cs.length) ++ R = (h.cs ++ D.map (Q0 h.cs.length)) ++ (Q0 h.cs.length x) :: R by simp]
    refine Rw.own_ ?_ ?_ hle Ya
    ·rw [Q9]; congr 1; rw [hD]; simp
    ·rw [← hcap]; simp only [List.length_append, Q9, List.length_cons]
  ·refine ZaY ?_
   refine ZcA ?_
   refine ZaI ?_
   refine Zc ?_
   refine Zak ?_
   refine ZF ?_
   refine Zn ?_
   refine ZbM ?_
   refine ih (R) _ _ _ ?_ ?_ Yb Yc
   ·simp
   ·refine ⟨D ++ [x], _, by rw [hD]; simp, by simp, ?_, hS⟩
    rw [show h.cs ++ (D ++ [x]).map (Q0 h.cs.length) ++ R = (h.cs ++ D.map (Q0 h.cs.length)) ++ x :: R by simp [Q0, hk]]
    exact hrow
theorem QkK : ∀ (T : List Int) (L : List HC), (Qbj L T).length = L.length
 | [], L => rfl
 | a :: r, L => by unfold Qbj; rw [QkK r, QbE]
theorem Qni (h : HH) (n : Int) (A B : Option Addr) (c d : Nat) (w : World) (hH : Und F (HFl h A c B d)) (hS : St M w0 H F w) :
  Calls Tryz.prog 189 #[hv h A c B d, .int .i64 n] w (Qva M w0 H F (QcA h n).1 fun A' c' B' d' e => e = .returned (.tuple #[hv (QcA h n).1 A' c' B' d', .int .i64 (QcA h n).2])) := by
 refine Qg Tryz.func189 rfl Tryz.ntmps189 rfl ?_
 refine Zi ?_
 clear hS
 intro b1 wx1 hS
 refine Za3 ?_
 clear hS
 intro b2 wx2 hS
 refine Z0 ?_
 refine Zg ?_
 refine Zbv ?_
 refine Zdj ?_
 rintro _ w2 ⟨rfl, hb2⟩
 refine Za ?_
 replace hS := hS.grow hb2
 cases hg : QF h with
 | false =>
  have e0 : QcA h n = (h, 1) := by unfold QcA; rw [if_pos hg]
  rw [e0]
  refine Za1 ?_
  refine Zbv ?_
  refine Zd ?_
  clear hS
  intro wx3 hS
  refine Zc ?_
  refine Zen ?_
  exact ⟨A, c, B, d, F, rfl, fun _ h => h, hH, hS.drop.drop⟩
 | true =>
 obtain ⟨hl1, hl2⟩ := Qdd hg
 by_cases hn0 : n < 0
 ·have e0 : QcA h n = (h, 2) := by unfold QcA; rw [if_neg (by rw [hg]; decide), if_pos (.inl hn0)]
  rw [e0]
  refine Zca ?_
  refine Zr ?_
  refine Zc5 ?_
  refine Zas ?_
  refine Zbv ?_
  refine Zd ?_
  clear hS
  intro wx3 hS
  refine Zc ?_
  refine Zen ?_
  exact ⟨A, c, B, d, F, rfl, fun _ h => h, hH, hS.drop.drop⟩
 by_cases hn1 : (h.tr.length : Int) < n
 ·have e0 : QcA h n = (h, 2) := by unfold QcA; rw [if_neg (by rw [hg]; decide), if_pos (.inr hn1)]
  rw [e0]
  refine Zca ?_
  refine ZaM ?_
  refine ZE ?_
  refine Zdh ?_
  refine Zv ?_
  refine Zb6 ?_
  refine Zas ?_
  refine Zbv ?_
  refine Zd ?_
  clear hS
  intro wx3 hS
  refine Zc ?_
  refine Zen ?_
  exact ⟨A, c, B, d, F, rfl, fun _ h => h, hH, hS.drop.drop⟩
 have e0 : QcA h n = (⟨Qbj h.cs (h.tr.drop n.toNat), h.tr.take n.toNat⟩, 0) := by unfold QcA; rw [if_neg (by rw [hg]; decide), if_neg Ya]
 rw [e0]
 have hd : h.tr.length ≤ d := by have := (hS.und hH).2.2.1; exact this
 have hT : Und F (Qz 1 (Qm h.tr) B h.tr.length d) := hH.imp fun _ h => h.2
 have htr : ∀ a ∈ h.tr, 0 ≤ a ∧ a < h.cs.length := by
  unfold QF QbQ at hg
  simp only [Bool.and_eq_true, List.all_eq_true] at hg
  intro a ha
  have := hg.2.2 a ha
  unfold Qax at this
  split at this
  ·rename_i x hx; have := QcD hx; exact ⟨this.1, this.2.1⟩
  ·cases this
 refine Zca ?_
 refine ZaM ?_
 refine ZE ?_
 refine Zdh ?_
 refine Zv ?_
 refine Zb6 ?_
 refine Z8 ?_
 refine ZbK ?_
 refine Zk ?_
 refine Calls.mono (Qjv h.cs A c _ (hH.imp fun _ h => h.1) Ya hS) ?_
 rintro _ w3 ⟨A3, c3, O3, rfl, hrow3, hS'⟩
 refine Za ?_
 replace hS := hS'
 clear hS'
 replace hS := hS.perm (List.perm_append_comm_assoc O3 [_, _] _)
 have hnn : ((h.tr.length - n.toNat : Nat) : Int) = (((h.tr.drop n.toNat).length : Nat) : Int) := by simp
 refine Z0 ?_
 refine ZaB ?_
 refine Zbk ?_
 first
  | refine Qa (QdD (sz := 1) rfl rfl rfl rfl Ya Ya Ya) rfl ?_
  | refine Qa (QbF (sz := 1) rfl rfl rfl rfl Ya Ya) rfl ?_
 refine Z6 ?_
 rw [hnn]
 refine Qo 31 (32 :: 33 :: 34 :: 8 :: 35 :: 36 :: 37 :: 38 :: 39 :: 40 :: []) (fun (R : List Int) v w' => ∃ (D : List Int) (L : List HC) (O : List (Nat × Obj)), h.tr.drop n.toNat = D ++ R ∧ v = .int .i64 (D.length : Nat) ∧ L.length = h.cs.length ∧ Qbj h.cs (h.tr.drop n.toNat) = Qbj L R ∧ Rw 104 3 (.slice A3 h.cs.length c3) h.cs.length (Q6 L) O ∧ St M w0 ((b2, hob none 0 0 none 0 0) :: (b1, hob A h.cs.length c B h.tr.length d) :: (O ++ H)) F w') (fun R => R.length) (h.tr.drop n.toNat) ?_ Yb ?_
 ·exact ⟨[], h.cs, O3, rfl, rfl, rfl, rfl, hrow3, hS⟩
 clear hS
 rintro R _ w5 jv ⟨D, L, O, hD, rfl, hLl, hund, hrow, hS⟩ ih
 have hlen : (h.tr.drop n.toNat).length = D.length + R.length := by rw [hD]; simp
 cases R with
 | nil =>
  simp only [List.length_nil] at hlen
  have hS2 := St.freezeR hrow (hS.perm (List.perm_append_comm_assoc [_, _] O _))
  replace hS := hS2
  clear hS2
  have hul := QkK (h.tr.drop n.toNat) h.cs
  refine ZL ?_
  refine Zm ?_
  refine ZE ?_
  refine Zbk ?_
  refine Qa (QM (sz := 1) rfl rfl rfl rfl Ya Ya) rfl ?_
  refine Zk ?_
  refine Calls.mono (Qrc n.toNat d B _ Ya) ?_
  rintro _ w6 ⟨rfl, hb6⟩
  refine Za ?_
  replace hS := hS.grow hb6
  refine ZfL ?_
  refine Zd ?_
  clear hS
  intro wx3 hS
  refine Zc ?_
  refine Zen ?_
  refine ⟨A3, c3, B, n.toNat, _, ?_, fun φ h => .tail _ h, ?_, hS.drop.drop⟩
  ·dsimp only [hv, Qj9]; rw [hul, List.length_take, Nat.min_eq_left Ya]
  ·intro w' hw
   refine ⟨?_, ?_⟩
   ·have := hw _ (.head _)
    show Qz 3 (Q6 (Qbj h.cs (h.tr.drop n.toNat))) A3 (Qbj h.cs (h.tr.drop n.toNat)).length c3 w'
    rw [hul, hund]; exact this
   ·have := ((hT.tail) w' hw).take (m := n.toNat) (c' := n.toNat) Ya (Nat.le_refl _)
    show Qz 1 (Qm (h.tr.take n.toNat)) B (h.tr.take n.toNat).length n.toNat w'
    rw [List.length_take, Nat.min_eq_left Ya, show Qm (h.tr.take n.toNat) = (Qm h.tr).take (n.toNat * 1) by simp [Qm, List.map_take]]
    exact this
 | cons x R =>
  simp only [List.length_cons] at hlen
  have hxm : x ∈ h.tr := List.mem_of_mem_drop (i := n.toNat) (by rw [hD]; simp)
  obtain ⟨hx0, hx1⟩ := htr x hxm
  obtain ⟨g, sp, hA4, hO, hcap, hle, _⟩ := hrow.some_ Ya
  subst hA4 hO
  obtain ⟨bt, ot, rfl⟩ := (hS.und hT).some_ (by simp at hlen; omega)
  have hlt : n < (d : Int) := by simp at hlen; omega
  have hxi : h.tr[n.toNat + D.length]? = some x := by
   have : (h.tr.drop n.toNat)[D.length]? = some x := by rw [hD]; simp
   rwa [List.getElem?_drop] at this
  have hct : ∀ {H'} w', St M w0 H' F w' → w'.cell? ⟨bt, ot + n.toNat * 1 + ((D.length : Nat) : Int).toNat * 1, none⟩ = some (.int .i64 x) := fun w' hS => by
   have := (hS.und hT).int hxi
   rw [show ot + n.toNat * 1 + ((D.length : Nat) : Int).toNat * 1 = ot + (n.toNat + D.length) * 1 by omega]; exact this
  rw [if_neg (show ¬ d = n.toNat by omega), Option.map_some, Qaa] at ih ⊢
  have hput := Qka L sp x.toNat x Ya
  refine ZbL ?_
  refine Zbg ?_
  refine Zc ?_
  refine Z1 ?_
  refine Zdk ?_
  refine ZE ?_
  refine Q8 hS rfl Yb rfl rfl (.tail (.tail .head)) (by rw [Nat.zero_add]; exact hput) (.tail (.tail .head)) ?_
  clear hS
  intro w6 hS
  refine Zam ?_
  refine ih (R) _ _ _ ?_ ?_ Yb Yc
  ·simp
  ·refine ⟨D ++ [x], Qep L x.toNat x, [(g, .cells (Q6 (Qep L x.toNat x) ++ sp).toArray 104)], by rw [hD]; simp, by simp, by rw [QbE, hLl], by rw [hund]; rfl, ?_, hS⟩
   refine Rw.own_ ?_ ?_ hle Ya
   ·rw [Q9, QbE, hLl]
   ·rw [← hcap]; simp only [List.length_append, Q9, QbE]
theorem Qup (h : HH) (n : Int) (A B : Option Addr) (c d : Nat) (w : World) (hH : Und F (HFl h A c B d)) (hS : St M w0 H F w) :
  Calls Tryz.prog 190 #[hv h A c B d, .int .i64 n] w (Qva M w0 H F (QlN h n).1 fun A' c' B' d' e => e = .returned (.tuple #[hv (QlN h n).1 A' c' B' d', .int .i64 (QlN h n).2])) := by
 refine Qg Tryz.func190 rfl Tryz.ntmps190 rfl ?_
 refine Zi ?_
 clear hS
 intro b1 wx1 hS
 refine Za3 ?_
 clear hS
 intro b2 wx2 hS
 refine Z0 ?_
 refine Zg ?_
 refine ZcF ?_
 refine Zdj ?_
 rintro _ w2 ⟨rfl, hb2⟩
 refine Za ?_
 replace hS := hS.grow hb2
 cases hg : QF h with
 | false =>
  have e0 : QlN h n = (h, 1) := by unfold QlN; rw [if_pos hg]
  rw [e0]
  refine Za1 ?_
  refine Zdl ?_
  clear hS
  intro wx3 hS
  refine Zc ?_
  refine ZdK ?_
  exact ⟨A, c, B, d, F, rfl, fun _ h => h, hH, hS.drop.drop⟩
 | true =>
 obtain ⟨hl1, hl2⟩ := Qdd hg
 by_cases hn0 : n < 0
 ·have e0 : QlN h n = (h, 2) := by unfold QlN; rw [if_neg (by rw [hg]; decide), if_pos (.inl hn0)]
  rw [e0]
  refine Zca ?_
  refine Zr ?_
  refine Zc5 ?_
  refine Zas ?_
  refine Zdl ?_
  clear hS
  intro wx3 hS
  refine Zc ?_
  refine ZdK ?_
  exact ⟨A, c, B, d, F, rfl, fun _ h => h, hH, hS.drop.drop⟩
 by_cases hn1 : (h.cs.length : Int) < n
 ·have e0 : QlN h n = (h, 2) := by unfold QlN; rw [if_neg (by rw [hg]; decide), if_pos (.inr hn1)]
  rw [e0]
  refine Zca ?_
  refine ZaM ?_
  refine Zbr ?_
  refine Zbg ?_
  refine Zv ?_
  refine Zb6 ?_
  refine Zas ?_
  refine Zdl ?_
  clear hS
  intro wx3 hS
  refine Zc ?_
  refine ZdK ?_
  exact ⟨A, c, B, d, F, rfl, fun _ h => h, hH, hS.drop.drop⟩
 have hc : h.cs.length ≤ c := (hS.und hH).1.2.1
 have hCut : Und F (HFl ⟨h.cs.take n.toNat, h.tr⟩ A n.toNat B d) := hH.imp fun w' h1 => by
  refine ⟨?_, h1.2⟩
  have := h1.1.take (m := n.toNat) (c' := n.toNat) Ya (Nat.le_refl _)
  show Qz 3 (Q6 (h.cs.take n.toNat)) A (h.cs.take n.toNat).length n.toNat w'
  rw [List.length_take, Nat.min_eq_left Ya]
  rw [show Q6 (h.cs.take n.toNat) = (Q6 h.cs).take (n.toNat * 3) by
   rw [← List.take_append_drop n.toNat h.cs, QbG, List.take_append_drop]
   rw [show n.toNat * 3 = (Q6 (h.cs.take n.toNat)).length by rw [Q9, List.length_take, Nat.min_eq_left Ya]]
   simp]
  exact this
 have hln : (h.cs.take n.toNat).length = n.toNat := by rw [List.length_take, Nat.min_eq_left Ya]
 refine Zca ?_
 refine ZaM ?_
 refine Zbr ?_
 refine Zbg ?_
 refine Zv ?_
 refine Zb6 ?_
 refine Z8 ?_
 refine Zu ?_
 refine Qei 6 (21 :: 22 :: 23 :: 24 :: 25 :: 26 :: 27 :: 28 :: []) (fun v w' => ∃ b3, v = .pointer (some ⟨b3, 0, none⟩) ∧ St M w0 ((b3, hob A n.toNat n.toNat B h.tr.length d) :: (b2, hob none 0 0 none 0 0) :: (b1, hob A h.cs.length c B h.tr.length d) :: H) F w') ?_ ?_
 ·intro hmeet
  refine QcU (St _ _ _ _) 9 (.read 0 (.read 1 (.read 2 (.read 3 (.read 5 (.read 6 (.pick 4 (.read 7 (.pick 8 .tail .none)) (.pick 8 (.pick 4 (.read 7 .tail) .none) .none)))))))) Yc Yc hS.drew ?_
  replace hS := hS.drew
  refine ZcJ ?_
  refine ZfM ?_
  refine Za7 ?_
  refine Qv rfl (fun _ hS => QM (sz := 3) rfl rfl rfl rfl Ya Ya) rfl ?_
  refine Ze2 ?_
  refine ZfM ?_
  refine Qfi rfl ?_ ?_
  ·refine Zk ?_
   refine Calls.mono (Qn6 n.toNat c A _ Ya hS) ?_
   rintro _ w3 ⟨rfl, hS'⟩
   refine Za ?_
   replace hS := hS'
   clear hS'
   refine Zeo ?_
   refine ZcK ?_
   refine ZbP ?_
   clear hS
   intro b3 wx3 hS
   refine Zeo ?_
   refine Qbo ?_
   refine Zd ?_
   clear hS
   intro wx4 hS
   refine Zb ?_
   exact hmeet _ _ _ ⟨_, rfl, hS⟩ Yb Yc
  refine ZbP ?_
  clear hS
  intro b4 wx5 hS
  refine Zeo ?_
  refine Zao ?_
  refine Zk ?_
  refine Calls.mono (Qn6 n.toNat c A _ Ya hS) ?_
  rintro _ w3 ⟨rfl, hS'⟩
  refine Za ?_
  replace hS := hS'
  clear hS'
  refine Zeo ?_
  refine ZcK ?_
  refine Qbo ?_
  refine Zd ?_
  clear hS
  intro wx6 hS
  refine Zb ?_
  exact hmeet _ _ _ ⟨_, rfl, hS⟩ Yb Yc
 clear hS
 rintro jv _ w3 ⟨b3, rfl, hS⟩
 have hgc := QnZ ⟨h.cs.take n.toNat, h.tr⟩ A B n.toNat d
 dsimp only [hv, Qj9] at hgc
 rw [hln] at hgc
 refine Zbd ?_
 refine ZcF ?_
 refine Zk ?_
 refine Calls.mono (hgc _ (hS.und hCut)) ?_
 rintro _ w4 ⟨rfl, hb4⟩
 refine Za ?_
 replace hS := hS.grow hb4
 cases hg2 : QF ⟨h.cs.take n.toNat, h.tr⟩ with
 | false =>
  have e0 : QlN h n = (h, 1) := by unfold QlN; rw [if_neg (by rw [hg]; decide), if_neg Ya, if_pos hg2]
  rw [e0]
  refine Za1 ?_
  refine Zdl ?_
  clear hS
  intro wx7 hS
  refine Zc ?_
  refine ZdK ?_
  exact ⟨A, c, B, d, F, rfl, fun _ h => h, hH, hS.drop.drop.drop⟩
 | true =>
  have e0 : QlN h n = (⟨h.cs.take n.toNat, h.tr⟩, 0) := by unfold QlN; rw [if_neg (by rw [hg]; decide), if_neg Ya, if_neg (by rw [hg2]; decide)]
  rw [e0]
  refine ZV ?_
  refine Zg ?_
  refine Zdl ?_
  clear hS
  intro wx7 hS
  refine Zc ?_
  refine ZdK ?_
  refine ⟨A, n.toNat, B, d, F, ?_, fun _ h => h, hCut, hS.drop.drop.drop⟩
  dsimp only [hv, Qj9]; rw [hln]
end
end Go.Proofs.YthliapbflkfdiacGreatDoor
