/- Steps of the proof. -/
import Derived.Test.YthliapbflkfdiacGreatDoorG18
namespace Go.Proofs.YthliapbflkfdiacGreatDoor
open Go.RowKit
set_option linter.unusedVariables false
set_option linter.unusedSimpArgs false
set_option maxRecDepth 100000
set_option maxHeartbeats 1000000
theorem QgU {L : List HC} {a : Int} (h0 : 0 ≤ a) (h1 : a < L.length) : ∃ c, hat L a = some c ∧ L[a.toNat]? = some c := by
 refine ⟨L[a.toNat]'Ya, ?_, ?_⟩
 ·unfold hat; rw [if_pos h0]; exact List.getElem?_eq_getElem _
 ·exact List.getElem?_eq_getElem _
theorem QnY {L : List HC} {a : Int} (h : ¬ (0 ≤ a ∧ a < L.length)) : hat L a = none := by
 unfold hat
 split
 ·exact List.getElem?_eq_none Ya
 ·rfl
theorem QcD {L : List HC} {a : Int} {c : HC} (h : hat L a = some c) : 0 ≤ a ∧ a < L.length ∧ L[a.toNat]? = some c := by
 unfold hat at h
 split at h
 ·rename_i h0
  refine ⟨h0, ?_, h⟩
  rcases Nat.lt_or_ge a.toNat L.length with hl | hl
  ·omega
  ·rw [List.getElem?_eq_none hl] at h; cases h
 ·cases h
theorem Qcf {L : List HC} {a : Int} : Qj L a = true ↔ ∃ c, hat L a = some c := by
 unfold Qj
 simp only [Bool.and_eq_true, decide_eq_true_eq]
 constructor
 ·rintro ⟨h0, h1⟩; obtain ⟨c, h, _⟩ := QgU h0 h1; exact ⟨c, h⟩
 ·rintro ⟨c, h⟩; have := QcD h; exact ⟨this.1, this.2.1⟩
theorem Qbb (n c : Nat) (A B : Option Addr) (m d : Nat) (a : Int) (w : World) :
  Calls Tryz.prog 142 #[Qj9 A n c B m d, .int .i64 a] w fun e w' => e = .returned (.bool (decide (0 ≤ a) && decide (a < n))) ∧ Below w.heap.size w w' := by
 have hS := St.start w
 refine Qg Tryz.func142 rfl Tryz.ntmps142 rfl ?_
 by_cases h0 : 0 ≤ a
 ·by_cases h1 : a < n
  ·rw [decide_eq_true h0, decide_eq_true h1]
   refine Zi ?_
   clear hS
   intro b1 wx1 hS
   refine Z2 ?_
   refine ZW ?_
   refine Zaj ?_
   refine Zb4 ?_
   refine ZbA ?_
   refine Zr ?_
   refine ZN ?_
   refine ZeX ?_
   exact ⟨rfl, hS.ext.below⟩
  ·rw [decide_eq_true h0, decide_eq_false h1]
   refine Zi ?_
   clear hS
   intro b1 wx1 hS
   refine Z2 ?_
   refine ZW ?_
   refine Zaj ?_
   refine Zb4 ?_
   refine ZbA ?_
   refine Zr ?_
   refine ZN ?_
   refine ZeX ?_
   exact ⟨rfl, hS.ext.below⟩
 ·rw [decide_eq_false h0]
  refine Zi ?_
  clear hS
  intro b1 wx1 hS
  refine Z2 ?_
  refine ZW ?_
  refine Zc5 ?_
  refine ZN ?_
  refine ZeX ?_
  exact ⟨rfl, hS.ext.below⟩
theorem Qod (x : HC) (w : World) : Calls Tryz.prog 192 #[.agg (hcs x).toArray] w fun e w' => e = .returned (.int .i64 (QI x)) ∧ Below w.heap.size w w' := by
 have hS := St.start w
 refine Qh Tryz.func192 rfl Tryz.ntmps192 rfl ?_
 by_cases h : x.k = 3
 ·rw [show QI x = x.n by unfold QI; rw [if_pos h]]
  refine Zi ?_
  clear hS
  intro b1 wx1 hS
  refine ZcT ?_
  refine Zn ?_
  refine ZC ?_
  refine ZaB ?_
  refine Zdc ?_
  refine Qc Tryz.func192 rfl Yb ?_
  exact ⟨rfl, hS.ext.below⟩
 ·rw [show QI x = 0 by unfold QI; rw [if_neg h]]
  refine Zi ?_
  clear hS
  intro b1 wx1 hS
  refine ZcT ?_
  refine Zn ?_
  refine Zq ?_
  refine Zj ?_
  refine Qc Tryz.func192 rfl Yb ?_
  exact ⟨rfl, hS.ext.below⟩
theorem QlC (x : HC) (all follow : Nat) (w : World) : Calls Tryz.prog 186 #[.agg (hcs x).toArray, .int .i64 (all : Nat), .int .i64 (follow : Nat)] w fun e w' => e = .returned (.bool (Q5 all x follow)) ∧ Below w.heap.size w w' := by
 have hS := St.start w
 refine Q2 Tryz.func186 rfl Tryz.ntmps186 rfl ?_
 by_cases h0 : x.k = 0
 ·have e0 : Q5 all x follow = (decide (0 ≤ x.n) && (decide (x.n < all) && decide (x.s = eS))) := by unfold Q5; rw [if_pos h0]
  rw [e0]
  by_cases h1 : 0 ≤ x.n
  ·rw [decide_eq_true h1]
   by_cases h2 : x.n < all
   ·rw [decide_eq_true h2]
    by_cases h3 : x.s = eS
    ·rw [decide_eq_true h3]
     refine Zi ?_
     clear hS
     intro b1 wx1 hS
     refine ZcV ?_
     refine Zcy ?_
     refine Zx ?_
     refine Zr ?_
     refine ZS ?_
     refine Zdd ?_
     refine ZaP ?_
     refine Zcl ?_
     exact ⟨rfl, hS.ext.below⟩
    ·rw [decide_eq_false h3]
     have h3' : x.s ≠ eS := h3
     refine Zi ?_
     clear hS
     intro b1 wx1 hS
     refine ZcV ?_
     refine Zcy ?_
     refine Zx ?_
     refine Zr ?_
     refine ZS ?_
     refine Zdd ?_
     refine ZaP ?_
     refine Zcl ?_
     exact ⟨rfl, hS.ext.below⟩
   ·rw [decide_eq_false h2]
    refine Zi ?_
    clear hS
    intro b1 wx1 hS
    refine ZcV ?_
    refine Zcy ?_
    refine Zx ?_
    refine Zr ?_
    refine Zat ?_
    refine Zde ?_
    exact ⟨rfl, hS.ext.below⟩
  ·rw [decide_eq_false h1]
   refine Zi ?_
   clear hS
   intro b1 wx1 hS
   refine ZcV ?_
   refine Zfl ?_
   refine ZaX ?_
   refine Zat ?_
   refine Zde ?_
   exact ⟨rfl, hS.ext.below⟩
 by_cases h1 : x.k = 1
 ·have e0 : Q5 all x follow = (decide (x.n = 0) && !decide (x.s = eS)) := by unfold Q5; rw [if_neg h0, if_pos h1]
  rw [e0]
  by_cases h2 : x.n = 0
  ·rw [decide_eq_true h2]
   by_cases h3 : x.s = eS
   ·rw [decide_eq_true h3]
    refine Zi ?_
    clear hS
    intro b1 wx1 hS
    refine ZdY ?_
    refine Zb1 ?_
    refine Zn ?_
    refine Zdd ?_
    refine Za6 ?_
    refine Zcl ?_
    exact ⟨rfl, hS.ext.below⟩
   ·rw [decide_eq_false h3]
    have h3' : x.s ≠ eS := h3
    refine Zi ?_
    clear hS
    intro b1 wx1 hS
    refine ZdY ?_
    refine Zb1 ?_
    refine Zn ?_
    refine Zdd ?_
    refine Za6 ?_
    refine Zcl ?_
    exact ⟨rfl, hS.ext.below⟩
  ·rw [decide_eq_false h2]
   refine Zi ?_
   clear hS
   intro b1 wx1 hS
   refine ZdY ?_
   refine Zb1 ?_
   refine Zn ?_
   refine Zaq ?_
   refine Zde ?_
   exact ⟨rfl, hS.ext.below⟩
 by_cases h2 : x.k = 2
 ·have e0 : Q5 all x follow = decide (x.s = eS) := by unfold Q5; rw [if_neg h0, if_neg h1, if_pos h2]
  rw [e0]
  by_cases h3 : x.s = eS
  ·rw [decide_eq_true h3]
   refine Zi ?_
   clear hS
   intro b1 wx1 hS
   refine ZcX ?_
   refine ZcU ?_
   refine Zg ?_
   refine Zby ?_
   refine ZdW ?_
   refine Zd6 ?_
   exact ⟨rfl, hS.ext.below⟩
  ·rw [decide_eq_false h3]
   have h3' : x.s ≠ eS := h3
   refine Zi ?_
   clear hS
   intro b1 wx1 hS
   refine ZcX ?_
   refine ZcU ?_
   refine Zg ?_
   refine Zby ?_
   refine ZdW ?_
   refine Zd6 ?_
   exact ⟨rfl, hS.ext.below⟩
 by_cases h3 : x.k = 3
 ·have e0 : Q5 all x follow = (decide (1 ≤ x.n) && (decide (x.n ≤ 4) && (decide (x.n ≤ follow) && !decide (x.s = eS)))) := by unfold Q5; rw [if_neg h0, if_neg h1, if_neg h2, if_pos h3]
  rw [e0]
  by_cases h4 : 1 ≤ x.n
  ·rw [decide_eq_true h4]
   by_cases h5 : x.n ≤ 4
   ·rw [decide_eq_true h5]
    by_cases h6 : x.n ≤ follow
    ·rw [decide_eq_true h6]
     by_cases h7 : x.s = eS
     ·rw [decide_eq_true h7]
      refine Zi ?_
      clear hS
      intro b1 wx1 hS
      refine Zdf ?_
      refine Zcy ?_
      refine Zdg ?_
      refine ZeN ?_
      refine Zx ?_
      refine Zdg ?_
      refine Zdd ?_
      refine Za6 ?_
      refine Zcl ?_
      exact ⟨rfl, hS.ext.below⟩
     ·rw [decide_eq_false h7]
      have h7' : x.s ≠ eS := h7
      refine Zi ?_
      clear hS
      intro b1 wx1 hS
      refine Zdf ?_
      refine Zcy ?_
      refine Zdg ?_
      refine ZeN ?_
      refine Zx ?_
      refine Zdg ?_
      refine Zdd ?_
      refine Za6 ?_
      refine Zcl ?_
      exact ⟨rfl, hS.ext.below⟩
    ·rw [decide_eq_false h6]
     refine Zi ?_
     clear hS
     intro b1 wx1 hS
     refine Zdf ?_
     refine Zcy ?_
     refine Zdg ?_
     refine ZeN ?_
     refine Zx ?_
     refine Zdz ?_
     refine Zat ?_
     refine Zde ?_
     exact ⟨rfl, hS.ext.below⟩
   ·rw [decide_eq_false h5]
    refine Zi ?_
    clear hS
    intro b1 wx1 hS
    refine Zdf ?_
    refine Zcy ?_
    refine Zdg ?_
    refine ZaX ?_
    refine Zat ?_
    refine Zde ?_
    exact ⟨rfl, hS.ext.below⟩
  ·rw [decide_eq_false h4]
   refine Zi ?_
   clear hS
   intro b1 wx1 hS
   refine Zdf ?_
   refine Zfl ?_
   refine Zaq ?_
   refine Zan ?_
   refine ZS ?_
   refine ZaX ?_
   refine Zat ?_
   refine Zde ?_
   exact ⟨rfl, hS.ext.below⟩
 have e0 : Q5 all x follow = false := by unfold Q5; rw [if_neg h0, if_neg h1, if_neg h2, if_neg h3]
 rw [e0]
 refine Zi ?_
 clear hS
 intro b1 wx1 hS
 refine Zdf ?_
 refine Zar ?_
 refine ZbD ?_
 refine Zj ?_
 refine Zd6 ?_
 exact ⟨rfl, hS.ext.below⟩
theorem QeQ {all : Nat} : ∀ {D : List HC} {x : HC} {R : List HC}, Q5 all x R.length = false → QO all (D ++ x :: R) = false
 | [], x, R, h => by simp [QO, h]
 | y :: D, x, R, h => by simp [QO, QeQ (D := D) h]
theorem Qft (L : List HC) (A : Option Addr) (c : Nat) (w : World) (hL : Qz 3 (Q6 L) A L.length c w) :
  Calls Tryz.prog 140 #[.slice A L.length c] w fun e w' => e = .returned (.bool (Q4 L)) ∧ Below w.heap.size w w' := by
 have hS := (St.start w).flat (M := []) hL
 refine Qh Tryz.func140 rfl Tryz.ntmps140 rfl ?_
 by_cases hl : 65536 < L.length
 ·rw [show Q4 L = false by unfold Q4; rw [decide_eq_false Ya]; rfl]
  refine ZD ?_
  refine ZaF ?_
  refine Zae ?_
  refine ZeY ?_
  exact ⟨rfl, hS.ext.below⟩
 rw [show Q4 L = QO L.length L by unfold Q4; rw [decide_eq_true Ya]; rfl]
 refine ZD ?_
 refine ZaF ?_
 refine Zab ?_
 refine Z6 ?_
 refine Qo 10 (11 :: 12 :: 13 :: 14 :: 4 :: 3 :: 15 :: 16 :: 17 :: 18 :: 19 :: 20 :: 21 :: 22 :: 23 :: 24 :: 2 :: 25 :: []) (fun (R : List HC) v w' => ∃ D, L = D ++ R ∧ v = .int .i64 (D.length : Nat) ∧ QO L.length L = QO L.length R ∧ St [] w [] [Qz 3 (Q6 L) A L.length c] w') (fun R => R.length) (L) ?_ Yb ?_
 ·exact ⟨[], rfl, rfl, rfl, hS⟩
 clear hS
 rintro R _ w2 jv ⟨D, hD, rfl, hg, hS⟩ ih
 have hlen : L.length = D.length + R.length := by rw [hD]; simp
 cases R with
 | nil =>
  simp only [List.length_nil] at hlen
  refine Zcr ?_
  refine ZeY ?_
  rw [hg]
  exact ⟨rfl, hS.ext.below⟩
 | cons x R =>
  simp only [List.length_cons] at hlen
  obtain ⟨b, o, rfl⟩ := hL.some_ Ya
  have hx : L[D.length]? = some x := by rw [hD]; simp
  have hcc : ∀ {H'} w', St [] w H' [Qz 3 (Q6 L) (some ⟨b, o, none⟩) L.length c] w' → _ := fun w' hS => (hS.fact (.head _)).cell hx
  have hf : ((L.length : Int) - (D.length : Nat) - 1) = ((R.length : Nat) : Int) := by omega
  refine ZaV ?_
  refine ZaI ?_
  refine Zb8 ?_
  clear hS
  intro b1 wx1 hS
  refine ZbJ ?_
  clear hS
  intro wx2 hS
  refine Za0 ?_
  refine ZeP ?_
  refine ZaG ?_
  refine ZaG ?_
  refine Ze ?_
  refine Zay ?_
  refine Zay ?_
  rw [hf]
  refine Zai ?_
  refine Calls.mono (QlC x L.length R.length _) ?_
  rintro _ w3 ⟨rfl, hb3⟩
  refine Za ?_
  replace hS := hS.grow hb3
  cases hgc : Q5 L.length x R.length with
  | false =>
   refine Zbl ?_
   refine Zj ?_
   refine ZeY ?_
   rw [hg]
   refine ⟨?_, hS.ext.below⟩
   simp [QO, hgc]
  | true =>
   refine ZV ?_
   refine ZbZ ?_
   refine ih (R) _ _ _ ?_ ?_ Yb Yc
   ·simp
   ·refine ⟨D ++ [x], by rw [hD]; simp, by simp, ?_, hS.drop⟩
    rw [hg]; simp [QO, hgc]
theorem QmL {L : List HC} {a : Int} (h : hat L a = none) : ∀ f, QaN L f a = -1
 | 0 => rfl
 | f + 1 => by simp only [QaN, h]
end Go.Proofs.YthliapbflkfdiacGreatDoor
