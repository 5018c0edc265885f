/-
  Package heap, walked: address, bound, args, Good, Look. They only read.
-/
import Derived.Test.YthliapbflkfdiabZ0
import Derived.Test.YthliapbflkfdiabG7
namespace Go.Proofs.Ythliapbflkfdiab
open Go.RowKit
set_option linter.unusedVariables false
set_option linter.unusedSimpArgs false
set_option maxRecDepth 100000
set_option maxHeartbeats 1000000
theorem hat_some {L : List HC} {a : Int} (h0 : 0 ≤ a) (h1 : a < L.length) : ∃ c, hat L a = some c ∧ L[a.toNat]? = some c := by
 refine ⟨L[a.toNat]'(by omega), ?_, ?_⟩
 ·unfold hat; rw [if_pos h0]; exact List.getElem?_eq_getElem _
 ·exact List.getElem?_eq_getElem _
theorem hat_none {L : List HC} {a : Int} (h : ¬ (0 ≤ a ∧ a < L.length)) : hat L a = none := by
 unfold hat
 split
 ·exact List.getElem?_eq_none (by omega)
 ·rfl
theorem hat_get {L : List HC} {a : Int} {c : HC} (h : hat L a = some c) : 0 ≤ a ∧ a < L.length ∧ L[a.toNat]? = some c := by
 unfold hat at h
 split at h
 ·rename_i h0
  refine ⟨h0, ?_, h⟩
  rcases Nat.lt_or_ge a.toNat L.length with hl | hl
  ·omega
  ·rw [List.getElem?_eq_none hl] at h; cases h
 ·cases h
theorem isAddr_iff {L : List HC} {a : Int} : isAddr L a = true ↔ ∃ c, hat L a = some c := by
 unfold isAddr
 simp only [Bool.and_eq_true, decide_eq_true_eq]
 constructor
 ·rintro ⟨h0, h1⟩; obtain ⟨c, h, _⟩ := hat_some h0 h1; exact ⟨c, h⟩
 ·rintro ⟨c, h⟩; have := hat_get h; exact ⟨this.1, this.2.1⟩
theorem address_any (n c : Nat) (A B : Option Addr) (m d : Nat) (a : Int) (w : World) :
  Calls Try.prog 46 #[heapV A n c B m d, .int .i64 a] w fun e w' => e = .returned (.bool (decide (0 ≤ a) && decide (a < n))) ∧ Below w.heap.size w w' := by
 have hS := St.start w
 refine goes_enter2 Try.func46 rfl Try.ntmps46 rfl ?_
 by_cases h0 : 0 ≤ a
 ·by_cases h1 : a < n
  ·rw [decide_eq_true h0, decide_eq_true h1]
   refine Ze ?_
   clear hS
   intro b1 wx1 hS
   refine Zaa ?_
   refine Za2 ?_
   refine ZU ?_
   refine Zb4 ?_
   refine ZcW ?_
   refine ZW ?_
   refine Z4 ?_
   refine goes_ret1 Try.func46 rfl (by conv=>lhs;whnf) ?_
   exact ⟨rfl, hS.ext.below⟩
  ·rw [decide_eq_true h0, decide_eq_false h1]
   refine Ze ?_
   clear hS
   intro b1 wx1 hS
   refine Zaa ?_
   refine Za2 ?_
   refine ZU ?_
   refine Zb4 ?_
   refine ZcW ?_
   refine ZW ?_
   refine Z4 ?_
   refine goes_ret1 Try.func46 rfl (by conv=>lhs;whnf) ?_
   exact ⟨rfl, hS.ext.below⟩
 ·rw [decide_eq_false h0]
  refine Ze ?_
  clear hS
  intro b1 wx1 hS
  refine Zaa ?_
  refine Za2 ?_
  refine Zal ?_
  refine Z6 ?_
  refine Z4 ?_
  refine goes_ret1 Try.func46 rfl (by conv=>lhs;whnf) ?_
  exact ⟨rfl, hS.ext.below⟩
theorem args_any (x : HC) (w : World) : Calls Try.prog 59 #[.agg (hcs x).toArray] w fun e w' => e = .returned (.int .i64 (argsC x)) ∧ Below w.heap.size w w' := by
 have hS := St.start w
 refine goes_enter1 Try.func59 rfl Try.ntmps59 rfl ?_
 by_cases h : x.k = 3
 ·rw [show argsC x = x.n by unfold argsC; rw [if_pos h]]
  refine Ze ?_
  clear hS
  intro b1 wx1 hS
  refine Zbb ?_
  refine Zl ?_
  refine ZbW ?_
  refine ZD ?_
  refine Zb5 ?_
  refine goes_ret1 Try.func59 rfl (by conv=>lhs;whnf) ?_
  exact ⟨rfl, hS.ext.below⟩
 ·rw [show argsC x = 0 by unfold argsC; rw [if_neg h]]
  refine Ze ?_
  clear hS
  intro b1 wx1 hS
  refine Zbb ?_
  refine Zl ?_
  refine Zr ?_
  refine Zi ?_
  refine goes_ret1 Try.func59 rfl (by conv=>lhs;whnf) ?_
  exact ⟨rfl, hS.ext.below⟩
theorem goodCell_any (x : HC) (all follow : Nat) (w : World) : Calls Try.prog 87 #[.agg (hcs x).toArray, .int .i64 (all : Nat), .int .i64 (follow : Nat)] w fun e w' => e = .returned (.bool (goodC all x follow)) ∧ Below w.heap.size w w' := by
 have hS := St.start w
 refine goes_enter3 Try.func87 rfl Try.ntmps87 rfl ?_
 by_cases h0 : x.k = 0
 ·have e0 : goodC all x follow = (decide (0 ≤ x.n) && (decide (x.n < all) && decide (x.s = eS))) := by unfold goodC; rw [if_pos h0]
  rw [e0]
  by_cases h1 : 0 ≤ x.n
  ·rw [decide_eq_true h1]
   by_cases h2 : x.n < all
   ·rw [decide_eq_true h2]
    by_cases h3 : x.s = eS
    ·rw [decide_eq_true h3]
     refine Ze ?_
     clear hS
     intro b1 wx1 hS
     refine Zbb ?_
     refine Za9 ?_
     refine Zbr ?_
     refine Zo ?_
     refine ZW ?_
     refine Zy ?_
     refine Zb6 ?_
     refine ZdI ?_
     refine Zbq ?_
     exact ⟨rfl, hS.ext.below⟩
    ·rw [decide_eq_false h3]
     have h3' : x.s ≠ eS := h3
     refine Ze ?_
     clear hS
     intro b1 wx1 hS
     refine Zbb ?_
     refine Za9 ?_
     refine Zbr ?_
     refine Zo ?_
     refine ZW ?_
     refine Zy ?_
     refine Zb6 ?_
     refine ZdI ?_
     refine Zbq ?_
     exact ⟨rfl, hS.ext.below⟩
   ·rw [decide_eq_false h2]
    refine Ze ?_
    clear hS
    intro b1 wx1 hS
    refine Zbb ?_
    refine Za9 ?_
    refine Zbr ?_
    refine Zo ?_
    refine ZW ?_
    refine ZaW ?_
    refine Zb7 ?_
    exact ⟨rfl, hS.ext.below⟩
  ·rw [decide_eq_false h1]
   refine Ze ?_
   clear hS
   intro b1 wx1 hS
   refine Zbb ?_
   refine Za9 ?_
   refine Zd6 ?_
   refine Zal ?_
   refine ZaW ?_
   refine Zb7 ?_
   exact ⟨rfl, hS.ext.below⟩
 by_cases h1 : x.k = 1
 ·have e0 : goodC all x follow = (decide (x.n = 0) && !decide (x.s = eS)) := by unfold goodC; rw [if_neg h0, if_pos h1]
  rw [e0]
  by_cases h2 : x.n = 0
  ·rw [decide_eq_true h2]
   by_cases h3 : x.s = eS
   ·rw [decide_eq_true h3]
    refine Ze ?_
    clear hS
    intro b1 wx1 hS
    refine ZdD ?_
    refine ZbZ ?_
    refine Zl ?_
    refine Zb6 ?_
    refine Zc3 ?_
    refine Zbq ?_
    exact ⟨rfl, hS.ext.below⟩
   ·rw [decide_eq_false h3]
    have h3' : x.s ≠ eS := h3
    refine Ze ?_
    clear hS
    intro b1 wx1 hS
    refine ZdD ?_
    refine ZbZ ?_
    refine Zl ?_
    refine Zb6 ?_
    refine Zc3 ?_
    refine Zbq ?_
    exact ⟨rfl, hS.ext.below⟩
  ·rw [decide_eq_false h2]
   refine Ze ?_
   clear hS
   intro b1 wx1 hS
   refine ZdD ?_
   refine ZbZ ?_
   refine Zl ?_
   refine ZaJ ?_
   refine Zb7 ?_
   exact ⟨rfl, hS.ext.below⟩
 by_cases h2 : x.k = 2
 ·have e0 : goodC all x follow = decide (x.s = eS) := by unfold goodC; rw [if_neg h0, if_neg h1, if_pos h2]
  rw [e0]
  by_cases h3 : x.s = eS
  ·rw [decide_eq_true h3]
   refine Ze ?_
   clear hS
   intro b1 wx1 hS
   refine Zd7 ?_
   refine ZcV ?_
   refine Zd ?_
   refine Zb8 ?_
   refine Zd4 ?_
   refine Zc2 ?_
   exact ⟨rfl, hS.ext.below⟩
  ·rw [decide_eq_false h3]
   have h3' : x.s ≠ eS := h3
   refine Ze ?_
   clear hS
   intro b1 wx1 hS
   refine Zd7 ?_
   refine ZcV ?_
   refine Zd ?_
   refine Zb8 ?_
   refine Zd4 ?_
   refine Zc2 ?_
   exact ⟨rfl, hS.ext.below⟩
 by_cases h3 : x.k = 3
 ·have e0 : goodC all x follow = (decide (1 ≤ x.n) && (decide (x.n ≤ 4) && (decide (x.n ≤ follow) && !decide (x.s = eS)))) := by unfold goodC; rw [if_neg h0, if_neg h1, if_neg h2, if_pos h3]
  rw [e0]
  by_cases h4 : 1 ≤ x.n
  ·rw [decide_eq_true h4]
   by_cases h5 : x.n ≤ 4
   ·rw [decide_eq_true h5]
    by_cases h6 : x.n ≤ follow
    ·rw [decide_eq_true h6]
     by_cases h7 : x.s = eS
     ·rw [decide_eq_true h7]
      refine Ze ?_
      clear hS
      intro b1 wx1 hS
      refine Zb9 ?_
      refine Zbr ?_
      refine Zca ?_
      refine ZdE ?_
      refine Zo ?_
      refine Zca ?_
      refine Zb6 ?_
      refine Zc3 ?_
      refine Zbq ?_
      exact ⟨rfl, hS.ext.below⟩
     ·rw [decide_eq_false h7]
      have h7' : x.s ≠ eS := h7
      refine Ze ?_
      clear hS
      intro b1 wx1 hS
      refine Zb9 ?_
      refine Zbr ?_
      refine Zca ?_
      refine ZdE ?_
      refine Zo ?_
      refine Zca ?_
      refine Zb6 ?_
      refine Zc3 ?_
      refine Zbq ?_
      exact ⟨rfl, hS.ext.below⟩
    ·rw [decide_eq_false h6]
     refine Ze ?_
     clear hS
     intro b1 wx1 hS
     refine Zb9 ?_
     refine Zbr ?_
     refine Zca ?_
     refine ZdE ?_
     refine Zo ?_
     refine Zea ?_
     refine ZaW ?_
     refine Zb7 ?_
     exact ⟨rfl, hS.ext.below⟩
   ·rw [decide_eq_false h5]
    refine Ze ?_
    clear hS
    intro b1 wx1 hS
    refine Zb9 ?_
    refine Zbr ?_
    refine Zca ?_
    refine Zal ?_
    refine ZaW ?_
    refine Zb7 ?_
    exact ⟨rfl, hS.ext.below⟩
  ·rw [decide_eq_false h4]
   refine Ze ?_
   clear hS
   intro b1 wx1 hS
   refine Zb9 ?_
   refine Zd6 ?_
   refine ZaJ ?_
   refine Z6 ?_
   refine Zy ?_
   refine Zal ?_
   refine ZaW ?_
   refine Zb7 ?_
   exact ⟨rfl, hS.ext.below⟩
 have e0 : goodC all x follow = false := by unfold goodC; rw [if_neg h0, if_neg h1, if_neg h2, if_neg h3]
 rw [e0]
 refine Ze ?_
 clear hS
 intro b1 wx1 hS
 refine Zb9 ?_
 refine ZcR ?_
 refine ZaI ?_
 refine ZaQ ?_
 refine Zi ?_
 refine Zc2 ?_
 exact ⟨rfl, hS.ext.below⟩
theorem goodL_false {all : Nat} : ∀ {D : List HC} {x : HC} {R : List HC}, goodC all x R.length = false → goodL all (D ++ x :: R) = false
 | [], x, R, h => by simp [goodL, h]
 | y :: D, x, R, h => by simp [goodL, goodL_false (D := D) h]
theorem goodCells_any (L : List HC) (A : Option Addr) (c : Nat) (w : World) (hL : Flat 3 (hcsL L) A L.length c w) :
  Calls Try.prog 66 #[.slice A L.length c] w fun e w' => e = .returned (.bool (goodCs L)) ∧ Below w.heap.size w w' := by
 have hS := (St.start w).flat (M := []) hL
 refine goes_enter1 Try.func66 rfl Try.ntmps66 rfl ?_
 by_cases hl : 65536 < L.length
 ·rw [show goodCs L = false by unfold goodCs; rw [decide_eq_false (by omega)]; rfl]
  refine ZG ?_
  refine Zbd ?_
  refine ZK ?_
  refine goes_ret1 Try.func66 rfl (by conv=>lhs;whnf) ?_
  exact ⟨rfl, hS.ext.below⟩
 rw [show goodCs L = goodL L.length L by unfold goodCs; rw [decide_eq_true (by omega)]; rfl]
 refine ZG ?_
 refine Zbd ?_
 refine ZaK ?_
 refine ZJ ?_
 refine goes_loop1 10 (11 :: 12 :: 13 :: 14 :: 4 :: 3 :: 15 :: 16 :: 17 :: 18 :: 19 :: 20 :: 21 :: 22 :: 23 :: 24 :: 2 :: 25 :: []) (fun (R : List HC) v w' => ∃ D, L = D ++ R ∧ v = .int .i64 (D.length : Nat) ∧ goodL L.length L = goodL L.length R ∧ St [] w [] [Flat 3 (hcsL L) A L.length c] w') (fun R => R.length) (L) ?_ (by conv=>lhs;whnf) ?_
 ·exact ⟨[], rfl, rfl, rfl, hS⟩
 clear hS
 rintro R _ w2 jv ⟨D, hD, rfl, hg, hS⟩ ih
 have hlen : L.length = D.length + R.length := by rw [hD]; simp
 cases R with
 | nil =>
  simp only [List.length_nil] at hlen
  refine Zcb ?_
  refine goes_ret1 Try.func66 rfl (by conv=>lhs;whnf) ?_
  rw [hg]
  exact ⟨rfl, hS.ext.below⟩
 | cons x R =>
  simp only [List.length_cons] at hlen
  obtain ⟨b, o, rfl⟩ := hL.some_ (by omega)
  have hx : L[D.length]? = some x := by rw [hD]; simp
  have hcc : ∀ {H'} w', St [] w H' [Flat 3 (hcsL L) (some ⟨b, o, none⟩) L.length c] w' → _ := fun w' hS => (hS.fact (.head _)).cell hx
  have hf : ((L.length : Int) - (D.length : Nat) - 1) = ((R.length : Nat) : Int) := by omega
  refine ZaL ?_
  refine ZS ?_
  refine Zbe ?_
  clear hS
  intro b1 wx1 hS
  refine Zbs ?_
  clear hS
  intro wx2 hS
  refine Zcc ?_
  refine ZdJ ?_
  refine Zau ?_
  refine Zau ?_
  refine Zg ?_
  refine Zae ?_
  refine Zae ?_
  rw [hf]
  refine Z1 ?_
  refine Calls.mono (goodCell_any x L.length R.length _) ?_
  rintro _ w3 ⟨rfl, hb3⟩
  refine Za ?_
  replace hS := hS.grow hb3
  cases hgc : goodC L.length x R.length with
  | false =>
   refine Zn ?_
   refine ZK ?_
   refine goes_ret1 Try.func66 rfl (by conv=>lhs;whnf) ?_
   rw [hg]
   refine ⟨?_, hS.ext.below⟩
   simp [goodL, hgc]
  | true =>
   refine Zam ?_
   refine ZbV ?_
   refine ih (R) _ _ _ ?_ ?_ (by conv=>lhs;whnf) (by kernel_rfl)
   ·simp
   ·refine ⟨D ++ [x], by rw [hD]; simp, by simp, ?_, hS.drop⟩
    rw [hg]; simp [goodL, hgc]
theorem hlookF_none {L : List HC} {a : Int} (h : hat L a = none) : ∀ f, hlookF L f a = -1
 | 0 => rfl
 | f + 1 => by simp only [hlookF, h]
end Go.Proofs.Ythliapbflkfdiab
