/- HWalk5, HWalk6, HWalk7: texts that follow one another, laid into one file. -/
import Derived.Test.YthliapbflkfdiacGreatDoorZ0
import Derived.Test.YthliapbflkfdiacGreatDoorG22
import Derived.Test.YthliapbflkfdiacGreatDoorG14
namespace Go.Proofs.YthliapbflkfdiacGreatDoor
open Go.RowKit
set_option linter.unusedVariables false
set_option linter.unusedSimpArgs false
set_option maxRecDepth 100000
set_option maxHeartbeats 1000000
abbrev Qnp (b : Nat) : Value := .pointer (some ⟨b, 0, none⟩)
abbrev uob (g n c : Nat) (B : Option Addr) (m d w : Nat) (lg : Bool) : Obj := .cells [.slice (some ⟨g, 0, none⟩) n c, .slice B m d, .int .i64 (w : Nat), .bool lg].toArray 254
abbrev cob (L : List HC) (sp : List Value) : Obj := .cells (Q6 L ++ sp).toArray 104
def Qgw (M : List Nat) (w0 : World) (H : List (Nat × Obj)) (F : List (World → Prop)) (ub g c : Nat) (sp : List Value) (u : HU) (w : World) : Prop :=
 ∃ (B : Option Addr) (d : Nat) (O : List (Nat × Obj)), Rw 3 1 (.slice B u.tr.length d) u.tr.length (Qm u.tr) O ∧ St M w0 ((ub, uob g u.cs.length c B u.tr.length d u.w u.lg) :: (g, cob u.cs sp) :: (O ++ H)) F w
section
variable {M : List Nat} {w0 : World} {H : List (Nat × Obj)} {F : List (World → Prop)} {ub g c : Nat} {sp : List Value}
theorem Qnj (u : HU) (w : World) (hw : u.w ≤ 100000) (hs : Qgw M w0 H F ub g c sp u w) :
  Calls Tryz.prog 219 #[Qnp ub] w fun e w' => e = .returned (.tuple #[]) ∧ Qgw M w0 H F ub g c sp u.step w' := by
 obtain ⟨B, d, O, hrow, hS⟩ := hs
 refine Qh Tryz.func219 rfl Tryz.ntmps219 rfl ?_
 by_cases h4 : 400 < u.w + 1
 ·refine Zaf ?_
  refine Zo ?_
  refine Zc2 ?_
  refine Zu ?_
  clear hS
  intro wx1 hS
  refine Zb ?_
  refine Zaf ?_
  refine Z5 ?_
  refine ZbA ?_
  refine Zby ?_
  refine Zu ?_
  clear hS
  intro wx2 hS
  refine Zb ?_
  refine QD Tryz.func219 rfl ?_
  exact ⟨rfl, B, d, O, hrow, by simp only [HU.step, decide_eq_true h4, Bool.or_true]; exact hS⟩
 ·refine Zaf ?_
  refine Zo ?_
  refine Zc2 ?_
  refine Zu ?_
  clear hS
  intro wx1 hS
  refine Zb ?_
  refine Zaf ?_
  refine Z5 ?_
  refine Zr ?_
  refine QD Tryz.func219 rfl ?_
  exact ⟨rfl, B, d, O, hrow, by simp only [HU.step, decide_eq_false h4, Bool.or_false]; exact hS⟩
theorem Qg5 (u : HU) (a : Int) (w : World) (hl : u.cs.length ≤ 65536) (hc : u.cs.length ≤ c) (hs : Qgw M w0 H F ub g c sp u w) :
  Calls Tryz.prog 220 #[Qnp ub, .int .i64 a] w fun e w' => e = .returned (.int .i64 (u.look a).1) ∧ Qgw M w0 H F ub g c sp (u.look a).2 w' := by
 obtain ⟨B, d, O, hrow, hS⟩ := hs
 refine Qf Tryz.func220 rfl Tryz.ntmps220 rfl ?_
 cases hg : u.lg with
 | true =>
  rw [hg] at hS
  have e0 : u.look a = (-1, u) := by unfold HU.look; rw [if_pos hg]
  rw [e0]
  refine ZW ?_
  refine Zb6 ?_
  refine Zag ?_
  refine Ze0 ?_
  exact ⟨rfl, B, d, O, hrow, by rw [hg]; exact hS⟩
 | false =>
  rw [hg] at hS
  have e0 : u.look a = (Qq u.cs a, ⟨u.cs, u.tr, u.w, decide (Qq u.cs a < 0)⟩) := by unfold HU.look; rw [if_neg (by rw [hg]; decide)]
  rw [e0]
  have hfl : ∀ {o H' F'} w', St M w0 ((ub, o) :: (g, cob u.cs sp) :: H') F' w' → QA 3 (Q6 u.cs) (some ⟨g, 0, none⟩) u.cs.length c w' := fun w' hS => QA.own (hS.own (g, _) (.tail _ (.head _))) (Q9 _) hc
  by_cases hn : Qq u.cs a < 0
  ·rw [decide_eq_true hn]
   refine ZW ?_
   refine Zb6 ?_
   refine Zr ?_
   refine Zap ?_
   refine Z8 ?_
   refine Zaa ?_
   refine Calls.mono (QjS u.cs _ B c u.tr.length d a _ (hfl _ hS) Ya) ?_
   rintro _ w3 ⟨rfl, hb3⟩
   refine Za ?_
   replace hS := hS.grow hb3
   refine Zcg ?_
   refine ZbA ?_
   refine Zby ?_
   refine Zu ?_
   clear hS
   intro wx1 hS
   refine Zcm ?_
   refine Ze0 ?_
   exact ⟨rfl, B, d, O, hrow, hS⟩
  ·rw [decide_eq_false hn]
   refine ZW ?_
   refine Zb6 ?_
   refine Zr ?_
   refine Zap ?_
   refine Z8 ?_
   refine Zaa ?_
   refine Calls.mono (QjS u.cs _ B c u.tr.length d a _ (hfl _ hS) Ya) ?_
   rintro _ w3 ⟨rfl, hb3⟩
   refine Za ?_
   replace hS := hS.grow hb3
   refine Zcn ?_
   refine ZV ?_
   refine Ze0 ?_
   exact ⟨rfl, B, d, O, hrow, hS⟩
theorem Qg4 (u : HU) (a : Int) (x : HC) (w : World) (hx : hat u.cs a = some x) (hs : Qgw M w0 H F ub g c sp u w) :
  Calls Tryz.prog 221 #[Qnp ub, .int .i64 a] w fun e w' => e = .returned (.bool (decide (x.k = 0))) ∧ Qgw M w0 H F ub g c sp u w' := by
 obtain ⟨B, d, O, hrow, hS⟩ := hs
 obtain ⟨h0, h1, hg⟩ := Qa8.1 hx
 have hcc : ∀ {o H' F'} w', St M w0 ((ub, o) :: (g, cob u.cs sp) :: H') F' w' → _ := fun w' hS => (QA.own (cap := u.cs.length) (hS.own (g, _) (.tail _ (.head _))) (Q9 u.cs) (Nat.le_refl _)).cell hg
 refine Qf Tryz.func221 rfl Tryz.ntmps221 rfl ?_
 by_cases hk : x.k = 0
 ·rw [decide_eq_true hk]
  refine Zl ?_
  refine Zcw ?_
  refine Zat ?_
  refine ZF ?_
  refine Zcd ?_
  refine Qc Tryz.func221 rfl Yb ?_
  exact ⟨rfl, B, d, O, hrow, hS⟩
 ·rw [decide_eq_false hk]
  refine Zl ?_
  refine Zcw ?_
  refine Zat ?_
  refine ZF ?_
  refine Zcd ?_
  refine Qc Tryz.func221 rfl Yb ?_
  exact ⟨rfl, B, d, O, hrow, hS⟩
theorem QkE (u : HU) (a : Int) (x : HC) (w : World) (hx : hat u.cs a = some x) (hs : Qgw M w0 H F ub g c sp u w) :
  Calls Tryz.prog 240 #[Qnp ub, .int .i64 a] w fun e w' => e = .returned (.int .i64 (QI x)) ∧ Qgw M w0 H F ub g c sp u w' := by
 obtain ⟨B, d, O, hrow, hS⟩ := hs
 obtain ⟨h0, h1, hg⟩ := Qa8.1 hx
 have hcc : ∀ {o H' F'} w', St M w0 ((ub, o) :: (g, cob u.cs sp) :: H') F' w' → _ := fun w' hS => (QA.own (cap := u.cs.length) (hS.own (g, _) (.tail _ (.head _))) (Q9 u.cs) (Nat.le_refl _)).cell hg
 refine Qf Tryz.func240 rfl Tryz.ntmps240 rfl ?_
 refine Zl ?_
 refine Zcw ?_
 refine ZeK ?_
 refine Zj ?_
 refine Calls.mono (QnY x _) ?_
 rintro _ w3 ⟨rfl, hb3⟩
 refine Za ?_
 replace hS := hS.grow hb3
 refine Zf ?_
 refine Qc Tryz.func240 rfl Yb ?_
 exact ⟨rfl, B, d, O, hrow, hS⟩
theorem QkD (u : HU) (a x : Int) (y : HC) (w : World) (hy : hat u.cs a = some y) (ht : u.tr.length ≤ 1000000) (hs : Qgw M w0 H F ub g c sp u w) :
  Calls Tryz.prog 222 #[Qnp ub, .int .i64 a, .int .i64 x] w fun e w' => e = .returned (.tuple #[]) ∧ Qgw M w0 H F ub g c sp (u.bind a x) w' := by
 obtain ⟨B, d, O, hrow, hS⟩ := hs
 obtain ⟨h0, h1, hg⟩ := Qa8.1 hy
 have hput := Qj4 u.cs sp a.toNat x Ya
 refine Q1 Tryz.func222 rfl Tryz.ntmps222 rfl ?_
 refine Zap ?_
 refine Zat ?_
 refine Zbf ?_
 refine Zdf ?_
 refine ZP ?_
 refine ZfP ?_
 clear hS
 intro w6 hS
 refine Zb ?_
 refine Z1 ?_
 refine Za2 ?_
 refine ZP ?_
 refine Zbf ?_
 refine ZaJ ?_
 clear hS
 intro b1 wx1 hS
 refine QgK (L := [a]) hS Yb (by rfl) rfl rfl rfl (QA.own (sp := []) (hS.own (_, _) (.head _)) rfl (Nat.le_refl _)) hrow (List.perm_append_comm_assoc [_, _, _] O _) Yh rfl ?_
 clear hS
 intro v7 O7 w7 hrow7 hS
 obtain ⟨B7, d7, rfl, _⟩ := hrow7.form
 replace hS := (hS.perm (List.perm_append_comm_assoc O7 [_, _, _] _)).drop
 refine Za2 ?_
 refine ZP ?_
 refine Zu ?_
 clear hS
 intro wx2 hS
 refine Zb ?_
 refine QD Tryz.func222 rfl ?_
 refine ⟨rfl, B7, d7, O7, ?_, ?_⟩
 ·simp only [HU.bind, List.length_append, Qm, List.map_append] at hrow7 ⊢; exact hrow7
 ·simp only [HU.bind, List.length_append, QbA]; exact hS
def QmY (n f : Nat) : Prop := ∀ (M : List Nat) (w0 : World) (H : List (Nat × Obj)) (F : List (World → Prop)) (ub g c : Nat) (sp : List Value) (a b : Int) (u : HU) (w : World),
 GU n u → n ≤ 65536 → n ≤ c → 400 ≤ u.w + f → u.w ≤ 20000 → f ≤ 401 → -1 ≤ b → b ≤ 100000 → Qgw M w0 H F ub g c sp u w →
  Calls Tryz.prog 239 #[Qnp ub, .int .i64 a, .int .i64 b] w fun e w' => e = .returned (.bool (Qcl a f b u).1) ∧ Qgw M w0 H F ub g c sp (Qcl a f b u).2 w'
theorem QpF {u : HU} (h : 400 ≤ u.w) : u.step.lg = true := by simp only [HU.step, decide_eq_true (show 400 < u.w + 1 by omega), Bool.or_true]
theorem Qgw.lgS {u : HU} {w : World} {b : Bool} (h : Qgw M w0 H F ub g c sp u w) (hb : u.lg = b) : ∃ (B : Option Addr) (d : Nat) (O : List (Nat × Obj)), Rw 3 1 (.slice B u.tr.length d) u.tr.length (Qm u.tr) O ∧ St M w0 ((ub, uob g u.cs.length c B u.tr.length d u.w b) :: (g, cob u.cs sp) :: (O ++ H)) F w := by
 obtain ⟨B, d, O, h1, h2⟩ := h
 rw [hb] at h2
 exact ⟨B, d, O, h1, h2⟩
theorem Qnq (n f : Nat) (ih : ∀ f', f = f' + 1 → QmY n f') : QmY n f := by
 intro M w0 H F ub g c sp a b u w hG hn hc hkf hk hf hb0 hb1 hs
 have hsl : (Qcl a f b u).1 = (Qcl a f b u).1 := rfl
 refine Q1 Tryz.func239 rfl Tryz.ntmps239 rfl ?_
 refine Zcj ?_
 refine Calls.mono (Qnj u _ Ya hs) ?_
 rintro _ w2 ⟨rfl, hs2⟩
 refine Za ?_
 refine Zb ?_
 refine Z7 ?_
 refine Calls.mono (Qg5 u.step b _ (by rw [hG.step.len]; exact hn) (by rw [hG.step.len]; exact hc) hs2) ?_
 rintro _ w3 ⟨rfl, hs3⟩
 refine Za ?_
 have hG3 := hG.step.look b
 have hcs3 : (u.step.look b).2.cs = u.cs := (Qdg u.step b).2.1
 have hw3 : (u.step.look b).2.w = u.w + 1 := (Qdg u.step b).1
 cases hlg : (u.step.look b).2.lg with
 | true =>
  have e0 : Qcl a f b u = (false, (u.step.look b).2) := by
   cases f with
   | zero => rfl
   | succ f => simp only [Qcl]; rw [if_pos hlg]
  rw [e0]
  obtain ⟨B, d, O, hrow, hS⟩ := hs3.lgS hlg
  refine Zz ?_
  refine Zby ?_
  refine ZF ?_
  refine Zag ?_
  refine Zeh ?_
  exact ⟨rfl, B, d, O, hrow, by rw [hlg]; exact hS⟩
 | false =>
  obtain ⟨f, rfl⟩ : ∃ f', f = f' + 1 := by
   cases f with
   | succ f => exact ⟨f, rfl⟩
   | zero =>
    have := (Qcy hlg).1
    rw [QpF Ya] at this; cases this
  have ih := ih f rfl
  obtain ⟨hl1, hp1, hp2⟩ := Qcy hlg
  obtain ⟨x, hx, hxe⟩ := QcO hp2
  rw [← hp1] at hx
  replace hx : hat u.cs (u.step.look b).1 = some x := hx
  have hx3 : hat (u.step.look b).2.cs (u.step.look b).1 = some x := by rw [hcs3]; exact hx
  obtain ⟨hx0, hx1, _⟩ := Qa8.1 hx
  rw [hG.len] at hx1
  have e0 : Qcl a (f + 1) b u = if a = (u.step.look b).1 then (true, (u.step.look b).2) else Qkl (Qcl a f) (Qaw u.cs (u.step.look b).1) ((u.step.look b).1 + 1) (u.step.look b).2 := by
   simp only [Qcl]; rw [if_neg (by rw [hlg]; decide)]
  rw [e0]
  have hw4 := hG3.wk hlg
  have hgA := (QhR (a := (u.step.look b).1) hG.good).1
  have hA : QI x = ((Qaw u.cs (u.step.look b).1 : Nat) : Int) := by
   have : Qaw u.cs (u.step.look b).1 = (QI x).toNat := by unfold Qaw; rw [hx]
   rw [this]
   have := QO (Qaj hG.good hx)
   unfold QI
   split <;> omega
  generalize hq : (u.step.look b).1 = q at *
  obtain ⟨B, d, O, hrow, hS⟩ := hs3.lgS hlg
  by_cases haq : a = q
  ·rw [if_pos haq]
   refine Zz ?_
   refine Zby ?_
   refine ZF ?_
   refine Z0 ?_
   refine Zs ?_
   refine Zm ?_
   refine Zag ?_
   refine Zeh ?_
   exact ⟨rfl, B, d, O, hrow, by rw [hlg]; exact hS⟩
  ·rw [if_neg haq]
   refine Zz ?_
   refine Zby ?_
   refine ZF ?_
   refine Z0 ?_
   refine Zs ?_
   refine Zm ?_
   refine Z0 ?_
   refine Z7 ?_
   refine Calls.mono (QkE (u.step.look b).2 q x _ hx3 ⟨B, d, O, hrow, by rw [hlg]; exact hS⟩) ?_
   rintro _ w4 ⟨rfl, hs4⟩
   refine Za ?_
   rw [hA]
   clear hS hrow
   refine ZdN ?_
   refine Qo 23 (24 :: 25 :: 7 :: 26 :: 27 :: 28 :: 29 :: 30 :: 31 :: 32 :: 6 :: 33 :: []) (fun (m : Nat) v w' => ∃ (i : Nat) (u' : HU), i + m = Qaw u.cs q ∧ v = .int .i64 (i : Nat) ∧ GU n u' ∧ u'.cs = u.cs ∧ u.w + 1 ≤ u'.w ∧ u'.w ≤ 401 + 4 * f + i ∧ Qkl (Qcl a f) (Qaw u.cs q) (q + 1) (u.step.look b).2 = Qkl (Qcl a f) m (q + 1 + (i : Nat)) u' ∧ Qgw M w0 H F ub g c sp u' w') (fun m => m) (Qaw u.cs q) ?_ Yb ?_
   ·exact ⟨0, (u.step.look b).2, by omega, rfl, hG3, hcs3, by omega, by omega, by simp, hs4⟩
   clear hs4 hs3
   rintro m _ w5 jv ⟨i, u', hi, rfl, hG', hcs', hwl, hwu, hany, hs'⟩ ihl
   cases m with
   | zero =>
    refine Zc1 ?_
    refine Zeh ?_
    rw [hany]
    exact ⟨rfl, hs'⟩
   | succ m =>
    have hou := Qk4 (n := n) a f (q + 1 + (i : Nat)) u' hG'.good hG'.wk
    have hle := hou.le
    have hlt := hou.lt
    have htl := hG'.trl
    have hstep : Qkl (Qcl a f) (m + 1) (q + 1 + (i : Nat)) u' = if (Qcl a f (q + 1 + (i : Nat)) u').1 = true then Qcl a f (q + 1 + (i : Nat)) u' else Qkl (Qcl a f) m (q + 1 + (i : Nat) + 1) (Qcl a f (q + 1 + (i : Nat)) u').2 := rfl
    refine ZaR ?_
    refine Zay ?_
    refine Za4 ?_
    refine Zo ?_
    refine Zai ?_
    refine Calls.mono (ih M w0 H F ub g c sp a (q + 1 + (i : Nat)) u' _ hG' hn hc Ya Ya Ya Ya Ya hs') ?_
    rintro _ w6 ⟨rfl, hs6⟩
    refine Za ?_
    cases hr : (Qcl a f (q + 1 + (i : Nat)) u').1 with
    | true =>
     refine Zag ?_
     refine Zeh ?_
     rw [hany, hstep, if_pos hr, hr]
     exact ⟨rfl, hs6⟩
    | false =>
     refine Zb3 ?_
     refine ihl m _ _ _ ?_ ?_ Yb Yc
     ·omega
     ·refine ⟨i + 1, (Qcl a f (q + 1 + (i : Nat)) u').2, by omega, by simp, ⟨by rw [hou.cs]; exact hG'.len, by rw [hou.cs]; exact hG'.good, hou.wk, by rw [hou.tr]; omega⟩, by rw [hou.cs]; exact hcs', by omega, by omega, ?_, hs6⟩
      rw [hany, hstep, if_neg (by rw [hr]; decide)]
      congr 1
      omega
theorem Qnr (n : Nat) : ∀ f, QmY n f
 | 0 => Qnq n 0 fun f' h => by omega
 | f + 1 => Qnq n (f + 1) fun f' h => by
  obtain rfl : f = f' := by omega
  exact Qnr n f
theorem Qjq (n : Nat) (a b : Int) (y : HC) (u : HU) (w : World) (hG : GU n u) (hn : n ≤ 65536) (hc : n ≤ c) (hlg : u.lg = false) (hy : hat u.cs a = some y) (hb0 : 0 ≤ b) (hb1 : b < n) (hs : Qgw M w0 H F ub g c sp u w) :
  Calls Tryz.prog 223 #[Qnp ub, .int .i64 a, .int .i64 b] w fun e w' => e = .returned (.bool (QmT a b u).1) ∧ Qgw M w0 H F ub g c sp (QmT a b u).2 w' := by
 have hw := hG.wk hlg
 have hou := Qk4 (n := n) a 401 b u hG.good hG.wk
 have htl := hG.trl
 have e0 : QmT a b u = if (Qcl a 401 b u).1 = true ∨ (Qcl a 401 b u).2.lg = true then (false, (Qcl a 401 b u).2) else (true, (Qcl a 401 b u).2.bind a b) := rfl
 rw [e0]
 refine Q1 Tryz.func223 rfl Tryz.ntmps223 rfl ?_
 refine ZW ?_
 refine Zbo ?_
 refine Zai ?_
 refine Calls.mono (Qnr n 401 M w0 H F ub g c sp a b u _ hG hn hc Ya Ya Ya Ya Ya hs) ?_
 rintro _ w3 ⟨rfl, hs3⟩
 refine Za ?_
 cases ho : (Qcl a 401 b u).1 with
 | true =>
  rw [if_pos (.inl rfl)]
  refine Zbh ?_
  refine Za3 ?_
  refine Ze1 ?_
  exact ⟨rfl, hs3⟩
 | false =>
  cases hl : (Qcl a 401 b u).2.lg with
  | true =>
   rw [if_pos (.inr rfl)]
   obtain ⟨B, d, O, hrow, hS⟩ := hs3.lgS hl
   refine Zco ?_
   refine Zb8 ?_
   refine Zdc ?_
   refine Za3 ?_
   refine Ze1 ?_
   exact ⟨rfl, B, d, O, hrow, by rw [hl]; exact hS⟩
  | false =>
   rw [if_neg Yg]
   obtain ⟨B, d, O, hrow, hS⟩ := hs3.lgS hl
   refine Zco ?_
   refine Zb8 ?_
   refine Zdc ?_
   refine Zae ?_
   refine Zdj ?_
   refine Calls.mono (QkD (Qcl a 401 b u).2 a b y _ (by rw [hou.cs]; exact hy) (by rw [hou.tr]; omega) ⟨B, d, O, hrow, by rw [hl]; exact hS⟩) ?_
   rintro _ w4 ⟨rfl, hs4⟩
   refine Za ?_
   refine Zbj ?_
   refine Ze1 ?_
   exact ⟨rfl, hs4⟩
end
def Qkm (n f : Nat) : Prop := ∀ (M : List Nat) (w0 : World) (H : List (Nat × Obj)) (F : List (World → Prop)) (ub g c : Nat) (sp : List Value) (a b : Int) (u : HU) (w : World),
 GU n u → u.lg = false → n ≤ 65536 → n ≤ c → 400 ≤ u.w + f → f ≤ 401 → Qgw M w0 H F ub g c sp u w →
  Calls Tryz.prog 196 #[Qnp ub, .int .i64 a, .int .i64 b] w fun e w' => e = .returned (.bool (Qcn f a b u).1) ∧ Qgw M w0 H F ub g c sp (Qcn f a b u).2 w'
section
variable {M : List Nat} {w0 : World} {H : List (Nat × Obj)} {F : List (World → Prop)} {ub g c : Nat} {sp : List Value}
theorem QpZ (n f : Nat) (ih : Qkm n f) (a b : Int) (x y : HC) (u : HU) (w : World) (hG : GU n u) (hlg : u.lg = false) (hn : n ≤ 65536) (hc : n ≤ c) (hkf : 400 ≤ u.w + f) (hf : f ≤ 401) (hx : hat u.cs a = some x) (hy : hat u.cs b = some y) (hs : Qgw M w0 H F ub g c sp u w) :
  Calls Tryz.prog 224 #[Qnp ub, .int .i64 a, .int .i64 b] w fun e w' => e = .returned (.bool (Qde (Qcn f) a b u).1) ∧ Qgw M w0 H F ub g c sp (Qde (Qcn f) a b u).2 w' := by
 have hw := hG.wk hlg
 obtain ⟨hx0, hx1, hgx⟩ := Qa8.1 hx
 obtain ⟨hy0, hy1, hgy⟩ := Qa8.1 hy
 have hlen := hG.len
 have hcx : ∀ {o H' F'} w', St M w0 ((ub, o) :: (g, cob u.cs sp) :: H') F' w' → _ := fun w' hS => (QA.own (cap := u.cs.length) (hS.own (g, _) (.tail _ (.head _))) (Q9 u.cs) (Nat.le_refl _)).cell hgx
 have hcy : ∀ {o H' F'} w', St M w0 ((ub, o) :: (g, cob u.cs sp) :: H') F' w' → _ := fun w' hS => (QA.own (cap := u.cs.length) (hS.own (g, _) (.tail _ (.head _))) (Q9 u.cs) (Nat.le_refl _)).cell hgy
 have hA : QI x = ((Qaw u.cs a : Nat) : Int) := by
  have : Qaw u.cs a = (QI x).toNat := by unfold Qaw; rw [hx]
  rw [this]
  have := QO (Qaj hG.good hx)
  unfold QI
  split <;> omega
 have hgA := (QhR (a := a) hG.good).1
 obtain ⟨B, d, O, hrow, hS⟩ := hs.lgS hlg
 refine Q1 Tryz.func224 rfl Tryz.ntmps224 rfl ?_
 refine Zd ?_
 refine ZcS ?_
 refine Zei ?_
 replace hS := hS.drew
 refine Zax ?_
 refine Zau ?_
 refine ZfQ ?_
 refine ZT ?_
 refine ZaW ?_
 refine ZfR ?_
 refine Zax ?_
 refine Zau ?_
 refine ZfQ ?_
 refine ZT ?_
 refine ZaW ?_
 refine ZfR ?_
 refine Qd rfl (fun _ hS => QkM rfl rfl) rfl ?_
 refine ZeE ?_
 by_cases hxy : x = y
 case neg =>
  have e0 : Qde (Qcn f) a b u = (false, u) := by unfold Qde; rw [hx, hy, if_neg (by simpa using hxy)]
  rw [e0, decide_eq_false hxy]
  refine ZK ?_
  refine Zl ?_
  refine Ze2 ?_
  exact ⟨rfl, B, d, O, hrow, by rw [hlg]; exact hS⟩
 have e0 : Qde (Qcn f) a b u = Qig (Qcn f) (Qaw u.cs a) (a + 1) (b + 1) u := by unfold Qde; rw [hx, hy, if_pos (by rw [hxy])]
 rw [e0, decide_eq_true hxy]
 refine ZS ?_
 refine Zah ?_
 refine Zn ?_
 refine Z7 ?_
 refine Calls.mono (QkE u a x _ hx ⟨B, d, O, hrow, by rw [hlg]; exact hS⟩) ?_
 rintro _ w4 ⟨rfl, hs4⟩
 refine Za ?_
 rw [hA]
 clear hS hrow
 refine ZdN ?_
 refine Qo 28 (29 :: 30 :: 7 :: 31 :: 32 :: 33 :: 34 :: 35 :: 36 :: 37 :: 38 :: 39 :: 40 :: 41 :: 6 :: 42 :: []) (fun (m : Nat) v w' => ∃ (i : Nat) (u' : HU), i + m = Qaw u.cs a ∧ v = .int .i64 (i : Nat) ∧ GU n u' ∧ u'.lg = false ∧ u.w ≤ u'.w ∧ Qig (Qcn f) (Qaw u.cs a) (a + 1) (b + 1) u = Qig (Qcn f) m (a + 1 + (i : Nat)) (b + 1 + (i : Nat)) u' ∧ Qgw M w0 H F ub g c sp u' w') (fun m => m) (Qaw u.cs a) ?_ Yb ?_
 ·exact ⟨0, u, by omega, rfl, hG, hlg, Nat.le_refl _, by simp, hs4⟩
 clear hs4
 rintro m _ w5 jv ⟨i, u', hi, rfl, hG', hl', hwl, hall, hs'⟩ ihl
 cases m with
 | zero =>
  refine Zc1 ?_
  refine Ze2 ?_
  rw [hall]
  exact ⟨rfl, hs'⟩
 | succ m =>
  have huu := QkB (n := n) f (a + 1 + (i : Nat)) (b + 1 + (i : Nat)) u' hG' hl'
  have hstep : Qig (Qcn f) (m + 1) (a + 1 + (i : Nat)) (b + 1 + (i : Nat)) u' = if (Qcn f (a + 1 + (i : Nat)) (b + 1 + (i : Nat)) u').1 = true then Qig (Qcn f) m (a + 1 + (i : Nat) + 1) (b + 1 + (i : Nat) + 1) (Qcn f (a + 1 + (i : Nat)) (b + 1 + (i : Nat)) u').2 else Qcn f (a + 1 + (i : Nat)) (b + 1 + (i : Nat)) u' := rfl
  refine ZaR ?_
  refine Zs ?_
  refine Za4 ?_
  refine Za4 ?_
  refine Za4 ?_
  refine Zo ?_
  refine Zai ?_
  refine Calls.mono (ih M w0 H F ub g c sp (a + 1 + (i : Nat)) (b + 1 + (i : Nat)) u' _ hG' hl' hn hc Ya hf hs') ?_
  rintro _ w6 ⟨rfl, hs6⟩
  refine Za ?_
  cases hr : (Qcn f (a + 1 + (i : Nat)) (b + 1 + (i : Nat)) u').1 with
  | true =>
   refine Zaz ?_
   refine Zbe ?_
   refine ihl m _ _ _ ?_ ?_ Yb Yc
   ·omega
   ·have hlt := huu.lt
    refine ⟨i + 1, (Qcn f (a + 1 + (i : Nat)) (b + 1 + (i : Nat)) u').2, by omega, by simp, huu.gu, huu.ok hr, by omega, ?_, hs6⟩
    rw [hall, hstep, if_pos hr]
    congr 1 <;> omega
  | false =>
   refine Zbg ?_
   refine Zl ?_
   refine Ze2 ?_
   rw [hall, hstep, if_neg (by rw [hr]; decide), hr]
   exact ⟨rfl, hs6⟩
theorem Qm6 (n f : Nat) (ih : ∀ f', f = f' + 1 → Qkm n f') : Qkm n f := by
 intro M w0 H F ub g c sp a b u w hG hlg hn hc hkf hf hs
 have hw := hG.wk hlg
 refine Q1 Tryz.func196 rfl Tryz.ntmps196 rfl ?_
 refine Zcj ?_
 refine Calls.mono (Qnj u _ Ya hs) ?_
 rintro _ w2 ⟨rfl, hs2⟩
 refine Za ?_
 refine Zb ?_
 refine Z7 ?_
 refine Calls.mono (Qg5 u.step a _ (by rw [hG.step.len]; exact hn) (by rw [hG.step.len]; exact hc) hs2) ?_
 rintro _ w3 ⟨rfl, hs3⟩
 refine Za ?_
 have hGa := hG.step.look a
 refine Zc ?_
 refine Zaa ?_
 refine Calls.mono (Qg5 (u.step.look a).2 b _ (by rw [hGa.len]; exact hn) (by rw [hGa.len]; exact hc) hs3) ?_
 rintro _ w4 ⟨rfl, hs4⟩
 refine Za ?_
 have hwa := Qdg u.step a
 have hwb := Qdg (u.step.look a).2 b
 have hG2 : GU n ((u.step.look a).2.look b).2 := hGa.look b
 have hw2 : ((u.step.look a).2.look b).2.w = u.w + 1 := by rw [hwb.1, hwa.1]; rfl
 have hcs2 : ((u.step.look a).2.look b).2.cs = u.cs := by rw [hwb.2.1, hwa.2.1]; rfl
 cases hl2 : ((u.step.look a).2.look b).2.lg with
 | true =>
  have e0 : Qcn f a b u = (false, ((u.step.look a).2.look b).2) := by
   cases f with
   | zero => rfl
   | succ f => simp only [Qcn]; rw [if_pos hl2]
  rw [e0]
  obtain ⟨B, d, O, hrow, hS⟩ := hs4.lgS hl2
  refine Zav ?_
  refine Zby ?_
  refine ZfS ?_
  refine Zag ?_
  refine ZcG ?_
  exact ⟨rfl, B, d, O, hrow, by rw [hl2]; exact hS⟩
 | false =>
  obtain ⟨hla, hb1, hb2⟩ := Qcy hl2
  obtain ⟨hls, ha1, ha2⟩ := Qcy hla
  obtain ⟨f, rfl⟩ : ∃ f', f = f' + 1 := by
   cases f with
   | succ f => exact ⟨f, rfl⟩
   | zero => rw [QpF Ya] at hls; cases hls
  have ih := ih f rfl
  rw [hwa.2.1] at hb1 hb2
  obtain ⟨x, hx, hxe⟩ := QcO ha2
  obtain ⟨y, hy, hye⟩ := QcO hb2
  rw [← ha1] at hx hxe
  rw [← hb1] at hy hye
  replace hx : hat u.cs (u.step.look a).1 = some x := hx
  replace hy : hat u.cs ((u.step.look a).2.look b).1 = some y := hy
  obtain ⟨x0, x1, _⟩ := Qa8.1 hx
  obtain ⟨y0, y1, _⟩ := Qa8.1 hy
  rw [hG.len] at x1 y1
  have htl := hG2.trl
  have e0 : Qcn (f + 1) a b u = if x.k = 0 then (if y.k = 0 then (if (u.step.look a).1 = ((u.step.look a).2.look b).1 then (true, ((u.step.look a).2.look b).2) else (true, ((u.step.look a).2.look b).2.bind (max (u.step.look a).1 ((u.step.look a).2.look b).1) (min (u.step.look a).1 ((u.step.look a).2.look b).1))) else QmT (u.step.look a).1 ((u.step.look a).2.look b).1 ((u.step.look a).2.look b).2)
    else if y.k = 0 then QmT ((u.step.look a).2.look b).1 (u.step.look a).1 ((u.step.look a).2.look b).2 else Qde (Qcn f) (u.step.look a).1 ((u.step.look a).2.look b).1 ((u.step.look a).2.look b).2 := by
   simp only [Qcn]
   rw [if_neg (by rw [hl2]; decide), show Qa0 u.cs (u.step.look a).1 = x.k by unfold Qa0; rw [hx], show Qa0 u.cs ((u.step.look a).2.look b).1 = y.k by unfold Qa0; rw [hy]]
  rw [e0]
  have hx' : hat ((u.step.look a).2.look b).2.cs (u.step.look a).1 = some x := by rw [hcs2]; exact hx
  have hy' : hat ((u.step.look a).2.look b).2.cs ((u.step.look a).2.look b).1 = some y := by rw [hcs2]; exact hy
  clear hs3 hs2 e0 hwb hb1 ha1 hxe hye hx hy
  generalize ((u.step.look a).2.look b).2 = v at *
  generalize ((u.step.look a).2.look b).1 = q at *
  generalize (u.step.look a).1 = p at *
  obtain ⟨B, d, O, hrow, hS⟩ := hs4.lgS hl2
  refine Zav ?_
  refine Zby ?_
  refine ZfS ?_
  refine Zr ?_
  refine Zs ?_
  clear hs4
  have hs5 : Qgw M w0 H F ub g c sp v _ := ⟨B, d, O, hrow, by rw [hl2]; exact hS⟩
  clear hrow hS
  refine Zg ?_
  refine Calls.mono (Qg4 v p x _ hx' hs5) ?_
  rintro _ w5 ⟨rfl, hs6⟩
  refine Za ?_
  clear hs5
  refine Zc ?_
  refine Zaa ?_
  refine Calls.mono (Qg4 v q y _ hy' hs6) ?_
  rintro _ w6 ⟨rfl, hs7⟩
  refine Za ?_
  by_cases hxk : x.k = 0
  ·rw [if_pos hxk, decide_eq_true hxk]
   by_cases hyk : y.k = 0
   ·rw [if_pos hyk, decide_eq_true hyk]
    by_cases hpq : p = q
    ·rw [if_pos hpq]
     refine ZE ?_
     refine ZaQ ?_
     refine Zk ?_
     refine ZB ?_
     refine Zc ?_
     refine Zck ?_
     refine ZcW ?_
     refine Zw ?_
     refine Zr ?_
     refine Zl ?_
     refine ZcG ?_
     exact ⟨rfl, hs7⟩
    ·rw [if_neg hpq]
     have hbnd := QkD (M := M) (w0 := w0) (H := H) (F := F) (ub := ub) (g := g) (c := c) (sp := sp) v (max p q) (min p q)
     have hmx : max p q = (if p < q then q else p) := by omega
     have hmn : min p q = (if q < p then q else p) := by omega
     have hhat : ∃ z, hat v.cs (max p q) = some z := by
      rcases Int.le_total p q with hle | hle
      ·rw [Int.max_eq_right hle]; exact ⟨y, hy'⟩
      ·rw [Int.max_eq_left hle]; exact ⟨x, hx'⟩
     obtain ⟨z, hz⟩ := hhat
     refine ZE ?_
     refine ZaQ ?_
     refine Zk ?_
     refine ZB ?_
     refine Zc ?_
     refine Zck ?_
     refine ZcW ?_
     refine Zw ?_
     refine Zci ?_
     refine Zc ?_
     refine Qa (QjE rfl rfl Ye) rfl ?_
     refine Zbo ?_
     refine Qa (QjD rfl rfl Ye) rfl ?_
     refine Zai ?_
     refine Calls.mono (hbnd z _ hz Ya hs7) ?_
     rintro _ w8 ⟨rfl, hs8⟩
     refine Za ?_
     refine Zbj ?_
     refine ZcG ?_
     exact ⟨rfl, hs8⟩
   ·rw [if_neg hyk, decide_eq_false hyk]
    refine ZE ?_
    refine ZaQ ?_
    refine Zk ?_
    refine ZB ?_
    refine Zc ?_
    refine Zc3 ?_
    refine ZV ?_
    refine ZK ?_
    refine Zdj ?_
    refine Calls.mono (Qjq n p q x v _ hG2 hn hc hl2 hx' y0 y1 hs7) ?_
    rintro _ w8 ⟨rfl, hs8⟩
    refine ZJ ?_
    refine ZcG ?_
    exact ⟨rfl, hs8⟩
  ·rw [if_neg hxk, decide_eq_false hxk]
   by_cases hyk : y.k = 0
   ·rw [if_pos hyk, decide_eq_true hyk]
    refine ZE ?_
    refine ZaQ ?_
    refine Zs ?_
    refine Zal ?_
    refine Zc3 ?_
    refine ZV ?_
    refine ZS ?_
    refine ZV ?_
    refine ZK ?_
    refine Zdj ?_
    refine Calls.mono (Qjq n q p y v _ hG2 hn hc hl2 hy' x0 x1 hs7) ?_
    rintro _ w8 ⟨rfl, hs8⟩
    refine ZJ ?_
    refine ZcG ?_
    exact ⟨rfl, hs8⟩
   ·rw [if_neg hyk, decide_eq_false hyk]
    refine ZE ?_
    refine ZaQ ?_
    refine Zs ?_
    refine Zal ?_
    refine Zc3 ?_
    refine ZV ?_
    refine ZS ?_
    refine ZV ?_
    refine ZS ?_
    refine Zbx ?_
    refine Zdj ?_
    refine Calls.mono (QpZ n f ih p q x y v _ hG2 hl2 hn hc Ya Ya hx' hy' hs7) ?_
    rintro _ w8 ⟨rfl, hs8⟩
    refine ZJ ?_
    refine ZcG ?_
    exact ⟨rfl, hs8⟩
theorem Qm7 (n : Nat) : ∀ f, Qkm n f
 | 0 => Qm6 n 0 fun f' h => by omega
 | f + 1 => Qm6 n (f + 1) fun f' h => by
  obtain rfl : f = f' := by omega
  exact Qm7 n f
end
section
variable {M : List Nat} {w0 : World} {H : List (Nat × Obj)} {F : List (World → Prop)}
theorem St.freezeG {g c : Nat} {L : List HC} {sp : List Value} {w : World} (hS : St M w0 ((g, cob L sp) :: H) F w) (hc : L.length ≤ c) : St M w0 H (QA 3 (Q6 L) (some ⟨g, 0, none⟩) L.length c :: F) w := by
 have ho := hS.own (g, _) (.head _)
 refine hS.drop.learn fun w' hw => QA.own (sp := sp) (el := 104) ?_ (Q9 L) hc
 rw [hw.block g (QcI ho) fun hm => ?_]
 ·exact ho
 ·obtain ⟨p, hp, e⟩ := List.mem_map.1 hm
  exact (List.pairwise_cons.1 hS.apart).1 p hp e.symm
theorem Qu0 {h : HH} {A3 B3 : Option Addr} {c3 d3 ub : Nat} {O3 O4 : List (Nat × Obj)} {w : World} (hr3 : Rw 104 3 (.slice A3 h.cs.length c3) h.cs.length (Q6 h.cs) O3) (hr4 : Rw 3 1 (.slice B3 h.tr.length d3) h.tr.length (Qm h.tr) O4) (hp : 0 < h.cs.length)
  (hS : St M w0 ((ub, .cells [.slice A3 h.cs.length c3, .slice B3 h.tr.length d3, .int .i64 0, .bool false].toArray 254) :: (O4 ++ (O3 ++ H))) F w) :
  ∃ ub' g c sp, Qnp ub = Qnp ub' ∧ h.cs.length ≤ c ∧ Qgw M w0 H F ub' g c sp ⟨h.cs, h.tr, 0, false⟩ w := by
 obtain ⟨g, sp, rfl, rfl, _, hle, _⟩ := hr3.some_ hp
 exact ⟨ub, g, c3, sp, rfl, hle, B3, d3, O4, hr4, hS.perm (.cons _ (List.perm_append_comm_assoc O4 [_] _))⟩
theorem QkA (h : HH) (a b : Int) (A B : Option Addr) (c d : Nat) (w : World) (hH : Und F (HFl h A c B d)) (hS : St M w0 H F w) :
  Calls Tryz.prog 155 #[hv h A c B d, .int .i64 a, .int .i64 b] w (QuW M w0 H F (QW h a b).1 fun A' c' B' d' e => e = .returned (.tuple #[hv (QW h a b).1 A' c' B' d', .bool (QW h a b).2.1, .int .i64 (QW h a b).2.2])) := by
 have hL : Und F (QA 3 (Q6 h.cs) A h.cs.length c) := hH.imp fun _ h => h.1
 have hT : Und F (QA 1 (Qm h.tr) B h.tr.length d) := hH.imp fun _ h => h.2
 refine Q1 Tryz.func155 rfl Tryz.ntmps155 rfl ?_
 refine Zi ?_
 clear hS
 intro b1 wx1 hS
 refine ZaV ?_
 clear hS
 intro b2 wx2 hS
 refine ZE ?_
 refine Zb5 ?_
 refine Z8 ?_
 refine Zde ?_
 rintro _ w2 ⟨rfl, hb2⟩
 refine Za ?_
 replace hS := hS.grow hb2
 cases hg : QF h with
 | false =>
  have e0 : QW h a b = (h, false, 1) := by unfold QW; rw [if_pos hg]
  rw [e0]
  refine ZaU ?_
  refine ZdW ?_
  clear hS
  intro wx3 hS
  refine Zcx ?_
  exact ⟨A, c, B, d, F, rfl, fun _ h => h, hH, hS.drop.drop⟩
 | true =>
 obtain ⟨hl1, hl2⟩ := Qc8 hg
 refine ZbG ?_
 refine Zd ?_
 refine Z8 ?_
 refine Zaa ?_
 refine Calls.mono (Qa9 h.cs.length c A B h.tr.length d a _) ?_
 rintro _ w3 ⟨rfl, hb3⟩
 refine Za ?_
 replace hS := hS.grow hb3
 cases ha : Qj h.cs a with
 | false =>
  have e0 : QW h a b = (h, false, 4) := by unfold QW; rw [if_neg (by rw [hg]; decide), ha, if_pos Yd]
  rw [e0, show (decide (0 ≤ a) && decide (a < (h.cs.length : Nat))) = false from ha]
  refine ZO ?_
  refine Zbh ?_
  refine Zdi ?_
  clear hS
  intro wx3 hS
  refine Zcx ?_
  exact ⟨A, c, B, d, F, rfl, fun _ h => h, hH, hS.drop.drop⟩
 | true =>
 rw [show (decide (0 ≤ a) && decide (a < (h.cs.length : Nat))) = true from ha]
 refine ZO ?_
 refine ZB ?_
 refine Z8 ?_
 refine ZX ?_
 refine Zg ?_
 refine Calls.mono (Qa9 h.cs.length c A B h.tr.length d b _) ?_
 rintro _ w4 ⟨rfl, hb4⟩
 refine Za ?_
 replace hS := hS.grow hb4
 cases hb : Qj h.cs b with
 | false =>
  have e0 : QW h a b = (h, false, 4) := by unfold QW; rw [if_neg (by rw [hg]; decide), ha, hb, if_pos Yd]
  rw [e0, show (decide (0 ≤ b) && decide (b < (h.cs.length : Nat))) = false from hb]
  refine Zcf ?_
  refine Zdi ?_
  clear hS
  intro wx3 hS
  refine Zcx ?_
  exact ⟨A, c, B, d, F, rfl, fun _ h => h, hH, hS.drop.drop⟩
 | true =>
 rw [show (decide (0 ≤ b) && decide (b < (h.cs.length : Nat))) = true from hb]
 have hpos : 0 < h.cs.length := by
  obtain ⟨x, hx⟩ := Qca.1 ha
  have := QcA hx; omega
 refine Zb0 ?_
 refine Z0 ?_
 refine Qd9 9 (26 :: 27 :: 28 :: 29 :: 30 :: 31 :: 32 :: 33 :: 34 :: []) (fun v w' => ∃ ub g c' sp, v = Qnp ub ∧ h.cs.length ≤ c' ∧ Qgw M w0 ((b2, hob none 0 0 none 0 0) :: (b1, hob A h.cs.length c B h.tr.length d) :: H) F ub g c' sp ⟨h.cs, h.tr, 0, false⟩ w') ?_ ?_
 ·intro hmeet
  refine QcR (St _ _ _ _) 10 (.read 0 (.read 1 (.read 3 (.read 4 (.pick 2 (.pick 5 (.read 6 (.read 7 (.pick 8 (.read 9 .tail) .none))) .none) .none))))) Yc Yc hS.drew ?_
  replace hS := hS.drew
  refine ZcE ?_
  refine Ze3 ?_
  refine ZeY ?_
  refine Ze3 ?_
  refine Zam ?_
  refine Zj ?_
  refine Calls.mono (Qjn h.cs A c _ hL Ya hS) ?_
  rintro _ w5 ⟨A3, c3, O3, rfl, hrow3, hS'⟩
  refine Za ?_
  replace hS := hS'
  clear hS'
  refine Ze4 ?_
  refine Zam ?_
  refine Zj ?_
  refine Calls.mono (QoW h.tr B d _ hT Ya hS) ?_
  rintro _ w6 ⟨B3, d3, O4, rfl, hrow4, hS'⟩
  refine Za ?_
  replace hS := hS'
  clear hS'
  refine Ze4 ?_
  refine ZcF ?_
  refine Qv rfl (fun _ hS => QM (cells := [_, _, _, _]) (.cons Yb .nil) rfl) rfl ?_
  refine Zam ?_
  refine Zb7 ?_
  clear hS
  intro b3 wx3 hS
  refine Ze4 ?_
  refine Zca ?_
  refine Qbl ?_
  refine Zb ?_
  exact hmeet _ _ _ (Qu0 hrow3 hrow4 hpos (by first | exact hS | exact hS.perm (.cons _ (List.perm_append_comm_assoc _ _ _)))) Yb Yc
 clear hS
 rintro jv _ w5 ⟨ub, g, c5, sp, rfl, hc5, hs5⟩
 have hG : GU h.cs.length ⟨h.cs, h.tr, 0, false⟩ := by
  refine ⟨rfl, ?_, fun _ => by show (0 : Nat) ≤ 400; omega, by show h.tr.length ≤ 65536 + 0; omega⟩
  unfold QF Q4 at hg
  simp only [Bool.and_eq_true] at hg
  exact hg.1.2
 have huu := QkB 401 a b _ hG rfl
 have hun := Qm7 h.cs.length 401 M w0 ((b2, hob none 0 0 none 0 0) :: (b1, hob A h.cs.length c B h.tr.length d) :: H) F ub g c5 sp a b ⟨h.cs, h.tr, 0, false⟩
 have e0 : QW h a b = if (Qcn 401 a b ⟨h.cs, h.tr, 0, false⟩).2.lg = true ∨ (Qcn 401 a b ⟨h.cs, h.tr, 0, false⟩).1 = true ∧ 65536 < (Qcn 401 a b ⟨h.cs, h.tr, 0, false⟩).2.tr.length then (h, false, 3)
   else if (Qcn 401 a b ⟨h.cs, h.tr, 0, false⟩).1 = false then (h, false, 0)
   else (⟨(Qcn 401 a b ⟨h.cs, h.tr, 0, false⟩).2.cs, (Qcn 401 a b ⟨h.cs, h.tr, 0, false⟩).2.tr⟩, true, 0) := by
  unfold QW; rw [if_neg (by rw [hg]; decide), ha, hb, if_neg Yg]
 rw [e0]
 refine Zdj ?_
 refine Calls.mono (hun _ hG rfl hl1 hc5 (by show 400 ≤ 0 + 401; omega) Ya hs5) ?_
 rintro _ w6 ⟨rfl, hs6⟩
 refine Za ?_
 have hgu := huu.gu
 have hok := huu.ok
 clear huu hun e0 hs5
 generalize Qcn 401 a b ⟨h.cs, h.tr, 0, false⟩ = r at *
 obtain ⟨ok, u⟩ := r
 dsimp only at *
 cases hlg : u.lg with
 | true =>
  rw [if_pos (.inl rfl)]
  obtain ⟨B6, d6, O6, hrow6, hS⟩ := hs6.lgS hlg
  replace hS := hS.perm (.cons _ (.cons _ (List.perm_append_comm_assoc O6 [_, _] _)))
  refine Zz ?_
  refine Zb6 ?_
  refine Zan ?_
  refine Qcg rfl rfl ?_
  refine Qcg rfl rfl ?_
  refine Qcg rfl rfl ?_
  refine Qcg rfl rfl ?_
  refine Qcg rfl rfl ?_
  refine Qcg rfl rfl ?_
  refine Qcg rfl rfl ?_
  refine Zal ?_
  refine Zdi ?_
  clear hS
  intro wx4 hS
  refine Zcx ?_
  exact ⟨A, c, B, d, F, rfl, fun _ h => h, hH, St.dropL (L := O6) hS.drop.drop.drop.drop⟩
 | false =>
  obtain ⟨B6, d6, O6, hrow6, hS⟩ := hs6.lgS hlg
  replace hS := hS.perm (.cons _ (.cons _ (List.perm_append_comm_assoc O6 [_, _] _)))
  cases ok with
  | false =>
   rw [if_neg Yd, if_pos rfl]
   refine Zz ?_
   refine Zb6 ?_
   refine Zaj ?_
   refine Zbh ?_
   refine ZQ ?_
   refine Zal ?_
   refine Zv ?_
   refine ZC ?_
   refine ZC ?_
   refine ZaD ?_
   refine ZaU ?_
   refine ZdW ?_
   clear hS
   intro wx4 hS
   refine Zcx ?_
   exact ⟨A, c, B, d, F, rfl, fun _ h => h, hH, St.dropL (L := O6) hS.drop.drop.drop.drop⟩
  | true =>
   by_cases htl : 65536 < u.tr.length
   ·rw [if_pos (.inr ⟨rfl, htl⟩)]
    refine Zz ?_
    refine Zb6 ?_
    refine Zaj ?_
    refine Zco ?_
    refine Zbn ?_
    refine ZP ?_
    refine Zbt ?_
    refine Zb1 ?_
    refine Zv ?_
    refine ZC ?_
    refine Zdi ?_
    clear hS
    intro wx4 hS
    refine Zcx ?_
    exact ⟨A, c, B, d, F, rfl, fun _ h => h, hH, St.dropL (L := O6) hS.drop.drop.drop.drop⟩
   ·rw [if_neg Yh, if_neg Yg]
    refine Zz ?_
    refine Zb6 ?_
    refine Zaj ?_
    refine Zco ?_
    refine Zbn ?_
    refine ZP ?_
    refine Zbt ?_
    refine Zb1 ?_
    refine Zv ?_
    refine ZC ?_
    refine ZC ?_
    refine ZaD ?_
    refine Zaz ?_
    refine Zap ?_
    refine ZdW ?_
    clear hS
    intro wx4 hS
    refine Zcx ?_
    have hS2 := (hS.drop.perm (List.perm_append_comm_assoc [_] [_, _] _)).drop.drop
    have hS3 := St.freezeG hS2 (c := c5) (by rw [hgu.len]; exact hc5)
    have hS4 := St.freezeR hrow6 hS3
    exact ⟨_, c5, B6, d6, _, rfl, fun φ h => .tail _ (.tail _ h), fun w' hw => ⟨hw _ (.tail _ (.head _)), hw _ (.head _)⟩, hS4⟩
end
end Go.Proofs.YthliapbflkfdiacGreatDoor
