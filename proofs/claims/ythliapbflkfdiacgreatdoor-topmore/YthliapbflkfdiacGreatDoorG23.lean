/- Steps of the proof. -/
import Derived.Test.YthliapbflkfdiacGreatDoorG22
namespace Go.Proofs.YthliapbflkfdiacGreatDoor
open Go.RowKit
set_option linter.unusedVariables false
set_option linter.unusedSimpArgs false
set_option maxRecDepth 100000
set_option maxHeartbeats 1000000
abbrev QnD (b : Nat) : Value := .pointer (some ⟨b, 0, none⟩)
abbrev uob (g n c : Nat) (B : Option Addr) (m d w : Nat) (lg : Bool) : Obj := .cells [.slice (some ⟨g, 0, none⟩) n c, .slice B m d, .int .i64 (w : Nat), .bool lg].toArray 254
abbrev cob (L : List HC) (sp : List Value) : Obj := .cells (Q6 L ++ sp).toArray 104
def QgD (M : List Nat) (w0 : World) (H : List (Nat × Obj)) (F : List (World → Prop)) (ub g c : Nat) (sp : List Value) (u : HU) (w : World) : Prop :=
 ∃ (B : Option Addr) (d : Nat) (O : List (Nat × Obj)), Rw 3 1 (.slice B u.tr.length d) u.tr.length (Qm u.tr) O ∧ St M w0 ((ub, uob g u.cs.length c B u.tr.length d u.w u.lg) :: (g, cob u.cs sp) :: (O ++ H)) F w
section
variable {M : List Nat} {w0 : World} {H : List (Nat × Obj)} {F : List (World → Prop)} {ub g c : Nat} {sp : List Value}
theorem Qns (u : HU) (w : World) (hw : u.w ≤ 100000) (hs : QgD M w0 H F ub g c sp u w) :
  Calls Tryz.prog 219 #[QnD ub] w fun e w' => e = .returned (.tuple #[]) ∧ QgD M w0 H F ub g c sp u.step w' := by
 obtain ⟨B, d, O, hrow, hS⟩ := hs
 refine Qh Tryz.func219 rfl Tryz.ntmps219 rfl ?_
 by_cases h4 : 400 < u.w + 1
 ·refine ZaE ?_
  refine Zz ?_
  refine ZbG ?_
  refine Zt ?_
  clear hS
  intro wx1 hS
  refine Zb ?_
  refine ZaE ?_
  refine ZP ?_
  refine ZbF ?_
  refine Zbj ?_
  refine Zt ?_
  clear hS
  intro wx2 hS
  refine Zb ?_
  refine QD Tryz.func219 rfl ?_
  exact ⟨rfl, B, d, O, hrow, by simp only [HU.step, decide_eq_true h4, Bool.or_true]; exact hS⟩
 ·refine ZaE ?_
  refine Zz ?_
  refine ZbG ?_
  refine Zt ?_
  clear hS
  intro wx1 hS
  refine Zb ?_
  refine ZaE ?_
  refine ZP ?_
  refine Zq ?_
  refine QD Tryz.func219 rfl ?_
  exact ⟨rfl, B, d, O, hrow, by simp only [HU.step, decide_eq_false h4, Bool.or_false]; exact hS⟩
theorem Qhb (u : HU) (a : Int) (w : World) (hl : u.cs.length ≤ 65536) (hc : u.cs.length ≤ c) (hs : QgD M w0 H F ub g c sp u w) :
  Calls Tryz.prog 220 #[QnD ub, .int .i64 a] w fun e w' => e = .returned (.int .i64 (u.look a).1) ∧ QgD M w0 H F ub g c sp (u.look a).2 w' := by
 obtain ⟨B, d, O, hrow, hS⟩ := hs
 refine Qg Tryz.func220 rfl Tryz.ntmps220 rfl ?_
 cases hg : u.lg with
 | true =>
  rw [hg] at hS
  have e0 : u.look a = (-1, u) := by unfold HU.look; rw [if_pos hg]
  rw [e0]
  refine ZD ?_
  refine ZaD ?_
  refine Zae ?_
  refine Ze4 ?_
  exact ⟨rfl, B, d, O, hrow, by rw [hg]; exact hS⟩
 | false =>
  rw [hg] at hS
  have e0 : u.look a = (Qr u.cs a, ⟨u.cs, u.tr, u.w, decide (Qr u.cs a < 0)⟩) := by unfold HU.look; rw [if_neg (by rw [hg]; decide)]
  rw [e0]
  have hfl : ∀ {o H' F'} w', St M w0 ((ub, o) :: (g, cob u.cs sp) :: H') F' w' → Qz 3 (Q6 u.cs) (some ⟨g, 0, none⟩) u.cs.length c w' := fun w' hS => Qz.own (hS.own (g, _) (.tail _ (.head _))) (Q9 _) hc
  by_cases hn : Qr u.cs a < 0
  ·rw [decide_eq_true hn]
   refine ZD ?_
   refine ZaD ?_
   refine Zq ?_
   refine Zak ?_
   refine Z9 ?_
   refine Z3 ?_
   refine Calls.mono (QjY u.cs _ B c u.tr.length d a _ (hfl _ hS) Ya) ?_
   rintro _ w3 ⟨rfl, hb3⟩
   refine Za ?_
   replace hS := hS.grow hb3
   refine Zck ?_
   refine ZbF ?_
   refine Zbj ?_
   refine Zt ?_
   clear hS
   intro wx1 hS
   refine Zcq ?_
   refine Ze4 ?_
   exact ⟨rfl, B, d, O, hrow, hS⟩
  ·rw [decide_eq_false hn]
   refine ZD ?_
   refine ZaD ?_
   refine Zq ?_
   refine Zak ?_
   refine Z9 ?_
   refine Z3 ?_
   refine Calls.mono (QjY u.cs _ B c u.tr.length d a _ (hfl _ hS) Ya) ?_
   rintro _ w3 ⟨rfl, hb3⟩
   refine Za ?_
   replace hS := hS.grow hb3
   refine Zcs ?_
   refine ZQ ?_
   refine Ze4 ?_
   exact ⟨rfl, B, d, O, hrow, hS⟩
theorem Qha (u : HU) (a : Int) (x : HC) (w : World) (hx : hat u.cs a = some x) (hs : QgD M w0 H F ub g c sp u w) :
  Calls Tryz.prog 221 #[QnD ub, .int .i64 a] w fun e w' => e = .returned (.bool (decide (x.k = 0))) ∧ QgD M w0 H F ub g c sp u w' := by
 obtain ⟨B, d, O, hrow, hS⟩ := hs
 obtain ⟨h0, h1, hg⟩ := Qba.1 hx
 have hcc : ∀ {o H' F'} w', St M w0 ((ub, o) :: (g, cob u.cs sp) :: H') F' w' → _ := fun w' hS => (Qz.own (cap := u.cs.length) (hS.own (g, _) (.tail _ (.head _))) (Q9 u.cs) (Nat.le_refl _)).cell hg
 refine Qg Tryz.func221 rfl Tryz.ntmps221 rfl ?_
 by_cases hk : x.k = 0
 ·rw [decide_eq_true hk]
  refine Zj ?_
  refine ZcB ?_
  refine Zav ?_
  refine ZF ?_
  refine Zci ?_
  refine Qc Tryz.func221 rfl Yb ?_
  exact ⟨rfl, B, d, O, hrow, hS⟩
 ·rw [decide_eq_false hk]
  refine Zj ?_
  refine ZcB ?_
  refine Zav ?_
  refine ZF ?_
  refine Zci ?_
  refine Qc Tryz.func221 rfl Yb ?_
  exact ⟨rfl, B, d, O, hrow, hS⟩
theorem QkM (u : HU) (a : Int) (x : HC) (w : World) (hx : hat u.cs a = some x) (hs : QgD M w0 H F ub g c sp u w) :
  Calls Tryz.prog 240 #[QnD ub, .int .i64 a] w fun e w' => e = .returned (.int .i64 (QI x)) ∧ QgD M w0 H F ub g c sp u w' := by
 obtain ⟨B, d, O, hrow, hS⟩ := hs
 obtain ⟨h0, h1, hg⟩ := Qba.1 hx
 have hcc : ∀ {o H' F'} w', St M w0 ((ub, o) :: (g, cob u.cs sp) :: H') F' w' → _ := fun w' hS => (Qz.own (cap := u.cs.length) (hS.own (g, _) (.tail _ (.head _))) (Q9 u.cs) (Nat.le_refl _)).cell hg
 refine Qg Tryz.func240 rfl Tryz.ntmps240 rfl ?_
 refine Zj ?_
 refine ZcB ?_
 refine ZeP ?_
 refine Zk ?_
 refine Calls.mono (Qod x _) ?_
 rintro _ w3 ⟨rfl, hb3⟩
 refine Za ?_
 replace hS := hS.grow hb3
 refine Zc ?_
 refine Qc Tryz.func240 rfl Yb ?_
 exact ⟨rfl, B, d, O, hrow, hS⟩
theorem QkL (u : HU) (a x : Int) (y : HC) (w : World) (hy : hat u.cs a = some y) (ht : u.tr.length ≤ 1000000) (hs : QgD M w0 H F ub g c sp u w) :
  Calls Tryz.prog 222 #[QnD ub, .int .i64 a, .int .i64 x] w fun e w' => e = .returned (.tuple #[]) ∧ QgD M w0 H F ub g c sp (u.bind a x) w' := by
 obtain ⟨B, d, O, hrow, hS⟩ := hs
 obtain ⟨h0, h1, hg⟩ := Qba.1 hy
 have hput := Qka u.cs sp a.toNat x Ya
 refine Q2 Tryz.func222 rfl Tryz.ntmps222 rfl ?_
 refine Zak ?_
 refine Zav ?_
 refine Zbk ?_
 refine Zdk ?_
 refine ZE ?_
 refine ZfN ?_
 clear hS
 intro w6 hS
 refine Zb ?_
 refine Z1 ?_
 refine Zal ?_
 refine ZE ?_
 refine Zbk ?_
 refine ZaR ?_
 clear hS
 intro b1 wx1 hS
 refine QgQ (L := [a]) hS Yb (by rfl) rfl rfl rfl (Qz.own (sp := []) (hS.own (_, _) (.head _)) rfl (Nat.le_refl _)) hrow (List.perm_append_comm_assoc [_, _, _] O _) Yh rfl ?_
 clear hS
 intro v7 O7 w7 hrow7 hS
 obtain ⟨B7, d7, rfl, _⟩ := hrow7.form
 replace hS := (hS.perm (List.perm_append_comm_assoc O7 [_, _, _] _)).drop
 refine Zal ?_
 refine ZE ?_
 refine Zt ?_
 clear hS
 intro wx2 hS
 refine Zb ?_
 refine QD Tryz.func222 rfl ?_
 refine ⟨rfl, B7, d7, O7, ?_, ?_⟩
 ·simp only [HU.bind, List.length_append, Qm, List.map_append] at hrow7 ⊢; exact hrow7
 ·simp only [HU.bind, List.length_append, QbE]; exact hS
def Qm7 (n f : Nat) : Prop := ∀ (M : List Nat) (w0 : World) (H : List (Nat × Obj)) (F : List (World → Prop)) (ub g c : Nat) (sp : List Value) (a b : Int) (u : HU) (w : World),
 GU n u → n ≤ 65536 → n ≤ c → 400 ≤ u.w + f → u.w ≤ 20000 → f ≤ 401 → -1 ≤ b → b ≤ 100000 → QgD M w0 H F ub g c sp u w →
  Calls Tryz.prog 239 #[QnD ub, .int .i64 a, .int .i64 b] w fun e w' => e = .returned (.bool (Qcp a f b u).1) ∧ QgD M w0 H F ub g c sp (Qcp a f b u).2 w'
theorem QpW {u : HU} (h : 400 ≤ u.w) : u.step.lg = true := by simp only [HU.step, decide_eq_true (show 400 < u.w + 1 by omega), Bool.or_true]
theorem QgD.lgS {u : HU} {w : World} {b : Bool} (h : QgD M w0 H F ub g c sp u w) (hb : u.lg = b) : ∃ (B : Option Addr) (d : Nat) (O : List (Nat × Obj)), Rw 3 1 (.slice B u.tr.length d) u.tr.length (Qm u.tr) O ∧ St M w0 ((ub, uob g u.cs.length c B u.tr.length d u.w b) :: (g, cob u.cs sp) :: (O ++ H)) F w := by
 obtain ⟨B, d, O, h1, h2⟩ := h
 rw [hb] at h2
 exact ⟨B, d, O, h1, h2⟩
theorem QnE (n f : Nat) (ih : ∀ f', f = f' + 1 → Qm7 n f') : Qm7 n f := by
 intro M w0 H F ub g c sp a b u w hG hn hc hkf hk hf hb0 hb1 hs
 have hsl : (Qcp a f b u).1 = (Qcp a f b u).1 := rfl
 refine Q2 Tryz.func239 rfl Tryz.ntmps239 rfl ?_
 refine Zc1 ?_
 refine Calls.mono (Qns u _ Ya hs) ?_
 rintro _ w2 ⟨rfl, hs2⟩
 refine Za ?_
 refine Zb ?_
 refine Zac ?_
 refine Calls.mono (Qhb u.step b _ (by rw [hG.step.len]; exact hn) (by rw [hG.step.len]; exact hc) hs2) ?_
 rintro _ w3 ⟨rfl, hs3⟩
 refine Za ?_
 have hG3 := hG.step.look b
 have hcs3 : (u.step.look b).2.cs = u.cs := (Qdm u.step b).2.1
 have hw3 : (u.step.look b).2.w = u.w + 1 := (Qdm u.step b).1
 cases hlg : (u.step.look b).2.lg with
 | true =>
  have e0 : Qcp a f b u = (false, (u.step.look b).2) := by
   cases f with
   | zero => rfl
   | succ f => simp only [Qcp]; rw [if_pos hlg]
  rw [e0]
  obtain ⟨B, d, O, hrow, hS⟩ := hs3.lgS hlg
  refine ZA ?_
  refine Zbj ?_
  refine ZF ?_
  refine Zae ?_
  refine Zep ?_
  exact ⟨rfl, B, d, O, hrow, by rw [hlg]; exact hS⟩
 | false =>
  obtain ⟨f, rfl⟩ : ∃ f', f = f' + 1 := by
   cases f with
   | succ f => exact ⟨f, rfl⟩
   | zero =>
    have := (QcB hlg).1
    rw [QpW Ya] at this; cases this
  have ih := ih f rfl
  obtain ⟨hl1, hp1, hp2⟩ := QcB hlg
  obtain ⟨x, hx, hxe⟩ := QcR hp2
  rw [← hp1] at hx
  replace hx : hat u.cs (u.step.look b).1 = some x := hx
  have hx3 : hat (u.step.look b).2.cs (u.step.look b).1 = some x := by rw [hcs3]; exact hx
  obtain ⟨hx0, hx1, _⟩ := Qba.1 hx
  rw [hG.len] at hx1
  have e0 : Qcp a (f + 1) b u = if a = (u.step.look b).1 then (true, (u.step.look b).2) else Qkt (Qcp a f) (Qaz u.cs (u.step.look b).1) ((u.step.look b).1 + 1) (u.step.look b).2 := by
   simp only [Qcp]; rw [if_neg (by rw [hlg]; decide)]
  rw [e0]
  have hw4 := hG3.wk hlg
  have hgA := (QhW (a := (u.step.look b).1) hG.good).1
  have hA : QI x = ((Qaz u.cs (u.step.look b).1 : Nat) : Int) := by
   have : Qaz u.cs (u.step.look b).1 = (QI x).toNat := by unfold Qaz; rw [hx]
   rw [this]
   have := QP (Qak hG.good hx)
   unfold QI
   split <;> omega
  generalize hq : (u.step.look b).1 = q at *
  obtain ⟨B, d, O, hrow, hS⟩ := hs3.lgS hlg
  by_cases haq : a = q
  ·rw [if_pos haq]
   refine ZA ?_
   refine Zbj ?_
   refine ZF ?_
   refine Zab ?_
   refine Ze ?_
   refine Zn ?_
   refine Zae ?_
   refine Zep ?_
   exact ⟨rfl, B, d, O, hrow, by rw [hlg]; exact hS⟩
  ·rw [if_neg haq]
   refine ZA ?_
   refine Zbj ?_
   refine ZF ?_
   refine Zab ?_
   refine Ze ?_
   refine Zn ?_
   refine Zab ?_
   refine Z3 ?_
   refine Calls.mono (QkM (u.step.look b).2 q x _ hx3 ⟨B, d, O, hrow, by rw [hlg]; exact hS⟩) ?_
   rintro _ w4 ⟨rfl, hs4⟩
   refine Za ?_
   rw [hA]
   clear hS hrow
   refine ZdU ?_
   refine Qo 23 (24 :: 25 :: 7 :: 26 :: 27 :: 28 :: 29 :: 30 :: 31 :: 32 :: 6 :: 33 :: []) (fun (m : Nat) v w' => ∃ (i : Nat) (u' : HU), i + m = Qaz u.cs q ∧ v = .int .i64 (i : Nat) ∧ GU n u' ∧ u'.cs = u.cs ∧ u.w + 1 ≤ u'.w ∧ u'.w ≤ 401 + 4 * f + i ∧ Qkt (Qcp a f) (Qaz u.cs q) (q + 1) (u.step.look b).2 = Qkt (Qcp a f) m (q + 1 + (i : Nat)) u' ∧ QgD M w0 H F ub g c sp u' w') (fun m => m) (Qaz u.cs q) ?_ Yb ?_
   ·exact ⟨0, (u.step.look b).2, by omega, rfl, hG3, hcs3, by omega, by omega, by simp, hs4⟩
   clear hs4 hs3
   rintro m _ w5 jv ⟨i, u', hi, rfl, hG', hcs', hwl, hwu, hany, hs'⟩ ihl
   cases m with
   | zero =>
    refine Zcr ?_
    refine Zep ?_
    rw [hany]
    exact ⟨rfl, hs'⟩
   | succ m =>
    have hou := Qlc (n := n) a f (q + 1 + (i : Nat)) u' hG'.good hG'.wk
    have hle := hou.le
    have hlt := hou.lt
    have htl := hG'.trl
    have hstep : Qkt (Qcp a f) (m + 1) (q + 1 + (i : Nat)) u' = if (Qcp a f (q + 1 + (i : Nat)) u').1 = true then Qcp a f (q + 1 + (i : Nat)) u' else Qkt (Qcp a f) m (q + 1 + (i : Nat) + 1) (Qcp a f (q + 1 + (i : Nat)) u').2 := rfl
    refine ZaY ?_
    refine ZcA ?_
    refine ZbO ?_
    refine Zai ?_
    refine Calls.mono (ih M w0 H F ub g c sp a (q + 1 + (i : Nat)) u' _ hG' hn hc Ya Ya Ya Ya Ya hs') ?_
    rintro _ w6 ⟨rfl, hs6⟩
    refine Za ?_
    cases hr : (Qcp a f (q + 1 + (i : Nat)) u').1 with
    | true =>
     refine Zae ?_
     refine Zep ?_
     rw [hany, hstep, if_pos hr, hr]
     exact ⟨rfl, hs6⟩
    | false =>
     refine ZbM ?_
     refine ihl m _ _ _ ?_ ?_ Yb Yc
     ·omega
     ·refine ⟨i + 1, (Qcp a f (q + 1 + (i : Nat)) u').2, by omega, by simp, ⟨by rw [hou.cs]; exact hG'.len, by rw [hou.cs]; exact hG'.good, hou.wk, by rw [hou.tr]; omega⟩, by rw [hou.cs]; exact hcs', by omega, by omega, ?_, hs6⟩
      rw [hany, hstep, if_neg (by rw [hr]; decide)]
      congr 1
      omega
theorem QnF (n : Nat) : ∀ f, Qm7 n f
 | 0 => QnE n 0 fun f' h => by omega
 | f + 1 => QnE n (f + 1) fun f' h => by
  obtain rfl : f = f' := by omega
  exact QnF n f
theorem Qjy (n : Nat) (a b : Int) (y : HC) (u : HU) (w : World) (hG : GU n u) (hn : n ≤ 65536) (hc : n ≤ c) (hlg : u.lg = false) (hy : hat u.cs a = some y) (hb0 : 0 ≤ b) (hb1 : b < n) (hs : QgD M w0 H F ub g c sp u w) :
  Calls Tryz.prog 223 #[QnD ub, .int .i64 a, .int .i64 b] w fun e w' => e = .returned (.bool (Qm1 a b u).1) ∧ QgD M w0 H F ub g c sp (Qm1 a b u).2 w' := by
 have hw := hG.wk hlg
 have hou := Qlc (n := n) a 401 b u hG.good hG.wk
 have htl := hG.trl
 have e0 : Qm1 a b u = if (Qcp a 401 b u).1 = true ∨ (Qcp a 401 b u).2.lg = true then (false, (Qcp a 401 b u).2) else (true, (Qcp a 401 b u).2.bind a b) := rfl
 rw [e0]
 refine Q2 Tryz.func223 rfl Tryz.ntmps223 rfl ?_
 refine ZD ?_
 refine Za2 ?_
 refine Zai ?_
 refine Calls.mono (QnF n 401 M w0 H F ub g c sp a b u _ hG hn hc Ya Ya Ya Ya Ya hs) ?_
 rintro _ w3 ⟨rfl, hs3⟩
 refine Za ?_
 cases ho : (Qcp a 401 b u).1 with
 | true =>
  rw [if_pos (.inl rfl)]
  refine ZaX ?_
  refine Zbc ?_
  refine Ze5 ?_
  exact ⟨rfl, hs3⟩
 | false =>
  cases hl : (Qcp a 401 b u).2.lg with
  | true =>
   rw [if_pos (.inr rfl)]
   obtain ⟨B, d, O, hrow, hS⟩ := hs3.lgS hl
   refine Zaj ?_
   refine Zb3 ?_
   refine ZaQ ?_
   refine Zdh ?_
   refine Zbc ?_
   refine Ze5 ?_
   exact ⟨rfl, B, d, O, hrow, by rw [hl]; exact hS⟩
  | false =>
   rw [if_neg Yg]
   obtain ⟨B, d, O, hrow, hS⟩ := hs3.lgS hl
   refine Zaj ?_
   refine Zb3 ?_
   refine ZaQ ?_
   refine Zdh ?_
   refine Z8 ?_
   refine Zdn ?_
   refine Calls.mono (QkL (Qcp a 401 b u).2 a b y _ (by rw [hou.cs]; exact hy) (by rw [hou.tr]; omega) ⟨B, d, O, hrow, by rw [hl]; exact hS⟩) ?_
   rintro _ w4 ⟨rfl, hs4⟩
   refine Za ?_
   refine Zbo ?_
   refine Ze5 ?_
   exact ⟨rfl, hs4⟩
end
def Qku (n f : Nat) : Prop := ∀ (M : List Nat) (w0 : World) (H : List (Nat × Obj)) (F : List (World → Prop)) (ub g c : Nat) (sp : List Value) (a b : Int) (u : HU) (w : World),
 GU n u → u.lg = false → n ≤ 65536 → n ≤ c → 400 ≤ u.w + f → f ≤ 401 → QgD M w0 H F ub g c sp u w →
  Calls Tryz.prog 196 #[QnD ub, .int .i64 a, .int .i64 b] w fun e w' => e = .returned (.bool (Qcr f a b u).1) ∧ QgD M w0 H F ub g c sp (Qcr f a b u).2 w'
section
variable {M : List Nat} {w0 : World} {H : List (Nat × Obj)} {F : List (World → Prop)} {ub g c : Nat} {sp : List Value}
theorem Qqg (n f : Nat) (ih : Qku n f) (a b : Int) (x y : HC) (u : HU) (w : World) (hG : GU n u) (hlg : u.lg = false) (hn : n ≤ 65536) (hc : n ≤ c) (hkf : 400 ≤ u.w + f) (hf : f ≤ 401) (hx : hat u.cs a = some x) (hy : hat u.cs b = some y) (hs : QgD M w0 H F ub g c sp u w) :
  Calls Tryz.prog 224 #[QnD ub, .int .i64 a, .int .i64 b] w fun e w' => e = .returned (.bool (Qdk (Qcr f) a b u).1) ∧ QgD M w0 H F ub g c sp (Qdk (Qcr f) a b u).2 w' := by
 have hw := hG.wk hlg
 obtain ⟨hx0, hx1, hgx⟩ := Qba.1 hx
 obtain ⟨hy0, hy1, hgy⟩ := Qba.1 hy
 have hlen := hG.len
 have hcx : ∀ {o H' F'} w', St M w0 ((ub, o) :: (g, cob u.cs sp) :: H') F' w' → _ := fun w' hS => (Qz.own (cap := u.cs.length) (hS.own (g, _) (.tail _ (.head _))) (Q9 u.cs) (Nat.le_refl _)).cell hgx
 have hcy : ∀ {o H' F'} w', St M w0 ((ub, o) :: (g, cob u.cs sp) :: H') F' w' → _ := fun w' hS => (Qz.own (cap := u.cs.length) (hS.own (g, _) (.tail _ (.head _))) (Q9 u.cs) (Nat.le_refl _)).cell hgy
 have hA : QI x = ((Qaz u.cs a : Nat) : Int) := by
  have : Qaz u.cs a = (QI x).toNat := by unfold Qaz; rw [hx]
  rw [this]
  have := QP (Qak hG.good hx)
  unfold QI
  split <;> omega
 have hgA := (QhW (a := a) hG.good).1
 obtain ⟨B, d, O, hrow, hS⟩ := hs.lgS hlg
 refine Q2 Tryz.func224 rfl Tryz.ntmps224 rfl ?_
 refine Zc2 ?_
 refine Zu ?_
 refine Zeq ?_
 replace hS := hS.drew
 refine ZaC ?_
 refine Zax ?_
 refine ZfO ?_
 refine ZT ?_
 refine Za4 ?_
 refine ZfP ?_
 refine ZaC ?_
 refine Zax ?_
 refine ZfO ?_
 refine ZT ?_
 refine Za4 ?_
 refine ZfP ?_
 refine Qd rfl (fun _ hS => QkV rfl rfl) rfl ?_
 refine ZeJ ?_
 by_cases hxy : x = y
 case neg =>
  have e0 : Qdk (Qcr f) a b u = (false, u) := by unfold Qdk; rw [hx, hy, if_neg (by simpa using hxy)]
  rw [e0, decide_eq_false hxy]
  refine ZI ?_
  refine Zj ?_
  refine Ze6 ?_
  exact ⟨rfl, B, d, O, hrow, by rw [hlg]; exact hS⟩
 have e0 : Qdk (Qcr f) a b u = Qik (Qcr f) (Qaz u.cs a) (a + 1) (b + 1) u := by unfold Qdk; rw [hx, hy, if_pos (by rw [hxy])]
 rw [e0, decide_eq_true hxy]
 refine ZR ?_
 refine Zag ?_
 refine Zw ?_
 refine Z3 ?_
 refine Calls.mono (QkM u a x _ hx ⟨B, d, O, hrow, by rw [hlg]; exact hS⟩) ?_
 rintro _ w4 ⟨rfl, hs4⟩
 refine Za ?_
 rw [hA]
 clear hS hrow
 refine ZdU ?_
 refine Qo 28 (29 :: 30 :: 7 :: 31 :: 32 :: 33 :: 34 :: 35 :: 36 :: 37 :: 38 :: 39 :: 40 :: 41 :: 6 :: 42 :: []) (fun (m : Nat) v w' => ∃ (i : Nat) (u' : HU), i + m = Qaz u.cs a ∧ v = .int .i64 (i : Nat) ∧ GU n u' ∧ u'.lg = false ∧ u.w ≤ u'.w ∧ Qik (Qcr f) (Qaz u.cs a) (a + 1) (b + 1) u = Qik (Qcr f) m (a + 1 + (i : Nat)) (b + 1 + (i : Nat)) u' ∧ QgD M w0 H F ub g c sp u' w') (fun m => m) (Qaz u.cs a) ?_ Yb ?_
 ·exact ⟨0, u, by omega, rfl, hG, hlg, Nat.le_refl _, by simp, hs4⟩
 clear hs4
 rintro m _ w5 jv ⟨i, u', hi, rfl, hG', hl', hwl, hall, hs'⟩ ihl
 cases m with
 | zero =>
  refine Zcr ?_
  refine Ze6 ?_
  rw [hall]
  exact ⟨rfl, hs'⟩
 | succ m =>
  have huu := QkJ (n := n) f (a + 1 + (i : Nat)) (b + 1 + (i : Nat)) u' hG' hl'
  have hstep : Qik (Qcr f) (m + 1) (a + 1 + (i : Nat)) (b + 1 + (i : Nat)) u' = if (Qcr f (a + 1 + (i : Nat)) (b + 1 + (i : Nat)) u').1 = true then Qik (Qcr f) m (a + 1 + (i : Nat) + 1) (b + 1 + (i : Nat) + 1) (Qcr f (a + 1 + (i : Nat)) (b + 1 + (i : Nat)) u').2 else Qcr f (a + 1 + (i : Nat)) (b + 1 + (i : Nat)) u' := rfl
  refine ZaY ?_
  refine Zbs ?_
  refine ZbO ?_
  refine ZbO ?_
  refine ZbO ?_
  refine Zai ?_
  refine Calls.mono (ih M w0 H F ub g c sp (a + 1 + (i : Nat)) (b + 1 + (i : Nat)) u' _ hG' hl' hn hc Ya hf hs') ?_
  rintro _ w6 ⟨rfl, hs6⟩
  refine Za ?_
  cases hr : (Qcr f (a + 1 + (i : Nat)) (b + 1 + (i : Nat)) u').1 with
  | true =>
   refine ZV ?_
   refine ZbZ ?_
   refine ihl m _ _ _ ?_ ?_ Yb Yc
   ·omega
   ·have hlt := huu.lt
    refine ⟨i + 1, (Qcr f (a + 1 + (i : Nat)) (b + 1 + (i : Nat)) u').2, by omega, by simp, huu.gu, huu.ok hr, by omega, ?_, hs6⟩
    rw [hall, hstep, if_pos hr]
    congr 1 <;> omega
  | false =>
   refine Zbl ?_
   refine Zj ?_
   refine Ze6 ?_
   rw [hall, hstep, if_neg (by rw [hr]; decide), hr]
   exact ⟨rfl, hs6⟩
theorem Qnf (n f : Nat) (ih : ∀ f', f = f' + 1 → Qku n f') : Qku n f := by
 intro M w0 H F ub g c sp a b u w hG hlg hn hc hkf hf hs
 have hw := hG.wk hlg
 refine Q2 Tryz.func196 rfl Tryz.ntmps196 rfl ?_
 refine Zc1 ?_
 refine Calls.mono (Qns u _ Ya hs) ?_
 rintro _ w2 ⟨rfl, hs2⟩
 refine Za ?_
 refine Zb ?_
 refine Zac ?_
 refine Calls.mono (Qhb u.step a _ (by rw [hG.step.len]; exact hn) (by rw [hG.step.len]; exact hc) hs2) ?_
 rintro _ w3 ⟨rfl, hs3⟩
 refine Za ?_
 have hGa := hG.step.look a
 refine Ze ?_
 refine Z3 ?_
 refine Calls.mono (Qhb (u.step.look a).2 b _ (by rw [hGa.len]; exact hn) (by rw [hGa.len]; exact hc) hs3) ?_
 rintro _ w4 ⟨rfl, hs4⟩
 refine Za ?_
 have hwa := Qdm u.step a
 have hwb := Qdm (u.step.look a).2 b
 have hG2 : GU n ((u.step.look a).2.look b).2 := hGa.look b
 have hw2 : ((u.step.look a).2.look b).2.w = u.w + 1 := by rw [hwb.1, hwa.1]; rfl
 have hcs2 : ((u.step.look a).2.look b).2.cs = u.cs := by rw [hwb.2.1, hwa.2.1]; rfl
 cases hl2 : ((u.step.look a).2.look b).2.lg with
 | true =>
  have e0 : Qcr f a b u = (false, ((u.step.look a).2.look b).2) := by
   cases f with
   | zero => rfl
   | succ f => simp only [Qcr]; rw [if_pos hl2]
  rw [e0]
  obtain ⟨B, d, O, hrow, hS⟩ := hs4.lgS hl2
  refine ZaA ?_
  refine Zbj ?_
  refine ZfQ ?_
  refine Zae ?_
  refine ZcL ?_
  exact ⟨rfl, B, d, O, hrow, by rw [hl2]; exact hS⟩
 | false =>
  obtain ⟨hla, hb1, hb2⟩ := QcB hl2
  obtain ⟨hls, ha1, ha2⟩ := QcB hla
  obtain ⟨f, rfl⟩ : ∃ f', f = f' + 1 := by
   cases f with
   | succ f => exact ⟨f, rfl⟩
   | zero => rw [QpW Ya] at hls; cases hls
  have ih := ih f rfl
  rw [hwa.2.1] at hb1 hb2
  obtain ⟨x, hx, hxe⟩ := QcR ha2
  obtain ⟨y, hy, hye⟩ := QcR hb2
  rw [← ha1] at hx hxe
  rw [← hb1] at hy hye
  replace hx : hat u.cs (u.step.look a).1 = some x := hx
  replace hy : hat u.cs ((u.step.look a).2.look b).1 = some y := hy
  obtain ⟨x0, x1, _⟩ := Qba.1 hx
  obtain ⟨y0, y1, _⟩ := Qba.1 hy
  rw [hG.len] at x1 y1
  have htl := hG2.trl
  have e0 : Qcr (f + 1) a b u = if x.k = 0 then (if y.k = 0 then (if (u.step.look a).1 = ((u.step.look a).2.look b).1 then (true, ((u.step.look a).2.look b).2) else (true, ((u.step.look a).2.look b).2.bind (max (u.step.look a).1 ((u.step.look a).2.look b).1) (min (u.step.look a).1 ((u.step.look a).2.look b).1))) else Qm1 (u.step.look a).1 ((u.step.look a).2.look b).1 ((u.step.look a).2.look b).2)
    else if y.k = 0 then Qm1 ((u.step.look a).2.look b).1 (u.step.look a).1 ((u.step.look a).2.look b).2 else Qdk (Qcr f) (u.step.look a).1 ((u.step.look a).2.look b).1 ((u.step.look a).2.look b).2 := by
   simp only [Qcr]
   rw [if_neg (by rw [hl2]; decide), show Qa2 u.cs (u.step.look a).1 = x.k by unfold Qa2; rw [hx], show Qa2 u.cs ((u.step.look a).2.look b).1 = y.k by unfold Qa2; rw [hy]]
  rw [e0]
  have hx' : hat ((u.step.look a).2.look b).2.cs (u.step.look a).1 = some x := by rw [hcs2]; exact hx
  have hy' : hat ((u.step.look a).2.look b).2.cs ((u.step.look a).2.look b).1 = some y := by rw [hcs2]; exact hy
  clear hs3 hs2 e0 hwb hb1 ha1 hxe hye hx hy
  generalize ((u.step.look a).2.look b).2 = v at *
  generalize ((u.step.look a).2.look b).1 = q at *
  generalize (u.step.look a).1 = p at *
  obtain ⟨B, d, O, hrow, hS⟩ := hs4.lgS hl2
  refine ZaA ?_
  refine Zbj ?_
  refine ZfQ ?_
  refine Zq ?_
  refine Z5 ?_
  clear hs4
  have hs5 : QgD M w0 H F ub g c sp v _ := ⟨B, d, O, hrow, by rw [hl2]; exact hS⟩
  clear hrow hS
  refine Zf ?_
  refine Calls.mono (Qha v p x _ hx' hs5) ?_
  rintro _ w5 ⟨rfl, hs6⟩
  refine Za ?_
  clear hs5
  refine Ze ?_
  refine Z3 ?_
  refine Calls.mono (Qha v q y _ hy' hs6) ?_
  rintro _ w6 ⟨rfl, hs7⟩
  refine Za ?_
  by_cases hxk : x.k = 0
  ·rw [if_pos hxk, decide_eq_true hxk]
   by_cases hyk : y.k = 0
   ·rw [if_pos hyk, decide_eq_true hyk]
    by_cases hpq : p = q
    ·rw [if_pos hpq]
     refine Zl ?_
     refine Zap ?_
     refine Zm ?_
     refine Zx ?_
     refine Ze ?_
     refine Zcn ?_
     refine Zc4 ?_
     refine Zy ?_
     refine Zq ?_
     refine Zj ?_
     refine ZcL ?_
     exact ⟨rfl, hs7⟩
    ·rw [if_neg hpq]
     have hbnd := QkL (M := M) (w0 := w0) (H := H) (F := F) (ub := ub) (g := g) (c := c) (sp := sp) v (max p q) (min p q)
     have hmx : max p q = (if p < q then q else p) := by omega
     have hmn : min p q = (if q < p then q else p) := by omega
     have hhat : ∃ z, hat v.cs (max p q) = some z := by
      rcases Int.le_total p q with hle | hle
      ·rw [Int.max_eq_right hle]; exact ⟨y, hy'⟩
      ·rw [Int.max_eq_left hle]; exact ⟨x, hx'⟩
     obtain ⟨z, hz⟩ := hhat
     refine Zl ?_
     refine Zap ?_
     refine Zm ?_
     refine Zx ?_
     refine Ze ?_
     refine Zcn ?_
     refine Zc4 ?_
     refine Zy ?_
     refine Zcm ?_
     refine Ze ?_
     refine Qa (Qnz rfl rfl Ye) rfl ?_
     refine Za2 ?_
     refine Qa (QjL rfl rfl Ye) rfl ?_
     refine Zai ?_
     refine Calls.mono (hbnd z _ hz Ya hs7) ?_
     rintro _ w8 ⟨rfl, hs8⟩
     refine Za ?_
     refine Zbo ?_
     refine ZcL ?_
     exact ⟨rfl, hs8⟩
   ·rw [if_neg hyk, decide_eq_false hyk]
    refine Zl ?_
    refine Zap ?_
    refine Zm ?_
    refine Zx ?_
    refine Ze ?_
    refine Zc8 ?_
    refine ZQ ?_
    refine ZI ?_
    refine Zdn ?_
    refine Calls.mono (Qjy n p q x v _ hG2 hn hc hl2 hx' y0 y1 hs7) ?_
    rintro _ w8 ⟨rfl, hs8⟩
    refine ZH ?_
    refine ZcL ?_
    exact ⟨rfl, hs8⟩
  ·rw [if_neg hxk, decide_eq_false hxk]
   by_cases hyk : y.k = 0
   ·rw [if_pos hyk, decide_eq_true hyk]
    refine Zl ?_
    refine Zap ?_
    refine Z5 ?_
    refine Zan ?_
    refine Zc8 ?_
    refine ZQ ?_
    refine ZR ?_
    refine ZQ ?_
    refine ZI ?_
    refine Zdn ?_
    refine Calls.mono (Qjy n q p y v _ hG2 hn hc hl2 hy' x0 x1 hs7) ?_
    rintro _ w8 ⟨rfl, hs8⟩
    refine ZH ?_
    refine ZcL ?_
    exact ⟨rfl, hs8⟩
   ·rw [if_neg hyk, decide_eq_false hyk]
    refine Zl ?_
    refine Zap ?_
    refine Z5 ?_
    refine Zan ?_
    refine Zc8 ?_
    refine ZQ ?_
    refine ZR ?_
    refine ZQ ?_
    refine ZR ?_
    refine ZbD ?_
    refine Zdn ?_
    refine Calls.mono (Qqg n f ih p q x y v _ hG2 hl2 hn hc Ya Ya hx' hy' hs7) ?_
    rintro _ w8 ⟨rfl, hs8⟩
    refine ZH ?_
    refine ZcL ?_
    exact ⟨rfl, hs8⟩
theorem Qng (n : Nat) : ∀ f, Qku n f
 | 0 => Qnf n 0 fun f' h => by omega
 | f + 1 => Qnf n (f + 1) fun f' h => by
  obtain rfl : f = f' := by omega
  exact Qng n f
end
section
variable {M : List Nat} {w0 : World} {H : List (Nat × Obj)} {F : List (World → Prop)}
theorem St.freezeG {g c : Nat} {L : List HC} {sp : List Value} {w : World} (hS : St M w0 ((g, cob L sp) :: H) F w) (hc : L.length ≤ c) : St M w0 H (Qz 3 (Q6 L) (some ⟨g, 0, none⟩) L.length c :: F) w := by
 have ho := hS.own (g, _) (.head _)
 refine hS.drop.learn fun w' hw => Qz.own (sp := sp) (el := 104) ?_ (Q9 L) hc
 rw [hw.block g (QcL ho) fun hm => ?_]
 ·exact ho
 ·obtain ⟨p, hp, e⟩ := List.mem_map.1 hm
  exact (List.pairwise_cons.1 hS.apart).1 p hp e.symm
theorem Qve {h : HH} {A3 B3 : Option Addr} {c3 d3 ub : Nat} {O3 O4 : List (Nat × Obj)} {w : World} (hr3 : Rw 104 3 (.slice A3 h.cs.length c3) h.cs.length (Q6 h.cs) O3) (hr4 : Rw 3 1 (.slice B3 h.tr.length d3) h.tr.length (Qm h.tr) O4) (hp : 0 < h.cs.length)
  (hS : St M w0 ((ub, .cells [.slice A3 h.cs.length c3, .slice B3 h.tr.length d3, .int .i64 0, .bool false].toArray 254) :: (O4 ++ (O3 ++ H))) F w) :
  ∃ ub' g c sp, QnD ub = QnD ub' ∧ h.cs.length ≤ c ∧ QgD M w0 H F ub' g c sp ⟨h.cs, h.tr, 0, false⟩ w := by
 obtain ⟨g, sp, rfl, rfl, _, hle, _⟩ := hr3.some_ hp
 exact ⟨ub, g, c3, sp, rfl, hle, B3, d3, O4, hr4, hS.perm (.cons _ (List.perm_append_comm_assoc O4 [_] _))⟩
theorem QkI (h : HH) (a b : Int) (A B : Option Addr) (c d : Nat) (w : World) (hH : Und F (HFl h A c B d)) (hS : St M w0 H F w) :
  Calls Tryz.prog 155 #[hv h A c B d, .int .i64 a, .int .i64 b] w (Qva M w0 H F (QX h a b).1 fun A' c' B' d' e => e = .returned (.tuple #[hv (QX h a b).1 A' c' B' d', .bool (QX h a b).2.1, .int .i64 (QX h a b).2.2])) := by
 have hL : Und F (Qz 3 (Q6 h.cs) A h.cs.length c) := hH.imp fun _ h => h.1
 have hT : Und F (Qz 1 (Qm h.tr) B h.tr.length d) := hH.imp fun _ h => h.2
 refine Q2 Tryz.func155 rfl Tryz.ntmps155 rfl ?_
 refine Zi ?_
 clear hS
 intro b1 wx1 hS
 refine Za3 ?_
 clear hS
 intro b2 wx2 hS
 refine Zl ?_
 refine Zbd ?_
 refine Z9 ?_
 refine Zdj ?_
 rintro _ w2 ⟨rfl, hb2⟩
 refine Za ?_
 replace hS := hS.grow hb2
 cases hg : QF h with
 | false =>
  have e0 : QX h a b = (h, false, 1) := by unfold QX; rw [if_pos hg]
  rw [e0]
  refine Za1 ?_
  refine Zd2 ?_
  clear hS
  intro wx3 hS
  refine ZcC ?_
  exact ⟨A, c, B, d, F, rfl, fun _ h => h, hH, hS.drop.drop⟩
 | true =>
 obtain ⟨hl1, hl2⟩ := Qdd hg
 refine ZV ?_
 refine Zbd ?_
 refine Z9 ?_
 refine Z3 ?_
 refine Calls.mono (Qbb h.cs.length c A B h.tr.length d a _) ?_
 rintro _ w3 ⟨rfl, hb3⟩
 refine Za ?_
 replace hS := hS.grow hb3
 cases ha : Qj h.cs a with
 | false =>
  have e0 : QX h a b = (h, false, 4) := by unfold QX; rw [if_neg (by rw [hg]; decide), ha, if_pos Yd]
  rw [e0, show (decide (0 ≤ a) && decide (a < (h.cs.length : Nat))) = false from ha]
  refine Zah ?_
  refine ZaX ?_
  refine Zdm ?_
  clear hS
  intro wx3 hS
  refine ZcC ?_
  exact ⟨A, c, B, d, F, rfl, fun _ h => h, hH, hS.drop.drop⟩
 | true =>
 rw [show (decide (0 ≤ a) && decide (a < (h.cs.length : Nat))) = true from ha]
 refine Zah ?_
 refine Zx ?_
 refine Z9 ?_
 refine ZO ?_
 refine Zf ?_
 refine Calls.mono (Qbb h.cs.length c A B h.tr.length d b _) ?_
 rintro _ w4 ⟨rfl, hb4⟩
 refine Za ?_
 replace hS := hS.grow hb4
 cases hb : Qj h.cs b with
 | false =>
  have e0 : QX h a b = (h, false, 4) := by unfold QX; rw [if_neg (by rw [hg]; decide), ha, hb, if_pos Yd]
  rw [e0, show (decide (0 ≤ b) && decide (b < (h.cs.length : Nat))) = false from hb]
  refine Zbm ?_
  refine Zdm ?_
  clear hS
  intro wx3 hS
  refine ZcC ?_
  exact ⟨A, c, B, d, F, rfl, fun _ h => h, hH, hS.drop.drop⟩
 | true =>
 rw [show (decide (0 ≤ b) && decide (b < (h.cs.length : Nat))) = true from hb]
 have hpos : 0 < h.cs.length := by
  obtain ⟨x, hx⟩ := Qcf.1 ha
  have := QcD hx; omega
 refine Zbm ?_
 refine Z8 ?_
 refine Zu ?_
 refine Qei 9 (26 :: 27 :: 28 :: 29 :: 30 :: 31 :: 32 :: 33 :: 34 :: []) (fun v w' => ∃ ub g c' sp, v = QnD ub ∧ h.cs.length ≤ c' ∧ QgD M w0 ((b2, hob none 0 0 none 0 0) :: (b1, hob A h.cs.length c B h.tr.length d) :: H) F ub g c' sp ⟨h.cs, h.tr, 0, false⟩ w') ?_ ?_
 ·intro hmeet
  refine QcU (St _ _ _ _) 10 (.read 0 (.read 1 (.read 3 (.read 4 (.pick 2 (.pick 5 (.read 6 (.read 7 (.pick 8 (.read 9 .tail) .none))) .none) .none))))) Yc Yc hS.drew ?_
  replace hS := hS.drew
  refine ZcJ ?_
  refine Ze7 ?_
  refine Ze2 ?_
  refine Ze7 ?_
  refine Zao ?_
  refine Zk ?_
  refine Calls.mono (Qjv h.cs A c _ hL Ya hS) ?_
  rintro _ w5 ⟨A3, c3, O3, rfl, hrow3, hS'⟩
  refine Za ?_
  replace hS := hS'
  clear hS'
  refine Ze8 ?_
  refine Zao ?_
  refine Zk ?_
  refine Calls.mono (Qpa h.tr B d _ hT Ya hS) ?_
  rintro _ w6 ⟨B3, d3, O4, rfl, hrow4, hS'⟩
  refine Za ?_
  replace hS := hS'
  clear hS'
  refine Ze8 ?_
  refine ZcK ?_
  refine Qv rfl (fun _ hS => QN (cells := [_, _, _, _]) (.cons Yb .nil) rfl) rfl ?_
  refine Zao ?_
  refine Zcb ?_
  clear hS
  intro b3 wx3 hS
  refine Ze8 ?_
  refine Zce ?_
  refine Qbo ?_
  refine Zb ?_
  exact hmeet _ _ _ (Qve hrow3 hrow4 hpos (by first | exact hS | exact hS.perm (.cons _ (List.perm_append_comm_assoc _ _ _)))) Yb Yc
 clear hS
 rintro jv _ w5 ⟨ub, g, c5, sp, rfl, hc5, hs5⟩
 have hG : GU h.cs.length ⟨h.cs, h.tr, 0, false⟩ := by
  refine ⟨rfl, ?_, fun _ => by show (0 : Nat) ≤ 400; omega, by show h.tr.length ≤ 65536 + 0; omega⟩
  unfold QF Q4 at hg
  simp only [Bool.and_eq_true] at hg
  exact hg.1.2
 have huu := QkJ 401 a b _ hG rfl
 have hun := Qng h.cs.length 401 M w0 ((b2, hob none 0 0 none 0 0) :: (b1, hob A h.cs.length c B h.tr.length d) :: H) F ub g c5 sp a b ⟨h.cs, h.tr, 0, false⟩
 have e0 : QX h a b = if (Qcr 401 a b ⟨h.cs, h.tr, 0, false⟩).2.lg = true ∨ (Qcr 401 a b ⟨h.cs, h.tr, 0, false⟩).1 = true ∧ 65536 < (Qcr 401 a b ⟨h.cs, h.tr, 0, false⟩).2.tr.length then (h, false, 3)
   else if (Qcr 401 a b ⟨h.cs, h.tr, 0, false⟩).1 = false then (h, false, 0)
   else (⟨(Qcr 401 a b ⟨h.cs, h.tr, 0, false⟩).2.cs, (Qcr 401 a b ⟨h.cs, h.tr, 0, false⟩).2.tr⟩, true, 0) := by
  unfold QX; rw [if_neg (by rw [hg]; decide), ha, hb, if_neg Yg]
 rw [e0]
 refine Zdn ?_
 refine Calls.mono (hun _ hG rfl hl1 hc5 (by show 400 ≤ 0 + 401; omega) Ya hs5) ?_
 rintro _ w6 ⟨rfl, hs6⟩
 refine Za ?_
 have hgu := huu.gu
 have hok := huu.ok
 clear huu hun e0 hs5
 generalize Qcr 401 a b ⟨h.cs, h.tr, 0, false⟩ = r at *
 obtain ⟨ok, u⟩ := r
 dsimp only at *
 cases hlg : u.lg with
 | true =>
  rw [if_pos (.inl rfl)]
  obtain ⟨B6, d6, O6, hrow6, hS⟩ := hs6.lgS hlg
  replace hS := hS.perm (.cons _ (.cons _ (List.perm_append_comm_assoc O6 [_, _] _)))
  refine ZA ?_
  refine ZaD ?_
  refine Zaq ?_
  refine Qck rfl rfl ?_
  refine Qck rfl rfl ?_
  refine Qck rfl rfl ?_
  refine Qck rfl rfl ?_
  refine Qck rfl rfl ?_
  refine Qck rfl rfl ?_
  refine Qck rfl rfl ?_
  refine Zan ?_
  refine Zdm ?_
  clear hS
  intro wx4 hS
  refine ZcC ?_
  exact ⟨A, c, B, d, F, rfl, fun _ h => h, hH, St.dropL (L := O6) hS.drop.drop.drop.drop⟩
 | false =>
  obtain ⟨B6, d6, O6, hrow6, hS⟩ := hs6.lgS hlg
  replace hS := hS.perm (.cons _ (.cons _ (List.perm_append_comm_assoc O6 [_, _] _)))
  cases ok with
  | false =>
   rw [if_neg Yd, if_pos rfl]
   refine ZA ?_
   refine ZaD ?_
   refine Zaj ?_
   refine ZaX ?_
   refine ZY ?_
   refine Zan ?_
   refine Zv ?_
   refine ZS ?_
   refine Zd3 ?_
   refine Za1 ?_
   refine Zd2 ?_
   clear hS
   intro wx4 hS
   refine ZcC ?_
   exact ⟨A, c, B, d, F, rfl, fun _ h => h, hH, St.dropL (L := O6) hS.drop.drop.drop.drop⟩
  | true =>
   by_cases htl : 65536 < u.tr.length
   ·rw [if_pos (.inr ⟨rfl, htl⟩)]
    refine ZA ?_
    refine ZaD ?_
    refine Zaj ?_
    refine Zaj ?_
    refine Zb3 ?_
    refine Zbr ?_
    refine ZE ?_
    refine Zbx ?_
    refine Zb6 ?_
    refine Zv ?_
    refine ZS ?_
    refine Zdm ?_
    clear hS
    intro wx4 hS
    refine ZcC ?_
    exact ⟨A, c, B, d, F, rfl, fun _ h => h, hH, St.dropL (L := O6) hS.drop.drop.drop.drop⟩
   ·rw [if_neg Yh, if_neg Yg]
    refine ZA ?_
    refine ZaD ?_
    refine Zaj ?_
    refine Zaj ?_
    refine Zb3 ?_
    refine Zbr ?_
    refine ZE ?_
    refine Zbx ?_
    refine Zb6 ?_
    refine Zv ?_
    refine ZS ?_
    refine Zd3 ?_
    refine ZV ?_
    refine Zak ?_
    refine Zd2 ?_
    clear hS
    intro wx4 hS
    refine ZcC ?_
    have hS2 := (hS.drop.perm (List.perm_append_comm_assoc [_] [_, _] _)).drop.drop
    have hS3 := St.freezeG hS2 (c := c5) (by rw [hgu.len]; exact hc5)
    have hS4 := St.freezeR hrow6 hS3
    exact ⟨_, c5, B6, d6, _, rfl, fun φ h => .tail _ (.tail _ h), fun w' hw => ⟨hw _ (.tail _ (.head _)), hw _ (.head _)⟩, hS4⟩
end
end Go.Proofs.YthliapbflkfdiacGreatDoor
