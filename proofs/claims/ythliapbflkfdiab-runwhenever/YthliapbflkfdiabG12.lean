/- HWalk5, HWalk6, HWalk7: texts that follow one another, laid into one file. -/
import Derived.Test.YthliapbflkfdiabZ0
import Derived.Test.YthliapbflkfdiabG11
import Derived.Test.YthliapbflkfdiabG2
namespace Go.Proofs.Ythliapbflkfdiab
open Go.RowKit
set_option linter.unusedVariables false
set_option linter.unusedSimpArgs false
set_option maxRecDepth 100000
set_option maxHeartbeats 1000000
abbrev ptrH (b : Nat) : Value := .pointer (some ⟨b, 0, none⟩)
abbrev uob (g n c : Nat) (B : Option Addr) (m d w : Nat) (lg : Bool) : Obj := .cells [.slice (some ⟨g, 0, none⟩) n c, .slice B m d, .int .i64 (w : Nat), .bool lg].toArray 77
abbrev cob (L : List HC) (sp : List Value) : Obj := .cells (hcsL L ++ sp).toArray 74
def HUSt (M : List Nat) (w0 : World) (H : List (Nat × Obj)) (F : List (World → Prop)) (ub g c : Nat) (sp : List Value) (u : HU) (w : World) : Prop :=
 ∃ (B : Option Addr) (d : Nat) (O : List (Nat × Obj)), Rw 3 1 (.slice B u.tr.length d) u.tr.length (intsV u.tr) O ∧ St M w0 ((ub, uob g u.cs.length c B u.tr.length d u.w u.lg) :: (g, cob u.cs sp) :: (O ++ H)) F w
section
variable {M : List Nat} {w0 : World} {H : List (Nat × Obj)} {F : List (World → Prop)} {ub g c : Nat} {sp : List Value}
theorem step_any (u : HU) (w : World) (hw : u.w ≤ 100000) (hs : HUSt M w0 H F ub g c sp u w) :
  Calls Try.prog 80 #[ptrH ub] w fun e w' => e = .returned (.tuple #[]) ∧ HUSt M w0 H F ub g c sp u.step w' := by
 obtain ⟨B, d, O, hrow, hS⟩ := hs
 refine goes_enter1 Try.func80 rfl Try.ntmps80 rfl ?_
 by_cases h4 : 400 < u.w + 1
 ·refine ZaC ?_
  refine Zt ?_
  refine ZC ?_
  refine ZB ?_
  refine Zai ?_
  refine ZQ ?_
  clear hS
  intro wx1 hS
  refine Zc ?_
  refine ZaC ?_
  refine Zt ?_
  refine Zaj ?_
  refine Zch ?_
  refine ZaU ?_
  refine ZQ ?_
  clear hS
  intro wx2 hS
  refine Zc ?_
  refine goes_end0 Try.func80 rfl ?_
  exact ⟨rfl, B, d, O, hrow, by simp only [HU.step, decide_eq_true h4, Bool.or_true]; exact hS⟩
 ·refine ZaC ?_
  refine Zt ?_
  refine ZC ?_
  refine ZB ?_
  refine Zai ?_
  refine ZQ ?_
  clear hS
  intro wx1 hS
  refine Zc ?_
  refine ZaC ?_
  refine Zt ?_
  refine Zaj ?_
  refine Zr ?_
  refine goes_end0 Try.func80 rfl ?_
  exact ⟨rfl, B, d, O, hrow, by simp only [HU.step, decide_eq_false h4, Bool.or_false]; exact hS⟩
theorem ulook_any (u : HU) (a : Int) (w : World) (hl : u.cs.length ≤ 65536) (hc : u.cs.length ≤ c) (hs : HUSt M w0 H F ub g c sp u w) :
  Calls Try.prog 81 #[ptrH ub, .int .i64 a] w fun e w' => e = .returned (.int .i64 (u.look a).1) ∧ HUSt M w0 H F ub g c sp (u.look a).2 w' := by
 obtain ⟨B, d, O, hrow, hS⟩ := hs
 refine goes_enter2 Try.func81 rfl Try.ntmps81 rfl ?_
 cases hg : u.lg with
 | true =>
  rw [hg] at hS
  have e0 : u.look a = (-1, u) := by unfold HU.look; rw [if_pos hg]
  rw [e0]
  refine ZG ?_
  refine Zbi ?_
  refine ZK ?_
  refine goes_ret1 Try.func81 rfl (by conv=>lhs;whnf) ?_
  exact ⟨rfl, B, d, O, hrow, by rw [hg]; exact hS⟩
 | false =>
  rw [hg] at hS
  have e0 : u.look a = (hlook u.cs a, ⟨u.cs, u.tr, u.w, decide (hlook u.cs a < 0)⟩) := by unfold HU.look; rw [if_neg (by rw [hg]; decide)]
  rw [e0]
  have hfl : ∀ {o H' F'} w', St M w0 ((ub, o) :: (g, cob u.cs sp) :: H') F' w' → Flat 3 (hcsL u.cs) (some ⟨g, 0, none⟩) u.cs.length c w' := fun w' hS => Flat.own (hS.own (g, _) (.tail _ (.head _))) (hcsL_len _) hc
  by_cases hn : hlook u.cs a < 0
  ·rw [decide_eq_true hn]
   refine ZG ?_
   refine Zbi ?_
   refine Zr ?_
   refine ZaA ?_
   refine Z0 ?_
   refine Zab ?_
   refine Calls.mono (look_any u.cs _ B c u.tr.length d a _ (hfl _ hS) (by omega)) ?_
   rintro _ w3 ⟨rfl, hb3⟩
   refine Za ?_
   replace hS := hS.grow hb3
   refine Zb2 ?_
   refine Zch ?_
   refine ZaU ?_
   refine ZQ ?_
   clear hS
   intro wx1 hS
   refine Zc ?_
   refine Z3 ?_
   refine goes_ret1 Try.func81 rfl (by conv=>lhs;whnf) ?_
   exact ⟨rfl, B, d, O, hrow, hS⟩
  ·rw [decide_eq_false hn]
   refine ZG ?_
   refine Zbi ?_
   refine Zr ?_
   refine ZaA ?_
   refine Z0 ?_
   refine Zab ?_
   refine Calls.mono (look_any u.cs _ B c u.tr.length d a _ (hfl _ hS) (by omega)) ?_
   rintro _ w3 ⟨rfl, hb3⟩
   refine Za ?_
   replace hS := hS.grow hb3
   refine Zco ?_
   refine Z3 ?_
   refine goes_ret1 Try.func81 rfl (by conv=>lhs;whnf) ?_
   exact ⟨rfl, B, d, O, hrow, hS⟩
theorem unbound_any (u : HU) (a : Int) (x : HC) (w : World) (hx : hat u.cs a = some x) (hs : HUSt M w0 H F ub g c sp u w) :
  Calls Try.prog 82 #[ptrH ub, .int .i64 a] w fun e w' => e = .returned (.bool (decide (x.k = 0))) ∧ HUSt M w0 H F ub g c sp u w' := by
 obtain ⟨B, d, O, hrow, hS⟩ := hs
 obtain ⟨h0, h1, hg⟩ := hatS.1 hx
 have hcc : ∀ {o H' F'} w', St M w0 ((ub, o) :: (g, cob u.cs sp) :: H') F' w' → _ := fun w' hS => (Flat.own (cap := u.cs.length) (hS.own (g, _) (.tail _ (.head _))) (hcsL_len u.cs) (Nat.le_refl _)).cell hg
 refine goes_enter2 Try.func82 rfl Try.ntmps82 rfl ?_
 by_cases hk : x.k = 0
 ·rw [decide_eq_true hk]
  refine Zi ?_
  refine ZbA ?_
  refine ZL ?_
  refine ZE ?_
  refine Zd1 ?_
  refine goes_ret1 Try.func82 rfl (by conv=>lhs;whnf) ?_
  exact ⟨rfl, B, d, O, hrow, hS⟩
 ·rw [decide_eq_false hk]
  refine Zi ?_
  refine ZbA ?_
  refine ZL ?_
  refine ZE ?_
  refine Zd1 ?_
  refine goes_ret1 Try.func82 rfl (by conv=>lhs;whnf) ?_
  exact ⟨rfl, B, d, O, hrow, hS⟩
theorem uargs_any (u : HU) (a : Int) (x : HC) (w : World) (hx : hat u.cs a = some x) (hs : HUSt M w0 H F ub g c sp u w) :
  Calls Try.prog 104 #[ptrH ub, .int .i64 a] w fun e w' => e = .returned (.int .i64 (argsC x)) ∧ HUSt M w0 H F ub g c sp u w' := by
 obtain ⟨B, d, O, hrow, hS⟩ := hs
 obtain ⟨h0, h1, hg⟩ := hatS.1 hx
 have hcc : ∀ {o H' F'} w', St M w0 ((ub, o) :: (g, cob u.cs sp) :: H') F' w' → _ := fun w' hS => (Flat.own (cap := u.cs.length) (hS.own (g, _) (.tail _ (.head _))) (hcsL_len u.cs) (Nat.le_refl _)).cell hg
 refine goes_enter2 Try.func104 rfl Try.ntmps104 rfl ?_
 refine Zi ?_
 refine ZbA ?_
 refine ZdJ ?_
 refine Zp ?_
 refine Calls.mono (args_any x _) ?_
 rintro _ w3 ⟨rfl, hb3⟩
 refine Za ?_
 replace hS := hS.grow hb3
 refine Zf ?_
 refine goes_ret1 Try.func104 rfl (by conv=>lhs;whnf) ?_
 exact ⟨rfl, B, d, O, hrow, hS⟩
theorem ubind_any (u : HU) (a x : Int) (y : HC) (w : World) (hy : hat u.cs a = some y) (ht : u.tr.length ≤ 1000000) (hs : HUSt M w0 H F ub g c sp u w) :
  Calls Try.prog 83 #[ptrH ub, .int .i64 a, .int .i64 x] w fun e w' => e = .returned (.tuple #[]) ∧ HUSt M w0 H F ub g c sp (u.bind a x) w' := by
 obtain ⟨B, d, O, hrow, hS⟩ := hs
 obtain ⟨h0, h1, hg⟩ := hatS.1 hy
 have hput := hcsL_put u.cs sp a.toNat x (by omega)
 refine goes_enter3 Try.func83 rfl Try.ntmps83 rfl ?_
 refine ZaA ?_
 refine ZL ?_
 refine ZE ?_
 refine ZO ?_
 refine ZS ?_
 refine ZD ?_
 refine Zen ?_
 clear hS
 intro w6 hS
 refine Zc ?_
 refine ZY ?_
 refine Zb3 ?_
 refine ZD ?_
 refine Zba ?_
 refine ZaT ?_
 clear hS
 intro b1 wx1 hS
 refine lst_appI (L := [a]) hS (by conv=>lhs;whnf) (by rfl) rfl rfl rfl (Flat.own (sp := []) (hS.own (_, _) (.head _)) rfl (Nat.le_refl _)) hrow (List.perm_append_comm_assoc [_, _, _] O _) (by simp; omega) rfl ?_
 clear hS
 intro v7 O7 w7 hrow7 hS
 obtain ⟨B7, d7, rfl, _⟩ := hrow7.form
 replace hS := (hS.perm (List.perm_append_comm_assoc O7 [_, _, _] _)).drop
 refine Zb3 ?_
 refine ZD ?_
 refine ZQ ?_
 clear hS
 intro wx2 hS
 refine Zc ?_
 refine goes_end0 Try.func83 rfl ?_
 refine ⟨rfl, B7, d7, O7, ?_, ?_⟩
 ·simp only [HU.bind, List.length_append, intsV, List.map_append] at hrow7 ⊢; exact hrow7
 ·simp only [HU.bind, List.length_append, setN_len]; exact hS
def OccSaid (n f : Nat) : Prop := ∀ (M : List Nat) (w0 : World) (H : List (Nat × Obj)) (F : List (World → Prop)) (ub g c : Nat) (sp : List Value) (a b : Int) (u : HU) (w : World),
 GU n u → n ≤ 65536 → n ≤ c → 400 ≤ u.w + f → u.w ≤ 20000 → f ≤ 401 → -1 ≤ b → b ≤ 100000 → HUSt M w0 H F ub g c sp u w →
  Calls Try.prog 103 #[ptrH ub, .int .i64 a, .int .i64 b] w fun e w' => e = .returned (.bool (occU a f b u).1) ∧ HUSt M w0 H F ub g c sp (occU a f b u).2 w'
theorem step_lg {u : HU} (h : 400 ≤ u.w) : u.step.lg = true := by simp only [HU.step, decide_eq_true (show 400 < u.w + 1 by omega), Bool.or_true]
theorem HUSt.lgS {u : HU} {w : World} {b : Bool} (h : HUSt M w0 H F ub g c sp u w) (hb : u.lg = b) : ∃ (B : Option Addr) (d : Nat) (O : List (Nat × Obj)), Rw 3 1 (.slice B u.tr.length d) u.tr.length (intsV u.tr) O ∧ St M w0 ((ub, uob g u.cs.length c B u.tr.length d u.w b) :: (g, cob u.cs sp) :: (O ++ H)) F w := by
 obtain ⟨B, d, O, h1, h2⟩ := h
 rw [hb] at h2
 exact ⟨B, d, O, h1, h2⟩
theorem occ_step (n f : Nat) (ih : ∀ f', f = f' + 1 → OccSaid n f') : OccSaid n f := by
 intro M w0 H F ub g c sp a b u w hG hn hc hkf hk hf hb0 hb1 hs
 have hsl : (occU a f b u).1 = (occU a f b u).1 := rfl
 refine goes_enter3 Try.func103 rfl Try.ntmps103 rfl ?_
 refine Zi ?_
 refine ZaO ?_
 refine Calls.mono (step_any u _ (by omega) hs) ?_
 rintro _ w2 ⟨rfl, hs2⟩
 refine Zcf ?_
 refine Zao ?_
 refine Calls.mono (ulook_any u.step b _ (by rw [hG.step.len]; exact hn) (by rw [hG.step.len]; exact hc) hs2) ?_
 rintro _ w3 ⟨rfl, hs3⟩
 refine Za ?_
 have hG3 := hG.step.look b
 have hcs3 : (u.step.look b).2.cs = u.cs := (look_w u.step b).2.1
 have hw3 : (u.step.look b).2.w = u.w + 1 := (look_w u.step b).1
 cases hlg : (u.step.look b).2.lg with
 | true =>
  have e0 : occU a f b u = (false, (u.step.look b).2) := by
   cases f with
   | zero => rfl
   | succ f => simp only [occU]; rw [if_pos hlg]
  rw [e0]
  obtain ⟨B, d, O, hrow, hS⟩ := hs3.lgS hlg
  refine Zx ?_
  refine ZaU ?_
  refine ZE ?_
  refine ZK ?_
  refine Zdb ?_
  exact ⟨rfl, B, d, O, hrow, by rw [hlg]; exact hS⟩
 | false =>
  obtain ⟨f, rfl⟩ : ∃ f', f = f' + 1 := by
   cases f with
   | succ f => exact ⟨f, rfl⟩
   | zero =>
    have := (look_ok hlg).1
    rw [step_lg (by omega)] at this; cases this
  have ih := ih f rfl
  obtain ⟨hl1, hp1, hp2⟩ := look_ok hlg
  obtain ⟨x, hx, hxe⟩ := hlook_end hp2
  rw [← hp1] at hx
  replace hx : hat u.cs (u.step.look b).1 = some x := hx
  have hx3 : hat (u.step.look b).2.cs (u.step.look b).1 = some x := by rw [hcs3]; exact hx
  obtain ⟨hx0, hx1, _⟩ := hatS.1 hx
  rw [hG.len] at hx1
  have e0 : occU a (f + 1) b u = if a = (u.step.look b).1 then (true, (u.step.look b).2) else anyU (occU a f) (argsAt u.cs (u.step.look b).1) ((u.step.look b).1 + 1) (u.step.look b).2 := by
   simp only [occU]; rw [if_neg (by rw [hlg]; decide)]
  rw [e0]
  have hw4 := hG3.wk hlg
  have hgA := (good_args (a := (u.step.look b).1) hG.good).1
  have hA : argsC x = ((argsAt u.cs (u.step.look b).1 : Nat) : Int) := by
   have : argsAt u.cs (u.step.look b).1 = (argsC x).toNat := by unfold argsAt; rw [hx]
   rw [this]
   have := goodC_iff (good_hat hG.good hx)
   unfold argsC
   split <;> omega
  generalize hq : (u.step.look b).1 = q at *
  obtain ⟨B, d, O, hrow, hS⟩ := hs3.lgS hlg
  by_cases haq : a = q
  ·rw [if_pos haq]
   refine Zx ?_
   refine ZaU ?_
   refine ZE ?_
   refine Z8 ?_
   refine Zm ?_
   refine Zl ?_
   refine ZK ?_
   refine Zdb ?_
   exact ⟨rfl, B, d, O, hrow, by rw [hlg]; exact hS⟩
  ·rw [if_neg haq]
   refine Zx ?_
   refine ZaU ?_
   refine ZE ?_
   refine Z8 ?_
   refine Zm ?_
   refine Zl ?_
   refine Z8 ?_
   refine Zao ?_
   refine Calls.mono (uargs_any (u.step.look b).2 q x _ hx3 ⟨B, d, O, hrow, by rw [hlg]; exact hS⟩) ?_
   rintro _ w4 ⟨rfl, hs4⟩
   refine Za ?_
   rw [hA]
   clear hS hrow
   refine ZcS ?_
   refine goes_loop1 23 (24 :: 25 :: 7 :: 26 :: 27 :: 28 :: 29 :: 30 :: 31 :: 32 :: 6 :: 33 :: []) (fun (m : Nat) v w' => ∃ (i : Nat) (u' : HU), i + m = argsAt u.cs q ∧ v = .int .i64 (i : Nat) ∧ GU n u' ∧ u'.cs = u.cs ∧ u.w + 1 ≤ u'.w ∧ u'.w ≤ 401 + 4 * f + i ∧ anyU (occU a f) (argsAt u.cs q) (q + 1) (u.step.look b).2 = anyU (occU a f) m (q + 1 + (i : Nat)) u' ∧ HUSt M w0 H F ub g c sp u' w') (fun m => m) (argsAt u.cs q) ?_ (by conv=>lhs;whnf) ?_
   ·exact ⟨0, (u.step.look b).2, by omega, rfl, hG3, hcs3, by omega, by omega, by simp, hs4⟩
   clear hs4 hs3
   rintro m _ w5 jv ⟨i, u', hi, rfl, hG', hcs', hwl, hwu, hany, hs'⟩ ihl
   cases m with
   | zero =>
    refine Zcb ?_
    refine Zdb ?_
    rw [hany]
    exact ⟨rfl, hs'⟩
   | succ m =>
    have hou := occ_up (n := n) a f (q + 1 + (i : Nat)) u' hG'.good hG'.wk
    have hle := hou.le
    have hlt := hou.lt
    have htl := hG'.trl
    have hstep : anyU (occU a f) (m + 1) (q + 1 + (i : Nat)) u' = if (occU a f (q + 1 + (i : Nat)) u').1 = true then occU a f (q + 1 + (i : Nat)) u' else anyU (occU a f) m (q + 1 + (i : Nat) + 1) (occU a f (q + 1 + (i : Nat)) u').2 := rfl
    refine Zcm ?_
    refine Zac ?_
    refine Zac ?_
    refine Z1 ?_
    refine Calls.mono (ih M w0 H F ub g c sp a (q + 1 + (i : Nat)) u' _ hG' hn hc (by omega) (by omega) (by omega) (by omega) (by omega) hs') ?_
    rintro _ w6 ⟨rfl, hs6⟩
    refine Za ?_
    cases hr : (occU a f (q + 1 + (i : Nat)) u').1 with
    | true =>
     refine ZK ?_
     refine Zdb ?_
     rw [hany, hstep, if_pos hr, hr]
     exact ⟨rfl, hs6⟩
    | false =>
     refine ZaM ?_
     refine ihl m _ _ _ ?_ ?_ (by conv=>lhs;whnf) (by kernel_rfl)
     ·omega
     ·refine ⟨i + 1, (occU a f (q + 1 + (i : Nat)) u').2, by omega, by simp, ⟨by rw [hou.cs]; exact hG'.len, by rw [hou.cs]; exact hG'.good, hou.wk, by rw [hou.tr]; omega⟩, by rw [hou.cs]; exact hcs', by omega, by omega, ?_, hs6⟩
      rw [hany, hstep, if_neg (by rw [hr]; decide)]
      congr 1
      omega
theorem occ_said (n : Nat) : ∀ f, OccSaid n f
 | 0 => occ_step n 0 fun f' h => by omega
 | f + 1 => occ_step n (f + 1) fun f' h => by
  obtain rfl : f = f' := by omega
  exact occ_said n f
theorem assign_any (n : Nat) (a b : Int) (y : HC) (u : HU) (w : World) (hG : GU n u) (hn : n ≤ 65536) (hc : n ≤ c) (hlg : u.lg = false) (hy : hat u.cs a = some y) (hb0 : 0 ≤ b) (hb1 : b < n) (hs : HUSt M w0 H F ub g c sp u w) :
  Calls Try.prog 84 #[ptrH ub, .int .i64 a, .int .i64 b] w fun e w' => e = .returned (.bool (asgU a b u).1) ∧ HUSt M w0 H F ub g c sp (asgU a b u).2 w' := by
 have hw := hG.wk hlg
 have hou := occ_up (n := n) a 401 b u hG.good hG.wk
 have htl := hG.trl
 have e0 : asgU a b u = if (occU a 401 b u).1 = true ∨ (occU a 401 b u).2.lg = true then (false, (occU a 401 b u).2) else (true, (occU a 401 b u).2.bind a b) := rfl
 rw [e0]
 refine goes_enter3 Try.func84 rfl Try.ntmps84 rfl ?_
 refine ZG ?_
 refine ZO ?_
 refine Z1 ?_
 refine Calls.mono (occ_said n 401 M w0 H F ub g c sp a b u _ hG hn hc (by omega) (by omega) (by omega) (by omega) (by omega) hs) ?_
 rintro _ w3 ⟨rfl, hs3⟩
 refine Za ?_
 cases ho : (occU a 401 b u).1 with
 | true =>
  rw [if_pos (.inl rfl)]
  refine Zal ?_
  refine Zbu ?_
  refine goes_ret1 Try.func84 rfl (by conv=>lhs;whnf) ?_
  exact ⟨rfl, hs3⟩
 | false =>
  cases hl : (occU a 401 b u).2.lg with
  | true =>
   rw [if_pos (.inr rfl)]
   obtain ⟨B, d, O, hrow, hS⟩ := hs3.lgS hl
   refine ZU ?_
   refine ZB ?_
   refine Zk ?_
   refine ZaE ?_
   refine Zd5 ?_
   refine Zbu ?_
   refine goes_ret1 Try.func84 rfl (by conv=>lhs;whnf) ?_
   exact ⟨rfl, B, d, O, hrow, by rw [hl]; exact hS⟩
  | false =>
   rw [if_neg (by decide)]
   obtain ⟨B, d, O, hrow, hS⟩ := hs3.lgS hl
   refine ZU ?_
   refine ZB ?_
   refine Zk ?_
   refine ZaE ?_
   refine Zd5 ?_
   refine Zy ?_
   refine Zr ?_
   refine Zcp ?_
   refine Calls.mono (ubind_any (occU a 401 b u).2 a b y _ (by rw [hou.cs]; exact hy) (by rw [hou.tr]; omega) ⟨B, d, O, hrow, by rw [hl]; exact hS⟩) ?_
   rintro _ w4 ⟨rfl, hs4⟩
   refine Zcf ?_
   refine Zi ?_
   refine goes_ret1 Try.func84 rfl (by conv=>lhs;whnf) ?_
   exact ⟨rfl, hs4⟩
end
end Go.Proofs.Ythliapbflkfdiab
namespace Go.Proofs.Ythliapbflkfdiab
open Go.RowKit
set_option linter.unusedVariables false
set_option linter.unusedSimpArgs false
set_option maxRecDepth 100000
set_option maxHeartbeats 1000000
def UniSaid (n f : Nat) : Prop := ∀ (M : List Nat) (w0 : World) (H : List (Nat × Obj)) (F : List (World → Prop)) (ub g c : Nat) (sp : List Value) (a b : Int) (u : HU) (w : World),
 GU n u → u.lg = false → n ≤ 65536 → n ≤ c → 400 ≤ u.w + f → f ≤ 401 → HUSt M w0 H F ub g c sp u w →
  Calls Try.prog 49 #[ptrH ub, .int .i64 a, .int .i64 b] w fun e w' => e = .returned (.bool (uniU f a b u).1) ∧ HUSt M w0 H F ub g c sp (uniU f a b u).2 w'
section
variable {M : List Nat} {w0 : World} {H : List (Nat × Obj)} {F : List (World → Prop)} {ub g c : Nat} {sp : List Value}
theorem parts_any (n f : Nat) (ih : UniSaid n f) (a b : Int) (x y : HC) (u : HU) (w : World) (hG : GU n u) (hlg : u.lg = false) (hn : n ≤ 65536) (hc : n ≤ c) (hkf : 400 ≤ u.w + f) (hf : f ≤ 401) (hx : hat u.cs a = some x) (hy : hat u.cs b = some y) (hs : HUSt M w0 H F ub g c sp u w) :
  Calls Try.prog 85 #[ptrH ub, .int .i64 a, .int .i64 b] w fun e w' => e = .returned (.bool (partsU (uniU f) a b u).1) ∧ HUSt M w0 H F ub g c sp (partsU (uniU f) a b u).2 w' := by
 have hw := hG.wk hlg
 obtain ⟨hx0, hx1, hgx⟩ := hatS.1 hx
 obtain ⟨hy0, hy1, hgy⟩ := hatS.1 hy
 have hlen := hG.len
 have hcx : ∀ {o H' F'} w', St M w0 ((ub, o) :: (g, cob u.cs sp) :: H') F' w' → _ := fun w' hS => (Flat.own (cap := u.cs.length) (hS.own (g, _) (.tail _ (.head _))) (hcsL_len u.cs) (Nat.le_refl _)).cell hgx
 have hcy : ∀ {o H' F'} w', St M w0 ((ub, o) :: (g, cob u.cs sp) :: H') F' w' → _ := fun w' hS => (Flat.own (cap := u.cs.length) (hS.own (g, _) (.tail _ (.head _))) (hcsL_len u.cs) (Nat.le_refl _)).cell hgy
 have hA : argsC x = ((argsAt u.cs a : Nat) : Int) := by
  have : argsAt u.cs a = (argsC x).toNat := by unfold argsAt; rw [hx]
  rw [this]
  have := goodC_iff (good_hat hG.good hx)
  unfold argsC
  split <;> omega
 have hgA := (good_args (a := a) hG.good).1
 obtain ⟨B, d, O, hrow, hS⟩ := hs.lgS hlg
 refine goes_enter3 Try.func85 rfl Try.ntmps85 rfl ?_
 refine Zd ?_
 refine Zd8 ?_
 refine Zdc ?_
 replace hS := hS.drew
 refine Zbc ?_
 refine Zad ?_
 refine Zeo ?_
 refine ZA ?_
 refine Zaw ?_
 refine Zep ?_
 refine Zbc ?_
 refine Zad ?_
 refine Zeo ?_
 refine ZA ?_
 refine Zaw ?_
 refine Zep ?_
 refine ord_read rfl (fun _ hS => run_neq_cell rfl rfl) rfl ?_
 refine Zck ?_
 by_cases hxy : x = y
 case neg =>
  have e0 : partsU (uniU f) a b u = (false, u) := by unfold partsU; rw [hx, hy, if_neg (by simpa using hxy)]
  rw [e0, decide_eq_false hxy]
  refine ZZ ?_
  refine Zi ?_
  refine goes_ret1 Try.func85 rfl (by conv=>lhs;whnf) ?_
  exact ⟨rfl, B, d, O, hrow, by rw [hlg]; exact hS⟩
 have e0 : partsU (uniU f) a b u = allU (uniU f) (argsAt u.cs a) (a + 1) (b + 1) u := by unfold partsU; rw [hx, hy, if_pos (by rw [hxy])]
 rw [e0, decide_eq_true hxy]
 refine ZaI ?_
 refine Zs ?_
 refine Zao ?_
 refine Calls.mono (uargs_any u a x _ hx ⟨B, d, O, hrow, by rw [hlg]; exact hS⟩) ?_
 rintro _ w4 ⟨rfl, hs4⟩
 refine Za ?_
 rw [hA]
 clear hS hrow
 refine ZcS ?_
 refine goes_loop1 28 (29 :: 30 :: 7 :: 31 :: 32 :: 33 :: 34 :: 35 :: 36 :: 37 :: 38 :: 39 :: 40 :: 41 :: 6 :: 42 :: []) (fun (m : Nat) v w' => ∃ (i : Nat) (u' : HU), i + m = argsAt u.cs a ∧ v = .int .i64 (i : Nat) ∧ GU n u' ∧ u'.lg = false ∧ u.w ≤ u'.w ∧ allU (uniU f) (argsAt u.cs a) (a + 1) (b + 1) u = allU (uniU f) m (a + 1 + (i : Nat)) (b + 1 + (i : Nat)) u' ∧ HUSt M w0 H F ub g c sp u' w') (fun m => m) (argsAt u.cs a) ?_ (by conv=>lhs;whnf) ?_
 ·exact ⟨0, u, by omega, rfl, hG, hlg, Nat.le_refl _, by simp, hs4⟩
 clear hs4
 rintro m _ w5 jv ⟨i, u', hi, rfl, hG', hl', hwl, hall, hs'⟩ ihl
 cases m with
 | zero =>
  refine Zcb ?_
  refine goes_ret1 Try.func85 rfl (by conv=>lhs;whnf) ?_
  rw [hall]
  exact ⟨rfl, hs'⟩
 | succ m =>
  have huu := uni_up (n := n) f (a + 1 + (i : Nat)) (b + 1 + (i : Nat)) u' hG' hl'
  have hstep : allU (uniU f) (m + 1) (a + 1 + (i : Nat)) (b + 1 + (i : Nat)) u' = if (uniU f (a + 1 + (i : Nat)) (b + 1 + (i : Nat)) u').1 = true then allU (uniU f) m (a + 1 + (i : Nat) + 1) (b + 1 + (i : Nat) + 1) (uniU f (a + 1 + (i : Nat)) (b + 1 + (i : Nat)) u').2 else uniU f (a + 1 + (i : Nat)) (b + 1 + (i : Nat)) u' := rfl
  refine Zcm ?_
  refine ZC ?_
  refine Zac ?_
  refine Zac ?_
  refine Zac ?_
  refine Z1 ?_
  refine Calls.mono (ih M w0 H F ub g c sp (a + 1 + (i : Nat)) (b + 1 + (i : Nat)) u' _ hG' hl' hn hc (by omega) hf hs') ?_
  rintro _ w6 ⟨rfl, hs6⟩
  refine Za ?_
  cases hr : (uniU f (a + 1 + (i : Nat)) (b + 1 + (i : Nat)) u').1 with
  | true =>
   refine Zam ?_
   refine ZbV ?_
   refine ihl m _ _ _ ?_ ?_ (by conv=>lhs;whnf) (by kernel_rfl)
   ·omega
   ·have hlt := huu.lt
    refine ⟨i + 1, (uniU f (a + 1 + (i : Nat)) (b + 1 + (i : Nat)) u').2, by omega, by simp, huu.gu, huu.ok hr, by omega, ?_, hs6⟩
    rw [hall, hstep, if_pos hr]
    congr 1 <;> omega
  | false =>
   refine Zn ?_
   refine ZK ?_
   refine goes_ret1 Try.func85 rfl (by conv=>lhs;whnf) ?_
   rw [hall, hstep, if_neg (by rw [hr]; decide), hr]
   exact ⟨rfl, hs6⟩
theorem uni_step (n f : Nat) (ih : ∀ f', f = f' + 1 → UniSaid n f') : UniSaid n f := by
 intro M w0 H F ub g c sp a b u w hG hlg hn hc hkf hf hs
 have hw := hG.wk hlg
 refine goes_enter3 Try.func49 rfl Try.ntmps49 rfl ?_
 refine Zi ?_
 refine ZaO ?_
 refine Calls.mono (step_any u _ (by omega) hs) ?_
 rintro _ w2 ⟨rfl, hs2⟩
 refine Zcf ?_
 refine Zao ?_
 refine Calls.mono (ulook_any u.step a _ (by rw [hG.step.len]; exact hn) (by rw [hG.step.len]; exact hc) hs2) ?_
 rintro _ w3 ⟨rfl, hs3⟩
 refine Za ?_
 have hGa := hG.step.look a
 refine ZO ?_
 refine Zj ?_
 refine Calls.mono (ulook_any (u.step.look a).2 b _ (by rw [hGa.len]; exact hn) (by rw [hGa.len]; exact hc) hs3) ?_
 rintro _ w4 ⟨rfl, hs4⟩
 refine Za ?_
 have hwa := look_w u.step a
 have hwb := look_w (u.step.look a).2 b
 have hG2 : GU n ((u.step.look a).2.look b).2 := hGa.look b
 have hw2 : ((u.step.look a).2.look b).2.w = u.w + 1 := by rw [hwb.1, hwa.1]; rfl
 have hcs2 : ((u.step.look a).2.look b).2.cs = u.cs := by rw [hwb.2.1, hwa.2.1]; rfl
 cases hl2 : ((u.step.look a).2.look b).2.lg with
 | true =>
  have e0 : uniU f a b u = (false, ((u.step.look a).2.look b).2) := by
   cases f with
   | zero => rfl
   | succ f => simp only [uniU]; rw [if_pos hl2]
  rw [e0]
  obtain ⟨B, d, O, hrow, hS⟩ := hs4.lgS hl2
  refine Zas ?_
  refine ZaU ?_
  refine Zeq ?_
  refine ZK ?_
  refine ZbN ?_
  exact ⟨rfl, B, d, O, hrow, by rw [hl2]; exact hS⟩
 | false =>
  obtain ⟨hla, hb1, hb2⟩ := look_ok hl2
  obtain ⟨hls, ha1, ha2⟩ := look_ok hla
  obtain ⟨f, rfl⟩ : ∃ f', f = f' + 1 := by
   cases f with
   | succ f => exact ⟨f, rfl⟩
   | zero => rw [step_lg (by omega)] at hls; cases hls
  have ih := ih f rfl
  rw [hwa.2.1] at hb1 hb2
  obtain ⟨x, hx, hxe⟩ := hlook_end ha2
  obtain ⟨y, hy, hye⟩ := hlook_end hb2
  rw [← ha1] at hx hxe
  rw [← hb1] at hy hye
  replace hx : hat u.cs (u.step.look a).1 = some x := hx
  replace hy : hat u.cs ((u.step.look a).2.look b).1 = some y := hy
  obtain ⟨x0, x1, _⟩ := hatS.1 hx
  obtain ⟨y0, y1, _⟩ := hatS.1 hy
  rw [hG.len] at x1 y1
  have htl := hG2.trl
  have e0 : uniU (f + 1) a b u = if x.k = 0 then (if y.k = 0 then (if (u.step.look a).1 = ((u.step.look a).2.look b).1 then (true, ((u.step.look a).2.look b).2) else (true, ((u.step.look a).2.look b).2.bind (max (u.step.look a).1 ((u.step.look a).2.look b).1) (min (u.step.look a).1 ((u.step.look a).2.look b).1))) else asgU (u.step.look a).1 ((u.step.look a).2.look b).1 ((u.step.look a).2.look b).2)
    else if y.k = 0 then asgU ((u.step.look a).2.look b).1 (u.step.look a).1 ((u.step.look a).2.look b).2 else partsU (uniU f) (u.step.look a).1 ((u.step.look a).2.look b).1 ((u.step.look a).2.look b).2 := by
   simp only [uniU]
   rw [if_neg (by rw [hl2]; decide), show kindAt u.cs (u.step.look a).1 = x.k by unfold kindAt; rw [hx], show kindAt u.cs ((u.step.look a).2.look b).1 = y.k by unfold kindAt; rw [hy]]
  rw [e0]
  have hx' : hat ((u.step.look a).2.look b).2.cs (u.step.look a).1 = some x := by rw [hcs2]; exact hx
  have hy' : hat ((u.step.look a).2.look b).2.cs ((u.step.look a).2.look b).1 = some y := by rw [hcs2]; exact hy
  clear hs3 hs2 e0 hwb hb1 ha1 hxe hye hx hy
  generalize ((u.step.look a).2.look b).2 = v at *
  generalize ((u.step.look a).2.look b).1 = q at *
  generalize (u.step.look a).1 = p at *
  obtain ⟨B, d, O, hrow, hS⟩ := hs4.lgS hl2
  refine Zas ?_
  refine ZaU ?_
  refine Zeq ?_
  refine Zr ?_
  refine Zm ?_
  clear hs4
  have hs5 : HUSt M w0 H F ub g c sp v _ := ⟨B, d, O, hrow, by rw [hl2]; exact hS⟩
  clear hrow hS
  refine Zj ?_
  refine Calls.mono (unbound_any v p x _ hx' hs5) ?_
  rintro _ w5 ⟨rfl, hs6⟩
  refine Za ?_
  clear hs5
  refine ZO ?_
  refine Zj ?_
  refine Calls.mono (unbound_any v q y _ hy' hs6) ?_
  rintro _ w6 ⟨rfl, hs7⟩
  refine Za ?_
  by_cases hxk : x.k = 0
  ·rw [if_pos hxk, decide_eq_true hxk]
   by_cases hyk : y.k = 0
   ·rw [if_pos hyk, decide_eq_true hyk]
    by_cases hpq : p = q
    ·rw [if_pos hpq]
     refine ZaN ?_
     refine Z5 ?_
     refine Zq ?_
     refine Zo ?_
     refine Zg ?_
     refine Z4 ?_
     refine ZZ ?_
     refine Zs ?_
     refine Zcq ?_
     refine Zr ?_
     refine Zi ?_
     refine ZbN ?_
     exact ⟨rfl, hs7⟩
    ·rw [if_neg hpq]
     have hbnd := ubind_any (M := M) (w0 := w0) (H := H) (F := F) (ub := ub) (g := g) (c := c) (sp := sp) v (max p q) (min p q)
     have hmx : max p q = (if p < q then q else p) := by omega
     have hmn : min p q = (if q < p then q else p) := by omega
     have hhat : ∃ z, hat v.cs (max p q) = some z := by
      rcases Int.le_total p q with hle | hle
      ·rw [Int.max_eq_right hle]; exact ⟨y, hy'⟩
      ·rw [Int.max_eq_left hle]; exact ⟨x, hx'⟩
     obtain ⟨z, hz⟩ := hhat
     refine ZaN ?_
     refine Z5 ?_
     refine Zq ?_
     refine Zo ?_
     refine Zg ?_
     refine Z4 ?_
     refine ZZ ?_
     refine Zs ?_
     refine Zcq ?_
     refine ZF ?_
     refine ZY ?_
     refine Zg ?_
     refine lst_run (run_max2 rfl rfl (by assumption)) rfl ?_
     refine ZO ?_
     refine lst_run (run_min2 rfl rfl (by assumption)) rfl ?_
     refine Z1 ?_
     refine Calls.mono (hbnd z _ hz (by omega) hs7) ?_
     rintro _ w8 ⟨rfl, hs8⟩
     refine Zcf ?_
     refine Zi ?_
     refine ZbN ?_
     exact ⟨rfl, hs8⟩
   ·rw [if_neg hyk, decide_eq_false hyk]
    refine ZaN ?_
    refine Z5 ?_
    refine Zq ?_
    refine Zo ?_
    refine Zg ?_
    refine Z4 ?_
    refine ZaP ?_
    refine Z3 ?_
    refine ZZ ?_
    refine Zcp ?_
    refine Calls.mono (assign_any n p q x v _ hG2 hn hc hl2 hx' y0 y1 hs7) ?_
    rintro _ w8 ⟨rfl, hs8⟩
    refine ZV ?_
    refine ZbN ?_
    exact ⟨rfl, hs8⟩
  ·rw [if_neg hxk, decide_eq_false hxk]
   by_cases hyk : y.k = 0
   ·rw [if_pos hyk, decide_eq_true hyk]
    refine ZaN ?_
    refine Z5 ?_
    refine Zm ?_
    refine Z6 ?_
    refine Z4 ?_
    refine ZaP ?_
    refine Z3 ?_
    refine ZaP ?_
    refine Z3 ?_
    refine ZZ ?_
    refine Zcp ?_
    refine Calls.mono (assign_any n q p y v _ hG2 hn hc hl2 hy' x0 x1 hs7) ?_
    rintro _ w8 ⟨rfl, hs8⟩
    refine ZV ?_
    refine ZbN ?_
    exact ⟨rfl, hs8⟩
   ·rw [if_neg hyk, decide_eq_false hyk]
    refine ZaN ?_
    refine Z5 ?_
    refine Zm ?_
    refine Z6 ?_
    refine Z4 ?_
    refine ZaP ?_
    refine Z3 ?_
    refine ZaP ?_
    refine Z3 ?_
    refine ZaI ?_
    refine ZaQ ?_
    refine Zcp ?_
    refine Calls.mono (parts_any n f ih p q x y v _ hG2 hl2 hn hc (by omega) (by omega) hx' hy' hs7) ?_
    rintro _ w8 ⟨rfl, hs8⟩
    refine ZV ?_
    refine ZbN ?_
    exact ⟨rfl, hs8⟩
theorem uni_said (n : Nat) : ∀ f, UniSaid n f
 | 0 => uni_step n 0 fun f' h => by omega
 | f + 1 => uni_step n (f + 1) fun f' h => by
  obtain rfl : f = f' := by omega
  exact uni_said n f
end
end Go.Proofs.Ythliapbflkfdiab
namespace Go.Proofs.Ythliapbflkfdiab
open Go.RowKit
set_option linter.unusedVariables false
set_option linter.unusedSimpArgs false
set_option maxRecDepth 100000
set_option maxHeartbeats 1000000
section
variable {M : List Nat} {w0 : World} {H : List (Nat × Obj)} {F : List (World → Prop)}
theorem St.freezeG {g c : Nat} {L : List HC} {sp : List Value} {w : World} (hS : St M w0 ((g, cob L sp) :: H) F w) (hc : L.length ≤ c) : St M w0 H (Flat 3 (hcsL L) (some ⟨g, 0, none⟩) L.length c :: F) w := by
 have ho := hS.own (g, _) (.head _)
 refine hS.drop.learn fun w' hw => Flat.own (sp := sp) (el := 74) ?_ (hcsL_len L) hc
 rw [hw.block g (own_lt ho) fun hm => ?_]
 ·exact ho
 ·obtain ⟨p, hp, e⟩ := List.mem_map.1 hm
  exact (List.pairwise_cons.1 hS.apart).1 p hp e.symm
theorem meetU {h : HH} {A3 B3 : Option Addr} {c3 d3 ub : Nat} {O3 O4 : List (Nat × Obj)} {w : World} (hr3 : Rw 74 3 (.slice A3 h.cs.length c3) h.cs.length (hcsL h.cs) O3) (hr4 : Rw 3 1 (.slice B3 h.tr.length d3) h.tr.length (intsV h.tr) O4) (hp : 0 < h.cs.length)
  (hS : St M w0 ((ub, .cells [.slice A3 h.cs.length c3, .slice B3 h.tr.length d3, .int .i64 0, .bool false].toArray 77) :: (O4 ++ (O3 ++ H))) F w) :
  ∃ ub' g c sp, ptrH ub = ptrH ub' ∧ h.cs.length ≤ c ∧ HUSt M w0 H F ub' g c sp ⟨h.cs, h.tr, 0, false⟩ w := by
 obtain ⟨g, sp, rfl, rfl, _, hle, _⟩ := hr3.some_ hp
 exact ⟨ub, g, c3, sp, rfl, hle, B3, d3, O4, hr4, hS.perm (.cons _ (List.perm_append_comm_assoc O4 [_] _))⟩
theorem unify_any (h : HH) (a b : Int) (A B : Option Addr) (c d : Nat) (w : World) (hH : Und F (HFl h A c B d)) (hS : St M w0 H F w) :
  Calls Try.prog 14 #[hv h A c B d, .int .i64 a, .int .i64 b] w (HRes M w0 H F (unifyH h a b).1 fun A' c' B' d' e => e = .returned (.tuple #[hv (unifyH h a b).1 A' c' B' d', .bool (unifyH h a b).2.1, .int .i64 (unifyH h a b).2.2])) := by
 have hL : Und F (Flat 3 (hcsL h.cs) A h.cs.length c) := hH.imp fun _ h => h.1
 have hT : Und F (Flat 1 (intsV h.tr) B h.tr.length d) := hH.imp fun _ h => h.2
 refine goes_enter3 Try.func14 rfl Try.ntmps14 rfl ?_
 refine Ze ?_
 clear hS
 intro b1 wx1 hS
 refine ZaR ?_
 clear hS
 intro b2 wx2 hS
 refine ZaN ?_
 refine Zd ?_
 refine Z0 ?_
 refine Zce ?_
 rintro _ w2 ⟨rfl, hb2⟩
 refine Za ?_
 replace hS := hS.grow hb2
 cases hg : goodH h with
 | false =>
  have e0 : unifyH h a b = (h, false, 1) := by unfold unifyH; rw [if_pos hg]
  rw [e0]
  refine Zav ?_
  refine ZcY ?_
  clear hS
  intro wx3 hS
  refine ZbB ?_
  exact ⟨A, c, B, d, F, rfl, fun _ h => h, hH, hS.drop.drop⟩
 | true =>
 obtain ⟨hl1, hl2⟩ := good_len hg
 refine ZaY ?_
 refine Zd ?_
 refine Z0 ?_
 refine Zab ?_
 refine Calls.mono (address_any h.cs.length c A B h.tr.length d a _) ?_
 rintro _ w3 ⟨rfl, hb3⟩
 refine Za ?_
 replace hS := hS.grow hb3
 cases ha : isAddr h.cs a with
 | false =>
  have e0 : unifyH h a b = (h, false, 4) := by unfold unifyH; rw [if_neg (by rw [hg]; decide), ha, if_pos (by simp)]
  rw [e0, show (decide (0 ≤ a) && decide (a < (h.cs.length : Nat))) = false from ha]
  refine Zn ?_
  refine Zal ?_
  refine Zcl ?_
  clear hS
  intro wx3 hS
  refine ZbB ?_
  exact ⟨A, c, B, d, F, rfl, fun _ h => h, hH, hS.drop.drop⟩
 | true =>
 rw [show (decide (0 ≤ a) && decide (a < (h.cs.length : Nat))) = true from ha]
 refine Zn ?_
 refine Zo ?_
 refine Z0 ?_
 refine Zk ?_
 refine Zo ?_
 refine Zj ?_
 refine Calls.mono (address_any h.cs.length c A B h.tr.length d b _) ?_
 rintro _ w4 ⟨rfl, hb4⟩
 refine Za ?_
 replace hS := hS.grow hb4
 cases hb : isAddr h.cs b with
 | false =>
  have e0 : unifyH h a b = (h, false, 4) := by unfold unifyH; rw [if_neg (by rw [hg]; decide), ha, hb, if_pos (by simp)]
  rw [e0, show (decide (0 ≤ b) && decide (b < (h.cs.length : Nat))) = false from hb]
  refine ZdC ?_
  refine Zcl ?_
  clear hS
  intro wx3 hS
  refine ZbB ?_
  exact ⟨A, c, B, d, F, rfl, fun _ h => h, hH, hS.drop.drop⟩
 | true =>
 rw [show (decide (0 ≤ b) && decide (b < (h.cs.length : Nat))) = true from hb]
 have hpos : 0 < h.cs.length := by
  obtain ⟨x, hx⟩ := isAddr_iff.1 ha
  have := hat_get hx; omega
 refine Za1 ?_
 refine Z8 ?_
 refine goes_meet1 9 (26 :: 27 :: 28 :: 29 :: 30 :: 31 :: 32 :: 33 :: 34 :: []) (fun v w' => ∃ ub g c' sp, v = ptrH ub ∧ h.cs.length ≤ c' ∧ HUSt M w0 ((b2, hob none 0 0 none 0 0) :: (b1, hob A h.cs.length c B h.tr.length d) :: H) F ub g c' sp ⟨h.cs, h.tr, 0, false⟩ w') ?_ ?_
 ·intro hmeet
  refine goes_plan (St _ _ _ _) 10 (.read 0 (.read 1 (.read 3 (.read 4 (.pick 2 (.pick 5 (.read 6 (.read 7 (.pick 8 (.read 9 .tail) .none))) .none) .none))))) (by kernel_rfl) (by kernel_rfl) hS.drew ?_
  replace hS := hS.drew
  refine ZbL ?_
  refine ZdN ?_
  refine ZdL ?_
  refine ZdN ?_
  refine Z7 ?_
  refine Zp ?_
  refine Calls.mono (cloneC_any h.cs A c _ hL (by omega) hS) ?_
  rintro _ w5 ⟨A3, c3, O3, rfl, hrow3, hS'⟩
  refine Za ?_
  replace hS := hS'
  clear hS'
  refine ZdO ?_
  refine Z7 ?_
  refine Zp ?_
  refine Calls.mono (cloneI_any h.tr B d _ hT (by omega) hS) ?_
  rintro _ w6 ⟨B3, d3, O4, rfl, hrow4, hS'⟩
  refine Za ?_
  replace hS := hS'
  clear hS'
  refine ZdO ?_
  refine ZbM ?_
  refine pln_read rfl (fun _ hS => run_build (cells := [_, _, _, _]) (.cons (by conv=>lhs;whnf) .nil) rfl) rfl ?_
  refine Z7 ?_
  refine Zc0 ?_
  clear hS
  intro b3 wx3 hS
  refine ZdO ?_
  refine Zbl ?_
  refine pln_tail ?_
  refine Zc ?_
  exact hmeet _ _ _ (meetU hrow3 hrow4 hpos (by first | exact hS | exact hS.perm (.cons _ (List.perm_append_comm_assoc _ _ _)))) (by conv=>lhs;whnf) (by kernel_rfl)
 clear hS
 rintro jv _ w5 ⟨ub, g, c5, sp, rfl, hc5, hs5⟩
 have hG : GU h.cs.length ⟨h.cs, h.tr, 0, false⟩ := by
  refine ⟨rfl, ?_, fun _ => by show (0 : Nat) ≤ 400; omega, by show h.tr.length ≤ 65536 + 0; omega⟩
  unfold goodH goodCs at hg
  simp only [Bool.and_eq_true] at hg
  exact hg.1.2
 have huu := uni_up 401 a b _ hG rfl
 have hun := uni_said h.cs.length 401 M w0 ((b2, hob none 0 0 none 0 0) :: (b1, hob A h.cs.length c B h.tr.length d) :: H) F ub g c5 sp a b ⟨h.cs, h.tr, 0, false⟩
 have e0 : unifyH h a b = if (uniU 401 a b ⟨h.cs, h.tr, 0, false⟩).2.lg = true ∨ (uniU 401 a b ⟨h.cs, h.tr, 0, false⟩).1 = true ∧ 65536 < (uniU 401 a b ⟨h.cs, h.tr, 0, false⟩).2.tr.length then (h, false, 3)
   else if (uniU 401 a b ⟨h.cs, h.tr, 0, false⟩).1 = false then (h, false, 0)
   else (⟨(uniU 401 a b ⟨h.cs, h.tr, 0, false⟩).2.cs, (uniU 401 a b ⟨h.cs, h.tr, 0, false⟩).2.tr⟩, true, 0) := by
  unfold unifyH; rw [if_neg (by rw [hg]; decide), ha, hb, if_neg (by decide)]
 rw [e0]
 refine Zcp ?_
 refine Calls.mono (hun _ hG rfl hl1 hc5 (by show 400 ≤ 0 + 401; omega) (by omega) hs5) ?_
 rintro _ w6 ⟨rfl, hs6⟩
 refine Za ?_
 have hgu := huu.gu
 have hok := huu.ok
 clear huu hun e0 hs5
 generalize uniU 401 a b ⟨h.cs, h.tr, 0, false⟩ = r at *
 obtain ⟨ok, u⟩ := r
 dsimp only at *
 cases hlg : u.lg with
 | true =>
  rw [if_pos (.inl rfl)]
  obtain ⟨B6, d6, O6, hrow6, hS⟩ := hs6.lgS hlg
  replace hS := hS.perm (.cons _ (.cons _ (List.perm_append_comm_assoc O6 [_, _] _)))
  refine Zx ?_
  refine Zbi ?_
  refine ZaJ ?_
  refine lst_passU rfl rfl ?_
  refine lst_passU rfl rfl ?_
  refine lst_passU rfl rfl ?_
  refine lst_passU rfl rfl ?_
  refine lst_passU rfl rfl ?_
  refine lst_passU rfl rfl ?_
  refine lst_passU rfl rfl ?_
  refine Z6 ?_
  refine Zcl ?_
  clear hS
  intro wx4 hS
  refine ZbB ?_
  exact ⟨A, c, B, d, F, rfl, fun _ h => h, hH, St.dropL (L := O6) hS.drop.drop.drop.drop⟩
 | false =>
  obtain ⟨B6, d6, O6, hrow6, hS⟩ := hs6.lgS hlg
  replace hS := hS.perm (.cons _ (.cons _ (List.perm_append_comm_assoc O6 [_, _] _)))
  cases ok with
  | false =>
   rw [if_neg (by simp), if_pos rfl]
   refine Zx ?_
   refine Zbi ?_
   refine ZU ?_
   refine Zal ?_
   refine Zdv ?_
   refine Z6 ?_
   refine Zk ?_
   refine Zy ?_
   refine Zy ?_
   refine ZaK ?_
   refine Zav ?_
   refine ZcY ?_
   clear hS
   intro wx4 hS
   refine ZbB ?_
   exact ⟨A, c, B, d, F, rfl, fun _ h => h, hH, St.dropL (L := O6) hS.drop.drop.drop.drop⟩
  | true =>
   by_cases htl : 65536 < u.tr.length
   ·rw [if_pos (.inr ⟨rfl, htl⟩)]
    refine Zx ?_
    refine Zbi ?_
    refine ZU ?_
    refine ZU ?_
    refine ZB ?_
    refine Zk ?_
    refine ZL ?_
    refine Zk ?_
    refine ZbY ?_
    refine Zcn ?_
    refine Zk ?_
    refine Zy ?_
    refine Zcl ?_
    clear hS
    intro wx4 hS
    refine ZbB ?_
    exact ⟨A, c, B, d, F, rfl, fun _ h => h, hH, St.dropL (L := O6) hS.drop.drop.drop.drop⟩
   ·rw [if_neg (by simp; omega), if_neg (by decide)]
    refine Zx ?_
    refine Zbi ?_
    refine ZU ?_
    refine ZU ?_
    refine ZB ?_
    refine Zk ?_
    refine ZL ?_
    refine Zk ?_
    refine ZbY ?_
    refine Zcn ?_
    refine Zk ?_
    refine Zy ?_
    refine Zy ?_
    refine ZaK ?_
    refine Zam ?_
    refine ZaA ?_
    refine ZcY ?_
    clear hS
    intro wx4 hS
    refine ZbB ?_
    have hS2 := (hS.drop.perm (List.perm_append_comm_assoc [_] [_, _] _)).drop.drop
    have hS3 := St.freezeG hS2 (c := c5) (by rw [hgu.len]; exact hc5)
    have hS4 := St.freezeR hrow6 hS3
    exact ⟨_, c5, B6, d6, _, rfl, fun φ h => .tail _ (.tail _ h), fun w' hw => ⟨hw _ (.tail _ (.head _)), hw _ (.head _)⟩, hS4⟩
end
end Go.Proofs.Ythliapbflkfdiab
