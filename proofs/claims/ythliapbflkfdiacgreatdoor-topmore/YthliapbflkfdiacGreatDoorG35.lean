/- Steps of the proof. -/
import Derived.Test.YthliapbflkfdiacGreatDoorG34
namespace Go.Proofs.YthliapbflkfdiacGreatDoor
open Go.RowKit Go.Shelf
set_option linter.unusedVariables false
set_option linter.unusedSimpArgs false
set_option maxRecDepth 100000
set_option maxHeartbeats 1000000
abbrev QaS (l : List Str) (A : Option Addr) (c : Nat) (w : World) : Prop := Qz 1 (l.map sv) A l.length c w
theorem QaS.at_ {D R : List Str} {x : Str} {b o c : Nat} {w : World} (h : QaS (D ++ x :: R) (some ⟨b, o, none⟩) c w) : w.cell? ⟨b, o + ((D.length : Nat) : Int).toNat * 1, none⟩ = some (sv x) := by
 have := h.get (j := D.length) (v := sv x) Yd
 rwa [show ((D.length : Nat) : Int).toNat * 1 = D.length by omega]
theorem QaS.take {D R : List Str} {A : Option Addr} {c c' : Nat} {w : World} (h : QaS (D ++ R) A c w) (hc : D.length ≤ c') : QaS D A c' w := by
 have := Qz.take h (m := D.length) (c' := c') Yd hc
 simpa using this
theorem Qtv (p q : Str) (fuel every : Int) {w0 w : World} {F : List (World → Prop)} (hG : ∀ w', Ext [] w0 w' → QcZ w') (hW : ∀ w', Ext [] w0 w' → QeC w') (hp : p.length ≤ 1125899906842624) (hq : q.length ≤ 1125899906842624) (hev : every ≤ 9223372036854775807) (hS : St [] w0 [] F w) :
  Calls Tryz.prog 21 #[sv p, sv q, .int .i64 fuel, .int .i64 every] w fun e w' => ∃ (A : Option Addr) (c : Nat), e = .returned (.tuple #[.slice A (Qdt p q fuel every).1.length c, .int .i64 (Qdt p q fuel every).2]) ∧ St [] w0 [] (QaS (Qdt p q fuel every).1 A c :: F) w' := by
 refine (Qrt p q fuel every w (fun w' h => hG w' (hS.ext.trans h)) (fun w' h => hW w' (hS.ext.trans h)) hp hq hev).mono ?_
 rintro e w' ⟨A, c, he, hf, hb⟩
 exact ⟨A, c, he, (hS.grow hb).learn fun w2 hx => Qz.ext hf hx⟩
theorem QuR {p q : Str} {fuel every : Int} {r : List Str × Int} (hr : Qdt p q fuel every = r) {w0 w : World} {F : List (World → Prop)} (hG : ∀ w', Ext [] w0 w' → QcZ w') (hW : ∀ w', Ext [] w0 w' → QeC w') (hp : p.length ≤ 1125899906842624) (hq : q.length ≤ 1125899906842624) (hev : every ≤ 9223372036854775807) (hS : St [] w0 [] F w) :
  Calls Tryz.prog 21 #[sv p, sv q, .int .i64 fuel, .int .i64 every] w fun e w' => ∃ (A : Option Addr) (c : Nat), e = .returned (.tuple #[.slice A r.1.length c, .int .i64 r.2]) ∧ St [] w0 [] (QaS r.1 A c :: F) w' := by
 subst hr; exact Qtv p q fuel every hG hW hp hq hev hS
theorem Qkp {p q : Str} {fuel every : Int} (h1 : (Qq QG p).2 = 0) (h2 : (QA QG q).2.2 = 0) (h3 : 0 ≤ every) :
  Qdt p q fuel every = ((Qdr (Qq QG p).1 (QA QG q).1 ((QA QG q).2.1 : Nat) fuel).1.map QhN, (Qdr (Qq QG p).1 (QA QG q).1 ((QA QG q).2.1 : Nat) fuel).2) := by
 unfold Qdt
 rw [if_neg (fun h => h h1), if_neg (fun h => h h2), if_neg Ya]
 by_cases h4 : (Qdr (Qq QG p).1 (QA QG q).1 ((QA QG q).2.1 : Nat) fuel).2 = 0
 ·rw [if_neg (fun h => h h4), h4]
 ·rw [if_pos h4, Qm3 h4]; rfl
theorem Qs5 {p q : Str} (fuel : Int) (h1 : (Qq QG p).2 = 0) (h2 : (QA QG q).2.2 = 0) : (Qdr (Qq QG p).1 (QA QG q).1 ((QA QG q).2.1 : Nat) fuel).2 = if fuel < 0 ∨ 150 < fuel then 2 else 0 := by
 unfold Qdr
 rw [if_neg (by rw [(Qi3 h1).1, (QnC h2).1]; simp)]
 split <;> rfl
theorem Qkq (p q : Str) (fuel every : Int) : ((Qdt p q fuel every).2 ≠ 0 ↔ ((Qq QG p).2 ≠ 0 ∨ (QA QG q).2.2 ≠ 0 ∨ fuel < 0 ∨ 150 < fuel ∨ every < 0)) ∧ ((Qdt p q fuel every).2 ≠ 0 → (Qdt p q fuel every).1 = []) := by
 unfold Qdt
 by_cases h1 : (Qq QG p).2 = 0
 case neg => rw [if_pos h1]; exact ⟨⟨fun _ => .inl h1, fun _ => h1⟩, fun _ => rfl⟩
 rw [if_neg (fun h => h h1)]
 by_cases h2 : (QA QG q).2.2 = 0
 case neg => rw [if_pos h2]; exact ⟨⟨fun _ => .inr (.inl h2), fun _ => h2⟩, fun _ => rfl⟩
 rw [if_neg (fun h => h h2)]
 by_cases h3 : every < 0
 ·rw [if_pos h3]; exact ⟨⟨fun _ => .inr (.inr (.inr (.inr h3))), fun _ => by decide⟩, fun _ => rfl⟩
 rw [if_neg h3]
 have hc := Qs5 fuel h1 h2
 by_cases h4 : (Qdr (Qq QG p).1 (QA QG q).1 ((QA QG q).2.1 : Nat) fuel).2 = 0
 ·rw [if_neg (fun h => h h4)]
  rw [h4] at hc
  refine ⟨⟨fun h => absurd rfl h, fun h => ?_⟩, fun h => absurd rfl h⟩
  split at hc
  ·omega
  ·rename_i hf
   rcases h with h | h | h | h | h
   ·exact absurd h1 h
   ·exact absurd h2 h
   ·exact absurd (.inl h) hf
   ·exact absurd (.inr h) hf
   ·exact absurd h h3
 ·rw [if_pos h4]
  refine ⟨⟨fun _ => ?_, fun _ => h4⟩, fun _ => rfl⟩
  split at hc
  ·rename_i hf
   rcases hf with h | h
   ·exact .inr (.inr (.inl h))
   ·exact .inr (.inr (.inr (.inl h)))
  ·exact absurd hc h4
theorem Qfb (l : List Str) (A B : Option Addr) (c d : Nat) (w : World) (hl : QaS l A c w) (hk : QaS l B d w) (hn : l.length ≤ 1000) :
  Calls Tryz.prog 22 #[.slice A l.length c, .slice B l.length d] w fun e w' => e = .returned (.bool true) ∧ Below w.heap.size w w' := by
 have hS := St.start w
 refine Qg Tryz.func22 rfl Tryz.ntmps22 rfl ?_
 refine ZD ?_
 refine Zs ?_
 refine ZaG ?_
 refine Zy ?_
 refine Zab ?_
 refine Z6 ?_
 refine Qo 13 (14 :: 15 :: 5 :: 16 :: 17 :: 18 :: 19 :: 20 :: 21 :: 22 :: 23 :: 24 :: 4 :: 25 :: []) (fun (R : List Str) v w' => ∃ D, l = D ++ R ∧ v = .int .i64 (D.length : Nat) ∧ St [] w [] [] w') (fun R => R.length) (l) ?_ Yb ?_
 ·exact ⟨[], rfl, rfl, hS⟩
 clear hS
 rintro R _ w2 jv ⟨D, hD, rfl, hS⟩ ih
 have hlD : l.length = D.length + R.length := by rw [hD]; simp
 cases R with
 | nil =>
  simp only [List.length_nil] at hlD
  refine Zcr ?_
  refine Qc Tryz.func22 rfl Yb ?_
  exact ⟨rfl, hS.ext.below⟩
 | cons x R =>
  simp only [List.length_cons] at hlD
  obtain ⟨b5, o5, rfl⟩ := hl.some_ Ya
  obtain ⟨b6, o6, rfl⟩ := hk.some_ Ya
  have hl' := hl
  have hk' := hk
  rw [hD] at hl' hk'
  have q0 := hl'.at_
  have q1 := hk'.at_
  have e0 : (⟨x.toArray⟩ : ByteArray) = ⟨x.toArray⟩ := rfl
  refine ZaV ?_
  refine Z0 ?_
  refine ZdL ?_
  replace hS := hS.drew
  refine Z7 ?_
  refine ZcO ?_
  refine ZB ?_
  refine Z7 ?_
  refine ZcO ?_
  refine ZB ?_
  first
   | refine Qd rfl (fun _ hS => QiV rfl rfl Ye) rfl ?_
   | refine Qd rfl (fun _ hS => QiW rfl rfl Ye) rfl ?_
   | refine Qd rfl (fun _ hS => Qhq rfl rfl) rfl ?_
   | refine Qd rfl (fun _ hS => rfl) rfl ?_
  refine ZJ ?_
  refine ZbM ?_
  refine ih (R) _ _ _ ?_ ?_ Yb Yc
  ·simp
  ·exact ⟨D ++ [x], by rw [hD]; simp, by simp, hS⟩
theorem Qob (p q : Str) (fuel every : Int) : (Qdt p q fuel every).1.length ≤ 13 := by
 unfold Qdt
 repeat' split
 all_goals first | exact Nat.zero_le _ | (rw [List.length_map]; exact Qrs)
theorem Qrr {p q : Str} {fuel every : Int} (h : (Qdt p q fuel every).2 = 0) : ∃ (l : List Ts) (k : Int), (Qdt p q fuel every).1 = (l.map fun T => QbB 1 T) ++ [Qc1 k] ∧ (∀ T ∈ l, T.length = (QA QG q).2.1) ∧ 2 ≤ k ∧ k ≤ 6 ∧ l.length ≤ 12 ∧ (Qq QG p).2 = 0 ∧ (QA QG q).2.2 = 0 ∧ 0 ≤ every := by
 have hc := fun hh => ((Qkq p q fuel every).1.2 hh) h
 have h1 : (Qq QG p).2 = 0 := by
  apply Classical.byContradiction; intro h1; exact hc (.inl h1)
 have h2 : (QA QG q).2.2 = 0 := by
  apply Classical.byContradiction; intro h2; exact hc (.inr (.inl h2))
 have h3 : 0 ≤ every := by
  apply Classical.byContradiction; intro h3; exact hc (.inr (.inr (.inr (.inr Ya))))
 rw [Qkp h1 h2 h3] at h ⊢
 obtain ⟨l, k, hr⟩ := Qek h
 refine ⟨l, k, ?_, fun T hT => ?_, hr.kind.1, hr.kind.2, hr.six.2, h1, h2, h3⟩
 ·dsimp only
  rw [hr.eq, List.map_append]
  have hk := hr.kind
  have e1 : (Qdf l).map QhN = l.map fun T => QbB 1 T := by unfold Qdf; rw [List.map_map]; rfl
  have e2 : [((k, Ts.nil) : Ev)].map QhN = [Qc1 k] := by
   show [QbB k .nil] = [Qc1 k]
   unfold QbB; rw [if_neg Ya]
  rw [e1, e2]
 ·have := (hr.ans T hT).1
  simpa using this
theorem QlU {p q : Str} {f d : Nat} (hf : f + d ≤ 150) (h : (Qdt p q (f : Nat) 0).2 ≠ 0) : Qdt p q ((f + d : Nat) : Int) 0 = Qdt p q (f : Nat) 0 := by
 have hc := (Qkq p q (f : Nat) 0).1.1 h
 by_cases h1 : (Qq QG p).2 = 0
 case neg =>
  have key : ∀ x : Int, Qdt p q x 0 = ([], (Qq QG p).2) := fun x => by unfold Qdt; rw [if_pos h1]
  rw [key, key]
 by_cases h2 : (QA QG q).2.2 = 0
 case neg =>
  have key : ∀ x : Int, Qdt p q x 0 = ([], (QA QG q).2.2) := fun x => by unfold Qdt; rw [if_neg (fun h => h h1), if_pos h2]
  rw [key, key]
 omega
structure Qvm (P : Prop) : Prop where
 out : P
theorem Qs1 {p q : Str} {f d : Nat} (hf : f + d ≤ 150) (h : (Qdt p q (f : Nat) 0).2 = 0) : ∃ (D : List Str) (k : Int), (Qdt p q (f : Nat) 0).1 = D ++ [Qc1 k] ∧ 2 ≤ k ∧ k ≤ 6 ∧ (k ≠ 3 → Qdt p q ((f + d : Nat) : Int) 0 = Qdt p q (f : Nat) 0) ∧ (k = 3 → ∃ x r, (Qdt p q ((f + d : Nat) : Int) 0).1 = D ++ x :: r) := by
 obtain ⟨_, _, _, _, _, _, _, h1, h2, _⟩ := Qrr h
 rw [Qkp h1 h2 Ya] at h ⊢
 rw [Qkp h1 h2 Ya]
 obtain ⟨a1, l, k, a2, a3, a4⟩ := Qs4 hf h
 obtain ⟨l', k', hr⟩ := Qek h
 have hkk : k = k' := by
  have := a2.symm.trans hr.eq
  have := congrArg List.getLast? this
  simpa using this
 have hk := hr.kind
 refine ⟨(Qdf l).map QhN, k, ?_, by omega, by omega, fun h3 => ?_, fun h3 => ?_⟩
 ·dsimp only
  rw [a2, List.map_append]
  congr 1
  show [QbB k .nil] = [Qc1 k]
  unfold QbB; rw [if_neg Ya]
 ·rw [a3 h3, a1, a2, h]
 ·obtain ⟨x, r, e⟩ := a4 h3
  exact ⟨QhN x, r.map QhN, by dsimp only; rw [e, List.map_append]; rfl⟩
theorem Qmi (p q : Str) (fuel more : Int) (w : World) (hG : ∀ w', Ext [] w w' → QcZ w') (hW : ∀ w', Ext [] w w' → QeC w') (hp : p.length ≤ 1125899906842624) (hq : q.length ≤ 1125899906842624) (hmo : more ≤ 9223372036854775807) :
  Calls Tryz.prog 7 #[sv p, sv q, .int .i64 fuel, .int .i64 more] w fun e w' => e = .returned (.bool true) ∧ Below w.heap.size w w' := by
 have hS := St.start w
 have hal := fun {F : List (World → Prop)} (w' : World) (hS : St [] w [] F w') => Qpl w' (fun w' h => hG w' (hS.ext.trans h)) (fun w' h => hW w' (hS.ext.trans h))
 refine Qde Tryz.func7 rfl Tryz.ntmps7 rfl ?_
 by_cases g1 : fuel < 0
 ·refine ZD ?_
  refine Zr ?_
  refine Zaq ?_
  refine Zat ?_
  refine Zas ?_
  refine ZcR ?_
  refine Calls.mono (hal _ hS) ?_
  rintro _ w5 ⟨rfl, hb5⟩
  refine Za ?_
  replace hS := hS.grow hb5
  refine Zc ?_
  refine ZcS ?_
  exact ⟨rfl, hS.ext.below⟩
 by_cases g2 : 150 ≤ fuel
 ·refine ZD ?_
  refine ZaM ?_
  refine ZW ?_
  refine Zat ?_
  refine Zas ?_
  refine ZcR ?_
  refine Calls.mono (hal _ hS) ?_
  rintro _ w5 ⟨rfl, hb5⟩
  refine Za ?_
  replace hS := hS.grow hb5
  refine Zc ?_
  refine ZcS ?_
  exact ⟨rfl, hS.ext.below⟩
 by_cases g3 : more < 0
 ·refine ZD ?_
  refine ZaM ?_
  refine ZW ?_
  refine Zbb ?_
  refine Zr ?_
  refine Zas ?_
  refine ZcR ?_
  refine Calls.mono (hal _ hS) ?_
  rintro _ w5 ⟨rfl, hb5⟩
  refine Za ?_
  replace hS := hS.grow hb5
  refine Zc ?_
  refine ZcS ?_
  exact ⟨rfl, hS.ext.below⟩
 obtain ⟨f, rfl⟩ : ∃ f : Nat, fuel = f := ⟨fuel.toNat, by omega⟩
 have hm1 := Int.emod_nonneg more (show (150 - (f : Int)) ≠ 0 by omega)
 have hm2 := Int.emod_lt_of_pos more (show 0 < (150 - (f : Int)) by omega)
 obtain ⟨d, hd⟩ : ∃ d : Nat, (f : Int) + 1 + more % (150 - (f : Int)) = ((f + d : Nat) : Int) := ⟨(1 + more % (150 - (f : Int))).toNat, by omega⟩
 have hfd : f + d ≤ 150 := by omega
 have hfew := Qob p q (f : Nat) 0
 have hfew2 := Qob p q ((f + d : Nat) : Int) 0
 obtain ⟨_, hcn⟩ := Qkq p q (f : Nat) 0
 have hme := fun h => QlU (p := p) (q := q) hfd h
 have hmk := fun h => Qs1 (p := p) (q := q) hfd h
 obtain ⟨r2, hr2⟩ : ∃ r2, Qdt p q ((f + d : Nat) : Int) 0 = r2 := ⟨_, rfl⟩
 rw [hr2] at hme hmk hfew2
 refine ZD ?_
 refine ZaM ?_
 refine ZW ?_
 refine Zbb ?_
 refine Zr ?_
 refine Z8 ?_
 refine Zbz ?_
 refine ZeD ?_
 refine Calls.mono (Qtv p q (f : Nat) 0 hG hW hp hq Ya hS) ?_
 rintro _ w3 ⟨A1, c1, rfl, hS'⟩
 refine Za ?_
 replace hS := hS'
 clear hS'
 refine Zaz ?_
 refine Zl ?_
 refine ZcA ?_
 refine Za2 ?_
 refine Zay ?_
 first
  | refine Qa (run_rem10 rfl rfl) rfl ?_
  | refine Qa (Qnw rfl rfl Ya Ya Ya) rfl ?_
  | refine Qa (Qnx rfl rfl Ya Ya) rfl ?_
 refine Zz ?_
 rw [hd]
 refine ZeD ?_
 refine Calls.mono (QuR hr2 hG hW hp hq Ya hS) ?_
 rintro _ w4 ⟨A2, c2, rfl, hS'⟩
 refine Za ?_
 replace hS := hS'
 clear hS'
 generalize (Qdt p q (f : Nat) 0) = r at *
 by_cases h0 : r.2 = 0
 case neg =>
  have hlen : r.1.length = 0 := by rw [hcn h0]; rfl
  obtain rfl := (hme h0).symm
  refine Zbt ?_
  refine Zaq ?_
  refine ZaK ?_
  refine Z5 ?_
  refine Zco ?_
  refine ZbA ?_
  refine Zn ?_
  refine Zbb ?_
  refine ZbA ?_
  refine Zn ?_
  refine ZS ?_
  refine Zx ?_
  refine ZcR ?_
  refine Calls.mono (hal _ hS) ?_
  rintro _ w5 ⟨rfl, hb5⟩
  refine Za ?_
  replace hS := hS.grow hb5
  refine ZN ?_
  refine ZcS ?_
  exact ⟨rfl, hS.ext.below⟩
 obtain ⟨D, k, e1, k2, k6, e2, e3⟩ := hmk h0
 have hlen : r.1.length = D.length + 1 := by rw [e1]; simp
 have hlen2 : r.1.length ≤ r2.1.length := by
  by_cases h3 : k = 3
  ·obtain ⟨x, t, e⟩ := e3 h3
   rw [hlen, e]; simp
  ·rw [e2 h3]; exact Nat.le_refl _
 have e23 : Qvm ((k ≠ 3 → r2 = r) ∧ (k = 3 → ∃ x t, r2.1 = D ++ x :: t)) := ⟨⟨e2, e3⟩⟩
 clear e2 e3 hmk hme hcn
 have ht1 : (((r.1.length : Nat) : Int) - 1).toNat = D.length := by omega
 have hR1 : Und [QaS r2.1 A2 c2, QaS r.1 A1 c1] (QaS r.1 A1 c1) := Und.head.tail
 have hRD : Und [QaS r2.1 A2 c2, QaS r.1 A1 c1] (QaS (D ++ Qc1 k :: []) A1 c1) := by rw [← e1]; exact hR1
 obtain ⟨b7, o7, rfl⟩ := (hS.und hRD).some_ Yd
 have hq0 : ∀ w', St [] w [] _ w' → w'.cell? ⟨b7, o7 + (((r.1.length : Nat) : Int) - 1).toNat * 1, none⟩ = some (sv (Qc1 k)) := fun w' hS => by
  have := (hS.und hRD).at_
  rwa [ht1]
 by_cases h3 : k = 3
 ·obtain ⟨x, t, e⟩ := e23.out.2 h3
  have ew : Qc1 k = [102, 117, 101, 108] := by rw [h3]; rfl
  rw [ew] at hq0
  have e0 : (⟨([102, 117, 101, 108] : Str).toArray⟩ : ByteArray) = ⟨#[102, 117, 101, 108]⟩ := rfl
  have hcc1 := (hS.und hR1).2.1
  have hcc2 := (hS.fact (.head _)).2.1
  have hs1 : ∀ {c' : Nat} w', St [] w [] [QaS r2.1 A2 c2, QaS r.1 (some ⟨b7, o7, none⟩) c1] w' → D.length ≤ c' → QaS D (some ⟨b7, o7, none⟩) c' w' := fun w' hS hc => QaS.take (hS.und hRD) hc
  have hs2 : ∀ {c' : Nat} w', St [] w [] [QaS r2.1 A2 c2, QaS r.1 (some ⟨b7, o7, none⟩) c1] w' → D.length ≤ c' → QaS D A2 c' w' := fun w' hS hc => by
   have := hS.fact (.head _)
   rw [e] at this
   exact QaS.take this hc
  refine Zbt ?_
  refine Zx ?_
  refine ZcR ?_
  refine Calls.mono (hal _ hS) ?_
  rintro _ w5 ⟨rfl, hb5⟩
  refine Za ?_
  replace hS := hS.grow hb5
  refine Zdw ?_
  refine Zs ?_
  refine Zco ?_
  refine Zs ?_
  refine ZO ?_
  refine ZbA ?_
  refine Zr ?_
  refine Zd3 ?_
  refine ZaG ?_
  refine Zay ?_
  refine ZM ?_
  refine Zge ?_
  refine Za6 ?_
  refine Zcu ?_
  refine QB (St _ _ _ _) 12 ((0, true) :: (1, true) :: (2, true) :: (3, true) :: (4, true) :: (5, true) :: (6, true) :: (7, true) :: (8, true) :: (9, true) :: (10, false) :: (11, true) :: []) Yc Yc (hS.drew) ?_
  replace hS := hS.drew
  refine Z7 ?_
  refine ZaJ ?_
  refine Zef ?_
  refine Qd rfl (fun _ hS => QM (sz := 1) rfl rfl rfl rfl Ya Ya) rfl ?_
  refine Z7 ?_
  refine ZaJ ?_
  refine Zef ?_
  refine Qd rfl (fun _ hS => QM (sz := 1) rfl rfl rfl rfl Ya Ya) rfl ?_
  refine Zp ?_
  rw [ht1]
  refine Zf ?_
  refine Calls.mono (Qfb D _ _ _ _ _ (hs1 _ hS Ya) (hs2 _ hS Ya) Ya) ?_
  rintro _ w6 ⟨rfl, hb6⟩
  refine Za ?_
  replace hS := hS.grow hb6
  refine Zcf ?_
  refine ZdX ?_
  refine ZcS ?_
  exact ⟨rfl, hS.ext.below⟩
 ·obtain rfl := (e23.out.1 h3).symm
  have e0 : (⟨(Qc1 k).toArray⟩ : ByteArray) ≠ ⟨#[102, 117, 101, 108]⟩ := by
   have hk : k = 2 ∨ k = 4 ∨ k = 5 ∨ k = 6 := by omega
   rcases hk with rfl | rfl | rfl | rfl <;> decide
  refine Zbt ?_
  refine Zx ?_
  refine ZcR ?_
  refine Calls.mono (hal _ hS) ?_
  rintro _ w5 ⟨rfl, hb5⟩
  refine Za ?_
  replace hS := hS.grow hb5
  refine Zdw ?_
  refine Zs ?_
  refine Zco ?_
  refine Zs ?_
  refine ZO ?_
  refine ZbA ?_
  refine Zr ?_
  refine Zd3 ?_
  refine ZaG ?_
  refine Zay ?_
  refine ZM ?_
  refine Zge ?_
  refine Za6 ?_
  refine ZC ?_
  refine Zac ?_
  refine Calls.mono (Qfb r.1 _ A2 c1 c2 _ (hS.und hR1) (hS.fact (.head _)) Ya) ?_
  rintro _ w6 ⟨rfl, hb6⟩
  refine Za ?_
  replace hS := hS.grow hb6
  refine Zc ?_
  refine ZcS ?_
  exact ⟨rfl, hS.ext.below⟩
end Go.Proofs.YthliapbflkfdiacGreatDoor
