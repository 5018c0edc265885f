/- ELaw1, ELaw3, Open, OpenC, ERow, ERowW: texts that follow one another, laid into one file. -/
import Derived.Test.YthliapbflkfdiacGreatDoorZ0
import Derived.Test.YthliapbflkfdiacGreatDoorG34
import Derived.Test.YthliapbflkfdiacGreatDoorG18
import Derived.Test.YthliapbflkfdiacGreatDoorG14
import Derived.Test.YthliapbflkfdiacGreatDoorG1
import Derived.Test.YthliapbflkfdiacGreatDoorRows
import Derived.Deep.Slices
import Derived.Deep.Fields
import Derived.JoinedCond
import Derived.OpenShut
import Derived.Test.YthliapbflkfdiacGreatDoorG4
import Derived.Test.YthliapbflkfdiacGreatDoorG6
import Derived.Test.YthliapbflkfdiacGreatDoorCards
import Derived.Test.YthliapbflkfdiacGreatDoorTie
import Derived.Deep.DeepHandedRow
import Derived.Lib.LaidTab
import Derived.LaidSub
import Derived.Stop.LaidErr
namespace Go.Proofs.YthliapbflkfdiacGreatDoor
open Go.RowKit Go.Shelf
set_option linter.unusedVariables false
set_option linter.unusedSimpArgs false
set_option maxRecDepth 100000
set_option maxHeartbeats 1000000
abbrev Qgp (l : List Str) (A : Option Addr) (c : Nat) (w : World) : Prop := Qz 1 (l.map sv) A l.length c w
theorem Qgp.at_ {D R : List Str} {x : Str} {b o c : Nat} {w : World} (h : Qgp (D ++ x :: R) (some ⟨b, o, none⟩) c w) : w.cell? ⟨b, o + ((D.length : Nat) : Int).toNat * 1, none⟩ = some (sv x) := by
 have := h.get (j := D.length) (v := sv x) Yd
 rwa [show ((D.length : Nat) : Int).toNat * 1 = D.length by omega]
theorem QuF (p q : Str) (fuel every : Int) {w0 w : World} {F : List (World → Prop)} (hG : ∀ w', Ext [] w0 w' → Qdb w') (hW : ∀ w', Ext [] w0 w' → QfA w') (hp : p.length ≤ 1125899906842624) (hq : q.length ≤ 1125899906842624) (hev : every ≤ 9223372036854775807) (hS : St [] w0 [] F w) :
  Calls Tryz.prog 21 #[sv p, sv q, .int .i64 fuel, .int .i64 every] w fun e w' => ∃ (A : Option Addr) (c : Nat), e = .returned (.tuple #[.slice A (Qie p q fuel every).1.length c, .int .i64 (Qie p q fuel every).2]) ∧ St [] w0 [] (Qgp (Qie p q fuel every).1 A c :: F) w' := by
 refine (Qrg p q fuel every w (fun w' h => hG w' (hS.ext.trans h)) (fun w' h => hW w' (hS.ext.trans h)) hp hq hev).mono ?_
 rintro e w' ⟨A, c, he, hf, hb⟩
 exact ⟨A, c, he, (hS.grow hb).learn fun w2 hx => Qz.ext hf hx⟩
theorem QsQ {p q : Str} {fuel every : Int} (h1 : (Qs QI p).2 = 0) (h2 : (QA QI q).2.2 = 0) (h3 : 0 ≤ every) :
  Qie p q fuel every = ((QeO (Qs QI p).1 (QA QI q).1 ((QA QI q).2.1 : Nat) fuel).1.map Qlj, (QeO (Qs QI p).1 (QA QI q).1 ((QA QI q).2.1 : Nat) fuel).2) := by
 unfold Qie
 rw [if_neg (fun h => h h1), if_neg (fun h => h h2), if_neg Ya]
 by_cases h4 : (QeO (Qs QI p).1 (QA QI q).1 ((QA QI q).2.1 : Nat) fuel).2 = 0
 ·rw [if_neg (fun h => h h4), h4]
 ·rw [if_pos h4, QmW h4]; rfl
theorem QsU {p q : Str} (fuel : Int) (h1 : (Qs QI p).2 = 0) (h2 : (QA QI q).2.2 = 0) : (QeO (Qs QI p).1 (QA QI q).1 ((QA QI q).2.1 : Nat) fuel).2 = if fuel < 0 ∨ 150 < fuel then 2 else 0 := by
 unfold QeO
 rw [if_neg (by rw [(QiX h1).1, (Qns h2).1]; simp)]
 split <;> rfl
theorem Qn1 (p q : Str) (fuel every : Int) : ((Qie p q fuel every).2 ≠ 0 ↔ ((Qs QI p).2 ≠ 0 ∨ (QA QI q).2.2 ≠ 0 ∨ fuel < 0 ∨ 150 < fuel ∨ every < 0)) ∧ ((Qie p q fuel every).2 ≠ 0 → (Qie p q fuel every).1 = []) := by
 unfold Qie
 by_cases h1 : (Qs QI p).2 = 0
 case neg => rw [if_pos h1]; exact ⟨⟨fun _ => .inl h1, fun _ => h1⟩, fun _ => rfl⟩
 rw [if_neg (fun h => h h1)]
 by_cases h2 : (QA QI q).2.2 = 0
 case neg => rw [if_pos h2]; exact ⟨⟨fun _ => .inr (.inl h2), fun _ => h2⟩, fun _ => rfl⟩
 rw [if_neg (fun h => h h2)]
 by_cases h3 : every < 0
 ·rw [if_pos h3]; exact ⟨⟨fun _ => .inr (.inr (.inr (.inr h3))), fun _ => by decide⟩, fun _ => rfl⟩
 rw [if_neg h3]
 have hc := QsU fuel h1 h2
 by_cases h4 : (QeO (Qs QI p).1 (QA QI q).1 ((QA QI q).2.1 : Nat) fuel).2 = 0
 ·rw [if_neg (fun h => h h4)]
  rw [h4] at hc
  refine ⟨⟨fun h => absurd rfl h, fun h => ?_⟩, fun h => absurd rfl h⟩
  split at hc
  ·omega
  ·rename_i hf
   rcases h with h | h | h | h | h
   ·exact absurd h1 h
   ·exact absurd h2 h
   ·exact absurd (.inl h) hf
   ·exact absurd (.inr h) hf
   ·exact absurd h h3
 ·rw [if_pos h4]
  refine ⟨⟨fun _ => ?_, fun _ => h4⟩, fun _ => rfl⟩
  split at hc
  ·rename_i hf
   rcases hf with h | h
   ·exact .inr (.inr (.inl h))
   ·exact .inr (.inr (.inr (.inl h)))
  ·exact absurd hc h4
theorem QsR (p q : Str) (fuel every : Int) : (Qie p q fuel every).1.length ≤ 13 := by
 unfold Qie
 repeat' split
 all_goals first | exact Nat.zero_le _ | (rw [List.length_map]; exact Qrf)
theorem Qre {p q : Str} {fuel every : Int} (h : (Qie p q fuel every).2 = 0) : ∃ (l : List Ts) (k : Int), (Qie p q fuel every).1 = (l.map fun T => QbT 1 T) ++ [QeR k] ∧ (∀ T ∈ l, T.length = (QA QI q).2.1) ∧ 2 ≤ k ∧ k ≤ 6 ∧ l.length ≤ 12 ∧ (Qs QI p).2 = 0 ∧ (QA QI q).2.2 = 0 ∧ 0 ≤ every := by
 have hc := fun hh => ((Qn1 p q fuel every).1.2 hh) h
 have h1 : (Qs QI p).2 = 0 := by
  apply Classical.byContradiction; intro h1; exact hc (.inl h1)
 have h2 : (QA QI q).2.2 = 0 := by
  apply Classical.byContradiction; intro h2; exact hc (.inr (.inl h2))
 have h3 : 0 ≤ every := by
  apply Classical.byContradiction; intro h3; exact hc (.inr (.inr (.inr (.inr Ya))))
 rw [QsQ h1 h2 h3] at h ⊢
 obtain ⟨l, k, hr⟩ := Qf4 h
 refine ⟨l, k, ?_, fun T hT => ?_, hr.kind.1, hr.kind.2, hr.six.2, h1, h2, h3⟩
 ·dsimp only
  rw [hr.eq, List.map_append]
  have hk := hr.kind
  have e1 : (Qiy l).map Qlj = l.map fun T => QbT 1 T := by unfold Qiy; rw [List.map_map]; rfl
  have e2 : [((k, Ts.nil) : Ev)].map Qlj = [QeR k] := by
   show [QbT k .nil] = [QeR k]
   unfold QbT; rw [if_neg Ya]
  rw [e1, e2]
 ·have := (hr.ans T hT).1
  simpa using this
theorem Qma (p q : Str) (fuel every : Int) (w : World) (hG : ∀ w', Ext [] w w' → Qdb w') (hW : ∀ w', Ext [] w w' → QfA w') (hp : p.length ≤ 1125899906842624) (hq : q.length ≤ 1125899906842624) (hev : every ≤ 9223372036854775807) :
  Calls Tryz.prog 8 #[sv p, sv q, .int .i64 fuel, .int .i64 every] w fun e w' => e = .returned (.bool true) ∧ Below w.heap.size w w' := by
 have hS := St.start w
 have hln := fun h => Qre (p := p) (q := q) (fuel := fuel) (every := every) h
 have hfew := QsR p q fuel every
 obtain ⟨_, hc2⟩ := Qn1 p q fuel every
 have hal := fun {F : List (World → Prop)} (w' : World) (hS : St [] w [] F w') => Qpb w' (fun w' h => hG w' (hS.ext.trans h)) (fun w' h => hW w' (hS.ext.trans h))
 refine Qc9 Tryz.func8 rfl Tryz.ntmps8 rfl ?_
 refine Zw ?_
 refine ZG ?_
 refine Zd ?_
 refine Zfj ?_
 refine Calls.mono (QuF p q fuel every hG hW hp hq hev hS) ?_
 rintro _ w4 ⟨A1, c1, rfl, hS'⟩
 refine Za ?_
 replace hS := hS'
 clear hS'
 generalize hr : (Qie p q fuel every) = r at *
 by_cases h0 : r.2 = 0
 case neg =>
  have hlen : r.1.length = 0 := by rw [hc2 h0]; rfl
  refine ZbG ?_
  refine Zaj ?_
  refine ZaC ?_
  refine Zk ?_
  refine ZF ?_
  refine Zl ?_
  refine Zy ?_
  refine Qbm (Qc3 Yc QgR) rfl ?_
  refine Calls.mono (hal _ hS) ?_
  rintro _ w5 ⟨rfl, hb5⟩
  refine Za ?_
  replace hS := hS.grow hb5
  refine ZN ?_
  refine Qc Tryz.func8 rfl Yb ?_
  exact ⟨rfl, hS.ext.below⟩
 obtain ⟨l, k, e1, e2, k2, k6, hl12, _⟩ := hln h0
 have hlen : r.1.length = l.length + 1 := by rw [e1]; simp
 have hR : Und [Qgp r.1 A1 c1] (Qgp r.1 A1 c1) := Und.head
 refine ZbG ?_
 refine Zy ?_
 refine Qbm (Qc3 Yc QgR) rfl ?_
 refine Calls.mono (hal _ hS) ?_
 rintro _ w5 ⟨rfl, hb5⟩
 refine Za ?_
 replace hS := hS.grow hb5
 refine Zb2 ?_
 refine ZaE ?_
 refine Z6 ?_
 refine Qo 36 (37 :: 38 :: 39 :: 40 :: 11 :: 12 :: 41 :: 42 :: 43 :: 44 :: 45 :: 46 :: 47 :: 48 :: 13 :: 49 :: 50 :: 51 :: 52 :: 53 :: 54 :: 55 :: 56 :: 57 :: 58 :: 59 :: 60 :: 61 :: 62 :: 63 :: 64 :: 65 :: 66 :: 67 :: 68 :: 69 :: 70 :: 71 :: 72 :: 73 :: 74 :: 75 :: 76 :: 77 :: 78 :: 79 :: 8 :: 80 :: []) (fun (R : List Str) v w' => ∃ D, r.1 = D ++ R ∧ v = .int .i64 (D.length : Nat) ∧ St [] w [] [Qgp r.1 A1 c1] w') (fun R => R.length) (r.1) ?_ Yb ?_
 ·exact ⟨[], rfl, rfl, hS⟩
 clear hS
 rintro R _ w8 jv ⟨D, hD, rfl, hS⟩ ih
 have hlD : r.1.length = D.length + R.length := by rw [hD]; simp
 cases R with
 | nil =>
  simp only [List.length_nil] at hlD
  refine ZI ?_
  refine Zk ?_
  refine ZF ?_
  refine ZeM ?_
  refine ZcU ?_
  refine ZcB ?_
  refine ZN ?_
  refine Qc Tryz.func8 rfl Yb ?_
  exact ⟨rfl, hS.ext.below⟩
 | cons x R =>
  simp only [List.length_cons] at hlD
  have hRD : Und [Qgp r.1 A1 c1] (Qgp (D ++ x :: R) A1 c1) := by rw [← hD]; exact hR
  obtain ⟨b7, o7, rfl⟩ := (hS.und hRD).some_ Yh
  have hq0 : ∀ w', St [] w [] _ w' → _ := fun w' hS => (hS.und hRD).at_
  have h1 : r.1[D.length]? = some x := by rw [hD]; simp
  refine Zfl ?_
  by_cases hlt : D.length < l.length
  ·obtain ⟨T, hxe⟩ : ∃ T : Ts, x = [121, 101, 115] ++ QbG 0 T := by
    rw [e1, List.getElem?_append_left (by simpa using hlt), List.getElem?_map, List.getElem?_eq_getElem hlt] at h1
    simp only [Option.map_some, Option.some.injEq] at h1
    exact ⟨l[D.length], h1.symm⟩
   have hx3 : 3 ≤ x.length := by rw [hxe]; simp
   have htk : (x.take (3 : Int).toNat) = [121, 101, 115] := by rw [hxe]; rfl
   have e0 : (⟨(x.take (3 : Int).toNat).toArray⟩ : ByteArray) = ⟨#[121, 101, 115]⟩ := by rw [htk]
   refine Zdu ?_
   refine Zaj ?_
   refine Zdv ?_
   refine Zdv ?_
   refine Zdw ?_
   refine ih (R) _ _ _ ?_ ?_ Yb Yc
   ·simp
   ·exact ⟨D ++ [x], by rw [hD]; simp, by simp, hS⟩
  ·have hxe : x = QeR k := by
    rw [e1, List.getElem?_append_right Yh, List.length_map, show D.length - l.length = 0 by omega] at h1
    simpa using h1.symm
   have hk : k = 2 ∨ k = 3 ∨ k = 4 ∨ k = 5 ∨ k = 6 := by omega
   rcases hk with hk | hk | hk | hk | hk
   ·have hxe2 : x = [100, 111, 110, 101] := by rw [hxe, hk]; rfl
    subst hxe2
    have hl3 : ([100, 111, 110, 101] : Str).length = 4 := rfl
    have e0 : (⟨(([100, 111, 110, 101] : Str).take (3 : Int).toNat).toArray⟩ : ByteArray) ≠ ⟨#[121, 101, 115]⟩ := by decide
    have f2 : (⟨([100, 111, 110, 101] : Str).toArray⟩ : ByteArray) = ⟨#[100, 111, 110, 101]⟩ := rfl
    refine Zdu ?_
    refine Zch ?_
    refine Zdv ?_
    refine Zdv ?_
    refine Zdw ?_
    refine ih (R) _ _ _ ?_ ?_ Yb Yc
    ·simp
    ·exact ⟨D ++ [[100, 111, 110, 101]], by rw [hD]; simp, by simp, hS⟩
   ·have hxe2 : x = [102, 117, 101, 108] := by rw [hxe, hk]; rfl
    subst hxe2
    have hl3 : ([102, 117, 101, 108] : Str).length = 4 := rfl
    have e0 : (⟨(([102, 117, 101, 108] : Str).take (3 : Int).toNat).toArray⟩ : ByteArray) ≠ ⟨#[121, 101, 115]⟩ := by decide
    have f2 : (⟨([102, 117, 101, 108] : Str).toArray⟩ : ByteArray) ≠ ⟨#[100, 111, 110, 101]⟩ := by decide
    have f3 : (⟨([102, 117, 101, 108] : Str).toArray⟩ : ByteArray) = ⟨#[102, 117, 101, 108]⟩ := rfl
    refine Zdu ?_
    refine Zbj ?_
    refine Zch ?_
    refine Zdv ?_
    refine ZeJ ?_
    refine Zdw ?_
    refine ih (R) _ _ _ ?_ ?_ Yb Yc
    ·simp
    ·exact ⟨D ++ [[102, 117, 101, 108]], by rw [hD]; simp, by simp, hS⟩
   ·have hxe2 : x = [108, 97, 114, 103, 101] := by rw [hxe, hk]; rfl
    subst hxe2
    have hl3 : ([108, 97, 114, 103, 101] : Str).length = 5 := rfl
    have e0 : (⟨(([108, 97, 114, 103, 101] : Str).take (3 : Int).toNat).toArray⟩ : ByteArray) ≠ ⟨#[121, 101, 115]⟩ := by decide
    have f2 : (⟨([108, 97, 114, 103, 101] : Str).toArray⟩ : ByteArray) ≠ ⟨#[100, 111, 110, 101]⟩ := by decide
    have f3 : (⟨([108, 97, 114, 103, 101] : Str).toArray⟩ : ByteArray) ≠ ⟨#[102, 117, 101, 108]⟩ := by decide
    have f4 : (⟨([108, 97, 114, 103, 101] : Str).toArray⟩ : ByteArray) = ⟨#[108, 97, 114, 103, 101]⟩ := rfl
    refine Zdu ?_
    refine Zbj ?_
    refine Zbj ?_
    refine Zch ?_
    refine Zdv ?_
    refine Zdw ?_
    refine ih (R) _ _ _ ?_ ?_ Yb Yc
    ·simp
    ·exact ⟨D ++ [[108, 97, 114, 103, 101]], by rw [hD]; simp, by simp, hS⟩
   ·have hxe2 : x = [102, 97, 117, 108, 116] := by rw [hxe, hk]; rfl
    subst hxe2
    have hl3 : ([102, 97, 117, 108, 116] : Str).length = 5 := rfl
    have e0 : (⟨(([102, 97, 117, 108, 116] : Str).take (3 : Int).toNat).toArray⟩ : ByteArray) ≠ ⟨#[121, 101, 115]⟩ := by decide
    have f2 : (⟨([102, 97, 117, 108, 116] : Str).toArray⟩ : ByteArray) ≠ ⟨#[100, 111, 110, 101]⟩ := by decide
    have f3 : (⟨([102, 97, 117, 108, 116] : Str).toArray⟩ : ByteArray) ≠ ⟨#[102, 117, 101, 108]⟩ := by decide
    have f4 : (⟨([102, 97, 117, 108, 116] : Str).toArray⟩ : ByteArray) ≠ ⟨#[108, 97, 114, 103, 101]⟩ := by decide
    have f5 : (⟨([102, 97, 117, 108, 116] : Str).toArray⟩ : ByteArray) = ⟨#[102, 97, 117, 108, 116]⟩ := rfl
    refine Zdu ?_
    refine Zbj ?_
    refine Zbj ?_
    refine Zbj ?_
    refine Zch ?_
    refine ZeJ ?_
    refine Zdw ?_
    refine ih (R) _ _ _ ?_ ?_ Yb Yc
    ·simp
    ·exact ⟨D ++ [[102, 97, 117, 108, 116]], by rw [hD]; simp, by simp, hS⟩
   ·have hxe2 : x = [101, 110, 111, 117, 103, 104] := by rw [hxe, hk]; rfl
    subst hxe2
    have hl3 : ([101, 110, 111, 117, 103, 104] : Str).length = 6 := rfl
    have e0 : (⟨(([101, 110, 111, 117, 103, 104] : Str).take (3 : Int).toNat).toArray⟩ : ByteArray) ≠ ⟨#[121, 101, 115]⟩ := by decide
    have f2 : (⟨([101, 110, 111, 117, 103, 104] : Str).toArray⟩ : ByteArray) ≠ ⟨#[100, 111, 110, 101]⟩ := by decide
    have f3 : (⟨([101, 110, 111, 117, 103, 104] : Str).toArray⟩ : ByteArray) ≠ ⟨#[102, 117, 101, 108]⟩ := by decide
    have f4 : (⟨([101, 110, 111, 117, 103, 104] : Str).toArray⟩ : ByteArray) ≠ ⟨#[108, 97, 114, 103, 101]⟩ := by decide
    have f5 : (⟨([101, 110, 111, 117, 103, 104] : Str).toArray⟩ : ByteArray) ≠ ⟨#[102, 97, 117, 108, 116]⟩ := by decide
    have f6 : (⟨([101, 110, 111, 117, 103, 104] : Str).toArray⟩ : ByteArray) = ⟨#[101, 110, 111, 117, 103, 104]⟩ := rfl
    refine Zdu ?_
    refine Zbj ?_
    refine Zbj ?_
    refine Zbj ?_
    refine Zbj ?_
    refine Zch ?_
    refine Zdw ?_
    refine ih (R) _ _ _ ?_ ?_ Yb Yc
    ·simp
    ·exact ⟨D ++ [[101, 110, 111, 117, 103, 104]], by rw [hD]; simp, by simp, hS⟩
open Go.ChangeShapes Go.WideShapes Go.ChangeAt
theorem Tryz.laidOut : laidOutB Tryz.prog = true := by kernel_rfl
theorem Tryz.own : ownKnob Tryz.prog.godebug = none := by kernel_rfl
section
variable {H : Type} {enc : TypeId × Value → H} {w : World} {base : Nat} {spare : Nat → Bool} {held : Bool}
end
theorem QeU {H : Type} {enc : TypeId × Value → H} {P : Program} (hl : laidOutB P = true) {W W' : World} (hb : Below W.heap.size W W') : ∀ {ts : List TypeId} {vs : List Value} {ds : List (DataW H)} {ps : List MemPlace}, (∀ t ∈ ts, P.readableRec t = true ∧ t < P.types.size) →
  DataW.TrodAll enc P W 0 (fun _ => true) true ts vs ds ps → (∀ x ∈ ps, x.block < W.heap.size) → DataW.TrodAll enc P W' 0 (fun b => decide (b < W.heap.size)) true ts vs ds ps
 | [], [], [], _, _, h, _ => h
 | [], [], _ :: _, _, _, h, _ => h.elim
 | [], _ :: _, _, _, _, h, _ => h.elim
 | _ :: _, [], _, _, _, h, _ => h.elim
 | _ :: _, _ :: _, [], _, _, h, _ => h.elim
 | t :: ts, v :: vs, d :: ds, ps, ht, ⟨p, q, h1, h2, e⟩, hlt => by
  subst e
  obtain ⟨a, b⟩ := ht t (List.mem_cons_self ..)
  exact ⟨p, q, Below.trod hl a b h1 hb fun x hx => hlt x (List.mem_append_left _ hx), QeU hl hb (fun t ht' => ht t (List.mem_cons_of_mem _ ht')) h2 fun x hx => hlt x (List.mem_append_right _ hx), rfl⟩
theorem Qsv {H : Type} {enc : TypeId × Value → H} {P : Program} {f : Func} {s : ChangeSpec} {W W' : World} {args : Array Value} {ds gs : List (DataW H)} {before : List MemPlace} (hl : laidOutB P = true) {bt : TypeId}
  (hres : f.resultTypes = #[bt]) (hbt : P.underlying bt = some .bool) (ht : (f.params.toList.all fun t => P.readableRec t && decide (t < P.types.size)) = true) (hvars : s.vars = [])
  (hfn : (s.fn H (ds ++ gs)).results = [.lit (.bool true)] ∧ (s.fn H (ds ++ gs)).args = ds ∧ (s.fn H (ds ++ gs)).vars = [])
  (hW : DataW.Whole enc P f.params.toList s.vars false W args.toList ds gs before) (hb : Below W.heap.size W W') :
  s.post enc P f false true false false W args (.bool true) W' := by
 have hlt := hW.lt
 have hW' := hW
 obtain ⟨p, q, hA, hV, rfl, hfz, hnd⟩ := hW
 refine ⟨ds, gs, p ++ q, [], p, [], hW', ?_, ?_, ?_, ?_, fun h => by cases h⟩
 ·rw [hfn.1, hres]
  exact trodAll_cons_mk (shut_bool hbt _) trodAll_mk0
 ·rw [hfn.2.1]
  exact QeU hl hb (fun t h => by have := List.all_eq_true.1 ht t h; simpa using this) hA fun x hx => hlt x (List.mem_append_left _ hx)
 ·rw [hfn.2.2, hvars]
  rfl
 ·exact hb.frame _
section
variable {H : Type} {enc : TypeId × Value → H} {w : World} {base : Nat} {spare : Nat → Bool} {held : Bool}
end
theorem Qg2 {P : Program} {W W' : World} {n : String} {cs : Array Value} (h : W.var? P n = some cs) (hb : Below W.heap.size W W') : W'.var? P n = some cs := by
 unfold World.var? at h ⊢
 cases hg : P.globalNamed n with
 | none => simp [hg] at h
 | some g =>
  simp only [hg, Option.bind_some] at h ⊢
  have hlt : g < W.heap.size := by
   rcases Nat.lt_or_ge g W.heap.size with h' | h'
   ·exact h'
   ·simp [Array.getElem?_eq_none h'] at h
  rw [hb.block g hlt]
  exact h
theorem Qdb.below {W W' : World} (g : Qdb W) (hb : Below W.heap.size W W') : Qdb W' := by
 obtain ⟨⟨t1, p1, h1⟩, ⟨t2, p2, h2⟩, h3⟩ := g
 exact ⟨⟨t1, p1, Qg2 h1 hb⟩, ⟨t2, p2, Qg2 h2 hb⟩, Qg2 h3 hb⟩
theorem QnS : "*" ++ "errors.errorString" = "*errors.errorString" := by kernel_rfl
theorem QqR : ∀ u, Tryz.prog.typeName? 3 u = some "*errors.errorString" → u = 301 :=
 fun u h => typeName_ptr_named (nm := "errors.errorString") (by rw [QnS]; kernel_rfl) Yc Yg u (by rw [QnS]; exact h)
theorem QqM {W : World} (h : laidMetH Tryz.prog Rows.topTermsRow.laid W) : Qdb W := by
 have h0 := (laidMetH_iff.1 h).1
 have e : (Rows.topTermsRow.laid.filter fun x => x.2.handleName?.isNone) = Rows.topTermsRow.laid := by kernel_rfl
 rw [e] at h0
 have h3 : laidMet Tryz.prog (("internal/strconv.uint64pow10", Lib.tabData .u64 Lib.pow10Tab) :: _) W := laidMet.tail (laidMet.tail h0)
 have h5 := laidMet.tail (laidMet.tail h3)
 have h6 := laidMet.tail h5
 refine ⟨?_, ?_, Lib.tabIs_of_head (g := 2) (t := 273) (e := 257) (n := 20) Yc Yc Yc Yc Yc Yc h3⟩
 ·obtain ⟨a, s, hv, _⟩ := laid_sentinel (g := 5) (ti := 120) (tp := 301) (te := 303) (ts := 9) h6 Yc Yc Tryz.underlying120 QqR Yc Tryz.underlying303 rfl rfl Yc Yc Yc
  exact ⟨_, _, hv⟩
 ·obtain ⟨a, s, hv, _⟩ := laid_sentinel (g := 6) (ti := 120) (tp := 301) (te := 303) (ts := 9) h5 Yc Yc Tryz.underlying120 QqR Yc Tryz.underlying303 rfl rfl Yc Yc Yc
  exact ⟨_, _, hv⟩
theorem Qkd {H : Type} {enc : TypeId × Value → H} {P : Program} {w : World} {base : Nat} {sp : Nat → Bool} {held : Bool} {fuel : Nat} {t e : TypeId} {n : Nat} {cs : List Value} {ss : List (List UInt8)} {p : List MemPlace}
  (ht : P.underlying t = some (.array n e)) (he : P.underlying e = some .string) (hce : P.cellsOf e = 1) (hct : P.cellsOf t = n)
  (h : DataW.trod enc P w base sp held fuel t cs = some (.agg (ss.map fun s => (DataW.lit (.string s) : DataW H)), p)) : cs = ss.map fun s => Value.string ⟨s.toArray⟩ := by
 cases fuel with
 | zero => simp [DataW.trod] at h
 | succ fuel =>
  simp only [DataW.trod, ht, hce, hct, Nat.mul_one] at h
  split at h
  ·rename_i hl
   obtain ⟨xs, hm, hx⟩ := Option.map_eq_some_iff.1 h
   have hxs : xs.map (·.1) = ss.map fun s => (DataW.lit (.string s) : DataW H) := by
    have := congrArg Prod.fst hx
    simpa using this
   have hxl : xs.length = n := by simpa using Lib.mapM_length hm
   have hzl : ss.length = n := by
    have := congrArg List.length hxs
    simp at this
    omega
   apply List.ext_getElem?
   intro i
   by_cases hi : i < n
   ·obtain ⟨b, hb, hf⟩ := Lib.mapM_at hm i i (by simp [hi])
    obtain ⟨z, hc, hbz, _⟩ := DataW.trod_string he hf
    subst hbz
    have h1 : cs[i]? = some (.string z) := by
     have := congrArg (·[0]?) hc
     simpa [List.getElem?_take, List.getElem?_drop] using this
    have h2 : (xs.map (·.1))[i]? = some (DataW.lit (.string z.data.toList) : DataW H) := by simp [hb]
    rw [hxs] at h2
    simp only [List.getElem?_map, Option.map_eq_some_iff, DataW.lit.injEq, Lit.string.injEq] at h2
    obtain ⟨z', hz', e2⟩ := h2
    subst e2
    simp [h1, hz']
   ·rw [List.getElem?_eq_none Ya, List.getElem?_eq_none Yh]
  ·cases h
def Quu : List (List UInt8) := [[], [121, 101, 115], [100, 111, 110, 101], [102, 117, 101, 108], [108, 97, 114, 103, 101], [102, 97, 117, 108, 116], [101, 110, 111, 117, 103, 104]]
theorem QfA.below {W W' : World} (g : QfA W) (hb : Below W.heap.size W W') : QfA W' := fun i hi => by
 have h := g i hi
 rw [hb.cell (Qq1 h)]; exact h
theorem QoQ {W : World} (h : laidMetH Tryz.prog Rows.topTermsRow.laid W) : QfA W := by
 have h0 := (laidMetH_iff.1 h).1
 have e : (Rows.topTermsRow.laid.filter fun x => x.2.handleName?.isNone) = Rows.topTermsRow.laid := by kernel_rfl
 rw [e] at h0
 have h6 := laidMet.tail (laidMet.tail (laidMet.tail (laidMet.tail (laidMet.tail (laidMet.tail h0)))))
 obtain ⟨ps, ⟨g', t', cs, fuel, p, q, hg', ht', hvar, hd, _, _⟩, _⟩ := h6
 have hg : Tryz.prog.globalNamed "querist/engine.words" = some 0 := by kernel_rfl
 have hty : (Tryz.prog.globals[0]?).map (·.type) = some 69 := by kernel_rfl
 obtain rfl := Option.some.inj (hg.symm.trans hg')
 obtain rfl := Option.some.inj (hty.symm.trans ht')
 have hc := Qkd (n := 7) (e := 9) (ss := Quu) Yc Tryz.underlying9 Yc Yc hd
 intro i hi
 have := World.var?_cell hg' hvar i
 rw [this]
 rw [← Array.getElem?_toList, hc]
 match i, hi with
 | 0, _ => rfl
 | 1, _ => rfl
 | 2, _ => rfl
 | 3, _ => rfl
 | 4, _ => rfl
 | 5, _ => rfl
 | 6, _ => rfl
theorem Qk2 {H : Type} {enc : TypeId × Value → H} {W : World} {base0 : Nat} {v : Value} {d : DataW H} {p : List MemPlace} (hv : Value.okWide Tryz.prog W .any base0 9 v) (h : DataW.Trod enc Tryz.prog W 0 (fun _ => true) true 9 v d p) :
  ∃ l : Str, v = sv l ∧ d = .lit (.string l) := by
 obtain ⟨s, rfl⟩ := okWide_string Tryz.underlying9 hv
 obtain ⟨fuel, hf⟩ := h
 obtain ⟨s', hc, hx, _⟩ := DataW.trod_string Tryz.underlying9 hf
 have hs : s = s' := by simpa [Value.cells] using hc
 subst hs
 simp only [Prod.mk.injEq] at hx
 obtain ⟨rfl, _⟩ := hx
 exact ⟨s.data.toList, by cases s; simp [sv], rfl⟩
theorem Qk3 {H : Type} {enc : TypeId × Value → H} {W : World} {base0 : Nat} {v : Value} {d : DataW H} {p : List MemPlace} (hv : Value.okWide Tryz.prog W .any base0 3 v) (h : DataW.Trod enc Tryz.prog W 0 (fun _ => true) true 3 v d p) :
  ∃ n : Int, v = .int .i64 n ∧ d = .lit (.int .i64 n) ∧ p = [] ∧ (-9223372036854775808 ≤ n ∧ n ≤ 9223372036854775807) := by
 obtain ⟨a, rfl, rfl, h3, h4⟩ := open_int Tryz.underlying3 hv h
 refine ⟨a, rfl, rfl, h3, ?_⟩
 simp [Lit.wf, IntKind.min, IntKind.max, IntKind.bits, IntKind.signed] at h4
 omega
def Qba (cs : Array Value) : Obj → Obj
 | .cells _ t frozen => .cells cs t frozen
 | o => o
def Qq2 : DataW Unit → Value
 | .lit (.int k z) => .int k z
 | .lit (.string s) => .string ⟨s.toArray⟩
 | _ => .pointer none
def QrX : DataW Unit → Array Value
 | .agg ds => (ds.map Qq2).toArray
 | _ => #[]
def Qvd : ByteArray := ⟨#[105, 110, 118, 97, 108, 105, 100, 32, 115, 121, 110, 116, 97, 120]⟩
def Qvf : ByteArray := ⟨#[118, 97, 108, 117, 101, 32, 111, 117, 116, 32, 111, 102, 32, 114, 97, 110, 103, 101]⟩
noncomputable def Qvi : Nat := (World.holding Tryz.prog default ⟨#[], #[], []⟩).heap.size
noncomputable def Qsw (h : Array Obj) : Array Obj :=
 ((((((((h.modify 3 (Qba (Go.Pinned.utf8FirstZ.map fun (x : Nat) => Value.int .u8 (x : Int)).toArray)).modify 4 (Qba (([128, 191, 160, 191, 128, 159, 144, 191, 128, 143] ++ List.replicate 22 (0 : Int)).map fun x => Value.int .u8 x).toArray)).modify 2 (Qba (QrX Rows.laid_internal_strconv_uint64pow10))).modify 5
   (Qba #[.iface 301 (.pointer (some ⟨Qvi, 0, none⟩))])).modify 6 (Qba #[.iface 301 (.pointer (some ⟨Qvi + 1, 0, none⟩))])).modify 7 (Qba (QrX Rows.laid_math_bits_deBruijn32tab))).modify 8 (Qba (QrX Rows.laid_math_bits_deBruijn64tab))).modify 0 (Qba (QrX Rows.laid_querist_engine_words)))
noncomputable def QmD (os : Os) : World :=
 { World.holding Tryz.prog os ⟨#[.cells #[.string Qvd] 303, .cells #[.string Qvf] 303], #[], []⟩ with heap := Qsw (World.holding Tryz.prog os ⟨#[.cells #[.string Qvd] 303, .cells #[.string Qvf] 303], #[], []⟩).heap }
theorem Qsk (os : Os) : laidMet Tryz.prog Rows.topTermsRow.laid ((QmD os).forCall (fun _ _ => 0) ⟨#[], #[.string .empty, .string .empty, .int .i64 0, .int .i64 0], []⟩).memory :=
 laidMet_of_run' 8 Yc Yc
end Go.Proofs.YthliapbflkfdiacGreatDoor
