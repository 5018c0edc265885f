/- Steps of the proof. -/
import Derived.Test.YthliapbflkfdiacGreatDoorG23
namespace Go.Proofs.YthliapbflkfdiacGreatDoor
open Go.RowKit
set_option linter.unusedVariables false
set_option linter.unusedSimpArgs false
inductive QiD (L : List HC) : Nat → Int → Int → Prop
 | refl {a : Int} : QiD L 0 a a
 | step {n : Nat} {a b : Int} {c : HC} : hat L a = some c → c.k = 0 → c.n ≠ a → QiD L n c.n b → QiD L (n + 1) a b
theorem QiD.trans {L : List HC} {n m : Nat} {a b c : Int} (h : QiD L n a b) (g : QiD L m b c) : QiD L (n + m) a c := by
 induction h with
 | refl => rw [Nat.zero_add]; exact g
 | @step n a b d h1 h2 h3 h4 ih => rw [show n + 1 + m = (n + m) + 1 by omega]; exact .step h1 h2 h3 (ih g)
theorem QiD.ends {L : List HC} {n : Nat} {a b : Int} (h : QiD L n a b) {x : Int} : End L a x ↔ End L b x := by
 induction h with
 | refl => exact Iff.rfl
 | step h1 h2 h3 h4 ih =>
  rw [← ih]
  constructor
  ·rintro ⟨m, hm⟩
   cases hm with
   | here g0 g1 => rw [h1] at g0; cases g0; exact absurd ⟨h2, h3⟩ g1
   | there g0 g1 g2 g3 => rw [h1] at g0; cases g0; exact ⟨_, g3⟩
  ·rintro ⟨m, hm⟩; exact ⟨m + 1, .there h1 h2 h3 hm⟩
theorem QiD.look {L : List HC} {n : Nat} {a b : Int} (h : QiD L n a b) : Qr L a = Qr L b := by
 by_cases he : ∃ x, End L b x
 ·obtain ⟨x, hx⟩ := he
  rw [hx.look, (h.ends.2 hx).look]
 ·rw [Qf7 he, Qf7 fun ⟨x, hx⟩ => he ⟨x, h.ends.1 hx⟩]
theorem QiD.endsN {L : List HC} {n m : Nat} {a b x : Int} (h : QiD L n a b) (g : Qco L m b x) : Qco L (n + m) a x := by
 induction h with
 | refl => rw [Nat.zero_add]; exact g
 | @step n a b d h1 h2 h3 h4 ih => rw [show n + 1 + m = (n + m) + 1 by omega]; exact .there h1 h2 h3 (ih g)
theorem QiD.round {L : List HC} {n : Nat} {a : Int} (h : QiD L (n + 1) a a) : Qr L a = -1 := by
 refine Qf7 fun ⟨x, m, hm⟩ => ?_
 have := ((h.endsN hm).det hm).1
 omega
theorem Qjg {L : List HC} {a : Int} {c : HC} (h : hat L a = some c) (hb : ¬ (c.k = 0 ∧ c.n ≠ a)) : Qr L a = a := End.look ⟨0, .here h hb⟩
def QrX (L : List HC) (P : List Int) : Prop := P.length = L.length ∧ ∀ (i : Nat) (v : Int), P[i]? = some v → v = -2 ∨ v = Qr L (i : Int)
def Qkw (L : List HC) (P : List Int) (a e : Int) : Prop := P.length = L.length ∧ (∃ n, QiD L n a e) ∧ ∀ (i : Nat) (v : Int), P[i]? = some v → v = -2 ∨ v = Qr L (i : Int) ∨ (v = -1 ∧ (∃ n, QiD L n a (i : Int)) ∧ ∃ n, QiD L (n + 1) (i : Int) e)
theorem QrX.mid {L : List HC} {P : List Int} (h : QrX L P) (a : Int) : Qkw L P a a := ⟨h.1, ⟨0, .refl⟩, fun i v hv => (h.2 i v hv).imp id .inl⟩
theorem Qkw.next {L : List HC} {P : List Int} {a e : Int} {c : HC} (h : Qkw L P a e) (he : hat L e = some c) (hk : c.k = 0) (hn : c.n ≠ e) : Qkw L (P.set e.toNat (-1)) a c.n := by
 obtain ⟨n, hw⟩ := h.2.1
 have h1 : QiD L 1 e c.n := .step he hk hn .refl
 refine ⟨by rw [List.length_set]; exact h.1, ⟨n + 1, hw.trans h1⟩, fun i v hv => ?_⟩
 rw [List.getElem?_set] at hv
 split at hv
 ·rename_i hi
  split at hv
  ·simp only [Option.some.injEq] at hv
   have e0 := (Qba.1 he).1
   rw [show ((i : Nat) : Int) = e by omega]
   exact .inr (.inr ⟨hv.symm, ⟨n, hw⟩, 0, h1⟩)
  ·cases hv
 ·rcases h.2.2 i v hv with h2 | h2 | ⟨h2, h3, m, h4⟩
  ·exact .inl h2
  ·exact .inr (.inl h2)
  ·exact .inr (.inr ⟨h2, h3, m + 1, h4.trans h1⟩)
theorem Qkw.known {L : List HC} {P : List Int} {a e : Int} {v : Int} (h : Qkw L P a e) (e0 : 0 ≤ e) (hv : P[e.toNat]? = some v) (hne : v ≠ -2) : v = Qr L a := by
 obtain ⟨n, hw⟩ := h.2.1
 rw [hw.look]
 have ee : ((e.toNat : Nat) : Int) = e := by omega
 rcases h.2.2 e.toNat v hv with h2 | h2 | ⟨h2, _, m, h4⟩
 ·exact absurd h2 hne
 ·rw [ee] at h2; exact h2
 ·rw [ee] at h4; rw [h4.round]; exact h2
theorem Qkw.nowhere {L : List HC} {P : List Int} {a e : Int} (h : Qkw L P a e) (hn : Qr L a < 0) : QrX L P := by
 obtain ⟨n, hw⟩ := h.2.1
 have hm : Qr L a = -1 := by
  rcases QcS (L := L) L.length a with h1 | ⟨c, h1, _⟩
  ·exact h1
  ·have := (Qba.1 h1).1; unfold Qr at hn; omega
 refine ⟨h.1, fun i v hv => ?_⟩
 rcases h.2.2 i v hv with h2 | h2 | ⟨h2, ⟨m, h3⟩, _⟩
 ·exact .inl h2
 ·exact .inr h2
 ·right; rw [h2, ← h3.look, hm]
theorem Qkw.told {L : List HC} {P : List Int} {a e : Int} {c : HC} (h : Qkw L P a e) (he : hat L e = some c) (hb : ¬ (c.k = 0 ∧ c.n ≠ e)) : Qkw L (P.set e.toNat e) a e := by
 refine ⟨by rw [List.length_set]; exact h.1, h.2.1, fun i v hv => ?_⟩
 rw [List.getElem?_set] at hv
 split at hv
 ·rename_i hi
  split at hv
  ·simp only [Option.some.injEq] at hv
   have e0 := (Qba.1 he).1
   rw [show ((i : Nat) : Int) = e by omega]
   exact .inr (.inl (by rw [Qjg he hb]; exact hv.symm))
  ·cases hv
 ·exact h.2.2 i v hv
theorem Qkw.fin {L : List HC} {P : List Int} {e : Int} (h : Qkw L P e e) (hn : ¬ Qr L e < 0) : QrX L P := by
 refine ⟨h.1, fun i v hv => ?_⟩
 rcases h.2.2 i v hv with h2 | h2 | ⟨h2, ⟨m, h3⟩, k, h4⟩
 ·exact .inl h2
 ·exact .inr h2
 ·have := (h3.trans h4)
  rw [show m + (k + 1) = (m + k) + 1 by omega] at this
  rw [this.round] at hn; exact absurd Yg hn
theorem Qkw.tell {L : List HC} {P : List Int} {a e : Int} {c : HC} (h : Qkw L P a e) (hne : a ≠ e) (ha : hat L a = some c) : c.k = 0 ∧ c.n ≠ a ∧ Qkw L (P.set a.toNat (Qr L a)) c.n e := by
 obtain ⟨n, hw⟩ := h.2.1
 cases hw with
 | refl => exact absurd rfl hne
 | step h1 h2 h3 h4 =>
  rw [ha] at h1; cases h1
  refine ⟨h2, h3, by rw [List.length_set]; exact h.1, ⟨_, h4⟩, fun i v hv => ?_⟩
  have a0 := (Qba.1 ha).1
  rw [List.getElem?_set] at hv
  split at hv
  ·rename_i hi
   split at hv
   ·simp only [Option.some.injEq] at hv
    rw [show ((i : Nat) : Int) = a by omega]
    exact .inr (.inl hv.symm)
   ·cases hv
  ·rename_i hi
   rcases h.2.2 i v hv with g | g | ⟨g, ⟨m, g3⟩, k, g4⟩
   ·exact .inl g
   ·exact .inr (.inl g)
   ·refine .inr (.inr ⟨g, ?_, k, g4⟩)
    cases g3 with
    | refl => omega
    | step q1 q2 q3 q4 => rw [ha] at q1; cases q1; exact ⟨_, q4⟩
theorem count_set {P : List Int} {i : Nat} {x : Int} (hi : P[i]? = some (-2)) (hx : x ≠ -2) : (P.set i x).count (-2) < P.count (-2) := by
 have hl : i < P.length := by
  rcases Nat.lt_or_ge i P.length with h | h
  ·exact h
  ·rw [List.getElem?_eq_none h] at hi; cases hi
 have e : P[i] = -2 := by rw [List.getElem?_eq_getElem hl] at hi; simpa using hi
 rw [List.count_set hl, e]
 have hpos : 0 < P.count (-2) := List.count_pos_iff.2 (by rw [← e]; exact List.getElem_mem hl)
 simp [hx]
 omega
set_option maxRecDepth 100000
set_option maxHeartbeats 1000000
abbrev iob (P : List Int) : Obj := .cells (Qm P).toArray 3
abbrev bob (A : Option Addr) (n c : Nat) (B : Option Addr) (m d pb np : Nat) (nodes most : Int) : Obj := .cells [.slice A n c, .slice B m d, .slice (some ⟨pb, 0, none⟩) np np, .int .i64 nodes, .int .i64 most].toArray 196
theorem Qfo (P : List Int) (i : Nat) (x : Int) (h : i < P.length) : Put (Qm P) i (.int .i64 x) (Qm (P.set i x)) := by
 have := QhC (l := Qm P) (v := .int .i64 x) (i := i) (by simpa [Qm] using h)
 rwa [show (Qm P).set i (.int .i64 x) = Qm (P.set i x) by simp [Qm, List.map_set]] at this
section
variable {M : List Nat} {w0 : World} {H : List (Nat × Obj)} {F : List (World → Prop)} {bb pb c m d : Nat} {A B : Option Addr} {L : List HC} {nodes most : Int}
theorem Qk8 {P : List Int} {o : Obj} {H' : List (Nat × Obj)} {F' : List (World → Prop)} {w' : World} (hS : St M w0 ((bb, o) :: (pb, iob P) :: H') F' w') {i : Int} {v : Int} (h0 : 0 ≤ i) (hv : P[i.toNat]? = some v) : w'.cell? ⟨pb, 0 + i.toNat * 1, none⟩ = some (.int .i64 v) := by
 have ho := hS.own (pb, _) (.tail _ (.head _))
 rw [Qu ho]
 simp [Qm, hv]
theorem QuN {P : List Int} {i : Nat} (h : i < P.length) : ∃ v, P[i]? = some v := ⟨P[i], List.getElem?_eq_getElem h⟩
theorem Qrl (P : List Int) (a : Int) (w : World) (hL : Und F (Qz 3 (Q6 L) A L.length c)) (hg : QO L.length L = true) (hl : L.length ≤ 65536) (ha : Qj L a = true) (hP : QrX L P)
  (hS : St M w0 ((bb, bob A L.length c B m d pb P.length nodes most) :: (pb, iob P) :: H) F w) :
  Calls Tryz.prog 188 #[QnD bb, .int .i64 a] w fun e w' => e = .returned (.int .i64 (Qr L a)) ∧ ∃ P', QrX L P' ∧ St M w0 ((bb, bob A L.length c B m d pb P'.length nodes most) :: (pb, iob P') :: H) F w' := by
 have ha' := Qcf.1 ha
 have hadr : ∀ {e : Int} {x : HC}, hat L e = some x → x.k = 0 → Qj L x.n = true := fun h hk => by
  have := QgV hg h hk
  unfold Qj; simp [this]
 have hpl := hP.1
 refine Qg Tryz.func188 rfl Tryz.ntmps188 rfl ?_
 refine Zj ?_
 refine ZQ ?_
 refine Zap ?_
 refine QsP 5 (8 :: 9 :: 10 :: 11 :: 12 :: 13 :: 14 :: 15 :: 16 :: 17 :: 18 :: 19 :: 20 :: 21 :: 22 :: 23 :: 24 :: 25 :: 26 :: 27 :: 28 :: 29 :: 30 :: 31 :: 32 :: 33 :: 34 :: 35 :: 36 :: 37 :: 38 :: 39 :: 40 :: 41 :: 42 :: 43 :: 44 :: []) (fun v w' => ∃ (e : Int) (P' : List Int), v = .int .i64 e ∧ Qj L e = true ∧ Qkw L P' a e ∧ P'[e.toNat]? = some (Qr L a) ∧ St M w0 ((bb, bob A L.length c B m d pb P.length nodes most) :: (pb, iob P') :: H) F w') ?_ ?_
 ·intro hmeet
  refine Qo 5 (8 :: 9 :: 10 :: 11 :: 12 :: 13 :: 14 :: 15 :: 16 :: 17 :: 18 :: 19 :: 20 :: 21 :: 22 :: 23 :: 24 :: 25 :: 26 :: 27 :: 28 :: 29 :: 30 :: 31 :: 32 :: 33 :: 34 :: 35 :: 36 :: 37 :: 38 :: 39 :: 40 :: 41 :: 42 :: 43 :: 44 :: []) (fun (P' : List Int) v w' => ∃ e : Int, v = .int .i64 e ∧ Qj L e = true ∧ Qkw L P' a e ∧ St M w0 ((bb, bob A L.length c B m d pb P.length nodes most) :: (pb, iob P') :: H) F w') (fun P' => P'.count (-2)) (P) ?_ Yb ?_
  ·exact ⟨a, rfl, ha, hP.mid a, hS⟩
  clear hS
  rintro P' _ w2 jv ⟨e, rfl, he, hM, hS⟩ ih
  obtain ⟨x, hx⟩ := Qcf.1 he
  obtain ⟨e0, e1, hgx⟩ := QcD hx
  have hpl' := hM.1
  obtain ⟨v, hv⟩ := QuN (P := P') (i := e.toNat) Ya
  have hpa : ∀ {o H' F'} w', St M w0 ((bb, o) :: (pb, iob P') :: H') F' w' → w'.cell? ⟨pb, 0 + e.toNat * 1, none⟩ = some (.int .i64 v) := fun w' hS => Qk8 hS e0 hv
  by_cases hu : v = -2
  case neg =>
   refine Zw ?_
   refine ZbG ?_
   refine Zdi ?_
   refine Zn ?_
   refine Zbp ?_
   have hk := hM.known e0 hv hu
   exact hmeet _ _ _ ⟨e, P', rfl, he, hM, by rw [hv, hk], hS⟩ Yb Yc
  subst hu
  refine Zw ?_
  refine ZbG ?_
  refine Zdi ?_
  refine Zn ?_
  refine ZC ?_
  refine Zb2 ?_
  refine Zw ?_
  refine Zal ?_
  refine ZfE ?_
  refine Z3 ?_
  refine Calls.mono (QlT L A B c m d e x _ (hS.und hL) hx) ?_
  rintro _ w3 ⟨rfl, hb3⟩
  refine Za ?_
  replace hS := hS.grow hb3
  by_cases hb : x.k = 0 ∧ x.n ≠ e
  case neg =>
   rw [decide_eq_false hb]
   have hput := Qfo P' e.toNat e Ya
   refine Zbl ?_
   refine ZZ ?_
   refine Zaw ?_
   refine Zdy ?_
   refine Ze ?_
   refine ZaW ?_
   refine ZcM ?_
   clear hS
   intro w6 hS
   refine Zb ?_
   refine Zbf ?_
   refine hmeet _ _ _ ⟨e, P'.set e.toNat e, rfl, he, hM.told hx hb, ?_, hS⟩ Yb Yc
   obtain ⟨n, hw⟩ := hM.2.1
   rw [hw.look, Qjg hx hb, List.getElem?_set_self Ya]
  rw [decide_eq_true hb]
  obtain ⟨b', o', rfl⟩ := (hS.und hL).some_ Ya
  have hcc : ∀ {H'} w', St M w0 H' F w' → _ := fun w' hS => (hS.und hL).cell hgx
  have hput := Qfo P' e.toNat (-1) Ya
  refine ZV ?_
  refine ZZ ?_
  refine Zaw ?_
  refine Zbk ?_
  refine ZM ?_
  refine ZcM ?_
  clear hS
  intro w6 hS
  refine Zcp ?_
  refine Zal ?_
  refine ZeO ?_
  refine ZE ?_
  refine ZF ?_
  refine Zc ?_
  refine ZaH ?_
  refine ih (P'.set e.toNat (-1)) _ _ _ ?_ ?_ Yb Yc
  ·exact count_set hv Yg
  ·exact ⟨x.n, rfl, hadr hx hb.1, hM.next hx hb.1 hb.2, hS⟩
 clear hS
 rintro jv _ w2 ⟨e, P1, rfl, he, hM, hv, hS⟩
 obtain ⟨x, hx⟩ := Qcf.1 he
 obtain ⟨e0, e1, hgx⟩ := QcD hx
 have hpl' := hM.1
 have hpa : ∀ {o H' F'} w', St M w0 ((bb, o) :: (pb, iob P1) :: H') F' w' → w'.cell? ⟨pb, 0 + e.toNat * 1, none⟩ = some (.int .i64 (Qr L a)) := fun w' hS => Qk8 hS e0 hv
 by_cases hn : Qr L a < 0
 ·have hm : Qr L a = -1 := by
   rcases QcS (L := L) L.length a with h1 | ⟨c, h1, _⟩
   ·exact h1
   ·have := (QcD h1).1; unfold Qr at hn; omega
  refine ZZ ?_
  refine Zaw ?_
  refine Zdi ?_
  refine Zck ?_
  refine Zae ?_
  refine Qc Tryz.func188 rfl Yb ?_
  refine ⟨by rw [hm], P1, hM.nowhere hn, ?_⟩
  rw [show P1.length = P.length by omega]; exact hS
 refine ZZ ?_
 refine Zaw ?_
 refine Zdi ?_
 refine Zcs ?_
 refine Zap ?_
 obtain ⟨n, hw⟩ := hM.2.1
 refine Qo 1 (54 :: 55 :: 56 :: 66 :: 67 :: 68 :: 69 :: 70 :: 71 :: 72 :: 57 :: 58 :: 59 :: 60 :: 61 :: 62 :: 63 :: 64 :: 65 :: []) (fun (k : Nat) v w' => ∃ (a' : Int) (P' : List Int), v = .int .i64 a' ∧ Qj L a' = true ∧ Qr L a' = Qr L a ∧ QiD L k a' e ∧ Qkw L P' a' e ∧ St M w0 ((bb, bob A L.length c B m d pb P.length nodes most) :: (pb, iob P') :: H) F w') (fun k => k) (n) ?_ Yb ?_
 ·exact ⟨a, P1, rfl, ha, rfl, hw, hM, hS⟩
 clear hS
 rintro k _ w3 jv2 ⟨a', P', rfl, ha2, hla, hwk, hM', hS⟩ ih
 obtain ⟨y, hy⟩ := Qcf.1 ha2
 obtain ⟨a0, a1, hgy⟩ := QcD hy
 have hpl2 := hM'.1
 by_cases hae : a' = e
 ·subst hae
  refine Zc4 ?_
  refine Zy ?_
  refine Zbp ?_
  refine ZQ ?_
  refine Qc Tryz.func188 rfl Yb ?_
  refine ⟨rfl, P', hM'.fin (by rw [hla]; exact hn), ?_⟩
  rw [show P'.length = P.length by omega]; exact hS
 obtain ⟨hyk, hyn, hM2⟩ := hM'.tell hae hy
 rw [hla] at hM2
 obtain ⟨b', o', rfl⟩ := (hS.und hL).some_ Ya
 have hcc : ∀ {H'} w', St M w0 H' F w' → _ := fun w' hS => (hS.und hL).cell hgy
 have hput := Qfo P' a'.toNat (Qr L a) Ya
 refine Zc4 ?_
 refine Zy ?_
 refine ZC ?_
 refine ZeG ?_
 refine ZU ?_
 refine ZbG ?_
 refine Zbk ?_
 refine ZaW ?_
 refine ZcM ?_
 clear hS
 intro w6 hS
 refine Zb ?_
 refine ZaH ?_
 refine ZU ?_
 refine Zal ?_
 refine ZeO ?_
 refine ZE ?_
 refine ZF ?_
 refine Zc ?_
 cases hwk with
 | refl => exact absurd rfl hae
 | @step n' _ _ c' q1 q2 q3 q4 =>
  rw [hy] at q1; cases q1
  refine ih n' _ _ _ ?_ ?_ Yb Yc
  ·omega
  ·exact ⟨y.n, _, rfl, hadr hy hyk, by rw [← hla]; exact (QiD.step hy hyk hyn .refl).look.symm, q4, hM2, hS⟩
end
def zLT : LT := ⟨0, 0, eS, none, 0, .nil⟩
theorem Qpw (w : World) : LRd zLT w := ⟨Nat.le_refl _, fun h => by simp [zLT, TA.len] at h⟩
def Qvl (F' : List (World → Prop)) (e : Ending) (most nd : Int) : Option (Tm × Nat) → Prop
 | none => e = .returned (.tuple #[tv zLT, .bool false])
 | some (u, l) => ∃ u' : LT, u'.tm = u ∧ Und F' (LRd u') ∧ nd = most - (l : Nat) ∧ e = .returned (.tuple #[tv u', .bool true])
def QrS (f : Nat) : Prop := ∀ (M : List Nat) (w0 : World) (H : List (Nat × Obj)) (F : List (World → Prop)) (bb pb c m d : Nat) (A B : Option Addr) (L : List HC) (P : List Int) (a nodes most : Int) (l : Nat) (w : World),
 Und F (Qz 3 (Q6 L) A L.length c) → QO L.length L = true → L.length ≤ 65536 → Qj L a = true → QrX L P → (most - nodes).toNat = l → l ≤ f → 0 ≤ nodes → most ≤ 65536 → nodes ≤ 65536 →
 St M w0 ((bb, bob A L.length c B m d pb P.length nodes most) :: (pb, iob P) :: H) F w →
  Calls Tryz.prog 143 #[QnD bb, .int .i64 a] w fun e w' => ∃ (F' : List (World → Prop)) (P' : List Int) (nd : Int), (∀ φ ∈ F, φ ∈ F') ∧ QrX L P' ∧ Qvl F' e most nd (Qgh L f a l) ∧ St M w0 ((bb, bob A L.length c B m d pb P'.length nd most) :: (pb, iob P') :: H) F' w'
theorem QoV (g : Int → Nat → Option (Tm × Nat)) (m : Nat) (a : Int) (l : Nat) : Qdp g (m + 1) a l = (g a l).bind fun p => (Qdp g m (a + 1) p.2).map fun q => (.cons p.1.k p.1.n p.1.s p.1.ar q.1, q.2) := rfl
theorem Qrh (f : Nat) (iht : ∀ f', f = f' + 1 → QrS f') : QrS f := by
 intro M w0 H F bb pb c m d A B L P a nodes most l w hL hg hl ha hP hnl hlf hn0 hm1 hn1 hS
 refine Qg Tryz.func143 rfl Tryz.ntmps143 rfl ?_
 refine Zg ?_
 refine ZX ?_
 clear hS
 intro b1 wx1 hS
 refine Zd0 ?_
 refine ZdL ?_
 replace hS := hS.drew
 refine Zc9 ?_
 refine ZB ?_
 refine Zad ?_
 refine Ze9 ?_
 refine ZB ?_
 first
  | refine Qd rfl (fun _ hS => Qhs rfl rfl Ya) rfl ?_
  | refine Qd rfl (fun _ hS => QiY rfl rfl Ya) rfl ?_
  | refine Qd rfl (fun _ hS => rfl) rfl ?_
 refine ZeJ ?_
 by_cases hge : most ≤ nodes
 ·have e : Qgh L f a l = none := by
   obtain rfl : l = 0 := by omega
   cases f with
   | zero => rfl
   | succ f => simp [Qgh]
  rw [e]
  rw [show decide (most ≤ nodes) = true from decide_eq_true hge]
  refine ZI ?_
  refine Zg ?_
  refine ZbH ?_
  clear hS
  intro wx2 hS
  refine ZcD ?_
  exact ⟨F, P, nodes, fun _ h => h, hP, rfl, hS.drop⟩
 rw [show decide (most ≤ nodes) = false from decide_eq_false hge]
 have hl0 : l ≠ 0 := by omega
 obtain ⟨f, rfl⟩ : ∃ f', f = f' + 1 := ⟨f - 1, by omega⟩
 have iht := iht f rfl
 refine ZR ?_
 refine Zag ?_
 refine ZZ ?_
 refine ZaQ ?_
 refine Zo ?_
 refine Zz ?_
 refine Zbj ?_
 refine Zt ?_
 clear hS
 intro wx2 hS
 refine Zb ?_
 refine Zac ?_
 refine Calls.mono (Qrl (nodes := nodes + 1) (most := most) P a _ hL hg hl ha hP (hS.perm (List.perm_append_comm_assoc [_] [_, _] _))) ?_
 rintro _ w2 ⟨rfl, P2, hP2, hS'⟩
 refine Za ?_
 replace hS := hS'
 clear hS'
 replace hS := hS.perm (List.perm_append_comm_assoc [_, _] [_] _)
 by_cases hneg : Qr L a < 0
 ·have e : Qgh L (f + 1) a l = none := QpQ hneg
  rw [e]
  refine Zck ?_
  refine ZC ?_
  refine Zg ?_
  refine ZbH ?_
  clear hS
  intro wx3 hS
  refine ZcD ?_
  exact ⟨F, P2, nodes + 1, fun _ h => h, hP2, rfl, hS.drop⟩
 obtain ⟨x, hx, _⟩ := QcR hneg
 obtain ⟨p0, p1, hgx⟩ := QcD hx
 rw [QjJ hl0 hx]
 generalize Qr L a = p at *
 obtain ⟨b', o', rfl⟩ := (hS.und hL).some_ Ya
 have hcc : ∀ {H'} w', St M w0 H' F w' → _ := fun w' hS => (hS.und hL).cell hgx
 have hgc := QP (Qak hg hx)
 by_cases k0 : x.k = 0
 ·rw [if_pos k0]
  refine Zcs ?_
  refine ZcB ?_
  refine Zb8 ?_
  clear hS
  intro b2 wx3 hS
  refine Zd ?_
  clear hS
  intro wx4 hS
  refine ZK ?_
  refine ZbK ?_
  refine Zbw ?_
  refine ZcU ?_
  refine Zm ?_
  refine Zb5 ?_
  clear hS
  intro wx5 hS
  refine ZcD ?_
  exact ⟨F, P2, nodes + 1, fun _ h => h, hP2, ⟨⟨0, p, eS, none, 0, .nil⟩, rfl, fun w _ => ⟨Nat.le_refl _, fun h => by simp [TA.len] at h⟩, by omega, rfl⟩, hS.drop.drop⟩
 by_cases k1 : x.k = 1
 ·rw [if_neg k0, if_pos k1]
  refine Zcs ?_
  refine ZcB ?_
  refine Zb8 ?_
  clear hS
  intro b2 wx3 hS
  refine Zd ?_
  clear hS
  intro wx4 hS
  refine ZK ?_
  refine ZbK ?_
  refine Zbw ?_
  refine Zar ?_
  refine ZcU ?_
  refine Zg ?_
  refine Zaw ?_
  refine ZF ?_
  refine Zb5 ?_
  clear hS
  intro wx5 hS
  refine ZcD ?_
  exact ⟨F, P2, nodes + 1, fun _ h => h, hP2, ⟨⟨1, 0, x.s, none, 0, .nil⟩, rfl, fun w _ => ⟨Nat.le_refl _, fun h => by simp [TA.len] at h⟩, by omega, rfl⟩, hS.drop.drop⟩
 by_cases k2 : x.k = 2
 ·rw [if_neg k0, if_neg k1, if_pos k2]
  refine Zcs ?_
  refine ZcB ?_
  refine Zb8 ?_
  clear hS
  intro b2 wx3 hS
  refine Zd ?_
  clear hS
  intro wx4 hS
  refine ZK ?_
  refine ZbK ?_
  refine Zbw ?_
  refine Zar ?_
  refine Zar ?_
  refine Zgj ?_
  refine ZF ?_
  refine Zb5 ?_
  clear hS
  intro wx5 hS
  refine ZcD ?_
  exact ⟨F, P2, nodes + 1, fun _ h => h, hP2, ⟨⟨2, x.n, eS, none, 0, .nil⟩, rfl, fun w _ => ⟨Nat.le_refl _, fun h => by simp [TA.len] at h⟩, by omega, rfl⟩, hS.drop.drop⟩
 rw [if_neg k0, if_neg k1, if_neg k2]
 have hA : (QI x).toNat = x.n.toNat := by unfold QI; rw [if_pos Ya]
 rw [hA]
 obtain ⟨k, hk⟩ : ∃ k : Nat, x.n = (k : Nat) := ⟨x.n.toNat, by omega⟩
 rw [hk, show ((k : Nat) : Int).toNat = k by omega]
 refine Zcs ?_
 refine ZcB ?_
 refine Zb8 ?_
 clear hS
 intro b2 wx3 hS
 refine Zd ?_
 clear hS
 intro wx4 hS
 refine ZK ?_
 refine ZbK ?_
 refine Zbw ?_
 refine Zar ?_
 refine Zar ?_
 refine Zar ?_
 refine ZbD ?_
 refine ZaB ?_
 refine ZF ?_
 refine QgP (k := k) (sz := 4) (bts := 56) hS (by rw [← hk]; conv => lhs; whnf) (by rw [← hk]; conv => lhs; whnf) rfl rfl Ya Ya rfl ?_
 clear hS
 intro g w3 cs hce hS
 refine ZbN ?_
 refine Qo 64 (65 :: 66 :: 9 :: 68 :: 69 :: 70 :: 71 :: 72 :: 73 :: 67 :: 74 :: 75 :: 10 :: 11 :: 76 :: 77 :: 78 :: 5 :: 79 :: 80 :: 81 :: 82 :: 83 :: []) (fun (j : Nat) v w' => ∃ (D' : TA) (rs : List Value) (li : Nat) (F' : List (World → Prop)) (P' : List Int) (nd : Int), D'.len + j = k ∧ rs.length = j * 4 ∧ v = .int .i64 (D'.len : Nat) ∧ li ≤ f ∧ nd = most - (li : Nat) ∧ nodes ≤ nd ∧ Qdp (Qgh L f) k (p + 1) (l - 1) = (Qdp (Qgh L f) j (p + 1 + (D'.len : Nat)) li).map (fun q => (D'.ts.app q.1, q.2)) ∧ (∀ φ ∈ F, φ ∈ F') ∧ Und F' (QrY D') ∧ QrX L P' ∧ St M w0 ((g, .cells (Qmk D' ++ rs).toArray 63) :: (b2, .cells (hcs x).toArray 104) :: (b1, .cells [.int .i64 0, .int .i64 0, .string eS, .slice none 0 0].toArray 63) :: (bb, bob (some ⟨b', o', none⟩) L.length c B m d pb P'.length nd most) :: (pb, iob P') :: H) F' w') (fun j => j) (k) ?_ Yb ?_
 ·exact ⟨.nil, cs, l - 1, F, P2, nodes + 1, by simp [TA.len], hce, rfl, by omega, by omega, by omega, (by show Qdp (Qgh L f) k (p + 1) (l - 1) = (Qdp (Qgh L f) k (p + 1 + ((0 : Nat) : Int)) (l - 1)).map _; rw [show p + 1 + ((0 : Nat) : Int) = p + 1 by omega]; cases Qdp (Qgh L f) k (p + 1) (l - 1) <;> rfl), fun _ h => h, fun _ _ => trivial, hP2, hS⟩
 clear hS
 rintro j _ w6 jv ⟨D', rs, li, F', P', nd, hDm, hrs, rfl, hli, hnd, hnn, hvm, hFF', hAR, hP', hS⟩ ih
 have hD4 := Qnm D'
 cases j with
 | zero =>
  obtain rfl : rs = [] := List.eq_nil_of_length_eq_zero (by simpa using hrs)
  have hvm2 : Qdp (Qgh L f) k (p + 1) (l - 1) = some (D'.ts, li) := by
   rw [hvm]
   show some (D'.ts.app .nil, li) = _
   rw [Ts.app_nil]
  have hDl : D'.len = k := by omega
  rw [hvm2]
  refine ZL ?_
  refine Zg ?_
  refine Zaw ?_
  refine Zbk ?_
  refine Zfx ?_
  refine Zd ?_
  clear hS
  intro wx5 hS
  refine ZcD ?_
  replace hS := (hS.swap.drop).swap.drop.freeze
  refine ⟨_, P', nd, fun φ h => .tail _ (hFF' φ h), hP', ⟨⟨3, 0, x.s, some ⟨g, 0, none⟩, k, D'⟩, rfl, fun w hw => ⟨by show D'.len ≤ k; omega, fun _ => ⟨g, 0, rfl, ?_⟩⟩, hnd, ?_⟩, hS⟩
  ·refine QpY (hAR w fun φ hφ => hw φ (.tail _ hφ)) fun j x hj => ?_
   have hg := hw _ (.head _)
   rw [Qu hg, Nat.zero_add, List.append_nil]; exact hj
  ·dsimp only [tv]; rw [hDl]
 | succ j =>
  obtain ⟨r0, r1, r2, r3, rs, rfl⟩ : ∃ r0 r1 r2 r3 rs', rs = [r0, r1, r2, r3] ++ rs' := by
   match rs, hrs with
   | r0 :: r1 :: r2 :: r3 :: rs', _ => exact ⟨r0, r1, r2, r3, rs', rfl⟩
   | [], h => simp at h
   | [_], h => simp at h; omega
   | [_, _], h => simp at h; omega
   | [_, _, _], h => simp at h; omega
  rw [QoV] at hvm
  have hadr : Qj L (p + 1 + ((D'.len : Nat) : Int)) = true := by
   unfold Qj; simp; omega
  have hcall := iht M w0 ((g, .cells (Qmk D' ++ ([r0, r1, r2, r3] ++ rs)).toArray 63) :: (b2, .cells (hcs x).toArray 104) :: (b1, .cells [.int .i64 0, .int .i64 0, .string eS, .slice none 0 0].toArray 63) :: H) F' bb pb c m d (some ⟨b', o', none⟩) B L P' (p + 1 + ((D'.len : Nat) : Int)) nd most li
  cases hap : Qgh L f (p + 1 + ((D'.len : Nat) : Int)) li with
  | none =>
   rw [hap, Option.bind_none, Option.map_none] at hvm
   rw [hvm]
   rw [hap] at hcall
   refine ZaY ?_
   refine Zbs ?_
   refine ZbO ?_
   refine Zf ?_
   refine ZfR ?_
   rintro _ w7 ⟨F2, P3, nd2, hF2, hP3, rfl, hS'⟩
   refine Za ?_
   replace hS := hS'
   clear hS'
   replace hS := hS.perm (List.perm_append_comm_assoc [_, _] [_, _, _] _)
   refine Zdo ?_
   clear hS
   intro b3 wx5 hS
   refine Zd ?_
   clear hS
   intro wx6 hS
   refine ZA ?_
   refine Za1 ?_
   refine ZbH ?_
   clear hS
   intro wx7 hS
   refine ZcD ?_
   exact ⟨F2, P3, nd2, fun φ h => hF2 φ (hFF' φ h), hP3, rfl, hS.drop.drop.drop.drop⟩
  | some q =>
   obtain ⟨q1, lq⟩ := q
   have hlq := Qd7 _ _ _ _ hap
   dsimp only at hlq
   rw [hap, Option.bind_some] at hvm
   rw [hap] at hcall
   refine ZaY ?_
   refine Zbs ?_
   refine ZbO ?_
   refine Zf ?_
   refine ZfR ?_
   rintro _ w7 ⟨F2, P3, nd2, hF2, hP3, ⟨u2, hu2, hru2, hnd2, rfl⟩, hS'⟩
   refine Za ?_
   replace hS := hS'
   clear hS'
   replace hS := hS.perm (List.perm_append_comm_assoc [_, _] [_, _, _] _)
   refine Zdo ?_
   clear hS
   intro b3 wx5 hS
   refine Zd ?_
   clear hS
   intro wx6 hS
   refine ZA ?_
   refine ZV ?_
   refine Z1 ?_
   first
    | refine Qa (Qb (k := 4) hS rfl rfl rfl (by first | exact .head | exact .tail .head | exact .tail (.tail .head) | exact .tail (.tail (.tail .head)) | exact .tail (.tail (.tail (.tail .head))) | exact .tail (.tail (.tail (.tail (.tail .head))))) Yf) rfl ?_
    | refine Qa (Qb (k := 4) hS rfl rfl rfl (by first | exact .head | exact .tail .head | exact .tail (.tail .head) | exact .tail (.tail (.tail .head)) | exact .tail (.tail (.tail (.tail .head))) | exact .tail (.tail (.tail (.tail (.tail .head))))) Ye) rfl ?_
    | refine Qa (Qbl rfl rfl rfl (by first | assumption | exact (hcc _ hS).1 | exact (hcc _ hS).2.1 | exact (hcc _ hS).2.2 | exact hS.cell0 Ye) (by first | assumption | exact (hcc _ hS).1 | exact (hcc _ hS).2.1 | exact (hcc _ hS).2.2 | exact hS.cell0 Ye) (by first | assumption | exact (hcc _ hS).1 | exact (hcc _ hS).2.1 | exact (hcc _ hS).2.2 | exact hS.cell0 Ye) (by first | assumption | exact (hcc _ hS).1 | exact (hcc _ hS).2.1 | exact (hcc _ hS).2.2 | exact hS.cell0 Ye)) rfl ?_
   refine ZaS ?_
   refine ZfS ?_
   clear hS
   intro w8 hS
   refine Zam ?_
   refine ih (j) _ _ _ ?_ ?_ Yb Yc
   ·omega
   ·refine ⟨D'.app (.cons u2.k u2.n u2.s u2.A u2.c u2.ar .nil), rs, lq, F2, P3, nd2, by rw [TA.len_app]; simp only [TA.len]; omega, by simp at hrs; omega, by rw [TA.len_app]; rfl, by omega, hnd2, by omega, ?_, fun φ h => hF2 φ (hFF' φ h), ?_, hP3, ?_⟩
    ·rw [hvm, Option.map_map, TA.app_ts, TA.len_app]
     rw [show p + 1 + ((D'.len + (TA.cons u2.k u2.n u2.s u2.A u2.c u2.ar .nil).len : Nat) : Int) = p + 1 + ((D'.len : Nat) : Int) + 1 by simp only [TA.len]; omega]
     congr 1
     funext z
     show (D'.ts.app (.cons q1.k q1.n q1.s q1.ar z.1), z.2) = ((D'.ts.app (.cons u2.k u2.n u2.s u2.ar.ts .nil)).app z.1, z.2)
     rw [← hu2, Ts.app_assoc]; rfl
    ·exact fun w hw => QrY.app (U := .cons u2.k u2.n u2.s u2.A u2.c u2.ar .nil) ⟨hru2 w hw, trivial⟩ ((hAR.mono hF2) w hw)
    ·rw [Qnn, List.append_assoc]
     exact hS.drop
theorem Qri : ∀ f, QrS f
 | 0 => Qrh 0 fun f' h => by omega
 | f + 1 => Qrh (f + 1) fun f' h => by
  obtain rfl : f = f' := by omega
  exact Qri f
section
variable {M : List Nat} {w0 : World} {H : List (Nat × Obj)} {F : List (World → Prop)}
theorem QpT (h : HH) (a most : Int) (A B : Option Addr) (c d : Nat) (w : World) (hH : Und F (HFl h A c B d)) (hS : St M w0 H F w) :
  Calls Tryz.prog 91 #[hv h A c B d, .int .i64 a, .int .i64 most] w fun e w' => ∃ (t : LT) (F' : List (World → Prop)), e = .returned (.tuple #[tv t, .int .i64 ((Qbg h a most).2.1 : Nat), .int .i64 (Qbg h a most).2.2]) ∧ t.tm = (Qbg h a most).1 ∧ (∀ φ ∈ F, φ ∈ F') ∧ Und F' (LRd t) ∧ St M w0 H F' w' := by
 have hL : Und F (Qz 3 (Q6 h.cs) A h.cs.length c) := hH.imp fun _ h => h.1
 refine Q2 Tryz.func91 rfl Tryz.ntmps91 rfl ?_
 refine Zi ?_
 clear hS
 intro b1 wx1 hS
 refine ZX ?_
 clear hS
 intro b2 wx2 hS
 refine Zl ?_
 refine Zbd ?_
 refine Zbv ?_
 refine Zdj ?_
 rintro _ w2 ⟨rfl, hb2⟩
 refine Za ?_
 replace hS := hS.grow hb2
 cases hg : QF h with
 | false =>
  have e0 : Qbg h a most = (Qet, 0, 1) := by unfold Qbg; rw [if_pos hg]
  rw [e0]
  refine Za1 ?_
  refine ZbH ?_
  clear hS
  intro wx3 hS
  refine Zl ?_
  refine Zer ?_
  exact ⟨zLT, F, rfl, rfl, fun _ h => h, fun w _ => Qpw w, hS.drop.drop⟩
 | true =>
 obtain ⟨hl1, hl2⟩ := Qdd hg
 have hgl : QO h.cs.length h.cs = true := by
  unfold QF Q4 at hg
  simp only [Bool.and_eq_true] at hg
  exact hg.1.2
 refine ZV ?_
 refine Zbd ?_
 refine Zbv ?_
 refine Z3 ?_
 refine Calls.mono (Qbb h.cs.length c A B h.tr.length d a _) ?_
 rintro _ w3 ⟨rfl, hb3⟩
 refine Za ?_
 replace hS := hS.grow hb3
 cases ha : Qj h.cs a with
 | false =>
  have e0 : Qbg h a most = (Qet, 0, 4) := by unfold Qbg; rw [if_neg (by rw [hg]; decide), if_pos ha]
  rw [e0, show (decide (0 ≤ a) && decide (a < (h.cs.length : Nat))) = false from ha]
  refine Za1 ?_
  refine ZbH ?_
  clear hS
  intro wx3 hS
  refine Zl ?_
  refine Zer ?_
  exact ⟨zLT, F, rfl, rfl, fun _ h => h, fun w _ => Qpw w, hS.drop.drop⟩
 | true =>
 rw [show (decide (0 ≤ a) && decide (a < (h.cs.length : Nat))) = true from ha]
 have hpos : 0 < h.cs.length := by
  obtain ⟨x, hx⟩ := Qcf.1 ha
  have := QcD hx; omega
 obtain ⟨mm, hmm⟩ : ∃ mm : Int, mm = if (65536 : Int) < most then 65536 else most := ⟨_, rfl⟩
 have hmN : QjT most = mm.toNat := by unfold QjT; rw [hmm]; congr 1; split <;> omega
 have hmm1 : mm ≤ 65536 := by rw [hmm]; split <;> omega
 have e0 : Qbg h a most = (match Qgh h.cs mm.toNat a mm.toNat with | none => (Qet, 0, 3) | some (t, l) => (t, mm.toNat - l, 0)) := by
  unfold Qbg; rw [if_neg (by rw [hg]; decide), if_neg (by rw [ha]; decide), hmN]; rfl
 rw [e0]
 refine ZV ?_
 refine Zu ?_
 refine QB (St _ _ _ _) 10 ((0, true) :: (1, true) :: (2, true) :: (3, true) :: (5, true) :: (6, true) :: (4, false) :: (7, true) :: (8, false) :: (9, true) :: []) Yc Yc (hS.drew) ?_
 replace hS := hS.drew
 first
  | refine Qd rfl (fun _ hS => Qb (k := 2) hS rfl rfl rfl (by first | exact .head | exact .tail .head | exact .tail (.tail .head) | exact .tail (.tail (.tail .head)) | exact .tail (.tail (.tail (.tail .head))) | exact .tail (.tail (.tail (.tail (.tail .head))))) Yf) rfl ?_
  | refine Qd rfl (fun _ hS => Qb (k := 2) hS rfl rfl rfl (by first | exact .head | exact .tail .head | exact .tail (.tail .head) | exact .tail (.tail (.tail .head)) | exact .tail (.tail (.tail (.tail .head))) | exact .tail (.tail (.tail (.tail (.tail .head))))) Ye) rfl ?_
  | refine Qd rfl (fun _ hS => QaQ rfl rfl rfl (by first | assumption | exact (hcc _ hS).1 | exact (hcc _ hS).2.1 | exact (hcc _ hS).2.2 | exact hS.cell0 Ye) (by first | assumption | exact (hcc _ hS).1 | exact (hcc _ hS).2.1 | exact (hcc _ hS).2.2 | exact hS.cell0 Ye)) rfl ?_
 refine Zax ?_
 refine ZfT ?_
 refine ZaJ ?_
 refine ZT ?_
 refine Qd rfl (fun _ hS => QjL rfl rfl Ye) rfl ?_
 refine Zp ?_
 refine Qcl (k := h.cs.length) (bts := 8) (z := .int .i64 0) hS Yb Yb rfl rfl rfl rfl Ya Ya rfl ?_
 clear hS
 intro pb w5 hS
 rw [show List.replicate h.cs.length (Value.int .i64 0) = Qm (List.replicate h.cs.length 0) by simp [Qm]] at hS
 refine Zcf ?_
 refine Qd rfl (fun _ hS => QN (cells := [_, _, _, _, _]) (.cons Yb (.cons Yb (.cons Yb .nil))) rfl) rfl ?_
 refine Zp ?_
 refine Zcb ?_
 clear hS
 intro b3 wx3 hS
 refine Zcf ?_
 refine ZdX ?_
 refine Zw ?_
 refine ZbG ?_
 refine ZF ?_
 refine Z6 ?_
 refine Qo 36 (37 :: 38 :: 10 :: 39 :: 40 :: 41 :: 42 :: 43 :: 44 :: 45 :: []) (fun (j : Nat) v w' => ∃ (P : List Int) (i : Nat), i + j = h.cs.length ∧ v = .int .i64 (i : Nat) ∧ P.length = h.cs.length ∧ (∀ (q : Nat), q < i → P[q]? = some (-2)) ∧ St M w0 ((b3, bob A h.cs.length c B h.tr.length d pb h.cs.length 0 mm) :: (pb, iob P) :: (b2, .cells [.int .i64 0, .int .i64 0, .string eS, .slice none 0 0].toArray 63) :: (b1, hob A h.cs.length c B h.tr.length d) :: H) F w') (fun j => j) (h.cs.length) ?_ Yb ?_
 ·exact ⟨List.replicate h.cs.length 0, 0, by omega, rfl, by simp, fun q hq => by omega, hS⟩
 clear hS
 rintro j _ w6 jv ⟨P, i, hi, rfl, hPl, hPi, hS⟩ ih
 cases j with
 | succ j =>
  have hput := Qfo P i (-2) Ya
  refine ZaY ?_
  refine ZU ?_
  refine ZbG ?_
  refine Zbk ?_
  refine ZM ?_
  refine ZcM ?_
  clear hS
  intro w7 hS
  refine Zam ?_
  refine ih (j) _ _ _ ?_ ?_ Yb Yc
  ·omega
  ·refine ⟨P.set i (-2), i + 1, by omega, by simp, by simpa using hPl, fun q hq => ?_, hS⟩
   rw [List.getElem?_set]
   split
   ·rename_i e; rw [if_pos Ya]
   ·exact hPi q Ya
 | zero =>
  have hP : QrX h.cs P := ⟨hPl, fun q v hq => by
   have hql : q < P.length := by
    rcases Nat.lt_or_ge q P.length with g | g
    ·exact g
    ·rw [List.getElem?_eq_none g] at hq; cases hq
   rw [hPi q Ya] at hq
   exact .inl (Option.some.inj hq).symm⟩
  rw [← hPl] at hS
  have hcall := Qri mm.toNat M w0 ((b2, .cells [.int .i64 0, .int .i64 0, .string eS, .slice none 0 0].toArray 63) :: (b1, hob A h.cs.length c B h.tr.length d) :: H) F b3 pb c h.tr.length d A B h.cs P a 0 mm mm.toNat
  rw [← hPl] at hcall
  have hS2 : St M w0 ((b3, bob A h.cs.length c B h.tr.length d pb P.length 0 mm) :: (pb, iob P) :: (b2, .cells [.int .i64 0, .int .i64 0, .string eS, .slice none 0 0].toArray 63) :: (b1, hob A h.cs.length c B h.tr.length d) :: H) F w6 := by rw [← hPl]; exact hS
  rw [← hPl] at hL hgl hl1
  cases hap : Qgh h.cs mm.toNat a mm.toNat with
  | none =>
   rw [hap] at hcall
   refine ZL ?_
   refine Zac ?_
   refine ZfU ?_
   rintro _ w7 ⟨F2, P3, nd2, hF2, hP3, rfl, hS'⟩
   refine Za ?_
   replace hS := hS'
   clear hS'
   refine Zdo ?_
   clear hS
   intro b4 wx4 hS
   refine Zd ?_
   clear hS
   intro wx5 hS
   refine ZA ?_
   refine Za1 ?_
   refine ZbH ?_
   clear hS
   intro wx6 hS
   refine Zl ?_
   refine Zer ?_
   exact ⟨zLT, F2, rfl, rfl, hF2, fun w _ => Qpw w, hS.drop.drop.drop.drop.drop⟩
  | some q =>
   obtain ⟨q1, lq⟩ := q
   have hlq := Qd7 _ _ _ _ hap
   dsimp only at hlq
   rw [hap] at hcall
   refine ZL ?_
   refine Zac ?_
   refine ZfU ?_
   rintro _ w7 ⟨F2, P3, nd2, hF2, hP3, ⟨u2, hu2, hru2, hnd2, rfl⟩, hS'⟩
   refine Za ?_
   replace hS := hS'
   clear hS'
   refine Zdo ?_
   clear hS
   intro b4 wx4 hS
   refine Zd ?_
   clear hS
   intro wx5 hS
   refine ZA ?_
   refine ZV ?_
   refine Zu ?_
   refine QB (St _ w0 [_, _] []) 8 ((0, true) :: (1, true) :: (2, true) :: (3, true) :: (4, true) :: (5, false) :: (6, true) :: (7, true) :: []) Yc Yc (hS.drew.bare2) ?_
   replace hS := hS.drew
   first
    | refine Qd rfl (fun _ hS => Qb (k := 4) hS rfl rfl rfl (by first | exact .head | exact .tail .head | exact .tail (.tail .head) | exact .tail (.tail (.tail .head)) | exact .tail (.tail (.tail (.tail .head))) | exact .tail (.tail (.tail (.tail (.tail .head))))) Yf) rfl ?_
    | refine Qd rfl (fun _ hS => Qb (k := 4) hS rfl rfl rfl (by first | exact .head | exact .tail .head | exact .tail (.tail .head) | exact .tail (.tail (.tail .head)) | exact .tail (.tail (.tail (.tail .head))) | exact .tail (.tail (.tail (.tail (.tail .head))))) Ye) rfl ?_
    | refine Qd rfl (fun _ hS => Qbl rfl rfl rfl (by first | assumption | exact (hcc _ hS).1 | exact (hcc _ hS).2.1 | exact (hcc _ hS).2.2 | exact hS.cell0 Ye) (by first | assumption | exact (hcc _ hS).1 | exact (hcc _ hS).2.1 | exact (hcc _ hS).2.2 | exact hS.cell0 Ye) (by first | assumption | exact (hcc _ hS).1 | exact (hcc _ hS).2.1 | exact (hcc _ hS).2.2 | exact hS.cell0 Ye) (by first | assumption | exact (hcc _ hS).1 | exact (hcc _ hS).2.1 | exact (hcc _ hS).2.2 | exact hS.cell0 Ye)) rfl ?_
   refine Zc9 ?_
   refine ZfT ?_
   refine Zp ?_
   refine Zd ?_
   clear hS
   intro wx6 hS
   refine ZdM ?_
   refine Zct ?_
   refine Zer ?_
   refine ⟨u2, F2, ?_, hu2, hF2, hru2, hS.drop.drop.drop.drop.drop⟩
   dsimp only
   rw [hnd2, show mm - ((lq : Nat) : Int) = ((mm.toNat - lq : Nat) : Int) by omega]
end
section
variable {P : Program} {n : Nat} {e : Env} {w : World} {Q : Exit → Act → World → Prop} {ops : Array Oper} {rest : List Oper} {ty : TypeId} {pos : String} {after : Array Edge} {d : Nat}
variable {M : List Nat} {w0 : World} {H H' : List (Nat × Obj)} {F : List (World → Prop)} {x y : Operand} {v : Value} {t tx : TypeId}
theorem QsA {el len k : Nat} {xs zs : List Value} {O : List (Nat × Obj)} {i : TypeInfo} {z : Value} {ki : IntKind} (hS : St M w0 H F w) (hx : ev n e x = v) (hy : ev n e y = .int .i64 (k : Nat)) (hT : QC P t = some el) (hTx : P.underlying tx = some (.int ki)) (hi : P.info? el = some i) (hz : i.zero = some z) (hzs : z.cells.size = i.size) (hsz : 0 < i.size)
  (hzl : (Builtin.zeroCells z.cells k).toList = zs) (h1 : ∀ u ∈ zs, u.oneCell' = true) (hrow : Rw el i.size v len xs O) (hl : 0 < len) (hk : 0 < k) (hP : H.Perm (O ++ H')) (hfit : 2 * (len + k) * i.bytes ≤ 281474976710656) (hbig : len + k ≤ 4611686018427387904) (hd : Nat.blt d n = true)
  (h : ∀ v' O' w', Rw el i.size v' (len + k) (xs ++ zs) O' → St M w0 (O' ++ H') F w' → Lst P Q ops rest n ((d, v') :: e) w') :
  Lst P Q ops (⟨some d, .call ⟨.builtin .append, #[x, y], #[t, tx]⟩, ty, pos, after, none⟩ :: rest) n e w := by
 have hS := hS.perm hP
 have hys : zs.length = k * i.size := by rw [← hzl]; simp [Builtin.zeroCells, hzs]
 have hza : Builtin.zeroCells z.cells k = zs.toArray := by rw [← hzl]
 have hop : ∀ r w2, (Builtin.append_ #[t, tx] ty #[v, .int .i64 (k : Nat)]).run P w = .ok r w2 → (execOp (ev n e) ⟨some d, .call ⟨.builtin .append, #[x, y], #[t, tx]⟩, ty, pos, after, none⟩).run P w = .ok (.value r) w2 := by
  intro r w2 hr
  simp only [execOp, resolve, List.map_toArray, List.map_cons, List.map_nil, hx, hy, bind, pure, Sem.bind, invoke, builtin]
  rw [Sem.run_bind', hr]
  rfl
 have hw : IntKind.i64.wrap (k : Int) = k := Qg3 Ya Ya
 have hai : ∀ w, (asInt (.int .i64 (k : Nat))).run P w = .ok (k : Int) w := fun w => rfl
 have hz0 : ¬ ((k : Int) < 0) := by omega
 have h49 : ¬ ((281474976710656 : Int) < (k : Int) * (i.bytes : Int)) := by
  have : k * i.bytes ≤ 2 * (len + k) * i.bytes := Nat.mul_le_mul_right _ Ya
  have h5 : ((k * i.bytes : Nat) : Int) ≤ 281474976710656 := by omega
  rw [Int.natCast_mul] at h5; omega
 have hs1 : ¬ i.size = 0 := by omega
 have hk0 : ¬ k = 0 := by omega
 have hks : ¬ k * i.size = 0 := fun h0 => by rcases Nat.mul_eq_zero.1 h0 with h | h <;> omega
 cases hrow with
 | zero_ => omega
 | own_ hx2 hc2 hle hcp =>
  rename_i bl cap sp
  have hbl : w.heap[bl]? = some (.cells (xs ++ sp).toArray el) := hS.own (bl, _) Yd
  by_cases hroom : len + k ≤ cap
  ·have hcc : (xs ++ sp).length = cap * i.size := hc2
   have hfitc : len * i.size + zs.length ≤ (xs ++ sp).length := by rw [hcc, hys, ← Nat.add_mul]; exact Nat.mul_le_mul_right _ hroom
   have hst := run_storeCells_cells (P := P) bl (0 + len * i.size) zs 0 w
    (fun j hj => by rw [Qu hbl, Nat.zero_add]; simp only [Option.isSome_iff_exists]; exact ⟨_, List.getElem?_eq_getElem Ya⟩) (fun j hj => by simp [World.frozen?, hbl]) h1
   simp only [Nat.add_zero] at hst
   have hr : (Builtin.append_ #[t, tx] ty #[.slice (some ⟨bl, 0, none⟩) len cap, .int .i64 (k : Nat)]).run P w = .ok (.slice (some ⟨bl, 0, none⟩) (len + k) cap) (w.setCells bl (0 + len * i.size) zs) := by
    simp [Builtin.append_, run_underlying (Qar hT), run_underlying hTx, sizeOf, typeInfo, zeroValue, hi, hz, hw, hai, hz0, h49, hroom, hza, hk0, hs1, Addr.add_lit]
    rw [if_neg hks]
    rw [Nat.zero_add] at hst
    rw [hst]; rfl
   obtain ⟨hs1, hs2⟩ := QbK zs (0 + len * i.size) (xs ++ sp) w hbl Ya
   refine ZbS ?_
   have hu : Upd ([(bl, Obj.cells (xs ++ sp).toArray el)] ++ H') bl (.cells (xs ++ sp).toArray el) (.cells ((xs ++ sp).take (0 + len * i.size) ++ zs ++ (xs ++ sp).drop (0 + len * i.size + zs.length)).toArray el)
     ((bl, .cells ((xs ++ sp).take (0 + len * i.size) ++ zs ++ (xs ++ sp).drop (0 + len * i.size + zs.length)).toArray el) :: H') := .head
   have h3 := hS.turn hu hs2 hs1
   have e1 : (xs ++ sp).take (0 + len * i.size) = xs := by rw [Nat.zero_add, ← hx2]; simp
   have e2 : (xs ++ sp).drop (0 + len * i.size + zs.length) = sp.drop zs.length := by
    rw [Nat.zero_add, ← hx2]; simp [List.drop_append]
   rw [e1, e2] at h3
   refine h _ _ _ (Rw.own_ (b := bl) (sp := sp.drop zs.length) ?_ ?_ hroom hcp) h3
   ·rw [List.length_append, hx2, hys, Nat.add_mul]
   ·simp only [List.length_append, List.length_drop] at hcc hfitc ⊢
    omega
  ·have hn := Go.Room.nextslicecap_le' (show cap < len + k by omega)
   have h48 : ¬ (281474976710656 < Builtin.nextslicecap (len + k) cap * i.bytes) := by
    have := Nat.le_trans (Nat.mul_le_mul_right i.bytes hn) hfit
    omega
   have h63 : ¬ (9223372036854775807 < ((len : Int) + (k : Int))) := by omega
   have hf := run_firstCells_some (P := P) w.drew i.size len ⟨bl, 0, none⟩ len cap xs hx2 (fun j u hj => by
    have hjl : j < xs.length := by
     rcases Nat.lt_or_ge j xs.length with hl | hl
     ·exact hl
     ·rw [List.getElem?_eq_none hl] at hj; cases hj
    rw [Qaa, Qu (w := w.drew) hbl, Nat.zero_add, List.getElem?_append_left hjl]; exact hj)
   have hcapn : len + k ≤ grownCap w (len + k) cap el := by unfold grownCap Question.cut; exact Nat.le_add_right _ _
   have hr : (Builtin.append_ #[t, tx] ty #[.slice (some ⟨bl, 0, none⟩) len cap, .int .i64 (k : Nat)]).run P w = .ok (.slice (some ⟨w.heap.size, 0, none⟩) (len + k) (grownCap w (len + k) cap el)) (w.drew.alloc (.cells ((xs ++ zs).toArray ++ Builtin.zeroCells z.cells (grownCap w (len + k) cap el - (len + k))) el)) := by
    simp [Builtin.append_, run_underlying (Qar hT), run_underlying hTx, sizeOf, typeInfo, zeroValue, hi, hz, hw, hai, hz0, h49, hroom, hza, hk0, hs1, h63, h48, Question.forced, hf, newRow, grownCap]
    first | rw [if_neg hks] | skip
    congr 3
    apply Array.ext'
    simp [List.append_assoc]
   refine ZbS ?_
   generalize grownCap w (len + k) cap el = nc at hcapn
   have hzc : (Builtin.zeroCells z.cells (nc - (len + k))) = (Builtin.zeroCells z.cells (nc - (len + k))).toList.toArray := by simp
   have hzl2 : (Builtin.zeroCells z.cells (nc - (len + k))).toList.length = (nc - (len + k)) * i.size := by simp [Builtin.zeroCells, hzs]
   generalize (Builtin.zeroCells z.cells (nc - (len + k))).toList = zl at hzc hzl2
   rw [hzc]
   have hS2 := (hS.drew.alloc (.cells ((xs ++ zs) ++ zl).toArray el))
   rw [show (xs ++ zs).toArray ++ zl.toArray = ((xs ++ zs) ++ zl).toArray by simp]
   refine h _ [(w.heap.size, .cells ((xs ++ zs) ++ zl).toArray el)] _ (Rw.own_ ?_ ?_ hcapn Ya) ?_
   ·rw [List.length_append, hx2, hys, Nat.add_mul]
   ·rw [List.length_append, List.length_append, hx2, hys, hzl2, ← Nat.add_mul, ← Nat.add_mul]; congr 1; omega
   ·have h5 : St M w0 ((w.heap.size, .cells ((xs ++ zs) ++ zl).toArray el) :: ([(bl, Obj.cells (xs ++ sp).toArray el)] ++ H')) F _ := hS2
    exact St.dropL (L := [(bl, Obj.cells (xs ++ sp).toArray el)]) h5.sink
end
abbrev zC : HC := ⟨0, 0, eS⟩
theorem Qm9 : ∀ k : Nat, (Builtin.zeroCells #[.int .i64 0, .int .i64 0, .string eS] k).toList = Q6 (List.replicate k zC)
 | 0 => by simp [Builtin.zeroCells, Q6]
 | k + 1 => by
  have ih := Qm9 k
  simp only [Builtin.zeroCells, Array.toList_map, Array.toList_range] at ih ⊢
  rw [List.replicate_succ', QbG, ← ih]
  rw [show (k + 1) * (#[Value.int .i64 0, .int .i64 0, .string eS] : Array Value).size = k * 3 + 1 + 1 + 1 by simp; omega]
  rw [show k * (#[Value.int .i64 0, .int .i64 0, .string eS] : Array Value).size = k * 3 by simp]
  rw [List.range_succ, List.range_succ, List.range_succ]
  simp [Q6, Nat.mul_mod_left, Nat.add_mod]
theorem Qlz : ∀ (L : List HC) (i : Nat) (c : HC), i < L.length → ∃ X Z : List Value, ∃ ys : List Value, Q6 L = X ++ (ys ++ Z) ∧ X.length = i * 3 ∧ ys.length = 3 ∧ Q6 (L.set i c) = X ++ (hcs c ++ Z)
 | [], i, c, h => by simp at h
 | x :: r, 0, c, h => ⟨[], Q6 r, hcs x, rfl, rfl, rfl, rfl⟩
 | x :: r, i + 1, c, h => by
  obtain ⟨X, Z, ys, h1, h2, h3, h4⟩ := Qlz r i c (by simpa using h)
  refine ⟨hcs x ++ X, Z, ys, ?_, ?_, h3, ?_⟩
  ·show hcs x ++ Q6 r = _
   rw [h1]; simp
  ·simp [hcs, h2]; omega
  ·show hcs x ++ Q6 (r.set i c) = _
   rw [h4]; simp
theorem QqY (L : List HC) (sp : List Value) (i : Nat) (c : HC) (hi : i < L.length) : QrW (Q6 L ++ sp) (i * 3) (hcs c) (Q6 (L.set i c) ++ sp) := by
 obtain ⟨X, Z, ys, h1, h2, h3, h4⟩ := Qlz L i c hi
 rw [h1, h4]
 have := QgL X ys (hcs c) (Z ++ sp) (i * 3) h2 (by rw [h3]; rfl)
 simpa using this
end Go.Proofs.YthliapbflkfdiacGreatDoor
