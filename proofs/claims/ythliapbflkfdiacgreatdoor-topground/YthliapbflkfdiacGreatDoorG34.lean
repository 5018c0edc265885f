/- RefW5, RefW6, Alike, SameR, LPrograms, EWalk3, AliveT0: texts that follow one another, laid into one file. -/
import Derived.Test.YthliapbflkfdiacGreatDoorZ0
import Derived.Test.YthliapbflkfdiacGreatDoorG33
import Derived.Test.YthliapbflkfdiacGreatDoorG6
import Derived.Test.YthliapbflkfdiacGreatDoorG1
import Derived.Test.YthliapbflkfdiacGreatDoorRows
import Derived.Deep.LoopGhost
import Derived.StillTailTactics
import Derived.Test.YthliapbflkfdiacGreatDoorG30
import Derived.Test.YthliapbflkfdiacGreatDoorG14
import Derived.Test.YthliapbflkfdiacGreatDoorG13
import Derived.Test.YthliapbflkfdiacGreatDoorG7
namespace Go.Proofs.YthliapbflkfdiacGreatDoor
open Go.RowKit Go.Shelf
set_option linter.unusedVariables false
set_option linter.unusedSimpArgs false
set_option maxRecDepth 100000
set_option maxHeartbeats 1000000
def Qu8 (f : PS → Nd × PS) : Prop := ∀ p, (f p).1.ar.nodes + (f p).2.l.length ≤ p.l.length
theorem Qgg {f : PS → Nd × PS} (hf : Qu8 f) : ∀ (n : Nat) (p : PS), (Qbu (QQ f n p).1).nodes + (QQ f n p).2.l.length ≤ p.l.length
 | 0, p => by simp [QQ, Qbu, Ts.nodes]
 | n + 1, p => by
  unfold QQ
  split
  ·rename_i h
   have h1 := (QhP h.2).1
   have h2 := hf p.pop
   have h3 := Qgg hf n (f p.pop).2
   simp only [Qbu, Ts.nodes]
   omega
  ·simp [Qbu, Ts.nodes]
theorem Qe3 {f : PS → Nd × PS} (hf : Qu8 f) (t : Str) (p : PS) : (Qbu (Qae f t p).1).nodes + (Qae f t p).2.l.length ≤ p.l.length + 1 := by
 have h1 := Qgg hf (f p).2.l.length (f p).2
 have h2 := hf p
 have h3 := Qkb (QQ f (f p).2.l.length (f p).2).2 t
 simp only [Qae, Qbu, Ts.nodes]
 omega
theorem Qgd : ∀ d, Qu8 (QP d)
 | 0, p => by simp [QP, Nd.zero, Ts.nodes, PS.spoil]
 | d + 1, p => by
  unfold QP
  split
  ·simp [Nd.zero, Ts.nodes, PS.spoil]
  ·simp [Nd.zero, Ts.nodes, PS.spoil]
  ·rename_i c r q hl
   have h1 : p.pop.l.length + 1 = p.l.length := by simp [PS.pop, hl]
   split
   ·simp only [Ts.nodes]; omega
   split
   ·simp only [Ts.nodes]; rw [(QpU _ _).1]; omega
   split
   ·simp only [Ts.nodes]; omega
   split
   ·simp [Nd.zero, Ts.nodes, PS.spoil]
   split
   ·rename_i hp
    have h2 := Qe3 (Qgd d) [41] p.pop.pop
    have h3 := (QhP hp).1
    simp only; omega
   ·simp only [Ts.nodes]; omega
theorem QfC : ∀ (n : Nat) (l : Str), (QbX n l).length ≤ l.length
 | 0, l => by simp [QbX]
 | n + 1, [] => by simp [QbX]
 | n + 1, c :: r => by
  unfold QbX
  split
  ·have := QfC n r; simp; omega
  split
  ·simp
  ·rename_i h
   have := QfC n ((c :: r).drop (Qas (c :: r)))
   rw [List.length_drop] at this
   simp at this ⊢; omega
theorem Qpi (l : Str) : (Qcp l).length ≤ l.length := QfC _ _
section
variable {M : List Nat} {w0 : World} {H : List (Nat × Obj)} {F : List (World → Prop)}
end
end Go.Proofs.YthliapbflkfdiacGreatDoor
namespace Go.Proofs.YthliapbflkfdiacGreatDoor.R
open Go.RowKit
set_option maxRecDepth 100000
end Go.Proofs.YthliapbflkfdiacGreatDoor.R
namespace Go.Proofs.YthliapbflkfdiacGreatDoor
open Go.RowKit Go.Shelf
set_option linter.unusedVariables false
set_option linter.unusedSimpArgs false
set_option maxRecDepth 100000
set_option maxHeartbeats 1000000
theorem QlI (num : Str → Option Int) (s : RS) : (QR num s).1.hd.nodes ≤ s.left ∧ (QR num s).1.bd.nodes ≤ s.left := by
 have h1 := QeV num 24 { s with vars := [] }
 have h2 := Qkg num (Qw num 24 { s with vars := [] }).2
 have e : RS.left { s with vars := [] } = s.left := rfl
 rw [e] at h1
 exact ⟨by show (Qw num 24 _).1.ar.nodes ≤ _; omega, by show (Qbu (QaT num _).1).nodes ≤ _; omega⟩
theorem QiX (num : Str → Option Int) : ∀ (n : Nat) (s : RS), ∀ c ∈ (QE num n s).1, c.hd.nodes ≤ s.left ∧ c.bd.nodes ≤ s.left
 | 0, s, c, h => by simp [QE] at h
 | n + 1, s, c, h => by
  unfold QE at h
  split at h
  ·simp at h
  ·rename_i ht
   have h1 := QlI num s
   rcases List.mem_cons.1 h with rfl | h
   ·exact h1
   ·have h2 := QiX num n _ c h
    have h3 := QdT num s ht
    omega
theorem QjK (num : Str → Option Int) (l : Str) : ∀ c ∈ (Qs num l).1, c.hd.nodes ≤ 2000 ∧ c.bd.nodes ≤ 2000 := by
 intro c hc
 have h0 := Qeu l
 have : c ∈ (QE num (RS.start l).left (RS.start l)).1 := by
  unfold Qs at hc
  simp only at hc
  split at hc
  ·split at hc
   ·exact hc
   ·simp at hc
  ·split at hc
   ·exact hc
   ·simp at hc
 have := QiX num _ _ c this
 omega
theorem Qms (num : Str → Option Int) (l : Str) : (Qs num l).1.length ≤ 24 := by
 unfold Qs
 simp only
 generalize QE num (RS.start l).left (RS.start l) = p
 by_cases h : 24 < p.1.length
 ·have h1 : (p.2.fail 3).err ≠ 0 := by
   simp only [RS.fail]
   split
   ·decide
   ·assumption
  rw [if_pos h, if_neg h1]; simp
 ·rw [if_neg h]
  split
  ·simp only; omega
  ·simp
theorem QpV {v u : Value} {R : List Value} : ∀ D : List Value, Put (D ++ u :: R) D.length v (D ++ v :: R)
 | [] => .z
 | d :: D => .s (QpV D)
theorem Qc6 (T : Ts) (h : T.nodes ≤ 1048576) : T.length ≤ 9223372036854775807 ∧ T.wide := ⟨by have := Ts.length_le T; omega, Ts.wide_of T Ya⟩
theorem QkW (l : Str) : (Qz QG l).1.nodes ≤ 2001 := by
 rw [QkV]
 have hwl := Qpi l
 have hgn := Qe3 (Qgd 24) [46] (PS.start l)
 unfold Qe4
 by_cases h : 2000 < l.length
 ·rw [if_pos h]; simp [Ts.nodes]
 ·rw [if_neg h]
  have hgn2 : (Qbu (QaR (PS.start l)).1).nodes ≤ 2001 := by
   unfold QaR
   have : (PS.start l).l.length = (Qcp l).length := rfl
   omega
  generalize QaR (PS.start l) = g at hgn2 ⊢
  simp only
  split
  ·simp [Ts.nodes]
  ·exact hgn2
def QuS (w0 : World) (r : List Str × Int) (e : Ending) (w' : World) : Prop :=
 ∃ (A : Option Addr) (c : Nat), e = .returned (.tuple #[.slice A r.1.length c, .int .i64 r.2]) ∧ QA 1 (r.1.map sv) A r.1.length c w' ∧ Below w0.heap.size w0 w'
theorem Qrc (p q : Str) (fuel every : Int) (w0 : World) (hG : ∀ w', Ext [] w0 w' → QcV w') (hW : ∀ w', Ext [] w0 w' → QfA w') (hp : p.length ≤ 1125899906842624) (hq : q.length ≤ 1125899906842624) (hev : every ≤ 9223372036854775807) :
  Calls Tryz.prog 21 #[sv p, sv q, .int .i64 fuel, .int .i64 every] w0 (QuS w0 (Qif p q fuel every)) := by
 have hS := St.start w0
 have hpn := QjK QG p
 have hpl := Qms QG p
 have hqn := QkW q
 refine Qc9 Tryz.func21 rfl Tryz.ntmps21 rfl ?_
 refine ZcT ?_
 refine ZI ?_
 refine Calls.mono (QpW QG QcV Qu3 Qu2 Qu1 p _ hG hp hS) ?_
 rintro _ w3 ⟨v1, rfl, hS'⟩
 refine Za ?_
 replace hS := hS'
 clear hS'
 obtain ⟨pA, pc, X, rfl, hX, hXr⟩ := (hS.fact (.head _)).locate
 replace hS := hS.learn (φ := QrA X pA pc) fun w2 hx => hXr w2 fun k _ hk => hx.block k hk Yd
 by_cases h1 : (Qs QG p).2 = 0
 case neg =>
  have e : Qif p q fuel every = ([], (Qs QG p).2) := by unfold Qif; rw [if_pos h1]
  rw [e]
  refine Za5 ?_
  refine Zcr ?_
  refine Zt ?_
  refine ZdM ?_
  exact ⟨none, 0, rfl, QA.nil_ _ _ _, hS.ext.below⟩
 obtain ⟨hpB, hpbr⟩ := QiW h1
 refine Za5 ?_
 refine Zr ?_
 refine ZI ?_
 refine Calls.mono (QpR QG QcV Qu3 Qu2 Qu1 q _ hG hq hS) ?_
 rintro _ w4 ⟨v2, rfl, hS'⟩
 refine Za ?_
 replace hS := hS'
 clear hS'
 obtain ⟨qA, qc, Y, rfl, hY, hYr⟩ := (hS.fact (.head _)).locate
 replace hS := hS.learn (φ := ArA qA qc Y) fun w2 hx => hYr w2 fun k _ hk => hx.block k hk Yd
 by_cases h2 : (Qz QG q).2.2 = 0
 case neg =>
  have e : Qif p q fuel every = ([], (Qz QG q).2.2) := by unfold Qif; rw [if_neg (fun h => h h1), if_pos h2]
  rw [e]
  refine Zab ?_
  refine ZE ?_
  refine ZbT ?_
  refine Zcr ?_
  refine Zt ?_
  refine ZdM ?_
  exact ⟨none, 0, rfl, QA.nil_ _ _ _, hS.ext.below⟩
 obtain ⟨hqB, hqbr, hql⟩ := QjJ h2
 have hask : Qif p q fuel every = if every < 0 then ([], 2)
   else if (QeO (Qs QG p).1 (Qz QG q).1 ((Qz QG q).2.1 : Nat) fuel).2 ≠ 0 then ([], (QeO (Qs QG p).1 (Qz QG q).1 ((Qz QG q).2.1 : Nat) fuel).2)
   else ((QeO (Qs QG p).1 (Qz QG q).1 ((Qz QG q).2.1 : Nat) fuel).1.map Qlj, 0) := by
  unfold Qif; rw [if_neg (fun h => h h1), if_neg (fun h => h h2)]
 rw [hask]
 clear hask
 have hevs := Qo4 (vars := ((Qz QG q).2.1 : Nat)) (fuel := fuel) hpbr hqbr
 have hfew := Qrb (P := (Qs QG p).1) (q := (Qz QG q).1) (vars := ((Qz QG q).2.1 : Nat)) (fuel := fuel)
 generalize (Qz QG q).2.1 = vn at *
 rw [← hX] at hpn hpl hpB hevs hfew ⊢
 rw [← hY] at hqn hqB hevs hfew ⊢
 have hall := Qou X pA pc Y qA qc (vn : Nat) fuel every _ Und.head.tail.tail Und.head (by simp at hpl; omega) (fun c hc => by
  obtain ⟨a1, a2⟩ := Qc6 c.hd (by have := (hpn c hc).1; omega)
  obtain ⟨b1, b2⟩ := Qc6 c.bd (by have := (hpn c hc).2; omega)
  exact ⟨a1, a2, b1, b2⟩) (by rw [← TA.len_ts]; exact (Qc6 _ Ya).1) (Qc6 _ Ya).2 hev hS
 refine Zab ?_
 refine ZE ?_
 refine ZbT ?_
 refine Zr ?_
 refine Zay ?_
 refine Zbo ?_
 refine Zep ?_
 refine Calls.mono (hall) ?_
 rintro _ w5 ⟨A5, c5, L, F5, rfl, hL, hF5, hK, hS'⟩
 refine Za ?_
 replace hS := hS'
 clear hS'
 by_cases h3 : every < 0
 ·have e : (QrD (X.map LC.cl) Y.ts (vn : Nat) fuel every).2 = 2 := by rw [QsS _ _ _ _ _ h3, if_neg (by rw [hpB, hqB]; simp)]
  rw [if_pos h3, e]
  refine Za5 ?_
  refine Zcr ?_
  refine Zt ?_
  refine ZdM ?_
  exact ⟨none, 0, rfl, QA.nil_ _ _ _, hS.ext.below⟩
 rw [if_neg h3]
 rw [Que _ _ _ _ _ Ya] at hL ⊢
 by_cases h4 : (QeO (X.map LC.cl) Y.ts (vn : Nat) fuel).2 = 0
 case neg =>
  rw [if_pos h4]
  refine Za5 ?_
  refine Zcr ?_
  refine Zt ?_
  refine ZdM ?_
  exact ⟨none, 0, rfl, QA.nil_ _ _ _, hS.ext.below⟩
 rw [if_neg (fun h => h h4), h4]
 have hLl : L.length ≤ 13 := by have := congrArg List.length hL; rw [List.length_map] at this; omega
 have hmap : (QeO (X.map LC.cl) Y.ts (vn : Nat) fuel).1.map Qlj = L.map fun x => QbT x.k x.T.ts := by rw [← hL, List.map_map]; rfl
 have hx : ∀ x ∈ L, x.T.ts.nodes ≤ 200 ∧ rng x.T.ts ∧ (QbT x.k x.T.ts).length ≤ 1000000 := fun x hx => by
  have := hevs x.ev (by rw [← hL]; exact List.mem_map.2 ⟨x, hx, rfl⟩)
  exact ⟨this.1, this.2.1, this.2.2.2⟩
 rw [hmap]
 refine Za5 ?_
 refine Zr ?_
 refine Zk ?_
 refine Zy ?_
 refine Qch (k := L.length) (bts := 16) (z := .string ⟨#[]⟩) hS Yb Yb rfl rfl rfl rfl Ya Ya rfl ?_
 clear hS
 intro zb w6 hS
 refine ZbI ?_
 refine Qo 52 (53 :: 54 :: 55 :: 56 :: 17 :: 16 :: 57 :: 58 :: 59 :: 60 :: 61 :: 62 :: []) (fun (R : List KE) v w' => ∃ D, L = D ++ R ∧ v = .int .i64 (D.length : Nat) ∧ St [] w0 ((zb, .cells (D.map (fun x => sv (QbT x.k x.T.ts)) ++ R.map (fun _ => Value.string ⟨#[]⟩)).toArray 9) :: []) F5 w') (fun R => R.length) (L) ?_ Yb ?_
 ·exact ⟨[], rfl, rfl, by simpa [List.map_const'] using hS⟩
 clear hS
 rintro R _ w7 jv ⟨D, hD, rfl, hS⟩ ih
 have hlD : L.length = D.length + R.length := by rw [hD]; simp
 cases R with
 | nil =>
  rw [List.append_nil] at hD
  subst hD
  simp only [List.length_nil] at hlD
  simp only [List.map_nil, List.append_nil] at hS
  refine ZH ?_
  refine Zk ?_
  refine Zt ?_
  refine ZdM ?_
  have hown := hS.own (zb, _) (.head _)
  refine ⟨some ⟨zb, 0, none⟩, L.length, by simp, ?_, hS.ext.below⟩
  have := QA.own (xs := (L.map fun x => QbT x.k x.T.ts).map sv) (sp := []) (sz := 1) (len := L.length) (cap := L.length) (b := zb) (el := 9) (w := w7) (by rw [List.append_nil, List.map_map]; exact hown) Yd (Nat.le_refl _)
  simpa using this
 | cons x R =>
  simp only [List.length_cons] at hlD
  obtain ⟨hx1, hx2, hx3⟩ := hx x (by rw [hD]; simp)
  have hKw := hS.und hK
  rw [hD] at hKw
  obtain ⟨b6, o6, rfl⟩ := hKw.some_ Yh
  obtain ⟨q0, q1⟩ := hKw.cells
  have hAr : Und F5 (ArA x.A x.c x.T) := hK.imp fun w h => h.2.2 x (by rw [hD]; simp)
  have hput : Put (D.map (fun x => sv (QbT x.k x.T.ts)) ++ (x :: R).map (fun _ => Value.string ⟨#[]⟩)) D.length (sv (QbT x.k x.T.ts)) ((D ++ [x]).map (fun x => sv (QbT x.k x.T.ts)) ++ R.map (fun _ => Value.string ⟨#[]⟩)) := by
   have := QpV (v := sv (QbT x.k x.T.ts)) (u := Value.string ⟨#[]⟩) (R := R.map (fun _ => Value.string ⟨#[]⟩)) (D.map (fun x => sv (QbT x.k x.T.ts)))
   simpa using this
  refine Za1 ?_
  refine Zd7 ?_
  refine Z8 ?_
  refine ZaV ?_
  clear hS
  intro b1 wx1 hS
  refine ZbE ?_
  clear hS
  intro wx2 hS
  refine Zb ?_
  refine Z1 ?_
  refine Z8 ?_
  refine Zj ?_
  refine Calls.mono (Qso x.k x.T.ts _ _ (fun w' h => hG w' (hS.ext.trans h)) (fun w' h => hW w' (hS.ext.trans h)) (hS.und hAr).sl hx2 Ya Ya) ?_
  rintro _ w8 ⟨rfl, hb8⟩
  refine Za ?_
  replace hS := hS.grow hb8
  refine ZD ?_
  refine ZcH ?_
  clear hS
  intro w9 hS
  refine Zak ?_
  refine ih (R) _ _ _ ?_ ?_ Yb Yc
  ·simp
  ·exact ⟨D ++ [x], by rw [hD]; simp, by simp, hS.drop⟩
def Qu5 : Str := [112, 40, 52, 41, 46, 32, 112, 40, 53, 41, 46, 32, 113, 40, 88, 44, 89, 41, 32, 58, 45, 32, 112, 40, 88, 41, 44, 32, 112, 40, 89, 41, 44, 32, 108, 101, 115, 115, 40, 88, 44, 89, 41, 46]
def Qu4 : Str := [113, 40, 65, 44, 66, 41, 46]
theorem Qq8 : Qif Qu5 Qu4 20 1 = ([[121, 101, 115, 32, 48, 61, 52, 32, 49, 61, 53], [100, 111, 110, 101]], 0) := by kernel_rfl
theorem Qo6 (w : World) (hG : ∀ w', Ext [] w w' → QcV w') (hW : ∀ w', Ext [] w w' → QfA w') : Calls Tryz.prog 23 #[] w fun e w' => e = .returned (.bool true) ∧ Below w.heap.size w w' := by
 have hS := St.start w
 have h : Calls Tryz.prog 21 #[sv Qu5, sv Qu4, .int .i64 20, .int .i64 1] w fun e w' => ∃ (A : Option Addr) (c : Nat), e = .returned (.tuple #[.slice A 2 c, .int .i64 0]) ∧ QA 1 [sv [121, 101, 115, 32, 48, 61, 52, 32, 49, 61, 53], sv [100, 111, 110, 101]] A 2 c w' ∧ Below w.heap.size w w' := by
  have h := Qrc Qu5 Qu4 20 1 w hG hW Yg Yg Yg
  rw [Qq8] at h
  exact h
 refine QmJ Tryz.func23 rfl Tryz.ntmps23 rfl ?_
 refine Zl ?_
 refine Zd ?_
 refine Zff ?_
 refine Calls.mono (h) ?_
 rintro _ w1 ⟨A, c, rfl, hf, hb⟩
 refine Za ?_
 replace hS := hS.grow hb
 obtain ⟨b5, o5, rfl⟩ := hf.some_ Yg
 have q0 := hf.get (j := 0) (v := sv [121, 101, 115, 32, 48, 61, 52, 32, 49, 61, 53]) rfl
 have q1 := hf.get (j := 1) (v := sv [100, 111, 110, 101]) rfl
 have e0 : (⟨([121, 101, 115, 32, 48, 61, 52, 32, 49, 61, 53] : Str).toArray⟩ : ByteArray) = ⟨#[121, 101, 115, 32, 48, 61, 52, 32, 49, 61, 53]⟩ := rfl
 have e1 : (⟨([100, 111, 110, 101] : Str).toArray⟩ : ByteArray) = ⟨#[100, 111, 110, 101]⟩ := rfl
 refine ZaC ?_
 refine Zt ?_
 refine Zk ?_
 refine Zm ?_
 refine Zaj ?_
 refine ZdS ?_
 refine Zm ?_
 refine ZdU ?_
 refine ZD ?_
 refine Zbt ?_
 refine ZaI ?_
 refine ZdU ?_
 refine ZD ?_
 refine Zbt ?_
 refine ZaI ?_
 refine ZR ?_
 refine Qc Tryz.func23 rfl Yb ?_
 exact ⟨rfl, hS.ext.below⟩
end Go.Proofs.YthliapbflkfdiacGreatDoor
