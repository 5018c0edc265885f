/- Steps of the proof. -/
import Derived.Test.YthliapbflkfdiacGreatDoorG33
namespace Go.Proofs.YthliapbflkfdiacGreatDoor
open Go.RowKit Go.Shelf
set_option linter.unusedVariables false
set_option linter.unusedSimpArgs false
set_option maxRecDepth 100000
set_option maxHeartbeats 1000000
def Qvj (f : PS → Nd × PS) : Prop := ∀ p, (f p).1.ar.nodes + (f p).2.l.length ≤ p.l.length
theorem Qgq {f : PS → Nd × PS} (hf : Qvj f) : ∀ (n : Nat) (p : PS), (Qbw (QR f n p).1).nodes + (QR f n p).2.l.length ≤ p.l.length
 | 0, p => by simp [QR, Qbw, Ts.nodes]
 | n + 1, p => by
  unfold QR
  split
  ·rename_i h
   have h1 := (QhU h.2).1
   have h2 := hf p.pop
   have h3 := Qgq hf n (f p.pop).2
   simp only [Qbw, Ts.nodes]
   omega
  ·simp [Qbw, Ts.nodes]
theorem Qff {f : PS → Nd × PS} (hf : Qvj f) (t : Str) (p : PS) : (Qbw (Qaf f t p).1).nodes + (Qaf f t p).2.l.length ≤ p.l.length + 1 := by
 have h1 := Qgq hf (f p).2.l.length (f p).2
 have h2 := hf p
 have h3 := Qkh (QR f (f p).2.l.length (f p).2).2 t
 simp only [Qaf, Qbw, Ts.nodes]
 omega
theorem Qgn : ∀ d, Qvj (QQ d)
 | 0, p => by simp [QQ, Nd.zero, Ts.nodes, PS.spoil]
 | d + 1, p => by
  unfold QQ
  split
  ·simp [Nd.zero, Ts.nodes, PS.spoil]
  ·simp [Nd.zero, Ts.nodes, PS.spoil]
  ·rename_i c r q hl
   have h1 : p.pop.l.length + 1 = p.l.length := by simp [PS.pop, hl]
   split
   ·simp only [Ts.nodes]; omega
   split
   ·simp only [Ts.nodes]; rw [(Qqb _ _).1]; omega
   split
   ·simp only [Ts.nodes]; omega
   split
   ·simp [Nd.zero, Ts.nodes, PS.spoil]
   split
   ·rename_i hp
    have h2 := Qff (Qgn d) [41] p.pop.pop
    have h3 := (QhU hp).1
    simp only; omega
   ·simp only [Ts.nodes]; omega
theorem QfM : ∀ (n : Nat) (l : Str), (Qb1 n l).length ≤ l.length
 | 0, l => by simp [Qb1]
 | n + 1, [] => by simp [Qb1]
 | n + 1, c :: r => by
  unfold Qb1
  split
  ·have := QfM n r; simp; omega
  split
  ·simp
  ·rename_i h
   have := QfM n ((c :: r).drop (Qav (c :: r)))
   rw [List.length_drop] at this
   simp at this ⊢; omega
theorem Qpy (l : Str) : (Qct l).length ≤ l.length := QfM _ _
section
variable {M : List Nat} {w0 : World} {H : List (Nat × Obj)} {F : List (World → Prop)}
end
end Go.Proofs.YthliapbflkfdiacGreatDoor
namespace Go.Proofs.YthliapbflkfdiacGreatDoor.R
open Go.RowKit
set_option maxRecDepth 100000
end Go.Proofs.YthliapbflkfdiacGreatDoor.R
namespace Go.Proofs.YthliapbflkfdiacGreatDoor
open Go.RowKit Go.Shelf
set_option linter.unusedVariables false
set_option linter.unusedSimpArgs false
set_option maxRecDepth 100000
set_option maxHeartbeats 1000000
theorem QlP (num : Str → Option Int) (s : RS) : (QS num s).1.hd.nodes ≤ s.left ∧ (QS num s).1.bd.nodes ≤ s.left := by
 have h1 := Qe4 num 24 { s with vars := [] }
 have h2 := Qkm num (Qw num 24 { s with vars := [] }).2
 have e : RS.left { s with vars := [] } = s.left := rfl
 rw [e] at h1
 exact ⟨by show (Qw num 24 _).1.ar.nodes ≤ _; omega, by show (Qbw (QaW num _).1).nodes ≤ _; omega⟩
theorem Qi4 (num : Str → Option Int) : ∀ (n : Nat) (s : RS), ∀ c ∈ (QE num n s).1, c.hd.nodes ≤ s.left ∧ c.bd.nodes ≤ s.left
 | 0, s, c, h => by simp [QE] at h
 | n + 1, s, c, h => by
  unfold QE at h
  split at h
  ·simp at h
  ·rename_i ht
   have h1 := QlP num s
   rcases List.mem_cons.1 h with rfl | h
   ·exact h1
   ·have h2 := Qi4 num n _ c h
    have h3 := Qd2 num s ht
    omega
theorem QjQ (num : Str → Option Int) (l : Str) : ∀ c ∈ (Qq num l).1, c.hd.nodes ≤ 2000 ∧ c.bd.nodes ≤ 2000 := by
 intro c hc
 have h0 := QeF l
 have : c ∈ (QE num (RS.start l).left (RS.start l)).1 := by
  unfold Qq at hc
  simp only at hc
  split at hc
  ·split at hc
   ·exact hc
   ·simp at hc
  ·split at hc
   ·exact hc
   ·simp at hc
 have := Qi4 num _ _ c this
 omega
theorem QmA (num : Str → Option Int) (l : Str) : (Qq num l).1.length ≤ 24 := by
 unfold Qq
 simp only
 generalize QE num (RS.start l).left (RS.start l) = p
 by_cases h : 24 < p.1.length
 ·have h1 : (p.2.fail 3).err ≠ 0 := by
   simp only [RS.fail]
   split
   ·decide
   ·assumption
  rw [if_pos h, if_neg h1]; simp
 ·rw [if_neg h]
  split
  ·simp only; omega
  ·simp
theorem Qqc {v u : Value} {R : List Value} : ∀ D : List Value, Put (D ++ u :: R) D.length v (D ++ v :: R)
 | [] => .z
 | d :: D => .s (Qqc D)
theorem Qdb (T : Ts) (h : T.nodes ≤ 1048576) : T.length ≤ 9223372036854775807 ∧ T.wide := ⟨by have := Ts.length_le T; omega, Ts.wide_of T Ya⟩
theorem Qk4 (l : Str) : (QA QG l).1.nodes ≤ 2001 := by
 rw [Qk3]
 have hwl := Qpy l
 have hgn := Qff (Qgn 24) [46] (PS.start l)
 unfold Qfg
 by_cases h : 2000 < l.length
 ·rw [if_pos h]; simp [Ts.nodes]
 ·rw [if_neg h]
  have hgn2 : (Qbw (QaU (PS.start l)).1).nodes ≤ 2001 := by
   unfold QaU
   have : (PS.start l).l.length = (Qct l).length := rfl
   omega
  generalize QaU (PS.start l) = g at hgn2 ⊢
  simp only
  split
  ·simp [Ts.nodes]
  ·exact hgn2
def Qu6 (w0 : World) (r : List Str × Int) (e : Ending) (w' : World) : Prop :=
 ∃ (A : Option Addr) (c : Nat), e = .returned (.tuple #[.slice A r.1.length c, .int .i64 r.2]) ∧ Qz 1 (r.1.map sv) A r.1.length c w' ∧ Below w0.heap.size w0 w'
theorem Qrt (p q : Str) (fuel every : Int) (w0 : World) (hG : ∀ w', Ext [] w0 w' → QcZ w') (hW : ∀ w', Ext [] w0 w' → QeC w') (hp : p.length ≤ 1125899906842624) (hq : q.length ≤ 1125899906842624) (hev : every ≤ 9223372036854775807) :
  Calls Tryz.prog 21 #[sv p, sv q, .int .i64 fuel, .int .i64 every] w0 (Qu6 w0 (Qdt p q fuel every)) := by
 have hS := St.start w0
 have hpn := QjQ QG p
 have hpl := QmA QG p
 have hqn := Qk4 q
 refine Qde Tryz.func21 rfl Tryz.ntmps21 rfl ?_
 refine ZcZ ?_
 refine ZG ?_
 refine Calls.mono (Qqd QG QcZ Qvv Qvu Qvt p _ hG hp hS) ?_
 rintro _ w3 ⟨v1, rfl, hS'⟩
 refine Za ?_
 replace hS := hS'
 clear hS'
 obtain ⟨pA, pc, X, rfl, hX, hXr⟩ := (hS.fact (.head _)).locate
 replace hS := hS.learn (φ := QrR X pA pc) fun w2 hx => hXr w2 fun k _ hk => hx.block k hk Yd
 by_cases h1 : (Qq QG p).2 = 0
 case neg =>
  have e : Qdt p q fuel every = ([], (Qq QG p).2) := by unfold Qdt; rw [if_pos h1]
  rw [e]
  refine Zbt ?_
  refine Zcx ?_
  refine Zl ?_
  refine ZdT ?_
  exact ⟨none, 0, rfl, Qz.nil_ _ _ _, hS.ext.below⟩
 obtain ⟨hpB, hpbr⟩ := Qi3 h1
 refine Zbt ?_
 refine Zq ?_
 refine ZG ?_
 refine Calls.mono (Qt4 QG QcZ Qvv Qvu Qvt q _ hG hq hS) ?_
 rintro _ w4 ⟨v2, rfl, hS'⟩
 refine Za ?_
 replace hS := hS'
 clear hS'
 obtain ⟨qA, qc, Y, rfl, hY, hYr⟩ := (hS.fact (.head _)).locate
 replace hS := hS.learn (φ := ArA qA qc Y) fun w2 hx => hYr w2 fun k _ hk => hx.block k hk Yd
 by_cases h2 : (QA QG q).2.2 = 0
 case neg =>
  have e : Qdt p q fuel every = ([], (QA QG q).2.2) := by unfold Qdt; rw [if_neg (fun h => h h1), if_pos h2]
  rw [e]
  refine Zaf ?_
  refine Zau ?_
  refine Zb0 ?_
  refine Zcx ?_
  refine Zl ?_
  refine ZdT ?_
  exact ⟨none, 0, rfl, Qz.nil_ _ _ _, hS.ext.below⟩
 obtain ⟨hqB, hqbr, hql⟩ := QnC h2
 have hask : Qdt p q fuel every = if every < 0 then ([], 2)
   else if (Qdr (Qq QG p).1 (QA QG q).1 ((QA QG q).2.1 : Nat) fuel).2 ≠ 0 then ([], (Qdr (Qq QG p).1 (QA QG q).1 ((QA QG q).2.1 : Nat) fuel).2)
   else ((Qdr (Qq QG p).1 (QA QG q).1 ((QA QG q).2.1 : Nat) fuel).1.map QhN, 0) := by
  unfold Qdt; rw [if_neg (fun h => h h1), if_neg (fun h => h h2)]
 rw [hask]
 clear hask
 have hevs := Qpj (vars := ((QA QG q).2.1 : Nat)) (fuel := fuel) hpbr hqbr
 have hfew := Qrs (P := (Qq QG p).1) (q := (QA QG q).1) (vars := ((QA QG q).2.1 : Nat)) (fuel := fuel)
 generalize (QA QG q).2.1 = vn at *
 rw [← hX] at hpn hpl hpB hevs hfew ⊢
 rw [← hY] at hqn hqB hevs hfew ⊢
 have hall := QoI X pA pc Y qA qc (vn : Nat) fuel every _ Und.head.tail.tail Und.head (by simp at hpl; omega) (fun c hc => by
  obtain ⟨a1, a2⟩ := Qdb c.hd (by have := (hpn c hc).1; omega)
  obtain ⟨b1, b2⟩ := Qdb c.bd (by have := (hpn c hc).2; omega)
  exact ⟨a1, a2, b1, b2⟩) (by rw [← TA.len_ts]; exact (Qdb _ Ya).1) (Qdb _ Ya).2 hev hS
 refine Zaf ?_
 refine Zau ?_
 refine Zb0 ?_
 refine Zq ?_
 refine Zbz ?_
 refine Za2 ?_
 refine Zev ?_
 refine Calls.mono (hall) ?_
 rintro _ w5 ⟨A5, c5, L, F5, rfl, hL, hF5, hK, hS'⟩
 refine Za ?_
 replace hS := hS'
 clear hS'
 by_cases h3 : every < 0
 ·have e : (QrU (X.map LC.cl) Y.ts (vn : Nat) fuel every).2 = 2 := by rw [Qs6 _ _ _ _ _ h3, if_neg (by rw [hpB, hqB]; simp)]
  rw [if_pos h3, e]
  refine Zbt ?_
  refine Zcx ?_
  refine Zl ?_
  refine ZdT ?_
  exact ⟨none, 0, rfl, Qz.nil_ _ _ _, hS.ext.below⟩
 rw [if_neg h3]
 rw [Quu _ _ _ _ _ Ya] at hL ⊢
 by_cases h4 : (Qdr (X.map LC.cl) Y.ts (vn : Nat) fuel).2 = 0
 case neg =>
  rw [if_pos h4]
  refine Zbt ?_
  refine Zcx ?_
  refine Zl ?_
  refine ZdT ?_
  exact ⟨none, 0, rfl, Qz.nil_ _ _ _, hS.ext.below⟩
 rw [if_neg (fun h => h h4), h4]
 have hLl : L.length ≤ 13 := by have := congrArg List.length hL; rw [List.length_map] at this; omega
 have hmap : (Qdr (X.map LC.cl) Y.ts (vn : Nat) fuel).1.map QhN = L.map fun x => QbB x.k x.T.ts := by rw [← hL, List.map_map]; rfl
 have hx : ∀ x ∈ L, x.T.ts.nodes ≤ 200 ∧ rng x.T.ts ∧ (QbB x.k x.T.ts).length ≤ 1000000 := fun x hx => by
  have := hevs x.ev (by rw [← hL]; exact List.mem_map.2 ⟨x, hx, rfl⟩)
  exact ⟨this.1, this.2.1, this.2.2.2⟩
 rw [hmap]
 refine Zbt ?_
 refine Zq ?_
 refine Zm ?_
 refine Zs ?_
 refine Qcl (k := L.length) (bts := 16) (z := .string ⟨#[]⟩) hS Yb Yb rfl rfl rfl rfl Ya Ya rfl ?_
 clear hS
 intro zb w6 hS
 refine ZbN ?_
 refine Qo 52 (53 :: 54 :: 55 :: 56 :: 17 :: 16 :: 57 :: 58 :: 59 :: 60 :: 61 :: 62 :: []) (fun (R : List KE) v w' => ∃ D, L = D ++ R ∧ v = .int .i64 (D.length : Nat) ∧ St [] w0 ((zb, .cells (D.map (fun x => sv (QbB x.k x.T.ts)) ++ R.map (fun _ => Value.string ⟨#[]⟩)).toArray 9) :: []) F5 w') (fun R => R.length) (L) ?_ Yb ?_
 ·exact ⟨[], rfl, rfl, by simpa [List.map_const'] using hS⟩
 clear hS
 rintro R _ w7 jv ⟨D, hD, rfl, hS⟩ ih
 have hlD : L.length = D.length + R.length := by rw [hD]; simp
 cases R with
 | nil =>
  rw [List.append_nil] at hD
  subst hD
  simp only [List.length_nil] at hlD
  simp only [List.map_nil, List.append_nil] at hS
  refine ZL ?_
  refine Zm ?_
  refine Zl ?_
  refine ZdT ?_
  have hown := hS.own (zb, _) (.head _)
  refine ⟨some ⟨zb, 0, none⟩, L.length, by simp, ?_, hS.ext.below⟩
  have := Qz.own (xs := (L.map fun x => QbB x.k x.T.ts).map sv) (sp := []) (sz := 1) (len := L.length) (cap := L.length) (b := zb) (el := 9) (w := w7) (by rw [List.append_nil, List.map_map]; exact hown) Yd (Nat.le_refl _)
  simpa using this
 | cons x R =>
  simp only [List.length_cons] at hlD
  obtain ⟨hx1, hx2, hx3⟩ := hx x (by rw [hD]; simp)
  have hKw := hS.und hK
  rw [hD] at hKw
  obtain ⟨b6, o6, rfl⟩ := hKw.some_ Yh
  obtain ⟨q0, q1⟩ := hKw.cells
  have hAr : Und F5 (ArA x.A x.c x.T) := hK.imp fun w h => h.2.2 x (by rw [hD]; simp)
  have hput : Put (D.map (fun x => sv (QbB x.k x.T.ts)) ++ (x :: R).map (fun _ => Value.string ⟨#[]⟩)) D.length (sv (QbB x.k x.T.ts)) ((D ++ [x]).map (fun x => sv (QbB x.k x.T.ts)) ++ R.map (fun _ => Value.string ⟨#[]⟩)) := by
   have := Qqc (v := sv (QbB x.k x.T.ts)) (u := Value.string ⟨#[]⟩) (R := R.map (fun _ => Value.string ⟨#[]⟩)) (D.map (fun x => sv (QbB x.k x.T.ts)))
   simpa using this
  refine ZaV ?_
  refine Zee ?_
  refine Z9 ?_
  refine Za3 ?_
  clear hS
  intro b1 wx1 hS
  refine ZbJ ?_
  clear hS
  intro wx2 hS
  refine Zb ?_
  refine Z1 ?_
  refine Z9 ?_
  refine Zk ?_
  refine Calls.mono (QsD x.k x.T.ts _ _ (fun w' h => hG w' (hS.ext.trans h)) (fun w' h => hW w' (hS.ext.trans h)) (hS.und hAr).sl hx2 Ya Ya) ?_
  rintro _ w8 ⟨rfl, hb8⟩
  refine Za ?_
  replace hS := hS.grow hb8
  refine ZM ?_
  refine ZcM ?_
  clear hS
  intro w9 hS
  refine Zam ?_
  refine ih (R) _ _ _ ?_ ?_ Yb Yc
  ·simp
  ·exact ⟨D ++ [x], by rw [hD]; simp, by simp, hS.drop⟩
def Qvg : Str := [112, 40, 52, 41, 46, 32, 112, 40, 53, 41, 46, 32, 113, 40, 88, 44, 89, 41, 32, 58, 45, 32, 112, 40, 88, 41, 44, 32, 112, 40, 89, 41, 44, 32, 108, 101, 115, 115, 40, 88, 44, 89, 41, 46]
def Qvf : Str := [113, 40, 65, 44, 66, 41, 46]
theorem Qrp : Qdt Qvg Qvf 20 1 = ([[121, 101, 115, 32, 48, 61, 52, 32, 49, 61, 53], [100, 111, 110, 101]], 0) := by kernel_rfl
theorem Qpl (w : World) (hG : ∀ w', Ext [] w w' → QcZ w') (hW : ∀ w', Ext [] w w' → QeC w') : Calls Tryz.prog 23 #[] w fun e w' => e = .returned (.bool true) ∧ Below w.heap.size w w' := by
 have hS := St.start w
 have h : Calls Tryz.prog 21 #[sv Qvg, sv Qvf, .int .i64 20, .int .i64 1] w fun e w' => ∃ (A : Option Addr) (c : Nat), e = .returned (.tuple #[.slice A 2 c, .int .i64 0]) ∧ Qz 1 [sv [121, 101, 115, 32, 48, 61, 52, 32, 49, 61, 53], sv [100, 111, 110, 101]] A 2 c w' ∧ Below w.heap.size w w' := by
  have h := Qrt Qvg Qvf 20 1 w hG hW Yg Yg Yg
  rw [Qrp] at h
  exact h
 refine QmR Tryz.func23 rfl Tryz.ntmps23 rfl ?_
 refine Zj ?_
 refine Zg ?_
 refine ZeD ?_
 refine Calls.mono (h) ?_
 rintro _ w1 ⟨A, c, rfl, hf, hb⟩
 refine Za ?_
 replace hS := hS.grow hb
 obtain ⟨b5, o5, rfl⟩ := hf.some_ Yg
 have q0 := hf.get (j := 0) (v := sv [121, 101, 115, 32, 48, 61, 52, 32, 49, 61, 53]) rfl
 have q1 := hf.get (j := 1) (v := sv [100, 111, 110, 101]) rfl
 have e0 : (⟨([121, 101, 115, 32, 48, 61, 52, 32, 49, 61, 53] : Str).toArray⟩ : ByteArray) = ⟨#[121, 101, 115, 32, 48, 61, 52, 32, 49, 61, 53]⟩ := rfl
 have e1 : (⟨([100, 111, 110, 101] : Str).toArray⟩ : ByteArray) = ⟨#[100, 111, 110, 101]⟩ := rfl
 refine Zaz ?_
 refine Zl ?_
 refine Zm ?_
 refine Zco ?_
 refine ZbA ?_
 refine Zn ?_
 refine Zbb ?_
 refine ZM ?_
 refine Zbx ?_
 refine ZaP ?_
 refine Zbb ?_
 refine ZM ?_
 refine Zbx ?_
 refine ZaP ?_
 refine ZN ?_
 refine Qc Tryz.func23 rfl Yb ?_
 exact ⟨rfl, hS.ext.below⟩
end Go.Proofs.YthliapbflkfdiacGreatDoor
