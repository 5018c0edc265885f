/- Steps of the proof. -/
import Derived.Test.YthliapbflkfdiacGreatDoorG15
namespace Go.Proofs.YthliapbflkfdiacGreatDoor
open Go.RowKit
set_option linter.unusedVariables false
set_option linter.unusedSimpArgs false
theorem Qo1 {n f f' : Nat} {c : HC} (hf : f ≤ f') (h : Q5 n c f = true) : Q5 n c f' = true := by
 rcases QP h with ⟨k, a, b, s⟩ | ⟨k, a, s⟩ | ⟨k, s⟩ | ⟨k, a, b, d, s⟩
 ·unfold Q5; rw [if_pos k]; simp [a, b, s]
 ·unfold Q5; rw [if_neg Ya, if_pos k]; simp [a, s]
 ·unfold Q5; rw [if_neg Ya, if_neg Ya, if_pos k]; simp [s]
 ·unfold Q5; rw [if_neg Ya, if_neg Ya, if_neg Ya, if_pos k]
  simp only [Bool.and_eq_true, decide_eq_true_eq, Bool.not_eq_true', decide_eq_false_iff_not]
  exact ⟨a, b, by omega, s⟩
theorem Qbq {n : Nat} {Y : List HC} (hY : QO n Y = true) : ∀ {X : List HC}, QO n X = true → QO n (X ++ Y) = true
 | [], _ => hY
 | c :: r, h => by
  simp only [QO, Bool.and_eq_true, List.cons_append] at h ⊢
  exact ⟨Qo1 Yd h.1, Qbq hY h.2⟩
theorem Qle {s : ByteArray} (h : Qeq s = true) : s ≠ eS := by
 intro e; subst e; exact absurd h Yg
theorem Qnp {s : ByteArray} (h : s.toList = []) : s = eS := by
 apply QiN.1; rw [h]; kernel_rfl
theorem Qea {vars k n : Int} {s : ByteArray} {l : Nat} (h : Qa1 vars k n s l = true) : (k = 0 ∧ 0 ≤ n ∧ n < vars ∧ s = eS ∧ l = 0) ∨ (k = 1 ∧ n = 0 ∧ s ≠ eS ∧ l = 0) ∨ (k = 2 ∧ s = eS ∧ l = 0) ∨ (k = 3 ∧ n = 0 ∧ s ≠ eS ∧ 1 ≤ l ∧ l ≤ 4) := by
 unfold Qa1 at h
 split at h
 ·simp only [Bool.and_eq_true, decide_eq_true_eq] at h
  exact .inl ⟨‹_›, h.1.1.1, h.1.1.2, Qnp h.1.2, h.2⟩
 split at h
 ·simp only [Bool.and_eq_true, decide_eq_true_eq] at h
  exact .inr (.inl ⟨‹_›, h.1.1, Qle h.1.2, h.2⟩)
 split at h
 ·simp only [Bool.and_eq_true, decide_eq_true_eq] at h
  exact .inr (.inr (.inl ⟨‹_›, Qnp h.1.2, h.2⟩))
 split at h
 ·simp only [Bool.and_eq_true, decide_eq_true_eq] at h
  exact .inr (.inr (.inr ⟨‹_›, h.1.1.1.1, Qle h.1.1.1.2, h.1.2, h.2⟩))
 ·cases h
theorem QbP {vars k n : Int} {s : ByteArray} {ar r : Ts} (h : (Ts.cons k n s ar r).good vars = true) : Qa1 vars k n s ar.length = true ∧ ar.good vars = true ∧ r.good vars = true := by
 simp only [Ts.good, Bool.and_eq_true] at h
 exact ⟨h.1.1, h.1.2, h.2⟩
theorem Ts.good_ap (v : Int) (D R : Ts) : (D.app R).good v = (D.good v && R.good v) := by
 induction D with
 | nil => rfl
 | cons k n b ar r _ ih => simp only [Ts.app, Ts.good, ih, Bool.and_assoc]
theorem QhY {n f : Nat} {i : Int} (h0 : 0 ≤ i) (h : i < n) : Q5 n ⟨0, i, eS⟩ f = true := by unfold Q5; simp [h, h0]
theorem Qjk {n f : Nat} {s : ByteArray} (h : s ≠ eS) : Q5 n ⟨1, 0, s⟩ f = true := by unfold Q5; simp [h]
theorem QlD {n f : Nat} {i : Int} : Q5 n ⟨2, i, eS⟩ f = true := by unfold Q5; simp
theorem QhZ {n f l : Nat} {s : ByteArray} (h : s ≠ eS) (h1 : 1 ≤ l) (h2 : l ≤ 4) (h3 : l ≤ f) : Q5 n ⟨3, (l : Nat), s⟩ f = true := by
 unfold Q5; simp [h]; omega
theorem QqR {vars : Int} {all : Nat} (hv : vars ≤ all) (T : Ts) : ∀ p, T.good vars = true → p + (Qbx T p).2.length ≤ all → QO all (Qbx T p).1 = true ∧ QO all (Qbx T p).2 = true := by
 induction T with
 | nil => intro p _ _; exact ⟨rfl, rfl⟩
 | cons k n s ar r iha ihr =>
  intro p hg hp
  obtain ⟨hn, ha, hr⟩ := QbP hg
  rcases Qea hn with ⟨rfl, h0, h1, h2, h3⟩ | ⟨rfl, h0, h1, h2⟩ | ⟨rfl, h0, h1⟩ | ⟨rfl, h0, h1, h2, h3⟩
  ·rw [Qbp _ _ _ _ _ Yg] at hp ⊢
   obtain ⟨i1, i2⟩ := ihr p hr hp
   refine ⟨?_, i2⟩
   simp only [QO, Bool.and_eq_true]
   exact ⟨QhY h0 Ya, i1⟩
  ·rw [Qbp _ _ _ _ _ Yg] at hp ⊢
   obtain ⟨i1, i2⟩ := ihr p hr hp
   refine ⟨?_, i2⟩
   simp only [QO, Bool.and_eq_true]
   exact ⟨Qjk h1, i1⟩
  ·rw [Qbp _ _ _ _ _ Yg] at hp ⊢
   obtain ⟨i1, i2⟩ := ihr p hr hp
   refine ⟨?_, i2⟩
   simp only [QO, Bool.and_eq_true]
   exact ⟨QlD, i1⟩
  ·rw [Qcm] at hp ⊢
   have hls := Qeg s ar p
   simp only [List.length_append] at hp
   obtain ⟨a1, a2⟩ := iha (p + 1 + ar.length) ha Ya
   obtain ⟨i1, i2⟩ := ihr (p + (Qls s ar p).length) hr Ya
   refine ⟨?_, Qbq i2 ?_⟩
   ·simp only [QO, Bool.and_eq_true]
    exact ⟨QhY Ya Ya, i1⟩
   ·unfold Qls
    simp only [QO, Bool.and_eq_true]
    exact ⟨QhZ h1 h2 h3 (by rw [List.length_append, Qb8]; omega), Qbq a2 a1⟩
theorem Qlu {vars k n : Int} {s : ByteArray} {ar : Ts} {all p : Nat} (hv : vars ≤ all) (h : gB vars k n s ar = true) (hp : p + (Qb2 k n s ar p).length ≤ all) : QO all (Qb2 k n s ar p) = true := by
 simp only [gB, Qh1, Bool.and_eq_true, Bool.or_eq_true, decide_eq_true_eq] at h
 obtain ⟨hn, ha, _⟩ := QbP h.1.2
 rcases Qea hn with ⟨rfl, _⟩ | ⟨rfl, h0, h1, h2⟩ | ⟨rfl, _⟩ | ⟨rfl, h0, h1, h2, h3⟩
 ·rcases h.1.1 with h | h <;> omega
 ·unfold Qb2
  rw [if_neg Yg]
  simp only [QO, Bool.and_eq_true, and_true]
  exact Qjk h1
 ·rcases h.1.1 with h | h <;> omega
 ·unfold Qb2 at hp ⊢
  rw [if_pos rfl] at hp ⊢
  have hls := Qeg s ar p
  obtain ⟨a1, a2⟩ := QqR hv ar (p + 1 + ar.length) ha Ya
  unfold Qls
  simp only [QO, Bool.and_eq_true]
  exact ⟨QhZ h1 h2 h3 (by rw [List.length_append, Qb8]; omega), Qbq a2 a1⟩
theorem Qlt {vars : Int} {all : Nat} (hv : vars ≤ all) (T : Ts) : ∀ p, T.goals vars = true → p + (QaC T p).1.length ≤ all → QO all (QaC T p).1 = true := by
 induction T with
 | nil => intro p _ _; rfl
 | cons k n s ar r _ ihr =>
  intro p hg hp
  simp only [Ts.goals, Bool.and_eq_true] at hg
  simp only [QaC, List.length_append] at hp ⊢
  exact Qbq (ihr _ hg.2 Ya) (Qlu hv hg.1 Ya)
theorem QfO {all : Nat} : ∀ m i, i + m ≤ all → QO all (Qcz m i) = true
 | 0, i, _ => rfl
 | m + 1, i, h => by
  simp only [Qcz, QO, Bool.and_eq_true]
  exact ⟨QhY Ya Ya, QfO m (i + 1) Ya⟩
theorem Qgw {c : Cl} (h : cB c = true) : 0 ≤ c.vars ∧ c.vars ≤ 8 ∧ c.bd.length ≤ 5 ∧ c.bd.goals c.vars = true ∧ gB c.vars c.k c.n c.s c.hd = true := by
 simp only [cB, qB, Bool.and_eq_true, decide_eq_true_eq] at h
 exact ⟨h.1.1.1.1.1, h.1.1.1.1.2, h.1.1.1.2, h.1.1.2, h.1.2⟩
theorem Qn1 {vars k n : Int} {s : ByteArray} {ar : Ts} (h : gB vars k n s ar = true) : ar.nodes + 1 ≤ 24 := by
 simp only [gB, Bool.and_eq_true, decide_eq_true_eq] at h
 exact h.2
theorem QcV {c : Cl} (h : cB c = true) : (Qt c).length ≤ 300 := by
 obtain ⟨h0, h1, h2, h3, h4⟩ := Qgw h
 have h5 := Qn1 h4
 have h6 := Ts.goals_nodes _ _ h3
 have h7 := QmI c.k c.n c.s c.hd c.vars.toNat
 have h8 := Qj2 c.bd (c.vars.toNat + (Qb2 c.k c.n c.s c.hd c.vars.toNat).length)
 simp only [Qt, List.length_append, Qab]
 omega
theorem Qia {c : Cl} (h : cB c = true) : Q4 (Qt c) = true := by
 obtain ⟨h0, h1, h2, h3, h4⟩ := Qgw h
 have hl := QcV h
 unfold Q4
 simp only [Bool.and_eq_true, decide_eq_true_eq]
 refine ⟨by omega, ?_⟩
 have he : (Qt c).length = c.vars.toNat + ((Qb2 c.k c.n c.s c.hd c.vars.toNat).length + (QaC c.bd (c.vars.toNat + (Qb2 c.k c.n c.s c.hd c.vars.toNat).length)).1.length) := by
  simp only [Qt, List.length_append, Qab]
 unfold Qt
 refine Qbq (Qbq (Qlt (vars := c.vars) (by unfold Qt at he; omega) _ _ h3 (by unfold Qt at he; omega)) (Qlu (vars := c.vars) (by unfold Qt at he; omega) h4 (by unfold Qt at he; omega))) (QfO _ _ (by unfold Qt at he; omega))
def QkC (L : List HC) (base : Nat) (q : Nat) (X : List HC) : Prop := ∀ i c, X[i]? = some c → hat L ((base + (q + i) : Nat) : Int) = some (Q0 base c)
theorem QkC.app {L : List HC} {base q : Nat} {X Y : List HC} (h : QkC L base q (X ++ Y)) : QkC L base q X ∧ QkC L base (q + X.length) Y := by
 refine ⟨fun i c hi => h i c ?_, fun i c hi => ?_⟩
 ·rw [List.getElem?_append_left]
  ·exact hi
  ·rcases Nat.lt_or_ge i X.length with hl | hl
   ·exact hl
   ·rw [List.getElem?_eq_none hl] at hi; cases hi
 ·have := h (X.length + i) c (by rw [List.getElem?_append_right Ya]; simpa using hi)
  rw [show q + X.length + i = q + (X.length + i) by omega]; exact this
theorem QkC.head {L : List HC} {base q : Nat} {c : HC} {X : List HC} (h : QkC L base q (c :: X)) : hat L ((base + q : Nat) : Int) = some (Q0 base c) ∧ QkC L base (q + 1) X := by
 refine ⟨h 0 c rfl, fun i d hi => ?_⟩
 rw [show q + 1 + i = q + (i + 1) by omega]
 exact h (i + 1) d (by simpa using hi)
def up (base : Nat) (n : Int) : Int := n + base
theorem Qeb {T : Ts} (h : T.length = 0) : T = .nil := Ts.nil_of_length h
theorem Qfn (h : HH) (B : List HC) : QkC (h.cs ++ B.map (Q0 h.cs.length)) h.cs.length 0 B := by
 intro i c hi
 refine Qba.2 ⟨by omega, ?_, ?_⟩
 ·have : i < B.length := by
   rcases Nat.lt_or_ge i B.length with hl | hl
   ·exact hl
   ·rw [List.getElem?_eq_none hl] at hi; cases hi
  simp; omega
 ·rw [show ((h.cs.length + (0 + i) : Nat) : Int).toNat = h.cs.length + i by omega, List.getElem?_append_right Ya]
  simp [hi]
theorem Qo0 {n m f : Nat} {c : HC} (hn : n ≤ m) (h : Q5 n c f = true) : Q5 m c f = true := by
 rcases QP h with ⟨k, a, b, s⟩ | ⟨k, a, s⟩ | ⟨k, s⟩ | ⟨k, a, b, d, s⟩
 ·unfold Q5; rw [if_pos k]; simp [a, s]; omega
 ·unfold Q5; rw [if_neg Ya, if_pos k]; simp [a, s]
 ·unfold Q5; rw [if_neg Ya, if_neg Ya, if_pos k]; simp [s]
 ·unfold Q5; rw [if_neg Ya, if_neg Ya, if_neg Ya, if_pos k]; simp [a, b, d, s]
theorem Qji {n m : Nat} (hn : n ≤ m) : ∀ {L : List HC}, QO n L = true → QO m L = true
 | [], _ => rfl
 | c :: r, h => by
  simp only [QO, Bool.and_eq_true] at h ⊢
  exact ⟨Qo0 hn h.1, Qji hn h.2⟩
theorem QmO {n m f base : Nat} {c : HC} (hn : base + n ≤ m) (h : Q5 n c f = true) : Q5 m (Q0 base c) f = true := by
 unfold Q0
 split
 ·rename_i h0
  rcases QP h with ⟨k, a, b, s⟩ | ⟨k, a, s⟩ | ⟨k, s⟩ | ⟨k, a, b, d, s⟩
  ·unfold Q5; dsimp only; rw [if_pos h0]; simp [s]; omega
  ·omega
  ·omega
  ·omega
 ·rename_i h0
  rcases QP h with ⟨k, a, b, s⟩ | ⟨k, a, s⟩ | ⟨k, s⟩ | ⟨k, a, b, d, s⟩
  ·omega
  ·unfold Q5; rw [if_neg Ya, if_pos k]; simp [a, s]
  ·unfold Q5; rw [if_neg Ya, if_neg Ya, if_pos k]; simp [s]
  ·unfold Q5; rw [if_neg Ya, if_neg Ya, if_neg Ya, if_pos k]; simp [a, b, d, s]
theorem QhX {n m base : Nat} (hn : base + n ≤ m) : ∀ {L : List HC}, QO n L = true → QO m (L.map (Q0 base)) = true
 | [], _ => rfl
 | c :: r, h => by
  simp only [QO, Bool.and_eq_true, List.map_cons, List.length_map] at h ⊢
  exact ⟨QmO hn h.1, QhX hn h.2⟩
theorem Qf5 {h : HH} {K : List HC} (hg : QF h = true) (hk : Q4 K = true) (hl : h.cs.length + K.length ≤ 65536) : QF ⟨h.cs ++ K.map (Q0 h.cs.length), h.tr⟩ = true := by
 simp only [QF, Q4, QbQ, Bool.and_eq_true, decide_eq_true_eq, List.length_append, List.length_map] at hg hk ⊢
 obtain ⟨⟨h1, h2⟩, h3, h4⟩ := hg
 refine ⟨⟨hl, Qbq (QhX Ya hk.2) (Qji Ya h2)⟩, h3, ?_⟩
 rw [List.all_eq_true] at h4 ⊢
 intro a ha
 have := h4 a ha
 unfold Qax at this ⊢
 cases hq : hat h.cs a with
 | none => rw [hq] at this; cases this
 | some x =>
  rw [hq] at this
  obtain ⟨q0, q1, q2⟩ := Qba.1 hq
  have : hat (h.cs ++ K.map (Q0 h.cs.length)) a = some x := Qba.2 ⟨q0, by simp; omega, by rw [List.getElem?_append_left Ya]; exact q2⟩
  rw [this]; assumption
theorem QmG {h : HH} {K : List HC} (hg : QF h = true) (hk : Q4 K = true) (hl : h.cs.length + K.length ≤ 65536) : Q3 h K = (⟨h.cs ++ K.map (Q0 h.cs.length), h.tr⟩, h.cs.length, 0) := by
 unfold Q3; rw [hg, hk, if_neg Yg, if_neg Ya]
def Ts.tms : Ts → List Tm
 | .nil => []
 | .cons k n s a r => ⟨k, n, s, a⟩ :: r.tms
theorem Ts.tms_len (T : Ts) : T.tms.length = T.length := by
 induction T with
 | nil => rfl
 | cons k n s a r _ ih => simp only [Ts.tms, List.length_cons, ih, Ts.length]
def tvw (t : Tm) : Vw Tm := if t.k = 0 then .var t.n else .node t.k t.n t.s t.ar.tms
def Qbt (B : Bnd) (t : Tm) : Vw Tm := tvw (Qe B t)
def QrT (j : Bnd → Tm → Tm → Bnd) : Sy where
 X := Tm
 S := Bnd
 ok := Bok
 dom := fun _ _ => True
 view := Qbt
 bind := fun B v t => (v, Qe B t) :: B
 join := j
theorem QcH {B : Bnd} {t : Tm} {v : Int} : Qbt B t = .var v ↔ (Qe B t).k = 0 ∧ (Qe B t).n = v := by
 unfold Qbt tvw
 split
 ·rename_i h; simp [h]
 ·rename_i h; simp [h]
theorem Qd5 {B : Bnd} {t : Tm} {k n : Int} {s : ByteArray} {ar : List Tm} (h : Qbt B t = .node k n s ar) : (Qe B t).k = k ∧ k ≠ 0 ∧ (Qe B t).n = n ∧ (Qe B t).s = s ∧ (Qe B t).ar.tms = ar := by
 unfold Qbt tvw at h
 split at h
 ·cases h
 ·rename_i h0; cases h; exact ⟨rfl, h0, rfl, rfl, rfl⟩
theorem QqL {B : Bnd} {v : Int} {t : Tm} (hB : Bok ((v, t) :: B)) (x : Tm) : Qe ((v, t) :: B) x = if (Qe B x).k = 0 ∧ (Qe B x).n = v then t else Qe B x := by
 obtain ⟨hv, ht, hB'⟩ := hB
 have hBo : Bok ((v, t) :: B) := ⟨hv, ht, hB'⟩
 have htt : Qe ((v, t) :: B) t = t := by
  by_cases hk : t.k = 0
  ·refine QdR ?_
   obtain ⟨h1, h2⟩ := ht hk
   simp only [Qdn]
   rw [if_neg h1]; exact h2
  ·exact Qa9 hk
 have key : ∀ (p : Nat) (x : Tm), Qii B p x → Qe ((v, t) :: B) x = if (Qe B x).k = 0 ∧ (Qe B x).n = v then t else Qe B x := by
  intro p
  induction p using Nat.strongRecOn with
  | _ p ih =>
   intro x hx
   by_cases hk : x.k = 0
   ·cases hg : Qdn x.n B with
    | none =>
     rw [QdR hg]
     by_cases hn : x.n = v
     ·rw [if_pos ⟨hk, hn⟩, Qf4 hBo hk (u := t) (by simp only [Qdn]; rw [if_pos hn]), htt]
     ·rw [if_neg fun h => hn h.2, QdR]
      simp only [Qdn]; rw [if_neg hn]; exact hg
    | some u =>
     obtain ⟨q, hq, hu⟩ := hx.step hB' hk hg
     have hn : x.n ≠ v := fun e => by rw [e] at hg; rw [show Qdn v B = none from hv] at hg; cases hg
     rw [Qf4 hB' hk hg, Qf4 hBo hk (u := u) (by simp only [Qdn]; rw [if_neg hn]; exact hg)]
     exact ih q hq u hu
   ·rw [Qa9 hk, Qa9 hk, if_neg fun h => hk h.1]
 exact key _ x (Qii.start B x)
theorem QfQ {B : Bnd} {v : Int} {t : Tm} (hB : Bok ((v, t) :: B)) (x : Tm) : Qbt ((v, t) :: B) x = (Qbt B x).sub v (tvw t) := by
 have := QqL hB x
 unfold Qbt
 rw [this]
 by_cases h : (Qe B x).k = 0
 ·by_cases h2 : (Qe B x).n = v
  ·rw [if_pos ⟨h, h2⟩]
   unfold Vw.sub
   rw [show tvw (Qe B x) = .var (Qe B x).n by unfold tvw; rw [if_pos h]]
   simp [h2]
  ·rw [if_neg fun e => h2 e.2]
   rw [show tvw (Qe B x) = .var (Qe B x).n by unfold tvw; rw [if_pos h]]
   unfold Vw.sub; simp [h2]
 ·rw [if_neg fun e => h e.1]
  rw [show tvw (Qe B x) = .node (Qe B x).k (Qe B x).n (Qe B x).s (Qe B x).ar.tms by unfold tvw; rw [if_neg h]]
  rfl
def QtK (j : Bnd → Tm → Tm → Bnd) : Prop := ∀ B a b u v, Bok B → Qbt B a = .var u → Qbt B b = .var v → u ≠ v → ∃ p q t, j B a b = (p, t) :: B ∧ t.k = 0 ∧ t.n = q ∧ ((p = u ∧ q = v) ∨ (p = v ∧ q = u))
theorem Qga {B : Bnd} (hB : Bok B) {x : Tm} {v : Int} (h : Qbt B x = .var v) : Qdn v B = none := by
 obtain ⟨h1, h2⟩ := QcH.1 h
 rw [← h2]; exact Qcv hB x h1
theorem Qsb {j : Bnd → Tm → Tm → Bnd} (hj : QtK j) : (QrT j).Law where
 bind_ok := by
  intro B x v t k n s ar hB _ _ hx ht
  obtain ⟨h1, h2, _⟩ := Qd5 ht
  exact ⟨Qga hB hx, fun e => absurd e (by show (Qe B t).k ≠ 0; rw [h1]; exact h2), hB⟩
 bind_dom := fun _ => trivial
 bind_view := by
  intro B x v t k n s ar y hB _ _ hx ht _
  obtain ⟨h1, h2, _⟩ := Qd5 ht
  have hb : Bok ((v, Qe B t) :: B) := ⟨Qga hB hx, fun e => absurd e (by show (Qe B t).k ≠ 0; rw [h1]; exact h2), hB⟩
  exact QfQ hb y
 join_ok := by
  intro B a b u v hB _ _ ha hb hne
  obtain ⟨p, q, t, e, hk, hn, hpq⟩ := hj B a b u v hB ha hb hne
  show Bok (j B a b)
  rw [e]
  have fu := Qga hB ha
  have fv := Qga hB hb
  rcases hpq with ⟨rfl, rfl⟩ | ⟨rfl, rfl⟩
  ·exact ⟨fu, fun _ => ⟨by rw [hn]; exact fun e => hne e.symm, by rw [hn]; exact fv⟩, hB⟩
  ·exact ⟨fv, fun _ => ⟨by rw [hn]; exact hne, by rw [hn]; exact fu⟩, hB⟩
 join_dom := fun _ => trivial
 join_view := by
  intro B a b u v hB _ _ ha hb hne
  obtain ⟨p, q, t, e, hk, hn, hpq⟩ := hj B a b u v hB ha hb hne
  have fu := Qga hB ha
  have fv := Qga hB hb
  have et : tvw t = .var q := by unfold tvw; rw [if_pos hk, hn]
  rcases hpq with ⟨rfl, rfl⟩ | ⟨rfl, rfl⟩
  ·refine .inl fun y _ => ?_
   show Qbt (j B a b) y = _
   have hb2 : Bok ((p, t) :: B) := ⟨fu, fun _ => ⟨by rw [hn]; exact fun e => hne e.symm, by rw [hn]; exact fv⟩, hB⟩
   rw [e]
   have := QfQ hb2 y
   rw [et] at this; exact this
  ·refine .inr fun y _ => ?_
   show Qbt (j B a b) y = _
   have hb2 : Bok ((p, t) :: B) := ⟨fv, fun _ => ⟨by rw [hn]; exact hne, by rw [hn]; exact fu⟩, hB⟩
   rw [e]
   have := QfQ hb2 y
   rw [et] at this; exact this
def QqU (B : Bnd) (a b : Tm) : Bnd := ((Qe B a).n, Qe B b) :: B
theorem QsJ : QtK QqU := fun B a b u v hB ha hb hne => by
 obtain ⟨a1, a2⟩ := QcH.1 ha
 obtain ⟨b1, b2⟩ := QcH.1 hb
 exact ⟨u, v, Qe B b, by unfold QqU; rw [a2], b1, b2, .inl ⟨rfl, rfl⟩⟩
abbrev Qkz : Sy := QrT QqU
theorem QrB {g : Tm → Nat → Bool × Nat} : ∀ (T : Ts) (w : Nat), Qs3 g T w = Qpu g T.tms w
 | .nil, w => rfl
 | .cons k n s a r, w => by simp only [Qs3, Ts.tms, Qpu]; rw [QrB r]
theorem Qtl (B : Bnd) (v : Int) : ∀ (f : Nat) (t : Tm) (w : Nat), Ql8 B v f t w = QgA Qkz B v f t w
 | 0, t, w => rfl
 | f + 1, t, w => by
  simp only [Ql8, QgA]
  split
  ·rfl
  ·rw [show Qkz.view B t = tvw (Qe B t) from rfl]
   unfold tvw
   by_cases hk : (Qe B t).k = 0
   ·rw [if_pos hk, if_pos hk]
   ·rw [if_neg hk, if_neg hk, QrB]
    have : Ql8 B v f = QgA Qkz B v f := by funext t w; exact Qtl B v f t w
    rw [this]; rfl
theorem Qsq {j : Bnd → Tm → Tm → Bnd} {B : Bnd} (hB : Bok B) (v : Int) (f : Nat) (t : Tm) (w : Nat) : QgA (QrT j) B v f (Qe B t) w = QgA (QrT j) B v f t w := by
 cases f with
 | zero => rfl
 | succ f =>
  simp only [QgA]
  rw [show (QrT j).view B (Qe B t) = (QrT j).view B t by show tvw (Qe B (Qe B t)) = _; rw [QqK hB]; rfl]
def Us.ug (u : Us) : Ug Bnd := ⟨u.ok, u.B, u.w⟩
theorem QrF {g : Tm → Tm → Bnd → Nat → Us} {g' : Tm → Tm → Bnd → Nat → Ug Bnd} (P : Bnd → Prop) (hP : ∀ a b B w, P B → P (g a b B w).B) (hg : ∀ a b B w, P B → (g a b B w).ug = g' a b B w) : ∀ (T U : Ts) (B : Bnd) (w : Nat), P B → (Qma g T U B w).ug = Ql1 g' T.tms U.tms B w
 | .nil, U, B, w, _ => by cases U <;> rfl
 | .cons k n s a r, .nil, B, w, _ => rfl
 | .cons k n s a r, .cons k' n' s' a' r', B, w, h => by
  simp only [Qma, Ts.tms, Ql1]
  rw [← hg _ _ _ _ h]
  by_cases hok : (g ⟨k, n, s, a⟩ ⟨k', n', s', a'⟩ B w).ok = true
  ·rw [if_pos hok, if_pos (show (g ⟨k, n, s, a⟩ ⟨k', n', s', a'⟩ B w).ug.ok = true from hok)]
   exact QrF P hP hg r r' _ _ (hP _ _ _ _ h)
  ·rw [if_neg hok, if_neg (show ¬ (g ⟨k, n, s, a⟩ ⟨k', n', s', a'⟩ B w).ug.ok = true from hok)]
theorem Qrx {B : Bnd} (hB : Bok B) {v : Int} {t : Tm} (hv : Qdn v B = none) (ht : t.k ≠ 0) (w : Nat) : Bok (Qps v t B w).B := by
 unfold Qps
 split
 ·exact hB
 ·exact ⟨hv, fun e => absurd e ht, hB⟩
theorem Qoh {g : Tm → Tm → Bnd → Nat → Us} (hg : ∀ a b B w, Bok B → Bok (g a b B w).B) : ∀ (T U : Ts) (B : Bnd) (w : Nat), Bok B → Bok (Qma g T U B w).B
 | .nil, U, B, w, h => by cases U <;> exact h
 | .cons _ _ _ _ _, .nil, B, w, h => h
 | .cons k n s a r, .cons k' n' s' a' r', B, w, h => by
  simp only [Qma]
  split
  ·exact Qoh hg r r' _ _ (hg _ _ _ _ h)
  ·exact hg _ _ _ _ h
theorem QpF : ∀ (f : Nat) (a b : Tm) (B : Bnd) (w : Nat), Bok B → Bok (Qb4 f a b B w).B
 | 0, a, b, B, w, h => h
 | f + 1, a, b, B, w, h => by
  simp only [Qb4]
  split
  ·exact h
  split
  ·rename_i ha
   split
   ·rename_i hb
    show Bok (if _ then _ else _)
    split
    ·exact h
    ·rename_i hne
     exact ⟨Qcv h a ha, fun _ => ⟨fun e => hne e.symm, Qcv h b hb⟩, h⟩
   ·rename_i hb
    exact Qrx h (Qcv h a ha) hb _
  ·rename_i ha
   split
   ·rename_i hb
    exact Qrx h (Qcv h b hb) ha _
   ·split
    ·exact Qoh (fun a b B w h => QpF f a b B w h) _ _ _ _ h
    ·exact h
theorem Qtb : ∀ (f : Nat) (a b : Tm) (B : Bnd) (w : Nat), Bok B → (Qb4 f a b B w).ug = QfP Qkz f a b B w
 | 0, a, b, B, w, h => rfl
 | f + 1, a, b, B, w, h => by
  simp only [Qb4, QfP]
  by_cases hw : 400 < w + 1
  ·rw [if_pos hw, if_pos hw]; rfl
  rw [if_neg hw, if_neg hw]
  have va : Qkz.view B a = tvw (Qe B a) := rfl
  have vb : Qkz.view B b = tvw (Qe B b) := rfl
  rw [va, vb]
  have hasg : ∀ (v : Int) (t : Tm), (Qps v (Qe B t) B (w + 1)).ug = Qpt Qkz v t B (w + 1) := fun v t => by
   unfold Qps Qpt
   rw [Qtl, Qsq (j := QqU) h]
   split <;> rfl
  by_cases ha : (Qe B a).k = 0
  ·rw [if_pos ha, show tvw (Qe B a) = .var (Qe B a).n by unfold tvw; rw [if_pos ha]]
   by_cases hb : (Qe B b).k = 0
   ·rw [if_pos hb, show tvw (Qe B b) = .var (Qe B b).n by unfold tvw; rw [if_pos hb]]
    rfl
   ·rw [if_neg hb, show tvw (Qe B b) = .node (Qe B b).k (Qe B b).n (Qe B b).s (Qe B b).ar.tms by unfold tvw; rw [if_neg hb]]
    exact hasg _ _
  ·rw [if_neg ha, show tvw (Qe B a) = .node (Qe B a).k (Qe B a).n (Qe B a).s (Qe B a).ar.tms by unfold tvw; rw [if_neg ha]]
   by_cases hb : (Qe B b).k = 0
   ·rw [if_pos hb, show tvw (Qe B b) = .var (Qe B b).n by unfold tvw; rw [if_pos hb]]
    exact hasg _ _
   ·rw [if_neg hb, show tvw (Qe B b) = .node (Qe B b).k (Qe B b).n (Qe B b).s (Qe B b).ar.tms by unfold tvw; rw [if_neg hb]]
    show (if _ then _ else _ : Us).ug = if _ then _ else _
    have hc : Qoi (Qe B a) (Qe B b) = true ↔ (Qe B a).k = (Qe B b).k ∧ (Qe B a).n = (Qe B b).n ∧ (Qe B a).s = (Qe B b).s ∧ (Qe B a).ar.tms.length = (Qe B b).ar.tms.length := by
     simp only [Qoi, Bool.and_eq_true, decide_eq_true_eq, Ts.tms_len, and_assoc]
    by_cases hal : Qoi (Qe B a) (Qe B b) = true
    ·rw [if_pos hal]
     refine Eq.trans ?_ (if_pos (hc.1 hal)).symm
     exact QrF Bok (fun a b B w h => QpF f a b B w h) (fun a b B w h => Qtb f a b B w h) _ _ _ _ h
    ·rw [if_neg hal]
     exact (if_neg fun e => hal (hc.2 e)).symm
def Qiy (m : Int) (t : Tm) : Prop := (t.k = 0 → t.n < m) ∧ t.ar.vars (· < m)
def FB (m : Int) (B : Bnd) : Prop := ∀ x ∈ B, x.1 < m ∧ Qiy m x.2
theorem Ts.vars_mono {P Q : Int → Prop} (h : ∀ n, P n → Q n) (T : Ts) : T.vars P → T.vars Q := by
 induction T with
 | nil => exact id
 | cons k n s ar r iha ihr => exact fun ⟨a, b, c⟩ => ⟨fun e => h _ (a e), iha b, ihr c⟩
theorem Qiy.mono {m m' : Int} (h : m ≤ m') {t : Tm} (ht : Qiy m t) : Qiy m' t := ⟨fun e => Int.lt_of_lt_of_le (ht.1 e) h, Ts.vars_mono (fun _ hn => Int.lt_of_lt_of_le hn h) _ ht.2⟩
theorem FB.mono {m m' : Int} (h : m ≤ m') {B : Bnd} (hB : FB m B) : FB m' B := fun x hx => ⟨Int.lt_of_lt_of_le (hB x hx).1 h, (hB x hx).2.mono h⟩
theorem Qef {m : Int} {B : Bnd} (hB : FB m B) {t : Tm} (ht : Qiy m t) : Qiy m (Qe B t) := by
 rcases QjX (B := B) t with e | ⟨x, hx, e⟩
 ·rw [e]; exact ht
 ·rw [e]; exact (hB x hx).2
theorem QpO {m : Int} {T : Ts} (h : T.vars (· < m)) : ∀ x ∈ T.tms, Qiy m x := by
 induction T with
 | nil => intro x hx; cases hx
 | cons k n s ar r _ ih =>
  intro x hx
  rcases List.mem_cons.1 hx with rfl | hx
  ·exact ⟨h.1, h.2.1⟩
  ·exact ih h.2.2 x hx
theorem FB.get {m : Int} {B : Bnd} (hB : FB m B) {n : Int} (hn : m ≤ n) : Qdn n B = none := by
 induction B with
 | nil => rfl
 | cons x r ih =>
  simp only [Qdn]
  rw [if_neg (by have := (hB x (List.mem_cons_self ..)).1; omega)]
  exact ih fun y hy => hB y (List.mem_cons_of_mem _ hy)
theorem FB.cons {m : Int} {B : Bnd} (hB : FB m B) {v : Int} {t : Tm} (hv : v < m) (ht : Qiy m t) : FB m ((v, t) :: B) := fun x hx => by
 rcases List.mem_cons.1 hx with rfl | hx
 ·exact ⟨hv, ht⟩
 ·exact hB x hx
def QtL (j : Bnd → Tm → Tm → Bnd) : Prop := ∀ m B a b, FB m B → Qiy m a → Qiy m b → (Qe B a).k = 0 → (Qe B b).k = 0 → FB m (j B a b)
theorem QsK : QtL QqU := fun m B a b hB ha hb ka kb => hB.cons ((Qef hB ha).1 ka) (Qef hB hb)
theorem Qtx {j : Bnd → Tm → Tm → Bnd} {m : Int} {B : Bnd} (hB : FB m B) {v : Int} {t : Tm} (hv : v < m) (ht : Qiy m t) (w : Nat) : FB m (Qpt (QrT j) v t B w).s := by
 unfold Qpt
 split
 ·exact hB
 ·exact hB.cons hv (Qef hB ht)
theorem QtG {m : Int} {g : Tm → Tm → Bnd → Nat → Ug Bnd} (hg : ∀ a b B w, FB m B → Qiy m a → Qiy m b → FB m (g a b B w).s) : ∀ (l l' : List Tm) (B : Bnd) (w : Nat), FB m B → (∀ x ∈ l, Qiy m x) → (∀ x ∈ l', Qiy m x) → FB m (Ql1 g l l' B w).s
 | [], l', B, w, h, _, _ => by cases l' <;> exact h
 | _ :: _, [], B, w, h, _, _ => h
 | x :: l, y :: l', B, w, h, hl, hl' => by
  simp only [Ql1]
  have h1 := hg x y B w h (hl x (List.mem_cons_self ..)) (hl' y (List.mem_cons_self ..))
  split
  ·exact QtG hg l l' _ _ h1 (fun z hz => hl z (List.mem_cons_of_mem _ hz)) (fun z hz => hl' z (List.mem_cons_of_mem _ hz))
  ·exact h1
theorem QuM {m : Int} {c : Prop} [Decidable c] {x y : Ug Bnd} (hx : FB m x.s) (hy : FB m y.s) : FB m (if c then x else y).s := by
 split
 ·exact hx
 ·exact hy
theorem Qta {j : Bnd → Tm → Tm → Bnd} (hj : QtL j) {m : Int} : ∀ (f : Nat) (a b : Tm) (B : Bnd) (w : Nat), FB m B → Qiy m a → Qiy m b → FB m (QfP (QrT j) f a b B w).s
 | 0, a, b, B, w, h, _, _ => h
 | f + 1, a, b, B, w, h, ha, hb => by
  simp only [QfP]
  split
  ·exact h
  ·have la := Qef h ha
   have lb := Qef h hb
   have va : (QrT j).view B a = tvw (Qe B a) := rfl
   have vb : (QrT j).view B b = tvw (Qe B b) := rfl
   rw [va, vb]
   by_cases ka : (Qe B a).k = 0
   ·rw [show tvw (Qe B a) = .var (Qe B a).n by unfold tvw; rw [if_pos ka]]
    by_cases kb : (Qe B b).k = 0
    ·rw [show tvw (Qe B b) = .var (Qe B b).n by unfold tvw; rw [if_pos kb]]
     show FB m (if (Qe B a).n = (Qe B b).n then B else j B a b)
     split
     ·exact h
     ·exact hj m B a b h ha hb ka kb
    ·rw [show tvw (Qe B b) = .node (Qe B b).k (Qe B b).n (Qe B b).s (Qe B b).ar.tms by unfold tvw; rw [if_neg kb]]
     exact Qtx h (la.1 ka) hb _
   ·rw [show tvw (Qe B a) = .node (Qe B a).k (Qe B a).n (Qe B a).s (Qe B a).ar.tms by unfold tvw; rw [if_neg ka]]
    by_cases kb : (Qe B b).k = 0
    ·rw [show tvw (Qe B b) = .var (Qe B b).n by unfold tvw; rw [if_pos kb]]
     exact Qtx h (lb.1 kb) ha _
    ·rw [show tvw (Qe B b) = .node (Qe B b).k (Qe B b).n (Qe B b).s (Qe B b).ar.tms by unfold tvw; rw [if_neg kb]]
     exact QuM (QtG (fun a b B w h ha hb => Qta hj f a b B w h ha hb) _ _ _ _ h (QpO la.2) (QpO lb.2)) h
theorem Qr7 {ρ : Int → Int → Prop} (hi : ∀ u v u' v', ρ u v → ρ u' v' → (u = u' ↔ v = v')) {T U : Ts} (h : TsR ρ T U) : ∀ ks ks' : List Int, Al ρ ks ks' → (T.tidyFrom ks).1 = (U.tidyFrom ks').1 ∧ Al ρ (T.tidyFrom ks).2 (U.tidyFrom ks').2 := by
 have hpos : ∀ {n n' : Int}, ρ n n' → ∀ {ks ks' : List Int}, Al ρ ks ks' → pos n ks = pos n' ks' := by
  intro n n' hn ks ks' hk
  induction hk with
  | nil => rfl
  | @cons x y l m hxy _ ih =>
   simp only [pos]
   by_cases e : n = x
   ·rw [if_pos e, if_pos ((hi _ _ _ _ hn hxy).1 e)]
   ·rw [if_neg e, if_neg fun e2 => e ((hi _ _ _ _ hn hxy).2 e2), ih]
 induction h with
 | nil => intro ks ks' hk; exact ⟨rfl, hk⟩
 | @var n n' s r r' hn _ ih =>
  intro ks ks' hk
  rw [Ts.tidyFrom_cons, Ts.tidyFrom_cons]
  have e1 : tV 0 n ks = tV 0 n' ks' := by
   unfold tV Qqr; rw [if_pos rfl, if_pos rfl, hpos hn hk, hk.len]
  have e2 : Al ρ (tS 0 n ks) (tS 0 n' ks') := by
   unfold tS Qqs; rw [if_pos rfl, if_pos rfl, hpos hn hk]
   split
   ·exact hk
   ·exact hk.app (.cons hn .nil)
  obtain ⟨i1, i2⟩ := ih _ _ (show Al ρ (Ts.nil.tidyFrom (tS 0 n ks)).2 (Ts.nil.tidyFrom (tS 0 n' ks')).2 from e2)
  refine ⟨?_, i2⟩
  rw [e1, i1]; rfl
 | @node k n s ar ar' r r' hk0 _ _ iha ihr =>
  intro ks ks' hk
  rw [Ts.tidyFrom_cons, Ts.tidyFrom_cons]
  have e1 : tV k n ks = n := by unfold tV; rw [if_neg hk0]
  have e1' : tV k n ks' = n := by unfold tV; rw [if_neg hk0]
  have e2 : tS k n ks = ks := by unfold tS; rw [if_neg hk0]
  have e2' : tS k n ks' = ks' := by unfold tS; rw [if_neg hk0]
  rw [e1, e1', e2, e2']
  obtain ⟨i1, i2⟩ := iha _ _ hk
  obtain ⟨j1, j2⟩ := ihr _ _ i2
  exact ⟨by rw [i1, j1], j2⟩
section
variable {P : List Cl} {q : Nat}
end
section
variable {P : List Cl} {q : Nat}
end
theorem QqC {g : Tm → Nat → Option (Tm × Nat)} : ∀ (T : Ts) (l : Nat), Qij g T l = Qer g T.tms l
 | .nil, l => rfl
 | .cons k n s a r, l => by
  simp only [Qij, Ts.tms, Qer]
  cases g ⟨k, n, s, a⟩ l with
  | none => rfl
  | some p =>
   obtain ⟨t, l'⟩ := p
   dsimp only
   rw [QqC r]
   all_goals (cases Qer g r.tms l' <;> rfl)
theorem Qjc {g g' : Tm → Nat → Option (Tm × Nat)} : ∀ (l : List Tm), (∀ x ∈ l, ∀ m, g x m = g' x m) → ∀ m, Qer g l m = Qer g' l m
 | [], _, m => rfl
 | x :: r, h, m => by
  simp only [Qer]
  rw [h x (List.mem_cons_self ..) m]
  cases g' x m with
  | none => rfl
  | some p =>
   obtain ⟨t, l'⟩ := p
   dsimp only
   rw [Qjc r (fun y hy => h y (List.mem_cons_of_mem _ hy))]
theorem QpP {x : Tm} : ∀ {T : Ts}, x ∈ T.tms → T.Mem x
 | .nil, h => by cases h
 | .cons k n s a r, h => by
  rcases List.mem_cons.1 h with rfl | h
  ·exact .inl rfl
  ·exact .inr (QpP h)
theorem QtW {t : Tm} (h : tgd t) (hk : t.k = 0) : t.s = ⟨#[]⟩ ∧ t.ar = .nil := by
 have := h.1
 simp only [Ts.good, Bool.and_eq_true] at this
 have hn := this.1.1
 unfold Qa1 at hn
 rw [if_pos hk] at hn
 simp only [Bool.and_eq_true, decide_eq_true_eq] at hn
 exact ⟨QiN.1 (hn.1.2.trans (Qap []).symm), Ts.nil_of_length hn.2⟩
theorem QtA {B : Bnd} (hB : ∀ x ∈ B, tgd x.2) : ∀ (f : Nat) (t : Tm) (l : Nat), tgd t → Qjz B f t l = Qgx Qkz B f t l
 | 0, t, l, _ => rfl
 | f + 1, t, l, ht => by
  have hl := Qje hB ht
  simp only [Qjz, Qgx]
  split
  ·rfl
  ·rw [show Qkz.view B t = tvw (Qe B t) from rfl]
   unfold tvw
   by_cases hk : (Qe B t).k = 0
   ·rw [if_pos hk]
    obtain ⟨h1, h2⟩ := QtW hl hk
    rw [h2, h1, hk]; rfl
   ·rw [if_neg hk, QqC]
    have := Qjc (g := Qjz B f) (g' := Qgx Qkz B f) (Qe B t).ar.tms (fun x hx m => QtA hB f x m (Qb6 _ hl x (QpP hx))) (l - 1)
    rw [this]; rfl
theorem Qvb {v : Nat} (hv : v < 1000) : tgd ⟨0, (v : Nat), ⟨#[]⟩, .nil⟩ := by
 refine ⟨?_, by simp [Ts.nodes]⟩
 simp only [Ts.good, Bool.and_eq_true, and_true]
 unfold Qa1
 rw [if_pos rfl]
 simp only [Bool.and_eq_true, decide_eq_true_eq]
 exact ⟨⟨⟨by omega, by omega⟩, Qap []⟩, rfl⟩
section
variable {P : List Cl} {q : Nat}
end
theorem QhT {L X : List HC} {a : Int} {c : HC} (h : hat L a = some c) : hat (L ++ X) a = some c := by
 obtain ⟨h0, h1, h2⟩ := Qba.1 h
 exact Qba.2 ⟨h0, by simp; omega, by rw [List.getElem?_append_left Ya]; exact h2⟩
theorem Qq5 {L X : List HC} {n : Nat} {a x : Int} (h : Qco L n a x) : Qco (L ++ X) n a x := by
 induction h with
 | here h0 h1 => exact .here (QhT h0) h1
 | there h0 h1 h2 _ ih => exact .there (QhT h0) h1 h2 ih
theorem Qq7 {L X : List HC} {a x : Int} (h : End L a x) : End (L ++ X) a x := by
 obtain ⟨n, h⟩ := h; exact ⟨n, Qq5 h⟩
theorem Qok {L X : List HC} {a : Int} (h : Qj L a = true) : Qj (L ++ X) a = true := by
 obtain ⟨c, hc⟩ := Qem.1 h; exact Qem.2 ⟨c, QhT hc⟩
theorem Qly {h : HH} (ho : HOk h) {a : Int} (ha : Qj h.cs a = true) (X : List HC) (T : List Int) : Q1 ⟨h.cs ++ X, T⟩ a = Q1 h a := by
 obtain ⟨x, c, h1, h2, h3, h4⟩ := ho.view ha
 rw [h4, Qai (h := ⟨h.cs ++ X, T⟩) (Qq7 h1) (QhT h2)]
def QkD (L : List HC) (base : Nat) (V : Int) : Ts → Int → Prop
 | .nil, _ => True
 | .cons k n s ar r, a => (∃ x c, End L a x ∧ hat L x = some c ∧ ((k = 0 ∧ 0 ≤ n ∧ n < V ∧ s = eS ∧ ar = .nil ∧ c.k = 0 ∧ x = n + base) ∨ (k ≠ 0 ∧ c.k = k ∧ ctl c = n ∧ c.s = s ∧ (QI c).toNat = ar.length ∧ QkD L base V ar (x + 1)))) ∧ QkD L base V r (a + 1)
theorem Qa7 {L : List HC} {a : Int} {c : HC} (h : hat L a = some c) (hc : ¬ (c.k = 0 ∧ c.n ≠ a)) : End L a a := ⟨0, .here h hc⟩
theorem Qq6 {L : List HC} {a : Int} {c d : HC} (h : hat L a = some c) (hk : c.k = 0) (hn : c.n ≠ a) (h2 : hat L c.n = some d) (hd : ¬ (d.k = 0 ∧ d.n ≠ c.n)) : End L a c.n := ⟨1, .there h hk hn (.here h2 hd)⟩
theorem Qug {L : List HC} {base : Nat} {vars : Int} (hv : ∀ v : Int, 0 ≤ v → v < vars → hat L (v + base) = some ⟨0, v + base, eS⟩) (T : Ts) : ∀ (a p : Nat), T.good vars = true → vars ≤ a → vars ≤ p → a + T.length ≤ p → QkC L base a (Qbx T p).1 → QkC L base p (Qbx T p).2 →
  QkD L base vars T ((base + a : Nat) : Int) ∧ (∀ i, i < (Qbx T p).1.length → ∃ x, End L ((base + (a + i) : Nat) : Int) x) ∧ (∀ i, i < (Qbx T p).2.length → ∃ x, End L ((base + (p + i) : Nat) : Int) x) := by
 induction T with
 | nil => intro a p _ _ _ _ _ _; exact ⟨trivial, fun i hi => absurd hi (by simp [Qbx]), fun i hi => absurd hi (by simp [Qbx])⟩
 | cons k n s ar r iha ihr =>
  intro a p hg hav hpv hap hs1 hs2
  obtain ⟨hn, ha, hr⟩ := QbP hg
  simp only [Ts.length] at hap
  have step : ∀ (X : List HC) (c : HC) (x : Int), End L ((base + a : Nat) : Int) x → (∀ i, i < X.length → ∃ x, End L ((base + (a + 1 + i) : Nat) : Int) x) → ∀ i, i < (c :: X).length → ∃ x, End L ((base + (a + i) : Nat) : Int) x := by
   intro X c x h0 h1 i hi
   cases i with
   | zero => exact ⟨x, h0⟩
   | succ i =>
    obtain ⟨y, hy⟩ := h1 i (by simpa using hi)
    rw [show a + (i + 1) = a + 1 + i by omega]; exact ⟨y, hy⟩
  rcases Qea hn with ⟨rfl, h0, h1, h2, h3⟩ | ⟨rfl, h0, h1, h2⟩ | ⟨rfl, h0, h1⟩ | ⟨rfl, h0, h1, h2, h3⟩
  ·rw [Qbp _ _ _ _ _ Yg] at hs1 hs2 ⊢
   obtain ⟨q1, q2⟩ := hs1.head
   obtain rfl := Qeb h3
   subst h2
   have e1 : hat L ((base + a : Nat) : Int) = some ⟨0, n + base, eS⟩ := q1
   have e2 : End L ((base + a : Nat) : Int) (n + base) := Qq6 (c := ⟨0, n + base, eS⟩) e1 rfl (by show n + (base : Int) ≠ _; omega) (hv n h0 h1) Yd
   obtain ⟨i1, i2, i3⟩ := ihr (a + 1) p hr Ya hpv Ya q2 hs2
   rw [show ((base + (a + 1) : Nat) : Int) = ((base + a : Nat) : Int) + 1 by omega] at i1
   exact ⟨⟨⟨n + base, _, e2, hv n h0 h1, .inl ⟨rfl, h0, h1, rfl, rfl, rfl, rfl⟩⟩, i1⟩, step _ _ _ e2 i2, i3⟩
  ·rw [Qbp _ _ _ _ _ Yg] at hs1 hs2 ⊢
   obtain ⟨q1, q2⟩ := hs1.head
   obtain rfl := Qeb h2
   subst h0
   have e1 : hat L ((base + a : Nat) : Int) = some ⟨1, 0, s⟩ := q1
   have e2 := Qa7 e1 Yd
   obtain ⟨i1, i2, i3⟩ := ihr (a + 1) p hr Ya hpv Ya q2 hs2
   rw [show ((base + (a + 1) : Nat) : Int) = ((base + a : Nat) : Int) + 1 by omega] at i1
   exact ⟨⟨⟨_, _, e2, e1, .inr ⟨by decide, rfl, rfl, rfl, rfl, trivial⟩⟩, i1⟩, step _ _ _ e2 i2, i3⟩
  ·rw [Qbp _ _ _ _ _ Yg] at hs1 hs2 ⊢
   obtain ⟨q1, q2⟩ := hs1.head
   obtain rfl := Qeb h1
   subst h0
   have e1 : hat L ((base + a : Nat) : Int) = some ⟨2, n, eS⟩ := q1
   have e2 := Qa7 e1 Yd
   obtain ⟨i1, i2, i3⟩ := ihr (a + 1) p hr Ya hpv Ya q2 hs2
   rw [show ((base + (a + 1) : Nat) : Int) = ((base + a : Nat) : Int) + 1 by omega] at i1
   exact ⟨⟨⟨_, _, e2, e1, .inr ⟨by decide, rfl, rfl, rfl, rfl, trivial⟩⟩, i1⟩, step _ _ _ e2 i2, i3⟩
  ·rw [Qcm] at hs1 hs2 ⊢
   obtain ⟨q1, q2⟩ := hs1.head
   obtain ⟨q3, q4⟩ := QkC.app (X := Qls s ar p) hs2
   obtain ⟨q5, q6⟩ := QkC.head (c := ⟨3, (ar.length : Nat), s⟩) q3
   obtain ⟨q7, q8⟩ := q6.app
   rw [Qb8] at q8
   subst h0
   have e1 : hat L ((base + a : Nat) : Int) = some ⟨0, ((p : Nat) : Int) + base, eS⟩ := q1
   have e5 : hat L (((p : Nat) : Int) + base) = some ⟨3, (ar.length : Nat), s⟩ := by
    rw [show ((p : Nat) : Int) + base = ((base + p : Nat) : Int) by omega]; exact q5
   have e2 : End L ((base + a : Nat) : Int) (((p : Nat) : Int) + base) := Qq6 (c := ⟨0, ((p : Nat) : Int) + base, eS⟩) e1 rfl (by show ((p : Nat) : Int) + (base : Int) ≠ _; omega) e5 Yd
   obtain ⟨a1, a2, a3⟩ := iha (p + 1) (p + 1 + ar.length) ha Ya Ya Ya q7 q8
   obtain ⟨i1, i2, i3⟩ := ihr (a + 1) (p + (Qls s ar p).length) hr Ya Ya Ya q2 q4
   rw [show ((base + (a + 1) : Nat) : Int) = ((base + a : Nat) : Int) + 1 by omega] at i1
   rw [show ((base + (p + 1) : Nat) : Int) = ((p : Nat) : Int) + base + 1 by omega] at a1
   refine ⟨⟨⟨_, _, e2, e5, .inr ⟨by decide, rfl, rfl, rfl, by simp [QI], a1⟩⟩, i1⟩, step _ _ _ e2 i2, fun i hi => ?_⟩
   rw [Qb8] at a2
   have hls := Qeg s ar p
   rw [List.length_append] at hi
   by_cases c0 : i = 0
   ·subst c0
    have q5' : hat L ((base + p : Nat) : Int) = some ⟨3, (ar.length : Nat), s⟩ := q5
    exact ⟨_, Qa7 q5' Yd⟩
   by_cases c1 : i - 1 < ar.length
   ·obtain ⟨x, hx⟩ := a2 (i - 1) c1
    rw [show p + i = p + 1 + (i - 1) by omega]; exact ⟨x, hx⟩
   by_cases c2 : i < (Qls s ar p).length
   ·obtain ⟨x, hx⟩ := a3 (i - 1 - ar.length) Ya
    rw [show p + i = p + 1 + ar.length + (i - 1 - ar.length) by omega]; exact ⟨x, hx⟩
   ·obtain ⟨x, hx⟩ := i3 (i - (Qls s ar p).length) Ya
    rw [show p + i = p + (Qls s ar p).length + (i - (Qls s ar p).length) by omega]; exact ⟨x, hx⟩
theorem QnT {L : List HC} {base : Nat} {vars : Int} (hv : ∀ v : Int, 0 ≤ v → v < vars → hat L (v + base) = some ⟨0, v + base, eS⟩) {k n : Int} {s : ByteArray} {ar : Ts} {p : Nat} (h : gB vars k n s ar = true) (hpv : vars ≤ p) (hs : QkC L base p (Qb2 k n s ar p)) :
  QkD L base vars (.cons k n s ar .nil) ((base + p : Nat) : Int) ∧ (∀ i, i < (Qb2 k n s ar p).length → ∃ x, End L ((base + (p + i) : Nat) : Int) x) ∧ ∃ c, hat L ((base + p : Nat) : Int) = some c ∧ (c.k = 1 ∨ c.k = 3) := by
 simp only [gB, Qh1, Bool.and_eq_true, Bool.or_eq_true, decide_eq_true_eq] at h
 obtain ⟨hn, ha, _⟩ := QbP h.1.2
 rcases Qea hn with ⟨rfl, _⟩ | ⟨rfl, h0, h1, h2⟩ | ⟨rfl, _⟩ | ⟨rfl, h0, h1, h2, h3⟩
 ·rcases h.1.1 with h | h <;> omega
 ·obtain rfl := Qeb h2
  subst h0
  unfold Qb2 at hs ⊢
  rw [if_neg Yg] at hs ⊢
  have e1 : hat L ((base + p : Nat) : Int) = some ⟨1, 0, s⟩ := hs.head.1
  have e2 := Qa7 e1 Yd
  refine ⟨⟨⟨_, _, e2, e1, .inr ⟨by decide, rfl, rfl, rfl, rfl, trivial⟩⟩, trivial⟩, fun i hi => ?_, _, e1, .inl rfl⟩
  obtain rfl : i = 0 := by simpa using hi
  exact ⟨_, e2⟩
 ·rcases h.1.1 with h | h <;> omega
 ·subst h0
  unfold Qb2 at hs ⊢
  rw [if_pos rfl] at hs ⊢
  obtain ⟨q5, q6⟩ := QkC.head (c := ⟨3, (ar.length : Nat), s⟩) hs
  obtain ⟨q7, q8⟩ := q6.app
  rw [Qb8] at q8
  have e1 : hat L ((base + p : Nat) : Int) = some ⟨3, (ar.length : Nat), s⟩ := q5
  have e2 := Qa7 e1 Yd
  obtain ⟨a1, a2, a3⟩ := Qug hv ar (p + 1) (p + 1 + ar.length) ha Ya Ya Ya q7 q8
  rw [show ((base + (p + 1) : Nat) : Int) = ((base + p : Nat) : Int) + 1 by omega] at a1
  refine ⟨⟨⟨_, _, e2, e1, .inr ⟨by decide, rfl, rfl, rfl, by simp [QI], a1⟩⟩, trivial⟩, fun i hi => ?_, _, e1, .inr rfl⟩
  rw [Qb8] at a2
  have hls := Qeg s ar p
  by_cases c0 : i = 0
  ·subst c0; exact ⟨_, e2⟩
  by_cases c1 : i - 1 < ar.length
  ·obtain ⟨x, hx⟩ := a2 (i - 1) c1
   rw [show p + i = p + 1 + (i - 1) by omega]; exact ⟨x, hx⟩
  ·obtain ⟨x, hx⟩ := a3 (i - 1 - ar.length) Ya
   rw [show p + i = p + 1 + ar.length + (i - 1 - ar.length) by omega]; exact ⟨x, hx⟩
def Qu2 (L : List HC) (base : Nat) (V : Int) : Ts → List Int → Prop
 | .nil, l => l = []
 | .cons k n s ar r, l => ∃ x q, l = x :: q ∧ QkD L base V (.cons k n s ar .nil) (base + x) ∧ (∃ c, hat L (base + x) = some c ∧ (c.k = 1 ∨ c.k = 3)) ∧ Qu2 L base V r q
theorem QnP {L : List HC} {base : Nat} {vars : Int} (hv : ∀ v : Int, 0 ≤ v → v < vars → hat L (v + base) = some ⟨0, v + base, eS⟩) (T : Ts) : ∀ p : Nat, T.goals vars = true → vars ≤ p → QkC L base p (QaC T p).1 → Qu2 L base vars T (QaC T p).2 ∧ (∀ i, i < (QaC T p).1.length → ∃ x, End L ((base + (p + i) : Nat) : Int) x) := by
 induction T with
 | nil => intro p _ _ _; exact ⟨rfl, fun i hi => absurd hi (by simp [QaC])⟩
 | cons k n s ar r _ ih =>
  intro p hg hpv hs
  simp only [Ts.goals, Bool.and_eq_true] at hg
  simp only [QaC] at hs ⊢
  obtain ⟨h1, h2⟩ := hs.app
  obtain ⟨a1, a2, a3⟩ := QnT hv hg.1 hpv h1
  obtain ⟨b1, b2⟩ := ih _ hg.2 Ya h2
  refine ⟨⟨_, _, rfl, by rw [show (base : Int) + (p : Nat) = ((base + p : Nat) : Int) by omega]; exact a1, by rw [show (base : Int) + (p : Nat) = ((base + p : Nat) : Int) by omega]; exact a3, b1⟩, fun i hi => ?_⟩
  rw [List.length_append] at hi
  by_cases c : i < (Qb2 k n s ar p).length
  ·exact a2 i c
  ·obtain ⟨x, hx⟩ := b2 (i - (Qb2 k n s ar p).length) Ya
   rw [show p + i = p + (Qb2 k n s ar p).length + (i - (Qb2 k n s ar p).length) by omega]; exact ⟨x, hx⟩
theorem Qnc {L : List HC} {base V : Nat} (hs : QkC L base 0 (QbT V)) : ∀ v : Int, 0 ≤ v → v < V → hat L (v + base) = some ⟨0, v + base, eS⟩ := by
 intro v v0 v1
 have := hs v.toNat _ (QpB Ya)
 rw [show ((base + (0 + v.toNat) : Nat) : Int) = v + base by omega] at this
 rw [this]
 unfold Q0
 rw [if_pos rfl]
 dsimp only
 rw [show ((v.toNat : Nat) : Int) = v by omega]
structure Blk (h : HH) (B : List HC) (h' : HH) : Prop where
 eq : h' = ⟨h.cs ++ B.map (Q0 h.cs.length), h.tr⟩
 gd : QO h'.cs.length h'.cs = true
 ends : ∀ i, i < B.length → ∃ x, End h'.cs ((h.cs.length + i : Nat) : Int) x
theorem QmN {L X : List HC} {a : Int} (h : Qax L a = true) : Qax (L ++ X) a = true := by
 unfold Qax at h ⊢
 cases hc : hat L a with
 | none => rw [hc] at h; cases h
 | some c => rw [hc] at h; rw [QhT hc]; exact h
theorem Blk.ok {h h' : HH} {B : List HC} (hb : Blk h B h') (ho : HOk h) : HOk h' := by
 obtain ⟨rfl, gd, ends⟩ := hb
 refine ⟨gd, fun a ha => ?_, fun a ha => QmN (ho.tr a ha)⟩
 obtain ⟨a0, a1⟩ := Ql.1 ha
 by_cases hl : a < h.cs.length
 ·obtain ⟨x, hx⟩ := ho.ends a (Ql.2 ⟨a0, hl⟩)
  exact ⟨x, Qq7 hx⟩
 ·obtain ⟨x, hx⟩ := ends (a.toNat - h.cs.length) (by simp at a1; omega)
  rw [show ((h.cs.length + (a.toNat - h.cs.length) : Nat) : Int) = a by omega] at hx
  exact ⟨x, hx⟩
theorem Qpb {h : HH} {c : Cl} (hg : QF h = true) (hc : cB c = true) (hl : h.cs.length + 300 ≤ 65536) :
  Q3 h (Qt c) = (⟨h.cs ++ (Qt c).map (Q0 h.cs.length), h.tr⟩, h.cs.length, 0) ∧ QF ⟨h.cs ++ (Qt c).map (Q0 h.cs.length), h.tr⟩ = true ∧ Blk h (Qt c) ⟨h.cs ++ (Qt c).map (Q0 h.cs.length), h.tr⟩ ∧
  QkD (h.cs ++ (Qt c).map (Q0 h.cs.length)) h.cs.length c.vars (.cons c.k c.n c.s c.hd .nil) (h.cs.length + c.vars) ∧ Qu2 (h.cs ++ (Qt c).map (Q0 h.cs.length)) h.cs.length c.vars c.bd (Qat c) := by
 obtain ⟨h0, h1, h2, h3, h4⟩ := Qgw hc
 have hbl := QcV hc
 have hX := Qf5 hg (Qia hc) Ya
 have hs := Qfn h (Qt c)
 have he : (Qt c).length = c.vars.toNat + ((Qb2 c.k c.n c.s c.hd c.vars.toNat).length + (QaC c.bd (c.vars.toNat + (Qb2 c.k c.n c.s c.hd c.vars.toNat).length)).1.length) := by
  simp only [Qt, List.length_append, Qab]
 obtain ⟨s1, s2⟩ := QkC.app (X := QbT c.vars.toNat) hs
 obtain ⟨s3, s4⟩ := s2.app
 rw [Qab, Nat.zero_add] at s3 s4
 have hv0 := Qnc s1
 have hv : ∀ v : Int, 0 ≤ v → v < c.vars → hat (h.cs ++ (Qt c).map (Q0 h.cs.length)) (v + h.cs.length) = some ⟨0, v + h.cs.length, eS⟩ := fun v v0 v1 => hv0 v v0 Ya
 obtain ⟨t1, t2, _⟩ := QnT hv h4 (p := c.vars.toNat) Ya s3
 obtain ⟨u1, u2⟩ := QnP hv c.bd _ h3 Ya s4
 refine ⟨QmG hg (Qia hc) Ya, hX, ⟨rfl, ?_, fun i hi => ?_⟩, ?_, u1⟩
 ·simp only [QF, Q4, Bool.and_eq_true] at hX; exact hX.1.2
 ·rw [he] at hi
  by_cases c0 : i < c.vars.toNat
  ·have := hv i Ya Ya
   rw [show (i : Int) + h.cs.length = ((h.cs.length + i : Nat) : Int) by omega] at this
   exact ⟨_, Qa7 this Yd⟩
  by_cases c1 : i - c.vars.toNat < (Qb2 c.k c.n c.s c.hd c.vars.toNat).length
  ·obtain ⟨x, hx⟩ := t2 _ c1
   rw [show c.vars.toNat + (i - c.vars.toNat) = i by omega] at hx; exact ⟨x, hx⟩
  ·obtain ⟨x, hx⟩ := u2 (i - c.vars.toNat - (Qb2 c.k c.n c.s c.hd c.vars.toNat).length) Ya
   rw [show c.vars.toNat + (Qb2 c.k c.n c.s c.hd c.vars.toNat).length + (i - c.vars.toNat - (Qb2 c.k c.n c.s c.hd c.vars.toNat).length) = i by omega] at hx; exact ⟨x, hx⟩
 ·rw [show (h.cs.length : Int) + c.vars = ((h.cs.length + c.vars.toNat : Nat) : Int) by omega]; exact t1
theorem Qp9 {q : Ts} {v : Nat} (hq : qB (v : Nat) q = true) :
  Q3 ⟨[], []⟩ (Qae (v : Nat) q) = (⟨(Qae (v : Nat) q).map (Q0 0), []⟩, 0, 0) ∧ QF ⟨(Qae (v : Nat) q).map (Q0 0), []⟩ = true ∧ HOk ⟨(Qae (v : Nat) q).map (Q0 0), []⟩ ∧ ((Qae (v : Nat) q).map (Q0 0)).length ≤ 300 ∧
  (∀ x : Int, 0 ≤ x → x < v → hat ((Qae (v : Nat) q).map (Q0 0)) x = some ⟨0, x, eS⟩) ∧ Qu2 ((Qae (v : Nat) q).map (Q0 0)) 0 (v : Nat) q (Qbf (v : Nat) q) := by
 simp only [qB, Bool.and_eq_true, decide_eq_true_eq] at hq
 obtain ⟨⟨⟨v0, v1⟩, v2⟩, v3⟩ := hq
 have hn := Ts.goals_nodes _ _ v3
 have hll := Qj2 q v
 have he : (Qae (v : Nat) q).length = v + (QaC q v).1.length := by simp [Qae, Qab]
 have hs := Qfn ⟨[], []⟩ (Qae (v : Nat) q)
 simp only [List.length_nil, List.nil_append] at hs
 have hs' := hs
 unfold Qae at hs'
 rw [Int.toNat_natCast] at hs'
 obtain ⟨s1, s2⟩ := QkC.app (X := QbT v) hs'
 rw [Qab, Nat.zero_add] at s2
 have hv := Qnc s1
 obtain ⟨u1, u2⟩ := QnP hv q v v3 Ya s2
 have hgd : Q4 (Qae (v : Nat) q) = true := by
  unfold Q4
  simp only [Bool.and_eq_true, decide_eq_true_eq]
  refine ⟨by omega, ?_⟩
  have : QO (Qae (v : Nat) q).length (QbT v ++ (QaC q v).1) = true := Qbq (Qlt (vars := v) Ya q v v3 Ya) (QfO _ _ Ya)
  unfold Qae at this ⊢
  rw [Int.toNat_natCast] at this ⊢
  exact this
 have hg0 : QF ⟨[], []⟩ = true := by decide
 have hX := Qf5 hg0 hgd Yh
 have hle := QmG hg0 hgd Yh
 simp only [List.length_nil, List.nil_append] at hX hle
 refine ⟨hle, hX, ⟨?_, fun a ha => ?_, fun a ha => (by cases ha)⟩, by simp; omega, fun x x0 x1 => ?_, by unfold Qbf; rw [Int.toNat_natCast]; unfold Qae; rw [Int.toNat_natCast]; exact u1⟩
 ·simp only [QF, Q4, Bool.and_eq_true] at hX; exact hX.1.2
 ·obtain ⟨a0, a1⟩ := Ql.1 ha
  simp only [List.length_map] at a1
  rw [he] at a1
  by_cases c0 : a < v
  ·have := hv a a0 c0
   rw [show a + ((0 : Nat) : Int) = a by omega] at this
   unfold Qae
   rw [Int.toNat_natCast]
   exact ⟨_, Qa7 this Yd⟩
  ·obtain ⟨x, hx⟩ := u2 (a.toNat - v) Ya
   rw [show ((0 + (v + (a.toNat - v)) : Nat) : Int) = a by omega] at hx
   unfold Qae
   rw [Int.toNat_natCast]
   exact ⟨x, hx⟩
 ·have := hv x x0 x1
  rw [show x + ((0 : Nat) : Int) = x by omega] at this
  unfold Qae
  rw [Int.toNat_natCast]; exact this
end Go.Proofs.YthliapbflkfdiacGreatDoor
