/- Steps of the proof. -/
import Derived.Test.YthliapbflkfdiacGreatDoorG13
namespace Go.Proofs.YthliapbflkfdiacGreatDoor
open Go.RowKit
set_option linter.unusedVariables false
set_option linter.unusedSimpArgs false
set_option maxRecDepth 100000
set_option maxHeartbeats 1000000
structure KE where
 k : Int
 A : Option Addr
 c : Nat
 T : TA
def KE.ev (x : KE) : Ev := (x.k, x.T.ts)
abbrev QvA (x : KE) : List Value := [.int .i64 x.k, .slice x.A x.T.len x.c]
def keL : List KE → List Value
 | [] => []
 | x :: r => QvA x ++ keL r
theorem Quh (a b : List KE) : keL (a ++ b) = keL a ++ keL b := by
 induction a with
 | nil => rfl
 | cons c r ih => simp [keL, ih]
theorem QuO (l : List LE) : evL l = keL (l.map fun e => ⟨1, e.A, e.c, e.T⟩) := by
 induction l with
 | nil => rfl
 | cons c r ih => simp [evL, keL, ih]
def QuB (w : World) (b : Nat) : List KE → Nat → Prop
 | [], _ => True
 | x :: r, o => w.cell? ⟨b, o, none⟩ = some (.int .i64 x.k) ∧ w.cell? ⟨b, o + 1, none⟩ = some (.slice x.A x.T.len x.c) ∧ QuB w b r (o + 2)
def KER (L : List KE) (A : Option Addr) (c : Nat) (w : World) : Prop := L.length ≤ c ∧ (0 < L.length → ∃ b o, A = some ⟨b, o, none⟩ ∧ QuB w b L o) ∧ ∀ x ∈ L, ArA x.A x.c x.T w
theorem QuB.skip {w : World} {b : Nat} {R : List KE} : ∀ {D : List KE} {o : Nat}, QuB w b (D ++ R) o → QuB w b R (o + D.length * 2)
 | [], o, h => by simpa using h
 | c :: D, o, ⟨_, _, h⟩ => by
  have := QuB.skip (R := R) (D := D) h
  rwa [show o + 2 + D.length * 2 = o + (c :: D).length * 2 by simp; omega] at this
theorem KER.some_ {L : List KE} {A : Option Addr} {c : Nat} {w : World} (h : KER L A c w) (hl : 0 < L.length) : ∃ b o, A = some ⟨b, o, none⟩ := by
 obtain ⟨b, o, e, _⟩ := h.2.1 hl
 exact ⟨b, o, e⟩
theorem KER.cells {D R : List KE} {x : KE} {b o c : Nat} {w : World} (h : KER (D ++ x :: R) (some ⟨b, o, none⟩) c w) : w.cell? ⟨b, o + D.length * 2, none⟩ = some (.int .i64 x.k) ∧ w.cell? ⟨b, o + D.length * 2 + 1, none⟩ = some (.slice x.A x.T.len x.c) := by
 obtain ⟨b', o', e, hs⟩ := h.2.1 Yh
 simp only [Option.some.injEq, Addr.mk.injEq, and_true] at e
 obtain ⟨rfl, rfl⟩ := e
 obtain ⟨h0, h1, _⟩ := hs.skip
 exact ⟨h0, h1⟩
theorem QqT {w : World} {b : Nat} : ∀ {L : List KE} {o : Nat}, (∀ j u, (keL L)[j]? = some u → w.cell? ⟨b, o + j, none⟩ = some u) → QuB w b L o
 | [], _, _ => trivial
 | c :: r, o, h => ⟨h 0 _ rfl, h 1 _ rfl, QqT fun j u hu => by
     rw [show o + 2 + j = o + (j + 2) by omega]
     exact h (j + 2) u (by simpa [keL] using hu)⟩
theorem St.freezeK {M : List Nat} {w0 w : World} {H O : List (Nat × Obj)} {F : List (World → Prop)} {el : Nat} {A : Option Addr} {c : Nat} {L : List KE} (hr : Row el 2 (.slice A L.length c) L.length (keL L) O) (hR : ∀ x ∈ L, Und F (ArA x.A x.c x.T)) (hS : St M w0 (O ++ H) F w) :
  ∃ F', (∀ φ ∈ F, φ ∈ F') ∧ Und F' (KER L A c) ∧ St M w0 H F' w := by
 obtain ⟨F', h1, h2, h3⟩ := St.freezeL hS
 refine ⟨F', h1, fun w' hw' => ⟨hr.cap, fun hl => ?_, fun x hx => (hR x hx).mono h1 w' hw'⟩, h3⟩
 obtain ⟨g, sp, rfl, rfl, _⟩ := hr.some_ hl
 refine ⟨g, 0, rfl, QqT fun j u hu => ?_⟩
 have hjl : j < (keL L).length := by
  rcases Nat.lt_or_ge j (keL L).length with hh | hh
  ·exact hh
  ·rw [List.getElem?_eq_none hh] at hu; cases hu
 rw [Qu (h2 _ (.head _) w' hw'), Nat.zero_add, List.getElem?_append_left hjl]; exact hu
section
variable {M : List Nat} {w0 : World} {H : List (Nat × Obj)} {F : List (World → Prop)}
theorem QdH (p : List Cl) (vars n : Nat) (s : SS) : QoH p vars (n + 1) s = if (Qaq p vars s).1 = 0 then QoH p vars n (Qaq p vars s).2 else Qdf (Qaq p vars s).2.ev ++ [((Qaq p vars s).1, .nil)] := rfl
end
def okV (V : Int) (t : Tm) : Prop := (Ts.cons t.k t.n t.s t.ar .nil).good V = true
theorem Qkd (V : Int) (k n : Int) (s : ByteArray) (a r : Ts) : (Ts.cons k n s a r).good V = ((Ts.cons k n s a .nil).good V && r.good V) := by simp [Ts.good]
theorem Qlm {V : Int} {g : Tm → Nat → Option (Tm × Nat)} (hg : ∀ t l p, okV V t → g t l = some p → okV V p.1) : ∀ (T : Ts) (l : Nat) (p : Ts × Nat), T.good V = true → Qij g T l = some p → p.1.good V = true ∧ p.1.length = T.length
 | .nil, l, p, _, h => by
  simp only [Qij, Option.some.injEq] at h
  subst h
  exact ⟨rfl, rfl⟩
 | .cons k n s a r, l, p, hT, h => by
  rw [Qkd, Bool.and_eq_true] at hT
  rw [QhK] at h
  cases h1 : g ⟨k, n, s, a⟩ l with
  | none => rw [h1] at h; cases h
  | some q =>
   rw [h1, Option.bind_some] at h
   cases h2 : Qij g r q.2 with
   | none => rw [h2] at h; cases h
   | some x =>
    rw [h2, Option.map_some, Option.some.injEq] at h
    subst h
    obtain ⟨i1, i2⟩ := Qlm hg r q.2 x hT.2 h2
    have := hg ⟨k, n, s, a⟩ l q hT.1 h1
    refine ⟨?_, by simp only [Ts.length, i2]⟩
    rw [Qkd, Bool.and_eq_true]; exact ⟨this, i1⟩
theorem Qof {V : Int} {B : Bnd} (hB : ∀ x ∈ B, okV V x.2) : ∀ (f : Nat) (t : Tm) (l : Nat) (p : Tm × Nat), okV V t → Qjz B f t l = some p → okV V p.1
 | 0, t, l, p, _, h => by cases h
 | f + 1, t, l, p, ht, h => by
  have hl := Qje (Q := okV V) hB ht
  rw [Qid] at h
  by_cases h0 : l = 0
  ·rw [if_pos h0] at h; cases h
  ·rw [if_neg h0] at h
   cases h1 : Qij (Qjz B f) (Qe B t).ar (l - 1) with
   | none => rw [h1] at h; cases h
   | some q =>
    rw [h1, Option.map_some, Option.some.injEq] at h
    subst h
    unfold okV at hl ⊢
    simp only [Ts.good, Bool.and_eq_true] at hl ⊢
    obtain ⟨i1, i2⟩ := Qlm (fun t l p h1 h2 => Qof hB f t l p h1 h2) _ _ _ hl.1.2 h1
    exact ⟨⟨by rw [i2]; exact hl.1.1, i1⟩, trivial⟩
theorem QiJ {B : Bnd} (hB : ∀ x ∈ B, okV 549755813888 x.2) : ∀ (m v l : Nat) (p : Ts × Nat), v + m ≤ 1000 → Qby B m v l = some p → p.1.good 549755813888 = true
 | 0, v, l, p, _, h => by
  simp only [Qby, Option.some.injEq] at h
  subst h
  rfl
 | m + 1, v, l, p, hv, h => by
  rw [QfN] at h
  cases h1 : Qjz B 201 ⟨0, v, ⟨#[]⟩, .nil⟩ l with
  | none => rw [h1] at h; cases h
  | some q =>
   rw [h1, Option.bind_some] at h
   cases h2 : Qby B m (v + 1) q.2 with
   | none => rw [h2] at h; cases h
   | some x =>
    rw [h2, Option.map_some, Option.some.injEq] at h
    subst h
    have h3 : okV 549755813888 ⟨0, v, ⟨#[]⟩, .nil⟩ := by
     unfold okV
     simp only [Ts.good, Bool.and_eq_true, and_true]
     unfold Qa1
     rw [if_pos rfl]
     simp only [Bool.and_eq_true, decide_eq_true_eq]
     exact ⟨⟨⟨by omega, by omega⟩, Qap []⟩, rfl⟩
    have := Qof hB 201 _ l q h3 h1
    show (Ts.cons _ _ _ _ x.1).good _ = true
    rw [Qkd, Bool.and_eq_true]
    exact ⟨this, QiJ hB m (v + 1) q.2 x Ya h2⟩
theorem Quc (ks : List Int) (n : Int) : (Qqs ks n).length ≤ ks.length + 1 ∧ ks.length ≤ (Qqs ks n).length := by
 unfold Qqs
 split
 ·omega
 ·simp
theorem Qub (ks : List Int) (n : Int) : 0 ≤ Qqr ks n ∧ Qqr ks n ≤ ks.length := by
 unfold Qqr
 cases h : pos n ks with
 | none => simp
 | some j => have := Qth h; simp; omega
theorem QpR {V : Int} (u : Nat) (T : Ts) : ∀ ks : List Int, T.good V = true → ks.length + T.nodes ≤ u → (T.tidyFrom ks).1.good u = true ∧ (T.tidyFrom ks).2.length ≤ ks.length + T.nodes ∧ (T.tidyFrom ks).1.length = T.length ∧ (T.tidyFrom ks).1.nodes = T.nodes := by
 induction T with
 | nil => intro ks _ _; exact ⟨rfl, Nat.le_refl _, rfl, rfl⟩
 | cons k n s ar r iha ihr =>
  intro ks hg hu
  simp only [Ts.good, Bool.and_eq_true] at hg
  simp only [Ts.nodes] at hu
  have hl : (tS k n ks).length ≤ ks.length + 1 := by
   unfold tS; split
   ·exact (Quc ks n).1
   ·omega
  obtain ⟨a1, a2, a3, a4⟩ := iha (tS k n ks) hg.1.2 Ya
  obtain ⟨b1, b2, b3, b4⟩ := ihr (ar.tidyFrom (tS k n ks)).2 hg.2 Ya
  rw [Ts.tidyFrom_cons]
  refine ⟨?_, ?_, ?_, ?_⟩
  ·simp only [Ts.good, Bool.and_eq_true]
   refine ⟨⟨?_, a1⟩, b1⟩
   rw [a3]
   have hn := hg.1.1
   unfold Qa1 at hn ⊢
   unfold tV
   by_cases e : k = 0
   ·rw [if_pos e] at hn ⊢
    rw [if_pos e]
    simp only [Bool.and_eq_true, decide_eq_true_eq] at hn ⊢
    have := Qub ks n
    exact ⟨⟨⟨this.1, by omega⟩, hn.1.2⟩, hn.2⟩
   ·rw [if_neg e] at hn ⊢
    rw [if_neg e]
    exact hn
  ·simp only [Ts.nodes]; omega
  ·simp only [Ts.length, b3]
  ·simp only [Ts.nodes, a4, b4]
def Qpq (vars : Nat) (T : Ts) : Prop := T.length = vars ∧ T.nodes ≤ 200 ∧ T.good 200 = true
theorem QtD {s : SS} {vars : Nat} (hI : QeZ s) (hv : vars ≤ 8) {T : Ts} {l : Nat} (h : Qby s.B vars 0 200 = some (T, l)) : Qpq vars T.tidy := by
 obtain ⟨h1, h2⟩ := Qg7 _ _ _ _ h
 have h3 := QiJ (fun x hx => (hI.gb x hx).1) vars 0 200 _ Ya h
 dsimp only at h1 h2 h3
 obtain ⟨g1, g2, g3, g4⟩ := QpR 200 T [] h3 Yh
 exact ⟨g3.trans h2, by show (T.tidyFrom []).1.nodes ≤ 200; omega, g1⟩
theorem Qel {s : SS} (h : QeZ s) : (QaO s).1 = 0 ∨ (QaO s).1 = 2 ∨ (QaO s).1 = 4 := (Qcb h).2.2
theorem Qjt {s : SS} {a t : Tm} (hI : QeZ s) (hsl : s.B.length + 10100 * (mu s + 1) ≤ 1000000000) (ha : tgd a) (ht : tgd t) : (Qa4 a t s).1 = 0 ∨ (Qa4 a t s).1 = 2 ∨ (Qa4 a t s).1 = 4 := by
 have hi := Qd0 hI hsl ha ht
 unfold Qa4
 simp only
 split
 ·exact .inr (.inr rfl)
 split
 ·exact .inl rfl
 ·exact Qel hi
structure QuZ (vars : Nat) (s : SS) (r : List Ev) (l : List Ts) (k : Int) : Prop where
 eq : r = Qdf l ++ [(k, .nil)]
 ans : ∀ T ∈ l, Qpq vars T
 kind : 2 ≤ k ∧ k ≤ 6
 more : ∃ m, l = s.ev ++ m
 six : (k = 6 ↔ l.length = 12) ∧ l.length ≤ 12
theorem Qsd (p : List Cl) (vars : Nat) (s : SS) (hI : Inv s) (hev : s.ev.length < 12) (hp : pB p = true) : (Qaq p vars s).1 = 6 ↔ (Qaq p vars s).2.ev.length = 12 := by
 rcases Qe6 p vars s hI hp with h | ⟨T, l, hv, h, h6⟩
 ·rw [h]
  constructor
  ·intro e
   exfalso
   -- no step but an answer ends so
   have hp2 : p.length ≤ 24 ∧ ∀ x ∈ p, cB x = true := by
    unfold pB at hp
    simp only [Bool.and_eq_true, decide_eq_true_eq, List.all_eq_true] at hp
    exact hp
   unfold Qaq at e h
   cases hg : s.goals with
   | nil =>
    rw [hg] at e h
    simp only at e h
    unfold QbZ at e h
    cases hv : Qby s.B vars 0 200 with
    | none => rw [hv] at e; cases e
    | some x =>
     rw [hv] at e h
     simp only at e h
     have hi : QeZ ⟨s.B, s.fresh, s.fuel, s.goals, s.ch, s.ev ++ [x.1.tidy]⟩ := ⟨hI.c.bok, hI.c.gb, hI.c.ch, hI.c.fr, hI.c.bl⟩
     split at h
     ·have := congrArg List.length h; simp at this
     ·rw [(Qcb hi).2.1] at h
      have := congrArg List.length h; simp at this
   | cons g rest =>
    rw [hg] at e
    simp only at e
    split at e
    ·cases e
    rename_i hf
    obtain ⟨h1, h2, h3, h4, h5, h6, h7⟩ := QcK hI hg hf
    split at e
    ·rename_i hb
     have hd := Qb6 _ h6
     unfold QaG at hb
     unfold QbR at e
     split at e
     ·cases e
     rename_i k1
     rw [if_neg k1] at hb
     split at e
     ·cases e
     rename_i k2
     rw [if_neg k2] at hb
     split at e
     ·rename_i k3
      rw [if_neg (by rw [k3]; decide), if_pos k3] at hb
      have hl : g.1.ar.length = 2 := by simpa using hb
      rcases Qjt h1 h2 (hd _ (Ts.at_mem (i := 0) Ya)) (hd _ (Ts.at_mem (i := 1) Ya)) with q | q | q <;> rw [q] at e <;> cases e
     split at e
     ·unfold Qiz at e
      simp only at e
      split at e
      ·cases e
      split at e
      ·rcases Qel h1 with q | q | q <;> rw [q] at e <;> cases e
      ·cases e
     split at e
     ·rename_i k5
      rw [if_neg (by rw [k5]; decide), if_neg (by rw [k5]; decide), if_neg (by rw [k5]; decide), if_pos k5] at hb
      have hl : g.1.ar.length = 3 := by simpa using hb
      unfold QrV at e
      simp only at e
      split at e
      ·cases e
      split at e
      ·cases e
      ·rename_i hr
       have tn : tgd ⟨2, (Qe s.B (g.1.ar.at_ 0)).n + (Qe s.B (g.1.ar.at_ 1)).n, ⟨#[]⟩, .nil⟩ := by
        refine ⟨?_, by simp [Ts.nodes]⟩
        simp only [Ts.good, Bool.and_eq_true, and_true]
        unfold Qa1
        rw [if_neg Yg, if_neg Yg, if_pos rfl]
        simp only [Bool.and_eq_true, decide_eq_true_eq]
        exact ⟨⟨⟨by omega, by omega⟩, Qap []⟩, rfl⟩
       rcases Qjt h1 h2 (hd _ (Ts.at_mem (i := 2) Ya)) tn with q | q | q <;> rw [q] at e <;> cases e
     ·rcases Qel h1 with q | q | q <;> rw [q] at e <;> cases e
    ·cases hm : p.filter (QeT g.1) with
     | nil => rw [hm] at e; cases e
     | cons c cs =>
      rw [hm] at e
      simp only at e
      have hsub : ∀ x ∈ c :: cs, cB x = true := fun x hx => hp2.2 x (by rw [← hm] at hx; exact (List.mem_filter.1 hx).1)
      have hlen : (c :: cs).length ≤ 24 := by rw [← hm]; exact Nat.le_trans (List.length_filter_le _ _) hp2.1
      obtain ⟨i1, i2⟩ := QgM hI hg hf hsub hlen
      rcases Qel i1 with q | q | q <;> rw [q] at e <;> cases e
  ·intro e; omega
 ·rw [h6, h]; simp
theorem Qp3 (p : List Cl) (vars : Nat) (hp : pB p = true) (hv : vars ≤ 8) : ∀ (n : Nat) (s : SS), Inv s → s.ev.length < 12 → mu s < n → (∀ T ∈ s.ev, Qpq vars T) → ∃ l k, QuZ vars s (QoH p vars n s) l k
 | 0, s, _, _, h, _ => by omega
 | n + 1, s, hI, hev, hmu, ha => by
  obtain ⟨hst, hst2⟩ := QfT (vars := vars) hI hev hp
  have hsix := Qsd p vars s hI hev hp
  have hle := QpX p vars s hI hev hp
  have hext : ∃ m, (Qaq p vars s).2.ev = s.ev ++ m := by
   rcases Qe6 p vars s hI hp with h | ⟨T, l, _, h, _⟩
   ·exact ⟨[], by rw [h]; simp⟩
   ·exact ⟨[T.tidy], h⟩
  have ha2 : ∀ T ∈ (Qaq p vars s).2.ev, Qpq vars T := by
   rcases Qe6 p vars s hI hp with h | ⟨T, l, hT, h, _⟩
   ·rw [h]; exact ha
   ·rw [h]
    intro X hX
    rcases List.mem_append.1 hX with hX | hX
    ·exact ha X hX
    ·obtain rfl : X = T.tidy := by simpa using hX
     exact QtD hI.c hv hT
  rw [QdH]
  by_cases h0 : (Qaq p vars s).1 = 0
  ·rw [if_pos h0]
   obtain ⟨l, k, hr⟩ := Qp3 p vars hp hv n _ (hst.go h0).1 (hst2 h0) (by have := (hst.go h0).2; omega) ha2
   obtain ⟨m1, e1⟩ := hext
   obtain ⟨m2, e2⟩ := hr.more
   exact ⟨l, k, hr.eq, hr.ans, hr.kind, ⟨m1 ++ m2, by rw [e2, e1, List.append_assoc]⟩, hr.six⟩
  ·rw [if_neg h0]
   have hk := hst.kind
   exact ⟨_, _, rfl, ha2, by omega, hext, hsix, hle⟩
theorem QtF {p : List Cl} {q : Ts} {vars fuel : Int} (h : (Qdr p q vars fuel).2 = 0) : pB p = true ∧ qB vars q = true ∧ 0 ≤ vars ∧ vars ≤ 8 ∧ 0 ≤ fuel ∧ fuel ≤ 150 ∧ Qdr p q vars fuel = (QoH p vars.toNat 4000 (Qbd q vars.toNat fuel.toNat), 0) ∧ Inv (Qbd q vars.toNat fuel.toNat) ∧ mu (Qbd q vars.toNat fuel.toNat) ≤ 3750 := by
 unfold Qdr at h ⊢
 split at h
 ·cases h
 rename_i h1
 split at h
 ·cases h
 rename_i h2
 have hp : pB p = true := by cases hb : pB p with
  | true => rfl
  | false => exact absurd (.inl hb) h1
 have hq : qB vars q = true := by cases hb : qB vars q with
  | true => rfl
  | false => exact absurd (.inr hb) h1
 have hq2 := hq
 simp only [qB, Bool.and_eq_true, decide_eq_true_eq] at hq2
 rw [if_neg h1, if_neg h2]
 obtain ⟨i1, i2⟩ := Qe7 (q := q) (vars := vars.toNat) (fuel := fuel.toNat) (by rw [Int.toNat_of_nonneg hq2.1.1.1]; exact hq) Ya
 exact ⟨hp, hq, by omega, by omega, by omega, by omega, rfl, i1, i2⟩
theorem Qek {p : List Cl} {q : Ts} {vars fuel : Int} (h : (Qdr p q vars fuel).2 = 0) : ∃ l k, QuZ vars.toNat (Qbd q vars.toNat fuel.toNat) (Qdr p q vars fuel).1 l k := by
 obtain ⟨hp, hq, v0, v1, f0, f1, e, hI, hm⟩ := QtF h
 rw [e]
 exact Qp3 p vars.toNat hp Ya 4000 _ hI (by simp [Qbd]) Ya (fun T hT => by simp [Qbd] at hT)
theorem Qm3 {p : List Cl} {q : Ts} {vars fuel : Int} (h : (Qdr p q vars fuel).2 ≠ 0) : (Qdr p q vars fuel).1 = [] := by
 unfold Qdr at h ⊢
 split
 ·rfl
 split
 ·rfl
 ·rename_i h1 h2
  rw [if_neg h1, if_neg h2] at h
  exact absurd rfl h
def SS.more (s : SS) (d : Nat) : SS := ⟨s.B, s.fresh, s.fuel + d, s.goals, s.ch, s.ev⟩
def QhH (d : Nat) (r : Int × SS) : Int × SS := (r.1, r.2.more d)
theorem QiZ (d : Nat) : ∀ (n : Nat) (s : SS), Qad n (s.more d) = QhH d (Qad n s)
 | 0, s => rfl
 | n + 1, s => by
  cases h1 : s.ch with
  | nil =>
   have e1 : Qad (n + 1) s = (2, s) := by unfold Qad; rw [h1]
   have e2 : Qad (n + 1) (s.more d) = (2, s.more d) := by
    unfold Qad
    rw [show (s.more d).ch = [] from h1]
   rw [e1, e2]; rfl
  | cons c cs =>
   cases h2 : c.cls with
   | nil =>
    have e1 : Qad (n + 1) s = (2, s) := by unfold Qad; rw [h1]; simp only; rw [h2]
    have e2 : Qad (n + 1) (s.more d) = (2, s.more d) := by
     unfold Qad
     rw [show (s.more d).ch = c :: cs from h1]; simp only; rw [h2]
    rw [e1, e2]; rfl
   | cons cl more =>
    rw [Qc8 h1 h2, Qc8 (s := s.more d) (show (s.more d).ch = c :: cs from h1) h2]
    show (if 400 < (Qb4 401 (cl.head.shift s.fresh) c.g.1 (Qal s.B c.bound) 0).w then _ else if (Qb4 401 (cl.head.shift s.fresh) c.g.1 (Qal s.B c.bound) 0).ok = true then _ else _) = _
    by_cases h4 : 400 < (Qb4 401 (cl.head.shift s.fresh) c.g.1 (Qal s.B c.bound) 0).w
    ·rw [if_pos h4, if_pos h4]; rfl
    rw [if_neg h4, if_neg h4]
    by_cases h : (Qb4 401 (cl.head.shift s.fresh) c.g.1 (Qal s.B c.bound) 0).ok = true
    ·rw [if_pos h, if_pos h]; rfl
    ·rw [if_neg h, if_neg h]; exact QiZ d n ⟨_, _, s.fuel, _, _, _⟩
theorem QcX (d : Nat) (s : SS) : QaO (s.more d) = QhH d (QaO s) := QiZ d _ s
theorem Qjs (d : Nat) (a t : Tm) (s : SS) : Qa4 a t (s.more d) = QhH d (Qa4 a t s) := by
 show (if 400 < (Qb4 401 a t s.B 0).w then _ else if (Qb4 401 a t s.B 0).ok = true then _ else _) = QhH d (if 400 < (Qb4 401 a t s.B 0).w then _ else if (Qb4 401 a t s.B 0).ok = true then _ else _)
 by_cases h4 : 400 < (Qb4 401 a t s.B 0).w
 ·rw [if_pos h4, if_pos h4]; rfl
 rw [if_neg h4, if_neg h4]
 by_cases h : (Qb4 401 a t s.B 0).ok = true
 ·rw [if_pos h, if_pos h]; rfl
 ·rw [if_neg h, if_neg h]; exact QcX d (s.setB _)
theorem Qpf (d : Nat) (g : Gl) (s : SS) : QbR g (s.more d) = QhH d (QbR g s) := by
 unfold QbR
 split
 ·rfl
 split
 ·rfl
 split
 ·exact Qjs d _ _ s
 split
 ·show (if (Qe s.B (g.1.ar.at_ 0)).k ≠ 2 ∨ (Qe s.B (g.1.ar.at_ 1)).k ≠ 2 then _ else if (Qe s.B (g.1.ar.at_ 1)).n ≤ (Qe s.B (g.1.ar.at_ 0)).n then _ else _) = QhH d (if (Qe s.B (g.1.ar.at_ 0)).k ≠ 2 ∨ (Qe s.B (g.1.ar.at_ 1)).k ≠ 2 then _ else if (Qe s.B (g.1.ar.at_ 1)).n ≤ (Qe s.B (g.1.ar.at_ 0)).n then _ else _)
  by_cases h4 : (Qe s.B (g.1.ar.at_ 0)).k ≠ 2 ∨ (Qe s.B (g.1.ar.at_ 1)).k ≠ 2
  ·rw [if_pos h4, if_pos h4]; rfl
  rw [if_neg h4, if_neg h4]
  by_cases h : (Qe s.B (g.1.ar.at_ 1)).n ≤ (Qe s.B (g.1.ar.at_ 0)).n
  ·rw [if_pos h, if_pos h]; exact QcX d s
  ·rw [if_neg h, if_neg h]; rfl
 split
 ·show (if (Qe s.B (g.1.ar.at_ 0)).k ≠ 2 ∨ (Qe s.B (g.1.ar.at_ 1)).k ≠ 2 then _ else if (Qe s.B (g.1.ar.at_ 0)).n + (Qe s.B (g.1.ar.at_ 1)).n < -1099511627776 ∨ 1099511627776 < (Qe s.B (g.1.ar.at_ 0)).n + (Qe s.B (g.1.ar.at_ 1)).n then _ else _) = QhH d (if (Qe s.B (g.1.ar.at_ 0)).k ≠ 2 ∨ (Qe s.B (g.1.ar.at_ 1)).k ≠ 2 then _ else if (Qe s.B (g.1.ar.at_ 0)).n + (Qe s.B (g.1.ar.at_ 1)).n < -1099511627776 ∨ 1099511627776 < (Qe s.B (g.1.ar.at_ 0)).n + (Qe s.B (g.1.ar.at_ 1)).n then _ else _)
  by_cases h4 : (Qe s.B (g.1.ar.at_ 0)).k ≠ 2 ∨ (Qe s.B (g.1.ar.at_ 1)).k ≠ 2
  ·rw [if_pos h4, if_pos h4]; rfl
  rw [if_neg h4, if_neg h4]
  by_cases h : (Qe s.B (g.1.ar.at_ 0)).n + (Qe s.B (g.1.ar.at_ 1)).n < -1099511627776 ∨ 1099511627776 < (Qe s.B (g.1.ar.at_ 0)).n + (Qe s.B (g.1.ar.at_ 1)).n
  ·rw [if_pos h, if_pos h]; rfl
  ·rw [if_neg h, if_neg h]; exact Qjs d _ _ s
 ·exact QcX d s
theorem Qm2 (d vars : Nat) (s : SS) : QbZ vars (s.more d) = QhH d (QbZ vars s) := by
 unfold QbZ
 show (match Qby s.B vars 0 200 with | none => _ | some (T, _) => _) = _
 cases Qby s.B vars 0 200 with
 | none => rfl
 | some x =>
  simp only
  show (if (s.ev ++ [x.1.tidy]).length = 12 then _ else _) = _
  split
  ·rfl
  ·exact QcX d ⟨s.B, s.fresh, s.fuel, s.goals, s.ch, s.ev ++ [x.1.tidy]⟩
theorem QpV (p : List Cl) (vars d : Nat) (s : SS) (h : s.goals = [] ∨ s.fuel ≠ 0) : Qaq p vars (s.more d) = QhH d (Qaq p vars s) := by
 cases hg : s.goals with
 | nil =>
  have e1 : Qaq p vars s = QbZ vars s := by unfold Qaq; rw [hg]
  have e2 : Qaq p vars (s.more d) = QbZ vars (s.more d) := by unfold Qaq; rw [show (s.more d).goals = [] from hg]
  rw [e1, e2]; exact Qm2 d vars s
 | cons g rest =>
  have hf : s.fuel ≠ 0 := by
   rcases h with h | h
   ·rw [hg] at h; cases h
   ·exact h
  unfold Qaq
  rw [hg, show (s.more d).goals = g :: rest from hg]
  simp only
  rw [if_neg hf, if_neg (show ¬ (s.more d).fuel = 0 by show ¬ s.fuel + d = 0; omega)]
  have e1 : (s.more d).fuel - 1 = (s.fuel - 1) + d := by show s.fuel + d - 1 = _; omega
  rw [e1]
  split
  ·exact Qpf d g ⟨s.B, s.fresh, s.fuel - 1, rest, s.ch, s.ev⟩
  ·cases p.filter (QeT g.1) with
   | nil => rfl
   | cons c cs => exact QcX d ⟨s.B, s.fresh, s.fuel - 1, rest, ⟨g, rest, c :: cs, s.B.length⟩ :: s.ch, s.ev⟩
theorem Qse (p : List Cl) (vars : Nat) (s : SS) {g : Gl} {rest : List Gl} (hg : s.goals = g :: rest) (hf : s.fuel = 0) : Qaq p vars s = (3, s) := by
 unfold Qaq
 rw [hg]
 simp only
 rw [if_pos hf]
theorem Qny (p : List Cl) (vars d : Nat) (hp : pB p = true) (hv : vars ≤ 8) : ∀ (n m : Nat) (s : SS), Inv s → Inv (s.more d) → s.ev.length < 12 → mu s < n → mu (s.more d) < m → (∀ T ∈ s.ev, Qpq vars T) →
  ∃ l k, QoH p vars n s = Qdf l ++ [(k, .nil)] ∧ (k ≠ 3 → QoH p vars m (s.more d) = Qdf l ++ [(k, .nil)]) ∧ (k = 3 → ∃ x r, QoH p vars m (s.more d) = Qdf l ++ x :: r)
 | 0, m, s, _, _, _, h, _, _ => by omega
 | n + 1, 0, s, _, _, _, _, h, _ => by omega
 | n + 1, m + 1, s, hI, hI2, hev, hmu, hmu2, ha => by
  by_cases hstop : ∃ g rest, s.goals = g :: rest ∧ s.fuel = 0
  ·obtain ⟨g, rest, hg, hf⟩ := hstop
   rw [QdH, Qse p vars s hg hf]
   refine ⟨s.ev, 3, rfl, fun h => absurd rfl h, fun _ => ?_⟩
   obtain ⟨l, k, hr⟩ := Qp3 p vars hp hv (m + 1) (s.more d) hI2 hev hmu2 ha
   obtain ⟨t, e⟩ := hr.more
   have e' : l = s.ev ++ t := e
   rw [hr.eq, e']
   cases t with
   | nil => exact ⟨(k, .nil), [], by simp⟩
   | cons x r => exact ⟨(1, x), Qdf r ++ [(k, .nil)], by simp [Qdf]⟩
  ·have hst := QpV p vars d s (by
    cases hg : s.goals with
    | nil => exact .inl rfl
    | cons g rest => exact .inr fun hf => hstop ⟨g, rest, hg, hf⟩)
   obtain ⟨s1, s2⟩ := QfT (vars := vars) hI hev hp
   obtain ⟨t1, t2⟩ := QfT (vars := vars) hI2 hev hp
   rw [QdH, QdH, hst]
   rw [hst] at t1 t2
   by_cases h0 : (Qaq p vars s).1 = 0
   ·rw [if_pos h0, if_pos (show (QhH d (Qaq p vars s)).1 = 0 from h0)]
    have ha2 : ∀ T ∈ (Qaq p vars s).2.ev, Qpq vars T := by
     rcases Qe6 p vars s hI hp with h | ⟨T, l, hT, h, _⟩
     ·rw [h]; exact ha
     ·rw [h]
      intro X hX
      rcases List.mem_append.1 hX with hX | hX
      ·exact ha X hX
      ·obtain rfl : X = T.tidy := by simpa using hX
       exact QtD hI.c hv hT
    exact Qny p vars d hp hv n m _ (s1.go h0).1 (t1.go h0).1 (s2 h0) (by have := (s1.go h0).2; omega) (by have := (t1.go h0).2; exact Nat.lt_of_lt_of_le this Ya) ha2
   ·rw [if_neg h0, if_neg (show ¬ (QhH d (Qaq p vars s)).1 = 0 from h0)]
    refine ⟨_, _, rfl, fun _ => rfl, fun _ => ⟨_, [], rfl⟩⟩
theorem Qs4 {p : List Cl} {q : Ts} {vars : Int} {f d : Nat} (hf : f + d ≤ 150) (h : (Qdr p q vars f).2 = 0) : (Qdr p q vars ((f + d : Nat) : Int)).2 = 0 ∧ ∃ l k, (Qdr p q vars f).1 = Qdf l ++ [(k, .nil)] ∧ (k ≠ 3 → (Qdr p q vars ((f + d : Nat) : Int)).1 = Qdf l ++ [(k, .nil)]) ∧ (k = 3 → ∃ x r, (Qdr p q vars ((f + d : Nat) : Int)).1 = Qdf l ++ x :: r) := by
 obtain ⟨hp, hq, v0, v1, _, _, e, hI, hm⟩ := QtF h
 have e2 : Qdr p q vars ((f + d : Nat) : Int) = (QoH p vars.toNat 4000 (Qbd q vars.toNat (f + d)), 0) := by
  unfold Qdr
  rw [if_neg (by rw [hp, hq]; simp), if_neg Ya]
  rfl
 obtain ⟨i1, i2⟩ := Qe7 (q := q) (vars := vars.toNat) (fuel := f + d) (by rw [Int.toNat_of_nonneg v0]; exact hq) hf
 refine ⟨by rw [e2], ?_⟩
 rw [e, e2]
 have e3 : Qbd q vars.toNat (f + d) = (Qbd q vars.toNat f).more d := rfl
 rw [e3] at i1 i2 ⊢
 rw [Int.toNat_natCast] at hI hm ⊢
 exact Qny p vars.toNat d hp Ya 4000 4000 _ hI i1 (by simp [Qbd]) Ya Ya (fun T hT => by simp [Qbd] at hT)
def Ts.brief : Ts → Prop
 | .nil => True
 | .cons k n s a r => s.size ≤ 2000 ∧ a.brief ∧ r.brief
def brT (t : Tm) : Prop := t.s.size ≤ 2000 ∧ t.ar.brief
theorem QlR {x : Tm} : ∀ {T : Ts}, T.brief → T.Mem x → brT x
 | .cons k n s a r, h, hx => by
  rcases hx with rfl | hx
  ·exact ⟨h.1, h.2.1⟩
  ·exact QlR h.2.2 hx
theorem Qn7 : Qvk brT := fun t h x hx => QlR h.2 hx
theorem QmV (m : Int) (T : Ts) : T.brief → (T.shift m).brief := by
 induction T with
 | nil => intro _; exact trivial
 | cons k n s a r iha ihr => intro h; rw [Ts.shift_cons]; exact ⟨h.1, iha h.2.1, ihr h.2.2⟩
theorem QlS {t : Tm} {m : Int} (h : brT t) : brT (t.shift m) := ⟨h.1, QmV m _ h.2⟩
theorem Qpg (T : Ts) : ∀ ks : List Int, T.brief → (T.tidyFrom ks).1.brief := by
 induction T with
 | nil => intro ks _; exact trivial
 | cons k n s a r iha ihr => intro ks h; rw [Ts.tidyFrom_cons]; exact ⟨h.1, iha _ h.2.1, ihr _ h.2.2⟩
theorem Qrj (k n : Int) : brT ⟨k, n, ⟨#[]⟩, .nil⟩ := ⟨by show (0 : Nat) ≤ 2000; omega, trivial⟩
def brC (c : Cl) : Prop := brT c.head ∧ c.bd.brief
structure Br (s : SS) : Prop where
 B : ∀ x ∈ s.B, brT x.2
 goals : ∀ g ∈ s.goals, brT g.1
 ch : ∀ h ∈ s.ch, brT h.g.1 ∧ (∀ g ∈ h.next, brT g.1) ∧ ∀ c ∈ h.cls, brC c
 ev : ∀ T ∈ s.ev, T.brief
theorem QmX {m : Int} {o : Nat} {rest : List Gl} (hr : ∀ g ∈ rest, brT g.1) : ∀ T : Ts, T.brief → ∀ g ∈ Qkn T m o rest, brT g.1
 | .nil, _ => hr
 | .cons k n s a r, h => by
  intro g hg
  rcases List.mem_cons.1 hg with rfl | hg
  ·exact QlS (t := ⟨k, n, s, a⟩) ⟨h.1, h.2.1⟩
  ·exact QmX hr r h.2.2 g hg
theorem QtU {B : Bnd} {n : Nat} (h : ∀ x ∈ B, brT x.2) : ∀ x ∈ Qal B n, brT x.2 := fun x hx => h x (List.mem_of_mem_drop hx)
theorem QuK {h : Ch} {cl : Cl} {more : List Cl} {cs : List Ch} (hc : ∀ x ∈ h :: cs, brT x.g.1 ∧ (∀ g ∈ x.next, brT g.1) ∧ ∀ c ∈ x.cls, brC c) (h2 : h.cls = cl :: more) : ∀ x ∈ QkA h more cs, brT x.g.1 ∧ (∀ g ∈ x.next, brT g.1) ∧ ∀ c ∈ x.cls, brC c := by
 intro x hx
 cases more with
 | nil => exact hc x (.tail _ hx)
 | cons m ms =>
  rcases List.mem_cons.1 hx with rfl | hx
  ·exact ⟨(hc h (.head _)).1, (hc h (.head _)).2.1, fun y hy => (hc h (.head _)).2.2 y (by rw [h2]; exact .tail _ hy)⟩
  ·exact hc x (.tail _ hx)
theorem QnB : ∀ (n : Nat) (s : SS), Br s → Br (Qad n s).2
 | 0, s, h => h
 | n + 1, s, h => by
  cases h1 : s.ch with
  | nil =>
   have e1 : Qad (n + 1) s = (2, s) := by unfold Qad; rw [h1]
   rw [e1]; exact h
  | cons x xs =>
   cases h2 : x.cls with
   | nil =>
    have e1 : Qad (n + 1) s = (2, s) := by unfold Qad; rw [h1]; simp only; rw [h2]
    rw [e1]; exact h
   | cons cl more =>
    have hc := h.ch
    rw [h1] at hc
    have hpop := QuK hc h2
    obtain ⟨hx1, hx2, hx3⟩ := hc x (.head _)
    have hcl := hx3 cl (by rw [h2]; exact .head _)
    have hu := QpG Qn7 401 (cl.head.shift s.fresh) x.g.1 (Qal s.B x.bound) 0 (QtU h.B) (QlS hcl.1) hx1
    rw [Qc8 h1 h2]
    split
    ·exact ⟨hu, h.goals, hpop, h.ev⟩
    split
    ·exact ⟨hu, QmX hx2 _ hcl.2, hpop, h.ev⟩
    ·exact QnB n _ ⟨hu, h.goals, hpop, h.ev⟩
theorem QfG {s : SS} (h : Br s) : Br (QaO s).2 := QnB _ s h
theorem Qn4 {s : SS} {a t : Tm} (ha : brT a) (ht : brT t) (h : Br s) : Br (Qa4 a t s).2 := by
 have hu := QpG Qn7 401 a t s.B 0 h.B ha ht
 unfold Qa4
 simp only
 split
 ·exact ⟨hu, h.goals, h.ch, h.ev⟩
 split
 ·exact ⟨hu, h.goals, h.ch, h.ev⟩
 ·exact QfG ⟨hu, h.goals, h.ch, h.ev⟩
theorem Qs0 : ∀ {T : Ts} (i : Nat), T.brief → brT (T.at_ i)
 | .nil, i, _ => Qrj 0 0
 | .cons k n s a r, 0, h => ⟨h.1, h.2.1⟩
 | .cons k n s a r, i + 1, h => Qs0 (T := r) i h.2.2
theorem QsY {s : SS} {g : Gl} (hg : brT g.1) (h : Br s) : Br (QbR g s).2 := by
 unfold QbR
 split
 ·exact ⟨h.B, h.goals, fun x hx => h.ch x (List.mem_of_mem_drop hx), h.ev⟩
 split
 ·exact h
 split
 ·exact Qn4 (Qs0 0 hg.2) (Qs0 1 hg.2) h
 split
 ·unfold Qiz
  simp only
  split
  ·exact h
  split
  ·exact QfG h
  ·exact h
 split
 ·unfold QrV
  simp only
  split
  ·exact h
  split
  ·exact h
  ·exact Qn4 (Qs0 2 hg.2) (Qrj 2 _) h
 ·exact QfG h
theorem QqD {g : Tm → Nat → Option (Tm × Nat)} (hg : ∀ t l p, brT t → g t l = some p → brT p.1) : ∀ (T : Ts) (l : Nat) (p : Ts × Nat), T.brief → Qij g T l = some p → p.1.brief
 | .nil, l, p, _, h => by
  simp only [Qij, Option.some.injEq] at h
  subst h
  exact trivial
 | .cons k n s a r, l, p, hT, h => by
  rw [QhK] at h
  cases h1 : g ⟨k, n, s, a⟩ l with
  | none => rw [h1] at h; cases h
  | some q =>
   rw [h1, Option.bind_some] at h
   cases h2 : Qij g r q.2 with
   | none => rw [h2] at h; cases h
   | some x =>
    rw [h2, Option.map_some, Option.some.injEq] at h
    subst h
    have := hg ⟨k, n, s, a⟩ l q ⟨hT.1, hT.2.1⟩ h1
    exact ⟨this.1, this.2, QqD hg r q.2 x hT.2.2 h2⟩
theorem QtB {B : Bnd} (hB : ∀ x ∈ B, brT x.2) : ∀ (f : Nat) (t : Tm) (l : Nat) (p : Tm × Nat), brT t → Qjz B f t l = some p → brT p.1
 | 0, t, l, p, _, h => by cases h
 | f + 1, t, l, p, ht, h => by
  have hl := Qje (Q := brT) hB ht
  rw [Qid] at h
  by_cases h0 : l = 0
  ·rw [if_pos h0] at h; cases h
  ·rw [if_neg h0] at h
   cases h1 : Qij (Qjz B f) (Qe B t).ar (l - 1) with
   | none => rw [h1] at h; cases h
   | some q =>
    rw [h1, Option.map_some, Option.some.injEq] at h
    subst h
    exact ⟨hl.1, QqD (fun t l p h1 h2 => QtB hB f t l p h1 h2) _ _ _ hl.2 h1⟩
theorem Qnd {B : Bnd} (hB : ∀ x ∈ B, brT x.2) : ∀ (m v l : Nat) (p : Ts × Nat), Qby B m v l = some p → p.1.brief
 | 0, v, l, p, h => by
  simp only [Qby, Option.some.injEq] at h
  subst h
  exact trivial
 | m + 1, v, l, p, h => by
  rw [QfN] at h
  cases h1 : Qjz B 201 ⟨0, v, ⟨#[]⟩, .nil⟩ l with
  | none => rw [h1] at h; cases h
  | some q =>
   rw [h1, Option.bind_some] at h
   cases h2 : Qby B m (v + 1) q.2 with
   | none => rw [h2] at h; cases h
   | some x =>
    rw [h2, Option.map_some, Option.some.injEq] at h
    subst h
    have := QtB hB 201 _ l q (Qrj 0 v) h1
    exact ⟨this.1, this.2, Qnd hB m (v + 1) q.2 x h2⟩
theorem QtZ {p : List Cl} {vars : Nat} {s : SS} (hp : ∀ x ∈ p, brC x) (h : Br s) : Br (Qaq p vars s).2 := by
 unfold Qaq
 cases hg : s.goals with
 | nil =>
  simp only
  unfold QbZ
  cases hv : Qby s.B vars 0 200 with
  | none => exact h
  | some x =>
   have hev : ∀ T ∈ s.ev ++ [x.1.tidy], T.brief := fun T hT => by
    rcases List.mem_append.1 hT with hT | hT
    ·exact h.ev T hT
    ·rw [List.mem_singleton.1 hT]; exact Qpg _ _ (Qnd h.B _ _ _ _ hv)
   simp only
   split
   ·exact ⟨h.B, by simp [hg], h.ch, hev⟩
   ·exact QfG ⟨h.B, by simp [hg], h.ch, hev⟩
 | cons g rest =>
  simp only
  have hgs := h.goals
  rw [hg] at hgs
  have hg1 := hgs g (.head _)
  have hrest : ∀ x ∈ rest, brT x.1 := fun x hx => hgs x (.tail _ hx)
  split
  ·exact h
  split
  ·exact QsY hg1 ⟨h.B, hrest, h.ch, h.ev⟩
  ·cases hm : p.filter (QeT g.1) with
   | nil => exact ⟨h.B, hrest, h.ch, h.ev⟩
   | cons x xs =>
    refine QfG ⟨h.B, hrest, fun y hy => ?_, h.ev⟩
    rcases List.mem_cons.1 hy with rfl | hy
    ·exact ⟨hg1, hrest, fun z hz => hp z (by rw [← hm] at hz; exact (List.mem_filter.1 hz).1)⟩
    ·exact h.ch y hy
theorem Qte {p : List Cl} {vars : Nat} (hp : ∀ x ∈ p, brC x) : ∀ (n : Nat) (s : SS), Br s → ∀ e ∈ QoH p vars n s, e.2.brief
 | 0, s, _, e, he => by cases he
 | n + 1, s, h, e, he => by
  have h1 := QtZ (vars := vars) hp h
  rw [QdH] at he
  split at he
  ·exact Qte hp n _ h1 e he
  ·rcases List.mem_append.1 he with he | he
   ·obtain ⟨T, hT, rfl⟩ := List.mem_map.1 he
    exact h1.ev T hT
   ·rw [List.mem_singleton.1 he]; exact trivial
theorem QuW {p : List Cl} {q : Ts} {vars fuel : Int} (hp : ∀ x ∈ p, brC x) (hq : q.brief) : ∀ e ∈ (Qdr p q vars fuel).1, e.2.brief := by
 unfold Qdr
 split
 ·intro e he; cases he
 split
 ·intro e he; cases he
 ·exact Qte hp _ _ ⟨fun x hx => (by cases hx), QmX (fun g hg => by cases hg) q hq, fun x hx => (by cases hx), fun x hx => (by cases hx)⟩
def WsB (p : PS) : Prop := ∀ x ∈ p.l, x.length ≤ 2000
def BrF (f : PS → Nd × PS) : Prop := ∀ p, WsB p → (f p).1.s.length ≤ 2000 ∧ (f p).1.ar.brief ∧ WsB (f p).2
theorem WsB.pop {p : PS} (h : WsB p) : WsB p.pop := fun x hx => h x (List.mem_of_mem_tail hx)
theorem WsB.close {p : PS} (h : WsB p) (t : Str) : WsB (p.close t) := by
 unfold PS.close
 split
 ·exact h
 split
 ·exact h.pop
 ·exact h
theorem Qi2 {f : PS → Nd × PS} (hf : BrF f) : ∀ (n : Nat) (p : PS), WsB p → (Qbw (QR f n p).1).brief ∧ WsB (QR f n p).2
 | 0, p, h => ⟨trivial, h⟩
 | n + 1, p, h => by
  unfold QR
  split
  ·obtain ⟨a1, a2, a3⟩ := hf p.pop h.pop
   obtain ⟨b1, b2⟩ := Qi2 hf n _ a3
   exact ⟨⟨by rw [Qbk]; exact a1, a2, b1⟩, b2⟩
  ·exact ⟨trivial, h⟩
theorem QeK {f : PS → Nd × PS} (hf : BrF f) (t : Str) (p : PS) (h : WsB p) : (Qbw (Qaf f t p).1).brief ∧ WsB (Qaf f t p).2 := by
 unfold Qaf
 obtain ⟨a1, a2, a3⟩ := hf p h
 obtain ⟨b1, b2⟩ := Qi2 hf (f p).2.l.length _ a3
 exact ⟨⟨by rw [Qbk]; exact a1, a2, b1⟩, b2.close t⟩
theorem QuH {p : PS} (h : WsB p) (x : Str) : WsB (p.var x).2 := by
 unfold PS.var
 split
 ·exact h
 ·exact h
theorem Qd9 : ∀ d, BrF (QQ d)
 | 0, p, h => ⟨by simp [QQ, Nd.zero], trivial, h⟩
 | d + 1, p, h => by
  unfold QQ
  split
  ·exact ⟨by simp [Nd.zero], trivial, h⟩
  ·exact ⟨by simp [Nd.zero], trivial, h⟩
  ·rename_i c r q hl
   have hw : (c :: r).length ≤ 2000 := h (c :: r) (by rw [hl]; exact .head _)
   split
   ·exact ⟨by simp, trivial, h.pop⟩
   split
   ·exact ⟨by simp, trivial, QuH h.pop _⟩
   split
   ·exact ⟨by simp, trivial, h.pop⟩
   split
   ·exact ⟨by simp [Nd.zero], trivial, h⟩
   split
   ·obtain ⟨b1, b2⟩ := QeK (Qd9 d) [41] p.pop.pop h.pop.pop
    exact ⟨hw, b1, b2⟩
   ·exact ⟨hw, trivial, h.pop⟩
theorem Qdx (L : Nat) : ∀ (n : Nat) (l : Str), l.length ≤ L → ∀ x ∈ Qb1 n l, x.length ≤ L
 | 0, l, h, x, hx => by simp [Qb1] at hx
 | n + 1, [], h, x, hx => by simp [Qb1] at hx
 | n + 1, c :: r, h, x, hx => by
  simp only [List.length_cons] at h
  simp only [Qb1] at hx
  split at hx
  ·exact Qdx L n r Ya x hx
  split at hx
  ·rw [List.mem_singleton.1 hx]; simp
  ·rcases List.mem_cons.1 hx with rfl | hx
   ·rw [List.length_take]; simp only [List.length_cons]; omega
   ·exact Qdx L n _ (by rw [List.length_drop]; simp only [List.length_cons]; omega) x hx
theorem Qnt {l : Str} (h : l.length ≤ 2000) : WsB (PS.start l) := fun x hx => Qdx 2000 _ l h x hx
theorem QoM (p : PS) (h : WsB p) : (Qbw (QaM p).1).brief ∧ WsB (QaM p).2 := by
 unfold QaM
 split
 ·exact QeK (Qd9 24) [46] p.pop h.pop
 ·exact ⟨trivial, h.close _⟩
theorem Qk2 (p : PS) (h : WsB p) : brC (Qp p).1 ∧ WsB (Qp p).2 := by
 obtain ⟨a1, a2, a3⟩ := Qd9 24 { p with vars := [] } h
 obtain ⟨b1, b2⟩ := QoM _ a3
 exact ⟨⟨⟨by show (⟨_⟩ : ByteArray).size ≤ 2000; rw [Qbk]; exact a1, a2⟩, b1⟩, b2⟩
theorem Qgo : ∀ (n : Nat) (p : PS) (L : List Cl), WsB p → Qam n p = some L → ∀ c ∈ L, cB c = true ∧ brC c
 | 0, p, L, _, h, c, hc => by
  simp only [Qam, Option.some.injEq] at h
  subst h; cases hc
 | n + 1, p, L, hp, h, c, hc => by
  unfold Qam at h
  split at h
  ·simp only [Option.some.injEq] at h
   subst h; cases hc
  split at h
  ·cases h
  ·rename_i hb
   obtain ⟨b1, b2⟩ := Qk2 p hp
   cases hr : Qam n (Qp p).2 with
   | none => rw [hr] at h; cases h
   | some K =>
    rw [hr] at h
    simp only [Option.map_some, Option.some.injEq] at h
    subst h
    rcases List.mem_cons.1 hc with rfl | hc
    ·refine ⟨?_, b1⟩
     cases hcb : cB (Qp p).1 with
     | true => rfl
     | false => exact absurd (.inr hcb) hb
    ·exact Qgo n _ K b2 hr c hc
theorem Qi3 {l : Str} (h : (Qq QG l).2 = 0) : pB (Qq QG l).1 = true ∧ ∀ c ∈ (Qq QG l).1, brC c := by
 rw [Qmz] at h ⊢
 unfold QeL at h ⊢
 by_cases hl : 2000 < l.length
 ·rw [if_pos hl] at h; cases h
 rw [if_neg hl] at h ⊢
 cases hr : Qam (PS.start l).l.length (PS.start l) with
 | none => rw [hr] at h; cases h
 | some L =>
  rw [hr] at h
  dsimp only at h ⊢
  by_cases h24 : 24 < L.length
  ·rw [if_pos h24] at h; cases h
  rw [if_neg h24]
  have hg := Qgo _ _ L (Qnt Ya) hr
  refine ⟨?_, fun c hc => (hg c hc).2⟩
  unfold pB
  simp only [Bool.and_eq_true, decide_eq_true_eq, List.all_eq_true]
  exact ⟨by omega, fun c hc => (hg c hc).1⟩
theorem QnC {l : Str} (h : (QA QG l).2.2 = 0) : qB ((QA QG l).2.1 : Nat) (QA QG l).1 = true ∧ (QA QG l).1.brief ∧ 0 < (QA QG l).1.length := by
 rw [Qk3] at h ⊢
 unfold Qfg at h ⊢
 by_cases hl : 2000 < l.length
 ·rw [if_pos hl] at h; cases h
 rw [if_neg hl] at h ⊢
 dsimp only at h ⊢
 split
 ·rename_i hb; rw [if_pos hb] at h; cases h
 ·rename_i hb
  obtain ⟨b1, _⟩ := QeK (Qd9 24) [46] (PS.start l) (Qnt Ya)
  refine ⟨?_, b1, ?_⟩
  ·cases hq : qB ((QaU (PS.start l)).2.vars.length : Nat) (Qbw (QaU (PS.start l)).1) with
   | true => rfl
   | false => exact absurd (.inr (.inr hq)) hb
  ·unfold QaU Qaf; simp only [Qbw, Ts.length]; omega
open Go.Shelf
def QhN (e : Ev) : Str := QbB e.1 e.2
def Qdt (p q : Str) (fuel every : Int) : List Str × Int :=
 if (Qq QG p).2 ≠ 0 then ([], (Qq QG p).2)
 else if (QA QG q).2.2 ≠ 0 then ([], (QA QG q).2.2)
 else if every < 0 then ([], 2)
 else if (Qdr (Qq QG p).1 (QA QG q).1 ((QA QG q).2.1 : Nat) fuel).2 ≠ 0 then ([], (Qdr (Qq QG p).1 (QA QG q).1 ((QA QG q).2.1 : Nat) fuel).2)
 else ((Qdr (Qq QG p).1 (QA QG q).1 ((QA QG q).2.1 : Nat) fuel).1.map QhN, 0)
theorem QhV {v : Nat} (hv : v ≤ 1000000) : ∀ T : Ts, T.good v = true → rng T
 | .nil, _ => trivial
 | .cons k n s a r, h => by
  simp only [Ts.good, Bool.and_eq_true] at h
  refine ⟨?_, QhV hv a h.1.2, QhV hv r h.2⟩
  have := h.1.1
  unfold Qa1 at this
  split at this
  ·simp only [Bool.and_eq_true, decide_eq_true_eq] at this; omega
  split at this
  ·simp only [Bool.and_eq_true, decide_eq_true_eq] at this; omega
  split at this
  ·simp only [Bool.and_eq_true, decide_eq_true_eq] at this; omega
  split at this
  ·simp only [Bool.and_eq_true, decide_eq_true_eq] at this; omega
  ·cases this
theorem QoX (k n : Int) (s : ByteArray) (hn : -9223372036854775808 ≤ n ∧ n ≤ 9223372036854775807) (hs : s.size ≤ 2000) : (QaE k n s.data.toList).length ≤ 2000 := by
 unfold QaE
 split
 ·unfold QcC; split <;> simp
 split
 ·have := Lib.itoa_length_le n hn.1 hn.2; omega
 split
 ·rw [Array.length_toList]; exact hs
 ·simp
theorem QjS : ∀ (T : Ts) (c : Bool), T.brief → rng T → (QgO c T).length ≤ T.nodes * 2003
 | .nil, c, _, _ => by simp [QgO]
 | .cons k n s a r, c, hb, hr => by
  have h1 := QoX k n s hr.1 hb.1
  have h2 := QjS a false hb.2.1 hr.2.1
  have h3 := QjS r true hb.2.2 hr.2.2
  simp only [QgO, List.length_append, Ts.nodes]
  have h4 : (if c = true then ([44] : Str) else []).length ≤ 1 := by split <;> simp
  have h5 : (if QcM k a = true then (40 :: (QgO false a ++ [41]) : Str) else []).length ≤ (QgO false a).length + 2 := by split <;> simp
  omega
theorem Qne : ∀ (i : Nat) (T : Ts), T.brief → rng T → i + T.length ≤ 1000000 → (QbU i T).length ≤ T.nodes * 2030
 | i, .nil, _, _, _ => by simp [QbU]
 | i, .cons k n s a r, hb, hr, hi => by
  simp only [Ts.length] at hi
  have h1 := QjS (.cons k n s a .nil) false ⟨hb.1, hb.2.1, trivial⟩ ⟨hr.1, hr.2.1, trivial⟩
  have h2 := Qne (i + 1) r hb.2.2 hr.2.2 Ya
  have h3 := Lib.itoa_length_le (i : Nat) Ya Ya
  simp only [QbU, List.length_append, List.length_cons, List.length_nil, Ts.nodes] at h1 ⊢
  omega
theorem Qpj {P : List Cl} {q : Ts} {vars fuel : Int} (hp : ∀ c ∈ P, brC c) (hq : q.brief) : ∀ e ∈ (Qdr P q vars fuel).1, e.2.nodes ≤ 200 ∧ rng e.2 ∧ e.2.brief ∧ (QhN e).length ≤ 1000000 := by
 intro e he
 have hb := QuW hp hq e he
 by_cases h0 : (Qdr P q vars fuel).2 = 0
 ·obtain ⟨l, k, hr⟩ := Qek h0
  rw [hr.eq] at he
  have key : e.2.nodes ≤ 200 ∧ rng e.2 := by
   rcases List.mem_append.1 he with he | he
   ·obtain ⟨T, hT, rfl⟩ := List.mem_map.1 he
    have := hr.ans T hT
    exact ⟨this.2.1, QhV (v := 200) Ya T this.2.2⟩
   ·rw [List.mem_singleton.1 he]; exact ⟨by simp [Ts.nodes], trivial⟩
  refine ⟨key.1, key.2, hb, ?_⟩
  have hl := e.2.length_le
  have hv := Qne 0 e.2 hb key.2 Ya
  unfold QhN QbB
  split
  ·rw [List.length_append]; simp only [List.length_cons, List.length_nil]; omega
  ·unfold Qc1
   repeat' split
   all_goals simp
 ·rw [Qm3 h0] at he; cases he
theorem Qrs {P : List Cl} {q : Ts} {vars fuel : Int} : (Qdr P q vars fuel).1.length ≤ 13 := by
 by_cases h0 : (Qdr P q vars fuel).2 = 0
 ·obtain ⟨l, k, hr⟩ := Qek h0
  rw [hr.eq]
  have := hr.six.2
  simp [Qdf]; omega
 ·rw [Qm3 h0]; simp
inductive Vw (X : Type) where
 | var (v : Int)
 | node (k n : Int) (s : ByteArray) (ar : List X)
def Vw.sub {X : Type} (a : Vw X) (v : Int) (t : Vw X) : Vw X := match a with
 | .var u => if u = v then t else .var u
 | .node k n s ar => .node k n s ar
inductive Al {X Y : Type} (R : X → Y → Prop) : List X → List Y → Prop
 | nil : Al R [] []
 | cons {x : X} {y : Y} {l : List X} {m : List Y} : R x y → Al R l m → Al R (x :: l) (y :: m)
theorem Al.len {X Y : Type} {R : X → Y → Prop} {l : List X} {m : List Y} (h : Al R l m) : l.length = m.length := by
 induction h with
 | nil => rfl
 | cons _ _ ih => simp [ih]
theorem Al.imp {X Y : Type} {R Q : X → Y → Prop} (hi : ∀ x y, R x y → Q x y) {l : List X} {m : List Y} (h : Al R l m) : Al Q l m := by
 induction h with
 | nil => exact .nil
 | cons h _ ih => exact .cons (hi _ _ h) ih
theorem Al.app {X Y : Type} {R : X → Y → Prop} {l l' : List X} {m m' : List Y} (h : Al R l m) (h' : Al R l' m') : Al R (l ++ l') (m ++ m') := by
 induction h with
 | nil => exact h'
 | cons h _ ih => exact .cons h ih
structure Sy where
 X : Type
 S : Type
 ok : S → Prop
 dom : S → X → Prop
 view : S → X → Vw X
 bind : S → Int → X → S
 join : S → X → X → S
structure Sy.Law (A : Sy) : Prop where
 bind_ok : ∀ {σ x v t k n s ar}, A.ok σ → A.dom σ x → A.dom σ t → A.view σ x = .var v → A.view σ t = .node k n s ar → A.ok (A.bind σ v t)
 bind_dom : ∀ {σ v t y}, A.dom σ y → A.dom (A.bind σ v t) y
 bind_view : ∀ {σ x v t k n s ar y}, A.ok σ → A.dom σ x → A.dom σ t → A.view σ x = .var v → A.view σ t = .node k n s ar → A.dom σ y → A.view (A.bind σ v t) y = (A.view σ y).sub v (A.view σ t)
 join_ok : ∀ {σ a b u v}, A.ok σ → A.dom σ a → A.dom σ b → A.view σ a = .var u → A.view σ b = .var v → u ≠ v → A.ok (A.join σ a b)
 join_dom : ∀ {σ a b y}, A.dom σ y → A.dom (A.join σ a b) y
 join_view : ∀ {σ a b u v}, A.ok σ → A.dom σ a → A.dom σ b → A.view σ a = .var u → A.view σ b = .var v → u ≠ v →
  (∀ y, A.dom σ y → A.view (A.join σ a b) y = (A.view σ y).sub u (.var v)) ∨ (∀ y, A.dom σ y → A.view (A.join σ a b) y = (A.view σ y).sub v (.var u))
section
variable {A : Sy}
def Qpu {X : Type} (g : X → Nat → Bool × Nat) : List X → Nat → Bool × Nat
 | [], w => (false, w)
 | x :: r, w => if (g x w).1 = true then (true, (g x w).2) else Qpu g r (g x w).2
def QgA (A : Sy) (σ : A.S) (v : Int) : Nat → A.X → Nat → Bool × Nat
 | 0, _, w => (false, w + 1)
 | f + 1, x, w => if 400 < w + 1 then (false, w + 1) else match A.view σ x with
  | .var u => (decide (u = v), w + 1)
  | .node _ _ _ ar => Qpu (QgA A σ v f) ar (w + 1)
structure Ug (S : Type) where
 ok : Bool
 s : S
 w : Nat
def Ql1 {X S : Type} (g : X → X → S → Nat → Ug S) : List X → List X → S → Nat → Ug S
 | x :: r, y :: r', σ, w => if (g x y σ w).ok = true then Ql1 g r r' (g x y σ w).s (g x y σ w).w else g x y σ w
 | _, _, σ, w => ⟨true, σ, w⟩
def Qpt (A : Sy) (v : Int) (t : A.X) (σ : A.S) (w : Nat) : Ug A.S :=
 if (QgA A σ v 401 t w).1 = true ∨ 400 < (QgA A σ v 401 t w).2 then ⟨false, σ, (QgA A σ v 401 t w).2⟩ else ⟨true, A.bind σ v t, (QgA A σ v 401 t w).2⟩
def QfP (A : Sy) : Nat → A.X → A.X → A.S → Nat → Ug A.S
 | 0, _, _, σ, w => ⟨false, σ, w + 1⟩
 | f + 1, a, b, σ, w => if 400 < w + 1 then ⟨false, σ, w + 1⟩ else match A.view σ a, A.view σ b with
  | .var u, .var v => ⟨true, if u = v then σ else A.join σ a b, w + 1⟩
  | .var u, .node _ _ _ _ => Qpt A u b σ (w + 1)
  | .node _ _ _ _, .var v => Qpt A v a σ (w + 1)
  | .node k n s ar, .node k' n' s' ar' => if k = k' ∧ n = n' ∧ s = s' ∧ ar.length = ar'.length then Ql1 (QfP A f) ar ar' σ (w + 1) else ⟨false, σ, w + 1⟩
def Qer {X : Type} (g : X → Nat → Option (Tm × Nat)) : List X → Nat → Option (Ts × Nat)
 | [], l => some (.nil, l)
 | x :: r, l => match g x l with
  | none => none
  | some (t, l') => match Qer g r l' with
   | none => none
   | some (T, l'') => some (.cons t.k t.n t.s t.ar T, l'')
def Qgx (A : Sy) (σ : A.S) : Nat → A.X → Nat → Option (Tm × Nat)
 | 0, _, _ => none
 | f + 1, x, l => if l = 0 then none else match A.view σ x with
  | .var u => some (⟨0, u, ⟨#[]⟩, .nil⟩, l - 1)
  | .node k n s ar => match Qer (Qgx A σ f) ar (l - 1) with
   | none => none
   | some (T, l') => some (⟨k, n, s, T⟩, l')
end
section
variable {A B : Sy} {R : A.X → B.X → Prop} {σ : A.S} {τ : B.S}
def VwR {X Y : Type} (R : X → Y → Prop) : Vw X → Vw Y → Prop
 | .var _, .var _ => True
 | .node k n s ar, .node k' n' s' ar' => k = k' ∧ n = n' ∧ s = s' ∧ Al R ar ar'
 | _, _ => False
theorem VwR.imp {X Y : Type} {R Q : X → Y → Prop} (hi : ∀ x y, R x y → Q x y) : ∀ {a : Vw X} {b : Vw Y}, VwR R a b → VwR Q a b
 | .var _, .var _, _ => trivial
 | .node _ _ _ _, .node _ _ _ _, h => ⟨h.1, h.2.1, h.2.2.1, h.2.2.2.imp hi⟩
structure Bm (A B : Sy) (R : A.X → B.X → Prop) (σ : A.S) (τ : B.S) : Prop where
 oka : A.ok σ
 okb : B.ok τ
 da : ∀ {x y}, R x y → A.dom σ x
 db : ∀ {x y}, R x y → B.dom τ y
 vw : ∀ {x y}, R x y → VwR R (A.view σ x) (B.view τ y)
 vr : ∀ {x y x' y' u u' v v'}, R x y → R x' y' → A.view σ x = .var u → A.view σ x' = .var u' → B.view τ y = .var v → B.view τ y' = .var v' → (u = u' ↔ v = v')
theorem Bm.cases (h : Bm A B R σ τ) {x : A.X} {y : B.X} (hr : R x y) : (∃ u v, A.view σ x = .var u ∧ B.view τ y = .var v) ∨ ∃ k n s ar ar', A.view σ x = .node k n s ar ∧ B.view τ y = .node k n s ar' ∧ Al R ar ar' := by
 have := h.vw hr
 cases hx : A.view σ x with
 | var u =>
  cases hy : B.view τ y with
  | var v => exact .inl ⟨u, v, rfl, rfl⟩
  | node k n s ar => rw [hx, hy] at this; exact this.elim
 | node k n s ar =>
  cases hy : B.view τ y with
  | var v => rw [hx, hy] at this; exact this.elim
  | node k' n' s' ar' =>
   rw [hx, hy] at this
   obtain ⟨rfl, rfl, rfl, h4⟩ := this
   exact .inr ⟨k, n, s, ar, ar', rfl, rfl, h4⟩
theorem Bm.bind (hA : A.Law) (hB : B.Law) (h : Bm A B R σ τ) {x t : A.X} {y t' : B.X} {v v' : Int} {k n : Int} {s : ByteArray} {ar : List A.X} {ar' : List B.X} (hx : R x y) (ht : R t t') (hv : A.view σ x = .var v) (hv' : B.view τ y = .var v') (htv : A.view σ t = .node k n s ar) (htv' : B.view τ t' = .node k n s ar') (hal : Al R ar ar') :
  Bm A B R (A.bind σ v t) (B.bind τ v' t') := by
 have ea := fun {z : A.X} (hz : A.dom σ z) => hA.bind_view (y := z) h.oka (h.da hx) (h.da ht) hv htv hz
 have eb := fun {z : B.X} (hz : B.dom τ z) => hB.bind_view (y := z) h.okb (h.db hx) (h.db ht) hv' htv' hz
 refine ⟨hA.bind_ok h.oka (h.da hx) (h.da ht) hv htv, hB.bind_ok h.okb (h.db hx) (h.db ht) hv' htv', fun hr => hA.bind_dom (h.da hr), fun hr => hB.bind_dom (h.db hr), fun {p q} hr => ?_, ?_⟩
 ·rw [ea (h.da hr), eb (h.db hr)]
  rcases h.cases hr with ⟨u, u', e, e'⟩ | ⟨k2, n2, s2, r2, r2', e, e', ha⟩
  ·have := h.vr hr hx e hv e' hv'
   rw [e, e']
   simp only [Vw.sub]
   by_cases he : u = v
   ·rw [if_pos he, if_pos (this.1 he), htv, htv']; exact ⟨rfl, rfl, rfl, hal⟩
   ·rw [if_neg he, if_neg fun e2 => he (this.2 e2)]; trivial
  ·rw [e, e']; exact ⟨rfl, rfl, rfl, ha⟩
 ·intro p q p' q' u u' w w' hr hr' e1 e2 e3 e4
  rw [ea (h.da hr)] at e1
  rw [ea (h.da hr')] at e2
  rw [eb (h.db hr)] at e3
  rw [eb (h.db hr')] at e4
  rcases h.cases hr with ⟨c, c', f1, f2⟩ | ⟨k2, n2, s2, r2, r2', f1, f2, _⟩
  ·rcases h.cases hr' with ⟨d, d', g1, g2⟩ | ⟨k2, n2, s2, r2, r2', g1, g2, _⟩
   ·rw [f1] at e1
    rw [g1] at e2
    rw [f2] at e3
    rw [g2] at e4
    simp only [Vw.sub] at e1 e2 e3 e4
    split at e1
    ·rw [htv] at e1; cases e1
    split at e2
    ·rw [htv] at e2; cases e2
    split at e3
    ·rw [htv'] at e3; cases e3
    split at e4
    ·rw [htv'] at e4; cases e4
    cases e1; cases e2; cases e3; cases e4
    exact h.vr hr hr' f1 g1 f2 g2
   ·rw [g1] at e2; simp only [Vw.sub] at e2; cases e2
  ·rw [f1] at e1; simp only [Vw.sub] at e1; cases e1
theorem Bm.join (hA : A.Law) (hB : B.Law) (h : Bm A B R σ τ) {a b : A.X} {a' b' : B.X} {u v u' v' : Int} (ha : R a a') (hb : R b b') (hu : A.view σ a = .var u) (hv : A.view σ b = .var v) (hu' : B.view τ a' = .var u') (hv' : B.view τ b' = .var v') (hne : u ≠ v) :
  Bm A B R (A.join σ a b) (B.join τ a' b') := by
 have hne' : u' ≠ v' := fun e => hne ((h.vr ha hb hu hv hu' hv').2 e)
 have ja := hA.join_view h.oka (h.da ha) (h.da hb) hu hv hne
 have jb := hB.join_view h.okb (h.db ha) (h.db hb) hu' hv' hne'
 have key : ∀ (p q : Int) (p' q' : Int), ((p = u ∧ q = v) ∨ (p = v ∧ q = u)) → ((p' = u' ∧ q' = v') ∨ (p' = v' ∧ q' = u')) → (∀ y, A.dom σ y → A.view (A.join σ a b) y = (A.view σ y).sub p (.var q)) → (∀ y, B.dom τ y → B.view (B.join τ a' b') y = (B.view τ y).sub p' (.var q')) → Bm A B R (A.join σ a b) (B.join τ a' b') := by
  intro p q p' q' hp hp' ea eb
  refine ⟨hA.join_ok h.oka (h.da ha) (h.da hb) hu hv hne, hB.join_ok h.okb (h.db ha) (h.db hb) hu' hv' hne', fun hr => hA.join_dom (h.da hr), fun hr => hB.join_dom (h.db hr), fun {c d} hr => ?_, ?_⟩
  ·rw [ea _ (h.da hr), eb _ (h.db hr)]
   rcases h.cases hr with ⟨w, w', e, e'⟩ | ⟨k2, n2, s2, r2, r2', e, e', hal⟩
   ·rw [e, e']
    simp only [Vw.sub]
    split <;> split <;> trivial
   ·rw [e, e']; exact ⟨rfl, rfl, rfl, hal⟩
  ·intro x y x' y' c c' d d' hr hr' e1 e2 e3 e4
   rw [ea _ (h.da hr)] at e1
   rw [ea _ (h.da hr')] at e2
   rw [eb _ (h.db hr)] at e3
   rw [eb _ (h.db hr')] at e4
   rcases h.cases hr with ⟨x1, y1, f1, f2⟩ | ⟨k2, n2, s2, r2, r2', f1, f2, _⟩
   ·rcases h.cases hr' with ⟨x2, y2, g1, g2⟩ | ⟨k2, n2, s2, r2, r2', g1, g2, _⟩
    ·have i1 := h.vr hr hr' f1 g1 f2 g2
     have i2 := h.vr hr ha f1 hu f2 hu'
     have i3 := h.vr hr hb f1 hv f2 hv'
     have i4 := h.vr hr' ha g1 hu g2 hu'
     have i5 := h.vr hr' hb g1 hv g2 hv'
     rw [f1] at e1
     rw [g1] at e2
     rw [f2] at e3
     rw [g2] at e4
     simp only [Vw.sub] at e1 e2 e3 e4
     have t1 : c = if x1 = p then q else x1 := by
      split at e1 <;> (cases e1; rename_i hh; simp [hh])
     have t2 : c' = if x2 = p then q else x2 := by
      split at e2 <;> (cases e2; rename_i hh; simp [hh])
     have t3 : d = if y1 = p' then q' else y1 := by
      split at e3 <;> (cases e3; rename_i hh; simp [hh])
     have t4 : d' = if y2 = p' then q' else y2 := by
      split at e4 <;> (cases e4; rename_i hh; simp [hh])
     clear e1 e2 e3 e4 ea eb ja jb
     rcases hp with ⟨rfl, rfl⟩ | ⟨rfl, rfl⟩ <;> rcases hp' with ⟨rfl, rfl⟩ | ⟨rfl, rfl⟩ <;> (subst t1 t2 t3 t4; split <;> split <;> split <;> split <;> omega)
    ·rw [g1] at e2; simp only [Vw.sub] at e2; cases e2
   ·rw [f1] at e1; simp only [Vw.sub] at e1; cases e1
 rcases ja with ja | ja <;> rcases jb with jb | jb
 ·exact key u v u' v' (.inl ⟨rfl, rfl⟩) (.inl ⟨rfl, rfl⟩) ja jb
 ·exact key u v v' u' (.inl ⟨rfl, rfl⟩) (.inr ⟨rfl, rfl⟩) ja jb
 ·exact key v u u' v' (.inr ⟨rfl, rfl⟩) (.inl ⟨rfl, rfl⟩) ja jb
 ·exact key v u v' u' (.inr ⟨rfl, rfl⟩) (.inr ⟨rfl, rfl⟩) ja jb
theorem Qus {X Y : Type} {R : X → Y → Prop} {g : X → Nat → Bool × Nat} {g' : Y → Nat → Bool × Nat} (hg : ∀ x y w, R x y → g x w = g' y w) {l : List X} {m : List Y} (h : Al R l m) : ∀ w, Qpu g l w = Qpu g' m w := by
 induction h with
 | nil => intro w; rfl
 | cons h _ ih => intro w; simp only [Qpu]; rw [hg _ _ w h, ih]
theorem Qqj (h : Bm A B R σ τ) {x0 : A.X} {y0 : B.X} {v v' : Int} (h0 : R x0 y0) (hv : A.view σ x0 = .var v) (hv' : B.view τ y0 = .var v') : ∀ (f : Nat) (x : A.X) (y : B.X) (w : Nat), R x y → QgA A σ v f x w = QgA B τ v' f y w
 | 0, x, y, w, hr => rfl
 | f + 1, x, y, w, hr => by
  simp only [QgA]
  split
  ·rfl
  ·rcases h.cases hr with ⟨u, u', e, e'⟩ | ⟨k, n, s, ar, ar', e, e', ha⟩
   ·rw [e, e']
    have := h.vr hr h0 e hv e' hv'
    show (decide (u = v), _) = (decide (u' = v'), _)
    rw [show decide (u = v) = decide (u' = v') from by by_cases hh : u = v <;> simp [hh, ← this]]
   ·rw [e, e']
    exact Qus (fun x y w hr => Qqj h h0 hv hv' f x y w hr) ha _
def UgR (A B : Sy) (R : A.X → B.X → Prop) (r : Ug A.S) (r' : Ug B.S) : Prop := r.ok = r'.ok ∧ r.w = r'.w ∧ Bm A B R r.s r'.s
theorem Qut {g : A.X → A.X → A.S → Nat → Ug A.S} {g' : B.X → B.X → B.S → Nat → Ug B.S} (hg : ∀ a b a' b' σ τ w, Bm A B R σ τ → R a a' → R b b' → UgR A B R (g a b σ w) (g' a' b' τ w)) {l l2 : List A.X} {m m2 : List B.X} (h : Al R l m) (h2 : Al R l2 m2) :
  ∀ (σ : A.S) (τ : B.S) (w : Nat), Bm A B R σ τ → UgR A B R (Ql1 g l l2 σ w) (Ql1 g' m m2 τ w) := by
 induction h generalizing l2 m2 with
 | nil => intro σ τ w hb; cases h2 <;> exact ⟨rfl, rfl, hb⟩
 | cons h _ ih =>
  intro σ τ w hb
  cases h2 with
  | nil => exact ⟨rfl, rfl, hb⟩
  | cons h2 h3 =>
   simp only [Ql1]
   obtain ⟨e1, e2, e3⟩ := hg _ _ _ _ σ τ w hb h h2
   rw [← e1]
   split
   ·rw [← e2]; exact ih h3 _ _ _ e3
   ·exact ⟨e1, e2, e3⟩
theorem Qrv (hA : A.Law) (hB : B.Law) (h : Bm A B R σ τ) {x t : A.X} {y t' : B.X} {v v' : Int} {k n : Int} {s : ByteArray} {ar : List A.X} {ar' : List B.X} (hx : R x y) (ht : R t t') (hv : A.view σ x = .var v) (hv' : B.view τ y = .var v') (htv : A.view σ t = .node k n s ar) (htv' : B.view τ t' = .node k n s ar') (hal : Al R ar ar') (w : Nat) :
  UgR A B R (Qpt A v t σ w) (Qpt B v' t' τ w) := by
 unfold Qpt
 rw [Qqj h hx hv hv' 401 t t' w ht]
 split
 ·exact ⟨rfl, rfl, h⟩
 ·exact ⟨rfl, rfl, h.bind hA hB hx ht hv hv' htv htv' hal⟩
theorem QpD (hA : A.Law) (hB : B.Law) : ∀ (f : Nat) (a b : A.X) (a' b' : B.X) (σ : A.S) (τ : B.S) (w : Nat), Bm A B R σ τ → R a a' → R b b' → UgR A B R (QfP A f a b σ w) (QfP B f a' b' τ w)
 | 0, a, b, a', b', σ, τ, w, h, _, _ => ⟨rfl, rfl, h⟩
 | f + 1, a, b, a', b', σ, τ, w, h, ha, hb => by
  simp only [QfP]
  split
  ·exact ⟨rfl, rfl, h⟩
  ·rcases h.cases ha with ⟨u, u', e1, e2⟩ | ⟨k, n, s, ar, ar', e1, e2, hal⟩
   ·rcases h.cases hb with ⟨v, v', e3, e4⟩ | ⟨k, n, s, ar, ar', e3, e4, hal⟩
    ·rw [e1, e2, e3, e4]
     have := h.vr ha hb e1 e3 e2 e4
     by_cases hh : u = v
     ·refine ⟨rfl, rfl, ?_⟩
      show Bm A B R (if u = v then σ else A.join σ a b) (if u' = v' then τ else B.join τ a' b')
      rw [if_pos hh, if_pos (this.1 hh)]; exact h
     ·refine ⟨rfl, rfl, ?_⟩
      show Bm A B R (if u = v then σ else A.join σ a b) (if u' = v' then τ else B.join τ a' b')
      rw [if_neg hh, if_neg fun e => hh (this.2 e)]
      exact h.join hA hB ha hb e1 e3 e2 e4 hh
    ·rw [e1, e2, e3, e4]
     exact Qrv hA hB h ha hb e1 e2 e3 e4 hal _
   ·rcases h.cases hb with ⟨v, v', e3, e4⟩ | ⟨k2, n2, s2, ar2, ar2', e3, e4, hal2⟩
    ·rw [e1, e2, e3, e4]
     exact Qrv hA hB h hb ha e3 e4 e1 e2 hal _
    ·rw [e1, e2, e3, e4]
     show UgR A B R (if _ then _ else _) (if _ then _ else _)
     rw [← hal.len, ← hal2.len]
     split
     ·exact Qut (fun a b a' b' σ τ w hb ha hb' => QpD hA hB f a b a' b' σ τ w hb ha hb') hal hal2 _ _ _ h
     ·exact ⟨rfl, rfl, h⟩
inductive TsR (ρ : Int → Int → Prop) : Ts → Ts → Prop
 | nil : TsR ρ .nil .nil
 | var {n n' : Int} {s : ByteArray} {r r' : Ts} : ρ n n' → TsR ρ r r' → TsR ρ (.cons 0 n s .nil r) (.cons 0 n' s .nil r')
 | node {k n : Int} {s : ByteArray} {ar ar' r r' : Ts} : k ≠ 0 → TsR ρ ar ar' → TsR ρ r r' → TsR ρ (.cons k n s ar r) (.cons k n s ar' r')
def Qu0 {P Q : Type} (R : P → Q → Prop) : Option P → Option Q → Prop
 | none, none => True
 | some p, some q => R p q
 | _, _ => False
def TmR (ρ : Int → Int → Prop) (p q : Tm × Nat) : Prop := p.2 = q.2 ∧ TsR ρ (.cons p.1.k p.1.n p.1.s p.1.ar .nil) (.cons q.1.k q.1.n q.1.s q.1.ar .nil)
theorem TsR.put {ρ : Int → Int → Prop} {k n k' n' : Int} {s s' : ByteArray} {a a' r r' : Ts} (h : TsR ρ (.cons k n s a .nil) (.cons k' n' s' a' .nil)) (hr : TsR ρ r r') : TsR ρ (.cons k n s a r) (.cons k' n' s' a' r') := by
 cases h with
 | var h _ => exact .var h hr
 | node h1 h2 _ => exact .node h1 h2 hr
theorem Qud {X Y : Type} {R : X → Y → Prop} {ρ : Int → Int → Prop} {g : X → Nat → Option (Tm × Nat)} {g' : Y → Nat → Option (Tm × Nat)} (hg : ∀ x y l, R x y → Qu0 (TmR ρ) (g x l) (g' y l)) {l : List X} {m : List Y} (h : Al R l m) : ∀ w, Qu0 (fun p q : Ts × Nat => p.2 = q.2 ∧ TsR ρ p.1 q.1) (Qer g l w) (Qer g' m w) := by
 induction h with
 | nil => intro w; exact ⟨rfl, .nil⟩
 | @cons x y l m h _ ih =>
  intro w
  simp only [Qer]
  have h1 := hg x y w h
  cases e1 : g x w with
  | none =>
   cases e2 : g' y w with
   | none => trivial
   | some q => rw [e1, e2] at h1; exact h1.elim
  | some p =>
   cases e2 : g' y w with
   | none => rw [e1, e2] at h1; exact h1.elim
   | some q =>
    rw [e1, e2] at h1
    obtain ⟨p1, p2⟩ := p
    obtain ⟨q1, q2⟩ := q
    obtain ⟨rfl, h3⟩ : p2 = q2 ∧ _ := h1
    have h4 := ih p2
    dsimp only
    cases e3 : Qer g l p2 with
    | none =>
     cases e4 : Qer g' m p2 with
     | none => trivial
     | some q => rw [e3, e4] at h4; exact h4.elim
    | some p' =>
     cases e4 : Qer g' m p2 with
     | none => rw [e3, e4] at h4; exact h4.elim
     | some q' =>
      rw [e3, e4] at h4
      exact ⟨h4.1, h3.put h4.2⟩
def Bm.rho (A B : Sy) (R : A.X → B.X → Prop) (σ : A.S) (τ : B.S) (u v : Int) : Prop := ∃ x y, R x y ∧ A.view σ x = .var u ∧ B.view τ y = .var v
theorem Bm.inj (h : Bm A B R σ τ) {u v u' v' : Int} (h1 : Bm.rho A B R σ τ u v) (h2 : Bm.rho A B R σ τ u' v') : u = u' ↔ v = v' := by
 obtain ⟨x, y, a, b, c⟩ := h1
 obtain ⟨x', y', a', b', c'⟩ := h2
 exact h.vr a a' b b' c c'
theorem Qrz (h : Bm A B R σ τ) (hz : ∀ {x k n s ar}, A.view σ x = .node k n s ar → A.dom σ x → k ≠ 0) : ∀ (f : Nat) (x : A.X) (y : B.X) (l : Nat), R x y → Qu0 (TmR (Bm.rho A B R σ τ)) (Qgx A σ f x l) (Qgx B τ f y l)
 | 0, x, y, l, hr => trivial
 | f + 1, x, y, l, hr => by
  simp only [Qgx]
  split
  ·trivial
  ·rcases h.cases hr with ⟨u, u', e, e'⟩ | ⟨k, n, s, ar, ar', e, e', ha⟩
   ·rw [e, e']
    exact ⟨rfl, .var ⟨x, y, hr, e, e'⟩ .nil⟩
   ·rw [e, e']
    have h4 := Qud (fun x y l hr => Qrz h hz f x y l hr) ha (l - 1)
    dsimp only
    cases e3 : Qer (Qgx A σ f) ar (l - 1) with
    | none =>
     cases e4 : Qer (Qgx B τ f) ar' (l - 1) with
     | none => trivial
     | some q => rw [e3, e4] at h4; exact h4.elim
    | some p' =>
     cases e4 : Qer (Qgx B τ f) ar' (l - 1) with
     | none => rw [e3, e4] at h4; exact h4.elim
     | some q' =>
      rw [e3, e4] at h4
      exact ⟨h4.1, .node (hz e (h.da hr)) h4.2 .nil⟩
end
structure HC where
 k : Int
 n : Int
 s : ByteArray
deriving DecidableEq
abbrev eS : ByteArray := ⟨#[]⟩
structure HH where
 cs : List HC
 tr : List Int
def Q5 (all : Nat) (c : HC) (follow : Nat) : Bool :=
 if c.k = 0 then decide (0 ≤ c.n) && (decide (c.n < all) && decide (c.s = eS))
 else if c.k = 1 then decide (c.n = 0) && !decide (c.s = eS)
 else if c.k = 2 then decide (c.s = eS)
 else if c.k = 3 then decide (1 ≤ c.n) && (decide (c.n ≤ 4) && (decide (c.n ≤ follow) && !decide (c.s = eS)))
 else false
def QO (all : Nat) : List HC → Bool
 | [] => true
 | c :: r => Q5 all c r.length && QO all r
def Q4 (L : List HC) : Bool := decide (L.length ≤ 65536) && QO L.length L
def hat (L : List HC) (a : Int) : Option HC := if 0 ≤ a then L[a.toNat]? else none
def Qj (L : List HC) (a : Int) : Bool := decide (0 ≤ a) && decide (a < L.length)
def Qax (L : List HC) (a : Int) : Bool := match hat L a with | some c => decide (c.k = 0) | none => false
def QbQ (L : List HC) (T : List Int) : Bool := decide (T.length ≤ 65536) && T.all (Qax L)
def QF (h : HH) : Bool := Q4 h.cs && QbQ h.cs h.tr
def Q0 (base : Nat) (c : HC) : HC := if c.k = 0 then ⟨c.k, c.n + base, c.s⟩ else c
def Q3 (h : HH) (B : List HC) : HH × Nat × Int :=
 if (QF h && Q4 B) = false then (h, 0, 1)
 else if 65536 < h.cs.length + B.length then (h, 0, 3)
 else (⟨h.cs ++ B.map (Q0 h.cs.length), h.tr⟩, h.cs.length, 0)
def QaN (L : List HC) : Nat → Int → Int
 | 0, _ => -1
 | f + 1, a => match hat L a with
  | none => -1
  | some c => if c.k = 0 ∧ c.n ≠ a then QaN L f c.n else a
def Qr (L : List HC) (a : Int) : Int := QaN L L.length a
def Qep (L : List HC) (i : Nat) (x : Int) : List HC := L.modify i fun c => ⟨c.k, x, c.s⟩
def Qbj (L : List HC) : List Int → List HC
 | [] => L
 | a :: r => Qbj (Qep L a.toNat a) r
def QcA (h : HH) (n : Int) : HH × Int :=
 if QF h = false then (h, 1)
 else if n < 0 ∨ (h.tr.length : Int) < n then (h, 2)
 else (⟨Qbj h.cs (h.tr.drop n.toNat), h.tr.take n.toNat⟩, 0)
def QlN (h : HH) (n : Int) : HH × Int :=
 if QF h = false then (h, 1)
 else if n < 0 ∨ (h.cs.length : Int) < n then (h, 2)
 else if QF ⟨h.cs.take n.toNat, h.tr⟩ = false then (h, 1)
 else (⟨h.cs.take n.toNat, h.tr⟩, 0)
structure HU where
 cs : List HC
 tr : List Int
 w : Nat
 lg : Bool
def HU.step (u : HU) : HU := ⟨u.cs, u.tr, u.w + 1, u.lg || decide (400 < u.w + 1)⟩
def HU.look (u : HU) (a : Int) : Int × HU :=
 if u.lg = true then (-1, u) else (Qr u.cs a, ⟨u.cs, u.tr, u.w, decide (Qr u.cs a < 0)⟩)
def HU.bind (u : HU) (a x : Int) : HU := ⟨Qep u.cs a.toNat x, u.tr ++ [a], u.w, u.lg⟩
def Qa2 (L : List HC) (a : Int) : Int := match hat L a with | some c => c.k | none => -1
def QI (c : HC) : Int := if c.k = 3 then c.n else 0
def Qaz (L : List HC) (a : Int) : Nat := match hat L a with | some c => (QI c).toNat | none => 0
def Qkt (g : Int → HU → Bool × HU) : Nat → Int → HU → Bool × HU
 | 0, _, u => (false, u)
 | m + 1, x, u => if (g x u).1 = true then g x u else Qkt g m (x + 1) (g x u).2
def Qcp (a : Int) : Nat → Int → HU → Bool × HU
 | 0, b, u => (false, (u.step.look b).2)
 | f + 1, b, u =>
  if (u.step.look b).2.lg = true then (false, (u.step.look b).2)
  else if a = (u.step.look b).1 then (true, (u.step.look b).2)
  else Qkt (Qcp a f) (Qaz u.cs (u.step.look b).1) ((u.step.look b).1 + 1) (u.step.look b).2
def Qm1 (a b : Int) (u : HU) : Bool × HU :=
 if (Qcp a 401 b u).1 = true ∨ (Qcp a 401 b u).2.lg = true then (false, (Qcp a 401 b u).2) else (true, (Qcp a 401 b u).2.bind a b)
def Qik (g : Int → Int → HU → Bool × HU) : Nat → Int → Int → HU → Bool × HU
 | 0, _, _, u => (true, u)
 | m + 1, x, y, u => if (g x y u).1 = true then Qik g m (x + 1) (y + 1) (g x y u).2 else g x y u
def Qdk (g : Int → Int → HU → Bool × HU) (a b : Int) (u : HU) : Bool × HU :=
 if hat u.cs a = hat u.cs b then Qik g (Qaz u.cs a) (a + 1) (b + 1) u else (false, u)
def Qcr : Nat → Int → Int → HU → Bool × HU
 | 0, a, b, u => (false, ((u.step.look a).2.look b).2)
 | f + 1, a, b, u =>
  if ((u.step.look a).2.look b).2.lg = true then (false, ((u.step.look a).2.look b).2)
  else if Qa2 u.cs (u.step.look a).1 = 0 then
   if Qa2 u.cs ((u.step.look a).2.look b).1 = 0 then
    if (u.step.look a).1 = ((u.step.look a).2.look b).1 then (true, ((u.step.look a).2.look b).2)
    else (true, ((u.step.look a).2.look b).2.bind (max (u.step.look a).1 ((u.step.look a).2.look b).1) (min (u.step.look a).1 ((u.step.look a).2.look b).1))
   else Qm1 (u.step.look a).1 ((u.step.look a).2.look b).1 ((u.step.look a).2.look b).2
  else if Qa2 u.cs ((u.step.look a).2.look b).1 = 0 then Qm1 ((u.step.look a).2.look b).1 (u.step.look a).1 ((u.step.look a).2.look b).2
  else Qdk (Qcr f) (u.step.look a).1 ((u.step.look a).2.look b).1 ((u.step.look a).2.look b).2
def QX (h : HH) (a b : Int) : HH × Bool × Int :=
 if QF h = false then (h, false, 1)
 else if (Qj h.cs a && Qj h.cs b) = false then (h, false, 4)
 else if (Qcr 401 a b ⟨h.cs, h.tr, 0, false⟩).2.lg = true ∨ (Qcr 401 a b ⟨h.cs, h.tr, 0, false⟩).1 = true ∧ 65536 < (Qcr 401 a b ⟨h.cs, h.tr, 0, false⟩).2.tr.length then (h, false, 3)
 else if (Qcr 401 a b ⟨h.cs, h.tr, 0, false⟩).1 = false then (h, false, 0)
 else (⟨(Qcr 401 a b ⟨h.cs, h.tr, 0, false⟩).2.cs, (Qcr 401 a b ⟨h.cs, h.tr, 0, false⟩).2.tr⟩, true, 0)
def hcs (c : HC) : List Value := [.int .i64 c.k, .int .i64 c.n, .string c.s]
def Q6 : List HC → List Value
 | [] => []
 | c :: r => .int .i64 c.k :: .int .i64 c.n :: .string c.s :: Q6 r
def Qm (l : List Int) : List Value := l.map (Value.int .i64)
def QV (l : List Bool) : List Value := l.map Value.bool
theorem Q9 : ∀ L : List HC, (Q6 L).length = L.length * 3
 | [] => rfl
 | c :: r => by simp only [Q6, List.length_cons, Q9 r]; omega
theorem QbG : ∀ L R : List HC, Q6 (L ++ R) = Q6 L ++ Q6 R
 | [], R => rfl
 | c :: r, R => by simp only [Q6, List.cons_append, QbG r R]
theorem QgT : ∀ L : List HC, (Q6 L).all (·.oneCell') = true
 | [] => rfl
 | c :: r => by simp only [Q6, List.all_cons, QgT r]; rfl
theorem QhR (l : List Int) : (Qm l).length = l.length * 1 := by simp [Qm]
theorem Qjx (l : List Bool) : (QV l).length = l.length * 1 := by simp [QV]
theorem Qlv (l : List Int) : (Qm l).all (·.oneCell') = true := by simp [Qm, Value.oneCell']
theorem QnX : ∀ (L : List HC) (i : Nat) (x : HC), L[i]? = some x → (Q6 L)[i * 3]? = some (.int .i64 x.k) ∧ (Q6 L)[i * 3 + 1]? = some (.int .i64 x.n) ∧ (Q6 L)[i * 3 + 2]? = some (.string x.s)
 | [], i, x, h => by simp at h
 | c :: r, 0, x, h => by
  obtain rfl : c = x := by simpa using h
  exact ⟨rfl, rfl, rfl⟩
 | c :: r, i + 1, x, h => by
  have h' : r[i]? = some x := by simpa using h
  obtain ⟨h0, h1, h2⟩ := QnX r i x h'
  rw [show (i + 1) * 3 = i * 3 + 3 by omega]
  exact ⟨by simpa [Q6] using h0, by simpa [Q6] using h1, by simpa [Q6] using h2⟩
def Qz (sz : Nat) (xs : List Value) (A : Option Addr) (len cap : Nat) (w : World) : Prop :=
 xs.length = len * sz ∧ len ≤ cap ∧ (0 < len → ∃ b o, A = some ⟨b, o, none⟩ ∧ ∀ j v, xs[j]? = some v → w.cell? ⟨b, o + j, none⟩ = some v)
section
variable {sz len cap : Nat} {xs : List Value} {A : Option Addr} {w w' : World}
theorem Qre {a : Addr} {v : Value} (hc : w.cell? a = some v) : a.block < w.heap.size := by
 rcases Nat.lt_or_ge a.block w.heap.size with hl | hg
 ·exact hl
 ·simp [World.cell?, Array.getElem?_eq_none hg] at hc
theorem Qpd {b o : Nat} {v : Value} (hc : w.cell? ⟨b, o, none⟩ = some v) (h : w'.heap[b]? = w.heap[b]?) : w'.cell? ⟨b, o, none⟩ = some v := by
 unfold World.cell? at hc ⊢
 rw [h]; exact hc
theorem Qz.ext (h : Qz sz xs A len cap w) (hx : Ext [] w w') : Qz sz xs A len cap w' :=
 ⟨h.1, h.2.1, fun hl => by
  obtain ⟨b, o, e, hc⟩ := h.2.2 hl
  exact ⟨b, o, e, fun j v hj => Qpd (hc j v hj) (hx.block b (Qre (hc j v hj)) Yd)⟩⟩
theorem Qz.nil_ (A : Option Addr) (c : Nat) (w : World) : Qz sz [] A 0 c w := ⟨by simp, Nat.zero_le _, fun h => absurd h (Nat.lt_irrefl _)⟩
theorem Qz.some_ (h : Qz sz xs A len cap w) (hl : 0 < len) : ∃ b o, A = some ⟨b, o, none⟩ := by
 obtain ⟨b, o, e, _⟩ := h.2.2 hl
 exact ⟨b, o, e⟩
theorem Qz.get {b o : Nat} (h : Qz sz xs (some ⟨b, o, none⟩) len cap w) {j : Nat} {v : Value} (hj : xs[j]? = some v) : w.cell? ⟨b, o + j, none⟩ = some v := by
 by_cases hl : 0 < len
 ·obtain ⟨b', o', e, hc⟩ := h.2.2 hl
  simp only [Option.some.injEq, Addr.mk.injEq] at e
  rw [e.1, e.2.1]; exact hc j v hj
 ·have : xs = [] := List.eq_nil_of_length_eq_zero (by
                            rw [h.1]; have : len = 0 := by omega
                            rw [this]; simp)
  subst this; simp at hj
theorem Qz.own {b el : Nat} {sp : List Value} (ho : w.heap[b]? = some (.cells (xs ++ sp).toArray el)) (hx : xs.length = len * sz) (hc : len ≤ cap) : Qz sz xs (some ⟨b, 0, none⟩) len cap w :=
 ⟨hx, hc, fun _ => ⟨b, 0, rfl, fun j v hj => by
  rw [Qu ho, Nat.zero_add, List.getElem?_append_left]
  ·exact hj
  ·rcases Nat.lt_or_ge j xs.length with h | h
   ·exact h
   ·rw [List.getElem?_eq_none h] at hj; cases hj⟩⟩
theorem Qz.take (h : Qz sz xs A len cap w) {m c' : Nat} (hm : m ≤ len) (hc : m ≤ c') : Qz sz (xs.take (m * sz)) A m c' w := by
 refine ⟨by rw [List.length_take, h.1]; exact Nat.min_eq_left (Nat.mul_le_mul_right _ hm), hc, fun hl => ?_⟩
 obtain ⟨b, o, e, hg⟩ := h.2.2 Ya
 refine ⟨b, o, e, fun j v hj => hg j v ?_⟩
 rw [List.getElem?_take] at hj
 split at hj
 ·exact hj
 ·cases hj
end
section
variable {L : List HC} {cap : Nat} {A : Option Addr} {b o : Nat} {w w' : World}
theorem Qz.cell (h : Qz 3 (Q6 L) (some ⟨b, o, none⟩) L.length cap w) {i : Nat} {x : HC} (hi : L[i]? = some x) :
  w.cell? ⟨b, o + i * 3, none⟩ = some (.int .i64 x.k) ∧ w.cell? ⟨b, o + i * 3 + 1, none⟩ = some (.int .i64 x.n) ∧ w.cell? ⟨b, o + i * 3 + 2, none⟩ = some (.string x.s) := by
 obtain ⟨h0, h1, h2⟩ := QnX L i x hi
 refine ⟨h.get h0, ?_, ?_⟩
 ·rw [Nat.add_assoc]; exact h.get h1
 ·rw [Nat.add_assoc]; exact h.get h2
end
theorem Qz.int {l : List Int} {cap b o : Nat} {w : World} (h : Qz 1 (Qm l) (some ⟨b, o, none⟩) l.length cap w) {i : Nat} {x : Int} (hi : l[i]? = some x) : w.cell? ⟨b, o + i * 1, none⟩ = some (.int .i64 x) := by
 rw [Nat.mul_one]; exact h.get (by simp [Qm, hi])
theorem Qz.bool {l : List Bool} {cap b o : Nat} {w : World} (h : Qz 1 (QV l) (some ⟨b, o, none⟩) l.length cap w) {i : Nat} {x : Bool} (hi : l[i]? = some x) : w.cell? ⟨b, o + i * 1, none⟩ = some (.bool x) := by
 rw [Nat.mul_one]; exact h.get (by simp [QV, hi])
theorem St.flat {M : List Nat} {w0 w : World} {H : List (Nat × Obj)} {F : List (World → Prop)} {sz len cap : Nat} {xs : List Value} {A : Option Addr} (h : St [] w0 H F w) (hf : Qz sz xs A len cap w0) : St [] w0 H (Qz sz xs A len cap :: F) w := h.base fun w' hx => hf.ext hx
abbrev Qj9 (A : Option Addr) (n c : Nat) (B : Option Addr) (m d : Nat) : Value := .agg #[.slice A n c, .slice B m d]
def HFl (h : HH) (A : Option Addr) (c : Nat) (B : Option Addr) (d : Nat) (w : World) : Prop := Qz 3 (Q6 h.cs) A h.cs.length c w ∧ Qz 1 (Qm h.tr) B h.tr.length d w
abbrev hv (h : HH) (A : Option Addr) (c : Nat) (B : Option Addr) (d : Nat) : Value := Qj9 A h.cs.length c B h.tr.length d
theorem HFl.ext {h : HH} {A B : Option Addr} {c d : Nat} {w w' : World} (H : HFl h A c B d w) (hx : Ext [] w w') : HFl h A c B d w' := ⟨H.1.ext hx, H.2.ext hx⟩
theorem QhC {l : List Value} {v : Value} : ∀ {i : Nat}, i < l.length → Put l i v (l.set i v) := by
 induction l with
 | nil => intro i h; simp at h
 | cons u l ih =>
  intro i h
  cases i with
  | zero => exact .z
  | succ i => exact .s (ih (by simpa using h))
theorem Qhh (c : HC) (r : List HC) (i : Nat) (x : Int) : Qep (c :: r) (i + 1) x = c :: Qep r i x := by simp [Qep]
theorem Qhg (c : HC) (r : List HC) (x : Int) : Qep (c :: r) 0 x = ⟨c.k, x, c.s⟩ :: r := by simp [Qep]
theorem Qnu (i : Nat) (x : Int) : Qep [] i x = [] := by simp [Qep]
theorem QbE (L : List HC) (i : Nat) (x : Int) : (Qep L i x).length = L.length := by simp [Qep]
theorem QnW : ∀ (L : List HC) (i : Nat) (x : Int), (Q6 L).set (i * 3 + 1) (.int .i64 x) = Q6 (Qep L i x)
 | [], i, x => by simp [Qnu, Q6]
 | c :: r, 0, x => by rw [Qhg]; rfl
 | c :: r, i + 1, x => by
  rw [Qhh, show (i + 1) * 3 + 1 = (i * 3 + 1) + 3 by omega]
  show _ :: _ :: _ :: (Q6 r).set (i * 3 + 1) _ = _
  rw [QnW r i x]; rfl
theorem Qka (L : List HC) (sp : List Value) (i : Nat) (x : Int) (hi : i < L.length) : Put (Q6 L ++ sp) (i * 3 + 1) (.int .i64 x) (Q6 (Qep L i x) ++ sp) := by
 have hl := Q9 L
 have := QhC (l := Q6 L ++ sp) (v := .int .i64 x) (i := i * 3 + 1) Yh
 rwa [List.set_append_left _ _ Ya, QnW] at this
theorem Qsg (P : List HC) (x : HC) (R : List HC) (v : Int) : Qep (P ++ x :: R) P.length v = P ++ ⟨x.k, v, x.s⟩ :: R := by
 induction P with
 | nil => exact Qhg _ _ _
 | cons p P ih => rw [List.cons_append, List.length_cons, Qhh, ih]; rfl
theorem QgI (L : List HC) (i j : Nat) (x : Int) : (Qep L i x)[j]? = if i = j then (L[j]?).map (fun c => ⟨c.k, x, c.s⟩) else L[j]? := by
 simp only [Qep, List.getElem?_modify]
 by_cases h : i = j
 ·simp [h]
 ·simp [h]
theorem Qba {L : List HC} {a : Int} {c : HC} : hat L a = some c ↔ 0 ≤ a ∧ a < L.length ∧ L[a.toNat]? = some c := by
 unfold hat
 constructor
 ·intro h
  split at h
  ·rename_i h0
   refine ⟨h0, ?_, h⟩
   rcases Nat.lt_or_ge a.toNat L.length with hl | hl
   ·omega
   ·rw [List.getElem?_eq_none hl] at h; cases h
  ·cases h
 ·rintro ⟨h0, h1, h2⟩; rw [if_pos h0]; exact h2
theorem Qtp {L : List HC} {a : Int} (h0 : 0 ≤ a) (h1 : a < L.length) : ∃ c, hat L a = some c := ⟨L[a.toNat]'Ya, Qba.2 ⟨h0, h1, List.getElem?_eq_getElem _⟩⟩
theorem QlB {n : Nat} : ∀ {L : List HC} {i : Nat} {c : HC}, QO n L = true → L[i]? = some c → Q5 n c (L.length - i - 1) = true
 | [], i, c, _, h => by simp at h
 | x :: r, 0, c, hg, h => by
  obtain rfl : x = c := by simpa using h
  simp only [QO, Bool.and_eq_true] at hg
  simpa using hg.1
 | x :: r, i + 1, c, hg, h => by
  simp only [QO, Bool.and_eq_true] at hg
  have := QlB (i := i) (c := c) hg.2 (by simpa using h)
  rw [List.length_cons, show r.length + 1 - (i + 1) - 1 = r.length - i - 1 by omega]; exact this
theorem QP {n f : Nat} {c : HC} (h : Q5 n c f = true) : (c.k = 0 ∧ 0 ≤ c.n ∧ c.n < n ∧ c.s = eS) ∨ (c.k = 1 ∧ c.n = 0 ∧ c.s ≠ eS) ∨ (c.k = 2 ∧ c.s = eS) ∨ (c.k = 3 ∧ 1 ≤ c.n ∧ c.n ≤ 4 ∧ c.n ≤ f ∧ c.s ≠ eS) := by
 unfold Q5 at h
 split at h
 ·simp only [Bool.and_eq_true, decide_eq_true_eq] at h; exact .inl ⟨‹_›, h.1, h.2.1, h.2.2⟩
 ·split at h
  ·simp only [Bool.and_eq_true, decide_eq_true_eq, Bool.not_eq_true', decide_eq_false_iff_not] at h; exact .inr (.inl ⟨‹_›, h.1, h.2⟩)
  ·split at h
   ·simp only [decide_eq_true_eq] at h; exact .inr (.inr (.inl ⟨‹_›, h⟩))
   ·split at h
    ·simp only [Bool.and_eq_true, decide_eq_true_eq, Bool.not_eq_true', decide_eq_false_iff_not] at h; exact .inr (.inr (.inr ⟨‹_›, h.1, h.2.1, h.2.2.1, h.2.2.2⟩))
    ·cases h
theorem Qak {n : Nat} {L : List HC} {a : Int} {c : HC} (hg : QO n L = true) (h : hat L a = some c) : Q5 n c (L.length - a.toNat - 1) = true := QlB hg (Qba.1 h).2.2
theorem QhW {n : Nat} {L : List HC} {a : Int} (hg : QO n L = true) : Qaz L a ≤ 4 ∧ (Qaz L a = 0 ∨ (0 ≤ a ∧ a + Qaz L a < L.length)) := by
 unfold Qaz
 cases h : hat L a with
 | none => exact ⟨by simp, .inl rfl⟩
 | some c =>
  obtain ⟨h0, h1, _⟩ := Qba.1 h
  have hc := QP (Qak hg h)
  simp only [QI]
  split
  ·rcases hc with hc | hc | hc | hc
   ·omega
   ·omega
   ·omega
   ·refine ⟨by omega, .inr ⟨h0, ?_⟩⟩
    omega
  ·exact ⟨by simp, .inl rfl⟩
theorem QgV {n : Nat} {L : List HC} {a : Int} {c : HC} (hg : QO n L = true) (h : hat L a = some c) (hk : c.k = 0) : 0 ≤ c.n ∧ c.n < n := by
 rcases QP (Qak hg h) with hc | hc | hc | hc <;> omega
theorem Qfa {n : Nat} {x : Int} (h0 : 0 ≤ x) (h1 : x < n) : ∀ {L : List HC} {i : Nat}, QO n L = true → (∀ c, L[i]? = some c → c.k = 0) → QO n (Qep L i x) = true
 | [], i, hg, _ => by rw [Qnu]; rfl
 | y :: r, 0, hg, hk => by
  rw [Qhg]
  simp only [QO, Bool.and_eq_true] at hg ⊢
  refine ⟨?_, hg.2⟩
  have hk0 := hk y Yd
  have := hg.1
  unfold Q5 at this ⊢
  simp only [hk0, if_true] at this ⊢
  simp only [Bool.and_eq_true, decide_eq_true_eq] at this ⊢
  exact ⟨h0, h1, this.2.2⟩
 | y :: r, i + 1, hg, hk => by
  rw [Qhh]
  simp only [QO, Bool.and_eq_true] at hg ⊢
  rw [QbE]
  exact ⟨hg.1, Qfa h0 h1 hg.2 fun c hc => hk c (by simpa using hc)⟩
theorem QcS {L : List HC} : ∀ (f : Nat) (a : Int), QaN L f a = -1 ∨ ∃ c, hat L (QaN L f a) = some c ∧ (c.k = 0 → c.n = QaN L f a)
 | 0, a => .inl rfl
 | f + 1, a => by
  cases h : hat L a with
  | none => left; simp only [QaN, h]
  | some c =>
   by_cases hb : c.k = 0 ∧ c.n ≠ a
   ·simp only [QaN, h, if_pos hb]; exact QcS f c.n
   ·right
    simp only [QaN, h, if_neg hb]
    exact ⟨c, rfl, fun hk => Classical.byContradiction fun hn => hb ⟨hk, hn⟩⟩
theorem QcR {L : List HC} {a : Int} (h : ¬ Qr L a < 0) : ∃ c, hat L (Qr L a) = some c ∧ (c.k = 0 → c.n = Qr L a) := by
 rcases QcS (L := L) L.length a with h1 | h1
 ·exact absurd (show Qr L a < 0 by unfold Qr; rw [h1]; decide) h
 ·exact h1
structure GU (n : Nat) (u : HU) : Prop where
 len : u.cs.length = n
 good : QO n u.cs = true
 wk : u.lg = false → u.w ≤ 400
 trl : u.tr.length ≤ 65536 + u.w
theorem GU.step {n : Nat} {u : HU} (h : GU n u) : GU n u.step := by
 refine ⟨h.len, h.good, fun hl => ?_, ?_⟩
 ·simp only [HU.step, Bool.or_eq_false_iff, decide_eq_false_iff_not] at hl ⊢; omega
 ·have := h.trl; simp only [HU.step]; omega
theorem GU.look {n : Nat} {u : HU} (h : GU n u) (a : Int) : GU n (u.look a).2 := by
 unfold HU.look
 split
 ·exact h
 ·rename_i hl; exact ⟨h.len, h.good, fun _ => h.wk (by simpa using hl), h.trl⟩
theorem Qdm (u : HU) (a : Int) : (u.look a).2.w = u.w ∧ (u.look a).2.cs = u.cs ∧ (u.look a).2.tr = u.tr := by
 unfold HU.look
 split <;> exact ⟨rfl, rfl, rfl⟩
theorem QcB {u : HU} {a : Int} (h : (u.look a).2.lg = false) : u.lg = false ∧ (u.look a).1 = Qr u.cs a ∧ ¬ Qr u.cs a < 0 := by
 unfold HU.look at h ⊢
 split at h
 ·rename_i hl; rw [hl] at h; cases h
 ·rename_i hl
  rw [if_neg hl]
  exact ⟨by simpa using hl, rfl, by simpa using h⟩
theorem GU.bind {n : Nat} {u : HU} (h : GU n u) {a x : Int} {c : HC} (ha : hat u.cs a = some c) (hk : c.k = 0) (h0 : 0 ≤ x) (h1 : x < n) (ht : u.tr.length < 65536 + u.w) : GU n (u.bind a x) := by
 refine ⟨by simp only [HU.bind]; rw [QbE]; exact h.len, ?_, h.wk, by simp only [HU.bind, List.length_append, List.length_cons, List.length_nil]; omega⟩
 refine Qfa h0 h1 h.good fun c' hc' => ?_
 rw [(Qba.1 ha).2.2] at hc'
 obtain rfl := Option.some.inj hc'
 exact hk
structure OU (n f : Nat) (u v : HU) : Prop where
 cs : v.cs = u.cs
 tr : v.tr = u.tr
 lt : u.w < v.w
 le : v.w ≤ max (u.w + 1) (401 + 4 * f)
 wk : v.lg = false → v.w ≤ 400
 lg : u.lg = true → v.lg = true
theorem QtC {n f : Nat} {g : Int → HU → Bool × HU} {cs : List HC} (hg : ∀ x u, u.cs = cs → (u.lg = false → u.w ≤ 400) → OU n f u (g x u).2) :
  ∀ (m : Nat) (x : Int) (u : HU), u.cs = cs → (u.lg = false → u.w ≤ 400) → (Qkt g m x u).2.cs = u.cs ∧ (Qkt g m x u).2.tr = u.tr ∧ u.w ≤ (Qkt g m x u).2.w ∧ (Qkt g m x u).2.w ≤ max (u.w + m) (401 + 4 * f + m) ∧ ((Qkt g m x u).2.lg = false → (Qkt g m x u).2.w ≤ 400) ∧ (u.lg = true → (Qkt g m x u).2.lg = true)
 | 0, x, u, hcs, hu => ⟨rfl, rfl, Nat.le_refl _, by simp only [Qkt]; omega, hu, fun h => h⟩
 | m + 1, x, u, hcs, hu => by
  have h1 := hg x u hcs hu
  simp only [Qkt]
  split
  ·exact ⟨h1.cs, h1.tr, Nat.le_of_lt h1.lt, by have := h1.le; omega, h1.wk, h1.lg⟩
  ·obtain ⟨a1, a2, a3, a4, a5, a6⟩ := QtC hg m (x + 1) (g x u).2 (h1.cs.trans hcs) h1.wk
   refine ⟨a1.trans h1.cs, a2.trans h1.tr, Nat.le_trans (Nat.le_of_lt h1.lt) a3, ?_, a5, fun h => a6 (h1.lg h)⟩
   have := h1.le
   omega
theorem Qlc {n : Nat} (a : Int) : ∀ (f : Nat) (b : Int) (u : HU), QO n u.cs = true → (u.lg = false → u.w ≤ 400) → OU n f u (Qcp a f b u).2
 | f, b, u, hgd, hu => by
  have hs : OU n f u (u.step.look b).2 := by
   have hw := Qdm u.step b
   refine ⟨hw.2.1, hw.2.2, ?_, ?_, fun h => ?_, fun h => ?_⟩
   ·rw [hw.1]; exact Nat.lt_succ_self _
   ·rw [hw.1]; show u.w + 1 ≤ _; omega
   ·rw [hw.1]
    have := (QcB h).1
    simp only [HU.step, Bool.or_eq_false_iff, decide_eq_false_iff_not] at this
    show u.w + 1 ≤ 400
    omega
   ·cases hq : (u.step.look b).2.lg with
    | true => rfl
    | false =>
     have := (QcB hq).1
     simp only [HU.step, Bool.or_eq_false_iff] at this
     rw [h] at this; cases this.1
  cases f with
  | zero => exact hs
  | succ f =>
   simp only [Qcp]
   split
   ·exact hs
   ·split
    ·exact hs
    ·rename_i hl _
     have hl' : (u.step.look b).2.lg = false := by simpa using hl
     have hcs0 : (u.step.look b).2.cs = u.cs := (Qdm u.step b).2.1
     have hA := (QhW (a := (u.step.look b).1) hgd).1
     obtain ⟨a1, a2, a3, a4, a5, a6⟩ := QtC (n := n) (f := f) (g := Qcp a f) (cs := u.cs) (fun x v hv hw => Qlc a f x v (by rw [hv]; exact hgd) hw) (Qaz u.cs (u.step.look b).1) ((u.step.look b).1 + 1) (u.step.look b).2 hcs0 hs.wk
     refine ⟨a1.trans hs.cs, a2.trans hs.tr, Nat.lt_of_lt_of_le hs.lt a3, ?_, a5, fun h => a6 (hs.lg h)⟩
     have hwl := hs.wk hl'
     omega
structure UU (n : Nat) (u : HU) (r : Bool × HU) : Prop where
 gu : GU n r.2
 lt : u.w < r.2.w
 le : r.2.w ≤ 3000
 ok : r.1 = true → r.2.lg = false
 ext : u.tr.length + r.2.w ≤ r.2.tr.length + r.2.w ∧ r.2.tr.length ≤ u.tr.length + (r.2.w - u.w)
theorem Qtw {n : Nat} {u : HU} (h : GU n u) (hl : u.lg = false) {a b : Int} {c : HC} (ha : hat u.cs a = some c) (hk : c.k = 0) (h0 : 0 ≤ b) (h1 : b < n) : UU n u (Qm1 a b u) := by
 have ho := Qlc (n := n) a 401 b u h.good h.wk
 have hw := h.wk hl
 have hle := ho.le
 have hlt := ho.lt
 have ht := h.trl
 have hgu : GU n (Qcp a 401 b u).2 := ⟨by rw [ho.cs]; exact h.len, by rw [ho.cs]; exact h.good, ho.wk, by rw [ho.tr]; omega⟩
 unfold Qm1
 split
 ·exact ⟨hgu, hlt, (by show (Qcp a 401 b u).2.w ≤ 3000; omega), fun h => (by cases h), (by dsimp only; rw [ho.tr]; constructor <;> omega)⟩
 ·rename_i hn
  have hlg : (Qcp a 401 b u).2.lg = false := by
   cases hq : (Qcp a 401 b u).2.lg with
   | false => rfl
   | true => exact absurd (.inr hq) hn
  refine ⟨hgu.bind (by rw [ho.cs]; exact ha) hk h0 h1 (by rw [ho.tr]; omega), hlt, by show (Qcp a 401 b u).2.w ≤ 3000; omega, fun _ => hlg, ?_⟩
  show u.tr.length + (Qcp a 401 b u).2.w ≤ ((Qcp a 401 b u).2.tr ++ [a]).length + (Qcp a 401 b u).2.w ∧ ((Qcp a 401 b u).2.tr ++ [a]).length ≤ u.tr.length + ((Qcp a 401 b u).2.w - u.w)
  rw [ho.tr]
  simp only [List.length_append, List.length_cons, List.length_nil]
  omega
theorem QtE {n : Nat} {g : Int → Int → HU → Bool × HU} (hg : ∀ x y u, GU n u → u.lg = false → UU n u (g x y u)) :
  ∀ (m : Nat) (x y : Int) (u : HU), GU n u → u.lg = false → GU n (Qik g m x y u).2 ∧ u.w ≤ (Qik g m x y u).2.w ∧ (Qik g m x y u).2.w ≤ 3000 ∧ ((Qik g m x y u).1 = true → (Qik g m x y u).2.lg = false) ∧ u.tr.length ≤ (Qik g m x y u).2.tr.length ∧ (Qik g m x y u).2.tr.length ≤ u.tr.length + ((Qik g m x y u).2.w - u.w)
 | 0, x, y, u, h, hl => ⟨h, Nat.le_refl _, by have := h.wk hl; simp only [Qik]; omega, fun _ => hl, Nat.le_refl _, by simp only [Qik]; omega⟩
 | m + 1, x, y, u, h, hl => by
  have h1 := hg x y u h hl
  have hx := h1.ext
  simp only [Qik]
  split
  ·rename_i hok
   obtain ⟨a1, a2, a3, a4, a5, a6⟩ := QtE hg m (x + 1) (y + 1) (g x y u).2 h1.gu (h1.ok hok)
   have := h1.lt
   exact ⟨a1, by omega, a3, a4, by omega, by omega⟩
  ·exact ⟨h1.gu, Nat.le_of_lt h1.lt, h1.le, h1.ok, by omega, by omega⟩
theorem QkJ {n : Nat} : ∀ (f : Nat) (a b : Int) (u : HU), GU n u → u.lg = false → UU n u (Qcr f a b u)
 | f, a, b, u, h, hl => by
  have hw0 := h.wk hl
  have hwa := Qdm u.step a
  have hwb := Qdm (u.step.look a).2 b
  have hg2 : GU n ((u.step.look a).2.look b).2 := (h.step.look a).look b
  have hw2 : ((u.step.look a).2.look b).2.w = u.w + 1 := by rw [hwb.1, hwa.1]; rfl
  have hcs2 : ((u.step.look a).2.look b).2.cs = u.cs := by rw [hwb.2.1, hwa.2.1]; rfl
  have htr2 : ((u.step.look a).2.look b).2.tr = u.tr := by rw [hwb.2.2, hwa.2.2]; rfl
  have hfail : UU n u (false, ((u.step.look a).2.look b).2) := ⟨hg2, (by show u.w < ((u.step.look a).2.look b).2.w; rw [hw2]; omega), (by show ((u.step.look a).2.look b).2.w ≤ 3000; rw [hw2]; omega), fun h => (by cases h), (by dsimp only; rw [htr2, hw2]; constructor <;> omega)⟩
  cases f with
  | zero => exact hfail
  | succ f =>
   simp only [Qcr]
   split
   ·exact hfail
   rename_i hl2
   have hl2' : ((u.step.look a).2.look b).2.lg = false := by simpa using hl2
   obtain ⟨hla, hb1, hb2⟩ := QcB hl2'
   obtain ⟨_, ha1, ha2⟩ := QcB hla
   rw [hwa.2.1] at hb1 hb2
   obtain ⟨x, hx, hxe⟩ := QcR ha2
   obtain ⟨y, hy, hye⟩ := QcR hb2
   rw [← ha1] at hx hxe
   rw [← hb1] at hy hye
   replace hx : hat u.cs (u.step.look a).1 = some x := hx
   replace hy : hat u.cs ((u.step.look a).2.look b).1 = some y := hy
   obtain ⟨x0, x1, _⟩ := Qba.1 hx
   obtain ⟨y0, y1, _⟩ := Qba.1 hy
   rw [h.len] at x1 y1
   have hkx : Qa2 u.cs (u.step.look a).1 = x.k := by unfold Qa2; rw [hx]
   have hky : Qa2 u.cs ((u.step.look a).2.look b).1 = y.k := by unfold Qa2; rw [hy]
   rw [hkx, hky]
   have hstep : ∀ {r : Bool × HU}, UU n ((u.step.look a).2.look b).2 r → UU n u r := fun {r} hr => by
    have h1 := hr.lt
    have h2 := hr.ext
    rw [hw2] at h1 h2
    rw [htr2] at h2
    exact ⟨hr.gu, by omega, hr.le, hr.ok, by omega, by omega⟩
   split
   ·rename_i hk0
    split
    ·rename_i hk1
     split
     ·exact ⟨hg2, by show u.w < ((u.step.look a).2.look b).2.w; rw [hw2]; omega, by show ((u.step.look a).2.look b).2.w ≤ 3000; rw [hw2]; omega, fun _ => hl2', by dsimp only; rw [htr2, hw2]; constructor <;> omega⟩
     ·have ht := h.trl
      have hbd : GU n (((u.step.look a).2.look b).2.bind (max (u.step.look a).1 ((u.step.look a).2.look b).1) (min (u.step.look a).1 ((u.step.look a).2.look b).1)) := by
       rcases Int.le_total (u.step.look a).1 ((u.step.look a).2.look b).1 with hle | hle
       ·rw [Int.max_eq_right hle, Int.min_eq_left hle]
        exact hg2.bind (by rw [hcs2]; exact hy) hk1 x0 x1 (by rw [htr2, hw2]; omega)
       ·rw [Int.max_eq_left hle, Int.min_eq_right hle]
        exact hg2.bind (by rw [hcs2]; exact hx) hk0 y0 y1 (by rw [htr2, hw2]; omega)
      refine ⟨hbd, by show u.w < ((u.step.look a).2.look b).2.w; rw [hw2]; omega, by show ((u.step.look a).2.look b).2.w ≤ 3000; rw [hw2]; omega, fun _ => hl2', ?_⟩
      simp only [HU.bind, List.length_append, List.length_cons, List.length_nil]
      rw [htr2, hw2]
      constructor <;> omega
    ·exact hstep (Qtw hg2 hl2' (by rw [hcs2]; exact hx) hk0 y0 y1)
   ·split
    ·rename_i hk1
     exact hstep (Qtw hg2 hl2' (by rw [hcs2]; exact hy) hk1 x0 x1)
    ·unfold Qdk
     split
     ·obtain ⟨a1, a2, a3, a4, a5, a6⟩ := QtE (fun x y v hv hlv => QkJ f x y v hv hlv) (Qaz ((u.step.look a).2.look b).2.cs (u.step.look a).1) ((u.step.look a).1 + 1) (((u.step.look a).2.look b).1 + 1) _ hg2 hl2'
      rw [hw2] at a2 a6
      rw [htr2] at a5 a6
      exact ⟨a1, by omega, a3, a4, by omega, by omega⟩
     ·exact hfail
end Go.Proofs.YthliapbflkfdiacGreatDoor
