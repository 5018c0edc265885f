/- Steps of the proof. -/
import Derived.Test.YthliapbflkfdiacGreatDoorG17
namespace Go.Proofs.YthliapbflkfdiacGreatDoor
open Go.RowKit
set_option linter.unusedVariables false
set_option linter.unusedSimpArgs false
section
variable {P : List Cl} {q : Nat}
end
set_option maxRecDepth 8000
theorem QfA {L : List XL} {P : Int → Prop} {Qk : Nat → Prop} (hP : ∀ i : Int, i ≠ -1 → P i → Qk i.toNat ∧ P (lnk L i.toNat).nx) : ∀ (f : Nat) (i : Int) (p : List Bool × List Nat), P i → (∀ k ∈ p.2, Qk k) → ∀ k ∈ (Qay L f i p).2, Qk k
 | 0, i, p, _, hq => hq
 | f + 1, i, p, hi, hq => by
  simp only [Qay]
  by_cases h1 : i = -1
  ·rw [if_pos h1]; exact hq
  rw [if_neg h1]
  by_cases h2 : p.1[i.toNat]? = some true
  ·rw [if_pos h2]; exact hq
  rw [if_neg h2]
  obtain ⟨a1, a2⟩ := hP i h1 hi
  refine QfA hP f _ _ a2 fun k hk => ?_
  rcases List.mem_append.1 hk with hk | hk
  ·exact hq k hk
  ·rw [List.mem_singleton.1 hk]; exact a1
theorem Qgc {L : List XL} {P : Int → Prop} {Qk : Nat → Prop} (hP : ∀ i : Int, i ≠ -1 → P i → Qk i.toNat ∧ P (lnk L i.toNat).nx) : ∀ (C : List XC) (p : List Bool × List Nat), (∀ c ∈ C, P (c.at_ : Nat)) → (∀ k ∈ p.2, Qk k) → ∀ k ∈ (QbY L C p).2, Qk k
 | [], p, _, hq => hq
 | c :: r, p, hC, hq => Qgc hP r _ (fun c hc => hC c (List.mem_cons_of_mem _ hc)) (QfA hP _ _ p (hC c (List.mem_cons_self ..)) hq)
def Pl (L : List XL) (cs : List HC) (i : Int) : Prop := ∃ (R : Tm → Int → Prop) (G : List Gl), Qag R L i G ∧ ∀ t a, R t a → Qj cs a = true
theorem Pl.next {L : List XL} {cs : List HC} (i : Int) (hi : i ≠ -1) (h : Pl L cs i) : Qj cs (lnk L i.toNat).g = true ∧ Pl L cs (lnk L i.toNat).nx := by
 obtain ⟨R, G, hc, hR⟩ := h
 cases G with
 | nil => exact absurd hc hi
 | cons g r =>
  obtain ⟨k, l, rfl, h2, h3, h4, h5, h6⟩ := hc
  rw [Int.toNat_natCast, Qjf h2]
  exact ⟨hR _ _ h3, R, r, h6, hR⟩
theorem QW.pl {q f : Nat} {L : List XL} : ∀ {B : Bnd} {h : HH} {cs : List Ch} {ds : List XC}, QW q f L B h cs ds → ∀ d ∈ ds, Pl L h.cs (d.at_ : Nat)
 | _, _, [], [], _, d, hd => by cases hd
 | _, h, c :: cs, e :: ds, ⟨R, g, b1, _, b3, b4, _, _, b7⟩, d, hd => by
  have hl := b1.len.1
  have ht := b1.ht
  have up : ∀ a, Qj g.cs a = true → Qj h.cs a = true := fun a ha => by
   obtain ⟨a0, a1⟩ := Ql.1 ha
   exact Ql.2 ⟨a0, by omega⟩
  rcases List.mem_cons.1 hd with rfl | hd
  ·exact ⟨_, _, b4, fun t a ht => up a (b3.bm.db ht.1)⟩
  ·obtain ⟨R', G, h1, h2⟩ := b7.pl d hd
   exact ⟨R', G, h1, fun t a ht => up a (h2 t a ht)⟩
theorem QkU : ∀ (I : List Nat) (V : List Int) (L : List XL), (Qdo I V L).length = L.length
 | [], V, L => by cases V <;> rfl
 | i :: r, [], L => rfl
 | i :: r, v :: V, L => by simp only [Qdo]; rw [QkU r V]; simp [Qpr]
theorem Qn5 {q F : Nat} {s : SS} {x : XS} (H : Qil q F s x) : Qil q F s (Qh8 q x) ∧ (Qh8 q x).first = x.first ∧ (Qh8 q x).goals = x.goals := by
 obtain ⟨R, hG, hC⟩ := H.cur
 have hb := hC.bd
 obtain ⟨hI, hf, hcl⟩ := QqO H.i.lnx hb.1 hb.2 H.i.ch.at_lt
 have hgd := H.i.gd
 have ho := H.i.ho
 have hlive : ∀ k ∈ QbO x, Qj x.h.cs (lnk x.ln k).g = true :=
  Qgc (P := Pl x.ln x.h.cs) (fun i hi hp => hp.next i hi) _ _ (fun c hc => H.i.ch.pl c (List.mem_reverse.1 hc)) (QfA (P := Pl x.ln x.h.cs) (fun i hi hp => hp.next i hi) _ _ _ ⟨_, _, hC, fun t a ht => hG.bm.db ht.1⟩ fun k hk => by cases hk)
 have hroot : ∀ r ∈ QT q x, Qj x.h.cs r = true := by
  intro r hr
  unfold QT at hr
  rcases List.mem_append.1 hr with hr | hr
  ·obtain ⟨v, hv, rfl⟩ := List.mem_map.1 hr
   exact hG.bm.db (hG.qv v (List.mem_range.1 hv))
  ·obtain ⟨k, hk, rfl⟩ := List.mem_map.1 hr
   exact hlive k hk
 have C : Cx x.h (QT q x) (QK x.h.cs (QT q x)) := ⟨hgd, QhJ _ _⟩
 have hrc : ∀ r ∈ QT q x, Rc x.h.cs (QT q x) r := fun r hr => .root hr (hroot r hr)
 have hmv : ∀ v : Nat, v < q → ((v : Nat) : Int) ∈ QT q x := fun v hv => List.mem_append_left _ (List.mem_map.2 ⟨v, List.mem_range.2 hv, rfl⟩)
 have hml : ∀ k ∈ QbO x, (lnk x.ln k).g ∈ QT q x := fun k hk => List.mem_append_right _ (List.mem_map.2 ⟨k, hk, rfl⟩)
 have hcol : Qbs x.h (QT q x) (x.ch.reverse.map fun c => ((c.cells : Nat) : Int)) (x.ch.reverse.map fun c => ((c.bound : Nat) : Int)) = (Qdq (QK x.h.cs (QT q x)) x.h, (QT q x).map (rkI (QK x.h.cs (QT q x))), (x.ch.reverse.map fun c => ((c.cells : Nat) : Int)).map (rkI (QK x.h.cs (QT q x))), (x.ch.reverse.map fun c => ((c.bound : Nat) : Int)).map (rkI (x.h.tr.map (Qs (QK x.h.cs (QT q x))))), 0) := by
  unfold Qbs
  rw [if_neg (by rw [hgd]; decide), if_neg (by rw [List.all_eq_true.2 hroot]; decide)]
  rfl
 have hfro : ∀ v, v < q → (QK x.h.cs (QT q x))[v]? = some true := fun v hv => by
  have := (C.rc (hrc _ (hmv v hv))).2.2
  rwa [Int.toNat_natCast] at this
 have hX : Qh8 q x = ⟨Qdq (QK x.h.cs (QT q x)) x.h, x.goals, Qdo (QbO x) ((QbO x).map fun k => rkI (QK x.h.cs (QT q x)) (lnk x.ln k).g) x.ln, x.first, x.ch.map fun d => ⟨d.at_, d.cls, rk (QK x.h.cs (QT q x)) d.cells, rk (x.h.tr.map (Qs (QK x.h.cs (QT q x)))) d.bound⟩, x.ev⟩ := by
  unfold Qh8
  rw [hcol]
  dsimp only
  have e1 : ((QT q x).map (rkI (QK x.h.cs (QT q x)))).drop q = (QbO x).map fun k => rkI (QK x.h.cs (QT q x)) (lnk x.ln k).g := by
   generalize QK x.h.cs (QT q x) = M
   unfold QT
   rw [List.map_append, List.map_map, List.map_map]
   rw [List.drop_left' Yd]
   rfl
  rw [e1, List.map_map, List.map_map, Qhj, ← List.map_reverse, List.reverse_reverse]
  rfl
 rw [hX]
 generalize hM : QK x.h.cs (QT q x) = M at *
 refine ⟨⟨⟨H.i.ev, H.i.fuel, H.i.f150, H.i.q8, ?_, H.i.inv, C.kept_good, QgS C ho, ?_, ?_, ?_⟩, ⟨Quq M (QT q x) x.h.cs R, ?_, ?_⟩, H.gs, ?_, ?_⟩, rfl, rfl⟩
 ·exact QW.coll hI hfro C ho (fun a _ _ => ⟨rfl, rfl⟩) (fun n _ => rfl) (fun n _ => rfl) (fun k hk a e _ => by rw [e]; exact (C.rc (hrc _ (hml k hk))).2.2) hcl H.i.ch
 ·intro d hd
  obtain ⟨c, hc, rfl⟩ := List.mem_map.1 hd
  obtain ⟨c1, c2⟩ := H.i.csz c hc
  have r1 := Qp6 M c.cells
  have r2 := Qp6 (x.h.tr.map (Qs M)) c.bound
  dsimp only
  omega
 ·dsimp only
  rw [QkU]; exact H.i.lsz
 ·intro i l hl
  dsimp only at hl
  rw [Qhi] at hl
  split at hl
  ·cases hq : x.ln[i]? with
   | none => rw [hq] at hl; cases hl
   | some l' =>
    rw [hq] at hl
    simp only [Option.map_some, Option.some.injEq] at hl
    subst hl
    exact H.i.lnx i l' hq
  ·exact H.i.lnx i l hl
 ·exact hG.coll C fun v hv => ⟨hrc _ (hmv v hv), QnA hfro v Ya⟩
 ·exact Qag.coll hI (fun k hk t ht => GR.coll C (hrc _ (hml k hk)) ht) hC hf
 ·have h1 := H.cs
  have h2 : (Qa5 M x.h.cs).length ≤ x.h.cs.length := by
   rw [C.len, C.mks.1]; exact Qp6 M _
  show (Qa5 M x.h.cs).length ≤ _
  dsimp only; omega
 ·have h1 := H.ts
  have h2 : (Qbv M x.h.tr).length ≤ x.h.tr.length := by
   unfold Qbv
   rw [List.length_map, Qaw]; exact List.length_filter_le _ _
  show (Qbv M x.h.tr).length ≤ _
  dsimp only; omega
theorem Qnr {P : List Cl} {q F every : Nat} (hp : pB P = true) {s : SS} {x : XS} (H : Qil q F s x) (hev : s.ev.length < 12) : QrL q F (Qaq P q s) (QaX P q F every x) := by
 have hp2 : P.length ≤ 24 ∧ ∀ x ∈ P, cB x = true := by
  unfold pB at hp
  simp only [Bool.and_eq_true, decide_eq_true_eq, List.all_eq_true] at hp
  exact hp
 obtain ⟨hst, hstev⟩ := QfT (vars := q) H.gs hev hp
 have hfu := H.i.fuel
 cases hg : s.goals with
 | nil =>
  have hfirst : x.first = -1 := by
   obtain ⟨R, _, hC⟩ := H.cur
   rw [hg] at hC; exact hC
  unfold Qaq QaX
  rw [hg, if_pos hfirst]
  exact Qpk H
 | cons g rest =>
  have hne : x.first ≠ -1 := by
   obtain ⟨R, _, hC⟩ := H.cur
   rw [hg] at hC
   obtain ⟨k, l, e, _⟩ := hC
   omega
  by_cases hf0 : s.fuel = 0
  ·unfold Qaq QaX
   rw [hg, if_neg hne, if_pos (show x.goals = F by omega)]
   dsimp only
   rw [if_pos hf0]
   exact ⟨rfl, H.i.ev, fun h => by cases h⟩
  have hmb : Qil q F s (QH q every x) ∧ (QH q every x).first = x.first ∧ (QH q every x).goals = x.goals := by
   unfold QH
   split
   ·exact Qn5 H
   ·exact ⟨H, rfl, rfl⟩
  obtain ⟨H', hfi, hgo⟩ := hmb
  have hstep : QaX P q F every x = if QaG (Qbi (QH q every x).h (lnk (QH q every x).ln (QH q every x).first.toNat).g).s.toList (Qbi (QH q every x).h (lnk (QH q every x).ln (QH q every x).first.toNat).g).n.toNat = true
    then QfC (lnk (QH q every x).ln (QH q every x).first.toNat) ⟨(QH q every x).h, (QH q every x).goals + 1, (QH q every x).ln, (lnk (QH q every x).ln (QH q every x).first.toNat).nx, (QH q every x).ch, (QH q every x).ev⟩
    else Qkk P (QH q every x).first.toNat ⟨(QH q every x).h, (QH q every x).goals + 1, (QH q every x).ln, (lnk (QH q every x).ln (QH q every x).first.toNat).nx, (QH q every x).ch, (QH q every x).ev⟩ := by
   unfold QaX
   rw [if_neg hne, if_neg (show ¬ x.goals = F by omega)]
  rw [hstep]
  have hgo' : (QH q every x).goals + s.fuel = F := H'.i.fuel
  clear hstep hfi hgo hne
  generalize QH q every x = y at *
  obtain ⟨R, hG, hC⟩ := H'.cur
  rw [hg] at hC
  obtain ⟨k, l, hk, h2, h3, h4, h5, h6⟩ := hC
  have hCk : Qag (GR R y.h) y.ln (k : Nat) (g :: rest) := ⟨k, l, rfl, h2, h3, h4, h5, h6⟩
  have hlk := Qjf h2
  rw [hk, Int.toNat_natCast, hlk]
  obtain ⟨c1, c2, c3, c4, c5, c6, c7, c8⟩ := Qfv hG h3
  rw [c1, c2]
  obtain ⟨p1, p2, p3, p4, p5, p6, p7⟩ := QcK H.gs hg hf0
  have hlsz := H'.i.lsz
  have hcs := H'.cs
  have hts := H'.ts
  have M : Qux q F ⟨s.B, s.fresh, s.fuel - 1, rest, s.ch, s.ev⟩ ⟨y.h, y.goals + 1, y.ln, l.nx, y.ch, y.ev⟩ R := by
   refine ⟨⟨H'.i.ev, by show y.goals + 1 + (s.fuel - 1) = F; omega, H'.i.f150, H'.i.q8, H'.i.ch, p1, H'.i.gd, H'.i.ho, fun d hd => ?_, by dsimp only; omega, H'.i.lnx⟩, hG, h6, by dsimp only; omega, by dsimp only; omega⟩
   have := H'.i.csz d hd
   dsimp only; omega
  have hS : Qaq P q s = if QaG g.1.s.toList g.1.ar.length = true then QbR g ⟨s.B, s.fresh, s.fuel - 1, rest, s.ch, s.ev⟩ else match P.filter (QeT g.1) with
    | [] => (5, ⟨s.B, s.fresh, s.fuel - 1, rest, s.ch, s.ev⟩)
    | c :: cs => QaO ⟨s.B, s.fresh, s.fuel - 1, rest, ⟨g, rest, c :: cs, s.B.length⟩ :: s.ch, s.ev⟩ := by
   unfold Qaq
   rw [hg]
   dsimp only
   rw [if_neg hf0]
   by_cases hb : QaG g.1.s.toList g.1.ar.length = true
   ·rw [if_pos hb, if_pos hb]
   ·rw [if_neg hb, if_neg hb]
    cases P.filter (QeT g.1) <;> rfl
  rw [hS] at hst ⊢
  by_cases hb : QaG g.1.s.toList g.1.ar.length = true
  ·rw [if_pos hb] at hst ⊢
   rw [if_pos hb]
   exact Qrg M (by dsimp only; omega) h3 h4 p6 hb p2 fun h => (hst.go h).1
  ·rw [if_neg hb, if_neg hb]
   refine QsW (s := ⟨s.B, s.fresh, s.fuel - 1, rest, s.ch, s.ev⟩) M (by dsimp only; omega) hp2.2 hCk fun c cs hcc => ?_
   have hmem : ∀ x ∈ c :: cs, x ∈ P := fun x hx => (List.mem_filter.1 (show x ∈ P.filter (QeT g.1) by rw [hcc]; exact hx)).1
   obtain ⟨i1, i2⟩ := QgM H.gs hg hf0 (fun x hx => hp2.2 x (hmem x hx)) (by
    have := List.length_filter_le (QeT g.1) P
    rw [hcc] at this; omega)
   exact ⟨i1, by dsimp only; omega⟩
theorem Qp2 {P : List Cl} {q F every : Nat} (hp : pB P = true) : ∀ (n : Nat) (s : SS) (x : XS), Qil q F s x → s.ev.length < 12 → Qsj P q F every n x = QoH P q n s
 | 0, s, x, _, _ => rfl
 | n + 1, s, x, H, hev => by
  obtain ⟨h1, h2, h3⟩ := Qnr (every := every) hp H hev
  have hok := (QfT (vars := q) H.gs hev hp).2
  simp only [Qsj, QoH]
  rw [← h1]
  by_cases h0 : (Qaq P q s).1 = 0
  ·rw [if_pos h0, if_pos h0]
   exact Qp2 hp n _ _ (h3 h0) (hok h0)
  ·rw [if_neg h0, if_neg h0, h2]
noncomputable def QrU (P : List Cl) (q : Ts) (vars fuel every : Int) : List Ev × Int :=
 if pB P = false ∨ qB vars q = false then ([], 1)
 else if fuel < 0 ∨ 150 < fuel ∨ every < 0 then ([], 2)
 else (Qsj P vars.toNat fuel.toNat every.toNat 4000 (QdC q vars), 0)
theorem QkS {q : Ts} {v F : Nat} (hq : qB (v : Nat) q = true) (hF : F ≤ 150) : Qil v F (Qbd q v F) (QdC q (v : Nat)) := by
 have hq' := hq
 simp only [qB, Bool.and_eq_true, decide_eq_true_eq] at hq'
 obtain ⟨⟨⟨v0, v1⟩, v2⟩, v3⟩ := hq'
 obtain ⟨l1, l2, l3, l4, l5, l6⟩ := Qp9 hq
 obtain ⟨hI, hmu⟩ := Qe7 hq hF
 have hX : QdC q (v : Nat) = ⟨⟨(Qae (v : Nat) q).map (Q0 0), []⟩, 0, (Qb3 0 0 (Qbf (v : Nat) q) (-1) []).1, (Qb3 0 0 (Qbf (v : Nat) q) (-1) []).2, [], []⟩ := by
  unfold QdC; rw [l1]
 rw [hX]
 generalize (Qae (v : Nat) q).map (Q0 0) = L at *
 have hsh : ∀ t : Tm, Qkx L 0 (v : Nat) 0 t = Qkx L 0 (v : Nat) 0 t := fun t => rfl
 have hB : Bm Qkz QeY (fun t a => False ∨ Qkx L 0 (v : Nat) 0 t a) [] ⟨L, []⟩ := by
  refine Bm.ext (R := fun _ _ => False) (h := ⟨[], []⟩) (m := 0) (base := 0) ⟨trivial, ⟨rfl, fun a ha => ?_, fun a ha => by cases ha⟩, fun h => h.elim, fun h => h.elim, fun h => h.elim, fun h => h.elim⟩ l3 (fun a ha => ?_) (fun t a hn => ?_) (fun t a u hr => hr.elim) (fun t a u hr => hr.elim)
  ·obtain ⟨a0, a1⟩ := Ql.1 ha
   simp at a1; omega
  ·obtain ⟨a0, a1⟩ := Ql.1 ha
   simp at a1; omega
  ·refine ⟨?_, ?_⟩
   ·obtain ⟨u, hl, _⟩ := hn; exact hl.addr
   ·rcases Qkx.look (T := []) (B := []) v1 (Int.le_refl 0) Ya (fun x hx => by cases hx) hn with ⟨i, i0, i1, e1, e2⟩ | hh
    ·exact .inl ⟨i, i0, e1, e2⟩
    ·exact .inr hh
 have hlow : ∀ t a, (False ∨ Qkx L 0 (v : Nat) 0 t a) → Qiy (v : Nat) t := fun t a hr => by
  rcases hr with hr | hr
  ·exact hr.elim
  ·have := hr.low v1 (Int.le_refl 0) Ya
   rwa [Int.zero_add] at this
 have hqv : ∀ x : Nat, x < v → Qkx L 0 (v : Nat) 0 ⟨0, (x : Nat), ⟨#[]⟩, .nil⟩ (x : Nat) := fun x hx => by
  have hc := l5 (x : Nat) Ya Ya
  refine ⟨⟨0, (x : Nat), ⟨#[]⟩, .nil⟩, ⟨⟨(x : Nat), _, Qa7 hc Yd, hc, .inl ⟨rfl, by show (0 : Int) ≤ (x : Nat); omega, by show ((x : Nat) : Int) < (v : Nat); omega, rfl, rfl, rfl, by show ((x : Nat) : Int) = (x : Nat) + ((0 : Nat) : Int); omega⟩⟩, trivial⟩, ?_⟩
  unfold Tm.shift
  rw [QfV (n := ((x : Nat) : Int)) (m := 0) Ya Ya Ya Ya, Int.add_zero]
  rfl
 obtain ⟨c1, ⟨X, c2, c3⟩, c4, c5⟩ := QmZ (R := GR (fun t a => False ∨ Qkx L 0 (v : Nat) 0 t a) ⟨L, []⟩) (base := 0) (fun t a h hd => ⟨.inr h, hd, h.kind hd⟩) (o := 0) q (Qbf (v : Nat) q) (-1) [] [] l6 rfl Ya Yd
 have hnx := (Qrm (base := 0) (o := 0) (Qbf (v : Nat) q) (-1) [] Ya Yd (fun i l hl => by simp at hl)).1
 refine ⟨⟨rfl, by show 0 + F = F; omega, hF, by omega, trivial, hI.c, l2, l3, fun d hd => (by cases hd), ?_, hnx⟩, ⟨_, ⟨hB, fun x hx => (by cases hx), hlow, fun x hx => .inr (hqv x hx)⟩, c1⟩, hI, by dsimp only; omega, by dsimp only; simp⟩
 dsimp only
 rw [c2, List.nil_append, c3]
 omega
theorem Quu (P : List Cl) (q : Ts) (vars fuel every : Int) (he : 0 ≤ every) : QrU P q vars fuel every = Qdr P q vars fuel := by
 unfold QrU Qdr
 by_cases h1 : pB P = false ∨ qB vars q = false
 ·rw [if_pos h1, if_pos h1]
 rw [if_neg h1, if_neg h1]
 by_cases h2 : fuel < 0 ∨ 150 < fuel
 ·rw [if_pos h2, if_pos Ya]
 rw [if_neg h2, if_neg Ya]
 have hp : pB P = true := by cases hh : pB P with | true => rfl | false => exact absurd (.inl hh) h1
 have hq : qB vars q = true := by cases hh : qB vars q with | true => rfl | false => exact absurd (.inr hh) h1
 have hq' := hq
 simp only [qB, Bool.and_eq_true, decide_eq_true_eq] at hq'
 obtain ⟨⟨⟨v0, v1⟩, v2⟩, v3⟩ := hq'
 obtain ⟨v, rfl⟩ : ∃ v : Nat, vars = (v : Nat) := ⟨vars.toNat, by omega⟩
 obtain ⟨f, rfl⟩ : ∃ f : Nat, fuel = (f : Nat) := ⟨fuel.toNat, by omega⟩
 simp only [Int.toNat_natCast]
 rw [Qp2 hp 4000 _ _ (QkS hq Ya) (by simp [Qbd])]
theorem Qs6 (P : List Cl) (q : Ts) (vars fuel every : Int) (he : every < 0) : QrU P q vars fuel every = if pB P = false ∨ qB vars q = false then ([], 1) else ([], 2) := by
 unfold QrU
 split
 ·rfl
 ·rw [if_pos Ya]
section
variable {P : Program} {n : Nat} {e : Env} {w : World} {ty : TypeId} {pos : String} {after : Array Edge} {dst : Option Nat} {x y : Operand} {t t2 : TypeId}
theorem Qnz {a c m : Int} {ts : Array TypeId} (hx : ev n e x = .int .i64 a) (hy : ev n e y = .int .i64 c) (hm : m = if a < c then c else a) :
  (execOp (ev n e) ⟨dst, .call ⟨.builtin .max, #[x, y], ts⟩, ty, pos, after, none⟩).run P w = .ok (.value (.int .i64 m)) w := by
 subst hm
 simp only [execOp, resolve, List.map_toArray, List.map_cons, List.map_nil, hx, hy, bind, pure, Sem.bind, invoke, builtin, Builtin.max_, List.foldlM, Builtin.max2]
 by_cases h : a < c
 ·rw [if_pos h]; simp [h, Sem.run, Sem.bind]; try rfl
 ·rw [if_neg h]; simp [h, Sem.run, Sem.bind]; try rfl
theorem QjL {a c m : Int} {ts : Array TypeId} (hx : ev n e x = .int .i64 a) (hy : ev n e y = .int .i64 c) (hm : m = if c < a then c else a) :
  (execOp (ev n e) ⟨dst, .call ⟨.builtin .min, #[x, y], ts⟩, ty, pos, after, none⟩).run P w = .ok (.value (.int .i64 m)) w := by
 subst hm
 simp only [execOp, resolve, List.map_toArray, List.map_cons, List.map_nil, hx, hy, bind, pure, Sem.bind, invoke, builtin, Builtin.min_, List.foldlM, Builtin.min2]
 by_cases h : c < a
 ·rw [if_pos h]; simp [h, Sem.run, Sem.bind]; try rfl
 ·rw [if_neg h]; simp [h, Sem.run, Sem.bind]; try rfl
theorem Qnx {a c : Int} (hx : ev n e x = .int .i64 a) (hy : ev n e y = .int .i64 c) (h0 : 0 < c) (ha : 0 ≤ a) :
  (execOp (ev n e) ⟨dst, .binOp .rem t x y t2, ty, pos, after, none⟩).run P w = .ok (.value (.int .i64 (a % c))) w := by
 have h1 : ¬ c = 0 := by omega
 have h2 : Op.intDiv .rem .i64 a c = pure (.int .i64 (a.tmod c)) := by unfold Op.intDiv; rw [if_neg h1]
 have h3 : (execOp (ev n e) ⟨dst, .binOp .rem t x y t2, ty, pos, after, none⟩).run P w = ((Op.intDiv .rem .i64 a c).bind fun r => pure (.value r)).run P w := by simp only [execOp, hx, hy]; rfl
 rw [h3, h2, Int.tmod_eq_emod_of_nonneg ha]; rfl
end
set_option maxRecDepth 100000
section
variable {P : Program} {n : Nat} {e : Env} {w : World} {ty : TypeId} {pos : String} {after : Array Edge} {dst : Option Nat} {x y : Operand} {t t2 : TypeId}
theorem Qhp {vs : List Value} {v : Value} {o t : Nat} (hA : QeW P t = some false) (h : vs[o]? = some v) (w : World) : (part t vs.toArray o).run P w = .ok v w := by
 simp only [part, bind]
 rw [Sem.run_bind', Qci hA]
 simp [Sem.run, h, pure]
theorem Qhw (a b : HC) (w : World) : (Op.equalIn 10000 104 (.agg (hcs a).toArray) (.agg (hcs b).toArray)).run Tryz.prog w = .ok (decide (a = b)) w := by
 rw [run_equalIn_agg w 9999 _ _ _ Yc Yc]
 have hf : (Tryz.prog.fieldsOf 104).toList = [⟨ "Kind", 3, 0, false, "", "", 0⟩, ⟨ "N", 3, 1, false, "", "", 8⟩, ⟨ "S", 9, 2, false, "", "", 16⟩] := by kernel_rfl
 have p0 := fun (c : HC) w => Qhp (P := Tryz.prog) (vs := hcs c) (v := .int .i64 c.k) (o := 0) (t := 3) rfl rfl w
 have p1 := fun (c : HC) w => Qhp (P := Tryz.prog) (vs := hcs c) (v := .int .i64 c.n) (o := 1) (t := 3) rfl rfl w
 have p2 := fun (c : HC) w => Qhp (P := Tryz.prog) (vs := hcs c) (v := .string c.s) (o := 2) (t := 9) rfl rfl w
 have q0 : ∀ (a b : Int) w, (Op.equalIn 9999 3 (.int .i64 a) (.int .i64 b)).run Tryz.prog w = .ok (a == b) w := fun a b w => run_equalIn_int w 9998 _ _ .i64 _ _ Yc
 have q2 : ∀ (a b : ByteArray) w, (Op.equalIn 9999 9 (.string a) (.string b)).run Tryz.prog w = .ok (a.toList == b.toList) w := fun a b w => run_equalIn_string w 9998 _ _ _ Yc
 rw [hf]
 obtain ⟨ak, an, az⟩ := a
 obtain ⟨bk, bn, bz⟩ := b
 simp only [Op.eqFields, Sem.run_bind, p0, p1, p2, q0, q2, Result.andThen_ok, Sem.run_ite, Sem.run_pure, HC.mk.injEq]
 by_cases h0 : ak = bk
 ·by_cases h1 : an = bn
  ·by_cases h2 : az = bz
   ·simp [h0, h1, h2, Sem.run]
   ·have h2' : ¬ az.toList = bz.toList := fun e => h2 (QiN.1 e)
    simp [h0, h1, h2, h2', Sem.run]
  ·simp [h0, h1, Sem.run]
 ·simp [h0, Sem.run]
theorem QkV {a b : HC} (hx : ev n e x = .agg (hcs a).toArray) (hy : ev n e y = .agg (hcs b).toArray) :
  (execOp (ev n e) ⟨dst, .binOp .neq 104 x y 104, ty, pos, after, none⟩).run Tryz.prog w = .ok (.value (.bool (!decide (a = b)))) w := by
 simp only [execOp, hx, hy, bind, pure]
 rw [Sem.run_bind', Sem.run_bind', run_eqGuard_agg w _ _ _ _ _ _ Yc]
 simp only [Result.andThen_ok]
 rw [run_neq_struct, Qhw]
 rfl
end
end Go.Proofs.YthliapbflkfdiacGreatDoor
