/- Steps of the proof. -/
import Derived.Test.YthliapbflkfdiacGreatDoorG16
namespace Go.Proofs.YthliapbflkfdiacGreatDoor
open Go.RowKit
set_option linter.unusedVariables false
set_option linter.unusedSimpArgs false
def Qkx (L : List HC) (base : Nat) (V m : Int) (t : Tm) (a : Int) : Prop := ∃ u : Tm, QkD L base V (.cons u.k u.n u.s u.ar .nil) a ∧ t = u.shift m
theorem QkD.al {L : List HC} {base : Nat} {V m : Int} : ∀ (T : Ts) (a : Int), QkD L base V T a → Al (Qkx L base V m) (T.shift m).tms (ups a T.length)
 | .nil, a, _ => .nil
 | .cons k n s ar r, a, h => by
  rw [Ts.shift_cons]
  exact .cons ⟨⟨k, n, s, ar⟩, ⟨h.1, trivial⟩, rfl⟩ (QkD.al r (a + 1) h.2)
theorem QkD.addr {L : List HC} {base : Nat} {V : Int} {k n : Int} {s : ByteArray} {ar r : Ts} {a : Int} (h : QkD L base V (.cons k n s ar r) a) : Qj L a = true := by
 obtain ⟨⟨x, c, h1, _⟩, _⟩ := h
 obtain ⟨d, hd⟩ := h1.first
 exact Qem.2 ⟨d, hd⟩
theorem QfV {n m : Int} (h0 : 0 ≤ n) (h1 : n ≤ 40000) (h2 : 0 ≤ m) (h3 : m ≤ 40000) : Qe8 0 n m = n + m := by
 unfold Qe8; rw [if_pos rfl, QnI h0 Ya, QnI h2 Ya]
theorem Qkx.look {L : List HC} {T : List Int} {base : Nat} {V m : Int} {B : Bnd} (hV : V ≤ 8) (m0 : 0 ≤ m) (m1 : m ≤ 40000) (hB : FB m B) {t : Tm} {a : Int} (h : Qkx L base V m t a) :
  (∃ i, 0 ≤ i ∧ i < V ∧ Qbt B t = .var (i + m) ∧ Q1 ⟨L, T⟩ a = .var (i + base)) ∨ ∃ k n s ar ar', Qbt B t = .node k n s ar ∧ Q1 ⟨L, T⟩ a = .node k n s ar' ∧ Al (Qkx L base V m) ar ar' := by
 obtain ⟨⟨k, n, s, ar⟩, hl, rfl⟩ := h
 dsimp only at hl
 obtain ⟨⟨x, c, h1, h2, h3⟩, _⟩ := hl
 rcases h3 with ⟨rfl, n0, n1, rfl, rfl, hk, hx⟩ | ⟨hk, e1, e2, e3, e4, h5⟩
 ·refine .inl ⟨n, n0, n1, ?_, ?_⟩
  ·refine QcH.2 ?_
   have e : (Tm.shift ⟨0, n, eS, .nil⟩ m).n = n + m := QfV (n := n) n0 Ya m0 m1
   rw [QdR (hB.get (by rw [e]; omega))]
   exact ⟨rfl, e⟩
  ·rw [Qai (h := ⟨L, T⟩) h1 h2, if_pos hk, hx]
 ·refine .inr ⟨k, n, s, (ar.shift m).tms, ups (x + 1) ar.length, ?_, ?_, QkD.al _ _ h5⟩
  ·show tvw (Qe B _) = _
   rw [Qa9 (by exact hk)]
   unfold tvw
   rw [if_neg (by exact hk)]
   show Vw.node k (Qe8 k n m) s _ = _
   have : Qe8 k n m = n := by unfold Qe8; rw [if_neg hk]
   rw [this]; rfl
  ·skip
   rw [Qai (h := ⟨L, T⟩) h1 h2, if_neg (by rw [e1]; exact hk), e1, e2, e3, e4]
theorem Bm.ext {R N : Tm → Int → Prop} {B : Bnd} {h h' : HH} {m base : Int} (hb : Bm Qkz QeY R B h) (ho : HOk h') (hold : ∀ a, Qj h.cs a = true → Qj h'.cs a = true ∧ Q1 h' a = Q1 h a)
  (hnew : ∀ t a, N t a → Qj h'.cs a = true ∧ ((∃ i, 0 ≤ i ∧ Qbt B t = .var (i + m) ∧ Q1 h' a = .var (i + base)) ∨ ∃ k n s ar ar', Qbt B t = .node k n s ar ∧ Q1 h' a = .node k n s ar' ∧ Al N ar ar'))
  (hlow : ∀ t a u, R t a → Qbt B t = .var u → u < m) (hlow' : ∀ t a v, R t a → Q1 h a = .var v → v < base) : Bm Qkz QeY (fun t a => R t a ∨ N t a) B h' := by
 refine ⟨hb.oka, ho, fun _ => trivial, ?_, ?_, ?_⟩
 ·rintro t a (hr | hn)
  ·exact (hold a (hb.db hr)).1
  ·exact (hnew t a hn).1
 ·rintro t a (hr | hn)
  ·show VwR _ (Qbt B t) (Q1 h' a)
   rw [(hold a (hb.db hr)).2]
   exact VwR.imp (fun _ _ h => .inl h) (hb.vw hr)
  ·show VwR _ (Qbt B t) (Q1 h' a)
   rcases (hnew t a hn).2 with ⟨i, _, e1, e2⟩ | ⟨k, n, s, ar, ar', e1, e2, hal⟩
   ·rw [e1, e2]; trivial
   ·rw [e1, e2]; exact ⟨rfl, rfl, rfl, hal.imp fun _ _ h => .inr h⟩
 ·intro t a t' a' u u' v v' h1 h2 e1 e2 e3 e4
  have nw : ∀ {t a u v}, N t a → Qbt B t = .var u → Q1 h' a = .var v → ∃ i, 0 ≤ i ∧ u = i + m ∧ v = i + base := by
   intro t a u v hn f1 f2
   rcases (hnew t a hn).2 with ⟨i, i0, g1, g2⟩ | ⟨k, n, s, ar, ar', g1, g2, _⟩
   ·rw [g1] at f1; rw [g2] at f2; cases f1; cases f2; exact ⟨i, i0, rfl, rfl⟩
   ·rw [g1] at f1; cases f1
  have od : ∀ {t a u v}, R t a → Qbt B t = .var u → Q1 h' a = .var v → u < m ∧ v < base ∧ Q1 h a = .var v := by
   intro t a u v hr f1 f2
   rw [(hold a (hb.db hr)).2] at f2
   exact ⟨hlow t a u hr f1, hlow' t a v hr f2, f2⟩
  rcases h1 with h1 | h1
  ·obtain ⟨x1, x2, x3⟩ := od h1 e1 e3
   rcases h2 with h2 | h2
   ·obtain ⟨y1, y2, y3⟩ := od h2 e2 e4
    exact hb.vr h1 h2 e1 e2 x3 y3
   ·obtain ⟨i, i0, rfl, rfl⟩ := nw h2 e2 e4; omega
  ·obtain ⟨i, i0, rfl, rfl⟩ := nw h1 e1 e3
   rcases h2 with h2 | h2
   ·obtain ⟨y1, y2, y3⟩ := od h2 e2 e4; omega
   ·obtain ⟨j, j0, rfl, rfl⟩ := nw h2 e2 e4; omega
theorem Qlx {h : HH} (ho : HOk h) {a v : Int} (ha : Qj h.cs a = true) (hv : Q1 h a = .var v) : v < h.cs.length := by
 obtain ⟨_, c, hc, _⟩ := ho.var ha hv
 exact (Qba.1 hc).2.1
theorem QkN {m : Int} {B : Bnd} (hB : FB m B) {t : Tm} (ht : Qiy m t) {u : Int} (h : Qbt B t = .var u) : u < m := by
 obtain ⟨a1, a2⟩ := QcH.1 h
 rw [← a2]; exact (Qef hB ht).1 a1
structure Qgf (q fresh : Nat) (B : Bnd) (h : HH) (R : Tm → Int → Prop) : Prop where
 bm : Bm Qkz QeY R B h
 fb : FB fresh B
 low : ∀ t a, R t a → Qiy fresh t
 qv : ∀ v : Nat, v < q → R ⟨0, (v : Nat), ⟨#[]⟩, .nil⟩ (v : Nat)
theorem Qgf.mono {q f f' : Nat} (hf : f ≤ f') {B : Bnd} {h : HH} {R : Tm → Int → Prop} (H : Qgf q f B h R) : Qgf q f' B h R := ⟨H.bm, H.fb.mono Ya, fun t a hr => (H.low t a hr).mono Ya, H.qv⟩
theorem QkD.good {L : List HC} {base : Nat} {V : Int} : ∀ (T : Ts) (a : Int), QkD L base V T a → T.vars (fun n => 0 ≤ n ∧ n < V)
 | .nil, _, _ => trivial
 | .cons k n s ar r, a, h => by
  obtain ⟨⟨x, c, h1, h2, h3⟩, h4⟩ := h
  refine ⟨fun hk => ?_, ?_, QkD.good r _ h4⟩
  ·rcases h3 with ⟨_, n0, n1, _⟩ | ⟨hk', _⟩
   ·exact ⟨n0, n1⟩
   ·exact absurd hk hk'
  ·rcases h3 with ⟨_, _, _, _, rfl, _⟩ | ⟨_, _, _, _, _, h5⟩
   ·trivial
   ·exact QkD.good ar _ h5
theorem Qoy {m V : Int} (m0 : 0 ≤ m) (m1 : m ≤ 40000) (hV : V ≤ 8) (T : Ts) : T.vars (fun n => 0 ≤ n ∧ n < V) → (T.shift m).vars (· < m + V) := by
 induction T with
 | nil => intro _; trivial
 | cons k n s ar r iha ihr =>
  rintro ⟨h1, h2, h3⟩
  rw [Ts.shift_cons]
  refine ⟨fun hk => ?_, iha h2, ihr h3⟩
  subst hk
  obtain ⟨n0, n1⟩ := h1 rfl
  rw [QfV n0 Ya m0 m1]; omega
theorem Qkx.low {L : List HC} {base : Nat} {V m : Int} (hV : V ≤ 8) (m0 : 0 ≤ m) (m1 : m ≤ 40000) {t : Tm} {a : Int} (h : Qkx L base V m t a) : Qiy (m + V) t := by
 obtain ⟨⟨k, n, s, ar⟩, hl, rfl⟩ := h
 have h1 := QkD.good _ _ hl
 have h2 := Qoy m0 m1 hV _ h1
 rw [Ts.shift_cons] at h2
 exact ⟨h2.1, h2.2.1⟩
theorem Qgf.load {q fresh : Nat} {B : Bnd} {h h' : HH} {R : Tm → Int → Prop} {K : List HC} {V : Nat} (H : Qgf q fresh B h R) (hb : Blk h K h') (hV : V ≤ 8) (hf : fresh ≤ 40000) :
  Qgf q (fresh + V) B h' (fun t a => R t a ∨ Qkx h'.cs h.cs.length V fresh t a) := by
 have ho : HOk h := H.bm.okb
 have ho' := hb.ok ho
 refine ⟨Bm.ext (m := fresh) (base := h.cs.length) H.bm ho' (fun a ha => ?_) (fun t a hn => ⟨?_, ?_⟩) (fun t a u hr hu => QkN H.fb (H.low t a hr) hu) (fun t a v hr hv => Qlx ho (H.bm.db hr) hv), H.fb.mono Ya, fun t a hr => ?_, fun v hv => .inl (H.qv v hv)⟩
 ·rw [hb.eq]; exact ⟨Qok ha, Qly ho ha _ _⟩
 ·obtain ⟨u, hl, _⟩ := hn; exact hl.addr
 ·rcases Qkx.look (T := h'.tr) Ya Ya Ya H.fb hn with ⟨i, i0, i1, e1, e2⟩ | hh
  ·exact .inl ⟨i, i0, e1, e2⟩
  ·exact .inr hh
 ·rcases hr with hr | hn
  ·exact (H.low t a hr).mono Ya
  ·have := hn.low Ya Ya Ya
   exact this.mono Ya
theorem Qgf.num {q fresh : Nat} {B : Bnd} {h h' : HH} {R : Tm → Int → Prop} {n : Int} (H : Qgf q fresh B h R) (hb : Blk h [⟨2, n, eS⟩] h') :
  Qgf q fresh B h' (fun t a => R t a ∨ (t = ⟨2, n, ⟨#[]⟩, .nil⟩ ∧ a = h.cs.length)) := by
 have ho : HOk h := H.bm.okb
 have ho' := hb.ok ho
 have hc : hat h'.cs (h.cs.length : Nat) = some ⟨2, n, eS⟩ := by
  have := Qfn h [⟨2, n, eS⟩] 0 _ rfl
  rw [hb.eq]; exact this
 refine ⟨Bm.ext (m := fresh) (base := h.cs.length) H.bm ho' (fun a ha => ?_) (fun t a hn => ?_) (fun t a u hr hu => QkN H.fb (H.low t a hr) hu) (fun t a v hr hv => Qlx ho (H.bm.db hr) hv), H.fb, fun t a hr => ?_, fun v hv => .inl (H.qv v hv)⟩
 ·rw [hb.eq]; exact ⟨Qok ha, Qly ho ha _ _⟩
 ·obtain ⟨rfl, rfl⟩ := hn
  refine ⟨Qem.2 ⟨_, hc⟩, .inr ⟨2, n, eS, [], [], ?_, ?_, .nil⟩⟩
  ·show tvw (Qe B _) = _
   rw [Qa9 (by show (2 : Int) ≠ 0; decide)]; rfl
  ·rw [Qai (Qa7 hc Yd) hc, if_neg (by show ¬ (2 : Int) = 0; decide)]; rfl
 ·rcases hr with hr | ⟨rfl, _⟩
  ·exact H.low t a hr
  ·exact ⟨fun e => absurd e (by show ¬ (2 : Int) = 0; decide), trivial⟩
theorem Qgf.uni {q fresh : Nat} {B : Bnd} {h : HH} {R : Tm → Int → Prop} (H : Qgf q fresh B h R) {t t' : Tm} {a a' : Int} (ha : R t a) (ha' : R t' a') :
  (Qb4 401 t t' B 0).ok = (QfP QeY 401 a a' h 0).ok ∧ (Qb4 401 t t' B 0).w = (QfP QeY 401 a a' h 0).w ∧ Qgf q fresh (Qb4 401 t t' B 0).B (QfP QeY 401 a a' h 0).s R := by
 have hu := Qtb 401 t t' B 0 H.bm.oka
 obtain ⟨h1, h2, h3⟩ := QpD (Qsb QsJ) Qsc 401 t t' a a' B h 0 H.bm ha ha'
 have f1 := Qta QsK 401 t t' B 0 H.fb (H.low t a ha) (H.low t' a' ha')
 rw [← hu] at h1 h2 h3 f1
 exact ⟨h1, h2, h3, f1, H.low, H.qv⟩
structure Bk (h : HH) (n top : Nat) (g : HH) : Prop where
 hn : n ≤ h.tr.length
 ht : top ≤ h.cs.length
 eq : g = ⟨(Qbj h.cs (h.tr.drop n)).take top, h.tr.take n⟩
 ok : HOk g
theorem HOk.pos {h : HH} (ho : HOk h) {a : Int} (ha : a ∈ h.tr) : ∃ c, hat h.cs a = some c ∧ c.k = 0 := by
 have := ho.tr a ha
 unfold Qax at this
 cases hc : hat h.cs a with
 | none => rw [hc] at this; cases this
 | some c => rw [hc] at this; exact ⟨c, rfl, by simpa using this⟩
theorem HOk.nn {h : HH} (ho : HOk h) : ∀ a ∈ h.tr, 0 ≤ a := fun a ha => by
 obtain ⟨c, hc, _⟩ := ho.pos ha; exact (Qba.1 hc).1
theorem Qc2 (T : List Int) (L : List HC) : (Qbj L T).length = L.length := by
 induction T generalizing L with
 | nil => rfl
 | cons a r ih => simp only [Qbj]; rw [ih, QbE]
theorem Bk.len {h g : HH} {n top : Nat} (b : Bk h n top g) : g.cs.length = top ∧ g.tr.length = n := by
 rw [b.eq]
 have := b.ht
 have := b.hn
 constructor
 ·show ((Qbj _ _).take top).length = top
  rw [List.length_take, Qc2]; omega
 ·show (h.tr.take n).length = n
  rw [List.length_take]; omega
theorem Bk.self {h : HH} (ho : HOk h) : Bk h h.tr.length h.cs.length h := by
 refine ⟨Nat.le_refl _, Nat.le_refl _, ?_, ho⟩
 rw [List.drop_length, List.take_length]
 show h = ⟨(Qbj h.cs []).take _, _⟩
 rw [show Qbj h.cs [] = h.cs from rfl, List.take_length]
theorem Qc3 {h : HH} (hnn : ∀ a ∈ h.tr, 0 ≤ a) (n i : Nat) : (Qbj h.cs (h.tr.drop n))[i]? = if (i : Int) ∈ h.tr.drop n then (h.cs[i]?).map (fun c => ⟨c.k, i, c.s⟩) else h.cs[i]? :=
 Qg9 _ _ (fun r hr => hnn r (List.mem_of_mem_drop hr)) i
theorem Bk.trans {h g k : HH} {n top n' top' : Nat} (hnn : ∀ a ∈ h.tr, 0 ≤ a) (b : Bk h n top g) (c : Bk g n' top' k) : Bk h n' top' k := by
 obtain ⟨l1, l2⟩ := b.len
 have cn := c.hn
 have ct := c.ht
 have bn := b.hn
 have bt := b.ht
 refine ⟨by omega, by omega, ?_, c.ok⟩
 have hgnn : ∀ a ∈ g.tr, 0 ≤ a := fun a ha => hnn a (by rw [b.eq] at ha; exact List.mem_of_mem_take ha)
 rw [c.eq]
 have e2 : g.tr.take n' = h.tr.take n' := by rw [b.eq]; show (h.tr.take n).take n' = _; rw [List.take_take, Nat.min_eq_left Ya]
 rw [e2]
 congr 1
 refine List.ext_getElem? fun i => ?_
 rw [List.getElem?_take, List.getElem?_take]
 by_cases hi : i < top'
 ·rw [if_pos hi, if_pos hi, Qc3 hgnn, Qc3 hnn]
  have e3 : g.cs[i]? = if (i : Int) ∈ h.tr.drop n then (h.cs[i]?).map (fun c => ⟨c.k, i, c.s⟩) else h.cs[i]? := by
   rw [← Qc3 hnn, b.eq]
   show ((Qbj _ _).take top)[i]? = _
   rw [List.getElem?_take, if_pos Ya]
  have e4 : h.tr.drop n' = g.tr.drop n' ++ h.tr.drop n := by
   have : g.tr = h.tr.take n := by rw [b.eq]
   rw [this]
   conv => lhs; rw [← List.take_append_drop n h.tr]
   rw [List.drop_append_of_le_length (by rw [List.length_take]; omega)]
  rw [e3, e4]
  simp only [List.mem_append]
  by_cases m1 : (i : Int) ∈ g.tr.drop n'
  ·rw [if_pos m1, if_pos (show (i : Int) ∈ g.tr.drop n' ∨ (i : Int) ∈ h.tr.drop n from .inl m1)]
   by_cases m2 : (i : Int) ∈ h.tr.drop n
   ·rw [if_pos m2, Option.map_map]; rfl
   ·rw [if_neg m2]
  ·rw [if_neg m1]
   by_cases m2 : (i : Int) ∈ h.tr.drop n
   ·rw [if_pos m2, if_pos (show (i : Int) ∈ g.tr.drop n' ∨ (i : Int) ∈ h.tr.drop n from .inr m2)]
   ·rw [if_neg m2, if_neg (show ¬ ((i : Int) ∈ g.tr.drop n' ∨ (i : Int) ∈ h.tr.drop n) from fun h => h.elim m1 m2)]
 ·rw [if_neg hi, if_neg hi]
def Dr (h : HH) (a : Int) : Prop := ∃ c, hat h.cs a = some c ∧ (c.k = 1 ∨ c.k = 3)
theorem Dr.up {h g : HH} {n top : Nat} (ho : HOk h) (b : Bk h n top g) {a : Int} (hd : Dr g a) : Dr h a := by
 obtain ⟨c, hc, hk⟩ := hd
 obtain ⟨a0, a1, a2⟩ := Qba.1 hc
 obtain ⟨l1, l2⟩ := b.len
 have ht := b.ht
 have e3 : g.cs[a.toNat]? = if ((a.toNat : Nat) : Int) ∈ h.tr.drop n then (h.cs[a.toNat]?).map (fun c => ⟨c.k, a.toNat, c.s⟩) else h.cs[a.toNat]? := by
  rw [← Qc3 ho.nn, b.eq]
  show ((Qbj _ _).take top)[a.toNat]? = _
  rw [List.getElem?_take, if_pos Ya]
 rw [show ((a.toNat : Nat) : Int) = a by omega] at e3
 by_cases hm : a ∈ h.tr.drop n
 ·rw [if_pos hm, a2] at e3
  obtain ⟨d, hd, hdk⟩ := ho.pos (List.mem_of_mem_drop hm)
  rw [(Qba.1 hd).2.2] at e3
  simp only [Option.map_some, Option.some.injEq] at e3
  rw [e3] at hk
  dsimp only at hk
  omega
 ·rw [if_neg hm, a2] at e3
  exact ⟨c, Qba.2 ⟨a0, by omega, e3.symm⟩, hk⟩
theorem Bk.load {h h' : HH} {K : List HC} (ho : HOk h) (hb : Blk h K h') : Bk h' h.tr.length h.cs.length h := by
 rw [hb.eq]
 refine ⟨Nat.le_refl _, by simp, ?_, ho⟩
 dsimp only
 rw [List.drop_length, List.take_length]
 show h = ⟨(h.cs ++ _).take _, _⟩
 rw [List.take_left]
theorem Bk.uni {h : HH} (ho : HOk h) {N : List Int} {L : List HC} (hN : Bd N h.cs L) : Bk ⟨L, h.tr ++ N⟩ h.tr.length h.cs.length h := by
 have hl : L.length = h.cs.length := by
  have := hN.undo
  rw [← this, Qc2]
 refine ⟨by simp, by show _ ≤ L.length; omega, ?_, ho⟩
 dsimp only
 rw [List.drop_left, List.take_left, hN.undo, List.take_length]
def GR (R : Tm → Int → Prop) (h : HH) (t : Tm) (a : Int) : Prop := R t a ∧ Dr h a ∧ t.k ≠ 0
theorem Qkx.kind {L : List HC} {base : Nat} {V m : Int} {t : Tm} {a : Int} (h : Qkx L base V m t a) (hd : ∃ c, hat L a = some c ∧ (c.k = 1 ∨ c.k = 3)) : t.k ≠ 0 := by
 obtain ⟨⟨k, n, s, ar⟩, hl, rfl⟩ := h
 dsimp only at hl
 obtain ⟨⟨x, c, h1, h2, h3⟩, _⟩ := hl
 obtain ⟨d, d1, d2⟩ := hd
 have e := h1.det (Qa7 d1 (by rintro ⟨h, _⟩; omega))
 subst e
 rw [h2] at d1; cases d1
 show k ≠ 0
 rcases h3 with ⟨_, _, _, _, _, hk, _⟩ | ⟨hk, _⟩
 ·omega
 ·exact hk
def Qag (R : Tm → Int → Prop) (L : List XL) : Int → List Gl → Prop
 | i, [] => i = -1
 | i, g :: r => ∃ (k : Nat) (l : XL), i = (k : Int) ∧ L[k]? = some l ∧ R g.1 l.g ∧ l.o = g.2 ∧ l.nx < (k : Int) ∧ Qag R L l.nx r
theorem Qag.mono {R R' : Tm → Int → Prop} (h : ∀ t a, R t a → R' t a) {L : List XL} : ∀ {i : Int} {G : List Gl}, Qag R L i G → Qag R' L i G
 | _, [], hc => hc
 | _, g :: r, ⟨k, l, h1, h2, h3, h4, h5, h6⟩ => ⟨k, l, h1, h2, h _ _ h3, h4, h5, Qag.mono h h6⟩
theorem Quj {α : Type} {L : List α} {k : Nat} {l : α} (X : List α) (h : L[k]? = some l) : (L ++ X)[k]? = some l := by
 rw [List.getElem?_append_left]
 ·exact h
 ·rcases Nat.lt_or_ge k L.length with g | g
  ·exact g
  ·rw [List.getElem?_eq_none g] at h; cases h
theorem Qag.app {R : Tm → Int → Prop} {L : List XL} (X : List XL) : ∀ {i : Int} {G : List Gl}, Qag R L i G → Qag R (L ++ X) i G
 | _, [], hc => hc
 | _, g :: r, ⟨k, l, h1, h2, h3, h4, h5, h6⟩ => ⟨k, l, h1, Quj X h2, h3, h4, h5, Qag.app X h6⟩
theorem Qjf {L : List XL} {k : Nat} {l : XL} (h : L[k]? = some l) : lnk L k = l := by unfold lnk; rw [List.getD_eq_getElem?_getD, h]; rfl
def QW (q f : Nat) (L : List XL) : Bnd → HH → List Ch → List XC → Prop
 | _, _, [], [] => True
 | B, h, c :: cs, d :: ds => ∃ (R : Tm → Int → Prop) (g : HH), Bk h d.bound d.cells g ∧ QF g = true ∧ Qgf q f (Qal B c.bound) g R ∧ Qag (GR R g) L (d.at_ : Nat) (c.g :: c.next) ∧ d.cls = c.cls ∧ c.bound ≤ B.length ∧ QW q f L (Qal B c.bound) g cs ds
 | _, _, _, _ => False
theorem QW.len {q f : Nat} {L : List XL} : ∀ {B : Bnd} {h : HH} {cs : List Ch} {ds : List XC}, QW q f L B h cs ds → cs.length = ds.length
 | _, _, [], [], _ => rfl
 | _, _, c :: cs, d :: ds, ⟨R, g, _, _, _, _, _, _, h⟩ => by simp [QW.len h]
theorem QW.mono {q f f' : Nat} (hf : f ≤ f') {L : List XL} : ∀ {B : Bnd} {h : HH} {cs : List Ch} {ds : List XC}, QW q f L B h cs ds → QW q f' L B h cs ds
 | _, _, [], [], _ => trivial
 | _, _, c :: cs, d :: ds, ⟨R, g, h1, h0, h2, h3, h4, h5, h6⟩ => ⟨R, g, h1, h0, h2.mono hf, h3, h4, h5, h6.mono hf⟩
theorem QW.links {q f : Nat} {L : List XL} (X : List XL) : ∀ {B : Bnd} {h : HH} {cs : List Ch} {ds : List XC}, QW q f L B h cs ds → QW q f (L ++ X) B h cs ds
 | _, _, [], [], _ => trivial
 | _, _, c :: cs, d :: ds, ⟨R, g, h1, h0, h2, h3, h4, h5, h6⟩ => ⟨R, g, h1, h0, h2, h3.app X, h4, h5, h6.links X⟩
theorem Qe2 (X B : Bnd) {n : Nat} (h : n ≤ B.length) : Qal (X ++ B) n = Qal B n := by
 unfold Qal
 rw [show (X ++ B).length - n = X.length + (B.length - n) by simp; omega, List.drop_append]
 rw [List.drop_of_length_le Ya, List.nil_append]
 congr 1; omega
theorem QW.up {q f : Nat} {L : List XL} {B X : Bnd} {h h' : HH} {n top : Nat} (hnn : ∀ a ∈ h'.tr, 0 ≤ a) (b : Bk h' n top h) : ∀ {cs : List Ch} {ds : List XC}, QW q f L B h cs ds → QW q f L (X ++ B) h' cs ds
 | [], [], _ => trivial
 | c :: cs, d :: ds, ⟨R, g, h1, h0, h2, h3, h4, h5, h6⟩ => by
  refine ⟨R, g, b.trans hnn h1, h0, ?_, h3, h4, by simp; omega, ?_⟩
  ·rw [Qe2 X B h5]; exact h2
  ·rw [Qe2 X B h5]; exact h6
structure XIn (q F : Nat) (s : SS) (x : XS) : Prop where
 ev : x.ev = s.ev
 fuel : x.goals + s.fuel = F
 f150 : F ≤ 150
 q8 : q ≤ 8
 ch : QW q s.fresh x.ln s.B x.h s.ch x.ch
 inv : QeZ s
 gd : QF x.h = true
 ho : HOk x.h
 csz : ∀ d ∈ x.ch, d.cells ≤ 300 * x.goals ∧ d.bound + 400 ≤ 400 * x.goals
 lsz : x.ln.length + 5 * mu s ≤ 30000
 lnx : ∀ (i : Nat) (l : XL), x.ln[i]? = some l → -1 ≤ l.nx ∧ l.nx < (i : Int)
structure Qil (q F : Nat) (s : SS) (x : XS) : Prop where
 i : XIn q F s x
 cur : ∃ R, Qgf q s.fresh s.B x.h R ∧ Qag (GR R x.h) x.ln x.first s.goals
 gs : Inv s
 cs : x.h.cs.length ≤ 300 * (x.goals + 1)
 ts : x.h.tr.length ≤ 400 * x.goals
theorem QkH {q f : Nat} {B : Bnd} {h : HH} {R : Tm → Int → Prop} (H : Qgf q f B h R) (hg : QF h = true) (ht : h.tr.length + 400 ≤ 65536) {t t' : Tm} {a a' : Int} (ha : R t a) (ha' : R t' a') :
  (400 < (Qb4 401 t t' B 0).w → QX h a a' = (h, false, 3)) ∧ ((Qb4 401 t t' B 0).w ≤ 400 → (Qb4 401 t t' B 0).ok = false → QX h a a' = (h, false, 0)) ∧
  ((Qb4 401 t t' B 0).w ≤ 400 → (Qb4 401 t t' B 0).ok = true → ∃ h', QX h a a' = (h', true, 0) ∧ Qgf q f (Qb4 401 t t' B 0).B h' R ∧ QF h' = true ∧ h'.cs.length = h.cs.length ∧ h'.tr.length ≤ h.tr.length + 400 ∧ Bk h' h.tr.length h.cs.length h) := by
 have da : Qj h.cs a = true := H.bm.db ha
 have da' : Qj h.cs a' = true := H.bm.db ha'
 obtain ⟨e1, e2, e3⟩ := H.uni ha ha'
 have e1 : _ = (Qdz 401 a a' h 0).ok := e1
 have e2 : _ = (Qdz 401 a a' h 0).w := e2
 have e3 : Qgf q f (Qb4 401 t t' B 0).B (Qdz 401 a a' h 0).s R := e3
 obtain ⟨g1, g2, g3⟩ := QpE 401 a a' h 0 H.bm.okb da da'
 have hG := QsM hg
 have huu := QkJ 401 a a' _ hG rfl
 have htrl := QpC 401 a a' _ hG rfl
 rw [show toU h 0 = ⟨h.cs, h.tr, 0, false⟩ from rfl] at g1
 have hun : ∀ r, Qcr 401 a a' ⟨h.cs, h.tr, 0, false⟩ = r → QX h a a' = if r.2.lg = true ∨ r.1 = true ∧ 65536 < r.2.tr.length then (h, false, 3) else if r.1 = false then (h, false, 0) else (⟨r.2.cs, r.2.tr⟩, true, 0) := by
  intro r hr
  unfold QX
  rw [hr, if_neg (by rw [hg]; decide), if_neg (by rw [da, da']; decide)]
 have hun := hun _ g1
 rw [g1] at huu htrl
 have hext := huu.ext.2
 have hle := huu.gu.wk
 rw [hun]
 rw [← e1] at g1 huu htrl hext hle ⊢
 rw [← e2] at g1 huu htrl hext hle ⊢
 clear hun
 generalize Qb4 401 t t' B 0 = r at *
 generalize Qdz 401 a a' h 0 = u at *
 have hlg : ∀ k : Nat, (toU u.s k).lg = decide (400 < k) := fun k => rfl
 refine ⟨fun hw => ?_, fun hw ho => ?_, fun hw ho => ?_⟩
 ·rw [if_pos (.inl (by rw [hlg]; simpa using hw))]
 ·rw [if_neg (by rw [hlg, ho]; simp; omega), if_pos ho]
 ·have hext' : u.s.tr.length ≤ h.tr.length + (r.w - 0) := hext
  rw [if_neg (by
   rw [hlg]
   rintro (h1 | ⟨_, h1⟩)
   ·simp at h1; omega
   ·have h1 : 65536 < u.s.tr.length := h1; omega), if_neg (by rw [ho]; show ¬ (true = false); decide)]
  obtain ⟨N, t1, t2⟩ := htrl
  have t1 : u.s.tr = h.tr ++ N := t1
  have t2 : Bd N h.cs u.s.cs := t2
  have hgu : QF u.s = true := by
   have := g2
   unfold QF Q4 QbQ at hg ⊢
   simp only [Bool.and_eq_true, decide_eq_true_eq, List.all_eq_true] at hg ⊢
   exact ⟨⟨by rw [g3]; exact hg.1.1, g2.gl⟩, by omega, g2.tr⟩
  refine ⟨u.s, rfl, e3, hgu, g3, by omega, ?_⟩
  have := Bk.uni H.bm.okb t2
  rw [← t1] at this; exact this
theorem QiL {n : Nat} : ∀ (T : List Int) (L : List HC), L.length = n → QO n L = true → (∀ a ∈ T, ∃ c, hat L a = some c ∧ c.k = 0) → QO n (Qbj L T) = true
 | [], L, _, h, _ => h
 | a :: r, L, hl, h, ht => by
  obtain ⟨c, hc, hk⟩ := ht a (List.mem_cons_self ..)
  obtain ⟨a0, a1, a2⟩ := Qba.1 hc
  refine QiL r (Qep L a.toNat a) (by rw [QbE]; exact hl) (Qfa a0 Ya h fun c' hc' => ?_) fun b hb => ?_
  ·rw [a2] at hc'; cases hc'; exact hk
  ·obtain ⟨d, hd, hdk⟩ := ht b (List.mem_cons_of_mem _ hb)
   rw [Qb9 hc]
   by_cases e : b = a
   ·rw [if_pos e]; exact ⟨_, rfl, hk⟩
   ·rw [if_neg e]; exact ⟨d, hd, hdk⟩
theorem QpK {h : HH} (hg : QF h = true) (ho : HOk h) (n : Nat) : QF ⟨Qbj h.cs (h.tr.drop n), h.tr.take n⟩ = true := by
 have hnn := ho.nn
 unfold QF Q4 QbQ at hg ⊢
 simp only [Bool.and_eq_true, decide_eq_true_eq, List.all_eq_true, Qc2] at hg ⊢
 refine ⟨⟨hg.1.1, QiL _ _ rfl ho.gl fun a ha => ho.pos (List.mem_of_mem_drop ha)⟩, by rw [List.length_take]; omega, fun a ha => ?_⟩
 have ha := List.mem_of_mem_take ha
 obtain ⟨c, hc, hk⟩ := ho.pos ha
 obtain ⟨a0, a1, a2⟩ := Qba.1 hc
 have := Qc3 hnn n a.toNat
 unfold Qax
 have e : hat (Qbj h.cs (h.tr.drop n)) a = (Qbj h.cs (h.tr.drop n))[a.toNat]? := by unfold hat; rw [if_pos a0]
 rw [e, this, a2]
 by_cases hm : ((a.toNat : Nat) : Int) ∈ h.tr.drop n
 ·rw [if_pos hm]; simpa using hk
 ·rw [if_neg hm]; simpa using hk
theorem QuP {h g : HH} {n top : Nat} (hg : QF h = true) (ho : HOk h) (b : Bk h n top g) (hgg : QF g = true) : (QlN (QcA h (n : Nat)).1 (top : Nat)).1 = g := by
 have hn := b.hn
 have ht := b.ht
 have e1 : QcA h (n : Nat) = (⟨Qbj h.cs (h.tr.drop n), h.tr.take n⟩, 0) := by
  unfold QcA
  rw [if_neg (by rw [hg]; decide), if_neg Ya, Int.toNat_natCast]
 rw [e1]
 unfold QlN
 have e2 : (⟨(Qbj h.cs (h.tr.drop n)).take top, h.tr.take n⟩ : HH) = g := b.eq.symm
 dsimp only
 rw [QpK hg ho n, if_neg Yg, if_neg (by rw [Qc2]; omega), Int.toNat_natCast, e2, hgg, if_neg Yg]
theorem QmZ {L : List HC} {base : Nat} {V m : Int} {R : Tm → Int → Prop} (hN : ∀ t a, Qkx L base V m t a → (∃ c, hat L a = some c ∧ (c.k = 1 ∨ c.k = 3)) → R t a) {o : Nat} : ∀ (T : Ts) (P : List Int) (nx : Int) (K : List XL) (rest : List Gl), Qu2 L base V T P → Qag R K nx rest → -1 ≤ nx → nx < K.length →
  Qag R (Qb3 base o P nx K).1 (Qb3 base o P nx K).2 (Qkn T m o rest) ∧ (∃ X, (Qb3 base o P nx K).1 = K ++ X ∧ X.length = T.length) ∧ -1 ≤ (Qb3 base o P nx K).2 ∧ (Qb3 base o P nx K).2 < (Qb3 base o P nx K).1.length
 | .nil, P, nx, K, rest, hP, hc, h0, h1 => by
  obtain rfl := hP
  exact ⟨hc, ⟨[], by simp [Qb3], rfl⟩, h0, h1⟩
 | .cons k n s ar r, P, nx, K, rest, hP, hc, h0, h1 => by
  obtain ⟨x, p, rfl, hx, hd, hr⟩ := hP
  obtain ⟨i1, ⟨X, i2, i3⟩, i4, i5⟩ := QmZ hN (o := o) r p nx K rest hr hc h0 h1
  simp only [Qb3, Qkn]
  refine ⟨⟨_, ⟨base + x, o, (Qb3 base o p nx K).2⟩, rfl, by simp, hN _ _ ⟨⟨k, n, s, ar⟩, hx, rfl⟩ hd, rfl, i5, Qag.app _ i1⟩, ⟨X ++ [⟨base + x, o, (Qb3 base o p nx K).2⟩], by rw [i2, List.append_assoc], by simp [i3, Ts.length]⟩, by omega, by simp only [List.length_append, List.length_cons, List.length_nil]; omega⟩
theorem Qrm {base o : Nat} : ∀ (P : List Int) (nx : Int) (K : List XL), -1 ≤ nx → nx < K.length → (∀ (i : Nat) (l : XL), K[i]? = some l → -1 ≤ l.nx ∧ l.nx < (i : Int)) → (∀ (i : Nat) (l : XL), (Qb3 base o P nx K).1[i]? = some l → -1 ≤ l.nx ∧ l.nx < (i : Int)) ∧ -1 ≤ (Qb3 base o P nx K).2 ∧ (Qb3 base o P nx K).2 < (Qb3 base o P nx K).1.length
 | [], nx, K, h0, h1, hK => ⟨hK, h0, h1⟩
 | x :: P, nx, K, h0, h1, hK => by
  obtain ⟨i1, i2, i3⟩ := Qrm (base := base) (o := o) P nx K h0 h1 hK
  simp only [Qb3]
  refine ⟨fun i l hl => ?_, by omega, by simp only [List.length_append, List.length_cons, List.length_nil]; omega⟩
  rw [List.getElem?_append] at hl
  split at hl
  ·exact i1 i l hl
  ·rename_i hh
   rw [List.getElem?_singleton] at hl
   split at hl
   ·cases hl; dsimp only; omega
   ·cases hl
def QrL (q F : Nat) (p : Int × SS) (r : Int × XS) : Prop := p.1 = r.1 ∧ r.2.ev = p.2.ev ∧ (p.1 = 0 → Qil q F p.2 r.2)
theorem Qag.first {R : Tm → Int → Prop} {L : List XL} {k : Nat} {g : Gl} {r : List Gl} (h : Qag R L (k : Nat) (g :: r)) : ∃ l, L[k]? = some l ∧ lnk L k = l ∧ R g.1 l.g ∧ l.o = g.2 ∧ l.nx < (k : Int) ∧ Qag R L l.nx r := by
 obtain ⟨j, l, e, h1, h2, h3, h4, h5⟩ := h
 obtain rfl : k = j := by omega
 exact ⟨l, h1, Qjf h1, h2, h3, h4, h5⟩
theorem Qm0 {q F : Nat} {ds : List XC} {cs : List Ch} (hk : ∀ n s x, s.ch = cs → x.ch = ds → XIn q F s x → QeB cs < n → QrL q F (Qad n s) (Qi0 ds x)) {a cells bound bd : Nat} {cg : Gl} {next : List Gl} :
  ∀ (cls : List Cl) (n : Nat) (s : SS) (x : XS), s.ch = QkA ⟨cg, next, [], bd⟩ cls cs → x.ch = ds → QeZ s → x.ev = s.ev → x.goals + s.fuel = F → F ≤ 150 → q ≤ 8 → QF x.h = true → (∀ d ∈ x.ch, d.cells ≤ 300 * x.goals ∧ d.bound + 400 ≤ 400 * x.goals) → x.ln.length + 5 * mu s ≤ 30000 →
   (∀ (i : Nat) (l : XL), x.ln[i]? = some l → -1 ≤ l.nx ∧ l.nx < (i : Int)) → bd ≤ s.B.length → QW q s.fresh x.ln (Qal s.B bd) x.h cs ds → (∃ R, Qgf q s.fresh (Qal s.B bd) x.h R ∧ Qag (GR R x.h) x.ln (a : Nat) (cg :: next)) → cells = x.h.cs.length → bound = x.h.tr.length → cells ≤ 300 * x.goals → bound + 400 ≤ 400 * x.goals → QeB s.ch < n →
   QrL q F (Qad n s) (Qph (Qi0 ds) a cells bound cls x)
 | [], n, s, x, hch, hxc, hI, hev, hfu, hF, hq, hgd, hcsz, hlsz, hlnx, hbd, hcr, ⟨R, hG, hC⟩, ec, eb, hc1, hb1, hn => by
  have hch : s.ch = cs := hch
  refine hk n s x hch hxc ⟨hev, hfu, hF, hq, ?_, hI, hgd, hG.bm.okb, hcsz, hlsz, hlnx⟩ (by rw [← hch]; exact hn)
  rw [hch, hxc]
  have e : s.B = s.B.take (s.B.length - bd) ++ Qal s.B bd := (List.take_append_drop _ _).symm
  rw [e]
  exact QW.up hG.bm.okb.nn (Bk.self hG.bm.okb) hcr
 | b :: more, n, s, x, hch, hxc, hI, hev, hfu, hF, hq, hgd, hcsz, hlsz, hlnx, hbd, hcr, ⟨R, hG, hC⟩, ec, eb, hc1, hb1, hn => by
  obtain ⟨n, rfl⟩ : ∃ m, n = m + 1 := ⟨n - 1, by omega⟩
  have hch' : s.ch = ⟨cg, next, b :: more, bd⟩ :: cs := hch
  have hp : QkA ⟨cg, next, b :: more, bd⟩ more cs = QkA ⟨cg, next, [], bd⟩ more cs := by cases more <;> rfl
  have hrc := Qc8 (n := n) (s := s) hch' (rfl : (⟨cg, next, b :: more, bd⟩ : Ch).cls = b :: more)
  have hro := QjP (n + 1) s hI
  have hcok := hI.ch
  rw [hch'] at hcok
  obtain ⟨a1, a2, a3, a4, a5, a6⟩ := hcok
  have hb : cB b = true := a5 b (List.mem_cons_self ..)
  obtain ⟨v0, v1, b5, _, _⟩ := Qgw hb
  have hfr := hI.fr
  have hho := hG.bm.okb
  have hg150 : x.goals ≤ 150 := by omega
  obtain ⟨l1, l2, l3, l4, l5⟩ := Qpb hgd hb Ya
  obtain ⟨lk, k1, k2, ⟨k3, k3d, k3k⟩, k4, k5, k6⟩ := hC.first
  have hV : ((b.vars.toNat : Nat) : Int) = b.vars := by omega
  have hG1 := hG.load (V := b.vars.toNat) l3 Ya Ya
  dsimp only at hG1
  rw [hV] at hG1
  have hbl := QcV hb
  have huni := QkH hG1 l2 (by dsimp only; omega) (t := b.head.shift s.fresh) (t' := cg.1) (a := x.h.cs.length + b.vars) (a' := lk.g) (.inr ⟨b.head, l4, rfl⟩) (.inl k3)
  have hhead : QdW x.h b (lnk x.ln a).g = QX ⟨x.h.cs ++ (Qt b).map (Q0 x.h.cs.length), x.h.tr⟩ (x.h.cs.length + b.vars) lk.g := by unfold QdW; rw [l1, k2]
  have hupx := QfR 401 (b.head.shift s.fresh) cg.1 (Qal s.B bd) 0 (Qts hb (m := s.fresh) Ya).small (a3 cg (List.mem_cons_self ..)).small (hI.bok.drop _) (QpL (Q := fun t => t.ar.nodes ≤ 24) hI.sm _) Ya
  obtain ⟨N, hN⟩ := hupx.ext
  have hul : (Qal s.B bd).length = bd := Qnh _ hbd
  have hpinv := QmB hI hch' (rfl : (⟨cg, next, b :: more, bd⟩ : Ch).cls = b :: more)
  have hmu : mu s = 25 * s.fuel + (more.length + 1 + QeB cs) := by unfold mu; rw [hch']; simp only [QeB, List.length_cons]
  rw [hp] at hrc
  rw [hp] at hpinv
  rw [hrc] at hro ⊢
  simp only [Qph]
  rw [hhead]
  dsimp only at hupx hN hpinv hro ⊢
  generalize Qb4 401 (b.head.shift s.fresh) cg.1 (Qal s.B bd) 0 = r at *
  obtain ⟨u1, u2, u3⟩ := huni
  by_cases hw : 400 < r.w
  ·rw [if_pos hw, u1 hw, if_pos (by show (3 : Int) ≠ 0; decide)]
   exact ⟨rfl, hev, fun h => by cases h⟩
  rw [if_neg hw] at hro ⊢
  cases hok : r.ok with
  | false =>
   rw [if_neg Yg, u2 Ya hok, if_neg (by show ¬ ((0 : Int) ≠ 0); decide), if_pos rfl]
   have hub : Qal r.B bd = Qal s.B bd := by rw [hN]; have := Qe2 N (Qal s.B bd) (n := bd) Ya; rw [this]; unfold Qal; rw [show (s.B.drop (s.B.length - bd)).length - bd = 0 by simp; omega]; simp
   refine Qm0 hk more n ⟨r.B, s.fresh + b.vars.toNat, s.fuel, s.goals, QkA ⟨cg, next, [], bd⟩ more cs, s.ev⟩ x rfl hxc (hpinv _) hev hfu hF hq hgd hcsz ?_ hlnx ?_ ?_ ?_ ec eb hc1 hb1 ?_
   ·have : mu ⟨r.B, s.fresh + b.vars.toNat, s.fuel, s.goals, QkA ⟨cg, next, [], bd⟩ more cs, s.ev⟩ = 25 * s.fuel + (more.length + QeB cs) := by unfold mu; simp only [QhE]
    omega
   ·dsimp only; rw [hN]; simp; omega
   ·dsimp only; rw [hub]; exact hcr.mono Ya
   ·dsimp only; rw [hub]; exact ⟨R, hG.mono Ya, hC⟩
   ·simp only [QhE]
    rw [hch'] at hn; simp only [QeB, List.length_cons] at hn; omega
  | true =>
   rw [hok] at hro
   rw [if_pos rfl] at hro ⊢
   obtain ⟨h2, m1, m2, m3, m4, m5, m6⟩ := u3 Ya hok
   obtain ⟨hInv, hmul⟩ := hro.1 rfl
   rw [m1, if_neg (by show ¬ ((0 : Int) ≠ 0); decide), if_neg (by show ¬ (true = false); decide)]
   have hub : Qal r.B bd = Qal s.B bd := by rw [hN]; have := Qe2 N (Qal s.B bd) (n := bd) Ya; rw [this]; unfold Qal; rw [show (s.B.drop (s.B.length - bd)).length - bd = 0 by simp; omega]; simp
   have htook : x.took a b more cells bound = ⟨h2, x.goals, (Qb3 x.h.cs.length x.ch.length (Qat b) lk.nx x.ln).1, (Qb3 x.h.cs.length x.ch.length (Qat b) lk.nx x.ln).2, match more with | [] => x.ch | _ :: _ => ⟨a, more, cells, bound⟩ :: x.ch, x.ev⟩ := by
    unfold XS.took; rw [hhead, m1, l1, k2]
    cases more <;> rfl
   rw [htook]
   have hbk : Bk h2 x.h.tr.length x.h.cs.length x.h := Bk.trans m2.bm.okb.nn m6 (Bk.load hho l3)
   have hlen := hcr.len
   obtain ⟨nx0, nx1⟩ := hlnx a lk k1
   have hal : a < x.ln.length := by
    rcases Nat.lt_or_ge a x.ln.length with h | h
    ·exact h
    ·rw [List.getElem?_eq_none h] at k1; cases k1
   have hxl : x.ch.length = cs.length := by rw [hxc]; exact hlen.symm
   obtain ⟨c1, ⟨X, c2, c3⟩, c4, c5⟩ := QmZ (R := GR (fun t a => R t a ∨ Qkx (x.h.cs ++ (Qt b).map (Q0 x.h.cs.length)) x.h.cs.length b.vars s.fresh t a) h2) (fun t a h hd => ⟨.inr h, Dr.up m2.bm.okb m6 hd, h.kind hd⟩) (o := x.ch.length) b.bd (Qat b) lk.nx x.ln next l5 (k6.mono fun t a h => ⟨.inl h.1, Dr.up m2.bm.okb hbk h.2.1, h.2.2⟩) nx0 Ya
   have hlnx' := (Qrm (base := x.h.cs.length) (o := x.ch.length) (Qat b) lk.nx x.ln nx0 Ya hlnx).1
   have hml : h2.cs.length ≤ 300 * (x.goals + 1) := by
    rw [m4]; simp only [List.length_append, List.length_map]; omega
   have hmt : h2.tr.length ≤ 400 * x.goals := by
    have : h2.tr.length ≤ x.h.tr.length + 400 := m5
    omega
   refine ⟨rfl, hev, fun _ => ⟨⟨hev, hfu, hF, hq, ?_, hInv.c, m3, m2.bm.okb, ?_, ?_, hlnx'⟩, ⟨_, m2, ?_⟩, hInv, hml, hmt⟩⟩
   ·dsimp only
    rw [c2]
    cases more with
    | nil =>
     show QW q _ _ r.B h2 cs x.ch
     rw [hxc, hN]
     exact QW.up m2.bm.okb.nn hbk ((hcr.mono Ya).links X)
    | cons y z =>
     show QW q _ _ r.B h2 (⟨cg, next, y :: z, bd⟩ :: cs) (⟨a, y :: z, cells, bound⟩ :: x.ch)
     refine ⟨R, x.h, by rw [ec, eb]; exact hbk, hgd, ?_, hC.app X, rfl, ?_, ?_⟩
     ·dsimp only; rw [hub]; exact hG.mono Ya
     ·dsimp only; rw [hN]; simp; omega
     ·dsimp only; rw [hub, hxc]; exact (hcr.mono Ya).links X
   ·dsimp only
    cases more with
    | nil => exact hcsz
    | cons y z =>
     intro d hd
     rcases List.mem_cons.1 hd with rfl | hd
     ·exact ⟨hc1, hb1⟩
     ·exact hcsz d hd
   ·dsimp only at hmul ⊢
    rw [c2, List.length_append, c3]; omega
   ·dsimp only
    rw [← hxl]; exact c1
theorem Qmw {q F : Nat} : ∀ (ds : List XC) (cs : List Ch) (n : Nat) (s : SS) (x : XS), s.ch = cs → x.ch = ds → XIn q F s x → QeB cs < n → QrL q F (Qad n s) (Qi0 ds x)
 | [], cs, n, s, x, hs, hx, hI, hn => by
  have h1 := hI.ch
  rw [hs, hx] at h1
  cases cs with
  | cons c cs => exact h1.elim
  | nil =>
   obtain ⟨n, rfl⟩ : ∃ m, n = m + 1 := ⟨n - 1, by omega⟩
   simp only [Qad, hs, Qi0]
   exact ⟨rfl, hI.ev, fun h => by cases h⟩
 | d :: ds, cs, n, s, x, hs, hx, hI, hn => by
  have h1 := hI.ch
  rw [hs, hx] at h1
  cases cs with
  | nil => exact h1.elim
  | cons c cs =>
   obtain ⟨R, g, b1, b2, b3, b4, b5, b6, b7⟩ := h1
   have hcok := hI.inv.ch
   rw [hs] at hcok
   have hne := hcok.2.2.2.1
   obtain ⟨e1, e2⟩ := b1.len
   have hcz := hI.csz d (by rw [hx]; exact List.mem_cons_self ..)
   simp only [Qi0]
   rw [b5]
   have hback : x.back d ds = ⟨g, x.goals, x.ln, x.first, ds, x.ev⟩ := by unfold XS.back; rw [QuP hI.gd hI.ho b1 b2]
   rw [hback]
   refine Qm0 (cs := cs) (fun n s x h1 h2 h3 h4 => Qmw ds cs n s x h1 h2 h3 h4) (bd := c.bound) (cg := c.g) (next := c.next) c.cls n s ⟨g, x.goals, x.ln, x.first, ds, x.ev⟩ ?_ rfl hI.inv hI.ev hI.fuel hI.f150 hI.q8 b2 (fun y hy => hI.csz y (by rw [hx]; exact List.mem_cons_of_mem _ hy)) hI.lsz hI.lnx b6 b7 ⟨R, b3, b4⟩ e1.symm e2.symm hcz.1 hcz.2 (by rw [hs]; exact hn)
   rw [hs]
   cases hcc : c.cls with
   | nil => exact absurd hcc hne
   | cons y z => obtain ⟨cg, cn, cc, cb⟩ := c; dsimp only at hcc ⊢; rw [hcc]; rfl
theorem QfF {q F : Nat} {s : SS} {x : XS} (hI : XIn q F s x) : QrL q F (QaO s) (Qd3 x) := Qmw x.ch s.ch (QeB s.ch + 1) s x rfl rfl hI (Nat.lt_succ_self _)
section
variable {h : HH} {R : List Int} {M : List Bool}
theorem Cx.inj (C : Cx h R M) {a b : Int} (ha : Rc h.cs R a) (hb : Rc h.cs R b) (e : rkI M a = rkI M b) : a = b := by
 obtain ⟨a0, _, am⟩ := C.rc ha
 obtain ⟨b0, _, bm⟩ := C.rc hb
 have := Qtf am bm (by simp only [rkI] at e; omega)
 omega
theorem Cx.ends (C : Cx h R M) {n : Nat} {a x : Int} (he : Qco h.cs n a x) : Rc h.cs R a → Qco (Qa5 M h.cs) n (rkI M a) (rkI M x) ∧ Rc h.cs R x := by
 induction he with
 | @here a c h0 h1 =>
  intro ha
  refine ⟨.here (C.cell ha h0) ?_, ha⟩
  rintro ⟨k, n⟩
  rw [QfY] at k
  have hn : c.n = a := Classical.byContradiction fun e => h1 ⟨k, e⟩
  unfold QbV at n
  rw [if_pos k, hn] at n
  exact n rfl
 | @there n a x c h0 h1 h2 h3 ih =>
  intro ha
  have hr := Rc.ref ha h0 h1
  obtain ⟨i1, i2⟩ := ih hr
  refine ⟨.there (C.cell ha h0) (by rw [QfY]; exact h1) ?_ ?_, i2⟩
  ·unfold QbV; rw [if_pos h1]; exact fun e => h2 (C.inj hr ha e)
  ·unfold QbV; rw [if_pos h1]; exact i1
end
def Qdq (M : List Bool) (h : HH) : HH := ⟨Qa5 M h.cs, Qbv M h.tr⟩
section
variable {h : HH} {Q : List Int} {M : List Bool}
theorem QgS (C : Cx h Q M) (ho : HOk h) : HOk (Qdq M h) := by
 have hg := C.kept_good
 refine ⟨?_, fun a ha => ?_, ?_⟩
 ·simp only [QF, Q4, Bool.and_eq_true] at hg; exact hg.1.2
 ·obtain ⟨a0, a1⟩ := Ql.1 ha
  obtain ⟨d, hd⟩ := Qtp (L := Qa5 M h.cs) a0 a1
  obtain ⟨i, c, hr, hc, _, hi⟩ := C.back (Qba.1 hd).2.2
  obtain ⟨x, n, hx⟩ := ho.ends (i : Int) (Qem.2 ⟨c, hc⟩)
  obtain ⟨h1, _⟩ := C.ends hx hr
  refine ⟨rkI M x, n, ?_⟩
  rw [show rkI M (i : Int) = a by simp only [rkI, Int.toNat_natCast]; omega] at h1
  exact h1
 ·simp only [QF, QbQ, Bool.and_eq_true, List.all_eq_true] at hg
  exact hg.2.2
theorem Qg5 (C : Cx h Q M) (ho : HOk h) {a : Int} (ha : Rc h.cs Q a) : ∃ x c, Rc h.cs Q x ∧ hat h.cs x = some c ∧ (Q1 h a = if c.k = 0 then .var x else .node c.k (ctl c) c.s (ups (x + 1) (QI c).toNat)) ∧ (Q1 (Qdq M h) (rkI M a) = if c.k = 0 then .var (rkI M x) else .node c.k (ctl c) c.s (ups (rkI M x + 1) (QI c).toNat)) := by
 obtain ⟨x, c, ⟨n, h1⟩, h2, h3, h4⟩ := ho.view (ha.addr C.gl)
 obtain ⟨e1, e2⟩ := C.ends h1 ha
 refine ⟨x, c, e2, h2, h4, ?_⟩
 rw [Qai (h := Qdq M h) ⟨n, e1⟩ (C.cell e2 h2)]
 rw [QfY, Qp8, QoJ]
 by_cases hk : c.k = 0
 ·rw [if_pos hk, if_pos hk]
 ·rw [if_neg hk, if_neg hk]
  have : ctl (QbV M c) = ctl c := by unfold QbV; rw [if_neg hk]
  rw [this]
theorem QtH {X : Type} {R R' : X → Int → Prop} : ∀ {m : Nat} {l : List X} {p p' : Int}, Al R l (ups p m) → (∀ i : Int, 0 ≤ i → i < m → ∀ t, R t (p + i) → R' t (p' + i)) → Al R' l (ups p' m)
 | 0, l, p, p', h, _ => by
  cases h; exact .nil
 | m + 1, l, p, p', h, hi => by
  cases h with
  | cons h1 h2 =>
   refine .cons ?_ (QtH h2 fun i i0 i1 t ht => ?_)
   ·have := hi 0 Ya Ya _ (by rw [show p + 0 = p by omega]; exact h1)
    rwa [show p' + 0 = p' by omega] at this
   ·have := hi (i + 1) Ya Ya t (by rw [show p + (i + 1) = p + 1 + i by omega]; exact ht)
    rwa [show p' + (i + 1) = p' + 1 + i by omega] at this
def Quq (M : List Bool) (Q : List Int) (L : List HC) (R : Tm → Int → Prop) (t : Tm) (b : Int) : Prop := ∃ a, R t a ∧ Rc L Q a ∧ b = rkI M a
theorem Qgf.coll (C : Cx h Q M) {q f : Nat} {B : Bnd} {R : Tm → Int → Prop} (H : Qgf q f B h R) (hq : ∀ v : Nat, v < q → Rc h.cs Q (v : Nat) ∧ rk M v = v) : Qgf q f B (Qdq M h) (Quq M Q h.cs R) := by
 have ho : HOk h := H.bm.okb
 refine ⟨⟨H.bm.oka, QgS C ho, fun _ => trivial, ?_, ?_, ?_⟩, H.fb, fun t b ⟨a, hr, _⟩ => H.low t a hr, fun v hv => ⟨v, H.qv v hv, (hq v hv).1, ?_⟩⟩
 ·rintro t b ⟨a, hr, hc, rfl⟩
  have := C.lt hc
  exact Ql.2 ⟨by simp only [rkI]; omega, by show rkI M a < ((Qa5 M h.cs).length : Int); simp only [rkI]; omega⟩
 ·rintro t b ⟨a, hr, hc, rfl⟩
  obtain ⟨x, c, e1, e2, e3, e4⟩ := Qg5 C ho hc
  have hv : VwR R (Qbt B t) (Q1 h a) := H.bm.vw hr
  show VwR _ (Qbt B t) (Q1 (Qdq M h) (rkI M a))
  rw [e3] at hv
  rw [e4]
  by_cases hk : c.k = 0
  ·rw [if_pos hk] at hv ⊢
   cases ht : Qbt B t with
   | var u => trivial
   | node k n s ar => rw [ht] at hv; exact hv.elim
  ·rw [if_neg hk] at hv ⊢
   cases ht : Qbt B t with
   | var u => rw [ht] at hv; exact hv.elim
   | node k n s ar =>
    rw [ht] at hv
    obtain ⟨p1, p2, p3, p4⟩ := hv
    refine ⟨p1, p2, p3, QtH p4 fun i i0 i1 t' ht' => ⟨x + 1 + i, ht', Rc.arg (c := c) e1 e2 i0 Ya, (C.arg (c := c) e1 e2 i0 Ya).symm⟩⟩
 ·rintro t b t' b' u u' v v' ⟨a, hr, hc, rfl⟩ ⟨a', hr', hc', rfl⟩ e1 e2 e3 e4
  obtain ⟨x, c, x1, x2, x3, x4⟩ := Qg5 C ho hc
  obtain ⟨y, d, y1, y2, y3, y4⟩ := Qg5 C ho hc'
  have e3 : Q1 (Qdq M h) (rkI M a) = .var v := e3
  have e4 : Q1 (Qdq M h) (rkI M a') = .var v' := e4
  rw [x4] at e3
  rw [y4] at e4
  split at e3
  ·rename_i kx
   split at e4
   ·rename_i ky
    cases e3; cases e4
    rw [if_pos kx] at x3
    rw [if_pos ky] at y3
    have h1 : (u = u' ↔ x = y) := H.bm.vr hr hr' e1 e2 x3 y3
    rw [h1]
    constructor
    ·rintro rfl; rfl
    ·intro e; exact C.inj x1 y1 e
   ·cases e4
  ·cases e3
 ·show ((v : Nat) : Int) = ((rk M ((v : Nat) : Int).toNat : Nat) : Int)
  rw [Int.toNat_natCast, (hq v hv).2]
theorem Dr.coll (C : Cx h Q M) {a : Int} (ha : Rc h.cs Q a) (hd : Dr h a) : Dr (Qdq M h) (rkI M a) := by
 obtain ⟨c, hc, hk⟩ := hd
 exact ⟨_, C.cell ha hc, by rw [QfY]; exact hk⟩
theorem GR.coll (C : Cx h Q M) {R : Tm → Int → Prop} {t : Tm} {a : Int} (ha : Rc h.cs Q a) (hg : GR R h t a) : GR (Quq M Q h.cs R) (Qdq M h) t (rkI M a) := ⟨⟨a, hg.1, ha, rfl⟩, hg.2.1.coll C ha, hg.2.2⟩
end
theorem Qaw {α : Type} (f : α → Bool) : ∀ T : List α, kept T (T.map f) = T.filter f
 | [] => rfl
 | x :: r => by
  simp only [List.map_cons, kept, List.filter_cons, Qaw f r]
theorem QdI {α : Type} (f : α → Bool) (T : List α) (n : Nat) : rk (T.map f) n = ((T.take n).filter f).length := by
 unfold rk
 rw [← List.map_take, List.count_eq_length_filter, List.filter_map, List.length_map]
 congr 2
 funext x
 simp [Function.comp]
theorem QjO {M : List Bool} {top n : Nat} (h : n ≤ top) : rk (M.take top) n = rk M n := by
 unfold rk; rw [List.take_take, Nat.min_eq_left h]
theorem Qo8 (M : List Bool) (T : List Int) (n : Nat) : (Qbv M T).take (rk (T.map (Qs M)) n) = Qbv M (T.take n) := by
 unfold Qbv
 rw [← List.map_take, Qaw, Qaw, QdI]
 congr 1
 have e : T.filter (Qs M) = (T.take n).filter (Qs M) ++ (T.drop n).filter (Qs M) := by rw [← List.filter_append, List.take_append_drop]
 rw [e, List.take_left]
theorem Qo9 (M : List Bool) (T : List Int) (n : Nat) : (Qbv M T).drop (rk (T.map (Qs M)) n) = Qbv M (T.drop n) := by
 unfold Qbv
 rw [← List.map_drop, Qaw, Qaw, QdI]
 congr 1
 have e : T.filter (Qs M) = (T.take n).filter (Qs M) ++ (T.drop n).filter (Qs M) := by rw [← List.filter_append, List.take_append_drop]
 rw [e, List.drop_left]
def Qhx (M : List Bool) (top : Nat) : List Int := ((List.range top).filter fun i => decide (M[i]? = some true)).map fun i => ((i : Nat) : Int)
theorem QeI {M : List Bool} {top : Nat} {a : Int} : a ∈ Qhx M top ↔ 0 ≤ a ∧ a < top ∧ M[a.toNat]? = some true := by
 unfold Qhx
 simp only [List.mem_map, List.mem_filter, List.mem_range, decide_eq_true_eq]
 constructor
 ·rintro ⟨i, ⟨h1, h2⟩, rfl⟩; exact ⟨by omega, by omega, by rw [Int.toNat_natCast]; exact h2⟩
 ·rintro ⟨h0, h1, h2⟩; exact ⟨a.toNat, ⟨by omega, h2⟩, by omega⟩
section
variable {h g : HH} {Q : List Int} {M : List Bool} {n top : Nat}
theorem Bk.cell (ho : HOk h) (b : Bk h n top g) {a : Int} {c : HC} (hc : hat g.cs a = some c) : a < top ∧ ((a ∈ h.tr.drop n ∧ ∃ d, hat h.cs a = some d ∧ d.k = 0 ∧ c = ⟨d.k, a, d.s⟩) ∨ (a ∉ h.tr.drop n ∧ hat h.cs a = some c)) := by
 obtain ⟨a0, a1, a2⟩ := Qba.1 hc
 obtain ⟨l1, l2⟩ := b.len
 have ht := b.ht
 have e3 : g.cs[a.toNat]? = if ((a.toNat : Nat) : Int) ∈ h.tr.drop n then (h.cs[a.toNat]?).map (fun c => ⟨c.k, a.toNat, c.s⟩) else h.cs[a.toNat]? := by
  rw [← Qc3 ho.nn, b.eq]
  show ((Qbj _ _).take top)[a.toNat]? = _
  rw [List.getElem?_take, if_pos Ya]
 rw [show ((a.toNat : Nat) : Int) = a by omega] at e3
 refine ⟨by omega, ?_⟩
 by_cases hm : a ∈ h.tr.drop n
 ·rw [if_pos hm, a2] at e3
  obtain ⟨d, hd, hdk⟩ := ho.pos (List.mem_of_mem_drop hm)
  rw [(Qba.1 hd).2.2] at e3
  simp only [Option.map_some, Option.some.injEq] at e3
  exact .inl ⟨hm, d, hd, hdk, e3⟩
 ·rw [if_neg hm, a2] at e3
  exact .inr ⟨hm, Qba.2 ⟨a0, by omega, e3.symm⟩⟩
theorem Qtr (C : Cx h Q M) (ho : HOk h) (b : Bk h n top g) (hg : QF g = true) : Cx g (Qhx M top) (M.take top) := by
 obtain ⟨l1, l2⟩ := b.len
 have ht := b.ht
 have hml := C.mks.1
 have key : ∀ {a : Int}, Rc g.cs (Qhx M top) a → M[a.toNat]? = some true := by
  intro a ha
  induction ha with
  | root h1 h2 => exact (QeI.1 h1).2.2
  | @ref a c h1 hc hk ih =>
   have a0 := (Qba.1 hc).1
   rcases (b.cell ho hc).2 with ⟨_, d, _, _, rfl⟩ | ⟨_, hh⟩
   ·exact ih
   ·have hr : Rc h.cs Q a := by
     have := (C.mark ih).2
     rwa [show ((a.toNat : Nat) : Int) = a by omega] at this
    exact (C.rc (Rc.ref hr hh hk)).2.2
  | @arg a c i h1 hc i0 i1 ih =>
   have a0 := (Qba.1 hc).1
   rcases (b.cell ho hc).2 with ⟨_, d, _, hdk, rfl⟩ | ⟨_, hh⟩
   ·unfold QI at i1
    rw [if_neg (by dsimp only; omega)] at i1
    omega
   ·have hr : Rc h.cs Q a := by
     have := (C.mark ih).2
     rwa [show ((a.toNat : Nat) : Int) = a by omega] at this
    exact (C.rc (Rc.arg hr hh i0 i1)).2.2
 refine ⟨hg, by rw [List.length_take]; omega, fun i hi => ?_⟩
 rw [List.getElem?_take, if_pos Ya]
 constructor
 ·intro hm
  exact .root (QeI.2 ⟨by omega, by omega, by rw [Int.toNat_natCast]; exact hm⟩) (Ql.2 ⟨by omega, by omega⟩)
 ·intro hr
  have := key hr
  rwa [Int.toNat_natCast] at this
theorem QgJ {a : Int} (h : a < top) : rkI (M.take top) a = rkI M a := by
 simp only [rkI]
 rw [QjO Ya]
theorem Qra {T : List Int} (hT : ∀ a ∈ T, 0 ≤ a ∧ a < top) : Qbv (M.take top) T = Qbv M T := by
 unfold Qbv
 rw [Qaw, Qaw]
 have e : T.filter (Qs (M.take top)) = T.filter (Qs M) := List.filter_congr fun a ha => by
  have := hT a ha
  unfold Qs
  rw [List.getElem?_take, if_pos Ya]
 rw [e]
 refine List.map_congr_left fun a ha => ?_
 have := hT a (List.mem_filter.1 ha).1
 exact QgJ this.2
theorem Bk.coll (C : Cx h Q M) (ho : HOk h) (b : Bk h n top g) (hg : QF g = true) : Bk (Qdq M h) (rk (h.tr.map (Qs M)) n) (rk M top) (Qdq (M.take top) g) := by
 have S := Qtr C ho b hg
 obtain ⟨l1, l2⟩ := b.len
 have hn := b.hn
 have ht := b.ht
 have hml := C.mks.1
 have hco := QgS C ho
 have hgo := b.ok
 have hgt : ∀ a ∈ g.tr, 0 ≤ a ∧ a < top := fun a ha => by
  obtain ⟨c, hc, _⟩ := hgo.pos ha
  have := Qba.1 hc
  omega
 have hgtr : g.tr = h.tr.take n := by rw [b.eq]
 have htk : Qbv (M.take top) g.tr = (Qbv M h.tr).take (rk (h.tr.map (Qs M)) n) := by rw [Qra hgt, Qo8, hgtr]
 have hlen : (Qa5 (M.take top) g.cs).length = rk M top := by
  rw [S.len, List.length_take, Nat.min_eq_left Ya, QjO (Nat.le_refl _)]
 have hlenh : rk M top ≤ (Qa5 M h.cs).length := by rw [C.len]; exact Qp5 M Ya
 refine ⟨?_, hlenh, ?_, QgS S hgo⟩
 ·show _ ≤ (Qbv M h.tr).length
  unfold Qbv
  rw [List.length_map, Qaw, QdI]
  exact ((List.take_sublist n h.tr).filter _).length_le
 ·show (⟨Qa5 (M.take top) g.cs, Qbv (M.take top) g.tr⟩ : HH) = _
  rw [htk]
  congr 1
  refine List.ext_getElem? fun j => ?_
  rw [List.getElem?_take]
  by_cases hj : j < rk M top
  ·rw [if_pos hj, Qc3 hco.nn]
   have hd : (Qdq M h).tr.drop (rk (h.tr.map (Qs M)) n) = Qbv M (h.tr.drop n) := Qo9 M h.tr n
   rw [hd]
   obtain ⟨d, hd1⟩ : ∃ d, (Qa5 (M.take top) g.cs)[j]? = some d := ⟨_, List.getElem?_eq_getElem Ya⟩
   obtain ⟨i, c, hr, hc, rfl, hi⟩ := S.back hd1
   obtain ⟨r0, r1, r2⟩ := S.rc hr
   rw [Int.toNat_natCast, List.getElem?_take, if_pos Ya] at r2
   rw [QjO Ya] at hi
   have hmem : (j : Int) ∈ Qbv M (h.tr.drop n) ↔ (i : Int) ∈ h.tr.drop n := by
    unfold Qbv
    rw [Qaw]
    simp only [List.mem_map, List.mem_filter]
    constructor
    ·rintro ⟨a, ⟨ha, hma⟩, e⟩
     obtain ⟨c', hc', _⟩ := ho.pos (List.mem_of_mem_drop ha)
     have a0 := (Qba.1 hc').1
     have := Qtf (Qao.1 hma) r2 (by simp only [rkI] at e; omega)
     rw [show (i : Int) = a by omega]; exact ha
    ·intro ha
     exact ⟨i, ⟨ha, Qao.2 (by rw [Int.toNat_natCast]; exact r2)⟩, by simp only [rkI, Int.toNat_natCast]; omega⟩
   have hcell : ∀ d, hat h.cs (i : Int) = some d → (Qa5 M h.cs)[j]? = some (QbV M d) := by
    intro d hd
    unfold Qa5
    rw [List.getElem?_map, ← hi, Qj4 r2 (by have := (Qba.1 hd).2.2; rwa [Int.toNat_natCast] at this)]
    rfl
   rw [hd1]
   rcases (b.cell ho hc).2 with ⟨hm, d, hd, hdk, rfl⟩ | ⟨hm, hh⟩
   ·rw [if_pos (hmem.2 hm), show (Qdq M h).cs[j]? = _ from hcell d hd]
    simp only [Option.map_some, Option.some.injEq]
    unfold QbV
    rw [if_pos (by exact hdk), if_pos hdk]
    simp only [HC.mk.injEq, true_and, and_true]
    rw [QgJ Ya]
    simp only [rkI, Int.toNat_natCast]; omega
   ·rw [if_neg (fun e => hm (hmem.1 e)), show (Qdq M h).cs[j]? = _ from hcell c hh]
    congr 1
    unfold QbV
    by_cases hk : c.k = 0
    ·rw [if_pos hk, if_pos hk]
     have := QgV S.gl hc hk
     rw [QgJ Ya]
    ·rw [if_neg hk, if_neg hk]
  ·rw [if_neg hj, List.getElem?_eq_none Ya]
end
set_option maxRecDepth 4000
structure Qux (q F : Nat) (s : SS) (x : XS) (R : Tm → Int → Prop) : Prop where
 i : XIn q F s x
 g : Qgf q s.fresh s.B x.h R
 c : Qag (GR R x.h) x.ln x.first s.goals
 cs : x.h.cs.length ≤ 300 * (x.goals + 1)
 ts : x.h.tr.length + 400 ≤ 400 * x.goals
theorem XIn.setB {q F : Nat} {s : SS} {x : XS} (h : XIn q F s x) {N : Bnd} (hi : QeZ (s.setB (N ++ s.B))) : XIn q F (s.setB (N ++ s.B)) x :=
 ⟨h.ev, h.fuel, h.f150, h.q8, QW.up h.ho.nn (Bk.self h.ho) h.ch, hi, h.gd, h.ho, h.csz, h.lsz, h.lnx⟩
theorem QlL {q F : Nat} {s : SS} {x : XS} {R : Tm → Int → Prop} (M : Qux q F s x R) {t t' : Tm} {a a' : Int} (ht : R t a) (ht' : R t' a') (hsl : s.B.length + 10100 * (mu s + 1) ≤ 1000000000) (gt : tgd t) (gt' : tgd t') (hgo : (Qa4 t t' s).1 = 0 → Inv (Qa4 t t' s).2) :
  QrL q F (Qa4 t t' s) (Qfw a a' x) := by
 have hi := Qd0 M.i.inv hsl gt gt'
 have hup := QfR 401 t t' s.B 0 gt.small gt'.small M.i.inv.bok M.i.inv.sm Ya
 obtain ⟨N, hN⟩ := hup.ext
 have hfu := M.i.fuel
 have hf150 := M.i.f150
 have hun := QkH M.g M.i.gd (by have := M.ts; omega) ht ht'
 unfold Qa4 at hgo ⊢
 unfold Qfw
 simp only at hgo ⊢
 generalize Qb4 401 t t' s.B 0 = r at *
 obtain ⟨u1, u2, u3⟩ := hun
 by_cases hw : 400 < r.w
 ·rw [if_pos hw, u1 hw, if_pos (by show (3 : Int) ≠ 0; decide)]
  exact ⟨rfl, M.i.ev, fun h => by cases h⟩
 rw [if_neg hw] at hgo ⊢
 cases hok : r.ok with
 | false =>
  rw [if_neg Yg, u2 Ya hok, if_neg (by show ¬ ((0 : Int) ≠ 0); decide), if_pos rfl]
  rw [hN] at hi ⊢
  exact QfF (M.i.setB hi)
 | true =>
  rw [hok] at hgo
  rw [if_pos rfl] at hgo ⊢
  obtain ⟨h2, m1, m2, m3, m4, m5, m6⟩ := u3 Ya hok
  rw [m1, if_neg (by show ¬ ((0 : Int) ≠ 0); decide), if_neg (by show ¬ (true = false); decide)]
  refine ⟨rfl, M.i.ev, fun _ => ⟨⟨M.i.ev, M.i.fuel, M.i.f150, M.i.q8, ?_, hi, m3, m2.bm.okb, M.i.csz, M.i.lsz, M.i.lnx⟩, ⟨R, m2, M.c.mono fun t a h => ⟨h.1, Dr.up m2.bm.okb m6 h.2.1, h.2.2⟩⟩, hgo rfl, ?_, ?_⟩⟩
  ·show QW q s.fresh x.ln r.B h2 s.ch x.ch
   rw [hN]
   exact QW.up m2.bm.okb.nn m6 M.i.ch
  ·show h2.cs.length ≤ 300 * (x.goals + 1)
   rw [m4]; exact M.cs
  ·show h2.tr.length ≤ 400 * x.goals
   have := M.ts; omega
theorem QdS {q f : Nat} {B : Bnd} {h : HH} {R : Tm → Int → Prop} (H : Qgf q f B h R) {t : Tm} {a : Int} (ht : R t a) : (QY h a).k = (Qe B t).k ∧ ((Qe B t).k = 2 → (QY h a).n = (Qe B t).n) := by
 have da : Qj h.cs a = true := H.bm.db ht
 have ho : HOk h := H.bm.okb
 obtain ⟨y, c, h1, h2, h3, h4⟩ := ho.view da
 have hc : QY h a = c := by unfold QY; rw [h1.look, h2]; rfl
 rw [hc]
 rcases H.bm.cases ht with ⟨u, v, e1, e2⟩ | ⟨k, n, s, ar, ar', e1, e2, _⟩
 ·have e2 : Q1 h a = .var v := e2
  have e1 : Qbt B t = .var u := e1
  have hk := (QcH.1 e1).1
  rw [h4] at e2
  split at e2
  ·rename_i h0; rw [hk]; exact ⟨h0, fun h => absurd h Yg⟩
  ·cases e2
 ·have e2 : Q1 h a = .node k n s ar' := e2
  obtain ⟨a1, a2, a3, _⟩ := Qd5 (B := B) e1
  rw [h4] at e2
  split at e2
  ·cases e2
  ·cases e2
   refine ⟨a1.symm, fun hk => ?_⟩
   rw [a3]
   unfold ctl
   rw [if_neg Ya]
theorem Qs9 {R : Tm → Int → Prop} : ∀ {T : Ts} {x : Int} {m : Nat}, Al R T.tms (ups x m) → ∀ {i : Nat}, i < T.length → R (T.at_ i) (x + (i : Nat))
 | .nil, x, m, _, i, hi => by simp [Ts.length] at hi
 | .cons k n s ar r, x, 0, h, i, hi => by cases h
 | .cons k n s ar r, x, m + 1, h, i, hi => by
  cases h with
  | cons h1 h2 =>
   cases i with
   | zero => rw [show x + ((0 : Nat) : Int) = x by omega]; exact h1
   | succ i =>
    have := Qs9 h2 (i := i) (by simpa [Ts.length] using hi)
    rw [show x + ((i + 1 : Nat) : Int) = x + 1 + (i : Nat) by omega]; exact this
theorem Qfv {q f : Nat} {B : Bnd} {h : HH} {R : Tm → Int → Prop} (H : Qgf q f B h R) {t : Tm} {a : Int} (ht : GR R h t a) :
  (Qbi h a).s = t.s ∧ (Qbi h a).n.toNat = t.ar.length ∧ (Qbi h a).k = t.k ∧ ((Qbi h a).k = 1 ∨ (Qbi h a).k = 3) ∧ 0 ≤ (Qbi h a).n ∧ ((Qbi h a).k = 1 → t.ar.length = 0) ∧ (∀ {i : Nat}, i < t.ar.length → R (t.ar.at_ i) (a + 1 + (i : Nat))) ∧ hat h.cs a = some (Qbi h a) := by
 obtain ⟨hr, ⟨c, hc, hk⟩, hne⟩ := ht
 have ho : HOk h := H.bm.okb
 have hgc : Qbi h a = c := by unfold Qbi; rw [hc]; rfl
 rw [hgc]
 have hv : Q1 h a = .node c.k (ctl c) c.s (ups (a + 1) (QI c).toNat) := by rw [Qai (Qa7 hc (by rintro ⟨h, _⟩; omega)) hc, if_neg Ya]
 have hg := QP (Qak ho.gl hc)
 rcases H.bm.cases hr with ⟨u, v, e1, e2⟩ | ⟨k, n, s, ar, ar', e1, e2, hal⟩
 ·have e2 : Q1 h a = .var v := e2
  rw [hv] at e2; cases e2
 ·have e2 : Q1 h a = .node k n s ar' := e2
  rw [hv] at e2
  have e1 : tvw (Qe B t) = .node k n s ar := e1
  rw [Qa9 hne] at e1
  unfold tvw at e1
  rw [if_neg hne] at e1
  injection e1 with p1 p2 p3 p4
  injection e2 with q1 q2 q3 q4
  rw [← p4, ← q4] at hal
  have hal : @Al Tm Int R t.ar.tms (ups (a + 1) (QI c).toNat) := hal
  have hl : t.ar.tms.length = (ups (a + 1) (QI c).toNat).length := hal.len
  rw [Ts.tms_len, Qmh] at hl
  refine ⟨q3.trans p3.symm, ?_, q1.trans p1.symm, hk, ?_, fun h1 => ?_, fun {i} hi => Qs9 hal hi, hc⟩
  ·rw [hl]
   unfold QI
   split
   ·rfl
   ·omega
  ·omega
  ·rw [hl]; unfold QI; rw [if_neg Ya]; rfl
theorem QsE {q F : Nat} {s : SS} {x : XS} {R : Tm → Int → Prop} (M : Qux q F s x R) {T : Ts} {a : Int} (h0 : R (T.at_ 0) a) (h1 : R (T.at_ 1) (a + 1)) (hgo : (Qiz T s).1 = 0 → Inv (Qiz T s).2) : QrL q F (Qiz T s) (QmH a x) := by
 obtain ⟨a1, a2⟩ := QdS M.g h0
 obtain ⟨b1, b2⟩ := QdS M.g h1
 unfold Qiz at hgo ⊢
 unfold QmH
 simp only at hgo ⊢
 rw [a1, b1]
 by_cases hk : (Qe s.B (T.at_ 0)).k ≠ 2 ∨ (Qe s.B (T.at_ 1)).k ≠ 2
 ·rw [if_pos hk, if_pos hk]
  exact ⟨rfl, M.i.ev, fun h => by cases h⟩
 rw [if_neg hk] at hgo ⊢
 rw [if_neg hk, a2 Ya, b2 Ya]
 by_cases hl : (Qe s.B (T.at_ 1)).n ≤ (Qe s.B (T.at_ 0)).n
 ·rw [if_pos hl, if_pos hl]
  exact QfF M.i
 ·rw [if_neg hl] at hgo ⊢
  rw [if_neg hl]
  exact ⟨rfl, M.i.ev, fun _ => ⟨M.i, ⟨R, M.g, M.c⟩, hgo rfl, M.cs, Nat.le_trans (Nat.le_add_right _ 400) M.ts⟩⟩
theorem Qua {h : HH} (hg : QF h = true) (n : Int) (hl : h.cs.length + 1 ≤ 65536) : Q3 h [⟨2, n, eS⟩] = (⟨h.cs ++ [⟨2, n, eS⟩].map (Q0 h.cs.length), h.tr⟩, h.cs.length, 0) ∧ QF ⟨h.cs ++ [⟨2, n, eS⟩].map (Q0 h.cs.length), h.tr⟩ = true ∧ Blk h [⟨2, n, eS⟩] ⟨h.cs ++ [⟨2, n, eS⟩].map (Q0 h.cs.length), h.tr⟩ := by
 have hk : Q4 [⟨2, n, eS⟩] = true := by
  unfold Q4
  simp only [Bool.and_eq_true, decide_eq_true_eq, QO]
  exact ⟨by show 1 ≤ 65536; omega, QlD, trivial⟩
 have hX := Qf5 hg hk (by simpa using hl)
 refine ⟨QmG hg hk (by simpa using hl), hX, rfl, ?_, fun i hi => ?_⟩
 ·simp only [QF, Q4, Bool.and_eq_true] at hX; exact hX.1.2
 ·obtain rfl : i = 0 := by simpa using hi
  have := Qfn h [⟨2, n, eS⟩] 0 _ rfl
  exact ⟨_, Qa7 (c := ⟨2, n, eS⟩) this (by rintro ⟨h, _⟩; exact absurd h (by show ¬ (2 : Int) = 0; decide))⟩
theorem Quv {q F : Nat} {s : SS} {x : XS} {R : Tm → Int → Prop} (M : Qux q F s x R) (hcs : x.h.cs.length + 1 ≤ 300 * (x.goals + 1)) {T : Ts} {a : Int} (h0 : R (T.at_ 0) a) (h1 : R (T.at_ 1) (a + 1)) (h2 : R (T.at_ 2) (a + 2)) (hsl : s.B.length + 10100 * (mu s + 1) ≤ 1000000000) (g2 : tgd (T.at_ 2)) (hgo : (QrV T s).1 = 0 → Inv (QrV T s).2) :
  QrL q F (QrV T s) (Quw a x) := by
 obtain ⟨a1, a2⟩ := QdS M.g h0
 obtain ⟨b1, b2⟩ := QdS M.g h1
 unfold QrV at hgo ⊢
 unfold Quw
 simp only at hgo ⊢
 rw [a1, b1]
 by_cases hk : (Qe s.B (T.at_ 0)).k ≠ 2 ∨ (Qe s.B (T.at_ 1)).k ≠ 2
 ·rw [if_pos hk, if_pos hk]
  exact ⟨rfl, M.i.ev, fun h => by cases h⟩
 rw [if_neg hk] at hgo ⊢
 rw [if_neg hk, a2 Ya, b2 Ya]
 by_cases hl : (Qe s.B (T.at_ 0)).n + (Qe s.B (T.at_ 1)).n < -1099511627776 ∨ 1099511627776 < (Qe s.B (T.at_ 0)).n + (Qe s.B (T.at_ 1)).n
 ·rw [if_pos hl, if_pos hl]
  exact ⟨rfl, M.i.ev, fun h => by cases h⟩
 rw [if_neg hl] at hgo ⊢
 rw [if_neg hl]
 generalize (Qe s.B (T.at_ 0)).n + (Qe s.B (T.at_ 1)).n = n at *
 have hfu := M.i.fuel
 have hf150 := M.i.f150
 obtain ⟨l1, l2, l3⟩ := Qua M.i.gd n Ya
 rw [l1]
 have hG := M.g.num l3
 have gn : tgd ⟨2, n, ⟨#[]⟩, .nil⟩ := by
  refine ⟨?_, by simp [Ts.nodes]⟩
  simp only [Ts.good, Bool.and_eq_true, and_true]
  unfold Qa1
  rw [if_neg Yg, if_neg Yg, if_pos rfl]
  simp only [Bool.and_eq_true, decide_eq_true_eq]
  exact ⟨⟨⟨by omega, by omega⟩, Qap []⟩, rfl⟩
 have hbk := Bk.load M.i.ho l3
 have M' : Qux q F s (x.setH ⟨x.h.cs ++ [⟨2, n, eS⟩].map (Q0 x.h.cs.length), x.h.tr⟩) (fun t a => R t a ∨ (t = ⟨2, n, ⟨#[]⟩, .nil⟩ ∧ a = x.h.cs.length)) := by
  refine ⟨⟨M.i.ev, M.i.fuel, M.i.f150, M.i.q8, ?_, M.i.inv, l2, hG.bm.okb, M.i.csz, M.i.lsz, M.i.lnx⟩, hG, M.c.mono fun t a h => ⟨.inl h.1, Dr.up hG.bm.okb hbk h.2.1, h.2.2⟩, ?_, M.ts⟩
  ·have := QW.up (X := []) (h' := ⟨x.h.cs ++ [⟨2, n, eS⟩].map (Q0 x.h.cs.length), x.h.tr⟩) (show ∀ a ∈ x.h.tr, 0 ≤ a from M.i.ho.nn) hbk M.i.ch
   rwa [List.nil_append] at this
  ·show (x.h.cs ++ _).length ≤ 300 * (x.goals + 1)
   simp; omega
 exact QlL M' (.inl h2) (.inr ⟨rfl, rfl⟩) hsl g2 gn hgo
theorem Qrg {q F : Nat} {s : SS} {x : XS} {R : Tm → Int → Prop} (M : Qux q F s x R) (hcs : x.h.cs.length + 1 ≤ 300 * (x.goals + 1)) {g : Gl} {l : XL} (hg : GR R x.h g.1 l.g) (hlo : l.o = g.2) (hgd : tgd g.1) (hb : QaG g.1.s.toList g.1.ar.length = true) (hsl : s.B.length + 10100 * (mu s + 1) ≤ 1000000000) (hgo : (QbR g s).1 = 0 → Inv (QbR g s).2) :
  QrL q F (QbR g s) (QfC l x) := by
 obtain ⟨c1, c2, c3, c4, c5, c6, c7, c8⟩ := Qfv M.g hg
 have hd := Qb6 _ hgd
 have hchl := M.i.ch.len
 unfold QbR at hgo ⊢
 unfold QfC
 rw [c1]
 unfold QaG at hb
 have hb0 := hb
 by_cases h1 : g.1.s.toList = [33]
 ·rw [if_pos h1] at hgo ⊢
  rw [if_pos h1]
  have hInv := hgo rfl
  refine ⟨rfl, M.i.ev, fun _ => ⟨⟨M.i.ev, M.i.fuel, M.i.f150, M.i.q8, ?_, hInv.c, M.i.gd, M.i.ho, fun d hd => M.i.csz d (List.mem_of_mem_drop hd), ?_, M.i.lnx⟩, ⟨R, M.g, M.c⟩, hInv, M.cs, Nat.le_trans (Nat.le_add_right _ 400) M.ts⟩⟩
  ·show QW q s.fresh x.ln s.B x.h (s.ch.drop (s.ch.length - g.2)) (x.ch.drop (x.ch.length - l.o))
   rw [hlo, ← hchl]
   have key : ∀ (k : Nat) (cs : List Ch) (ds : List XC) (B : Bnd) (h : HH), HOk h → QW q s.fresh x.ln B h cs ds → QW q s.fresh x.ln B h (cs.drop k) (ds.drop k) := by
    intro k
    induction k with
    | zero => intro cs ds B h _ hc; simpa using hc
    | succ k ih =>
     intro cs ds B h ho hc
     cases cs with
     | nil =>
      cases ds with
      | nil => exact hc
      | cons _ _ => exact hc.elim
     | cons c cs =>
      cases ds with
      | nil => exact hc.elim
      | cons d ds =>
       obtain ⟨R', g', b1, b2, b3, b4, b5, b6, b7⟩ := hc
       have := ih cs ds _ _ b3.bm.okb b7
       simp only [List.drop_succ_cons]
       have e : B = B.take (B.length - c.bound) ++ Qal B c.bound := (List.take_append_drop _ _).symm
       rw [e]
       exact QW.up ho.nn b1 this
   exact key _ _ _ _ _ M.i.ho M.i.ch
  ·show x.ln.length + 5 * mu ⟨s.B, s.fresh, s.fuel, s.goals, s.ch.drop (s.ch.length - g.2), s.ev⟩ ≤ 30000
   have h1 := QgX s.ch (s.ch.length - g.2)
   have h2 := M.i.lsz
   unfold mu at *
   simp only
   omega
 rw [if_neg h1] at hgo ⊢
 rw [if_neg h1]
 by_cases h2 : g.1.s.toList = [116, 114, 117, 101]
 ·rw [if_pos h2] at hgo ⊢
  rw [if_pos h2]
  exact ⟨rfl, M.i.ev, fun _ => ⟨M.i, ⟨R, M.g, M.c⟩, hgo rfl, M.cs, Nat.le_trans (Nat.le_add_right _ 400) M.ts⟩⟩
 rw [if_neg h2] at hgo ⊢
 rw [if_neg h2]
 have at0 : ∀ {i : Nat}, i < g.1.ar.length → R (g.1.ar.at_ i) (l.g + 1 + (i : Nat)) := fun hi => c7 hi
 by_cases h3 : g.1.s.toList = [101, 113]
 ·rw [if_pos h3] at hgo ⊢
  rw [if_pos h3]
  rw [h3] at hb0
  have hl : g.1.ar.length = 2 := by simpa using hb0
  have r0 := at0 (i := 0) Ya
  have r1 := at0 (i := 1) Ya
  rw [show l.g + 1 + ((0 : Nat) : Int) = l.g + 1 by omega] at r0
  rw [show l.g + 1 + ((1 : Nat) : Int) = l.g + 1 + 1 by omega] at r1
  exact QlL M r0 r1 hsl (hd _ (Ts.at_mem Ya)) (hd _ (Ts.at_mem Ya)) hgo
 rw [if_neg h3] at hgo ⊢
 rw [if_neg h3]
 by_cases h4 : g.1.s.toList = [108, 101, 115, 115]
 ·rw [if_pos h4] at hgo ⊢
  rw [if_pos h4]
  rw [h4] at hb0
  have hl : g.1.ar.length = 2 := by simpa using hb0
  have r0 := at0 (i := 0) Ya
  have r1 := at0 (i := 1) Ya
  rw [show l.g + 1 + ((0 : Nat) : Int) = l.g + 1 by omega] at r0
  rw [show l.g + 1 + ((1 : Nat) : Int) = l.g + 1 + 1 by omega] at r1
  exact QsE M r0 r1 hgo
 rw [if_neg h4] at hgo ⊢
 rw [if_neg h4]
 by_cases h5 : g.1.s.toList = [97, 100, 100]
 ·rw [if_pos h5] at hgo ⊢
  rw [if_pos h5]
  rw [h5] at hb0
  have hl : g.1.ar.length = 3 := by simpa using hb0
  have r0 := at0 (i := 0) Ya
  have r1 := at0 (i := 1) Ya
  have r2 := at0 (i := 2) Ya
  rw [show l.g + 1 + ((0 : Nat) : Int) = l.g + 1 by omega] at r0
  rw [show l.g + 1 + ((1 : Nat) : Int) = l.g + 1 + 1 by omega] at r1
  rw [show l.g + 1 + ((2 : Nat) : Int) = l.g + 1 + 2 by omega] at r2
  exact Quv M hcs r0 r1 r2 hsl (hd _ (Ts.at_mem Ya)) hgo
 rw [if_neg h5] at hgo ⊢
 rw [if_neg h5]
 exact QfF M.i
theorem QqE {X : Type} {g : X → Nat → Option (Tm × Nat)} (hg : ∀ x m p, g x m = some p → p.2 ≤ m) : ∀ (l : List X) (m : Nat) (p : Ts × Nat), Qer g l m = some p → p.2 ≤ m
 | [], m, p, h => by simp only [Qer, Option.some.injEq] at h; subst h; exact Nat.le_refl _
 | x :: r, m, p, h => by
  simp only [Qer] at h
  cases h1 : g x m with
  | none => rw [h1] at h; cases h
  | some q =>
   rw [h1] at h
   obtain ⟨t, l'⟩ := q
   dsimp only at h
   have e1 := hg x m _ h1
   cases h2 : Qer g r l' with
   | none => rw [h2] at h; cases h
   | some z =>
    rw [h2] at h
    have e2 := QqE hg r l' z h2
    obtain ⟨T, l''⟩ := z
    simp only [Option.some.injEq] at h
    subst h
    dsimp only at *
    omega
theorem QqF {X : Type} {g g' : X → Nat → Option (Tm × Nat)} {n : Nat} (hle : ∀ x m p, g x m = some p → p.2 ≤ m) (hg : ∀ x m, m ≤ n → g x m = g' x m) : ∀ (l : List X) (m : Nat), m ≤ n → Qer g l m = Qer g' l m
 | [], m, _ => rfl
 | x :: r, m, hm => by
  simp only [Qer]
  rw [← hg x m hm]
  cases h1 : g x m with
  | none => rfl
  | some q =>
   have e1 := hle x m _ h1
   obtain ⟨t, l'⟩ := q
   dsimp only at e1 ⊢
   rw [QqF hle hg r l' Ya]
theorem QrA {A : Sy} {σ : A.S} : ∀ (f : Nat) (x : A.X) (l : Nat) (p : Tm × Nat), Qgx A σ f x l = some p → p.2 < l
 | 0, x, l, p, h => by cases h
 | f + 1, x, l, p, h => by
  by_cases hl : l = 0
  ·subst hl; rw [QlZ] at h; cases h
  cases hv : A.view σ x with
  | var u => rw [QgZ hl hv] at h; cases h; show l - 1 < l; omega
  | node k n s ar =>
   rw [QfE hl hv] at h
   cases h2 : Qer (Qgx A σ f) ar (l - 1) with
   | none => rw [h2] at h; cases h
   | some z =>
    rw [h2] at h
    have := QqE (fun x m p hp => Nat.le_of_lt (QrA f x m p hp)) ar (l - 1) z h2
    simp only [Option.map_some, Option.some.injEq] at h
    subst h
    show z.2 < l; omega
theorem Qog {A : Sy} {σ : A.S} : ∀ (f g : Nat) (x : A.X) (l : Nat), l ≤ f → l ≤ g → Qgx A σ f x l = Qgx A σ g x l
 | f, g, x, l, hf, hg => by
  by_cases hl : l = 0
  ·subst hl
   cases f <;> cases g <;> simp [Qgx]
  obtain ⟨f, rfl⟩ : ∃ f', f = f' + 1 := ⟨f - 1, by omega⟩
  obtain ⟨g, rfl⟩ : ∃ g', g = g' + 1 := ⟨g - 1, by omega⟩
  cases hv : A.view σ x with
  | var u => rw [QgZ hl hv, QgZ hl hv]
  | node k n s ar =>
   rw [QfE hl hv, QfE hl hv, QqF (n := l - 1) (fun x m p hp => Nat.le_of_lt (QrA f x m p hp)) (fun y m hm => Qog f g y m Ya Ya) ar (l - 1) (Nat.le_refl _)]
 termination_by f => f
theorem Qr9 {h : HH} (hg : QF h = true) (ho : HOk h) {a : Int} (ha : Qj h.cs a = true) {l : Nat} (hl : l ≤ 200) : Qbg h a (l : Nat) = match Qie h 201 a l with
  | none => (Qet, 0, 3)
  | some p => (p.1, l - p.2, 0) := by
 unfold Qbg
 rw [if_neg (by rw [hg]; decide), if_neg (by rw [ha]; decide)]
 have e : QjT (l : Nat) = l := by unfold QjT; omega
 rw [e, Qtc ho l a l ha, show Qie h l a l = Qie h 201 a l from Qog (A := QeY) l 201 a l (Nat.le_refl _) Ya]
 cases Qie h 201 a l <;> rfl
theorem QiI {q f : Nat} {B : Bnd} {h : HH} {R : Tm → Int → Prop} (H : Qgf q f B h R) (hB : ∀ x ∈ B, tgd x.2) (hg : QF h = true) (hq : q ≤ 8) : ∀ (m v l : Nat), v + m ≤ q → l ≤ 200 →
  Qu0 (fun (p : Ts × Nat) (r : Ts × Int) => (p.2 : Int) = r.2 ∧ TsR (Bm.rho Qkz QeY R B h) p.1 r.1) (Qby B m v l) (Qch h m v (l : Nat))
 | 0, v, l, _, _ => ⟨rfl, .nil⟩
 | m + 1, v, l, hv, hl => by
  have hr := H.qv v Ya
  have da : Qj h.cs (v : Nat) = true := H.bm.db hr
  simp only [Qby, Qch]
  rw [QtA hB 201 _ l (Qvb Ya), Qr9 hg H.bm.okb da hl]
  have h1 : Qu0 (TmR (Bm.rho Qkz QeY R B h)) (Qgx Qkz B 201 ⟨0, (v : Nat), ⟨#[]⟩, .nil⟩ l) (Qie h 201 (v : Nat) l) := Qrz H.bm (fun {x k n s ar} hx _ => (Qd5 (B := B) hx).2.1) 201 ⟨0, (v : Nat), ⟨#[]⟩, .nil⟩ ((v : Nat) : Int) l hr
  cases e1 : Qgx Qkz B 201 ⟨0, (v : Nat), ⟨#[]⟩, .nil⟩ l with
  | none =>
   cases e2 : Qie h 201 (v : Nat) l with
   | none => dsimp only; rw [if_pos (by show (3 : Int) ≠ 0; decide)]; trivial
   | some p => rw [e1, e2] at h1; exact h1.elim
  | some p =>
   cases e2 : Qie h 201 (v : Nat) l with
   | none => rw [e1, e2] at h1; exact h1.elim
   | some r =>
    rw [e1, e2] at h1
    have hlt := QrA (A := QeY) 201 ((v : Nat) : Int) l r e2
    obtain ⟨p1, p2⟩ := p
    obtain ⟨r1, r2⟩ := r
    obtain ⟨rfl, h3⟩ : p2 = r2 ∧ _ := h1
    dsimp only at hlt ⊢
    have h4 := QiI H hB hg hq m (v + 1) p2 Ya Ya
    rw [if_neg (by show ¬ ((0 : Int) ≠ 0); decide), show ((l : Nat) : Int) - ((l - p2 : Nat) : Int) = (p2 : Nat) by omega]
    cases e3 : Qby B m (v + 1) p2 with
    | none =>
     cases e4 : Qch h m (v + 1) (p2 : Nat) with
     | none => trivial
     | some q => rw [e3, e4] at h4; exact h4.elim
    | some p' =>
     cases e4 : Qch h m (v + 1) (p2 : Nat) with
     | none => rw [e3, e4] at h4; exact h4.elim
     | some q' =>
      rw [e3, e4] at h4
      exact ⟨h4.1, h3.put h4.2⟩
theorem Qpk {q F : Nat} {s : SS} {x : XS} (H : Qil q F s x) : QrL q F (QbZ q s) (QcE q x) := by
 obtain ⟨R, hG, hC⟩ := H.cur
 have hv := QiI hG H.i.inv.gb H.i.gd H.i.q8 q 0 200 Ya Ya
 unfold QbZ QcE
 rw [show ((200 : Nat) : Int) = 200 from rfl] at hv
 cases e1 : Qby s.B q 0 200 with
 | none =>
  cases e2 : Qch x.h q 0 200 with
  | some y => rw [e1, e2] at hv; exact hv.elim
  | none => exact ⟨rfl, H.i.ev, fun h => by cases h⟩
 | some y =>
  cases e2 : Qch x.h q 0 200 with
  | none => rw [e1, e2] at hv; exact hv.elim
  | some z =>
   obtain ⟨T, l⟩ := y
   obtain ⟨U, l'⟩ := z
   rw [e1, e2] at hv
   have ht : U.tidy = T.tidy := (Qr7 (fun u v u' v' a b => hG.bm.inj a b) hv.2 [] [] .nil).1.symm
   dsimp only
   have hev : (x.tell U).ev = s.ev ++ [T.tidy] := by show x.ev ++ [U.tidy] = _; rw [ht, H.i.ev]
   have hlen : x.ev.length + 1 = (s.ev ++ [T.tidy]).length := by rw [H.i.ev]; simp
   rw [hlen]
   by_cases h12 : (s.ev ++ [T.tidy]).length = 12
   ·rw [if_pos h12, if_pos h12]
    exact ⟨rfl, hev, fun h => by cases h⟩
   ·rw [if_neg h12, if_neg h12]
    exact QfF ⟨hev, H.i.fuel, H.i.f150, H.i.q8, H.i.ch, ⟨H.i.inv.bok, H.i.inv.gb, H.i.inv.ch, H.i.inv.fr, H.i.inv.bl⟩, H.i.gd, H.i.ho, H.i.csz, H.i.lsz, H.i.lnx⟩
theorem Quk {q f : Nat} {B : Bnd} {h : HH} {R : Tm → Int → Prop} (H : Qgf q f B h R) {t : Tm} {a : Int} (ht : GR R h t a) (P : List Cl) (hP : ∀ c ∈ P, cB c = true) : P.filter (fun c => decide (QhS c = Qbi h a)) = P.filter (QeT t) := by
 obtain ⟨c1, c2, c3, c4, c5, c6, _, c8⟩ := Qfv H ht
 have hgc := QP (Qak H.bm.okb.gl c8)
 refine List.filter_congr fun c hc => ?_
 obtain ⟨_, _, _, _, h4⟩ := Qgw (hP c hc)
 simp only [gB, Qh1, Bool.and_eq_true, Bool.or_eq_true, decide_eq_true_eq] at h4
 obtain ⟨hn, _, _⟩ := QbP h4.1.2
 unfold QeT
 rw [← c1, ← c2]
 generalize Qbi h a = g at *
 obtain ⟨gk, gn, gs⟩ := g
 dsimp only at *
 have key : QhS c = ⟨gk, gn, gs⟩ ↔ c.s = gs ∧ c.hd.length = gn.toNat := by
  unfold QhS Qdj
  rcases Qea hn with ⟨k0, _⟩ | ⟨k0, h0, h1, h2⟩ | ⟨k0, _⟩ | ⟨k0, h0, h1, h2, h3⟩
  ·rcases h4.1.1 with h | h <;> omega
  ·rw [if_neg Ya, if_neg Ya, if_neg Ya]
   simp only [HC.mk.injEq]
   constructor
   ·rintro ⟨e1, e2, e3⟩; exact ⟨e3, by omega⟩
   ·rintro ⟨e1, e2⟩
    rcases c4 with e | e
    ·exact ⟨e.symm, by omega, e1⟩
    ·omega
  ·rcases h4.1.1 with h | h <;> omega
  ·rw [if_pos k0]
   simp only [HC.mk.injEq]
   constructor
   ·rintro ⟨e1, e2, e3⟩; exact ⟨e3, by omega⟩
   ·rintro ⟨e1, e2⟩
    rcases c4 with e | e
    ·have := c6 e; omega
    ·exact ⟨e.symm, by omega, e1⟩
 by_cases hh : QhS c = ⟨gk, gn, gs⟩
 ·obtain ⟨e1, e2⟩ := key.1 hh
  rw [decide_eq_true hh, decide_eq_true e1, decide_eq_true e2]; rfl
 ·rw [decide_eq_false hh]
  by_cases e1 : c.s = gs
  ·rw [decide_eq_true e1, decide_eq_false fun e2 => hh (key.2 ⟨e1, e2⟩)]; rfl
  ·rw [decide_eq_false e1]; rfl
theorem QsW {q F : Nat} {P : List Cl} {s : SS} {x : XS} {R : Tm → Int → Prop} {g : Gl} {a : Nat} (M : Qux q F s x R) (hcs : x.h.cs.length ≤ 300 * x.goals) (hP : ∀ c ∈ P, cB c = true) (hC : Qag (GR R x.h) x.ln (a : Nat) (g :: s.goals))
  (hpush : ∀ c cs, P.filter (QeT g.1) = c :: cs → QeZ ⟨s.B, s.fresh, s.fuel, s.goals, ⟨g, s.goals, c :: cs, s.B.length⟩ :: s.ch, s.ev⟩ ∧ x.ln.length + 5 * mu ⟨s.B, s.fresh, s.fuel, s.goals, ⟨g, s.goals, c :: cs, s.B.length⟩ :: s.ch, s.ev⟩ ≤ 30000) :
  QrL q F (match P.filter (QeT g.1) with
   | [] => (5, s)
   | c :: cs => QaO ⟨s.B, s.fresh, s.fuel, s.goals, ⟨g, s.goals, c :: cs, s.B.length⟩ :: s.ch, s.ev⟩) (Qkk P a x) := by
 obtain ⟨l, k1, k2, k3, k4, k5, k6⟩ := hC.first
 unfold Qkk
 rw [k2, Quk M.g k3 P hP]
 cases hf : P.filter (QeT g.1) with
 | nil => exact ⟨rfl, M.i.ev, fun h => by cases h⟩
 | cons c cs =>
  obtain ⟨p1, p2⟩ := hpush c cs hf
  dsimp only
  have hub : Qal s.B s.B.length = s.B := by unfold Qal; rw [Nat.sub_self]; rfl
  refine Qm0 (cs := s.ch) (fun n s x h1 h2 h3 h4 => Qmw _ _ n s x h1 h2 h3 h4) (bd := s.B.length) (cg := g) (next := s.goals) (c :: cs) _ _ x rfl rfl p1 M.i.ev M.i.fuel M.i.f150 M.i.q8 M.i.gd M.i.csz p2 M.i.lnx (Nat.le_refl _) ?_ ?_ rfl rfl hcs M.ts (Nat.lt_succ_self _)
  ·dsimp only; rw [hub]; exact M.i.ch
  ·dsimp only; rw [hub]; exact ⟨R, M.g, hC⟩
structure Sn (L : List XL) (e : Int) (p : List Bool × List Nat) : Prop where
 len : p.1.length = L.length
 mem : ∀ k : Nat, p.1[k]? = some true ↔ k ∈ p.2
 lt : ∀ k ∈ p.2, k < L.length
 clo : ∀ k ∈ p.2, (lnk L k).nx = -1 ∨ (lnk L k).nx.toNat ∈ p.2 ∨ (lnk L k).nx = e
theorem Sn.any {L : List XL} {p : List Bool × List Nat} (h : Sn L (-1) p) (e : Int) : Sn L e p := ⟨h.len, h.mem, h.lt, fun k hk => by
 rcases h.clo k hk with h | h | h
 ·exact .inl h
 ·exact .inr (.inl h)
 ·exact .inl h⟩
theorem Qki {L : List XL} (hL : ∀ (i : Nat) (l : XL), L[i]? = some l → -1 ≤ l.nx ∧ l.nx < (i : Int)) : ∀ (f : Nat) (i : Int) (p : List Bool × List Nat), -1 ≤ i → i < L.length → i < (f : Int) → Sn L i p →
  Sn L (-1) (Qay L f i p) ∧ (∀ k ∈ p.2, k ∈ (Qay L f i p).2) ∧ (i = -1 ∨ i.toNat ∈ (Qay L f i p).2)
 | 0, i, p, h0, h1, hf, hs => by
  obtain rfl : i = -1 := by omega
  exact ⟨hs, fun k hk => hk, .inl rfl⟩
 | f + 1, i, p, h0, h1, hf, hs => by
  simp only [Qay]
  by_cases hi : i = -1
  ·rw [if_pos hi]
   subst hi
   exact ⟨hs, fun k hk => hk, .inl rfl⟩
  rw [if_neg hi]
  by_cases hse : p.1[i.toNat]? = some true
  ·rw [if_pos hse]
   have hm := (hs.mem _).1 hse
   refine ⟨⟨hs.len, hs.mem, hs.lt, fun k hk => ?_⟩, fun k hk => hk, .inr hm⟩
   rcases hs.clo k hk with h | h | h
   ·exact .inl h
   ·exact .inr (.inl h)
   ·exact .inr (.inl (by rw [h]; exact hm))
  rw [if_neg hse]
  have hil : i.toNat < L.length := by omega
  obtain ⟨n0, n1⟩ := hL i.toNat _ (List.getElem?_eq_getElem hil)
  have hlk : lnk L i.toNat = L[i.toNat] := Qjf (List.getElem?_eq_getElem hil)
  have hs' : Sn L (lnk L i.toNat).nx (p.1.set i.toNat true, p.2 ++ [i.toNat]) := by
   refine ⟨by simp [hs.len], fun k => ?_, fun k hk => ?_, fun k hk => ?_⟩
   ·rw [List.getElem?_set]
    by_cases e : i.toNat = k
    ·subst e
     rw [if_pos rfl, if_pos (by rw [hs.len]; exact hil)]
     simp
    ·rw [if_neg e, hs.mem]
     simp only [List.mem_append, List.mem_singleton]
     constructor
     ·exact .inl
     ·rintro (h | h)
      ·exact h
      ·exact absurd h.symm e
   ·rcases List.mem_append.1 hk with hk | hk
    ·exact hs.lt k hk
    ·rw [List.mem_singleton.1 hk]; exact hil
   ·rcases List.mem_append.1 hk with hk | hk
    ·rcases hs.clo k hk with h | h | h
     ·exact .inl h
     ·exact .inr (.inl (List.mem_append_left _ h))
     ·exact .inr (.inl (by rw [h]; exact List.mem_append_right _ (List.mem_singleton.2 rfl)))
    ·rw [List.mem_singleton.1 hk]; exact .inr (.inr rfl)
  obtain ⟨a1, a2, a3⟩ := Qki hL f (lnk L i.toNat).nx _ (by rw [hlk]; exact n0) (by rw [hlk]; omega) (by rw [hlk]; omega) hs'
  exact ⟨a1, fun k hk => a2 k (List.mem_append_left _ hk), .inr (a2 _ (List.mem_append_right _ (List.mem_singleton.2 rfl)))⟩
theorem QlQ {L : List XL} (hL : ∀ (i : Nat) (l : XL), L[i]? = some l → -1 ≤ l.nx ∧ l.nx < (i : Int)) : ∀ (C : List XC) (p : List Bool × List Nat), (∀ c ∈ C, c.at_ < L.length) → Sn L (-1) p →
  Sn L (-1) (QbY L C p) ∧ (∀ k ∈ p.2, k ∈ (QbY L C p).2) ∧ ∀ c ∈ C, c.at_ ∈ (QbY L C p).2
 | [], p, _, hs => ⟨hs, fun k hk => hk, fun c hc => by cases hc⟩
 | c :: r, p, hC, hs => by
  have hc := hC c (List.mem_cons_self ..)
  obtain ⟨a1, a2, a3⟩ := Qki hL (L.length + 1) (c.at_ : Nat) p Ya Ya Ya (hs.any _)
  obtain ⟨b1, b2, b3⟩ := QlQ hL r _ (fun c hc => hC c (List.mem_cons_of_mem _ hc)) a1
  refine ⟨b1, fun k hk => b2 k (a2 k hk), fun d hd => ?_⟩
  rcases List.mem_cons.1 hd with rfl | hd
  ·rcases a3 with h | h
   ·omega
   ·rw [Int.toNat_natCast] at h; exact b2 _ h
  ·exact b3 d hd
theorem Qhi (f : Nat → Int) : ∀ (I : List Nat) (L : List XL) (k : Nat), (Qdo I (I.map f) L)[k]? = if k ∈ I then (L[k]?).map (fun l => ⟨f k, l.o, l.nx⟩) else L[k]?
 | [], L, k => by simp [Qdo]
 | i :: r, L, k => by
  simp only [List.map_cons, Qdo]
  rw [Qhi f r (Qpr L i (f i)) k]
  have e : (Qpr L i (f i))[k]? = if i = k then (L[k]?).map (fun l => ⟨f i, l.o, l.nx⟩) else L[k]? := by
   unfold Qpr
   rw [List.getElem?_modify]
   split <;> simp
  rw [e]
  by_cases hk : k ∈ r
  ·rw [if_pos hk, if_pos (List.mem_cons_of_mem _ hk)]
   by_cases he : i = k
   ·subst he; rw [if_pos rfl, Option.map_map]; rfl
   ·rw [if_neg he]
  ·rw [if_neg hk]
   by_cases he : i = k
   ·subst he; rw [if_pos rfl, if_pos (List.mem_cons_self ..)]
   ·rw [if_neg he, if_neg (by rintro h; rcases List.mem_cons.1 h with h | h; exact he h.symm; exact hk h)]
theorem Qhj (f g : XC → Int) : ∀ C : List XC, Qsi C (C.map f) (C.map g) = C.map fun c => ⟨c.at_, c.cls, (f c).toNat, (g c).toNat⟩
 | [] => rfl
 | c :: r => by simp only [List.map_cons, Qsi, Qhj f g r]
theorem Sn.start (L : List XL) (e : Int) : Sn L e (List.replicate L.length false, []) := by
 refine ⟨by simp, fun k => ?_, fun k hk => (by cases hk), fun k hk => (by cases hk)⟩
 constructor
 ·intro h
  rw [List.getElem?_replicate] at h
  split at h <;> cases h
 ·intro h; cases h
structure Qu8 (L : List XL) (I : List Nat) : Prop where
 lt : ∀ k ∈ I, k < L.length
 clo : ∀ k ∈ I, (lnk L k).nx = -1 ∨ (lnk L k).nx.toNat ∈ I
theorem QqO {x : XS} (hL : ∀ (i : Nat) (l : XL), x.ln[i]? = some l → -1 ≤ l.nx ∧ l.nx < (i : Int)) (h0 : -1 ≤ x.first) (h1 : x.first < x.ln.length) (hC : ∀ c ∈ x.ch, c.at_ < x.ln.length) :
  Qu8 x.ln (QbO x) ∧ (x.first = -1 ∨ x.first.toNat ∈ QbO x) ∧ ∀ c ∈ x.ch, c.at_ ∈ QbO x := by
 obtain ⟨a1, a2, a3⟩ := Qki hL (x.ln.length + 1) x.first (List.replicate x.ln.length false, []) h0 h1 Ya (Sn.start _ _)
 obtain ⟨b1, b2, b3⟩ := QlQ hL x.ch.reverse _ (fun c hc => hC c (List.mem_reverse.1 hc)) a1
 refine ⟨⟨b1.lt, fun k hk => ?_⟩, a3.imp id fun h => b2 _ h, fun c hc => b3 c (List.mem_reverse.2 hc)⟩
 rcases b1.clo k hk with h | h | h
 ·exact .inl h
 ·exact .inr h
 ·exact .inl h
theorem Qag.coll {R R' : Tm → Int → Prop} {L : List XL} {I : List Nat} {f : Nat → Int} (hI : Qu8 L I) (hR : ∀ k ∈ I, ∀ t, R t (lnk L k).g → R' t (f k)) : ∀ {i : Int} {G : List Gl}, Qag R L i G → (i = -1 ∨ i.toNat ∈ I) → Qag R' (Qdo I (I.map f) L) i G
 | _, [], hc, _ => hc
 | _, g :: r, ⟨k, l, h1, h2, h3, h4, h5, h6⟩, hi => by
  have hk : k ∈ I := by
   rcases hi with h | h
   ·omega
   ·rw [h1, Int.toNat_natCast] at h; exact h
  have hl := Qjf h2
  refine ⟨k, ⟨f k, l.o, l.nx⟩, h1, by rw [Qhi, if_pos hk, h2]; rfl, hR k hk _ (by rw [hl]; exact h3), h4, h5, Qag.coll hI hR h6 ?_⟩
  have := hI.clo k hk
  rwa [hl] at this
theorem Qag.all {R : Tm → Int → Prop} {L : List XL} {I : List Nat} (hI : Qu8 L I) : ∀ {i : Int} {G : List Gl}, Qag R L i G → -1 ≤ i ∧ i < L.length
 | _, [], hc => by
  have hc : _ = (-1 : Int) := hc
  subst hc; omega
 | _, g :: r, ⟨k, l, h1, h2, _⟩ => by
  subst h1
  have : k < L.length := by
   rcases Nat.lt_or_ge k L.length with h | h
   ·exact h
   ·rw [List.getElem?_eq_none h] at h2; cases h2
  omega
theorem Qag.bd {R : Tm → Int → Prop} {L : List XL} {i : Int} {G : List Gl} (h : Qag R L i G) : -1 ≤ i ∧ i < L.length := h.all (I := []) ⟨fun k hk => (by cases hk), fun k hk => (by cases hk)⟩
theorem QW.at_lt {q f : Nat} {L : List XL} : ∀ {B : Bnd} {h : HH} {cs : List Ch} {ds : List XC}, QW q f L B h cs ds → ∀ d ∈ ds, d.at_ < L.length
 | _, _, [], [], _, d, hd => by cases hd
 | _, _, c :: cs, e :: ds, ⟨R, g, _, _, _, h4, _, _, h6⟩, d, hd => by
  rcases List.mem_cons.1 hd with rfl | hd
  ·have := h4.bd; omega
  ·exact h6.at_lt d hd
theorem Qp6 (M : List Bool) (n : Nat) : rk M n ≤ n := by
 unfold rk
 exact Nat.le_trans List.count_le_length (by rw [List.length_take]; omega)
theorem QnA {M : List Bool} {q : Nat} : (∀ v, v < q → M[v]? = some true) → ∀ v, v ≤ q → rk M v = v := by
 intro h v
 induction v with
 | zero => intro _; exact Qmv M
 | succ v ih =>
  intro hv
  rw [Qhy (h v Ya), ih Ya]; rfl
section
variable {h : HH} {Q : List Int} {M : List Bool}
theorem QW.coll {q f : Nat} {L : List XL} {I : List Nat} {rb : Nat → Nat} (hI : Qu8 L I) (hq : ∀ v, v < q → M[v]? = some true) : ∀ {B : Bnd} {h : HH} {Q : List Int} {cs : List Ch} {ds : List XC} {M' : List Bool}, Cx h Q M' → HOk h → (∀ a : Int, 0 ≤ a → a < h.cs.length → (M'[a.toNat]? = M[a.toNat]?) ∧ rkI M' a = rkI M a) → (∀ n, n ≤ h.cs.length → rk M' n = rk M n) → (∀ n, n ≤ h.tr.length → rk (h.tr.map (Qs M')) n = rb n) →
  (∀ k ∈ I, ∀ a, a = (lnk L k).g → Qj h.cs a = true → M[a.toNat]? = some true) → (∀ d ∈ ds, d.at_ ∈ I) → QW q f L B h cs ds →
  QW q f (Qdo I (I.map fun k => rkI M (lnk L k).g) L) B (Qdq M' h) cs (ds.map fun d => ⟨d.at_, d.cls, rk M d.cells, rb d.bound⟩)
 | _, _, _, [], [], _, _, _, _, _, _, _, _, _ => trivial
 | B, h, Q, c :: cs, d :: ds, M', C, ho, hM, hM2, hM5, hg, hat, ⟨R, g, b1, b2, b3, b4, b5, b6, b7⟩ => by
  have S := Qtr C ho b1 b2
  have bc := Bk.coll C ho b1 b2
  obtain ⟨l1, l2⟩ := b1.len
  have ht := b1.ht
  have hn := b1.hn
  have hM3 : ∀ a : Int, 0 ≤ a → a < g.cs.length → ((M'.take d.cells)[a.toNat]? = M[a.toNat]?) ∧ rkI (M'.take d.cells) a = rkI M a := fun a a0 a1 => by
   obtain ⟨e1, e2⟩ := hM a a0 Ya
   rw [List.getElem?_take, if_pos Ya, QgJ Ya]
   exact ⟨e1, e2⟩
  have hM4 : ∀ n, n ≤ g.cs.length → rk (M'.take d.cells) n = rk M n := fun n hn => by rw [QjO Ya]; exact hM2 n Ya
  have root : ∀ a : Int, Qj g.cs a = true → M[a.toNat]? = some true → Rc g.cs (Qhx M' d.cells) a := fun a ha hm => by
   obtain ⟨a0, a1⟩ := Ql.1 ha
   exact .root (QeI.2 ⟨a0, by omega, by rw [(hM a a0 Ya).1]; exact hm⟩) ha
  have hg3 := b3.coll S (fun v hv => by
   have da : Qj g.cs ((v : Nat) : Int) = true := b3.bm.db (b3.qv v hv)
   obtain ⟨a0, a1⟩ := Ql.1 da
   refine ⟨root _ da (by rw [Int.toNat_natCast]; exact hq v hv), ?_⟩
   rw [hM4 v Ya]
   exact QnA hq v Ya)
  have hgtr : g.tr = h.tr.take d.bound := by rw [b1.eq]
  have hM6 : ∀ n, n ≤ g.tr.length → rk (g.tr.map (Qs (M'.take d.cells))) n = rb n := fun n hn' => by
   rw [← hM5 n Ya, QdI, QdI]
   have e2 : g.tr.take n = h.tr.take n := by rw [hgtr, List.take_take, Nat.min_eq_left Ya]
   rw [e2]
   congr 1
   refine List.filter_congr fun a ha => ?_
   obtain ⟨x, hx, _⟩ := b3.bm.okb.pos (a := a) (by rw [hgtr]; exact (List.take_sublist_take_left Ya).subset ha)
   obtain ⟨a0, a1, _⟩ := Qba.1 hx
   unfold Qs
   rw [List.getElem?_take, if_pos Ya]
  simp only [List.map_cons]
  refine ⟨_, Qdq (M'.take d.cells) g, by rw [← hM2 d.cells Ya, ← hM5 d.bound hn]; exact bc, S.kept_good, hg3, ?_, b5, b6, ?_⟩
  ·refine Qag.coll hI (fun k hk t ht => ?_) b4 (.inr (by rw [Int.toNat_natCast]; exact hat d (List.mem_cons_self ..)))
   have da : Qj g.cs (lnk L k).g = true := b3.bm.db ht.1
   obtain ⟨a0, a1⟩ := Ql.1 da
   have hm := hg k hk _ rfl (Ql.2 ⟨a0, by omega⟩)
   have := GR.coll S (root _ da hm) ht
   rwa [(hM3 _ a0 a1).2] at this
  ·have ih := QW.coll hI hq (M' := M'.take d.cells) S b3.bm.okb hM3 hM4 hM6 (fun k hk a e ha => hg k hk a e (by
    obtain ⟨a0, a1⟩ := Ql.1 ha
    exact Ql.2 ⟨a0, by omega⟩)) (fun d hd => hat d (List.mem_cons_of_mem _ hd)) b7
   exact ih
end
end Go.Proofs.YthliapbflkfdiacGreatDoor
