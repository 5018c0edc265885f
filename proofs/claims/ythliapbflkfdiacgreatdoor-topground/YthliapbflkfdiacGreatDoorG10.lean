/- SWalk4, SWalk5, TidyBy, Tidy, SInv, SMem3: texts that follow one another, laid into one file. -/
import Derived.Test.YthliapbflkfdiacGreatDoorZ0
import Derived.Test.YthliapbflkfdiacGreatDoorG9
import Derived.Test.YthliapbflkfdiacGreatDoorG7
import Derived.Test.YthliapbflkfdiacGreatDoorG3
import Derived.Test.YthliapbflkfdiacGreatDoorG8
namespace Go.Proofs.YthliapbflkfdiacGreatDoor
open Go.RowKit
set_option linter.unusedVariables false
set_option linter.unusedSimpArgs false
set_option maxRecDepth 100000
set_option maxHeartbeats 1000000
section
variable {M : List Nat} {w0 : World} {H : List (Nat × Obj)} {F : List (World → Prop)}
end
theorem QhG (g : Tm → Nat → Option (Tm × Nat)) (k n : Int) (s : ByteArray) (a r : Ts) (l : Nat) : Qie g (.cons k n s a r) l = (g ⟨k, n, s, a⟩ l).bind fun p => (Qie g r p.2).map fun q => (.cons p.1.k p.1.n p.1.s p.1.ar q.1, q.2) := by
 simp only [Qie]
 cases g ⟨k, n, s, a⟩ l with
 | none => rfl
 | some p =>
  simp only [Option.bind_some]
  cases Qie g r p.2 <;> rfl
theorem Qh8 (B : Bnd) (f : Nat) (t : Tm) (l : Nat) : Qjr B (f + 1) t l = if l = 0 then none else (Qie (Qjr B f) (Qg B t).ar (l - 1)).map fun p => (⟨(Qg B t).k, (Qg B t).n, (Qg B t).s, p.1⟩, p.2) := by
 simp only [Qjr]
 split
 ·rfl
 ·cases Qie (Qjr B f) (Qg B t).ar (l - 1) <;> rfl
theorem Qi4 {g : Tm → Nat → Option (Tm × Nat)} (hg : ∀ t l p, g t l = some p → p.1.ar.nodes + 1 + p.2 = l) : ∀ (T : Ts) (l : Nat) (p : Ts × Nat), Qie g T l = some p → p.1.nodes + p.2 = l ∧ p.1.length = T.length
 | .nil, l, p, h => by
  simp only [Qie, Option.some.injEq] at h
  subst h
  exact ⟨by simp [Ts.nodes], rfl⟩
 | .cons k n s a r, l, p, h => by
  rw [QhG] at h
  cases h1 : g ⟨k, n, s, a⟩ l with
  | none => rw [h1] at h; cases h
  | some q =>
   rw [h1, Option.bind_some] at h
   cases h2 : Qie g r q.2 with
   | none => rw [h2] at h; cases h
   | some x =>
    rw [h2, Option.map_some, Option.some.injEq] at h
    subst h
    have := hg _ _ _ h1
    obtain ⟨i1, i2⟩ := Qi4 hg r q.2 x h2
    simp only [Ts.nodes, Ts.length]
    omega
theorem QlQ {B : Bnd} : ∀ (f : Nat) (t : Tm) (l : Nat) (p : Tm × Nat), Qjr B f t l = some p → p.1.ar.nodes + 1 + p.2 = l
 | 0, t, l, p, h => by cases h
 | f + 1, t, l, p, h => by
  rw [Qh8] at h
  by_cases h0 : l = 0
  ·rw [if_pos h0] at h; cases h
  ·rw [if_neg h0] at h
   cases h1 : Qie (Qjr B f) (Qg B t).ar (l - 1) with
   | none => rw [h1] at h; cases h
   | some q =>
    rw [h1, Option.map_some, Option.some.injEq] at h
    subst h
    have := (Qi4 (fun t l p h => QlQ f t l p h) _ _ _ h1).1
    show q.1.nodes + 1 + q.2 = l
    omega
section
variable {M : List Nat} {w0 : World} {H : List (Nat × Obj)} {F : List (World → Prop)}
end
def Ts.vars (P : Int → Prop) : Ts → Prop
 | .nil => True
 | .cons k n _ ar r => (k = 0 → P n) ∧ ar.vars P ∧ r.vars P
theorem Qs5 {n : Int} : ∀ {ks : List Int} {j : Nat}, pos n ks = some j → j < ks.length
 | [], _, h => by cases h
 | k :: r, j, h => by
  rw [pos] at h
  by_cases e : n = k
  ·rw [if_pos e] at h; cases h; simp
  ·rw [if_neg e] at h
   cases hp : pos n r with
   | none => rw [hp] at h; cases h
   | some i =>
    rw [hp] at h
    cases h
    have := Qs5 hp
    simp; omega
def Ts.Mem (x : Tm) : Ts → Prop
 | .nil => False
 | .cons k n s a r => x = ⟨k, n, s, a⟩ ∨ r.Mem x
def Qu9 (Q : Tm → Prop) : Prop := ∀ t : Tm, Q t → ∀ x, t.ar.Mem x → Q x
theorem Qi7 {Q : Tm → Prop} {B : Bnd} (hB : ∀ x ∈ B, Q x.2) {t : Tm} (ht : Q t) : Q (Qg B t) := by
 rcases QjR (B := B) t with h | ⟨x, hx, h⟩
 ·rw [h]; exact ht
 ·rw [h]; exact hB x hx
theorem QuC {Q : Tm → Prop} {B : Bnd} {v : Int} {t : Tm} {w : Nat} (hB : ∀ x ∈ B, Q x.2) (ht : Q t) : ∀ x ∈ (Qpc v t B w).B, Q x.2 := by
 unfold Qpc
 split
 ·exact hB
 ·intro x hx
  rcases List.mem_cons.1 hx with rfl | hx
  ·exact ht
  ·exact hB x hx
theorem QuJ {Q : Tm → Prop} {g : Tm → Tm → Bnd → Nat → Us} (hg : ∀ a b B w, (∀ x ∈ B, Q x.2) → Q a → Q b → ∀ x ∈ (g a b B w).B, Q x.2) : ∀ (T U : Ts) (B : Bnd) (w : Nat), (∀ x, T.Mem x → Q x) → (∀ x, U.Mem x → Q x) → (∀ x ∈ B, Q x.2) → ∀ x ∈ (Ql2 g T U B w).B, Q x.2
 | .nil, U, B, w, _, _, hB => hB
 | .cons k n s a r, .nil, B, w, _, _, hB => hB
 | .cons k n s a r, .cons k' n' s' a' r', B, w, hT, hU, hB => by
  have h1 := hg ⟨k, n, s, a⟩ ⟨k', n', s', a'⟩ B w hB (hT _ (.inl rfl)) (hU _ (.inl rfl))
  simp only [Ql2]
  split
  ·exact QuJ hg r r' _ _ (fun x hx => hT x (.inr hx)) (fun x hx => hU x (.inr hx)) h1
  ·exact h1
theorem Qpq {Q : Tm → Prop} (hQ : Qu9 Q) : ∀ (f : Nat) (a b : Tm) (B : Bnd) (w : Nat), (∀ x ∈ B, Q x.2) → Q a → Q b → ∀ x ∈ (QcX f a b B w).B, Q x.2
 | 0, a, b, B, w, hB, ha, hb => hB
 | f + 1, a, b, B, w, hB, ha, hb => by
  have ea := Qi7 hB ha
  have eb := Qi7 hB hb
  simp only [QcX]
  split
  ·exact hB
  split
  ·split
   ·by_cases e : (Qg B a).n = (Qg B b).n
    ·rw [if_pos e]; exact hB
    ·rw [if_neg e]
     intro x hx
     rcases List.mem_cons.1 hx with rfl | hx
     ·exact eb
     ·exact hB x hx
   ·exact QuC hB eb
  split
  ·exact QuC hB ea
  split
  ·exact QuJ (fun a b B w => Qpq hQ f a b B w) _ _ _ _ (hQ _ ea) (hQ _ eb) hB
  ·exact hB
theorem QuG {g : Tm → Tm → Bnd → Nat → Us} : ∀ (T U : Ts) (B : Bnd) (w : Nat), (∀ a b : Tm, a.ar.nodes < T.nodes → b.ar.nodes < U.nodes → ∀ B w, Bok B → SmB B → w ≤ 400 → UP B w (g a b B w) ∧ (g a b B w).w ≤ 10025) → Bok B → SmB B → w ≤ 400 → (Ql2 g T U B w).w ≤ 10025
 | .nil, U, B, w, h, hB, hS, hw => by simp [Ql2]; omega
 | .cons k n s a r, .nil, B, w, h, hB, hS, hw => by simp [Ql2]; omega
 | .cons k n s a r, .cons k' n' s' a' r', B, w, h, hB, hS, hw => by
  obtain ⟨h1, h2⟩ := h ⟨k, n, s, a⟩ ⟨k', n', s', a'⟩ Yi Yi B w hB hS hw
  simp only [Ql2]
  split
  ·rename_i hok
   exact QuG r r' _ _ (fun a b ha hb => h a b Yi Yi) h1.bok h1.sm (h1.ok hok)
  ·exact h2
theorem QtA : ∀ (f : Nat) (a b : Tm) (B : Bnd) (w : Nat), a.ar.nodes ≤ 24 → b.ar.nodes ≤ 24 → Bok B → SmB B → w ≤ 400 → (QcX f a b B w).w ≤ 10025
 | 0, a, b, B, w, ha, hb, hB, hS, hw => by simp only [QcX]; omega
 | f + 1, a, b, B, w, ha, hb, hB, hS, hw => by
  have ea := QcL hS ha
  have eb := QcL hS hb
  have hasg : ∀ (v : Int) (t : Tm), t.ar.nodes ≤ 24 → (Qpc v t B (w + 1)).w ≤ max (w + 2) 10025 := fun v t ht => by
   have h1 := Qs7 hS v 401 t ht (w + 1)
   unfold Qpc
   split
   ·simp only; omega
   ·simp only; omega
  simp only [QcX]
  split
  ·simp only; omega
  split
  ·split
   ·simp only; omega
   ·have := hasg (Qg B a).n (Qg B b) eb; omega
  split
  ·have := hasg (Qg B b).n (Qg B a) ea; omega
  split
  ·exact QuG _ _ _ _ (fun x y hx hy B w hB hS hw => ⟨QfH f x y B w Ya Ya hB hS hw, QtA f x y B w Ya Ya hB hS hw⟩) hB hS Ya
  ·simp only; omega
def tgd (t : Tm) : Prop := (Ts.cons t.k t.n t.s t.ar .nil).good 549755813888 = true ∧ t.ar.nodes + 1 ≤ 24
theorem Ts.mem_nodes {x : Tm} : ∀ {T : Ts}, T.Mem x → x.ar.nodes + 1 ≤ T.nodes
 | .cons k n s a r, h => by
  simp only [Ts.nodes]
  rcases h with rfl | h
  ·simp only; omega
  ·have := Ts.mem_nodes h; omega
theorem Ts.mem_good {v : Int} {x : Tm} : ∀ {T : Ts}, T.Mem x → T.good v = true → (Ts.cons x.k x.n x.s x.ar .nil).good v = true
 | .cons k n s a r, h, hg => by
  simp only [Ts.good, Bool.and_eq_true] at hg ⊢
  rcases h with rfl | h
  ·exact ⟨hg.1, trivial⟩
  ·have := Ts.mem_good h hg.2
   simp only [Ts.good, Bool.and_eq_true] at this
   exact this
theorem Qb1 : Qu9 tgd := fun t h x hx => by
 obtain ⟨h1, h2⟩ := h
 have h3 := Ts.mem_nodes hx
 refine ⟨?_, by omega⟩
 simp only [Ts.good, Bool.and_eq_true] at h1
 exact Ts.mem_good hx h1.1.2
theorem tgd.small {t : Tm} (h : tgd t) : t.ar.nodes ≤ 24 := by have := h.2; omega
def QbS : List Gl → Nat → Prop
 | [], _ => True
 | g :: r, n => g.2 ≤ n ∧ QbS r g.2
theorem QbS.mono : ∀ {l : List Gl} {n m : Nat}, QbS l n → n ≤ m → QbS l m
 | [], _, _, _, _ => trivial
 | g :: r, n, m, h, hm => ⟨Nat.le_trans h.1 hm, h.2⟩
def QeI : List Ch → Nat → Prop
 | [], _ => True
 | c :: cs, n => c.bound ≤ n ∧ QbS (c.g :: c.next) cs.length ∧ (∀ g ∈ c.g :: c.next, tgd g.1) ∧ c.cls ≠ [] ∧ (∀ cl ∈ c.cls, cB cl = true) ∧ QeI cs c.bound
theorem QeI.mono : ∀ {l : List Ch} {n m : Nat}, QeI l n → n ≤ m → QeI l m
 | [], _, _, _, _ => trivial
 | c :: cs, n, m, h, hm => ⟨Nat.le_trans h.1 hm, h.2⟩
theorem QeI.drop : ∀ {l : List Ch} {n : Nat}, QeI l n → ∀ k, QeI (l.drop k) n
 | [], _, _, _ => by simp [QeI]
 | c :: cs, n, h, 0 => h
 | c :: cs, n, h, k + 1 => by
  have := QeI.drop h.2.2.2.2.2 k
  exact this.mono h.1
theorem QgR : ∀ (l : List Ch) (k : Nat), Qer (l.drop k) ≤ Qer l
 | [], k => by simp
 | c :: cs, 0 => Nat.le_refl _
 | c :: cs, k + 1 => by have := QgR cs k; simp only [List.drop_succ_cons, Qer]; omega
theorem QeI.len : ∀ {l : List Ch} {n : Nat}, QeI l n → l.length ≤ Qer l
 | [], _, _ => Nat.le_refl _
 | c :: cs, n, h => by
  have h1 := QeI.len h.2.2.2.2.2
  have h2 : 0 < c.cls.length := List.length_pos_iff.2 h.2.2.2.1
  simp only [List.length_cons, Qer]; omega
def mu (s : SS) : Nat := 25 * s.fuel + Qer s.ch
structure QeP (s : SS) : Prop where
 bok : Bok s.B
 gb : ∀ x ∈ s.B, tgd x.2
 ch : QeI s.ch s.B.length
 fr : s.fresh + 8 * mu s ≤ 40000
 bl : s.B.length + 10100 * mu s ≤ 1000000000
structure Inv (s : SS) : Prop where
 c : QeP s
 gg : ∀ g ∈ s.goals, tgd g.1
 og : QbS s.goals s.ch.length
theorem QeP.sm {s : SS} (h : QeP s) : SmB s.B := fun x hx => (h.gb x hx).small
theorem Qnu {n : Int} (h0 : 0 ≤ n) (h1 : n < 1099511627776) : low n = n := by unfold low; omega
theorem QoA {v k n m : Int} {s : ByteArray} {l : Nat} (h : QaZ v k n s l = true) (hv : v ≤ 8) (h0 : 0 ≤ m) (h1 : m ≤ 40000) : QaZ 549755813888 k (QeX k n m) s l = true := by
 unfold QaZ at h ⊢
 unfold QeX
 by_cases e : k = 0
 ·rw [if_pos e] at h ⊢
  rw [if_pos e]
  simp only [Bool.and_eq_true, decide_eq_true_eq] at h ⊢
  rw [Qnu (n := n) Ya Ya, Qnu (n := m) Ya Ya]
  exact ⟨⟨⟨by omega, by omega⟩, h.1.2⟩, h.2⟩
 ·rw [if_neg e] at h ⊢
  rw [if_neg e]
  exact h
theorem Ts.shift_nil (m : Int) : Ts.nil.shift m = .nil := rfl
theorem Ts.shift_len (m : Int) (T : Ts) : (T.shift m).length = T.length := by
 induction T with
 | nil => rfl
 | cons k n s a r _ ih => rw [Ts.shift_cons]; simp only [Ts.length, ih]
theorem Ts.shift_nodes (m : Int) (T : Ts) : (T.shift m).nodes = T.nodes := by
 induction T with
 | nil => rfl
 | cons k n s a r iha ihr => rw [Ts.shift_cons]; simp only [Ts.nodes, iha, ihr]
theorem Ts.shift_good {v m : Int} (hv : v ≤ 8) (h0 : 0 ≤ m) (h1 : m ≤ 40000) (T : Ts) : T.good v = true → (T.shift m).good 549755813888 = true := by
 induction T with
 | nil => intro _; rfl
 | cons k n s a r iha ihr =>
  intro h
  rw [Ts.shift_cons]
  simp only [Ts.good, Bool.and_eq_true] at h ⊢
  exact ⟨⟨by rw [Ts.shift_len]; exact QoA h.1.1 hv h0 h1, iha h.1.2⟩, ihr h.2⟩
theorem QkH {v k n m : Int} {s : ByteArray} {T : Ts} (h : gB v k n s T = true) (hv : v ≤ 8) (h0 : 0 ≤ m) (h1 : m ≤ 40000) : tgd (Tm.shift ⟨k, n, s, T⟩ m) := by
 simp only [gB, Bool.and_eq_true, decide_eq_true_eq] at h
 refine ⟨?_, by show (T.shift m).nodes + 1 ≤ 24; rw [Ts.shift_nodes]; exact h.2⟩
 have := Ts.shift_good hv h0 h1 (.cons k n s T .nil) h.1.2
 rwa [Ts.shift_cons, Ts.shift_nil] at this
theorem QmO {v m : Int} {o : Nat} {rest : List Gl} (hv : v ≤ 8) (h0 : 0 ≤ m) (h1 : m ≤ 40000) (hr : ∀ g ∈ rest, tgd g.1) : ∀ T : Ts, T.goals v = true → ∀ g ∈ Qkh T m o rest, tgd g.1
 | .nil, _ => hr
 | .cons k n s a r, h => by
  simp only [Ts.goals, Bool.and_eq_true] at h
  intro g hg
  rcases List.mem_cons.1 hg with rfl | hg
  ·exact QkH h.1 hv h0 h1
  ·exact QmO hv h0 h1 hr r h.2 g hg
theorem Qf3 {m : Int} {o : Nat} {rest : List Gl} (hr : QbS rest o) : ∀ T : Ts, QbS (Qkh T m o rest) o
 | .nil => hr
 | .cons k n s a r => ⟨Nat.le_refl _, Qf3 hr r⟩
theorem Qkf {c : Cl} (h : cB c = true) : 0 ≤ c.vars ∧ c.vars ≤ 8 ∧ c.bd.length ≤ 5 ∧ c.bd.goals c.vars = true ∧ gB c.vars c.k c.n c.s c.hd = true := by
 simp only [cB, qB, Bool.and_eq_true, decide_eq_true_eq] at h
 exact ⟨h.1.1.1.1.1, h.1.1.1.1.2, h.1.1.1.2, h.1.1.2, h.1.2⟩
theorem Qm8 (B : Bnd) {n : Nat} (h : n ≤ B.length) : (Qay B n).length = n := by unfold Qay; simp; omega
theorem Qtg {cl : Cl} (h : cB cl = true) {m : Nat} (hm : m ≤ 40000) : tgd (cl.head.shift m) := by
 obtain ⟨h0, h1, _, _, h2⟩ := Qkf h
 exact QkH h2 h1 Ya Ya
theorem Qpv {Q : Tm → Prop} {B : Bnd} (h : ∀ x ∈ B, Q x.2) (n : Nat) : ∀ x ∈ Qay B n, Q x.2 := fun x hx => h x (List.mem_of_mem_drop hx)
theorem QtP (c : Ch) (more : List Cl) (cs : List Ch) : cs.length ≤ (Qks c more cs).length := by
 cases more with
 | nil => exact Nat.le_refl _
 | cons x r => simp [Qks]
theorem QhB (c : Ch) (more : List Cl) (cs : List Ch) : Qer (Qks c more cs) = more.length + Qer cs := by
 cases more with
 | nil => simp [Qks]
 | cons x r => simp [Qks, Qer]
theorem Qmt {s : SS} {c : Ch} {cs : List Ch} {cl : Cl} {more : List Cl} (hI : QeP s) (h1 : s.ch = c :: cs) (h2 : c.cls = cl :: more) (g' : List Gl) :
  QeP ⟨(QcX 401 (cl.head.shift s.fresh) c.g.1 (Qay s.B c.bound) 0).B, s.fresh + cl.vars.toNat, s.fuel, g', Qks c more cs, s.ev⟩ := by
 have hch := hI.ch
 rw [h1] at hch
 obtain ⟨a1, a2, a3, a4, a5, a6⟩ := hch
 have hfr := hI.fr
 have hbl := hI.bl
 have hmu : mu s = 25 * s.fuel + (more.length + 1 + Qer cs) := by unfold mu; rw [h1]; simp only [Qer, h2, List.length_cons]
 have hcl : cB cl = true := a5 cl (by rw [h2]; exact .head _)
 obtain ⟨v0, v1, _, _, _⟩ := Qkf hcl
 have hmu' : mu ⟨(QcX 401 (cl.head.shift s.fresh) c.g.1 (Qay s.B c.bound) 0).B, s.fresh + cl.vars.toNat, s.fuel, g', Qks c more cs, s.ev⟩ = 25 * s.fuel + (more.length + Qer cs) := by unfold mu; simp only [QhB]
 have t1 := Qtg hcl (m := s.fresh) Ya
 have t2 := a3 c.g (.head _)
 have hu := Qm8 s.B a1
 have bu : Bok (Qay s.B c.bound) := hI.bok.drop _
 have su : SmB (Qay s.B c.bound) := Qpv (Q := fun t => t.ar.nodes ≤ 24) hI.sm _
 have hup := QfH 401 (cl.head.shift s.fresh) c.g.1 (Qay s.B c.bound) 0 t1.small t2.small bu su Ya
 have hw := QtA 401 (cl.head.shift s.fresh) c.g.1 (Qay s.B c.bound) 0 t1.small t2.small bu su Ya
 have hgb := Qpq Qb1 401 (cl.head.shift s.fresh) c.g.1 (Qay s.B c.bound) 0 (Qpv hI.gb _) t1 t2
 obtain ⟨N, hN⟩ := hup.ext
 have hlen := hup.len
 have hle : c.bound ≤ (QcX 401 (cl.head.shift s.fresh) c.g.1 (Qay s.B c.bound) 0).B.length := by rw [hN]; simp; omega
 refine ⟨hup.bok, hgb, ?_, by rw [hmu']; simp only; omega, by rw [hmu']; simp only; omega⟩
 show QeI (Qks c more cs) _
 cases more with
 | nil => exact a6.mono hle
 | cons x r => exact ⟨hle, a2, a3, by simp, fun y hy => a5 y (by rw [h2]; exact .tail _ hy), a6⟩
theorem QjI : ∀ (n : Nat) (s : SS), QeP s → ((QaO n s).1 = 0 → Inv (QaO n s).2 ∧ mu (QaO n s).2 < mu s) ∧ (QaO n s).2.ev = s.ev ∧ ((QaO n s).1 = 0 ∨ (QaO n s).1 = 2 ∨ (QaO n s).1 = 4) ∧ (QaO n s).2.fuel = s.fuel
 | 0, s, hI => ⟨fun h => (by cases h), rfl, .inr (.inl rfl), rfl⟩
 | n + 1, s, hI => by
  unfold QaO
  cases h1 : s.ch with
  | nil => exact ⟨fun h => (by cases h), rfl, .inr (.inl rfl), rfl⟩
  | cons c cs =>
   simp only
   cases h2 : c.cls with
   | nil => exact ⟨fun h => (by cases h), rfl, .inr (.inl rfl), rfl⟩
   | cons cl more =>
    simp only
    have hmu : mu s = 25 * s.fuel + (more.length + 1 + Qer cs) := by unfold mu; rw [h1]; simp only [Qer, h2, List.length_cons]
    split
    ·exact ⟨fun h => (by cases h), rfl, .inr (.inr rfl), rfl⟩
    split
    ·refine ⟨fun _ => ⟨⟨Qmt hI h1 h2 _, ?_, ?_⟩, ?_⟩, rfl, .inl rfl, rfl⟩
     ·have hch := hI.ch
      rw [h1] at hch
      obtain ⟨a1, a2, a3, a4, a5, a6⟩ := hch
      obtain ⟨v0, v1, _, v3, _⟩ := Qkf (a5 cl (by rw [h2]; exact .head _))
      have := hI.fr
      exact QmO v1 Ya Ya (fun g hg => a3 g (.tail _ hg)) _ v3
     ·have hch := hI.ch
      rw [h1] at hch
      obtain ⟨a1, a2, a3, a4, a5, a6⟩ := hch
      exact (Qf3 (a2.2.mono a2.1) _).mono (QtP c more cs)
     ·rw [hmu]; unfold mu; simp only [QhB]; omega
    ·obtain ⟨i1, i2, i3, i4⟩ := QjI n _ (Qmt hI h1 h2 s.goals)
     refine ⟨fun h => ⟨(i1 h).1, Nat.lt_trans (i1 h).2 ?_⟩, i2, i3, i4⟩
     rw [hmu]; unfold mu; simp only [QhB]; omega
theorem Qhv {n : Nat} {s : SS} {c : Ch} {cs : List Ch} {cl : Cl} {more : List Cl} (h1 : s.ch = c :: cs) (h2 : c.cls = cl :: more) : QaO (n + 1) s =
  if 400 < (QcX 401 (cl.head.shift s.fresh) c.g.1 (Qay s.B c.bound) 0).w then (4, ⟨(QcX 401 (cl.head.shift s.fresh) c.g.1 (Qay s.B c.bound) 0).B, s.fresh + cl.vars.toNat, s.fuel, s.goals, Qks c more cs, s.ev⟩)
  else if (QcX 401 (cl.head.shift s.fresh) c.g.1 (Qay s.B c.bound) 0).ok = true then (0, ⟨(QcX 401 (cl.head.shift s.fresh) c.g.1 (Qay s.B c.bound) 0).B, s.fresh + cl.vars.toNat, s.fuel, Qkh cl.bd s.fresh cs.length c.next, Qks c more cs, s.ev⟩)
  else QaO n ⟨(QcX 401 (cl.head.shift s.fresh) c.g.1 (Qay s.B c.bound) 0).B, s.fresh + cl.vars.toNat, s.fuel, s.goals, Qks c more cs, s.ev⟩ := by
 conv => lhs; unfold QaO
 rw [h1]
 simp only
 rw [h2]
structure LE where
 A : Option Addr
 c : Nat
 T : TA
abbrev Qvm (k : Int) (e : LE) : List Value := [.int .i64 k, .slice e.A e.T.len e.c]
def evL : List LE → List Value
 | [] => []
 | e :: r => Qvm 1 e ++ evL r
theorem Qt5 (a b : List LE) : evL (a ++ b) = evL a ++ evL b := by
 induction a with
 | nil => rfl
 | cons c r ih => simp [evL, ih]
end Go.Proofs.YthliapbflkfdiacGreatDoor
