/- Steps of the proof. -/
import Derived.Test.YthliapbflkfdiacGreatDoorG9
namespace Go.Proofs.YthliapbflkfdiacGreatDoor
open Go.RowKit
set_option linter.unusedVariables false
set_option linter.unusedSimpArgs false
set_option maxRecDepth 100000
set_option maxHeartbeats 1000000
section
variable {M : List Nat} {w0 : World} {H : List (Nat × Obj)} {F : List (World → Prop)}
end
theorem QhK (g : Tm → Nat → Option (Tm × Nat)) (k n : Int) (s : ByteArray) (a r : Ts) (l : Nat) : Qij g (.cons k n s a r) l = (g ⟨k, n, s, a⟩ l).bind fun p => (Qij g r p.2).map fun q => (.cons p.1.k p.1.n p.1.s p.1.ar q.1, q.2) := by
 simp only [Qij]
 cases g ⟨k, n, s, a⟩ l with
 | none => rfl
 | some p =>
  simp only [Option.bind_some]
  cases Qij g r p.2 <;> rfl
theorem Qid (B : Bnd) (f : Nat) (t : Tm) (l : Nat) : Qjz B (f + 1) t l = if l = 0 then none else (Qij (Qjz B f) (Qe B t).ar (l - 1)).map fun p => (⟨(Qe B t).k, (Qe B t).n, (Qe B t).s, p.1⟩, p.2) := by
 simp only [Qjz]
 split
 ·rfl
 ·cases Qij (Qjz B f) (Qe B t).ar (l - 1) <;> rfl
theorem Qjb {g : Tm → Nat → Option (Tm × Nat)} (hg : ∀ t l p, g t l = some p → p.1.ar.nodes + 1 + p.2 = l) : ∀ (T : Ts) (l : Nat) (p : Ts × Nat), Qij g T l = some p → p.1.nodes + p.2 = l ∧ p.1.length = T.length
 | .nil, l, p, h => by
  simp only [Qij, Option.some.injEq] at h
  subst h
  exact ⟨by simp [Ts.nodes], rfl⟩
 | .cons k n s a r, l, p, h => by
  rw [QhK] at h
  cases h1 : g ⟨k, n, s, a⟩ l with
  | none => rw [h1] at h; cases h
  | some q =>
   rw [h1, Option.bind_some] at h
   cases h2 : Qij g r q.2 with
   | none => rw [h2] at h; cases h
   | some x =>
    rw [h2, Option.map_some, Option.some.injEq] at h
    subst h
    have := hg _ _ _ h1
    obtain ⟨i1, i2⟩ := Qjb hg r q.2 x h2
    simp only [Ts.nodes, Ts.length]
    omega
theorem QlY {B : Bnd} : ∀ (f : Nat) (t : Tm) (l : Nat) (p : Tm × Nat), Qjz B f t l = some p → p.1.ar.nodes + 1 + p.2 = l
 | 0, t, l, p, h => by cases h
 | f + 1, t, l, p, h => by
  rw [Qid] at h
  by_cases h0 : l = 0
  ·rw [if_pos h0] at h; cases h
  ·rw [if_neg h0] at h
   cases h1 : Qij (Qjz B f) (Qe B t).ar (l - 1) with
   | none => rw [h1] at h; cases h
   | some q =>
    rw [h1, Option.map_some, Option.some.injEq] at h
    subst h
    have := (Qjb (fun t l p h => QlY f t l p h) _ _ _ h1).1
    show q.1.nodes + 1 + q.2 = l
    omega
section
variable {M : List Nat} {w0 : World} {H : List (Nat × Obj)} {F : List (World → Prop)}
end
def Ts.vars (P : Int → Prop) : Ts → Prop
 | .nil => True
 | .cons k n _ ar r => (k = 0 → P n) ∧ ar.vars P ∧ r.vars P
theorem Qth {n : Int} : ∀ {ks : List Int} {j : Nat}, pos n ks = some j → j < ks.length
 | [], _, h => by cases h
 | k :: r, j, h => by
  rw [pos] at h
  by_cases e : n = k
  ·rw [if_pos e] at h; cases h; simp
  ·rw [if_neg e] at h
   cases hp : pos n r with
   | none => rw [hp] at h; cases h
   | some i =>
    rw [hp] at h
    cases h
    have := Qth hp
    simp; omega
def Ts.Mem (x : Tm) : Ts → Prop
 | .nil => False
 | .cons k n s a r => x = ⟨k, n, s, a⟩ ∨ r.Mem x
def Qvk (Q : Tm → Prop) : Prop := ∀ t : Tm, Q t → ∀ x, t.ar.Mem x → Q x
theorem Qje {Q : Tm → Prop} {B : Bnd} (hB : ∀ x ∈ B, Q x.2) {t : Tm} (ht : Q t) : Q (Qe B t) := by
 rcases QjX (B := B) t with h | ⟨x, hx, h⟩
 ·rw [h]; exact ht
 ·rw [h]; exact hB x hx
theorem QuS {Q : Tm → Prop} {B : Bnd} {v : Int} {t : Tm} {w : Nat} (hB : ∀ x ∈ B, Q x.2) (ht : Q t) : ∀ x ∈ (Qps v t B w).B, Q x.2 := by
 unfold Qps
 split
 ·exact hB
 ·intro x hx
  rcases List.mem_cons.1 hx with rfl | hx
  ·exact ht
  ·exact hB x hx
theorem QuX {Q : Tm → Prop} {g : Tm → Tm → Bnd → Nat → Us} (hg : ∀ a b B w, (∀ x ∈ B, Q x.2) → Q a → Q b → ∀ x ∈ (g a b B w).B, Q x.2) : ∀ (T U : Ts) (B : Bnd) (w : Nat), (∀ x, T.Mem x → Q x) → (∀ x, U.Mem x → Q x) → (∀ x ∈ B, Q x.2) → ∀ x ∈ (Qma g T U B w).B, Q x.2
 | .nil, U, B, w, _, _, hB => hB
 | .cons k n s a r, .nil, B, w, _, _, hB => hB
 | .cons k n s a r, .cons k' n' s' a' r', B, w, hT, hU, hB => by
  have h1 := hg ⟨k, n, s, a⟩ ⟨k', n', s', a'⟩ B w hB (hT _ (.inl rfl)) (hU _ (.inl rfl))
  simp only [Qma]
  split
  ·exact QuX hg r r' _ _ (fun x hx => hT x (.inr hx)) (fun x hx => hU x (.inr hx)) h1
  ·exact h1
theorem QpG {Q : Tm → Prop} (hQ : Qvk Q) : ∀ (f : Nat) (a b : Tm) (B : Bnd) (w : Nat), (∀ x ∈ B, Q x.2) → Q a → Q b → ∀ x ∈ (Qb4 f a b B w).B, Q x.2
 | 0, a, b, B, w, hB, ha, hb => hB
 | f + 1, a, b, B, w, hB, ha, hb => by
  have ea := Qje hB ha
  have eb := Qje hB hb
  simp only [Qb4]
  split
  ·exact hB
  split
  ·split
   ·by_cases e : (Qe B a).n = (Qe B b).n
    ·rw [if_pos e]; exact hB
    ·rw [if_neg e]
     intro x hx
     rcases List.mem_cons.1 hx with rfl | hx
     ·exact eb
     ·exact hB x hx
   ·exact QuS hB eb
  split
  ·exact QuS hB ea
  split
  ·exact QuX (fun a b B w => QpG hQ f a b B w) _ _ _ _ (hQ _ ea) (hQ _ eb) hB
  ·exact hB
theorem QuV {g : Tm → Tm → Bnd → Nat → Us} : ∀ (T U : Ts) (B : Bnd) (w : Nat), (∀ a b : Tm, a.ar.nodes < T.nodes → b.ar.nodes < U.nodes → ∀ B w, Bok B → SmB B → w ≤ 400 → UP B w (g a b B w) ∧ (g a b B w).w ≤ 10025) → Bok B → SmB B → w ≤ 400 → (Qma g T U B w).w ≤ 10025
 | .nil, U, B, w, h, hB, hS, hw => by simp [Qma]; omega
 | .cons k n s a r, .nil, B, w, h, hB, hS, hw => by simp [Qma]; omega
 | .cons k n s a r, .cons k' n' s' a' r', B, w, h, hB, hS, hw => by
  obtain ⟨h1, h2⟩ := h ⟨k, n, s, a⟩ ⟨k', n', s', a'⟩ Yi Yi B w hB hS hw
  simp only [Qma]
  split
  ·rename_i hok
   exact QuV r r' _ _ (fun a b ha hb => h a b Yi Yi) h1.bok h1.sm (h1.ok hok)
  ·exact h2
theorem QtP : ∀ (f : Nat) (a b : Tm) (B : Bnd) (w : Nat), a.ar.nodes ≤ 24 → b.ar.nodes ≤ 24 → Bok B → SmB B → w ≤ 400 → (Qb4 f a b B w).w ≤ 10025
 | 0, a, b, B, w, ha, hb, hB, hS, hw => by simp only [Qb4]; omega
 | f + 1, a, b, B, w, ha, hb, hB, hS, hw => by
  have ea := QcO hS ha
  have eb := QcO hS hb
  have hasg : ∀ (v : Int) (t : Tm), t.ar.nodes ≤ 24 → (Qps v t B (w + 1)).w ≤ max (w + 2) 10025 := fun v t ht => by
   have h1 := Qtj hS v 401 t ht (w + 1)
   unfold Qps
   split
   ·simp only; omega
   ·simp only; omega
  simp only [Qb4]
  split
  ·simp only; omega
  split
  ·split
   ·simp only; omega
   ·have := hasg (Qe B a).n (Qe B b) eb; omega
  split
  ·have := hasg (Qe B b).n (Qe B a) ea; omega
  split
  ·exact QuV _ _ _ _ (fun x y hx hy B w hB hS hw => ⟨QfR f x y B w Ya Ya hB hS hw, QtP f x y B w Ya Ya hB hS hw⟩) hB hS Ya
  ·simp only; omega
def tgd (t : Tm) : Prop := (Ts.cons t.k t.n t.s t.ar .nil).good 549755813888 = true ∧ t.ar.nodes + 1 ≤ 24
theorem Ts.mem_nodes {x : Tm} : ∀ {T : Ts}, T.Mem x → x.ar.nodes + 1 ≤ T.nodes
 | .cons k n s a r, h => by
  simp only [Ts.nodes]
  rcases h with rfl | h
  ·simp only; omega
  ·have := Ts.mem_nodes h; omega
theorem Ts.mem_good {v : Int} {x : Tm} : ∀ {T : Ts}, T.Mem x → T.good v = true → (Ts.cons x.k x.n x.s x.ar .nil).good v = true
 | .cons k n s a r, h, hg => by
  simp only [Ts.good, Bool.and_eq_true] at hg ⊢
  rcases h with rfl | h
  ·exact ⟨hg.1, trivial⟩
  ·have := Ts.mem_good h hg.2
   simp only [Ts.good, Bool.and_eq_true] at this
   exact this
theorem Qb6 : Qvk tgd := fun t h x hx => by
 obtain ⟨h1, h2⟩ := h
 have h3 := Ts.mem_nodes hx
 refine ⟨?_, by omega⟩
 simp only [Ts.good, Bool.and_eq_true] at h1
 exact Ts.mem_good hx h1.1.2
theorem tgd.small {t : Tm} (h : tgd t) : t.ar.nodes ≤ 24 := by have := h.2; omega
def QbW : List Gl → Nat → Prop
 | [], _ => True
 | g :: r, n => g.2 ≤ n ∧ QbW r g.2
theorem QbW.mono : ∀ {l : List Gl} {n m : Nat}, QbW l n → n ≤ m → QbW l m
 | [], _, _, _, _ => trivial
 | g :: r, n, m, h, hm => ⟨Nat.le_trans h.1 hm, h.2⟩
def QeU : List Ch → Nat → Prop
 | [], _ => True
 | c :: cs, n => c.bound ≤ n ∧ QbW (c.g :: c.next) cs.length ∧ (∀ g ∈ c.g :: c.next, tgd g.1) ∧ c.cls ≠ [] ∧ (∀ cl ∈ c.cls, cB cl = true) ∧ QeU cs c.bound
theorem QeU.mono : ∀ {l : List Ch} {n m : Nat}, QeU l n → n ≤ m → QeU l m
 | [], _, _, _, _ => trivial
 | c :: cs, n, m, h, hm => ⟨Nat.le_trans h.1 hm, h.2⟩
theorem QeU.drop : ∀ {l : List Ch} {n : Nat}, QeU l n → ∀ k, QeU (l.drop k) n
 | [], _, _, _ => by simp [QeU]
 | c :: cs, n, h, 0 => h
 | c :: cs, n, h, k + 1 => by
  have := QeU.drop h.2.2.2.2.2 k
  exact this.mono h.1
theorem QgX : ∀ (l : List Ch) (k : Nat), QeB (l.drop k) ≤ QeB l
 | [], k => by simp
 | c :: cs, 0 => Nat.le_refl _
 | c :: cs, k + 1 => by have := QgX cs k; simp only [List.drop_succ_cons, QeB]; omega
theorem QeU.len : ∀ {l : List Ch} {n : Nat}, QeU l n → l.length ≤ QeB l
 | [], _, _ => Nat.le_refl _
 | c :: cs, n, h => by
  have h1 := QeU.len h.2.2.2.2.2
  have h2 : 0 < c.cls.length := List.length_pos_iff.2 h.2.2.2.1
  simp only [List.length_cons, QeB]; omega
def mu (s : SS) : Nat := 25 * s.fuel + QeB s.ch
structure QeZ (s : SS) : Prop where
 bok : Bok s.B
 gb : ∀ x ∈ s.B, tgd x.2
 ch : QeU s.ch s.B.length
 fr : s.fresh + 8 * mu s ≤ 40000
 bl : s.B.length + 10100 * mu s ≤ 1000000000
structure Inv (s : SS) : Prop where
 c : QeZ s
 gg : ∀ g ∈ s.goals, tgd g.1
 og : QbW s.goals s.ch.length
theorem QeZ.sm {s : SS} (h : QeZ s) : SmB s.B := fun x hx => (h.gb x hx).small
theorem QnI {n : Int} (h0 : 0 ≤ n) (h1 : n < 1099511627776) : low n = n := by unfold low; omega
theorem QoO {v k n m : Int} {s : ByteArray} {l : Nat} (h : Qa1 v k n s l = true) (hv : v ≤ 8) (h0 : 0 ≤ m) (h1 : m ≤ 40000) : Qa1 549755813888 k (Qe8 k n m) s l = true := by
 unfold Qa1 at h ⊢
 unfold Qe8
 by_cases e : k = 0
 ·rw [if_pos e] at h ⊢
  rw [if_pos e]
  simp only [Bool.and_eq_true, decide_eq_true_eq] at h ⊢
  rw [QnI (n := n) Ya Ya, QnI (n := m) Ya Ya]
  exact ⟨⟨⟨by omega, by omega⟩, h.1.2⟩, h.2⟩
 ·rw [if_neg e] at h ⊢
  rw [if_neg e]
  exact h
theorem Ts.shift_nil (m : Int) : Ts.nil.shift m = .nil := rfl
theorem Ts.shift_len (m : Int) (T : Ts) : (T.shift m).length = T.length := by
 induction T with
 | nil => rfl
 | cons k n s a r _ ih => rw [Ts.shift_cons]; simp only [Ts.length, ih]
theorem Ts.shift_nodes (m : Int) (T : Ts) : (T.shift m).nodes = T.nodes := by
 induction T with
 | nil => rfl
 | cons k n s a r iha ihr => rw [Ts.shift_cons]; simp only [Ts.nodes, iha, ihr]
theorem Ts.shift_good {v m : Int} (hv : v ≤ 8) (h0 : 0 ≤ m) (h1 : m ≤ 40000) (T : Ts) : T.good v = true → (T.shift m).good 549755813888 = true := by
 induction T with
 | nil => intro _; rfl
 | cons k n s a r iha ihr =>
  intro h
  rw [Ts.shift_cons]
  simp only [Ts.good, Bool.and_eq_true] at h ⊢
  exact ⟨⟨by rw [Ts.shift_len]; exact QoO h.1.1 hv h0 h1, iha h.1.2⟩, ihr h.2⟩
theorem QkQ {v k n m : Int} {s : ByteArray} {T : Ts} (h : gB v k n s T = true) (hv : v ≤ 8) (h0 : 0 ≤ m) (h1 : m ≤ 40000) : tgd (Tm.shift ⟨k, n, s, T⟩ m) := by
 simp only [gB, Bool.and_eq_true, decide_eq_true_eq] at h
 refine ⟨?_, by show (T.shift m).nodes + 1 ≤ 24; rw [Ts.shift_nodes]; exact h.2⟩
 have := Ts.shift_good hv h0 h1 (.cons k n s T .nil) h.1.2
 rwa [Ts.shift_cons, Ts.shift_nil] at this
theorem QmW {v m : Int} {o : Nat} {rest : List Gl} (hv : v ≤ 8) (h0 : 0 ≤ m) (h1 : m ≤ 40000) (hr : ∀ g ∈ rest, tgd g.1) : ∀ T : Ts, T.goals v = true → ∀ g ∈ Qkn T m o rest, tgd g.1
 | .nil, _ => hr
 | .cons k n s a r, h => by
  simp only [Ts.goals, Bool.and_eq_true] at h
  intro g hg
  rcases List.mem_cons.1 hg with rfl | hg
  ·exact QkQ h.1 hv h0 h1
  ·exact QmW hv h0 h1 hr r h.2 g hg
theorem Qge {m : Int} {o : Nat} {rest : List Gl} (hr : QbW rest o) : ∀ T : Ts, QbW (Qkn T m o rest) o
 | .nil => hr
 | .cons k n s a r => ⟨Nat.le_refl _, Qge hr r⟩
theorem Qkl {c : Cl} (h : cB c = true) : 0 ≤ c.vars ∧ c.vars ≤ 8 ∧ c.bd.length ≤ 5 ∧ c.bd.goals c.vars = true ∧ gB c.vars c.k c.n c.s c.hd = true := by
 simp only [cB, qB, Bool.and_eq_true, decide_eq_true_eq] at h
 exact ⟨h.1.1.1.1.1, h.1.1.1.1.2, h.1.1.1.2, h.1.1.2, h.1.2⟩
theorem Qnh (B : Bnd) {n : Nat} (h : n ≤ B.length) : (Qal B n).length = n := by unfold Qal; simp; omega
theorem Qts {cl : Cl} (h : cB cl = true) {m : Nat} (hm : m ≤ 40000) : tgd (cl.head.shift m) := by
 obtain ⟨h0, h1, _, _, h2⟩ := Qkl h
 exact QkQ h2 h1 Ya Ya
theorem QpL {Q : Tm → Prop} {B : Bnd} (h : ∀ x ∈ B, Q x.2) (n : Nat) : ∀ x ∈ Qal B n, Q x.2 := fun x hx => h x (List.mem_of_mem_drop hx)
theorem Qt5 (c : Ch) (more : List Cl) (cs : List Ch) : cs.length ≤ (QkA c more cs).length := by
 cases more with
 | nil => exact Nat.le_refl _
 | cons x r => simp [QkA]
theorem QhE (c : Ch) (more : List Cl) (cs : List Ch) : QeB (QkA c more cs) = more.length + QeB cs := by
 cases more with
 | nil => simp [QkA]
 | cons x r => simp [QkA, QeB]
theorem QmB {s : SS} {c : Ch} {cs : List Ch} {cl : Cl} {more : List Cl} (hI : QeZ s) (h1 : s.ch = c :: cs) (h2 : c.cls = cl :: more) (g' : List Gl) :
  QeZ ⟨(Qb4 401 (cl.head.shift s.fresh) c.g.1 (Qal s.B c.bound) 0).B, s.fresh + cl.vars.toNat, s.fuel, g', QkA c more cs, s.ev⟩ := by
 have hch := hI.ch
 rw [h1] at hch
 obtain ⟨a1, a2, a3, a4, a5, a6⟩ := hch
 have hfr := hI.fr
 have hbl := hI.bl
 have hmu : mu s = 25 * s.fuel + (more.length + 1 + QeB cs) := by unfold mu; rw [h1]; simp only [QeB, h2, List.length_cons]
 have hcl : cB cl = true := a5 cl (by rw [h2]; exact .head _)
 obtain ⟨v0, v1, _, _, _⟩ := Qkl hcl
 have hmu' : mu ⟨(Qb4 401 (cl.head.shift s.fresh) c.g.1 (Qal s.B c.bound) 0).B, s.fresh + cl.vars.toNat, s.fuel, g', QkA c more cs, s.ev⟩ = 25 * s.fuel + (more.length + QeB cs) := by unfold mu; simp only [QhE]
 have t1 := Qts hcl (m := s.fresh) Ya
 have t2 := a3 c.g (.head _)
 have hu := Qnh s.B a1
 have bu : Bok (Qal s.B c.bound) := hI.bok.drop _
 have su : SmB (Qal s.B c.bound) := QpL (Q := fun t => t.ar.nodes ≤ 24) hI.sm _
 have hup := QfR 401 (cl.head.shift s.fresh) c.g.1 (Qal s.B c.bound) 0 t1.small t2.small bu su Ya
 have hw := QtP 401 (cl.head.shift s.fresh) c.g.1 (Qal s.B c.bound) 0 t1.small t2.small bu su Ya
 have hgb := QpG Qb6 401 (cl.head.shift s.fresh) c.g.1 (Qal s.B c.bound) 0 (QpL hI.gb _) t1 t2
 obtain ⟨N, hN⟩ := hup.ext
 have hlen := hup.len
 have hle : c.bound ≤ (Qb4 401 (cl.head.shift s.fresh) c.g.1 (Qal s.B c.bound) 0).B.length := by rw [hN]; simp; omega
 refine ⟨hup.bok, hgb, ?_, by rw [hmu']; simp only; omega, by rw [hmu']; simp only; omega⟩
 show QeU (QkA c more cs) _
 cases more with
 | nil => exact a6.mono hle
 | cons x r => exact ⟨hle, a2, a3, by simp, fun y hy => a5 y (by rw [h2]; exact .tail _ hy), a6⟩
theorem QjP : ∀ (n : Nat) (s : SS), QeZ s → ((Qad n s).1 = 0 → Inv (Qad n s).2 ∧ mu (Qad n s).2 < mu s) ∧ (Qad n s).2.ev = s.ev ∧ ((Qad n s).1 = 0 ∨ (Qad n s).1 = 2 ∨ (Qad n s).1 = 4) ∧ (Qad n s).2.fuel = s.fuel
 | 0, s, hI => ⟨fun h => (by cases h), rfl, .inr (.inl rfl), rfl⟩
 | n + 1, s, hI => by
  unfold Qad
  cases h1 : s.ch with
  | nil => exact ⟨fun h => (by cases h), rfl, .inr (.inl rfl), rfl⟩
  | cons c cs =>
   simp only
   cases h2 : c.cls with
   | nil => exact ⟨fun h => (by cases h), rfl, .inr (.inl rfl), rfl⟩
   | cons cl more =>
    simp only
    have hmu : mu s = 25 * s.fuel + (more.length + 1 + QeB cs) := by unfold mu; rw [h1]; simp only [QeB, h2, List.length_cons]
    split
    ·exact ⟨fun h => (by cases h), rfl, .inr (.inr rfl), rfl⟩
    split
    ·refine ⟨fun _ => ⟨⟨QmB hI h1 h2 _, ?_, ?_⟩, ?_⟩, rfl, .inl rfl, rfl⟩
     ·have hch := hI.ch
      rw [h1] at hch
      obtain ⟨a1, a2, a3, a4, a5, a6⟩ := hch
      obtain ⟨v0, v1, _, v3, _⟩ := Qkl (a5 cl (by rw [h2]; exact .head _))
      have := hI.fr
      exact QmW v1 Ya Ya (fun g hg => a3 g (.tail _ hg)) _ v3
     ·have hch := hI.ch
      rw [h1] at hch
      obtain ⟨a1, a2, a3, a4, a5, a6⟩ := hch
      exact (Qge (a2.2.mono a2.1) _).mono (Qt5 c more cs)
     ·rw [hmu]; unfold mu; simp only [QhE]; omega
    ·obtain ⟨i1, i2, i3, i4⟩ := QjP n _ (QmB hI h1 h2 s.goals)
     refine ⟨fun h => ⟨(i1 h).1, Nat.lt_trans (i1 h).2 ?_⟩, i2, i3, i4⟩
     rw [hmu]; unfold mu; simp only [QhE]; omega
theorem Qc8 {n : Nat} {s : SS} {c : Ch} {cs : List Ch} {cl : Cl} {more : List Cl} (h1 : s.ch = c :: cs) (h2 : c.cls = cl :: more) : Qad (n + 1) s =
  if 400 < (Qb4 401 (cl.head.shift s.fresh) c.g.1 (Qal s.B c.bound) 0).w then (4, ⟨(Qb4 401 (cl.head.shift s.fresh) c.g.1 (Qal s.B c.bound) 0).B, s.fresh + cl.vars.toNat, s.fuel, s.goals, QkA c more cs, s.ev⟩)
  else if (Qb4 401 (cl.head.shift s.fresh) c.g.1 (Qal s.B c.bound) 0).ok = true then (0, ⟨(Qb4 401 (cl.head.shift s.fresh) c.g.1 (Qal s.B c.bound) 0).B, s.fresh + cl.vars.toNat, s.fuel, Qkn cl.bd s.fresh cs.length c.next, QkA c more cs, s.ev⟩)
  else Qad n ⟨(Qb4 401 (cl.head.shift s.fresh) c.g.1 (Qal s.B c.bound) 0).B, s.fresh + cl.vars.toNat, s.fuel, s.goals, QkA c more cs, s.ev⟩ := by
 conv => lhs; unfold Qad
 rw [h1]
 simp only
 rw [h2]
structure LE where
 A : Option Addr
 c : Nat
 T : TA
abbrev QvB (k : Int) (e : LE) : List Value := [.int .i64 k, .slice e.A e.T.len e.c]
def evL : List LE → List Value
 | [] => []
 | e :: r => QvB 1 e ++ evL r
theorem Qul (a b : List LE) : evL (a ++ b) = evL a ++ evL b := by
 induction a with
 | nil => rfl
 | cons c r ih => simp [evL, ih]
end Go.Proofs.YthliapbflkfdiacGreatDoor
