/- SInv, PSim1, PModel, MapM, SMem, SWalk1: texts that follow one another, laid into one file. -/
import Derived.Test.YthliapbflkfdiabGreatZ0
import Derived.Test.YthliapbflkfdiabGreatG4
import Derived.Test.YthliapbflkfdiabGreatG1
import Derived.Test.YthliapbflkfdiabGreatG3
import Derived.Test.YthliapbflkfdiabGreatG0
namespace Go.Proofs.YthliapbflkfdiabGreat
set_option linter.unusedVariables false
def Ts.Mem (x : Tm) : Ts → Prop
 | .nil => False
 | .cons k n s a r => x = ⟨k, n, s, a⟩ ∨ r.Mem x
def Down (Q : Tm → Prop) : Prop := ∀ t : Tm, Q t → ∀ x, t.ar.Mem x → Q x
theorem look_Q {Q : Tm → Prop} {B : Bnd} (hB : ∀ x ∈ B, Q x.2) {t : Tm} (ht : Q t) : Q (lookM B t) := by
 rcases look_mem (B := B) t with h | ⟨x, hx, h⟩
 ·rw [h]; exact ht
 ·rw [h]; exact hB x hx
theorem asg_Q {Q : Tm → Prop} {B : Bnd} {v : Int} {t : Tm} {w : Nat} (hB : ∀ x ∈ B, Q x.2) (ht : Q t) : ∀ x ∈ (asgM v t B w).B, Q x.2 := by
 unfold asgM
 split
 ·exact hB
 ·intro x hx
  rcases List.mem_cons.1 hx with rfl | hx
  ·exact ht
  ·exact hB x hx
theorem all_Q {Q : Tm → Prop} {g : Tm → Tm → Bnd → Nat → Us} (hg : ∀ a b B w, (∀ x ∈ B, Q x.2) → Q a → Q b → ∀ x ∈ (g a b B w).B, Q x.2) : ∀ (T U : Ts) (B : Bnd) (w : Nat), (∀ x, T.Mem x → Q x) → (∀ x, U.Mem x → Q x) → (∀ x ∈ B, Q x.2) → ∀ x ∈ (allL g T U B w).B, Q x.2
 | .nil, U, B, w, _, _, hB => hB
 | .cons k n s a r, .nil, B, w, _, _, hB => hB
 | .cons k n s a r, .cons k' n' s' a' r', B, w, hT, hU, hB => by
  have h1 := hg ⟨k, n, s, a⟩ ⟨k', n', s', a'⟩ B w hB (hT _ (.inl rfl)) (hU _ (.inl rfl))
  simp only [allL]
  split
  ·exact all_Q hg r r' _ _ (fun x hx => hT x (.inr hx)) (fun x hx => hU x (.inr hx)) h1
  ·exact h1
theorem uni_Q {Q : Tm → Prop} (hQ : Down Q) : ∀ (f : Nat) (a b : Tm) (B : Bnd) (w : Nat), (∀ x ∈ B, Q x.2) → Q a → Q b → ∀ x ∈ (uniM f a b B w).B, Q x.2
 | 0, a, b, B, w, hB, ha, hb => hB
 | f + 1, a, b, B, w, hB, ha, hb => by
  have ea := look_Q hB ha
  have eb := look_Q hB hb
  simp only [uniM]
  split
  ·exact hB
  split
  ·split
   ·by_cases e : (lookM B a).n = (lookM B b).n
    ·rw [if_pos e]; exact hB
    ·rw [if_neg e]
     intro x hx
     rcases List.mem_cons.1 hx with rfl | hx
     ·exact eb
     ·exact hB x hx
   ·exact asg_Q hB eb
  split
  ·exact asg_Q hB ea
  split
  ·exact all_Q (fun a b B w => uni_Q hQ f a b B w) _ _ _ _ (hQ _ ea) (hQ _ eb) hB
  ·exact hB
theorem all_w {g : Tm → Tm → Bnd → Nat → Us} : ∀ (T U : Ts) (B : Bnd) (w : Nat), (∀ a b : Tm, a.ar.nodes < T.nodes → b.ar.nodes < U.nodes → ∀ B w, Bok B → SmB B → w ≤ 400 → UP B w (g a b B w) ∧ (g a b B w).w ≤ 10025) → Bok B → SmB B → w ≤ 400 → (allL g T U B w).w ≤ 10025
 | .nil, U, B, w, h, hB, hS, hw => by simp [allL]; omega
 | .cons k n s a r, .nil, B, w, h, hB, hS, hw => by simp [allL]; omega
 | .cons k n s a r, .cons k' n' s' a' r', B, w, h, hB, hS, hw => by
  obtain ⟨h1, h2⟩ := h ⟨k, n, s, a⟩ ⟨k', n', s', a'⟩ (by simp only [Ts.nodes]; omega) (by simp only [Ts.nodes]; omega) B w hB hS hw
  simp only [allL]
  split
  ·rename_i hok
   exact all_w r r' _ _ (fun a b ha hb => h a b (by simp only [Ts.nodes]; omega) (by simp only [Ts.nodes]; omega)) h1.bok h1.sm (h1.ok hok)
  ·exact h2
theorem uni_w : ∀ (f : Nat) (a b : Tm) (B : Bnd) (w : Nat), a.ar.nodes ≤ 24 → b.ar.nodes ≤ 24 → Bok B → SmB B → w ≤ 400 → (uniM f a b B w).w ≤ 10025
 | 0, a, b, B, w, ha, hb, hB, hS, hw => by simp only [uniM]; omega
 | f + 1, a, b, B, w, ha, hb, hB, hS, hw => by
  have ea := look_small hS ha
  have eb := look_small hS hb
  have hasg : ∀ (v : Int) (t : Tm), t.ar.nodes ≤ 24 → (asgM v t B (w + 1)).w ≤ max (w + 2) 10025 := fun v t ht => by
   have h1 := occ_le hS v 401 t ht (w + 1)
   unfold asgM
   split
   ·simp only; omega
   ·simp only; omega
  simp only [uniM]
  split
  ·simp only; omega
  split
  ·split
   ·simp only; omega
   ·have := hasg (lookM B a).n (lookM B b) eb; omega
  split
  ·have := hasg (lookM B b).n (lookM B a) ea; omega
  split
  ·exact all_w _ _ _ _ (fun x y hx hy B w hB hS hw => ⟨suni_up f x y B w (by omega) (by omega) hB hS hw, uni_w f x y B w (by omega) (by omega) hB hS hw⟩) hB hS (by omega)
  ·simp only; omega
def tgd (t : Tm) : Prop := (Ts.cons t.k t.n t.s t.ar .nil).good 549755813888 = true ∧ t.ar.nodes + 1 ≤ 24
theorem Ts.mem_nodes {x : Tm} : ∀ {T : Ts}, T.Mem x → x.ar.nodes + 1 ≤ T.nodes
 | .cons k n s a r, h => by
  simp only [Ts.nodes]
  rcases h with rfl | h
  ·simp only; omega
  ·have := Ts.mem_nodes h; omega
theorem Ts.mem_good {v : Int} {x : Tm} : ∀ {T : Ts}, T.Mem x → T.good v = true → (Ts.cons x.k x.n x.s x.ar .nil).good v = true
 | .cons k n s a r, h, hg => by
  simp only [Ts.good, Bool.and_eq_true] at hg ⊢
  rcases h with rfl | h
  ·exact ⟨hg.1, trivial⟩
  ·have := Ts.mem_good h hg.2
   simp only [Ts.good, Bool.and_eq_true] at this
   exact this
theorem tgd_down : Down tgd := fun t h x hx => by
 obtain ⟨h1, h2⟩ := h
 have h3 := Ts.mem_nodes hx
 refine ⟨?_, by omega⟩
 simp only [Ts.good, Bool.and_eq_true] at h1
 exact Ts.mem_good hx h1.1.2
theorem tgd.small {t : Tm} (h : tgd t) : t.ar.nodes ≤ 24 := by have := h.2; omega
def olderOk : List Gl → Nat → Prop
 | [], _ => True
 | g :: r, n => g.2 ≤ n ∧ olderOk r g.2
theorem olderOk.mono : ∀ {l : List Gl} {n m : Nat}, olderOk l n → n ≤ m → olderOk l m
 | [], _, _, _, _ => trivial
 | g :: r, n, m, h, hm => ⟨Nat.le_trans h.1 hm, h.2⟩
def chsOk : List Ch → Nat → Prop
 | [], _ => True
 | c :: cs, n => c.bound ≤ n ∧ olderOk (c.g :: c.next) cs.length ∧ (∀ g ∈ c.g :: c.next, tgd g.1) ∧ c.cls ≠ [] ∧ (∀ cl ∈ c.cls, cB cl = true) ∧ chsOk cs c.bound
theorem chsOk.mono : ∀ {l : List Ch} {n m : Nat}, chsOk l n → n ≤ m → chsOk l m
 | [], _, _, _, _ => trivial
 | c :: cs, n, m, h, hm => ⟨Nat.le_trans h.1 hm, h.2⟩
theorem chsOk.drop : ∀ {l : List Ch} {n : Nat}, chsOk l n → ∀ k, chsOk (l.drop k) n
 | [], _, _, _ => by simp [chsOk]
 | c :: cs, n, h, 0 => h
 | c :: cs, n, h, k + 1 => by
  have := chsOk.drop h.2.2.2.2.2 k
  exact this.mono h.1
theorem cnt_drop : ∀ (l : List Ch) (k : Nat), cntC (l.drop k) ≤ cntC l
 | [], k => by simp
 | c :: cs, 0 => Nat.le_refl _
 | c :: cs, k + 1 => by have := cnt_drop cs k; simp only [List.drop_succ_cons, cntC]; omega
theorem chsOk.len : ∀ {l : List Ch} {n : Nat}, chsOk l n → l.length ≤ cntC l
 | [], _, _ => Nat.le_refl _
 | c :: cs, n, h => by
  have h1 := chsOk.len h.2.2.2.2.2
  have h2 : 0 < c.cls.length := List.length_pos_iff.2 h.2.2.2.1
  simp only [List.length_cons, cntC]; omega
def mu (s : SS) : Nat := 25 * s.fuel + cntC s.ch
structure InvC (s : SS) : Prop where
 bok : Bok s.B
 gb : ∀ x ∈ s.B, tgd x.2
 ch : chsOk s.ch s.B.length
 fr : s.fresh + 8 * mu s ≤ 40000
 bl : s.B.length + 10100 * mu s ≤ 1000000000
structure Inv (s : SS) : Prop where
 c : InvC s
 gg : ∀ g ∈ s.goals, tgd g.1
 og : olderOk s.goals s.ch.length
theorem InvC.sm {s : SS} (h : InvC s) : SmB s.B := fun x hx => (h.gb x hx).small
theorem low_of {n : Int} (h0 : 0 ≤ n) (h1 : n < 1099511627776) : low n = n := by unfold low; omega
theorem node_shift {v k n m : Int} {s : ByteArray} {l : Nat} (h : nodeB v k n s l = true) (hv : v ≤ 8) (h0 : 0 ≤ m) (h1 : m ≤ 40000) : nodeB 549755813888 k (shiftN k n m) s l = true := by
 unfold nodeB at h ⊢
 unfold shiftN
 by_cases e : k = 0
 ·rw [if_pos e] at h ⊢
  rw [if_pos e]
  simp only [Bool.and_eq_true, decide_eq_true_eq] at h ⊢
  rw [low_of (n := n) (by omega) (by omega), low_of (n := m) (by omega) (by omega)]
  exact ⟨⟨⟨by omega, by omega⟩, h.1.2⟩, h.2⟩
 ·rw [if_neg e] at h ⊢
  rw [if_neg e]
  exact h
theorem Ts.shift_nil (m : Int) : Ts.nil.shift m = .nil := rfl
theorem Ts.shift_len (m : Int) (T : Ts) : (T.shift m).length = T.length := by
 induction T with
 | nil => rfl
 | cons k n s a r _ ih => rw [Ts.shift_cons]; simp only [Ts.length, ih]
theorem Ts.shift_nodes (m : Int) (T : Ts) : (T.shift m).nodes = T.nodes := by
 induction T with
 | nil => rfl
 | cons k n s a r iha ihr => rw [Ts.shift_cons]; simp only [Ts.nodes, iha, ihr]
theorem Ts.shift_good {v m : Int} (hv : v ≤ 8) (h0 : 0 ≤ m) (h1 : m ≤ 40000) (T : Ts) : T.good v = true → (T.shift m).good 549755813888 = true := by
 induction T with
 | nil => intro _; rfl
 | cons k n s a r iha ihr =>
  intro h
  rw [Ts.shift_cons]
  simp only [Ts.good, Bool.and_eq_true] at h ⊢
  exact ⟨⟨by rw [Ts.shift_len]; exact node_shift h.1.1 hv h0 h1, iha h.1.2⟩, ihr h.2⟩
theorem tgd_shift {v k n m : Int} {s : ByteArray} {T : Ts} (h : gB v k n s T = true) (hv : v ≤ 8) (h0 : 0 ≤ m) (h1 : m ≤ 40000) : tgd (Tm.shift ⟨k, n, s, T⟩ m) := by
 simp only [gB, Bool.and_eq_true, decide_eq_true_eq] at h
 refine ⟨?_, by show (T.shift m).nodes + 1 ≤ 24; rw [Ts.shift_nodes]; exact h.2⟩
 have := Ts.shift_good hv h0 h1 (.cons k n s T .nil) h.1.2
 rwa [Ts.shift_cons, Ts.shift_nil] at this
theorem body_gd {v m : Int} {o : Nat} {rest : List Gl} (hv : v ≤ 8) (h0 : 0 ≤ m) (h1 : m ≤ 40000) (hr : ∀ g ∈ rest, tgd g.1) : ∀ T : Ts, T.goals v = true → ∀ g ∈ bodyG T m o rest, tgd g.1
 | .nil, _ => hr
 | .cons k n s a r, h => by
  simp only [Ts.goals, Bool.and_eq_true] at h
  intro g hg
  rcases List.mem_cons.1 hg with rfl | hg
  ·exact tgd_shift h.1 hv h0 h1
  ·exact body_gd hv h0 h1 hr r h.2 g hg
theorem body_older {m : Int} {o : Nat} {rest : List Gl} (hr : olderOk rest o) : ∀ T : Ts, olderOk (bodyG T m o rest) o
 | .nil => hr
 | .cons k n s a r => ⟨Nat.le_refl _, body_older hr r⟩
theorem cB_parts {c : Cl} (h : cB c = true) : 0 ≤ c.vars ∧ c.vars ≤ 8 ∧ c.bd.length ≤ 5 ∧ c.bd.goals c.vars = true ∧ gB c.vars c.k c.n c.s c.hd = true := by
 simp only [cB, qB, Bool.and_eq_true, decide_eq_true_eq] at h
 exact ⟨h.1.1.1.1.1, h.1.1.1.1.2, h.1.1.1.2, h.1.1.2, h.1.2⟩
theorem goals_nodes {v : Int} : ∀ T : Ts, T.goals v = true → T.nodes ≤ 24 * T.length
 | .nil, _ => Nat.le_refl _
 | .cons k n s a r, h => by
  simp only [Ts.goals, Bool.and_eq_true] at h
  have h1 := goals_nodes r h.2
  have h2 := h.1
  simp only [gB, Bool.and_eq_true, decide_eq_true_eq] at h2
  simp only [Ts.nodes, Ts.length]; omega
theorem undo_len (B : Bnd) {n : Nat} (h : n ≤ B.length) : (undoM B n).length = n := by unfold undoM; simp; omega
theorem cl_tgd {cl : Cl} (h : cB cl = true) {m : Nat} (hm : m ≤ 40000) : tgd (cl.head.shift m) := by
 obtain ⟨h0, h1, _, _, h2⟩ := cB_parts h
 exact tgd_shift h2 h1 (by omega) (by omega)
theorem undo_Q {Q : Tm → Prop} {B : Bnd} (h : ∀ x ∈ B, Q x.2) (n : Nat) : ∀ x ∈ undoM B n, Q x.2 := fun x hx => h x (List.mem_of_mem_drop hx)
theorem pop_len (c : Ch) (more : List Cl) (cs : List Ch) : cs.length ≤ (popC c more cs).length := by
 cases more with
 | nil => exact Nat.le_refl _
 | cons x r => simp [popC]
theorem pop_cnt (c : Ch) (more : List Cl) (cs : List Ch) : cntC (popC c more cs) = more.length + cntC cs := by
 cases more with
 | nil => simp [popC]
 | cons x r => simp [popC, cntC]
theorem pop_inv {s : SS} {c : Ch} {cs : List Ch} {cl : Cl} {more : List Cl} (hI : InvC s) (h1 : s.ch = c :: cs) (h2 : c.cls = cl :: more) (g' : List Gl) :
  InvC ⟨(uniM 401 (cl.head.shift s.fresh) c.g.1 (undoM s.B c.bound) 0).B, s.fresh + cl.vars.toNat, s.fuel, g', popC c more cs, s.ev⟩ := by
 have hch := hI.ch
 rw [h1] at hch
 obtain ⟨a1, a2, a3, a4, a5, a6⟩ := hch
 have hfr := hI.fr
 have hbl := hI.bl
 have hmu : mu s = 25 * s.fuel + (more.length + 1 + cntC cs) := by unfold mu; rw [h1]; simp only [cntC, h2, List.length_cons]
 have hcl : cB cl = true := a5 cl (by rw [h2]; exact .head _)
 obtain ⟨v0, v1, _, _, _⟩ := cB_parts hcl
 have hmu' : mu ⟨(uniM 401 (cl.head.shift s.fresh) c.g.1 (undoM s.B c.bound) 0).B, s.fresh + cl.vars.toNat, s.fuel, g', popC c more cs, s.ev⟩ = 25 * s.fuel + (more.length + cntC cs) := by unfold mu; simp only [pop_cnt]
 have t1 := cl_tgd hcl (m := s.fresh) (by omega)
 have t2 := a3 c.g (.head _)
 have hu := undo_len s.B a1
 have bu : Bok (undoM s.B c.bound) := hI.bok.drop _
 have su : SmB (undoM s.B c.bound) := undo_Q (Q := fun t => t.ar.nodes ≤ 24) hI.sm _
 have hup := suni_up 401 (cl.head.shift s.fresh) c.g.1 (undoM s.B c.bound) 0 t1.small t2.small bu su (by omega)
 have hw := uni_w 401 (cl.head.shift s.fresh) c.g.1 (undoM s.B c.bound) 0 t1.small t2.small bu su (by omega)
 have hgb := uni_Q tgd_down 401 (cl.head.shift s.fresh) c.g.1 (undoM s.B c.bound) 0 (undo_Q hI.gb _) t1 t2
 obtain ⟨N, hN⟩ := hup.ext
 have hlen := hup.len
 have hle : c.bound ≤ (uniM 401 (cl.head.shift s.fresh) c.g.1 (undoM s.B c.bound) 0).B.length := by rw [hN]; simp; omega
 refine ⟨hup.bok, hgb, ?_, by rw [hmu']; simp only; omega, by rw [hmu']; simp only; omega⟩
 show chsOk (popC c more cs) _
 cases more with
 | nil => exact a6.mono hle
 | cons x r => exact ⟨hle, a2, a3, by simp, fun y hy => a5 y (by rw [h2]; exact .tail _ hy), a6⟩
theorem retry_ok : ∀ (n : Nat) (s : SS), InvC s → ((retryM n s).1 = 0 → Inv (retryM n s).2 ∧ mu (retryM n s).2 < mu s) ∧ (retryM n s).2.ev = s.ev ∧ ((retryM n s).1 = 0 ∨ (retryM n s).1 = 2 ∨ (retryM n s).1 = 4) ∧ (retryM n s).2.fuel = s.fuel
 | 0, s, hI => ⟨fun h => (by cases h), rfl, .inr (.inl rfl), rfl⟩
 | n + 1, s, hI => by
  unfold retryM
  cases h1 : s.ch with
  | nil => exact ⟨fun h => (by cases h), rfl, .inr (.inl rfl), rfl⟩
  | cons c cs =>
   simp only
   cases h2 : c.cls with
   | nil => exact ⟨fun h => (by cases h), rfl, .inr (.inl rfl), rfl⟩
   | cons cl more =>
    simp only
    have hmu : mu s = 25 * s.fuel + (more.length + 1 + cntC cs) := by unfold mu; rw [h1]; simp only [cntC, h2, List.length_cons]
    split
    ·exact ⟨fun h => (by cases h), rfl, .inr (.inr rfl), rfl⟩
    split
    ·refine ⟨fun _ => ⟨⟨pop_inv hI h1 h2 _, ?_, ?_⟩, ?_⟩, rfl, .inl rfl, rfl⟩
     ·have hch := hI.ch
      rw [h1] at hch
      obtain ⟨a1, a2, a3, a4, a5, a6⟩ := hch
      obtain ⟨v0, v1, _, v3, _⟩ := cB_parts (a5 cl (by rw [h2]; exact .head _))
      have := hI.fr
      exact body_gd v1 (by omega) (by omega) (fun g hg => a3 g (.tail _ hg)) _ v3
     ·have hch := hI.ch
      rw [h1] at hch
      obtain ⟨a1, a2, a3, a4, a5, a6⟩ := hch
      exact (body_older (a2.2.mono a2.1) _).mono (pop_len c more cs)
     ·rw [hmu]; unfold mu; simp only [pop_cnt]; omega
    ·obtain ⟨i1, i2, i3, i4⟩ := retry_ok n _ (pop_inv hI h1 h2 s.goals)
     refine ⟨fun h => ⟨(i1 h).1, Nat.lt_trans (i1 h).2 ?_⟩, i2, i3, i4⟩
     rw [hmu]; unfold mu; simp only [pop_cnt]; omega
theorem retryM_cons {n : Nat} {s : SS} {c : Ch} {cs : List Ch} {cl : Cl} {more : List Cl} (h1 : s.ch = c :: cs) (h2 : c.cls = cl :: more) : retryM (n + 1) s =
  if 400 < (uniM 401 (cl.head.shift s.fresh) c.g.1 (undoM s.B c.bound) 0).w then (4, ⟨(uniM 401 (cl.head.shift s.fresh) c.g.1 (undoM s.B c.bound) 0).B, s.fresh + cl.vars.toNat, s.fuel, s.goals, popC c more cs, s.ev⟩)
  else if (uniM 401 (cl.head.shift s.fresh) c.g.1 (undoM s.B c.bound) 0).ok = true then (0, ⟨(uniM 401 (cl.head.shift s.fresh) c.g.1 (undoM s.B c.bound) 0).B, s.fresh + cl.vars.toNat, s.fuel, bodyG cl.bd s.fresh cs.length c.next, popC c more cs, s.ev⟩)
  else retryM n ⟨(uniM 401 (cl.head.shift s.fresh) c.g.1 (undoM s.B c.bound) 0).B, s.fresh + cl.vars.toNat, s.fuel, s.goals, popC c more cs, s.ev⟩ := by
 conv => lhs; unfold retryM
 rw [h1]
 simp only
 rw [h2]
end Go.Proofs.YthliapbflkfdiabGreat
namespace Go.Proofs.YthliapbflkfdiabGreat
open Go.RowKit
set_option linter.unusedVariables false
set_option linter.unusedSimpArgs false
def lowT (m : Int) (t : Tm) : Prop := (t.k = 0 → t.n < m) ∧ t.ar.vars (· < m)
def FB (m : Int) (B : Bnd) : Prop := ∀ x ∈ B, x.1 < m ∧ lowT m x.2
theorem Ts.vars_mono {P Q : Int → Prop} (h : ∀ n, P n → Q n) (T : Ts) : T.vars P → T.vars Q := by
 induction T with
 | nil => exact id
 | cons k n s ar r iha ihr => exact fun ⟨a, b, c⟩ => ⟨fun e => h _ (a e), iha b, ihr c⟩
theorem lowT.mono {m m' : Int} (h : m ≤ m') {t : Tm} (ht : lowT m t) : lowT m' t := ⟨fun e => Int.lt_of_lt_of_le (ht.1 e) h, Ts.vars_mono (fun _ hn => Int.lt_of_lt_of_le hn h) _ ht.2⟩
theorem FB.mono {m m' : Int} (h : m ≤ m') {B : Bnd} (hB : FB m B) : FB m' B := fun x hx => ⟨Int.lt_of_lt_of_le (hB x hx).1 h, (hB x hx).2.mono h⟩
theorem look_low {m : Int} {B : Bnd} (hB : FB m B) {t : Tm} (ht : lowT m t) : lowT m (lookM B t) := by
 rcases look_mem (B := B) t with e | ⟨x, hx, e⟩
 ·rw [e]; exact ht
 ·rw [e]; exact (hB x hx).2
theorem tms_low {m : Int} {T : Ts} (h : T.vars (· < m)) : ∀ x ∈ T.tms, lowT m x := by
 induction T with
 | nil => intro x hx; cases hx
 | cons k n s ar r _ ih =>
  intro x hx
  rcases List.mem_cons.1 hx with rfl | hx
  ·exact ⟨h.1, h.2.1⟩
  ·exact ih h.2.2 x hx
theorem FB.get {m : Int} {B : Bnd} (hB : FB m B) {n : Int} (hn : m ≤ n) : bget n B = none := by
 induction B with
 | nil => rfl
 | cons x r ih =>
  simp only [bget]
  rw [if_neg (by have := (hB x (List.mem_cons_self ..)).1; omega)]
  exact ih fun y hy => hB y (List.mem_cons_of_mem _ hy)
theorem FB.cons {m : Int} {B : Bnd} (hB : FB m B) {v : Int} {t : Tm} (hv : v < m) (ht : lowT m t) : FB m ((v, t) :: B) := fun x hx => by
 rcases List.mem_cons.1 hx with rfl | hx
 ·exact ⟨hv, ht⟩
 ·exact hB x hx
def JoinFB (j : Bnd → Tm → Tm → Bnd) : Prop := ∀ m B a b, FB m B → lowT m a → lowT m b → (lookM B a).k = 0 → (lookM B b).k = 0 → FB m (j B a b)
theorem joinS_fb : JoinFB joinS := fun m B a b hB ha hb ka kb => hB.cons ((look_low hB ha).1 ka) (look_low hB hb)
theorem asg_fb {j : Bnd → Tm → Tm → Bnd} {m : Int} {B : Bnd} (hB : FB m B) {v : Int} {t : Tm} (hv : v < m) (ht : lowT m t) (w : Nat) : FB m (asgG (sysT j) v t B w).s := by
 unfold asgG
 split
 ·exact hB
 ·exact hB.cons hv (look_low hB ht)
theorem all_fb {m : Int} {g : Tm → Tm → Bnd → Nat → Ug Bnd} (hg : ∀ a b B w, FB m B → lowT m a → lowT m b → FB m (g a b B w).s) : ∀ (l l' : List Tm) (B : Bnd) (w : Nat), FB m B → (∀ x ∈ l, lowT m x) → (∀ x ∈ l', lowT m x) → FB m (allG g l l' B w).s
 | [], l', B, w, h, _, _ => by cases l' <;> exact h
 | _ :: _, [], B, w, h, _, _ => h
 | x :: l, y :: l', B, w, h, hl, hl' => by
  simp only [allG]
  have h1 := hg x y B w h (hl x (List.mem_cons_self ..)) (hl' y (List.mem_cons_self ..))
  split
  ·exact all_fb hg l l' _ _ h1 (fun z hz => hl z (List.mem_cons_of_mem _ hz)) (fun z hz => hl' z (List.mem_cons_of_mem _ hz))
  ·exact h1
theorem ite_fb {m : Int} {c : Prop} [Decidable c] {x y : Ug Bnd} (hx : FB m x.s) (hy : FB m y.s) : FB m (if c then x else y).s := by
 split
 ·exact hx
 ·exact hy
theorem uni_fb {j : Bnd → Tm → Tm → Bnd} (hj : JoinFB j) {m : Int} : ∀ (f : Nat) (a b : Tm) (B : Bnd) (w : Nat), FB m B → lowT m a → lowT m b → FB m (uniG (sysT j) f a b B w).s
 | 0, a, b, B, w, h, _, _ => h
 | f + 1, a, b, B, w, h, ha, hb => by
  simp only [uniG]
  split
  ·exact h
  ·have la := look_low h ha
   have lb := look_low h hb
   have va : (sysT j).view B a = tvw (lookM B a) := rfl
   have vb : (sysT j).view B b = tvw (lookM B b) := rfl
   rw [va, vb]
   by_cases ka : (lookM B a).k = 0
   ·rw [show tvw (lookM B a) = .var (lookM B a).n by unfold tvw; rw [if_pos ka]]
    by_cases kb : (lookM B b).k = 0
    ·rw [show tvw (lookM B b) = .var (lookM B b).n by unfold tvw; rw [if_pos kb]]
     show FB m (if (lookM B a).n = (lookM B b).n then B else j B a b)
     split
     ·exact h
     ·exact hj m B a b h ha hb ka kb
    ·rw [show tvw (lookM B b) = .node (lookM B b).k (lookM B b).n (lookM B b).s (lookM B b).ar.tms by unfold tvw; rw [if_neg kb]]
     exact asg_fb h (la.1 ka) hb _
   ·rw [show tvw (lookM B a) = .node (lookM B a).k (lookM B a).n (lookM B a).s (lookM B a).ar.tms by unfold tvw; rw [if_neg ka]]
    by_cases kb : (lookM B b).k = 0
    ·rw [show tvw (lookM B b) = .var (lookM B b).n by unfold tvw; rw [if_pos kb]]
     exact asg_fb h (lb.1 kb) ha _
    ·rw [show tvw (lookM B b) = .node (lookM B b).k (lookM B b).n (lookM B b).s (lookM B b).ar.tms by unfold tvw; rw [if_neg kb]]
     exact ite_fb (all_fb (fun a b B w h ha hb => uni_fb hj f a b B w h ha hb) _ _ _ _ h (tms_low la.2) (tms_low lb.2)) h
theorem tidy_rel {ρ : Int → Int → Prop} (hi : ∀ u v u' v', ρ u v → ρ u' v' → (u = u' ↔ v = v')) {T U : Ts} (h : TsR ρ T U) : ∀ ks ks' : List Int, Al ρ ks ks' → (T.tidyFrom ks).1 = (U.tidyFrom ks').1 ∧ Al ρ (T.tidyFrom ks).2 (U.tidyFrom ks').2 := by
 have hpos : ∀ {n n' : Int}, ρ n n' → ∀ {ks ks' : List Int}, Al ρ ks ks' → pos n ks = pos n' ks' := by
  intro n n' hn ks ks' hk
  induction hk with
  | nil => rfl
  | @cons x y l m hxy _ ih =>
   simp only [pos]
   by_cases e : n = x
   ·rw [if_pos e, if_pos ((hi _ _ _ _ hn hxy).1 e)]
   ·rw [if_neg e, if_neg fun e2 => e ((hi _ _ _ _ hn hxy).2 e2), ih]
 induction h with
 | nil => intro ks ks' hk; exact ⟨rfl, hk⟩
 | @var n n' s r r' hn _ ih =>
  intro ks ks' hk
  rw [Ts.tidyFrom_cons, Ts.tidyFrom_cons]
  have e1 : tV 0 n ks = tV 0 n' ks' := by
   unfold tV numV; rw [if_pos rfl, if_pos rfl, hpos hn hk, hk.len]
  have e2 : Al ρ (tS 0 n ks) (tS 0 n' ks') := by
   unfold tS numS; rw [if_pos rfl, if_pos rfl, hpos hn hk]
   split
   ·exact hk
   ·exact hk.app (.cons hn .nil)
  obtain ⟨i1, i2⟩ := ih _ _ (show Al ρ (Ts.nil.tidyFrom (tS 0 n ks)).2 (Ts.nil.tidyFrom (tS 0 n' ks')).2 from e2)
  refine ⟨?_, i2⟩
  rw [e1, i1]; rfl
 | @node k n s ar ar' r r' hk0 _ _ iha ihr =>
  intro ks ks' hk
  rw [Ts.tidyFrom_cons, Ts.tidyFrom_cons]
  have e1 : tV k n ks = n := by unfold tV; rw [if_neg hk0]
  have e1' : tV k n ks' = n := by unfold tV; rw [if_neg hk0]
  have e2 : tS k n ks = ks := by unfold tS; rw [if_neg hk0]
  have e2' : tS k n ks' = ks' := by unfold tS; rw [if_neg hk0]
  rw [e1, e1', e2, e2']
  obtain ⟨i1, i2⟩ := iha _ _ hk
  obtain ⟨j1, j2⟩ := ihr _ _ i2
  exact ⟨by rw [i1, j1], j2⟩
end Go.Proofs.YthliapbflkfdiabGreat
namespace Go.Proofs.YthliapbflkfdiabGreat
open Go.RowKit
set_option linter.unusedVariables false
end Go.Proofs.YthliapbflkfdiabGreat
namespace Go.Proofs.YthliapbflkfdiabGreat
open Go.RowKit
set_option linter.unusedVariables false
set_option linter.unusedSimpArgs false
def MapO (es : Array MapEntry) (ents : List (Int × Value)) : Prop := es.toList.map (fun e => (e.key, e.val)) = ents.map (fun x => (Value.int .i64 x.1, x.2))
def zeroM (P : Program) (t : TypeId) : Option Value := match P.underlying t with
 | some (.map kt et) => match P.underlying kt with
  | some (.int .i64) => zeroP P et
  | _ => none
 | _ => none
theorem zeroM_some {P : Program} {t : TypeId} {z : Value} (h : zeroM P t = some z) : ∃ kt et, P.underlying t = some (.map kt et) ∧ P.underlying kt = some (.int .i64) ∧ zeroP P et = some z := by
 unfold zeroM at h
 split at h
 ·rename_i kt et hu
  split at h
  ·rename_i hk; exact ⟨kt, et, hu, hk, h⟩
  ·cases h
 ·cases h
section
variable {P : Program} {n : Nat} {e : Env} {w : World} {Q : Exit → Act → World → Prop} {ops : Array Oper} {rest : List Oper} {ty : TypeId} {pos : String} {after : Array Edge} {d : Nat}
variable {M : List Nat} {w0 : World} {H H' : List (Nat × Obj)} {F : List (World → Prop)} {mb : Nat} {es : Array MapEntry} {clk : Nat} {ents : List (Int × Value)} {x y u : Operand} {v z : Value} {dst : Option Nat} {t kt : TypeId} {i : Int}
theorem run_lookup_t (hS : St M w0 H F w) (hx : ev n e x = .map (some mb)) (hy : ev n e y = .int .i64 i) (hT : zeroM P t = some z) (hat : At H mb (.map es clk)) (hm : MapO es ents) (hg : aget i ents = some v) :
  (execOp (ev n e) ⟨dst, .lookup t x y true, ty, pos, after, none⟩).run P w = .ok (.value (.tuple #[v, .bool true])) w := by
 obtain ⟨kt, et, h1, h2, h3⟩ := zeroM_some hT
 have hl := MapIs.lookup (P := P) (w := w) (mb := mb) (ents := ents) ⟨es, clk, hS.at_ hat, hm⟩ h1 h2 (run_zeroP h3) i true
 simp only [execOp, hx, hy]
 simp only [bind, pure]
 rw [Sem.run_bind', hl, hg]
 rfl
theorem run_lookup_f (hS : St M w0 H F w) (hx : ev n e x = .map (some mb)) (hy : ev n e y = .int .i64 i) (hT : zeroM P t = some z) (hat : At H mb (.map es clk)) (hm : MapO es ents) (hg : aget i ents = none) :
  (execOp (ev n e) ⟨dst, .lookup t x y true, ty, pos, after, none⟩).run P w = .ok (.value (.tuple #[z, .bool false])) w := by
 obtain ⟨kt, et, h1, h2, h3⟩ := zeroM_some hT
 have hl := MapIs.lookup (P := P) (w := w) (mb := mb) (ents := ents) ⟨es, clk, hS.at_ hat, hm⟩ h1 h2 (run_zeroP h3) i true
 simp only [execOp, hx, hy]
 simp only [bind, pure]
 rw [Sem.run_bind', hl, hg]
 rfl
theorem lst_makeMap (hS : St M w0 H F w) (hd : Nat.blt d n = true) (h : ∀ b w', St M w0 ((b, .map #[] 0) :: H) F w' → Lst P Q ops rest n ((d, .map (some b)) :: e) w') :
  Lst P Q ops (⟨some d, .makeMap t none, ty, pos, after, none⟩ :: rest) n e w := by
 refine lst_run (v := .map (some w.heap.size)) (w' := w.alloc (.map #[] 0)) ?_ hd (h _ _ (hS.alloc _))
 have := run_makeMap (P := P) t w
 simp only [execOp, Option.map_none, bind, pure]
 rw [Sem.run_bind', this]
 rfl
theorem lst_mapNew (hS : St M w0 H F w) (hx : ev n e x = .map (some mb)) (hy : ev n e y = .int .i64 i) (hu : ev n e u = v) (hT : zeroM P t = some z) (hm : MapO es ents) (hg : aget i ents = none)
  (hU : Upd H mb (.map es clk) (.map (es.push { key := .int .i64 i, val := v, born := clk }) (clk + 1)) H')
  (h : ∀ w', MapO (es.push { key := .int .i64 i, val := v, born := clk }) (ents ++ [(i, v)]) → St M w0 H' F w' → Lst P Q ops rest n e w') :
  Lst P Q ops (⟨none, .mapUpdate t x y u, ty, pos, after, none⟩ :: rest) n e w := by
 obtain ⟨kt, et, h1, h2, h3⟩ := zeroM_some hT
 have hb := hS.at_ hU.at_
 have hf := findNow_ints i es.toList ents 0 hm
 rw [aidx_none.2 hg] at hf
 refine lst_skip0 (w' := { w with heap := w.heap.setIfInBounds mb (.map (es.push { key := .int .i64 i, val := v, born := clk }) (clk + 1)) }) ?_ (h _ ?_ (hS.turn hU ⟨rfl, rfl, rfl, by simp, fun k _ hk => (MapKept.heap_set hb).2 k (by simpa using hk)⟩ (MapKept.heap_set hb).1))
 ·have : (Instr.mapUpdate t (.map (some mb)) (.int .i64 i) v).run P w = .ok () { w with heap := w.heap.setIfInBounds mb (.map (es.push { key := .int .i64 i, val := v, born := clk }) (clk + 1)) } := by
   simp [Instr.mapUpdate, run_underlying h1, MapKept.run_getObj_map hb, MapKept.run_checkKey h2 (isKey_int i), MapKept.run_findKey h2 hf, MapKept.run_setObj_map _ hb, Result.andThen]
  simp only [execOp, hx, hy, hu, bind, pure]
  rw [Sem.run_bind', this]
  rfl
 ·unfold MapO at hm ⊢
  rw [Array.toList_push, List.map_append, List.map_append, hm]; rfl
theorem map_erase {α β : Type} (f : α → β) : ∀ (l : List α) (i : Nat), (l.eraseIdx i).map f = (l.map f).eraseIdx i
 | [], _ => rfl
 | _ :: _, 0 => rfl
 | a :: l, i + 1 => by simp [map_erase f l i]
theorem aidx_mid {A C : List (Int × Value)} (hA : aget i A = none) : ∀ j, aidx i (A ++ (i, v) :: C) j = some (j + A.length, v) := by
 induction A with
 | nil => intro j; simp [aidx]
 | cons a A ih =>
  intro j
  simp only [aget] at hA
  by_cases e1 : i = a.1
  ·simp [e1] at hA
  ·rw [if_neg e1] at hA
   simp only [List.cons_append, aidx, if_neg e1]
   rw [ih hA (j + 1)]
   simp; omega
theorem lst_delete {A C : List (Int × Value)} {ts : Array TypeId} (hS : St M w0 H F w) (hx : ev n e x = .map (some mb)) (hy : ev n e y = .int .i64 i) (hts : ts[0]? = some t) (hT : zeroM P t = some z) (hm : MapO es (A ++ (i, v) :: C)) (hA : aget i A = none)
  (hU : Upd H mb (.map es clk) (.map (es.eraseIdxIfInBounds A.length) clk) H')
  (h : ∀ w', MapO (es.eraseIdxIfInBounds A.length) (A ++ C) → St M w0 H' F w' → Lst P Q ops rest n e w') :
  Lst P Q ops (⟨none, .call ⟨.builtin .delete, #[x, y], ts⟩, ty, pos, after, none⟩ :: rest) n e w := by
 obtain ⟨kt, et, h1, h2, h3⟩ := zeroM_some hT
 have hb := hS.at_ hU.at_
 have hf := findNow_ints i es.toList _ 0 hm
 rw [aidx_mid hA 0, Nat.zero_add] at hf
 refine lst_run0 (v := .tuple #[]) (w' := { w with heap := w.heap.setIfInBounds mb (.map (es.eraseIdxIfInBounds A.length) clk) }) ?_ (h _ ?_ (hS.turn hU ⟨rfl, rfl, rfl, by simp, fun k _ hk => (MapKept.heap_set hb).2 k (by simpa using hk)⟩ (MapKept.heap_set hb).1))
 ·have : (Builtin.delete_ ts ty #[.map (some mb), .int .i64 i]).run P w = .ok (.tuple #[]) { w with heap := w.heap.setIfInBounds mb (.map (es.eraseIdxIfInBounds A.length) clk) } := by
   simp [Builtin.delete_, hts, run_underlying h1, MapKept.run_getObj_map hb, MapKept.run_checkKey h2 (isKey_int i), MapKept.run_findKey h2 hf, MapKept.run_setObj_map _ hb, Result.andThen]
  simp only [execOp, resolve, List.map_toArray, List.map_cons, List.map_nil, hx, hy, bind, pure, Sem.bind, invoke, builtin]
  rw [Sem.run_bind', this]
  rfl
 ·unfold MapO at hm ⊢
  have e1 : (es.eraseIdxIfInBounds A.length).toList = es.toList.eraseIdx A.length := by
   unfold Array.eraseIdxIfInBounds
   split
   ·simp
   ·rename_i hl
    rw [List.eraseIdx_of_length_le]
    simpa using hl
  rw [e1, map_erase, hm, ← map_erase, List.eraseIdx_append_of_length_le (Nat.le_refl _)]
  simp
end
end Go.Proofs.YthliapbflkfdiabGreat
namespace Go.Proofs.YthliapbflkfdiabGreat
open Go.RowKit
set_option linter.unusedVariables false
set_option linter.unusedSimpArgs false
structure GB where
 v : Int
 t : LT
def bnd (G : List GB) : Bnd := G.map fun x => (x.v, x.t.tm)
def ents (G : List GB) : List (Int × Value) := (G.map fun x => (x.v, tv x.t)).reverse
def trailV (G : List GB) : List Value := (G.map fun x => Value.int .i64 x.v).reverse
def GRd (G : List GB) (w : World) : Prop := ∀ x ∈ G, LRd x.t w
def gget (v : Int) : List GB → Option GB
 | [] => none
 | x :: r => if v = x.v then some x else gget v r
theorem bget_gget (v : Int) : ∀ G : List GB, bget v (bnd G) = (gget v G).map (·.t.tm)
 | [] => rfl
 | x :: r => by
  show (if v = x.v then some x.t.tm else bget v (bnd r)) = _
  simp only [gget]
  by_cases e : v = x.v
  ·rw [if_pos e, if_pos e]; rfl
  ·rw [if_neg e, if_neg e]; exact bget_gget v r
theorem aget_snoc (v : Int) (y : Int × Value) : ∀ A : List (Int × Value), aget v (A ++ [y]) = (aget v A).orElse fun _ => if v = y.1 then some y.2 else none
 | [] => by simp [aget]
 | x :: r => by
  simp only [List.cons_append, aget]
  by_cases e : v = x.1
  ·rw [if_pos e, if_pos e]; rfl
  ·rw [if_neg e, if_neg e]; exact aget_snoc v y r
theorem ents_cons (x : GB) (G : List GB) : ents (x :: G) = ents G ++ [(x.v, tv x.t)] := by simp [ents]
theorem trail_cons (x : GB) (G : List GB) : trailV (x :: G) = trailV G ++ [.int .i64 x.v] := by simp [trailV]
theorem bnd_len (G : List GB) : (bnd G).length = G.length := by simp [bnd]
theorem aget_gget (v : Int) : ∀ G : List GB, Bok (bnd G) → aget v (ents G) = (gget v G).map fun x => tv x.t
 | [], _ => rfl
 | x :: r, h => by
  have ih := aget_gget v r h.2.2
  rw [ents_cons, aget_snoc, ih]
  simp only [gget]
  by_cases e : v = x.v
  ·have h0 : bget x.v (bnd r) = none := h.1
   rw [bget_gget, Option.map_eq_none_iff] at h0
   rw [if_pos e, if_pos e, e, h0]; rfl
  ·rw [if_neg e, if_neg e]
   cases gget v r <;> rfl
theorem gget_mem {v : Int} : ∀ {G : List GB} {x : GB}, gget v G = some x → x ∈ G ∧ x.v = v
 | y :: r, x, h => by
  simp only [gget] at h
  by_cases e : v = y.v
  ·rw [if_pos e] at h; cases h; exact ⟨.head _, e.symm⟩
  ·rw [if_neg e] at h
   obtain ⟨h1, h2⟩ := gget_mem h
   exact ⟨.tail _ h1, h2⟩
structure BM (G : List GB) (it : TypeId) (es : Array MapEntry) (TR : Value) (O : List (Nat × Obj)) (F : List (World → Prop)) : Prop where
 mp : MapO es (ents G)
 row : Row it 1 TR G.length (trailV G) O
 rd : Und F (GRd G)
 ok : Bok (bnd G)
theorem BM.tail {G : List GB} {it : TypeId} {es : Array MapEntry} {TR : Value} {O : List (Nat × Obj)} {F : List (World → Prop)} {φ : World → Prop} (h : BM G it es TR O F) : BM G it es TR O (φ :: F) := ⟨h.mp, h.row, h.rd.tail, h.ok⟩
theorem BM.mono {G : List GB} {it : TypeId} {es : Array MapEntry} {TR : Value} {O : List (Nat × Obj)} {F F' : List (World → Prop)} (h : BM G it es TR O F) (hs : ∀ φ ∈ F, φ ∈ F') : BM G it es TR O F' := ⟨h.mp, h.row, h.rd.mono hs, h.ok⟩
end Go.Proofs.YthliapbflkfdiabGreat
namespace Go.Proofs.YthliapbflkfdiabGreat
open Go.RowKit
set_option linter.unusedVariables false
set_option linter.unusedSimpArgs false
set_option maxRecDepth 100000
set_option maxHeartbeats 1000000
abbrev pt (b : Nat) : Value := .pointer (some ⟨b, 0, none⟩)
abbrev tob (t : LT) : Obj := .cells (tcs t).toArray 60
abbrev sob (mb : Nat) (TR : Value) (rest : List Value) : Obj := .cells (.map (some mb) :: TR :: rest).toArray 45
section
variable {M : List Nat} {w0 : World} {H : List (Nat × Obj)} {F : List (World → Prop)} {b mb clk : Nat} {es : Array MapEntry} {TR : Value} {rest : List Value} {O : List (Nat × Obj)} {G : List GB}
theorem slook_any (t : LT) (w : World) (hB : BM G 3 es TR O F) (hA : Und F (LRd t)) (hS : St M w0 ((b, sob mb TR rest) :: (mb, .map es clk) :: H) F w) :
  Calls Tryz.prog 66 #[pt b, tv t] w fun e w' => ∃ u : LT, e = .returned (tv u) ∧ u.tm = lookM (bnd G) t.tm ∧ Und F (LRd u) ∧ St M w0 ((b, sob mb TR rest) :: (mb, .map es clk) :: H) F w' := by
 have hmap := hB.mp
 refine goes_enter2 Tryz.func66 rfl Tryz.ntmps66 rfl ?_
 refine Ze ?_
 clear hS
 intro b1 wx1 hS
 refine Zz ?_
 clear hS
 intro b2 wx2 hS
 refine Zdk ?_
 refine goes_loop0  (7 :: 8 :: 9 :: 11 :: 12 :: 13 :: 14 :: 15 :: 16 :: 17 :: 10 :: 18 :: 19 :: 5 :: 6 :: 20 :: 21 :: 22 :: 23 :: []) (fun (x : Nat × LT) w' => Clear (bnd G) x.1 x.2.tm ∧ lookF (bnd G) x.1 x.2.tm = lookM (bnd G) t.tm ∧ Und F (LRd x.2) ∧ St M w0 ((b2, .cells [.int .i64 0, .int .i64 0, .string ⟨#[]⟩, .slice none 0 0].toArray 60) :: (b1, tob x.2) :: (b, sob mb TR rest) :: (mb, .map es clk) :: H) F w') (fun x => x.1) (((bnd G).length, t)) ?_ ?_
 ·exact ⟨Clear.start _ _, rfl, hA, hS⟩
 clear hS
 rintro ⟨m, u⟩ w2 jv ⟨hc, hl, hu, hS⟩ ih
 dsimp only at hc hl hu hS
 by_cases hk : u.k = 0
 ·refine Zi ?_
  refine Zct ?_
  refine Zb0 ?_
  refine Zbu ?_
  refine ZaP ?_
  refine Zi ?_
  cases hg : gget u.n G with
  | none =>
   have hbg : bget u.n (bnd G) = none := by rw [bget_gget, hg]; rfl
   have hag : aget u.n (ents G) = none := by rw [aget_gget _ _ hB.ok, hg]; rfl
   refine ZfR ?_
   replace hS := hS.drew
   refine Z1 ?_
   refine ZG ?_
   refine Zbd ?_
   refine ZG ?_
   refine ZfS ?_
   refine Zem ?_
   refine Zr ?_
   refine Zz ?_
   clear hS
   intro b3 wx3 hS
   refine Zar ?_
   refine Zr ?_
   refine Zc ?_
   clear hS
   intro wx4 hS
   refine Zar ?_
   refine Zek ?_
   refine ZC ?_
   refine ZaA ?_
   refine Zak ?_
   refine Zc ?_
   clear hS
   intro wx5 hS
   refine Zb ?_
   refine ZfT ?_
   have e : lookM (bnd G) t.tm = u.tm := by rw [← hl]; exact lookF_free hbg _
   exact ⟨u, rfl, e.symm, hu, hS.drop.drop.drop⟩
  | some x =>
   obtain ⟨xv, xt⟩ := x
   have hbg : bget u.n (bnd G) = some xt.tm := by rw [bget_gget, hg]; rfl
   have hag : aget u.n (ents G) = some (tv xt) := by rw [aget_gget _ _ hB.ok, hg]; rfl
   obtain ⟨hxm, _⟩ := gget_mem hg
   obtain ⟨p, hp, hcp⟩ := hc.step hB.ok hk hbg
   refine ZfR ?_
   replace hS := hS.drew
   refine Z1 ?_
   refine ZG ?_
   refine Zbd ?_
   refine ZG ?_
   refine ZfS ?_
   refine Zem ?_
   refine Zr ?_
   refine Zz ?_
   clear hS
   intro b3 wx3 hS
   refine Zar ?_
   refine Zr ?_
   refine Zc ?_
   clear hS
   intro wx4 hS
   refine Zar ?_
   refine Zek ?_
   refine ZC ?_
   refine ZT ?_
   refine ZaZ ?_
   refine Zak ?_
   refine Zc ?_
   clear hS
   intro wx5 hS
   refine Zb ?_
   refine Zbv ?_
   refine ih ((p, xt)) _ _ ?_ ?_ (by kernel_rfl)
   ·exact hp
   ·refine ⟨hcp, ?_, hB.rd.imp fun w h => h _ hxm, hS.drop⟩
    rw [← hl]
    obtain ⟨m, rfl⟩ : ∃ m', m = m' + 1 := ⟨m - 1, by omega⟩
    rw [lookF_step (t := u.tm) hk hbg]; exact (lookF_enough hB.ok p xt.tm hcp m (by omega)).symm
 ·refine Zi ?_
  refine Zct ?_
  refine ZF ?_
  refine Za7 ?_
  refine Zg ?_
  refine Zak ?_
  refine Zc ?_
  clear hS
  intro wx3 hS
  refine Zb ?_
  refine ZfT ?_
  have e : lookM (bnd G) t.tm = u.tm := by rw [← hl]; exact lookF_nonvar hk _
  exact ⟨u, rfl, e.symm, hu, hS.drop.drop⟩
abbrev suob (b : Nat) (work : Nat) : Obj := .cells [pt b, .int .i64 (work : Nat)].toArray 125
theorem large_any (ub k : Nat) (w : World) (hS : St M w0 ((ub, suob b k) :: H) F w) :
  Calls Tryz.prog 70 #[pt ub] w fun e w' => e = .returned (.bool (decide (400 < k))) ∧ St M w0 ((ub, suob b k) :: H) F w' := by
 by_cases h : 400 < k
 ·rw [decide_eq_true h]
  refine goes_enter1 Tryz.func70 rfl Tryz.ntmps70 rfl ?_
  refine Zdl ?_
  refine Zw ?_
  refine ZS ?_
  refine ZaG ?_
  refine Zd ?_
  refine goes_ret1 Tryz.func70 rfl (by conv=>lhs;whnf) ?_
  exact ⟨rfl, hS⟩
 ·rw [decide_eq_false h]
  refine goes_enter1 Tryz.func70 rfl Tryz.ntmps70 rfl ?_
  refine Zdl ?_
  refine Zw ?_
  refine ZS ?_
  refine ZaG ?_
  refine Zd ?_
  refine goes_ret1 Tryz.func70 rfl (by conv=>lhs;whnf) ?_
  exact ⟨rfl, hS⟩
theorem bind_any (v : Int) (t : LT) (w : World) (hB : BM G 3 es TR O F) (hv : bget v (bnd G) = none) (hn : t.k = 0 → t.n ≠ v ∧ bget t.n (bnd G) = none) (hA : Und F (LRd t)) (hl : G.length ≤ 1099511627776)
  (hS : St M w0 ((b, sob mb TR rest) :: (mb, .map es clk) :: (O ++ H)) F w) :
  Calls Tryz.prog 89 #[pt b, .int .i64 v, tv t] w fun e w' => ∃ es' clk' TR' O', e = .returned (.tuple #[]) ∧ BM (⟨v, t⟩ :: G) 3 es' TR' O' F ∧ St M w0 ((b, sob mb TR' rest) :: (mb, .map es' clk') :: (O' ++ H)) F w' := by
 have hmap := hB.mp
 have hag : aget v (ents G) = none := by
  rw [aget_gget _ _ hB.ok]
  rw [bget_gget, Option.map_eq_none_iff] at hv
  rw [hv]; rfl
 refine goes_enter3 Tryz.func89 rfl Tryz.ntmps89 rfl ?_
 refine Ze ?_
 clear hS
 intro b1 wx1 hS
 refine ZH ?_
 refine ZfU ?_
 replace hS := hS.drew
 refine Z1 ?_
 refine ZG ?_
 refine Zq ?_
 refine ZcU ?_
 refine ZM ?_
 refine lst_mapNew hS rfl rfl (by conv=>lhs;whnf) rfl hmap hag (.tail (.tail .head)) ?_
 clear hS
 intro w5 hm' hS
 refine Zb ?_
 refine ZV ?_
 refine ZaB ?_
 refine Za8 ?_
 refine Zbe ?_
 clear hS
 intro b2 wx2 hS
 refine lst_app (sz := 1) (bts := 8) hS (by conv=>lhs;whnf) rfl rfl rfl rfl (hB.row) rfl rfl (.cons _ (List.perm_append_comm_assoc [_, _, _] _ _)) (by omega) (by omega) rfl ?_
 clear hS
 intro v' O' w6 hrow' hS
 obtain ⟨A', c', rfl⟩ := hrow'.form
 replace hS := hS.perm (List.perm_append_comm_assoc O' [_, _, _] _)
 refine ZaB ?_
 refine ZA ?_
 clear hS
 intro wx3 hS
 refine Zb ?_
 refine goes_end0 Tryz.func89 rfl ?_
 refine ⟨_, _, _, O', rfl, ⟨by rw [ents_cons]; exact hm', by rw [trail_cons]; exact hrow', ?_, ?_⟩, hS.drop⟩
 ·exact fun w h x hx => by
   rcases List.mem_cons.1 hx with rfl | hx
   ·exact hA w h
   ·exact hB.rd w h x hx
 ·exact ⟨hv, hn, hB.ok⟩
def entsO (l : List GB) : List (Int × Value) := l.map fun x => (x.v, tv x.t)
theorem ents_rev (G : List GB) : ents G = entsO G.reverse := by simp [ents, entsO]
theorem trail_rev (G : List GB) : trailV G = G.reverse.map fun x => Value.int .i64 x.v := by simp [trailV]
theorem newer_free : ∀ (N R : List GB) (x : GB), Bok (bnd (N ++ R)) → x ∈ N → aget x.v (ents R) = none
 | y :: N, R, x, h, hx => by
  have hR : Bok (bnd R) := by
   have := Bok.drop h (y :: N).length
   rw [show bnd (y :: N ++ R) = bnd (y :: N) ++ bnd R by simp [bnd]] at this
   rwa [List.drop_append_of_le_length (by simp [bnd]), show (bnd (y :: N)).drop (y :: N).length = [] by simp [bnd], List.nil_append] at this
  rcases List.mem_cons.1 hx with rfl | hx
  ·have h1 : bget x.v (bnd (N ++ R)) = none := h.1
   rw [show bnd (N ++ R) = bnd N ++ bnd R by simp [bnd], bget_app] at h1
   rw [aget_gget _ _ hR]
   have h2 : bget x.v (bnd R) = none := by
    cases hq : bget x.v (bnd N) with
    | none => rw [hq] at h1; simpa using h1
    | some u => rw [hq] at h1; cases h1
   rw [bget_gget, Option.map_eq_none_iff] at h2
   rw [h2]; rfl
  ·exact newer_free N R x h.2.2 hx
theorem sundo_any (n : Nat) (w : World) (hB : BM G 3 es TR O F) (hn : n ≤ G.length) (hl : G.length ≤ 1099511627776)
  (hS : St M w0 ((b, sob mb TR rest) :: (mb, .map es clk) :: (O ++ H)) F w) :
  Calls Tryz.prog 43 #[pt b, .int .i64 (n : Nat)] w fun e w' => ∃ es' TR', e = .returned (.tuple #[]) ∧ BM (G.drop (G.length - n)) 3 es' TR' O F ∧ St M w0 ((b, sob mb TR' rest) :: (mb, .map es' clk) :: (O ++ H)) F w' := by
 have hrow := hB.row
 obtain ⟨A, cap, rfl⟩ := hrow.form
 have hcap := hrow.cap
 have hcut := hrow.cut hn
 have hfin : ∀ es', MapO es' (ents (G.drop (G.length - n))) → BM (G.drop (G.length - n)) 3 es' (.slice A n cap) O F := fun es' hm => by
  have e0 : (G.drop (G.length - n)).length = n := by simp; omega
  have e1 : (trailV G).take (n * 1) = trailV (G.drop (G.length - n)) := by
   rw [trail_rev, trail_rev, Nat.mul_one, ← List.map_take, List.take_reverse]
  refine ⟨hm, ?_, hB.rd.imp fun w h x hx => h x (List.mem_of_mem_drop hx), ?_⟩
  ·rw [e0, ← e1]; exact hcut
  ·have := Bok.drop hB.ok (G.length - n)
   rwa [bnd, ← List.map_drop] at this
 by_cases hlt : n < G.length
 ·obtain ⟨g, sp, rfl, rfl, _⟩ := hrow.some_ (by omega)
  generalize hR : G.drop (G.length - n) = R at hfin ⊢
  obtain ⟨N, hN⟩ : ∃ N, G = N ++ R := ⟨G.take (G.length - n), by rw [← hR, List.take_append_drop]⟩
  have hRn : R.length = n := by rw [← hR]; simp; omega
  have hGl : G.length = N.length + R.length := by rw [hN]; simp
  have hm0 : MapO es (ents R ++ entsO N.reverse) := by
   have := hB.mp
   rw [hN, ents_rev, List.reverse_append] at this
   rw [ents_rev]
   simpa [entsO] using this
  refine goes_enter2 Tryz.func43 rfl Tryz.ntmps43 rfl ?_
  refine Zal ?_
  refine Zw ?_
  refine Za8 ?_
  refine Zfi ?_
  refine ZQ ?_
  refine goes_loop1 13 (14 :: 15 :: 16 :: 5 :: 17 :: 18 :: 19 :: 20 :: 21 :: 22 :: []) (fun (E : List GB) v w' => ∃ D es, N.reverse = D ++ E ∧ v = .int .i64 (D.length : Nat) ∧ MapO es (ents R ++ entsO E) ∧ St M w0 ((b, sob mb (.slice (some ⟨g, 0, none⟩) G.length cap) rest) :: (mb, .map es clk) :: ([(g, .cells (trailV G ++ sp).toArray 3)] ++ H)) F w') (fun E => E.length) (N.reverse) ?_ (by conv=>lhs;whnf) ?_
  ·exact ⟨[], es, rfl, rfl, hm0, hS⟩
  clear hS
  rintro E _ w2 jv ⟨D, es2, hDE, rfl, hm, hS⟩ ih
  have hlen : N.length = D.length + E.length := by have := congrArg List.length hDE; simpa using this
  cases E with
  | nil =>
   simp only [List.length_nil] at hlen
   refine ZJ ?_
   refine ZV ?_
   refine ZaB ?_
   refine Za8 ?_
   refine Zeu ?_
   refine ZaB ?_
   refine ZA ?_
   clear hS
   intro wx1 hS
   refine Zb ?_
   refine goes_end0 Tryz.func43 rfl ?_
   exact ⟨es2, _, rfl, hfin es2 (by simpa [entsO] using hm), hS⟩
  | cons x E =>
   simp only [List.length_cons] at hlen
   have hcell : w2.cell? ⟨g, 0 + ((n : Nat) : Int).toNat * 1 + ((D.length : Nat) : Int).toNat * 1, none⟩ = some (.int .i64 x.v) := by
    rw [show 0 + ((n : Nat) : Int).toNat * 1 + ((D.length : Nat) : Int).toNat * 1 = n + D.length by omega, cell_own (hS.own (g, _) (.tail _ (.tail _ (.head _)))), trail_rev, hN, List.reverse_append, hDE, List.getElem?_append_left (by simp; omega), List.map_append, List.getElem?_append_right (by simp; omega), List.map_append, List.getElem?_append_right (by simp; omega)]
    have : n + D.length - (List.map (fun x => Value.int .i64 x.v) R.reverse).length - (List.map (fun x => Value.int .i64 x.v) D).length = 0 := by simp; omega
    rw [this]; rfl
   have hxN : x ∈ N := by
    have : x ∈ N.reverse := by rw [hDE]; simp
    simpa using this
   have hA : aget x.v (ents R) = none := newer_free N R x (by rw [← hN]; exact hB.ok) hxN
   refine Zbm ?_
   refine Zcy ?_
   refine ZW ?_
   refine Za5 ?_
   refine Za8 ?_
   refine lst_delete hS rfl rfl rfl rfl hm hA (.tail .head) ?_
   clear hS hm
   intro w5 hm hS
   refine Zao ?_
   refine ih (E) _ _ _ ?_ ?_ (by conv=>lhs;whnf) (by kernel_rfl)
   ·simp
   ·exact ⟨D ++ [x], _, by rw [hDE]; simp, by simp, hm, hS⟩
 ·obtain rfl : n = G.length := by omega
  refine goes_enter2 Tryz.func43 rfl Tryz.ntmps43 rfl ?_
  refine Zal ?_
  refine Zw ?_
  refine Za8 ?_
  refine Zfi ?_
  refine ZQ ?_
  refine goes_loop1 13 (14 :: 15 :: 16 :: 5 :: 17 :: 18 :: 19 :: 20 :: 21 :: 22 :: []) (fun (x : Unit) v w' => v = .int .i64 0 ∧ St M w0 ((b, sob mb (.slice A G.length cap) rest) :: (mb, .map es clk) :: (O ++ H)) F w') (fun _ => 0) (()) ?_ (by conv=>lhs;whnf) ?_
  ·exact ⟨rfl, hS⟩
  clear hS
  rintro _ _ w2 jv ⟨rfl, hS⟩ ih
  refine ZJ ?_
  refine ZV ?_
  refine ZaB ?_
  refine Za8 ?_
  refine Zeu ?_
  refine ZaB ?_
  refine ZA ?_
  clear hS
  intro wx1 hS
  refine Zb ?_
  refine goes_end0 Tryz.func43 rfl ?_
  refine ⟨es, _, rfl, ?_, hS⟩
  exact hfin es (by rw [Nat.sub_self]; exact hB.mp)
end
end Go.Proofs.YthliapbflkfdiabGreat
