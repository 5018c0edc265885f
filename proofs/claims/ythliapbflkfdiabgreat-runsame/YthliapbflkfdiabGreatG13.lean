/- XColl3, XAll, MinMax, HOps, HWalk1: texts that follow one another, laid into one file. -/
import Derived.Test.YthliapbflkfdiabGreatZ0
import Derived.Test.YthliapbflkfdiabGreatG12
import Derived.Test.YthliapbflkfdiabGreatG0
import Derived.Test.YthliapbflkfdiabGreatG1
import Derived.Test.YthliapbflkfdiabGreatProg
import Derived.Laws.StructEq
namespace Go.Proofs.YthliapbflkfdiabGreat
open Go.RowKit
set_option linter.unusedVariables false
set_option linter.unusedSimpArgs false
set_option maxRecDepth 8000
theorem chain_all {L : List XL} {P : Int → Prop} {Qk : Nat → Prop} (hP : ∀ i : Int, i ≠ -1 → P i → Qk i.toNat ∧ P (lnk L i.toNat).nx) : ∀ (f : Nat) (i : Int) (p : List Bool × List Nat), P i → (∀ k ∈ p.2, Qk k) → ∀ k ∈ (chainX L f i p).2, Qk k
 | 0, i, p, _, hq => hq
 | f + 1, i, p, hi, hq => by
  simp only [chainX]
  by_cases h1 : i = -1
  ·rw [if_pos h1]; exact hq
  rw [if_neg h1]
  by_cases h2 : p.1[i.toNat]? = some true
  ·rw [if_pos h2]; exact hq
  rw [if_neg h2]
  obtain ⟨a1, a2⟩ := hP i h1 hi
  refine chain_all hP f _ _ a2 fun k hk => ?_
  rcases List.mem_append.1 hk with hk | hk
  ·exact hq k hk
  ·rw [List.mem_singleton.1 hk]; exact a1
theorem chains_all {L : List XL} {P : Int → Prop} {Qk : Nat → Prop} (hP : ∀ i : Int, i ≠ -1 → P i → Qk i.toNat ∧ P (lnk L i.toNat).nx) : ∀ (C : List XC) (p : List Bool × List Nat), (∀ c ∈ C, P (c.at_ : Nat)) → (∀ k ∈ p.2, Qk k) → ∀ k ∈ (chainsX L C p).2, Qk k
 | [], p, _, hq => hq
 | c :: r, p, hC, hq => chains_all hP r _ (fun c hc => hC c (List.mem_cons_of_mem _ hc)) (chain_all hP _ _ p (hC c (List.mem_cons_self ..)) hq)
def Pl (L : List XL) (cs : List HC) (i : Int) : Prop := ∃ (R : Tm → Int → Prop) (G : List Gl), ChainR R L i G ∧ ∀ t a, R t a → isAddr cs a = true
theorem Pl.next {L : List XL} {cs : List HC} (i : Int) (hi : i ≠ -1) (h : Pl L cs i) : isAddr cs (lnk L i.toNat).g = true ∧ Pl L cs (lnk L i.toNat).nx := by
 obtain ⟨R, G, hc, hR⟩ := h
 cases G with
 | nil => exact absurd hc hi
 | cons g r =>
  obtain ⟨k, l, rfl, h2, h3, h4, h5, h6⟩ := hc
  rw [Int.toNat_natCast, lnk_of h2]
  exact ⟨hR _ _ h3, R, r, h6, hR⟩
theorem ChsRel.pl {q f : Nat} {L : List XL} : ∀ {B : Bnd} {h : HH} {cs : List Ch} {ds : List XC}, ChsRel q f L B h cs ds → ∀ d ∈ ds, Pl L h.cs (d.at_ : Nat)
 | _, _, [], [], _, d, hd => by cases hd
 | _, h, c :: cs, e :: ds, ⟨R, g, b1, _, b3, b4, _, _, b7⟩, d, hd => by
  have hl := b1.len.1
  have ht := b1.ht
  have up : ∀ a, isAddr g.cs a = true → isAddr h.cs a = true := fun a ha => by
   obtain ⟨a0, a1⟩ := isAddr_iff'.1 ha
   exact isAddr_iff'.2 ⟨a0, by omega⟩
  rcases List.mem_cons.1 hd with rfl | hd
  ·exact ⟨_, _, b4, fun t a ht => up a (b3.bm.db ht.1)⟩
  ·obtain ⟨R', G, h1, h2⟩ := b7.pl d hd
   exact ⟨R', G, h1, fun t a ht => up a (h2 t a ht)⟩
theorem setGs_len : ∀ (I : List Nat) (V : List Int) (L : List XL), (setGs I V L).length = L.length
 | [], V, L => by cases V <;> rfl
 | i :: r, [], L => rfl
 | i :: r, v :: V, L => by simp only [setGs]; rw [setGs_len r V]; simp [setG]
theorem coll_sim {q F : Nat} {s : SS} {x : XS} (H : XRel q F s x) : XRel q F s (collX q x) ∧ (collX q x).first = x.first ∧ (collX q x).goals = x.goals := by
 obtain ⟨R, hG, hC⟩ := H.cur
 have hb := hC.bd
 obtain ⟨hI, hf, hcl⟩ := live_ok H.i.lnx hb.1 hb.2 H.i.ch.at_lt
 have hgd := H.i.gd
 have ho := H.i.ho
 have hlive : ∀ k ∈ liveX x, isAddr x.h.cs (lnk x.ln k).g = true :=
  chains_all (P := Pl x.ln x.h.cs) (fun i hi hp => hp.next i hi) _ _ (fun c hc => H.i.ch.pl c (List.mem_reverse.1 hc)) (chain_all (P := Pl x.ln x.h.cs) (fun i hi hp => hp.next i hi) _ _ _ ⟨_, _, hC, fun t a ht => hG.bm.db ht.1⟩ fun k hk => by cases hk)
 have hroot : ∀ r ∈ rootsX q x, isAddr x.h.cs r = true := by
  intro r hr
  unfold rootsX at hr
  rcases List.mem_append.1 hr with hr | hr
  ·obtain ⟨v, hv, rfl⟩ := List.mem_map.1 hr
   exact hG.bm.db (hG.qv v (List.mem_range.1 hv))
  ·obtain ⟨k, hk, rfl⟩ := List.mem_map.1 hr
   exact hlive k hk
 have C : Cx x.h (rootsX q x) (marksM x.h.cs (rootsX q x)) := ⟨hgd, marksM_of _ _⟩
 have hrc : ∀ r ∈ rootsX q x, Rc x.h.cs (rootsX q x) r := fun r hr => .root hr (hroot r hr)
 have hmv : ∀ v : Nat, v < q → ((v : Nat) : Int) ∈ rootsX q x := fun v hv => List.mem_append_left _ (List.mem_map.2 ⟨v, List.mem_range.2 hv, rfl⟩)
 have hml : ∀ k ∈ liveX x, (lnk x.ln k).g ∈ rootsX q x := fun k hk => List.mem_append_right _ (List.mem_map.2 ⟨k, hk, rfl⟩)
 have hcol : collectH x.h (rootsX q x) (x.ch.reverse.map fun c => ((c.cells : Nat) : Int)) (x.ch.reverse.map fun c => ((c.bound : Nat) : Int)) = (collH (marksM x.h.cs (rootsX q x)) x.h, (rootsX q x).map (rkI (marksM x.h.cs (rootsX q x))), (x.ch.reverse.map fun c => ((c.cells : Nat) : Int)).map (rkI (marksM x.h.cs (rootsX q x))), (x.ch.reverse.map fun c => ((c.bound : Nat) : Int)).map (rkI (x.h.tr.map (markAt (marksM x.h.cs (rootsX q x))))), 0) := by
  unfold collectH
  rw [if_neg (by rw [hgd]; decide), if_neg (by rw [List.all_eq_true.2 hroot]; decide)]
  rfl
 have hfro : ∀ v, v < q → (marksM x.h.cs (rootsX q x))[v]? = some true := fun v hv => by
  have := (C.rc (hrc _ (hmv v hv))).2.2
  rwa [Int.toNat_natCast] at this
 have hX : collX q x = ⟨collH (marksM x.h.cs (rootsX q x)) x.h, x.goals, setGs (liveX x) ((liveX x).map fun k => rkI (marksM x.h.cs (rootsX q x)) (lnk x.ln k).g) x.ln, x.first, x.ch.map fun d => ⟨d.at_, d.cls, rk (marksM x.h.cs (rootsX q x)) d.cells, rk (x.h.tr.map (markAt (marksM x.h.cs (rootsX q x)))) d.bound⟩, x.ev⟩ := by
  unfold collX
  rw [hcol]
  dsimp only
  have e1 : ((rootsX q x).map (rkI (marksM x.h.cs (rootsX q x)))).drop q = (liveX x).map fun k => rkI (marksM x.h.cs (rootsX q x)) (lnk x.ln k).g := by
   generalize marksM x.h.cs (rootsX q x) = M
   unfold rootsX
   rw [List.map_append, List.map_map, List.map_map]
   rw [List.drop_left' (by simp)]
   rfl
  rw [e1, List.map_map, List.map_map, setCs_map, ← List.map_reverse, List.reverse_reverse]
  rfl
 rw [hX]
 generalize hM : marksM x.h.cs (rootsX q x) = M at *
 refine ⟨⟨⟨H.i.ev, H.i.fuel, H.i.f150, H.i.q8, ?_, H.i.inv, C.kept_good, hok_coll C ho, ?_, ?_, ?_⟩, ⟨collR M (rootsX q x) x.h.cs R, ?_, ?_⟩, H.gs, ?_, ?_⟩, rfl, rfl⟩
 ·exact ChsRel.coll hI hfro C ho (fun a _ _ => ⟨rfl, rfl⟩) (fun n _ => rfl) (fun n _ => rfl) (fun k hk a e _ => by rw [e]; exact (C.rc (hrc _ (hml k hk))).2.2) hcl H.i.ch
 ·intro d hd
  obtain ⟨c, hc, rfl⟩ := List.mem_map.1 hd
  obtain ⟨c1, c2⟩ := H.i.csz c hc
  have r1 := rk_leX M c.cells
  have r2 := rk_leX (x.h.tr.map (markAt M)) c.bound
  dsimp only
  omega
 ·dsimp only
  rw [setGs_len]; exact H.i.lsz
 ·intro i l hl
  dsimp only at hl
  rw [setGs_get] at hl
  split at hl
  ·cases hq : x.ln[i]? with
   | none => rw [hq] at hl; cases hl
   | some l' =>
    rw [hq] at hl
    simp only [Option.map_some, Option.some.injEq] at hl
    subst hl
    exact H.i.lnx i l' hq
  ·exact H.i.lnx i l hl
 ·exact hG.coll C fun v hv => ⟨hrc _ (hmv v hv), rk_front hfro v (by omega)⟩
 ·exact ChainR.coll hI (fun k hk t ht => GR.coll C (hrc _ (hml k hk)) ht) hC hf
 ·have h1 := H.cs
  have h2 : (collL M x.h.cs).length ≤ x.h.cs.length := by
   rw [C.len, C.mks.1]; exact rk_leX M _
  show (collL M x.h.cs).length ≤ _
  dsimp only; omega
 ·have h1 := H.ts
  have h2 : (collT M x.h.tr).length ≤ x.h.tr.length := by
   unfold collT
   rw [List.length_map, kept_filter]; exact List.length_filter_le _ _
  show (collT M x.h.tr).length ≤ _
  dsimp only; omega
theorem step_sim {P : List Cl} {q F every : Nat} (hp : pB P = true) {s : SS} {x : XS} (H : XRel q F s x) (hev : s.ev.length < 12) : SimR q F (stepM P q s) (stepX P q F every x) := by
 have hp2 : P.length ≤ 24 ∧ ∀ x ∈ P, cB x = true := by
  unfold pB at hp
  simp only [Bool.and_eq_true, decide_eq_true_eq, List.all_eq_true] at hp
  exact hp
 obtain ⟨hst, hstev⟩ := step_ok (vars := q) H.gs hev hp
 have hfu := H.i.fuel
 cases hg : s.goals with
 | nil =>
  have hfirst : x.first = -1 := by
   obtain ⟨R, _, hC⟩ := H.cur
   rw [hg] at hC; exact hC
  unfold stepM stepX
  rw [hg, if_pos hfirst]
  exact answer_sim H
 | cons g rest =>
  have hne : x.first ≠ -1 := by
   obtain ⟨R, _, hC⟩ := H.cur
   rw [hg] at hC
   obtain ⟨k, l, e, _⟩ := hC
   omega
  by_cases hf0 : s.fuel = 0
  ·unfold stepM stepX
   rw [hg, if_neg hne, if_pos (show x.goals = F by omega)]
   dsimp only
   rw [if_pos hf0]
   exact ⟨rfl, H.i.ev, fun h => by cases h⟩
  have hmb : XRel q F s (maybeX q every x) ∧ (maybeX q every x).first = x.first ∧ (maybeX q every x).goals = x.goals := by
   unfold maybeX
   split
   ·exact coll_sim H
   ·exact ⟨H, rfl, rfl⟩
  obtain ⟨H', hfi, hgo⟩ := hmb
  have hstep : stepX P q F every x = if builtB (gcell (maybeX q every x).h (lnk (maybeX q every x).ln (maybeX q every x).first.toNat).g).s.toList (gcell (maybeX q every x).h (lnk (maybeX q every x).ln (maybeX q every x).first.toNat).g).n.toNat = true
    then builtX (lnk (maybeX q every x).ln (maybeX q every x).first.toNat) ⟨(maybeX q every x).h, (maybeX q every x).goals + 1, (maybeX q every x).ln, (lnk (maybeX q every x).ln (maybeX q every x).first.toNat).nx, (maybeX q every x).ch, (maybeX q every x).ev⟩
    else callX P (maybeX q every x).first.toNat ⟨(maybeX q every x).h, (maybeX q every x).goals + 1, (maybeX q every x).ln, (lnk (maybeX q every x).ln (maybeX q every x).first.toNat).nx, (maybeX q every x).ch, (maybeX q every x).ev⟩ := by
   unfold stepX
   rw [if_neg hne, if_neg (show ¬ x.goals = F by omega)]
  rw [hstep]
  have hgo' : (maybeX q every x).goals + s.fuel = F := H'.i.fuel
  clear hstep hfi hgo hne
  generalize maybeX q every x = y at *
  obtain ⟨R, hG, hC⟩ := H'.cur
  rw [hg] at hC
  obtain ⟨k, l, hk, h2, h3, h4, h5, h6⟩ := hC
  have hCk : ChainR (GR R y.h) y.ln (k : Nat) (g :: rest) := ⟨k, l, rfl, h2, h3, h4, h5, h6⟩
  have hlk := lnk_of h2
  rw [hk, Int.toNat_natCast, hlk]
  obtain ⟨c1, c2, c3, c4, c5, c6, c7, c8⟩ := goal_cell hG h3
  rw [c1, c2]
  obtain ⟨p1, p2, p3, p4, p5, p6, p7⟩ := popped_inv H.gs hg hf0
  have hlsz := H'.i.lsz
  have hcs := H'.cs
  have hts := H'.ts
  have M : XMid q F ⟨s.B, s.fresh, s.fuel - 1, rest, s.ch, s.ev⟩ ⟨y.h, y.goals + 1, y.ln, l.nx, y.ch, y.ev⟩ R := by
   refine ⟨⟨H'.i.ev, by show y.goals + 1 + (s.fuel - 1) = F; omega, H'.i.f150, H'.i.q8, H'.i.ch, p1, H'.i.gd, H'.i.ho, fun d hd => ?_, by dsimp only; omega, H'.i.lnx⟩, hG, h6, by dsimp only; omega, by dsimp only; omega⟩
   have := H'.i.csz d hd
   dsimp only; omega
  have hS : stepM P q s = if builtB g.1.s.toList g.1.ar.length = true then builtM g ⟨s.B, s.fresh, s.fuel - 1, rest, s.ch, s.ev⟩ else match P.filter (fitsC g.1) with
    | [] => (5, ⟨s.B, s.fresh, s.fuel - 1, rest, s.ch, s.ev⟩)
    | c :: cs => againM ⟨s.B, s.fresh, s.fuel - 1, rest, ⟨g, rest, c :: cs, s.B.length⟩ :: s.ch, s.ev⟩ := by
   unfold stepM
   rw [hg]
   dsimp only
   rw [if_neg hf0]
   by_cases hb : builtB g.1.s.toList g.1.ar.length = true
   ·rw [if_pos hb, if_pos hb]
   ·rw [if_neg hb, if_neg hb]
    cases P.filter (fitsC g.1) <;> rfl
  rw [hS] at hst ⊢
  by_cases hb : builtB g.1.s.toList g.1.ar.length = true
  ·rw [if_pos hb] at hst ⊢
   rw [if_pos hb]
   exact built_sim M (by dsimp only; omega) h3 h4 p6 hb p2 fun h => (hst.go h).1
  ·rw [if_neg hb, if_neg hb]
   refine call_sim (s := ⟨s.B, s.fresh, s.fuel - 1, rest, s.ch, s.ev⟩) M (by dsimp only; omega) hp2.2 hCk fun c cs hcc => ?_
   have hmem : ∀ x ∈ c :: cs, x ∈ P := fun x hx => (List.mem_filter.1 (show x ∈ P.filter (fitsC g.1) by rw [hcc]; exact hx)).1
   obtain ⟨i1, i2⟩ := push_inv H.gs hg hf0 (fun x hx => hp2.2 x (hmem x hx)) (by
    have := List.length_filter_le (fitsC g.1) P
    rw [hcc] at this; omega)
   exact ⟨i1, by dsimp only; omega⟩
theorem run_sim {P : List Cl} {q F every : Nat} (hp : pB P = true) : ∀ (n : Nat) (s : SS) (x : XS), XRel q F s x → s.ev.length < 12 → runX P q F every n x = runM P q n s
 | 0, s, x, _, _ => rfl
 | n + 1, s, x, H, hev => by
  obtain ⟨h1, h2, h3⟩ := step_sim (every := every) hp H hev
  have hok := (step_ok (vars := q) H.gs hev hp).2
  simp only [runX, runM]
  rw [← h1]
  by_cases h0 : (stepM P q s).1 = 0
  ·rw [if_pos h0, if_pos h0]
   exact run_sim hp n _ _ (h3 h0) (hok h0)
  ·rw [if_neg h0, if_neg h0, h2]
end Go.Proofs.YthliapbflkfdiabGreat
namespace Go.Proofs.YthliapbflkfdiabGreat
open Go.RowKit
set_option linter.unusedVariables false
set_option linter.unusedSimpArgs false
noncomputable def allX (P : List Cl) (q : Ts) (vars fuel every : Int) : List Ev × Int :=
 if pB P = false ∨ qB vars q = false then ([], 1)
 else if fuel < 0 ∨ 150 < fuel ∨ every < 0 then ([], 2)
 else (runX P vars.toNat fuel.toNat every.toNat 4000 (startX q vars), 0)
theorem start_sim {q : Ts} {v F : Nat} (hq : qB (v : Nat) q = true) (hF : F ≤ 150) : XRel v F (startM q v F) (startX q (v : Nat)) := by
 have hq' := hq
 simp only [qB, Bool.and_eq_true, decide_eq_true_eq] at hq'
 obtain ⟨⟨⟨v0, v1⟩, v2⟩, v3⟩ := hq'
 obtain ⟨l1, l2, l3, l4, l5, l6⟩ := query_blk hq
 obtain ⟨hI, hmu⟩ := start_inv hq hF
 have hX : startX q (v : Nat) = ⟨⟨(blockQ (v : Nat) q).map (moved 0), []⟩, 0, (befX 0 0 (goalsQ (v : Nat) q) (-1) []).1, (befX 0 0 (goalsQ (v : Nat) q) (-1) []).2, [], []⟩ := by
  unfold startX; rw [l1]
 rw [hX]
 generalize (blockQ (v : Nat) q).map (moved 0) = L at *
 have hsh : ∀ t : Tm, NewR L 0 (v : Nat) 0 t = NewR L 0 (v : Nat) 0 t := fun t => rfl
 have hB : Bm sysS sysH (fun t a => False ∨ NewR L 0 (v : Nat) 0 t a) [] ⟨L, []⟩ := by
  refine Bm.ext (R := fun _ _ => False) (h := ⟨[], []⟩) (m := 0) (base := 0) ⟨trivial, ⟨rfl, fun a ha => ?_, fun a ha => by cases ha⟩, fun h => h.elim, fun h => h.elim, fun h => h.elim, fun h => h.elim⟩ l3 (fun a ha => ?_) (fun t a hn => ?_) (fun t a u hr => hr.elim) (fun t a u hr => hr.elim)
  ·obtain ⟨a0, a1⟩ := isAddr_iff'.1 ha
   simp at a1; omega
  ·obtain ⟨a0, a1⟩ := isAddr_iff'.1 ha
   simp at a1; omega
  ·refine ⟨?_, ?_⟩
   ·obtain ⟨u, hl, _⟩ := hn; exact hl.addr
   ·rcases NewR.look (T := []) (B := []) v1 (Int.le_refl 0) (by omega) (fun x hx => by cases hx) hn with ⟨i, i0, i1, e1, e2⟩ | hh
    ·exact .inl ⟨i, i0, e1, e2⟩
    ·exact .inr hh
 have hlow : ∀ t a, (False ∨ NewR L 0 (v : Nat) 0 t a) → lowT (v : Nat) t := fun t a hr => by
  rcases hr with hr | hr
  ·exact hr.elim
  ·have := hr.low v1 (Int.le_refl 0) (by omega)
   rwa [Int.zero_add] at this
 have hqv : ∀ x : Nat, x < v → NewR L 0 (v : Nat) 0 ⟨0, (x : Nat), ⟨#[]⟩, .nil⟩ (x : Nat) := fun x hx => by
  have hc := l5 (x : Nat) (by omega) (by omega)
  refine ⟨⟨0, (x : Nat), ⟨#[]⟩, .nil⟩, ⟨⟨(x : Nat), _, end_self hc (by simp), hc, .inl ⟨rfl, by show (0 : Int) ≤ (x : Nat); omega, by show ((x : Nat) : Int) < (v : Nat); omega, rfl, rfl, rfl, by show ((x : Nat) : Int) = (x : Nat) + ((0 : Nat) : Int); omega⟩⟩, trivial⟩, ?_⟩
  unfold Tm.shift
  rw [shiftN_var (n := ((x : Nat) : Int)) (m := 0) (by omega) (by omega) (by omega) (by omega), Int.add_zero]
  rfl
 obtain ⟨c1, ⟨X, c2, c3⟩, c4, c5⟩ := bef_rel (R := GR (fun t a => False ∨ NewR L 0 (v : Nat) 0 t a) ⟨L, []⟩) (base := 0) (fun t a h hd => ⟨.inr h, hd, h.kind hd⟩) (o := 0) q (goalsQ (v : Nat) q) (-1) [] [] l6 rfl (by omega) (by simp)
 have hnx := (bef_nx (base := 0) (o := 0) (goalsQ (v : Nat) q) (-1) [] (by omega) (by simp) (fun i l hl => by simp at hl)).1
 refine ⟨⟨rfl, by show 0 + F = F; omega, hF, by omega, trivial, hI.c, l2, l3, fun d hd => (by cases hd), ?_, hnx⟩, ⟨_, ⟨hB, fun x hx => (by cases hx), hlow, fun x hx => .inr (hqv x hx)⟩, c1⟩, hI, by dsimp only; omega, by dsimp only; simp⟩
 dsimp only
 rw [c2, List.nil_append, c3]
 omega
theorem allX_eq (P : List Cl) (q : Ts) (vars fuel every : Int) (he : 0 ≤ every) : allX P q vars fuel every = allM P q vars fuel := by
 unfold allX allM
 by_cases h1 : pB P = false ∨ qB vars q = false
 ·rw [if_pos h1, if_pos h1]
 rw [if_neg h1, if_neg h1]
 by_cases h2 : fuel < 0 ∨ 150 < fuel
 ·rw [if_pos h2, if_pos (by omega)]
 rw [if_neg h2, if_neg (by omega)]
 have hp : pB P = true := by cases hh : pB P with | true => rfl | false => exact absurd (.inl hh) h1
 have hq : qB vars q = true := by cases hh : qB vars q with | true => rfl | false => exact absurd (.inr hh) h1
 have hq' := hq
 simp only [qB, Bool.and_eq_true, decide_eq_true_eq] at hq'
 obtain ⟨⟨⟨v0, v1⟩, v2⟩, v3⟩ := hq'
 obtain ⟨v, rfl⟩ : ∃ v : Nat, vars = (v : Nat) := ⟨vars.toNat, by omega⟩
 obtain ⟨f, rfl⟩ : ∃ f : Nat, fuel = (f : Nat) := ⟨fuel.toNat, by omega⟩
 simp only [Int.toNat_natCast]
 rw [run_sim hp 4000 _ _ (start_sim hq (by omega)) (by simp [startM])]
end Go.Proofs.YthliapbflkfdiabGreat
namespace Go.Proofs.YthliapbflkfdiabGreat
open Go.RowKit
set_option linter.unusedVariables false
set_option linter.unusedSimpArgs false
section
variable {P : Program} {n : Nat} {e : Env} {w : World} {ty : TypeId} {pos : String} {after : Array Edge} {dst : Option Nat} {x y : Operand} {t t2 : TypeId}
theorem run_max2 {a c m : Int} {ts : Array TypeId} (hx : ev n e x = .int .i64 a) (hy : ev n e y = .int .i64 c) (hm : m = if a < c then c else a) :
  (execOp (ev n e) ⟨dst, .call ⟨.builtin .max, #[x, y], ts⟩, ty, pos, after, none⟩).run P w = .ok (.value (.int .i64 m)) w := by
 subst hm
 simp only [execOp, resolve, List.map_toArray, List.map_cons, List.map_nil, hx, hy, bind, pure, Sem.bind, invoke, builtin, Builtin.max_, List.foldlM, Builtin.max2]
 by_cases h : a < c
 ·rw [if_pos h]; simp [h, Sem.run, Sem.bind]; try rfl
 ·rw [if_neg h]; simp [h, Sem.run, Sem.bind]; try rfl
theorem run_min2 {a c m : Int} {ts : Array TypeId} (hx : ev n e x = .int .i64 a) (hy : ev n e y = .int .i64 c) (hm : m = if c < a then c else a) :
  (execOp (ev n e) ⟨dst, .call ⟨.builtin .min, #[x, y], ts⟩, ty, pos, after, none⟩).run P w = .ok (.value (.int .i64 m)) w := by
 subst hm
 simp only [execOp, resolve, List.map_toArray, List.map_cons, List.map_nil, hx, hy, bind, pure, Sem.bind, invoke, builtin, Builtin.min_, List.foldlM, Builtin.min2]
 by_cases h : c < a
 ·rw [if_pos h]; simp [h, Sem.run, Sem.bind]; try rfl
 ·rw [if_neg h]; simp [h, Sem.run, Sem.bind]; try rfl
end
end Go.Proofs.YthliapbflkfdiabGreat
namespace Go.Proofs.YthliapbflkfdiabGreat
open Go.RowKit
set_option linter.unusedVariables false
set_option linter.unusedSimpArgs false
set_option maxRecDepth 100000
section
variable {P : Program} {n : Nat} {e : Env} {w : World} {ty : TypeId} {pos : String} {after : Array Edge} {dst : Option Nat} {x y : Operand} {t t2 : TypeId}
theorem run_part3 {vs : List Value} {v : Value} {o t : Nat} (hA : aggOf P t = some false) (h : vs[o]? = some v) (w : World) : (part t vs.toArray o).run P w = .ok v w := by
 simp only [part, bind]
 rw [Sem.run_bind', run_isAgg hA]
 simp [Sem.run, h, pure]
theorem run_cell_eq (a b : HC) (w : World) : (Op.equalIn 10000 84 (.agg (hcs a).toArray) (.agg (hcs b).toArray)).run Tryz.prog w = .ok (decide (a = b)) w := by
 rw [run_equalIn_agg w 9999 _ _ _ (by kernel_rfl) (by kernel_rfl)]
 have hf : (Tryz.prog.fieldsOf 84).toList = [⟨ "Kind", 3, 0, false, "", "", 0⟩, ⟨ "N", 3, 1, false, "", "", 8⟩, ⟨ "S", 9, 2, false, "", "", 16⟩] := by kernel_rfl
 have p0 := fun (c : HC) w => run_part3 (P := Tryz.prog) (vs := hcs c) (v := .int .i64 c.k) (o := 0) (t := 3) rfl rfl w
 have p1 := fun (c : HC) w => run_part3 (P := Tryz.prog) (vs := hcs c) (v := .int .i64 c.n) (o := 1) (t := 3) rfl rfl w
 have p2 := fun (c : HC) w => run_part3 (P := Tryz.prog) (vs := hcs c) (v := .string c.s) (o := 2) (t := 9) rfl rfl w
 have q0 : ∀ (a b : Int) w, (Op.equalIn 9999 3 (.int .i64 a) (.int .i64 b)).run Tryz.prog w = .ok (a == b) w := fun a b w => run_equalIn_int w 9998 _ _ .i64 _ _ (by kernel_rfl)
 have q2 : ∀ (a b : ByteArray) w, (Op.equalIn 9999 9 (.string a) (.string b)).run Tryz.prog w = .ok (a.toList == b.toList) w := fun a b w => run_equalIn_string w 9998 _ _ _ (by kernel_rfl)
 rw [hf]
 obtain ⟨ak, an, az⟩ := a
 obtain ⟨bk, bn, bz⟩ := b
 simp only [Op.eqFields, Sem.run_bind, p0, p1, p2, q0, q2, Result.andThen_ok, Sem.run_ite, Sem.run_pure, HC.mk.injEq]
 by_cases h0 : ak = bk
 ·by_cases h1 : an = bn
  ·by_cases h2 : az = bz
   ·simp [h0, h1, h2, Sem.run]
   ·have h2' : ¬ az.toList = bz.toList := fun e => h2 (str_eq.1 e)
    simp [h0, h1, h2, h2', Sem.run]
  ·simp [h0, h1, Sem.run]
 ·simp [h0, Sem.run]
theorem run_neq_cell {a b : HC} (hx : ev n e x = .agg (hcs a).toArray) (hy : ev n e y = .agg (hcs b).toArray) :
  (execOp (ev n e) ⟨dst, .binOp .neq 84 x y 84, ty, pos, after, none⟩).run Tryz.prog w = .ok (.value (.bool (!decide (a = b)))) w := by
 simp only [execOp, hx, hy, bind, pure]
 rw [Sem.run_bind', Sem.run_bind', run_eqGuard_agg w _ _ _ _ _ _ (by kernel_rfl)]
 simp only [Result.andThen_ok]
 rw [run_neq_struct, run_cell_eq]
 rfl
end
end Go.Proofs.YthliapbflkfdiabGreat
namespace Go.Proofs.YthliapbflkfdiabGreat
open Go.RowKit
set_option linter.unusedVariables false
set_option linter.unusedSimpArgs false
set_option maxRecDepth 100000
set_option maxHeartbeats 1000000
theorem hat_some {L : List HC} {a : Int} (h0 : 0 ≤ a) (h1 : a < L.length) : ∃ c, hat L a = some c ∧ L[a.toNat]? = some c := by
 refine ⟨L[a.toNat]'(by omega), ?_, ?_⟩
 ·unfold hat; rw [if_pos h0]; exact List.getElem?_eq_getElem _
 ·exact List.getElem?_eq_getElem _
theorem hat_none {L : List HC} {a : Int} (h : ¬ (0 ≤ a ∧ a < L.length)) : hat L a = none := by
 unfold hat
 split
 ·exact List.getElem?_eq_none (by omega)
 ·rfl
theorem hat_get {L : List HC} {a : Int} {c : HC} (h : hat L a = some c) : 0 ≤ a ∧ a < L.length ∧ L[a.toNat]? = some c := by
 unfold hat at h
 split at h
 ·rename_i h0
  refine ⟨h0, ?_, h⟩
  rcases Nat.lt_or_ge a.toNat L.length with hl | hl
  ·omega
  ·rw [List.getElem?_eq_none hl] at h; cases h
 ·cases h
theorem isAddr_iff {L : List HC} {a : Int} : isAddr L a = true ↔ ∃ c, hat L a = some c := by
 unfold isAddr
 simp only [Bool.and_eq_true, decide_eq_true_eq]
 constructor
 ·rintro ⟨h0, h1⟩; obtain ⟨c, h, _⟩ := hat_some h0 h1; exact ⟨c, h⟩
 ·rintro ⟨c, h⟩; have := hat_get h; exact ⟨this.1, this.2.1⟩
theorem address_any (n c : Nat) (A B : Option Addr) (m d : Nat) (a : Int) (w : World) :
  Calls Tryz.prog 76 #[heapV A n c B m d, .int .i64 a] w fun e w' => e = .returned (.bool (decide (0 ≤ a) && decide (a < n))) ∧ Below w.heap.size w w' := by
 have hS := St.start w
 refine goes_enter2 Tryz.func76 rfl Tryz.ntmps76 rfl ?_
 by_cases h0 : 0 ≤ a
 ·by_cases h1 : a < n
  ·rw [decide_eq_true h0, decide_eq_true h1]
   refine Ze ?_
   clear hS
   intro b1 wx1 hS
   refine Z9 ?_
   refine ZaQ ?_
   refine ZP ?_
   refine ZX ?_
   refine ZfJ ?_
   refine Zaa ?_
   refine Zbl ?_
   refine goes_ret1 Tryz.func76 rfl (by conv=>lhs;whnf) ?_
   exact ⟨rfl, hS.ext.below⟩
  ·rw [decide_eq_true h0, decide_eq_false h1]
   refine Ze ?_
   clear hS
   intro b1 wx1 hS
   refine Z9 ?_
   refine ZaQ ?_
   refine ZP ?_
   refine ZX ?_
   refine ZfJ ?_
   refine Zaa ?_
   refine Zbl ?_
   refine goes_ret1 Tryz.func76 rfl (by conv=>lhs;whnf) ?_
   exact ⟨rfl, hS.ext.below⟩
 ·rw [decide_eq_false h0]
  refine Ze ?_
  clear hS
  intro b1 wx1 hS
  refine Z9 ?_
  refine ZaQ ?_
  refine ZcA ?_
  refine Zd ?_
  refine goes_ret1 Tryz.func76 rfl (by conv=>lhs;whnf) ?_
  exact ⟨rfl, hS.ext.below⟩
theorem args_any (x : HC) (w : World) : Calls Tryz.prog 99 #[.agg (hcs x).toArray] w fun e w' => e = .returned (.int .i64 (argsC x)) ∧ Below w.heap.size w w' := by
 have hS := St.start w
 refine goes_enter1 Tryz.func99 rfl Tryz.ntmps99 rfl ?_
 by_cases h : x.k = 3
 ·rw [show argsC x = x.n by unfold argsC; rw [if_pos h]]
  refine Ze ?_
  clear hS
  intro b1 wx1 hS
  refine ZaJ ?_
  refine ZF ?_
  refine Zav ?_
  refine Zw ?_
  refine Zcy ?_
  refine goes_ret1 Tryz.func99 rfl (by conv=>lhs;whnf) ?_
  exact ⟨rfl, hS.ext.below⟩
 ·rw [show argsC x = 0 by unfold argsC; rw [if_neg h]]
  refine Ze ?_
  clear hS
  intro b1 wx1 hS
  refine ZaJ ?_
  refine ZaU ?_
  refine Zj ?_
  refine goes_ret1 Tryz.func99 rfl (by conv=>lhs;whnf) ?_
  exact ⟨rfl, hS.ext.below⟩
theorem goodCell_any (x : HC) (all follow : Nat) (w : World) : Calls Tryz.prog 93 #[.agg (hcs x).toArray, .int .i64 (all : Nat), .int .i64 (follow : Nat)] w fun e w' => e = .returned (.bool (goodC all x follow)) ∧ Below w.heap.size w w' := by
 have hS := St.start w
 refine goes_enter3 Tryz.func93 rfl Tryz.ntmps93 rfl ?_
 by_cases h0 : x.k = 0
 ·have e0 : goodC all x follow = (decide (0 ≤ x.n) && (decide (x.n < all) && decide (x.s = eS))) := by unfold goodC; rw [if_pos h0]
  rw [e0]
  by_cases h1 : 0 ≤ x.n
  ·rw [decide_eq_true h1]
   by_cases h2 : x.n < all
   ·rw [decide_eq_true h2]
    by_cases h3 : x.s = eS
    ·rw [decide_eq_true h3]
     refine Ze ?_
     clear hS
     intro b1 wx1 hS
     refine ZaJ ?_
     refine ZaT ?_
     refine ZcI ?_
     refine Zp ?_
     refine Zaa ?_
     refine ZcB ?_
     refine Za1 ?_
     refine Zdx ?_
     exact ⟨rfl, hS.ext.below⟩
    ·rw [decide_eq_false h3]
     have h3' : x.s ≠ eS := h3
     refine Ze ?_
     clear hS
     intro b1 wx1 hS
     refine ZaJ ?_
     refine ZaT ?_
     refine ZcI ?_
     refine Zp ?_
     refine Zaa ?_
     refine ZcB ?_
     refine Za1 ?_
     refine Zdx ?_
     exact ⟨rfl, hS.ext.below⟩
   ·rw [decide_eq_false h2]
    refine Ze ?_
    clear hS
    intro b1 wx1 hS
    refine ZaJ ?_
    refine ZaT ?_
    refine ZcI ?_
    refine Zp ?_
    refine Zaa ?_
    refine Zx ?_
    refine Zdy ?_
    exact ⟨rfl, hS.ext.below⟩
  ·rw [decide_eq_false h1]
   refine Ze ?_
   clear hS
   intro b1 wx1 hS
   refine ZaJ ?_
   refine ZaT ?_
   refine ZfL ?_
   refine Zbk ?_
   refine Zx ?_
   refine Zdy ?_
   exact ⟨rfl, hS.ext.below⟩
 by_cases h1 : x.k = 1
 ·have e0 : goodC all x follow = (decide (x.n = 0) && !decide (x.s = eS)) := by unfold goodC; rw [if_neg h0, if_pos h1]
  rw [e0]
  by_cases h2 : x.n = 0
  ·rw [decide_eq_true h2]
   by_cases h3 : x.s = eS
   ·rw [decide_eq_true h3]
    refine Ze ?_
    clear hS
    intro b1 wx1 hS
    refine Zfb ?_
    refine Zdh ?_
    refine ZF ?_
    refine Zp ?_
    refine Zdi ?_
    refine Zcj ?_
    refine Zdx ?_
    exact ⟨rfl, hS.ext.below⟩
   ·rw [decide_eq_false h3]
    have h3' : x.s ≠ eS := h3
    refine Ze ?_
    clear hS
    intro b1 wx1 hS
    refine Zfb ?_
    refine Zdh ?_
    refine ZF ?_
    refine Zp ?_
    refine Zdi ?_
    refine Zcj ?_
    refine Zdx ?_
    exact ⟨rfl, hS.ext.below⟩
  ·rw [decide_eq_false h2]
   refine Ze ?_
   clear hS
   intro b1 wx1 hS
   refine Zfb ?_
   refine Zdh ?_
   refine ZF ?_
   refine Zdy ?_
   exact ⟨rfl, hS.ext.below⟩
 by_cases h2 : x.k = 2
 ·have e0 : goodC all x follow = decide (x.s = eS) := by unfold goodC; rw [if_neg h0, if_neg h1, if_pos h2]
  rw [e0]
  by_cases h3 : x.s = eS
  ·rw [decide_eq_true h3]
   refine Ze ?_
   clear hS
   intro b1 wx1 hS
   refine ZfN ?_
   refine Zcu ?_
   refine Zg ?_
   refine Zad ?_
   refine Za1 ?_
   refine ZfM ?_
   exact ⟨rfl, hS.ext.below⟩
  ·rw [decide_eq_false h3]
   have h3' : x.s ≠ eS := h3
   refine Ze ?_
   clear hS
   intro b1 wx1 hS
   refine ZfN ?_
   refine Zcu ?_
   refine Zg ?_
   refine Zad ?_
   refine Za1 ?_
   refine ZfM ?_
   exact ⟨rfl, hS.ext.below⟩
 by_cases h3 : x.k = 3
 ·have e0 : goodC all x follow = (decide (1 ≤ x.n) && (decide (x.n ≤ 4) && (decide (x.n ≤ follow) && !decide (x.s = eS)))) := by unfold goodC; rw [if_neg h0, if_neg h1, if_neg h2, if_pos h3]
  rw [e0]
  by_cases h4 : 1 ≤ x.n
  ·rw [decide_eq_true h4]
   by_cases h5 : x.n ≤ 4
   ·rw [decide_eq_true h5]
    by_cases h6 : x.n ≤ follow
    ·rw [decide_eq_true h6]
     by_cases h7 : x.s = eS
     ·rw [decide_eq_true h7]
      refine Ze ?_
      clear hS
      intro b1 wx1 hS
      refine Zdz ?_
      refine ZcI ?_
      refine Zbw ?_
      refine Zcw ?_
      refine Zab ?_
      refine Zp ?_
      refine Zbw ?_
      refine ZcB ?_
      refine Zcj ?_
      refine Zdx ?_
      exact ⟨rfl, hS.ext.below⟩
     ·rw [decide_eq_false h7]
      have h7' : x.s ≠ eS := h7
      refine Ze ?_
      clear hS
      intro b1 wx1 hS
      refine Zdz ?_
      refine ZcI ?_
      refine Zbw ?_
      refine Zcw ?_
      refine Zab ?_
      refine Zp ?_
      refine Zbw ?_
      refine ZcB ?_
      refine Zcj ?_
      refine Zdx ?_
      exact ⟨rfl, hS.ext.below⟩
    ·rw [decide_eq_false h6]
     refine Ze ?_
     clear hS
     intro b1 wx1 hS
     refine Zdz ?_
     refine ZcI ?_
     refine Zbw ?_
     refine Zcw ?_
     refine Zab ?_
     refine Zp ?_
     refine Zbw ?_
     refine Zx ?_
     refine Zdy ?_
     exact ⟨rfl, hS.ext.below⟩
   ·rw [decide_eq_false h5]
    refine Ze ?_
    clear hS
    intro b1 wx1 hS
    refine Zdz ?_
    refine ZcI ?_
    refine Zbw ?_
    refine Zx ?_
    refine Zbk ?_
    refine Zx ?_
    refine Zdy ?_
    exact ⟨rfl, hS.ext.below⟩
  ·rw [decide_eq_false h4]
   refine Ze ?_
   clear hS
   intro b1 wx1 hS
   refine Zdz ?_
   refine ZfL ?_
   refine ZbZ ?_
   refine Zbk ?_
   refine Zx ?_
   refine Zdy ?_
   exact ⟨rfl, hS.ext.below⟩
 have e0 : goodC all x follow = false := by unfold goodC; rw [if_neg h0, if_neg h1, if_neg h2, if_neg h3]
 rw [e0]
 refine Ze ?_
 clear hS
 intro b1 wx1 hS
 refine Zdz ?_
 refine Zb1 ?_
 refine ZcE ?_
 refine Zj ?_
 refine Zfg ?_
 exact ⟨rfl, hS.ext.below⟩
theorem goodL_false {all : Nat} : ∀ {D : List HC} {x : HC} {R : List HC}, goodC all x R.length = false → goodL all (D ++ x :: R) = false
 | [], x, R, h => by simp [goodL, h]
 | y :: D, x, R, h => by simp [goodL, goodL_false (D := D) h]
theorem goodCells_any (L : List HC) (A : Option Addr) (c : Nat) (w : World) (hL : Flat 3 (hcsL L) A L.length c w) :
  Calls Tryz.prog 74 #[.slice A L.length c] w fun e w' => e = .returned (.bool (goodCs L)) ∧ Below w.heap.size w w' := by
 have hS := (St.start w).flat (M := []) hL
 refine goes_enter1 Tryz.func74 rfl Tryz.ntmps74 rfl ?_
 by_cases hl : 65536 < L.length
 ·rw [show goodCs L = false by unfold goodCs; rw [decide_eq_false (by omega)]; rfl]
  refine ZaL ?_
  refine Zcb ?_
  refine ZI ?_
  refine goes_ret1 Tryz.func74 rfl (by conv=>lhs;whnf) ?_
  exact ⟨rfl, hS.ext.below⟩
 rw [show goodCs L = goodL L.length L by unfold goodCs; rw [decide_eq_true (by omega)]; rfl]
 refine ZaL ?_
 refine Zcb ?_
 refine ZaE ?_
 refine ZQ ?_
 refine goes_loop1 10 (11 :: 12 :: 13 :: 14 :: 4 :: 3 :: 15 :: 16 :: 17 :: 18 :: 19 :: 20 :: 21 :: 22 :: 23 :: 24 :: 2 :: 25 :: []) (fun (R : List HC) v w' => ∃ D, L = D ++ R ∧ v = .int .i64 (D.length : Nat) ∧ goodL L.length L = goodL L.length R ∧ St [] w [] [Flat 3 (hcsL L) A L.length c] w') (fun R => R.length) (L) ?_ (by conv=>lhs;whnf) ?_
 ·exact ⟨[], rfl, rfl, rfl, hS⟩
 clear hS
 rintro R _ w2 jv ⟨D, hD, rfl, hg, hS⟩ ih
 have hlen : L.length = D.length + R.length := by rw [hD]; simp
 cases R with
 | nil =>
  simp only [List.length_nil] at hlen
  refine Zb2 ?_
  refine goes_ret1 Tryz.func74 rfl (by conv=>lhs;whnf) ?_
  rw [hg]
  exact ⟨rfl, hS.ext.below⟩
 | cons x R =>
  simp only [List.length_cons] at hlen
  obtain ⟨b, o, rfl⟩ := hL.some_ (by omega)
  have hx : L[D.length]? = some x := by rw [hD]; simp
  have hcc : ∀ {H'} w', St [] w H' [Flat 3 (hcsL L) (some ⟨b, o, none⟩) L.length c] w' → _ := fun w' hS => (hS.fact (.head _)).cell hx
  have hf : ((L.length : Int) - (D.length : Nat) - 1) = ((R.length : Nat) : Int) := by omega
  refine ZaK ?_
  refine Z6 ?_
  refine Zcc ?_
  clear hS
  intro b1 wx1 hS
  refine ZbI ?_
  clear hS
  intro wx2 hS
  refine Zb6 ?_
  refine Zfh ?_
  refine ZaX ?_
  refine ZaX ?_
  refine Zf ?_
  refine ZaH ?_
  refine ZaH ?_
  rw [hf]
  refine Zs ?_
  refine Calls.mono (goodCell_any x L.length R.length _) ?_
  rintro _ w3 ⟨rfl, hb3⟩
  refine Za ?_
  replace hS := hS.grow hb3
  cases hgc : goodC L.length x R.length with
  | false =>
   refine Zdp ?_
   refine goes_ret1 Tryz.func74 rfl (by conv=>lhs;whnf) ?_
   rw [hg]
   refine ⟨?_, hS.ext.below⟩
   simp [goodL, hgc]
  | true =>
   refine Zdq ?_
   refine ih (R) _ _ _ ?_ ?_ (by conv=>lhs;whnf) (by kernel_rfl)
   ·simp
   ·refine ⟨D ++ [x], by rw [hD]; simp, by simp, ?_, hS.drop⟩
    rw [hg]; simp [goodL, hgc]
theorem hlookF_none {L : List HC} {a : Int} (h : hat L a = none) : ∀ f, hlookF L f a = -1
 | 0 => rfl
 | f + 1 => by simp only [hlookF, h]
end Go.Proofs.YthliapbflkfdiabGreat
