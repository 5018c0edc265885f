/- CPure, CPure2, TSim, PSim1, PModel, PSim2, PSim3, PSim4, XRel1: texts that follow one another, laid into one file. -/
import Derived.Test.YthliapbflkfdiacGreatDoorG15
import Derived.Test.YthliapbflkfdiacGreatDoorG10
import Derived.Test.YthliapbflkfdiacGreatDoorG14
import Derived.Test.YthliapbflkfdiacGreatDoorG8
import Derived.Test.YthliapbflkfdiacGreatDoorG7
import Derived.Test.YthliapbflkfdiacGreatDoorG13
namespace Go.Proofs.YthliapbflkfdiacGreatDoor
open Go.RowKit
set_option linter.unusedVariables false
set_option linter.unusedSimpArgs false

theorem goodC_mono {n f f' : Nat} {c : HC} (hf : f ≤ f') (h : goodC n c f = true) : goodC n c f' = true := by
  rcases goodC_iff h with ⟨k, a, b, s⟩ | ⟨k, a, s⟩ | ⟨k, s⟩ | ⟨k, a, b, d, s⟩
  · unfold goodC; rw [if_pos k]; simp [a, b, s]
  · unfold goodC; rw [if_neg (by omega), if_pos k]; simp [a, s]
  · unfold goodC; rw [if_neg (by omega), if_neg (by omega), if_pos k]; simp [s]
  · unfold goodC; rw [if_neg (by omega), if_neg (by omega), if_neg (by omega), if_pos k]
    simp only [Bool.and_eq_true, decide_eq_true_eq, Bool.not_eq_true', decide_eq_false_iff_not]
    exact ⟨a, b, by omega, s⟩
theorem goodL_app {n : Nat} {Y : List HC} (hY : goodL n Y = true) : ∀ {X : List HC}, goodL n X = true → goodL n (X ++ Y) = true
  | [], _ => hY
  | c :: r, h => by
    simp only [goodL, Bool.and_eq_true, List.cons_append] at h ⊢
    exact ⟨goodC_mono (by simp) h.1, goodL_app hY h.2⟩
theorem name_some {s : ByteArray} (h : nameB s = true) : s ≠ eS := by
  intro e; subst e; exact absurd h (by decide)
theorem str_nilC {s : ByteArray} (h : s.toList = []) : s = eS := by
  apply str_eq.1; rw [h]; kernel_rfl
/-- What a good node is. -/
theorem node_iff {vars k n : Int} {s : ByteArray} {l : Nat} (h : nodeB vars k n s l = true) : (k = 0 ∧ 0 ≤ n ∧ n < vars ∧ s = eS ∧ l = 0) ∨ (k = 1 ∧ n = 0 ∧ s ≠ eS ∧ l = 0) ∨ (k = 2 ∧ s = eS ∧ l = 0) ∨ (k = 3 ∧ n = 0 ∧ s ≠ eS ∧ 1 ≤ l ∧ l ≤ 4) := by
  unfold nodeB at h
  split at h
  · simp only [Bool.and_eq_true, decide_eq_true_eq] at h
    exact .inl ⟨‹_›, h.1.1.1, h.1.1.2, str_nilC h.1.2, h.2⟩
  split at h
  · simp only [Bool.and_eq_true, decide_eq_true_eq] at h
    exact .inr (.inl ⟨‹_›, h.1.1, name_some h.1.2, h.2⟩)
  split at h
  · simp only [Bool.and_eq_true, decide_eq_true_eq] at h
    exact .inr (.inr (.inl ⟨‹_›, str_nilC h.1.2, h.2⟩))
  split at h
  · simp only [Bool.and_eq_true, decide_eq_true_eq] at h
    exact .inr (.inr (.inr ⟨‹_›, h.1.1.1.1, name_some h.1.1.1.2, h.1.2, h.2⟩))
  · cases h
theorem good_cons {vars k n : Int} {s : ByteArray} {ar r : Ts} (h : (Ts.cons k n s ar r).good vars = true) : nodeB vars k n s ar.length = true ∧ ar.good vars = true ∧ r.good vars = true := by
  simp only [Ts.good, Bool.and_eq_true] at h
  exact ⟨h.1.1, h.1.2, h.2⟩
theorem Ts.good_ap (v : Int) (D R : Ts) : (D.app R).good v = (D.good v && R.good v) := by
  induction D with
  | nil => rfl
  | cons k n b ar r _ ih => simp only [Ts.app, Ts.good, ih, Bool.and_assoc]
theorem goodC_ref {n f : Nat} {i : Int} (h0 : 0 ≤ i) (h : i < n) : goodC n ⟨0, i, eS⟩ f = true := by unfold goodC; simp [h, h0]
theorem goodC_name {n f : Nat} {s : ByteArray} (h : s ≠ eS) : goodC n ⟨1, 0, s⟩ f = true := by unfold goodC; simp [h]
theorem goodC_num {n f : Nat} {i : Int} : goodC n ⟨2, i, eS⟩ f = true := by unfold goodC; simp
theorem goodC_frame {n f l : Nat} {s : ByteArray} (h : s ≠ eS) (h1 : 1 ≤ l) (h2 : l ≤ 4) (h3 : l ≤ f) : goodC n ⟨3, (l : Nat), s⟩ f = true := by
  unfold goodC; simp [h]; omega
theorem layA_good {vars : Int} {all : Nat} (hv : vars ≤ all) (T : Ts) : ∀ p, T.good vars = true → p + (layA T p).2.length ≤ all → goodL all (layA T p).1 = true ∧ goodL all (layA T p).2 = true := by
  induction T with
  | nil => intro p _ _; exact ⟨rfl, rfl⟩
  | cons k n s ar r iha ihr =>
    intro p hg hp
    obtain ⟨hn, ha, hr⟩ := good_cons hg
    rcases node_iff hn with ⟨rfl, h0, h1, h2, h3⟩ | ⟨rfl, h0, h1, h2⟩ | ⟨rfl, h0, h1⟩ | ⟨rfl, h0, h1, h2, h3⟩
    · rw [layA_one _ _ _ _ _ (by decide)] at hp ⊢
      obtain ⟨i1, i2⟩ := ihr p hr hp
      refine ⟨?_, i2⟩
      simp only [goodL, Bool.and_eq_true]
      exact ⟨goodC_ref h0 (by omega), i1⟩
    · rw [layA_one _ _ _ _ _ (by decide)] at hp ⊢
      obtain ⟨i1, i2⟩ := ihr p hr hp
      refine ⟨?_, i2⟩
      simp only [goodL, Bool.and_eq_true]
      exact ⟨goodC_name h1, i1⟩
    · rw [layA_one _ _ _ _ _ (by decide)] at hp ⊢
      obtain ⟨i1, i2⟩ := ihr p hr hp
      refine ⟨?_, i2⟩
      simp only [goodL, Bool.and_eq_true]
      exact ⟨goodC_num, i1⟩
    · rw [layA_comp] at hp ⊢
      have hls := layS_len s ar p
      simp only [List.length_append] at hp
      obtain ⟨a1, a2⟩ := iha (p + 1 + ar.length) ha (by omega)
      obtain ⟨i1, i2⟩ := ihr (p + (layS s ar p).length) hr (by omega)
      refine ⟨?_, goodL_app i2 ?_⟩
      · simp only [goodL, Bool.and_eq_true]
        exact ⟨goodC_ref (by omega) (by omega), i1⟩
      · unfold layS
        simp only [goodL, Bool.and_eq_true]
        exact ⟨goodC_frame h1 h2 h3 (by rw [List.length_append, layA_len]; omega), goodL_app a2 a1⟩
theorem lay1_good {vars k n : Int} {s : ByteArray} {ar : Ts} {all p : Nat} (hv : vars ≤ all) (h : gB vars k n s ar = true) (hp : p + (lay1 k n s ar p).length ≤ all) : goodL all (lay1 k n s ar p) = true := by
  simp only [gB, goalB, Bool.and_eq_true, Bool.or_eq_true, decide_eq_true_eq] at h
  obtain ⟨hn, ha, _⟩ := good_cons h.1.2
  rcases node_iff hn with ⟨rfl, _⟩ | ⟨rfl, h0, h1, h2⟩ | ⟨rfl, _⟩ | ⟨rfl, h0, h1, h2, h3⟩
  · rcases h.1.1 with h | h <;> omega
  · unfold lay1
    rw [if_neg (by decide)]
    simp only [goodL, Bool.and_eq_true, and_true]
    exact goodC_name h1
  · rcases h.1.1 with h | h <;> omega
  · unfold lay1 at hp ⊢
    rw [if_pos rfl] at hp ⊢
    have hls := layS_len s ar p
    obtain ⟨a1, a2⟩ := layA_good hv ar (p + 1 + ar.length) ha (by omega)
    unfold layS
    simp only [goodL, Bool.and_eq_true]
    exact ⟨goodC_frame h1 h2 h3 (by rw [List.length_append, layA_len]; omega), goodL_app a2 a1⟩
theorem layL_good {vars : Int} {all : Nat} (hv : vars ≤ all) (T : Ts) : ∀ p, T.goals vars = true → p + (layL T p).1.length ≤ all → goodL all (layL T p).1 = true := by
  induction T with
  | nil => intro p _ _; rfl
  | cons k n s ar r _ ihr =>
    intro p hg hp
    simp only [Ts.goals, Bool.and_eq_true] at hg
    simp only [layL, List.length_append] at hp ⊢
    exact goodL_app (ihr _ hg.2 (by omega)) (lay1_good hv hg.1 (by omega))
theorem varsF_good {all : Nat} : ∀ m i, i + m ≤ all → goodL all (varsF m i) = true
  | 0, i, _ => rfl
  | m + 1, i, h => by
    simp only [varsF, goodL, Bool.and_eq_true]
    exact ⟨goodC_ref (by omega) (by omega), varsF_good m (i + 1) (by omega)⟩
/-- What a good clause is. -/
theorem cB_iff {c : Cl} (h : cB c = true) : 0 ≤ c.vars ∧ c.vars ≤ 8 ∧ c.bd.length ≤ 5 ∧ c.bd.goals c.vars = true ∧ gB c.vars c.k c.n c.s c.hd = true := by
  simp only [cB, qB, Bool.and_eq_true, decide_eq_true_eq] at h
  exact ⟨h.1.1.1.1.1, h.1.1.1.1.2, h.1.1.1.2, h.1.1.2, h.1.2⟩
theorem gB_nodes {vars k n : Int} {s : ByteArray} {ar : Ts} (h : gB vars k n s ar = true) : ar.nodes + 1 ≤ 24 := by
  simp only [gB, Bool.and_eq_true, decide_eq_true_eq] at h
  exact h.2
theorem blockC_len {c : Cl} (h : cB c = true) : (blockC c).length ≤ 300 := by
  obtain ⟨h0, h1, h2, h3, h4⟩ := cB_iff h
  have h5 := gB_nodes h4
  have h6 := Ts.goals_nodes _ _ h3
  have h7 := lay1_le c.k c.n c.s c.hd c.vars.toNat
  have h8 := layL_le c.bd (c.vars.toNat + (lay1 c.k c.n c.s c.hd c.vars.toNat).length)
  simp only [blockC, List.length_append, varsB_len]
  omega
theorem blockC_good {c : Cl} (h : cB c = true) : goodCs (blockC c) = true := by
  obtain ⟨h0, h1, h2, h3, h4⟩ := cB_iff h
  have hl := blockC_len h
  unfold goodCs
  simp only [Bool.and_eq_true, decide_eq_true_eq]
  refine ⟨by omega, ?_⟩
  have he : (blockC c).length = c.vars.toNat + ((lay1 c.k c.n c.s c.hd c.vars.toNat).length + (layL c.bd (c.vars.toNat + (lay1 c.k c.n c.s c.hd c.vars.toNat).length)).1.length) := by
    simp only [blockC, List.length_append, varsB_len]
  unfold blockC
  refine goodL_app (goodL_app (layL_good (vars := c.vars) (by unfold blockC at he; omega) _ _ h3 (by unfold blockC at he; omega)) (lay1_good (vars := c.vars) (by unfold blockC at he; omega) h4 (by unfold blockC at he; omega))) (varsF_good _ _ (by unfold blockC at he; omega))
end Go.Proofs.YthliapbflkfdiacGreatDoor
namespace Go.Proofs.YthliapbflkfdiacGreatDoor
open Go.RowKit
set_option linter.unusedVariables false
set_option linter.unusedSimpArgs false

/-- The cells X lie in L from place q on, moved by base. -/
def Sits (L : List HC) (base : Nat) (q : Nat) (X : List HC) : Prop := ∀ i c, X[i]? = some c → hat L ((base + (q + i) : Nat) : Int) = some (moved base c)
theorem Sits.app {L : List HC} {base q : Nat} {X Y : List HC} (h : Sits L base q (X ++ Y)) : Sits L base q X ∧ Sits L base (q + X.length) Y := by
  refine ⟨fun i c hi => h i c ?_, fun i c hi => ?_⟩
  · rw [List.getElem?_append_left]
    · exact hi
    · rcases Nat.lt_or_ge i X.length with hl | hl
      · exact hl
      · rw [List.getElem?_eq_none hl] at hi; cases hi
  · have := h (X.length + i) c (by rw [List.getElem?_append_right (by omega)]; simpa using hi)
    rw [show q + X.length + i = q + (X.length + i) by omega]; exact this
theorem Sits.head {L : List HC} {base q : Nat} {c : HC} {X : List HC} (h : Sits L base q (c :: X)) : hat L ((base + q : Nat) : Int) = some (moved base c) ∧ Sits L base (q + 1) X := by
  refine ⟨h 0 c rfl, fun i d hi => ?_⟩
  rw [show q + 1 + i = q + (i + 1) by omega]
  exact h (i + 1) d (by simpa using hi)
/-- A renaming of the variables by where the block was loaded. -/
def up (base : Nat) (n : Int) : Int := n + base
theorem nil_of_len {T : Ts} (h : T.length = 0) : T = .nil := Ts.nil_of_length h
/-- A loaded block. -/
theorem load_sits (h : HH) (B : List HC) : Sits (h.cs ++ B.map (moved h.cs.length)) h.cs.length 0 B := by
  intro i c hi
  refine hatS.2 ⟨by omega, ?_, ?_⟩
  · have : i < B.length := by
      rcases Nat.lt_or_ge i B.length with hl | hl
      · exact hl
      · rw [List.getElem?_eq_none hl] at hi; cases hi
    simp; omega
  · rw [show ((h.cs.length + (0 + i) : Nat) : Int).toNat = h.cs.length + i by omega, List.getElem?_append_right (by omega)]
    simp [hi]
theorem goodC_wide {n m f : Nat} {c : HC} (hn : n ≤ m) (h : goodC n c f = true) : goodC m c f = true := by
  rcases goodC_iff h with ⟨k, a, b, s⟩ | ⟨k, a, s⟩ | ⟨k, s⟩ | ⟨k, a, b, d, s⟩
  · unfold goodC; rw [if_pos k]; simp [a, s]; omega
  · unfold goodC; rw [if_neg (by omega), if_pos k]; simp [a, s]
  · unfold goodC; rw [if_neg (by omega), if_neg (by omega), if_pos k]; simp [s]
  · unfold goodC; rw [if_neg (by omega), if_neg (by omega), if_neg (by omega), if_pos k]; simp [a, b, d, s]
theorem goodL_wide {n m : Nat} (hn : n ≤ m) : ∀ {L : List HC}, goodL n L = true → goodL m L = true
  | [], _ => rfl
  | c :: r, h => by
    simp only [goodL, Bool.and_eq_true] at h ⊢
    exact ⟨goodC_wide hn h.1, goodL_wide hn h.2⟩
theorem goodC_moved {n m f base : Nat} {c : HC} (hn : base + n ≤ m) (h : goodC n c f = true) : goodC m (moved base c) f = true := by
  unfold moved
  split
  · rename_i h0
    rcases goodC_iff h with ⟨k, a, b, s⟩ | ⟨k, a, s⟩ | ⟨k, s⟩ | ⟨k, a, b, d, s⟩
    · unfold goodC; dsimp only; rw [if_pos h0]; simp [s]; omega
    · omega
    · omega
    · omega
  · rename_i h0
    rcases goodC_iff h with ⟨k, a, b, s⟩ | ⟨k, a, s⟩ | ⟨k, s⟩ | ⟨k, a, b, d, s⟩
    · omega
    · unfold goodC; rw [if_neg (by omega), if_pos k]; simp [a, s]
    · unfold goodC; rw [if_neg (by omega), if_neg (by omega), if_pos k]; simp [s]
    · unfold goodC; rw [if_neg (by omega), if_neg (by omega), if_neg (by omega), if_pos k]; simp [a, b, d, s]
theorem goodL_moved {n m base : Nat} (hn : base + n ≤ m) : ∀ {L : List HC}, goodL n L = true → goodL m (L.map (moved base)) = true
  | [], _ => rfl
  | c :: r, h => by
    simp only [goodL, Bool.and_eq_true, List.map_cons, List.length_map] at h ⊢
    exact ⟨goodC_moved hn h.1, goodL_moved hn h.2⟩
theorem load_goodH {h : HH} {K : List HC} (hg : goodH h = true) (hk : goodCs K = true) (hl : h.cs.length + K.length ≤ 65536) : goodH ⟨h.cs ++ K.map (moved h.cs.length), h.tr⟩ = true := by
  simp only [goodH, goodCs, goodTr, Bool.and_eq_true, decide_eq_true_eq, List.length_append, List.length_map] at hg hk ⊢
  obtain ⟨⟨h1, h2⟩, h3, h4⟩ := hg
  refine ⟨⟨hl, goodL_app (goodL_moved (by omega) hk.2) (goodL_wide (by omega) h2)⟩, h3, ?_⟩
  rw [List.all_eq_true] at h4 ⊢
  intro a ha
  have := h4 a ha
  unfold goodTr1 at this ⊢
  cases hq : hat h.cs a with
  | none => rw [hq] at this; cases this
  | some x =>
    rw [hq] at this
    obtain ⟨q0, q1, q2⟩ := hatS.1 hq
    have : hat (h.cs ++ K.map (moved h.cs.length)) a = some x := hatS.2 ⟨q0, by simp; omega, by rw [List.getElem?_append_left (by omega)]; exact q2⟩
    rw [this]; assumption
theorem load_eq {h : HH} {K : List HC} (hg : goodH h = true) (hk : goodCs K = true) (hl : h.cs.length + K.length ≤ 65536) : loadH h K = (⟨h.cs ++ K.map (moved h.cs.length), h.tr⟩, h.cs.length, 0) := by
  unfold loadH; rw [hg, hk, if_neg (by decide), if_neg (by omega)]
end Go.Proofs.YthliapbflkfdiacGreatDoor
namespace Go.Proofs.YthliapbflkfdiacGreatDoor
open Go.RowKit
set_option linter.unusedVariables false
set_option linter.unusedSimpArgs false

def Ts.tms : Ts → List Tm
  | .nil => []
  | .cons k n s a r => ⟨k, n, s, a⟩ :: r.tms
theorem Ts.tms_len (T : Ts) : T.tms.length = T.length := by
  induction T with
  | nil => rfl
  | cons k n s a r _ ih => simp only [Ts.tms, List.length_cons, ih, Ts.length]
def tvw (t : Tm) : Vw Tm := if t.k = 0 then .var t.n else .node t.k t.n t.s t.ar.tms
def tview (B : Bnd) (t : Tm) : Vw Tm := tvw (lookM B t)
/-- Terms under bindings; j says how two free variables are made one. -/
def sysT (j : Bnd → Tm → Tm → Bnd) : Sy where
  X := Tm
  S := Bnd
  ok := Bok
  dom := fun _ _ => True
  view := tview
  bind := fun B v t => (v, lookM B t) :: B
  join := j
theorem tview_var {B : Bnd} {t : Tm} {v : Int} : tview B t = .var v ↔ (lookM B t).k = 0 ∧ (lookM B t).n = v := by
  unfold tview tvw
  split
  · rename_i h; simp [h]
  · rename_i h; simp [h]
theorem tview_node {B : Bnd} {t : Tm} {k n : Int} {s : ByteArray} {ar : List Tm} (h : tview B t = .node k n s ar) : (lookM B t).k = k ∧ k ≠ 0 ∧ (lookM B t).n = n ∧ (lookM B t).s = s ∧ (lookM B t).ar.tms = ar := by
  unfold tview tvw at h
  split at h
  · cases h
  · rename_i h0; cases h; exact ⟨rfl, h0, rfl, rfl, rfl⟩
/-- What a new binding changes. -/
theorem look_cons {B : Bnd} {v : Int} {t : Tm} (hB : Bok ((v, t) :: B)) (x : Tm) : lookM ((v, t) :: B) x = if (lookM B x).k = 0 ∧ (lookM B x).n = v then t else lookM B x := by
  obtain ⟨hv, ht, hB'⟩ := hB
  have hBo : Bok ((v, t) :: B) := ⟨hv, ht, hB'⟩
  have htt : lookM ((v, t) :: B) t = t := by
    by_cases hk : t.k = 0
    · refine look_free ?_
      obtain ⟨h1, h2⟩ := ht hk
      simp only [bget]
      rw [if_neg h1]; exact h2
    · exact look_nonvar hk
  have key : ∀ (p : Nat) (x : Tm), Clear B p x → lookM ((v, t) :: B) x = if (lookM B x).k = 0 ∧ (lookM B x).n = v then t else lookM B x := by
    intro p
    induction p using Nat.strongRecOn with
    | _ p ih =>
      intro x hx
      by_cases hk : x.k = 0
      · cases hg : bget x.n B with
        | none =>
          rw [look_free hg]
          by_cases hn : x.n = v
          · rw [if_pos ⟨hk, hn⟩, look_bound hBo hk (u := t) (by simp only [bget]; rw [if_pos hn]), htt]
          · rw [if_neg fun h => hn h.2, look_free]
            simp only [bget]; rw [if_neg hn]; exact hg
        | some u =>
          obtain ⟨q, hq, hu⟩ := hx.step hB' hk hg
          have hn : x.n ≠ v := fun e => by rw [e] at hg; rw [show bget v B = none from hv] at hg; cases hg
          rw [look_bound hB' hk hg, look_bound hBo hk (u := u) (by simp only [bget]; rw [if_neg hn]; exact hg)]
          exact ih q hq u hu
      · rw [look_nonvar hk, look_nonvar hk, if_neg fun h => hk h.1]
  exact key _ x (Clear.start B x)
theorem tview_cons {B : Bnd} {v : Int} {t : Tm} (hB : Bok ((v, t) :: B)) (x : Tm) : tview ((v, t) :: B) x = (tview B x).sub v (tvw t) := by
  have := look_cons hB x
  unfold tview
  rw [this]
  by_cases h : (lookM B x).k = 0
  · by_cases h2 : (lookM B x).n = v
    · rw [if_pos ⟨h, h2⟩]
      unfold Vw.sub
      rw [show tvw (lookM B x) = .var (lookM B x).n by unfold tvw; rw [if_pos h]]
      simp [h2]
    · rw [if_neg fun e => h2 e.2]
      rw [show tvw (lookM B x) = .var (lookM B x).n by unfold tvw; rw [if_pos h]]
      unfold Vw.sub; simp [h2]
  · rw [if_neg fun e => h e.1]
    rw [show tvw (lookM B x) = .node (lookM B x).k (lookM B x).n (lookM B x).s (lookM B x).ar.tms by unfold tvw; rw [if_neg h]]
    rfl
/-- A way to make two free variables one: one is bound to the other. -/
def JoinOk (j : Bnd → Tm → Tm → Bnd) : Prop := ∀ B a b u v, Bok B → tview B a = .var u → tview B b = .var v → u ≠ v → ∃ p q t, j B a b = (p, t) :: B ∧ t.k = 0 ∧ t.n = q ∧ ((p = u ∧ q = v) ∨ (p = v ∧ q = u))
theorem free_of {B : Bnd} (hB : Bok B) {x : Tm} {v : Int} (h : tview B x = .var v) : bget v B = none := by
  obtain ⟨h1, h2⟩ := tview_var.1 h
  rw [← h2]; exact look_end hB x h1
theorem sysT_law {j : Bnd → Tm → Tm → Bnd} (hj : JoinOk j) : (sysT j).Law where
  bind_ok := by
    intro B x v t k n s ar hB _ _ hx ht
    obtain ⟨h1, h2, _⟩ := tview_node ht
    exact ⟨free_of hB hx, fun e => absurd e (by show (lookM B t).k ≠ 0; rw [h1]; exact h2), hB⟩
  bind_dom := fun _ => trivial
  bind_view := by
    intro B x v t k n s ar y hB _ _ hx ht _
    obtain ⟨h1, h2, _⟩ := tview_node ht
    have hb : Bok ((v, lookM B t) :: B) := ⟨free_of hB hx, fun e => absurd e (by show (lookM B t).k ≠ 0; rw [h1]; exact h2), hB⟩
    exact tview_cons hb y
  join_ok := by
    intro B a b u v hB _ _ ha hb hne
    obtain ⟨p, q, t, e, hk, hn, hpq⟩ := hj B a b u v hB ha hb hne
    show Bok (j B a b)
    rw [e]
    have fu := free_of hB ha
    have fv := free_of hB hb
    rcases hpq with ⟨rfl, rfl⟩ | ⟨rfl, rfl⟩
    · exact ⟨fu, fun _ => ⟨by rw [hn]; exact fun e => hne e.symm, by rw [hn]; exact fv⟩, hB⟩
    · exact ⟨fv, fun _ => ⟨by rw [hn]; exact hne, by rw [hn]; exact fu⟩, hB⟩
  join_dom := fun _ => trivial
  join_view := by
    intro B a b u v hB _ _ ha hb hne
    obtain ⟨p, q, t, e, hk, hn, hpq⟩ := hj B a b u v hB ha hb hne
    have fu := free_of hB ha
    have fv := free_of hB hb
    have et : tvw t = .var q := by unfold tvw; rw [if_pos hk, hn]
    rcases hpq with ⟨rfl, rfl⟩ | ⟨rfl, rfl⟩
    · refine .inl fun y _ => ?_
      show tview (j B a b) y = _
      have hb2 : Bok ((p, t) :: B) := ⟨fu, fun _ => ⟨by rw [hn]; exact fun e => hne e.symm, by rw [hn]; exact fv⟩, hB⟩
      rw [e]
      have := tview_cons hb2 y
      rw [et] at this; exact this
    · refine .inr fun y _ => ?_
      show tview (j B a b) y = _
      have hb2 : Bok ((p, t) :: B) := ⟨fv, fun _ => ⟨by rw [hn]; exact hne, by rw [hn]; exact fu⟩, hB⟩
      rw [e]
      have := tview_cons hb2 y
      rw [et] at this; exact this
/-- The solver binds the first to the second; the document the greater to the smaller. -/
def joinS (B : Bnd) (a b : Tm) : Bnd := ((lookM B a).n, lookM B b) :: B
theorem joinS_ok : JoinOk joinS := fun B a b u v hB ha hb hne => by
  obtain ⟨a1, a2⟩ := tview_var.1 ha
  obtain ⟨b1, b2⟩ := tview_var.1 hb
  exact ⟨u, v, lookM B b, by unfold joinS; rw [a2], b1, b2, .inl ⟨rfl, rfl⟩⟩
abbrev sysS : Sy := sysT joinS
theorem any_tms {g : Tm → Nat → Bool × Nat} : ∀ (T : Ts) (w : Nat), anyL g T w = anyG g T.tms w
  | .nil, w => rfl
  | .cons k n s a r, w => by simp only [anyL, Ts.tms, anyG]; rw [any_tms r]
theorem occ_eq (B : Bnd) (v : Int) : ∀ (f : Nat) (t : Tm) (w : Nat), occM B v f t w = occG sysS B v f t w
  | 0, t, w => rfl
  | f + 1, t, w => by
    simp only [occM, occG]
    split
    · rfl
    · rw [show sysS.view B t = tvw (lookM B t) from rfl]
      unfold tvw
      by_cases hk : (lookM B t).k = 0
      · rw [if_pos hk, if_pos hk]
      · rw [if_neg hk, if_neg hk, any_tms]
        have : occM B v f = occG sysS B v f := by funext t w; exact occ_eq B v f t w
        rw [this]; rfl
theorem occ_look {j : Bnd → Tm → Tm → Bnd} {B : Bnd} (hB : Bok B) (v : Int) (f : Nat) (t : Tm) (w : Nat) : occG (sysT j) B v f (lookM B t) w = occG (sysT j) B v f t w := by
  cases f with
  | zero => rfl
  | succ f =>
    simp only [occG]
    rw [show (sysT j).view B (lookM B t) = (sysT j).view B t by show tvw (lookM B (lookM B t)) = _; rw [look_look hB]; rfl]
def Us.ug (u : Us) : Ug Bnd := ⟨u.ok, u.B, u.w⟩
theorem all_tms {g : Tm → Tm → Bnd → Nat → Us} {g' : Tm → Tm → Bnd → Nat → Ug Bnd} (P : Bnd → Prop) (hP : ∀ a b B w, P B → P (g a b B w).B) (hg : ∀ a b B w, P B → (g a b B w).ug = g' a b B w) : ∀ (T U : Ts) (B : Bnd) (w : Nat), P B → (allL g T U B w).ug = allG g' T.tms U.tms B w
  | .nil, U, B, w, _ => by cases U <;> rfl
  | .cons k n s a r, .nil, B, w, _ => rfl
  | .cons k n s a r, .cons k' n' s' a' r', B, w, h => by
    simp only [allL, Ts.tms, allG]
    rw [← hg _ _ _ _ h]
    by_cases hok : (g ⟨k, n, s, a⟩ ⟨k', n', s', a'⟩ B w).ok = true
    · rw [if_pos hok, if_pos (show (g ⟨k, n, s, a⟩ ⟨k', n', s', a'⟩ B w).ug.ok = true from hok)]
      exact all_tms P hP hg r r' _ _ (hP _ _ _ _ h)
    · rw [if_neg hok, if_neg (show ¬ (g ⟨k, n, s, a⟩ ⟨k', n', s', a'⟩ B w).ug.ok = true from hok)]
theorem asg_bok {B : Bnd} (hB : Bok B) {v : Int} {t : Tm} (hv : bget v B = none) (ht : t.k ≠ 0) (w : Nat) : Bok (asgM v t B w).B := by
  unfold asgM
  split
  · exact hB
  · exact ⟨hv, fun e => absurd e ht, hB⟩
theorem allL_bok {g : Tm → Tm → Bnd → Nat → Us} (hg : ∀ a b B w, Bok B → Bok (g a b B w).B) : ∀ (T U : Ts) (B : Bnd) (w : Nat), Bok B → Bok (allL g T U B w).B
  | .nil, U, B, w, h => by cases U <;> exact h
  | .cons _ _ _ _ _, .nil, B, w, h => h
  | .cons k n s a r, .cons k' n' s' a' r', B, w, h => by
    simp only [allL]
    split
    · exact allL_bok hg r r' _ _ (hg _ _ _ _ h)
    · exact hg _ _ _ _ h
theorem uni_bok : ∀ (f : Nat) (a b : Tm) (B : Bnd) (w : Nat), Bok B → Bok (uniM f a b B w).B
  | 0, a, b, B, w, h => h
  | f + 1, a, b, B, w, h => by
    simp only [uniM]
    split
    · exact h
    split
    · rename_i ha
      split
      · rename_i hb
        show Bok (if _ then _ else _)
        split
        · exact h
        · rename_i hne
          exact ⟨look_end h a ha, fun _ => ⟨fun e => hne e.symm, look_end h b hb⟩, h⟩
      · rename_i hb
        exact asg_bok h (look_end h a ha) hb _
    · rename_i ha
      split
      · rename_i hb
        exact asg_bok h (look_end h b hb) ha _
      · split
        · exact allL_bok (fun a b B w h => uni_bok f a b B w h) _ _ _ _ h
        · exact h
theorem uni_eq : ∀ (f : Nat) (a b : Tm) (B : Bnd) (w : Nat), Bok B → (uniM f a b B w).ug = uniG sysS f a b B w
  | 0, a, b, B, w, h => rfl
  | f + 1, a, b, B, w, h => by
    simp only [uniM, uniG]
    by_cases hw : 400 < w + 1
    · rw [if_pos hw, if_pos hw]; rfl
    rw [if_neg hw, if_neg hw]
    have va : sysS.view B a = tvw (lookM B a) := rfl
    have vb : sysS.view B b = tvw (lookM B b) := rfl
    rw [va, vb]
    have hasg : ∀ (v : Int) (t : Tm), (asgM v (lookM B t) B (w + 1)).ug = asgG sysS v t B (w + 1) := fun v t => by
      unfold asgM asgG
      rw [occ_eq, occ_look (j := joinS) h]
      split <;> rfl
    by_cases ha : (lookM B a).k = 0
    · rw [if_pos ha, show tvw (lookM B a) = .var (lookM B a).n by unfold tvw; rw [if_pos ha]]
      by_cases hb : (lookM B b).k = 0
      · rw [if_pos hb, show tvw (lookM B b) = .var (lookM B b).n by unfold tvw; rw [if_pos hb]]
        rfl
      · rw [if_neg hb, show tvw (lookM B b) = .node (lookM B b).k (lookM B b).n (lookM B b).s (lookM B b).ar.tms by unfold tvw; rw [if_neg hb]]
        exact hasg _ _
    · rw [if_neg ha, show tvw (lookM B a) = .node (lookM B a).k (lookM B a).n (lookM B a).s (lookM B a).ar.tms by unfold tvw; rw [if_neg ha]]
      by_cases hb : (lookM B b).k = 0
      · rw [if_pos hb, show tvw (lookM B b) = .var (lookM B b).n by unfold tvw; rw [if_pos hb]]
        exact hasg _ _
      · rw [if_neg hb, show tvw (lookM B b) = .node (lookM B b).k (lookM B b).n (lookM B b).s (lookM B b).ar.tms by unfold tvw; rw [if_neg hb]]
        show (if _ then _ else _ : Us).ug = if _ then _ else _
        have hc : alikeT (lookM B a) (lookM B b) = true ↔ (lookM B a).k = (lookM B b).k ∧ (lookM B a).n = (lookM B b).n ∧ (lookM B a).s = (lookM B b).s ∧ (lookM B a).ar.tms.length = (lookM B b).ar.tms.length := by
          simp only [alikeT, Bool.and_eq_true, decide_eq_true_eq, Ts.tms_len, and_assoc]
        by_cases hal : alikeT (lookM B a) (lookM B b) = true
        · rw [if_pos hal]
          refine Eq.trans ?_ (if_pos (hc.1 hal)).symm
          exact all_tms Bok (fun a b B w h => uni_bok f a b B w h) (fun a b B w h => uni_eq f a b B w h) _ _ _ _ h
        · rw [if_neg hal]
          exact (if_neg fun e => hal (hc.2 e)).symm
end Go.Proofs.YthliapbflkfdiacGreatDoor
namespace Go.Proofs.YthliapbflkfdiacGreatDoor
open Go.RowKit
set_option linter.unusedVariables false
set_option linter.unusedSimpArgs false

def lowT (m : Int) (t : Tm) : Prop := (t.k = 0 → t.n < m) ∧ t.ar.vars (· < m)
/-- All variables of the bindings lie below m. -/
def FB (m : Int) (B : Bnd) : Prop := ∀ x ∈ B, x.1 < m ∧ lowT m x.2
theorem Ts.vars_mono {P Q : Int → Prop} (h : ∀ n, P n → Q n) (T : Ts) : T.vars P → T.vars Q := by
  induction T with
  | nil => exact id
  | cons k n s ar r iha ihr => exact fun ⟨a, b, c⟩ => ⟨fun e => h _ (a e), iha b, ihr c⟩
theorem lowT.mono {m m' : Int} (h : m ≤ m') {t : Tm} (ht : lowT m t) : lowT m' t := ⟨fun e => Int.lt_of_lt_of_le (ht.1 e) h, Ts.vars_mono (fun _ hn => Int.lt_of_lt_of_le hn h) _ ht.2⟩
theorem FB.mono {m m' : Int} (h : m ≤ m') {B : Bnd} (hB : FB m B) : FB m' B := fun x hx => ⟨Int.lt_of_lt_of_le (hB x hx).1 h, (hB x hx).2.mono h⟩
theorem look_low {m : Int} {B : Bnd} (hB : FB m B) {t : Tm} (ht : lowT m t) : lowT m (lookM B t) := by
  rcases look_mem (B := B) t with e | ⟨x, hx, e⟩
  · rw [e]; exact ht
  · rw [e]; exact (hB x hx).2
theorem tms_low {m : Int} {T : Ts} (h : T.vars (· < m)) : ∀ x ∈ T.tms, lowT m x := by
  induction T with
  | nil => intro x hx; cases hx
  | cons k n s ar r _ ih =>
    intro x hx
    rcases List.mem_cons.1 hx with rfl | hx
    · exact ⟨h.1, h.2.1⟩
    · exact ih h.2.2 x hx
theorem FB.get {m : Int} {B : Bnd} (hB : FB m B) {n : Int} (hn : m ≤ n) : bget n B = none := by
  induction B with
  | nil => rfl
  | cons x r ih =>
    simp only [bget]
    rw [if_neg (by have := (hB x (List.mem_cons_self ..)).1; omega)]
    exact ih fun y hy => hB y (List.mem_cons_of_mem _ hy)
theorem FB.cons {m : Int} {B : Bnd} (hB : FB m B) {v : Int} {t : Tm} (hv : v < m) (ht : lowT m t) : FB m ((v, t) :: B) := fun x hx => by
  rcases List.mem_cons.1 hx with rfl | hx
  · exact ⟨hv, ht⟩
  · exact hB x hx
def JoinFB (j : Bnd → Tm → Tm → Bnd) : Prop := ∀ m B a b, FB m B → lowT m a → lowT m b → (lookM B a).k = 0 → (lookM B b).k = 0 → FB m (j B a b)
theorem joinS_fb : JoinFB joinS := fun m B a b hB ha hb ka kb => hB.cons ((look_low hB ha).1 ka) (look_low hB hb)
theorem asg_fb {j : Bnd → Tm → Tm → Bnd} {m : Int} {B : Bnd} (hB : FB m B) {v : Int} {t : Tm} (hv : v < m) (ht : lowT m t) (w : Nat) : FB m (asgG (sysT j) v t B w).s := by
  unfold asgG
  split
  · exact hB
  · exact hB.cons hv (look_low hB ht)
theorem all_fb {m : Int} {g : Tm → Tm → Bnd → Nat → Ug Bnd} (hg : ∀ a b B w, FB m B → lowT m a → lowT m b → FB m (g a b B w).s) : ∀ (l l' : List Tm) (B : Bnd) (w : Nat), FB m B → (∀ x ∈ l, lowT m x) → (∀ x ∈ l', lowT m x) → FB m (allG g l l' B w).s
  | [], l', B, w, h, _, _ => by cases l' <;> exact h
  | _ :: _, [], B, w, h, _, _ => h
  | x :: l, y :: l', B, w, h, hl, hl' => by
    simp only [allG]
    have h1 := hg x y B w h (hl x (List.mem_cons_self ..)) (hl' y (List.mem_cons_self ..))
    split
    · exact all_fb hg l l' _ _ h1 (fun z hz => hl z (List.mem_cons_of_mem _ hz)) (fun z hz => hl' z (List.mem_cons_of_mem _ hz))
    · exact h1
theorem ite_fb {m : Int} {c : Prop} [Decidable c] {x y : Ug Bnd} (hx : FB m x.s) (hy : FB m y.s) : FB m (if c then x else y).s := by
  split
  · exact hx
  · exact hy
theorem uni_fb {j : Bnd → Tm → Tm → Bnd} (hj : JoinFB j) {m : Int} : ∀ (f : Nat) (a b : Tm) (B : Bnd) (w : Nat), FB m B → lowT m a → lowT m b → FB m (uniG (sysT j) f a b B w).s
  | 0, a, b, B, w, h, _, _ => h
  | f + 1, a, b, B, w, h, ha, hb => by
    simp only [uniG]
    split
    · exact h
    · have la := look_low h ha
      have lb := look_low h hb
      have va : (sysT j).view B a = tvw (lookM B a) := rfl
      have vb : (sysT j).view B b = tvw (lookM B b) := rfl
      rw [va, vb]
      by_cases ka : (lookM B a).k = 0
      · rw [show tvw (lookM B a) = .var (lookM B a).n by unfold tvw; rw [if_pos ka]]
        by_cases kb : (lookM B b).k = 0
        · rw [show tvw (lookM B b) = .var (lookM B b).n by unfold tvw; rw [if_pos kb]]
          show FB m (if (lookM B a).n = (lookM B b).n then B else j B a b)
          split
          · exact h
          · exact hj m B a b h ha hb ka kb
        · rw [show tvw (lookM B b) = .node (lookM B b).k (lookM B b).n (lookM B b).s (lookM B b).ar.tms by unfold tvw; rw [if_neg kb]]
          exact asg_fb h (la.1 ka) hb _
      · rw [show tvw (lookM B a) = .node (lookM B a).k (lookM B a).n (lookM B a).s (lookM B a).ar.tms by unfold tvw; rw [if_neg ka]]
        by_cases kb : (lookM B b).k = 0
        · rw [show tvw (lookM B b) = .var (lookM B b).n by unfold tvw; rw [if_pos kb]]
          exact asg_fb h (lb.1 kb) ha _
        · rw [show tvw (lookM B b) = .node (lookM B b).k (lookM B b).n (lookM B b).s (lookM B b).ar.tms by unfold tvw; rw [if_neg kb]]
          exact ite_fb (all_fb (fun a b B w h ha hb => uni_fb hj f a b B w h ha hb) _ _ _ _ h (tms_low la.2) (tms_low lb.2)) h
/-- What is tidy does not tell which numbers the variables had. -/
theorem tidy_rel {ρ : Int → Int → Prop} (hi : ∀ u v u' v', ρ u v → ρ u' v' → (u = u' ↔ v = v')) {T U : Ts} (h : TsR ρ T U) : ∀ ks ks' : List Int, Al ρ ks ks' → (T.tidyFrom ks).1 = (U.tidyFrom ks').1 ∧ Al ρ (T.tidyFrom ks).2 (U.tidyFrom ks').2 := by
  have hpos : ∀ {n n' : Int}, ρ n n' → ∀ {ks ks' : List Int}, Al ρ ks ks' → pos n ks = pos n' ks' := by
    intro n n' hn ks ks' hk
    induction hk with
    | nil => rfl
    | @cons x y l m hxy _ ih =>
      simp only [pos]
      by_cases e : n = x
      · rw [if_pos e, if_pos ((hi _ _ _ _ hn hxy).1 e)]
      · rw [if_neg e, if_neg fun e2 => e ((hi _ _ _ _ hn hxy).2 e2), ih]
  induction h with
  | nil => intro ks ks' hk; exact ⟨rfl, hk⟩
  | @var n n' s r r' hn _ ih =>
    intro ks ks' hk
    rw [Ts.tidyFrom_cons, Ts.tidyFrom_cons]
    have e1 : tV 0 n ks = tV 0 n' ks' := by
      unfold tV numV; rw [if_pos rfl, if_pos rfl, hpos hn hk, hk.len]
    have e2 : Al ρ (tS 0 n ks) (tS 0 n' ks') := by
      unfold tS numS; rw [if_pos rfl, if_pos rfl, hpos hn hk]
      split
      · exact hk
      · exact hk.app (.cons hn .nil)
    obtain ⟨i1, i2⟩ := ih _ _ (show Al ρ (Ts.nil.tidyFrom (tS 0 n ks)).2 (Ts.nil.tidyFrom (tS 0 n' ks')).2 from e2)
    refine ⟨?_, i2⟩
    rw [e1, i1]; rfl
  | @node k n s ar ar' r r' hk0 _ _ iha ihr =>
    intro ks ks' hk
    rw [Ts.tidyFrom_cons, Ts.tidyFrom_cons]
    have e1 : tV k n ks = n := by unfold tV; rw [if_neg hk0]
    have e1' : tV k n ks' = n := by unfold tV; rw [if_neg hk0]
    have e2 : tS k n ks = ks := by unfold tS; rw [if_neg hk0]
    have e2' : tS k n ks' = ks' := by unfold tS; rw [if_neg hk0]
    rw [e1, e1', e2, e2']
    obtain ⟨i1, i2⟩ := iha _ _ hk
    obtain ⟨j1, j2⟩ := ihr _ _ i2
    exact ⟨by rw [i1, j1], j2⟩
end Go.Proofs.YthliapbflkfdiacGreatDoor
namespace Go.Proofs.YthliapbflkfdiacGreatDoor
open Go.RowKit
set_option linter.unusedVariables false

end Go.Proofs.YthliapbflkfdiacGreatDoor
namespace Go.Proofs.YthliapbflkfdiacGreatDoor
open Go.RowKit
set_option linter.unusedVariables false
set_option linter.unusedSimpArgs false

section
variable {P : List Cl} {q : Nat}
end
end Go.Proofs.YthliapbflkfdiacGreatDoor
namespace Go.Proofs.YthliapbflkfdiacGreatDoor
open Go.RowKit
set_option linter.unusedVariables false
set_option linter.unusedSimpArgs false

section
variable {P : List Cl} {q : Nat}
end
end Go.Proofs.YthliapbflkfdiacGreatDoor
namespace Go.Proofs.YthliapbflkfdiacGreatDoor
open Go.RowKit
set_option linter.unusedVariables false
set_option linter.unusedSimpArgs false

theorem map_tms {g : Tm → Nat → Option (Tm × Nat)} : ∀ (T : Ts) (l : Nat), mapL g T l = mapG g T.tms l
  | .nil, l => rfl
  | .cons k n s a r, l => by
    simp only [mapL, Ts.tms, mapG]
    cases g ⟨k, n, s, a⟩ l with
    | none => rfl
    | some p =>
      obtain ⟨t, l'⟩ := p
      dsimp only
      rw [map_tms r]
      all_goals (cases mapG g r.tms l' <;> rfl)
theorem mapG_congr {g g' : Tm → Nat → Option (Tm × Nat)} : ∀ (l : List Tm), (∀ x ∈ l, ∀ m, g x m = g' x m) → ∀ m, mapG g l m = mapG g' l m
  | [], _, m => rfl
  | x :: r, h, m => by
    simp only [mapG]
    rw [h x (List.mem_cons_self ..) m]
    cases g' x m with
    | none => rfl
    | some p =>
      obtain ⟨t, l'⟩ := p
      dsimp only
      rw [mapG_congr r (fun y hy => h y (List.mem_cons_of_mem _ hy))]
theorem tms_Mem {x : Tm} : ∀ {T : Ts}, x ∈ T.tms → T.Mem x
  | .nil, h => by cases h
  | .cons k n s a r, h => by
    rcases List.mem_cons.1 h with rfl | h
    · exact .inl rfl
    · exact .inr (tms_Mem h)
theorem tgd_var {t : Tm} (h : tgd t) (hk : t.k = 0) : t.s = ⟨#[]⟩ ∧ t.ar = .nil := by
  have := h.1
  simp only [Ts.good, Bool.and_eq_true] at this
  have hn := this.1.1
  unfold nodeB at hn
  rw [if_pos hk] at hn
  simp only [Bool.and_eq_true, decide_eq_true_eq] at hn
  exact ⟨str_eq.1 (hn.1.2.trans (toList_mk []).symm), Ts.nil_of_length hn.2⟩
theorem app_eq {B : Bnd} (hB : ∀ x ∈ B, tgd x.2) : ∀ (f : Nat) (t : Tm) (l : Nat), tgd t → appM B f t l = appG sysS B f t l
  | 0, t, l, _ => rfl
  | f + 1, t, l, ht => by
    have hl := look_Q hB ht
    simp only [appM, appG]
    split
    · rfl
    · rw [show sysS.view B t = tvw (lookM B t) from rfl]
      unfold tvw
      by_cases hk : (lookM B t).k = 0
      · rw [if_pos hk]
        obtain ⟨h1, h2⟩ := tgd_var hl hk
        rw [h2, h1, hk]; rfl
      · rw [if_neg hk, map_tms]
        have := mapG_congr (g := appM B f) (g' := appG sysS B f) (lookM B t).ar.tms (fun x hx m => app_eq hB f x m (tgd_down _ hl x (tms_Mem hx))) (l - 1)
        rw [this]; rfl
theorem tgd_q {v : Nat} (hv : v < 1000) : tgd ⟨0, (v : Nat), ⟨#[]⟩, .nil⟩ := by
  refine ⟨?_, by simp [Ts.nodes]⟩
  simp only [Ts.good, Bool.and_eq_true, and_true]
  unfold nodeB
  rw [if_pos rfl]
  simp only [Bool.and_eq_true, decide_eq_true_eq]
  exact ⟨⟨⟨by omega, by omega⟩, toList_mk []⟩, rfl⟩
section
variable {P : List Cl} {q : Nat}
end
end Go.Proofs.YthliapbflkfdiacGreatDoor
namespace Go.Proofs.YthliapbflkfdiacGreatDoor
open Go.RowKit
set_option linter.unusedVariables false
set_option linter.unusedSimpArgs false

theorem hat_app {L X : List HC} {a : Int} {c : HC} (h : hat L a = some c) : hat (L ++ X) a = some c := by
  obtain ⟨h0, h1, h2⟩ := hatS.1 h
  exact hatS.2 ⟨h0, by simp; omega, by rw [List.getElem?_append_left (by omega)]; exact h2⟩
theorem endsN_app {L X : List HC} {n : Nat} {a x : Int} (h : EndsN L n a x) : EndsN (L ++ X) n a x := by
  induction h with
  | here h0 h1 => exact .here (hat_app h0) h1
  | there h0 h1 h2 _ ih => exact .there (hat_app h0) h1 h2 ih
theorem end_app {L X : List HC} {a x : Int} (h : End L a x) : End (L ++ X) a x := by
  obtain ⟨n, h⟩ := h; exact ⟨n, endsN_app h⟩
theorem addr_app {L X : List HC} {a : Int} (h : isAddr L a = true) : isAddr (L ++ X) a = true := by
  obtain ⟨c, hc⟩ := addr_hat.1 h; exact addr_hat.2 ⟨c, hat_app hc⟩
theorem hview_app {h : HH} (ho : HOk h) {a : Int} (ha : isAddr h.cs a = true) (X : List HC) (T : List Int) : hview ⟨h.cs ++ X, T⟩ a = hview h a := by
  obtain ⟨x, c, h1, h2, h3, h4⟩ := ho.view ha
  rw [h4, hview_end (h := ⟨h.cs ++ X, T⟩) (end_app h1) (hat_app h2)]
/-- The terms T lie at a and behind it, their variables from base on. -/
def LayL (L : List HC) (base : Nat) (V : Int) : Ts → Int → Prop
  | .nil, _ => True
  | .cons k n s ar r, a => (∃ x c, End L a x ∧ hat L x = some c ∧ ((k = 0 ∧ 0 ≤ n ∧ n < V ∧ s = eS ∧ ar = .nil ∧ c.k = 0 ∧ x = n + base) ∨ (k ≠ 0 ∧ c.k = k ∧ ctl c = n ∧ c.s = s ∧ (argsC c).toNat = ar.length ∧ LayL L base V ar (x + 1)))) ∧ LayL L base V r (a + 1)
theorem end_self {L : List HC} {a : Int} {c : HC} (h : hat L a = some c) (hc : ¬ (c.k = 0 ∧ c.n ≠ a)) : End L a a := ⟨0, .here h hc⟩
theorem end_one {L : List HC} {a : Int} {c d : HC} (h : hat L a = some c) (hk : c.k = 0) (hn : c.n ≠ a) (h2 : hat L c.n = some d) (hd : ¬ (d.k = 0 ∧ d.n ≠ c.n)) : End L a c.n := ⟨1, .there h hk hn (.here h2 hd)⟩
theorem lay_rel {L : List HC} {base : Nat} {vars : Int} (hv : ∀ v : Int, 0 ≤ v → v < vars → hat L (v + base) = some ⟨0, v + base, eS⟩) (T : Ts) : ∀ (a p : Nat), T.good vars = true → vars ≤ a → vars ≤ p → a + T.length ≤ p → Sits L base a (layA T p).1 → Sits L base p (layA T p).2 →
    LayL L base vars T ((base + a : Nat) : Int) ∧ (∀ i, i < (layA T p).1.length → ∃ x, End L ((base + (a + i) : Nat) : Int) x) ∧ (∀ i, i < (layA T p).2.length → ∃ x, End L ((base + (p + i) : Nat) : Int) x) := by
  induction T with
  | nil => intro a p _ _ _ _ _ _; exact ⟨trivial, fun i hi => absurd hi (by simp [layA]), fun i hi => absurd hi (by simp [layA])⟩
  | cons k n s ar r iha ihr =>
    intro a p hg hav hpv hap hs1 hs2
    obtain ⟨hn, ha, hr⟩ := good_cons hg
    simp only [Ts.length] at hap
    have step : ∀ (X : List HC) (c : HC) (x : Int), End L ((base + a : Nat) : Int) x → (∀ i, i < X.length → ∃ x, End L ((base + (a + 1 + i) : Nat) : Int) x) → ∀ i, i < (c :: X).length → ∃ x, End L ((base + (a + i) : Nat) : Int) x := by
      intro X c x h0 h1 i hi
      cases i with
      | zero => exact ⟨x, h0⟩
      | succ i =>
        obtain ⟨y, hy⟩ := h1 i (by simpa using hi)
        rw [show a + (i + 1) = a + 1 + i by omega]; exact ⟨y, hy⟩
    rcases node_iff hn with ⟨rfl, h0, h1, h2, h3⟩ | ⟨rfl, h0, h1, h2⟩ | ⟨rfl, h0, h1⟩ | ⟨rfl, h0, h1, h2, h3⟩
    · rw [layA_one _ _ _ _ _ (by decide)] at hs1 hs2 ⊢
      obtain ⟨q1, q2⟩ := hs1.head
      obtain rfl := nil_of_len h3
      subst h2
      have e1 : hat L ((base + a : Nat) : Int) = some ⟨0, n + base, eS⟩ := q1
      have e2 : End L ((base + a : Nat) : Int) (n + base) := end_one (c := ⟨0, n + base, eS⟩) e1 rfl (by show n + (base : Int) ≠ _; omega) (hv n h0 h1) (by simp)
      obtain ⟨i1, i2, i3⟩ := ihr (a + 1) p hr (by omega) hpv (by omega) q2 hs2
      rw [show ((base + (a + 1) : Nat) : Int) = ((base + a : Nat) : Int) + 1 by omega] at i1
      exact ⟨⟨⟨n + base, _, e2, hv n h0 h1, .inl ⟨rfl, h0, h1, rfl, rfl, rfl, rfl⟩⟩, i1⟩, step _ _ _ e2 i2, i3⟩
    · rw [layA_one _ _ _ _ _ (by decide)] at hs1 hs2 ⊢
      obtain ⟨q1, q2⟩ := hs1.head
      obtain rfl := nil_of_len h2
      subst h0
      have e1 : hat L ((base + a : Nat) : Int) = some ⟨1, 0, s⟩ := q1
      have e2 := end_self e1 (by simp)
      obtain ⟨i1, i2, i3⟩ := ihr (a + 1) p hr (by omega) hpv (by omega) q2 hs2
      rw [show ((base + (a + 1) : Nat) : Int) = ((base + a : Nat) : Int) + 1 by omega] at i1
      exact ⟨⟨⟨_, _, e2, e1, .inr ⟨by decide, rfl, rfl, rfl, rfl, trivial⟩⟩, i1⟩, step _ _ _ e2 i2, i3⟩
    · rw [layA_one _ _ _ _ _ (by decide)] at hs1 hs2 ⊢
      obtain ⟨q1, q2⟩ := hs1.head
      obtain rfl := nil_of_len h1
      subst h0
      have e1 : hat L ((base + a : Nat) : Int) = some ⟨2, n, eS⟩ := q1
      have e2 := end_self e1 (by simp)
      obtain ⟨i1, i2, i3⟩ := ihr (a + 1) p hr (by omega) hpv (by omega) q2 hs2
      rw [show ((base + (a + 1) : Nat) : Int) = ((base + a : Nat) : Int) + 1 by omega] at i1
      exact ⟨⟨⟨_, _, e2, e1, .inr ⟨by decide, rfl, rfl, rfl, rfl, trivial⟩⟩, i1⟩, step _ _ _ e2 i2, i3⟩
    · rw [layA_comp] at hs1 hs2 ⊢
      obtain ⟨q1, q2⟩ := hs1.head
      obtain ⟨q3, q4⟩ := Sits.app (X := layS s ar p) hs2
      obtain ⟨q5, q6⟩ := Sits.head (c := ⟨3, (ar.length : Nat), s⟩) q3
      obtain ⟨q7, q8⟩ := q6.app
      rw [layA_len] at q8
      subst h0
      have e1 : hat L ((base + a : Nat) : Int) = some ⟨0, ((p : Nat) : Int) + base, eS⟩ := q1
      have e5 : hat L (((p : Nat) : Int) + base) = some ⟨3, (ar.length : Nat), s⟩ := by
        rw [show ((p : Nat) : Int) + base = ((base + p : Nat) : Int) by omega]; exact q5
      have e2 : End L ((base + a : Nat) : Int) (((p : Nat) : Int) + base) := end_one (c := ⟨0, ((p : Nat) : Int) + base, eS⟩) e1 rfl (by show ((p : Nat) : Int) + (base : Int) ≠ _; omega) e5 (by simp)
      obtain ⟨a1, a2, a3⟩ := iha (p + 1) (p + 1 + ar.length) ha (by omega) (by omega) (by omega) q7 q8
      obtain ⟨i1, i2, i3⟩ := ihr (a + 1) (p + (layS s ar p).length) hr (by omega) (by omega) (by omega) q2 q4
      rw [show ((base + (a + 1) : Nat) : Int) = ((base + a : Nat) : Int) + 1 by omega] at i1
      rw [show ((base + (p + 1) : Nat) : Int) = ((p : Nat) : Int) + base + 1 by omega] at a1
      refine ⟨⟨⟨_, _, e2, e5, .inr ⟨by decide, rfl, rfl, rfl, by simp [argsC], a1⟩⟩, i1⟩, step _ _ _ e2 i2, fun i hi => ?_⟩
      rw [layA_len] at a2
      have hls := layS_len s ar p
      rw [List.length_append] at hi
      by_cases c0 : i = 0
      · subst c0
        have q5' : hat L ((base + p : Nat) : Int) = some ⟨3, (ar.length : Nat), s⟩ := q5
        exact ⟨_, end_self q5' (by simp)⟩
      by_cases c1 : i - 1 < ar.length
      · obtain ⟨x, hx⟩ := a2 (i - 1) c1
        rw [show p + i = p + 1 + (i - 1) by omega]; exact ⟨x, hx⟩
      by_cases c2 : i < (layS s ar p).length
      · obtain ⟨x, hx⟩ := a3 (i - 1 - ar.length) (by omega)
        rw [show p + i = p + 1 + ar.length + (i - 1 - ar.length) by omega]; exact ⟨x, hx⟩
      · obtain ⟨x, hx⟩ := i3 (i - (layS s ar p).length) (by omega)
        rw [show p + i = p + (layS s ar p).length + (i - (layS s ar p).length) by omega]; exact ⟨x, hx⟩
theorem lay1_rel {L : List HC} {base : Nat} {vars : Int} (hv : ∀ v : Int, 0 ≤ v → v < vars → hat L (v + base) = some ⟨0, v + base, eS⟩) {k n : Int} {s : ByteArray} {ar : Ts} {p : Nat} (h : gB vars k n s ar = true) (hpv : vars ≤ p) (hs : Sits L base p (lay1 k n s ar p)) :
    LayL L base vars (.cons k n s ar .nil) ((base + p : Nat) : Int) ∧ (∀ i, i < (lay1 k n s ar p).length → ∃ x, End L ((base + (p + i) : Nat) : Int) x) ∧ ∃ c, hat L ((base + p : Nat) : Int) = some c ∧ (c.k = 1 ∨ c.k = 3) := by
  simp only [gB, goalB, Bool.and_eq_true, Bool.or_eq_true, decide_eq_true_eq] at h
  obtain ⟨hn, ha, _⟩ := good_cons h.1.2
  rcases node_iff hn with ⟨rfl, _⟩ | ⟨rfl, h0, h1, h2⟩ | ⟨rfl, _⟩ | ⟨rfl, h0, h1, h2, h3⟩
  · rcases h.1.1 with h | h <;> omega
  · obtain rfl := nil_of_len h2
    subst h0
    unfold lay1 at hs ⊢
    rw [if_neg (by decide)] at hs ⊢
    have e1 : hat L ((base + p : Nat) : Int) = some ⟨1, 0, s⟩ := hs.head.1
    have e2 := end_self e1 (by simp)
    refine ⟨⟨⟨_, _, e2, e1, .inr ⟨by decide, rfl, rfl, rfl, rfl, trivial⟩⟩, trivial⟩, fun i hi => ?_, _, e1, .inl rfl⟩
    obtain rfl : i = 0 := by simpa using hi
    exact ⟨_, e2⟩
  · rcases h.1.1 with h | h <;> omega
  · subst h0
    unfold lay1 at hs ⊢
    rw [if_pos rfl] at hs ⊢
    obtain ⟨q5, q6⟩ := Sits.head (c := ⟨3, (ar.length : Nat), s⟩) hs
    obtain ⟨q7, q8⟩ := q6.app
    rw [layA_len] at q8
    have e1 : hat L ((base + p : Nat) : Int) = some ⟨3, (ar.length : Nat), s⟩ := q5
    have e2 := end_self e1 (by simp)
    obtain ⟨a1, a2, a3⟩ := lay_rel hv ar (p + 1) (p + 1 + ar.length) ha (by omega) (by omega) (by omega) q7 q8
    rw [show ((base + (p + 1) : Nat) : Int) = ((base + p : Nat) : Int) + 1 by omega] at a1
    refine ⟨⟨⟨_, _, e2, e1, .inr ⟨by decide, rfl, rfl, rfl, by simp [argsC], a1⟩⟩, trivial⟩, fun i hi => ?_, _, e1, .inr rfl⟩
    rw [layA_len] at a2
    have hls := layS_len s ar p
    by_cases c0 : i = 0
    · subst c0; exact ⟨_, e2⟩
    by_cases c1 : i - 1 < ar.length
    · obtain ⟨x, hx⟩ := a2 (i - 1) c1
      rw [show p + i = p + 1 + (i - 1) by omega]; exact ⟨x, hx⟩
    · obtain ⟨x, hx⟩ := a3 (i - 1 - ar.length) (by omega)
      rw [show p + i = p + 1 + ar.length + (i - 1 - ar.length) by omega]; exact ⟨x, hx⟩
/-- Terms one behind the other, each at its place. -/
def LayP (L : List HC) (base : Nat) (V : Int) : Ts → List Int → Prop
  | .nil, l => l = []
  | .cons k n s ar r, l => ∃ x q, l = x :: q ∧ LayL L base V (.cons k n s ar .nil) (base + x) ∧ (∃ c, hat L (base + x) = some c ∧ (c.k = 1 ∨ c.k = 3)) ∧ LayP L base V r q
theorem layL_rel {L : List HC} {base : Nat} {vars : Int} (hv : ∀ v : Int, 0 ≤ v → v < vars → hat L (v + base) = some ⟨0, v + base, eS⟩) (T : Ts) : ∀ p : Nat, T.goals vars = true → vars ≤ p → Sits L base p (layL T p).1 → LayP L base vars T (layL T p).2 ∧ (∀ i, i < (layL T p).1.length → ∃ x, End L ((base + (p + i) : Nat) : Int) x) := by
  induction T with
  | nil => intro p _ _ _; exact ⟨rfl, fun i hi => absurd hi (by simp [layL])⟩
  | cons k n s ar r _ ih =>
    intro p hg hpv hs
    simp only [Ts.goals, Bool.and_eq_true] at hg
    simp only [layL] at hs ⊢
    obtain ⟨h1, h2⟩ := hs.app
    obtain ⟨a1, a2, a3⟩ := lay1_rel hv hg.1 hpv h1
    obtain ⟨b1, b2⟩ := ih _ hg.2 (by omega) h2
    refine ⟨⟨_, _, rfl, by rw [show (base : Int) + (p : Nat) = ((base + p : Nat) : Int) by omega]; exact a1, by rw [show (base : Int) + (p : Nat) = ((base + p : Nat) : Int) by omega]; exact a3, b1⟩, fun i hi => ?_⟩
    rw [List.length_append] at hi
    by_cases c : i < (lay1 k n s ar p).length
    · exact a2 i c
    · obtain ⟨x, hx⟩ := b2 (i - (lay1 k n s ar p).length) (by omega)
      rw [show p + i = p + (lay1 k n s ar p).length + (i - (lay1 k n s ar p).length) by omega]; exact ⟨x, hx⟩
theorem vars_rel {L : List HC} {base V : Nat} (hs : Sits L base 0 (varsB V)) : ∀ v : Int, 0 ≤ v → v < V → hat L (v + base) = some ⟨0, v + base, eS⟩ := by
  intro v v0 v1
  have := hs v.toNat _ (varsB_get (by omega))
  rw [show ((base + (0 + v.toNat) : Nat) : Int) = v + base by omega] at this
  rw [this]
  unfold moved
  rw [if_pos rfl]
  dsimp only
  rw [show ((v.toNat : Nat) : Int) = v by omega]
/-- What a block that is loaded behind h must be. -/
structure Blk (h : HH) (B : List HC) (h' : HH) : Prop where
  eq : h' = ⟨h.cs ++ B.map (moved h.cs.length), h.tr⟩
  gd : goodL h'.cs.length h'.cs = true
  ends : ∀ i, i < B.length → ∃ x, End h'.cs ((h.cs.length + i : Nat) : Int) x
theorem goodTr1_app {L X : List HC} {a : Int} (h : goodTr1 L a = true) : goodTr1 (L ++ X) a = true := by
  unfold goodTr1 at h ⊢
  cases hc : hat L a with
  | none => rw [hc] at h; cases h
  | some c => rw [hc] at h; rw [hat_app hc]; exact h
theorem Blk.ok {h h' : HH} {B : List HC} (hb : Blk h B h') (ho : HOk h) : HOk h' := by
  obtain ⟨rfl, gd, ends⟩ := hb
  refine ⟨gd, fun a ha => ?_, fun a ha => goodTr1_app (ho.tr a ha)⟩
  obtain ⟨a0, a1⟩ := isAddr_iff'.1 ha
  by_cases hl : a < h.cs.length
  · obtain ⟨x, hx⟩ := ho.ends a (isAddr_iff'.2 ⟨a0, hl⟩)
    exact ⟨x, end_app hx⟩
  · obtain ⟨x, hx⟩ := ends (a.toNat - h.cs.length) (by simp at a1; omega)
    rw [show ((h.cs.length + (a.toNat - h.cs.length) : Nat) : Int) = a by omega] at hx
    exact ⟨x, hx⟩
/-- A clause's block, loaded. -/
theorem clause_blk {h : HH} {c : Cl} (hg : goodH h = true) (hc : cB c = true) (hl : h.cs.length + 300 ≤ 65536) :
    loadH h (blockC c) = (⟨h.cs ++ (blockC c).map (moved h.cs.length), h.tr⟩, h.cs.length, 0) ∧ goodH ⟨h.cs ++ (blockC c).map (moved h.cs.length), h.tr⟩ = true ∧ Blk h (blockC c) ⟨h.cs ++ (blockC c).map (moved h.cs.length), h.tr⟩ ∧
    LayL (h.cs ++ (blockC c).map (moved h.cs.length)) h.cs.length c.vars (.cons c.k c.n c.s c.hd .nil) (h.cs.length + c.vars) ∧ LayP (h.cs ++ (blockC c).map (moved h.cs.length)) h.cs.length c.vars c.bd (goalsC c) := by
  obtain ⟨h0, h1, h2, h3, h4⟩ := cB_iff hc
  have hbl := blockC_len hc
  have hX := load_goodH hg (blockC_good hc) (by omega)
  have hs := load_sits h (blockC c)
  have he : (blockC c).length = c.vars.toNat + ((lay1 c.k c.n c.s c.hd c.vars.toNat).length + (layL c.bd (c.vars.toNat + (lay1 c.k c.n c.s c.hd c.vars.toNat).length)).1.length) := by
    simp only [blockC, List.length_append, varsB_len]
  obtain ⟨s1, s2⟩ := Sits.app (X := varsB c.vars.toNat) hs
  obtain ⟨s3, s4⟩ := s2.app
  rw [varsB_len, Nat.zero_add] at s3 s4
  have hv0 := vars_rel s1
  have hv : ∀ v : Int, 0 ≤ v → v < c.vars → hat (h.cs ++ (blockC c).map (moved h.cs.length)) (v + h.cs.length) = some ⟨0, v + h.cs.length, eS⟩ := fun v v0 v1 => hv0 v v0 (by omega)
  obtain ⟨t1, t2, _⟩ := lay1_rel hv h4 (p := c.vars.toNat) (by omega) s3
  obtain ⟨u1, u2⟩ := layL_rel hv c.bd _ h3 (by omega) s4
  refine ⟨load_eq hg (blockC_good hc) (by omega), hX, ⟨rfl, ?_, fun i hi => ?_⟩, ?_, u1⟩
  · simp only [goodH, goodCs, Bool.and_eq_true] at hX; exact hX.1.2
  · rw [he] at hi
    by_cases c0 : i < c.vars.toNat
    · have := hv i (by omega) (by omega)
      rw [show (i : Int) + h.cs.length = ((h.cs.length + i : Nat) : Int) by omega] at this
      exact ⟨_, end_self this (by simp)⟩
    by_cases c1 : i - c.vars.toNat < (lay1 c.k c.n c.s c.hd c.vars.toNat).length
    · obtain ⟨x, hx⟩ := t2 _ c1
      rw [show c.vars.toNat + (i - c.vars.toNat) = i by omega] at hx; exact ⟨x, hx⟩
    · obtain ⟨x, hx⟩ := u2 (i - c.vars.toNat - (lay1 c.k c.n c.s c.hd c.vars.toNat).length) (by omega)
      rw [show c.vars.toNat + (lay1 c.k c.n c.s c.hd c.vars.toNat).length + (i - c.vars.toNat - (lay1 c.k c.n c.s c.hd c.vars.toNat).length) = i by omega] at hx; exact ⟨x, hx⟩
  · rw [show (h.cs.length : Int) + c.vars = ((h.cs.length + c.vars.toNat : Nat) : Int) by omega]; exact t1
/-- The query's block, in an empty heap. -/
theorem query_blk {q : Ts} {v : Nat} (hq : qB (v : Nat) q = true) :
    loadH ⟨[], []⟩ (blockQ (v : Nat) q) = (⟨(blockQ (v : Nat) q).map (moved 0), []⟩, 0, 0) ∧ goodH ⟨(blockQ (v : Nat) q).map (moved 0), []⟩ = true ∧ HOk ⟨(blockQ (v : Nat) q).map (moved 0), []⟩ ∧ ((blockQ (v : Nat) q).map (moved 0)).length ≤ 300 ∧
    (∀ x : Int, 0 ≤ x → x < v → hat ((blockQ (v : Nat) q).map (moved 0)) x = some ⟨0, x, eS⟩) ∧ LayP ((blockQ (v : Nat) q).map (moved 0)) 0 (v : Nat) q (goalsQ (v : Nat) q) := by
  simp only [qB, Bool.and_eq_true, decide_eq_true_eq] at hq
  obtain ⟨⟨⟨v0, v1⟩, v2⟩, v3⟩ := hq
  have hn := Ts.goals_nodes _ _ v3
  have hll := layL_le q v
  have he : (blockQ (v : Nat) q).length = v + (layL q v).1.length := by simp [blockQ, varsB_len]
  have hs := load_sits ⟨[], []⟩ (blockQ (v : Nat) q)
  simp only [List.length_nil, List.nil_append] at hs
  have hs' := hs
  unfold blockQ at hs'
  rw [Int.toNat_natCast] at hs'
  obtain ⟨s1, s2⟩ := Sits.app (X := varsB v) hs'
  rw [varsB_len, Nat.zero_add] at s2
  have hv := vars_rel s1
  obtain ⟨u1, u2⟩ := layL_rel hv q v v3 (by omega) s2
  have hgd : goodCs (blockQ (v : Nat) q) = true := by
    unfold goodCs
    simp only [Bool.and_eq_true, decide_eq_true_eq]
    refine ⟨by omega, ?_⟩
    have : goodL (blockQ (v : Nat) q).length (varsB v ++ (layL q v).1) = true := goodL_app (layL_good (vars := v) (by omega) q v v3 (by omega)) (varsF_good _ _ (by omega))
    unfold blockQ at this ⊢
    rw [Int.toNat_natCast] at this ⊢
    exact this
  have hg0 : goodH ⟨[], []⟩ = true := by decide
  have hX := load_goodH hg0 hgd (by simp; omega)
  have hle := load_eq hg0 hgd (by simp; omega)
  simp only [List.length_nil, List.nil_append] at hX hle
  refine ⟨hle, hX, ⟨?_, fun a ha => ?_, fun a ha => (by cases ha)⟩, by simp; omega, fun x x0 x1 => ?_, by unfold goalsQ; rw [Int.toNat_natCast]; unfold blockQ; rw [Int.toNat_natCast]; exact u1⟩
  · simp only [goodH, goodCs, Bool.and_eq_true] at hX; exact hX.1.2
  · obtain ⟨a0, a1⟩ := isAddr_iff'.1 ha
    simp only [List.length_map] at a1
    rw [he] at a1
    by_cases c0 : a < v
    · have := hv a a0 c0
      rw [show a + ((0 : Nat) : Int) = a by omega] at this
      unfold blockQ
      rw [Int.toNat_natCast]
      exact ⟨_, end_self this (by simp)⟩
    · obtain ⟨x, hx⟩ := u2 (a.toNat - v) (by omega)
      rw [show ((0 + (v + (a.toNat - v)) : Nat) : Int) = a by omega] at hx
      unfold blockQ
      rw [Int.toNat_natCast]
      exact ⟨x, hx⟩
  · have := hv x x0 x1
    rw [show x + ((0 : Nat) : Int) = x by omega] at this
    unfold blockQ
    rw [Int.toNat_natCast]; exact this
end Go.Proofs.YthliapbflkfdiacGreatDoor
