/- CModel, CPure, IntMap, Nums, Ren, Rename, Turns, TidyBy, CPure2, HRow, Mk, CRow, HApp: texts that follow one another, laid into one file. -/
import Derived.Test.YtdflngjfnpbpmabG2
import Derived.Test.YtdflngjfnpbpmabG1
import Derived.MapKept
import Derived.Maps.OwnOps
import Derived.Test.YtdflngjfnpbpmabRows
import Derived.StillTailTactics
import Derived.Deep.QuietTactic
import Derived.BigQuiet
import Derived.Test.YtdflngjfnpbpmabG0
import Derived.Deep.LoopGhost
import Derived.Deep.RegionLaw
import Derived.Deep.DeepCutAuto
import Derived.Lib.SliceRun
import Derived.Laws.MakeOwn
namespace Go.Proofs.Ytdflngjfnpbpmab
open Go.RowKit
set_option linter.unusedVariables false
set_option linter.unusedSimpArgs false

/-- The only cell of a term that is not compound. -/
def single (k n : Int) (s : ByteArray) : HC := if k = 0 then ⟨0, n, eS⟩ else if k = 2 then ⟨2, n, eS⟩ else ⟨1, 0, s⟩
/-- The arguments' own cells, and what is stored behind them, from place p on. -/
def layA : Ts → Nat → List HC × List HC
  | .nil, _ => ([], [])
  | .cons k n s ar r, p =>
    if k = 3 then
      (⟨0, (p : Nat), eS⟩ :: (layA r (p + (((layA ar (p + 1 + ar.length)).1 ++ (layA ar (p + 1 + ar.length)).2).length + 1))).1,
        (⟨3, (ar.length : Nat), s⟩ :: ((layA ar (p + 1 + ar.length)).1 ++ (layA ar (p + 1 + ar.length)).2)) ++ (layA r (p + (((layA ar (p + 1 + ar.length)).1 ++ (layA ar (p + 1 + ar.length)).2).length + 1))).2)
    else (single k n s :: (layA r p).1, (layA r p).2)
/-- A compound term stored at p. -/
def layS (s : ByteArray) (ar : Ts) (p : Nat) : List HC := ⟨3, (ar.length : Nat), s⟩ :: ((layA ar (p + 1 + ar.length)).1 ++ (layA ar (p + 1 + ar.length)).2)
def lay1 (k n : Int) (s : ByteArray) (ar : Ts) (p : Nat) : List HC := if k = 3 then layS s ar p else [single k n s]
/-- Terms stored one behind the other, and where. -/
def layL : Ts → Nat → List HC × List Int
  | .nil, _ => ([], [])
  | .cons k n s ar r, p => (lay1 k n s ar p ++ (layL r (p + (lay1 k n s ar p).length)).1, (p : Nat) :: (layL r (p + (lay1 k n s ar p).length)).2)
def varsF : Nat → Nat → List HC
  | 0, _ => []
  | m + 1, i => ⟨0, (i : Nat), eS⟩ :: varsF m (i + 1)
def varsB (n : Nat) : List HC := varsF n 0
theorem varsF_len : ∀ m i, (varsF m i).length = m
  | 0, _ => rfl
  | m + 1, i => by simp [varsF, varsF_len m (i + 1)]
theorem varsB_len (n : Nat) : (varsB n).length = n := varsF_len n 0
theorem varsF_get : ∀ m i j, j < m → (varsF m i)[j]? = some ⟨0, ((i + j : Nat) : Int), eS⟩
  | 0, _, _, h => by omega
  | m + 1, i, 0, h => by simp [varsF]
  | m + 1, i, j + 1, h => by
    have := varsF_get m (i + 1) j (by omega)
    rw [show i + (j + 1) = i + 1 + j by omega]
    simpa [varsF] using this
theorem varsB_get {n j : Nat} (h : j < n) : (varsB n)[j]? = some ⟨0, (j : Nat), eS⟩ := by
  have := varsF_get n 0 j h
  rwa [Nat.zero_add] at this
theorem varsF_snoc : ∀ m i, varsF (m + 1) i = varsF m i ++ [⟨0, ((i + m : Nat) : Int), eS⟩]
  | 0, i => by simp [varsF]
  | m + 1, i => by
    rw [varsF, varsF_snoc m (i + 1), varsF]
    rw [show i + 1 + m = i + (m + 1) by omega]; rfl
theorem layA_comp (n : Int) (s : ByteArray) (ar r : Ts) (p : Nat) : layA (.cons 3 n s ar r) p = (⟨0, (p : Nat), eS⟩ :: (layA r (p + (layS s ar p).length)).1, layS s ar p ++ (layA r (p + (layS s ar p).length)).2) := by
  rw [layA, if_pos rfl]; rfl
theorem layA_one {k : Int} (n : Int) (s : ByteArray) (ar r : Ts) (p : Nat) (h : k ≠ 3) : layA (.cons k n s ar r) p = (single k n s :: (layA r p).1, (layA r p).2) := by
  rw [layA, if_neg h]
theorem layA_len (T : Ts) : ∀ p, (layA T p).1.length = T.length := by
  induction T with
  | nil => intro p; rfl
  | cons k n s ar r _ ih =>
    intro p
    by_cases h : k = 3
    · subst h; rw [layA_comp]; simp [Ts.length, ih]
    · rw [layA_one _ _ _ _ _ h]; simp [Ts.length, ih]
theorem layS_len (s : ByteArray) (ar : Ts) (p : Nat) : (layS s ar p).length = 1 + ar.length + (layA ar (p + 1 + ar.length)).2.length := by
  simp only [layS, List.length_cons, List.length_append, layA_len]; omega
theorem layA_app (D R : Ts) : ∀ p, layA (D.app R) p = ((layA D p).1 ++ (layA R (p + (layA D p).2.length)).1, (layA D p).2 ++ (layA R (p + (layA D p).2.length)).2) := by
  induction D with
  | nil => intro p; simp [Ts.app, layA]
  | cons k n s ar r _ ih =>
    intro p
    by_cases h : k = 3
    · subst h
      rw [Ts.app, layA_comp, layA_comp, ih]
      simp only [List.length_append, List.cons_append, List.append_assoc, Nat.add_assoc]
    · rw [Ts.app, layA_one _ _ _ _ _ h, layA_one _ _ _ _ _ h, ih]
      simp only [List.cons_append]
theorem layA_le (T : Ts) : ∀ p, (layA T p).2.length + T.length ≤ 2 * T.nodes := by
  induction T with
  | nil => intro p; simp [layA, Ts.length, Ts.nodes]
  | cons k n s ar r iha ihr =>
    intro p
    by_cases h : k = 3
    · subst h
      rw [layA_comp]
      have h1 := iha (p + 1 + ar.length)
      have h2 := ihr (p + (layS s ar p).length)
      have h3 := layS_len s ar p
      simp only [List.length_append, Ts.length, Ts.nodes]; omega
    · rw [layA_one _ _ _ _ _ h]
      have h2 := ihr p
      simp only [Ts.length, Ts.nodes]; omega
theorem lay1_le (k n : Int) (s : ByteArray) (ar : Ts) (p : Nat) : (lay1 k n s ar p).length ≤ 1 + 2 * ar.nodes := by
  unfold lay1
  split
  · have := layA_le ar (p + 1 + ar.length)
    rw [layS_len]; omega
  · simp
theorem lay1_pos (k n : Int) (s : ByteArray) (ar : Ts) (p : Nat) : 0 < (lay1 k n s ar p).length := by
  unfold lay1
  split
  · simp [layS]
  · simp
theorem layL_app (D R : Ts) : ∀ p, layL (D.app R) p = ((layL D p).1 ++ (layL R (p + (layL D p).1.length)).1, (layL D p).2 ++ (layL R (p + (layL D p).1.length)).2) := by
  induction D with
  | nil => intro p; simp [Ts.app, layL]
  | cons k n s ar r _ ih =>
    intro p
    simp only [Ts.app, layL, ih, List.length_append, List.cons_append, List.append_assoc, Nat.add_assoc]
theorem layL_le (T : Ts) : ∀ p, (layL T p).1.length ≤ 2 * T.nodes := by
  induction T with
  | nil => intro p; simp [layL]
  | cons k n s ar r iha ihr =>
    intro p
    have h1 := lay1_le k n s ar p
    have h2 := ihr (p + (lay1 k n s ar p).length)
    simp only [layL, List.length_append, Ts.nodes]; omega
theorem layL_len (T : Ts) : ∀ p, (layL T p).2.length = T.length := by
  induction T with
  | nil => intro p; rfl
  | cons k n s ar r iha ihr => intro p; simp only [layL, List.length_cons, ihr, Ts.length]
/-- A clause's block: its cells, the head's place, the goals' places. -/
def blockC (c : Cl) : List HC := varsB c.vars.toNat ++ (lay1 c.k c.n c.s c.hd c.vars.toNat ++ (layL c.bd (c.vars.toNat + (lay1 c.k c.n c.s c.hd c.vars.toNat).length)).1)
def goalsC (c : Cl) : List Int := (layL c.bd (c.vars.toNat + (lay1 c.k c.n c.s c.hd c.vars.toNat).length)).2
def blockQ (vars : Int) (T : Ts) : List HC := varsB vars.toNat ++ (layL T vars.toNat).1
def goalsQ (vars : Int) (T : Ts) : List Int := (layL T vars.toNat).2
/-- A goal's nodes are few. -/
theorem Ts.goals_nodes (vars : Int) : ∀ T : Ts, T.goals vars = true → T.nodes ≤ 24 * T.length
  | .nil, _ => by simp [Ts.nodes]
  | .cons k n s ar r, h => by
    simp only [Ts.goals, Bool.and_eq_true, gB, decide_eq_true_eq] at h
    have := Ts.goals_nodes vars r h.2
    simp only [Ts.nodes, Ts.length]; omega
end Go.Proofs.Ytdflngjfnpbpmab
namespace Go.Proofs.Ytdflngjfnpbpmab
open Go.RowKit
set_option linter.unusedVariables false
set_option linter.unusedSimpArgs false

theorem goodC_mono {n f f' : Nat} {c : HC} (hf : f ≤ f') (h : goodC n c f = true) : goodC n c f' = true := by
  rcases goodC_iff h with ⟨k, a, b, s⟩ | ⟨k, a, s⟩ | ⟨k, s⟩ | ⟨k, a, b, d, s⟩
  · unfold goodC; rw [if_pos k]; simp [a, b, s]
  · unfold goodC; rw [if_neg (by omega), if_pos k]; simp [a, s]
  · unfold goodC; rw [if_neg (by omega), if_neg (by omega), if_pos k]; simp [s]
  · unfold goodC; rw [if_neg (by omega), if_neg (by omega), if_neg (by omega), if_pos k]
    simp only [Bool.and_eq_true, decide_eq_true_eq, Bool.not_eq_true', decide_eq_false_iff_not]
    exact ⟨a, b, by omega, s⟩
theorem goodL_app {n : Nat} {Y : List HC} (hY : goodL n Y = true) : ∀ {X : List HC}, goodL n X = true → goodL n (X ++ Y) = true
  | [], _ => hY
  | c :: r, h => by
    simp only [goodL, Bool.and_eq_true, List.cons_append] at h ⊢
    exact ⟨goodC_mono (by simp) h.1, goodL_app hY h.2⟩
theorem name_some {s : ByteArray} (h : nameB s = true) : s ≠ eS := by
  intro e; subst e; exact absurd h (by decide)
theorem str_nil {s : ByteArray} (h : s.toList = []) : s = eS := by
  apply str_eq.1; rw [h]; kernel_rfl
/-- What a good node is. -/
theorem node_iff {vars k n : Int} {s : ByteArray} {l : Nat} (h : nodeB vars k n s l = true) : (k = 0 ∧ 0 ≤ n ∧ n < vars ∧ s = eS ∧ l = 0) ∨ (k = 1 ∧ n = 0 ∧ s ≠ eS ∧ l = 0) ∨ (k = 2 ∧ s = eS ∧ l = 0) ∨ (k = 3 ∧ n = 0 ∧ s ≠ eS ∧ 1 ≤ l ∧ l ≤ 4) := by
  unfold nodeB at h
  split at h
  · simp only [Bool.and_eq_true, decide_eq_true_eq] at h
    exact .inl ⟨‹_›, h.1.1.1, h.1.1.2, str_nil h.1.2, h.2⟩
  split at h
  · simp only [Bool.and_eq_true, decide_eq_true_eq] at h
    exact .inr (.inl ⟨‹_›, h.1.1, name_some h.1.2, h.2⟩)
  split at h
  · simp only [Bool.and_eq_true, decide_eq_true_eq] at h
    exact .inr (.inr (.inl ⟨‹_›, str_nil h.1.2, h.2⟩))
  split at h
  · simp only [Bool.and_eq_true, decide_eq_true_eq] at h
    exact .inr (.inr (.inr ⟨‹_›, h.1.1.1.1, name_some h.1.1.1.2, h.1.2, h.2⟩))
  · cases h
theorem good_cons {vars k n : Int} {s : ByteArray} {ar r : Ts} (h : (Ts.cons k n s ar r).good vars = true) : nodeB vars k n s ar.length = true ∧ ar.good vars = true ∧ r.good vars = true := by
  simp only [Ts.good, Bool.and_eq_true] at h
  exact ⟨h.1.1, h.1.2, h.2⟩
theorem Ts.good_ap (v : Int) (D R : Ts) : (D.app R).good v = (D.good v && R.good v) := by
  induction D with
  | nil => rfl
  | cons k n b ar r _ ih => simp only [Ts.app, Ts.good, ih, Bool.and_assoc]
theorem goodC_ref {n f : Nat} {i : Int} (h0 : 0 ≤ i) (h : i < n) : goodC n ⟨0, i, eS⟩ f = true := by unfold goodC; simp [h, h0]
theorem goodC_name {n f : Nat} {s : ByteArray} (h : s ≠ eS) : goodC n ⟨1, 0, s⟩ f = true := by unfold goodC; simp [h]
theorem goodC_num {n f : Nat} {i : Int} : goodC n ⟨2, i, eS⟩ f = true := by unfold goodC; simp
theorem goodC_frame {n f l : Nat} {s : ByteArray} (h : s ≠ eS) (h1 : 1 ≤ l) (h2 : l ≤ 4) (h3 : l ≤ f) : goodC n ⟨3, (l : Nat), s⟩ f = true := by
  unfold goodC; simp [h]; omega
theorem layA_good {vars : Int} {all : Nat} (hv : vars ≤ all) (T : Ts) : ∀ p, T.good vars = true → p + (layA T p).2.length ≤ all → goodL all (layA T p).1 = true ∧ goodL all (layA T p).2 = true := by
  induction T with
  | nil => intro p _ _; exact ⟨rfl, rfl⟩
  | cons k n s ar r iha ihr =>
    intro p hg hp
    obtain ⟨hn, ha, hr⟩ := good_cons hg
    rcases node_iff hn with ⟨rfl, h0, h1, h2, h3⟩ | ⟨rfl, h0, h1, h2⟩ | ⟨rfl, h0, h1⟩ | ⟨rfl, h0, h1, h2, h3⟩
    · rw [layA_one _ _ _ _ _ (by decide)] at hp ⊢
      obtain ⟨i1, i2⟩ := ihr p hr hp
      refine ⟨?_, i2⟩
      simp only [goodL, Bool.and_eq_true]
      exact ⟨goodC_ref h0 (by omega), i1⟩
    · rw [layA_one _ _ _ _ _ (by decide)] at hp ⊢
      obtain ⟨i1, i2⟩ := ihr p hr hp
      refine ⟨?_, i2⟩
      simp only [goodL, Bool.and_eq_true]
      exact ⟨goodC_name h1, i1⟩
    · rw [layA_one _ _ _ _ _ (by decide)] at hp ⊢
      obtain ⟨i1, i2⟩ := ihr p hr hp
      refine ⟨?_, i2⟩
      simp only [goodL, Bool.and_eq_true]
      exact ⟨goodC_num, i1⟩
    · rw [layA_comp] at hp ⊢
      have hls := layS_len s ar p
      simp only [List.length_append] at hp
      obtain ⟨a1, a2⟩ := iha (p + 1 + ar.length) ha (by omega)
      obtain ⟨i1, i2⟩ := ihr (p + (layS s ar p).length) hr (by omega)
      refine ⟨?_, goodL_app i2 ?_⟩
      · simp only [goodL, Bool.and_eq_true]
        exact ⟨goodC_ref (by omega) (by omega), i1⟩
      · unfold layS
        simp only [goodL, Bool.and_eq_true]
        exact ⟨goodC_frame h1 h2 h3 (by rw [List.length_append, layA_len]; omega), goodL_app a2 a1⟩
theorem lay1_good {vars k n : Int} {s : ByteArray} {ar : Ts} {all p : Nat} (hv : vars ≤ all) (h : gB vars k n s ar = true) (hp : p + (lay1 k n s ar p).length ≤ all) : goodL all (lay1 k n s ar p) = true := by
  simp only [gB, goalB, Bool.and_eq_true, Bool.or_eq_true, decide_eq_true_eq] at h
  obtain ⟨hn, ha, _⟩ := good_cons h.1.2
  rcases node_iff hn with ⟨rfl, _⟩ | ⟨rfl, h0, h1, h2⟩ | ⟨rfl, _⟩ | ⟨rfl, h0, h1, h2, h3⟩
  · rcases h.1.1 with h | h <;> omega
  · unfold lay1
    rw [if_neg (by decide)]
    simp only [goodL, Bool.and_eq_true, and_true]
    exact goodC_name h1
  · rcases h.1.1 with h | h <;> omega
  · unfold lay1 at hp ⊢
    rw [if_pos rfl] at hp ⊢
    have hls := layS_len s ar p
    obtain ⟨a1, a2⟩ := layA_good hv ar (p + 1 + ar.length) ha (by omega)
    unfold layS
    simp only [goodL, Bool.and_eq_true]
    exact ⟨goodC_frame h1 h2 h3 (by rw [List.length_append, layA_len]; omega), goodL_app a2 a1⟩
theorem layL_good {vars : Int} {all : Nat} (hv : vars ≤ all) (T : Ts) : ∀ p, T.goals vars = true → p + (layL T p).1.length ≤ all → goodL all (layL T p).1 = true := by
  induction T with
  | nil => intro p _ _; rfl
  | cons k n s ar r _ ihr =>
    intro p hg hp
    simp only [Ts.goals, Bool.and_eq_true] at hg
    simp only [layL, List.length_append] at hp ⊢
    exact goodL_app (ihr _ hg.2 (by omega)) (lay1_good hv hg.1 (by omega))
theorem varsF_good {all : Nat} : ∀ m i, i + m ≤ all → goodL all (varsF m i) = true
  | 0, i, _ => rfl
  | m + 1, i, h => by
    simp only [varsF, goodL, Bool.and_eq_true]
    exact ⟨goodC_ref (by omega) (by omega), varsF_good m (i + 1) (by omega)⟩
/-- What a good clause is. -/
theorem cB_iff {c : Cl} (h : cB c = true) : 0 ≤ c.vars ∧ c.vars ≤ 8 ∧ c.bd.length ≤ 5 ∧ c.bd.goals c.vars = true ∧ gB c.vars c.k c.n c.s c.hd = true := by
  simp only [cB, qB, Bool.and_eq_true, decide_eq_true_eq] at h
  exact ⟨h.1.1.1.1.1, h.1.1.1.1.2, h.1.1.1.2, h.1.1.2, h.1.2⟩
theorem gB_nodes {vars k n : Int} {s : ByteArray} {ar : Ts} (h : gB vars k n s ar = true) : ar.nodes + 1 ≤ 24 := by
  simp only [gB, Bool.and_eq_true, decide_eq_true_eq] at h
  exact h.2
theorem blockC_len {c : Cl} (h : cB c = true) : (blockC c).length ≤ 300 := by
  obtain ⟨h0, h1, h2, h3, h4⟩ := cB_iff h
  have h5 := gB_nodes h4
  have h6 := Ts.goals_nodes _ _ h3
  have h7 := lay1_le c.k c.n c.s c.hd c.vars.toNat
  have h8 := layL_le c.bd (c.vars.toNat + (lay1 c.k c.n c.s c.hd c.vars.toNat).length)
  simp only [blockC, List.length_append, varsB_len]
  omega
theorem blockC_good {c : Cl} (h : cB c = true) : goodCs (blockC c) = true := by
  obtain ⟨h0, h1, h2, h3, h4⟩ := cB_iff h
  have hl := blockC_len h
  unfold goodCs
  simp only [Bool.and_eq_true, decide_eq_true_eq]
  refine ⟨by omega, ?_⟩
  have he : (blockC c).length = c.vars.toNat + ((lay1 c.k c.n c.s c.hd c.vars.toNat).length + (layL c.bd (c.vars.toNat + (lay1 c.k c.n c.s c.hd c.vars.toNat).length)).1.length) := by
    simp only [blockC, List.length_append, varsB_len]
  unfold blockC
  refine goodL_app (goodL_app (layL_good (vars := c.vars) (by unfold blockC at he; omega) _ _ h3 (by unfold blockC at he; omega)) (lay1_good (vars := c.vars) (by unfold blockC at he; omega) h4 (by unfold blockC at he; omega))) (varsF_good _ _ (by unfold blockC at he; omega))
end Go.Proofs.Ytdflngjfnpbpmab
namespace Go.Proofs.Ytdflngjfnpbpmab
open Go.RowKit

/-- Block mb is a map with these pairs. -/
def MapIs (w : World) (mb : Nat) (ents : List (Int × Value)) : Prop :=
  ∃ es clock, w.heap[mb]? = some (.map es clock) ∧ es.toList.map (fun e => (e.key, e.val)) = ents.map (fun x => (Value.int .i64 x.1, x.2))

def aget (n : Int) : List (Int × Value) → Option Value
  | [] => none
  | x :: r => if n = x.1 then some x.2 else aget n r
def aput (n : Int) (v : Value) : List (Int × Value) → List (Int × Value)
  | [] => [(n, v)]
  | x :: r => if n = x.1 then (n, v) :: r else x :: aput n v r
def aidx (n : Int) : List (Int × Value) → Nat → Option (Nat × Value)
  | [], _ => none
  | x :: r, i => if n = x.1 then some (i, x.2) else aidx n r (i + 1)

theorem isKey_int (n : Int) : MapKept.IsKey (.int .i64) (.int .i64 n) := by simp [MapKept.IsKey]

theorem findNow_ints (n : Int) : ∀ (es : List MapEntry) (ents : List (Int × Value)) (i : Nat), es.map (fun e => (e.key, e.val)) = ents.map (fun x => (Value.int .i64 x.1, x.2)) →
    Instr.findNow (.int .i64) (.int .i64 n) es i = some (aidx n ents i)
  | [], [], i, _ => rfl
  | [], _ :: _, _, h => by simp at h
  | _ :: _, [], _, h => by simp at h
  | e :: es, x :: ents, i, h => by
    simp only [List.map_cons, List.cons.injEq, Prod.mk.injEq] at h
    obtain ⟨⟨h1, h2⟩, h3⟩ := h
    have ih := findNow_ints n es ents (i + 1) h3
    simp only [Instr.findNow, h1, Instr.sameNow, aidx, if_true]
    by_cases e1 : n = x.1
    · simp [e1, h2]
    · have e2 : (n == x.1) = false := by simpa using e1
      rw [e2, if_neg e1, ← ih]

theorem aidx_none {n : Int} : ∀ {ents : List (Int × Value)} {i : Nat}, aidx n ents i = none ↔ aget n ents = none
  | [], _ => by simp [aidx, aget]
  | x :: r, i => by
    simp only [aidx, aget]
    by_cases e : n = x.1
    · simp [e]
    · simp only [e, if_false]; exact aidx_none
theorem aidx_some {n : Int} : ∀ {ents : List (Int × Value)} {i j : Nat} {v : Value}, aidx n ents i = some (j, v) → aget n ents = some v
  | [], _, _, _, h => by simp [aidx] at h
  | x :: r, i, j, v, h => by
    simp only [aidx, aget] at *
    by_cases e : n = x.1
    · simp only [e, if_true, Option.some.injEq, Prod.mk.injEq] at h ⊢; exact h.2
    · simp only [e, if_false] at h ⊢; exact aidx_some h
theorem aput_none {n : Int} {v : Value} : ∀ {ents : List (Int × Value)}, aget n ents = none → aput n v ents = ents ++ [(n, v)]
  | [], _ => rfl
  | x :: r, h => by
    simp only [aget] at h
    by_cases e : n = x.1
    · simp [e] at h
    · simp only [e, if_false] at h
      simp only [aput, e, if_false, aput_none h, List.cons_append]
theorem aput_some {n : Int} {v u : Value} : ∀ {ents : List (Int × Value)} {i j : Nat}, aidx n ents i = some (j, u) → i ≤ j ∧ (ents[j - i]?).map (·.1) = some n ∧ aput n v ents = ents.set (j - i) (n, v)
  | [], _, _, h => by simp [aidx] at h
  | x :: r, i, j, h => by
    simp only [aidx, aput] at *
    by_cases e : n = x.1
    · simp only [e, if_true, Option.some.injEq, Prod.mk.injEq] at h
      obtain ⟨rfl, _⟩ := h
      simp [e]
    · simp only [e, if_false] at h ⊢
      obtain ⟨h1, h2, h3⟩ := aput_some (v := v) h
      have e1 : j - i = (j - (i + 1)) + 1 := by omega
      refine ⟨by omega, by rw [e1]; simpa using h2, by rw [h3, e1]; rfl⟩

section
variable {P : Program} {w : World} {mb : Nat} {ents : List (Int × Value)} {t kt et : TypeId}
theorem MapIs.lt (h : MapIs w mb ents) : mb < w.heap.size := by
  obtain ⟨es, clock, hb, _⟩ := h
  exact (Array.getElem?_eq_some_iff.1 hb).1
theorem MapIs.keep {w' : World} (h : MapIs w mb ents) (hk : w'.heap[mb]? = w.heap[mb]?) : MapIs w' mb ents := by
  obtain ⟨es, clock, hb, he⟩ := h
  exact ⟨es, clock, hk.trans hb, he⟩
theorem MapIs.chg {S : Nat → Prop} {w' : World} (h : MapIs w mb ents) (hc : Chg S w w') (hS : ¬ S mb) : MapIs w' mb ents := h.keep (hc.block mb h.lt hS)
theorem MapIs.made (w : World) : MapIs (w.alloc (.map #[] 0)) w.heap.size [] := ⟨#[], 0, heap_alloc_new w _, rfl⟩

theorem run_makeMap {P : Program} (t : TypeId) (w : World) : (Instr.makeMap t none).run P w = .ok (.map (some w.heap.size)) (w.alloc (.map #[] 0)) := by
  simp [Instr.makeMap, newObj, Sem.run]
theorem MapIs.lookup (h : MapIs w mb ents) {z : Value} (ht : P.underlying t = some (.map kt et)) (hk : P.underlying kt = some (.int .i64))
    (hz : (zeroValue et).run P w = .ok z w) (n : Int) (c : Bool) :
    (Instr.lookup t (.map (some mb)) (.int .i64 n) c).run P w = .ok (if c then .tuple #[(aget n ents).getD z, .bool (aget n ents).isSome] else (aget n ents).getD z) w := by
  obtain ⟨es, clock, hb, he⟩ := h
  have hf := findNow_ints n es.toList ents 0 he
  cases ha : aidx n ents 0 with
  | none =>
    rw [ha] at hf
    simp [Instr.lookup, run_underlying ht, MapKept.run_getObj_map hb, MapKept.run_checkKey hk (isKey_int n), MapKept.run_findKey hk hf, hz, Result.andThen, aidx_none.1 ha]
  | some x =>
    rw [ha] at hf
    simp [Instr.lookup, run_underlying ht, MapKept.run_getObj_map hb, MapKept.run_checkKey hk (isKey_int n), MapKept.run_findKey hk hf, Result.andThen, aidx_some ha]

theorem MapIs.update (h : MapIs w mb ents) (ht : P.underlying t = some (.map kt et)) (hk : P.underlying kt = some (.int .i64)) (n : Int) (v : Value) :
    ∃ w', (Instr.mapUpdate t (.map (some mb)) (.int .i64 n) v).run P w = .ok () w' ∧ MapIs w' mb (aput n v ents) ∧ Chg (fun k => k = mb) w w' ∧ w'.heap.size = w.heap.size := by
  have hlt := h.lt
  obtain ⟨es, clock, hb, he⟩ := h
  have hf := findNow_ints n es.toList ents 0 he
  cases ha : aidx n ents 0 with
  | none =>
    rw [ha] at hf
    refine ⟨{ w with heap := w.heap.setIfInBounds mb (.map (es.push { key := .int .i64 n, val := v, born := clock }) (clock + 1)) }, ?_, ⟨_, _, (MapKept.heap_set hb).1, ?_⟩, ⟨rfl, rfl, rfl, by simp, fun k _ hn => (MapKept.heap_set hb).2 k hn⟩, by simp⟩
    · simp [Instr.mapUpdate, run_underlying ht, MapKept.run_getObj_map hb, MapKept.run_checkKey hk (isKey_int n), MapKept.run_findKey hk hf, MapKept.run_setObj_map _ hb, Result.andThen]
    · rw [aput_none (aidx_none.1 ha), Array.toList_push, List.map_append, List.map_append, he]; rfl
  | some x =>
    obtain ⟨j, u⟩ := x
    rw [ha] at hf
    obtain ⟨_, h2, h3⟩ := aput_some (v := v) ha
    simp only [Nat.sub_zero] at h2 h3
    have hent : ∃ e, es[j]? = some e ∧ e.key = .int .i64 n := by
      have h4 := congrArg (fun l => l[j]?) he
      simp only [List.getElem?_map] at h4
      cases h5 : ents[j]? with
      | none => rw [h5] at h2; simp at h2
      | some y =>
        rw [h5] at h2 h4
        simp only [Option.map_some, Option.some.injEq] at h2
        cases h6 : es[j]? with
        | none => simp [h6] at h4
        | some e =>
          simp [h6] at h4
          exact ⟨e, rfl, by rw [h4.1, h2]⟩
    obtain ⟨e, hj, hkey⟩ := hent
    refine ⟨{ w with heap := w.heap.setIfInBounds mb (.map (es.modify j fun e => { e with key := .int .i64 n, val := v }) clock) }, ?_, ⟨_, _, (MapKept.heap_set hb).1, ?_⟩, ⟨rfl, rfl, rfl, by simp, fun k _ hn => (MapKept.heap_set hb).2 k hn⟩, by simp⟩
    · simp [Instr.mapUpdate, run_underlying ht, MapKept.run_getObj_map hb, MapKept.run_checkKey hk (isKey_int n), MapKept.run_findKey hk hf, hj, hkey, MapKept.run_keyThatStays (isKey_int n), MapKept.run_setObj_map _ hb, Result.andThen]
    · rw [h3]
      apply List.ext_getElem?
      intro i
      have h4 := congrArg (fun l => l[i]?) he
      simp only [List.getElem?_map, Array.getElem?_toList] at h4
      simp only [List.getElem?_map, Array.getElem?_toList, Array.getElem?_modify, List.getElem?_set]
      by_cases hij : j = i
      · subst hij
        have hjl : j < ents.length := by
          rcases Nat.lt_or_ge j ents.length with hl | hl
          · exact hl
          · rw [List.getElem?_eq_none hl] at h2; simp at h2
        simp [hj, hjl]
      · simp [hij, h4]
theorem MapIs.size (h : MapIs w mb ents) : ∃ es clock, w.heap[mb]? = some (.map es clock) ∧ es.size = ents.length := by
  obtain ⟨es, clock, hb, he⟩ := h
  refine ⟨es, clock, hb, ?_⟩
  have := congrArg List.length he
  simpa using this
theorem MapIs.len (h : MapIs w mb ents) (ht : P.underlying t = some (.map kt et)) (ty : TypeId) : (Builtin.len_ #[t] ty #[.map (some mb)]).run P w = .ok (.int .i64 ents.length) w := by
  obtain ⟨es, clock, hb, hs⟩ := h.size
  simp [Builtin.len_, run_underlying ht, MapKept.run_getObj_map hb, Result.andThen, hs, goInt]
end
end Go.Proofs.Ytdflngjfnpbpmab
namespace Go.Proofs.Ytdflngjfnpbpmab
open Go.RowKit

/-- The remainder modulo 2^40 that is not negative. -/
def low (n : Int) : Int := n % 1099511627776
theorem low_bounds (n : Int) : 0 ≤ low n ∧ low n < 1099511627776 := by unfold low; omega

/-- Where a number stands in a list. -/
def pos (n : Int) : List Int → Option Nat
  | [] => none
  | k :: r => if n = k then some 0 else (pos n r).map (· + 1)
/-- The number of a variable, by the order in which the variables have come; the variables then. -/
def numV (ks : List Int) (n : Int) : Int := ((pos n ks).getD ks.length : Nat)
def numS (ks : List Int) (n : Int) : List Int := if (pos n ks).isSome then ks else ks ++ [n]
def entsFrom (i : Nat) : List Int → List (Int × Value)
  | [] => []
  | k :: r => (k, .int .i64 i) :: entsFrom (i + 1) r
theorem length_entsFrom : ∀ (ks : List Int) (i : Nat), (entsFrom i ks).length = ks.length
  | [], _ => rfl
  | _ :: r, i => by simp [entsFrom, length_entsFrom r (i + 1)]
theorem aget_entsFrom (n : Int) : ∀ (ks : List Int) (i : Nat), aget n (entsFrom i ks) = (pos n ks).map fun j => Value.int .i64 ((i + j : Nat) : Int)
  | [], _ => rfl
  | k :: r, i => by
    simp only [entsFrom, aget, pos]
    by_cases e : n = k
    · simp [e]
    · simp only [e, if_false, aget_entsFrom n r (i + 1), Option.map_map]
      congr 1
      funext j
      simp only [Function.comp]
      congr 2
      omega
theorem entsFrom_snoc (n : Int) : ∀ (ks : List Int) (i : Nat), entsFrom i (ks ++ [n]) = entsFrom i ks ++ [(n, .int .i64 ((i + ks.length : Nat) : Int))]
  | [], i => rfl
  | k :: r, i => by
    simp only [List.cons_append, entsFrom, entsFrom_snoc n r (i + 1), List.length_cons]
    congr 5
    omega
/-- The map in block mb numbers the variables ks. -/
def NumIs (w : World) (mb : Nat) (ks : List Int) : Prop := MapIs w mb (entsFrom 0 ks)
theorem numS_length (ks : List Int) (n : Int) : (numS ks n).length ≤ ks.length + 1 := by
  unfold numS; split <;> simp

theorem pos_snoc {n : Int} : ∀ {ks : List Int}, pos n ks = none → pos n (ks ++ [n]) = some ks.length
  | [], _ => by simp [pos]
  | k :: r, h => by
    simp only [pos] at h
    by_cases e : n = k
    · simp [e] at h
    · simp only [e, if_false, Option.map_eq_none_iff] at h
      simp [pos, e, pos_snoc h]
theorem Plot.not_map {w : World} {g mb : Nat} {t : TypeId} {cs : Array Value} {ents : List (Int × Value)} (h : Plot w g t cs) (hm : MapIs w mb ents) : g ≠ mb := by
  rintro rfl
  obtain ⟨es, clock, hb, _⟩ := hm
  unfold Plot at h
  rw [hb] at h
  cases h

theorem info_int : (Try.prog.info? 3).map (fun i => (i.zero, i.size, i.bytes)) = some (some (.int .i64 0), 1, 8) := by kernel_rfl
theorem zero_int (w : World) : (zeroValue 3).run Try.prog w = .ok (.int .i64 0) w := by
  obtain ⟨i0, hi0, hz0, _⟩ := info_parts info_int
  simp [zeroValue, typeInfo, hi0, hz0]

theorem tmod_bounds (n : Int) : -1099511627776 < n.tmod 1099511627776 ∧ n.tmod 1099511627776 < 1099511627776 := by
  rcases Int.le_total 0 n with h | h
  · rw [Int.tmod_eq_emod_of_nonneg h]; omega
  · have e : n = -(-n) := by omega
    rw [e, Int.neg_tmod, Int.tmod_eq_emod_of_nonneg (by omega)]; omega
theorem low_of_tmod (n : Int) : low n = if 0 ≤ n.tmod 1099511627776 then n.tmod 1099511627776 else n.tmod 1099511627776 + 1099511627776 := by
  unfold low
  rcases Int.le_total 0 n with h | h
  · rw [Int.tmod_eq_emod_of_nonneg h]; omega
  · have e : n.tmod 1099511627776 = -((-n) % 1099511627776) := by
      have e : n = -(-n) := by omega
      rw [e, Int.neg_tmod, Int.tmod_eq_emod_of_nonneg (by omega)]; simp
    rw [e]; omega

set_option maxHeartbeats 400000 in
theorem tidy1_any (n : Int) (ks : List Int) (vb mb : Nat) (w : World) (hv : Plot w vb 93 #[.map (some mb)]) (hm : NumIs w mb ks) :
    Calls Try.prog 65 #[.int .i64 n, .pointer (some ⟨vb, 0, none⟩)] w fun e w' => e = .returned (.int .i64 (numV ks n)) ∧ NumIs w' mb (numS ks n) ∧ Chg (fun k => k = mb) w w' := by
  have c0 : w.cell? ⟨vb, 0, none⟩ = some (.map (some mb)) := hv.cell 0
  have hlook := MapIs.lookup (P := Try.prog) hm Try.underlying93 Try.underlying3 (zero_int w) n true
  rw [aget_entsFrom] at hlook
  have hlen := MapIs.len (P := Try.prog) hm Try.underlying93
  rw [length_entsFrom] at hlen
  obtain ⟨w1, hup, hm1, hc1, hs1⟩ := MapIs.update (P := Try.prog) hm Try.underlying93 Try.underlying3 n (.int .i64 ks.length)
  cases hp : pos n ks with
  | none =>
    rw [hp] at hlook
    simp only [Option.map_none, Option.getD_none, Option.isSome_none, if_true] at hlook
    have h1 : numV ks n = ks.length := by simp [numV, hp]
    have h2 : NumIs w1 mb (numS ks n) := by
      unfold NumIs numS
      rw [hp]
      simp only [Option.isSome_none, Bool.false_eq_true, if_false]
      rw [entsFrom_snoc]
      rw [aput_none (by rw [aget_entsFrom, hp]; rfl)] at hm1
      simpa using hm1
    have H1 := Lib.hid h1
    clear h1 hp
    go_enter Try.func65, Try.ntmps65
    go_wp2_with fail
    go_ret
    exact ⟨by rw [H1.out]; rfl, h2, hc1⟩
  | some j =>
    rw [hp] at hlook
    simp only [Option.map_some, Option.getD_some, Option.isSome_some, if_true] at hlook
    have h1 : numV ks n = j := by simp [numV, hp]
    have h2 : NumIs w mb (numS ks n) := by
      unfold numS
      rw [hp]
      exact hm
    have H1 := Lib.hid h1
    clear h1 hp
    go_enter Try.func65, Try.ntmps65
    go_wp2_with fail
    go_ret
    exact ⟨by rw [H1.out]; rfl, h2, Chg.refl _ _⟩

end Go.Proofs.Ytdflngjfnpbpmab
namespace Go.Proofs.Ytdflngjfnpbpmab
open Go.RowKit
set_option maxRecDepth 100000

/-- What gives the variables their numbers: a function value, and what it knows. -/
structure Num (σ : Type) where
  fid : FuncId
  cap : Array Value
  own : Nat → Prop
  lean : Nat → Prop
  inv : σ → World → Prop
  val : σ → Int → Int
  nxt : σ → Int → σ
structure Num.Ok {σ : Type} (N : Num σ) : Prop where
  keep : ∀ s w w', N.inv s w → (∀ k, N.lean k → w'.heap[k]? = w.heap[k]?) → N.inv s w'
  lt : ∀ s w k, N.inv s w → N.lean k → k < w.heap.size
  sub : ∀ k, N.own k → N.lean k
  bare : ∀ s w k c t f, N.inv s w → N.own k → w.heap[k]? ≠ some (.cells c t f)
  enter : ∀ (args : Array Value) (w : World), (callFunc N.fid args).run Try.prog w = .ok (.enter N.fid args) w
  call : ∀ s n w, N.inv s w → Calls Try.prog N.fid (#[.int .i64 n] ++ N.cap) w fun e w' => e = .returned (.int .i64 (N.val s n)) ∧ N.inv (N.nxt s n) w' ∧ Chg N.own w w'

def Num.v1 {σ : Type} (N : Num σ) (k n : Int) (s : σ) : Int := if k = 0 then N.val s n else n
def Num.s1 {σ : Type} (N : Num σ) (k n : Int) (s : σ) : σ := if k = 0 then N.nxt s n else s
/-- Every variable gets its number, each term ahead of its arguments. -/
def Ts.ren {σ : Type} (N : Num σ) : Ts → σ → Ts × σ
  | .nil, s => (.nil, s)
  | .cons k n b ar r, s => (.cons k (N.v1 k n s) b (ar.ren N (N.s1 k n s)).1 (r.ren N (ar.ren N (N.s1 k n s)).2).1, (r.ren N (ar.ren N (N.s1 k n s)).2).2)
theorem Ts.ren_app {σ : Type} (N : Num σ) (D R : Ts) : ∀ s : σ, (D.app R).ren N s = ((D.ren N s).1.app (R.ren N (D.ren N s).2).1, (R.ren N (D.ren N s).2).2) := by
  induction D with
  | nil => intro s; rfl
  | cons k n b ar r _ ih => intro s; simp only [Ts.app, Ts.ren, ih]
theorem Ts.length_ren {σ : Type} (N : Num σ) (T : Ts) : ∀ s : σ, (T.ren N s).1.length = T.length := by
  induction T with
  | nil => intro s; rfl
  | cons k n b ar r _ ih => intro s; simp only [Ts.ren, Ts.length, ih]
theorem Ts.nodes_ren {σ : Type} (N : Num σ) (T : Ts) : ∀ s : σ, (T.ren N s).1.nodes = T.nodes := by
  induction T with
  | nil => intro s; rfl
  | cons k n b ar r iha ih => intro s; simp only [Ts.ren, Ts.nodes, ih, iha]

section
variable {σ : Type} {N : Num σ}
theorem Num.Ok.cell_none (ok : N.Ok) {w : World} {s : σ} {k o : Nat} (hi : N.inv s w) (ho : N.own k) : w.cell? ⟨k, o, none⟩ = none := by
  have := fun c t f => ok.bare s w k c t f hi ho
  unfold World.cell?
  split
  · rename_i h; exact absurd h (this _ _ _)
  · rfl
theorem Num.Ok.sl (ok : N.Ok) {w w' : World} {p : Nat → Prop} {s : σ} {v : Value} {T : Ts} (h : Sl w p v T) (hi : N.inv s w) (hc : Chg N.own w w') : Sl w' p v T := by
  have h1 : Sl w (fun k => p k ∧ ¬ N.own k) v T := h.imp' fun k hk ⟨j, u, hu⟩ => ⟨hk, fun ho => by rw [ok.cell_none hi ho] at hu; cases hu⟩
  exact (h1.chg hc fun k hk => hk.2).imp fun k hk _ => hk.1
end

end Go.Proofs.Ytdflngjfnpbpmab
namespace Go.Proofs.Ytdflngjfnpbpmab
open Go.RowKit

/-- Is a cell one of those that are still to be visited? -/
def InS (L : List Lev) (k i : Nat) : Prop := ∃ l ∈ L, l.b = k ∧ l.o ≤ i ∧ i < l.o + 4 * l.T.length
/-- Block k is a row of terms' cells. -/
def T24 (w : World) (k : Nat) : Prop := ∃ cur, Plot w k 39 cur
/-- In w' all levels have been visited, from the state s on to the state sf. -/
def RenL {σ : Type} (N : Num σ) (B : Nat) (w' : World) : List Lev → σ → σ → Prop
  | [], s, sf => sf = s
  | l :: r, s, sf => Seg w' (fun k => B ≤ k) (l.T.ren N s).1 l.b l.o ∧ RenL N B w' r (l.T.ren N s).2 sf
/-- What is not to be visited has not turned. -/
def Fr (L : List Lev) (w w' : World) : Prop := ∀ k i v, T24 w k → ¬ InS L k i → w.cell? ⟨k, i, none⟩ = some v → w'.cell? ⟨k, i, none⟩ = some v

/-- A level's cells are those of terms of the first world. -/
def LevIs (w0 w : World) (B : Nat) (l : Lev) : Prop :=
  B ≤ l.b ∧ ∃ cur xs, Plot w l.b 39 cur ∧ Cs w0 (fun _ => True) l.T xs ∧ ∀ j u, xs[j]? = some u → cur[l.o + j]? = some u

structure RnRel {σ : Type} (N : Num σ) (w0 : World) (s0 : σ) (T : Ts) (out : Value) (pb : Nat) (L : List Lev) (s : σ) (pv : Value) (xs : List Value) (w : World) : Prop where
  path : IsPath w w0.heap.size pb pv xs
  pbl : w0.heap.size ≤ pb
  pvs : PV L xs
  lev : ∀ l ∈ L, LevIs w0 w w0.heap.size l
  dis : (L.map Lev.b).Nodup
  inv : N.inv s w
  chg : Chg N.own w0 w
  small : nodesOf L ≤ T.nodes
  wand : ∀ w' sf, RenL N w0.heap.size w' L s sf → Fr L w w' → Sl w' (fun k => w0.heap.size ≤ k) out (T.ren N s0).1 ∧ sf = (T.ren N s0).2


theorem mem_push {T : Ts} {b o : Nat} {L : List Lev} {l : Lev} (h : l ∈ push T b o L) : (0 < T.length ∧ l = ⟨b, o, T⟩) ∨ l ∈ L := by
  unfold push at h
  split at h
  · exact .inr h
  · rcases List.mem_cons.1 h with h | h
    · exact .inl ⟨by omega, h⟩
    · exact .inr h
theorem inS_push {T : Ts} {b o k i : Nat} {L : List Lev} (h : InS (push T b o L) k i) : (b = k ∧ o ≤ i ∧ i < o + 4 * T.length) ∨ InS L k i := by
  obtain ⟨l, hl, h⟩ := h
  rcases mem_push hl with ⟨_, rfl⟩ | hl
  · exact .inl h
  · exact .inr ⟨l, hl, h⟩
theorem renL_push {σ : Type} {N : Num σ} {B : Nat} {w' : World} {T : Ts} {b o : Nat} {L : List Lev} {s sf : σ} (h : RenL N B w' (push T b o L) s sf) : Seg w' (fun k => B ≤ k) (T.ren N s).1 b o ∧ RenL N B w' L (T.ren N s).2 sf := by
  unfold push at h
  split at h
  · rename_i h0
    rw [Ts.nil_of_length h0]
    exact ⟨trivial, h⟩
  · exact h

theorem RnRel.step {σ : Type} {N : Num σ} {w0 wr w5 : World} {s0 s : σ} {T : Ts} {out : Value} {pb b o g : Nat} {k n : Int} {t : ByteArray} {ar r : Ts} {L : List Lev} {pv pv5 v v4 : Value} {xs xs5 ys xs4 : List Value} {cur curg : Array Value}
    (h : RnRel N w0 s0 T out pb (⟨b, o, .cons k n t ar r⟩ :: L) s pv xs wr)
    (hcur : Plot wr b 39 cur) (c0 : cur[o]? = some (.int .i64 k)) (c1 : cur[o + 1]? = some (.int .i64 n)) (c2 : cur[o + 2]? = some (.string t)) (c3 : cur[o + 3]? = some v) (hys : Cs w0 (fun _ => True) r ys) (cys : ∀ (j : Nat) u, ys[j]? = some u → cur[o + 4 + j]? = some u)
    (hpath : IsPath w5 w0.heap.size pb pv5 xs5) (hpv : PV (push ar g 0 (push r b (o + 4) L)) xs5) (hxs4 : Cs w0 (fun _ => True) ar xs4)
    (hother : ∀ k' cur', k' ≠ b → Plot wr k' 39 cur' → Plot w5 k' 39 cur')
    (hb5 : Plot w5 b 39 ((cur.setIfInBounds (o + 1) (.int .i64 (N.v1 k n s))).setIfInBounds (o + 3) v4))
    (hv4 : ∃ A c, v4 = .slice A ar.length c ∧ ar.length ≤ c ∧ (0 < ar.length → A = some ⟨g, 0, none⟩))
    (hg : 0 < ar.length → wr.heap.size ≤ g ∧ Plot w5 g 39 curg ∧ ∀ (j : Nat) u, xs4[j]? = some u → curg[j]? = some u)
    (hI : N.inv (N.s1 k n s) w5) (hC : Chg N.own w0 w5) :
    RnRel N w0 s0 T out pb (push ar g 0 (push r b (o + 4) L)) (N.s1 k n s) pv5 xs5 w5 := by
  have hd := h.dis
  simp only [List.map_cons, List.nodup_cons] at hd
  have hne : ∀ l ∈ L, l.b ≠ b := fun l hl e => hd.1 (by rw [← e]; exact List.mem_map_of_mem hl)
  have hbl := hcur.lt
  have hlev : ∀ l ∈ L, l.b < wr.heap.size := fun l hl => by
    obtain ⟨_, _, _, h1, _⟩ := h.lev l (List.mem_cons_of_mem _ hl)
    exact h1.lt
  have hB : w0.heap.size ≤ b := (h.lev _ (List.mem_cons_self ..)).1
  have hBr := h.chg.size
  have hsz : ((cur.setIfInBounds (o + 1) (.int .i64 (N.v1 k n s))).setIfInBounds (o + 3) v4).size = cur.size := by simp
  have hlt : ∀ {i : Nat} {u : Value}, cur[i]? = some u → i < cur.size := fun hu => (Array.getElem?_eq_some_iff.1 hu).1
  have hset : ∀ i u, i ≠ o + 1 → i ≠ o + 3 → cur[i]? = some u → ((cur.setIfInBounds (o + 1) (.int .i64 (N.v1 k n s))).setIfInBounds (o + 3) v4)[i]? = some u := fun i u h1 h3 hu => by
    rw [Array.getElem?_setIfInBounds_ne (by omega), Array.getElem?_setIfInBounds_ne (by omega)]; exact hu
  have d1 : ((cur.setIfInBounds (o + 1) (.int .i64 (N.v1 k n s))).setIfInBounds (o + 3) v4)[o + 1]? = some (.int .i64 (N.v1 k n s)) := by
    rw [Array.getElem?_setIfInBounds_ne (by omega), Array.getElem?_setIfInBounds_self_of_lt (hlt c1)]
  have d3 : ((cur.setIfInBounds (o + 1) (.int .i64 (N.v1 k n s))).setIfInBounds (o + 3) v4)[o + 3]? = some v4 := by
    rw [Array.getElem?_setIfInBounds_self_of_lt (by simpa using hlt c3)]
  refine ⟨hpath, h.pbl, hpv, ?_, ?_, hI, hC, ?_, ?_⟩
  · intro l hl
    rcases mem_push hl with ⟨hp, rfl⟩ | hl
    · obtain ⟨h1, h2, h3⟩ := hg hp
      exact ⟨by show _ ≤ g; omega, curg, xs4, h2, hxs4, fun j u hu => by rw [Nat.zero_add]; exact h3 j u hu⟩
    · rcases mem_push hl with ⟨hp, rfl⟩ | hl
      · exact ⟨hB, _, ys, hb5, hys, fun j u hu => hset _ _ (by show o + 4 + j ≠ _; omega) (by show o + 4 + j ≠ _; omega) (cys j u hu)⟩
      · obtain ⟨h1, cur', zs, h2, h3, h4⟩ := h.lev l (List.mem_cons_of_mem _ hl)
        exact ⟨h1, cur', zs, hother _ _ (hne l hl) h2, h3, h4⟩
  · have h1 : ((push r b (o + 4) L).map Lev.b).Nodup ∧ ∀ l ∈ push r b (o + 4) L, l.b < wr.heap.size := by
      constructor
      · unfold push
        split
        · exact hd.2
        · simpa using hd
      · intro l hl
        rcases mem_push hl with ⟨_, rfl⟩ | hl
        · exact hbl
        · exact hlev l hl
    unfold push
    split
    · exact h1.1
    · rename_i h0
      refine List.nodup_cons.2 ⟨fun hm => ?_, h1.1⟩
      obtain ⟨l, hl, e⟩ := List.mem_map.1 hm
      have h2 := h1.2 l hl
      have h3 := (hg (by omega)).1
      have e' : l.b = g := e
      omega
  · have := h.small
    rw [nodesOf_push, nodesOf_push]
    simp only [nodesOf, List.map_cons, List.sum_cons, Ts.nodes] at this ⊢
    omega
  · intro w' sf hR hF
    refine h.wand w' sf ?_ ?_
    · obtain ⟨hR1, hR2⟩ := renL_push hR
      obtain ⟨hR3, hR4⟩ := renL_push hR2
      have hcell : ∀ i u, (∀ l ∈ L, l.b ≠ b) → i < o + 4 → ((cur.setIfInBounds (o + 1) (.int .i64 (N.v1 k n s))).setIfInBounds (o + 3) v4)[i]? = some u → w'.cell? ⟨b, i, none⟩ = some u := by
        intro i u hL hi hu
        refine hF b i u ⟨_, hb5⟩ ?_ ((hb5.cell i).trans hu)
        intro hin
        rcases inS_push hin with ⟨e, h1, h2⟩ | hin
        · have := (hg (by omega)).1; omega
        · rcases inS_push hin with ⟨_, h1, _⟩ | ⟨l, hl, e, _⟩
          · omega
          · exact hL l hl e
      refine ⟨?_, hR4⟩
      refine seg_cons.2 ⟨hB, hcell o _ hne (by omega) (hset o _ (by omega) (by omega) c0), hcell (o + 1) _ hne (by omega) d1, hcell (o + 2) _ hne (by omega) (hset (o + 2) _ (by omega) (by omega) c2), ⟨v4, hcell (o + 3) _ hne (by omega) d3, ?_⟩, hR3⟩
      obtain ⟨A, c, e, hc, hA⟩ := hv4
      refine ⟨A, c, by rw [Ts.length_ren]; exact e, by rw [Ts.length_ren]; exact hc, fun hp => ?_⟩
      rw [Ts.length_ren] at hp
      exact ⟨g, 0, hA hp, hR1⟩
    · intro k' i u hT hin hu
      obtain ⟨cur', hk'⟩ := hT
      have hk'l := hk'.lt
      by_cases e : k' = b
      · subst e
        have hcc : cur' = cur := by
          unfold Plot at hk' hcur
          rw [hk'] at hcur
          injection hcur with hcur
          injection hcur
        subst hcc
        rw [hk'.cell i] at hu
        have hnot : ¬ (o ≤ i ∧ i < o + 4 * (Ts.cons k n t ar r).length) := fun hh => hin ⟨_, List.mem_cons_self .., rfl, hh⟩
        simp only [Ts.length] at hnot
        refine hF k' i u ⟨_, hb5⟩ ?_ ((hb5.cell i).trans (hset i u (by omega) (by omega) hu))
        intro hin2
        rcases inS_push hin2 with ⟨e, h1, h2⟩ | hin2
        · have := (hg (by omega)).1; omega
        · rcases inS_push hin2 with ⟨_, h1, h2⟩ | ⟨l, hl, e, _⟩
          · omega
          · exact hne l hl e
      · have h5 := hother k' cur' e hk'
        refine hF k' i u ⟨_, h5⟩ ?_ ((h5.cell i).trans ((hk'.cell i).symm.trans hu))
        intro hin2
        rcases inS_push hin2 with ⟨e2, h1, h2⟩ | hin2
        · have := (hg (by omega)).1; omega
        · rcases inS_push hin2 with ⟨e2, _, _⟩ | ⟨l, hl, hh⟩
          · exact e e2.symm
          · exact hin ⟨l, List.mem_cons_of_mem _ hl, hh⟩

def RnLoop {σ : Type} (N : Num σ) (w0 : World) (s0 : σ) (T : Ts) (out : Value) (pb : Nat) (g : Nat) (w : World) : Prop :=
  ∃ L s pv xs, RnRel N w0 s0 T out pb L s pv xs w ∧ g = nodesOf L

theorem info_path : (Try.prog.info? 107).map (fun i => (i.zero, i.size, i.bytes)) = some (some (.slice none 0 0), 1, 24) := by kernel_rfl

theorem Num.Ok.raw {σ : Type} {N : Num σ} (ok : N.Ok) {w w' : World} {s : σ} {v : Value} {l : Nat} {xs : List Value} (h : Raw w v l xs) (hi : N.inv s w) (hc : Chg N.own w w') : Raw w' v l xs := by
  obtain ⟨A, c, e, h1, h2, h3, h4⟩ := h
  refine ⟨A, c, e, h1, h2, h3, fun hl => ?_⟩
  obtain ⟨b, o, e2, h5⟩ := h4 hl
  refine ⟨b, o, e2, fun j u hu => ?_⟩
  have h6 := h5 j u hu
  rw [World.cell?_of_block (w := w) (w' := w') (a := ⟨b, o + j, none⟩) (hc.block b (lt_of_cell h6) fun ho => by rw [ok.cell_none hi ho] at h6; cases h6)]
  exact h6

structure RnMid {σ : Type} (N : Num σ) (w0 wr : World) (pb b : Nat) (pv : Value) (xs : List Value) (cur : Array Value) (s : σ) (wx : World) : Prop where
  path : IsPath wx w0.heap.size pb pv xs
  cur : Plot wx b 39 cur
  other : ∀ k' cur', k' ≠ b → Plot wr k' 39 cur' → Plot wx k' 39 cur'
  inv : N.inv s wx
  chg : Chg N.own w0 wx
  size : wr.heap.size ≤ wx.heap.size

set_option maxHeartbeats 400000 in
theorem rename_any {σ : Type} {N : Num σ} (ok : N.Ok) (T : Ts) (v : Value) (s : σ) (w : World) (hv : Sl w (fun _ => True) v T) (hi : N.inv s w) (hn : T.nodes ≤ 1073741824) :
    Calls Try.prog 64 #[v, .func (.func N.fid) #[] N.cap] w fun e w' => ∃ v', e = .returned v' ∧ Sl w' (fun k => w.heap.size ≤ k) v' (T.ren N s).1 ∧ N.inv (T.ren N s).2 w' ∧ Chg N.own w w' := by
  obtain ⟨xs0, hraw, hcs0⟩ := hv.raw
  have hle := T.length_le
  have hen := ok.enter
  have HLT : Hid (∀ k, N.lean k → k < w.heap.size) := fun k => ok.lt s w k hi
  go_enter Try.func64, Try.ntmps64
  go_wp2_with fail
  refine (clone_raw hraw (by omega)).mono ?_
  rintro e w1 ⟨v1, rfl, ho1, hb1⟩
  obtain ⟨A1, d1, rfl⟩ := own_form ho1
  obtain ⟨hd1, g, cur, hg⟩ := own_blk ho1
  have hB1 := hb1.size
  have hp0 : IsPath (w1.alloc (.cells #[.slice none 0 0] 107)) w.heap.size w1.heap.size (.slice none 0 0) [] := ⟨Plot.new _ _ _, World.ownsRow_nil _ _ _ _, by simp [Value.ownBlock]⟩
  go_wp2_with fail
  refine (add_lev (b := g) (o := 0) (L := []) hp0 rfl (by simp; omega) (by simp [nodesOf]) hd1 (fun h => (hg h).1)).mono ?_
  rintro e w2 ⟨rfl, pv2, xs2, hp2, hpv2, _, hc2⟩
  have hc02 : Chg N.own w w2 := by
    refine ((Chg.of_fresh hb1).alloc _).trans hc2 fun k hk h => ?_
    rcases h with h | h
    · omega
    · simp [Value.ownBlock] at h
  have h0 : RnLoop N w s T (.slice A1 T.length d1) w1.heap.size T.nodes w2 := by
    refine ⟨push T g 0 [], s, pv2, xs2, ⟨hp2, hB1, hpv2, ?_, ?_, ?_, hc02, ?_, ?_⟩, by rw [nodesOf_push]; simp [nodesOf]⟩
    · intro l hl
      rcases mem_push hl with ⟨h, rfl⟩ | h
      · obtain ⟨h1, h2, h3, h4⟩ := hg h
        refine ⟨h2, cur, xs0, (h3.alloc _).chg hc2 ?_, hcs0, fun j u hu => by rw [Nat.zero_add]; exact h4 j u hu⟩
        have := h3.lt
        intro h; rcases h with h | h
        · omega
        · simp [Value.ownBlock] at h
      · cases h
    · unfold push; split <;> simp
    · refine ok.keep s w _ hi fun k hk => ?_
      have := HLT.out k hk
      rw [hc2.block k (by simp; omega) (by simp [Value.ownBlock]; omega), Below.heap_alloc _ _ _ (by omega), hb1.block k this]
    · rw [nodesOf_push]; simp [nodesOf]
    · intro w' sf hR _
      obtain ⟨h1, h2⟩ := renL_push hR
      refine ⟨⟨A1, d1, by rw [Ts.length_ren], by rw [Ts.length_ren]; exact hd1, fun h => ?_⟩, h2⟩
      rw [Ts.length_ren] at h
      exact ⟨g, 0, (hg h).1, h1⟩
  clear hg ho1 hp0 hp2 hpv2
  go_wp2_with fail
  go_loopg [] T.nodes (RnLoop N w s T (.slice A1 T.length d1) w1.heap.size)
  case atStart => exact h0
  case round =>
    clear h0
    obtain ⟨L, s', pv, xs, hrel, hgk⟩ := hrel
    have hpx := hrel.pvs.length
    have hpl := hrel.pvs.le
    have hsm := hrel.small
    obtain ⟨Ap, cp, hpv⟩ := own_form hrel.path.own
    subst hpv
    have cpb : wr.cell? ⟨w1.heap.size, 0, none⟩ = some (.slice Ap xs.length cp) := hrel.path.var.cell 0
    have HG := Lib.hid hgk
    clear hgk
    cases L with
    | nil =>
      have hx : xs = [] := hrel.pvs
      subst hx
      obtain ⟨hsl, hst⟩ := hrel.wand wr s' rfl (fun _ _ _ _ _ h => h)
      subst hst
      have hI := hrel.inv
      have hC := hrel.chg
      clear hrel hpx
      go_wp2_with fail
      go_ret
      exact ⟨_, rfl, hsl, hI, hC⟩
    | cons l Ls =>
      obtain ⟨b, o, T1⟩ := l
      cases T1 with
      | nil => obtain ⟨_, _, _, _, h, _⟩ := hrel.pvs; simp [Ts.length] at h
      | cons k n t ar r =>
      have hxl : 0 < xs.length := by rw [hpx]; simp
      obtain ⟨hbB, cur, zs, hcur, ⟨v, ys, rfl, hva, hcr⟩, hcells⟩ := hrel.lev _ (List.mem_cons_self ..)
      have c0 : cur[o]? = some (.int .i64 k) := hcells 0 _ rfl
      have c1 : cur[o + 1]? = some (.int .i64 n) := hcells 1 _ rfl
      have c2 : cur[o + 2]? = some (.string t) := hcells 2 _ rfl
      have c3 : cur[o + 3]? = some v := hcells 3 _ rfl
      have cys : ∀ (j : Nat) u, ys[j]? = some u → cur[o + 4 + j]? = some u := fun j u hu => by
        have := hcells (j + 4) u (by simpa using hu)
        rwa [show o + (j + 4) = o + 4 + j by omega] at this
      have CYS := Lib.hid cys
      have C0 := Lib.hid c0
      have C1 := Lib.hid c1
      have C2 := Lib.hid c2
      have C3 := Lib.hid c3
      have hn4 : nodesOf (⟨b, o, .cons k n t ar r⟩ :: Ls) ≤ 1073741824 := by omega
      clear cys hcells c0 c1 c2 c3
      go_wp2_with fail
      refine (next_lev hrel.path hrel.pvs hn4).mono ?_
      rintro e w3 ⟨rfl, pv3, xs3, hp3, hpv3, hop3, hc3⟩
      have hb3 : Plot w3 b 39 cur := hrel.path.keep hc3 hcur
      have hoth3 : ∀ k' cur', Plot wr k' 39 cur' → Plot w3 k' 39 cur' := fun k' cur' h => hrel.path.keep hc3 h
      have hpown : ∀ g, (Value.slice Ap xs.length cp).ownBlock = some g → w.heap.size ≤ g ∧ g < wr.heap.size := fun g hg => hrel.path.own.lt g hg
      have hchg3 : Chg N.own w w3 := hrel.chg.trans hc3 fun k hk h => by
        rcases h with h | h
        · omega
        · have := hpown _ h; omega
      have hlean : ∀ k, N.lean k → w3.heap[k]? = wr.heap[k]? := fun k hk => by
        have hk := HLT.out k hk
        refine hc3.block k (by have := hrel.chg.size; omega) fun h => ?_
        rcases h with h | h
        · omega
        · have := hpown _ h; omega
      have hI3 : N.inv s' w3 := ok.keep s' wr _ hrel.inv hlean
      have hz3 := hc3.size
      have a0 : w3.cell? ⟨b, o, none⟩ = some (.int .i64 k) := (hb3.cell o).trans C0.out
      have a1 : w3.cell? ⟨b, o + 1, none⟩ = some (.int .i64 n) := (hb3.cell (o + 1)).trans C1.out
      have HL := Lib.hid hlean
      have HO := Lib.hid hoth3
      have HP := Lib.hid hpown
      clear hlean hoth3 hpown
      go_upto_if 20 with fail
      go_cut [] (fun wx => RnMid N w wr w1.heap.size b pv3 xs3 (cur.setIfInBounds (o + 1) (.int .i64 (N.v1 k n s'))) (N.s1 k n s') wx)
      case first =>
        by_cases hk : k = 0
        · subst hk
          go_wp2_with fail
          refine (ok.call s' n _ hI3).mono ?_
          rintro e w4 ⟨rfl, hI4, hc4⟩
          have hb4 : Plot w4 b 39 cur := hb3.chg hc4 fun ho => ok.bare _ _ _ _ _ _ hI3 ho hb3
          have a2 : w4.cell? ⟨b, o + 1, none⟩ = some (.int .i64 n) := (hb4.cell (o + 1)).trans C1.out
          have f2 : w4.frozen? ⟨b, o + 1, none⟩ = false := hb4.frozen _
          have hp4 : IsPath w4 w.heap.size w1.heap.size pv3 xs3 := hp3.chg hc4 (fun ho => by have := HLT.out _ (ok.sub _ ho); omega) fun g hg ho => by
            have := HLT.out _ (ok.sub _ ho)
            rw [hop3] at hg
            have := HP.out g hg
            omega
          go_wp2_with fail
          go_meet
          refine ⟨hp4.set hb4, hb4.set_ _ _, fun k' cur' hne h => ?_, ?_, ?_, by have := hc4.size; simp [World.setCell]; omega⟩
          · have h3 := HO.out k' cur' h
            exact (h3.chg hc4 fun ho => ok.bare _ _ _ _ _ _ hI3 ho h3).far hne _
          · refine ok.keep _ w4 _ hI4 fun k hk => ?_
            have := HLT.out k hk
            exact Below.heap_setCell _ _ _ _ (by simp; omega)
          · exact (hchg3.trans hc4 fun _ _ h => h).setCell (fun h => by simp at h; omega) _
        · have hk' : (k == 0) = false := by simp [hk]
          have e1 : N.v1 k n s' = n := by simp [Num.v1, hk]
          have e2 : N.s1 k n s' = s' := by simp [Num.s1, hk]
          have E1 := Lib.hid e1
          have E2 := Lib.hid e2
          clear e1 e2
          go_wp2_with fail
          go_meet
          rw [E1.out, E2.out, set_same C1.out]
          exact ⟨hp3, hb3, fun k' cur' _ h => HO.out k' cur' h, hI3, hchg3, hz3⟩
      case rest =>
        obtain ⟨hp5, hb5, ho5, hI5, hc5, hz5⟩ := hcut
        clear hp3 hc3 hb3 hchg3 hI3 a0 a1
        obtain ⟨xs4, hraw4, hcs4⟩ := hva.raw
        obtain ⟨Av, cv, rfl, hva⟩ := hva.form
        have har : ar.length ≤ 1073741824 := by
          have := ar.length_le
          simp only [nodesOf, List.map_cons, List.sum_cons, Ts.nodes] at hn4
          omega
        have hn5 : nodesOf (push r b (o + 4) Ls) ≤ 1073741824 := by
          rw [nodesOf_push]
          simp only [nodesOf, List.map_cons, List.sum_cons, Ts.nodes] at hn4 ⊢
          omega
        have a3 : wc.cell? ⟨b, o + 3, none⟩ = some (.slice Av ar.length cv) := by
          rw [hb5.cell, Array.getElem?_setIfInBounds_ne (by omega)]; exact C3.out
        go_wp2_with fail
        refine (clone_raw (ok.raw hraw4 hi hc5) har).mono ?_
        rintro e w6 ⟨v4, rfl, ho6, hb6⟩
        obtain ⟨A4, d4, rfl⟩ := own_form ho6
        obtain ⟨hd4, g4, cur4, hg4⟩ := own_blk ho6
        have hz6 := hb6.size
        have hbb6 := hb5.below hb6
        have a6 : w6.cell? ⟨b, o + 3, none⟩ = some (.slice Av ar.length cv) := by
          rw [hbb6.cell, Array.getElem?_setIfInBounds_ne (by omega)]; exact C3.out
        have f6 : w6.frozen? ⟨b, o + 3, none⟩ = false := hbb6.frozen _
        have hp6 : IsPath w6 w.heap.size w1.heap.size pv3 xs3 := hp5.chg (Chg.of_fresh (S := fun _ => False) hb6) (fun h => h) fun _ _ h => h
        have hp7 : IsPath (w6.setCell ⟨b, o + 3, none⟩ (.slice A4 ar.length d4)) w.heap.size w1.heap.size pv3 xs3 := hp6.set hbb6
        have hbb7 := hbb6.set_ (o + 3) (.slice A4 ar.length d4)
        have hwz := hrel.chg.size
        have HG4 := Lib.hid hg4
        clear hg4
        go_wp2_with fail
        refine (add_lev (b := g4) (o := 0) hp7 hpv3 (by simp [World.setCell]; omega) hn5 hd4 (fun h => (HG4.out h).1)).mono ?_
        rintro e w8 ⟨rfl, pv8, xs8, hp8, hpv8, hat8, hc8⟩
        have hpown3 : ∀ g, pv3.ownBlock = some g → w.heap.size ≤ g := fun g hg => by rw [hop3] at hg; exact (HP.out g hg).1
        have hstep := RnRel.step (g := g4) (xs4 := xs4) (v4 := .slice A4 ar.length d4) (curg := cur4) hrel hcur C0.out C1.out C2.out C3.out hcr CYS.out hp8 hpv8 hcs4
          (fun k' cur' hne h => hp7.keep hc8 (((ho5 k' cur' hne h).below hb6).far hne _)) (hp7.keep hc8 hbb7) ⟨A4, d4, rfl, hd4, fun h => (HG4.out h).1⟩
          (fun h => by
            obtain ⟨_, h2, h3, h4⟩ := HG4.out h
            have := h3.lt
            exact ⟨by omega, hp7.keep hc8 (h3.far (by simp; intro e; have := hb5.lt; omega) _), h4⟩)
          (ok.keep _ wc _ hI5 fun k hk => by
            have := HLT.out k hk
            rw [hc8.block k (by simp [World.setCell]; omega) (fun h => by rcases h with h | h
                                                                          · omega
                                                                          · have := hpown3 _ h; omega), Below.heap_setCell _ _ _ _ (by simp; omega), hb6.block k (by omega)])
          (((hc5.trans (Chg.of_fresh (S := fun _ => False) hb6) fun _ _ h => h.elim).setCell (fun h => by simp at h; omega) _).trans hc8 fun k hk h => by
            rcases h with h | h
            · omega
            · have := hpown3 _ h; omega)
        clear hat8
        go_wp2_with fail
        go_roundg (nodesOf (push ar g4 0 (push r b (o + 4) Ls)))
        case measure =>
          rw [HG.out, nodesOf_push, nodesOf_push]
          simp only [nodesOf, List.map_cons, List.sum_cons, Ts.nodes]
          omega
        case rel => exact ⟨_, _, _, _, hstep, rfl⟩
end Go.Proofs.Ytdflngjfnpbpmab
namespace Go.Proofs.Ytdflngjfnpbpmab
open Go.RowKit

theorem Ts.ren_congr {σ : Type} {N M : Num σ} (hv : ∀ s n, N.val s n = M.val s n) (hx : ∀ s n, N.nxt s n = M.nxt s n) (T : Ts) : ∀ s, T.ren N s = T.ren M s := by
  have h1 : ∀ k n s, N.v1 k n s = M.v1 k n s := fun k n s => by simp [Num.v1, hv]
  have h2 : ∀ k n s, N.s1 k n s = M.s1 k n s := fun k n s => by simp [Num.s1, hx]
  induction T with
  | nil => intro s; rfl
  | cons k n b ar r iha ihr => intro s; simp only [Ts.ren, h1, h2, iha, ihr]

def numTidy (vb mb : Nat) : Num (List Int) :=
  { fid := 65, cap := #[.pointer (some ⟨vb, 0, none⟩)], own := fun k => k = mb, lean := fun k => k = vb ∨ k = mb,
    inv := fun ks w => Plot w vb 93 #[.map (some mb)] ∧ NumIs w mb ks, val := numV, nxt := numS }
theorem numTidy_ok (vb mb : Nat) : (numTidy vb mb).Ok where
  keep := fun _ w w' h hk => ⟨(hk vb (.inl rfl)).trans h.1, MapIs.keep h.2 (hk mb (.inr rfl))⟩
  lt := fun _ w k h hk => by
    have e : k = vb ∨ k = mb := hk
    rcases e with rfl | rfl
    · exact Plot.lt h.1
    · exact MapIs.lt h.2
  sub := fun _ h => .inr h
  bare := fun ks w k c t f h ho e => by
    have e1 : k = mb := ho
    subst e1
    obtain ⟨es, clock, hb, _⟩ := h.2
    rw [hb] at e
    cases e
  enter := fun args w => by simp [numTidy, go_sem]
  call := fun ks n w h => by
    refine (tidy1_any n ks vb mb w h.1 h.2).mono ?_
    rintro e w' ⟨rfl, h1, h2⟩
    exact ⟨rfl, ⟨h.1.chg h2 fun e => Plot.not_map h.1 h.2 e, h1⟩, h2⟩

/-- The terms, their variables numbered in the order in which they come. -/
def Ts.tidyFrom (T : Ts) (ks : List Int) : Ts × List Int := T.ren (numTidy 0 0) ks
def Ts.tidy (T : Ts) : Ts := (T.tidyFrom []).1
theorem ren_tidy (vb mb : Nat) (T : Ts) (ks : List Int) : T.ren (numTidy vb mb) ks = T.tidyFrom ks := Ts.ren_congr (N := numTidy vb mb) (M := numTidy 0 0) (fun _ _ => rfl) (fun _ _ => rfl) T ks
set_option maxHeartbeats 400000 in
theorem tidy_any (T : Ts) (v : Value) (w : World) (hv : Sl w (fun _ => True) v T) (hn : T.nodes ≤ 1073741824) :
    Calls Try.prog 37 #[v] w fun e w' => ∃ v', e = .returned v' ∧ Sl w' (fun k => w.heap.size ≤ k) v' T.tidy ∧ Below w.heap.size w w' := by
  have hi : (numTidy (w.heap.size + 1) w.heap.size).inv [] ((w.alloc (.map #[] 0)).alloc (.cells #[.map (some w.heap.size)] 93)) := by
    refine ⟨?_, ?_⟩
    · have := Plot.new (w.alloc (.map #[] 0)) 93 #[.map (some w.heap.size)]
      simpa using this
    · exact (MapIs.made w).keep (Below.heap_alloc _ _ _ (by simp))
  have hW : Below w.heap.size w ((w.alloc (.map #[] 0)).alloc (.cells #[.map (some w.heap.size)] 93)) := ((Below.refl _ _).alloc (Nat.le_refl _) _).alloc (by simp) _
  have hsl := hv.below hW
  have hmk := run_makeMap (P := Try.prog) 93
  go_enter Try.func37, Try.ntmps37
  go_wp2_with fail
  refine (rename_any (numTidy_ok (w.heap.size + 1) w.heap.size) T v [] _ hsl hi hn).mono ?_
  rintro e w' ⟨v', rfl, h1, _, h3⟩
  rw [ren_tidy] at h1
  go_wp2_with fail
  go_ret
  refine ⟨_, rfl, h1.imp (fun k hk _ => by simp at hk; omega), hW.trans (h3.below (by simp; omega) fun k hk _ => ?_)⟩
  have e : k = w.heap.size := hk
  omega

theorem Ts.tidyFrom_app (D R : Ts) (ks : List Int) : (D.app R).tidyFrom ks = ((D.tidyFrom ks).1.app (R.tidyFrom (D.tidyFrom ks).2).1, (R.tidyFrom (D.tidyFrom ks).2).2) := Ts.ren_app _ D R ks

def tV (k n : Int) (ks : List Int) : Int := if k = 0 then numV ks n else n
def tS (k n : Int) (ks : List Int) : List Int := if k = 0 then numS ks n else ks
theorem Ts.tidyFrom_cons (k n : Int) (s : ByteArray) (ar r : Ts) (ks : List Int) : (Ts.cons k n s ar r).tidyFrom ks = (.cons k (tV k n ks) s (ar.tidyFrom (tS k n ks)).1 (r.tidyFrom (ar.tidyFrom (tS k n ks)).2).1, (r.tidyFrom (ar.tidyFrom (tS k n ks)).2).2) := rfl

end Go.Proofs.Ytdflngjfnpbpmab
namespace Go.Proofs.Ytdflngjfnpbpmab

/-- Each variable's number is one of P's. -/
def Ts.vars (P : Int → Prop) : Ts → Prop
  | .nil => True
  | .cons k n _ ar r => (k = 0 → P n) ∧ ar.vars P ∧ r.vars P
/-- Each variable's number, by f. -/
def Ts.by_ (f : Int → Int) : Ts → Ts
  | .nil => .nil
  | .cons k n s ar r => .cons k (if k = 0 then f n else n) s (ar.by_ f) (r.by_ f)
theorem pos_by {P : Int → Prop} {f : Int → Int} (hf : ∀ a b, P a → P b → f a = f b → a = b) {n : Int} (hn : P n) : ∀ ks : List Int, (∀ k ∈ ks, P k) → pos (f n) (ks.map f) = pos n ks
  | [], _ => rfl
  | k :: r, h => by
    simp only [List.map_cons, pos]
    rw [pos_by hf hn r fun x hx => h x (List.mem_cons_of_mem _ hx)]
    by_cases e : n = k
    · rw [if_pos e, if_pos (by rw [e])]
    · rw [if_neg e, if_neg fun e2 => e (hf n k hn (h k (List.mem_cons_self ..)) e2)]
theorem numS_mem {P : Int → Prop} {n : Int} {ks : List Int} (hn : P n) (h : ∀ k ∈ ks, P k) : ∀ k ∈ numS ks n, P k := by
  intro k hk
  unfold numS at hk
  split at hk
  · exact h k hk
  · rcases List.mem_append.1 hk with h1 | h1
    · exact h k h1
    · rw [List.mem_singleton.1 h1]; exact hn

theorem Ts.tidyFrom_by {P : Int → Prop} {f : Int → Int} (hf : ∀ a b, P a → P b → f a = f b → a = b) (T : Ts) : ∀ ks : List Int, (∀ k ∈ ks, P k) → T.vars P →
    (T.by_ f).tidyFrom (ks.map f) = ((T.tidyFrom ks).1, (T.tidyFrom ks).2.map f) ∧ ∀ k ∈ (T.tidyFrom ks).2, P k := by
  induction T with
  | nil => intro ks h _; exact ⟨rfl, h⟩
  | cons k n s ar r iha ihr =>
    intro ks h ⟨h0, ha, hr⟩
    have hv : tV k (if k = 0 then f n else n) (ks.map f) = tV k n ks ∧ tS k (if k = 0 then f n else n) (ks.map f) = (tS k n ks).map f ∧ ∀ x ∈ tS k n ks, P x := by
      by_cases e : k = 0
      · have hn := h0 e
        simp only [tV, tS, e, if_true, numV, numS, pos_by hf hn ks h, List.length_map]
        refine ⟨trivial, ?_, ?_⟩
        · split <;> simp
        · have := numS_mem hn h
          unfold numS at this
          exact this
      · simp only [tV, tS, e, if_false]
        exact ⟨trivial, trivial, h⟩
    obtain ⟨i1, i2⟩ := iha _ hv.2.2 ha
    obtain ⟨j1, j2⟩ := ihr _ i2 hr
    refine ⟨?_, j2⟩
    rw [Ts.by_, Ts.tidyFrom_cons, hv.1, hv.2.1, i1, Ts.tidyFrom_cons, j1]

end Go.Proofs.Ytdflngjfnpbpmab
namespace Go.Proofs.Ytdflngjfnpbpmab
open Go.RowKit
set_option linter.unusedVariables false
set_option linter.unusedSimpArgs false

/-- The cells X lie in L from place q on, moved by base. -/
def Sits (L : List HC) (base : Nat) (q : Nat) (X : List HC) : Prop := ∀ i c, X[i]? = some c → hat L ((base + (q + i) : Nat) : Int) = some (moved base c)
theorem Sits.app {L : List HC} {base q : Nat} {X Y : List HC} (h : Sits L base q (X ++ Y)) : Sits L base q X ∧ Sits L base (q + X.length) Y := by
  refine ⟨fun i c hi => h i c ?_, fun i c hi => ?_⟩
  · rw [List.getElem?_append_left]
    · exact hi
    · rcases Nat.lt_or_ge i X.length with hl | hl
      · exact hl
      · rw [List.getElem?_eq_none hl] at hi; cases hi
  · have := h (X.length + i) c (by rw [List.getElem?_append_right (by omega)]; simpa using hi)
    rw [show q + X.length + i = q + (X.length + i) by omega]; exact this
theorem Sits.head {L : List HC} {base q : Nat} {c : HC} {X : List HC} (h : Sits L base q (c :: X)) : hat L ((base + q : Nat) : Int) = some (moved base c) ∧ Sits L base (q + 1) X := by
  refine ⟨h 0 c rfl, fun i d hi => ?_⟩
  rw [show q + 1 + i = q + (i + 1) by omega]
  exact h (i + 1) d (by simpa using hi)
theorem clook_self {L : List HC} {a : Int} {c : HC} (h : hat L a = some c) (hc : ¬ (c.k = 0 ∧ c.n ≠ a)) : hlook L a = a := by
  obtain ⟨h0, h1, _⟩ := hatS.1 h
  unfold hlook
  obtain ⟨m, hm⟩ : ∃ m, L.length = m + 1 := ⟨L.length - 1, by omega⟩
  rw [hm]
  simp only [hlookF, h, if_neg hc]
theorem clook_one {L : List HC} {a : Int} {c d : HC} (h : hat L a = some c) (hk : c.k = 0) (hn : c.n ≠ a) (h2 : hat L c.n = some d) (hd : ¬ (d.k = 0 ∧ d.n ≠ c.n)) : hlook L a = c.n := by
  obtain ⟨h0, h1, _⟩ := hatS.1 h
  obtain ⟨g0, g1, _⟩ := hatS.1 h2
  unfold hlook
  obtain ⟨m, hm⟩ : ∃ m, L.length = m + 2 := ⟨L.length - 2, by omega⟩
  rw [hm]
  simp only [hlookF, h, if_pos (show c.k = 0 ∧ c.n ≠ a from ⟨hk, hn⟩), h2, if_neg hd]
/-- A renaming of the variables by where the block was loaded. -/
def up (base : Nat) (n : Int) : Int := n + base
def Tm.upBy (base : Nat) (t : Tm) : Tm := ⟨t.k, if t.k = 0 then up base t.n else t.n, t.s, t.ar.by_ (up base)⟩
theorem nil_of_len {T : Ts} (h : T.length = 0) : T = .nil := Ts.nil_of_length h
theorem lay_told {L : List HC} {base : Nat} {vars : Int} (hv : ∀ v : Int, 0 ≤ v → v < vars → hat L (v + base) = some ⟨0, v + base, eS⟩) (T : Ts) : ∀ (a p f l : Nat), T.good vars = true → vars ≤ a → vars ≤ p → a + T.length ≤ p → T.nodes ≤ l → T.nodes ≤ f → Sits L base a (layA T p).1 → Sits L base p (layA T p).2 →
    listT (tmAt L f) T.length ((base + a : Nat) : Int) l = some (T.by_ (up base), l - T.nodes) := by
  induction T with
  | nil => intro a p f l _ _ _ _ _ _ _ _; simp [listT, Ts.length, Ts.by_, Ts.nodes]
  | cons k n s ar r iha ihr =>
    intro a p f l hg hav hpv hap hl hf hs1 hs2
    obtain ⟨hn, ha, hr⟩ := good_cons hg
    simp only [Ts.length] at hap
    simp only [Ts.nodes] at hl hf
    obtain ⟨f, rfl⟩ : ∃ f', f = f' + 1 := ⟨f - 1, by omega⟩
    have hl0 : l ≠ 0 := by omega
    simp only [Ts.length, listT]
    rcases node_iff hn with ⟨rfl, h0, h1, h2, h3⟩ | ⟨rfl, h0, h1, h2⟩ | ⟨rfl, h0, h1⟩ | ⟨rfl, h0, h1, h2, h3⟩
    · rw [layA_one _ _ _ _ _ (by decide)] at hs1 hs2
      obtain ⟨q1, q2⟩ := hs1.head
      obtain rfl := nil_of_len h3
      subst h2
      have e1 : hat L ((base + a : Nat) : Int) = some ⟨0, n + base, eS⟩ := q1
      have e2 : hlook L ((base + a : Nat) : Int) = n + base := by
        exact clook_one (c := ⟨0, n + base, eS⟩) e1 rfl (by show n + (base : Int) ≠ _; omega) (hv n h0 h1) (by simp)
      have e3 : tmAt L (f + 1) ((base + a : Nat) : Int) l = some (⟨0, n + base, eS, .nil⟩, l - 1) := by
        rw [tmAt_hat hl0 (by rw [e2]; exact hv n h0 h1), if_pos rfl, e2]
      rw [e3, Option.bind_some]
      have := ihr (a + 1) p (f + 1) (l - 1) hr (by omega) hpv (by omega) (by simp only [Ts.nodes] at hl; omega) (by simp only [Ts.nodes] at hf; omega) q2 hs2
      rw [show ((base + a : Nat) : Int) + 1 = ((base + (a + 1) : Nat) : Int) by omega, this]
      simp only [Option.map_some, Ts.by_, up, if_true, Ts.nodes]
      congr 2
      omega
    · rw [layA_one _ _ _ _ _ (by decide)] at hs1 hs2
      obtain ⟨q1, q2⟩ := hs1.head
      obtain rfl := nil_of_len h2
      subst h0
      have e1 : hat L ((base + a : Nat) : Int) = some ⟨1, 0, s⟩ := q1
      have e2 : hlook L ((base + a : Nat) : Int) = ((base + a : Nat) : Int) := clook_self e1 (by simp)
      have e3 : tmAt L (f + 1) ((base + a : Nat) : Int) l = some (⟨1, 0, s, .nil⟩, l - 1) := by
        rw [tmAt_hat hl0 (by rw [e2]; exact e1), if_neg (by simp), if_pos rfl]
      rw [e3, Option.bind_some]
      have := ihr (a + 1) p (f + 1) (l - 1) hr (by omega) hpv (by omega) (by simp only [Ts.nodes] at hl; omega) (by simp only [Ts.nodes] at hf; omega) q2 hs2
      rw [show ((base + a : Nat) : Int) + 1 = ((base + (a + 1) : Nat) : Int) by omega, this]
      simp only [Option.map_some, Ts.by_, Ts.nodes]
      congr 2
      omega
    · rw [layA_one _ _ _ _ _ (by decide)] at hs1 hs2
      obtain ⟨q1, q2⟩ := hs1.head
      obtain rfl := nil_of_len h1
      subst h0
      have e1 : hat L ((base + a : Nat) : Int) = some ⟨2, n, eS⟩ := q1
      have e2 : hlook L ((base + a : Nat) : Int) = ((base + a : Nat) : Int) := clook_self e1 (by simp)
      have e3 : tmAt L (f + 1) ((base + a : Nat) : Int) l = some (⟨2, n, eS, .nil⟩, l - 1) := by
        rw [tmAt_hat hl0 (by rw [e2]; exact e1), if_neg (by simp), if_neg (by simp), if_pos rfl]
      rw [e3, Option.bind_some]
      have := ihr (a + 1) p (f + 1) (l - 1) hr (by omega) hpv (by omega) (by simp only [Ts.nodes] at hl; omega) (by simp only [Ts.nodes] at hf; omega) q2 hs2
      rw [show ((base + a : Nat) : Int) + 1 = ((base + (a + 1) : Nat) : Int) by omega, this]
      simp only [Option.map_some, Ts.by_, Ts.nodes]
      congr 2
      omega
    · rw [layA_comp] at hs1 hs2
      obtain ⟨q1, q2⟩ := hs1.head
      obtain ⟨q3, q4⟩ := Sits.app (X := layS s ar p) hs2
      obtain ⟨q5, q6⟩ := Sits.head (c := ⟨3, (ar.length : Nat), s⟩) q3
      obtain ⟨q7, q8⟩ := q6.app
      rw [layA_len] at q8
      subst h0
      have e1 : hat L ((base + a : Nat) : Int) = some ⟨0, ((p : Nat) : Int) + base, eS⟩ := q1
      have e5 : hat L (((p : Nat) : Int) + base) = some ⟨3, (ar.length : Nat), s⟩ := by
        rw [show ((p : Nat) : Int) + base = ((base + p : Nat) : Int) by omega]; exact q5
      have e2 : hlook L ((base + a : Nat) : Int) = ((p : Nat) : Int) + base :=
        clook_one (c := ⟨0, ((p : Nat) : Int) + base, eS⟩) e1 rfl (by show ((p : Nat) : Int) + (base : Int) ≠ _; omega) e5 (by simp)
      have e6 := iha (p + 1) (p + 1 + ar.length) f (l - 1) ha (by omega) (by omega) (by omega) (by omega) (by omega) q7 q8
      have e3 : tmAt L (f + 1) ((base + a : Nat) : Int) l = some (⟨3, 0, s, ar.by_ (up base)⟩, l - 1 - ar.nodes) := by
        rw [tmAt_hat hl0 (by rw [e2]; exact e5), if_neg (by simp), if_neg (by simp), if_neg (by simp), e2]
        have e7 : (argsC ⟨3, (ar.length : Nat), s⟩).toNat = ar.length := by simp [argsC]
        rw [e7, show ((p : Nat) : Int) + base + 1 = ((base + (p + 1) : Nat) : Int) by omega, e6]
        rfl
      rw [e3, Option.bind_some]
      have := ihr (a + 1) (p + (layS s ar p).length) (f + 1) (l - 1 - ar.nodes) hr (by omega) (by omega) (by omega) (by omega) (by omega) q2 q4
      rw [show ((base + a : Nat) : Int) + 1 = ((base + (a + 1) : Nat) : Int) by omega, this]
      simp only [Option.map_some, Ts.by_, Ts.nodes]
      congr 2
      omega
theorem lay1_told {L : List HC} {base : Nat} {vars : Int} (hv : ∀ v : Int, 0 ≤ v → v < vars → hat L (v + base) = some ⟨0, v + base, eS⟩) {k n : Int} {s : ByteArray} {ar : Ts} {p f l : Nat} (h : gB vars k n s ar = true) (hpv : vars ≤ p) (hl : ar.nodes + 1 ≤ l) (hf : ar.nodes + 1 ≤ f) (hs : Sits L base p (lay1 k n s ar p)) :
    tmAt L f ((base + p : Nat) : Int) l = some (Tm.upBy base ⟨k, n, s, ar⟩, l - (ar.nodes + 1)) := by
  simp only [gB, goalB, Bool.and_eq_true, Bool.or_eq_true, decide_eq_true_eq] at h
  obtain ⟨hn, ha, _⟩ := good_cons h.1.2
  obtain ⟨f, rfl⟩ : ∃ f', f = f' + 1 := ⟨f - 1, by omega⟩
  have hl0 : l ≠ 0 := by omega
  rcases node_iff hn with ⟨rfl, _⟩ | ⟨rfl, h0, h1, h2⟩ | ⟨rfl, _⟩ | ⟨rfl, h0, h1, h2, h3⟩
  · rcases h.1.1 with h | h <;> omega
  · obtain rfl := nil_of_len h2
    subst h0
    unfold lay1 at hs
    rw [if_neg (by decide)] at hs
    have e1 : hat L ((base + p : Nat) : Int) = some ⟨1, 0, s⟩ := hs.head.1
    have e2 : hlook L ((base + p : Nat) : Int) = ((base + p : Nat) : Int) := clook_self e1 (by simp)
    rw [tmAt_hat hl0 (by rw [e2]; exact e1), if_neg (by simp), if_pos rfl]
    rfl
  · rcases h.1.1 with h | h <;> omega
  · subst h0
    unfold lay1 at hs
    rw [if_pos rfl] at hs
    obtain ⟨q5, q6⟩ := Sits.head (c := ⟨3, (ar.length : Nat), s⟩) hs
    obtain ⟨q7, q8⟩ := q6.app
    rw [layA_len] at q8
    have e1 : hat L ((base + p : Nat) : Int) = some ⟨3, (ar.length : Nat), s⟩ := q5
    have e2 : hlook L ((base + p : Nat) : Int) = ((base + p : Nat) : Int) := clook_self e1 (by simp)
    have e6 := lay_told hv ar (p + 1) (p + 1 + ar.length) f (l - 1) ha (by omega) (by omega) (by omega) (by omega) (by omega) q7 q8
    rw [tmAt_hat hl0 (by rw [e2]; exact e1), if_neg (by simp), if_neg (by simp), if_neg (by simp), e2]
    have e7 : (argsC ⟨3, (ar.length : Nat), s⟩).toNat = ar.length := by simp [argsC]
    rw [e7, show ((base + p : Nat) : Int) + 1 = ((base + (p + 1) : Nat) : Int) by omega, e6]
    show some (_, _) = some (_, _)
    congr 2
    omega
/-- A loaded block. -/
theorem load_sits (h : HH) (B : List HC) : Sits (h.cs ++ B.map (moved h.cs.length)) h.cs.length 0 B := by
  intro i c hi
  refine hatS.2 ⟨by omega, ?_, ?_⟩
  · have : i < B.length := by
      rcases Nat.lt_or_ge i B.length with hl | hl
      · exact hl
      · rw [List.getElem?_eq_none hl] at hi; cases hi
    simp; omega
  · rw [show ((h.cs.length + (0 + i) : Nat) : Int).toNat = h.cs.length + i by omega, List.getElem?_append_right (by omega)]
    simp [hi]
theorem goodC_wide {n m f : Nat} {c : HC} (hn : n ≤ m) (h : goodC n c f = true) : goodC m c f = true := by
  rcases goodC_iff h with ⟨k, a, b, s⟩ | ⟨k, a, s⟩ | ⟨k, s⟩ | ⟨k, a, b, d, s⟩
  · unfold goodC; rw [if_pos k]; simp [a, s]; omega
  · unfold goodC; rw [if_neg (by omega), if_pos k]; simp [a, s]
  · unfold goodC; rw [if_neg (by omega), if_neg (by omega), if_pos k]; simp [s]
  · unfold goodC; rw [if_neg (by omega), if_neg (by omega), if_neg (by omega), if_pos k]; simp [a, b, d, s]
theorem goodL_wide {n m : Nat} (hn : n ≤ m) : ∀ {L : List HC}, goodL n L = true → goodL m L = true
  | [], _ => rfl
  | c :: r, h => by
    simp only [goodL, Bool.and_eq_true] at h ⊢
    exact ⟨goodC_wide hn h.1, goodL_wide hn h.2⟩
theorem goodC_moved {n m f base : Nat} {c : HC} (hn : base + n ≤ m) (h : goodC n c f = true) : goodC m (moved base c) f = true := by
  unfold moved
  split
  · rename_i h0
    rcases goodC_iff h with ⟨k, a, b, s⟩ | ⟨k, a, s⟩ | ⟨k, s⟩ | ⟨k, a, b, d, s⟩
    · unfold goodC; dsimp only; rw [if_pos h0]; simp [s]; omega
    · omega
    · omega
    · omega
  · rename_i h0
    rcases goodC_iff h with ⟨k, a, b, s⟩ | ⟨k, a, s⟩ | ⟨k, s⟩ | ⟨k, a, b, d, s⟩
    · omega
    · unfold goodC; rw [if_neg (by omega), if_pos k]; simp [a, s]
    · unfold goodC; rw [if_neg (by omega), if_neg (by omega), if_pos k]; simp [s]
    · unfold goodC; rw [if_neg (by omega), if_neg (by omega), if_neg (by omega), if_pos k]; simp [a, b, d, s]
theorem goodL_moved {n m base : Nat} (hn : base + n ≤ m) : ∀ {L : List HC}, goodL n L = true → goodL m (L.map (moved base)) = true
  | [], _ => rfl
  | c :: r, h => by
    simp only [goodL, Bool.and_eq_true, List.map_cons, List.length_map] at h ⊢
    exact ⟨goodC_moved hn h.1, goodL_moved hn h.2⟩
theorem load_goodH {h : HH} {K : List HC} (hg : goodH h = true) (hk : goodCs K = true) (hl : h.cs.length + K.length ≤ 65536) : goodH ⟨h.cs ++ K.map (moved h.cs.length), h.tr⟩ = true := by
  simp only [goodH, goodCs, goodTr, Bool.and_eq_true, decide_eq_true_eq, List.length_append, List.length_map] at hg hk ⊢
  obtain ⟨⟨h1, h2⟩, h3, h4⟩ := hg
  refine ⟨⟨hl, goodL_app (goodL_moved (by omega) hk.2) (goodL_wide (by omega) h2)⟩, h3, ?_⟩
  rw [List.all_eq_true] at h4 ⊢
  intro a ha
  have := h4 a ha
  unfold goodTr1 at this ⊢
  cases hq : hat h.cs a with
  | none => rw [hq] at this; cases this
  | some x =>
    rw [hq] at this
    obtain ⟨q0, q1, q2⟩ := hatS.1 hq
    have : hat (h.cs ++ K.map (moved h.cs.length)) a = some x := hatS.2 ⟨q0, by simp; omega, by rw [List.getElem?_append_left (by omega)]; exact q2⟩
    rw [this]; assumption
theorem load_eq {h : HH} {K : List HC} (hg : goodH h = true) (hk : goodCs K = true) (hl : h.cs.length + K.length ≤ 65536) : loadH h K = (⟨h.cs ++ K.map (moved h.cs.length), h.tr⟩, h.cs.length, 0) := by
  unfold loadH; rw [hg, hk, if_neg (by decide), if_neg (by omega)]
/-- At each of these places of the heap X lies the term. -/
inductive ToldL (X : HH) (base : Nat) : Ts → List Int → Prop
  | nil : ToldL X base .nil []
  | cons {k n : Int} {s : ByteArray} {ar r : Ts} {x : Int} {P : List Int} : (∃ m, termH X (base + x) 24 = (Tm.upBy base ⟨k, n, s, ar⟩, m, 0)) → 0 ≤ x → x ≤ 100000 → ar.nodes + 1 ≤ 24 → ToldL X base r P → ToldL X base (.cons k n s ar r) (x :: P)
theorem told_one {X : HH} {base : Nat} {vars : Int} (hX : goodH X = true) (hv : ∀ v : Int, 0 ≤ v → v < vars → hat X.cs (v + base) = some ⟨0, v + base, eS⟩) {k n : Int} {s : ByteArray} {ar : Ts} {p : Nat} (h : gB vars k n s ar = true) (hpv : vars ≤ p) (hs : Sits X.cs base p (lay1 k n s ar p)) : ∃ m, termH X ((base : Int) + (p : Nat)) 24 = (Tm.upBy base ⟨k, n, s, ar⟩, m, 0) := by
  have hn := gB_nodes h
  have ha : isAddr X.cs ((base : Int) + (p : Nat)) = true := by
    obtain ⟨c, r, e⟩ : ∃ c r, lay1 k n s ar p = c :: r := by
      have := lay1_pos k n s ar p
      cases hh : lay1 k n s ar p with
      | nil => rw [hh] at this; simp at this
      | cons c r => exact ⟨c, r, rfl⟩
    rw [e] at hs
    obtain ⟨q0, q1, _⟩ := hatS.1 hs.head.1
    unfold isAddr
    simp only [Bool.and_eq_true, decide_eq_true_eq]
    constructor <;> omega
  have ht := lay1_told hv (f := 24) (l := 24) h hpv hn hn hs
  refine ⟨24 - (24 - (ar.nodes + 1)), ?_⟩
  unfold termH
  rw [if_neg (by rw [hX]; decide), if_neg (by rw [ha]; decide)]
  have e2 : mostN 24 = 24 := by decide
  rw [e2, show (base : Int) + (p : Nat) = ((base + p : Nat) : Int) by omega, ht]
theorem told_list {X : HH} {base : Nat} {vars : Int} (hX : goodH X = true) (hv : ∀ v : Int, 0 ≤ v → v < vars → hat X.cs (v + base) = some ⟨0, v + base, eS⟩) (T : Ts) : ∀ p : Nat, T.goals vars = true → vars ≤ p → p + (layL T p).1.length ≤ 100000 → Sits X.cs base p (layL T p).1 → ToldL X base T (layL T p).2 := by
  induction T with
  | nil => intro p _ _ _ _; exact .nil
  | cons k n s ar r _ ih =>
    intro p hg hpv hl hs
    simp only [Ts.goals, Bool.and_eq_true] at hg
    simp only [layL] at hs hl ⊢
    rw [List.length_append] at hl
    obtain ⟨h1, h2⟩ := hs.app
    exact .cons (told_one hX hv hg.1 hpv h1) (by omega) (by omega) (gB_nodes hg.1) (ih _ hg.2 (by omega) (by omega) h2)
theorem told_clause {h : HH} {c : Cl} (hg : goodH h = true) (hc : cB c = true) (hl : h.cs.length ≤ 1000) : ToldL ⟨h.cs ++ (blockC c).map (moved h.cs.length), h.tr⟩ h.cs.length (.cons c.k c.n c.s c.hd c.bd) (c.vars :: goalsC c) := by
  obtain ⟨h0, h1, h2, h3, h4⟩ := cB_iff hc
  have hbl := blockC_len hc
  have hX := load_goodH hg (blockC_good hc) (by omega)
  have hs := load_sits h (blockC c)
  have he : (blockC c).length = c.vars.toNat + ((lay1 c.k c.n c.s c.hd c.vars.toNat).length + (layL c.bd (c.vars.toNat + (lay1 c.k c.n c.s c.hd c.vars.toNat).length)).1.length) := by
    simp only [blockC, List.length_append, varsB_len]
  obtain ⟨s1, s2⟩ := Sits.app (X := varsB c.vars.toNat) hs
  obtain ⟨s3, s4⟩ := s2.app
  rw [varsB_len, Nat.zero_add] at s3 s4
  have hv : ∀ v : Int, 0 ≤ v → v < c.vars → hat (h.cs ++ (blockC c).map (moved h.cs.length)) (v + h.cs.length) = some ⟨0, v + h.cs.length, eS⟩ := by
    intro v v0 v1
    have := s1 v.toNat _ (varsB_get (by omega))
    rw [show ((h.cs.length + (0 + v.toNat) : Nat) : Int) = v + h.cs.length by omega] at this
    rw [this]
    unfold moved
    rw [if_pos rfl]
    dsimp only
    rw [show ((v.toNat : Nat) : Int) = v by omega]
  have t1 := told_one hX hv h4 (p := c.vars.toNat) (by omega) s3
  rw [show ((c.vars.toNat : Nat) : Int) = c.vars by omega] at t1
  exact .cons t1 h0 (by omega) (gB_nodes h4) (told_list hX hv c.bd _ h3 (by omega) (by omega) s4)
theorem up_tidy (base : Nat) (T : Ts) : (T.by_ (up base)).tidy = T.tidy := by
  have hv : ∀ T : Ts, T.vars fun _ => True := by
    intro T
    induction T with
    | nil => trivial
    | cons k n s ar r iha ihr => exact ⟨fun _ => trivial, iha, ihr⟩
  have := (Ts.tidyFrom_by (P := fun _ => True) (f := up base) (fun a b _ _ e => by unfold up at e; omega) T [] (fun _ hk => by cases hk) (hv T)).1
  have h2 := congrArg Prod.fst this
  exact h2
end Go.Proofs.Ytdflngjfnpbpmab
namespace Go.Proofs.Ytdflngjfnpbpmab
open Go.RowKit
set_option linter.unusedVariables false
set_option linter.unusedSimpArgs false

/-- The value v is a slice of the call's own, or one without room: of len elements of sz cells each: the cells xs; O: its block. -/
inductive Rw (el sz : Nat) : Value → Nat → List Value → List (Nat × Obj) → Prop
  | zero_ {A : Option Addr} : Rw el sz (.slice A 0 0) 0 [] []
  | own_ {b len cap : Nat} {xs sp : List Value} (hx : xs.length = len * sz) (hc : (xs ++ sp).length = cap * sz) (hle : len ≤ cap) (hcp : 0 < cap) : Rw el sz (.slice (some ⟨b, 0, none⟩) len cap) len xs [(b, .cells (xs ++ sp).toArray el)]
theorem Rw.len_ {el sz len : Nat} {v : Value} {xs : List Value} {O : List (Nat × Obj)} (h : Rw el sz v len xs O) : xs.length = len * sz := by
  cases h with
  | zero_ => simp
  | own_ hx _ _ _ => exact hx
theorem Rw.form {el sz len : Nat} {v : Value} {xs : List Value} {O : List (Nat × Obj)} (h : Rw el sz v len xs O) : ∃ A c, v = .slice A len c ∧ len ≤ c := by
  cases h with
  | zero_ => exact ⟨_, _, rfl, Nat.le_refl _⟩
  | own_ _ _ hle _ => exact ⟨_, _, rfl, hle⟩
theorem Rw.some_ {el sz len cap l2 : Nat} {A : Option Addr} {xs : List Value} {O : List (Nat × Obj)} (h : Rw el sz (.slice A l2 cap) len xs O) (hl : 0 < len) : ∃ g sp, A = some ⟨g, 0, none⟩ ∧ O = [(g, .cells (xs ++ sp).toArray el)] ∧ (xs ++ sp).length = cap * sz ∧ len ≤ cap ∧ l2 = len := by
  cases h with
  | zero_ => omega
  | own_ hx hc hle hcp => exact ⟨_, _, rfl, rfl, hc, hle, rfl⟩
/-- What is held lies there. -/
theorem Rw.flat {el sz len cap : Nat} {A : Option Addr} {xs : List Value} {O H : List (Nat × Obj)} {M : List Nat} {w0 w : World} {F : List (World → Prop)} (h : Rw el sz (.slice A len cap) len xs O) (hS : St M w0 (O ++ H) F w) : Flat sz xs A len cap w := by
  cases h with
  | zero_ => exact Flat.nil_ _ _ _
  | own_ hx hc hle hcp => exact Flat.own (hS.own (_, _) (.head _)) hx hle
theorem Flat.src {P : Program} {sz len cap : Nat} {xs : List Value} {A : Option Addr} {w : World} {t el : TypeId} (h : Flat sz xs A len cap w) (hT : isSliceP P t = some el) (h1 : xs.all (·.oneCell') = true) : Src P sz t (.slice A len cap) len xs w := by
  by_cases hl : 0 < len
  · obtain ⟨b, o, rfl, hs⟩ := h.2.2 hl
    exact Src.ofSlice w (sliceP hT) ⟨b, o, none⟩ _ _ _ h.1 (fun j u hj => by rw [addrPlus]; exact hs j u hj) (fun u hu => List.all_eq_true.1 h1 u hu)
  · have hl0 : len = 0 := by omega
    subst hl0
    obtain rfl : xs = [] := List.eq_nil_of_length_eq_zero (by rw [h.1]; simp)
    cases A with
    | none => exact Src.ofNil w (sliceP hT) _
    | some a => exact Src.ofSlice w (sliceP hT) a _ _ _ (by simp) (fun j u hj => by simp at hj) (fun u hu => by cases hu)
section
variable {P : Program} {n : Nat} {e : Env} {w : World} {Q : Exit → Act → World → Prop} {ops : Array Oper} {rest : List Oper} {ty : TypeId} {pos : String} {after : Array Edge} {d : Nat}
variable {M : List Nat} {w0 : World} {H H' : List (Nat × Obj)} {F : List (World → Prop)} {b : Nat} {x y : Operand} {v : Value} {t tx : TypeId} {dst : Option Nat}
theorem run_eql_slice {A : Option Addr} {l c el : Nat} {t2 : TypeId} (hx : ev n e x = .slice A l c) (hy : ev n e y = .slice none 0 0) (hT : isSliceP P t = some el) :
    (execOp (ev n e) ⟨dst, .binOp .eql t x y t2, ty, pos, after, none⟩).run P w = .ok (.value (.bool A.isNone)) w := by
  have h := Lib.run_eql_slice_nil w t el A l c 0 0 (sliceP hT)
  simp only [execOp, hx, hy, bind, pure]
  rw [Sem.run_bind', Sem.run_bind']
  rw [show (eqGuard .eql t x y (.slice A l c) (.slice none 0 0)).run P w = .ok () w from by cases A <;> simp [eqGuard, Sem.run, pure]]
  simp only [Result.andThen_ok]
  rw [h]; rfl
/-- s[:len(s):len(s)]. -/
theorem run_slice_clip {A : Option Addr} {len cap el sz : Nat} {i : Int} {j : Int} {z : Operand} (hx : ev n e x = .slice A len cap) (hy : ev n e y = .int .i64 i) (hz : ev n e z = .int .i64 j) (hT : isSliceP P t = some el) (hs : cellsP P el = some sz) (hi : i = (len : Nat)) (hj : j = (len : Nat)) (hl : len ≤ cap) :
    (execOp (ev n e) ⟨dst, .slice t x none (some y) (some z), ty, pos, after, none⟩).run P w = .ok (.value (.slice A len len)) w := by
  subst hi hj
  have h2 := run_underlying (sliceP hT) w
  have h3 := run_sizeP (w := w) hs
  simp only [execOp, Instr.sliceAt, Instr.slice, hx, hy, hz, Option.map_some, Option.map_none, bind, pure, Sem.bind]
  rw [Sem.run_bind', Sem.run_bind', h2]
  simp only [Result.andThen_ok]
  rw [Sem.run_bind', h2]
  simp only [Result.andThen_ok, Instr.sliceBounds, Option.isSome_some, if_true, bind, pure, Sem.bind]
  rw [Sem.run_bind', Sem.run_bind', run_bound rfl (by omega) (by omega)]
  simp only [Result.andThen_ok]
  rw [Sem.run_bind', run_bound rfl (by omega) (by omega)]
  simp only [Result.andThen_ok]
  rw [show ∀ (l : Nat), Sem.run P (Sem.pure (0, l, l)) w = .ok (0, l, l) w from fun _ => rfl]
  simp only [Result.andThen_ok]
  rw [Sem.run_bind', h3]
  simp [Sem.run, Addr.add]
/-- append(s[:cap(s)], make(n)...) of a slice without room. -/
theorem lst_appendMake {el sz bts k : Nat} {A : Option Addr} {ki : IntKind} (hS : St M w0 H F w) (hx : ev n e x = .slice A 0 0) (hy : ev n e y = .int .i64 (k : Nat)) (hT : isSliceP P t = some el) (hTx : P.underlying tx = some (.int ki)) (hi : rowP P el = some (sz, bts)) (hsz : 0 < sz) (hk : 0 < k)
    (hfit : 2 * k * bts ≤ 281474976710656) (hbig : k ≤ 4611686018427387904) (hd : Nat.blt d n = true)
    (h : ∀ (b cap : Nat) (zs : List Value) w', k ≤ cap → zs.length = cap * sz → St M w0 ((b, .cells zs.toArray el) :: H) F w' → Lst P Q ops rest n ((d, .slice (some ⟨b, 0, none⟩) k cap) :: e) w') :
    Lst P Q ops (⟨some d, .call ⟨.builtin .append, #[x, y], #[t, tx]⟩, ty, pos, after, none⟩ :: rest) n e w := by
  obtain ⟨i, z, h2, h3, h4, rfl, rfl⟩ := rowP_some hi
  have hn := Go.Room.nextslicecap_le' (show 0 < 0 + k by omega)
  have hcapn : 0 + k ≤ grownCap w (0 + k) 0 el := by unfold grownCap Question.cut; exact Nat.le_add_right _ _
  have h48 : ¬ (281474976710656 < Builtin.nextslicecap k 0 * i.bytes) := by
    have := Nat.le_trans (Nat.mul_le_mul_right i.bytes hn) (by rw [Nat.zero_add]; exact hfit)
    rw [Nat.zero_add] at this; omega
  have h49 : ¬ ((281474976710656 : Int) < (k : Int) * (i.bytes : Int)) := by
    have : k * i.bytes ≤ 2 * k * i.bytes := Nat.mul_le_mul_right _ (by omega)
    have h5 : ((k * i.bytes : Nat) : Int) ≤ 281474976710656 := by omega
    rw [Int.natCast_mul] at h5; omega
  have hw : IntKind.i64.wrap (k : Int) = k := wrap_of (by omega) (by omega)
  have h63 : ¬ (9223372036854775807 < (k : Int)) := by omega
  have hk0 : ¬ k = 0 := by omega
  have hr : ∃ zs : List Value, zs.length = grownCap w (0 + k) 0 el * i.size ∧ (Builtin.append_ #[t, tx] ty #[.slice A 0 0, .int .i64 (k : Nat)]).run P w = .ok (.slice (some ⟨w.heap.size, 0, none⟩) k (grownCap w (0 + k) 0 el)) (w.drew.alloc (.cells zs.toArray el)) := by
    have hf : ∀ w, (Builtin.firstCells i.size 0 (.slice A 0 0)).run P w = .ok #[] w := fun w => by cases A <;> simp [Builtin.firstCells, Sem.run, pure, loadCells, loadCellsFrom]
    have hz0 : ¬ ((k : Int) < 0) := by omega
    have hz1 : ¬ (k ≤ 0) := by omega
    rw [Nat.zero_add] at hcapn ⊢
    have hai : ∀ w, (asInt (.int .i64 (k : Nat))).run P w = .ok (k : Int) w := fun w => rfl
    have hs1 : ¬ i.size = 0 := by omega
    refine ⟨(Builtin.zeroCells z.cells k ++ Builtin.zeroCells z.cells (grownCap w k 0 el - k)).toList, ?_, ?_⟩
    · simp only [Array.length_toList, Array.size_append, Builtin.zeroCells, Array.size_map, Array.size_range, h4]
      rw [← Nat.add_mul]; congr 1; omega
    · simp [Builtin.append_, run_underlying (sliceP hT), run_underlying hTx, sizeOf, typeInfo, zeroValue, h2, h3, hw, hai, hz0, h49, hz1, h63, h48, Question.forced, hf, newRow, grownCap, hk0, hs1]
      rw [if_neg (by intro h0; rcases Nat.mul_eq_zero.1 h0 with h | h <;> omega)]
      congr 3
      apply Array.ext'
      simp
  obtain ⟨zs, hzs, hr⟩ := hr
  refine lst_run (v := .slice (some ⟨w.heap.size, 0, none⟩) k (grownCap w (0 + k) 0 el)) (w' := w.drew.alloc (.cells zs.toArray el)) ?_ hd (h _ _ zs _ (by omega) hzs (hS.drew.alloc _))
  simp only [execOp, resolve, List.map_toArray, List.map_cons, List.map_nil, hx, hy, bind, pure, Sem.bind, invoke, builtin]
  rw [Sem.run_bind', hr]
  rfl
/-- append(s, x...), where x yields the cells ys. -/
theorem lst_appendRw {el len k : Nat} {q : Value} {ys xs : List Value} {O : List (Nat × Obj)} {i : TypeInfo} {z : Value} (hS : St M w0 H F w) (hx : ev n e x = v) (hy : ev n e y = q)
    (hT : isSliceP P t = some el) (hTx : isSliceP P tx = some el) (hi : P.info? el = some i) (hz : i.zero = some z) (hzs : z.cells.size = i.size) (hys : ys.length = k * i.size) (hsrc : Src P i.size tx q k ys w) (hrow : Rw el i.size v len xs O) (hP : H.Perm (O ++ H')) (hfit : 2 * (len + k) * i.bytes ≤ 281474976710656) (hbig : len + k ≤ 4611686018427387904) (hd : Nat.blt d n = true)
    (h : ∀ v' O' w', Rw el i.size v' (len + k) (xs ++ ys) O' → St M w0 (O' ++ H') F w' → Lst P Q ops rest n ((d, v') :: e) w') :
    Lst P Q ops (⟨some d, .call ⟨.builtin .append, #[x, y], #[t, tx]⟩, ty, pos, after, none⟩ :: rest) n e w := by
  have hS := hS.perm hP
  have hlen := hrow.len_
  have hop : ∀ r w2, (Builtin.append_ #[t, tx] ty #[v, q]).run P w = .ok r w2 → (execOp (ev n e) ⟨some d, .call ⟨.builtin .append, #[x, y], #[t, tx]⟩, ty, pos, after, none⟩).run P w = .ok (.value r) w2 := by
    intro r w2 hr
    simp only [execOp, resolve, List.map_toArray, List.map_cons, List.map_nil, hx, hy, bind, pure, Sem.bind, invoke, builtin]
    rw [Sem.run_bind', hr]
    rfl
  have grow : ∀ (A : Option Addr) (cap : Nat), v = .slice A len cap → cap < len + k → (Builtin.firstCells i.size len (.slice A len cap)).run P w.drew = .ok xs.toArray w.drew → Lst P Q ops (⟨some d, .call ⟨.builtin .append, #[x, y], #[t, tx]⟩, ty, pos, after, none⟩ :: rest) n e w := by
    intro A cap hv hcap hold
    have hn := Go.Room.nextslicecap_le' hcap
    have hr := run_append_grow_src (P := P) w t tx ty el i z (sliceP hT) hi hz A len cap xs hold (q) k ys hsrc hcap (by omega) (Nat.le_trans (Nat.mul_le_mul_right _ hn) hfit)
    rw [← hv] at hr
    refine lst_run (hop _ _ hr) hd ?_
    have hcapn : len + k ≤ grownCap w (len + k) cap el := by unfold grownCap Question.cut; exact Nat.le_add_right _ _
    generalize grownCap w (len + k) cap el = nc at hcapn
    have hzc : (Builtin.zeroCells z.cells (nc - (len + k))) = (Builtin.zeroCells z.cells (nc - (len + k))).toList.toArray := by simp
    have hzl : (Builtin.zeroCells z.cells (nc - (len + k))).toList.length = (nc - (len + k)) * i.size := by simp [Builtin.zeroCells, hzs]
    generalize (Builtin.zeroCells z.cells (nc - (len + k))).toList = zl at hzc hzl
    rw [hzc]
    have hS2 := (hS.drew.alloc (.cells ((xs ++ ys) ++ zl).toArray el))
    rw [show (xs ++ ys).toArray ++ zl.toArray = ((xs ++ ys) ++ zl).toArray by simp]
    refine h _ [(w.heap.size, .cells ((xs ++ ys) ++ zl).toArray el)] _ (Rw.own_ ?_ ?_ hcapn (by omega)) ?_
    · rw [List.length_append, hlen, hys, Nat.add_mul]
    · rw [List.length_append, List.length_append, hlen, hys, hzl, ← Nat.add_mul, ← Nat.add_mul]; congr 1; omega
    · have h5 : St M w0 ((w.heap.size, .cells ((xs ++ ys) ++ zl).toArray el) :: (O ++ H')) F _ := hS2
      exact St.dropL (L := O) h5.sink
  cases hrow with
  | zero_ =>
    rename_i A0
    by_cases hk0 : k = 0
    · subst hk0
      have hye : ys = [] := List.eq_nil_of_length_eq_zero (by simpa using hys)
      subst hye
      have hr : (Builtin.append_ #[t, tx] ty #[.slice A0 0 0, q]).run P w = .ok (.slice A0 0 0) w := by
        have hu := run_underlying (sliceP hT) w
        have hu2 := run_underlying (sliceP hTx) w
        have hs1 := hsrc.len
        have hs2 := hsrc.cells
        have hs0 : (Builtin.lenOf (.slice A0 0 0)).run P w = .ok 0 w := rfl
        cases A0 <;> simp [Builtin.append_, hu, hu2, sizeOf, typeInfo, hi, hs0, hs1, hs2, storeCells]
      refine lst_run (hop _ _ hr) hd (h _ [] _ Rw.zero_ hS)
    · exact grow A0 0 rfl (by omega) (by cases A0 <;> simp [Builtin.firstCells, Sem.run, pure, loadCells, loadCellsFrom])
  | own_ hx2 hc2 hle hcp =>
    rename_i bl cap sp
    have hbl : w.heap[bl]? = some (.cells (xs ++ sp).toArray el) := hS.own (bl, _) (by simp)
    by_cases hroom : len + k ≤ cap
    · have hcc : (xs ++ sp).length = cap * i.size := hc2
      have hfitc : len * i.size + ys.length ≤ (xs ++ sp).length := by rw [hcc, hys, ← Nat.add_mul]; exact Nat.mul_le_mul_right _ hroom
      have hr := run_append_room_src (P := P) w t tx ty el i (sliceP hT) hi bl 0 len cap (q) k ys hsrc hroom
        (fun j hj => by rw [cell_own hbl, Nat.zero_add]; simp only [Option.isSome_iff_exists]; exact ⟨_, List.getElem?_eq_getElem (by omega)⟩) (fun j hj => by simp [World.frozen?, hbl])
      obtain ⟨hs1, hs2⟩ := setCells_row ys (0 + len * i.size) (xs ++ sp) w hbl (by omega)
      refine lst_run (hop _ _ hr) hd ?_
      have hu : Upd ([(bl, Obj.cells (xs ++ sp).toArray el)] ++ H') bl (.cells (xs ++ sp).toArray el) (.cells ((xs ++ sp).take (0 + len * i.size) ++ ys ++ (xs ++ sp).drop (0 + len * i.size + ys.length)).toArray el)
          ((bl, .cells ((xs ++ sp).take (0 + len * i.size) ++ ys ++ (xs ++ sp).drop (0 + len * i.size + ys.length)).toArray el) :: H') := .head
      have h3 := hS.turn hu hs2 hs1
      have e1 : (xs ++ sp).take (0 + len * i.size) = xs := by rw [Nat.zero_add, ← hx2]; simp
      have e2 : (xs ++ sp).drop (0 + len * i.size + ys.length) = sp.drop ys.length := by
        rw [Nat.zero_add, ← hx2]; simp [List.drop_append]
      rw [e1, e2] at h3
      refine h _ _ _ (Rw.own_ (b := bl) (sp := sp.drop ys.length) ?_ ?_ hroom hcp) h3
      · rw [List.length_append, hx2, hys, Nat.add_mul]
      · simp only [List.length_append, List.length_drop] at hcc hfitc ⊢
        omega
    · refine grow _ cap rfl (by omega) ?_
      have := run_firstCells_some (P := P) w.drew i.size len ⟨bl, 0, none⟩ len cap xs hx2 (fun j u hj => ?_)
      · exact this
      · have hjl : j < xs.length := by
          rcases Nat.lt_or_ge j xs.length with hl | hl
          · exact hl
          · rw [List.getElem?_eq_none hl] at hj; cases hj
        rw [addrPlus, cell_own (w := w.drew) hbl, Nat.zero_add, List.getElem?_append_left hjl]; exact hj
/-- An empty slice that is written out. -/
theorem lst_buildSlice0 {el sz : Nat} (hS : St M w0 H F w) (hT : isSliceP P t = some el) (hs : cellsP P el = some sz) (hd : Nat.blt d n = true)
    (hk : ∀ b w', St M w0 ((b, .cells [].toArray el) :: H) F w' → Lst P Q ops rest n ((d, .slice (some ⟨b, 0, none⟩) 0 0) :: e) w') :
    Lst P Q ops (⟨some d, .buildSlice t 0 #[], ty, pos, after, none⟩ :: rest) n e w := by
  refine lst_run (v := .slice (some ⟨w.heap.size, 0, none⟩) 0 0) (w' := w.alloc (.cells [].toArray el)) ?_ hd (hk _ _ (hS.alloc _))
  have h1 := run_underlying (sliceP hT) w
  have h2 := run_sizeP (w := w) hs
  simp only [execOp, Instr.buildSlice, bind, pure, Array.map_empty]
  rw [Sem.run_bind', Sem.run_bind', h1]
  simp only [Result.andThen_ok]
  rw [Sem.run_bind', h2]
  have hr0 : ∀ g : Nat → Value, Array.map g (Array.range 0) = #[] := fun g => by simp
  simp only [Result.andThen_ok, Nat.zero_mul, if_neg (show ¬ (0 : Nat) > 2 ^ 24 by omega), if_true, hr0]
  rfl
theorem yielded_undef {j : Nat} (h : yd ops n e j = some undef) : yielded ops (arr n e) j = none := by
  unfold yd at h
  unfold yielded
  cases ho : ops[j]? with
  | none => rfl
  | some o =>
    rw [ho] at h
    simp only [Option.bind_some] at h ⊢
    cases hd : o.dst with
    | none => rfl
    | some t =>
      rw [hd] at h
      simp only [Option.bind_some] at h ⊢
      by_cases ht : t < n
      · have h' : Nat.blt t n = true := by simpa [Nat.blt_eq] using ht
        rw [h', cond_true] at h
        have hl : (arr n e)[t]? = some (lk e t) := by simp [arr, ht]
        rw [hl, Option.some.inj h]
        rfl
      · have h' : Nat.blt t n = false := blt_no ht
        rw [h', cond_false] at h; cases h
/-- A guard that hangs on what was passed over. -/
theorem lst_passU {op : Op} {j : Nat} {g : Bool} (hy : yd ops n e j = some undef) (hd : Nat.blt d n = true)
    (h : Lst P Q ops rest n ((d, undef) :: e) w) : Lst P Q ops (⟨some d, op, ty, pos, after, some (j, g)⟩ :: rest) n e w := by
  unfold Lst at h ⊢
  unfold wpList
  rw [if_neg (by simp [Region.wanted, act, yielded_undef hy]), act_put hd]
  exact h
theorem run_cap_slice {el : TypeId} {A : Option Addr} {l c : Nat} {ts : Array TypeId} (hx : ev n e x = .slice A l c) (ht : ts[0]? = some t) (hT : isSliceP P t = some el) :
    (execOp (ev n e) ⟨dst, .call ⟨.builtin .cap, #[x], ts⟩, ty, pos, after, none⟩).run P w = .ok (.value (.int .i64 c)) w := by
  have h1 := run_underlying (sliceP hT) w
  simp only [execOp, resolve, List.map_toArray, List.map_cons, List.map_nil, hx, bind, pure, Sem.bind, invoke, builtin, Builtin.cap_, ht, List.getElem?_toArray, List.getElem?_cons_zero]
  first
    | rfl
    | (rw [Sem.run_bind', Sem.run_bind', h1]; rfl)
end
/-- A result of two parts, of which the first lies in a block of the call's own. -/
theorem goes_retC2 {P : Program} {n : Nat} {e : Env} {w : World} {M : List Nat} {w0 : World} {H : List (Nat × Obj)} {F : List (World → Prop)} {b : Nat} {t : TypeId} {f : FuncId} {R : Ending → World → Prop} {k : List Item} {fn : Func} {a u sz : Nat} {o : Nat} {cs vs : List Value} {ct : TypeId} {v2 : Value} (hS : St M w0 H F w) (hf : P.funcs[f]? = some fn) (hr : fn.results = #[.cell a t, .tmp u]) (hv : ev n e (.tmp a) = .pointer (some ⟨b, o, none⟩))
    (h2 : ev n e (.tmp u) = v2) (hA : aggOf P t = some true) (hs : cellsP P t = some sz) (hb : At H b (.cells cs.toArray ct)) (hc : Cut cs o sz vs) (hR : R (.returned (.tuple #[.agg vs.toArray, v2])) w) : Goes P f R (.code .ret :: k) (act n e) w := by
  unfold Goes
  intro fr cs' hb' hk
  refine ⟨.returned (.tuple #[.agg vs.toArray, v2]), w, { fr.at (act n e) (.code .ret :: k) with mode := .returning }, hR, Steps.one step_ret, hb', rfl, rfl, hk, fn, ?_, ?_⟩
  · show P.funcs[fr.fn]? = some fn
    rw [hb']; exact hf
  · show (results fn (arr n e)).run P w = _
    have h1 := run_isAgg (w := w) hA
    have h4 := run_sizeP (w := w) hs
    have h5 := run_loadCells_list (P := P) (w := w) ⟨b, o, none⟩ vs (fun j v hj => by
      rw [addrPlus, cell_own (hS.at_ hb)]
      have hjk : j < sz := by
        rcases Nat.lt_or_ge j sz with h | h
        · exact h
        · rw [List.getElem?_eq_none (by rw [hc.length]; exact h)] at hj; cases hj
      rw [hc.get j hjk]; exact hj)
    rw [hc.length] at h5
    have hv' : (arr n e).getD a undef = .pointer (some ⟨b, o, none⟩) := by rw [arr_getD]; exact hv
    have hu' : (arr n e).getD u undef = v2 := by rw [arr_getD]; exact h2
    simp only [Array.getD_eq_getD_getElem?] at hv' hu'
    simp only [results, hr]
    simp [hv', hu', asAddr, loadVar, h1, h4, h5]
/-- A result of five parts, of which the first lies in a block of the call's own. -/
theorem goes_retC5 {P : Program} {n : Nat} {e : Env} {w : World} {M : List Nat} {w0 : World} {H : List (Nat × Obj)} {F : List (World → Prop)} {b : Nat} {t : TypeId} {f : FuncId} {R : Ending → World → Prop} {k : List Item} {fn : Func} {a u x y z sz : Nat} {o : Nat} {cs vs : List Value} {ct : TypeId} {v2 v3 v4 v5 : Value} (hS : St M w0 H F w) (hf : P.funcs[f]? = some fn) (hr : fn.results = #[.cell a t, .tmp u, .tmp x, .tmp y, .tmp z]) (hv : ev n e (.tmp a) = .pointer (some ⟨b, o, none⟩))
    (h2 : ev n e (.tmp u) = v2) (h3 : ev n e (.tmp x) = v3) (hy4 : ev n e (.tmp y) = v4) (hz5 : ev n e (.tmp z) = v5) (hA : aggOf P t = some true) (hs : cellsP P t = some sz) (hb : At H b (.cells cs.toArray ct)) (hc : Cut cs o sz vs) (hR : R (.returned (.tuple #[.agg vs.toArray, v2, v3, v4, v5])) w) : Goes P f R (.code .ret :: k) (act n e) w := by
  unfold Goes
  intro fr cs' hb' hk
  refine ⟨.returned (.tuple #[.agg vs.toArray, v2, v3, v4, v5]), w, { fr.at (act n e) (.code .ret :: k) with mode := .returning }, hR, Steps.one step_ret, hb', rfl, rfl, hk, fn, ?_, ?_⟩
  · show P.funcs[fr.fn]? = some fn
    rw [hb']; exact hf
  · show (results fn (arr n e)).run P w = _
    have h1 := run_isAgg (w := w) hA
    have h4 := run_sizeP (w := w) hs
    have h5 := run_loadCells_list (P := P) (w := w) ⟨b, o, none⟩ vs (fun j v hj => by
      rw [addrPlus, cell_own (hS.at_ hb)]
      have hjk : j < sz := by
        rcases Nat.lt_or_ge j sz with h | h
        · exact h
        · rw [List.getElem?_eq_none (by rw [hc.length]; exact h)] at hj; cases hj
      rw [hc.get j hjk]; exact hj)
    rw [hc.length] at h5
    have hv' : (arr n e).getD a undef = .pointer (some ⟨b, o, none⟩) := by rw [arr_getD]; exact hv
    have hu' : (arr n e).getD u undef = v2 := by rw [arr_getD]; exact h2
    have hx' : (arr n e).getD x undef = v3 := by rw [arr_getD]; exact h3
    have hy' : (arr n e).getD y undef = v4 := by rw [arr_getD]; exact hy4
    have hz' : (arr n e).getD z undef = v5 := by rw [arr_getD]; exact hz5
    simp only [Array.getD_eq_getD_getElem?] at hv' hu' hx' hy' hz'
    simp only [results, hr]
    simp [hv', hu', hx', hy', hz', asAddr, loadVar, h1, h4, h5]
/-- A row that nobody writes again. -/
theorem St.freezeR {M : List Nat} {w0 w : World} {H O : List (Nat × Obj)} {F : List (World → Prop)} {el sz len cap : Nat} {A : Option Addr} {xs : List Value} (hr : Rw el sz (.slice A len cap) len xs O) (hS : St M w0 (O ++ H) F w) : St M w0 H (Flat sz xs A len cap :: F) w := by
  cases hr with
  | zero_ => exact hS.learn fun w' _ => Flat.nil_ _ _ _
  | own_ hx hc hle hcp =>
    rename_i b sp
    have hS' : St M w0 ((b, Obj.cells (xs ++ sp).toArray el) :: H) F w := hS
    have ho := hS'.own (b, _) (.head _)
    refine hS'.drop.learn fun w' hw => Flat.own (sp := sp) (el := el) ?_ hx hle
    rw [hw.block b (own_lt ho) fun hm => ?_]
    · exact ho
    · obtain ⟨p, hp, e⟩ := List.mem_map.1 hm
      exact (List.pairwise_cons.1 hS'.apart).1 p hp e.symm
end Go.Proofs.Ytdflngjfnpbpmab
namespace Go.Proofs.Ytdflngjfnpbpmab
open Go.RowKit
set_option linter.unusedVariables false
set_option linter.unusedSimpArgs false

section
variable {P : Program} {n : Nat} {e : Env} {w : World} {Q : Exit → Act → World → Prop} {ops : Array Oper} {rest : List Oper} {ty : TypeId} {pos : String} {after : Array Edge} {d : Nat}
variable {M : List Nat} {w0 : World} {H : List (Nat × Obj)} {F : List (World → Prop)} {x y : Operand} {t : TypeId}
theorem lst_make {el sz bts k : Nat} (hS : St M w0 H F w) (hx : ev n e x = .int .i64 (k : Nat)) (hy : ev n e y = .int .i64 (k : Nat)) (hT : isSliceP P t = some el) (hi : rowP P el = some (sz, bts)) (hb : bts * k ≤ 281474976710656) (hk : k ≤ 4611686018427387904) (hd : Nat.blt d n = true)
    (h : ∀ (b : Nat) (w' : World) (cs : List Value), cs.length = k * sz → St M w0 ((b, .cells cs.toArray el) :: H) F w' → Lst P Q ops rest n ((d, .slice (some ⟨b, 0, none⟩) k k) :: e) w') :
    Lst P Q ops (⟨some d, .makeSlice t x y, ty, pos, after, none⟩ :: rest) n e w := by
  obtain ⟨i, z, h2, h3, h4, rfl, rfl⟩ := rowP_some hi
  have hb2 : (i.bytes : Int) * (k : Int) ≤ 281474976710656 := by rw [← Int.natCast_mul]; omega
  have hr := run_make (P := P) w t el i z (sliceP hT) h2 h3 .i64 .i64 (k : Int) (k : Int) (by omega) (by omega) hb2 (by omega)
  refine lst_run (v := .slice (some ⟨w.heap.size, 0, none⟩) k k) (w' := w.alloc (.cells (madeCells z.cells (k * i.size)) el)) ?_ hd ?_
  · simp only [execOp, hx, hy, bind, pure]
    rw [Sem.run_bind', hr]
    rfl
  · have e1 : madeCells z.cells (k * i.size) = (madeCells z.cells (k * i.size)).toList.toArray := by simp
    rw [e1]
    exact h _ _ _ (by rw [Array.length_toList, size_madeCells]) (hS.alloc _)
theorem made_one (v : Value) (k : Nat) : madeCells #[v] (k * 1) = (List.replicate k v).toArray := by
  apply Array.ext'
  simp only [madeCells, Array.toList_map, Array.toList_range, Nat.mul_one]
  refine List.ext_getElem? fun i => ?_
  rw [List.getElem?_map, List.getElem?_replicate]
  by_cases hi : i < k
  · rw [List.getElem?_range hi, if_pos hi]
    simp [Nat.mod_one]
  · rw [List.getElem?_eq_none (by simpa using hi), if_neg hi]; rfl
/-- make of k elements of one cell, all zero. -/
theorem lst_makeZ {el bts k : Nat} {z : Value} (hS : St M w0 H F w) (hx : ev n e x = .int .i64 (k : Nat)) (hy : ev n e y = .int .i64 (k : Nat)) (hT : isSliceP P t = some el) (hi : rowP P el = some (1, bts)) (hz : zeroP P el = some z) (hz1 : z.cells = #[z]) (hb : bts * k ≤ 281474976710656) (hk : k ≤ 4611686018427387904) (hd : Nat.blt d n = true)
    (h : ∀ (b : Nat) (w' : World), St M w0 ((b, .cells (List.replicate k z).toArray el) :: H) F w' → Lst P Q ops rest n ((d, .slice (some ⟨b, 0, none⟩) k k) :: e) w') :
    Lst P Q ops (⟨some d, .makeSlice t x y, ty, pos, after, none⟩ :: rest) n e w := by
  obtain ⟨i, z', h2, h3, h4, h5, rfl⟩ := rowP_some hi
  obtain rfl : z' = z := by unfold zeroP at hz; rw [h2] at hz; simp only [Option.bind_some] at hz; rw [h3] at hz; exact Option.some.inj hz
  have hb2 : (i.bytes : Int) * (k : Int) ≤ 281474976710656 := by rw [← Int.natCast_mul]; omega
  have hr := run_make (P := P) w t el i z' (sliceP hT) h2 h3 .i64 .i64 (k : Int) (k : Int) (by omega) (by omega) hb2 (by omega)
  refine lst_run (v := .slice (some ⟨w.heap.size, 0, none⟩) k k) (w' := w.alloc (.cells (madeCells z'.cells (k * i.size)) el)) ?_ hd ?_
  · simp only [execOp, hx, hy, bind, pure]
    rw [Sem.run_bind', hr]
    rfl
  · rw [h5, hz1, made_one]
    exact h _ _ (hS.alloc _)
end
end Go.Proofs.Ytdflngjfnpbpmab
namespace Go.Proofs.Ytdflngjfnpbpmab
open Go.RowKit
set_option linter.unusedVariables false
set_option linter.unusedSimpArgs false

section
variable {P : Program} {n : Nat} {e : Env} {w : World} {Q : Exit → Act → World → Prop} {ops : Array Oper} {rest : List Oper} {ty : TypeId} {pos : String} {after : Array Edge} {d : Nat}
variable {M : List Nat} {w0 : World} {H H' : List (Nat × Obj)} {F : List (World → Prop)} {x y : Operand} {v : Value} {t tx : TypeId}
/-- append(s, make(k)...) of a slice of the call's own. -/
theorem lst_appZ {el len k : Nat} {xs zs : List Value} {O : List (Nat × Obj)} {i : TypeInfo} {z : Value} {ki : IntKind} (hS : St M w0 H F w) (hx : ev n e x = v) (hy : ev n e y = .int .i64 (k : Nat)) (hT : isSliceP P t = some el) (hTx : P.underlying tx = some (.int ki)) (hi : P.info? el = some i) (hz : i.zero = some z) (hzs : z.cells.size = i.size) (hsz : 0 < i.size)
    (hzl : (Builtin.zeroCells z.cells k).toList = zs) (h1 : ∀ u ∈ zs, u.oneCell' = true) (hrow : Rw el i.size v len xs O) (hl : 0 < len) (hk : 0 < k) (hP : H.Perm (O ++ H')) (hfit : 2 * (len + k) * i.bytes ≤ 281474976710656) (hbig : len + k ≤ 4611686018427387904) (hd : Nat.blt d n = true)
    (h : ∀ v' O' w', Rw el i.size v' (len + k) (xs ++ zs) O' → St M w0 (O' ++ H') F w' → Lst P Q ops rest n ((d, v') :: e) w') :
    Lst P Q ops (⟨some d, .call ⟨.builtin .append, #[x, y], #[t, tx]⟩, ty, pos, after, none⟩ :: rest) n e w := by
  have hS := hS.perm hP
  have hys : zs.length = k * i.size := by rw [← hzl]; simp [Builtin.zeroCells, hzs]
  have hza : Builtin.zeroCells z.cells k = zs.toArray := by rw [← hzl]
  have hop : ∀ r w2, (Builtin.append_ #[t, tx] ty #[v, .int .i64 (k : Nat)]).run P w = .ok r w2 → (execOp (ev n e) ⟨some d, .call ⟨.builtin .append, #[x, y], #[t, tx]⟩, ty, pos, after, none⟩).run P w = .ok (.value r) w2 := by
    intro r w2 hr
    simp only [execOp, resolve, List.map_toArray, List.map_cons, List.map_nil, hx, hy, bind, pure, Sem.bind, invoke, builtin]
    rw [Sem.run_bind', hr]
    rfl
  have hw : IntKind.i64.wrap (k : Int) = k := wrap_of (by omega) (by omega)
  have hai : ∀ w, (asInt (.int .i64 (k : Nat))).run P w = .ok (k : Int) w := fun w => rfl
  have hz0 : ¬ ((k : Int) < 0) := by omega
  have h49 : ¬ ((281474976710656 : Int) < (k : Int) * (i.bytes : Int)) := by
    have : k * i.bytes ≤ 2 * (len + k) * i.bytes := Nat.mul_le_mul_right _ (by omega)
    have h5 : ((k * i.bytes : Nat) : Int) ≤ 281474976710656 := by omega
    rw [Int.natCast_mul] at h5; omega
  have hs1 : ¬ i.size = 0 := by omega
  have hk0 : ¬ k = 0 := by omega
  have hks : ¬ k * i.size = 0 := fun h0 => by rcases Nat.mul_eq_zero.1 h0 with h | h <;> omega
  cases hrow with
  | zero_ => omega
  | own_ hx2 hc2 hle hcp =>
    rename_i bl cap sp
    have hbl : w.heap[bl]? = some (.cells (xs ++ sp).toArray el) := hS.own (bl, _) (by simp)
    by_cases hroom : len + k ≤ cap
    · have hcc : (xs ++ sp).length = cap * i.size := hc2
      have hfitc : len * i.size + zs.length ≤ (xs ++ sp).length := by rw [hcc, hys, ← Nat.add_mul]; exact Nat.mul_le_mul_right _ hroom
      have hst := run_storeCells_cells (P := P) bl (0 + len * i.size) zs 0 w
        (fun j hj => by rw [cell_own hbl, Nat.zero_add]; simp only [Option.isSome_iff_exists]; exact ⟨_, List.getElem?_eq_getElem (by omega)⟩) (fun j hj => by simp [World.frozen?, hbl]) h1
      simp only [Nat.add_zero] at hst
      have hr : (Builtin.append_ #[t, tx] ty #[.slice (some ⟨bl, 0, none⟩) len cap, .int .i64 (k : Nat)]).run P w = .ok (.slice (some ⟨bl, 0, none⟩) (len + k) cap) (w.setCells bl (0 + len * i.size) zs) := by
        simp [Builtin.append_, run_underlying (sliceP hT), run_underlying hTx, sizeOf, typeInfo, zeroValue, hi, hz, hw, hai, hz0, h49, hroom, hza, hk0, hs1, Addr.add_lit]
        rw [if_neg hks]
        rw [Nat.zero_add] at hst
        rw [hst]; rfl
      obtain ⟨hs1, hs2⟩ := setCells_row zs (0 + len * i.size) (xs ++ sp) w hbl (by omega)
      refine lst_run (hop _ _ hr) hd ?_
      have hu : Upd ([(bl, Obj.cells (xs ++ sp).toArray el)] ++ H') bl (.cells (xs ++ sp).toArray el) (.cells ((xs ++ sp).take (0 + len * i.size) ++ zs ++ (xs ++ sp).drop (0 + len * i.size + zs.length)).toArray el)
          ((bl, .cells ((xs ++ sp).take (0 + len * i.size) ++ zs ++ (xs ++ sp).drop (0 + len * i.size + zs.length)).toArray el) :: H') := .head
      have h3 := hS.turn hu hs2 hs1
      have e1 : (xs ++ sp).take (0 + len * i.size) = xs := by rw [Nat.zero_add, ← hx2]; simp
      have e2 : (xs ++ sp).drop (0 + len * i.size + zs.length) = sp.drop zs.length := by
        rw [Nat.zero_add, ← hx2]; simp [List.drop_append]
      rw [e1, e2] at h3
      refine h _ _ _ (Rw.own_ (b := bl) (sp := sp.drop zs.length) ?_ ?_ hroom hcp) h3
      · rw [List.length_append, hx2, hys, Nat.add_mul]
      · simp only [List.length_append, List.length_drop] at hcc hfitc ⊢
        omega
    · have hn := Go.Room.nextslicecap_le' (show cap < len + k by omega)
      have h48 : ¬ (281474976710656 < Builtin.nextslicecap (len + k) cap * i.bytes) := by
        have := Nat.le_trans (Nat.mul_le_mul_right i.bytes hn) hfit
        omega
      have h63 : ¬ (9223372036854775807 < ((len : Int) + (k : Int))) := by omega
      have hf := run_firstCells_some (P := P) w.drew i.size len ⟨bl, 0, none⟩ len cap xs hx2 (fun j u hj => by
        have hjl : j < xs.length := by
          rcases Nat.lt_or_ge j xs.length with hl | hl
          · exact hl
          · rw [List.getElem?_eq_none hl] at hj; cases hj
        rw [addrPlus, cell_own (w := w.drew) hbl, Nat.zero_add, List.getElem?_append_left hjl]; exact hj)
      have hcapn : len + k ≤ grownCap w (len + k) cap el := by unfold grownCap Question.cut; exact Nat.le_add_right _ _
      have hr : (Builtin.append_ #[t, tx] ty #[.slice (some ⟨bl, 0, none⟩) len cap, .int .i64 (k : Nat)]).run P w = .ok (.slice (some ⟨w.heap.size, 0, none⟩) (len + k) (grownCap w (len + k) cap el)) (w.drew.alloc (.cells ((xs ++ zs).toArray ++ Builtin.zeroCells z.cells (grownCap w (len + k) cap el - (len + k))) el)) := by
        simp [Builtin.append_, run_underlying (sliceP hT), run_underlying hTx, sizeOf, typeInfo, zeroValue, hi, hz, hw, hai, hz0, h49, hroom, hza, hk0, hs1, h63, h48, Question.forced, hf, newRow, grownCap]
        first | rw [if_neg hks] | skip
        congr 3
        apply Array.ext'
        simp [List.append_assoc]
      refine lst_run (hop _ _ hr) hd ?_
      generalize grownCap w (len + k) cap el = nc at hcapn
      have hzc : (Builtin.zeroCells z.cells (nc - (len + k))) = (Builtin.zeroCells z.cells (nc - (len + k))).toList.toArray := by simp
      have hzl2 : (Builtin.zeroCells z.cells (nc - (len + k))).toList.length = (nc - (len + k)) * i.size := by simp [Builtin.zeroCells, hzs]
      generalize (Builtin.zeroCells z.cells (nc - (len + k))).toList = zl at hzc hzl2
      rw [hzc]
      have hS2 := (hS.drew.alloc (.cells ((xs ++ zs) ++ zl).toArray el))
      rw [show (xs ++ zs).toArray ++ zl.toArray = ((xs ++ zs) ++ zl).toArray by simp]
      refine h _ [(w.heap.size, .cells ((xs ++ zs) ++ zl).toArray el)] _ (Rw.own_ ?_ ?_ hcapn (by omega)) ?_
      · rw [List.length_append, hx2, hys, Nat.add_mul]
      · rw [List.length_append, List.length_append, hx2, hys, hzl2, ← Nat.add_mul, ← Nat.add_mul]; congr 1; omega
      · have h5 : St M w0 ((w.heap.size, .cells ((xs ++ zs) ++ zl).toArray el) :: ([(bl, Obj.cells (xs ++ sp).toArray el)] ++ H')) F _ := hS2
        exact St.dropL (L := [(bl, Obj.cells (xs ++ sp).toArray el)]) h5.sink
end
abbrev zC : HC := ⟨0, 0, eS⟩
theorem zero_hcs : ∀ k : Nat, (Builtin.zeroCells #[.int .i64 0, .int .i64 0, .string eS] k).toList = hcsL (List.replicate k zC)
  | 0 => by simp [Builtin.zeroCells, hcsL]
  | k + 1 => by
    have ih := zero_hcs k
    simp only [Builtin.zeroCells, Array.toList_map, Array.toList_range] at ih ⊢
    rw [List.replicate_succ', hcsL_app, ← ih]
    rw [show (k + 1) * (#[Value.int .i64 0, .int .i64 0, .string eS] : Array Value).size = k * 3 + 1 + 1 + 1 by simp; omega]
    rw [show k * (#[Value.int .i64 0, .int .i64 0, .string eS] : Array Value).size = k * 3 by simp]
    rw [List.range_succ, List.range_succ, List.range_succ]
    simp [hcsL, Nat.mul_mod_left, Nat.add_mod]
/-- A cell set, in the list and in its block. -/
theorem hcsL_setC : ∀ (L : List HC) (i : Nat) (c : HC), i < L.length → ∃ X Z : List Value, ∃ ys : List Value, hcsL L = X ++ (ys ++ Z) ∧ X.length = i * 3 ∧ ys.length = 3 ∧ hcsL (L.set i c) = X ++ (hcs c ++ Z)
  | [], i, c, h => by simp at h
  | x :: r, 0, c, h => ⟨[], hcsL r, hcs x, rfl, rfl, rfl, rfl⟩
  | x :: r, i + 1, c, h => by
    obtain ⟨X, Z, ys, h1, h2, h3, h4⟩ := hcsL_setC r i c (by simpa using h)
    refine ⟨hcs x ++ X, Z, ys, ?_, ?_, h3, ?_⟩
    · show hcs x ++ hcsL r = _
      rw [h1]; simp
    · simp [hcs, h2]; omega
    · show hcs x ++ hcsL (r.set i c) = _
      rw [h4]; simp
theorem hcsL_putC (L : List HC) (sp : List Value) (i : Nat) (c : HC) (hi : i < L.length) : PutN (hcsL L ++ sp) (i * 3) (hcs c) (hcsL (L.set i c) ++ sp) := by
  obtain ⟨X, Z, ys, h1, h2, h3, h4⟩ := hcsL_setC L i c hi
  rw [h1, h4]
  have := putN_mid X ys (hcs c) (Z ++ sp) (i * 3) h2 (by rw [h3]; rfl)
  simpa using this
end Go.Proofs.Ytdflngjfnpbpmab
namespace Go.Proofs.Ytdflngjfnpbpmab
open Go.RowKit
set_option linter.unusedVariables false
set_option linter.unusedSimpArgs false

section
variable {M : List Nat} {w0 : World} {H : List (Nat × Obj)} {F : List (World → Prop)}
/-- append(s, x...), of cells that lie there. -/
theorem lst_appC {P : Program} {n : Nat} {e : Env} {w : World} {Q : Exit → Act → World → Prop} {ops : Array Oper} {rest : List Oper} {ty : TypeId} {pos : String} {after : Array Edge} {d : Nat} {H' : List (Nat × Obj)} {x y : Operand} {v : Value} {t tx : TypeId} {el len c : Nat} {A : Option Addr} {L : List HC} {xs : List Value} {O : List (Nat × Obj)} (hS : St M w0 H F w) (hx : ev n e x = v) (hy : ev n e y = .slice A L.length c)
    (hT : isSliceP P t = some el) (hTx : isSliceP P tx = some el) (hi : rowP P el = some (3, 32)) (hL : Flat 3 (hcsL L) A L.length c w) (hrow : Rw el 3 v len xs O)
    (hP : H.Perm (O ++ H')) (hbig : len + L.length ≤ 4398046511104) (hd : Nat.blt d n = true)
    (h : ∀ v' O' w', Rw el 3 v' (len + L.length) (xs ++ hcsL L) O' → St M w0 (O' ++ H') F w' → Lst P Q ops rest n ((d, v') :: e) w') :
    Lst P Q ops (⟨some d, .call ⟨.builtin .append, #[x, y], #[t, tx]⟩, ty, pos, after, none⟩ :: rest) n e w := by
  obtain ⟨i, z, h2, h3, h4, h5, h6⟩ := rowP_some hi
  refine lst_appendRw hS hx hy hT hTx h2 h3 h4 (by rw [h5]; exact hcsL_len L) (by rw [h5]; exact hL.src hTx (hcsL_one L)) (by rw [h5]; exact hrow) hP (by rw [h6]; omega) (by omega) hd ?_
  rw [h5]; exact h
/-- append(s, x...), of numbers that lie there. -/
theorem lst_appI {P : Program} {n : Nat} {e : Env} {w : World} {Q : Exit → Act → World → Prop} {ops : Array Oper} {rest : List Oper} {ty : TypeId} {pos : String} {after : Array Edge} {d : Nat} {H' : List (Nat × Obj)} {x y : Operand} {v : Value} {t tx : TypeId} {el len c : Nat} {A : Option Addr} {L : List Int} {xs : List Value} {O : List (Nat × Obj)} (hS : St M w0 H F w) (hx : ev n e x = v) (hy : ev n e y = .slice A L.length c)
    (hT : isSliceP P t = some el) (hTx : isSliceP P tx = some el) (hi : rowP P el = some (1, 8)) (hL : Flat 1 (intsV L) A L.length c w) (hrow : Rw el 1 v len xs O)
    (hP : H.Perm (O ++ H')) (hbig : len + L.length ≤ 17592186044416) (hd : Nat.blt d n = true)
    (h : ∀ v' O' w', Rw el 1 v' (len + L.length) (xs ++ intsV L) O' → St M w0 (O' ++ H') F w' → Lst P Q ops rest n ((d, v') :: e) w') :
    Lst P Q ops (⟨some d, .call ⟨.builtin .append, #[x, y], #[t, tx]⟩, ty, pos, after, none⟩ :: rest) n e w := by
  obtain ⟨i, z, h2, h3, h4, h5, h6⟩ := rowP_some hi
  refine lst_appendRw hS hx hy hT hTx h2 h3 h4 (by rw [h5]; exact intsV_len L) (by rw [h5]; exact hL.src hTx (intsV_one L)) (by rw [h5]; exact hrow) hP (by rw [h6]; omega) (by omega) hd ?_
  rw [h5]; exact h
end
end Go.Proofs.Ytdflngjfnpbpmab
