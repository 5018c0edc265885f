/- IntMap, Nums, Ren, Rename, Turns, TidyBy, HKeep, PickK, LKeeps: texts that follow one another, laid into one file. -/
import Derived.Test.YtjicoifjgokoiabG1
import Derived.MapKept
import Derived.Maps.OwnOps
import Derived.Test.YtjicoifjgokoiabRows
import Derived.StillTailTactics
import Derived.Deep.QuietTactic
import Derived.BigQuiet
import Derived.Test.YtjicoifjgokoiabG9
import Derived.Test.YtjicoifjgokoiabG0
import Derived.Deep.LoopGhost
import Derived.Deep.RegionLaw
import Derived.Deep.DeepCutAuto
import Derived.Test.YtjicoifjgokoiabG8
import Derived.Test.YtjicoifjgokoiabG6
import Derived.Test.YtjicoifjgokoiabProg
namespace Go.Proofs.Ytjicoifjgokoiab
open Go.RowKit

/-- Block mb is a map with these pairs. -/
def MapIs (w : World) (mb : Nat) (ents : List (Int × Value)) : Prop :=
  ∃ es clock, w.heap[mb]? = some (.map es clock) ∧ es.toList.map (fun e => (e.key, e.val)) = ents.map (fun x => (Value.int .i64 x.1, x.2))

def aget (n : Int) : List (Int × Value) → Option Value
  | [] => none
  | x :: r => if n = x.1 then some x.2 else aget n r
def aput (n : Int) (v : Value) : List (Int × Value) → List (Int × Value)
  | [] => [(n, v)]
  | x :: r => if n = x.1 then (n, v) :: r else x :: aput n v r
def aidx (n : Int) : List (Int × Value) → Nat → Option (Nat × Value)
  | [], _ => none
  | x :: r, i => if n = x.1 then some (i, x.2) else aidx n r (i + 1)

theorem isKey_int (n : Int) : MapKept.IsKey (.int .i64) (.int .i64 n) := by simp [MapKept.IsKey]

theorem findNow_ints (n : Int) : ∀ (es : List MapEntry) (ents : List (Int × Value)) (i : Nat), es.map (fun e => (e.key, e.val)) = ents.map (fun x => (Value.int .i64 x.1, x.2)) →
    Instr.findNow (.int .i64) (.int .i64 n) es i = some (aidx n ents i)
  | [], [], i, _ => rfl
  | [], _ :: _, _, h => by simp at h
  | _ :: _, [], _, h => by simp at h
  | e :: es, x :: ents, i, h => by
    simp only [List.map_cons, List.cons.injEq, Prod.mk.injEq] at h
    obtain ⟨⟨h1, h2⟩, h3⟩ := h
    have ih := findNow_ints n es ents (i + 1) h3
    simp only [Instr.findNow, h1, Instr.sameNow, aidx, if_true]
    by_cases e1 : n = x.1
    · simp [e1, h2]
    · have e2 : (n == x.1) = false := by simpa using e1
      rw [e2, if_neg e1, ← ih]

theorem aidx_none {n : Int} : ∀ {ents : List (Int × Value)} {i : Nat}, aidx n ents i = none ↔ aget n ents = none
  | [], _ => by simp [aidx, aget]
  | x :: r, i => by
    simp only [aidx, aget]
    by_cases e : n = x.1
    · simp [e]
    · simp only [e, if_false]; exact aidx_none
theorem aidx_some {n : Int} : ∀ {ents : List (Int × Value)} {i j : Nat} {v : Value}, aidx n ents i = some (j, v) → aget n ents = some v
  | [], _, _, _, h => by simp [aidx] at h
  | x :: r, i, j, v, h => by
    simp only [aidx, aget] at *
    by_cases e : n = x.1
    · simp only [e, if_true, Option.some.injEq, Prod.mk.injEq] at h ⊢; exact h.2
    · simp only [e, if_false] at h ⊢; exact aidx_some h
theorem aput_none {n : Int} {v : Value} : ∀ {ents : List (Int × Value)}, aget n ents = none → aput n v ents = ents ++ [(n, v)]
  | [], _ => rfl
  | x :: r, h => by
    simp only [aget] at h
    by_cases e : n = x.1
    · simp [e] at h
    · simp only [e, if_false] at h
      simp only [aput, e, if_false, aput_none h, List.cons_append]
theorem aput_some {n : Int} {v u : Value} : ∀ {ents : List (Int × Value)} {i j : Nat}, aidx n ents i = some (j, u) → i ≤ j ∧ (ents[j - i]?).map (·.1) = some n ∧ aput n v ents = ents.set (j - i) (n, v)
  | [], _, _, h => by simp [aidx] at h
  | x :: r, i, j, h => by
    simp only [aidx, aput] at *
    by_cases e : n = x.1
    · simp only [e, if_true, Option.some.injEq, Prod.mk.injEq] at h
      obtain ⟨rfl, _⟩ := h
      simp [e]
    · simp only [e, if_false] at h ⊢
      obtain ⟨h1, h2, h3⟩ := aput_some (v := v) h
      have e1 : j - i = (j - (i + 1)) + 1 := by omega
      refine ⟨by omega, by rw [e1]; simpa using h2, by rw [h3, e1]; rfl⟩

section
variable {P : Program} {w : World} {mb : Nat} {ents : List (Int × Value)} {t kt et : TypeId}
theorem MapIs.lt (h : MapIs w mb ents) : mb < w.heap.size := by
  obtain ⟨es, clock, hb, _⟩ := h
  exact (Array.getElem?_eq_some_iff.1 hb).1
theorem MapIs.keep {w' : World} (h : MapIs w mb ents) (hk : w'.heap[mb]? = w.heap[mb]?) : MapIs w' mb ents := by
  obtain ⟨es, clock, hb, he⟩ := h
  exact ⟨es, clock, hk.trans hb, he⟩
theorem MapIs.chg {S : Nat → Prop} {w' : World} (h : MapIs w mb ents) (hc : Chg S w w') (hS : ¬ S mb) : MapIs w' mb ents := h.keep (hc.block mb h.lt hS)
theorem MapIs.made (w : World) : MapIs (w.alloc (.map #[] 0)) w.heap.size [] := ⟨#[], 0, heap_alloc_new w _, rfl⟩

theorem run_makeMap {P : Program} (t : TypeId) (w : World) : (Instr.makeMap t none).run P w = .ok (.map (some w.heap.size)) (w.alloc (.map #[] 0)) := by
  simp [Instr.makeMap, newObj, Sem.run]
theorem MapIs.lookup (h : MapIs w mb ents) {z : Value} (ht : P.underlying t = some (.map kt et)) (hk : P.underlying kt = some (.int .i64))
    (hz : (zeroValue et).run P w = .ok z w) (n : Int) (c : Bool) :
    (Instr.lookup t (.map (some mb)) (.int .i64 n) c).run P w = .ok (if c then .tuple #[(aget n ents).getD z, .bool (aget n ents).isSome] else (aget n ents).getD z) w := by
  obtain ⟨es, clock, hb, he⟩ := h
  have hf := findNow_ints n es.toList ents 0 he
  cases ha : aidx n ents 0 with
  | none =>
    rw [ha] at hf
    simp [Instr.lookup, run_underlying ht, MapKept.run_getObj_map hb, MapKept.run_checkKey hk (isKey_int n), MapKept.run_findKey hk hf, hz, Result.andThen, aidx_none.1 ha]
  | some x =>
    rw [ha] at hf
    simp [Instr.lookup, run_underlying ht, MapKept.run_getObj_map hb, MapKept.run_checkKey hk (isKey_int n), MapKept.run_findKey hk hf, Result.andThen, aidx_some ha]

theorem MapIs.update (h : MapIs w mb ents) (ht : P.underlying t = some (.map kt et)) (hk : P.underlying kt = some (.int .i64)) (n : Int) (v : Value) :
    ∃ w', (Instr.mapUpdate t (.map (some mb)) (.int .i64 n) v).run P w = .ok () w' ∧ MapIs w' mb (aput n v ents) ∧ Chg (fun k => k = mb) w w' ∧ w'.heap.size = w.heap.size := by
  have hlt := h.lt
  obtain ⟨es, clock, hb, he⟩ := h
  have hf := findNow_ints n es.toList ents 0 he
  cases ha : aidx n ents 0 with
  | none =>
    rw [ha] at hf
    refine ⟨{ w with heap := w.heap.setIfInBounds mb (.map (es.push { key := .int .i64 n, val := v, born := clock }) (clock + 1)) }, ?_, ⟨_, _, (MapKept.heap_set hb).1, ?_⟩, ⟨rfl, rfl, rfl, by simp, fun k _ hn => (MapKept.heap_set hb).2 k hn⟩, by simp⟩
    · simp [Instr.mapUpdate, run_underlying ht, MapKept.run_getObj_map hb, MapKept.run_checkKey hk (isKey_int n), MapKept.run_findKey hk hf, MapKept.run_setObj_map _ hb, Result.andThen]
    · rw [aput_none (aidx_none.1 ha), Array.toList_push, List.map_append, List.map_append, he]; rfl
  | some x =>
    obtain ⟨j, u⟩ := x
    rw [ha] at hf
    obtain ⟨_, h2, h3⟩ := aput_some (v := v) ha
    simp only [Nat.sub_zero] at h2 h3
    have hent : ∃ e, es[j]? = some e ∧ e.key = .int .i64 n := by
      have h4 := congrArg (fun l => l[j]?) he
      simp only [List.getElem?_map] at h4
      cases h5 : ents[j]? with
      | none => rw [h5] at h2; simp at h2
      | some y =>
        rw [h5] at h2 h4
        simp only [Option.map_some, Option.some.injEq] at h2
        cases h6 : es[j]? with
        | none => simp [h6] at h4
        | some e =>
          simp [h6] at h4
          exact ⟨e, rfl, by rw [h4.1, h2]⟩
    obtain ⟨e, hj, hkey⟩ := hent
    refine ⟨{ w with heap := w.heap.setIfInBounds mb (.map (es.modify j fun e => { e with key := .int .i64 n, val := v }) clock) }, ?_, ⟨_, _, (MapKept.heap_set hb).1, ?_⟩, ⟨rfl, rfl, rfl, by simp, fun k _ hn => (MapKept.heap_set hb).2 k hn⟩, by simp⟩
    · simp [Instr.mapUpdate, run_underlying ht, MapKept.run_getObj_map hb, MapKept.run_checkKey hk (isKey_int n), MapKept.run_findKey hk hf, hj, hkey, MapKept.run_keyThatStays (isKey_int n), MapKept.run_setObj_map _ hb, Result.andThen]
    · rw [h3]
      apply List.ext_getElem?
      intro i
      have h4 := congrArg (fun l => l[i]?) he
      simp only [List.getElem?_map, Array.getElem?_toList] at h4
      simp only [List.getElem?_map, Array.getElem?_toList, Array.getElem?_modify, List.getElem?_set]
      by_cases hij : j = i
      · subst hij
        have hjl : j < ents.length := by
          rcases Nat.lt_or_ge j ents.length with hl | hl
          · exact hl
          · rw [List.getElem?_eq_none hl] at h2; simp at h2
        simp [hj, hjl]
      · simp [hij, h4]
theorem MapIs.size (h : MapIs w mb ents) : ∃ es clock, w.heap[mb]? = some (.map es clock) ∧ es.size = ents.length := by
  obtain ⟨es, clock, hb, he⟩ := h
  refine ⟨es, clock, hb, ?_⟩
  have := congrArg List.length he
  simpa using this
theorem MapIs.len (h : MapIs w mb ents) (ht : P.underlying t = some (.map kt et)) (ty : TypeId) : (Builtin.len_ #[t] ty #[.map (some mb)]).run P w = .ok (.int .i64 ents.length) w := by
  obtain ⟨es, clock, hb, hs⟩ := h.size
  simp [Builtin.len_, run_underlying ht, MapKept.run_getObj_map hb, Result.andThen, hs, goInt]
end
end Go.Proofs.Ytjicoifjgokoiab
namespace Go.Proofs.Ytjicoifjgokoiab
open Go.RowKit

/-- The remainder modulo 2^40 that is not negative. -/
def low (n : Int) : Int := n % 1099511627776
theorem low_bounds (n : Int) : 0 ≤ low n ∧ low n < 1099511627776 := by unfold low; omega

/-- Where a number stands in a list. -/
def pos (n : Int) : List Int → Option Nat
  | [] => none
  | k :: r => if n = k then some 0 else (pos n r).map (· + 1)
/-- The number of a variable, by the order in which the variables have come; the variables then. -/
def numV (ks : List Int) (n : Int) : Int := ((pos n ks).getD ks.length : Nat)
def numS (ks : List Int) (n : Int) : List Int := if (pos n ks).isSome then ks else ks ++ [n]
def entsFrom (i : Nat) : List Int → List (Int × Value)
  | [] => []
  | k :: r => (k, .int .i64 i) :: entsFrom (i + 1) r
theorem length_entsFrom : ∀ (ks : List Int) (i : Nat), (entsFrom i ks).length = ks.length
  | [], _ => rfl
  | _ :: r, i => by simp [entsFrom, length_entsFrom r (i + 1)]
theorem aget_entsFrom (n : Int) : ∀ (ks : List Int) (i : Nat), aget n (entsFrom i ks) = (pos n ks).map fun j => Value.int .i64 ((i + j : Nat) : Int)
  | [], _ => rfl
  | k :: r, i => by
    simp only [entsFrom, aget, pos]
    by_cases e : n = k
    · simp [e]
    · simp only [e, if_false, aget_entsFrom n r (i + 1), Option.map_map]
      congr 1
      funext j
      simp only [Function.comp]
      congr 2
      omega
theorem entsFrom_snoc (n : Int) : ∀ (ks : List Int) (i : Nat), entsFrom i (ks ++ [n]) = entsFrom i ks ++ [(n, .int .i64 ((i + ks.length : Nat) : Int))]
  | [], i => rfl
  | k :: r, i => by
    simp only [List.cons_append, entsFrom, entsFrom_snoc n r (i + 1), List.length_cons]
    congr 5
    omega
/-- The map in block mb numbers the variables ks. -/
def NumIs (w : World) (mb : Nat) (ks : List Int) : Prop := MapIs w mb (entsFrom 0 ks)
theorem numS_length (ks : List Int) (n : Int) : (numS ks n).length ≤ ks.length + 1 := by
  unfold numS; split <;> simp

theorem pos_snoc {n : Int} : ∀ {ks : List Int}, pos n ks = none → pos n (ks ++ [n]) = some ks.length
  | [], _ => by simp [pos]
  | k :: r, h => by
    simp only [pos] at h
    by_cases e : n = k
    · simp [e] at h
    · simp only [e, if_false, Option.map_eq_none_iff] at h
      simp [pos, e, pos_snoc h]
theorem Plot.not_map {w : World} {g mb : Nat} {t : TypeId} {cs : Array Value} {ents : List (Int × Value)} (h : Plot w g t cs) (hm : MapIs w mb ents) : g ≠ mb := by
  rintro rfl
  obtain ⟨es, clock, hb, _⟩ := hm
  unfold Plot at h
  rw [hb] at h
  cases h

theorem info_int : (Try.prog.info? 3).map (fun i => (i.zero, i.size, i.bytes)) = some (some (.int .i64 0), 1, 8) := by kernel_rfl
theorem zero_int (w : World) : (zeroValue 3).run Try.prog w = .ok (.int .i64 0) w := by
  obtain ⟨i0, hi0, hz0, _⟩ := info_parts info_int
  simp [zeroValue, typeInfo, hi0, hz0]

theorem tmod_bounds (n : Int) : -1099511627776 < n.tmod 1099511627776 ∧ n.tmod 1099511627776 < 1099511627776 := by
  rcases Int.le_total 0 n with h | h
  · rw [Int.tmod_eq_emod_of_nonneg h]; omega
  · have e : n = -(-n) := by omega
    rw [e, Int.neg_tmod, Int.tmod_eq_emod_of_nonneg (by omega)]; omega
theorem low_of_tmod (n : Int) : low n = if 0 ≤ n.tmod 1099511627776 then n.tmod 1099511627776 else n.tmod 1099511627776 + 1099511627776 := by
  unfold low
  rcases Int.le_total 0 n with h | h
  · rw [Int.tmod_eq_emod_of_nonneg h]; omega
  · have e : n.tmod 1099511627776 = -((-n) % 1099511627776) := by
      have e : n = -(-n) := by omega
      rw [e, Int.neg_tmod, Int.tmod_eq_emod_of_nonneg (by omega)]; simp
    rw [e]; omega

set_option maxHeartbeats 400000 in
theorem tidy1_any (n : Int) (ks : List Int) (vb mb : Nat) (w : World) (hv : Plot w vb 86 #[.map (some mb)]) (hm : NumIs w mb ks) :
    Calls Try.prog 62 #[.int .i64 n, .pointer (some ⟨vb, 0, none⟩)] w fun e w' => e = .returned (.int .i64 (numV ks n)) ∧ NumIs w' mb (numS ks n) ∧ Chg (fun k => k = mb) w w' := by
  have c0 : w.cell? ⟨vb, 0, none⟩ = some (.map (some mb)) := hv.cell 0
  have hlook := MapIs.lookup (P := Try.prog) hm Try.underlying86 Try.underlying3 (zero_int w) n true
  rw [aget_entsFrom] at hlook
  have hlen := MapIs.len (P := Try.prog) hm Try.underlying86
  rw [length_entsFrom] at hlen
  obtain ⟨w1, hup, hm1, hc1, hs1⟩ := MapIs.update (P := Try.prog) hm Try.underlying86 Try.underlying3 n (.int .i64 ks.length)
  cases hp : pos n ks with
  | none =>
    rw [hp] at hlook
    simp only [Option.map_none, Option.getD_none, Option.isSome_none, if_true] at hlook
    have h1 : numV ks n = ks.length := by simp [numV, hp]
    have h2 : NumIs w1 mb (numS ks n) := by
      unfold NumIs numS
      rw [hp]
      simp only [Option.isSome_none, Bool.false_eq_true, if_false]
      rw [entsFrom_snoc]
      rw [aput_none (by rw [aget_entsFrom, hp]; rfl)] at hm1
      simpa using hm1
    have H1 := Lib.hid h1
    clear h1 hp
    go_enter Try.func62, Try.ntmps62
    go_wp2_with fail
    go_ret
    exact ⟨by rw [H1.out]; rfl, h2, hc1⟩
  | some j =>
    rw [hp] at hlook
    simp only [Option.map_some, Option.getD_some, Option.isSome_some, if_true] at hlook
    have h1 : numV ks n = j := by simp [numV, hp]
    have h2 : NumIs w mb (numS ks n) := by
      unfold numS
      rw [hp]
      exact hm
    have H1 := Lib.hid h1
    clear h1 hp
    go_enter Try.func62, Try.ntmps62
    go_wp2_with fail
    go_ret
    exact ⟨by rw [H1.out]; rfl, h2, Chg.refl _ _⟩

end Go.Proofs.Ytjicoifjgokoiab
namespace Go.Proofs.Ytjicoifjgokoiab
open Go.RowKit
set_option maxRecDepth 100000

/-- What gives the variables their numbers: a function value, and what it knows. -/
structure Num (σ : Type) where
  fid : FuncId
  cap : Array Value
  own : Nat → Prop
  lean : Nat → Prop
  inv : σ → World → Prop
  val : σ → Int → Int
  nxt : σ → Int → σ
structure Num.Ok {σ : Type} (N : Num σ) : Prop where
  keep : ∀ s w w', N.inv s w → (∀ k, N.lean k → w'.heap[k]? = w.heap[k]?) → N.inv s w'
  lt : ∀ s w k, N.inv s w → N.lean k → k < w.heap.size
  sub : ∀ k, N.own k → N.lean k
  bare : ∀ s w k c t f, N.inv s w → N.own k → w.heap[k]? ≠ some (.cells c t f)
  enter : ∀ (args : Array Value) (w : World), (callFunc N.fid args).run Try.prog w = .ok (.enter N.fid args) w
  call : ∀ s n w, N.inv s w → Calls Try.prog N.fid (#[.int .i64 n] ++ N.cap) w fun e w' => e = .returned (.int .i64 (N.val s n)) ∧ N.inv (N.nxt s n) w' ∧ Chg N.own w w'

def Num.v1 {σ : Type} (N : Num σ) (k n : Int) (s : σ) : Int := if k = 0 then N.val s n else n
def Num.s1 {σ : Type} (N : Num σ) (k n : Int) (s : σ) : σ := if k = 0 then N.nxt s n else s
/-- Every variable gets its number, each term ahead of its arguments. -/
def Ts.ren {σ : Type} (N : Num σ) : Ts → σ → Ts × σ
  | .nil, s => (.nil, s)
  | .cons k n b ar r, s => (.cons k (N.v1 k n s) b (ar.ren N (N.s1 k n s)).1 (r.ren N (ar.ren N (N.s1 k n s)).2).1, (r.ren N (ar.ren N (N.s1 k n s)).2).2)
theorem Ts.ren_app {σ : Type} (N : Num σ) (D R : Ts) : ∀ s : σ, (D.app R).ren N s = ((D.ren N s).1.app (R.ren N (D.ren N s).2).1, (R.ren N (D.ren N s).2).2) := by
  induction D with
  | nil => intro s; rfl
  | cons k n b ar r _ ih => intro s; simp only [Ts.app, Ts.ren, ih]
theorem Ts.length_ren {σ : Type} (N : Num σ) (T : Ts) : ∀ s : σ, (T.ren N s).1.length = T.length := by
  induction T with
  | nil => intro s; rfl
  | cons k n b ar r _ ih => intro s; simp only [Ts.ren, Ts.length, ih]
theorem Ts.nodes_ren {σ : Type} (N : Num σ) (T : Ts) : ∀ s : σ, (T.ren N s).1.nodes = T.nodes := by
  induction T with
  | nil => intro s; rfl
  | cons k n b ar r iha ih => intro s; simp only [Ts.ren, Ts.nodes, ih, iha]

section
variable {σ : Type} {N : Num σ}
theorem Num.Ok.cell_none (ok : N.Ok) {w : World} {s : σ} {k o : Nat} (hi : N.inv s w) (ho : N.own k) : w.cell? ⟨k, o, none⟩ = none := by
  have := fun c t f => ok.bare s w k c t f hi ho
  unfold World.cell?
  split
  · rename_i h; exact absurd h (this _ _ _)
  · rfl
theorem Num.Ok.sl (ok : N.Ok) {w w' : World} {p : Nat → Prop} {s : σ} {v : Value} {T : Ts} (h : Sl w p v T) (hi : N.inv s w) (hc : Chg N.own w w') : Sl w' p v T := by
  have h1 : Sl w (fun k => p k ∧ ¬ N.own k) v T := h.imp' fun k hk ⟨j, u, hu⟩ => ⟨hk, fun ho => by rw [ok.cell_none hi ho] at hu; cases hu⟩
  exact (h1.chg hc fun k hk => hk.2).imp fun k hk _ => hk.1
end

end Go.Proofs.Ytjicoifjgokoiab
namespace Go.Proofs.Ytjicoifjgokoiab
open Go.RowKit

/-- Is a cell one of those that are still to be visited? -/
def InS (L : List Lev) (k i : Nat) : Prop := ∃ l ∈ L, l.b = k ∧ l.o ≤ i ∧ i < l.o + 4 * l.T.length
/-- Block k is a row of terms' cells. -/
def T24 (w : World) (k : Nat) : Prop := ∃ cur, Plot w k 39 cur
/-- In w' all levels have been visited, from the state s on to the state sf. -/
def RenL {σ : Type} (N : Num σ) (B : Nat) (w' : World) : List Lev → σ → σ → Prop
  | [], s, sf => sf = s
  | l :: r, s, sf => Seg w' (fun k => B ≤ k) (l.T.ren N s).1 l.b l.o ∧ RenL N B w' r (l.T.ren N s).2 sf
/-- What is not to be visited has not turned. -/
def Fr (L : List Lev) (w w' : World) : Prop := ∀ k i v, T24 w k → ¬ InS L k i → w.cell? ⟨k, i, none⟩ = some v → w'.cell? ⟨k, i, none⟩ = some v

/-- A level's cells are those of terms of the first world. -/
def LevIs (w0 w : World) (B : Nat) (l : Lev) : Prop :=
  B ≤ l.b ∧ ∃ cur xs, Plot w l.b 39 cur ∧ Cs w0 (fun _ => True) l.T xs ∧ ∀ j u, xs[j]? = some u → cur[l.o + j]? = some u

structure RnRel {σ : Type} (N : Num σ) (w0 : World) (s0 : σ) (T : Ts) (out : Value) (pb : Nat) (L : List Lev) (s : σ) (pv : Value) (xs : List Value) (w : World) : Prop where
  path : IsPath w w0.heap.size pb pv xs
  pbl : w0.heap.size ≤ pb
  pvs : PV L xs
  lev : ∀ l ∈ L, LevIs w0 w w0.heap.size l
  dis : (L.map Lev.b).Nodup
  inv : N.inv s w
  chg : Chg N.own w0 w
  small : nodesOf L ≤ T.nodes
  wand : ∀ w' sf, RenL N w0.heap.size w' L s sf → Fr L w w' → Sl w' (fun k => w0.heap.size ≤ k) out (T.ren N s0).1 ∧ sf = (T.ren N s0).2


theorem mem_push {T : Ts} {b o : Nat} {L : List Lev} {l : Lev} (h : l ∈ push T b o L) : (0 < T.length ∧ l = ⟨b, o, T⟩) ∨ l ∈ L := by
  unfold push at h
  split at h
  · exact .inr h
  · rcases List.mem_cons.1 h with h | h
    · exact .inl ⟨by omega, h⟩
    · exact .inr h
theorem inS_push {T : Ts} {b o k i : Nat} {L : List Lev} (h : InS (push T b o L) k i) : (b = k ∧ o ≤ i ∧ i < o + 4 * T.length) ∨ InS L k i := by
  obtain ⟨l, hl, h⟩ := h
  rcases mem_push hl with ⟨_, rfl⟩ | hl
  · exact .inl h
  · exact .inr ⟨l, hl, h⟩
theorem renL_push {σ : Type} {N : Num σ} {B : Nat} {w' : World} {T : Ts} {b o : Nat} {L : List Lev} {s sf : σ} (h : RenL N B w' (push T b o L) s sf) : Seg w' (fun k => B ≤ k) (T.ren N s).1 b o ∧ RenL N B w' L (T.ren N s).2 sf := by
  unfold push at h
  split at h
  · rename_i h0
    rw [Ts.nil_of_length h0]
    exact ⟨trivial, h⟩
  · exact h

theorem RnRel.step {σ : Type} {N : Num σ} {w0 wr w5 : World} {s0 s : σ} {T : Ts} {out : Value} {pb b o g : Nat} {k n : Int} {t : ByteArray} {ar r : Ts} {L : List Lev} {pv pv5 v v4 : Value} {xs xs5 ys xs4 : List Value} {cur curg : Array Value}
    (h : RnRel N w0 s0 T out pb (⟨b, o, .cons k n t ar r⟩ :: L) s pv xs wr)
    (hcur : Plot wr b 39 cur) (c0 : cur[o]? = some (.int .i64 k)) (c1 : cur[o + 1]? = some (.int .i64 n)) (c2 : cur[o + 2]? = some (.string t)) (c3 : cur[o + 3]? = some v) (hys : Cs w0 (fun _ => True) r ys) (cys : ∀ (j : Nat) u, ys[j]? = some u → cur[o + 4 + j]? = some u)
    (hpath : IsPath w5 w0.heap.size pb pv5 xs5) (hpv : PV (push ar g 0 (push r b (o + 4) L)) xs5) (hxs4 : Cs w0 (fun _ => True) ar xs4)
    (hother : ∀ k' cur', k' ≠ b → Plot wr k' 39 cur' → Plot w5 k' 39 cur')
    (hb5 : Plot w5 b 39 ((cur.setIfInBounds (o + 1) (.int .i64 (N.v1 k n s))).setIfInBounds (o + 3) v4))
    (hv4 : ∃ A c, v4 = .slice A ar.length c ∧ ar.length ≤ c ∧ (0 < ar.length → A = some ⟨g, 0, none⟩))
    (hg : 0 < ar.length → wr.heap.size ≤ g ∧ Plot w5 g 39 curg ∧ ∀ (j : Nat) u, xs4[j]? = some u → curg[j]? = some u)
    (hI : N.inv (N.s1 k n s) w5) (hC : Chg N.own w0 w5) :
    RnRel N w0 s0 T out pb (push ar g 0 (push r b (o + 4) L)) (N.s1 k n s) pv5 xs5 w5 := by
  have hd := h.dis
  simp only [List.map_cons, List.nodup_cons] at hd
  have hne : ∀ l ∈ L, l.b ≠ b := fun l hl e => hd.1 (by rw [← e]; exact List.mem_map_of_mem hl)
  have hbl := hcur.lt
  have hlev : ∀ l ∈ L, l.b < wr.heap.size := fun l hl => by
    obtain ⟨_, _, _, h1, _⟩ := h.lev l (List.mem_cons_of_mem _ hl)
    exact h1.lt
  have hB : w0.heap.size ≤ b := (h.lev _ (List.mem_cons_self ..)).1
  have hBr := h.chg.size
  have hsz : ((cur.setIfInBounds (o + 1) (.int .i64 (N.v1 k n s))).setIfInBounds (o + 3) v4).size = cur.size := by simp
  have hlt : ∀ {i : Nat} {u : Value}, cur[i]? = some u → i < cur.size := fun hu => (Array.getElem?_eq_some_iff.1 hu).1
  have hset : ∀ i u, i ≠ o + 1 → i ≠ o + 3 → cur[i]? = some u → ((cur.setIfInBounds (o + 1) (.int .i64 (N.v1 k n s))).setIfInBounds (o + 3) v4)[i]? = some u := fun i u h1 h3 hu => by
    rw [Array.getElem?_setIfInBounds_ne (by omega), Array.getElem?_setIfInBounds_ne (by omega)]; exact hu
  have d1 : ((cur.setIfInBounds (o + 1) (.int .i64 (N.v1 k n s))).setIfInBounds (o + 3) v4)[o + 1]? = some (.int .i64 (N.v1 k n s)) := by
    rw [Array.getElem?_setIfInBounds_ne (by omega), Array.getElem?_setIfInBounds_self_of_lt (hlt c1)]
  have d3 : ((cur.setIfInBounds (o + 1) (.int .i64 (N.v1 k n s))).setIfInBounds (o + 3) v4)[o + 3]? = some v4 := by
    rw [Array.getElem?_setIfInBounds_self_of_lt (by simpa using hlt c3)]
  refine ⟨hpath, h.pbl, hpv, ?_, ?_, hI, hC, ?_, ?_⟩
  · intro l hl
    rcases mem_push hl with ⟨hp, rfl⟩ | hl
    · obtain ⟨h1, h2, h3⟩ := hg hp
      exact ⟨by show _ ≤ g; omega, curg, xs4, h2, hxs4, fun j u hu => by rw [Nat.zero_add]; exact h3 j u hu⟩
    · rcases mem_push hl with ⟨hp, rfl⟩ | hl
      · exact ⟨hB, _, ys, hb5, hys, fun j u hu => hset _ _ (by show o + 4 + j ≠ _; omega) (by show o + 4 + j ≠ _; omega) (cys j u hu)⟩
      · obtain ⟨h1, cur', zs, h2, h3, h4⟩ := h.lev l (List.mem_cons_of_mem _ hl)
        exact ⟨h1, cur', zs, hother _ _ (hne l hl) h2, h3, h4⟩
  · have h1 : ((push r b (o + 4) L).map Lev.b).Nodup ∧ ∀ l ∈ push r b (o + 4) L, l.b < wr.heap.size := by
      constructor
      · unfold push
        split
        · exact hd.2
        · simpa using hd
      · intro l hl
        rcases mem_push hl with ⟨_, rfl⟩ | hl
        · exact hbl
        · exact hlev l hl
    unfold push
    split
    · exact h1.1
    · rename_i h0
      refine List.nodup_cons.2 ⟨fun hm => ?_, h1.1⟩
      obtain ⟨l, hl, e⟩ := List.mem_map.1 hm
      have h2 := h1.2 l hl
      have h3 := (hg (by omega)).1
      have e' : l.b = g := e
      omega
  · have := h.small
    rw [nodesOf_push, nodesOf_push]
    simp only [nodesOf, List.map_cons, List.sum_cons, Ts.nodes] at this ⊢
    omega
  · intro w' sf hR hF
    refine h.wand w' sf ?_ ?_
    · obtain ⟨hR1, hR2⟩ := renL_push hR
      obtain ⟨hR3, hR4⟩ := renL_push hR2
      have hcell : ∀ i u, (∀ l ∈ L, l.b ≠ b) → i < o + 4 → ((cur.setIfInBounds (o + 1) (.int .i64 (N.v1 k n s))).setIfInBounds (o + 3) v4)[i]? = some u → w'.cell? ⟨b, i, none⟩ = some u := by
        intro i u hL hi hu
        refine hF b i u ⟨_, hb5⟩ ?_ ((hb5.cell i).trans hu)
        intro hin
        rcases inS_push hin with ⟨e, h1, h2⟩ | hin
        · have := (hg (by omega)).1; omega
        · rcases inS_push hin with ⟨_, h1, _⟩ | ⟨l, hl, e, _⟩
          · omega
          · exact hL l hl e
      refine ⟨?_, hR4⟩
      refine seg_cons.2 ⟨hB, hcell o _ hne (by omega) (hset o _ (by omega) (by omega) c0), hcell (o + 1) _ hne (by omega) d1, hcell (o + 2) _ hne (by omega) (hset (o + 2) _ (by omega) (by omega) c2), ⟨v4, hcell (o + 3) _ hne (by omega) d3, ?_⟩, hR3⟩
      obtain ⟨A, c, e, hc, hA⟩ := hv4
      refine ⟨A, c, by rw [Ts.length_ren]; exact e, by rw [Ts.length_ren]; exact hc, fun hp => ?_⟩
      rw [Ts.length_ren] at hp
      exact ⟨g, 0, hA hp, hR1⟩
    · intro k' i u hT hin hu
      obtain ⟨cur', hk'⟩ := hT
      have hk'l := hk'.lt
      by_cases e : k' = b
      · subst e
        have hcc : cur' = cur := by
          unfold Plot at hk' hcur
          rw [hk'] at hcur
          injection hcur with hcur
          injection hcur
        subst hcc
        rw [hk'.cell i] at hu
        have hnot : ¬ (o ≤ i ∧ i < o + 4 * (Ts.cons k n t ar r).length) := fun hh => hin ⟨_, List.mem_cons_self .., rfl, hh⟩
        simp only [Ts.length] at hnot
        refine hF k' i u ⟨_, hb5⟩ ?_ ((hb5.cell i).trans (hset i u (by omega) (by omega) hu))
        intro hin2
        rcases inS_push hin2 with ⟨e, h1, h2⟩ | hin2
        · have := (hg (by omega)).1; omega
        · rcases inS_push hin2 with ⟨_, h1, h2⟩ | ⟨l, hl, e, _⟩
          · omega
          · exact hne l hl e
      · have h5 := hother k' cur' e hk'
        refine hF k' i u ⟨_, h5⟩ ?_ ((h5.cell i).trans ((hk'.cell i).symm.trans hu))
        intro hin2
        rcases inS_push hin2 with ⟨e2, h1, h2⟩ | hin2
        · have := (hg (by omega)).1; omega
        · rcases inS_push hin2 with ⟨e2, _, _⟩ | ⟨l, hl, hh⟩
          · exact e e2.symm
          · exact hin ⟨l, List.mem_cons_of_mem _ hl, hh⟩

def RnLoop {σ : Type} (N : Num σ) (w0 : World) (s0 : σ) (T : Ts) (out : Value) (pb : Nat) (g : Nat) (w : World) : Prop :=
  ∃ L s pv xs, RnRel N w0 s0 T out pb L s pv xs w ∧ g = nodesOf L

theorem info_path : (Try.prog.info? 94).map (fun i => (i.zero, i.size, i.bytes)) = some (some (.slice none 0 0), 1, 24) := by kernel_rfl

theorem Num.Ok.raw {σ : Type} {N : Num σ} (ok : N.Ok) {w w' : World} {s : σ} {v : Value} {l : Nat} {xs : List Value} (h : Raw w v l xs) (hi : N.inv s w) (hc : Chg N.own w w') : Raw w' v l xs := by
  obtain ⟨A, c, e, h1, h2, h3, h4⟩ := h
  refine ⟨A, c, e, h1, h2, h3, fun hl => ?_⟩
  obtain ⟨b, o, e2, h5⟩ := h4 hl
  refine ⟨b, o, e2, fun j u hu => ?_⟩
  have h6 := h5 j u hu
  rw [World.cell?_of_block (w := w) (w' := w') (a := ⟨b, o + j, none⟩) (hc.block b (lt_of_cell h6) fun ho => by rw [ok.cell_none hi ho] at h6; cases h6)]
  exact h6

structure RnMid {σ : Type} (N : Num σ) (w0 wr : World) (pb b : Nat) (pv : Value) (xs : List Value) (cur : Array Value) (s : σ) (wx : World) : Prop where
  path : IsPath wx w0.heap.size pb pv xs
  cur : Plot wx b 39 cur
  other : ∀ k' cur', k' ≠ b → Plot wr k' 39 cur' → Plot wx k' 39 cur'
  inv : N.inv s wx
  chg : Chg N.own w0 wx
  size : wr.heap.size ≤ wx.heap.size

set_option maxHeartbeats 400000 in
theorem rename_any {σ : Type} {N : Num σ} (ok : N.Ok) (T : Ts) (v : Value) (s : σ) (w : World) (hv : Sl w (fun _ => True) v T) (hi : N.inv s w) (hn : T.nodes ≤ 1073741824) :
    Calls Try.prog 61 #[v, .func (.func N.fid) #[] N.cap] w fun e w' => ∃ v', e = .returned v' ∧ Sl w' (fun k => w.heap.size ≤ k) v' (T.ren N s).1 ∧ N.inv (T.ren N s).2 w' ∧ Chg N.own w w' := by
  obtain ⟨xs0, hraw, hcs0⟩ := hv.raw
  have hle := T.length_le
  have hen := ok.enter
  have HLT : Hid (∀ k, N.lean k → k < w.heap.size) := fun k => ok.lt s w k hi
  go_enter Try.func61, Try.ntmps61
  go_wp2_with fail
  refine (clone_raw hraw (by omega)).mono ?_
  rintro e w1 ⟨v1, rfl, ho1, hb1⟩
  obtain ⟨A1, d1, rfl⟩ := own_form ho1
  obtain ⟨hd1, g, cur, hg⟩ := own_blk ho1
  have hB1 := hb1.size
  have hp0 : IsPath (w1.alloc (.cells #[.slice none 0 0] 94)) w.heap.size w1.heap.size (.slice none 0 0) [] := ⟨Plot.new _ _ _, World.ownsRow_nil _ _ _ _, by simp [Value.ownBlock]⟩
  go_wp2_with fail
  refine (add_lev (b := g) (o := 0) (L := []) hp0 rfl (by simp; omega) (by simp [nodesOf]) hd1 (fun h => (hg h).1)).mono ?_
  rintro e w2 ⟨rfl, pv2, xs2, hp2, hpv2, _, hc2⟩
  have hc02 : Chg N.own w w2 := by
    refine ((Chg.of_fresh hb1).alloc _).trans hc2 fun k hk h => ?_
    rcases h with h | h
    · omega
    · simp [Value.ownBlock] at h
  have h0 : RnLoop N w s T (.slice A1 T.length d1) w1.heap.size T.nodes w2 := by
    refine ⟨push T g 0 [], s, pv2, xs2, ⟨hp2, hB1, hpv2, ?_, ?_, ?_, hc02, ?_, ?_⟩, by rw [nodesOf_push]; simp [nodesOf]⟩
    · intro l hl
      rcases mem_push hl with ⟨h, rfl⟩ | h
      · obtain ⟨h1, h2, h3, h4⟩ := hg h
        refine ⟨h2, cur, xs0, (h3.alloc _).chg hc2 ?_, hcs0, fun j u hu => by rw [Nat.zero_add]; exact h4 j u hu⟩
        have := h3.lt
        intro h; rcases h with h | h
        · omega
        · simp [Value.ownBlock] at h
      · cases h
    · unfold push; split <;> simp
    · refine ok.keep s w _ hi fun k hk => ?_
      have := HLT.out k hk
      rw [hc2.block k (by simp; omega) (by simp [Value.ownBlock]; omega), Below.heap_alloc _ _ _ (by omega), hb1.block k this]
    · rw [nodesOf_push]; simp [nodesOf]
    · intro w' sf hR _
      obtain ⟨h1, h2⟩ := renL_push hR
      refine ⟨⟨A1, d1, by rw [Ts.length_ren], by rw [Ts.length_ren]; exact hd1, fun h => ?_⟩, h2⟩
      rw [Ts.length_ren] at h
      exact ⟨g, 0, (hg h).1, h1⟩
  clear hg ho1 hp0 hp2 hpv2
  go_wp2_with fail
  go_loopg [] T.nodes (RnLoop N w s T (.slice A1 T.length d1) w1.heap.size)
  case atStart => exact h0
  case round =>
    clear h0
    obtain ⟨L, s', pv, xs, hrel, hgk⟩ := hrel
    have hpx := hrel.pvs.length
    have hpl := hrel.pvs.le
    have hsm := hrel.small
    obtain ⟨Ap, cp, hpv⟩ := own_form hrel.path.own
    subst hpv
    have cpb : wr.cell? ⟨w1.heap.size, 0, none⟩ = some (.slice Ap xs.length cp) := hrel.path.var.cell 0
    have HG := Lib.hid hgk
    clear hgk
    cases L with
    | nil =>
      have hx : xs = [] := hrel.pvs
      subst hx
      obtain ⟨hsl, hst⟩ := hrel.wand wr s' rfl (fun _ _ _ _ _ h => h)
      subst hst
      have hI := hrel.inv
      have hC := hrel.chg
      clear hrel hpx
      go_wp2_with fail
      go_ret
      exact ⟨_, rfl, hsl, hI, hC⟩
    | cons l Ls =>
      obtain ⟨b, o, T1⟩ := l
      cases T1 with
      | nil => obtain ⟨_, _, _, _, h, _⟩ := hrel.pvs; simp [Ts.length] at h
      | cons k n t ar r =>
      have hxl : 0 < xs.length := by rw [hpx]; simp
      obtain ⟨hbB, cur, zs, hcur, ⟨v, ys, rfl, hva, hcr⟩, hcells⟩ := hrel.lev _ (List.mem_cons_self ..)
      have c0 : cur[o]? = some (.int .i64 k) := hcells 0 _ rfl
      have c1 : cur[o + 1]? = some (.int .i64 n) := hcells 1 _ rfl
      have c2 : cur[o + 2]? = some (.string t) := hcells 2 _ rfl
      have c3 : cur[o + 3]? = some v := hcells 3 _ rfl
      have cys : ∀ (j : Nat) u, ys[j]? = some u → cur[o + 4 + j]? = some u := fun j u hu => by
        have := hcells (j + 4) u (by simpa using hu)
        rwa [show o + (j + 4) = o + 4 + j by omega] at this
      have CYS := Lib.hid cys
      have C0 := Lib.hid c0
      have C1 := Lib.hid c1
      have C2 := Lib.hid c2
      have C3 := Lib.hid c3
      have hn4 : nodesOf (⟨b, o, .cons k n t ar r⟩ :: Ls) ≤ 1073741824 := by omega
      clear cys hcells c0 c1 c2 c3
      go_wp2_with fail
      refine (next_lev hrel.path hrel.pvs hn4).mono ?_
      rintro e w3 ⟨rfl, pv3, xs3, hp3, hpv3, hop3, hc3⟩
      have hb3 : Plot w3 b 39 cur := hrel.path.keep hc3 hcur
      have hoth3 : ∀ k' cur', Plot wr k' 39 cur' → Plot w3 k' 39 cur' := fun k' cur' h => hrel.path.keep hc3 h
      have hpown : ∀ g, (Value.slice Ap xs.length cp).ownBlock = some g → w.heap.size ≤ g ∧ g < wr.heap.size := fun g hg => hrel.path.own.lt g hg
      have hchg3 : Chg N.own w w3 := hrel.chg.trans hc3 fun k hk h => by
        rcases h with h | h
        · omega
        · have := hpown _ h; omega
      have hlean : ∀ k, N.lean k → w3.heap[k]? = wr.heap[k]? := fun k hk => by
        have hk := HLT.out k hk
        refine hc3.block k (by have := hrel.chg.size; omega) fun h => ?_
        rcases h with h | h
        · omega
        · have := hpown _ h; omega
      have hI3 : N.inv s' w3 := ok.keep s' wr _ hrel.inv hlean
      have hz3 := hc3.size
      have a0 : w3.cell? ⟨b, o, none⟩ = some (.int .i64 k) := (hb3.cell o).trans C0.out
      have a1 : w3.cell? ⟨b, o + 1, none⟩ = some (.int .i64 n) := (hb3.cell (o + 1)).trans C1.out
      have HL := Lib.hid hlean
      have HO := Lib.hid hoth3
      have HP := Lib.hid hpown
      clear hlean hoth3 hpown
      go_upto_if 20 with fail
      go_cut [] (fun wx => RnMid N w wr w1.heap.size b pv3 xs3 (cur.setIfInBounds (o + 1) (.int .i64 (N.v1 k n s'))) (N.s1 k n s') wx)
      case first =>
        by_cases hk : k = 0
        · subst hk
          go_wp2_with fail
          refine (ok.call s' n _ hI3).mono ?_
          rintro e w4 ⟨rfl, hI4, hc4⟩
          have hb4 : Plot w4 b 39 cur := hb3.chg hc4 fun ho => ok.bare _ _ _ _ _ _ hI3 ho hb3
          have a2 : w4.cell? ⟨b, o + 1, none⟩ = some (.int .i64 n) := (hb4.cell (o + 1)).trans C1.out
          have f2 : w4.frozen? ⟨b, o + 1, none⟩ = false := hb4.frozen _
          have hp4 : IsPath w4 w.heap.size w1.heap.size pv3 xs3 := hp3.chg hc4 (fun ho => by have := HLT.out _ (ok.sub _ ho); omega) fun g hg ho => by
            have := HLT.out _ (ok.sub _ ho)
            rw [hop3] at hg
            have := HP.out g hg
            omega
          go_wp2_with fail
          go_meet
          refine ⟨hp4.set hb4, hb4.set_ _ _, fun k' cur' hne h => ?_, ?_, ?_, by have := hc4.size; simp [World.setCell]; omega⟩
          · have h3 := HO.out k' cur' h
            exact (h3.chg hc4 fun ho => ok.bare _ _ _ _ _ _ hI3 ho h3).far hne _
          · refine ok.keep _ w4 _ hI4 fun k hk => ?_
            have := HLT.out k hk
            exact Below.heap_setCell _ _ _ _ (by simp; omega)
          · exact (hchg3.trans hc4 fun _ _ h => h).setCell (fun h => by simp at h; omega) _
        · have hk' : (k == 0) = false := by simp [hk]
          have e1 : N.v1 k n s' = n := by simp [Num.v1, hk]
          have e2 : N.s1 k n s' = s' := by simp [Num.s1, hk]
          have E1 := Lib.hid e1
          have E2 := Lib.hid e2
          clear e1 e2
          go_wp2_with fail
          go_meet
          rw [E1.out, E2.out, set_same C1.out]
          exact ⟨hp3, hb3, fun k' cur' _ h => HO.out k' cur' h, hI3, hchg3, hz3⟩
      case rest =>
        obtain ⟨hp5, hb5, ho5, hI5, hc5, hz5⟩ := hcut
        clear hp3 hc3 hb3 hchg3 hI3 a0 a1
        obtain ⟨xs4, hraw4, hcs4⟩ := hva.raw
        obtain ⟨Av, cv, rfl, hva⟩ := hva.form
        have har : ar.length ≤ 1073741824 := by
          have := ar.length_le
          simp only [nodesOf, List.map_cons, List.sum_cons, Ts.nodes] at hn4
          omega
        have hn5 : nodesOf (push r b (o + 4) Ls) ≤ 1073741824 := by
          rw [nodesOf_push]
          simp only [nodesOf, List.map_cons, List.sum_cons, Ts.nodes] at hn4 ⊢
          omega
        have a3 : wc.cell? ⟨b, o + 3, none⟩ = some (.slice Av ar.length cv) := by
          rw [hb5.cell, Array.getElem?_setIfInBounds_ne (by omega)]; exact C3.out
        go_wp2_with fail
        refine (clone_raw (ok.raw hraw4 hi hc5) har).mono ?_
        rintro e w6 ⟨v4, rfl, ho6, hb6⟩
        obtain ⟨A4, d4, rfl⟩ := own_form ho6
        obtain ⟨hd4, g4, cur4, hg4⟩ := own_blk ho6
        have hz6 := hb6.size
        have hbb6 := hb5.below hb6
        have a6 : w6.cell? ⟨b, o + 3, none⟩ = some (.slice Av ar.length cv) := by
          rw [hbb6.cell, Array.getElem?_setIfInBounds_ne (by omega)]; exact C3.out
        have f6 : w6.frozen? ⟨b, o + 3, none⟩ = false := hbb6.frozen _
        have hp6 : IsPath w6 w.heap.size w1.heap.size pv3 xs3 := hp5.chg (Chg.of_fresh (S := fun _ => False) hb6) (fun h => h) fun _ _ h => h
        have hp7 : IsPath (w6.setCell ⟨b, o + 3, none⟩ (.slice A4 ar.length d4)) w.heap.size w1.heap.size pv3 xs3 := hp6.set hbb6
        have hbb7 := hbb6.set_ (o + 3) (.slice A4 ar.length d4)
        have hwz := hrel.chg.size
        have HG4 := Lib.hid hg4
        clear hg4
        go_wp2_with fail
        refine (add_lev (b := g4) (o := 0) hp7 hpv3 (by simp [World.setCell]; omega) hn5 hd4 (fun h => (HG4.out h).1)).mono ?_
        rintro e w8 ⟨rfl, pv8, xs8, hp8, hpv8, hat8, hc8⟩
        have hpown3 : ∀ g, pv3.ownBlock = some g → w.heap.size ≤ g := fun g hg => by rw [hop3] at hg; exact (HP.out g hg).1
        have hstep := RnRel.step (g := g4) (xs4 := xs4) (v4 := .slice A4 ar.length d4) (curg := cur4) hrel hcur C0.out C1.out C2.out C3.out hcr CYS.out hp8 hpv8 hcs4
          (fun k' cur' hne h => hp7.keep hc8 (((ho5 k' cur' hne h).below hb6).far hne _)) (hp7.keep hc8 hbb7) ⟨A4, d4, rfl, hd4, fun h => (HG4.out h).1⟩
          (fun h => by
            obtain ⟨_, h2, h3, h4⟩ := HG4.out h
            have := h3.lt
            exact ⟨by omega, hp7.keep hc8 (h3.far (by simp; intro e; have := hb5.lt; omega) _), h4⟩)
          (ok.keep _ wc _ hI5 fun k hk => by
            have := HLT.out k hk
            rw [hc8.block k (by simp [World.setCell]; omega) (fun h => by rcases h with h | h
                                                                          · omega
                                                                          · have := hpown3 _ h; omega), Below.heap_setCell _ _ _ _ (by simp; omega), hb6.block k (by omega)])
          (((hc5.trans (Chg.of_fresh (S := fun _ => False) hb6) fun _ _ h => h.elim).setCell (fun h => by simp at h; omega) _).trans hc8 fun k hk h => by
            rcases h with h | h
            · omega
            · have := hpown3 _ h; omega)
        clear hat8
        go_wp2_with fail
        go_roundg (nodesOf (push ar g4 0 (push r b (o + 4) Ls)))
        case measure =>
          rw [HG.out, nodesOf_push, nodesOf_push]
          simp only [nodesOf, List.map_cons, List.sum_cons, Ts.nodes]
          omega
        case rel => exact ⟨_, _, _, _, hstep, rfl⟩
end Go.Proofs.Ytjicoifjgokoiab
namespace Go.Proofs.Ytjicoifjgokoiab
open Go.RowKit

theorem Ts.ren_congr {σ : Type} {N M : Num σ} (hv : ∀ s n, N.val s n = M.val s n) (hx : ∀ s n, N.nxt s n = M.nxt s n) (T : Ts) : ∀ s, T.ren N s = T.ren M s := by
  have h1 : ∀ k n s, N.v1 k n s = M.v1 k n s := fun k n s => by simp [Num.v1, hv]
  have h2 : ∀ k n s, N.s1 k n s = M.s1 k n s := fun k n s => by simp [Num.s1, hx]
  induction T with
  | nil => intro s; rfl
  | cons k n b ar r iha ihr => intro s; simp only [Ts.ren, h1, h2, iha, ihr]

def numTidy (vb mb : Nat) : Num (List Int) :=
  { fid := 62, cap := #[.pointer (some ⟨vb, 0, none⟩)], own := fun k => k = mb, lean := fun k => k = vb ∨ k = mb,
    inv := fun ks w => Plot w vb 86 #[.map (some mb)] ∧ NumIs w mb ks, val := numV, nxt := numS }
theorem numTidy_ok (vb mb : Nat) : (numTidy vb mb).Ok where
  keep := fun _ w w' h hk => ⟨(hk vb (.inl rfl)).trans h.1, MapIs.keep h.2 (hk mb (.inr rfl))⟩
  lt := fun _ w k h hk => by
    have e : k = vb ∨ k = mb := hk
    rcases e with rfl | rfl
    · exact Plot.lt h.1
    · exact MapIs.lt h.2
  sub := fun _ h => .inr h
  bare := fun ks w k c t f h ho e => by
    have e1 : k = mb := ho
    subst e1
    obtain ⟨es, clock, hb, _⟩ := h.2
    rw [hb] at e
    cases e
  enter := fun args w => by simp [numTidy, go_sem]
  call := fun ks n w h => by
    refine (tidy1_any n ks vb mb w h.1 h.2).mono ?_
    rintro e w' ⟨rfl, h1, h2⟩
    exact ⟨rfl, ⟨h.1.chg h2 fun e => Plot.not_map h.1 h.2 e, h1⟩, h2⟩

/-- The terms, their variables numbered in the order in which they come. -/
def Ts.tidyFrom (T : Ts) (ks : List Int) : Ts × List Int := T.ren (numTidy 0 0) ks
def Ts.tidy (T : Ts) : Ts := (T.tidyFrom []).1
theorem ren_tidy (vb mb : Nat) (T : Ts) (ks : List Int) : T.ren (numTidy vb mb) ks = T.tidyFrom ks := Ts.ren_congr (N := numTidy vb mb) (M := numTidy 0 0) (fun _ _ => rfl) (fun _ _ => rfl) T ks
set_option maxHeartbeats 400000 in
theorem tidy_any (T : Ts) (v : Value) (w : World) (hv : Sl w (fun _ => True) v T) (hn : T.nodes ≤ 1073741824) :
    Calls Try.prog 36 #[v] w fun e w' => ∃ v', e = .returned v' ∧ Sl w' (fun k => w.heap.size ≤ k) v' T.tidy ∧ Below w.heap.size w w' := by
  have hi : (numTidy (w.heap.size + 1) w.heap.size).inv [] ((w.alloc (.map #[] 0)).alloc (.cells #[.map (some w.heap.size)] 86)) := by
    refine ⟨?_, ?_⟩
    · have := Plot.new (w.alloc (.map #[] 0)) 86 #[.map (some w.heap.size)]
      simpa using this
    · exact (MapIs.made w).keep (Below.heap_alloc _ _ _ (by simp))
  have hW : Below w.heap.size w ((w.alloc (.map #[] 0)).alloc (.cells #[.map (some w.heap.size)] 86)) := ((Below.refl _ _).alloc (Nat.le_refl _) _).alloc (by simp) _
  have hsl := hv.below hW
  have hmk := run_makeMap (P := Try.prog) 86
  go_enter Try.func36, Try.ntmps36
  go_wp2_with fail
  refine (rename_any (numTidy_ok (w.heap.size + 1) w.heap.size) T v [] _ hsl hi hn).mono ?_
  rintro e w' ⟨v', rfl, h1, _, h3⟩
  rw [ren_tidy] at h1
  go_wp2_with fail
  go_ret
  refine ⟨_, rfl, h1.imp (fun k hk _ => by simp at hk; omega), hW.trans (h3.below (by simp; omega) fun k hk _ => ?_)⟩
  have e : k = w.heap.size := hk
  omega

theorem Ts.tidyFrom_app (D R : Ts) (ks : List Int) : (D.app R).tidyFrom ks = ((D.tidyFrom ks).1.app (R.tidyFrom (D.tidyFrom ks).2).1, (R.tidyFrom (D.tidyFrom ks).2).2) := Ts.ren_app _ D R ks

def tV (k n : Int) (ks : List Int) : Int := if k = 0 then numV ks n else n
def tS (k n : Int) (ks : List Int) : List Int := if k = 0 then numS ks n else ks
theorem Ts.tidyFrom_cons (k n : Int) (s : ByteArray) (ar r : Ts) (ks : List Int) : (Ts.cons k n s ar r).tidyFrom ks = (.cons k (tV k n ks) s (ar.tidyFrom (tS k n ks)).1 (r.tidyFrom (ar.tidyFrom (tS k n ks)).2).1, (r.tidyFrom (ar.tidyFrom (tS k n ks)).2).2) := rfl

end Go.Proofs.Ytjicoifjgokoiab
namespace Go.Proofs.Ytjicoifjgokoiab

/-- Each variable's number is one of P's. -/
def Ts.vars (P : Int → Prop) : Ts → Prop
  | .nil => True
  | .cons k n _ ar r => (k = 0 → P n) ∧ ar.vars P ∧ r.vars P
/-- Each variable's number, by f. -/
def Ts.by_ (f : Int → Int) : Ts → Ts
  | .nil => .nil
  | .cons k n s ar r => .cons k (if k = 0 then f n else n) s (ar.by_ f) (r.by_ f)
theorem pos_by {P : Int → Prop} {f : Int → Int} (hf : ∀ a b, P a → P b → f a = f b → a = b) {n : Int} (hn : P n) : ∀ ks : List Int, (∀ k ∈ ks, P k) → pos (f n) (ks.map f) = pos n ks
  | [], _ => rfl
  | k :: r, h => by
    simp only [List.map_cons, pos]
    rw [pos_by hf hn r fun x hx => h x (List.mem_cons_of_mem _ hx)]
    by_cases e : n = k
    · rw [if_pos e, if_pos (by rw [e])]
    · rw [if_neg e, if_neg fun e2 => e (hf n k hn (h k (List.mem_cons_self ..)) e2)]
theorem numS_mem {P : Int → Prop} {n : Int} {ks : List Int} (hn : P n) (h : ∀ k ∈ ks, P k) : ∀ k ∈ numS ks n, P k := by
  intro k hk
  unfold numS at hk
  split at hk
  · exact h k hk
  · rcases List.mem_append.1 hk with h1 | h1
    · exact h k h1
    · rw [List.mem_singleton.1 h1]; exact hn

theorem Ts.tidyFrom_by {P : Int → Prop} {f : Int → Int} (hf : ∀ a b, P a → P b → f a = f b → a = b) (T : Ts) : ∀ ks : List Int, (∀ k ∈ ks, P k) → T.vars P →
    (T.by_ f).tidyFrom (ks.map f) = ((T.tidyFrom ks).1, (T.tidyFrom ks).2.map f) ∧ ∀ k ∈ (T.tidyFrom ks).2, P k := by
  induction T with
  | nil => intro ks h _; exact ⟨rfl, h⟩
  | cons k n s ar r iha ihr =>
    intro ks h ⟨h0, ha, hr⟩
    have hv : tV k (if k = 0 then f n else n) (ks.map f) = tV k n ks ∧ tS k (if k = 0 then f n else n) (ks.map f) = (tS k n ks).map f ∧ ∀ x ∈ tS k n ks, P x := by
      by_cases e : k = 0
      · have hn := h0 e
        simp only [tV, tS, e, if_true, numV, numS, pos_by hf hn ks h, List.length_map]
        refine ⟨trivial, ?_, ?_⟩
        · split <;> simp
        · have := numS_mem hn h
          unfold numS at this
          exact this
      · simp only [tV, tS, e, if_false]
        exact ⟨trivial, trivial, h⟩
    obtain ⟨i1, i2⟩ := iha _ hv.2.2 ha
    obtain ⟨j1, j2⟩ := ihr _ i2 hr
    refine ⟨?_, j2⟩
    rw [Ts.by_, Ts.tidyFrom_cons, hv.1, hv.2.1, i1, Ts.tidyFrom_cons, j1]

end Go.Proofs.Ytjicoifjgokoiab
namespace Go.Proofs.Ytjicoifjgokoiab
open Go.RowKit
set_option linter.unusedVariables false
set_option linter.unusedSimpArgs false

def Tm.by_ (f : Int → Int) (t : Tm) : Tm := ⟨t.k, if t.k = 0 then f t.n else t.n, t.s, t.ar.by_ f⟩
def Tm.vars (P : Int → Prop) (t : Tm) : Prop := (t.k = 0 → P t.n) ∧ t.ar.vars P
section
variable {h : HH} {R : List Int} {M : List Bool}
theorem Cx.inj (C : Cx h R M) {a b : Int} (ha : Rc h.cs R a) (hb : Rc h.cs R b) (e : rkI M a = rkI M b) : a = b := by
  obtain ⟨a0, _, am⟩ := C.rc ha
  obtain ⟨b0, _, bm⟩ := C.rc hb
  have := rk_inj am bm (by simp only [rkI] at e; omega)
  omega
theorem Cx.hat (C : Cx h R M) {a : Int} (ha : Rc h.cs R a) : ∃ c, Go.Proofs.Ytjicoifjgokoiab.hat h.cs a = some c := by
  obtain ⟨a0, a1, _⟩ := C.rc ha
  exact hat_in a0 a1
theorem Cx.ends (C : Cx h R M) {n : Nat} {a x : Int} (he : EndsN h.cs n a x) : Rc h.cs R a → EndsN (collL M h.cs) n (rkI M a) (rkI M x) ∧ Rc h.cs R x := by
  induction he with
  | @here a c h0 h1 =>
    intro ha
    refine ⟨.here (C.cell ha h0) ?_, ha⟩
    rintro ⟨k, n⟩
    rw [renum_k] at k
    have hn : c.n = a := Classical.byContradiction fun e => h1 ⟨k, e⟩
    unfold renum at n
    rw [if_pos k, hn] at n
    exact n rfl
  | @there n a x c h0 h1 h2 h3 ih =>
    intro ha
    have hr := Rc.ref ha h0 h1
    obtain ⟨i1, i2⟩ := ih hr
    refine ⟨.there (C.cell ha h0) (by rw [renum_k]; exact h1) ?_ ?_, i2⟩
    · unfold renum; rw [if_pos h1]; exact fun e => h2 (C.inj hr ha e)
    · unfold renum; rw [if_pos h1]; exact i1
theorem Cx.ends_back (C : Cx h R M) : ∀ {n : Nat} {a y : Int}, Rc h.cs R a → EndsN (collL M h.cs) n (rkI M a) y → ∃ x, EndsN h.cs n a x := by
  intro n
  induction n with
  | zero =>
    intro a y ha he
    obtain ⟨c, hc⟩ := C.hat ha
    have hc' := C.cell ha hc
    generalize hb : rkI M a = b at he
    cases he with
    | here g0 g1 =>
      rw [← hb, hc'] at g0
      cases g0
      refine ⟨a, .here hc ?_⟩
      rintro ⟨k, n⟩
      refine g1 ⟨by rw [renum_k]; exact k, ?_⟩
      unfold renum
      rw [if_pos k, ← hb]
      exact fun e => n (C.inj (Rc.ref ha hc k) ha e)
  | succ n ih =>
    intro a y ha he
    obtain ⟨c, hc⟩ := C.hat ha
    have hc' := C.cell ha hc
    generalize hb : rkI M a = b at he
    cases he with
    | there g0 g1 g2 g3 =>
      rw [← hb, hc'] at g0
      cases g0
      rw [renum_k] at g1
      unfold renum at g2 g3
      rw [if_pos g1] at g2 g3
      obtain ⟨x, hx⟩ := ih (Rc.ref ha hc g1) g3
      exact ⟨x, .there hc g1 (fun e => g2 (by rw [← hb]; dsimp only; rw [e])) hx⟩
theorem Cx.look (C : Cx h R M) {a : Int} (ha : Rc h.cs R a) : (hlook h.cs a < 0 ∧ hlook (collL M h.cs) (rkI M a) < 0) ∨ (Rc h.cs R (hlook h.cs a) ∧ hlook (collL M h.cs) (rkI M a) = rkI M (hlook h.cs a)) := by
  by_cases he : ∃ x, End h.cs a x
  · obtain ⟨x, n, hx⟩ := he
    obtain ⟨h1, h2⟩ := C.ends hx ha
    rw [End.look ⟨n, hx⟩, End.look ⟨n, h1⟩]
    exact .inr ⟨h2, rfl⟩
  · left
    rw [hlook_none he, hlook_none fun ⟨y, n, hy⟩ => he ((C.ends_back ha hy).imp fun x hx => ⟨n, hx⟩)]
    exact ⟨by decide, by decide⟩
theorem Cx.list (C : Cx h R M) {g g' : Int → Nat → Option (Tm × Nat)} (hg : ∀ a l, Rc h.cs R a → g' (rkI M a) l = (g a l).map fun p => (p.1.by_ (rkI M), p.2)) : ∀ (m : Nat) (a : Int) (l : Nat), (∀ i : Int, 0 ≤ i → i < m → Rc h.cs R (a + i) ∧ rkI M (a + i) = rkI M a + i) →
    listT g' m (rkI M a) l = (listT g m a l).map fun p => (p.1.by_ (rkI M), p.2)
  | 0, a, l, _ => rfl
  | m + 1, a, l, hi => by
    simp only [listT]
    have h0 := (hi 0 (by omega) (by omega)).1
    rw [Int.add_zero] at h0
    rw [hg a l h0]
    cases hq : g a l with
    | none => rfl
    | some p =>
      simp only [Option.map_some, Option.bind_some]
      cases m with
      | zero => rfl
      | succ m =>
        have h1 := (hi 1 (by omega) (by omega)).2
        rw [show rkI M a + 1 = rkI M (a + 1) from h1.symm]
        rw [C.list hg (m + 1) (a + 1) p.2 fun i i0 i1 => by
          have := hi (i + 1) (by omega) (by omega)
          rw [show a + 1 + i = a + (i + 1) by omega]
          refine ⟨this.1, ?_⟩
          rw [this.2, h1]; omega]
        cases listT g (m + 1) (a + 1) p.2 with
        | none => rfl
        | some q => rfl
/-- The term at a place that is kept. -/
theorem Cx.term (C : Cx h R M) : ∀ (f : Nat) (a : Int) (l : Nat), Rc h.cs R a → tmAt (collL M h.cs) f (rkI M a) l = (tmAt h.cs f a l).map fun p => (p.1.by_ (rkI M), p.2)
  | 0, a, l, _ => rfl
  | f + 1, a, l, ha => by
    by_cases hl : l = 0
    · simp only [tmAt]; rw [if_pos hl, if_pos hl]; rfl
    rcases C.look ha with ⟨h1, h2⟩ | ⟨h1, h2⟩
    · rw [tmAt_none h1, tmAt_none h2]; rfl
    obtain ⟨c, hc⟩ := C.hat h1
    have hc' := C.cell h1 hc
    rw [← h2] at hc'
    rw [tmAt_hat hl hc, tmAt_hat hl hc', renum_k, renum_args, h2]
    by_cases k0 : c.k = 0
    · rw [if_pos k0, if_pos k0]; rfl
    rw [if_neg k0, if_neg k0, show renum M c = c by unfold renum; rw [if_neg k0]]
    by_cases k1 : c.k = 1
    · rw [if_pos k1, if_pos k1]; rfl
    rw [if_neg k1, if_neg k1]
    by_cases k2 : c.k = 2
    · rw [if_pos k2, if_pos k2]; rfl
    rw [if_neg k2, if_neg k2]
    cases hA : (argsC c).toNat with
    | zero => rfl
    | succ m =>
      have e1 : rkI M (hlook h.cs a) + 1 = rkI M (hlook h.cs a + 1) := by
        have := C.arg h1 hc (i := 0) (by omega) (by omega)
        simp only [Int.add_zero] at this
        exact this.symm
      rw [e1, C.list (fun a l ha => C.term f a l ha) (m + 1) (hlook h.cs a + 1) (l - 1) fun i i0 i1 => by
        refine ⟨Rc.arg h1 hc i0 (by omega), ?_⟩
        rw [C.arg h1 hc i0 (by omega), ← e1]]
      cases listT (tmAt h.cs f) (m + 1) (hlook h.cs a + 1) (l - 1) with
      | none => rfl
      | some q => rfl
theorem list_vars {P : Int → Prop} {g : Int → Nat → Option (Tm × Nat)} : ∀ (m : Nat) (a : Int) (l : Nat) (p : Ts × Nat), (∀ i : Int, 0 ≤ i → i < m → ∀ l p, g (a + i) l = some p → p.1.vars P) → listT g m a l = some p → p.1.vars P
  | 0, a, l, p, _, h => by simp only [listT, Option.some.injEq] at h; subst h; trivial
  | m + 1, a, l, p, hg, h => by
    simp only [listT] at h
    cases h1 : g a l with
    | none => rw [h1] at h; simp at h
    | some q =>
      rw [h1, Option.bind_some] at h
      cases h2 : listT g m (a + 1) q.2 with
      | none => rw [h2] at h; simp at h
      | some r =>
        rw [h2, Option.map_some, Option.some.injEq] at h
        subst h
        have e1 := hg 0 (by omega) (by omega) l q (by rw [Int.add_zero]; exact h1)
        have e2 := list_vars (P := P) m (a + 1) q.2 r (fun i i0 i1 l p hp => hg (i + 1) (by omega) (by omega) l p (by rw [show a + (i + 1) = a + 1 + i by omega]; exact hp)) h2
        exact ⟨e1.1, e1.2, e2⟩
theorem Cx.vars (C : Cx h R M) : ∀ (f : Nat) (a : Int) (l : Nat) (p : Tm × Nat), Rc h.cs R a → tmAt h.cs f a l = some p → p.1.vars (Rc h.cs R)
  | 0, a, l, p, _, h => by cases h
  | f + 1, a, l, p, ha, hp => by
    by_cases hl : l = 0
    · simp only [tmAt] at hp; rw [if_pos hl] at hp; cases hp
    rcases C.look ha with ⟨h1, h2⟩ | ⟨h1, h2⟩
    · rw [tmAt_none h1] at hp; cases hp
    obtain ⟨c, hc⟩ := C.hat h1
    rw [tmAt_hat hl hc] at hp
    split at hp
    · cases hp; exact ⟨fun _ => h1, trivial⟩
    split at hp
    · cases hp; exact ⟨fun e => absurd e (by simp), trivial⟩
    split at hp
    · cases hp; exact ⟨fun e => absurd e (by simp), trivial⟩
    cases h2 : listT (tmAt h.cs f) (argsC c).toNat (hlook h.cs a + 1) (l - 1) with
    | none => rw [h2] at hp; cases hp
    | some r =>
      rw [h2, Option.map_some, Option.some.injEq] at hp
      subst hp
      exact ⟨fun e => absurd e (by simp), list_vars _ _ _ _ (fun i i0 i1 l p hp => C.vars f _ l p (Rc.arg h1 hc i0 (by omega)) hp) h2⟩
end
end Go.Proofs.Ytjicoifjgokoiab
namespace Go.Proofs.Ytjicoifjgokoiab
open Go.RowKit
set_option linter.unusedVariables false
set_option linter.unusedSimpArgs false
set_option maxRecDepth 100000
set_option maxHeartbeats 1000000

theorem pickN_any (k n : Int) (h0 : 0 < n) (h1 : n ≤ 1000) (w : World) : Calls Try.prog 34 #[.int .i64 k, .int .i64 n] w fun e w' => ∃ r : Int, e = .returned (.int .i64 r) ∧ 0 ≤ r ∧ r < n ∧ w = w' := by
  have h2 : -n < k.tmod n ∧ k.tmod n < n := by
    have h3 := Int.emod_lt_of_pos k h0
    have h4 := Int.emod_nonneg k (show n ≠ 0 by omega)
    rw [Int.tmod_eq_emod]
    split <;> omega
  have hne : ¬ n = 0 := by omega
  go_enter Try.func34, Try.ntmps34
  go_wp2_with fail
  all_goals go_ret
  all_goals refine ⟨_, rfl, ?_, ?_, rfl⟩
  all_goals (first | omega | (simp; omega))
end Go.Proofs.Ytjicoifjgokoiab
namespace Go.Proofs.Ytjicoifjgokoiab
open Go.RowKit
set_option linter.unusedVariables false
set_option linter.unusedSimpArgs false
set_option maxRecDepth 100000
set_option maxHeartbeats 1000000

section
variable {M : List Nat} {w0 : World} {H : List (Nat × Obj)} {F : List (World → Prop)}
/-- append(s, t), of a term that lies there. -/
theorem lst_appT {P : Program} {n : Nat} {e : Env} {w : World} {Q : Exit → Act → World → Prop} {ops : Array Oper} {rest : List Oper} {ty : TypeId} {pos : String} {after : Array Edge} {d : Nat} {H' : List (Nat × Obj)} {x y : Operand} {v : Value} {t tx : TypeId} {el len c : Nat} {A : Option Addr} {u : LT} {xs : List Value} {O : List (Nat × Obj)} (hS : St M w0 H F w) (hx : ev n e x = v) (hy : ev n e y = .slice A 1 c)
    (hT : isSliceP P t = some el) (hTx : isSliceP P tx = some el) (hi : rowP P el = some (4, 56)) (hL : Flat 4 (tcs u) A 1 c w) (hrow : Rw el 4 v len xs O)
    (hP : H.Perm (O ++ H')) (hbig : len + 1 ≤ 1099511627776) (hd : Nat.blt d n = true)
    (h : ∀ v' O' w', Rw el 4 v' (len + 1) (xs ++ tcs u) O' → St M w0 (O' ++ H') F w' → Lst P Q ops rest n ((d, v') :: e) w') :
    Lst P Q ops (⟨some d, .call ⟨.builtin .append, #[x, y], #[t, tx]⟩, ty, pos, after, none⟩ :: rest) n e w := by
  obtain ⟨i, z, h2, h3, h4, h5, h6⟩ := rowP_some hi
  refine lst_appendRw (k := 1) (ys := tcs u) hS hx hy hT hTx h2 h3 h4 (by rw [h5]; rfl) (by rw [h5]; exact hL.src hTx rfl) (by rw [h5]; exact hrow) hP (by rw [h6]; omega) (by omega) hd ?_
  rw [h5]; exact h
theorem permB {α : Type} (L O O2 H : List α) : (L ++ (O ++ (O2 ++ H))).Perm (O2 ++ (L ++ (O ++ H))) :=
  (List.Perm.append_left L (List.perm_append_comm_assoc O O2 H)).trans (List.perm_append_comm_assoc L O2 _)
/-- A row of terms that is never written again. -/
theorem St.freezeW {w : World} {O : List (Nat × Obj)} {el c : Nat} {A : Option Addr} {D : TA} (hr : Rw el 4 (.slice A D.len c) D.len (tcsL D) O) (hA : Und F (AllR D)) (hS : St M w0 (O ++ H) F w) :
    ∃ F', (∀ φ ∈ F, φ ∈ F') ∧ Und F' (ArA A c D) ∧ St M w0 H F' w := by
  have hS2 := St.freezeR hr hS
  refine ⟨_, fun φ h => .tail _ h, fun w' hw => ?_, hS2⟩
  have hf := hw _ (.head _)
  have ha := hA w' fun φ hφ => hw φ (.tail _ hφ)
  refine ⟨hf.2.1, fun hl => ?_⟩
  obtain ⟨b, o, e, hc⟩ := hf.2.2 hl
  exact ⟨b, o, e, segA_of ha fun j u hj => hc j u hj⟩
end
theorem termH_of {h : HH} {a most : Int} (hg : goodH h = true) (ha : isAddr h.cs a = true) : termH h a most = (match tmAt h.cs (mostN most) a (mostN most) with | none => (zeroTm, 0, 3) | some (t, l) => (t, mostN most - l, 0)) := by
  unfold termH; rw [if_neg (by rw [hg]; decide), if_neg (by rw [ha]; decide)]; rfl
/-- The terms at a root, before and behind a collection. -/
theorem keep_term {h : HH} {R : List Int} {Mk : List Bool} (C : Cx h R Mk) {r : Int} (hr : r ∈ R) (ha : isAddr h.cs r = true) (most : Int) :
    (termH h r most = (zeroTm, 0, 3) ∧ termH ⟨collL Mk h.cs, collT Mk h.tr⟩ (rkI Mk r) most = (zeroTm, 0, 3)) ∨
      ∃ t n, termH h r most = (t, n, 0) ∧ termH ⟨collL Mk h.cs, collT Mk h.tr⟩ (rkI Mk r) most = (t.by_ (rkI Mk), n, 0) ∧ t.vars (Rc h.cs R) ∧ t.ar.nodes + 1 ≤ mostN most := by
  have hrc := Rc.root hr ha
  have hlt := C.lt hrc
  have ha2 : isAddr (collL Mk h.cs) (rkI Mk r) = true := isAddr_iff'.2 ⟨by simp only [rkI]; omega, by simp only [rkI]; omega⟩
  have ht := C.term (mostN most) r (mostN most) hrc
  rw [termH_of C.good ha, termH_of C.kept_good ha2, ht]
  cases hap : tmAt h.cs (mostN most) r (mostN most) with
  | none => exact .inl ⟨rfl, rfl⟩
  | some p =>
    obtain ⟨t, l⟩ := p
    have hn := tmAt_nodes _ _ _ _ hap
    exact .inr ⟨t, mostN most - l, rfl, rfl, C.vars _ _ _ _ hrc hap, by dsimp only at hn; omega⟩
theorem keep_tidy {h : HH} {R : List Int} {Mk : List Bool} (C : Cx h R Mk) {T : Ts} (hv : T.vars (Rc h.cs R)) : (T.by_ (rkI Mk)).tidy = T.tidy := by
  have := (Ts.tidyFrom_by (P := Rc h.cs R) (f := rkI Mk) (fun a b ha hb e => C.inj ha hb e) T [] (fun _ hk => by cases hk) hv).1
  have h2 := congrArg Prod.fst this
  exact h2
theorem Ts.by_app (f : Int → Int) (D U : Ts) : (D.app U).by_ f = (D.by_ f).app (U.by_ f) := by
  induction D with
  | nil => rfl
  | cons k n s ar r _ ih => simp only [Ts.app, Ts.by_, ih]
theorem Ts.vars_app {P : Int → Prop} (D U : Ts) : (D.app U).vars P ↔ D.vars P ∧ U.vars P := by
  induction D with
  | nil => simp [Ts.app, Ts.vars]
  | cons k n s ar r _ ih => simp only [Ts.app, Ts.vars, ih, and_assoc]
theorem Ts.nodes_by (f : Int → Int) (T : Ts) : (T.by_ f).nodes = T.nodes := by
  induction T with
  | nil => rfl
  | cons k n s ar r iha ihr => simp only [Ts.by_, Ts.nodes, iha, ihr]
theorem Ts.length_by (f : Int → Int) (T : Ts) : (T.by_ f).length = T.length := by
  induction T with
  | nil => rfl
  | cons k n s ar r iha ihr => simp only [Ts.by_, Ts.length, ihr]
theorem term_to {M : List Nat} {w0 : World} {H : List (Nat × Obj)} {F : List (World → Prop)} (h : HH) (a most : Int) (tm : Tm) (n : Nat) (er : Int) (he : termH h a most = (tm, n, er)) (A B : Option Addr) (c d : Nat) (w : World) (hH : Und F (HFl h A c B d)) (hS : St M w0 H F w) :
    Calls Try.prog 22 #[hv h A c B d, .int .i64 a, .int .i64 most] w fun e w' => ∃ (t : LT) (F' : List (World → Prop)), e = .returned (.tuple #[tv t, .int .i64 (n : Nat), .int .i64 er]) ∧ t.tm = tm ∧ (∀ φ ∈ F, φ ∈ F') ∧ Und F' (LRd t) ∧ St M w0 H F' w' := by
  have := term_any h a most A B c d w hH hS
  rw [he] at this
  exact this
theorem heapKeeps_any (h : HH) (R : List Int) (most : Int) (A B RA : Option Addr) (c d rc : Nat) (w : World) (hH : HFl h A c B d w) (hR : Flat 1 (intsV R) RA R.length rc w) (hl1 : h.cs.length ≤ 1048576) (hl2 : h.tr.length ≤ 1048576) (hRl : R.length ≤ 1048576) :
    Calls Try.prog 9 #[hv h A c B d, .slice RA R.length rc, .int .i64 most] w fun e w' => e = .returned (.bool true) ∧ Below w.heap.size w w' := by
  have hS := ((St.start w).base (φ := HFl h A c B d) fun w' hx => hH.ext hx).flat (M := []) hR
  have hHu : Und [Flat 1 (intsV R) RA R.length rc, HFl h A c B d] (HFl h A c B d) := Und.head.tail
  have hRu : Und [Flat 1 (intsV R) RA R.length rc, HFl h A c B d] (Flat 1 (intsV R) RA R.length rc) := Und.head
  have hz : ∀ {F : List (World → Prop)}, Und F (Flat 1 (intsV []) none 0 0) := fun w _ => Flat.nil_ _ _ _
  generalize [Flat 1 (intsV R) RA R.length rc, HFl h A c B d] = F at *
  have hbad : ∀ er : Int, er ≠ 0 → collectH h R [] [] = (h, [], [], [], er) → Calls Try.prog 9 #[hv h A c B d, .slice RA R.length rc, .int .i64 most] w fun e w' => e = .returned (.bool true) ∧ Below w.heap.size w w' := by
    intro er her e0
    refine goes_enter3 Try.func9 rfl Try.ntmps9 rfl ?_
    refine goes_seq ?_
    refine goes_region ?_
    refine lst_box hS rfl rfl ?_
    clear hS
    intro b1 wx1 hS
    refine lst_run (run_assign (by conv => lhs; whnf)) rfl ?_
    refine lst_done ?_
    refine goes_seq ?_
    refine goes_region ?_
    first
      | refine lst_run (run_loadN_own (k := 2) hS rfl rfl rfl (by first | exact .head | exact .tail .head | exact .tail (.tail .head) | exact .tail (.tail (.tail .head)) | exact .tail (.tail (.tail (.tail .head))) | exact .tail (.tail (.tail (.tail (.tail .head))))) (by repeat constructor)) rfl ?_
      | refine lst_run (run_load2 rfl rfl rfl (by first | assumption | exact hS.cell0 (by assumption)) (by first | assumption | exact hS.cell0 (by assumption))) rfl ?_
    refine lst_run (run_move (by conv => lhs; whnf)) rfl ?_
    refine lst_enter (run_call (by kernel_rfl) (args_4 (by conv => lhs; whnf) (by conv => lhs; whnf) (by conv => lhs; whnf) (by conv => lhs; whnf))) rfl ?_
    refine Calls.mono (collect_ok h R [] [] _ _ _ _ _ e0 A B RA none none c d rc 0 0 _ hHu hRu hz hz hRl (by simp) (by simp) hS) ?_
    rintro _ w3 ⟨A3, c3, B3, d3, a1, a2, a3, c31, c32, c33, F3, rfl, hF3, hH3, hA1, hA2, hA3, hS'⟩
    refine ⟨_, rfl, ?_⟩
    replace hS := hS'
    clear hS'
    refine lst_run (run_move (by conv => lhs; whnf)) rfl ?_
    refine lst_run (run_extract rfl rfl) rfl ?_
    refine lst_run (run_extract rfl rfl) rfl ?_
    refine lst_run (run_extract rfl rfl) rfl ?_
    refine lst_run (run_extract rfl rfl) rfl ?_
    refine lst_run (run_extract rfl rfl) rfl ?_
    refine lst_alloc (cs := [_, _]) hS rfl rfl rfl ?_
    clear hS
    intro b2 wx2 hS
    refine lst_storeN hS rfl (by conv => lhs; whnf) rfl rfl (by first | exact .head | exact .tail .head | exact .tail (.tail .head) | exact .tail (.tail (.tail .head)) | exact .tail (.tail (.tail (.tail .head))) | exact .tail (.tail (.tail (.tail (.tail .head))))) (by repeat constructor) (by first | exact .head | exact .tail .head | exact .tail (.tail .head) | exact .tail (.tail (.tail .head)) | exact .tail (.tail (.tail (.tail .head))) | exact .tail (.tail (.tail (.tail (.tail .head))))) ?_
    clear hS
    intro wx3 hS
    refine lst_run (run_assign (by conv => lhs; whnf)) rfl ?_
    refine lst_run (run_assign (by conv => lhs; whnf)) rfl ?_
    refine lst_run (run_assign (by conv => lhs; whnf)) rfl ?_
    refine lst_run (run_assign (by conv => lhs; whnf)) rfl ?_
    refine lst_done ?_
    refine goes_seq ?_
    refine goes_seq ?_
    refine goes_region ?_
    refine lst_run (run_move (by conv => lhs; whnf)) rfl ?_
    first
      | refine lst_run (run_neq_one_int rfl rfl) rfl ?_
      | refine lst_run (run_neq_no rfl rfl (by first | assumption | omega)) rfl ?_
      | refine lst_run (run_neq_yes rfl rfl (by omega)) rfl ?_
      | refine lst_run (rfl) rfl ?_
    refine lst_run (run_move (by conv => lhs; whnf)) rfl ?_
    refine lst_pass rfl rfl rfl ?_
    refine lst_pass rfl rfl rfl ?_
    first
      | refine lst_run (run_pick_t rfl (by conv => lhs; whnf)) rfl ?_
      | refine lst_run (run_pick_f rfl (by conv => lhs; whnf)) rfl ?_
    refine lst_done ?_
    refine goes_true rfl ?_
    refine goes_seq ?_
    refine goes_region ?_
    first
      | refine lst_run (run_loadN_own (k := 2) hS rfl rfl rfl (by first | exact .head | exact .tail .head | exact .tail (.tail .head) | exact .tail (.tail (.tail .head)) | exact .tail (.tail (.tail (.tail .head))) | exact .tail (.tail (.tail (.tail (.tail .head))))) (by repeat constructor)) rfl ?_
      | refine lst_run (run_load2 rfl rfl rfl (by first | assumption | exact hS.cell0 (by assumption)) (by first | assumption | exact hS.cell0 (by assumption))) rfl ?_
    first
      | refine lst_run (run_loadN_own (k := 2) hS rfl rfl rfl (by first | exact .head | exact .tail .head | exact .tail (.tail .head) | exact .tail (.tail (.tail .head)) | exact .tail (.tail (.tail (.tail .head))) | exact .tail (.tail (.tail (.tail (.tail .head))))) (by repeat constructor)) rfl ?_
      | refine lst_run (run_load2 rfl rfl rfl (by first | assumption | exact hS.cell0 (by assumption)) (by first | assumption | exact hS.cell0 (by assumption))) rfl ?_
    refine lst_enter (run_call (by kernel_rfl) (args_2 (by conv => lhs; whnf) (by conv => lhs; whnf))) rfl ?_
    refine Calls.mono (sameHeapK_eq h A3 B3 A B c3 d3 c d _ (hS.und hH3) (hS.und (hHu.mono hF3)) (by omega) (by omega)) ?_
    rintro _ w4 ⟨rfl, hb4⟩
    refine ⟨_, rfl, ?_⟩
    replace hS := hS.grow hb4
    refine lst_run (run_move (by conv => lhs; whnf)) rfl ?_
    refine lst_guard rfl rfl ?_
    refine lst_enter (run_call (by kernel_rfl) args_nil) rfl ?_
    refine Calls.mono (heapsK_any _) ?_
    rintro _ w5 ⟨rfl, hb5⟩
    refine ⟨_, rfl, ?_⟩
    replace hS := hS.grow hb5
    first
      | refine lst_run (run_pick_t rfl (by conv => lhs; whnf)) rfl ?_
      | refine lst_run (run_pick_f rfl (by conv => lhs; whnf)) rfl ?_
    refine lst_run (run_assign (by conv => lhs; whnf)) rfl ?_
    refine lst_done ?_
    refine goes_ret1 Try.func9 rfl (by conv => lhs; whnf) ?_
    exact ⟨rfl, hS.ext.below⟩
  cases hg : goodH h with
  | false => exact hbad 1 (by decide) (by unfold collectH; rw [if_pos hg])
  | true =>
  cases hra : R.all (isAddr h.cs) with
  | false => exact hbad 4 (by decide) (by unfold collectH; rw [if_neg (by rw [hg]; decide), if_pos hra])
  | true =>
  clear hbad
  have hlg := good_len hg
  have C : Cx h R (marksM h.cs R) := ⟨hg, marksM_of h.cs R⟩
  have e0 : collectH h R [] [] = (⟨collL (marksM h.cs R) h.cs, collT (marksM h.cs R) h.tr⟩, R.map (rkI (marksM h.cs R)), [], [], 0) := by
    unfold collectH; rw [if_neg (by rw [hg]; decide), if_neg (by rw [hra]; decide)]; rfl
  have hxg := C.kept_good
  refine goes_enter3 Try.func9 rfl Try.ntmps9 rfl ?_
  refine goes_seq ?_
  refine goes_region ?_
  refine lst_box hS rfl rfl ?_
  clear hS
  intro b1 wx1 hS
  refine lst_run (run_assign (by conv => lhs; whnf)) rfl ?_
  refine lst_done ?_
  refine goes_seq ?_
  refine goes_region ?_
  first
    | refine lst_run (run_loadN_own (k := 2) hS rfl rfl rfl (by first | exact .head | exact .tail .head | exact .tail (.tail .head) | exact .tail (.tail (.tail .head)) | exact .tail (.tail (.tail (.tail .head))) | exact .tail (.tail (.tail (.tail (.tail .head))))) (by repeat constructor)) rfl ?_
    | refine lst_run (run_load2 rfl rfl rfl (by first | assumption | exact hS.cell0 (by assumption)) (by first | assumption | exact hS.cell0 (by assumption))) rfl ?_
  refine lst_run (run_move (by conv => lhs; whnf)) rfl ?_
  refine lst_enter (run_call (by kernel_rfl) (args_4 (by conv => lhs; whnf) (by conv => lhs; whnf) (by conv => lhs; whnf) (by conv => lhs; whnf))) rfl ?_
  refine Calls.mono (collect_ok h R [] [] _ _ _ _ _ e0 A B RA none none c d rc 0 0 _ hHu hRu hz hz hRl (by simp) (by simp) hS) ?_
  rintro _ w3 ⟨A3, c3, B3, d3, a1, a2, a3, c31, c32, c33, F3, rfl, hF3, hH3, hA1, hA2, hA3, hS'⟩
  refine ⟨_, rfl, ?_⟩
  replace hS := hS'
  clear hS'
  have hkt := fun r hr => keep_term C hr (List.all_eq_true.1 hra r hr)
  have hkd := fun T hv => keep_tidy C (T := T) hv
  have hinj := C
  clear e0
  generalize marksM h.cs R = Mk at *
  generalize hX : (⟨collL Mk h.cs, collT Mk h.tr⟩ : HH) = X at *
  have hHz := hHu.mono hF3
  have hRz := hRu.mono hF3
  refine lst_run (run_move (by conv => lhs; whnf)) rfl ?_
  refine lst_run (run_extract rfl rfl) rfl ?_
  refine lst_run (run_extract rfl rfl) rfl ?_
  refine lst_run (run_extract rfl rfl) rfl ?_
  refine lst_run (run_extract rfl rfl) rfl ?_
  refine lst_run (run_extract rfl rfl) rfl ?_
  refine lst_alloc (cs := [_, _]) hS rfl rfl rfl ?_
  clear hS
  intro b2 wx2 hS
  refine lst_storeN hS rfl (by conv => lhs; whnf) rfl rfl (by first | exact .head | exact .tail .head | exact .tail (.tail .head) | exact .tail (.tail (.tail .head)) | exact .tail (.tail (.tail (.tail .head))) | exact .tail (.tail (.tail (.tail (.tail .head))))) (by repeat constructor) (by first | exact .head | exact .tail .head | exact .tail (.tail .head) | exact .tail (.tail (.tail .head)) | exact .tail (.tail (.tail (.tail .head))) | exact .tail (.tail (.tail (.tail (.tail .head))))) ?_
  clear hS
  intro wx3 hS
  refine lst_run (run_assign (by conv => lhs; whnf)) rfl ?_
  refine lst_run (run_assign (by conv => lhs; whnf)) rfl ?_
  refine lst_run (run_assign (by conv => lhs; whnf)) rfl ?_
  refine lst_run (run_assign (by conv => lhs; whnf)) rfl ?_
  refine lst_done ?_
  refine goes_seq ?_
  refine goes_seq ?_
  refine goes_region ?_
  refine lst_run (run_move (by conv => lhs; whnf)) rfl ?_
  first
    | refine lst_run (run_neq_one_int rfl rfl) rfl ?_
    | refine lst_run (run_neq_no rfl rfl (by first | assumption | omega)) rfl ?_
    | refine lst_run (run_neq_yes rfl rfl (by omega)) rfl ?_
    | refine lst_run (rfl) rfl ?_
  refine lst_run (run_move (by conv => lhs; whnf)) rfl ?_
  refine lst_guard rfl rfl ?_
  refine lst_enter (run_call (by kernel_rfl) args_nil) rfl ?_
  refine Calls.mono (heapsK_any _) ?_
  rintro _ w4 ⟨rfl, hb4⟩
  refine ⟨_, rfl, ?_⟩
  replace hS := hS.grow hb4
  refine lst_guard rfl rfl ?_
  refine lst_run (rfl) rfl ?_
  first
    | refine lst_run (run_pick_t rfl (by conv => lhs; whnf)) rfl ?_
    | refine lst_run (run_pick_f rfl (by conv => lhs; whnf)) rfl ?_
  refine lst_done ?_
  refine goes_false rfl ?_
  refine goes_skip ?_
  refine goes_seq ?_
  refine goes_region ?_
  refine lst_run (run_move (by conv => lhs; whnf)) rfl ?_
  refine lst_enter (run_call (by kernel_rfl) (args_2 (by conv => lhs; whnf) (by conv => lhs; whnf))) rfl ?_
  refine Calls.mono (pickN_any most 500 (by omega) (by omega) _) ?_
  rintro _ w5 ⟨mm, rfl, hm0, hm1, rfl⟩
  refine ⟨_, rfl, ?_⟩
  have hmN : mostN mm ≤ 499 := by unfold mostN; omega
  refine lst_run (run_assign (by conv => lhs; whnf)) rfl ?_
  refine lst_done ?_
  refine goes_seq ?_
  refine goes_region ?_
  refine lst_run (run_assign (by conv => lhs; whnf)) rfl ?_
  refine lst_run (run_assign (by conv => lhs; whnf)) rfl ?_
  refine lst_done ?_
  refine goes_seq ?_
  refine goes_seq ?_
  refine goes_region ?_
  refine lst_run (run_move (by conv => lhs; whnf)) rfl ?_
  refine lst_run (run_len_slice rfl rfl rfl) rfl ?_
  refine lst_run (run_move (by conv => lhs; whnf)) rfl ?_
  refine lst_done ?_
  refine goes_block ?_
  refine goes_loop3 47 12 13 (48 :: 49 :: 50 :: 51 :: 14 :: 15 :: 53 :: 54 :: 55 :: 56 :: 52 :: 57 :: 58 :: 59 :: 16 :: 17 :: 18 :: 61 :: 62 :: 63 :: 64 :: 65 :: 66 :: 67 :: 60 :: 68 :: 69 :: 70 :: 19 :: 20 :: 21 :: 71 :: 72 :: 73 :: 74 :: 75 :: 76 :: 77 :: 78 :: 6 :: 79 :: 80 :: 81 :: 82 :: 83 :: 84 :: 85 :: 86 :: 87 :: 88 :: 89 :: []) (fun (Q : List Int) v u y w' => ∃ (D : List Int) (Ta Tb : TA) (Aa Ab : Option Addr) (ca cb : Nat) (Oa Ob : List (Nat × Obj)) (F' : List (World → Prop)), R = D ++ Q ∧ v = .int .i64 (D.length : Nat) ∧ u = .slice Aa Ta.len ca ∧ y = .slice Ab Tb.len cb ∧ Ta.len ≤ D.length ∧ Tb.ts = Ta.ts.by_ (rkI Mk) ∧ Ta.ts.vars (Rc h.cs R) ∧ Ta.ts.nodes ≤ 500 * D.length ∧ (∀ φ ∈ F3, φ ∈ F') ∧ Und F' (AllR Ta) ∧ Und F' (AllR Tb) ∧ Rw 39 4 (.slice Aa Ta.len ca) Ta.len (tcsL Ta) Oa ∧ Rw 39 4 (.slice Ab Tb.len cb) Tb.len (tcsL Tb) Ob ∧ St [] w ((b2, hob A3 X.cs.length c3 B3 X.tr.length d3) :: (b1, hob A h.cs.length c B h.tr.length d) :: (Oa ++ (Ob ++ []))) F' w') (fun Q => Q.length) (R) ?_ (by conv => lhs; whnf) (by conv => lhs; whnf) (by conv => lhs; whnf) ?_
  · exact ⟨[], .nil, .nil, none, none, 0, 0, [], [], F3, rfl, rfl, rfl, rfl, by simp [TA.len], rfl, trivial, by simp [TA.ts, Ts.nodes], fun _ h => h, fun _ _ => trivial, fun _ _ => trivial, Rw.zero_, Rw.zero_, hS⟩
  clear hS
  rintro Q _ _ _ w6 jv ⟨D, Ta, Tb, Aa, Ab, ca, cb, Oa, Ob, F', hD, rfl, rfl, rfl, hTl, hby, hvr, hnd, hFF, hAa, hAb, hrowa, hrowb, hS⟩ ih
  have hlen : R.length = D.length + Q.length := by rw [hD]; simp
  have hTbl : Tb.len = Ta.len := by rw [← TA.len_ts, ← TA.len_ts, hby, Ts.length_by]
  cases Q with
  | nil =>
    simp only [List.length_nil] at hlen
    obtain ⟨F8, hF8, hA8, hS8⟩ := St.freezeW hrowa hAa (hS.perm (List.perm_append_comm_assoc [_, _] Oa _))
    clear hS
    obtain ⟨F9, hF9, hA9, hS⟩ := St.freezeW hrowb (hAb.mono hF8) (hS8.perm (List.perm_append_comm_assoc [_, _] Ob _))
    clear hS8
    have hF39 : ∀ φ ∈ F3, φ ∈ F9 := fun φ h => hF9 φ (hF8 φ (hFF φ h))
    have hRm : (R.map (rkI Mk)).length = R.length := by simp
    have htd : Tb.ts.tidy = Ta.ts.tidy := by rw [hby]; exact hkd Ta.ts hvr
    have hnb : Tb.ts.nodes = Ta.ts.nodes := by rw [hby, Ts.nodes_by]
    have hnt : Ta.ts.tidy.nodes = Ta.ts.nodes := Ts.nodes_ren _ Ta.ts []
    refine goes_seq ?_
    refine goes_region ?_
    first
      | refine lst_run (run_lss_yes rfl rfl (by omega)) rfl ?_
      | refine lst_run (run_lss_no rfl rfl (by omega)) rfl ?_
      | refine lst_run (rfl) rfl ?_
    refine lst_done ?_
    refine goes_seq ?_
    refine goes_false rfl ?_
    refine goes_exit rfl ?_
    refine goes_seq ?_
    refine goes_region ?_
    refine lst_run (run_move (by conv => lhs; whnf)) rfl ?_
    refine lst_run (run_len_slice rfl rfl rfl) rfl ?_
    refine lst_run (run_move (by conv => lhs; whnf)) rfl ?_
    refine lst_run (run_len_slice rfl rfl rfl) rfl ?_
    first
      | refine lst_run (run_eql_one_int rfl rfl) rfl ?_
      | refine lst_run (run_eql_no rfl rfl (by first | assumption | omega)) rfl ?_
      | refine lst_run (run_eql_yes rfl rfl (by omega)) rfl ?_
      | refine lst_run (rfl) rfl ?_
    refine lst_run (run_move (by conv => lhs; whnf)) rfl ?_
    refine lst_guard rfl rfl ?_
    refine lst_run (run_move (by conv => lhs; whnf)) rfl ?_
    refine lst_guard rfl rfl ?_
    refine lst_enter (run_call (by kernel_rfl) (args_1 (by conv => lhs; whnf))) rfl ?_
    refine Calls.mono (tidy_any Ta.ts (.slice Aa Ta.len ca) _ ((hS.und (hA8.mono hF9)).sl) (by omega)) ?_
    rintro _ w7 ⟨v7, rfl, hsl7, hlow7⟩
    refine ⟨_, rfl, ?_⟩
    obtain ⟨A7, c7, L7, rfl, hL7, hS'⟩ := hS.located hlow7 hsl7
    replace hS := hS'
    clear hS'
    refine lst_guard rfl rfl ?_
    refine lst_run (run_move (by conv => lhs; whnf)) rfl ?_
    refine lst_guard rfl rfl ?_
    refine lst_enter (run_call (by kernel_rfl) (args_1 (by conv => lhs; whnf))) rfl ?_
    refine Calls.mono (tidy_any Tb.ts (.slice Ab Tb.len cb) _ ((hS.und hA9.tail).sl) (by omega)) ?_
    rintro _ w8 ⟨v8, rfl, hsl8, hlow8⟩
    refine ⟨_, rfl, ?_⟩
    obtain ⟨A8, c8, L8, rfl, hL8, hS'⟩ := hS.located hlow8 hsl8
    replace hS := hS'
    clear hS'
    have hsm := K.sameTerms_any L7.ts L8.ts (.slice A7 L7.len c7) (.slice A8 L8.len c8) _ ((hS.fact (.tail _ (.head _))).sl) ((hS.fact (.head _)).sl) (by rw [hL7, hnt]; omega) (by rw [hL8, htd, hnt]; omega)
    rw [show L7.ts.same L8.ts = true by rw [hL7, hL8, htd]; exact (Ts.same_iff _ _).2 rfl] at hsm
    refine lst_guard rfl rfl ?_
    refine lst_enter (run_call (by kernel_rfl) (args_2 (by conv => lhs; whnf) (by conv => lhs; whnf))) rfl ?_
    refine Calls.mono (hsm) ?_
    rintro _ w9 ⟨rfl, hb9⟩
    refine ⟨_, rfl, ?_⟩
    replace hS := hS.grow hb9
    first
      | refine lst_run (run_pick_t rfl (by conv => lhs; whnf)) rfl ?_
      | refine lst_run (run_pick_f rfl (by conv => lhs; whnf)) rfl ?_
    refine lst_run (run_move (by conv => lhs; whnf)) rfl ?_
    refine lst_guard rfl rfl ?_
    first
      | refine lst_run (run_loadN_own (k := 2) hS rfl rfl rfl (by first | exact .head | exact .tail .head | exact .tail (.tail .head) | exact .tail (.tail (.tail .head)) | exact .tail (.tail (.tail (.tail .head))) | exact .tail (.tail (.tail (.tail (.tail .head))))) (by repeat constructor)) rfl ?_
      | refine lst_run (run_load2 rfl rfl rfl (by first | assumption | exact hS.cell0 (by assumption)) (by first | assumption | exact hS.cell0 (by assumption))) rfl ?_
    refine lst_guard rfl rfl ?_
    have hgd := fun w hS => good_any X A3 B3 c3 d3 w hS
    rw [hxg] at hgd
    refine lst_enter (run_call (by kernel_rfl) (args_1 (by conv => lhs; whnf))) rfl ?_
    refine Calls.mono (hgd _ (hS.und ((hH3.mono hF39).tail.tail))) ?_
    rintro _ w10 ⟨rfl, hb10⟩
    refine ⟨_, rfl, ?_⟩
    replace hS := hS.grow hb10
    first
      | refine lst_run (run_pick_t rfl (by conv => lhs; whnf)) rfl ?_
      | refine lst_run (run_pick_f rfl (by conv => lhs; whnf)) rfl ?_
    refine lst_run (run_assign (by conv => lhs; whnf)) rfl ?_
    refine lst_done ?_
    refine goes_ret1 Try.func9 rfl (by conv => lhs; whnf) ?_
    exact ⟨rfl, hS.ext.below⟩
  | cons x Q =>
    simp only [List.length_cons] at hlen
    have hxi : R[D.length]? = some x := by rw [hD]; simp
    have hHf := hHz.mono hFF
    have hRf := hRz.mono hFF
    have hXf := hH3.mono hFF
    have hAf := hA1.mono hFF
    obtain ⟨bt, ot, rfl⟩ := (hS.und hRf).some_ (by omega)
    obtain ⟨bu, ou, rfl⟩ := (hS.und hAf).some_ (by simp; omega)
    have hct : ∀ {H'} w', St [] w H' F' w' → w'.cell? ⟨bt, ot + ((D.length : Nat) : Int).toNat * 1, none⟩ = some (.int .i64 x) := fun w' hS => by
      have := (hS.und hRf).int hxi
      rw [show ((D.length : Nat) : Int).toNat = D.length by omega]; exact this
    have hRm : (R.map (rkI Mk)).length = R.length := by simp
    rcases hkt x (by rw [hD]; simp) mm with ⟨h3, h4⟩ | ⟨t, n, h3, h4, h5, h6⟩
    · refine goes_seq ?_
      refine goes_region ?_
      first
        | refine lst_run (run_lss_yes rfl rfl (by omega)) rfl ?_
        | refine lst_run (run_lss_no rfl rfl (by omega)) rfl ?_
        | refine lst_run (rfl) rfl ?_
      refine lst_done ?_
      refine goes_seq ?_
      refine goes_true rfl ?_
      refine goes_skip ?_
      refine goes_seq ?_
      refine goes_block ?_
      refine goes_seq ?_
      refine goes_region ?_
      refine lst_run (run_move (by conv => lhs; whnf)) rfl ?_
      refine lst_run (run_indexAddr (sz := 1) rfl rfl rfl rfl (by omega) (by omega)) rfl ?_
      first
        | refine lst_run (run_load1_own hS rfl rfl (by first | exact .head | exact .tail .head | exact .tail (.tail .head) | exact .tail (.tail (.tail .head)) | exact .tail (.tail (.tail (.tail .head))) | exact .tail (.tail (.tail (.tail (.tail .head))))) (by repeat constructor)) rfl ?_
        | refine lst_run (run_load1 rfl rfl (by first | assumption | exact hct _ hS | exact hS.cell0 (by assumption) | exact lv_next hS | exact lv_list hS)) rfl ?_
      refine lst_run (run_assign (by conv => lhs; whnf)) rfl ?_
      refine lst_run (run_assign (by conv => lhs; whnf)) rfl ?_
      refine lst_done ?_
      refine goes_seq ?_
      refine goes_region ?_
      first
        | refine lst_run (run_loadN_own (k := 2) hS rfl rfl rfl (by first | exact .head | exact .tail .head | exact .tail (.tail .head) | exact .tail (.tail (.tail .head)) | exact .tail (.tail (.tail (.tail .head))) | exact .tail (.tail (.tail (.tail (.tail .head))))) (by repeat constructor)) rfl ?_
        | refine lst_run (run_load2 rfl rfl rfl (by first | assumption | exact hct _ hS | exact hS.cell0 (by assumption)) (by first | assumption | exact hct _ hS | exact hS.cell0 (by assumption))) rfl ?_
      refine lst_run (run_move (by conv => lhs; whnf)) rfl ?_
      refine lst_run (run_move (by conv => lhs; whnf)) rfl ?_
      refine lst_enter (run_call (by kernel_rfl) (args_3 (by conv => lhs; whnf) (by conv => lhs; whnf) (by conv => lhs; whnf))) rfl ?_
      refine Calls.mono (term_to h x mm _ _ _ h3 A B c d _ hHf hS) ?_
      rintro _ w7 ⟨t7, F7, rfl, ht7, hF7, hr7, hS'⟩
      refine ⟨_, rfl, ?_⟩
      replace hS := hS'
      clear hS'
      have hcu : ∀ {H'} w', St [] w H' F7 w' → w'.cell? ⟨bu, ou + ((D.length : Nat) : Int).toNat * 1, none⟩ = some (.int .i64 (rkI Mk x)) := fun w' hS => by
        have := (hS.und (hAf.mono hF7)).int (i := D.length) (by rw [List.getElem?_map, hxi]; rfl)
        rw [show ((D.length : Nat) : Int).toNat = D.length by omega]; exact this
      refine lst_run (run_move (by conv => lhs; whnf)) rfl ?_
      refine lst_run (run_extract rfl rfl) rfl ?_
      refine lst_run (run_extract rfl rfl) rfl ?_
      refine lst_run (run_extract rfl rfl) rfl ?_
      refine lst_alloc (cs := [_, _, _, _]) hS rfl rfl rfl ?_
      clear hS
      intro b3 wx4 hS
      refine lst_storeN hS rfl (by conv => lhs; whnf) rfl rfl (by first | exact .head | exact .tail .head | exact .tail (.tail .head) | exact .tail (.tail (.tail .head)) | exact .tail (.tail (.tail (.tail .head))) | exact .tail (.tail (.tail (.tail (.tail .head))))) (by repeat constructor) (by first | exact .head | exact .tail .head | exact .tail (.tail .head) | exact .tail (.tail (.tail .head)) | exact .tail (.tail (.tail (.tail .head))) | exact .tail (.tail (.tail (.tail (.tail .head))))) ?_
      clear hS
      intro wx5 hS
      refine lst_run (run_assign (by conv => lhs; whnf)) rfl ?_
      refine lst_run (run_assign (by conv => lhs; whnf)) rfl ?_
      refine lst_done ?_
      refine goes_seq ?_
      refine goes_meet3 19 20 21 (61 :: 62 :: 63 :: 64 :: 65 :: 66 :: 67 :: 60 :: 68 :: 69 :: 70 :: []) (fun v v2 v3 w' => ∃ b4 t8 F8, v = .pointer (some ⟨b4, 0, none⟩) ∧ v2 = .int .i64 ((0 : Nat) : Int) ∧ v3 = .int .i64 3 ∧ (∀ φ ∈ F7, φ ∈ F8) ∧ St [] w ((b4, .cells (tcs t8).toArray 39) :: (b3, .cells (tcs t7).toArray 39) :: (b2, hob A3 X.cs.length c3 B3 X.tr.length d3) :: (b1, hob A h.cs.length c B h.tr.length d) :: (Oa ++ (Ob ++ []))) F8 w') ?_ ?_
      · intro hmeet
        refine goes_plan (St _ _ _ _) 15 (.read 0 (.read 1 (.read 2 (.read 3 (.read 4 (.read 5 (.pick 6 (.read 7 (.read 8 (.read 9 (.read 10 (.pick 11 (.pick 12 (.read 13 (.read 14 .tail)) .none) .none))))) (.pick 11 (.pick 6 (.read 7 (.read 8 (.read 9 (.read 10 (.pick 12 (.read 13 (.read 14 .tail)) .none))))) .none) .none)))))))) (by kernel_rfl) (by kernel_rfl) hS.drew ?_
        replace hS := hS.drew
        first
          | refine pln_read rfl (fun _ hS => run_loadN_own (k := 2) hS rfl rfl rfl (by first | exact .head | exact .tail .head | exact .tail (.tail .head) | exact .tail (.tail (.tail .head)) | exact .tail (.tail (.tail (.tail .head))) | exact .tail (.tail (.tail (.tail (.tail .head))))) (by repeat constructor)) rfl ?_
          | refine pln_read rfl (fun _ hS => run_load2 rfl rfl rfl (by first | assumption | exact hcu _ hS | exact hS.cell0 (by assumption)) (by first | assumption | exact hcu _ hS | exact hS.cell0 (by assumption))) rfl ?_
        refine pln_read rfl (fun _ hS => run_move (by conv => lhs; whnf)) rfl ?_
        refine pln_read rfl (fun _ hS => run_move (by conv => lhs; whnf)) rfl ?_
        refine pln_read rfl (fun _ hS => run_indexAddr (sz := 1) rfl rfl rfl rfl (by omega) (by omega)) rfl ?_
        first
          | refine pln_read rfl (fun _ hS => run_load1_own hS rfl rfl (by first | exact .head | exact .tail .head | exact .tail (.tail .head) | exact .tail (.tail (.tail .head)) | exact .tail (.tail (.tail (.tail .head))) | exact .tail (.tail (.tail (.tail (.tail .head))))) (by repeat constructor)) rfl ?_
          | refine pln_read rfl (fun _ hS => run_load1 rfl rfl (by first | assumption | exact hcu _ hS | exact hS.cell0 (by assumption) | exact lv_next hS | exact lv_list hS)) rfl ?_
        refine pln_read rfl (fun _ hS => run_move (by conv => lhs; whnf)) rfl ?_
        refine pln_pick rfl ?_ ?_
        · refine lst_enter (run_call (by kernel_rfl) (args_3 (by conv => lhs; whnf) (by conv => lhs; whnf) (by conv => lhs; whnf))) rfl ?_
          refine Calls.mono (term_to X (rkI Mk x) mm _ _ _ h4 A3 B3 c3 d3 _ (hXf.mono hF7) hS) ?_
          rintro _ w8 ⟨t8, F8, rfl, ht8, hF8, hr8, hS'⟩
          refine ⟨_, rfl, ?_⟩
          replace hS := hS'
          clear hS'
          refine lst_pln (by first | exact hS | exact hS.drop | exact hS.drop.drop | exact hS.drop.drop.drop | exact hS.unlearn | exact hS.unlearn.drop | exact hS.unlearn.drop.drop | exact hS.forget hF8 | exact hS.drop.forget hF8) ?_
          refine pln_read rfl (fun _ hS => run_move (by conv => lhs; whnf)) rfl ?_
          refine pln_read rfl (fun _ hS => run_extract rfl rfl) rfl ?_
          refine pln_read rfl (fun _ hS => run_extract rfl rfl) rfl ?_
          refine pln_read rfl (fun _ hS => run_extract rfl rfl) rfl ?_
          refine pln_last rfl ?_
          refine lst_alloc (cs := [_, _, _, _]) hS rfl rfl rfl ?_
          clear hS
          intro b4 wx6 hS
          refine lst_pln (by first | exact hS | exact hS.drop | exact hS.drop.drop | exact hS.drop.drop.drop | exact hS.unlearn | exact hS.unlearn.drop | exact hS.unlearn.drop.drop | exact hS.forget hF8 | exact hS.drop.forget hF8) ?_
          refine pln_last rfl ?_
          refine lst_storeN hS rfl (by conv => lhs; whnf) rfl rfl (by first | exact .head | exact .tail .head | exact .tail (.tail .head) | exact .tail (.tail (.tail .head)) | exact .tail (.tail (.tail (.tail .head))) | exact .tail (.tail (.tail (.tail (.tail .head))))) (by repeat constructor) (by first | exact .head | exact .tail .head | exact .tail (.tail .head) | exact .tail (.tail (.tail .head)) | exact .tail (.tail (.tail (.tail .head))) | exact .tail (.tail (.tail (.tail (.tail .head))))) ?_
          clear hS
          intro wx7 hS
          refine lst_pln (by first | exact hS | exact hS.drop | exact hS.drop.drop | exact hS.drop.drop.drop | exact hS.unlearn | exact hS.unlearn.drop | exact hS.unlearn.drop.drop | exact hS.forget hF8 | exact hS.drop.forget hF8) ?_
          refine pln_read rfl (fun _ hS => run_assign (by conv => lhs; whnf)) rfl ?_
          refine pln_read rfl (fun _ hS => run_assign (by conv => lhs; whnf)) rfl ?_
          refine pln_tail ?_
          refine lst_done ?_
          exact hmeet _ _ _ _ _ ⟨_, t8, F8, rfl, rfl, rfl, hF8, hS⟩ (by conv => lhs; whnf) (by conv => lhs; whnf) (by conv => lhs; whnf) (by kernel_rfl)
        refine pln_last rfl ?_
        refine lst_alloc (cs := [_, _, _, _]) hS rfl rfl rfl ?_
        clear hS
        intro b5 wx8 hS
        refine lst_pln (by first | exact hS | exact hS.drop | exact hS.drop.drop | exact hS.drop.drop.drop | exact hS.unlearn | exact hS.unlearn.drop | exact hS.unlearn.drop.drop | exact hS.forget hF8 | exact hS.drop.forget hF8) ?_
        refine pln_last rfl ?_
        refine lst_enter (run_call (by kernel_rfl) (args_3 (by conv => lhs; whnf) (by conv => lhs; whnf) (by conv => lhs; whnf))) rfl ?_
        refine Calls.mono (term_to X (rkI Mk x) mm _ _ _ h4 A3 B3 c3 d3 _ (hXf.mono hF7) hS) ?_
        rintro _ w8 ⟨t8, F8, rfl, ht8, hF8, hr8, hS'⟩
        refine ⟨_, rfl, ?_⟩
        replace hS := hS'
        clear hS'
        refine lst_pln (by first | exact hS | exact hS.drop | exact hS.drop.drop | exact hS.drop.drop.drop | exact hS.unlearn | exact hS.unlearn.drop | exact hS.unlearn.drop.drop | exact hS.forget hF8 | exact hS.drop.forget hF8) ?_
        refine pln_read rfl (fun _ hS => run_move (by conv => lhs; whnf)) rfl ?_
        refine pln_read rfl (fun _ hS => run_extract rfl rfl) rfl ?_
        refine pln_read rfl (fun _ hS => run_extract rfl rfl) rfl ?_
        refine pln_read rfl (fun _ hS => run_extract rfl rfl) rfl ?_
        refine pln_last rfl ?_
        refine lst_storeN hS rfl (by conv => lhs; whnf) rfl rfl (by first | exact .head | exact .tail .head | exact .tail (.tail .head) | exact .tail (.tail (.tail .head)) | exact .tail (.tail (.tail (.tail .head))) | exact .tail (.tail (.tail (.tail (.tail .head))))) (by repeat constructor) (by first | exact .head | exact .tail .head | exact .tail (.tail .head) | exact .tail (.tail (.tail .head)) | exact .tail (.tail (.tail (.tail .head))) | exact .tail (.tail (.tail (.tail (.tail .head))))) ?_
        clear hS
        intro wx9 hS
        refine lst_pln (by first | exact hS | exact hS.drop | exact hS.drop.drop | exact hS.drop.drop.drop | exact hS.unlearn | exact hS.unlearn.drop | exact hS.unlearn.drop.drop | exact hS.forget hF8 | exact hS.drop.forget hF8) ?_
        refine pln_read rfl (fun _ hS => run_assign (by conv => lhs; whnf)) rfl ?_
        refine pln_read rfl (fun _ hS => run_assign (by conv => lhs; whnf)) rfl ?_
        refine pln_tail ?_
        refine lst_done ?_
        exact hmeet _ _ _ _ _ ⟨_, t8, F8, rfl, rfl, rfl, hF8, hS⟩ (by conv => lhs; whnf) (by conv => lhs; whnf) (by conv => lhs; whnf) (by kernel_rfl)
      clear hS
      rintro jv2 _ _ _ w9 ⟨b4, t8, F8, rfl, rfl, rfl, hF8, hS⟩
      refine goes_seq ?_
      refine goes_seq ?_
      refine goes_region ?_
      refine lst_run (run_move (by conv => lhs; whnf)) rfl ?_
      refine lst_run (run_move (by conv => lhs; whnf)) rfl ?_
      first
        | refine lst_run (run_neq_one_int rfl rfl) rfl ?_
        | refine lst_run (run_neq_no rfl rfl (by first | assumption | omega)) rfl ?_
        | refine lst_run (run_neq_yes rfl rfl (by omega)) rfl ?_
        | refine lst_run (rfl) rfl ?_
      refine lst_run (run_move (by conv => lhs; whnf)) rfl ?_
      refine lst_guard rfl rfl ?_
      refine lst_run (run_move (by conv => lhs; whnf)) rfl ?_
      refine lst_guard rfl rfl ?_
      refine lst_run (run_move (by conv => lhs; whnf)) rfl ?_
      refine lst_guard rfl rfl ?_
      first
        | refine lst_run (run_neq_one_int rfl rfl) rfl ?_
        | refine lst_run (run_neq_no rfl rfl (by first | assumption | omega)) rfl ?_
        | refine lst_run (run_neq_yes rfl rfl (by omega)) rfl ?_
        | refine lst_run (rfl) rfl ?_
      first
        | refine lst_run (run_pick_t rfl (by conv => lhs; whnf)) rfl ?_
        | refine lst_run (run_pick_f rfl (by conv => lhs; whnf)) rfl ?_
      refine lst_done ?_
      refine goes_false rfl ?_
      refine goes_skip ?_
      refine goes_seq ?_
      refine goes_region ?_
      refine lst_run (run_move (by conv => lhs; whnf)) rfl ?_
      first
        | refine lst_run (run_eql_one_int rfl rfl) rfl ?_
        | refine lst_run (run_eql_no rfl rfl (by first | assumption | omega)) rfl ?_
        | refine lst_run (run_eql_yes rfl rfl (by omega)) rfl ?_
        | refine lst_run (rfl) rfl ?_
      refine lst_done ?_
      refine goes_false rfl ?_
      refine goes_skip ?_
      refine goes_inBlock ?_
      refine goes_region ?_
      refine lst_run (run_add rfl rfl (by omega) (by omega)) rfl ?_
      refine lst_run (run_move (by conv => lhs; whnf)) rfl ?_
      refine lst_done ?_
      refine ih Q _ _ _ _ _ ?_ ?_ (by conv => lhs; whnf) (by conv => lhs; whnf) (by conv => lhs; whnf) (by kernel_rfl)
      · simp
      · exact ⟨D ++ [x], Ta, Tb, Aa, Ab, ca, cb, Oa, Ob, F8, by rw [hD]; simp, by simp, rfl, rfl, by simp; omega, hby, hvr, by simp; omega, fun φ h => hF8 φ (hF7 φ (hFF φ h)), hAa.mono (fun φ h => hF8 φ (hF7 φ h)), hAb.mono (fun φ h => hF8 φ (hF7 φ h)), hrowa, hrowb, hS.drop.drop⟩
    · refine goes_seq ?_
      refine goes_region ?_
      first
        | refine lst_run (run_lss_yes rfl rfl (by omega)) rfl ?_
        | refine lst_run (run_lss_no rfl rfl (by omega)) rfl ?_
        | refine lst_run (rfl) rfl ?_
      refine lst_done ?_
      refine goes_seq ?_
      refine goes_true rfl ?_
      refine goes_skip ?_
      refine goes_seq ?_
      refine goes_block ?_
      refine goes_seq ?_
      refine goes_region ?_
      refine lst_run (run_move (by conv => lhs; whnf)) rfl ?_
      refine lst_run (run_indexAddr (sz := 1) rfl rfl rfl rfl (by omega) (by omega)) rfl ?_
      first
        | refine lst_run (run_load1_own hS rfl rfl (by first | exact .head | exact .tail .head | exact .tail (.tail .head) | exact .tail (.tail (.tail .head)) | exact .tail (.tail (.tail (.tail .head))) | exact .tail (.tail (.tail (.tail (.tail .head))))) (by repeat constructor)) rfl ?_
        | refine lst_run (run_load1 rfl rfl (by first | assumption | exact hct _ hS | exact hS.cell0 (by assumption) | exact lv_next hS | exact lv_list hS)) rfl ?_
      refine lst_run (run_assign (by conv => lhs; whnf)) rfl ?_
      refine lst_run (run_assign (by conv => lhs; whnf)) rfl ?_
      refine lst_done ?_
      refine goes_seq ?_
      refine goes_region ?_
      first
        | refine lst_run (run_loadN_own (k := 2) hS rfl rfl rfl (by first | exact .head | exact .tail .head | exact .tail (.tail .head) | exact .tail (.tail (.tail .head)) | exact .tail (.tail (.tail (.tail .head))) | exact .tail (.tail (.tail (.tail (.tail .head))))) (by repeat constructor)) rfl ?_
        | refine lst_run (run_load2 rfl rfl rfl (by first | assumption | exact hct _ hS | exact hS.cell0 (by assumption)) (by first | assumption | exact hct _ hS | exact hS.cell0 (by assumption))) rfl ?_
      refine lst_run (run_move (by conv => lhs; whnf)) rfl ?_
      refine lst_run (run_move (by conv => lhs; whnf)) rfl ?_
      refine lst_enter (run_call (by kernel_rfl) (args_3 (by conv => lhs; whnf) (by conv => lhs; whnf) (by conv => lhs; whnf))) rfl ?_
      refine Calls.mono (term_to h x mm _ _ _ h3 A B c d _ hHf hS) ?_
      rintro _ w7 ⟨t7, F7, rfl, ht7, hF7, hr7, hS'⟩
      refine ⟨_, rfl, ?_⟩
      replace hS := hS'
      clear hS'
      have hcu : ∀ {H'} w', St [] w H' F7 w' → w'.cell? ⟨bu, ou + ((D.length : Nat) : Int).toNat * 1, none⟩ = some (.int .i64 (rkI Mk x)) := fun w' hS => by
        have := (hS.und (hAf.mono hF7)).int (i := D.length) (by rw [List.getElem?_map, hxi]; rfl)
        rw [show ((D.length : Nat) : Int).toNat = D.length by omega]; exact this
      refine lst_run (run_move (by conv => lhs; whnf)) rfl ?_
      refine lst_run (run_extract rfl rfl) rfl ?_
      refine lst_run (run_extract rfl rfl) rfl ?_
      refine lst_run (run_extract rfl rfl) rfl ?_
      refine lst_alloc (cs := [_, _, _, _]) hS rfl rfl rfl ?_
      clear hS
      intro b3 wx4 hS
      refine lst_storeN hS rfl (by conv => lhs; whnf) rfl rfl (by first | exact .head | exact .tail .head | exact .tail (.tail .head) | exact .tail (.tail (.tail .head)) | exact .tail (.tail (.tail (.tail .head))) | exact .tail (.tail (.tail (.tail (.tail .head))))) (by repeat constructor) (by first | exact .head | exact .tail .head | exact .tail (.tail .head) | exact .tail (.tail (.tail .head)) | exact .tail (.tail (.tail (.tail .head))) | exact .tail (.tail (.tail (.tail (.tail .head))))) ?_
      clear hS
      intro wx5 hS
      refine lst_run (run_assign (by conv => lhs; whnf)) rfl ?_
      refine lst_run (run_assign (by conv => lhs; whnf)) rfl ?_
      refine lst_done ?_
      refine goes_seq ?_
      refine goes_meet3 19 20 21 (61 :: 62 :: 63 :: 64 :: 65 :: 66 :: 67 :: 60 :: 68 :: 69 :: 70 :: []) (fun v v2 v3 w' => ∃ b4 t8 F8, v = .pointer (some ⟨b4, 0, none⟩) ∧ v2 = .int .i64 ((n : Nat) : Int) ∧ v3 = .int .i64 0 ∧ t8.tm = t.by_ (rkI Mk) ∧ (∀ φ ∈ F7, φ ∈ F8) ∧ Und F8 (LRd t8) ∧ St [] w ((b4, .cells (tcs t8).toArray 39) :: (b3, .cells (tcs t7).toArray 39) :: (b2, hob A3 X.cs.length c3 B3 X.tr.length d3) :: (b1, hob A h.cs.length c B h.tr.length d) :: (Oa ++ (Ob ++ []))) F8 w') ?_ ?_
      · intro hmeet
        refine goes_plan (St _ _ _ _) 15 (.read 0 (.read 1 (.read 2 (.read 3 (.read 4 (.read 5 (.pick 6 (.read 7 (.read 8 (.read 9 (.read 10 (.pick 11 (.pick 12 (.read 13 (.read 14 .tail)) .none) .none))))) (.pick 11 (.pick 6 (.read 7 (.read 8 (.read 9 (.read 10 (.pick 12 (.read 13 (.read 14 .tail)) .none))))) .none) .none)))))))) (by kernel_rfl) (by kernel_rfl) hS.drew ?_
        replace hS := hS.drew
        first
          | refine pln_read rfl (fun _ hS => run_loadN_own (k := 2) hS rfl rfl rfl (by first | exact .head | exact .tail .head | exact .tail (.tail .head) | exact .tail (.tail (.tail .head)) | exact .tail (.tail (.tail (.tail .head))) | exact .tail (.tail (.tail (.tail (.tail .head))))) (by repeat constructor)) rfl ?_
          | refine pln_read rfl (fun _ hS => run_load2 rfl rfl rfl (by first | assumption | exact hcu _ hS | exact hS.cell0 (by assumption)) (by first | assumption | exact hcu _ hS | exact hS.cell0 (by assumption))) rfl ?_
        refine pln_read rfl (fun _ hS => run_move (by conv => lhs; whnf)) rfl ?_
        refine pln_read rfl (fun _ hS => run_move (by conv => lhs; whnf)) rfl ?_
        refine pln_read rfl (fun _ hS => run_indexAddr (sz := 1) rfl rfl rfl rfl (by omega) (by omega)) rfl ?_
        first
          | refine pln_read rfl (fun _ hS => run_load1_own hS rfl rfl (by first | exact .head | exact .tail .head | exact .tail (.tail .head) | exact .tail (.tail (.tail .head)) | exact .tail (.tail (.tail (.tail .head))) | exact .tail (.tail (.tail (.tail (.tail .head))))) (by repeat constructor)) rfl ?_
          | refine pln_read rfl (fun _ hS => run_load1 rfl rfl (by first | assumption | exact hcu _ hS | exact hS.cell0 (by assumption) | exact lv_next hS | exact lv_list hS)) rfl ?_
        refine pln_read rfl (fun _ hS => run_move (by conv => lhs; whnf)) rfl ?_
        refine pln_pick rfl ?_ ?_
        · refine lst_enter (run_call (by kernel_rfl) (args_3 (by conv => lhs; whnf) (by conv => lhs; whnf) (by conv => lhs; whnf))) rfl ?_
          refine Calls.mono (term_to X (rkI Mk x) mm _ _ _ h4 A3 B3 c3 d3 _ (hXf.mono hF7) hS) ?_
          rintro _ w8 ⟨t8, F8, rfl, ht8, hF8, hr8, hS'⟩
          refine ⟨_, rfl, ?_⟩
          replace hS := hS'
          clear hS'
          refine lst_pln (by first | exact hS | exact hS.drop | exact hS.drop.drop | exact hS.drop.drop.drop | exact hS.unlearn | exact hS.unlearn.drop | exact hS.unlearn.drop.drop | exact hS.forget hF8 | exact hS.drop.forget hF8) ?_
          refine pln_read rfl (fun _ hS => run_move (by conv => lhs; whnf)) rfl ?_
          refine pln_read rfl (fun _ hS => run_extract rfl rfl) rfl ?_
          refine pln_read rfl (fun _ hS => run_extract rfl rfl) rfl ?_
          refine pln_read rfl (fun _ hS => run_extract rfl rfl) rfl ?_
          refine pln_last rfl ?_
          refine lst_alloc (cs := [_, _, _, _]) hS rfl rfl rfl ?_
          clear hS
          intro b4 wx6 hS
          refine lst_pln (by first | exact hS | exact hS.drop | exact hS.drop.drop | exact hS.drop.drop.drop | exact hS.unlearn | exact hS.unlearn.drop | exact hS.unlearn.drop.drop | exact hS.forget hF8 | exact hS.drop.forget hF8) ?_
          refine pln_last rfl ?_
          refine lst_storeN hS rfl (by conv => lhs; whnf) rfl rfl (by first | exact .head | exact .tail .head | exact .tail (.tail .head) | exact .tail (.tail (.tail .head)) | exact .tail (.tail (.tail (.tail .head))) | exact .tail (.tail (.tail (.tail (.tail .head))))) (by repeat constructor) (by first | exact .head | exact .tail .head | exact .tail (.tail .head) | exact .tail (.tail (.tail .head)) | exact .tail (.tail (.tail (.tail .head))) | exact .tail (.tail (.tail (.tail (.tail .head))))) ?_
          clear hS
          intro wx7 hS
          refine lst_pln (by first | exact hS | exact hS.drop | exact hS.drop.drop | exact hS.drop.drop.drop | exact hS.unlearn | exact hS.unlearn.drop | exact hS.unlearn.drop.drop | exact hS.forget hF8 | exact hS.drop.forget hF8) ?_
          refine pln_read rfl (fun _ hS => run_assign (by conv => lhs; whnf)) rfl ?_
          refine pln_read rfl (fun _ hS => run_assign (by conv => lhs; whnf)) rfl ?_
          refine pln_tail ?_
          refine lst_done ?_
          exact hmeet _ _ _ _ _ ⟨_, t8, F8, rfl, rfl, rfl, ht8, hF8, hr8, hS⟩ (by conv => lhs; whnf) (by conv => lhs; whnf) (by conv => lhs; whnf) (by kernel_rfl)
        refine pln_last rfl ?_
        refine lst_alloc (cs := [_, _, _, _]) hS rfl rfl rfl ?_
        clear hS
        intro b5 wx8 hS
        refine lst_pln (by first | exact hS | exact hS.drop | exact hS.drop.drop | exact hS.drop.drop.drop | exact hS.unlearn | exact hS.unlearn.drop | exact hS.unlearn.drop.drop | exact hS.forget hF8 | exact hS.drop.forget hF8) ?_
        refine pln_last rfl ?_
        refine lst_enter (run_call (by kernel_rfl) (args_3 (by conv => lhs; whnf) (by conv => lhs; whnf) (by conv => lhs; whnf))) rfl ?_
        refine Calls.mono (term_to X (rkI Mk x) mm _ _ _ h4 A3 B3 c3 d3 _ (hXf.mono hF7) hS) ?_
        rintro _ w8 ⟨t8, F8, rfl, ht8, hF8, hr8, hS'⟩
        refine ⟨_, rfl, ?_⟩
        replace hS := hS'
        clear hS'
        refine lst_pln (by first | exact hS | exact hS.drop | exact hS.drop.drop | exact hS.drop.drop.drop | exact hS.unlearn | exact hS.unlearn.drop | exact hS.unlearn.drop.drop | exact hS.forget hF8 | exact hS.drop.forget hF8) ?_
        refine pln_read rfl (fun _ hS => run_move (by conv => lhs; whnf)) rfl ?_
        refine pln_read rfl (fun _ hS => run_extract rfl rfl) rfl ?_
        refine pln_read rfl (fun _ hS => run_extract rfl rfl) rfl ?_
        refine pln_read rfl (fun _ hS => run_extract rfl rfl) rfl ?_
        refine pln_last rfl ?_
        refine lst_storeN hS rfl (by conv => lhs; whnf) rfl rfl (by first | exact .head | exact .tail .head | exact .tail (.tail .head) | exact .tail (.tail (.tail .head)) | exact .tail (.tail (.tail (.tail .head))) | exact .tail (.tail (.tail (.tail (.tail .head))))) (by repeat constructor) (by first | exact .head | exact .tail .head | exact .tail (.tail .head) | exact .tail (.tail (.tail .head)) | exact .tail (.tail (.tail (.tail .head))) | exact .tail (.tail (.tail (.tail (.tail .head))))) ?_
        clear hS
        intro wx9 hS
        refine lst_pln (by first | exact hS | exact hS.drop | exact hS.drop.drop | exact hS.drop.drop.drop | exact hS.unlearn | exact hS.unlearn.drop | exact hS.unlearn.drop.drop | exact hS.forget hF8 | exact hS.drop.forget hF8) ?_
        refine pln_read rfl (fun _ hS => run_assign (by conv => lhs; whnf)) rfl ?_
        refine pln_read rfl (fun _ hS => run_assign (by conv => lhs; whnf)) rfl ?_
        refine pln_tail ?_
        refine lst_done ?_
        exact hmeet _ _ _ _ _ ⟨_, t8, F8, rfl, rfl, rfl, ht8, hF8, hr8, hS⟩ (by conv => lhs; whnf) (by conv => lhs; whnf) (by conv => lhs; whnf) (by kernel_rfl)
      clear hS
      rintro jv2 _ _ _ w9 ⟨b4, t8, F8, rfl, rfl, rfl, ht8, hF8, hr8, hS⟩
      refine goes_seq ?_
      refine goes_seq ?_
      refine goes_region ?_
      refine lst_run (run_move (by conv => lhs; whnf)) rfl ?_
      refine lst_run (run_move (by conv => lhs; whnf)) rfl ?_
      first
        | refine lst_run (run_neq_one_int rfl rfl) rfl ?_
        | refine lst_run (run_neq_no rfl rfl (by first | assumption | omega)) rfl ?_
        | refine lst_run (run_neq_yes rfl rfl (by omega)) rfl ?_
        | refine lst_run (rfl) rfl ?_
      refine lst_run (run_move (by conv => lhs; whnf)) rfl ?_
      refine lst_guard rfl rfl ?_
      refine lst_run (run_move (by conv => lhs; whnf)) rfl ?_
      refine lst_guard rfl rfl ?_
      refine lst_run (run_move (by conv => lhs; whnf)) rfl ?_
      refine lst_guard rfl rfl ?_
      first
        | refine lst_run (run_neq_one_int rfl rfl) rfl ?_
        | refine lst_run (run_neq_no rfl rfl (by first | assumption | omega)) rfl ?_
        | refine lst_run (run_neq_yes rfl rfl (by omega)) rfl ?_
        | refine lst_run (rfl) rfl ?_
      first
        | refine lst_run (run_pick_t rfl (by conv => lhs; whnf)) rfl ?_
        | refine lst_run (run_pick_f rfl (by conv => lhs; whnf)) rfl ?_
      refine lst_done ?_
      refine goes_false rfl ?_
      refine goes_skip ?_
      refine goes_seq ?_
      refine goes_region ?_
      refine lst_run (run_move (by conv => lhs; whnf)) rfl ?_
      first
        | refine lst_run (run_eql_one_int rfl rfl) rfl ?_
        | refine lst_run (run_eql_no rfl rfl (by first | assumption | omega)) rfl ?_
        | refine lst_run (run_eql_yes rfl rfl (by omega)) rfl ?_
        | refine lst_run (rfl) rfl ?_
      refine lst_done ?_
      refine goes_true rfl ?_
      refine goes_meet2 12 13 (81 :: 82 :: 83 :: 84 :: 85 :: 86 :: 87 :: 88 :: []) (fun v u w' => ∃ A9 c9 A10 c10 O9 O10, v = .slice A9 (Ta.len + 1) c9 ∧ u = .slice A10 (Tb.len + 1) c10 ∧ Rw 39 4 (.slice A9 (Ta.len + 1) c9) (Ta.len + 1) (tcsL Ta ++ tcs t7) O9 ∧ Rw 39 4 (.slice A10 (Tb.len + 1) c10) (Tb.len + 1) (tcsL Tb ++ tcs t8) O10 ∧ St [] w ((b2, hob A3 X.cs.length c3 B3 X.tr.length d3) :: (b1, hob A h.cs.length c B h.tr.length d) :: (O9 ++ (O10 ++ []))) F8 w') ?_ ?_
      · intro hmeet
        refine goes_plan (St _ _ [_, _] []) 10 (.read 0 (.read 1 (.read 4 (.read 5 (.pick 2 (.pick 3 (.pick 6 (.pick 7 (.read 8 (.read 9 .tail)) .none) .none) (.pick 6 (.pick 3 (.pick 7 (.read 8 (.read 9 .tail)) .none) .none) .none)) (.pick 6 (.pick 2 (.pick 3 (.pick 7 (.read 8 (.read 9 .tail)) .none) .none) .none) .none)))))) (by kernel_rfl) (by kernel_rfl) hS.drew.bare2 ?_
        replace hS := hS.drew
        refine pln_read rfl (fun _ hS => run_move (by conv => lhs; whnf)) rfl ?_
        first
          | refine pln_read rfl (fun _ hS => run_loadN_own (k := 4) hS rfl rfl rfl (by first | exact .head | exact .tail .head | exact .tail (.tail .head) | exact .tail (.tail (.tail .head)) | exact .tail (.tail (.tail (.tail .head))) | exact .tail (.tail (.tail (.tail (.tail .head))))) (by repeat constructor)) rfl ?_
          | refine pln_read rfl (fun _ hS => run_load4 rfl rfl rfl (by first | assumption | exact hcu _ hS | exact hS.cell0 (by assumption)) (by first | assumption | exact hcu _ hS | exact hS.cell0 (by assumption)) (by first | assumption | exact hcu _ hS | exact hS.cell0 (by assumption)) (by first | assumption | exact hcu _ hS | exact hS.cell0 (by assumption))) rfl ?_
        refine pln_read rfl (fun _ hS => run_move (by conv => lhs; whnf)) rfl ?_
        first
          | refine pln_read rfl (fun _ hS => run_loadN_own (k := 4) hS rfl rfl rfl (by first | exact .head | exact .tail .head | exact .tail (.tail .head) | exact .tail (.tail (.tail .head)) | exact .tail (.tail (.tail (.tail .head))) | exact .tail (.tail (.tail (.tail (.tail .head))))) (by repeat constructor)) rfl ?_
          | refine pln_read rfl (fun _ hS => run_load4 rfl rfl rfl (by first | assumption | exact hcu _ hS | exact hS.cell0 (by assumption)) (by first | assumption | exact hcu _ hS | exact hS.cell0 (by assumption)) (by first | assumption | exact hcu _ hS | exact hS.cell0 (by assumption)) (by first | assumption | exact hcu _ hS | exact hS.cell0 (by assumption))) rfl ?_
        refine pln_pick rfl ?_ ?_
        · refine lst_buildSlice (cells := [_, _, _, _]) hS (.cons (by conv => lhs; whnf) .nil) rfl rfl ?_
          clear hS
          intro b6 wx10 hS
          refine lst_pln (by first | exact hS.bare2 | exact hS.drop.bare2 | exact hS.drop.drop.bare2 | exact hS.drop.drop.drop.bare2 | exact hS.forget hF8 | exact hS.drop.forget hF8) ?_
          refine pln_pick rfl ?_ ?_
          · refine lst_appT (u := t7) hS (by conv => lhs; whnf) (by conv => lhs; whnf) rfl rfl rfl (by first | exact Flat.own (sp := []) (hS.own (_, _) (.head _)) rfl (Nat.le_refl _) | exact Flat.own (sp := []) (hS.own (_, _) (.tail _ (.head _))) rfl (Nat.le_refl _)) hrowa (by first | exact List.perm_append_comm_assoc [_, _, _, _, _] Oa _ | exact List.perm_append_comm_assoc [_, _, _, _, _, _] Oa _) (by omega) rfl ?_
            clear hS
            intro v9 O9 w9 hrow9 hS
            obtain ⟨A9, c9, rfl, _⟩ := hrow9.form
            first | replace hS := hS.perm (List.perm_append_comm_assoc O9 [_, _, _, _, _] (Ob ++ [])) | replace hS := hS.perm (List.perm_append_comm_assoc O9 [_, _, _, _, _, _] (Ob ++ []))
            refine lst_pln (by first | exact hS.bare2 | exact hS.drop.bare2 | exact hS.drop.drop.bare2 | exact hS.drop.drop.drop.bare2 | exact hS.forget hF8 | exact hS.drop.forget hF8) ?_
            refine pln_last rfl ?_
            refine lst_buildSlice (cells := [_, _, _, _]) hS (.cons (by conv => lhs; whnf) .nil) rfl rfl ?_
            clear hS
            intro b7 wx11 hS
            refine lst_pln (by first | exact hS.bare2 | exact hS.drop.bare2 | exact hS.drop.drop.bare2 | exact hS.drop.drop.drop.bare2 | exact hS.forget hF8 | exact hS.drop.forget hF8) ?_
            refine pln_last rfl ?_
            refine lst_appT (u := t8) hS (by conv => lhs; whnf) (by conv => lhs; whnf) rfl rfl rfl (by first | exact Flat.own (sp := []) (hS.own (_, _) (.head _)) rfl (Nat.le_refl _) | exact Flat.own (sp := []) (hS.own (_, _) (.tail _ (.head _))) rfl (Nat.le_refl _)) hrowb (permB [_, _, _, _, _, _] O9 Ob []) (by omega) rfl ?_
            clear hS
            intro v10 O10 w10 hrow10 hS
            obtain ⟨A10, c10, rfl, _⟩ := hrow10.form
            replace hS := hS.perm (permB [_, _, _, _, _, _] O9 O10 []).symm
            refine lst_pln (by first | exact hS.bare2 | exact hS.drop.bare2 | exact hS.drop.drop.bare2 | exact hS.drop.drop.drop.bare2 | exact hS.forget hF8 | exact hS.drop.forget hF8) ?_
            refine pln_read rfl (fun _ hS => run_assign (by conv => lhs; whnf)) rfl ?_
            refine pln_read rfl (fun _ hS => run_assign (by conv => lhs; whnf)) rfl ?_
            refine pln_tail ?_
            refine lst_done ?_
            exact hmeet _ _ _ _ ⟨A9, c9, A10, c10, O9, O10, rfl, rfl, hrow9, hrow10, hS.drop.drop.drop.drop⟩ (by conv => lhs; whnf) (by conv => lhs; whnf) (by kernel_rfl)
          refine pln_last rfl ?_
          refine lst_buildSlice (cells := [_, _, _, _]) hS (.cons (by conv => lhs; whnf) .nil) rfl rfl ?_
          clear hS
          intro b8 wx12 hS
          refine lst_pln (by first | exact hS.bare2 | exact hS.drop.bare2 | exact hS.drop.drop.bare2 | exact hS.drop.drop.drop.bare2 | exact hS.forget hF8 | exact hS.drop.forget hF8) ?_
          refine pln_last rfl ?_
          refine lst_appT (u := t7) hS (by conv => lhs; whnf) (by conv => lhs; whnf) rfl rfl rfl (by first | exact Flat.own (sp := []) (hS.own (_, _) (.head _)) rfl (Nat.le_refl _) | exact Flat.own (sp := []) (hS.own (_, _) (.tail _ (.head _))) rfl (Nat.le_refl _)) hrowa (by first | exact List.perm_append_comm_assoc [_, _, _, _, _] Oa _ | exact List.perm_append_comm_assoc [_, _, _, _, _, _] Oa _) (by omega) rfl ?_
          clear hS
          intro v9 O9 w9 hrow9 hS
          obtain ⟨A9, c9, rfl, _⟩ := hrow9.form
          first | replace hS := hS.perm (List.perm_append_comm_assoc O9 [_, _, _, _, _] (Ob ++ [])) | replace hS := hS.perm (List.perm_append_comm_assoc O9 [_, _, _, _, _, _] (Ob ++ []))
          refine lst_pln (by first | exact hS.bare2 | exact hS.drop.bare2 | exact hS.drop.drop.bare2 | exact hS.drop.drop.drop.bare2 | exact hS.forget hF8 | exact hS.drop.forget hF8) ?_
          refine pln_last rfl ?_
          refine lst_appT (u := t8) hS (by conv => lhs; whnf) (by conv => lhs; whnf) rfl rfl rfl (by first | exact Flat.own (sp := []) (hS.own (_, _) (.head _)) rfl (Nat.le_refl _) | exact Flat.own (sp := []) (hS.own (_, _) (.tail _ (.head _))) rfl (Nat.le_refl _)) hrowb (permB [_, _, _, _, _, _] O9 Ob []) (by omega) rfl ?_
          clear hS
          intro v10 O10 w10 hrow10 hS
          obtain ⟨A10, c10, rfl, _⟩ := hrow10.form
          replace hS := hS.perm (permB [_, _, _, _, _, _] O9 O10 []).symm
          refine lst_pln (by first | exact hS.bare2 | exact hS.drop.bare2 | exact hS.drop.drop.bare2 | exact hS.drop.drop.drop.bare2 | exact hS.forget hF8 | exact hS.drop.forget hF8) ?_
          refine pln_read rfl (fun _ hS => run_assign (by conv => lhs; whnf)) rfl ?_
          refine pln_read rfl (fun _ hS => run_assign (by conv => lhs; whnf)) rfl ?_
          refine pln_tail ?_
          refine lst_done ?_
          exact hmeet _ _ _ _ ⟨A9, c9, A10, c10, O9, O10, rfl, rfl, hrow9, hrow10, hS.drop.drop.drop.drop⟩ (by conv => lhs; whnf) (by conv => lhs; whnf) (by kernel_rfl)
        refine pln_last rfl ?_
        refine lst_buildSlice (cells := [_, _, _, _]) hS (.cons (by conv => lhs; whnf) .nil) rfl rfl ?_
        clear hS
        intro b9 wx13 hS
        refine lst_pln (by first | exact hS.bare2 | exact hS.drop.bare2 | exact hS.drop.drop.bare2 | exact hS.drop.drop.drop.bare2 | exact hS.forget hF8 | exact hS.drop.forget hF8) ?_
        refine pln_last rfl ?_
        refine lst_buildSlice (cells := [_, _, _, _]) hS (.cons (by conv => lhs; whnf) .nil) rfl rfl ?_
        clear hS
        intro b10 wx14 hS
        refine lst_pln (by first | exact hS.bare2 | exact hS.drop.bare2 | exact hS.drop.drop.bare2 | exact hS.drop.drop.drop.bare2 | exact hS.forget hF8 | exact hS.drop.forget hF8) ?_
        refine pln_last rfl ?_
        refine lst_appT (u := t7) hS (by conv => lhs; whnf) (by conv => lhs; whnf) rfl rfl rfl (by first | exact Flat.own (sp := []) (hS.own (_, _) (.head _)) rfl (Nat.le_refl _) | exact Flat.own (sp := []) (hS.own (_, _) (.tail _ (.head _))) rfl (Nat.le_refl _)) hrowa (by first | exact List.perm_append_comm_assoc [_, _, _, _, _] Oa _ | exact List.perm_append_comm_assoc [_, _, _, _, _, _] Oa _) (by omega) rfl ?_
        clear hS
        intro v9 O9 w9 hrow9 hS
        obtain ⟨A9, c9, rfl, _⟩ := hrow9.form
        first | replace hS := hS.perm (List.perm_append_comm_assoc O9 [_, _, _, _, _] (Ob ++ [])) | replace hS := hS.perm (List.perm_append_comm_assoc O9 [_, _, _, _, _, _] (Ob ++ []))
        refine lst_pln (by first | exact hS.bare2 | exact hS.drop.bare2 | exact hS.drop.drop.bare2 | exact hS.drop.drop.drop.bare2 | exact hS.forget hF8 | exact hS.drop.forget hF8) ?_
        refine pln_last rfl ?_
        refine lst_appT (u := t8) hS (by conv => lhs; whnf) (by conv => lhs; whnf) rfl rfl rfl (by first | exact Flat.own (sp := []) (hS.own (_, _) (.head _)) rfl (Nat.le_refl _) | exact Flat.own (sp := []) (hS.own (_, _) (.tail _ (.head _))) rfl (Nat.le_refl _)) hrowb (permB [_, _, _, _, _, _] O9 Ob []) (by omega) rfl ?_
        clear hS
        intro v10 O10 w10 hrow10 hS
        obtain ⟨A10, c10, rfl, _⟩ := hrow10.form
        replace hS := hS.perm (permB [_, _, _, _, _, _] O9 O10 []).symm
        refine lst_pln (by first | exact hS.bare2 | exact hS.drop.bare2 | exact hS.drop.drop.bare2 | exact hS.drop.drop.drop.bare2 | exact hS.forget hF8 | exact hS.drop.forget hF8) ?_
        refine pln_read rfl (fun _ hS => run_assign (by conv => lhs; whnf)) rfl ?_
        refine pln_read rfl (fun _ hS => run_assign (by conv => lhs; whnf)) rfl ?_
        refine pln_tail ?_
        refine lst_done ?_
        exact hmeet _ _ _ _ ⟨A9, c9, A10, c10, O9, O10, rfl, rfl, hrow9, hrow10, hS.drop.drop.drop.drop⟩ (by conv => lhs; whnf) (by conv => lhs; whnf) (by kernel_rfl)
      clear hS
      rintro jv3 _ _ w10 ⟨A9, c9, A10, c10, O9, O10, rfl, rfl, hrow9, hrow10, hS⟩
      have e1 : (Ta.app (.cons t7.k t7.n t7.s t7.A t7.c t7.ar .nil)).len = Ta.len + 1 := by rw [TA.len_app]; rfl
      have e2 : (Tb.app (.cons t8.k t8.n t8.s t8.A t8.c t8.ar .nil)).len = Tb.len + 1 := by rw [TA.len_app]; rfl
      have hF38 : ∀ φ ∈ F', φ ∈ F8 := fun φ h => hF8 φ (hF7 φ h)
      have htn : t7.ar.ts.nodes + 1 ≤ 499 := by
        have : t7.ar.ts.nodes = t.ar.nodes := by rw [← ht7]; rfl
        omega
      refine goes_inBlock ?_
      refine goes_region ?_
      refine lst_run (run_add rfl rfl (by omega) (by omega)) rfl ?_
      refine lst_run (run_move (by conv => lhs; whnf)) rfl ?_
      refine lst_done ?_
      refine ih Q _ _ _ _ _ ?_ ?_ (by conv => lhs; whnf) (by conv => lhs; whnf) (by conv => lhs; whnf) (by kernel_rfl)
      · simp
      · refine ⟨D ++ [x], Ta.app (.cons t7.k t7.n t7.s t7.A t7.c t7.ar .nil), Tb.app (.cons t8.k t8.n t8.s t8.A t8.c t8.ar .nil), A9, A10, c9, c10, O9, O10, F8, by rw [hD]; simp, by simp, by rw [e1], by rw [e2], by rw [e1]; simp; omega, ?_, ?_, ?_, fun φ h => hF38 φ (hFF φ h), ?_, ?_, ?_, ?_, hS⟩
        · rw [TA.app_ts, TA.app_ts, Ts.by_app, hby]
          congr 1
          show Ts.cons t8.tm.k t8.tm.n t8.tm.s t8.tm.ar .nil = (Ts.cons t7.tm.k t7.tm.n t7.tm.s t7.tm.ar .nil).by_ (rkI Mk)
          rw [ht8, ht7]; rfl
        · rw [TA.app_ts, Ts.vars_app]
          refine ⟨hvr, ?_⟩
          show (Ts.cons t7.tm.k t7.tm.n t7.tm.s t7.tm.ar .nil).vars _
          rw [ht7]; exact ⟨h5.1, h5.2, trivial⟩
        · rw [TA.app_ts, Ts.nodes_app]
          show Ta.ts.nodes + (t7.ar.ts.nodes + 0 + 1) ≤ _
          simp only [List.length_append, List.length_cons, List.length_nil]; omega
        · exact fun w hw => AllR.app (U := .cons t7.k t7.n t7.s t7.A t7.c t7.ar .nil) ⟨(hr7.mono hF8) w hw, trivial⟩ ((hAa.mono hF38) w hw)
        · exact fun w hw => AllR.app (U := .cons t8.k t8.n t8.s t8.A t8.c t8.ar .nil) ⟨hr8 w hw, trivial⟩ ((hAb.mono hF38) w hw)
        · rw [e1, tcsL_app]; exact hrow9
        · rw [e2, tcsL_app]; exact hrow10
end Go.Proofs.Ytjicoifjgokoiab
