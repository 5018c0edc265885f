/-
  From what an argument reads as to clauses in memory.
-/
import Derived.Test.YtdiophafmokfiaaDoorOpen
import Derived.Test.YtdiophafmokfiaaDoorClause
namespace Go.Proofs.YtdiophafmokfiaaDoor
open Go.RowKit Go.ChangeShapes Go.WideShapes Go.ChangeAt
set_option maxRecDepth 100000

theorem cells_clause : Tryd.prog.cellsOf 32 = 6 := by kernel_rfl

section
variable {H : Type} {enc : TypeId × Value → H} {w : World} {base : Nat} {spare : Nat → Bool} {held : Bool}

/-- The cells of one clause, read. -/
theorem open_ccells {fuel : Nat} {cs : List Value} {x : DataW H × List MemPlace} (h : DataW.trod enc Tryd.prog w base spare held fuel 32 cs = some x) :
    ∃ (k n vars : Int) (s : ByteArray) (u v : Value) (T B : Ts), cs = [.int .i64 k, .int .i64 n, .string s, u, v, .int .i64 vars] ∧ Sl w (fun _ => True) u T ∧ Sl w (fun _ => True) v B ∧ T.nodes + B.nodes + 1 < Rows.uptoBulk x.1 := by
  obtain ⟨xs, m, _, hx, hlen, hxl, hf⟩ := DataW.trod_struct Tryd.underlying32 h
  rw [cells_clause] at hlen
  have f0 : DataW.trod enc Tryd.prog w base spare held m 24 ((cs.drop 0).take (Tryd.prog.cellsOf 24)) = xs[0]? := hf 0 _ rfl
  have f1 : DataW.trod enc Tryd.prog w base spare held m 22 ((cs.drop 4).take (Tryd.prog.cellsOf 22)) = xs[1]? := hf 1 _ rfl
  have f2 : DataW.trod enc Tryd.prog w base spare held m 3 ((cs.drop 5).take (Tryd.prog.cellsOf 3)) = xs[2]? := hf 2 _ rfl
  rw [cells_term] at f0
  rw [cells_terms] at f1
  rw [cells_int] at f2
  match cs, hlen, xs, hxl, hx with
  | [c0, c1, c2, c3, c4, c5], _, [y0, y1, y2], _, hx =>
    simp only [List.drop_zero, List.drop_succ_cons, List.take_succ_cons, List.take_zero, List.getElem?_cons_zero, List.getElem?_cons_succ] at f0 f1 f2
    obtain ⟨k, n, s, u, y, m', e0, hy, hb, _, _, _, _⟩ := open_cells f0
    simp only [List.cons.injEq, and_true] at e0
    obtain ⟨rfl, rfl, rfl, rfl⟩ := e0
    obtain ⟨T, h1, h2⟩ := open_terms _ m' _ y (Nat.le_refl _) hy
    obtain ⟨B, h3, h4⟩ := open_terms _ m _ y1 (Nat.le_refl _) f1
    obtain ⟨vars, e2, _, _⟩ := DataW.trod_int Tryd.underlying3 f2
    simp only [List.cons.injEq, and_true] at e2
    subst e2 hx
    refine ⟨k, n, vars, s, _, _, T, B, rfl, h1, h3, ?_⟩
    simp only [List.map_cons, List.map_nil, Rows.uptoBulk, Rows.uptoBulkAll]
    omega

/-- A slice of clauses, read. -/
theorem open_clauses {fuel : Nat} {v : Value} {x : DataW H × List MemPlace} (h : DataW.trod enc Tryd.prog w base spare held fuel 25 [v] = some x) :
    ∃ L : List Cl, SlC w (fun _ => True) v L ∧ nodesC L < Rows.uptoBulk x.1 := by
  rcases Deep.open_slice Tryd.underlying25 h with ⟨e, rfl⟩ | ⟨a, len, cap, m, n, D, Pl, e, _, hl, _, hm, rfl, hi⟩
  · simp only [List.cons.injEq, and_true] at e
    subst e
    exact ⟨[], ⟨none, 0, rfl, Nat.le_refl _, fun h => absurd h (Nat.lt_irrefl _)⟩, by simp [Rows.uptoBulk, nodesC]⟩
  · simp only [List.cons.injEq, and_true] at e
    subst e
    rw [cells_clause] at hi
    have hml : len ≤ m := by rw [hm]; split <;> omega
    have hspot : 0 < len → a.spot = none := fun hp => by
      obtain ⟨cs, hc, ht⟩ := hi 0 (by omega)
      obtain ⟨k, n', vars, s, u, v', T, B, rfl, _⟩ := open_ccells ht
      obtain ⟨_, _, hat⟩ := World.cells?_some hc
      have h0 := hat 0 (by omega)
      simp only [Nat.zero_mul, Addr.add, if_true, List.getElem?_cons_zero] at h0
      unfold World.cell? at h0
      split at h0
      · split at h0
        · cases h0
        · rename_i hs; simpa using hs
      · cases h0
    have key : ∀ r j, j + r = len → ∃ L : List Cl, L.length = r ∧ SegC w (fun _ => True) L a.block (a.off + j * 6) ∧ nodesC L ≤ Rows.uptoBulkAll ((List.range' j r).map D) := by
      intro r
      induction r with
      | zero => intro j _; exact ⟨[], rfl, trivial, Nat.zero_le _⟩
      | succ r ihr =>
        intro j hj
        obtain ⟨L, hT1, hT2, hT3⟩ := ihr (j + 1) (by omega)
        obtain ⟨cs, hc, ht⟩ := hi j (by omega)
        obtain ⟨k, n', vars, s, u, v', T, B, rfl, h1, h2, h3⟩ := open_ccells ht
        obtain ⟨_, _, hat⟩ := World.cells?_some hc
        have hsp := hspot (by omega)
        have hcell : ∀ q u', q < 6 → [Value.int .i64 k, .int .i64 n', .string s, u, v', .int .i64 vars][q]? = some u' → w.cell? ⟨a.block, a.off + j * 6 + q, none⟩ = some u' := fun q u' hq hu => by
          have h1 := (hat q hq).trans hu
          rw [Deep.add_add] at h1
          have h2 := addr_add h1 hsp
          rwa [← Nat.add_assoc] at h2
        refine ⟨⟨k, n', s, T, B, vars⟩ :: L, by simp [hT1], ?_, ?_⟩
        · refine ⟨trivial, by simpa using hcell 0 _ (by omega) rfl, hcell 1 _ (by omega) rfl, hcell 2 _ (by omega) rfl, ⟨u, hcell 3 _ (by omega) rfl, h1⟩, ⟨v', hcell 4 _ (by omega) rfl, h2⟩, hcell 5 _ (by omega) rfl, ?_⟩
          rw [show a.off + j * 6 + 6 = a.off + (j + 1) * 6 by omega]
          exact hT2
        · simp only [List.range'_succ, List.map_cons, Rows.uptoBulkAll, nodesC, Cl.nodes]
          simp only at h3
          omega
    obtain ⟨L, h1, h2, h3⟩ := key len 0 (by omega)
    refine ⟨L, ⟨some a, cap, by rw [h1], by omega, fun hp => ⟨a.block, a.off, ?_, by simpa using h2⟩⟩, ?_⟩
    · have := hspot (by omega)
      obtain ⟨b', o', sp⟩ := a
      simp only at this
      rw [this]
    · rw [← List.range_eq_range'] at h3
      simp only [Rows.uptoBulk]
      omega
end
/-- A slice of clauses as an argument. -/
theorem open_clausesArg {H : Type} {enc : TypeId × Value → H} {W : World} {v : Value} {d : DataW H} {p : List MemPlace} (hv : v.cells.toList = [v]) (h : DataW.Trod enc Tryd.prog W 0 (fun _ => true) true 25 v d p) :
    ∃ L : List Cl, SlC W (fun _ => True) v L ∧ nodesC L < Rows.uptoBulk d := by
  obtain ⟨fuel, hf⟩ := h
  rw [hv] at hf
  exact open_clauses hf
end Go.Proofs.YtdiophafmokfiaaDoor
