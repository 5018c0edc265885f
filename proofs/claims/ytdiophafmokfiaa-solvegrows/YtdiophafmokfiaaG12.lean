/- OpenC, OpenW: texts that follow one another, laid into one file. -/
import Derived.Test.YtdiophafmokfiaaG11
import Derived.Test.YtdiophafmokfiaaG2
import Derived.Test.YtdiophafmokfiaaG10
namespace Go.Proofs.Ytdiophafmokfiaa
open Go.RowKit Go.ChangeShapes Go.WideShapes Go.ChangeAt
set_option maxRecDepth 100000

theorem cells_clause : Try.prog.cellsOf 47 = 6 := by kernel_rfl

section
variable {H : Type} {enc : TypeId × Value → H} {w : World} {base : Nat} {spare : Nat → Bool} {held : Bool}

/-- The cells of one clause, read. -/
theorem open_ccells {fuel : Nat} {cs : List Value} {x : DataW H × List MemPlace} (h : DataW.trod enc Try.prog w base spare held fuel 47 cs = some x) :
    ∃ (k n vars : Int) (s : ByteArray) (u v : Value) (T B : Ts), cs = [.int .i64 k, .int .i64 n, .string s, u, v, .int .i64 vars] ∧ Sl w (fun _ => True) u T ∧ Sl w (fun _ => True) v B ∧ T.nodes + B.nodes + 1 < Rows.uptoBulk x.1 := by
  obtain ⟨xs, m, _, hx, hlen, hxl, hf⟩ := DataW.trod_struct Try.underlying47 h
  rw [cells_clause] at hlen
  have f0 : DataW.trod enc Try.prog w base spare held m 24 ((cs.drop 0).take (Try.prog.cellsOf 24)) = xs[0]? := hf 0 _ rfl
  have f1 : DataW.trod enc Try.prog w base spare held m 22 ((cs.drop 4).take (Try.prog.cellsOf 22)) = xs[1]? := hf 1 _ rfl
  have f2 : DataW.trod enc Try.prog w base spare held m 3 ((cs.drop 5).take (Try.prog.cellsOf 3)) = xs[2]? := hf 2 _ rfl
  rw [cells_term] at f0
  rw [cells_terms] at f1
  rw [cells_int] at f2
  match cs, hlen, xs, hxl, hx with
  | [c0, c1, c2, c3, c4, c5], _, [y0, y1, y2], _, hx =>
    simp only [List.drop_zero, List.drop_succ_cons, List.take_succ_cons, List.take_zero, List.getElem?_cons_zero, List.getElem?_cons_succ] at f0 f1 f2
    obtain ⟨k, n, s, u, y, m', e0, hy, hb, _, _, _, _⟩ := open_cells f0
    simp only [List.cons.injEq, and_true] at e0
    obtain ⟨rfl, rfl, rfl, rfl⟩ := e0
    obtain ⟨T, h1, h2⟩ := open_terms _ m' _ y (Nat.le_refl _) hy
    obtain ⟨B, h3, h4⟩ := open_terms _ m _ y1 (Nat.le_refl _) f1
    obtain ⟨vars, e2, _, _⟩ := DataW.trod_int Try.underlying3 f2
    simp only [List.cons.injEq, and_true] at e2
    subst e2 hx
    refine ⟨k, n, vars, s, _, _, T, B, rfl, h1, h3, ?_⟩
    simp only [List.map_cons, List.map_nil, Rows.uptoBulk, Rows.uptoBulkAll]
    omega

/-- A slice of clauses, read. -/
theorem open_clauses {fuel : Nat} {v : Value} {x : DataW H × List MemPlace} (h : DataW.trod enc Try.prog w base spare held fuel 35 [v] = some x) :
    ∃ L : List Cl, SlC w (fun _ => True) v L ∧ nodesC L < Rows.uptoBulk x.1 := by
  rcases Deep.open_slice Try.underlying35 h with ⟨e, rfl⟩ | ⟨a, len, cap, m, n, D, Pl, e, _, hl, _, hm, rfl, hi⟩
  · simp only [List.cons.injEq, and_true] at e
    subst e
    exact ⟨[], ⟨none, 0, rfl, Nat.le_refl _, fun h => absurd h (Nat.lt_irrefl _)⟩, by simp [Rows.uptoBulk, nodesC]⟩
  · simp only [List.cons.injEq, and_true] at e
    subst e
    rw [cells_clause] at hi
    have hml : len ≤ m := by rw [hm]; split <;> omega
    have hspot : 0 < len → a.spot = none := fun hp => by
      obtain ⟨cs, hc, ht⟩ := hi 0 (by omega)
      obtain ⟨k, n', vars, s, u, v', T, B, rfl, _⟩ := open_ccells ht
      obtain ⟨_, _, hat⟩ := World.cells?_some hc
      have h0 := hat 0 (by omega)
      simp only [Nat.zero_mul, Addr.add, if_true, List.getElem?_cons_zero] at h0
      unfold World.cell? at h0
      split at h0
      · split at h0
        · cases h0
        · rename_i hs; simpa using hs
      · cases h0
    have key : ∀ r j, j + r = len → ∃ L : List Cl, L.length = r ∧ SegC w (fun _ => True) L a.block (a.off + j * 6) ∧ nodesC L ≤ Rows.uptoBulkAll ((List.range' j r).map D) := by
      intro r
      induction r with
      | zero => intro j _; exact ⟨[], rfl, trivial, Nat.zero_le _⟩
      | succ r ihr =>
        intro j hj
        obtain ⟨L, hT1, hT2, hT3⟩ := ihr (j + 1) (by omega)
        obtain ⟨cs, hc, ht⟩ := hi j (by omega)
        obtain ⟨k, n', vars, s, u, v', T, B, rfl, h1, h2, h3⟩ := open_ccells ht
        obtain ⟨_, _, hat⟩ := World.cells?_some hc
        have hsp := hspot (by omega)
        have hcell : ∀ q u', q < 6 → [Value.int .i64 k, .int .i64 n', .string s, u, v', .int .i64 vars][q]? = some u' → w.cell? ⟨a.block, a.off + j * 6 + q, none⟩ = some u' := fun q u' hq hu => by
          have h1 := (hat q hq).trans hu
          rw [Deep.add_add] at h1
          have h2 := addr_add h1 hsp
          rwa [← Nat.add_assoc] at h2
        refine ⟨⟨k, n', s, T, B, vars⟩ :: L, by simp [hT1], ?_, ?_⟩
        · refine ⟨trivial, by simpa using hcell 0 _ (by omega) rfl, hcell 1 _ (by omega) rfl, hcell 2 _ (by omega) rfl, ⟨u, hcell 3 _ (by omega) rfl, h1⟩, ⟨v', hcell 4 _ (by omega) rfl, h2⟩, hcell 5 _ (by omega) rfl, ?_⟩
          rw [show a.off + j * 6 + 6 = a.off + (j + 1) * 6 by omega]
          exact hT2
        · simp only [List.range'_succ, List.map_cons, Rows.uptoBulkAll, nodesC, Cl.nodes]
          simp only at h3
          omega
    obtain ⟨L, h1, h2, h3⟩ := key len 0 (by omega)
    refine ⟨L, ⟨some a, cap, by rw [h1], by omega, fun hp => ⟨a.block, a.off, ?_, by simpa using h2⟩⟩, ?_⟩
    · have := hspot (by omega)
      obtain ⟨b', o', sp⟩ := a
      simp only at this
      rw [this]
    · rw [← List.range_eq_range'] at h3
      simp only [Rows.uptoBulk]
      omega
end
/-- A slice of clauses as an argument. -/
theorem open_clausesArg {H : Type} {enc : TypeId × Value → H} {W : World} {v : Value} {d : DataW H} {p : List MemPlace} (hv : v.cells.toList = [v]) (h : DataW.Trod enc Try.prog W 0 (fun _ => true) true 35 v d p) :
    ∃ L : List Cl, SlC W (fun _ => True) v L ∧ nodesC L < Rows.uptoBulk d := by
  obtain ⟨fuel, hf⟩ := h
  rw [hv] at hf
  exact open_clauses hf
end Go.Proofs.Ytdiophafmokfiaa
namespace Go.Proofs.Ytdiophafmokfiaa
open Go.RowKit Go.ChangeShapes Go.WideShapes Go.ChangeAt
set_option maxRecDepth 100000
section
variable {H : Type} {enc : TypeId × Value → H} {w : World} {base : Nat} {spare : Nat → Bool} {held : Bool}
/-- A slice of terms, read: it is a list of terms, of no more nodes than what was read holds. -/
theorem open_termsW : ∀ (b fuel : Nat) (v : Value) (x : DataW H × List MemPlace), Rows.uptoBulk x.1 ≤ b → DataW.trod enc Try.prog w base spare held fuel 22 [v] = some x →
    ∃ T : Ts, Sl w (fun _ => True) v T ∧ T.length ≤ 9223372036854775807 ∧ T.wide := by
  intro b
  induction b with
  | zero => intro fuel v x hb _; have := bulk_pos x.1; omega
  | succ b ih =>
    intro fuel v x hb h
    rcases Deep.open_slice Try.underlying22 h with ⟨e, rfl⟩ | ⟨a, len, cap, m, n, D, Pl, e, _, hl, hcm, hm, rfl, hi⟩
    · simp only [List.cons.injEq, and_true] at e
      subst e
      exact ⟨.nil, Sl.nil _ _, by simp [Ts.length], trivial⟩
    · simp only [List.cons.injEq, and_true] at e
      subst e
      rw [cells_term] at hi
      have hml : len ≤ m := by rw [hm]; split <;> omega
      have hbulk : ∀ j, j < len → Rows.uptoBulk (D j) ≤ Rows.uptoBulkAll ((List.range len).map D) := fun j hj => bulk_mem (i := j) (by simp [hj])
      simp only [Rows.uptoBulk] at hb ⊢
      have hspot : 0 < len → a.spot = none := fun hp => by
        obtain ⟨cs, hc, ht⟩ := hi 0 (by omega)
        obtain ⟨k, n', s, v', y, m', rfl, _⟩ := open_cells ht
        obtain ⟨_, _, hat⟩ := World.cells?_some hc
        have h0 := hat 0 (by omega)
        simp only [Nat.zero_mul, Addr.add, if_true, List.getElem?_cons_zero] at h0
        unfold World.cell? at h0
        split at h0
        · split at h0
          · cases h0
          · rename_i hs; simpa using hs
        · cases h0
      have key : ∀ r j, j + r = len → ∃ T : Ts, T.length = r ∧ Seg w (fun _ => True) T a.block (a.off + j * 4) ∧ T.wide := by
        intro r
        induction r with
        | zero => intro j _; exact ⟨.nil, rfl, trivial, trivial⟩
        | succ r ihr =>
          intro j hj
          obtain ⟨T, hT1, hT2, hT3⟩ := ihr (j + 1) (by omega)
          obtain ⟨cs, hc, ht⟩ := hi j (by omega)
          obtain ⟨k, n', s, v', y, m', rfl, hy, hyb, _⟩ := open_cells ht
          obtain ⟨_, _, hat⟩ := World.cells?_some hc
          have hbj := hbulk j (by omega)
          simp only at hyb
          obtain ⟨U, hU1, hU2, hU3⟩ := ih m' v' y (by omega) hy
          have hsp := hspot (by omega)
          have hcell : ∀ q u, q < 4 → [Value.int .i64 k, .int .i64 n', .string s, v'][q]? = some u → w.cell? ⟨a.block, a.off + j * 4 + q, none⟩ = some u := fun q u hq hu => by
            have h1 := (hat q hq).trans hu
            rw [Deep.add_add] at h1
            have h2 := addr_add h1 hsp
            rwa [← Nat.add_assoc] at h2
          refine ⟨.cons k n' s U T, by simp [Ts.length, hT1], ?_, ?_⟩
          · refine seg_cons.2 ⟨trivial, by simpa using hcell 0 _ (by omega) rfl, hcell 1 _ (by omega) rfl, hcell 2 _ (by omega) rfl, ⟨v', hcell 3 _ (by omega) rfl, hU1⟩, ?_⟩
            rw [show a.off + j * 4 + 4 = a.off + (j + 1) * 4 by omega]
            exact hT2
          · exact ⟨hU2, hU3, hT3⟩
      obtain ⟨T, h1, h2, h3⟩ := key len 0 (by omega)
      refine ⟨T, ⟨some a, cap, by rw [h1], by omega, fun hp => ⟨a.block, a.off, ?_, by simpa using h2⟩⟩, by rw [h1]; have : maxLen = 9223372036854775807 := rfl; omega, h3⟩
      have := hspot (by omega)
      obtain ⟨b', o', sp⟩ := a
      simp only at this
      rw [this]
/-- The cells of one clause, read. -/
theorem open_ccellsW {fuel : Nat} {cs : List Value} {x : DataW H × List MemPlace} (h : DataW.trod enc Try.prog w base spare held fuel 47 cs = some x) :
    ∃ (k n vars : Int) (s : ByteArray) (u v : Value) (T B : Ts), cs = [.int .i64 k, .int .i64 n, .string s, u, v, .int .i64 vars] ∧ Sl w (fun _ => True) u T ∧ Sl w (fun _ => True) v B ∧ T.length ≤ 9223372036854775807 ∧ T.wide ∧ B.length ≤ 9223372036854775807 ∧ B.wide := by
  obtain ⟨xs, m, _, hx, hlen, hxl, hf⟩ := DataW.trod_struct Try.underlying47 h
  rw [cells_clause] at hlen
  have f0 : DataW.trod enc Try.prog w base spare held m 24 ((cs.drop 0).take (Try.prog.cellsOf 24)) = xs[0]? := hf 0 _ rfl
  have f1 : DataW.trod enc Try.prog w base spare held m 22 ((cs.drop 4).take (Try.prog.cellsOf 22)) = xs[1]? := hf 1 _ rfl
  have f2 : DataW.trod enc Try.prog w base spare held m 3 ((cs.drop 5).take (Try.prog.cellsOf 3)) = xs[2]? := hf 2 _ rfl
  rw [cells_term] at f0
  rw [cells_terms] at f1
  rw [cells_int] at f2
  match cs, hlen, xs, hxl, hx with
  | [c0, c1, c2, c3, c4, c5], _, [y0, y1, y2], _, hx =>
    simp only [List.drop_zero, List.drop_succ_cons, List.take_succ_cons, List.take_zero, List.getElem?_cons_zero, List.getElem?_cons_succ] at f0 f1 f2
    obtain ⟨k, n, s, u, y, m', e0, hy, hb, _, _, _, _⟩ := open_cells f0
    simp only [List.cons.injEq, and_true] at e0
    obtain ⟨rfl, rfl, rfl, rfl⟩ := e0
    obtain ⟨T, h1, h2, h2w⟩ := open_termsW _ m' _ y (Nat.le_refl _) hy
    obtain ⟨B, h3, h4, h4w⟩ := open_termsW _ m _ y1 (Nat.le_refl _) f1
    obtain ⟨vars, e2, _, _⟩ := DataW.trod_int Try.underlying3 f2
    simp only [List.cons.injEq, and_true] at e2
    subst e2 hx
    exact ⟨k, n, vars, s, _, _, T, B, rfl, h1, h3, h2, h2w, h4, h4w⟩

/-- A slice of clauses, read. -/
theorem open_clausesW {fuel : Nat} {v : Value} {x : DataW H × List MemPlace} (h : DataW.trod enc Try.prog w base spare held fuel 35 [v] = some x) :
    ∃ L : List Cl, SlC w (fun _ => True) v L ∧ L.length ≤ 9223372036854775807 ∧ ClsWide L := by
  rcases Deep.open_slice Try.underlying35 h with ⟨e, rfl⟩ | ⟨a, len, cap, m, n, D, Pl, e, _, hl, hcm, hm, rfl, hi⟩
  · simp only [List.cons.injEq, and_true] at e
    subst e
    exact ⟨[], ⟨none, 0, rfl, Nat.le_refl _, fun h => absurd h (Nat.lt_irrefl _)⟩, by simp, fun c hc => by cases hc⟩
  · simp only [List.cons.injEq, and_true] at e
    subst e
    rw [cells_clause] at hi
    have hml : len ≤ m := by rw [hm]; split <;> omega
    have hspot : 0 < len → a.spot = none := fun hp => by
      obtain ⟨cs, hc, ht⟩ := hi 0 (by omega)
      obtain ⟨k, n', vars, s, u, v', T, B, rfl, _⟩ := open_ccellsW ht
      obtain ⟨_, _, hat⟩ := World.cells?_some hc
      have h0 := hat 0 (by omega)
      simp only [Nat.zero_mul, Addr.add, if_true, List.getElem?_cons_zero] at h0
      unfold World.cell? at h0
      split at h0
      · split at h0
        · cases h0
        · rename_i hs; simpa using hs
      · cases h0
    have key : ∀ r j, j + r = len → ∃ L : List Cl, L.length = r ∧ SegC w (fun _ => True) L a.block (a.off + j * 6) ∧ ClsWide L := by
      intro r
      induction r with
      | zero => intro j _; exact ⟨[], rfl, trivial, fun c hc => by cases hc⟩
      | succ r ihr =>
        intro j hj
        obtain ⟨L, hT1, hT2, hT3⟩ := ihr (j + 1) (by omega)
        obtain ⟨cs, hc, ht⟩ := hi j (by omega)
        obtain ⟨k, n', vars, s, u, v', T, B, rfl, h1, h2, h3⟩ := open_ccellsW ht
        obtain ⟨_, _, hat⟩ := World.cells?_some hc
        have hsp := hspot (by omega)
        have hcell : ∀ q u', q < 6 → [Value.int .i64 k, .int .i64 n', .string s, u, v', .int .i64 vars][q]? = some u' → w.cell? ⟨a.block, a.off + j * 6 + q, none⟩ = some u' := fun q u' hq hu => by
          have h1 := (hat q hq).trans hu
          rw [Deep.add_add] at h1
          have h2 := addr_add h1 hsp
          rwa [← Nat.add_assoc] at h2
        refine ⟨⟨k, n', s, T, B, vars⟩ :: L, by simp [hT1], ?_, ?_⟩
        · refine ⟨trivial, by simpa using hcell 0 _ (by omega) rfl, hcell 1 _ (by omega) rfl, hcell 2 _ (by omega) rfl, ⟨u, hcell 3 _ (by omega) rfl, h1⟩, ⟨v', hcell 4 _ (by omega) rfl, h2⟩, hcell 5 _ (by omega) rfl, ?_⟩
          rw [show a.off + j * 6 + 6 = a.off + (j + 1) * 6 by omega]
          exact hT2
        · intro c hc
          rcases List.mem_cons.1 hc with rfl | hc
          · exact h3
          · exact hT3 c hc
    obtain ⟨L, h1, h2, h3⟩ := key len 0 (by omega)
    refine ⟨L, ⟨some a, cap, by rw [h1], by omega, fun hp => ⟨a.block, a.off, ?_, by simpa using h2⟩⟩, by rw [h1]; have : maxLen = 9223372036854775807 := rfl; omega, h3⟩
    have := hspot (by omega)
    obtain ⟨b', o', sp⟩ := a
    simp only at this
    rw [this]
end
/-- A slice of clauses, or of terms, as an argument. -/
theorem open_clausesArgW {H : Type} {enc : TypeId × Value → H} {W : World} {v : Value} {d : DataW H} {p : List MemPlace} (hv : v.cells.toList = [v]) (h : DataW.Trod enc Try.prog W 0 (fun _ => true) true 35 v d p) :
    ∃ L : List Cl, SlC W (fun _ => True) v L ∧ L.length ≤ 9223372036854775807 ∧ ClsWide L := by
  obtain ⟨fuel, hf⟩ := h
  rw [hv] at hf
  exact open_clausesW hf
theorem open_termsArgW {H : Type} {enc : TypeId × Value → H} {W : World} {v : Value} {d : DataW H} {p : List MemPlace} (hv : v.cells.toList = [v]) (h : DataW.Trod enc Try.prog W 0 (fun _ => true) true 22 v d p) :
    ∃ T : Ts, Sl W (fun _ => True) v T ∧ T.length ≤ 9223372036854775807 ∧ T.wide := by
  obtain ⟨fuel, hf⟩ := h
  rw [hv] at hf
  exact open_termsW _ fuel v _ (Nat.le_refl _) hf
end Go.Proofs.Ytdiophafmokfiaa
