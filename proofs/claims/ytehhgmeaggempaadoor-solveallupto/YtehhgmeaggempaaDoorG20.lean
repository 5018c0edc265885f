/- Open, OpenC: texts that follow one another, laid into one file. -/
import Derived.Test.YtehhgmeaggempaaDoorG1
import Derived.Test.YtehhgmeaggempaaDoorRows
import Derived.Deep.Slices
import Derived.Deep.Fields
import Derived.JoinedCond
import Derived.OpenShut
import Derived.Test.YtehhgmeaggempaaDoorG2
namespace Go.Proofs.YtehhgmeaggempaaDoor
open Go.RowKit Go.ChangeShapes Go.WideShapes Go.ChangeAt
set_option maxRecDepth 100000
theorem Tryd.laidOut : laidOutB Tryd.prog = true := by kernel_rfl
theorem Tryd.own : ownKnob Tryd.prog.godebug = none := by kernel_rfl
theorem cells_term : Tryd.prog.cellsOf 24 = 4 := by kernel_rfl
theorem cells_int : Tryd.prog.cellsOf 3 = 1 := by kernel_rfl
theorem cells_string : Tryd.prog.cellsOf 9 = 1 := by kernel_rfl
theorem cells_terms : Tryd.prog.cellsOf 22 = 1 := by kernel_rfl
section
variable {H : Type} {enc : TypeId × Value → H} {w : World} {base : Nat} {spare : Nat → Bool} {held : Bool}
theorem bulk_pos (d : DataW H) : 1 ≤ Rows.uptoBulk d := by
 cases d with
 | lit l => cases l <;> simp [Rows.uptoBulk]
 | nil => simp [Rows.uptoBulk]
 | ptr d => simp [Rows.uptoBulk]
 | slice elems spare => simp [Rows.uptoBulk]
 | agg parts => simp [Rows.uptoBulk]
 | iface t d => simp [Rows.uptoBulk]
 | map entries => simp [Rows.uptoBulk]
 | held h => simp [Rows.uptoBulk]
theorem bulk_mem {l : List (DataW H)} : ∀ {i : Nat} {d : DataW H}, l[i]? = some d → Rows.uptoBulk d ≤ Rows.uptoBulkAll l := by
 induction l with
 | nil => intro i d h; simp at h
 | cons x r ih =>
  intro i d h
  cases i with
  | zero => simp at h; subst h; simp [Rows.uptoBulkAll]
  | succ i =>
   have := ih (i := i) (d := d) (by simpa using h)
   simp only [Rows.uptoBulkAll]; omega
theorem open_cells {fuel : Nat} {cs : List Value} {x : DataW H × List MemPlace} (h : DataW.trod enc Tryd.prog w base spare held fuel 24 cs = some x) :
  ∃ (k n : Int) (s : ByteArray) (v : Value) (y : DataW H × List MemPlace) (m : Nat), cs = [.int .i64 k, .int .i64 n, .string s, v] ∧ DataW.trod enc Tryd.prog w base spare held m 22 [v] = some y ∧
   Rows.uptoBulk y.1 + 1 ≤ Rows.uptoBulk x.1 ∧ (Lit.int .i64 k).wf = true ∧ (Lit.int .i64 n).wf = true ∧ s.size ≤ maxLen ∧ s.size + Rows.uptoBulk y.1 + 3 ≤ Rows.uptoBulk x.1 := by
 obtain ⟨xs, m, _, hx, hlen, hxl, hf⟩ := DataW.trod_struct Tryd.underlying24 h
 rw [cells_term] at hlen
 have f0 : DataW.trod enc Tryd.prog w base spare held m 3 ((cs.drop 0).take (Tryd.prog.cellsOf 3)) = xs[0]? := hf 0 _ rfl
 have f1 : DataW.trod enc Tryd.prog w base spare held m 3 ((cs.drop 1).take (Tryd.prog.cellsOf 3)) = xs[1]? := hf 1 _ rfl
 have f2 : DataW.trod enc Tryd.prog w base spare held m 9 ((cs.drop 2).take (Tryd.prog.cellsOf 9)) = xs[2]? := hf 2 _ rfl
 have f3 : DataW.trod enc Tryd.prog w base spare held m 22 ((cs.drop 3).take (Tryd.prog.cellsOf 22)) = xs[3]? := hf 3 _ rfl
 rw [cells_int] at f0 f1
 rw [cells_string] at f2
 rw [cells_terms] at f3
 match cs, hlen, xs, hxl, hx with
 | [c0, c1, c2, c3], _, [y0, y1, y2, y3], _, hx =>
  simp only [List.drop_zero, List.drop_succ_cons, List.take_succ_cons, List.take_zero, List.getElem?_cons_zero, List.getElem?_cons_succ] at f0 f1 f2 f3
  obtain ⟨k, e0, r0, w0⟩ := DataW.trod_int Tryd.underlying3 f0
  obtain ⟨n, e1, r1, w1⟩ := DataW.trod_int Tryd.underlying3 f1
  obtain ⟨s, e2, r2, w2⟩ := DataW.trod_string Tryd.underlying9 f2
  simp only [List.cons.injEq, and_true] at e0 e1 e2
  subst e0 e1 e2 hx r0 r1 r2
  have h3 := bulk_pos y3.1
  have hsz : s.data.toList.length = s.size := by rw [Array.length_toList]; rfl
  refine ⟨k, n, s, c3, y3, m, rfl, f3, ?_, w0, w1, w2, ?_⟩
  ·simp only [List.map_cons, List.map_nil, Rows.uptoBulk, Rows.uptoBulkAll]; omega
  ·simp only [List.map_cons, List.map_nil, Rows.uptoBulk, Rows.uptoBulkAll]; omega
theorem addr_add {a : Addr} {i : Nat} {u : Value} (h : w.cell? (a.add i) = some u) (ha : a.spot = none) : w.cell? ⟨a.block, a.off + i, none⟩ = some u := by
 unfold Addr.add at h
 split at h
 ·rename_i e
  subst e
  obtain ⟨b, o, sp⟩ := a
  simp only at ha
  subst ha
  simpa using h
 ·exact h
theorem open_terms : ∀ (b fuel : Nat) (v : Value) (x : DataW H × List MemPlace), Rows.uptoBulk x.1 ≤ b → DataW.trod enc Tryd.prog w base spare held fuel 22 [v] = some x →
  ∃ T : Ts, Sl w (fun _ => True) v T ∧ T.nodes < Rows.uptoBulk x.1 := by
 intro b
 induction b with
 | zero => intro fuel v x hb _; have := bulk_pos x.1; omega
 | succ b ih =>
  intro fuel v x hb h
  rcases Deep.open_slice Tryd.underlying22 h with ⟨e, rfl⟩ | ⟨a, len, cap, m, n, D, Pl, e, _, hl, _, hm, rfl, hi⟩
  ·simp only [List.cons.injEq, and_true] at e
   subst e
   exact ⟨.nil, Sl.nil _ _, by simp [Rows.uptoBulk, Ts.nodes]⟩
  ·simp only [List.cons.injEq, and_true] at e
   subst e
   rw [cells_term] at hi
   have hml : len ≤ m := by rw [hm]; split <;> omega
   have hbulk : ∀ j, j < len → Rows.uptoBulk (D j) ≤ Rows.uptoBulkAll ((List.range len).map D) := fun j hj => bulk_mem (i := j) (by simp [hj])
   simp only [Rows.uptoBulk] at hb ⊢
   have hspot : 0 < len → a.spot = none := fun hp => by
    obtain ⟨cs, hc, ht⟩ := hi 0 (by omega)
    obtain ⟨k, n', s, v', y, m', rfl, _⟩ := open_cells ht
    obtain ⟨_, _, hat⟩ := World.cells?_some hc
    have h0 := hat 0 (by omega)
    simp only [Nat.zero_mul, Addr.add, if_true, List.getElem?_cons_zero] at h0
    unfold World.cell? at h0
    split at h0
    ·split at h0
     ·cases h0
     ·rename_i hs; simpa using hs
    ·cases h0
   have key : ∀ r j, j + r = len → ∃ T : Ts, T.length = r ∧ Seg w (fun _ => True) T a.block (a.off + j * 4) ∧ T.nodes ≤ Rows.uptoBulkAll ((List.range' j r).map D) := by
    intro r
    induction r with
    | zero => intro j _; exact ⟨.nil, rfl, trivial, Nat.zero_le _⟩
    | succ r ihr =>
     intro j hj
     obtain ⟨T, hT1, hT2, hT3⟩ := ihr (j + 1) (by omega)
     obtain ⟨cs, hc, ht⟩ := hi j (by omega)
     obtain ⟨k, n', s, v', y, m', rfl, hy, hyb, _⟩ := open_cells ht
     obtain ⟨_, _, hat⟩ := World.cells?_some hc
     have hbj := hbulk j (by omega)
     simp only at hyb
     obtain ⟨U, hU1, hU2⟩ := ih m' v' y (by omega) hy
     have hsp := hspot (by omega)
     have hcell : ∀ q u, q < 4 → [Value.int .i64 k, .int .i64 n', .string s, v'][q]? = some u → w.cell? ⟨a.block, a.off + j * 4 + q, none⟩ = some u := fun q u hq hu => by
      have h1 := (hat q hq).trans hu
      rw [Deep.add_add] at h1
      have h2 := addr_add h1 hsp
      rwa [← Nat.add_assoc] at h2
     refine ⟨.cons k n' s U T, by simp [Ts.length, hT1], ?_, ?_⟩
     ·refine seg_cons.2 ⟨trivial, by simpa using hcell 0 _ (by omega) rfl, hcell 1 _ (by omega) rfl, hcell 2 _ (by omega) rfl, ⟨v', hcell 3 _ (by omega) rfl, hU1⟩, ?_⟩
      rw [show a.off + j * 4 + 4 = a.off + (j + 1) * 4 by omega]
      exact hT2
     ·simp only [List.range'_succ, List.map_cons, Rows.uptoBulkAll, Ts.nodes]
      omega
   obtain ⟨T, h1, h2, h3⟩ := key len 0 (by omega)
   refine ⟨T, ⟨some a, cap, by rw [h1], by omega, fun hp => ⟨a.block, a.off, ?_, by simpa using h2⟩⟩, ?_⟩
   ·have := hspot (by omega)
    obtain ⟨b', o', sp⟩ := a
    simp only at this
    rw [this]
   ·rw [← List.range_eq_range'] at h3
    omega
end
theorem open_termsArg {H : Type} {enc : TypeId × Value → H} {W : World} {v : Value} {d : DataW H} {p : List MemPlace} (hv : v.cells.toList = [v]) (h : DataW.Trod enc Tryd.prog W 0 (fun _ => true) true 22 v d p) :
  ∃ T : Ts, Sl W (fun _ => True) v T ∧ T.nodes < Rows.uptoBulk d := by
 obtain ⟨fuel, hf⟩ := h
 rw [hv] at hf
 exact open_terms _ fuel v _ (Nat.le_refl _) hf
theorem trodAll_below {H : Type} {enc : TypeId × Value → H} {P : Program} (hl : laidOutB P = true) {W W' : World} (hb : Below W.heap.size W W') : ∀ {ts : List TypeId} {vs : List Value} {ds : List (DataW H)} {ps : List MemPlace}, (∀ t ∈ ts, P.readableRec t = true ∧ t < P.types.size) →
  DataW.TrodAll enc P W 0 (fun _ => true) true ts vs ds ps → (∀ x ∈ ps, x.block < W.heap.size) → DataW.TrodAll enc P W' 0 (fun b => decide (b < W.heap.size)) true ts vs ds ps
 | [], [], [], _, _, h, _ => h
 | [], [], _ :: _, _, _, h, _ => h.elim
 | [], _ :: _, _, _, _, h, _ => h.elim
 | _ :: _, [], _, _, _, h, _ => h.elim
 | _ :: _, _ :: _, [], _, _, h, _ => h.elim
 | t :: ts, v :: vs, d :: ds, ps, ht, ⟨p, q, h1, h2, e⟩, hlt => by
  subst e
  obtain ⟨a, b⟩ := ht t (List.mem_cons_self ..)
  exact ⟨p, q, Below.trod hl a b h1 hb fun x hx => hlt x (List.mem_append_left _ hx), trodAll_below hl hb (fun t ht' => ht t (List.mem_cons_of_mem _ ht')) h2 fun x hx => hlt x (List.mem_append_right _ hx), rfl⟩
theorem law_post {H : Type} {enc : TypeId × Value → H} {P : Program} {f : Func} {s : ChangeSpec} {W W' : World} {args : Array Value} {ds gs : List (DataW H)} {before : List MemPlace} (hl : laidOutB P = true) {bt : TypeId}
  (hres : f.resultTypes = #[bt]) (hbt : P.underlying bt = some .bool) (ht : (f.params.toList.all fun t => P.readableRec t && decide (t < P.types.size)) = true) (hvars : s.vars = [])
  (hfn : (s.fn H (ds ++ gs)).results = [.lit (.bool true)] ∧ (s.fn H (ds ++ gs)).args = ds ∧ (s.fn H (ds ++ gs)).vars = [])
  (hW : DataW.Whole enc P f.params.toList s.vars false W args.toList ds gs before) (hb : Below W.heap.size W W') :
  s.post enc P f false true false false W args (.bool true) W' := by
 have hlt := hW.lt
 have hW' := hW
 obtain ⟨p, q, hA, hV, rfl, hfz, hnd⟩ := hW
 refine ⟨ds, gs, p ++ q, [], p, [], hW', ?_, ?_, ?_, ?_, fun h => by cases h⟩
 ·rw [hfn.1, hres]
  exact trodAll_cons_mk (shut_bool hbt _) trodAll_mk0
 ·rw [hfn.2.1]
  exact trodAll_below hl hb (fun t h => by have := List.all_eq_true.1 ht t h; simpa using this) hA fun x hx => hlt x (List.mem_append_left _ hx)
 ·rw [hfn.2.2, hvars]
  rfl
 ·exact hb.frame _
end Go.Proofs.YtehhgmeaggempaaDoor
namespace Go.Proofs.YtehhgmeaggempaaDoor
open Go.RowKit Go.ChangeShapes Go.WideShapes Go.ChangeAt
set_option maxRecDepth 100000
theorem cells_clause : Tryd.prog.cellsOf 32 = 6 := by kernel_rfl
section
variable {H : Type} {enc : TypeId × Value → H} {w : World} {base : Nat} {spare : Nat → Bool} {held : Bool}
theorem open_ccells {fuel : Nat} {cs : List Value} {x : DataW H × List MemPlace} (h : DataW.trod enc Tryd.prog w base spare held fuel 32 cs = some x) :
  ∃ (k n vars : Int) (s : ByteArray) (u v : Value) (T B : Ts), cs = [.int .i64 k, .int .i64 n, .string s, u, v, .int .i64 vars] ∧ Sl w (fun _ => True) u T ∧ Sl w (fun _ => True) v B ∧ T.nodes + B.nodes + 1 < Rows.uptoBulk x.1 := by
 obtain ⟨xs, m, _, hx, hlen, hxl, hf⟩ := DataW.trod_struct Tryd.underlying32 h
 rw [cells_clause] at hlen
 have f0 : DataW.trod enc Tryd.prog w base spare held m 24 ((cs.drop 0).take (Tryd.prog.cellsOf 24)) = xs[0]? := hf 0 _ rfl
 have f1 : DataW.trod enc Tryd.prog w base spare held m 22 ((cs.drop 4).take (Tryd.prog.cellsOf 22)) = xs[1]? := hf 1 _ rfl
 have f2 : DataW.trod enc Tryd.prog w base spare held m 3 ((cs.drop 5).take (Tryd.prog.cellsOf 3)) = xs[2]? := hf 2 _ rfl
 rw [cells_term] at f0
 rw [cells_terms] at f1
 rw [cells_int] at f2
 match cs, hlen, xs, hxl, hx with
 | [c0, c1, c2, c3, c4, c5], _, [y0, y1, y2], _, hx =>
  simp only [List.drop_zero, List.drop_succ_cons, List.take_succ_cons, List.take_zero, List.getElem?_cons_zero, List.getElem?_cons_succ] at f0 f1 f2
  obtain ⟨k, n, s, u, y, m', e0, hy, hb, _, _, _, _⟩ := open_cells f0
  simp only [List.cons.injEq, and_true] at e0
  obtain ⟨rfl, rfl, rfl, rfl⟩ := e0
  obtain ⟨T, h1, h2⟩ := open_terms _ m' _ y (Nat.le_refl _) hy
  obtain ⟨B, h3, h4⟩ := open_terms _ m _ y1 (Nat.le_refl _) f1
  obtain ⟨vars, e2, _, _⟩ := DataW.trod_int Tryd.underlying3 f2
  simp only [List.cons.injEq, and_true] at e2
  subst e2 hx
  refine ⟨k, n, vars, s, _, _, T, B, rfl, h1, h3, ?_⟩
  simp only [List.map_cons, List.map_nil, Rows.uptoBulk, Rows.uptoBulkAll]
  omega
theorem open_clauses {fuel : Nat} {v : Value} {x : DataW H × List MemPlace} (h : DataW.trod enc Tryd.prog w base spare held fuel 25 [v] = some x) :
  ∃ L : List Cl, SlC w (fun _ => True) v L ∧ nodesC L < Rows.uptoBulk x.1 := by
 rcases Deep.open_slice Tryd.underlying25 h with ⟨e, rfl⟩ | ⟨a, len, cap, m, n, D, Pl, e, _, hl, _, hm, rfl, hi⟩
 ·simp only [List.cons.injEq, and_true] at e
  subst e
  exact ⟨[], ⟨none, 0, rfl, Nat.le_refl _, fun h => absurd h (Nat.lt_irrefl _)⟩, by simp [Rows.uptoBulk, nodesC]⟩
 ·simp only [List.cons.injEq, and_true] at e
  subst e
  rw [cells_clause] at hi
  have hml : len ≤ m := by rw [hm]; split <;> omega
  have hspot : 0 < len → a.spot = none := fun hp => by
   obtain ⟨cs, hc, ht⟩ := hi 0 (by omega)
   obtain ⟨k, n', vars, s, u, v', T, B, rfl, _⟩ := open_ccells ht
   obtain ⟨_, _, hat⟩ := World.cells?_some hc
   have h0 := hat 0 (by omega)
   simp only [Nat.zero_mul, Addr.add, if_true, List.getElem?_cons_zero] at h0
   unfold World.cell? at h0
   split at h0
   ·split at h0
    ·cases h0
    ·rename_i hs; simpa using hs
   ·cases h0
  have key : ∀ r j, j + r = len → ∃ L : List Cl, L.length = r ∧ SegC w (fun _ => True) L a.block (a.off + j * 6) ∧ nodesC L ≤ Rows.uptoBulkAll ((List.range' j r).map D) := by
   intro r
   induction r with
   | zero => intro j _; exact ⟨[], rfl, trivial, Nat.zero_le _⟩
   | succ r ihr =>
    intro j hj
    obtain ⟨L, hT1, hT2, hT3⟩ := ihr (j + 1) (by omega)
    obtain ⟨cs, hc, ht⟩ := hi j (by omega)
    obtain ⟨k, n', vars, s, u, v', T, B, rfl, h1, h2, h3⟩ := open_ccells ht
    obtain ⟨_, _, hat⟩ := World.cells?_some hc
    have hsp := hspot (by omega)
    have hcell : ∀ q u', q < 6 → [Value.int .i64 k, .int .i64 n', .string s, u, v', .int .i64 vars][q]? = some u' → w.cell? ⟨a.block, a.off + j * 6 + q, none⟩ = some u' := fun q u' hq hu => by
     have h1 := (hat q hq).trans hu
     rw [Deep.add_add] at h1
     have h2 := addr_add h1 hsp
     rwa [← Nat.add_assoc] at h2
    refine ⟨⟨k, n', s, T, B, vars⟩ :: L, by simp [hT1], ?_, ?_⟩
    ·refine ⟨trivial, by simpa using hcell 0 _ (by omega) rfl, hcell 1 _ (by omega) rfl, hcell 2 _ (by omega) rfl, ⟨u, hcell 3 _ (by omega) rfl, h1⟩, ⟨v', hcell 4 _ (by omega) rfl, h2⟩, hcell 5 _ (by omega) rfl, ?_⟩
     rw [show a.off + j * 6 + 6 = a.off + (j + 1) * 6 by omega]
     exact hT2
    ·simp only [List.range'_succ, List.map_cons, Rows.uptoBulkAll, nodesC, Cl.nodes]
     simp only at h3
     omega
  obtain ⟨L, h1, h2, h3⟩ := key len 0 (by omega)
  refine ⟨L, ⟨some a, cap, by rw [h1], by omega, fun hp => ⟨a.block, a.off, ?_, by simpa using h2⟩⟩, ?_⟩
  ·have := hspot (by omega)
   obtain ⟨b', o', sp⟩ := a
   simp only at this
   rw [this]
  ·rw [← List.range_eq_range'] at h3
   simp only [Rows.uptoBulk]
   omega
end
theorem open_clausesArg {H : Type} {enc : TypeId × Value → H} {W : World} {v : Value} {d : DataW H} {p : List MemPlace} (hv : v.cells.toList = [v]) (h : DataW.Trod enc Tryd.prog W 0 (fun _ => true) true 25 v d p) :
  ∃ L : List Cl, SlC W (fun _ => True) v L ∧ nodesC L < Rows.uptoBulk d := by
 obtain ⟨fuel, hf⟩ := h
 rw [hv] at hf
 exact open_clauses hf
end Go.Proofs.YtehhgmeaggempaaDoor
