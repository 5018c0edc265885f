/-
  From what an argument reads as to heaps and lists of numbers in memory.
-/
import Derived.Test.YtjicoifjgokoiabG10
import Derived.Test.YtjicoifjgokoiabG1
namespace Go.Proofs.Ytjicoifjgokoiab
open Go.RowKit Go.ChangeShapes Go.WideShapes Go.ChangeAt
set_option maxRecDepth 100000
set_option linter.unusedVariables false

theorem cells_cell : Try.prog.cellsOf 59 = 3 := by kernel_rfl
theorem cells_ccells : Try.prog.cellsOf 22 = 1 := by kernel_rfl
theorem cells_ints : Try.prog.cellsOf 23 = 1 := by kernel_rfl
theorem cells_heap : Try.prog.cellsOf 25 = 2 := by kernel_rfl

section
variable {H : Type} {enc : TypeId × Value → H} {w : World} {base : Nat} {spare : Nat → Bool} {held : Bool}
/-- A slice of elements that are read alike. -/
theorem open_flat {α : Type} (f : α → List Value) {sz st el : Nat} (hf : ∀ x, (f x).length = sz) (h0 : 0 < sz) (hst : Try.prog.underlying st = some (.slice el)) (hsz : Try.prog.cellsOf el = sz)
    (hel : ∀ (m : Nat) (cs : List Value) (x : DataW H × List MemPlace), DataW.trod enc Try.prog w base spare held m el cs = some x → ∃ a, cs = f a)
    {fuel : Nat} {v : Value} {x : DataW H × List MemPlace} (h : DataW.trod enc Try.prog w base spare held fuel st [v] = some x) :
    ∃ (L : List α) (A : Option Addr) (c : Nat), v = .slice A L.length c ∧ Flat sz (L.flatMap f) A L.length c w ∧ L.length ≤ 9223372036854775807 ∧ L.length < Rows.uptoBulk x.1 := by
  rcases Deep.open_slice hst h with ⟨e, rfl⟩ | ⟨a, len, cap, m, n, D, Pl, e, _, hl, hcm, hm, rfl, hi⟩
  · simp only [List.cons.injEq, and_true] at e
    subst e
    exact ⟨[], none, 0, rfl, Flat.nil_ _ _ _, by simp, by simp [Rows.uptoBulk]⟩
  · simp only [List.cons.injEq, and_true] at e
    subst e
    rw [hsz] at hi
    have hml : len ≤ m := by rw [hm]; split <;> omega
    have hspot : 0 < len → a.spot = none := fun hp => by
      obtain ⟨cs, hc, ht⟩ := hi 0 (by omega)
      obtain ⟨y, rfl⟩ := hel _ _ _ ht
      obtain ⟨_, _, hat⟩ := World.cells?_some hc
      have h1 := hat 0 (by omega)
      simp only [Nat.zero_mul, Addr.add, if_true] at h1
      rw [List.getElem?_eq_getElem (by rw [hf]; exact h0)] at h1
      unfold World.cell? at h1
      split at h1
      · split at h1
        · cases h1
        · rename_i hs; simpa using hs
      · cases h1
    have key : ∀ r j, j + r = len → ∃ L : List α, L.length = r ∧ (∀ q u, (L.flatMap f)[q]? = some u → w.cell? ⟨a.block, a.off + j * sz + q, none⟩ = some u) ∧ (L.flatMap f).length = r * sz ∧ r ≤ Rows.uptoBulkAll ((List.range' j r).map D) := by
      intro r
      induction r with
      | zero => intro j _; exact ⟨[], rfl, fun q u hq => by simp at hq, by simp, Nat.zero_le _⟩
      | succ r ihr =>
        intro j hj
        obtain ⟨L, hT1, hT2, hT3, hT4⟩ := ihr (j + 1) (by omega)
        obtain ⟨cs, hc, ht⟩ := hi j (by omega)
        obtain ⟨y, rfl⟩ := hel _ _ _ ht
        obtain ⟨_, _, hat⟩ := World.cells?_some hc
        have hsp := hspot (by omega)
        refine ⟨y :: L, by simp [hT1], fun q u hq => ?_, ?_, ?_⟩
        · rw [List.flatMap_cons] at hq
          by_cases hql : q < sz
          · rw [List.getElem?_append_left (by rw [hf]; exact hql)] at hq
            have h1 := (hat q hql).trans hq
            rw [Deep.add_add] at h1
            have h2 := addr_add h1 hsp
            rwa [← Nat.add_assoc] at h2
          · rw [List.getElem?_append_right (by rw [hf]; omega), hf] at hq
            have := hT2 _ _ hq
            rw [Nat.add_mul] at this
            rw [show a.off + j * sz + q = a.off + (j * sz + 1 * sz) + (q - sz) by omega]
            exact this
        · rw [List.flatMap_cons, List.length_append, hT3, hf, Nat.add_mul]; omega
        · simp only [List.range'_succ, List.map_cons, Rows.uptoBulkAll]
          have := bulk_pos (D j)
          omega
    obtain ⟨L, h1, h2, h3, h4⟩ := key len 0 (by omega)
    rw [← List.range_eq_range'] at h4
    refine ⟨L, some a, cap, by rw [h1], ⟨by rw [h3, h1], by omega, fun hp => ⟨a.block, a.off, ?_, by simpa using h2⟩⟩, by rw [h1]; have : maxLen = 9223372036854775807 := rfl; omega, ?_⟩
    · have := hspot (by omega)
      obtain ⟨b', o', sp⟩ := a
      simp only at this
      rw [this]
    · rw [h1]; simp only [Rows.uptoBulk]; omega
theorem open_intC {m : Nat} {cs : List Value} {x : DataW H × List MemPlace} (h : DataW.trod enc Try.prog w base spare held m 3 cs = some x) : ∃ a : Int, cs = [.int .i64 a] := by
  obtain ⟨k, e0, _, _⟩ := DataW.trod_int Try.underlying3 h
  exact ⟨k, e0⟩
theorem open_cellC {m : Nat} {cs : List Value} {x : DataW H × List MemPlace} (h : DataW.trod enc Try.prog w base spare held m 59 cs = some x) : ∃ c : HC, cs = hcs c := by
  obtain ⟨xs, m, _, hx, hlen, hxl, hf⟩ := DataW.trod_struct Try.underlying59 h
  rw [cells_cell] at hlen
  have f0 : DataW.trod enc Try.prog w base spare held m 3 ((cs.drop 0).take (Try.prog.cellsOf 3)) = xs[0]? := hf 0 _ rfl
  have f1 : DataW.trod enc Try.prog w base spare held m 3 ((cs.drop 1).take (Try.prog.cellsOf 3)) = xs[1]? := hf 1 _ rfl
  have f2 : DataW.trod enc Try.prog w base spare held m 9 ((cs.drop 2).take (Try.prog.cellsOf 9)) = xs[2]? := hf 2 _ rfl
  rw [cells_int] at f0 f1
  rw [cells_string] at f2
  match cs, hlen, xs, hxl, hx with
  | [c0, c1, c2], _, [y0, y1, y2], _, hx =>
    simp only [List.drop_zero, List.drop_succ_cons, List.take_succ_cons, List.take_zero, List.getElem?_cons_zero, List.getElem?_cons_succ] at f0 f1 f2
    obtain ⟨k, e0, r0, w0⟩ := DataW.trod_int Try.underlying3 f0
    obtain ⟨n, e1, r1, w1⟩ := DataW.trod_int Try.underlying3 f1
    obtain ⟨s, e2, r2, w2⟩ := DataW.trod_string Try.underlying9 f2
    simp only [List.cons.injEq, and_true] at e0 e1 e2
    subst e0 e1 e2
    exact ⟨⟨k, n, s⟩, rfl⟩
theorem hcsL_flat (L : List HC) : L.flatMap hcs = hcsL L := by
  induction L with
  | nil => rfl
  | cons c r ih => rw [List.flatMap_cons, ih]; rfl
theorem intsV_flat (L : List Int) : (L.flatMap fun x => [Value.int .i64 x]) = intsV L := by
  induction L with
  | nil => rfl
  | cons c r ih => rw [List.flatMap_cons, ih]; rfl
theorem open_intsT {fuel : Nat} {v : Value} {x : DataW H × List MemPlace} (h : DataW.trod enc Try.prog w base spare held fuel 23 [v] = some x) :
    ∃ (L : List Int) (A : Option Addr) (c : Nat), v = .slice A L.length c ∧ Flat 1 (intsV L) A L.length c w ∧ L.length ≤ 9223372036854775807 ∧ L.length < Rows.uptoBulk x.1 := by
  have := open_flat (α := Int) (fun x => [Value.int .i64 x]) (sz := 1) (fun _ => rfl) (by omega) Try.underlying23 cells_int (fun m cs x h => open_intC h) h
  simpa only [intsV_flat] using this
theorem open_cellsT {fuel : Nat} {v : Value} {x : DataW H × List MemPlace} (h : DataW.trod enc Try.prog w base spare held fuel 22 [v] = some x) :
    ∃ (L : List HC) (A : Option Addr) (c : Nat), v = .slice A L.length c ∧ Flat 3 (hcsL L) A L.length c w ∧ L.length ≤ 9223372036854775807 ∧ L.length < Rows.uptoBulk x.1 := by
  have := open_flat (α := HC) hcs (sz := 3) (fun _ => rfl) (by omega) Try.underlying22 cells_cell (fun m cs x h => open_cellC h) h
  simpa only [hcsL_flat] using this
end
/-- A list of numbers, as an argument. -/
theorem open_intsArg {H : Type} {enc : TypeId × Value → H} {W : World} {v : Value} {d : DataW H} {p : List MemPlace} (hv : v.cells.toList = [v]) (h : DataW.Trod enc Try.prog W 0 (fun _ => true) true 23 v d p) :
    ∃ (L : List Int) (A : Option Addr) (c : Nat), v = .slice A L.length c ∧ Flat 1 (intsV L) A L.length c W ∧ L.length ≤ 9223372036854775807 ∧ L.length < Rows.uptoBulk d := by
  obtain ⟨fuel, hf⟩ := h
  rw [hv] at hf
  exact open_intsT hf
/-- A list of cells, as an argument. -/
theorem open_cellsArg {H : Type} {enc : TypeId × Value → H} {W : World} {v : Value} {d : DataW H} {p : List MemPlace} (hv : v.cells.toList = [v]) (h : DataW.Trod enc Try.prog W 0 (fun _ => true) true 22 v d p) :
    ∃ (L : List HC) (A : Option Addr) (c : Nat), v = .slice A L.length c ∧ Flat 3 (hcsL L) A L.length c W ∧ L.length ≤ 9223372036854775807 ∧ L.length < Rows.uptoBulk d := by
  obtain ⟨fuel, hf⟩ := h
  rw [hv] at hf
  exact open_cellsT hf
/-- A heap, as an argument. -/
theorem open_heapArg {H : Type} {enc : TypeId × Value → H} {W : World} {b : Nat} {v : Value} {d : DataW H} {p : List MemPlace} (hok : Value.okWide Try.prog W .any b 25 v) (h : DataW.Trod enc Try.prog W 0 (fun _ => true) true 25 v d p) :
    ∃ (h : HH) (A : Option Addr) (c : Nat) (B : Option Addr) (e : Nat), v = hv h A c B e ∧ HFl h A c B e W ∧ h.cs.length ≤ 9223372036854775807 ∧ h.tr.length ≤ 9223372036854775807 ∧ h.cs.length + h.tr.length < Rows.uptoBulk d := by
  obtain ⟨fuel, h⟩ := h
  obtain ⟨cs, rfl, hsz⟩ := okWide_struct Try.underlying25 hok
  obtain ⟨xs, m, _, hx, hlen, hxl, hf⟩ := DataW.trod_struct Try.underlying25 h
  rw [cells_heap] at hlen
  obtain ⟨cs⟩ := cs
  replace hf : ∀ i fd, _ → _ := hf
  have f0 : DataW.trod enc Try.prog W 0 (fun _ => true) true m 22 ((cs.drop 0).take (Try.prog.cellsOf 22)) = xs[0]? := hf 0 _ rfl
  have f1 : DataW.trod enc Try.prog W 0 (fun _ => true) true m 23 ((cs.drop 1).take (Try.prog.cellsOf 23)) = xs[1]? := hf 1 _ rfl
  rw [cells_ccells] at f0
  rw [cells_ints] at f1
  replace hlen : cs.length = 2 := hlen
  match cs, hlen, xs, hxl, hx with
  | [c0, c1], _, [y0, y1], _, hx =>
    simp only [List.drop_zero, List.drop_succ_cons, List.take_succ_cons, List.take_zero, List.getElem?_cons_zero, List.getElem?_cons_succ] at f0 f1
    obtain ⟨L, A, c, rfl, hL, hl, hlb⟩ := open_cellsT f0
    obtain ⟨T, B, e, rfl, hT, ht, htb⟩ := open_intsT f1
    have hd := congrArg (fun q => Rows.uptoBulk q.1) hx
    simp only [List.map_cons, List.map_nil, Rows.uptoBulk, Rows.uptoBulkAll] at hd
    exact ⟨⟨L, T⟩, A, c, B, e, rfl, ⟨hL, hT⟩, hl, ht, by show L.length + T.length < _; omega⟩
end Go.Proofs.Ytjicoifjgokoiab
