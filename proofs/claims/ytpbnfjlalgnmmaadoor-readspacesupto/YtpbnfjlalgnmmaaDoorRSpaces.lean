/-
  The card of ReadSpaces, where what it reads is of bulk at most 1048576: the law answers true, and its arguments read as before; the variables that the row lists are as the program's text and Go's own library lay them.
-/
import Derived.Test.YtpbnfjlalgnmmaaDoorLSpaces
import Derived.Test.YtpbnfjlalgnmmaaDoorOpenC
import Derived.Test.YtpbnfjlalgnmmaaDoorCards
import Derived.Test.YtpbnfjlalgnmmaaDoorTie
import Derived.Deep.DeepHandedRow
import Derived.Lib.LaidTab
import Derived.LaidSub
import Derived.Stop.LaidErr
namespace Go.Proofs.YtpbnfjlalgnmmaaDoor
open Go.RowKit Go.ChangeShapes Go.WideShapes Go.ChangeAt
set_option linter.unusedVariables false
set_option maxRecDepth 100000

theorem var_below {P : Program} {W W' : World} {n : String} {cs : Array Value} (h : W.var? P n = some cs) (hb : Below W.heap.size W W') : W'.var? P n = some cs := by
  unfold World.var? at h ⊢
  cases hg : P.globalNamed n with
  | none => simp [hg] at h
  | some g =>
    simp only [hg, Option.bind_some] at h ⊢
    have hlt : g < W.heap.size := by
      rcases Nat.lt_or_ge g W.heap.size with h' | h'
      · exact h'
      · simp [Array.getElem?_eq_none h'] at h
    rw [hb.block g hlt]
    exact h
theorem GVars.below {W W' : World} (g : GVars W) (hb : Below W.heap.size W W') : GVars W' := by
  obtain ⟨⟨t1, p1, h1⟩, ⟨t2, p2, h2⟩, h3⟩ := g
  exact ⟨⟨t1, p1, var_below h1 hb⟩, ⟨t2, p2, var_below h2 hb⟩, var_below h3 hb⟩
theorem err_star : "*" ++ "errors.errorString" = "*errors.errorString" := by kernel_rfl
theorem err_row : ∀ u, Tryd.prog.typeName? 3 u = some "*errors.errorString" → u = 146 :=
  fun u h => typeName_ptr_named (nm := "errors.errorString") (by rw [err_star]; kernel_rfl) (by kernel_rfl) (by decide) u (by rw [err_star]; exact h)
theorem gvars_of {W : World} (h : laidMetH Tryd.prog Rows.readSpacesUptoRow.laid W) : GVars W := by
  have h0 := (laidMetH_iff.1 h).1
  have e : (Rows.readSpacesUptoRow.laid.filter fun x => x.2.handleName?.isNone) = Rows.readSpacesUptoRow.laid := by kernel_rfl
  rw [e] at h0
  have h3 : laidMet Tryd.prog (("internal/strconv.uint64pow10", Lib.tabData .u64 Lib.pow10Tab) :: _) W := laidMet.tail (laidMet.tail h0)
  have h5 := laidMet.tail (laidMet.tail h3)
  have h6 := laidMet.tail h5
  refine ⟨?_, ?_, Lib.tabIs_of_head (g := 3) (t := 133) (e := 121) (n := 20) (by kernel_rfl) (by kernel_rfl) (by kernel_rfl) (by kernel_rfl) (by kernel_rfl) (by kernel_rfl) h3⟩
  · obtain ⟨a, s, hv, _⟩ := laid_sentinel (g := 4) (ti := 90) (tp := 146) (te := 148) (ts := 9) h6 (by kernel_rfl) (by kernel_rfl) Tryd.underlying90 err_row (by kernel_rfl) Tryd.underlying148 rfl rfl (by kernel_rfl) (by kernel_rfl) (by kernel_rfl)
    exact ⟨_, _, hv⟩
  · obtain ⟨a, s, hv, _⟩ := laid_sentinel (g := 5) (ti := 90) (tp := 146) (te := 148) (ts := 9) h5 (by kernel_rfl) (by kernel_rfl) Tryd.underlying90 err_row (by kernel_rfl) Tryd.underlying148 rfl rfl (by kernel_rfl) (by kernel_rfl) (by kernel_rfl)
    exact ⟨_, _, hv⟩
theorem open_str {H : Type} {enc : TypeId × Value → H} {W : World} {base0 : Nat} {v : Value} {d : DataW H} {p : List MemPlace} (hv : Value.okWide Tryd.prog W .any base0 9 v) (h : DataW.Trod enc Tryd.prog W 0 (fun _ => true) true 9 v d p) :
    ∃ l : Str, v = sv l ∧ l.length < Rows.uptoBulk d := by
  obtain ⟨s, rfl⟩ := okWide_string Tryd.underlying9 hv
  obtain ⟨fuel, hf⟩ := h
  obtain ⟨s', hc, hx, _⟩ := DataW.trod_string Tryd.underlying9 hf
  have hs : s = s' := by simpa [Value.cells] using hc
  subst hs
  simp only [Prod.mk.injEq] at hx
  obtain ⟨rfl, _⟩ := hx
  exact ⟨s.data.toList, by cases s; simp [sv], by simp [Rows.uptoBulk]⟩
theorem spaces_called (H : Type) (enc : TypeId × Value → H) (W : World) (base : Nat) (args : Array Value) (ds gs : List (DataW H)) (before : List MemPlace)
    (hval : ∀ (j : Nat) t v, Tryd.f5.params[j]? = some t → args[j]? = some v → Value.okWide Tryd.prog W .any base t v)
    (hW : DataW.Whole enc Tryd.prog Tryd.f5.params.toList Rows.readSpacesSpec.vars false W args.toList ds gs before) (hk : Rows.uptoSmall H (ds ++ gs) = true) (hL : laidMetH Tryd.prog Rows.readSpacesUptoRow.laid W) :
    Calls Tryd.prog 5 args W fun e W' => ∃ v, e = .returned v ∧ Rows.readSpacesSpec.post enc Tryd.prog Tryd.f5 false true false false W args v W' := by
  have hW' := hW
  obtain ⟨p, q, hA0, hV, rfl, hfz, hnd⟩ := hW
  have hA : DataW.TrodAll enc Tryd.prog W 0 (fun _ => true) true Tryd.f5.params.toList args.toList ds p := hA0
  clear hA0
  rw [Tryd.params5] at hA hval
  obtain ⟨v0, vs0, d0, ds0, p0, q0, hargs, rfl, rfl, h0, r0⟩ := trodAll_cons hA
  obtain ⟨v1, vs1, d1, ds1, p1, q1, rfl, rfl, rfl, h1, r1⟩ := trodAll_cons r0
  obtain ⟨rfl, rfl, rfl⟩ := trodAll_nil r1
  obtain rfl : args = #[v0, v1] := by cases args; simp_all
  obtain ⟨rfl, rfl⟩ := trodVars_none hV
  have hb : Rows.uptoBulk d0 + (Rows.uptoBulk d1 + 0) ≤ 1048576 := of_decide_eq_true hk
  obtain ⟨l, rfl, hl⟩ := open_str (hval 0 _ v0 rfl rfl) h0
  obtain ⟨g, rfl, hg⟩ := open_str (hval 1 _ v1 rfl rfl) h1
  refine (spaces_any l g W (fun w' hw => (gvars_of hL).below hw.below) (by omega) (by omega)).mono fun e W' ⟨he, hB⟩ => ?_
  subst he
  exact ⟨_, rfl, law_post (f := Tryd.f5) Tryd.laidOut (bt := 4) (by kernel_rfl) Tryd.underlying4 (by kernel_rfl) rfl ⟨rfl, rfl, rfl⟩ hW' hB⟩
def withCells2 (cs : Array Value) : Obj → Obj
  | .cells _ t frozen => .cells cs t frozen
  | o => o
def cellOfLit : DataW Unit → Value
  | .lit (.int k z) => .int k z
  | _ => .pointer none
def tabOf : DataW Unit → Array Value
  | .agg ds => (ds.map cellOfLit).toArray
  | _ => #[]
def synT : ByteArray := ⟨#[105, 110, 118, 97, 108, 105, 100, 32, 115, 121, 110, 116, 97, 120]⟩
def rngT : ByteArray := ⟨#[118, 97, 108, 117, 101, 32, 111, 117, 116, 32, 111, 102, 32, 114, 97, 110, 103, 101]⟩
noncomputable def low : Nat := (World.holding Tryd.prog default ⟨#[], #[], []⟩).heap.size
noncomputable def laidHeap (h : Array Obj) : Array Obj :=
  (((((((h.modify 0 (withCells2 (Go.Pinned.utf8FirstZ.map fun (x : Nat) => Value.int .u8 (x : Int)).toArray)).modify 1 (withCells2 (([128, 191, 160, 191, 128, 159, 144, 191, 128, 143] ++ List.replicate 22 (0 : Int)).map fun x => Value.int .u8 x).toArray)).modify 3 (withCells2 (tabOf Rows.laid_internal_strconv_uint64pow10))).modify 4
    (withCells2 #[.iface 146 (.pointer (some ⟨low, 0, none⟩))])).modify 5 (withCells2 #[.iface 146 (.pointer (some ⟨low + 1, 0, none⟩))])).modify 6 (withCells2 (tabOf Rows.laid_math_bits_deBruijn32tab))).modify 7 (withCells2 (tabOf Rows.laid_math_bits_deBruijn64tab)))
/-- A world for the witness: the variables hold what is listed. -/
noncomputable def laidSix (os : Os) : World :=
  { World.holding Tryd.prog os ⟨#[.cells #[.string synT] 148, .cells #[.string rngT] 148], #[], []⟩ with heap := laidHeap (World.holding Tryd.prog os ⟨#[.cells #[.string synT] 148, .cells #[.string rngT] 148], #[], []⟩).heap }
theorem six_met (os : Os) : laidMet Tryd.prog Rows.readSpacesUptoRow.laid ((laidSix os).forCall (fun _ _ => 0) ⟨#[], #[.string .empty, .string .empty], []⟩).memory :=
  laidMet_of_run' 8 (by kernel_rfl) (by kernel_rfl)
end Go.Proofs.YtpbnfjlalgnmmaaDoor
