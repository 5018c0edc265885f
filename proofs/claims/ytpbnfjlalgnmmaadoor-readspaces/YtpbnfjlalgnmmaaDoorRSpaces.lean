/-
  The card of ReadSpaces, the first form: the law answers true, and its arguments read as before; the variables that the row lists are as the program's text and Go's own library lay them.
-/
import Derived.Test.YtpbnfjlalgnmmaaDoorLSpaces
import Derived.Test.YtpbnfjlalgnmmaaDoorOpenC
import Derived.Test.YtpbnfjlalgnmmaaDoorCards
import Derived.Test.YtpbnfjlalgnmmaaDoorTie
import Derived.Deep.DeepHandedRow
import Derived.Lib.LaidTab
import Derived.LaidSub
import Derived.Stop.LaidErr
namespace Go.Proofs.YtpbnfjlalgnmmaaDoor
open Go.RowKit Go.ChangeShapes Go.WideShapes Go.ChangeAt
set_option linter.unusedVariables false
set_option maxRecDepth 100000

theorem var_below {P : Program} {W W' : World} {n : String} {cs : Array Value} (h : W.var? P n = some cs) (hb : Below W.heap.size W W') : W'.var? P n = some cs := by
  unfold World.var? at h ⊢
  cases hg : P.globalNamed n with
  | none => simp [hg] at h
  | some g =>
    simp only [hg, Option.bind_some] at h ⊢
    have hlt : g < W.heap.size := by
      rcases Nat.lt_or_ge g W.heap.size with h' | h'
      · exact h'
      · simp [Array.getElem?_eq_none h'] at h
    rw [hb.block g hlt]
    exact h
theorem GVars.below {W W' : World} (g : GVars W) (hb : Below W.heap.size W W') : GVars W' := by
  obtain ⟨⟨t1, p1, h1⟩, ⟨t2, p2, h2⟩, h3⟩ := g
  exact ⟨⟨t1, p1, var_below h1 hb⟩, ⟨t2, p2, var_below h2 hb⟩, var_below h3 hb⟩
theorem err_star : "*" ++ "errors.errorString" = "*errors.errorString" := by kernel_rfl
theorem err_row : ∀ u, Tryd.prog.typeName? 3 u = some "*errors.errorString" → u = 146 :=
  fun u h => typeName_ptr_named (nm := "errors.errorString") (by rw [err_star]; kernel_rfl) (by kernel_rfl) (by decide) u (by rw [err_star]; exact h)
theorem gvars_of {W : World} (h : laidMetH Tryd.prog Rows.readSpacesRow.laid W) : GVars W := by
  have h0 := (laidMetH_iff.1 h).1
  have e : (Rows.readSpacesRow.laid.filter fun x => x.2.handleName?.isNone) = Rows.readSpacesRow.laid := by kernel_rfl
  rw [e] at h0
  have h3 : laidMet Tryd.prog (("internal/strconv.uint64pow10", Lib.tabData .u64 Lib.pow10Tab) :: _) W := laidMet.tail (laidMet.tail h0)
  have h5 := laidMet.tail (laidMet.tail h3)
  have h6 := laidMet.tail h5
  refine ⟨?_, ?_, Lib.tabIs_of_head (g := 3) (t := 133) (e := 121) (n := 20) (by kernel_rfl) (by kernel_rfl) (by kernel_rfl) (by kernel_rfl) (by kernel_rfl) (by kernel_rfl) h3⟩
  · obtain ⟨a, s, hv, _⟩ := laid_sentinel (g := 4) (ti := 90) (tp := 146) (te := 148) (ts := 9) h6 (by kernel_rfl) (by kernel_rfl) Tryd.underlying90 err_row (by kernel_rfl) Tryd.underlying148 rfl rfl (by kernel_rfl) (by kernel_rfl) (by kernel_rfl)
    exact ⟨_, _, hv⟩
  · obtain ⟨a, s, hv, _⟩ := laid_sentinel (g := 5) (ti := 90) (tp := 146) (te := 148) (ts := 9) h5 (by kernel_rfl) (by kernel_rfl) Tryd.underlying90 err_row (by kernel_rfl) Tryd.underlying148 rfl rfl (by kernel_rfl) (by kernel_rfl) (by kernel_rfl)
    exact ⟨_, _, hv⟩
theorem open_str {H : Type} {enc : TypeId × Value → H} {W : World} {base0 : Nat} {v : Value} {d : DataW H} {p : List MemPlace} (hv : Value.okWide Tryd.prog W .any base0 9 v) (h : DataW.Trod enc Tryd.prog W 0 (fun _ => true) true 9 v d p) :
    ∃ l : Str, v = sv l ∧ d = .lit (.string l) := by
  obtain ⟨s, rfl⟩ := okWide_string Tryd.underlying9 hv
  obtain ⟨fuel, hf⟩ := h
  obtain ⟨s', hc, hx, _⟩ := DataW.trod_string Tryd.underlying9 hf
  have hs : s = s' := by simpa [Value.cells] using hc
  subst hs
  simp only [Prod.mk.injEq] at hx
  obtain ⟨rfl, _⟩ := hx
  exact ⟨s.data.toList, by cases s; simp [sv], rfl⟩
theorem spaces_called (H : Type) (enc : TypeId × Value → H) (W : World) (base : Nat) (args : Array Value) (ds gs : List (DataW H)) (before : List MemPlace)
    (hval : ∀ (j : Nat) t v, Tryd.f5.params[j]? = some t → args[j]? = some v → Value.okWide Tryd.prog W .any base t v)
    (hW : DataW.Whole enc Tryd.prog Tryd.f5.params.toList Rows.readSpacesSpec.vars false W args.toList ds gs before) (hk : (DataW.weightsEach Tryd.prog (Tryd.f5.params.toList ++ (OpenSpec.ofChange Rows.readSpacesSpec).bare.plain.varTypes Tryd.prog) (ds ++ gs)).all (· ≤ reachBytes) = true) (hL : laidMetH Tryd.prog Rows.readSpacesRow.laid W) :
    Calls Tryd.prog 5 args W fun e W' => ∃ v, e = .returned v ∧ Rows.readSpacesSpec.post enc Tryd.prog Tryd.f5 false true false false W args v W' := by
  have hW' := hW
  obtain ⟨p, q, hA0, hV, rfl, hfz, hnd⟩ := hW
  have hA : DataW.TrodAll enc Tryd.prog W 0 (fun _ => true) true Tryd.f5.params.toList args.toList ds p := hA0
  clear hA0
  rw [Tryd.params5] at hA hval hk
  obtain ⟨v0, vs0, d0, ds0, p0, q0, hargs, rfl, rfl, h0, r0⟩ := trodAll_cons hA
  obtain ⟨v1, vs1, d1, ds1, p1, q1, rfl, rfl, rfl, h1, r1⟩ := trodAll_cons r0
  obtain ⟨rfl, rfl, rfl⟩ := trodAll_nil r1
  obtain rfl : args = #[v0, v1] := by cases args; simp_all
  obtain ⟨rfl, rfl⟩ := trodVars_none hV
  obtain ⟨l, rfl, rfl⟩ := open_str (hval 0 _ v0 rfl rfl) h0
  obtain ⟨g, rfl, rfl⟩ := open_str (hval 1 _ v1 rfl rfl) h1
  have hk0 : l.length ≤ reachBytes := of_decide_eq_true (List.all_eq_true.1 hk l.length (by show _ ∈ DataW.weightsEach Tryd.prog (_ :: _ :: _) [_, _]; simp [DataW.weightsEach, DataW.weights]))
  have hk1 : g.length ≤ reachBytes := of_decide_eq_true (List.all_eq_true.1 hk g.length (by show _ ∈ DataW.weightsEach Tryd.prog (_ :: _ :: _) [_, _]; simp [DataW.weightsEach, DataW.weights]))
  have hr : reachBytes = 140737488351232 := rfl
  refine (spaces_any l g W (fun w' hw => (gvars_of hL).below hw.below) (by omega) (by omega)).mono fun e W' ⟨he, hB⟩ => ?_
  subst he
  exact ⟨_, rfl, law_post (f := Tryd.f5) Tryd.laidOut (bt := 4) (by kernel_rfl) Tryd.underlying4 (by kernel_rfl) rfl ⟨rfl, rfl, rfl⟩ hW' hB⟩
end Go.Proofs.YtpbnfjlalgnmmaaDoor
