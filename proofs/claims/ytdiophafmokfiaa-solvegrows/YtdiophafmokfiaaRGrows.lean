/-
  SolveGrows answers true for every program, query, number of variables and fuel: a clause of a name that nobody asks for changes nothing; and its arguments read as before.
  Conditions: none but those of the row: each argument reads as plain data.
-/
import Derived.Test.YtdiophafmokfiaaG11
import Derived.Test.YtdiophafmokfiaaG12
import Derived.JoinedOf
namespace Go.Proofs.Ytdiophafmokfiaa
open Go.RowKit Go.ChangeShapes Go.WideShapes Go.ChangeAt

/-- A clause, as an argument. -/
theorem open_clauseArgW {H : Type} {enc : TypeId × Value → H} {W : World} {b : Nat} {v : Value} {d : DataW H} {p : List MemPlace} (hv : Value.okWide Try.prog W .any b 47 v) (h : DataW.Trod enc Try.prog W 0 (fun _ => true) true 47 v d p) :
    ∃ (c : Cl) (u x : Value), v = .agg #[.int .i64 c.k, .int .i64 c.n, .string c.s, u, x, .int .i64 c.vars] ∧ Sl W (fun _ => True) u c.hd ∧ Sl W (fun _ => True) x c.bd ∧ ClsWide [c] := by
  obtain ⟨fuel, h⟩ := h
  obtain ⟨cs, rfl, hsz⟩ := okWide_struct Try.underlying47 hv
  obtain ⟨k, n, vars, s, u, x, T, B, e, h1, h2, h3⟩ := open_ccellsW h
  refine ⟨⟨k, n, s, T, B, vars⟩, u, x, ?_, h1, h2, fun c hc => ?_⟩
  · congr 1
    exact Array.toList_inj.1 e
  · rw [List.mem_singleton.1 hc]; exact h3

theorem grows_called (H : Type) (enc : TypeId × Value → H) (W : World) (base : Nat) (args : Array Value) (ds gs : List (DataW H)) (before : List MemPlace)
    (hval : ∀ (j : Nat) t v, Try.f7.params[j]? = some t → args[j]? = some v → Value.okWide Try.prog W .any base t v)
    (hW : DataW.Whole enc Try.prog Try.f7.params.toList Rows.solveGrowsSpec.vars false W args.toList ds gs before) :
    Calls Try.prog 7 args W fun e W' => ∃ v, e = .returned v ∧ Rows.solveGrowsSpec.post enc Try.prog Try.f7 false true false false W args v W' := by
  have hW' := hW
  obtain ⟨p, q, hA0, hV, rfl, hfz, hnd⟩ := hW
  have hA : DataW.TrodAll enc Try.prog W 0 (fun _ => true) true Try.f7.params.toList args.toList ds p := hA0
  clear hA0
  rw [Try.params7] at hA hval
  obtain ⟨v0, vs0, d0, ds0, p0, q0, hargs, rfl, rfl, h0, r0⟩ := trodAll_cons hA
  obtain ⟨v1, vs1, d1, ds1, p1, q1, rfl, rfl, rfl, h1, r1⟩ := trodAll_cons r0
  obtain ⟨v2, vs2, d2, ds2, p2, q2, rfl, rfl, rfl, h2, r2⟩ := trodAll_cons r1
  obtain ⟨v3, vs3, d3, ds3, p3, q3, rfl, rfl, rfl, h3, r3⟩ := trodAll_cons r2
  obtain ⟨v4, vs4, d4, ds4, p4, q4, rfl, rfl, rfl, h4, r4⟩ := trodAll_cons r3
  obtain ⟨rfl, rfl, rfl⟩ := trodAll_nil r4
  obtain rfl : args = #[v0, v1, v2, v3, v4] := by cases args; simp_all
  obtain ⟨rfl, rfl⟩ := trodVars_none hV
  obtain ⟨sa, sl, sc, rfl⟩ := okWide_slice Try.underlying35 (hval 0 _ v0 rfl rfl)
  obtain ⟨sa1, sl1, sc1, rfl⟩ := okWide_slice Try.underlying22 (hval 1 _ v1 rfl rfl)
  obtain ⟨L, hl, hL, hLw⟩ := open_clausesArgW rfl h0
  obtain ⟨T, ht, hT, hTw⟩ := open_termsArgW rfl h1
  obtain ⟨a, rfl, rfl, rfl, _⟩ := open_int Try.underlying3 (hval 2 _ v2 rfl rfl) h2
  obtain ⟨f, rfl, rfl, rfl, _⟩ := open_int Try.underlying3 (hval 3 _ v3 rfl rfl) h3
  obtain ⟨c, u, x, rfl, hu, hx, hcw⟩ := open_clauseArgW (hval 4 _ v4 rfl rfl) h4
  refine (solveGrows_any L T _ _ a f c u x W hl ht hu hx hL hLw hT hTw hcw).mono fun e W' ⟨he, hB⟩ => ?_
  subst he
  exact ⟨_, rfl, law_post (f := Try.f7) Try.laidOut (bt := 4) (by kernel_rfl) Try.underlying4 (by kernel_rfl) rfl ⟨rfl, rfl, rfl⟩ hW' hB⟩

set_option maxRecDepth 100000 in
theorem grows_lifted (os : Os) (started : os.Started) (H : Type) (enc : TypeId × Value → H) :
    ReturnsInHanded {} Try.checked os 7 .any (Rows.solveGrowsSpec.pre6 enc Try.prog Try.f7 Rows.solveGrowsRow.domain false) (Rows.solveGrowsSpec.post enc Try.prog Try.f7 false true false false) := by
  refine returnsInHanded_of_change (C := Try.checked) (s := Rows.solveGrowsSpec) Try.own started (by kernel_rfl) Try.func7
    (ChangeSpec.witness6 (enc := enc) (C := Try.checked) (s := Rows.solveGrowsSpec) false
      ⟨#[], #[.slice none 0 0, .slice none 0 0, .int .i64 0, .int .i64 0, .agg #[.int .i64 0, .int .i64 0, .string .empty, .slice none 0 0, .slice none 0 0, .int .i64 0]], []⟩ 8 (by kernel_rfl) (by kernel_rfl) (by kernel_rfl) (by kernel_rfl)) ?_
  intro W base args ds gs before hval hW _ _
  exact grows_called H enc W base args ds gs before hval hW

theorem solveGrows_holds : Rows.SolveGrowsSaid :=
  OpenClaim.holds_of_wide 7 Try.f7 rfl rfl rfl rfl rfl rfl rfl ⟨rfl, rfl, rfl, rfl, rfl⟩ rfl rfl rfl rfl rfl (by kernel_rfl) Try.func7 (by kernel_rfl)
    (of_decide_eq_true (by kernel_rfl)) (by unfold Func.isWrapper; first | (rw [if_pos (by decide +kernel)]; kernel_rfl) | (rw [if_neg (by decide +kernel)]; exact ⟨rfl, rfl⟩))
    (fun os started H enc _ => grows_lifted os started H enc)
end Go.Proofs.Ytdiophafmokfiaa
