/- Steps of the proof. -/
import Derived.Deep.Fields
import Derived.OpenShut
import Derived.Test.YthliapbflkfdiacGreatDoorG14
import Derived.Test.YthliapbflkfdiacGreatDoorCards
import Derived.Test.YthliapbflkfdiacGreatDoorTie
import Derived.Deep.DeepHandedRow
import Derived.Stop.LaidErr
namespace Go.Proofs.YthliapbflkfdiacGreatDoor
open Go.RowKit Go.ChangeShapes Go.WideShapes Go.ChangeAt
set_option maxRecDepth 100000
theorem Tryz.laidOut : laidOutB Tryz.prog = true := by kernel_rfl
theorem Tryz.own : ownKnob Tryz.prog.godebug = none := by kernel_rfl
section
variable {H : Type} {enc : TypeId × Value → H} {w : World} {base : Nat} {spare : Nat → Bool} {held : Bool}
end
theorem Qe3 {H : Type} {enc : TypeId × Value → H} {P : Program} (hl : laidOutB P = true) {W W' : World} (hb : Below W.heap.size W W') : ∀ {ts : List TypeId} {vs : List Value} {ds : List (DataW H)} {ps : List MemPlace}, (∀ t ∈ ts, P.readableRec t = true ∧ t < P.types.size) →
  DataW.TrodAll enc P W 0 (fun _ => true) true ts vs ds ps → (∀ x ∈ ps, x.block < W.heap.size) → DataW.TrodAll enc P W' 0 (fun b => decide (b < W.heap.size)) true ts vs ds ps
 | [], [], [], _, _, h, _ => h
 | [], [], _ :: _, _, _, h, _ => h.elim
 | [], _ :: _, _, _, _, h, _ => h.elim
 | _ :: _, [], _, _, _, h, _ => h.elim
 | _ :: _, _ :: _, [], _, _, h, _ => h.elim
 | t :: ts, v :: vs, d :: ds, ps, ht, ⟨p, q, h1, h2, e⟩, hlt => by
  subst e
  obtain ⟨a, b⟩ := ht t (List.mem_cons_self ..)
  exact ⟨p, q, Below.trod hl a b h1 hb fun x hx => hlt x (List.mem_append_left _ hx), Qe3 hl hb (fun t ht' => ht t (List.mem_cons_of_mem _ ht')) h2 fun x hx => hlt x (List.mem_append_right _ hx), rfl⟩
theorem QsG {H : Type} {enc : TypeId × Value → H} {P : Program} {f : Func} {s : ChangeSpec} {W W' : World} {args : Array Value} {ds gs : List (DataW H)} {before : List MemPlace} (hl : laidOutB P = true) {bt : TypeId}
  (hres : f.resultTypes = #[bt]) (hbt : P.underlying bt = some .bool) (ht : (f.params.toList.all fun t => P.readableRec t && decide (t < P.types.size)) = true) (hvars : s.vars = [])
  (hfn : (s.fn H (ds ++ gs)).results = [.lit (.bool true)] ∧ (s.fn H (ds ++ gs)).args = ds ∧ (s.fn H (ds ++ gs)).vars = [])
  (hW : DataW.Whole enc P f.params.toList s.vars false W args.toList ds gs before) (hb : Below W.heap.size W W') :
  s.post enc P f false true false false W args (.bool true) W' := by
 have hlt := hW.lt
 have hW' := hW
 obtain ⟨p, q, hA, hV, rfl, hfz, hnd⟩ := hW
 refine ⟨ds, gs, p ++ q, [], p, [], hW', ?_, ?_, ?_, ?_, fun h => by cases h⟩
 ·rw [hfn.1, hres]
  exact trodAll_cons_mk (shut_bool hbt _) trodAll_mk0
 ·rw [hfn.2.1]
  exact Qe3 hl hb (fun t h => by have := List.all_eq_true.1 ht t h; simpa using this) hA fun x hx => hlt x (List.mem_append_left _ hx)
 ·rw [hfn.2.2, hvars]
  rfl
 ·exact hb.frame _
section
variable {H : Type} {enc : TypeId × Value → H} {w : World} {base : Nat} {spare : Nat → Bool} {held : Bool}
end
set_option linter.unusedVariables false
theorem Qg8 {P : Program} {W W' : World} {n : String} {cs : Array Value} (h : W.var? P n = some cs) (hb : Below W.heap.size W W') : W'.var? P n = some cs := by
 unfold World.var? at h ⊢
 cases hg : P.globalNamed n with
 | none => simp [hg] at h
 | some g =>
  simp only [hg, Option.bind_some] at h ⊢
  have hlt : g < W.heap.size := by
   rcases Nat.lt_or_ge g W.heap.size with h' | h'
   ·exact h'
   ·simp [Array.getElem?_eq_none h'] at h
  rw [hb.block g hlt]
  exact h
theorem QcZ.below {W W' : World} (g : QcZ W) (hb : Below W.heap.size W W') : QcZ W' := by
 obtain ⟨⟨t1, p1, h1⟩, ⟨t2, p2, h2⟩, h3⟩ := g
 exact ⟨⟨t1, p1, Qg8 h1 hb⟩, ⟨t2, p2, Qg8 h2 hb⟩, Qg8 h3 hb⟩
theorem Qn2 : "*" ++ "errors.errorString" = "*errors.errorString" := by kernel_rfl
theorem Qq4 : ∀ u, Tryz.prog.typeName? 3 u = some "*errors.errorString" → u = 301 :=
 fun u h => typeName_ptr_named (nm := "errors.errorString") (by rw [Qn2]; kernel_rfl) Yc Yg u (by rw [Qn2]; exact h)
theorem QqZ {W : World} (h : laidMetH Tryz.prog Rows.topTermsRow.laid W) : QcZ W := by
 have h0 := (laidMetH_iff.1 h).1
 have e : (Rows.topTermsRow.laid.filter fun x => x.2.handleName?.isNone) = Rows.topTermsRow.laid := by kernel_rfl
 rw [e] at h0
 have h3 : laidMet Tryz.prog (("internal/strconv.uint64pow10", Lib.tabData .u64 Lib.pow10Tab) :: _) W := laidMet.tail (laidMet.tail h0)
 have h5 := laidMet.tail (laidMet.tail h3)
 have h6 := laidMet.tail h5
 refine ⟨?_, ?_, Lib.tabIs_of_head (g := 2) (t := 273) (e := 257) (n := 20) Yc Yc Yc Yc Yc Yc h3⟩
 ·obtain ⟨a, s, hv, _⟩ := laid_sentinel (g := 5) (ti := 120) (tp := 301) (te := 303) (ts := 9) h6 Yc Yc Tryz.underlying120 Qq4 Yc Tryz.underlying303 rfl rfl Yc Yc Yc
  exact ⟨_, _, hv⟩
 ·obtain ⟨a, s, hv, _⟩ := laid_sentinel (g := 6) (ti := 120) (tp := 301) (te := 303) (ts := 9) h5 Yc Yc Tryz.underlying120 Qq4 Yc Tryz.underlying303 rfl rfl Yc Yc Yc
  exact ⟨_, _, hv⟩
theorem Qkj {H : Type} {enc : TypeId × Value → H} {P : Program} {w : World} {base : Nat} {sp : Nat → Bool} {held : Bool} {fuel : Nat} {t e : TypeId} {n : Nat} {cs : List Value} {ss : List (List UInt8)} {p : List MemPlace}
  (ht : P.underlying t = some (.array n e)) (he : P.underlying e = some .string) (hce : P.cellsOf e = 1) (hct : P.cellsOf t = n)
  (h : DataW.trod enc P w base sp held fuel t cs = some (.agg (ss.map fun s => (DataW.lit (.string s) : DataW H)), p)) : cs = ss.map fun s => Value.string ⟨s.toArray⟩ := by
 cases fuel with
 | zero => simp [DataW.trod] at h
 | succ fuel =>
  simp only [DataW.trod, ht, hce, hct, Nat.mul_one] at h
  split at h
  ·rename_i hl
   obtain ⟨xs, hm, hx⟩ := Option.map_eq_some_iff.1 h
   have hxs : xs.map (·.1) = ss.map fun s => (DataW.lit (.string s) : DataW H) := by
    have := congrArg Prod.fst hx
    simpa using this
   have hxl : xs.length = n := by simpa using Lib.mapM_length hm
   have hzl : ss.length = n := by
    have := congrArg List.length hxs
    simp at this
    omega
   apply List.ext_getElem?
   intro i
   by_cases hi : i < n
   ·obtain ⟨b, hb, hf⟩ := Lib.mapM_at hm i i (by simp [hi])
    obtain ⟨z, hc, hbz, _⟩ := DataW.trod_string he hf
    subst hbz
    have h1 : cs[i]? = some (.string z) := by
     have := congrArg (·[0]?) hc
     simpa [List.getElem?_take, List.getElem?_drop] using this
    have h2 : (xs.map (·.1))[i]? = some (DataW.lit (.string z.data.toList) : DataW H) := by simp [hb]
    rw [hxs] at h2
    simp only [List.getElem?_map, Option.map_eq_some_iff, DataW.lit.injEq, Lit.string.injEq] at h2
    obtain ⟨z', hz', e2⟩ := h2
    subst e2
    simp [h1, hz']
   ·rw [List.getElem?_eq_none Ya, List.getElem?_eq_none Yh]
  ·cases h
def QuG : List (List UInt8) := [[], [121, 101, 115], [100, 111, 110, 101], [102, 117, 101, 108], [108, 97, 114, 103, 101], [102, 97, 117, 108, 116], [101, 110, 111, 117, 103, 104]]
theorem QeC.below {W W' : World} (g : QeC W) (hb : Below W.heap.size W W') : QeC W' := fun i hi => by
 have h := g i hi
 rw [hb.cell (Qre h)]; exact h
theorem QoZ {W : World} (h : laidMetH Tryz.prog Rows.topTermsRow.laid W) : QeC W := by
 have h0 := (laidMetH_iff.1 h).1
 have e : (Rows.topTermsRow.laid.filter fun x => x.2.handleName?.isNone) = Rows.topTermsRow.laid := by kernel_rfl
 rw [e] at h0
 have h6 := laidMet.tail (laidMet.tail (laidMet.tail (laidMet.tail (laidMet.tail (laidMet.tail h0)))))
 obtain ⟨ps, ⟨g', t', cs, fuel, p, q, hg', ht', hvar, hd, _, _⟩, _⟩ := h6
 have hg : Tryz.prog.globalNamed "querist/engine.words" = some 0 := by kernel_rfl
 have hty : (Tryz.prog.globals[0]?).map (·.type) = some 69 := by kernel_rfl
 obtain rfl := Option.some.inj (hg.symm.trans hg')
 obtain rfl := Option.some.inj (hty.symm.trans ht')
 have hc := Qkj (n := 7) (e := 9) (ss := QuG) Yc Tryz.underlying9 Yc Yc hd
 intro i hi
 have := World.var?_cell hg' hvar i
 rw [this]
 rw [← Array.getElem?_toList, hc]
 match i, hi with
 | 0, _ => rfl
 | 1, _ => rfl
 | 2, _ => rfl
 | 3, _ => rfl
 | 4, _ => rfl
 | 5, _ => rfl
 | 6, _ => rfl
theorem Qla {H : Type} {enc : TypeId × Value → H} {W : World} {base0 : Nat} {v : Value} {d : DataW H} {p : List MemPlace} (hv : Value.okWide Tryz.prog W .any base0 9 v) (h : DataW.Trod enc Tryz.prog W 0 (fun _ => true) true 9 v d p) :
  ∃ l : Str, v = sv l ∧ d = .lit (.string l) := by
 obtain ⟨s, rfl⟩ := okWide_string Tryz.underlying9 hv
 obtain ⟨fuel, hf⟩ := h
 obtain ⟨s', hc, hx, _⟩ := DataW.trod_string Tryz.underlying9 hf
 have hs : s = s' := by simpa [Value.cells] using hc
 subst hs
 simp only [Prod.mk.injEq] at hx
 obtain ⟨rfl, _⟩ := hx
 exact ⟨s.data.toList, by cases s; simp [sv], rfl⟩
theorem Qlb {H : Type} {enc : TypeId × Value → H} {W : World} {base0 : Nat} {v : Value} {d : DataW H} {p : List MemPlace} (hv : Value.okWide Tryz.prog W .any base0 3 v) (h : DataW.Trod enc Tryz.prog W 0 (fun _ => true) true 3 v d p) :
  ∃ n : Int, v = .int .i64 n ∧ d = .lit (.int .i64 n) ∧ p = [] ∧ (-9223372036854775808 ≤ n ∧ n ≤ 9223372036854775807) := by
 obtain ⟨a, rfl, rfl, h3, h4⟩ := open_int Tryz.underlying3 hv h
 refine ⟨a, rfl, rfl, h3, ?_⟩
 simp [Lit.wf, IntKind.min, IntKind.max, IntKind.bits, IntKind.signed] at h4
 omega
def Qbc (cs : Array Value) : Obj → Obj
 | .cells _ t frozen => .cells cs t frozen
 | o => o
def Qrf : DataW Unit → Value
 | .lit (.int k z) => .int k z
 | .lit (.string s) => .string ⟨s.toArray⟩
 | _ => .pointer none
def Qsa : DataW Unit → Array Value
 | .agg ds => (ds.map Qrf).toArray
 | _ => #[]
def Qvn : ByteArray := ⟨#[105, 110, 118, 97, 108, 105, 100, 32, 115, 121, 110, 116, 97, 120]⟩
def Qvp : ByteArray := ⟨#[118, 97, 108, 117, 101, 32, 111, 117, 116, 32, 111, 102, 32, 114, 97, 110, 103, 101]⟩
noncomputable def Qvs : Nat := (World.holding Tryz.prog default ⟨#[], #[], []⟩).heap.size
noncomputable def QsH (h : Array Obj) : Array Obj :=
 ((((((((h.modify 3 (Qbc (Go.Pinned.utf8FirstZ.map fun (x : Nat) => Value.int .u8 (x : Int)).toArray)).modify 4 (Qbc (([128, 191, 160, 191, 128, 159, 144, 191, 128, 143] ++ List.replicate 22 (0 : Int)).map fun x => Value.int .u8 x).toArray)).modify 2 (Qbc (Qsa Rows.laid_internal_strconv_uint64pow10))).modify 5
   (Qbc #[.iface 301 (.pointer (some ⟨Qvs, 0, none⟩))])).modify 6 (Qbc #[.iface 301 (.pointer (some ⟨Qvs + 1, 0, none⟩))])).modify 7 (Qbc (Qsa Rows.laid_math_bits_deBruijn32tab))).modify 8 (Qbc (Qsa Rows.laid_math_bits_deBruijn64tab))).modify 0 (Qbc (Qsa Rows.laid_querist_engine_words)))
noncomputable def QmJ (os : Os) : World :=
 { World.holding Tryz.prog os ⟨#[.cells #[.string Qvn] 303, .cells #[.string Qvp] 303], #[], []⟩ with heap := QsH (World.holding Tryz.prog os ⟨#[.cells #[.string Qvn] 303, .cells #[.string Qvp] 303], #[], []⟩).heap }
theorem Qsv (os : Os) : laidMet Tryz.prog Rows.topTermsRow.laid ((QmJ os).forCall (fun _ _ => 0) ⟨#[], #[.string .empty, .string .empty, .int .i64 0, .int .i64 0], []⟩).memory :=
 laidMet_of_run' 8 Yc Yc
end Go.Proofs.YthliapbflkfdiacGreatDoor
