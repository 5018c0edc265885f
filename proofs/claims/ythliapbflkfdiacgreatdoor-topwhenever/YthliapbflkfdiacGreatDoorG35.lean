/- ELaw1, Open, OpenC, ERow, ERowW: texts that follow one another, laid into one file. -/
import Derived.Test.YthliapbflkfdiacGreatDoorZ0
import Derived.Test.YthliapbflkfdiacGreatDoorG34
import Derived.Test.YthliapbflkfdiacGreatDoorG18
import Derived.Test.YthliapbflkfdiacGreatDoorG1
import Derived.Test.YthliapbflkfdiacGreatDoorRows
import Derived.Deep.Slices
import Derived.Deep.Fields
import Derived.JoinedCond
import Derived.OpenShut
import Derived.Test.YthliapbflkfdiacGreatDoorG4
import Derived.Test.YthliapbflkfdiacGreatDoorG6
import Derived.Test.YthliapbflkfdiacGreatDoorG14
import Derived.Test.YthliapbflkfdiacGreatDoorCards
import Derived.Test.YthliapbflkfdiacGreatDoorTie
import Derived.Deep.DeepHandedRow
import Derived.Lib.LaidTab
import Derived.LaidSub
import Derived.Stop.LaidErr
namespace Go.Proofs.YthliapbflkfdiacGreatDoor
open Go.RowKit Go.Shelf
set_option linter.unusedVariables false
set_option linter.unusedSimpArgs false
set_option maxRecDepth 100000
set_option maxHeartbeats 1000000
abbrev Qju (l : List Str) (A : Option Addr) (c : Nat) (w : World) : Prop := Qw 1 (l.map sv) A l.length c w
theorem Qju.at_ {D R : List Str} {x : Str} {b o c : Nat} {w : World} (h : Qju (D ++ x :: R) (some ⟨b, o, none⟩) c w) : w.cell? ⟨b, o + ((D.length : Nat) : Int).toNat * 1, none⟩ = some (sv x) := by
 have := h.get (j := D.length) (v := sv x) Yd
 rwa [show ((D.length : Nat) : Int).toNat * 1 = D.length by omega]
theorem Qtg (p q : Str) (fuel every : Int) {w0 w : World} {F : List (World → Prop)} (hG : ∀ w', Ext [] w0 w' → QcV w') (hW : ∀ w', Ext [] w0 w' → Qes w') (hp : p.length ≤ 1125899906842624) (hq : q.length ≤ 1125899906842624) (hev : every ≤ 9223372036854775807) (hS : St [] w0 [] F w) :
  Calls Tryz.prog 21 #[sv p, sv q, .int .i64 fuel, .int .i64 every] w fun e w' => ∃ (A : Option Addr) (c : Nat), e = .returned (.tuple #[.slice A (Qku p q fuel every).1.length c, .int .i64 (Qku p q fuel every).2]) ∧ St [] w0 [] (Qju (Qku p q fuel every).1 A c :: F) w' := by
 refine (Qra p q fuel every w (fun w' h => hG w' (hS.ext.trans h)) (fun w' h => hW w' (hS.ext.trans h)) hp hq hev).mono ?_
 rintro e w' ⟨A, c, he, hf, hb⟩
 exact ⟨A, c, he, (hS.grow hb).learn fun w2 hx => Qw.ext hf hx⟩
theorem QuA {p q : Str} {fuel every : Int} {r : List Str × Int} (hr : Qku p q fuel every = r) {w0 w : World} {F : List (World → Prop)} (hG : ∀ w', Ext [] w0 w' → QcV w') (hW : ∀ w', Ext [] w0 w' → Qes w') (hp : p.length ≤ 1125899906842624) (hq : q.length ≤ 1125899906842624) (hev : every ≤ 9223372036854775807) (hS : St [] w0 [] F w) :
  Calls Tryz.prog 21 #[sv p, sv q, .int .i64 fuel, .int .i64 every] w fun e w' => ∃ (A : Option Addr) (c : Nat), e = .returned (.tuple #[.slice A r.1.length c, .int .i64 r.2]) ∧ St [] w0 [] (Qju r.1 A c :: F) w' := by
 subst hr; exact Qtg p q fuel every hG hW hp hq hev hS
theorem Qq9 (p q : Str) (fuel x y : Int) (hx : 0 ≤ x) (hy : 0 ≤ y) : Qku p q fuel x = Qku p q fuel y := by
 unfold Qku
 rw [if_neg (show ¬ x < 0 by omega), if_neg (show ¬ y < 0 by omega)]
theorem QjD (l : List Str) (A B : Option Addr) (c d : Nat) (w : World) (hl : Qju l A c w) (hk : Qju l B d w) (hn : l.length ≤ 1000) :
  Calls Tryz.prog 22 #[.slice A l.length c, .slice B l.length d] w fun e w' => e = .returned (.bool true) ∧ Below w.heap.size w w' := by
 have hS := St.start w
 refine Qf Tryz.func22 rfl Tryz.ntmps22 rfl ?_
 refine ZS ?_
 refine Zv ?_
 refine ZaT ?_
 refine Zw ?_
 refine ZaA ?_
 refine Z5 ?_
 refine Qo 13 (14 :: 15 :: 5 :: 16 :: 17 :: 18 :: 19 :: 20 :: 21 :: 22 :: 23 :: 24 :: 4 :: 25 :: []) (fun (R : List Str) v w' => ∃ D, l = D ++ R ∧ v = .int .i64 (D.length : Nat) ∧ St [] w [] [] w') (fun R => R.length) (l) ?_ Yb ?_
 ·exact ⟨[], rfl, rfl, hS⟩
 clear hS
 rintro R _ w2 jv ⟨D, hD, rfl, hS⟩ ih
 have hlD : l.length = D.length + R.length := by rw [hD]; simp
 cases R with
 | nil =>
  simp only [List.length_nil] at hlD
  refine Zcm ?_
  refine Qc Tryz.func22 rfl Yb ?_
  exact ⟨rfl, hS.ext.below⟩
 | cons x R =>
  simp only [List.length_cons] at hlD
  obtain ⟨b5, o5, rfl⟩ := hl.some_ Ya
  obtain ⟨b6, o6, rfl⟩ := hk.some_ Ya
  have hl' := hl
  have hk' := hk
  rw [hD] at hl' hk'
  have q0 := hl'.at_
  have q1 := hk'.at_
  have e0 : (⟨x.toArray⟩ : ByteArray) = ⟨x.toArray⟩ := rfl
  refine ZaM ?_
  refine ZG ?_
  refine ZdI ?_
  replace hS := hS.drew
  refine Zac ?_
  refine ZcL ?_
  refine ZC ?_
  refine Zac ?_
  refine ZcL ?_
  refine ZC ?_
  first
   | refine Qd rfl (fun _ hS => QiQ rfl rfl Ye) rfl ?_
   | refine Qd rfl (fun _ hS => QiR rfl rfl Ye) rfl ?_
   | refine Qd rfl (fun _ hS => Qhm rfl rfl) rfl ?_
   | refine Qd rfl (fun _ hS => rfl) rfl ?_
  refine ZF ?_
  refine ZbG ?_
  refine ih (R) _ _ _ ?_ ?_ Yb Yc
  ·simp
  ·exact ⟨D ++ [x], by rw [hD]; simp, by simp, hS⟩
theorem QsM (p q : Str) (fuel every : Int) : (Qku p q fuel every).1.length ≤ 13 := by
 unfold Qku
 repeat' split
 all_goals first | exact Nat.zero_le _ | (rw [List.length_map]; exact Qq8)
theorem Qg6 (p q : Str) (fuel x y : Int) (w : World) (hG : ∀ w', Ext [] w w' → QcV w') (hW : ∀ w', Ext [] w w' → Qes w') (hp : p.length ≤ 1125899906842624) (hq : q.length ≤ 1125899906842624) (hx : x ≤ 9223372036854775807) (hy : y ≤ 9223372036854775807) :
  Calls Tryz.prog 5 #[sv p, sv q, .int .i64 fuel, .int .i64 x, .int .i64 y] w fun e w' => e = .returned (.bool true) ∧ Below w.heap.size w w' := by
 have hS := St.start w
 obtain ⟨x', hx'⟩ : ∃ m, m = if 0 < x then x else 0 := ⟨_, rfl⟩
 obtain ⟨y', hy'⟩ : ∃ m, m = if 0 < y then y else 0 := ⟨_, rfl⟩
 have hx0 : 0 ≤ x' ∧ x' ≤ 9223372036854775807 := by rw [hx']; split <;> omega
 have hy0 : 0 ≤ y' ∧ y' ≤ 9223372036854775807 := by rw [hy']; split <;> omega
 have hfew := QsM p q fuel x'
 refine Qc9 Tryz.func5 rfl Tryz.ntmps5 rfl ?_
 refine ZaC ?_
 refine Zef ?_
 refine Zc ?_
 refine Zef ?_
 refine Zo ?_
 refine Zbe ?_
 refine Zc ?_
 refine Zey ?_
 refine Calls.mono (Qtg p q fuel x' hG hW hp hq hx0.2 hS) ?_
 rintro _ w3 ⟨A1, c1, rfl, hS'⟩
 refine Za ?_
 replace hS := hS'
 clear hS'
 refine Zam ?_
 refine Zo ?_
 refine Zbe ?_
 refine Zc ?_
 refine Zey ?_
 refine Calls.mono (QuA (Qq9 p q fuel y' x' hy0.1 hx0.1) hG hW hp hq hy0.2 hS) ?_
 rintro _ w4 ⟨A2, c2, rfl, hS'⟩
 refine Za ?_
 replace hS := hS'
 clear hS'
 refine Zam ?_
 refine Zo ?_
 refine Zz ?_
 refine Zm ?_
 refine Zar ?_
 refine Zx ?_
 refine Zg ?_
 refine Calls.mono (QjD (Qku p q fuel x').1 A1 A2 c1 c2 _ (hS.fact (.tail _ (.head _))) (hS.fact (.head _)) Ya) ?_
 rintro _ w5 ⟨rfl, hb5⟩
 refine Za ?_
 replace hS := hS.grow hb5
 refine ZN ?_
 refine Zx ?_
 refine QbI (QdZ Yc Qkk) rfl ?_
 refine Calls.mono (Qo3 _ (fun w' h => hG w' (hS.ext.trans h)) (fun w' h => hW w' (hS.ext.trans h))) ?_
 rintro _ w6 ⟨rfl, hb6⟩
 refine Za ?_
 replace hS := hS.grow hb6
 refine ZO ?_
 refine Qc Tryz.func5 rfl Yb ?_
 exact ⟨rfl, hS.ext.below⟩
open Go.ChangeShapes Go.WideShapes Go.ChangeAt
theorem Tryz.laidOut : laidOutB Tryz.prog = true := by kernel_rfl
theorem Tryz.own : ownKnob Tryz.prog.godebug = none := by kernel_rfl
section
variable {H : Type} {enc : TypeId × Value → H} {w : World} {base : Nat} {spare : Nat → Bool} {held : Bool}
end
theorem QeT {H : Type} {enc : TypeId × Value → H} {P : Program} (hl : laidOutB P = true) {W W' : World} (hb : Below W.heap.size W W') : ∀ {ts : List TypeId} {vs : List Value} {ds : List (DataW H)} {ps : List MemPlace}, (∀ t ∈ ts, P.readableRec t = true ∧ t < P.types.size) →
  DataW.TrodAll enc P W 0 (fun _ => true) true ts vs ds ps → (∀ x ∈ ps, x.block < W.heap.size) → DataW.TrodAll enc P W' 0 (fun b => decide (b < W.heap.size)) true ts vs ds ps
 | [], [], [], _, _, h, _ => h
 | [], [], _ :: _, _, _, h, _ => h.elim
 | [], _ :: _, _, _, _, h, _ => h.elim
 | _ :: _, [], _, _, _, h, _ => h.elim
 | _ :: _, _ :: _, [], _, _, h, _ => h.elim
 | t :: ts, v :: vs, d :: ds, ps, ht, ⟨p, q, h1, h2, e⟩, hlt => by
  subst e
  obtain ⟨a, b⟩ := ht t (List.mem_cons_self ..)
  exact ⟨p, q, Below.trod hl a b h1 hb fun x hx => hlt x (List.mem_append_left _ hx), QeT hl hb (fun t ht' => ht t (List.mem_cons_of_mem _ ht')) h2 fun x hx => hlt x (List.mem_append_right _ hx), rfl⟩
theorem Qsr {H : Type} {enc : TypeId × Value → H} {P : Program} {f : Func} {s : ChangeSpec} {W W' : World} {args : Array Value} {ds gs : List (DataW H)} {before : List MemPlace} (hl : laidOutB P = true) {bt : TypeId}
  (hres : f.resultTypes = #[bt]) (hbt : P.underlying bt = some .bool) (ht : (f.params.toList.all fun t => P.readableRec t && decide (t < P.types.size)) = true) (hvars : s.vars = [])
  (hfn : (s.fn H (ds ++ gs)).results = [.lit (.bool true)] ∧ (s.fn H (ds ++ gs)).args = ds ∧ (s.fn H (ds ++ gs)).vars = [])
  (hW : DataW.Whole enc P f.params.toList s.vars false W args.toList ds gs before) (hb : Below W.heap.size W W') :
  s.post enc P f false true false false W args (.bool true) W' := by
 have hlt := hW.lt
 have hW' := hW
 obtain ⟨p, q, hA, hV, rfl, hfz, hnd⟩ := hW
 refine ⟨ds, gs, p ++ q, [], p, [], hW', ?_, ?_, ?_, ?_, fun h => by cases h⟩
 ·rw [hfn.1, hres]
  exact trodAll_cons_mk (shut_bool hbt _) trodAll_mk0
 ·rw [hfn.2.1]
  exact QeT hl hb (fun t h => by have := List.all_eq_true.1 ht t h; simpa using this) hA fun x hx => hlt x (List.mem_append_left _ hx)
 ·rw [hfn.2.2, hvars]
  rfl
 ·exact hb.frame _
section
variable {H : Type} {enc : TypeId × Value → H} {w : World} {base : Nat} {spare : Nat → Bool} {held : Bool}
end
theorem Qg2 {P : Program} {W W' : World} {n : String} {cs : Array Value} (h : W.var? P n = some cs) (hb : Below W.heap.size W W') : W'.var? P n = some cs := by
 unfold World.var? at h ⊢
 cases hg : P.globalNamed n with
 | none => simp [hg] at h
 | some g =>
  simp only [hg, Option.bind_some] at h ⊢
  have hlt : g < W.heap.size := by
   rcases Nat.lt_or_ge g W.heap.size with h' | h'
   ·exact h'
   ·simp [Array.getElem?_eq_none h'] at h
  rw [hb.block g hlt]
  exact h
theorem QcV.below {W W' : World} (g : QcV W) (hb : Below W.heap.size W W') : QcV W' := by
 obtain ⟨⟨t1, p1, h1⟩, ⟨t2, p2, h2⟩, h3⟩ := g
 exact ⟨⟨t1, p1, Qg2 h1 hb⟩, ⟨t2, p2, Qg2 h2 hb⟩, Qg2 h3 hb⟩
theorem QnM : "*" ++ "errors.errorString" = "*errors.errorString" := by kernel_rfl
theorem QqL : ∀ u, Tryz.prog.typeName? 3 u = some "*errors.errorString" → u = 301 :=
 fun u h => typeName_ptr_named (nm := "errors.errorString") (by rw [QnM]; kernel_rfl) Yc Yg u (by rw [QnM]; exact h)
theorem QqG {W : World} (h : laidMetH Tryz.prog Rows.topTermsRow.laid W) : QcV W := by
 have h0 := (laidMetH_iff.1 h).1
 have e : (Rows.topTermsRow.laid.filter fun x => x.2.handleName?.isNone) = Rows.topTermsRow.laid := by kernel_rfl
 rw [e] at h0
 have h3 : laidMet Tryz.prog (("internal/strconv.uint64pow10", Lib.tabData .u64 Lib.pow10Tab) :: _) W := laidMet.tail (laidMet.tail h0)
 have h5 := laidMet.tail (laidMet.tail h3)
 have h6 := laidMet.tail h5
 refine ⟨?_, ?_, Lib.tabIs_of_head (g := 2) (t := 273) (e := 257) (n := 20) Yc Yc Yc Yc Yc Yc h3⟩
 ·obtain ⟨a, s, hv, _⟩ := laid_sentinel (g := 5) (ti := 120) (tp := 301) (te := 303) (ts := 9) h6 Yc Yc Tryz.underlying120 QqL Yc Tryz.underlying303 rfl rfl Yc Yc Yc
  exact ⟨_, _, hv⟩
 ·obtain ⟨a, s, hv, _⟩ := laid_sentinel (g := 6) (ti := 120) (tp := 301) (te := 303) (ts := 9) h5 Yc Yc Tryz.underlying120 QqL Yc Tryz.underlying303 rfl rfl Yc Yc Yc
  exact ⟨_, _, hv⟩
theorem Qkd {H : Type} {enc : TypeId × Value → H} {P : Program} {w : World} {base : Nat} {sp : Nat → Bool} {held : Bool} {fuel : Nat} {t e : TypeId} {n : Nat} {cs : List Value} {ss : List (List UInt8)} {p : List MemPlace}
  (ht : P.underlying t = some (.array n e)) (he : P.underlying e = some .string) (hce : P.cellsOf e = 1) (hct : P.cellsOf t = n)
  (h : DataW.trod enc P w base sp held fuel t cs = some (.agg (ss.map fun s => (DataW.lit (.string s) : DataW H)), p)) : cs = ss.map fun s => Value.string ⟨s.toArray⟩ := by
 cases fuel with
 | zero => simp [DataW.trod] at h
 | succ fuel =>
  simp only [DataW.trod, ht, hce, hct, Nat.mul_one] at h
  split at h
  ·rename_i hl
   obtain ⟨xs, hm, hx⟩ := Option.map_eq_some_iff.1 h
   have hxs : xs.map (·.1) = ss.map fun s => (DataW.lit (.string s) : DataW H) := by
    have := congrArg Prod.fst hx
    simpa using this
   have hxl : xs.length = n := by simpa using Lib.mapM_length hm
   have hzl : ss.length = n := by
    have := congrArg List.length hxs
    simp at this
    omega
   apply List.ext_getElem?
   intro i
   by_cases hi : i < n
   ·obtain ⟨b, hb, hf⟩ := Lib.mapM_at hm i i (by simp [hi])
    obtain ⟨z, hc, hbz, _⟩ := DataW.trod_string he hf
    subst hbz
    have h1 : cs[i]? = some (.string z) := by
     have := congrArg (·[0]?) hc
     simpa [List.getElem?_take, List.getElem?_drop] using this
    have h2 : (xs.map (·.1))[i]? = some (DataW.lit (.string z.data.toList) : DataW H) := by simp [hb]
    rw [hxs] at h2
    simp only [List.getElem?_map, Option.map_eq_some_iff, DataW.lit.injEq, Lit.string.injEq] at h2
    obtain ⟨z', hz', e2⟩ := h2
    subst e2
    simp [h1, hz']
   ·rw [List.getElem?_eq_none Ya, List.getElem?_eq_none Yh]
  ·cases h
def Qup : List (List UInt8) := [[], [121, 101, 115], [100, 111, 110, 101], [102, 117, 101, 108], [108, 97, 114, 103, 101], [102, 97, 117, 108, 116], [101, 110, 111, 117, 103, 104]]
theorem Qes.below {W W' : World} (g : Qes W) (hb : Below W.heap.size W W') : Qes W' := fun i hi => by
 have h := g i hi
 rw [hb.cell (QqV h)]; exact h
theorem QoI {W : World} (h : laidMetH Tryz.prog Rows.topTermsRow.laid W) : Qes W := by
 have h0 := (laidMetH_iff.1 h).1
 have e : (Rows.topTermsRow.laid.filter fun x => x.2.handleName?.isNone) = Rows.topTermsRow.laid := by kernel_rfl
 rw [e] at h0
 have h6 := laidMet.tail (laidMet.tail (laidMet.tail (laidMet.tail (laidMet.tail (laidMet.tail h0)))))
 obtain ⟨ps, ⟨g', t', cs, fuel, p, q, hg', ht', hvar, hd, _, _⟩, _⟩ := h6
 have hg : Tryz.prog.globalNamed "querist/engine.words" = some 0 := by kernel_rfl
 have hty : (Tryz.prog.globals[0]?).map (·.type) = some 69 := by kernel_rfl
 obtain rfl := Option.some.inj (hg.symm.trans hg')
 obtain rfl := Option.some.inj (hty.symm.trans ht')
 have hc := Qkd (n := 7) (e := 9) (ss := Qup) Yc Tryz.underlying9 Yc Yc hd
 intro i hi
 have := World.var?_cell hg' hvar i
 rw [this]
 rw [← Array.getElem?_toList, hc]
 match i, hi with
 | 0, _ => rfl
 | 1, _ => rfl
 | 2, _ => rfl
 | 3, _ => rfl
 | 4, _ => rfl
 | 5, _ => rfl
 | 6, _ => rfl
theorem Qk3 {H : Type} {enc : TypeId × Value → H} {W : World} {base0 : Nat} {v : Value} {d : DataW H} {p : List MemPlace} (hv : Value.okWide Tryz.prog W .any base0 9 v) (h : DataW.Trod enc Tryz.prog W 0 (fun _ => true) true 9 v d p) :
  ∃ l : Str, v = sv l ∧ d = .lit (.string l) := by
 obtain ⟨s, rfl⟩ := okWide_string Tryz.underlying9 hv
 obtain ⟨fuel, hf⟩ := h
 obtain ⟨s', hc, hx, _⟩ := DataW.trod_string Tryz.underlying9 hf
 have hs : s = s' := by simpa [Value.cells] using hc
 subst hs
 simp only [Prod.mk.injEq] at hx
 obtain ⟨rfl, _⟩ := hx
 exact ⟨s.data.toList, by cases s; simp [sv], rfl⟩
theorem QhC {H : Type} {enc : TypeId × Value → H} {W : World} {base0 : Nat} {v : Value} {d : DataW H} {p : List MemPlace} (hv : Value.okWide Tryz.prog W .any base0 3 v) (h : DataW.Trod enc Tryz.prog W 0 (fun _ => true) true 3 v d p) :
  ∃ n : Int, v = .int .i64 n ∧ d = .lit (.int .i64 n) ∧ p = [] ∧ (-9223372036854775808 ≤ n ∧ n ≤ 9223372036854775807) := by
 obtain ⟨a, rfl, rfl, h3, h4⟩ := open_int Tryz.underlying3 hv h
 refine ⟨a, rfl, rfl, h3, ?_⟩
 simp [Lit.wf, IntKind.min, IntKind.max, IntKind.bits, IntKind.signed] at h4
 omega
def Qba (cs : Array Value) : Obj → Obj
 | .cells _ t frozen => .cells cs t frozen
 | o => o
def QqW : DataW Unit → Value
 | .lit (.int k z) => .int k z
 | .lit (.string s) => .string ⟨s.toArray⟩
 | _ => .pointer none
def QrS : DataW Unit → Array Value
 | .agg ds => (ds.map QqW).toArray
 | _ => #[]
def Qu7 : ByteArray := ⟨#[105, 110, 118, 97, 108, 105, 100, 32, 115, 121, 110, 116, 97, 120]⟩
def Qu9 : ByteArray := ⟨#[118, 97, 108, 117, 101, 32, 111, 117, 116, 32, 111, 102, 32, 114, 97, 110, 103, 101]⟩
noncomputable def Qvc : Nat := (World.holding Tryz.prog default ⟨#[], #[], []⟩).heap.size
noncomputable def Qss (h : Array Obj) : Array Obj :=
 ((((((((h.modify 3 (Qba (Go.Pinned.utf8FirstZ.map fun (x : Nat) => Value.int .u8 (x : Int)).toArray)).modify 4 (Qba (([128, 191, 160, 191, 128, 159, 144, 191, 128, 143] ++ List.replicate 22 (0 : Int)).map fun x => Value.int .u8 x).toArray)).modify 2 (Qba (QrS Rows.laid_internal_strconv_uint64pow10))).modify 5
   (Qba #[.iface 301 (.pointer (some ⟨Qvc, 0, none⟩))])).modify 6 (Qba #[.iface 301 (.pointer (some ⟨Qvc + 1, 0, none⟩))])).modify 7 (Qba (QrS Rows.laid_math_bits_deBruijn32tab))).modify 8 (Qba (QrS Rows.laid_math_bits_deBruijn64tab))).modify 0 (Qba (QrS Rows.laid_querist_engine_words)))
noncomputable def QmA (os : Os) : World :=
 { World.holding Tryz.prog os ⟨#[.cells #[.string Qu7] 303, .cells #[.string Qu9] 303], #[], []⟩ with heap := Qss (World.holding Tryz.prog os ⟨#[.cells #[.string Qu7] 303, .cells #[.string Qu9] 303], #[], []⟩).heap }
theorem Qqf (os : Os) : laidMet Tryz.prog Rows.topTermsRow.laid ((QmA os).forCall (fun _ _ => 0) ⟨#[], #[.string .empty, .string .empty, .int .i64 0, .int .i64 0, .int .i64 0], []⟩).memory :=
 laidMet_of_run' 8 Yc Yc
end Go.Proofs.YthliapbflkfdiacGreatDoor
