/-
  The everyday operations, run: lengths, indices, slices, sums, values that are built. No program is named here.
-/
import Derived.Test.YtdiophafmokfiaaDoorMem
namespace Go.Proofs.YtdiophafmokfiaaDoor
open Go.RowKit
set_option linter.unusedSimpArgs false
set_option linter.unusedVariables false
section
variable {P : Program} {n : Nat} {e : Env} {w : World} {Q : Exit → Act → World → Prop} {ops : Array Oper} {rest : List Oper} {ty : TypeId} {pos : String} {after : Array Edge} {d : Nat}
variable {M : List Nat} {w0 : World} {H H' : List (Nat × Obj)} {F : List (World → Prop)} {b o : Nat} {x y : Operand} {v : Value} {dst : Option Nat} {t t2 : TypeId}

theorem wrap_of {i : Int} (h1 : -9223372036854775808 ≤ i) (h2 : i ≤ 9223372036854775807) : IntKind.i64.wrap i = i := by
  rw [IntKind.wrap_i64]; omega
theorem run_add {a c : Int} (hx : ev n e x = .int .i64 a) (hy : ev n e y = .int .i64 c) (h1 : -9223372036854775808 ≤ a + c) (h2 : a + c ≤ 9223372036854775807) :
    (execOp (ev n e) ⟨dst, .binOp .add t x y t2, ty, pos, after, none⟩).run P w = .ok (.value (.int .i64 (a + c))) w := by
  have : (execOp (ev n e) ⟨dst, .binOp .add t x y t2, ty, pos, after, none⟩).run P w = .ok (.value (.int .i64 (IntKind.i64.wrap (a + c)))) w := by simp only [execOp, hx, hy]; rfl
  rw [this, wrap_of h1 h2]
theorem run_sub {a c : Int} (hx : ev n e x = .int .i64 a) (hy : ev n e y = .int .i64 c) (h1 : -9223372036854775808 ≤ a - c) (h2 : a - c ≤ 9223372036854775807) :
    (execOp (ev n e) ⟨dst, .binOp .sub t x y t2, ty, pos, after, none⟩).run P w = .ok (.value (.int .i64 (a - c))) w := by
  have : (execOp (ev n e) ⟨dst, .binOp .sub t x y t2, ty, pos, after, none⟩).run P w = .ok (.value (.int .i64 (IntKind.i64.wrap (a - c)))) w := by simp only [execOp, hx, hy]; rfl
  rw [this, wrap_of h1 h2]
/-- The length of a slice, of a string. -/
def isSliceP (P : Program) (t : TypeId) : Option TypeId := match P.underlying t with | some (.slice el) => some el | _ => none
def isStringP (P : Program) (t : TypeId) : Bool := match P.underlying t with | some .string => true | _ => false
theorem sliceP {el : TypeId} (h : isSliceP P t = some el) : P.underlying t = some (.slice el) := by
  unfold isSliceP at h; split at h
  · rename_i h'; cases h; exact h'
  · cases h
theorem stringP (h : isStringP P t = true) : P.underlying t = some .string := by
  unfold isStringP at h; split at h
  · assumption
  · cases h
theorem run_len_slice {el : TypeId} {A : Option Addr} {l c : Nat} {ts : Array TypeId} (hx : ev n e x = .slice A l c) (ht : ts[0]? = some t) (hT : isSliceP P t = some el) :
    (execOp (ev n e) ⟨dst, .call ⟨.builtin .len, #[x], ts⟩, ty, pos, after, none⟩).run P w = .ok (.value (.int .i64 l)) w := by
  have h1 := run_underlying (sliceP hT) w
  simp only [execOp, resolve, List.map_toArray, List.map_cons, List.map_nil, hx, bind, pure, Sem.bind, invoke, builtin, Builtin.len_, ht, List.getElem?_toArray, List.getElem?_cons_zero]
  rw [Sem.run_bind', Sem.run_bind', h1]
  rfl
theorem run_len_string {s : ByteArray} {ts : Array TypeId} (hx : ev n e x = .string s) (ht : ts[0]? = some t) (hT : isStringP P t = true) :
    (execOp (ev n e) ⟨dst, .call ⟨.builtin .len, #[x], ts⟩, ty, pos, after, none⟩).run P w = .ok (.value (.int .i64 s.size)) w := by
  have h1 := run_underlying (stringP hT) w
  simp only [execOp, resolve, List.map_toArray, List.map_cons, List.map_nil, hx, bind, pure, Sem.bind, invoke, builtin, Builtin.len_, ht, List.getElem?_toArray, List.getElem?_cons_zero]
  rw [Sem.run_bind', Sem.run_bind', h1]
  rfl
/-- A byte of a string. -/
theorem run_index_string {s : ByteArray} {i : Int} (hx : ev n e x = .string s) (hy : ev n e y = .int .i64 i) (hT : isStringP P t = true) (h0 : 0 ≤ i) (h1 : i.toNat < s.size) :
    (execOp (ev n e) ⟨dst, .index t x y, ty, pos, after, none⟩).run P w = .ok (.value (.int .u8 (s[i.toNat]'h1).toNat)) w := by
  have h2 := run_underlying (stringP hT) w
  simp only [execOp, Instr.index, hx, hy, asIntOf, bind, pure, Sem.bind]
  rw [Sem.run_bind', Sem.run_bind', h2]
  have h3 : s[i.toNat]? = some (s[i.toNat]'h1) := by simp [h1]
  simp only [Result.andThen_ok, if_pos h0, h3]
  rfl
/-- The address of an element. -/
theorem run_indexAddr {el sz : Nat} {i : Int} {l c : Nat} (hx : ev n e x = .slice (some ⟨b, o, none⟩) l c) (hy : ev n e y = .int .i64 i) (hT : isSliceP P t = some el) (hs : cellsP P el = some sz) (h0 : 0 ≤ i) (h1 : i < l) :
    (execOp (ev n e) ⟨dst, .indexAddr t x y, ty, pos, after, none⟩).run P w = .ok (.value (.pointer (some ⟨b, o + i.toNat * sz, none⟩))) w := by
  have h2 := run_underlying (sliceP hT) w
  have h3 := run_sizeP (w := w) hs
  simp only [execOp, Instr.indexAt, hx, hy, asIntOf, bind, pure, Sem.bind]
  rw [Sem.run_bind', Sem.run_bind', h2]
  simp only [Result.andThen_ok, Sem.bind]
  rw [Sem.run_bind', h2]
  simp only [Result.andThen_ok, if_pos (And.intro h0 h1)]
  rw [Sem.run_bind', h3]
  simp only [Result.andThen_ok, addrPlus, Sem.run]
/-- A part of a string. -/
def bound (n : Nat) (e : Env) (h : Option Operand) (dflt : Int) : Option Int := match h with | none => some dflt | some z => match ev n e z with | .int _ i => some i | _ => none
theorem run_bound {z : Value} {k : IntKind} {i : Int} {m : Nat} {cd : BoundsCode} (hz : z = .int k i) (h0 : 0 ≤ i) (h1 : i ≤ m) : (Instr.sliceBound z m cd).run P w = .ok i.toNat w := by
  subst hz
  simp only [Instr.sliceBound, asIntOf, bind, pure, Sem.bind, if_pos (And.intro h0 h1)]
  rfl
theorem run_slice_low {s : ByteArray} {i : Int} (hx : ev n e x = .string s) (hy : ev n e y = .int .i64 i) (hT : isStringP P t = true) (h0 : 0 ≤ i) (h1 : i ≤ s.size) :
    (execOp (ev n e) ⟨dst, .slice t x (some y) none none, ty, pos, after, none⟩).run P w = .ok (.value (.string (s.extract i.toNat s.size))) w := by
  have h2 := run_underlying (stringP hT) w
  simp only [execOp, Instr.sliceAt, Instr.slice, hx, hy, Option.map_some, Option.map_none, bind, pure, Sem.bind]
  rw [Sem.run_bind', Sem.run_bind', h2]
  simp only [Result.andThen_ok]
  rw [Sem.run_bind', h2]
  simp only [Result.andThen_ok, Instr.sliceBounds, Option.isSome_none, Bool.false_eq_true, if_false, bind, pure, Sem.bind]
  rw [Sem.run_bind', Sem.run_bind', run_bound rfl h0 h1]
  rfl
theorem run_slice_high {s : ByteArray} {i : Int} (hx : ev n e x = .string s) (hy : ev n e y = .int .i64 i) (hT : isStringP P t = true) (h0 : 0 ≤ i) (h1 : i ≤ s.size) :
    (execOp (ev n e) ⟨dst, .slice t x none (some y) none, ty, pos, after, none⟩).run P w = .ok (.value (.string (s.extract 0 i.toNat))) w := by
  have h2 := run_underlying (stringP hT) w
  simp only [execOp, Instr.sliceAt, Instr.slice, hx, hy, Option.map_some, Option.map_none, bind, pure, Sem.bind]
  rw [Sem.run_bind', Sem.run_bind', h2]
  simp only [Result.andThen_ok]
  rw [Sem.run_bind', h2]
  simp only [Result.andThen_ok, Instr.sliceBounds, Option.isSome_none, Bool.false_eq_true, if_false, bind, pure, Sem.bind]
  rw [Sem.run_bind', Sem.run_bind', run_bound rfl h0 h1]
  rfl
/-- A function value. -/
theorem run_makeFunc {fn : Fn} {fs cs : Array Operand} {vs us : Array Value} (h1 : fs.map (ev n e) = vs) (h2 : cs.map (ev n e) = us) :
    (execOp (ev n e) ⟨dst, .makeFunc fn fs cs, ty, pos, after, none⟩).run P w = .ok (.value (.func fn vs us)) w := by
  subst h1 h2; rfl
/-- Two that are one. -/
def isBoolP (P : Program) (t : TypeId) : Bool := match P.underlying t with | some .bool => true | _ => false
theorem boolP (h : isBoolP P t = true) : P.underlying t = some .bool := by
  unfold isBoolP at h; split at h
  · assumption
  · cases h
theorem run_equal_bool {a c : Bool} (hT : isBoolP P t = true) : (Op.equal t (.bool a) (.bool c)).run P w = .ok (a == c) w := by
  have h1 := run_underlying (boolP hT) w
  unfold Op.equal Op.maxDepth
  rw [show (10000 : Nat) = 9999 + 1 from rfl, Op.equalIn]
  simp only [bind, pure]
  rw [Sem.run_bind', h1]
  rfl
theorem run_eql_bool {a c : Bool} (hx : ev n e x = .bool a) (hy : ev n e y = .bool c) (hT : isBoolP P t = true) :
    (execOp (ev n e) ⟨dst, .binOp .eql t x y t2, ty, pos, after, none⟩).run P w = .ok (.value (.bool (a == c))) w := by
  have h1 := run_equal_bool (w := w) (a := a) (c := c) hT
  have h2 : (execOp (ev n e) ⟨dst, .binOp .eql t x y t2, ty, pos, after, none⟩) = (Op.equal t (.bool a) (.bool c)).bind fun r => .pure (.value (.bool r)) := by
    simp only [execOp, hx, hy, eqGuard, binOp]
    simp only [bind, pure, Bool.not_true, Bool.false_eq_true, if_false, Sem.bind]
    exact (Sem.bind_assoc' _ _ _)
  rw [h2, Sem.run_bind', h1]
  rfl
theorem run_neq_bool {a c : Bool} (hx : ev n e x = .bool a) (hy : ev n e y = .bool c) (hT : isBoolP P t = true) :
    (execOp (ev n e) ⟨dst, .binOp .neq t x y t2, ty, pos, after, none⟩).run P w = .ok (.value (.bool (a != c))) w := by
  have h1 := run_equal_bool (w := w) (a := a) (c := c) hT
  have h2 : (execOp (ev n e) ⟨dst, .binOp .neq t x y t2, ty, pos, after, none⟩) = (Op.equal t (.bool a) (.bool c)).bind fun r => .pure (.value (.bool !r)) := by
    simp only [execOp, hx, hy, eqGuard, binOp]
    simp only [bind, pure, Bool.not_true, Bool.false_eq_true, if_false, Sem.bind]
    exact (Sem.bind_assoc' _ _ _)
  rw [h2, Sem.run_bind', h1]
  rfl
theorem run_eql_one {a : Bool} (hx : ev n e x = .bool a) (hy : ev n e y = .bool a) (hT : isBoolP P t = true) :
    (execOp (ev n e) ⟨dst, .binOp .eql t x y t2, ty, pos, after, none⟩).run P w = .ok (.value (.bool true)) w := by rw [run_eql_bool hx hy hT]; simp
theorem run_neq_one {a : Bool} (hx : ev n e x = .bool a) (hy : ev n e y = .bool a) (hT : isBoolP P t = true) :
    (execOp (ev n e) ⟨dst, .binOp .neq t x y t2, ty, pos, after, none⟩).run P w = .ok (.value (.bool false)) w := by rw [run_neq_bool hx hy hT]; simp
theorem run_eql_one_int {k : IntKind} {a : Int} (hx : ev n e x = .int k a) (hy : ev n e y = .int k a) :
    (execOp (ev n e) ⟨dst, .binOp .eql t x y t2, ty, pos, after, none⟩).run P w = .ok (.value (.bool true)) w := by
  have : (execOp (ev n e) ⟨dst, .binOp .eql t x y t2, ty, pos, after, none⟩).run P w = .ok (.value (.bool (a == a))) w := by
    simp only [execOp, hx, hy, eqGuard, binOp, Op.intCmp, bind, pure, Sem.bind, ne_eq, not_true_eq_false, if_false]; rfl
  rw [this]; simp
theorem run_neq_one_int {k : IntKind} {a : Int} (hx : ev n e x = .int k a) (hy : ev n e y = .int k a) :
    (execOp (ev n e) ⟨dst, .binOp .neq t x y t2, ty, pos, after, none⟩).run P w = .ok (.value (.bool false)) w := by
  have : (execOp (ev n e) ⟨dst, .binOp .neq t x y t2, ty, pos, after, none⟩).run P w = .ok (.value (.bool (a != a))) w := by
    simp only [execOp, hx, hy, eqGuard, binOp, Op.intCmp, bind, pure, Sem.bind, ne_eq, not_true_eq_false, if_false]; rfl
  rw [this]; simp
theorem run_eql_no {k : IntKind} {a c : Int} (hx : ev n e x = .int k a) (hy : ev n e y = .int k c) (h : a ≠ c) :
    (execOp (ev n e) ⟨dst, .binOp .eql t x y t2, ty, pos, after, none⟩).run P w = .ok (.value (.bool false)) w := by
  have : (execOp (ev n e) ⟨dst, .binOp .eql t x y t2, ty, pos, after, none⟩).run P w = .ok (.value (.bool (a == c))) w := by
    simp only [execOp, hx, hy, eqGuard, binOp, Op.intCmp, bind, pure, Sem.bind, ne_eq, not_true_eq_false, if_false]; rfl
  rw [this]; simp [h]
theorem run_neq_no {k : IntKind} {a c : Int} (hx : ev n e x = .int k a) (hy : ev n e y = .int k c) (h : a ≠ c) :
    (execOp (ev n e) ⟨dst, .binOp .neq t x y t2, ty, pos, after, none⟩).run P w = .ok (.value (.bool true)) w := by
  have : (execOp (ev n e) ⟨dst, .binOp .neq t x y t2, ty, pos, after, none⟩).run P w = .ok (.value (.bool (a != c))) w := by
    simp only [execOp, hx, hy, eqGuard, binOp, Op.intCmp, bind, pure, Sem.bind, ne_eq, not_true_eq_false, if_false]; rfl
  rw [this]; simp [h]
theorem run_lss_yes {k : IntKind} {a c : Int} (hx : ev n e x = .int k a) (hy : ev n e y = .int k c) (h : a < c) :
    (execOp (ev n e) ⟨dst, .binOp .lss t x y t2, ty, pos, after, none⟩).run P w = .ok (.value (.bool true)) w := by
  have : (execOp (ev n e) ⟨dst, .binOp .lss t x y t2, ty, pos, after, none⟩).run P w = .ok (.value (.bool (decide (a < c)))) w := by
    simp only [execOp, hx, hy, eqGuard, binOp, Op.intCmp, bind, pure, Sem.bind, ne_eq, not_true_eq_false, if_false]; rfl
  rw [this]; simp only [decide_eq_true h]
theorem run_lss_no {k : IntKind} {a c : Int} (hx : ev n e x = .int k a) (hy : ev n e y = .int k c) (h : ¬ (a < c)) :
    (execOp (ev n e) ⟨dst, .binOp .lss t x y t2, ty, pos, after, none⟩).run P w = .ok (.value (.bool false)) w := by
  have : (execOp (ev n e) ⟨dst, .binOp .lss t x y t2, ty, pos, after, none⟩).run P w = .ok (.value (.bool (decide (a < c)))) w := by
    simp only [execOp, hx, hy, eqGuard, binOp, Op.intCmp, bind, pure, Sem.bind, ne_eq, not_true_eq_false, if_false]; rfl
  rw [this]; simp only [decide_eq_false h]
theorem run_leq_yes {k : IntKind} {a c : Int} (hx : ev n e x = .int k a) (hy : ev n e y = .int k c) (h : a ≤ c) :
    (execOp (ev n e) ⟨dst, .binOp .leq t x y t2, ty, pos, after, none⟩).run P w = .ok (.value (.bool true)) w := by
  have : (execOp (ev n e) ⟨dst, .binOp .leq t x y t2, ty, pos, after, none⟩).run P w = .ok (.value (.bool (decide (a ≤ c)))) w := by
    simp only [execOp, hx, hy, eqGuard, binOp, Op.intCmp, bind, pure, Sem.bind, ne_eq, not_true_eq_false, if_false]; rfl
  rw [this]; simp only [decide_eq_true h]
theorem run_leq_no {k : IntKind} {a c : Int} (hx : ev n e x = .int k a) (hy : ev n e y = .int k c) (h : ¬ (a ≤ c)) :
    (execOp (ev n e) ⟨dst, .binOp .leq t x y t2, ty, pos, after, none⟩).run P w = .ok (.value (.bool false)) w := by
  have : (execOp (ev n e) ⟨dst, .binOp .leq t x y t2, ty, pos, after, none⟩).run P w = .ok (.value (.bool (decide (a ≤ c)))) w := by
    simp only [execOp, hx, hy, eqGuard, binOp, Op.intCmp, bind, pure, Sem.bind, ne_eq, not_true_eq_false, if_false]; rfl
  rw [this]; simp only [decide_eq_false h]
theorem run_gtr_yes {k : IntKind} {a c : Int} (hx : ev n e x = .int k a) (hy : ev n e y = .int k c) (h : a > c) :
    (execOp (ev n e) ⟨dst, .binOp .gtr t x y t2, ty, pos, after, none⟩).run P w = .ok (.value (.bool true)) w := by
  have : (execOp (ev n e) ⟨dst, .binOp .gtr t x y t2, ty, pos, after, none⟩).run P w = .ok (.value (.bool (decide (a > c)))) w := by
    simp only [execOp, hx, hy, eqGuard, binOp, Op.intCmp, bind, pure, Sem.bind, ne_eq, not_true_eq_false, if_false]; rfl
  rw [this]; simp only [decide_eq_true h]
theorem run_gtr_no {k : IntKind} {a c : Int} (hx : ev n e x = .int k a) (hy : ev n e y = .int k c) (h : ¬ (a > c)) :
    (execOp (ev n e) ⟨dst, .binOp .gtr t x y t2, ty, pos, after, none⟩).run P w = .ok (.value (.bool false)) w := by
  have : (execOp (ev n e) ⟨dst, .binOp .gtr t x y t2, ty, pos, after, none⟩).run P w = .ok (.value (.bool (decide (a > c)))) w := by
    simp only [execOp, hx, hy, eqGuard, binOp, Op.intCmp, bind, pure, Sem.bind, ne_eq, not_true_eq_false, if_false]; rfl
  rw [this]; simp only [decide_eq_false h]
theorem run_geq_yes {k : IntKind} {a c : Int} (hx : ev n e x = .int k a) (hy : ev n e y = .int k c) (h : a ≥ c) :
    (execOp (ev n e) ⟨dst, .binOp .geq t x y t2, ty, pos, after, none⟩).run P w = .ok (.value (.bool true)) w := by
  have : (execOp (ev n e) ⟨dst, .binOp .geq t x y t2, ty, pos, after, none⟩).run P w = .ok (.value (.bool (decide (a ≥ c)))) w := by
    simp only [execOp, hx, hy, eqGuard, binOp, Op.intCmp, bind, pure, Sem.bind, ne_eq, not_true_eq_false, if_false]; rfl
  rw [this]; simp only [decide_eq_true h]
theorem run_geq_no {k : IntKind} {a c : Int} (hx : ev n e x = .int k a) (hy : ev n e y = .int k c) (h : ¬ (a ≥ c)) :
    (execOp (ev n e) ⟨dst, .binOp .geq t x y t2, ty, pos, after, none⟩).run P w = .ok (.value (.bool false)) w := by
  have : (execOp (ev n e) ⟨dst, .binOp .geq t x y t2, ty, pos, after, none⟩).run P w = .ok (.value (.bool (decide (a ≥ c)))) w := by
    simp only [execOp, hx, hy, eqGuard, binOp, Op.intCmp, bind, pure, Sem.bind, ne_eq, not_true_eq_false, if_false]; rfl
  rw [this]; simp only [decide_eq_false h]
theorem run_eql_yes {k : IntKind} {a c : Int} (hx : ev n e x = .int k a) (hy : ev n e y = .int k c) (h : a = c) :
    (execOp (ev n e) ⟨dst, .binOp .eql t x y t2, ty, pos, after, none⟩).run P w = .ok (.value (.bool true)) w := run_eql_one_int hx (by rw [h]; exact hy)
theorem run_neq_yes {k : IntKind} {a c : Int} (hx : ev n e x = .int k a) (hy : ev n e y = .int k c) (h : a = c) :
    (execOp (ev n e) ⟨dst, .binOp .neq t x y t2, ty, pos, after, none⟩).run P w = .ok (.value (.bool false)) w := run_neq_one_int hx (by rw [h]; exact hy)
/-- Pointers held against each other. -/
def isPtrP (P : Program) (t : TypeId) : Option TypeId := match P.underlying t with | some (.pointer el) => some el | _ => none
theorem ptrP {el : TypeId} (h : isPtrP P t = some el) : P.underlying t = some (.pointer el) := by
  unfold isPtrP at h; split at h
  · rename_i h'; cases h; exact h'
  · cases h
theorem run_equal_ptr_none {el : TypeId} {q : Option Addr} (hT : isPtrP P t = some el) : (Op.equal t (.pointer q) (.pointer none)).run P w = .ok q.isNone w := by
  have h1 := run_underlying (ptrP hT) w
  unfold Op.equal Op.maxDepth
  rw [show (10000 : Nat) = 9999 + 1 from rfl, Op.equalIn]
  simp only [bind, pure]
  rw [Sem.run_bind', h1]
  cases q <;> rfl
theorem run_eql_ptr {el : TypeId} {q : Option Addr} (hx : ev n e x = .pointer q) (hy : ev n e y = .pointer none) (hT : isPtrP P t = some el) :
    (execOp (ev n e) ⟨dst, .binOp .eql t x y t2, ty, pos, after, none⟩).run P w = .ok (.value (.bool q.isNone)) w := by
  have h1 := run_equal_ptr_none (w := w) (q := q) hT
  have h2 : (execOp (ev n e) ⟨dst, .binOp .eql t x y t2, ty, pos, after, none⟩) = (Op.equal t (.pointer q) (.pointer none)).bind fun r => .pure (.value (.bool r)) := by
    simp only [execOp, hx, hy, eqGuard, binOp]
    simp only [bind, pure, Bool.not_true, Bool.false_eq_true, if_false, Sem.bind]
    exact (Sem.bind_assoc' _ _ _)
  rw [h2, Sem.run_bind', h1]
  rfl
theorem run_eql_ptr_yes {el : TypeId} (hx : ev n e x = .pointer none) (hy : ev n e y = .pointer none) (hT : isPtrP P t = some el) :
    (execOp (ev n e) ⟨dst, .binOp .eql t x y t2, ty, pos, after, none⟩).run P w = .ok (.value (.bool true)) w := run_eql_ptr hx hy hT
theorem run_eql_ptr_no {el : TypeId} {a : Addr} (hx : ev n e x = .pointer (some a)) (hy : ev n e y = .pointer none) (hT : isPtrP P t = some el) :
    (execOp (ev n e) ⟨dst, .binOp .eql t x y t2, ty, pos, after, none⟩).run P w = .ok (.value (.bool false)) w := run_eql_ptr hx hy hT
theorem run_nilCheck {a : Addr} (hx : ev n e x = .pointer (some a)) : (execOp (ev n e) ⟨dst, .nilCheck x, ty, pos, after, none⟩).run P w = .ok (.value (.pointer (some a))) w := by
  simp only [execOp, hx]; rfl
end
end Go.Proofs.YtdiophafmokfiaaDoor
