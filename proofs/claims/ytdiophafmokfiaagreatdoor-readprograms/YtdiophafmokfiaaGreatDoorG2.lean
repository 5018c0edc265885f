/- Ops, Made: texts that follow one another, laid into one file. -/
import Derived.Test.YtdiophafmokfiaaGreatDoorMem
namespace Go.Proofs.YtdiophafmokfiaaGreatDoor
open Go.RowKit
set_option linter.unusedSimpArgs false
set_option linter.unusedVariables false
section
variable {P : Program} {n : Nat} {e : Env} {w : World} {Q : Exit → Act → World → Prop} {ops : Array Oper} {rest : List Oper} {ty : TypeId} {pos : String} {after : Array Edge} {d : Nat}
variable {M : List Nat} {w0 : World} {H H' : List (Nat × Obj)} {F : List (World → Prop)} {b o : Nat} {x y : Operand} {v : Value} {dst : Option Nat} {t t2 : TypeId}

theorem wrap_of {i : Int} (h1 : -9223372036854775808 ≤ i) (h2 : i ≤ 9223372036854775807) : IntKind.i64.wrap i = i := by
  rw [IntKind.wrap_i64]; omega
theorem run_add {a c : Int} (hx : ev n e x = .int .i64 a) (hy : ev n e y = .int .i64 c) (h1 : -9223372036854775808 ≤ a + c) (h2 : a + c ≤ 9223372036854775807) :
    (execOp (ev n e) ⟨dst, .binOp .add t x y t2, ty, pos, after, none⟩).run P w = .ok (.value (.int .i64 (a + c))) w := by
  have : (execOp (ev n e) ⟨dst, .binOp .add t x y t2, ty, pos, after, none⟩).run P w = .ok (.value (.int .i64 (IntKind.i64.wrap (a + c)))) w := by simp only [execOp, hx, hy]; rfl
  rw [this, wrap_of h1 h2]
theorem run_sub {a c : Int} (hx : ev n e x = .int .i64 a) (hy : ev n e y = .int .i64 c) (h1 : -9223372036854775808 ≤ a - c) (h2 : a - c ≤ 9223372036854775807) :
    (execOp (ev n e) ⟨dst, .binOp .sub t x y t2, ty, pos, after, none⟩).run P w = .ok (.value (.int .i64 (a - c))) w := by
  have : (execOp (ev n e) ⟨dst, .binOp .sub t x y t2, ty, pos, after, none⟩).run P w = .ok (.value (.int .i64 (IntKind.i64.wrap (a - c)))) w := by simp only [execOp, hx, hy]; rfl
  rw [this, wrap_of h1 h2]
/-- The length of a slice, of a string. -/
def isSliceP (P : Program) (t : TypeId) : Option TypeId := match P.underlying t with | some (.slice el) => some el | _ => none
def isStringP (P : Program) (t : TypeId) : Bool := match P.underlying t with | some .string => true | _ => false
theorem sliceP {el : TypeId} (h : isSliceP P t = some el) : P.underlying t = some (.slice el) := by
  unfold isSliceP at h; split at h
  · rename_i h'; cases h; exact h'
  · cases h
theorem stringP (h : isStringP P t = true) : P.underlying t = some .string := by
  unfold isStringP at h; split at h
  · assumption
  · cases h
theorem run_len_slice {el : TypeId} {A : Option Addr} {l c : Nat} {ts : Array TypeId} (hx : ev n e x = .slice A l c) (ht : ts[0]? = some t) (hT : isSliceP P t = some el) :
    (execOp (ev n e) ⟨dst, .call ⟨.builtin .len, #[x], ts⟩, ty, pos, after, none⟩).run P w = .ok (.value (.int .i64 l)) w := by
  have h1 := run_underlying (sliceP hT) w
  simp only [execOp, resolve, List.map_toArray, List.map_cons, List.map_nil, hx, bind, pure, Sem.bind, invoke, builtin, Builtin.len_, ht, List.getElem?_toArray, List.getElem?_cons_zero]
  rw [Sem.run_bind', Sem.run_bind', h1]
  rfl
theorem run_len_string {s : ByteArray} {ts : Array TypeId} (hx : ev n e x = .string s) (ht : ts[0]? = some t) (hT : isStringP P t = true) :
    (execOp (ev n e) ⟨dst, .call ⟨.builtin .len, #[x], ts⟩, ty, pos, after, none⟩).run P w = .ok (.value (.int .i64 s.size)) w := by
  have h1 := run_underlying (stringP hT) w
  simp only [execOp, resolve, List.map_toArray, List.map_cons, List.map_nil, hx, bind, pure, Sem.bind, invoke, builtin, Builtin.len_, ht, List.getElem?_toArray, List.getElem?_cons_zero]
  rw [Sem.run_bind', Sem.run_bind', h1]
  rfl
/-- A byte of a string. -/
theorem run_index_string {s : ByteArray} {i : Int} (hx : ev n e x = .string s) (hy : ev n e y = .int .i64 i) (hT : isStringP P t = true) (h0 : 0 ≤ i) (h1 : i.toNat < s.size) :
    (execOp (ev n e) ⟨dst, .index t x y, ty, pos, after, none⟩).run P w = .ok (.value (.int .u8 (s[i.toNat]'h1).toNat)) w := by
  have h2 := run_underlying (stringP hT) w
  simp only [execOp, Instr.index, hx, hy, asIntOf, bind, pure, Sem.bind]
  rw [Sem.run_bind', Sem.run_bind', h2]
  have h3 : s[i.toNat]? = some (s[i.toNat]'h1) := by simp [h1]
  simp only [Result.andThen_ok, if_pos h0, h3]
  rfl
/-- The address of an element. -/
theorem run_indexAddr {el sz : Nat} {i : Int} {l c : Nat} (hx : ev n e x = .slice (some ⟨b, o, none⟩) l c) (hy : ev n e y = .int .i64 i) (hT : isSliceP P t = some el) (hs : cellsP P el = some sz) (h0 : 0 ≤ i) (h1 : i < l) :
    (execOp (ev n e) ⟨dst, .indexAddr t x y, ty, pos, after, none⟩).run P w = .ok (.value (.pointer (some ⟨b, o + i.toNat * sz, none⟩))) w := by
  have h2 := run_underlying (sliceP hT) w
  have h3 := run_sizeP (w := w) hs
  simp only [execOp, Instr.indexAt, hx, hy, asIntOf, bind, pure, Sem.bind]
  rw [Sem.run_bind', Sem.run_bind', h2]
  simp only [Result.andThen_ok, Sem.bind]
  rw [Sem.run_bind', h2]
  simp only [Result.andThen_ok, if_pos (And.intro h0 h1)]
  rw [Sem.run_bind', h3]
  simp only [Result.andThen_ok, addrPlus, Sem.run]
/-- A part of a string. -/
def bound (n : Nat) (e : Env) (h : Option Operand) (dflt : Int) : Option Int := match h with | none => some dflt | some z => match ev n e z with | .int _ i => some i | _ => none
theorem run_bound {z : Value} {k : IntKind} {i : Int} {m : Nat} {cd : BoundsCode} (hz : z = .int k i) (h0 : 0 ≤ i) (h1 : i ≤ m) : (Instr.sliceBound z m cd).run P w = .ok i.toNat w := by
  subst hz
  simp only [Instr.sliceBound, asIntOf, bind, pure, Sem.bind, if_pos (And.intro h0 h1)]
  rfl
theorem run_slice_low {s : ByteArray} {i : Int} (hx : ev n e x = .string s) (hy : ev n e y = .int .i64 i) (hT : isStringP P t = true) (h0 : 0 ≤ i) (h1 : i ≤ s.size) :
    (execOp (ev n e) ⟨dst, .slice t x (some y) none none, ty, pos, after, none⟩).run P w = .ok (.value (.string (s.extract i.toNat s.size))) w := by
  have h2 := run_underlying (stringP hT) w
  simp only [execOp, Instr.sliceAt, Instr.slice, hx, hy, Option.map_some, Option.map_none, bind, pure, Sem.bind]
  rw [Sem.run_bind', Sem.run_bind', h2]
  simp only [Result.andThen_ok]
  rw [Sem.run_bind', h2]
  simp only [Result.andThen_ok, Instr.sliceBounds, Option.isSome_none, Bool.false_eq_true, if_false, bind, pure, Sem.bind]
  rw [Sem.run_bind', Sem.run_bind', run_bound rfl h0 h1]
  rfl
theorem run_slice_high {s : ByteArray} {i : Int} (hx : ev n e x = .string s) (hy : ev n e y = .int .i64 i) (hT : isStringP P t = true) (h0 : 0 ≤ i) (h1 : i ≤ s.size) :
    (execOp (ev n e) ⟨dst, .slice t x none (some y) none, ty, pos, after, none⟩).run P w = .ok (.value (.string (s.extract 0 i.toNat))) w := by
  have h2 := run_underlying (stringP hT) w
  simp only [execOp, Instr.sliceAt, Instr.slice, hx, hy, Option.map_some, Option.map_none, bind, pure, Sem.bind]
  rw [Sem.run_bind', Sem.run_bind', h2]
  simp only [Result.andThen_ok]
  rw [Sem.run_bind', h2]
  simp only [Result.andThen_ok, Instr.sliceBounds, Option.isSome_none, Bool.false_eq_true, if_false, bind, pure, Sem.bind]
  rw [Sem.run_bind', Sem.run_bind', run_bound rfl h0 h1]
  rfl
/-- A function value. -/
theorem run_makeFunc {fn : Fn} {fs cs : Array Operand} {vs us : Array Value} (h1 : fs.map (ev n e) = vs) (h2 : cs.map (ev n e) = us) :
    (execOp (ev n e) ⟨dst, .makeFunc fn fs cs, ty, pos, after, none⟩).run P w = .ok (.value (.func fn vs us)) w := by
  subst h1 h2; rfl
/-- Two that are one. -/
def isBoolP (P : Program) (t : TypeId) : Bool := match P.underlying t with | some .bool => true | _ => false
theorem boolP (h : isBoolP P t = true) : P.underlying t = some .bool := by
  unfold isBoolP at h; split at h
  · assumption
  · cases h
theorem run_equal_bool {a c : Bool} (hT : isBoolP P t = true) : (Op.equal t (.bool a) (.bool c)).run P w = .ok (a == c) w := by
  have h1 := run_underlying (boolP hT) w
  unfold Op.equal Op.maxDepth
  rw [show (10000 : Nat) = 9999 + 1 from rfl, Op.equalIn]
  simp only [bind, pure]
  rw [Sem.run_bind', h1]
  rfl
theorem run_eql_bool {a c : Bool} (hx : ev n e x = .bool a) (hy : ev n e y = .bool c) (hT : isBoolP P t = true) :
    (execOp (ev n e) ⟨dst, .binOp .eql t x y t2, ty, pos, after, none⟩).run P w = .ok (.value (.bool (a == c))) w := by
  have h1 := run_equal_bool (w := w) (a := a) (c := c) hT
  have h2 : (execOp (ev n e) ⟨dst, .binOp .eql t x y t2, ty, pos, after, none⟩) = (Op.equal t (.bool a) (.bool c)).bind fun r => .pure (.value (.bool r)) := by
    simp only [execOp, hx, hy, eqGuard, binOp]
    simp only [bind, pure, Bool.not_true, Bool.false_eq_true, if_false, Sem.bind]
    exact (Sem.bind_assoc' _ _ _)
  rw [h2, Sem.run_bind', h1]
  rfl
theorem run_neq_bool {a c : Bool} (hx : ev n e x = .bool a) (hy : ev n e y = .bool c) (hT : isBoolP P t = true) :
    (execOp (ev n e) ⟨dst, .binOp .neq t x y t2, ty, pos, after, none⟩).run P w = .ok (.value (.bool (a != c))) w := by
  have h1 := run_equal_bool (w := w) (a := a) (c := c) hT
  have h2 : (execOp (ev n e) ⟨dst, .binOp .neq t x y t2, ty, pos, after, none⟩) = (Op.equal t (.bool a) (.bool c)).bind fun r => .pure (.value (.bool !r)) := by
    simp only [execOp, hx, hy, eqGuard, binOp]
    simp only [bind, pure, Bool.not_true, Bool.false_eq_true, if_false, Sem.bind]
    exact (Sem.bind_assoc' _ _ _)
  rw [h2, Sem.run_bind', h1]
  rfl
theorem run_eql_one {a : Bool} (hx : ev n e x = .bool a) (hy : ev n e y = .bool a) (hT : isBoolP P t = true) :
    (execOp (ev n e) ⟨dst, .binOp .eql t x y t2, ty, pos, after, none⟩).run P w = .ok (.value (.bool true)) w := by rw [run_eql_bool hx hy hT]; simp
theorem run_neq_one {a : Bool} (hx : ev n e x = .bool a) (hy : ev n e y = .bool a) (hT : isBoolP P t = true) :
    (execOp (ev n e) ⟨dst, .binOp .neq t x y t2, ty, pos, after, none⟩).run P w = .ok (.value (.bool false)) w := by rw [run_neq_bool hx hy hT]; simp
theorem run_eql_one_int {k : IntKind} {a : Int} (hx : ev n e x = .int k a) (hy : ev n e y = .int k a) :
    (execOp (ev n e) ⟨dst, .binOp .eql t x y t2, ty, pos, after, none⟩).run P w = .ok (.value (.bool true)) w := by
  have : (execOp (ev n e) ⟨dst, .binOp .eql t x y t2, ty, pos, after, none⟩).run P w = .ok (.value (.bool (a == a))) w := by
    simp only [execOp, hx, hy, eqGuard, binOp, Op.intCmp, bind, pure, Sem.bind, ne_eq, not_true_eq_false, if_false]; rfl
  rw [this]; simp
theorem run_neq_one_int {k : IntKind} {a : Int} (hx : ev n e x = .int k a) (hy : ev n e y = .int k a) :
    (execOp (ev n e) ⟨dst, .binOp .neq t x y t2, ty, pos, after, none⟩).run P w = .ok (.value (.bool false)) w := by
  have : (execOp (ev n e) ⟨dst, .binOp .neq t x y t2, ty, pos, after, none⟩).run P w = .ok (.value (.bool (a != a))) w := by
    simp only [execOp, hx, hy, eqGuard, binOp, Op.intCmp, bind, pure, Sem.bind, ne_eq, not_true_eq_false, if_false]; rfl
  rw [this]; simp
theorem run_eql_no {k : IntKind} {a c : Int} (hx : ev n e x = .int k a) (hy : ev n e y = .int k c) (h : a ≠ c) :
    (execOp (ev n e) ⟨dst, .binOp .eql t x y t2, ty, pos, after, none⟩).run P w = .ok (.value (.bool false)) w := by
  have : (execOp (ev n e) ⟨dst, .binOp .eql t x y t2, ty, pos, after, none⟩).run P w = .ok (.value (.bool (a == c))) w := by
    simp only [execOp, hx, hy, eqGuard, binOp, Op.intCmp, bind, pure, Sem.bind, ne_eq, not_true_eq_false, if_false]; rfl
  rw [this]; simp [h]
theorem run_neq_no {k : IntKind} {a c : Int} (hx : ev n e x = .int k a) (hy : ev n e y = .int k c) (h : a ≠ c) :
    (execOp (ev n e) ⟨dst, .binOp .neq t x y t2, ty, pos, after, none⟩).run P w = .ok (.value (.bool true)) w := by
  have : (execOp (ev n e) ⟨dst, .binOp .neq t x y t2, ty, pos, after, none⟩).run P w = .ok (.value (.bool (a != c))) w := by
    simp only [execOp, hx, hy, eqGuard, binOp, Op.intCmp, bind, pure, Sem.bind, ne_eq, not_true_eq_false, if_false]; rfl
  rw [this]; simp [h]
theorem run_lss_yes {k : IntKind} {a c : Int} (hx : ev n e x = .int k a) (hy : ev n e y = .int k c) (h : a < c) :
    (execOp (ev n e) ⟨dst, .binOp .lss t x y t2, ty, pos, after, none⟩).run P w = .ok (.value (.bool true)) w := by
  have : (execOp (ev n e) ⟨dst, .binOp .lss t x y t2, ty, pos, after, none⟩).run P w = .ok (.value (.bool (decide (a < c)))) w := by
    simp only [execOp, hx, hy, eqGuard, binOp, Op.intCmp, bind, pure, Sem.bind, ne_eq, not_true_eq_false, if_false]; rfl
  rw [this]; simp only [decide_eq_true h]
theorem run_lss_no {k : IntKind} {a c : Int} (hx : ev n e x = .int k a) (hy : ev n e y = .int k c) (h : ¬ (a < c)) :
    (execOp (ev n e) ⟨dst, .binOp .lss t x y t2, ty, pos, after, none⟩).run P w = .ok (.value (.bool false)) w := by
  have : (execOp (ev n e) ⟨dst, .binOp .lss t x y t2, ty, pos, after, none⟩).run P w = .ok (.value (.bool (decide (a < c)))) w := by
    simp only [execOp, hx, hy, eqGuard, binOp, Op.intCmp, bind, pure, Sem.bind, ne_eq, not_true_eq_false, if_false]; rfl
  rw [this]; simp only [decide_eq_false h]
theorem run_leq_yes {k : IntKind} {a c : Int} (hx : ev n e x = .int k a) (hy : ev n e y = .int k c) (h : a ≤ c) :
    (execOp (ev n e) ⟨dst, .binOp .leq t x y t2, ty, pos, after, none⟩).run P w = .ok (.value (.bool true)) w := by
  have : (execOp (ev n e) ⟨dst, .binOp .leq t x y t2, ty, pos, after, none⟩).run P w = .ok (.value (.bool (decide (a ≤ c)))) w := by
    simp only [execOp, hx, hy, eqGuard, binOp, Op.intCmp, bind, pure, Sem.bind, ne_eq, not_true_eq_false, if_false]; rfl
  rw [this]; simp only [decide_eq_true h]
theorem run_leq_no {k : IntKind} {a c : Int} (hx : ev n e x = .int k a) (hy : ev n e y = .int k c) (h : ¬ (a ≤ c)) :
    (execOp (ev n e) ⟨dst, .binOp .leq t x y t2, ty, pos, after, none⟩).run P w = .ok (.value (.bool false)) w := by
  have : (execOp (ev n e) ⟨dst, .binOp .leq t x y t2, ty, pos, after, none⟩).run P w = .ok (.value (.bool (decide (a ≤ c)))) w := by
    simp only [execOp, hx, hy, eqGuard, binOp, Op.intCmp, bind, pure, Sem.bind, ne_eq, not_true_eq_false, if_false]; rfl
  rw [this]; simp only [decide_eq_false h]
theorem run_gtr_yes {k : IntKind} {a c : Int} (hx : ev n e x = .int k a) (hy : ev n e y = .int k c) (h : a > c) :
    (execOp (ev n e) ⟨dst, .binOp .gtr t x y t2, ty, pos, after, none⟩).run P w = .ok (.value (.bool true)) w := by
  have : (execOp (ev n e) ⟨dst, .binOp .gtr t x y t2, ty, pos, after, none⟩).run P w = .ok (.value (.bool (decide (a > c)))) w := by
    simp only [execOp, hx, hy, eqGuard, binOp, Op.intCmp, bind, pure, Sem.bind, ne_eq, not_true_eq_false, if_false]; rfl
  rw [this]; simp only [decide_eq_true h]
theorem run_gtr_no {k : IntKind} {a c : Int} (hx : ev n e x = .int k a) (hy : ev n e y = .int k c) (h : ¬ (a > c)) :
    (execOp (ev n e) ⟨dst, .binOp .gtr t x y t2, ty, pos, after, none⟩).run P w = .ok (.value (.bool false)) w := by
  have : (execOp (ev n e) ⟨dst, .binOp .gtr t x y t2, ty, pos, after, none⟩).run P w = .ok (.value (.bool (decide (a > c)))) w := by
    simp only [execOp, hx, hy, eqGuard, binOp, Op.intCmp, bind, pure, Sem.bind, ne_eq, not_true_eq_false, if_false]; rfl
  rw [this]; simp only [decide_eq_false h]
theorem run_geq_yes {k : IntKind} {a c : Int} (hx : ev n e x = .int k a) (hy : ev n e y = .int k c) (h : a ≥ c) :
    (execOp (ev n e) ⟨dst, .binOp .geq t x y t2, ty, pos, after, none⟩).run P w = .ok (.value (.bool true)) w := by
  have : (execOp (ev n e) ⟨dst, .binOp .geq t x y t2, ty, pos, after, none⟩).run P w = .ok (.value (.bool (decide (a ≥ c)))) w := by
    simp only [execOp, hx, hy, eqGuard, binOp, Op.intCmp, bind, pure, Sem.bind, ne_eq, not_true_eq_false, if_false]; rfl
  rw [this]; simp only [decide_eq_true h]
theorem run_geq_no {k : IntKind} {a c : Int} (hx : ev n e x = .int k a) (hy : ev n e y = .int k c) (h : ¬ (a ≥ c)) :
    (execOp (ev n e) ⟨dst, .binOp .geq t x y t2, ty, pos, after, none⟩).run P w = .ok (.value (.bool false)) w := by
  have : (execOp (ev n e) ⟨dst, .binOp .geq t x y t2, ty, pos, after, none⟩).run P w = .ok (.value (.bool (decide (a ≥ c)))) w := by
    simp only [execOp, hx, hy, eqGuard, binOp, Op.intCmp, bind, pure, Sem.bind, ne_eq, not_true_eq_false, if_false]; rfl
  rw [this]; simp only [decide_eq_false h]
theorem run_eql_yes {k : IntKind} {a c : Int} (hx : ev n e x = .int k a) (hy : ev n e y = .int k c) (h : a = c) :
    (execOp (ev n e) ⟨dst, .binOp .eql t x y t2, ty, pos, after, none⟩).run P w = .ok (.value (.bool true)) w := run_eql_one_int hx (by rw [h]; exact hy)
theorem run_neq_yes {k : IntKind} {a c : Int} (hx : ev n e x = .int k a) (hy : ev n e y = .int k c) (h : a = c) :
    (execOp (ev n e) ⟨dst, .binOp .neq t x y t2, ty, pos, after, none⟩).run P w = .ok (.value (.bool false)) w := run_neq_one_int hx (by rw [h]; exact hy)
/-- Pointers held against each other. -/
def isPtrP (P : Program) (t : TypeId) : Option TypeId := match P.underlying t with | some (.pointer el) => some el | _ => none
theorem ptrP {el : TypeId} (h : isPtrP P t = some el) : P.underlying t = some (.pointer el) := by
  unfold isPtrP at h; split at h
  · rename_i h'; cases h; exact h'
  · cases h
theorem run_equal_ptr_none {el : TypeId} {q : Option Addr} (hT : isPtrP P t = some el) : (Op.equal t (.pointer q) (.pointer none)).run P w = .ok q.isNone w := by
  have h1 := run_underlying (ptrP hT) w
  unfold Op.equal Op.maxDepth
  rw [show (10000 : Nat) = 9999 + 1 from rfl, Op.equalIn]
  simp only [bind, pure]
  rw [Sem.run_bind', h1]
  cases q <;> rfl
theorem run_eql_ptr {el : TypeId} {q : Option Addr} (hx : ev n e x = .pointer q) (hy : ev n e y = .pointer none) (hT : isPtrP P t = some el) :
    (execOp (ev n e) ⟨dst, .binOp .eql t x y t2, ty, pos, after, none⟩).run P w = .ok (.value (.bool q.isNone)) w := by
  have h1 := run_equal_ptr_none (w := w) (q := q) hT
  have h2 : (execOp (ev n e) ⟨dst, .binOp .eql t x y t2, ty, pos, after, none⟩) = (Op.equal t (.pointer q) (.pointer none)).bind fun r => .pure (.value (.bool r)) := by
    simp only [execOp, hx, hy, eqGuard, binOp]
    simp only [bind, pure, Bool.not_true, Bool.false_eq_true, if_false, Sem.bind]
    exact (Sem.bind_assoc' _ _ _)
  rw [h2, Sem.run_bind', h1]
  rfl
theorem run_eql_ptr_yes {el : TypeId} (hx : ev n e x = .pointer none) (hy : ev n e y = .pointer none) (hT : isPtrP P t = some el) :
    (execOp (ev n e) ⟨dst, .binOp .eql t x y t2, ty, pos, after, none⟩).run P w = .ok (.value (.bool true)) w := run_eql_ptr hx hy hT
theorem run_eql_ptr_no {el : TypeId} {a : Addr} (hx : ev n e x = .pointer (some a)) (hy : ev n e y = .pointer none) (hT : isPtrP P t = some el) :
    (execOp (ev n e) ⟨dst, .binOp .eql t x y t2, ty, pos, after, none⟩).run P w = .ok (.value (.bool false)) w := run_eql_ptr hx hy hT
theorem run_nilCheck {a : Addr} (hx : ev n e x = .pointer (some a)) : (execOp (ev n e) ⟨dst, .nilCheck x, ty, pos, after, none⟩).run P w = .ok (.value (.pointer (some a))) w := by
  simp only [execOp, hx]; rfl
end
end Go.Proofs.YtdiophafmokfiaaGreatDoor
namespace Go.Proofs.YtdiophafmokfiaaGreatDoor
open Go.RowKit
set_option linter.unusedSimpArgs false
set_option linter.unusedVariables false

def setL : List Value → Nat → List Value → List Value
  | l, _, [] => l
  | l, i, v :: r => setL (l.set i v) (i + 1) r
theorem setL_length : ∀ (r l : List Value) (i : Nat), (setL l i r).length = l.length
  | [], l, i => rfl
  | v :: r, l, i => by rw [setL, setL_length r]; simp
theorem fold_setL (off : Nat) : ∀ (r : List Value) (k : Nat) (l : List Value), ((r.zipIdx k).foldl (fun (cs : Array Value) (p : Value × Nat) => cs.setIfInBounds (off + p.2) p.1) l.toArray) = (setL l (off + k) r).toArray
  | [], k, l => by simp [setL]
  | v :: r, k, l => by
    rw [List.zipIdx_cons, List.foldl_cons]
    simp only [List.setIfInBounds_toArray]
    rw [fold_setL off r (k + 1) (l.set (off + k) v), setL, Nat.add_assoc]
def fillL (place : Nat → Option (Nat × Nat)) : List Value → List (Nat × Value) → Option (List Value)
  | cells, [] => some cells
  | cells, (i, v) :: rest => match place i with
    | none => none
    | some (off, size) => bif !Nat.beq v.cells.toList.length size || !Nat.ble (off + v.cells.toList.length) cells.length then none else fillL place (setL cells off v.cells.toList) rest
theorem fill_eq (place : Nat → Option (Nat × Nat)) : ∀ (pl : List (Nat × Value)) (cells : List Value) {r : List Value}, fillL place cells pl = some r → Instr.fill place cells.toArray pl = some r.toArray
  | [], cells, r, h => by simp only [fillL, Option.some.injEq] at h; subst h; rfl
  | (i, v) :: rest, cells, r, h => by
    unfold fillL at h
    unfold Instr.fill
    cases hp : place i with
    | none => rw [hp] at h; cases h
    | some q =>
      obtain ⟨off, size⟩ := q
      rw [hp] at h
      simp only at h ⊢
      cases hb : (!Nat.beq v.cells.toList.length size || !Nat.ble (off + v.cells.toList.length) cells.length) with
      | true => rw [hb] at h; cases h
      | false =>
        rw [hb] at h
        simp only [Bool.or_eq_false_iff, Bool.not_eq_false'] at hb
        have h1 : v.cells.size = size := by simpa using Nat.eq_of_beq_eq_true hb.1
        have h2 := Nat.le_of_ble_eq_true hb.2
        rw [if_neg (by simp at h2 ⊢; exact ⟨h1, h2⟩)]
        simp only [cond_false] at h
        have := fold_setL off v.cells.toList 0 cells
        rw [Nat.add_zero] at this
        have he : (v.cells.zipIdx.foldl (fun cs (p : Value × Nat) => cs.setIfInBounds (off + p.2) p.1) cells.toArray) = (setL cells off v.cells.toList).toArray := by
          rw [← this, ← Array.foldl_toList, Array.toList_zipIdx]
        show Instr.fill place (v.cells.zipIdx.foldl (fun cs (p : Value × Nat) => cs.setIfInBounds (off + p.2) p.1) cells.toArray) rest = _
        rw [he]
        exact fill_eq place rest _ h

inductive PutN : List Value → Nat → List Value → List Value → Prop
  | z {l : List Value} : PutN l 0 [] l
  | t {u v : Value} {l l' vs : List Value} : PutN l 0 vs l' → PutN (u :: l) 0 (v :: vs) (v :: l')
  | s {u : Value} {l l' vs : List Value} {i : Nat} : PutN l i vs l' → PutN (u :: l) (i + 1) vs (u :: l')
theorem PutN.eq {l l' vs : List Value} {i : Nat} (h : PutN l i vs l') : l' = l.take i ++ vs ++ l.drop (i + vs.length) ∧ i + vs.length ≤ l.length := by
  induction h with
  | z => simp
  | t _ ih => obtain ⟨h1, h2⟩ := ih; rw [h1]; simp at h2 ⊢; exact h2
  | s _ ih => obtain ⟨h1, h2⟩ := ih; rw [h1]; simp [show ∀ a b : Nat, a + 1 + b = (a + b) + 1 by omega]; omega

section
variable {P : Program} {n : Nat} {e : Env} {w : World} {Q : Exit → Act → World → Prop} {ops : Array Oper} {rest : List Oper} {ty : TypeId} {pos : String} {after : Array Edge} {d : Nat}
variable {M : List Nat} {w0 : World} {H H' : List (Nat × Obj)} {F : List (World → Prop)} {b o : Nat} {x y : Operand} {v : Value} {dst : Option Nat} {t t2 : TypeId}

inductive Parts (n : Nat) (e : Env) : List (Nat × Operand) → List (Nat × Value) → Prop
  | nil : Parts n e [] []
  | cons {i : Nat} {x : Operand} {v : Value} {ps : List (Nat × Operand)} {pl : List (Nat × Value)} (h : ev n e x = v) : Parts n e ps pl → Parts n e ((i, x) :: ps) ((i, v) :: pl)
theorem Parts.eq {n : Nat} {e : Env} {ps : List (Nat × Operand)} {pl : List (Nat × Value)} (h : Parts n e ps pl) : (ps.map fun p => (p.1, ev n e p.2)) = pl := by
  induction h with
  | nil => rfl
  | cons h _ ih => simp only [List.map_cons, ih, h]

def placesL (P : Program) : List Field → Option (List (Nat × Nat))
  | [] => some []
  | f :: r => match cellsP P f.type with
    | none => none
    | some s => match placesL P r with
      | none => none
      | some l => some ((f.offset, s) :: l)
theorem run_places : ∀ {fs : List Field} {l : List (Nat × Nat)}, placesL P fs = some l → (fs.mapM (m := Sem) fun f => do pure (f.offset, ← sizeOf f.type)).run P w = .ok l w
  | [], l, h => by simp only [placesL, Option.some.injEq] at h; subst h; rfl
  | f :: r, l, h => by
    unfold placesL at h
    cases hc : cellsP P f.type with
    | none => rw [hc] at h; cases h
    | some s =>
      rw [hc] at h
      simp only at h
      cases hr : placesL P r with
      | none => rw [hr] at h; cases h
      | some l' =>
        rw [hr] at h
        simp only [Option.some.injEq] at h
        subst h
        have h1 := run_sizeP (w := w) hc
        have h2 := run_places hr
        rw [List.mapM_cons]
        simp only [bind, pure] at h2 ⊢
        rw [Sem.run_bind', Sem.run_bind', h1]
        simp only [Result.andThen_ok, Sem.run]
        rw [Sem.run_bind', h2]
        rfl
def buildL (P : Program) (t : TypeId) (pl : List (Nat × Value)) : Option (List Value) := match P.underlying t with
  | some (.struct fs) => match zeroP P t, placesL P fs.toList with
    | some z, some l => fillL (fun i => l[i]?) z.cells.toList pl
    | _, _ => none
  | _ => none
theorem run_build {parts : List (Nat × Operand)} {pl : List (Nat × Value)} {cells : List Value} (hp : Parts n e parts pl) (h : buildL P t pl = some cells) :
    (execOp (ev n e) ⟨dst, .build t parts.toArray, ty, pos, after, none⟩).run P w = .ok (.value (.agg cells.toArray)) w := by
  rw [← hp.eq] at h
  unfold buildL at h
  split at h
  · rename_i fs hu
    split at h
    · rename_i z l hz hl
      have h1 := run_zeroP (w := w) hz
      have h2 := run_underlying hu w
      have h3 := run_places (w := w) hl
      have h4 := fill_eq _ _ _ h
      simp only [execOp, Instr.build, bind, pure, List.map_toArray]
      rw [Sem.run_bind', Sem.run_bind', h1]
      simp only [Result.andThen_ok]
      rw [Sem.run_bind', h2]
      simp only [Result.andThen_ok]
      rw [Sem.run_bind']
      have h5 : (fs.mapM (m := Sem) fun f => (sizeOf f.type).bind fun a => .pure (f.offset, a)).run P w = .ok l.toArray w := by
        simp only [bind, pure] at h3
        rw [Array.mapM_eq_mapM_toList]
        show (Sem.bind _ _).run P w = _
        simp only [Functor.map, Sem.bind]
        rw [Sem.run_bind', h3]
        rfl
      rw [h5]
      simp only [Result.andThen_ok, Array.toArray_toList, List.getElem?_toArray] at h4 ⊢
      rw [h4]
      rfl
    · cases h
  · cases h
/-- A slice that is written out. -/
def rowL (P : Program) (t : TypeId) (len : Nat) (pl : List (Nat × Value)) : Option (TypeId × List Value) := match isSliceP P t with
  | some el => match cellsP P el, zeroP P el with
    | some sz, some z => bif Nat.ble (len * sz) 64 && Nat.blt 0 (len * sz) && Nat.blt 0 z.cells.toList.length then (fillL (fun i => some (i * sz, sz)) ((List.range (len * sz)).map fun j => z.cells.toList.getD (j % z.cells.toList.length) undef) pl).map (fun l => (el, l)) else none
    | _, _ => none
  | none => none
theorem lst_buildSlice {len : Nat} {parts : List (Nat × Operand)} {pl : List (Nat × Value)} {el : TypeId} {cells : List Value} (hS : St M w0 H F w) (hp : Parts n e parts pl) (h : rowL P t len pl = some (el, cells)) (hd : Nat.blt d n = true)
    (hk : ∀ b w', St M w0 ((b, .cells cells.toArray el) :: H) F w' → Lst P Q ops rest n ((d, .slice (some ⟨b, 0, none⟩) len len) :: e) w') :
    Lst P Q ops (⟨some d, .buildSlice t len parts.toArray, ty, pos, after, none⟩ :: rest) n e w := by
  refine lst_run (v := .slice (some ⟨w.heap.size, 0, none⟩) len len) (w' := w.alloc (.cells cells.toArray el)) ?_ hd (hk _ _ (hS.alloc _))
  rw [← hp.eq] at h
  unfold rowL at h
  split at h
  · rename_i el' hT
    split at h
    · rename_i sz z hs hz
      cases hb : (Nat.ble (len * sz) 64 && Nat.blt 0 (len * sz) && Nat.blt 0 z.cells.toList.length) with
      | false => rw [hb] at h; cases h
      | true =>
        rw [hb] at h
        simp only [cond_true] at h
        cases hf : fillL (fun i => some (i * sz, sz)) ((List.range (len * sz)).map fun j => z.cells.toList.getD (j % z.cells.toList.length) undef) (parts.map fun p => (p.1, ev n e p.2)) with
        | none => rw [hf] at h; cases h
        | some l =>
          rw [hf] at h
          simp only [Option.map_some, Option.some.injEq, Prod.mk.injEq] at h
          obtain ⟨rfl, rfl⟩ := h
          have h1 := run_underlying (sliceP hT) w
          have h2 := run_sizeP (w := w) hs
          have h3 := run_zeroP (w := w) hz
          have h4 := fill_eq _ _ _ hf
          simp only [Bool.and_eq_true] at hb
          have hle := Nat.le_of_ble_eq_true hb.1.1
          have hpos : 0 < len * sz := by simpa [Nat.blt_eq] using hb.1.2
          have hzp : 0 < z.cells.size := by simpa [Nat.blt_eq] using hb.2
          simp only [execOp, Instr.buildSlice, bind, pure, List.map_toArray]
          rw [Sem.run_bind', Sem.run_bind', h1]
          simp only [Result.andThen_ok]
          rw [Sem.run_bind', h2]
          have hn : ¬ len * sz > 2 ^ 24 := by omega
          have h0 : ¬ len * sz = 0 := by omega
          simp only [Result.andThen_ok, if_neg hn, if_neg h0, Sem.bind]
          rw [Sem.run_bind', h3]
          have h6 : ((Array.range (len * sz)).map (fun x => z.cells[x % z.cells.size]!)) = ((List.range (len * sz)).map fun j => z.cells.toList.getD (j % z.cells.toList.length) undef).toArray := by
            rw [← List.toArray_range, List.map_toArray]
            congr 1
            apply List.map_congr_left
            intro j hj
            have hj2 : j % z.cells.size < z.cells.size := Nat.mod_lt _ hzp
            simp [hj2]
          simp only [Result.andThen_ok, h6]
          rw [h4]
          rfl
    · cases h
  · cases h
/-- A store of a value of several cells. -/
theorem lst_storeN {vs cs cs' : List Value} {ct : TypeId} (hS : St M w0 H F w) (ha : ev n e x = .pointer (some ⟨b, o, none⟩)) (hy : ev n e y = .agg vs.toArray) (hs : cellsP P t = some vs.length) (h1 : vs.all (·.oneCell') = true)
    (hat : At H b (.cells cs.toArray ct)) (hp : PutN cs o vs cs') (hu : Upd H b (.cells cs.toArray ct) (.cells cs'.toArray ct) H')
    (h : ∀ w', St M w0 H' F w' → Lst P Q ops rest n e w') : Lst P Q ops (⟨none, .store t x y, ty, pos, after, none⟩ :: rest) n e w := by
  have hb := hS.at_ hu.at_
  obtain ⟨hq1, hq2⟩ := hp.eq
  have hst := run_storeCells_at (P := P) b o ct vs 0 cs.toArray w hb (by simpa using hq2) (fun v hv => List.all_eq_true.1 h1 v hv)
  have h2 := run_sizeP (w := w) hs
  simp only [Nat.add_zero] at hst
  rw [← hq1] at hst
  refine lst_skip0 (w' := w.setRow b cs'.toArray) ?_ (h _ (hS.turn hu ?_ (setRow_heap w b _ _ _ _ hb)))
  · simp only [execOp, ha, hy, Instr.storeAt, Instr.sureAddr, storeVar, bind, pure, Sem.bind]
    rw [Sem.run_bind', Sem.run_bind', h2]
    simp only [Result.andThen_ok, Value.cells, List.size_toArray, ne_eq, not_true_eq_false, if_false, Sem.bind]
    rw [hst]
    rfl
  · exact ⟨rfl, rfl, rfl, by simp [World.setRow], fun k _ hk => by
      have : k ≠ b := by simpa using hk
      simp [World.setRow, Array.getElem?_modify, Ne.symm this]⟩
end
end Go.Proofs.YtdiophafmokfiaaGreatDoor
