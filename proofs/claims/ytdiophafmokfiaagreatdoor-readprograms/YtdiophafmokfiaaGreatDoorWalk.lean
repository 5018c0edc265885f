/-
  A calculus for walking a function's body: the frame as a list of the slots last written, the way ahead as the machine's own list of what is left to do. No program is named here.
-/
import Derived.WalkKit
import Derived.ProofKit
import Derived.Below
import Derived.Lib.Hide
namespace Go.Proofs.YtdiophafmokfiaaGreatDoor
open Go.RowKit
set_option linter.unusedSimpArgs false
set_option linter.unusedVariables false

/-- The slots that were written, the last one first. -/
abbrev Env := List (Nat × Value)
def lk : Env → Nat → Value
  | [], _ => undef
  | (i, v) :: e, j => bif Nat.beq i j then v else lk e j
def arr (n : Nat) (e : Env) : Array Value := ((List.range n).map (lk e)).toArray
def act (n : Nat) (e : Env) : Act := ⟨arr n e, []⟩
def ev (n : Nat) (e : Env) : Operand → Value
  | .tmp t => bif Nat.blt t n then lk e t else undef
  | .const v => v
  | .global g => .pointer (some ⟨g, 0, none⟩)
  | .func f => .func (.func f) #[] #[]
theorem blt_no {t n : Nat} (h : ¬ t < n) : Nat.blt t n = false := by
  cases hb : Nat.blt t n with
  | false => rfl
  | true => exact absurd (by simpa [Nat.blt_eq] using hb) h
theorem arr_getD (n : Nat) (e : Env) (t : Nat) : (arr n e).getD t undef = bif Nat.blt t n then lk e t else undef := by
  by_cases h : t < n
  · have h' : Nat.blt t n = true := by simpa [Nat.blt_eq] using h
    simp [arr, h, h']
  · have h' : Nat.blt t n = false := blt_no h
    simp [arr, h, h']
theorem act_eval (n : Nat) (e : Env) : (act n e).eval = ev n e := by
  funext x
  cases x with
  | tmp t => exact arr_getD n e t
  | const v => rfl
  | global g => rfl
  | func f => rfl
theorem act_put {n : Nat} {e : Env} {d : Nat} {v : Value} (hd : Nat.blt d n = true) : (act n e).put (some d) v = act n ((d, v) :: e) := by
  have h' : d < n := by simpa [Nat.blt_eq] using hd
  show (⟨(arr n e).setIfInBounds d v, []⟩ : Act) = ⟨arr n ((d, v) :: e), []⟩
  unfold arr
  congr 1
  apply Array.ext
  · simp
  · intro i h1 h2
    simp only [List.setIfInBounds_toArray, List.size_toArray, List.length_set, List.length_map, List.length_range] at h1
    simp only [List.setIfInBounds_toArray, List.getElem_toArray, List.getElem_set, List.getElem_map, List.getElem_range, lk]
    by_cases hi : d = i
    · subst hi; simp
    · have : Nat.beq d i = false := by
        cases hb : Nat.beq d i with
        | false => rfl
        | true => exact absurd (Nat.eq_of_beq_eq_true hb) hi
      simp [hi, this]
/-- The frame at a call: its arguments. -/
def args0 : Nat → List Value → Env
  | _, [] => []
  | i, v :: r => (i, v) :: args0 (i + 1) r
theorem lk_args0 : ∀ (l : List Value) (i j : Nat), lk (args0 i l) (i + j) = l[j]?.getD undef
  | [], _, _ => by simp [args0, lk]
  | v :: r, i, 0 => by simp [args0, lk]
  | v :: r, i, j + 1 => by
    have h : Nat.beq i (i + (j + 1)) = false := by
      cases hb : Nat.beq i (i + (j + 1)) with
      | false => rfl
      | true => have := Nat.eq_of_beq_eq_true hb; omega
    simp only [args0, lk, h, cond_false]
    rw [show i + (j + 1) = (i + 1) + j by omega, lk_args0 r (i + 1) j]
    simp
theorem act_enter {n : Nat} {l : List Value} (hl : Nat.ble l.length n = true) : (⟨l.toArray ++ Array.replicate (n - l.toArray.size) undef, []⟩ : Act) = act n (args0 0 l) := by
  have hl : l.length ≤ n := Nat.le_of_ble_eq_true hl
  unfold act arr
  congr 1
  apply Array.ext
  · simp; omega
  · intro i h1 h2
    simp only [List.getElem_toArray, List.getElem_map, List.getElem_range]
    have := lk_args0 l 0 i
    rw [Nat.zero_add] at this
    rw [this]
    rw [Array.getElem_append]
    split
    · rename_i h; simp at h; simp [h]
    · rename_i h; simp at h; simp [h]

/-- From what is left to do, in this frame and world, the function comes to an end that R allows. -/
def Goes (P : Program) (f : FuncId) (R : Ending → World → Prop) (todo : List Item) (a : Act) (w : World) : Prop :=
  ∀ (b : Frame) (cs : List Frame), b.fn = f → b.kind = .normal → ∃ e w' fr, R e w' ∧ Comes P (lone (b.at a todo) cs w) (lone fr cs w') e ∧ fr.fn = f ∧ fr.leaving P w' e

section
variable {P : Program} {f : FuncId} {R : Ending → World → Prop} {k : List Item} {n : Nat} {e : Env} {w : World}

theorem Goes.step {todo todo' : List Item} {a a' : Act} {w w' : World} (hs : ∀ (b : Frame) (cs : List Frame), Steps P (lone (b.at a todo) cs w) (lone (b.at a' todo') cs w'))
    (h : Goes P f R todo' a' w') : Goes P f R todo a w := fun b cs hb hk => by
  obtain ⟨e, w2, fr, hR, hc, hrest⟩ := h b cs hb hk
  exact ⟨e, w2, fr, hR, hc.of_steps (hs b cs), hrest⟩
theorem Goes.mono {R' : Ending → World → Prop} {todo : List Item} {a : Act} (h : Goes P f R todo a w) (hr : ∀ e w, R e w → R' e w) : Goes P f R' todo a w := fun b cs hb hk => by
  obtain ⟨e, w2, fr, hR, hc⟩ := h b cs hb hk
  exact ⟨e, w2, fr, hr _ _ hR, hc⟩

/-- A call, by its body. -/
theorem goes_enter {fn : Func} {c : Code} {l : List Value} (hf : P.funcs[f]? = some fn) (hb : fn.body = some c) (hn : fn.ntmps = n) (hl : Nat.ble l.length n = true)
    (h : Goes P f R [.code c] (act n (args0 0 l)) w) : Calls P f l.toArray w R := by
  intro cs
  let b : Frame := { (default : Frame) with fn := f, kind := .normal }
  have henter : Frame.enter P f l.toArray .normal = b.at (act n (args0 0 l)) [.code c] := by
    rw [← act_enter hl, ← hn]
    simp [Frame.enter, Frame.at, hf, hb, b]
  obtain ⟨e, w', fr, hR, hc, hr1, hr2⟩ := h b cs rfl rfl
  rw [← henter] at hc
  exact ⟨e, w', fr, hR, hc, hr1, hr2⟩

theorem goes_enter0 {fn : Func} {c : Code} (hf : P.funcs[f]? = some fn) (hb : fn.body = some c) (hn : fn.ntmps = n) (hl : Nat.ble 0 n = true)
    (h : Goes P f R [.code c] (act n []) w) : Calls P f #[] w R := goes_enter (l := []) hf hb hn hl h
theorem goes_enter1 {fn : Func} {c : Code} {a0 : Value} (hf : P.funcs[f]? = some fn) (hb : fn.body = some c) (hn : fn.ntmps = n) (hl : Nat.ble 1 n = true)
    (h : Goes P f R [.code c] (act n [(0, a0)]) w) : Calls P f #[a0] w R := goes_enter (l := [a0]) hf hb hn hl h
theorem goes_enter2 {fn : Func} {c : Code} {a0 a1 : Value} (hf : P.funcs[f]? = some fn) (hb : fn.body = some c) (hn : fn.ntmps = n) (hl : Nat.ble 2 n = true)
    (h : Goes P f R [.code c] (act n [(0, a0), (1, a1)]) w) : Calls P f #[a0, a1] w R := goes_enter (l := [a0, a1]) hf hb hn hl h
theorem goes_enter3 {fn : Func} {c : Code} {a0 a1 a2 : Value} (hf : P.funcs[f]? = some fn) (hb : fn.body = some c) (hn : fn.ntmps = n) (hl : Nat.ble 3 n = true)
    (h : Goes P f R [.code c] (act n [(0, a0), (1, a1), (2, a2)]) w) : Calls P f #[a0, a1, a2] w R := goes_enter (l := [a0, a1, a2]) hf hb hn hl h
theorem goes_enter4 {fn : Func} {c : Code} {a0 a1 a2 a3 : Value} (hf : P.funcs[f]? = some fn) (hb : fn.body = some c) (hn : fn.ntmps = n) (hl : Nat.ble 4 n = true)
    (h : Goes P f R [.code c] (act n [(0, a0), (1, a1), (2, a2), (3, a3)]) w) : Calls P f #[a0, a1, a2, a3] w R := goes_enter (l := [a0, a1, a2, a3]) hf hb hn hl h
theorem goes_enter5 {fn : Func} {c : Code} {a0 a1 a2 a3 a4 : Value} (hf : P.funcs[f]? = some fn) (hb : fn.body = some c) (hn : fn.ntmps = n) (hl : Nat.ble 5 n = true)
    (h : Goes P f R [.code c] (act n [(0, a0), (1, a1), (2, a2), (3, a3), (4, a4)]) w) : Calls P f #[a0, a1, a2, a3, a4] w R := goes_enter (l := [a0, a1, a2, a3, a4]) hf hb hn hl h
theorem goes_seq {x y : Code} {a : Act} (h : Goes P f R (.code x :: .code y :: k) a w) : Goes P f R (.code (.seq x y) :: k) a w := h.step fun _ _ => .one step_seq
theorem goes_skip {a : Act} (h : Goes P f R k a w) : Goes P f R (.code .skip :: k) a w := h.step fun _ _ => .one step_skip
theorem goes_block {id : Nat} {c : Code} {a : Act} (h : Goes P f R (.code c :: .inBlock id :: k) a w) : Goes P f R (.code (.block id c) :: k) a w := h.step fun _ _ => .one step_block
theorem goes_inBlock {id : Nat} {a : Act} (h : Goes P f R k a w) : Goes P f R (.inBlock id :: k) a w := h.step fun _ _ => .one step_inBlock
theorem goes_exit {id : Nat} {k' : List Item} {a : Act} (hk : exitTo id k = some k') (h : Goes P f R k' a w) : Goes P f R (.code (.exit id) :: k) a w := h.step fun _ _ => .one (step_exit hk)
theorem goes_true {c : Operand} {x y : Code} (hc : ev n e c = .bool true) (h : Goes P f R (.code x :: k) (act n e) w) : Goes P f R (.code (.cond c x y) :: k) (act n e) w :=
  h.step fun _ _ => .one (step_cond (t := true) (by rw [act_eval]; exact hc))
theorem goes_false {c : Operand} {x y : Code} (hc : ev n e c = .bool false) (h : Goes P f R (.code y :: k) (act n e) w) : Goes P f R (.code (.cond c x y) :: k) (act n e) w :=
  h.step fun _ _ => .one (step_cond (t := false) (by rw [act_eval]; exact hc))
theorem goes_if {c : Operand} {x y : Code} {b : Bool} (hc : ev n e c = .bool b) (ht : b = true → Goes P f R (.code x :: k) (act n e) w) (hf : b = false → Goes P f R (.code y :: k) (act n e) w) :
    Goes P f R (.code (.cond c x y) :: k) (act n e) w := by
  cases b with
  | true => exact goes_true hc (ht rfl)
  | false => exact goes_false hc (hf rfl)
/-- A loop, by induction over a measure: behind the round, what is known of every smaller one serves. -/
theorem goes_loop {c : Code} {α : Type} (I : α → Act → World → Prop) (μ : α → Nat) {x : α} {a : Act} (h0 : I x a w)
    (round : ∀ x a w, I x a w → (∀ y a' w', μ y < μ x → I y a' w' → Goes P f R (.inLoop c :: k) a' w') → Goes P f R (.code c :: .inLoop c :: k) a w) : Goes P f R (.code (.loop c) :: k) a w := by
  have key : ∀ m x a w, μ x = m → I x a w → Goes P f R (.code c :: .inLoop c :: k) a w := by
    intro m
    induction m using Nat.strongRecOn with
    | _ m ih =>
      intro x a w hm hI
      refine round x a w hI fun y a' w' hy hI' => ?_
      exact (ih (μ y) (by omega) y a' w' rfl hI').step fun _ _ => .one step_inLoop
  exact (key _ x a w rfl h0).step fun _ _ => .one step_loop
theorem goes_ret {fn : Func} {v : Value} (hf : P.funcs[f]? = some fn) (hr : ∀ w, (results fn (arr n e)).run P w = .ok v w) (hR : R (.returned v) w) : Goes P f R (.code .ret :: k) (act n e) w := by
  intro b cs hb hk
  refine ⟨.returned v, w, { b.at (act n e) (.code .ret :: k) with mode := .returning }, hR, Steps.one step_ret, hb, rfl, rfl, hk, fn, ?_, hr w⟩
  show P.funcs[b.fn]? = some fn
  rw [hb]; exact hf
theorem goes_end {fn : Func} {v : Value} (hf : P.funcs[f]? = some fn) (hr : ∀ w, (results fn (arr n e)).run P w = .ok v w) (hR : R (.returned v) w) : Goes P f R [] (act n e) w := by
  intro b cs hb hk
  refine ⟨.returned v, w, { b.at (act n e) [] with mode := .returning }, hR, Steps.one step_end, hb, rfl, rfl, hk, fn, ?_, hr w⟩
  show P.funcs[b.fn]? = some fn
  rw [hb]; exact hf

theorem goes_ret0 {fn : Func} (hf : P.funcs[f]? = some fn) (hr : fn.results = #[]) (hR : R (.returned (.tuple #[])) w) : Goes P f R (.code .ret :: k) (act n e) w :=
  goes_ret hf (fun _ => results_none hr _ _ _) hR
theorem goes_end0 {fn : Func} (hf : P.funcs[f]? = some fn) (hr : fn.results = #[]) (hR : R (.returned (.tuple #[])) w) : Goes P f R [] (act n e) w :=
  goes_end hf (fun _ => results_none hr _ _ _) hR
theorem goes_ret1 {fn : Func} {t : Nat} {v : Value} (hf : P.funcs[f]? = some fn) (hr : fn.results = #[.tmp t]) (hv : ev n e (.tmp t) = v) (hR : R (.returned v) w) : Goes P f R (.code .ret :: k) (act n e) w :=
  goes_ret hf (fun w => by rw [results_tmp hr, arr_getD, ← hv]; rfl) hR
theorem goes_ret2 {fn : Func} {t u : Nat} {v v2 : Value} (hf : P.funcs[f]? = some fn) (hr : fn.results = #[.tmp t, .tmp u]) (hv : ev n e (.tmp t) = v) (hv2 : ev n e (.tmp u) = v2) (hR : R (.returned (.tuple #[v, v2])) w) : Goes P f R (.code .ret :: k) (act n e) w :=
  goes_ret hf (fun w => by rw [results_tmp2 hr, arr_getD, arr_getD, ← hv, ← hv2]; rfl) hR
theorem goes_ret3 {fn : Func} {t u x : Nat} {v v2 v3 : Value} (hf : P.funcs[f]? = some fn) (hr : fn.results = #[.tmp t, .tmp u, .tmp x]) (hv : ev n e (.tmp t) = v) (hv2 : ev n e (.tmp u) = v2) (hv3 : ev n e (.tmp x) = v3) (hR : R (.returned (.tuple #[v, v2, v3])) w) : Goes P f R (.code .ret :: k) (act n e) w :=
  goes_ret hf (fun w => by
    rw [← hv, ← hv2, ← hv3]
    simp only [results, hr]
    have h := arr_getD n e
    simp only [Array.getD_eq_getD_getElem?] at h
    simp [ev, h]) hR

/-- What a region owes to what follows. -/
def qk (P : Program) (f : FuncId) (R : Ending → World → Prop) (k : List Item) : Exit → Act → World → Prop
  | .normal, a, w => Goes P f R k a w
  | _, _, _ => False
theorem goes_of_wp {c : Code} {a : Act} (h : c.wp P (qk P f R k) a w) : Goes P f R (.code c :: k) a w := by
  intro b cs hb hk
  obtain ⟨e, a', w', hq, harr⟩ := h b k cs
  cases e with
  | normal =>
    obtain ⟨e2, w2, fr, hR, hc, hrest⟩ := hq b cs hb hk
    exact ⟨e2, w2, fr, hR, hc.of_steps harr, hrest⟩
  | exit id => exact hq.elim
  | goto l => exact hq.elim
  | ret => exact hq.elim
  | panic ch => exact hq.elim
  | outgrown => exact hq.elim
/-- The operations that are left of a region. -/
def Lst (P : Program) (Q : Exit → Act → World → Prop) (ops : Array Oper) (l : List Oper) (n : Nat) (e : Env) (w : World) : Prop := wpList P ops Q l (act n e) w
theorem goes_region {id : Nat} {l : List Oper} (h : Lst P (qk P f R k) l.toArray l n e w) : Goes P f R (.code (.region id l.toArray false) :: k) (act n e) w := goes_of_wp (wp_region_lit h)
theorem lst_done {ops : Array Oper} (h : Goes P f R k (act n e) w) : Lst P (qk P f R k) ops [] n e w := h
end

section
variable {P : Program} {n : Nat} {e : Env} {w : World} {Q : Exit → Act → World → Prop}
variable {ops : Array Oper} {rest : List Oper} {ty : TypeId} {pos : String} {after : Array Edge} {d : Nat}

theorem lst_nil (h : Q .normal (act n e) w) : Lst P Q ops [] n e w := h
/-- An operation that yields a value. -/
theorem lst_run {op : Op} {v : Value} {w' : World} (hr : (execOp (ev n e) ⟨some d, op, ty, pos, after, none⟩).run P w = .ok (.value v) w') (hd : Nat.blt d n = true)
    (h : Lst P Q ops rest n ((d, v) :: e) w') : Lst P Q ops (⟨some d, op, ty, pos, after, none⟩ :: rest) n e w := by
  refine wpList_plain rfl fun K hK => ?_
  unfold Oper.wp
  rw [act_eval, hr]
  show K _ _
  rw [act_put hd]
  exact hK _ _ h
theorem lst_run0 {op : Op} {v : Value} {w' : World} (hr : (execOp (ev n e) ⟨none, op, ty, pos, after, none⟩).run P w = .ok (.value v) w')
    (h : Lst P Q ops rest n e w') : Lst P Q ops (⟨none, op, ty, pos, after, none⟩ :: rest) n e w := by
  refine wpList_plain rfl fun K hK => ?_
  unfold Oper.wp
  rw [act_eval, hr]
  exact hK _ _ h
theorem lst_skip0 {op : Op} {w' : World} (hr : (execOp (ev n e) ⟨none, op, ty, pos, after, none⟩).run P w = .ok .skip w')
    (h : Lst P Q ops rest n e w') : Lst P Q ops (⟨none, op, ty, pos, after, none⟩ :: rest) n e w := by
  refine wpList_plain rfl fun K hK => ?_
  unfold Oper.wp
  rw [act_eval, hr]
  exact hK _ _ h
/-- What a guard hangs on. -/
def yd (ops : Array Oper) (n : Nat) (e : Env) (j : Nat) : Option Value := (ops[j]?).bind fun o => o.dst.bind fun t => bif Nat.blt t n then some (lk e t) else none
theorem yielded_env {j : Nat} {b : Bool} (h : yd ops n e j = some (.bool b)) : yielded ops (arr n e) j = some b := by
  unfold yd at h
  unfold yielded
  cases ho : ops[j]? with
  | none => rw [ho] at h; cases h
  | some o =>
    rw [ho] at h
    simp only [Option.bind_some] at h ⊢
    cases hd : o.dst with
    | none => rw [hd] at h; cases h
    | some t =>
      rw [hd] at h
      simp only [Option.bind_some] at h ⊢
      by_cases ht : t < n
      · have h' : Nat.blt t n = true := by simpa [Nat.blt_eq] using ht
        rw [h', cond_true] at h
        have hl : (arr n e)[t]? = some (lk e t) := by simp [arr, ht]
        rw [hl, Option.some.inj h]
      · have h' : Nat.blt t n = false := blt_no ht
        rw [h', cond_false] at h; cases h
theorem wanted_yes {op : Op} {dst : Option Nat} {j : Nat} {g b : Bool} (hy : yd ops n e j = some (.bool b)) (hb : b = g) : Region.wanted ⟨dst, op, ty, pos, after, some (j, g)⟩ (yielded ops (act n e).tmps) = true := by
  subst hb
  simp [Region.wanted, act, yielded_env hy]
theorem wanted_no {op : Op} {dst : Option Nat} {j : Nat} {g b : Bool} (hy : yd ops n e j = some (.bool b)) (hb : (!b) = g) : Region.wanted ⟨dst, op, ty, pos, after, some (j, g)⟩ (yielded ops (act n e).tmps) = false := by
  subst hb
  simp [Region.wanted, act, yielded_env hy]
theorem lst_guard {op : Op} {dst : Option Nat} {j : Nat} {g b : Bool} (hy : yd ops n e j = some (.bool b)) (hb : b = g)
    (h : Lst P Q ops (⟨dst, op, ty, pos, after, none⟩ :: rest) n e w) : Lst P Q ops (⟨dst, op, ty, pos, after, some (j, g)⟩ :: rest) n e w := by
  unfold Lst at h ⊢
  unfold wpList at h ⊢
  rw [if_pos (by simp [Region.wanted])] at h
  rw [if_pos (wanted_yes hy hb)]
  exact h
theorem lst_pass {op : Op} {j : Nat} {g b : Bool} (hy : yd ops n e j = some (.bool b)) (hb : (!b) = g) (hd : Nat.blt d n = true)
    (h : Lst P Q ops rest n ((d, undef) :: e) w) : Lst P Q ops (⟨some d, op, ty, pos, after, some (j, g)⟩ :: rest) n e w := by
  unfold Lst at h ⊢
  unfold wpList
  rw [if_neg (by rw [wanted_no hy hb]; decide), act_put hd]
  exact h
theorem lst_pass0 {op : Op} {j : Nat} {g b : Bool} (hy : yd ops n e j = some (.bool b)) (hb : (!b) = g)
    (h : Lst P Q ops rest n e w) : Lst P Q ops (⟨none, op, ty, pos, after, some (j, g)⟩ :: rest) n e w := by
  unfold Lst at h ⊢
  unfold wpList
  rw [if_neg (by rw [wanted_no hy hb]; decide)]
  exact h

/-- A call of a function of the program. -/
def callable (P : Program) (g : FuncId) : Bool := match P.funcs[g]? with | some fn => fn.name != "runtime.NumGoroutine" && fn.body.isSome | none => false
theorem run_callFunc {g : FuncId} {args : Array Value} (h : callable P g = true) : (callFunc g args).run P w = .ok (.enter g args) w := by
  unfold callable at h
  cases hf : P.funcs[g]? with
  | none => rw [hf] at h; cases h
  | some fn =>
    rw [hf] at h
    simp only [Bool.and_eq_true, bne_iff_ne, ne_eq] at h
    obtain ⟨h1, h2⟩ := h
    cases hb : fn.body with
    | none => rw [hb] at h2; cases h2
    | some c => simp [callFunc, hf, h1, hb, Go.program, Sem.run, bind, Sem.bind, pure]
theorem lst_enter {op : Op} {g : FuncId} {args : Array Value} {w' : World} (hr : (execOp (ev n e) ⟨some d, op, ty, pos, after, none⟩).run P w = .ok (.enter g args) w') (hd : Nat.blt d n = true)
    (h : Calls P g args w' fun x w' => ∃ v, x = .returned v ∧ Lst P Q ops rest n ((d, v) :: e) w') : Lst P Q ops (⟨some d, op, ty, pos, after, none⟩ :: rest) n e w := by
  refine wpList_plain rfl fun K hK => ?_
  unfold Oper.wp
  rw [act_eval, hr]
  refine h.mono fun x w' hx => ?_
  obtain ⟨v, rfl, hx⟩ := hx
  show K _ _
  rw [act_put hd]
  exact hK _ _ hx
theorem lst_enter0 {op : Op} {g : FuncId} {args : Array Value} {w' : World} (hr : (execOp (ev n e) ⟨none, op, ty, pos, after, none⟩).run P w = .ok (.enter g args) w')
    (h : Calls P g args w' fun x w' => ∃ v, x = .returned v ∧ Lst P Q ops rest n e w') : Lst P Q ops (⟨none, op, ty, pos, after, none⟩ :: rest) n e w := by
  refine wpList_plain rfl fun K hK => ?_
  unfold Oper.wp
  rw [act_eval, hr]
  refine h.mono fun x w' hx => ?_
  obtain ⟨v, rfl, hx⟩ := hx
  exact hK _ _ hx
theorem run_call {g : FuncId} {as : Array Operand} {ts : Array TypeId} {args : Array Value} {dst : Option Nat} (hg : callable P g = true) (ha : as.map (ev n e) = args) :
    (execOp (ev n e) ⟨dst, .call ⟨.value (.func g), as, ts⟩, ty, pos, after, none⟩).run P w = .ok (.enter g args) w := by
  have := run_callFunc (w := w) (args := args) hg
  rw [← ha] at this ⊢
  simpa [execOp, resolve, ev, Deferred.ofValue, invoke, bind, Sem.bind, pure, Sem.run] using this
/-- A call of a function value. -/
theorem run_callv {x : Operand} {g : FuncId} {cap : Array Value} {as : Array Operand} {ts : Array TypeId} {args : Array Value} {dst : Option Nat} (hx : ev n e x = .func (.func g) #[] cap) (hg : callable P g = true) (ha : as.map (ev n e) = args) :
    (execOp (ev n e) ⟨dst, .call ⟨.value x, as, ts⟩, ty, pos, after, none⟩).run P w = .ok (.enter g (args ++ cap)) w := by
  have := run_callFunc (w := w) (args := args ++ cap) hg
  rw [← ha] at this ⊢
  simpa [execOp, resolve, hx, Deferred.ofValue, invoke, bind, Sem.bind, pure, Sem.run] using this
theorem args_nil : (#[] : Array Operand).map (ev n e) = #[] := by simp
theorem args_1 {a : Operand} {x : Value} (h : ev n e a = x) : #[a].map (ev n e) = #[x] := by simp [h]
theorem args_2 {a b : Operand} {x y : Value} (h : ev n e a = x) (h2 : ev n e b = y) : #[a, b].map (ev n e) = #[x, y] := by simp [h, h2]
theorem args_3 {a b c : Operand} {x y z : Value} (h : ev n e a = x) (h2 : ev n e b = y) (h3 : ev n e c = z) : #[a, b, c].map (ev n e) = #[x, y, z] := by simp [h, h2, h3]
theorem args_4 {a b c o : Operand} {x y z u : Value} (h : ev n e a = x) (h2 : ev n e b = y) (h3 : ev n e c = z) (h4 : ev n e o = u) : #[a, b, c, o].map (ev n e) = #[x, y, z, u] := by simp [h, h2, h3, h4]

theorem run_move {x : Operand} {v : Value} {dst : Option Nat} (h : ev n e x = v) : (execOp (ev n e) ⟨dst, .move x, ty, pos, after, none⟩).run P w = .ok (.value v) w := by subst h; rfl
theorem run_assign {x : Operand} {v : Value} {dst : Option Nat} (h : ev n e x = v) : (execOp (ev n e) ⟨dst, .assign x, ty, pos, after, none⟩).run P w = .ok (.value v) w := by subst h; rfl
theorem run_pick_t {c x y : Operand} {v : Value} {dst : Option Nat} (hc : ev n e c = .bool true) (h : ev n e x = v) : (execOp (ev n e) ⟨dst, .pick c x y, ty, pos, after, none⟩).run P w = .ok (.value v) w := by
  subst h; simp [execOp, hc, asBool, bind, Sem.bind, pure]
theorem run_pick_f {c x y : Operand} {v : Value} {dst : Option Nat} (hc : ev n e c = .bool false) (h : ev n e y = v) : (execOp (ev n e) ⟨dst, .pick c x y, ty, pos, after, none⟩).run P w = .ok (.value v) w := by
  subst h; simp [execOp, hc, asBool, bind, Sem.bind, pure]
theorem run_extract {x : Operand} {vs : List Value} {i : Nat} {v : Value} {dst : Option Nat} (hx : ev n e x = .tuple vs.toArray) (hv : vs[i]? = some v) : (execOp (ev n e) ⟨dst, .extract x i, ty, pos, after, none⟩).run P w = .ok (.value v) w := by
  simp [execOp, hx, Instr.extract, hv, bind, Sem.bind, pure]
end
attribute [irreducible] Lst Goes
end Go.Proofs.YtdiophafmokfiaaGreatDoor
