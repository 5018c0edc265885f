/- Steps of the proof. -/
import Derived.Test.YthliapbflkfdiacGreatDoorZ0
import Derived.WalkKit
import Derived.ProofKit
import Derived.Lib.Hide
import Derived.OrdersHeld
import Derived.StillTail
namespace Go.Proofs.YthliapbflkfdiacGreatDoor
open Go.RowKit
set_option linter.unusedSimpArgs false
set_option linter.unusedVariables false
abbrev Env := List (Nat × Value)
def lk : Env → Nat → Value
 | [], _ => undef
 | (i, v) :: e, j => bif Nat.beq i j then v else lk e j
def arr (n : Nat) (e : Env) : Array Value := ((List.range n).map (lk e)).toArray
def act (n : Nat) (e : Env) : Act := ⟨arr n e, []⟩
def ev (n : Nat) (e : Env) : Operand → Value
 | .tmp t => bif Nat.blt t n then lk e t else undef
 | .const v => v
 | .global g => .pointer (some ⟨g, 0, none⟩)
 | .func f => .func (.func f) #[] #[]
theorem Qrk {t n : Nat} (h : ¬ t < n) : Nat.blt t n = false := by
 cases hb : Nat.blt t n with
 | false => rfl
 | true => exact absurd (by simpa [Nat.blt_eq] using hb) h
theorem QaA (n : Nat) (e : Env) (t : Nat) : (arr n e).getD t undef = bif Nat.blt t n then lk e t else undef := by
 by_cases h : t < n
 ·have h' : Nat.blt t n = true := by simpa [Nat.blt_eq] using h
  simp [arr, h, h']
 ·have h' : Nat.blt t n = false := Qrk h
  simp [arr, h, h']
theorem Qcx (n : Nat) (e : Env) : (act n e).eval = ev n e := by
 funext x
 cases x with
 | tmp t => exact QaA n e t
 | const v => rfl
 | global g => rfl
 | func f => rfl
theorem Qd4 {n : Nat} {e : Env} {d : Nat} {v : Value} (hd : Nat.blt d n = true) : (act n e).put (some d) v = act n ((d, v) :: e) := by
 have h' : d < n := by simpa [Nat.blt_eq] using hd
 show (⟨(arr n e).setIfInBounds d v, []⟩ : Act) = ⟨arr n ((d, v) :: e), []⟩
 unfold arr
 congr 1
 apply Array.ext
 ·simp
 ·intro i h1 h2
  simp only [List.setIfInBounds_toArray, List.size_toArray, List.length_set, List.length_map, List.length_range] at h1
  simp only [List.setIfInBounds_toArray, List.getElem_toArray, List.getElem_set, List.getElem_map, List.getElem_range, lk]
  by_cases hi : d = i
  ·subst hi; simp
  ·have : Nat.beq d i = false := by
    cases hb : Nat.beq d i with
    | false => rfl
    | true => exact absurd (Nat.eq_of_beq_eq_true hb) hi
   simp [hi, this]
def QlW : Nat → List Value → Env
 | _, [] => []
 | i, v :: r => (i, v) :: QlW (i + 1) r
theorem QnM : ∀ (l : List Value) (i j : Nat), lk (QlW i l) (i + j) = l[j]?.getD undef
 | [], _, _ => by simp [QlW, lk]
 | v :: r, i, 0 => by simp [QlW, lk]
 | v :: r, i, j + 1 => by
  have h : Nat.beq i (i + (j + 1)) = false := by
   cases hb : Nat.beq i (i + (j + 1)) with
   | false => rfl
   | true => have := Nat.eq_of_beq_eq_true hb; omega
  simp only [QlW, lk, h, cond_false]
  rw [show i + (j + 1) = (i + 1) + j by omega, QnM r (i + 1) j]
  simp
theorem QrI {n : Nat} {l : List Value} (hl : Nat.ble l.length n = true) : (⟨l.toArray ++ Array.replicate (n - l.toArray.size) undef, []⟩ : Act) = act n (QlW 0 l) := by
 have hl : l.length ≤ n := Nat.le_of_ble_eq_true hl
 unfold act arr
 congr 1
 apply Array.ext
 ·simp; omega
 ·intro i h1 h2
  simp only [List.getElem_toArray, List.getElem_map, List.getElem_range]
  have := QnM l 0 i
  rw [Nat.zero_add] at this
  rw [this]
  rw [Array.getElem_append]
  split
  ·rename_i h; simp at h; simp [h]
  ·rename_i h; simp at h; simp [h]
def Qau (P : Program) (f : FuncId) (R : Ending → World → Prop) (todo : List Item) (a : Act) (w : World) : Prop :=
 ∀ (b : Frame) (cs : List Frame), b.fn = f → b.kind = .normal → ∃ e w' fr, R e w' ∧ Comes P (lone (b.at a todo) cs w) (lone fr cs w') e ∧ fr.fn = f ∧ fr.leaving P w' e
section
variable {P : Program} {f : FuncId} {R : Ending → World → Prop} {k : List Item} {n : Nat} {e : Env} {w : World}
theorem Qau.step {todo todo' : List Item} {a a' : Act} {w w' : World} (hs : ∀ (b : Frame) (cs : List Frame), Steps P (lone (b.at a todo) cs w) (lone (b.at a' todo') cs w'))
  (h : Qau P f R todo' a' w') : Qau P f R todo a w := fun b cs hb hk => by
 obtain ⟨e, w2, fr, hR, hc, hrest⟩ := h b cs hb hk
 exact ⟨e, w2, fr, hR, hc.of_steps (hs b cs), hrest⟩
theorem Qcg {fn : Func} {c : Code} {l : List Value} (hf : P.funcs[f]? = some fn) (hb : fn.body = some c) (hn : fn.ntmps = n) (hl : Nat.ble l.length n = true)
  (h : Qau P f R [.code c] (act n (QlW 0 l)) w) : Calls P f l.toArray w R := by
 intro cs
 let b : Frame := { (default : Frame) with fn := f, kind := .normal }
 have henter : Frame.enter P f l.toArray .normal = b.at (act n (QlW 0 l)) [.code c] := by
  rw [← QrI hl, ← hn]
  simp [Frame.enter, Frame.at, hf, hb, b]
 obtain ⟨e, w', fr, hR, hc, hr1, hr2⟩ := h b cs rfl rfl
 rw [← henter] at hc
 exact ⟨e, w', fr, hR, hc, hr1, hr2⟩
theorem QmR {fn : Func} {c : Code} (hf : P.funcs[f]? = some fn) (hb : fn.body = some c) (hn : fn.ntmps = n) (hl : Nat.ble 0 n = true)
  (h : Qau P f R [.code c] (act n []) w) : Calls P f #[] w R := Qcg (l := []) hf hb hn hl h
theorem Qh {fn : Func} {c : Code} {a0 : Value} (hf : P.funcs[f]? = some fn) (hb : fn.body = some c) (hn : fn.ntmps = n) (hl : Nat.ble 1 n = true)
  (h : Qau P f R [.code c] (act n [(0, a0)]) w) : Calls P f #[a0] w R := Qcg (l := [a0]) hf hb hn hl h
theorem Qg {fn : Func} {c : Code} {a0 a1 : Value} (hf : P.funcs[f]? = some fn) (hb : fn.body = some c) (hn : fn.ntmps = n) (hl : Nat.ble 2 n = true)
  (h : Qau P f R [.code c] (act n [(0, a0), (1, a1)]) w) : Calls P f #[a0, a1] w R := Qcg (l := [a0, a1]) hf hb hn hl h
theorem Q2 {fn : Func} {c : Code} {a0 a1 a2 : Value} (hf : P.funcs[f]? = some fn) (hb : fn.body = some c) (hn : fn.ntmps = n) (hl : Nat.ble 3 n = true)
  (h : Qau P f R [.code c] (act n [(0, a0), (1, a1), (2, a2)]) w) : Calls P f #[a0, a1, a2] w R := Qcg (l := [a0, a1, a2]) hf hb hn hl h
theorem Qde {fn : Func} {c : Code} {a0 a1 a2 a3 : Value} (hf : P.funcs[f]? = some fn) (hb : fn.body = some c) (hn : fn.ntmps = n) (hl : Nat.ble 4 n = true)
  (h : Qau P f R [.code c] (act n [(0, a0), (1, a1), (2, a2), (3, a3)]) w) : Calls P f #[a0, a1, a2, a3] w R := Qcg (l := [a0, a1, a2, a3]) hf hb hn hl h
theorem QeS {fn : Func} {c : Code} {a0 a1 a2 a3 a4 : Value} (hf : P.funcs[f]? = some fn) (hb : fn.body = some c) (hn : fn.ntmps = n) (hl : Nat.ble 5 n = true)
  (h : Qau P f R [.code c] (act n [(0, a0), (1, a1), (2, a2), (3, a3), (4, a4)]) w) : Calls P f #[a0, a1, a2, a3, a4] w R := Qcg (l := [a0, a1, a2, a3, a4]) hf hb hn hl h
theorem QsO {x y : Code} {a : Act} (h : Qau P f R (.code x :: .code y :: k) a w) : Qau P f R (.code (.seq x y) :: k) a w := h.step fun _ _ => .one step_seq
theorem Qq0 {a : Act} (h : Qau P f R k a w) : Qau P f R (.code .skip :: k) a w := h.step fun _ _ => .one step_skip
theorem Qo3 {id : Nat} {c : Code} {a : Act} (h : Qau P f R (.code c :: .inBlock id :: k) a w) : Qau P f R (.code (.block id c) :: k) a w := h.step fun _ _ => .one step_block
theorem QlH {id : Nat} {a : Act} (h : Qau P f R k a w) : Qau P f R (.inBlock id :: k) a w := h.step fun _ _ => .one step_inBlock
theorem Qq1 {id : Nat} {k' : List Item} {a : Act} (hk : exitTo id k = some k') (h : Qau P f R k' a w) : Qau P f R (.code (.exit id) :: k) a w := h.step fun _ _ => .one (step_exit hk)
theorem QlE {c : Operand} {x y : Code} (hc : ev n e c = .bool true) (h : Qau P f R (.code x :: k) (act n e) w) : Qau P f R (.code (.cond c x y) :: k) (act n e) w :=
 h.step fun _ _ => .one (step_cond (t := true) (by rw [Qcx]; exact hc))
theorem Qjo {c : Operand} {x y : Code} (hc : ev n e c = .bool false) (h : Qau P f R (.code y :: k) (act n e) w) : Qau P f R (.code (.cond c x y) :: k) (act n e) w :=
 h.step fun _ _ => .one (step_cond (t := false) (by rw [Qcx]; exact hc))
theorem Qcn {c : Operand} {x y : Code} {b : Bool} (hc : ev n e c = .bool b) (ht : b = true → Qau P f R (.code x :: k) (act n e) w) (hf : b = false → Qau P f R (.code y :: k) (act n e) w) :
  Qau P f R (.code (.cond c x y) :: k) (act n e) w := by
 cases b with
 | true => exact QlE hc (ht rfl)
 | false => exact Qjo hc (hf rfl)
theorem Qfu {c : Code} {α : Type} (I : α → Act → World → Prop) (μ : α → Nat) {x : α} {a : Act} (h0 : I x a w)
  (round : ∀ x a w, I x a w → (∀ y a' w', μ y < μ x → I y a' w' → Qau P f R (.inLoop c :: k) a' w') → Qau P f R (.code c :: .inLoop c :: k) a w) : Qau P f R (.code (.loop c) :: k) a w := by
 have key : ∀ m x a w, μ x = m → I x a w → Qau P f R (.code c :: .inLoop c :: k) a w := by
  intro m
  induction m using Nat.strongRecOn with
  | _ m ih =>
   intro x a w hm hI
   refine round x a w hI fun y a' w' hy hI' => ?_
   exact (ih (μ y) Ya y a' w' rfl hI').step fun _ _ => .one step_inLoop
 exact (key _ x a w rfl h0).step fun _ _ => .one step_loop
theorem QgW {fn : Func} {v : Value} (hf : P.funcs[f]? = some fn) (hr : ∀ w, (results fn (arr n e)).run P w = .ok v w) (hR : R (.returned v) w) : Qau P f R (.code .ret :: k) (act n e) w := by
 intro b cs hb hk
 refine ⟨.returned v, w, { b.at (act n e) (.code .ret :: k) with mode := .returning }, hR, Steps.one step_ret, hb, rfl, rfl, hk, fn, ?_, hr w⟩
 show P.funcs[b.fn]? = some fn
 rw [hb]; exact hf
theorem QsQ {fn : Func} {v : Value} (hf : P.funcs[f]? = some fn) (hr : ∀ w, (results fn (arr n e)).run P w = .ok v w) (hR : R (.returned v) w) : Qau P f R [] (act n e) w := by
 intro b cs hb hk
 refine ⟨.returned v, w, { b.at (act n e) [] with mode := .returning }, hR, Steps.one step_end, hb, rfl, rfl, hk, fn, ?_, hr w⟩
 show P.funcs[b.fn]? = some fn
 rw [hb]; exact hf
theorem QlF {fn : Func} (hf : P.funcs[f]? = some fn) (hr : fn.results = #[]) (hR : R (.returned (.tuple #[])) w) : Qau P f R (.code .ret :: k) (act n e) w :=
 QgW hf (fun _ => results_none hr _ _ _) hR
theorem QD {fn : Func} (hf : P.funcs[f]? = some fn) (hr : fn.results = #[]) (hR : R (.returned (.tuple #[])) w) : Qau P f R [] (act n e) w :=
 QsQ hf (fun _ => results_none hr _ _ _) hR
theorem Qc {fn : Func} {t : Nat} {v : Value} (hf : P.funcs[f]? = some fn) (hr : fn.results = #[.tmp t]) (hv : ev n e (.tmp t) = v) (hR : R (.returned v) w) : Qau P f R (.code .ret :: k) (act n e) w :=
 QgW hf (fun w => by rw [results_tmp hr, QaA, ← hv]; rfl) hR
theorem Qa3 {fn : Func} {t u : Nat} {v v2 : Value} (hf : P.funcs[f]? = some fn) (hr : fn.results = #[.tmp t, .tmp u]) (hv : ev n e (.tmp t) = v) (hv2 : ev n e (.tmp u) = v2) (hR : R (.returned (.tuple #[v, v2])) w) : Qau P f R (.code .ret :: k) (act n e) w :=
 QgW hf (fun w => by rw [results_tmp2 hr, QaA, QaA, ← hv, ← hv2]; rfl) hR
theorem Qh0 {fn : Func} {t u x : Nat} {v v2 v3 : Value} (hf : P.funcs[f]? = some fn) (hr : fn.results = #[.tmp t, .tmp u, .tmp x]) (hv : ev n e (.tmp t) = v) (hv2 : ev n e (.tmp u) = v2) (hv3 : ev n e (.tmp x) = v3) (hR : R (.returned (.tuple #[v, v2, v3])) w) : Qau P f R (.code .ret :: k) (act n e) w :=
 QgW hf (fun w => by
  rw [← hv, ← hv2, ← hv3]
  simp only [results, hr]
  have h := QaA n e
  simp only [Array.getD_eq_getD_getElem?] at h
  simp [ev, h]) hR
def qk (P : Program) (f : FuncId) (R : Ending → World → Prop) (k : List Item) : Exit → Act → World → Prop
 | .normal, a, w => Qau P f R k a w
 | _, _, _ => False
theorem Qf9 {c : Code} {a : Act} (h : c.wp P (qk P f R k) a w) : Qau P f R (.code c :: k) a w := by
 intro b cs hb hk
 obtain ⟨e, a', w', hq, harr⟩ := h b k cs
 cases e with
 | normal =>
  obtain ⟨e2, w2, fr, hR, hc, hrest⟩ := hq b cs hb hk
  exact ⟨e2, w2, fr, hR, hc.of_steps harr, hrest⟩
 | exit id => exact hq.elim
 | goto l => exact hq.elim
 | ret => exact hq.elim
 | panic ch => exact hq.elim
 | outgrown => exact hq.elim
def Lst (P : Program) (Q : Exit → Act → World → Prop) (ops : Array Oper) (l : List Oper) (n : Nat) (e : Env) (w : World) : Prop := wpList P ops Q l (act n e) w
theorem QmP {id : Nat} {l : List Oper} (h : Lst P (qk P f R k) l.toArray l n e w) : Qau P f R (.code (.region id l.toArray false) :: k) (act n e) w := Qf9 (wp_region_lit h)
theorem Qsz {ops : Array Oper} (h : Qau P f R k (act n e) w) : Lst P (qk P f R k) ops [] n e w := h
end
section
variable {P : Program} {n : Nat} {e : Env} {w : World} {Q : Exit → Act → World → Prop}
variable {ops : Array Oper} {rest : List Oper} {ty : TypeId} {pos : String} {after : Array Edge} {d : Nat}
theorem Qa {op : Op} {v : Value} {w' : World} (hr : (execOp (ev n e) ⟨some d, op, ty, pos, after, none⟩).run P w = .ok (.value v) w') (hd : Nat.blt d n = true)
  (h : Lst P Q ops rest n ((d, v) :: e) w') : Lst P Q ops (⟨some d, op, ty, pos, after, none⟩ :: rest) n e w := by
 refine wpList_plain rfl fun K hK => ?_
 unfold Oper.wp
 rw [Qcx, hr]
 show K _ _
 rw [Qd4 hd]
 exact hK _ _ h
theorem Qln {op : Op} {w' : World} (hr : (execOp (ev n e) ⟨none, op, ty, pos, after, none⟩).run P w = .ok .skip w')
  (h : Lst P Q ops rest n e w') : Lst P Q ops (⟨none, op, ty, pos, after, none⟩ :: rest) n e w := by
 refine wpList_plain rfl fun K hK => ?_
 unfold Oper.wp
 rw [Qcx, hr]
 exact hK _ _ h
def yd (ops : Array Oper) (n : Nat) (e : Env) (j : Nat) : Option Value := (ops[j]?).bind fun o => o.dst.bind fun t => bif Nat.blt t n then some (lk e t) else none
theorem Qg0 {j : Nat} {b : Bool} (h : yd ops n e j = some (.bool b)) : yielded ops (arr n e) j = some b := by
 unfold yd at h
 unfold yielded
 cases ho : ops[j]? with
 | none => rw [ho] at h; cases h
 | some o =>
  rw [ho] at h
  simp only [Option.bind_some] at h ⊢
  cases hd : o.dst with
  | none => rw [hd] at h; cases h
  | some t =>
   rw [hd] at h
   simp only [Option.bind_some] at h ⊢
   by_cases ht : t < n
   ·have h' : Nat.blt t n = true := by simpa [Nat.blt_eq] using ht
    rw [h', cond_true] at h
    have hl : (arr n e)[t]? = some (lk e t) := by simp [arr, ht]
    rw [hl, Option.some.inj h]
   ·have h' : Nat.blt t n = false := Qrk ht
    rw [h', cond_false] at h; cases h
theorem QiH {op : Op} {dst : Option Nat} {j : Nat} {g b : Bool} (hy : yd ops n e j = some (.bool b)) (hb : b = g) : Region.wanted ⟨dst, op, ty, pos, after, some (j, g)⟩ (yielded ops (act n e).tmps) = true := by
 subst hb
 simp [Region.wanted, act, Qg0 hy]
theorem QkE {op : Op} {dst : Option Nat} {j : Nat} {g b : Bool} (hy : yd ops n e j = some (.bool b)) (hb : (!b) = g) : Region.wanted ⟨dst, op, ty, pos, after, some (j, g)⟩ (yielded ops (act n e).tmps) = false := by
 subst hb
 simp [Region.wanted, act, Qg0 hy]
theorem QqI {op : Op} {dst : Option Nat} {j : Nat} {g b : Bool} (hy : yd ops n e j = some (.bool b)) (hb : b = g)
  (h : Lst P Q ops (⟨dst, op, ty, pos, after, none⟩ :: rest) n e w) : Lst P Q ops (⟨dst, op, ty, pos, after, some (j, g)⟩ :: rest) n e w := by
 unfold Lst at h ⊢
 unfold wpList at h ⊢
 rw [if_pos (by simp [Region.wanted])] at h
 rw [if_pos (QiH hy hb)]
 exact h
theorem Qsy {op : Op} {j : Nat} {g b : Bool} (hy : yd ops n e j = some (.bool b)) (hb : (!b) = g) (hd : Nat.blt d n = true)
  (h : Lst P Q ops rest n ((d, undef) :: e) w) : Lst P Q ops (⟨some d, op, ty, pos, after, some (j, g)⟩ :: rest) n e w := by
 unfold Lst at h ⊢
 unfold wpList
 rw [if_neg (by rw [QkE hy hb]; decide), Qd4 hd]
 exact h
def QfB (P : Program) (g : FuncId) : Bool := match P.funcs[g]? with | some fn => fn.name != "runtime.NumGoroutine" && fn.body.isSome | none => false
theorem Qgm {g : FuncId} {args : Array Value} (h : QfB P g = true) : (callFunc g args).run P w = .ok (.enter g args) w := by
 unfold QfB at h
 cases hf : P.funcs[g]? with
 | none => rw [hf] at h; cases h
 | some fn =>
  rw [hf] at h
  simp only [Bool.and_eq_true, bne_iff_ne, ne_eq] at h
  obtain ⟨h1, h2⟩ := h
  cases hb : fn.body with
  | none => rw [hb] at h2; cases h2
  | some c => simp [callFunc, hf, h1, hb, Go.program, Sem.run, bind, Sem.bind, pure]
theorem QbM {op : Op} {g : FuncId} {args : Array Value} {w' : World} (hr : (execOp (ev n e) ⟨some d, op, ty, pos, after, none⟩).run P w = .ok (.enter g args) w') (hd : Nat.blt d n = true)
  (h : Calls P g args w' fun x w' => ∃ v, x = .returned v ∧ Lst P Q ops rest n ((d, v) :: e) w') : Lst P Q ops (⟨some d, op, ty, pos, after, none⟩ :: rest) n e w := by
 refine wpList_plain rfl fun K hK => ?_
 unfold Oper.wp
 rw [Qcx, hr]
 refine h.mono fun x w' hx => ?_
 obtain ⟨v, rfl, hx⟩ := hx
 show K _ _
 rw [Qd4 hd]
 exact hK _ _ hx
theorem Qd8 {g : FuncId} {as : Array Operand} {ts : Array TypeId} {args : Array Value} {dst : Option Nat} (hg : QfB P g = true) (ha : as.map (ev n e) = args) :
  (execOp (ev n e) ⟨dst, .call ⟨.value (.func g), as, ts⟩, ty, pos, after, none⟩).run P w = .ok (.enter g args) w := by
 have := Qgm (w := w) (args := args) hg
 rw [← ha] at this ⊢
 simpa [execOp, resolve, ev, Deferred.ofValue, invoke, bind, Sem.bind, pure, Sem.run] using this
theorem QkY {x : Operand} {g : FuncId} {cap : Array Value} {as : Array Operand} {ts : Array TypeId} {args : Array Value} {dst : Option Nat} (hx : ev n e x = .func (.func g) #[] cap) (hg : QfB P g = true) (ha : as.map (ev n e) = args) :
  (execOp (ev n e) ⟨dst, .call ⟨.value x, as, ts⟩, ty, pos, after, none⟩).run P w = .ok (.enter g (args ++ cap)) w := by
 have := Qgm (w := w) (args := args ++ cap) hg
 rw [← ha] at this ⊢
 simpa [execOp, resolve, hx, Deferred.ofValue, invoke, bind, Sem.bind, pure, Sem.run] using this
theorem Qks : (#[] : Array Operand).map (ev n e) = #[] := by simp
theorem Qoe {a : Operand} {x : Value} (h : ev n e a = x) : #[a].map (ev n e) = #[x] := by simp [h]
theorem Qtz {a b : Operand} {x y : Value} (h : ev n e a = x) (h2 : ev n e b = y) : #[a, b].map (ev n e) = #[x, y] := by simp [h, h2]
theorem Qty {a b c : Operand} {x y z : Value} (h : ev n e a = x) (h2 : ev n e b = y) (h3 : ev n e c = z) : #[a, b, c].map (ev n e) = #[x, y, z] := by simp [h, h2, h3]
theorem QuU {a b c o : Operand} {x y z u : Value} (h : ev n e a = x) (h2 : ev n e b = y) (h3 : ev n e c = z) (h4 : ev n e o = u) : #[a, b, c, o].map (ev n e) = #[x, y, z, u] := by simp [h, h2, h3, h4]
theorem Qfc {x : Operand} {v : Value} {dst : Option Nat} (h : ev n e x = v) : (execOp (ev n e) ⟨dst, .move x, ty, pos, after, none⟩).run P w = .ok (.value v) w := by subst h; rfl
theorem QfX {x : Operand} {v : Value} {dst : Option Nat} (h : ev n e x = v) : (execOp (ev n e) ⟨dst, .assign x, ty, pos, after, none⟩).run P w = .ok (.value v) w := by subst h; rfl
theorem QiT {c x y : Operand} {v : Value} {dst : Option Nat} (hc : ev n e c = .bool true) (h : ev n e x = v) : (execOp (ev n e) ⟨dst, .pick c x y, ty, pos, after, none⟩).run P w = .ok (.value v) w := by
 subst h; simp [execOp, hc, asBool, bind, Sem.bind, pure]
theorem QiU {c x y : Operand} {v : Value} {dst : Option Nat} (hc : ev n e c = .bool false) (h : ev n e y = v) : (execOp (ev n e) ⟨dst, .pick c x y, ty, pos, after, none⟩).run P w = .ok (.value v) w := by
 subst h; simp [execOp, hc, asBool, bind, Sem.bind, pure]
theorem Qht {x : Operand} {vs : List Value} {i : Nat} {v : Value} {dst : Option Nat} (hx : ev n e x = .tuple vs.toArray) (hv : vs[i]? = some v) : (execOp (ev n e) ⟨dst, .extract x i, ty, pos, after, none⟩).run P w = .ok (.value v) w := by
 simp [execOp, hx, Instr.extract, hv, bind, Sem.bind, pure]
end
attribute [irreducible] Lst Qau
structure Ext (M : List Nat) (w w' : World) : Prop where
 os : w'.os = w.os
 tape : w'.tape = w.tape
 output : w'.output = w.output
 size : w.heap.size ≤ w'.heap.size
 block : ∀ k, k < w.heap.size → k ∉ M → w'.heap[k]? = w.heap[k]?
theorem Ext.refl (M : List Nat) (w : World) : Ext M w w := ⟨rfl, rfl, rfl, Nat.le_refl _, fun _ _ _ => rfl⟩
theorem Ext.trans {M : List Nat} {a b c : World} (h : Ext M a b) (g : Ext M b c) : Ext M a c :=
 ⟨g.os.trans h.os, g.tape.trans h.tape, g.output.trans h.output, Nat.le_trans h.size g.size, fun k hk hm => (g.block k (Nat.lt_of_lt_of_le hk h.size) hm).trans (h.block k hk hm)⟩
theorem Ext.mono {M M' : List Nat} {a b : World} (h : Ext M a b) (hs : ∀ k, k < a.heap.size → k ∈ M → k ∈ M') : Ext M' a b :=
 ⟨h.os, h.tape, h.output, h.size, fun k hk hm => h.block k hk fun h' => hm (hs k hk h')⟩
theorem Ext.below {a b : World} (h : Ext [] a b) : Below a.heap.size a b := ⟨h.os, h.tape, h.output, h.size, fun k hk => h.block k hk Yd⟩
theorem Below.ext {M : List Nat} {a b : World} (h : Below a.heap.size a b) : Ext M a b := ⟨h.os, h.tape, h.output, h.size, fun k hk _ => h.block k hk⟩
structure St (M : List Nat) (w0 : World) (H : List (Nat × Obj)) (F : List (World → Prop)) (w : World) : Prop where
 own : ∀ p ∈ H, w.heap[p.1]? = some p.2
 apart : H.Pairwise fun p q => p.1 ≠ q.1
 ext : Ext M w0 w
 new : ∀ p ∈ H, p.1 ∈ M ∨ w0.heap.size ≤ p.1
 facts : ∀ φ ∈ F, ∀ w', Ext (H.map (·.1)) w w' → φ w'
inductive At : List (Nat × Obj) → Nat → Obj → Prop
 | head {H : List (Nat × Obj)} {b : Nat} {o : Obj} : At ((b, o) :: H) b o
 | tail {H : List (Nat × Obj)} {b : Nat} {o : Obj} {p : Nat × Obj} : At H b o → At (p :: H) b o
inductive Upd : List (Nat × Obj) → Nat → Obj → Obj → List (Nat × Obj) → Prop
 | head {H : List (Nat × Obj)} {b : Nat} {o o' : Obj} : Upd ((b, o) :: H) b o o' ((b, o') :: H)
 | tail {H H' : List (Nat × Obj)} {b : Nat} {o o' : Obj} {p : Nat × Obj} : Upd H b o o' H' → Upd (p :: H) b o o' (p :: H')
section
variable {M : List Nat} {w0 w w' : World} {H H' : List (Nat × Obj)} {F : List (World → Prop)} {b : Nat} {o o' : Obj}
theorem QcL (h : w.heap[b]? = some o) : b < w.heap.size := by
 rcases Nat.lt_or_ge b w.heap.size with hb | hb
 ·exact hb
 ·rw [Array.getElem?_eq_none hb] at h; cases h
theorem St.start (w : World) : St [] w [] [] w := ⟨by simp, by simp, Ext.refl _ _, by simp, by simp⟩
theorem St.fact (h : St M w0 H F w) {φ : World → Prop} (hm : φ ∈ F) : φ w := h.facts φ hm w (Ext.refl _ _)
theorem St.learn (h : St M w0 H F w) {φ : World → Prop} (hφ : ∀ w', Ext (H.map (·.1)) w w' → φ w') : St M w0 H (φ :: F) w :=
 ⟨h.own, h.apart, h.ext, h.new, fun ψ hψ w' hw => by
  rcases List.mem_cons.1 hψ with rfl | hψ
  ·exact hφ w' hw
  ·exact h.facts ψ hψ w' hw⟩
theorem St.forget (h : St M w0 H F w) {F' : List (World → Prop)} (hs : ∀ φ ∈ F', φ ∈ F) : St M w0 H F' w := ⟨h.own, h.apart, h.ext, h.new, fun φ hφ => h.facts φ (hs φ hφ)⟩
theorem St.over (h : St M w0 H F w) (hw : Ext (H.map (·.1)) w w') : Ext M w0 w' :=
 ⟨hw.os.trans h.ext.os, hw.tape.trans h.ext.tape, hw.output.trans h.ext.output, Nat.le_trans h.ext.size hw.size, fun k hk hm => by
  have hkm : k ∉ H.map (·.1) := fun hkm => by
   obtain ⟨p, hp, rfl⟩ := List.mem_map.1 hkm
   rcases h.new p hp with h1 | h1
   ·exact hm h1
   ·omega
  exact (hw.block k (Nat.lt_of_lt_of_le hk h.ext.size) hkm).trans (h.ext.block k hk hm)⟩
theorem St.base (h : St M w0 H F w) {φ : World → Prop} (hφ : ∀ w', Ext M w0 w' → φ w') : St M w0 H (φ :: F) w := h.learn fun w' hw => hφ w' (h.over hw)
theorem St.grow (h : St M w0 H F w) (hb : Below w.heap.size w w') : St M w0 H F w' :=
 ⟨fun p hp => (hb.block _ (QcL (h.own p hp))).trans (h.own p hp), h.apart, h.ext.trans (Below.ext hb), h.new, fun φ hφ w2 hw => h.facts φ hφ w2 ((Below.ext hb).trans hw)⟩
theorem St.drew (h : St M w0 H F w) : St M w0 H F w.drew := h.grow ⟨rfl, rfl, rfl, Nat.le_refl _, fun _ _ => rfl⟩
theorem St.alloc (h : St M w0 H F w) (o : Obj) : St M w0 ((w.heap.size, o) :: H) F (w.alloc o) := by
 have hg := h.grow ((Below.refl w.heap.size w).alloc (Nat.le_refl _) o)
 refine ⟨fun p hp => ?_, ?_, hg.ext, fun p hp => ?_, fun φ hφ w2 hw => ?_⟩
 ·rcases List.mem_cons.1 hp with rfl | hp
  ·show (w.heap.push o)[w.heap.size]? = some o
   simp
  ·exact hg.own p hp
 ·refine List.pairwise_cons.2 ⟨fun q hq => ?_, h.apart⟩
  have := QcL (h.own q hq)
  show w.heap.size ≠ q.1
  omega
 ·rcases List.mem_cons.1 hp with rfl | hp
  ·exact .inr h.ext.size
  ·exact h.new p hp
 ·refine h.facts φ hφ w2 ⟨hw.os, hw.tape, hw.output, Nat.le_trans Yd hw.size, fun k hk hm => ?_⟩
  have := hw.block k Yh (by simp at hm ⊢; exact ⟨by omega, hm⟩)
  rw [this]
  exact Below.heap_alloc w o k hk
theorem At.mem (h : At H b o) : (b, o) ∈ H := by
 induction h with
 | head => simp
 | tail _ ih => exact List.mem_cons_of_mem _ ih
theorem St.at_ (h : St M w0 H F w) (ha : At H b o) : w.heap[b]? = some o := h.own _ ha.mem
theorem Upd.at_ (h : Upd H b o o' H') : At H b o := by
 induction h with
 | head => exact .head
 | tail _ ih => exact .tail ih
theorem Upd.keys (h : Upd H b o o' H') : H'.map (·.1) = H.map (·.1) := by
 induction h with
 | head => rfl
 | tail _ ih => simp [ih]
theorem Upd.mem (h : Upd H b o o' H') {q : Nat × Obj} (hq : q ∈ H') (hp : H.Pairwise fun p q => p.1 ≠ q.1) : (q = (b, o')) ∨ (q ∈ H ∧ q.1 ≠ b) := by
 induction h with
 | head =>
  rcases List.mem_cons.1 hq with rfl | hq
  ·exact .inl rfl
  ·exact .inr ⟨List.mem_cons_of_mem _ hq, Ne.symm ((List.pairwise_cons.1 hp).1 q hq)⟩
 | tail h ih =>
  rcases List.mem_cons.1 hq with rfl | hq
  ·exact .inr ⟨by simp, (List.pairwise_cons.1 hp).1 _ h.at_.mem⟩
  ·rcases ih hq (List.pairwise_cons.1 hp).2 with h1 | h1
   ·exact .inl h1
   ·exact .inr ⟨List.mem_cons_of_mem _ h1.1, h1.2⟩
theorem St.drop {p : Nat × Obj} (h : St M w0 (p :: H) F w) : St M w0 H F w :=
 ⟨fun q hq => h.own q (List.mem_cons_of_mem _ hq), (List.pairwise_cons.1 h.apart).2, h.ext, fun q hq => h.new q (List.mem_cons_of_mem _ hq),
  fun φ hφ w2 hw => h.facts φ hφ w2 (hw.mono fun k _ hk => List.mem_cons_of_mem _ hk)⟩
theorem St.unlearn {φ : World → Prop} (h : St M w0 H (φ :: F) w) : St M w0 H F w := h.forget fun ψ hψ => List.mem_cons_of_mem _ hψ
theorem St.cell0 (h : St [] w0 H F w) {a : Addr} {v : Value} (hc : w0.cell? a = some v) : w.cell? a = some v := by
 have hl : a.block < w0.heap.size := by
  rcases Nat.lt_or_ge a.block w0.heap.size with hl | hg
  ·exact hl
  ·simp [World.cell?, Array.getElem?_eq_none hg] at hc
 rw [h.ext.below.cell hl]; exact hc
theorem St.turn (h : St M w0 H F w) (u : Upd H b o o' H') (hx : Ext [b] w w') (ho : w'.heap[b]? = some o') : St M w0 H' F w' := by
 have hbm : b ∈ H.map (·.1) := List.mem_map.2 ⟨_, u.at_.mem, rfl⟩
 have hx' : Ext (H.map (·.1)) w w' := hx.mono fun k _ hk => by
                                have : k = b := by simpa using hk
                                subst this; exact hbm
 refine ⟨fun q hq => ?_, ?_, h.over hx', fun q hq => ?_, fun φ hφ w2 hw => h.facts φ hφ w2 (hx'.trans (by rw [← u.keys]; exact hw))⟩
 ·rcases u.mem hq h.apart with rfl | ⟨h1, h2⟩
  ·exact ho
  ·rw [hx.block q.1 (QcL (h.own q h1)) (by simpa using h2)]
   exact h.own q h1
 ·have hk := List.pairwise_map.2 h.apart
  rw [← u.keys] at hk
  exact List.pairwise_map.1 hk
 ·rcases u.mem hq h.apart with rfl | ⟨h1, h2⟩
  ·exact h.new (b, o) u.at_.mem
  ·exact h.new q h1
end
inductive Nth : List Value → Nat → Value → Prop
 | z {v : Value} {l : List Value} : Nth (v :: l) 0 v
 | s {v u : Value} {l : List Value} {i : Nat} : Nth l i v → Nth (u :: l) (i + 1) v
theorem Nth.get {l : List Value} {i : Nat} {v : Value} (h : Nth l i v) : l[i]? = some v := by
 induction h with
 | z => rfl
 | s _ ih => simpa using ih
inductive Cut : List Value → Nat → Nat → List Value → Prop
 | z {l : List Value} : Cut l 0 0 []
 | t {v : Value} {l vs : List Value} {k : Nat} : Cut l 0 k vs → Cut (v :: l) 0 (k + 1) (v :: vs)
 | s {u : Value} {l vs : List Value} {i k : Nat} : Cut l i k vs → Cut (u :: l) (i + 1) k vs
theorem Cut.length {l : List Value} {i k : Nat} {vs : List Value} (h : Cut l i k vs) : vs.length = k := by
 induction h with
 | z => rfl
 | t _ ih => simp [ih]
 | s _ ih => exact ih
theorem Cut.get {l : List Value} {i k : Nat} {vs : List Value} (h : Cut l i k vs) : ∀ j, j < k → l[i + j]? = vs[j]? := by
 induction h with
 | z => intro j hj; omega
 | t _ ih =>
  intro j hj
  cases j with
  | zero => rfl
  | succ j => have := ih j Ya; rw [Nat.zero_add] at this ⊢; simpa using this
 | s _ ih => intro j hj; have := ih j hj; rw [show ∀ a, a + 1 + j = (a + j) + 1 by omega]; simpa using this
inductive Put : List Value → Nat → Value → List Value → Prop
 | z {v u : Value} {l : List Value} : Put (u :: l) 0 v (v :: l)
 | s {v u : Value} {l l' : List Value} {i : Nat} : Put l i v l' → Put (u :: l) (i + 1) v (u :: l')
theorem Put.eq {l l' : List Value} {i : Nat} {v : Value} (h : Put l i v l') : l' = l.set i v ∧ i < l.length := by
 induction h with
 | z => simp
 | s _ ih => simp [← ih.1, ih.2]
section
variable {P : Program} {n : Nat} {e : Env} {w : World} {Q : Exit → Act → World → Prop} {ops : Array Oper} {rest : List Oper} {ty : TypeId} {pos : String} {after : Array Edge} {d : Nat}
variable {M : List Nat} {w0 : World} {H H' : List (Nat × Obj)} {F : List (World → Prop)} {b o : Nat} {x : Operand} {v : Value} {dst : Option Nat} {t : TypeId}
def QeW (P : Program) (t : TypeId) : Option Bool := match P.underlying t with | some (.struct _) => some true | some (.array _ _) => some true | some _ => some false | none => none
def QaD (P : Program) (t : TypeId) : Option Nat := (P.info? t).map (·.size)
theorem Qci {g : Bool} (h : QeW P t = some g) : (isAgg t).run P w = .ok g w := by
 unfold QeW at h
 unfold isAgg underlying
 simp only [Go.program, bind, Sem.bind, Sem.run]
 cases hu : P.underlying t with
 | none => rw [hu] at h; cases h
 | some td => rw [hu] at h; cases td <;> simp_all [pure, Sem.bind]
theorem Qac {s : Nat} (h : QaD P t = some s) : (sizeOf t).run P w = .ok s w := by
 unfold QaD at h
 cases hi : P.info? t with
 | none => rw [hi] at h; cases h
 | some i =>
  rw [hi] at h
  simp only [Option.map_some, Option.some.injEq] at h
  simp [sizeOf, typeInfo, Go.program, bind, Sem.bind, Sem.run, hi, pure, h]
theorem Qn {a : Addr} (ha : ev n e x = .pointer (some a)) (hA : QeW P t = some false) (hc : w.cell? a = some v) :
  (execOp (ev n e) ⟨dst, .load t x, ty, pos, after, none⟩).run P w = .ok (.value v) w := by
 have h1 := Qci (w := w) hA
 simp only [execOp, ha, Instr.loadAt, Instr.sureAddr, loadVar, bind, pure, Sem.bind]
 rw [Sem.run_bind', Sem.run_bind', h1]
 simp [Go.load, Sem.run, hc, Sem.bind]
theorem QdF {a : Addr} {cs : List Value} (ha : ev n e x = .pointer (some a)) (hA : QeW P t = some true) (hs : QaD P t = some cs.length) (hc : ∀ j v, cs[j]? = some v → w.cell? (a.add j) = some v) :
  (execOp (ev n e) ⟨dst, .load t x, ty, pos, after, none⟩).run P w = .ok (.value (.agg cs.toArray)) w := by
 have h1 := Qci (w := w) hA
 have h2 := Qac (w := w) hs
 have h3 := run_loadCells_list (P := P) (w := w) a cs hc
 simp only [execOp, ha, Instr.loadAt, Instr.sureAddr, loadVar, bind, pure, Sem.bind]
 rw [Sem.run_bind', Sem.run_bind', h1]
 simp only [Result.andThen_ok, if_true]
 rw [Sem.run_bind', h2]
 simp only [Result.andThen_ok]
 rw [Sem.run_bind', h3]
 simp [Sem.run]
theorem Qaa (b o j : Nat) : (⟨b, o, none⟩ : Addr).add j = ⟨b, o + j, none⟩ := by unfold Addr.add; split <;> simp_all
theorem Qu {cs : List Value} {ct : TypeId} {fz : Nat × Nat} (h : w.heap[b]? = some (.cells cs.toArray ct fz)) (o : Nat) : w.cell? ⟨b, o, none⟩ = cs[o]? := by simp [World.cell?, h]
theorem Qf {cs : List Value} {ct : TypeId} (hS : St M w0 H F w) (ha : ev n e x = .pointer (some ⟨b, o, none⟩)) (hA : QeW P t = some false) (hb : At H b (.cells cs.toArray ct)) (hn : Nth cs o v) :
  (execOp (ev n e) ⟨dst, .load t x, ty, pos, after, none⟩).run P w = .ok (.value v) w := Qn ha hA (by rw [Qu (hS.at_ hb)]; exact hn.get)
theorem Qb {cs vs : List Value} {ct : TypeId} {k : Nat} (hS : St M w0 H F w) (ha : ev n e x = .pointer (some ⟨b, o, none⟩)) (hA : QeW P t = some true) (hs : QaD P t = some k) (hb : At H b (.cells cs.toArray ct)) (hn : Cut cs o k vs) :
  (execOp (ev n e) ⟨dst, .load t x, ty, pos, after, none⟩).run P w = .ok (.value (.agg vs.toArray)) w := by
 refine QdF ha hA (by rw [hn.length]; exact hs) fun j v hj => ?_
 rw [Qaa, Qu (hS.at_ hb)]
 have hjk : j < k := by
  rcases Nat.lt_or_ge j k with h | h
  ·exact h
  ·rw [List.getElem?_eq_none (by rw [hn.length]; exact h)] at hj; cases hj
 rw [hn.get j hjk]; exact hj
theorem Qbl {v0 v1 v2 v3 : Value} (ha : ev n e x = .pointer (some ⟨b, o, none⟩)) (hA : QeW P t = some true) (hs : QaD P t = some 4)
  (h0 : w.cell? ⟨b, o, none⟩ = some v0) (h1 : w.cell? ⟨b, o + 1, none⟩ = some v1) (h2 : w.cell? ⟨b, o + 2, none⟩ = some v2) (h3 : w.cell? ⟨b, o + 3, none⟩ = some v3) :
  (execOp (ev n e) ⟨dst, .load t x, ty, pos, after, none⟩).run P w = .ok (.value (.agg #[v0, v1, v2, v3])) w := by
 refine QdF (cs := [v0, v1, v2, v3]) ha hA hs fun j v hj => ?_
 rw [Qaa]
 match j, hj with
 | 0, hj => simp at hj; subst hj; exact h0
 | 1, hj => simp at hj; subst hj; exact h1
 | 2, hj => simp at hj; subst hj; exact h2
 | 3, hj => simp at hj; subst hj; exact h3
 | j + 4, hj => simp at hj
theorem QaQ {v0 v1 : Value} (ha : ev n e x = .pointer (some ⟨b, o, none⟩)) (hA : QeW P t = some true) (hs : QaD P t = some 2)
  (h0 : w.cell? ⟨b, o, none⟩ = some v0) (h1 : w.cell? ⟨b, o + 1, none⟩ = some v1) :
  (execOp (ev n e) ⟨dst, .load t x, ty, pos, after, none⟩).run P w = .ok (.value (.agg #[v0, v1])) w := by
 refine QdF (cs := [v0, v1]) ha hA hs fun j v hj => ?_
 rw [Qaa]
 match j, hj with
 | 0, hj => simp at hj; subst hj; exact h0
 | 1, hj => simp at hj; subst hj; exact h1
 | j + 2, hj => simp at hj
theorem QaZ {v0 v1 v2 : Value} (ha : ev n e x = .pointer (some ⟨b, o, none⟩)) (hA : QeW P t = some true) (hs : QaD P t = some 3)
  (h0 : w.cell? ⟨b, o, none⟩ = some v0) (h1 : w.cell? ⟨b, o + 1, none⟩ = some v1) (h2 : w.cell? ⟨b, o + 2, none⟩ = some v2) :
  (execOp (ev n e) ⟨dst, .load t x, ty, pos, after, none⟩).run P w = .ok (.value (.agg #[v0, v1, v2])) w := by
 refine QdF (cs := [v0, v1, v2]) ha hA hs fun j v hj => ?_
 rw [Qaa]
 match j, hj with
 | 0, hj => simp at hj; subst hj; exact h0
 | 1, hj => simp at hj; subst hj; exact h1
 | 2, hj => simp at hj; subst hj; exact h2
 | j + 3, hj => simp at hj
theorem QkW {v0 v1 v2 v3 v4 v5 : Value} (ha : ev n e x = .pointer (some ⟨b, o, none⟩)) (hA : QeW P t = some true) (hs : QaD P t = some 6)
  (h0 : w.cell? ⟨b, o, none⟩ = some v0) (h1 : w.cell? ⟨b, o + 1, none⟩ = some v1) (h2 : w.cell? ⟨b, o + 2, none⟩ = some v2) (h3 : w.cell? ⟨b, o + 3, none⟩ = some v3) (h4 : w.cell? ⟨b, o + 4, none⟩ = some v4) (h5 : w.cell? ⟨b, o + 5, none⟩ = some v5) :
  (execOp (ev n e) ⟨dst, .load t x, ty, pos, after, none⟩).run P w = .ok (.value (.agg #[v0, v1, v2, v3, v4, v5])) w := by
 refine QdF (cs := [v0, v1, v2, v3, v4, v5]) ha hA hs fun j v hj => ?_
 rw [Qaa]
 match j, hj with
 | 0, hj => simp at hj; subst hj; exact h0
 | 1, hj => simp at hj; subst hj; exact h1
 | 2, hj => simp at hj; subst hj; exact h2
 | 3, hj => simp at hj; subst hj; exact h3
 | 4, hj => simp at hj; subst hj; exact h4
 | 5, hj => simp at hj; subst hj; exact h5
 | j + 6, hj => simp at hj
def Qvx (P : Program) (s : TypeId) (i : Nat) : Option Nat := match P.underlying s with
 | some (.struct fs) => match fs[i]? with
  | some f => match QaD P f.type with
   | some 0 => none
   | some _ => some f.offset
   | none => none
  | none => none
 | _ => none
theorem Qi {s i off : Nat} (ha : ev n e x = .pointer (some ⟨b, o, none⟩)) (hf : Qvx P s i = some off) :
  (execOp (ev n e) ⟨dst, .fieldAddr s x i, ty, pos, after, none⟩).run P w = .ok (.value (.pointer (some ⟨b, o + off, none⟩))) w := by
 unfold Qvx at hf
 split at hf
 ·rename_i fs hu
  split at hf
  ·rename_i fl hi
   split at hf
   ·cases hf
   ·rename_i k hk0 hk
    cases hf
    have h1 := run_underlying hu w
    have h2 := Qac (w := w) hk
    have hz : ¬ k = 0 := fun h => hk0 h
    simp only [execOp, ha, Instr.fieldAt, Instr.sureAddr, fieldPlace, bind, pure, Sem.bind]
    rw [Sem.run_bind', Sem.run_bind', h1]
    simp only [Result.andThen_ok, hi]
    rw [Sem.run_bind', Sem.run_bind', h2]
    simp only [Result.andThen_ok, if_neg hz, Sem.run, Sem.bind, Qaa]
   ·cases hf
  ·cases hf
 ·cases hf
theorem Que {s : TypeId} {cs : List Value} (hS : St M w0 H F w) (hx : (ev n e x).cells = cs.toArray) (hd : Nat.blt d n = true)
  (h : ∀ b w', St M w0 ((b, .cells cs.toArray s) :: H) F w' → Lst P Q ops rest n ((d, .pointer (some ⟨b, 0, none⟩)) :: e) w') :
  Lst P Q ops (⟨some d, .box s x, ty, pos, after, none⟩ :: rest) n e w := by
 refine Qa (v := .pointer (some ⟨w.heap.size, 0, none⟩)) (w' := w.alloc (.cells cs.toArray s)) ?_ hd (h _ _ (hS.alloc _))
 simp only [execOp, Instr.box, newVar, newRow, newObj, hx, bind, pure, Sem.bind, Sem.run]
 rfl
def QjB (P : Program) (t : TypeId) : Option Value := (P.info? t).bind (·.zero)
theorem Qho (h : QjB P t = some v) : (zeroValue t).run P w = .ok v w := by
 unfold QjB at h
 cases hi : P.info? t with
 | none => rw [hi] at h; cases h
 | some i =>
  rw [hi] at h
  simp only [Option.bind_some] at h
  simp [zeroValue, typeInfo, Go.program, bind, Sem.bind, Sem.run, hi, pure, h]
theorem QdO {s : TypeId} {cs : List Value} (hS : St M w0 H F w) (hz : QjB P s = some v) (hx : v.cells = cs.toArray) (hd : Nat.blt d n = true)
  (h : ∀ b w', St M w0 ((b, .cells cs.toArray s) :: H) F w' → Lst P Q ops rest n ((d, .pointer (some ⟨b, 0, none⟩)) :: e) w') :
  Lst P Q ops (⟨some d, .alloc s, ty, pos, after, none⟩ :: rest) n e w := by
 refine Qa (v := .pointer (some ⟨w.heap.size, 0, none⟩)) (w' := w.alloc (.cells cs.toArray s)) ?_ hd (h _ _ (hS.alloc _))
 have h1 := Qho (w := w) hz
 simp only [execOp, Instr.alloc, bind, pure]
 rw [Sem.run_bind', Sem.run_bind', h1]
 simp only [Result.andThen_ok, newVar, newRow, newObj, hx, bind, pure, Sem.bind, Sem.run]
 rfl
theorem Qhm (b o : Nat) (v : Value) : Ext [b] w (w.setCell ⟨b, o, none⟩ v) :=
 ⟨rfl, rfl, rfl, by simp [World.setCell], fun k _ hk => Below.heap_setCell _ _ _ _ (by simpa using hk)⟩
theorem Qhk {cs : List Value} {ct : TypeId} (h : w.heap[b]? = some (.cells cs.toArray ct)) (o : Nat) (v : Value) : (w.setCell ⟨b, o, none⟩ v).heap[b]? = some (.cells (cs.set o v).toArray ct) := by
 simp [World.setCell, Array.getElem?_modify, h]
theorem QoA {y : Operand} {u : Value} {a : Addr} (ha : ev n e x = .pointer (some a)) (hy : ev n e y = v) (hs : QaD P t = some 1) (h1 : v.oneCell' = true) (hc : w.cell? a = some u) (hf : w.frozen? a = false) :
  (execOp (ev n e) ⟨none, .store t x y, ty, pos, after, none⟩).run P w = .ok .skip (w.setCell a v) := by
 have h2 := Qac (w := w) hs
 have hcl : v.cells = #[v] := by cases v <;> simp_all [Value.cells, Value.oneCell']
 have h3 := run_store P w (a.add 0) v .plain h1
 have ha0 : a.add 0 = a := by simp [Addr.add]
 rw [ha0, hc] at h3
 simp only [execOp, ha, hy, Instr.storeAt, Instr.sureAddr, storeVar, bind, pure, Sem.bind]
 rw [Sem.run_bind', Sem.run_bind', h2]
 simp only [Result.andThen_ok, hcl]
 simp only [List.size_toArray, List.length_cons, List.length_nil, Nat.zero_add, ne_eq, not_true_eq_false, if_false, storeCells, bind, pure, ha0]
 rw [Sem.run_bind', h3]
 simp [hf, Sem.run]
theorem Q8 {y : Operand} {cs cs' : List Value} {ct : TypeId} (hS : St M w0 H F w) (ha : ev n e x = .pointer (some ⟨b, o, none⟩)) (hy : ev n e y = v) (hs : QaD P t = some 1) (h1 : v.oneCell' = true)
  (hat : At H b (.cells cs.toArray ct)) (hp : Put cs o v cs') (hu : Upd H b (.cells cs.toArray ct) (.cells cs'.toArray ct) H')
  (h : ∀ w', St M w0 H' F w' → Lst P Q ops rest n e w') : Lst P Q ops (⟨none, .store t x y, ty, pos, after, none⟩ :: rest) n e w := by
 have hb := hS.at_ hu.at_
 have hq := hp.eq
 refine Qln (QoA (u := cs[o]'hq.2) ha hy hs h1 (by rw [Qu hb]; simp [hq.2]) (by simp [World.frozen?, hb])) (h _ (hS.turn hu (Qhm _ _ _) ?_))
 rw [Qhk hb, hq.1]
end
section
variable {P : Program} {n : Nat} {e : Env} {w : World} {Q : Exit → Act → World → Prop} {ops : Array Oper} {rest : List Oper} {ty : TypeId} {pos : String} {after : Array Edge} {d : Nat}
variable {M : List Nat} {w0 : World} {H H' : List (Nat × Obj)} {F : List (World → Prop)} {b o : Nat} {x y : Operand} {v : Value} {dst : Option Nat} {t t2 : TypeId}
theorem Qg3 {i : Int} (h1 : -9223372036854775808 ≤ i) (h2 : i ≤ 9223372036854775807) : IntKind.i64.wrap i = i := by
 rw [IntKind.wrap_i64]; omega
theorem Qmu {a c : Int} (hx : ev n e x = .int .i64 a) (hy : ev n e y = .int .i64 c) (h1 : -9223372036854775808 ≤ a + c) (h2 : a + c ≤ 9223372036854775807) :
  (execOp (ev n e) ⟨dst, .binOp .add t x y t2, ty, pos, after, none⟩).run P w = .ok (.value (.int .i64 (a + c))) w := by
 have : (execOp (ev n e) ⟨dst, .binOp .add t x y t2, ty, pos, after, none⟩).run P w = .ok (.value (.int .i64 (IntKind.i64.wrap (a + c)))) w := by simp only [execOp, hx, hy]; rfl
 rw [this, Qg3 h1 h2]
theorem Qp1 {a c : Int} (hx : ev n e x = .int .i64 a) (hy : ev n e y = .int .i64 c) (h1 : -9223372036854775808 ≤ a - c) (h2 : a - c ≤ 9223372036854775807) :
  (execOp (ev n e) ⟨dst, .binOp .sub t x y t2, ty, pos, after, none⟩).run P w = .ok (.value (.int .i64 (a - c))) w := by
 have : (execOp (ev n e) ⟨dst, .binOp .sub t x y t2, ty, pos, after, none⟩).run P w = .ok (.value (.int .i64 (IntKind.i64.wrap (a - c)))) w := by simp only [execOp, hx, hy]; rfl
 rw [this, Qg3 h1 h2]
def QC (P : Program) (t : TypeId) : Option TypeId := match P.underlying t with | some (.slice el) => some el | _ => none
def QaF (P : Program) (t : TypeId) : Bool := match P.underlying t with | some .string => true | _ => false
theorem Qar {el : TypeId} (h : QC P t = some el) : P.underlying t = some (.slice el) := by
 unfold QC at h; split at h
 ·rename_i h'; cases h; exact h'
 ·cases h
theorem QfS (h : QaF P t = true) : P.underlying t = some .string := by
 unfold QaF at h; split at h
 ·assumption
 ·cases h
theorem Qc6 {el : TypeId} {A : Option Addr} {l c : Nat} {ts : Array TypeId} (hx : ev n e x = .slice A l c) (ht : ts[0]? = some t) (hT : QC P t = some el) :
  (execOp (ev n e) ⟨dst, .call ⟨.builtin .len, #[x], ts⟩, ty, pos, after, none⟩).run P w = .ok (.value (.int .i64 l)) w := by
 have h1 := run_underlying (Qar hT) w
 simp only [execOp, resolve, List.map_toArray, List.map_cons, List.map_nil, hx, bind, pure, Sem.bind, invoke, builtin, Builtin.len_, ht, List.getElem?_toArray, List.getElem?_cons_zero]
 rw [Sem.run_bind', Sem.run_bind', h1]
 rfl
theorem Qiq {s : ByteArray} {ts : Array TypeId} (hx : ev n e x = .string s) (ht : ts[0]? = some t) (hT : QaF P t = true) :
  (execOp (ev n e) ⟨dst, .call ⟨.builtin .len, #[x], ts⟩, ty, pos, after, none⟩).run P w = .ok (.value (.int .i64 s.size)) w := by
 have h1 := run_underlying (QfS hT) w
 simp only [execOp, resolve, List.map_toArray, List.map_cons, List.map_nil, hx, bind, pure, Sem.bind, invoke, builtin, Builtin.len_, ht, List.getElem?_toArray, List.getElem?_cons_zero]
 rw [Sem.run_bind', Sem.run_bind', h1]
 rfl
theorem Qgz {s : ByteArray} {i : Int} (hx : ev n e x = .string s) (hy : ev n e y = .int .i64 i) (hT : QaF P t = true) (h0 : 0 ≤ i) (h1 : i.toNat < s.size) :
  (execOp (ev n e) ⟨dst, .index t x y, ty, pos, after, none⟩).run P w = .ok (.value (.int .u8 (s[i.toNat]'h1).toNat)) w := by
 have h2 := run_underlying (QfS hT) w
 simp only [execOp, Instr.index, hx, hy, asIntOf, bind, pure, Sem.bind]
 rw [Sem.run_bind', Sem.run_bind', h2]
 have h3 : s[i.toNat]? = some (s[i.toNat]'h1) := by simp [h1]
 simp only [Result.andThen_ok, if_pos h0, h3]
 rfl
theorem Qas {el sz : Nat} {i : Int} {l c : Nat} (hx : ev n e x = .slice (some ⟨b, o, none⟩) l c) (hy : ev n e y = .int .i64 i) (hT : QC P t = some el) (hs : QaD P el = some sz) (h0 : 0 ≤ i) (h1 : i < l) :
  (execOp (ev n e) ⟨dst, .indexAddr t x y, ty, pos, after, none⟩).run P w = .ok (.value (.pointer (some ⟨b, o + i.toNat * sz, none⟩))) w := by
 have h2 := run_underlying (Qar hT) w
 have h3 := Qac (w := w) hs
 simp only [execOp, Instr.indexAt, hx, hy, asIntOf, bind, pure, Sem.bind]
 rw [Sem.run_bind', Sem.run_bind', h2]
 simp only [Result.andThen_ok, Sem.bind]
 rw [Sem.run_bind', h2]
 simp only [Result.andThen_ok, if_pos (And.intro h0 h1)]
 rw [Sem.run_bind', h3]
 simp only [Result.andThen_ok, Qaa, Sem.run]
def bound (n : Nat) (e : Env) (h : Option Operand) (dflt : Int) : Option Int := match h with | none => some dflt | some z => match ev n e z with | .int _ i => some i | _ => none
theorem QcJ {z : Value} {k : IntKind} {i : Int} {m : Nat} {cd : BoundsCode} (hz : z = .int k i) (h0 : 0 ≤ i) (h1 : i ≤ m) : (Instr.sliceBound z m cd).run P w = .ok i.toNat w := by
 subst hz
 simp only [Instr.sliceBound, asIntOf, bind, pure, Sem.bind, if_pos (And.intro h0 h1)]
 rfl
theorem QjK {s : ByteArray} {i : Int} (hx : ev n e x = .string s) (hy : ev n e y = .int .i64 i) (hT : QaF P t = true) (h0 : 0 ≤ i) (h1 : i ≤ s.size) :
  (execOp (ev n e) ⟨dst, .slice t x (some y) none none, ty, pos, after, none⟩).run P w = .ok (.value (.string (s.extract i.toNat s.size))) w := by
 have h2 := run_underlying (QfS hT) w
 simp only [execOp, Instr.sliceAt, Instr.slice, hx, hy, Option.map_some, Option.map_none, bind, pure, Sem.bind]
 rw [Sem.run_bind', Sem.run_bind', h2]
 simp only [Result.andThen_ok]
 rw [Sem.run_bind', h2]
 simp only [Result.andThen_ok, Instr.sliceBounds, Option.isSome_none, Bool.false_eq_true, if_false, bind, pure, Sem.bind]
 rw [Sem.run_bind', Sem.run_bind', QcJ rfl h0 h1]
 rfl
theorem Qip {s : ByteArray} {i : Int} (hx : ev n e x = .string s) (hy : ev n e y = .int .i64 i) (hT : QaF P t = true) (h0 : 0 ≤ i) (h1 : i ≤ s.size) :
  (execOp (ev n e) ⟨dst, .slice t x none (some y) none, ty, pos, after, none⟩).run P w = .ok (.value (.string (s.extract 0 i.toNat))) w := by
 have h2 := run_underlying (QfS hT) w
 simp only [execOp, Instr.sliceAt, Instr.slice, hx, hy, Option.map_some, Option.map_none, bind, pure, Sem.bind]
 rw [Sem.run_bind', Sem.run_bind', h2]
 simp only [Result.andThen_ok]
 rw [Sem.run_bind', h2]
 simp only [Result.andThen_ok, Instr.sliceBounds, Option.isSome_none, Bool.false_eq_true, if_false, bind, pure, Sem.bind]
 rw [Sem.run_bind', Sem.run_bind', QcJ rfl h0 h1]
 rfl
theorem Qgk {fn : Fn} {fs cs : Array Operand} {vs us : Array Value} (h1 : fs.map (ev n e) = vs) (h2 : cs.map (ev n e) = us) :
  (execOp (ev n e) ⟨dst, .makeFunc fn fs cs, ty, pos, after, none⟩).run P w = .ok (.value (.func fn vs us)) w := by
 subst h1 h2; rfl
theorem Qbm {k : IntKind} {a : Int} (hx : ev n e x = .int k a) (hy : ev n e y = .int k a) :
  (execOp (ev n e) ⟨dst, .binOp .eql t x y t2, ty, pos, after, none⟩).run P w = .ok (.value (.bool true)) w := by
 have : (execOp (ev n e) ⟨dst, .binOp .eql t x y t2, ty, pos, after, none⟩).run P w = .ok (.value (.bool (a == a))) w := by
  simp only [execOp, hx, hy, eqGuard, binOp, Op.intCmp, bind, pure, Sem.bind, ne_eq, not_true_eq_false, if_false]; rfl
 rw [this]; simp
theorem QdE {k : IntKind} {a : Int} (hx : ev n e x = .int k a) (hy : ev n e y = .int k a) :
  (execOp (ev n e) ⟨dst, .binOp .neq t x y t2, ty, pos, after, none⟩).run P w = .ok (.value (.bool false)) w := by
 have : (execOp (ev n e) ⟨dst, .binOp .neq t x y t2, ty, pos, after, none⟩).run P w = .ok (.value (.bool (a != a))) w := by
  simp only [execOp, hx, hy, eqGuard, binOp, Op.intCmp, bind, pure, Sem.bind, ne_eq, not_true_eq_false, if_false]; rfl
 rw [this]; simp
theorem QfW {k : IntKind} {a c : Int} (hx : ev n e x = .int k a) (hy : ev n e y = .int k c) (h : a ≠ c) :
  (execOp (ev n e) ⟨dst, .binOp .eql t x y t2, ty, pos, after, none⟩).run P w = .ok (.value (.bool false)) w := by
 have : (execOp (ev n e) ⟨dst, .binOp .eql t x y t2, ty, pos, after, none⟩).run P w = .ok (.value (.bool (a == c))) w := by
  simp only [execOp, hx, hy, eqGuard, binOp, Op.intCmp, bind, pure, Sem.bind, ne_eq, not_true_eq_false, if_false]; rfl
 rw [this]; simp [h]
theorem QoB {k : IntKind} {a c : Int} (hx : ev n e x = .int k a) (hy : ev n e y = .int k c) (h : a ≠ c) :
  (execOp (ev n e) ⟨dst, .binOp .neq t x y t2, ty, pos, after, none⟩).run P w = .ok (.value (.bool true)) w := by
 have : (execOp (ev n e) ⟨dst, .binOp .neq t x y t2, ty, pos, after, none⟩).run P w = .ok (.value (.bool (a != c))) w := by
  simp only [execOp, hx, hy, eqGuard, binOp, Op.intCmp, bind, pure, Sem.bind, ne_eq, not_true_eq_false, if_false]; rfl
 rw [this]; simp [h]
theorem Qmp {k : IntKind} {a c : Int} (hx : ev n e x = .int k a) (hy : ev n e y = .int k c) (h : a < c) :
  (execOp (ev n e) ⟨dst, .binOp .lss t x y t2, ty, pos, after, none⟩).run P w = .ok (.value (.bool true)) w := by
 have : (execOp (ev n e) ⟨dst, .binOp .lss t x y t2, ty, pos, after, none⟩).run P w = .ok (.value (.bool (decide (a < c)))) w := by
  simp only [execOp, hx, hy, eqGuard, binOp, Op.intCmp, bind, pure, Sem.bind, ne_eq, not_true_eq_false, if_false]; rfl
 rw [this]; simp only [decide_eq_true h]
theorem QoC {k : IntKind} {a c : Int} (hx : ev n e x = .int k a) (hy : ev n e y = .int k c) (h : ¬ (a < c)) :
  (execOp (ev n e) ⟨dst, .binOp .lss t x y t2, ty, pos, after, none⟩).run P w = .ok (.value (.bool false)) w := by
 have : (execOp (ev n e) ⟨dst, .binOp .lss t x y t2, ty, pos, after, none⟩).run P w = .ok (.value (.bool (decide (a < c)))) w := by
  simp only [execOp, hx, hy, eqGuard, binOp, Op.intCmp, bind, pure, Sem.bind, ne_eq, not_true_eq_false, if_false]; rfl
 rw [this]; simp only [decide_eq_false h]
theorem Qmq {k : IntKind} {a c : Int} (hx : ev n e x = .int k a) (hy : ev n e y = .int k c) (h : a ≤ c) :
  (execOp (ev n e) ⟨dst, .binOp .leq t x y t2, ty, pos, after, none⟩).run P w = .ok (.value (.bool true)) w := by
 have : (execOp (ev n e) ⟨dst, .binOp .leq t x y t2, ty, pos, after, none⟩).run P w = .ok (.value (.bool (decide (a ≤ c)))) w := by
  simp only [execOp, hx, hy, eqGuard, binOp, Op.intCmp, bind, pure, Sem.bind, ne_eq, not_true_eq_false, if_false]; rfl
 rw [this]; simp only [decide_eq_true h]
theorem QoD {k : IntKind} {a c : Int} (hx : ev n e x = .int k a) (hy : ev n e y = .int k c) (h : ¬ (a ≤ c)) :
  (execOp (ev n e) ⟨dst, .binOp .leq t x y t2, ty, pos, after, none⟩).run P w = .ok (.value (.bool false)) w := by
 have : (execOp (ev n e) ⟨dst, .binOp .leq t x y t2, ty, pos, after, none⟩).run P w = .ok (.value (.bool (decide (a ≤ c)))) w := by
  simp only [execOp, hx, hy, eqGuard, binOp, Op.intCmp, bind, pure, Sem.bind, ne_eq, not_true_eq_false, if_false]; rfl
 rw [this]; simp only [decide_eq_false h]
theorem Qhr {k : IntKind} {a c : Int} (hx : ev n e x = .int k a) (hy : ev n e y = .int k c) (h : a > c) :
  (execOp (ev n e) ⟨dst, .binOp .gtr t x y t2, ty, pos, after, none⟩).run P w = .ok (.value (.bool true)) w := by
 have : (execOp (ev n e) ⟨dst, .binOp .gtr t x y t2, ty, pos, after, none⟩).run P w = .ok (.value (.bool (decide (a > c)))) w := by
  simp only [execOp, hx, hy, eqGuard, binOp, Op.intCmp, bind, pure, Sem.bind, ne_eq, not_true_eq_false, if_false]; rfl
 rw [this]; simp only [decide_eq_true h]
theorem QiX {k : IntKind} {a c : Int} (hx : ev n e x = .int k a) (hy : ev n e y = .int k c) (h : ¬ (a > c)) :
  (execOp (ev n e) ⟨dst, .binOp .gtr t x y t2, ty, pos, after, none⟩).run P w = .ok (.value (.bool false)) w := by
 have : (execOp (ev n e) ⟨dst, .binOp .gtr t x y t2, ty, pos, after, none⟩).run P w = .ok (.value (.bool (decide (a > c)))) w := by
  simp only [execOp, hx, hy, eqGuard, binOp, Op.intCmp, bind, pure, Sem.bind, ne_eq, not_true_eq_false, if_false]; rfl
 rw [this]; simp only [decide_eq_false h]
theorem Qhs {k : IntKind} {a c : Int} (hx : ev n e x = .int k a) (hy : ev n e y = .int k c) (h : a ≥ c) :
  (execOp (ev n e) ⟨dst, .binOp .geq t x y t2, ty, pos, after, none⟩).run P w = .ok (.value (.bool true)) w := by
 have : (execOp (ev n e) ⟨dst, .binOp .geq t x y t2, ty, pos, after, none⟩).run P w = .ok (.value (.bool (decide (a ≥ c)))) w := by
  simp only [execOp, hx, hy, eqGuard, binOp, Op.intCmp, bind, pure, Sem.bind, ne_eq, not_true_eq_false, if_false]; rfl
 rw [this]; simp only [decide_eq_true h]
theorem QiY {k : IntKind} {a c : Int} (hx : ev n e x = .int k a) (hy : ev n e y = .int k c) (h : ¬ (a ≥ c)) :
  (execOp (ev n e) ⟨dst, .binOp .geq t x y t2, ty, pos, after, none⟩).run P w = .ok (.value (.bool false)) w := by
 have : (execOp (ev n e) ⟨dst, .binOp .geq t x y t2, ty, pos, after, none⟩).run P w = .ok (.value (.bool (decide (a ≥ c)))) w := by
  simp only [execOp, hx, hy, eqGuard, binOp, Op.intCmp, bind, pure, Sem.bind, ne_eq, not_true_eq_false, if_false]; rfl
 rw [this]; simp only [decide_eq_false h]
theorem QeH {k : IntKind} {a c : Int} (hx : ev n e x = .int k a) (hy : ev n e y = .int k c) (h : a = c) :
  (execOp (ev n e) ⟨dst, .binOp .eql t x y t2, ty, pos, after, none⟩).run P w = .ok (.value (.bool true)) w := Qbm hx (by rw [h]; exact hy)
theorem Qmn {k : IntKind} {a c : Int} (hx : ev n e x = .int k a) (hy : ev n e y = .int k c) (h : a = c) :
  (execOp (ev n e) ⟨dst, .binOp .neq t x y t2, ty, pos, after, none⟩).run P w = .ok (.value (.bool false)) w := QdE hx (by rw [h]; exact hy)
def QhQ (P : Program) (t : TypeId) : Option TypeId := match P.underlying t with | some (.pointer el) => some el | _ => none
theorem Qvq {el : TypeId} (h : QhQ P t = some el) : P.underlying t = some (.pointer el) := by
 unfold QhQ at h; split at h
 ·rename_i h'; cases h; exact h'
 ·cases h
theorem Qfd {el : TypeId} {q : Option Addr} (hT : QhQ P t = some el) : (Op.equal t (.pointer q) (.pointer none)).run P w = .ok q.isNone w := by
 have h1 := run_underlying (Qvq hT) w
 unfold Op.equal Op.maxDepth
 rw [show (10000 : Nat) = 9999 + 1 from rfl, Op.equalIn]
 simp only [bind, pure]
 rw [Sem.run_bind', h1]
 cases q <;> rfl
theorem Qhv {el : TypeId} {q : Option Addr} (hx : ev n e x = .pointer q) (hy : ev n e y = .pointer none) (hT : QhQ P t = some el) :
  (execOp (ev n e) ⟨dst, .binOp .eql t x y t2, ty, pos, after, none⟩).run P w = .ok (.value (.bool q.isNone)) w := by
 have h1 := Qfd (w := w) (q := q) hT
 have h2 : (execOp (ev n e) ⟨dst, .binOp .eql t x y t2, ty, pos, after, none⟩) = (Op.equal t (.pointer q) (.pointer none)).bind fun r => .pure (.value (.bool r)) := by
  simp only [execOp, hx, hy, eqGuard, binOp]
  simp only [bind, pure, Bool.not_true, Bool.false_eq_true, if_false, Sem.bind]
  exact (Sem.bind_assoc' _ _ _)
 rw [h2, Sem.run_bind', h1]
 rfl
theorem Qhu {el : TypeId} (hx : ev n e x = .pointer none) (hy : ev n e y = .pointer none) (hT : QhQ P t = some el) :
  (execOp (ev n e) ⟨dst, .binOp .eql t x y t2, ty, pos, after, none⟩).run P w = .ok (.value (.bool true)) w := Qhv hx hy hT
theorem Qir {el : TypeId} {a : Addr} (hx : ev n e x = .pointer (some a)) (hy : ev n e y = .pointer none) (hT : QhQ P t = some el) :
  (execOp (ev n e) ⟨dst, .binOp .eql t x y t2, ty, pos, after, none⟩).run P w = .ok (.value (.bool false)) w := Qhv hx hy hT
theorem QaP {a : Addr} (hx : ev n e x = .pointer (some a)) : (execOp (ev n e) ⟨dst, .nilCheck x, ty, pos, after, none⟩).run P w = .ok (.value (.pointer (some a))) w := by
 simp only [execOp, hx]; rfl
end
def QuC : List Value → Nat → List Value → List Value
 | l, _, [] => l
 | l, i, v :: r => QuC (l.set i v) (i + 1) r
theorem QlI (off : Nat) : ∀ (r : List Value) (k : Nat) (l : List Value), ((r.zipIdx k).foldl (fun (cs : Array Value) (p : Value × Nat) => cs.setIfInBounds (off + p.2) p.1) l.toArray) = (QuC l (off + k) r).toArray
 | [], k, l => by simp [QuC]
 | v :: r, k, l => by
  rw [List.zipIdx_cons, List.foldl_cons]
  simp only [List.setIfInBounds_toArray]
  rw [QlI off r (k + 1) (l.set (off + k) v), QuC, Nat.add_assoc]
def QmT (place : Nat → Option (Nat × Nat)) : List Value → List (Nat × Value) → Option (List Value)
 | cells, [] => some cells
 | cells, (i, v) :: rest => match place i with
  | none => none
  | some (off, size) => bif !Nat.beq v.cells.toList.length size || !Nat.ble (off + v.cells.toList.length) cells.length then none else QmT place (QuC cells off v.cells.toList) rest
theorem QmS (place : Nat → Option (Nat × Nat)) : ∀ (pl : List (Nat × Value)) (cells : List Value) {r : List Value}, QmT place cells pl = some r → Instr.fill place cells.toArray pl = some r.toArray
 | [], cells, r, h => by simp only [QmT, Option.some.injEq] at h; subst h; rfl
 | (i, v) :: rest, cells, r, h => by
  unfold QmT at h
  unfold Instr.fill
  cases hp : place i with
  | none => rw [hp] at h; cases h
  | some q =>
   obtain ⟨off, size⟩ := q
   rw [hp] at h
   simp only at h ⊢
   cases hb : (!Nat.beq v.cells.toList.length size || !Nat.ble (off + v.cells.toList.length) cells.length) with
   | true => rw [hb] at h; cases h
   | false =>
    rw [hb] at h
    simp only [Bool.or_eq_false_iff, Bool.not_eq_false'] at hb
    have h1 : v.cells.size = size := by simpa using Nat.eq_of_beq_eq_true hb.1
    have h2 := Nat.le_of_ble_eq_true hb.2
    rw [if_neg (by simp at h2 ⊢; exact ⟨h1, h2⟩)]
    simp only [cond_false] at h
    have := QlI off v.cells.toList 0 cells
    rw [Nat.add_zero] at this
    have he : (v.cells.zipIdx.foldl (fun cs (p : Value × Nat) => cs.setIfInBounds (off + p.2) p.1) cells.toArray) = (QuC cells off v.cells.toList).toArray := by
     rw [← this, ← Array.foldl_toList, Array.toList_zipIdx]
    show Instr.fill place (v.cells.zipIdx.foldl (fun cs (p : Value × Nat) => cs.setIfInBounds (off + p.2) p.1) cells.toArray) rest = _
    rw [he]
    exact QmS place rest _ h
inductive QrW : List Value → Nat → List Value → List Value → Prop
 | z {l : List Value} : QrW l 0 [] l
 | t {u v : Value} {l l' vs : List Value} : QrW l 0 vs l' → QrW (u :: l) 0 (v :: vs) (v :: l')
 | s {u : Value} {l l' vs : List Value} {i : Nat} : QrW l i vs l' → QrW (u :: l) (i + 1) vs (u :: l')
theorem QrW.eq {l l' vs : List Value} {i : Nat} (h : QrW l i vs l') : l' = l.take i ++ vs ++ l.drop (i + vs.length) ∧ i + vs.length ≤ l.length := by
 induction h with
 | z => simp
 | t _ ih => obtain ⟨h1, h2⟩ := ih; rw [h1]; simp at h2 ⊢; exact h2
 | s _ ih => obtain ⟨h1, h2⟩ := ih; rw [h1]; simp [show ∀ a b : Nat, a + 1 + b = (a + b) + 1 by omega]; omega
section
variable {P : Program} {n : Nat} {e : Env} {w : World} {Q : Exit → Act → World → Prop} {ops : Array Oper} {rest : List Oper} {ty : TypeId} {pos : String} {after : Array Edge} {d : Nat}
variable {M : List Nat} {w0 : World} {H H' : List (Nat × Obj)} {F : List (World → Prop)} {b o : Nat} {x y : Operand} {v : Value} {dst : Option Nat} {t t2 : TypeId}
inductive Qm6 (n : Nat) (e : Env) : List (Nat × Operand) → List (Nat × Value) → Prop
 | nil : Qm6 n e [] []
 | cons {i : Nat} {x : Operand} {v : Value} {ps : List (Nat × Operand)} {pl : List (Nat × Value)} (h : ev n e x = v) : Qm6 n e ps pl → Qm6 n e ((i, x) :: ps) ((i, v) :: pl)
theorem Qm6.eq {n : Nat} {e : Env} {ps : List (Nat × Operand)} {pl : List (Nat × Value)} (h : Qm6 n e ps pl) : (ps.map fun p => (p.1, ev n e p.2)) = pl := by
 induction h with
 | nil => rfl
 | cons h _ ih => simp only [List.map_cons, ih, h]
def Qf1 (P : Program) : List Field → Option (List (Nat × Nat))
 | [] => some []
 | f :: r => match QaD P f.type with
  | none => none
  | some s => match Qf1 P r with
   | none => none
   | some l => some ((f.offset, s) :: l)
theorem QiS : ∀ {fs : List Field} {l : List (Nat × Nat)}, Qf1 P fs = some l → (fs.mapM (m := Sem) fun f => do pure (f.offset, ← sizeOf f.type)).run P w = .ok l w
 | [], l, h => by simp only [Qf1, Option.some.injEq] at h; subst h; rfl
 | f :: r, l, h => by
  unfold Qf1 at h
  cases hc : QaD P f.type with
  | none => rw [hc] at h; cases h
  | some s =>
   rw [hc] at h
   simp only at h
   cases hr : Qf1 P r with
   | none => rw [hr] at h; cases h
   | some l' =>
    rw [hr] at h
    simp only [Option.some.injEq] at h
    subst h
    have h1 := Qac (w := w) hc
    have h2 := QiS hr
    rw [List.mapM_cons]
    simp only [bind, pure] at h2 ⊢
    rw [Sem.run_bind', Sem.run_bind', h1]
    simp only [Result.andThen_ok, Sem.run]
    rw [Sem.run_bind', h2]
    rfl
def Qtt (P : Program) (t : TypeId) (pl : List (Nat × Value)) : Option (List Value) := match P.underlying t with
 | some (.struct fs) => match QjB P t, Qf1 P fs.toList with
  | some z, some l => QmT (fun i => l[i]?) z.cells.toList pl
  | _, _ => none
 | _ => none
theorem QN {parts : List (Nat × Operand)} {pl : List (Nat × Value)} {cells : List Value} (hp : Qm6 n e parts pl) (h : Qtt P t pl = some cells) :
  (execOp (ev n e) ⟨dst, .build t parts.toArray, ty, pos, after, none⟩).run P w = .ok (.value (.agg cells.toArray)) w := by
 rw [← hp.eq] at h
 unfold Qtt at h
 split at h
 ·rename_i fs hu
  split at h
  ·rename_i z l hz hl
   have h1 := Qho (w := w) hz
   have h2 := run_underlying hu w
   have h3 := QiS (w := w) hl
   have h4 := QmS _ _ _ h
   simp only [execOp, Instr.build, bind, pure, List.map_toArray]
   rw [Sem.run_bind', Sem.run_bind', h1]
   simp only [Result.andThen_ok]
   rw [Sem.run_bind', h2]
   simp only [Result.andThen_ok]
   rw [Sem.run_bind']
   have h5 : (fs.mapM (m := Sem) fun f => (sizeOf f.type).bind fun a => .pure (f.offset, a)).run P w = .ok l.toArray w := by
    simp only [bind, pure] at h3
    rw [Array.mapM_eq_mapM_toList]
    show (Sem.bind _ _).run P w = _
    simp only [Functor.map, Sem.bind]
    rw [Sem.run_bind', h3]
    rfl
   rw [h5]
   simp only [Result.andThen_ok, Array.toArray_toList, List.getElem?_toArray] at h4 ⊢
   rw [h4]
   rfl
  ·cases h
 ·cases h
def Qvo (P : Program) (t : TypeId) (len : Nat) (pl : List (Nat × Value)) : Option (TypeId × List Value) := match QC P t with
 | some el => match QaD P el, QjB P el with
  | some sz, some z => bif Nat.ble (len * sz) 64 && Nat.blt 0 (len * sz) && Nat.blt 0 z.cells.toList.length then (QmT (fun i => some (i * sz, sz)) ((List.range (len * sz)).map fun j => z.cells.toList.getD (j % z.cells.toList.length) undef) pl).map (fun l => (el, l)) else none
  | _, _ => none
 | none => none
theorem QaK {len : Nat} {parts : List (Nat × Operand)} {pl : List (Nat × Value)} {el : TypeId} {cells : List Value} (hS : St M w0 H F w) (hp : Qm6 n e parts pl) (h : Qvo P t len pl = some (el, cells)) (hd : Nat.blt d n = true)
  (hk : ∀ b w', St M w0 ((b, .cells cells.toArray el) :: H) F w' → Lst P Q ops rest n ((d, .slice (some ⟨b, 0, none⟩) len len) :: e) w') :
  Lst P Q ops (⟨some d, .buildSlice t len parts.toArray, ty, pos, after, none⟩ :: rest) n e w := by
 refine Qa (v := .slice (some ⟨w.heap.size, 0, none⟩) len len) (w' := w.alloc (.cells cells.toArray el)) ?_ hd (hk _ _ (hS.alloc _))
 rw [← hp.eq] at h
 unfold Qvo at h
 split at h
 ·rename_i el' hT
  split at h
  ·rename_i sz z hs hz
   cases hb : (Nat.ble (len * sz) 64 && Nat.blt 0 (len * sz) && Nat.blt 0 z.cells.toList.length) with
   | false => rw [hb] at h; cases h
   | true =>
    rw [hb] at h
    simp only [cond_true] at h
    cases hf : QmT (fun i => some (i * sz, sz)) ((List.range (len * sz)).map fun j => z.cells.toList.getD (j % z.cells.toList.length) undef) (parts.map fun p => (p.1, ev n e p.2)) with
    | none => rw [hf] at h; cases h
    | some l =>
     rw [hf] at h
     simp only [Option.map_some, Option.some.injEq, Prod.mk.injEq] at h
     obtain ⟨rfl, rfl⟩ := h
     have h1 := run_underlying (Qar hT) w
     have h2 := Qac (w := w) hs
     have h3 := Qho (w := w) hz
     have h4 := QmS _ _ _ hf
     simp only [Bool.and_eq_true] at hb
     have hle := Nat.le_of_ble_eq_true hb.1.1
     have hpos : 0 < len * sz := by simpa [Nat.blt_eq] using hb.1.2
     have hzp : 0 < z.cells.size := by simpa [Nat.blt_eq] using hb.2
     simp only [execOp, Instr.buildSlice, bind, pure, List.map_toArray]
     rw [Sem.run_bind', Sem.run_bind', h1]
     simp only [Result.andThen_ok]
     rw [Sem.run_bind', h2]
     have hn : ¬ len * sz > 2 ^ 24 := by omega
     have h0 : ¬ len * sz = 0 := by omega
     simp only [Result.andThen_ok, if_neg hn, if_neg h0, Sem.bind]
     rw [Sem.run_bind', h3]
     have h6 : ((Array.range (len * sz)).map (fun x => z.cells[x % z.cells.size]!)) = ((List.range (len * sz)).map fun j => z.cells.toList.getD (j % z.cells.toList.length) undef).toArray := by
      rw [← List.toArray_range, List.map_toArray]
      congr 1
      apply List.map_congr_left
      intro j hj
      have hj2 : j % z.cells.size < z.cells.size := Nat.mod_lt _ hzp
      simp [hj2]
     simp only [Result.andThen_ok, h6]
     rw [h4]
     rfl
  ·cases h
 ·cases h
theorem Qed {vs cs cs' : List Value} {ct : TypeId} (hS : St M w0 H F w) (ha : ev n e x = .pointer (some ⟨b, o, none⟩)) (hy : ev n e y = .agg vs.toArray) (hs : QaD P t = some vs.length) (h1 : vs.all (·.oneCell') = true)
  (hat : At H b (.cells cs.toArray ct)) (hp : QrW cs o vs cs') (hu : Upd H b (.cells cs.toArray ct) (.cells cs'.toArray ct) H')
  (h : ∀ w', St M w0 H' F w' → Lst P Q ops rest n e w') : Lst P Q ops (⟨none, .store t x y, ty, pos, after, none⟩ :: rest) n e w := by
 have hb := hS.at_ hu.at_
 obtain ⟨hq1, hq2⟩ := hp.eq
 have hst := run_storeCells_at (P := P) b o ct vs 0 cs.toArray w hb (by simpa using hq2) (fun v hv => List.all_eq_true.1 h1 v hv)
 have h2 := Qac (w := w) hs
 simp only [Nat.add_zero] at hst
 rw [← hq1] at hst
 refine Qln (w' := w.setRow b cs'.toArray) ?_ (h _ (hS.turn hu ?_ (setRow_heap w b _ _ _ _ hb)))
 ·simp only [execOp, ha, hy, Instr.storeAt, Instr.sureAddr, storeVar, bind, pure, Sem.bind]
  rw [Sem.run_bind', Sem.run_bind', h2]
  simp only [Result.andThen_ok, Value.cells, List.size_toArray, ne_eq, not_true_eq_false, if_false, Sem.bind]
  rw [hst]
  rfl
 ·exact ⟨rfl, rfl, rfl, by simp [World.setRow], fun k _ hk => by
   have : k ≠ b := by simpa using hk
   simp [World.setRow, Array.getElem?_modify, Ne.symm this]⟩
end
section
variable {P : Program} {ops : Array Oper} {Q : Exit → Act → World → Prop} {md : Region.Mode} {S : World → Prop} {n : Nat}
def Qmc (P : Program) (md : Region.Mode) (ops : Array Oper) (Q : Exit → Act → World → Prop) (S : World → Prop) (n : Nat) : Nat → Array Bool → Act → World → Prop
 | 0, listed, a, w => Region.ready md ops listed = [] ∧ Q .normal a w
 | fuel + 1, listed, a, w =>
  (Region.ready md ops listed = [] → Q .normal a w) ∧
  ∀ i ∈ Region.ready md ops listed, wpOp P ops Q i (fun a' w' => (i < n → S w') ∧ Qmc P md ops Q S n fuel (listed.setIfInBounds i true) a' w') a w
theorem Qdw : ∀ (fuel : Nat) (listed : Array Bool) (a : Act) (w : World), Qmc P md ops Q S n fuel listed a w → wpAny P md ops Q fuel listed a w
 | 0, _, _, _, h => h
 | fuel + 1, _, _, _, h => ⟨h.1, fun i hi => wpOp_mono (fun a' w' h' => Qdw fuel _ a' w' h'.2) (h.2 i hi)⟩
theorem Qg4 {i : Nat} {oi : Oper} {v : Value} (hi : ops[i]? = some oi) (hsel : ∀ (j : Nat) (o : Oper) cs b, ops[j]? = some o → o.op ≠ .select cs b)
  (hQ : ∀ c a w, Q (.panic c) (a.put oi.dst v) w → Q (.panic c) a w) (hwait : n < ops.size → Region.sinkB md ops n = true ∧ Region.chainB md ops n = true) (hin : i < n) :
  ∀ (fuel : Nat) (listed : Array Bool) (a : Act) (w : World), HeadInv md ops n listed →
   (∀ j oj, ops[j]? = some oj → j ≠ i → listed.getD j true = false → (∀ e ∈ oj.after, Region.binds md e = true → e.on ≠ i) → oi.apart ops oj = true) →
   i ∈ Region.ready md ops listed → YieldsIf P ops S oi v a → S w →
   Qmc P md ops Q S n fuel (listed.setIfInBounds i true) (a.put oi.dst v) w → Qmc P md ops Q S n (fuel + 1) listed a w := by
 intro fuel
 induction fuel with
 | zero =>
  intro listed a w _ _ hr hy hS H
  refine ⟨fun h => (by rw [h] at hr; cases hr), fun j hj => ?_⟩
  by_cases hji : j = i
  ·subst hji; exact hy.wpOp hi hS ⟨fun _ => hS, H⟩
  ·have := ready_mono hj hji
   rw [H.1] at this
   cases this
 | succ fuel ih =>
  intro listed a w hcl hfree hr hy hS H
  refine ⟨fun h => (by rw [h] at hr; cases hr), fun j hj => ?_⟩
  by_cases hji : j = i
  ·subst hji; exact hy.wpOp hi hS ⟨fun _ => hS, H⟩
  ·have h1 := H.2 j (ready_mono hj hji)
   obtain ⟨hjun, oj, hoj, hall⟩ := mem_ready.1 hj
   have h0 := (mem_ready.1 hr).1
   have hjn : j < n := by
    rcases Nat.lt_or_ge j n with h | h
    ·exact h
    ·have hjs : j < ops.size := (Array.getElem?_eq_some_iff.1 hoj).1
     obtain ⟨hs, hc⟩ := hwait Ya
     exact absurd hj (tail_waits hs hc Ya hcl _ i rfl hin h0 j h)
   have hnot : ∀ e ∈ oj.after, Region.binds md e = true → e.on ≠ i := fun e he hb heq => by
    have h1 := hall e he hb
    rw [heq, getD_both h0] at h1
    cases h1
   have h2 := wpOp_putIf hoj (hfree j oj hoj hji hjun hnot) (fun cs b => hsel i oi cs b hi) (fun cs b => hsel j oj cs b hoj) hQ hy h1
   have hfree' : ∀ k ok, ops[k]? = some ok → k ≠ i → (listed.setIfInBounds j true).getD k true = false →
     (∀ e ∈ ok.after, Region.binds md e = true → e.on ≠ i) → oi.apart ops ok = true := fun k ok hk hki hun hno => by
    refine hfree k ok hk hki ?_ hno
    by_cases hjk : j = k
    ·subst hjk; exact hjun
    ·rw [getD_set_ne true hjk] at hun; exact hun
   refine wpOp_mono (fun a' w' h3 => ⟨fun _ => h3.2.1 hjn, ih (listed.setIfInBounds j true) a' w' (hcl.set hj hjn) hfree' (ready_mono hr (Ne.symm hji)) h3.1 (h3.2.1 hjn) ?_⟩) h2
   rw [Array.setIfInBounds_comm _ _ hji]
   exact h3.2.2
def Qop (P : Program) (ops : Array Oper) (Q : Exit → Act → World → Prop) (S : World → Prop) (tail : List Oper) : List (Nat × Bool) → Act → World → Prop
 | [], a, w => wpList P ops Q tail a w
 | (i, true) :: r, a, w => ∃ o v, ops[i]? = some o ∧ YieldsIf P ops S o v a ∧ (∀ c a w, Q (.panic c) (a.put o.dst v) w → Q (.panic c) a w) ∧ Qop P ops Q S tail r (a.put o.dst v) w
 | (i, false) :: r, a, w => ∃ o, ops[i]? = some o ∧ wpList P ops (Exit.then (fun a' w' => S w' ∧ Qop P ops Q S tail r a' w') Q) [o] a w
def Qti (md : Region.Mode) (ops : Array Oper) (n : Nat) : List (Nat × Bool) → Array Bool → Bool
 | [], listed => Region.seqB md ops (ops.size - n) n listed
 | (i, true) :: r, listed => (Region.ready md ops listed).contains i && Region.free md ops listed i && decide (i < n) && Qti md ops n r (listed.setIfInBounds i true)
 | (i, false) :: r, listed => decide (Region.ready md ops listed = [i]) && decide (i < n) && Qti md ops n r (listed.setIfInBounds i true)
theorem Qdu : ∀ (l : List Oper) (k : Nat) (listed : Array Bool) (a : Act) (w : World), n ≤ k → (∀ j, l[j]? = ops[k + j]?) →
  Region.seqB md ops l.length k listed = true → wpList P ops Q l a w → Qmc P md ops Q S n l.length listed a w
 | [], _, _, _, _, _, _, hB, h => ⟨by simpa [Region.seqB] using hB, h⟩
 | o :: l, k, listed, a, w, hk, hl, hB, h => by
  have h0 : ops[k]? = some o := by simpa using (hl 0).symm
  simp only [List.length_cons, Region.seqB, Bool.and_eq_true, decide_eq_true_eq] at hB
  refine ⟨fun h1 => (by rw [hB.1] at h1; cases h1), fun i hi => ?_⟩
  rw [hB.1] at hi
  have hik : i = k := by simpa using hi
  subst hik
  have hw : wpOp P ops Q i (wpList P ops Q l) a w := by unfold wpOp; simp only [h0]; exact h
  exact wpOp_mono (fun a' w' h' => ⟨fun h2 => absurd h2 Ya, Qdu l (i + 1) _ a' w' Ya (fun j => by have := hl (j + 1); simpa [Nat.add_assoc, Nat.add_comm 1 j] using this) hB.2 h'⟩) hw
theorem Qgg {i : Nat} {o : Oper} {K : Act → World → Prop} {a : Act} {w : World} (ho : ops[i]? = some o) (h : wpList P ops (Exit.then K Q) [o] a w) : wpOp P ops Q i K a w := by
 unfold wpOp
 simp only [ho]
 unfold wpList at h
 split
 ·rename_i hw
  rw [if_pos hw] at h
  rcases h with h | ⟨h1, a0, w0, h2⟩
  ·left
   unfold Oper.wp at *
   generalize (execOp a.eval o).run P w = r at *
   cases r with
   | ok nx w' =>
    cases nx <;> simp only [Oper.upon] at h ⊢
    case value u => exact h
    case skip => exact h
    case defer d => exact h
    case enter f args =>
     refine Calls.mono h fun e w'' he => ?_
     cases e with
     | returned u => exact he
     | panicked c => exact he
     | outgrown => obtain ⟨a0, w0, h2⟩ := he; exact ⟨a0, w0, h2⟩
    case row row args => exact Rows.mono h fun u w'' he => he
   | halt x w' =>
    cases x <;> simp only [Oper.upon] at h ⊢
    case panic u => exact h
  ·exact .inr ⟨h1, a0, w0, h2⟩
 ·rename_i hw
  rw [if_neg hw] at h
  exact h
theorem Qdv (hsel : Region.noSelect ops = true) (tail : List Oper) (htl : ∀ j, tail[j]? = ops[n + j]?) (htn : tail.length = ops.size - n) (hwait : n < ops.size → Region.sinkB md ops n = true ∧ Region.chainB md ops n = true) : ∀ (ord : List (Nat × Bool)) (listed : Array Bool) (a : Act) (w : World), HeadInv md ops n listed → S w →
  Qti md ops n ord listed = true → Qop P ops Q S tail ord a w → Qmc P md ops Q S n (ord.length + tail.length) listed a w
 | [], listed, a, w, _, _, hB, h => by
  simp only [Qti] at hB
  rw [List.length_nil, Nat.zero_add]
  exact Qdu tail n listed a w (Nat.le_refl _) htl (by rw [htn]; exact hB) h
 | (i, true) :: r, listed, a, w, hcl, hS, hB, h => by
  simp only [Qti, Bool.and_eq_true, decide_eq_true_eq] at hB
  obtain ⟨⟨⟨hr, hf⟩, hin⟩, hB'⟩ := hB
  obtain ⟨o, v, ho, hy, hQ, h'⟩ := h
  have hr' : i ∈ Region.ready md ops listed := by simpa using hr
  rw [List.length_cons, show r.length + 1 + tail.length = (r.length + tail.length) + 1 by omega]
  exact Qg4 ho (Region.noSelect_spec hsel) hQ hwait hin _ listed a w hcl (Region.free_spec ho hf) hr' hy hS
   (Qdv hsel tail htl htn hwait r _ _ _ (hcl.set hr' hin) hS hB' h')
 | (i, false) :: r, listed, a, w, hcl, hS, hB, h => by
  simp only [Qti, Bool.and_eq_true, decide_eq_true_eq] at hB
  obtain ⟨⟨hr, hin⟩, hB'⟩ := hB
  obtain ⟨o, ho, h'⟩ := h
  have hri : i ∈ Region.ready md ops listed := by rw [hr]; simp
  rw [List.length_cons, show r.length + 1 + tail.length = (r.length + tail.length) + 1 by omega]
  refine ⟨fun h1 => (by rw [h1] at hri; cases hri), fun j hj => ?_⟩
  rw [hr] at hj
  have hji : j = i := by simpa using hj
  subst hji
  exact wpOp_mono (fun a' w' h3 => ⟨fun _ => h3.1, Qdv hsel tail htl htn hwait r _ _ _ (hcl.set hri hin) h3.1 hB' h3.2⟩) (Qgg ho h')
theorem QjE {id : Nat} {a : Act} {w : World} {l : List Oper} (S : World → Prop) (n : Nat) (ord : List (Nat × Bool)) (hm : P.follows .mixedOrders = true)
  (hB : (Region.noSelect l.toArray && decide (ord.length = n) && decide (n ≤ l.length) && (decide (n = l.length) || (Region.sinkB .any l.toArray n && Region.chainB .any l.toArray n)) && Qti .any l.toArray n ord (Array.replicate l.toArray.size false)) = true) (hS : S w.drew)
  (h : Qop P l.toArray Q S (l.drop n) ord a w.drew) : (Code.region id l.toArray true).wp P Q a w := by
 simp only [Bool.and_eq_true, decide_eq_true_eq] at hB
 obtain ⟨⟨⟨⟨hsel, hlen⟩, hle⟩, hwt⟩, hB⟩ := hB
 have hcl : HeadInv .any l.toArray n (Array.replicate l.toArray.size false) :=
  ⟨by simp, fun j oj _ hl => (by rw [getD_replicate_false] at hl; cases hl), fun t _ ht => getD_in (by simpa using ht) (getD_replicate_false _ _)⟩
 have hwait : n < l.toArray.size → Region.sinkB .any l.toArray n = true ∧ Region.chainB .any l.toArray n = true := fun h => by
  simp only [Bool.or_eq_true, Bool.and_eq_true, decide_eq_true_eq] at hwt
  rcases hwt with e | e
  ·simp at h; omega
  ·exact e
 have hdl : (l.drop n).length = l.toArray.size - n := by simp
 have H := Qdv (md := .any) (n := n) hsel (l.drop n) (fun j => by simp [List.getElem?_drop]) hdl hwait ord _ a w.drew hcl hS hB h
 refine wp_region_any hm ?_
 have e : ord.length + (l.drop n).length = l.toArray.size := by rw [hdl, hlen]; simp; omega
 rw [e] at H
 exact Qdw _ _ _ _ H
end
section
variable {P : Program} {f : FuncId} {R : Ending → World → Prop} {k : List Item} {n : Nat} {e : Env} {w : World} {S : World → Prop} {ops : Array Oper} {tail : List Oper} {r : List (Nat × Bool)}
variable {ty : TypeId} {pos : String} {after : Array Edge} {d i : Nat}
def Ord (P : Program) (f : FuncId) (R : Ending → World → Prop) (k : List Item) (ops : Array Oper) (S : World → Prop) (tail : List Oper) (r : List (Nat × Bool)) (n : Nat) (e : Env) (w : World) : Prop :=
 Qop P ops (qk P f R k) S tail r (act n e) w
theorem QB {id : Nat} {l : List Oper} (S : World → Prop) (m : Nat) (ord : List (Nat × Bool)) (hm : P.follows .mixedOrders = true)
  (hB : (Region.noSelect l.toArray && decide (ord.length = m) && decide (m ≤ l.length) && (decide (m = l.length) || (Region.sinkB .any l.toArray m && Region.chainB .any l.toArray m)) && Qti .any l.toArray m ord (Array.replicate l.toArray.size false)) = true)
  (hS : S w.drew) (h : Ord P f R k l.toArray S (l.drop m) ord n e w.drew) : Qau P f R (.code (.region id l.toArray true) :: k) (act n e) w :=
 Qf9 (QjE S m ord hm hB hS h)
theorem Qd {op : Op} {v : Value} (ho : ops[i]? = some ⟨some d, op, ty, pos, after, none⟩) (hr : ∀ w', S w' → (execOp (ev n e) ⟨some d, op, ty, pos, after, none⟩).run P w' = .ok (.value v) w') (hd : Nat.blt d n = true)
  (h : Ord P f R k ops S tail r n ((d, v) :: e) w) : Ord P f R k ops S tail ((i, true) :: r) n e w := by
 refine ⟨_, v, ho, .inl ⟨by simp [Region.wanted], fun w' hw => by rw [Qcx]; exact hr w' hw⟩, fun c a w h => h.elim, ?_⟩
 rw [Qd4 hd]; exact h
theorem Qah {op : Op} {v : Value} {j : Nat} {g b : Bool} (ho : ops[i]? = some ⟨some d, op, ty, pos, after, some (j, g)⟩) (hy : yd ops n e j = some (.bool b)) (hb : b = g)
  (hr : ∀ w', S w' → (execOp (ev n e) ⟨some d, op, ty, pos, after, none⟩).run P w' = .ok (.value v) w') (hd : Nat.blt d n = true)
  (h : Ord P f R k ops S tail r n ((d, v) :: e) w) : Ord P f R k ops S tail ((i, true) :: r) n e w := by
 refine ⟨_, v, ho, .inl ⟨QiH hy hb, fun w' hw => by rw [Qcx]; exact hr w' hw⟩, fun c a w h => h.elim, ?_⟩
 rw [Qd4 hd]; exact h
theorem Qsp {op : Op} {j : Nat} {g b : Bool} (ho : ops[i]? = some ⟨some d, op, ty, pos, after, some (j, g)⟩) (hy : yd ops n e j = some (.bool b)) (hb : (!b) = g) (hd : Nat.blt d n = true)
  (h : Ord P f R k ops S tail r n ((d, undef) :: e) w) : Ord P f R k ops S tail ((i, true) :: r) n e w := by
 refine ⟨_, undef, ho, .inr ⟨QkE hy hb, rfl⟩, fun c a w h => h.elim, ?_⟩
 rw [Qd4 hd]; exact h
def qo (P : Program) (f : FuncId) (R : Ending → World → Prop) (k : List Item) (ops : Array Oper) (S : World → Prop) (tail : List Oper) (r : List (Nat × Bool)) : Exit → Act → World → Prop :=
 Exit.then (fun a' w' => S w' ∧ Qop P ops (qk P f R k) S tail r a' w') (qk P f R k)
theorem Qt9 {o : Oper} (ho : ops[i]? = some o) (h : Lst P (qo P f R k ops S tail r) ops [o] n e w) : Ord P f R k ops S tail ((i, false) :: r) n e w := by unfold Lst at h; exact ⟨o, ho, h⟩
theorem QaR (hS : S w) (h : Ord P f R k ops S tail r n e w) : Lst P (qo P f R k ops S tail r) ops [] n e w := by unfold Lst; exact ⟨hS, h⟩
theorem Qt8 (h : Lst P (qk P f R k) ops tail n e w) : Ord P f R k ops S tail [] n e w := by unfold Lst at h; exact h
end
attribute [irreducible] Ord
def has : List Nat → Nat → Bool
 | [], _ => false
 | i :: r, j => Nat.beq i j || has r j
def keep (S : List Nat) : Env → Env
 | [] => []
 | (i, v) :: e => bif has S i then keep S e else (i, v) :: keep S e
def QbC (jv : Nat → Value) : List Nat → Env
 | [] => []
 | i :: r => (i, jv i) :: QbC jv r
theorem QjZ {S : List Nat} {i : Nat} (h : has S i = false) : ∀ e : Env, lk (keep S e) i = lk e i
 | [] => rfl
 | (j, v) :: e => by
  unfold keep
  cases hj : has S j with
  | true =>
   have hne : Nat.beq j i = false := by
    cases hb : Nat.beq j i with
    | false => rfl
    | true => have := Nat.eq_of_beq_eq_true hb; subst this; rw [hj] at h; cases h
   simp only [cond_true, lk, hne, cond_false]
   exact QjZ h e
  | false =>
   simp only [cond_false, lk]
   rw [QjZ h e]
theorem QqN (jv : Nat → Value) (e : Env) (i : Nat) : ∀ J : List Nat, lk (QbC jv J ++ e) i = bif has J i then jv i else lk e i
 | [] => rfl
 | j :: J => by
  simp only [QbC, List.cons_append, lk, has]
  cases hb : Nat.beq j i with
  | true => have := Nat.eq_of_beq_eq_true hb; subst this; simp
  | false => simp only [cond_false, Bool.false_or]; exact QqN jv e i J
theorem QrJ {n : Nat} {e e' : Env} (h : ∀ i, lk e i = lk e' i) : act n e = act n e' := by
 unfold act arr
 rw [show lk e = lk e' from funext h]
theorem QaH {n : Nat} {S : List Nat} {e e0 : Env} (h : keep S e = keep S e0) : act n e = act n (QbC (lk e) S ++ e0) := by
 refine QrJ fun i => ?_
 rw [QqN]
 cases hi : has S i with
 | true => rfl
 | false => rw [cond_false, ← QjZ hi e, h, QjZ hi e0]
section
variable {P : Program} {f : FuncId} {R : Ending → World → Prop} {k : List Item} {n : Nat} {e : Env} {w : World} {c : Code} {α : Type}
theorem Qjn (J : List Nat) (I : α → World → Prop) (μ : α → Nat) (x : α) (h0 : I x w)
  (round : ∀ (x : α) (w : World) (jv : Nat → Value), I x w → (∀ (y : α) (e' : Env) (w' : World), μ y < μ x → I y w' → keep J e' = keep J e → Qau P f R (.inLoop c :: k) (act n e') w') →
   Qau P f R (.code c :: .inLoop c :: k) (act n (QbC jv J ++ e)) w) : Qau P f R (.code (.loop c) :: k) (act n e) w := by
 refine Qfu (fun x a w => I x w ∧ ∃ jv, a = act n (QbC jv J ++ e)) μ ⟨h0, lk e, QaH rfl⟩ ?_
 rintro x a w ⟨hI, jv, rfl⟩ ih
 exact round x w jv hI fun y e' w' hy hI' hk => ih y _ w' hy ⟨hI', lk e', QaH hk⟩
theorem Qo (s : Nat) (J : List Nat) (I : α → Value → World → Prop) (μ : α → Nat) (x : α) {v : Value} (h0 : I x v w) (hv : lk e s = v)
  (round : ∀ (x : α) (v : Value) (w : World) (jv : Nat → Value), I x v w → (∀ (y : α) (v' : Value) (e' : Env) (w' : World), μ y < μ x → I y v' w' → lk e' s = v' → keep (s :: J) e' = keep (s :: J) e → Qau P f R (.inLoop c :: k) (act n e') w') →
   Qau P f R (.code c :: .inLoop c :: k) (act n ((s, v) :: (QbC jv J ++ e))) w) : Qau P f R (.code (.loop c) :: k) (act n e) w := by
 refine Qfu (fun x a w => ∃ v, I x v w ∧ ∃ jv : Nat → Value, jv s = v ∧ a = act n (QbC jv (s :: J) ++ e)) μ ⟨v, h0, lk e, hv, QaH rfl⟩ ?_
 rintro x a w ⟨v, hI, jv, rfl, rfl⟩ ih
 exact round x _ w jv hI fun y v' e' w' hy hI' h1 hk => ih y _ w' hy ⟨v', hI', lk e', h1, QaH hk⟩
theorem QaB (s t : Nat) (J : List Nat) (I : α → Value → Value → World → Prop) (μ : α → Nat) (x : α) {v u : Value} (h0 : I x v u w) (hv : lk e s = v) (hu : lk e t = u)
  (round : ∀ (x : α) (v u : Value) (w : World) (jv : Nat → Value), I x v u w → (∀ (y : α) (v' u' : Value) (e' : Env) (w' : World), μ y < μ x → I y v' u' w' → lk e' s = v' → lk e' t = u' → keep (s :: t :: J) e' = keep (s :: t :: J) e → Qau P f R (.inLoop c :: k) (act n e') w') →
   Qau P f R (.code c :: .inLoop c :: k) (act n ((s, v) :: (t, u) :: (QbC jv J ++ e))) w) : Qau P f R (.code (.loop c) :: k) (act n e) w := by
 refine Qfu (fun x a w => ∃ v u, I x v u w ∧ ∃ jv : Nat → Value, jv s = v ∧ jv t = u ∧ a = act n (QbC jv (s :: t :: J) ++ e)) μ ⟨v, u, h0, lk e, hv, hu, QaH rfl⟩ ?_
 rintro x a w ⟨v, u, hI, jv, rfl, rfl, rfl⟩ ih
 exact round x _ _ w jv hI fun y v' u' e' w' hy hI' h1 h2 hk => ih y _ w' hy ⟨v', u', hI', lk e', h1, h2, QaH hk⟩
theorem Qjm (s t z : Nat) (J : List Nat) (I : α → Value → Value → Value → World → Prop) (μ : α → Nat) (x : α) {v u q : Value} (h0 : I x v u q w) (hv : lk e s = v) (hu : lk e t = u) (hq : lk e z = q)
  (round : ∀ (x : α) (v u q : Value) (w : World) (jv : Nat → Value), I x v u q w → (∀ (y : α) (v' u' q' : Value) (e' : Env) (w' : World), μ y < μ x → I y v' u' q' w' → lk e' s = v' → lk e' t = u' → lk e' z = q' → keep (s :: t :: z :: J) e' = keep (s :: t :: z :: J) e → Qau P f R (.inLoop c :: k) (act n e') w') →
   Qau P f R (.code c :: .inLoop c :: k) (act n ((s, v) :: (t, u) :: (z, q) :: (QbC jv J ++ e))) w) : Qau P f R (.code (.loop c) :: k) (act n e) w := by
 refine Qfu (fun x a w => ∃ v u q, I x v u q w ∧ ∃ jv : Nat → Value, jv s = v ∧ jv t = u ∧ jv z = q ∧ a = act n (QbC jv (s :: t :: z :: J) ++ e)) μ ⟨v, u, q, h0, lk e, hv, hu, hq, QaH rfl⟩ ?_
 rintro x a w ⟨v, u, q, hI, jv, rfl, rfl, rfl, rfl⟩ ih
 exact round x _ _ _ w jv hI fun y v' u' q' e' w' hy hI' h1 h2 h3 hk => ih y _ w' hy ⟨v', u', q', hI', lk e', h1, h2, h3, QaH hk⟩
variable {M : List Nat} {w0 : World} {H : List (Nat × Obj)} {F : List (World → Prop)}
theorem QlG {k todo : List Item} (J : List Nat) (Φ : World → Prop) (h : (∀ (e' : Env) (w' : World), Φ w' → keep J e' = keep J e → Qau P f R k (act n e') w') → Qau P f R todo (act n e) w)
  (h2 : ∀ (jv : Nat → Value) (w' : World), Φ w' → Qau P f R k (act n (QbC jv J ++ e)) w') : Qau P f R todo (act n e) w :=
 h fun e' w' hΦ hk => by rw [QaH hk]; exact h2 _ w' hΦ
theorem QeR {c1 : Item} (J : List Nat) (Φ : World → Prop)
  (h : (∀ (e' : Env) (w' : World), Φ w' → keep J e' = keep J e → Qau P f R k (act n e') w') → Qau P f R (c1 :: k) (act n e) w)
  (h2 : ∀ (jv : Nat → Value) (w' : World), Φ w' → Qau P f R k (act n (QbC jv J ++ e)) w') : Qau P f R (c1 :: k) (act n e) w := QlG J _ h h2
theorem QmQ {c1 c2 : Item} (J : List Nat) (Φ : World → Prop)
  (h : (∀ (e' : Env) (w' : World), Φ w' → keep J e' = keep J e → Qau P f R k (act n e') w') → Qau P f R (c1 :: c2 :: k) (act n e) w)
  (h2 : ∀ (jv : Nat → Value) (w' : World), Φ w' → Qau P f R k (act n (QbC jv J ++ e)) w') : Qau P f R (c1 :: c2 :: k) (act n e) w := QlG J _ h h2
end
abbrev Str := List UInt8
abbrev sv (l : Str) : Value := .string ⟨l.toArray⟩
theorem Qtd (s : ByteArray) : ∃ l : Str, s = ⟨l.toArray⟩ := ⟨s.data.toList, by cases s; simp⟩
theorem Qmj (l : Str) : ∀ (k i : Nat) (acc : List UInt8), k = l.length - i → ByteArray.toList.loop ⟨l.toArray⟩ i acc = acc.reverse ++ l.drop i := by
 intro k
 induction k with
 | zero =>
  intro i acc hk
  unfold ByteArray.toList.loop
  have : ¬ i < l.length := by omega
  simp only [ByteArray.size, List.size_toArray, this, if_false]
  rw [List.drop_eq_nil_of_le Ya]; simp
 | succ k ih =>
  intro i acc hk
  unfold ByteArray.toList.loop
  have hi : i < l.length := by omega
  simp only [ByteArray.size, List.size_toArray, hi, if_true]
  rw [ih (i + 1) _ Ya]
  rw [List.drop_eq_getElem_cons hi]
  simp [ByteArray.get!, hi]
theorem Qap (l : Str) : (⟨l.toArray⟩ : ByteArray).toList = l := by
 unfold ByteArray.toList
 rw [Qmj l _ 0 [] rfl]; simp
theorem Qbk (l : Str) : (⟨l.toArray⟩ : ByteArray).size = l.length := by simp [ByteArray.size]
theorem Qjq (l : Str) (i j : Nat) : (⟨l.toArray⟩ : ByteArray).extract i j = ⟨((l.take j).drop i).toArray⟩ := by
 apply ByteArray.ext
 rw [ByteArray.data_extract]
 simp [List.drop_take]
section
variable {P : Program} {n : Nat} {e : Env} {w : World} {ty : TypeId} {pos : String} {after : Array Edge} {x y : Operand} {dst : Option Nat} {t t2 : TypeId} {l m : Str}
theorem Qmr {ts : Array TypeId} (hx : ev n e x = sv l) (ht : ts[0]? = some t) (hT : QaF P t = true) :
  (execOp (ev n e) ⟨dst, .call ⟨.builtin .len, #[x], ts⟩, ty, pos, after, none⟩).run P w = .ok (.value (.int .i64 (l.length : Nat))) w := by
 rw [Qiq hx ht hT, Qbk]
theorem QjM {i : Int} {c : UInt8} (hx : ev n e x = sv l) (hy : ev n e y = .int .i64 i) (hT : QaF P t = true) (h0 : 0 ≤ i) (h1 : l[i.toNat]? = some c) :
  (execOp (ev n e) ⟨dst, .index t x y, ty, pos, after, none⟩).run P w = .ok (.value (.int .u8 c.toNat)) w := by
 have hl : i.toNat < l.length := by
  rcases Nat.lt_or_ge i.toNat l.length with h | h
  ·exact h
  ·rw [List.getElem?_eq_none h] at h1; cases h1
 rw [Qgz hx hy hT h0 (by rw [Qbk]; exact hl)]
 have : (⟨l.toArray⟩ : ByteArray)[i.toNat]'(by rw [Qbk]; exact hl) = c := by
  rw [List.getElem?_eq_getElem hl] at h1
  exact Option.some.inj h1
 rw [this]
theorem Qew {i : Int} (hx : ev n e x = sv l) (hy : ev n e y = .int .i64 i) (hT : QaF P t = true) (h0 : 0 ≤ i) (h1 : i.toNat ≤ l.length) :
  (execOp (ev n e) ⟨dst, .slice t x (some y) none none, ty, pos, after, none⟩).run P w = .ok (.value (sv (l.drop i.toNat))) w := by
 rw [QjK hx hy hT h0 (by rw [Qbk]; omega), Qjq, Qbk, List.take_length]
theorem Qgj {i : Int} (hx : ev n e x = sv l) (hy : ev n e y = .int .i64 i) (hT : QaF P t = true) (h0 : 0 ≤ i) (h1 : i.toNat ≤ l.length) :
  (execOp (ev n e) ⟨dst, .slice t x none (some y) none, ty, pos, after, none⟩).run P w = .ok (.value (sv (l.take i.toNat))) w := by
 rw [Qip hx hy hT h0 (by rw [Qbk]; omega), Qjq, List.drop_zero]
theorem Qmt (hx : ev n e x = sv l) (hy : ev n e y = sv m) :
  (execOp (ev n e) ⟨dst, .binOp .eql t x y t2, ty, pos, after, none⟩).run P w = .ok (.value (.bool (l == m))) w := by
 have : (execOp (ev n e) ⟨dst, .binOp .eql t x y t2, ty, pos, after, none⟩).run P w = .ok (.value (.bool ((⟨l.toArray⟩ : ByteArray).toList == (⟨m.toArray⟩ : ByteArray).toList))) w := by
  simp only [execOp, hx, hy]; rfl
 rw [this, Qap, Qap]
theorem Qhq (hx : ev n e x = sv l) (hy : ev n e y = sv m) :
  (execOp (ev n e) ⟨dst, .binOp .neq t x y t2, ty, pos, after, none⟩).run P w = .ok (.value (.bool (l != m))) w := by
 have : (execOp (ev n e) ⟨dst, .binOp .neq t x y t2, ty, pos, after, none⟩).run P w = .ok (.value (.bool (!((⟨l.toArray⟩ : ByteArray).toList == (⟨m.toArray⟩ : ByteArray).toList)))) w := by
  simp only [execOp, hx, hy]; rfl
 rw [this, Qap, Qap]; rfl
theorem QoG (hx : ev n e x = sv l) (hy : ev n e y = sv m) (hb : l.length + m.length ≤ 9223372036854775807) :
  (execOp (ev n e) ⟨dst, .binOp .add t x y t2, ty, pos, after, none⟩).run P w = .ok (.value (sv (l ++ m))) w := by
 have h1 : ¬ (((⟨l.toArray⟩ : ByteArray).size + (⟨m.toArray⟩ : ByteArray).size : Nat) : Int) > IntKind.i64.max := by
  rw [Qbk, Qbk]; simp [IntKind.max, IntKind.bits, IntKind.signed]; omega
 have h2 : (⟨l.toArray⟩ : ByteArray) ++ ⟨m.toArray⟩ = ⟨(l ++ m).toArray⟩ := by
  apply ByteArray.ext
  rw [ByteArray.data_append]
  simp
 simp only [execOp, hx, hy, eqGuard, binOp, Op.stringOp, bind, pure, Sem.bind, if_neg h1, h2]
 rfl
end
end Go.Proofs.YthliapbflkfdiacGreatDoor
