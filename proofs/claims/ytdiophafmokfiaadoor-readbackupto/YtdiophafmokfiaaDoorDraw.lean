/-
  A region that draws its order, in the calculus of Walk: what only reads is taken first, the rest in the order in which it must come. No program is named here.
-/
import Derived.Test.YtdiophafmokfiaaDoorMade
import Derived.Test.YtdiophafmokfiaaDoorMix
namespace Go.Proofs.YtdiophafmokfiaaDoor
open Go.RowKit
set_option linter.unusedSimpArgs false
set_option linter.unusedVariables false
section
variable {P : Program} {f : FuncId} {R : Ending → World → Prop} {k : List Item} {n : Nat} {e : Env} {w : World} {S : World → Prop} {ops : Array Oper} {tail : List Oper} {r : List (Nat × Bool)}
variable {ty : TypeId} {pos : String} {after : Array Edge} {d i : Nat}

def Ord (P : Program) (f : FuncId) (R : Ending → World → Prop) (k : List Item) (ops : Array Oper) (S : World → Prop) (tail : List Oper) (r : List (Nat × Bool)) (n : Nat) (e : Env) (w : World) : Prop :=
  wpOrd P ops (qk P f R k) S tail r (act n e) w
theorem goes_draw {id : Nat} {l : List Oper} (S : World → Prop) (m : Nat) (ord : List (Nat × Bool)) (hm : P.follows .mixedOrders = true)
    (hB : (Region.noSelect l.toArray && decide (ord.length = m) && decide (m ≤ l.length) && (decide (m = l.length) || (Region.sinkB .any l.toArray m && Region.chainB .any l.toArray m)) && ordB .any l.toArray m ord (Array.replicate l.toArray.size false)) = true)
    (hS : S w.drew) (h : Ord P f R k l.toArray S (l.drop m) ord n e w.drew) : Goes P f R (.code (.region id l.toArray true) :: k) (act n e) w :=
  goes_of_wp (wp_region_ord S m ord hm hB hS h)
theorem ord_read {op : Op} {v : Value} (ho : ops[i]? = some ⟨some d, op, ty, pos, after, none⟩) (hr : ∀ w', S w' → (execOp (ev n e) ⟨some d, op, ty, pos, after, none⟩).run P w' = .ok (.value v) w') (hd : Nat.blt d n = true)
    (h : Ord P f R k ops S tail r n ((d, v) :: e) w) : Ord P f R k ops S tail ((i, true) :: r) n e w := by
  refine ⟨_, v, ho, .inl ⟨by simp [Region.wanted], fun w' hw => by rw [act_eval]; exact hr w' hw⟩, fun c a w h => h.elim, ?_⟩
  rw [act_put hd]; exact h
theorem ord_readG {op : Op} {v : Value} {j : Nat} {g b : Bool} (ho : ops[i]? = some ⟨some d, op, ty, pos, after, some (j, g)⟩) (hy : yd ops n e j = some (.bool b)) (hb : b = g)
    (hr : ∀ w', S w' → (execOp (ev n e) ⟨some d, op, ty, pos, after, none⟩).run P w' = .ok (.value v) w') (hd : Nat.blt d n = true)
    (h : Ord P f R k ops S tail r n ((d, v) :: e) w) : Ord P f R k ops S tail ((i, true) :: r) n e w := by
  refine ⟨_, v, ho, .inl ⟨wanted_yes hy hb, fun w' hw => by rw [act_eval]; exact hr w' hw⟩, fun c a w h => h.elim, ?_⟩
  rw [act_put hd]; exact h
theorem ord_pass {op : Op} {j : Nat} {g b : Bool} (ho : ops[i]? = some ⟨some d, op, ty, pos, after, some (j, g)⟩) (hy : yd ops n e j = some (.bool b)) (hb : (!b) = g) (hd : Nat.blt d n = true)
    (h : Ord P f R k ops S tail r n ((d, undef) :: e) w) : Ord P f R k ops S tail ((i, true) :: r) n e w := by
  refine ⟨_, undef, ho, .inr ⟨wanted_no hy hb, rfl⟩, fun c a w h => h.elim, ?_⟩
  rw [act_put hd]; exact h
/-- What a single operation owes to the rest of the region. -/
def qo (P : Program) (f : FuncId) (R : Ending → World → Prop) (k : List Item) (ops : Array Oper) (S : World → Prop) (tail : List Oper) (r : List (Nat × Bool)) : Exit → Act → World → Prop :=
  Exit.then (fun a' w' => S w' ∧ wpOrd P ops (qk P f R k) S tail r a' w') (qk P f R k)
theorem ord_act {o : Oper} (ho : ops[i]? = some o) (h : Lst P (qo P f R k ops S tail r) ops [o] n e w) : Ord P f R k ops S tail ((i, false) :: r) n e w := by unfold Lst at h; exact ⟨o, ho, h⟩
theorem lst_ord (hS : S w) (h : Ord P f R k ops S tail r n e w) : Lst P (qo P f R k ops S tail r) ops [] n e w := by unfold Lst; exact ⟨hS, h⟩
theorem ord_end (h : Lst P (qk P f R k) ops tail n e w) : Ord P f R k ops S tail [] n e w := by unfold Lst at h; exact h
end
attribute [irreducible] Ord
end Go.Proofs.YtdiophafmokfiaaDoor
