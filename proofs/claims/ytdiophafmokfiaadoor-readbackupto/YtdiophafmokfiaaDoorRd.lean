/-
  Readings of terms, as facts that a call knows of its memory. No program is named here.
-/
import Derived.Test.YtdiophafmokfiaaDoorBase
import Derived.Test.YtdiophafmokfiaaDoorLoop
namespace Go.Proofs.YtdiophafmokfiaaDoor
open Go.RowKit
set_option linter.unusedVariables false
section
variable {M : List Nat} {w0 w w' : World} {H : List (Nat × Obj)} {F : List (World → Prop)} {v : Value} {T : Ts} {p : Nat → Prop}
/-- What reads so, reads so as long as only the blocks of M turn, none of which it takes. -/
theorem Sl.ext {N : List Nat} (h : Sl w p v T) (hx : Ext N w w') (hp : ∀ b, p b → b ∉ N) : Sl w' (fun _ => True) v T := (h.keep fun k hk hl => hx.block k hl (hp k hk)).any
theorem St.readBase (hS : St M w0 H F w) (h : Sl w0 p v T) (hp : ∀ b, p b → b ∉ M) : St M w0 H ((fun w => Sl w (fun _ => True) v T) :: F) w := hS.base fun w' hx => h.ext hx hp
theorem St.readBase0 (hS : St [] w0 H F w) (h : Sl w0 p v T) : St [] w0 H ((fun w => Sl w (fun _ => True) v T) :: F) w := hS.readBase h (by simp)
theorem St.keys_lt (hS : St M w0 H F w) {k : Nat} (hk : k ∈ H.map (·.1)) : k < w.heap.size := by
  obtain ⟨q, hq, rfl⟩ := List.mem_map.1 hk
  exact own_lt (hS.own q hq)
/-- What a call has made and handed back. -/
theorem St.readNew (hS : St M w0 H F w) (hb : Below w.heap.size w w') (h : Sl w' (fun b => w.heap.size ≤ b) v T) : St M w0 H ((fun w => Sl w (fun _ => True) v T) :: F) w' :=
  (hS.grow hb).learn fun w2 hx => h.ext hx fun b hb' hk => by have := hS.keys_lt hk; omega
end
end Go.Proofs.YtdiophafmokfiaaDoor
