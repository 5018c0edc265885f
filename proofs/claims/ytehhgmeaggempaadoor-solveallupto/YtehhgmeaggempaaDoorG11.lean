/- CTerm, MinMax: texts that follow one another, laid into one file. -/
import Derived.Test.YtehhgmeaggempaaDoorG10
import Derived.Test.YtehhgmeaggempaaDoorG3
import Derived.Test.YtehhgmeaggempaaDoorG0
namespace Go.Proofs.YtehhgmeaggempaaDoor
open Go.RowKit
set_option linter.unusedVariables false
set_option linter.unusedSimpArgs false
section
variable {M : List Nat} {w0 : World} {H : List (Nat × Obj)} {F : List (World → Prop)}
theorem ArA.all {A : Option Addr} {c : Nat} {T : TA} {w : World} (h : ArA A c T w) : AllR T w := by
 by_cases hl : 0 < T.len
 ·obtain ⟨b, o, e, hs⟩ := h.2 hl
  exact hs.cells.1
 ·cases T with
  | nil => trivial
  | cons => simp [TA.len] at hl
theorem St.freezeT {w : World} {O : List (Nat × Obj)} {el c : Nat} {A : Option Addr} {D : TA} (hr : Rw el 4 (.slice A D.len c) D.len (tcsL D) O) (hA : Und F (AllR D)) (hS : St M w0 (O ++ H) F w) :
  ∃ F', (∀ φ ∈ F, φ ∈ F') ∧ Und F' (ArA A c D) ∧ St M w0 H F' w := by
 have hS2 := St.freezeR hr hS
 refine ⟨_, fun φ h => .tail _ h, fun w' hw => ?_, hS2⟩
 have hf := hw _ (.head _)
 have ha := hA w' fun φ hφ => hw φ (.tail _ hφ)
 refine ⟨hf.2.1, fun hl => ?_⟩
 obtain ⟨b, o, e, hc⟩ := hf.2.2 hl
 exact ⟨b, o, e, segA_of ha fun j u hj => hc j u hj⟩
end
end Go.Proofs.YtehhgmeaggempaaDoor
namespace Go.Proofs.YtehhgmeaggempaaDoor
open Go.RowKit
set_option linter.unusedVariables false
set_option linter.unusedSimpArgs false
section
variable {P : Program} {n : Nat} {e : Env} {w : World} {ty : TypeId} {pos : String} {after : Array Edge} {dst : Option Nat} {x y : Operand} {t t2 : TypeId}
theorem run_max2 {a c m : Int} {ts : Array TypeId} (hx : ev n e x = .int .i64 a) (hy : ev n e y = .int .i64 c) (hm : m = if a < c then c else a) :
  (execOp (ev n e) ⟨dst, .call ⟨.builtin .max, #[x, y], ts⟩, ty, pos, after, none⟩).run P w = .ok (.value (.int .i64 m)) w := by
 subst hm
 simp only [execOp, resolve, List.map_toArray, List.map_cons, List.map_nil, hx, hy, bind, pure, Sem.bind, invoke, builtin, Builtin.max_, List.foldlM, Builtin.max2]
 by_cases h : a < c
 ·rw [if_pos h]; simp [h, Sem.run, Sem.bind]; try rfl
 ·rw [if_neg h]; simp [h, Sem.run, Sem.bind]; try rfl
theorem run_min2 {a c m : Int} {ts : Array TypeId} (hx : ev n e x = .int .i64 a) (hy : ev n e y = .int .i64 c) (hm : m = if c < a then c else a) :
  (execOp (ev n e) ⟨dst, .call ⟨.builtin .min, #[x, y], ts⟩, ty, pos, after, none⟩).run P w = .ok (.value (.int .i64 m)) w := by
 subst hm
 simp only [execOp, resolve, List.map_toArray, List.map_cons, List.map_nil, hx, hy, bind, pure, Sem.bind, invoke, builtin, Builtin.min_, List.foldlM, Builtin.min2]
 by_cases h : c < a
 ·rw [if_pos h]; simp [h, Sem.run, Sem.bind]; try rfl
 ·rw [if_neg h]; simp [h, Sem.run, Sem.bind]; try rfl
end
end Go.Proofs.YtehhgmeaggempaaDoor
