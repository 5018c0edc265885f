/-
  When two lists of terms are alike.
-/
import Derived.Test.YtjicoifjgokoiaaBase
namespace Go.Proofs.Ytjicoifjgokoiaa
open Go.RowKit

/-- Are two lists of terms alike? -/
def Ts.same : Ts → Ts → Bool
  | .nil, .nil => true
  | .cons k n s ar r, .cons k' n' s' ar' r' => decide (k = k') && decide (n = n') && decide (s = s') && ar.same ar' && r.same r'
  | _, _ => false
theorem Ts.same_iff (T : Ts) : ∀ U : Ts, T.same U = true ↔ T = U := by
  induction T with
  | nil => intro U; cases U <;> simp [same]
  | cons k n s ar r iha ihr =>
    intro U
    cases U with
    | nil => simp [same]
    | cons k' n' s' ar' r' => simp [same, iha, ihr, and_assoc]
/-- Are two terms alike? -/
def same1 (k n : Int) (s : ByteArray) (ar : Ts) (k' n' : Int) (s' : ByteArray) (ar' : Ts) : Bool := decide (k = k') && decide (n = n') && decide (s = s') && ar.same ar'

def SameRel (W : World) (T U : Ts) (g : Nat) (s37 : Value) (wr : World) : Prop :=
  ∃ D R R' : Ts, T = D.app R ∧ U = D.app R' ∧ R.length = R'.length ∧ g = R.length ∧ s37 = .int .i64 D.length ∧ Below W.heap.size W wr

theorem same1_iff {k n : Int} {s : ByteArray} {ar : Ts} {k' n' : Int} {s' : ByteArray} {ar' : Ts} : same1 k n s ar k' n' s' ar' = true ↔ k = k' ∧ n = n' ∧ s = s' ∧ ar = ar' := by
  simp [same1, Ts.same_iff, and_assoc]
theorem Ts.app_inj {D R R' : Ts} (h : D.app R = D.app R') : R = R' := by
  induction D with
  | nil => exact h
  | cons k n s ar r _ ih => simp only [Ts.app, Ts.cons.injEq] at h; exact ih h.2.2.2.2
theorem Ts.same_stop {T U D r1 r2 a1 a2 : Ts} {k1 n1 k2 n2 : Int} {s1 s2 : ByteArray} (hT : T = D.app (.cons k1 n1 s1 a1 r1)) (hU : U = D.app (.cons k2 n2 s2 a2 r2))
    (h : same1 k1 n1 s1 a1 k2 n2 s2 a2 = false) : T.same U = false := by
  rw [Bool.eq_false_iff, ne_eq, Ts.same_iff, hT, hU]
  intro e
  have := Ts.app_inj e
  simp only [Ts.cons.injEq] at this
  rw [Bool.eq_false_iff, ne_eq, same1_iff] at h
  exact h ⟨this.1, this.2.1, this.2.2.1, this.2.2.2.1⟩
theorem SameRel.step {W wr w2 : World} {T U D r1 r2 a1 a2 : Ts} {k1 n1 k2 n2 : Int} {s1 s2 : ByteArray} (hT : T = D.app (.cons k1 n1 s1 a1 r1)) (hU : U = D.app (.cons k2 n2 s2 a2 r2))
    (hR : (Ts.cons k1 n1 s1 a1 r1).length = (Ts.cons k2 n2 s2 a2 r2).length) (h : same1 k1 n1 s1 a1 k2 n2 s2 a2 = true) (hb : Below W.heap.size W wr) (hb2 : Below wr.heap.size wr w2) :
    SameRel W T U r1.length (.int .i64 ((D.length : Int) + 1)) w2 := by
  obtain ⟨rfl, rfl, rfl, rfl⟩ := same1_iff.1 h
  refine ⟨D.app (.cons k1 n1 s1 a1 .nil), r1, r2, by rw [hT, Ts.app_assoc]; rfl, by rw [hU, Ts.app_assoc]; rfl, by simpa [Ts.length] using hR, rfl, ?_, hb.trans (hb2.mono hb.size)⟩
  rw [Ts.length_app]; rfl

end Go.Proofs.Ytjicoifjgokoiaa
