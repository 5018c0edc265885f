/-
  The reference's Renamed lays a renamed copy, whatever the numbering.
-/
import Derived.Test.YtpbnfjlalgnmmaaDoorNums
import Derived.Test.YtpbnfjlalgnmmaaDoorCopy
import Derived.Test.YtpbnfjlalgnmmaaDoorMix
import Derived.Deep.LoopGhost
import Derived.Deep.RegionLaw
import Derived.Deep.DeepCutAuto
namespace Go.Proofs.YtpbnfjlalgnmmaaDoor
open Go.RowKit

/-- What gives the variables their numbers: a function value, and what it knows. -/
structure Num (σ : Type) where
  fid : FuncId
  cap : Array Value
  own : Nat → Prop
  lean : Nat → Prop
  inv : σ → World → Prop
  val : σ → Int → Int
  nxt : σ → Int → σ
structure Num.Ok {σ : Type} (N : Num σ) : Prop where
  keep : ∀ s w w', N.inv s w → (∀ k, N.lean k → w'.heap[k]? = w.heap[k]?) → N.inv s w'
  lt : ∀ s w k, N.inv s w → N.lean k → k < w.heap.size
  sub : ∀ k, N.own k → N.lean k
  bare : ∀ s w k c t f, N.inv s w → N.own k → w.heap[k]? ≠ some (.cells c t f)
  enter : ∀ (args : Array Value) (w : World), (callFunc N.fid args).run Tryd.prog w = .ok (.enter N.fid args) w
  call : ∀ s n w, N.inv s w → Calls Tryd.prog N.fid (#[.int .i64 n] ++ N.cap) w fun e w' => e = .returned (.int .i64 (N.val s n)) ∧ N.inv (N.nxt s n) w' ∧ Chg N.own w w'

def Num.v1 {σ : Type} (N : Num σ) (k n : Int) (s : σ) : Int := if k = 0 then N.val s n else n
def Num.s1 {σ : Type} (N : Num σ) (k n : Int) (s : σ) : σ := if k = 0 then N.nxt s n else s
/-- Every variable gets its number, each term ahead of its arguments. -/
def Ts.ren {σ : Type} (N : Num σ) : Ts → σ → Ts × σ
  | .nil, s => (.nil, s)
  | .cons k n b ar r, s => (.cons k (N.v1 k n s) b (ar.ren N (N.s1 k n s)).1 (r.ren N (ar.ren N (N.s1 k n s)).2).1, (r.ren N (ar.ren N (N.s1 k n s)).2).2)
theorem Ts.ren_app {σ : Type} (N : Num σ) (D R : Ts) : ∀ s : σ, (D.app R).ren N s = ((D.ren N s).1.app (R.ren N (D.ren N s).2).1, (R.ren N (D.ren N s).2).2) := by
  induction D with
  | nil => intro s; rfl
  | cons k n b ar r _ ih => intro s; simp only [Ts.app, Ts.ren, ih]
theorem Ts.length_ren {σ : Type} (N : Num σ) (T : Ts) : ∀ s : σ, (T.ren N s).1.length = T.length := by
  induction T with
  | nil => intro s; rfl
  | cons k n b ar r _ ih => intro s; simp only [Ts.ren, Ts.length, ih]
theorem Ts.nodes_ren {σ : Type} (N : Num σ) (T : Ts) : ∀ s : σ, (T.ren N s).1.nodes = T.nodes := by
  induction T with
  | nil => intro s; rfl
  | cons k n b ar r iha ih => intro s; simp only [Ts.ren, Ts.nodes, ih, iha]

section
variable {σ : Type} {N : Num σ}
theorem Num.Ok.cell_none (ok : N.Ok) {w : World} {s : σ} {k o : Nat} (hi : N.inv s w) (ho : N.own k) : w.cell? ⟨k, o, none⟩ = none := by
  have := fun c t f => ok.bare s w k c t f hi ho
  unfold World.cell?
  split
  · rename_i h; exact absurd h (this _ _ _)
  · rfl
theorem Num.Ok.sl (ok : N.Ok) {w w' : World} {p : Nat → Prop} {s : σ} {v : Value} {T : Ts} (h : Sl w p v T) (hi : N.inv s w) (hc : Chg N.own w w') : Sl w' p v T := by
  have h1 : Sl w (fun k => p k ∧ ¬ N.own k) v T := h.imp' fun k hk ⟨j, u, hu⟩ => ⟨hk, fun ho => by rw [ok.cell_none hi ho] at hu; cases hu⟩
  exact (h1.chg hc fun k hk => hk.2).imp fun k hk _ => hk.1
end

end Go.Proofs.YtpbnfjlalgnmmaaDoor
