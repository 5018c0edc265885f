/- Steps of the proof. -/
import Derived.Test.YthliapbflkfdiacGreatDoorG10
namespace Go.Proofs.YthliapbflkfdiacGreatDoor
open Go.RowKit
set_option linter.unusedVariables false
set_option linter.unusedSimpArgs false
set_option maxRecDepth 100000
set_option maxHeartbeats 1000000
section
variable {M : List Nat} {w0 : World} {H : List (Nat × Obj)} {F0 : List (World → Prop)} {b : Nat} {P : List LC} {pA : Option Addr} {pc vars : Nat}
end
inductive QjA where
 | tail
 | read (i : Nat) (p : QjA)
 | pick (i : Nat) (p more : QjA)
 | none
def QjA.heads : QjA → List Nat
 | .pick i _ more => i :: more.heads
 | _ => []
section
variable {P : Program} {ops : Array Oper} {Q : Exit → Act → World → Prop} {md : Region.Mode} {S : World → Prop} {n : Nat}
def Qe0 (P : Program) (ops : Array Oper) (Q : Exit → Act → World → Prop) (S : World → Prop) (tail : List Oper) : QjA → Act → World → Prop
 | .tail, a, w => wpList P ops Q tail a w
 | .read i p, a, w => ∃ o v, ops[i]? = some o ∧ YieldsIf P ops S o v a ∧ (∀ c a w, Q (.panic c) (a.put o.dst v) w → Q (.panic c) a w) ∧ Qe0 P ops Q S tail p (a.put o.dst v) w
 | .pick i p more, a, w => (∃ o, ops[i]? = some o ∧ wpList P ops (Exit.then (fun a' w' => S w' ∧ Qe0 P ops Q S tail p a' w') Q) [o] a w) ∧ Qe0 P ops Q S tail more a w
 | .none, _, _ => True
def Qda (md : Region.Mode) (ops : Array Oper) (n : Nat) : QjA → Nat → Array Bool → Bool → Bool
 | .tail, d, listed, top => top && decide (d = 0) && Region.seqB md ops (ops.size - n) n listed
 | .read i p, d, listed, top => top && decide (0 < d) && (Region.ready md ops listed).contains i && Region.free md ops listed i && decide (i < n) && Qda md ops n p (d - 1) (listed.setIfInBounds i true) true
 | .pick i p more, d, listed, top => (!top || decide (Region.ready md ops listed = (QjA.pick i p more).heads)) && decide (0 < d) && decide (i < n) && Qda md ops n p (d - 1) (listed.setIfInBounds i true) true && Qda md ops n more d listed false
 | .none, _, _, top => !top
theorem Qk7 {tail : List Oper} {a : Act} {w : World} {d : Nat} {listed : Array Bool} : ∀ (pl : QjA), Qda md ops n pl d listed false = true → Qe0 P ops Q S tail pl a w → ∀ j ∈ pl.heads, j < n ∧ 0 < d ∧ ∃ p o, ops[j]? = some o ∧ Qda md ops n p (d - 1) (listed.setIfInBounds j true) true = true ∧ wpList P ops (Exit.then (fun a' w' => S w' ∧ Qe0 P ops Q S tail p a' w') Q) [o] a w
 | .tail, h, _, j, hj => by simp [QjA.heads] at hj
 | .read i p, h, _, j, hj => by simp [QjA.heads] at hj
 | .none, h, _, j, hj => by simp [QjA.heads] at hj
 | .pick i p more, h, hw, j, hj => by
  simp only [Qda, Bool.and_eq_true, decide_eq_true_eq] at h
  obtain ⟨⟨⟨⟨_, hd⟩, hin⟩, h1⟩, h2⟩ := h
  simp only [QjA.heads, List.mem_cons] at hj
  rcases hj with rfl | hj
  ·obtain ⟨⟨o, ho, hl⟩, _⟩ := hw
   exact ⟨hin, hd, p, o, ho, h1, hl⟩
  ·exact Qk7 more h2 hw.2 j hj
theorem QjF (hsel : Region.noSelect ops = true) (tail : List Oper) (htl : ∀ j, tail[j]? = ops[n + j]?) (htn : tail.length = ops.size - n) (hwait : n < ops.size → Region.sinkB md ops n = true ∧ Region.chainB md ops n = true) : ∀ (d : Nat) (pl : QjA) (listed : Array Bool) (a : Act) (w : World), HeadInv md ops n listed → S w →
  Qda md ops n pl d listed true = true → Qe0 P ops Q S tail pl a w → Qmc P md ops Q S n (d + tail.length) listed a w := by
 intro d
 induction d with
 | zero =>
  intro pl listed a w hcl hS hB h
  cases pl with
  | tail =>
   simp only [Qda, Bool.and_eq_true] at hB
   rw [Nat.zero_add]
   exact Qdu tail n listed a w (Nat.le_refl _) htl (by rw [htn]; exact hB.2) h
  | read i p => simp [Qda] at hB
  | pick i p more => simp [Qda] at hB
  | none => simp [Qda] at hB
 | succ d ih =>
  intro pl listed a w hcl hS hB h
  cases pl with
  | tail => simp [Qda] at hB
  | none => simp [Qda] at hB
  | read i p =>
   simp only [Qda, Bool.and_eq_true, decide_eq_true_eq] at hB
   obtain ⟨⟨⟨⟨_, hr⟩, hf⟩, hin⟩, hB'⟩ := hB
   obtain ⟨o, v, ho, hy, hQ, h'⟩ := h
   have hr' : i ∈ Region.ready md ops listed := by simpa using hr
   rw [show d + 1 + tail.length = (d + tail.length) + 1 by omega]
   exact Qg4 ho (Region.noSelect_spec hsel) hQ hwait hin _ listed a w hcl (Region.free_spec ho hf) hr' hy hS
    (ih p _ _ _ (hcl.set hr' hin) hS hB' h')
  | pick i p more =>
   have hB0 : Qda md ops n (.pick i p more) (d + 1) listed false = true := by
    simp only [Qda, Bool.and_eq_true, decide_eq_true_eq] at hB ⊢
    obtain ⟨⟨⟨⟨_, hd⟩, hin⟩, h1⟩, h2⟩ := hB
    exact ⟨⟨⟨⟨by simp, hd⟩, hin⟩, h1⟩, h2⟩
   have hr : Region.ready md ops listed = (QjA.pick i p more).heads := by
    simp only [Qda, Bool.and_eq_true, decide_eq_true_eq] at hB
    simpa using hB.1.1.1.1
   have hk := Qk7 (P := P) (Q := Q) (S := S) (tail := tail) (a := a) (w := w) _ hB0 h
   rw [show d + 1 + tail.length = (d + tail.length) + 1 by omega]
   refine ⟨fun h1 => (by rw [h1] at hr; cases hr), fun j hj => ?_⟩
   obtain ⟨hjn, _, q, o, ho, hq, hl⟩ := hk j (by rw [← hr]; exact hj)
   exact wpOp_mono (fun a' w' h3 => ⟨fun _ => h3.1, ih q _ _ _ (hcl.set hj hjn) h3.1 hq h3.2⟩) (Qgg ho hl)
theorem Qim {id : Nat} {a : Act} {w : World} {l : List Oper} (S : World → Prop) (n : Nat) (pl : QjA) (hm : P.follows .mixedOrders = true)
  (hB : (Region.noSelect l.toArray && decide (n ≤ l.length) && (decide (n = l.length) || (Region.sinkB .any l.toArray n && Region.chainB .any l.toArray n)) && Qda .any l.toArray n pl n (Array.replicate l.toArray.size false) true) = true) (hS : S w.drew)
  (h : Qe0 P l.toArray Q S (l.drop n) pl a w.drew) : (Code.region id l.toArray true).wp P Q a w := by
 simp only [Bool.and_eq_true, decide_eq_true_eq] at hB
 obtain ⟨⟨⟨hsel, hle⟩, hwt⟩, hB⟩ := hB
 have hcl : HeadInv .any l.toArray n (Array.replicate l.toArray.size false) :=
  ⟨by simp, fun j oj _ hl => (by rw [getD_replicate_false] at hl; cases hl), fun t _ ht => getD_in (by simpa using ht) (getD_replicate_false _ _)⟩
 have hwait : n < l.toArray.size → Region.sinkB .any l.toArray n = true ∧ Region.chainB .any l.toArray n = true := fun h => by
  simp only [Bool.or_eq_true, Bool.and_eq_true, decide_eq_true_eq] at hwt
  rcases hwt with e | e
  ·simp at h; omega
  ·exact e
 have hdl : (l.drop n).length = l.toArray.size - n := by simp
 have H := QjF (md := .any) (n := n) hsel (l.drop n) (fun j => by simp [List.getElem?_drop]) hdl hwait n pl _ a w.drew hcl hS hB h
 refine wp_region_any hm ?_
 have e : n + (l.drop n).length = l.toArray.size := by rw [hdl]; simp; omega
 rw [e] at H
 exact Qdw _ _ _ _ H
end
section
variable {P : Program} {f : FuncId} {R : Ending → World → Prop} {k : List Item} {n : Nat} {e : Env} {w : World} {S : World → Prop} {ops : Array Oper} {tail : List Oper} {r more : QjA}
variable {ty : TypeId} {pos : String} {after : Array Edge} {d i : Nat}
def Pln (P : Program) (f : FuncId) (R : Ending → World → Prop) (k : List Item) (ops : Array Oper) (S : World → Prop) (tail : List Oper) (r : QjA) (n : Nat) (e : Env) (w : World) : Prop :=
 Qe0 P ops (qk P f R k) S tail r (act n e) w
theorem QcU {id : Nat} {l : List Oper} (S : World → Prop) (m : Nat) (pl : QjA) (hm : P.follows .mixedOrders = true)
  (hB : (Region.noSelect l.toArray && decide (m ≤ l.length) && (decide (m = l.length) || (Region.sinkB .any l.toArray m && Region.chainB .any l.toArray m)) && Qda .any l.toArray m pl m (Array.replicate l.toArray.size false) true) = true)
  (hS : S w.drew) (h : Pln P f R k l.toArray S (l.drop m) pl n e w.drew) : Qau P f R (.code (.region id l.toArray true) :: k) (act n e) w :=
 Qf9 (Qim S m pl hm hB hS h)
theorem Qv {op : Op} {v : Value} (ho : ops[i]? = some ⟨some d, op, ty, pos, after, none⟩) (hr : ∀ w', S w' → (execOp (ev n e) ⟨some d, op, ty, pos, after, none⟩).run P w' = .ok (.value v) w') (hd : Nat.blt d n = true)
  (h : Pln P f R k ops S tail r n ((d, v) :: e) w) : Pln P f R k ops S tail (.read i r) n e w := by
 refine ⟨_, v, ho, .inl ⟨by simp [Region.wanted], fun w' hw => by rw [Qcx]; exact hr w' hw⟩, fun c a w h => h.elim, ?_⟩
 rw [Qd4 hd]; exact h
def qp (P : Program) (f : FuncId) (R : Ending → World → Prop) (k : List Item) (ops : Array Oper) (S : World → Prop) (tail : List Oper) (r : QjA) : Exit → Act → World → Prop :=
 Exit.then (fun a' w' => S w' ∧ Qe0 P ops (qk P f R k) S tail r a' w') (qk P f R k)
theorem Qfi {o : Oper} (ho : ops[i]? = some o) (h : Lst P (qp P f R k ops S tail r) ops [o] n e w) (h2 : Pln P f R k ops S tail more n e w) : Pln P f R k ops S tail (.pick i r more) n e w := by unfold Lst at h; exact ⟨⟨o, ho, h⟩, h2⟩
theorem Qso {o : Oper} (ho : ops[i]? = some o) (h : Lst P (qp P f R k ops S tail r) ops [o] n e w) : Pln P f R k ops S tail (.pick i r .none) n e w := by unfold Lst at h; exact ⟨⟨o, ho, h⟩, trivial⟩
theorem QhL (hS : S w) (h : Pln P f R k ops S tail r n e w) : Lst P (qp P f R k ops S tail r) ops [] n e w := by unfold Lst; exact ⟨hS, h⟩
theorem Qbo (h : Lst P (qk P f R k) ops tail n e w) : Pln P f R k ops S tail .tail n e w := by unfold Lst at h; exact h
theorem Qjl {c1 : Item} (s t : Nat) (J : List Nat) (Φ : Value → Value → World → Prop)
  (h : (∀ (v u : Value) (e' : Env) (w' : World), Φ v u w' → lk e' s = v → lk e' t = u → keep (s :: t :: J) e' = keep (s :: t :: J) e → Qau P f R k (act n e') w') → Qau P f R (c1 :: k) (act n e) w)
  (h2 : ∀ (jv : Nat → Value) (v u : Value) (w' : World), Φ v u w' → Qau P f R k (act n ((s, v) :: (t, u) :: (QbC jv J ++ e))) w') : Qau P f R (c1 :: k) (act n e) w :=
 h fun v u e' w' hΦ h1 h3 hk => by
  have := h2 (lk e') v u w' hΦ
  rw [QaH hk]
  have e2 : QbC (lk e') (s :: t :: J) ++ e = (s, v) :: (t, u) :: (QbC (lk e') J ++ e) := by simp [QbC, h1, h3]
  rw [e2]; exact this
theorem QsP {c1 c2 : Item} (s : Nat) (J : List Nat) (Φ : Value → World → Prop)
  (h : (∀ (v : Value) (e' : Env) (w' : World), Φ v w' → lk e' s = v → keep (s :: J) e' = keep (s :: J) e → Qau P f R k (act n e') w') → Qau P f R (c1 :: c2 :: k) (act n e) w)
  (h2 : ∀ (jv : Nat → Value) (v : Value) (w' : World), Φ v w' → Qau P f R k (act n ((s, v) :: (QbC jv J ++ e))) w') : Qau P f R (c1 :: c2 :: k) (act n e) w :=
 h fun v e' w' hΦ h1 hk => by
  have := h2 (lk e') v w' hΦ
  rw [QaH hk]
  have e2 : QbC (lk e') (s :: J) ++ e = (s, v) :: (QbC (lk e') J ++ e) := by simp [QbC, h1]
  rw [e2]; exact this
theorem Qei {c1 : Item} (s : Nat) (J : List Nat) (Φ : Value → World → Prop)
  (h : (∀ (v : Value) (e' : Env) (w' : World), Φ v w' → lk e' s = v → keep (s :: J) e' = keep (s :: J) e → Qau P f R k (act n e') w') → Qau P f R (c1 :: k) (act n e) w)
  (h2 : ∀ (jv : Nat → Value) (v : Value) (w' : World), Φ v w' → Qau P f R k (act n ((s, v) :: (QbC jv J ++ e))) w') : Qau P f R (c1 :: k) (act n e) w :=
 h fun v e' w' hΦ h1 hk => by
  have := h2 (lk e') v w' hΦ
  rw [QaH hk]
  have e2 : QbC (lk e') (s :: J) ++ e = (s, v) :: (QbC (lk e') J ++ e) := by simp [QbC, h1]
  rw [e2]; exact this
end
attribute [irreducible] Pln
end Go.Proofs.YthliapbflkfdiacGreatDoor
