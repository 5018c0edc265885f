/- Mix, Draw, Loop, Str: texts that follow one another, laid into one file. -/
import Derived.OrdersHeld
import Derived.StillTail
import Derived.KernelRfl
import Derived.Test.YtdiophafmokfiaaGreatDoorG2
namespace Go.Proofs.YtdiophafmokfiaaGreatDoor
section
variable {P : Program} {ops : Array Oper} {Q : Exit → Act → World → Prop} {md : Region.Mode} {S : World → Prop} {n : Nat}

/-- Whatever order is picked from here on; behind each operation below number n, S holds. -/
def wpMix (P : Program) (md : Region.Mode) (ops : Array Oper) (Q : Exit → Act → World → Prop) (S : World → Prop) (n : Nat) : Nat → Array Bool → Act → World → Prop
  | 0, listed, a, w => Region.ready md ops listed = [] ∧ Q .normal a w
  | fuel + 1, listed, a, w =>
    (Region.ready md ops listed = [] → Q .normal a w) ∧
    ∀ i ∈ Region.ready md ops listed, wpOp P ops Q i (fun a' w' => (i < n → S w') ∧ wpMix P md ops Q S n fuel (listed.setIfInBounds i true) a' w') a w

theorem wpAny_of_mix : ∀ (fuel : Nat) (listed : Array Bool) (a : Act) (w : World), wpMix P md ops Q S n fuel listed a w → wpAny P md ops Q fuel listed a w
  | 0, _, _, _, h => h
  | fuel + 1, _, _, _, h => ⟨h.1, fun i hi => wpOp_mono (fun a' w' h' => wpAny_of_mix fuel _ a' w' h'.2) (h.2 i hi)⟩

/-- What yields its value in every world that meets S, and for which all from number n on wait, may be taken first. -/
theorem wpMix_first {i : Nat} {oi : Oper} {v : Value} (hi : ops[i]? = some oi) (hsel : ∀ (j : Nat) (o : Oper) cs b, ops[j]? = some o → o.op ≠ .select cs b)
    (hQ : ∀ c a w, Q (.panic c) (a.put oi.dst v) w → Q (.panic c) a w) (hwait : n < ops.size → Region.sinkB md ops n = true ∧ Region.chainB md ops n = true) (hin : i < n) :
    ∀ (fuel : Nat) (listed : Array Bool) (a : Act) (w : World), HeadInv md ops n listed →
      (∀ j oj, ops[j]? = some oj → j ≠ i → listed.getD j true = false → (∀ e ∈ oj.after, Region.binds md e = true → e.on ≠ i) → oi.apart ops oj = true) →
      i ∈ Region.ready md ops listed → YieldsIf P ops S oi v a → S w →
      wpMix P md ops Q S n fuel (listed.setIfInBounds i true) (a.put oi.dst v) w → wpMix P md ops Q S n (fuel + 1) listed a w := by
  intro fuel
  induction fuel with
  | zero =>
    intro listed a w _ _ hr hy hS H
    refine ⟨fun h => (by rw [h] at hr; cases hr), fun j hj => ?_⟩
    by_cases hji : j = i
    · subst hji; exact hy.wpOp hi hS ⟨fun _ => hS, H⟩
    · have := ready_mono hj hji
      rw [H.1] at this
      cases this
  | succ fuel ih =>
    intro listed a w hcl hfree hr hy hS H
    refine ⟨fun h => (by rw [h] at hr; cases hr), fun j hj => ?_⟩
    by_cases hji : j = i
    · subst hji; exact hy.wpOp hi hS ⟨fun _ => hS, H⟩
    · have h1 := H.2 j (ready_mono hj hji)
      obtain ⟨hjun, oj, hoj, hall⟩ := mem_ready.1 hj
      have h0 := (mem_ready.1 hr).1
      have hjn : j < n := by
        rcases Nat.lt_or_ge j n with h | h
        · exact h
        · have hjs : j < ops.size := (Array.getElem?_eq_some_iff.1 hoj).1
          obtain ⟨hs, hc⟩ := hwait (by omega)
          exact absurd hj (tail_waits hs hc (by omega) hcl _ i rfl hin h0 j h)
      have hnot : ∀ e ∈ oj.after, Region.binds md e = true → e.on ≠ i := fun e he hb heq => by
        have h1 := hall e he hb
        rw [heq, getD_both h0] at h1
        cases h1
      have h2 := wpOp_putIf hoj (hfree j oj hoj hji hjun hnot) (fun cs b => hsel i oi cs b hi) (fun cs b => hsel j oj cs b hoj) hQ hy h1
      have hfree' : ∀ k ok, ops[k]? = some ok → k ≠ i → (listed.setIfInBounds j true).getD k true = false →
          (∀ e ∈ ok.after, Region.binds md e = true → e.on ≠ i) → oi.apart ops ok = true := fun k ok hk hki hun hno => by
        refine hfree k ok hk hki ?_ hno
        by_cases hjk : j = k
        · subst hjk; exact hjun
        · rw [getD_set_ne true hjk] at hun; exact hun
      refine wpOp_mono (fun a' w' h3 => ⟨fun _ => h3.2.1 hjn, ih (listed.setIfInBounds j true) a' w' (hcl.set hj hjn) hfree' (ready_mono hr (Ne.symm hji)) h3.1 (h3.2.1 hjn) ?_⟩) h2
      rw [Array.setIfInBounds_comm _ _ hji]
      exact h3.2.2

/-- The walk: (i, true): number i only reads, it is taken now; (i, false): number i is the only one that may come up; then all from number n on, in the order of the text. -/
def wpOrd (P : Program) (ops : Array Oper) (Q : Exit → Act → World → Prop) (S : World → Prop) (tail : List Oper) : List (Nat × Bool) → Act → World → Prop
  | [], a, w => wpList P ops Q tail a w
  | (i, true) :: r, a, w => ∃ o v, ops[i]? = some o ∧ YieldsIf P ops S o v a ∧ (∀ c a w, Q (.panic c) (a.put o.dst v) w → Q (.panic c) a w) ∧ wpOrd P ops Q S tail r (a.put o.dst v) w
  | (i, false) :: r, a, w => ∃ o, ops[i]? = some o ∧ wpList P ops (Exit.then (fun a' w' => S w' ∧ wpOrd P ops Q S tail r a' w') Q) [o] a w

def ordB (md : Region.Mode) (ops : Array Oper) (n : Nat) : List (Nat × Bool) → Array Bool → Bool
  | [], listed => Region.seqB md ops (ops.size - n) n listed
  | (i, true) :: r, listed => (Region.ready md ops listed).contains i && Region.free md ops listed i && decide (i < n) && ordB md ops n r (listed.setIfInBounds i true)
  | (i, false) :: r, listed => decide (Region.ready md ops listed = [i]) && decide (i < n) && ordB md ops n r (listed.setIfInBounds i true)

theorem wpMix_of_seq : ∀ (l : List Oper) (k : Nat) (listed : Array Bool) (a : Act) (w : World), n ≤ k → (∀ j, l[j]? = ops[k + j]?) →
    Region.seqB md ops l.length k listed = true → wpList P ops Q l a w → wpMix P md ops Q S n l.length listed a w
  | [], _, _, _, _, _, _, hB, h => ⟨by simpa [Region.seqB] using hB, h⟩
  | o :: l, k, listed, a, w, hk, hl, hB, h => by
    have h0 : ops[k]? = some o := by simpa using (hl 0).symm
    simp only [List.length_cons, Region.seqB, Bool.and_eq_true, decide_eq_true_eq] at hB
    refine ⟨fun h1 => (by rw [hB.1] at h1; cases h1), fun i hi => ?_⟩
    rw [hB.1] at hi
    have hik : i = k := by simpa using hi
    subst hik
    have hw : wpOp P ops Q i (wpList P ops Q l) a w := by unfold wpOp; simp only [h0]; exact h
    exact wpOp_mono (fun a' w' h' => ⟨fun h2 => absurd h2 (by omega), wpMix_of_seq l (i + 1) _ a' w' (by omega) (fun j => by have := hl (j + 1); simpa [Nat.add_assoc, Nat.add_comm 1 j] using this) hB.2 h'⟩) hw

/-- A list of one operation, as that operation. -/
theorem wpOp_of_list {i : Nat} {o : Oper} {K : Act → World → Prop} {a : Act} {w : World} (ho : ops[i]? = some o) (h : wpList P ops (Exit.then K Q) [o] a w) : wpOp P ops Q i K a w := by
  unfold wpOp
  simp only [ho]
  unfold wpList at h
  split
  · rename_i hw
    rw [if_pos hw] at h
    rcases h with h | ⟨h1, a0, w0, h2⟩
    · left
      unfold Oper.wp at *
      generalize (execOp a.eval o).run P w = r at *
      cases r with
      | ok nx w' =>
        cases nx <;> simp only [Oper.upon] at h ⊢
        case value u => exact h
        case skip => exact h
        case defer d => exact h
        case enter f args =>
          refine Calls.mono h fun e w'' he => ?_
          cases e with
          | returned u => exact he
          | panicked c => exact he
          | outgrown => obtain ⟨a0, w0, h2⟩ := he; exact ⟨a0, w0, h2⟩
        case row row args => exact Rows.mono h fun u w'' he => he
      | halt x w' =>
        cases x <;> simp only [Oper.upon] at h ⊢
        case panic u => exact h
    · exact .inr ⟨h1, a0, w0, h2⟩
  · rename_i hw
    rw [if_neg hw] at h
    exact h

theorem wpMix_of_ord (hsel : Region.noSelect ops = true) (tail : List Oper) (htl : ∀ j, tail[j]? = ops[n + j]?) (htn : tail.length = ops.size - n) (hwait : n < ops.size → Region.sinkB md ops n = true ∧ Region.chainB md ops n = true) : ∀ (ord : List (Nat × Bool)) (listed : Array Bool) (a : Act) (w : World), HeadInv md ops n listed → S w →
    ordB md ops n ord listed = true → wpOrd P ops Q S tail ord a w → wpMix P md ops Q S n (ord.length + tail.length) listed a w
  | [], listed, a, w, _, _, hB, h => by
    simp only [ordB] at hB
    rw [List.length_nil, Nat.zero_add]
    exact wpMix_of_seq tail n listed a w (Nat.le_refl _) htl (by rw [htn]; exact hB) h
  | (i, true) :: r, listed, a, w, hcl, hS, hB, h => by
    simp only [ordB, Bool.and_eq_true, decide_eq_true_eq] at hB
    obtain ⟨⟨⟨hr, hf⟩, hin⟩, hB'⟩ := hB
    obtain ⟨o, v, ho, hy, hQ, h'⟩ := h
    have hr' : i ∈ Region.ready md ops listed := by simpa using hr
    rw [List.length_cons, show r.length + 1 + tail.length = (r.length + tail.length) + 1 by omega]
    exact wpMix_first ho (Region.noSelect_spec hsel) hQ hwait hin _ listed a w hcl (Region.free_spec ho hf) hr' hy hS
      (wpMix_of_ord hsel tail htl htn hwait r _ _ _ (hcl.set hr' hin) hS hB' h')
  | (i, false) :: r, listed, a, w, hcl, hS, hB, h => by
    simp only [ordB, Bool.and_eq_true, decide_eq_true_eq] at hB
    obtain ⟨⟨hr, hin⟩, hB'⟩ := hB
    obtain ⟨o, ho, h'⟩ := h
    have hri : i ∈ Region.ready md ops listed := by rw [hr]; simp
    rw [List.length_cons, show r.length + 1 + tail.length = (r.length + tail.length) + 1 by omega]
    refine ⟨fun h1 => (by rw [h1] at hri; cases hri), fun j hj => ?_⟩
    rw [hr] at hj
    have hji : j = i := by simpa using hj
    subst hji
    exact wpOp_mono (fun a' w' h3 => ⟨fun _ => h3.1, wpMix_of_ord hsel tail htl htn hwait r _ _ _ (hcl.set hri hin) h3.1 hB' h3.2⟩) (wpOp_of_list ho h')

/-- A region that draws its order, by one walk. -/
theorem wp_region_ord {id : Nat} {a : Act} {w : World} {l : List Oper} (S : World → Prop) (n : Nat) (ord : List (Nat × Bool)) (hm : P.follows .mixedOrders = true)
    (hB : (Region.noSelect l.toArray && decide (ord.length = n) && decide (n ≤ l.length) && (decide (n = l.length) || (Region.sinkB .any l.toArray n && Region.chainB .any l.toArray n)) && ordB .any l.toArray n ord (Array.replicate l.toArray.size false)) = true) (hS : S w.drew)
    (h : wpOrd P l.toArray Q S (l.drop n) ord a w.drew) : (Code.region id l.toArray true).wp P Q a w := by
  simp only [Bool.and_eq_true, decide_eq_true_eq] at hB
  obtain ⟨⟨⟨⟨hsel, hlen⟩, hle⟩, hwt⟩, hB⟩ := hB
  have hcl : HeadInv .any l.toArray n (Array.replicate l.toArray.size false) :=
    ⟨by simp, fun j oj _ hl => (by rw [getD_replicate_false] at hl; cases hl), fun t _ ht => getD_in (by simpa using ht) (getD_replicate_false _ _)⟩
  have hwait : n < l.toArray.size → Region.sinkB .any l.toArray n = true ∧ Region.chainB .any l.toArray n = true := fun h => by
    simp only [Bool.or_eq_true, Bool.and_eq_true, decide_eq_true_eq] at hwt
    rcases hwt with e | e
    · simp at h; omega
    · exact e
  have hdl : (l.drop n).length = l.toArray.size - n := by simp
  have H := wpMix_of_ord (md := .any) (n := n) hsel (l.drop n) (fun j => by simp [List.getElem?_drop]) hdl hwait ord _ a w.drew hcl hS hB h
  refine wp_region_any hm ?_
  have e : ord.length + (l.drop n).length = l.toArray.size := by rw [hdl, hlen]; simp; omega
  rw [e] at H
  exact wpAny_of_mix _ _ _ _ H

theorem wpOrd_read {tail : List Oper} {i : Nat} {r : List (Nat × Bool)} {a : Act} {w : World} {o : Oper} (ho : ops[i]? = some o) (hg : o.guard = none)
    (h : ∃ v, (∀ w', S w' → (execOp a.eval o).run P w' = .ok (.value v) w') ∧ (∀ c a w, Q (.panic c) (a.put o.dst v) w → Q (.panic c) a w) ∧ wpOrd P ops Q S tail r (a.put o.dst v) w) : wpOrd P ops Q S tail ((i, true) :: r) a w := by
  obtain ⟨v, hy, hQ, h⟩ := h
  exact ⟨o, v, ho, .inl ⟨by simp [Region.wanted, hg], hy⟩, hQ, h⟩
theorem wpOrd_readG {tail : List Oper} {i : Nat} {r : List (Nat × Bool)} {a : Act} {w : World} {o : Oper} (ho : ops[i]? = some o) (hg : Region.wanted o (yielded ops a.tmps) = true)
    (h : ∃ v, (∀ w', S w' → (execOp a.eval o).run P w' = .ok (.value v) w') ∧ (∀ c a w, Q (.panic c) (a.put o.dst v) w → Q (.panic c) a w) ∧ wpOrd P ops Q S tail r (a.put o.dst v) w) : wpOrd P ops Q S tail ((i, true) :: r) a w := by
  obtain ⟨v, hy, hQ, h⟩ := h
  exact ⟨o, v, ho, .inl ⟨hg, hy⟩, hQ, h⟩
theorem wpOrd_run {tail : List Oper} {i : Nat} {r : List (Nat × Bool)} {a : Act} {w : World} {o : Oper} (ho : ops[i]? = some o)
    (h : wpList P ops (Exit.then (fun a' w' => S w' ∧ wpOrd P ops Q S tail r a' w') Q) [o] a w) : wpOrd P ops Q S tail ((i, false) :: r) a w := ⟨o, ho, h⟩

/-! A region by an invariant: whatever may come up next keeps it. -/
def leftOf (ops : Array Oper) (listed : Array Bool) : List Nat := (List.range ops.size).filter fun i => listed.getD i true == false
theorem leftOf_set {listed : Array Bool} {i : Nat} (hi : i ∈ Region.ready md ops listed) : (leftOf ops (listed.setIfInBounds i true)).length < (leftOf ops listed).length := by
  obtain ⟨hun, oi, hoi, _⟩ := mem_ready.1 hi
  have his : i < ops.size := (Array.getElem?_eq_some_iff.1 hoi).1
  have hsub : leftOf ops (listed.setIfInBounds i true) = (leftOf ops listed).filter (fun j => j != i) := by
    unfold leftOf
    rw [List.filter_filter]
    apply List.filter_congr
    intro j hj
    by_cases e : i = j
    · subst e
      have hil : i < listed.size := by
        rcases Nat.lt_or_ge i listed.size with h | h
        · exact h
        · simp [Array.getElem?_eq_none h] at hun
      simp [hil]
    · have e2 : (j != i) = true := by simp [Ne.symm e]
      rw [getD_set_ne true e, e2, Bool.true_and]
  rw [hsub]
  have hmem : i ∈ leftOf ops listed := List.mem_filter.2 ⟨List.mem_range.2 his, by simp [hun]⟩
  have hle : ((leftOf ops listed).filter (fun j => j != i)).length < (leftOf ops listed).length := by
    refine List.length_filter_lt_length_iff_exists.2 ⟨i, hmem, by simp⟩
  exact hle
theorem wpAny_inv (R : Array Bool → Act → World → Prop)
    (step : ∀ listed a w i o, R listed a w → i ∈ Region.ready md ops listed → ops[i]? = some o → wpList P ops (Exit.then (R (listed.setIfInBounds i true)) Q) [o] a w)
    (fin : ∀ listed a w, R listed a w → Region.ready md ops listed = [] → Q .normal a w) :
    ∀ (fuel : Nat) (listed : Array Bool) (a : Act) (w : World), (leftOf ops listed).length ≤ fuel → R listed a w → wpAny P md ops Q fuel listed a w
  | 0, listed, a, w, hl, hR => by
    have hr : Region.ready md ops listed = [] := by
      apply List.eq_nil_iff_forall_not_mem.2
      intro i hi
      have := leftOf_set hi
      omega
    exact ⟨hr, fin _ _ _ hR hr⟩
  | fuel + 1, listed, a, w, hl, hR => by
    refine ⟨fun h => fin _ _ _ hR h, fun i hi => ?_⟩
    obtain ⟨_, oi, hoi, _⟩ := mem_ready.1 hi
    have := leftOf_set hi
    exact wpOp_mono (fun a' w' h' => wpAny_inv R step fin fuel _ a' w' (by omega) h') (wpOp_of_list hoi (step listed a w i oi hR hi hoi))
theorem all_listed {listed : Array Bool} (hB : (List.range ops.size).all (fun i => match ops[i]? with | some o => o.after.all fun e => !Region.binds md e || decide (e.on < i) | none => true) = true) (hsz : listed.size = ops.size) (hr : Region.ready md ops listed = []) : ∀ i, i < ops.size → listed.getD i false = true := by
  intro i
  induction i using Nat.strongRecOn with
  | _ i ih =>
    intro hi
    cases hl : listed.getD i false with
    | true => rfl
    | false =>
      exfalso
      have hmem : i ∈ Region.ready md ops listed := by
        refine mem_ready.2 ⟨getD_in (by omega) hl, ops[i], Array.getElem?_eq_getElem hi, fun e he hb => ?_⟩
        have h1 := List.all_eq_true.1 hB i (List.mem_range.2 hi)
        simp only [Array.getElem?_eq_getElem hi] at h1
        have h2 := Array.all_eq_true_iff_forall_mem.1 h1 e he
        simp only [hb, Bool.not_true, Bool.false_or, decide_eq_true_eq] at h2
        exact ih e.on h2 (by omega)
      rw [hr] at hmem
      cases hmem
theorem wp_region_inv {id : Nat} {a : Act} {w : World} {l : List Oper} (R : Array Bool → Act → World → Prop) (hm : P.follows .mixedOrders = true) (h0 : R (Array.replicate l.toArray.size false) a w.drew)
    (step : ∀ listed a w i o, R listed a w → i ∈ Region.ready .any l.toArray listed → l.toArray[i]? = some o → wpList P l.toArray (Exit.then (R (listed.setIfInBounds i true)) Q) [o] a w)
    (fin : ∀ listed a w, R listed a w → Region.ready .any l.toArray listed = [] → Q .normal a w) : (Code.region id l.toArray true).wp P Q a w := by
  refine wp_region_any hm (wpAny_inv R step fin _ _ _ _ ?_ h0)
  have h1 := List.length_filter_le (fun i => (Array.replicate l.toArray.size false).getD i true == false) (List.range l.toArray.size)
  rw [List.length_range] at h1
  exact h1
end
end Go.Proofs.YtdiophafmokfiaaGreatDoor
namespace Go.Proofs.YtdiophafmokfiaaGreatDoor
open Go.RowKit
set_option linter.unusedSimpArgs false
set_option linter.unusedVariables false
section
variable {P : Program} {f : FuncId} {R : Ending → World → Prop} {k : List Item} {n : Nat} {e : Env} {w : World} {S : World → Prop} {ops : Array Oper} {tail : List Oper} {r : List (Nat × Bool)}
variable {ty : TypeId} {pos : String} {after : Array Edge} {d i : Nat}

def Ord (P : Program) (f : FuncId) (R : Ending → World → Prop) (k : List Item) (ops : Array Oper) (S : World → Prop) (tail : List Oper) (r : List (Nat × Bool)) (n : Nat) (e : Env) (w : World) : Prop :=
  wpOrd P ops (qk P f R k) S tail r (act n e) w
theorem goes_draw {id : Nat} {l : List Oper} (S : World → Prop) (m : Nat) (ord : List (Nat × Bool)) (hm : P.follows .mixedOrders = true)
    (hB : (Region.noSelect l.toArray && decide (ord.length = m) && decide (m ≤ l.length) && (decide (m = l.length) || (Region.sinkB .any l.toArray m && Region.chainB .any l.toArray m)) && ordB .any l.toArray m ord (Array.replicate l.toArray.size false)) = true)
    (hS : S w.drew) (h : Ord P f R k l.toArray S (l.drop m) ord n e w.drew) : Goes P f R (.code (.region id l.toArray true) :: k) (act n e) w :=
  goes_of_wp (wp_region_ord S m ord hm hB hS h)
theorem ord_read {op : Op} {v : Value} (ho : ops[i]? = some ⟨some d, op, ty, pos, after, none⟩) (hr : ∀ w', S w' → (execOp (ev n e) ⟨some d, op, ty, pos, after, none⟩).run P w' = .ok (.value v) w') (hd : Nat.blt d n = true)
    (h : Ord P f R k ops S tail r n ((d, v) :: e) w) : Ord P f R k ops S tail ((i, true) :: r) n e w := by
  refine ⟨_, v, ho, .inl ⟨by simp [Region.wanted], fun w' hw => by rw [act_eval]; exact hr w' hw⟩, fun c a w h => h.elim, ?_⟩
  rw [act_put hd]; exact h
theorem ord_readG {op : Op} {v : Value} {j : Nat} {g b : Bool} (ho : ops[i]? = some ⟨some d, op, ty, pos, after, some (j, g)⟩) (hy : yd ops n e j = some (.bool b)) (hb : b = g)
    (hr : ∀ w', S w' → (execOp (ev n e) ⟨some d, op, ty, pos, after, none⟩).run P w' = .ok (.value v) w') (hd : Nat.blt d n = true)
    (h : Ord P f R k ops S tail r n ((d, v) :: e) w) : Ord P f R k ops S tail ((i, true) :: r) n e w := by
  refine ⟨_, v, ho, .inl ⟨wanted_yes hy hb, fun w' hw => by rw [act_eval]; exact hr w' hw⟩, fun c a w h => h.elim, ?_⟩
  rw [act_put hd]; exact h
theorem ord_pass {op : Op} {j : Nat} {g b : Bool} (ho : ops[i]? = some ⟨some d, op, ty, pos, after, some (j, g)⟩) (hy : yd ops n e j = some (.bool b)) (hb : (!b) = g) (hd : Nat.blt d n = true)
    (h : Ord P f R k ops S tail r n ((d, undef) :: e) w) : Ord P f R k ops S tail ((i, true) :: r) n e w := by
  refine ⟨_, undef, ho, .inr ⟨wanted_no hy hb, rfl⟩, fun c a w h => h.elim, ?_⟩
  rw [act_put hd]; exact h
/-- What a single operation owes to the rest of the region. -/
def qo (P : Program) (f : FuncId) (R : Ending → World → Prop) (k : List Item) (ops : Array Oper) (S : World → Prop) (tail : List Oper) (r : List (Nat × Bool)) : Exit → Act → World → Prop :=
  Exit.then (fun a' w' => S w' ∧ wpOrd P ops (qk P f R k) S tail r a' w') (qk P f R k)
theorem ord_act {o : Oper} (ho : ops[i]? = some o) (h : Lst P (qo P f R k ops S tail r) ops [o] n e w) : Ord P f R k ops S tail ((i, false) :: r) n e w := by unfold Lst at h; exact ⟨o, ho, h⟩
theorem lst_ord (hS : S w) (h : Ord P f R k ops S tail r n e w) : Lst P (qo P f R k ops S tail r) ops [] n e w := by unfold Lst; exact ⟨hS, h⟩
theorem ord_end (h : Lst P (qk P f R k) ops tail n e w) : Ord P f R k ops S tail [] n e w := by unfold Lst at h; exact h
end
attribute [irreducible] Ord
end Go.Proofs.YtdiophafmokfiaaGreatDoor
namespace Go.Proofs.YtdiophafmokfiaaGreatDoor
open Go.RowKit
set_option linter.unusedSimpArgs false
set_option linter.unusedVariables false

def has : List Nat → Nat → Bool
  | [], _ => false
  | i :: r, j => Nat.beq i j || has r j
def keep (S : List Nat) : Env → Env
  | [] => []
  | (i, v) :: e => bif has S i then keep S e else (i, v) :: keep S e
def junkE (jv : Nat → Value) : List Nat → Env
  | [] => []
  | i :: r => (i, jv i) :: junkE jv r
theorem lk_keep {S : List Nat} {i : Nat} (h : has S i = false) : ∀ e : Env, lk (keep S e) i = lk e i
  | [] => rfl
  | (j, v) :: e => by
    unfold keep
    cases hj : has S j with
    | true =>
      have hne : Nat.beq j i = false := by
        cases hb : Nat.beq j i with
        | false => rfl
        | true => have := Nat.eq_of_beq_eq_true hb; subst this; rw [hj] at h; cases h
      simp only [cond_true, lk, hne, cond_false]
      exact lk_keep h e
    | false =>
      simp only [cond_false, lk]
      rw [lk_keep h e]
theorem lk_junk (jv : Nat → Value) (e : Env) (i : Nat) : ∀ J : List Nat, lk (junkE jv J ++ e) i = bif has J i then jv i else lk e i
  | [] => rfl
  | j :: J => by
    simp only [junkE, List.cons_append, lk, has]
    cases hb : Nat.beq j i with
    | true => have := Nat.eq_of_beq_eq_true hb; subst this; simp
    | false => simp only [cond_false, Bool.false_or]; exact lk_junk jv e i J
theorem act_congr {n : Nat} {e e' : Env} (h : ∀ i, lk e i = lk e' i) : act n e = act n e' := by
  unfold act arr
  rw [show lk e = lk e' from funext h]
/-- The frame at the loop's head, out of any frame that agrees with the first one outside S. -/
theorem act_round {n : Nat} {S : List Nat} {e e0 : Env} (h : keep S e = keep S e0) : act n e = act n (junkE (lk e) S ++ e0) := by
  refine act_congr fun i => ?_
  rw [lk_junk]
  cases hi : has S i with
  | true => rfl
  | false => rw [cond_false, ← lk_keep hi e, h, lk_keep hi e0]

section
variable {P : Program} {f : FuncId} {R : Ending → World → Prop} {k : List Item} {n : Nat} {e : Env} {w : World} {c : Code} {α : Type}
/-- A loop that tells of nothing but memory. -/
theorem goes_loop0 (J : List Nat) (I : α → World → Prop) (μ : α → Nat) (x : α) (h0 : I x w)
    (round : ∀ (x : α) (w : World) (jv : Nat → Value), I x w → (∀ (y : α) (e' : Env) (w' : World), μ y < μ x → I y w' → keep J e' = keep J e → Goes P f R (.inLoop c :: k) (act n e') w') →
      Goes P f R (.code c :: .inLoop c :: k) (act n (junkE jv J ++ e)) w) : Goes P f R (.code (.loop c) :: k) (act n e) w := by
  refine goes_loop (fun x a w => I x w ∧ ∃ jv, a = act n (junkE jv J ++ e)) μ ⟨h0, lk e, act_round rfl⟩ ?_
  rintro x a w ⟨hI, jv, rfl⟩ ih
  exact round x w jv hI fun y e' w' hy hI' hk => ih y _ w' hy ⟨hI', lk e', act_round hk⟩
theorem goes_loop1 (s : Nat) (J : List Nat) (I : α → Value → World → Prop) (μ : α → Nat) (x : α) {v : Value} (h0 : I x v w) (hv : lk e s = v)
    (round : ∀ (x : α) (v : Value) (w : World) (jv : Nat → Value), I x v w → (∀ (y : α) (v' : Value) (e' : Env) (w' : World), μ y < μ x → I y v' w' → lk e' s = v' → keep (s :: J) e' = keep (s :: J) e → Goes P f R (.inLoop c :: k) (act n e') w') →
      Goes P f R (.code c :: .inLoop c :: k) (act n ((s, v) :: (junkE jv J ++ e))) w) : Goes P f R (.code (.loop c) :: k) (act n e) w := by
  refine goes_loop (fun x a w => ∃ v, I x v w ∧ ∃ jv : Nat → Value, jv s = v ∧ a = act n (junkE jv (s :: J) ++ e)) μ ⟨v, h0, lk e, hv, act_round rfl⟩ ?_
  rintro x a w ⟨v, hI, jv, rfl, rfl⟩ ih
  exact round x _ w jv hI fun y v' e' w' hy hI' h1 hk => ih y _ w' hy ⟨v', hI', lk e', h1, act_round hk⟩
theorem goes_loop2 (s t : Nat) (J : List Nat) (I : α → Value → Value → World → Prop) (μ : α → Nat) (x : α) {v u : Value} (h0 : I x v u w) (hv : lk e s = v) (hu : lk e t = u)
    (round : ∀ (x : α) (v u : Value) (w : World) (jv : Nat → Value), I x v u w → (∀ (y : α) (v' u' : Value) (e' : Env) (w' : World), μ y < μ x → I y v' u' w' → lk e' s = v' → lk e' t = u' → keep (s :: t :: J) e' = keep (s :: t :: J) e → Goes P f R (.inLoop c :: k) (act n e') w') →
      Goes P f R (.code c :: .inLoop c :: k) (act n ((s, v) :: (t, u) :: (junkE jv J ++ e))) w) : Goes P f R (.code (.loop c) :: k) (act n e) w := by
  refine goes_loop (fun x a w => ∃ v u, I x v u w ∧ ∃ jv : Nat → Value, jv s = v ∧ jv t = u ∧ a = act n (junkE jv (s :: t :: J) ++ e)) μ ⟨v, u, h0, lk e, hv, hu, act_round rfl⟩ ?_
  rintro x a w ⟨v, u, hI, jv, rfl, rfl, rfl⟩ ih
  exact round x _ _ w jv hI fun y v' u' e' w' hy hI' h1 h2 hk => ih y _ w' hy ⟨v', u', hI', lk e', h1, h2, act_round hk⟩
theorem goes_loop3 (s t z : Nat) (J : List Nat) (I : α → Value → Value → Value → World → Prop) (μ : α → Nat) (x : α) {v u q : Value} (h0 : I x v u q w) (hv : lk e s = v) (hu : lk e t = u) (hq : lk e z = q)
    (round : ∀ (x : α) (v u q : Value) (w : World) (jv : Nat → Value), I x v u q w → (∀ (y : α) (v' u' q' : Value) (e' : Env) (w' : World), μ y < μ x → I y v' u' q' w' → lk e' s = v' → lk e' t = u' → lk e' z = q' → keep (s :: t :: z :: J) e' = keep (s :: t :: z :: J) e → Goes P f R (.inLoop c :: k) (act n e') w') →
      Goes P f R (.code c :: .inLoop c :: k) (act n ((s, v) :: (t, u) :: (z, q) :: (junkE jv J ++ e))) w) : Goes P f R (.code (.loop c) :: k) (act n e) w := by
  refine goes_loop (fun x a w => ∃ v u q, I x v u q w ∧ ∃ jv : Nat → Value, jv s = v ∧ jv t = u ∧ jv z = q ∧ a = act n (junkE jv (s :: t :: z :: J) ++ e)) μ ⟨v, u, q, h0, lk e, hv, hu, hq, act_round rfl⟩ ?_
  rintro x a w ⟨v, u, q, hI, jv, rfl, rfl, rfl, rfl⟩ ih
  exact round x _ _ _ w jv hI fun y v' u' q' e' w' hy hI' h1 h2 h3 hk => ih y _ w' hy ⟨v', u', q', hI', lk e', h1, h2, h3, act_round hk⟩
variable {M : List Nat} {w0 : World} {H : List (Nat × Obj)} {F : List (World → Prop)}
theorem goes_loopS0 (hS : St M w0 H F w) (J : List Nat) (I : α → Prop) (μ : α → Nat) (x : α)  (h0 : I x ) 
    (round : ∀ (x : α) (w : World) (jv : Nat → Value), I x  → St M w0 H F w → (∀ (y : α) (e' : Env) (w' : World), μ y < μ x → I y  → St M w0 H F w' → keep (J) e' = keep (J) e → Goes P f R (.inLoop c :: k) (act n e') w') →
      Goes P f R (.code c :: .inLoop c :: k) (act n ((junkE jv J ++ e))) w) : Goes P f R (.code (.loop c) :: k) (act n e) w := by
  refine goes_loop0  J (fun x  w => I x  ∧ St M w0 H F w) μ x ⟨h0, hS⟩  ?_
  rintro x  w jv ⟨hI, hS⟩ ih
  exact round x  w jv hI hS fun y  e' w' hy hI' hS' => ih y  e' w' hy ⟨hI', hS'⟩
theorem goes_loopS1 (hS : St M w0 H F w) (s : Nat) (J : List Nat) (I : α → Value → Prop) (μ : α → Nat) (x : α) {v : Value} (h0 : I x v) (hv0 : lk e s = v)
    (round : ∀ (x : α) (v : Value) (w : World) (jv : Nat → Value), I x v → St M w0 H F w → (∀ (y : α) (v' : Value) (e' : Env) (w' : World), μ y < μ x → I y v' → St M w0 H F w' → lk e' s = v' → keep (s :: J) e' = keep (s :: J) e → Goes P f R (.inLoop c :: k) (act n e') w') →
      Goes P f R (.code c :: .inLoop c :: k) (act n ((s, v) :: (junkE jv J ++ e))) w) : Goes P f R (.code (.loop c) :: k) (act n e) w := by
  refine goes_loop1 s J (fun x v w => I x v ∧ St M w0 H F w) μ x ⟨h0, hS⟩ hv0 ?_
  rintro x v w jv ⟨hI, hS⟩ ih
  exact round x v w jv hI hS fun y v' e' w' hy hI' hS' => ih y v' e' w' hy ⟨hI', hS'⟩
theorem goes_loopS2 (hS : St M w0 H F w) (s t : Nat) (J : List Nat) (I : α → Value → Value → Prop) (μ : α → Nat) (x : α) {v u : Value} (h0 : I x v u) (hv0 : lk e s = v) (hu0 : lk e t = u)
    (round : ∀ (x : α) (v u : Value) (w : World) (jv : Nat → Value), I x v u → St M w0 H F w → (∀ (y : α) (v' u' : Value) (e' : Env) (w' : World), μ y < μ x → I y v' u' → St M w0 H F w' → lk e' s = v' → lk e' t = u' → keep (s :: t :: J) e' = keep (s :: t :: J) e → Goes P f R (.inLoop c :: k) (act n e') w') →
      Goes P f R (.code c :: .inLoop c :: k) (act n ((s, v) :: (t, u) :: (junkE jv J ++ e))) w) : Goes P f R (.code (.loop c) :: k) (act n e) w := by
  refine goes_loop2 s t J (fun x v u w => I x v u ∧ St M w0 H F w) μ x ⟨h0, hS⟩ hv0 hu0 ?_
  rintro x v u w jv ⟨hI, hS⟩ ih
  exact round x v u w jv hI hS fun y v' u' e' w' hy hI' hS' => ih y v' u' e' w' hy ⟨hI', hS'⟩
theorem goes_loopS3 (hS : St M w0 H F w) (s t z : Nat) (J : List Nat) (I : α → Value → Value → Value → Prop) (μ : α → Nat) (x : α) {v u q : Value} (h0 : I x v u q) (hv0 : lk e s = v) (hu0 : lk e t = u) (hq0 : lk e z = q)
    (round : ∀ (x : α) (v u q : Value) (w : World) (jv : Nat → Value), I x v u q → St M w0 H F w → (∀ (y : α) (v' u' q' : Value) (e' : Env) (w' : World), μ y < μ x → I y v' u' q' → St M w0 H F w' → lk e' s = v' → lk e' t = u' → lk e' z = q' → keep (s :: t :: z :: J) e' = keep (s :: t :: z :: J) e → Goes P f R (.inLoop c :: k) (act n e') w') →
      Goes P f R (.code c :: .inLoop c :: k) (act n ((s, v) :: (t, u) :: (z, q) :: (junkE jv J ++ e))) w) : Goes P f R (.code (.loop c) :: k) (act n e) w := by
  refine goes_loop3 s t z J (fun x v u q w => I x v u q ∧ St M w0 H F w) μ x ⟨h0, hS⟩ hv0 hu0 hq0 ?_
  rintro x v u q w jv ⟨hI, hS⟩ ih
  exact round x v u q w jv hI hS fun y v' u' q' e' w' hy hI' hS' => ih y v' u' q' e' w' hy ⟨hI', hS'⟩
/-- The ways meet again behind one or two steps; the slots of J may hold whatever. -/
theorem goes_join {k todo : List Item} (J : List Nat) (Φ : World → Prop) (h : (∀ (e' : Env) (w' : World), Φ w' → keep J e' = keep J e → Goes P f R k (act n e') w') → Goes P f R todo (act n e) w)
    (h2 : ∀ (jv : Nat → Value) (w' : World), Φ w' → Goes P f R k (act n (junkE jv J ++ e)) w') : Goes P f R todo (act n e) w :=
  h fun e' w' hΦ hk => by rw [act_round hk]; exact h2 _ w' hΦ
theorem goes_join1 {M : List Nat} {w0 : World} {H : List (Nat × Obj)} {F : List (World → Prop)} {c1 : Item} (hS : St M w0 H F w) (J : List Nat)
    (h : (∀ (e' : Env) (w' : World), St M w0 H F w' → keep J e' = keep J e → Goes P f R k (act n e') w') → Goes P f R (c1 :: k) (act n e) w)
    (h2 : ∀ (jv : Nat → Value) (w' : World), St M w0 H F w' → Goes P f R k (act n (junkE jv J ++ e)) w') : Goes P f R (c1 :: k) (act n e) w := goes_join J _ h h2
theorem goes_join2 {M : List Nat} {w0 : World} {H : List (Nat × Obj)} {F : List (World → Prop)} {c1 c2 : Item} (hS : St M w0 H F w) (J : List Nat)
    (h : (∀ (e' : Env) (w' : World), St M w0 H F w' → keep J e' = keep J e → Goes P f R k (act n e') w') → Goes P f R (c1 :: c2 :: k) (act n e) w)
    (h2 : ∀ (jv : Nat → Value) (w' : World), St M w0 H F w' → Goes P f R k (act n (junkE jv J ++ e)) w') : Goes P f R (c1 :: c2 :: k) (act n e) w := goes_join J _ h h2
theorem goes_join3 {M : List Nat} {w0 : World} {H : List (Nat × Obj)} {F : List (World → Prop)} {c1 c2 c3 : Item} (hS : St M w0 H F w) (J : List Nat)
    (h : (∀ (e' : Env) (w' : World), St M w0 H F w' → keep J e' = keep J e → Goes P f R k (act n e') w') → Goes P f R (c1 :: c2 :: c3 :: k) (act n e) w)
    (h2 : ∀ (jv : Nat → Value) (w' : World), St M w0 H F w' → Goes P f R k (act n (junkE jv J ++ e)) w') : Goes P f R (c1 :: c2 :: c3 :: k) (act n e) w := goes_join J _ h h2
theorem goes_joinP1 {c1 : Item} (J : List Nat) (Φ : World → Prop)
    (h : (∀ (e' : Env) (w' : World), Φ w' → keep J e' = keep J e → Goes P f R k (act n e') w') → Goes P f R (c1 :: k) (act n e) w)
    (h2 : ∀ (jv : Nat → Value) (w' : World), Φ w' → Goes P f R k (act n (junkE jv J ++ e)) w') : Goes P f R (c1 :: k) (act n e) w := goes_join J _ h h2
theorem goes_joinP2 {c1 c2 : Item} (J : List Nat) (Φ : World → Prop)
    (h : (∀ (e' : Env) (w' : World), Φ w' → keep J e' = keep J e → Goes P f R k (act n e') w') → Goes P f R (c1 :: c2 :: k) (act n e) w)
    (h2 : ∀ (jv : Nat → Value) (w' : World), Φ w' → Goes P f R k (act n (junkE jv J ++ e)) w') : Goes P f R (c1 :: c2 :: k) (act n e) w := goes_join J _ h h2
end
end Go.Proofs.YtdiophafmokfiaaGreatDoor
namespace Go.Proofs.YtdiophafmokfiaaGreatDoor
open Go.RowKit
set_option linter.unusedSimpArgs false
set_option linter.unusedVariables false

abbrev Str := List UInt8
abbrev sv (l : Str) : Value := .string ⟨l.toArray⟩
theorem str_of (s : ByteArray) : ∃ l : Str, s = ⟨l.toArray⟩ := ⟨s.data.toList, by cases s; simp⟩
theorem toList_loop (l : Str) : ∀ (k i : Nat) (acc : List UInt8), k = l.length - i → ByteArray.toList.loop ⟨l.toArray⟩ i acc = acc.reverse ++ l.drop i := by
  intro k
  induction k with
  | zero =>
    intro i acc hk
    unfold ByteArray.toList.loop
    have : ¬ i < l.length := by omega
    simp only [ByteArray.size, List.size_toArray, this, if_false]
    rw [List.drop_eq_nil_of_le (by omega)]; simp
  | succ k ih =>
    intro i acc hk
    unfold ByteArray.toList.loop
    have hi : i < l.length := by omega
    simp only [ByteArray.size, List.size_toArray, hi, if_true]
    rw [ih (i + 1) _ (by omega)]
    rw [List.drop_eq_getElem_cons hi]
    simp [ByteArray.get!, hi]
theorem toList_mk (l : Str) : (⟨l.toArray⟩ : ByteArray).toList = l := by
  unfold ByteArray.toList
  rw [toList_loop l _ 0 [] rfl]; simp
theorem sv_inj {l m : Str} : sv l = sv m ↔ l = m := by
  constructor
  · intro h
    have h1 : (⟨l.toArray⟩ : ByteArray) = ⟨m.toArray⟩ := Value.string.inj h
    have := congrArg ByteArray.toList h1
    rwa [toList_mk, toList_mk] at this
  · rintro rfl; rfl
theorem size_mk (l : Str) : (⟨l.toArray⟩ : ByteArray).size = l.length := by simp [ByteArray.size]
theorem extract_mk (l : Str) (i j : Nat) : (⟨l.toArray⟩ : ByteArray).extract i j = ⟨((l.take j).drop i).toArray⟩ := by
  apply ByteArray.ext
  rw [ByteArray.data_extract]
  simp [List.drop_take]

section
variable {P : Program} {n : Nat} {e : Env} {w : World} {ty : TypeId} {pos : String} {after : Array Edge} {x y : Operand} {dst : Option Nat} {t t2 : TypeId} {l m : Str}
theorem run_len_str {ts : Array TypeId} (hx : ev n e x = sv l) (ht : ts[0]? = some t) (hT : isStringP P t = true) :
    (execOp (ev n e) ⟨dst, .call ⟨.builtin .len, #[x], ts⟩, ty, pos, after, none⟩).run P w = .ok (.value (.int .i64 (l.length : Nat))) w := by
  rw [run_len_string hx ht hT, size_mk]
theorem run_index_str {i : Int} {c : UInt8} (hx : ev n e x = sv l) (hy : ev n e y = .int .i64 i) (hT : isStringP P t = true) (h0 : 0 ≤ i) (h1 : l[i.toNat]? = some c) :
    (execOp (ev n e) ⟨dst, .index t x y, ty, pos, after, none⟩).run P w = .ok (.value (.int .u8 c.toNat)) w := by
  have hl : i.toNat < l.length := by
    rcases Nat.lt_or_ge i.toNat l.length with h | h
    · exact h
    · rw [List.getElem?_eq_none h] at h1; cases h1
  rw [run_index_string hx hy hT h0 (by rw [size_mk]; exact hl)]
  have : (⟨l.toArray⟩ : ByteArray)[i.toNat]'(by rw [size_mk]; exact hl) = c := by
    rw [List.getElem?_eq_getElem hl] at h1
    exact Option.some.inj h1
  rw [this]
theorem run_slice_from {i : Int} (hx : ev n e x = sv l) (hy : ev n e y = .int .i64 i) (hT : isStringP P t = true) (h0 : 0 ≤ i) (h1 : i.toNat ≤ l.length) :
    (execOp (ev n e) ⟨dst, .slice t x (some y) none none, ty, pos, after, none⟩).run P w = .ok (.value (sv (l.drop i.toNat))) w := by
  rw [run_slice_low hx hy hT h0 (by rw [size_mk]; omega), extract_mk, size_mk, List.take_length]
theorem run_slice_to {i : Int} (hx : ev n e x = sv l) (hy : ev n e y = .int .i64 i) (hT : isStringP P t = true) (h0 : 0 ≤ i) (h1 : i.toNat ≤ l.length) :
    (execOp (ev n e) ⟨dst, .slice t x none (some y) none, ty, pos, after, none⟩).run P w = .ok (.value (sv (l.take i.toNat))) w := by
  rw [run_slice_high hx hy hT h0 (by rw [size_mk]; omega), extract_mk, List.drop_zero]
theorem run_eql_str (hx : ev n e x = sv l) (hy : ev n e y = sv m) :
    (execOp (ev n e) ⟨dst, .binOp .eql t x y t2, ty, pos, after, none⟩).run P w = .ok (.value (.bool (l == m))) w := by
  have : (execOp (ev n e) ⟨dst, .binOp .eql t x y t2, ty, pos, after, none⟩).run P w = .ok (.value (.bool ((⟨l.toArray⟩ : ByteArray).toList == (⟨m.toArray⟩ : ByteArray).toList))) w := by
    simp only [execOp, hx, hy]; rfl
  rw [this, toList_mk, toList_mk]
theorem run_neq_str (hx : ev n e x = sv l) (hy : ev n e y = sv m) :
    (execOp (ev n e) ⟨dst, .binOp .neq t x y t2, ty, pos, after, none⟩).run P w = .ok (.value (.bool (l != m))) w := by
  have : (execOp (ev n e) ⟨dst, .binOp .neq t x y t2, ty, pos, after, none⟩).run P w = .ok (.value (.bool (!((⟨l.toArray⟩ : ByteArray).toList == (⟨m.toArray⟩ : ByteArray).toList)))) w := by
    simp only [execOp, hx, hy]; rfl
  rw [this, toList_mk, toList_mk]; rfl
theorem run_concat (hx : ev n e x = sv l) (hy : ev n e y = sv m) (hb : l.length + m.length ≤ 9223372036854775807) :
    (execOp (ev n e) ⟨dst, .binOp .add t x y t2, ty, pos, after, none⟩).run P w = .ok (.value (sv (l ++ m))) w := by
  have h1 : ¬ (((⟨l.toArray⟩ : ByteArray).size + (⟨m.toArray⟩ : ByteArray).size : Nat) : Int) > IntKind.i64.max := by
    rw [size_mk, size_mk]; simp [IntKind.max, IntKind.bits, IntKind.signed]; omega
  have h2 : (⟨l.toArray⟩ : ByteArray) ++ ⟨m.toArray⟩ = ⟨(l ++ m).toArray⟩ := by
    apply ByteArray.ext
    rw [ByteArray.data_append]
    simp
  simp only [execOp, hx, hy, eqGuard, binOp, Op.stringOp, bind, pure, Sem.bind, if_neg h1, h2]
  rfl
end
end Go.Proofs.YtdiophafmokfiaaGreatDoor
